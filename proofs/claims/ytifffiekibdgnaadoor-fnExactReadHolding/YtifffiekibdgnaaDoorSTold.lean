/- What the model tells of a holding: l10Keys, l10Holder, l10Show, KeysOf, HolderOf, ShowHolding. -/
import Derived.Test.YtifffiekibdgnaaDoorTold
import Derived.Test.YtifffiekibdgnaaDoorSInts
import Derived.Test.YtifffiekibdgnaaDoorSHold
import Derived.Test.YtifffiekibdgnaaDoorLHold
import Derived.Deep.RegionHeld3
import Derived.Deep.DeepCutAuto
namespace Go.Proofs.YtifffiekibdgnaaDoor
open Go.ChangeShapes Go.WideShapes Go.ChangeAt Go.RowKit

theorem litOne (w : World) (x : Int) : ∀ j u, ([Value.int .i64 x])[j]? = some u → (w.alloc (.cells #[.int .i64 x] 2)).cell? ((⟨w.heap.size, 0, none⟩ : Addr).add j) = some u := by
  intro j u hj
  match j, hj with
  | 0, hj => simp at hj; subst hj; simp [Addr.add]
theorem appendOne {w wr w' : World} {o v' : Value} {out : List Int} {x : Int} {ob : Obj} (hO : Own wr w.heap.size o out) (hB : Below w.heap.size w wr)
    (hown : w'.ownsRow w.heap.size 2 1 v' (out.length + 1) (out.map (Value.int .i64) ++ [.int .i64 x])) (hg : (wr.alloc ob).grownBy w' o.ownBlock) : Own w' w.heap.size v' (out ++ [x]) ∧ Below w.heap.size w w' := by
  refine ⟨?_, (hB.alloc hB.size ob).grown hg (by simp; have := hB.size; omega) (fun k e => (hO.lt k e).1)⟩
  unfold Own
  rw [List.map_append]
  simpa using hown
theorem own_one (w : World) (x : Int) : Own (w.alloc (.cells #[.int .i64 x] 2)) w.heap.size (.slice (some ⟨w.heap.size, 0, none⟩) 1 1) [x] := by
  have := World.ownsRow_lit (base := w.heap.size) (e := 2) (size := 1) w #[.int .i64 x] 1 (Nat.le_refl _) (by unfold maxLen; omega) rfl
  simpa [Own] using this
theorem own_three (w : World) (x y z : Int) : Own (w.alloc (.cells #[.int .i64 x, .int .i64 y, .int .i64 z] 2)) w.heap.size (.slice (some ⟨w.heap.size, 0, none⟩) 3 3) [x, y, z] := by
  have := World.ownsRow_lit (base := w.heap.size) (e := 2) (size := 1) w #[.int .i64 x, .int .i64 y, .int .i64 z] 3 (Nat.le_refl _) (by unfold maxLen; omega) rfl
  simpa [Own] using this
theorem Hd.ok_fits {h : Hd} (e : h.ok = true) : Fits64 h.showN := by
  intro x hx
  have := Hd.ok_nums e x hx
  omega
theorem Hd.ok_fitsK {h : Hd} (e : h.ok = true) : Fits64 h.keysN := by
  have hf := Hd.ok_fits e
  intro x hx
  unfold Hd.keysN at hx
  rcases List.mem_cons.1 hx with rfl | hx
  · exact hf h.tu (by simp [Hd.showN])
  · exact hf x (by have := (List.mem_filter.1 hx).1; simp [Hd.showN, this])
theorem Hd.ok_fitsH {h : Hd} (e : h.ok = true) : Fits64 h.holdN := by
  have hf := Hd.ok_fits e
  intro x hx
  unfold Hd.holdN at hx
  simp only [List.mem_cons, List.mem_nil_iff, or_false] at hx
  rcases hx with rfl | rfl | rfl
  · exact hf h.tu (by simp [Hd.showN])
  · exact hf h.kd (by simp [Hd.showN])
  · split
    · rw [List.getD_eq_getElem?_getD]
      cases hg : h.ks[h.ho.toNat]? with
      | none => simp
      | some y => exact hf y (by have := List.mem_of_getElem? hg; simp [Hd.showN, this])
    · omega
theorem keysN_len {h : Hd} (hl : h.ks.length = 4) (j : Nat) : (h.tu :: (h.ks.take j).filter (fun k => decide (k ≠ 0))).length ≤ 5 := by
  have := List.length_filter_le (fun k => decide (k ≠ 0)) (h.ks.take j)
  simp at this ⊢
  omega

set_option maxRecDepth 20000 in
set_option maxHeartbeats 2000000 in
theorem s10keys_any (v : Value) (h : Hd) (w : World) (hr : Reads w v h.ks) (ok : h.ok = true) :
    Calls Tryd.prog 22 #[HV v h] w fun e w' => e = .returned (S (intsB h.keysN)) ∧ Below w.heap.size w w' := by
  obtain ⟨i0, hi, hz0, hz1, hz2⟩ := info_parts Tryd.infoI
  obtain ⟨hl, -, -, -⟩ := Hd.ok_all ok
  have FK : Hid (Fits64 h.keysN) := Hd.ok_fitsK ok
  obtain ⟨w1, hw1⟩ : ∃ w1, w1 = w.alloc (.cells (hdA v h) 27) := ⟨_, rfl⟩
  have B1 : Hid (Below w.heap.size w w1) := by rw [hw1]; exact (Below.refl _ _).alloc (Nat.le_refl _) _
  have P1 : Hid (StB w1 w.heap.size 27 (hdA v h)) := by rw [hw1]; exact StB.new _ _ _
  have R1 : Hid (Reads w1 v h.ks) := hr.below B1.out (Nat.le_refl _)
  obtain ⟨ao0, cap0, rfl⟩ := reads_form hr
  rw [hl] at hw1 P1 R1 ⊢
  have HL : Hid (h.ks.length = 4) := hl
  have k3 : w1.cell? ⟨w.heap.size, 3, none⟩ = some (.int .i64 h.tu) := P1.out.cell 3 rfl
  have ks1 : w.heap.size < w1.heap.size := P1.out.lt
  clear hr hl ok
  unfold HV S
  unfold hdA at hw1 ⊢
  go_enter Tryd.func22, Tryd.ntmps22
  go_upto_region 1 with fail
  rw [← hw1]
  clear hw1
  go_wp2_with fail
  clear k3
  go_loopw [3, 4] (fun o i wr => ∃ (xs : List Int) (ao : Option Addr) (oc j : Nat), o = .slice ao xs.length oc ∧ i = .int .i64 (j : Int) ∧ (j : Int) ≤ 4 ∧ (xs.length : Int) ≤ 5 ∧ Hid (Own wr w1.heap.size (.slice ao xs.length oc) xs ∧ Below w1.heap.size w1 wr ∧ xs = h.tu :: (h.ks.take j).filter (fun k => decide (k ≠ 0)))) (fun _ i _ => 4 - (intOf i).toNat)
  case atStart => exact ⟨[h.tu], _, _, 0, rfl, rfl, by omega, by simp, own_one w1 h.tu, (Below.refl _ _).alloc (Nat.le_refl _) _, by simp⟩
  case round =>
    obtain ⟨xs, ao, oc, j, rfl, rfl, hj, hxl, HR⟩ := hrel
    have P2 : Hid (StB wr w.heap.size 27 (hdA (.slice ao0 4 cap0) h)) := P1.out.below HR.out.2.1
    have k0 : wr.cell? ⟨w.heap.size, 0, none⟩ = some (.slice ao0 4 cap0) := P2.out.cell 0 rfl
    by_cases hlt : (j : Int) < 4
    · have hj4 : j < h.ks.length := by have := HL.out; omega
      obtain ⟨-, -, -, hcell'⟩ := reads_cells (R1.out.below HR.out.2.1 (Nat.le_refl _))
      obtain ⟨b, off, rfl, hcell⟩ := hcell' j (by omega)
      have HT : Hid (h.ks.take (j + 1) = h.ks.take j ++ [h.ks.getD j 0]) := by
        rw [Hid, List.take_succ_eq_append_getElem hj4]
        simp [hj4]
      have HLn := keysN_len HL.out (j + 1)
      obtain ⟨x, hx⟩ : ∃ x, x = h.ks.getD j 0 := ⟨_, rfl⟩
      rw [← hx] at hcell HT
      clear hx hcell'
      by_cases x0 : x = 0
      · have xb : (x != 0) = false := by simpa using x0
        have HR2 : Hid (xs = h.tu :: (h.ks.take (j + 1)).filter (fun k => decide (k ≠ 0))) := by
          rw [Hid, HT.out, List.filter_append]
          simp only [x0, List.filter_cons, List.filter_nil, ne_eq, not_true_eq_false, decide_false, Bool.false_eq_true, if_false, List.append_nil]
          exact HR.out.2.2
        clear x0
        go_wp2
        go_roundw
        case rel => exact ⟨xs, ao, oc, j + 1, rfl, by go_num, by omega, hxl, HR.out.1, HR.out.2.1, HR2.out⟩
        case measure => simp [intOf]; omega
      · have xb : (x != 0) = true := by simpa using x0
        have HR2 : Hid (xs ++ [x] = h.tu :: (h.ks.take (j + 1)).filter (fun k => decide (k ≠ 0))) := by
          rw [Hid, HT.out, List.filter_append]
          simp only [x0, List.filter_cons, List.filter_nil, ne_eq, not_false_eq_true, decide_true, if_true]
          rw [← List.cons_append]
          exact congrArg (· ++ [x]) HR.out.2.2
        have hxl2 : (xs ++ [x]).length ≤ 5 := by rw [HR2.out]; exact HLn
        rw [List.length_append, List.length_singleton] at hxl2
        have hown := HR.out.1
        have hbs := HR.out.2.1.size
        unfold Own at hown
        clear x0 HLn
        go_wp2_with (at_builtin; refine wpList_append_own _ rfl _ _ 22 rfl w1.heap.size 2 i0 (.int .i64 0) 1 8 Tryd.underlying22 hi hz0 hz1 hz2 rfl (by decide) _ _ _ rfl (hown.alloc _) _ 1 1 [.int .i64 x] rfl rfl (litOne wr x) (by simp [Value.oneCell']) (by unfold maxLen; omega) (by omega) (by simp; omega) ?_)
        intro v' w2 hown' hgrow _
        have HO : Hid (Own w2 w1.heap.size v' (xs ++ [x]) ∧ Below w1.heap.size w1 w2) := appendOne HR.out.1 HR.out.2.1 hown' hgrow
        clear hown hown' hgrow HR
        obtain ⟨ao2, cap2, hev, -⟩ := HO.out.1.reads
        subst hev
        go_wp2
        go_roundw
        case rel => exact ⟨xs ++ [x], ao2, cap2, j + 1, rfl, by go_num, by omega, by simp; omega, HO.out.1, HO.out.2, HR2.out⟩
        case measure => simp [intOf]; omega
    · have HK : Hid (xs = h.keysN) := by
        have := HR.out.2.2
        rw [List.take_of_length_le (by have := HL.out; omega)] at this
        exact this
      have c1 := sintsR_any (.slice ao xs.length oc) xs wr (by omega) (by rw [HK.out]; exact FK.out) HR.out.1.reads
      rw [HK.out] at c1
      rw [← HK.out] at c1
      go_wp2_with fail
      refine c1.mono ?_
      rintro e w2 ⟨rfl, b2⟩
      clear c1
      go_wp2
      go_ret
      refine ⟨?_, (B1.out.trans (HR.out.2.1.mono B1.out.size)).trans (b2.mono ?_)⟩
      · rw [HK.out]; rfl
      · have := HR.out.2.1.size; omega
end Go.Proofs.YtifffiekibdgnaaDoor
