/- What the program tells of a holding: KeysOf, HolderOf. -/
import Derived.Test.YtifffiekibdgnaaDoorIShowN
import Derived.Test.YtifffiekibdgnaaDoorIHold3
import Derived.Test.YtifffiekibdgnaaDoorIKeyOf
import Derived.ChangeKeysEq
namespace Go.Proofs.YtifffiekibdgnaaDoor
open Go.ChangeShapes Go.WideShapes Go.ChangeAt Go.RowKit

theorem Tryd.cellsI1 : Tryd.prog.cellsOf 2 = 1 := by kernel_rfl
theorem Tryd.plainI1 : Tryd.prog.plainKey 2 = true := by kernel_rfl
theorem idxK (f : Nat → Int) (j : Nat) (hj : j < 4) (w : World) : (Instr.index 39 (.agg #[.int .i64 (f 0), .int .i64 (f 1), .int .i64 (f 2), .int .i64 (f 3)]) (.int .i64 (j : Int))).run Tryd.prog w = .ok (.int .i64 (f j)) w := by
  obtain ⟨i0, hi, hz0, hz1, hz2⟩ := info_parts Tryd.infoI
  have h1 : (0 : Int) ≤ (j : Int) ∧ (j : Int) < ((4 : Nat) : Int) := by omega
  have h2 : ((j : Int)).toNat * 1 = j := by omega
  simp only [Instr.index, asIntOf, run_underlying Tryd.underlying39, Sem.run_bind, Sem.run_pure, Result.andThen_ok, h1, and_self, if_true, run_sizeOf w hi, Tryd.cellsI1, h2]
  exact run_part_plain w Tryd.plainI1 (kA_at f j hj)
theorem keys_first (ks : List Int) (tu x : Int) (j : Nat) (hj : j < ks.length) (hx : x = ks.getD j 0) (h0 : x = 0) (xs : List Int) (h : xs = tu :: (ks.take j).filter (fun k => decide (k ≠ 0))) : xs = tu :: (ks.take (j + 1)).filter (fun k => decide (k ≠ 0)) := by
  have e : ks[j] = 0 := by rw [← h0, hx]; simp [hj]
  rw [h, List.take_succ_eq_append_getElem hj, List.filter_append, e]
  simp
theorem keys_next (ks : List Int) (tu x : Int) (j : Nat) (hj : j < ks.length) (hx : x = ks.getD j 0) (h0 : ¬ x = 0) (xs : List Int) (h : xs = tu :: (ks.take j).filter (fun k => decide (k ≠ 0))) : xs ++ [x] = tu :: (ks.take (j + 1)).filter (fun k => decide (k ≠ 0)) := by
  have e : ks[j] = x := by rw [hx]; simp [hj]
  rw [h, List.take_succ_eq_append_getElem hj, List.filter_append, e]
  simp [h0]

set_option maxRecDepth 20000 in
set_option maxHeartbeats 2000000 in
theorem ikeysof_any (v : Value) (h : Hd) (w : World) (hr : Reads w v h.ks) (hl : h.ks.length ≤ 1099511627776) (ht : Tab w) :
    Calls Tryd.prog 10 #[HV v h] w fun e w' => e = .returned (S h.keysT) ∧ Below w.heap.size w w' := by
  obtain ⟨i0, hi, hz0, hz1, hz2⟩ := info_parts Tryd.infoI
  have b1 : Below w.heap.size w (w.alloc (.cells (hdA v h) 27)) := (Below.refl _ _).alloc (Nat.le_refl _) _
  have c1 := iheldof_any v h _ (hr.below b1 (Nat.le_refl _)) hl
  obtain ⟨ao, cap, rfl⟩ := reads_form hr
  obtain ⟨ok, hok⟩ : ∃ ok, ok = h.ok := ⟨_, rfl⟩
  obtain ⟨f, x, y, z, hf, hfo⟩ := heldV_form h
  have HE : Hid (h.keysT = if ok then intsB h.keysN else []) := by rw [Hid, hok]; rfl
  have HF : Hid (ok = true → f = KF h.ks ∧ z = h.tu ∧ h.ks.length = 4 ∧ Fits64 h.keysN) := fun e => by
    rw [hok] at e
    exact ⟨(hfo e).1, (hfo e).2.2.2, (Hd.ok_all e).1, Hd.ok_fitsK e⟩
  rw [← hok] at c1
  rw [hf] at c1
  have HT : Hid (Tab w) := ht
  clear hok hf hfo hr hl ht
  unfold HV hdA at *
  unfold S
  go_enter Tryd.func10, Tryd.ntmps10
  go_wp2_with fail
  refine c1.mono ?_
  rintro e w2 ⟨rfl, b2⟩
  have HB2 : Hid (Below w.heap.size w w2) := b1.trans (b2.mono b1.size)
  have z2 : Hid (StB (w2.alloc (.cells (heA (fun _ => 0) 0 0 0) 41)) w2.heap.size 41 (heA (fun _ => 0) 0 0 0)) := StB.new _ _ _
  clear c1 b1 b2
  cases ok with
  | false =>
    go_wp2_with (first | (refine wpList_putS Tryd.isHeld rfl _ _ rfl w2.heap.size (heA f x y z) _ rfl rfl rfl rfl (heA_one _ _ _ _) z2.out ?_; intro w3 h3 g3))
    go_ret
    rw [HE.out]
    exact ⟨rfl, HB2.out.trans (((Below.refl _ _).alloc (Nat.le_refl _) _ |>.grown g3 (by simp) (fun k e => by cases e; exact Nat.le_refl _)).mono HB2.out.size)⟩
  | true =>
    obtain ⟨hf, hz, hl, fk⟩ := HF.out rfl
    rw [if_pos rfl] at HE
    have HFF : Hid (f = KF h.ks) := hf
    have HL : Hid (h.ks.length = 4) := hl
    have FK : Hid (Fits64 h.keysN) := fk
    subst hz
    clear HF hf hl fk
    go_upto_region 4 with (first | (refine wpList_putS Tryd.isHeld rfl _ _ rfl w2.heap.size (heA f x y h.tu) _ rfl rfl rfl rfl (heA_one _ _ _ _) z2.out ?_; intro w3 h3 g3))
    have HB3 : Hid (Below w.heap.size w w3) := HB2.out.trans (((Below.refl _ _).alloc (Nat.le_refl _) _ |>.grown g3 (by simp) (fun k e => by cases e; exact Nat.le_refl _)).mono HB2.out.size)
    have H3 : Hid (StB w3 w2.heap.size 41 (heA f x y h.tu)) := h3
    obtain ⟨w4, hw4⟩ : ∃ w4, w4 = w3.alloc (.cells #[.int .i64 h.tu] 2) := ⟨_, rfl⟩
    have H4 : Hid (StB w4 w2.heap.size 41 (heA f x y h.tu)) := by rw [hw4]; exact h3.alloc _
    have O4 : Hid (Own w4 w3.heap.size (.slice (some ⟨w3.heap.size, 0, none⟩) 1 1) [h.tu]) := by rw [hw4]; exact own_one w3 h.tu
    have B4 : Hid (Below w3.heap.size w3 w4) := by rw [hw4]; exact (Below.refl _ _).alloc (Nat.le_refl _) _
    have m6 := (heA_cells h3).2.2.2.2.2.2
    clear h3 g3 z2
    go_upto_region 5 with fail
    rw [← hw4]
    clear hw4 m6
    obtain ⟨m0, m1, m2, m3, m4, m5, m6⟩ := heA_cells H4.out
    go_wp2_with fail
    clear m0 m1 m2 m3 m4 m5 m6
    go_loopw [5, 20] (fun o i wr => ∃ (xs : List Int) (ao : Option Addr) (oc j : Nat), o = .slice ao xs.length oc ∧ i = .int .i64 (j : Int) ∧ (j : Int) ≤ 4 ∧ (xs.length : Int) ≤ 5 ∧ Hid (Own wr w3.heap.size (.slice ao xs.length oc) xs ∧ Below w3.heap.size w3 wr ∧ xs = h.tu :: (h.ks.take j).filter (fun k => decide (k ≠ 0)))) (fun _ i _ => 4 - (intOf i).toNat)
    case atStart => exact ⟨[h.tu], _, _, 0, rfl, rfl, by omega, by simp, O4.out, B4.out, by simp⟩
    case round =>
      obtain ⟨xs, ao, oc, j, rfl, rfl, hj, hxl, HR⟩ := hrel
      by_cases hlt : (j : Int) < 4
      · have hj4 : Hid (j < h.ks.length) := by have := HL.out; rw [Hid]; omega
        have i5 := idxK f j (by omega) wr
        have HX : Hid (f j = h.ks.getD j 0) := by rw [Hid, HFF.out]; rfl
        have HLn := keysN_len HL.out (j + 1)
        obtain ⟨x, hx⟩ : ∃ x, x = f j := ⟨_, rfl⟩
        rw [← hx] at i5 HX
        clear hx
        by_cases x0 : x = 0
        · have xb : (x != 0) = false := by simpa using x0
          have HR2 : Hid (xs = h.tu :: (h.ks.take (j + 1)).filter (fun k => decide (k ≠ 0))) := keys_first _ _ x j hj4.out HX.out x0 _ HR.out.2.2
          clear x0
          go_wp2
          go_roundw
          case rel => exact ⟨xs, ao, oc, j + 1, rfl, by go_num, by omega, hxl, HR.out.1, HR.out.2.1, HR2.out⟩
          case measure => simp [intOf]; omega
        · have xb : (x != 0) = true := by simpa using x0
          have HR2 : Hid (xs ++ [x] = h.tu :: (h.ks.take (j + 1)).filter (fun k => decide (k ≠ 0))) := keys_next _ _ x j hj4.out HX.out x0 _ HR.out.2.2
          have hxl2 : (xs ++ [x]).length ≤ 5 := by rw [HR2.out]; exact HLn
          rw [List.length_append, List.length_singleton] at hxl2
          have hown := HR.out.1
          have hbs := HR.out.2.1.size
          unfold Own at hown
          clear x0 HLn
          go_wp2_with (at_builtin; refine wpList_append_own _ rfl _ _ 22 rfl w3.heap.size 2 i0 (.int .i64 0) 1 8 Tryd.underlying22 hi hz0 hz1 hz2 rfl (by decide) _ _ _ rfl (hown.alloc _) _ 1 1 [.int .i64 x] rfl rfl (litOne wr x) (by simp [Value.oneCell']) (by unfold maxLen; omega) (by omega) (by simp; omega) ?_)
          intro v' w5 hown' hgrow _
          have HO : Hid (Own w5 w3.heap.size v' (xs ++ [x]) ∧ Below w3.heap.size w3 w5) := appendOne HR.out.1 HR.out.2.1 hown' hgrow
          clear hown hown' hgrow HR
          obtain ⟨ao2, cap2, hev, -⟩ := HO.out.1.reads
          subst hev
          go_wp2
          go_roundw
          case rel => exact ⟨xs ++ [x], ao2, cap2, j + 1, rfl, by go_num, by omega, by simp; omega, HO.out.1, HO.out.2, HR2.out⟩
          case measure => simp [intOf]; omega
      · have HK : Hid (xs = h.keysN) := by
          have := HR.out.2.2
          rw [List.take_of_length_le (by have := HL.out; omega)] at this
          exact this
        have hx0 : 0 < xs.length := by rw [HK.out]; simp [Hd.keysN]
        have B5 : Hid (Below w.heap.size w wr) := HB3.out.trans (HR.out.2.1.mono HB3.out.size)
        have c2 := ishowN_any (.slice ao xs.length oc) xs wr HR.out.1.reads hx0 (by omega) (by rw [HK.out]; exact FK.out) (HT.out.below B5.out)
        unfold S at c2
        go_wp2_with fail
        refine c2.mono ?_
        rintro e w6 ⟨rfl, b6⟩
        clear c2
        go_wp2
        go_ret
        rw [HE.out, ← HK.out]
        exact ⟨rfl, B5.out.trans (b6.mono B5.out.size)⟩
end Go.Proofs.YtifffiekibdgnaaDoor
