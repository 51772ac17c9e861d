/- The key of one, as the program asks it of its row: keyOf. -/
import Derived.Test.YtifffiekibdgnaaGreatDoorIKeyss
import Derived.Test.YtifffiekibdgnaaGreatDoorIParses
import Derived.Test.YtifffiekibdgnaaGreatDoorIHolds
import Derived.ChangeKeysEq
namespace Go.Proofs.YtifffiekibdgnaaGreatDoor
open Go.ChangeShapes Go.WideShapes Go.ChangeAt Go.RowKit

def keyF (f : Nat → Int) (i : Int) : Int := if inI i 0 3 then f i.toNat else 0
set_option maxRecDepth 20000 in
set_option maxHeartbeats 400000 in
theorem ikeyof_any (f : Nat → Int) (i : Int) (w : World) :
    Calls Tryz.prog 35 #[.agg (kA f), .int .i64 i] w fun e w' => e = .returned (.int .i64 (keyF f i)) ∧ Below w.heap.size w w' := by
  have b1 : Below w.heap.size w (w.alloc (.cells (kA f) 36)) := (Below.refl _ _).alloc (Nat.le_refl _) _
  have H1 : StB (w.alloc (.cells (kA f) 36)) w.heap.size 36 (kA f) := StB.new _ _ _
  have c1 := fun wx => iperson_any i wx
  by_cases h : 0 ≤ i ∧ i < 4
  · have hin : inI i 0 3 = true := by simp [inI]; omega
    have HK : Hid (keyF f i = f i.toNat) := by simp [Hid, keyF, hin]
    simp only [hin] at c1
    obtain ⟨j, hj, hj4⟩ : ∃ j : Nat, i = (j : Int) ∧ j < 4 := ⟨i.toNat, by omega, by omega⟩
    subst hj
    obtain ⟨y, hy⟩ : ∃ y, y = f j := ⟨_, rfl⟩
    have hc : (w.alloc (.cells (kA f) 36)).cell? ⟨w.heap.size, j, none⟩ = some (.int .i64 y) := by
      rw [hy]; exact H1.cell j (kA_at f j hj4)
    have HY : Hid (y = keyF f j) := by rw [Hid, HK.out, hy]; rfl
    rw [← HY.out]
    have hl : (j : Int) < 4 := by omega
    clear hin hy h H1
    unfold kA at *
    go_enter Tryz.func35, Tryz.ntmps35
    go_wp2_with (first | (go_at_call 55; refine (c1 _).mono ?_; rintro e w' ⟨rfl, hw⟩; subst w'))
    go_ret
    exact ⟨rfl, b1⟩
  · have hin : inI i 0 3 = false := by simp [inI]; omega
    have HK : keyF f i = 0 := by simp [keyF, hin]
    rw [HK]
    simp only [hin] at c1
    clear h hin H1 HK
    unfold kA at *
    go_enter Tryz.func35, Tryz.ntmps35
    go_wp2_with (first | (go_at_call 55; refine (c1 _).mono ?_; rintro e w' ⟨rfl, hw⟩; subst w'))
    go_ret
    exact ⟨rfl, b1⟩
end Go.Proofs.YtifffiekibdgnaaGreatDoor
/- What the program tells of a holding: KeysOf, HolderOf. -/
namespace Go.Proofs.YtifffiekibdgnaaGreatDoor
open Go.ChangeShapes Go.WideShapes Go.ChangeAt Go.RowKit

theorem Tryz.cellsI1 : Tryz.prog.cellsOf 2 = 1 := by kernel_rfl
theorem Tryz.plainI1 : Tryz.prog.plainKey 2 = true := by kernel_rfl
theorem idxK (f : Nat → Int) (j : Nat) (hj : j < 4) (w : World) : (Instr.index 36 (.agg #[.int .i64 (f 0), .int .i64 (f 1), .int .i64 (f 2), .int .i64 (f 3)]) (.int .i64 (j : Int))).run Tryz.prog w = .ok (.int .i64 (f j)) w := by
  obtain ⟨i0, hi, hz0, hz1, hz2⟩ := info_parts Tryz.infoI
  have h1 : (0 : Int) ≤ (j : Int) ∧ (j : Int) < ((4 : Nat) : Int) := by omega
  have h2 : ((j : Int)).toNat * 1 = j := by omega
  simp only [Instr.index, asIntOf, run_underlying Tryz.underlying36, Sem.run_bind, Sem.run_pure, Result.andThen_ok, h1, and_self, if_true, run_sizeOf w hi, Tryz.cellsI1, h2]
  exact run_part_plain w Tryz.plainI1 (kA_at f j hj)
theorem keys_first (ks : List Int) (tu x : Int) (j : Nat) (hj : j < ks.length) (hx : x = ks.getD j 0) (h0 : x = 0) (xs : List Int) (h : xs = tu :: (ks.take j).filter (fun k => decide (k ≠ 0))) : xs = tu :: (ks.take (j + 1)).filter (fun k => decide (k ≠ 0)) := by
  have e : ks[j] = 0 := by rw [← h0, hx]; simp [hj]
  rw [h, List.take_succ_eq_append_getElem hj, List.filter_append, e]
  simp
theorem keys_next (ks : List Int) (tu x : Int) (j : Nat) (hj : j < ks.length) (hx : x = ks.getD j 0) (h0 : ¬ x = 0) (xs : List Int) (h : xs = tu :: (ks.take j).filter (fun k => decide (k ≠ 0))) : xs ++ [x] = tu :: (ks.take (j + 1)).filter (fun k => decide (k ≠ 0)) := by
  have e : ks[j] = x := by rw [hx]; simp [hj]
  rw [h, List.take_succ_eq_append_getElem hj, List.filter_append, e]
  simp [h0]

set_option maxRecDepth 20000 in
set_option maxHeartbeats 2000000 in
theorem ikeysof_any (v : Value) (h : Hd) (w : World) (hr : Reads w v h.ks) (hl : h.ks.length ≤ 1099511627776) (ht : Tab w) :
    Calls Tryz.prog 12 #[HV v h] w fun e w' => e = .returned (S h.keysT) ∧ Below w.heap.size w w' := by
  obtain ⟨i0, hi, hz0, hz1, hz2⟩ := info_parts Tryz.infoI
  have b1 : Below w.heap.size w (w.alloc (.cells (hdA v h) 26)) := (Below.refl _ _).alloc (Nat.le_refl _) _
  have c1 := iheldof_any v h _ (hr.below b1 (Nat.le_refl _)) hl
  obtain ⟨ao, cap, rfl⟩ := reads_form hr
  obtain ⟨ok, hok⟩ : ∃ ok, ok = h.ok := ⟨_, rfl⟩
  obtain ⟨f, x, y, z, hf, hfo⟩ := heldV_form h
  have HE : Hid (h.keysT = if ok then intsB h.keysN else []) := by rw [Hid, hok]; rfl
  have HF : Hid (ok = true → f = KF h.ks ∧ z = h.tu ∧ h.ks.length = 4 ∧ Fits64 h.keysN) := fun e => by
    rw [hok] at e
    exact ⟨(hfo e).1, (hfo e).2.2.2, (Hd.ok_all e).1, Hd.ok_fitsK e⟩
  rw [← hok] at c1
  rw [hf] at c1
  have HT : Hid (Tab w) := ht
  clear hok hf hfo hr hl ht
  unfold HV hdA at *
  unfold S
  go_enter Tryz.func12, Tryz.ntmps12
  go_wp2_with fail
  refine c1.mono ?_
  rintro e w2 ⟨rfl, b2⟩
  have HB2 : Hid (Below w.heap.size w w2) := b1.trans (b2.mono b1.size)
  have z2 : Hid (StB (w2.alloc (.cells (heA (fun _ => 0) 0 0 0) 38)) w2.heap.size 38 (heA (fun _ => 0) 0 0 0)) := StB.new _ _ _
  clear c1 b1 b2
  cases ok with
  | false =>
    go_wp2_with (first | (refine wpList_putS Tryz.isHeld rfl _ _ rfl w2.heap.size (heA f x y z) _ rfl rfl rfl rfl (heA_one _ _ _ _) z2.out ?_; intro w3 h3 g3))
    go_ret
    rw [HE.out]
    exact ⟨rfl, HB2.out.trans (((Below.refl _ _).alloc (Nat.le_refl _) _ |>.grown g3 (by simp) (fun k e => by cases e; exact Nat.le_refl _)).mono HB2.out.size)⟩
  | true =>
    obtain ⟨hf, hz, hl, fk⟩ := HF.out rfl
    rw [if_pos rfl] at HE
    have HFF : Hid (f = KF h.ks) := hf
    have HL : Hid (h.ks.length = 4) := hl
    have FK : Hid (Fits64 h.keysN) := fk
    subst hz
    clear HF hf hl fk
    go_upto_region 4 with (first | (refine wpList_putS Tryz.isHeld rfl _ _ rfl w2.heap.size (heA f x y h.tu) _ rfl rfl rfl rfl (heA_one _ _ _ _) z2.out ?_; intro w3 h3 g3))
    have HB3 : Hid (Below w.heap.size w w3) := HB2.out.trans (((Below.refl _ _).alloc (Nat.le_refl _) _ |>.grown g3 (by simp) (fun k e => by cases e; exact Nat.le_refl _)).mono HB2.out.size)
    have H3 : Hid (StB w3 w2.heap.size 38 (heA f x y h.tu)) := h3
    obtain ⟨w4, hw4⟩ : ∃ w4, w4 = w3.alloc (.cells #[.int .i64 h.tu] 2) := ⟨_, rfl⟩
    have H4 : Hid (StB w4 w2.heap.size 38 (heA f x y h.tu)) := by rw [hw4]; exact h3.alloc _
    have O4 : Hid (Own w4 w3.heap.size (.slice (some ⟨w3.heap.size, 0, none⟩) 1 1) [h.tu]) := by rw [hw4]; exact own_one w3 h.tu
    have B4 : Hid (Below w3.heap.size w3 w4) := by rw [hw4]; exact (Below.refl _ _).alloc (Nat.le_refl _) _
    have m6 := (heA_cells h3).2.2.2.2.2.2
    clear h3 g3 z2
    go_upto_region 5 with fail
    rw [← hw4]
    clear hw4 m6
    obtain ⟨m0, m1, m2, m3, m4, m5, m6⟩ := heA_cells H4.out
    go_wp2_with fail
    clear m0 m1 m2 m3 m4 m5 m6
    go_loopw [5, 20] (fun o i wr => ∃ (xs : List Int) (ao : Option Addr) (oc j : Nat), o = .slice ao xs.length oc ∧ i = .int .i64 (j : Int) ∧ (j : Int) ≤ 4 ∧ (xs.length : Int) ≤ 5 ∧ Hid (Own wr w3.heap.size (.slice ao xs.length oc) xs ∧ Below w3.heap.size w3 wr ∧ xs = h.tu :: (h.ks.take j).filter (fun k => decide (k ≠ 0)))) (fun _ i _ => 4 - (intOf i).toNat)
    case atStart => exact ⟨[h.tu], _, _, 0, rfl, rfl, by omega, by simp, O4.out, B4.out, by simp⟩
    case round =>
      obtain ⟨xs, ao, oc, j, rfl, rfl, hj, hxl, HR⟩ := hrel
      by_cases hlt : (j : Int) < 4
      · have hj4 : Hid (j < h.ks.length) := by have := HL.out; rw [Hid]; omega
        have i5 := idxK f j (by omega) wr
        have HX : Hid (f j = h.ks.getD j 0) := by rw [Hid, HFF.out]; rfl
        have HLn := keysN_len HL.out (j + 1)
        obtain ⟨x, hx⟩ : ∃ x, x = f j := ⟨_, rfl⟩
        rw [← hx] at i5 HX
        clear hx
        by_cases x0 : x = 0
        · have xb : (x != 0) = false := by simpa using x0
          have HR2 : Hid (xs = h.tu :: (h.ks.take (j + 1)).filter (fun k => decide (k ≠ 0))) := keys_first _ _ x j hj4.out HX.out x0 _ HR.out.2.2
          clear x0
          go_wp2
          go_roundw
          case rel => exact ⟨xs, ao, oc, j + 1, rfl, by go_num, by omega, hxl, HR.out.1, HR.out.2.1, HR2.out⟩
          case measure => simp [intOf]; omega
        · have xb : (x != 0) = true := by simpa using x0
          have HR2 : Hid (xs ++ [x] = h.tu :: (h.ks.take (j + 1)).filter (fun k => decide (k ≠ 0))) := keys_next _ _ x j hj4.out HX.out x0 _ HR.out.2.2
          have hxl2 : (xs ++ [x]).length ≤ 5 := by rw [HR2.out]; exact HLn
          rw [List.length_append, List.length_singleton] at hxl2
          have hown := HR.out.1
          have hbs := HR.out.2.1.size
          unfold Own at hown
          clear x0 HLn
          go_wp2_with (at_builtin; refine wpList_append_own _ rfl _ _ 24 rfl w3.heap.size 2 i0 (.int .i64 0) 1 8 Tryz.underlying24 hi hz0 hz1 hz2 rfl (by decide) _ _ _ rfl (hown.alloc _) _ 1 1 [.int .i64 x] rfl rfl (litOne wr x) (by simp [Value.oneCell']) (by unfold maxLen; omega) (by omega) (by simp; omega) ?_)
          intro v' w5 hown' hgrow _
          have HO : Hid (Own w5 w3.heap.size v' (xs ++ [x]) ∧ Below w3.heap.size w3 w5) := appendOne HR.out.1 HR.out.2.1 hown' hgrow
          clear hown hown' hgrow HR
          obtain ⟨ao2, cap2, hev, -⟩ := HO.out.1.reads
          subst hev
          go_wp2
          go_roundw
          case rel => exact ⟨xs ++ [x], ao2, cap2, j + 1, rfl, by go_num, by omega, by simp; omega, HO.out.1, HO.out.2, HR2.out⟩
          case measure => simp [intOf]; omega
      · have HK : Hid (xs = h.keysN) := by
          have := HR.out.2.2
          rw [List.take_of_length_le (by have := HL.out; omega)] at this
          exact this
        have hx0 : 0 < xs.length := by rw [HK.out]; simp [Hd.keysN]
        have B5 : Hid (Below w.heap.size w wr) := HB3.out.trans (HR.out.2.1.mono HB3.out.size)
        have c2 := ishowN_any (.slice ao xs.length oc) xs wr HR.out.1.reads hx0 (by omega) (by rw [HK.out]; exact FK.out) (HT.out.below B5.out)
        unfold S at c2
        go_wp2_with fail
        refine c2.mono ?_
        rintro e w6 ⟨rfl, b6⟩
        clear c2
        go_wp2
        go_ret
        rw [HE.out, ← HK.out]
        exact ⟨rfl, B5.out.trans (b6.mono B5.out.size)⟩
end Go.Proofs.YtifffiekibdgnaaGreatDoor
/- What the program tells of a holding, on: HolderOf. -/
namespace Go.Proofs.YtifffiekibdgnaaGreatDoor
open Go.ChangeShapes Go.WideShapes Go.ChangeAt Go.RowKit

theorem hold_key {h : Hd} (ok : h.ok = true) : h.holdN = [h.tu, h.kd, keyF (KF h.ks) h.ho] := by
  obtain ⟨hl, -, -, hm⟩ := Hd.ok_all ok
  have hho : h.ho < 4 := by
    unfold Hd.mid at hm
    split at hm
    · have : h.ho = -1 := by simpa using hm
      omega
    · split at hm
      · simp only [Bool.and_eq_true, decide_eq_true_eq] at hm; omega
      · simp only [Bool.and_eq_true] at hm
        have := (inI_iff _ _ _).1 hm.1.2
        omega
  unfold Hd.holdN keyF
  by_cases h0 : 0 ≤ h.ho
  · rw [if_pos h0, if_pos ((inI_iff _ _ _).2 (by omega))]; rfl
  · rw [if_neg h0, if_neg (by rw [inI_iff]; omega)]

set_option maxRecDepth 20000 in
set_option maxHeartbeats 2000000 in
theorem iholderof_any (v : Value) (h : Hd) (w : World) (hr : Reads w v h.ks) (hl : h.ks.length ≤ 1099511627776) (ht : Tab w) :
    Calls Tryz.prog 14 #[HV v h] w fun e w' => e = .returned (S h.holdT) ∧ Below w.heap.size w w' := by
  have b1 : Below w.heap.size w (w.alloc (.cells (hdA v h) 26)) := (Below.refl _ _).alloc (Nat.le_refl _) _
  have c1 := iheldof_any v h _ (hr.below b1 (Nat.le_refl _)) hl
  obtain ⟨ao, cap, rfl⟩ := reads_form hr
  obtain ⟨ok, hok⟩ : ∃ ok, ok = h.ok := ⟨_, rfl⟩
  obtain ⟨f, x, y, z, hf, hfo⟩ := heldV_form h
  have HE : Hid (h.holdT = if ok then intsB h.holdN else []) := by rw [Hid, hok]; rfl
  have HF : Hid (ok = true → Fits64 [z, x, keyF f y] ∧ h.holdN = [z, x, keyF f y]) := fun e => by
    rw [hok] at e
    obtain ⟨rfl, rfl, rfl, rfl⟩ := hfo e
    have h1 := hold_key e
    have h2 := Hd.ok_fitsH e
    rw [h1] at h2
    exact ⟨h2, h1⟩
  rw [← hok] at c1
  rw [hf] at c1
  have HT : Hid (Tab w) := ht
  clear hok hf hfo hr hl ht
  unfold HV hdA at *
  unfold S
  go_enter Tryz.func14, Tryz.ntmps14
  go_wp2_with fail
  refine c1.mono ?_
  rintro e w2 ⟨rfl, b2⟩
  have HB2 : Hid (Below w.heap.size w w2) := b1.trans (b2.mono b1.size)
  have z2 : Hid (StB (w2.alloc (.cells (heA (fun _ => 0) 0 0 0) 38)) w2.heap.size 38 (heA (fun _ => 0) 0 0 0)) := StB.new _ _ _
  clear c1 b1 b2
  cases ok with
  | false =>
    go_wp2_with (first | (refine wpList_putS Tryz.isHeld rfl _ _ rfl w2.heap.size (heA f x y z) _ rfl rfl rfl rfl (heA_one _ _ _ _) z2.out ?_; intro w3 h3 g3))
    go_ret
    rw [HE.out]
    exact ⟨rfl, HB2.out.trans (((Below.refl _ _).alloc (Nat.le_refl _) _ |>.grown g3 (by simp) (fun k e => by cases e; exact Nat.le_refl _)).mono HB2.out.size)⟩
  | true =>
    obtain ⟨fk, hn⟩ := HF.out rfl
    rw [if_pos rfl, hn] at HE
    have FK : Hid (Fits64 [z, x, keyF f y]) := fk
    clear HF fk hn
    go_upto_region 4 with (first | (refine wpList_putS Tryz.isHeld rfl _ _ rfl w2.heap.size (heA f x y z) _ rfl rfl rfl rfl (heA_one _ _ _ _) z2.out ?_; intro w3 h3 g3))
    have HB3 : Hid (Below w.heap.size w w3.drew) := (HB2.out.trans (((Below.refl _ _).alloc (Nat.le_refl _) _ |>.grown g3 (by simp) (fun k e => by cases e; exact Nat.le_refl _)).mono HB2.out.size)).drew
    have D3 : Hid (StB w3.drew w2.heap.size 38 (heA f x y z)) := h3
    have ck := fun wx => ikeyof_any f y wx
    have cn : ∀ u w', Reads w' u [z, x, keyF f y] → Tab w' → _ := fun u w' hr ht => ishowN_any u [z, x, keyF f y] w' hr (by simp) (by simp) FK.out ht
    obtain ⟨k, hk⟩ : ∃ k, k = keyF f y := ⟨_, rfl⟩
    simp only [← hk] at ck cn HE
    have CN : Hid _ := cn
    obtain ⟨g, hg⟩ : ∃ g, g = w2.heap.size := ⟨_, rfl⟩
    rw [← hg] at D3 h3 ⊢
    obtain ⟨m0, m1, m2, m3, m4, m5, m6⟩ := heA_cells h3
    obtain ⟨d0, d1, d2, d3, d4, d5, d6⟩ := heA_cells D3.out
    clear h3 g3 z2 hk FK cn hg HB2
    unfold kA at ck
    go_region_held3 (fun w' => w'.cell? ⟨g, 0, none⟩ = some (.int .i64 (f 0)) ∧ w'.cell? ⟨g, 1, none⟩ = some (.int .i64 (f 1)) ∧ w'.cell? ⟨g, 2, none⟩ = some (.int .i64 (f 2)) ∧ w'.cell? ⟨g, 3, none⟩ = some (.int .i64 (f 3)) ∧ w'.cell? ⟨g, 4, none⟩ = some (.int .i64 x) ∧ w'.cell? ⟨g, 5, none⟩ = some (.int .i64 y) ∧ w'.cell? ⟨g, 6, none⟩ = some (.int .i64 z)) (refine ⟨?_, ?_, ?_, ?_, ?_, ?_, ?_⟩ <;> first | with_reducible assumption | (with_reducible refine cell_later ?_; with_reducible assumption))
      (first
        | (go_at_call 35; refine (ck _).mono ?_; rintro e w4 ⟨rfl, b4⟩; have B4 : Hid (Below w.heap.size w w4) := HB3.out.trans (b4.mono HB3.out.size); have H4 : Hid (StB w4 g 38 (heA f x y z)) := D3.out.below b4; obtain ⟨n0, n1, n2, n3, n4, n5, n6⟩ := heA_cells H4.out; clear b4)
        | (go_at_call 20; refine (CN.out _ _ (own_three w4 z x k).reads (HT.out.below (B4.out.alloc B4.out.size _))).mono ?_; rintro e w5 ⟨rfl, b5⟩; have B5 : Hid (Below w.heap.size w w5) := (B4.out.alloc B4.out.size _).trans (b5.mono (B4.out.alloc B4.out.size _).size); have H5 : Hid (StB w5 g 38 (heA f x y z)) := (H4.out.alloc _).below b5; obtain ⟨o0, o1, o2, o3, o4, o5, o6⟩ := heA_cells H5.out; clear b5; unfold S))
    all_goals
      go_wp2
      go_ret
      exact ⟨by rw [HE.out]; rfl, B5.out⟩
end Go.Proofs.YtifffiekibdgnaaGreatDoor
/- What the program tells of a holding, on: ShowHolding. -/
namespace Go.Proofs.YtifffiekibdgnaaGreatDoor
open Go.ChangeShapes Go.WideShapes Go.ChangeAt Go.RowKit

set_option maxRecDepth 20000 in
set_option maxHeartbeats 2000000 in
theorem ishowH_any (v : Value) (h : Hd) (w : World) (hr : Reads w v h.ks) (hl : h.ks.length ≤ 1099511627776) (ht : Tab w) :
    Calls Tryz.prog 6 #[HV v h] w fun e w' => e = .returned (S h.showT) ∧ Below w.heap.size w w' := by
  have b1 : Below w.heap.size w (w.alloc (.cells (hdA v h) 26)) := (Below.refl _ _).alloc (Nat.le_refl _) _
  have c1 := iheldof_any v h _ (hr.below b1 (Nat.le_refl _)) hl
  obtain ⟨ao0, cap0, rfl⟩ := reads_form hr
  obtain ⟨ok, hok⟩ : ∃ ok, ok = h.ok := ⟨_, rfl⟩
  obtain ⟨f, x, y, z, hf, hfo⟩ := heldV_form h
  have HE : Hid (h.showT = if ok then intsB h.showN else []) := by rw [Hid, hok]; rfl
  have HF : Hid (ok = true → Fits64 (listK f ++ [x, y, z]) ∧ h.showN = listK f ++ [x, y, z]) := fun e => by
    rw [hok] at e
    obtain ⟨rfl, rfl, rfl, rfl⟩ := hfo e
    have h2 := Hd.ok_fits e
    have h1 : h.showN = listK (KF h.ks) ++ [h.kd, h.ho, h.tu] := by rw [listK_KF (Hd.ok_all e).1]; rfl
    rw [h1] at h2
    exact ⟨h2, h1⟩
  rw [← hok] at c1
  rw [hf] at c1
  have HT : Hid (Tab w) := ht
  clear hok hf hfo hr hl ht
  unfold HV hdA at *
  unfold S
  go_enter Tryz.func6, Tryz.ntmps6
  go_wp2_with fail
  refine c1.mono ?_
  rintro e w2 ⟨rfl, b2⟩
  have HB2 : Hid (Below w.heap.size w w2) := b1.trans (b2.mono b1.size)
  have z2 : Hid (StB (w2.alloc (.cells (heA (fun _ => 0) 0 0 0) 38)) w2.heap.size 38 (heA (fun _ => 0) 0 0 0)) := StB.new _ _ _
  clear c1 b1 b2
  cases ok with
  | false =>
    go_wp2_with (first | (refine wpList_putS Tryz.isHeld rfl _ _ rfl w2.heap.size (heA f x y z) _ rfl rfl rfl rfl (heA_one _ _ _ _) z2.out ?_; intro w3 h3 g3))
    go_ret
    rw [HE.out]
    exact ⟨rfl, HB2.out.trans (((Below.refl _ _).alloc (Nat.le_refl _) _ |>.grown g3 (by simp) (fun k e => by cases e; exact Nat.le_refl _)).mono HB2.out.size)⟩
  | true =>
    obtain ⟨fk, hn⟩ := HF.out rfl
    rw [if_pos rfl, hn] at HE
    have FK : Hid (Fits64 (listK f ++ [x, y, z])) := fk
    clear HF fk hn
    go_upto_region 4 with (first | (refine wpList_putS Tryz.isHeld rfl _ _ rfl w2.heap.size (heA f x y z) _ rfl rfl rfl rfl (heA_one _ _ _ _) z2.out ?_; intro w3 h3 g3))
    have HB3 : Hid (Below w.heap.size w w3.drew) := (HB2.out.trans (((Below.refl _ _).alloc (Nat.le_refl _) _ |>.grown g3 (by simp) (fun k e => by cases e; exact Nat.le_refl _)).mono HB2.out.size)).drew
    have D3 : Hid (StB w3.drew w2.heap.size 38 (heA f x y z)) := h3
    have cl := fun wx => ilistK4_any f wx
    obtain ⟨ks, hks⟩ : ∃ ks, ks = listK f := ⟨_, rfl⟩
    obtain ⟨ns, hns⟩ : ∃ ns, ns = ks ++ [x, y, z] := ⟨_, rfl⟩
    have HNS : Hid (ns = ks ++ [x, y, z]) := hns
    have HKL : Hid (ks.length = 4) := by rw [hks]; rfl
    have hnl : Hid (ns.length = 7) := by rw [Hid, hns]; have := HKL.out; simp; omega
    rw [← hks, ← hns] at FK HE
    have CN : Hid (∀ u w', Reads w' u ns → Tab w' → _) := fun u w' hr ht => ishowN_any u ns w' hr (by have := hnl.out; omega) (by have := hnl.out; omega) FK.out ht
    simp only [← hks] at cl
    obtain ⟨g, hg⟩ : ∃ g, g = w2.heap.size := ⟨_, rfl⟩
    rw [← hg] at D3 h3 ⊢
    have HG : Hid (g < w3.heap.size ∧ w.heap.size ≤ g) := ⟨h3.lt, by rw [hg]; exact HB2.out.size⟩
    obtain ⟨m0, m1, m2, m3, m4, m5, m6⟩ := heA_cells h3
    obtain ⟨d0, d1, d2, d3, d4, d5, d6⟩ := heA_cells D3.out
    have DA : Hid (StB (w3.drew.alloc (.cells #[.int .i64 x, .int .i64 y, .int .i64 z] 2)) g 38 (heA f x y z)) := D3.out.alloc _
    obtain ⟨q0, q1, q2, q3, q4, q5, q6⟩ := heA_cells DA.out
    have BA : Hid (Below w.heap.size w (w3.drew.alloc (.cells #[.int .i64 x, .int .i64 y, .int .i64 z] 2))) := HB3.out.alloc HB3.out.size _
    have NA : Hid (∀ j, j < [x, y, z].length → (w3.drew.alloc (.cells #[.int .i64 x, .int .i64 y, .int .i64 z] 2)).cell? ⟨w3.heap.size, j, none⟩ = some (.int .i64 ([x, y, z].getD j 0))) := news3 w3.drew x y z
    have CL : Hid _ := cl
    have HW : Hid (w3.heap.size ≤ (w3.drew.alloc (.cells #[.int .i64 x, .int .i64 y, .int .i64 z] 2)).heap.size) := by rw [Hid, World.size_alloc]; exact Nat.le_succ _
    clear h3 g3 z2 FK hg HB2 hks hns cl
    unfold kA at CL
    go_region_held3 (fun w' => w'.cell? ⟨g, 0, none⟩ = some (.int .i64 (f 0)) ∧ w'.cell? ⟨g, 1, none⟩ = some (.int .i64 (f 1)) ∧ w'.cell? ⟨g, 2, none⟩ = some (.int .i64 (f 2)) ∧ w'.cell? ⟨g, 3, none⟩ = some (.int .i64 (f 3)) ∧ w'.cell? ⟨g, 4, none⟩ = some (.int .i64 x) ∧ w'.cell? ⟨g, 5, none⟩ = some (.int .i64 y) ∧ w'.cell? ⟨g, 6, none⟩ = some (.int .i64 z)) (refine ⟨?_, ?_, ?_, ?_, ?_, ?_, ?_⟩ <;> first | with_reducible assumption | (with_reducible refine cell_later ?_; with_reducible assumption) | exact q0 | exact q1 | exact q2 | exact q3 | exact q4 | exact q5 | exact q6)
      (first
        | (go_at_call 21; refine (CL.out _).mono ?_; rintro e w4 ⟨ao, cap, rfl, o4, b4⟩; first
            | (have b5 : Below w3.drew.heap.size w3.drew w4 := (by with_reducible exact b4); clear b5; have OA : Hid True := trivial; have O4 : Hid (Own w4 w3.heap.size (.slice ao 4 cap) ks) := o4; have B4 : Hid (Below w.heap.size w w4) := HB3.out.trans (b4.mono HB3.out.size); have H4 : Hid (StB w4 g 38 (heA f x y z)) := D3.out.below b4; have S4 : Hid (w3.heap.size ≤ w4.heap.size) := b4.size; clear o4 b4; obtain ⟨n0, n1, n2, n3, n4, n5, n6⟩ := heA_cells H4.out)
            | (have OB : Hid True := trivial; have O4 : Hid (Own w4 w3.heap.size (.slice ao 4 cap) ks) := o4.mono HW.out; have N4 : Hid (Below (w3.drew.alloc (.cells #[.int .i64 x, .int .i64 y, .int .i64 z] 2)).heap.size (w3.drew.alloc (.cells #[.int .i64 x, .int .i64 y, .int .i64 z] 2)) w4) := b4; have B4 : Hid (Below w.heap.size w w4) := BA.out.trans (b4.mono BA.out.size); have H4 : Hid (StB w4 g 38 (heA f x y z)) := DA.out.below b4; have S4 : Hid (w3.heap.size ≤ w4.heap.size) := Nat.le_trans HW.out b4.size; clear o4 b4; obtain ⟨n0, n1, n2, n3, n4, n5, n6⟩ := heA_cells H4.out))
        | (go_at_call 20; refine (CN.out _ _ O5.out.reads (HT.out.below B5.out)).mono ?_; rintro e w6 ⟨rfl, b6⟩; have B6 : Hid (Below w.heap.size w w6) := B5.out.trans (b6.mono B5.out.size); have H6 : Hid (StB w6 g 38 (heA f x y z)) := H5.out.below b6; clear b6; obtain ⟨r0, r1, r2, r3, r4, r5, r6⟩ := heA_cells H6.out; unfold S)
        | (have := OA.out; refine step_appendI rfl (.tmp 14) (.tmp 21) rfl w3.heap.size (.slice ao 4 cap) ks (by simp [Act.eval]) (O4.out.alloc _) w4.heap.size 3 3 [x, y, z] (by simp [Act.eval]) rfl (news3 w4 x y z) (by have := HKL.out; simp; omega) (by rw [World.size_alloc]; exact Nat.le_succ_of_le S4.out) ?_; intro v5 w5 o5 g5; rw [← HNS.out] at o5; obtain ⟨ao5, cap5, rfl⟩ := reads_form o5.reads; have H5 : Hid (StB w5 g 38 (heA f x y z)) := StB.kept (H4.out.alloc _) g5 (fun c => by have := (O4.out.lt _ c.symm).1; have := HG.out.1; omega); have B5 : Hid (Below w.heap.size w w5) := Below.grown (B4.out.alloc B4.out.size _) g5 ((B4.out.alloc B4.out.size _)).size (fun x c => by have := (O4.out.lt x c).1; have := HG.out; omega); have O5 : Hid (Own w5 w3.heap.size (.slice ao5 ns.length cap5) ns) := o5; clear o5 g5; obtain ⟨s0, s1, s2, s3, s4, s5, s6⟩ := heA_cells H5.out)
        | (have := OB.out; refine step_appendI rfl (.tmp 14) (.tmp 21) rfl w3.heap.size (.slice ao 4 cap) ks (by simp [Act.eval]) O4.out w3.heap.size 3 3 [x, y, z] (by simp [Act.eval]) rfl (fun j hj => (N4.out.cell (World.block_lt_of_cell? _ _ (NA.out j hj))).trans (NA.out j hj)) (by have := HKL.out; simp; omega) S4.out ?_; intro v5 w5 o5 g5; rw [← HNS.out] at o5; obtain ⟨ao5, cap5, rfl⟩ := reads_form o5.reads; have H5 : Hid (StB w5 g 38 (heA f x y z)) := StB.kept H4.out g5 (fun c => by have := (O4.out.lt _ c.symm).1; have := HG.out.1; omega); have B5 : Hid (Below w.heap.size w w5) := Below.grown B4.out g5 B4.out.size (fun x c => by have := (O4.out.lt x c).1; have := HG.out; omega); have O5 : Hid (Own w5 w3.heap.size (.slice ao5 ns.length cap5) ns) := o5; clear o5 g5; obtain ⟨s0, s1, s2, s3, s4, s5, s6⟩ := heA_cells H5.out))
    all_goals
      go_wp2
      go_ret
      exact ⟨by rw [HE.out]; rfl, B6.out⟩
end Go.Proofs.YtifffiekibdgnaaGreatDoor
