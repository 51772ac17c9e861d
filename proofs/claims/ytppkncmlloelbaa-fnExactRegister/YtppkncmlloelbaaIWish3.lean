/- What the program's actions ask and do, on: keyOf, anyBeside, a key among the keys, isTaken, hasNoSuchKey, rekeyed. -/
import Derived.Test.YtppkncmlloelbaaIWish2
namespace Go.Proofs.Ytppkncmlloelbaa
open Go.ChangeShapes Go.WideShapes Go.ChangeAt Go.RowKit

def keyF (f : Nat → Int) (i : Int) : Int := if inI i 0 3 then f i.toNat else 0
set_option maxRecDepth 20000 in
set_option maxHeartbeats 400000 in
theorem ikeyof_any (f : Nat → Int) (i : Int) (w : World) :
    Calls Try.prog 105 #[.agg (kA f), .int .i64 i] w fun e w' => e = .returned (.int .i64 (keyF f i)) ∧ Below w.heap.size w w' := by
  have b1 : Below w.heap.size w (w.alloc (.cells (kA f) 66)) := (Below.refl _ _).alloc (Nat.le_refl _) _
  have H1 : StB (w.alloc (.cells (kA f) 66)) w.heap.size 66 (kA f) := StB.new _ _ _
  have c1 := fun wx => iperson_any i wx
  by_cases h : 0 ≤ i ∧ i < 4
  · have hin : inI i 0 3 = true := by simp [inI]; omega
    have HK : Hid (keyF f i = f i.toNat) := by simp [Hid, keyF, hin]
    simp only [hin] at c1
    obtain ⟨j, hj, hj4⟩ : ∃ j : Nat, i = (j : Int) ∧ j < 4 := ⟨i.toNat, by omega, by omega⟩
    subst hj
    obtain ⟨y, hy⟩ : ∃ y, y = f j := ⟨_, rfl⟩
    have hc : (w.alloc (.cells (kA f) 66)).cell? ⟨w.heap.size, j, none⟩ = some (.int .i64 y) := by
      rw [hy]; exact H1.cell j (kA_at f j hj4)
    have HY : Hid (y = keyF f j) := by rw [Hid, HK.out, hy]; rfl
    rw [← HY.out]
    have hl : (j : Int) < 4 := by omega
    clear hin hy h H1
    unfold kA at *
    go_enter Try.func105, Try.ntmps105
    go_wp2_with (first | (go_at_call 73; refine (c1 _).mono ?_; rintro e w' ⟨rfl, hw⟩; subst w'))
    go_ret
    exact ⟨rfl, b1⟩
  · have hin : inI i 0 3 = false := by simp [inI]; omega
    have HK : keyF f i = 0 := by simp [keyF, hin]
    rw [HK]
    simp only [hin] at c1
    clear h hin H1 HK
    unfold kA at *
    go_enter Try.func105, Try.ntmps105
    go_wp2_with (first | (go_at_call 73; refine (c1 _).mono ?_; rintro e w' ⟨rfl, hw⟩; subst w'))
    go_ret
    exact ⟨rfl, b1⟩

set_option maxRecDepth 20000 in
set_option maxHeartbeats 400000 in
theorem ibeside_any (f : Nat → Int) (i : Int) (w : World) (i0 : 0 ≤ i) (i1 : i < 4) :
    Calls Try.prog 106 #[.agg (kA f), .int .i64 i] w fun e w' => e = .returned (.bool (anyF (updF f i.toNat 0))) ∧ Below w.heap.size w w' := by
  obtain ⟨j, hj, hj4⟩ : ∃ j : Nat, i = (j : Int) ∧ j < 4 := ⟨i.toNat, by omega, by omega⟩
  subst hj
  rw [Int.toNat_natCast]
  obtain ⟨w1, hw1⟩ : ∃ w1, w1 = w.alloc (.cells (kA f) 66) := ⟨_, rfl⟩
  have b1 : Hid (Below w.heap.size w w1) := by rw [hw1]; exact (Below.refl _ _).alloc (Nat.le_refl _) _
  have H1 : StB w1 w.heap.size 66 (kA f) := by rw [hw1]; exact StB.new _ _ _
  obtain ⟨w2, hw2⟩ : ∃ w2, w2 = w1.setCell ⟨w.heap.size, j, none⟩ (.int .i64 0) := ⟨_, rfl⟩
  have H2 : Hid (StB w2 w.heap.size 66 (kA (updF f j 0)) ∧ Below w.heap.size w w2) := by
    rw [hw2]
    exact ⟨H1.put j _ (kA_set f 0 j hj4), b1.out.grown (grownSet w1 _ j _) b1.out.size (fun k e => by cases e; exact Nat.le_refl _)⟩
  have hc := H1.cell j (kA_at f j hj4)
  have hf := H1.frozen j
  have c1 := ianyreg_any (updF f j 0) w2
  obtain ⟨x, hx⟩ : ∃ x, x = anyF (updF f j 0) := ⟨_, rfl⟩
  rw [← hx] at c1 ⊢
  clear hx H1 b1
  rw [kA] at hw1 ⊢
  go_enter Try.func106, Try.ntmps106
  go_upto_region 1 with fail
  rw [← hw1]
  clear hw1
  go_upto_region 2 with fail
  rw [← hw2]
  clear hw2 hc hf
  go_wp2_with (first | (refine wpList_getK rfl _ rfl w.heap.size rfl _ H2.out.1 ?_) | (go_at_call 99; refine c1.mono ?_; rintro e w3 ⟨rfl, b3⟩))
  go_ret
  exact ⟨rfl, H2.out.2.trans (b3.mono H2.out.2.size)⟩

def hasF (f : Nat → Int) (k : Int) : Nat → Bool
  | 0 => false
  | j + 1 => hasF f k j || decide (f j = k)
theorem hasF_up (f : Nat → Int) (k : Int) (j : Nat) (hj : j < 4) (h : f j = k) : hasF f k 4 = true := by
  obtain rfl | rfl | rfl | rfl : j = 0 ∨ j = 1 ∨ j = 2 ∨ j = 3 := by omega
  all_goals simp [hasF, h]

set_option maxRecDepth 20000 in
set_option maxHeartbeats 1000000 in
theorem iindex_any (f : Nat → Int) (k : Int) (g : Nat) (w : World) (hc : ∀ j, j < 4 → w.cell? ⟨g, j, none⟩ = some (.int .i64 (f j))) :
    Calls Try.prog 107 #[.slice (some ⟨g, 0, none⟩) 4 4, .int .i64 k] w fun e w' => ∃ x : Int, e = .returned (.int .i64 x) ∧ decide (0 ≤ x) = hasF f k 4 ∧ w' = w := by
  go_enter Try.func107, Try.ntmps107
  go_wp2_with fail
  go_loop [8] (fun i => ∃ j : Nat, j ≤ 4 ∧ i = .int .i64 j ∧ hasF f k j = false) (fun i => (4 - intOf i).toNat)
  case atStart => exact ⟨0, by omega, rfl, rfl⟩
  case round =>
    obtain ⟨j, hj, rfl, hh⟩ := hrel
    have HH : Hid (hasF f k j = false) := hh
    clear hh
    by_cases hlt : (j : Int) < 4
    · have hcj := hc j (by omega)
      obtain ⟨y, hy⟩ : ∃ y, y = f j := ⟨_, rfl⟩
      rw [← hy] at hcj
      have HY : Hid (y = f j) := hy
      clear hy
      by_cases e : k = y
      · have HU : Hid (hasF f k 4 = true) := hasF_up f k j (by omega) (by rw [← HY.out, e])
        have eb : (k == y) = true := by simpa using e
        clear e
        go_wp2
        go_ret
        exact ⟨_, rfl, by rw [HU.out]; simp, rfl⟩
      · have eb : (k == y) = false := by simpa using e
        have HU : Hid (hasF f k (j + 1) = false) := by
          rw [Hid, hasF, HH.out, ← HY.out]
          simp [Ne.symm e]
        clear e
        go_wp2
        go_round
        case rel => exact ⟨j + 1, by omega, by go_num, HU.out⟩
        case measure => simp [intOf]; omega
    · go_wp2
      go_ret
      have : j = 4 := by omega
      subst this
      exact ⟨_, rfl, by rw [HH.out]; rfl, rfl⟩

set_option maxRecDepth 20000 in
set_option maxHeartbeats 400000 in
theorem icontains_any (f : Nat → Int) (k : Int) (g : Nat) (w : World) (hc : ∀ j, j < 4 → w.cell? ⟨g, j, none⟩ = some (.int .i64 (f j))) :
    Calls Try.prog 104 #[.slice (some ⟨g, 0, none⟩) 4 4, .int .i64 k] w fun e w' => e = .returned (.bool (hasF f k 4)) ∧ w' = w := by
  have c1 := iindex_any f k g w hc
  clear hc
  go_enter Try.func104, Try.ntmps104
  go_wp2_with fail
  refine c1.mono ?_
  rintro e w' ⟨x, rfl, hx, hw⟩
  subst w'
  have HX : Hid (decide (0 ≤ x) = hasF f k 4) := hx
  clear hx
  go_wp2
  go_ret
  exact ⟨ret_bool (by rw [← HX.out]), rfl⟩

def takenI (f : Nat → Int) (kd ho i d : Int) : Bool := strI f i || ((kd != 0) && ((kd != d) || !holdsF f kd ho i))
set_option maxRecDepth 20000 in
set_option maxHeartbeats 2000000 in
theorem itaken_any (f : Nat → Int) (kd ho tu i k d : Int) (w : World) :
    Calls Try.prog 88 #[.agg (heA f kd ho tu), .agg (wiA i k d)] w fun e w' => e = .returned (.bool (takenI f kd ho i d)) ∧ Below w.heap.size w w' := by
  obtain ⟨w1, hw1⟩ : ∃ w1, w1 = (w.alloc (.cells (heA f kd ho tu) 68)).alloc (.cells (wiA i k d) 55) := ⟨_, rfl⟩
  have HS : Hid (HW2 w w1 f kd ho tu i k d) := by rw [hw1]; exact HW2.start _ _ _ _ _ _ _ _
  have c1 := istrange_any f kd ho tu i k d w1
  have c2 := fun wx => iheldholds_any f kd ho tu i wx
  have HE : Hid (takenI f kd ho i d = (strI f i || ((kd != 0) && ((kd != d) || !holdsF f kd ho i)))) := rfl
  obtain ⟨x, hx⟩ : ∃ x, x = strI f i := ⟨_, rfl⟩
  obtain ⟨y, hy⟩ : ∃ y, y = holdsF f kd ho i := ⟨_, rfl⟩
  obtain ⟨r, hr⟩ : ∃ r, r = takenI f kd ho i d := ⟨_, rfl⟩
  rw [← hr, ← hx, ← hy] at HE
  rw [← hr]
  rw [← hx] at c1
  simp only [← hy] at c2
  clear hx hy hr
  obtain ⟨a0, ha0⟩ : ∃ a0, a0 = (kd != 0) := ⟨_, rfl⟩
  obtain ⟨a1, ha1⟩ : ∃ a1, a1 = (kd != d) := ⟨_, rfl⟩
  rw [← ha0, ← ha1] at HE
  rw [heA, wiA] at hw1 c1 ⊢
  unfold heA at c2
  go_enter Try.func88, Try.ntmps88
  go_wp2_with fail
  rw [← hw1]
  refine c1.mono ?_
  rintro e w2 ⟨rfl, b2⟩
  have HS2 : Hid (HW2 w w2 f kd ho tu i k d) := HS.out.next b2
  obtain ⟨m0, m1, m2, m3, m4, m5, m6⟩ := heA_cells HS2.out.1
  obtain ⟨p0, p1, p2⟩ := wiA_cells HS2.out.2.1
  clear b2 c1 HS hw1
  cases x with
  | true =>
    clear c2 ha0 ha1
    go_wp2
    go_ret
    exact ⟨ret_bool (by rw [HE.out]; simp), HS2.out.2.2⟩
  | false =>
    cases a0 with
    | false =>
      have k0 : (kd != 0) = false := ha0.symm
      clear c2 ha1 ha0
      go_wp2
      go_ret
      exact ⟨ret_bool (by rw [HE.out]; simp), HS2.out.2.2⟩
    | true =>
      have k0 : (kd != 0) = true := ha0.symm
      clear ha0
      cases a1 with
      | true =>
        have k1 : (kd != d) = true := ha1.symm
        clear c2 ha1
        go_wp2
        go_ret
        exact ⟨ret_bool (by rw [HE.out]; simp), HS2.out.2.2⟩
      | false =>
        have k1 : (kd != d) = false := ha1.symm
        clear ha1
        go_wp2_with (first | (go_at_call 62; refine (c2 _).mono ?_; rintro e w3 ⟨rfl, b3⟩))
        go_ret
        exact ⟨ret_bool (by rw [HE.out]; simp), HS2.out.2.2.trans (b3.mono HS2.out.2.2.size)⟩
end Go.Proofs.Ytppkncmlloelbaa
