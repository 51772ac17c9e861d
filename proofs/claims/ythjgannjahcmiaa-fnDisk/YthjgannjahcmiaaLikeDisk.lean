/- likeDisk of two disks that are the same is true. What the laws on disks ask, of plain lists. -/
import Derived.Test.YthjgannjahcmiaaLike
import Derived.Test.YthjgannjahcmiaaDisk
import Derived.Test.YthjgannjahcmiaaBlockLaws
import Derived.Test.YthjgannjahcmiaaSDisk2
namespace Go.Proofs.Ythjgannjahcmiaa
open Go.ChangeShapes Go.WideShapes Go.ChangeAt Go.RowKit

set_option maxHeartbeats 1000000 in
theorem likeDisk_any (u v a b : Value) (xs ys : List Int) (w : World) (hu : Reads w u xs) (hv : Reads w v ys) (ha : Reads w a xs) (hb : Reads w b ys) (gx : xs.length ≤ 1099511627776) (gy : ys.length ≤ 1099511627776) :
    Calls Try.prog 19 #[.agg #[u, v], .agg #[a, b]] w fun e w' => e = .returned (.bool true) ∧ Below w.heap.size w w' := by
  obtain ⟨w2, hw2⟩ : ∃ w2, w2 = (w.alloc (.cells #[u, v] 26)).alloc (.cells #[a, b] 26) := ⟨_, rfl⟩
  have p0 : Pair w2 w.heap.size 26 u v := by rw [hw2]; exact (Pair.new w _ u v).alloc _
  have p1 : Pair w2 (w.heap.size + 1) 26 a b := by rw [hw2]; have := Pair.new (w.alloc (.cells #[u, v] 26)) 26 a b; simpa using this
  have b2 : Below w.heap.size w w2 := by rw [hw2]; exact ((Below.refl _ _).alloc (Nat.le_refl _) _).alloc (by simp) _
  have c1 := like_any u a xs xs w2 (hu.below b2 (Nat.le_refl _)) (ha.below b2 (Nat.le_refl _)) gx
  rw [show decide (xs = xs) = true by simp] at c1
  have c2 : ∀ n, _ := fun n => like_any v b ys ys (w2.drewN n) (hv.below (below_drewN b2 n) (Nat.le_refl _)) (hb.below (below_drewN b2 n) (Nat.le_refl _)) gy
  rw [show decide (ys = ys) = true by simp] at c2
  clear hu hv ha hb gx gy
  go_enter Try.func19, Try.ntmps19
  go_wp2_with fail
  rw [← hw2]
  clear hw2
  refine c1.mono ?_
  rintro e w3 ⟨rfl, n3, hw3⟩
  have d0 := p0.cell1
  have d1 := p1.cell1
  have e0 : w3.cell? ⟨w.heap.size, 1, none⟩ = some v := by rw [hw3]; exact d0
  have e1 : w3.cell? ⟨w.heap.size + 1, 1, none⟩ = some b := by rw [hw3]; exact d1
  replace c2 := c2 n3
  have HB : Hid (Below w.heap.size w w3) := by rw [hw3]; exact below_drewN b2 n3
  rw [← hw3] at c2
  clear hw3 d0 d1 p0 p1 c1 b2
  go_wp2_with fail
  refine c2.mono ?_
  rintro e w4 ⟨rfl, n4, hw4⟩
  have HC : Hid (Below w.heap.size w w4) := by rw [hw4]; exact below_drewN HB.out n4
  clear hw4 HB e0 e1 c2
  go_wp2_with fail
  go_ret
  exact ⟨rfl, HC.out⟩

theorem chosenUp_same (ys : List Int) (s : Int) (k : Nat) : chosenUp ys ys s k ys.length = ys := by
  refine list_eq_getD (by rw [chosenUp_len]) (fun j hj => ?_)
  rw [chosenUp_len] at hj
  rw [chosenUp_getD ys ys s k _ j hj]
  simp
theorem differUp_same (ys : List Int) : ∀ k, differUp ys ys k = 0
  | 0 => rfl
  | k + 1 => by rw [differUp, if_pos rfl, differUp_same ys k]
theorem bothOk_same {xs ys : List Int} (h : bothOk xs ys = true) : bothOk ys ys = true := by
  have := (bothOk_yes' h).2.1
  simp [bothOk, this]
theorem differI_same {ys : List Int} (h : bothOk ys ys = true) : differI ys ys = 0 := by simp [differI, h, differUp_same]
theorem lost_same {ys : List Int} (s : Int) (h : bothOk ys ys = true) : loK ys ys s = ys ∧ loN ys ys s = ys := by
  simp [loK, loN, h, chosenUp_same]
theorem zeros_ok {n : Int} (h : cntOk n = true) : bothOk (zerosI n) (zerosI n) = true ∧ differI (zerosI n) (zerosI n) = 0 := by
  have hb : blocksOk (zerosI n) = true := by
    have h2 : 1 ≤ n ∧ n ≤ 8 := by simpa [cntOk] using h
    simp only [zerosI, h2, and_self, if_true, blocksOk, lenOk, List.length_replicate]
    simp [valOk]
    omega
  have h1 : bothOk (zerosI n) (zerosI n) = true := by simp [bothOk, hb]
  exact ⟨h1, differI_same h1⟩
theorem getD_set (ys : List Int) (i : Nat) (x : Int) (h : i < ys.length) : (ys.set i x).getD i 0 = x := by simp [List.getD, h]
theorem set_ok {xs ys : List Int} {i x : Int} (h : bothOk xs ys = true) (hp : placeOk ys i x = true) : bothOk xs (ys.set i.toNat x) = true := by
  obtain ⟨h1, h2, h3⟩ := bothOk_yes' h
  have hv : valOk x = true := by simp [placeOk] at hp; exact hp.2.2
  have hb : blocksOk (ys.set i.toNat x) = true := by
    simp only [blocksOk, Bool.and_eq_true, List.all_eq_true, List.length_set] at h2 ⊢
    refine ⟨fun z hz => ?_, h2.2⟩
    rcases List.mem_or_eq_of_mem_set hz with hz | rfl
    · exact h2.1 z hz
    · exact hv
  simp [bothOk, h1, hb, h3]
theorem loose_set {xs ys : List Int} {i x : Int} (h : bothOk xs ys = true) (hp : placeOk ys i x = true) : inB (differI xs (ys.set i.toNat x)) i = (xs.getD i.toNat 0 != x) := by
  have hl := blocksOk_len (bothOk_yes' h).2.1
  have hi : 0 ≤ i ∧ i < (ys.length : Int) := by simp [placeOk] at hp; exact ⟨hp.1, hp.2.1⟩
  have e : differI xs (ys.set i.toNat x) = differUp xs (ys.set i.toNat x) 8 := by simp [differI, set_ok h hp]
  rw [e]
  have := differUp_in xs (ys.set i.toNat x) 8 (by omega) i.toNat
  rw [show ((i.toNat : Nat) : Int) = i by omega] at this
  rw [this, getD_set ys i.toNat x (by omega)]
  have h8 : i.toNat < 8 := by omega
  by_cases hx : xs.getD i.toNat 0 = x
  · simp only [hx, ne_eq, not_true_eq_false, and_false, decide_false, bne_self_eq_false]
  · simp only [h8, ne_eq, hx, not_false_eq_true, and_self, decide_true]
    exact (bne_iff_ne.2 hx).symm
end Go.Proofs.Ythjgannjahcmiaa
