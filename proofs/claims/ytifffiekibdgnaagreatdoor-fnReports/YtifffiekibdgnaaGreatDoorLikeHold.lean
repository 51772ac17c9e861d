/- Are two holdings alike? -/
import Derived.Test.YtifffiekibdgnaaGreatDoorLike
import Derived.Test.YtifffiekibdgnaaGreatDoorLHold
namespace Go.Proofs.YtifffiekibdgnaaGreatDoor
open Go.ChangeShapes Go.WideShapes Go.ChangeAt Go.RowKit

def likeH (a b : Hd) : Bool := decide (a.ks = b.ks) && decide (a.kd = b.kd) && decide (a.ho = b.ho) && decide (a.tu = b.tu)
theorem likeH_same (a : Hd) : likeH a a = true := by simp [likeH]

set_option maxRecDepth 20000 in
set_option maxHeartbeats 2000000 in
theorem likeH_any (u v : Value) (a b : Hd) (w : World) (hu : Reads w u a.ks) (hv : Reads w v b.ks) (hl : a.ks.length ≤ 1099511627776) :
    Calls Tryz.prog 10 #[HV u a, HV v b] w fun e w' => e = .returned (.bool (likeH a b)) ∧ Below w.heap.size w w' := by
  obtain ⟨w1, hw1⟩ : ∃ w1, w1 = (w.alloc (.cells (hdA u a) 26)).alloc (.cells (hdA v b) 26) := ⟨_, rfl⟩
  have B1 : Hid (Below w.heap.size w w1) := by rw [hw1]; exact ((Below.refl _ _).alloc (Nat.le_refl _) _).alloc (by simp) _
  have p0 : Hid (StB w1 w.heap.size 26 (hdA u a)) := by rw [hw1]; exact (StB.new w _ _).alloc _
  have q0 : Hid (StB w1 (w.heap.size + 1) 26 (hdA v b)) := by
    rw [hw1]
    have := StB.new (w.alloc (.cells (hdA u a) 26)) 26 (hdA v b)
    rwa [World.size_alloc] at this
  have c1 := like_any u v a.ks b.ks w1 (hu.below B1.out (Nat.le_refl _)) (hv.below B1.out (Nat.le_refl _)) hl
  have HE : Hid (likeH a b = (decide (a.ks = b.ks) && decide (a.kd = b.kd) && decide (a.ho = b.ho) && decide (a.tu = b.tu))) := rfl
  obtain ⟨r, hr⟩ : ∃ r, r = likeH a b := ⟨_, rfl⟩
  obtain ⟨d, hd⟩ : ∃ d, d = decide (a.ks = b.ks) := ⟨_, rfl⟩
  rw [← hr] at HE ⊢
  rw [← hd] at HE c1
  have k0 : w1.cell? ⟨w.heap.size, 0, none⟩ = some u := p0.out.cell 0 rfl
  have l0 : w1.cell? ⟨w.heap.size + 1, 0, none⟩ = some v := q0.out.cell 0 rfl
  obtain ⟨ao, ca, rfl⟩ := reads_form hu
  obtain ⟨bo, cb, rfl⟩ := reads_form hv
  obtain ⟨na, hna⟩ : ∃ na, na = a.ks.length := ⟨_, rfl⟩
  obtain ⟨nb, hnb⟩ : ∃ nb, nb = b.ks.length := ⟨_, rfl⟩
  rw [← hna] at hw1 c1 k0 p0 ⊢
  rw [← hnb] at hw1 c1 l0 q0 ⊢
  clear hr hd hu hv hl hna hnb
  unfold HV
  unfold hdA at hw1 ⊢
  go_enter Tryz.func10, Tryz.ntmps10
  go_wp2_with fail
  rw [← hw1]
  refine c1.mono ?_
  rintro e w2 ⟨rfl, hw2⟩
  have B2 : Hid (Below w.heap.size w w2) := by obtain ⟨n, rfl⟩ := hw2; exact below_drewN B1.out n
  have k1 : w2.cell? ⟨w.heap.size, 1, none⟩ = some (.int .i64 a.kd) := by obtain ⟨n, rfl⟩ := hw2; exact p0.out.cell 1 rfl
  have k2 : w2.cell? ⟨w.heap.size, 2, none⟩ = some (.int .i64 a.ho) := by obtain ⟨n, rfl⟩ := hw2; exact p0.out.cell 2 rfl
  have k3 : w2.cell? ⟨w.heap.size, 3, none⟩ = some (.int .i64 a.tu) := by obtain ⟨n, rfl⟩ := hw2; exact p0.out.cell 3 rfl
  have l1 : w2.cell? ⟨w.heap.size + 1, 1, none⟩ = some (.int .i64 b.kd) := by obtain ⟨n, rfl⟩ := hw2; exact q0.out.cell 1 rfl
  have l2 : w2.cell? ⟨w.heap.size + 1, 2, none⟩ = some (.int .i64 b.ho) := by obtain ⟨n, rfl⟩ := hw2; exact q0.out.cell 2 rfl
  have l3 : w2.cell? ⟨w.heap.size + 1, 3, none⟩ = some (.int .i64 b.tu) := by obtain ⟨n, rfl⟩ := hw2; exact q0.out.cell 3 rfl
  clear hw2 hw1 p0 q0 k0 l0 B1 c1
  cases d with
  | false =>
    go_wp2
    go_ret
    exact ⟨ret_bool (by rw [HE.out]; simp), B2.out⟩
  | true =>
    by_cases e1 : a.kd = b.kd
    · by_cases e2 : a.ho = b.ho
      · by_cases e3 : a.tu = b.tu
        · have f1 : (a.kd == b.kd) = true := by simpa using e1
          have f2 : (a.ho == b.ho) = true := by simpa using e2
          have f3 : (a.tu == b.tu) = true := by simpa using e3
          have HX : Hid (r = true) := by rw [Hid, HE.out]; simp [e1, e2, e3]
          clear e1 e2 e3
          go_wp2
          go_ret
          exact ⟨ret_bool (by rw [HX.out]), B2.out⟩
        · have f1 : (a.kd == b.kd) = true := by simpa using e1
          have f2 : (a.ho == b.ho) = true := by simpa using e2
          have f3 : (a.tu == b.tu) = false := by simpa using e3
          have HX : Hid (r = false) := by rw [Hid, HE.out]; simp [e3]
          clear e1 e2 e3
          go_wp2
          go_ret
          exact ⟨ret_bool (by rw [HX.out]), B2.out⟩
      · have f1 : (a.kd == b.kd) = true := by simpa using e1
        have f2 : (a.ho == b.ho) = false := by simpa using e2
        have HX : Hid (r = false) := by rw [Hid, HE.out]; simp [e2]
        clear e1 e2
        go_wp2
        go_ret
        exact ⟨ret_bool (by rw [HX.out]), B2.out⟩
    · have f1 : (a.kd == b.kd) = false := by simpa using e1
      have HX : Hid (r = false) := by rw [Hid, HE.out]; simp [e1]
      clear e1
      go_wp2
      go_ret
      exact ⟨ret_bool (by rw [HX.out]), B2.out⟩
end Go.Proofs.YtifffiekibdgnaaGreatDoor
