/- Are two holdings alike? -/
import Derived.Test.YtjbfncjdedigdaaM8
import Derived.Test.YtjbfncjdedigdaaM16
import Derived.Test.YtjbfncjdedigdaaLPost
import Derived.Test.YtjbfncjdedigdaaM6
namespace Go.Proofs.Ytjbfncjdedigdaa
open Go.ChangeShapes Go.WideShapes Go.ChangeAt Go.RowKit

def likeH (a b : Hd) : Bool := decide (a.ks = b.ks) && decide (a.kd = b.kd) && decide (a.ho = b.ho) && decide (a.tu = b.tu)
theorem likeH_same (a : Hd) : likeH a a = true := by simp [likeH]

set_option maxRecDepth 20000 in
set_option maxHeartbeats 2000000 in
theorem likeH_any (u v : Value) (a b : Hd) (w : World) (hu : Reads w u a.ks) (hv : Reads w v b.ks) (hl : a.ks.length ≤ 1099511627776) :
    Calls Try.prog 41 #[HV u a, HV v b] w fun e w' => e = .returned (.bool (likeH a b)) ∧ Below w.heap.size w w' := by
  obtain ⟨w1, hw1⟩ : ∃ w1, w1 = (w.alloc (.cells (hdA u a) 33)).alloc (.cells (hdA v b) 33) := ⟨_, rfl⟩
  have B1 : Hid (Below w.heap.size w w1) := by rw [hw1]; exact ((Below.refl _ _).alloc (Nat.le_refl _) _).alloc (by simp) _
  have p0 : Hid (StB w1 w.heap.size 33 (hdA u a)) := by rw [hw1]; exact (StB.new w _ _).alloc _
  have q0 : Hid (StB w1 (w.heap.size + 1) 33 (hdA v b)) := by
    rw [hw1]
    have := StB.new (w.alloc (.cells (hdA u a) 33)) 33 (hdA v b)
    rwa [World.size_alloc] at this
  have c1 := like_any u v a.ks b.ks w1 (hu.below B1.out (Nat.le_refl _)) (hv.below B1.out (Nat.le_refl _)) hl
  have HE : Hid (likeH a b = (decide (a.ks = b.ks) && decide (a.kd = b.kd) && decide (a.ho = b.ho) && decide (a.tu = b.tu))) := rfl
  obtain ⟨r, hr⟩ : ∃ r, r = likeH a b := ⟨_, rfl⟩
  obtain ⟨d, hd⟩ : ∃ d, d = decide (a.ks = b.ks) := ⟨_, rfl⟩
  rw [← hr] at HE ⊢
  rw [← hd] at HE c1
  have k0 : w1.cell? ⟨w.heap.size, 0, none⟩ = some u := p0.out.cell 0 rfl
  have l0 : w1.cell? ⟨w.heap.size + 1, 0, none⟩ = some v := q0.out.cell 0 rfl
  obtain ⟨ao, ca, rfl⟩ := reads_form hu
  obtain ⟨bo, cb, rfl⟩ := reads_form hv
  obtain ⟨na, hna⟩ : ∃ na, na = a.ks.length := ⟨_, rfl⟩
  obtain ⟨nb, hnb⟩ : ∃ nb, nb = b.ks.length := ⟨_, rfl⟩
  rw [← hna] at hw1 c1 k0 p0 ⊢
  rw [← hnb] at hw1 c1 l0 q0 ⊢
  clear hr hd hu hv hl hna hnb
  unfold HV
  unfold hdA at hw1 ⊢
  go_enter Try.func41, Try.ntmps41
  go_wp2_with fail
  rw [← hw1]
  refine c1.mono ?_
  rintro e w2 ⟨rfl, hw2⟩
  have B2 : Hid (Below w.heap.size w w2) := by obtain ⟨n, rfl⟩ := hw2; exact below_drewN B1.out n
  have k1 : w2.cell? ⟨w.heap.size, 1, none⟩ = some (.int .i64 a.kd) := by obtain ⟨n, rfl⟩ := hw2; exact p0.out.cell 1 rfl
  have k2 : w2.cell? ⟨w.heap.size, 2, none⟩ = some (.int .i64 a.ho) := by obtain ⟨n, rfl⟩ := hw2; exact p0.out.cell 2 rfl
  have k3 : w2.cell? ⟨w.heap.size, 3, none⟩ = some (.int .i64 a.tu) := by obtain ⟨n, rfl⟩ := hw2; exact p0.out.cell 3 rfl
  have l1 : w2.cell? ⟨w.heap.size + 1, 1, none⟩ = some (.int .i64 b.kd) := by obtain ⟨n, rfl⟩ := hw2; exact q0.out.cell 1 rfl
  have l2 : w2.cell? ⟨w.heap.size + 1, 2, none⟩ = some (.int .i64 b.ho) := by obtain ⟨n, rfl⟩ := hw2; exact q0.out.cell 2 rfl
  have l3 : w2.cell? ⟨w.heap.size + 1, 3, none⟩ = some (.int .i64 b.tu) := by obtain ⟨n, rfl⟩ := hw2; exact q0.out.cell 3 rfl
  clear hw2 hw1 p0 q0 k0 l0 B1 c1
  cases d with
  | false =>
    go_wp2
    go_ret
    exact ⟨ret_bool (by rw [HE.out]; simp), B2.out⟩
  | true =>
    by_cases e1 : a.kd = b.kd
    · by_cases e2 : a.ho = b.ho
      · by_cases e3 : a.tu = b.tu
        · have f1 : (a.kd == b.kd) = true := by simpa using e1
          have f2 : (a.ho == b.ho) = true := by simpa using e2
          have f3 : (a.tu == b.tu) = true := by simpa using e3
          have HX : Hid (r = true) := by rw [Hid, HE.out]; simp [e1, e2, e3]
          clear e1 e2 e3
          go_wp2
          go_ret
          exact ⟨ret_bool (by rw [HX.out]), B2.out⟩
        · have f1 : (a.kd == b.kd) = true := by simpa using e1
          have f2 : (a.ho == b.ho) = true := by simpa using e2
          have f3 : (a.tu == b.tu) = false := by simpa using e3
          have HX : Hid (r = false) := by rw [Hid, HE.out]; simp [e3]
          clear e1 e2 e3
          go_wp2
          go_ret
          exact ⟨ret_bool (by rw [HX.out]), B2.out⟩
      · have f1 : (a.kd == b.kd) = true := by simpa using e1
        have f2 : (a.ho == b.ho) = false := by simpa using e2
        have HX : Hid (r = false) := by rw [Hid, HE.out]; simp [e2]
        clear e1 e2
        go_wp2
        go_ret
        exact ⟨ret_bool (by rw [HX.out]), B2.out⟩
    · have f1 : (a.kd == b.kd) = false := by simpa using e1
      have HX : Hid (r = false) := by rw [Hid, HE.out]; simp [e1]
      clear e1
      go_wp2
      go_ret
      exact ⟨ret_bool (by rw [HX.out]), B2.out⟩
end Go.Proofs.Ytjbfncjdedigdaa
/- Are two posts alike? -/
namespace Go.Proofs.Ytjbfncjdedigdaa
open Go.ChangeShapes Go.WideShapes Go.ChangeAt Go.RowKit

set_option maxRecDepth 20000 in
set_option maxHeartbeats 2000000 in
theorem likeMsg_any (u v : Value) (m : Mg) (w : World) (hu : Reads w u m.h.ks) (hv : Reads w v m.h.ks) (hl : m.h.ks.length ≤ 1048576) :
    Calls Try.prog 20 #[MgV u m, MgV v m] w fun e w' => e = .returned (.bool true) ∧ Below w.heap.size w w' := by
  obtain ⟨w1, hw1⟩ : ∃ w1, w1 = (w.alloc (.cells (mgA u m) 35)).alloc (.cells (mgA v m) 35) := ⟨_, rfl⟩
  have p0 : StB w1 w.heap.size 35 (mgA u m) := by rw [hw1]; exact (StB.new w _ _).alloc _
  have p1 : StB w1 (w.heap.size + 1) 35 (mgA v m) := by
    rw [hw1]
    have := StB.new (w.alloc (.cells (mgA u m) 35)) 35 (mgA v m)
    rwa [World.size_alloc] at this
  have b1 : Below w.heap.size w w1 := by rw [hw1]; exact ((Below.refl _ _).alloc (Nat.le_refl _) _).alloc (by simp) _
  have c1 := likeH_any u v m.h m.h w1 (hu.below b1 (Nat.le_refl _)) (hv.below b1 (Nat.le_refl _)) (by omega)
  rw [likeH_same] at c1
  have HB : Hid (Below w.heap.size w w1) := b1
  clear hu hv hl b1
  unfold HV at c1
  unfold MgV
  have k0 : w1.cell? ⟨w.heap.size, 0, none⟩ = some (.int .i64 m.dst) := p0.cell 0 rfl
  have k1 : w1.cell? ⟨w.heap.size, 1, none⟩ = some (.int .i64 m.kd) := p0.cell 1 rfl
  have k2 : w1.cell? ⟨w.heap.size, 2, none⟩ = some (.int .i64 m.tr) := p0.cell 2 rfl
  have k3 : w1.cell? ⟨w.heap.size, 3, none⟩ = some (.int .i64 m.pl) := p0.cell 3 rfl
  have k4 : w1.cell? ⟨w.heap.size, 4, none⟩ = some (.int .i64 m.tn) := p0.cell 4 rfl
  have k5 : w1.cell? ⟨w.heap.size, 5, none⟩ = some (.int .i64 m.va) := p0.cell 5 rfl
  have k6 : w1.cell? ⟨w.heap.size, 6, none⟩ = some (.int .i64 m.ep) := p0.cell 6 rfl
  have l0 : w1.cell? ⟨w.heap.size + 1, 0, none⟩ = some (.int .i64 m.dst) := p1.cell 0 rfl
  have l1 : w1.cell? ⟨w.heap.size + 1, 1, none⟩ = some (.int .i64 m.kd) := p1.cell 1 rfl
  have l2 : w1.cell? ⟨w.heap.size + 1, 2, none⟩ = some (.int .i64 m.tr) := p1.cell 2 rfl
  have l3 : w1.cell? ⟨w.heap.size + 1, 3, none⟩ = some (.int .i64 m.pl) := p1.cell 3 rfl
  have l4 : w1.cell? ⟨w.heap.size + 1, 4, none⟩ = some (.int .i64 m.tn) := p1.cell 4 rfl
  have l5 : w1.cell? ⟨w.heap.size + 1, 5, none⟩ = some (.int .i64 m.va) := p1.cell 5 rfl
  have l6 : w1.cell? ⟨w.heap.size + 1, 6, none⟩ = some (.int .i64 m.ep) := p1.cell 6 rfl
  go_enter Try.func20, Try.ntmps20
  go_upto_region 1 with fail
  rw [← hw1]
  clear hw1
  go_wp2_with (first | (refine wpList_getO Try.isH (by first | rfl | kernel_rfl) _ rfl w.heap.size 7 rfl (hdA u m.h) rfl (mg_hold p0) ?_) | (refine wpList_getO Try.isH (by first | rfl | kernel_rfl) _ rfl (w.heap.size + 1) 7 rfl (hdA v m.h) rfl (mg_hold p1) ?_))
  refine c1.mono ?_
  rintro e w2 ⟨rfl, b2⟩
  replace HB : Hid (Below w.heap.size w w2) := HB.out.trans (b2.mono HB.out.size)
  clear b2 c1 p0 p1
  go_wp2
  go_ret
  exact ⟨rfl, HB.out⟩

set_option maxRecDepth 20000 in
set_option maxHeartbeats 4000000 in
theorem likePost_eq (v v2 : Value) (ps qs : List (Value × Mg)) (w : World) (hr : RdP w v ps) (hr2 : RdP w v2 qs) (he : msOf ps = msOf qs) (hs : SmP ps) (hl : ps.length ≤ 1048576) :
    Calls Try.prog 16 #[v, v2] w fun e w' => e = .returned (.bool true) ∧ Below w.heap.size w w' := by
  have hlen : qs.length = ps.length := by rw [← msOf_len, ← msOf_len, he]
  obtain ⟨ao, cap, rfl⟩ := hr.form
  obtain ⟨ao2, cap2, rfl⟩ := hr2.form
  have HR : Hid (∀ wx, Below w.heap.size w wx → RdP wx (.slice ao ps.length cap) ps) := fun wx b => hr.below b
  have HR2 : Hid (∀ wx, Below w.heap.size w wx → RdP wx (.slice ao2 qs.length cap2) qs) := fun wx b => hr2.below b
  obtain ⟨-, hnc, hcm, -⟩ := hr.el
  obtain ⟨-, hnc2, hcm2, -⟩ := hr2.el
  unfold maxLen at hcm hcm2
  rw [hlen] at HR2 hnc2 ⊢
  clear hr hr2
  obtain ⟨n, hn⟩ : ∃ n, n = ps.length := ⟨_, rfl⟩
  rw [← hn] at HR HR2 hnc hnc2 hl ⊢
  have HN : Hid (n = ps.length) := hn
  have HSm : Hid (SmP ps ∧ msOf ps = msOf qs) := ⟨hs, he⟩
  clear hn hs he hlen
  go_enter Try.func16, Try.ntmps16
  go_wp2
  go_loopw [5] (fun i wr => ∃ j : Nat, j ≤ n ∧ i = .int .i64 j ∧ Hid (Below w.heap.size w wr)) (fun i _ => n - (intOf i).toNat)
  case atStart => exact ⟨0, Nat.zero_le _, rfl, Below.refl _ _⟩
  case round =>
    obtain ⟨j, hj, rfl, HI⟩ := hrel
    by_cases hlt : (j : Int) < (n : Int)
    · obtain ⟨b, off, u, m, he, rfl, hrk, hc⟩ := (HR.out wr HI.out).el.2.2.2 j (by omega)
      obtain ⟨b2, off2, u2, m2, he2, rfl, hrk2, hc2⟩ := (HR2.out wr HI.out).el.2.2.2 j (by omega)
      have hm : m = m2 := by
        have h1 := msOf_at he
        have h2 := msOf_at he2
        rw [HSm.out.2, h2] at h1
        exact (Option.some.inj h1).symm
      subst hm
      have C : Hid (∀ wx, Below wr.heap.size wr wx → Calls Try.prog 20 #[MgV u m, MgV u2 m] wx fun e w' => e = .returned (.bool true) ∧ Below wx.heap.size wx w') := fun wx bb => likeMsg_any u u2 m wx (hrk.below bb (Nat.le_refl _)) (hrk2.below bb (Nat.le_refl _)) (HSm.out.1.at he)
      have q0 : ∀ w', Below wr.heap.size wr w' → w'.cell? ⟨b, off + j * 11, none⟩ = some (.int .i64 m.dst) := fun w' bb => bel_cell bb (hc 0 (by decide))
      have q1 : ∀ w', Below wr.heap.size wr w' → w'.cell? ⟨b, off + j * 11 + 1, none⟩ = some (.int .i64 m.kd) := fun w' bb => bel_cell bb (hc 1 (by decide))
      have q2 : ∀ w', Below wr.heap.size wr w' → w'.cell? ⟨b, off + j * 11 + 2, none⟩ = some (.int .i64 m.tr) := fun w' bb => bel_cell bb (hc 2 (by decide))
      have q3 : ∀ w', Below wr.heap.size wr w' → w'.cell? ⟨b, off + j * 11 + 3, none⟩ = some (.int .i64 m.pl) := fun w' bb => bel_cell bb (hc 3 (by decide))
      have q4 : ∀ w', Below wr.heap.size wr w' → w'.cell? ⟨b, off + j * 11 + 4, none⟩ = some (.int .i64 m.tn) := fun w' bb => bel_cell bb (hc 4 (by decide))
      have q5 : ∀ w', Below wr.heap.size wr w' → w'.cell? ⟨b, off + j * 11 + 5, none⟩ = some (.int .i64 m.va) := fun w' bb => bel_cell bb (hc 5 (by decide))
      have q6 : ∀ w', Below wr.heap.size wr w' → w'.cell? ⟨b, off + j * 11 + 6, none⟩ = some (.int .i64 m.ep) := fun w' bb => bel_cell bb (hc 6 (by decide))
      have q7 : ∀ w', Below wr.heap.size wr w' → w'.cell? ⟨b, off + j * 11 + 7, none⟩ = some (u) := fun w' bb => bel_cell bb (hc 7 (by decide))
      have q8 : ∀ w', Below wr.heap.size wr w' → w'.cell? ⟨b, off + j * 11 + 8, none⟩ = some (.int .i64 m.h.kd) := fun w' bb => bel_cell bb (hc 8 (by decide))
      have q9 : ∀ w', Below wr.heap.size wr w' → w'.cell? ⟨b, off + j * 11 + 9, none⟩ = some (.int .i64 m.h.ho) := fun w' bb => bel_cell bb (hc 9 (by decide))
      have q10 : ∀ w', Below wr.heap.size wr w' → w'.cell? ⟨b, off + j * 11 + 10, none⟩ = some (.int .i64 m.h.tu) := fun w' bb => bel_cell bb (hc 10 (by decide))
      have r0 : ∀ w', Below wr.heap.size wr w' → w'.cell? ⟨b2, off2 + j * 11, none⟩ = some (.int .i64 m.dst) := fun w' bb => bel_cell bb (hc2 0 (by decide))
      have r1 : ∀ w', Below wr.heap.size wr w' → w'.cell? ⟨b2, off2 + j * 11 + 1, none⟩ = some (.int .i64 m.kd) := fun w' bb => bel_cell bb (hc2 1 (by decide))
      have r2 : ∀ w', Below wr.heap.size wr w' → w'.cell? ⟨b2, off2 + j * 11 + 2, none⟩ = some (.int .i64 m.tr) := fun w' bb => bel_cell bb (hc2 2 (by decide))
      have r3 : ∀ w', Below wr.heap.size wr w' → w'.cell? ⟨b2, off2 + j * 11 + 3, none⟩ = some (.int .i64 m.pl) := fun w' bb => bel_cell bb (hc2 3 (by decide))
      have r4 : ∀ w', Below wr.heap.size wr w' → w'.cell? ⟨b2, off2 + j * 11 + 4, none⟩ = some (.int .i64 m.tn) := fun w' bb => bel_cell bb (hc2 4 (by decide))
      have r5 : ∀ w', Below wr.heap.size wr w' → w'.cell? ⟨b2, off2 + j * 11 + 5, none⟩ = some (.int .i64 m.va) := fun w' bb => bel_cell bb (hc2 5 (by decide))
      have r6 : ∀ w', Below wr.heap.size wr w' → w'.cell? ⟨b2, off2 + j * 11 + 6, none⟩ = some (.int .i64 m.ep) := fun w' bb => bel_cell bb (hc2 6 (by decide))
      have r7 : ∀ w', Below wr.heap.size wr w' → w'.cell? ⟨b2, off2 + j * 11 + 7, none⟩ = some (u2) := fun w' bb => bel_cell bb (hc2 7 (by decide))
      have r8 : ∀ w', Below wr.heap.size wr w' → w'.cell? ⟨b2, off2 + j * 11 + 8, none⟩ = some (.int .i64 m.h.kd) := fun w' bb => bel_cell bb (hc2 8 (by decide))
      have r9 : ∀ w', Below wr.heap.size wr w' → w'.cell? ⟨b2, off2 + j * 11 + 9, none⟩ = some (.int .i64 m.h.ho) := fun w' bb => bel_cell bb (hc2 9 (by decide))
      have r10 : ∀ w', Below wr.heap.size wr w' → w'.cell? ⟨b2, off2 + j * 11 + 10, none⟩ = some (.int .i64 m.h.tu) := fun w' bb => bel_cell bb (hc2 10 (by decide))
      have z0 : (0 : Int) ≤ (j : Int) := by omega
      clear hc hc2 hrk hrk2 he he2
      unfold MgV mgA at C
      go_upto_region 6 with fail
      go_region_held3 (fun w' => Below wr.heap.size wr w') (repeat' (first | with_reducible assumption | with_reducible exact Below.refl _ _ | with_reducible refine bel_alloc ?_ | with_reducible refine bel_drew ?_ | with_reducible refine bel_trans ?_ (by with_reducible assumption)))
        (first | (go_at_call 20; refine (C.out _ (by repeat' (first | with_reducible assumption | with_reducible exact Below.refl _ _ | with_reducible refine bel_alloc ?_ | with_reducible refine bel_drew ?_ | with_reducible refine bel_trans ?_ (by with_reducible assumption)))).mono ?_; rintro e w3 ⟨rfl, b3⟩; have B3 : Hid (Below wr.heap.size wr w3) := (show Below wr.heap.size wr w3 from by repeat' (first | with_reducible assumption | with_reducible exact Below.refl _ _ | with_reducible refine bel_alloc ?_ | with_reducible refine bel_drew ?_ | with_reducible refine bel_trans ?_ (by with_reducible assumption)))))
      all_goals
        have HB : Hid (Below w.heap.size w _) := HI.out.trans (B3.out.mono HI.out.size)
        go_wp2
        go_roundw
        case rel => exact ⟨j + 1, by omega, by go_num, HB.out⟩
        case measure => simp [intOf]; omega
    · go_wp2
      go_ret
      exact ⟨rfl, HI.out⟩

set_option maxRecDepth 20000 in
set_option maxHeartbeats 2000000 in
theorem likePost_ne (v v2 : Value) (ps qs : List (Value × Mg)) (w : World) (hr : RdP w v ps) (hr2 : RdP w v2 qs) (he : ps.length ≠ qs.length) :
    Calls Try.prog 16 #[v, v2] w fun e w' => e = .returned (.bool false) ∧ Below w.heap.size w w' := by
  obtain ⟨ao, cap, rfl⟩ := hr.form
  obtain ⟨ao2, cap2, rfl⟩ := hr2.form
  obtain ⟨n, hn⟩ : ∃ n, n = ps.length := ⟨_, rfl⟩
  obtain ⟨k, hk⟩ : ∃ k, k = qs.length := ⟨_, rfl⟩
  rw [← hn, ← hk] at he ⊢
  clear hn hk hr hr2
  have hnk : ((n : Int) != (k : Int)) = true := by simp; omega
  go_enter Try.func16, Try.ntmps16
  go_wp2
  go_ret
  exact ⟨rfl, Below.refl _ _⟩
end Go.Proofs.Ytjbfncjdedigdaa
/- An empty list is marked: nothing is written. -/
namespace Go.Proofs.Ytjbfncjdedigdaa
open Go.ChangeShapes Go.WideShapes Go.ChangeAt Go.RowKit

set_option maxRecDepth 20000 in
set_option maxHeartbeats 400000 in
theorem mark0_any (v : Value) (k : Int) (w : World) (h : Reads w v []) :
    Calls Try.prog 44 #[v, .int .i64 k] w fun e w' => e = .returned (.int .i64 k) ∧ w' = w := by
  obtain ⟨ao, cap, e⟩ := reads_form h
  simp only [List.length_nil] at e
  subst e
  clear h
  go_enter Try.func44, Try.ntmps44
  go_wp2
  go_loop [1, 5] (fun q i => i = .int .i64 0 ∧ q = .int .i64 k) (fun _ _ => 0)
  case atStart => exact ⟨rfl, rfl⟩
  case round =>
    obtain ⟨rfl, rfl⟩ := hrel
    go_wp2
    go_ret
    exact ⟨rfl, rfl⟩

end Go.Proofs.Ytjbfncjdedigdaa
