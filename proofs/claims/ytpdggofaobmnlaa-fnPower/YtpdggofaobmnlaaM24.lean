/- The model's store, on: l12Same, Alike. -/
import Derived.Test.YtpdggofaobmnlaaM16
import Derived.Test.YtpdggofaobmnlaaM23
import Derived.Test.YtpdggofaobmnlaaSDisk2
import Derived.Deep.OwnRows
namespace Go.Proofs.Ytpdggofaobmnlaa
open Go.ChangeShapes Go.WideShapes Go.ChangeAt Go.RowKit

set_option maxRecDepth 20000 in
set_option maxHeartbeats 4000000 in
theorem s12same_any (u v q a b k : Value) (xs ys xt yt : List Int) (h j : Hd) (w : World) (hu : Reads w u xs) (hv : Reads w v ys) (hq : Reads w q h.ks) (ha : Reads w a xt) (hb : Reads w b yt) (hk : Reads w k j.ks) (gx : xs.length ≤ 1099511627776) (gy : ys.length ≤ 1099511627776) (gk : h.ks.length ≤ 1099511627776) :
    Calls Try.prog 40 #[SRV u v q h, SRV a b k j] w fun e w' => e = .returned (.bool (decide (xs = xt) && decide (ys = yt) && h.eqB j)) ∧ Below w.heap.size w w' := by
  obtain ⟨w1, hw1⟩ : ∃ w1, w1 = (w.alloc (.cells (srA u v q h) 30)).alloc (.cells (srA a b k j) 30) := ⟨_, rfl⟩
  have b1 : Below w.heap.size w w1 := by rw [hw1]; exact ((Below.refl _ _).alloc (Nat.le_refl _) _).alloc (by simp) _
  have S1 : Hid (StB w1 w.heap.size 30 (srA u v q h) ∧ StB w1 (w.heap.size + 1) 30 (srA a b k j) ∧ Below w.heap.size w w1) := by
    have a2 := StB.new (w.alloc (.cells (srA u v q h) 30)) 30 (srA a b k j)
    simp only [World.size_alloc] at a2
    exact ⟨by rw [hw1]; exact (StB.new w _ _).alloc _, by rw [hw1]; exact a2, b1⟩
  have C1 : Hid (∀ wx, Below w.heap.size w wx → Calls Try.prog 75 #[u, a] wx fun e w' => e = .returned (.bool (decide (xs = xt))) ∧ ∃ n, w' = wx.drewN n) := fun wx e => ssame_any u a xs xt wx (hu.below e (Nat.le_refl _)) (ha.below e (Nat.le_refl _)) gx
  have C2 : Hid (∀ wx, Below w.heap.size w wx → Calls Try.prog 75 #[v, b] wx fun e w' => e = .returned (.bool (decide (ys = yt))) ∧ ∃ n, w' = wx.drewN n) := fun wx e => ssame_any v b ys yt wx (hv.below e (Nat.le_refl _)) (hb.below e (Nat.le_refl _)) gy
  have C3 : Hid (∀ wx, Below w.heap.size w wx → Calls Try.prog 75 #[q, k] wx fun e w' => e = .returned (.bool (decide (h.ks = j.ks))) ∧ ∃ n, w' = wx.drewN n) := fun wx e => ssame_any q k h.ks j.ks wx (hq.below e (Nat.le_refl _)) (hk.below e (Nat.le_refl _)) gk
  have HE : Hid ((decide (xs = xt) && decide (ys = yt) && h.eqB j) = (decide (xs = xt) && decide (ys = yt) && (decide (h.ks = j.ks) && decide (h.kd = j.kd) && decide (h.ho = j.ho) && decide (h.tu = j.tu)))) := rfl
  obtain ⟨r, hr⟩ : ∃ r, r = (decide (xs = xt) && decide (ys = yt) && h.eqB j) := ⟨_, rfl⟩
  rw [← hr] at HE ⊢
  obtain ⟨e1, he1⟩ : ∃ e1, e1 = decide (xs = xt) := ⟨_, rfl⟩
  obtain ⟨e2, he2⟩ : ∃ e2, e2 = decide (ys = yt) := ⟨_, rfl⟩
  obtain ⟨e3, he3⟩ : ∃ e3, e3 = decide (h.ks = j.ks) := ⟨_, rfl⟩
  rw [← he1, ← he2, ← he3] at HE
  rw [← he1] at C1
  rw [← he2] at C2
  rw [← he3] at C3
  obtain ⟨uo, uc, rfl⟩ := reads_form hu
  obtain ⟨vo, vc, rfl⟩ := reads_form hv
  obtain ⟨qo, qc, rfl⟩ := reads_form hq
  obtain ⟨ao, ac, rfl⟩ := reads_form ha
  obtain ⟨bo, bc, rfl⟩ := reads_form hb
  obtain ⟨ko, kc, rfl⟩ := reads_form hk
  clear hu hv hq ha hb hk gx gy gk hr he1 he2 he3 b1
  unfold SRV srA at *
  go_enter Try.func40, Try.ntmps40
  go_upto_region 1 with fail
  rw [← hw1]
  clear hw1
  have k0 : w1.cell? ⟨w.heap.size, 0, none⟩ = some (.slice uo xs.length uc) := S1.out.1.cell 0 rfl
  have l0 : w1.cell? ⟨w.heap.size + 1, 0, none⟩ = some (.slice ao xt.length ac) := S1.out.2.1.cell 0 rfl
  go_wp2_with fail
  refine (C1.out _ S1.out.2.2).mono ?_
  rintro e w2 ⟨rfl, hw2⟩
  have S2 : Hid (StB w2 w.heap.size 30 (srA (.slice uo xs.length uc) (.slice vo ys.length vc) (.slice qo h.ks.length qc) h) ∧ StB w2 (w.heap.size + 1) 30 (srA (.slice ao xt.length ac) (.slice bo yt.length bc) (.slice ko j.ks.length kc) j) ∧ Below w.heap.size w w2) := by
    obtain ⟨n, rfl⟩ := hw2
    exact ⟨S1.out.1, S1.out.2.1, below_drewN S1.out.2.2 n⟩
  clear S1 hw2 k0 l0 C1
  cases e1 with
  | false =>
    have HR : Hid (r = false) := by rw [Hid, HE.out]; rfl
    have B2 : Hid (Below w.heap.size w w2) := S2.out.2.2
    clear HE S2
    go_wp2
    go_ret
    exact ⟨ret_bool (by rw [HR.out]), B2.out⟩
  | true =>
    have k1 : w2.cell? ⟨w.heap.size, 1, none⟩ = some (.slice vo ys.length vc) := S2.out.1.cell 1 rfl
    have l1 : w2.cell? ⟨w.heap.size + 1, 1, none⟩ = some (.slice bo yt.length bc) := S2.out.2.1.cell 1 rfl
    go_wp2_with fail
    refine (C2.out _ S2.out.2.2).mono ?_
    rintro e w3 ⟨rfl, hw3⟩
    have S3 : Hid (StB w3 w.heap.size 30 (srA (.slice uo xs.length uc) (.slice vo ys.length vc) (.slice qo h.ks.length qc) h) ∧ StB w3 (w.heap.size + 1) 30 (srA (.slice ao xt.length ac) (.slice bo yt.length bc) (.slice ko j.ks.length kc) j) ∧ Below w.heap.size w w3) := by
      obtain ⟨n, rfl⟩ := hw3
      exact ⟨S2.out.1, S2.out.2.1, below_drewN S2.out.2.2 n⟩
    clear S2 hw3 k1 l1 C2
    cases e2 with
    | false =>
      have HR : Hid (r = false) := by rw [Hid, HE.out]; rfl
      have B3 : Hid (Below w.heap.size w w3) := S3.out.2.2
      clear HE S3
      go_wp2
      go_ret
      exact ⟨ret_bool (by rw [HR.out]), B3.out⟩
    | true =>
      have k2 : w3.cell? ⟨w.heap.size, 2, none⟩ = some (.slice qo h.ks.length qc) := S3.out.1.cell 2 rfl
      have l2 : w3.cell? ⟨w.heap.size + 1, 2, none⟩ = some (.slice ko j.ks.length kc) := S3.out.2.1.cell 2 rfl
      go_wp2_with fail
      refine (C3.out _ S3.out.2.2).mono ?_
      rintro e w4 ⟨rfl, hw4⟩
      have S4 : Hid (StB w4 w.heap.size 30 (srA (.slice uo xs.length uc) (.slice vo ys.length vc) (.slice qo h.ks.length qc) h) ∧ StB w4 (w.heap.size + 1) 30 (srA (.slice ao xt.length ac) (.slice bo yt.length bc) (.slice ko j.ks.length kc) j) ∧ Below w.heap.size w w4) := by
        obtain ⟨n, rfl⟩ := hw4
        exact ⟨S3.out.1, S3.out.2.1, below_drewN S3.out.2.2 n⟩
      have B4 : Hid (Below w.heap.size w w4) := S4.out.2.2
      clear S3 hw4 k2 l2 C3
      have k3 : w4.cell? ⟨w.heap.size, 3, none⟩ = some (.int .i64 h.kd) := S4.out.1.cell 3 rfl
      have k4 : w4.cell? ⟨w.heap.size, 4, none⟩ = some (.int .i64 h.ho) := S4.out.1.cell 4 rfl
      have k5 : w4.cell? ⟨w.heap.size, 5, none⟩ = some (.int .i64 h.tu) := S4.out.1.cell 5 rfl
      have l3 : w4.cell? ⟨w.heap.size + 1, 3, none⟩ = some (.int .i64 j.kd) := S4.out.2.1.cell 3 rfl
      have l4 : w4.cell? ⟨w.heap.size + 1, 4, none⟩ = some (.int .i64 j.ho) := S4.out.2.1.cell 4 rfl
      have l5 : w4.cell? ⟨w.heap.size + 1, 5, none⟩ = some (.int .i64 j.tu) := S4.out.2.1.cell 5 rfl
      clear S4
      cases e3 with
      | false =>
        have HR : Hid (r = false) := by rw [Hid, HE.out]; rfl
        clear HE
        go_wp2
        go_ret
        exact ⟨ret_bool (by rw [HR.out]), B4.out⟩
      | true =>
        replace HE : Hid (r = (decide (h.kd = j.kd) && decide (h.ho = j.ho) && decide (h.tu = j.tu))) := by rw [Hid, HE.out]; simp
        obtain ⟨n3, hn3⟩ : ∃ n3, n3 = h.kd := ⟨_, rfl⟩
        obtain ⟨n4, hn4⟩ : ∃ n4, n4 = h.ho := ⟨_, rfl⟩
        obtain ⟨n5, hn5⟩ : ∃ n5, n5 = h.tu := ⟨_, rfl⟩
        obtain ⟨m3, hm3⟩ : ∃ m3, m3 = j.kd := ⟨_, rfl⟩
        obtain ⟨m4, hm4⟩ : ∃ m4, m4 = j.ho := ⟨_, rfl⟩
        obtain ⟨m5, hm5⟩ : ∃ m5, m5 = j.tu := ⟨_, rfl⟩
        rw [← hn3, ← hn4, ← hn5, ← hm3, ← hm4, ← hm5] at HE
        rw [← hn3] at k3
        rw [← hn4] at k4
        rw [← hn5] at k5
        rw [← hm3] at l3
        rw [← hm4] at l4
        rw [← hm5] at l5
        clear hn3 hn4 hn5 hm3 hm4 hm5
        by_cases h3 : n3 = m3
        · by_cases h4 : n4 = m4
          · have HR : Hid (r = decide (n5 = m5)) := by rw [Hid, HE.out]; simp [h3, h4]
            clear HE
            go_wp2
            go_ret
            exact ⟨ret_bool (by rw [HR.out]; by_cases e : n5 = m5 <;> simp [e]), B4.out⟩
          · have HR : Hid (r = false) := by rw [Hid, HE.out]; simp [h4]
            clear HE
            go_wp2
            go_ret
            exact ⟨ret_bool (by rw [HR.out]), B4.out⟩
        · have HR : Hid (r = false) := by rw [Hid, HE.out]; simp [h3]
          clear HE
          go_wp2
          go_ret
          exact ⟨ret_bool (by rw [HR.out]), B4.out⟩

set_option maxRecDepth 20000 in
set_option maxHeartbeats 2000000 in
theorem salike_any (u v q a b k : Value) (xs ys xt yt : List Int) (h j : Hd) (w : World) (hu : Reads w u xs) (hv : Reads w v ys) (hq : Reads w q h.ks) (ha : Reads w a xt) (hb : Reads w b yt) (hk : Reads w k j.ks) (gx : xs.length ≤ 1099511627776) (gy : ys.length ≤ 1099511627776) (gk : h.ks.length ≤ 1099511627776) (lx : xt.length ≤ 1099511627776) (ly : yt.length ≤ 1099511627776) (lk : j.ks.length ≤ 1099511627776) :
    Calls Try.prog 15 #[SRV u v q h, SRV a b k j] w fun e w' => e = .returned (.bool (Sr.alike ⟨xs, ys, h⟩ ⟨xt, yt, j⟩)) ∧ Below w.heap.size w w' := by
  obtain ⟨w1, hw1⟩ : ∃ w1, w1 = (w.alloc (.cells (srA u v q h) 30)).alloc (.cells (srA a b k j) 30) := ⟨_, rfl⟩
  have b1 : Below w.heap.size w w1 := by rw [hw1]; exact ((Below.refl _ _).alloc (Nat.le_refl _) _).alloc (by simp) _
  have S1 : Hid (StB w1 w.heap.size 30 (srA u v q h) ∧ StB w1 (w.heap.size + 1) 30 (srA a b k j) ∧ Below w.heap.size w w1) := by
    have a2 := StB.new (w.alloc (.cells (srA u v q h) 30)) 30 (srA a b k j)
    simp only [World.size_alloc] at a2
    exact ⟨by rw [hw1]; exact (StB.new w _ _).alloc _, by rw [hw1]; exact a2, b1⟩
  have C1 : Hid (∀ wx, Below w.heap.size w wx → Calls Try.prog 16 #[.agg (srA u v q h)] wx fun e w' => e = .returned (.bool (Sr.ok ⟨xs, ys, h⟩)) ∧ Below wx.heap.size wx w') := fun wx e => sstoreok_any u v q xs ys h wx (hu.below e (Nat.le_refl _)) (hv.below e (Nat.le_refl _)) (hq.below e (Nat.le_refl _)) gx gy gk
  have C2 : Hid (∀ wx, Below w.heap.size w wx → Calls Try.prog 16 #[.agg (srA a b k j)] wx fun e w' => e = .returned (.bool (Sr.ok ⟨xt, yt, j⟩)) ∧ Below wx.heap.size wx w') := fun wx e => sstoreok_any a b k xt yt j wx (ha.below e (Nat.le_refl _)) (hb.below e (Nat.le_refl _)) (hk.below e (Nat.le_refl _)) lx ly lk
  have C3 : Hid (∀ wx, Below w.heap.size w wx → Calls Try.prog 40 #[.agg (srA u v q h), .agg (srA a b k j)] wx fun e w' => e = .returned (.bool (decide (xs = xt) && decide (ys = yt) && h.eqB j)) ∧ Below wx.heap.size wx w') := fun wx e => s12same_any u v q a b k xs ys xt yt h j wx (hu.below e (Nat.le_refl _)) (hv.below e (Nat.le_refl _)) (hq.below e (Nat.le_refl _)) (ha.below e (Nat.le_refl _)) (hb.below e (Nat.le_refl _)) (hk.below e (Nat.le_refl _)) gx gy gk
  have HE : Hid (Sr.alike ⟨xs, ys, h⟩ ⟨xt, yt, j⟩ = (Sr.ok ⟨xs, ys, h⟩ && Sr.ok ⟨xt, yt, j⟩ && (decide (xs = xt) && decide (ys = yt) && h.eqB j))) := rfl
  obtain ⟨r, hr⟩ : ∃ r, r = Sr.alike ⟨xs, ys, h⟩ ⟨xt, yt, j⟩ := ⟨_, rfl⟩
  obtain ⟨e1, he1⟩ : ∃ e1, e1 = Sr.ok ⟨xs, ys, h⟩ := ⟨_, rfl⟩
  obtain ⟨e2, he2⟩ : ∃ e2, e2 = Sr.ok ⟨xt, yt, j⟩ := ⟨_, rfl⟩
  obtain ⟨e3, he3⟩ : ∃ e3, e3 = (decide (xs = xt) && decide (ys = yt) && h.eqB j) := ⟨_, rfl⟩
  rw [← hr, ← he1, ← he2, ← he3] at HE
  rw [← hr]
  rw [← he1] at C1
  rw [← he2] at C2
  rw [← he3] at C3
  obtain ⟨uo, uc, rfl⟩ := reads_form hu
  obtain ⟨vo, vc, rfl⟩ := reads_form hv
  obtain ⟨qo, qc, rfl⟩ := reads_form hq
  obtain ⟨ao, ac, rfl⟩ := reads_form ha
  obtain ⟨bo, bc, rfl⟩ := reads_form hb
  obtain ⟨ko, kc, rfl⟩ := reads_form hk
  clear hu hv hq ha hb hk gx gy gk lx ly lk hr he1 he2 he3 b1
  unfold SRV
  unfold srA at *
  go_enter Try.func15, Try.ntmps15
  go_upto_region 1 with fail
  rw [← hw1]
  clear hw1
  go_wp2_with (refine wpList_getS Try.isR rfl _ rfl w.heap.size rfl _ rfl S1.out.1 ?_)
  refine (C1.out _ S1.out.2.2).mono ?_
  rintro e w2 ⟨rfl, b2⟩
  have S2 : Hid (StB w2 w.heap.size 30 (srA (.slice uo xs.length uc) (.slice vo ys.length vc) (.slice qo h.ks.length qc) h) ∧ StB w2 (w.heap.size + 1) 30 (srA (.slice ao xt.length ac) (.slice bo yt.length bc) (.slice ko j.ks.length kc) j) ∧ Below w.heap.size w w2) := ⟨S1.out.1.below b2, S1.out.2.1.below b2, S1.out.2.2.trans (b2.mono S1.out.2.2.size)⟩
  clear S1 b2 C1
  cases e1 with
  | false =>
    have HR : Hid (r = false) := by rw [Hid, HE.out]; rfl
    have B2 : Hid (Below w.heap.size w w2) := S2.out.2.2
    clear HE S2
    go_wp2
    go_ret
    exact ⟨ret_bool (by rw [HR.out]), B2.out⟩
  | true =>
    have j0 : w2.cell? ⟨w.heap.size + 1, 0, none⟩ = some (.slice ao xt.length ac) := S2.out.2.1.cell 0 rfl
    have j1 : w2.cell? ⟨w.heap.size + 1, 1, none⟩ = some (.slice bo yt.length bc) := S2.out.2.1.cell 1 rfl
    have j2 : w2.cell? ⟨w.heap.size + 1, 2, none⟩ = some (.slice ko j.ks.length kc) := S2.out.2.1.cell 2 rfl
    have j3 : w2.cell? ⟨w.heap.size + 1, 3, none⟩ = some (.int .i64 j.kd) := S2.out.2.1.cell 3 rfl
    have j4 : w2.cell? ⟨w.heap.size + 1, 4, none⟩ = some (.int .i64 j.ho) := S2.out.2.1.cell 4 rfl
    have j5 : w2.cell? ⟨w.heap.size + 1, 5, none⟩ = some (.int .i64 j.tu) := S2.out.2.1.cell 5 rfl
    go_wp2_with fail
    refine (C2.out _ S2.out.2.2).mono ?_
    rintro e w3 ⟨rfl, b3⟩
    have S3 : Hid (StB w3 w.heap.size 30 (srA (.slice uo xs.length uc) (.slice vo ys.length vc) (.slice qo h.ks.length qc) h) ∧ StB w3 (w.heap.size + 1) 30 (srA (.slice ao xt.length ac) (.slice bo yt.length bc) (.slice ko j.ks.length kc) j) ∧ Below w.heap.size w w3) := ⟨S2.out.1.below b3, S2.out.2.1.below b3, S2.out.2.2.trans (b3.mono S2.out.2.2.size)⟩
    clear S2 b3 C2 j0 j1 j2 j3 j4 j5
    cases e2 with
    | false =>
      have HR : Hid (r = false) := by rw [Hid, HE.out]; rfl
      have B3 : Hid (Below w.heap.size w w3) := S3.out.2.2
      clear HE S3
      go_wp2
      go_ret
      exact ⟨ret_bool (by rw [HR.out]), B3.out⟩
    | true =>
      have HR : Hid (r = e3) := by rw [Hid, HE.out]; rfl
      have i0 : w3.cell? ⟨w.heap.size, 0, none⟩ = some (.slice uo xs.length uc) := S3.out.1.cell 0 rfl
      have i1 : w3.cell? ⟨w.heap.size, 1, none⟩ = some (.slice vo ys.length vc) := S3.out.1.cell 1 rfl
      have i2 : w3.cell? ⟨w.heap.size, 2, none⟩ = some (.slice qo h.ks.length qc) := S3.out.1.cell 2 rfl
      have i3 : w3.cell? ⟨w.heap.size, 3, none⟩ = some (.int .i64 h.kd) := S3.out.1.cell 3 rfl
      have i4 : w3.cell? ⟨w.heap.size, 4, none⟩ = some (.int .i64 h.ho) := S3.out.1.cell 4 rfl
      have i5 : w3.cell? ⟨w.heap.size, 5, none⟩ = some (.int .i64 h.tu) := S3.out.1.cell 5 rfl
      have j0 : w3.cell? ⟨w.heap.size + 1, 0, none⟩ = some (.slice ao xt.length ac) := S3.out.2.1.cell 0 rfl
      have j1 : w3.cell? ⟨w.heap.size + 1, 1, none⟩ = some (.slice bo yt.length bc) := S3.out.2.1.cell 1 rfl
      have j2 : w3.cell? ⟨w.heap.size + 1, 2, none⟩ = some (.slice ko j.ks.length kc) := S3.out.2.1.cell 2 rfl
      have j3 : w3.cell? ⟨w.heap.size + 1, 3, none⟩ = some (.int .i64 j.kd) := S3.out.2.1.cell 3 rfl
      have j4 : w3.cell? ⟨w.heap.size + 1, 4, none⟩ = some (.int .i64 j.ho) := S3.out.2.1.cell 4 rfl
      have j5 : w3.cell? ⟨w.heap.size + 1, 5, none⟩ = some (.int .i64 j.tu) := S3.out.2.1.cell 5 rfl
      clear HE
      go_wp2_with fail
      refine (C3.out _ S3.out.2.2).mono ?_
      rintro e w4 ⟨rfl, b4⟩
      have B4 : Hid (Below w.heap.size w w4) := S3.out.2.2.trans (b4.mono S3.out.2.2.size)
      clear S3 b4 C3 i0 i1 i2 i3 i4 i5 j0 j1 j2 j3 j4 j5
      go_wp2
      go_ret
      exact ⟨ret_bool (by rw [HR.out]), B4.out⟩
end Go.Proofs.Ytpdggofaobmnlaa
/- Disks: the model's Written and NewDisk. -/
namespace Go.Proofs.Ytpdggofaobmnlaa
open Go.ChangeShapes Go.WideShapes Go.ChangeAt Go.RowKit

theorem ownZeros (w : World) (base k : Nat) (h8 : k ≤ 8) (hb : base ≤ w.heap.size) : Own (w.alloc (.cells (madeCells #[Value.int .i64 0] k) 2)) base (.slice (some ⟨w.heap.size, 0, none⟩) k k) (List.replicate k 0) := by
  have hsz : (madeCells #[Value.int .i64 0] k).size = k := by
    have := congrArg List.length (zeros_eq k)
    simpa using this
  have := World.ownsRow_lit (base := base) (e := 2) (size := 1) w (madeCells #[Value.int .i64 0] k) k hb (by unfold maxLen; omega) (by rw [hsz]; omega)
  unfold Own
  rw [← zeros_eq, List.length_replicate]
  exact this

theorem twoZeros (w : World) (o : Obj) (k : Nat) (h8 : k ≤ 8) :
    Own ((((w.alloc o).alloc (.cells (madeCells #[.int .i64 0] k) 2)).alloc (.cells (madeCells #[.int .i64 0] k) 2)).drew) w.heap.size (.slice (some ⟨w.heap.size + 1, 0, none⟩) k k) (List.replicate k 0) ∧
    Own ((((w.alloc o).alloc (.cells (madeCells #[.int .i64 0] k) 2)).alloc (.cells (madeCells #[.int .i64 0] k) 2)).drew) w.heap.size (.slice (some ⟨w.heap.size + 1 + 1, 0, none⟩) k k) (List.replicate k 0) ∧
    Below w.heap.size w ((((w.alloc o).alloc (.cells (madeCells #[.int .i64 0] k) 2)).alloc (.cells (madeCells #[.int .i64 0] k) 2)).drew) := by
  refine ⟨?_, ?_, below_drewN ((((Below.refl _ _).alloc (Nat.le_refl _) _).alloc (by simp) _).alloc (by simp; omega) _) 1⟩
  · have := (ownZeros (w.alloc o) w.heap.size k h8 (by simp)).below (belowAlloc _ (.cells (madeCells #[.int .i64 0] k) 2))
    show Own (((w.alloc o).alloc _).alloc _) _ _ _
    simpa using this
  · have := (ownZeros ((w.alloc o).alloc (.cells (madeCells #[.int .i64 0] k) 2)) w.heap.size k h8 (by simp; omega))
    show Own (((w.alloc o).alloc _).alloc _) _ _ _
    simpa using this

set_option maxRecDepth 20000 in
set_option maxHeartbeats 2000000 in
theorem snewDisk_any (n : Int) (w : World) :
    Calls Try.prog 54 #[.int .i64 n] w fun e w' => ∃ a b, e = .returned (.tuple #[.agg #[a, b], .bool (cntOk n)]) ∧ OwnD w' w.heap.size a b (zerosI n) (zerosI n) ∧ Below w.heap.size w w' := by
  by_cases hc : cntOk n = true
  · obtain ⟨k, rfl⟩ : ∃ k : Nat, n = k := ⟨n.toNat, by simp [cntOk] at hc; omega⟩
    have h8 : (1 : Int) ≤ k ∧ (k : Int) ≤ 8 := by simp [cntOk] at hc; omega
    have HZ : Hid (zerosI k = List.replicate k 0) := by simp only [Hid, zerosI]; rw [if_pos (by omega)]; simp
    rw [hc]
    obtain ⟨h1, h8⟩ := h8
    have hm : ∀ w : World, (Instr.makeSlice 24 (.int .i64 (k : Int)) (.int .i64 (k : Int))).run Try.prog w = .ok (.slice (some ⟨w.heap.size, 0, none⟩) k k) (w.alloc (.cells (madeCells #[.int .i64 0] k) 2)) := fun w => run_make_row' 24 2 (.int .i64 0) 8 Try.underlying24 Try.infoI rfl .i64 .i64 k (by omega) (by omega) w
    clear hc
    go_enter Try.func54, Try.ntmps54
    go_wp2_with (go_at_call 71; go_in)
    go_region
    all_goals
      clear hm
      go_wp2_with fail
    · refine bodyPost_ret (results_pair2 rfl _ _ w.heap.size _ _ _ rfl rfl (((Pair.new w _ _ _).alloc _).alloc _)) rfl ?_
      have Z := twoZeros w (.cells #[.slice (some ⟨w.heap.size + 1, 0, none⟩) k k, .slice (some ⟨w.heap.size + 1 + 1, 0, none⟩) k k] 26) k (by omega)
      rw [HZ.out]
      exact ⟨_, _, rfl, ⟨Z.1, Z.2.1, .inr (by simp [Value.ownBlock]), .inr (by simp [Value.ownBlock])⟩, Z.2.2⟩
    · refine bodyPost_ret (results_pair2 rfl _ _ w.heap.size _ _ _ rfl rfl (((Pair.new w _ _ _).alloc _).alloc _)) rfl ?_
      have Z := twoZeros w (.cells #[.slice (some ⟨w.heap.size + 1 + 1, 0, none⟩) k k, .slice (some ⟨w.heap.size + 1, 0, none⟩) k k] 26) k (by omega)
      rw [HZ.out]
      exact ⟨_, _, rfl, ⟨Z.2.1, Z.1, .inr (by simp [Value.ownBlock]), .inr (by simp [Value.ownBlock])⟩, Z.2.2⟩
  · have hc' : cntOk n = false := by simpa using hc
    have HZ : Hid (zerosI n = []) := by simp [Hid, zerosI]; simp [cntOk] at hc'; omega
    have hn : ¬ 1 ≤ n ∨ ¬ n ≤ 8 := by simp [cntOk] at hc'; omega
    rw [hc']
    clear hc hc'
    have fin : ∀ w' : World, Below w.heap.size w w' → OwnD w' w.heap.size (.slice none 0 0) (.slice none 0 0) (zerosI n) (zerosI n) ∧ Below w.heap.size w w' := fun w' b => ⟨by rw [HZ.out]; exact ownNil2 _ _, b⟩
    rcases hn with hn | hn
    all_goals
      go_enter Try.func54, Try.ntmps54
      go_wp2_with (go_at_call 71; go_in)
      refine bodyPost_ret (results_pair2 rfl _ _ w.heap.size _ _ _ rfl rfl (Pair.new w _ _ _)) rfl ?_
      exact ⟨_, _, rfl, fin _ (belowAlloc w _)⟩
end Go.Proofs.Ytpdggofaobmnlaa
