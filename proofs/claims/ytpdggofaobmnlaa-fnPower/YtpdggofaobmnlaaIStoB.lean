/- The program's stores held against each other: disksAlike, holdingsAlike, Alike. -/
import Derived.Test.YtpdggofaobmnlaaIStoA
namespace Go.Proofs.Ytpdggofaobmnlaa
open Go.ChangeShapes Go.WideShapes Go.ChangeAt Go.RowKit

set_option maxRecDepth 20000 in
set_option maxHeartbeats 1000000 in
theorem idisksAlike_any (u v a b : Value) (xs ys xt yt : List Int) (w : World) (hu : Reads w u xs) (hv : Reads w v ys) (ha : Reads w a xt) (hb : Reads w b yt) (gx : xs.length ≤ 1099511627776) (gy : ys.length ≤ 1099511627776) :
    Calls Try.prog 38 #[.agg #[u, v], .agg #[a, b]] w fun e w' => e = .returned (.bool (decide (xs = xt) && decide (ys = yt))) ∧ Below w.heap.size w w' := by
  obtain ⟨w1, hw1⟩ : ∃ w1, w1 = (w.alloc (.cells #[u, v] 26)).alloc (.cells #[a, b] 26) := ⟨_, rfl⟩
  have b1 : Below w.heap.size w w1 := by rw [hw1]; exact ((Below.refl _ _).alloc (Nat.le_refl _) _).alloc (by simp) _
  have S1 : Hid (StB w1 w.heap.size 26 #[u, v] ∧ StB w1 (w.heap.size + 1) 26 #[a, b] ∧ Below w.heap.size w w1) := by
    have a2 := StB.new (w.alloc (.cells #[u, v] 26)) 26 #[a, b]
    simp only [World.size_alloc] at a2
    exact ⟨by rw [hw1]; exact (StB.new w _ _).alloc _, by rw [hw1]; exact a2, b1⟩
  have C1 : Hid (∀ wx, Below w.heap.size w wx → Calls Try.prog 74 #[u, a] wx fun e w' => e = .returned (.bool (decide (xs = xt))) ∧ ∃ n, w' = wx.drewN n) := fun wx e => iequal_any u a xs xt wx (hu.below e (Nat.le_refl _)) (ha.below e (Nat.le_refl _)) gx
  have C2 : Hid (∀ wx, Below w.heap.size w wx → Calls Try.prog 74 #[v, b] wx fun e w' => e = .returned (.bool (decide (ys = yt))) ∧ ∃ n, w' = wx.drewN n) := fun wx e => iequal_any v b ys yt wx (hv.below e (Nat.le_refl _)) (hb.below e (Nat.le_refl _)) gy
  obtain ⟨e1, he1⟩ : ∃ e1, e1 = decide (xs = xt) := ⟨_, rfl⟩
  obtain ⟨e2, he2⟩ : ∃ e2, e2 = decide (ys = yt) := ⟨_, rfl⟩
  rw [← he1, ← he2]
  rw [← he1] at C1
  rw [← he2] at C2
  obtain ⟨uo, uc, rfl⟩ := reads_form hu
  obtain ⟨vo, vc, rfl⟩ := reads_form hv
  obtain ⟨ao, ac, rfl⟩ := reads_form ha
  obtain ⟨bo, bc, rfl⟩ := reads_form hb
  clear hu hv ha hb gx gy he1 he2 b1
  go_enter Try.func38, Try.ntmps38
  go_upto_region 1 with fail
  rw [← hw1]
  clear hw1
  have k0 : w1.cell? ⟨w.heap.size, 0, none⟩ = some (.slice uo xs.length uc) := S1.out.1.cell 0 rfl
  have l0 : w1.cell? ⟨w.heap.size + 1, 0, none⟩ = some (.slice ao xt.length ac) := S1.out.2.1.cell 0 rfl
  go_wp2_with fail
  refine (C1.out _ S1.out.2.2).mono ?_
  rintro e w2 ⟨rfl, hw2⟩
  have S2 : Hid (StB w2 w.heap.size 26 #[.slice uo xs.length uc, .slice vo ys.length vc] ∧ StB w2 (w.heap.size + 1) 26 #[.slice ao xt.length ac, .slice bo yt.length bc] ∧ Below w.heap.size w w2) := by
    obtain ⟨n, rfl⟩ := hw2
    exact ⟨S1.out.1, S1.out.2.1, below_drewN S1.out.2.2 n⟩
  clear S1 hw2 k0 l0 C1
  cases e1 with
  | false =>
    have B2 : Hid (Below w.heap.size w w2) := S2.out.2.2
    clear S2
    go_wp2
    go_ret
    exact ⟨rfl, B2.out⟩
  | true =>
    have k1 : w2.cell? ⟨w.heap.size, 1, none⟩ = some (.slice vo ys.length vc) := S2.out.1.cell 1 rfl
    have l1 : w2.cell? ⟨w.heap.size + 1, 1, none⟩ = some (.slice bo yt.length bc) := S2.out.2.1.cell 1 rfl
    go_wp2_with fail
    refine (C2.out _ S2.out.2.2).mono ?_
    rintro e w3 ⟨rfl, hw3⟩
    have B3 : Hid (Below w.heap.size w w3) := by
      obtain ⟨n, rfl⟩ := hw3
      exact below_drewN S2.out.2.2 n
    clear S2 hw3 k1 l1 C2
    go_wp2
    go_ret
    exact ⟨ret_bool (by simp), B3.out⟩

set_option maxRecDepth 20000 in
set_option maxHeartbeats 2000000 in
theorem iholdsAlike_any (q k : Value) (h j : Hd) (w : World) (hq : Reads w q h.ks) (hk : Reads w k j.ks) (gk : h.ks.length ≤ 1099511627776) :
    Calls Try.prog 39 #[HV q h, HV k j] w fun e w' => e = .returned (.bool (h.eqB j)) ∧ Below w.heap.size w w' := by
  obtain ⟨w1, hw1⟩ : ∃ w1, w1 = (w.alloc (.cells (hdA q h) 28)).alloc (.cells (hdA k j) 28) := ⟨_, rfl⟩
  have b1 : Below w.heap.size w w1 := by rw [hw1]; exact ((Below.refl _ _).alloc (Nat.le_refl _) _).alloc (by simp) _
  have S1 : Hid (StB w1 w.heap.size 28 (hdA q h) ∧ StB w1 (w.heap.size + 1) 28 (hdA k j) ∧ Below w.heap.size w w1) := by
    have a2 := StB.new (w.alloc (.cells (hdA q h) 28)) 28 (hdA k j)
    simp only [World.size_alloc] at a2
    exact ⟨by rw [hw1]; exact (StB.new w _ _).alloc _, by rw [hw1]; exact a2, b1⟩
  have C3 : Hid (∀ wx, Below w.heap.size w wx → Calls Try.prog 74 #[q, k] wx fun e w' => e = .returned (.bool (decide (h.ks = j.ks))) ∧ ∃ n, w' = wx.drewN n) := fun wx e => iequal_any q k h.ks j.ks wx (hq.below e (Nat.le_refl _)) (hk.below e (Nat.le_refl _)) gk
  have HE : Hid (h.eqB j = (decide (h.ks = j.ks) && decide (h.kd = j.kd) && decide (h.ho = j.ho) && decide (h.tu = j.tu))) := rfl
  obtain ⟨r, hr⟩ : ∃ r, r = h.eqB j := ⟨_, rfl⟩
  rw [← hr] at HE ⊢
  obtain ⟨e3, he3⟩ : ∃ e3, e3 = decide (h.ks = j.ks) := ⟨_, rfl⟩
  rw [← he3] at HE C3
  obtain ⟨qo, qc, rfl⟩ := reads_form hq
  obtain ⟨ko, kc, rfl⟩ := reads_form hk
  clear hq hk gk hr he3 b1
  unfold HV hdA at *
  go_enter Try.func39, Try.ntmps39
  go_upto_region 1 with fail
  rw [← hw1]
  clear hw1
  have k2 : w1.cell? ⟨w.heap.size, 0, none⟩ = some (.slice qo h.ks.length qc) := S1.out.1.cell 0 rfl
  have l2 : w1.cell? ⟨w.heap.size + 1, 0, none⟩ = some (.slice ko j.ks.length kc) := S1.out.2.1.cell 0 rfl
  go_wp2_with fail
  refine (C3.out _ S1.out.2.2).mono ?_
  rintro e w4 ⟨rfl, hw4⟩
  have S4 : Hid (StB w4 w.heap.size 28 #[.slice qo h.ks.length qc, .int .i64 h.kd, .int .i64 h.ho, .int .i64 h.tu] ∧ StB w4 (w.heap.size + 1) 28 #[.slice ko j.ks.length kc, .int .i64 j.kd, .int .i64 j.ho, .int .i64 j.tu] ∧ Below w.heap.size w w4) := by
    obtain ⟨n, rfl⟩ := hw4
    exact ⟨S1.out.1, S1.out.2.1, below_drewN S1.out.2.2 n⟩
  have B4 : Hid (Below w.heap.size w w4) := S4.out.2.2
  clear S1 hw4 k2 l2 C3
  have k3 : w4.cell? ⟨w.heap.size, 1, none⟩ = some (.int .i64 h.kd) := S4.out.1.cell 1 rfl
  have k4 : w4.cell? ⟨w.heap.size, 2, none⟩ = some (.int .i64 h.ho) := S4.out.1.cell 2 rfl
  have k5 : w4.cell? ⟨w.heap.size, 3, none⟩ = some (.int .i64 h.tu) := S4.out.1.cell 3 rfl
  have l3 : w4.cell? ⟨w.heap.size + 1, 1, none⟩ = some (.int .i64 j.kd) := S4.out.2.1.cell 1 rfl
  have l4 : w4.cell? ⟨w.heap.size + 1, 2, none⟩ = some (.int .i64 j.ho) := S4.out.2.1.cell 2 rfl
  have l5 : w4.cell? ⟨w.heap.size + 1, 3, none⟩ = some (.int .i64 j.tu) := S4.out.2.1.cell 3 rfl
  clear S4
  cases e3 with
  | false =>
    have HR : Hid (r = false) := by rw [Hid, HE.out]; rfl
    clear HE
    go_wp2
    go_ret
    exact ⟨ret_bool (by rw [HR.out]), B4.out⟩
  | true =>
    replace HE : Hid (r = (decide (h.kd = j.kd) && decide (h.ho = j.ho) && decide (h.tu = j.tu))) := by rw [Hid, HE.out]; simp
    obtain ⟨n3, hn3⟩ : ∃ n3, n3 = h.kd := ⟨_, rfl⟩
    obtain ⟨n4, hn4⟩ : ∃ n4, n4 = h.ho := ⟨_, rfl⟩
    obtain ⟨n5, hn5⟩ : ∃ n5, n5 = h.tu := ⟨_, rfl⟩
    obtain ⟨m3, hm3⟩ : ∃ m3, m3 = j.kd := ⟨_, rfl⟩
    obtain ⟨m4, hm4⟩ : ∃ m4, m4 = j.ho := ⟨_, rfl⟩
    obtain ⟨m5, hm5⟩ : ∃ m5, m5 = j.tu := ⟨_, rfl⟩
    rw [← hn3, ← hn4, ← hn5, ← hm3, ← hm4, ← hm5] at HE
    rw [← hn3] at k3
    rw [← hn4] at k4
    rw [← hn5] at k5
    rw [← hm3] at l3
    rw [← hm4] at l4
    rw [← hm5] at l5
    clear hn3 hn4 hn5 hm3 hm4 hm5
    by_cases h3 : n3 = m3
    · by_cases h4 : n4 = m4
      · have HR : Hid (r = decide (n5 = m5)) := by rw [Hid, HE.out]; simp [h3, h4]
        clear HE
        go_wp2
        go_ret
        exact ⟨ret_bool (by rw [HR.out]; by_cases e : n5 = m5 <;> simp [e]), B4.out⟩
      · have HR : Hid (r = false) := by rw [Hid, HE.out]; simp [h4]
        clear HE
        go_wp2
        go_ret
        exact ⟨ret_bool (by rw [HR.out]), B4.out⟩
    · have HR : Hid (r = false) := by rw [Hid, HE.out]; simp [h3]
      clear HE
      go_wp2
      go_ret
      exact ⟨ret_bool (by rw [HR.out]), B4.out⟩

set_option maxRecDepth 20000 in
set_option maxHeartbeats 2000000 in
theorem ialike_any (u v q a b k : Value) (xs ys xt yt : List Int) (h j : Hd) (w : World) (hu : Reads w u xs) (hv : Reads w v ys) (hq : Reads w q h.ks) (ha : Reads w a xt) (hb : Reads w b yt) (hk : Reads w k j.ks) (gx : xs.length ≤ 1099511627776) (gy : ys.length ≤ 1099511627776) (gk : h.ks.length ≤ 1099511627776) (lx : xt.length ≤ 1099511627776) (ly : yt.length ≤ 1099511627776) (lk : j.ks.length ≤ 1099511627776) :
    Calls Try.prog 14 #[SRV u v q h, SRV a b k j] w fun e w' => e = .returned (.bool (Sr.alike ⟨xs, ys, h⟩ ⟨xt, yt, j⟩)) ∧ Below w.heap.size w w' := by
  obtain ⟨w1, hw1⟩ : ∃ w1, w1 = (w.alloc (.cells (srA u v q h) 30)).alloc (.cells (srA a b k j) 30) := ⟨_, rfl⟩
  have b1 : Below w.heap.size w w1 := by rw [hw1]; exact ((Below.refl _ _).alloc (Nat.le_refl _) _).alloc (by simp) _
  have S1 : Hid (StB w1 w.heap.size 30 (srA u v q h) ∧ StB w1 (w.heap.size + 1) 30 (srA a b k j) ∧ Below w.heap.size w w1) := by
    have a2 := StB.new (w.alloc (.cells (srA u v q h) 30)) 30 (srA a b k j)
    simp only [World.size_alloc] at a2
    exact ⟨by rw [hw1]; exact (StB.new w _ _).alloc _, by rw [hw1]; exact a2, b1⟩
  have C1 : Hid (∀ wx, Below w.heap.size w wx → Calls Try.prog 18 #[.agg (srA u v q h)] wx fun e w' => e = .returned (.bool (Sr.ok ⟨xs, ys, h⟩)) ∧ Below wx.heap.size wx w') := fun wx e => istoreok_any u v q xs ys h wx (hu.below e (Nat.le_refl _)) (hv.below e (Nat.le_refl _)) (hq.below e (Nat.le_refl _)) gx gy gk
  have C2 : Hid (∀ wx, Below w.heap.size w wx → Calls Try.prog 18 #[.agg (srA a b k j)] wx fun e w' => e = .returned (.bool (Sr.ok ⟨xt, yt, j⟩)) ∧ Below wx.heap.size wx w') := fun wx e => istoreok_any a b k xt yt j wx (ha.below e (Nat.le_refl _)) (hb.below e (Nat.le_refl _)) (hk.below e (Nat.le_refl _)) lx ly lk
  have C3 : Hid (∀ wx, Below w.heap.size w wx → Calls Try.prog 38 #[.agg #[u, v], .agg #[a, b]] wx fun e w' => e = .returned (.bool (decide (xs = xt) && decide (ys = yt))) ∧ Below wx.heap.size wx w') := fun wx e => idisksAlike_any u v a b xs ys xt yt wx (hu.below e (Nat.le_refl _)) (hv.below e (Nat.le_refl _)) (ha.below e (Nat.le_refl _)) (hb.below e (Nat.le_refl _)) gx gy
  have C4 : Hid (∀ wx, Below w.heap.size w wx → Calls Try.prog 39 #[.agg (hdA q h), .agg (hdA k j)] wx fun e w' => e = .returned (.bool (h.eqB j)) ∧ Below wx.heap.size wx w') := fun wx e => iholdsAlike_any q k h j wx (hq.below e (Nat.le_refl _)) (hk.below e (Nat.le_refl _)) gk
  have HE : Hid (Sr.alike ⟨xs, ys, h⟩ ⟨xt, yt, j⟩ = (Sr.ok ⟨xs, ys, h⟩ && Sr.ok ⟨xt, yt, j⟩ && (decide (xs = xt) && decide (ys = yt)) && h.eqB j)) := by simp [Hid, Sr.alike, Bool.and_assoc]
  obtain ⟨r, hr⟩ : ∃ r, r = Sr.alike ⟨xs, ys, h⟩ ⟨xt, yt, j⟩ := ⟨_, rfl⟩
  obtain ⟨e1, he1⟩ : ∃ e1, e1 = Sr.ok ⟨xs, ys, h⟩ := ⟨_, rfl⟩
  obtain ⟨e2, he2⟩ : ∃ e2, e2 = Sr.ok ⟨xt, yt, j⟩ := ⟨_, rfl⟩
  obtain ⟨e3, he3⟩ : ∃ e3, e3 = (decide (xs = xt) && decide (ys = yt)) := ⟨_, rfl⟩
  obtain ⟨e4, he4⟩ : ∃ e4, e4 = h.eqB j := ⟨_, rfl⟩
  rw [← hr, ← he1, ← he2, ← he3, ← he4] at HE
  rw [← hr]
  rw [← he1] at C1
  rw [← he2] at C2
  rw [← he3] at C3
  rw [← he4] at C4
  obtain ⟨uo, uc, rfl⟩ := reads_form hu
  obtain ⟨vo, vc, rfl⟩ := reads_form hv
  obtain ⟨qo, qc, rfl⟩ := reads_form hq
  obtain ⟨ao, ac, rfl⟩ := reads_form ha
  obtain ⟨bo, bc, rfl⟩ := reads_form hb
  obtain ⟨ko, kc, rfl⟩ := reads_form hk
  clear hu hv hq ha hb hk gx gy gk lx ly lk hr he1 he2 he3 he4 b1
  unfold SRV
  unfold srA at *
  unfold hdA at C4
  go_enter Try.func14, Try.ntmps14
  go_upto_region 1 with fail
  rw [← hw1]
  clear hw1
  go_wp2_with (refine wpList_getS Try.isR rfl _ rfl w.heap.size rfl _ rfl S1.out.1 ?_)
  refine (C1.out _ S1.out.2.2).mono ?_
  rintro e w2 ⟨rfl, b2⟩
  have S2 : Hid (StB w2 w.heap.size 30 #[.slice uo xs.length uc, .slice vo ys.length vc, .slice qo h.ks.length qc, .int .i64 h.kd, .int .i64 h.ho, .int .i64 h.tu] ∧ StB w2 (w.heap.size + 1) 30 #[.slice ao xt.length ac, .slice bo yt.length bc, .slice ko j.ks.length kc, .int .i64 j.kd, .int .i64 j.ho, .int .i64 j.tu] ∧ Below w.heap.size w w2) := ⟨S1.out.1.below b2, S1.out.2.1.below b2, S1.out.2.2.trans (b2.mono S1.out.2.2.size)⟩
  clear S1 b2 C1
  cases e1 with
  | false =>
    have HR : Hid (r = false) := by rw [Hid, HE.out]; rfl
    have B2 : Hid (Below w.heap.size w w2) := S2.out.2.2
    clear HE S2 C2 C3 C4
    go_wp2
    go_ret
    exact ⟨ret_bool (by rw [HR.out]), B2.out⟩
  | true =>
    have l0 : w2.cell? ⟨w.heap.size + 1, 0, none⟩ = some (.slice ao xt.length ac) := S2.out.2.1.cell 0 rfl
    have l1 : w2.cell? ⟨w.heap.size + 1, 1, none⟩ = some (.slice bo yt.length bc) := S2.out.2.1.cell 1 rfl
    have l2 : w2.cell? ⟨w.heap.size + 1, 2, none⟩ = some (.slice ko j.ks.length kc) := S2.out.2.1.cell 2 rfl
    have l3 : w2.cell? ⟨w.heap.size + 1, 3, none⟩ = some (.int .i64 j.kd) := S2.out.2.1.cell 3 rfl
    have l4 : w2.cell? ⟨w.heap.size + 1, 4, none⟩ = some (.int .i64 j.ho) := S2.out.2.1.cell 4 rfl
    have l5 : w2.cell? ⟨w.heap.size + 1, 5, none⟩ = some (.int .i64 j.tu) := S2.out.2.1.cell 5 rfl
    go_wp2_with fail
    refine (C2.out _ S2.out.2.2).mono ?_
    rintro e w3 ⟨rfl, b3⟩
    have S3 : Hid (StB w3 w.heap.size 30 #[.slice uo xs.length uc, .slice vo ys.length vc, .slice qo h.ks.length qc, .int .i64 h.kd, .int .i64 h.ho, .int .i64 h.tu] ∧ StB w3 (w.heap.size + 1) 30 #[.slice ao xt.length ac, .slice bo yt.length bc, .slice ko j.ks.length kc, .int .i64 j.kd, .int .i64 j.ho, .int .i64 j.tu] ∧ Below w.heap.size w w3) := ⟨S2.out.1.below b3, S2.out.2.1.below b3, S2.out.2.2.trans (b3.mono S2.out.2.2.size)⟩
    clear S2 b3 C2 l0 l1 l2 l3 l4 l5
    cases e2 with
    | false =>
      have HR : Hid (r = false) := by rw [Hid, HE.out]; rfl
      have B3 : Hid (Below w.heap.size w w3) := S3.out.2.2
      clear HE S3 C3 C4
      go_wp2
      go_ret
      exact ⟨ret_bool (by rw [HR.out]), B3.out⟩
    | true =>
      have k0 : w3.cell? ⟨w.heap.size, 0, none⟩ = some (.slice uo xs.length uc) := S3.out.1.cell 0 rfl
      have k1 : w3.cell? ⟨w.heap.size, 1, none⟩ = some (.slice vo ys.length vc) := S3.out.1.cell 1 rfl
      have l0 : w3.cell? ⟨w.heap.size + 1, 0, none⟩ = some (.slice ao xt.length ac) := S3.out.2.1.cell 0 rfl
      have l1 : w3.cell? ⟨w.heap.size + 1, 1, none⟩ = some (.slice bo yt.length bc) := S3.out.2.1.cell 1 rfl
      go_wp2_with fail
      refine (C3.out _ S3.out.2.2).mono ?_
      rintro e w4 ⟨rfl, b4⟩
      have S4 : Hid (StB w4 w.heap.size 30 #[.slice uo xs.length uc, .slice vo ys.length vc, .slice qo h.ks.length qc, .int .i64 h.kd, .int .i64 h.ho, .int .i64 h.tu] ∧ StB w4 (w.heap.size + 1) 30 #[.slice ao xt.length ac, .slice bo yt.length bc, .slice ko j.ks.length kc, .int .i64 j.kd, .int .i64 j.ho, .int .i64 j.tu] ∧ Below w.heap.size w w4) := ⟨S3.out.1.below b4, S3.out.2.1.below b4, S3.out.2.2.trans (b4.mono S3.out.2.2.size)⟩
      clear S3 b4 C3 k0 k1 l0 l1
      cases e3 with
      | false =>
        have HR : Hid (r = false) := by rw [Hid, HE.out]; rfl
        have B3 : Hid (Below w.heap.size w w4) := S4.out.2.2
        clear HE S4 C4
        go_wp2
        go_ret
        exact ⟨ret_bool (by rw [HR.out]), B3.out⟩
      | true =>
        have HR : Hid (r = e4) := by rw [Hid, HE.out]; simp
        have k2 : w4.cell? ⟨w.heap.size, 2, none⟩ = some (.slice qo h.ks.length qc) := S4.out.1.cell 2 rfl
        have k3 : w4.cell? ⟨w.heap.size, 3, none⟩ = some (.int .i64 h.kd) := S4.out.1.cell 3 rfl
        have k4 : w4.cell? ⟨w.heap.size, 4, none⟩ = some (.int .i64 h.ho) := S4.out.1.cell 4 rfl
        have k5 : w4.cell? ⟨w.heap.size, 5, none⟩ = some (.int .i64 h.tu) := S4.out.1.cell 5 rfl
        have l2 : w4.cell? ⟨w.heap.size + 1, 2, none⟩ = some (.slice ko j.ks.length kc) := S4.out.2.1.cell 2 rfl
        have l3 : w4.cell? ⟨w.heap.size + 1, 3, none⟩ = some (.int .i64 j.kd) := S4.out.2.1.cell 3 rfl
        have l4 : w4.cell? ⟨w.heap.size + 1, 4, none⟩ = some (.int .i64 j.ho) := S4.out.2.1.cell 4 rfl
        have l5 : w4.cell? ⟨w.heap.size + 1, 5, none⟩ = some (.int .i64 j.tu) := S4.out.2.1.cell 5 rfl
        go_wp2_with fail
        refine (C4.out _ S4.out.2.2).mono ?_
        rintro e w5 ⟨rfl, b5⟩
        have B5 : Hid (Below w.heap.size w w5) := S4.out.2.2.trans (b5.mono S4.out.2.2.size)
        clear HE S4 C4 b5 k2 k3 k4 k5 l2 l3 l4 l5
        go_wp2
        go_ret
        exact ⟨ret_bool (by rw [HR.out]), B5.out⟩
end Go.Proofs.Ytpdggofaobmnlaa
