/- A message in memory: eleven cells; l15Msg of the model. -/
import Derived.Test.YtjbfncjdedigdaaM15
namespace Go.Proofs.Ytjbfncjdedigdaa
open Go.ChangeShapes Go.WideShapes Go.ChangeAt Go.RowKit

def mgA (v : Value) (m : Mg) : Array Value := #[.int .i64 m.dst, .int .i64 m.kd, .int .i64 m.tr, .int .i64 m.pl, .int .i64 m.tn, .int .i64 m.va, .int .i64 m.ep, v, .int .i64 m.h.kd, .int .i64 m.h.ho, .int .i64 m.h.tu]
def MgV (v : Value) (m : Mg) : Value := .agg (mgA v m)
theorem Try.isMg : IsS 35 11 := ⟨⟨_, Try.underlying35⟩, by kernel_rfl⟩
def zeroMg : Array Value := #[.int .i64 0, .int .i64 0, .int .i64 0, .int .i64 0, .int .i64 0, .int .i64 0, .int .i64 0, .slice none 0 0, .int .i64 0, .int .i64 0, .int .i64 0]
theorem mgA_one {v : Value} (m : Mg) (hv : v.oneCell' = true) : (mgA v m).all (·.oneCell') = true := by
  unfold mgA
  simp [hv, show ∀ k n, (Value.int k n).oneCell' = true from fun _ _ => rfl]

set_option maxRecDepth 20000 in
set_option maxHeartbeats 400000 in
theorem sitem_any (x : Int) (w : World) :
    Calls Try.prog 57 #[.int .i64 x] w fun e w' => e = .returned (.bool (itemOk x)) ∧ w' = w := by
  by_cases h0 : 0 ≤ x
  · by_cases h1 : x < 8
    · rw [show itemOk x = true by simp [itemOk, h0, h1]]
      go_enter Try.func57, Try.ntmps57
      go_wp2
      go_ret
      exact ⟨ret_bool (by simp <;> omega), rfl⟩
    · rw [show itemOk x = false by simp [itemOk]; omega]
      go_enter Try.func57, Try.ntmps57
      go_wp2
      go_ret
      exact ⟨ret_bool (by simp <;> omega), rfl⟩
  · rw [show itemOk x = false by simp [itemOk]; omega]
    go_enter Try.func57, Try.ntmps57
    go_wp2
    go_ret
    exact ⟨ret_bool (by simp <;> omega), rfl⟩

set_option maxRecDepth 20000 in
set_option maxHeartbeats 4000000 in
theorem smsg_any (v : Value) (m : Mg) (w : World) (hr : Reads w v m.h.ks) (hl : m.h.ks.length ≤ 1099511627776) :
    Calls Try.prog 38 #[MgV v m] w fun e w' => e = .returned (.bool m.ok) ∧ Below w.heap.size w w' := by
  have HE : Hid (m.ok = (inI m.dst 0 1 && inI m.kd 1 8 && epI m.tr && itemOk m.pl && inI m.tn 0 1000000000 && valOk m.va && epI m.ep && (m.h.ok || m.h.none))) := rfl
  obtain ⟨w1, hw1⟩ : ∃ w1, w1 = w.alloc (.cells (mgA v m) 35) := ⟨_, rfl⟩
  have b1 : Below w.heap.size w w1 := by rw [hw1]; exact (Below.refl _ _).alloc (Nat.le_refl _) _
  have S1 : StB w1 w.heap.size 35 (mgA v m) := by rw [hw1]; exact StB.new _ _ _
  have HB : Hid (Below w.heap.size w w1) := b1
  have HR : Hid (Reads w1 v m.h.ks) := hr.below b1 (Nat.le_refl _)
  obtain ⟨ao, cap, rfl⟩ := reads_form hr
  have HCH : Hid (∀ wx, Reads wx (.slice ao m.h.ks.length cap) m.h.ks → Calls Try.prog 59 #[HV (.slice ao m.h.ks.length cap) m.h] wx fun e w' => e = .returned (.bool m.h.ok) ∧ Below wx.heap.size wx w') := fun wx h => sholdok_any _ m.h wx h hl
  have HN : Hid (m.h.none = (decide (m.h.ks.length = 0) && decide (m.h.kd = 0) && decide (m.h.ho = 0) && decide (m.h.tu = 0))) := rfl
  have HW : Hid (w1 = w.alloc (.cells #[.int .i64 m.dst, .int .i64 m.kd, .int .i64 m.tr, .int .i64 m.pl, .int .i64 m.tn, .int .i64 m.va, .int .i64 m.ep, .slice ao m.h.ks.length cap, .int .i64 m.h.kd, .int .i64 m.h.ho, .int .i64 m.h.tu] 35)) := hw1
  have k0 : w1.cell? ⟨w.heap.size, 0, none⟩ = some (.int .i64 m.dst) := S1.cell 0 rfl
  have k1 : w1.cell? ⟨w.heap.size, 1, none⟩ = some (.int .i64 m.kd) := S1.cell 1 rfl
  have k2 : w1.cell? ⟨w.heap.size, 2, none⟩ = some (.int .i64 m.tr) := S1.cell 2 rfl
  have k3 : w1.cell? ⟨w.heap.size, 3, none⟩ = some (.int .i64 m.pl) := S1.cell 3 rfl
  have k4 : w1.cell? ⟨w.heap.size, 4, none⟩ = some (.int .i64 m.tn) := S1.cell 4 rfl
  have k5 : w1.cell? ⟨w.heap.size, 5, none⟩ = some (.int .i64 m.va) := S1.cell 5 rfl
  have k6 : w1.cell? ⟨w.heap.size, 6, none⟩ = some (.int .i64 m.ep) := S1.cell 6 rfl
  have k7 : w1.cell? ⟨w.heap.size, 7, none⟩ = some (.slice ao m.h.ks.length cap) := S1.cell 7 rfl
  have k8 : w1.cell? ⟨w.heap.size, 8, none⟩ = some (.int .i64 m.h.kd) := S1.cell 8 rfl
  have k9 : w1.cell? ⟨w.heap.size, 9, none⟩ = some (.int .i64 m.h.ho) := S1.cell 9 rfl
  have k10 : w1.cell? ⟨w.heap.size, 10, none⟩ = some (.int .i64 m.h.tu) := S1.cell 10 rfl
  obtain ⟨x, hx⟩ : ∃ x, x = m.ok := ⟨_, rfl⟩
  rw [← hx] at HE ⊢
  have c0 := fun wx => sin6_any m.dst 0 1 wx
  obtain ⟨v0, hv0⟩ : ∃ v0, v0 = inI m.dst 0 1 := ⟨_, rfl⟩
  rw [← hv0] at HE
  simp only [← hv0] at c0
  have c1 := fun wx => sin6_any m.kd 1 8 wx
  obtain ⟨v1, hv1⟩ : ∃ v1, v1 = inI m.kd 1 8 := ⟨_, rfl⟩
  rw [← hv1] at HE
  simp only [← hv1] at c1
  have c2 := fun wx => sepoch_any m.tr wx
  obtain ⟨v2, hv2⟩ : ∃ v2, v2 = epI m.tr := ⟨_, rfl⟩
  rw [← hv2] at HE
  simp only [← hv2] at c2
  have c3 := fun wx => sitem_any m.pl wx
  obtain ⟨v3, hv3⟩ : ∃ v3, v3 = itemOk m.pl := ⟨_, rfl⟩
  rw [← hv3] at HE
  simp only [← hv3] at c3
  have c4 := fun wx => sin6_any m.tn 0 1000000000 wx
  obtain ⟨v4, hv4⟩ : ∃ v4, v4 = inI m.tn 0 1000000000 := ⟨_, rfl⟩
  rw [← hv4] at HE
  simp only [← hv4] at c4
  have c5 := fun wx => sval_any m.va wx
  obtain ⟨v5, hv5⟩ : ∃ v5, v5 = valOk m.va := ⟨_, rfl⟩
  rw [← hv5] at HE
  simp only [← hv5] at c5
  have c6 := fun wx => sepoch_any m.ep wx
  obtain ⟨v6, hv6⟩ : ∃ v6, v6 = epI m.ep := ⟨_, rfl⟩
  rw [← hv6] at HE
  simp only [← hv6] at c6
  unfold MgV mgA
  obtain ⟨l, hl0⟩ : ∃ l, l = m.h.ks.length := ⟨_, rfl⟩
  rw [← hl0] at HN HW HR HCH k7 ⊢
  clear hl0 hl hw1 S1 hr hx b1 hv0 hv1 hv2 hv3 hv4 hv5 hv6
  go_enter Try.func38, Try.ntmps38
  go_upto_region 1 with fail
  rw [← HW.out]
  clear HW
  go_wp2_with fail
  refine (c0 _).mono ?_
  rintro e w' ⟨rfl, hw⟩; subst w'
  clear c0
  cases v0 with
  | false =>
    have HX : Hid (x = false) := by rw [Hid, HE.out]; simp
    clear HE c1 c2 c3 c4 c5 c6
    go_wp2
    go_ret
    exact ⟨ret_bool (by rw [HX.out]), HB.out⟩
  | true =>
    go_wp2_with fail
    refine (c1 _).mono ?_
    rintro e w' ⟨rfl, hw⟩; subst w'
    clear c1
    cases v1 with
    | false =>
      have HX : Hid (x = false) := by rw [Hid, HE.out]; simp
      clear HE c2 c3 c4 c5 c6
      go_wp2
      go_ret
      exact ⟨ret_bool (by rw [HX.out]), HB.out⟩
    | true =>
      go_wp2_with fail
      refine (c2 _).mono ?_
      rintro e w' ⟨rfl, hw⟩; subst w'
      clear c2
      cases v2 with
      | false =>
        have HX : Hid (x = false) := by rw [Hid, HE.out]; simp
        clear HE c3 c4 c5 c6
        go_wp2
        go_ret
        exact ⟨ret_bool (by rw [HX.out]), HB.out⟩
      | true =>
        go_wp2_with fail
        refine (c3 _).mono ?_
        rintro e w' ⟨rfl, hw⟩; subst w'
        clear c3
        cases v3 with
        | false =>
          have HX : Hid (x = false) := by rw [Hid, HE.out]; simp
          clear HE c4 c5 c6
          go_wp2
          go_ret
          exact ⟨ret_bool (by rw [HX.out]), HB.out⟩
        | true =>
          go_wp2_with fail
          refine (c4 _).mono ?_
          rintro e w' ⟨rfl, hw⟩; subst w'
          clear c4
          cases v4 with
          | false =>
            have HX : Hid (x = false) := by rw [Hid, HE.out]; simp
            clear HE c5 c6
            go_wp2
            go_ret
            exact ⟨ret_bool (by rw [HX.out]), HB.out⟩
          | true =>
            go_wp2_with fail
            refine (c5 _).mono ?_
            rintro e w' ⟨rfl, hw⟩; subst w'
            clear c5
            cases v5 with
            | false =>
              have HX : Hid (x = false) := by rw [Hid, HE.out]; simp
              clear HE c6
              go_wp2
              go_ret
              exact ⟨ret_bool (by rw [HX.out]), HB.out⟩
            | true =>
              go_wp2_with fail
              refine (c6 _).mono ?_
              rintro e w' ⟨rfl, hw⟩; subst w'
              clear c6
              cases v6 with
              | false =>
                have HX : Hid (x = false) := by rw [Hid, HE.out]; simp
                clear HE
                go_wp2
                go_ret
                exact ⟨ret_bool (by rw [HX.out]), HB.out⟩
              | true =>
                have HX : Hid (x = (m.h.ok || m.h.none)) := by rw [Hid, HE.out]; rfl
                clear HE
                obtain ⟨w2, hw2⟩ : ∃ w2, w2 = w1.alloc (.cells (hdA (.slice ao l cap) m.h) 33) := ⟨_, rfl⟩
                have b2 : Below w1.heap.size w1 w2 := by rw [hw2]; exact (Below.refl _ _).alloc (Nat.le_refl _) _
                have S2 : StB w2 w1.heap.size 33 (hdA (.slice ao l cap) m.h) := by rw [hw2]; exact StB.new _ _ _
                have HB2 : Hid (Below w.heap.size w w2) := HB.out.trans (b2.mono HB.out.size)
                have ch := HCH.out w2 (HR.out.below b2 (Nat.le_refl _))
                clear HCH
                obtain ⟨bh, hbh⟩ : ∃ bh, bh = m.h.ok := ⟨_, rfl⟩
                rw [← hbh] at ch HX
                obtain ⟨bn, hbn⟩ : ∃ bn, bn = m.h.none := ⟨_, rfl⟩
                rw [← hbn] at HN HX
                obtain ⟨g, hg⟩ : ∃ g, g = w1.heap.size := ⟨_, rfl⟩
                rw [← hg] at S2
                have HS2 : Hid (∀ w3, Below w2.heap.size w2 w3 → StB w3 g 33 (hdA (.slice ao l cap) m.h)) := fun w3 b => S2.below b
                unfold hdA at hw2
                unfold HV hdA at ch
                go_upto_region 4 with fail
                rw [← hw2, ← hg]
                have j0 : w2.cell? ⟨g, 0, none⟩ = some (.slice ao l cap) := S2.cell 0 rfl
                have j1 : w2.cell? ⟨g, 1, none⟩ = some (.int .i64 m.h.kd) := S2.cell 1 rfl
                have j2 : w2.cell? ⟨g, 2, none⟩ = some (.int .i64 m.h.ho) := S2.cell 2 rfl
                have j3 : w2.cell? ⟨g, 3, none⟩ = some (.int .i64 m.h.tu) := S2.cell 3 rfl
                clear hw2 hg hbh hbn k0 k1 k2 k3 k4 k5 k6 k7 k8 k9 k10 HR S2 b2
                go_wp2_with fail
                refine ch.mono ?_
                rintro e w3 ⟨rfl, b3⟩
                have S3 := HS2.out w3 b3
                have HB3 : Hid (Below w.heap.size w w3) := HB2.out.trans (b3.mono HB2.out.size)
                clear ch j0 j1 j2 j3 HS2 b3
                have j0 : w3.cell? ⟨g, 0, none⟩ = some (.slice ao l cap) := S3.cell 0 rfl
                have j1 : w3.cell? ⟨g, 1, none⟩ = some (.int .i64 m.h.kd) := S3.cell 1 rfl
                have j2 : w3.cell? ⟨g, 2, none⟩ = some (.int .i64 m.h.ho) := S3.cell 2 rfl
                have j3 : w3.cell? ⟨g, 3, none⟩ = some (.int .i64 m.h.tu) := S3.cell 3 rfl
                clear S3
                cases bh with
                | true =>
                  go_wp2
                  go_ret
                  exact ⟨ret_bool (by rw [HX.out]; rfl), HB3.out⟩
                | false =>
                  by_cases q0 : (l : Int) = 0
                  · have e0 : ((l : Int) == 0) = true := by simpa using q0
                    by_cases q1 : m.h.kd = 0
                    · have e1 : (m.h.kd == 0) = true := by simpa using q1
                      by_cases q2 : m.h.ho = 0
                      · have e2 : (m.h.ho == 0) = true := by simpa using q2
                        by_cases q3 : m.h.tu = 0
                        · have e3 : (m.h.tu == 0) = true := by simpa using q3
                          have HY : Hid (x = true) := by rw [Hid, HX.out, HN.out]; simp [q1, q2, q3, (by omega : l = 0)]
                          clear HX HN
                          clear q0 q1 q2 q3
                          go_wp2
                          go_ret
                          exact ⟨ret_bool (by rw [HY.out]), HB3.out⟩
                        · have e3 : (m.h.tu == 0) = false := by simpa using q3
                          have HY : Hid (x = false) := by rw [Hid, HX.out, HN.out]; simp [q3]
                          clear HX HN
                          clear q0 q1 q2 q3
                          go_wp2
                          go_ret
                          exact ⟨ret_bool (by rw [HY.out]), HB3.out⟩
                      · have e2 : (m.h.ho == 0) = false := by simpa using q2
                        have HY : Hid (x = false) := by rw [Hid, HX.out, HN.out]; simp [q2]
                        clear HX HN
                        clear q0 q1 q2
                        go_wp2
                        go_ret
                        exact ⟨ret_bool (by rw [HY.out]), HB3.out⟩
                    · have e1 : (m.h.kd == 0) = false := by simpa using q1
                      have HY : Hid (x = false) := by rw [Hid, HX.out, HN.out]; simp [q1]
                      clear HX HN
                      clear q0 q1
                      go_wp2
                      go_ret
                      exact ⟨ret_bool (by rw [HY.out]), HB3.out⟩
                  · have e0 : ((l : Int) == 0) = false := by simpa using q0
                    have HY : Hid (x = false) := by rw [Hid, HX.out, HN.out]; rw [show decide (l = 0) = false from decide_eq_false (by omega)]; rfl
                    clear HX HN
                    clear q0
                    go_wp2
                    go_ret
                    exact ⟨ret_bool (by rw [HY.out]), HB3.out⟩
end Go.Proofs.Ytjbfncjdedigdaa
