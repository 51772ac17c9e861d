/- Messages by the program: indexOk, msgOk, freshHolding of whatever holding, freshMsg. -/
import Derived.Test.YtjbfncjdedigdaaSPost
import Derived.Test.YtjbfncjdedigdaaM21
import Derived.Test.YtjbfncjdedigdaaM18
import Derived.Test.YtjbfncjdedigdaaM11
import Derived.Test.YtjbfncjdedigdaaM19
namespace Go.Proofs.Ytjbfncjdedigdaa
open Go.ChangeShapes Go.WideShapes Go.ChangeAt Go.RowKit

set_option maxRecDepth 20000 in
set_option maxHeartbeats 400000 in
theorem iindexM_any (x : Int) (w : World) :
    Calls Try.prog 69 #[.int .i64 x] w fun e w' => e = .returned (.bool (itemOk x)) ∧ w' = w := by
  by_cases h0 : x ≥ 0
  · by_cases h1 : x < 8
    · rw [show itemOk x = true by simp [itemOk]; omega]
      go_enter Try.func69, Try.ntmps69
      go_wp2
      go_ret
      exact ⟨ret_bool (by simp <;> omega), rfl⟩
    · rw [show itemOk x = false by simp [itemOk]; omega]
      go_enter Try.func69, Try.ntmps69
      go_wp2
      go_ret
      exact ⟨ret_bool (by simp <;> omega), rfl⟩
  · rw [show itemOk x = false by simp [itemOk]; omega]
    go_enter Try.func69, Try.ntmps69
    go_wp2
    go_ret
    exact ⟨ret_bool (by simp <;> omega), rfl⟩

theorem Hd.eqB_zero (h : Hd) : h.eqB Hd.zero = h.none := by
  unfold Hd.eqB Hd.none Hd.zero
  cases hk : h.ks <;> simp

set_option maxRecDepth 20000 in
set_option maxHeartbeats 4000000 in
theorem imsg_any (v : Value) (m : Mg) (w : World) (hr : Reads w v m.h.ks) (hl : m.h.ks.length ≤ 1048576) :
    Calls Try.prog 53 #[MgV v m] w fun e w' => e = .returned (.bool m.ok) ∧ Below w.heap.size w w' := by
  have HE : Hid (m.ok = (inI m.dst 0 1 && inI m.kd 1 8 && epI m.tr && itemOk m.pl && inI m.tn 0 1000000000 && valOk m.va && epI m.ep && (m.h.ok || m.h.none))) := rfl
  obtain ⟨w1, hw1⟩ : ∃ w1, w1 = w.alloc (.cells (mgA v m) 35) := ⟨_, rfl⟩
  have b1 : Below w.heap.size w w1 := by rw [hw1]; exact (Below.refl _ _).alloc (Nat.le_refl _) _
  have S1 : Hid (StB w1 w.heap.size 35 (mgA v m)) := by rw [hw1]; exact StB.new _ _ _
  have HB : Hid (Below w.heap.size w w1) := b1
  have HCH : Hid (∀ wx, Below w.heap.size w wx → Calls Try.prog 72 #[.agg (hdA v m.h)] wx fun e w' => e = .returned (.bool m.h.ok) ∧ Below wx.heap.size wx w') := fun wx b => iholdok_any v m.h wx (hr.below b (Nat.le_refl _)) (by omega)
  have HCA : Hid (∀ wx, Below w.heap.size w wx → Calls Try.prog 73 #[.agg (hdA v m.h), .agg #[.slice none 0 0, .int .i64 0, .int .i64 0, .int .i64 0]] wx fun e w' => e = .returned (.bool m.h.none) ∧ Below wx.heap.size wx w') := fun wx b => by
    have := iholdsAlike_any v (.slice none 0 0) m.h Hd.zero wx (hr.below b (Nat.le_refl _)) (Own.nil wx 0).reads (by omega)
    rw [Hd.eqB_zero] at this
    exact this
  obtain ⟨bh, hbh⟩ : ∃ bh, bh = m.h.ok := ⟨_, rfl⟩
  obtain ⟨bn, hbn⟩ : ∃ bn, bn = m.h.none := ⟨_, rfl⟩
  rw [← hbh, ← hbn] at HE
  simp only [← hbh] at HCH
  simp only [← hbn] at HCA
  obtain ⟨x, hx⟩ : ∃ x, x = m.ok := ⟨_, rfl⟩
  rw [← hx] at HE ⊢
  clear hx hbh hbn hl hr b1
  have k0 : w1.cell? ⟨w.heap.size, 0, none⟩ = some (.int .i64 m.dst) := S1.out.cell 0 rfl
  have k1 : w1.cell? ⟨w.heap.size, 1, none⟩ = some (.int .i64 m.kd) := S1.out.cell 1 rfl
  have k2 : w1.cell? ⟨w.heap.size, 2, none⟩ = some (.int .i64 m.tr) := S1.out.cell 2 rfl
  have k3 : w1.cell? ⟨w.heap.size, 3, none⟩ = some (.int .i64 m.pl) := S1.out.cell 3 rfl
  have k4 : w1.cell? ⟨w.heap.size, 4, none⟩ = some (.int .i64 m.tn) := S1.out.cell 4 rfl
  have k5 : w1.cell? ⟨w.heap.size, 5, none⟩ = some (.int .i64 m.va) := S1.out.cell 5 rfl
  have k6 : w1.cell? ⟨w.heap.size, 6, none⟩ = some (.int .i64 m.ep) := S1.out.cell 6 rfl
  have c0 := fun wx => iidok_any m.dst wx
  obtain ⟨v0, hv0⟩ : ∃ v0, v0 = inI m.dst 0 1 := ⟨_, rfl⟩
  rw [← hv0] at HE
  simp only [← hv0] at c0
  clear hv0
  have c2 := fun wx => iepoch_any m.tr wx
  obtain ⟨v2, hv2⟩ : ∃ v2, v2 = epI m.tr := ⟨_, rfl⟩
  rw [← hv2] at HE
  simp only [← hv2] at c2
  clear hv2
  have c3 := fun wx => iindexM_any m.pl wx
  obtain ⟨v3, hv3⟩ : ∃ v3, v3 = itemOk m.pl := ⟨_, rfl⟩
  rw [← hv3] at HE
  simp only [← hv3] at c3
  clear hv3
  have c4 := fun wx => iturnok_any m.tn wx
  obtain ⟨v4, hv4⟩ : ∃ v4, v4 = inI m.tn 0 1000000000 := ⟨_, rfl⟩
  rw [← hv4] at HE
  simp only [← hv4] at c4
  clear hv4
  have c5 := fun wx => val_any m.va wx
  obtain ⟨v5, hv5⟩ : ∃ v5, v5 = valOk m.va := ⟨_, rfl⟩
  rw [← hv5] at HE
  simp only [← hv5] at c5
  clear hv5
  have c6 := fun wx => iepoch_any m.ep wx
  obtain ⟨v6, hv6⟩ : ∃ v6, v6 = epI m.ep := ⟨_, rfl⟩
  rw [← hv6] at HE
  simp only [← hv6] at c6
  clear hv6
  unfold MgV
  go_enter Try.func53, Try.ntmps53
  go_upto_region 1 with fail
  rw [← hw1]
  clear hw1
  go_wp2_with fail
  refine (c0 _).mono ?_
  rintro e w' ⟨rfl, hw⟩; subst w'
  clear c0
  cases v0 with
  | false =>
      have HX : Hid (x = false) := by rw [Hid, HE.out]; simp
      clear HE HCH HCA
      go_wp2
      go_ret
      exact ⟨ret_bool (by rw [HX.out]), HB.out⟩
  | true =>
    by_cases q0 : m.kd ≥ 1
    case neg =>
        have HX : Hid (x = false) := by rw [Hid, HE.out]; rw [show inI m.kd 1 8 = false by unfold inI; simp; omega]; simp
        clear HE HCH HCA
        go_wp2
        go_ret
        exact ⟨ret_bool (by rw [HX.out]), HB.out⟩
    case pos =>
      by_cases q1 : m.kd ≤ 8
      case neg =>
          have HX : Hid (x = false) := by rw [Hid, HE.out]; rw [show inI m.kd 1 8 = false by unfold inI; simp; omega]; simp
          clear HE HCH HCA
          go_wp2
          go_ret
          exact ⟨ret_bool (by rw [HX.out]), HB.out⟩
      case pos =>
        replace HE : Hid (x = (v2 && v3 && v4 && v5 && v6 && (bh || bn))) := by rw [Hid, HE.out]; rw [show inI m.kd 1 8 = true by unfold inI; simp; omega]; simp
        go_wp2_with fail
        refine (c2 _).mono ?_
        rintro e w' ⟨rfl, hw⟩; subst w'
        clear c2
        cases v2 with
        | false =>
            have HX : Hid (x = false) := by rw [Hid, HE.out]; simp
            clear HE HCH HCA
            go_wp2
            go_ret
            exact ⟨ret_bool (by rw [HX.out]), HB.out⟩
        | true =>
          go_wp2_with fail
          refine (c3 _).mono ?_
          rintro e w' ⟨rfl, hw⟩; subst w'
          clear c3
          cases v3 with
          | false =>
              have HX : Hid (x = false) := by rw [Hid, HE.out]; simp
              clear HE HCH HCA
              go_wp2
              go_ret
              exact ⟨ret_bool (by rw [HX.out]), HB.out⟩
          | true =>
            go_wp2_with fail
            refine (c4 _).mono ?_
            rintro e w' ⟨rfl, hw⟩; subst w'
            clear c4
            cases v4 with
            | false =>
                have HX : Hid (x = false) := by rw [Hid, HE.out]; simp
                clear HE HCH HCA
                go_wp2
                go_ret
                exact ⟨ret_bool (by rw [HX.out]), HB.out⟩
            | true =>
              go_wp2_with fail
              refine (c5 _).mono ?_
              rintro e w' ⟨rfl, hw⟩; subst w'
              clear c5
              cases v5 with
              | false =>
                  have HX : Hid (x = false) := by rw [Hid, HE.out]; simp
                  clear HE HCH HCA
                  go_wp2
                  go_ret
                  exact ⟨ret_bool (by rw [HX.out]), HB.out⟩
              | true =>
                go_wp2_with fail
                refine (c6 _).mono ?_
                rintro e w' ⟨rfl, hw⟩; subst w'
                clear c6
                cases v6 with
                | false =>
                    have HX : Hid (x = false) := by rw [Hid, HE.out]; simp
                    clear HE HCH HCA
                    go_wp2
                    go_ret
                    exact ⟨ret_bool (by rw [HX.out]), HB.out⟩
                | true =>
                  replace HE : Hid (x = (bh || bn)) := by rw [Hid, HE.out]; simp
                  clear k0 k1 k2 k3 k4 k5 k6
                  go_wp2_with (refine wpList_getO Try.isH rfl _ rfl w.heap.size 7 rfl (hdA v m.h) rfl (mg_hold S1.out) ?_)
                  refine (HCH.out w1 HB.out).mono ?_
                  rintro e w2 ⟨rfl, b2⟩
                  replace S1 : Hid (StB w2 w.heap.size 35 (mgA v m)) := S1.out.below b2
                  replace HB : Hid (Below w.heap.size w w2) := HB.out.trans (b2.mono HB.out.size)
                  clear b2 HCH
                  cases bh with
                  | true =>
                    clear HCA
                    go_wp2
                    go_ret
                    exact ⟨ret_bool (by rw [HE.out]; rfl), HB.out⟩
                  | false =>
                    go_wp2_with (refine wpList_getO Try.isH rfl _ rfl w.heap.size 7 rfl (hdA v m.h) rfl (mg_hold S1.out) ?_)
                    refine (HCA.out w2 HB.out).mono ?_
                    rintro e w3 ⟨rfl, b3⟩
                    replace HB : Hid (Below w.heap.size w w3) := HB.out.trans (b3.mono HB.out.size)
                    clear b3 HCA
                    go_wp2
                    go_ret
                    exact ⟨ret_bool (by rw [HE.out]; rfl), HB.out⟩

set_option maxRecDepth 20000 in
set_option maxHeartbeats 1000000 in
theorem ifreshHM_any (v : Value) (h : Hd) (w : World) (hr : Reads w v h.ks) (hl : h.ks.length ≤ 1048576) :
    Calls Try.prog 54 #[HV v h] w fun e w' => ∃ u, e = .returned (HV u h) ∧ Mine w' w.heap.size u h.ks ∧ Below w.heap.size w w' := by
  obtain ⟨w1, hw1⟩ : ∃ w1, w1 = (w.alloc (.cells (hdA v h) 33)).alloc (.cells #[.slice none 0 0, .int .i64 0, .int .i64 0, .int .i64 0] 33) := ⟨_, rfl⟩
  have HB : Hid (Bx w w1 v h) := by rw [hw1]; exact Bx.start hr
  have c1 := ifresh_any v h.ks w1 HB.out.2.2.2.2 (by omega)
  have k0 : w1.cell? ⟨w.heap.size, 0, none⟩ = some v := HB.out.1.cell 0 rfl
  clear hr hl
  unfold HV
  go_enter Try.func54, Try.ntmps54
  go_upto_region 1 with fail
  rw [← hw1]
  clear hw1
  go_wp2_with fail
  refine c1.mono ?_
  rintro e w2 ⟨u, rfl, o2, b2⟩
  have D2 := HB.out.next b2
  have hs := HB.out.2.2.2.1
  obtain ⟨ab, cb, rfl⟩ := reads_form o2.reads
  have k0 : w2.cell? ⟨w.heap.size, 0, none⟩ = some v := D2.1.cell 0 rfl
  have f0 := D2.1.frozen 0
  have G := grownSet w2 w.heap.size 0 (.slice ab h.ks.length cb)
  have zq : StB (w2.setCell ⟨w.heap.size, 0, none⟩ (.slice ab h.ks.length cb)) w.heap.size 33 (hdA (.slice ab h.ks.length cb) h) := D2.1.put 0 _ rfl
  have zz : StB (w2.setCell ⟨w.heap.size, 0, none⟩ (.slice ab h.ks.length cb)) (w.heap.size + 1) 33 #[.slice none 0 0, .int .i64 0, .int .i64 0, .int .i64 0] := D2.2.1.kept G (by intro e; have := Option.some.inj e; omega)
  have HF : Hid (Mine (w2.setCell ⟨w.heap.size, 0, none⟩ (.slice ab h.ks.length cb)) w1.heap.size (.slice ab h.ks.length cb) h.ks ∧ Below w.heap.size w (w2.setCell ⟨w.heap.size, 0, none⟩ (.slice ab h.ks.length cb)) ∧ w.heap.size + 2 ≤ w1.heap.size) := by
    refine ⟨o2.keptLt G (by omega), D2.2.2.1.setCell (Nat.le_refl _) _, hs⟩
  clear D2 G o2 b2 HB c1
  go_wp2_with (first | (refine wpList_getS Try.isH rfl _ rfl w.heap.size rfl (hdA (.slice ab h.ks.length cb) h) rfl zq ?_) | (refine wpList_putS Try.isH rfl _ _ rfl (w.heap.size + 1) (hdA (.slice ab h.ks.length cb) h) #[.slice none 0 0, .int .i64 0, .int .i64 0, .int .i64 0] rfl rfl rfl rfl (hdA_one _ rfl) zz ?_; intro we se ge))
  refine bodyPost_ret (results_S Try.isH rfl _ _ (w.heap.size + 1) _ rfl rfl se) rfl ?_
  exact ⟨_, rfl, (HF.out.1.keptLt ge (by have := HF.out.2.2; omega)).mono (by have := HF.out.2.2; omega), HF.out.2.1.grown ge HF.out.2.1.size (fun x e => by cases e; omega)⟩

set_option maxRecDepth 20000 in
set_option maxHeartbeats 1000000 in
theorem ifreshMsg_any (v : Value) (m : Mg) (w : World) (hr : Reads w v m.h.ks) (hl : m.h.ks.length ≤ 1048576) :
    Calls Try.prog 36 #[MgV v m] w fun e w' => ∃ u, e = .returned (MgV u m) ∧ Mine w' w.heap.size u m.h.ks ∧ Below w.heap.size w w' := by
  obtain ⟨w1, hw1⟩ : ∃ w1, w1 = (w.alloc (.cells (mgA v m) 35)).alloc (.cells zeroMg 35) := ⟨_, rfl⟩
  have HB : Hid (MgBx w w1 v m) := by rw [hw1]; exact MgBx.start hr
  have c1 := ifreshHM_any v m.h w1 HB.out.rd hl
  clear hr hl
  unfold HV at c1
  unfold MgV
  go_enter Try.func36, Try.ntmps36
  go_upto_region 1 with fail
  have e0 : w1 = (w.alloc (.cells (mgA v m) 35)).alloc (.cells #[.int .i64 0, .int .i64 0, .int .i64 0, .int .i64 0, .int .i64 0, .int .i64 0, .int .i64 0, .slice none 0 0, .int .i64 0, .int .i64 0, .int .i64 0] 35) := hw1
  rw [← e0]
  clear hw1 e0
  go_wp2_with (refine wpList_getO Try.isH rfl _ rfl w.heap.size 7 rfl (hdA v m.h) rfl (mg_hold HB.out.p0) ?_)
  refine c1.mono ?_
  rintro e w2 ⟨u, rfl, o2, b2⟩
  have D2 := HB.out.next b2
  have hs := HB.out.sz
  have hu : u.oneCell' = true := reads_one o2.reads
  have HO : Hid (Mine w2 w1.heap.size u m.h.ks) := o2
  clear c1 HB b2 o2
  go_wp2_with (first
    | (refine wpList_putPart Try.isH rfl _ _ rfl w.heap.size 7 35 (mgA v m) (hdA u m.h) (mgA u m) rfl rfl rfl D2.p0 (Nat.le_refl 11) (hdA_one _ hu) rfl ?_; intro w3 s3 g3)
    | (refine wpList_getS Try.isMg rfl _ rfl w.heap.size rfl (mgA u m) rfl s3 ?_)
    | (refine wpList_putS Try.isMg rfl _ _ rfl (w.heap.size + 1) (mgA u m) zeroMg rfl rfl rfl rfl (mgA_one _ hu) (D2.q0.kept g3 (by intro e; have := Option.some.inj e; omega)) ?_; intro we se ge))
  refine bodyPost_ret (results_S Try.isMg rfl _ _ (w.heap.size + 1) _ rfl rfl se) rfl ?_
  exact ⟨_, rfl, ((HO.out.keptLt g3 (by omega)).keptLt ge (by omega)).mono (by omega), (D2.bl.grown g3 D2.bl.size (fun x e => by cases e; omega)).grown ge (Nat.le_trans D2.bl.size g3.size) (fun x e => by cases e; omega)⟩
end Go.Proofs.Ytjbfncjdedigdaa
