/- At every two lists of messages Posted of the program answers as Posted of the model, in memory of its own that a second call leaves alone, and leaves what it was given as it was: the law FnExactPosted returns true, whatever it is given. -/
import Derived.Test.YtjbfncjdedigdaaRows
import Derived.WalkKit
import Derived.ProofKit
import Derived.OpenShut
import Derived.ShutString
import Derived.ChangeOld
import Derived.Below
import Derived.Test.YtjbfncjdedigdaaM27
import Derived.Test.YtjbfncjdedigdaaPstSta
import Derived.Test.YtjbfncjdedigdaaSPost2
import Derived.Test.YtjbfncjdedigdaaIPost3
namespace Go.Proofs.Ytjbfncjdedigdaa.fnExactPosted
open Go.ChangeShapes Go.WideShapes Go.ChangeAt Go.RowKit
open Go.ChangeMaps (open_string shut_string)
set_option linter.unusedVariables false

theorem own : ownKnob Try.prog.godebug = none := by kernel_rfl
theorem laidOut : laidOutB Try.prog = true := by kernel_rfl

set_option maxRecDepth 20000 in
set_option maxHeartbeats 20000000 in
theorem walk (ps0 : List (Value × Mg)) (u0 : Value) (ps1 : List (Value × Mg)) (u1 : Value) (w : World) (f0 : RdP w u0 ps0) (f1 : RdP w u1 ps1) :
    Calls Try.prog 5 #[u0, u1] w fun e w' => e = .returned (.bool true) ∧ Below w.heap.size w w' := by
  have HR0 : Hid (∀ wx, Below w.heap.size w wx → RdP wx u0 ps0) := fun wx b => f0.below b
  have HR1 : Hid (∀ wx, Below w.heap.size w wx → RdP wx u1 ps1) := fun wx b => f1.below b
  have HS : Hid (Sta w w []) := Sta.start w
  clear f0 f1
  go_enter Try.func5, Try.ntmps5
  have CZ := szMsgS_any u0 ps0 1048576 w (HR0.out _ HS.out.below) (by decide) (by decide)
  go_wp2_with fail
  refine CZ.mono ?_
  rintro e w1 ⟨x0, rfl, hx0, b0⟩
  replace HS : Hid (Sta w w1 []) := HS.out.next b0
  clear b0 CZ
  rcases hx0 with rfl | ⟨hp0, ht0, hsm, hlen⟩
  · go_wp2
    go_ret
    exact ⟨rfl, HS.out.below⟩
  · skip
    have HL0 : Hid (SmP ps0 ∧ ps0.length ≤ 1048576 ∧ totK ps0 ≤ 1048576) := ⟨hsm, hlen, by omega⟩
    have hq0 : x0 ≤ 1048576 := by omega
    clear hsm hlen ht0
    have CZ := szMsgS_any u1 ps1 x0 w1 (HR1.out _ HS.out.below) hp0 hq0
    go_wp2_with fail
    refine CZ.mono ?_
    rintro e w2 ⟨x1, rfl, hx1, b1⟩
    replace HS : Hid (Sta w w2 []) := HS.out.next b1
    clear b1 CZ
    rcases hx1 with rfl | ⟨hp1, ht1, hsm, hlen⟩
    · go_wp2
      go_ret
      exact ⟨rfl, HS.out.below⟩
    · skip
      have HL1 : Hid (SmP ps1 ∧ ps1.length ≤ 1048576 ∧ totK ps1 ≤ 1048576) := ⟨hsm, hlen, by omega⟩
      have hq1 : x1 ≤ 1048576 := by omega
      clear hsm hlen ht1
      obtain ⟨r, hr⟩ : ∃ r, r = postP (msOf ps0) (msOf ps1) := ⟨_, rfl⟩
      have HF : Hid (FewM r.1 40 2097152) := by rw [Hid, hr]; exact FewM.posted (FewM.of HL0.out.1 HL0.out.2.1 HL0.out.2.2) (FewM.of HL1.out.1 HL1.out.2.1 HL1.out.2.2)
      have HM0 : Hid (FewM (msOf ps0) 1048576 1048576) := FewM.of HL0.out.1 HL0.out.2.1 HL0.out.2.2
      have HM1 : Hid (FewM (msOf ps1) 1048576 1048576) := FewM.of HL1.out.1 HL1.out.2.1 HL1.out.2.2
      have cs : Hid (∀ (v0 : Value) (q0 : List (Value × Mg)) (v1 : Value) (q1 : List (Value × Mg)) (wx : World), RdP wx v0 q0 → msOf q0 = msOf ps0 → RdP wx v1 q1 → msOf q1 = msOf ps1 → Calls Try.prog 15 #[v0, v1] wx fun e w' => ∃ u rs, e = .returned (.tuple #[u, .bool r.2]) ∧ msOf rs = r.1 ∧ OwnP w' wx.heap.size u rs ∧ Below wx.heap.size wx w') := fun v0 q0 v1 q1 wx h0 e0 h1 e1 => by
        have h := sPosted_any v0 v1 q0 q1  wx h0 h1 (HM0.out.smp e0) (HM1.out.smp e1) (Nat.le_trans (HM0.out.lenP e0) (by decide)) (Nat.le_trans (HM1.out.lenP e1) (by decide))
        rw [e0, e1, ← hr] at h
        exact h
      have ci : Hid (∀ (v0 : Value) (q0 : List (Value × Mg)) (v1 : Value) (q1 : List (Value × Mg)) (wx : World), RdP wx v0 q0 → msOf q0 = msOf ps0 → RdP wx v1 q1 → msOf q1 = msOf ps1 → Calls Try.prog 10 #[v0, v1] wx fun e w' => ∃ u rs, e = .returned (.tuple #[u, .bool r.2]) ∧ msOf rs = r.1 ∧ OwnP w' wx.heap.size u rs ∧ Below wx.heap.size wx w') := fun v0 q0 v1 q1 wx h0 e0 h1 e1 => by
        have h := iPosted_any v0 v1 q0 q1  wx h0 h1 (HM0.out.smp e0) (HM1.out.smp e1) 
        rw [e0, e1, ← hr] at h
        exact h
      obtain ⟨t, ht⟩ : ∃ t, t = r.2 := ⟨_, rfl⟩
      rw [← ht] at cs ci
      clear ht hr
      have htt : (t != t) = false := by simp
      go_wp2_with fail
      refine (toMsgS_any u0 ps0 _ (HR0.out _ HS.out.below) HL0.out.1 HL0.out.2.1).mono ?_
      rintro e w3 ⟨vA0, qA0, rfl, eA0, o, b⟩
      replace HS : Hid (Sta w w3 [PsI vA0 qA0]) := HS.out.post o b
      have EA0 : Hid (msOf qA0 = msOf ps0) := eA0
      clear o b eA0
      go_wp2_with fail
      refine (toMsgS_any u1 ps1 _ (HR1.out _ HS.out.below) HL1.out.1 HL1.out.2.1).mono ?_
      rintro e w4 ⟨vA1, qA1, rfl, eA1, o, b⟩
      replace HS : Hid (Sta w w4 [PsI vA1 qA1, PsI vA0 qA0]) := HS.out.post o b
      have EA1 : Hid (msOf qA1 = msOf ps1) := eA1
      clear o b eA1
      go_wp2_with fail
      refine (cs.out _ _ _ _ _ (HS.out.rdP 1 rfl) EA0.out (HS.out.rdP 0 rfl) EA1.out).mono ?_
      rintro e w5 ⟨vW, qW, rfl, eW, o, b⟩
      replace HS : Hid (Sta w w5 [PsI vW qW, PsI vA1 qA1, PsI vA0 qA0]) := HS.out.post o b
      have EW : Hid (msOf qW = r.1) := eW
      clear o b eW
      replace HS : Hid (Sta w w5 [PsI vW qW, PsI vA0 qA0]) := HS.out.drop 1
      replace HS : Hid (Sta w w5 [PsI vW qW]) := HS.out.drop 1
      go_wp2_with fail
      refine (toMsgS_any u0 ps0 _ (HR0.out _ HS.out.below) HL0.out.1 HL0.out.2.1).mono ?_
      rintro e w6 ⟨vX0, qX0, rfl, eX0, o, b⟩
      replace HS : Hid (Sta w w6 [PsI vX0 qX0, PsI vW qW]) := HS.out.post o b
      have EX0 : Hid (msOf qX0 = msOf ps0) := eX0
      clear o b eX0
      go_wp2_with fail
      refine (toMsgS_any u1 ps1 _ (HR1.out _ HS.out.below) HL1.out.1 HL1.out.2.1).mono ?_
      rintro e w7 ⟨vX1, qX1, rfl, eX1, o, b⟩
      replace HS : Hid (Sta w w7 [PsI vX1 qX1, PsI vX0 qX0, PsI vW qW]) := HS.out.post o b
      have EX1 : Hid (msOf qX1 = msOf ps1) := eX1
      clear o b eX1
      go_wp2_with fail
      refine (ci.out _ _ _ _ _ (HS.out.rdP 1 rfl) EX0.out (HS.out.rdP 0 rfl) EX1.out).mono ?_
      rintro e w8 ⟨vG, qG, rfl, eG, o, b⟩
      replace HS : Hid (Sta w w8 [PsI vG qG, PsI vX1 qX1, PsI vX0 qX0, PsI vW qW]) := HS.out.post o b
      have EG : Hid (msOf qG = r.1) := eG
      clear o b eG
      go_wp2_with fail
      refine (eqMsgS_any vG vW qG qW _ (HS.out.rdP 0 rfl) (HS.out.rdP 3 rfl) (EG.out.trans EW.out.symm) (HF.out.smp EG.out) (Nat.le_trans (HF.out.lenP EG.out) (by decide))).mono ?_
      rintro e w9 ⟨rfl, b⟩
      replace HS : Hid (Sta w w9 [PsI vG qG, PsI vX1 qX1, PsI vX0 qX0, PsI vW qW]) := HS.out.next b
      clear b
      go_wp2_with fail
      refine (toMsgS_any u0 ps0 _ (HR0.out _ HS.out.below) HL0.out.1 HL0.out.2.1).mono ?_
      rintro e w10 ⟨vB0, qB0, rfl, eB0, o, b⟩
      replace HS : Hid (Sta w w10 [PsI vB0 qB0, PsI vG qG, PsI vX1 qX1, PsI vX0 qX0, PsI vW qW]) := HS.out.post o b
      have EB0 : Hid (msOf qB0 = msOf ps0) := eB0
      clear o b eB0
      go_wp2_with fail
      refine (eqMsgS_any vX0 vB0 qX0 qB0 _ (HS.out.rdP 3 rfl) (HS.out.rdP 0 rfl) (EX0.out.trans EB0.out.symm) (HM0.out.smp EX0.out) (Nat.le_trans (HM0.out.lenP EX0.out) (by decide))).mono ?_
      rintro e w11 ⟨rfl, b⟩
      replace HS : Hid (Sta w w11 [PsI vB0 qB0, PsI vG qG, PsI vX1 qX1, PsI vX0 qX0, PsI vW qW]) := HS.out.next b
      clear b
      replace HS : Hid (Sta w w11 [PsI vG qG, PsI vX1 qX1, PsI vX0 qX0, PsI vW qW]) := HS.out.drop 0
      go_wp2_with fail
      refine (toMsgS_any u1 ps1 _ (HR1.out _ HS.out.below) HL1.out.1 HL1.out.2.1).mono ?_
      rintro e w12 ⟨vB1, qB1, rfl, eB1, o, b⟩
      replace HS : Hid (Sta w w12 [PsI vB1 qB1, PsI vG qG, PsI vX1 qX1, PsI vX0 qX0, PsI vW qW]) := HS.out.post o b
      have EB1 : Hid (msOf qB1 = msOf ps1) := eB1
      clear o b eB1
      go_wp2_with fail
      refine (eqMsgS_any vX1 vB1 qX1 qB1 _ (HS.out.rdP 2 rfl) (HS.out.rdP 0 rfl) (EX1.out.trans EB1.out.symm) (HM1.out.smp EX1.out) (Nat.le_trans (HM1.out.lenP EX1.out) (by decide))).mono ?_
      rintro e w13 ⟨rfl, b⟩
      replace HS : Hid (Sta w w13 [PsI vB1 qB1, PsI vG qG, PsI vX1 qX1, PsI vX0 qX0, PsI vW qW]) := HS.out.next b
      clear b
      replace HS : Hid (Sta w w13 [PsI vG qG, PsI vX1 qX1, PsI vX0 qX0, PsI vW qW]) := HS.out.drop 0
      have CM := markMsgS_any vX0 qX0 1 _ 0 (HS.out.get 2 rfl) (Nat.le_trans (HM0.out.bound EX0.out) (by decide)) (HM0.out.smp EX0.out) (by decide) (by decide)
      obtain ⟨k0, hk0⟩ : ∃ k0, k0 = inkE 1 qX0 := ⟨_, rfl⟩
      have pk0 : 0 ≤ k0 ∧ k0 ≤ 11534337 := by have hh := inkE_pos (ps := qX0) (k := 1) (by decide) (HM0.out.bound EX0.out); rw [hk0]; omega
      rw [← hk0] at CM
      have Ik0 : Hid (k0 = inkE 1 qX0) := hk0
      obtain ⟨pk00, pk01⟩ := pk0
      clear hk0
      go_wp2_with fail
      refine CM.mono ?_
      rintro e w14 ⟨rfl, o, t⟩
      replace HS : Hid (Sta w w14 [PsI vG qG, PsI vX1 qX1, PsI vX0 (inkL 1 qX0), PsI vW qW]) := HS.out.markP 2 rfl o t
      clear o t CM
      have CM := markMsgS_any vX1 qX1 k0 _ 0 (HS.out.get 1 rfl) (Nat.le_trans (HM1.out.bound EX1.out) (by decide)) (HM1.out.smp EX1.out) pk00 (by omega)
      obtain ⟨k1, hk1⟩ : ∃ k1, k1 = inkE k0 qX1 := ⟨_, rfl⟩
      have pk1 : 0 ≤ k1 ∧ k1 ≤ 23068673 := by have hh := inkE_pos (ps := qX1) (k := k0) pk00 (HM1.out.bound EX1.out); rw [hk1]; omega
      rw [← hk1] at CM
      have Ik1 : Hid (k1 = inkE k0 qX1) := hk1
      obtain ⟨pk10, pk11⟩ := pk1
      clear hk1
      go_wp2_with fail
      refine CM.mono ?_
      rintro e w15 ⟨rfl, o, t⟩
      replace HS : Hid (Sta w w15 [PsI vG qG, PsI vX1 (inkL k0 qX1), PsI vX0 (inkL 1 qX0), PsI vW qW]) := HS.out.markP 1 rfl o t
      clear o t CM
      go_wp2_with fail
      refine (eqMsgS_any vG vW qG qW _ (HS.out.rdP 0 rfl) (HS.out.rdP 3 rfl) (EG.out.trans EW.out.symm) (HF.out.smp EG.out) (Nat.le_trans (HF.out.lenP EG.out) (by decide))).mono ?_
      rintro e w16 ⟨rfl, b⟩
      replace HS : Hid (Sta w w16 [PsI vG qG, PsI vX1 (inkL k0 qX1), PsI vX0 (inkL 1 qX0), PsI vW qW]) := HS.out.next b
      clear b
      have CM := markMsgS_any vG qG 1 _ 0 (HS.out.get 0 rfl) (Nat.le_trans (HF.out.bound EG.out) (by decide)) (HF.out.smp EG.out) (by decide) (by decide)
      obtain ⟨m, hm⟩ : ∃ m, m = inkE 1 qG := ⟨_, rfl⟩
      have pm : 0 ≤ m ∧ m ≤ 2097553 := by have hh := inkE_pos (ps := qG) (k := 1) (by decide) (HF.out.bound EG.out); rw [hm]; omega
      rw [← hm] at CM
      have Im : Hid (m = inkE 1 qG) := hm
      obtain ⟨pm0, pm1⟩ := pm
      clear hm
      go_wp2_with fail
      refine CM.mono ?_
      rintro e w17 ⟨rfl, o, t⟩
      replace HS : Hid (Sta w w17 [PsI vG (inkL 1 qG), PsI vX1 (inkL k0 qX1), PsI vX0 (inkL 1 qX0), PsI vW qW]) := HS.out.markP 0 rfl o t
      clear o t CM
      have CM := heldMsgS_any vG qG 1 _ (HS.out.rdP 0 rfl) (Nat.le_trans (HF.out.bound EG.out) (by decide)) (HF.out.smp EG.out) (by decide) (by decide)
      rw [← Im.out] at CM
      go_wp2_with fail
      refine CM.mono ?_
      rintro e w18 ⟨rfl, hw⟩
      subst w18
      clear CM
      go_wp2_with fail
      refine (toMsgS_any u0 ps0 _ (HR0.out _ HS.out.below) HL0.out.1 HL0.out.2.1).mono ?_
      rintro e w18 ⟨vC0, qC0, rfl, eC0, o, b⟩
      replace HS : Hid (Sta w w18 [PsI vC0 qC0, PsI vG (inkL 1 qG), PsI vX1 (inkL k0 qX1), PsI vX0 (inkL 1 qX0), PsI vW qW]) := HS.out.post o b
      have EC0 : Hid (msOf qC0 = msOf ps0) := eC0
      clear o b eC0
      go_wp2_with fail
      refine (toMsgS_any u1 ps1 _ (HR1.out _ HS.out.below) HL1.out.1 HL1.out.2.1).mono ?_
      rintro e w19 ⟨vC1, qC1, rfl, eC1, o, b⟩
      replace HS : Hid (Sta w w19 [PsI vC1 qC1, PsI vC0 qC0, PsI vG (inkL 1 qG), PsI vX1 (inkL k0 qX1), PsI vX0 (inkL 1 qX0), PsI vW qW]) := HS.out.post o b
      have EC1 : Hid (msOf qC1 = msOf ps1) := eC1
      clear o b eC1
      go_wp2_with fail
      refine (ci.out _ _ _ _ _ (HS.out.rdP 1 rfl) EC0.out (HS.out.rdP 0 rfl) EC1.out).mono ?_
      rintro e w20 ⟨vH, qH, rfl, eH, o, b⟩
      replace HS : Hid (Sta w w20 [PsI vH qH, PsI vC1 qC1, PsI vC0 qC0, PsI vG (inkL 1 qG), PsI vX1 (inkL k0 qX1), PsI vX0 (inkL 1 qX0), PsI vW qW]) := HS.out.post o b
      have EH : Hid (msOf qH = r.1) := eH
      clear o b eH
      go_wp2_with fail
      refine (eqMsgS_any vH vW qH qW _ (HS.out.rdP 0 rfl) (HS.out.rdP 6 rfl) (EH.out.trans EW.out.symm) (HF.out.smp EH.out) (Nat.le_trans (HF.out.lenP EH.out) (by decide))).mono ?_
      rintro e w21 ⟨rfl, b⟩
      replace HS : Hid (Sta w w21 [PsI vH qH, PsI vC1 qC1, PsI vC0 qC0, PsI vG (inkL 1 qG), PsI vX1 (inkL k0 qX1), PsI vX0 (inkL 1 qX0), PsI vW qW]) := HS.out.next b
      clear b
      have CM := heldMsgS_any vG qG 1 _ (HS.out.rdP 3 rfl) (Nat.le_trans (HF.out.bound EG.out) (by decide)) (HF.out.smp EG.out) (by decide) (by decide)
      rw [← Im.out] at CM
      go_wp2_with fail
      refine CM.mono ?_
      rintro e w22 ⟨rfl, hw⟩
      subst w22
      clear CM
      have HB : Hid (Below w.heap.size w _) := HS.out.below
      clear HS
      go_wp2
      go_ret
      exact ⟨rfl, HB.out⟩

set_option maxRecDepth 100000 in
theorem lifted (os : Os) (started : os.Started) (H : Type) (enc : TypeId × Value → H) :
    ReturnsInHanded {} Try.checked os 5 .any (Rows.fnExactPostedSpec.pre6 enc Try.prog Try.f5 Rows.fnExactPostedRow.domain false) (Rows.fnExactPostedSpec.post enc Try.prog Try.f5 false true false false) := by
  refine returnsInHanded_of_change (C := Try.checked) own started (by kernel_rfl) Try.func5
    (ChangeSpec.witness6 (enc := enc) (C := Try.checked) false ⟨#[], #[.slice none 0 0, .slice none 0 0], []⟩ 8 (by kernel_rfl) (by kernel_rfl) (by kernel_rfl) (by kernel_rfl)) ?_
  intro W base args ds gs before hval0 hW hcnd _
  have hval : ∀ (j : Nat) t v, Try.f5.params[j]? = some t → args[j]? = some v → Value.okWide Try.prog W .any base t v := hval0
  have hW' := hW
  obtain ⟨p, q, hA0, hV, rfl, hfz, hnd⟩ := hW
  have hA : DataW.TrodAll enc Try.prog W 0 (fun _ => true) true Try.f5.params.toList args.toList ds p := hA0
  rw [Try.params5] at hA hval
  obtain ⟨v0, vs0, d0, ds0, p0, q0, hargs, rfl, rfl, h0, s0⟩ := trodAll_cons hA
  obtain ⟨v1, vs1, d1, ds1, p1, q1, rfl, rfl, rfl, h1, s1⟩ := trodAll_cons s0
  obtain ⟨rfl, rfl, rfl⟩ := trodAll_nil s1
  obtain rfl : args = #[v0, v1] := by cases args; simp_all
  obtain ⟨rfl, rfl⟩ := trodVars_none hV
  have k0 := h0
  have lt0 : ∀ x ∈ p0, x.block < W.heap.size := by obtain ⟨m, hm⟩ := k0; exact DataW.trod_lt m _ _ _ hm
  obtain ⟨ps0, f0⟩ := open_post (hval 0 42 v0 rfl rfl) h0
  have k1 := h1
  have lt1 : ∀ x ∈ p1, x.block < W.heap.size := by obtain ⟨m, hm⟩ := k1; exact DataW.trod_lt m _ _ _ hm
  obtain ⟨ps1, f1⟩ := open_post (hval 1 42 v1 rfl rfl) h1
  clear hA0 hval0
  refine (walk ps0 v0 ps1 v1 W f0 f1).mono fun e W' ⟨he, bel⟩ => ?_
  subst he
  exact ⟨_, rfl, _, _, _, [], _, [], hW', trodAll_mk1 (shut_bool Try.underlying4 _), (trodAll_cons_mk (Below.trod laidOut (by kernel_rfl) (of_decide_eq_true (by kernel_rfl)) k0 bel lt0) (trodAll_cons_mk (Below.trod laidOut (by kernel_rfl) (of_decide_eq_true (by kernel_rfl)) k1 bel lt1) trodAll_mk0)), rfl, bel.frame _, fun h => by cases h⟩

theorem over : Rows.fnExactPostedRow.holds Try.pinned (OpenSpec.ofChange Rows.fnExactPostedSpec) :=
  OpenClaim.holds_of_wide 5 Try.f5 rfl rfl rfl rfl rfl rfl rfl ⟨rfl, rfl, rfl, rfl, rfl⟩ rfl rfl rfl rfl rfl (by kernel_rfl) Try.func5 (by kernel_rfl)
    (of_decide_eq_true (by kernel_rfl)) (by unfold Func.isWrapper; first | (rw [if_pos (by decide +kernel)]; kernel_rfl) | (rw [if_neg (by decide +kernel)]; exact ⟨rfl, rfl⟩))
    (fun os started H enc _ => lifted os started H enc)

theorem proved : Rows.FnExactPostedSaid := over
end Go.Proofs.Ytjbfncjdedigdaa.fnExactPosted
namespace Go.Proofs.Ytjbfncjdedigdaa
theorem fnExactPosted_holds : Rows.FnExactPostedSaid := fnExactPosted.proved
end Go.Proofs.Ytjbfncjdedigdaa
