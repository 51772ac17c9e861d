/- At every list of messages and place Twice of the program answers as Twice of the model, in memory of its own that a second call leaves alone, and leaves what it was given as it was: the law FnExactTwice returns true, whatever it is given. -/
import Derived.Test.YtjbfncjdedigdaaRows
import Derived.WalkKit
import Derived.ProofKit
import Derived.OpenShut
import Derived.ShutString
import Derived.ChangeOld
import Derived.Below
import Derived.Test.YtjbfncjdedigdaaM27
import Derived.Test.YtjbfncjdedigdaaPstSta
import Derived.Test.YtjbfncjdedigdaaSPost2
import Derived.Test.YtjbfncjdedigdaaIPost3
namespace Go.Proofs.Ytjbfncjdedigdaa.fnExactTwice
open Go.ChangeShapes Go.WideShapes Go.ChangeAt Go.RowKit
open Go.ChangeMaps (open_string shut_string)
set_option linter.unusedVariables false

theorem own : ownKnob Try.prog.godebug = none := by kernel_rfl
theorem laidOut : laidOutB Try.prog = true := by kernel_rfl

set_option maxRecDepth 20000 in
set_option maxHeartbeats 20000000 in
theorem walk (ps0 : List (Value × Mg)) (u0 : Value) (a1 : Int) (w : World) (f0 : RdP w u0 ps0) (w1 : (Lit.int .i64 a1).wf = true) :
    Calls Try.prog 7 #[u0, .int .i64 a1] w fun e w' => e = .returned (.bool true) ∧ Below w.heap.size w w' := by
  have HR0 : Hid (∀ wx, Below w.heap.size w wx → RdP wx u0 ps0) := fun wx b => f0.below b
  have HS : Hid (Sta w w []) := Sta.start w
  clear f0
  go_enter Try.func7, Try.ntmps7
  have CZ := szMsgS_any u0 ps0 1048576 w (HR0.out _ HS.out.below) (by decide) (by decide)
  go_wp2_with fail
  refine CZ.mono ?_
  rintro e w1 ⟨x0, rfl, hx0, b0⟩
  replace HS : Hid (Sta w w1 []) := HS.out.next b0
  clear b0 CZ
  rcases hx0 with rfl | ⟨hp0, ht0, hsm, hlen⟩
  · go_wp2
    go_ret
    exact ⟨rfl, HS.out.below⟩
  · skip
    have HL0 : Hid (SmP ps0 ∧ ps0.length ≤ 1048576 ∧ totK ps0 ≤ 1048576) := ⟨hsm, hlen, by omega⟩
    have hq0 : x0 ≤ 1048576 := by omega
    clear hsm hlen ht0
    obtain ⟨r, hr⟩ : ∃ r, r = twiceP (msOf ps0) a1 := ⟨_, rfl⟩
    have HF : Hid (FewM r.1 40 2097152) := by rw [Hid, hr]; exact FewM.twice (FewM.of HL0.out.1 HL0.out.2.1 HL0.out.2.2) a1
    have HM0 : Hid (FewM (msOf ps0) 1048576 1048576) := FewM.of HL0.out.1 HL0.out.2.1 HL0.out.2.2
    have cs : Hid (∀ (v0 : Value) (q0 : List (Value × Mg)) (wx : World), RdP wx v0 q0 → msOf q0 = msOf ps0 → Calls Try.prog 21 #[v0, .int .i64 a1] wx fun e w' => ∃ u rs, e = .returned (.tuple #[u, .bool r.2]) ∧ msOf rs = r.1 ∧ OwnP w' wx.heap.size u rs ∧ Below wx.heap.size wx w') := fun v0 q0 wx h0 e0 => by
      have h := sTwice_any v0 q0 a1 wx h0 (HM0.out.smp e0) (Nat.le_trans (HM0.out.lenP e0) (by decide))
      rw [e0, ← hr] at h
      exact h
    have ci : Hid (∀ (v0 : Value) (q0 : List (Value × Mg)) (wx : World), RdP wx v0 q0 → msOf q0 = msOf ps0 → Calls Try.prog 14 #[v0, .int .i64 a1] wx fun e w' => ∃ u rs, e = .returned (.tuple #[u, .bool r.2]) ∧ msOf rs = r.1 ∧ OwnP w' wx.heap.size u rs ∧ Below wx.heap.size wx w') := fun v0 q0 wx h0 e0 => by
      have h := iTwice_any v0 q0 a1 wx h0 (HM0.out.smp e0) 
      rw [e0, ← hr] at h
      exact h
    obtain ⟨t, ht⟩ : ∃ t, t = r.2 := ⟨_, rfl⟩
    rw [← ht] at cs ci
    clear ht hr
    have htt : (t != t) = false := by simp
    go_wp2_with fail
    refine (toMsgS_any u0 ps0 _ (HR0.out _ HS.out.below) HL0.out.1 HL0.out.2.1).mono ?_
    rintro e w2 ⟨vA0, qA0, rfl, eA0, o, b⟩
    replace HS : Hid (Sta w w2 [PsI vA0 qA0]) := HS.out.post o b
    have EA0 : Hid (msOf qA0 = msOf ps0) := eA0
    clear o b eA0
    go_wp2_with fail
    refine (cs.out _ _ _ (HS.out.rdP 0 rfl) EA0.out).mono ?_
    rintro e w3 ⟨vW, qW, rfl, eW, o, b⟩
    replace HS : Hid (Sta w w3 [PsI vW qW, PsI vA0 qA0]) := HS.out.post o b
    have EW : Hid (msOf qW = r.1) := eW
    clear o b eW
    replace HS : Hid (Sta w w3 [PsI vW qW]) := HS.out.drop 1
    go_wp2_with fail
    refine (toMsgS_any u0 ps0 _ (HR0.out _ HS.out.below) HL0.out.1 HL0.out.2.1).mono ?_
    rintro e w4 ⟨vX0, qX0, rfl, eX0, o, b⟩
    replace HS : Hid (Sta w w4 [PsI vX0 qX0, PsI vW qW]) := HS.out.post o b
    have EX0 : Hid (msOf qX0 = msOf ps0) := eX0
    clear o b eX0
    go_wp2_with fail
    refine (ci.out _ _ _ (HS.out.rdP 0 rfl) EX0.out).mono ?_
    rintro e w5 ⟨vG, qG, rfl, eG, o, b⟩
    replace HS : Hid (Sta w w5 [PsI vG qG, PsI vX0 qX0, PsI vW qW]) := HS.out.post o b
    have EG : Hid (msOf qG = r.1) := eG
    clear o b eG
    go_wp2_with fail
    refine (eqMsgS_any vG vW qG qW _ (HS.out.rdP 0 rfl) (HS.out.rdP 2 rfl) (EG.out.trans EW.out.symm) (HF.out.smp EG.out) (Nat.le_trans (HF.out.lenP EG.out) (by decide))).mono ?_
    rintro e w6 ⟨rfl, b⟩
    replace HS : Hid (Sta w w6 [PsI vG qG, PsI vX0 qX0, PsI vW qW]) := HS.out.next b
    clear b
    go_wp2_with fail
    refine (toMsgS_any u0 ps0 _ (HR0.out _ HS.out.below) HL0.out.1 HL0.out.2.1).mono ?_
    rintro e w7 ⟨vB0, qB0, rfl, eB0, o, b⟩
    replace HS : Hid (Sta w w7 [PsI vB0 qB0, PsI vG qG, PsI vX0 qX0, PsI vW qW]) := HS.out.post o b
    have EB0 : Hid (msOf qB0 = msOf ps0) := eB0
    clear o b eB0
    go_wp2_with fail
    refine (eqMsgS_any vX0 vB0 qX0 qB0 _ (HS.out.rdP 2 rfl) (HS.out.rdP 0 rfl) (EX0.out.trans EB0.out.symm) (HM0.out.smp EX0.out) (Nat.le_trans (HM0.out.lenP EX0.out) (by decide))).mono ?_
    rintro e w8 ⟨rfl, b⟩
    replace HS : Hid (Sta w w8 [PsI vB0 qB0, PsI vG qG, PsI vX0 qX0, PsI vW qW]) := HS.out.next b
    clear b
    replace HS : Hid (Sta w w8 [PsI vG qG, PsI vX0 qX0, PsI vW qW]) := HS.out.drop 0
    have CM := markMsgS_any vX0 qX0 1 _ 0 (HS.out.get 1 rfl) (Nat.le_trans (HM0.out.bound EX0.out) (by decide)) (HM0.out.smp EX0.out) (by decide) (by decide)
    obtain ⟨k0, hk0⟩ : ∃ k0, k0 = inkE 1 qX0 := ⟨_, rfl⟩
    have pk0 : 0 ≤ k0 ∧ k0 ≤ 11534337 := by have hh := inkE_pos (ps := qX0) (k := 1) (by decide) (HM0.out.bound EX0.out); rw [hk0]; omega
    rw [← hk0] at CM
    have Ik0 : Hid (k0 = inkE 1 qX0) := hk0
    obtain ⟨pk00, pk01⟩ := pk0
    clear hk0
    go_wp2_with fail
    refine CM.mono ?_
    rintro e w9 ⟨rfl, o, t⟩
    replace HS : Hid (Sta w w9 [PsI vG qG, PsI vX0 (inkL 1 qX0), PsI vW qW]) := HS.out.markP 1 rfl o t
    clear o t CM
    go_wp2_with fail
    refine (eqMsgS_any vG vW qG qW _ (HS.out.rdP 0 rfl) (HS.out.rdP 2 rfl) (EG.out.trans EW.out.symm) (HF.out.smp EG.out) (Nat.le_trans (HF.out.lenP EG.out) (by decide))).mono ?_
    rintro e w10 ⟨rfl, b⟩
    replace HS : Hid (Sta w w10 [PsI vG qG, PsI vX0 (inkL 1 qX0), PsI vW qW]) := HS.out.next b
    clear b
    have CM := markMsgS_any vG qG 1 _ 0 (HS.out.get 0 rfl) (Nat.le_trans (HF.out.bound EG.out) (by decide)) (HF.out.smp EG.out) (by decide) (by decide)
    obtain ⟨m, hm⟩ : ∃ m, m = inkE 1 qG := ⟨_, rfl⟩
    have pm : 0 ≤ m ∧ m ≤ 2097553 := by have hh := inkE_pos (ps := qG) (k := 1) (by decide) (HF.out.bound EG.out); rw [hm]; omega
    rw [← hm] at CM
    have Im : Hid (m = inkE 1 qG) := hm
    obtain ⟨pm0, pm1⟩ := pm
    clear hm
    go_wp2_with fail
    refine CM.mono ?_
    rintro e w11 ⟨rfl, o, t⟩
    replace HS : Hid (Sta w w11 [PsI vG (inkL 1 qG), PsI vX0 (inkL 1 qX0), PsI vW qW]) := HS.out.markP 0 rfl o t
    clear o t CM
    have CM := heldMsgS_any vG qG 1 _ (HS.out.rdP 0 rfl) (Nat.le_trans (HF.out.bound EG.out) (by decide)) (HF.out.smp EG.out) (by decide) (by decide)
    rw [← Im.out] at CM
    go_wp2_with fail
    refine CM.mono ?_
    rintro e w12 ⟨rfl, hw⟩
    subst w12
    clear CM
    go_wp2_with fail
    refine (toMsgS_any u0 ps0 _ (HR0.out _ HS.out.below) HL0.out.1 HL0.out.2.1).mono ?_
    rintro e w12 ⟨vC0, qC0, rfl, eC0, o, b⟩
    replace HS : Hid (Sta w w12 [PsI vC0 qC0, PsI vG (inkL 1 qG), PsI vX0 (inkL 1 qX0), PsI vW qW]) := HS.out.post o b
    have EC0 : Hid (msOf qC0 = msOf ps0) := eC0
    clear o b eC0
    go_wp2_with fail
    refine (ci.out _ _ _ (HS.out.rdP 0 rfl) EC0.out).mono ?_
    rintro e w13 ⟨vH, qH, rfl, eH, o, b⟩
    replace HS : Hid (Sta w w13 [PsI vH qH, PsI vC0 qC0, PsI vG (inkL 1 qG), PsI vX0 (inkL 1 qX0), PsI vW qW]) := HS.out.post o b
    have EH : Hid (msOf qH = r.1) := eH
    clear o b eH
    go_wp2_with fail
    refine (eqMsgS_any vH vW qH qW _ (HS.out.rdP 0 rfl) (HS.out.rdP 4 rfl) (EH.out.trans EW.out.symm) (HF.out.smp EH.out) (Nat.le_trans (HF.out.lenP EH.out) (by decide))).mono ?_
    rintro e w14 ⟨rfl, b⟩
    replace HS : Hid (Sta w w14 [PsI vH qH, PsI vC0 qC0, PsI vG (inkL 1 qG), PsI vX0 (inkL 1 qX0), PsI vW qW]) := HS.out.next b
    clear b
    have CM := heldMsgS_any vG qG 1 _ (HS.out.rdP 2 rfl) (Nat.le_trans (HF.out.bound EG.out) (by decide)) (HF.out.smp EG.out) (by decide) (by decide)
    rw [← Im.out] at CM
    go_wp2_with fail
    refine CM.mono ?_
    rintro e w15 ⟨rfl, hw⟩
    subst w15
    clear CM
    have HB : Hid (Below w.heap.size w _) := HS.out.below
    clear HS
    go_wp2
    go_ret
    exact ⟨rfl, HB.out⟩

set_option maxRecDepth 100000 in
theorem lifted (os : Os) (started : os.Started) (H : Type) (enc : TypeId × Value → H) :
    ReturnsInHanded {} Try.checked os 7 .any (Rows.fnExactTwiceSpec.pre6 enc Try.prog Try.f7 Rows.fnExactTwiceRow.domain false) (Rows.fnExactTwiceSpec.post enc Try.prog Try.f7 false true false false) := by
  refine returnsInHanded_of_change (C := Try.checked) own started (by kernel_rfl) Try.func7
    (ChangeSpec.witness6 (enc := enc) (C := Try.checked) false ⟨#[], #[.slice none 0 0, .int .i64 0], []⟩ 8 (by kernel_rfl) (by kernel_rfl) (by kernel_rfl) (by kernel_rfl)) ?_
  intro W base args ds gs before hval0 hW hcnd _
  have hval : ∀ (j : Nat) t v, Try.f7.params[j]? = some t → args[j]? = some v → Value.okWide Try.prog W .any base t v := hval0
  have hW' := hW
  obtain ⟨p, q, hA0, hV, rfl, hfz, hnd⟩ := hW
  have hA : DataW.TrodAll enc Try.prog W 0 (fun _ => true) true Try.f7.params.toList args.toList ds p := hA0
  rw [Try.params7] at hA hval
  obtain ⟨v0, vs0, d0, ds0, p0, q0, hargs, rfl, rfl, h0, s0⟩ := trodAll_cons hA
  obtain ⟨v1, vs1, d1, ds1, p1, q1, rfl, rfl, rfl, h1, s1⟩ := trodAll_cons s0
  obtain ⟨rfl, rfl, rfl⟩ := trodAll_nil s1
  obtain rfl : args = #[v0, v1] := by cases args; simp_all
  obtain ⟨rfl, rfl⟩ := trodVars_none hV
  have k0 := h0
  have lt0 : ∀ x ∈ p0, x.block < W.heap.size := by obtain ⟨m, hm⟩ := k0; exact DataW.trod_lt m _ _ _ hm
  obtain ⟨ps0, f0⟩ := open_post (hval 0 42 v0 rfl rfl) h0
  obtain ⟨a1, rfl, rfl, rfl, w1⟩ := open_int Try.underlying2 (hval 1 2 v1 rfl rfl) h1
  clear hA0 hval0
  refine (walk ps0 v0 a1 W f0 w1).mono fun e W' ⟨he, bel⟩ => ?_
  subst he
  exact ⟨_, rfl, _, _, _, [], _, [], hW', trodAll_mk1 (shut_bool Try.underlying4 _), (trodAll_cons_mk (Below.trod laidOut (by kernel_rfl) (of_decide_eq_true (by kernel_rfl)) k0 bel lt0) (trodAll_cons_mk (shut_int Try.underlying2 w1) trodAll_mk0)), rfl, bel.frame _, fun h => by cases h⟩

theorem over : Rows.fnExactTwiceRow.holds Try.pinned (OpenSpec.ofChange Rows.fnExactTwiceSpec) :=
  OpenClaim.holds_of_wide 7 Try.f7 rfl rfl rfl rfl rfl rfl rfl ⟨rfl, rfl, rfl, rfl, rfl⟩ rfl rfl rfl rfl rfl (by kernel_rfl) Try.func7 (by kernel_rfl)
    (of_decide_eq_true (by kernel_rfl)) (by unfold Func.isWrapper; first | (rw [if_pos (by decide +kernel)]; kernel_rfl) | (rw [if_neg (by decide +kernel)]; exact ⟨rfl, rfl⟩))
    (fun os started H enc _ => lifted os started H enc)

theorem proved : Rows.FnExactTwiceSaid := over
end Go.Proofs.Ytjbfncjdedigdaa.fnExactTwice
namespace Go.Proofs.Ytjbfncjdedigdaa
theorem fnExactTwice_holds : Rows.FnExactTwiceSaid := fnExactTwice.proved
end Go.Proofs.Ytjbfncjdedigdaa
