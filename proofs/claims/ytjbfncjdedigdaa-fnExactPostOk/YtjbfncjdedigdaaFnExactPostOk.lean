/- At every list of messages PostOk of the program answers as PostOk of the model, and leaves what it was given as it was: the law FnExactPostOk returns true, whatever it is given. -/
import Derived.Test.YtjbfncjdedigdaaRows
import Derived.WalkKit
import Derived.ProofKit
import Derived.OpenShut
import Derived.ShutString
import Derived.ChangeOld
import Derived.Below
import Derived.Test.YtjbfncjdedigdaaM27
import Derived.Test.YtjbfncjdedigdaaSPost2
import Derived.Test.YtjbfncjdedigdaaIPost4
namespace Go.Proofs.Ytjbfncjdedigdaa.fnExactPostOk
open Go.ChangeShapes Go.WideShapes Go.ChangeAt Go.RowKit
open Go.ChangeMaps (open_string shut_string)
set_option linter.unusedVariables false

theorem own : ownKnob Try.prog.godebug = none := by kernel_rfl
theorem laidOut : laidOutB Try.prog = true := by kernel_rfl

set_option maxRecDepth 20000 in
set_option maxHeartbeats 20000000 in
theorem walk (ps0 : List (Value × Mg)) (u0 : Value) (w : World) (f0 : RdP w u0 ps0) :
    Calls Try.prog 4 #[u0] w fun e w' => e = .returned (.bool true) ∧ Below w.heap.size w w' := by
  have HR : Hid (∀ wx, Below w.heap.size w wx → RdP wx u0 ps0) := fun wx b => f0.below b
  have CZ := szMsgS_any u0 ps0 1048576 w f0 (by decide) (by decide)
  clear f0
  go_enter Try.func4, Try.ntmps4
  go_wp2_with fail
  refine CZ.mono ?_
  rintro e w1 ⟨x, rfl, hx, b1⟩
  have HB : Hid (Below w.heap.size w w1) := b1
  clear b1 CZ
  rcases hx with rfl | ⟨hx0, -, hsm, hlen⟩
  · go_wp2
    go_ret
    exact ⟨rfl, HB.out⟩
  · have HL : Hid (SmP ps0 ∧ ps0.length ≤ 1048576) := ⟨hsm, hlen⟩
    clear hsm hlen
    obtain ⟨t, ht⟩ : ∃ t, t = postOk (msOf ps0) := ⟨_, rfl⟩
    have HT : Hid (t = postOk (msOf ps0)) := ht
    have tt : (t != t) = false := by simp
    clear ht
    go_wp2_with fail
    refine (toMsgS_any u0 ps0 w1 (HR.out w1 HB.out) HL.out.1 HL.out.2).mono ?_
    rintro e w2 ⟨v1, qs1, rfl, e1, o1, b2⟩
    have B2 : Hid (Below w.heap.size w w2 ∧ RdP w2 v1 qs1 ∧ msOf qs1 = msOf ps0) := ⟨HB.out.trans (b2.mono HB.out.size), o1.rd, e1⟩
    clear b2 o1 e1
    have C1 := spostok_any v1 qs1 w2 B2.out.2.1 (smp_of B2.out.2.2 HL.out.1)
    rw [B2.out.2.2, ← HT.out] at C1
    go_wp2_with fail
    refine C1.mono ?_
    rintro e w3 ⟨rfl, b3⟩
    have B3 : Hid (Below w.heap.size w w3) := B2.out.1.trans (b3.mono B2.out.1.size)
    clear b3 C1 B2
    go_wp2_with fail
    refine (toMsgS_any u0 ps0 w3 (HR.out w3 B3.out) HL.out.1 HL.out.2).mono ?_
    rintro e w4 ⟨v2, qs2, rfl, e2, o2, b4⟩
    have B4 : Hid (Below w.heap.size w w4 ∧ RdP w4 v2 qs2 ∧ msOf qs2 = msOf ps0) := ⟨B3.out.trans (b4.mono B3.out.size), o2.rd, e2⟩
    clear b4 o2 e2 B3
    have C2 := ipostok_any v2 qs2 w4 B4.out.2.1 (smp_of B4.out.2.2 HL.out.1)
    rw [B4.out.2.2, ← HT.out] at C2
    go_wp2_with fail
    refine C2.mono ?_
    rintro e w5 ⟨rfl, b5⟩
    have B5 : Hid (Below w.heap.size w w5 ∧ RdP w5 v2 qs2 ∧ msOf qs2 = msOf ps0) := ⟨B4.out.1.trans (b5.mono B4.out.1.size), B4.out.2.1.below b5, B4.out.2.2⟩
    clear b5 C2 B4
    go_wp2_with fail
    refine (toMsgS_any u0 ps0 w5 (HR.out w5 B5.out.1) HL.out.1 HL.out.2).mono ?_
    rintro e w6 ⟨v3, qs3, rfl, e3, o3, b6⟩
    have B6 : Hid (Below w.heap.size w w6 ∧ RdP w6 v2 qs2 ∧ RdP w6 v3 qs3 ∧ msOf qs2 = msOf qs3 ∧ SmP qs2 ∧ qs2.length ≤ 1048576) := ⟨B5.out.1.trans (b6.mono B5.out.1.size), B5.out.2.1.below b6, o3.rd, B5.out.2.2.trans e3.symm, smp_of B5.out.2.2 HL.out.1, by rw [len_of B5.out.2.2]; exact HL.out.2⟩
    clear b6 o3 e3 B5
    go_wp2_with fail
    refine (eqMsgS_any v2 v3 qs2 qs3 w6 B6.out.2.1 B6.out.2.2.1 B6.out.2.2.2.1 B6.out.2.2.2.2.1 B6.out.2.2.2.2.2).mono ?_
    rintro e w7 ⟨rfl, b7⟩
    have B7 : Hid (Below w.heap.size w w7) := B6.out.1.trans (b7.mono B6.out.1.size)
    clear b7 B6
    go_wp2
    go_ret
    exact ⟨rfl, B7.out⟩

set_option maxRecDepth 100000 in
theorem lifted (os : Os) (started : os.Started) (H : Type) (enc : TypeId × Value → H) :
    ReturnsInHanded {} Try.checked os 4 .any (Rows.fnExactPostOkSpec.pre6 enc Try.prog Try.f4 Rows.fnExactPostOkRow.domain false) (Rows.fnExactPostOkSpec.post enc Try.prog Try.f4 false true false false) := by
  refine returnsInHanded_of_change (C := Try.checked) own started (by kernel_rfl) Try.func4
    (ChangeSpec.witness6 (enc := enc) (C := Try.checked) false ⟨#[], #[.slice none 0 0], []⟩ 8 (by kernel_rfl) (by kernel_rfl) (by kernel_rfl) (by kernel_rfl)) ?_
  intro W base args ds gs before hval0 hW hcnd _
  have hval : ∀ (j : Nat) t v, Try.f4.params[j]? = some t → args[j]? = some v → Value.okWide Try.prog W .any base t v := hval0
  have hW' := hW
  obtain ⟨p, q, hA0, hV, rfl, hfz, hnd⟩ := hW
  have hA : DataW.TrodAll enc Try.prog W 0 (fun _ => true) true Try.f4.params.toList args.toList ds p := hA0
  rw [Try.params4] at hA hval
  obtain ⟨v0, vs0, d0, ds0, p0, q0, hargs, rfl, rfl, h0, s0⟩ := trodAll_cons hA
  obtain ⟨rfl, rfl, rfl⟩ := trodAll_nil s0
  obtain rfl : args = #[v0] := by cases args; simp_all
  obtain ⟨rfl, rfl⟩ := trodVars_none hV
  have k0 := h0
  have lt0 : ∀ x ∈ p0, x.block < W.heap.size := by obtain ⟨m, hm⟩ := k0; exact DataW.trod_lt m _ _ _ hm
  obtain ⟨ps0, f0⟩ := open_post (hval 0 42 v0 rfl rfl) h0
  clear hA0 hval0
  refine (walk ps0 v0 W f0).mono fun e W' ⟨he, bel⟩ => ?_
  subst he
  exact ⟨_, rfl, _, _, _, [], _, [], hW', trodAll_mk1 (shut_bool Try.underlying4 _), (trodAll_cons_mk (Below.trod laidOut (by kernel_rfl) (of_decide_eq_true (by kernel_rfl)) k0 bel lt0) trodAll_mk0), rfl, bel.frame _, fun h => by cases h⟩

theorem over : Rows.fnExactPostOkRow.holds Try.pinned (OpenSpec.ofChange Rows.fnExactPostOkSpec) :=
  OpenClaim.holds_of_wide 4 Try.f4 rfl rfl rfl rfl rfl rfl rfl ⟨rfl, rfl, rfl, rfl, rfl⟩ rfl rfl rfl rfl rfl (by kernel_rfl) Try.func4 (by kernel_rfl)
    (of_decide_eq_true (by kernel_rfl)) (by unfold Func.isWrapper; first | (rw [if_pos (by decide +kernel)]; kernel_rfl) | (rw [if_neg (by decide +kernel)]; exact ⟨rfl, rfl⟩))
    (fun os started H enc _ => lifted os started H enc)

theorem proved : Rows.FnExactPostOkSaid := over
end Go.Proofs.Ytjbfncjdedigdaa.fnExactPostOk
namespace Go.Proofs.Ytjbfncjdedigdaa
theorem fnExactPostOk_holds : Rows.FnExactPostOkSaid := fnExactPostOk.proved
end Go.Proofs.Ytjbfncjdedigdaa
