/- At every command Writes of the program answers as Writes of the model: the law FnExactWrites returns true, whatever it is given. -/
import Derived.Test.YtnnmcjgmnjokiaaRows
import Derived.WalkKit
import Derived.ProofKit
import Derived.OpenShut
import Derived.ShutString
import Derived.ChangeOld
import Derived.Below
import Derived.Test.YtnnmcjgmnjokiaaOpenCm
import Derived.Test.YtnnmcjgmnjokiaaIVr
import Derived.Test.YtnnmcjgmnjokiaaSVr
namespace Go.Proofs.Ytnnmcjgmnjokiaa.fnExactWrites
open Go.ChangeShapes Go.WideShapes Go.ChangeAt Go.RowKit
open Go.ChangeMaps (open_string shut_string)
set_option linter.unusedVariables false

theorem own : ownKnob Try.prog.godebug = none := by kernel_rfl
theorem laidOut : laidOutB Try.prog = true := by kernel_rfl

set_option maxRecDepth 20000 in
set_option maxHeartbeats 2000000 in
theorem walk (r0 : Cm) (w : World) (f0 : r0.Fit) :
    Calls Try.prog 4 #[CV r0] w fun e w' => e = .returned (.bool true) ∧ Below w.heap.size w w' := by
  have c0 := fun wx => toCmd_any r0 wx
  have c1 := fun wx => swrites_any r0 wx
  have c2 := fun wx => iwrites_any r0 wx
  obtain ⟨b, hb⟩ : ∃ b, b = r0.wr := ⟨_, rfl⟩
  simp only [← hb] at c1 c2
  clear hb f0
  have B0 : Below w.heap.size w (w.alloc (.cells (cmA r0) 23)) := (Below.refl _ _).alloc (Nat.le_refl _) _
  have R0 := CmB.new w 23 r0
  unfold CV at *
  go_enter Try.func4, Try.ntmps4
  go_wp2_with (refine wpList_getLC rfl _ rfl w.heap.size rfl r0 R0 ?_; unfold CV)
  refine (c0 _).mono ?_
  rintro e w1 ⟨rfl, b1⟩
  have R1 := R0.below b1
  have B1 := B0.trans (b1.mono B0.size)
  clear b1 R0 B0
  go_wp2_with fail
  refine (c1 _).mono ?_
  rintro e w2 ⟨rfl, b2⟩
  have R2 := R1.below b2
  have B2 := B1.trans (b2.mono B1.size)
  clear b2 R1 B1
  go_wp2_with (refine wpList_getLC rfl _ rfl w.heap.size rfl r0 R2 ?_; unfold CV)
  refine (c0 _).mono ?_
  rintro e w3 ⟨rfl, b3⟩
  have B3 := B2.trans (b3.mono B2.size)
  clear b3 R2 B2
  go_wp2_with fail
  refine (c2 _).mono ?_
  rintro e w4 ⟨rfl, b4⟩
  have B4 := B3.trans (b4.mono B3.size)
  clear b4 B3
  go_wp2
  go_ret
  exact ⟨rfl, B4⟩

theorem lifted (os : Os) (started : os.Started) (H : Type) (enc : TypeId × Value → H) :
    ReturnsInHanded {} Try.checked os 4 .any (Rows.fnExactWritesSpec.pre6 enc Try.prog Try.f4 Rows.fnExactWritesRow.domain false) (Rows.fnExactWritesSpec.post enc Try.prog Try.f4 false true false false) := by
  refine returnsInHanded_of_change (C := Try.checked) own started (by kernel_rfl) Try.func4
    (ChangeSpec.witness6 (enc := enc) (C := Try.checked) false ⟨#[], #[.agg #[.int .i64 0, .int .i64 0, .int .i64 0, .int .i64 0, .int .i64 0]], []⟩ 8 (by kernel_rfl) (by kernel_rfl) (by kernel_rfl) (by kernel_rfl)) ?_
  intro W base args ds gs before hval0 hW hcnd _
  have hval : ∀ (j : Nat) t v, Try.f4.params[j]? = some t → args[j]? = some v → Value.okWide Try.prog W .any base t v := hval0
  have hW' := hW
  obtain ⟨p, q, hA0, hV, rfl, hfz, hnd⟩ := hW
  have hA : DataW.TrodAll enc Try.prog W 0 (fun _ => true) true Try.f4.params.toList args.toList ds p := hA0
  rw [Try.params4] at hA hval
  obtain ⟨v0, vs0, d0, ds0, p0, q0, hargs, rfl, rfl, h0, s0⟩ := trodAll_cons hA
  obtain ⟨rfl, rfl, rfl⟩ := trodAll_nil s0
  obtain rfl : args = #[v0] := by cases args; simp_all
  obtain ⟨rfl, rfl⟩ := trodVars_none hV
  have k0 := h0
  have lt0 : ∀ x ∈ p0, x.block < W.heap.size := by obtain ⟨m, hm⟩ := k0; exact DataW.trod_lt m _ _ _ hm
  obtain ⟨r0, rfl, f0⟩ := open_cmd (hval 0 23 v0 rfl rfl) h0
  clear hA0 hval0
  refine (walk r0 W f0).mono fun e W' ⟨he, bel⟩ => ?_
  subst he
  exact ⟨_, rfl, _, _, _, [], _, [], hW', trodAll_mk1 (shut_bool Try.underlying4 _), (trodAll_cons_mk (Below.trod laidOut (by kernel_rfl) (of_decide_eq_true (by kernel_rfl)) k0 bel lt0) trodAll_mk0), rfl, bel.frame _, fun h => by cases h⟩

theorem over : Rows.fnExactWritesRow.holds Try.pinned (OpenSpec.ofChange Rows.fnExactWritesSpec) :=
  OpenClaim.holds_of_wide 4 Try.f4 rfl rfl rfl rfl rfl rfl rfl ⟨rfl, rfl, rfl, rfl, rfl⟩ rfl rfl rfl rfl rfl (by kernel_rfl) Try.func4 (by kernel_rfl)
    (of_decide_eq_true (by kernel_rfl)) (by unfold Func.isWrapper; first | (rw [if_pos (by decide +kernel)]; kernel_rfl) | (rw [if_neg (by decide +kernel)]; exact ⟨rfl, rfl⟩))
    (fun os started H enc _ => lifted os started H enc)

theorem proved : Rows.FnExactWritesSaid := over
end Go.Proofs.Ytnnmcjgmnjokiaa.fnExactWrites
namespace Go.Proofs.Ytnnmcjgmnjokiaa
theorem fnExactWrites_holds : Rows.FnExactWritesSaid := fnExactWrites.proved
end Go.Proofs.Ytnnmcjgmnjokiaa
