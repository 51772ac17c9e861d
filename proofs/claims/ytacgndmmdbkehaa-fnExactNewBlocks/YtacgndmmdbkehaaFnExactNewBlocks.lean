/- At every number NewBlocks of the program answers as NewBlocks of the model, in memory of its own that a second call leaves alone: the law FnExactNewBlocks returns true, whatever it is given. -/
import Derived.Test.YtacgndmmdbkehaaRows
import Derived.WalkKit
import Derived.ProofKit
import Derived.OpenShut
import Derived.ShutString
import Derived.ChangeOld
import Derived.Below
import Derived.Test.YtacgndmmdbkehaaIBlocks
namespace Go.Proofs.Ytacgndmmdbkehaa.fnExactNewBlocks
open Go.ChangeShapes Go.WideShapes Go.ChangeAt Go.RowKit
open Go.ChangeMaps (open_string shut_string)
set_option linter.unusedVariables false

theorem own : ownKnob Try.prog.godebug = none := by kernel_rfl

set_option maxRecDepth 20000 in
set_option maxHeartbeats 2000000 in
theorem walk (a0 : Int) (w0 : (Lit.int .i64 a0).wf = true) (w : World) :
    Calls Try.prog 5 #[.int .i64 a0] w fun e w' => e = .returned (.bool true) ∧ Below w.heap.size w w' := by
  have hl : (zerosI a0).length ≤ 1099511627776 := by unfold zerosI; split; rw [List.length_replicate]; omega; simp
  obtain ⟨xs, hx⟩ : ∃ xs, xs = zerosI a0 := ⟨_, rfl⟩
  have hs := snew_any a0
  have hr := new_any8 a0
  rw [← hx] at hl hs hr
  have HS := hs
  have HR := hr
  clear hs hr hx
  go_enter Try.func5, Try.ntmps5
  go_wp2_with fail
  refine (HS _).mono ?_
  rintro e w1 ⟨v0, rfl, o0, b1⟩
  go_wp2_with fail
  refine (HR _).mono ?_
  rintro e w2 ⟨v1, rfl, o1, b2⟩
  have o0' := o0.below b2
  have hne := o0.apart o1 (Nat.le_refl _)
  go_wp2_with fail
  refine (eq_any v1 v0 xs xs _ o1.reads o0'.reads hl).mono ?_
  rintro e _ ⟨rfl, n1, rfl⟩
  have he : decide (xs = xs) = true := by simp
  rw [he]
  clear he
  go_wp2_with fail
  refine (mark_any v1 xs 1 _ _ (o1.drewN n1) hl (by omega) (by omega)).mono ?_
  rintro e w3 ⟨rfl, o3, g3⟩
  have o4 := (o0'.drewN n1).kept g3 hne
  go_wp2_with fail
  refine (held_marks v1 xs.length 1 _ o3.reads hl (by omega) (by omega)).mono ?_
  rintro e w3 ⟨rfl, rfl⟩
  go_wp2_with fail
  refine (HR _).mono ?_
  rintro e w4 ⟨v2, rfl, o5, b4⟩
  have o6 := o4.below b4
  go_wp2_with fail
  refine (eq_any v2 v0 xs xs _ o5.reads o6.reads hl).mono ?_
  rintro e _ ⟨rfl, n2, rfl⟩
  have he : decide (xs = xs) = true := by simp
  rw [he]
  clear he
  go_wp2_with fail
  refine (held_marks v1 xs.length 1 _ ((o3.below b4).drewN n2).reads hl (by omega) (by omega)).mono ?_
  rintro e _ ⟨rfl, rfl⟩
  have c1 : Below w.heap.size w w2 := b1.trans (b2.mono b1.size)
  have c2 : Below w.heap.size w w3 := (below_drewN c1 n1).grown g3 (by simp; exact c1.size) (fun k hk => by have := (o1.lt k hk).1; have := b1.size; omega)
  have c3 : Below w.heap.size w (w4.drewN n2) := below_drewN (c2.trans (b4.mono c2.size)) n2
  clear o0 o0' o1 o3 o4 o5 o6 g3 b1 b2 b4 c1 c2 HS HR hne
  go_wp2
  go_ret
  exact ⟨rfl, c3⟩

set_option maxRecDepth 100000 in
theorem lifted (os : Os) (started : os.Started) (H : Type) (enc : TypeId × Value → H) :
    ReturnsInHanded {} Try.checked os 5 .any (Rows.fnExactNewBlocksSpec.pre6 enc Try.prog Try.f5 Rows.fnExactNewBlocksRow.domain false) (Rows.fnExactNewBlocksSpec.post enc Try.prog Try.f5 false true false false) := by
  refine returnsInHanded_of_change (C := Try.checked) own started (by kernel_rfl) Try.func5
    (ChangeSpec.witness6 (enc := enc) (C := Try.checked) false ⟨#[], #[.int .i64 0], []⟩ 8 (by kernel_rfl) (by kernel_rfl) (by kernel_rfl) (by kernel_rfl)) ?_
  intro W base args ds gs before hval0 hW hcnd _
  have hval : ∀ (j : Nat) t v, Try.f5.params[j]? = some t → args[j]? = some v → Value.okWide Try.prog W .any base t v := hval0
  have hW' := hW
  obtain ⟨p, q, hA0, hV, rfl, hfz, hnd⟩ := hW
  have hA : DataW.TrodAll enc Try.prog W 0 (fun _ => true) true Try.f5.params.toList args.toList ds p := hA0
  rw [Try.params5] at hA hval
  obtain ⟨v0, vs0, d0, ds0, p0, q0, hargs, rfl, rfl, h0, r0⟩ := trodAll_cons hA
  obtain ⟨rfl, rfl, rfl⟩ := trodAll_nil r0
  obtain rfl : args = #[v0] := by cases args; simp_all
  obtain ⟨rfl, rfl⟩ := trodVars_none hV
  obtain ⟨a0, rfl, rfl, rfl, w0⟩ := open_int Try.underlying2 (hval 0 2 v0 rfl rfl) h0
  clear hA0 hval0
  refine (walk a0 w0 W).mono fun e W' ⟨he, bel⟩ => ?_
  subst he
  exact ⟨_, rfl, _, _, _, [], _, [], hW', (trodAll_cons_mk (shut_bool Try.underlying4 _) trodAll_mk0), (trodAll_cons_mk (shut_int Try.underlying2 w0) trodAll_mk0), rfl, bel.frame _, fun h => by cases h⟩

theorem over : Rows.fnExactNewBlocksRow.holds Try.pinned (OpenSpec.ofChange Rows.fnExactNewBlocksSpec) :=
  OpenClaim.holds_of_wide 5 Try.f5 rfl rfl rfl rfl rfl rfl rfl ⟨rfl, rfl, rfl, rfl, rfl⟩ rfl rfl rfl rfl rfl (by kernel_rfl) Try.func5 (by kernel_rfl)
    (of_decide_eq_true (by kernel_rfl)) (by unfold Func.isWrapper; first | (rw [if_pos (by decide +kernel)]; kernel_rfl) | (rw [if_neg (by decide +kernel)]; exact ⟨rfl, rfl⟩))
    (fun os started H enc _ => lifted os started H enc)

theorem proved : Rows.FnExactNewBlocksSaid :=
  over
end Go.Proofs.Ytacgndmmdbkehaa.fnExactNewBlocks
namespace Go.Proofs.Ytacgndmmdbkehaa
theorem fnExactNewBlocks_holds : Rows.FnExactNewBlocksSaid := fnExactNewBlocks.proved
end Go.Proofs.Ytacgndmmdbkehaa
