/- At every text ReadCmd of the program answers as ReadCmd of the model, every field and the code: the law FnExactReadCmd returns true, whatever it is given. -/
import Derived.Test.YtcphnnibhlmajaaRows
import Derived.WalkKit
import Derived.ProofKit
import Derived.OpenShut
import Derived.ShutString
import Derived.ChangeOld
import Derived.Below
import Derived.Test.YtcphnnibhlmajaaOpenCm
import Derived.Test.YtcphnnibhlmajaaICmd
namespace Go.Proofs.Ytcphnnibhlmajaa.fnExactReadCmd
open Go.ChangeShapes Go.WideShapes Go.ChangeAt Go.RowKit
open Go.ChangeMaps (open_string shut_string)
set_option linter.unusedVariables false

theorem own : ownKnob Try.prog.godebug = none := by kernel_rfl
theorem laidOut : laidOutB Try.prog = true := by kernel_rfl

set_option maxRecDepth 20000 in
set_option maxHeartbeats 2000000 in
theorem walk (a0 : ByteArray) (w : World) (w0 : a0.size ≤ maxLen) :
    Calls Try.prog 7 #[.string a0] w fun e w' => e = .returned (.bool true) ∧ Below w.heap.size w w' := by
  obtain ⟨l, rfl⟩ : ∃ l : Bs, a0 = ⟨l.toArray⟩ := ⟨a0.data.toList, by simp⟩
  have hsz : (⟨l.toArray⟩ : ByteArray).size = l.length := rfl
  have hB := Below.refl w.heap.size w
  rw [hsz] at w0
  unfold maxLen at w0
  by_cases hl : l.length ≤ 1048576
  · have c1 := sreadC_any l w hl
    have c2 := fun wx => ireadC_any l wx hl
    obtain ⟨r, hr⟩ : ∃ r, r = readC l := ⟨_, rfl⟩
    obtain ⟨b, hb⟩ : ∃ b, b = codeC l := ⟨_, rfl⟩
    simp only [← hr, ← hb] at c1 c2
    have c3 := fun wx => eqCmd_self r wx
    clear hr hb
    unfold S CV cmA at *
    go_enter Try.func7, Try.ntmps7
    go_wp2_with fail
    refine c1.mono ?_
    rintro e w1 ⟨rfl, b1⟩
    have R1 := CmB.new w1 25 r
    have B1 := b1.alloc b1.size (.cells (cmA r) 25)
    unfold cmA at R1 B1
    clear c1 b1 hB
    go_wp2_with fail
    refine (c2 _).mono ?_
    rintro e w2 ⟨rfl, b2⟩
    have R2 := CmB.below (c := r) R1 b2
    have B2 := B1.trans (b2.mono B1.size)
    have R3 := R2.alloc (.cells (cmA r) 25)
    have B3 := B2.alloc B2.size (.cells (cmA r) 25)
    have Q3 := CmB.new w2 25 r
    have hlt := R2.lt
    have hne : w1.heap.size ≠ w2.heap.size := by omega
    unfold cmA at R3 B3 Q3
    clear c2 b2 R1 B1 B2 R2
    go_wp2_with (first | (refine wpList_getC rfl _ rfl w1.heap.size rfl r R3 ?_; unfold CV cmA) | (refine wpList_getC rfl _ rfl w2.heap.size rfl r Q3 ?_; unfold CV cmA))
    refine (c3 _).mono ?_
    rintro e w4 ⟨rfl, b4⟩
    have B4 := B3.trans (b4.mono B3.size)
    clear b4 B3 R3 Q3 c3
    go_wp2
    go_ret
    exact ⟨rfl, B4⟩
  · go_enter Try.func7, Try.ntmps7
    go_wp2
    go_ret
    exact ⟨rfl, hB⟩

theorem lifted (os : Os) (started : os.Started) (H : Type) (enc : TypeId × Value → H) :
    ReturnsInHanded {} Try.checked os 7 .any (Rows.fnExactReadCmdSpec.pre6 enc Try.prog Try.f7 Rows.fnExactReadCmdRow.domain false) (Rows.fnExactReadCmdSpec.post enc Try.prog Try.f7 false true false false) := by
  refine returnsInHanded_of_change (C := Try.checked) own started (by kernel_rfl) Try.func7
    (ChangeSpec.witness6 (enc := enc) (C := Try.checked) false ⟨#[], #[.string ByteArray.empty], []⟩ 8 (by kernel_rfl) (by kernel_rfl) (by kernel_rfl) (by kernel_rfl)) ?_
  intro W base args ds gs before hval0 hW hcnd _
  have hval : ∀ (j : Nat) t v, Try.f7.params[j]? = some t → args[j]? = some v → Value.okWide Try.prog W .any base t v := hval0
  have hW' := hW
  obtain ⟨p, q, hA0, hV, rfl, hfz, hnd⟩ := hW
  have hA : DataW.TrodAll enc Try.prog W 0 (fun _ => true) true Try.f7.params.toList args.toList ds p := hA0
  rw [Try.params7] at hA hval
  obtain ⟨v0, vs0, d0, ds0, p0, q0, hargs, rfl, rfl, h0, s0⟩ := trodAll_cons hA
  obtain ⟨rfl, rfl, rfl⟩ := trodAll_nil s0
  obtain rfl : args = #[v0] := by cases args; simp_all
  obtain ⟨rfl, rfl⟩ := trodVars_none hV
  obtain ⟨a0, rfl, rfl, rfl, w0⟩ := open_string Try.underlying9 (hval 0 9 v0 rfl rfl) h0
  clear hA0 hval0
  refine (walk a0 W w0).mono fun e W' ⟨he, bel⟩ => ?_
  subst he
  exact ⟨_, rfl, _, _, _, [], _, [], hW', trodAll_mk1 (shut_bool Try.underlying4 _), (trodAll_cons_mk (shut_string Try.underlying9 w0) trodAll_mk0), rfl, bel.frame _, fun h => by cases h⟩

theorem over : Rows.fnExactReadCmdRow.holds Try.pinned (OpenSpec.ofChange Rows.fnExactReadCmdSpec) :=
  OpenClaim.holds_of_wide 7 Try.f7 rfl rfl rfl rfl rfl rfl rfl ⟨rfl, rfl, rfl, rfl, rfl⟩ rfl rfl rfl rfl rfl (by kernel_rfl) Try.func7 (by kernel_rfl)
    (of_decide_eq_true (by kernel_rfl)) (by unfold Func.isWrapper; first | (rw [if_pos (by decide +kernel)]; kernel_rfl) | (rw [if_neg (by decide +kernel)]; exact ⟨rfl, rfl⟩))
    (fun os started H enc _ => lifted os started H enc)

theorem proved : Rows.FnExactReadCmdSaid := over
end Go.Proofs.Ytcphnnibhlmajaa.fnExactReadCmd
namespace Go.Proofs.Ytcphnnibhlmajaa
theorem fnExactReadCmd_holds : Rows.FnExactReadCmdSaid := fnExactReadCmd.proved
end Go.Proofs.Ytcphnnibhlmajaa
