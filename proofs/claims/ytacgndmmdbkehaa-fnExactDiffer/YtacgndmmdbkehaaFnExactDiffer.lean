/- At every two lists of numbers Differ of the program answers as Differ of the model, and leaves what it was given as it was: the law FnExactDiffer returns true, whatever it is given. -/
import Derived.Test.YtacgndmmdbkehaaRows
import Derived.WalkKit
import Derived.ProofKit
import Derived.OpenShut
import Derived.ShutString
import Derived.ChangeOld
import Derived.Below
import Derived.Test.YtacgndmmdbkehaaSBlocks
import Derived.Test.YtacgndmmdbkehaaDiffer
namespace Go.Proofs.Ytacgndmmdbkehaa.fnExactDiffer
open Go.ChangeShapes Go.WideShapes Go.ChangeAt Go.RowKit
open Go.ChangeMaps (open_string shut_string)
set_option linter.unusedVariables false

theorem own : ownKnob Try.prog.godebug = none := by kernel_rfl
theorem laidOut : laidOutB Try.prog = true := by kernel_rfl

def IsRow (k : IntKind) (w : World) (a : Option Addr) (len cap : Nat) (zs : List Int) : Prop :=
  (a = none ∧ len = 0 ∧ cap = 0 ∧ zs = []) ∨
  ∃ x, a = some x ∧ len ≤ cap ∧ cap ≤ maxLen ∧ zs.length = cap ∧ (∀ i, i < zs.length → w.cell? (x.add i) = some (.int k (zs.getD i 0))) ∧ ∀ n ∈ zs, (Lit.int k n).wf = true

set_option maxRecDepth 20000 in
set_option maxHeartbeats 2000000 in
theorem walk (a0 : Option Addr) (len0 cap0 : Nat) (z0 : List Int) (a1 : Option Addr) (len1 cap1 : Nat) (z1 : List Int) (w : World) (w0 : IsRow .i64 w a0 len0 cap0 z0) (w1 : IsRow .i64 w a1 len1 cap1 z1) :
    Calls Try.prog 7 #[.slice a0 len0 cap0, .slice a1 len1 cap1] w fun e w' => e = .returned (.bool true) ∧ Below w.heap.size w w' := by
  obtain ⟨xs, hl0, HR0⟩ := reads_row w0
  obtain ⟨ys, hl1, HR1⟩ := reads_row w1
  by_cases hbig0 : (1048576 : Int) < (len0 : Int)
  · clear w0 HR0 hl0 w1 HR1 hl1
    go_enter Try.func7, Try.ntmps7
    go_wp2
    go_ret
    exact ⟨rfl, Below.refl _ _⟩
  · skip
    by_cases hbig1 : (1048576 : Int) < (len1 : Int)
    · clear w0 HR0 hl0 w1 HR1 hl1
      go_enter Try.func7, Try.ntmps7
      go_wp2
      go_ret
      exact ⟨rfl, Below.refl _ _⟩
    · skip
      have hx0 : xs.length ≤ 1099511627776 := by omega
      replace HR0 : Hid (Reads w (.slice a0 len0 cap0) xs) := HR0
      have hx1 : ys.length ≤ 1099511627776 := by omega
      replace HR1 : Hid (Reads w (.slice a1 len1 cap1) ys) := HR1
      clear w0 w1
      obtain ⟨d, hd⟩ : ∃ d, d = differI xs ys := ⟨_, rfl⟩
      have cs : ∀ v u w', Reads w' v xs → Reads w' u ys → _ := fun v u w' h h' => sdiffer_any v u xs ys w' h h' hx0 hx1
      have ci : ∀ v u w', Reads w' v xs → Reads w' u ys → _ := fun v u w' h h' => differ_any v u xs ys w' h h' hx0 hx1
      simp only [← hd] at cs ci
      clear hd
      have hdd : (d != d) = false := by simp
      have c : Below w.heap.size w w := Below.refl _ _
      go_enter Try.func7, Try.ntmps7
      go_wp2_with fail
      refine (to_any _ xs _ (HR0.out.below c (Nat.le_refl _)) hx0).mono ?_
      rintro e w1 ⟨uA, rfl, oA, b1⟩
      replace oA := oA.mono c.size
      replace c := c.trans (b1.mono c.size)
      clear b1
      go_wp2_with fail
      refine (to_any _ ys _ (HR1.out.below c (Nat.le_refl _)) hx1).mono ?_
      rintro e w2 ⟨uB, rfl, oB, b2⟩
      have hA_B := oA.apart oB (Nat.le_refl _)
      have hB_A := oA.apart' oB (Nat.le_refl _)
      replace oA := oA.below b2
      replace oB := oB.mono c.size
      replace c := c.trans (b2.mono c.size)
      clear b2
      go_wp2_with fail
      refine (cs _ _ _ oA.reads oB.reads).mono ?_
      rintro e _ ⟨rfl, n3, rfl⟩
      replace oA := oA.drewN n3
      replace oB := oB.drewN n3
      replace c := below_drewN c n3
      go_wp2_with fail
      refine (to_any _ xs _ (HR0.out.below c (Nat.le_refl _)) hx0).mono ?_
      rintro e w4 ⟨uX, rfl, oX, b4⟩
      have hA_X := oA.apart oX (Nat.le_refl _)
      have hX_A := oA.apart' oX (Nat.le_refl _)
      have hB_X := oB.apart oX (Nat.le_refl _)
      have hX_B := oB.apart' oX (Nat.le_refl _)
      replace oA := oA.below b4
      replace oB := oB.below b4
      replace oX := oX.mono c.size
      replace c := c.trans (b4.mono c.size)
      clear b4
      go_wp2_with fail
      refine (to_any _ ys _ (HR1.out.below c (Nat.le_refl _)) hx1).mono ?_
      rintro e w5 ⟨uY, rfl, oY, b5⟩
      have hA_Y := oA.apart oY (Nat.le_refl _)
      have hY_A := oA.apart' oY (Nat.le_refl _)
      have hB_Y := oB.apart oY (Nat.le_refl _)
      have hY_B := oB.apart' oY (Nat.le_refl _)
      have hX_Y := oX.apart oY (Nat.le_refl _)
      have hY_X := oX.apart' oY (Nat.le_refl _)
      replace oA := oA.below b5
      replace oB := oB.below b5
      replace oX := oX.below b5
      replace oY := oY.mono c.size
      replace c := c.trans (b5.mono c.size)
      clear b5
      go_wp2_with fail
      refine (ci _ _ _ oX.reads oY.reads).mono ?_
      rintro e w6 ⟨rfl, b6⟩
      replace oA := oA.below b6
      replace oB := oB.below b6
      replace oX := oX.below b6
      replace oY := oY.below b6
      replace c := c.trans (b6.mono c.size)
      clear b6
      go_wp2_with fail
      refine (to_any _ xs _ (HR0.out.below c (Nat.le_refl _)) hx0).mono ?_
      rintro e w7 ⟨uC, rfl, oC, b7⟩
      have hA_C := oA.apart oC (Nat.le_refl _)
      have hC_A := oA.apart' oC (Nat.le_refl _)
      have hB_C := oB.apart oC (Nat.le_refl _)
      have hC_B := oB.apart' oC (Nat.le_refl _)
      have hX_C := oX.apart oC (Nat.le_refl _)
      have hC_X := oX.apart' oC (Nat.le_refl _)
      have hY_C := oY.apart oC (Nat.le_refl _)
      have hC_Y := oY.apart' oC (Nat.le_refl _)
      replace oA := oA.below b7
      replace oB := oB.below b7
      replace oX := oX.below b7
      replace oY := oY.below b7
      replace oC := oC.mono c.size
      replace c := c.trans (b7.mono c.size)
      clear b7
      go_wp2_with fail
      refine (eq_any _ _ xs xs _ oX.reads oC.reads hx0).mono ?_
      rintro e _ ⟨rfl, n8, rfl⟩
      replace oA := oA.drewN n8
      replace oB := oB.drewN n8
      replace oX := oX.drewN n8
      replace oY := oY.drewN n8
      replace oC := oC.drewN n8
      replace c := below_drewN c n8
      have he : decide (xs = xs) = true := by simp
      rw [he]
      clear he
      go_wp2_with fail
      refine (to_any _ ys _ (HR1.out.below c (Nat.le_refl _)) hx1).mono ?_
      rintro e w9 ⟨uD, rfl, oD, b9⟩
      have hA_D := oA.apart oD (Nat.le_refl _)
      have hD_A := oA.apart' oD (Nat.le_refl _)
      have hB_D := oB.apart oD (Nat.le_refl _)
      have hD_B := oB.apart' oD (Nat.le_refl _)
      have hX_D := oX.apart oD (Nat.le_refl _)
      have hD_X := oX.apart' oD (Nat.le_refl _)
      have hY_D := oY.apart oD (Nat.le_refl _)
      have hD_Y := oY.apart' oD (Nat.le_refl _)
      have hC_D := oC.apart oD (Nat.le_refl _)
      have hD_C := oC.apart' oD (Nat.le_refl _)
      replace oA := oA.below b9
      replace oB := oB.below b9
      replace oX := oX.below b9
      replace oY := oY.below b9
      replace oC := oC.below b9
      replace oD := oD.mono c.size
      replace c := c.trans (b9.mono c.size)
      clear b9
      go_wp2_with fail
      refine (eq_any _ _ ys ys _ oY.reads oD.reads hx1).mono ?_
      rintro e _ ⟨rfl, n10, rfl⟩
      replace oA := oA.drewN n10
      replace oB := oB.drewN n10
      replace oX := oX.drewN n10
      replace oY := oY.drewN n10
      replace oC := oC.drewN n10
      replace oD := oD.drewN n10
      replace c := below_drewN c n10
      have he : decide (ys = ys) = true := by simp
      rw [he]
      clear he
      have HB : Hid (Below w.heap.size w _) := c
      clear c oA oB oX oY oC oD hA_B hA_X hA_Y hA_C hA_D hB_A hB_X hB_Y hB_C hB_D hX_A hX_B hX_Y hX_C hX_D hY_A hY_B hY_X hY_C hY_D hC_A hC_B hC_X hC_Y hC_D hD_A hD_B hD_X hD_Y hD_C
      go_wp2
      go_ret
      exact ⟨rfl, HB.out⟩

set_option maxRecDepth 100000 in
theorem lifted (os : Os) (started : os.Started) (H : Type) (enc : TypeId × Value → H) :
    ReturnsInHanded {} Try.checked os 7 .any (Rows.fnExactDifferSpec.pre6 enc Try.prog Try.f7 Rows.fnExactDifferRow.domain false) (Rows.fnExactDifferSpec.post enc Try.prog Try.f7 false true false false) := by
  refine returnsInHanded_of_change (C := Try.checked) own started (by kernel_rfl) Try.func7
    (ChangeSpec.witness6 (enc := enc) (C := Try.checked) false ⟨#[], #[.slice none 0 0, .slice none 0 0], []⟩ 8 (by kernel_rfl) (by kernel_rfl) (by kernel_rfl) (by kernel_rfl)) ?_
  intro W base args ds gs before hval0 hW hcnd _
  have hval : ∀ (j : Nat) t v, Try.f7.params[j]? = some t → args[j]? = some v → Value.okWide Try.prog W .any base t v := hval0
  have hW' := hW
  obtain ⟨p, q, hA0, hV, rfl, hfz, hnd⟩ := hW
  have hA : DataW.TrodAll enc Try.prog W 0 (fun _ => true) true Try.f7.params.toList args.toList ds p := hA0
  rw [Try.params7] at hA hval
  obtain ⟨v0, vs0, d0, ds0, p0, q0, hargs, rfl, rfl, h0, r0⟩ := trodAll_cons hA
  obtain ⟨v1, vs1, d1, ds1, p1, q1, rfl, rfl, rfl, h1, r1⟩ := trodAll_cons r0
  obtain ⟨rfl, rfl, rfl⟩ := trodAll_nil r1
  obtain rfl : args = #[v0, v1] := by cases args; simp_all
  obtain ⟨rfl, rfl⟩ := trodVars_none hV
  obtain ⟨a0, len0, cap0, rfl⟩ := okWide_slice Try.underlying24 (hval 0 24 v0 rfl rfl)
  have k0 := h0
  have lt0 : ∀ x ∈ p0, x.block < W.heap.size := by obtain ⟨m, hm⟩ := k0; exact DataW.trod_lt m _ _ _ hm
  obtain ⟨z0, w0⟩ : ∃ zs, IsRow .i64 W a0 len0 cap0 zs := by
    obtain ⟨fuel, hf⟩ := h0
    rcases open_ints Try.underlying24 Try.underlying2 (by kernel_rfl) hf with ⟨hcs, _⟩ | ⟨x, l, c, zs, hcs, _, hl, hm, hz, _, hcell, hwz⟩
    · simp [Value.cells] at hcs
      obtain ⟨rfl, rfl, rfl⟩ := hcs
      exact ⟨[], .inl ⟨rfl, rfl, rfl, rfl⟩⟩
    · simp [Value.cells] at hcs
      obtain ⟨rfl, rfl, rfl⟩ := hcs
      exact ⟨zs, .inr ⟨_, rfl, hl, hm, by simpa using hz, hcell, hwz⟩⟩
  obtain ⟨a1, len1, cap1, rfl⟩ := okWide_slice Try.underlying24 (hval 1 24 v1 rfl rfl)
  have k1 := h1
  have lt1 : ∀ x ∈ p1, x.block < W.heap.size := by obtain ⟨m, hm⟩ := k1; exact DataW.trod_lt m _ _ _ hm
  obtain ⟨z1, w1⟩ : ∃ zs, IsRow .i64 W a1 len1 cap1 zs := by
    obtain ⟨fuel, hf⟩ := h1
    rcases open_ints Try.underlying24 Try.underlying2 (by kernel_rfl) hf with ⟨hcs, _⟩ | ⟨x, l, c, zs, hcs, _, hl, hm, hz, _, hcell, hwz⟩
    · simp [Value.cells] at hcs
      obtain ⟨rfl, rfl, rfl⟩ := hcs
      exact ⟨[], .inl ⟨rfl, rfl, rfl, rfl⟩⟩
    · simp [Value.cells] at hcs
      obtain ⟨rfl, rfl, rfl⟩ := hcs
      exact ⟨zs, .inr ⟨_, rfl, hl, hm, by simpa using hz, hcell, hwz⟩⟩
  clear hA0 hval0
  refine (walk a0 len0 cap0 z0 a1 len1 cap1 z1 W w0 w1).mono fun e W' ⟨he, bel⟩ => ?_
  subst he
  exact ⟨_, rfl, _, _, _, [], _, [], hW', trodAll_mk1 (shut_bool Try.underlying4 _), (trodAll_cons_mk (Below.trod laidOut (by kernel_rfl) (of_decide_eq_true (by kernel_rfl)) k0 bel lt0) (trodAll_cons_mk (Below.trod laidOut (by kernel_rfl) (of_decide_eq_true (by kernel_rfl)) k1 bel lt1) trodAll_mk0)), rfl, bel.frame _, fun h => by cases h⟩

theorem over : Rows.fnExactDifferRow.holds Try.pinned (OpenSpec.ofChange Rows.fnExactDifferSpec) :=
  OpenClaim.holds_of_wide 7 Try.f7 rfl rfl rfl rfl rfl rfl rfl ⟨rfl, rfl, rfl, rfl, rfl⟩ rfl rfl rfl rfl rfl (by kernel_rfl) Try.func7 (by kernel_rfl)
    (of_decide_eq_true (by kernel_rfl)) (by unfold Func.isWrapper; first | (rw [if_pos (by decide +kernel)]; kernel_rfl) | (rw [if_neg (by decide +kernel)]; exact ⟨rfl, rfl⟩))
    (fun os started H enc _ => lifted os started H enc)

theorem proved : Rows.FnExactDifferSaid := over
end Go.Proofs.Ytacgndmmdbkehaa.fnExactDiffer
namespace Go.Proofs.Ytacgndmmdbkehaa
theorem fnExactDiffer_holds : Rows.FnExactDifferSaid := fnExactDiffer.proved
end Go.Proofs.Ytacgndmmdbkehaa
