/- At every two lists of numbers and every number Chosen of the program answers as Chosen of the model, in memory of its own that a second call leaves alone, and leaves what it was given as it was: the law FnExactChosen returns true, whatever it is given. -/
import Derived.Test.YtacgndmmdbkehaaRows
import Derived.WalkKit
import Derived.ProofKit
import Derived.OpenShut
import Derived.ShutString
import Derived.ChangeOld
import Derived.Below
import Derived.Test.YtacgndmmdbkehaaSBlocks
import Derived.Test.YtacgndmmdbkehaaChosen
namespace Go.Proofs.Ytacgndmmdbkehaa.fnExactChosen
open Go.ChangeShapes Go.WideShapes Go.ChangeAt Go.RowKit
open Go.ChangeMaps (open_string shut_string)
set_option linter.unusedVariables false

theorem own : ownKnob Try.prog.godebug = none := by kernel_rfl
theorem laidOut : laidOutB Try.prog = true := by kernel_rfl

def IsRow (k : IntKind) (w : World) (a : Option Addr) (len cap : Nat) (zs : List Int) : Prop :=
  (a = none ∧ len = 0 ∧ cap = 0 ∧ zs = []) ∨
  ∃ x, a = some x ∧ len ≤ cap ∧ cap ≤ maxLen ∧ zs.length = cap ∧ (∀ i, i < zs.length → w.cell? (x.add i) = some (.int k (zs.getD i 0))) ∧ ∀ n ∈ zs, (Lit.int k n).wf = true

set_option maxRecDepth 20000 in
set_option maxHeartbeats 2000000 in
theorem walk (a0 : Option Addr) (len0 cap0 : Nat) (z0 : List Int) (a1 : Option Addr) (len1 cap1 : Nat) (z1 : List Int) (a2 : Int) (w : World) (w0 : IsRow .i64 w a0 len0 cap0 z0) (w1 : IsRow .i64 w a1 len1 cap1 z1) (w2 : (Lit.int .i64 a2).wf = true) :
    Calls Try.prog 8 #[.slice a0 len0 cap0, .slice a1 len1 cap1, .int .i64 a2] w fun e w' => e = .returned (.bool true) ∧ Below w.heap.size w w' := by
  obtain ⟨xs, hl0, HR0⟩ := reads_row w0
  obtain ⟨ys, hl1, HR1⟩ := reads_row w1
  by_cases hbig0 : (1048576 : Int) < (len0 : Int)
  · clear w0 HR0 hl0 w1 HR1 hl1
    go_enter Try.func8, Try.ntmps8
    go_wp2
    go_ret
    exact ⟨rfl, Below.refl _ _⟩
  · skip
    by_cases hbig1 : (1048576 : Int) < (len1 : Int)
    · clear w0 HR0 hl0 w1 HR1 hl1
      go_enter Try.func8, Try.ntmps8
      go_wp2
      go_ret
      exact ⟨rfl, Below.refl _ _⟩
    · skip
      have hs0 : xs.length ≤ 1048576 := by omega
      have hx0 : xs.length ≤ 1099511627776 := by omega
      replace HR0 : Hid (Reads w (.slice a0 len0 cap0) xs) := HR0
      have hs1 : ys.length ≤ 1048576 := by omega
      have hx1 : ys.length ≤ 1099511627776 := by omega
      replace HR1 : Hid (Reads w (.slice a1 len1 cap1) ys) := HR1
      clear w0 hl0 w1 hl1
      have hlp : (chosenI xs ys a2).length ≤ 1099511627776 := by have := chosenI_len xs ys a2; omega
      obtain ⟨zs, hz⟩ : ∃ zs, zs = chosenI xs ys a2 := ⟨_, rfl⟩
      have cs : ∀ v u w', Reads w' v xs → Reads w' u ys → _ := fun v u w' h h' => schosen_any v u xs ys a2 w' h h' hx0 hx1
      have ci : ∀ v u w', Reads w' v xs → Reads w' u ys → _ := fun v u w' h h' => chosen_any v u xs ys a2 w' h h' hx0 hx1
      simp only [← hz] at cs ci hlp
      clear hz
      have c : Below w.heap.size w w := Below.refl _ _
      go_enter Try.func8, Try.ntmps8
      go_wp2_with fail
      refine (to_any _ xs _ (HR0.out.below c (Nat.le_refl _)) hx0).mono ?_
      rintro e w1 ⟨uA, rfl, oA, b1⟩
      replace oA := oA.mono c.size
      replace c := c.trans (b1.mono c.size)
      clear b1
      go_wp2_with fail
      refine (to_any _ ys _ (HR1.out.below c (Nat.le_refl _)) hx1).mono ?_
      rintro e w2 ⟨uB, rfl, oB, b2⟩
      have hA_B := oA.apart oB (Nat.le_refl _)
      have hB_A := oA.apart' oB (Nat.le_refl _)
      replace oA := oA.below b2
      replace oB := oB.mono c.size
      replace c := c.trans (b2.mono c.size)
      clear b2
      go_wp2_with fail
      refine (cs _ _ _ oA.reads oB.reads).mono ?_
      rintro e w3 ⟨uW, rfl, oW, b3⟩
      have hA_W := oA.apart oW (Nat.le_refl _)
      have hW_A := oA.apart' oW (Nat.le_refl _)
      have hB_W := oB.apart oW (Nat.le_refl _)
      have hW_B := oB.apart' oW (Nat.le_refl _)
      replace oA := oA.below b3
      replace oB := oB.below b3
      replace oW := oW.mono c.size
      replace c := c.trans (b3.mono c.size)
      clear b3
      go_wp2_with fail
      refine (to_any _ xs _ (HR0.out.below c (Nat.le_refl _)) hx0).mono ?_
      rintro e w4 ⟨uX, rfl, oX, b4⟩
      have hA_X := oA.apart oX (Nat.le_refl _)
      have hX_A := oA.apart' oX (Nat.le_refl _)
      have hB_X := oB.apart oX (Nat.le_refl _)
      have hX_B := oB.apart' oX (Nat.le_refl _)
      have hW_X := oW.apart oX (Nat.le_refl _)
      have hX_W := oW.apart' oX (Nat.le_refl _)
      replace oA := oA.below b4
      replace oB := oB.below b4
      replace oW := oW.below b4
      replace oX := oX.mono c.size
      replace c := c.trans (b4.mono c.size)
      clear b4
      go_wp2_with fail
      refine (to_any _ ys _ (HR1.out.below c (Nat.le_refl _)) hx1).mono ?_
      rintro e w5 ⟨uY, rfl, oY, b5⟩
      have hA_Y := oA.apart oY (Nat.le_refl _)
      have hY_A := oA.apart' oY (Nat.le_refl _)
      have hB_Y := oB.apart oY (Nat.le_refl _)
      have hY_B := oB.apart' oY (Nat.le_refl _)
      have hW_Y := oW.apart oY (Nat.le_refl _)
      have hY_W := oW.apart' oY (Nat.le_refl _)
      have hX_Y := oX.apart oY (Nat.le_refl _)
      have hY_X := oX.apart' oY (Nat.le_refl _)
      replace oA := oA.below b5
      replace oB := oB.below b5
      replace oW := oW.below b5
      replace oX := oX.below b5
      replace oY := oY.mono c.size
      replace c := c.trans (b5.mono c.size)
      clear b5
      go_wp2_with fail
      refine (ci _ _ _ oX.reads oY.reads).mono ?_
      rintro e w6 ⟨uG, rfl, oG, b6⟩
      have hA_G := oA.apart oG (Nat.le_refl _)
      have hG_A := oA.apart' oG (Nat.le_refl _)
      have hB_G := oB.apart oG (Nat.le_refl _)
      have hG_B := oB.apart' oG (Nat.le_refl _)
      have hW_G := oW.apart oG (Nat.le_refl _)
      have hG_W := oW.apart' oG (Nat.le_refl _)
      have hX_G := oX.apart oG (Nat.le_refl _)
      have hG_X := oX.apart' oG (Nat.le_refl _)
      have hY_G := oY.apart oG (Nat.le_refl _)
      have hG_Y := oY.apart' oG (Nat.le_refl _)
      replace oA := oA.below b6
      replace oB := oB.below b6
      replace oW := oW.below b6
      replace oX := oX.below b6
      replace oY := oY.below b6
      replace oG := oG.mono c.size
      replace c := c.trans (b6.mono c.size)
      clear b6
      go_wp2_with fail
      refine (eq_any _ _ zs zs _ oG.reads oW.reads hlp).mono ?_
      rintro e w7 ⟨rfl, n7, hw7⟩
      replace oA := oA.drew_eq hw7
      replace oB := oB.drew_eq hw7
      replace oW := oW.drew_eq hw7
      replace oX := oX.drew_eq hw7
      replace oY := oY.drew_eq hw7
      replace oG := oG.drew_eq hw7
      replace c := below_drew_eq c hw7
      clear hw7
      have he : decide (zs = zs) = true := by simp
      rw [he]
      clear he
      go_wp2_with fail
      refine (to_any _ xs _ (HR0.out.below c (Nat.le_refl _)) hx0).mono ?_
      rintro e w8 ⟨uC, rfl, oC, b8⟩
      have hA_C := oA.apart oC (Nat.le_refl _)
      have hC_A := oA.apart' oC (Nat.le_refl _)
      have hB_C := oB.apart oC (Nat.le_refl _)
      have hC_B := oB.apart' oC (Nat.le_refl _)
      have hW_C := oW.apart oC (Nat.le_refl _)
      have hC_W := oW.apart' oC (Nat.le_refl _)
      have hX_C := oX.apart oC (Nat.le_refl _)
      have hC_X := oX.apart' oC (Nat.le_refl _)
      have hY_C := oY.apart oC (Nat.le_refl _)
      have hC_Y := oY.apart' oC (Nat.le_refl _)
      have hG_C := oG.apart oC (Nat.le_refl _)
      have hC_G := oG.apart' oC (Nat.le_refl _)
      replace oA := oA.below b8
      replace oB := oB.below b8
      replace oW := oW.below b8
      replace oX := oX.below b8
      replace oY := oY.below b8
      replace oG := oG.below b8
      replace oC := oC.mono c.size
      replace c := c.trans (b8.mono c.size)
      clear b8
      go_wp2_with fail
      refine (eq_any _ _ xs xs _ oX.reads oC.reads hx0).mono ?_
      rintro e w9 ⟨rfl, n9, hw9⟩
      replace oA := oA.drew_eq hw9
      replace oB := oB.drew_eq hw9
      replace oW := oW.drew_eq hw9
      replace oX := oX.drew_eq hw9
      replace oY := oY.drew_eq hw9
      replace oG := oG.drew_eq hw9
      replace oC := oC.drew_eq hw9
      replace c := below_drew_eq c hw9
      clear hw9
      have he : decide (xs = xs) = true := by simp
      rw [he]
      clear he
      go_wp2_with fail
      refine (to_any _ ys _ (HR1.out.below c (Nat.le_refl _)) hx1).mono ?_
      rintro e w10 ⟨uD, rfl, oD, b10⟩
      have hA_D := oA.apart oD (Nat.le_refl _)
      have hD_A := oA.apart' oD (Nat.le_refl _)
      have hB_D := oB.apart oD (Nat.le_refl _)
      have hD_B := oB.apart' oD (Nat.le_refl _)
      have hW_D := oW.apart oD (Nat.le_refl _)
      have hD_W := oW.apart' oD (Nat.le_refl _)
      have hX_D := oX.apart oD (Nat.le_refl _)
      have hD_X := oX.apart' oD (Nat.le_refl _)
      have hY_D := oY.apart oD (Nat.le_refl _)
      have hD_Y := oY.apart' oD (Nat.le_refl _)
      have hG_D := oG.apart oD (Nat.le_refl _)
      have hD_G := oG.apart' oD (Nat.le_refl _)
      have hC_D := oC.apart oD (Nat.le_refl _)
      have hD_C := oC.apart' oD (Nat.le_refl _)
      replace oA := oA.below b10
      replace oB := oB.below b10
      replace oW := oW.below b10
      replace oX := oX.below b10
      replace oY := oY.below b10
      replace oG := oG.below b10
      replace oC := oC.below b10
      replace oD := oD.mono c.size
      replace c := c.trans (b10.mono c.size)
      clear b10
      go_wp2_with fail
      refine (eq_any _ _ ys ys _ oY.reads oD.reads hx1).mono ?_
      rintro e w11 ⟨rfl, n11, hw11⟩
      replace oA := oA.drew_eq hw11
      replace oB := oB.drew_eq hw11
      replace oW := oW.drew_eq hw11
      replace oX := oX.drew_eq hw11
      replace oY := oY.drew_eq hw11
      replace oG := oG.drew_eq hw11
      replace oC := oC.drew_eq hw11
      replace oD := oD.drew_eq hw11
      replace c := below_drew_eq c hw11
      clear hw11
      have he : decide (ys = ys) = true := by simp
      rw [he]
      clear he
      go_wp2_with fail
      refine (mark_any _ xs 1 _ _ oX hx0 (by omega) (by omega)).mono ?_
      rintro e w12 ⟨rfl, pX, g12⟩
      replace oA := oA.kept g12 hA_X
      replace oB := oB.kept g12 hB_X
      replace oW := oW.kept g12 hW_X
      replace oY := oY.kept g12 hY_X
      replace oG := oG.kept g12 hG_X
      replace oC := oC.kept g12 hC_X
      replace oD := oD.kept g12 hD_X
      replace c := c.grown g12 c.size (fun k hk => (oX.lt k hk).1)
      replace oX := pX
      clear pX g12
      go_wp2_with fail
      refine (mark_any _ ys (1 + xs.length) _ _ oY hx1 (by omega) (by omega)).mono ?_
      rintro e w13 ⟨rfl, pY, g13⟩
      replace oA := oA.kept g13 hA_Y
      replace oB := oB.kept g13 hB_Y
      replace oW := oW.kept g13 hW_Y
      replace oX := oX.kept g13 hX_Y
      replace oG := oG.kept g13 hG_Y
      replace oC := oC.kept g13 hC_Y
      replace oD := oD.kept g13 hD_Y
      replace c := c.grown g13 c.size (fun k hk => (oY.lt k hk).1)
      replace oY := pY
      clear pY g13
      go_wp2_with fail
      refine (eq_any _ _ zs zs _ oG.reads oW.reads hlp).mono ?_
      rintro e w14 ⟨rfl, n14, hw14⟩
      replace oA := oA.drew_eq hw14
      replace oB := oB.drew_eq hw14
      replace oW := oW.drew_eq hw14
      replace oX := oX.drew_eq hw14
      replace oY := oY.drew_eq hw14
      replace oG := oG.drew_eq hw14
      replace oC := oC.drew_eq hw14
      replace oD := oD.drew_eq hw14
      replace c := below_drew_eq c hw14
      clear hw14
      have he : decide (zs = zs) = true := by simp
      rw [he]
      clear he
      go_wp2_with fail
      refine (mark_any _ zs 1 _ _ oG hlp (by omega) (by omega)).mono ?_
      rintro e w15 ⟨rfl, pG, g15⟩
      replace oA := oA.kept g15 hA_G
      replace oB := oB.kept g15 hB_G
      replace oW := oW.kept g15 hW_G
      replace oX := oX.kept g15 hX_G
      replace oY := oY.kept g15 hY_G
      replace oC := oC.kept g15 hC_G
      replace oD := oD.kept g15 hD_G
      replace c := c.grown g15 c.size (fun k hk => (oG.lt k hk).1)
      replace oG := pG
      clear pG g15
      go_wp2_with fail
      refine (held_marks _ zs.length 1 _ oG.reads hlp (by omega) (by omega)).mono ?_
      rintro e w' ⟨rfl, hw⟩; subst w'
      go_wp2_with fail
      refine (to_any _ xs _ (HR0.out.below c (Nat.le_refl _)) hx0).mono ?_
      rintro e w16 ⟨uE, rfl, oE, b16⟩
      have hA_E := oA.apart oE (Nat.le_refl _)
      have hE_A := oA.apart' oE (Nat.le_refl _)
      have hB_E := oB.apart oE (Nat.le_refl _)
      have hE_B := oB.apart' oE (Nat.le_refl _)
      have hW_E := oW.apart oE (Nat.le_refl _)
      have hE_W := oW.apart' oE (Nat.le_refl _)
      have hX_E := oX.apart oE (Nat.le_refl _)
      have hE_X := oX.apart' oE (Nat.le_refl _)
      have hY_E := oY.apart oE (Nat.le_refl _)
      have hE_Y := oY.apart' oE (Nat.le_refl _)
      have hG_E := oG.apart oE (Nat.le_refl _)
      have hE_G := oG.apart' oE (Nat.le_refl _)
      have hC_E := oC.apart oE (Nat.le_refl _)
      have hE_C := oC.apart' oE (Nat.le_refl _)
      have hD_E := oD.apart oE (Nat.le_refl _)
      have hE_D := oD.apart' oE (Nat.le_refl _)
      replace oA := oA.below b16
      replace oB := oB.below b16
      replace oW := oW.below b16
      replace oX := oX.below b16
      replace oY := oY.below b16
      replace oG := oG.below b16
      replace oC := oC.below b16
      replace oD := oD.below b16
      replace oE := oE.mono c.size
      replace c := c.trans (b16.mono c.size)
      clear b16
      go_wp2_with fail
      refine (to_any _ ys _ (HR1.out.below c (Nat.le_refl _)) hx1).mono ?_
      rintro e w17 ⟨uF, rfl, oF, b17⟩
      have hA_F := oA.apart oF (Nat.le_refl _)
      have hF_A := oA.apart' oF (Nat.le_refl _)
      have hB_F := oB.apart oF (Nat.le_refl _)
      have hF_B := oB.apart' oF (Nat.le_refl _)
      have hW_F := oW.apart oF (Nat.le_refl _)
      have hF_W := oW.apart' oF (Nat.le_refl _)
      have hX_F := oX.apart oF (Nat.le_refl _)
      have hF_X := oX.apart' oF (Nat.le_refl _)
      have hY_F := oY.apart oF (Nat.le_refl _)
      have hF_Y := oY.apart' oF (Nat.le_refl _)
      have hG_F := oG.apart oF (Nat.le_refl _)
      have hF_G := oG.apart' oF (Nat.le_refl _)
      have hC_F := oC.apart oF (Nat.le_refl _)
      have hF_C := oC.apart' oF (Nat.le_refl _)
      have hD_F := oD.apart oF (Nat.le_refl _)
      have hF_D := oD.apart' oF (Nat.le_refl _)
      have hE_F := oE.apart oF (Nat.le_refl _)
      have hF_E := oE.apart' oF (Nat.le_refl _)
      replace oA := oA.below b17
      replace oB := oB.below b17
      replace oW := oW.below b17
      replace oX := oX.below b17
      replace oY := oY.below b17
      replace oG := oG.below b17
      replace oC := oC.below b17
      replace oD := oD.below b17
      replace oE := oE.below b17
      replace oF := oF.mono c.size
      replace c := c.trans (b17.mono c.size)
      clear b17
      go_wp2_with fail
      refine (ci _ _ _ oE.reads oF.reads).mono ?_
      rintro e w18 ⟨uH, rfl, oH, b18⟩
      have hA_H := oA.apart oH (Nat.le_refl _)
      have hH_A := oA.apart' oH (Nat.le_refl _)
      have hB_H := oB.apart oH (Nat.le_refl _)
      have hH_B := oB.apart' oH (Nat.le_refl _)
      have hW_H := oW.apart oH (Nat.le_refl _)
      have hH_W := oW.apart' oH (Nat.le_refl _)
      have hX_H := oX.apart oH (Nat.le_refl _)
      have hH_X := oX.apart' oH (Nat.le_refl _)
      have hY_H := oY.apart oH (Nat.le_refl _)
      have hH_Y := oY.apart' oH (Nat.le_refl _)
      have hG_H := oG.apart oH (Nat.le_refl _)
      have hH_G := oG.apart' oH (Nat.le_refl _)
      have hC_H := oC.apart oH (Nat.le_refl _)
      have hH_C := oC.apart' oH (Nat.le_refl _)
      have hD_H := oD.apart oH (Nat.le_refl _)
      have hH_D := oD.apart' oH (Nat.le_refl _)
      have hE_H := oE.apart oH (Nat.le_refl _)
      have hH_E := oE.apart' oH (Nat.le_refl _)
      have hF_H := oF.apart oH (Nat.le_refl _)
      have hH_F := oF.apart' oH (Nat.le_refl _)
      replace oA := oA.below b18
      replace oB := oB.below b18
      replace oW := oW.below b18
      replace oX := oX.below b18
      replace oY := oY.below b18
      replace oG := oG.below b18
      replace oC := oC.below b18
      replace oD := oD.below b18
      replace oE := oE.below b18
      replace oF := oF.below b18
      replace oH := oH.mono c.size
      replace c := c.trans (b18.mono c.size)
      clear b18
      go_wp2_with fail
      refine (eq_any _ _ zs zs _ oH.reads oW.reads hlp).mono ?_
      rintro e w19 ⟨rfl, n19, hw19⟩
      replace oA := oA.drew_eq hw19
      replace oB := oB.drew_eq hw19
      replace oW := oW.drew_eq hw19
      replace oX := oX.drew_eq hw19
      replace oY := oY.drew_eq hw19
      replace oG := oG.drew_eq hw19
      replace oC := oC.drew_eq hw19
      replace oD := oD.drew_eq hw19
      replace oE := oE.drew_eq hw19
      replace oF := oF.drew_eq hw19
      replace oH := oH.drew_eq hw19
      replace c := below_drew_eq c hw19
      clear hw19
      have he : decide (zs = zs) = true := by simp
      rw [he]
      clear he
      go_wp2_with fail
      refine (held_marks _ zs.length 1 _ oG.reads hlp (by omega) (by omega)).mono ?_
      rintro e w' ⟨rfl, hw⟩; subst w'
      have HB : Hid (Below w.heap.size w _) := c
      clear c oA oB oW oX oY oG oC oD oE oF oH hA_B hA_W hA_X hA_Y hA_G hA_C hA_D hA_E hA_F hA_H hB_A hB_W hB_X hB_Y hB_G hB_C hB_D hB_E hB_F hB_H hW_A hW_B hW_X hW_Y hW_G hW_C hW_D hW_E hW_F hW_H hX_A hX_B hX_W hX_Y hX_G hX_C hX_D hX_E hX_F hX_H hY_A hY_B hY_W hY_X hY_G hY_C hY_D hY_E hY_F hY_H hG_A hG_B hG_W hG_X hG_Y hG_C hG_D hG_E hG_F hG_H hC_A hC_B hC_W hC_X hC_Y hC_G hC_D hC_E hC_F hC_H hD_A hD_B hD_W hD_X hD_Y hD_G hD_C hD_E hD_F hD_H hE_A hE_B hE_W hE_X hE_Y hE_G hE_C hE_D hE_F hE_H hF_A hF_B hF_W hF_X hF_Y hF_G hF_C hF_D hF_E hF_H hH_A hH_B hH_W hH_X hH_Y hH_G hH_C hH_D hH_E hH_F
      go_wp2
      go_ret
      exact ⟨rfl, HB.out⟩

set_option maxRecDepth 100000 in
theorem lifted (os : Os) (started : os.Started) (H : Type) (enc : TypeId × Value → H) :
    ReturnsInHanded {} Try.checked os 8 .any (Rows.fnExactChosenSpec.pre6 enc Try.prog Try.f8 Rows.fnExactChosenRow.domain false) (Rows.fnExactChosenSpec.post enc Try.prog Try.f8 false true false false) := by
  refine returnsInHanded_of_change (C := Try.checked) own started (by kernel_rfl) Try.func8
    (ChangeSpec.witness6 (enc := enc) (C := Try.checked) false ⟨#[], #[.slice none 0 0, .slice none 0 0, .int .i64 0], []⟩ 8 (by kernel_rfl) (by kernel_rfl) (by kernel_rfl) (by kernel_rfl)) ?_
  intro W base args ds gs before hval0 hW hcnd _
  have hval : ∀ (j : Nat) t v, Try.f8.params[j]? = some t → args[j]? = some v → Value.okWide Try.prog W .any base t v := hval0
  have hW' := hW
  obtain ⟨p, q, hA0, hV, rfl, hfz, hnd⟩ := hW
  have hA : DataW.TrodAll enc Try.prog W 0 (fun _ => true) true Try.f8.params.toList args.toList ds p := hA0
  rw [Try.params8] at hA hval
  obtain ⟨v0, vs0, d0, ds0, p0, q0, hargs, rfl, rfl, h0, r0⟩ := trodAll_cons hA
  obtain ⟨v1, vs1, d1, ds1, p1, q1, rfl, rfl, rfl, h1, r1⟩ := trodAll_cons r0
  obtain ⟨v2, vs2, d2, ds2, p2, q2, rfl, rfl, rfl, h2, r2⟩ := trodAll_cons r1
  obtain ⟨rfl, rfl, rfl⟩ := trodAll_nil r2
  obtain rfl : args = #[v0, v1, v2] := by cases args; simp_all
  obtain ⟨rfl, rfl⟩ := trodVars_none hV
  obtain ⟨a0, len0, cap0, rfl⟩ := okWide_slice Try.underlying24 (hval 0 24 v0 rfl rfl)
  have k0 := h0
  have lt0 : ∀ x ∈ p0, x.block < W.heap.size := by obtain ⟨m, hm⟩ := k0; exact DataW.trod_lt m _ _ _ hm
  obtain ⟨z0, w0⟩ : ∃ zs, IsRow .i64 W a0 len0 cap0 zs := by
    obtain ⟨fuel, hf⟩ := h0
    rcases open_ints Try.underlying24 Try.underlying2 (by kernel_rfl) hf with ⟨hcs, _⟩ | ⟨x, l, c, zs, hcs, _, hl, hm, hz, _, hcell, hwz⟩
    · simp [Value.cells] at hcs
      obtain ⟨rfl, rfl, rfl⟩ := hcs
      exact ⟨[], .inl ⟨rfl, rfl, rfl, rfl⟩⟩
    · simp [Value.cells] at hcs
      obtain ⟨rfl, rfl, rfl⟩ := hcs
      exact ⟨zs, .inr ⟨_, rfl, hl, hm, by simpa using hz, hcell, hwz⟩⟩
  obtain ⟨a1, len1, cap1, rfl⟩ := okWide_slice Try.underlying24 (hval 1 24 v1 rfl rfl)
  have k1 := h1
  have lt1 : ∀ x ∈ p1, x.block < W.heap.size := by obtain ⟨m, hm⟩ := k1; exact DataW.trod_lt m _ _ _ hm
  obtain ⟨z1, w1⟩ : ∃ zs, IsRow .i64 W a1 len1 cap1 zs := by
    obtain ⟨fuel, hf⟩ := h1
    rcases open_ints Try.underlying24 Try.underlying2 (by kernel_rfl) hf with ⟨hcs, _⟩ | ⟨x, l, c, zs, hcs, _, hl, hm, hz, _, hcell, hwz⟩
    · simp [Value.cells] at hcs
      obtain ⟨rfl, rfl, rfl⟩ := hcs
      exact ⟨[], .inl ⟨rfl, rfl, rfl, rfl⟩⟩
    · simp [Value.cells] at hcs
      obtain ⟨rfl, rfl, rfl⟩ := hcs
      exact ⟨zs, .inr ⟨_, rfl, hl, hm, by simpa using hz, hcell, hwz⟩⟩
  obtain ⟨a2, rfl, rfl, rfl, w2⟩ := open_int Try.underlying2 (hval 2 2 v2 rfl rfl) h2
  clear hA0 hval0
  refine (walk a0 len0 cap0 z0 a1 len1 cap1 z1 a2 W w0 w1 w2).mono fun e W' ⟨he, bel⟩ => ?_
  subst he
  exact ⟨_, rfl, _, _, _, [], _, [], hW', trodAll_mk1 (shut_bool Try.underlying4 _), (trodAll_cons_mk (Below.trod laidOut (by kernel_rfl) (of_decide_eq_true (by kernel_rfl)) k0 bel lt0) (trodAll_cons_mk (Below.trod laidOut (by kernel_rfl) (of_decide_eq_true (by kernel_rfl)) k1 bel lt1) (trodAll_cons_mk (shut_int Try.underlying2 w2) trodAll_mk0))), rfl, bel.frame _, fun h => by cases h⟩

theorem over : Rows.fnExactChosenRow.holds Try.pinned (OpenSpec.ofChange Rows.fnExactChosenSpec) :=
  OpenClaim.holds_of_wide 8 Try.f8 rfl rfl rfl rfl rfl rfl rfl ⟨rfl, rfl, rfl, rfl, rfl⟩ rfl rfl rfl rfl rfl (by kernel_rfl) Try.func8 (by kernel_rfl)
    (of_decide_eq_true (by kernel_rfl)) (by unfold Func.isWrapper; first | (rw [if_pos (by decide +kernel)]; kernel_rfl) | (rw [if_neg (by decide +kernel)]; exact ⟨rfl, rfl⟩))
    (fun os started H enc _ => lifted os started H enc)

theorem proved : Rows.FnExactChosenSaid := over
end Go.Proofs.Ytacgndmmdbkehaa.fnExactChosen
namespace Go.Proofs.Ytacgndmmdbkehaa
theorem fnExactChosen_holds : Rows.FnExactChosenSaid := fnExactChosen.proved
end Go.Proofs.Ytacgndmmdbkehaa
