/- At every list of numbers, place and number Put of the program answers as Put of the model, in memory of its own that a second call leaves alone, and leaves what it was given as it was: the law FnExactPut returns true, whatever it is given. -/
import Derived.Test.YtacgndmmdbkehaaRows
import Derived.WalkKit
import Derived.ProofKit
import Derived.OpenShut
import Derived.ShutString
import Derived.ChangeOld
import Derived.Below
import Derived.Test.YtacgndmmdbkehaaSBlocks
import Derived.Test.YtacgndmmdbkehaaIBlocks
namespace Go.Proofs.Ytacgndmmdbkehaa.fnExactPut
open Go.ChangeShapes Go.WideShapes Go.ChangeAt Go.RowKit
open Go.ChangeMaps (open_string shut_string)
set_option linter.unusedVariables false

theorem own : ownKnob Try.prog.godebug = none := by kernel_rfl
theorem laidOut : laidOutB Try.prog = true := by kernel_rfl

def IsRow (k : IntKind) (w : World) (a : Option Addr) (len cap : Nat) (zs : List Int) : Prop :=
  (a = none ∧ len = 0 ∧ cap = 0 ∧ zs = []) ∨
  ∃ x, a = some x ∧ len ≤ cap ∧ cap ≤ maxLen ∧ zs.length = cap ∧ (∀ i, i < zs.length → w.cell? (x.add i) = some (.int k (zs.getD i 0))) ∧ ∀ n ∈ zs, (Lit.int k n).wf = true

set_option maxRecDepth 20000 in
set_option maxHeartbeats 2000000 in
theorem walk (a0 : Option Addr) (len0 cap0 : Nat) (z0 : List Int) (a1 : Int) (a2 : Int) (w : World) (w0 : IsRow .i64 w a0 len0 cap0 z0) (w1 : (Lit.int .i64 a1).wf = true) (w2 : (Lit.int .i64 a2).wf = true) :
    Calls Try.prog 6 #[.slice a0 len0 cap0, .int .i64 a1, .int .i64 a2] w fun e w' => e = .returned (.bool true) ∧ Below w.heap.size w w' := by
  obtain ⟨xs, hl0, HR0⟩ := reads_row w0
  by_cases hbig0 : (1048576 : Int) < (len0 : Int)
  · clear w0 HR0 hl0
    go_enter Try.func6, Try.ntmps6
    go_wp2
    go_ret
    exact ⟨rfl, Below.refl _ _⟩
  · skip
    have hx0 : xs.length ≤ 1099511627776 := by omega
    replace HR0 : Hid (Reads w (.slice a0 len0 cap0) xs) := HR0
    clear w0
    have hlp : (putI xs a1 a2).length ≤ 1099511627776 := putI_len xs a1 a2 hx0
    obtain ⟨ys, hy⟩ : ∃ ys, ys = putI xs a1 a2 := ⟨_, rfl⟩
    obtain ⟨pb, hpb⟩ : ∃ pb, pb = putB xs a1 a2 := ⟨_, rfl⟩
    have cs : ∀ v w', Reads w' v xs → _ := fun v w' h => sput_any v xs a1 a2 w' h hx0
    have ci : ∀ v w', Reads w' v xs → _ := fun v w' h => put_any v xs a1 a2 w' h hx0
    simp only [← hy, ← hpb] at cs ci hlp
    clear hy hpb
    have hpp : (pb != pb) = false := by simp
    have c : Below w.heap.size w w := Below.refl _ _
    go_enter Try.func6, Try.ntmps6
    go_wp2_with fail
    refine (to_any _ xs _ (HR0.out.below c (Nat.le_refl _)) hx0).mono ?_
    rintro e w1 ⟨uA, rfl, oA, b1⟩
    replace oA := oA.mono c.size
    replace c := c.trans (b1.mono c.size)
    clear b1
    go_wp2_with fail
    refine (cs _ _ oA.reads).mono ?_
    rintro e w2 ⟨uW, rfl, oW, b2⟩
    have hA_W := oA.apart oW (Nat.le_refl _)
    have hW_A := oA.apart' oW (Nat.le_refl _)
    replace oA := oA.below b2
    replace oW := oW.mono c.size
    replace c := c.trans (b2.mono c.size)
    clear b2
    go_wp2_with fail
    refine (to_any _ xs _ (HR0.out.below c (Nat.le_refl _)) hx0).mono ?_
    rintro e w3 ⟨uX, rfl, oX, b3⟩
    have hA_X := oA.apart oX (Nat.le_refl _)
    have hX_A := oA.apart' oX (Nat.le_refl _)
    have hW_X := oW.apart oX (Nat.le_refl _)
    have hX_W := oW.apart' oX (Nat.le_refl _)
    replace oA := oA.below b3
    replace oW := oW.below b3
    replace oX := oX.mono c.size
    replace c := c.trans (b3.mono c.size)
    clear b3
    go_wp2_with fail
    refine (ci _ _ oX.reads).mono ?_
    rintro e w4 ⟨uG, rfl, oG, b4⟩
    have hA_G := oA.apart oG (Nat.le_refl _)
    have hG_A := oA.apart' oG (Nat.le_refl _)
    have hW_G := oW.apart oG (Nat.le_refl _)
    have hG_W := oW.apart' oG (Nat.le_refl _)
    have hX_G := oX.apart oG (Nat.le_refl _)
    have hG_X := oX.apart' oG (Nat.le_refl _)
    replace oA := oA.below b4
    replace oW := oW.below b4
    replace oX := oX.below b4
    replace oG := oG.mono c.size
    replace c := c.trans (b4.mono c.size)
    clear b4
    go_wp2_with fail
    refine (eq_any _ _ ys ys _ oG.reads oW.reads hlp).mono ?_
    rintro e _ ⟨rfl, n5, rfl⟩
    replace oA := oA.drewN n5
    replace oW := oW.drewN n5
    replace oX := oX.drewN n5
    replace oG := oG.drewN n5
    replace c := below_drewN c n5
    have he : decide (ys = ys) = true := by simp
    rw [he]
    clear he
    go_wp2_with fail
    refine (to_any _ xs _ (HR0.out.below c (Nat.le_refl _)) hx0).mono ?_
    rintro e w6 ⟨uB, rfl, oB, b6⟩
    have hA_B := oA.apart oB (Nat.le_refl _)
    have hB_A := oA.apart' oB (Nat.le_refl _)
    have hW_B := oW.apart oB (Nat.le_refl _)
    have hB_W := oW.apart' oB (Nat.le_refl _)
    have hX_B := oX.apart oB (Nat.le_refl _)
    have hB_X := oX.apart' oB (Nat.le_refl _)
    have hG_B := oG.apart oB (Nat.le_refl _)
    have hB_G := oG.apart' oB (Nat.le_refl _)
    replace oA := oA.below b6
    replace oW := oW.below b6
    replace oX := oX.below b6
    replace oG := oG.below b6
    replace oB := oB.mono c.size
    replace c := c.trans (b6.mono c.size)
    clear b6
    go_wp2_with fail
    refine (eq_any _ _ xs xs _ oX.reads oB.reads hx0).mono ?_
    rintro e _ ⟨rfl, n7, rfl⟩
    replace oA := oA.drewN n7
    replace oW := oW.drewN n7
    replace oX := oX.drewN n7
    replace oG := oG.drewN n7
    replace oB := oB.drewN n7
    replace c := below_drewN c n7
    have he : decide (xs = xs) = true := by simp
    rw [he]
    clear he
    go_wp2_with fail
    refine (mark_any _ xs 1 _ _ oX hx0 (by omega) (by omega)).mono ?_
    rintro e w8 ⟨rfl, pX, g8⟩
    replace oA := oA.kept g8 hA_X
    replace oW := oW.kept g8 hW_X
    replace oG := oG.kept g8 hG_X
    replace oB := oB.kept g8 hB_X
    replace c := c.grown g8 c.size (fun k hk => (oX.lt k hk).1)
    replace oX := pX
    clear pX g8
    go_wp2_with fail
    refine (eq_any _ _ ys ys _ oG.reads oW.reads hlp).mono ?_
    rintro e _ ⟨rfl, n9, rfl⟩
    replace oA := oA.drewN n9
    replace oW := oW.drewN n9
    replace oX := oX.drewN n9
    replace oG := oG.drewN n9
    replace oB := oB.drewN n9
    replace c := below_drewN c n9
    have he : decide (ys = ys) = true := by simp
    rw [he]
    clear he
    go_wp2_with fail
    refine (mark_any _ ys 1 _ _ oG hlp (by omega) (by omega)).mono ?_
    rintro e w10 ⟨rfl, pG, g10⟩
    replace oA := oA.kept g10 hA_G
    replace oW := oW.kept g10 hW_G
    replace oX := oX.kept g10 hX_G
    replace oB := oB.kept g10 hB_G
    replace c := c.grown g10 c.size (fun k hk => (oG.lt k hk).1)
    replace oG := pG
    clear pG g10
    go_wp2_with fail
    refine (held_marks _ ys.length 1 _ oG.reads hlp (by omega) (by omega)).mono ?_
    rintro e w' ⟨rfl, hw⟩; subst w'
    go_wp2_with fail
    refine (to_any _ xs _ (HR0.out.below c (Nat.le_refl _)) hx0).mono ?_
    rintro e w11 ⟨uC, rfl, oC, b11⟩
    have hA_C := oA.apart oC (Nat.le_refl _)
    have hC_A := oA.apart' oC (Nat.le_refl _)
    have hW_C := oW.apart oC (Nat.le_refl _)
    have hC_W := oW.apart' oC (Nat.le_refl _)
    have hX_C := oX.apart oC (Nat.le_refl _)
    have hC_X := oX.apart' oC (Nat.le_refl _)
    have hG_C := oG.apart oC (Nat.le_refl _)
    have hC_G := oG.apart' oC (Nat.le_refl _)
    have hB_C := oB.apart oC (Nat.le_refl _)
    have hC_B := oB.apart' oC (Nat.le_refl _)
    replace oA := oA.below b11
    replace oW := oW.below b11
    replace oX := oX.below b11
    replace oG := oG.below b11
    replace oB := oB.below b11
    replace oC := oC.mono c.size
    replace c := c.trans (b11.mono c.size)
    clear b11
    go_wp2_with fail
    refine (ci _ _ oC.reads).mono ?_
    rintro e w12 ⟨uH, rfl, oH, b12⟩
    have hA_H := oA.apart oH (Nat.le_refl _)
    have hH_A := oA.apart' oH (Nat.le_refl _)
    have hW_H := oW.apart oH (Nat.le_refl _)
    have hH_W := oW.apart' oH (Nat.le_refl _)
    have hX_H := oX.apart oH (Nat.le_refl _)
    have hH_X := oX.apart' oH (Nat.le_refl _)
    have hG_H := oG.apart oH (Nat.le_refl _)
    have hH_G := oG.apart' oH (Nat.le_refl _)
    have hB_H := oB.apart oH (Nat.le_refl _)
    have hH_B := oB.apart' oH (Nat.le_refl _)
    have hC_H := oC.apart oH (Nat.le_refl _)
    have hH_C := oC.apart' oH (Nat.le_refl _)
    replace oA := oA.below b12
    replace oW := oW.below b12
    replace oX := oX.below b12
    replace oG := oG.below b12
    replace oB := oB.below b12
    replace oC := oC.below b12
    replace oH := oH.mono c.size
    replace c := c.trans (b12.mono c.size)
    clear b12
    go_wp2_with fail
    refine (eq_any _ _ ys ys _ oH.reads oW.reads hlp).mono ?_
    rintro e _ ⟨rfl, n13, rfl⟩
    replace oA := oA.drewN n13
    replace oW := oW.drewN n13
    replace oX := oX.drewN n13
    replace oG := oG.drewN n13
    replace oB := oB.drewN n13
    replace oC := oC.drewN n13
    replace oH := oH.drewN n13
    replace c := below_drewN c n13
    have he : decide (ys = ys) = true := by simp
    rw [he]
    clear he
    go_wp2_with fail
    refine (held_marks _ ys.length 1 _ oG.reads hlp (by omega) (by omega)).mono ?_
    rintro e w' ⟨rfl, hw⟩; subst w'
    have HB : Hid (Below w.heap.size w _) := c
    clear c oA oW oX oG oB oC oH hA_W hA_X hA_G hA_B hA_C hA_H hW_A hW_X hW_G hW_B hW_C hW_H hX_A hX_W hX_G hX_B hX_C hX_H hG_A hG_W hG_X hG_B hG_C hG_H hB_A hB_W hB_X hB_G hB_C hB_H hC_A hC_W hC_X hC_G hC_B hC_H hH_A hH_W hH_X hH_G hH_B hH_C
    go_wp2
    go_ret
    exact ⟨rfl, HB.out⟩

set_option maxRecDepth 100000 in
theorem lifted (os : Os) (started : os.Started) (H : Type) (enc : TypeId × Value → H) :
    ReturnsInHanded {} Try.checked os 6 .any (Rows.fnExactPutSpec.pre6 enc Try.prog Try.f6 Rows.fnExactPutRow.domain false) (Rows.fnExactPutSpec.post enc Try.prog Try.f6 false true false false) := by
  refine returnsInHanded_of_change (C := Try.checked) own started (by kernel_rfl) Try.func6
    (ChangeSpec.witness6 (enc := enc) (C := Try.checked) false ⟨#[], #[.slice none 0 0, .int .i64 0, .int .i64 0], []⟩ 8 (by kernel_rfl) (by kernel_rfl) (by kernel_rfl) (by kernel_rfl)) ?_
  intro W base args ds gs before hval0 hW hcnd _
  have hval : ∀ (j : Nat) t v, Try.f6.params[j]? = some t → args[j]? = some v → Value.okWide Try.prog W .any base t v := hval0
  have hW' := hW
  obtain ⟨p, q, hA0, hV, rfl, hfz, hnd⟩ := hW
  have hA : DataW.TrodAll enc Try.prog W 0 (fun _ => true) true Try.f6.params.toList args.toList ds p := hA0
  rw [Try.params6] at hA hval
  obtain ⟨v0, vs0, d0, ds0, p0, q0, hargs, rfl, rfl, h0, r0⟩ := trodAll_cons hA
  obtain ⟨v1, vs1, d1, ds1, p1, q1, rfl, rfl, rfl, h1, r1⟩ := trodAll_cons r0
  obtain ⟨v2, vs2, d2, ds2, p2, q2, rfl, rfl, rfl, h2, r2⟩ := trodAll_cons r1
  obtain ⟨rfl, rfl, rfl⟩ := trodAll_nil r2
  obtain rfl : args = #[v0, v1, v2] := by cases args; simp_all
  obtain ⟨rfl, rfl⟩ := trodVars_none hV
  obtain ⟨a0, len0, cap0, rfl⟩ := okWide_slice Try.underlying24 (hval 0 24 v0 rfl rfl)
  have k0 := h0
  have lt0 : ∀ x ∈ p0, x.block < W.heap.size := by obtain ⟨m, hm⟩ := k0; exact DataW.trod_lt m _ _ _ hm
  obtain ⟨z0, w0⟩ : ∃ zs, IsRow .i64 W a0 len0 cap0 zs := by
    obtain ⟨fuel, hf⟩ := h0
    rcases open_ints Try.underlying24 Try.underlying2 (by kernel_rfl) hf with ⟨hcs, _⟩ | ⟨x, l, c, zs, hcs, _, hl, hm, hz, _, hcell, hwz⟩
    · simp [Value.cells] at hcs
      obtain ⟨rfl, rfl, rfl⟩ := hcs
      exact ⟨[], .inl ⟨rfl, rfl, rfl, rfl⟩⟩
    · simp [Value.cells] at hcs
      obtain ⟨rfl, rfl, rfl⟩ := hcs
      exact ⟨zs, .inr ⟨_, rfl, hl, hm, by simpa using hz, hcell, hwz⟩⟩
  obtain ⟨a1, rfl, rfl, rfl, w1⟩ := open_int Try.underlying2 (hval 1 2 v1 rfl rfl) h1
  obtain ⟨a2, rfl, rfl, rfl, w2⟩ := open_int Try.underlying2 (hval 2 2 v2 rfl rfl) h2
  clear hA0 hval0
  refine (walk a0 len0 cap0 z0 a1 a2 W w0 w1 w2).mono fun e W' ⟨he, bel⟩ => ?_
  subst he
  exact ⟨_, rfl, _, _, _, [], _, [], hW', trodAll_mk1 (shut_bool Try.underlying4 _), (trodAll_cons_mk (Below.trod laidOut (by kernel_rfl) (of_decide_eq_true (by kernel_rfl)) k0 bel lt0) (trodAll_cons_mk (shut_int Try.underlying2 w1) (trodAll_cons_mk (shut_int Try.underlying2 w2) trodAll_mk0))), rfl, bel.frame _, fun h => by cases h⟩

theorem over : Rows.fnExactPutRow.holds Try.pinned (OpenSpec.ofChange Rows.fnExactPutSpec) :=
  OpenClaim.holds_of_wide 6 Try.f6 rfl rfl rfl rfl rfl rfl rfl ⟨rfl, rfl, rfl, rfl, rfl⟩ rfl rfl rfl rfl rfl (by kernel_rfl) Try.func6 (by kernel_rfl)
    (of_decide_eq_true (by kernel_rfl)) (by unfold Func.isWrapper; first | (rw [if_pos (by decide +kernel)]; kernel_rfl) | (rw [if_neg (by decide +kernel)]; exact ⟨rfl, rfl⟩))
    (fun os started H enc _ => lifted os started H enc)

theorem proved : Rows.FnExactPutSaid := over
end Go.Proofs.Ytacgndmmdbkehaa.fnExactPut
namespace Go.Proofs.Ytacgndmmdbkehaa
theorem fnExactPut_holds : Rows.FnExactPutSaid := fnExactPut.proved
end Go.Proofs.Ytacgndmmdbkehaa
