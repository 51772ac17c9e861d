/- At every text Frames of the program answers as Frames of the model, in memory of its own that a second call leaves alone: the law FnExactFrames returns true, whatever it is given. -/
import Derived.Test.YtphmjjmgpnlagaaDoorRows
import Derived.WalkKit
import Derived.ProofKit
import Derived.OpenShut
import Derived.ShutString
import Derived.ChangeOld
import Derived.Below
import Derived.Test.YtphmjjmgpnlagaaDoorIFrames
import Derived.Test.YtphmjjmgpnlagaaDoorTextSta
import Derived.Test.YtphmjjmgpnlagaaDoorFrameLaws
import Derived.Test.YtphmjjmgpnlagaaDoorLaid
import Derived.Test.YtphmjjmgpnlagaaDoorCards
import Derived.Test.YtphmjjmgpnlagaaDoorTie
import Derived.SevenTiedAt
namespace Go.Proofs.YtphmjjmgpnlagaaDoor.fnExactFrames
open Go.ChangeShapes Go.WideShapes Go.ChangeAt Go.RowKit
open Go.ChangeMaps (open_string shut_string)
set_option linter.unusedVariables false

theorem own : ownKnob Tryd.prog.godebug = none := by kernel_rfl

set_option maxRecDepth 20000 in
set_option maxHeartbeats 2000000 in
theorem walk (a0 : ByteArray) (w0 : a0.size ≤ maxLen) (w : World) (hT : Tab w) :
    Calls Tryd.prog 5 #[.string a0] w fun e w' => e = .returned (.bool true) ∧ Below w.heap.size w w' := by
  obtain ⟨l, rfl⟩ : ∃ l : Bs, a0 = ⟨l.toArray⟩ := ⟨a0.data.toList, by simp⟩
  have hsz : (⟨l.toArray⟩ : ByteArray).size = l.length := rfl
  have hB := Below.refl w.heap.size w
  have HP : Hid (Tab w) := hT
  clear hT
  rw [hsz] at w0
  unfold maxLen at w0
  by_cases hl : l.length ≤ 1048576
  · have c1 := sframes_any l w hl
    have c2 := fun wx h => iframes_any l wx hl h
    have hbig : Hid ((framesB l).1.length ≤ 2000) := (framesB_sound l).2.2.2
    obtain ⟨xs, hx⟩ : ∃ xs, xs = (framesB l).1 := ⟨_, rfl⟩
    obtain ⟨n, hn⟩ : ∃ n : Nat, n = (framesB l).2 := ⟨_, rfl⟩
    rw [← hx] at c1 c2 hbig
    rw [← hn] at c1 c2
    unfold S at c1 c2
    clear hx hn
    go_enter Tryd.func5, Tryd.ntmps5
    go_wp2_with fail
    refine c1.mono ?_
    rintro e w1 ⟨v0, rfl, o0, b1⟩
    have T1 : Hid (Sta w w1 [Lss v0 xs]) := (Sta.start w).texts o0 b1
    clear o0 b1 c1 hB
    go_wp2_with fail
    refine (c2 w1 (HP.out.below T1.out.below)).mono ?_
    rintro e w2 ⟨v1, rfl, o1, b2⟩
    have T2 : Hid (Sta w w2 [Lss v1 xs, Lss v0 xs]) := T1.out.texts o1 b2
    clear o1 b2 T1
    go_wp2_with fail
    refine (eqS_any v1 v0 xs xs _ (T2.out.readsS 0 rfl) (T2.out.readsS 1 rfl) (by have := hbig.out; omega)).mono ?_
    rintro e w3 ⟨rfl, n1, hw3⟩
    have hq : decide (xs = xs) = true := by simp
    rw [hq]
    clear hq
    have T3 : Hid (Sta w w3 [Lss v1 xs, Lss v0 xs]) := T2.out.drew hw3
    clear T2 hw3
    go_wp2_with fail
    refine (markS_any v1 xs 1 _ 0 (T3.out.get 0 rfl) (by have := hbig.out; omega) (by omega) (by omega)).mono ?_
    rintro e w4 ⟨rfl, o4, g4⟩
    have T4 : Hid (Sta w w4 [Lss v1 (marksS 1 xs.length), Lss v0 xs]) := T3.out.markS 0 rfl o4 g4
    clear T3 o4 g4
    go_wp2_with fail
    refine (heldS_any v1 xs.length 1 _ (T4.out.readsS 0 rfl) (by have := hbig.out; omega) (by omega) (by omega)).mono ?_
    rintro e w5 ⟨rfl, b5⟩
    have T5 : Hid (Sta w w5 [Lss v1 (marksS 1 xs.length), Lss v0 xs]) := T4.out.next b5
    clear T4 b5
    have hb2 := hbig.out
    go_wp2_with fail
    refine (c2 w5 (HP.out.below T5.out.below)).mono ?_
    rintro e w6 ⟨v2, rfl, o6, b6⟩
    have T6 : Hid (Sta w w6 [Lss v2 xs, Lss v1 (marksS 1 xs.length), Lss v0 xs]) := T5.out.texts o6 b6
    clear T5 o6 b6
    go_wp2_with fail
    refine (eqS_any v2 v0 xs xs _ (T6.out.readsS 0 rfl) (T6.out.readsS 2 rfl) (by omega)).mono ?_
    rintro e w7 ⟨rfl, n2, hw7⟩
    have hq : decide (xs = xs) = true := by simp
    rw [hq]
    clear hq
    have T7 : Hid (Sta w w7 [Lss v2 xs, Lss v1 (marksS 1 xs.length), Lss v0 xs]) := T6.out.drew hw7
    clear T6 hw7
    go_wp2_with fail
    refine (heldS_any v1 xs.length 1 _ (T7.out.readsS 1 rfl) (by omega) (by omega) (by omega)).mono ?_
    rintro e w8 ⟨rfl, b8⟩
    have T8 : Hid (Sta w w8 [Lss v2 xs, Lss v1 (marksS 1 xs.length), Lss v0 xs]) := T7.out.next b8
    clear T7 b8
    go_wp2
    go_ret
    exact ⟨rfl, T8.out.below⟩
  · go_enter Tryd.func5, Tryd.ntmps5
    go_wp2
    go_ret
    exact ⟨rfl, hB⟩

set_option maxRecDepth 100000 in
theorem lifted (os : Os) (started : os.Started) (H : Type) (enc : TypeId × Value → H) :
    ReturnsInHanded {} Tryd.checked os 5 .any (fun w args => (Rows.fnExactFramesSpec.pre enc Tryd.prog Tryd.f5 [] false w args ∧ laidMetH Tryd.prog Rows.fnExactFramesRow.laid w) ∧ sizedMet enc Tryd.prog Tryd.f5 (OpenSpec.ofChange Rows.fnExactFramesSpec) false w args) (Rows.fnExactFramesSpec.post enc Tryd.prog Tryd.f5 false true false false) := by
  refine returnsInHanded_of_change_and (C := Tryd.checked) (X := fun w _ => laidMetH Tryd.prog Rows.fnExactFramesRow.laid w) (fun _ _ _ hh h => h.of_heap hh) own started (by kernel_rfl) Tryd.func5
    (ChangeSpec.witness_shaped (enc := enc) (C := Tryd.checked) (os := os) (X := fun w _ => laidMetH Tryd.prog Rows.fnExactFramesRow.laid w) false (World.doorLaid Tryd.prog 400 os) #[.string ByteArray.empty] 8 rfl (World.shaped_of_RefB (by kernel_rfl) (by kernel_rfl)) (by kernel_rfl) (by kernel_rfl) (by kernel_rfl) (door_met os _)) ?_
  intro W base args ds gs before hval0 hW hcnd _ hL _
  have hval : ∀ (j : Nat) t v, Tryd.f5.params[j]? = some t → args[j]? = some v → Value.okWide Tryd.prog W .any base t v := hval0
  have hW' := hW
  obtain ⟨p, q, hA0, hV, rfl, hfz, hnd⟩ := hW
  have hA : DataW.TrodAll enc Tryd.prog W 0 (fun _ => true) true Tryd.f5.params.toList args.toList ds p := hA0
  rw [Tryd.params5] at hA hval
  obtain ⟨v0, vs0, d0, ds0, p0, q0, hargs, rfl, rfl, h0, r0⟩ := trodAll_cons hA
  obtain ⟨rfl, rfl, rfl⟩ := trodAll_nil r0
  obtain rfl : args = #[v0] := by cases args; simp_all
  obtain ⟨rfl, rfl⟩ := trodVars_none hV
  obtain ⟨a0, rfl, rfl, rfl, w0⟩ := open_string Tryd.underlying9 (hval 0 9 v0 rfl rfl) h0
  clear hA0 hval0
  refine (walk a0 w0 W (tab_of_laid hL)).mono fun e W' ⟨he, bel⟩ => ?_
  subst he
  exact ⟨_, rfl, _, _, _, [], _, [], hW', (trodAll_cons_mk (shut_bool Tryd.underlying4 _) trodAll_mk0), (trodAll_cons_mk (shut_string Tryd.underlying9 w0) trodAll_mk0), rfl, bel.frame _, fun h => by cases h⟩

theorem over : Rows.fnExactFramesRow.holds Tryd.pinned (OpenSpec.ofChange Rows.fnExactFramesSpec) :=
  OpenClaim.holds_of_wide 5 Tryd.f5 rfl rfl rfl rfl rfl rfl rfl ⟨rfl, rfl, rfl, rfl, rfl⟩ rfl rfl rfl rfl rfl (by kernel_rfl) Tryd.func5 (by kernel_rfl)
    (of_decide_eq_true (by kernel_rfl)) (by unfold Func.isWrapper; first | (rw [if_pos (by decide +kernel)]; kernel_rfl) | (rw [if_neg (by decide +kernel)]; exact ⟨rfl, rfl⟩))
    (fun os started H enc _ => lifted os started H enc)

theorem proved : Rows.FnExactFramesSaid :=
  over
end Go.Proofs.YtphmjjmgpnlagaaDoor.fnExactFrames
namespace Go.Proofs.YtphmjjmgpnlagaaDoor
open Go in
theorem fnExactFrames_holds : Rows.FnExactFramesCardSaid :=
  Claim7.holds_tied_plain_at .later [] [.data, .data, .data] true (true, "3a2c60c9ceecd31aee853b02944ebfd33f18ee07aa59bd80782cfd17fb127011") false
    fnExactFrames.proved (fun _ h => by cases h) (by kernel_rfl) (fun _ h => by cases h) fnExactFrames_row_tie rfl ⟨rfl, rfl⟩ (by kernel_rfl) rfl
    (fun f fn hf hfn => by
      obtain rfl : f = 5 := Option.some.inj ((show Tryd.prog.funcNamed Rows.fnExactFramesRow.func = some 5 by kernel_rfl).symm.trans hf) |>.symm
      obtain rfl : fn = Tryd.f5 := (Option.some.inj (Tryd.func5.symm.trans hfn)).symm
      exact ⟨by kernel_rfl, fun j t ht => by
        rw [Tryd.params5] at ht
        have hm : t ∈ [9] := by simpa using Array.mem_of_getElem? ht
        have hall : ([9].all fun u => !Tryd.prog.wantsStandIn u) = true := by kernel_rfl
        exact (show Tryd.prog.wantsStandIn t = false by simpa using List.all_eq_true.1 hall t hm)⟩)
    (by kernel_rfl)
end Go.Proofs.YtphmjjmgpnlagaaDoor
