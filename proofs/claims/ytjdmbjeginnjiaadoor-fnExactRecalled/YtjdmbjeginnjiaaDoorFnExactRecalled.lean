/- At every text Recalled of the program answers as Recalled of the model, every field: the law FnExactRecalled returns true, whatever it is given. -/
import Derived.Test.YtjdmbjeginnjiaaDoorRows
import Derived.WalkKit
import Derived.ProofKit
import Derived.OpenShut
import Derived.ShutString
import Derived.ChangeOld
import Derived.Below
import Derived.Test.YtjdmbjeginnjiaaDoorIRecall
import Derived.Test.YtjdmbjeginnjiaaDoorCards
import Derived.Test.YtjdmbjeginnjiaaDoorTie
import Derived.SevenTiedAt
import Derived.Lay
import Derived.LaidOnce
import Derived.Test.YtjdmbjeginnjiaaDoorTabs
namespace Go.Proofs.YtjdmbjeginnjiaaDoor.fnExactRecalled
open Go.ChangeShapes Go.WideShapes Go.ChangeAt Go.RowKit
open Go.ChangeMaps (open_string shut_string)
set_option linter.unusedVariables false

theorem own : ownKnob Tryd.prog.godebug = none := by kernel_rfl
theorem laidOut : laidOutB Tryd.prog = true := by kernel_rfl

set_option maxRecDepth 20000 in
set_option maxHeartbeats 2000000 in
theorem walk (a0 : ByteArray) (w : World) (w0 : a0.size ≤ maxLen) (hT : Tab w) :
    Calls Tryd.prog 7 #[.string a0] w fun e w' => e = .returned (.bool true) ∧ Below w.heap.size w w' := by
  obtain ⟨l, rfl⟩ : ∃ l : Bs, a0 = ⟨l.toArray⟩ := ⟨a0.data.toList, by simp⟩
  have hsz : (⟨l.toArray⟩ : ByteArray).size = l.length := rfl
  have hB := Below.refl w.heap.size w
  have HP : Hid (Tab w) := hT
  clear hT
  rw [hsz] at w0
  unfold maxLen at w0
  by_cases hl : l.length ≤ 1048576
  · have c1 := srecall_any l w hl
    have c2 := fun wx h => irecall_any l wx hl h
    obtain ⟨r, hr⟩ : ∃ r, r = recR (recallB l) := ⟨_, rfl⟩
    obtain ⟨b, hb⟩ : ∃ b, b = (recallB l).isSome := ⟨_, rfl⟩
    obtain ⟨t, ht⟩ : ∃ t, t = l.take (recAt (recallB l)) := ⟨_, rfl⟩
    simp only [← hr, ← hb, ← ht] at c1 c2
    have c3 : ∀ wx, Calls Tryd.prog 26 #[RV r, RV r] wx fun e w' => e = .returned (.bool true) ∧ Below wx.heap.size wx w' := fun wx => by
      have := eqRecord_any r r wx
      rwa [sameR_self] at this
    clear hr hb ht
    unfold S RV recA at *
    go_enter Tryd.func7, Tryd.ntmps7
    go_wp2_with fail
    refine c1.mono ?_
    rintro e w1 ⟨rfl, b1⟩
    have R1 := RecB.new w1 25 r
    have B1 := b1.alloc b1.size (.cells (recA r) 25)
    unfold recA at R1 B1
    clear c1 b1 hB
    go_wp2_with fail
    refine (c2 _ (HP.out.below B1)).mono ?_
    rintro e w2 ⟨rfl, b2⟩
    have R2 := R1.below b2
    have B2 := B1.trans (b2.mono B1.size)
    have R3 := R2.alloc (.cells (recA r) 25)
    have B3 := B2.alloc B2.size (.cells (recA r) 25)
    have Q3 := RecB.new w2 25 r
    have hlt := R2.lt
    have hne : w1.heap.size ≠ w2.heap.size := by omega
    unfold recA at R3 B3 Q3
    clear c2 b2 R1 B1 B2 R2
    go_wp2_with (first | (refine wpList_getR rfl _ rfl w1.heap.size rfl r R3 ?_; unfold RV recA) | (refine wpList_getR rfl _ rfl w2.heap.size rfl r Q3 ?_; unfold RV recA))
    refine (c3 _).mono ?_
    rintro e w4 ⟨rfl, b4⟩
    have B4 := B3.trans (b4.mono B3.size)
    clear b4 B3 R3 Q3 c3
    cases b <;> (go_wp2; go_ret; exact ⟨rfl, B4⟩)
  · go_enter Tryd.func7, Tryd.ntmps7
    go_wp2
    go_ret
    exact ⟨rfl, hB⟩

set_option maxRecDepth 100000 in
theorem lifted (os : Os) (started : os.Started) (H : Type) (enc : TypeId × Value → H) :
    ReturnsInHanded {} Tryd.checked os 7 .any (fun w args => (Rows.fnExactRecalledSpec.pre enc Tryd.prog Tryd.f7 [] false w args ∧ laidMetH Tryd.prog Rows.fnExactRecalledRow.laid w) ∧ sizedMet enc Tryd.prog Tryd.f7 (OpenSpec.ofChange Rows.fnExactRecalledSpec) false w args) (Rows.fnExactRecalledSpec.post enc Tryd.prog Tryd.f7 false true false false) := by
  refine returnsInHanded_of_change_and (C := Tryd.checked) (X := fun w _ => laidMetH Tryd.prog Rows.fnExactRecalledRow.laid w) (fun _ _ _ hh h => h.of_heap hh) own started (by kernel_rfl) Tryd.func7
    (ChangeSpec.witness_shaped (enc := enc) (C := Tryd.checked) (os := os) (X := fun w _ => laidMetH Tryd.prog Rows.fnExactRecalledRow.laid w) false (World.laidAll Tryd.prog os Rows.fnExactRecalledRow.laid) #[.string ByteArray.empty] 8 (World.laidAll_os _ _ _)
      (World.shaped_of_ZipB (by kernel_rfl) (by kernel_rfl)) (by kernel_rfl) (by kernel_rfl) (by kernel_rfl)
      (by rw [MakeChecks.laidMetH_plain _ _ _ (by kernel_rfl)]; exact laidMet_laidAll _ (by kernel_rfl) (by kernel_rfl))) ?_
  intro W base args ds gs before hval0 hW hcnd _ hL _
  have hval : ∀ (j : Nat) t v, Tryd.f7.params[j]? = some t → args[j]? = some v → Value.okWide Tryd.prog W .any base t v := hval0
  have hW' := hW
  obtain ⟨p, q, hA0, hV, rfl, hfz, hnd⟩ := hW
  have hA : DataW.TrodAll enc Tryd.prog W 0 (fun _ => true) true Tryd.f7.params.toList args.toList ds p := hA0
  rw [Tryd.params7] at hA hval
  obtain ⟨v0, vs0, d0, ds0, p0, q0, hargs, rfl, rfl, h0, s0⟩ := trodAll_cons hA
  obtain ⟨rfl, rfl, rfl⟩ := trodAll_nil s0
  obtain rfl : args = #[v0] := by cases args; simp_all
  obtain ⟨rfl, rfl⟩ := trodVars_none hV
  obtain ⟨a0, rfl, rfl, rfl, w0⟩ := open_string Tryd.underlying9 (hval 0 9 v0 rfl rfl) h0
  clear hA0 hval0
  refine (walk a0 W w0 (tab_fnExactRecalled hL)).mono fun e W' ⟨he, bel⟩ => ?_
  subst he
  exact ⟨_, rfl, _, _, _, [], _, [], hW', trodAll_mk1 (shut_bool Tryd.underlying4 _), (trodAll_cons_mk (shut_string Tryd.underlying9 w0) trodAll_mk0), rfl, bel.frame _, fun h => by cases h⟩

theorem over : Rows.fnExactRecalledRow.holds Tryd.pinned (OpenSpec.ofChange Rows.fnExactRecalledSpec) :=
  OpenClaim.holds_of_wide 7 Tryd.f7 rfl rfl rfl rfl rfl rfl rfl ⟨rfl, rfl, rfl, rfl, rfl⟩ rfl rfl rfl rfl rfl (by kernel_rfl) Tryd.func7 (by kernel_rfl)
    (of_decide_eq_true (by kernel_rfl)) (by unfold Func.isWrapper; first | (rw [if_pos (by decide +kernel)]; kernel_rfl) | (rw [if_neg (by decide +kernel)]; exact ⟨rfl, rfl⟩))
    (fun os started H enc _ => lifted os started H enc)

theorem proved : Rows.FnExactRecalledSaid := over
end Go.Proofs.YtjdmbjeginnjiaaDoor.fnExactRecalled
namespace Go.Proofs.YtjdmbjeginnjiaaDoor
open Go in
theorem fnExactRecalled_holds : Rows.FnExactRecalledCardSaid :=
  Claim7.holds_tied_plain_at .later [] [.data, .data, .data, .data, .pinned] true (true, "b1ea88092d56401eebd89eaf7810bc628da5b02a79eea76bda1c2b9a0f36b811") false
    fnExactRecalled.proved (fun _ h => by cases h) (by kernel_rfl) (fun _ h => by cases h) fnExactRecalled_row_tie rfl ⟨rfl, rfl⟩ (by kernel_rfl) rfl
    (fun f fn hf hfn => by
      obtain rfl : f = 7 := Option.some.inj ((show Tryd.prog.funcNamed Rows.fnExactRecalledRow.func = some 7 by kernel_rfl).symm.trans hf) |>.symm
      obtain rfl : fn = Tryd.f7 := (Option.some.inj (Tryd.func7.symm.trans hfn)).symm
      exact ⟨by kernel_rfl, fun j t ht => by
        rw [Tryd.params7] at ht
        have hm : t ∈ [9] := by simpa using Array.mem_of_getElem? ht
        have hall : ([9].all fun u => !Tryd.prog.wantsStandIn u) = true := by kernel_rfl
        exact (show Tryd.prog.wantsStandIn t = false by simpa using List.all_eq_true.1 hall t hm)⟩)
    (by kernel_rfl)
end Go.Proofs.YtjdmbjeginnjiaaDoor
