/- At every record ShowRecord of the program answers as ShowRecord of the model: the law FnExactShowRecord returns true, whatever it is given. -/
import Derived.Test.YtjdmbjeginnjiaaDoorRows
import Derived.WalkKit
import Derived.ProofKit
import Derived.OpenShut
import Derived.ShutString
import Derived.ChangeOld
import Derived.Below
import Derived.Test.YtjdmbjeginnjiaaDoorOpenRec
import Derived.Test.YtjdmbjeginnjiaaDoorIShow
import Derived.Test.YtjdmbjeginnjiaaDoorCards
import Derived.Test.YtjdmbjeginnjiaaDoorTie
import Derived.SevenTiedAt
import Derived.Lay
import Derived.LaidOnce
import Derived.Test.YtjdmbjeginnjiaaDoorTabs
namespace Go.Proofs.YtjdmbjeginnjiaaDoor.fnExactShowRecord
open Go.ChangeShapes Go.WideShapes Go.ChangeAt Go.RowKit
open Go.ChangeMaps (open_string shut_string)
set_option linter.unusedVariables false

theorem own : ownKnob Tryd.prog.godebug = none := by kernel_rfl
theorem laidOut : laidOutB Tryd.prog = true := by kernel_rfl

set_option maxRecDepth 20000 in
set_option maxHeartbeats 2000000 in
theorem walk (r0 : Rc) (w : World) (f0 : r0.Fit) (hT : Tab w) :
    Calls Tryd.prog 4 #[RV r0] w fun e w' => e = .returned (.bool true) ∧ Below w.heap.size w w' := by
  have c0 := fun wx => toRecord_any r0 wx
  have c1 := fun wx => sshow_any r0 wx f0
  have c2 := fun wx h => ishow_any r0 wx h
  obtain ⟨t, ht⟩ : ∃ t, t = showS r0 := ⟨_, rfl⟩
  simp only [← ht] at c1 c2
  have HP : Hid (Tab w) := hT
  clear ht f0 hT
  have B0 : Below w.heap.size w (w.alloc (.cells (recA r0) 42)) := (Below.refl _ _).alloc (Nat.le_refl _) _
  have R0 := RecB.new w 42 r0
  unfold RV S at *
  go_enter Tryd.func4, Tryd.ntmps4
  go_wp2_with (refine wpList_getL rfl _ rfl w.heap.size rfl r0 R0 ?_; unfold RV)
  refine (c0 _).mono ?_
  rintro e w1 ⟨rfl, b1⟩
  have R1 := R0.below b1
  have B1 := B0.trans (b1.mono B0.size)
  clear b1 R0 B0
  go_wp2_with fail
  refine (c1 _).mono ?_
  rintro e w2 ⟨rfl, b2⟩
  have R2 := R1.below b2
  have B2 := B1.trans (b2.mono B1.size)
  clear b2 R1 B1
  go_wp2_with (refine wpList_getL rfl _ rfl w.heap.size rfl r0 R2 ?_; unfold RV)
  refine (c0 _).mono ?_
  rintro e w3 ⟨rfl, b3⟩
  have B3 := B2.trans (b3.mono B2.size)
  clear b3 R2 B2
  go_wp2_with fail
  refine (c2 _ (HP.out.below B3)).mono ?_
  rintro e w4 ⟨rfl, b4⟩
  have B4 := B3.trans (b4.mono B3.size)
  clear b4 B3
  go_wp2
  go_ret
  exact ⟨rfl, B4⟩

set_option maxRecDepth 100000 in
theorem lifted (os : Os) (started : os.Started) (H : Type) (enc : TypeId × Value → H) :
    ReturnsInHanded {} Tryd.checked os 4 .any (fun w args => (Rows.fnExactShowRecordSpec.pre enc Tryd.prog Tryd.f4 [] false w args ∧ laidMetH Tryd.prog Rows.fnExactShowRecordRow.laid w) ∧ sizedMet enc Tryd.prog Tryd.f4 (OpenSpec.ofChange Rows.fnExactShowRecordSpec) false w args) (Rows.fnExactShowRecordSpec.post enc Tryd.prog Tryd.f4 false true false false) := by
  refine returnsInHanded_of_change_and (C := Tryd.checked) (X := fun w _ => laidMetH Tryd.prog Rows.fnExactShowRecordRow.laid w) (fun _ _ _ hh h => h.of_heap hh) own started (by kernel_rfl) Tryd.func4
    (ChangeSpec.witness_shaped (enc := enc) (C := Tryd.checked) (os := os) (X := fun w _ => laidMetH Tryd.prog Rows.fnExactShowRecordRow.laid w) false (World.laidAll Tryd.prog os Rows.fnExactShowRecordRow.laid) #[.agg #[.int .i64 0, .int .i64 0, .int .i64 0, .int .i64 0]] 8 (World.laidAll_os _ _ _)
      (World.shaped_of_ZipB (by kernel_rfl) (by kernel_rfl)) (by kernel_rfl) (by kernel_rfl) (by kernel_rfl)
      (by rw [MakeChecks.laidMetH_plain _ _ _ (by kernel_rfl)]; exact laidMet_laidAll _ (by kernel_rfl) (by kernel_rfl))) ?_
  intro W base args ds gs before hval0 hW hcnd _ hL _
  have hval : ∀ (j : Nat) t v, Tryd.f4.params[j]? = some t → args[j]? = some v → Value.okWide Tryd.prog W .any base t v := hval0
  have hW' := hW
  obtain ⟨p, q, hA0, hV, rfl, hfz, hnd⟩ := hW
  have hA : DataW.TrodAll enc Tryd.prog W 0 (fun _ => true) true Tryd.f4.params.toList args.toList ds p := hA0
  rw [Tryd.params4] at hA hval
  obtain ⟨v0, vs0, d0, ds0, p0, q0, hargs, rfl, rfl, h0, s0⟩ := trodAll_cons hA
  obtain ⟨rfl, rfl, rfl⟩ := trodAll_nil s0
  obtain rfl : args = #[v0] := by cases args; simp_all
  obtain ⟨rfl, rfl⟩ := trodVars_none hV
  have k0 := h0
  have lt0 : ∀ x ∈ p0, x.block < W.heap.size := by obtain ⟨m, hm⟩ := k0; exact DataW.trod_lt m _ _ _ hm
  obtain ⟨r0, rfl, f0⟩ := open_record (hval 0 42 v0 rfl rfl) h0
  clear hA0 hval0
  refine (walk r0 W f0 (tab_fnExactShowRecord hL)).mono fun e W' ⟨he, bel⟩ => ?_
  subst he
  exact ⟨_, rfl, _, _, _, [], _, [], hW', trodAll_mk1 (shut_bool Tryd.underlying4 _), (trodAll_cons_mk (Below.trod laidOut (by kernel_rfl) (of_decide_eq_true (by kernel_rfl)) k0 bel lt0) trodAll_mk0), rfl, bel.frame _, fun h => by cases h⟩

theorem over : Rows.fnExactShowRecordRow.holds Tryd.pinned (OpenSpec.ofChange Rows.fnExactShowRecordSpec) :=
  OpenClaim.holds_of_wide 4 Tryd.f4 rfl rfl rfl rfl rfl rfl rfl ⟨rfl, rfl, rfl, rfl, rfl⟩ rfl rfl rfl rfl rfl (by kernel_rfl) Tryd.func4 (by kernel_rfl)
    (of_decide_eq_true (by kernel_rfl)) (by unfold Func.isWrapper; first | (rw [if_pos (by decide +kernel)]; kernel_rfl) | (rw [if_neg (by decide +kernel)]; exact ⟨rfl, rfl⟩))
    (fun os started H enc _ => lifted os started H enc)

theorem proved : Rows.FnExactShowRecordSaid := over
end Go.Proofs.YtjdmbjeginnjiaaDoor.fnExactShowRecord
namespace Go.Proofs.YtjdmbjeginnjiaaDoor
open Go in
theorem fnExactShowRecord_holds : Rows.FnExactShowRecordCardSaid :=
  Claim7.holds_tied_plain_at .later [] [.data, .data, .data] true (true, "b1ea88092d56401eebd89eaf7810bc628da5b02a79eea76bda1c2b9a0f36b811") false
    fnExactShowRecord.proved (fun _ h => by cases h) (by kernel_rfl) (fun _ h => by cases h) fnExactShowRecord_row_tie rfl ⟨rfl, rfl⟩ (by kernel_rfl) rfl
    (fun f fn hf hfn => by
      obtain rfl : f = 4 := Option.some.inj ((show Tryd.prog.funcNamed Rows.fnExactShowRecordRow.func = some 4 by kernel_rfl).symm.trans hf) |>.symm
      obtain rfl : fn = Tryd.f4 := (Option.some.inj (Tryd.func4.symm.trans hfn)).symm
      exact ⟨by kernel_rfl, fun j t ht => by
        rw [Tryd.params4] at ht
        have hm : t ∈ [42] := by simpa using Array.mem_of_getElem? ht
        have hall : ([42].all fun u => !Tryd.prog.wantsStandIn u) = true := by kernel_rfl
        exact (show Tryd.prog.wantsStandIn t = false by simpa using List.all_eq_true.1 hall t hm)⟩)
    (by kernel_rfl)
end Go.Proofs.YtjdmbjeginnjiaaDoor
