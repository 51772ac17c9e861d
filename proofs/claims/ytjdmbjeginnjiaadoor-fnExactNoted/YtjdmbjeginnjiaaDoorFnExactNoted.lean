/- At every log and every record Noted of the program answers as Noted of the model: the law FnExactNoted returns true, whatever it is given. -/
import Derived.Test.YtjdmbjeginnjiaaDoorRows
import Derived.WalkKit
import Derived.ProofKit
import Derived.OpenShut
import Derived.ShutString
import Derived.ChangeOld
import Derived.Below
import Derived.Test.YtjdmbjeginnjiaaDoorOpenRec
import Derived.Test.YtjdmbjeginnjiaaDoorNoted
import Derived.Test.YtjdmbjeginnjiaaDoorCards
import Derived.Test.YtjdmbjeginnjiaaDoorTie
import Derived.SevenTiedAt
import Derived.Lay
import Derived.LaidOnce
import Derived.Test.YtjdmbjeginnjiaaDoorTabs
namespace Go.Proofs.YtjdmbjeginnjiaaDoor.fnExactNoted
open Go.ChangeShapes Go.WideShapes Go.ChangeAt Go.RowKit
open Go.ChangeMaps (open_string shut_string)
set_option linter.unusedVariables false

theorem own : ownKnob Tryd.prog.godebug = none := by kernel_rfl
theorem laidOut : laidOutB Tryd.prog = true := by kernel_rfl

set_option maxRecDepth 20000 in
set_option maxHeartbeats 2000000 in
theorem walk (a0 : ByteArray) (r1 : Rc) (w : World) (w0 : a0.size ≤ maxLen) (f1 : r1.Fit) (hT : Tab w) :
    Calls Tryd.prog 6 #[.string a0, RV r1] w fun e w' => e = .returned (.bool true) ∧ Below w.heap.size w w' := by
  obtain ⟨l, rfl⟩ : ∃ l : Bs, a0 = ⟨l.toArray⟩ := ⟨a0.data.toList, by simp⟩
  have hsz : (⟨l.toArray⟩ : ByteArray).size = l.length := rfl
  rw [hsz] at w0
  unfold maxLen at w0
  have B0 : Below w.heap.size w (w.alloc (.cells (recA r1) 42)) := (Below.refl _ _).alloc (Nat.le_refl _) _
  by_cases hl : l.length ≤ 1048576
  · have c0 := fun wx => toRecord_any r1 wx
    have c1 := fun wx => snoted_any l r1 wx hl
    have c2 := fun wx h => inoted_any l r1 wx hl h
    obtain ⟨t, ht⟩ : ∃ t, t = noteS l r1 := ⟨_, rfl⟩
    obtain ⟨b, hb⟩ : ∃ b, b = noteY l r1 := ⟨_, rfl⟩
    simp only [← ht, ← hb] at c1 c2
    have HP : Hid (Tab w) := hT
    clear ht hb f1 hT
    have R0 := RecB.new w 42 r1
    unfold RV S at *
    go_enter Tryd.func6, Tryd.ntmps6
    go_wp2_with (refine wpList_getL rfl _ rfl w.heap.size rfl r1 R0 ?_; unfold RV)
    refine (c0 _).mono ?_
    rintro e w1 ⟨rfl, b1⟩
    have R1 := R0.below b1
    have B1 := B0.trans (b1.mono B0.size)
    clear b1 R0 B0
    go_wp2_with fail
    refine (c1 _).mono ?_
    rintro e w2 ⟨rfl, b2⟩
    have R2 := R1.below b2
    have B2 := B1.trans (b2.mono B1.size)
    clear b2 R1 B1
    go_wp2_with (refine wpList_getL rfl _ rfl w.heap.size rfl r1 R2 ?_; unfold RV)
    refine (c0 _).mono ?_
    rintro e w3 ⟨rfl, b3⟩
    have B3 := B2.trans (b3.mono B2.size)
    clear b3 R2 B2
    go_wp2_with fail
    refine (c2 _ (HP.out.below B3)).mono ?_
    rintro e w4 ⟨rfl, b4⟩
    have B4 := B3.trans (b4.mono B3.size)
    clear b4 B3
    go_wp2
    go_ret
    exact ⟨rfl, B4⟩
  · unfold RV
    go_enter Tryd.func6, Tryd.ntmps6
    go_wp2
    go_ret
    exact ⟨rfl, B0⟩

set_option maxRecDepth 100000 in
theorem lifted (os : Os) (started : os.Started) (H : Type) (enc : TypeId × Value → H) :
    ReturnsInHanded {} Tryd.checked os 6 .any (fun w args => (Rows.fnExactNotedSpec.pre enc Tryd.prog Tryd.f6 [] false w args ∧ laidMetH Tryd.prog Rows.fnExactNotedRow.laid w) ∧ sizedMet enc Tryd.prog Tryd.f6 (OpenSpec.ofChange Rows.fnExactNotedSpec) false w args) (Rows.fnExactNotedSpec.post enc Tryd.prog Tryd.f6 false true false false) := by
  refine returnsInHanded_of_change_and (C := Tryd.checked) (X := fun w _ => laidMetH Tryd.prog Rows.fnExactNotedRow.laid w) (fun _ _ _ hh h => h.of_heap hh) own started (by kernel_rfl) Tryd.func6
    (ChangeSpec.witness_shaped (enc := enc) (C := Tryd.checked) (os := os) (X := fun w _ => laidMetH Tryd.prog Rows.fnExactNotedRow.laid w) false (World.laidAll Tryd.prog os Rows.fnExactNotedRow.laid) #[.string ByteArray.empty, .agg #[.int .i64 0, .int .i64 0, .int .i64 0, .int .i64 0]] 8 (World.laidAll_os _ _ _)
      (World.shaped_of_ZipB (by kernel_rfl) (by kernel_rfl)) (by kernel_rfl) (by kernel_rfl) (by kernel_rfl)
      (by rw [MakeChecks.laidMetH_plain _ _ _ (by kernel_rfl)]; exact laidMet_laidAll _ (by kernel_rfl) (by kernel_rfl))) ?_
  intro W base args ds gs before hval0 hW hcnd _ hL _
  have hval : ∀ (j : Nat) t v, Tryd.f6.params[j]? = some t → args[j]? = some v → Value.okWide Tryd.prog W .any base t v := hval0
  have hW' := hW
  obtain ⟨p, q, hA0, hV, rfl, hfz, hnd⟩ := hW
  have hA : DataW.TrodAll enc Tryd.prog W 0 (fun _ => true) true Tryd.f6.params.toList args.toList ds p := hA0
  rw [Tryd.params6] at hA hval
  obtain ⟨v0, vs0, d0, ds0, p0, q0, hargs, rfl, rfl, h0, s0⟩ := trodAll_cons hA
  obtain ⟨v1, vs1, d1, ds1, p1, q1, rfl, rfl, rfl, h1, s1⟩ := trodAll_cons s0
  obtain ⟨rfl, rfl, rfl⟩ := trodAll_nil s1
  obtain rfl : args = #[v0, v1] := by cases args; simp_all
  obtain ⟨rfl, rfl⟩ := trodVars_none hV
  obtain ⟨a0, rfl, rfl, rfl, w0⟩ := open_string Tryd.underlying9 (hval 0 9 v0 rfl rfl) h0
  have k1 := h1
  have lt1 : ∀ x ∈ p1, x.block < W.heap.size := by obtain ⟨m, hm⟩ := k1; exact DataW.trod_lt m _ _ _ hm
  obtain ⟨r1, rfl, f1⟩ := open_record (hval 1 42 v1 rfl rfl) h1
  clear hA0 hval0
  refine (walk a0 r1 W w0 f1 (tab_fnExactNoted hL)).mono fun e W' ⟨he, bel⟩ => ?_
  subst he
  exact ⟨_, rfl, _, _, _, [], _, [], hW', trodAll_mk1 (shut_bool Tryd.underlying4 _), (trodAll_cons_mk (shut_string Tryd.underlying9 w0) (trodAll_cons_mk (Below.trod laidOut (by kernel_rfl) (of_decide_eq_true (by kernel_rfl)) k1 bel lt1) trodAll_mk0)), rfl, bel.frame _, fun h => by cases h⟩

theorem over : Rows.fnExactNotedRow.holds Tryd.pinned (OpenSpec.ofChange Rows.fnExactNotedSpec) :=
  OpenClaim.holds_of_wide 6 Tryd.f6 rfl rfl rfl rfl rfl rfl rfl ⟨rfl, rfl, rfl, rfl, rfl⟩ rfl rfl rfl rfl rfl (by kernel_rfl) Tryd.func6 (by kernel_rfl)
    (of_decide_eq_true (by kernel_rfl)) (by unfold Func.isWrapper; first | (rw [if_pos (by decide +kernel)]; kernel_rfl) | (rw [if_neg (by decide +kernel)]; exact ⟨rfl, rfl⟩))
    (fun os started H enc _ => lifted os started H enc)

theorem proved : Rows.FnExactNotedSaid := over
end Go.Proofs.YtjdmbjeginnjiaaDoor.fnExactNoted
namespace Go.Proofs.YtjdmbjeginnjiaaDoor
open Go in
theorem fnExactNoted_holds : Rows.FnExactNotedCardSaid :=
  Claim7.holds_tied_plain_at .later [] [.data, .data, .data] true (true, "b1ea88092d56401eebd89eaf7810bc628da5b02a79eea76bda1c2b9a0f36b811") false
    fnExactNoted.proved (fun _ h => by cases h) (by kernel_rfl) (fun _ h => by cases h) fnExactNoted_row_tie rfl ⟨rfl, rfl⟩ (by kernel_rfl) rfl
    (fun f fn hf hfn => by
      obtain rfl : f = 6 := Option.some.inj ((show Tryd.prog.funcNamed Rows.fnExactNotedRow.func = some 6 by kernel_rfl).symm.trans hf) |>.symm
      obtain rfl : fn = Tryd.f6 := (Option.some.inj (Tryd.func6.symm.trans hfn)).symm
      exact ⟨by kernel_rfl, fun j t ht => by
        rw [Tryd.params6] at ht
        have hm : t ∈ [9, 42] := by simpa using Array.mem_of_getElem? ht
        have hall : ([9, 42].all fun u => !Tryd.prog.wantsStandIn u) = true := by kernel_rfl
        exact (show Tryd.prog.wantsStandIn t = false by simpa using List.all_eq_true.1 hall t hm)⟩)
    (by kernel_rfl)
end Go.Proofs.YtjdmbjeginnjiaaDoor
