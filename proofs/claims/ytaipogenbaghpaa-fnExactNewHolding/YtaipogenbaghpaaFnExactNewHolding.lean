/- NewHolding of the program answers as NewHolding of the model, in memory of its own that a second call leaves alone: the law FnExactNewHolding returns true. -/
import Derived.Test.YtaipogenbaghpaaRows
import Derived.WalkKit
import Derived.ProofKit
import Derived.OpenShut
import Derived.ShutString
import Derived.ChangeOld
import Derived.Below
import Derived.Test.YtaipogenbaghpaaHoldSta
import Derived.Test.YtaipogenbaghpaaSHold2
import Derived.Test.YtaipogenbaghpaaIHold3
namespace Go.Proofs.Ytaipogenbaghpaa.fnExactNewHolding
open Go.ChangeShapes Go.WideShapes Go.ChangeAt Go.RowKit
open Go.ChangeMaps (open_string shut_string)
set_option linter.unusedVariables false

theorem own : ownKnob Try.prog.godebug = none := by kernel_rfl
theorem laidOut : laidOutB Try.prog = true := by kernel_rfl

set_option maxRecDepth 20000 in
set_option maxHeartbeats 2000000 in
theorem walk  (w : World)  :
    Calls Try.prog 5 #[] w fun e w' => e = .returned (.bool true) ∧ Below w.heap.size w w' := by
  obtain ⟨z, hz⟩ : ∃ z, z = Hd.new := ⟨_, rfl⟩
  have sk : z.ks.length ≤ 1048576 := by rw [hz]; decide
  have gk : z.ks.length ≤ 1099511627776 := by omega
  have cs : ∀ w', _ := fun w' => snewH_any w'
  have ci : ∀ w', _ := fun w' => inewH_any w'
  simp only [← hz] at cs ci
  clear hz
  unfold HV hdA at cs ci
  have HS : Hid (Sta w w []) := Sta.start w
  go_enter Try.func5, Try.ntmps5
  go_wp2_with fail
  refine (cs _).mono ?_
  rintro e w1 ⟨uW, rfl, o1, b1⟩
  replace HS : Hid (Sta w w1 [Lst uW z.ks]) := HS.out.list o1 b1
  clear o1 b1
  go_wp2_with (first | (refine wpList_putB rfl 26 _ _ rfl w1.heap.size (hdA uW z) zeroHd rfl rfl (HS.out.oneH 0 rfl z) (heap_alloc_new _ _) Try.isH.2 rfl ?_; intro w2 q2 g2; replace HS : Hid (Sta w w2 [Blk w1.heap.size 26 (hdA uW z), Lst uW z.ks]) := HS.out.var 26 _ _ q2 g2; clear q2 g2; skip))
  refine (ci _).mono ?_
  rintro e w3 ⟨uG, rfl, o3, b3⟩
  replace HS : Hid (Sta w w3 [Lst uG z.ks, Blk w1.heap.size 26 (hdA uW z), Lst uW z.ks]) := HS.out.list o3 b3
  clear o3 b3
  go_wp2_with (first | (refine wpList_putB rfl 26 _ _ rfl w3.heap.size (hdA uG z) zeroHd rfl rfl (HS.out.oneH 0 rfl z) (heap_alloc_new _ _) Try.isH.2 rfl ?_; intro w4 q4 g4; replace HS : Hid (Sta w w4 [Blk w3.heap.size 26 (hdA uG z), Lst uG z.ks, Blk w1.heap.size 26 (hdA uW z), Lst uW z.ks]) := HS.out.var 26 _ _ q4 g4; clear q4 g4; have p_gv_0 : w4.cell? ⟨w3.heap.size, 0, none⟩ = some uG := Blk.cell (HS.out.get 0 rfl) 0 rfl; have p_gv_1 : w4.cell? ⟨w3.heap.size, 1, none⟩ = some (.int .i64 z.kd) := Blk.cell (HS.out.get 0 rfl) 1 rfl; have p_gv_2 : w4.cell? ⟨w3.heap.size, 2, none⟩ = some (.int .i64 z.ho) := Blk.cell (HS.out.get 0 rfl) 2 rfl; have p_gv_3 : w4.cell? ⟨w3.heap.size, 3, none⟩ = some (.int .i64 z.tu) := Blk.cell (HS.out.get 0 rfl) 3 rfl; have p_wv_0 : w4.cell? ⟨w1.heap.size, 0, none⟩ = some uW := Blk.cell (HS.out.get 2 rfl) 0 rfl; have p_wv_1 : w4.cell? ⟨w1.heap.size, 1, none⟩ = some (.int .i64 z.kd) := Blk.cell (HS.out.get 2 rfl) 1 rfl; have p_wv_2 : w4.cell? ⟨w1.heap.size, 2, none⟩ = some (.int .i64 z.ho) := Blk.cell (HS.out.get 2 rfl) 2 rfl; have p_wv_3 : w4.cell? ⟨w1.heap.size, 3, none⟩ = some (.int .i64 z.tu) := Blk.cell (HS.out.get 2 rfl) 3 rfl; skip))
  clear p_gv_0 p_gv_1 p_gv_2 p_gv_3 p_wv_0 p_wv_1 p_wv_2 p_wv_3
  refine (eqHolding_any _ _ z _ (HS.out.reads 1 rfl) (HS.out.reads 3 rfl) gk).mono ?_
  rintro e w5 ⟨rfl, b5⟩
  replace HS : Hid (Sta w w5 [Blk w3.heap.size 26 (hdA uG z), Lst uG z.ks, Blk w1.heap.size 26 (hdA uW z), Lst uW z.ks]) := HS.out.next b5
  clear b5
  have p_gv_0 : w5.cell? ⟨w3.heap.size, 0, none⟩ = some uG := Blk.cell (HS.out.get 0 rfl) 0 rfl
  have p_gv_1 : w5.cell? ⟨w3.heap.size, 1, none⟩ = some (.int .i64 z.kd) := Blk.cell (HS.out.get 0 rfl) 1 rfl
  have p_gv_2 : w5.cell? ⟨w3.heap.size, 2, none⟩ = some (.int .i64 z.ho) := Blk.cell (HS.out.get 0 rfl) 2 rfl
  have p_gv_3 : w5.cell? ⟨w3.heap.size, 3, none⟩ = some (.int .i64 z.tu) := Blk.cell (HS.out.get 0 rfl) 3 rfl
  go_wp2_with fail
  clear p_gv_0 p_gv_1 p_gv_2 p_gv_3
  refine (markHolding_any _ z 1 _ 0 (HS.out.get 1 rfl) sk (by omega) (by omega)).mono ?_
  rintro e w6 ⟨rfl, o6, m6⟩
  replace HS : Hid (Sta w w6 [Blk w3.heap.size 26 (hdA uG z), Lst uG (marks 1 z.ks.length), Blk w1.heap.size 26 (hdA uW z), Lst uW z.ks]) := HS.out.mark 1 rfl o6 m6
  clear o6 m6
  have p_gv_0 : w6.cell? ⟨w3.heap.size, 0, none⟩ = some uG := Blk.cell (HS.out.get 0 rfl) 0 rfl
  have p_gv_1 : w6.cell? ⟨w3.heap.size, 1, none⟩ = some (.int .i64 z.kd) := Blk.cell (HS.out.get 0 rfl) 1 rfl
  have p_gv_2 : w6.cell? ⟨w3.heap.size, 2, none⟩ = some (.int .i64 z.ho) := Blk.cell (HS.out.get 0 rfl) 2 rfl
  have p_gv_3 : w6.cell? ⟨w3.heap.size, 3, none⟩ = some (.int .i64 z.tu) := Blk.cell (HS.out.get 0 rfl) 3 rfl
  go_wp2_with fail
  clear p_gv_0 p_gv_1 p_gv_2 p_gv_3
  refine (heldHolding_any _ z z.ks.length 1 _ rfl (HS.out.reads 1 rfl) sk (by omega) (by omega)).mono ?_
  rintro e w7 ⟨rfl, b7⟩
  replace HS : Hid (Sta w w7 [Blk w3.heap.size 26 (hdA uG z), Lst uG (marks 1 z.ks.length), Blk w1.heap.size 26 (hdA uW z), Lst uW z.ks]) := HS.out.next b7
  clear b7
  go_wp2_with fail
  refine (ci _).mono ?_
  rintro e w8 ⟨uH, rfl, o8, b8⟩
  replace HS : Hid (Sta w w8 [Lst uH z.ks, Blk w3.heap.size 26 (hdA uG z), Lst uG (marks 1 z.ks.length), Blk w1.heap.size 26 (hdA uW z), Lst uW z.ks]) := HS.out.list o8 b8
  clear o8 b8
  go_wp2_with (first | (refine wpList_putB rfl 26 _ _ rfl w8.heap.size (hdA uH z) zeroHd rfl rfl (HS.out.oneH 0 rfl z) (heap_alloc_new _ _) Try.isH.2 rfl ?_; intro w9 q9 g9; replace HS : Hid (Sta w w9 [Blk w8.heap.size 26 (hdA uH z), Lst uH z.ks, Blk w3.heap.size 26 (hdA uG z), Lst uG (marks 1 z.ks.length), Blk w1.heap.size 26 (hdA uW z), Lst uW z.ks]) := HS.out.var 26 _ _ q9 g9; clear q9 g9; have p_hv_0 : w9.cell? ⟨w8.heap.size, 0, none⟩ = some uH := Blk.cell (HS.out.get 0 rfl) 0 rfl; have p_hv_1 : w9.cell? ⟨w8.heap.size, 1, none⟩ = some (.int .i64 z.kd) := Blk.cell (HS.out.get 0 rfl) 1 rfl; have p_hv_2 : w9.cell? ⟨w8.heap.size, 2, none⟩ = some (.int .i64 z.ho) := Blk.cell (HS.out.get 0 rfl) 2 rfl; have p_hv_3 : w9.cell? ⟨w8.heap.size, 3, none⟩ = some (.int .i64 z.tu) := Blk.cell (HS.out.get 0 rfl) 3 rfl; have p_wv_0 : w9.cell? ⟨w1.heap.size, 0, none⟩ = some uW := Blk.cell (HS.out.get 4 rfl) 0 rfl; have p_wv_1 : w9.cell? ⟨w1.heap.size, 1, none⟩ = some (.int .i64 z.kd) := Blk.cell (HS.out.get 4 rfl) 1 rfl; have p_wv_2 : w9.cell? ⟨w1.heap.size, 2, none⟩ = some (.int .i64 z.ho) := Blk.cell (HS.out.get 4 rfl) 2 rfl; have p_wv_3 : w9.cell? ⟨w1.heap.size, 3, none⟩ = some (.int .i64 z.tu) := Blk.cell (HS.out.get 4 rfl) 3 rfl; skip))
  clear p_hv_0 p_hv_1 p_hv_2 p_hv_3 p_wv_0 p_wv_1 p_wv_2 p_wv_3
  refine (eqHolding_any _ _ z _ (HS.out.reads 1 rfl) (HS.out.reads 5 rfl) gk).mono ?_
  rintro e w10 ⟨rfl, b10⟩
  replace HS : Hid (Sta w w10 [Blk w8.heap.size 26 (hdA uH z), Lst uH z.ks, Blk w3.heap.size 26 (hdA uG z), Lst uG (marks 1 z.ks.length), Blk w1.heap.size 26 (hdA uW z), Lst uW z.ks]) := HS.out.next b10
  clear b10
  have p_gv_0 : w10.cell? ⟨w3.heap.size, 0, none⟩ = some uG := Blk.cell (HS.out.get 2 rfl) 0 rfl
  have p_gv_1 : w10.cell? ⟨w3.heap.size, 1, none⟩ = some (.int .i64 z.kd) := Blk.cell (HS.out.get 2 rfl) 1 rfl
  have p_gv_2 : w10.cell? ⟨w3.heap.size, 2, none⟩ = some (.int .i64 z.ho) := Blk.cell (HS.out.get 2 rfl) 2 rfl
  have p_gv_3 : w10.cell? ⟨w3.heap.size, 3, none⟩ = some (.int .i64 z.tu) := Blk.cell (HS.out.get 2 rfl) 3 rfl
  go_wp2_with fail
  clear p_gv_0 p_gv_1 p_gv_2 p_gv_3
  refine (heldHolding_any _ z z.ks.length 1 _ rfl (HS.out.reads 3 rfl) sk (by omega) (by omega)).mono ?_
  rintro e w11 ⟨rfl, b11⟩
  replace HS : Hid (Sta w w11 [Blk w8.heap.size 26 (hdA uH z), Lst uH z.ks, Blk w3.heap.size 26 (hdA uG z), Lst uG (marks 1 z.ks.length), Blk w1.heap.size 26 (hdA uW z), Lst uW z.ks]) := HS.out.next b11
  clear b11
  have HB : Hid (Below w.heap.size w _) := HS.out.below
  clear HS
  go_wp2_with fail
  go_ret
  exact ⟨rfl, HB.out⟩

theorem lifted (os : Os) (started : os.Started) (H : Type) (enc : TypeId × Value → H) :
    ReturnsInHanded {} Try.checked os 5 .any (Rows.fnExactNewHoldingSpec.pre6 enc Try.prog Try.f5 Rows.fnExactNewHoldingRow.domain false) (Rows.fnExactNewHoldingSpec.post enc Try.prog Try.f5 false true false false) := by
  refine returnsInHanded_of_change (C := Try.checked) own started (by kernel_rfl) Try.func5
    (ChangeSpec.witness6 (enc := enc) (C := Try.checked) false ⟨#[], #[], []⟩ 8 (by kernel_rfl) (by kernel_rfl) (by kernel_rfl) (by kernel_rfl)) ?_
  intro W base args ds gs before hval0 hW hcnd _
  have hval : ∀ (j : Nat) t v, Try.f5.params[j]? = some t → args[j]? = some v → Value.okWide Try.prog W .any base t v := hval0
  have hW' := hW
  obtain ⟨p, q, hA0, hV, rfl, hfz, hnd⟩ := hW
  have hA : DataW.TrodAll enc Try.prog W 0 (fun _ => true) true Try.f5.params.toList args.toList ds p := hA0
  rw [Try.params5] at hA hval
  obtain ⟨hargs, rfl, rfl⟩ := trodAll_nil hA
  obtain rfl : args = #[] := by cases args; simp_all
  obtain ⟨rfl, rfl⟩ := trodVars_none hV
  clear hA0 hval0
  refine (walk  W ).mono fun e W' ⟨he, bel⟩ => ?_
  subst he
  exact ⟨_, rfl, _, _, _, [], _, [], hW', trodAll_mk1 (shut_bool Try.underlying4 _), trodAll_mk0, rfl, bel.frame _, fun h => by cases h⟩

theorem over : Rows.fnExactNewHoldingRow.holds Try.pinned (OpenSpec.ofChange Rows.fnExactNewHoldingSpec) :=
  OpenClaim.holds_of_wide 5 Try.f5 rfl rfl rfl rfl rfl rfl rfl ⟨rfl, rfl, rfl, rfl, rfl⟩ rfl rfl rfl rfl rfl (by kernel_rfl) Try.func5 (by kernel_rfl)
    (of_decide_eq_true (by kernel_rfl)) (by unfold Func.isWrapper; first | (rw [if_pos (by decide +kernel)]; kernel_rfl) | (rw [if_neg (by decide +kernel)]; exact ⟨rfl, rfl⟩))
    (fun os started H enc _ => lifted os started H enc)

theorem proved : Rows.FnExactNewHoldingSaid := over
end Go.Proofs.Ytaipogenbaghpaa.fnExactNewHolding
namespace Go.Proofs.Ytaipogenbaghpaa
theorem fnExactNewHolding_holds : Rows.FnExactNewHoldingSaid := fnExactNewHolding.proved
end Go.Proofs.Ytaipogenbaghpaa
