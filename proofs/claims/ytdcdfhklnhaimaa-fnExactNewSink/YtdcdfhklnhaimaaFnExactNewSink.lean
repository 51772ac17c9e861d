/- At every two numbers NewSink of the program answers as NewSink of the model, in memory of its own that a second call leaves alone: the law FnExactNewSink returns true, whatever it is given. -/
import Derived.Test.YtdcdfhklnhaimaaRows
import Derived.WalkKit
import Derived.ProofKit
import Derived.OpenShut
import Derived.ShutString
import Derived.ChangeOld
import Derived.Below
import Derived.Test.YtdcdfhklnhaimaaOpenSink
import Derived.Test.YtdcdfhklnhaimaaSnkSta
import Derived.Test.YtdcdfhklnhaimaaSSink2
import Derived.Test.YtdcdfhklnhaimaaISink
namespace Go.Proofs.Ytdcdfhklnhaimaa.fnExactNewSink
open Go.ChangeShapes Go.WideShapes Go.ChangeAt Go.RowKit
open Go.ChangeMaps (open_string shut_string)
set_option linter.unusedVariables false

theorem own : ownKnob Try.prog.godebug = none := by kernel_rfl
theorem laidOut : laidOutB Try.prog = true := by kernel_rfl

set_option maxRecDepth 20000 in
set_option maxHeartbeats 20000000 in
theorem walk (a0 : Int) (a1 : Int) (w : World) (w0 : (Lit.int .i64 a0).wf = true) (w1 : (Lit.int .i64 a1).wf = true) :
    Calls Try.prog 5 #[.int .i64 a0, .int .i64 a1] w fun e w' => e = .returned (.bool true) ∧ Below w.heap.size w w' := by
  obtain ⟨z, hz⟩ : ∃ z, z = Sn.new a0 a1 := ⟨_, rfl⟩
  obtain ⟨t, ht⟩ : ∃ t, t = Cp.made a0 a1 := ⟨_, rfl⟩
  have sz : z.ts.length ≤ 1048576 := by rw [hz]; have := Sn.new_len a0 a1; omega
  have gz : z.ts.length ≤ 1099511627776 := by omega
  have cs := fun w' => snewS_any a0 a1 w'
  have ci := fun w' => inewS_any a0 a1 w'
  simp only [← hz, ← ht] at cs ci
  have htt : (t != t) = false := by simp
  have HS : Hid (Sta w w []) := Sta.start w
  clear hz ht
  unfold SnV snA at cs ci
  go_enter Try.func5, Try.ntmps5
  go_wp2_with fail
  refine (cs _).mono ?_
  rintro e w1 ⟨uW, rfl, o1, b1⟩
  replace HS : Hid (Sta w w1 [Lst uW z.ts]) := HS.out.list o1 b1
  clear o1 b1
  go_wp2_with (first | (refine wpList_putB rfl 26 _ _ rfl w1.heap.size (snA uW z) zeroSn rfl rfl (HS.out.oneK 0 rfl z) (heap_alloc_new _ _) Try.isSn.2 rfl ?_; intro w2 q2 g2; replace HS : Hid (Sta w w2 [Blk w1.heap.size 26 (snA uW z), Lst uW z.ts]) := HS.out.var 26 _ _ q2 g2; clear q2 g2; skip))
  refine (ci _).mono ?_
  rintro e w3 ⟨uG, rfl, o3, b3⟩
  replace HS : Hid (Sta w w3 [Lst uG z.ts, Blk w1.heap.size 26 (snA uW z), Lst uW z.ts]) := HS.out.list o3 b3
  clear o3 b3
  go_wp2_with (first | (refine wpList_putB rfl 26 _ _ rfl w3.heap.size (snA uG z) zeroSn rfl rfl (HS.out.oneK 0 rfl z) (heap_alloc_new _ _) Try.isSn.2 rfl ?_; intro w4 q4 g4; replace HS : Hid (Sta w w4 [Blk w3.heap.size 26 (snA uG z), Lst uG z.ts, Blk w1.heap.size 26 (snA uW z), Lst uW z.ts]) := HS.out.var 26 _ _ q4 g4; clear q4 g4; have p_gv_0 : w4.cell? ⟨w3.heap.size, 0, none⟩ = some (.int .i64 z.tr) := Blk.cell (HS.out.get 0 rfl) 0 rfl; have p_gv_1 : w4.cell? ⟨w3.heap.size, 1, none⟩ = some uG := Blk.cell (HS.out.get 0 rfl) 1 rfl; have p_wv_0 : w4.cell? ⟨w1.heap.size, 0, none⟩ = some (.int .i64 z.tr) := Blk.cell (HS.out.get 2 rfl) 0 rfl; have p_wv_1 : w4.cell? ⟨w1.heap.size, 1, none⟩ = some uW := Blk.cell (HS.out.get 2 rfl) 1 rfl; skip))
  clear p_gv_0 p_gv_1 p_wv_0 p_wv_1
  refine (eqSink_any _ _ z _ (HS.out.readsK 1 rfl) (HS.out.readsK 3 rfl) gz).mono ?_
  rintro e w5 ⟨rfl, b5⟩
  replace HS : Hid (Sta w w5 [Blk w3.heap.size 26 (snA uG z), Lst uG z.ts, Blk w1.heap.size 26 (snA uW z), Lst uW z.ts]) := HS.out.next b5
  clear b5
  have p_gv_0 : w5.cell? ⟨w3.heap.size, 0, none⟩ = some (.int .i64 z.tr) := Blk.cell (HS.out.get 0 rfl) 0 rfl
  have p_gv_1 : w5.cell? ⟨w3.heap.size, 1, none⟩ = some uG := Blk.cell (HS.out.get 0 rfl) 1 rfl
  go_wp2_with fail
  clear p_gv_0 p_gv_1
  refine (markSink_any _ z 1 _ 0 (HS.out.get 1 rfl) sz (by omega) (by omega)).mono ?_
  rintro e w6 ⟨rfl, o6, m6⟩
  replace HS : Hid (Sta w w6 [Blk w3.heap.size 26 (snA uG z), Lst uG (marks 1 z.ts.length), Blk w1.heap.size 26 (snA uW z), Lst uW z.ts]) := HS.out.markK 1 rfl o6 m6
  clear o6 m6
  have p_gv_0 : w6.cell? ⟨w3.heap.size, 0, none⟩ = some (.int .i64 z.tr) := Blk.cell (HS.out.get 0 rfl) 0 rfl
  have p_gv_1 : w6.cell? ⟨w3.heap.size, 1, none⟩ = some uG := Blk.cell (HS.out.get 0 rfl) 1 rfl
  go_wp2_with fail
  clear p_gv_0 p_gv_1
  refine (heldSink_any _ z z.ts.length 1 _ rfl (HS.out.readsK 1 rfl) sz (by omega) (by omega)).mono ?_
  rintro e w7 ⟨rfl, b7⟩
  replace HS : Hid (Sta w w7 [Blk w3.heap.size 26 (snA uG z), Lst uG (marks 1 z.ts.length), Blk w1.heap.size 26 (snA uW z), Lst uW z.ts]) := HS.out.next b7
  clear b7
  go_wp2_with fail
  refine (ci _).mono ?_
  rintro e w8 ⟨uH, rfl, o8, b8⟩
  replace HS : Hid (Sta w w8 [Lst uH z.ts, Blk w3.heap.size 26 (snA uG z), Lst uG (marks 1 z.ts.length), Blk w1.heap.size 26 (snA uW z), Lst uW z.ts]) := HS.out.list o8 b8
  clear o8 b8
  go_wp2_with (first | (refine wpList_putB rfl 26 _ _ rfl w8.heap.size (snA uH z) zeroSn rfl rfl (HS.out.oneK 0 rfl z) (heap_alloc_new _ _) Try.isSn.2 rfl ?_; intro w9 q9 g9; replace HS : Hid (Sta w w9 [Blk w8.heap.size 26 (snA uH z), Lst uH z.ts, Blk w3.heap.size 26 (snA uG z), Lst uG (marks 1 z.ts.length), Blk w1.heap.size 26 (snA uW z), Lst uW z.ts]) := HS.out.var 26 _ _ q9 g9; clear q9 g9; have p_hv_0 : w9.cell? ⟨w8.heap.size, 0, none⟩ = some (.int .i64 z.tr) := Blk.cell (HS.out.get 0 rfl) 0 rfl; have p_hv_1 : w9.cell? ⟨w8.heap.size, 1, none⟩ = some uH := Blk.cell (HS.out.get 0 rfl) 1 rfl; have p_wv_0 : w9.cell? ⟨w1.heap.size, 0, none⟩ = some (.int .i64 z.tr) := Blk.cell (HS.out.get 4 rfl) 0 rfl; have p_wv_1 : w9.cell? ⟨w1.heap.size, 1, none⟩ = some uW := Blk.cell (HS.out.get 4 rfl) 1 rfl; skip))
  clear p_hv_0 p_hv_1 p_wv_0 p_wv_1
  refine (eqSink_any _ _ z _ (HS.out.readsK 1 rfl) (HS.out.readsK 5 rfl) gz).mono ?_
  rintro e w10 ⟨rfl, b10⟩
  replace HS : Hid (Sta w w10 [Blk w8.heap.size 26 (snA uH z), Lst uH z.ts, Blk w3.heap.size 26 (snA uG z), Lst uG (marks 1 z.ts.length), Blk w1.heap.size 26 (snA uW z), Lst uW z.ts]) := HS.out.next b10
  clear b10
  have p_gv_0 : w10.cell? ⟨w3.heap.size, 0, none⟩ = some (.int .i64 z.tr) := Blk.cell (HS.out.get 2 rfl) 0 rfl
  have p_gv_1 : w10.cell? ⟨w3.heap.size, 1, none⟩ = some uG := Blk.cell (HS.out.get 2 rfl) 1 rfl
  go_wp2_with fail
  clear p_gv_0 p_gv_1
  refine (heldSink_any _ z z.ts.length 1 _ rfl (HS.out.readsK 3 rfl) sz (by omega) (by omega)).mono ?_
  rintro e w11 ⟨rfl, b11⟩
  replace HS : Hid (Sta w w11 [Blk w8.heap.size 26 (snA uH z), Lst uH z.ts, Blk w3.heap.size 26 (snA uG z), Lst uG (marks 1 z.ts.length), Blk w1.heap.size 26 (snA uW z), Lst uW z.ts]) := HS.out.next b11
  clear b11
  have HB : Hid (Below w.heap.size w _) := HS.out.below
  clear HS
  go_wp2_with fail
  go_ret
  exact ⟨rfl, HB.out⟩

set_option maxRecDepth 100000 in
theorem lifted (os : Os) (started : os.Started) (H : Type) (enc : TypeId × Value → H) :
    ReturnsInHanded {} Try.checked os 5 .any (Rows.fnExactNewSinkSpec.pre6 enc Try.prog Try.f5 Rows.fnExactNewSinkRow.domain false) (Rows.fnExactNewSinkSpec.post enc Try.prog Try.f5 false true false false) := by
  refine returnsInHanded_of_change (C := Try.checked) own started (by kernel_rfl) Try.func5
    (ChangeSpec.witness6 (enc := enc) (C := Try.checked) false ⟨#[], #[.int .i64 0, .int .i64 0], []⟩ 8 (by kernel_rfl) (by kernel_rfl) (by kernel_rfl) (by kernel_rfl)) ?_
  intro W base args ds gs before hval0 hW hcnd _
  have hval : ∀ (j : Nat) t v, Try.f5.params[j]? = some t → args[j]? = some v → Value.okWide Try.prog W .any base t v := hval0
  have hW' := hW
  obtain ⟨p, q, hA0, hV, rfl, hfz, hnd⟩ := hW
  have hA : DataW.TrodAll enc Try.prog W 0 (fun _ => true) true Try.f5.params.toList args.toList ds p := hA0
  rw [Try.params5] at hA hval
  obtain ⟨v0, vs0, d0, ds0, p0, q0, hargs, rfl, rfl, h0, s0⟩ := trodAll_cons hA
  obtain ⟨v1, vs1, d1, ds1, p1, q1, rfl, rfl, rfl, h1, s1⟩ := trodAll_cons s0
  obtain ⟨rfl, rfl, rfl⟩ := trodAll_nil s1
  obtain rfl : args = #[v0, v1] := by cases args; simp_all
  obtain ⟨rfl, rfl⟩ := trodVars_none hV
  obtain ⟨a0, rfl, rfl, rfl, w0⟩ := open_int Try.underlying2 (hval 0 2 v0 rfl rfl) h0
  obtain ⟨a1, rfl, rfl, rfl, w1⟩ := open_int Try.underlying2 (hval 1 2 v1 rfl rfl) h1
  clear hA0 hval0
  refine (walk a0 a1 W w0 w1).mono fun e W' ⟨he, bel⟩ => ?_
  subst he
  exact ⟨_, rfl, _, _, _, [], _, [], hW', trodAll_mk1 (shut_bool Try.underlying4 _), (trodAll_cons_mk (shut_int Try.underlying2 w0) (trodAll_cons_mk (shut_int Try.underlying2 w1) trodAll_mk0)), rfl, bel.frame _, fun h => by cases h⟩

theorem over : Rows.fnExactNewSinkRow.holds Try.pinned (OpenSpec.ofChange Rows.fnExactNewSinkSpec) :=
  OpenClaim.holds_of_wide 5 Try.f5 rfl rfl rfl rfl rfl rfl rfl ⟨rfl, rfl, rfl, rfl, rfl⟩ rfl rfl rfl rfl rfl (by kernel_rfl) Try.func5 (by kernel_rfl)
    (of_decide_eq_true (by kernel_rfl)) (by unfold Func.isWrapper; first | (rw [if_pos (by decide +kernel)]; kernel_rfl) | (rw [if_neg (by decide +kernel)]; exact ⟨rfl, rfl⟩))
    (fun os started H enc _ => lifted os started H enc)

theorem proved : Rows.FnExactNewSinkSaid := over
end Go.Proofs.Ytdcdfhklnhaimaa.fnExactNewSink
namespace Go.Proofs.Ytdcdfhklnhaimaa
theorem fnExactNewSink_holds : Rows.FnExactNewSinkSaid := fnExactNewSink.proved
end Go.Proofs.Ytdcdfhklnhaimaa
