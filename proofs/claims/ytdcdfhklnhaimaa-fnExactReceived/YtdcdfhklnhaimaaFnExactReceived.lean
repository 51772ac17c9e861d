/- At every sink, try, place and turn Received of the program answers as Received of the model, in memory of its own that a second call leaves alone, and leaves what it was given as it was: the law FnExactReceived returns true, whatever it is given. -/
import Derived.Test.YtdcdfhklnhaimaaRows
import Derived.WalkKit
import Derived.ProofKit
import Derived.OpenShut
import Derived.ShutString
import Derived.ChangeOld
import Derived.Below
import Derived.Test.YtdcdfhklnhaimaaOpenSink
import Derived.Test.YtdcdfhklnhaimaaSnkSta
import Derived.Test.YtdcdfhklnhaimaaSSink2
import Derived.Test.YtdcdfhklnhaimaaISink
namespace Go.Proofs.Ytdcdfhklnhaimaa.fnExactReceived
open Go.ChangeShapes Go.WideShapes Go.ChangeAt Go.RowKit
open Go.ChangeMaps (open_string shut_string)
set_option linter.unusedVariables false

theorem own : ownKnob Try.prog.godebug = none := by kernel_rfl
theorem laidOut : laidOutB Try.prog = true := by kernel_rfl

set_option maxRecDepth 20000 in
set_option maxHeartbeats 20000000 in
theorem walk (r0 : Sn) (u0 : Value) (a1 : Int) (a2 : Int) (a3 : Int) (w : World) (f0 : Reads w u0 r0.ts) (w1 : (Lit.int .i64 a1).wf = true) (w2 : (Lit.int .i64 a2).wf = true) (w3 : (Lit.int .i64 a3).wf = true) :
    Calls Try.prog 7 #[SnV u0 r0, .int .i64 a1, .int .i64 a2, .int .i64 a3] w fun e w' => e = .returned (.bool true) ∧ Below w.heap.size w w' := by
  by_cases hbig : (r0.ts.length : Int) ≤ 1048576
  · skip
    have gx : r0.ts.length ≤ 1099511627776 := by omega
    have sx : r0.ts.length ≤ 1048576 := by omega
    have hsz : szI 1048576 r0.ts.length = 1048576 - (r0.ts.length : Nat) := by simp only [szI]; rw [if_pos (by omega)]
    obtain ⟨w1, hw1⟩ : ∃ w1, w1 = w.alloc (.cells (snA u0 r0) 37) := ⟨_, rfl⟩
    have HS : Hid (Sta w w1 [Blk w.heap.size 37 (snA u0 r0)]) := by rw [hw1]; exact (Sta.start w).box _ _
    have c1 := szSink_any u0 r0 1048576 w1 (f0.below HS.out.below (Nat.le_refl _)) (by omega) (by omega)
    rw [hsz] at c1
    have F0 : Hid (Reads w u0 r0.ts) := f0
    clear hsz f0
    unfold SnV snA at *
    go_enter Try.func7, Try.ntmps7
    go_wp2_with fail
    rw [← hw1]
    clear hw1
    refine (c1).mono ?_
    rintro e w2 ⟨rfl, b2⟩
    replace HS : Hid (Sta w w2 [Blk w.heap.size 37 (snA u0 r0)]) := HS.out.next b2
    clear b2
    clear c1
    obtain ⟨z, hz⟩ : ∃ z, z = r0.Got a1 a2 a3 := ⟨_, rfl⟩
    have sz : z.ts.length ≤ 1048576 := by rw [hz]; exact Nat.le_trans (Sn.Got_len r0 a1 a2 a3) sx
    have gz : z.ts.length ≤ 1099511627776 := by omega
    have cs : ∀ u w', Reads w' u r0.ts → _ := fun u w' h => sgot_any u r0 a1 a2 a3 w' h gx
    have ci : ∀ u w', Reads w' u r0.ts → _ := fun u w' h => igot_any u r0 a1 a2 a3 w' h gx
    simp only [← hz] at cs ci
    clear hz
    unfold SnV snA at cs ci
    obtain ⟨t, ht⟩ : ∃ t, t = r0.Is a1 a2 a3 := ⟨_, rfl⟩
    simp only [← ht] at cs ci
    clear ht
    have htt : (t != t) = false := by simp
    have p_D_0 : w2.cell? ⟨w.heap.size, 0, none⟩ = some (.int .i64 r0.tr) := Blk.cell (HS.out.get 0 rfl) 0 rfl
    have p_D_1 : w2.cell? ⟨w.heap.size, 1, none⟩ = some u0 := Blk.cell (HS.out.get 0 rfl) 1 rfl
    go_wp2_with fail
    clear p_D_0 p_D_1
    refine (toSink_any u0 r0 _ (F0.out.below HS.out.below (Nat.le_refl _)) gx).mono ?_
    rintro e w3 ⟨uA, rfl, o3, b3⟩
    replace HS : Hid (Sta w w3 [Lst uA r0.ts, Blk w.heap.size 37 (snA u0 r0)]) := HS.out.list o3 b3
    clear o3 b3
    go_wp2_with fail
    refine (cs _ _ (HS.out.readsK 0 rfl)).mono ?_
    rintro e w4 ⟨uW, rfl, o4, b4⟩
    replace HS : Hid (Sta w w4 [LstM uW z.ts, Lst uA r0.ts, Blk w.heap.size 37 (snA u0 r0)]) := HS.out.listM o4 b4
    clear o4 b4
    replace HS : Hid (Sta w w4 [LstM uW z.ts, Blk w.heap.size 37 (snA u0 r0)]) := HS.out.second
    go_wp2_with (first | (refine wpList_putB rfl 26 _ _ rfl w4.heap.size (snA uW z) zeroSn rfl rfl (HS.out.oneN 0 rfl z) (heap_alloc_new _ _) Try.isSn.2 rfl ?_; intro w5 q5 g5; replace HS : Hid (Sta w w5 [Blk w4.heap.size 26 (snA uW z), LstM uW z.ts, Blk w.heap.size 37 (snA u0 r0)]) := HS.out.var 26 _ _ q5 g5; clear q5 g5; have p_D_0 : w5.cell? ⟨w.heap.size, 0, none⟩ = some (.int .i64 r0.tr) := Blk.cell (HS.out.get 2 rfl) 0 rfl; have p_D_1 : w5.cell? ⟨w.heap.size, 1, none⟩ = some u0 := Blk.cell (HS.out.get 2 rfl) 1 rfl; skip))
    clear p_D_0 p_D_1
    refine (toSink_any u0 r0 _ (F0.out.below HS.out.below (Nat.le_refl _)) gx).mono ?_
    rintro e w6 ⟨uX, rfl, o6, b6⟩
    replace HS : Hid (Sta w w6 [Lst uX r0.ts, Blk w4.heap.size 26 (snA uW z), LstM uW z.ts, Blk w.heap.size 37 (snA u0 r0)]) := HS.out.list o6 b6
    clear o6 b6
    go_wp2_with (first | (refine wpList_putB rfl 26 _ _ rfl w6.heap.size (snA uX r0) zeroSn rfl rfl (HS.out.oneK 0 rfl r0) (heap_alloc_new _ _) Try.isSn.2 rfl ?_; intro w7 q7 g7; replace HS : Hid (Sta w w7 [Blk w6.heap.size 26 (snA uX r0), Lst uX r0.ts, Blk w4.heap.size 26 (snA uW z), LstM uW z.ts, Blk w.heap.size 37 (snA u0 r0)]) := HS.out.var 26 _ _ q7 g7; clear q7 g7; have p_xv_0 : w7.cell? ⟨w6.heap.size, 0, none⟩ = some (.int .i64 r0.tr) := Blk.cell (HS.out.get 0 rfl) 0 rfl; have p_xv_1 : w7.cell? ⟨w6.heap.size, 1, none⟩ = some uX := Blk.cell (HS.out.get 0 rfl) 1 rfl; skip))
    clear p_xv_0 p_xv_1
    refine (ci _ _ (HS.out.readsK 1 rfl)).mono ?_
    rintro e w8 ⟨uG, rfl, o8, b8⟩
    replace HS : Hid (Sta w w8 [LstM uG z.ts, Blk w6.heap.size 26 (snA uX r0), Lst uX r0.ts, Blk w4.heap.size 26 (snA uW z), LstM uW z.ts, Blk w.heap.size 37 (snA u0 r0)]) := HS.out.listM o8 b8
    clear o8 b8
    go_wp2_with (first | (refine wpList_putB rfl 26 _ _ rfl w8.heap.size (snA uG z) zeroSn rfl rfl (HS.out.oneN 0 rfl z) (heap_alloc_new _ _) Try.isSn.2 rfl ?_; intro w9 q9 g9; replace HS : Hid (Sta w w9 [Blk w8.heap.size 26 (snA uG z), LstM uG z.ts, Blk w6.heap.size 26 (snA uX r0), Lst uX r0.ts, Blk w4.heap.size 26 (snA uW z), LstM uW z.ts, Blk w.heap.size 37 (snA u0 r0)]) := HS.out.var 26 _ _ q9 g9; clear q9 g9; have p_gv_0 : w9.cell? ⟨w8.heap.size, 0, none⟩ = some (.int .i64 z.tr) := Blk.cell (HS.out.get 0 rfl) 0 rfl; have p_gv_1 : w9.cell? ⟨w8.heap.size, 1, none⟩ = some uG := Blk.cell (HS.out.get 0 rfl) 1 rfl; have p_wv_0 : w9.cell? ⟨w4.heap.size, 0, none⟩ = some (.int .i64 z.tr) := Blk.cell (HS.out.get 4 rfl) 0 rfl; have p_wv_1 : w9.cell? ⟨w4.heap.size, 1, none⟩ = some uW := Blk.cell (HS.out.get 4 rfl) 1 rfl; skip))
    clear p_gv_0 p_gv_1 p_wv_0 p_wv_1
    refine (eqSink_any _ _ z _ (HS.out.readsM 1 rfl) (HS.out.readsM 5 rfl) gz).mono ?_
    rintro e w10 ⟨rfl, b10⟩
    replace HS : Hid (Sta w w10 [Blk w8.heap.size 26 (snA uG z), LstM uG z.ts, Blk w6.heap.size 26 (snA uX r0), Lst uX r0.ts, Blk w4.heap.size 26 (snA uW z), LstM uW z.ts, Blk w.heap.size 37 (snA u0 r0)]) := HS.out.next b10
    clear b10
    go_wp2_with fail
    replace HS := HS.out.drew1
    replace HS : Hid _ := HS
    have r0_xv_0 : w10.drew.cell? ⟨w6.heap.size, 0, none⟩ = some (.int .i64 r0.tr) := Blk.cell (HS.out.get 2 rfl) 0 rfl
    have r0_xv_1 : w10.drew.cell? ⟨w6.heap.size, 1, none⟩ = some uX := Blk.cell (HS.out.get 2 rfl) 1 rfl
    have r0_D_0 : w10.drew.cell? ⟨w.heap.size, 0, none⟩ = some (.int .i64 r0.tr) := Blk.cell (HS.out.get 6 rfl) 0 rfl
    have r0_D_1 : w10.drew.cell? ⟨w.heap.size, 1, none⟩ = some u0 := Blk.cell (HS.out.get 6 rfl) 1 rfl
    go_region_held3 (fun w' => w'.cell? ⟨w6.heap.size, 0, none⟩ = some (.int .i64 r0.tr) ∧ w'.cell? ⟨w6.heap.size, 1, none⟩ = some uX ∧ w'.cell? ⟨w.heap.size, 0, none⟩ = some (.int .i64 r0.tr) ∧ w'.cell? ⟨w.heap.size, 1, none⟩ = some u0) (refine ⟨?_, ?_, ?_, ?_⟩ <;> assumption)
      (first
        | (go_at_call 21; refine (toSink_any u0 r0 _ (F0.out.below HS.out.below (Nat.le_refl _)) gx).mono ?_; rintro e w11 ⟨uE_, rfl, o11, b11⟩; replace HS : Hid (Sta w w11 [Lst uE_ r0.ts, Blk w8.heap.size 26 (snA uG z), LstM uG z.ts, Blk w6.heap.size 26 (snA uX r0), Lst uX r0.ts, Blk w4.heap.size 26 (snA uW z), LstM uW z.ts, Blk w.heap.size 37 (snA u0 r0)]) := HS.out.list o11 b11; clear o11 b11; have r1_xv_0 : w11.cell? ⟨w6.heap.size, 0, none⟩ = some (.int .i64 r0.tr) := Blk.cell (HS.out.get 3 rfl) 0 rfl; have r1_xv_1 : w11.cell? ⟨w6.heap.size, 1, none⟩ = some uX := Blk.cell (HS.out.get 3 rfl) 1 rfl; have r1_D_0 : w11.cell? ⟨w.heap.size, 0, none⟩ = some (.int .i64 r0.tr) := Blk.cell (HS.out.get 7 rfl) 0 rfl; have r1_D_1 : w11.cell? ⟨w.heap.size, 1, none⟩ = some u0 := Blk.cell (HS.out.get 7 rfl) 1 rfl)
        | (go_at_call 22; refine (eqSink_any _ _ r0 _ (HS.out.readsK 4 rfl) (HS.out.readsK 0 rfl) gx).mono ?_; rintro e w12 ⟨rfl, b12⟩; replace HS : Hid (Sta w w12 [Lst uE_ r0.ts, Blk w8.heap.size 26 (snA uG z), LstM uG z.ts, Blk w6.heap.size 26 (snA uX r0), Lst uX r0.ts, Blk w4.heap.size 26 (snA uW z), LstM uW z.ts, Blk w.heap.size 37 (snA u0 r0)]) := HS.out.next b12; clear b12; have r2_xv_0 : w12.cell? ⟨w6.heap.size, 0, none⟩ = some (.int .i64 r0.tr) := Blk.cell (HS.out.get 3 rfl) 0 rfl; have r2_xv_1 : w12.cell? ⟨w6.heap.size, 1, none⟩ = some uX := Blk.cell (HS.out.get 3 rfl) 1 rfl; have r2_D_0 : w12.cell? ⟨w.heap.size, 0, none⟩ = some (.int .i64 r0.tr) := Blk.cell (HS.out.get 7 rfl) 0 rfl; have r2_D_1 : w12.cell? ⟨w.heap.size, 1, none⟩ = some u0 := Blk.cell (HS.out.get 7 rfl) 1 rfl))
    clear r0_xv_0 r0_xv_1 r0_D_0 r0_D_1 r1_xv_0 r1_xv_1 r1_D_0 r1_D_1 r2_xv_0 r2_xv_1 r2_D_0 r2_D_1
    replace HS : Hid (Sta w w12 [Blk w8.heap.size 26 (snA uG z), LstM uG z.ts, Blk w6.heap.size 26 (snA uX r0), Lst uX r0.ts, Blk w4.heap.size 26 (snA uW z), LstM uW z.ts, Blk w.heap.size 37 (snA u0 r0)]) := HS.out.tail
    have p_xv_0 : w12.cell? ⟨w6.heap.size, 0, none⟩ = some (.int .i64 r0.tr) := Blk.cell (HS.out.get 2 rfl) 0 rfl
    have p_xv_1 : w12.cell? ⟨w6.heap.size, 1, none⟩ = some uX := Blk.cell (HS.out.get 2 rfl) 1 rfl
    go_wp2_with fail
    clear p_xv_0 p_xv_1
    refine (markSink_any _ r0 1 _ 0 (HS.out.get 3 rfl) sx (by omega) (by omega)).mono ?_
    rintro e w13 ⟨rfl, o13, m13⟩
    replace HS : Hid (Sta w w13 [Blk w8.heap.size 26 (snA uG z), LstM uG z.ts, Blk w6.heap.size 26 (snA uX r0), Lst uX (marks 1 r0.ts.length), Blk w4.heap.size 26 (snA uW z), LstM uW z.ts, Blk w.heap.size 37 (snA u0 r0)]) := HS.out.markK 3 rfl o13 m13
    clear o13 m13
    have p_gv_0 : w13.cell? ⟨w8.heap.size, 0, none⟩ = some (.int .i64 z.tr) := Blk.cell (HS.out.get 0 rfl) 0 rfl
    have p_gv_1 : w13.cell? ⟨w8.heap.size, 1, none⟩ = some uG := Blk.cell (HS.out.get 0 rfl) 1 rfl
    have p_wv_0 : w13.cell? ⟨w4.heap.size, 0, none⟩ = some (.int .i64 z.tr) := Blk.cell (HS.out.get 4 rfl) 0 rfl
    have p_wv_1 : w13.cell? ⟨w4.heap.size, 1, none⟩ = some uW := Blk.cell (HS.out.get 4 rfl) 1 rfl
    go_wp2_with fail
    clear p_gv_0 p_gv_1 p_wv_0 p_wv_1
    refine (eqSink_any _ _ z _ (HS.out.readsM 1 rfl) (HS.out.readsM 5 rfl) gz).mono ?_
    rintro e w14 ⟨rfl, b14⟩
    replace HS : Hid (Sta w w14 [Blk w8.heap.size 26 (snA uG z), LstM uG z.ts, Blk w6.heap.size 26 (snA uX r0), Lst uX (marks 1 r0.ts.length), Blk w4.heap.size 26 (snA uW z), LstM uW z.ts, Blk w.heap.size 37 (snA u0 r0)]) := HS.out.next b14
    clear b14
    have p_gv_0 : w14.cell? ⟨w8.heap.size, 0, none⟩ = some (.int .i64 z.tr) := Blk.cell (HS.out.get 0 rfl) 0 rfl
    have p_gv_1 : w14.cell? ⟨w8.heap.size, 1, none⟩ = some uG := Blk.cell (HS.out.get 0 rfl) 1 rfl
    go_wp2_with fail
    clear p_gv_0 p_gv_1
    refine (markSinkM_any _ z 1 _ 0 (HS.out.get 1 rfl) sz (by omega) (by omega)).mono ?_
    rintro e w15 ⟨rfl, o15, m15⟩
    replace HS : Hid (Sta w w15 [Blk w8.heap.size 26 (snA uG z), LstM uG (marks 1 z.ts.length), Blk w6.heap.size 26 (snA uX r0), Lst uX (marks 1 r0.ts.length), Blk w4.heap.size 26 (snA uW z), LstM uW z.ts, Blk w.heap.size 37 (snA u0 r0)]) := HS.out.markM 1 rfl (marks_length _ _) o15 m15
    clear o15 m15
    have p_gv_0 : w15.cell? ⟨w8.heap.size, 0, none⟩ = some (.int .i64 z.tr) := Blk.cell (HS.out.get 0 rfl) 0 rfl
    have p_gv_1 : w15.cell? ⟨w8.heap.size, 1, none⟩ = some uG := Blk.cell (HS.out.get 0 rfl) 1 rfl
    go_wp2_with fail
    clear p_gv_0 p_gv_1
    refine (heldSink_any _ z z.ts.length 1 _ rfl (HS.out.readsM 1 rfl) sz (by omega) (by omega)).mono ?_
    rintro e w16 ⟨rfl, b16⟩
    replace HS : Hid (Sta w w16 [Blk w8.heap.size 26 (snA uG z), LstM uG (marks 1 z.ts.length), Blk w6.heap.size 26 (snA uX r0), Lst uX (marks 1 r0.ts.length), Blk w4.heap.size 26 (snA uW z), LstM uW z.ts, Blk w.heap.size 37 (snA u0 r0)]) := HS.out.next b16
    clear b16
    have p_D_0 : w16.cell? ⟨w.heap.size, 0, none⟩ = some (.int .i64 r0.tr) := Blk.cell (HS.out.get 6 rfl) 0 rfl
    have p_D_1 : w16.cell? ⟨w.heap.size, 1, none⟩ = some u0 := Blk.cell (HS.out.get 6 rfl) 1 rfl
    go_wp2_with fail
    clear p_D_0 p_D_1
    refine (toSink_any u0 r0 _ (F0.out.below HS.out.below (Nat.le_refl _)) gx).mono ?_
    rintro e w17 ⟨uC, rfl, o17, b17⟩
    replace HS : Hid (Sta w w17 [Lst uC r0.ts, Blk w8.heap.size 26 (snA uG z), LstM uG (marks 1 z.ts.length), Blk w6.heap.size 26 (snA uX r0), Lst uX (marks 1 r0.ts.length), Blk w4.heap.size 26 (snA uW z), LstM uW z.ts, Blk w.heap.size 37 (snA u0 r0)]) := HS.out.list o17 b17
    clear o17 b17
    go_wp2_with fail
    refine (ci _ _ (HS.out.readsK 0 rfl)).mono ?_
    rintro e w18 ⟨uH, rfl, o18, b18⟩
    replace HS : Hid (Sta w w18 [LstM uH z.ts, Lst uC r0.ts, Blk w8.heap.size 26 (snA uG z), LstM uG (marks 1 z.ts.length), Blk w6.heap.size 26 (snA uX r0), Lst uX (marks 1 r0.ts.length), Blk w4.heap.size 26 (snA uW z), LstM uW z.ts, Blk w.heap.size 37 (snA u0 r0)]) := HS.out.listM o18 b18
    clear o18 b18
    replace HS : Hid (Sta w w18 [LstM uH z.ts, Blk w8.heap.size 26 (snA uG z), LstM uG (marks 1 z.ts.length), Blk w6.heap.size 26 (snA uX r0), Lst uX (marks 1 r0.ts.length), Blk w4.heap.size 26 (snA uW z), LstM uW z.ts, Blk w.heap.size 37 (snA u0 r0)]) := HS.out.second
    go_wp2_with (first | (refine wpList_putB rfl 26 _ _ rfl w18.heap.size (snA uH z) zeroSn rfl rfl (HS.out.oneN 0 rfl z) (heap_alloc_new _ _) Try.isSn.2 rfl ?_; intro w19 q19 g19; replace HS : Hid (Sta w w19 [Blk w18.heap.size 26 (snA uH z), LstM uH z.ts, Blk w8.heap.size 26 (snA uG z), LstM uG (marks 1 z.ts.length), Blk w6.heap.size 26 (snA uX r0), Lst uX (marks 1 r0.ts.length), Blk w4.heap.size 26 (snA uW z), LstM uW z.ts, Blk w.heap.size 37 (snA u0 r0)]) := HS.out.var 26 _ _ q19 g19; clear q19 g19; have p_hv_0 : w19.cell? ⟨w18.heap.size, 0, none⟩ = some (.int .i64 z.tr) := Blk.cell (HS.out.get 0 rfl) 0 rfl; have p_hv_1 : w19.cell? ⟨w18.heap.size, 1, none⟩ = some uH := Blk.cell (HS.out.get 0 rfl) 1 rfl; have p_wv_0 : w19.cell? ⟨w4.heap.size, 0, none⟩ = some (.int .i64 z.tr) := Blk.cell (HS.out.get 6 rfl) 0 rfl; have p_wv_1 : w19.cell? ⟨w4.heap.size, 1, none⟩ = some uW := Blk.cell (HS.out.get 6 rfl) 1 rfl; skip))
    clear p_hv_0 p_hv_1 p_wv_0 p_wv_1
    refine (eqSink_any _ _ z _ (HS.out.readsM 1 rfl) (HS.out.readsM 7 rfl) gz).mono ?_
    rintro e w20 ⟨rfl, b20⟩
    replace HS : Hid (Sta w w20 [Blk w18.heap.size 26 (snA uH z), LstM uH z.ts, Blk w8.heap.size 26 (snA uG z), LstM uG (marks 1 z.ts.length), Blk w6.heap.size 26 (snA uX r0), Lst uX (marks 1 r0.ts.length), Blk w4.heap.size 26 (snA uW z), LstM uW z.ts, Blk w.heap.size 37 (snA u0 r0)]) := HS.out.next b20
    clear b20
    have p_gv_0 : w20.cell? ⟨w8.heap.size, 0, none⟩ = some (.int .i64 z.tr) := Blk.cell (HS.out.get 2 rfl) 0 rfl
    have p_gv_1 : w20.cell? ⟨w8.heap.size, 1, none⟩ = some uG := Blk.cell (HS.out.get 2 rfl) 1 rfl
    go_wp2_with fail
    clear p_gv_0 p_gv_1
    refine (heldSink_any _ z z.ts.length 1 _ rfl (HS.out.readsM 3 rfl) sz (by omega) (by omega)).mono ?_
    rintro e w21 ⟨rfl, b21⟩
    replace HS : Hid (Sta w w21 [Blk w18.heap.size 26 (snA uH z), LstM uH z.ts, Blk w8.heap.size 26 (snA uG z), LstM uG (marks 1 z.ts.length), Blk w6.heap.size 26 (snA uX r0), Lst uX (marks 1 r0.ts.length), Blk w4.heap.size 26 (snA uW z), LstM uW z.ts, Blk w.heap.size 37 (snA u0 r0)]) := HS.out.next b21
    clear b21
    have HB : Hid (Below w.heap.size w _) := HS.out.below
    clear HS
    go_wp2_with fail
    go_ret
    exact ⟨rfl, HB.out⟩
  · have hsz : szI 1048576 r0.ts.length = -1 := by simp only [szI]; rw [if_neg (by omega)]
    have b1 : Below w.heap.size w (w.alloc (.cells (snA u0 r0) 37)) := (Below.refl _ _).alloc (Nat.le_refl _) _
    have c1 := szSink_any u0 r0 1048576 _ (f0.below b1 (Nat.le_refl _)) (by omega) (by omega)
    rw [hsz] at c1
    clear hsz f0 hbig
    unfold SnV snA at *
    go_enter Try.func7, Try.ntmps7
    go_wp2_with fail
    refine c1.mono ?_
    rintro e w2 ⟨rfl, b2⟩
    replace b2 := b1.trans (b2.mono b1.size)
    clear b1 c1
    go_wp2_with fail
    go_ret
    exact ⟨rfl, b2⟩

set_option maxRecDepth 100000 in
theorem lifted (os : Os) (started : os.Started) (H : Type) (enc : TypeId × Value → H) :
    ReturnsInHanded {} Try.checked os 7 .any (Rows.fnExactReceivedSpec.pre6 enc Try.prog Try.f7 Rows.fnExactReceivedRow.domain false) (Rows.fnExactReceivedSpec.post enc Try.prog Try.f7 false true false false) := by
  refine returnsInHanded_of_change (C := Try.checked) own started (by kernel_rfl) Try.func7
    (ChangeSpec.witness6 (enc := enc) (C := Try.checked) false ⟨#[], #[.agg #[.int .i64 0, .slice none 0 0], .int .i64 0, .int .i64 0, .int .i64 0], []⟩ 8 (by kernel_rfl) (by kernel_rfl) (by kernel_rfl) (by kernel_rfl)) ?_
  intro W base args ds gs before hval0 hW hcnd _
  have hval : ∀ (j : Nat) t v, Try.f7.params[j]? = some t → args[j]? = some v → Value.okWide Try.prog W .any base t v := hval0
  have hW' := hW
  obtain ⟨p, q, hA0, hV, rfl, hfz, hnd⟩ := hW
  have hA : DataW.TrodAll enc Try.prog W 0 (fun _ => true) true Try.f7.params.toList args.toList ds p := hA0
  rw [Try.params7] at hA hval
  obtain ⟨v0, vs0, d0, ds0, p0, q0, hargs, rfl, rfl, h0, s0⟩ := trodAll_cons hA
  obtain ⟨v1, vs1, d1, ds1, p1, q1, rfl, rfl, rfl, h1, s1⟩ := trodAll_cons s0
  obtain ⟨v2, vs2, d2, ds2, p2, q2, rfl, rfl, rfl, h2, s2⟩ := trodAll_cons s1
  obtain ⟨v3, vs3, d3, ds3, p3, q3, rfl, rfl, rfl, h3, s3⟩ := trodAll_cons s2
  obtain ⟨rfl, rfl, rfl⟩ := trodAll_nil s3
  obtain rfl : args = #[v0, v1, v2, v3] := by cases args; simp_all
  obtain ⟨rfl, rfl⟩ := trodVars_none hV
  have k0 := h0
  have lt0 : ∀ x ∈ p0, x.block < W.heap.size := by obtain ⟨m, hm⟩ := k0; exact DataW.trod_lt m _ _ _ hm
  obtain ⟨r0, u0, rfl, f0⟩ := open_sink (hval 0 37 v0 rfl rfl) h0
  obtain ⟨a1, rfl, rfl, rfl, w1⟩ := open_int Try.underlying2 (hval 1 2 v1 rfl rfl) h1
  obtain ⟨a2, rfl, rfl, rfl, w2⟩ := open_int Try.underlying2 (hval 2 2 v2 rfl rfl) h2
  obtain ⟨a3, rfl, rfl, rfl, w3⟩ := open_int Try.underlying2 (hval 3 2 v3 rfl rfl) h3
  clear hA0 hval0
  refine (walk r0 u0 a1 a2 a3 W f0 w1 w2 w3).mono fun e W' ⟨he, bel⟩ => ?_
  subst he
  exact ⟨_, rfl, _, _, _, [], _, [], hW', trodAll_mk1 (shut_bool Try.underlying4 _), (trodAll_cons_mk (Below.trod laidOut (by kernel_rfl) (of_decide_eq_true (by kernel_rfl)) k0 bel lt0) (trodAll_cons_mk (shut_int Try.underlying2 w1) (trodAll_cons_mk (shut_int Try.underlying2 w2) (trodAll_cons_mk (shut_int Try.underlying2 w3) trodAll_mk0)))), rfl, bel.frame _, fun h => by cases h⟩

theorem over : Rows.fnExactReceivedRow.holds Try.pinned (OpenSpec.ofChange Rows.fnExactReceivedSpec) :=
  OpenClaim.holds_of_wide 7 Try.f7 rfl rfl rfl rfl rfl rfl rfl ⟨rfl, rfl, rfl, rfl, rfl⟩ rfl rfl rfl rfl rfl (by kernel_rfl) Try.func7 (by kernel_rfl)
    (of_decide_eq_true (by kernel_rfl)) (by unfold Func.isWrapper; first | (rw [if_pos (by decide +kernel)]; kernel_rfl) | (rw [if_neg (by decide +kernel)]; exact ⟨rfl, rfl⟩))
    (fun os started H enc _ => lifted os started H enc)

theorem proved : Rows.FnExactReceivedSaid := over
end Go.Proofs.Ytdcdfhklnhaimaa.fnExactReceived
namespace Go.Proofs.Ytdcdfhklnhaimaa
theorem fnExactReceived_holds : Rows.FnExactReceivedSaid := fnExactReceived.proved
end Go.Proofs.Ytdcdfhklnhaimaa
