/- At every copier Again of the program answers as Again of the model, in memory of its own that a second call leaves alone, and leaves what it was given as it was: the law FnExactAgain returns true, whatever it is given. -/
import Derived.Test.YtelfpdjidppblaaRows
import Derived.WalkKit
import Derived.ProofKit
import Derived.OpenShut
import Derived.ShutString
import Derived.ChangeOld
import Derived.Below
import Derived.Test.YtelfpdjidppblaaOpenCop
import Derived.Test.YtelfpdjidppblaaCopSta
import Derived.Test.YtelfpdjidppblaaCpLaws
import Derived.Test.YtelfpdjidppblaaSCop5
import Derived.Test.YtelfpdjidppblaaICop
namespace Go.Proofs.Ytelfpdjidppblaa.fnExactAgain
open Go.ChangeShapes Go.WideShapes Go.ChangeAt Go.RowKit
open Go.ChangeMaps (open_string shut_string)
set_option linter.unusedVariables false

theorem own : ownKnob Try.prog.godebug = none := by kernel_rfl
theorem laidOut : laidOutB Try.prog = true := by kernel_rfl

set_option maxRecDepth 20000 in
set_option maxHeartbeats 20000000 in
theorem walk (r0 : Cp) (u0 : Value) (w : World) (f0 : Reads w u0 r0.ts) :
    Calls Try.prog 10 #[CpV u0 r0] w fun e w' => e = .returned (.bool true) ∧ Below w.heap.size w w' := by
  by_cases hbig : (r0.ts.length : Int) ≤ 1048576
  · skip
    have gx : r0.ts.length ≤ 1099511627776 := by omega
    have sx : r0.ts.length ≤ 1048576 := by omega
    have hsz : szI 1048576 r0.ts.length = 1048576 - (r0.ts.length : Nat) := by simp only [szI]; rw [if_pos (by omega)]
    obtain ⟨w1, hw1⟩ : ∃ w1, w1 = w.alloc (.cells (cpA u0 r0) 45) := ⟨_, rfl⟩
    have HS : Hid (Sta w w1 [Blk w.heap.size 45 (cpA u0 r0)]) := by rw [hw1]; exact (Sta.start w).box _ _
    have c1 := szCopier_any u0 r0 1048576 w1 (f0.below HS.out.below (Nat.le_refl _)) (by omega) (by omega)
    rw [hsz] at c1
    have F0 : Hid (Reads w u0 r0.ts) := f0
    clear hsz f0
    unfold CpV cpA at *
    go_enter Try.func10, Try.ntmps10
    go_wp2_with fail
    rw [← hw1]
    clear hw1
    refine (c1).mono ?_
    rintro e w2 ⟨rfl, b2⟩
    replace HS : Hid (Sta w w2 [Blk w.heap.size 45 (cpA u0 r0)]) := HS.out.next b2
    clear b2
    clear c1
    obtain ⟨z, hz⟩ : ∃ z, z = r0.Again := ⟨_, rfl⟩
    have sz : z.ts.length ≤ 1048576 := by rw [hz]; exact Nat.le_trans (Cp.Again_len r0) sx
    have gz : z.ts.length ≤ 1099511627776 := by omega
    have cs : ∀ u w', Reads w' u r0.ts → _ := fun u w' h => sagained_any u r0 w' h gx
    have ci : ∀ u w', Reads w' u r0.ts → _ := fun u w' h => iagained_any u r0 w' h gx
    simp only [← hz] at cs ci
    clear hz
    unfold CpV cpA at cs ci
    have p_D_0 : w2.cell? ⟨w.heap.size, 0, none⟩ = some (.int .i64 r0.tr) := Blk.cell (HS.out.get 0 rfl) 0 rfl
    have p_D_1 : w2.cell? ⟨w.heap.size, 1, none⟩ = some (.bool r0.op) := Blk.cell (HS.out.get 0 rfl) 1 rfl
    have p_D_2 : w2.cell? ⟨w.heap.size, 2, none⟩ = some (.int .i64 r0.di) := Blk.cell (HS.out.get 0 rfl) 2 rfl
    have p_D_3 : w2.cell? ⟨w.heap.size, 3, none⟩ = some (.int .i64 r0.wa) := Blk.cell (HS.out.get 0 rfl) 3 rfl
    have p_D_4 : w2.cell? ⟨w.heap.size, 4, none⟩ = some u0 := Blk.cell (HS.out.get 0 rfl) 4 rfl
    go_wp2_with fail
    clear p_D_0 p_D_1 p_D_2 p_D_3 p_D_4
    refine (toCopier_any u0 r0 _ (F0.out.below HS.out.below (Nat.le_refl _)) gx).mono ?_
    rintro e w3 ⟨uA, rfl, o3, b3⟩
    replace HS : Hid (Sta w w3 [Lst uA r0.ts, Blk w.heap.size 45 (cpA u0 r0)]) := HS.out.list o3 b3
    clear o3 b3
    go_wp2_with fail
    refine (cs _ _ (HS.out.readsC 0 rfl)).mono ?_
    rintro e w4 ⟨uW, rfl, o4, b4⟩
    replace HS : Hid (Sta w w4 [Lst uW z.ts, Lst uA r0.ts, Blk w.heap.size 45 (cpA u0 r0)]) := HS.out.list o4 b4
    clear o4 b4
    replace HS : Hid (Sta w w4 [Lst uW z.ts, Blk w.heap.size 45 (cpA u0 r0)]) := HS.out.second
    go_wp2_with (first | (refine wpList_putB rfl 26 _ _ rfl w4.heap.size (cpA uW z) zeroCp rfl rfl (HS.out.oneC 0 rfl z) (heap_alloc_new _ _) Try.isCp.2 rfl ?_; intro w5 q5 g5; replace HS : Hid (Sta w w5 [Blk w4.heap.size 26 (cpA uW z), Lst uW z.ts, Blk w.heap.size 45 (cpA u0 r0)]) := HS.out.var 26 _ _ q5 g5; clear q5 g5; have p_D_0 : w5.cell? ⟨w.heap.size, 0, none⟩ = some (.int .i64 r0.tr) := Blk.cell (HS.out.get 2 rfl) 0 rfl; have p_D_1 : w5.cell? ⟨w.heap.size, 1, none⟩ = some (.bool r0.op) := Blk.cell (HS.out.get 2 rfl) 1 rfl; have p_D_2 : w5.cell? ⟨w.heap.size, 2, none⟩ = some (.int .i64 r0.di) := Blk.cell (HS.out.get 2 rfl) 2 rfl; have p_D_3 : w5.cell? ⟨w.heap.size, 3, none⟩ = some (.int .i64 r0.wa) := Blk.cell (HS.out.get 2 rfl) 3 rfl; have p_D_4 : w5.cell? ⟨w.heap.size, 4, none⟩ = some u0 := Blk.cell (HS.out.get 2 rfl) 4 rfl; skip))
    clear p_D_0 p_D_1 p_D_2 p_D_3 p_D_4
    refine (toCopier_any u0 r0 _ (F0.out.below HS.out.below (Nat.le_refl _)) gx).mono ?_
    rintro e w6 ⟨uX, rfl, o6, b6⟩
    replace HS : Hid (Sta w w6 [Lst uX r0.ts, Blk w4.heap.size 26 (cpA uW z), Lst uW z.ts, Blk w.heap.size 45 (cpA u0 r0)]) := HS.out.list o6 b6
    clear o6 b6
    go_wp2_with (first | (refine wpList_putB rfl 26 _ _ rfl w6.heap.size (cpA uX r0) zeroCp rfl rfl (HS.out.oneC 0 rfl r0) (heap_alloc_new _ _) Try.isCp.2 rfl ?_; intro w7 q7 g7; replace HS : Hid (Sta w w7 [Blk w6.heap.size 26 (cpA uX r0), Lst uX r0.ts, Blk w4.heap.size 26 (cpA uW z), Lst uW z.ts, Blk w.heap.size 45 (cpA u0 r0)]) := HS.out.var 26 _ _ q7 g7; clear q7 g7; have p_xv_0 : w7.cell? ⟨w6.heap.size, 0, none⟩ = some (.int .i64 r0.tr) := Blk.cell (HS.out.get 0 rfl) 0 rfl; have p_xv_1 : w7.cell? ⟨w6.heap.size, 1, none⟩ = some (.bool r0.op) := Blk.cell (HS.out.get 0 rfl) 1 rfl; have p_xv_2 : w7.cell? ⟨w6.heap.size, 2, none⟩ = some (.int .i64 r0.di) := Blk.cell (HS.out.get 0 rfl) 2 rfl; have p_xv_3 : w7.cell? ⟨w6.heap.size, 3, none⟩ = some (.int .i64 r0.wa) := Blk.cell (HS.out.get 0 rfl) 3 rfl; have p_xv_4 : w7.cell? ⟨w6.heap.size, 4, none⟩ = some uX := Blk.cell (HS.out.get 0 rfl) 4 rfl; skip))
    clear p_xv_0 p_xv_1 p_xv_2 p_xv_3 p_xv_4
    refine (ci _ _ (HS.out.readsC 1 rfl)).mono ?_
    rintro e w8 ⟨uG, rfl, o8, b8⟩
    replace HS : Hid (Sta w w8 [LstM uG z.ts, Blk w6.heap.size 26 (cpA uX r0), Lst uX r0.ts, Blk w4.heap.size 26 (cpA uW z), Lst uW z.ts, Blk w.heap.size 45 (cpA u0 r0)]) := HS.out.listM o8 b8
    clear o8 b8
    go_wp2_with (first | (refine wpList_putB rfl 26 _ _ rfl w8.heap.size (cpA uG z) zeroCp rfl rfl (HS.out.oneM 0 rfl z) (heap_alloc_new _ _) Try.isCp.2 rfl ?_; intro w9 q9 g9; replace HS : Hid (Sta w w9 [Blk w8.heap.size 26 (cpA uG z), LstM uG z.ts, Blk w6.heap.size 26 (cpA uX r0), Lst uX r0.ts, Blk w4.heap.size 26 (cpA uW z), Lst uW z.ts, Blk w.heap.size 45 (cpA u0 r0)]) := HS.out.var 26 _ _ q9 g9; clear q9 g9; have p_gv_0 : w9.cell? ⟨w8.heap.size, 0, none⟩ = some (.int .i64 z.tr) := Blk.cell (HS.out.get 0 rfl) 0 rfl; have p_gv_1 : w9.cell? ⟨w8.heap.size, 1, none⟩ = some (.bool z.op) := Blk.cell (HS.out.get 0 rfl) 1 rfl; have p_gv_2 : w9.cell? ⟨w8.heap.size, 2, none⟩ = some (.int .i64 z.di) := Blk.cell (HS.out.get 0 rfl) 2 rfl; have p_gv_3 : w9.cell? ⟨w8.heap.size, 3, none⟩ = some (.int .i64 z.wa) := Blk.cell (HS.out.get 0 rfl) 3 rfl; have p_gv_4 : w9.cell? ⟨w8.heap.size, 4, none⟩ = some uG := Blk.cell (HS.out.get 0 rfl) 4 rfl; have p_wv_0 : w9.cell? ⟨w4.heap.size, 0, none⟩ = some (.int .i64 z.tr) := Blk.cell (HS.out.get 4 rfl) 0 rfl; have p_wv_1 : w9.cell? ⟨w4.heap.size, 1, none⟩ = some (.bool z.op) := Blk.cell (HS.out.get 4 rfl) 1 rfl; have p_wv_2 : w9.cell? ⟨w4.heap.size, 2, none⟩ = some (.int .i64 z.di) := Blk.cell (HS.out.get 4 rfl) 2 rfl; have p_wv_3 : w9.cell? ⟨w4.heap.size, 3, none⟩ = some (.int .i64 z.wa) := Blk.cell (HS.out.get 4 rfl) 3 rfl; have p_wv_4 : w9.cell? ⟨w4.heap.size, 4, none⟩ = some uW := Blk.cell (HS.out.get 4 rfl) 4 rfl; skip))
    clear p_gv_0 p_gv_1 p_gv_2 p_gv_3 p_gv_4 p_wv_0 p_wv_1 p_wv_2 p_wv_3 p_wv_4
    refine (eqCopier_any _ _ z _ (HS.out.readsM 1 rfl) (HS.out.readsC 5 rfl) gz).mono ?_
    rintro e w10 ⟨rfl, b10⟩
    replace HS : Hid (Sta w w10 [Blk w8.heap.size 26 (cpA uG z), LstM uG z.ts, Blk w6.heap.size 26 (cpA uX r0), Lst uX r0.ts, Blk w4.heap.size 26 (cpA uW z), Lst uW z.ts, Blk w.heap.size 45 (cpA u0 r0)]) := HS.out.next b10
    clear b10
    go_wp2_with fail
    replace HS := HS.out.drew1
    replace HS : Hid _ := HS
    have r0_xv_0 : w10.drew.cell? ⟨w6.heap.size, 0, none⟩ = some (.int .i64 r0.tr) := Blk.cell (HS.out.get 2 rfl) 0 rfl
    have r0_xv_1 : w10.drew.cell? ⟨w6.heap.size, 1, none⟩ = some (.bool r0.op) := Blk.cell (HS.out.get 2 rfl) 1 rfl
    have r0_xv_2 : w10.drew.cell? ⟨w6.heap.size, 2, none⟩ = some (.int .i64 r0.di) := Blk.cell (HS.out.get 2 rfl) 2 rfl
    have r0_xv_3 : w10.drew.cell? ⟨w6.heap.size, 3, none⟩ = some (.int .i64 r0.wa) := Blk.cell (HS.out.get 2 rfl) 3 rfl
    have r0_xv_4 : w10.drew.cell? ⟨w6.heap.size, 4, none⟩ = some uX := Blk.cell (HS.out.get 2 rfl) 4 rfl
    have r0_D_0 : w10.drew.cell? ⟨w.heap.size, 0, none⟩ = some (.int .i64 r0.tr) := Blk.cell (HS.out.get 6 rfl) 0 rfl
    have r0_D_1 : w10.drew.cell? ⟨w.heap.size, 1, none⟩ = some (.bool r0.op) := Blk.cell (HS.out.get 6 rfl) 1 rfl
    have r0_D_2 : w10.drew.cell? ⟨w.heap.size, 2, none⟩ = some (.int .i64 r0.di) := Blk.cell (HS.out.get 6 rfl) 2 rfl
    have r0_D_3 : w10.drew.cell? ⟨w.heap.size, 3, none⟩ = some (.int .i64 r0.wa) := Blk.cell (HS.out.get 6 rfl) 3 rfl
    have r0_D_4 : w10.drew.cell? ⟨w.heap.size, 4, none⟩ = some u0 := Blk.cell (HS.out.get 6 rfl) 4 rfl
    go_region_held3 (fun w' => w'.cell? ⟨w6.heap.size, 0, none⟩ = some (.int .i64 r0.tr) ∧ w'.cell? ⟨w6.heap.size, 1, none⟩ = some (.bool r0.op) ∧ w'.cell? ⟨w6.heap.size, 2, none⟩ = some (.int .i64 r0.di) ∧ w'.cell? ⟨w6.heap.size, 3, none⟩ = some (.int .i64 r0.wa) ∧ w'.cell? ⟨w6.heap.size, 4, none⟩ = some uX ∧ w'.cell? ⟨w.heap.size, 0, none⟩ = some (.int .i64 r0.tr) ∧ w'.cell? ⟨w.heap.size, 1, none⟩ = some (.bool r0.op) ∧ w'.cell? ⟨w.heap.size, 2, none⟩ = some (.int .i64 r0.di) ∧ w'.cell? ⟨w.heap.size, 3, none⟩ = some (.int .i64 r0.wa) ∧ w'.cell? ⟨w.heap.size, 4, none⟩ = some u0) (refine ⟨?_, ?_, ?_, ?_, ?_, ?_, ?_, ?_, ?_, ?_⟩ <;> assumption)
      (first
        | (go_at_call 40; refine (toCopier_any u0 r0 _ (F0.out.below HS.out.below (Nat.le_refl _)) gx).mono ?_; rintro e w11 ⟨uE_, rfl, o11, b11⟩; replace HS : Hid (Sta w w11 [Lst uE_ r0.ts, Blk w8.heap.size 26 (cpA uG z), LstM uG z.ts, Blk w6.heap.size 26 (cpA uX r0), Lst uX r0.ts, Blk w4.heap.size 26 (cpA uW z), Lst uW z.ts, Blk w.heap.size 45 (cpA u0 r0)]) := HS.out.list o11 b11; clear o11 b11; have r1_xv_0 : w11.cell? ⟨w6.heap.size, 0, none⟩ = some (.int .i64 r0.tr) := Blk.cell (HS.out.get 3 rfl) 0 rfl; have r1_xv_1 : w11.cell? ⟨w6.heap.size, 1, none⟩ = some (.bool r0.op) := Blk.cell (HS.out.get 3 rfl) 1 rfl; have r1_xv_2 : w11.cell? ⟨w6.heap.size, 2, none⟩ = some (.int .i64 r0.di) := Blk.cell (HS.out.get 3 rfl) 2 rfl; have r1_xv_3 : w11.cell? ⟨w6.heap.size, 3, none⟩ = some (.int .i64 r0.wa) := Blk.cell (HS.out.get 3 rfl) 3 rfl; have r1_xv_4 : w11.cell? ⟨w6.heap.size, 4, none⟩ = some uX := Blk.cell (HS.out.get 3 rfl) 4 rfl; have r1_D_0 : w11.cell? ⟨w.heap.size, 0, none⟩ = some (.int .i64 r0.tr) := Blk.cell (HS.out.get 7 rfl) 0 rfl; have r1_D_1 : w11.cell? ⟨w.heap.size, 1, none⟩ = some (.bool r0.op) := Blk.cell (HS.out.get 7 rfl) 1 rfl; have r1_D_2 : w11.cell? ⟨w.heap.size, 2, none⟩ = some (.int .i64 r0.di) := Blk.cell (HS.out.get 7 rfl) 2 rfl; have r1_D_3 : w11.cell? ⟨w.heap.size, 3, none⟩ = some (.int .i64 r0.wa) := Blk.cell (HS.out.get 7 rfl) 3 rfl; have r1_D_4 : w11.cell? ⟨w.heap.size, 4, none⟩ = some u0 := Blk.cell (HS.out.get 7 rfl) 4 rfl)
        | (go_at_call 41; refine (eqCopier_any _ _ r0 _ (HS.out.readsC 4 rfl) (HS.out.readsC 0 rfl) gx).mono ?_; rintro e w12 ⟨rfl, b12⟩; replace HS : Hid (Sta w w12 [Lst uE_ r0.ts, Blk w8.heap.size 26 (cpA uG z), LstM uG z.ts, Blk w6.heap.size 26 (cpA uX r0), Lst uX r0.ts, Blk w4.heap.size 26 (cpA uW z), Lst uW z.ts, Blk w.heap.size 45 (cpA u0 r0)]) := HS.out.next b12; clear b12; have r2_xv_0 : w12.cell? ⟨w6.heap.size, 0, none⟩ = some (.int .i64 r0.tr) := Blk.cell (HS.out.get 3 rfl) 0 rfl; have r2_xv_1 : w12.cell? ⟨w6.heap.size, 1, none⟩ = some (.bool r0.op) := Blk.cell (HS.out.get 3 rfl) 1 rfl; have r2_xv_2 : w12.cell? ⟨w6.heap.size, 2, none⟩ = some (.int .i64 r0.di) := Blk.cell (HS.out.get 3 rfl) 2 rfl; have r2_xv_3 : w12.cell? ⟨w6.heap.size, 3, none⟩ = some (.int .i64 r0.wa) := Blk.cell (HS.out.get 3 rfl) 3 rfl; have r2_xv_4 : w12.cell? ⟨w6.heap.size, 4, none⟩ = some uX := Blk.cell (HS.out.get 3 rfl) 4 rfl; have r2_D_0 : w12.cell? ⟨w.heap.size, 0, none⟩ = some (.int .i64 r0.tr) := Blk.cell (HS.out.get 7 rfl) 0 rfl; have r2_D_1 : w12.cell? ⟨w.heap.size, 1, none⟩ = some (.bool r0.op) := Blk.cell (HS.out.get 7 rfl) 1 rfl; have r2_D_2 : w12.cell? ⟨w.heap.size, 2, none⟩ = some (.int .i64 r0.di) := Blk.cell (HS.out.get 7 rfl) 2 rfl; have r2_D_3 : w12.cell? ⟨w.heap.size, 3, none⟩ = some (.int .i64 r0.wa) := Blk.cell (HS.out.get 7 rfl) 3 rfl; have r2_D_4 : w12.cell? ⟨w.heap.size, 4, none⟩ = some u0 := Blk.cell (HS.out.get 7 rfl) 4 rfl))
    clear r0_xv_0 r0_xv_1 r0_xv_2 r0_xv_3 r0_xv_4 r0_D_0 r0_D_1 r0_D_2 r0_D_3 r0_D_4 r1_xv_0 r1_xv_1 r1_xv_2 r1_xv_3 r1_xv_4 r1_D_0 r1_D_1 r1_D_2 r1_D_3 r1_D_4 r2_xv_0 r2_xv_1 r2_xv_2 r2_xv_3 r2_xv_4 r2_D_0 r2_D_1 r2_D_2 r2_D_3 r2_D_4
    replace HS : Hid (Sta w w12 [Blk w8.heap.size 26 (cpA uG z), LstM uG z.ts, Blk w6.heap.size 26 (cpA uX r0), Lst uX r0.ts, Blk w4.heap.size 26 (cpA uW z), Lst uW z.ts, Blk w.heap.size 45 (cpA u0 r0)]) := HS.out.tail
    have p_xv_0 : w12.cell? ⟨w6.heap.size, 0, none⟩ = some (.int .i64 r0.tr) := Blk.cell (HS.out.get 2 rfl) 0 rfl
    have p_xv_1 : w12.cell? ⟨w6.heap.size, 1, none⟩ = some (.bool r0.op) := Blk.cell (HS.out.get 2 rfl) 1 rfl
    have p_xv_2 : w12.cell? ⟨w6.heap.size, 2, none⟩ = some (.int .i64 r0.di) := Blk.cell (HS.out.get 2 rfl) 2 rfl
    have p_xv_3 : w12.cell? ⟨w6.heap.size, 3, none⟩ = some (.int .i64 r0.wa) := Blk.cell (HS.out.get 2 rfl) 3 rfl
    have p_xv_4 : w12.cell? ⟨w6.heap.size, 4, none⟩ = some uX := Blk.cell (HS.out.get 2 rfl) 4 rfl
    go_wp2_with fail
    clear p_xv_0 p_xv_1 p_xv_2 p_xv_3 p_xv_4
    refine (markCopier_any _ r0 1 _ 0 (HS.out.get 3 rfl) sx (by omega) (by omega)).mono ?_
    rintro e w13 ⟨rfl, o13, m13⟩
    replace HS : Hid (Sta w w13 [Blk w8.heap.size 26 (cpA uG z), LstM uG z.ts, Blk w6.heap.size 26 (cpA uX r0), Lst uX (marks 1 r0.ts.length), Blk w4.heap.size 26 (cpA uW z), Lst uW z.ts, Blk w.heap.size 45 (cpA u0 r0)]) := HS.out.markC 3 rfl o13 m13
    clear o13 m13
    have p_gv_0 : w13.cell? ⟨w8.heap.size, 0, none⟩ = some (.int .i64 z.tr) := Blk.cell (HS.out.get 0 rfl) 0 rfl
    have p_gv_1 : w13.cell? ⟨w8.heap.size, 1, none⟩ = some (.bool z.op) := Blk.cell (HS.out.get 0 rfl) 1 rfl
    have p_gv_2 : w13.cell? ⟨w8.heap.size, 2, none⟩ = some (.int .i64 z.di) := Blk.cell (HS.out.get 0 rfl) 2 rfl
    have p_gv_3 : w13.cell? ⟨w8.heap.size, 3, none⟩ = some (.int .i64 z.wa) := Blk.cell (HS.out.get 0 rfl) 3 rfl
    have p_gv_4 : w13.cell? ⟨w8.heap.size, 4, none⟩ = some uG := Blk.cell (HS.out.get 0 rfl) 4 rfl
    have p_wv_0 : w13.cell? ⟨w4.heap.size, 0, none⟩ = some (.int .i64 z.tr) := Blk.cell (HS.out.get 4 rfl) 0 rfl
    have p_wv_1 : w13.cell? ⟨w4.heap.size, 1, none⟩ = some (.bool z.op) := Blk.cell (HS.out.get 4 rfl) 1 rfl
    have p_wv_2 : w13.cell? ⟨w4.heap.size, 2, none⟩ = some (.int .i64 z.di) := Blk.cell (HS.out.get 4 rfl) 2 rfl
    have p_wv_3 : w13.cell? ⟨w4.heap.size, 3, none⟩ = some (.int .i64 z.wa) := Blk.cell (HS.out.get 4 rfl) 3 rfl
    have p_wv_4 : w13.cell? ⟨w4.heap.size, 4, none⟩ = some uW := Blk.cell (HS.out.get 4 rfl) 4 rfl
    go_wp2_with fail
    clear p_gv_0 p_gv_1 p_gv_2 p_gv_3 p_gv_4 p_wv_0 p_wv_1 p_wv_2 p_wv_3 p_wv_4
    refine (eqCopier_any _ _ z _ (HS.out.readsM 1 rfl) (HS.out.readsC 5 rfl) gz).mono ?_
    rintro e w14 ⟨rfl, b14⟩
    replace HS : Hid (Sta w w14 [Blk w8.heap.size 26 (cpA uG z), LstM uG z.ts, Blk w6.heap.size 26 (cpA uX r0), Lst uX (marks 1 r0.ts.length), Blk w4.heap.size 26 (cpA uW z), Lst uW z.ts, Blk w.heap.size 45 (cpA u0 r0)]) := HS.out.next b14
    clear b14
    have p_gv_0 : w14.cell? ⟨w8.heap.size, 0, none⟩ = some (.int .i64 z.tr) := Blk.cell (HS.out.get 0 rfl) 0 rfl
    have p_gv_1 : w14.cell? ⟨w8.heap.size, 1, none⟩ = some (.bool z.op) := Blk.cell (HS.out.get 0 rfl) 1 rfl
    have p_gv_2 : w14.cell? ⟨w8.heap.size, 2, none⟩ = some (.int .i64 z.di) := Blk.cell (HS.out.get 0 rfl) 2 rfl
    have p_gv_3 : w14.cell? ⟨w8.heap.size, 3, none⟩ = some (.int .i64 z.wa) := Blk.cell (HS.out.get 0 rfl) 3 rfl
    have p_gv_4 : w14.cell? ⟨w8.heap.size, 4, none⟩ = some uG := Blk.cell (HS.out.get 0 rfl) 4 rfl
    go_wp2_with fail
    clear p_gv_0 p_gv_1 p_gv_2 p_gv_3 p_gv_4
    refine (markCopierM_any _ z 1 _ 0 (HS.out.get 1 rfl) sz (by omega) (by omega)).mono ?_
    rintro e w15 ⟨rfl, o15, m15⟩
    replace HS : Hid (Sta w w15 [Blk w8.heap.size 26 (cpA uG z), LstM uG (marks 1 z.ts.length), Blk w6.heap.size 26 (cpA uX r0), Lst uX (marks 1 r0.ts.length), Blk w4.heap.size 26 (cpA uW z), Lst uW z.ts, Blk w.heap.size 45 (cpA u0 r0)]) := HS.out.markM 1 rfl (marks_length _ _) o15 m15
    clear o15 m15
    have p_gv_0 : w15.cell? ⟨w8.heap.size, 0, none⟩ = some (.int .i64 z.tr) := Blk.cell (HS.out.get 0 rfl) 0 rfl
    have p_gv_1 : w15.cell? ⟨w8.heap.size, 1, none⟩ = some (.bool z.op) := Blk.cell (HS.out.get 0 rfl) 1 rfl
    have p_gv_2 : w15.cell? ⟨w8.heap.size, 2, none⟩ = some (.int .i64 z.di) := Blk.cell (HS.out.get 0 rfl) 2 rfl
    have p_gv_3 : w15.cell? ⟨w8.heap.size, 3, none⟩ = some (.int .i64 z.wa) := Blk.cell (HS.out.get 0 rfl) 3 rfl
    have p_gv_4 : w15.cell? ⟨w8.heap.size, 4, none⟩ = some uG := Blk.cell (HS.out.get 0 rfl) 4 rfl
    go_wp2_with fail
    clear p_gv_0 p_gv_1 p_gv_2 p_gv_3 p_gv_4
    refine (heldCopier_any _ z z.ts.length 1 _ rfl (HS.out.readsM 1 rfl) sz (by omega) (by omega)).mono ?_
    rintro e w16 ⟨rfl, b16⟩
    replace HS : Hid (Sta w w16 [Blk w8.heap.size 26 (cpA uG z), LstM uG (marks 1 z.ts.length), Blk w6.heap.size 26 (cpA uX r0), Lst uX (marks 1 r0.ts.length), Blk w4.heap.size 26 (cpA uW z), Lst uW z.ts, Blk w.heap.size 45 (cpA u0 r0)]) := HS.out.next b16
    clear b16
    have p_D_0 : w16.cell? ⟨w.heap.size, 0, none⟩ = some (.int .i64 r0.tr) := Blk.cell (HS.out.get 6 rfl) 0 rfl
    have p_D_1 : w16.cell? ⟨w.heap.size, 1, none⟩ = some (.bool r0.op) := Blk.cell (HS.out.get 6 rfl) 1 rfl
    have p_D_2 : w16.cell? ⟨w.heap.size, 2, none⟩ = some (.int .i64 r0.di) := Blk.cell (HS.out.get 6 rfl) 2 rfl
    have p_D_3 : w16.cell? ⟨w.heap.size, 3, none⟩ = some (.int .i64 r0.wa) := Blk.cell (HS.out.get 6 rfl) 3 rfl
    have p_D_4 : w16.cell? ⟨w.heap.size, 4, none⟩ = some u0 := Blk.cell (HS.out.get 6 rfl) 4 rfl
    go_wp2_with fail
    clear p_D_0 p_D_1 p_D_2 p_D_3 p_D_4
    refine (toCopier_any u0 r0 _ (F0.out.below HS.out.below (Nat.le_refl _)) gx).mono ?_
    rintro e w17 ⟨uC, rfl, o17, b17⟩
    replace HS : Hid (Sta w w17 [Lst uC r0.ts, Blk w8.heap.size 26 (cpA uG z), LstM uG (marks 1 z.ts.length), Blk w6.heap.size 26 (cpA uX r0), Lst uX (marks 1 r0.ts.length), Blk w4.heap.size 26 (cpA uW z), Lst uW z.ts, Blk w.heap.size 45 (cpA u0 r0)]) := HS.out.list o17 b17
    clear o17 b17
    go_wp2_with fail
    refine (ci _ _ (HS.out.readsC 0 rfl)).mono ?_
    rintro e w18 ⟨uH, rfl, o18, b18⟩
    replace HS : Hid (Sta w w18 [LstM uH z.ts, Lst uC r0.ts, Blk w8.heap.size 26 (cpA uG z), LstM uG (marks 1 z.ts.length), Blk w6.heap.size 26 (cpA uX r0), Lst uX (marks 1 r0.ts.length), Blk w4.heap.size 26 (cpA uW z), Lst uW z.ts, Blk w.heap.size 45 (cpA u0 r0)]) := HS.out.listM o18 b18
    clear o18 b18
    replace HS : Hid (Sta w w18 [LstM uH z.ts, Blk w8.heap.size 26 (cpA uG z), LstM uG (marks 1 z.ts.length), Blk w6.heap.size 26 (cpA uX r0), Lst uX (marks 1 r0.ts.length), Blk w4.heap.size 26 (cpA uW z), Lst uW z.ts, Blk w.heap.size 45 (cpA u0 r0)]) := HS.out.second
    go_wp2_with (first | (refine wpList_putB rfl 26 _ _ rfl w18.heap.size (cpA uH z) zeroCp rfl rfl (HS.out.oneM 0 rfl z) (heap_alloc_new _ _) Try.isCp.2 rfl ?_; intro w19 q19 g19; replace HS : Hid (Sta w w19 [Blk w18.heap.size 26 (cpA uH z), LstM uH z.ts, Blk w8.heap.size 26 (cpA uG z), LstM uG (marks 1 z.ts.length), Blk w6.heap.size 26 (cpA uX r0), Lst uX (marks 1 r0.ts.length), Blk w4.heap.size 26 (cpA uW z), Lst uW z.ts, Blk w.heap.size 45 (cpA u0 r0)]) := HS.out.var 26 _ _ q19 g19; clear q19 g19; have p_hv_0 : w19.cell? ⟨w18.heap.size, 0, none⟩ = some (.int .i64 z.tr) := Blk.cell (HS.out.get 0 rfl) 0 rfl; have p_hv_1 : w19.cell? ⟨w18.heap.size, 1, none⟩ = some (.bool z.op) := Blk.cell (HS.out.get 0 rfl) 1 rfl; have p_hv_2 : w19.cell? ⟨w18.heap.size, 2, none⟩ = some (.int .i64 z.di) := Blk.cell (HS.out.get 0 rfl) 2 rfl; have p_hv_3 : w19.cell? ⟨w18.heap.size, 3, none⟩ = some (.int .i64 z.wa) := Blk.cell (HS.out.get 0 rfl) 3 rfl; have p_hv_4 : w19.cell? ⟨w18.heap.size, 4, none⟩ = some uH := Blk.cell (HS.out.get 0 rfl) 4 rfl; have p_wv_0 : w19.cell? ⟨w4.heap.size, 0, none⟩ = some (.int .i64 z.tr) := Blk.cell (HS.out.get 6 rfl) 0 rfl; have p_wv_1 : w19.cell? ⟨w4.heap.size, 1, none⟩ = some (.bool z.op) := Blk.cell (HS.out.get 6 rfl) 1 rfl; have p_wv_2 : w19.cell? ⟨w4.heap.size, 2, none⟩ = some (.int .i64 z.di) := Blk.cell (HS.out.get 6 rfl) 2 rfl; have p_wv_3 : w19.cell? ⟨w4.heap.size, 3, none⟩ = some (.int .i64 z.wa) := Blk.cell (HS.out.get 6 rfl) 3 rfl; have p_wv_4 : w19.cell? ⟨w4.heap.size, 4, none⟩ = some uW := Blk.cell (HS.out.get 6 rfl) 4 rfl; skip))
    clear p_hv_0 p_hv_1 p_hv_2 p_hv_3 p_hv_4 p_wv_0 p_wv_1 p_wv_2 p_wv_3 p_wv_4
    refine (eqCopier_any _ _ z _ (HS.out.readsM 1 rfl) (HS.out.readsC 7 rfl) gz).mono ?_
    rintro e w20 ⟨rfl, b20⟩
    replace HS : Hid (Sta w w20 [Blk w18.heap.size 26 (cpA uH z), LstM uH z.ts, Blk w8.heap.size 26 (cpA uG z), LstM uG (marks 1 z.ts.length), Blk w6.heap.size 26 (cpA uX r0), Lst uX (marks 1 r0.ts.length), Blk w4.heap.size 26 (cpA uW z), Lst uW z.ts, Blk w.heap.size 45 (cpA u0 r0)]) := HS.out.next b20
    clear b20
    have p_gv_0 : w20.cell? ⟨w8.heap.size, 0, none⟩ = some (.int .i64 z.tr) := Blk.cell (HS.out.get 2 rfl) 0 rfl
    have p_gv_1 : w20.cell? ⟨w8.heap.size, 1, none⟩ = some (.bool z.op) := Blk.cell (HS.out.get 2 rfl) 1 rfl
    have p_gv_2 : w20.cell? ⟨w8.heap.size, 2, none⟩ = some (.int .i64 z.di) := Blk.cell (HS.out.get 2 rfl) 2 rfl
    have p_gv_3 : w20.cell? ⟨w8.heap.size, 3, none⟩ = some (.int .i64 z.wa) := Blk.cell (HS.out.get 2 rfl) 3 rfl
    have p_gv_4 : w20.cell? ⟨w8.heap.size, 4, none⟩ = some uG := Blk.cell (HS.out.get 2 rfl) 4 rfl
    go_wp2_with fail
    clear p_gv_0 p_gv_1 p_gv_2 p_gv_3 p_gv_4
    refine (heldCopier_any _ z z.ts.length 1 _ rfl (HS.out.readsM 3 rfl) sz (by omega) (by omega)).mono ?_
    rintro e w21 ⟨rfl, b21⟩
    replace HS : Hid (Sta w w21 [Blk w18.heap.size 26 (cpA uH z), LstM uH z.ts, Blk w8.heap.size 26 (cpA uG z), LstM uG (marks 1 z.ts.length), Blk w6.heap.size 26 (cpA uX r0), Lst uX (marks 1 r0.ts.length), Blk w4.heap.size 26 (cpA uW z), Lst uW z.ts, Blk w.heap.size 45 (cpA u0 r0)]) := HS.out.next b21
    clear b21
    have HB : Hid (Below w.heap.size w _) := HS.out.below
    clear HS
    go_wp2_with fail
    go_ret
    exact ⟨rfl, HB.out⟩
  · have hsz : szI 1048576 r0.ts.length = -1 := by simp only [szI]; rw [if_neg (by omega)]
    have b1 : Below w.heap.size w (w.alloc (.cells (cpA u0 r0) 45)) := (Below.refl _ _).alloc (Nat.le_refl _) _
    have c1 := szCopier_any u0 r0 1048576 _ (f0.below b1 (Nat.le_refl _)) (by omega) (by omega)
    rw [hsz] at c1
    clear hsz f0 hbig
    unfold CpV cpA at *
    go_enter Try.func10, Try.ntmps10
    go_wp2_with fail
    refine c1.mono ?_
    rintro e w2 ⟨rfl, b2⟩
    replace b2 := b1.trans (b2.mono b1.size)
    clear b1 c1
    go_wp2_with fail
    go_ret
    exact ⟨rfl, b2⟩

set_option maxRecDepth 100000 in
theorem lifted (os : Os) (started : os.Started) (H : Type) (enc : TypeId × Value → H) :
    ReturnsInHanded {} Try.checked os 10 .any (Rows.fnExactAgainSpec.pre6 enc Try.prog Try.f10 Rows.fnExactAgainRow.domain false) (Rows.fnExactAgainSpec.post enc Try.prog Try.f10 false true false false) := by
  refine returnsInHanded_of_change (C := Try.checked) own started (by kernel_rfl) Try.func10
    (ChangeSpec.witness6 (enc := enc) (C := Try.checked) false ⟨#[], #[.agg #[.int .i64 0, .bool false, .int .i64 0, .int .i64 0, .slice none 0 0]], []⟩ 8 (by kernel_rfl) (by kernel_rfl) (by kernel_rfl) (by kernel_rfl)) ?_
  intro W base args ds gs before hval0 hW hcnd _
  have hval : ∀ (j : Nat) t v, Try.f10.params[j]? = some t → args[j]? = some v → Value.okWide Try.prog W .any base t v := hval0
  have hW' := hW
  obtain ⟨p, q, hA0, hV, rfl, hfz, hnd⟩ := hW
  have hA : DataW.TrodAll enc Try.prog W 0 (fun _ => true) true Try.f10.params.toList args.toList ds p := hA0
  rw [Try.params10] at hA hval
  obtain ⟨v0, vs0, d0, ds0, p0, q0, hargs, rfl, rfl, h0, s0⟩ := trodAll_cons hA
  obtain ⟨rfl, rfl, rfl⟩ := trodAll_nil s0
  obtain rfl : args = #[v0] := by cases args; simp_all
  obtain ⟨rfl, rfl⟩ := trodVars_none hV
  have k0 := h0
  have lt0 : ∀ x ∈ p0, x.block < W.heap.size := by obtain ⟨m, hm⟩ := k0; exact DataW.trod_lt m _ _ _ hm
  obtain ⟨r0, u0, rfl, f0⟩ := open_copier (hval 0 45 v0 rfl rfl) h0
  clear hA0 hval0
  refine (walk r0 u0 W f0).mono fun e W' ⟨he, bel⟩ => ?_
  subst he
  exact ⟨_, rfl, _, _, _, [], _, [], hW', trodAll_mk1 (shut_bool Try.underlying4 _), (trodAll_cons_mk (Below.trod laidOut (by kernel_rfl) (of_decide_eq_true (by kernel_rfl)) k0 bel lt0) trodAll_mk0), rfl, bel.frame _, fun h => by cases h⟩

theorem over : Rows.fnExactAgainRow.holds Try.pinned (OpenSpec.ofChange Rows.fnExactAgainSpec) :=
  OpenClaim.holds_of_wide 10 Try.f10 rfl rfl rfl rfl rfl rfl rfl ⟨rfl, rfl, rfl, rfl, rfl⟩ rfl rfl rfl rfl rfl (by kernel_rfl) Try.func10 (by kernel_rfl)
    (of_decide_eq_true (by kernel_rfl)) (by unfold Func.isWrapper; first | (rw [if_pos (by decide +kernel)]; kernel_rfl) | (rw [if_neg (by decide +kernel)]; exact ⟨rfl, rfl⟩))
    (fun os started H enc _ => lifted os started H enc)

theorem proved : Rows.FnExactAgainSaid := over
end Go.Proofs.Ytelfpdjidppblaa.fnExactAgain
namespace Go.Proofs.Ytelfpdjidppblaa
theorem fnExactAgain_holds : Rows.FnExactAgainSaid := fnExactAgain.proved
end Go.Proofs.Ytelfpdjidppblaa
