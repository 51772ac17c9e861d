/- At every disk Flushed of the program answers as Flushed of the model, in memory of its own that a second call leaves alone, and leaves what it was given as it was: the law FnExactFlushed returns true, whatever it is given. -/
import Derived.Test.YthjgannjahcmiaaRows
import Derived.WalkKit
import Derived.ProofKit
import Derived.OpenShut
import Derived.ShutString
import Derived.ChangeOld
import Derived.Below
import Derived.Test.YthjgannjahcmiaaOpen
import Derived.Test.YthjgannjahcmiaaDiskSta
import Derived.Test.YthjgannjahcmiaaSDisk2
import Derived.Test.YthjgannjahcmiaaIDisk2
namespace Go.Proofs.Ythjgannjahcmiaa.fnExactFlushed
open Go.ChangeShapes Go.WideShapes Go.ChangeAt Go.RowKit
set_option linter.unusedVariables false

theorem own : ownKnob Try.prog.godebug = none := by kernel_rfl
theorem laidOut : laidOutB Try.prog = true := by kernel_rfl

set_option maxRecDepth 20000 in
set_option maxHeartbeats 2000000 in
theorem walk (u0 v0 : Value) (xs0 ys0 : List Int) (w : World) (RX0 : Reads w u0 xs0) (RY0 : Reads w v0 ys0) :
    Calls Try.prog 8 #[.agg #[u0, v0]] w fun e w' => e = .returned (.bool true) ∧ Below w.heap.size w w' := by
  by_cases hbig : (xs0.length + ys0.length : Int) ≤ 1048576
  · skip
    have gx : xs0.length ≤ 1099511627776 := by omega
    have gy : ys0.length ≤ 1099511627776 := by omega
    have sx : xs0.length ≤ 1048576 := by omega
    have sy : ys0.length ≤ 1048576 := by omega
    have hsz : szI 1048576 (xs0.length + ys0.length) = 1048576 - (xs0.length + ys0.length : Nat) := by simp only [szI]; rw [if_pos (by omega)]
    obtain ⟨w1, hw1⟩ : ∃ w1, w1 = w.alloc (.cells #[u0, v0] 43) := ⟨_, rfl⟩
    have HS : Hid (Sta w w1 [Blk w.heap.size 43 #[u0, v0]]) := by rw [hw1]; exact (Sta.start w).box _ _
    have c1 := szDisk_any u0 v0 xs0 ys0 1048576 w1 (RX0.below HS.out.below (Nat.le_refl _)) (RY0.below HS.out.below (Nat.le_refl _)) (by omega) (by omega)
    rw [hsz] at c1
    replace RX0 : Hid (Reads w u0 xs0) := RX0
    replace RY0 : Hid (Reads w v0 ys0) := RY0
    clear hsz
    go_enter Try.func8, Try.ntmps8
    go_wp2_with fail
    rw [← hw1]
    clear hw1
    refine (c1).mono ?_
    rintro e w2 ⟨rfl, b2⟩
    replace HS : Hid (Sta w w2 [Blk w.heap.size 43 #[u0, v0]]) := HS.out.next b2
    clear b2
    clear c1
    obtain ⟨ks, hk⟩ : ∃ ks, ks = flN xs0 ys0 := ⟨_, rfl⟩
    obtain ⟨ns, hn⟩ : ∃ ns, ns = flN xs0 ys0 := ⟨_, rfl⟩
    have sk : ks.length ≤ 1048576 := by rw [hk]; unfold flN; split <;> (first | omega | simp)
    have sn : ns.length ≤ 1048576 := by rw [hn]; unfold flN; split <;> (first | omega | simp)
    have gk : ks.length ≤ 1099511627776 := by omega
    have gn : ns.length ≤ 1099511627776 := by omega
    have cs : ∀ u v w', Reads w' u xs0 → Reads w' v ys0 → _ := fun u v w' h h' => sflushed_any u v xs0 ys0 w' h h' gx gy
    have ci : ∀ u v w', Reads w' u xs0 → Reads w' v ys0 → _ := fun u v w' h h' => flushed_any u v xs0 ys0 w' h h' gx gy
    simp only [← hk] at cs ci
    try simp only [← hn] at cs ci
    clear hk hn 
    have p_D_0 := Blk.cell (HS.out.get 0 rfl) 0 rfl
    have p_D_1 := Blk.cell (HS.out.get 0 rfl) 1 rfl
    
    go_wp2_with fail
    clear p_D_0 p_D_1
    refine (toDisk_any _ _ xs0 ys0 _ (RX0.out.below HS.out.below (Nat.le_refl _)) (RY0.out.below HS.out.below (Nat.le_refl _)) gx gy).mono ?_
    rintro e w3 ⟨uA, vA, rfl, o3, b3⟩
    replace HS : Hid (Sta w w3 [Dsk uA vA xs0 ys0, Blk w.heap.size 43 #[u0, v0]]) := HS.out.disk o3 b3
    clear o3 b3
    
    go_wp2_with fail
    refine (cs _ _ _ (HS.out.readsU 0 rfl) (HS.out.readsV 0 rfl)).mono ?_
    rintro e w4 ⟨uW, vW, rfl, o4, b4⟩
    replace HS : Hid (Sta w w4 [Dsk uW vW ks ks, Dsk uA vA xs0 ys0, Blk w.heap.size 43 #[u0, v0]]) := HS.out.disk o4 b4
    clear o4 b4
    replace HS : Hid (Sta w w4 [Dsk uW vW ks ks, Blk w.heap.size 43 #[u0, v0]]) := HS.out.second
    go_wp2_with (first
      | (refine wpList_putB rfl 26 _ _ rfl w4.heap.size #[uW, vW] #[.slice none 0 0, .slice none 0 0] rfl rfl (HS.out.ones 0 rfl) (heap_alloc_new _ _) Try.infoB.1 rfl ?_; intro w5 q5 g5; replace HS : Hid (Sta w w5 [Blk w4.heap.size 26 #[uW, vW], Dsk uW vW ks ks, Blk w.heap.size 43 #[u0, v0]]) := HS.out.var 26 _ _ q5 g5; clear q5 g5; have p_D_0 := Blk.cell (HS.out.get 2 rfl) 0 rfl; have p_D_1 := Blk.cell (HS.out.get 2 rfl) 1 rfl; skip))
    clear p_D_0 p_D_1
    refine (toDisk_any _ _ xs0 ys0 _ (RX0.out.below HS.out.below (Nat.le_refl _)) (RY0.out.below HS.out.below (Nat.le_refl _)) gx gy).mono ?_
    rintro e w6 ⟨uX, vX, rfl, o6, b6⟩
    replace HS : Hid (Sta w w6 [Dsk uX vX xs0 ys0, Blk w4.heap.size 26 #[uW, vW], Dsk uW vW ks ks, Blk w.heap.size 43 #[u0, v0]]) := HS.out.disk o6 b6
    clear o6 b6
    go_wp2_with (first
      | (refine wpList_putB rfl 26 _ _ rfl w6.heap.size #[uX, vX] #[.slice none 0 0, .slice none 0 0] rfl rfl (HS.out.ones 0 rfl) (heap_alloc_new _ _) Try.infoB.1 rfl ?_; intro w7 q7 g7; replace HS : Hid (Sta w w7 [Blk w6.heap.size 26 #[uX, vX], Dsk uX vX xs0 ys0, Blk w4.heap.size 26 #[uW, vW], Dsk uW vW ks ks, Blk w.heap.size 43 #[u0, v0]]) := HS.out.var 26 _ _ q7 g7; clear q7 g7; have p_xv_0 := Blk.cell (HS.out.get 0 rfl) 0 rfl; have p_xv_1 := Blk.cell (HS.out.get 0 rfl) 1 rfl; skip))
    clear p_xv_0 p_xv_1
    refine (ci _ _ _ (HS.out.readsU 1 rfl) (HS.out.readsV 1 rfl)).mono ?_
    rintro e w8 ⟨uG, vG, rfl, o8, b8⟩
    replace HS : Hid (Sta w w8 [Dsk uG vG ks ks, Blk w6.heap.size 26 #[uX, vX], Dsk uX vX xs0 ys0, Blk w4.heap.size 26 #[uW, vW], Dsk uW vW ks ks, Blk w.heap.size 43 #[u0, v0]]) := HS.out.disk o8 b8
    clear o8 b8
    go_wp2_with (first
      | (refine wpList_putB rfl 26 _ _ rfl w8.heap.size #[uG, vG] #[.slice none 0 0, .slice none 0 0] rfl rfl (HS.out.ones 0 rfl) (heap_alloc_new _ _) Try.infoB.1 rfl ?_; intro w9 q9 g9; replace HS : Hid (Sta w w9 [Blk w8.heap.size 26 #[uG, vG], Dsk uG vG ks ks, Blk w6.heap.size 26 #[uX, vX], Dsk uX vX xs0 ys0, Blk w4.heap.size 26 #[uW, vW], Dsk uW vW ks ks, Blk w.heap.size 43 #[u0, v0]]) := HS.out.var 26 _ _ q9 g9; clear q9 g9; have p_gv_0 := Blk.cell (HS.out.get 0 rfl) 0 rfl; have p_gv_1 := Blk.cell (HS.out.get 0 rfl) 1 rfl; have p_wv_0 := Blk.cell (HS.out.get 4 rfl) 0 rfl; have p_wv_1 := Blk.cell (HS.out.get 4 rfl) 1 rfl; skip))
    clear p_gv_0 p_gv_1 p_wv_0 p_wv_1
    refine (eqDisk_any _ _ _ _ _ _ _ (HS.out.readsU 1 rfl) (HS.out.readsV 1 rfl) (HS.out.readsU 5 rfl) (HS.out.readsV 5 rfl) gk gk).mono ?_
    rintro e w10 ⟨rfl, b10⟩
    replace HS : Hid (Sta w w10 [Blk w8.heap.size 26 #[uG, vG], Dsk uG vG ks ks, Blk w6.heap.size 26 #[uX, vX], Dsk uX vX xs0 ys0, Blk w4.heap.size 26 #[uW, vW], Dsk uW vW ks ks, Blk w.heap.size 43 #[u0, v0]]) := HS.out.next b10
    clear b10
    
    go_wp2_with fail
    replace HS := HS.out.drew1
    replace HS : Hid _ := HS
    have r0_0 := Blk.cell (HS.out.get 2 rfl) 0 rfl
    have r0_1 := Blk.cell (HS.out.get 2 rfl) 1 rfl
    have r0_2 := Blk.cell (HS.out.get 6 rfl) 0 rfl
    have r0_3 := Blk.cell (HS.out.get 6 rfl) 1 rfl
    go_region_held3 (fun w' => w'.cell? ⟨w6.heap.size, 0, none⟩ = some uX ∧ w'.cell? ⟨w6.heap.size, 1, none⟩ = some vX ∧ w'.cell? ⟨w.heap.size, 0, none⟩ = some u0 ∧ w'.cell? ⟨w.heap.size, 1, none⟩ = some v0) (refine ⟨?_, ?_, ?_, ?_⟩ <;> assumption)
      (first
        | (go_at_call 32; refine (toDisk_any _ _ xs0 ys0 _ (RX0.out.below HS.out.below (Nat.le_refl _)) (RY0.out.below HS.out.below (Nat.le_refl _)) gx gy).mono ?_; rintro e w11 ⟨uE_, vE_, rfl, o11, b11⟩; replace HS : Hid (Sta w w11 [Dsk uE_ vE_ xs0 ys0, Blk w8.heap.size 26 #[uG, vG], Dsk uG vG ks ks, Blk w6.heap.size 26 #[uX, vX], Dsk uX vX xs0 ys0, Blk w4.heap.size 26 #[uW, vW], Dsk uW vW ks ks, Blk w.heap.size 43 #[u0, v0]]) := HS.out.disk o11 b11; clear o11 b11; have r1_0 := Blk.cell (HS.out.get 3 rfl) 0 rfl; have r1_1 := Blk.cell (HS.out.get 3 rfl) 1 rfl; have r1_2 := Blk.cell (HS.out.get 7 rfl) 0 rfl; have r1_3 := Blk.cell (HS.out.get 7 rfl) 1 rfl)
        | (go_at_call 33; refine (eqDisk_any _ _ _ _ _ _ _ (HS.out.readsU 4 rfl) (HS.out.readsV 4 rfl) (HS.out.readsU 0 rfl) (HS.out.readsV 0 rfl) gx gy).mono ?_; rintro e w12 ⟨rfl, b12⟩; replace HS : Hid (Sta w w12 [Dsk uE_ vE_ xs0 ys0, Blk w8.heap.size 26 #[uG, vG], Dsk uG vG ks ks, Blk w6.heap.size 26 #[uX, vX], Dsk uX vX xs0 ys0, Blk w4.heap.size 26 #[uW, vW], Dsk uW vW ks ks, Blk w.heap.size 43 #[u0, v0]]) := HS.out.next b12; clear b12; have r2_0 := Blk.cell (HS.out.get 3 rfl) 0 rfl; have r2_1 := Blk.cell (HS.out.get 3 rfl) 1 rfl; have r2_2 := Blk.cell (HS.out.get 7 rfl) 0 rfl; have r2_3 := Blk.cell (HS.out.get 7 rfl) 1 rfl))
    clear r0_0 r0_1 r0_2 r0_3 r1_0 r1_1 r1_2 r1_3 r2_0 r2_1 r2_2 r2_3
    replace HS : Hid (Sta w w12 [Blk w8.heap.size 26 #[uG, vG], Dsk uG vG ks ks, Blk w6.heap.size 26 #[uX, vX], Dsk uX vX xs0 ys0, Blk w4.heap.size 26 #[uW, vW], Dsk uW vW ks ks, Blk w.heap.size 43 #[u0, v0]]) := HS.out.tail
    have p_xv_0 := Blk.cell (HS.out.get 2 rfl) 0 rfl
    have p_xv_1 := Blk.cell (HS.out.get 2 rfl) 1 rfl
    
    go_wp2_with fail
    clear p_xv_0 p_xv_1
    refine (markDisk_any _ _ xs0 ys0 1 _ 0 (HS.out.get 3 rfl) sx sy (by omega) (by omega)).mono ?_
    rintro e w13 ⟨rfl, o13, m13⟩
    replace HS : Hid (Sta w w13 [Blk w8.heap.size 26 #[uG, vG], Dsk uG vG ks ks, Blk w6.heap.size 26 #[uX, vX], Dsk uX vX (marks 1 xs0.length) (marks (1 + xs0.length) ys0.length), Blk w4.heap.size 26 #[uW, vW], Dsk uW vW ks ks, Blk w.heap.size 43 #[u0, v0]]) := HS.out.marked 3 rfl o13 m13
    clear o13 m13
    have p_gv_0 := Blk.cell (HS.out.get 0 rfl) 0 rfl
    have p_gv_1 := Blk.cell (HS.out.get 0 rfl) 1 rfl
    have p_wv_0 := Blk.cell (HS.out.get 4 rfl) 0 rfl
    have p_wv_1 := Blk.cell (HS.out.get 4 rfl) 1 rfl
    
    go_wp2_with fail
    clear p_gv_0 p_gv_1 p_wv_0 p_wv_1
    refine (eqDisk_any _ _ _ _ _ _ _ (HS.out.readsU 1 rfl) (HS.out.readsV 1 rfl) (HS.out.readsU 5 rfl) (HS.out.readsV 5 rfl) gk gk).mono ?_
    rintro e w14 ⟨rfl, b14⟩
    replace HS : Hid (Sta w w14 [Blk w8.heap.size 26 #[uG, vG], Dsk uG vG ks ks, Blk w6.heap.size 26 #[uX, vX], Dsk uX vX (marks 1 xs0.length) (marks (1 + xs0.length) ys0.length), Blk w4.heap.size 26 #[uW, vW], Dsk uW vW ks ks, Blk w.heap.size 43 #[u0, v0]]) := HS.out.next b14
    clear b14
    have p_gv_0 := Blk.cell (HS.out.get 0 rfl) 0 rfl
    have p_gv_1 := Blk.cell (HS.out.get 0 rfl) 1 rfl
    
    go_wp2_with fail
    clear p_gv_0 p_gv_1
    refine (markDisk_any _ _ ks ks 1 _ 0 (HS.out.get 1 rfl) sk sk (by omega) (by omega)).mono ?_
    rintro e w15 ⟨rfl, o15, m15⟩
    replace HS : Hid (Sta w w15 [Blk w8.heap.size 26 #[uG, vG], Dsk uG vG (marks 1 ks.length) (marks (1 + ks.length) ks.length), Blk w6.heap.size 26 #[uX, vX], Dsk uX vX (marks 1 xs0.length) (marks (1 + xs0.length) ys0.length), Blk w4.heap.size 26 #[uW, vW], Dsk uW vW ks ks, Blk w.heap.size 43 #[u0, v0]]) := HS.out.marked 1 rfl o15 m15
    clear o15 m15
    have p_gv_0 := Blk.cell (HS.out.get 0 rfl) 0 rfl
    have p_gv_1 := Blk.cell (HS.out.get 0 rfl) 1 rfl
    
    go_wp2_with fail
    clear p_gv_0 p_gv_1
    refine (heldDisk_any _ _ ks.length ks.length 1 _ (HS.out.readsU 1 rfl) (HS.out.readsV 1 rfl) sk sk (by omega) (by omega)).mono ?_
    rintro e w16 ⟨rfl, b16⟩
    replace HS : Hid (Sta w w16 [Blk w8.heap.size 26 #[uG, vG], Dsk uG vG (marks 1 ks.length) (marks (1 + ks.length) ks.length), Blk w6.heap.size 26 #[uX, vX], Dsk uX vX (marks 1 xs0.length) (marks (1 + xs0.length) ys0.length), Blk w4.heap.size 26 #[uW, vW], Dsk uW vW ks ks, Blk w.heap.size 43 #[u0, v0]]) := HS.out.next b16
    clear b16
    have p_D_0 := Blk.cell (HS.out.get 6 rfl) 0 rfl
    have p_D_1 := Blk.cell (HS.out.get 6 rfl) 1 rfl
    
    go_wp2_with fail
    clear p_D_0 p_D_1
    refine (toDisk_any _ _ xs0 ys0 _ (RX0.out.below HS.out.below (Nat.le_refl _)) (RY0.out.below HS.out.below (Nat.le_refl _)) gx gy).mono ?_
    rintro e w17 ⟨uC, vC, rfl, o17, b17⟩
    replace HS : Hid (Sta w w17 [Dsk uC vC xs0 ys0, Blk w8.heap.size 26 #[uG, vG], Dsk uG vG (marks 1 ks.length) (marks (1 + ks.length) ks.length), Blk w6.heap.size 26 #[uX, vX], Dsk uX vX (marks 1 xs0.length) (marks (1 + xs0.length) ys0.length), Blk w4.heap.size 26 #[uW, vW], Dsk uW vW ks ks, Blk w.heap.size 43 #[u0, v0]]) := HS.out.disk o17 b17
    clear o17 b17
    
    go_wp2_with fail
    refine (ci _ _ _ (HS.out.readsU 0 rfl) (HS.out.readsV 0 rfl)).mono ?_
    rintro e w18 ⟨uH, vH, rfl, o18, b18⟩
    replace HS : Hid (Sta w w18 [Dsk uH vH ks ks, Dsk uC vC xs0 ys0, Blk w8.heap.size 26 #[uG, vG], Dsk uG vG (marks 1 ks.length) (marks (1 + ks.length) ks.length), Blk w6.heap.size 26 #[uX, vX], Dsk uX vX (marks 1 xs0.length) (marks (1 + xs0.length) ys0.length), Blk w4.heap.size 26 #[uW, vW], Dsk uW vW ks ks, Blk w.heap.size 43 #[u0, v0]]) := HS.out.disk o18 b18
    clear o18 b18
    replace HS : Hid (Sta w w18 [Dsk uH vH ks ks, Blk w8.heap.size 26 #[uG, vG], Dsk uG vG (marks 1 ks.length) (marks (1 + ks.length) ks.length), Blk w6.heap.size 26 #[uX, vX], Dsk uX vX (marks 1 xs0.length) (marks (1 + xs0.length) ys0.length), Blk w4.heap.size 26 #[uW, vW], Dsk uW vW ks ks, Blk w.heap.size 43 #[u0, v0]]) := HS.out.second
    go_wp2_with (first
      | (refine wpList_putB rfl 26 _ _ rfl w18.heap.size #[uH, vH] #[.slice none 0 0, .slice none 0 0] rfl rfl (HS.out.ones 0 rfl) (heap_alloc_new _ _) Try.infoB.1 rfl ?_; intro w19 q19 g19; replace HS : Hid (Sta w w19 [Blk w18.heap.size 26 #[uH, vH], Dsk uH vH ks ks, Blk w8.heap.size 26 #[uG, vG], Dsk uG vG (marks 1 ks.length) (marks (1 + ks.length) ks.length), Blk w6.heap.size 26 #[uX, vX], Dsk uX vX (marks 1 xs0.length) (marks (1 + xs0.length) ys0.length), Blk w4.heap.size 26 #[uW, vW], Dsk uW vW ks ks, Blk w.heap.size 43 #[u0, v0]]) := HS.out.var 26 _ _ q19 g19; clear q19 g19; have p_hv_0 := Blk.cell (HS.out.get 0 rfl) 0 rfl; have p_hv_1 := Blk.cell (HS.out.get 0 rfl) 1 rfl; have p_wv_0 := Blk.cell (HS.out.get 6 rfl) 0 rfl; have p_wv_1 := Blk.cell (HS.out.get 6 rfl) 1 rfl; skip))
    clear p_hv_0 p_hv_1 p_wv_0 p_wv_1
    refine (eqDisk_any _ _ _ _ _ _ _ (HS.out.readsU 1 rfl) (HS.out.readsV 1 rfl) (HS.out.readsU 7 rfl) (HS.out.readsV 7 rfl) gk gk).mono ?_
    rintro e w20 ⟨rfl, b20⟩
    replace HS : Hid (Sta w w20 [Blk w18.heap.size 26 #[uH, vH], Dsk uH vH ks ks, Blk w8.heap.size 26 #[uG, vG], Dsk uG vG (marks 1 ks.length) (marks (1 + ks.length) ks.length), Blk w6.heap.size 26 #[uX, vX], Dsk uX vX (marks 1 xs0.length) (marks (1 + xs0.length) ys0.length), Blk w4.heap.size 26 #[uW, vW], Dsk uW vW ks ks, Blk w.heap.size 43 #[u0, v0]]) := HS.out.next b20
    clear b20
    have p_gv_0 := Blk.cell (HS.out.get 2 rfl) 0 rfl
    have p_gv_1 := Blk.cell (HS.out.get 2 rfl) 1 rfl
    
    go_wp2_with fail
    clear p_gv_0 p_gv_1
    refine (heldDisk_any _ _ ks.length ks.length 1 _ (HS.out.readsU 3 rfl) (HS.out.readsV 3 rfl) sk sk (by omega) (by omega)).mono ?_
    rintro e w21 ⟨rfl, b21⟩
    replace HS : Hid (Sta w w21 [Blk w18.heap.size 26 #[uH, vH], Dsk uH vH ks ks, Blk w8.heap.size 26 #[uG, vG], Dsk uG vG (marks 1 ks.length) (marks (1 + ks.length) ks.length), Blk w6.heap.size 26 #[uX, vX], Dsk uX vX (marks 1 xs0.length) (marks (1 + xs0.length) ys0.length), Blk w4.heap.size 26 #[uW, vW], Dsk uW vW ks ks, Blk w.heap.size 43 #[u0, v0]]) := HS.out.next b21
    clear b21
    have HB : Hid (Below w.heap.size w _) := HS.out.below
    clear HS
    go_wp2_with fail
    go_ret
    exact ⟨rfl, HB.out⟩
  · have hsz : szI 1048576 (xs0.length + ys0.length) = -1 := by simp only [szI]; rw [if_neg (by omega)]
    have b1 := belowAlloc w (.cells #[u0, v0] 43)
    have c1 := szDisk_any u0 v0 xs0 ys0 1048576 _ (RX0.below b1 (Nat.le_refl _)) (RY0.below b1 (Nat.le_refl _)) (by omega) (by omega)
    rw [hsz] at c1
    clear hsz RX0 RY0 hbig
    go_enter Try.func8, Try.ntmps8
    go_wp2_with fail
    refine c1.mono ?_
    rintro e w2 ⟨rfl, b2⟩
    replace b2 := b1.trans (b2.mono b1.size)
    clear b1 c1
    go_wp2_with fail
    go_ret
    exact ⟨rfl, b2⟩

theorem lifted (os : Os) (started : os.Started) (H : Type) (enc : TypeId × Value → H) :
    ReturnsInHanded {} Try.checked os 8 .any (Rows.fnExactFlushedSpec.pre6 enc Try.prog Try.f8 Rows.fnExactFlushedRow.domain false) (Rows.fnExactFlushedSpec.post enc Try.prog Try.f8 false true false false) := by
  refine returnsInHanded_of_change (C := Try.checked) own started (by kernel_rfl) Try.func8
    (ChangeSpec.witness6 (enc := enc) (C := Try.checked) false ⟨#[], #[.agg #[.slice none 0 0, .slice none 0 0]], []⟩ 8 (by kernel_rfl) (by kernel_rfl) (by kernel_rfl) (by kernel_rfl)) ?_
  intro W base args ds gs before hval0 hW hcnd _
  have hval : ∀ (j : Nat) t v, Try.f8.params[j]? = some t → args[j]? = some v → Value.okWide Try.prog W .any base t v := hval0
  have hW' := hW
  obtain ⟨p, q, hA0, hV, rfl, hfz, hnd⟩ := hW
  have hA : DataW.TrodAll enc Try.prog W 0 (fun _ => true) true Try.f8.params.toList args.toList ds p := hA0
  rw [Try.params8] at hA hval
  obtain ⟨v0, vs0, d0, ds0, p0, q0, hargs, rfl, rfl, h0, r0⟩ := trodAll_cons hA
  obtain ⟨rfl, rfl, rfl⟩ := trodAll_nil r0
  obtain rfl : args = #[v0] := by cases args; simp_all
  obtain ⟨rfl, rfl⟩ := trodVars_none hV
  have k0 := h0
  have lt0 : ∀ x ∈ p0, x.block < W.heap.size := by obtain ⟨m, hm⟩ := k0; exact DataW.trod_lt m _ _ _ hm
  obtain ⟨x0, y0, xs0, ys0, rfl, RX0, RY0⟩ := open_disk (hval 0 43 v0 rfl rfl) h0
  clear hA0 hval0
  refine (walk x0 y0 xs0 ys0 W RX0 RY0).mono fun e W' ⟨he, bel⟩ => ?_
  subst he
  exact ⟨_, rfl, _, _, _, [], _, [], hW', trodAll_mk1 (shut_bool Try.underlying4 _), (trodAll_cons_mk (Below.trod laidOut (by kernel_rfl) (of_decide_eq_true (by kernel_rfl)) k0 bel lt0) trodAll_mk0), rfl, bel.frame _, fun h => by cases h⟩

theorem over : Rows.fnExactFlushedRow.holds Try.pinned (OpenSpec.ofChange Rows.fnExactFlushedSpec) :=
  OpenClaim.holds_of_wide 8 Try.f8 rfl rfl rfl rfl rfl rfl rfl ⟨rfl, rfl, rfl, rfl, rfl⟩ rfl rfl rfl rfl rfl (by kernel_rfl) Try.func8 (by kernel_rfl)
    (of_decide_eq_true (by kernel_rfl)) (by unfold Func.isWrapper; first | (rw [if_pos (by decide +kernel)]; kernel_rfl) | (rw [if_neg (by decide +kernel)]; exact ⟨rfl, rfl⟩))
    (fun os started H enc _ => lifted os started H enc)

theorem proved : Rows.FnExactFlushedSaid := over
end Go.Proofs.Ythjgannjahcmiaa.fnExactFlushed
namespace Go.Proofs.Ythjgannjahcmiaa
theorem fnExactFlushed_holds : Rows.FnExactFlushedSaid := fnExactFlushed.proved
end Go.Proofs.Ythjgannjahcmiaa
