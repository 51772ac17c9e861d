/- At every disk Loose of the program answers as Loose of the model, and leaves what it was given as it was: the law FnExactLoose returns true, whatever it is given. -/
import Derived.Test.YthjgannjahcmiaaRows
import Derived.WalkKit
import Derived.ProofKit
import Derived.OpenShut
import Derived.ShutString
import Derived.ChangeOld
import Derived.Below
import Derived.Test.YthjgannjahcmiaaOpen
import Derived.Test.YthjgannjahcmiaaDiskSta
import Derived.Test.YthjgannjahcmiaaSDisk2
import Derived.Test.YthjgannjahcmiaaIDisk
namespace Go.Proofs.Ythjgannjahcmiaa.fnExactLoose
open Go.ChangeShapes Go.WideShapes Go.ChangeAt Go.RowKit
set_option linter.unusedVariables false

theorem own : ownKnob Try.prog.godebug = none := by kernel_rfl
theorem laidOut : laidOutB Try.prog = true := by kernel_rfl

set_option maxRecDepth 20000 in
set_option maxHeartbeats 2000000 in
theorem walk (u0 v0 : Value) (xs0 ys0 : List Int) (w : World) (RX0 : Reads w u0 xs0) (RY0 : Reads w v0 ys0) :
    Calls Try.prog 9 #[.agg #[u0, v0]] w fun e w' => e = .returned (.bool true) ∧ Below w.heap.size w w' := by
  by_cases hbig : (xs0.length + ys0.length : Int) ≤ 1048576
  · skip
    have gx : xs0.length ≤ 1099511627776 := by omega
    have gy : ys0.length ≤ 1099511627776 := by omega
    have sx : xs0.length ≤ 1048576 := by omega
    have sy : ys0.length ≤ 1048576 := by omega
    have hsz : szI 1048576 (xs0.length + ys0.length) = 1048576 - (xs0.length + ys0.length : Nat) := by simp only [szI]; rw [if_pos (by omega)]
    obtain ⟨w1, hw1⟩ : ∃ w1, w1 = w.alloc (.cells #[u0, v0] 43) := ⟨_, rfl⟩
    have HS : Hid (Sta w w1 [Blk w.heap.size 43 #[u0, v0]]) := by rw [hw1]; exact (Sta.start w).box _ _
    have c1 := szDisk_any u0 v0 xs0 ys0 1048576 w1 (RX0.below HS.out.below (Nat.le_refl _)) (RY0.below HS.out.below (Nat.le_refl _)) (by omega) (by omega)
    rw [hsz] at c1
    replace RX0 : Hid (Reads w u0 xs0) := RX0
    replace RY0 : Hid (Reads w v0 ys0) := RY0
    clear hsz
    go_enter Try.func9, Try.ntmps9
    go_wp2_with fail
    rw [← hw1]
    clear hw1
    refine (c1).mono ?_
    rintro e w2 ⟨rfl, b2⟩
    replace HS : Hid (Sta w w2 [Blk w.heap.size 43 #[u0, v0]]) := HS.out.next b2
    clear b2
    clear c1
    obtain ⟨d, hd⟩ : ∃ d, d = differI xs0 ys0 := ⟨_, rfl⟩
    have cs : ∀ u v w', Reads w' u xs0 → Reads w' v ys0 → _ := fun u v w' h h' => sloose_any u v xs0 ys0 w' h h' gx gy
    have ci : ∀ u v w', Reads w' u xs0 → Reads w' v ys0 → _ := fun u v w' h h' => loose_any u v xs0 ys0 w' h h' gx gy
    simp only [← hd] at cs ci
    clear hd
    have hdd : (d != d) = false := by simp
    have p_D_0 := Blk.cell (HS.out.get 0 rfl) 0 rfl
    have p_D_1 := Blk.cell (HS.out.get 0 rfl) 1 rfl
    
    go_wp2_with fail
    clear p_D_0 p_D_1
    refine (toDisk_any _ _ xs0 ys0 _ (RX0.out.below HS.out.below (Nat.le_refl _)) (RY0.out.below HS.out.below (Nat.le_refl _)) gx gy).mono ?_
    rintro e w3 ⟨uA, vA, rfl, o3, b3⟩
    replace HS : Hid (Sta w w3 [Dsk uA vA xs0 ys0, Blk w.heap.size 43 #[u0, v0]]) := HS.out.disk o3 b3
    clear o3 b3
    
    go_wp2_with fail
    refine (cs _ _ _ (HS.out.readsU 0 rfl) (HS.out.readsV 0 rfl)).mono ?_
    rintro e w4 ⟨rfl, b4⟩
    replace HS : Hid (Sta w w4 [Dsk uA vA xs0 ys0, Blk w.heap.size 43 #[u0, v0]]) := HS.out.next b4
    clear b4
    replace HS : Hid (Sta w w4 [Blk w.heap.size 43 #[u0, v0]]) := HS.out.tail
    have p_D_0 := Blk.cell (HS.out.get 0 rfl) 0 rfl
    have p_D_1 := Blk.cell (HS.out.get 0 rfl) 1 rfl
    
    go_wp2_with fail
    clear p_D_0 p_D_1
    refine (toDisk_any _ _ xs0 ys0 _ (RX0.out.below HS.out.below (Nat.le_refl _)) (RY0.out.below HS.out.below (Nat.le_refl _)) gx gy).mono ?_
    rintro e w5 ⟨uX, vX, rfl, o5, b5⟩
    replace HS : Hid (Sta w w5 [Dsk uX vX xs0 ys0, Blk w.heap.size 43 #[u0, v0]]) := HS.out.disk o5 b5
    clear o5 b5
    go_wp2_with (first
      | (refine wpList_putB rfl 26 _ _ rfl w5.heap.size #[uX, vX] #[.slice none 0 0, .slice none 0 0] rfl rfl (HS.out.ones 0 rfl) (heap_alloc_new _ _) Try.infoB.1 rfl ?_; intro w6 q6 g6; replace HS : Hid (Sta w w6 [Blk w5.heap.size 26 #[uX, vX], Dsk uX vX xs0 ys0, Blk w.heap.size 43 #[u0, v0]]) := HS.out.var 26 _ _ q6 g6; clear q6 g6; have p_xv_0 := Blk.cell (HS.out.get 0 rfl) 0 rfl; have p_xv_1 := Blk.cell (HS.out.get 0 rfl) 1 rfl; skip))
    clear p_xv_0 p_xv_1
    refine (ci _ _ _ (HS.out.readsU 1 rfl) (HS.out.readsV 1 rfl)).mono ?_
    rintro e w7 ⟨rfl, b7⟩
    replace HS : Hid (Sta w w7 [Blk w5.heap.size 26 #[uX, vX], Dsk uX vX xs0 ys0, Blk w.heap.size 43 #[u0, v0]]) := HS.out.next b7
    clear b7
    
    go_wp2_with fail
    replace HS := HS.out.drew1
    replace HS : Hid _ := HS
    have r0_0 := Blk.cell (HS.out.get 0 rfl) 0 rfl
    have r0_1 := Blk.cell (HS.out.get 0 rfl) 1 rfl
    have r0_2 := Blk.cell (HS.out.get 2 rfl) 0 rfl
    have r0_3 := Blk.cell (HS.out.get 2 rfl) 1 rfl
    go_region_held3 (fun w' => w'.cell? ⟨w5.heap.size, 0, none⟩ = some uX ∧ w'.cell? ⟨w5.heap.size, 1, none⟩ = some vX ∧ w'.cell? ⟨w.heap.size, 0, none⟩ = some u0 ∧ w'.cell? ⟨w.heap.size, 1, none⟩ = some v0) (refine ⟨?_, ?_, ?_, ?_⟩ <;> assumption)
      (first
        | (go_at_call 32; refine (toDisk_any _ _ xs0 ys0 _ (RX0.out.below HS.out.below (Nat.le_refl _)) (RY0.out.below HS.out.below (Nat.le_refl _)) gx gy).mono ?_; rintro e w8 ⟨uE_, vE_, rfl, o8, b8⟩; replace HS : Hid (Sta w w8 [Dsk uE_ vE_ xs0 ys0, Blk w5.heap.size 26 #[uX, vX], Dsk uX vX xs0 ys0, Blk w.heap.size 43 #[u0, v0]]) := HS.out.disk o8 b8; clear o8 b8; have r1_0 := Blk.cell (HS.out.get 1 rfl) 0 rfl; have r1_1 := Blk.cell (HS.out.get 1 rfl) 1 rfl; have r1_2 := Blk.cell (HS.out.get 3 rfl) 0 rfl; have r1_3 := Blk.cell (HS.out.get 3 rfl) 1 rfl)
        | (go_at_call 33; refine (eqDisk_any _ _ _ _ _ _ _ (HS.out.readsU 2 rfl) (HS.out.readsV 2 rfl) (HS.out.readsU 0 rfl) (HS.out.readsV 0 rfl) gx gy).mono ?_; rintro e w9 ⟨rfl, b9⟩; replace HS : Hid (Sta w w9 [Dsk uE_ vE_ xs0 ys0, Blk w5.heap.size 26 #[uX, vX], Dsk uX vX xs0 ys0, Blk w.heap.size 43 #[u0, v0]]) := HS.out.next b9; clear b9; have r2_0 := Blk.cell (HS.out.get 1 rfl) 0 rfl; have r2_1 := Blk.cell (HS.out.get 1 rfl) 1 rfl; have r2_2 := Blk.cell (HS.out.get 3 rfl) 0 rfl; have r2_3 := Blk.cell (HS.out.get 3 rfl) 1 rfl))
    clear r0_0 r0_1 r0_2 r0_3 r1_0 r1_1 r1_2 r1_3 r2_0 r2_1 r2_2 r2_3
    replace HS : Hid (Sta w w9 [Blk w5.heap.size 26 #[uX, vX], Dsk uX vX xs0 ys0, Blk w.heap.size 43 #[u0, v0]]) := HS.out.tail
    have HB : Hid (Below w.heap.size w _) := HS.out.below
    clear HS
    go_wp2_with fail
    go_ret
    exact ⟨rfl, HB.out⟩
  · have hsz : szI 1048576 (xs0.length + ys0.length) = -1 := by simp only [szI]; rw [if_neg (by omega)]
    have b1 := belowAlloc w (.cells #[u0, v0] 43)
    have c1 := szDisk_any u0 v0 xs0 ys0 1048576 _ (RX0.below b1 (Nat.le_refl _)) (RY0.below b1 (Nat.le_refl _)) (by omega) (by omega)
    rw [hsz] at c1
    clear hsz RX0 RY0 hbig
    go_enter Try.func9, Try.ntmps9
    go_wp2_with fail
    refine c1.mono ?_
    rintro e w2 ⟨rfl, b2⟩
    replace b2 := b1.trans (b2.mono b1.size)
    clear b1 c1
    go_wp2_with fail
    go_ret
    exact ⟨rfl, b2⟩

theorem lifted (os : Os) (started : os.Started) (H : Type) (enc : TypeId × Value → H) :
    ReturnsInHanded {} Try.checked os 9 .any (Rows.fnExactLooseSpec.pre6 enc Try.prog Try.f9 Rows.fnExactLooseRow.domain false) (Rows.fnExactLooseSpec.post enc Try.prog Try.f9 false true false false) := by
  refine returnsInHanded_of_change (C := Try.checked) own started (by kernel_rfl) Try.func9
    (ChangeSpec.witness6 (enc := enc) (C := Try.checked) false ⟨#[], #[.agg #[.slice none 0 0, .slice none 0 0]], []⟩ 8 (by kernel_rfl) (by kernel_rfl) (by kernel_rfl) (by kernel_rfl)) ?_
  intro W base args ds gs before hval0 hW hcnd _
  have hval : ∀ (j : Nat) t v, Try.f9.params[j]? = some t → args[j]? = some v → Value.okWide Try.prog W .any base t v := hval0
  have hW' := hW
  obtain ⟨p, q, hA0, hV, rfl, hfz, hnd⟩ := hW
  have hA : DataW.TrodAll enc Try.prog W 0 (fun _ => true) true Try.f9.params.toList args.toList ds p := hA0
  rw [Try.params9] at hA hval
  obtain ⟨v0, vs0, d0, ds0, p0, q0, hargs, rfl, rfl, h0, r0⟩ := trodAll_cons hA
  obtain ⟨rfl, rfl, rfl⟩ := trodAll_nil r0
  obtain rfl : args = #[v0] := by cases args; simp_all
  obtain ⟨rfl, rfl⟩ := trodVars_none hV
  have k0 := h0
  have lt0 : ∀ x ∈ p0, x.block < W.heap.size := by obtain ⟨m, hm⟩ := k0; exact DataW.trod_lt m _ _ _ hm
  obtain ⟨x0, y0, xs0, ys0, rfl, RX0, RY0⟩ := open_disk (hval 0 43 v0 rfl rfl) h0
  clear hA0 hval0
  refine (walk x0 y0 xs0 ys0 W RX0 RY0).mono fun e W' ⟨he, bel⟩ => ?_
  subst he
  exact ⟨_, rfl, _, _, _, [], _, [], hW', trodAll_mk1 (shut_bool Try.underlying4 _), (trodAll_cons_mk (Below.trod laidOut (by kernel_rfl) (of_decide_eq_true (by kernel_rfl)) k0 bel lt0) trodAll_mk0), rfl, bel.frame _, fun h => by cases h⟩

theorem over : Rows.fnExactLooseRow.holds Try.pinned (OpenSpec.ofChange Rows.fnExactLooseSpec) :=
  OpenClaim.holds_of_wide 9 Try.f9 rfl rfl rfl rfl rfl rfl rfl ⟨rfl, rfl, rfl, rfl, rfl⟩ rfl rfl rfl rfl rfl (by kernel_rfl) Try.func9 (by kernel_rfl)
    (of_decide_eq_true (by kernel_rfl)) (by unfold Func.isWrapper; first | (rw [if_pos (by decide +kernel)]; kernel_rfl) | (rw [if_neg (by decide +kernel)]; exact ⟨rfl, rfl⟩))
    (fun os started H enc _ => lifted os started H enc)

theorem proved : Rows.FnExactLooseSaid := over
end Go.Proofs.Ythjgannjahcmiaa.fnExactLoose
namespace Go.Proofs.Ythjgannjahcmiaa
theorem fnExactLoose_holds : Rows.FnExactLooseSaid := fnExactLoose.proved
end Go.Proofs.Ythjgannjahcmiaa
