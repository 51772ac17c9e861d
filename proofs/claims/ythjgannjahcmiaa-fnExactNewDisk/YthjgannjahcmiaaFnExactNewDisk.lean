/- At every number NewDisk of the program answers as NewDisk of the model, in memory of its own that a second call leaves alone: the law FnExactNewDisk returns true, whatever it is given. -/
import Derived.Test.YthjgannjahcmiaaRows
import Derived.WalkKit
import Derived.ProofKit
import Derived.OpenShut
import Derived.ShutString
import Derived.ChangeOld
import Derived.Below
import Derived.Test.YthjgannjahcmiaaDiskSta
import Derived.Test.YthjgannjahcmiaaSDisk3
import Derived.Test.YthjgannjahcmiaaIDisk
namespace Go.Proofs.Ythjgannjahcmiaa.fnExactNewDisk
open Go.ChangeShapes Go.WideShapes Go.ChangeAt Go.RowKit
set_option linter.unusedVariables false

theorem own : ownKnob Try.prog.godebug = none := by kernel_rfl
theorem laidOut : laidOutB Try.prog = true := by kernel_rfl

set_option maxRecDepth 20000 in
set_option maxHeartbeats 2000000 in
theorem walk (a0 : Int) (w : World) (w0 : (Lit.int .i64 a0).wf = true) :
    Calls Try.prog 6 #[.int .i64 a0] w fun e w' => e = .returned (.bool true) ∧ Below w.heap.size w w' := by
  obtain ⟨ks, hk⟩ : ∃ ks, ks = zerosI a0 := ⟨_, rfl⟩
  obtain ⟨pb, hpb⟩ : ∃ pb, pb = cntOk a0 := ⟨_, rfl⟩
  have sk : ks.length ≤ 1048576 := by rw [hk]; unfold zerosI; split <;> simp <;> omega
  have gk : ks.length ≤ 1099511627776 := by omega
  have cs : ∀ w', _ := fun w' => snewDisk_any a0 w'
  have ci : ∀ w', _ := fun w' => newDisk_any a0 w'
  simp only [← hk, ← hpb] at cs ci
  have hpp : (pb != pb) = false := by simp
  clear hk hpb
  have HS : Hid (Sta w w []) := Sta.start w
  go_enter Try.func6, Try.ntmps6
  
  go_wp2_with fail
  refine (cs _).mono ?_
  rintro e w1 ⟨uW, vW, rfl, o1, b1⟩
  replace HS : Hid (Sta w w1 [Dsk uW vW ks ks]) := HS.out.disk o1 b1
  clear o1 b1
  go_wp2_with (first
    | (refine wpList_putB rfl 26 _ _ rfl w1.heap.size #[uW, vW] #[.slice none 0 0, .slice none 0 0] rfl rfl (HS.out.ones 0 rfl) (heap_alloc_new _ _) Try.infoB.1 rfl ?_; intro w2 q2 g2; replace HS : Hid (Sta w w2 [Blk w1.heap.size 26 #[uW, vW], Dsk uW vW ks ks]) := HS.out.var 26 _ _ q2 g2; clear q2 g2; skip))
  refine (ci _).mono ?_
  rintro e w3 ⟨uG, vG, rfl, o3, b3⟩
  replace HS : Hid (Sta w w3 [Dsk uG vG ks ks, Blk w1.heap.size 26 #[uW, vW], Dsk uW vW ks ks]) := HS.out.disk o3 b3
  clear o3 b3
  go_wp2_with (first
    | (refine wpList_putB rfl 26 _ _ rfl w3.heap.size #[uG, vG] #[.slice none 0 0, .slice none 0 0] rfl rfl (HS.out.ones 0 rfl) (heap_alloc_new _ _) Try.infoB.1 rfl ?_; intro w4 q4 g4; replace HS : Hid (Sta w w4 [Blk w3.heap.size 26 #[uG, vG], Dsk uG vG ks ks, Blk w1.heap.size 26 #[uW, vW], Dsk uW vW ks ks]) := HS.out.var 26 _ _ q4 g4; clear q4 g4; have p_gv_0 := Blk.cell (HS.out.get 0 rfl) 0 rfl; have p_gv_1 := Blk.cell (HS.out.get 0 rfl) 1 rfl; have p_wv_0 := Blk.cell (HS.out.get 2 rfl) 0 rfl; have p_wv_1 := Blk.cell (HS.out.get 2 rfl) 1 rfl; skip))
  clear p_gv_0 p_gv_1 p_wv_0 p_wv_1
  refine (eqDisk_any _ _ _ _ _ _ _ (HS.out.readsU 1 rfl) (HS.out.readsV 1 rfl) (HS.out.readsU 3 rfl) (HS.out.readsV 3 rfl) gk gk).mono ?_
  rintro e w5 ⟨rfl, b5⟩
  replace HS : Hid (Sta w w5 [Blk w3.heap.size 26 #[uG, vG], Dsk uG vG ks ks, Blk w1.heap.size 26 #[uW, vW], Dsk uW vW ks ks]) := HS.out.next b5
  clear b5
  have p_gv_0 := Blk.cell (HS.out.get 0 rfl) 0 rfl
  have p_gv_1 := Blk.cell (HS.out.get 0 rfl) 1 rfl
  
  go_wp2_with fail
  clear p_gv_0 p_gv_1
  refine (markDisk_any _ _ ks ks 1 _ 0 (HS.out.get 1 rfl) sk sk (by omega) (by omega)).mono ?_
  rintro e w6 ⟨rfl, o6, m6⟩
  replace HS : Hid (Sta w w6 [Blk w3.heap.size 26 #[uG, vG], Dsk uG vG (marks 1 ks.length) (marks (1 + ks.length) ks.length), Blk w1.heap.size 26 #[uW, vW], Dsk uW vW ks ks]) := HS.out.marked 1 rfl o6 m6
  clear o6 m6
  have p_gv_0 := Blk.cell (HS.out.get 0 rfl) 0 rfl
  have p_gv_1 := Blk.cell (HS.out.get 0 rfl) 1 rfl
  
  go_wp2_with fail
  clear p_gv_0 p_gv_1
  refine (heldDisk_any _ _ ks.length ks.length 1 _ (HS.out.readsU 1 rfl) (HS.out.readsV 1 rfl) sk sk (by omega) (by omega)).mono ?_
  rintro e w7 ⟨rfl, b7⟩
  replace HS : Hid (Sta w w7 [Blk w3.heap.size 26 #[uG, vG], Dsk uG vG (marks 1 ks.length) (marks (1 + ks.length) ks.length), Blk w1.heap.size 26 #[uW, vW], Dsk uW vW ks ks]) := HS.out.next b7
  clear b7
  
  go_wp2_with fail
  refine (ci _).mono ?_
  rintro e w8 ⟨uH, vH, rfl, o8, b8⟩
  replace HS : Hid (Sta w w8 [Dsk uH vH ks ks, Blk w3.heap.size 26 #[uG, vG], Dsk uG vG (marks 1 ks.length) (marks (1 + ks.length) ks.length), Blk w1.heap.size 26 #[uW, vW], Dsk uW vW ks ks]) := HS.out.disk o8 b8
  clear o8 b8
  go_wp2_with (first
    | (refine wpList_putB rfl 26 _ _ rfl w8.heap.size #[uH, vH] #[.slice none 0 0, .slice none 0 0] rfl rfl (HS.out.ones 0 rfl) (heap_alloc_new _ _) Try.infoB.1 rfl ?_; intro w9 q9 g9; replace HS : Hid (Sta w w9 [Blk w8.heap.size 26 #[uH, vH], Dsk uH vH ks ks, Blk w3.heap.size 26 #[uG, vG], Dsk uG vG (marks 1 ks.length) (marks (1 + ks.length) ks.length), Blk w1.heap.size 26 #[uW, vW], Dsk uW vW ks ks]) := HS.out.var 26 _ _ q9 g9; clear q9 g9; have p_hv_0 := Blk.cell (HS.out.get 0 rfl) 0 rfl; have p_hv_1 := Blk.cell (HS.out.get 0 rfl) 1 rfl; have p_wv_0 := Blk.cell (HS.out.get 4 rfl) 0 rfl; have p_wv_1 := Blk.cell (HS.out.get 4 rfl) 1 rfl; skip))
  clear p_hv_0 p_hv_1 p_wv_0 p_wv_1
  refine (eqDisk_any _ _ _ _ _ _ _ (HS.out.readsU 1 rfl) (HS.out.readsV 1 rfl) (HS.out.readsU 5 rfl) (HS.out.readsV 5 rfl) gk gk).mono ?_
  rintro e w10 ⟨rfl, b10⟩
  replace HS : Hid (Sta w w10 [Blk w8.heap.size 26 #[uH, vH], Dsk uH vH ks ks, Blk w3.heap.size 26 #[uG, vG], Dsk uG vG (marks 1 ks.length) (marks (1 + ks.length) ks.length), Blk w1.heap.size 26 #[uW, vW], Dsk uW vW ks ks]) := HS.out.next b10
  clear b10
  have p_gv_0 := Blk.cell (HS.out.get 2 rfl) 0 rfl
  have p_gv_1 := Blk.cell (HS.out.get 2 rfl) 1 rfl
  
  go_wp2_with fail
  clear p_gv_0 p_gv_1
  refine (heldDisk_any _ _ ks.length ks.length 1 _ (HS.out.readsU 3 rfl) (HS.out.readsV 3 rfl) sk sk (by omega) (by omega)).mono ?_
  rintro e w11 ⟨rfl, b11⟩
  replace HS : Hid (Sta w w11 [Blk w8.heap.size 26 #[uH, vH], Dsk uH vH ks ks, Blk w3.heap.size 26 #[uG, vG], Dsk uG vG (marks 1 ks.length) (marks (1 + ks.length) ks.length), Blk w1.heap.size 26 #[uW, vW], Dsk uW vW ks ks]) := HS.out.next b11
  clear b11
  have HB : Hid (Below w.heap.size w _) := HS.out.below
  clear HS
  go_wp2_with fail
  go_ret
  exact ⟨rfl, HB.out⟩

theorem lifted (os : Os) (started : os.Started) (H : Type) (enc : TypeId × Value → H) :
    ReturnsInHanded {} Try.checked os 6 .any (Rows.fnExactNewDiskSpec.pre6 enc Try.prog Try.f6 Rows.fnExactNewDiskRow.domain false) (Rows.fnExactNewDiskSpec.post enc Try.prog Try.f6 false true false false) := by
  refine returnsInHanded_of_change (C := Try.checked) own started (by kernel_rfl) Try.func6
    (ChangeSpec.witness6 (enc := enc) (C := Try.checked) false ⟨#[], #[.int .i64 0], []⟩ 8 (by kernel_rfl) (by kernel_rfl) (by kernel_rfl) (by kernel_rfl)) ?_
  intro W base args ds gs before hval0 hW hcnd _
  have hval : ∀ (j : Nat) t v, Try.f6.params[j]? = some t → args[j]? = some v → Value.okWide Try.prog W .any base t v := hval0
  have hW' := hW
  obtain ⟨p, q, hA0, hV, rfl, hfz, hnd⟩ := hW
  have hA : DataW.TrodAll enc Try.prog W 0 (fun _ => true) true Try.f6.params.toList args.toList ds p := hA0
  rw [Try.params6] at hA hval
  obtain ⟨v0, vs0, d0, ds0, p0, q0, hargs, rfl, rfl, h0, r0⟩ := trodAll_cons hA
  obtain ⟨rfl, rfl, rfl⟩ := trodAll_nil r0
  obtain rfl : args = #[v0] := by cases args; simp_all
  obtain ⟨rfl, rfl⟩ := trodVars_none hV
  obtain ⟨a0, rfl, rfl, rfl, w0⟩ := open_int Try.underlying2 (hval 0 2 v0 rfl rfl) h0
  clear hA0 hval0
  refine (walk a0 W w0).mono fun e W' ⟨he, bel⟩ => ?_
  subst he
  exact ⟨_, rfl, _, _, _, [], _, [], hW', trodAll_mk1 (shut_bool Try.underlying4 _), (trodAll_cons_mk (shut_int Try.underlying2 w0) trodAll_mk0), rfl, bel.frame _, fun h => by cases h⟩

theorem over : Rows.fnExactNewDiskRow.holds Try.pinned (OpenSpec.ofChange Rows.fnExactNewDiskSpec) :=
  OpenClaim.holds_of_wide 6 Try.f6 rfl rfl rfl rfl rfl rfl rfl ⟨rfl, rfl, rfl, rfl, rfl⟩ rfl rfl rfl rfl rfl (by kernel_rfl) Try.func6 (by kernel_rfl)
    (of_decide_eq_true (by kernel_rfl)) (by unfold Func.isWrapper; first | (rw [if_pos (by decide +kernel)]; kernel_rfl) | (rw [if_neg (by decide +kernel)]; exact ⟨rfl, rfl⟩))
    (fun os started H enc _ => lifted os started H enc)

theorem proved : Rows.FnExactNewDiskSaid := over
end Go.Proofs.Ythjgannjahcmiaa.fnExactNewDisk
namespace Go.Proofs.Ythjgannjahcmiaa
theorem fnExactNewDisk_holds : Rows.FnExactNewDiskSaid := fnExactNewDisk.proved
end Go.Proofs.Ythjgannjahcmiaa
