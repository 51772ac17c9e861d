/- At every text ReadHolding of the program answers as ReadHolding of the model, every field, in memory of its own that a second call leaves alone: the law FnExactReadHolding returns true, whatever it is given. -/
import Derived.Test.YtifffiekibdgnaaDoorRows
import Derived.WalkKit
import Derived.ProofKit
import Derived.OpenShut
import Derived.ShutString
import Derived.ChangeOld
import Derived.Below
import Derived.Test.YtifffiekibdgnaaDoorOpenHold
import Derived.Test.YtifffiekibdgnaaDoorHoldSta
import Derived.Test.YtifffiekibdgnaaDoorSTold3
import Derived.Test.YtifffiekibdgnaaDoorIReadH
import Derived.Test.YtifffiekibdgnaaDoorTabsE
import Derived.Test.YtifffiekibdgnaaDoorCards
import Derived.Test.YtifffiekibdgnaaDoorTie
import Derived.SevenTiedAt
import Derived.Lay
import Derived.LaidOnce
import Derived.Test.YtifffiekibdgnaaDoorTabs
namespace Go.Proofs.YtifffiekibdgnaaDoor.fnExactReadHolding
open Go.ChangeShapes Go.WideShapes Go.ChangeAt Go.RowKit
open Go.ChangeMaps (open_string shut_string)
set_option linter.unusedVariables false

theorem own : ownKnob Tryd.prog.godebug = none := by kernel_rfl
theorem laidOut : laidOutB Tryd.prog = true := by kernel_rfl

set_option maxRecDepth 20000 in
set_option maxHeartbeats 2000000 in
theorem walk (a0 : ByteArray) (w : World) (w0 : a0.size ≤ maxLen) (hT : TabE w) :
    Calls Tryd.prog 6 #[.string a0] w fun e w' => e = .returned (.bool true) ∧ Below w.heap.size w w' := by
  have HP : Hid (TabE w) := hT
  clear hT
  obtain ⟨l, rfl⟩ : ∃ l : Bs, a0 = ⟨l.toArray⟩ := ⟨a0.data.toList, by simp⟩
  have hsz : (⟨l.toArray⟩ : ByteArray).size = l.length := rfl
  rw [hsz] at w0
  unfold maxLen at w0
  by_cases hl : l.length ≤ 1048576
  · skip
    have cs := sreadH_any l w hl
    have ci : ∀ w', TabE w' → _ := fun w' t => ireadH_any l w' hl t
    have hzl : (readD l).ks.length ≤ 4 := readD_len l
    obtain ⟨z, hz⟩ : ∃ z, z = readD l := ⟨_, rfl⟩
    obtain ⟨t, ht⟩ : ∃ t, t = readY l := ⟨_, rfl⟩
    rw [← hz] at hzl cs
    rw [← ht] at cs
    simp only [← hz, ← ht] at ci
    clear hz ht
    have sz : z.ks.length ≤ 1048576 := by omega
    have gz : z.ks.length ≤ 1099511627776 := by omega
    have htt : (t != t) = false := by simp
    unfold S HV hdA at cs ci
    have HS : Hid (Sta w w []) := Sta.start w
    go_enter Tryd.func6, Tryd.ntmps6
    go_wp2_with fail
    refine (cs).mono ?_
    rintro e w1 ⟨uW, rfl, o1, b1⟩
    replace HS : Hid (Sta w w1 [Lst uW z.ks]) := HS.out.list o1 b1
    clear o1 b1
    clear cs
    go_wp2_with (first | (refine wpList_putB rfl 27 _ _ rfl w1.heap.size (hdA uW z) zeroHd rfl rfl (HS.out.oneH 0 rfl z) (heap_alloc_new _ _) Tryd.isH.2 rfl ?_; intro w2 q2 g2; replace HS : Hid (Sta w w2 [Blk w1.heap.size 27 (hdA uW z), Lst uW z.ks]) := HS.out.var 27 _ _ q2 g2; clear q2 g2; skip))
    refine (ci _ (HP.out.below HS.out.below)).mono ?_
    rintro e w3 ⟨uG, rfl, o3, b3⟩
    replace HS : Hid (Sta w w3 [Lst uG z.ks, Blk w1.heap.size 27 (hdA uW z), Lst uW z.ks]) := HS.out.list o3 b3
    clear o3 b3
    go_wp2_with (first | (refine wpList_putB rfl 27 _ _ rfl w3.heap.size (hdA uG z) zeroHd rfl rfl (HS.out.oneH 0 rfl z) (heap_alloc_new _ _) Tryd.isH.2 rfl ?_; intro w4 q4 g4; replace HS : Hid (Sta w w4 [Blk w3.heap.size 27 (hdA uG z), Lst uG z.ks, Blk w1.heap.size 27 (hdA uW z), Lst uW z.ks]) := HS.out.var 27 _ _ q4 g4; clear q4 g4; have p_gv_0 : w4.cell? ⟨w3.heap.size, 0, none⟩ = some uG := Blk.cell (HS.out.get 0 rfl) 0 rfl; have p_gv_1 : w4.cell? ⟨w3.heap.size, 1, none⟩ = some (.int .i64 z.kd) := Blk.cell (HS.out.get 0 rfl) 1 rfl; have p_gv_2 : w4.cell? ⟨w3.heap.size, 2, none⟩ = some (.int .i64 z.ho) := Blk.cell (HS.out.get 0 rfl) 2 rfl; have p_gv_3 : w4.cell? ⟨w3.heap.size, 3, none⟩ = some (.int .i64 z.tu) := Blk.cell (HS.out.get 0 rfl) 3 rfl; have p_wv_0 : w4.cell? ⟨w1.heap.size, 0, none⟩ = some uW := Blk.cell (HS.out.get 2 rfl) 0 rfl; have p_wv_1 : w4.cell? ⟨w1.heap.size, 1, none⟩ = some (.int .i64 z.kd) := Blk.cell (HS.out.get 2 rfl) 1 rfl; have p_wv_2 : w4.cell? ⟨w1.heap.size, 2, none⟩ = some (.int .i64 z.ho) := Blk.cell (HS.out.get 2 rfl) 2 rfl; have p_wv_3 : w4.cell? ⟨w1.heap.size, 3, none⟩ = some (.int .i64 z.tu) := Blk.cell (HS.out.get 2 rfl) 3 rfl; skip))
    clear p_gv_0 p_gv_1 p_gv_2 p_gv_3 p_wv_0 p_wv_1 p_wv_2 p_wv_3
    refine (eqHolding_any _ _ z _ (HS.out.reads 1 rfl) (HS.out.reads 3 rfl) gz).mono ?_
    rintro e w5 ⟨rfl, b5⟩
    replace HS : Hid (Sta w w5 [Blk w3.heap.size 27 (hdA uG z), Lst uG z.ks, Blk w1.heap.size 27 (hdA uW z), Lst uW z.ks]) := HS.out.next b5
    clear b5
    have p_gv_0 : w5.cell? ⟨w3.heap.size, 0, none⟩ = some uG := Blk.cell (HS.out.get 0 rfl) 0 rfl
    have p_gv_1 : w5.cell? ⟨w3.heap.size, 1, none⟩ = some (.int .i64 z.kd) := Blk.cell (HS.out.get 0 rfl) 1 rfl
    have p_gv_2 : w5.cell? ⟨w3.heap.size, 2, none⟩ = some (.int .i64 z.ho) := Blk.cell (HS.out.get 0 rfl) 2 rfl
    have p_gv_3 : w5.cell? ⟨w3.heap.size, 3, none⟩ = some (.int .i64 z.tu) := Blk.cell (HS.out.get 0 rfl) 3 rfl
    go_wp2_with fail
    clear p_gv_0 p_gv_1 p_gv_2 p_gv_3
    refine (markHolding_any _ z 1 _ 0 (HS.out.get 1 rfl) sz (by omega) (by omega)).mono ?_
    rintro e w6 ⟨rfl, o6, m6⟩
    replace HS : Hid (Sta w w6 [Blk w3.heap.size 27 (hdA uG z), Lst uG (marks 1 z.ks.length), Blk w1.heap.size 27 (hdA uW z), Lst uW z.ks]) := HS.out.mark 1 rfl o6 m6
    clear o6 m6
    have p_gv_0 : w6.cell? ⟨w3.heap.size, 0, none⟩ = some uG := Blk.cell (HS.out.get 0 rfl) 0 rfl
    have p_gv_1 : w6.cell? ⟨w3.heap.size, 1, none⟩ = some (.int .i64 z.kd) := Blk.cell (HS.out.get 0 rfl) 1 rfl
    have p_gv_2 : w6.cell? ⟨w3.heap.size, 2, none⟩ = some (.int .i64 z.ho) := Blk.cell (HS.out.get 0 rfl) 2 rfl
    have p_gv_3 : w6.cell? ⟨w3.heap.size, 3, none⟩ = some (.int .i64 z.tu) := Blk.cell (HS.out.get 0 rfl) 3 rfl
    go_wp2_with fail
    clear p_gv_0 p_gv_1 p_gv_2 p_gv_3
    refine (heldHolding_any _ z z.ks.length 1 _ rfl (HS.out.reads 1 rfl) sz (by omega) (by omega)).mono ?_
    rintro e w7 ⟨rfl, b7⟩
    replace HS : Hid (Sta w w7 [Blk w3.heap.size 27 (hdA uG z), Lst uG (marks 1 z.ks.length), Blk w1.heap.size 27 (hdA uW z), Lst uW z.ks]) := HS.out.next b7
    clear b7
    go_wp2_with fail
    refine (ci _ (HP.out.below HS.out.below)).mono ?_
    rintro e w8 ⟨uH, rfl, o8, b8⟩
    replace HS : Hid (Sta w w8 [Lst uH z.ks, Blk w3.heap.size 27 (hdA uG z), Lst uG (marks 1 z.ks.length), Blk w1.heap.size 27 (hdA uW z), Lst uW z.ks]) := HS.out.list o8 b8
    clear o8 b8
    go_wp2_with (first | (refine wpList_putB rfl 27 _ _ rfl w8.heap.size (hdA uH z) zeroHd rfl rfl (HS.out.oneH 0 rfl z) (heap_alloc_new _ _) Tryd.isH.2 rfl ?_; intro w9 q9 g9; replace HS : Hid (Sta w w9 [Blk w8.heap.size 27 (hdA uH z), Lst uH z.ks, Blk w3.heap.size 27 (hdA uG z), Lst uG (marks 1 z.ks.length), Blk w1.heap.size 27 (hdA uW z), Lst uW z.ks]) := HS.out.var 27 _ _ q9 g9; clear q9 g9; have p_hv_0 : w9.cell? ⟨w8.heap.size, 0, none⟩ = some uH := Blk.cell (HS.out.get 0 rfl) 0 rfl; have p_hv_1 : w9.cell? ⟨w8.heap.size, 1, none⟩ = some (.int .i64 z.kd) := Blk.cell (HS.out.get 0 rfl) 1 rfl; have p_hv_2 : w9.cell? ⟨w8.heap.size, 2, none⟩ = some (.int .i64 z.ho) := Blk.cell (HS.out.get 0 rfl) 2 rfl; have p_hv_3 : w9.cell? ⟨w8.heap.size, 3, none⟩ = some (.int .i64 z.tu) := Blk.cell (HS.out.get 0 rfl) 3 rfl; have p_wv_0 : w9.cell? ⟨w1.heap.size, 0, none⟩ = some uW := Blk.cell (HS.out.get 4 rfl) 0 rfl; have p_wv_1 : w9.cell? ⟨w1.heap.size, 1, none⟩ = some (.int .i64 z.kd) := Blk.cell (HS.out.get 4 rfl) 1 rfl; have p_wv_2 : w9.cell? ⟨w1.heap.size, 2, none⟩ = some (.int .i64 z.ho) := Blk.cell (HS.out.get 4 rfl) 2 rfl; have p_wv_3 : w9.cell? ⟨w1.heap.size, 3, none⟩ = some (.int .i64 z.tu) := Blk.cell (HS.out.get 4 rfl) 3 rfl; skip))
    clear p_hv_0 p_hv_1 p_hv_2 p_hv_3 p_wv_0 p_wv_1 p_wv_2 p_wv_3
    refine (eqHolding_any _ _ z _ (HS.out.reads 1 rfl) (HS.out.reads 5 rfl) gz).mono ?_
    rintro e w10 ⟨rfl, b10⟩
    replace HS : Hid (Sta w w10 [Blk w8.heap.size 27 (hdA uH z), Lst uH z.ks, Blk w3.heap.size 27 (hdA uG z), Lst uG (marks 1 z.ks.length), Blk w1.heap.size 27 (hdA uW z), Lst uW z.ks]) := HS.out.next b10
    clear b10
    have p_gv_0 : w10.cell? ⟨w3.heap.size, 0, none⟩ = some uG := Blk.cell (HS.out.get 2 rfl) 0 rfl
    have p_gv_1 : w10.cell? ⟨w3.heap.size, 1, none⟩ = some (.int .i64 z.kd) := Blk.cell (HS.out.get 2 rfl) 1 rfl
    have p_gv_2 : w10.cell? ⟨w3.heap.size, 2, none⟩ = some (.int .i64 z.ho) := Blk.cell (HS.out.get 2 rfl) 2 rfl
    have p_gv_3 : w10.cell? ⟨w3.heap.size, 3, none⟩ = some (.int .i64 z.tu) := Blk.cell (HS.out.get 2 rfl) 3 rfl
    go_wp2_with fail
    clear p_gv_0 p_gv_1 p_gv_2 p_gv_3
    refine (heldHolding_any _ z z.ks.length 1 _ rfl (HS.out.reads 3 rfl) sz (by omega) (by omega)).mono ?_
    rintro e w11 ⟨rfl, b11⟩
    replace HS : Hid (Sta w w11 [Blk w8.heap.size 27 (hdA uH z), Lst uH z.ks, Blk w3.heap.size 27 (hdA uG z), Lst uG (marks 1 z.ks.length), Blk w1.heap.size 27 (hdA uW z), Lst uW z.ks]) := HS.out.next b11
    clear b11
    have HB : Hid (Below w.heap.size w _) := HS.out.below
    clear HS
    go_wp2_with fail
    go_ret
    exact ⟨rfl, HB.out⟩
  · have hlt : 1048576 < (l.length : Int) := by omega
    go_enter Tryd.func6, Tryd.ntmps6
    go_wp2_with fail
    go_ret
    exact ⟨rfl, Below.refl _ _⟩

set_option maxRecDepth 100000 in
theorem lifted (os : Os) (started : os.Started) (H : Type) (enc : TypeId × Value → H) :
    ReturnsInHanded {} Tryd.checked os 6 .any (fun w args => (Rows.fnExactReadHoldingSpec.pre enc Tryd.prog Tryd.f6 [] false w args ∧ laidMetH Tryd.prog Rows.fnExactReadHoldingRow.laid w) ∧ sizedMet enc Tryd.prog Tryd.f6 (OpenSpec.ofChange Rows.fnExactReadHoldingSpec) false w args) (Rows.fnExactReadHoldingSpec.post enc Tryd.prog Tryd.f6 false true false false) := by
  refine returnsInHanded_of_change_and (C := Tryd.checked) (X := fun w _ => laidMetH Tryd.prog Rows.fnExactReadHoldingRow.laid w) (fun _ _ _ hh h => h.of_heap hh) own started (by kernel_rfl) Tryd.func6
    (ChangeSpec.witness_shaped (enc := enc) (C := Tryd.checked) (os := os) (X := fun w _ => laidMetH Tryd.prog Rows.fnExactReadHoldingRow.laid w) false (World.laidAll Tryd.prog os Rows.fnExactReadHoldingRow.laid) #[.string ByteArray.empty] 8 (World.laidAll_os _ _ _)
      (World.shaped_of_ZipB (by kernel_rfl) (by kernel_rfl)) (by kernel_rfl) (by kernel_rfl) (by kernel_rfl)
      (by rw [MakeChecks.laidMetH_plain _ _ _ (by kernel_rfl)]; exact laidMet_laidAll _ (by kernel_rfl) (by kernel_rfl))) ?_
  intro W base args ds gs before hval0 hW hcnd _ hL _
  have hval : ∀ (j : Nat) t v, Tryd.f6.params[j]? = some t → args[j]? = some v → Value.okWide Tryd.prog W .any base t v := hval0
  have hW' := hW
  obtain ⟨p, q, hA0, hV, rfl, hfz, hnd⟩ := hW
  have hA : DataW.TrodAll enc Tryd.prog W 0 (fun _ => true) true Tryd.f6.params.toList args.toList ds p := hA0
  rw [Tryd.params6] at hA hval
  obtain ⟨v0, vs0, d0, ds0, p0, q0, hargs, rfl, rfl, h0, s0⟩ := trodAll_cons hA
  obtain ⟨rfl, rfl, rfl⟩ := trodAll_nil s0
  obtain rfl : args = #[v0] := by cases args; simp_all
  obtain ⟨rfl, rfl⟩ := trodVars_none hV
  obtain ⟨a0, rfl, rfl, rfl, w0⟩ := open_string Tryd.underlying9 (hval 0 9 v0 rfl rfl) h0
  clear hA0 hval0
  refine (walk a0 W w0 (tab_fnExactReadHolding hL)).mono fun e W' ⟨he, bel⟩ => ?_
  subst he
  exact ⟨_, rfl, _, _, _, [], _, [], hW', trodAll_mk1 (shut_bool Tryd.underlying4 _), (trodAll_cons_mk (shut_string Tryd.underlying9 w0) trodAll_mk0), rfl, bel.frame _, fun h => by cases h⟩

theorem over : Rows.fnExactReadHoldingRow.holds Tryd.pinned (OpenSpec.ofChange Rows.fnExactReadHoldingSpec) :=
  OpenClaim.holds_of_wide 6 Tryd.f6 rfl rfl rfl rfl rfl rfl rfl ⟨rfl, rfl, rfl, rfl, rfl⟩ rfl rfl rfl rfl rfl (by kernel_rfl) Tryd.func6 (by kernel_rfl)
    (of_decide_eq_true (by kernel_rfl)) (by unfold Func.isWrapper; first | (rw [if_pos (by decide +kernel)]; kernel_rfl) | (rw [if_neg (by decide +kernel)]; exact ⟨rfl, rfl⟩))
    (fun os started H enc _ => lifted os started H enc)

theorem proved : Rows.FnExactReadHoldingSaid := over
end Go.Proofs.YtifffiekibdgnaaDoor.fnExactReadHolding
namespace Go.Proofs.YtifffiekibdgnaaDoor
open Go in
theorem fnExactReadHolding_holds : Rows.FnExactReadHoldingCardSaid :=
  Claim7.holds_tied_plain_at .later [] [.data, .data, .data, .data, .sentinel, .sentinel, .pinned] true (true, "85593f48ce9b259981cfca009874c809e1736f9ee03fdd7e29a76f7f007136dc") true
    fnExactReadHolding.proved (fun _ h => by cases h) (by kernel_rfl) (fun _ h => by cases h) fnExactReadHolding_row_tie rfl ⟨rfl, rfl⟩ (by kernel_rfl) rfl
    (fun f fn hf hfn => by
      obtain rfl : f = 6 := Option.some.inj ((show Tryd.prog.funcNamed Rows.fnExactReadHoldingRow.func = some 6 by kernel_rfl).symm.trans hf) |>.symm
      obtain rfl : fn = Tryd.f6 := (Option.some.inj (Tryd.func6.symm.trans hfn)).symm
      exact ⟨by kernel_rfl, fun j t ht => by
        rw [Tryd.params6] at ht
        have hm : t ∈ [9] := by simpa using Array.mem_of_getElem? ht
        have hall : ([9].all fun u => !Tryd.prog.wantsStandIn u) = true := by kernel_rfl
        exact (show Tryd.prog.wantsStandIn t = false by simpa using List.all_eq_true.1 hall t hm)⟩)
    (by kernel_rfl)
end Go.Proofs.YtifffiekibdgnaaDoor
