/- At every sink, try, place and turn Fits of the program answers as Fits of the model, and leaves what it was given as it was: the law FnExactFits returns true, whatever it is given. -/
import Derived.Test.YtdcdfhklnhaimaaRows
import Derived.WalkKit
import Derived.ProofKit
import Derived.OpenShut
import Derived.ShutString
import Derived.ChangeOld
import Derived.Below
import Derived.Test.YtdcdfhklnhaimaaOpenSink
import Derived.Test.YtdcdfhklnhaimaaSnkSta
import Derived.Test.YtdcdfhklnhaimaaSSink2
import Derived.Test.YtdcdfhklnhaimaaISink
namespace Go.Proofs.Ytdcdfhklnhaimaa.fnExactFits
open Go.ChangeShapes Go.WideShapes Go.ChangeAt Go.RowKit
open Go.ChangeMaps (open_string shut_string)
set_option linter.unusedVariables false

theorem own : ownKnob Try.prog.godebug = none := by kernel_rfl
theorem laidOut : laidOutB Try.prog = true := by kernel_rfl

set_option maxRecDepth 20000 in
set_option maxHeartbeats 20000000 in
theorem walk (r0 : Sn) (u0 : Value) (a1 : Int) (a2 : Int) (a3 : Int) (w : World) (f0 : Reads w u0 r0.ts) (w1 : (Lit.int .i64 a1).wf = true) (w2 : (Lit.int .i64 a2).wf = true) (w3 : (Lit.int .i64 a3).wf = true) :
    Calls Try.prog 6 #[SnV u0 r0, .int .i64 a1, .int .i64 a2, .int .i64 a3] w fun e w' => e = .returned (.bool true) ∧ Below w.heap.size w w' := by
  by_cases hbig : (r0.ts.length : Int) ≤ 1048576
  · skip
    have gx : r0.ts.length ≤ 1099511627776 := by omega
    have sx : r0.ts.length ≤ 1048576 := by omega
    have hsz : szI 1048576 r0.ts.length = 1048576 - (r0.ts.length : Nat) := by simp only [szI]; rw [if_pos (by omega)]
    obtain ⟨w1, hw1⟩ : ∃ w1, w1 = w.alloc (.cells (snA u0 r0) 37) := ⟨_, rfl⟩
    have HS : Hid (Sta w w1 [Blk w.heap.size 37 (snA u0 r0)]) := by rw [hw1]; exact (Sta.start w).box _ _
    have c1 := szSink_any u0 r0 1048576 w1 (f0.below HS.out.below (Nat.le_refl _)) (by omega) (by omega)
    rw [hsz] at c1
    have F0 : Hid (Reads w u0 r0.ts) := f0
    clear hsz f0
    unfold SnV snA at *
    go_enter Try.func6, Try.ntmps6
    go_wp2_with fail
    rw [← hw1]
    clear hw1
    refine (c1).mono ?_
    rintro e w2 ⟨rfl, b2⟩
    replace HS : Hid (Sta w w2 [Blk w.heap.size 37 (snA u0 r0)]) := HS.out.next b2
    clear b2
    clear c1
    obtain ⟨d, hd⟩ : ∃ d, d = r0.Fits a1 a2 a3 := ⟨_, rfl⟩
    have cs : ∀ u w', Reads w' u r0.ts → _ := fun u w' h => sFits_any u r0 a1 a2 a3 w' h gx
    have ci : ∀ u w', Reads w' u r0.ts → _ := fun u w' h => iFits_any u r0 a1 a2 a3 w' h gx
    simp only [← hd] at cs ci
    clear hd
    have hdd : (d != d) = false := by simp
    unfold SnV snA at cs ci
    have p_D_0 : w2.cell? ⟨w.heap.size, 0, none⟩ = some (.int .i64 r0.tr) := Blk.cell (HS.out.get 0 rfl) 0 rfl
    have p_D_1 : w2.cell? ⟨w.heap.size, 1, none⟩ = some u0 := Blk.cell (HS.out.get 0 rfl) 1 rfl
    go_wp2_with fail
    clear p_D_0 p_D_1
    refine (toSink_any u0 r0 _ (F0.out.below HS.out.below (Nat.le_refl _)) gx).mono ?_
    rintro e w3 ⟨uA, rfl, o3, b3⟩
    replace HS : Hid (Sta w w3 [Lst uA r0.ts, Blk w.heap.size 37 (snA u0 r0)]) := HS.out.list o3 b3
    clear o3 b3
    go_wp2_with fail
    refine (cs _ _ (HS.out.readsK 0 rfl)).mono ?_
    rintro e w4 ⟨rfl, b4⟩
    replace HS : Hid (Sta w w4 [Lst uA r0.ts, Blk w.heap.size 37 (snA u0 r0)]) := HS.out.next b4
    clear b4
    replace HS : Hid (Sta w w4 [Blk w.heap.size 37 (snA u0 r0)]) := HS.out.tail
    have p_D_0 : w4.cell? ⟨w.heap.size, 0, none⟩ = some (.int .i64 r0.tr) := Blk.cell (HS.out.get 0 rfl) 0 rfl
    have p_D_1 : w4.cell? ⟨w.heap.size, 1, none⟩ = some u0 := Blk.cell (HS.out.get 0 rfl) 1 rfl
    go_wp2_with fail
    clear p_D_0 p_D_1
    refine (toSink_any u0 r0 _ (F0.out.below HS.out.below (Nat.le_refl _)) gx).mono ?_
    rintro e w5 ⟨uX, rfl, o5, b5⟩
    replace HS : Hid (Sta w w5 [Lst uX r0.ts, Blk w.heap.size 37 (snA u0 r0)]) := HS.out.list o5 b5
    clear o5 b5
    go_wp2_with (first | (refine wpList_putB rfl 26 _ _ rfl w5.heap.size (snA uX r0) zeroSn rfl rfl (HS.out.oneK 0 rfl r0) (heap_alloc_new _ _) Try.isSn.2 rfl ?_; intro w6 q6 g6; replace HS : Hid (Sta w w6 [Blk w5.heap.size 26 (snA uX r0), Lst uX r0.ts, Blk w.heap.size 37 (snA u0 r0)]) := HS.out.var 26 _ _ q6 g6; clear q6 g6; have p_xv_0 : w6.cell? ⟨w5.heap.size, 0, none⟩ = some (.int .i64 r0.tr) := Blk.cell (HS.out.get 0 rfl) 0 rfl; have p_xv_1 : w6.cell? ⟨w5.heap.size, 1, none⟩ = some uX := Blk.cell (HS.out.get 0 rfl) 1 rfl; skip))
    clear p_xv_0 p_xv_1
    refine (ci _ _ (HS.out.readsK 1 rfl)).mono ?_
    rintro e w7 ⟨rfl, b7⟩
    replace HS : Hid (Sta w w7 [Blk w5.heap.size 26 (snA uX r0), Lst uX r0.ts, Blk w.heap.size 37 (snA u0 r0)]) := HS.out.next b7
    clear b7
    go_wp2_with fail
    replace HS := HS.out.drew1
    replace HS : Hid _ := HS
    have r0_xv_0 : w7.drew.cell? ⟨w5.heap.size, 0, none⟩ = some (.int .i64 r0.tr) := Blk.cell (HS.out.get 0 rfl) 0 rfl
    have r0_xv_1 : w7.drew.cell? ⟨w5.heap.size, 1, none⟩ = some uX := Blk.cell (HS.out.get 0 rfl) 1 rfl
    have r0_D_0 : w7.drew.cell? ⟨w.heap.size, 0, none⟩ = some (.int .i64 r0.tr) := Blk.cell (HS.out.get 2 rfl) 0 rfl
    have r0_D_1 : w7.drew.cell? ⟨w.heap.size, 1, none⟩ = some u0 := Blk.cell (HS.out.get 2 rfl) 1 rfl
    go_region_held3 (fun w' => w'.cell? ⟨w5.heap.size, 0, none⟩ = some (.int .i64 r0.tr) ∧ w'.cell? ⟨w5.heap.size, 1, none⟩ = some uX ∧ w'.cell? ⟨w.heap.size, 0, none⟩ = some (.int .i64 r0.tr) ∧ w'.cell? ⟨w.heap.size, 1, none⟩ = some u0) (refine ⟨?_, ?_, ?_, ?_⟩ <;> assumption)
      (first
        | (go_at_call 21; refine (toSink_any u0 r0 _ (F0.out.below HS.out.below (Nat.le_refl _)) gx).mono ?_; rintro e w8 ⟨uE_, rfl, o8, b8⟩; replace HS : Hid (Sta w w8 [Lst uE_ r0.ts, Blk w5.heap.size 26 (snA uX r0), Lst uX r0.ts, Blk w.heap.size 37 (snA u0 r0)]) := HS.out.list o8 b8; clear o8 b8; have r1_xv_0 : w8.cell? ⟨w5.heap.size, 0, none⟩ = some (.int .i64 r0.tr) := Blk.cell (HS.out.get 1 rfl) 0 rfl; have r1_xv_1 : w8.cell? ⟨w5.heap.size, 1, none⟩ = some uX := Blk.cell (HS.out.get 1 rfl) 1 rfl; have r1_D_0 : w8.cell? ⟨w.heap.size, 0, none⟩ = some (.int .i64 r0.tr) := Blk.cell (HS.out.get 3 rfl) 0 rfl; have r1_D_1 : w8.cell? ⟨w.heap.size, 1, none⟩ = some u0 := Blk.cell (HS.out.get 3 rfl) 1 rfl)
        | (go_at_call 22; refine (eqSink_any _ _ r0 _ (HS.out.readsK 2 rfl) (HS.out.readsK 0 rfl) gx).mono ?_; rintro e w9 ⟨rfl, b9⟩; replace HS : Hid (Sta w w9 [Lst uE_ r0.ts, Blk w5.heap.size 26 (snA uX r0), Lst uX r0.ts, Blk w.heap.size 37 (snA u0 r0)]) := HS.out.next b9; clear b9; have r2_xv_0 : w9.cell? ⟨w5.heap.size, 0, none⟩ = some (.int .i64 r0.tr) := Blk.cell (HS.out.get 1 rfl) 0 rfl; have r2_xv_1 : w9.cell? ⟨w5.heap.size, 1, none⟩ = some uX := Blk.cell (HS.out.get 1 rfl) 1 rfl; have r2_D_0 : w9.cell? ⟨w.heap.size, 0, none⟩ = some (.int .i64 r0.tr) := Blk.cell (HS.out.get 3 rfl) 0 rfl; have r2_D_1 : w9.cell? ⟨w.heap.size, 1, none⟩ = some u0 := Blk.cell (HS.out.get 3 rfl) 1 rfl))
    clear r0_xv_0 r0_xv_1 r0_D_0 r0_D_1 r1_xv_0 r1_xv_1 r1_D_0 r1_D_1 r2_xv_0 r2_xv_1 r2_D_0 r2_D_1
    replace HS : Hid (Sta w w9 [Blk w5.heap.size 26 (snA uX r0), Lst uX r0.ts, Blk w.heap.size 37 (snA u0 r0)]) := HS.out.tail
    have HB : Hid (Below w.heap.size w _) := HS.out.below
    clear HS
    go_wp2_with fail
    go_ret
    exact ⟨rfl, HB.out⟩
  · have hsz : szI 1048576 r0.ts.length = -1 := by simp only [szI]; rw [if_neg (by omega)]
    have b1 : Below w.heap.size w (w.alloc (.cells (snA u0 r0) 37)) := (Below.refl _ _).alloc (Nat.le_refl _) _
    have c1 := szSink_any u0 r0 1048576 _ (f0.below b1 (Nat.le_refl _)) (by omega) (by omega)
    rw [hsz] at c1
    clear hsz f0 hbig
    unfold SnV snA at *
    go_enter Try.func6, Try.ntmps6
    go_wp2_with fail
    refine c1.mono ?_
    rintro e w2 ⟨rfl, b2⟩
    replace b2 := b1.trans (b2.mono b1.size)
    clear b1 c1
    go_wp2_with fail
    go_ret
    exact ⟨rfl, b2⟩

set_option maxRecDepth 100000 in
theorem lifted (os : Os) (started : os.Started) (H : Type) (enc : TypeId × Value → H) :
    ReturnsInHanded {} Try.checked os 6 .any (Rows.fnExactFitsSpec.pre6 enc Try.prog Try.f6 Rows.fnExactFitsRow.domain false) (Rows.fnExactFitsSpec.post enc Try.prog Try.f6 false true false false) := by
  refine returnsInHanded_of_change (C := Try.checked) own started (by kernel_rfl) Try.func6
    (ChangeSpec.witness6 (enc := enc) (C := Try.checked) false ⟨#[], #[.agg #[.int .i64 0, .slice none 0 0], .int .i64 0, .int .i64 0, .int .i64 0], []⟩ 8 (by kernel_rfl) (by kernel_rfl) (by kernel_rfl) (by kernel_rfl)) ?_
  intro W base args ds gs before hval0 hW hcnd _
  have hval : ∀ (j : Nat) t v, Try.f6.params[j]? = some t → args[j]? = some v → Value.okWide Try.prog W .any base t v := hval0
  have hW' := hW
  obtain ⟨p, q, hA0, hV, rfl, hfz, hnd⟩ := hW
  have hA : DataW.TrodAll enc Try.prog W 0 (fun _ => true) true Try.f6.params.toList args.toList ds p := hA0
  rw [Try.params6] at hA hval
  obtain ⟨v0, vs0, d0, ds0, p0, q0, hargs, rfl, rfl, h0, s0⟩ := trodAll_cons hA
  obtain ⟨v1, vs1, d1, ds1, p1, q1, rfl, rfl, rfl, h1, s1⟩ := trodAll_cons s0
  obtain ⟨v2, vs2, d2, ds2, p2, q2, rfl, rfl, rfl, h2, s2⟩ := trodAll_cons s1
  obtain ⟨v3, vs3, d3, ds3, p3, q3, rfl, rfl, rfl, h3, s3⟩ := trodAll_cons s2
  obtain ⟨rfl, rfl, rfl⟩ := trodAll_nil s3
  obtain rfl : args = #[v0, v1, v2, v3] := by cases args; simp_all
  obtain ⟨rfl, rfl⟩ := trodVars_none hV
  have k0 := h0
  have lt0 : ∀ x ∈ p0, x.block < W.heap.size := by obtain ⟨m, hm⟩ := k0; exact DataW.trod_lt m _ _ _ hm
  obtain ⟨r0, u0, rfl, f0⟩ := open_sink (hval 0 37 v0 rfl rfl) h0
  obtain ⟨a1, rfl, rfl, rfl, w1⟩ := open_int Try.underlying2 (hval 1 2 v1 rfl rfl) h1
  obtain ⟨a2, rfl, rfl, rfl, w2⟩ := open_int Try.underlying2 (hval 2 2 v2 rfl rfl) h2
  obtain ⟨a3, rfl, rfl, rfl, w3⟩ := open_int Try.underlying2 (hval 3 2 v3 rfl rfl) h3
  clear hA0 hval0
  refine (walk r0 u0 a1 a2 a3 W f0 w1 w2 w3).mono fun e W' ⟨he, bel⟩ => ?_
  subst he
  exact ⟨_, rfl, _, _, _, [], _, [], hW', trodAll_mk1 (shut_bool Try.underlying4 _), (trodAll_cons_mk (Below.trod laidOut (by kernel_rfl) (of_decide_eq_true (by kernel_rfl)) k0 bel lt0) (trodAll_cons_mk (shut_int Try.underlying2 w1) (trodAll_cons_mk (shut_int Try.underlying2 w2) (trodAll_cons_mk (shut_int Try.underlying2 w3) trodAll_mk0)))), rfl, bel.frame _, fun h => by cases h⟩

theorem over : Rows.fnExactFitsRow.holds Try.pinned (OpenSpec.ofChange Rows.fnExactFitsSpec) :=
  OpenClaim.holds_of_wide 6 Try.f6 rfl rfl rfl rfl rfl rfl rfl ⟨rfl, rfl, rfl, rfl, rfl⟩ rfl rfl rfl rfl rfl (by kernel_rfl) Try.func6 (by kernel_rfl)
    (of_decide_eq_true (by kernel_rfl)) (by unfold Func.isWrapper; first | (rw [if_pos (by decide +kernel)]; kernel_rfl) | (rw [if_neg (by decide +kernel)]; exact ⟨rfl, rfl⟩))
    (fun os started H enc _ => lifted os started H enc)

theorem proved : Rows.FnExactFitsSaid := over
end Go.Proofs.Ytdcdfhklnhaimaa.fnExactFits
namespace Go.Proofs.Ytdcdfhklnhaimaa
theorem fnExactFits_holds : Rows.FnExactFitsSaid := fnExactFits.proved
end Go.Proofs.Ytdcdfhklnhaimaa
