/- What the program's actions do: unheld, turned, heldBy, left, cleared, rekeyed. -/
import Derived.Test.YtppkncmlloelbaaIWish
namespace Go.Proofs.Ytppkncmlloelbaa
open Go.ChangeShapes Go.WideShapes Go.ChangeAt Go.RowKit

/- Two new blocks: the holding, and what is answered. -/
def HR (w w1 : World) (f : Nat → Int) (kd ho tu : Int) : Prop :=
  StB w1 w.heap.size 68 (heA f kd ho tu) ∧ StB w1 (w.heap.size + 1) 68 he0A ∧ Below w.heap.size w w1
theorem HR.start (w : World) (f : Nat → Int) (kd ho tu : Int) : HR w ((w.alloc (.cells (heA f kd ho tu) 68)).alloc (.cells he0A 68)) f kd ho tu := by
  refine ⟨(StB.new _ _ _).alloc _, ?_, ((Below.refl _ _).alloc (Nat.le_refl _) _).alloc (by simp) _⟩
  have := StB.new (w.alloc (.cells (heA f kd ho tu) 68)) 68 he0A
  rw [World.size_alloc] at this
  exact this
theorem HR.put {w w1 : World} {f g : Nat → Int} {kd ho tu kd' ho' tu' : Int} (h : HR w w1 f kd ho tu) (j : Nat) (x : Int) (e : (heA f kd ho tu).setIfInBounds j (.int .i64 x) = heA g kd' ho' tu') : HR w (w1.setCell ⟨w.heap.size, j, none⟩ (.int .i64 x)) g kd' ho' tu' :=
  ⟨h.1.put j _ e, h.2.1.kept (grownSet w1 _ j _) (by simp), h.2.2.grown (grownSet w1 _ j _) h.2.2.size (fun x e => by cases e; exact Nat.le_refl _)⟩

set_option maxRecDepth 20000 in
set_option maxHeartbeats 1000000 in
theorem iunheld_any (f : Nat → Int) (kd ho tu : Int) (w : World) :
    Calls Try.prog 102 #[.agg (heA f kd ho tu)] w fun e w' => e = .returned (.agg (heA f 0 (-1) tu)) ∧ Below w.heap.size w w' := by
  obtain ⟨w1, hw1⟩ : ∃ w1, w1 = (w.alloc (.cells (heA f kd ho tu) 68)).alloc (.cells he0A 68) := ⟨_, rfl⟩
  have HS : Hid (HR w w1 f kd ho tu) := by rw [hw1]; exact HR.start _ _ _ _ _
  obtain ⟨w2, hw2⟩ : ∃ w2, w2 = (w1.setCell ⟨w.heap.size, 4, none⟩ (.int .i64 0)).setCell ⟨w.heap.size, 5, none⟩ (.int .i64 (-1)) := ⟨_, rfl⟩
  have HS2 : Hid (HR w w2 f 0 (-1) tu) := by rw [hw2]; exact (HS.out.put 4 0 rfl).put 5 (-1) rfl
  obtain ⟨-, -, -, -, m4, m5, -⟩ := heA_cells HS.out.1
  have f4 := HS.out.1.frozen 4
  have f5 := HS.out.1.frozen 5
  clear HS
  rw [heA, he0A, heA] at hw1
  rw [heA]
  go_enter Try.func102, Try.ntmps102
  go_upto_region 1 with fail
  rw [← hw1]
  clear hw1
  go_upto_region 2 with fail
  rw [← hw2]
  clear hw2 m4 m5 f4 f5
  go_wp2_with (first | (refine wpList_getS Try.isHeld rfl _ rfl w.heap.size rfl (heA f 0 (-1) tu) rfl HS2.out.1 ?_) | (refine wpList_putS Try.isHeld rfl _ _ rfl (w.heap.size + 1) (heA f 0 (-1) tu) he0A rfl rfl rfl rfl (heA_one _ _ _ _) HS2.out.2.1 ?_; intro w3 h3 g3))
  refine bodyPost_ret (results_S Try.isHeld rfl _ _ (w.heap.size + 1) _ rfl rfl h3) rfl ?_
  exact ⟨rfl, HS2.out.2.2.grown g3 HS2.out.2.2.size (fun k e => by cases e; omega)⟩

set_option maxRecDepth 20000 in
set_option maxHeartbeats 1000000 in
theorem iturned_any (f : Nat → Int) (kd ho tu : Int) (w : World) (t0 : 0 ≤ tu) (t1 : tu ≤ 1000000000) :
    Calls Try.prog 103 #[.agg (heA f kd ho tu)] w fun e w' => e = .returned (.agg (heA f kd ho (turnI tu))) ∧ Below w.heap.size w w' := by
  obtain ⟨w1, hw1⟩ : ∃ w1, w1 = (w.alloc (.cells (heA f kd ho tu) 68)).alloc (.cells he0A 68) := ⟨_, rfl⟩
  have HS : Hid (HR w w1 f kd ho tu) := by rw [hw1]; exact HR.start _ _ _ _ _
  obtain ⟨w2, hw2⟩ : ∃ w2, w2 = w1.setCell ⟨w.heap.size, 6, none⟩ (.int .i64 (turnI tu)) := ⟨_, rfl⟩
  have HS2 : Hid (HR w w2 f kd ho (turnI tu)) := by rw [hw2]; exact HS.out.put 6 (turnI tu) rfl
  obtain ⟨-, -, -, -, -, -, m6⟩ := heA_cells HS.out.1
  have f6 := HS.out.1.frozen 6
  have hwr : IntKind.i64.wrap (tu + 1) = tu + 1 := by rw [IntKind.wrap_i64]; omega
  clear HS
  rw [heA, he0A, heA] at hw1
  rw [heA]
  by_cases ht : tu = 1000000000
  · have htb : (tu == 1000000000) = true := by simpa using ht
    have e1 : turnI tu = 0 := by unfold turnI; rw [if_pos (by omega)]
    rw [e1] at hw2 HS2 ⊢
    clear ht e1 t0 t1 hwr
    go_enter Try.func103, Try.ntmps103
    go_upto_region 1 with fail
    rw [← hw1]
    clear hw1
    go_upto_region 4 with fail
    rw [← hw2]
    clear hw2 m6 f6
    go_wp2_with (first | (refine wpList_getS Try.isHeld rfl _ rfl w.heap.size rfl (heA f kd ho 0) rfl HS2.out.1 ?_) | (refine wpList_putS Try.isHeld rfl _ _ rfl (w.heap.size + 1) (heA f kd ho 0) he0A rfl rfl rfl rfl (heA_one _ _ _ _) HS2.out.2.1 ?_; intro w3 h3 g3))
    refine bodyPost_ret (results_S Try.isHeld rfl _ _ (w.heap.size + 1) _ rfl rfl h3) rfl ?_
    exact ⟨rfl, HS2.out.2.2.grown g3 HS2.out.2.2.size (fun k e => by cases e; omega)⟩
  · have htb : (tu == 1000000000) = false := by simpa using ht
    have e1 : turnI tu = tu + 1 := by unfold turnI; rw [if_neg (by omega)]
    rw [e1] at hw2 HS2 ⊢
    clear ht e1 t0 t1
    go_enter Try.func103, Try.ntmps103
    go_upto_region 1 with fail
    rw [← hw1]
    clear hw1
    go_upto_region 4 with fail
    rw [← hw2]
    clear hw2 m6 f6 hwr
    go_wp2_with (first | (refine wpList_getS Try.isHeld rfl _ rfl w.heap.size rfl (heA f kd ho (tu + 1)) rfl HS2.out.1 ?_) | (refine wpList_putS Try.isHeld rfl _ _ rfl (w.heap.size + 1) (heA f kd ho (tu + 1)) he0A rfl rfl rfl rfl (heA_one _ _ _ _) HS2.out.2.1 ?_; intro w3 h3 g3))
    refine bodyPost_ret (results_S Try.isHeld rfl _ _ (w.heap.size + 1) _ rfl rfl h3) rfl ?_
    exact ⟨rfl, HS2.out.2.2.grown g3 HS2.out.2.2.size (fun k e => by cases e; omega)⟩

set_option maxRecDepth 20000 in
set_option maxHeartbeats 1000000 in
theorem iheldby_any (f : Nat → Int) (kd ho tu i k d : Int) (w : World) :
    Calls Try.prog 89 #[.agg (heA f kd ho tu), .agg (wiA i k d)] w fun e w' => e = .returned (.agg (heA f d (if allI d then -1 else i) tu)) ∧ Below w.heap.size w w' := by
  obtain ⟨w1, hw1⟩ : ∃ w1, w1 = ((w.alloc (.cells (heA f kd ho tu) 68)).alloc (.cells (wiA i k d) 55)).alloc (.cells he0A 68) := ⟨_, rfl⟩
  have HS : Hid (HW w w1 f kd ho tu i k d) := by rw [hw1]; exact HW.start _ _ _ _ _ _ _ _
  obtain ⟨-, -, -, -, m4, m5, -⟩ := heA_cells HS.out.1
  obtain ⟨p0, p1, p2⟩ := wiA_cells HS.out.2.1
  have f4 := HS.out.1.frozen 4
  have f5 := HS.out.1.frozen 5
  obtain ⟨w2, hw2⟩ : ∃ w2, w2 = ((w1.setCell ⟨w.heap.size, 4, none⟩ (.int .i64 d)).setCell ⟨w.heap.size, 5, none⟩ (.int .i64 i)).drew := ⟨_, rfl⟩
  have HS2 : Hid (HW w w2 f d i tu i k d) := by rw [hw2]; exact ((HS.out.put 4 d rfl).put 5 i rfl).drew
  have q2 : w2.cell? ⟨w.heap.size + 1, 2, none⟩ = some (.int .i64 d) := HS2.out.2.1.cell 2 rfl
  have c1 := fun wx => iall_any d wx
  obtain ⟨x, hx⟩ : ∃ x, x = allI d := ⟨_, rfl⟩
  rw [← hx]
  simp only [← hx] at c1
  clear hx
  rw [heA, wiA, he0A, heA] at hw1
  rw [heA, wiA]
  go_enter Try.func89, Try.ntmps89
  go_upto_region 1 with fail
  rw [← hw1]
  clear hw1
  go_region
  rw [← hw2]
  clear hw2 m4 m5 f4 f5 p0 p1 p2
  go_wp2_with fail
  refine (c1 _).mono ?_
  rintro e w3 ⟨rfl, b3⟩
  have HS3 := HS2.out.next b3
  clear b3 c1 HS2 q2
  cases x with
  | false =>
    have H3 : Hid (HW w w3 f d i tu i k d) := HS3
    clear HS3
    go_wp2_with (first | (refine wpList_getS Try.isHeld rfl _ rfl w.heap.size rfl (heA f d i tu) rfl H3.out.1 ?_) | (refine wpList_putS Try.isHeld rfl _ _ rfl (w.heap.size + 2) (heA f d i tu) he0A rfl rfl rfl rfl (heA_one _ _ _ _) H3.out.2.2.1 ?_; intro w5 h5 g5))
    refine bodyPost_ret (results_S Try.isHeld rfl _ _ (w.heap.size + 2) _ rfl rfl h5) rfl ?_
    exact ⟨rfl, H3.out.2.2.2.grown g5 H3.out.2.2.2.size (fun k e => by cases e; omega)⟩
  | true =>
    obtain ⟨w4, hw4⟩ : ∃ w4, w4 = w3.setCell ⟨w.heap.size, 5, none⟩ (.int .i64 (-1)) := ⟨_, rfl⟩
    have H4 : Hid (HW w w4 f d (-1) tu i k d) := by rw [hw4]; exact HS3.put 5 (-1) rfl
    obtain ⟨-, -, -, -, -, m5, -⟩ := heA_cells HS3.1
    have f5 := HS3.1.frozen 5
    clear HS3
    go_upto_region 4 with fail
    rw [← hw4]
    clear hw4 m5 f5
    go_wp2_with (first | (refine wpList_getS Try.isHeld rfl _ rfl w.heap.size rfl (heA f d (-1) tu) rfl H4.out.1 ?_) | (refine wpList_putS Try.isHeld rfl _ _ rfl (w.heap.size + 2) (heA f d (-1) tu) he0A rfl rfl rfl rfl (heA_one _ _ _ _) H4.out.2.2.1 ?_; intro w5 h5 g5))
    refine bodyPost_ret (results_S Try.isHeld rfl _ _ (w.heap.size + 2) _ rfl rfl h5) rfl ?_
    exact ⟨rfl, H4.out.2.2.2.grown g5 H4.out.2.2.2.size (fun k e => by cases e; omega)⟩

set_option maxRecDepth 20000 in
set_option maxHeartbeats 1000000 in
theorem ileft_any (f : Nat → Int) (kd ho tu i k d : Int) (w : World) :
    Calls Try.prog 92 #[.agg (heA f kd ho tu), .agg (wiA i k d)] w fun e w' => e = .returned (.agg (heA f (if holdsF f kd ho i then 0 else kd) (if holdsF f kd ho i then -1 else ho) tu)) ∧ Below w.heap.size w w' := by
  obtain ⟨w1, hw1⟩ : ∃ w1, w1 = ((w.alloc (.cells (heA f kd ho tu) 68)).alloc (.cells (wiA i k d) 55)).alloc (.cells he0A 68) := ⟨_, rfl⟩
  have HS : Hid (HW w w1 f kd ho tu i k d) := by rw [hw1]; exact HW.start _ _ _ _ _ _ _ _
  have c1 := iheldholds_any f kd ho tu i w1
  have c2 := fun wx => iunheld_any f kd ho tu wx
  obtain ⟨x, hx⟩ : ∃ x, x = holdsF f kd ho i := ⟨_, rfl⟩
  rw [← hx] at c1 ⊢
  clear hx
  rw [heA, wiA, he0A, heA] at hw1
  rw [heA] at c1
  conv in heA f kd ho tu => unfold heA
  rw [wiA]
  go_enter Try.func92, Try.ntmps92
  go_wp2_with fail
  rw [← hw1]
  refine c1.mono ?_
  rintro e w2 ⟨rfl, b2⟩
  have HS2 := HS.out.next b2
  clear hw1 c1 b2 HS
  have H2 : Hid (HW w w2 f kd ho tu i k d) := HS2
  clear HS2
  cases x with
  | false =>
    clear c2
    go_wp2_with (first | (refine wpList_getS Try.isHeld rfl _ rfl w.heap.size rfl (heA f kd ho tu) rfl H2.out.1 ?_) | (refine wpList_putS Try.isHeld rfl _ _ rfl (w.heap.size + 2) (heA f kd ho tu) he0A rfl rfl rfl rfl (heA_one _ _ _ _) H2.out.2.2.1 ?_; intro w5 h5 g5))
    refine bodyPost_ret (results_S Try.isHeld rfl _ _ (w.heap.size + 2) _ rfl rfl h5) rfl ?_
    exact ⟨rfl, H2.out.2.2.2.grown g5 H2.out.2.2.2.size (fun k e => by cases e; omega)⟩
  | true =>
    go_wp2_with (first | (refine wpList_getS Try.isHeld rfl _ rfl w.heap.size rfl (heA f kd ho tu) rfl H2.out.1 ?_) | (go_at_call 102; refine (c2 _).mono ?_; rintro e w3 ⟨rfl, b3⟩; have H3 : Hid (HW w w3 f kd ho tu i k d) := H2.out.next b3; clear b3) | (refine wpList_putS Try.isHeld rfl _ _ rfl (w.heap.size + 2) (heA f 0 (-1) tu) he0A rfl rfl rfl rfl (heA_one _ _ _ _) H3.out.2.2.1 ?_; intro w5 h5 g5))
    refine bodyPost_ret (results_S Try.isHeld rfl _ _ (w.heap.size + 2) _ rfl rfl h5) rfl ?_
    exact ⟨rfl, H3.out.2.2.2.grown g5 H3.out.2.2.2.size (fun k e => by cases e; omega)⟩

set_option maxRecDepth 20000 in
set_option maxHeartbeats 1000000 in
theorem icleared_any (f : Nat → Int) (kd ho tu i k d : Int) (w : World) (t0 : 0 ≤ tu) (t1 : tu ≤ 1000000000) :
    Calls Try.prog 93 #[.agg (heA f kd ho tu), .agg (wiA i k d)] w fun e w' => e = .returned (.agg (heA (fun _ => 0) 0 (-1) (turnI tu))) ∧ Below w.heap.size w w' := by
  obtain ⟨w1, hw1⟩ : ∃ w1, w1 = ((w.alloc (.cells (heA f kd ho tu) 68)).alloc (.cells (wiA i k d) 55)).alloc (.cells he0A 68) := ⟨_, rfl⟩
  have HS : Hid (HW w w1 f kd ho tu i k d) := by rw [hw1]; exact HW.start _ _ _ _ _ _ _ _
  have c2 := fun wx => iunheld_any (fun _ => 0) kd ho tu wx
  have c3 := fun wx => iturned_any (fun _ => 0) 0 (-1) tu wx t0 t1
  obtain ⟨w2, hw2⟩ : ∃ w2, w2 = (((w1.setCell ⟨w.heap.size, 0, none⟩ (.int .i64 0)).setCell ⟨w.heap.size, 1, none⟩ (.int .i64 0)).setCell ⟨w.heap.size, 2, none⟩ (.int .i64 0)).setCell ⟨w.heap.size, 3, none⟩ (.int .i64 0) := ⟨_, rfl⟩
  have H2 : Hid (HW w w2 (fun _ => 0) kd ho tu i k d) := by
    rw [hw2]
    exact (((HS.out.put (g := updF f 0 0) (kd' := kd) (ho' := ho) (tu' := tu) 0 0 rfl).put (g := updF (updF f 0 0) 1 0) (kd' := kd) (ho' := ho) (tu' := tu) 1 0 rfl).put (g := updF (updF (updF f 0 0) 1 0) 2 0) (kd' := kd) (ho' := ho) (tu' := tu) 2 0 rfl).put 3 0 rfl
  obtain ⟨m0, m1, m2, m3, -, -, -⟩ := heA_cells HS.out.1
  have f0 := HS.out.1.frozen 0
  have f1 := HS.out.1.frozen 1
  have f2 := HS.out.1.frozen 2
  have f3 := HS.out.1.frozen 3
  clear HS
  rw [heA, wiA, he0A, heA] at hw1
  conv in heA f kd ho tu => unfold heA
  rw [wiA]
  go_enter Try.func93, Try.ntmps93
  go_upto_region 1 with fail
  rw [← hw1]
  clear hw1
  go_upto_region 2 with fail
  rw [← hw2]
  clear hw2 m0 m1 m2 m3 f0 f1 f2 f3
  go_wp2_with (first | (refine wpList_getS Try.isHeld rfl _ rfl w.heap.size rfl (heA (fun _ => 0) kd ho tu) rfl H2.out.1 ?_) | (go_at_call 102; refine (c2 _).mono ?_; rintro e w3 ⟨rfl, b3⟩; have H3 : Hid (HW w w3 (fun _ => 0) kd ho tu i k d) := H2.out.next b3; clear b3) | (go_at_call 103; refine (c3 _).mono ?_; rintro e w4 ⟨rfl, b4⟩; have H4 : Hid (HW w w4 (fun _ => 0) kd ho tu i k d) := H3.out.next b4; clear b4) | (refine wpList_putS Try.isHeld rfl _ _ rfl (w.heap.size + 2) (heA (fun _ => 0) 0 (-1) (turnI tu)) he0A rfl rfl rfl rfl (heA_one _ _ _ _) H4.out.2.2.1 ?_; intro w5 h5 g5))
  refine bodyPost_ret (results_S Try.isHeld rfl _ _ (w.heap.size + 2) _ rfl rfl h5) rfl ?_
  exact ⟨rfl, H4.out.2.2.2.grown g5 H4.out.2.2.2.size (fun k e => by cases e; omega)⟩
end Go.Proofs.Ytppkncmlloelbaa
