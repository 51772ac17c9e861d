/- What the program's actions ask and do, on: hasNoSuchKey, rekeyed. -/
import Derived.Test.YtppkncmlloelbaaIWish3
import Derived.Test.YtppkncmlloelbaaKin
namespace Go.Proofs.Ytppkncmlloelbaa
open Go.ChangeShapes Go.WideShapes Go.ChangeAt Go.RowKit

def lacksI (f : Nat → Int) (i k : Int) : Bool := strI f i || !hasF f k 4
theorem heA_at {w : World} {g : Nat} {f : Nat → Int} {kd ho tu : Int} (h : StB w g 68 (heA f kd ho tu)) : ∀ j, j < 4 → w.cell? ⟨g, j, none⟩ = some (.int .i64 (f j)) :=
  four (h.cell 0 rfl) (h.cell 1 rfl) (h.cell 2 rfl) (h.cell 3 rfl)
theorem heA_set (f : Nat → Int) (kd ho tu x : Int) : ∀ j, j < 4 → (heA f kd ho tu).setIfInBounds j (.int .i64 x) = heA (updF f j x) kd ho tu := four rfl rfl rfl rfl

set_option maxRecDepth 20000 in
set_option maxHeartbeats 2000000 in
theorem ilacks_any (f : Nat → Int) (kd ho tu i k d : Int) (w : World) :
    Calls Try.prog 95 #[.agg (heA f kd ho tu), .agg (wiA i k d)] w fun e w' => e = .returned (.bool (lacksI f i k)) ∧ Below w.heap.size w w' := by
  obtain ⟨w1, hw1⟩ : ∃ w1, w1 = (w.alloc (.cells (heA f kd ho tu) 68)).alloc (.cells (wiA i k d) 55) := ⟨_, rfl⟩
  have HS : Hid (HW2 w w1 f kd ho tu i k d) := by rw [hw1]; exact HW2.start _ _ _ _ _ _ _ _
  have HD : Hid (HW2 w w1.drew f kd ho tu i k d) := HS.out.drew
  have c1 := fun wx => istrange_any f kd ho tu i k d wx
  have c2 : ∀ wx : World, (∀ j, j < 4 → wx.cell? ⟨w.heap.size, j, none⟩ = some (Value.int .i64 (f j))) → _ := fun wx h => icontains_any f k w.heap.size wx h
  have HE : Hid (lacksI f i k = (strI f i || !hasF f k 4)) := rfl
  obtain ⟨x, hx⟩ : ∃ x, x = strI f i := ⟨_, rfl⟩
  obtain ⟨y, hy⟩ : ∃ y, y = hasF f k 4 := ⟨_, rfl⟩
  obtain ⟨r, hr⟩ : ∃ r, r = lacksI f i k := ⟨_, rfl⟩
  rw [← hr, ← hx, ← hy] at HE
  rw [← hr]
  simp only [← hx] at c1
  simp only [← hy] at c2
  clear hx hy hr
  obtain ⟨p, hp⟩ : ∃ p, p = fun x => HW2 w x f kd ho tu i k d := ⟨_, rfl⟩
  have HP : Hid (∀ x, p x → HW2 w x f kd ho tu i k d) := by rw [hp]; exact fun _ h => h
  have HN : Hid (∀ x w', p x → Below x.heap.size x w' → p w') := by rw [hp]; exact fun _ _ h b => h.next b
  have H0 : Hid (p w1.drew) := by rw [hp]; exact HD.out
  have hne : Nonempty (Kin p) := ⟨⟨_, H0.out⟩⟩
  have m0 : ∀ q : Kin p, q.x.cell? ⟨w.heap.size, 0, none⟩ = some (.int .i64 (f 0)) := fun q => (HP.out _ q.h).1.cell 0 rfl
  have m1 : ∀ q : Kin p, q.x.cell? ⟨w.heap.size, 1, none⟩ = some (.int .i64 (f 1)) := fun q => (HP.out _ q.h).1.cell 1 rfl
  have m2 : ∀ q : Kin p, q.x.cell? ⟨w.heap.size, 2, none⟩ = some (.int .i64 (f 2)) := fun q => (HP.out _ q.h).1.cell 2 rfl
  have m3 : ∀ q : Kin p, q.x.cell? ⟨w.heap.size, 3, none⟩ = some (.int .i64 (f 3)) := fun q => (HP.out _ q.h).1.cell 3 rfl
  have m4 : ∀ q : Kin p, q.x.cell? ⟨w.heap.size, 4, none⟩ = some (.int .i64 kd) := fun q => (HP.out _ q.h).1.cell 4 rfl
  have m5 : ∀ q : Kin p, q.x.cell? ⟨w.heap.size, 5, none⟩ = some (.int .i64 ho) := fun q => (HP.out _ q.h).1.cell 5 rfl
  have m6 : ∀ q : Kin p, q.x.cell? ⟨w.heap.size, 6, none⟩ = some (.int .i64 tu) := fun q => (HP.out _ q.h).1.cell 6 rfl
  have p0 : ∀ q : Kin p, q.x.cell? ⟨w.heap.size + 1, 0, none⟩ = some (.int .i64 i) := fun q => (HP.out _ q.h).2.1.cell 0 rfl
  have p1 : ∀ q : Kin p, q.x.cell? ⟨w.heap.size + 1, 1, none⟩ = some (.int .i64 k) := fun q => (HP.out _ q.h).2.1.cell 1 rfl
  have p2 : ∀ q : Kin p, q.x.cell? ⟨w.heap.size + 1, 2, none⟩ = some (.int .i64 d) := fun q => (HP.out _ q.h).2.1.cell 2 rfl
  unfold heA wiA at c1
  rw [heA, wiA] at hw1 ⊢
  go_enter Try.func95, Try.ntmps95
  go_upto_region 1 with fail
  rw [← hw1]
  clear hw1 HS hp
  have C2 : Hid (∀ q : Kin p, _) := fun q => c2 q.x (heA_at (HP.out _ q.h).1)
  clear c2
  cases x with
  | true =>
    refine wp_region_kin p (by kernel_rfl) (by kernel_rfl) H0.out ?_
    repeat (quiet_step (first | (go_at_call 91; exact Kin.call (c1 _) HN.out)))
    refine wpQuiet_nil ?_
    intro w2 hw'
    have H2 : p w2 := by { obtain ⟨q, rfl⟩ := hw'; exact q.h }
    clear hw'
    go_wp2
    go_ret
    exact ⟨ret_bool (by rw [HE.out]; simp), (HP.out _ H2).2.2⟩
  | false =>
    refine wp_region_kin p (by kernel_rfl) (by kernel_rfl) H0.out ?_
    repeat (quiet_step (first | (go_at_call 91; exact Kin.call (c1 _) HN.out) | (go_at_call 104; exact Kin.same (C2.out _))))
    refine wpQuiet_nil ?_
    intro w2 hw'
    have H2 : p w2 := by { obtain ⟨q, rfl⟩ := hw'; exact q.h }
    clear hw'
    go_wp2
    go_ret
    exact ⟨ret_bool (by rw [HE.out]; simp), (HP.out _ H2).2.2⟩

set_option maxRecDepth 20000 in
set_option maxHeartbeats 2000000 in
theorem irekeyed_any (f : Nat → Int) (kd ho tu i k d : Int) (w : World) (t0 : 0 ≤ tu) (t1 : tu ≤ 1000000000) (i0 : 0 ≤ i) (i1 : i < 4) :
    Calls Try.prog 86 #[.agg (heA f kd ho tu), .agg (wiA i k d)] w fun e w' => e = .returned (.agg (heA (updF f i.toNat k) (if midF (updF f i.toNat k) kd ho then kd else 0) (if midF (updF f i.toNat k) kd ho then ho else -1) (turnI tu))) ∧ Below w.heap.size w w' := by
  obtain ⟨j, hj, hj4⟩ : ∃ j : Nat, i = (j : Int) ∧ j < 4 := ⟨i.toNat, by omega, by omega⟩
  subst hj
  rw [Int.toNat_natCast]
  obtain ⟨w1, hw1⟩ : ∃ w1, w1 = ((w.alloc (.cells (heA f kd ho tu) 68)).alloc (.cells (wiA j k d) 55)).alloc (.cells he0A 68) := ⟨_, rfl⟩
  have HS : Hid (HW w w1 f kd ho tu j k d) := by rw [hw1]; exact HW.start _ _ _ _ _ _ _ _
  obtain ⟨w2, hw2⟩ : ∃ w2, w2 = w1.setCell ⟨w.heap.size, j, none⟩ (.int .i64 k) := ⟨_, rfl⟩
  have H2 : Hid (HW w w2 (updF f j k) kd ho tu j k d) := by rw [hw2]; exact HS.out.put j k (heA_set f kd ho tu k j hj4)
  obtain ⟨p0, p1, p2⟩ := wiA_cells HS.out.2.1
  have hc := heA_at HS.out.1 j hj4
  have hf := HS.out.1.frozen j
  obtain ⟨g, hg⟩ : ∃ g, g = updF f j k := ⟨_, rfl⟩
  rw [← hg] at H2 ⊢
  have c1 := fun wx => iholderok_any g kd ho tu wx
  have c2 := fun wx => iunheld_any g kd ho tu wx
  have c3 := fun wx => iturned_any g kd ho tu wx t0 t1
  have c4 := fun wx => iturned_any g 0 (-1) tu wx t0 t1
  obtain ⟨x, hx⟩ : ∃ x, x = midF g kd ho := ⟨_, rfl⟩
  rw [← hx]
  simp only [← hx] at c1
  have hl : (j : Int) < 4 := by omega
  clear hx hg HS t0 t1 i0 i1 hj4
  rw [heA, wiA, he0A, heA] at hw1
  conv in heA f kd ho tu => unfold heA
  rw [wiA]
  go_enter Try.func86, Try.ntmps86
  go_upto_region 1 with fail
  rw [← hw1]
  clear hw1
  go_upto_region 2 with fail
  rw [← hw2]
  clear hw2 p0 p1 p2 hc hf
  cases x with
  | true =>
    clear c2 c4
    go_wp2_with (first | (refine wpList_getS Try.isHeld rfl _ rfl w.heap.size rfl (heA g kd ho tu) rfl H3.out.1 ?_) | (refine wpList_getS Try.isHeld rfl _ rfl w.heap.size rfl (heA g kd ho tu) rfl H2.out.1 ?_) | (go_at_call 80; refine (c1 _).mono ?_; rintro e w3 ⟨rfl, b3⟩; have H3 : Hid (HW w w3 g kd ho tu j k d) := H2.out.next b3; clear b3) | (go_at_call 103; refine (c3 _).mono ?_; rintro e w4 ⟨rfl, b4⟩; have H4 : Hid (HW w w4 g kd ho tu j k d) := H3.out.next b4; clear b4) | (refine wpList_putS Try.isHeld rfl _ _ rfl (w.heap.size + 2) (heA g kd ho (turnI tu)) he0A rfl rfl rfl rfl (heA_one _ _ _ _) H4.out.2.2.1 ?_; intro w5 h5 g5))
    refine bodyPost_ret (results_S Try.isHeld rfl _ _ (w.heap.size + 2) _ rfl rfl h5) rfl ?_
    exact ⟨rfl, H4.out.2.2.2.grown g5 H4.out.2.2.2.size (fun k e => by cases e; omega)⟩
  | false =>
    clear c3
    go_upto_region 3 with (first | (refine wpList_getS Try.isHeld rfl _ rfl w.heap.size rfl (heA g kd ho tu) rfl H2.out.1 ?_) | (go_at_call 80; refine (c1 _).mono ?_; rintro e w3 ⟨rfl, b3⟩; have H3 : Hid (HW w w3 g kd ho tu j k d) := H2.out.next b3; clear b3))
    clear H2 c1
    go_upto_region 4 with (first | (refine wpList_getS Try.isHeld rfl _ rfl w.heap.size rfl (heA g kd ho tu) rfl H3.out.1 ?_) | (go_at_call 102; refine (c2 _).mono ?_; rintro e w4 ⟨rfl, b4⟩; have H4 : Hid (HW w w4 g kd ho tu j k d) := H3.out.next b4; clear b4) | (refine wpList_putS Try.isHeld rfl _ _ rfl w.heap.size (heA g 0 (-1) tu) (heA g kd ho tu) rfl rfl rfl rfl (heA_one _ _ _ _) H4.out.1 ?_; intro w5 h5 g5; have H5 : Hid (HW w w5 g 0 (-1) tu j k d) := H4.out.set h5 g5; clear h5 g5))
    clear H3 H4 c2
    go_wp2_with (first | (refine wpList_getS Try.isHeld rfl _ rfl w.heap.size rfl (heA g 0 (-1) tu) rfl H5.out.1 ?_) | (go_at_call 103; refine (c4 _).mono ?_; rintro e w6 ⟨rfl, b6⟩; have H6 : Hid (HW w w6 g 0 (-1) tu j k d) := H5.out.next b6; clear b6) | (refine wpList_putS Try.isHeld rfl _ _ rfl (w.heap.size + 2) (heA g 0 (-1) (turnI tu)) he0A rfl rfl rfl rfl (heA_one _ _ _ _) H6.out.2.2.1 ?_; intro w7 h7 g7))
    refine bodyPost_ret (results_S Try.isHeld rfl _ _ (w.heap.size + 2) _ rfl rfl h7) rfl ?_
    exact ⟨rfl, H6.out.2.2.2.grown g7 H6.out.2.2.2.size (fun k e => by cases e; omega)⟩
end Go.Proofs.Ytppkncmlloelbaa
