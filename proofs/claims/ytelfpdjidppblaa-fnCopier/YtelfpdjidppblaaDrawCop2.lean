/- What the laws on copiers draw: DrawCopierOk, DrawNext, DrawAgain, DrawClean, DrawNewCopier, DrawMarked, DrawAcked. -/
import Derived.Test.YtelfpdjidppblaaDrawCop
import Derived.Test.YtelfpdjidppblaaDrawNC
namespace Go.Proofs.Ytelfpdjidppblaa
open Go.ChangeShapes Go.WideShapes Go.ChangeAt Go.RowKit

set_option maxRecDepth 20000 in
set_option maxHeartbeats 2000000 in
theorem drawCopierOk_any (B : Nat) (v : Value) (w : World) (h : CodeOk w B v) (hB : B ≤ w.heap.size) :
    Calls Try.prog 44 #[v] w fun e w' => ∃ u c, e = .returned (CpV u c) ∧ Own w' w.heap.size u c.ts ∧ c.ts.length ≤ 8 ∧ Below w.heap.size w w' := by
  obtain ⟨w1, hw1⟩ : ∃ w1, w1 = w.alloc (.cells zeroCp 26) := ⟨_, rfl⟩
  have b1 : Below w.heap.size w w1 := by rw [hw1]; exact (Below.refl _ _).alloc (Nat.le_refl _) _
  have HS : Hid (StB w1 w.heap.size 26 zeroCp ∧ Below w.heap.size w w1) := ⟨by rw [hw1]; exact StB.new w _ _, b1⟩
  have c1 := new_code B v w1 (h.below (b1.mono hB)) (Nat.le_trans hB b1.size)
  unfold zeroCp at hw1
  clear h b1
  go_enter Try.func44, Try.ntmps44
  go_upto_region 1 with fail
  rw [← hw1]
  clear hw1
  go_wp2_with fail
  refine c1.mono ?_
  rintro e w2 ⟨cc, rfl, hc, C2, G2⟩
  have HS2 : Hid (StB w2 w.heap.size 26 zeroCp ∧ w1.grownBy w2 none) := ⟨HS.out.1.kept G2 (by simp), G2⟩
  clear c1 G2
  go_wp2_with fail
  refine (l13draw_any B cc _ C2).mono ?_
  rintro e w3 ⟨u, c, rfl, o3, hl, C3, G3⟩
  have hg := HS.out.1.lt
  have hs2 := HS2.out.1.lt
  have s3 := HS2.out.1.kept G3 (fun e => by have := Option.some.inj e; omega)
  have b3 : Below w1.heap.size w1 w3 := below_of_cur HS2.out.2 hc G3
  have HB : Hid (Below w.heap.size w w3) := HS.out.2.trans (b3.mono HS.out.2.size)
  have h1 := reads_one o3.reads
  have HO : Hid (Own w3 (w.heap.size + 1) u c.ts) := o3.mono (by have := HS2.out.2.size; omega)
  clear C2 C3 G3 b3 o3 HS HS2
  unfold CpV
  go_wp2_with (refine wpList_putS Try.isCp rfl _ _ rfl w.heap.size (cpA u c) zeroCp rfl rfl rfl rfl (cpA_one c h1) s3 ?_; intro w8 s8 g8)
  refine bodyPost_ret (results_S Try.isCp rfl _ _ w.heap.size _ rfl rfl s8) rfl ?_
  exact ⟨u, c, rfl, (HO.out.keptLt g8 (by omega)).mono (by omega), hl, HB.out.grown g8 HB.out.size (fun k e => by cases e; omega)⟩

set_option maxRecDepth 20000 in
set_option maxHeartbeats 2000000 in
theorem drawNext_any (B : Nat) (v : Value) (w : World) (h : CodeOk w B v) (hB : B ≤ w.heap.size) :
    Calls Try.prog 13 #[v] w fun e w' => ∃ u c, e = .returned (CpV u c) ∧ Own w' w.heap.size u c.ts ∧ c.ts.length ≤ 8 ∧ Below w.heap.size w w' := by
  obtain ⟨w1, hw1⟩ : ∃ w1, w1 = w.alloc (.cells zeroCp 26) := ⟨_, rfl⟩
  have b1 : Below w.heap.size w w1 := by rw [hw1]; exact (Below.refl _ _).alloc (Nat.le_refl _) _
  have HS : Hid (StB w1 w.heap.size 26 zeroCp ∧ Below w.heap.size w w1) := ⟨by rw [hw1]; exact StB.new w _ _, b1⟩
  have c1 := drawCopierOk_any B v w1 (h.below (b1.mono hB)) (Nat.le_trans hB b1.size)
  unfold zeroCp at hw1
  clear h b1
  go_enter Try.func13, Try.ntmps13
  go_upto_region 1 with fail
  rw [← hw1]
  clear hw1
  go_wp2_with fail
  refine c1.mono ?_
  rintro e w3 ⟨u, c, rfl, o3, hl, b3⟩
  have hg := HS.out.1.lt
  have s3 := HS.out.1.below b3
  have HB : Hid (Below w.heap.size w w3) := HS.out.2.trans (b3.mono HS.out.2.size)
  have h1 := reads_one o3.reads
  have HO : Hid (Own w3 (w.heap.size + 1) u c.ts) := o3.mono (by omega)
  clear b3 o3 HS c1
  unfold CpV
  go_wp2_with (refine wpList_putS Try.isCp rfl _ _ rfl w.heap.size (cpA u c) zeroCp rfl rfl rfl rfl (cpA_one c h1) s3 ?_; intro w8 s8 g8)
  refine bodyPost_ret (results_S Try.isCp rfl _ _ w.heap.size _ rfl rfl s8) rfl ?_
  exact ⟨u, c, rfl, (HO.out.keptLt g8 (by omega)).mono (by omega), hl, HB.out.grown g8 HB.out.size (fun k e => by cases e; omega)⟩

set_option maxRecDepth 20000 in
set_option maxHeartbeats 2000000 in
theorem drawAgain_any (B : Nat) (v : Value) (w : World) (h : CodeOk w B v) (hB : B ≤ w.heap.size) :
    Calls Try.prog 32 #[v] w fun e w' => ∃ u c, e = .returned (CpV u c) ∧ Own w' w.heap.size u c.ts ∧ c.ts.length ≤ 8 ∧ Below w.heap.size w w' := by
  obtain ⟨w1, hw1⟩ : ∃ w1, w1 = w.alloc (.cells zeroCp 26) := ⟨_, rfl⟩
  have b1 : Below w.heap.size w w1 := by rw [hw1]; exact (Below.refl _ _).alloc (Nat.le_refl _) _
  have HS : Hid (StB w1 w.heap.size 26 zeroCp ∧ Below w.heap.size w w1) := ⟨by rw [hw1]; exact StB.new w _ _, b1⟩
  have c1 := drawCopierOk_any B v w1 (h.below (b1.mono hB)) (Nat.le_trans hB b1.size)
  unfold zeroCp at hw1
  clear h b1
  go_enter Try.func32, Try.ntmps32
  go_upto_region 1 with fail
  rw [← hw1]
  clear hw1
  go_wp2_with fail
  refine c1.mono ?_
  rintro e w3 ⟨u, c, rfl, o3, hl, b3⟩
  have hg := HS.out.1.lt
  have s3 := HS.out.1.below b3
  have HB : Hid (Below w.heap.size w w3) := HS.out.2.trans (b3.mono HS.out.2.size)
  have h1 := reads_one o3.reads
  have HO : Hid (Own w3 (w.heap.size + 1) u c.ts) := o3.mono (by omega)
  clear b3 o3 HS c1
  unfold CpV
  go_wp2_with (refine wpList_putS Try.isCp rfl _ _ rfl w.heap.size (cpA u c) zeroCp rfl rfl rfl rfl (cpA_one c h1) s3 ?_; intro w8 s8 g8)
  refine bodyPost_ret (results_S Try.isCp rfl _ _ w.heap.size _ rfl rfl s8) rfl ?_
  exact ⟨u, c, rfl, (HO.out.keptLt g8 (by omega)).mono (by omega), hl, HB.out.grown g8 HB.out.size (fun k e => by cases e; omega)⟩

set_option maxRecDepth 20000 in
set_option maxHeartbeats 2000000 in
theorem drawClean_any (B : Nat) (v : Value) (w : World) (h : CodeOk w B v) (hB : B ≤ w.heap.size) :
    Calls Try.prog 34 #[v] w fun e w' => ∃ u c, e = .returned (CpV u c) ∧ Own w' w.heap.size u c.ts ∧ c.ts.length ≤ 8 ∧ Below w.heap.size w w' := by
  obtain ⟨w1, hw1⟩ : ∃ w1, w1 = w.alloc (.cells zeroCp 26) := ⟨_, rfl⟩
  have b1 : Below w.heap.size w w1 := by rw [hw1]; exact (Below.refl _ _).alloc (Nat.le_refl _) _
  have HS : Hid (StB w1 w.heap.size 26 zeroCp ∧ Below w.heap.size w w1) := ⟨by rw [hw1]; exact StB.new w _ _, b1⟩
  have c1 := drawCopierOk_any B v w1 (h.below (b1.mono hB)) (Nat.le_trans hB b1.size)
  unfold zeroCp at hw1
  clear h b1
  go_enter Try.func34, Try.ntmps34
  go_upto_region 1 with fail
  rw [← hw1]
  clear hw1
  go_wp2_with fail
  refine c1.mono ?_
  rintro e w3 ⟨u, c, rfl, o3, hl, b3⟩
  have hg := HS.out.1.lt
  have s3 := HS.out.1.below b3
  have HB : Hid (Below w.heap.size w w3) := HS.out.2.trans (b3.mono HS.out.2.size)
  have h1 := reads_one o3.reads
  have HO : Hid (Own w3 (w.heap.size + 1) u c.ts) := o3.mono (by omega)
  clear b3 o3 HS c1
  unfold CpV
  go_wp2_with (refine wpList_putS Try.isCp rfl _ _ rfl w.heap.size (cpA u c) zeroCp rfl rfl rfl rfl (cpA_one c h1) s3 ?_; intro w8 s8 g8)
  refine bodyPost_ret (results_S Try.isCp rfl _ _ w.heap.size _ rfl rfl s8) rfl ?_
  exact ⟨u, c, rfl, (HO.out.keptLt g8 (by omega)).mono (by omega), hl, HB.out.grown g8 HB.out.size (fun k e => by cases e; omega)⟩

/- A copier was drawn: it lies in block k, the answer's block is the first new one, the cursor stands. -/
structure DMc (w wx : World) (B cc k : Nat) (v : Value) (c : Cp) : Prop where
  rs : StB wx w.heap.size 26 zeroCp
  st : StB wx k 26 (cpA v c)
  own : Own wx (w.heap.size + 1) v c.ts
  cur : Cur wx B cc
  bl : Below w.heap.size w wx
  bd : w.heap.size < cc ∧ w.heap.size < k ∧ cc ≠ k ∧ ∀ q, v.ownBlock = some q → q ≠ cc
theorem DMc.draw {w wx wy : World} {B cc k : Nat} {v : Value} {c : Cp} (d : DMc w wx B cc k v c) (C : Cur wy B cc) (G : wx.grownBy wy (some cc)) : DMc w wy B cc k v c := by
  have h := d.bd
  exact ⟨d.rs.kept G (fun e => by have := Option.some.inj e; omega), d.st.kept G (fun e => by have := Option.some.inj e; omega), d.own.kept G (.inr (fun e => h.2.2.2 cc e rfl)), C, d.bl.grown G d.bl.size (fun q e => by cases e; omega), h⟩
theorem DMc.below {w wx wy : World} {B cc k : Nat} {v : Value} {c : Cp} (d : DMc w wx B cc k v c) (b : Below wx.heap.size wx wy) : DMc w wy B cc k v c :=
  ⟨d.rs.below b, d.st.below b, d.own.below b, d.cur.below b, d.bl.trans (b.mono d.bl.size), d.bd⟩
theorem DMc.drew {w wx : World} {B cc k : Nat} {v : Value} {c : Cp} (d : DMc w wx B cc k v c) : DMc w wx.drew B cc k v c := d.below (Below.refl _ _).drew

set_option maxRecDepth 20000 in
set_option maxHeartbeats 2000000 in
theorem drawMarked_any (B : Nat) (v : Value) (w : World) (h : CodeOk w B v) (hB : B ≤ w.heap.size) :
    Calls Try.prog 30 #[v] w fun e w' => ∃ u c x, e = .returned (.tuple #[CpV u c, .int .i64 x]) ∧ Own w' w.heap.size u c.ts ∧ c.ts.length ≤ 8 ∧ Below w.heap.size w w' := by
  obtain ⟨w1, hw1⟩ : ∃ w1, w1 = w.alloc (.cells zeroCp 26) := ⟨_, rfl⟩
  have b1 : Below w.heap.size w w1 := by rw [hw1]; exact (Below.refl _ _).alloc (Nat.le_refl _) _
  have HS : Hid (StB w1 w.heap.size 26 zeroCp ∧ Below w.heap.size w w1) := ⟨by rw [hw1]; exact StB.new w _ _, b1⟩
  have c1 := new_code B v w1 (h.below (b1.mono hB)) (Nat.le_trans hB b1.size)
  unfold zeroCp at hw1
  clear h b1
  go_enter Try.func30, Try.ntmps30
  go_upto_region 1 with fail
  rw [← hw1]
  clear hw1
  go_wp2_with fail
  refine c1.mono ?_
  rintro e w2 ⟨cc, rfl, hc, C2, G2⟩
  have HS2 : Hid (StB w2 w.heap.size 26 zeroCp ∧ w1.grownBy w2 none) := ⟨HS.out.1.kept G2 (by simp), G2⟩
  clear c1 G2
  go_wp2_with fail
  refine (l13draw_any B cc _ C2).mono ?_
  rintro e w3 ⟨u, c, rfl, o3, hl, C3, G3⟩
  have hg := HS.out.1.lt
  have hs2 := HS2.out.1.lt
  have hcl := C2.lt
  have hz2 := HS2.out.2.size
  have hz3 := G3.size
  have s3 := HS2.out.1.kept G3 (fun e => by have := Option.some.inj e; omega)
  have b3 : Below w1.heap.size w1 w3 := below_of_cur HS2.out.2 hc G3
  have B3 : Below w.heap.size w w3 := HS.out.2.trans (b3.mono HS.out.2.size)
  obtain ⟨ao, cap, rfl⟩ := reads_form o3.reads
  obtain ⟨w4, hw4⟩ : ∃ w4, w4 = w3.alloc (.cells (cpA (.slice ao c.ts.length cap) c) 26) := ⟨_, rfl⟩
  have b4 : Below w3.heap.size w3 w4 := by rw [hw4]; exact (Below.refl _ _).alloc (Nat.le_refl _) _
  have hou := o3.lt
  have D4 : Hid (DMc w w4 B cc w3.heap.size (.slice ao c.ts.length cap) c) := ⟨s3.below b4, by rw [hw4]; exact StB.new _ _ _, (o3.mono (by omega)).below b4, C3.below b4, B3.trans (b4.mono B3.size), ⟨by omega, by omega, by omega, fun q hq => by have := hou q hq; omega⟩⟩
  clear C2 C3 G3 b3 o3 HS HS2 s3 B3 b4 hou hs2
  have HW4 : Hid (w4 = w3.alloc (.cells #[.int .i64 c.tr, .bool c.op, .int .i64 c.di, .int .i64 c.wa, .slice ao c.ts.length cap] 26)) := hw4
  clear hw4
  unfold CpV cpA
  go_upto_region 3 with fail
  rw [← HW4.out]
  clear HW4
  have k0 : w4.cell? ⟨w3.heap.size, 0, none⟩ = some (.int .i64 c.tr) := D4.out.st.cell 0 rfl
  have k1 : w4.cell? ⟨w3.heap.size, 1, none⟩ = some (.bool c.op) := D4.out.st.cell 1 rfl
  have k2 : w4.cell? ⟨w3.heap.size, 2, none⟩ = some (.int .i64 c.di) := D4.out.st.cell 2 rfl
  have k3 : w4.cell? ⟨w3.heap.size, 3, none⟩ = some (.int .i64 c.wa) := D4.out.st.cell 3 rfl
  have k4 : w4.cell? ⟨w3.heap.size, 4, none⟩ = some (.slice ao c.ts.length cap) := D4.out.st.cell 4 rfl
  go_region_with (go_at_call 54; refine (drawItem_any B cc _ D4.out.drew.cur).mono ?_; rintro e w5 ⟨x, rfl, C5, G5⟩; have D5 : Hid (DMc w w5 B cc w3.heap.size (.slice ao c.ts.length cap) c) := D4.out.drew.draw C5 G5; clear C5 G5; have m0 : w5.cell? ⟨w3.heap.size, 0, none⟩ = some (.int .i64 c.tr) := D5.out.st.cell 0 rfl; have m1 : w5.cell? ⟨w3.heap.size, 1, none⟩ = some (.bool c.op) := D5.out.st.cell 1 rfl; have m2 : w5.cell? ⟨w3.heap.size, 2, none⟩ = some (.int .i64 c.di) := D5.out.st.cell 2 rfl; have m3 : w5.cell? ⟨w3.heap.size, 3, none⟩ = some (.int .i64 c.wa) := D5.out.st.cell 3 rfl; have m4 : w5.cell? ⟨w3.heap.size, 4, none⟩ = some (.slice ao c.ts.length cap) := D5.out.st.cell 4 rfl; have z0 : w5.cell? ⟨w.heap.size, 0, none⟩ = some (.int .i64 0) := D5.out.rs.cell 0 rfl; have fz0 := D5.out.rs.frozen 0; have z1 : w5.cell? ⟨w.heap.size, 1, none⟩ = some (.bool false) := D5.out.rs.cell 1 rfl; have fz1 := D5.out.rs.frozen 1; have z2 : w5.cell? ⟨w.heap.size, 2, none⟩ = some (.int .i64 0) := D5.out.rs.cell 2 rfl; have fz2 := D5.out.rs.frozen 2; have z3 : w5.cell? ⟨w.heap.size, 3, none⟩ = some (.int .i64 0) := D5.out.rs.cell 3 rfl; have fz3 := D5.out.rs.frozen 3; have z4 : w5.cell? ⟨w.heap.size, 4, none⟩ = some (.slice none 0 0) := D5.out.rs.cell 4 rfl; have fz4 := D5.out.rs.frozen 4)
  all_goals
    go_wp2
    have G5 := putC5_grown w5 w.heap.size (.slice ao c.ts.length cap) c
    refine bodyPost_ret (results_S2 Try.isCp rfl _ _ w.heap.size _ _ rfl rfl rfl (putC5_st (.slice ao c.ts.length cap) c D5.out.rs)) rfl ?_
    exact ⟨.slice ao c.ts.length cap, c, x, rfl, (D5.out.own.keptLt G5 (by omega)).mono (by omega), hl, D5.out.bl.grown G5 D5.out.bl.size (fun k e => by cases e; omega)⟩

set_option maxRecDepth 20000 in
set_option maxHeartbeats 4000000 in
theorem drawAcked_any (B : Nat) (v : Value) (w : World) (h : CodeOk w B v) (hB : B ≤ w.heap.size) :
    Calls Try.prog 15 #[v] w fun e w' => ∃ u c x y, e = .returned (.tuple #[CpV u c, .int .i64 x, .int .i64 y]) ∧ Own w' w.heap.size u c.ts ∧ c.ts.length ≤ 8 ∧ Below w.heap.size w w' := by
  obtain ⟨w1, hw1⟩ : ∃ w1, w1 = w.alloc (.cells zeroCp 26) := ⟨_, rfl⟩
  have b1 : Below w.heap.size w w1 := by rw [hw1]; exact (Below.refl _ _).alloc (Nat.le_refl _) _
  have HS : Hid (StB w1 w.heap.size 26 zeroCp ∧ Below w.heap.size w w1) := ⟨by rw [hw1]; exact StB.new w _ _, b1⟩
  have c1 := new_code B v w1 (h.below (b1.mono hB)) (Nat.le_trans hB b1.size)
  unfold zeroCp at hw1
  clear h b1
  go_enter Try.func15, Try.ntmps15
  go_upto_region 1 with fail
  rw [← hw1]
  clear hw1
  go_wp2_with fail
  refine c1.mono ?_
  rintro e w2 ⟨cc, rfl, hc, C2, G2⟩
  have HS2 : Hid (StB w2 w.heap.size 26 zeroCp ∧ w1.grownBy w2 none) := ⟨HS.out.1.kept G2 (by simp), G2⟩
  clear c1 G2
  go_wp2_with fail
  refine (l13draw_any B cc _ C2).mono ?_
  rintro e w3 ⟨u, c, rfl, o3, hl, C3, G3⟩
  have hg := HS.out.1.lt
  have hs2 := HS2.out.1.lt
  have hcl := C2.lt
  have hz2 := HS2.out.2.size
  have hz3 := G3.size
  have s3 := HS2.out.1.kept G3 (fun e => by have := Option.some.inj e; omega)
  have b3 : Below w1.heap.size w1 w3 := below_of_cur HS2.out.2 hc G3
  have B3 : Below w.heap.size w w3 := HS.out.2.trans (b3.mono HS.out.2.size)
  obtain ⟨ao, cap, rfl⟩ := reads_form o3.reads
  obtain ⟨w4, hw4⟩ : ∃ w4, w4 = w3.alloc (.cells (cpA (.slice ao c.ts.length cap) c) 26) := ⟨_, rfl⟩
  have b4 : Below w3.heap.size w3 w4 := by rw [hw4]; exact (Below.refl _ _).alloc (Nat.le_refl _) _
  have hou := o3.lt
  have D4 : Hid (DMc w w4 B cc w3.heap.size (.slice ao c.ts.length cap) c) := ⟨s3.below b4, by rw [hw4]; exact StB.new _ _ _, (o3.mono (by omega)).below b4, C3.below b4, B3.trans (b4.mono B3.size), ⟨by omega, by omega, by omega, fun q hq => by have := hou q hq; omega⟩⟩
  clear C2 C3 G3 b3 o3 HS HS2 s3 B3 b4 hou hs2
  have HW4 : Hid (w4 = w3.alloc (.cells #[.int .i64 c.tr, .bool c.op, .int .i64 c.di, .int .i64 c.wa, .slice ao c.ts.length cap] 26)) := hw4
  clear hw4
  unfold CpV cpA
  go_wp2_with fail
  rw [← HW4.out]
  clear HW4
  refine (drawItem_any B cc _ D4.out.cur).mono ?_
  rintro e w5 ⟨i, rfl, C5, G5⟩
  have D5 : Hid (DMc w w5 B cc w3.heap.size (.slice ao c.ts.length cap) c) := D4.out.draw C5 G5
  clear C5 G5 D4
  have k0 : w5.cell? ⟨w3.heap.size, 0, none⟩ = some (.int .i64 c.tr) := D5.out.st.cell 0 rfl
  have k1 : w5.cell? ⟨w3.heap.size, 1, none⟩ = some (.bool c.op) := D5.out.st.cell 1 rfl
  have k2 : w5.cell? ⟨w3.heap.size, 2, none⟩ = some (.int .i64 c.di) := D5.out.st.cell 2 rfl
  have k3 : w5.cell? ⟨w3.heap.size, 3, none⟩ = some (.int .i64 c.wa) := D5.out.st.cell 3 rfl
  have k4 : w5.cell? ⟨w3.heap.size, 4, none⟩ = some (.slice ao c.ts.length cap) := D5.out.st.cell 4 rfl
  have c6 := shas_any (.slice ao c.ts.length cap) c i w5 D5.out.own.reads
  have HI := has_iff c i
  obtain ⟨b, hb⟩ : ∃ b, b = c.has i := ⟨_, rfl⟩
  rw [← hb] at c6 HI
  unfold CpV cpA at c6
  clear hb
  go_wp2_with fail
  refine c6.mono ?_
  rintro e w6 ⟨rfl, b6⟩
  have D6 : Hid (DMc w w6 B cc w3.heap.size (.slice ao c.ts.length cap) c) := D5.out.below b6
  clear D5 c6 b6 k0 k1 k2 k3 k4
  cases b with
  | false =>
    clear HI
    have k0 : w6.cell? ⟨w3.heap.size, 0, none⟩ = some (.int .i64 c.tr) := D6.out.st.cell 0 rfl
    have k1 : w6.cell? ⟨w3.heap.size, 1, none⟩ = some (.bool c.op) := D6.out.st.cell 1 rfl
    have k2 : w6.cell? ⟨w3.heap.size, 2, none⟩ = some (.int .i64 c.di) := D6.out.st.cell 2 rfl
    have k3 : w6.cell? ⟨w3.heap.size, 3, none⟩ = some (.int .i64 c.wa) := D6.out.st.cell 3 rfl
    have k4 : w6.cell? ⟨w3.heap.size, 4, none⟩ = some (.slice ao c.ts.length cap) := D6.out.st.cell 4 rfl
    go_wp2_with fail
    go_region_with (go_at_call 57; refine (from_any B cc (-1) 5 _ D6.out.drew.cur (by omega) (by omega) (by omega)).mono ?_; rintro e w8 ⟨y, rfl, ly, uy, C8, G8⟩; have D8 : Hid (DMc w w8 B cc w3.heap.size (.slice ao c.ts.length cap) c) := D6.out.drew.draw C8 G8; clear C8 G8; have m0 : w8.cell? ⟨w3.heap.size, 0, none⟩ = some (.int .i64 c.tr) := D8.out.st.cell 0 rfl; have m1 : w8.cell? ⟨w3.heap.size, 1, none⟩ = some (.bool c.op) := D8.out.st.cell 1 rfl; have m2 : w8.cell? ⟨w3.heap.size, 2, none⟩ = some (.int .i64 c.di) := D8.out.st.cell 2 rfl; have m3 : w8.cell? ⟨w3.heap.size, 3, none⟩ = some (.int .i64 c.wa) := D8.out.st.cell 3 rfl; have m4 : w8.cell? ⟨w3.heap.size, 4, none⟩ = some (.slice ao c.ts.length cap) := D8.out.st.cell 4 rfl; have z0 : w8.cell? ⟨w.heap.size, 0, none⟩ = some (.int .i64 0) := D8.out.rs.cell 0 rfl; have fz0 := D8.out.rs.frozen 0; have z1 : w8.cell? ⟨w.heap.size, 1, none⟩ = some (.bool false) := D8.out.rs.cell 1 rfl; have fz1 := D8.out.rs.frozen 1; have z2 : w8.cell? ⟨w.heap.size, 2, none⟩ = some (.int .i64 0) := D8.out.rs.cell 2 rfl; have fz2 := D8.out.rs.frozen 2; have z3 : w8.cell? ⟨w.heap.size, 3, none⟩ = some (.int .i64 0) := D8.out.rs.cell 3 rfl; have fz3 := D8.out.rs.frozen 3; have z4 : w8.cell? ⟨w.heap.size, 4, none⟩ = some (.slice none 0 0) := D8.out.rs.cell 4 rfl; have fz4 := D8.out.rs.frozen 4)
    all_goals
      go_wp2
      have G8 := putC5_grown w8 w.heap.size (.slice ao c.ts.length cap) c
      refine bodyPost_ret (results_S3 Try.isCp rfl _ _ w.heap.size _ _ _ rfl rfl rfl rfl (putC5_st (.slice ao c.ts.length cap) c D8.out.rs)) rfl ?_
      exact ⟨.slice ao c.ts.length cap, c, i, y, rfl, (D8.out.own.keptLt G8 (by omega)).mono (by omega), hl, D8.out.bl.grown G8 D8.out.bl.size (fun k e => by cases e; omega)⟩
  | true =>
    obtain ⟨h0, h1⟩ := HI.1 rfl
    clear HI
    go_wp2_with fail
    refine (once_any B cc 4 _ D6.out.cur (by omega)).mono ?_
    rintro e w7 ⟨b7, rfl, C7, G7⟩
    have D7 : Hid (DMc w w7 B cc w3.heap.size (.slice ao c.ts.length cap) c) := D6.out.draw C7 G7
    clear C7 G7 D6
    cases b7 with
    | true =>
      have k0 : w7.cell? ⟨w3.heap.size, 0, none⟩ = some (.int .i64 c.tr) := D7.out.st.cell 0 rfl
      have k1 : w7.cell? ⟨w3.heap.size, 1, none⟩ = some (.bool c.op) := D7.out.st.cell 1 rfl
      have k2 : w7.cell? ⟨w3.heap.size, 2, none⟩ = some (.int .i64 c.di) := D7.out.st.cell 2 rfl
      have k3 : w7.cell? ⟨w3.heap.size, 3, none⟩ = some (.int .i64 c.wa) := D7.out.st.cell 3 rfl
      have k4 : w7.cell? ⟨w3.heap.size, 4, none⟩ = some (.slice ao c.ts.length cap) := D7.out.st.cell 4 rfl
      go_wp2_with fail
      go_region_with (go_at_call 57; refine (from_any B cc (-1) 5 _ D7.out.drew.cur (by omega) (by omega) (by omega)).mono ?_; rintro e w8 ⟨y, rfl, ly, uy, C8, G8⟩; have D8 : Hid (DMc w w8 B cc w3.heap.size (.slice ao c.ts.length cap) c) := D7.out.drew.draw C8 G8; clear C8 G8; have m0 : w8.cell? ⟨w3.heap.size, 0, none⟩ = some (.int .i64 c.tr) := D8.out.st.cell 0 rfl; have m1 : w8.cell? ⟨w3.heap.size, 1, none⟩ = some (.bool c.op) := D8.out.st.cell 1 rfl; have m2 : w8.cell? ⟨w3.heap.size, 2, none⟩ = some (.int .i64 c.di) := D8.out.st.cell 2 rfl; have m3 : w8.cell? ⟨w3.heap.size, 3, none⟩ = some (.int .i64 c.wa) := D8.out.st.cell 3 rfl; have m4 : w8.cell? ⟨w3.heap.size, 4, none⟩ = some (.slice ao c.ts.length cap) := D8.out.st.cell 4 rfl; have z0 : w8.cell? ⟨w.heap.size, 0, none⟩ = some (.int .i64 0) := D8.out.rs.cell 0 rfl; have fz0 := D8.out.rs.frozen 0; have z1 : w8.cell? ⟨w.heap.size, 1, none⟩ = some (.bool false) := D8.out.rs.cell 1 rfl; have fz1 := D8.out.rs.frozen 1; have z2 : w8.cell? ⟨w.heap.size, 2, none⟩ = some (.int .i64 0) := D8.out.rs.cell 2 rfl; have fz2 := D8.out.rs.frozen 2; have z3 : w8.cell? ⟨w.heap.size, 3, none⟩ = some (.int .i64 0) := D8.out.rs.cell 3 rfl; have fz3 := D8.out.rs.frozen 3; have z4 : w8.cell? ⟨w.heap.size, 4, none⟩ = some (.slice none 0 0) := D8.out.rs.cell 4 rfl; have fz4 := D8.out.rs.frozen 4)
      all_goals
        go_wp2
        have G8 := putC5_grown w8 w.heap.size (.slice ao c.ts.length cap) c
        refine bodyPost_ret (results_S3 Try.isCp rfl _ _ w.heap.size _ _ _ rfl rfl rfl rfl (putC5_st (.slice ao c.ts.length cap) c D8.out.rs)) rfl ?_
        exact ⟨.slice ao c.ts.length cap, c, i, y, rfl, (D8.out.own.keptLt G8 (by omega)).mono (by omega), hl, D8.out.bl.grown G8 D8.out.bl.size (fun k e => by cases e; omega)⟩
    | false =>
      obtain ⟨j, rfl⟩ := nat_of h0
      obtain ⟨-, hc1, hc2, hcell⟩ := reads_cells D7.out.own.reads
      obtain ⟨b, off, rfl, kj⟩ := hcell j (by omega)
      unfold maxLen at hc2
      obtain ⟨y, hy⟩ : ∃ y, y = c.ts.getD j 0 := ⟨_, rfl⟩
      rw [← hy] at kj
      have hbn := (D7.out.own.lt b rfl).1
      have hbn1 : b ≠ w.heap.size := by omega
      have hbn2 : w.heap.size ≠ b := by omega
      clear hy hcell
      have m0 : w7.cell? ⟨w3.heap.size, 0, none⟩ = some (.int .i64 c.tr) := D7.out.st.cell 0 rfl
      have m1 : w7.cell? ⟨w3.heap.size, 1, none⟩ = some (.bool c.op) := D7.out.st.cell 1 rfl
      have m2 : w7.cell? ⟨w3.heap.size, 2, none⟩ = some (.int .i64 c.di) := D7.out.st.cell 2 rfl
      have m3 : w7.cell? ⟨w3.heap.size, 3, none⟩ = some (.int .i64 c.wa) := D7.out.st.cell 3 rfl
      have m4 : w7.cell? ⟨w3.heap.size, 4, none⟩ = some (.slice (some ⟨b, off, none⟩) c.ts.length cap) := D7.out.st.cell 4 rfl
      have z0 : w7.cell? ⟨w.heap.size, 0, none⟩ = some (.int .i64 0) := D7.out.rs.cell 0 rfl
      have fz0 := D7.out.rs.frozen 0
      have z1 : w7.cell? ⟨w.heap.size, 1, none⟩ = some (.bool false) := D7.out.rs.cell 1 rfl
      have fz1 := D7.out.rs.frozen 1
      have z2 : w7.cell? ⟨w.heap.size, 2, none⟩ = some (.int .i64 0) := D7.out.rs.cell 2 rfl
      have fz2 := D7.out.rs.frozen 2
      have z3 : w7.cell? ⟨w.heap.size, 3, none⟩ = some (.int .i64 0) := D7.out.rs.cell 3 rfl
      have fz3 := D7.out.rs.frozen 3
      have z4 : w7.cell? ⟨w.heap.size, 4, none⟩ = some (.slice none 0 0) := D7.out.rs.cell 4 rfl
      have fz4 := D7.out.rs.frozen 4
      go_wp2_with fail
      go_region
      obtain ⟨wz, hwz⟩ : ∃ wz, wz = (putC5 w7 w.heap.size (.slice (some ⟨b, off, none⟩) c.ts.length cap) c).drew := ⟨_, rfl⟩
      have SZ : StB wz w.heap.size 26 (cpA (.slice (some ⟨b, off, none⟩) c.ts.length cap) c) := by rw [hwz]; exact (putC5_st (.slice (some ⟨b, off, none⟩) c.ts.length cap) c D7.out.rs).below (Below.refl _ _).drew
      have HZ : Hid (Own wz w.heap.size (.slice (some ⟨b, off, none⟩) c.ts.length cap) c.ts ∧ Below w.heap.size w wz) := by
        have G8 := putC5_grown w7 w.heap.size (.slice (some ⟨b, off, none⟩) c.ts.length cap) c
        rw [hwz]
        exact ⟨((D7.out.own.keptLt G8 (by omega)).mono (by omega)).below (Below.refl _ _).drew, (D7.out.bl.grown G8 D7.out.bl.size (fun k e => by cases e; omega)).drew⟩
      unfold putC5 at hwz
      rw [← hwz]
      clear hwz D7 m0 m1 m2 m3 m4 z0 z1 z2 z3 z4 fz0 fz1 fz2 fz3 fz4 kj
      go_wp2
      refine bodyPost_ret (results_S3 Try.isCp rfl _ _ w.heap.size _ _ _ rfl rfl rfl rfl SZ) rfl ?_
      exact ⟨.slice (some ⟨b, off, none⟩) c.ts.length cap, c, (j : Int), y, rfl, HZ.out.1, hl, HZ.out.2⟩

end Go.Proofs.Ytelfpdjidppblaa
