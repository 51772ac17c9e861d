/- What the law on records draws: l5Draw, l5DrawLog, DrawRecordOk, DrawShowRecord, DrawReadRecord, DrawNoted, DrawRecalled. -/
import Derived.Test.YtjdmbjeginnjiaaDoorNoted
import Derived.Test.YtjdmbjeginnjiaaDoorBend
import Derived.Test.YtjdmbjeginnjiaaDoorSReadR
import Derived.Test.YtjdmbjeginnjiaaDoorDrawFrames
namespace Go.Proofs.YtjdmbjeginnjiaaDoor
open Go.ChangeShapes Go.WideShapes Go.ChangeAt Go.RowKit

/- The cursor stands, nothing else that was there has turned, and two blocks of the call's own hold records. -/
def Dr (w wx : World) (B c g : Nat) (r : Rc) : Prop := Cur wx B c ∧ w.grownBy wx (some c) ∧ RecB wx g 25 r ∧ w.heap.size ≤ g ∧ c < w.heap.size
theorem Dr.draw {w wx wy : World} {B c g : Nat} {r : Rc} (h : Dr w wx B c g r) (C : Cur wy B c) (G : wx.grownBy wy (some c)) : Dr w wy B c g r :=
  ⟨C, h.2.1.trans G, h.2.2.1.kept G (by intro e; have := Option.some.inj e; have := h.2.2.2; omega), h.2.2.2⟩
theorem Dr.alloc {w wx : World} {B c g : Nat} {r : Rc} (h : Dr w wx B c g r) (o : Obj) : Dr w (wx.alloc o) B c g r :=
  ⟨h.1.kept (World.grownBy_alloc wx o none) (by simp) (by simp), h.2.1.trans (World.grownBy_alloc wx o _), h.2.2.1.alloc o, h.2.2.2⟩
theorem Dr.start {w : World} {B c : Nat} (h : Cur w B c) (r : Rc) : Dr w (w.alloc (.cells (recA r) 25)) B c w.heap.size r :=
  ⟨h.kept (World.grownBy_alloc w _ none) (by simp) (by simp), World.grownBy_alloc w _ _, RecB.new w _ r, Nat.le_refl _, h.lt.2⟩
theorem Dr.own {w wx : World} {B c g k : Nat} {r : Rc} (h : Dr w wx B c g r) (hB : B ≤ w.heap.size) (j : Nat) (v : Value) (hk : w.heap.size ≤ k) (hne : k ≠ g) : Dr w (wx.setCell ⟨k, j, none⟩ v) B c g r :=
  ⟨h.1.kept (grownSetS wx k j v) (by intro e; have := Option.some.inj e; have := h.2.2.2; omega) (fun x e => by cases e; omega), grown_ownU h.2.1 (grownSetS wx k j v) (fun x e => by cases e; exact hk), h.2.2.1.kept (grownSetS wx k j v) (by intro e; have := Option.some.inj e; omega), h.2.2.2⟩
theorem RecB.put {w : World} {g : Nat} {t : TypeId} {r : Rc} (h : RecB w g t r) (j : Nat) (x : Int) (q : Rc) (e : (recA r).setIfInBounds j (.int .i64 x) = recA q) : RecB (w.setCell ⟨g, j, none⟩ (.int .i64 x)) g t q := by
  have := heap_setCell_same w g j _ _ (.int .i64 x) h
  rw [e] at this
  exact this
theorem cur_lt {w : World} {B c : Nat} (h : Cur w B c) : B ≤ w.heap.size := by have := h.lt; omega
/- What is left: the record is loaded and stored where the answer lies. -/
theorem Dr.fin {w wx wy : World} {B c g : Nat} {r q : Rc} (h : Dr w wx B c g r) (hB : B ≤ w.heap.size) (_ : RecB wy g 25 q) (G : wx.grownBy wy (some g)) : Cur wy B c ∧ w.grownBy wy (some c) :=
  ⟨h.1.kept G (by intro e; have := Option.some.inj e; have := h.2.2.2; omega) (fun x e => by cases e; have := h.2.2.2; omega), grown_ownU h.2.1 G (fun x e => by cases e; exact h.2.2.2.1)⟩

set_option maxRecDepth 20000 in
set_option maxHeartbeats 4000000 in
theorem l5draw_any (B c : Nat) (w : World) (h : Cur w B c) :
    Calls Tryd.prog 30 #[.pointer (some ⟨c, 0, none⟩)] w fun e w' => ∃ r, e = .returned (RV r) ∧ r.Fit ∧ Cur w' B c ∧ w.grownBy w' (some c) := by
  have hB := cur_lt h
  have H0 : Hid (Dr w (w.alloc (.cells (recA Rc.zero) 25)) B c w.heap.size Rc.zero) := Dr.start h Rc.zero
  clear h
  go_enter Tryd.func30, Tryd.ntmps30
  go_wp2_with fail
  refine (below_any B c 9 _ H0.out.1 (by omega)).mono ?_
  rintro e w1 ⟨x1, rfl, l1, u1, -, C1, G1⟩
  have v1 := u1 (by omega)
  have H1 : Hid (Dr w w1 B c w.heap.size Rc.zero) := H0.out.draw C1 G1
  clear u1 C1 G1 H0
  go_wp2_with fail
  refine (below_any B c 3 _ H1.out.1 (by omega)).mono ?_
  rintro e w2 ⟨x2, rfl, l2, u2, -, C2, G2⟩
  have v2 := u2 (by omega)
  have H2 : Hid (Dr w w2 B c w.heap.size Rc.zero) := H1.out.draw C2 G2
  clear u2 C2 G2 H1
  go_wp2_with fail
  refine (below_any B c 5 _ H2.out.1 (by omega)).mono ?_
  rintro e w3 ⟨x3, rfl, l3, u3, -, C3, G3⟩
  have v3 := u3 (by omega)
  have H3 : Hid (Dr w w3 B c w.heap.size Rc.zero) := H2.out.draw C3 G3
  clear u3 C3 G3 H2
  go_wp2_with fail
  refine (below_any B c 5 _ H3.out.1 (by omega)).mono ?_
  rintro e w4 ⟨x4, rfl, l4, u4, -, C4, G4⟩
  have v4 := u4 (by omega)
  have H4 : Hid (Dr w w4 B c w.heap.size Rc.zero) := H3.out.draw C4 G4
  clear u4 C4 G4 H3
  obtain ⟨r, hr⟩ : ∃ r : Rc, r = ⟨x1, 1 + x2, x3, x4⟩ := ⟨_, rfl⟩
  have hfit : Hid (r.Fit) := by rw [Hid, hr]; unfold Rc.Fit; dsimp only; omega
  have hws : w.heap.size < w4.heap.size := H4.out.2.2.1.lt
  have H5 : Hid (Dr w (w4.alloc (.cells (recA r) 25)) B c w.heap.size Rc.zero) := H4.out.alloc _
  have R5 : Hid (Dr w (w4.alloc (.cells (recA r) 25)) B c w4.heap.size r) := ⟨H5.out.1, H5.out.2.1, RecB.new w4 _ r, by omega, H5.out.2.2.2.2⟩
  have hre : recA r = #[.int .i64 x1, .int .i64 (1 + x2), .int .i64 x3, .int .i64 x4] := by rw [hr]; rfl
  rw [hre] at H5 R5
  clear hre H4
  go_wp2_with fail
  refine (once_any B c 8 _ H5.out.1 (by omega)).mono ?_
  rintro e w5 ⟨b, rfl, C5, G5⟩
  have H6 : Hid (Dr w w5 B c w.heap.size Rc.zero ∧ Dr w w5 B c w4.heap.size r) := ⟨H5.out.draw C5 G5, R5.out.draw C5 G5⟩
  clear C5 G5 H5 R5
  have hne : w.heap.size ≠ w4.heap.size := by omega
  have hg5 : w4.heap.size < w5.heap.size := H6.out.2.2.2.1.lt
  clear v1 v2 v3 v4 l1 l2 l3 l4 hr
  cases b with
  | false =>
    have Q := H6.out.2.2.2.1
    have R := H6.out.1.2.2.1
    go_wp2_with (first | (refine wpList_getR rfl _ rfl w4.heap.size rfl r Q ?_) | (refine wpList_putR rfl _ _ rfl w.heap.size r Rc.zero rfl rfl R ?_; intro w6 R6 G6))
    refine bodyPost_ret (results_R rfl _ _ w.heap.size _ rfl R6) rfl ?_
    exact ⟨r, rfl, hfit.out, H6.out.1.fin hB R6 G6⟩
  | true =>
    go_wp2_with fail
    refine (below_any B c 4 _ H6.out.1.1 (by omega)).mono ?_
    rintro e w6 ⟨q, rfl, lq, uq, -, C6, G6⟩
    have vq := uq (by omega)
    have H7 : Hid (Dr w w6 B c w.heap.size Rc.zero ∧ Dr w w6 B c w4.heap.size r) := ⟨H6.out.1.draw C6 G6, H6.out.2.draw C6 G6⟩
    have hg6 : w4.heap.size < w6.heap.size := H7.out.2.2.2.1.lt
    clear uq C6 G6 H6 hg5
    obtain rfl | rfl | rfl | rfl : q = 0 ∨ q = 1 ∨ q = 2 ∨ q = 3 := by omega
    · clear lq vq
      have L7 : Hid (Dr w (w6.alloc (.cells #[.int .i64 (-1), .int .i64 100000, .int .i64 100001] 2)) B c w.heap.size Rc.zero ∧ Dr w (w6.alloc (.cells #[.int .i64 (-1), .int .i64 100000, .int .i64 100001] 2)) B c w4.heap.size r) := ⟨H7.out.1.alloc _, H7.out.2.alloc _⟩
      have hcw : c < w6.heap.size := by have := H7.out.1.1.lt; omega
      go_wp2_with fail
      refine (below_any B c 3 _ L7.out.1.1 (by omega)).mono ?_
      rintro e w7 ⟨i, rfl, li, ui, -, C7, G7⟩
      have vi := ui (by omega)
      have H8 : Hid (Dr w w7 B c w.heap.size Rc.zero ∧ Dr w w7 B c w4.heap.size r) := ⟨L7.out.1.draw C7 G7, L7.out.2.draw C7 G7⟩
      have hc := lit_kept G7 (by simp; omega)
      have k := H8.out.2.2.2.1.cell 0 rfl
      have fz := H8.out.2.2.2.1.frozen 0
      have hs7 := H8.out.2.2.2.1.lt
      clear ui C7 G7 L7 H7
      obtain ⟨x, hx, hxb⟩ : ∃ x : Int, w7.cell? ⟨w6.heap.size, i.toNat, none⟩ = some (.int .i64 x) ∧ (x = -1 ∨ x = 100000 ∨ x = 100001) := by
        obtain rfl | rfl | rfl : i = 0 ∨ i = 1 ∨ i = 2 := by omega
        · exact ⟨-1, hc 0, .inl rfl⟩
        · exact ⟨100000, hc 1, .inr (.inl rfl)⟩
        · exact ⟨100001, hc 2, .inr (.inr rfl)⟩
      clear hc
      have fit2 : Hid ((⟨x, r.s, r.t, r.n⟩ : Rc).Fit) := by have := hfit.out; unfold Hid Rc.Fit at *; dsimp only; omega
      have Q8 := H8.out.2.2.2.1.put 0 x ⟨x, r.s, r.t, r.n⟩ rfl
      have Z8 := H8.out.1.own hB 0 (.int .i64 x) (k := w4.heap.size) (by omega) (by omega)
      have R8 := Z8.2.2.1
      go_wp2_with (first | (refine wpList_getR rfl _ rfl w4.heap.size rfl ⟨x, r.s, r.t, r.n⟩ Q8 ?_) | (refine wpList_putR rfl _ _ rfl w.heap.size ⟨x, r.s, r.t, r.n⟩ Rc.zero rfl rfl R8 ?_; intro w9 R9 G9))
      refine bodyPost_ret (results_R rfl _ _ w.heap.size _ rfl R9) rfl ?_
      exact ⟨_, rfl, fit2.out, Z8.fin hB R9 G9⟩
    · clear lq vq
      go_wp2_with fail
      refine (from_any B c 0 6 _ H7.out.1.1 (by omega) (by omega) (by omega)).mono ?_
      rintro e w7 ⟨x, rfl, lx, ux, C7, G7⟩
      have H8 : Hid (Dr w w7 B c w.heap.size Rc.zero ∧ Dr w w7 B c w4.heap.size r) := ⟨H7.out.1.draw C7 G7, H7.out.2.draw C7 G7⟩
      have k := H8.out.2.2.2.1.cell 1 rfl
      have fz := H8.out.2.2.2.1.frozen 1
      have hs7 := H8.out.2.2.2.1.lt
      clear C7 G7 H7
      have fit2 : Hid ((⟨r.e, x, r.t, r.n⟩ : Rc).Fit) := by have := hfit.out; unfold Hid Rc.Fit at *; dsimp only; omega
      have Q8 := H8.out.2.2.2.1.put 1 x ⟨r.e, x, r.t, r.n⟩ rfl
      have Z8 := H8.out.1.own hB 1 (.int .i64 x) (k := w4.heap.size) (by omega) (by omega)
      have R8 := Z8.2.2.1
      go_wp2_with (first | (refine wpList_getR rfl _ rfl w4.heap.size rfl ⟨r.e, x, r.t, r.n⟩ Q8 ?_) | (refine wpList_putR rfl _ _ rfl w.heap.size ⟨r.e, x, r.t, r.n⟩ Rc.zero rfl rfl R8 ?_; intro w9 R9 G9))
      refine bodyPost_ret (results_R rfl _ _ w.heap.size _ rfl R9) rfl ?_
      exact ⟨_, rfl, fit2.out, Z8.fin hB R9 G9⟩
    · clear lq vq
      have L7 : Hid (Dr w (w6.alloc (.cells #[.int .i64 (-1), .int .i64 100000, .int .i64 100001] 2)) B c w.heap.size Rc.zero ∧ Dr w (w6.alloc (.cells #[.int .i64 (-1), .int .i64 100000, .int .i64 100001] 2)) B c w4.heap.size r) := ⟨H7.out.1.alloc _, H7.out.2.alloc _⟩
      have hcw : c < w6.heap.size := by have := H7.out.1.1.lt; omega
      go_wp2_with fail
      refine (below_any B c 3 _ L7.out.1.1 (by omega)).mono ?_
      rintro e w7 ⟨i, rfl, li, ui, -, C7, G7⟩
      have vi := ui (by omega)
      have H8 : Hid (Dr w w7 B c w.heap.size Rc.zero ∧ Dr w w7 B c w4.heap.size r) := ⟨L7.out.1.draw C7 G7, L7.out.2.draw C7 G7⟩
      have hc := lit_kept G7 (by simp; omega)
      have k := H8.out.2.2.2.1.cell 2 rfl
      have fz := H8.out.2.2.2.1.frozen 2
      have hs7 := H8.out.2.2.2.1.lt
      clear ui C7 G7 L7 H7
      obtain ⟨x, hx, hxb⟩ : ∃ x : Int, w7.cell? ⟨w6.heap.size, i.toNat, none⟩ = some (.int .i64 x) ∧ (x = -1 ∨ x = 100000 ∨ x = 100001) := by
        obtain rfl | rfl | rfl : i = 0 ∨ i = 1 ∨ i = 2 := by omega
        · exact ⟨-1, hc 0, .inl rfl⟩
        · exact ⟨100000, hc 1, .inr (.inl rfl)⟩
        · exact ⟨100001, hc 2, .inr (.inr rfl)⟩
      clear hc
      have fit2 : Hid ((⟨r.e, r.s, x, r.n⟩ : Rc).Fit) := by have := hfit.out; unfold Hid Rc.Fit at *; dsimp only; omega
      have Q8 := H8.out.2.2.2.1.put 2 x ⟨r.e, r.s, x, r.n⟩ rfl
      have Z8 := H8.out.1.own hB 2 (.int .i64 x) (k := w4.heap.size) (by omega) (by omega)
      have R8 := Z8.2.2.1
      go_wp2_with (first | (refine wpList_getR rfl _ rfl w4.heap.size rfl ⟨r.e, r.s, x, r.n⟩ Q8 ?_) | (refine wpList_putR rfl _ _ rfl w.heap.size ⟨r.e, r.s, x, r.n⟩ Rc.zero rfl rfl R8 ?_; intro w9 R9 G9))
      refine bodyPost_ret (results_R rfl _ _ w.heap.size _ rfl R9) rfl ?_
      exact ⟨_, rfl, fit2.out, Z8.fin hB R9 G9⟩
    · clear lq vq
      have L7 : Hid (Dr w (w6.alloc (.cells #[.int .i64 (-1), .int .i64 100000, .int .i64 100001] 2)) B c w.heap.size Rc.zero ∧ Dr w (w6.alloc (.cells #[.int .i64 (-1), .int .i64 100000, .int .i64 100001] 2)) B c w4.heap.size r) := ⟨H7.out.1.alloc _, H7.out.2.alloc _⟩
      have hcw : c < w6.heap.size := by have := H7.out.1.1.lt; omega
      go_wp2_with fail
      refine (below_any B c 3 _ L7.out.1.1 (by omega)).mono ?_
      rintro e w7 ⟨i, rfl, li, ui, -, C7, G7⟩
      have vi := ui (by omega)
      have H8 : Hid (Dr w w7 B c w.heap.size Rc.zero ∧ Dr w w7 B c w4.heap.size r) := ⟨L7.out.1.draw C7 G7, L7.out.2.draw C7 G7⟩
      have hc := lit_kept G7 (by simp; omega)
      have k := H8.out.2.2.2.1.cell 3 rfl
      have fz := H8.out.2.2.2.1.frozen 3
      have hs7 := H8.out.2.2.2.1.lt
      clear ui C7 G7 L7 H7
      obtain ⟨x, hx, hxb⟩ : ∃ x : Int, w7.cell? ⟨w6.heap.size, i.toNat, none⟩ = some (.int .i64 x) ∧ (x = -1 ∨ x = 100000 ∨ x = 100001) := by
        obtain rfl | rfl | rfl : i = 0 ∨ i = 1 ∨ i = 2 := by omega
        · exact ⟨-1, hc 0, .inl rfl⟩
        · exact ⟨100000, hc 1, .inr (.inl rfl)⟩
        · exact ⟨100001, hc 2, .inr (.inr rfl)⟩
      clear hc
      have fit2 : Hid ((⟨r.e, r.s, r.t, x⟩ : Rc).Fit) := by have := hfit.out; unfold Hid Rc.Fit at *; dsimp only; omega
      have Q8 := H8.out.2.2.2.1.put 3 x ⟨r.e, r.s, r.t, x⟩ rfl
      have Z8 := H8.out.1.own hB 3 (.int .i64 x) (k := w4.heap.size) (by omega) (by omega)
      have R8 := Z8.2.2.1
      go_wp2_with (first | (refine wpList_getR rfl _ rfl w4.heap.size rfl ⟨r.e, r.s, r.t, x⟩ Q8 ?_) | (refine wpList_putR rfl _ _ rfl w.heap.size ⟨r.e, r.s, r.t, x⟩ Rc.zero rfl rfl R8 ?_; intro w9 R9 G9))
      refine bodyPost_ret (results_R rfl _ _ w.heap.size _ rfl R9) rfl ?_
      exact ⟨_, rfl, fit2.out, Z8.fin hB R9 G9⟩

theorem noteS_len (log : Bs) (r : Rc) : (noteS log r).length ≤ log.length + 100 := by
  unfold noteS
  split
  · rename_i h
    have hok : r.ok = true := by unfold noteY at h; simp only [Bool.and_eq_true] at h; exact h.1
    have := framed_show_len r hok
    rw [List.length_append]; omega
  · omega
theorem framed_x_len : (framed [120]).length ≤ 100 := by
  have h2 := dec_len 5 (chk [120]).toNat (by have := chk_bd [120]; omega)
  have h1 := dec_len 2 1 (by omega)
  simp [framed]; omega

set_option maxRecDepth 20000 in
set_option maxHeartbeats 2000000 in
theorem l5log_any (B c : Nat) (w : World) (h : Cur w B c) :
    Calls Tryd.prog 28 #[.pointer (some ⟨c, 0, none⟩)] w fun e w' => ∃ l : Bs, e = .returned (S l) ∧ l.length ≤ 600 ∧ Cur w' B c ∧ w.grownBy w' (some c) := by
  have HC0 : Hid (Cur w B c) := h
  clear h
  go_enter Tryd.func28, Tryd.ntmps28
  go_wp2_with fail
  refine (below_any B c 4 _ HC0.out (by omega)).mono ?_
  rintro e w1 ⟨n, rfl, hn0, hn1, -, C1, G1⟩
  have hn3 := hn1 (by omega)
  have HC : Hid (Cur w1 B c ∧ w.grownBy w1 (some c)) := ⟨C1, G1⟩
  clear hn1 C1 G1 HC0
  go_wp2
  go_loopw [3, 4] (fun t m wr => ∃ (k : Int) (l : Bs), 0 ≤ k ∧ k ≤ 3 ∧ (l.length : Int) ≤ 200 * (3 - k) ∧ m = .int .i64 k ∧ t = .string ⟨l.toArray⟩ ∧ Hid (Cur wr B c ∧ w.grownBy wr (some c))) (fun _ m _ => (intOf m).toNat)
  case atStart => exact ⟨n, [], hn0, by omega, by simp; omega, rfl, rfl, HC⟩
  case round =>
    obtain ⟨k, l, hk0, hk3, hl, rfl, rfl, HR⟩ := hrel
    clear HC
    by_cases hkp : 0 < k
    · go_wp2_with fail
      refine (l5draw_any B c _ HR.out.1).mono ?_
      rintro e w2 ⟨r, rfl, hf, C2, G2⟩
      have HR2 : Hid (Cur w2 B c ∧ w.grownBy w2 (some c)) := ⟨C2, HR.out.2.trans G2⟩
      have c3 := fun wx => snoted_any l r wx (by omega)
      have hnl := noteS_len l r
      obtain ⟨t, ht⟩ : ∃ t, t = noteS l r := ⟨_, rfl⟩
      obtain ⟨b, hb⟩ : ∃ b, b = noteY l r := ⟨_, rfl⟩
      rw [← ht] at hnl
      simp only [← ht, ← hb] at c3
      unfold S at c3
      clear C2 G2 HR ht hb hf
      go_wp2_with fail
      refine (c3 _).mono ?_
      rintro e w3 ⟨rfl, b3⟩
      have HR3 : Hid (Cur w3 B c ∧ w.grownBy w3 (some c)) := ⟨HR2.out.1.below b3, HR2.out.2.trans (grown_of_below b3 _)⟩
      clear HR2 b3 c3
      go_wp2_with fail
      refine (once_any B c 8 _ HR3.out.1 (by omega)).mono ?_
      rintro e w4 ⟨o, rfl, C4, G4⟩
      have HR4 : Hid (Cur w4 B c ∧ w.grownBy w4 (some c)) := ⟨C4, HR3.out.2.trans G4⟩
      clear HR3 C4 G4
      cases o with
      | false =>
        go_wp2
        go_roundw
        case rel => exact ⟨k - 1, t, by omega, by omega, by omega, by go_num, rfl, HR4⟩
        case measure => simp [intOf]; omega
      | true =>
        have c5 := fun wx => sl4Framed_any [120] wx (by simp)
        have hfx := framed_x_len
        obtain ⟨f, hf⟩ : ∃ f, f = framed [120] := ⟨_, rfl⟩
        rw [← hf] at hfx
        simp only [← hf] at c5
        unfold S at c5
        have hap := app t f
        have hz1 : (⟨t.toArray⟩ : ByteArray).size = t.length := rfl
        have hz2 : (⟨f.toArray⟩ : ByteArray).size = f.length := rfl
        clear hf
        go_wp2_with fail
        refine (c5 _).mono ?_
        rintro e w5 ⟨rfl, b5⟩
        have HR5 : Hid (Cur w5 B c ∧ w.grownBy w5 (some c)) := ⟨HR4.out.1.below b5, HR4.out.2.trans (grown_of_below b5 _)⟩
        clear HR4 b5 c5
        go_wp2
        go_roundw
        case rel => exact ⟨k - 1, t ++ f, by omega, by omega, by rw [List.length_append]; omega, by go_num, by simp, HR5⟩
        case measure => simp [intOf]; omega
    · go_wp2
      go_ret
      exact ⟨l, rfl, by omega, HR.out⟩

set_option maxRecDepth 20000 in
set_option maxHeartbeats 1000000 in
theorem drawRecordOk_any (B : Nat) (v : Value) (w : World) (h : CodeOk w B v) (hB : B ≤ w.heap.size) :
    Calls Tryd.prog 35 #[v] w fun e w' => ∃ r, e = .returned (RV r) ∧ r.Fit ∧ Below w.heap.size w w' := by
  have b0 : Below w.heap.size w (w.alloc (.cells (recA Rc.zero) 25)) := (Below.refl _ _).alloc (Nat.le_refl _) _
  have h1 := h.below (b0.mono hB)
  have R0 := RecB.new w 25 Rc.zero
  clear h
  go_enter Tryd.func35, Tryd.ntmps35
  go_wp2_with fail
  refine (new_code B v _ h1 (by have := b0.size; omega)).mono ?_
  rintro e w1 ⟨c, rfl, hc, C1, G1⟩
  have R1 := R0.kept G1 (by simp)
  go_wp2_with fail
  refine (l5draw_any B c _ C1).mono ?_
  rintro e w2 ⟨r, rfl, hf, C2, G2⟩
  have hcw : w.heap.size < c := by have := hc; rw [World.size_alloc] at this; omega
  have R2 := R1.kept G2 (by intro e; have := Option.some.inj e; omega)
  have b2 := b0.trans ((below_of_cur G1 hc G2).mono b0.size)
  clear C1 C2 G1 G2 h1 R0 R1
  have hlt := R2.lt
  go_wp2_with (refine wpList_putR rfl _ _ rfl w.heap.size r Rc.zero rfl rfl R2 ?_; intro w3 R3 G3)
  refine bodyPost_ret (results_R rfl _ _ w.heap.size _ rfl R3) rfl ?_
  exact ⟨r, rfl, hf, b2.grown G3 (by omega) (fun k e => by cases e; exact Nat.le_refl _)⟩

set_option maxRecDepth 20000 in
set_option maxHeartbeats 1000000 in
theorem drawShow_any (B : Nat) (v : Value) (w : World) (h : CodeOk w B v) (hB : B ≤ w.heap.size) :
    Calls Tryd.prog 13 #[v] w fun e w' => ∃ r, e = .returned (RV r) ∧ r.Fit ∧ Below w.heap.size w w' := by
  have b0 : Below w.heap.size w (w.alloc (.cells (recA Rc.zero) 25)) := (Below.refl _ _).alloc (Nat.le_refl _) _
  have h1 := h.below (b0.mono hB)
  have R0 := RecB.new w 25 Rc.zero
  clear h
  go_enter Tryd.func13, Tryd.ntmps13
  go_wp2_with fail
  refine (drawRecordOk_any B v _ h1 (by have := b0.size; omega)).mono ?_
  rintro e w1 ⟨r, rfl, hf, b1⟩
  have R1 := R0.below b1
  have B1 := b0.trans (b1.mono b0.size)
  have hlt := R1.lt
  clear b1 R0 h1
  go_wp2_with (refine wpList_putR rfl _ _ rfl w.heap.size r Rc.zero rfl rfl R1 ?_; intro w3 R3 G3)
  refine bodyPost_ret (results_R rfl _ _ w.heap.size _ rfl R3) rfl ?_
  exact ⟨r, rfl, hf, B1.grown G3 (by omega) (fun k e => by cases e; exact Nat.le_refl _)⟩

theorem showS_len (r : Rc) : (showS r).length ≤ 40 := by
  unfold showS
  split
  · rename_i h; exact (plain_show r h).2
  · simp

set_option maxRecDepth 20000 in
set_option maxHeartbeats 1000000 in
theorem drawRead_any (B : Nat) (v : Value) (w : World) (h : CodeOk w B v) (hB : B ≤ w.heap.size) :
    Calls Tryd.prog 15 #[v] w fun e w' => ∃ l : Bs, e = .returned (S l) ∧ l.length ≤ 5000 ∧ Below w.heap.size w w' := by
  go_enter Tryd.func15, Tryd.ntmps15
  go_wp2_with fail
  refine (new_code B v _ h hB).mono ?_
  rintro e w1 ⟨c, rfl, hc, C1, G1⟩
  have hcl := C1.lt
  go_wp2_with fail
  refine (l5draw_any B c _ C1).mono ?_
  rintro e w2 ⟨r, rfl, hf, C2, G2⟩
  have c3 := fun wx => sshow_any r wx hf
  have hsl := showS_len r
  obtain ⟨t, ht⟩ : ∃ t, t = showS r := ⟨_, rfl⟩
  rw [← ht] at hsl
  simp only [← ht] at c3
  unfold S at c3
  clear ht hf h
  go_wp2_with fail
  refine (c3 _).mono ?_
  rintro e w3 ⟨rfl, b3⟩
  have HC : Hid (Cur w3 B c ∧ w1.grownBy w3 (some c)) := ⟨C2.below b3, G2.trans (grown_of_below b3 _)⟩
  clear b3 C2 G2 C1 c3
  go_wp2_with fail
  refine (once_any B c 2 _ HC.out.1 (by omega)).mono ?_
  rintro e w4 ⟨b, rfl, C4, G4⟩
  have HC4 : Hid (Cur w4 B c ∧ w1.grownBy w4 (some c)) := ⟨C4, HC.out.2.trans G4⟩
  clear C4 G4 HC
  cases b with
  | false =>
    go_wp2_with fail
    go_ret
    exact ⟨t, rfl, by omega, below_of_cur G1 hc HC4.out.2⟩
  | true =>
    go_wp2_with fail
    refine (bend_any B c t [48, 49, 32, 114, 101, 45] w4 HC4.out.1 (by omega) (by simp) (by simp)).mono ?_
    rintro e w5 ⟨l', rfl, hl', C5, G5⟩
    have hb := below_of_cur G1 hc (HC4.out.2.trans G5)
    clear C5 G5
    go_wp2_with fail
    go_ret
    exact ⟨l', rfl, by omega, hb⟩

set_option maxRecDepth 20000 in
set_option maxHeartbeats 1000000 in
theorem drawRecalled_any (B : Nat) (v : Value) (w : World) (h : CodeOk w B v) (hB : B ≤ w.heap.size) :
    Calls Tryd.prog 11 #[v] w fun e w' => ∃ l : Bs, e = .returned (S l) ∧ l.length ≤ 5000 ∧ Below w.heap.size w w' := by
  go_enter Tryd.func11, Tryd.ntmps11
  go_wp2_with fail
  refine (new_code B v _ h hB).mono ?_
  rintro e w1 ⟨c, rfl, hc, C1, G1⟩
  have hcl := C1.lt
  go_wp2_with fail
  refine (l5log_any B c _ C1).mono ?_
  rintro e w2 ⟨t, rfl, htl, C2, G2⟩
  have HC : Hid (Cur w2 B c ∧ w1.grownBy w2 (some c)) := ⟨C2, G2⟩
  clear C2 G2 C1 h
  unfold S
  go_wp2_with fail
  refine (once_any B c 2 _ HC.out.1 (by omega)).mono ?_
  rintro e w4 ⟨b, rfl, C4, G4⟩
  have HC4 : Hid (Cur w4 B c ∧ w1.grownBy w4 (some c)) := ⟨C4, HC.out.2.trans G4⟩
  clear C4 G4 HC
  cases b with
  | false =>
    go_wp2_with fail
    go_ret
    exact ⟨t, rfl, by omega, below_of_cur G1 hc HC4.out.2⟩
  | true =>
    go_wp2_with fail
    refine (bend_any B c t [48, 49, 32, 114, 101, 10] w4 HC4.out.1 (by omega) (by simp) (by simp)).mono ?_
    rintro e w5 ⟨l', rfl, hl', C5, G5⟩
    have hb := below_of_cur G1 hc (HC4.out.2.trans G5)
    clear C5 G5
    go_wp2_with fail
    go_ret
    exact ⟨l', rfl, by omega, hb⟩

theorem results_TR {fn : Func} {p q : Tmp} (h : fn.results = #[.tmp q, .cell p 25]) (tmps : Array Value) (w : World) (g : Nat) (r : Rc) (x : Value)
    (hp : tmps.getD p undef = .pointer (some ⟨g, 0, none⟩)) (hx : tmps.getD q undef = x) (hr : RecB w g 25 r) : (results fn tmps).run Tryd.prog w = .ok (.tuple #[x, RV r]) w := by
  obtain ⟨fs, hu⟩ := Tryd.underR
  have hl := run_loadVar_row w g _ _ _ _ _ hr hu rfl Tryd.infoR
  have hp' : tmps[p]?.getD undef = .pointer (some ⟨g, 0, none⟩) := by simpa using hp
  have hx' : tmps[q]?.getD undef = x := by simpa using hx
  simp [results, h, hp', hx', asAddr, hl]
  rfl
theorem zeros_none (n : Nat) : (framesB (List.replicate n 0)).2 = 0 := by
  have hz : (firstB (List.replicate n (0 : UInt8))).2 = 0 := firstB_line (by simp)
  have := framesN_cat [] (List.replicate n 0) (by simp) 2000 (by simp) (.inr hz)
  rw [framesB]
  simp only [cat, List.map_nil, List.flatten_nil, List.nil_append] at this
  rw [this]
  rfl

set_option maxRecDepth 20000 in
set_option maxHeartbeats 2000000 in
theorem drawNoted_any (B : Nat) (v : Value) (w : World) (h : CodeOk w B v) (hB : B ≤ w.heap.size) :
    Calls Tryd.prog 9 #[v] w fun e w' => ∃ (l : Bs) (r : Rc), e = .returned (.tuple #[S l, RV r]) ∧ l.length ≤ 40000 ∧ r.Fit ∧ ((framesB l).2 = l.length → l.length < 2000) ∧ Below w.heap.size w w' := by
  obtain ⟨i0, hi, hz0, hz1, hz2⟩ := info_parts Tryd.infoU
  have b0 : Below w.heap.size w (w.alloc (.cells (recA Rc.zero) 25)) := (Below.refl _ _).alloc (Nat.le_refl _) _
  have h1 := h.below (b0.mono hB)
  have R0 := RecB.new w 25 Rc.zero
  clear h
  go_enter Tryd.func9, Tryd.ntmps9
  go_wp2_with fail
  refine (new_code B v _ h1 (by have := b0.size; omega)).mono ?_
  rintro e w1 ⟨c, rfl, hc, C1, G1⟩
  have hcw : w.heap.size < c := by have := hc; rw [World.size_alloc] at this; omega
  have HG1 : Hid ((w.alloc (.cells (recA Rc.zero) 25)).grownBy w1 none ∧ (w.alloc (.cells (recA Rc.zero) 25)).heap.size ≤ c ∧ Below w.heap.size w (w.alloc (.cells (recA Rc.zero) 25))) := ⟨G1, hc, b0⟩
  have R1 := R0.kept G1 (by simp)
  have HC1 : Hid (Cur w1 B c ∧ RecB w1 w.heap.size 25 Rc.zero) := ⟨C1, R1⟩
  clear C1 R1 R0 G1 hc b0 h1
  go_wp2_with fail
  refine (l5log_any B c _ HC1.out.1).mono ?_
  rintro e w2 ⟨t, rfl, htl, C2, G2⟩
  have HC2 : Hid (Cur w2 B c ∧ w1.grownBy w2 (some c) ∧ RecB w2 w.heap.size 25 Rc.zero) := ⟨C2, G2, HC1.out.2.kept G2 (by intro e; have := Option.some.inj e; omega)⟩
  clear C2 G2
  unfold S
  go_wp2_with fail
  refine (once_any B c 40 _ HC2.out.1 (by omega)).mono ?_
  rintro e w3 ⟨b, rfl, C3, G3⟩
  have HC3 : Hid (Cur w3 B c ∧ w1.grownBy w3 (some c) ∧ RecB w3 w.heap.size 25 Rc.zero) := ⟨C3, HC2.out.2.1.trans G3, HC2.out.2.2.kept G3 (by intro e; have := Option.some.inj e; omega)⟩
  clear C3 G3 HC2 HC1
  cases b with
  | false =>
    go_wp2_with fail
    refine (l5draw_any B c _ HC3.out.1).mono ?_
    rintro e w5 ⟨r, rfl, hf, C5, G5⟩
    have R5 := HC3.out.2.2.kept G5 (by intro e; have := Option.some.inj e; omega)
    have B5 := HG1.out.2.2.trans ((below_of_cur HG1.out.1 HG1.out.2.1 (HC3.out.2.1.trans G5)).mono HG1.out.2.2.size)
    have hlt := R5.lt
    clear C5 G5
    go_wp2_with (refine wpList_putR rfl _ _ rfl w.heap.size r Rc.zero rfl rfl R5 ?_; intro w6 R6 G6)
    refine bodyPost_ret (results_TR rfl _ _ w.heap.size _ _ rfl rfl R6) rfl ?_
    exact ⟨t, r, rfl, by omega, hf, fun _ => by omega, B5.grown G6 (by omega) (fun k e => by cases e; exact Nat.le_refl _)⟩
  | true =>
    go_wp2_with (refine wpList_make_full _ rfl _ _ 22 rfl w3.heap.size 5 i0 (.int .u8 0) 1 Tryd.underlying22 hi hz0 hz1 _ _ _ _ 39990 rfl rfl rfl rfl (by rw [hz2]; omega) (by unfold maxLen; omega) (Nat.le_refl _) ?_)
    intro w4 hown4 hgr4
    rw [zerosU_eq] at hown4
    have hO : OwnU w4 w3.heap.size (.slice (some ⟨w3.heap.size, 0, none⟩) 39990 39990) (List.replicate 39990 0) := by
      unfold OwnU
      rw [List.length_replicate]
      exact hown4
    have hstr := run_str w4 _ _ _ hO (by simp)
    unfold S at hstr
    have HC4 : Hid (Cur w4 B c ∧ w1.grownBy w4 (some c) ∧ RecB w4 w.heap.size 25 Rc.zero) := ⟨HC3.out.1.kept hgr4 (by simp) (by simp), grown_ownU HC3.out.2.1 hgr4 (by simp), HC3.out.2.2.kept hgr4 (by simp)⟩
    have HZ : Hid ((framesB (List.replicate 39990 0)).2 = (List.replicate 39990 (0 : UInt8)).length → (List.replicate 39990 (0 : UInt8)).length < 2000) := by
      intro h
      rw [zeros_none, List.length_replicate] at h
      omega
    have HL : Hid ((List.replicate 39990 (0 : UInt8)).length ≤ 40000) := by rw [Hid, List.length_replicate]; omega
    obtain ⟨z, hz⟩ : ∃ z : Bs, z = List.replicate 39990 0 := ⟨_, rfl⟩
    rw [← hz] at hstr HZ HL
    clear hO hown4 hgr4 HC3 hz
    go_wp2_with fail
    refine (l5draw_any B c _ HC4.out.1).mono ?_
    rintro e w5 ⟨r, rfl, hf, C5, G5⟩
    have R5 := HC4.out.2.2.kept G5 (by intro e; have := Option.some.inj e; omega)
    have B5 := HG1.out.2.2.trans ((below_of_cur HG1.out.1 HG1.out.2.1 (HC4.out.2.1.trans G5)).mono HG1.out.2.2.size)
    have hlt := R5.lt
    clear C5 G5
    go_wp2_with (refine wpList_putR rfl _ _ rfl w.heap.size r Rc.zero rfl rfl R5 ?_; intro w6 R6 G6)
    refine bodyPost_ret (results_TR rfl _ _ w.heap.size _ _ rfl rfl R6) rfl ?_
    exact ⟨z, r, rfl, HL.out, hf, HZ.out, B5.grown G6 (by omega) (fun k e => by cases e; exact Nat.le_refl _)⟩
end Go.Proofs.YtjdmbjeginnjiaaDoor
