/- What the law on frames draws: DrawCheck, DrawFramed; pick. -/
import Derived.Test.YtjbfncjdedigdaaM25
import Derived.Test.YtjbfncjdedigdaaM15
import Derived.Test.YtjbfncjdedigdaaM3
import Derived.Test.YtjbfncjdedigdaaMem
import Derived.Deep.QuietTactic
namespace Go.Proofs.Ytjbfncjdedigdaa
open Go.ChangeShapes Go.WideShapes Go.ChangeAt Go.RowKit
end Go.Proofs.Ytjbfncjdedigdaa
/- What the laws draw of records: l5Draw. -/
namespace Go.Proofs.Ytjbfncjdedigdaa
open Go.ChangeShapes Go.WideShapes Go.ChangeAt Go.RowKit

def Rc.Few (r : Rc) : Prop := (-1 ≤ r.e ∧ r.e ≤ 100001) ∧ (-1 ≤ r.s ∧ r.s ≤ 100001) ∧ (-1 ≤ r.t ∧ r.t ≤ 100001) ∧ (-1 ≤ r.n ∧ r.n ≤ 100001)
theorem Rc.Few.fit {r : Rc} (h : r.Few) : r.Fit := by unfold Rc.Few at h; unfold Rc.Fit; omega
/- The cursor stands, nothing else that was there has turned, and two blocks of the call's own hold records. -/
def Dr (w wx : World) (B c g : Nat) (r : Rc) : Prop := Cur wx B c ∧ w.grownBy wx (some c) ∧ RecB wx g 73 r ∧ w.heap.size ≤ g ∧ c < w.heap.size
theorem Dr.draw {w wx wy : World} {B c g : Nat} {r : Rc} (h : Dr w wx B c g r) (C : Cur wy B c) (G : wx.grownBy wy (some c)) : Dr w wy B c g r :=
  ⟨C, h.2.1.trans G, h.2.2.1.kept G (by intro e; have := Option.some.inj e; have := h.2.2.2; omega), h.2.2.2⟩
theorem Dr.alloc {w wx : World} {B c g : Nat} {r : Rc} (h : Dr w wx B c g r) (o : Obj) : Dr w (wx.alloc o) B c g r :=
  ⟨h.1.kept (World.grownBy_alloc wx o none) (by simp) (by simp), h.2.1.trans (World.grownBy_alloc wx o _), h.2.2.1.alloc o, h.2.2.2⟩
theorem Dr.start {w : World} {B c : Nat} (h : Cur w B c) (r : Rc) : Dr w (w.alloc (.cells (recA r) 73)) B c w.heap.size r :=
  ⟨h.kept (World.grownBy_alloc w _ none) (by simp) (by simp), World.grownBy_alloc w _ _, RecB.new w _ r, Nat.le_refl _, h.lt.2⟩
theorem Dr.own {w wx : World} {B c g k : Nat} {r : Rc} (h : Dr w wx B c g r) (hB : B ≤ w.heap.size) (j : Nat) (v : Value) (hk : w.heap.size ≤ k) (hne : k ≠ g) : Dr w (wx.setCell ⟨k, j, none⟩ v) B c g r :=
  ⟨h.1.kept (grownSetS wx k j v) (by intro e; have := Option.some.inj e; have := h.2.2.2; omega) (fun x e => by cases e; omega), grown_ownU h.2.1 (grownSetS wx k j v) (fun x e => by cases e; exact hk), h.2.2.1.kept (grownSetS wx k j v) (by intro e; have := Option.some.inj e; omega), h.2.2.2⟩
theorem RecB.put {w : World} {g : Nat} {t : TypeId} {r : Rc} (h : RecB w g t r) (j : Nat) (x : Int) (q : Rc) (e : (recA r).setIfInBounds j (.int .i64 x) = recA q) : RecB (w.setCell ⟨g, j, none⟩ (.int .i64 x)) g t q := by
  have := heap_setCell_same w g j _ _ (.int .i64 x) h
  rw [e] at this
  exact this
theorem cur_lt {w : World} {B c : Nat} (h : Cur w B c) : B ≤ w.heap.size := by have := h.lt; omega
/- What is left: the record is loaded and stored where the answer lies. -/
theorem Dr.fin {w wx wy : World} {B c g : Nat} {r q : Rc} (h : Dr w wx B c g r) (hB : B ≤ w.heap.size) (_ : RecB wy g 73 q) (G : wx.grownBy wy (some g)) : Cur wy B c ∧ w.grownBy wy (some c) :=
  ⟨h.1.kept G (by intro e; have := Option.some.inj e; have := h.2.2.2; omega) (fun x e => by cases e; have := h.2.2.2; omega), grown_ownU h.2.1 G (fun x e => by cases e; exact h.2.2.2.1)⟩

set_option maxRecDepth 20000 in
set_option maxHeartbeats 4000000 in
theorem l5drawF_any (B c : Nat) (w : World) (h : Cur w B c) :
    Calls Try.prog 50 #[.pointer (some ⟨c, 0, none⟩)] w fun e w' => ∃ r, e = .returned (RV r) ∧ r.Few ∧ Cur w' B c ∧ w.grownBy w' (some c) := by
  have hB := cur_lt h
  have H0 : Hid (Dr w (w.alloc (.cells (recA Rc.zero) 73)) B c w.heap.size Rc.zero) := Dr.start h Rc.zero
  clear h
  go_enter Try.func50, Try.ntmps50
  go_wp2_with fail
  refine (below_any B c 9 _ H0.out.1 (by omega)).mono ?_
  rintro e w1 ⟨x1, rfl, l1, u1, -, C1, G1⟩
  have v1 := u1 (by omega)
  have H1 : Hid (Dr w w1 B c w.heap.size Rc.zero) := H0.out.draw C1 G1
  clear u1 C1 G1 H0
  go_wp2_with fail
  refine (below_any B c 3 _ H1.out.1 (by omega)).mono ?_
  rintro e w2 ⟨x2, rfl, l2, u2, -, C2, G2⟩
  have v2 := u2 (by omega)
  have H2 : Hid (Dr w w2 B c w.heap.size Rc.zero) := H1.out.draw C2 G2
  clear u2 C2 G2 H1
  go_wp2_with fail
  refine (below_any B c 5 _ H2.out.1 (by omega)).mono ?_
  rintro e w3 ⟨x3, rfl, l3, u3, -, C3, G3⟩
  have v3 := u3 (by omega)
  have H3 : Hid (Dr w w3 B c w.heap.size Rc.zero) := H2.out.draw C3 G3
  clear u3 C3 G3 H2
  go_wp2_with fail
  refine (below_any B c 5 _ H3.out.1 (by omega)).mono ?_
  rintro e w4 ⟨x4, rfl, l4, u4, -, C4, G4⟩
  have v4 := u4 (by omega)
  have H4 : Hid (Dr w w4 B c w.heap.size Rc.zero) := H3.out.draw C4 G4
  clear u4 C4 G4 H3
  obtain ⟨r, hr⟩ : ∃ r : Rc, r = ⟨x1, 1 + x2, x3, x4⟩ := ⟨_, rfl⟩
  have hfit : Hid (r.Few) := by rw [Hid, hr]; unfold Rc.Few; dsimp only; omega
  have hws : w.heap.size < w4.heap.size := H4.out.2.2.1.lt
  have H5 : Hid (Dr w (w4.alloc (.cells (recA r) 73)) B c w.heap.size Rc.zero) := H4.out.alloc _
  have R5 : Hid (Dr w (w4.alloc (.cells (recA r) 73)) B c w4.heap.size r) := ⟨H5.out.1, H5.out.2.1, RecB.new w4 _ r, by omega, H5.out.2.2.2.2⟩
  have hre : recA r = #[.int .i64 x1, .int .i64 (1 + x2), .int .i64 x3, .int .i64 x4] := by rw [hr]; rfl
  rw [hre] at H5 R5
  clear hre H4
  go_wp2_with fail
  refine (once_any B c 8 _ H5.out.1 (by omega)).mono ?_
  rintro e w5 ⟨b, rfl, C5, G5⟩
  have H6 : Hid (Dr w w5 B c w.heap.size Rc.zero ∧ Dr w w5 B c w4.heap.size r) := ⟨H5.out.draw C5 G5, R5.out.draw C5 G5⟩
  clear C5 G5 H5 R5
  have hne : w.heap.size ≠ w4.heap.size := by omega
  have hg5 : w4.heap.size < w5.heap.size := H6.out.2.2.2.1.lt
  clear v1 v2 v3 v4 l1 l2 l3 l4 hr
  cases b with
  | false =>
    have Q := H6.out.2.2.2.1
    have R := H6.out.1.2.2.1
    go_wp2_with (first | (refine wpList_getR rfl _ rfl w4.heap.size rfl r Q ?_) | (refine wpList_putR rfl _ _ rfl w.heap.size r Rc.zero rfl rfl R ?_; intro w6 R6 G6))
    refine bodyPost_ret (results_R rfl _ _ w.heap.size _ rfl R6) rfl ?_
    exact ⟨r, rfl, hfit.out, H6.out.1.fin hB R6 G6⟩
  | true =>
    go_wp2_with fail
    refine (below_any B c 4 _ H6.out.1.1 (by omega)).mono ?_
    rintro e w6 ⟨q, rfl, lq, uq, -, C6, G6⟩
    have vq := uq (by omega)
    have H7 : Hid (Dr w w6 B c w.heap.size Rc.zero ∧ Dr w w6 B c w4.heap.size r) := ⟨H6.out.1.draw C6 G6, H6.out.2.draw C6 G6⟩
    have hg6 : w4.heap.size < w6.heap.size := H7.out.2.2.2.1.lt
    clear uq C6 G6 H6 hg5
    obtain rfl | rfl | rfl | rfl : q = 0 ∨ q = 1 ∨ q = 2 ∨ q = 3 := by omega
    · clear lq vq
      have L7 : Hid (Dr w (w6.alloc (.cells #[.int .i64 (-1), .int .i64 100000, .int .i64 100001] 2)) B c w.heap.size Rc.zero ∧ Dr w (w6.alloc (.cells #[.int .i64 (-1), .int .i64 100000, .int .i64 100001] 2)) B c w4.heap.size r) := ⟨H7.out.1.alloc _, H7.out.2.alloc _⟩
      have hcw : c < w6.heap.size := by have := H7.out.1.1.lt; omega
      go_wp2_with fail
      refine (below_any B c 3 _ L7.out.1.1 (by omega)).mono ?_
      rintro e w7 ⟨i, rfl, li, ui, -, C7, G7⟩
      have vi := ui (by omega)
      have H8 : Hid (Dr w w7 B c w.heap.size Rc.zero ∧ Dr w w7 B c w4.heap.size r) := ⟨L7.out.1.draw C7 G7, L7.out.2.draw C7 G7⟩
      have hc := lit_kept G7 (by simp; omega)
      have k := H8.out.2.2.2.1.cell 0 rfl
      have fz := H8.out.2.2.2.1.frozen 0
      have hs7 := H8.out.2.2.2.1.lt
      clear ui C7 G7 L7 H7
      obtain ⟨x, hx, hxb⟩ : ∃ x : Int, w7.cell? ⟨w6.heap.size, i.toNat, none⟩ = some (.int .i64 x) ∧ (x = -1 ∨ x = 100000 ∨ x = 100001) := by
        obtain rfl | rfl | rfl : i = 0 ∨ i = 1 ∨ i = 2 := by omega
        · exact ⟨-1, hc 0, .inl rfl⟩
        · exact ⟨100000, hc 1, .inr (.inl rfl)⟩
        · exact ⟨100001, hc 2, .inr (.inr rfl)⟩
      clear hc
      have fit2 : Hid ((⟨x, r.s, r.t, r.n⟩ : Rc).Few) := by have := hfit.out; unfold Hid Rc.Few at *; dsimp only; omega
      have Q8 := H8.out.2.2.2.1.put 0 x ⟨x, r.s, r.t, r.n⟩ rfl
      have Z8 := H8.out.1.own hB 0 (.int .i64 x) (k := w4.heap.size) (by omega) (by omega)
      have R8 := Z8.2.2.1
      go_wp2_with (first | (refine wpList_getR rfl _ rfl w4.heap.size rfl ⟨x, r.s, r.t, r.n⟩ Q8 ?_) | (refine wpList_putR rfl _ _ rfl w.heap.size ⟨x, r.s, r.t, r.n⟩ Rc.zero rfl rfl R8 ?_; intro w9 R9 G9))
      refine bodyPost_ret (results_R rfl _ _ w.heap.size _ rfl R9) rfl ?_
      exact ⟨_, rfl, fit2.out, Z8.fin hB R9 G9⟩
    · clear lq vq
      go_wp2_with fail
      refine (from_any B c 0 6 _ H7.out.1.1 (by omega) (by omega) (by omega)).mono ?_
      rintro e w7 ⟨x, rfl, lx, ux, C7, G7⟩
      have H8 : Hid (Dr w w7 B c w.heap.size Rc.zero ∧ Dr w w7 B c w4.heap.size r) := ⟨H7.out.1.draw C7 G7, H7.out.2.draw C7 G7⟩
      have k := H8.out.2.2.2.1.cell 1 rfl
      have fz := H8.out.2.2.2.1.frozen 1
      have hs7 := H8.out.2.2.2.1.lt
      clear C7 G7 H7
      have fit2 : Hid ((⟨r.e, x, r.t, r.n⟩ : Rc).Few) := by have := hfit.out; unfold Hid Rc.Few at *; dsimp only; omega
      have Q8 := H8.out.2.2.2.1.put 1 x ⟨r.e, x, r.t, r.n⟩ rfl
      have Z8 := H8.out.1.own hB 1 (.int .i64 x) (k := w4.heap.size) (by omega) (by omega)
      have R8 := Z8.2.2.1
      go_wp2_with (first | (refine wpList_getR rfl _ rfl w4.heap.size rfl ⟨r.e, x, r.t, r.n⟩ Q8 ?_) | (refine wpList_putR rfl _ _ rfl w.heap.size ⟨r.e, x, r.t, r.n⟩ Rc.zero rfl rfl R8 ?_; intro w9 R9 G9))
      refine bodyPost_ret (results_R rfl _ _ w.heap.size _ rfl R9) rfl ?_
      exact ⟨_, rfl, fit2.out, Z8.fin hB R9 G9⟩
    · clear lq vq
      have L7 : Hid (Dr w (w6.alloc (.cells #[.int .i64 (-1), .int .i64 100000, .int .i64 100001] 2)) B c w.heap.size Rc.zero ∧ Dr w (w6.alloc (.cells #[.int .i64 (-1), .int .i64 100000, .int .i64 100001] 2)) B c w4.heap.size r) := ⟨H7.out.1.alloc _, H7.out.2.alloc _⟩
      have hcw : c < w6.heap.size := by have := H7.out.1.1.lt; omega
      go_wp2_with fail
      refine (below_any B c 3 _ L7.out.1.1 (by omega)).mono ?_
      rintro e w7 ⟨i, rfl, li, ui, -, C7, G7⟩
      have vi := ui (by omega)
      have H8 : Hid (Dr w w7 B c w.heap.size Rc.zero ∧ Dr w w7 B c w4.heap.size r) := ⟨L7.out.1.draw C7 G7, L7.out.2.draw C7 G7⟩
      have hc := lit_kept G7 (by simp; omega)
      have k := H8.out.2.2.2.1.cell 2 rfl
      have fz := H8.out.2.2.2.1.frozen 2
      have hs7 := H8.out.2.2.2.1.lt
      clear ui C7 G7 L7 H7
      obtain ⟨x, hx, hxb⟩ : ∃ x : Int, w7.cell? ⟨w6.heap.size, i.toNat, none⟩ = some (.int .i64 x) ∧ (x = -1 ∨ x = 100000 ∨ x = 100001) := by
        obtain rfl | rfl | rfl : i = 0 ∨ i = 1 ∨ i = 2 := by omega
        · exact ⟨-1, hc 0, .inl rfl⟩
        · exact ⟨100000, hc 1, .inr (.inl rfl)⟩
        · exact ⟨100001, hc 2, .inr (.inr rfl)⟩
      clear hc
      have fit2 : Hid ((⟨r.e, r.s, x, r.n⟩ : Rc).Few) := by have := hfit.out; unfold Hid Rc.Few at *; dsimp only; omega
      have Q8 := H8.out.2.2.2.1.put 2 x ⟨r.e, r.s, x, r.n⟩ rfl
      have Z8 := H8.out.1.own hB 2 (.int .i64 x) (k := w4.heap.size) (by omega) (by omega)
      have R8 := Z8.2.2.1
      go_wp2_with (first | (refine wpList_getR rfl _ rfl w4.heap.size rfl ⟨r.e, r.s, x, r.n⟩ Q8 ?_) | (refine wpList_putR rfl _ _ rfl w.heap.size ⟨r.e, r.s, x, r.n⟩ Rc.zero rfl rfl R8 ?_; intro w9 R9 G9))
      refine bodyPost_ret (results_R rfl _ _ w.heap.size _ rfl R9) rfl ?_
      exact ⟨_, rfl, fit2.out, Z8.fin hB R9 G9⟩
    · clear lq vq
      have L7 : Hid (Dr w (w6.alloc (.cells #[.int .i64 (-1), .int .i64 100000, .int .i64 100001] 2)) B c w.heap.size Rc.zero ∧ Dr w (w6.alloc (.cells #[.int .i64 (-1), .int .i64 100000, .int .i64 100001] 2)) B c w4.heap.size r) := ⟨H7.out.1.alloc _, H7.out.2.alloc _⟩
      have hcw : c < w6.heap.size := by have := H7.out.1.1.lt; omega
      go_wp2_with fail
      refine (below_any B c 3 _ L7.out.1.1 (by omega)).mono ?_
      rintro e w7 ⟨i, rfl, li, ui, -, C7, G7⟩
      have vi := ui (by omega)
      have H8 : Hid (Dr w w7 B c w.heap.size Rc.zero ∧ Dr w w7 B c w4.heap.size r) := ⟨L7.out.1.draw C7 G7, L7.out.2.draw C7 G7⟩
      have hc := lit_kept G7 (by simp; omega)
      have k := H8.out.2.2.2.1.cell 3 rfl
      have fz := H8.out.2.2.2.1.frozen 3
      have hs7 := H8.out.2.2.2.1.lt
      clear ui C7 G7 L7 H7
      obtain ⟨x, hx, hxb⟩ : ∃ x : Int, w7.cell? ⟨w6.heap.size, i.toNat, none⟩ = some (.int .i64 x) ∧ (x = -1 ∨ x = 100000 ∨ x = 100001) := by
        obtain rfl | rfl | rfl : i = 0 ∨ i = 1 ∨ i = 2 := by omega
        · exact ⟨-1, hc 0, .inl rfl⟩
        · exact ⟨100000, hc 1, .inr (.inl rfl)⟩
        · exact ⟨100001, hc 2, .inr (.inr rfl)⟩
      clear hc
      have fit2 : Hid ((⟨r.e, r.s, r.t, x⟩ : Rc).Few) := by have := hfit.out; unfold Hid Rc.Few at *; dsimp only; omega
      have Q8 := H8.out.2.2.2.1.put 3 x ⟨r.e, r.s, r.t, x⟩ rfl
      have Z8 := H8.out.1.own hB 3 (.int .i64 x) (k := w4.heap.size) (by omega) (by omega)
      have R8 := Z8.2.2.1
      go_wp2_with (first | (refine wpList_getR rfl _ rfl w4.heap.size rfl ⟨r.e, r.s, r.t, x⟩ Q8 ?_) | (refine wpList_putR rfl _ _ rfl w.heap.size ⟨r.e, r.s, r.t, x⟩ Rc.zero rfl rfl R8 ?_; intro w9 R9 G9))
      refine bodyPost_ret (results_R rfl _ _ w.heap.size _ rfl R9) rfl ?_
      exact ⟨_, rfl, fit2.out, Z8.fin hB R9 G9⟩

theorem l5draw_any (B c : Nat) (w : World) (h : Cur w B c) :
    Calls Try.prog 50 #[.pointer (some ⟨c, 0, none⟩)] w fun e w' => ∃ r, e = .returned (RV r) ∧ r.Fit ∧ Cur w' B c ∧ w.grownBy w' (some c) :=
  (l5drawF_any B c w h).mono fun _ _ ⟨r, he, hf, hr⟩ => ⟨r, he, hf.fit, hr⟩
end Go.Proofs.Ytjbfncjdedigdaa
/- A region that draws its order, whose operations only read and whose callees read and may make memory of their own: walked once, in a class of worlds. -/
namespace Go.Proofs.Ytjbfncjdedigdaa
open Go.ChangeShapes Go.WideShapes Go.ChangeAt Go.RowKit

/- A world of the class p. -/
structure Kin (p : World → Prop) where
  x : World
  h : p x
theorem wp_region_kin (p : World → Prop) {id : Nat} {Q : Exit → Act → World → Prop} {a : Act} {w : World} {l : List Oper} (hm : Try.prog.follows .mixedOrders = true) (hB : Region.lexB .any l.toArray = true) (h0 : p w.drew)
    (h : wpQuiet Try.prog l.toArray (fun w' => ∃ q : Kin p, w' = q.x) (fun a' => ∀ w', (∃ q : Kin p, w' = q.x) → Q .normal a' w') l a) : (Code.region id l.toArray true).wp Try.prog Q a w :=
  wp_region_quiet (C := fun w' => ∃ q : Kin p, w' = q.x) hm hB ⟨⟨w.drew, h0⟩, rfl⟩ (by simpa using h)
/- A callee's contract, met in a world of the class. -/
theorem Kin.call {p : World → Prop} {q : Kin p} {fn : FuncId} {args : Array Value} {v : Value}
    (h : Calls Try.prog fn args q.x fun e w' => e = .returned v ∧ Below q.x.heap.size q.x w') (hb : ∀ x w', p x → Below x.heap.size x w' → p w') : Calls Try.prog fn args q.x fun e w'' => e = .returned v ∧ ∃ q : Kin p, w'' = q.x :=
  h.mono fun _ w' ⟨he, b⟩ => ⟨he, ⟨w', hb _ _ q.h b⟩, rfl⟩
theorem Kin.same {p : World → Prop} {q : Kin p} {fn : FuncId} {args : Array Value} {v : Value}
    (h : Calls Try.prog fn args q.x fun e w' => e = .returned v ∧ w' = q.x) : Calls Try.prog fn args q.x fun e w'' => e = .returned v ∧ ∃ q : Kin p, w'' = q.x :=
  h.mono fun _ _ ⟨he, b⟩ => ⟨he, q, b⟩
end Go.Proofs.Ytjbfncjdedigdaa
