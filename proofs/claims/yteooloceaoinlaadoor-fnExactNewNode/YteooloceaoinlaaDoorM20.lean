/- How the laws take a holding over, compare two, mark one and look at the marks; a new holding. -/
import Derived.Test.YteooloceaoinlaaDoorM6
import Derived.Test.YteooloceaoinlaaDoorM2
import Derived.Test.YteooloceaoinlaaDoorM5
import Derived.Deep.DeepCutAuto
import Derived.Test.YteooloceaoinlaaDoorM4
import Derived.Test.YteooloceaoinlaaDoorM19
import Derived.Test.YteooloceaoinlaaDoorM16
namespace Go.Proofs.YteooloceaoinlaaDoor
open Go.ChangeShapes Go.WideShapes Go.ChangeAt Go.RowKit

theorem hdA_one {v : Value} (h : Hd) (hv : v.oneCell' = true) : (hdA v h).all (·.oneCell') = true := by
  unfold hdA
  simp [hv, show ∀ k n, (Value.int k n).oneCell' = true from fun _ _ => rfl]

set_option maxRecDepth 20000 in
set_option maxHeartbeats 1000000 in
theorem eqHolding_any (u v : Value) (h : Hd) (w : World) (hu : Reads w u h.ks) (hv : Reads w v h.ks) (hl : h.ks.length ≤ 1099511627776) :
    Calls Tryd.prog 17 #[HV u h, HV v h] w fun e w' => e = .returned (.bool true) ∧ Below w.heap.size w w' := by
  obtain ⟨w1, hw1⟩ : ∃ w1, w1 = (w.alloc (.cells (hdA u h) 26)).alloc (.cells (hdA v h) 26) := ⟨_, rfl⟩
  have p0 : StB w1 w.heap.size 26 (hdA u h) := by rw [hw1]; exact (StB.new w _ _).alloc _
  have p1 : StB w1 (w.heap.size + 1) 26 (hdA v h) := by
    rw [hw1]
    have := StB.new (w.alloc (.cells (hdA u h) 26)) 26 (hdA v h)
    rwa [World.size_alloc] at this
  have b1 : Below w.heap.size w w1 := by rw [hw1]; exact ((Below.refl _ _).alloc (Nat.le_refl _) _).alloc (by simp) _
  have c1 := eq_any u v h.ks h.ks w1 (hu.below b1 (Nat.le_refl _)) (hv.below b1 (Nat.le_refl _)) hl
  rw [show decide (h.ks = h.ks) = true by simp] at c1
  obtain ⟨ao, ca, rfl⟩ := reads_form hu
  obtain ⟨bo, cb, rfl⟩ := reads_form hv
  have HW : Hid (w1 = (w.alloc (.cells #[.slice ao h.ks.length ca, .int .i64 h.kd, .int .i64 h.ho, .int .i64 h.tu] 26)).alloc (.cells #[.slice bo h.ks.length cb, .int .i64 h.kd, .int .i64 h.ho, .int .i64 h.tu] 26)) := hw1
  clear hw1 hu hv hl
  unfold HV hdA
  go_enter Tryd.func17, Tryd.ntmps17
  go_wp2_with fail
  rw [← HW.out]
  clear HW
  refine c1.mono ?_
  rintro e w3 ⟨rfl, n3, hw3⟩
  replace p0 : StB w3 w.heap.size 26 (hdA (.slice ao h.ks.length ca) h) := by rw [hw3]; exact p0
  replace p1 : StB w3 (w.heap.size + 1) 26 (hdA (.slice bo h.ks.length cb) h) := by rw [hw3]; exact p1
  have B3 : Below w.heap.size w w3 := by rw [hw3]; exact below_drewN b1 n3
  clear hw3 c1 b1
  have k1 : w3.cell? ⟨w.heap.size, 1, none⟩ = some (.int .i64 h.kd) := p0.cell 1 rfl
  have k2 : w3.cell? ⟨w.heap.size, 2, none⟩ = some (.int .i64 h.ho) := p0.cell 2 rfl
  have k3 : w3.cell? ⟨w.heap.size, 3, none⟩ = some (.int .i64 h.tu) := p0.cell 3 rfl
  have m1 : w3.cell? ⟨w.heap.size + 1, 1, none⟩ = some (.int .i64 h.kd) := p1.cell 1 rfl
  have m2 : w3.cell? ⟨w.heap.size + 1, 2, none⟩ = some (.int .i64 h.ho) := p1.cell 2 rfl
  have m3 : w3.cell? ⟨w.heap.size + 1, 3, none⟩ = some (.int .i64 h.tu) := p1.cell 3 rfl
  clear p0 p1
  go_wp2
  go_ret
  exact ⟨rfl, B3⟩

set_option maxRecDepth 20000 in
set_option maxHeartbeats 1000000 in
theorem markHolding_any (v : Value) (h : Hd) (k : Int) (w : World) (base : Nat) (ho : Own w base v h.ks) (hl : h.ks.length ≤ 1048576) (h0 : 0 ≤ k) (h1 : k ≤ 4194304) :
    Calls Tryd.prog 22 #[HV v h, .int .i64 k] w fun e w' => e = .returned (.int .i64 (k + h.ks.length)) ∧ Own w' base v (marks k h.ks.length) ∧ w.grownBy w' v.ownBlock := by
  have B1 : Below w.heap.size w (w.alloc (.cells (hdA v h) 26)) := (Below.refl _ _).alloc (Nat.le_refl _) _
  have G1 : w.grownBy (w.alloc (.cells (hdA v h) 26)) v.ownBlock := World.grownBy_alloc w _ _
  have c1 := mark_any v h.ks k _ base (ho.below B1) (by omega) h0 (by omega)
  obtain ⟨ao, cap, rfl⟩ := reads_form ho.reads
  have hl' : (h.ks.length : Int) ≤ 1048576 := by omega
  clear ho hl
  unfold HV hdA at *
  go_enter Tryd.func22, Tryd.ntmps22
  go_wp2_with fail
  refine c1.mono ?_
  rintro e w2 ⟨rfl, o2, g2⟩
  have HC : Hid (Own w2 base (.slice ao h.ks.length cap) (marks k h.ks.length) ∧ w.grownBy w2 (Value.slice ao h.ks.length cap).ownBlock) := ⟨o2, G1.trans g2⟩
  clear o2 g2 G1 B1 c1
  go_wp2
  go_ret
  exact ⟨rfl, HC.out⟩

set_option maxRecDepth 20000 in
set_option maxHeartbeats 1000000 in
theorem heldHolding_any (v : Value) (h : Hd) (n : Nat) (k : Int) (w : World) (hn : n = h.ks.length) (hr : Reads w v (marks k n)) (hl : n ≤ 1048576) (h0 : 0 ≤ k) (h1 : k ≤ 4194304) :
    Calls Tryd.prog 26 #[HV v h, .int .i64 k] w fun e w' => e = .returned (.int .i64 (k + n)) ∧ Below w.heap.size w w' := by
  have B1 : Below w.heap.size w (w.alloc (.cells (hdA v h) 26)) := (Below.refl _ _).alloc (Nat.le_refl _) _
  have c1 := held_marks v n k _ (hr.below B1 (Nat.le_refl _)) (by omega) h0 (by omega)
  obtain ⟨ao, cap, rfl⟩ := reads_form hr
  have hl' : (n : Int) ≤ 1048576 := by omega
  clear hr hl hn
  unfold HV hdA at *
  go_enter Tryd.func26, Tryd.ntmps26
  go_wp2_with fail
  refine c1.mono ?_
  rintro e w' ⟨rfl, hw⟩; subst w'
  go_wp2
  go_ret
  exact ⟨rfl, B1⟩

set_option maxRecDepth 20000 in
set_option maxHeartbeats 1000000 in
theorem snewH_any (w : World) :
    Calls Tryd.prog 11 #[] w fun e w' => ∃ u, e = .returned (HV u Hd.new) ∧ Own w' w.heap.size u Hd.new.ks ∧ Below w.heap.size w w' := by
  obtain ⟨i0, hi, hz0, hz1, hz2⟩ := info_parts Tryd.infoI
  obtain ⟨w1, hw1⟩ : ∃ w1, w1 = w.alloc (.cells #[.slice none 0 0, .int .i64 0, .int .i64 0, .int .i64 0] 26) := ⟨_, rfl⟩
  have p0 : StB w1 w.heap.size 26 #[.slice none 0 0, .int .i64 0, .int .i64 0, .int .i64 0] := by rw [hw1]; exact StB.new w _ _
  have b1 : Below w.heap.size w w1 := by rw [hw1]; exact (Below.refl _ _).alloc (Nat.le_refl _) _
  have hs1 : w.heap.size < w1.heap.size := p0.lt
  go_enter Tryd.func11, Tryd.ntmps11
  go_upto_region 1 with fail
  rw [← hw1]
  clear hw1
  go_wp2_with (first
    | (refine wpList_make_full _ rfl _ _ 22 rfl w1.heap.size 2 i0 (.int .i64 0) 1 Tryd.underlying22 hi hz0 hz1 _ _ _ _ 4 rfl rfl rfl rfl (by rw [hz2]; omega) (by unfold maxLen; omega) (Nat.le_refl _) ?_; intro w2 hown hgr)
    | (refine wpList_putS Tryd.isH rfl _ _ rfl w.heap.size (hdA (.slice (some ⟨w1.heap.size, 0, none⟩) 4 4) Hd.new) #[.slice none 0 0, .int .i64 0, .int .i64 0, .int .i64 0] rfl rfl rfl rfl (hdA_one _ rfl) (p0.kept hgr (by simp)) ?_; intro w3 s3 g3))
  refine bodyPost_ret (results_S Tryd.isH rfl _ _ w.heap.size _ rfl rfl s3) rfl ?_
  have e4 : (madeCells (Value.int .i64 0).cells (4 * 1)).toList = ([0, 0, 0, 0] : List Int).map (Value.int .i64) := zeros_eq 4
  rw [e4] at hown
  have o2 : Own w2 w1.heap.size (.slice (some ⟨w1.heap.size, 0, none⟩) 4 4) [0, 0, 0, 0] := hown
  have b2 : Below w.heap.size w w2 := b1.grown hgr b1.size (fun k e => by cases e)
  exact ⟨_, rfl, (o2.keptLt g3 hs1).mono b1.size, b2.grown g3 b2.size (fun k e => by cases e; exact Nat.le_refl _)⟩
end Go.Proofs.YteooloceaoinlaaDoor
/- The model's hands on a holding of its own, behind a pointer: l9Turn, l9Free, l9Take, l9Register, l9Reserve, l9Release, l9Clear; l8Copy. -/
namespace Go.Proofs.YteooloceaoinlaaDoor
open Go.ChangeShapes Go.WideShapes Go.ChangeAt Go.RowKit

/- Block g holds the holding h, block q its four keys, both new since there were 'base' blocks. -/
def PQ (w : World) (base g q cap : Nat) (h : Hd) : Prop :=
  StB w g 26 (hdA (.slice (some ⟨q, 0, none⟩) 4 cap) h) ∧ Own w base (.slice (some ⟨q, 0, none⟩) 4 cap) h.ks ∧ (g ≠ q ∧ base ≤ g ∧ base ≤ q ∧ h.ks.length = 4)
def PB (w : World) (base g : Nat) (h : Hd) : Prop := ∃ q cap, PQ w base g q cap h
theorem PQ.put {w : World} {base g q cap : Nat} {h : Hd} (d : PQ w base g q cap h) (j : Nat) (x : Int) (f : Hd) (hk : f.ks = h.ks) (e : (hdA (.slice (some ⟨q, 0, none⟩) 4 cap) h).setIfInBounds j (.int .i64 x) = hdA (.slice (some ⟨q, 0, none⟩) 4 cap) f) :
    PQ (w.setCell ⟨g, j, none⟩ (.int .i64 x)) base g q cap f ∧ Below base w (w.setCell ⟨g, j, none⟩ (.int .i64 x)) := by
  obtain ⟨h1, h2, h3⟩ := d
  have G := grownSet w g j (.int .i64 x)
  refine ⟨⟨h1.put j _ e, ?_, ?_⟩, (Below.refl base w).setCell h3.2.1 _⟩
  · rw [hk]; exact h2.kept G (.inr (by intro e; have : q = g := Option.some.inj e; omega))
  · rw [hk]; exact h3
theorem PQ.key {w : World} {base g q cap : Nat} {h : Hd} (d : PQ w base g q cap h) (j : Nat) (hj : j < 4) (x : Int) :
    w.frozen? ⟨q, j, none⟩ = false ∧ w.cell? ⟨q, j, none⟩ = some (.int .i64 (h.ks.getD j 0)) ∧ PQ (w.setCell ⟨q, j, none⟩ (.int .i64 x)) base g q cap ⟨h.ks.set j x, h.kd, h.ho, h.tu⟩ ∧ Below base w (w.setCell ⟨q, j, none⟩ (.int .i64 x)) := by
  obtain ⟨h1, h2, h3⟩ := d
  obtain ⟨f, -, o⟩ := h2.put h3.2.2.2.symm j hj x
  have G := grownSet w q j (.int .i64 x)
  obtain ⟨-, -, -, hc⟩ := reads_cells h2.reads
  obtain ⟨b, off, e, hcell⟩ := hc j hj
  simp only [Option.some.injEq, Addr.mk.injEq] at e
  obtain ⟨rfl, rfl, -⟩ := e
  rw [Nat.zero_add] at hcell
  refine ⟨f, hcell, ⟨h1.kept G ?_, o, ?_⟩, (Below.refl base w).setCell h3.2.2.1 _⟩
  · intro e; have := Option.some.inj e; omega
  · simpa using h3
theorem PQ.below {w w' : World} {base g q cap : Nat} {h : Hd} (d : PQ w base g q cap h) (b : Below w.heap.size w w') : PQ w' base g q cap h :=
  ⟨d.1.below b, d.2.1.below b, d.2.2⟩
theorem PQ.lt {w : World} {base g q cap : Nat} {h : Hd} (d : PQ w base g q cap h) : base ≤ w.heap.size := by
  have := d.1.lt; have := d.2.2.2.1; omega
theorem PB.below {w w' : World} {base g : Nat} {h : Hd} (d : PB w base g h) (b : Below w.heap.size w w') : PB w' base g h := by
  obtain ⟨q, cap, d⟩ := d
  exact ⟨q, cap, d.below b⟩

theorem PB.lt {w : World} {base g : Nat} {h : Hd} (d : PB w base g h) : base ≤ w.heap.size := by
  obtain ⟨q, cap, d⟩ := d
  exact d.lt
end Go.Proofs.YteooloceaoinlaaDoor
/- The model's Register, Reserve, Release and Clear. -/
namespace Go.Proofs.YteooloceaoinlaaDoor
open Go.ChangeShapes Go.WideShapes Go.ChangeAt Go.RowKit

/- The parameter in its box, the answer's block behind it. -/
def Bx (w wx : World) (v : Value) (h : Hd) : Prop := StB wx w.heap.size 26 (hdA v h) ∧ StB wx (w.heap.size + 1) 26 #[.slice none 0 0, .int .i64 0, .int .i64 0, .int .i64 0] ∧ Below w.heap.size w wx ∧ w.heap.size + 2 ≤ wx.heap.size ∧ Reads wx v h.ks
theorem Bx.start {w : World} {v : Value} {h : Hd} (hr : Reads w v h.ks) : Bx w ((w.alloc (.cells (hdA v h) 26)).alloc (.cells #[.slice none 0 0, .int .i64 0, .int .i64 0, .int .i64 0] 26)) v h := by
  have b1 : Below w.heap.size w (w.alloc (.cells (hdA v h) 26)) := (Below.refl _ _).alloc (Nat.le_refl _) _
  have b2 : Below w.heap.size w ((w.alloc (.cells (hdA v h) 26)).alloc (.cells #[.slice none 0 0, .int .i64 0, .int .i64 0, .int .i64 0] 26)) := b1.alloc (by simp) _
  refine ⟨(StB.new w _ _).alloc _, ?_, b2, by simp, hr.below b2 (Nat.le_refl _)⟩
  have := StB.new (w.alloc (.cells (hdA v h) 26)) 26 #[.slice none 0 0, .int .i64 0, .int .i64 0, .int .i64 0]
  rwa [World.size_alloc] at this
theorem Bx.next {w wx wy : World} {v : Value} {h : Hd} (d : Bx w wx v h) (b : Below wx.heap.size wx wy) : Bx w wy v h :=
  ⟨d.1.below b, d.2.1.below b, d.2.2.1.trans (b.mono d.2.2.1.size), Nat.le_trans d.2.2.2.1 b.size, d.2.2.2.2.below b (Nat.le_refl _)⟩
end Go.Proofs.YteooloceaoinlaaDoor
/- A house of the call's own; l15Copy of the model. -/
namespace Go.Proofs.YteooloceaoinlaaDoor
open Go.ChangeShapes Go.WideShapes Go.ChangeAt Go.RowKit

def blk (v : Value) : List Nat := v.ownBlock.toList
theorem blk_new {w : World} {B : Nat} {v : Value} {xs : List Int} (h : Own w B v xs) : ∀ x ∈ blk v, B ≤ x ∧ x < w.heap.size := fun x hx => h.lt x (by simpa [blk] using hx)
theorem apart_old {u v : Value} {w : World} {B : Nat} {xs : List Int} (hb : ∀ y ∈ blk u, y < B) (h : Own w B v xs) : apart v u := by
  have key : ∀ y, u.ownBlock = some y → v.ownBlock = some y → False := by
    intro y h1 h2
    have a1 := hb y (by unfold blk; rw [h1]; simp)
    have a2 := (h.lt y h2).1
    omega
  constructor
  · cases hv : v.ownBlock with
    | none => exact .inl rfl
    | some y => exact .inr (fun e => key y e.symm hv)
  · cases hu : u.ownBlock with
    | none => exact .inl rfl
    | some y => exact .inr (fun e => key y hu e.symm)
theorem pair_more {l : List Value} {v : Value} {w : World} {B : Nat} {xs : List Int} (hl : l.Pairwise apart) (hb : ∀ x ∈ l, ∀ y ∈ blk x, y < B) (h : Own w B v xs) : (v :: l).Pairwise apart :=
  List.Pairwise.cons (fun x hx => apart_old (hb x hx) h) hl
theorem pair_two {a b : Value} (h : apart a b) : [b, a].Pairwise apart := List.Pairwise.cons (fun x hx => by simp only [List.mem_singleton] at hx; subst hx; exact ⟨h.2, h.1⟩) (List.Pairwise.cons (fun x hx => by cases hx) List.Pairwise.nil)
/- Five lists of its own, apart. -/
structure OwnN (w : World) (base : Nat) (a b k q z : Value) (n : Nd) : Prop where
  oa : Own w base a n.xs
  ob : Own w base b n.ys
  ok : Own w base k n.h.ks
  oq : Own w base q n.c.ts
  oz : Own w base z n.s.ts
  ap : [z, q, k, b, a].Pairwise apart
theorem OwnN.reads {w : World} {base : Nat} {a b k q z : Value} {n : Nd} (h : OwnN w base a b k q z n) : RdN w a b k q z n := ⟨h.oa.reads, h.ob.reads, h.ok.reads, h.oq.reads, h.oz.reads⟩
theorem OwnN.mono {w : World} {base base' : Nat} {a b k q z : Value} {n : Nd} (h : OwnN w base a b k q z n) (hb : base' ≤ base) : OwnN w base' a b k q z n := ⟨h.oa.mono hb, h.ob.mono hb, h.ok.mono hb, h.oq.mono hb, h.oz.mono hb, h.ap⟩
theorem OwnN.below {w w' : World} {base : Nat} {a b k q z : Value} {n : Nd} (h : OwnN w base a b k q z n) (B : Below w.heap.size w w') : OwnN w' base a b k q z n := ⟨h.oa.below B, h.ob.below B, h.ok.below B, h.oq.below B, h.oz.below B, h.ap⟩
theorem OwnN.keptLt {w w' : World} {base g : Nat} {a b k q z : Value} {n : Nd} (h : OwnN w base a b k q z n) (hg : w.grownBy w' (some g)) (hb : g < base) : OwnN w' base a b k q z n := ⟨h.oa.keptLt hg hb, h.ob.keptLt hg hb, h.ok.keptLt hg hb, h.oq.keptLt hg hb, h.oz.keptLt hg hb, h.ap⟩
def zeroNd : Array Value := #[.int .i64 0, .bool false, .slice none 0 0, .slice none 0 0, .slice none 0 0, .int .i64 0, .int .i64 0, .int .i64 0, .string ⟨#[]⟩, .int .i64 0, .int .i64 0, .int .i64 0, .int .i64 0, .int .i64 0, .bool false, .int .i64 0, .int .i64 0, .slice none 0 0, .int .i64 0, .slice none 0 0]
theorem zeroNd_one : zeroNd.all (·.oneCell') = true := by simp [zeroNd, Value.oneCell']
theorem ndA_one {a b k q z : Value} (n : Nd) (ha : a.oneCell' = true) (hb : b.oneCell' = true) (hk : k.oneCell' = true) (hq : q.oneCell' = true) (hz : z.oneCell' = true) : (ndA a b k q z n).all (·.oneCell') = true := by
  unfold ndA
  simp [ha, hb, hk, hq, hz, S, show ∀ k n, (Value.int k n).oneCell' = true from fun _ _ => rfl, show ∀ b, (Value.bool b).oneCell' = true from fun _ => rfl, show ∀ s, (Value.string s).oneCell' = true from fun _ => rfl]

/- What stands while a house is copied. -/
structure NS (w wx : World) (g : Nat) (a b k q z : Value) (n : Nd) (cs : Array Value) : Prop where
  p : StB wx w.heap.size 34 (ndA a b k q z n)
  r : StB wx (w.heap.size + 1) 34 zeroNd
  o : StB wx g 34 cs
  b : Below w.heap.size w wx
  l : w.heap.size + 1 < g
theorem NS.below {w wx wy : World} {g : Nat} {a b k q z : Value} {n : Nd} {cs : Array Value} (h : NS w wx g a b k q z n cs) (B : Below wx.heap.size wx wy) : NS w wy g a b k q z n cs :=
  ⟨h.p.below B, h.r.below B, h.o.below B, h.b.trans (B.mono h.b.size), h.l⟩
theorem NS.put {w wx : World} {g : Nat} {a b k q z : Value} {n : Nd} {cs ds : Array Value} (h : NS w wx g a b k q z n cs) (j : Nat) (x : Value) (e : cs.setIfInBounds j x = ds) : NS w (wx.setCell ⟨g, j, none⟩ x) g a b k q z n ds :=
  ⟨h.p.other _ _ (by have := h.l; show w.heap.size ≠ g; omega), h.r.other _ _ (by have := h.l; show w.heap.size + 1 ≠ g; omega), h.o.put j x e, h.b.setCell (by have := h.l; show w.heap.size ≤ g; omega) _, h.l⟩
/- The house that is given, the answer's place; then a third variable that holds the same. -/
theorem NS.start {w w1 w2 : World} {a b k q z : Value} {n : Nd} (hw1 : w1 = (w.alloc (.cells (ndA a b k q z n) 34)).alloc (.cells zeroNd 34)) (s : StB w2 w1.heap.size 34 (ndA a b k q z n)) (G : (w1.alloc (.cells zeroNd 34)).grownBy w2 (some w1.heap.size)) : NS w w2 w1.heap.size a b k q z n (ndA a b k q z n) := by
  have p1 : StB w1 w.heap.size 34 (ndA a b k q z n) := by rw [hw1]; exact (StB.new w _ _).alloc _
  have r1 : StB w1 (w.heap.size + 1) 34 zeroNd := by
    rw [hw1]
    have := StB.new (w.alloc (.cells (ndA a b k q z n) 34)) 34 zeroNd
    rwa [World.size_alloc] at this
  have b1 : Below w.heap.size w w1 := by rw [hw1]; exact ((Below.refl _ _).alloc (Nat.le_refl _) _).alloc (by simp) _
  have l1 := r1.lt
  have l0 := p1.lt
  refine ⟨(p1.alloc _).kept G (by simp; omega), (r1.alloc _).kept G (by simp; omega), s, ?_, l1⟩
  exact (b1.alloc b1.size _).grown G (by simp; have := b1.size; omega) (fun k e => by cases e; omega)
end Go.Proofs.YteooloceaoinlaaDoor
