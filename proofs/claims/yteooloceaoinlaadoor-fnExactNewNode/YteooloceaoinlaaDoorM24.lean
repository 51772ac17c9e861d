/- Keys as an array of four, on: read from a list, and as a list of their own. -/
import Derived.Test.YteooloceaoinlaaDoorM23
import Derived.Test.YteooloceaoinlaaDoorM4
import Derived.MapKept
import Derived.Carry
import Derived.OwnWalk
import Derived.Test.YteooloceaoinlaaDoorM6
import Derived.Deep.RegionHeld3
import Derived.Deep.DeepCutAuto
import Derived.Test.YteooloceaoinlaaDoorM20
import Derived.Test.YteooloceaoinlaaDoorM21
import Derived.Test.YteooloceaoinlaaDoorM1
namespace Go.Proofs.YteooloceaoinlaaDoor
open Go.ChangeShapes Go.WideShapes Go.ChangeAt Go.RowKit

theorem kA_size (f : Nat → Int) : (kA f).size = 4 := rfl
theorem kA_one (f : Nat → Int) : (kA f).all (·.oneCell') = true := by simp [kA, Value.oneCell']
theorem kA_at (f : Nat → Int) : ∀ j, j < 4 → (kA f)[j]? = some (.int .i64 (f j)) := four rfl rfl rfl rfl
def updF (f : Nat → Int) (j : Nat) (x : Int) : Nat → Int := fun k => if k = j then x else f k
theorem kA_set (f : Nat → Int) (x : Int) : ∀ j, j < 4 → (kA f).setIfInBounds j (.int .i64 x) = kA (updF f j x) := four rfl rfl rfl rfl
theorem kA_congr {f g : Nat → Int} (h : ∀ j, j < 4 → f j = g j) : kA f = kA g := by
  simp [kA, h 0, h 1, h 2, h 3]
def partK (xs : List Int) (j : Nat) : Nat → Int := fun k => if k < j then xs.getD k 0 else 0
theorem partK_step (xs : List Int) (j : Nat) : updF (partK xs j) j (xs.getD j 0) = partK xs (j + 1) := by
  funext k
  unfold updF partK
  by_cases e : k = j
  · subst e; simp
  · have : k < j + 1 ↔ k < j := by omega
    simp [e, this]
theorem partK_zero (xs : List Int) : partK xs 0 = fun _ => 0 := by funext k; simp [partK]
theorem partK_full (xs : List Int) : partK xs xs.length = KF xs := by
  funext k
  unfold partK KF
  split
  · rfl
  · rw [List.getD_eq_getElem?_getD, List.getElem?_eq_none (by omega)]; rfl
def rowOk (ks : List Int) : Bool := decide (ks.length = 4) && keysI ks
def rowKF (ks : List Int) : Nat → Int := fun j => if rowOk ks then ks.getD j 0 else 0
theorem rowKF_yes {xs : List Int} (h : rowOk xs = true) : rowKF xs = KF xs := by funext k; simp [rowKF, KF, h]
theorem rowKF_no {xs : List Int} (h : rowOk xs = false) : rowKF xs = fun _ => 0 := by funext k; simp [rowKF, h]

theorem wpList_getK {ops : Array Oper} {rest : List Oper} {o : Oper} {a : Act} {w : World} {Q : Exit → Act → World → Prop} (hgd : o.guard = none) (x : Operand) (ho : o.op = .load 70 x)
    (g : Nat) (hx : a.eval x = .pointer (some ⟨g, 0, none⟩)) (f : Nat → Int) (hr : StB w g 70 (kA f))
    (h : wpList Tryd.prog ops Q rest (a.put o.dst (.agg (kA f))) w) : wpList Tryd.prog ops Q (o :: rest) a w :=
  wpList_load_row hgd _ x ho g hx _ _ _ _ hr Tryd.underK rfl Tryd.isKeyRow h
theorem wpList_putK {ops : Array Oper} {rest : List Oper} {o : Oper} {a : Act} {w : World} {Q : Exit → Act → World → Prop} (hgd : o.guard = none) (x y : Operand) (ho : o.op = .store 70 x y)
    (g : Nat) (f : Nat → Int) (hx : a.eval x = .pointer (some ⟨g, 0, none⟩)) (hy : a.eval y = .agg (kA f)) (old : Nat → Int) (hr : StB w g 70 (kA old))
    (h : ∀ w', StB w' g 70 (kA f) → w.grownBy w' (some g) → wpList Tryd.prog ops Q rest (a.put o.dst undef) w') : wpList Tryd.prog ops Q (o :: rest) a w :=
  wpList_store_row hgd _ x y ho g (kA f) hx hy _ _ hr Tryd.isKeyRow rfl (kA_one f) (h _ (setRow_heap w g _ _ _ _ hr) (grownRowS w g _))
theorem results_K {fn : Func} {p u : Tmp} (h : fn.results = #[.cell p 70, .tmp u]) (tmps : Array Value) (w : World) (g : Nat) (f : Nat → Int) (x : Value)
    (hp : tmps.getD p undef = .pointer (some ⟨g, 0, none⟩)) (hx : tmps.getD u undef = x) (hr : StB w g 70 (kA f)) :
    (results fn tmps).run Tryd.prog w = .ok (.tuple #[.agg (kA f), x]) w := by
  rw [results_cell_tmp h, hp, hx]
  simp only [asAddr, Sem.run_pure, Result.andThen_ok]
  rw [run_loadVar_row w g _ _ _ _ _ hr Tryd.underK rfl Tryd.isKeyRow]
  rfl

def KRel (xs : List Int) (w wr : World) (j : Nat) : Prop := StB wr w.heap.size 70 (kA fun _ => 0) ∧ StB wr (w.heap.size + 1) 70 (kA (partK xs j)) ∧ keysI (xs.take j) = true ∧ Below w.heap.size w wr
theorem KRel.start (xs : List Int) (w : World) : KRel xs w ((w.alloc (.cells (kA fun _ => 0) 70)).alloc (.cells (kA fun _ => 0) 70)) 0 := by
  refine ⟨(StB.new w _ _).alloc _, ?_, by simp [keysI], ((Below.refl _ _).alloc (Nat.le_refl _) _).alloc (by simp) _⟩
  have := StB.new (w.alloc (.cells (kA fun _ => 0) 70)) 70 (kA fun _ => 0)
  rw [partK_zero]
  simpa using this

def listK (f : Nat → Int) : List Int := [f 0, f 1, f 2, f 3]
theorem listK_KF {ks : List Int} (h : ks.length = 4) : listK (KF ks) = ks := by
  match ks, h with
  | [a, b, c, d], _ => rfl
set_option maxRecDepth 20000 in
set_option maxHeartbeats 1000000 in
theorem ilistK_any (f : Nat → Int) (w : World) :
    Calls Tryd.prog 56 #[.agg (kA f)] w fun e w' => ∃ u, e = .returned u ∧ Own w' w.heap.size u (listK f) ∧ Below w.heap.size w w' := by
  obtain ⟨i0, hi, hz0, hz1, hz2⟩ := info_parts Tryd.infoI
  obtain ⟨w1, hw1⟩ : ∃ w1, w1 = (w.alloc (.cells (kA f) 70)).alloc (.cells #[] 2) := ⟨_, rfl⟩
  have hown : w1.ownsRow w.heap.size 2 1 (.slice (some ⟨w.heap.size + 1, 0, none⟩) 0 0) 0 [] := by
    have := World.ownsRow_lit (base := w.heap.size) (e := 2) (size := 1) (w.alloc (.cells (kA f) 70)) #[] 0 (by simp) (Nat.zero_le _) rfl
    rw [hw1]
    simpa using this
  have hrow : StB w1 w.heap.size 70 (kA f) := by rw [hw1]; exact (StB.new w _ _).alloc _
  have hnews : ∀ j u, ((listK f).map (Value.int .i64))[j]? = some u → w1.cell? ((⟨w.heap.size, 0, none⟩ : Addr).add j) = some u := by
    intro j u hj
    have hlt : j < 4 := by
      rcases Nat.lt_or_ge j 4 with h | h
      · exact h
      · rw [List.getElem?_eq_none (by simpa [listK] using h)] at hj; cases hj
    rw [show (⟨w.heap.size, 0, none⟩ : Addr).add j = ⟨w.heap.size, j, none⟩ by unfold Addr.add; split <;> simp_all]
    rw [hrow.cell j (kA_at f j hlt)]
    rw [← hj]
    exact four (p := fun j => some (Value.int .i64 (f j)) = ((listK f).map (Value.int .i64))[j]?) rfl rfl rfl rfl j hlt
  have hone : ∀ u ∈ (listK f).map (Value.int .i64), u.oneCell' = true := by
    intro u hu
    obtain ⟨x, _, rfl⟩ := List.mem_map.1 hu
    rfl
  have hll : ((listK f).map (Value.int .i64)).length = 4 * 1 := rfl
  have hb1 : Below w.heap.size w w1 := by rw [hw1]; exact ((Below.refl _ _).alloc (Nat.le_refl _) _).alloc (by simp) _
  go_enter Tryd.func56, Tryd.ntmps56
  go_wp2_with (at_builtin; rw [← hw1]; refine wpList_append_own _ rfl _ _ 22 rfl w.heap.size 2 i0 (.int .i64 0) 1 8 Tryd.underlying22 hi hz0 hz1 hz2 rfl (by decide) _ _ _ rfl hown _ 4 4 ((listK f).map (Value.int .i64)) rfl hll hnews hone (by unfold maxLen; omega) (by omega) hb1.size ?_)
  intro v' w2 hown' hgrow _
  rw [← hw1] at hgrow
  have HG : Hid (Below w.heap.size w w2) := hb1.grown hgrow hb1.size (fun g e => by simp [Value.ownBlock] at e; omega)
  go_wp2
  go_ret
  refine ⟨_, rfl, ?_, HG.out⟩
  unfold Own
  simpa [show (listK f).length = 4 from rfl] using hown'
end Go.Proofs.YteooloceaoinlaaDoor
/- A table keyed by two truths, in a block: what it holds, and the runs of Go's operations on it. -/
namespace Go.Proofs.YteooloceaoinlaaDoor
open Go.ChangeShapes Go.WideShapes Go.ChangeAt Go.RowKit

def keyB (x y : Bool) : Value := .agg #[.bool x, .bool y]
def entB (p : Bool × Bool × Nat) : MapEntry := ⟨keyB p.1 p.2.1, .int .i64 1, p.2.2⟩

def findB (x y : Bool) : List (Bool × Bool × Nat) → Nat → Option (Nat × Value)
  | [], _ => none
  | p :: l, i => if (x == p.1 && y == p.2.1) = true then some (i, .int .i64 1) else findB x y l (i + 1)
def delB (x y : Bool) : List (Bool × Bool × Nat) → List (Bool × Bool × Nat)
  | [] => []
  | p :: l => if (x == p.1 && y == p.2.1) = true then l else p :: delB x y l
def hasBK (l : List (Bool × Bool × Nat)) (x y : Bool) : Bool := l.any fun p => x == p.1 && y == p.2.1
def ApartB (l : List (Bool × Bool × Nat)) : Prop := l.Pairwise fun p q => (p.1 == q.1 && p.2.1 == q.2.1) = false

theorem findB_nil (x y : Bool) (l : List (Bool × Bool × Nat)) : ∀ i, hasBK l x y = false → findB x y l i = none ∧ delB x y l = l := by
  induction l with
  | nil => intro i _; exact ⟨rfl, rfl⟩
  | cons p l ih =>
    intro i h
    simp only [hasBK, List.any_cons, Bool.or_eq_false_iff] at h
    obtain ⟨h1, h2⟩ := ih (i + 1) h.2
    simp [findB, delB, h.1, h1, h2]
theorem findB_some (x y : Bool) (l : List (Bool × Bool × Nat)) : ∀ i, hasBK l x y = true → ∃ j, findB x y l i = some (i + j, .int .i64 1) ∧ l.eraseIdx j = delB x y l := by
  induction l with
  | nil => intro i h; cases h
  | cons p l ih =>
    intro i h
    by_cases hb : (x == p.1 && y == p.2.1) = true
    · exact ⟨0, by simp [findB, hb], by simp [delB, hb]⟩
    · have h' : hasBK l x y = true := by
        simp only [hasBK, List.any_cons, Bool.or_eq_true] at h
        rcases h with h | h
        · exact absurd h hb
        · exact h
      obtain ⟨j, h1, h2⟩ := ih (i + 1) h'
      refine ⟨j + 1, ?_, ?_⟩
      · unfold findB
        rw [if_neg hb, h1]
        simp [Nat.add_assoc, Nat.add_comm 1 j]
      · unfold delB
        rw [if_neg hb, ← h2]
        rfl
theorem del_sub (x y : Bool) (l : List (Bool × Bool × Nat)) : (delB x y l).Sublist l := by
  induction l with
  | nil => exact List.Sublist.refl _
  | cons p l ih =>
    unfold delB
    split
    · exact List.sublist_cons_self _ _
    · exact ih.cons_cons _
theorem has_del (x y a b : Bool) (l : List (Bool × Bool × Nat)) (h : ApartB l) : hasBK (delB x y l) a b = (hasBK l a b && !(a == x && b == y)) := by
  induction l with
  | nil => rfl
  | cons p l ih =>
    have h2 := List.pairwise_cons.1 h
    have ih := ih h2.2
    obtain ⟨p1, p2, n⟩ := p
    unfold delB
    by_cases hb : (x == p1 && y == p2) = true
    · rw [if_pos hb]
      have hno : hasBK l p1 p2 = false := by
        unfold hasBK
        rw [List.any_eq_false]
        intro q hq
        simpa using h2.1 q hq
      simp only [Bool.and_eq_true, beq_iff_eq] at hb
      obtain ⟨rfl, rfl⟩ := hb
      by_cases ha : (a == x && b == y) = true
      · simp only [Bool.and_eq_true, beq_iff_eq] at ha
        obtain ⟨rfl, rfl⟩ := ha
        rw [hno]; simp
      · have ha' : (a == x && b == y) = false := by simpa using ha
        simp only [hasBK, List.any_cons, ha', Bool.false_or, Bool.not_false, Bool.and_true]
    · rw [if_neg hb]
      simp only [hasBK, List.any_cons] at ih ⊢
      rw [ih]
      have hb' : (x == p1 && y == p2) = false := by simpa using hb
      revert hb'
      cases a <;> cases b <;> cases x <;> cases y <;> cases p1 <;> cases p2 <;> simp

/- Block b of w holds a table of the pairs at which t is true, each with 1. -/
def MB (w : World) (b : Nat) (t : Bool → Bool → Bool) : Prop :=
  ∃ l clock, w.heap[b]? = some (.map (l.map entB).toArray clock) ∧ ApartB l ∧ ∀ x y, hasBK l x y = t x y
theorem MB.of (w w' : World) (b : Nat) (t : Bool → Bool → Bool) (h : MB w b t) (e : w'.heap[b]? = w.heap[b]?) : MB w' b t := by
  obtain ⟨l, c, hb, ha, ht⟩ := h
  exact ⟨l, c, e.trans hb, ha, ht⟩
theorem MB.eq {w : World} {b : Nat} {t s : Bool → Bool → Bool} (h : MB w b t) (e : ∀ x y, t x y = s x y) : MB w b s := by
  obtain ⟨l, c, hb, ha, ht⟩ := h
  exact ⟨l, c, hb, ha, fun x y => (ht x y).trans (e x y)⟩
theorem MB.lt {w : World} {b : Nat} {t : Bool → Bool → Bool} (h : MB w b t) : b < w.heap.size := by
  obtain ⟨l, c, hb, _, _⟩ := h
  exact (Array.getElem?_eq_some_iff.1 hb).1

def putT (t : Bool → Bool → Bool) (x y : Bool) : Bool → Bool → Bool := fun a b => t a b || (a == x && b == y)
def delT (t : Bool → Bool → Bool) (x y : Bool) : Bool → Bool → Bool := fun a b => t a b && !(a == x && b == y)
end Go.Proofs.YteooloceaoinlaaDoor
/- Kinds by the program: shapes, the table of a kind, KindOk, ForAll. -/
namespace Go.Proofs.YteooloceaoinlaaDoor
open Go.ChangeShapes Go.WideShapes Go.ChangeAt Go.RowKit

def heldI (k : Int) : Int := if k = 1 then 1 else if k = 2 then 1 else if k = 3 then 2 else if k = 4 then 2 else if k = 5 then 3 else if k = 6 then 3 else 0
def whatI (k : Int) : Int := if k = 1 then 1 else if k = 2 then 2 else if k = 3 then 1 else if k = 4 then 2 else if k = 5 then 1 else if k = 6 then 2 else 0

theorem allI_held (k : Int) : allI k = decide (heldI k = 3) := by
  rcases kinds k with h | h | h | h | h | h | h | ⟨hk, h0, h1, h2, h3, h4, h5, h6⟩
  all_goals first | (subst h; rfl) | (rw [none_all k hk, show heldI k = 0 by simp [heldI, h1, h2, h3, h4, h5, h6]]; rfl)

/- The table that the call itself made, in block b, behind what it was given. -/
def MBB (w0 w : World) (b : Nat) (t : Bool → Bool → Bool) : Prop := MB w b t ∧ Below w0.heap.size w0 w ∧ w0.heap.size ≤ b
theorem MBB.start (w : World) : MBB w (w.alloc (.map #[] 0)).drew w.heap.size (fun _ _ => false) :=
  ⟨⟨[], 0, (MapKept.heap_alloc w _).1, List.Pairwise.nil, fun _ _ => rfl⟩, ((Below.refl w.heap.size w).alloc (Nat.le_refl _) _).drew, Nat.le_refl _⟩
theorem MBB.grown {w0 w w' : World} {b : Nat} {t s : Bool → Bool → Bool} (h : MBB w0 w b t) (hm : MB w' b s) (hg : w.grownBy w' (some b)) : MBB w0 w' b s :=
  ⟨hm, h.2.1.grown hg h.2.1.size (fun k e => by cases e; exact h.2.2), h.2.2⟩
theorem MBB.below {w0 w w' : World} {b : Nat} {t : Bool → Bool → Bool} (h : MBB w0 w b t) (hb : Below w.heap.size w w') : MBB w0 w' b t :=
  ⟨MB.of w w' b t h.1 (hb.block b h.1.lt), h.2.1.trans (hb.mono h.2.1.size), h.2.2⟩
theorem MBB.eq {w0 w : World} {b : Nat} {t s : Bool → Bool → Bool} (h : MBB w0 w b t) (e : ∀ x y, t x y = s x y) : MBB w0 w b s := ⟨h.1.eq e, h.2⟩

def tabI (p q : Int) (x y : Bool) : Bool := !decide (p = 0) && (!(decide (q = 1) && !x) && !(!decide (p = 1) && y))
end Go.Proofs.YteooloceaoinlaaDoor
/- Bars and Allowed by the program. -/
namespace Go.Proofs.YteooloceaoinlaaDoor
open Go.ChangeShapes Go.WideShapes Go.ChangeAt Go.RowKit

theorem barsI_tab (k : Int) (b : Bool) : barsI k b = tabI (heldI k) (whatI k) b false := by
  rcases kinds k with h | h | h | h | h | h | h | ⟨hk, h0, h1, h2, h3, h4, h5, h6⟩
  all_goals first | (subst h; cases b <;> rfl) | (rw [none_bars k b hk, show heldI k = 0 by simp [heldI, h1, h2, h3, h4, h5, h6]]; rfl)
theorem mayI_tab (k : Int) (b r : Bool) (hk : kiI k = true) : mayI k b false r = !tabI (heldI k) (whatI k) b r := by
  rcases kinds k with h | h | h | h | h | h | h | ⟨hn, h0, h1, h2, h3, h4, h5, h6⟩
  all_goals first | (rw [hk] at hn; cases hn) | (subst h; first | (cases b <;> cases r <;> rfl) | (exact absurd hk (by decide)))
end Go.Proofs.YteooloceaoinlaaDoor
/- A holding that embeds its keys, by the program: holderOk, holds, holding. -/
namespace Go.Proofs.YteooloceaoinlaaDoor
open Go.ChangeShapes Go.WideShapes Go.ChangeAt Go.RowKit

def heA (f : Nat → Int) (kd ho tu : Int) : Array Value := #[.int .i64 (f 0), .int .i64 (f 1), .int .i64 (f 2), .int .i64 (f 3), .int .i64 kd, .int .i64 ho, .int .i64 tu]
def midF (f : Nat → Int) (kd ho : Int) : Bool := if kd = 0 then decide (ho = -1) else if allI kd then decide (ho = -1) && anyF f else kiI kd && (inI ho 0 3 && decide (f ho.toNat ≠ 0))
def holdsF (f : Nat → Int) (kd ho i : Int) : Bool := (inI i 0 3 && decide (f i.toNat ≠ 0)) && (allI kd || decide (i = ho))
theorem Tryd.isHeld : IsS 72 7 := ⟨⟨_, Tryd.underlying72⟩, by kernel_rfl⟩
theorem heA_cells {w : World} {g : Nat} {f : Nat → Int} {kd ho tu : Int} (h : StB w g 72 (heA f kd ho tu)) :
    w.cell? ⟨g, 0, none⟩ = some (.int .i64 (f 0)) ∧ w.cell? ⟨g, 1, none⟩ = some (.int .i64 (f 1)) ∧ w.cell? ⟨g, 2, none⟩ = some (.int .i64 (f 2)) ∧ w.cell? ⟨g, 3, none⟩ = some (.int .i64 (f 3)) ∧ w.cell? ⟨g, 4, none⟩ = some (.int .i64 kd) ∧ w.cell? ⟨g, 5, none⟩ = some (.int .i64 ho) ∧ w.cell? ⟨g, 6, none⟩ = some (.int .i64 tu) :=
  ⟨h.cell 0 rfl, h.cell 1 rfl, h.cell 2 rfl, h.cell 3 rfl, h.cell 4 rfl, h.cell 5 rfl, h.cell 6 rfl⟩
end Go.Proofs.YteooloceaoinlaaDoor
/- Holdings by the program: heldOf, HoldingOk, Registered, Holds, May. -/
namespace Go.Proofs.YteooloceaoinlaaDoor
open Go.ChangeShapes Go.WideShapes Go.ChangeAt Go.RowKit

theorem anyF_KF {ks : List Int} (h : ks.length = 4) : anyF (KF ks) = anyI ks := by
  match ks, h with
  | [a, b, c, d], _ => simp [anyF, KF, anyI, Bool.or_assoc, bne, decide_not]; rfl
theorem midF_KF {h : Hd} (e : h.ks.length = 4) : midF (KF h.ks) h.kd h.ho = h.mid := by
  unfold midF Hd.mid
  rw [anyF_KF e]
  unfold regI KF
  simp only [Bool.and_assoc]
theorem ok_row {h : Hd} (e : rowOk h.ks = true) : h.ok = (midF (KF h.ks) h.kd h.ho && inI h.tu 0 1000000000) := by
  unfold rowOk at e
  simp only [Bool.and_eq_true, decide_eq_true_eq] at e
  rw [midF_KF e.1]
  unfold Hd.ok
  rw [e.2]
  simp [e.1, Bool.and_comm]
theorem ok_norow {h : Hd} (e : rowOk h.ks = false) : h.ok = false := by
  unfold Hd.ok
  unfold rowOk at e
  cases h1 : decide (h.ks.length = 4)
  · simp
  · rw [h1] at e; simp at e; simp [e]
def heldV (h : Hd) : Array Value := if h.ok then heA (KF h.ks) h.kd h.ho h.tu else heA (fun _ => 0) 0 0 0
theorem he0 : (#[.int .i64 0, .int .i64 0, .int .i64 0, .int .i64 0, .int .i64 0, .int .i64 0, .int .i64 0] : Array Value) = heA (fun _ => 0) 0 0 0 := rfl
theorem heA_one (f : Nat → Int) (a b c : Int) : (heA f a b c).all (·.oneCell') = true := by simp [heA, Value.oneCell']

theorem heldV_form (h : Hd) : ∃ f a b c, heldV h = heA f a b c ∧ (h.ok = true → f = KF h.ks ∧ a = h.kd ∧ b = h.ho ∧ c = h.tu) := by
  unfold heldV
  cases h.ok
  · exact ⟨fun _ => 0, 0, 0, 0, rfl, fun e => by cases e⟩
  · exact ⟨_, _, _, _, rfl, fun _ => ⟨rfl, rfl, rfl, rfl⟩⟩
end Go.Proofs.YteooloceaoinlaaDoor
/- The program's store: two lists held against each other (slices.Equal), a holding anew, StoreOk. -/
namespace Go.Proofs.YteooloceaoinlaaDoor
open Go.ChangeShapes Go.WideShapes Go.ChangeAt Go.RowKit
end Go.Proofs.YteooloceaoinlaaDoor
/- What Check of the program answers. -/
namespace Go.Proofs.YteooloceaoinlaaDoor
open Go.ChangeShapes Go.WideShapes Go.ChangeAt Go.RowKit

set_option maxRecDepth 20000 in
set_option maxHeartbeats 1000000 in
theorem icheck_any (l : Bs) (w : World) (hl : l.length ≤ 1048576) :
    Calls Tryd.prog 51 #[S l] w fun e w' => e = .returned (.int .i64 (chk l)) ∧ w' = w := by
  have hsz : (⟨l.toArray⟩ : ByteArray).size = l.length := rfl
  unfold S
  go_enter Tryd.func51, Tryd.ntmps51
  go_wp2
  go_loop [3, 7] (fun h i => ∃ j : Nat, j ≤ l.length ∧ i = .int .i64 j ∧ ∃ x : Int, h = .int .i64 x ∧ 0 ≤ x ∧ x < 999983 ∧ Hid (x = chk (l.take j))) (fun _ i => l.length - (intOf i).toNat)
  case atStart => exact ⟨0, Nat.zero_le _, rfl, 19, rfl, by omega, by omega, by simp [Hid, chk]⟩
  case round =>
    obtain ⟨j, hj, rfl, x, rfl, hx0, hx1, HX⟩ := hrel
    by_cases hlt : (j : Int) < (l.length : Int)
    · go_wp2
      go_round
      case rel =>
        have h1 : j < l.length := by omega
        have h2 := chk_bd (l.take (j + 1))
        have h3 := chk_step l j h1
        rw [← HX.out] at h3
        exact ⟨j + 1, by omega, by go_num, _, congrArg (Value.int .i64) h3, h2.1, h2.2, rfl⟩
      case measure => simp [intOf]; omega
    · go_wp2
      go_ret
      have e : j = l.length := by omega
      have := HX.out
      rw [e, List.take_length] at this
      exact ⟨ret_int this, rfl⟩
end Go.Proofs.YteooloceaoinlaaDoor
