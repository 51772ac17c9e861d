/- Sinks by the model: NewSink, Received. -/
import Derived.Test.YteooloceaoinlaaDoorM17
import Derived.OwnWalk
import Derived.Test.YteooloceaoinlaaDoorM15
import Derived.Test.YteooloceaoinlaaDoorM11
namespace Go.Proofs.YteooloceaoinlaaDoor
open Go.ChangeShapes Go.WideShapes Go.ChangeAt Go.RowKit

theorem made_own0 {w w1 w2 : World} {v : Value} {k : Nat} (hlt : w.heap.size < w1.heap.size) (o2 : w2.ownsRow w1.heap.size 2 1 v k ((List.replicate k (0 : Int)).map (Value.int .i64))) : Own w2 (w.heap.size + 1) v (List.replicate k 0) := by
  have : Own w2 w1.heap.size v (List.replicate k 0) := by unfold Own; simpa using o2
  exact this.mono hlt
end Go.Proofs.YteooloceaoinlaaDoor
/- The program's row of turns: what is there, what is newer, one that is put in. -/
namespace Go.Proofs.YteooloceaoinlaaDoor
open Go.ChangeShapes Go.WideShapes Go.ChangeAt Go.RowKit

end Go.Proofs.YteooloceaoinlaaDoor
/- The program's sinks: SinkOk, NewSink, Fits, Received. -/
namespace Go.Proofs.YteooloceaoinlaaDoor
open Go.ChangeShapes Go.WideShapes Go.ChangeAt Go.RowKit

def Sn.unused (c : Sn) : Bool := decide (c.tr = 0) && decide (c.ts.length = 0)
theorem Sn.ok_unused {c : Sn} (h : c.unused = true) : c.ok = true := by
  unfold Sn.unused at h
  simp only [Bool.and_eq_true, decide_eq_true_eq] at h
  unfold Sn.ok
  rw [if_pos h.1]
  simpa using h.2
theorem Sn.ok_used {c : Sn} (h : c.unused = false) : c.ok = (inI c.tr 1 100000 && (turnsI c.ts && inI c.ts.length 1 8)) := by
  unfold Sn.unused at h
  unfold Sn.ok
  by_cases e : c.tr = 0
  · rw [if_pos e]
    rw [decide_eq_true e, Bool.true_and] at h
    rw [h]
    have : inI c.tr 1 100000 = false := by rw [e]; decide
    rw [this]
    rfl
  · rw [if_neg e]

theorem Sn.Fits_eq (c : Sn) (t i n : Int) : c.Fits t i n = (c.ok && inI t 1 100000 && decide (c.tr = t) && (decide (0 ≤ i) && decide (i < (c.ts.length : Int)) && decide (c.ts.getD i.toNat 0 < n))) := by
  unfold Sn.Fits Sn.fits
  cases ok : c.ok with
  | false => rfl
  | true =>
    by_cases e : c.tr = t
    · subst e
      have h : decide (0 < c.tr) = inI c.tr 1 100000 ∨ c.ts.length = 0 := by
        unfold Sn.ok at ok
        split at ok
        · exact .inr (by simpa using ok)
        · simp only [Bool.and_eq_true, inI_iff] at ok
          left
          rw [decide_eq_true (by omega), (inI_iff _ _ _).2 ok.1]
      rcases h with h | h
      · rw [h]
        simp only [Bool.true_and, decide_true, Bool.and_true, Bool.and_assoc]
      · rw [h]
        have : (decide (0 ≤ i) && decide (i < ((0 : Nat) : Int))) = false := by
          by_cases h0 : 0 ≤ i
          · rw [decide_eq_true h0, decide_eq_false (by omega)]; rfl
          · rw [decide_eq_false h0]; rfl
        rw [this, Bool.false_and, Bool.and_false, Bool.and_assoc, Bool.and_assoc, ← Bool.and_assoc (decide (0 ≤ i)), this, Bool.false_and, Bool.and_false, Bool.and_false]
    · rw [decide_eq_false e]
      simp

theorem two_cells {w : World} {B j : Nat} {x y z : Value} (h : w.cell? ⟨B, j, none⟩ = some z) : ((w.setCell ⟨B + 1, 0, none⟩ x).setCell ⟨B + 1, 1, none⟩ y).cell? ⟨B, j, none⟩ = some z := by
  rw [World.cell?_setCell_far _ _ _ _ (by simp), World.cell?_setCell_far _ _ _ _ (by simp), h]
theorem below_undrew {w w' : World} (b : Below w.drew.heap.size w.drew w') : Below w.heap.size w w' := ((Below.refl w.heap.size w).drew).trans b
end Go.Proofs.YteooloceaoinlaaDoor
/- When a house is right, plainly, in the program's own order of tests. -/
namespace Go.Proofs.YteooloceaoinlaaDoor
open Go.RowKit

theorem stepE_ok (l : List (Bs × Nat)) : ∀ a : Option (Rc × Nat), (∀ x, a = some x → x.1.ok = true) → ∀ x, l.foldl stepE a = some x → x.1.ok = true := by
  induction l with
  | nil => intro a h x e; exact h x e
  | cons y l ih =>
    intro a h x e
    refine ih (stepE a y) (fun z hz => ?_) x e
    unfold stepE at hz
    split at hz
    · rename_i r hr
      simp only [Option.some.injEq] at hz
      rw [← hz]
      exact readR_ok _ _ hr
    · exact h z hz
theorem recall_ok (s : Bs) (h : (recallB s).isSome = true) : (recR (recallB s)).ok = true := by
  cases e : recallB s with
  | none => rw [e] at h; cases h
  | some x => exact stepE_ok (wholeE s) none (fun _ h => by cases h) x e
def Nd.logP (n : Nd) : Bool := decide (n.log.length ≤ 40000) && ((recallB n.log).isSome && sameR (recR (recallB n.log)) n.r && (!n.up || decide (n.log.take (recAt (recallB n.log)) = n.log)))
def Nd.copP (n : Nd) : Bool := n.c.unused || (n.up && decide (n.r.s ≠ 3) && decide (n.c.tr = n.r.t) && n.c.ok && decide (n.c.ts.length = n.ys.length))
def Nd.snkP (n : Nd) : Bool := n.s.unused || (n.up && decide (n.r.s = 3) && decide (n.s.tr = n.r.n) && n.s.ok && decide (n.s.ts.length = n.ys.length))
theorem Cp.unused_tr {c : Cp} (h : c.unused = true) : c.tr = 0 := by
  unfold Cp.unused at h
  simp only [Bool.and_eq_true, decide_eq_true_eq] at h
  exact h.1.1.1.1
theorem Cp.used_tr {c : Cp} (h : c.unused = false) (ho : c.ok = true) : c.tr ≠ 0 := by
  rw [Cp.ok_used h] at ho
  simp only [Bool.and_eq_true, inI, decide_eq_true_eq] at ho
  intro e
  have := ho.1.1.1
  omega
theorem Sn.unused_tr {c : Sn} (h : c.unused = true) : c.tr = 0 := by
  unfold Sn.unused at h
  simp only [Bool.and_eq_true, decide_eq_true_eq] at h
  exact h.1
theorem Sn.used_tr {c : Sn} (h : c.unused = false) (ho : c.ok = true) : c.tr ≠ 0 := by
  rw [Sn.ok_used h] at ho
  simp only [Bool.and_eq_true, inI, decide_eq_true_eq] at ho
  intro e
  have := ho.1
  omega
theorem Nd.ok_prog (n : Nd) : n.ok = (inI n.id 0 1 && (Sr.ok ⟨n.xs, n.ys, n.h⟩ && (n.logP && (n.copP && n.snkP)))) := by
  have hl := recall_le n.log
  rw [Bool.eq_iff_iff, Nd.ok_iff]
  unfold Sr.ok Nd.logP
  simp only [Bool.and_eq_true, decide_eq_true_eq, sameR_iff]
  constructor
  · intro h
    refine ⟨h.id, ⟨h.dk, h.h⟩, ⟨h.ll, ⟨h.lg.is, h.lg.rc⟩, ?_⟩, ?_, ?_⟩
    · cases hu : n.up with
      | false => rfl
      | true =>
        simp only [Bool.not_true, Bool.false_or, decide_eq_true_eq]
        exact (take_all _ _ hl).2 (h.lg.al hu)
    · unfold Nd.copP
      cases hc : n.c.unused with
      | true => rfl
      | false =>
        have ht := Cp.used_tr hc h.c
        obtain ⟨q1, q2, q3⟩ := h.cp ht
        have hu : n.up = true := by
          cases hu : n.up with
          | true => rfl
          | false => exact absurd (h.dn hu).1 ht
        simp [hu, q1, h.c, q3, ← q2]
    · unfold Nd.snkP
      cases hc : n.s.unused with
      | true => rfl
      | false =>
        have ht := Sn.used_tr hc h.s
        obtain ⟨q1, q2, q3⟩ := h.sk ht
        have hu : n.up = true := by
          cases hu : n.up with
          | true => rfl
          | false => exact absurd (h.dn hu).2 ht
        simp [hu, q1, h.s, q3, ← q2]
  · rintro ⟨h1, ⟨h2, h3⟩, ⟨h4, ⟨h5, h6⟩, h7⟩, h8, h9⟩
    have hc : n.c.ok = true ∧ (n.up = false → n.c.tr = 0) ∧ (n.c.tr ≠ 0 → n.r.s ≠ 3 ∧ n.c.tr = n.r.t ∧ n.c.ts.length = n.ys.length) := by
      unfold Nd.copP at h8
      cases hc : n.c.unused with
      | true => exact ⟨Cp.ok_unused hc, fun _ => Cp.unused_tr hc, fun e => absurd (Cp.unused_tr hc) e⟩
      | false =>
        rw [hc] at h8
        simp only [Bool.false_or, Bool.and_eq_true, decide_eq_true_eq] at h8
        obtain ⟨⟨⟨⟨a1, a2⟩, a3⟩, a4⟩, a5⟩ := h8
        exact ⟨a4, fun e => by rw [a1] at e; (cases e), fun _ => ⟨a2, a3, a5⟩⟩
    have hs : n.s.ok = true ∧ (n.up = false → n.s.tr = 0) ∧ (n.s.tr ≠ 0 → n.r.s = 3 ∧ n.s.tr = n.r.n ∧ n.s.ts.length = n.ys.length) := by
      unfold Nd.snkP at h9
      cases hc : n.s.unused with
      | true => exact ⟨Sn.ok_unused hc, fun _ => Sn.unused_tr hc, fun e => absurd (Sn.unused_tr hc) e⟩
      | false =>
        rw [hc] at h9
        simp only [Bool.false_or, Bool.and_eq_true, decide_eq_true_eq] at h9
        obtain ⟨⟨⟨⟨a1, a2⟩, a3⟩, a4⟩, a5⟩ := h9
        exact ⟨a4, fun e => by rw [a1] at e; (cases e), fun _ => ⟨a2, a3, a5⟩⟩
    have hr : n.r.ok = true := by rw [← h6]; exact recall_ok n.log h5
    refine ⟨h1, h2, h3, hr, h4, hc.1, hs.1, ⟨h5, h6, fun hu => ?_⟩, fun hu => ⟨hc.2.1 hu, hs.2.1 hu⟩, hc.2.2, hs.2.2⟩
    rw [hu] at h7
    simp only [Bool.not_true, Bool.false_or, decide_eq_true_eq] at h7
    exact (take_all _ _ hl).1 h7
end Go.Proofs.YteooloceaoinlaaDoor
/- Whether a record is right; how the laws take one over and compare two. -/
namespace Go.Proofs.YteooloceaoinlaaDoor
open Go.ChangeShapes Go.WideShapes Go.ChangeAt Go.RowKit

set_option maxRecDepth 20000 in
set_option maxHeartbeats 1000000 in
theorem srecok_any (r : Rc) (w : World) :
    Calls Tryd.prog 29 #[RV r] w fun e w' => e = .returned (.bool r.ok) ∧ Below w.heap.size w w' := by
  have c1 := fun wx => sepoch_any r.e wx
  have c2 := fun wx => sinN_any r.s 1 3 wx
  have c3 := fun wx => sepoch_any r.t wx
  have c4 := fun wx => sepoch_any r.n wx
  have hst : (decide (1 ≤ r.s) && decide (r.s ≤ 3)) = stI r.s := rfl
  simp only [hst] at c2
  have hok : r.ok = (epI r.e && stI r.s && epI r.t && epI r.n) := rfl
  rw [hok]
  have hb : Below w.heap.size w (w.alloc (.cells (recA r) 28)) := (Below.refl _ _).alloc (Nat.le_refl _) _
  obtain ⟨x1, x2, x3, x4⟩ := r
  dsimp only at c1 c2 c3 c4 ⊢
  unfold RV recA at *
  dsimp only at hb ⊢
  obtain ⟨b1, h1⟩ : ∃ b, b = epI x1 := ⟨_, rfl⟩
  obtain ⟨b2, h2⟩ : ∃ b, b = stI x2 := ⟨_, rfl⟩
  obtain ⟨b3, h3⟩ : ∃ b, b = epI x3 := ⟨_, rfl⟩
  obtain ⟨b4, h4⟩ : ∃ b, b = epI x4 := ⟨_, rfl⟩
  simp only [← h1, ← h2, ← h3, ← h4] at c1 c2 c3 c4 ⊢
  clear h1 h2 h3 h4 hok hst
  go_enter Tryd.func29, Tryd.ntmps29
  go_wp2_with fail
  refine (c1 _).mono ?_
  rintro e w' ⟨rfl, hw⟩; subst w'
  cases b1 with
  | false =>
    go_wp2_with fail
    go_ret
    exact ⟨rfl, hb⟩
  | true =>
    go_wp2_with fail
    refine (c2 _).mono ?_
    rintro e w' ⟨rfl, hw⟩; subst w'
    cases b2 with
    | false =>
      go_wp2_with fail
      go_ret
      exact ⟨rfl, hb⟩
    | true =>
      go_wp2_with fail
      refine (c3 _).mono ?_
      rintro e w' ⟨rfl, hw⟩; subst w'
      cases b3 with
      | false =>
        go_wp2_with fail
        go_ret
        exact ⟨rfl, hb⟩
      | true =>
        go_wp2_with fail
        refine (c4 _).mono ?_
        rintro e w' ⟨rfl, hw⟩; subst w'
        go_wp2_with fail
        go_ret
        exact ⟨rfl, hb⟩

set_option maxRecDepth 20000 in
set_option maxHeartbeats 1000000 in
theorem irecok_any (r : Rc) (w : World) :
    Calls Tryd.prog 36 #[RV r] w fun e w' => e = .returned (.bool r.ok) ∧ Below w.heap.size w w' := by
  have c1 := fun wx => iepoch_any r.e wx
  have c2 := fun wx => istate_any r.s wx
  have c3 := fun wx => iepoch_any r.t wx
  have c4 := fun wx => iepoch_any r.n wx
  have hok : r.ok = (epI r.e && stI r.s && epI r.t && epI r.n) := rfl
  rw [hok]
  have hb : Below w.heap.size w (w.alloc (.cells (recA r) 28)) := (Below.refl _ _).alloc (Nat.le_refl _) _
  obtain ⟨x1, x2, x3, x4⟩ := r
  dsimp only at c1 c2 c3 c4 ⊢
  unfold RV recA at *
  dsimp only at hb ⊢
  obtain ⟨b1, h1⟩ : ∃ b, b = epI x1 := ⟨_, rfl⟩
  obtain ⟨b2, h2⟩ : ∃ b, b = stI x2 := ⟨_, rfl⟩
  obtain ⟨b3, h3⟩ : ∃ b, b = epI x3 := ⟨_, rfl⟩
  obtain ⟨b4, h4⟩ : ∃ b, b = epI x4 := ⟨_, rfl⟩
  simp only [← h1, ← h2, ← h3, ← h4] at c1 c2 c3 c4 ⊢
  clear h1 h2 h3 h4 hok
  go_enter Tryd.func36, Tryd.ntmps36
  go_wp2_with fail
  refine (c1 _).mono ?_
  rintro e w' ⟨rfl, hw⟩; subst w'
  cases b1 with
  | false =>
    go_wp2_with fail
    go_ret
    exact ⟨rfl, hb⟩
  | true =>
    go_wp2_with fail
    refine (c2 _).mono ?_
    rintro e w' ⟨rfl, hw⟩; subst w'
    cases b2 with
    | false =>
      go_wp2_with fail
      go_ret
      exact ⟨rfl, hb⟩
    | true =>
      go_wp2_with fail
      refine (c3 _).mono ?_
      rintro e w' ⟨rfl, hw⟩; subst w'
      cases b3 with
      | false =>
        go_wp2_with fail
        go_ret
        exact ⟨rfl, hb⟩
      | true =>
        go_wp2_with fail
        refine (c4 _).mono ?_
        rintro e w' ⟨rfl, hw⟩; subst w'
        go_wp2_with fail
        go_ret
        exact ⟨rfl, hb⟩

theorem Tryd.infoR : (Tryd.prog.info? 28).map (·.size) = some 4 := by kernel_rfl

theorem Tryd.underR : ∃ fs, Tryd.prog.underlying 28 = some (.struct fs) := ⟨_, Tryd.underlying28⟩
theorem recA_one (r : Rc) : (recA r).all (·.oneCell') = true := by simp [recA, Value.oneCell']
theorem recA_size (r : Rc) : (recA r).size = 4 := rfl
theorem recA_zero : (#[.int .i64 0, .int .i64 0, .int .i64 0, .int .i64 0] : Array Value) = recA Rc.zero := rfl
/- Block g holds the record r. -/
def RecB (w : World) (g : Nat) (t : TypeId) (r : Rc) : Prop := w.heap[g]? = some (.cells (recA r) t (0, 0))
theorem RecB.lt {w : World} {g : Nat} {t : TypeId} {r : Rc} (h : RecB w g t r) : g < w.heap.size := by
  rcases Nat.lt_or_ge g w.heap.size with hlt | hge
  · exact hlt
  · rw [RecB, Array.getElem?_eq_none hge] at h; cases h
theorem RecB.new (w : World) (t : TypeId) (r : Rc) : RecB (w.alloc (.cells (recA r) t)) w.heap.size t r := heap_alloc_new w _
theorem RecB.below {w w' : World} {g : Nat} {t : TypeId} {r : Rc} (h : RecB w g t r) (hb : Below w.heap.size w w') : RecB w' g t r := (hb.block g h.lt).trans h
theorem RecB.kept {w w' : World} {g : Nat} {t : TypeId} {r : Rc} {row : Option Nat} (h : RecB w g t r) (hg : w.grownBy w' row) (hne : some g ≠ row) : RecB w' g t r := (hg.block g h.lt hne).trans h
theorem RecB.alloc {w : World} {g : Nat} {t : TypeId} {r : Rc} (h : RecB w g t r) (o : Obj) : RecB (w.alloc o) g t r := (Below.heap_alloc w o g h.lt).trans h
theorem RecB.cell {w : World} {g : Nat} {t : TypeId} {r : Rc} (h : RecB w g t r) (j : Nat) {x : Value} (e : (recA r)[j]? = some x) : w.cell? ⟨g, j, none⟩ = some x := by rw [cell_of_row w g j _ _ _ h, e]
theorem RecB.frozen {w : World} {g : Nat} {t : TypeId} {r : Rc} (h : RecB w g t r) (j : Nat) : w.frozen? ⟨g, j, none⟩ = false := frozen_of_row w g j _ _ h
theorem grownRowR (w : World) (g : Nat) (cs : Array Value) : w.grownBy (w.setRow g cs) (some g) :=
  ⟨rfl, rfl, rfl, by simp, fun k _ hne => _root_.Go.setRow_other w g k cs (fun e => hne (by rw [e]))⟩
theorem wpList_getR {ops : Array Oper} {rest : List Oper} {o : Oper} {a : Act} {w : World} {Q : Exit → Act → World → Prop} (hgd : o.guard = none) (x : Operand) (ho : o.op = .load 28 x)
    (g : Nat) (hx : a.eval x = .pointer (some ⟨g, 0, none⟩)) (r : Rc) (hr : RecB w g 28 r)
    (h : wpList Tryd.prog ops Q rest (a.put o.dst (RV r)) w) : wpList Tryd.prog ops Q (o :: rest) a w := by
  obtain ⟨fs, hu⟩ := Tryd.underR
  exact wpList_load_row hgd _ x ho g hx _ _ _ _ hr hu rfl Tryd.infoR h
theorem wpList_putR {ops : Array Oper} {rest : List Oper} {o : Oper} {a : Act} {w : World} {Q : Exit → Act → World → Prop} (hgd : o.guard = none) (x y : Operand) (ho : o.op = .store 28 x y)
    (g : Nat) (r r' : Rc) (hx : a.eval x = .pointer (some ⟨g, 0, none⟩)) (hy : a.eval y = RV r) (hr : RecB w g 28 r')
    (h : ∀ w', RecB w' g 28 r → w.grownBy w' (some g) → wpList Tryd.prog ops Q rest (a.put o.dst undef) w') : wpList Tryd.prog ops Q (o :: rest) a w :=
  wpList_store_row hgd _ x y ho g (recA r) hx hy _ _ hr Tryd.infoR rfl (recA_one r) (h _ (setRow_heap w g _ _ _ _ hr) (grownRowR w g _))
theorem results_R {fn : Func} {p : Tmp} (h : fn.results = #[.cell p 28]) (tmps : Array Value) (w : World) (g : Nat) (r : Rc)
    (hp : tmps.getD p undef = .pointer (some ⟨g, 0, none⟩)) (hr : RecB w g 28 r) : (results fn tmps).run Tryd.prog w = .ok (RV r) w := by
  obtain ⟨fs, hu⟩ := Tryd.underR
  exact results_cell_row h tmps w g _ _ _ _ hp hr hu rfl Tryd.infoR
theorem results_R2 {fn : Func} {p q : Tmp} (h : fn.results = #[.cell p 28, .tmp q]) (tmps : Array Value) (w : World) (g : Nat) (r : Rc) (x : Value)
    (hp : tmps.getD p undef = .pointer (some ⟨g, 0, none⟩)) (hx : tmps.getD q undef = x) (hr : RecB w g 28 r) : (results fn tmps).run Tryd.prog w = .ok (.tuple #[RV r, x]) w := by
  obtain ⟨fs, hu⟩ := Tryd.underR
  rw [results_cell_tmp h, hp, hx]
  simp only [asAddr, Sem.run_pure, Result.andThen_ok]
  rw [run_loadVar_row w g _ _ _ _ _ hr hu rfl Tryd.infoR]
  rfl

set_option maxRecDepth 20000 in
set_option maxHeartbeats 1000000 in
theorem eqRecord_any (r q : Rc) (w : World) :
    Calls Tryd.prog 18 #[RV r, RV q] w fun e w' => e = .returned (.bool (sameR r q)) ∧ Below w.heap.size w w' := by
  have hb : Below w.heap.size w ((w.alloc (.cells (recA r) 28)).alloc (.cells (recA q) 28)) := ((Below.refl _ _).alloc (Nat.le_refl _) _).alloc (by simp) _
  obtain ⟨a1, a2, a3, a4⟩ := r
  obtain ⟨b1, b2, b3, b4⟩ := q
  have hd : sameR ⟨a1, a2, a3, a4⟩ ⟨b1, b2, b3, b4⟩ = (decide (a1 = b1) && decide (a2 = b2) && decide (a3 = b3) && decide (a4 = b4)) := rfl
  rw [hd]
  clear hd
  unfold RV recA at *
  dsimp only at hb ⊢
  by_cases h1 : a1 = b1
  · by_cases h2 : a2 = b2
    · by_cases h3 : a3 = b3
      · by_cases h4 : a4 = b4
        · subst h1 h2 h3 h4
          go_enter Tryd.func18, Tryd.ntmps18
          go_wp2
          go_ret
          exact ⟨ret_bool (by simp), hb⟩
        · have hn : (a4 != b4) = true := by simpa using h4
          have he : decide (a4 = b4) = false := by simpa using h4
          rw [he]
          subst h1 h2 h3
          go_enter Tryd.func18, Tryd.ntmps18
          go_wp2
          go_ret
          exact ⟨ret_bool (by simp), hb⟩
      · have hn : (a3 != b3) = true := by simpa using h3
        have he : decide (a3 = b3) = false := by simpa using h3
        rw [he]
        subst h1 h2
        go_enter Tryd.func18, Tryd.ntmps18
        go_wp2
        go_ret
        exact ⟨ret_bool (by simp), hb⟩
    · have hn : (a2 != b2) = true := by simpa using h2
      have he : decide (a2 = b2) = false := by simpa using h2
      rw [he]
      subst h1
      go_enter Tryd.func18, Tryd.ntmps18
      go_wp2
      go_ret
      exact ⟨ret_bool (by simp), hb⟩
  · have hn : (a1 != b1) = true := by simpa using h1
    have he : decide (a1 = b1) = false := by simpa using h1
    rw [he]
    go_enter Tryd.func18, Tryd.ntmps18
    go_wp2
    go_ret
    exact ⟨ret_bool (by simp), hb⟩
end Go.Proofs.YteooloceaoinlaaDoor
