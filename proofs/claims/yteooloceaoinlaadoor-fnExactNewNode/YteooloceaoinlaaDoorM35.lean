/- The walk of a region that draws its order (Giv), behind a structure: what is left of the walk is not unfolded by whoever looks at the goal. -/
import Derived.Test.YteooloceaoinlaaDoorGiv
import Derived.Test.YteooloceaoinlaaDoorM16
import Derived.Test.YteooloceaoinlaaDoorM17
import Derived.Test.YteooloceaoinlaaDoorM21
namespace Go.Proofs.YteooloceaoinlaaDoor
open Go.ChangeShapes Go.WideShapes Go.ChangeAt Go.RowKit

structure GivS (P : Program) (ops : Array Oper) (C : World → Prop) (E : Oper → Act → Option GSpec) (R : World → World → Prop) (Q : Act → Known → Prop) (l : List Oper) (a : Act) (G : Known) : Prop where
  out : wpGiv P ops C E R Q l a G
section
variable {P : Program} {ops : Array Oper} {C : World → Prop} {E : Oper → Act → Option GSpec} {R : World → World → Prop} {Q : Act → Known → Prop} {o : Oper} {rest : List Oper} {a : Act} {G : Known}
theorem gs_plain (hs : E o a = none)
    (h : ∀ K : Act → Prop, (∀ a, GivS P ops C E R Q rest a G → K a) → if Region.wanted o (yielded ops a.tmps) then (∃ v, (∀ w, (∃ q : Kin C, w = q.x) → o.quietAt P a (fun _ => False) w v) ∧ K (a.put o.dst v)) else K (a.put o.dst undef)) : GivS P ops C E R Q (o :: rest) a G :=
  ⟨giv_plain hs (fun K hK => h K (fun a g => hK a g.out))⟩
theorem gs_skip (hw : Region.wanted o (yielded ops a.tmps) = false) (h : GivS P ops C E R Q rest (a.put o.dst undef) G) : GivS P ops C E R Q (o :: rest) a G := ⟨giv_skip hw h.out⟩
theorem gs_call (s : GSpec) (hs : E o a = some s) (hw : Region.wanted o (yielded ops a.tmps) = true)
    (h : ∀ w, Base ops C o G w → givesUpon P R s.V s.F w ((execOp a.eval o).run P w))
    (k : ∀ u, s.V u → GivS P ops C E R Q rest (a.put o.dst u) ((o, s.F u) :: G)) : GivS P ops C E R Q (o :: rest) a G := ⟨giv_call s hs hw h (fun u hu => (k u hu).out)⟩
end
theorem gs_end {P : Program} {ops : Array Oper} {C : World → Prop} {E : Oper → Act → Option GSpec} {R : World → World → Prop} {Q : Act → World → Prop} {a : Act} {G : Known} (h : ∀ w', Has C G w' → Q a w') : GivS P ops C E R (fun a' G => ∀ w', Has C G w' → Q a' w') [] a G := ⟨giv_end h⟩
theorem wp_region_gs {P : Program} {C : World → Prop} {E : Oper → Act → Option GSpec} {R : World → World → Prop} (hC : ∀ x y, C x → R x y → C y) (hE : ∀ o a s, E o a = some s → ∀ u x y, s.F u x → R x y → s.F u y)
    {id : Nat} {Q : Exit → Act → World → Prop} {a : Act} {w : World} {l : List Oper} (hA : ∀ o a dst v, (∀ d, dst = some d → d ∉ o.looksAt l.toArray) → E o (Act.put a dst v) = E o a) (hm : P.follows .mixedOrders = true) (hB : Region.lexB .any l.toArray = true) (h0 : C w.drew)
    (h : GivS P l.toArray C E R (fun a' G => ∀ w', Has C G w' → Q .normal a' w') l a []) : (Code.region id l.toArray true).wp P Q a w := wp_region_giv hC hE hA hm hB h0 h.out
end Go.Proofs.YteooloceaoinlaaDoor
/- Numbers and truths that a call answers in a region that draws its order. -/
namespace Go.Proofs.YteooloceaoinlaaDoor
open Go.ChangeShapes Go.WideShapes Go.ChangeAt Go.RowKit

/- A number is answered, and the world is as it was. -/
def numG (n : Int) : GSpec := ⟨fun u => u = .int .i64 n, fun _ _ => True⟩
theorem numG_later {n : Int} {u : Value} {x y : World} (hx : (numG n).F u x) (_ : Later x y) : (numG n).F u y := hx
theorem num_of {P : Program} {f : FuncId} {args : Array Value} {w : World} {n : Int} (h : Calls P f args w fun e w' => e = .returned (.int .i64 n) ∧ w' = w) : Calls P f args w (fun e w'' => ∃ u, e = .returned u ∧ (numG n).V u ∧ (numG n).F u w'' ∧ Later w w'') :=
  h.mono fun _ _ ⟨he, hb⟩ => ⟨_, he, rfl, trivial, by rw [hb]; exact Below.refl _ _⟩
theorem truthC_later {b : Bool} {u : Value} {x y : World} (hx : (truth b).F u x) (_ : Later x y) : (truth b).F u y := hx
theorem truthS_of {P : Program} {f : FuncId} {args : Array Value} {w : World} {b : Bool} (h : Calls P f args w fun e w' => e = .returned (.bool b) ∧ w' = w) : Calls P f args w (fun e w'' => ∃ u, e = .returned u ∧ (truth b).V u ∧ (truth b).F u w'' ∧ Later w w'') :=
  h.mono fun _ _ ⟨he, hb⟩ => ⟨_, he, rfl, trivial, by rw [hb]; exact Below.refl _ _⟩
/- A value is moved. -/
theorem giv_move {P : Program} {ops : Array Oper} {C : World → Prop} {E : Oper → Act → Option GSpec} {R : World → World → Prop} {Q : Act → Known → Prop} {o : Oper} {rest : List Oper} {a : Act} {G : Known} (hs : E o a = none) (hw : Region.wanted o (yielded ops a.tmps) = true) (x : Operand) (ho : o.op = .move x) (v : Value) (hv : a.eval x = v)
    (k : wpGiv P ops C E R Q rest (a.put o.dst v) G) : wpGiv P ops C E R Q (o :: rest) a G := by
  refine giv_plain hs (fun K hK => ?_)
  rw [if_pos hw]
  refine ⟨v, fun w _ => ?_, hK _ k⟩
  unfold Oper.quietAt execOp
  simp [ho, hv, Oper.quietUpon]
end Go.Proofs.YteooloceaoinlaaDoor
/- Copiers in regions that draw their order: what is known of one in every later world, and copiers that a call answers. -/
namespace Go.Proofs.YteooloceaoinlaaDoor
open Go.ChangeShapes Go.WideShapes Go.ChangeAt Go.RowKit

def CpI (w : World) (g : Nat) (v : Value) (c : Cp) : Prop := StB w g 30 (cpA v c) ∧ Mine w 0 v c.ts
theorem CpI.below {w w' : World} {g : Nat} {v : Value} {c : Cp} (h : CpI w g v c) (b : Below w.heap.size w w') : CpI w' g v c := ⟨h.1.below b, h.2.below b⟩
theorem CpI.reads {w : World} {g : Nat} {v : Value} {c : Cp} (h : CpI w g v c) : Reads w v c.ts := h.2.reads
theorem CpI.new {w : World} {base : Nat} {v : Value} {c : Cp} (h : Mine w base v c.ts) : CpI (w.alloc (.cells (cpA v c) 30)) w.heap.size v c :=
  ⟨StB.new w _ _, (h.mono (Nat.zero_le _)).below ((Below.refl _ _).alloc (Nat.le_refl _) _)⟩
/- Another copier is written over. -/
theorem CpI.kept {w w' : World} {g k : Nat} {v : Value} {c : Cp} {ds : Array Value} (h : CpI w g v c) (hk : StB w k 30 ds) (G : w.grownBy w' (some k)) (hne : g ≠ k) : CpI w' g v c :=
  ⟨h.1.kept G (fun e => hne (Option.some.inj e)), h.2.putBy hk (by decide) G⟩
theorem CpI.cell {w : World} {g : Nat} {v : Value} {c : Cp} (h : CpI w g v c) (j : Nat) {x : Value} (e : (cpA v c)[j]? = some x) : w.cell? ⟨g, j, none⟩ = some x := h.1.cell j e
theorem CpI.at {w : World} {g : Nat} {a : Option Addr} {n cap : Nat} {c : Cp} (h : CpI w g (.slice a n cap) c) (j : Nat) (hj : j < n) : ∃ b off, a = some ⟨b, off, none⟩ ∧ n ≤ cap ∧ cap ≤ maxLen ∧ w.cell? ⟨b, off + j, none⟩ = some (.int .i64 (c.ts.getD j 0)) := by
  obtain ⟨-, h1, h2, h3⟩ := reads_cells h.2.reads
  obtain ⟨b, off, e, h4⟩ := h3 j hj
  exact ⟨b, off, e, h1, h2, h4⟩
/- A copier is answered. -/
def cpG (c : Cp) : GSpec :=
  ⟨fun u => ∃ ao ac, u = .agg #[.int .i64 c.tr, .bool c.op, .int .i64 c.di, .int .i64 c.wa, .slice ao c.ts.length ac],
   fun u x => ∀ n1 b n2 n3 v, u = .agg #[n1, b, n2, n3, v] → Mine x 0 v c.ts⟩
theorem cpG_later {c : Cp} {u : Value} {x y : World} (hx : (cpG c).F u x) (b : Later x y) : (cpG c).F u y := fun n1 b' n2 n3 v e => (hx n1 b' n2 n3 v e).below b
theorem cpG_of {P : Program} {f : FuncId} {args : Array Value} {w : World} {c : Cp} (hc : Calls P f args w fun e w' => ∃ u, e = .returned (.agg #[.int .i64 c.tr, .bool c.op, .int .i64 c.di, .int .i64 c.wa, u]) ∧ Own w' w.heap.size u c.ts ∧ Below w.heap.size w w') :
    Calls P f args w (fun e w'' => ∃ u, e = .returned u ∧ (cpG c).V u ∧ (cpG c).F u w'' ∧ Later w w'') := by
  refine hc.mono ?_
  rintro e w' ⟨u, rfl, o, bl⟩
  obtain ⟨ao, ac, rfl⟩ := reads_form o.reads
  exact ⟨_, rfl, ⟨ao, ac, rfl⟩, fun n1 b n2 n3 v e => by cases e; exact .inl (o.mono (Nat.zero_le _)), bl⟩
end Go.Proofs.YteooloceaoinlaaDoor
/- The walk of a region that draws its order and ends in a store of a whole struct, behind a structure. -/
namespace Go.Proofs.YteooloceaoinlaaDoor
open Go.ChangeShapes Go.WideShapes Go.ChangeAt Go.RowKit

theorem wp_region_gs_last {P : Program} {C : World → Prop} {E : Oper → Act → Option GSpec} {R : World → World → Prop} (hC : ∀ x y, C x → R x y → C y) (hE : ∀ o a s, E o a = some s → ∀ u x y, s.F u x → R x y → s.F u y)
    {id : Nat} {Q : Exit → Act → World → Prop} {a : Act} {w : World} {l : List Oper} (hA : ∀ o a dst v, (∀ d, dst = some d → d ∉ o.looksAt l.toArray) → E o (Act.put a dst v) = E o a) (hm : P.follows .mixedOrders = true) (hB : Region.lexB .any l.toArray = true) (hL : lastOpB l = true) (h1 : 1 ≤ l.length) (h0 : C w.drew)
    (h : GivS P l.toArray C E R (fun a' G => ∀ w', Has C G w' → wpOp P l.toArray Q (l.length - 1) (fun a'' w'' => Q .normal a'' w'') a' w') l.dropLast a []) : (Code.region id l.toArray true).wp P Q a w := wp_region_giv_last hC hE hA hm hB hL h1 h0 h.out
theorem last_putL {t : TypeId} {n : Nat} (hS : IsS t n) {ops : Array Oper} {i : Nat} {o : Oper} {a : Act} {w : World} {K : Act → World → Prop} {Q : Exit → Act → World → Prop} (hi : ops[i]? = some o) (hgd : o.guard = none) (x y : Operand) (ho : o.op = .store t x y)
    (g : Nat) (cs ds : Array Value) (hx : a.eval x = .pointer (some ⟨g, 0, none⟩)) (hy : a.eval y = .agg cs) (hn : cs.size = n) (hd : ds.size = n) (h1 : cs.all (·.oneCell') = true) (hr : StB w g t ds)
    (h : ∀ w', StB w' g t cs → w.grownBy w' (some g) → K (a.put o.dst undef) w') : wpOp Tryd.prog ops Q i K a w := by
  unfold wpOp
  rw [hi]
  dsimp only
  have hw : Region.wanted o (yielded ops a.tmps) = true := by simp [Region.wanted, hgd]
  rw [if_pos hw]
  refine .inl ?_
  have := step_putS (ops := ops) (Q := Q) (E := False) hS hgd x y ho g cs ds hx hy hn hd h1 hr h
  rw [if_pos hw] at this
  exact this
theorem cpG_ofM {P : Program} {f : FuncId} {args : Array Value} {w : World} {c : Cp} (hc : Calls P f args w fun e w' => ∃ u, e = .returned (.agg #[.int .i64 c.tr, .bool c.op, .int .i64 c.di, .int .i64 c.wa, u]) ∧ Mine w' w.heap.size u c.ts ∧ Below w.heap.size w w') :
    Calls P f args w (fun e w'' => ∃ u, e = .returned u ∧ (cpG c).V u ∧ (cpG c).F u w'' ∧ Later w w'') := by
  refine hc.mono ?_
  rintro e w' ⟨u, rfl, o, bl⟩
  obtain ⟨ao, ac, rfl⟩ := reads_form o.reads
  exact ⟨_, rfl, ⟨ao, ac, rfl⟩, fun n1 b n2 n3 v e => by cases e; exact o.mono (Nat.zero_le _), bl⟩
end Go.Proofs.YteooloceaoinlaaDoor
/- How the laws take a store over, on: toStore, eqStore, markStore, heldStore. -/
namespace Go.Proofs.YteooloceaoinlaaDoor
open Go.ChangeShapes Go.WideShapes Go.ChangeAt Go.RowKit

/- What marks in three lists leave. -/
def Marked3 (w w' : World) (u v q : Value) : Prop := ∃ w1, Marked w w1 u v ∧ w1.grownBy w' q.ownBlock
end Go.Proofs.YteooloceaoinlaaDoor
/- Stores and disks that a call answers, in a region that draws its order. -/
namespace Go.Proofs.YteooloceaoinlaaDoor
open Go.ChangeShapes Go.WideShapes Go.ChangeAt Go.RowKit

/- A store is answered. -/
def stG (xs ys : List Int) (h : Hd) : GSpec :=
  ⟨fun u => ∃ ao ac bo bc ko kc, u = .agg #[.slice ao xs.length ac, .slice bo ys.length bc, .slice ko h.ks.length kc, .int .i64 h.kd, .int .i64 h.ho, .int .i64 h.tu],
   fun u x => ∀ a b k n1 n2 n3, u = .agg #[a, b, k, n1, n2, n3] → Reads x a xs ∧ Reads x b ys ∧ Reads x k h.ks⟩
theorem stG_later {xs ys : List Int} {h : Hd} {u : Value} {x y : World} (hx : (stG xs ys h).F u x) (b : Later x y) : (stG xs ys h).F u y := fun a b' k n1 n2 n3 e => by
  obtain ⟨r1, r2, r3⟩ := hx a b' k n1 n2 n3 e
  exact ⟨r1.below b (Nat.le_refl _), r2.below b (Nat.le_refl _), r3.below b (Nat.le_refl _)⟩
theorem stG_of {P : Program} {f : FuncId} {args : Array Value} {w : World} {xs ys : List Int} {h : Hd} (hc : Calls P f args w fun e w' => ∃ a b k, e = .returned (.agg #[a, b, k, .int .i64 h.kd, .int .i64 h.ho, .int .i64 h.tu]) ∧ OwnR w' w.heap.size a b k xs ys h.ks ∧ Below w.heap.size w w') :
    Calls P f args w (fun e w'' => ∃ u, e = .returned u ∧ (stG xs ys h).V u ∧ (stG xs ys h).F u w'' ∧ Later w w'') := by
  refine hc.mono ?_
  rintro e w' ⟨a, b, k, rfl, o, bl⟩
  obtain ⟨ao, ac, rfl⟩ := o.1.1.reads.form
  obtain ⟨bo, bc, rfl⟩ := o.1.2.1.reads.form
  obtain ⟨ko, kc, rfl⟩ := o.2.1.reads.form
  exact ⟨_, rfl, ⟨ao, ac, bo, bc, ko, kc, rfl⟩, fun a b k n1 n2 n3 e => by cases e; exact ⟨o.1.1.reads, o.1.2.1.reads, o.2.1.reads⟩, bl⟩
/- A disk is answered. -/
def dkG (xs ys : List Int) : GSpec :=
  ⟨fun u => ∃ ao ac bo bc, u = .agg #[.slice ao xs.length ac, .slice bo ys.length bc],
   fun u x => ∀ a b, u = .agg #[a, b] → Reads x a xs ∧ Reads x b ys⟩
theorem dkG_later {xs ys : List Int} {u : Value} {x y : World} (hx : (dkG xs ys).F u x) (b : Later x y) : (dkG xs ys).F u y := fun a b' e => by
  obtain ⟨r1, r2⟩ := hx a b' e
  exact ⟨r1.below b (Nat.le_refl _), r2.below b (Nat.le_refl _)⟩
theorem dkG_of {P : Program} {f : FuncId} {args : Array Value} {w : World} {xs ys : List Int} (hc : Calls P f args w fun e w' => ∃ a b, e = .returned (.agg #[a, b]) ∧ OwnD w' w.heap.size a b xs ys ∧ Below w.heap.size w w') :
    Calls P f args w (fun e w'' => ∃ u, e = .returned u ∧ (dkG xs ys).V u ∧ (dkG xs ys).F u w'' ∧ Later w w'') := by
  refine hc.mono ?_
  rintro e w' ⟨a, b, rfl, o, bl⟩
  obtain ⟨ao, ac, rfl⟩ := o.1.reads.form
  obtain ⟨bo, bc, rfl⟩ := o.2.1.reads.form
  exact ⟨_, rfl, ⟨ao, ac, bo, bc, rfl⟩, fun a b e => by cases e; exact ⟨o.1.reads, o.2.1.reads⟩, bl⟩
/- A disk is answered, in rows of its own. -/
def dkO (xs ys : List Int) : GSpec :=
  ⟨fun u => ∃ ao ac bo bc, u = .agg #[.slice ao xs.length ac, .slice bo ys.length bc],
   fun u x => ∀ a b, u = .agg #[a, b] → Own x 0 a xs ∧ Own x 0 b ys⟩
theorem dkO_later {xs ys : List Int} {u : Value} {x y : World} (hx : (dkO xs ys).F u x) (b : Later x y) : (dkO xs ys).F u y := fun a b' e => by
  obtain ⟨r1, r2⟩ := hx a b' e
  exact ⟨r1.below b, r2.below b⟩
theorem dkO_of {P : Program} {f : FuncId} {args : Array Value} {w : World} {xs ys : List Int} (hc : Calls P f args w fun e w' => ∃ a b, e = .returned (.agg #[a, b]) ∧ OwnD w' w.heap.size a b xs ys ∧ Below w.heap.size w w') :
    Calls P f args w (fun e w'' => ∃ u, e = .returned u ∧ (dkO xs ys).V u ∧ (dkO xs ys).F u w'' ∧ Later w w'') := by
  refine hc.mono ?_
  rintro e w' ⟨a, b, rfl, o, bl⟩
  obtain ⟨ao, ac, rfl⟩ := o.1.reads.form
  obtain ⟨bo, bc, rfl⟩ := o.2.1.reads.form
  exact ⟨_, rfl, ⟨ao, ac, bo, bc, rfl⟩, fun a b e => by cases e; exact ⟨o.1.mono (Nat.zero_le _), o.2.1.mono (Nat.zero_le _)⟩, bl⟩
/- A new variable is made. -/
def alG (n : Nat) (t : TypeId) (cs : Array Value) : GSpec := ⟨fun u => ∃ g, u = .pointer (some ⟨g, 0, none⟩), fun u x => ∀ g, u = .pointer (some ⟨g, 0, none⟩) → StB x g t cs ∧ n ≤ g⟩
theorem alG_later {n : Nat} {t : TypeId} {cs : Array Value} {u : Value} {x y : World} (hx : (alG n t cs).F u x) (b : Later x y) : (alG n t cs).F u y := fun g e => ⟨(hx g e).1.below b, (hx g e).2⟩
theorem alG_of {P : Program} {n : Nat} {t : TypeId} {cs : Array Value} {w : World} (hn : n ≤ w.heap.size) : givesUpon P Later (alG n t cs).V (alG n t cs).F w (.ok (.value (.pointer (some ⟨w.heap.size, 0, none⟩))) (w.alloc (.cells cs t))) :=
  ⟨⟨_, rfl⟩, fun g e => by cases e; exact ⟨StB.new _ _ _, hn⟩, (Below.refl _ _).alloc (Nat.le_refl _) _⟩
/- The last operation stores a whole struct. -/
theorem last_put {t : TypeId} {n : Nat} (hS : IsS t n) {ops : Array Oper} {i : Nat} {o : Oper} {a : Act} {w : World} {K : Act → World → Prop} {Q : Exit → Act → World → Prop} (hi : ops[i]? = some o) (hgd : o.guard = none) (x y : Operand) (ho : o.op = .store t x y)
    (g : Nat) (cs ds : Array Value) (hx : a.eval x = .pointer (some ⟨g, 0, none⟩)) (hy : a.eval y = .agg cs) (hn : cs.size = n) (hd : ds.size = n) (h1 : cs.all (·.oneCell') = true) (hr : StB w g t ds)
    (h : ∀ w', StB w' g t cs → w.grownBy w' (some g) → K (a.put o.dst undef) w') : wpOp Tryd.prog ops Q i K a w := by
  unfold wpOp
  rw [hi]
  dsimp only
  have hw : Region.wanted o (yielded ops a.tmps) = true := by simp [Region.wanted, hgd]
  rw [if_pos hw]
  refine .inl ?_
  have := step_putS (ops := ops) (Q := Q) (E := False) hS hgd x y ho g cs ds hx hy hn hd h1 hr h
  rw [if_pos hw] at this
  exact this
/- A struct is built out of two parts. -/
theorem giv_build2 {P : Program} {ops : Array Oper} {C : World → Prop} {E : Oper → Act → Option GSpec} {R : World → World → Prop} {Q : Act → Known → Prop} {o : Oper} {rest : List Oper} {a : Act} {G : Known} (hs : E o a = none) (hg : o.guard = none) (t : TypeId) (i j : Nat) (x y : Operand) (ho : o.op = .build t #[(i, x), (j, y)]) (u v : Value) (hx : a.eval x = u) (hy : a.eval y = v) (cells : Array Value) (hc : P.built t [(i, u), (j, v)] = some cells)
    (k : wpGiv P ops C E R Q rest (a.put o.dst (.agg cells)) G) : wpGiv P ops C E R Q (o :: rest) a G := by
  refine giv_plain hs (fun K hK => ?_)
  have hw : Region.wanted o (yielded ops a.tmps) = true := by simp [Region.wanted, hg]
  rw [if_pos hw]
  refine ⟨.agg cells, fun w _ => ?_, hK _ k⟩
  unfold Oper.quietAt execOp
  have hb : P.built t (#[(i, x), (j, y)].map fun (i, x) => (i, a.eval x)).toList = some cells := by simpa [hx, hy] using hc
  simp only [ho, Sem.run_bind, run_build w t _ cells hb, Result.andThen_ok]
  exact ⟨rfl, rfl⟩
theorem built_store (a b k n1 n2 n3 : Value) : Tryd.prog.built 47 [(0, .agg #[a, b]), (1, .agg #[k, n1, n2, n3])] = some #[a, b, k, n1, n2, n3] := by kernel_rfl

theorem bel_set {w wx : World} {j : Nat} {v : Value} (h : Below w.heap.size w wx) : Below w.heap.size w (wx.setCell ⟨w.heap.size, j, none⟩ v) := h.setCell (Nat.le_refl _) _
theorem truth_later {b : Bool} {u : Value} {x y : World} (hx : (truth b).F u x) (_ : Later x y) : (truth b).F u y := hx
end Go.Proofs.YteooloceaoinlaaDoor
