/- The walk of a region that draws its order (Giv), behind a structure: what is left of the walk is not unfolded by whoever looks at the goal. -/
import Derived.Test.YteooloceaoinlaaGreatDoorGiv
import Derived.Test.YteooloceaoinlaaGreatDoorM18
import Derived.Test.YteooloceaoinlaaGreatDoorM29
import Derived.LaidMore
import Derived.Stop.Joined
import Derived.Stop.LaidErr
import Derived.Lib.LaidTab
import Derived.ProofKit
namespace Go.Proofs.YteooloceaoinlaaGreatDoor
open Go.ChangeShapes Go.WideShapes Go.ChangeAt Go.RowKit

structure GivS (P : Program) (ops : Array Oper) (C : World → Prop) (E : Oper → Act → Option GSpec) (R : World → World → Prop) (Q : Act → Known → Prop) (l : List Oper) (a : Act) (G : Known) : Prop where
  out : wpGiv P ops C E R Q l a G
section
variable {P : Program} {ops : Array Oper} {C : World → Prop} {E : Oper → Act → Option GSpec} {R : World → World → Prop} {Q : Act → Known → Prop} {o : Oper} {rest : List Oper} {a : Act} {G : Known}
theorem gs_plain (hs : E o a = none)
    (h : ∀ K : Act → Prop, (∀ a, GivS P ops C E R Q rest a G → K a) → if Region.wanted o (yielded ops a.tmps) then (∃ v, (∀ w, (∃ q : Kin C, w = q.x) → o.quietAt P a (fun _ => False) w v) ∧ K (a.put o.dst v)) else K (a.put o.dst undef)) : GivS P ops C E R Q (o :: rest) a G :=
  ⟨giv_plain hs (fun K hK => h K (fun a g => hK a g.out))⟩
theorem gs_skip (hw : Region.wanted o (yielded ops a.tmps) = false) (h : GivS P ops C E R Q rest (a.put o.dst undef) G) : GivS P ops C E R Q (o :: rest) a G := ⟨giv_skip hw h.out⟩
theorem gs_call (s : GSpec) (hs : E o a = some s) (hw : Region.wanted o (yielded ops a.tmps) = true)
    (h : ∀ w, Base ops C o G w → givesUpon P R s.V s.F w ((execOp a.eval o).run P w))
    (k : ∀ u, s.V u → GivS P ops C E R Q rest (a.put o.dst u) ((o, s.F u) :: G)) : GivS P ops C E R Q (o :: rest) a G := ⟨giv_call s hs hw h (fun u hu => (k u hu).out)⟩
end
theorem gs_end {P : Program} {ops : Array Oper} {C : World → Prop} {E : Oper → Act → Option GSpec} {R : World → World → Prop} {Q : Act → World → Prop} {a : Act} {G : Known} (h : ∀ w', Has C G w' → Q a w') : GivS P ops C E R (fun a' G => ∀ w', Has C G w' → Q a' w') [] a G := ⟨giv_end h⟩
theorem wp_region_gs {P : Program} {C : World → Prop} {E : Oper → Act → Option GSpec} {R : World → World → Prop} (hC : ∀ x y, C x → R x y → C y) (hE : ∀ o a s, E o a = some s → ∀ u x y, s.F u x → R x y → s.F u y)
    {id : Nat} {Q : Exit → Act → World → Prop} {a : Act} {w : World} {l : List Oper} (hA : ∀ o a dst v, (∀ d, dst = some d → d ∉ o.looksAt l.toArray) → E o (Act.put a dst v) = E o a) (hm : P.follows .mixedOrders = true) (hB : Region.lexB .any l.toArray = true) (h0 : C w.drew)
    (h : GivS P l.toArray C E R (fun a' G => ∀ w', Has C G w' → Q .normal a' w') l a []) : (Code.region id l.toArray true).wp P Q a w := wp_region_giv hC hE hA hm hB h0 h.out
end Go.Proofs.YteooloceaoinlaaGreatDoor
/- Numbers and truths that a call answers in a region that draws its order. -/
namespace Go.Proofs.YteooloceaoinlaaGreatDoor
open Go.ChangeShapes Go.WideShapes Go.ChangeAt Go.RowKit

/- A number is answered, and the world is as it was. -/
def numG (n : Int) : GSpec := ⟨fun u => u = .int .i64 n, fun _ _ => True⟩
theorem numG_later {n : Int} {u : Value} {x y : World} (hx : (numG n).F u x) (_ : Later x y) : (numG n).F u y := hx
theorem num_of {P : Program} {f : FuncId} {args : Array Value} {w : World} {n : Int} (h : Calls P f args w fun e w' => e = .returned (.int .i64 n) ∧ w' = w) : Calls P f args w (fun e w'' => ∃ u, e = .returned u ∧ (numG n).V u ∧ (numG n).F u w'' ∧ Later w w'') :=
  h.mono fun _ _ ⟨he, hb⟩ => ⟨_, he, rfl, trivial, by rw [hb]; exact Below.refl _ _⟩
theorem truthC_later {b : Bool} {u : Value} {x y : World} (hx : (truth b).F u x) (_ : Later x y) : (truth b).F u y := hx
theorem truthS_of {P : Program} {f : FuncId} {args : Array Value} {w : World} {b : Bool} (h : Calls P f args w fun e w' => e = .returned (.bool b) ∧ w' = w) : Calls P f args w (fun e w'' => ∃ u, e = .returned u ∧ (truth b).V u ∧ (truth b).F u w'' ∧ Later w w'') :=
  h.mono fun _ _ ⟨he, hb⟩ => ⟨_, he, rfl, trivial, by rw [hb]; exact Below.refl _ _⟩
/- A value is moved. -/
theorem giv_move {P : Program} {ops : Array Oper} {C : World → Prop} {E : Oper → Act → Option GSpec} {R : World → World → Prop} {Q : Act → Known → Prop} {o : Oper} {rest : List Oper} {a : Act} {G : Known} (hs : E o a = none) (hw : Region.wanted o (yielded ops a.tmps) = true) (x : Operand) (ho : o.op = .move x) (v : Value) (hv : a.eval x = v)
    (k : wpGiv P ops C E R Q rest (a.put o.dst v) G) : wpGiv P ops C E R Q (o :: rest) a G := by
  refine giv_plain hs (fun K hK => ?_)
  rw [if_pos hw]
  refine ⟨v, fun w _ => ?_, hK _ k⟩
  unfold Oper.quietAt execOp
  simp [ho, hv, Oper.quietUpon]
end Go.Proofs.YteooloceaoinlaaGreatDoor
/- Houses in regions that draw their order: one that is loaded whole, one that is answered in new memory. -/
namespace Go.Proofs.YteooloceaoinlaaGreatDoor
open Go.ChangeShapes Go.WideShapes Go.ChangeAt Go.RowKit

theorem gs_loadS {t : TypeId} {n : Nat} (hS : IsS t n) {ops : Array Oper} {C : World → Prop} {E : Oper → Act → Option GSpec} {R : World → World → Prop} {Q : Act → Known → Prop} {o : Oper} {rest : List Oper} {a : Act} {G : Known} (hs : E o a = none)
    (hw : Region.wanted o (yielded ops a.tmps) = true) (x : Operand) (ho : o.op = .load t x) (g : Nat) (hx : a.eval x = .pointer (some ⟨g, 0, none⟩)) (cs : Array Value) (hn : cs.size = n) (hr : ∀ q : Kin C, StB q.x g t cs)
    (k : GivS Tryz.prog ops C E R Q rest (a.put o.dst (.agg cs)) G) : GivS Tryz.prog ops C E R Q (o :: rest) a G := by
  refine gs_plain hs (fun K hK => ?_)
  rw [if_pos hw]
  refine ⟨.agg cs, fun w hq => ?_, hK _ k⟩
  obtain ⟨q, rfl⟩ := hq
  unfold Oper.quietAt execOp
  simp only [ho, hx, Instr.loadAt, Instr.sureAddr, Sem.run_bind, Sem.run_pure, Result.andThen_ok, load_S hS q.x g cs hn (hr q)]
  simp [Oper.quietUpon]
/- A house that is answered. -/
def nodeG (n : Nd) : GSpec := ⟨fun u => ∃ a b k q z, u = .agg (ndA a b k q z n), fun u w => ∃ a b k q z, u = .agg (ndA a b k q z n) ∧ RdN w a b k q z n⟩
theorem nodeG_later {n : Nd} {u : Value} {x y : World} (hx : (nodeG n).F u x) (hl : Later x y) : (nodeG n).F u y := by
  obtain ⟨a, b, k, q, z, e, h⟩ := hx
  exact ⟨a, b, k, q, z, e, h.below hl⟩
theorem nodeG_rd {n : Nd} {a b k q z : Value} {w : World} (h : (nodeG n).F (.agg (ndA a b k q z n)) w) : RdN w a b k q z n := by
  obtain ⟨a', b', k', q', z', e, h⟩ := h
  have e' := congrArg (fun v => match v with | .agg cs => cs | _ => #[]) e
  simp only [ndA] at e'
  have g : ∀ j : Nat, _ := fun j => congrArg (fun cs : Array Value => cs[j]?) e'
  have h2 := g 2
  have h3 := g 3
  have h4 := g 4
  have h17 := g 17
  have h19 := g 19
  simp at h2 h3 h4 h17 h19
  subst h2 h3 h4 h17 h19
  exact h
theorem nodeG_of {P : Program} {f : FuncId} {args : Array Value} {w : World} {n : Nd} (h : Calls P f args w fun e w' => ∃ a b k q z, e = .returned (.agg (ndA a b k q z n)) ∧ OwnN w' w.heap.size a b k q z n ∧ Below w.heap.size w w') : Calls P f args w (fun e w'' => ∃ u, e = .returned u ∧ (nodeG n).V u ∧ (nodeG n).F u w'' ∧ Later w w'') :=
  h.mono fun _ _ ⟨a, b, k, q, z, he, o, hb⟩ => ⟨_, he, ⟨a, b, k, q, z, rfl⟩, ⟨a, b, k, q, z, rfl, o.reads⟩, hb⟩
end Go.Proofs.YteooloceaoinlaaGreatDoor
/- The table of powers of ten of Go's library, out of what a statement lists. -/
namespace Go.Proofs.YteooloceaoinlaaGreatDoor
open Go.ChangeShapes Go.WideShapes Go.ChangeAt Go.RowKit

theorem pow_is : (Rows.laid_internal_strconv_uint64pow10 : DataW Unit) = Lib.tabData .u64 Lib.pow10Tab := by kernel_rfl
theorem tab_third {W : World} {a b : String × DataW Unit} {rest : List (String × DataW Unit)} (h : laidMet Tryz.prog (a :: b :: ("internal/strconv.uint64pow10", Rows.laid_internal_strconv_uint64pow10) :: rest) W) : Tab W := by
  have h3 : laidMet Tryz.prog (("internal/strconv.uint64pow10", Lib.tabData .u64 Lib.pow10Tab) :: rest) W := by
    have := h.tail.tail
    rw [pow_is] at this
    exact this
  exact Lib.tabIs_of_head (show Tryz.prog.globalNamed "internal/strconv.uint64pow10" = some 1 by kernel_rfl) (show (Tryz.prog.globals[1]?).map (·.type) = some 170 by kernel_rfl) Tryz.underlying170 Tryz.underlying161 (by kernel_rfl) (by kernel_rfl) h3

/- 3 -/
theorem tab_fnExactNodeOk {W : World} (h : laidMetH Tryz.prog Rows.fnExactNodeOkRow.laid W) : Tab W := by
  rw [MakeChecks.laidMetH_plain _ _ _ (by kernel_rfl)] at h
  exact tab_third h

/- 4 -/
theorem tab_fnExactFallen {W : World} (h : laidMetH Tryz.prog Rows.fnExactFallenRow.laid W) : Tab W := by
  rw [MakeChecks.laidMetH_plain _ _ _ (by kernel_rfl)] at h
  exact tab_third h

/- 5 -/
theorem tab_fnExactRisen {W : World} (h : laidMetH Tryz.prog Rows.fnExactRisenRow.laid W) : Tab W := by
  rw [MakeChecks.laidMetH_plain _ _ _ (by kernel_rfl)] at h
  exact tab_third h

end Go.Proofs.YteooloceaoinlaaGreatDoor
