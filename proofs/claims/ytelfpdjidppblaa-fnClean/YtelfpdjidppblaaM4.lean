/- The program's copiers, all of them. -/
import Derived.Test.YtelfpdjidppblaaICopAck
import Derived.Test.YtelfpdjidppblaaICopMark
import Derived.Test.YtelfpdjidppblaaICopAgain
import Derived.Test.YtelfpdjidppblaaICopNext
import Derived.Test.YtelfpdjidppblaaM1
import Derived.Test.YtelfpdjidppblaaM3
namespace Go.Proofs.Ytelfpdjidppblaa
end Go.Proofs.Ytelfpdjidppblaa
/- The walk of a region that draws its order and ends in a store of a whole struct, behind a structure. -/
namespace Go.Proofs.Ytelfpdjidppblaa
open Go.ChangeShapes Go.WideShapes Go.ChangeAt Go.RowKit

theorem wp_region_gs_last {P : Program} {C : World → Prop} {E : Oper → Act → Option GSpec} {R : World → World → Prop} (hC : ∀ x y, C x → R x y → C y) (hE : ∀ o a s, E o a = some s → ∀ u x y, s.F u x → R x y → s.F u y)
    {id : Nat} {Q : Exit → Act → World → Prop} {a : Act} {w : World} {l : List Oper} (hA : ∀ o a dst v, (∀ d, dst = some d → d ∉ o.looksAt l.toArray) → E o (Act.put a dst v) = E o a) (hm : P.follows .mixedOrders = true) (hB : Region.lexB .any l.toArray = true) (hL : lastOpB l = true) (h1 : 1 ≤ l.length) (h0 : C w.drew)
    (h : GivS P l.toArray C E R (fun a' G => ∀ w', Has C G w' → wpOp P l.toArray Q (l.length - 1) (fun a'' w'' => Q .normal a'' w'') a' w') l.dropLast a []) : (Code.region id l.toArray true).wp P Q a w := wp_region_giv_last hC hE hA hm hB hL h1 h0 h.out
theorem last_putL {t : TypeId} {n : Nat} (hS : IsS t n) {ops : Array Oper} {i : Nat} {o : Oper} {a : Act} {w : World} {K : Act → World → Prop} {Q : Exit → Act → World → Prop} (hi : ops[i]? = some o) (hgd : o.guard = none) (x y : Operand) (ho : o.op = .store t x y)
    (g : Nat) (cs ds : Array Value) (hx : a.eval x = .pointer (some ⟨g, 0, none⟩)) (hy : a.eval y = .agg cs) (hn : cs.size = n) (hd : ds.size = n) (h1 : cs.all (·.oneCell') = true) (hr : StB w g t ds)
    (h : ∀ w', StB w' g t cs → w.grownBy w' (some g) → K (a.put o.dst undef) w') : wpOp Try.prog ops Q i K a w := by
  unfold wpOp
  rw [hi]
  dsimp only
  have hw : Region.wanted o (yielded ops a.tmps) = true := by simp [Region.wanted, hgd]
  rw [if_pos hw]
  refine .inl ?_
  have := step_putS (ops := ops) (Q := Q) (E := False) hS hgd x y ho g cs ds hx hy hn hd h1 hr h
  rw [if_pos hw] at this
  exact this
theorem cpG_ofM {P : Program} {f : FuncId} {args : Array Value} {w : World} {c : Cp} (hc : Calls P f args w fun e w' => ∃ u, e = .returned (.agg #[.int .i64 c.tr, .bool c.op, .int .i64 c.di, .int .i64 c.wa, u]) ∧ Mine w' w.heap.size u c.ts ∧ Below w.heap.size w w') :
    Calls P f args w (fun e w'' => ∃ u, e = .returned u ∧ (cpG c).V u ∧ (cpG c).F u w'' ∧ Later w w'') := by
  refine hc.mono ?_
  rintro e w' ⟨u, rfl, o, bl⟩
  obtain ⟨ao, ac, rfl⟩ := reads_form o.reads
  exact ⟨_, rfl, ⟨ao, ac, rfl⟩, fun n1 b n2 n3 v e => by cases e; exact o.mono (Nat.zero_le _), bl⟩
end Go.Proofs.Ytelfpdjidppblaa
