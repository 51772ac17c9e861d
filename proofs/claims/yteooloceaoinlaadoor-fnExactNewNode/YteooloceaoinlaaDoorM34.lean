/- How the laws take a house over. -/
import Derived.Test.YteooloceaoinlaaDoorLNode
import Derived.Test.YteooloceaoinlaaDoorNdHear
import Derived.Test.YteooloceaoinlaaDoorNdTell
import Derived.Test.YteooloceaoinlaaDoorM26
import Derived.Test.YteooloceaoinlaaDoorINodeF
import Derived.Test.YteooloceaoinlaaDoorMem
import Derived.Deep.QuietTactic
namespace Go.Proofs.YteooloceaoinlaaDoor
open Go.ChangeShapes Go.WideShapes Go.ChangeAt Go.RowKit
end Go.Proofs.YteooloceaoinlaaDoor
/- What is answered is a right house, or none: so it isn't great; a house's variable in the state of a long walk. -/
namespace Go.Proofs.YteooloceaoinlaaDoor
open Go.ChangeShapes Go.WideShapes Go.ChangeAt Go.RowKit

def Fine (m : Nd) : Prop := m = Nd.zero ∨ NdR m
theorem NdR.lens {n : Nd} (h : NdR n) : n.xs.length ≤ 8 ∧ n.ys.length ≤ 8 ∧ n.h.ks.length = 4 ∧ n.c.ts.length ≤ 8 ∧ n.s.ts.length ≤ 8 ∧ n.log.length ≤ 40000 := by
  obtain ⟨k1, k2, k3⟩ := bothOk_yes h.dk
  refine ⟨(blocksOk_len k1).2, (blocksOk_len k2).2, Hd.ok_len h.h, ?_, ?_, h.ll⟩
  · cases hc : n.c.unused with
    | true =>
      unfold Cp.unused at hc
      simp only [Bool.and_eq_true, decide_eq_true_eq] at hc
      omega
    | false =>
      have := h.c
      rw [Cp.ok_used hc] at this
      simp only [Bool.and_eq_true, inI, decide_eq_true_eq] at this
      omega
  · cases hc : n.s.unused with
    | true =>
      unfold Sn.unused at hc
      simp only [Bool.and_eq_true, decide_eq_true_eq] at hc
      omega
    | false =>
      have := h.s
      rw [Sn.ok_used hc] at this
      simp only [Bool.and_eq_true, inI, decide_eq_true_eq] at this
      omega
theorem Fine.sm {m : Nd} (h : Fine m) : SmN m := by
  rcases h with rfl | h
  · exact ⟨by decide, by decide, by decide, by decide, by decide, by decide⟩
  · have := h.lens
    exact ⟨by omega, by omega, by omega, by omega, by omega, by omega⟩
theorem Fine.len {m : Nd} (h : Fine m) : m.len ≤ 1048576 := by
  rcases h with rfl | h
  · decide
  · have := h.lens
    unfold Nd.len
    omega
theorem Fine.fall (n : Nd) (set : Int) : Fine (n.Fall set).1 := by
  unfold Nd.Fall
  split
  · rename_i ok
    have h := (Nd.ok_iff n).1 ok
    split
    · exact .inr (h.down set)
    · exact .inr h
  · exact .inl rfl
theorem Fine.rise (n : Nd) : Fine n.Rise.1 := by
  unfold Nd.Rise
  split
  · rename_i ok
    exact .inr ((Nd.ok_iff n).1 ok).rise.1
  · exact .inl rfl

theorem SmN.of {n : Nd} (h : n.len + n.log.length ≤ 1048576) : SmN n := by
  unfold Nd.len at h
  exact ⟨by omega, by omega, by omega, by omega, by omega, by omega⟩

/- A variable is made and holds what was answered. -/
theorem Sta.varS {w wx wy : World} {L : List Item} {t : TypeId} {cs ds : Array Value} (h : Sta w wx L) (s : StB wy wx.heap.size t cs) (G : (wx.alloc (.cells ds t)).grownBy wy (some wx.heap.size)) : Sta w wy (Blk wx.heap.size t cs :: L) := by
  have b : Below wx.heap.size wx wy := ((Below.refl _ _).alloc (Nat.le_refl _) _).grown G (by simp) (fun k e => by cases e; omega)
  refine h.add b (Blk wx.heap.size t cs) s (fun k hk => ?_)
  simp only [Blk, List.mem_singleton] at hk
  subst hk
  exact ⟨Nat.le_refl _, s.lt⟩
theorem Sta.ink {w wx wy : World} {L : List Item} {a b k q z : Value} {n : Nd} {i : Int} (h : Sta w wx L) (j : Nat) (e : L[j]? = some (NdI a b k q z n)) (o : MineN wy 0 a b k q z (n.inked i)) (m : Turned wx wy (own5 a b k q z n)) : Sta w wy (L.set j (NdI a b k q z (n.inked i))) :=
  h.turn j e m (NdI a b k q z (n.inked i)) (by
    show own5 a b k q z (n.inked i) = own5 a b k q z n
    have le : ∀ (v : Value) (xs : List Int) (j : Int), mineOf v (marks j xs.length) = mineOf v xs := fun v xs j => by unfold mineOf marks; simp
    unfold own5
    show blk a ++ (blk b ++ (blk k ++ (mineOf q (marks _ n.c.ts.length) ++ mineOf z (marks _ n.s.ts.length)))) = _
    rw [le, le]) o
end Go.Proofs.YteooloceaoinlaaDoor
/- A new house isn't great. -/
namespace Go.Proofs.YteooloceaoinlaaDoor
open Go.ChangeShapes Go.WideShapes Go.ChangeAt Go.RowKit

theorem Nd.new_sm (id bl : Int) (o : Bool) : SmN (Nd.new id bl o) ∧ (Nd.new id bl o).len ≤ 1048576 := by
  cases h : Nd.made id bl with
  | false =>
    rw [Nd.new_no h]
    exact ⟨(Fine.sm (.inl rfl)), (Fine.len (.inl rfl))⟩
  | true =>
    rw [Nd.new_yes h]
    have hc : cntOk bl = true := by
      unfold Nd.made at h
      simp only [Bool.and_eq_true] at h
      exact h.1
    have hz : (zerosI bl).length ≤ 8 := by
      unfold zerosI
      split
      · rw [List.length_replicate]
        omega
      · exact Nat.zero_le _
    have hl := framed_show_len (firstR o) (firstR_ok o)
    exact ⟨⟨by show (zerosI bl).length ≤ _; omega, by show (zerosI bl).length ≤ _; omega, by show Hd.new.ks.length ≤ 1048576; decide, by show Cp.zero.ts.length ≤ 1048576; decide, by show Sn.zero.ts.length ≤ 1048576; decide, by show (framed (showR (firstR o))).length ≤ _; omega⟩, by show (zerosI bl).length + (zerosI bl).length + 4 + 0 + 0 ≤ 1048576; omega⟩
end Go.Proofs.YteooloceaoinlaaDoor
/- A region that draws its order, whose operations only read and whose callees read and may make memory of their own: walked once, in a class of worlds. -/
namespace Go.Proofs.YteooloceaoinlaaDoor
open Go.ChangeShapes Go.WideShapes Go.ChangeAt Go.RowKit

/- A world of the class p. -/
structure Kin (p : World → Prop) where
  x : World
  h : p x
theorem wp_region_kin (p : World → Prop) {id : Nat} {Q : Exit → Act → World → Prop} {a : Act} {w : World} {l : List Oper} (hm : Tryd.prog.follows .mixedOrders = true) (hB : Region.lexB .any l.toArray = true) (h0 : p w.drew)
    (h : wpQuiet Tryd.prog l.toArray (fun w' => ∃ q : Kin p, w' = q.x) (fun a' => ∀ w', (∃ q : Kin p, w' = q.x) → Q .normal a' w') l a) : (Code.region id l.toArray true).wp Tryd.prog Q a w :=
  wp_region_quiet (C := fun w' => ∃ q : Kin p, w' = q.x) hm hB ⟨⟨w.drew, h0⟩, rfl⟩ (by simpa using h)
/- A callee's contract, met in a world of the class. -/
theorem Kin.call {p : World → Prop} {q : Kin p} {fn : FuncId} {args : Array Value} {v : Value}
    (h : Calls Tryd.prog fn args q.x fun e w' => e = .returned v ∧ Below q.x.heap.size q.x w') (hb : ∀ x w', p x → Below x.heap.size x w' → p w') : Calls Tryd.prog fn args q.x fun e w'' => e = .returned v ∧ ∃ q : Kin p, w'' = q.x :=
  h.mono fun _ w' ⟨he, b⟩ => ⟨he, ⟨w', hb _ _ q.h b⟩, rfl⟩
theorem Kin.same {p : World → Prop} {q : Kin p} {fn : FuncId} {args : Array Value} {v : Value}
    (h : Calls Tryd.prog fn args q.x fun e w' => e = .returned v ∧ w' = q.x) : Calls Tryd.prog fn args q.x fun e w'' => e = .returned v ∧ ∃ q : Kin p, w'' = q.x :=
  h.mono fun _ _ ⟨he, b⟩ => ⟨he, q, b⟩
end Go.Proofs.YteooloceaoinlaaDoor
