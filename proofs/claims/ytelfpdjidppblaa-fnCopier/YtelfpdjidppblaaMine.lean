/- A list of the call's own, or an empty one wherever it points to: what is answered where nothing was copied. -/
import Derived.Test.YtelfpdjidppblaaSta
import Derived.Test.YtelfpdjidppblaaSz
import Derived.Test.YtelfpdjidppblaaM3
namespace Go.Proofs.Ytelfpdjidppblaa
open Go.ChangeShapes Go.WideShapes Go.ChangeAt Go.RowKit

def Mine (w : World) (base : Nat) (v : Value) (xs : List Int) : Prop := Own w base v xs ∨ (xs = [] ∧ ∃ ao cap, v = .slice ao 0 cap ∧ cap ≤ maxLen ∧ (ao = none → cap = 0))
theorem Own.mine {w : World} {base : Nat} {v : Value} {xs : List Int} (h : Own w base v xs) : Mine w base v xs := .inl h
theorem Mine.reads {w : World} {base : Nat} {v : Value} {xs : List Int} (h : Mine w base v xs) : Reads w v xs := by
  rcases h with h | ⟨rfl, ao, cap, rfl, h1, h2⟩
  · exact h.reads
  · exact ⟨ao, cap, rfl, Nat.zero_le _, ⟨h1, h2⟩, .inl rfl⟩
theorem Reads.mine {w : World} {base : Nat} {v : Value} (h : Reads w v []) : Mine w base v [] := by
  obtain ⟨ao, cap, rfl, -, ⟨h1, h2⟩, -⟩ := h
  exact .inr ⟨rfl, ao, cap, rfl, h1, h2⟩
theorem Mine.mono {w : World} {base base' : Nat} {v : Value} {xs : List Int} (h : Mine w base v xs) (hb : base' ≤ base) : Mine w base' v xs := h.imp (fun h => h.mono hb) id
theorem Mine.below {w w' : World} {base : Nat} {v : Value} {xs : List Int} (h : Mine w base v xs) (b : Below w.heap.size w w') : Mine w' base v xs := h.imp (fun h => h.below b) id
theorem Mine.keptLt {w w' : World} {base g : Nat} {v : Value} {xs : List Int} (h : Mine w base v xs) (hg : w.grownBy w' (some g)) (hb : g < base) : Mine w' base v xs := h.imp (fun h => h.keptLt hg hb) id
theorem Mine.setLt {w : World} {base g : Nat} {v : Value} {xs : List Int} (h : Mine w base v xs) (hb : g < base) (j : Nat) (x : Value) : Mine (w.setCell ⟨g, j, none⟩ x) base v xs := h.imp (fun h => h.setLt hb j x) id
theorem Mine.putBy {w w' : World} {base g : Nat} {v : Value} {xs : List Int} {t : TypeId} {cs : Array Value} (h : Mine w base v xs) (h' : StB w g t cs) (hne : t ≠ 2) (b : w.grownBy w' (some g)) : Mine w' base v xs := h.imp (fun h => h.putBy h' hne b) id
theorem Mine.set {w : World} {base g j : Nat} {v : Value} {xs : List Int} {t : TypeId} {cs : Array Value} (h : Mine w base v xs) (h' : StB w g t cs) (hne : t ≠ 2) (x : Value) : Mine (w.setCell ⟨g, j, none⟩ x) base v xs := h.putBy h' hne (grownSet w g j x)
theorem Mine.drew {w w' : World} {base n : Nat} {v : Value} {xs : List Int} (h : Mine w base v xs) (e : w' = w.drewN n) : Mine w' base v xs := h.imp (fun h => h.drew_eq e) id
theorem Mine.own {w : World} {base : Nat} {v : Value} {xs : List Int} (h : Mine w base v xs) (hx : xs ≠ []) : Own w base v xs := h.resolve_right (fun h => hx h.1)
/- What is left of new memory where all that lies below is as it was. -/
theorem Mine.lower {w w' : World} {base B : Nat} {v : Value} {xs : List Int} (h : Mine w base v xs) (b : Below B w w') (hB : ∀ k, v.ownBlock = some k → k < w.heap.size → k < B) : Mine w' base v xs := by
  refine h.imp (fun h => Own.frame h (fun k hk => ?_)) id
  simp at hk
  exact b.block k (hB k hk (h.lt k hk).2)

theorem Reads.later {w w' : World} {v : Value} (h : Reads w v []) : Reads w' v [] := by
  obtain ⟨ao, cap, rfl, h0, h1, -⟩ := h
  exact ⟨ao, cap, rfl, h0, h1, .inl rfl⟩
/- In the state of a long walk. -/
def mineOf (v : Value) (xs : List Int) : List Nat := if xs.length = 0 then [] else v.ownBlock.toList
theorem Mine.frame {w w' : World} {base : Nat} {v : Value} {xs : List Int} (h : Mine w base v xs) (e : ∀ b ∈ mineOf v xs, w'.heap[b]? = w.heap[b]?) : Mine w' base v xs := by
  rcases h with h | h
  · by_cases hx : xs.length = 0
    · have e0 : xs = [] := List.eq_nil_of_length_eq_zero hx
      subst e0
      exact Reads.mine (h.reads.later)
    · unfold mineOf at e
      rw [if_neg hx] at e
      exact .inl (Own.frame h e)
  · exact .inr h
def LstM (v : Value) (xs : List Int) : Item := ⟨mineOf v xs, 0, fun w => Mine w 0 v xs, fun _ _ e _ h => Mine.frame h e⟩
theorem Sta.listM {w wx wy : World} {L : List Item} {v : Value} {xs : List Int} (h : Sta w wx L) (o : Mine wy wx.heap.size v xs) (b : Below wx.heap.size wx wy) : Sta w wy (LstM v xs :: L) := by
  refine h.add b (LstM v xs) (o.mono (Nat.zero_le _)) (fun k hk => ?_)
  have hk' : k ∈ mineOf v xs := hk
  unfold mineOf at hk'
  split at hk'
  · simp at hk'
  · rename_i hx
    exact (o.own (fun e => hx (by rw [e]; rfl))).lt k (by simpa using hk')
theorem Sta.readsM {w wx : World} {L : List Item} {v : Value} {xs : List Int} (h : Sta w wx L) (n : Nat) (e : L[n]? = some (LstM v xs)) : Reads wx v xs := (h.get n e).reads
theorem Sta.markM {w wx wy : World} {L : List Item} {v : Value} {xs ys : List Int} (h : Sta w wx L) (n : Nat) (e : L[n]? = some (LstM v xs)) (hl : ys.length = xs.length) (o : Mine wy 0 v ys) (m : Turned wx wy (mineOf v xs)) : Sta w wy (L.set n (LstM v ys)) :=
  h.turn n e m (LstM v ys) (by show mineOf v ys = mineOf v xs; unfold mineOf; rw [hl]) o
end Go.Proofs.Ytelfpdjidppblaa
