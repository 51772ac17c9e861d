/- Lists of strings in memory: 'ReadsS', 'OwnS'; what eqStringS, likeTexts, markText, markStringS and heldStringS answer. -/
import Derived.Test.YtnnmcjgmnjokiaaDoorDec
import Derived.Laws.OwnMore
import Derived.Deep.AppendLies
import Derived.Deep.QuietTactic
import Derived.OwnWalk
namespace Go.Proofs.YtnnmcjgmnjokiaaDoor
open Go.ChangeShapes Go.WideShapes Go.ChangeAt Go.RowKit

def ReadsS (w : World) (v : Value) (xs : List Bs) : Prop :=
  ∃ ao cap, v = .slice ao xs.length cap ∧ xs.length ≤ cap ∧ (cap ≤ maxLen ∧ (ao = none → cap = 0)) ∧
    (xs = [] ∨ ∃ b off, ao = some ⟨b, off, none⟩ ∧ ∀ j, j < xs.length → w.cell? ⟨b, off + j, none⟩ = some (S (xs.getD j [])))
def OwnS (w : World) (base : Nat) (v : Value) (xs : List Bs) : Prop :=
  w.ownsRow base 9 1 v xs.length (xs.map S)

theorem OwnS.nil (w : World) (base : Nat) : OwnS w base (.slice none 0 0) [] := World.ownsRow_nil w base _ _
theorem OwnS.reads {w : World} {base : Nat} {v : Value} {xs : List Bs} (h : OwnS w base v xs) : ReadsS w v xs := by
  rcases h.2 with ⟨rfl, h0⟩ | ⟨g, cap, cur, rfl, hb, hg, hnc, hcm, hcs, ht⟩
  · have e : xs = [] := List.eq_nil_of_length_eq_zero h0
    subst e
    exact ⟨none, 0, rfl, Nat.le_refl _, ⟨Nat.zero_le _, fun _ => rfl⟩, .inl rfl⟩
  · refine ⟨_, cap, rfl, hnc, ⟨hcm, fun e => by cases e⟩, .inr ⟨g, 0, rfl, fun j hj => ?_⟩⟩
    have := World.ownsRow.cellAt (w := w) h j (by omega)
    rw [Nat.zero_add, this]
    simp [List.getD, hj]
theorem OwnS.mono {w : World} {base base' : Nat} {v : Value} {xs : List Bs} (h : OwnS w base v xs) (hb : base' ≤ base) : OwnS w base' v xs := by
  refine ⟨h.1, ?_⟩
  rcases h.2 with h' | ⟨g, cap, cur, e, hg, r⟩
  · exact .inl h'
  · exact .inr ⟨g, cap, cur, e, Nat.le_trans hb hg, r⟩
theorem OwnS.lt {w : World} {base : Nat} {v : Value} {xs : List Bs} (h : OwnS w base v xs) : ∀ k, v.ownBlock = some k → base ≤ k ∧ k < w.heap.size := World.ownsRow.lt h
theorem OwnS.frame {w w' : World} {base : Nat} {v : Value} {xs : List Bs} (h : OwnS w base v xs) (e : ∀ b ∈ v.ownBlock.toList, w'.heap[b]? = w.heap[b]?) : OwnS w' base v xs := by
  refine ⟨h.1, ?_⟩
  rcases h.2 with h' | ⟨g, cap, cur, rfl, hb, hg, r⟩
  · exact .inl h'
  · exact .inr ⟨g, cap, cur, rfl, hb, (e g (by simp [Value.ownBlock])).trans hg, r⟩
theorem OwnS.below {w w' : World} {base : Nat} {v : Value} {xs : List Bs} (h : OwnS w base v xs) (hb : Below w.heap.size w w') : OwnS w' base v xs :=
  h.frame (fun b hm => hb.block b (h.lt b (by simpa using hm)).2)
theorem OwnS.kept {w w' : World} {base : Nat} {v : Value} {row : Option Nat} {xs : List Bs} (h : OwnS w base v xs) (hg : w.grownBy w' row) (hne : v.ownBlock = none ∨ v.ownBlock ≠ row) : OwnS w' base v xs :=
  World.ownsRow.kept h hg hne
theorem ReadsS.below {w w' : World} {B : Nat} {v : Value} {xs : List Bs} (h : ReadsS w v xs) (hb : Below B w w') (hB : w.heap.size ≤ B) : ReadsS w' v xs := by
  obtain ⟨ao, cap, rfl, h1, h2, h3⟩ := h
  refine ⟨ao, cap, rfl, h1, h2, ?_⟩
  rcases h3 with h3 | ⟨b, off, rfl, h4⟩
  · exact .inl h3
  · refine .inr ⟨b, off, rfl, fun j hj => ?_⟩
    have h5 := h4 j hj
    have h6 := World.block_lt_of_cell? w _ h5
    rw [hb.cell (p := ⟨b, off + j, none⟩) (Nat.lt_of_lt_of_le h6 hB)]
    exact h5

theorem takeS_snoc (xs : List Bs) (j : Nat) (h : j < xs.length) : xs.take (j + 1) = xs.take j ++ [xs.getD j []] := by
  rw [List.take_succ_eq_append_getElem h]; simp [List.getD, h]
theorem takeS_step {xs ys : List Bs} {j : Nat} (h : xs.take j = ys.take j) (hx : j < xs.length) (hy : j < ys.length) (e : xs.getD j [] = ys.getD j []) : xs.take (j + 1) = ys.take (j + 1) := by
  rw [takeS_snoc xs j hx, takeS_snoc ys j hy, h, e]
theorem neS_of_getD {xs ys : List Bs} {j : Nat} (e : xs.getD j [] ≠ ys.getD j []) : xs ≠ ys := fun h => e (by rw [h])

def mtext (k : Nat) : Bs := 109 :: dec k
end Go.Proofs.YtnnmcjgmnjokiaaDoor
