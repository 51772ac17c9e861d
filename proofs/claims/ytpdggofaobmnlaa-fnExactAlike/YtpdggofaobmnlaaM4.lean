/- Lists of strings are marked and looked at again: markStringS, heldStringS; one more string behind a list. -/
import Derived.Test.YtpdggofaobmnlaaM3
import Derived.Deep.RegionHeld3
namespace Go.Proofs.Ytpdggofaobmnlaa
open Go.ChangeShapes Go.WideShapes Go.ChangeAt Go.RowKit

def marksS (k : Nat) (n : Nat) : List Bs := (List.range n).map fun j => mtext (k + j)
theorem marksS_length (k n : Nat) : (marksS k n).length = n := by simp [marksS]
theorem marksS_getD (k n j : Nat) (h : j < n) : (marksS k n).getD j [] = mtext (k + j) := by simp [marksS, List.getD, h]
theorem marksS_step (k : Nat) (xs : List Bs) (j : Nat) (h : j < xs.length) : ((marksS k j ++ xs.drop j).set j (mtext (k + j))) = marksS k (j + 1) ++ xs.drop (j + 1) := by
  rw [List.set_append_right _ _ (by simp [marksS_length]), marksS_length, Nat.sub_self]
  rw [List.drop_eq_getElem_cons h, List.set_cons_zero]
  simp [marksS, List.range_succ]
theorem marksS_all (k : Nat) (xs : List Bs) : marksS k xs.length ++ xs.drop xs.length = marksS k xs.length := by simp
theorem OwnS.put {w : World} {base g n cap : Nat} {xs : List Bs} (h : OwnS w base (.slice (some ⟨g, 0, none⟩) n cap) xs) (hn : n = xs.length) (j : Nat) (hj : j < n) (x : Bs) :
    w.frozen? ⟨g, j, none⟩ = false ∧ (∃ y, w.cell? ⟨g, j, none⟩ = some y) ∧ OwnS (w.setCell ⟨g, j, none⟩ (S x)) base (.slice (some ⟨g, 0, none⟩) n cap) (xs.set j x) := by
  subst hn
  have hown : w.ownsRow base 9 1 (.slice (some ⟨g, 0, none⟩) xs.length cap) xs.length (xs.map S) := h
  refine ⟨World.ownsRow.frozenAt hown j, ?_, ?_⟩
  · rw [World.ownsRow.cellAt hown j (by omega)]
    exact ⟨_, List.getElem?_eq_getElem (by simpa using hj)⟩
  · have := (World.ownsRow.stored hown j (S x)).1
    rw [← List.map_set] at this
    unfold OwnS
    rwa [List.length_set]
theorem grownSetS (w : World) (g j : Nat) (x : Value) : w.grownBy (w.setCell ⟨g, j, none⟩ x) (some g) :=
  ⟨rfl, rfl, rfl, by simp, fun k _ hk => heap_setCell_other w ⟨g, j, none⟩ k x (fun e => hk (by simp [e]))⟩
theorem grown_below {w w' w'' : World} {row : Option Nat} (h : w.grownBy w' row) (b : Below w'.heap.size w' w'') : w.grownBy w'' row :=
  ⟨b.os.trans h.os, b.tape.trans h.tape, b.output.trans h.output, Nat.le_trans h.size b.size, fun k hk hne => (b.block k (Nat.lt_of_lt_of_le hk h.size)).trans (h.block k hk hne)⟩
end Go.Proofs.Ytpdggofaobmnlaa
/- Texts are split: what l1Split of the model answers. -/
namespace Go.Proofs.Ytpdggofaobmnlaa
open Go.ChangeShapes Go.WideShapes Go.ChangeAt Go.RowKit

def ahead (a : Bs) : List Bs → List Bs
  | [] => [a]
  | p :: ps => (a ++ p) :: ps
def splitB (c : UInt8) : Bs → List Bs
  | [] => [[]]
  | b :: t => if b = c then [] :: splitB c t else ahead [b] (splitB c t)
theorem ahead_ahead (a b : Bs) (l : List Bs) (h : l ≠ []) : ahead a (ahead b l) = ahead (a ++ b) l := by
  cases l with
  | nil => exact absurd rfl h
  | cons p ps => simp [ahead]
theorem ahead_nil (l : List Bs) (h : l ≠ []) : ahead [] l = l := by
  cases l with
  | nil => exact absurd rfl h
  | cons p ps => rfl
theorem ahead_ne (a : Bs) (l : List Bs) : ahead a l ≠ [] := by cases l <;> simp [ahead]
theorem splitB_ne (c : UInt8) (l : Bs) : splitB c l ≠ [] := by
  cases l with
  | nil => simp [splitB]
  | cons b t => rw [splitB]; split; simp; exact ahead_ne _ _

def cutB (l : Bs) (a b : Nat) : Bs := (l.take b).drop a
theorem cutB_len (l : Bs) (a b : Nat) (h : b ≤ l.length) : (cutB l a b).length = b - a := by simp [cutB]; omega
theorem cutB_snoc (l : Bs) (a b : Nat) (h : a ≤ b) (hb : b < l.length) : cutB l a (b + 1) = cutB l a b ++ [l[b]] := by
  unfold cutB
  rw [take_snocB l b hb, List.drop_append_of_le_length (by simp; omega)]
theorem cutB_self (l : Bs) (a : Nat) : cutB l a a = [] := by
  unfold cutB
  rw [List.drop_eq_nil_of_le (by simp; omega)]
theorem extract_cut (l : Bs) (a b : Nat) : (⟨l.toArray⟩ : ByteArray).extract a b = ⟨(cutB l a b).toArray⟩ := by
  apply ByteArray.ext
  rw [ByteArray.data_extract]
  simp [cutB, List.extract_toArray, List.drop_take]

def SplitInv (c : UInt8) (l : Bs) (out : List Bs) (a i : Nat) : Prop := a ≤ i ∧ splitB c l = out ++ ahead (cutB l a i) (splitB c (l.drop i))
theorem SplitInv.start (c : UInt8) (l : Bs) : SplitInv c l [] 0 0 := ⟨Nat.le_refl _, by rw [cutB_self, List.drop_zero, ahead_nil _ (splitB_ne _ _)]; rfl⟩
theorem SplitInv.hit {c : UInt8} {l : Bs} {out : List Bs} {a i : Nat} (h : SplitInv c l out a i) (hi : i < l.length) (hc : l[i] = c) : SplitInv c l (out ++ [cutB l a i]) (i + 1) (i + 1) := by
  refine ⟨Nat.le_refl _, ?_⟩
  rw [h.2, List.drop_eq_getElem_cons hi, splitB, if_pos hc, cutB_self, ahead_nil _ (splitB_ne _ _)]
  simp [ahead]
theorem SplitInv.miss {c : UInt8} {l : Bs} {out : List Bs} {a i : Nat} (h : SplitInv c l out a i) (hi : i < l.length) (hc : l[i] ≠ c) : SplitInv c l out a (i + 1) := by
  refine ⟨by have := h.1; omega, ?_⟩
  rw [h.2, List.drop_eq_getElem_cons hi, splitB, if_neg hc, ahead_ahead _ _ _ (splitB_ne _ _), cutB_snoc l a i h.1 hi]
theorem SplitInv.done {c : UInt8} {l : Bs} {out : List Bs} {a : Nat} (h : SplitInv c l out a l.length) : splitB c l = out ++ [cutB l a l.length] := by
  rw [h.2]
  simp [splitB, ahead]

theorem Try.infoS : (Try.prog.info? 9).map (fun i => (i.zero, i.size, i.bytes)) = some (some (.string ⟨#[]⟩), 1, 16) := by kernel_rfl
theorem litS1 (w : World) (x : Bs) : ∀ j u, ([S x])[j]? = some u → (w.alloc (.cells #[S x] 9)).cell? ((⟨w.heap.size, 0, none⟩ : Addr).add j) = some u := by
  intro j u hj
  match j, hj with
  | 0, hj => simp at hj; subst hj; simp [Addr.add]
theorem mapS_one (xs : List Bs) (a : Bs) : xs.map S ++ [S a] = (xs ++ [a]).map S := by simp
theorem appendS {w wr w' : World} {o v' : Value} {out : List Bs} {x : Bs} {ob : Obj} (hO : OwnS wr w.heap.size o out) (hB : Below w.heap.size w wr)
    (hown : w'.ownsRow w.heap.size 9 1 v' (out.length + 1) (out.map S ++ [S x])) (hg : (wr.alloc ob).grownBy w' o.ownBlock) : OwnS w' w.heap.size v' (out ++ [x]) ∧ Below w.heap.size w w' := by
  refine ⟨?_, (hB.alloc hB.size ob).grown hg (by simp; have := hB.size; omega) (fun k e => (hO.lt k e).1)⟩
  unfold OwnS
  rw [← mapS_one]
  simpa using hown
end Go.Proofs.Ytpdggofaobmnlaa
