/- Blocks by commands, as plain lists: what one command does to a disk, and its answer. -/
import Derived.Test.YtpdggofaobmnlaaM2
import Derived.Test.YtpdggofaobmnlaaBlocks
import Derived.Test.YtpdggofaobmnlaaDec
import Derived.Laws.OwnMore
import Derived.Deep.AppendLies
import Derived.Deep.QuietTactic
import Derived.OwnWalk
namespace Go.Proofs.Ytpdggofaobmnlaa
open Go.RowKit

structure An where
  st : Int
  tx : Bs
def anA (x : An) : Array Value := #[.int .i64 x.st, S x.tx]
def AV (x : An) : Value := .agg (anA x)
def rangeI (ys : List Int) (c : Cm) : Bool := decide ((ys.length : Int) ≤ c.p) || (decide (c.o = 2) && !valOk c.a) || (decide (c.o = 3) && !valOk c.b)
def atI (ys : List Int) (c : Cm) : Int := ys.getD c.p.toNat 0
def didI (xs ys : List Int) (c : Cm) : List Int × List Int × An :=
  if c.o = 5 then (ys, ys, ⟨0, []⟩)
  else if rangeI ys c then (xs, ys, ⟨1, []⟩)
  else if c.o = 1 then (xs, ys, ⟨0, decI (atI ys c)⟩)
  else if c.o = 2 then (xs, ys.set c.p.toNat c.a, ⟨0, []⟩)
  else if c.o = 3 then (if atI ys c = c.a then (xs, ys.set c.p.toNat c.b, ⟨0, []⟩) else (xs, ys, ⟨2, decI (atI ys c)⟩))
  else (xs, ys.set c.p.toNat 0, ⟨0, []⟩)
def didD (xs ys : List Int) (c : Cm) : List Int × List Int × An :=
  if bothOk xs ys then (if c.ok && decide (c.o ≤ 5) then didI xs ys c else (xs, ys, ⟨7, []⟩)) else ([], [], ⟨7, []⟩)

theorem Cm.ok_vol {c : Cm} (h : c.ok = true) (h5 : c.o ≤ 5) : (c.o = 1 ∨ c.o = 2 ∨ c.o = 3 ∨ c.o = 4 ∨ c.o = 5) ∧ 0 ≤ c.p := by
  obtain ⟨o, p, a, b, k⟩ := c
  have hb := Cm.ok_byt h
  unfold Cm.ok Cm.told at h
  dsimp only at h h5
  simp only [Bool.and_eq_true, inI_iff] at h
  unfold Cm.Byt at hb
  dsimp only at hb
  dsimp only
  omega
theorem didI_len (xs ys : List Int) (c : Cm) (h : xs.length ≤ 1048576) (h' : ys.length ≤ 1048576) : (didI xs ys c).1.length ≤ 1048576 ∧ (didI xs ys c).2.1.length ≤ 1048576 := by
  unfold didI
  split
  · exact ⟨h', h'⟩
  · split
    · exact ⟨h, h'⟩
    · split
      · exact ⟨h, h'⟩
      · split
        · exact ⟨h, by simpa using h'⟩
        · split
          · split
            · exact ⟨h, by simpa using h'⟩
            · exact ⟨h, h'⟩
          · exact ⟨h, by simpa using h'⟩
theorem didD_len (xs ys : List Int) (c : Cm) (h : xs.length ≤ 1048576) (h' : ys.length ≤ 1048576) : (didD xs ys c).1.length ≤ 1048576 ∧ (didD xs ys c).2.1.length ≤ 1048576 := by
  unfold didD
  split
  · split
    · exact didI_len xs ys c h h'
    · exact ⟨h, h'⟩
  · simp
end Go.Proofs.Ytpdggofaobmnlaa
/- Lists of strings in memory: 'ReadsS', 'OwnS'; what eqStringS, likeTexts, markText, markStringS and heldStringS answer. -/
namespace Go.Proofs.Ytpdggofaobmnlaa
open Go.ChangeShapes Go.WideShapes Go.ChangeAt Go.RowKit

def ReadsS (w : World) (v : Value) (xs : List Bs) : Prop :=
  ∃ ao cap, v = .slice ao xs.length cap ∧ xs.length ≤ cap ∧ (cap ≤ maxLen ∧ (ao = none → cap = 0)) ∧
    (xs = [] ∨ ∃ b off, ao = some ⟨b, off, none⟩ ∧ ∀ j, j < xs.length → w.cell? ⟨b, off + j, none⟩ = some (S (xs.getD j [])))
def OwnS (w : World) (base : Nat) (v : Value) (xs : List Bs) : Prop :=
  w.ownsRow base 9 1 v xs.length (xs.map S)

theorem OwnS.nil (w : World) (base : Nat) : OwnS w base (.slice none 0 0) [] := World.ownsRow_nil w base _ _
theorem OwnS.reads {w : World} {base : Nat} {v : Value} {xs : List Bs} (h : OwnS w base v xs) : ReadsS w v xs := by
  rcases h.2 with ⟨rfl, h0⟩ | ⟨g, cap, cur, rfl, hb, hg, hnc, hcm, hcs, ht⟩
  · have e : xs = [] := List.eq_nil_of_length_eq_zero h0
    subst e
    exact ⟨none, 0, rfl, Nat.le_refl _, ⟨Nat.zero_le _, fun _ => rfl⟩, .inl rfl⟩
  · refine ⟨_, cap, rfl, hnc, ⟨hcm, fun e => by cases e⟩, .inr ⟨g, 0, rfl, fun j hj => ?_⟩⟩
    have := World.ownsRow.cellAt (w := w) h j (by omega)
    rw [Nat.zero_add, this]
    simp [List.getD, hj]
theorem OwnS.mono {w : World} {base base' : Nat} {v : Value} {xs : List Bs} (h : OwnS w base v xs) (hb : base' ≤ base) : OwnS w base' v xs := by
  refine ⟨h.1, ?_⟩
  rcases h.2 with h' | ⟨g, cap, cur, e, hg, r⟩
  · exact .inl h'
  · exact .inr ⟨g, cap, cur, e, Nat.le_trans hb hg, r⟩
theorem OwnS.lt {w : World} {base : Nat} {v : Value} {xs : List Bs} (h : OwnS w base v xs) : ∀ k, v.ownBlock = some k → base ≤ k ∧ k < w.heap.size := World.ownsRow.lt h
theorem OwnS.frame {w w' : World} {base : Nat} {v : Value} {xs : List Bs} (h : OwnS w base v xs) (e : ∀ b ∈ v.ownBlock.toList, w'.heap[b]? = w.heap[b]?) : OwnS w' base v xs := by
  refine ⟨h.1, ?_⟩
  rcases h.2 with h' | ⟨g, cap, cur, rfl, hb, hg, r⟩
  · exact .inl h'
  · exact .inr ⟨g, cap, cur, rfl, hb, (e g (by simp [Value.ownBlock])).trans hg, r⟩
theorem OwnS.below {w w' : World} {base : Nat} {v : Value} {xs : List Bs} (h : OwnS w base v xs) (hb : Below w.heap.size w w') : OwnS w' base v xs :=
  h.frame (fun b hm => hb.block b (h.lt b (by simpa using hm)).2)
theorem OwnS.kept {w w' : World} {base : Nat} {v : Value} {row : Option Nat} {xs : List Bs} (h : OwnS w base v xs) (hg : w.grownBy w' row) (hne : v.ownBlock = none ∨ v.ownBlock ≠ row) : OwnS w' base v xs :=
  World.ownsRow.kept h hg hne
theorem ReadsS.below {w w' : World} {B : Nat} {v : Value} {xs : List Bs} (h : ReadsS w v xs) (hb : Below B w w') (hB : w.heap.size ≤ B) : ReadsS w' v xs := by
  obtain ⟨ao, cap, rfl, h1, h2, h3⟩ := h
  refine ⟨ao, cap, rfl, h1, h2, ?_⟩
  rcases h3 with h3 | ⟨b, off, rfl, h4⟩
  · exact .inl h3
  · refine .inr ⟨b, off, rfl, fun j hj => ?_⟩
    have h5 := h4 j hj
    have h6 := World.block_lt_of_cell? w _ h5
    rw [hb.cell (p := ⟨b, off + j, none⟩) (Nat.lt_of_lt_of_le h6 hB)]
    exact h5

theorem takeS_snoc (xs : List Bs) (j : Nat) (h : j < xs.length) : xs.take (j + 1) = xs.take j ++ [xs.getD j []] := by
  rw [List.take_succ_eq_append_getElem h]; simp [List.getD, h]
theorem takeS_step {xs ys : List Bs} {j : Nat} (h : xs.take j = ys.take j) (hx : j < xs.length) (hy : j < ys.length) (e : xs.getD j [] = ys.getD j []) : xs.take (j + 1) = ys.take (j + 1) := by
  rw [takeS_snoc xs j hx, takeS_snoc ys j hy, h, e]
theorem neS_of_getD {xs ys : List Bs} {j : Nat} (e : xs.getD j [] ≠ ys.getD j []) : xs ≠ ys := fun h => e (by rw [h])

def mtext (k : Nat) : Bs := 109 :: dec k
end Go.Proofs.Ytpdggofaobmnlaa
