/- Numbers in decimal digits: what l1Int of the model answers. -/
import Derived.Test.YtjbfncjdedigdaaM1
import Derived.Below
import Derived.Test.YtjbfncjdedigdaaM2
import Derived.Laws.OwnMore
import Derived.Deep.AppendLies
import Derived.Deep.QuietTactic
import Derived.OwnWalk
import Derived.Deep.RegionHeld3
namespace Go.Proofs.Ytjbfncjdedigdaa
open Go.ChangeShapes Go.WideShapes Go.ChangeAt Go.RowKit

def digit (n : Nat) : UInt8 := UInt8.ofNat (48 + n % 10)
def dec (n : Nat) : Bs := if n < 10 then [digit n] else dec (n / 10) ++ [digit n]
def decI (n : Int) : Bs := if n < 0 then 45 :: dec n.natAbs else dec n.natAbs
/- What is still to be written ahead: nothing of 0. -/
def decZ (n : Nat) : Bs := if n = 0 then [] else dec n
theorem decZ_step (n : Nat) (h : n ≠ 0) : decZ n = decZ (n / 10) ++ [digit n] := by
  unfold decZ
  rw [if_neg h, dec]
  by_cases h10 : n < 10
  · rw [if_pos h10, if_pos (by omega)]; rfl
  · rw [if_neg h10, if_neg (by omega)]
theorem dec_zero : dec 0 = [digit 0] := by rw [dec]; rfl

theorem parts_neg (k : Int) (h : k < 0) : k.tmod 10 = -((k.natAbs % 10 : Nat) : Int) ∧ k.tdiv 10 = -((k.natAbs / 10 : Nat) : Int) := by
  obtain ⟨m, rfl⟩ : ∃ m : Nat, k = -(m : Int) := ⟨k.natAbs, by omega⟩
  rw [Int.neg_tmod, Int.neg_tdiv, Int.natAbs_neg, Int.natAbs_natCast]
  constructor <;> rfl
theorem parts_pos (k : Int) (h : 0 ≤ k) : k.tmod 10 = ((k.natAbs % 10 : Nat) : Int) ∧ k.tdiv 10 = ((k.natAbs / 10 : Nat) : Int) := by
  obtain ⟨m, rfl⟩ : ∃ m : Nat, k = (m : Int) := ⟨k.natAbs, by omega⟩
  rw [Int.natAbs_natCast]
  constructor <;> rfl
theorem digit_at (d : Nat) (h : d ≤ 9) : ((digit d).toNat : Int) = 48 + (d : Int) := by
  have : (digit d).toNat = 48 + d % 10 := by unfold digit; rw [UInt8.toNat_ofNat']; omega
  rw [this]; omega
theorem conv1 (w : World) (d : Nat) (h : d ≤ 9) : (convert 22 9 (.slice (some ⟨w.heap.size, 0, none⟩) 1 1)).run Try.prog (w.alloc (.cells #[.int .u8 (48 + (d : Int))] 5)) = .ok (.string ⟨#[digit d]⟩) (w.alloc (.cells #[.int .u8 (48 + (d : Int))] 5)) := by
  have := run_convert_bytes_back (P := Try.prog) (w.alloc (.cells #[.int .u8 (48 + (d : Int))] 5)) 22 9 5 ⟨w.heap.size, 0, none⟩ 1 [digit d] Try.underlying22 Try.underlying5 Try.underlying9 (by
    intro j hj
    have e : j = 0 := by simpa using hj
    subst e
    have h1 : (w.alloc (.cells #[.int .u8 (48 + (d : Int))] 5)).heap[w.heap.size]? = some (.cells #[.int .u8 (48 + (d : Int))] 5) := heap_alloc_new w _
    have h2 := cell_of_row _ w.heap.size 0 _ _ _ h1
    have h3 : ((([digit d] : List UInt8)[0]).toNat : Int) = 48 + (d : Int) := digit_at d h
    rw [h3]
    exact h2)
  exact this
theorem digit_mod (n : Nat) : digit (n % 10) = digit n := by unfold digit; rw [Nat.mod_mod]
theorem dec_len (k : Nat) : ∀ n, n < 10 ^ (k + 1) → (dec n).length ≤ k + 1 := by
  induction k with
  | zero => intro n h; rw [dec, if_pos (by omega)]; simp
  | succ k ih =>
    intro n h
    rw [dec]
    split
    · simp
    · have := ih (n / 10) (by rw [Nat.pow_succ] at h; omega)
      simp; omega

theorem _root_.ByteArray.mk_append_mk' (a b : List UInt8) : (({ data := a.toArray } : ByteArray) ++ { data := b.toArray }) = { data := (a ++ b).toArray } := ByteArray.mk_append_mk a b

def IntInv (n k : Int) (l : Bs) : Prop := (l = [] ∧ k = n) ∨ (l ≠ [] ∧ decZ k.natAbs ++ l = dec n.natAbs)
theorem IntInv.step {n k k' : Int} {l : Bs} {d : Nat} (h : IntInv n k l) (hg : l = [] ∨ k ≠ 0) (hd : d = k.natAbs % 10) (hk : k'.natAbs = k.natAbs / 10) : IntInv n k' (digit d :: l) := by
  refine .inr ⟨by simp, ?_⟩
  rw [hk, hd, digit_mod]
  rcases h with ⟨rfl, rfl⟩ | ⟨h1, h2⟩
  · by_cases h0 : k.natAbs = 0
    · rw [h0]; simp [decZ, dec_zero]
    · rw [← decZ_step _ h0]; simp [decZ, h0]
  · have hk0 : k ≠ 0 := by
      rcases hg with h | h
      · exact absurd h h1
      · exact h
    rw [← h2, decZ_step k.natAbs (by omega)]
    simp
theorem IntInv.len {n k : Int} {l : Bs} (h : IntInv n k l) (h0 : -9223372036854775808 ≤ n) (h1 : n ≤ 9223372036854775807) : l.length ≤ 20 := by
  rcases h with ⟨rfl, _⟩ | ⟨_, h2⟩
  · simp
  · have := congrArg List.length h2
    have h3 := dec_len 19 n.natAbs (by omega)
    rw [List.length_append] at this
    omega
theorem IntInv.done {n : Int} {l : Bs} (h : IntInv n 0 l) (hl : l ≠ []) : l = dec n.natAbs := by
  rcases h with ⟨h, _⟩ | ⟨_, h2⟩
  · exact absurd h hl
  · simpa [decZ] using h2
theorem int_meas (k k' : Int) (q d : Nat) (l : Bs) (hk' : k'.natAbs = q) (h : (q : Int) < k.natAbs ∨ (q : Int) = k.natAbs ∧ l = []) :
    2 * (intOf (.int .i64 k')).natAbs + (match Value.string (({ data := #[digit d] } : ByteArray) ++ { data := l.toArray }) with | .string b => if b.size = 0 then 1 else 0 | _ => 0) < 2 * (intOf (.int .i64 k)).natAbs + (match Value.string ⟨l.toArray⟩ with | .string b => if b.size = 0 then 1 else 0 | _ => 0) := by
  rw [ByteArray.mk_append_mk' [digit d] l]
  have e1 : (⟨([digit d] ++ l).toArray⟩ : ByteArray).size = l.length + 1 := by simp [ByteArray.size]
  have e2 : (⟨l.toArray⟩ : ByteArray).size = l.length := rfl
  simp only [intOf, e1, e2, hk']
  rcases h with h | ⟨h, rfl⟩
  · split <;> simp <;> omega
  · simp; omega
end Go.Proofs.Ytjbfncjdedigdaa
/- Blocks by commands, as plain lists: what one command does to a disk, and its answer. -/
namespace Go.Proofs.Ytjbfncjdedigdaa
open Go.RowKit

structure An where
  st : Int
  tx : Bs
def anA (x : An) : Array Value := #[.int .i64 x.st, S x.tx]
def AV (x : An) : Value := .agg (anA x)
def rangeI (ys : List Int) (c : Cm) : Bool := decide ((ys.length : Int) ≤ c.p) || (decide (c.o = 2) && !valOk c.a) || (decide (c.o = 3) && !valOk c.b)
def atI (ys : List Int) (c : Cm) : Int := ys.getD c.p.toNat 0
def didI (xs ys : List Int) (c : Cm) : List Int × List Int × An :=
  if c.o = 5 then (ys, ys, ⟨0, []⟩)
  else if rangeI ys c then (xs, ys, ⟨1, []⟩)
  else if c.o = 1 then (xs, ys, ⟨0, decI (atI ys c)⟩)
  else if c.o = 2 then (xs, ys.set c.p.toNat c.a, ⟨0, []⟩)
  else if c.o = 3 then (if atI ys c = c.a then (xs, ys.set c.p.toNat c.b, ⟨0, []⟩) else (xs, ys, ⟨2, decI (atI ys c)⟩))
  else (xs, ys.set c.p.toNat 0, ⟨0, []⟩)
def didD (xs ys : List Int) (c : Cm) : List Int × List Int × An :=
  if bothOk xs ys then (if c.ok && decide (c.o ≤ 5) then didI xs ys c else (xs, ys, ⟨7, []⟩)) else ([], [], ⟨7, []⟩)

theorem Cm.ok_vol {c : Cm} (h : c.ok = true) (h5 : c.o ≤ 5) : (c.o = 1 ∨ c.o = 2 ∨ c.o = 3 ∨ c.o = 4 ∨ c.o = 5) ∧ 0 ≤ c.p := by
  obtain ⟨o, p, a, b, k⟩ := c
  have hb := Cm.ok_byt h
  unfold Cm.ok Cm.told at h
  dsimp only at h h5
  simp only [Bool.and_eq_true, inI_iff] at h
  unfold Cm.Byt at hb
  dsimp only at hb
  dsimp only
  omega
theorem didI_len (xs ys : List Int) (c : Cm) (h : xs.length ≤ 1048576) (h' : ys.length ≤ 1048576) : (didI xs ys c).1.length ≤ 1048576 ∧ (didI xs ys c).2.1.length ≤ 1048576 := by
  unfold didI
  split
  · exact ⟨h', h'⟩
  · split
    · exact ⟨h, h'⟩
    · split
      · exact ⟨h, h'⟩
      · split
        · exact ⟨h, by simpa using h'⟩
        · split
          · split
            · exact ⟨h, by simpa using h'⟩
            · exact ⟨h, h'⟩
          · exact ⟨h, by simpa using h'⟩
theorem didD_len (xs ys : List Int) (c : Cm) (h : xs.length ≤ 1048576) (h' : ys.length ≤ 1048576) : (didD xs ys c).1.length ≤ 1048576 ∧ (didD xs ys c).2.1.length ≤ 1048576 := by
  unfold didD
  split
  · split
    · exact didI_len xs ys c h h'
    · exact ⟨h, h'⟩
  · simp
end Go.Proofs.Ytjbfncjdedigdaa
/- Lists of strings in memory: 'ReadsS', 'OwnS'; what eqStringS, likeTexts, markText, markStringS and heldStringS answer. -/
namespace Go.Proofs.Ytjbfncjdedigdaa
open Go.ChangeShapes Go.WideShapes Go.ChangeAt Go.RowKit

def ReadsS (w : World) (v : Value) (xs : List Bs) : Prop :=
  ∃ ao cap, v = .slice ao xs.length cap ∧ xs.length ≤ cap ∧ (cap ≤ maxLen ∧ (ao = none → cap = 0)) ∧
    (xs = [] ∨ ∃ b off, ao = some ⟨b, off, none⟩ ∧ ∀ j, j < xs.length → w.cell? ⟨b, off + j, none⟩ = some (S (xs.getD j [])))
def OwnS (w : World) (base : Nat) (v : Value) (xs : List Bs) : Prop :=
  w.ownsRow base 9 1 v xs.length (xs.map S)

theorem OwnS.nil (w : World) (base : Nat) : OwnS w base (.slice none 0 0) [] := World.ownsRow_nil w base _ _
theorem OwnS.reads {w : World} {base : Nat} {v : Value} {xs : List Bs} (h : OwnS w base v xs) : ReadsS w v xs := by
  rcases h.2 with ⟨rfl, h0⟩ | ⟨g, cap, cur, rfl, hb, hg, hnc, hcm, hcs, ht⟩
  · have e : xs = [] := List.eq_nil_of_length_eq_zero h0
    subst e
    exact ⟨none, 0, rfl, Nat.le_refl _, ⟨Nat.zero_le _, fun _ => rfl⟩, .inl rfl⟩
  · refine ⟨_, cap, rfl, hnc, ⟨hcm, fun e => by cases e⟩, .inr ⟨g, 0, rfl, fun j hj => ?_⟩⟩
    have := World.ownsRow.cellAt (w := w) h j (by omega)
    rw [Nat.zero_add, this]
    simp [List.getD, hj]
theorem OwnS.mono {w : World} {base base' : Nat} {v : Value} {xs : List Bs} (h : OwnS w base v xs) (hb : base' ≤ base) : OwnS w base' v xs := by
  refine ⟨h.1, ?_⟩
  rcases h.2 with h' | ⟨g, cap, cur, e, hg, r⟩
  · exact .inl h'
  · exact .inr ⟨g, cap, cur, e, Nat.le_trans hb hg, r⟩
theorem OwnS.lt {w : World} {base : Nat} {v : Value} {xs : List Bs} (h : OwnS w base v xs) : ∀ k, v.ownBlock = some k → base ≤ k ∧ k < w.heap.size := World.ownsRow.lt h
theorem OwnS.frame {w w' : World} {base : Nat} {v : Value} {xs : List Bs} (h : OwnS w base v xs) (e : ∀ b ∈ v.ownBlock.toList, w'.heap[b]? = w.heap[b]?) : OwnS w' base v xs := by
  refine ⟨h.1, ?_⟩
  rcases h.2 with h' | ⟨g, cap, cur, rfl, hb, hg, r⟩
  · exact .inl h'
  · exact .inr ⟨g, cap, cur, rfl, hb, (e g (by simp [Value.ownBlock])).trans hg, r⟩
theorem OwnS.below {w w' : World} {base : Nat} {v : Value} {xs : List Bs} (h : OwnS w base v xs) (hb : Below w.heap.size w w') : OwnS w' base v xs :=
  h.frame (fun b hm => hb.block b (h.lt b (by simpa using hm)).2)
theorem OwnS.kept {w w' : World} {base : Nat} {v : Value} {row : Option Nat} {xs : List Bs} (h : OwnS w base v xs) (hg : w.grownBy w' row) (hne : v.ownBlock = none ∨ v.ownBlock ≠ row) : OwnS w' base v xs :=
  World.ownsRow.kept h hg hne
theorem ReadsS.below {w w' : World} {B : Nat} {v : Value} {xs : List Bs} (h : ReadsS w v xs) (hb : Below B w w') (hB : w.heap.size ≤ B) : ReadsS w' v xs := by
  obtain ⟨ao, cap, rfl, h1, h2, h3⟩ := h
  refine ⟨ao, cap, rfl, h1, h2, ?_⟩
  rcases h3 with h3 | ⟨b, off, rfl, h4⟩
  · exact .inl h3
  · refine .inr ⟨b, off, rfl, fun j hj => ?_⟩
    have h5 := h4 j hj
    have h6 := World.block_lt_of_cell? w _ h5
    rw [hb.cell (p := ⟨b, off + j, none⟩) (Nat.lt_of_lt_of_le h6 hB)]
    exact h5

theorem takeS_snoc (xs : List Bs) (j : Nat) (h : j < xs.length) : xs.take (j + 1) = xs.take j ++ [xs.getD j []] := by
  rw [List.take_succ_eq_append_getElem h]; simp [List.getD, h]
theorem takeS_step {xs ys : List Bs} {j : Nat} (h : xs.take j = ys.take j) (hx : j < xs.length) (hy : j < ys.length) (e : xs.getD j [] = ys.getD j []) : xs.take (j + 1) = ys.take (j + 1) := by
  rw [takeS_snoc xs j hx, takeS_snoc ys j hy, h, e]
theorem neS_of_getD {xs ys : List Bs} {j : Nat} (e : xs.getD j [] ≠ ys.getD j []) : xs ≠ ys := fun h => e (by rw [h])

def mtext (k : Nat) : Bs := 109 :: dec k
end Go.Proofs.Ytjbfncjdedigdaa
/- Lists of strings are marked and looked at again: markStringS, heldStringS; one more string behind a list. -/
namespace Go.Proofs.Ytjbfncjdedigdaa
open Go.ChangeShapes Go.WideShapes Go.ChangeAt Go.RowKit

def marksS (k : Nat) (n : Nat) : List Bs := (List.range n).map fun j => mtext (k + j)
theorem marksS_length (k n : Nat) : (marksS k n).length = n := by simp [marksS]
theorem marksS_getD (k n j : Nat) (h : j < n) : (marksS k n).getD j [] = mtext (k + j) := by simp [marksS, List.getD, h]
theorem marksS_step (k : Nat) (xs : List Bs) (j : Nat) (h : j < xs.length) : ((marksS k j ++ xs.drop j).set j (mtext (k + j))) = marksS k (j + 1) ++ xs.drop (j + 1) := by
  rw [List.set_append_right _ _ (by simp [marksS_length]), marksS_length, Nat.sub_self]
  rw [List.drop_eq_getElem_cons h, List.set_cons_zero]
  simp [marksS, List.range_succ]
theorem marksS_all (k : Nat) (xs : List Bs) : marksS k xs.length ++ xs.drop xs.length = marksS k xs.length := by simp
theorem OwnS.put {w : World} {base g n cap : Nat} {xs : List Bs} (h : OwnS w base (.slice (some ⟨g, 0, none⟩) n cap) xs) (hn : n = xs.length) (j : Nat) (hj : j < n) (x : Bs) :
    w.frozen? ⟨g, j, none⟩ = false ∧ (∃ y, w.cell? ⟨g, j, none⟩ = some y) ∧ OwnS (w.setCell ⟨g, j, none⟩ (S x)) base (.slice (some ⟨g, 0, none⟩) n cap) (xs.set j x) := by
  subst hn
  have hown : w.ownsRow base 9 1 (.slice (some ⟨g, 0, none⟩) xs.length cap) xs.length (xs.map S) := h
  refine ⟨World.ownsRow.frozenAt hown j, ?_, ?_⟩
  · rw [World.ownsRow.cellAt hown j (by omega)]
    exact ⟨_, List.getElem?_eq_getElem (by simpa using hj)⟩
  · have := (World.ownsRow.stored hown j (S x)).1
    rw [← List.map_set] at this
    unfold OwnS
    rwa [List.length_set]
theorem grownSetS (w : World) (g j : Nat) (x : Value) : w.grownBy (w.setCell ⟨g, j, none⟩ x) (some g) :=
  ⟨rfl, rfl, rfl, by simp, fun k _ hk => heap_setCell_other w ⟨g, j, none⟩ k x (fun e => hk (by simp [e]))⟩
theorem grown_below {w w' w'' : World} {row : Option Nat} (h : w.grownBy w' row) (b : Below w'.heap.size w' w'') : w.grownBy w'' row :=
  ⟨b.os.trans h.os, b.tape.trans h.tape, b.output.trans h.output, Nat.le_trans h.size b.size, fun k hk hne => (b.block k (Nat.lt_of_lt_of_le hk h.size)).trans (h.block k hk hne)⟩
end Go.Proofs.Ytjbfncjdedigdaa
/- Texts are split: what l1Split of the model answers. -/
namespace Go.Proofs.Ytjbfncjdedigdaa
open Go.ChangeShapes Go.WideShapes Go.ChangeAt Go.RowKit

def ahead (a : Bs) : List Bs → List Bs
  | [] => [a]
  | p :: ps => (a ++ p) :: ps
def splitB (c : UInt8) : Bs → List Bs
  | [] => [[]]
  | b :: t => if b = c then [] :: splitB c t else ahead [b] (splitB c t)
theorem ahead_ahead (a b : Bs) (l : List Bs) (h : l ≠ []) : ahead a (ahead b l) = ahead (a ++ b) l := by
  cases l with
  | nil => exact absurd rfl h
  | cons p ps => simp [ahead]
theorem ahead_nil (l : List Bs) (h : l ≠ []) : ahead [] l = l := by
  cases l with
  | nil => exact absurd rfl h
  | cons p ps => rfl
theorem ahead_ne (a : Bs) (l : List Bs) : ahead a l ≠ [] := by cases l <;> simp [ahead]
theorem splitB_ne (c : UInt8) (l : Bs) : splitB c l ≠ [] := by
  cases l with
  | nil => simp [splitB]
  | cons b t => rw [splitB]; split; simp; exact ahead_ne _ _

def cutB (l : Bs) (a b : Nat) : Bs := (l.take b).drop a
theorem cutB_len (l : Bs) (a b : Nat) (h : b ≤ l.length) : (cutB l a b).length = b - a := by simp [cutB]; omega
theorem cutB_snoc (l : Bs) (a b : Nat) (h : a ≤ b) (hb : b < l.length) : cutB l a (b + 1) = cutB l a b ++ [l[b]] := by
  unfold cutB
  rw [take_snocB l b hb, List.drop_append_of_le_length (by simp; omega)]
theorem cutB_self (l : Bs) (a : Nat) : cutB l a a = [] := by
  unfold cutB
  rw [List.drop_eq_nil_of_le (by simp; omega)]
theorem extract_cut (l : Bs) (a b : Nat) : (⟨l.toArray⟩ : ByteArray).extract a b = ⟨(cutB l a b).toArray⟩ := by
  apply ByteArray.ext
  rw [ByteArray.data_extract]
  simp [cutB, List.extract_toArray, List.drop_take]

def SplitInv (c : UInt8) (l : Bs) (out : List Bs) (a i : Nat) : Prop := a ≤ i ∧ splitB c l = out ++ ahead (cutB l a i) (splitB c (l.drop i))
theorem SplitInv.start (c : UInt8) (l : Bs) : SplitInv c l [] 0 0 := ⟨Nat.le_refl _, by rw [cutB_self, List.drop_zero, ahead_nil _ (splitB_ne _ _)]; rfl⟩
theorem SplitInv.hit {c : UInt8} {l : Bs} {out : List Bs} {a i : Nat} (h : SplitInv c l out a i) (hi : i < l.length) (hc : l[i] = c) : SplitInv c l (out ++ [cutB l a i]) (i + 1) (i + 1) := by
  refine ⟨Nat.le_refl _, ?_⟩
  rw [h.2, List.drop_eq_getElem_cons hi, splitB, if_pos hc, cutB_self, ahead_nil _ (splitB_ne _ _)]
  simp [ahead]
theorem SplitInv.miss {c : UInt8} {l : Bs} {out : List Bs} {a i : Nat} (h : SplitInv c l out a i) (hi : i < l.length) (hc : l[i] ≠ c) : SplitInv c l out a (i + 1) := by
  refine ⟨by have := h.1; omega, ?_⟩
  rw [h.2, List.drop_eq_getElem_cons hi, splitB, if_neg hc, ahead_ahead _ _ _ (splitB_ne _ _), cutB_snoc l a i h.1 hi]
theorem SplitInv.done {c : UInt8} {l : Bs} {out : List Bs} {a : Nat} (h : SplitInv c l out a l.length) : splitB c l = out ++ [cutB l a l.length] := by
  rw [h.2]
  simp [splitB, ahead]

theorem Try.infoS : (Try.prog.info? 9).map (fun i => (i.zero, i.size, i.bytes)) = some (some (.string ⟨#[]⟩), 1, 16) := by kernel_rfl
theorem litS1 (w : World) (x : Bs) : ∀ j u, ([S x])[j]? = some u → (w.alloc (.cells #[S x] 9)).cell? ((⟨w.heap.size, 0, none⟩ : Addr).add j) = some u := by
  intro j u hj
  match j, hj with
  | 0, hj => simp at hj; subst hj; simp [Addr.add]
theorem mapS_one (xs : List Bs) (a : Bs) : xs.map S ++ [S a] = (xs ++ [a]).map S := by simp
theorem appendS {w wr w' : World} {o v' : Value} {out : List Bs} {x : Bs} {ob : Obj} (hO : OwnS wr w.heap.size o out) (hB : Below w.heap.size w wr)
    (hown : w'.ownsRow w.heap.size 9 1 v' (out.length + 1) (out.map S ++ [S x])) (hg : (wr.alloc ob).grownBy w' o.ownBlock) : OwnS w' w.heap.size v' (out ++ [x]) ∧ Below w.heap.size w w' := by
  refine ⟨?_, (hB.alloc hB.size ob).grown hg (by simp; have := hB.size; omega) (fun k e => (hO.lt k e).1)⟩
  unfold OwnS
  rw [← mapS_one]
  simpa using hown
end Go.Proofs.Ytjbfncjdedigdaa
