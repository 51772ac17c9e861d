/- Numbers in decimal digits: what l1Int of the model answers. -/
import Derived.Test.YtlkkpolnllbljaaGreatDoorM1
import Derived.Below
import Derived.Laws.OwnMore
import Derived.Deep.AppendLies
import Derived.Deep.QuietTactic
import Derived.OwnWalk
import Derived.Deep.RegionHeld3
namespace Go.Proofs.YtlkkpolnllbljaaGreatDoor
open Go.ChangeShapes Go.WideShapes Go.ChangeAt Go.RowKit

def digit (n : Nat) : UInt8 := UInt8.ofNat (48 + n % 10)
def dec (n : Nat) : Bs := if n < 10 then [digit n] else dec (n / 10) ++ [digit n]
def decI (n : Int) : Bs := if n < 0 then 45 :: dec n.natAbs else dec n.natAbs
/- What is still to be written ahead: nothing of 0. -/
def decZ (n : Nat) : Bs := if n = 0 then [] else dec n
theorem decZ_step (n : Nat) (h : n ≠ 0) : decZ n = decZ (n / 10) ++ [digit n] := by
  unfold decZ
  rw [if_neg h, dec]
  by_cases h10 : n < 10
  · rw [if_pos h10, if_pos (by omega)]; rfl
  · rw [if_neg h10, if_neg (by omega)]
theorem dec_zero : dec 0 = [digit 0] := by rw [dec]; rfl

theorem parts_neg (k : Int) (h : k < 0) : k.tmod 10 = -((k.natAbs % 10 : Nat) : Int) ∧ k.tdiv 10 = -((k.natAbs / 10 : Nat) : Int) := by
  obtain ⟨m, rfl⟩ : ∃ m : Nat, k = -(m : Int) := ⟨k.natAbs, by omega⟩
  rw [Int.neg_tmod, Int.neg_tdiv, Int.natAbs_neg, Int.natAbs_natCast]
  constructor <;> rfl
theorem parts_pos (k : Int) (h : 0 ≤ k) : k.tmod 10 = ((k.natAbs % 10 : Nat) : Int) ∧ k.tdiv 10 = ((k.natAbs / 10 : Nat) : Int) := by
  obtain ⟨m, rfl⟩ : ∃ m : Nat, k = (m : Int) := ⟨k.natAbs, by omega⟩
  rw [Int.natAbs_natCast]
  constructor <;> rfl
theorem digit_at (d : Nat) (h : d ≤ 9) : ((digit d).toNat : Int) = 48 + (d : Int) := by
  have : (digit d).toNat = 48 + d % 10 := by unfold digit; rw [UInt8.toNat_ofNat']; omega
  rw [this]; omega
theorem conv1 (w : World) (d : Nat) (h : d ≤ 9) : (convert 121 9 (.slice (some ⟨w.heap.size, 0, none⟩) 1 1)).run Tryz.prog (w.alloc (.cells #[.int .u8 (48 + (d : Int))] 5)) = .ok (.string ⟨#[digit d]⟩) (w.alloc (.cells #[.int .u8 (48 + (d : Int))] 5)) := by
  have := run_convert_bytes_back (P := Tryz.prog) (w.alloc (.cells #[.int .u8 (48 + (d : Int))] 5)) 121 9 5 ⟨w.heap.size, 0, none⟩ 1 [digit d] Tryz.underlying121 Tryz.underlying5 Tryz.underlying9 (by
    intro j hj
    have e : j = 0 := by simpa using hj
    subst e
    have h1 : (w.alloc (.cells #[.int .u8 (48 + (d : Int))] 5)).heap[w.heap.size]? = some (.cells #[.int .u8 (48 + (d : Int))] 5) := heap_alloc_new w _
    have h2 := cell_of_row _ w.heap.size 0 _ _ _ h1
    have h3 : ((([digit d] : List UInt8)[0]).toNat : Int) = 48 + (d : Int) := digit_at d h
    rw [h3]
    exact h2)
  exact this
theorem digit_mod (n : Nat) : digit (n % 10) = digit n := by unfold digit; rw [Nat.mod_mod]
theorem dec_len (k : Nat) : ∀ n, n < 10 ^ (k + 1) → (dec n).length ≤ k + 1 := by
  induction k with
  | zero => intro n h; rw [dec, if_pos (by omega)]; simp
  | succ k ih =>
    intro n h
    rw [dec]
    split
    · simp
    · have := ih (n / 10) (by rw [Nat.pow_succ] at h; omega)
      simp; omega

theorem _root_.ByteArray.mk_append_mk' (a b : List UInt8) : (({ data := a.toArray } : ByteArray) ++ { data := b.toArray }) = { data := (a ++ b).toArray } := ByteArray.mk_append_mk a b

def IntInv (n k : Int) (l : Bs) : Prop := (l = [] ∧ k = n) ∨ (l ≠ [] ∧ decZ k.natAbs ++ l = dec n.natAbs)
theorem IntInv.step {n k k' : Int} {l : Bs} {d : Nat} (h : IntInv n k l) (hg : l = [] ∨ k ≠ 0) (hd : d = k.natAbs % 10) (hk : k'.natAbs = k.natAbs / 10) : IntInv n k' (digit d :: l) := by
  refine .inr ⟨by simp, ?_⟩
  rw [hk, hd, digit_mod]
  rcases h with ⟨rfl, rfl⟩ | ⟨h1, h2⟩
  · by_cases h0 : k.natAbs = 0
    · rw [h0]; simp [decZ, dec_zero]
    · rw [← decZ_step _ h0]; simp [decZ, h0]
  · have hk0 : k ≠ 0 := by
      rcases hg with h | h
      · exact absurd h h1
      · exact h
    rw [← h2, decZ_step k.natAbs (by omega)]
    simp
theorem IntInv.len {n k : Int} {l : Bs} (h : IntInv n k l) (h0 : -9223372036854775808 ≤ n) (h1 : n ≤ 9223372036854775807) : l.length ≤ 20 := by
  rcases h with ⟨rfl, _⟩ | ⟨_, h2⟩
  · simp
  · have := congrArg List.length h2
    have h3 := dec_len 19 n.natAbs (by omega)
    rw [List.length_append] at this
    omega
theorem IntInv.done {n : Int} {l : Bs} (h : IntInv n 0 l) (hl : l ≠ []) : l = dec n.natAbs := by
  rcases h with ⟨h, _⟩ | ⟨_, h2⟩
  · exact absurd h hl
  · simpa [decZ] using h2
theorem int_meas (k k' : Int) (q d : Nat) (l : Bs) (hk' : k'.natAbs = q) (h : (q : Int) < k.natAbs ∨ (q : Int) = k.natAbs ∧ l = []) :
    2 * (intOf (.int .i64 k')).natAbs + (match Value.string (({ data := #[digit d] } : ByteArray) ++ { data := l.toArray }) with | .string b => if b.size = 0 then 1 else 0 | _ => 0) < 2 * (intOf (.int .i64 k)).natAbs + (match Value.string ⟨l.toArray⟩ with | .string b => if b.size = 0 then 1 else 0 | _ => 0) := by
  rw [ByteArray.mk_append_mk' [digit d] l]
  have e1 : (⟨([digit d] ++ l).toArray⟩ : ByteArray).size = l.length + 1 := by simp [ByteArray.size]
  have e2 : (⟨l.toArray⟩ : ByteArray).size = l.length := rfl
  simp only [intOf, e1, e2, hk']
  rcases h with h | ⟨h, rfl⟩
  · split <;> simp <;> omega
  · simp; omega

set_option maxRecDepth 20000 in
set_option maxHeartbeats 1000000 in
theorem sint_any (n : Int) (w : World) (h0 : -9223372036854775808 ≤ n) (h1 : n ≤ 9223372036854775807) :
    Calls Tryz.prog 57 #[.int .i64 n] w fun e w' => e = .returned (S (decI n)) ∧ Below w.heap.size w w' := by
  unfold S
  go_enter Tryz.func57, Tryz.ntmps57
  go_wp2
  go_loopw [0, 3] (fun m s wr => ∃ (k : Int) (l : Bs), m = .int .i64 k ∧ s = .string ⟨l.toArray⟩ ∧ -9223372036854775808 ≤ k ∧ k ≤ 9223372036854775807 ∧ Hid (IntInv n k l ∧ Below w.heap.size w wr)) (fun m s _ => 2 * (intOf m).natAbs + (match s with | .string b => if b.size = 0 then 1 else 0 | _ => 0))
  case atStart => exact ⟨n, [], rfl, rfl, h0, h1, .inl ⟨rfl, rfl⟩, Below.refl _ _⟩
  case round =>
    obtain ⟨k, l, rfl, rfl, hk0, hk1, HI⟩ := hrel
    have hl20 := HI.out.1.len h0 h1
    have hsz : (⟨l.toArray⟩ : ByteArray).size = l.length := rfl
    by_cases hend : l ≠ [] ∧ k = 0
    · obtain ⟨hl, rfl⟩ := hend
      have HE : Hid (l = dec n.natAbs) := HI.out.1.done hl
      have hie : l.isEmpty = false := by simpa using hl
      clear hl
      by_cases hneg : n < 0
      · go_wp2
        go_ret
        refine ⟨congrArg (fun x => Ending.returned (Value.string x)) ?_, HI.out.2⟩
        rw [ByteArray.mk_append_mk' [45] l, decI, if_pos hneg, ← HE.out]
        rfl
      · go_wp2
        go_ret
        refine ⟨congrArg (fun x => Ending.returned (Value.string ⟨List.toArray x⟩)) ?_, HI.out.2⟩
        rw [decI, if_neg (by omega), ← HE.out]
    · have hg : l = [] ∨ k ≠ 0 := by
        by_cases h : l = []
        · exact .inl h
        · exact .inr (fun e => hend ⟨h, e⟩)
      clear hend
      obtain ⟨d, hd⟩ : ∃ d : Nat, d = k.natAbs % 10 := ⟨_, rfl⟩
      obtain ⟨q, hq⟩ : ∃ q : Nat, q = k.natAbs / 10 := ⟨_, rfl⟩
      have hd9 : (d : Int) ≤ 9 := by omega
      have hq9 : (q : Int) ≤ 922337203685477580 := by omega
      have hconv := conv1 wr d (by omega)
      have HM : Hid ((q : Int) < k.natAbs ∨ (q : Int) = k.natAbs ∧ l = []) := by
        rcases hg with h | h
        · by_cases h0 : k = 0
          · exact .inr ⟨by subst h0; simp at hq; omega, h⟩
          · exact .inl (by omega)
        · exact .inl (by omega)
      have HS : Hid (∀ k' : Int, k'.natAbs = q → IntInv n k' (digit d :: l)) := fun k' e => HI.out.1.step hg hd (by rw [e, hq])
      have HB : Hid (Below w.heap.size w (wr.alloc (.cells #[.int .u8 (48 + (d : Int))] 5))) := HI.out.2.alloc HI.out.2.size _
      have hgo : l.isEmpty = true ∨ (l.isEmpty = false ∧ (k != 0) = true) := by
        by_cases h : l = []
        · exact .inl (by simp [h])
        · refine .inr ⟨by simpa using h, ?_⟩
          rcases hg with h' | h'
          · exact absurd h' h
          · simpa using h'
      have key : ∀ k' : Int, k'.natAbs = q → (∃ (k : Int) (l_1 : Bs), Value.int .i64 k' = Value.int .i64 k ∧ Value.string (({ data := #[digit d] } : ByteArray) ++ { data := l.toArray }) = .string ⟨l_1.toArray⟩ ∧ -9223372036854775808 ≤ k ∧ k ≤ 9223372036854775807 ∧ Hid (IntInv n k l_1 ∧ Below w.heap.size w (wr.alloc (.cells #[.int .u8 (48 + (d : Int))] 5)))) := fun k' e =>
        ⟨k', digit d :: l, rfl, by rw [ByteArray.mk_append_mk' [digit d] l]; rfl, by omega, by omega, HS.out k' e, HB.out⟩
      have hlen : Hid ((⟨l.toArray⟩ : ByteArray).size = l.length) := rfl
      have kneg : ∀ e : (k < 0), k.tmod 10 = -(d : Int) ∧ k.tdiv 10 = -(q : Int) := fun e => by rw [hd, hq]; exact parts_neg k e
      have kpos : ∀ e : (0 ≤ k), k.tmod 10 = (d : Int) ∧ k.tdiv 10 = (q : Int) := fun e => by rw [hd, hq]; exact parts_pos k e
      clear hd hq hg
      rcases hgo with hie | ⟨hie, hkn⟩
      all_goals
        by_cases hneg : k < 0
        · obtain ⟨hmod, hdiv⟩ := kneg hneg
          clear kneg kpos
          by_cases hd0 : 0 < (d : Int)
          · go_wp2
            go_roundw
            case rel => exact key (-(q : Int)) (by omega)
            case measure => exact int_meas k _ q _ l (by omega) HM.out
          · obtain rfl : d = 0 := by omega
            have e48 : (48 : Int) + ((0 : Nat) : Int) = 48 := rfl
            rw [e48] at hconv
            simp only [e48] at key
            go_wp2
            go_roundw
            case rel => exact key (-(q : Int)) (by omega)
            case measure => exact int_meas k _ q _ l (by omega) HM.out
        · obtain ⟨hmod, hdiv⟩ := kpos (by omega)
          clear kneg kpos
          go_wp2
          go_roundw
          case rel => exact key (q : Int) (by omega)
          case measure => exact int_meas k _ q _ l (by omega) HM.out
end Go.Proofs.YtlkkpolnllbljaaGreatDoor
/- Blocks by commands, as plain lists: what one command does to a disk, and its answer. -/
namespace Go.Proofs.YtlkkpolnllbljaaGreatDoor
open Go.RowKit

structure An where
  st : Int
  tx : Bs
def anA (x : An) : Array Value := #[.int .i64 x.st, S x.tx]
def AV (x : An) : Value := .agg (anA x)
def rangeI (ys : List Int) (c : Cm) : Bool := decide ((ys.length : Int) ≤ c.p) || (decide (c.o = 2) && !valOk c.a) || (decide (c.o = 3) && !valOk c.b)
def atI (ys : List Int) (c : Cm) : Int := ys.getD c.p.toNat 0
def didI (xs ys : List Int) (c : Cm) : List Int × List Int × An :=
  if c.o = 5 then (ys, ys, ⟨0, []⟩)
  else if rangeI ys c then (xs, ys, ⟨1, []⟩)
  else if c.o = 1 then (xs, ys, ⟨0, decI (atI ys c)⟩)
  else if c.o = 2 then (xs, ys.set c.p.toNat c.a, ⟨0, []⟩)
  else if c.o = 3 then (if atI ys c = c.a then (xs, ys.set c.p.toNat c.b, ⟨0, []⟩) else (xs, ys, ⟨2, decI (atI ys c)⟩))
  else (xs, ys.set c.p.toNat 0, ⟨0, []⟩)
def didD (xs ys : List Int) (c : Cm) : List Int × List Int × An :=
  if bothOk xs ys then (if c.ok && decide (c.o ≤ 5) then didI xs ys c else (xs, ys, ⟨7, []⟩)) else ([], [], ⟨7, []⟩)

theorem Cm.ok_vol {c : Cm} (h : c.ok = true) (h5 : c.o ≤ 5) : (c.o = 1 ∨ c.o = 2 ∨ c.o = 3 ∨ c.o = 4 ∨ c.o = 5) ∧ 0 ≤ c.p := by
  obtain ⟨o, p, a, b, k⟩ := c
  have hb := Cm.ok_byt h
  unfold Cm.ok Cm.told at h
  dsimp only at h h5
  simp only [Bool.and_eq_true, inI_iff] at h
  unfold Cm.Byt at hb
  dsimp only at hb
  dsimp only
  omega
theorem didI_len (xs ys : List Int) (c : Cm) (h : xs.length ≤ 1048576) (h' : ys.length ≤ 1048576) : (didI xs ys c).1.length ≤ 1048576 ∧ (didI xs ys c).2.1.length ≤ 1048576 := by
  unfold didI
  split
  · exact ⟨h', h'⟩
  · split
    · exact ⟨h, h'⟩
    · split
      · exact ⟨h, h'⟩
      · split
        · exact ⟨h, by simpa using h'⟩
        · split
          · split
            · exact ⟨h, by simpa using h'⟩
            · exact ⟨h, h'⟩
          · exact ⟨h, by simpa using h'⟩
theorem didD_len (xs ys : List Int) (c : Cm) (h : xs.length ≤ 1048576) (h' : ys.length ≤ 1048576) : (didD xs ys c).1.length ≤ 1048576 ∧ (didD xs ys c).2.1.length ≤ 1048576 := by
  unfold didD
  split
  · split
    · exact didI_len xs ys c h h'
    · exact ⟨h, h'⟩
  · simp
end Go.Proofs.YtlkkpolnllbljaaGreatDoor
/- Lists of strings in memory: 'ReadsS', 'OwnS'; what eqStringS, likeTexts, markText, markStringS and heldStringS answer. -/
namespace Go.Proofs.YtlkkpolnllbljaaGreatDoor
open Go.ChangeShapes Go.WideShapes Go.ChangeAt Go.RowKit

def ReadsS (w : World) (v : Value) (xs : List Bs) : Prop :=
  ∃ ao cap, v = .slice ao xs.length cap ∧ xs.length ≤ cap ∧ (cap ≤ maxLen ∧ (ao = none → cap = 0)) ∧
    (xs = [] ∨ ∃ b off, ao = some ⟨b, off, none⟩ ∧ ∀ j, j < xs.length → w.cell? ⟨b, off + j, none⟩ = some (S (xs.getD j [])))
def OwnS (w : World) (base : Nat) (v : Value) (xs : List Bs) : Prop :=
  w.ownsRow base 9 1 v xs.length (xs.map S)

theorem OwnS.nil (w : World) (base : Nat) : OwnS w base (.slice none 0 0) [] := World.ownsRow_nil w base _ _
theorem OwnS.reads {w : World} {base : Nat} {v : Value} {xs : List Bs} (h : OwnS w base v xs) : ReadsS w v xs := by
  rcases h.2 with ⟨rfl, h0⟩ | ⟨g, cap, cur, rfl, hb, hg, hnc, hcm, hcs, ht⟩
  · have e : xs = [] := List.eq_nil_of_length_eq_zero h0
    subst e
    exact ⟨none, 0, rfl, Nat.le_refl _, ⟨Nat.zero_le _, fun _ => rfl⟩, .inl rfl⟩
  · refine ⟨_, cap, rfl, hnc, ⟨hcm, fun e => by cases e⟩, .inr ⟨g, 0, rfl, fun j hj => ?_⟩⟩
    have := World.ownsRow.cellAt (w := w) h j (by omega)
    rw [Nat.zero_add, this]
    simp [List.getD, hj]
theorem OwnS.mono {w : World} {base base' : Nat} {v : Value} {xs : List Bs} (h : OwnS w base v xs) (hb : base' ≤ base) : OwnS w base' v xs := by
  refine ⟨h.1, ?_⟩
  rcases h.2 with h' | ⟨g, cap, cur, e, hg, r⟩
  · exact .inl h'
  · exact .inr ⟨g, cap, cur, e, Nat.le_trans hb hg, r⟩
theorem OwnS.lt {w : World} {base : Nat} {v : Value} {xs : List Bs} (h : OwnS w base v xs) : ∀ k, v.ownBlock = some k → base ≤ k ∧ k < w.heap.size := World.ownsRow.lt h
theorem OwnS.frame {w w' : World} {base : Nat} {v : Value} {xs : List Bs} (h : OwnS w base v xs) (e : ∀ b ∈ v.ownBlock.toList, w'.heap[b]? = w.heap[b]?) : OwnS w' base v xs := by
  refine ⟨h.1, ?_⟩
  rcases h.2 with h' | ⟨g, cap, cur, rfl, hb, hg, r⟩
  · exact .inl h'
  · exact .inr ⟨g, cap, cur, rfl, hb, (e g (by simp [Value.ownBlock])).trans hg, r⟩
theorem OwnS.below {w w' : World} {base : Nat} {v : Value} {xs : List Bs} (h : OwnS w base v xs) (hb : Below w.heap.size w w') : OwnS w' base v xs :=
  h.frame (fun b hm => hb.block b (h.lt b (by simpa using hm)).2)
theorem OwnS.kept {w w' : World} {base : Nat} {v : Value} {row : Option Nat} {xs : List Bs} (h : OwnS w base v xs) (hg : w.grownBy w' row) (hne : v.ownBlock = none ∨ v.ownBlock ≠ row) : OwnS w' base v xs :=
  World.ownsRow.kept h hg hne
theorem ReadsS.below {w w' : World} {B : Nat} {v : Value} {xs : List Bs} (h : ReadsS w v xs) (hb : Below B w w') (hB : w.heap.size ≤ B) : ReadsS w' v xs := by
  obtain ⟨ao, cap, rfl, h1, h2, h3⟩ := h
  refine ⟨ao, cap, rfl, h1, h2, ?_⟩
  rcases h3 with h3 | ⟨b, off, rfl, h4⟩
  · exact .inl h3
  · refine .inr ⟨b, off, rfl, fun j hj => ?_⟩
    have h5 := h4 j hj
    have h6 := World.block_lt_of_cell? w _ h5
    rw [hb.cell (p := ⟨b, off + j, none⟩) (Nat.lt_of_lt_of_le h6 hB)]
    exact h5

theorem takeS_snoc (xs : List Bs) (j : Nat) (h : j < xs.length) : xs.take (j + 1) = xs.take j ++ [xs.getD j []] := by
  rw [List.take_succ_eq_append_getElem h]; simp [List.getD, h]
theorem takeS_step {xs ys : List Bs} {j : Nat} (h : xs.take j = ys.take j) (hx : j < xs.length) (hy : j < ys.length) (e : xs.getD j [] = ys.getD j []) : xs.take (j + 1) = ys.take (j + 1) := by
  rw [takeS_snoc xs j hx, takeS_snoc ys j hy, h, e]
theorem neS_of_getD {xs ys : List Bs} {j : Nat} (e : xs.getD j [] ≠ ys.getD j []) : xs ≠ ys := fun h => e (by rw [h])

def mtext (k : Nat) : Bs := 109 :: dec k
end Go.Proofs.YtlkkpolnllbljaaGreatDoor
/- Lists of strings are marked and looked at again: markStringS, heldStringS; one more string behind a list. -/
namespace Go.Proofs.YtlkkpolnllbljaaGreatDoor
open Go.ChangeShapes Go.WideShapes Go.ChangeAt Go.RowKit

def marksS (k : Nat) (n : Nat) : List Bs := (List.range n).map fun j => mtext (k + j)
theorem marksS_length (k n : Nat) : (marksS k n).length = n := by simp [marksS]
theorem marksS_getD (k n j : Nat) (h : j < n) : (marksS k n).getD j [] = mtext (k + j) := by simp [marksS, List.getD, h]
theorem marksS_step (k : Nat) (xs : List Bs) (j : Nat) (h : j < xs.length) : ((marksS k j ++ xs.drop j).set j (mtext (k + j))) = marksS k (j + 1) ++ xs.drop (j + 1) := by
  rw [List.set_append_right _ _ (by simp [marksS_length]), marksS_length, Nat.sub_self]
  rw [List.drop_eq_getElem_cons h, List.set_cons_zero]
  simp [marksS, List.range_succ]
theorem marksS_all (k : Nat) (xs : List Bs) : marksS k xs.length ++ xs.drop xs.length = marksS k xs.length := by simp
theorem OwnS.put {w : World} {base g n cap : Nat} {xs : List Bs} (h : OwnS w base (.slice (some ⟨g, 0, none⟩) n cap) xs) (hn : n = xs.length) (j : Nat) (hj : j < n) (x : Bs) :
    w.frozen? ⟨g, j, none⟩ = false ∧ (∃ y, w.cell? ⟨g, j, none⟩ = some y) ∧ OwnS (w.setCell ⟨g, j, none⟩ (S x)) base (.slice (some ⟨g, 0, none⟩) n cap) (xs.set j x) := by
  subst hn
  have hown : w.ownsRow base 9 1 (.slice (some ⟨g, 0, none⟩) xs.length cap) xs.length (xs.map S) := h
  refine ⟨World.ownsRow.frozenAt hown j, ?_, ?_⟩
  · rw [World.ownsRow.cellAt hown j (by omega)]
    exact ⟨_, List.getElem?_eq_getElem (by simpa using hj)⟩
  · have := (World.ownsRow.stored hown j (S x)).1
    rw [← List.map_set] at this
    unfold OwnS
    rwa [List.length_set]
theorem grownSetS (w : World) (g j : Nat) (x : Value) : w.grownBy (w.setCell ⟨g, j, none⟩ x) (some g) :=
  ⟨rfl, rfl, rfl, by simp, fun k _ hk => heap_setCell_other w ⟨g, j, none⟩ k x (fun e => hk (by simp [e]))⟩
theorem grown_below {w w' w'' : World} {row : Option Nat} (h : w.grownBy w' row) (b : Below w'.heap.size w' w'') : w.grownBy w'' row :=
  ⟨b.os.trans h.os, b.tape.trans h.tape, b.output.trans h.output, Nat.le_trans h.size b.size, fun k hk hne => (b.block k (Nat.lt_of_lt_of_le hk h.size)).trans (h.block k hk hne)⟩
end Go.Proofs.YtlkkpolnllbljaaGreatDoor
/- Texts are split: what l1Split of the model answers. -/
namespace Go.Proofs.YtlkkpolnllbljaaGreatDoor
open Go.ChangeShapes Go.WideShapes Go.ChangeAt Go.RowKit

def ahead (a : Bs) : List Bs → List Bs
  | [] => [a]
  | p :: ps => (a ++ p) :: ps
def splitB (c : UInt8) : Bs → List Bs
  | [] => [[]]
  | b :: t => if b = c then [] :: splitB c t else ahead [b] (splitB c t)
theorem ahead_ahead (a b : Bs) (l : List Bs) (h : l ≠ []) : ahead a (ahead b l) = ahead (a ++ b) l := by
  cases l with
  | nil => exact absurd rfl h
  | cons p ps => simp [ahead]
theorem ahead_nil (l : List Bs) (h : l ≠ []) : ahead [] l = l := by
  cases l with
  | nil => exact absurd rfl h
  | cons p ps => rfl
theorem ahead_ne (a : Bs) (l : List Bs) : ahead a l ≠ [] := by cases l <;> simp [ahead]
theorem splitB_ne (c : UInt8) (l : Bs) : splitB c l ≠ [] := by
  cases l with
  | nil => simp [splitB]
  | cons b t => rw [splitB]; split; simp; exact ahead_ne _ _

def cutB (l : Bs) (a b : Nat) : Bs := (l.take b).drop a
theorem cutB_len (l : Bs) (a b : Nat) (h : b ≤ l.length) : (cutB l a b).length = b - a := by simp [cutB]; omega
theorem cutB_snoc (l : Bs) (a b : Nat) (h : a ≤ b) (hb : b < l.length) : cutB l a (b + 1) = cutB l a b ++ [l[b]] := by
  unfold cutB
  rw [take_snocB l b hb, List.drop_append_of_le_length (by simp; omega)]
theorem cutB_self (l : Bs) (a : Nat) : cutB l a a = [] := by
  unfold cutB
  rw [List.drop_eq_nil_of_le (by simp; omega)]
theorem extract_cut (l : Bs) (a b : Nat) : (⟨l.toArray⟩ : ByteArray).extract a b = ⟨(cutB l a b).toArray⟩ := by
  apply ByteArray.ext
  rw [ByteArray.data_extract]
  simp [cutB, List.extract_toArray, List.drop_take]

def SplitInv (c : UInt8) (l : Bs) (out : List Bs) (a i : Nat) : Prop := a ≤ i ∧ splitB c l = out ++ ahead (cutB l a i) (splitB c (l.drop i))
theorem SplitInv.start (c : UInt8) (l : Bs) : SplitInv c l [] 0 0 := ⟨Nat.le_refl _, by rw [cutB_self, List.drop_zero, ahead_nil _ (splitB_ne _ _)]; rfl⟩
theorem SplitInv.hit {c : UInt8} {l : Bs} {out : List Bs} {a i : Nat} (h : SplitInv c l out a i) (hi : i < l.length) (hc : l[i] = c) : SplitInv c l (out ++ [cutB l a i]) (i + 1) (i + 1) := by
  refine ⟨Nat.le_refl _, ?_⟩
  rw [h.2, List.drop_eq_getElem_cons hi, splitB, if_pos hc, cutB_self, ahead_nil _ (splitB_ne _ _)]
  simp [ahead]
theorem SplitInv.miss {c : UInt8} {l : Bs} {out : List Bs} {a i : Nat} (h : SplitInv c l out a i) (hi : i < l.length) (hc : l[i] ≠ c) : SplitInv c l out a (i + 1) := by
  refine ⟨by have := h.1; omega, ?_⟩
  rw [h.2, List.drop_eq_getElem_cons hi, splitB, if_neg hc, ahead_ahead _ _ _ (splitB_ne _ _), cutB_snoc l a i h.1 hi]
theorem SplitInv.done {c : UInt8} {l : Bs} {out : List Bs} {a : Nat} (h : SplitInv c l out a l.length) : splitB c l = out ++ [cutB l a l.length] := by
  rw [h.2]
  simp [splitB, ahead]

theorem Tryz.infoS : (Tryz.prog.info? 9).map (fun i => (i.zero, i.size, i.bytes)) = some (some (.string ⟨#[]⟩), 1, 16) := by kernel_rfl
theorem litS1 (w : World) (x : Bs) : ∀ j u, ([S x])[j]? = some u → (w.alloc (.cells #[S x] 9)).cell? ((⟨w.heap.size, 0, none⟩ : Addr).add j) = some u := by
  intro j u hj
  match j, hj with
  | 0, hj => simp at hj; subst hj; simp [Addr.add]
theorem mapS_one (xs : List Bs) (a : Bs) : xs.map S ++ [S a] = (xs ++ [a]).map S := by simp
theorem appendS {w wr w' : World} {o v' : Value} {out : List Bs} {x : Bs} {ob : Obj} (hO : OwnS wr w.heap.size o out) (hB : Below w.heap.size w wr)
    (hown : w'.ownsRow w.heap.size 9 1 v' (out.length + 1) (out.map S ++ [S x])) (hg : (wr.alloc ob).grownBy w' o.ownBlock) : OwnS w' w.heap.size v' (out ++ [x]) ∧ Below w.heap.size w w' := by
  refine ⟨?_, (hB.alloc hB.size ob).grown hg (by simp; have := hB.size; omega) (fun k e => (hO.lt k e).1)⟩
  unfold OwnS
  rw [← mapS_one]
  simpa using hown

set_option maxRecDepth 20000 in
set_option maxHeartbeats 1000000 in
theorem ssplit_any (l : Bs) (c : UInt8) (w : World) (hl : l.length ≤ 1048576) :
    Calls Tryz.prog 131 #[S l, .int .u8 (byteI c)] w fun e w' => ∃ u, e = .returned u ∧ OwnS w' w.heap.size u (splitB c l) ∧ Below w.heap.size w w' := by
  obtain ⟨i0, hi, hz0, hz1, hz2⟩ := info_parts Tryz.infoS
  unfold S
  go_enter Tryz.func131, Tryz.ntmps131
  go_wp2
  go_loopw [5, 6, 7] (fun o f i wr => ∃ (j a : Nat) (out : List Bs), i = .int .i64 j ∧ f = .int .i64 a ∧ (a : Int) ≤ j ∧ (j : Int) ≤ l.length + 1 ∧ out.length ≤ j ∧ Hid (OwnS wr w.heap.size o out ∧ Below w.heap.size w wr ∧ ((j ≤ l.length → SplitInv c l out a j) ∧ (j = l.length + 1 → out = splitB c l)))) (fun _ _ i _ => l.length + 1 - (intOf i).toNat)
  case atStart => exact ⟨0, 0, [], rfl, rfl, by omega, by omega, by simp, World.ownsRow_lit w #[] 0 (Nat.le_refl _) (Nat.zero_le _) rfl, (Below.refl _ _).alloc (Nat.le_refl _) _, fun _ => SplitInv.start c l, fun h => by omega⟩
  case round =>
    obtain ⟨j, a, out, rfl, rfl, haj, hj, hol, HR⟩ := hrel
    have hsz : (⟨l.toArray⟩ : ByteArray).size = l.length := rfl
    by_cases hend : (j : Int) ≤ (l.length : Int)
    · have hinv := HR.out.2.2.1 (by omega)
      have hown := HR.out.1
      have hbs := HR.out.2.1.size
      unfold OwnS at hown
      have hex := extract_cut l a j
      by_cases hl2 : (j : Int) = (l.length : Int)
      · obtain rfl : j = l.length := by omega
        have HI : Hid (splitB c l = out ++ [cutB l a l.length]) := hinv.done
        clear hinv hl2
        go_wp2_with (at_builtin; refine wpList_append_own _ rfl _ _ 110 rfl w.heap.size 9 i0 (.string ⟨#[]⟩) 1 16 Tryz.underlying110 hi hz0 hz1 hz2 rfl (by decide) _ _ _ rfl (hown.alloc _) _ 1 1 [S (cutB l a l.length)] rfl rfl (litS1 wr (cutB l a l.length)) (by simp [Value.oneCell', S]) (by unfold maxLen; omega) (by omega) (by simp; omega) ?_)
        intro v' w2 hown' hgrow _
        have HO : Hid (OwnS w2 w.heap.size v' (out ++ [cutB l a l.length]) ∧ Below w.heap.size w w2) := appendS HR.out.1 HR.out.2.1 hown' hgrow
        clear hown hown' hgrow HR
        go_wp2
        go_roundw
        case rel => exact ⟨l.length + 1, l.length + 1, out ++ [cutB l a l.length], by go_num, by go_num, by omega, by omega, by simp; omega, HO.out.1, HO.out.2, fun h => by omega, fun _ => HI.out.symm⟩
        case measure => simp [intOf]
      · have h1 : j < l.length := by omega
        have hjl : ((j : Int) == (l.length : Int)) = false := by simpa using hl2
        have ht := byteAt_is l j h1 c (byteI c) rfl
        by_cases hc : l[j] = c
        · rw [show decide (l[j] = c) = true by simp [hc]] at ht
          have HI : Hid (SplitInv c l (out ++ [cutB l a j]) (j + 1) (j + 1)) := hinv.hit h1 hc
          clear hinv hc
          go_wp2_with (at_builtin; refine wpList_append_own _ rfl _ _ 110 rfl w.heap.size 9 i0 (.string ⟨#[]⟩) 1 16 Tryz.underlying110 hi hz0 hz1 hz2 rfl (by decide) _ _ _ rfl (hown.alloc _) _ 1 1 [S (cutB l a j)] rfl rfl (litS1 wr (cutB l a j)) (by simp [Value.oneCell', S]) (by unfold maxLen; omega) (by omega) (by simp; omega) ?_)
          intro v' w2 hown' hgrow _
          have HO : Hid (OwnS w2 w.heap.size v' (out ++ [cutB l a j]) ∧ Below w.heap.size w w2) := appendS HR.out.1 HR.out.2.1 hown' hgrow
          clear hown hown' hgrow HR
          go_wp2
          go_roundw
          case rel => exact ⟨j + 1, j + 1, out ++ [cutB l a j], by go_num, by go_num, by omega, by omega, by simp; omega, HO.out.1, HO.out.2, fun _ => HI.out, fun h => by omega⟩
          case measure => simp [intOf]; omega
        · rw [show decide (l[j] = c) = false by simp [hc]] at ht
          have HI : Hid (SplitInv c l out a (j + 1)) := hinv.miss h1 hc
          clear hinv hc hown
          go_wp2
          go_roundw
          case rel => exact ⟨j + 1, a, out, by go_num, rfl, by omega, by omega, by omega, HR.out.1, HR.out.2.1, fun _ => HI.out, fun h => by omega⟩
          case measure => simp [intOf]; omega
    · go_wp2
      go_ret
      have e : j = l.length + 1 := by omega
      have h2 := HR.out.2.2.2 e
      rw [← h2]
      exact ⟨_, rfl, HR.out.1, HR.out.2.1⟩
end Go.Proofs.YtlkkpolnllbljaaGreatDoor
/- Numbers in a text: how one is shown and read, many with blanks between. -/
namespace Go.Proofs.YtlkkpolnllbljaaGreatDoor
open Go.RowKit

theorem app' (a b : Bs) : (({ data := a.toArray } : ByteArray) ++ { data := b.toArray }) = { data := (a ++ b).toArray } := ByteArray.mk_append_mk a b
theorem bsize' (a : Bs) : ({ data := a.toArray } : ByteArray).size = a.length := rfl
def isDig (b : UInt8) : Bool := decide (48 ≤ byteI b) && decide (byteI b ≤ 57)
def val (l : Bs) : Int := l.foldl (fun n b => n * 10 + (byteI b - 48)) 0
def neg (l : Bs) : Bool := l.head? == some 45
def offN (l : Bs) : Nat := if neg l then 1 else 0
def digs (l : Bs) : Bs := l.drop (offN l)
def okN (l : Bs) : Bool := decide (1 ≤ (digs l).length) && decide ((digs l).length ≤ 9) && (digs l).all isDig && !(decide ((digs l).head? = some 48) && decide (1 < l.length))
def num (l : Bs) : Int := if okN l then (if neg l then -(val (digs l)) else val (digs l)) else 0

theorem val_snoc (l : Bs) (b : UInt8) : val (l ++ [b]) = val l * 10 + (byteI b - 48) := by simp [val]
theorem isDig_iff (b : UInt8) : isDig b = true ↔ 48 ≤ byteI b ∧ byteI b ≤ 57 := by simp [isDig]
theorem val_bd (l : Bs) (h : l.all isDig = true) : 0 ≤ val l ∧ val l < 10 ^ l.length := by
  induction hn : l.length generalizing l with
  | zero =>
    have : l = [] := List.eq_nil_of_length_eq_zero hn
    subst this; simp [val]
  | succ n ih =>
    rcases List.eq_nil_or_concat l with rfl | ⟨m, b, rfl⟩
    · simp at hn
    · rw [List.concat_eq_append] at h hn ⊢
      rw [List.all_append, Bool.and_eq_true] at h
      have hb : isDig b = true := by simpa using h.2
      rw [isDig_iff] at hb
      have h1 := ih m h.1 (by simpa using hn)
      rw [val_snoc, Int.pow_succ]
      omega
theorem val_small (l : Bs) (h : l.all isDig = true) (hl : l.length ≤ 9) : 0 ≤ val l ∧ val l < 1000000000 := by
  have h1 := val_bd l h
  have h2 : (10 : Int) ^ l.length ≤ 10 ^ 9 := by
    have : (10 : Nat) ^ l.length ≤ 10 ^ 9 := Nat.pow_le_pow_right (by omega) hl
    exact_mod_cast this
  have e : (10 : Int) ^ 9 = 1000000000 := by decide
  omega
theorem okN_iff (l : Bs) : okN l = true ↔ 1 ≤ (digs l).length ∧ (digs l).length ≤ 9 ∧ (digs l).all isDig = true ∧ ¬ ((digs l).head? = some 48 ∧ 1 < l.length) := by
  simp only [okN, Bool.and_eq_true, decide_eq_true_eq, Bool.not_eq_true', Bool.and_eq_false_iff, decide_eq_false_iff_not]
  constructor
  · rintro ⟨⟨⟨h1, h2⟩, h3⟩, h4⟩
    exact ⟨h1, h2, h3, fun ⟨a, b⟩ => by rcases h4 with h | h; exact h a; exact h b⟩
  · rintro ⟨h1, h2, h3, h4⟩
    refine ⟨⟨⟨h1, h2⟩, h3⟩, ?_⟩
    by_cases h : (digs l).head? = some 48
    · exact .inr (fun h' => h4 ⟨h, h'⟩)
    · exact .inl h
theorem num_bd (l : Bs) : -1000000000 < num l ∧ num l < 1000000000 := by
  unfold num
  split
  · rename_i h
    rw [okN_iff] at h
    have := val_small _ h.2.2.1 h.2.1
    split <;> omega
  · omega
theorem digs_len (l : Bs) : (digs l).length = l.length - offN l := by simp [digs]
theorem offN_le (l : Bs) : offN l ≤ l.length := by
  unfold offN neg
  cases l with
  | nil => simp
  | cons b l => split <;> simp

/- What is shown of a number is read again, and what is read is shown so. -/
theorem digit_byte (n : Nat) : byteI (digit n) = 48 + (n % 10 : Nat) := by
  have : (digit n).toNat = 48 + n % 10 := by unfold digit; rw [UInt8.toNat_ofNat']; omega
  unfold byteI; rw [this]; omega
theorem isDig_digit (n : Nat) : isDig (digit n) = true := by
  rw [isDig_iff, digit_byte]; omega
theorem dec_digs (n : Nat) : (dec n).all isDig = true ∧ val (dec n) = n := by
  induction n using Nat.strongRecOn with
  | ind n ih =>
    rw [dec]
    split
    · refine ⟨by simp [isDig_digit], ?_⟩
      have := val_snoc [] (digit n)
      rw [List.nil_append] at this
      rw [this, digit_byte]
      simp [val]; omega
    · obtain ⟨h1, h2⟩ := ih (n / 10) (by omega)
      refine ⟨by rw [List.all_append, h1]; simp [isDig_digit], ?_⟩
      rw [val_snoc, h2, digit_byte]
      omega
theorem digit_of {b : UInt8} (n : Nat) (hn : ((n % 10 : Nat) : Int) = byteI b - 48) : digit n = b := by
  apply UInt8.toNat_inj.1
  have := digit_byte n
  unfold byteI at this hn
  omega
theorem dec_val (l : Bs) (h : l.all isDig = true) (h0 : l ≠ []) (hz : l.head? = some 48 → l.length = 1) : dec (val l).toNat = l := by
  induction hn : l.length generalizing l with
  | zero => exact absurd (List.eq_nil_of_length_eq_zero hn) h0
  | succ n ih =>
    rcases List.eq_nil_or_concat l with rfl | ⟨m, b, rfl⟩
    · simp at hn
    · rw [List.concat_eq_append] at h hn h0 hz ⊢
      rw [List.all_append, Bool.and_eq_true] at h
      have hb : isDig b = true := by simpa using h.2
      have hb' := (isDig_iff b).1 hb
      by_cases hm : m = []
      · subst hm
        have hv : val ([] ++ [b]) = byteI b - 48 := by rw [val_snoc]; simp [val]
        rw [hv, dec, if_pos (by omega), digit_of (b := b) _ (by omega)]
        rfl
      · have hz' : m.head? = some 48 → m.length = 1 := by
          intro e
          cases m with
          | nil => exact absurd rfl hm
          | cons c m =>
            have := hz (by simpa using e)
            simp at this
        have hpos : m.head? ≠ some 48 := by
          intro e
          cases m with
          | nil => exact absurd rfl hm
          | cons c m =>
            have := hz (by simpa using e)
            simp at this
        have h1 := ih m h.1 hm hz' (by simpa using hn)
        have h2 := val_bd m h.1
        have h3 : val m ≠ 0 := by
          intro e
          rw [e] at h1
          have : dec (0 : Int).toNat = [48] := dec_zero
          rw [this] at h1
          rw [← h1] at hpos
          exact hpos rfl
        rw [val_snoc, dec, if_neg (by omega)]
        have e1 : (val m * 10 + (byteI b - 48)).toNat / 10 = (val m).toNat := by omega
        rw [e1, h1, digit_of (b := b) _ (by omega)]
theorem dec_ne_nil (n : Nat) : dec n ≠ [] := by
  rw [dec]; split <;> simp
theorem dec_pos_head (n : Nat) (h : 0 < n) : (dec n).head? ≠ some 48 := by
  induction n using Nat.strongRecOn with
  | ind n ih =>
    rw [dec]
    split
    · intro e
      have e2 : digit n = 48 := by simpa using e
      have := digit_byte n
      rw [e2] at this
      have h48 : byteI 48 = 48 := rfl
      omega
    · have := ih (n / 10) (by omega) (by omega)
      cases hd : dec (n / 10) with
      | nil => exact absurd hd (dec_ne_nil _)
      | cons c l => rw [hd] at this; simpa using this
theorem neg_dec (n : Nat) : neg (dec n) = false := by
  cases hd : dec n with
  | nil => exact absurd hd (dec_ne_nil _)
  | cons c l =>
    have h := (dec_digs n).1
    rw [hd, List.all_cons, Bool.and_eq_true] at h
    have h1 := (isDig_iff c).1 h.1
    unfold neg
    by_cases e : c = 45
    · subst e
      have : byteI 45 = 45 := rfl
      omega
    · simpa using e
theorem read_dec (n : Nat) (h : n < 1000000000) : okN (dec n) = true ∧ num (dec n) = n := by
  have hn := neg_dec n
  have hd : digs (dec n) = dec n := by simp [digs, offN, hn]
  have hl := dec_len 8 n (by omega)
  have ok : okN (dec n) = true := by
    rw [okN_iff, hd]
    refine ⟨?_, hl, (dec_digs n).1, ?_⟩
    · have := dec_ne_nil n
      have := List.length_pos_iff.2 this
      omega
    · rintro ⟨e1, e2⟩
      by_cases h0 : n = 0
      · subst h0
        rw [dec_zero] at e2
        simp at e2
      · exact dec_pos_head n (by omega) e1
  refine ⟨ok, ?_⟩
  unfold num
  rw [ok, hn, hd, (dec_digs n).2]
  simp
theorem read_back (l : Bs) (h : okN l = true) (h0 : 0 ≤ num l) : dec (num l).toNat = l := by
  rw [okN_iff] at h
  have ok : okN l = true := (okN_iff l).2 h
  obtain ⟨h1, h2, h3, h4⟩ := h
  have hne : digs l ≠ [] := by intro e; rw [e] at h1; simp at h1
  unfold num at h0 ⊢
  rw [if_pos ok] at h0 ⊢
  cases hng : neg l with
  | true =>
    exfalso
    rw [hng, if_pos rfl] at h0
    have hlen : 1 < l.length := by
      have := digs_len l
      simp only [offN, hng, if_true] at this
      omega
    have hz : (digs l).head? ≠ some 48 := fun e => h4 ⟨e, hlen⟩
    have hb := val_bd _ h3
    have hv : val (digs l) = 0 := by omega
    have := dec_val (digs l) h3 hne (fun e => absurd e hz)
    rw [hv] at this
    have e0 : dec (0 : Int).toNat = [48] := dec_zero
    rw [e0] at this
    rw [← this] at hz
    exact hz rfl
  | false =>
    have hd : digs l = l := by simp [digs, offN, hng]
    rw [hd] at h3 h4 hne ⊢
    simp only [Bool.false_eq_true, if_false]
    exact dec_val l h3 hne (fun e => by
      have : ¬ 1 < l.length := fun h => h4 ⟨e, h⟩
      have := List.length_pos_iff.2 hne
      omega)
def intsB : List Int → Bs
  | [] => []
  | [x] => decI x
  | x :: y :: l => decI x ++ 32 :: intsB (y :: l)
theorem decI_len (n : Int) (h0 : -9223372036854775808 ≤ n) (h1 : n ≤ 9223372036854775807) : (decI n).length ≤ 21 := by
  have := dec_len 19 n.natAbs (by omega)
  unfold decI
  split <;> simp <;> omega
theorem decI_pos {n : Int} (h : 0 ≤ n) : decI n = dec n.toNat := by
  unfold decI
  rw [if_neg (by omega)]
  congr 1
  omega
theorem splitB_word (c : UInt8) (a : Bs) (h : ∀ b ∈ a, b ≠ c) : splitB c a = [a] := by
  induction a with
  | nil => rfl
  | cons b a ih => rw [splitB, if_neg (h b (by simp)), ih (fun x hx => h x (by simp [hx]))]; rfl
def joinB (c : UInt8) : List Bs → Bs
  | [] => []
  | [x] => x
  | x :: y :: l => x ++ c :: joinB c (y :: l)
theorem joinB_ahead (c : UInt8) (a : Bs) (l : List Bs) (h : l ≠ []) : joinB c (ahead a l) = a ++ joinB c l := by
  cases l with
  | nil => exact absurd rfl h
  | cons p ps => cases ps <;> simp [ahead, joinB]
theorem joinB_split (c : UInt8) (s : Bs) : joinB c (splitB c s) = s := by
  induction s with
  | nil => rfl
  | cons b t ih =>
    rw [splitB]
    split
    · rename_i h
      cases hs : splitB c t with
      | nil => exact absurd hs (splitB_ne c t)
      | cons p ps => rw [joinB, ← hs, ih, h]; rfl
    · rw [joinB_ahead c [b] _ (splitB_ne c t), ih]; rfl
/- Four numbers in a row, in a block of the call's own. -/
def fourB (xs : List Int) (j : Nat) : Bs := if j = 0 then [] else intsB (xs.take j)
theorem intsB_snoc (xs : List Int) (x : Int) (h : xs ≠ []) : intsB (xs ++ [x]) = intsB xs ++ 32 :: decI x := by
  induction xs with
  | nil => exact absurd rfl h
  | cons a l ih =>
    cases l with
    | nil => rfl
    | cons b l =>
      have := ih (by simp)
      simp only [List.cons_append] at this ⊢
      rw [intsB, this, intsB]
      simp
theorem fourB_step (xs : List Int) (j : Nat) (h : j < xs.length) : fourB xs (j + 1) = (if j = 0 then [] else fourB xs j ++ [32]) ++ decI (xs.getD j 0) := by
  unfold fourB
  rw [if_neg (by omega), List.take_succ_eq_append_getElem h]
  have e : xs.getD j 0 = xs[j] := by simp [h]
  rw [e]
  by_cases h0 : j = 0
  · subst h0
    simp [intsB]
  · rw [if_neg h0, if_neg h0, intsB_snoc _ _ (by intro e; have := congrArg List.length e; rw [List.length_take, Nat.min_eq_left (by omega)] at this; exact h0 this)]
    simp
theorem intsB_len (xs : List Int) (h : ∀ x ∈ xs, -9223372036854775808 ≤ x ∧ x ≤ 9223372036854775807) : (intsB xs).length ≤ 22 * xs.length := by
  induction xs with
  | nil => simp [intsB]
  | cons a l ih =>
    have ha := h a (by simp)
    have hl := decI_len a ha.1 ha.2
    cases l with
    | nil => simp [intsB]; omega
    | cons b l =>
      have := ih (fun x hx => h x (by simp [hx]))
      rw [intsB]
      simp at this ⊢
      omega
theorem join_ints (xs : List Int) : joinB 32 (xs.map decI) = intsB xs := by
  induction xs with
  | nil => rfl
  | cons x l ih =>
    cases l with
    | nil => rfl
    | cons y l =>
      rw [List.map_cons, List.map_cons, joinB, ← List.map_cons, ih]
      rfl
def Fits64 (xs : List Int) : Prop := ∀ x ∈ xs, -9223372036854775808 ≤ x ∧ x ≤ 9223372036854775807
end Go.Proofs.YtlkkpolnllbljaaGreatDoor
/- How a number is read, byte by byte. -/
namespace Go.Proofs.YtlkkpolnllbljaaGreatDoor
open Go.ChangeShapes Go.WideShapes Go.ChangeAt Go.RowKit

def byteV (l : Bs) (j : Nat) (h : j < l.length) : Int := ((((⟨l.toArray⟩ : ByteArray)[j]'(show j < (⟨l.toArray⟩ : ByteArray).size from h)).toNat : Nat) : Int)
theorem byteV_is (l : Bs) (j : Nat) (h : j < l.length) : byteV l j h = byteI l[j] := rfl
theorem neg_cons (b : UInt8) (t : Bs) : neg (b :: t) = decide (b = 45) := by unfold neg; by_cases h : b = 45 <;> simp [h]
theorem neg_at (l : Bs) (h : 0 < l.length) : neg l = decide (l[0] = 45) := by
  cases l with
  | nil => simp at h
  | cons b t => exact neg_cons b t
theorem okN_short (l : Bs) (h : l.length - offN l < 1) : okN l = false := by
  rw [← Bool.not_eq_true, okN_iff, digs_len]; omega
theorem okN_long (l : Bs) (h : 9 < l.length - offN l) : okN l = false := by
  rw [← Bool.not_eq_true, okN_iff, digs_len]; omega
theorem num_not {l : Bs} (h : okN l = false) : num l = 0 := by simp [num, h]
theorem digs_at (l : Bs) (j : Nat) (h0 : offN l ≤ j) (h : j < l.length) : ∃ h' : j - offN l < (digs l).length, (digs l)[j - offN l] = l[j] := by
  have hl := digs_len l
  refine ⟨by omega, ?_⟩
  unfold digs
  rw [List.getElem_drop]
  congr 1
  omega
def RdInv (l : Bs) (j : Nat) (x : Int) : Prop := x = val ((digs l).take (j - offN l)) ∧ ((digs l).take (j - offN l)).all isDig = true
theorem RdInv.start (l : Bs) : RdInv l (offN l) 0 := by simp [RdInv, val]
theorem RdInv.next {l : Bs} {j : Nat} {x : Int} (h : RdInv l j x) (h0 : offN l ≤ j) (hj : j < l.length) (hd : isDig l[j] = true) : RdInv l (j + 1) (x * 10 + (byteI l[j] - 48)) := by
  obtain ⟨h1, h2⟩ := digs_at l j h0 hj
  unfold RdInv at h ⊢
  rw [show j + 1 - offN l = j - offN l + 1 by omega, take_snocB _ _ h1, val_snoc, List.all_append, h.2, h2, h.1]
  simp [hd]
theorem RdInv.bd {l : Bs} {j : Nat} {x : Int} (h : RdInv l j x) (hj : j - offN l ≤ 9) : 0 ≤ x ∧ x < 1000000000 := by
  rw [h.1]
  exact val_small _ h.2 (by simp; omega)
theorem RdInv.bad {l : Bs} {j : Nat} (h0 : offN l ≤ j) (hj : j < l.length) (hd : isDig l[j] = false) : okN l = false := by
  obtain ⟨h1, h2⟩ := digs_at l j h0 hj
  rw [← Bool.not_eq_true, okN_iff]
  rintro ⟨_, _, h3, _⟩
  have := List.all_eq_true.1 h3 _ (List.getElem_mem h1)
  rw [h2, hd] at this
  cases this
theorem head_digs (l : Bs) (h : offN l < l.length) : (digs l).head? = some l[offN l] := by
  unfold digs
  rw [List.head?_drop]
  simp [h]
theorem RdInv.done {l : Bs} {x : Int} (h : RdInv l l.length x) (h1 : 1 ≤ l.length - offN l) (h2 : l.length - offN l ≤ 9) : okN l = !(decide ((digs l).head? = some 48) && decide (1 < l.length)) ∧ x = val (digs l) := by
  have hl := digs_len l
  unfold RdInv at h
  rw [← hl, List.take_length] at h
  refine ⟨?_, h.1⟩
  unfold okN
  rw [h.2, hl]
  simp [h1, h2]
end Go.Proofs.YtlkkpolnllbljaaGreatDoor
/- Numbers of at most ten digits: how one is read. -/
namespace Go.Proofs.YtlkkpolnllbljaaGreatDoor
open Go.RowKit

def okT (l : Bs) : Bool := decide (1 ≤ (digs l).length) && decide ((digs l).length ≤ 10) && (digs l).all isDig && !(decide ((digs l).head? = some 48) && decide (1 < l.length))
def numT (l : Bs) : Int := if okT l then (if neg l then -(val (digs l)) else val (digs l)) else 0
theorem val_ten (l : Bs) (h : l.all isDig = true) (hl : l.length ≤ 10) : 0 ≤ val l ∧ val l < 10000000000 := by
  have h1 := val_bd l h
  have h2 : (10 : Int) ^ l.length ≤ 10 ^ 10 := by
    have : (10 : Nat) ^ l.length ≤ 10 ^ 10 := Nat.pow_le_pow_right (by omega) hl
    exact_mod_cast this
  have e : (10 : Int) ^ 10 = 10000000000 := by decide
  omega
theorem okT_iff (l : Bs) : okT l = true ↔ 1 ≤ (digs l).length ∧ (digs l).length ≤ 10 ∧ (digs l).all isDig = true ∧ ¬ ((digs l).head? = some 48 ∧ 1 < l.length) := by
  simp only [okT, Bool.and_eq_true, decide_eq_true_eq, Bool.not_eq_true', Bool.and_eq_false_iff, decide_eq_false_iff_not]
  constructor
  · rintro ⟨⟨⟨h1, h2⟩, h3⟩, h4⟩
    exact ⟨h1, h2, h3, fun ⟨a, b⟩ => by rcases h4 with h | h; exact h a; exact h b⟩
  · rintro ⟨h1, h2, h3, h4⟩
    refine ⟨⟨⟨h1, h2⟩, h3⟩, ?_⟩
    by_cases h : (digs l).head? = some 48
    · exact .inr (fun h' => h4 ⟨h, h'⟩)
    · exact .inl h
theorem numT_bd (l : Bs) : -10000000000 < numT l ∧ numT l < 10000000000 := by
  unfold numT
  split
  · rename_i h
    rw [okT_iff] at h
    have := val_ten _ h.2.2.1 h.2.1
    split <;> omega
  · omega
theorem okT_short (l : Bs) (h : l.length - offN l < 1) : okT l = false := by
  rw [← Bool.not_eq_true, okT_iff, digs_len]; omega
theorem okT_long (l : Bs) (h : 10 < l.length - offN l) : okT l = false := by
  rw [← Bool.not_eq_true, okT_iff, digs_len]; omega
theorem numT_not {l : Bs} (h : okT l = false) : numT l = 0 := by simp [numT, h]
theorem RdInv.bdT {l : Bs} {j : Nat} {x : Int} (h : RdInv l j x) (hj : j - offN l ≤ 10) : 0 ≤ x ∧ x < 10000000000 := by
  rw [h.1]
  exact val_ten _ h.2 (by simp; omega)
theorem RdInv.badT {l : Bs} {j : Nat} (h0 : offN l ≤ j) (hj : j < l.length) (hd : isDig l[j] = false) : okT l = false := by
  obtain ⟨h1, h2⟩ := digs_at l j h0 hj
  rw [← Bool.not_eq_true, okT_iff]
  rintro ⟨_, _, h3, _⟩
  have := List.all_eq_true.1 h3 _ (List.getElem_mem h1)
  rw [h2, hd] at this
  cases this
theorem RdInv.doneT {l : Bs} {x : Int} (h : RdInv l l.length x) (h1 : 1 ≤ l.length - offN l) (h2 : l.length - offN l ≤ 10) : okT l = !(decide ((digs l).head? = some 48) && decide (1 < l.length)) ∧ x = val (digs l) := by
  have hl := digs_len l
  unfold RdInv at h
  rw [← hl, List.take_length] at h
  refine ⟨?_, h.1⟩
  unfold okT
  rw [h.2, hl]
  simp [h1, h2]
/- What is shown is read. -/
theorem neg_decI (x : Int) : neg (decI x) = decide (x < 0) := by
  unfold decI
  split
  · rename_i h; simp [neg, h]
  · rename_i h; rw [neg_dec]; simp [h]
theorem digs_decI (x : Int) : digs (decI x) = dec x.natAbs := by
  unfold digs offN
  rw [neg_decI]
  unfold decI
  by_cases h : x < 0
  · simp [h]
  · simp [h]
theorem readT_decI (x : Int) (h0 : -10000000000 < x) (h1 : x < 10000000000) : okT (decI x) = true ∧ numT (decI x) = x := by
  have hd := digs_decI x
  have hl := dec_len 9 x.natAbs (by omega)
  have ok : okT (decI x) = true := by
    rw [okT_iff, hd]
    refine ⟨?_, hl, (dec_digs _).1, ?_⟩
    · have := List.length_pos_iff.2 (dec_ne_nil x.natAbs)
      omega
    · rintro ⟨e1, e2⟩
      by_cases hz : x = 0
      · subst hz
        rw [show decI 0 = [digit 0] from dec_zero] at e2
        simp at e2
      · exact dec_pos_head x.natAbs (by omega) e1
  refine ⟨ok, ?_⟩
  unfold numT
  rw [ok, neg_decI, hd, (dec_digs _).2]
  by_cases h : x < 0
  · simp [h]; omega
  · simp [h]; omega
/- What is read is shown so. -/
theorem readT_back (l : Bs) (h : okT l = true) : decI (numT l) = l := by
  have ok := h
  rw [okT_iff] at h
  obtain ⟨h1, h2, h3, h4⟩ := h
  have hne : digs l ≠ [] := by intro e; rw [e] at h1; simp at h1
  have hv := val_bd _ h3
  unfold numT
  rw [if_pos ok]
  have hz : (digs l).head? = some 48 → (digs l).length = 1 := by
    intro e
    have : ¬ 1 < l.length := fun c => h4 ⟨e, c⟩
    have := digs_len l
    omega
  have hb := dec_val (digs l) h3 hne hz
  cases hng : neg l with
  | false =>
    have hd : digs l = l := by simp [digs, offN, hng]
    simp only [Bool.false_eq_true, if_false]
    rw [decI_pos hv.1, hb, hd]
  | true =>
    simp only [if_true]
    have hlen : 1 < l.length := by
      have := digs_len l
      simp only [offN, hng, if_true] at this
      omega
    have hn48 : (digs l).head? ≠ some 48 := fun e => h4 ⟨e, hlen⟩
    have hpos : 0 < val (digs l) := by
      rcases Int.lt_or_eq_of_le hv.1 with c | c
      · exact c
      · exfalso
        rw [← c] at hb
        rw [← hb] at hn48
        exact hn48 (by rw [show dec (Int.toNat 0) = [digit 0] from dec_zero]; rfl)
    unfold decI
    rw [if_pos (by omega), Int.natAbs_neg, show (val (digs l)).natAbs = (val (digs l)).toNat by omega, hb]
    unfold neg at hng
    cases l with
    | nil => simp at hng
    | cons b t =>
      have : b = 45 := by simpa using hng
      subst this
      simp [digs, offN, neg]
end Go.Proofs.YtlkkpolnllbljaaGreatDoor
/- Kinds, and who may, as plain numbers and truths. -/
namespace Go.Proofs.YtlkkpolnllbljaaGreatDoor
open Go.RowKit

def kiI (k : Int) : Bool := inI k 1 6
def barsI (k : Int) (w : Bool) : Bool := kiI k && (w || decide (k % 2 = 0))
def allI (k : Int) : Bool := decide (k = 5) || decide (k = 6)
def mayI (k : Int) (w h r : Bool) : Bool := if k = 0 then true else if kiI k = false then false else if h then true else if decide (3 ≤ k) && r then true else !barsI k w
theorem kinds (k : Int) : k = 0 ∨ k = 1 ∨ k = 2 ∨ k = 3 ∨ k = 4 ∨ k = 5 ∨ k = 6 ∨ (kiI k = false ∧ k ≠ 0 ∧ k ≠ 1 ∧ k ≠ 2 ∧ k ≠ 3 ∧ k ≠ 4 ∧ k ≠ 5 ∧ k ≠ 6) := by
  by_cases h : kiI k = true
  · have := (inI_iff k 1 6).1 h
    omega
  · have h' : kiI k = false := by simpa using h
    have : ¬ (1 ≤ k ∧ k ≤ 6) := fun e => h ((inI_iff k 1 6).2 e)
    by_cases h0 : k = 0
    · exact .inl h0
    · exact .inr (.inr (.inr (.inr (.inr (.inr (.inr ⟨h', by omega⟩))))))
theorem kiI_lit : kiI 0 = false ∧ kiI 1 = true ∧ kiI 2 = true ∧ kiI 3 = true ∧ kiI 4 = true ∧ kiI 5 = true ∧ kiI 6 = true := by decide
/- One that holds it may; where reading is barred writing is, too. -/
theorem mayI_holds (k : Int) (w r : Bool) (h : kiI k = true) : mayI k w true r = true := by
  unfold mayI
  by_cases h0 : k = 0
  · rw [if_pos h0]
  · rw [if_neg h0, if_neg (by rw [h]; decide), if_pos rfl]
theorem barsI_le (k : Int) : (barsI k false && !barsI k true) = false := by
  unfold barsI
  cases kiI k <;> simp
theorem mayI_le (k : Int) (h r : Bool) : (mayI k true h r && !mayI k false h r) = false := by
  unfold mayI barsI
  by_cases h0 : k = 0
  · simp [h0]
  · rw [if_neg h0, if_neg h0]
    cases hk : kiI k with
    | false => simp
    | true => cases h <;> cases r <;> by_cases h3 : 3 ≤ k <;> simp [h3]
theorem mayI_all (k : Int) (w h : Bool) : (!allI k || mayI k w h true) = true := by
  unfold allI mayI
  by_cases h5 : k = 5
  · subst h5; simp [show kiI 5 = true from rfl]
  · by_cases h6 : k = 6
    · subst h6; simp [show kiI 6 = true from rfl]
    · simp [h5, h6]
theorem none_all (k : Int) (hk : kiI k = false) : allI k = false := by
  rcases kinds k with h | h | h | h | h | h | h | ⟨_, h0, h1, h2, h3, h4, h5, h6⟩
  · subst h; rfl
  all_goals first | (subst h; exact absurd hk (by decide)) | simp [allI, h5, h6]
theorem none_bars (k : Int) (w : Bool) (hk : kiI k = false) : barsI k w = false := by simp [barsI, hk]
theorem none_may (k : Int) (w h r : Bool) (h0 : k ≠ 0) (hk : kiI k = false) : mayI k w h r = false := by simp [mayI, h0, hk]
end Go.Proofs.YtlkkpolnllbljaaGreatDoor
/- Holdings as plain lists and numbers: when one is right, who is registered, who holds it, who may. -/
namespace Go.Proofs.YtlkkpolnllbljaaGreatDoor
open Go.RowKit

structure Hd where
  ks : List Int
  kd : Int
  ho : Int
  tu : Int
def anyI (ks : List Int) : Bool := ks.any (fun k => decide (k ≠ 0))
def keysI (ks : List Int) : Bool := ks.all (fun k => inI k 0 9999)
def regI (ks : List Int) (i : Int) : Bool := decide (ks.getD i.toNat 0 ≠ 0)
def Hd.mid (h : Hd) : Bool := if h.kd = 0 then decide (h.ho = -1) else if allI h.kd then decide (h.ho = -1) && anyI h.ks else kiI h.kd && inI h.ho 0 3 && regI h.ks h.ho
def Hd.ok (h : Hd) : Bool := decide (h.ks.length = 4) && inI h.tu 0 1000000000 && keysI h.ks && h.mid
def Hd.holds (h : Hd) (i : Int) : Bool := decide (h.kd ≠ 0) && (decide (h.ho = i) || (allI h.kd && regI h.ks i))
def Hd.may (h : Hd) (i : Int) (w : Bool) : Bool := mayI h.kd w (h.holds i) (regI h.ks i)
def Hd.Reg (h : Hd) (i : Int) : Bool := h.ok && inI i 0 3 && regI h.ks i
def Hd.Hol (h : Hd) (i : Int) : Bool := h.ok && inI i 0 3 && h.holds i
def Hd.May (h : Hd) (i : Int) (w : Bool) : Bool := h.ok && inI i 0 3 && h.may i w
def Hd.new : Hd := ⟨[0, 0, 0, 0], 0, -1, 0⟩
theorem Hd.ok_len {h : Hd} (e : h.ok = true) : h.ks.length = 4 := by
  unfold Hd.ok at e
  simp only [Bool.and_eq_true, decide_eq_true_eq] at e
  exact e.1.1.1
theorem any_take (ks : List Int) (j : Nat) (h : j < ks.length) (h0 : anyI (ks.take j) = false) (hx : ks.getD j 0 = 0) : anyI (ks.take (j + 1)) = false := by
  unfold anyI at *
  rw [List.take_succ_eq_append_getElem h, List.any_append, h0]
  have : ks[j] = 0 := by simpa [h] using hx
  simp [this]
theorem any_at (ks : List Int) (j : Nat) (h : j < ks.length) (hx : ks.getD j 0 ≠ 0) : anyI ks = true := by
  unfold anyI
  rw [List.any_eq_true]
  exact ⟨ks[j], List.getElem_mem h, by simpa [h] using hx⟩
theorem keys_take (ks : List Int) (j : Nat) (h : j < ks.length) (h0 : keysI (ks.take j) = true) (hx : inI (ks.getD j 0) 0 9999 = true) : keysI (ks.take (j + 1)) = true := by
  unfold keysI at *
  rw [List.take_succ_eq_append_getElem h, List.all_append, h0]
  have : inI ks[j] 0 9999 = true := by simpa [h] using hx
  simp [this]
theorem keys_not (ks : List Int) (j : Nat) (h : j < ks.length) (hx : inI (ks.getD j 0) 0 9999 = false) : keysI ks = false := by
  unfold keysI
  rw [List.all_eq_false]
  exact ⟨ks[j], List.getElem_mem h, by have : inI ks[j] 0 9999 = false := by { simpa [h] using hx }; simp [this]⟩
end Go.Proofs.YtlkkpolnllbljaaGreatDoor
