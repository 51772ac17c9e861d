/- Frames as lists of bytes; what l4Framed and Framed of the model answer. -/
import Derived.Test.YtjbfncjdedigdaaM3
import Derived.Test.YtjbfncjdedigdaaRows
import Derived.Test.YtjbfncjdedigdaaM1
import Derived.WalkKit
import Derived.ProofKit
import Derived.OpenShut
import Derived.WalkSmall
import Derived.WalkSpells
import Derived.BigQuiet
import Derived.Below
import Derived.Laws.Tables
import Derived.Laws.ResultCell
import Derived.Test.YtjbfncjdedigdaaNums
namespace Go.Proofs.Ytjbfncjdedigdaa
open Go.ChangeShapes Go.WideShapes Go.ChangeAt Go.RowKit

def framed (l : Bs) : Bs := dec l.length ++ [32] ++ dec (chk l).toNat ++ [32] ++ l ++ [10]
def framedS (l : Bs) : Bs := if plainB l then framed l else []

theorem decI_nat (n : Nat) : decI n = dec n := by simp [decI]
theorem chk_cast (l : Bs) : ((chk l).toNat : Int) = chk l := by have := (chk_bd l).1; omega
theorem app (a b : Bs) : (({ data := a.toArray } : ByteArray) ++ { data := b.toArray }) = { data := (a ++ b).toArray } := ByteArray.mk_append_mk a b
theorem bsize (a : Bs) : ({ data := a.toArray } : ByteArray).size = a.length := rfl
end Go.Proofs.Ytjbfncjdedigdaa
/- The first frame of a text, as plain lists; what l4First of the model answers. -/
namespace Go.Proofs.Ytjbfncjdedigdaa
open Go.ChangeShapes Go.WideShapes Go.ChangeAt Go.RowKit

def lineN (s : Bs) : Nat := (s.takeWhile (fun b => b != 10)).length
theorem lineN_le (s : Bs) : lineN s ≤ s.length := by
  unfold lineN
  exact (List.takeWhile_prefix _).length_le
theorem lineN_cons (b : UInt8) (s : Bs) : lineN (b :: s) = if b = 10 then 0 else lineN s + 1 := by
  unfold lineN
  by_cases h : b = 10
  · simp [h]
  · simp [h]
theorem lineN_app (t r : Bs) (h : t.all (fun b => b != 10) = true) : lineN (t ++ r) = t.length + lineN r := by
  induction t with
  | nil => simp
  | cons b t ih =>
    simp at h
    rw [List.cons_append, lineN_cons, if_neg h.1, ih (by simpa using h.2)]
    simp; omega
theorem lineN_hit (s : Bs) (j : Nat) (h : (s.take j).all (fun b => b != 10) = true) (hj : j < s.length) (e : s[j] = 10) : lineN s = j := by
  have : s = s.take j ++ (10 :: s.drop (j + 1)) := by
    rw [← e, ← List.drop_eq_getElem_cons hj, List.take_append_drop]
  rw [this, lineN_app _ _ h, lineN_cons, if_pos rfl]
  simp; omega
theorem lineN_end (s : Bs) (h : (s.take s.length).all (fun b => b != 10) = true) : lineN s = s.length := by
  rw [List.take_length] at h
  have := lineN_app s [] h
  simpa [lineN] using this

def firstB (s : Bs) : Bs × Nat :=
  let e := lineN s
  if e = s.length ∨ 330 < e then ([], 0)
  else match splitB 32 (s.take e) with
    | a :: b :: _ :: _ =>
      let t := cutB s (a.length + b.length + 2) e
      if plainB t && decide (framed t = s.take (e + 1)) then (t, e + 1) else ([], 0)
    | _ => ([], 0)

theorem three_of {ps : List Bs} (h : ¬ ps.length < 3) : ∃ a b c rest, ps = a :: b :: c :: rest := by
  match ps, h with
  | [], h => simp at h
  | [_], h => simp at h
  | [_, _], h => simp at h
  | a :: b :: c :: rest, _ => exact ⟨a, b, c, rest, rfl⟩
theorem splitB_sum (c : UInt8) (l : Bs) : ((splitB c l).map List.length).sum + (splitB c l).length = l.length + 1 := by
  induction l with
  | nil => simp [splitB]
  | cons b t ih =>
    rw [splitB]
    split
    · simp; omega
    · cases h : splitB c t with
      | nil => exact absurd h (splitB_ne c t)
      | cons p ps => rw [h] at ih; simp [ahead] at ih ⊢; omega
end Go.Proofs.Ytjbfncjdedigdaa
/- Frames one behind the other: what Frames and Last of the model answer. -/
namespace Go.Proofs.Ytjbfncjdedigdaa
open Go.ChangeShapes Go.WideShapes Go.ChangeAt Go.RowKit

def framesN : Nat → Bs → List Bs × Nat
  | 0, _ => ([], 0)
  | k + 1, s => if (firstB s).2 = 0 then ([], 0) else ((firstB s).1 :: (framesN k (s.drop (firstB s).2)).1, (firstB s).2 + (framesN k (s.drop (firstB s).2)).2)
def framesB (s : Bs) : List Bs × Nat := framesN 2000 s
def FrInv (s : Bs) (out : List Bs) (a : Nat) : Prop := framesB s = (out ++ (framesN (2000 - out.length) (s.drop a)).1, a + (framesN (2000 - out.length) (s.drop a)).2)

theorem firstB_le (s : Bs) : (firstB s).2 ≤ s.length := by
  have h := lineN_le s
  unfold firstB
  dsimp only
  split
  · simp
  · rename_i hc
    split
    · split
      · simp; omega
      · simp
    · simp
theorem FrInv.start (s : Bs) : FrInv s [] 0 := by simp [FrInv, framesB]
theorem FrInv.next {s : Bs} {out : List Bs} {a : Nat} (h : FrInv s out a) (hl : out.length < 2000) (hn : (firstB (s.drop a)).2 ≠ 0) : FrInv s (out ++ [(firstB (s.drop a)).1]) (a + (firstB (s.drop a)).2) := by
  unfold FrInv at h ⊢
  rw [h]
  obtain ⟨k, hk⟩ : ∃ k, 2000 - out.length = k + 1 := ⟨2000 - out.length - 1, by omega⟩
  have hk2 : 2000 - (out ++ [(firstB (s.drop a)).1]).length = k := by simp; omega
  rw [hk, hk2, framesN, if_neg hn, List.drop_drop]
  simp [Nat.add_assoc]
theorem FrInv.stop {s : Bs} {out : List Bs} {a : Nat} (h : FrInv s out a) (hn : (firstB (s.drop a)).2 = 0 ∨ 2000 ≤ out.length) : framesB s = (out, a) := by
  rw [h]
  rcases hn with hn | hn
  · cases hk : 2000 - out.length with
    | zero => simp [framesN]
    | succ k => rw [framesN, if_pos hn]; simp
  · rw [show 2000 - out.length = 0 by omega]; simp [framesN]

theorem OwnS.lenle {w : World} {base : Nat} {v : Value} {xs : List Bs} (h : OwnS w base v xs) : xs.length ≤ 9223372036854775807 := by
  obtain ⟨_, cap, _, h1, ⟨h2, _⟩, _⟩ := h.reads
  unfold maxLen at h2
  omega

def lastB (s : Bs) : Bs := (framesB s).1.getLastD []
def hasB (s : Bs) : Bool := !(framesB s).1.isEmpty
end Go.Proofs.Ytjbfncjdedigdaa
/- What the law on frames asks, of plain lists of bytes: a frame is read from its own bytes, frames one behind the other are their texts, and cut anywhere what was whole ahead of the cut. -/
namespace Go.Proofs.Ytjbfncjdedigdaa
open Go.RowKit

theorem digit_ne (n : Nat) : digit n ≠ 10 ∧ digit n ≠ 32 := by
  have h := Nat.mod_lt n (show 0 < 10 by omega)
  unfold digit
  have : ∀ d, d < 10 → UInt8.ofNat (48 + d) ≠ 10 ∧ UInt8.ofNat (48 + d) ≠ 32 := by decide
  exact this _ h
theorem dec_ne (n : Nat) : ∀ b ∈ dec n, b ≠ 10 ∧ b ≠ 32 := by
  induction n using Nat.strongRecOn with
  | ind n ih =>
    intro b hb
    rw [dec] at hb
    split at hb
    · simp at hb; subst hb; exact digit_ne n
    · rcases List.mem_append.1 hb with h | h
      · exact ih (n / 10) (by omega) b h
      · simp at h; subst h; exact digit_ne n

theorem splitB_app (c : UInt8) (a r : Bs) (h : ∀ b ∈ a, b ≠ c) : splitB c (a ++ c :: r) = a :: splitB c r := by
  induction a with
  | nil => simp [splitB]
  | cons b a ih =>
    rw [List.cons_append, splitB, if_neg (h b (by simp)), ih (fun x hx => h x (by simp [hx]))]
    rfl

def body (t : Bs) : Bs := dec t.length ++ 32 :: (dec (chk t).toNat ++ 32 :: t)
theorem framed_body (t : Bs) : framed t = body t ++ [10] := by simp [framed, body]
theorem plain_ne {t : Bs} (h : plainB t = true) : ∀ b ∈ t, b ≠ 10 := by
  simp [plainB] at h; exact h.1
theorem plain_len {t : Bs} (h : plainB t = true) : t.length ≤ 300 := by
  simp [plainB] at h; exact h.2
theorem body_ne {t : Bs} (h : plainB t = true) : (body t).all (fun b => b != 10) = true := by
  rw [List.all_eq_true]
  intro b hb
  simp only [bne_iff_ne, ne_eq]
  unfold body at hb
  rcases List.mem_append.1 hb with hb | hb
  · exact (dec_ne _ b hb).1
  · rcases List.mem_cons.1 hb with rfl | hb
    · decide
    · rcases List.mem_append.1 hb with hb | hb
      · exact (dec_ne _ b hb).1
      · rcases List.mem_cons.1 hb with rfl | hb
        · decide
        · exact plain_ne h b hb
theorem body_len {t : Bs} (h : plainB t = true) : (body t).length ≤ 330 := by
  have h1 := dec_len 2 t.length (by have := plain_len h; omega)
  have h2 := dec_len 5 (chk t).toNat (by have := chk_bd t; omega)
  have h3 := plain_len h
  simp [body]; omega
theorem framed_len (t : Bs) : (framed t).length = (body t).length + 1 := by simp [framed_body]
theorem cut_mid (a b : Bs) (n : Nat) (h : n = a.length) (m : Nat) (hm : m = (a ++ b).length) (r : Bs) : cutB (a ++ b ++ r) n m = b := by
  subst h hm
  unfold cutB
  rw [List.take_left, List.drop_left]

/- A frame is read from its own bytes, whatever lies behind it. -/
theorem firstB_yes {t : Bs} (h : plainB t = true) (r : Bs) : firstB (framed t ++ r) = (t, (framed t).length) := by
  have hl : lineN (framed t ++ r) = (body t).length := by
    rw [framed_body, List.append_assoc, lineN_app _ _ (body_ne h)]
    simp [lineN_cons]
  have hb := body_len h
  have hf := framed_len t
  have htake : (framed t ++ r).take (body t).length = body t := by
    rw [framed_body, List.append_assoc, List.take_left]
  have htake1 : (framed t ++ r).take ((body t).length + 1) = framed t := by
    rw [← hf, List.take_left]
  have hsp : splitB 32 (body t) = dec t.length :: dec (chk t).toNat :: splitB 32 t := by
    unfold body
    rw [splitB_app 32 _ _ (fun b hb => (dec_ne _ b hb).2), splitB_app 32 _ _ (fun b hb => (dec_ne _ b hb).2)]
  have hcut : cutB (framed t ++ r) ((dec t.length).length + (dec (chk t).toNat).length + 2) (body t).length = t := by
    have e : framed t ++ r = (dec t.length ++ 32 :: (dec (chk t).toNat ++ [32])) ++ t ++ (10 :: r) := by simp [framed]
    rw [e]
    refine cut_mid _ _ _ (by simp; omega) _ ?_ _
    simp [body]
  unfold firstB
  rw [hl]
  have hno : ¬ ((body t).length = (framed t ++ r).length ∨ 330 < (body t).length) := by
    rw [List.length_append, hf]; omega
  simp only [hno, if_false, htake, htake1, hsp]
  cases hs : splitB 32 t with
  | nil => exact absurd hs (splitB_ne 32 t)
  | cons p ps =>
    simp only [hcut]
    simp [h, hf]

theorem firstB_sound (s : Bs) (h : (firstB s).2 ≠ 0) : plainB (firstB s).1 = true ∧ framed (firstB s).1 = s.take (firstB s).2 ∧ (firstB s).2 = (framed (firstB s).1).length := by
  have hl := lineN_le s
  unfold firstB at h ⊢
  dsimp only at h ⊢
  split at h
  · exact absurd rfl h
  · rename_i hno
    rw [if_neg hno] at ⊢
    split at h
    · rename_i a b c rest heq
      split at h
      · rename_i hc
        simp only [Bool.and_eq_true, decide_eq_true_eq] at hc
        simp only [hc, decide_true, Bool.and_self, if_true]
        refine ⟨trivial, trivial, ?_⟩
        simp; omega
      · exact absurd rfl h
    · exact absurd rfl h
theorem firstB_zero (s : Bs) (h : (firstB s).2 = 0) : firstB s = ([], 0) := by
  unfold firstB at h ⊢
  dsimp only at h ⊢
  split
  · rfl
  · rename_i hno
    rw [if_neg hno] at h
    split
    · rename_i a b c rest heq
      simp only [heq] at h
      split
      · rename_i hc
        rw [if_pos hc] at h
        simp at h
      · rfl
    · rfl

def cat (ts : List Bs) : Bs := (ts.map framed).flatten
theorem cat_cons (t : Bs) (ts : List Bs) : cat (t :: ts) = framed t ++ cat ts := by simp [cat]
theorem cat_snoc (ts : List Bs) (t : Bs) : cat (ts ++ [t]) = cat ts ++ framed t := by simp [cat]
theorem framed_pos (t : Bs) : 0 < (framed t).length := by rw [framed_len]; omega

theorem framesN_cat (ts : List Bs) (r : Bs) (hp : ∀ t ∈ ts, plainB t = true) (k : Nat) (hk : ts.length ≤ k) (hr : k = ts.length ∨ (firstB r).2 = 0) : framesN k (cat ts ++ r) = (ts, (cat ts).length) := by
  induction ts generalizing k with
  | nil =>
    cases k with
    | zero => simp [framesN, cat]
    | succ k =>
      have h0 : (firstB r).2 = 0 := by
        rcases hr with h | h
        · simp at h
        · exact h
      rw [framesN]
      simp [cat, h0]
  | cons t ts ih =>
    cases k with
    | zero => simp at hk
    | succ k =>
      have ht := firstB_yes (hp t (by simp)) (cat ts ++ r)
      have hpos := framed_pos t
      rw [framesN, cat_cons, List.append_assoc, ht]
      have hne : ¬ (framed t).length = 0 := by omega
      simp only [hne, if_false, List.drop_left]
      rw [ih (fun x hx => hp x (by simp [hx])) k (by simpa using hk) (by rcases hr with h | h; exact .inl (by simpa using h); exact .inr h)]
      simp
theorem framesN_sound (k : Nat) : ∀ s : Bs, (∀ t ∈ (framesN k s).1, plainB t = true) ∧ s.take (framesN k s).2 = cat (framesN k s).1 ∧ (framesN k s).2 = (cat (framesN k s).1).length ∧ (framesN k s).1.length ≤ k := by
  induction k with
  | zero => intro s; simp [framesN, cat]
  | succ k ih =>
    intro s
    rw [framesN]
    by_cases h : (firstB s).2 = 0
    · simp [h, cat]
    · obtain ⟨h1, h2, h3⟩ := firstB_sound s h
      obtain ⟨i1, i2, i3, i4⟩ := ih (s.drop (firstB s).2)
      simp only [h, if_false]
      refine ⟨fun t ht => ?_, ?_, ?_, ?_⟩
      · rcases List.mem_cons.1 ht with rfl | ht
        · exact h1
        · exact i1 t ht
      · rw [cat_cons, List.take_add, i2, ← h2]
      · rw [cat_cons, List.length_append, ← i3, ← h3]
      · simp; omega
theorem framesB_sound (s : Bs) : (∀ t ∈ (framesB s).1, plainB t = true) ∧ s.take (framesB s).2 = cat (framesB s).1 ∧ (framesB s).2 = (cat (framesB s).1).length ∧ (framesB s).1.length ≤ 2000 := framesN_sound 2000 s
theorem framesB_le (s : Bs) : (framesB s).2 ≤ s.length := by
  obtain ⟨_, h2, h3, _⟩ := framesB_sound s
  have := congrArg List.length h2
  rw [List.length_take] at this
  omega
theorem firstB_line {q : Bs} (h : q.all (fun b => b != 10) = true) : (firstB q).2 = 0 := by
  have : lineN q = q.length := lineN_end q (by rw [List.take_length]; exact h)
  simp [firstB, this]
/- Cut in the midst of the last frame: what was whole ahead of it. -/
theorem framesB_cut (s : Bs) (ts : List Bs) (t : Bs) (p : Nat) (h : (framesB s).1 = ts ++ [t]) (hp : p < (framed t).length) :
    framesB (s.take ((framesB s).2 - 1 - p)) = (ts, (framesB s).2 - (framed t).length) := by
  obtain ⟨h1, h2, h3, h4⟩ := framesB_sound s
  rw [h] at h1 h2 h3 h4
  rw [cat_snoc] at h2 h3
  rw [List.length_append] at h3
  have ht := h1 t (by simp)
  have hcut : s.take ((framesB s).2 - 1 - p) = cat ts ++ (body t).take ((framed t).length - 1 - p) := by
    have e1 : s.take ((framesB s).2 - 1 - p) = (s.take (framesB s).2).take ((framesB s).2 - 1 - p) := by rw [List.take_take]; congr 1; omega
    rw [e1, h2, List.take_append, List.take_of_length_le (by omega)]
    congr 1
    have hfl := framed_len t
    have e2 : (framesB s).2 - 1 - p - (cat ts).length = (framed t).length - 1 - p := by omega
    rw [e2]
    have e3 : (framed t).length - 1 - p ≤ (body t).length := by omega
    generalize (framed t).length - 1 - p = m at e3 ⊢
    rw [framed_body, List.take_append_of_le_length e3]
  rw [hcut]
  have hz : (firstB ((body t).take ((framed t).length - 1 - p))).2 = 0 := firstB_line (by
    rw [List.all_eq_true]
    intro b hb
    exact List.all_eq_true.1 (body_ne ht) b (List.mem_of_mem_take hb))
  have := framesN_cat ts _ (fun x hx => h1 x (by simp [hx])) 2000 (by simp at h4; omega) (.inr hz)
  rw [framesB, this]
  congr 1
  omega
theorem framesB_twice (t : Bs) (h : plainB t = true) : framesB (framed t ++ framed t) = ([t, t], 2 * (framed t).length) := by
  have := framesN_cat [t, t] [] (by simp [h]) 2000 (by simp) (.inr (firstB_line (by simp)))
  rw [framesB]
  simp only [cat, List.map_cons, List.map_nil, List.flatten_cons, List.flatten_nil, List.append_nil] at this
  rw [this]
  simp; omega
end Go.Proofs.Ytjbfncjdedigdaa
/- More of the law on frames, of plain lists: the frames one behind the other, up to the j-th. -/
namespace Go.Proofs.Ytjbfncjdedigdaa
open Go.RowKit

theorem cat_take (xs : List Bs) (j : Nat) (h : j < xs.length) : cat (xs.take (j + 1)) = cat (xs.take j) ++ framed (xs.getD j []) := by
  rw [List.take_succ_eq_append_getElem h, cat_snoc]
  simp [h]
theorem cat_take_len (xs : List Bs) (j : Nat) : (cat (xs.take j)).length ≤ (cat xs).length := by
  have h2 : cat xs = cat (xs.take j) ++ cat (xs.drop j) := by rw [cat, cat, cat, ← List.flatten_append, ← List.map_append, List.take_append_drop]
  rw [h2, List.length_append]
  omega
theorem plainB_len {l : Bs} (h : plainB l = true) : l.length ≤ 300 := by
  simp only [plainB, Bool.and_eq_true, decide_eq_true_eq] at h
  exact h.2
theorem framedS_yes {l : Bs} (h : plainB l = true) : framedS l = framed l := by simp [framedS, h]
theorem getD_mem (xs : List Bs) (j : Nat) (h : j < xs.length) : xs.getD j [] ∈ xs := by simp [h]
/- A list that isn't empty is its front and its last. -/
theorem last_split (xs : List Bs) (h : 0 < xs.length) : xs = xs.take (xs.length - 1) ++ [xs.getLastD []] := by
  have hne : xs ≠ [] := fun e => by subst e; simp at h
  have h1 := List.dropLast_concat_getLast hne
  rw [← List.dropLast_eq_take, List.getLastD_eq_getLast?, List.getLast?_eq_some_getLast hne]
  exact h1.symm
end Go.Proofs.Ytjbfncjdedigdaa
/- A record is four numbers, in a block of four cells. -/
namespace Go.Proofs.Ytjbfncjdedigdaa
open Go.ChangeShapes Go.WideShapes Go.ChangeAt Go.RowKit

/- A record is four numbers. -/
structure Rc where
  e : Int
  s : Int
  t : Int
  n : Int
def sameR (r q : Rc) : Bool := decide (r.e = q.e) && decide (r.s = q.s) && decide (r.t = q.t) && decide (r.n = q.n)
theorem sameR_self (r : Rc) : sameR r r = true := by simp [sameR]
def Rc.zero : Rc := ⟨0, 0, 0, 0⟩
def epI (n : Int) : Bool := decide (0 ≤ n) && decide (n ≤ 100000)
def stI (n : Int) : Bool := decide (1 ≤ n) && decide (n ≤ 3)
def Rc.ok (r : Rc) : Bool := epI r.e && stI r.s && epI r.t && epI r.n
def Rc.Fit (r : Rc) : Prop := (-9223372036854775808 ≤ r.e ∧ r.e ≤ 9223372036854775807) ∧ (-9223372036854775808 ≤ r.s ∧ r.s ≤ 9223372036854775807) ∧ (-9223372036854775808 ≤ r.t ∧ r.t ≤ 9223372036854775807) ∧ (-9223372036854775808 ≤ r.n ∧ r.n ≤ 9223372036854775807)
theorem Rc.ok_iff (r : Rc) : r.ok = true ↔ (0 ≤ r.e ∧ r.e ≤ 100000) ∧ (1 ≤ r.s ∧ r.s ≤ 3) ∧ (0 ≤ r.t ∧ r.t ≤ 100000) ∧ (0 ≤ r.n ∧ r.n ≤ 100000) := by
  simp [Rc.ok, epI, stI, and_assoc]
def recA (r : Rc) : Array Value := #[.int .i64 r.e, .int .i64 r.s, .int .i64 r.t, .int .i64 r.n]
def RV (r : Rc) : Value := .agg (recA r)

set_option maxRecDepth 20000 in
set_option maxHeartbeats 400000 in
theorem sinN_any (x lo hi : Int) (w : World) :
    Calls Try.prog 55 #[.int .i64 x, .int .i64 lo, .int .i64 hi] w fun e w' => e = .returned (.bool (decide (lo ≤ x) && decide (x ≤ hi))) ∧ w' = w := by
  by_cases h0 : lo ≤ x
  · by_cases h1 : x ≤ hi
    · have he : (decide (lo ≤ x) && decide (x ≤ hi)) = true := by simp [h0, h1]
      rw [he]
      clear he
      go_enter Try.func55, Try.ntmps55
      go_wp2
      go_ret
      exact ⟨ret_bool (by simp), rfl⟩
    · have he : (decide (lo ≤ x) && decide (x ≤ hi)) = false := by simp [h1]
      rw [he]
      clear he
      go_enter Try.func55, Try.ntmps55
      go_wp2
      go_ret
      exact ⟨ret_bool (by simp), rfl⟩
  · have he : (decide (lo ≤ x) && decide (x ≤ hi)) = false := by simp [h0]
    rw [he]
    clear he
    go_enter Try.func55, Try.ntmps55
    go_wp2
    go_ret
    exact ⟨ret_bool (by simp), rfl⟩

set_option maxRecDepth 20000 in
set_option maxHeartbeats 400000 in
theorem sepoch_any (x : Int) (w : World) :
    Calls Try.prog 56 #[.int .i64 x] w fun e w' => e = .returned (.bool (epI x)) ∧ w' = w := by
  have c1 := sinN_any x 0 100000 w
  unfold epI
  go_enter Try.func56, Try.ntmps56
  go_wp2_with fail
  refine c1.mono ?_
  rintro e w' ⟨rfl, hw⟩; subst w'
  clear c1
  go_wp2_with fail
  go_ret
  exact ⟨rfl, rfl⟩

set_option maxRecDepth 20000 in
set_option maxHeartbeats 400000 in
theorem iepoch_any (x : Int) (w : World) :
    Calls Try.prog 68 #[.int .i64 x] w fun e w' => e = .returned (.bool (epI x)) ∧ w' = w := by
  by_cases h0 : 0 ≤ x
  · by_cases h1 : x ≤ 100000
    · have he : epI x = true := by simp [epI, h0, h1]
      rw [he]
      clear he
      go_enter Try.func68, Try.ntmps68
      go_wp2
      go_ret
      exact ⟨ret_bool (by simp), rfl⟩
    · have he : epI x = false := by simp [epI, h1]
      rw [he]
      clear he
      go_enter Try.func68, Try.ntmps68
      go_wp2
      go_ret
      exact ⟨ret_bool (by simp), rfl⟩
  · have he : epI x = false := by simp [epI, h0]
    rw [he]
    clear he
    go_enter Try.func68, Try.ntmps68
    go_wp2
    go_ret
    exact ⟨ret_bool (by simp), rfl⟩
end Go.Proofs.Ytjbfncjdedigdaa
/- Records as plain numbers: how one number is read, how a record is shown and read. -/
namespace Go.Proofs.Ytjbfncjdedigdaa
open Go.RowKit

/- How a record is shown and read. -/
def recW : Bs := [114, 101, 99, 111, 114, 100]
def showR (r : Rc) : Bs := recW ++ 32 :: (decI r.e ++ 32 :: (decI r.s ++ 32 :: (decI r.t ++ 32 :: decI r.n)))
def showS (r : Rc) : Bs := if r.ok then showR r else []
def recOf (ws : List Bs) : Rc := ⟨num (ws.getD 0 []), num (ws.getD 1 []), num (ws.getD 2 []), num (ws.getD 3 [])⟩
def goodW (ws : List Bs) : Bool := decide (ws.length = 4) && ws.all okN && (recOf ws).ok
def readR (s : Bs) : Option Rc := if (splitB 32 s).head? = some recW ∧ goodW (splitB 32 s).tail = true then some (recOf (splitB 32 s).tail) else none

theorem splitB_show (r : Rc) (h : r.ok = true) : splitB 32 (showR r) = [recW, dec r.e.toNat, dec r.s.toNat, dec r.t.toNat, dec r.n.toNat] := by
  rw [Rc.ok_iff] at h
  unfold showR
  rw [decI_pos h.1.1, decI_pos (by omega : 0 ≤ r.s), decI_pos h.2.2.1.1, decI_pos h.2.2.2.1]
  have hr : ∀ b ∈ recW, b ≠ 32 := by decide
  have hd : ∀ n, ∀ b ∈ dec n, b ≠ 32 := fun n b hb => (dec_ne n b hb).2
  rw [splitB_app 32 _ _ hr, splitB_app 32 _ _ (hd _), splitB_app 32 _ _ (hd _), splitB_app 32 _ _ (hd _), splitB_word 32 _ (hd _)]
/- What is shown is read. -/
theorem readR_show (r : Rc) (h : r.ok = true) : readR (showR r) = some r := by
  have hs := splitB_show r h
  have hk := (Rc.ok_iff r).1 h
  obtain ⟨a1, a2⟩ := read_dec r.e.toNat (by omega)
  obtain ⟨b1, b2⟩ := read_dec r.s.toNat (by omega)
  obtain ⟨c1, c2⟩ := read_dec r.t.toNat (by omega)
  obtain ⟨d1, d2⟩ := read_dec r.n.toNat (by omega)
  have hr : recOf [dec r.e.toNat, dec r.s.toNat, dec r.t.toNat, dec r.n.toNat] = r := by
    unfold recOf
    simp only [List.getD_cons_zero, List.getD_cons_succ, a2, b2, c2, d2]
    obtain ⟨e, s, t, n⟩ := r
    dsimp only at hk ⊢
    simp only [Rc.mk.injEq]
    omega
  unfold readR
  rw [hs]
  simp only [List.head?_cons, List.tail_cons, hr]
  have hg : goodW [dec r.e.toNat, dec r.s.toNat, dec r.t.toNat, dec r.n.toNat] = true := by
    unfold goodW
    rw [hr, h]
    simp [a1, b1, c1, d1]
  simp [hg]
/- What is read is shown so. -/
theorem showR_read (s : Bs) (r : Rc) (h : readR s = some r) : r.ok = true ∧ showR r = s := by
  unfold readR at h
  split at h
  · rename_i hc
    obtain ⟨h1, h2⟩ := hc
    simp only [Option.some.injEq] at h
    have hj := joinB_split 32 s
    cases hs : splitB 32 s with
    | nil => exact absurd hs (splitB_ne 32 s)
    | cons w0 ws =>
      rw [hs] at h1 h2 h hj
      simp only [List.head?_cons, Option.some.injEq, List.tail_cons] at h1 h2 h
      unfold goodW at h2
      simp only [Bool.and_eq_true, decide_eq_true_eq] at h2
      obtain ⟨⟨h4, ha⟩, hk⟩ := h2
      rw [h] at hk
      match ws, h4 with
      | [a, b, c, d], _ =>
        have hk' := (Rc.ok_iff r).1 hk
        refine ⟨hk, ?_⟩
        simp only [List.all_cons, List.all_nil, Bool.and_true, Bool.and_eq_true] at ha
        subst h h1
        simp only [recOf, List.getD_cons_zero, List.getD_cons_succ] at hk' ⊢
        unfold showR
        simp only
        rw [decI_pos hk'.1.1, decI_pos (by omega : 0 ≤ num b), decI_pos hk'.2.2.1.1, decI_pos hk'.2.2.2.1]
        rw [read_back a ha.1 hk'.1.1, read_back b ha.2.1 (by omega), read_back c ha.2.2.1 hk'.2.2.1.1, read_back d ha.2.2.2 hk'.2.2.2.1]
        rw [← hj]
        simp [joinB]
  · simp at h
theorem readR_ok (s : Bs) (r : Rc) (h : readR s = some r) : r.ok = true := (showR_read s r h).1
end Go.Proofs.Ytjbfncjdedigdaa
