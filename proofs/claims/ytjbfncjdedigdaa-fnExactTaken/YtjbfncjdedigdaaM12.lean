/- More of the law on frames, of plain lists: the frames one behind the other, up to the j-th. -/
import Derived.Test.YtjbfncjdedigdaaM11
import Derived.Test.YtjbfncjdedigdaaRows
import Derived.Test.YtjbfncjdedigdaaM1
import Derived.WalkKit
import Derived.ProofKit
import Derived.OpenShut
import Derived.WalkSmall
import Derived.WalkSpells
import Derived.BigQuiet
import Derived.Below
import Derived.Laws.Tables
import Derived.Laws.ResultCell
import Derived.Test.YtjbfncjdedigdaaNums
namespace Go.Proofs.Ytjbfncjdedigdaa
open Go.RowKit

theorem cat_take (xs : List Bs) (j : Nat) (h : j < xs.length) : cat (xs.take (j + 1)) = cat (xs.take j) ++ framed (xs.getD j []) := by
  rw [List.take_succ_eq_append_getElem h, cat_snoc]
  simp [h]
theorem cat_take_len (xs : List Bs) (j : Nat) : (cat (xs.take j)).length ≤ (cat xs).length := by
  have h2 : cat xs = cat (xs.take j) ++ cat (xs.drop j) := by rw [cat, cat, cat, ← List.flatten_append, ← List.map_append, List.take_append_drop]
  rw [h2, List.length_append]
  omega
theorem plainB_len {l : Bs} (h : plainB l = true) : l.length ≤ 300 := by
  simp only [plainB, Bool.and_eq_true, decide_eq_true_eq] at h
  exact h.2
theorem framedS_yes {l : Bs} (h : plainB l = true) : framedS l = framed l := by simp [framedS, h]
theorem getD_mem (xs : List Bs) (j : Nat) (h : j < xs.length) : xs.getD j [] ∈ xs := by simp [h]
/- A list that isn't empty is its front and its last. -/
theorem last_split (xs : List Bs) (h : 0 < xs.length) : xs = xs.take (xs.length - 1) ++ [xs.getLastD []] := by
  have hne : xs ≠ [] := fun e => by subst e; simp at h
  have h1 := List.dropLast_concat_getLast hne
  rw [← List.dropLast_eq_take, List.getLastD_eq_getLast?, List.getLast?_eq_some_getLast hne]
  exact h1.symm
end Go.Proofs.Ytjbfncjdedigdaa
/- A record is four numbers, in a block of four cells. -/
namespace Go.Proofs.Ytjbfncjdedigdaa
open Go.ChangeShapes Go.WideShapes Go.ChangeAt Go.RowKit

/- A record is four numbers. -/
structure Rc where
  e : Int
  s : Int
  t : Int
  n : Int
def sameR (r q : Rc) : Bool := decide (r.e = q.e) && decide (r.s = q.s) && decide (r.t = q.t) && decide (r.n = q.n)
theorem sameR_self (r : Rc) : sameR r r = true := by simp [sameR]
def Rc.zero : Rc := ⟨0, 0, 0, 0⟩
def epI (n : Int) : Bool := decide (0 ≤ n) && decide (n ≤ 100000)
def stI (n : Int) : Bool := decide (1 ≤ n) && decide (n ≤ 3)
def Rc.ok (r : Rc) : Bool := epI r.e && stI r.s && epI r.t && epI r.n
def Rc.Fit (r : Rc) : Prop := (-9223372036854775808 ≤ r.e ∧ r.e ≤ 9223372036854775807) ∧ (-9223372036854775808 ≤ r.s ∧ r.s ≤ 9223372036854775807) ∧ (-9223372036854775808 ≤ r.t ∧ r.t ≤ 9223372036854775807) ∧ (-9223372036854775808 ≤ r.n ∧ r.n ≤ 9223372036854775807)
theorem Rc.ok_iff (r : Rc) : r.ok = true ↔ (0 ≤ r.e ∧ r.e ≤ 100000) ∧ (1 ≤ r.s ∧ r.s ≤ 3) ∧ (0 ≤ r.t ∧ r.t ≤ 100000) ∧ (0 ≤ r.n ∧ r.n ≤ 100000) := by
  simp [Rc.ok, epI, stI, and_assoc]
def recA (r : Rc) : Array Value := #[.int .i64 r.e, .int .i64 r.s, .int .i64 r.t, .int .i64 r.n]
def RV (r : Rc) : Value := .agg (recA r)

set_option maxRecDepth 20000 in
set_option maxHeartbeats 400000 in
theorem sinN_any (x lo hi : Int) (w : World) :
    Calls Try.prog 55 #[.int .i64 x, .int .i64 lo, .int .i64 hi] w fun e w' => e = .returned (.bool (decide (lo ≤ x) && decide (x ≤ hi))) ∧ w' = w := by
  by_cases h0 : lo ≤ x
  · by_cases h1 : x ≤ hi
    · have he : (decide (lo ≤ x) && decide (x ≤ hi)) = true := by simp [h0, h1]
      rw [he]
      clear he
      go_enter Try.func55, Try.ntmps55
      go_wp2
      go_ret
      exact ⟨ret_bool (by simp), rfl⟩
    · have he : (decide (lo ≤ x) && decide (x ≤ hi)) = false := by simp [h1]
      rw [he]
      clear he
      go_enter Try.func55, Try.ntmps55
      go_wp2
      go_ret
      exact ⟨ret_bool (by simp), rfl⟩
  · have he : (decide (lo ≤ x) && decide (x ≤ hi)) = false := by simp [h0]
    rw [he]
    clear he
    go_enter Try.func55, Try.ntmps55
    go_wp2
    go_ret
    exact ⟨ret_bool (by simp), rfl⟩

set_option maxRecDepth 20000 in
set_option maxHeartbeats 400000 in
theorem sepoch_any (x : Int) (w : World) :
    Calls Try.prog 56 #[.int .i64 x] w fun e w' => e = .returned (.bool (epI x)) ∧ w' = w := by
  have c1 := sinN_any x 0 100000 w
  unfold epI
  go_enter Try.func56, Try.ntmps56
  go_wp2_with fail
  refine c1.mono ?_
  rintro e w' ⟨rfl, hw⟩; subst w'
  clear c1
  go_wp2_with fail
  go_ret
  exact ⟨rfl, rfl⟩

set_option maxRecDepth 20000 in
set_option maxHeartbeats 400000 in
theorem iepoch_any (x : Int) (w : World) :
    Calls Try.prog 68 #[.int .i64 x] w fun e w' => e = .returned (.bool (epI x)) ∧ w' = w := by
  by_cases h0 : 0 ≤ x
  · by_cases h1 : x ≤ 100000
    · have he : epI x = true := by simp [epI, h0, h1]
      rw [he]
      clear he
      go_enter Try.func68, Try.ntmps68
      go_wp2
      go_ret
      exact ⟨ret_bool (by simp), rfl⟩
    · have he : epI x = false := by simp [epI, h1]
      rw [he]
      clear he
      go_enter Try.func68, Try.ntmps68
      go_wp2
      go_ret
      exact ⟨ret_bool (by simp), rfl⟩
  · have he : epI x = false := by simp [epI, h0]
    rw [he]
    clear he
    go_enter Try.func68, Try.ntmps68
    go_wp2
    go_ret
    exact ⟨ret_bool (by simp), rfl⟩
end Go.Proofs.Ytjbfncjdedigdaa
/- Records as plain numbers: how one number is read, how a record is shown and read. -/
namespace Go.Proofs.Ytjbfncjdedigdaa
open Go.RowKit

/- How a record is shown and read. -/
def recW : Bs := [114, 101, 99, 111, 114, 100]
def showR (r : Rc) : Bs := recW ++ 32 :: (decI r.e ++ 32 :: (decI r.s ++ 32 :: (decI r.t ++ 32 :: decI r.n)))
def showS (r : Rc) : Bs := if r.ok then showR r else []
def recOf (ws : List Bs) : Rc := ⟨num (ws.getD 0 []), num (ws.getD 1 []), num (ws.getD 2 []), num (ws.getD 3 [])⟩
def goodW (ws : List Bs) : Bool := decide (ws.length = 4) && ws.all okN && (recOf ws).ok
def readR (s : Bs) : Option Rc := if (splitB 32 s).head? = some recW ∧ goodW (splitB 32 s).tail = true then some (recOf (splitB 32 s).tail) else none

theorem splitB_show (r : Rc) (h : r.ok = true) : splitB 32 (showR r) = [recW, dec r.e.toNat, dec r.s.toNat, dec r.t.toNat, dec r.n.toNat] := by
  rw [Rc.ok_iff] at h
  unfold showR
  rw [decI_pos h.1.1, decI_pos (by omega : 0 ≤ r.s), decI_pos h.2.2.1.1, decI_pos h.2.2.2.1]
  have hr : ∀ b ∈ recW, b ≠ 32 := by decide
  have hd : ∀ n, ∀ b ∈ dec n, b ≠ 32 := fun n b hb => (dec_ne n b hb).2
  rw [splitB_app 32 _ _ hr, splitB_app 32 _ _ (hd _), splitB_app 32 _ _ (hd _), splitB_app 32 _ _ (hd _), splitB_word 32 _ (hd _)]
/- What is shown is read. -/
theorem readR_show (r : Rc) (h : r.ok = true) : readR (showR r) = some r := by
  have hs := splitB_show r h
  have hk := (Rc.ok_iff r).1 h
  obtain ⟨a1, a2⟩ := read_dec r.e.toNat (by omega)
  obtain ⟨b1, b2⟩ := read_dec r.s.toNat (by omega)
  obtain ⟨c1, c2⟩ := read_dec r.t.toNat (by omega)
  obtain ⟨d1, d2⟩ := read_dec r.n.toNat (by omega)
  have hr : recOf [dec r.e.toNat, dec r.s.toNat, dec r.t.toNat, dec r.n.toNat] = r := by
    unfold recOf
    simp only [List.getD_cons_zero, List.getD_cons_succ, a2, b2, c2, d2]
    obtain ⟨e, s, t, n⟩ := r
    dsimp only at hk ⊢
    simp only [Rc.mk.injEq]
    omega
  unfold readR
  rw [hs]
  simp only [List.head?_cons, List.tail_cons, hr]
  have hg : goodW [dec r.e.toNat, dec r.s.toNat, dec r.t.toNat, dec r.n.toNat] = true := by
    unfold goodW
    rw [hr, h]
    simp [a1, b1, c1, d1]
  simp [hg]
/- What is read is shown so. -/
theorem showR_read (s : Bs) (r : Rc) (h : readR s = some r) : r.ok = true ∧ showR r = s := by
  unfold readR at h
  split at h
  · rename_i hc
    obtain ⟨h1, h2⟩ := hc
    simp only [Option.some.injEq] at h
    have hj := joinB_split 32 s
    cases hs : splitB 32 s with
    | nil => exact absurd hs (splitB_ne 32 s)
    | cons w0 ws =>
      rw [hs] at h1 h2 h hj
      simp only [List.head?_cons, Option.some.injEq, List.tail_cons] at h1 h2 h
      unfold goodW at h2
      simp only [Bool.and_eq_true, decide_eq_true_eq] at h2
      obtain ⟨⟨h4, ha⟩, hk⟩ := h2
      rw [h] at hk
      match ws, h4 with
      | [a, b, c, d], _ =>
        have hk' := (Rc.ok_iff r).1 hk
        refine ⟨hk, ?_⟩
        simp only [List.all_cons, List.all_nil, Bool.and_true, Bool.and_eq_true] at ha
        subst h h1
        simp only [recOf, List.getD_cons_zero, List.getD_cons_succ] at hk' ⊢
        unfold showR
        simp only
        rw [decI_pos hk'.1.1, decI_pos (by omega : 0 ≤ num b), decI_pos hk'.2.2.1.1, decI_pos hk'.2.2.2.1]
        rw [read_back a ha.1 hk'.1.1, read_back b ha.2.1 (by omega), read_back c ha.2.2.1 hk'.2.2.1.1, read_back d ha.2.2.2 hk'.2.2.2.1]
        rw [← hj]
        simp [joinB]
  · simp at h
theorem readR_ok (s : Bs) (r : Rc) (h : readR s = some r) : r.ok = true := (showR_read s r h).1
end Go.Proofs.Ytjbfncjdedigdaa
