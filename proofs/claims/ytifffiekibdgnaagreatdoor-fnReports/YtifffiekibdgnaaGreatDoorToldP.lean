/- How a holding is read where each word is read by Go's own library, and what was read is held against the text. -/
import Derived.Test.YtifffiekibdgnaaGreatDoorSTold3
import Derived.Test.YtifffiekibdgnaaGreatDoorCut
import Derived.Lib.ParseIntBTie
namespace Go.Proofs.YtifffiekibdgnaaGreatDoor
open Go.RowKit

def valN (acc : Nat) (l : Bs) : Nat := l.foldl (fun n b => n * 10 + (b.toNat - 48)) acc
theorem isDig_nat {b : UInt8} (h : isDig b = true) : 48 ≤ b.toNat ∧ b.toNat ≤ 57 := by
  have := (isDig_iff b).1 h
  unfold byteI at this
  omega
theorem val_nat (l : Bs) (h : l.all isDig = true) : ∀ acc : Nat, l.foldl (fun n b => n * 10 + (byteI b - 48)) (acc : Int) = (valN acc l : Int) := by
  induction l with
  | nil => intro acc; rfl
  | cons b l ih =>
    intro acc
    rw [List.all_cons, Bool.and_eq_true] at h
    have hb := isDig_nat h.1
    have e : (acc : Int) * 10 + (byteI b - 48) = ((acc * 10 + (b.toNat - 48) : Nat) : Int) := by unfold byteI; omega
    rw [List.foldl_cons, e, ih h.2]
    rfl
theorem parseM_digs (l : Bs) (h : l.all isDig = true) : ∀ acc : Nat, (acc + 1) * 10 ^ l.length ≤ 100000000000 → Lib.parseUintM (2 ^ 64 - 1) acc l = .ok (valN acc l) := by
  induction l with
  | nil => intro acc _; rfl
  | cons b l ih =>
    intro acc hb
    rw [List.all_cons, Bool.and_eq_true] at h
    have hd := isDig_nat h.1
    rw [List.length_cons, Nat.pow_succ] at hb
    have hp : 1 ≤ 10 ^ l.length := Nat.pow_pos (by omega)
    have h1 : (acc + 1) * 10 ≤ (acc + 1) * (10 ^ l.length * 10) := Nat.mul_le_mul_left _ (by omega)
    have h2 : (acc * 10 + (b.toNat - 48) + 1) * 10 ^ l.length ≤ (acc + 1) * (10 ^ l.length * 10) := by
      rw [show (acc + 1) * (10 ^ l.length * 10) = ((acc + 1) * 10) * 10 ^ l.length by rw [Nat.mul_comm (10 ^ l.length) 10, Nat.mul_assoc]]
      exact Nat.mul_le_mul_right _ (by omega)
    have e64 : (2 : Nat) ^ 64 - 1 = 18446744073709551615 := by decide
    rw [Lib.parseUintM, if_pos hd, if_neg (by omega), if_neg (by rw [e64]; omega), ih h.2 _ (by omega)]
    rfl
theorem parseB_digs (l : Bs) (h : l.all isDig = true) (h0 : l ≠ []) (hl : l.length ≤ 10) : ∃ u : Nat, Lib.parseUintB 64 l = .ok u ∧ (u : Int) = val l ∧ u < 10000000000 := by
  have hb : (0 + 1) * 10 ^ l.length ≤ 100000000000 := by
    have := Nat.pow_le_pow_right (show 0 < 10 by omega) hl
    omega
  refine ⟨valN 0 l, ?_, (val_nat l h 0).symm, ?_⟩
  · rw [Lib.parseUintB, if_neg h0, parseM_digs l h 0 hb]
  · have h1 := val_ten l h hl
    have h2 := val_nat l h 0
    unfold val at h1
    rw [show ((0 : Nat) : Int) = 0 from rfl] at h2
    rw [h2] at h1
    omega
/- A number of at most ten digits is read by the library, too. -/
theorem parse_okT (l : Bs) (h : okT l = true) : Lib.parseIntB 64 l = .ok (numT l) := by
  have ok := h
  rw [okT_iff] at h
  obtain ⟨h1, h2, h3, -⟩ := h
  have hne : digs l ≠ [] := by intro e; rw [e] at h1; simp at h1
  obtain ⟨u, hu, hv, hlt⟩ := parseB_digs (digs l) h3 hne h2
  have e63 : (2 : Nat) ^ (64 - 1) = 9223372036854775808 := by decide
  unfold numT
  rw [if_pos ok]
  cases hng : neg l with
  | true =>
    cases l with
    | nil => simp [neg] at hng
    | cons b t =>
      have hb : b = 45 := by simpa [neg] using hng
      subst hb
      have hd : digs (45 :: t) = t := by simp [digs, offN, neg]
      rw [hd] at hu hv
      rw [Lib.parseIntB_minus, hu, hd, ← hv]
      simp only [Lib.signedC, e63]
      rw [if_neg (by omega)]
      simp
  | false =>
    have hd : digs l = l := by simp [digs, offN, hng]
    rw [hd] at hu hv h3 hne
    cases l with
    | nil => exact absurd rfl hne
    | cons b t =>
      rw [List.all_cons, Bool.and_eq_true] at h3
      have hb := isDig_nat h3.1
      rw [Lib.parseIntB_plain 64 b t (by omega) (by omega), hu, hd, ← hv]
      simp only [Lib.signlessC, e63]
      rw [if_neg (by omega)]
      simp

def pOk (l : Bs) : Bool := match Lib.parseIntB 64 l with | .ok _ => true | _ => false
def pNum (l : Bs) : Int := match Lib.parseIntB 64 l with | .ok v => v | _ => 0
theorem pOk_okT {l : Bs} (h : okT l = true) : pOk l = true ∧ pNum l = numT l := by simp [pOk, pNum, parse_okT l h]
theorem okT_pOk {l : Bs} (h : pOk l = false) : okT l = false := by
  cases e : okT l with
  | false => rfl
  | true => rw [(pOk_okT e).1] at h; cases h
theorem pNum_fits (l : Bs) : -9223372036854775808 ≤ pNum l ∧ pNum l ≤ 9223372036854775807 := by
  unfold pNum
  split
  · rename_i v h
    have := Lib.parseIntB_bounds h
    have e63 : (2 : Nat) ^ (64 - 1) = 9223372036854775808 := by decide
    rw [e63] at this
    omega
  · omega

def words7 (s : Bs) : List Bs := splitN 32 (min 8 (s.length + 1) - 1) s
theorem words7_or (s : Bs) : words7 s = splitB 32 s ∨ ((words7 s).length ≠ 7 ∧ (splitB 32 s).length ≠ 7) := by
  unfold words7
  rcases splitN_or 32 (min 8 (s.length + 1) - 1) s with e | ⟨e1, e2⟩
  · exact .inl e
  · right
    have := splitB_len 32 s
    omega
theorem words7_len {s : Bs} (h : (words7 s).length ≠ 7) : readH s = none := by
  rcases words7_or s with e | e
  · rw [e] at h; exact readH_len h
  · exact readH_len e.2
theorem words7_eq {s : Bs} (h : (words7 s).length = 7) : words7 s = splitB 32 s := by
  rcases words7_or s with e | e
  · exact e
  · exact absurd h e.1
theorem words7_bad {s : Bs} {j : Nat} (h : (words7 s).length = 7) (hj : j < 7) (hp : pOk ((words7 s).getD j []) = false) : readH s = none := by
  rw [words7_eq h] at hp h
  exact readH_num (j := j) (by omega) (okT_pOk hp)
def seven (s : Bs) : Hd := hdOf ((words7 s).map pNum)
theorem seven_yes {s : Bs} (h : (words7 s).length = 7) (hs : (seven s).showT = s) : readH s = some (seven s) := by
  have hne : s ≠ [] := by rintro rfl; exact absurd h (by decide)
  unfold Hd.showT at hs
  cases e : (seven s).ok with
  | false => rw [e] at hs; exact absurd hs.symm hne
  | true =>
    rw [e, if_pos rfl] at hs
    have := readH_show e
    rwa [hs] at this
theorem seven_no {s : Bs} (h : (words7 s).length = 7) (hs : (seven s).showT ≠ s) : readH s = none := by
  cases e : readH s with
  | none => rfl
  | some g =>
    exfalso
    obtain ⟨hok, hsh⟩ := showH_read e
    have e2 := e
    unfold readH at e2
    split at e2
    · rename_i c
      simp only [Option.some.injEq] at e2
      have hg : seven s = g := by
        rw [← e2]
        unfold seven
        rw [words7_eq h]
        congr 1
        apply List.map_congr_left
        intro b hb
        exact (pOk_okT (List.all_eq_true.1 c.1.2 b hb)).2
      apply hs
      rw [hg]
      unfold Hd.showT
      rw [hok, if_pos rfl, hsh]
    · cases e2
end Go.Proofs.YtifffiekibdgnaaGreatDoor
