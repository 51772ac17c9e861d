/- Sets of blocks as plain numbers: what is in one, what it is with one more or one less, its least, and that Go's bit operations on them are just that. -/
import Derived.WalkKit
import Derived.Test.YtjbfncjdedigdaaRows
import Derived.ProofKit
import Derived.OpenShut
import Derived.WalkSmall
import Derived.WalkSpells
import Derived.BigQuiet
namespace Go.Proofs.Ytjbfncjdedigdaa
open Go.RowKit

theorem ret_int {k : IntKind} {a b : Int} (h : a = b) : Ending.returned (.int k a) = .returned (.int k b) := by rw [h]
theorem ret_bool {a b : Bool} (h : a = b) : Ending.returned (.bool a) = .returned (.bool b) := by rw [h]

def setOk (s : Int) : Bool := decide (0 ≤ s) && decide (s < 256)
def itemOk (i : Int) : Bool := decide (0 ≤ i) && decide (i < 8)
def inN (s i : Nat) : Bool := s / 2 ^ i % 2 == 1
def inB (s i : Int) : Bool := setOk s && itemOk i && inN s.toNat i.toNat
def withI (s i : Int) : Int := if setOk s then (if itemOk i then ((s.toNat ||| 2 ^ i.toNat : Nat) : Int) else s) else -1
def withoutI (s i : Int) : Int := if setOk s then (if itemOk i then (if inN s.toNat i.toNat then s - 2 ^ i.toNat else s) else s) else -1
def fullI (n : Int) : Int := if 0 ≤ n ∧ n ≤ 8 then 2 ^ n.toNat - 1 else -1

theorem setOk_pos {s : Int} (h0 : 0 ≤ s) (h1 : s < 256) : setOk s = true := by simp [setOk, h0, h1]
theorem setOk_neg {s : Int} (h : s < 0 ∨ 256 ≤ s) : setOk s = false := by
  simp [setOk]; omega
theorem itemOk_pos {s : Int} (h0 : 0 ≤ s) (h1 : s < 8) : itemOk s = true := by simp [itemOk, h0, h1]
theorem itemOk_neg {s : Int} (h : s < 0 ∨ 8 ≤ s) : itemOk s = false := by
  simp [itemOk]; omega
theorem inB_pos {s i : Int} (h0 : 0 ≤ s) (h1 : s < 256) (h2 : 0 ≤ i) (h3 : i < 8) : inB s i = inN s.toNat i.toNat := by
  simp [inB, setOk_pos h0 h1, itemOk_pos h2 h3]
theorem inB_noset {s i : Int} (h : s < 0 ∨ 256 ≤ s) : inB s i = false := by simp [inB, setOk_neg h]
theorem inB_noitem {s i : Int} (h : i < 0 ∨ 8 ≤ i) : inB s i = false := by simp [inB, itemOk_neg h]

theorem wrap_pow (k : Nat) (h : k < 9) : wrap64 (2 ^ k) = 2 ^ k := by
  have : ∀ k : Nat, k < 9 → wrap64 (2 ^ k) = 2 ^ k := by decide +kernel
  exact this k h
theorem and_all : ∀ n : Nat, n < 256 → ∀ k : Nat, k < 8 → (bits BinOp.and IntKind.i64 (n : Int) (wrap64 (2 ^ k)) != 0) = inN n k := by decide +kernel
theorem shr_all : ∀ n : Nat, n < 256 → ∀ k : Nat, k < 8 → (((n : Int) / 2 ^ k).tmod 2 == 1) = inN n k := by decide +kernel
theorem or_all : ∀ n : Nat, n < 256 → ∀ k : Nat, k < 8 → bits BinOp.or IntKind.i64 (n : Int) (wrap64 (2 ^ k)) = ((n ||| 2 ^ k : Nat) : Int) := by decide +kernel
theorem andNot_all : ∀ n : Nat, n < 256 → ∀ k : Nat, k < 8 → bits BinOp.andNot IntKind.i64 (n : Int) (wrap64 (2 ^ k)) = if inN n k then (n : Int) - 2 ^ k else (n : Int) := by decide +kernel

theorem nat_of {s : Int} (h0 : 0 ≤ s) : ∃ n : Nat, s = n := ⟨s.toNat, by omega⟩

theorem and_in {s i : Int} (h0 : 0 ≤ s) (h1 : s < 256) (h2 : 0 ≤ i) (h3 : i < 8) : (bits BinOp.and IntKind.i64 s (wrap64 (2 ^ i.toNat)) != 0) = inB s i := by
  rw [inB_pos h0 h1 h2 h3]
  obtain ⟨n, rfl⟩ := nat_of h0
  exact and_all n (by omega) i.toNat (by omega)
theorem shr_in {s i : Int} (h0 : 0 ≤ s) (h1 : s < 256) (h2 : 0 ≤ i) (h3 : i < 8) : ((s / 2 ^ i.toNat).tmod 2 == 1) = inB s i := by
  rw [inB_pos h0 h1 h2 h3]
  obtain ⟨n, rfl⟩ := nat_of h0
  exact shr_all n (by omega) i.toNat (by omega)
theorem or_in {s i : Int} (h0 : 0 ≤ s) (h1 : s < 256) (h2 : 0 ≤ i) (h3 : i < 8) : bits BinOp.or IntKind.i64 s (wrap64 (2 ^ i.toNat)) = withI s i := by
  simp only [withI, setOk_pos h0 h1, itemOk_pos h2 h3, if_true]
  obtain ⟨n, rfl⟩ := nat_of h0
  exact or_all n (by omega) i.toNat (by omega)
theorem andNot_in {s i : Int} (h0 : 0 ≤ s) (h1 : s < 256) (h2 : 0 ≤ i) (h3 : i < 8) : bits BinOp.andNot IntKind.i64 s (wrap64 (2 ^ i.toNat)) = withoutI s i := by
  simp only [withoutI, setOk_pos h0 h1, itemOk_pos h2 h3, if_true]
  obtain ⟨n, rfl⟩ := nat_of h0
  exact andNot_all n (by omega) i.toNat (by omega)
theorem withI_noset {s i : Int} (h : s < 0 ∨ 256 ≤ s) : withI s i = -1 := by simp [withI, setOk_neg h]
theorem withI_noitem {s i : Int} (h0 : 0 ≤ s) (h1 : s < 256) (h : i < 0 ∨ 8 ≤ i) : withI s i = s := by simp [withI, setOk_pos h0 h1, itemOk_neg h]
theorem withoutI_noset {s i : Int} (h : s < 0 ∨ 256 ≤ s) : withoutI s i = -1 := by simp [withoutI, setOk_neg h]
theorem withoutI_noitem {s i : Int} (h0 : 0 ≤ s) (h1 : s < 256) (h : i < 0 ∨ 8 ≤ i) : withoutI s i = s := by simp [withoutI, setOk_pos h0 h1, itemOk_neg h]
end Go.Proofs.Ytjbfncjdedigdaa
/- Strings as lists of bytes; what Check and l4Plain of the model answer. -/
namespace Go.Proofs.Ytjbfncjdedigdaa
open Go.ChangeShapes Go.WideShapes Go.ChangeAt Go.RowKit

abbrev Bs := List UInt8
def S (l : Bs) : Value := .string ⟨l.toArray⟩
def byteI (b : UInt8) : Int := (b.toNat : Int)
def chk : Bs → Int := fun l => l.foldl (fun h b => (31 * h + byteI b + 1) % 999983) 19

theorem byteAt_is (l : Bs) (j : Nat) (h : j < l.length) (c : UInt8) (n : Int) (hc : byteI c = n) : (((((⟨l.toArray⟩ : ByteArray)[j]'(show j < (⟨l.toArray⟩ : ByteArray).size from h)).toNat : Nat) : Int) == n) = decide (l[j] = c) := by
  have e : ((((⟨l.toArray⟩ : ByteArray)[j]'(show j < (⟨l.toArray⟩ : ByteArray).size from h)).toNat : Nat) : Int) = byteI l[j] := rfl
  rw [e, ← hc]
  by_cases hb : l[j] = c
  · simp [hb]
  · have : byteI l[j] ≠ byteI c := fun h => hb (by
      unfold byteI at h
      exact UInt8.toNat_inj.1 (by omega))
    simp [hb, this]
theorem byteI_bd (b : UInt8) : 0 ≤ byteI b ∧ byteI b < 256 := by
  have := b.toNat_lt
  unfold byteI; omega
theorem wrap_small {x : Int} (h0 : 0 ≤ x) (h1 : x < 9223372036854775808) : wrap64 x = x := by
  unfold wrap64; omega
theorem chk_snoc (l : Bs) (b : UInt8) : chk (l ++ [b]) = (31 * chk l + byteI b + 1) % 999983 := by
  simp [chk]
theorem chk_bd (l : Bs) : 0 ≤ chk l ∧ chk l < 999983 := by
  rcases List.eq_nil_or_concat l with rfl | ⟨m, b, rfl⟩
  · simp [chk]
  · rw [List.concat_eq_append, chk_snoc]; omega
theorem take_snocB (l : Bs) (j : Nat) (h : j < l.length) : l.take (j + 1) = l.take j ++ [l[j]] := List.take_succ_eq_append_getElem h
theorem chk_step (l : Bs) (j : Nat) (h : j < l.length) : (wrap64 (wrap64 (31 * chk (l.take j) + wrap64 (byteI l[j])) + 1)).tmod 999983 = chk (l.take (j + 1)) := by
  have h1 := chk_bd (l.take j)
  have h2 := byteI_bd l[j]
  rw [take_snocB l j h, chk_snoc]
  rw [wrap_small (x := byteI l[j]) h2.1 (by omega), wrap_small (x := 31 * chk (l.take j) + byteI l[j]) (by omega) (by omega), wrap_small (by omega) (by omega)]
  exact Int.tmod_eq_emod_of_nonneg (by omega)

def plainB (l : Bs) : Bool := l.all (fun b => b != 10) && decide (l.length ≤ 300)
theorem plain_not {l : Bs} {j : Nat} (h : j < l.length) (e : l[j] = 10) : plainB l = false := by
  have : l.all (fun b => b != 10) = false := by
    rw [List.all_eq_false]
    exact ⟨l[j], List.getElem_mem h, by simp [e]⟩
  simp [plainB, this]
end Go.Proofs.Ytjbfncjdedigdaa
/- Commands as plain numbers: when one is right, the eight bytes that it is shown as, how they are read. -/
namespace Go.Proofs.Ytjbfncjdedigdaa
open Go.RowKit

structure Cm where
  o : Int
  p : Int
  a : Int
  b : Int
  k : Int
def Cm.zero : Cm := ⟨0, 0, 0, 0, 0⟩
def inI (x lo hi : Int) : Bool := decide (lo ≤ x) && decide (x ≤ hi)
theorem inI_iff (x lo hi : Int) : inI x lo hi = true ↔ lo ≤ x ∧ x ≤ hi := by simp [inI]
def Cm.told (c : Cm) : Bool := inI c.o 1 12 && (decide (c.o ≤ 4) || decide (c.p = 0)) && (decide (c.o = 2) || decide (c.o = 3) || decide (c.o = 6) || decide (c.o = 10) || decide (c.a = 0)) && (decide (c.o = 3) || decide (c.o = 10) || decide (c.b = 0)) && (decide (c.o = 7) || decide (c.o = 10) || decide (c.k = 0))
def Cm.fits (c : Cm) : Bool :=
  if c.o = 6 then inI c.a 0 9999
  else if c.o = 10 then inI c.a 0 9999 && inI c.b 1 9999 && inI c.k 1 6
  else if c.o = 7 then inI c.k 1 6
  else inI c.p 0 255 && inI c.a 0 65535 && inI c.b 0 65535
def Cm.ok (c : Cm) : Bool := c.told && c.fits
def Cm.chg (c : Cm) : Bool := c.ok && inI c.o 2 4
/- Each number in its bytes. -/
def Cm.Byt (c : Cm) : Prop := (0 ≤ c.o ∧ c.o ≤ 255) ∧ (0 ≤ c.p ∧ c.p ≤ 255) ∧ (0 ≤ c.a ∧ c.a ≤ 65535) ∧ (0 ≤ c.b ∧ c.b ≤ 65535) ∧ (0 ≤ c.k ∧ c.k ≤ 255)
theorem Cm.ok_byt {c : Cm} (h : c.ok = true) : c.Byt := by
  obtain ⟨o, p, a, b, k⟩ := c
  unfold Cm.ok Cm.told Cm.fits at h
  dsimp only at h
  unfold Cm.Byt
  dsimp only
  simp only [Bool.and_eq_true, Bool.or_eq_true, decide_eq_true_eq, inI_iff] at h
  obtain ⟨⟨⟨⟨⟨h1, h2⟩, h3⟩, h4⟩, h5⟩, h6⟩ := h
  split at h6
  · rw [inI_iff] at h6; omega
  · split at h6
    · simp only [Bool.and_eq_true, inI_iff] at h6; omega
    · split at h6
      · rw [inI_iff] at h6; omega
      · simp only [Bool.and_eq_true, inI_iff] at h6; omega
def bt (x : Int) : UInt8 := UInt8.ofNat x.toNat
theorem byteI_bt {x : Int} (h0 : 0 ≤ x) (h1 : x ≤ 255) : byteI (bt x) = x := by
  unfold byteI bt
  rw [UInt8.toNat_ofNat']
  omega
theorem bt_byteI (b : UInt8) : bt (byteI b) = b := by
  apply UInt8.toNat_inj.1
  unfold bt byteI
  rw [UInt8.toNat_ofNat']
  have := b.toNat_lt
  omega
def sumI (l : Bs) : Int := 255 - (l.foldl (fun n b => n + byteI b) 0) % 256
def front (c : Cm) : Bs := [bt c.o, bt c.p, bt (c.a / 256), bt (c.a % 256), bt (c.b / 256), bt (c.b % 256), bt c.k]
def showC (c : Cm) : Bs := front c ++ [bt (sumI (front c))]
def showCS (c : Cm) : Bs := if c.ok then showC c else []
theorem sumI_bd (l : Bs) : 0 ≤ sumI l ∧ sumI l ≤ 255 := by unfold sumI; omega
def cmOf (l : Bs) : Cm := ⟨byteI (l.getD 0 0), byteI (l.getD 1 0), byteI (l.getD 2 0) * 256 + byteI (l.getD 3 0), byteI (l.getD 4 0) * 256 + byteI (l.getD 5 0), byteI (l.getD 6 0)⟩
def codeC (l : Bs) : Int :=
  if l.length < 8 then 1
  else if 8 < l.length then 2
  else if byteI (l.getD 7 0) ≠ sumI (l.take 7) then 3
  else if inI (cmOf l).o 1 12 = false then 4
  else if (cmOf l).ok = false then 5
  else 0
def readC (l : Bs) : Cm := if codeC l = 0 then cmOf l else Cm.zero
theorem eight_of {l : Bs} (h : l.length = 8) : ∃ a b c d e f g i, l = [a, b, c, d, e, f, g, i] := by
  match l, h with
  | [a, b, c, d, e, f, g, i], _ => exact ⟨a, b, c, d, e, f, g, i, rfl⟩
theorem codeC_zero {l : Bs} (h : codeC l = 0) : l.length = 8 ∧ byteI (l.getD 7 0) = sumI (l.take 7) ∧ (cmOf l).ok = true := by
  unfold codeC at h
  split at h
  · omega
  · split at h
    · omega
    · split at h
      · omega
      · split at h
        · omega
        · split at h
          · omega
          · rename_i h1 h2 h3 h4 h5
            refine ⟨by omega, by simpa using h3, by simpa using h5⟩
theorem cmOf_show {c : Cm} (h : c.Byt) : cmOf (showC c) = c := by
  obtain ⟨o, p, a, b, k⟩ := c
  obtain ⟨h1, h2, h3, h4, h5⟩ := h
  dsimp only at h1 h2 h3 h4 h5
  have e1 := byteI_bt h1.1 h1.2
  have e2 := byteI_bt h2.1 h2.2
  have e3 := byteI_bt (x := a / 256) (by omega) (by omega)
  have e4 := byteI_bt (x := a % 256) (by omega) (by omega)
  have e5 := byteI_bt (x := b / 256) (by omega) (by omega)
  have e6 := byteI_bt (x := b % 256) (by omega) (by omega)
  have e7 := byteI_bt h5.1 h5.2
  show (⟨byteI (bt o), byteI (bt p), byteI (bt (a / 256)) * 256 + byteI (bt (a % 256)), byteI (bt (b / 256)) * 256 + byteI (bt (b % 256)), byteI (bt k)⟩ : Cm) = ⟨o, p, a, b, k⟩
  rw [e1, e2, e3, e4, e5, e6, e7, show a / 256 * 256 + a % 256 = a by omega, show b / 256 * 256 + b % 256 = b by omega]
theorem told_op {c : Cm} (h : c.ok = true) : inI c.o 1 12 = true := by
  unfold Cm.ok Cm.told at h
  simp only [Bool.and_eq_true] at h
  exact h.1.1.1.1.1
/- What is shown is read. -/
theorem readC_show {c : Cm} (h : c.ok = true) : codeC (showC c) = 0 ∧ readC (showC c) = c ∧ (showC c).length = 8 := by
  have hb := Cm.ok_byt h
  have hc := cmOf_show hb
  have hl : (showC c).length = 8 := rfl
  have hs : byteI ((showC c).getD 7 0) = sumI ((showC c).take 7) := by
    have := sumI_bd (front c)
    exact byteI_bt this.1 this.2
  have h0 : codeC (showC c) = 0 := by
    unfold codeC
    rw [hl, hc, h, told_op h]
    simp only [hs]
    simp
  exact ⟨h0, by unfold readC; rw [if_pos h0, hc], hl⟩
/- What is read is shown so. -/
theorem showC_read {l : Bs} (h : codeC l = 0) : (readC l).ok = true ∧ showC (readC l) = l := by
  obtain ⟨h1, h2, h3⟩ := codeC_zero h
  unfold readC
  rw [if_pos h]
  refine ⟨h3, ?_⟩
  obtain ⟨a, b, c, d, e, f, g, i, rfl⟩ := eight_of h1
  have ha := byteI_bd a
  have hb := byteI_bd b
  have hc := byteI_bd c
  have hd := byteI_bd d
  have he := byteI_bd e
  have hf := byteI_bd f
  have hfr : front (cmOf [a, b, c, d, e, f, g, i]) = [a, b, c, d, e, f, g] := by
    simp only [front, cmOf, List.getD_cons_zero, List.getD_cons_succ, bt_byteI]
    rw [show (byteI c * 256 + byteI d) / 256 = byteI c by omega, show (byteI c * 256 + byteI d) % 256 = byteI d by omega, show (byteI e * 256 + byteI f) / 256 = byteI e by omega, show (byteI e * 256 + byteI f) % 256 = byteI f by omega]
    simp only [bt_byteI]
  have h2' : byteI i = sumI [a, b, c, d, e, f, g] := h2
  unfold showC
  rw [hfr, ← h2', bt_byteI]
  rfl
theorem readC_not {l : Bs} (h : codeC l ≠ 0) : readC l = Cm.zero := by unfold readC; rw [if_neg h]
/- A sum with one byte turned is another one. -/
theorem sum_set (l : Bs) (j : Nat) (h : j < l.length) (x : UInt8) : ∀ n : Int, (l.set j x).foldl (fun n b => n + byteI b) n = l.foldl (fun n b => n + byteI b) n + byteI x - byteI l[j] := by
  induction l generalizing j with
  | nil => simp at h
  | cons b l ih =>
    intro n
    cases j with
    | zero =>
      simp only [List.set_cons_zero, List.foldl_cons, List.getElem_cons_zero]
      have hs : ∀ (l : Bs) (m d : Int), l.foldl (fun n b => n + byteI b) (m + d) = l.foldl (fun n b => n + byteI b) m + d := by
        intro l
        induction l with
        | nil => intro m d; rfl
        | cons c l ih2 => intro m d; simp only [List.foldl_cons]; rw [show m + d + byteI c = m + byteI c + d by omega, ih2]
      rw [show n + byteI x = n + byteI b + (byteI x - byteI b) by omega, hs]
      omega
    | succ j =>
      simp only [List.set_cons_succ, List.foldl_cons, List.getElem_cons_succ]
      exact ih j (by simpa using h) _
theorem byteI_inj {a b : UInt8} (h : byteI a = byteI b) : a = b := by
  unfold byteI at h
  exact UInt8.toNat_inj.1 (by omega)
theorem sumI_set (l : Bs) (j : Nat) (h : j < l.length) (x : UInt8) (hne : x ≠ l[j]) : sumI (l.set j x) ≠ sumI l := by
  have h1 := sum_set l j h x 0
  have h2 := byteI_bd x
  have h3 := byteI_bd l[j]
  have h4 : byteI x ≠ byteI l[j] := fun e => hne (byteI_inj e)
  unfold sumI
  omega
/- With one byte turned a command is none: its last byte is another one. -/
theorem turned (c : Cm) (j : Nat) (hj : j < 8) (x : UInt8) (hne : (showC c).set j x ≠ showC c) : codeC ((showC c).set j x) = 3 := by
  have hl : (showC c).length = 8 := rfl
  have hl2 : ((showC c).set j x).length = 8 := by rw [List.length_set, hl]
  have hx : x ≠ (showC c)[j]'(by omega) := fun e => hne (by rw [e, List.set_getElem_self])
  have hlen : (front c).length = 7 := rfl
  have key : byteI (((showC c).set j x).getD 7 0) ≠ sumI (((showC c).set j x).take 7) := by
    have hb := sumI_bd (front c)
    by_cases h7 : j = 7
    · subst h7
      have e1 : ((showC c).set 7 x).getD 7 0 = x := rfl
      have e2 : ((showC c).set 7 x).take 7 = front c := rfl
      rw [e1, e2]
      intro e
      apply hx
      apply byteI_inj
      rw [e]
      exact (byteI_bt hb.1 hb.2).symm
    · have hj7 : j < (front c).length := by omega
      have e1 : ((showC c).set j x).getD 7 0 = bt (sumI (front c)) := by
        rw [List.getD_eq_getElem?_getD, List.getElem?_set_ne h7]
        rfl
      have e2 : ((showC c).set j x).take 7 = (front c).set j x := by
        unfold showC
        rw [List.set_append_left _ _ hj7, List.take_append_of_le_length (by rw [List.length_set]; omega), List.take_of_length_le (by rw [List.length_set]; omega)]
      have e3 : (showC c)[j]'(by omega) = (front c)[j] := by
        unfold showC
        rw [List.getElem_append_left hj7]
      rw [e1, e2, byteI_bt hb.1 hb.2]
      exact fun e => sumI_set (front c) j hj7 x (by rw [← e3]; exact hx) e.symm
  unfold codeC
  rw [hl2, if_neg (by omega), if_neg (by omega), if_pos key]
end Go.Proofs.Ytjbfncjdedigdaa
/- Which commands read, and which write, in plain numbers. -/
namespace Go.Proofs.Ytjbfncjdedigdaa

def Cm.rd (c : Cm) : Bool := c.ok && decide (c.o = 1)
def Cm.wr (c : Cm) : Bool := c.ok && inI c.o 2 5
end Go.Proofs.Ytjbfncjdedigdaa
