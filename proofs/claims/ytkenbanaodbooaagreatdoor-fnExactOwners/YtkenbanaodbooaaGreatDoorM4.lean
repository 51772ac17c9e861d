/- How a number is read, byte by byte. -/
import Derived.Test.YtkenbanaodbooaaGreatDoorM3
import Derived.Test.YtkenbanaodbooaaGreatDoorM1
namespace Go.Proofs.YtkenbanaodbooaaGreatDoor
open Go.ChangeShapes Go.WideShapes Go.ChangeAt Go.RowKit

def byteV (l : Bs) (j : Nat) (h : j < l.length) : Int := ((((⟨l.toArray⟩ : ByteArray)[j]'(show j < (⟨l.toArray⟩ : ByteArray).size from h)).toNat : Nat) : Int)
theorem byteV_is (l : Bs) (j : Nat) (h : j < l.length) : byteV l j h = byteI l[j] := rfl
theorem neg_cons (b : UInt8) (t : Bs) : neg (b :: t) = decide (b = 45) := by unfold neg; by_cases h : b = 45 <;> simp [h]
theorem neg_at (l : Bs) (h : 0 < l.length) : neg l = decide (l[0] = 45) := by
  cases l with
  | nil => simp at h
  | cons b t => exact neg_cons b t
theorem okN_short (l : Bs) (h : l.length - offN l < 1) : okN l = false := by
  rw [← Bool.not_eq_true, okN_iff, digs_len]; omega
theorem okN_long (l : Bs) (h : 9 < l.length - offN l) : okN l = false := by
  rw [← Bool.not_eq_true, okN_iff, digs_len]; omega
theorem num_not {l : Bs} (h : okN l = false) : num l = 0 := by simp [num, h]
theorem digs_at (l : Bs) (j : Nat) (h0 : offN l ≤ j) (h : j < l.length) : ∃ h' : j - offN l < (digs l).length, (digs l)[j - offN l] = l[j] := by
  have hl := digs_len l
  refine ⟨by omega, ?_⟩
  unfold digs
  rw [List.getElem_drop]
  congr 1
  omega
def RdInv (l : Bs) (j : Nat) (x : Int) : Prop := x = val ((digs l).take (j - offN l)) ∧ ((digs l).take (j - offN l)).all isDig = true
theorem RdInv.start (l : Bs) : RdInv l (offN l) 0 := by simp [RdInv, val]
theorem RdInv.next {l : Bs} {j : Nat} {x : Int} (h : RdInv l j x) (h0 : offN l ≤ j) (hj : j < l.length) (hd : isDig l[j] = true) : RdInv l (j + 1) (x * 10 + (byteI l[j] - 48)) := by
  obtain ⟨h1, h2⟩ := digs_at l j h0 hj
  unfold RdInv at h ⊢
  rw [show j + 1 - offN l = j - offN l + 1 by omega, take_snocB _ _ h1, val_snoc, List.all_append, h.2, h2, h.1]
  simp [hd]
theorem RdInv.bd {l : Bs} {j : Nat} {x : Int} (h : RdInv l j x) (hj : j - offN l ≤ 9) : 0 ≤ x ∧ x < 1000000000 := by
  rw [h.1]
  exact val_small _ h.2 (by simp; omega)
theorem RdInv.bad {l : Bs} {j : Nat} (h0 : offN l ≤ j) (hj : j < l.length) (hd : isDig l[j] = false) : okN l = false := by
  obtain ⟨h1, h2⟩ := digs_at l j h0 hj
  rw [← Bool.not_eq_true, okN_iff]
  rintro ⟨_, _, h3, _⟩
  have := List.all_eq_true.1 h3 _ (List.getElem_mem h1)
  rw [h2, hd] at this
  cases this
theorem head_digs (l : Bs) (h : offN l < l.length) : (digs l).head? = some l[offN l] := by
  unfold digs
  rw [List.head?_drop]
  simp [h]
theorem RdInv.done {l : Bs} {x : Int} (h : RdInv l l.length x) (h1 : 1 ≤ l.length - offN l) (h2 : l.length - offN l ≤ 9) : okN l = !(decide ((digs l).head? = some 48) && decide (1 < l.length)) ∧ x = val (digs l) := by
  have hl := digs_len l
  unfold RdInv at h
  rw [← hl, List.take_length] at h
  refine ⟨?_, h.1⟩
  unfold okN
  rw [h.2, hl]
  simp [h1, h2]
end Go.Proofs.YtkenbanaodbooaaGreatDoor
/- Numbers of at most ten digits: how one is read. -/
namespace Go.Proofs.YtkenbanaodbooaaGreatDoor
open Go.RowKit

def okT (l : Bs) : Bool := decide (1 ≤ (digs l).length) && decide ((digs l).length ≤ 10) && (digs l).all isDig && !(decide ((digs l).head? = some 48) && decide (1 < l.length))
def numT (l : Bs) : Int := if okT l then (if neg l then -(val (digs l)) else val (digs l)) else 0
theorem val_ten (l : Bs) (h : l.all isDig = true) (hl : l.length ≤ 10) : 0 ≤ val l ∧ val l < 10000000000 := by
  have h1 := val_bd l h
  have h2 : (10 : Int) ^ l.length ≤ 10 ^ 10 := by
    have : (10 : Nat) ^ l.length ≤ 10 ^ 10 := Nat.pow_le_pow_right (by omega) hl
    exact_mod_cast this
  have e : (10 : Int) ^ 10 = 10000000000 := by decide
  omega
theorem okT_iff (l : Bs) : okT l = true ↔ 1 ≤ (digs l).length ∧ (digs l).length ≤ 10 ∧ (digs l).all isDig = true ∧ ¬ ((digs l).head? = some 48 ∧ 1 < l.length) := by
  simp only [okT, Bool.and_eq_true, decide_eq_true_eq, Bool.not_eq_true', Bool.and_eq_false_iff, decide_eq_false_iff_not]
  constructor
  · rintro ⟨⟨⟨h1, h2⟩, h3⟩, h4⟩
    exact ⟨h1, h2, h3, fun ⟨a, b⟩ => by rcases h4 with h | h; exact h a; exact h b⟩
  · rintro ⟨h1, h2, h3, h4⟩
    refine ⟨⟨⟨h1, h2⟩, h3⟩, ?_⟩
    by_cases h : (digs l).head? = some 48
    · exact .inr (fun h' => h4 ⟨h, h'⟩)
    · exact .inl h
theorem numT_bd (l : Bs) : -10000000000 < numT l ∧ numT l < 10000000000 := by
  unfold numT
  split
  · rename_i h
    rw [okT_iff] at h
    have := val_ten _ h.2.2.1 h.2.1
    split <;> omega
  · omega
theorem okT_short (l : Bs) (h : l.length - offN l < 1) : okT l = false := by
  rw [← Bool.not_eq_true, okT_iff, digs_len]; omega
theorem okT_long (l : Bs) (h : 10 < l.length - offN l) : okT l = false := by
  rw [← Bool.not_eq_true, okT_iff, digs_len]; omega
theorem numT_not {l : Bs} (h : okT l = false) : numT l = 0 := by simp [numT, h]
theorem RdInv.bdT {l : Bs} {j : Nat} {x : Int} (h : RdInv l j x) (hj : j - offN l ≤ 10) : 0 ≤ x ∧ x < 10000000000 := by
  rw [h.1]
  exact val_ten _ h.2 (by simp; omega)
theorem RdInv.badT {l : Bs} {j : Nat} (h0 : offN l ≤ j) (hj : j < l.length) (hd : isDig l[j] = false) : okT l = false := by
  obtain ⟨h1, h2⟩ := digs_at l j h0 hj
  rw [← Bool.not_eq_true, okT_iff]
  rintro ⟨_, _, h3, _⟩
  have := List.all_eq_true.1 h3 _ (List.getElem_mem h1)
  rw [h2, hd] at this
  cases this
theorem RdInv.doneT {l : Bs} {x : Int} (h : RdInv l l.length x) (h1 : 1 ≤ l.length - offN l) (h2 : l.length - offN l ≤ 10) : okT l = !(decide ((digs l).head? = some 48) && decide (1 < l.length)) ∧ x = val (digs l) := by
  have hl := digs_len l
  unfold RdInv at h
  rw [← hl, List.take_length] at h
  refine ⟨?_, h.1⟩
  unfold okT
  rw [h.2, hl]
  simp [h1, h2]
/- What is shown is read. -/
theorem neg_decI (x : Int) : neg (decI x) = decide (x < 0) := by
  unfold decI
  split
  · rename_i h; simp [neg, h]
  · rename_i h; rw [neg_dec]; simp [h]
theorem digs_decI (x : Int) : digs (decI x) = dec x.natAbs := by
  unfold digs offN
  rw [neg_decI]
  unfold decI
  by_cases h : x < 0
  · simp [h]
  · simp [h]
theorem readT_decI (x : Int) (h0 : -10000000000 < x) (h1 : x < 10000000000) : okT (decI x) = true ∧ numT (decI x) = x := by
  have hd := digs_decI x
  have hl := dec_len 9 x.natAbs (by omega)
  have ok : okT (decI x) = true := by
    rw [okT_iff, hd]
    refine ⟨?_, hl, (dec_digs _).1, ?_⟩
    · have := List.length_pos_iff.2 (dec_ne_nil x.natAbs)
      omega
    · rintro ⟨e1, e2⟩
      by_cases hz : x = 0
      · subst hz
        rw [show decI 0 = [digit 0] from dec_zero] at e2
        simp at e2
      · exact dec_pos_head x.natAbs (by omega) e1
  refine ⟨ok, ?_⟩
  unfold numT
  rw [ok, neg_decI, hd, (dec_digs _).2]
  by_cases h : x < 0
  · simp [h]; omega
  · simp [h]; omega
/- What is read is shown so. -/
theorem readT_back (l : Bs) (h : okT l = true) : decI (numT l) = l := by
  have ok := h
  rw [okT_iff] at h
  obtain ⟨h1, h2, h3, h4⟩ := h
  have hne : digs l ≠ [] := by intro e; rw [e] at h1; simp at h1
  have hv := val_bd _ h3
  unfold numT
  rw [if_pos ok]
  have hz : (digs l).head? = some 48 → (digs l).length = 1 := by
    intro e
    have : ¬ 1 < l.length := fun c => h4 ⟨e, c⟩
    have := digs_len l
    omega
  have hb := dec_val (digs l) h3 hne hz
  cases hng : neg l with
  | false =>
    have hd : digs l = l := by simp [digs, offN, hng]
    simp only [Bool.false_eq_true, if_false]
    rw [decI_pos hv.1, hb, hd]
  | true =>
    simp only [if_true]
    have hlen : 1 < l.length := by
      have := digs_len l
      simp only [offN, hng, if_true] at this
      omega
    have hn48 : (digs l).head? ≠ some 48 := fun e => h4 ⟨e, hlen⟩
    have hpos : 0 < val (digs l) := by
      rcases Int.lt_or_eq_of_le hv.1 with c | c
      · exact c
      · exfalso
        rw [← c] at hb
        rw [← hb] at hn48
        exact hn48 (by rw [show dec (Int.toNat 0) = [digit 0] from dec_zero]; rfl)
    unfold decI
    rw [if_pos (by omega), Int.natAbs_neg, show (val (digs l)).natAbs = (val (digs l)).toNat by omega, hb]
    unfold neg at hng
    cases l with
    | nil => simp at hng
    | cons b t =>
      have : b = 45 := by simpa using hng
      subst this
      simp [digs, offN, neg]
end Go.Proofs.YtkenbanaodbooaaGreatDoor
/- Kinds, and who may, as plain numbers and truths. -/
namespace Go.Proofs.YtkenbanaodbooaaGreatDoor
open Go.RowKit

def kiI (k : Int) : Bool := inI k 1 6
def barsI (k : Int) (w : Bool) : Bool := kiI k && (w || decide (k % 2 = 0))
def allI (k : Int) : Bool := decide (k = 5) || decide (k = 6)
def mayI (k : Int) (w h r : Bool) : Bool := if k = 0 then true else if kiI k = false then false else if h then true else if decide (3 ≤ k) && r then true else !barsI k w
theorem kinds (k : Int) : k = 0 ∨ k = 1 ∨ k = 2 ∨ k = 3 ∨ k = 4 ∨ k = 5 ∨ k = 6 ∨ (kiI k = false ∧ k ≠ 0 ∧ k ≠ 1 ∧ k ≠ 2 ∧ k ≠ 3 ∧ k ≠ 4 ∧ k ≠ 5 ∧ k ≠ 6) := by
  by_cases h : kiI k = true
  · have := (inI_iff k 1 6).1 h
    omega
  · have h' : kiI k = false := by simpa using h
    have : ¬ (1 ≤ k ∧ k ≤ 6) := fun e => h ((inI_iff k 1 6).2 e)
    by_cases h0 : k = 0
    · exact .inl h0
    · exact .inr (.inr (.inr (.inr (.inr (.inr (.inr ⟨h', by omega⟩))))))
theorem kiI_lit : kiI 0 = false ∧ kiI 1 = true ∧ kiI 2 = true ∧ kiI 3 = true ∧ kiI 4 = true ∧ kiI 5 = true ∧ kiI 6 = true := by decide
/- One that holds it may; where reading is barred writing is, too. -/
theorem mayI_holds (k : Int) (w r : Bool) (h : kiI k = true) : mayI k w true r = true := by
  unfold mayI
  by_cases h0 : k = 0
  · rw [if_pos h0]
  · rw [if_neg h0, if_neg (by rw [h]; decide), if_pos rfl]
theorem barsI_le (k : Int) : (barsI k false && !barsI k true) = false := by
  unfold barsI
  cases kiI k <;> simp
theorem mayI_le (k : Int) (h r : Bool) : (mayI k true h r && !mayI k false h r) = false := by
  unfold mayI barsI
  by_cases h0 : k = 0
  · simp [h0]
  · rw [if_neg h0, if_neg h0]
    cases hk : kiI k with
    | false => simp
    | true => cases h <;> cases r <;> by_cases h3 : 3 ≤ k <;> simp [h3]
theorem mayI_all (k : Int) (w h : Bool) : (!allI k || mayI k w h true) = true := by
  unfold allI mayI
  by_cases h5 : k = 5
  · subst h5; simp [show kiI 5 = true from rfl]
  · by_cases h6 : k = 6
    · subst h6; simp [show kiI 6 = true from rfl]
    · simp [h5, h6]
theorem none_all (k : Int) (hk : kiI k = false) : allI k = false := by
  rcases kinds k with h | h | h | h | h | h | h | ⟨_, h0, h1, h2, h3, h4, h5, h6⟩
  · subst h; rfl
  all_goals first | (subst h; exact absurd hk (by decide)) | simp [allI, h5, h6]
theorem none_bars (k : Int) (w : Bool) (hk : kiI k = false) : barsI k w = false := by simp [barsI, hk]
theorem none_may (k : Int) (w h r : Bool) (h0 : k ≠ 0) (hk : kiI k = false) : mayI k w h r = false := by simp [mayI, h0, hk]
end Go.Proofs.YtkenbanaodbooaaGreatDoor
/- Holdings as plain lists and numbers: when one is right, who is registered, who holds it, who may. -/
namespace Go.Proofs.YtkenbanaodbooaaGreatDoor
open Go.RowKit

structure Hd where
  ks : List Int
  kd : Int
  ho : Int
  tu : Int
def anyI (ks : List Int) : Bool := ks.any (fun k => decide (k ≠ 0))
def keysI (ks : List Int) : Bool := ks.all (fun k => inI k 0 9999)
def regI (ks : List Int) (i : Int) : Bool := decide (ks.getD i.toNat 0 ≠ 0)
def Hd.mid (h : Hd) : Bool := if h.kd = 0 then decide (h.ho = -1) else if allI h.kd then decide (h.ho = -1) && anyI h.ks else kiI h.kd && inI h.ho 0 3 && regI h.ks h.ho
def Hd.ok (h : Hd) : Bool := decide (h.ks.length = 4) && inI h.tu 0 1000000000 && keysI h.ks && h.mid
def Hd.holds (h : Hd) (i : Int) : Bool := decide (h.kd ≠ 0) && (decide (h.ho = i) || (allI h.kd && regI h.ks i))
def Hd.may (h : Hd) (i : Int) (w : Bool) : Bool := mayI h.kd w (h.holds i) (regI h.ks i)
def Hd.Reg (h : Hd) (i : Int) : Bool := h.ok && inI i 0 3 && regI h.ks i
def Hd.Hol (h : Hd) (i : Int) : Bool := h.ok && inI i 0 3 && h.holds i
def Hd.May (h : Hd) (i : Int) (w : Bool) : Bool := h.ok && inI i 0 3 && h.may i w
def Hd.new : Hd := ⟨[0, 0, 0, 0], 0, -1, 0⟩
theorem Hd.ok_len {h : Hd} (e : h.ok = true) : h.ks.length = 4 := by
  unfold Hd.ok at e
  simp only [Bool.and_eq_true, decide_eq_true_eq] at e
  exact e.1.1.1
theorem any_take (ks : List Int) (j : Nat) (h : j < ks.length) (h0 : anyI (ks.take j) = false) (hx : ks.getD j 0 = 0) : anyI (ks.take (j + 1)) = false := by
  unfold anyI at *
  rw [List.take_succ_eq_append_getElem h, List.any_append, h0]
  have : ks[j] = 0 := by simpa [h] using hx
  simp [this]
theorem any_at (ks : List Int) (j : Nat) (h : j < ks.length) (hx : ks.getD j 0 ≠ 0) : anyI ks = true := by
  unfold anyI
  rw [List.any_eq_true]
  exact ⟨ks[j], List.getElem_mem h, by simpa [h] using hx⟩
theorem keys_take (ks : List Int) (j : Nat) (h : j < ks.length) (h0 : keysI (ks.take j) = true) (hx : inI (ks.getD j 0) 0 9999 = true) : keysI (ks.take (j + 1)) = true := by
  unfold keysI at *
  rw [List.take_succ_eq_append_getElem h, List.all_append, h0]
  have : inI ks[j] 0 9999 = true := by simpa [h] using hx
  simp [this]
theorem keys_not (ks : List Int) (j : Nat) (h : j < ks.length) (hx : inI (ks.getD j 0) 0 9999 = false) : keysI ks = false := by
  unfold keysI
  rw [List.all_eq_false]
  exact ⟨ks[j], List.getElem_mem h, by have : inI ks[j] 0 9999 = false := by { simpa [h] using hx }; simp [this]⟩
end Go.Proofs.YtkenbanaodbooaaGreatDoor
/- What one may change of a holding, as plain lists and numbers. -/
namespace Go.Proofs.YtkenbanaodbooaaGreatDoor
open Go.RowKit

def turnI (t : Int) : Int := if 1000000000 < t + 1 then 0 else t + 1
def Hd.zero : Hd := ⟨[], 0, 0, 0⟩
def Hd.free (h : Hd) : Hd := ⟨h.ks, 0, -1, h.tu⟩
def Hd.take (h : Hd) (i k : Int) : Hd := ⟨h.ks, k, if allI k then -1 else i, h.tu⟩
def Hd.turn (h : Hd) : Hd := ⟨h.ks, h.kd, h.ho, turnI h.tu⟩
def Hd.key (h : Hd) (i key : Int) : Hd := ⟨h.ks.set i.toNat key, h.kd, h.ho, h.tu⟩
def Hd.regd (h : Hd) (i key : Int) : Hd := if key = 0 ∧ (h.ho = i ∨ anyI (h.ks.set i.toNat key) = false) then ((h.key i key).turn).free else (h.key i key).turn
def Hd.register (h : Hd) (i key : Int) : Hd × Int := if h.ok && inI i 0 3 && inI key 0 9999 then (h.regd i key, 0) else (Hd.zero, 2)
def Hd.resd (h : Hd) (i k : Int) : Hd × Bool := if regI h.ks i = false then (h, false) else if h.kd = 0 then (h.take i k, true) else (h, decide (h.kd = k) && (allI k || decide (h.ho = i)))
def told (r : Hd × Bool) : Hd × Int := (r.1, if r.2 then 0 else 1)
def Hd.reserve (h : Hd) (i k : Int) : Hd × Int := if h.ok && inI i 0 3 && kiI k then told (h.resd i k) else (Hd.zero, 2)
def Hd.reld (h : Hd) (i : Int) : Hd × Bool := if regI h.ks i = false then (h, false) else if h.holds i then (h.free, true) else (h, true)
def Hd.release (h : Hd) (i : Int) : Hd × Int := if h.ok && inI i 0 3 then told (h.reld i) else (Hd.zero, 2)
def Hd.clrd (h : Hd) (i : Int) : Hd × Bool := if regI h.ks i = false then (h, false) else (⟨[0, 0, 0, 0], 0, -1, turnI h.tu⟩, true)
def Hd.clear (h : Hd) (i : Int) : Hd × Int := if h.ok && inI i 0 3 then told (h.clrd i) else (Hd.zero, 2)
/- The first j keys but this one's: those that are 'key' are struck; is any left? -/
def strike (ks : List Int) (i : Nat) (key : Int) : Nat → List Int
  | 0 => ks
  | j + 1 => if j ≠ i ∧ ks.getD j 0 = key then (strike ks i key j).set j 0 else strike ks i key j
def more (ks : List Int) (i : Nat) (key : Int) : Nat → Bool
  | 0 => false
  | j + 1 => more ks i key j || (decide (j ≠ i) && (decide (ks.getD j 0 ≠ key) && decide (ks.getD j 0 ≠ 0)))
def has (ks : List Int) (key : Int) : Nat → Bool
  | 0 => false
  | j + 1 => has ks key j || decide (ks.getD j 0 = key)
def Hd.alone (h : Hd) (key : Int) : Bool := decide (h.kd ≠ 0) && (!allI h.kd && decide (h.ks.getD h.ho.toNat 0 = key))
def Hd.pred (h : Hd) (i key k : Int) : Hd × Bool :=
  if (regI h.ks i && has h.ks key 4) = false then (h, false) else
  if (h.alone key || (allI h.kd && !more h.ks i.toNat key 4)) = true then ((Hd.turn ⟨strike h.ks i.toNat key 4, h.kd, h.ho, h.tu⟩).take i k, true)
  else (Hd.turn ⟨strike h.ks i.toNat key 4, h.kd, h.ho, h.tu⟩, true)
theorem strike_len (ks : List Int) (i : Nat) (key : Int) (j : Nat) : (strike ks i key j).length = ks.length := by
  induction j with
  | zero => rfl
  | succ j ih => unfold strike; split <;> simp [ih]
theorem strike_at (ks : List Int) (i : Nat) (key : Int) (j m : Nat) (hm : j ≤ m) : (strike ks i key j).getD m 0 = ks.getD m 0 := by
  induction j with
  | zero => rfl
  | succ j ih =>
    have := ih (by omega)
    unfold strike
    split
    · rw [← this]
      simp only [List.getD_eq_getElem?_getD]
      rw [List.getElem?_set_ne (by omega)]
    · exact this
def Hd.preempt (h : Hd) (i key k : Int) : Hd × Int := if h.ok && inI i 0 3 && inI key 1 9999 && kiI k then told (h.pred i key k) else (Hd.zero, 2)
theorem Hd.ok_all {h : Hd} (e : h.ok = true) : h.ks.length = 4 ∧ (0 ≤ h.tu ∧ h.tu ≤ 1000000000) ∧ keysI h.ks = true ∧ h.mid = true := by
  unfold Hd.ok at e
  simp only [Bool.and_eq_true, decide_eq_true_eq] at e
  exact ⟨e.1.1.1, (inI_iff _ _ _).1 e.1.1.2, e.1.2, e.2⟩
theorem turnI_in (t : Int) (h0 : 0 ≤ t) (h1 : t ≤ 1000000000) : 0 ≤ turnI t ∧ turnI t ≤ 1000000000 := by
  unfold turnI; split <;> omega
/- What is answered has four keys, or none. -/
theorem register_len (h : Hd) (i key : Int) : (h.register i key).1.ks.length ≤ 4 := by
  unfold Hd.register
  split
  · rename_i c
    simp only [Bool.and_eq_true] at c
    have := (Hd.ok_all c.1.1).1
    unfold Hd.regd
    split <;> simp [Hd.free, Hd.turn, Hd.key, this]
  · simp [Hd.zero]
theorem told_fst (r : Hd × Bool) : (told r).1 = r.1 := rfl
theorem reserve_len (h : Hd) (i k : Int) : (h.reserve i k).1.ks.length ≤ 4 := by
  unfold Hd.reserve
  split
  · rename_i c
    simp only [Bool.and_eq_true] at c
    have := (Hd.ok_all c.1.1).1
    rw [told_fst]
    unfold Hd.resd
    split
    · simp [this]
    · split <;> simp [Hd.take, this]
  · simp [Hd.zero]
theorem release_len (h : Hd) (i : Int) : (h.release i).1.ks.length ≤ 4 := by
  unfold Hd.release
  split
  · rename_i c
    simp only [Bool.and_eq_true] at c
    have := (Hd.ok_all c.1).1
    rw [told_fst]
    unfold Hd.reld
    split
    · simp [this]
    · split <;> simp [Hd.free, this]
  · simp [Hd.zero]
theorem clear_len (h : Hd) (i : Int) : (h.clear i).1.ks.length ≤ 4 := by
  unfold Hd.clear
  split
  · rename_i c
    simp only [Bool.and_eq_true] at c
    have := (Hd.ok_all c.1).1
    rw [told_fst]
    unfold Hd.clrd
    split <;> simp [this]
  · simp [Hd.zero]
theorem preempt_len (h : Hd) (i key k : Int) : (h.preempt i key k).1.ks.length ≤ 4 := by
  unfold Hd.preempt
  split
  · rename_i c
    simp only [Bool.and_eq_true] at c
    have := (Hd.ok_all c.1.1.1).1
    rw [told_fst]
    unfold Hd.pred
    split
    · simp [this]
    · split <;> simp [Hd.take, Hd.turn, strike_len, this]
  · simp [Hd.zero]
end Go.Proofs.YtkenbanaodbooaaGreatDoor
