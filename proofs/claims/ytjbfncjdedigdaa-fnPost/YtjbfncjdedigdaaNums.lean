/- Numbers in a text: how one is shown and read, many with blanks between. -/
import Derived.Test.YtjbfncjdedigdaaM3
namespace Go.Proofs.Ytjbfncjdedigdaa
open Go.RowKit

theorem app' (a b : Bs) : (({ data := a.toArray } : ByteArray) ++ { data := b.toArray }) = { data := (a ++ b).toArray } := ByteArray.mk_append_mk a b
theorem bsize' (a : Bs) : ({ data := a.toArray } : ByteArray).size = a.length := rfl
def isDig (b : UInt8) : Bool := decide (48 ≤ byteI b) && decide (byteI b ≤ 57)
def val (l : Bs) : Int := l.foldl (fun n b => n * 10 + (byteI b - 48)) 0
def neg (l : Bs) : Bool := l.head? == some 45
def offN (l : Bs) : Nat := if neg l then 1 else 0
def digs (l : Bs) : Bs := l.drop (offN l)
def okN (l : Bs) : Bool := decide (1 ≤ (digs l).length) && decide ((digs l).length ≤ 9) && (digs l).all isDig && !(decide ((digs l).head? = some 48) && decide (1 < l.length))
def num (l : Bs) : Int := if okN l then (if neg l then -(val (digs l)) else val (digs l)) else 0

theorem val_snoc (l : Bs) (b : UInt8) : val (l ++ [b]) = val l * 10 + (byteI b - 48) := by simp [val]
theorem isDig_iff (b : UInt8) : isDig b = true ↔ 48 ≤ byteI b ∧ byteI b ≤ 57 := by simp [isDig]
theorem val_bd (l : Bs) (h : l.all isDig = true) : 0 ≤ val l ∧ val l < 10 ^ l.length := by
  induction hn : l.length generalizing l with
  | zero =>
    have : l = [] := List.eq_nil_of_length_eq_zero hn
    subst this; simp [val]
  | succ n ih =>
    rcases List.eq_nil_or_concat l with rfl | ⟨m, b, rfl⟩
    · simp at hn
    · rw [List.concat_eq_append] at h hn ⊢
      rw [List.all_append, Bool.and_eq_true] at h
      have hb : isDig b = true := by simpa using h.2
      rw [isDig_iff] at hb
      have h1 := ih m h.1 (by simpa using hn)
      rw [val_snoc, Int.pow_succ]
      omega
theorem val_small (l : Bs) (h : l.all isDig = true) (hl : l.length ≤ 9) : 0 ≤ val l ∧ val l < 1000000000 := by
  have h1 := val_bd l h
  have h2 : (10 : Int) ^ l.length ≤ 10 ^ 9 := by
    have : (10 : Nat) ^ l.length ≤ 10 ^ 9 := Nat.pow_le_pow_right (by omega) hl
    exact_mod_cast this
  have e : (10 : Int) ^ 9 = 1000000000 := by decide
  omega
theorem okN_iff (l : Bs) : okN l = true ↔ 1 ≤ (digs l).length ∧ (digs l).length ≤ 9 ∧ (digs l).all isDig = true ∧ ¬ ((digs l).head? = some 48 ∧ 1 < l.length) := by
  simp only [okN, Bool.and_eq_true, decide_eq_true_eq, Bool.not_eq_true', Bool.and_eq_false_iff, decide_eq_false_iff_not]
  constructor
  · rintro ⟨⟨⟨h1, h2⟩, h3⟩, h4⟩
    exact ⟨h1, h2, h3, fun ⟨a, b⟩ => by rcases h4 with h | h; exact h a; exact h b⟩
  · rintro ⟨h1, h2, h3, h4⟩
    refine ⟨⟨⟨h1, h2⟩, h3⟩, ?_⟩
    by_cases h : (digs l).head? = some 48
    · exact .inr (fun h' => h4 ⟨h, h'⟩)
    · exact .inl h
theorem num_bd (l : Bs) : -1000000000 < num l ∧ num l < 1000000000 := by
  unfold num
  split
  · rename_i h
    rw [okN_iff] at h
    have := val_small _ h.2.2.1 h.2.1
    split <;> omega
  · omega
theorem digs_len (l : Bs) : (digs l).length = l.length - offN l := by simp [digs]
theorem offN_le (l : Bs) : offN l ≤ l.length := by
  unfold offN neg
  cases l with
  | nil => simp
  | cons b l => split <;> simp

/- What is shown of a number is read again, and what is read is shown so. -/
theorem digit_byte (n : Nat) : byteI (digit n) = 48 + (n % 10 : Nat) := by
  have : (digit n).toNat = 48 + n % 10 := by unfold digit; rw [UInt8.toNat_ofNat']; omega
  unfold byteI; rw [this]; omega
theorem isDig_digit (n : Nat) : isDig (digit n) = true := by
  rw [isDig_iff, digit_byte]; omega
theorem dec_digs (n : Nat) : (dec n).all isDig = true ∧ val (dec n) = n := by
  induction n using Nat.strongRecOn with
  | ind n ih =>
    rw [dec]
    split
    · refine ⟨by simp [isDig_digit], ?_⟩
      have := val_snoc [] (digit n)
      rw [List.nil_append] at this
      rw [this, digit_byte]
      simp [val]; omega
    · obtain ⟨h1, h2⟩ := ih (n / 10) (by omega)
      refine ⟨by rw [List.all_append, h1]; simp [isDig_digit], ?_⟩
      rw [val_snoc, h2, digit_byte]
      omega
theorem digit_of {b : UInt8} (n : Nat) (hn : ((n % 10 : Nat) : Int) = byteI b - 48) : digit n = b := by
  apply UInt8.toNat_inj.1
  have := digit_byte n
  unfold byteI at this hn
  omega
theorem dec_val (l : Bs) (h : l.all isDig = true) (h0 : l ≠ []) (hz : l.head? = some 48 → l.length = 1) : dec (val l).toNat = l := by
  induction hn : l.length generalizing l with
  | zero => exact absurd (List.eq_nil_of_length_eq_zero hn) h0
  | succ n ih =>
    rcases List.eq_nil_or_concat l with rfl | ⟨m, b, rfl⟩
    · simp at hn
    · rw [List.concat_eq_append] at h hn h0 hz ⊢
      rw [List.all_append, Bool.and_eq_true] at h
      have hb : isDig b = true := by simpa using h.2
      have hb' := (isDig_iff b).1 hb
      by_cases hm : m = []
      · subst hm
        have hv : val ([] ++ [b]) = byteI b - 48 := by rw [val_snoc]; simp [val]
        rw [hv, dec, if_pos (by omega), digit_of (b := b) _ (by omega)]
        rfl
      · have hz' : m.head? = some 48 → m.length = 1 := by
          intro e
          cases m with
          | nil => exact absurd rfl hm
          | cons c m =>
            have := hz (by simpa using e)
            simp at this
        have hpos : m.head? ≠ some 48 := by
          intro e
          cases m with
          | nil => exact absurd rfl hm
          | cons c m =>
            have := hz (by simpa using e)
            simp at this
        have h1 := ih m h.1 hm hz' (by simpa using hn)
        have h2 := val_bd m h.1
        have h3 : val m ≠ 0 := by
          intro e
          rw [e] at h1
          have : dec (0 : Int).toNat = [48] := dec_zero
          rw [this] at h1
          rw [← h1] at hpos
          exact hpos rfl
        rw [val_snoc, dec, if_neg (by omega)]
        have e1 : (val m * 10 + (byteI b - 48)).toNat / 10 = (val m).toNat := by omega
        rw [e1, h1, digit_of (b := b) _ (by omega)]
theorem dec_ne_nil (n : Nat) : dec n ≠ [] := by
  rw [dec]; split <;> simp
theorem dec_pos_head (n : Nat) (h : 0 < n) : (dec n).head? ≠ some 48 := by
  induction n using Nat.strongRecOn with
  | ind n ih =>
    rw [dec]
    split
    · intro e
      have e2 : digit n = 48 := by simpa using e
      have := digit_byte n
      rw [e2] at this
      have h48 : byteI 48 = 48 := rfl
      omega
    · have := ih (n / 10) (by omega) (by omega)
      cases hd : dec (n / 10) with
      | nil => exact absurd hd (dec_ne_nil _)
      | cons c l => rw [hd] at this; simpa using this
theorem neg_dec (n : Nat) : neg (dec n) = false := by
  cases hd : dec n with
  | nil => exact absurd hd (dec_ne_nil _)
  | cons c l =>
    have h := (dec_digs n).1
    rw [hd, List.all_cons, Bool.and_eq_true] at h
    have h1 := (isDig_iff c).1 h.1
    unfold neg
    by_cases e : c = 45
    · subst e
      have : byteI 45 = 45 := rfl
      omega
    · simpa using e
theorem read_dec (n : Nat) (h : n < 1000000000) : okN (dec n) = true ∧ num (dec n) = n := by
  have hn := neg_dec n
  have hd : digs (dec n) = dec n := by simp [digs, offN, hn]
  have hl := dec_len 8 n (by omega)
  have ok : okN (dec n) = true := by
    rw [okN_iff, hd]
    refine ⟨?_, hl, (dec_digs n).1, ?_⟩
    · have := dec_ne_nil n
      have := List.length_pos_iff.2 this
      omega
    · rintro ⟨e1, e2⟩
      by_cases h0 : n = 0
      · subst h0
        rw [dec_zero] at e2
        simp at e2
      · exact dec_pos_head n (by omega) e1
  refine ⟨ok, ?_⟩
  unfold num
  rw [ok, hn, hd, (dec_digs n).2]
  simp
theorem read_back (l : Bs) (h : okN l = true) (h0 : 0 ≤ num l) : dec (num l).toNat = l := by
  rw [okN_iff] at h
  have ok : okN l = true := (okN_iff l).2 h
  obtain ⟨h1, h2, h3, h4⟩ := h
  have hne : digs l ≠ [] := by intro e; rw [e] at h1; simp at h1
  unfold num at h0 ⊢
  rw [if_pos ok] at h0 ⊢
  cases hng : neg l with
  | true =>
    exfalso
    rw [hng, if_pos rfl] at h0
    have hlen : 1 < l.length := by
      have := digs_len l
      simp only [offN, hng, if_true] at this
      omega
    have hz : (digs l).head? ≠ some 48 := fun e => h4 ⟨e, hlen⟩
    have hb := val_bd _ h3
    have hv : val (digs l) = 0 := by omega
    have := dec_val (digs l) h3 hne (fun e => absurd e hz)
    rw [hv] at this
    have e0 : dec (0 : Int).toNat = [48] := dec_zero
    rw [e0] at this
    rw [← this] at hz
    exact hz rfl
  | false =>
    have hd : digs l = l := by simp [digs, offN, hng]
    rw [hd] at h3 h4 hne ⊢
    simp only [Bool.false_eq_true, if_false]
    exact dec_val l h3 hne (fun e => by
      have : ¬ 1 < l.length := fun h => h4 ⟨e, h⟩
      have := List.length_pos_iff.2 hne
      omega)
def intsB : List Int → Bs
  | [] => []
  | [x] => decI x
  | x :: y :: l => decI x ++ 32 :: intsB (y :: l)
theorem decI_len (n : Int) (h0 : -9223372036854775808 ≤ n) (h1 : n ≤ 9223372036854775807) : (decI n).length ≤ 21 := by
  have := dec_len 19 n.natAbs (by omega)
  unfold decI
  split <;> simp <;> omega
theorem decI_pos {n : Int} (h : 0 ≤ n) : decI n = dec n.toNat := by
  unfold decI
  rw [if_neg (by omega)]
  congr 1
  omega
theorem splitB_word (c : UInt8) (a : Bs) (h : ∀ b ∈ a, b ≠ c) : splitB c a = [a] := by
  induction a with
  | nil => rfl
  | cons b a ih => rw [splitB, if_neg (h b (by simp)), ih (fun x hx => h x (by simp [hx]))]; rfl
def joinB (c : UInt8) : List Bs → Bs
  | [] => []
  | [x] => x
  | x :: y :: l => x ++ c :: joinB c (y :: l)
theorem joinB_ahead (c : UInt8) (a : Bs) (l : List Bs) (h : l ≠ []) : joinB c (ahead a l) = a ++ joinB c l := by
  cases l with
  | nil => exact absurd rfl h
  | cons p ps => cases ps <;> simp [ahead, joinB]
theorem joinB_split (c : UInt8) (s : Bs) : joinB c (splitB c s) = s := by
  induction s with
  | nil => rfl
  | cons b t ih =>
    rw [splitB]
    split
    · rename_i h
      cases hs : splitB c t with
      | nil => exact absurd hs (splitB_ne c t)
      | cons p ps => rw [joinB, ← hs, ih, h]; rfl
    · rw [joinB_ahead c [b] _ (splitB_ne c t), ih]; rfl
/- Four numbers in a row, in a block of the call's own. -/
def fourB (xs : List Int) (j : Nat) : Bs := if j = 0 then [] else intsB (xs.take j)
theorem intsB_snoc (xs : List Int) (x : Int) (h : xs ≠ []) : intsB (xs ++ [x]) = intsB xs ++ 32 :: decI x := by
  induction xs with
  | nil => exact absurd rfl h
  | cons a l ih =>
    cases l with
    | nil => rfl
    | cons b l =>
      have := ih (by simp)
      simp only [List.cons_append] at this ⊢
      rw [intsB, this, intsB]
      simp
theorem fourB_step (xs : List Int) (j : Nat) (h : j < xs.length) : fourB xs (j + 1) = (if j = 0 then [] else fourB xs j ++ [32]) ++ decI (xs.getD j 0) := by
  unfold fourB
  rw [if_neg (by omega), List.take_succ_eq_append_getElem h]
  have e : xs.getD j 0 = xs[j] := by simp [h]
  rw [e]
  by_cases h0 : j = 0
  · subst h0
    simp [intsB]
  · rw [if_neg h0, if_neg h0, intsB_snoc _ _ (by intro e; have := congrArg List.length e; rw [List.length_take, Nat.min_eq_left (by omega)] at this; exact h0 this)]
    simp
theorem intsB_len (xs : List Int) (h : ∀ x ∈ xs, -9223372036854775808 ≤ x ∧ x ≤ 9223372036854775807) : (intsB xs).length ≤ 22 * xs.length := by
  induction xs with
  | nil => simp [intsB]
  | cons a l ih =>
    have ha := h a (by simp)
    have hl := decI_len a ha.1 ha.2
    cases l with
    | nil => simp [intsB]; omega
    | cons b l =>
      have := ih (fun x hx => h x (by simp [hx]))
      rw [intsB]
      simp at this ⊢
      omega
theorem join_ints (xs : List Int) : joinB 32 (xs.map decI) = intsB xs := by
  induction xs with
  | nil => rfl
  | cons x l ih =>
    cases l with
    | nil => rfl
    | cons y l =>
      rw [List.map_cons, List.map_cons, joinB, ← List.map_cons, ih]
      rfl
def Fits64 (xs : List Int) : Prop := ∀ x ∈ xs, -9223372036854775808 ≤ x ∧ x ≤ 9223372036854775807
end Go.Proofs.Ytjbfncjdedigdaa
