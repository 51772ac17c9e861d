/- Heaps of blocks as plain lists: what is swapped, put in, taken out; which set a list of blocks is. -/
import Derived.Test.YtelfpdjidppblaaCp
namespace Go.Proofs.Ytelfpdjidppblaa
open Go.RowKit

def swapL (l : List Int) (i j : Nat) : List Int := (l.set i (l.getD j 0)).set j (l.getD i 0)
theorem swapL_length (l : List Int) (i j : Nat) : (swapL l i j).length = l.length := by simp [swapL]
theorem swapL_get (l : List Int) (i j : Nat) (hi : i < l.length) (hj : j < l.length) (k : Nat) (hk : k < l.length) : (swapL l i j).getD k 0 = if k = j then l.getD i 0 else if k = i then l.getD j 0 else l.getD k 0 := by
  unfold swapL
  simp only [List.getD_eq_getElem?_getD, List.getElem?_set, List.length_set]
  by_cases h1 : j = k
  · subst h1; simp [hj]
  · by_cases h2 : i = k
    · subst h2
      simp [h1, hi, Ne.symm h1]
    · simp [h1, h2, Ne.symm h1, Ne.symm h2]
theorem swapL_perm (l : List Int) (i j : Nat) (hi : i < l.length) (hj : j < l.length) : (swapL l i j).Perm l := by
  have e1 : l.getD i 0 = l[i] := by simp [hi]
  have e2 : l.getD j 0 = l[j] := by simp [hj]
  unfold swapL
  rw [e1, e2]
  exact List.set_set_perm hi hj

def bagI (s : Int) (k : Nat) : List Int := ((List.range k).filter (fun j : Nat => inB s (j : Int))).map (fun j : Nat => (j : Int))
theorem bagI_succ (s : Int) (k : Nat) : bagI s (k + 1) = if inB s (k : Int) then bagI s k ++ [(k : Int)] else bagI s k := by
  unfold bagI
  rw [List.range_succ, List.filter_append]
  by_cases h : inB s (k : Int) = true
  · simp [h]
  · simp [h]
theorem bagI_lt {s : Int} {k : Nat} {x : Int} (h : x ∈ bagI s k) : 0 ≤ x ∧ x < k := by
  unfold bagI at h
  simp only [List.mem_map, List.mem_filter, List.mem_range] at h
  obtain ⟨j, ⟨h1, -⟩, rfl⟩ := h
  omega
theorem bagI_mem (s : Int) (k : Nat) (x : Int) : x ∈ bagI s k ↔ 0 ≤ x ∧ x < k ∧ inB s x = true := by
  unfold bagI
  simp only [List.mem_map, List.mem_filter, List.mem_range]
  constructor
  · rintro ⟨j, ⟨h1, h2⟩, rfl⟩
    exact ⟨by omega, by omega, h2⟩
  · rintro ⟨h1, h2, h3⟩
    exact ⟨x.toNat, ⟨by omega, by rw [Int.toNat_of_nonneg h1]; exact h3⟩, by omega⟩
theorem bagI_nodup (s : Int) (k : Nat) : (bagI s k).Nodup := by
  induction k with
  | zero => simp [bagI]
  | succ k ih =>
    rw [bagI_succ]
    split
    · rw [List.nodup_append]
      refine ⟨ih, by simp, ?_⟩
      intro a ha b hb
      have := bagI_lt ha
      simp at hb
      omega
    · exact ih
theorem bagI_len (s : Int) (k : Nat) : (bagI s k).length ≤ k := by
  unfold bagI
  rw [List.length_map]
  exact Nat.le_trans (List.length_filter_le _ _) (by simp)
/- Which set a list is. -/
def setL (l : List Int) : Int := l.foldl withI 0
theorem foldl_with (l : List Int) : ∀ s : Int, 0 ≤ s → s < 256 → (∀ x ∈ l, 0 ≤ x ∧ x < 8) → 0 ≤ l.foldl withI s ∧ l.foldl withI s < 256 ∧ ∀ k, inB (l.foldl withI s) k = (inB s k || decide (k ∈ l)) := by
  induction l with
  | nil => intro s h0 h1 _; simp [h0, h1]
  | cons a l ih =>
    intro s h0 h1 hb
    have ha := hb a (by simp)
    have h2 := with_nonneg (i := a) h0 h1
    have h3 : withI s a < 256 := by
      obtain ⟨n, rfl⟩ := nat_of h0
      obtain ⟨j, rfl⟩ := nat_of ha.1
      have := with_all n (by omega) j (by omega)
      omega
    obtain ⟨r0, r1, r2⟩ := ih (withI s a) h2 h3 (fun x hx => hb x (by simp [hx]))
    refine ⟨r0, r1, fun k => ?_⟩
    rw [List.foldl_cons, r2, with_in h0 h1, Bool.eq_iff_iff]
    simp only [Bool.or_eq_true, Bool.and_eq_true, beq_iff_eq, decide_eq_true_eq, List.mem_cons]
    constructor
    · rintro ((h | ⟨⟨h, -⟩, -⟩) | h)
      · exact .inl h
      · exact .inr (.inl h)
      · exact .inr (.inr h)
    · rintro (h | h | h)
      · exact .inl (.inl h)
      · exact .inl (.inr ⟨⟨h, ha.1⟩, ha.2⟩)
      · exact .inr h
theorem setL_in {l : List Int} (hb : ∀ x ∈ l, 0 ≤ x ∧ x < 8) : 0 ≤ setL l ∧ setL l < 256 ∧ ∀ k, inB (setL l) k = decide (k ∈ l) := by
  obtain ⟨h0, h1, h2⟩ := foldl_with l 0 (by omega) (by omega) hb
  refine ⟨h0, h1, fun k => ?_⟩
  unfold setL
  rw [h2]
  have : inB 0 k = false := by
    by_cases hk : 0 ≤ k ∧ k < 8
    · obtain ⟨m, rfl⟩ := nat_of hk.1
      have : ∀ m : Nat, m < 8 → inB 0 (m : Int) = false := by decide +kernel
      exact this m (by omega)
    · exact inB_noitem (by omega)
  rw [this]
  rfl
theorem set_parts : ∀ n : Nat, n < 256 → ((List.range 8).foldl (fun a k => a + if inN n k then 2 ^ k else 0) 0) = n := by decide +kernel
theorem set_ext {a b : Int} (ha0 : 0 ≤ a) (ha : a < 256) (hb0 : 0 ≤ b) (hb : b < 256) (h : ∀ k : Nat, k < 8 → inB a k = inB b k) : a = b := by
  obtain ⟨n, rfl⟩ := nat_of ha0
  obtain ⟨m, rfl⟩ := nat_of hb0
  have e1 := set_parts n (by omega)
  have e2 := set_parts m (by omega)
  have h' : ∀ k : Nat, k < 8 → inN n k = inN m k := by
    intro k hk
    have := h k hk
    rw [inB_pos ha0 ha (by omega) (by omega), inB_pos hb0 hb (by omega) (by omega)] at this
    simpa using this
  have e3 : ((List.range 8).foldl (fun a k => a + if inN n k then 2 ^ k else 0) 0) = ((List.range 8).foldl (fun a k => a + if inN m k then 2 ^ k else 0) 0) := by
    have f : ∀ (l : List Nat) (s : Nat), (∀ k ∈ l, k < 8) → l.foldl (fun a k => a + if inN n k then 2 ^ k else 0) s = l.foldl (fun a k => a + if inN m k then 2 ^ k else 0) s := by
      intro l
      induction l with
      | nil => intro s _; rfl
      | cons x l ih =>
        intro s hl
        rw [List.foldl_cons, List.foldl_cons, h' x (hl x (by simp))]
        exact ih _ (fun k hk => hl k (by simp [hk]))
    exact f _ 0 (fun k hk => by simpa using hk)
  rw [e1, e2] at e3
  rw [e3]
theorem inN_testBit (n k : Nat) : inN n k = n.testBit k := by
  unfold inN
  rw [Nat.testBit_eq_decide_div_mod_eq]
  rw [Bool.eq_iff_iff]
  simp
theorem or_in' {a b : Int} (ha0 : 0 ≤ a) (ha : a < 256) (hb0 : 0 ≤ b) (hb : b < 256) (k : Nat) (hk : k < 8) : 0 ≤ orI a b ∧ orI a b < 256 ∧ inB (orI a b) k = (inB a k || inB b k) := by
  obtain ⟨n, rfl⟩ := nat_of ha0
  obtain ⟨m, rfl⟩ := nat_of hb0
  have l : n ||| m < 2 ^ 8 := Nat.or_lt_two_pow (by omega) (by omega)
  have e : orI (n : Int) (m : Int) = ((n ||| m : Nat) : Int) := by simp [orI]
  rw [e]
  have h1 : (0 : Int) ≤ ((n ||| m : Nat) : Int) := by omega
  have h2 : ((n ||| m : Nat) : Int) < 256 := by omega
  refine ⟨h1, h2, ?_⟩
  rw [inB_pos h1 h2 (by omega) (by omega), inB_pos ha0 ha (by omega) (by omega), inB_pos hb0 hb (by omega) (by omega)]
  simp only [Int.toNat_natCast, inN_testBit, Nat.testBit_or]
/- What lies in a heap behind 'add': k blocks of the set have been looked at. -/
structure Added (l : List Int) (s : Int) (k : Nat) (r : List Int) : Prop where
  nodup : r.Nodup
  mem : ∀ x, x ∈ r ↔ x ∈ l ∨ x ∈ bagI s k
  bag : l = [] → r = bagI s k
theorem Added.start {l : List Int} (h : l.Nodup) (s : Int) : Added l s 0 l := ⟨h, by simp [bagI], fun e => by simp [e, bagI]⟩
theorem Added.skip {l r : List Int} {s : Int} {k : Nat} (h : Added l s k r) (hn : inB s (k : Int) = false) : Added l s (k + 1) r := by
  have e : bagI s (k + 1) = bagI s k := by rw [bagI_succ, hn]; rfl
  exact ⟨h.nodup, by rw [e]; exact h.mem, by rw [e]; exact h.bag⟩
theorem Added.there {l r : List Int} {s : Int} {k : Nat} (h : Added l s k r) (hi : inB s (k : Int) = true) (hc : (k : Int) ∈ r) : Added l s (k + 1) r := by
  have e : bagI s (k + 1) = bagI s k ++ [(k : Int)] := by rw [bagI_succ, hi]; rfl
  refine ⟨h.nodup, ?_, ?_⟩
  · intro x
    rw [e, h.mem, List.mem_append, List.mem_singleton]
    constructor
    · rintro (h1 | h1)
      · exact .inl h1
      · exact .inr (.inl h1)
    · rintro (h1 | h1 | h1)
      · exact .inl h1
      · exact .inr h1
      · rw [h1]; exact (h.mem _).1 hc
  · intro el
    rw [h.bag el] at hc
    have := bagI_lt hc
    omega
theorem Added.push {l r q : List Int} {s : Int} {k : Nat} (h : Added l s k r) (hi : inB s (k : Int) = true) (hc : (k : Int) ∉ r) (p : q.Perm (r ++ [(k : Int)])) (hs : (∀ y ∈ r, y ≤ (k : Int)) → q = r ++ [(k : Int)]) : Added l s (k + 1) q := by
  have e : bagI s (k + 1) = bagI s k ++ [(k : Int)] := by rw [bagI_succ, hi]; rfl
  refine ⟨?_, ?_, ?_⟩
  · rw [p.nodup_iff, List.nodup_append]
    refine ⟨h.nodup, by simp, ?_⟩
    intro a ha b hb
    simp at hb
    rintro rfl
    exact hc (hb ▸ ha)
  · intro x
    rw [e, p.mem_iff, List.mem_append, List.mem_append, h.mem, or_assoc]
  · intro el
    have hr := h.bag el
    rw [e, ← hr]
    refine hs (fun y hy => ?_)
    rw [hr] at hy
    have := bagI_lt hy
    omega
theorem Added.bound {l r : List Int} {s : Int} {k : Nat} (h : Added l s k r) (hl : ∀ x ∈ l, 0 ≤ x ∧ x < 8) (hk : k ≤ 8) : ∀ x ∈ r, 0 ≤ x ∧ x < 8 := by
  intro x hx
  rcases (h.mem x).1 hx with h1 | h1
  · exact hl x h1
  · have := bagI_lt h1
    omega
theorem nodup_short {l : List Int} (h : l.Nodup) (hl : ∀ x ∈ l, 0 ≤ x ∧ x < 8) : l.length ≤ 8 := by
  have h1 : l ⊆ (List.range 8).map (fun j : Nat => (j : Int)) := by
    intro x hx
    have := hl x hx
    rw [List.mem_map]
    exact ⟨x.toNat, by simp; omega, by omega⟩
  have := h.length_le_of_subset h1
  simpa using this
/- The three uses. -/
theorem mem8 {s : Int} (x : Int) : x ∈ bagI s 8 ↔ inB s x = true := by
  rw [bagI_mem]
  constructor
  · exact fun h => h.2.2
  · intro h
    have := inB_big h
    exact ⟨this.2.2.1, by omega, h⟩
theorem set_added {d s : Int} {r : List Int} (hd0 : 0 ≤ d) (hd : d < 256) (hs0 : 0 ≤ s) (hs : s < 256) (h : Added (bagI d 8) s 8 r) : setL r = orI d s := by
  have hb := h.bound (fun x hx => by have := bagI_lt hx; omega) (Nat.le_refl _)
  obtain ⟨h0, h1, h2⟩ := setL_in hb
  have o := fun k hk => or_in' hd0 hd hs0 hs k hk
  refine set_ext h0 h1 (o 0 (by omega)).1 (o 0 (by omega)).2.1 (fun k hk => ?_)
  rw [h2, (o k hk).2.2, Bool.eq_iff_iff]
  simp only [decide_eq_true_eq, Bool.or_eq_true]
  rw [h.mem, mem8, mem8]
theorem with_zero : ∀ i : Nat, i < 8 → (withI 0 (i : Int)).toNat < 256 ∧ 0 ≤ withI 0 (i : Int) ∧ ∀ n : Nat, n < 256 → orI n (withI 0 i) = withI n i := by decide +kernel
theorem bag_first (n : Nat) (hn : n < 256) : (0 ≤ firstI n → (bagI n 8).getD 0 0 = firstI n ∧ (bagI n 8) ≠ [] ∧ setL (bagI n 8).tail = withoutI n (firstI n)) ∧ (firstI n < 0 → bagI n 8 = []) := by
  have : ∀ n : Nat, n < 256 → (0 ≤ firstI n → (bagI n 8).getD 0 0 = firstI n ∧ (bagI n 8) ≠ [] ∧ setL (bagI n 8).tail = withoutI n (firstI n)) ∧ (firstI n < 0 → bagI n 8 = []) := by decide +kernel
  exact this n hn
theorem setL_perm {l m : List Int} (hl : ∀ x ∈ l, 0 ≤ x ∧ x < 8) (p : m.Perm l) : setL m = setL l := by
  have hm : ∀ x ∈ m, 0 ≤ x ∧ x < 8 := fun x hx => hl x (p.mem_iff.1 hx)
  obtain ⟨a0, a1, a2⟩ := setL_in hl
  obtain ⟨b0, b1, b2⟩ := setL_in hm
  refine set_ext b0 b1 a0 a1 (fun k _ => ?_)
  rw [a2, b2, Bool.eq_iff_iff]
  simp only [decide_eq_true_eq]
  exact p.mem_iff
theorem setL_take (l : List Int) (j : Nat) (h : j < l.length) : setL (l.take (j + 1)) = withI (setL (l.take j)) (l.getD j 0) := by
  unfold setL
  rw [List.take_succ_eq_append_getElem h, List.foldl_append]
  simp [h]
end Go.Proofs.Ytelfpdjidppblaa
