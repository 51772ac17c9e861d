/- What the law on sets asks, of plain numbers: one that is put in or taken out changes no other, and the first is the least. -/
import Derived.Test.YtjbfncjdedigdaaM1
import Derived.Test.YtjbfncjdedigdaaM8
import Derived.Test.YtjbfncjdedigdaaM2
namespace Go.Proofs.Ytjbfncjdedigdaa
open Go.RowKit

theorem with_all : ∀ n : Nat, n < 256 → ∀ i : Nat, i < 8 → (withI n i).toNat < 256 ∧ 0 ≤ withI n i ∧ ∀ k : Nat, k < 8 → inN (withI n i).toNat k = (inN n k || k == i) := by decide +kernel
theorem without_all : ∀ n : Nat, n < 256 → ∀ i : Nat, i < 8 → (withoutI n i).toNat < 256 ∧ 0 ≤ withoutI n i ∧ ∀ k : Nat, k < 8 → inN (withoutI n i).toNat k = (inN n k && k != i) := by decide +kernel
theorem full_all : ∀ n : Nat, n < 9 → (fullI n).toNat < 256 ∧ 0 ≤ fullI n ∧ ∀ k : Nat, k < 8 → inN (fullI n).toNat k = decide (k < n) := by decide +kernel
theorem zero_all : ∀ n : Nat, n < 256 → (∀ k : Nat, k < 8 → inN n k = false) → n = 0 := by decide +kernel

theorem inB_big {s k : Int} (h : inB s k = true) : 0 ≤ s ∧ s < 256 ∧ 0 ≤ k ∧ k < 8 := by
  simp [inB, setOk, itemOk] at h
  omega

theorem withI_ok {s i : Int} (h : 0 ≤ withI s i) : 0 ≤ s ∧ s < 256 := by
  by_cases hs : 0 ≤ s ∧ s < 256
  · exact hs
  · rw [withI_noset (by omega)] at h; omega

theorem with_nonneg {s i : Int} (h0 : 0 ≤ s) (h1 : s < 256) : 0 ≤ withI s i := by
  by_cases hi : 0 ≤ i ∧ i < 8
  · obtain ⟨n, rfl⟩ := nat_of h0
    obtain ⟨j, rfl⟩ := nat_of hi.1
    exact (with_all n (by omega) j (by omega)).2.1
  · rw [withI_noitem h0 h1 (by omega)]; exact h0

theorem with_in {s i : Int} (h0 : 0 ≤ s) (h1 : s < 256) (k : Int) : inB (withI s i) k = (inB s k || (k == i && decide (0 ≤ i) && decide (i < 8))) := by
  by_cases hi : 0 ≤ i ∧ i < 8
  · obtain ⟨n, rfl⟩ := nat_of h0
    obtain ⟨j, rfl⟩ := nat_of hi.1
    have a := with_all n (by omega) j (by omega)
    by_cases hk : 0 ≤ k ∧ k < 8
    · obtain ⟨m, rfl⟩ := nat_of hk.1
      rw [inB_pos a.2.1 (by omega) hk.1 hk.2, inB_pos h0 h1 hk.1 hk.2]
      have := a.2.2 m (by omega)
      simp only [Int.toNat_natCast] at this ⊢
      rw [this]
      have e : ((m : Int) == (j : Int)) = (m == j) := by
        rw [Bool.eq_iff_iff]; simp; omega
      rw [e]
      simp [hi.2]
    · rw [inB_noitem (by omega), inB_noitem (by omega)]
      have : (k == (j : Int)) = false := by simp; omega
      simp [this]
  · rw [withI_noitem h0 h1 (by omega)]
    have : (decide (0 ≤ i) && decide (i < 8)) = false := by simp; omega
    rw [Bool.and_assoc, this]
    simp

theorem without_in {s i : Int} (h0 : 0 ≤ s) (h1 : s < 256) (k : Int) : inB (withoutI s i) k = (inB s k && (k != i)) := by
  by_cases hi : 0 ≤ i ∧ i < 8
  · obtain ⟨n, rfl⟩ := nat_of h0
    obtain ⟨j, rfl⟩ := nat_of hi.1
    have a := without_all n (by omega) j (by omega)
    by_cases hk : 0 ≤ k ∧ k < 8
    · obtain ⟨m, rfl⟩ := nat_of hk.1
      rw [inB_pos a.2.1 (by omega) hk.1 hk.2, inB_pos h0 h1 hk.1 hk.2]
      have := a.2.2 m (by omega)
      simp only [Int.toNat_natCast] at this ⊢
      rw [this]
      have e : ((m : Int) != (j : Int)) = (m != j) := by
        rw [Bool.eq_iff_iff]; simp; omega
      rw [e]
    · rw [inB_noitem (by omega), inB_noitem (by omega)]
      rfl
  · rw [withoutI_noitem h0 h1 (by omega)]
    cases hb : inB s k with
    | false => rfl
    | true =>
      have := inB_big hb
      have : (k != i) = true := by simp; omega
      simp [this]

theorem full_in {n : Int} (h : 0 ≤ fullI n) (k : Int) : inB (fullI n) k = (decide (0 ≤ k) && decide (k < n)) := by
  by_cases hn : 0 ≤ n ∧ n ≤ 8
  · obtain ⟨m, rfl⟩ := nat_of hn.1
    have a := full_all m (by omega)
    by_cases hk : 0 ≤ k ∧ k < 8
    · obtain ⟨j, rfl⟩ := nat_of hk.1
      rw [inB_pos a.2.1 (by omega) hk.1 hk.2]
      have := a.2.2 j (by omega)
      simp only [Int.toNat_natCast] at this ⊢
      rw [this]
      simp
    · rw [inB_noitem (by omega)]
      simp
      omega
  · have : fullI n = -1 := by unfold fullI; rw [if_neg hn]
    omega

theorem first_least {s k : Int} (h : inB s k = true) : 0 ≤ firstI s ∧ ¬ k < firstI s := by
  have b := inB_big h
  obtain ⟨m, rfl⟩ := nat_of b.2.2.1
  have hb := seekI_bd (hasP s) 0 (by omega)
  have hle : seekI (hasP s) 0 ≤ m := by
    rcases Nat.lt_or_ge m (seekI (hasP s) 0) with hlt | hge
    · have := seekI_before (hasP s) 0 (by omega) m (by omega) hlt
      simp [hasP, h] at this
    · exact hge
  unfold firstI
  rw [if_neg (by omega)]
  omega

theorem first_in {s : Int} (h : 0 ≤ firstI s) : inB s (firstI s) = true := by
  unfold firstI at h ⊢
  by_cases e : seekI (hasP s) 0 = 8
  · rw [if_pos e] at h; omega
  · rw [if_neg e]
    have hb := seekI_bd (hasP s) 0 (by omega)
    exact seekI_at (hasP s) 0 (by omega) (by omega)

theorem first_none {s : Int} (h : firstI s < 0) (h0 : 0 ≤ s) (h1 : s < 256) : s = 0 := by
  obtain ⟨n, rfl⟩ := nat_of h0
  have e : seekI (hasP n) 0 = 8 := by
    unfold firstI at h
    by_cases e : seekI (hasP n) 0 = 8
    · exact e
    · rw [if_neg e] at h; omega
  have := zero_all n (by omega) (fun k hk => by
    have := seekI_before (hasP n) 0 (by omega) k (by omega) (by omega)
    simp only [hasP] at this
    rw [inB_pos h0 h1 (by omega) (by omega)] at this
    simpa using this)
  omega
end Go.Proofs.Ytjbfncjdedigdaa
/- What the law on blocks asks, of plain lists: what is put is there, all else stays; chosen where they differ it is the other one. -/
namespace Go.Proofs.Ytjbfncjdedigdaa
open Go.RowKit

theorem differUp_in (a b : List Int) : ∀ k, k ≤ 8 → ∀ j : Nat, inB (differUp a b k) j = decide (j < k ∧ a.getD j 0 ≠ b.getD j 0)
  | 0, _, j => by
    rw [differUp]
    by_cases h : (j : Int) < 8
    · have : ∀ j : Nat, j < 8 → inB 0 j = false := by decide +kernel
      simpa using this j (by omega)
    · simpa using inB_noitem (s := 0) (i := (j : Int)) (by omega)
  | k + 1, hk, j => by
    have ih := differUp_in a b k (by omega) j
    have bd := differUp_bd a b k (by omega)
    rw [differUp]
    split
    · rename_i e
      rw [ih]
      by_cases hj : j = k
      · subst hj; simp [-List.getD_eq_getElem?_getD, e]
      · have : j < k + 1 ↔ j < k := by omega
        simp [this]
    · rename_i e
      rw [with_in bd.1 bd.2 (j : Int), ih]
      by_cases hj : j = k
      · subst hj
        have h8 : (j : Int) < 8 := by omega
        simp [-List.getD_eq_getElem?_getD, e, h8]
      · have h1 : j < k + 1 ↔ j < k := by omega
        have h2 : ((j : Int) == (k : Int)) = false := by simp; omega
        simp [h1, h2]

theorem list_eq_getD {a b : List Int} (hl : a.length = b.length) (h : ∀ j, j < a.length → a.getD j 0 = b.getD j 0) : a = b := by
  apply List.ext_getElem hl
  intro j h1 h2
  have := h j h1
  simpa [List.getD, h1, h2] using this

theorem differI_ok {a b : List Int} (h : 0 ≤ differI a b) : bothOk a b = true ∧ differI a b = differUp a b 8 := by
  unfold differI at h ⊢
  by_cases e : bothOk a b = true
  · simp [e]
  · simp [e] at h

theorem chosenI_differ {a b : List Int} (h : 0 ≤ differI a b) : chosenI a b (differI a b) = b := by
  obtain ⟨h1, h2⟩ := differI_ok h
  obtain ⟨o1, o2, o3⟩ := bothOk_yes' h1
  have bd := differUp_bd a b 8 (by omega)
  have hl := blocksOk_len o1
  rw [h2]
  unfold chosenI
  rw [if_pos (by simp [h1, setOk_pos bd.1 bd.2])]
  refine list_eq_getD (by rw [chosenUp_len]; exact o3) (fun j hj => ?_)
  rw [chosenUp_len] at hj
  rw [chosenUp_getD a b _ 8 _ j hj, differUp_in a b 8 (by omega) j]
  by_cases e : a.getD j 0 = b.getD j 0
  · simp [-List.getD_eq_getElem?_getD, e]
  · have h8 : j < 8 := by omega
    rw [if_pos]
    exact ⟨h8, by simp only [decide_eq_true_eq]; exact ⟨h8, e⟩⟩

theorem chosenI_zero {a b : List Int} (h : 0 ≤ differI a b) : chosenI a b 0 = a := by
  obtain ⟨h1, h2⟩ := differI_ok h
  obtain ⟨o1, o2, o3⟩ := bothOk_yes' h1
  unfold chosenI
  rw [if_pos (by simp [h1, setOk])]
  refine list_eq_getD (by rw [chosenUp_len]) (fun j hj => ?_)
  rw [chosenUp_len] at hj
  rw [chosenUp_getD a b _ 8 _ j hj, if_neg]
  have hl := blocksOk_len o1
  have : ∀ j : Nat, j < 8 → inB 0 j = false := by decide +kernel
  rintro ⟨h8, e⟩
  rw [this j h8] at e; cases e

theorem differUp_symm (a b : List Int) : ∀ k, differUp b a k = differUp a b k
  | 0 => rfl
  | k + 1 => by
    rw [differUp, differUp, differUp_symm a b k]
    by_cases e : a.getD k 0 = b.getD k 0
    · rw [if_pos e, if_pos e.symm]
    · rw [if_neg e, if_neg (fun h => e h.symm)]

theorem differI_symm (a b : List Int) : differI b a = differI a b := by
  have : bothOk b a = bothOk a b := by
    unfold bothOk
    rw [Bool.eq_iff_iff]
    simp
    constructor
    · rintro ⟨h1, h2, h3⟩; exact ⟨h2, h1, h3.symm⟩
    · rintro ⟨h1, h2, h3⟩; exact ⟨h2, h1, h3.symm⟩
  unfold differI
  rw [this, differUp_symm]

theorem putB_ok {xs : List Int} {i v : Int} (h : putB xs i v = true) : blocksOk xs = true ∧ 0 ≤ i ∧ i < (xs.length : Int) ∧ valOk v = true ∧ putI xs i v = xs.set i.toNat v := by
  simp [putB, placeOk] at h
  obtain ⟨h1, h2, h3, h4⟩ := h
  refine ⟨h1, h2, h3, h4, ?_⟩
  simp [putI, h1, placeOk, h2, h3, h4]

theorem putI_at {xs : List Int} {i v : Int} (h : putB xs i v = true) : (putI xs i v).length = xs.length ∧ (putI xs i v).getD i.toNat 0 = v := by
  obtain ⟨h1, h2, h3, h4, h5⟩ := putB_ok h
  have : i.toNat < xs.length := by omega
  rw [h5]
  simp [List.getD, this]

theorem differ_put {xs : List Int} {i v : Int} (h : putB xs i v = true) : differI xs (putI xs i v) = 0 ∨ differI xs (putI xs i v) = withI 0 i := by
  obtain ⟨h1, h2, h3, h4, h5⟩ := putB_ok h
  have hl := blocksOk_len h1
  obtain ⟨k, rfl⟩ : ∃ k : Nat, i = k := ⟨i.toNat, by omega⟩
  rw [h5]
  simp only [Int.toNat_natCast]
  have hb : bothOk xs (xs.set k v) = true := by
    have hv : blocksOk (xs.set k v) = true := by
      simp only [blocksOk, List.length_set, Bool.and_eq_true, List.all_eq_true] at h1 ⊢
      refine ⟨fun x hx => ?_, h1.2⟩
      rcases List.mem_or_eq_of_mem_set hx with hx | rfl
      · exact h1.1 x hx
      · exact h4
    simp [bothOk, h1, hv]
  have key : ∀ m, m ≤ 8 → differUp xs (xs.set k v) m = 0 ∨ (k < m ∧ differUp xs (xs.set k v) m = withI 0 k) := by
    intro m
    induction m with
    | zero => intro _; exact .inl rfl
    | succ m ih =>
      intro hm
      rw [differUp]
      by_cases e : m = k
      · subst e
        rcases ih (by omega) with h0 | ⟨h0, _⟩
        · split
          · exact .inl h0
          · rw [h0]; exact .inr ⟨by omega, rfl⟩
        · omega
      · have e' : xs.getD m 0 = (xs.set k v).getD m 0 := by
          have e2 : ¬ k = m := fun h => e h.symm
          simp [List.getD, e2]
        rw [if_pos e']
        rcases ih (by omega) with h0 | ⟨h0, h6⟩
        · exact .inl h0
        · exact .inr ⟨by omega, h6⟩
  have hd : differI xs (xs.set k v) = differUp xs (xs.set k v) 8 := by simp [differI, hb]
  rw [hd]
  rcases key 8 (by omega) with h0 | ⟨_, h0⟩
  · exact .inl h0
  · exact .inr h0

theorem chosenI_get (p q : List Int) (s : Int) : (chosenI p q s).length = 0 ∨ ((chosenI p q s).length = p.length ∧ (chosenI p q s).length = q.length ∧ (chosenI p q s).length ≤ 8 ∧ ∀ j : Nat, j < p.length → (chosenI p q s).getD j 0 = if inB s j = true then q.getD j 0 else p.getD j 0) := by
  unfold chosenI
  by_cases e : (bothOk p q && setOk s) = true
  · rw [if_pos e]
    simp at e
    obtain ⟨o1, o2, o3⟩ := bothOk_yes' e.1
    have hl := blocksOk_len o1
    rw [chosenUp_len]
    refine .inr ⟨rfl, o3, hl.2, fun j hj => ?_⟩
    rw [chosenUp_getD p q s 8 _ j hj]
    have : j < 8 := by omega
    simp [this]
  · rw [if_neg e]; exact .inl rfl
end Go.Proofs.Ytjbfncjdedigdaa
