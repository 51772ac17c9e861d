/- What the law on sets asks, of plain numbers: one that is put in or taken out changes no other, and the first is the least. -/
import Derived.Test.YtdcdfhklnhaimaaSets
import Derived.Test.YtdcdfhklnhaimaaSeek
namespace Go.Proofs.Ytdcdfhklnhaimaa
open Go.RowKit

theorem with_all : ∀ n : Nat, n < 256 → ∀ i : Nat, i < 8 → (withI n i).toNat < 256 ∧ 0 ≤ withI n i ∧ ∀ k : Nat, k < 8 → inN (withI n i).toNat k = (inN n k || k == i) := by decide +kernel
theorem without_all : ∀ n : Nat, n < 256 → ∀ i : Nat, i < 8 → (withoutI n i).toNat < 256 ∧ 0 ≤ withoutI n i ∧ ∀ k : Nat, k < 8 → inN (withoutI n i).toNat k = (inN n k && k != i) := by decide +kernel
theorem full_all : ∀ n : Nat, n < 9 → (fullI n).toNat < 256 ∧ 0 ≤ fullI n ∧ ∀ k : Nat, k < 8 → inN (fullI n).toNat k = decide (k < n) := by decide +kernel
theorem zero_all : ∀ n : Nat, n < 256 → (∀ k : Nat, k < 8 → inN n k = false) → n = 0 := by decide +kernel

theorem inB_big {s k : Int} (h : inB s k = true) : 0 ≤ s ∧ s < 256 ∧ 0 ≤ k ∧ k < 8 := by
  simp [inB, setOk, itemOk] at h
  omega

theorem withI_ok {s i : Int} (h : 0 ≤ withI s i) : 0 ≤ s ∧ s < 256 := by
  by_cases hs : 0 ≤ s ∧ s < 256
  · exact hs
  · rw [withI_noset (by omega)] at h; omega

theorem with_nonneg {s i : Int} (h0 : 0 ≤ s) (h1 : s < 256) : 0 ≤ withI s i := by
  by_cases hi : 0 ≤ i ∧ i < 8
  · obtain ⟨n, rfl⟩ := nat_of h0
    obtain ⟨j, rfl⟩ := nat_of hi.1
    exact (with_all n (by omega) j (by omega)).2.1
  · rw [withI_noitem h0 h1 (by omega)]; exact h0

theorem with_in {s i : Int} (h0 : 0 ≤ s) (h1 : s < 256) (k : Int) : inB (withI s i) k = (inB s k || (k == i && decide (0 ≤ i) && decide (i < 8))) := by
  by_cases hi : 0 ≤ i ∧ i < 8
  · obtain ⟨n, rfl⟩ := nat_of h0
    obtain ⟨j, rfl⟩ := nat_of hi.1
    have a := with_all n (by omega) j (by omega)
    by_cases hk : 0 ≤ k ∧ k < 8
    · obtain ⟨m, rfl⟩ := nat_of hk.1
      rw [inB_pos a.2.1 (by omega) hk.1 hk.2, inB_pos h0 h1 hk.1 hk.2]
      have := a.2.2 m (by omega)
      simp only [Int.toNat_natCast] at this ⊢
      rw [this]
      have e : ((m : Int) == (j : Int)) = (m == j) := by
        rw [Bool.eq_iff_iff]; simp; omega
      rw [e]
      simp [hi.2]
    · rw [inB_noitem (by omega), inB_noitem (by omega)]
      have : (k == (j : Int)) = false := by simp; omega
      simp [this]
  · rw [withI_noitem h0 h1 (by omega)]
    have : (decide (0 ≤ i) && decide (i < 8)) = false := by simp; omega
    rw [Bool.and_assoc, this]
    simp

theorem without_in {s i : Int} (h0 : 0 ≤ s) (h1 : s < 256) (k : Int) : inB (withoutI s i) k = (inB s k && (k != i)) := by
  by_cases hi : 0 ≤ i ∧ i < 8
  · obtain ⟨n, rfl⟩ := nat_of h0
    obtain ⟨j, rfl⟩ := nat_of hi.1
    have a := without_all n (by omega) j (by omega)
    by_cases hk : 0 ≤ k ∧ k < 8
    · obtain ⟨m, rfl⟩ := nat_of hk.1
      rw [inB_pos a.2.1 (by omega) hk.1 hk.2, inB_pos h0 h1 hk.1 hk.2]
      have := a.2.2 m (by omega)
      simp only [Int.toNat_natCast] at this ⊢
      rw [this]
      have e : ((m : Int) != (j : Int)) = (m != j) := by
        rw [Bool.eq_iff_iff]; simp; omega
      rw [e]
    · rw [inB_noitem (by omega), inB_noitem (by omega)]
      rfl
  · rw [withoutI_noitem h0 h1 (by omega)]
    cases hb : inB s k with
    | false => rfl
    | true =>
      have := inB_big hb
      have : (k != i) = true := by simp; omega
      simp [this]

theorem full_in {n : Int} (h : 0 ≤ fullI n) (k : Int) : inB (fullI n) k = (decide (0 ≤ k) && decide (k < n)) := by
  by_cases hn : 0 ≤ n ∧ n ≤ 8
  · obtain ⟨m, rfl⟩ := nat_of hn.1
    have a := full_all m (by omega)
    by_cases hk : 0 ≤ k ∧ k < 8
    · obtain ⟨j, rfl⟩ := nat_of hk.1
      rw [inB_pos a.2.1 (by omega) hk.1 hk.2]
      have := a.2.2 j (by omega)
      simp only [Int.toNat_natCast] at this ⊢
      rw [this]
      simp
    · rw [inB_noitem (by omega)]
      simp
      omega
  · have : fullI n = -1 := by unfold fullI; rw [if_neg hn]
    omega

theorem first_least {s k : Int} (h : inB s k = true) : 0 ≤ firstI s ∧ ¬ k < firstI s := by
  have b := inB_big h
  obtain ⟨m, rfl⟩ := nat_of b.2.2.1
  have hb := seekI_bd (hasP s) 0 (by omega)
  have hle : seekI (hasP s) 0 ≤ m := by
    rcases Nat.lt_or_ge m (seekI (hasP s) 0) with hlt | hge
    · have := seekI_before (hasP s) 0 (by omega) m (by omega) hlt
      simp [hasP, h] at this
    · exact hge
  unfold firstI
  rw [if_neg (by omega)]
  omega

theorem first_in {s : Int} (h : 0 ≤ firstI s) : inB s (firstI s) = true := by
  unfold firstI at h ⊢
  by_cases e : seekI (hasP s) 0 = 8
  · rw [if_pos e] at h; omega
  · rw [if_neg e]
    have hb := seekI_bd (hasP s) 0 (by omega)
    exact seekI_at (hasP s) 0 (by omega) (by omega)

theorem first_none {s : Int} (h : firstI s < 0) (h0 : 0 ≤ s) (h1 : s < 256) : s = 0 := by
  obtain ⟨n, rfl⟩ := nat_of h0
  have e : seekI (hasP n) 0 = 8 := by
    unfold firstI at h
    by_cases e : seekI (hasP n) 0 = 8
    · exact e
    · rw [if_neg e] at h; omega
  have := zero_all n (by omega) (fun k hk => by
    have := seekI_before (hasP n) 0 (by omega) k (by omega) (by omega)
    simp only [hasP] at this
    rw [inB_pos h0 h1 (by omega) (by omega)] at this
    simpa using this)
  omega
end Go.Proofs.Ytdcdfhklnhaimaa
