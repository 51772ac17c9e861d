/- Posts cut at a place; what FnPost says of the plain posts. -/
import Derived.Test.YtjbfncjdedigdaaM24
import Derived.Test.YtjbfncjdedigdaaPstSta
import Derived.Test.YtjbfncjdedigdaaDrawPost
namespace Go.Proofs.Ytjbfncjdedigdaa
open Go.ChangeShapes Go.WideShapes Go.ChangeAt Go.RowKit

theorem FewP.fewM {ps : List (Value × Mg)} {n : Nat} (h : FewP ps n) (hn : n ≤ 1000) : FewM (msOf ps) 1048576 1048576 := by
  have hk : ∀ (qs : List (Value × Mg)), (∀ p ∈ qs, p.2.h.ks.length ≤ 4) → totK qs ≤ 4 * qs.length := by
    intro qs
    induction qs with
    | nil => intro _; simp [totK]
    | cons p qs ih =>
      intro hq
      have h1 := ih (fun x hx => hq x (List.mem_cons_of_mem _ hx))
      have h2 := hq p (List.mem_cons_self ..)
      simp [totK] at *
      omega
  have h1 := h.1
  have h2 := hk ps h.2
  exact FewM.of (fun p hp => by have := h.2 p hp; omega) (by omega) (by omega)
/- Two posts that were answered at once. -/
def PpI (u : Value) (ps : List (Value × Mg)) (v : Value) (qs : List (Value × Mg)) : Item :=
  ⟨psB u ps ++ psB v qs, 0, fun w => OwnP w 0 u ps ∧ OwnP w 0 v qs, fun _ _ e _ h => ⟨h.1.frame (fun x hx => e x (List.mem_append_left _ hx)), h.2.frame (fun x hx => e x (List.mem_append_right _ hx))⟩⟩
theorem Sta.post2 {w wx wy : World} {L : List Item} {u v : Value} {ps qs : List (Value × Mg)} (h : Sta w wx L) (o : OwnP wy wx.heap.size u ps) (k : OwnP wy wx.heap.size v qs) (b : Below wx.heap.size wx wy) : Sta w wy (PpI u ps v qs :: L) :=
  h.add b (PpI u ps v qs) ⟨o.mono (Nat.zero_le _), k.mono (Nat.zero_le _)⟩ (fun x hx => (List.mem_append.1 hx).elim (o.lt x) (k.lt x))
theorem msOf_take (ps : List (Value × Mg)) (k : Nat) : msOf (ps.take k) = (msOf ps).take k := by simp [msOf, List.map_take]
theorem msOf_drop (ps : List (Value × Mg)) (k : Nat) : msOf (ps.drop k) = (msOf ps).drop k := by simp [msOf, List.map_drop]
theorem SmP.take {ps : List (Value × Mg)} (h : SmP ps) (k : Nat) : SmP (ps.take k) := fun p hp => h p (List.mem_of_mem_take hp)
theorem SmP.drop {ps : List (Value × Mg)} (h : SmP ps) (k : Nat) : SmP (ps.drop k) := fun p hp => h p (List.mem_of_mem_drop hp)
theorem RdP.cap0 {w : World} {ao : Option Addr} {n cap : Nat} {ps : List (Value × Mg)} (h : RdP w (.slice ao n cap) ps) (e : ao = none) : cap = 0 := by
  obtain ⟨ao', cap', e', _, h2, _⟩ := h.row.ex
  simp only [Value.slice.injEq] at e'
  obtain ⟨rfl, -, rfl⟩ := e'
  exact h2.2 e
theorem RdP.take {w : World} {ao : Option Addr} {n cap k : Nat} {ps : List (Value × Mg)} (h : RdP w (.slice ao n cap) ps) (hk : k ≤ n) : RdP w (.slice ao k cap) (ps.take k) := by
  have hc : msC (ps.take k) = (msC ps).take k := by simp [msC, List.map_take]
  have hn := h.el.1
  refine ⟨⟨fun cs hcs => msC_sz _ cs hcs, ?_⟩, fun p hp => h.key p (List.mem_of_mem_take hp)⟩
  obtain ⟨ao', cap', e, h1, h2, h3⟩ := h.row.ex
  simp only [Value.slice.injEq] at e
  obtain ⟨rfl, -, rfl⟩ := e
  have hl : (msC (ps.take k)).length = k := by rw [msC_len, List.length_take]; omega
  rw [msC_len] at h1
  refine ⟨ao, cap, by rw [hl], by rw [hl]; omega, h2, ?_⟩
  rcases h3 with h3 | ⟨b, off, rfl, h4⟩
  · left; rw [hc, h3]; simp
  · refine .inr ⟨b, off, rfl, fun j i hj hi => ?_⟩
    rw [hl] at hj
    rw [h4 j i (by rw [msC_len]; omega) hi, hc]
    simp [List.getD, hj]
theorem RdP.drop {w : World} {ao ao' : Option Addr} {n cap k m cap' : Nat} {ps : List (Value × Mg)} (h : RdP w (.slice ao n cap) ps) (hk : k ≤ n) (hm : m = n - k) (hc0 : m ≤ cap' ∧ cap' ≤ maxLen ∧ (ao' = none → cap' = 0)) (ha : k < n → ao' = ao.map (·.add (k * 11))) : RdP w (.slice ao' m cap') (ps.drop k) := by
  have hc : msC (ps.drop k) = (msC ps).drop k := by simp [msC, List.map_drop]
  have hn := h.el.1
  refine ⟨⟨fun cs hcs => msC_sz _ cs hcs, ?_⟩, fun p hp => h.key p (List.mem_of_mem_drop hp)⟩
  obtain ⟨ao2, cap2, e, h1, h2, h3⟩ := h.row.ex
  simp only [Value.slice.injEq] at e
  obtain ⟨rfl, -, rfl⟩ := e
  have hl : (msC (ps.drop k)).length = m := by rw [msC_len, List.length_drop]; omega
  refine ⟨ao', cap', by rw [hl], by rw [hl]; exact hc0.1, ⟨hc0.2.1, hc0.2.2⟩, ?_⟩
  by_cases hkn : k < n
  · rcases h3 with h3 | ⟨b, off, rfl, h4⟩
    · have h5 : ps.length = 0 := by rw [← msC_len, h3]; rfl
      omega
    · have e := ha hkn
      simp only [Option.map_some] at e
      rw [addr_add] at e
      refine .inr ⟨b, off + k * 11, e, fun j i hj hi => ?_⟩
      rw [hl] at hj
      rw [show off + k * 11 + (j * 11 + i) = off + ((k + j) * 11 + i) by omega, h4 (k + j) i (by rw [msC_len]; omega) hi, hc]
      simp [List.getD]
  · left
    rw [← List.length_eq_zero_iff, hl]; omega
theorem postOk_iff {ms : List Mg} : postOk ms = true ↔ ms.length ≤ 40 ∧ ∀ m ∈ ms, m.ok = true := by
  unfold postOk
  simp [List.all_eq_true]
theorem postOk_nil : postOk [] = true := rfl
theorem posted_yes {a b : List Mg} (h : (postP a b).2 = true) : (postP a b).1 = a ++ b ∧ postOk (a ++ b) = true := by
  unfold postP at *
  split at h
  · rename_i h0
    rw [if_pos h0]
    split at h
    · rename_i h1
      rw [if_pos h1]
      simp only [Bool.and_eq_true, decide_eq_true_eq] at h1
      refine ⟨rfl, postOk_iff.2 ⟨by rw [List.length_append]; exact h1.2, fun m hm => ?_⟩⟩
      exact (List.mem_append.1 hm).elim ((postOk_iff.1 h0).2 m) ((postOk_iff.1 h1.1).2 m)
    · cases h
  · cases h
theorem twice_yes {a : List Mg} {i : Int} (h : (twiceP a i).2 = true) : (0 ≤ i ∧ i < (a.length : Int)) ∧ (twiceP a i).1 = a ++ [a.getD i.toNat Mg.zero] := by
  unfold twiceP at *
  split at h
  · rename_i h0
    rw [if_pos h0]
    split at h
    · rename_i h1
      rw [if_pos h1]
      exact ⟨h1.1, rfl⟩
    · cases h
  · cases h
theorem taken_yes {a : List Mg} {i : Int} (h : (takeP a i).2.2 = true) : (0 ≤ i ∧ i < (a.length : Int)) ∧ (takeP a i).1 = a.eraseIdx i.toNat ∧ (takeP a i).2.1 = a.getD i.toNat Mg.zero := by
  unfold takeP at *
  split at h
  · rename_i h0
    rw [if_pos h0]
    split at h
    · rename_i h1
      rw [if_pos h1]
      exact ⟨h1, rfl, rfl⟩
    · cases h
  · cases h
theorem taken_no {a : List Mg} {i : Int} (h : (takeP a i).2.2 = false) : (postOk a = true ∧ (takeP a i).1 = a) ∨ (postOk a = false ∧ (takeP a i).1 = [] ∧ a.length ≠ 0) := by
  unfold takeP at *
  by_cases h0 : postOk a = true
  · rw [if_pos h0] at h ⊢
    split at h
    · cases h
    · rename_i h1
      rw [if_neg h1]
      exact .inl ⟨h0, rfl⟩
  · rw [if_neg h0] at h ⊢
    refine .inr ⟨by simpa using h0, rfl, fun e => h0 ?_⟩
    rw [List.length_eq_zero_iff.1 e]
    rfl
end Go.Proofs.Ytjbfncjdedigdaa
