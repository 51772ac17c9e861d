/- What the laws on copiers say, as plain numbers and lists. -/
import Derived.Test.YtelfpdjidppblaaCp
namespace Go.Proofs.Ytelfpdjidppblaa
open Go.RowKit

theorem Cp.Mark_len (c : Cp) (i : Int) : (c.Mark i).ts.length ≤ c.ts.length := by unfold Cp.Mark Cp.mark; split <;> (try split) <;> simp [Cp.zero]
theorem Cp.Ack_len (c : Cp) (i t : Int) : (c.Ack i t).ts.length ≤ c.ts.length := by unfold Cp.Ack Cp.ack; split <;> (try split) <;> simp [Cp.zero]
theorem Cp.Again_len (c : Cp) : c.Again.ts.length ≤ c.ts.length := by unfold Cp.Again Cp.again; split <;> simp [Cp.zero]
theorem Cp.Next_len (c : Cp) : c.Next.ts.length ≤ c.ts.length := by unfold Cp.Next Cp.next; split <;> (try split) <;> simp [Cp.zero]
theorem Cp.new_len (n t : Int) : (Cp.new n t).ts.length ≤ 8 := by
  unfold Cp.new
  split
  · rename_i h
    unfold Cp.made at h
    simp only [Bool.and_eq_true, inI_iff] at h
    simp only [List.length_replicate]
    omega
  · simp [Cp.zero]
/- What FnCopier says. -/
theorem Cp.new_di {n t : Int} (h : Cp.made n t = true) : (Cp.new n t).di = fullI n := by unfold Cp.new; rw [if_pos h]
theorem Cp.Ack_said {a : Cp} (ok : a.ok = true) (i t : Int) : (a.Ack i t).di = a.di ∧ ((a.Ack i t).wa = a.wa ∨ ((a.Ack i t).wa = withoutI a.wa i ∧ 0 ≤ i ∧ i < (a.ts.length : Int) ∧ a.ts.getD i.toNat 0 = t)) := by
  unfold Cp.Ack
  rw [if_pos ok]
  unfold Cp.ack
  split
  · rename_i h
    unfold Cp.acks at h
    simp only [Bool.and_eq_true, has_iff, decide_eq_true_eq] at h
    exact ⟨rfl, .inr ⟨rfl, h.1.1.1, h.1.1.2, h.1.2⟩⟩
  · exact ⟨rfl, .inl rfl⟩
theorem Cp.Nx_no {c : Cp} (ok : c.ok = true) (h : c.Nx < 0) : c.Next = c := by
  unfold Cp.Nx Cp.nx at h
  unfold Cp.Next Cp.next
  rw [if_pos ok] at h ⊢
  cases g : c.goes with
  | false => simp
  | true =>
    rw [g, if_pos rfl] at h
    have := ((Cp.goes_iff c).1 g).2.1
    omega
theorem inB_with {s i : Int} (h0 : 0 ≤ s) (h1 : s < 256) (h2 : 0 ≤ i) (h3 : i < 8) : inB (withI s i) i = true := by
  rw [with_in h0 h1]
  simp [h2, h3]
theorem with_ne {s i : Int} (h0 : 0 ≤ s) (h1 : s < 256) (h2 : 0 ≤ i) (h3 : i < 8) : withI s i ≠ 0 := by
  intro e
  have := inB_with h0 h1 h2 h3
  rw [e] at this
  obtain ⟨n, rfl⟩ := nat_of h2
  have k : ∀ n : Nat, n < 8 → inB 0 n = false := by decide +kernel
  rw [k n (by omega)] at this
  cases this
theorem Cp.not_clean {c : Cp} (h : c.di ≠ 0 ∨ c.wa ≠ 0) : c.clean = false := by
  unfold Cp.clean
  rcases h with h | h <;> simp [h]
theorem Cp.Nx_yes {c : Cp} (h : ¬ c.Nx < 0) : c.ok = true ∧ c.op = true ∧ c.Nx = firstI c.di ∧ (0 ≤ firstI c.di ∧ firstI c.di < (c.ts.length : Int)) ∧ c.Next.ok = true ∧ c.Next.ts.length = c.ts.length ∧
    c.Next.ts.getD (firstI c.di).toNat 0 = c.ts.getD (firstI c.di).toNat 0 + 1 ∧ c.Next.di = withoutI c.di (firstI c.di) ∧ c.Next.wa = withI c.wa (firstI c.di) ∧ c.Next.clean = false ∧
    (0 ≤ c.ts.getD (firstI c.di).toNat 0 ∧ c.ts.getD (firstI c.di).toNat 0 < 1000000000) ∧ c.Next.tr = c.tr ∧ c.Next.op = c.op := by
  unfold Cp.Nx at h
  cases ok : c.ok with
  | false => rw [ok] at h; simp at h
  | true =>
    rw [ok, if_pos rfl] at h
    unfold Cp.nx at h
    cases g : c.goes with
    | false => rw [g] at h; simp at h
    | true =>
      obtain ⟨g1, g2, g3⟩ := (Cp.goes_iff c).1 g
      have f := Cp.fit ok
      have f1 := f.first
      have f2 := f.len
      have f3 := turns_at f.turns (firstI c.di).toNat
      have hj : (firstI c.di).toNat < c.ts.length := by omega
      have e : c.Next = { c with di := withoutI c.di (firstI c.di), wa := withI c.wa (firstI c.di), ts := c.ts.set (firstI c.di).toNat (c.ts.getD (firstI c.di).toNat 0 + 1) } := by
        unfold Cp.Next Cp.next
        rw [if_pos ok, if_pos g]
      have hx : c.Next.ok = true := by
        have := Cp.next_ok ok
        unfold Cp.Next
        rw [if_pos ok]
        exact this
      have hw : c.Next.clean = false := Cp.not_clean (.inr (by rw [e]; exact with_ne f.wa0 f.w g2 (by omega)))
      refine ⟨rfl, g1, ?_, ⟨g2, f1⟩, hx, ?_, ?_, ?_, ?_, hw, by omega, ?_, ?_⟩
      · unfold Cp.Nx Cp.nx; rw [if_pos ok, if_pos g]
      · rw [e]; simp
      · rw [e]
        simp only [List.getD_eq_getElem?_getD, List.getElem?_set_self hj, Option.getD_some]
      · rw [e]
      · rw [e]
      · rw [e]
      · rw [e]
end Go.Proofs.Ytelfpdjidppblaa
