/- What FnClean says of copiers, as plain numbers and lists: a marked one is not clean, and goes till nothing is left that can go. -/
import Derived.Test.YtelfpdjidppblaaCpLaws
import Derived.Test.YtelfpdjidppblaaHpPl
namespace Go.Proofs.Ytelfpdjidppblaa
open Go.RowKit

theorem Cp.Mark_ok {c : Cp} (ok : c.ok = true) (i : Int) : (c.Mark i).ok = true := by unfold Cp.Mark; rw [if_pos ok]; exact Cp.mark_ok ok i
/- One that isn't there, or none: it is clean only if it was. -/
theorem Cp.mark_out {c : Cp} {i : Int} (h : c.ok = false ∨ i < 0 ∨ (c.ts.length : Int) ≤ i) : (c.Mark i).clean = true → c.clean = true := by
  intro hc
  cases ok : c.ok with
  | false =>
    have : c.Mark i = Cp.zero := by unfold Cp.Mark; rw [ok]; rfl
    rw [this] at hc
    exact absurd hc (by decide)
  | true =>
    have hi : c.has i = false := by
      rcases h with h | h | h
      · rw [ok] at h; cases h
      · unfold Cp.has; simp; omega
      · unfold Cp.has; simp; omega
    have : c.Mark i = c := by unfold Cp.Mark Cp.mark; rw [ok, hi]; rfl
    rwa [this] at hc
theorem Cp.mark_in {c : Cp} {i : Int} (ok : c.ok = true) (h0 : 0 ≤ i) (h1 : i < (c.ts.length : Int)) : (c.Mark i).ok = true ∧ (c.Mark i).op = c.op ∧ (c.Mark i).clean = false ∧ inB (c.Mark i).di i = true ∧ (c.Mark i).ts.length = c.ts.length := by
  have hi : c.has i = true := (has_iff c i).2 ⟨h0, h1⟩
  have e : c.Mark i = { c with di := withI c.di i } := by unfold Cp.Mark Cp.mark; rw [ok, hi]; rfl
  have f := Cp.fit ok
  have := f.len
  have hn : withI c.di i ≠ 0 := with_ne f.di0 f.d h0 (by omega)
  refine ⟨Cp.Mark_ok ok i, by rw [e], ?_, by rw [e]; exact inB_with f.di0 f.d h0 (by omega), by rw [e]⟩
  exact Cp.not_clean (.inl (by rw [e]; exact hn))
theorem or_zero {a b : Int} (ha0 : 0 ≤ a) (hb0 : 0 ≤ b) : orI a b = 0 ↔ a = 0 ∧ b = 0 := by
  obtain ⟨n, rfl⟩ := nat_of ha0
  obtain ⟨m, rfl⟩ := nat_of hb0
  unfold orI
  simp only [Int.toNat_natCast]
  constructor
  · intro h
    have h' : n ||| m = 0 := by omega
    rw [Nat.or_eq_zero_iff] at h'
    omega
  · rintro ⟨h1, h2⟩
    have : n = 0 := by omega
    have : m = 0 := by omega
    subst n m
    rfl
theorem Cp.again_said {a : Cp} (ok : a.ok = true) : a.Again.wa = 0 ∧ a.Again.clean = a.clean ∧ a.Again.ok = true := by
  have e : a.Again = a.again := by unfold Cp.Again; rw [if_pos ok]
  have f := Cp.fit ok
  have h := Cp.again_ok ok
  rw [e]
  refine ⟨rfl, ?_, h⟩
  unfold Cp.clean
  rw [h, ok]
  have : decide (a.again.di = 0) = (decide (a.di = 0) && decide (a.wa = 0)) := by
    rw [Bool.eq_iff_iff]
    simp only [Bool.and_eq_true, decide_eq_true_eq]
    exact or_zero f.di0 f.wa0
  rw [this]
  show (true && a.op && (decide (a.di = 0) && decide (a.wa = 0)) && decide ((0 : Int) = 0)) = _
  simp [Bool.and_assoc]
/- What stays while all goes: k have gone. -/
structure Zi (x z : Cp) (k : Nat) : Prop where
  ok : z.ok = true
  op : z.op = x.op
  len : z.ts.length = x.ts.length
  wa : x.wa = 0 → z.wa = 0
  cnt : (bagI z.di 8).length + k ≤ 8
theorem Zi.start {x : Cp} (ok : x.ok = true) : Zi x x 0 := ⟨ok, rfl, rfl, id, by have := bagI_len x.di 8; omega⟩
theorem cnt_less : ∀ n : Nat, n < 256 → 0 ≤ firstI n → (bagI (withoutI n (firstI n)) 8).length + 1 = (bagI n 8).length := by decide +kernel
theorem zero_wa : ∀ i : Nat, i < 8 → withoutI (withI 0 i) i = 0 := by decide +kernel
theorem ack_other {c : Cp} (ok : c.ok = true) {i t : Int} (h : c.ts.getD i.toNat 0 ≠ t) : c.Ack i t = c := by
  unfold Cp.Ack Cp.ack Cp.acks
  rw [if_pos ok, decide_eq_false h]
  simp
theorem Zi.step {x z : Cp} {k : Nat} (h : Zi x z k) (hn : ¬ z.Nx < 0) (t : Int) (ht : t = z.Next.ts.getD z.Nx.toNat 0) :
    Zi x ((z.Next.Ack z.Nx t).Ack z.Nx (t - 1)) (k + 1) ∧ 0 ≤ z.Nx ∧ z.Nx < (z.Next.ts.length : Int) ∧ 0 ≤ t ∧ t ≤ 1000000000 := by
  obtain ⟨-, y1, y2, ⟨y3, y4⟩, y5, y6, y7, y8, y9, -, y10, -, y11⟩ := Cp.Nx_yes hn
  have f := Cp.fit h.ok
  have f2 := f.len
  rw [y2] at ht ⊢
  rw [y7] at ht
  obtain ⟨j, hj⟩ := nat_of y3
  have a1 : z.Next.Ack (firstI z.di) t = { z.Next with wa := withoutI z.Next.wa (firstI z.di) } := by
    have hh : z.Next.has (firstI z.di) = true := (has_iff _ _).2 ⟨y3, by rw [y6]; exact y4⟩
    have hin : inB z.Next.wa (firstI z.di) = true := by rw [y9]; exact inB_with f.wa0 f.w y3 (by omega)
    unfold Cp.Ack Cp.ack Cp.acks
    rw [if_pos y5, hh, hin, decide_eq_true (by rw [y7, ht])]
    rfl
  have a1ok : (z.Next.Ack (firstI z.di) t).ok = true := by
    unfold Cp.Ack
    rw [if_pos y5]
    exact Cp.ack_ok y5 _ _
  have a2 : (z.Next.Ack (firstI z.di) t).Ack (firstI z.di) (t - 1) = z.Next.Ack (firstI z.di) t := by
    refine ack_other a1ok ?_
    rw [a1]
    show z.Next.ts.getD (firstI z.di).toNat 0 ≠ t - 1
    rw [y7, ← ht]
    omega
  rw [a2]
  refine ⟨⟨a1ok, ?_, ?_, ?_, ?_⟩, y3, by rw [y6]; exact y4, by omega, by omega⟩
  · rw [a1]; exact y11.trans h.op
  · rw [a1]; exact y6.trans h.len
  · intro hx
    rw [a1]
    show withoutI z.Next.wa (firstI z.di) = 0
    rw [y9, h.wa hx, hj]
    exact zero_wa j (by omega)
  · rw [a1]
    show (bagI z.Next.di 8).length + (k + 1) ≤ 8
    rw [y8]
    have h0 := f.di0
    have h1 := f.d
    obtain ⟨n, e⟩ := nat_of h0
    rw [e] at h1 y3 ⊢
    have := cnt_less n (by omega) y3
    have c := h.cnt
    rw [e] at c
    omega
theorem Zi.fin {x z : Cp} {k : Nat} (h : Zi x z k) (hn : z.Nx < 0) (ht : ∀ j, j < z.ts.length → z.ts.getD j 0 ≠ 1000000000) (hx : x.op = true) : z.di = 0 ∧ (z.wa = 0 → z.clean = true) := by
  have f := Cp.fit h.ok
  have d0 : z.di = 0 := by
    by_cases hf : firstI z.di < 0
    · exact first_none hf f.di0 f.d
    · exfalso
      have g : z.goes = true := (Cp.goes_iff z).2 ⟨h.op.trans hx, by omega, ht _ (by have := f.first; omega)⟩
      unfold Cp.Nx Cp.nx at hn
      rw [if_pos h.ok, if_pos g] at hn
      exact hf hn
  refine ⟨d0, fun hw => ?_⟩
  unfold Cp.clean
  rw [h.ok, h.op, hx, d0, hw]
  rfl
theorem Zi.len8 {x z : Cp} {k : Nat} (h : Zi x z k) : z.ts.length ≤ 8 ∧ k ≤ 8 := ⟨(Cp.fit h.ok).len, by have := h.cnt; omega⟩
end Go.Proofs.Ytelfpdjidppblaa
