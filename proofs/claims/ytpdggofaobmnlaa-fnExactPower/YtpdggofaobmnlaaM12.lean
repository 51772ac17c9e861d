/- How long a store's lists are, whatever is done to it. -/
import Derived.Test.YtpdggofaobmnlaaSr
import Derived.Test.YtpdggofaobmnlaaSHold
import Derived.Test.YtpdggofaobmnlaaM6
import Derived.Test.YtpdggofaobmnlaaLHold
import Derived.Deep.DeepCutAuto
namespace Go.Proofs.Ytpdggofaobmnlaa
open Go.RowKit

theorem conf_fst (r : Hd × Bool) : (conf r).1 = r.1 := rfl
theorem act_len (h : Hd) (i : Int) (c : Cm) (hl : h.ks.length ≤ 1048576) : (h.act i c).1.ks.length ≤ 1048576 := by
  unfold Hd.act
  split
  · unfold Hd.regd Hd.free Hd.turn Hd.key
    split <;> simpa using hl
  · split
    · rw [conf_fst]; unfold Hd.resd Hd.take; split
      · exact hl
      · split <;> exact hl
    · split
      · rw [conf_fst]; unfold Hd.reld Hd.free; split
        · exact hl
        · split <;> exact hl
      · split
        · rw [conf_fst]; unfold Hd.clrd; split
          · exact hl
          · simp
        · split
          · split
            · exact hl
            · rw [conf_fst]
              unfold Hd.pred Hd.turn Hd.take
              split
              · exact hl
              · split
                · simpa [strike_len] using hl
                · simpa [strike_len] using hl
          · split <;> exact hl
theorem did_len (s : Sr) (i : Int) (c : Cm) (hx : s.xs.length ≤ 1048576) (hy : s.ys.length ≤ 1048576) (hk : s.h.ks.length ≤ 1048576) : (s.did i c).1.xs.length ≤ 1048576 ∧ (s.did i c).1.ys.length ≤ 1048576 ∧ (s.did i c).1.h.ks.length ≤ 1048576 := by
  unfold Sr.did
  split
  · split
    · unfold Sr.doing
      split
      · exact ⟨hx, hy, act_len s.h i c hk⟩
      · split
        · exact ⟨(didI_len s.xs s.ys c hx hy).1, (didI_len s.xs s.ys c hx hy).2, hk⟩
        · exact ⟨hx, hy, hk⟩
    · exact ⟨hx, hy, hk⟩
  · simp [Sr.zero, Hd.zero]
theorem power_len (s : Sr) (set : Int) (hx : s.xs.length ≤ 1048576) (hy : s.ys.length ≤ 1048576) (hk : s.h.ks.length ≤ 1048576) : (s.power set).xs.length ≤ 1048576 ∧ (s.power set).ys.length ≤ 1048576 ∧ (s.power set).h.ks.length ≤ 1048576 := by
  unfold Sr.power
  split
  · split
    · simp [chosenUp_len, hx, hk]
    · exact ⟨hx, hy, hk⟩
  · simp [Sr.zero, Hd.zero]
theorem new_len (n : Int) : (newS n).xs.length ≤ 1048576 ∧ (newS n).ys.length ≤ 1048576 ∧ (newS n).h.ks.length ≤ 1048576 := by
  unfold newS
  split
  · unfold zerosI Hd.new
    split
    · simp; omega
    · simp
  · simp [Sr.zero, Hd.zero]
end Go.Proofs.Ytpdggofaobmnlaa
/- Holdings by the model, on: l8Registered, Registered, l8Holds, Holds, l8May, May. -/
namespace Go.Proofs.Ytpdggofaobmnlaa
open Go.ChangeShapes Go.WideShapes Go.ChangeAt Go.RowKit
end Go.Proofs.Ytpdggofaobmnlaa
/- The model's hands on a holding of its own, behind a pointer: l9Turn, l9Free, l9Take, l9Register, l9Reserve, l9Release, l9Clear; l8Copy. -/
namespace Go.Proofs.Ytpdggofaobmnlaa
open Go.ChangeShapes Go.WideShapes Go.ChangeAt Go.RowKit

/- Block g holds the holding h, block q its four keys, both new since there were 'base' blocks. -/
def PQ (w : World) (base g q cap : Nat) (h : Hd) : Prop :=
  StB w g 28 (hdA (.slice (some ⟨q, 0, none⟩) 4 cap) h) ∧ Own w base (.slice (some ⟨q, 0, none⟩) 4 cap) h.ks ∧ (g ≠ q ∧ base ≤ g ∧ base ≤ q ∧ h.ks.length = 4)
def PB (w : World) (base g : Nat) (h : Hd) : Prop := ∃ q cap, PQ w base g q cap h
theorem PQ.put {w : World} {base g q cap : Nat} {h : Hd} (d : PQ w base g q cap h) (j : Nat) (x : Int) (f : Hd) (hk : f.ks = h.ks) (e : (hdA (.slice (some ⟨q, 0, none⟩) 4 cap) h).setIfInBounds j (.int .i64 x) = hdA (.slice (some ⟨q, 0, none⟩) 4 cap) f) :
    PQ (w.setCell ⟨g, j, none⟩ (.int .i64 x)) base g q cap f ∧ Below base w (w.setCell ⟨g, j, none⟩ (.int .i64 x)) := by
  obtain ⟨h1, h2, h3⟩ := d
  have G := grownSet w g j (.int .i64 x)
  refine ⟨⟨h1.put j _ e, ?_, ?_⟩, (Below.refl base w).setCell h3.2.1 _⟩
  · rw [hk]; exact h2.kept G (.inr (by intro e; have : q = g := Option.some.inj e; omega))
  · rw [hk]; exact h3
theorem PQ.key {w : World} {base g q cap : Nat} {h : Hd} (d : PQ w base g q cap h) (j : Nat) (hj : j < 4) (x : Int) :
    w.frozen? ⟨q, j, none⟩ = false ∧ w.cell? ⟨q, j, none⟩ = some (.int .i64 (h.ks.getD j 0)) ∧ PQ (w.setCell ⟨q, j, none⟩ (.int .i64 x)) base g q cap ⟨h.ks.set j x, h.kd, h.ho, h.tu⟩ ∧ Below base w (w.setCell ⟨q, j, none⟩ (.int .i64 x)) := by
  obtain ⟨h1, h2, h3⟩ := d
  obtain ⟨f, -, o⟩ := h2.put h3.2.2.2.symm j hj x
  have G := grownSet w q j (.int .i64 x)
  obtain ⟨-, -, -, hc⟩ := reads_cells h2.reads
  obtain ⟨b, off, e, hcell⟩ := hc j hj
  simp only [Option.some.injEq, Addr.mk.injEq] at e
  obtain ⟨rfl, rfl, -⟩ := e
  rw [Nat.zero_add] at hcell
  refine ⟨f, hcell, ⟨h1.kept G ?_, o, ?_⟩, (Below.refl base w).setCell h3.2.2.1 _⟩
  · intro e; have := Option.some.inj e; omega
  · simpa using h3
theorem PQ.below {w w' : World} {base g q cap : Nat} {h : Hd} (d : PQ w base g q cap h) (b : Below w.heap.size w w') : PQ w' base g q cap h :=
  ⟨d.1.below b, d.2.1.below b, d.2.2⟩
theorem PQ.lt {w : World} {base g q cap : Nat} {h : Hd} (d : PQ w base g q cap h) : base ≤ w.heap.size := by
  have := d.1.lt; have := d.2.2.2.1; omega
theorem PB.below {w w' : World} {base g : Nat} {h : Hd} (d : PB w base g h) (b : Below w.heap.size w w') : PB w' base g h := by
  obtain ⟨q, cap, d⟩ := d
  exact ⟨q, cap, d.below b⟩

theorem PB.lt {w : World} {base g : Nat} {h : Hd} (d : PB w base g h) : base ≤ w.heap.size := by
  obtain ⟨q, cap, d⟩ := d
  exact d.lt
end Go.Proofs.Ytpdggofaobmnlaa
