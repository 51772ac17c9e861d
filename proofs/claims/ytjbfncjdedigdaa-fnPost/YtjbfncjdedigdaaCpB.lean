/- A copier inside a block, behind a pointer to its first cell: what a hand on it leaves. -/
import Derived.Test.YtjbfncjdedigdaaM16
namespace Go.Proofs.Ytjbfncjdedigdaa
open Go.ChangeShapes Go.WideShapes Go.ChangeAt Go.RowKit

theorem Turned.sub {w w' : World} {bs cs : List Nat} (h : Turned w w' bs) (hs : ∀ b ∈ bs, b ∈ cs) : Turned w w' cs :=
  ⟨h.os, h.tape, h.output, h.size, fun k hk hn => h.block k hk (fun e => hn (hs k e))⟩
theorem Turned.then {w w' w'' : World} {bs : List Nat} (h : Turned w w' bs) (h' : Turned w' w'' bs) : Turned w w'' bs := (h.trans h').sub (by simp)
theorem Turned.refl (w : World) (bs : List Nat) : Turned w w bs := (Turned.of_below (Below.refl _ _)).sub (by simp)
theorem Turned.below {w w' : World} (bs : List Nat) (h : Below w.heap.size w w') : Turned w w' bs := (Turned.of_below h).sub (by simp)

theorem Turned.belowAt {B : Nat} {w w' : World} {bs : List Nat} (h : Turned w w' bs) (hb : ∀ b ∈ bs, B ≤ b) (hB : B ≤ w.heap.size) : Below B w w' :=
  ⟨h.os, h.tape, h.output, h.size, fun k hk => h.block k (Nat.lt_of_lt_of_le hk hB) (fun e => by have := hb k e; omega)⟩
theorem Own.up {w : World} {base base' : Nat} {v : Value} {xs : List Int} (h : Own w base v xs) (hb : ∀ k, v.ownBlock = some k → base' ≤ k) : Own w base' v xs := by
  refine ⟨h.1, ?_⟩
  rcases h.2 with h' | ⟨g, cap, cur, rfl, hg, r⟩
  · exact .inl h'
  · exact .inr ⟨g, cap, cur, rfl, hb g rfl, r⟩
theorem StB.turned {w w' : World} {g : Nat} {t : TypeId} {cs : Array Value} {bs : List Nat} (h : StB w g t cs) (ht : Turned w w' bs) (hn : g ∉ bs) : StB w' g t cs := (ht.block g h.lt hn).trans h

structure CpB (w : World) (g off : Nat) (t : TypeId) (cs : Array Value) (v : Value) (c : Cp) : Prop where
  st : StB w g t cs
  i0 : cs[off]? = some (.int .i64 c.tr)
  i1 : cs[off + 1]? = some (.bool c.op)
  i2 : cs[off + 2]? = some (.int .i64 c.di)
  i3 : cs[off + 3]? = some (.int .i64 c.wa)
  i4 : cs[off + 4]? = some v
  own : Own w 0 v c.ts
  ne : v.ownBlock ≠ some g
def cpPut (cs : Array Value) (off : Nat) (d w : Int) : Array Value := (cs.setIfInBounds (off + 2) (.int .i64 d)).setIfInBounds (off + 3) (.int .i64 w)
theorem put_same {cs : Array Value} {j : Nat} {x : Value} (h : cs[j]? = some x) : cs.setIfInBounds j x = cs := by
  apply Array.ext_getElem?
  intro i
  rw [Array.getElem?_setIfInBounds]
  split
  · rename_i e; subst e
    have hlt : j < cs.size := by
      rcases Nat.lt_or_ge j cs.size with hlt | hge
      · exact hlt
      · rw [Array.getElem?_eq_none hge] at h; cases h
    simp [hlt] at h ⊢
    exact h.symm
  · rfl
theorem cpPut_same {cs : Array Value} {off : Nat} {d w : Int} (h2 : cs[off + 2]? = some (.int .i64 d)) (h3 : cs[off + 3]? = some (.int .i64 w)) : cpPut cs off d w = cs := by
  unfold cpPut
  rw [put_same h2, put_same h3]
theorem put_at {cs : Array Value} {j : Nat} {x y : Value} (h : cs[j]? = some x) : (cs.setIfInBounds j y)[j]? = some y := by
  have hlt : j < cs.size := by
    rcases Nat.lt_or_ge j cs.size with hlt | hge
    · exact hlt
    · rw [Array.getElem?_eq_none hge] at h; cases h
  simp [hlt]
theorem put_else {cs : Array Value} {i j : Nat} {y : Value} (h : j ≠ i) : (cs.setIfInBounds j y)[i]? = cs[i]? := by
  rw [Array.getElem?_setIfInBounds_ne h]
theorem cpPut_di {cs : Array Value} {off : Nat} {d w : Int} (h3 : cs[off + 3]? = some (.int .i64 w)) : cs.setIfInBounds (off + 2) (.int .i64 d) = cpPut cs off d w := by
  unfold cpPut
  exact (put_same (by rw [put_else (by omega)]; exact h3)).symm
theorem cpPut_wa {cs : Array Value} {off : Nat} {d w : Int} (h2 : cs[off + 2]? = some (.int .i64 d)) : cs.setIfInBounds (off + 3) (.int .i64 w) = cpPut cs off d w := by
  unfold cpPut
  rw [put_same h2]
theorem cpPut_twice {cs : Array Value} {off : Nat} {d w d' w' : Int} : cpPut (cpPut cs off d w) off d' w' = cpPut cs off d' w' := by
  unfold cpPut
  apply Array.ext_getElem?
  intro i
  simp only [Array.getElem?_setIfInBounds, Array.size_setIfInBounds]
  split
  · rfl
  · split
    · rfl
    · rfl
theorem CpB.below {w w' : World} {g off : Nat} {t : TypeId} {cs : Array Value} {v : Value} {c : Cp} (h : CpB w g off t cs v c) (b : Below w.heap.size w w') : CpB w' g off t cs v c :=
  ⟨h.st.below b, h.i0, h.i1, h.i2, h.i3, h.i4, h.own.below b, h.ne⟩
/- A number is put into one of the two sets. -/
theorem CpB.putD {w : World} {g off : Nat} {t : TypeId} {cs : Array Value} {v : Value} {c : Cp} (h : CpB w g off t cs v c) (d : Int) :
    CpB (w.setCell ⟨g, off + 2, none⟩ (.int .i64 d)) g off t (cpPut cs off d c.wa) v { c with di := d } ∧ Turned w (w.setCell ⟨g, off + 2, none⟩ (.int .i64 d)) (g :: v.ownBlock.toList) := by
  have e := cpPut_di (d := d) h.i3
  refine ⟨⟨h.st.put (off + 2) _ e, ?_, ?_, ?_, ?_, ?_, h.own.kept (grownSet w g _ _) (.inr h.ne), h.ne⟩, (Turned.of_grown (grownSet w g _ _)).sub (by simp)⟩
  · rw [← e, put_else (by omega)]; exact h.i0
  · rw [← e, put_else (by omega)]; exact h.i1
  · rw [← e]; exact put_at h.i2
  · rw [← e, put_else (by omega)]; exact h.i3
  · rw [← e, put_else (by omega)]; exact h.i4
theorem CpB.putW {w : World} {g off : Nat} {t : TypeId} {cs : Array Value} {v : Value} {c : Cp} (h : CpB w g off t cs v c) (d : Int) :
    CpB (w.setCell ⟨g, off + 3, none⟩ (.int .i64 d)) g off t (cpPut cs off c.di d) v { c with wa := d } ∧ Turned w (w.setCell ⟨g, off + 3, none⟩ (.int .i64 d)) (g :: v.ownBlock.toList) := by
  have e := cpPut_wa (w := d) h.i2
  refine ⟨⟨h.st.put (off + 3) _ e, ?_, ?_, ?_, ?_, ?_, h.own.kept (grownSet w g _ _) (.inr h.ne), h.ne⟩, (Turned.of_grown (grownSet w g _ _)).sub (by simp)⟩
  · rw [← e, put_else (by omega)]; exact h.i0
  · rw [← e, put_else (by omega)]; exact h.i1
  · rw [← e, put_else (by omega)]; exact h.i2
  · rw [← e]; exact put_at h.i3
  · rw [← e, put_else (by omega)]; exact h.i4
theorem CpB.same {w : World} {g off : Nat} {t : TypeId} {cs : Array Value} {v : Value} {c : Cp} (h : CpB w g off t cs v c) : CpB w g off t (cpPut cs off c.di c.wa) v c := by
  rw [cpPut_same h.i2 h.i3]; exact h
/- The five cells, as the walk reads them. -/
theorem CpB.cell {w : World} {g off : Nat} {t : TypeId} {cs : Array Value} {v : Value} {c : Cp} (h : CpB w g off t cs v c) :
    w.cell? ⟨g, off, none⟩ = some (.int .i64 c.tr) ∧ w.cell? ⟨g, off + 1, none⟩ = some (.bool c.op) ∧ w.cell? ⟨g, off + 2, none⟩ = some (.int .i64 c.di) ∧ w.cell? ⟨g, off + 3, none⟩ = some (.int .i64 c.wa) ∧ w.cell? ⟨g, off + 4, none⟩ = some v :=
  ⟨h.st.cell off h.i0, h.st.cell _ h.i1, h.st.cell _ h.i2, h.st.cell _ h.i3, h.st.cell _ h.i4⟩
end Go.Proofs.Ytjbfncjdedigdaa
