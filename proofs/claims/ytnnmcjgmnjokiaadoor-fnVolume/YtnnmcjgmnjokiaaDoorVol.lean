/- Blocks by commands, as plain lists: what one command does to a disk, and its answer. -/
import Derived.Test.YtnnmcjgmnjokiaaDoorRw
import Derived.Test.YtnnmcjgmnjokiaaDoorBlocks
import Derived.Test.YtnnmcjgmnjokiaaDoorDec
namespace Go.Proofs.YtnnmcjgmnjokiaaDoor
open Go.RowKit

structure An where
  st : Int
  tx : Bs
def anA (x : An) : Array Value := #[.int .i64 x.st, S x.tx]
def AV (x : An) : Value := .agg (anA x)
def rangeI (ys : List Int) (c : Cm) : Bool := decide ((ys.length : Int) ≤ c.p) || (decide (c.o = 2) && !valOk c.a) || (decide (c.o = 3) && !valOk c.b)
def atI (ys : List Int) (c : Cm) : Int := ys.getD c.p.toNat 0
def didI (xs ys : List Int) (c : Cm) : List Int × List Int × An :=
  if c.o = 5 then (ys, ys, ⟨0, []⟩)
  else if rangeI ys c then (xs, ys, ⟨1, []⟩)
  else if c.o = 1 then (xs, ys, ⟨0, decI (atI ys c)⟩)
  else if c.o = 2 then (xs, ys.set c.p.toNat c.a, ⟨0, []⟩)
  else if c.o = 3 then (if atI ys c = c.a then (xs, ys.set c.p.toNat c.b, ⟨0, []⟩) else (xs, ys, ⟨2, decI (atI ys c)⟩))
  else (xs, ys.set c.p.toNat 0, ⟨0, []⟩)
def didD (xs ys : List Int) (c : Cm) : List Int × List Int × An :=
  if bothOk xs ys then (if c.ok && decide (c.o ≤ 5) then didI xs ys c else (xs, ys, ⟨7, []⟩)) else ([], [], ⟨7, []⟩)

theorem Cm.ok_vol {c : Cm} (h : c.ok = true) (h5 : c.o ≤ 5) : (c.o = 1 ∨ c.o = 2 ∨ c.o = 3 ∨ c.o = 4 ∨ c.o = 5) ∧ 0 ≤ c.p := by
  obtain ⟨o, p, a, b, k⟩ := c
  have hb := Cm.ok_byt h
  unfold Cm.ok Cm.told at h
  dsimp only at h h5
  simp only [Bool.and_eq_true, inI_iff] at h
  unfold Cm.Byt at hb
  dsimp only at hb
  dsimp only
  omega
theorem didI_len (xs ys : List Int) (c : Cm) (h : xs.length ≤ 1048576) (h' : ys.length ≤ 1048576) : (didI xs ys c).1.length ≤ 1048576 ∧ (didI xs ys c).2.1.length ≤ 1048576 := by
  unfold didI
  split
  · exact ⟨h', h'⟩
  · split
    · exact ⟨h, h'⟩
    · split
      · exact ⟨h, h'⟩
      · split
        · exact ⟨h, by simpa using h'⟩
        · split
          · split
            · exact ⟨h, by simpa using h'⟩
            · exact ⟨h, h'⟩
          · exact ⟨h, by simpa using h'⟩
theorem didD_len (xs ys : List Int) (c : Cm) (h : xs.length ≤ 1048576) (h' : ys.length ≤ 1048576) : (didD xs ys c).1.length ≤ 1048576 ∧ (didD xs ys c).2.1.length ≤ 1048576 := by
  unfold didD
  split
  · split
    · exact didI_len xs ys c h h'
    · exact ⟨h, h'⟩
  · simp
end Go.Proofs.YtnnmcjgmnjokiaaDoor
