/- How much is left behind a list; what stays where one cell is set. -/
import Derived.Test.YtdcdfhklnhaimaaMem
namespace Go.Proofs.Ytdcdfhklnhaimaa
open Go.ChangeShapes Go.WideShapes Go.ChangeAt Go.RowKit

theorem grownSet (w : World) (g j : Nat) (x : Value) : w.grownBy (w.setCell ⟨g, j, none⟩ x) (some g) :=
  ⟨rfl, rfl, rfl, by simp, fun k _ hk => heap_setCell_other w ⟨g, j, none⟩ k x (fun e => hk (by simp [e]))⟩
theorem Own.keptLt {w w' : World} {base g : Nat} {v : Value} {xs : List Int} (h : Own w base v xs) (hg : w.grownBy w' (some g)) (hb : g < base) : Own w' base v xs :=
  h.kept hg (by
    by_cases e : v.ownBlock = none
    · exact .inl e
    · refine .inr fun e2 => ?_
      have := h.lt g e2
      omega)
theorem Own.setLt {w : World} {base g : Nat} {v : Value} {xs : List Int} (h : Own w base v xs) (hb : g < base) (j : Nat) (x : Value) : Own (w.setCell ⟨g, j, none⟩ x) base v xs := h.keptLt (grownSet w g j x) hb

def szI (k : Int) (n : Nat) : Int := if (n : Int) ≤ k then k - n else -1

set_option maxRecDepth 20000 in
set_option maxHeartbeats 400000 in
theorem sz_any (v : Value) (xs : List Int) (k : Int) (w : World) (h : Reads w v xs) (h0 : 0 ≤ k) (h1 : k ≤ 1048576) :
    Calls Try.prog 41 #[v, .int .i64 k] w fun e w' => e = .returned (.int .i64 (szI k xs.length)) ∧ w' = w := by
  obtain ⟨ao, cap, rfl, hl, ⟨hm, -⟩, -⟩ := h
  unfold maxLen at hm
  obtain ⟨n, hn⟩ : ∃ n, n = xs.length := ⟨_, rfl⟩
  rw [← hn] at hl ⊢
  clear hn
  by_cases hk : (n : Int) ≤ k
  · have e : szI k n = k - n := by simp [szI, hk]
    rw [e]
    clear e
    go_enter Try.func41, Try.ntmps41
    go_wp2
    go_ret
    exact ⟨rfl, rfl⟩
  · have e : szI k n = -1 := by simp [szI, hk]
    rw [e]
    clear e
    go_enter Try.func41, Try.ntmps41
    go_wp2
    go_ret
    exact ⟨rfl, rfl⟩
end Go.Proofs.Ytdcdfhklnhaimaa
