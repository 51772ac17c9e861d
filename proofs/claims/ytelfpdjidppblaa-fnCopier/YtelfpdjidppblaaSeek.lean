/- seek tells the least block from there on that is as wanted; First, the program's and the model's, is the least that is in the set, or -1. -/
import Derived.Test.YtelfpdjidppblaaRows
import Derived.Test.YtelfpdjidppblaaSets
import Derived.Test.YtelfpdjidppblaaM1
import Derived.WalkKit
import Derived.ProofKit
import Derived.OpenShut
namespace Go.Proofs.Ytelfpdjidppblaa
open Go.ChangeShapes Go.WideShapes Go.ChangeAt Go.RowKit

def seekF (p : Nat → Bool) : Nat → Nat → Nat
  | 0, k => k
  | f + 1, k => if p k then k else seekF p f (k + 1)
def seekI (p : Nat → Bool) (k : Nat) : Nat := seekF p (8 - k) k
theorem seekI_yes {p : Nat → Bool} {k : Nat} (h : k < 8) (hp : p k = true) : seekI p k = k := by
  unfold seekI
  obtain ⟨f, hf⟩ : ∃ f, 8 - k = f + 1 := ⟨7 - k, by omega⟩
  rw [hf]; simp [seekF, hp]
theorem seekI_no {p : Nat → Bool} {k : Nat} (h : k < 8) (hp : p k = false) : seekI p k = seekI p (k + 1) := by
  unfold seekI
  obtain ⟨f, hf⟩ : ∃ f, 8 - k = f + 1 := ⟨7 - k, by omega⟩
  rw [hf]; simp [seekF, hp]
  rw [show 7 - k = f by omega]
theorem seekI_end {p : Nat → Bool} {k : Nat} (h : 8 ≤ k) : seekI p k = k := by
  unfold seekI
  rw [show 8 - k = 0 by omega]; rfl
theorem seekI_bd (p : Nat → Bool) (k : Nat) (h : k ≤ 8) : k ≤ seekI p k ∧ seekI p k ≤ 8 := by
  obtain ⟨m, hm⟩ : ∃ m, m = 8 - k := ⟨_, rfl⟩
  induction m generalizing k with
  | zero =>
    obtain rfl : k = 8 := by omega
    rw [seekI_end (Nat.le_refl _)]; omega
  | succ m ih =>
    by_cases hp : p k = true
    · rw [seekI_yes (by omega) hp]; omega
    · have := ih (k + 1) (by omega) (by omega)
      rw [seekI_no (by omega) (by simpa using hp)]; omega
theorem seekI_at (p : Nat → Bool) (k : Nat) (h : k ≤ 8) (h8 : seekI p k < 8) : p (seekI p k) = true := by
  obtain ⟨m, hm⟩ : ∃ m, m = 8 - k := ⟨_, rfl⟩
  induction m generalizing k with
  | zero =>
    obtain rfl : k = 8 := by omega
    rw [seekI_end (Nat.le_refl _)] at h8; omega
  | succ m ih =>
    by_cases hp : p k = true
    · rw [seekI_yes (by omega) hp]; exact hp
    · have hn := seekI_no (p := p) (k := k) (by omega) (by simpa using hp)
      rw [hn] at h8 ⊢
      exact ih (k + 1) (by omega) h8 (by omega)
theorem seekI_before (p : Nat → Bool) (k : Nat) (h : k ≤ 8) (j : Nat) (h1 : k ≤ j) (h2 : j < seekI p k) : p j = false := by
  obtain ⟨m, hm⟩ : ∃ m, m = 8 - k := ⟨_, rfl⟩
  induction m generalizing k with
  | zero =>
    obtain rfl : k = 8 := by omega
    rw [seekI_end (Nat.le_refl _)] at h2; omega
  | succ m ih =>
    by_cases hp : p k = true
    · rw [seekI_yes (by omega) hp] at h2; omega
    · have hn := seekI_no (p := p) (k := k) (by omega) (by simpa using hp)
      rw [hn] at h2
      by_cases ej : j = k
      · subst ej; simpa using hp
      · exact ih (k + 1) (by omega) (by omega) h2 (by omega)
theorem seekI_none (p : Nat → Bool) (k : Nat) (h : k ≤ 8) (hp : ∀ j, p j = false) : seekI p k = 8 := by
  have b := seekI_bd p k h
  by_cases e : seekI p k < 8
  · have := seekI_at p k h e; rw [hp] at this; cases this
  · omega

def hasP (s : Int) : Nat → Bool := fun j => inB s j
def lackP (s : Int) : Nat → Bool := fun j => !inB s j
def firstI (s : Int) : Int := if seekI (hasP s) 0 = 8 then -1 else seekI (hasP s) 0

set_option maxRecDepth 20000 in
set_option maxHeartbeats 400000 in
theorem has_any (s i : Int) (w : World) (h0 : 0 ≤ s) (h1 : s < 256) (h2 : 0 ≤ i) (h3 : i < 8) :
    Calls Try.prog 99 #[.int .i64 s, .int .i64 i] w fun e w' => e = .returned (.bool (inB s i)) ∧ w' = w := by
  go_enter Try.func99, Try.ntmps99
  go_wp2
  go_ret
  exact ⟨ret_bool (and_in h0 h1 h2 h3), rfl⟩

theorem firstI_noset {s : Int} (h : s < 0 ∨ 256 ≤ s) : firstI s = -1 := by
  unfold firstI
  rw [if_pos (seekI_none _ _ (by omega) (fun j => by simp [hasP, inB_noset h]))]

set_option maxRecDepth 20000 in
set_option maxHeartbeats 400000 in
theorem sfirst_any (s : Int) (w : World) :
    Calls Try.prog 27 #[.int .i64 s] w fun e w' => e = .returned (.int .i64 (firstI s)) ∧ w' = w := by
  go_enter Try.func27, Try.ntmps27
  go_wp2
  go_loop [3] (fun i => ∃ k : Nat, k ≤ 8 ∧ i = .int .i64 k ∧ seekI (hasP s) k = seekI (hasP s) 0) (fun i => (8 - intOf i).toNat)
  case atStart => exact ⟨0, by omega, rfl, rfl⟩
  case round =>
    obtain ⟨k, hk, rfl, hs⟩ := hrel
    have HS : Hid (seekI (hasP s) k = seekI (hasP s) 0) := hs
    clear hs
    by_cases hlt : (k : Int) < 8
    · by_cases hb : inB s k = true
      · go_wp2_with (go_at_call 38; refine (sin_any s k _).mono ?_; rintro e w' ⟨rfl, rfl⟩)
        go_ret
        exact ⟨ret_int (by unfold firstI; rw [← HS.out, seekI_yes (by omega) hb, if_neg (by omega)]), rfl⟩
      · go_wp2_with (go_at_call 38; refine (sin_any s k _).mono ?_; rintro e w' ⟨rfl, rfl⟩)
        go_round
        case rel => exact ⟨k + 1, by omega, by go_num, by rw [← HS.out, seekI_no (k := k) (by omega) (by simpa [hasP] using hb)]⟩
        case measure => simp [intOf]; omega
    · go_wp2
      go_ret
      exact ⟨ret_int (by unfold firstI; rw [← HS.out, seekI_end (by omega), if_pos (by omega)]), rfl⟩
end Go.Proofs.Ytelfpdjidppblaa
