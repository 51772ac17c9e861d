/- The frames of a text, each with the place at which it ends. -/
import Derived.Test.YtjdmbjeginnjiaaDoorFrameLaws2
namespace Go.Proofs.YtjdmbjeginnjiaaDoor
open Go.RowKit

/- The frames from the place a on, each with the place at which it ends. -/
def framesE : Nat → Nat → Bs → List (Bs × Nat)
  | 0, _, _ => []
  | k + 1, a, s => if (firstB (s.drop a)).2 = 0 then [] else ((firstB (s.drop a)).1, a + (firstB (s.drop a)).2) :: framesE k (a + (firstB (s.drop a)).2) s
def endOf (a : Nat) (l : List (Bs × Nat)) : Nat := l.foldl (fun _ x => x.2) a
theorem endOf_snoc (a : Nat) (l : List (Bs × Nat)) (x : Bs × Nat) : endOf a (l ++ [x]) = x.2 := by simp [endOf]
theorem framesE_is (s : Bs) : ∀ (k a : Nat), (framesE k a s).map Prod.fst = (framesN k (s.drop a)).1 ∧ endOf a (framesE k a s) = a + (framesN k (s.drop a)).2 := by
  intro k
  induction k with
  | zero => intro a; simp [framesE, framesN, endOf]
  | succ k ih =>
    intro a
    rw [framesE, framesN]
    by_cases h : (firstB (s.drop a)).2 = 0
    · simp [h, endOf]
    · have := ih (a + (firstB (s.drop a)).2)
      rw [← List.drop_drop] at this
      rw [if_neg h, if_neg h]
      refine ⟨by simp [this.1], ?_⟩
      show endOf (a + (firstB (s.drop a)).2) (framesE k (a + (firstB (s.drop a)).2) s) = _
      rw [this.2]
      simp only
      omega
def wholeE (s : Bs) : List (Bs × Nat) := framesE 2000 0 s
theorem framesE_texts (s : Bs) : (wholeE s).map Prod.fst = (framesB s).1 := by have := (framesE_is s 2000 0).1; simpa [framesB, wholeE] using this
theorem framesE_end (s : Bs) : endOf 0 (wholeE s) = (framesB s).2 := by have := (framesE_is s 2000 0).2; simpa [framesB, wholeE] using this
theorem framesE_len (s : Bs) : (wholeE s).length ≤ 2000 := by
  have h := congrArg List.length (framesE_texts s)
  have := (framesB_sound s).2.2.2
  rw [List.length_map] at h
  omega
def EInv (s : Bs) (pre : List (Bs × Nat)) (a : Nat) : Prop := wholeE s = pre ++ framesE (2000 - pre.length) a s
theorem EInv.start (s : Bs) : EInv s [] 0 := by simp [EInv, wholeE]
theorem EInv.next {s : Bs} {pre : List (Bs × Nat)} {a : Nat} (h : EInv s pre a) (hl : pre.length < 2000) (hn : (firstB (s.drop a)).2 ≠ 0) :
    EInv s (pre ++ [((firstB (s.drop a)).1, a + (firstB (s.drop a)).2)]) (a + (firstB (s.drop a)).2) ∧ pre.length < (wholeE s).length := by
  unfold EInv at h ⊢
  obtain ⟨k, hk⟩ : ∃ k, 2000 - pre.length = k + 1 := ⟨2000 - pre.length - 1, by omega⟩
  rw [hk, framesE, if_neg hn] at h
  refine ⟨?_, by rw [h]; simp⟩
  have hk2 : 2000 - (pre ++ [((firstB (s.drop a)).1, a + (firstB (s.drop a)).2)]).length = k := by simp; omega
  rw [hk2, h]
  simp
theorem EInv.stop {s : Bs} {pre : List (Bs × Nat)} {a : Nat} (h : EInv s pre a) (hn : (firstB (s.drop a)).2 = 0 ∨ 2000 ≤ pre.length) : pre = wholeE s := by
  rw [h]
  rcases hn with hn | hn
  · cases hk : 2000 - pre.length with
    | zero => simp [framesE]
    | succ k => rw [framesE, if_pos hn]; simp
  · rw [show 2000 - pre.length = 0 by omega]; simp [framesE]

theorem firstB_text_len (s : Bs) : (firstB s).1.length ≤ s.length := by
  by_cases h : (firstB s).2 = 0
  · rw [firstB_zero s h]; simp
  · obtain ⟨_, hf, _⟩ := firstB_sound s h
    have h1 := congrArg List.length hf
    have h2 := firstB_le s
    rw [framed_len, List.length_take, Nat.min_eq_left h2] at h1
    have h3 : (firstB s).1.length ≤ (body (firstB s).1).length := by simp [body]; omega
    omega
end Go.Proofs.YtjdmbjeginnjiaaDoor
