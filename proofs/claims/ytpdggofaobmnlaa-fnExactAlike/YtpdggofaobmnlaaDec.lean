/- Numbers in decimal digits: what l1Int of the model answers. -/
import Derived.Test.YtpdggofaobmnlaaM1
import Derived.Below
namespace Go.Proofs.Ytpdggofaobmnlaa
open Go.ChangeShapes Go.WideShapes Go.ChangeAt Go.RowKit

def digit (n : Nat) : UInt8 := UInt8.ofNat (48 + n % 10)
def dec (n : Nat) : Bs := if n < 10 then [digit n] else dec (n / 10) ++ [digit n]
def decI (n : Int) : Bs := if n < 0 then 45 :: dec n.natAbs else dec n.natAbs
/- What is still to be written ahead: nothing of 0. -/
def decZ (n : Nat) : Bs := if n = 0 then [] else dec n
theorem decZ_step (n : Nat) (h : n ≠ 0) : decZ n = decZ (n / 10) ++ [digit n] := by
  unfold decZ
  rw [if_neg h, dec]
  by_cases h10 : n < 10
  · rw [if_pos h10, if_pos (by omega)]; rfl
  · rw [if_neg h10, if_neg (by omega)]
theorem dec_zero : dec 0 = [digit 0] := by rw [dec]; rfl

theorem parts_neg (k : Int) (h : k < 0) : k.tmod 10 = -((k.natAbs % 10 : Nat) : Int) ∧ k.tdiv 10 = -((k.natAbs / 10 : Nat) : Int) := by
  obtain ⟨m, rfl⟩ : ∃ m : Nat, k = -(m : Int) := ⟨k.natAbs, by omega⟩
  rw [Int.neg_tmod, Int.neg_tdiv, Int.natAbs_neg, Int.natAbs_natCast]
  constructor <;> rfl
theorem parts_pos (k : Int) (h : 0 ≤ k) : k.tmod 10 = ((k.natAbs % 10 : Nat) : Int) ∧ k.tdiv 10 = ((k.natAbs / 10 : Nat) : Int) := by
  obtain ⟨m, rfl⟩ : ∃ m : Nat, k = (m : Int) := ⟨k.natAbs, by omega⟩
  rw [Int.natAbs_natCast]
  constructor <;> rfl
theorem digit_at (d : Nat) (h : d ≤ 9) : ((digit d).toNat : Int) = 48 + (d : Int) := by
  have : (digit d).toNat = 48 + d % 10 := by unfold digit; rw [UInt8.toNat_ofNat']; omega
  rw [this]; omega
theorem conv1 (w : World) (d : Nat) (h : d ≤ 9) : (convert 22 9 (.slice (some ⟨w.heap.size, 0, none⟩) 1 1)).run Try.prog (w.alloc (.cells #[.int .u8 (48 + (d : Int))] 5)) = .ok (.string ⟨#[digit d]⟩) (w.alloc (.cells #[.int .u8 (48 + (d : Int))] 5)) := by
  have := run_convert_bytes_back (P := Try.prog) (w.alloc (.cells #[.int .u8 (48 + (d : Int))] 5)) 22 9 5 ⟨w.heap.size, 0, none⟩ 1 [digit d] Try.underlying22 Try.underlying5 Try.underlying9 (by
    intro j hj
    have e : j = 0 := by simpa using hj
    subst e
    have h1 : (w.alloc (.cells #[.int .u8 (48 + (d : Int))] 5)).heap[w.heap.size]? = some (.cells #[.int .u8 (48 + (d : Int))] 5) := heap_alloc_new w _
    have h2 := cell_of_row _ w.heap.size 0 _ _ _ h1
    have h3 : ((([digit d] : List UInt8)[0]).toNat : Int) = 48 + (d : Int) := digit_at d h
    rw [h3]
    exact h2)
  exact this
theorem digit_mod (n : Nat) : digit (n % 10) = digit n := by unfold digit; rw [Nat.mod_mod]
theorem dec_len (k : Nat) : ∀ n, n < 10 ^ (k + 1) → (dec n).length ≤ k + 1 := by
  induction k with
  | zero => intro n h; rw [dec, if_pos (by omega)]; simp
  | succ k ih =>
    intro n h
    rw [dec]
    split
    · simp
    · have := ih (n / 10) (by rw [Nat.pow_succ] at h; omega)
      simp; omega

theorem _root_.ByteArray.mk_append_mk' (a b : List UInt8) : (({ data := a.toArray } : ByteArray) ++ { data := b.toArray }) = { data := (a ++ b).toArray } := ByteArray.mk_append_mk a b

def IntInv (n k : Int) (l : Bs) : Prop := (l = [] ∧ k = n) ∨ (l ≠ [] ∧ decZ k.natAbs ++ l = dec n.natAbs)
theorem IntInv.step {n k k' : Int} {l : Bs} {d : Nat} (h : IntInv n k l) (hg : l = [] ∨ k ≠ 0) (hd : d = k.natAbs % 10) (hk : k'.natAbs = k.natAbs / 10) : IntInv n k' (digit d :: l) := by
  refine .inr ⟨by simp, ?_⟩
  rw [hk, hd, digit_mod]
  rcases h with ⟨rfl, rfl⟩ | ⟨h1, h2⟩
  · by_cases h0 : k.natAbs = 0
    · rw [h0]; simp [decZ, dec_zero]
    · rw [← decZ_step _ h0]; simp [decZ, h0]
  · have hk0 : k ≠ 0 := by
      rcases hg with h | h
      · exact absurd h h1
      · exact h
    rw [← h2, decZ_step k.natAbs (by omega)]
    simp
theorem IntInv.len {n k : Int} {l : Bs} (h : IntInv n k l) (h0 : -9223372036854775808 ≤ n) (h1 : n ≤ 9223372036854775807) : l.length ≤ 20 := by
  rcases h with ⟨rfl, _⟩ | ⟨_, h2⟩
  · simp
  · have := congrArg List.length h2
    have h3 := dec_len 19 n.natAbs (by omega)
    rw [List.length_append] at this
    omega
theorem IntInv.done {n : Int} {l : Bs} (h : IntInv n 0 l) (hl : l ≠ []) : l = dec n.natAbs := by
  rcases h with ⟨h, _⟩ | ⟨_, h2⟩
  · exact absurd h hl
  · simpa [decZ] using h2
theorem int_meas (k k' : Int) (q d : Nat) (l : Bs) (hk' : k'.natAbs = q) (h : (q : Int) < k.natAbs ∨ (q : Int) = k.natAbs ∧ l = []) :
    2 * (intOf (.int .i64 k')).natAbs + (match Value.string (({ data := #[digit d] } : ByteArray) ++ { data := l.toArray }) with | .string b => if b.size = 0 then 1 else 0 | _ => 0) < 2 * (intOf (.int .i64 k)).natAbs + (match Value.string ⟨l.toArray⟩ with | .string b => if b.size = 0 then 1 else 0 | _ => 0) := by
  rw [ByteArray.mk_append_mk' [digit d] l]
  have e1 : (⟨([digit d] ++ l).toArray⟩ : ByteArray).size = l.length + 1 := by simp [ByteArray.size]
  have e2 : (⟨l.toArray⟩ : ByteArray).size = l.length := rfl
  simp only [intOf, e1, e2, hk']
  rcases h with h | ⟨h, rfl⟩
  · split <;> simp <;> omega
  · simp; omega
end Go.Proofs.Ytpdggofaobmnlaa
