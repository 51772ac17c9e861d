/- Keys as an array of four, and a holding that embeds them, by the program: keyOk, personOk, turnOk, registered, anyRegistered, keyRowOf, list. -/
import Derived.Test.YtpdggofaobmnlaaM6
import Derived.Test.YtpdggofaobmnlaaStB
import Derived.Test.YtpdggofaobmnlaaM8
import Derived.Laws.StructEq
namespace Go.Proofs.Ytpdggofaobmnlaa
open Go.ChangeShapes Go.WideShapes Go.ChangeAt Go.RowKit

def kA (f : Nat → Int) : Array Value := #[.int .i64 (f 0), .int .i64 (f 1), .int .i64 (f 2), .int .i64 (f 3)]
def KF (ks : List Int) : Nat → Int := fun j => ks.getD j 0
theorem four {p : Nat → Prop} (h0 : p 0) (h1 : p 1) (h2 : p 2) (h3 : p 3) : ∀ j, j < 4 → p j
  | 0, _ => h0 | 1, _ => h1 | 2, _ => h2 | 3, _ => h3
  | _ + 4, h => by omega
theorem Try.isKeyRow : (Try.prog.info? 90).map (·.size) = some 4 := by kernel_rfl
theorem Try.underK : Try.prog.underlying 90 = some (.array 4 2) := by kernel_rfl

set_option maxRecDepth 20000 in
set_option maxHeartbeats 400000 in
theorem ikeyok_any (x : Int) (w : World) :
    Calls Try.prog 106 #[.int .i64 x] w fun e w' => e = .returned (.bool (inI x 0 9999)) ∧ w' = w := by
  by_cases h0 : 0 ≤ x
  · by_cases h1 : x ≤ 9999
    · rw [show inI x 0 9999 = true by simp [inI, h0, h1]]
      go_enter Try.func106, Try.ntmps106
      go_wp2
      go_ret
      exact ⟨ret_bool (by simp), rfl⟩
    · rw [show inI x 0 9999 = false by simp [inI]; omega]
      go_enter Try.func106, Try.ntmps106
      go_wp2
      go_ret
      exact ⟨ret_bool (by simp), rfl⟩
  · rw [show inI x 0 9999 = false by simp [inI]; omega]
    go_enter Try.func106, Try.ntmps106
    go_wp2
    go_ret
    exact ⟨ret_bool (by simp), rfl⟩

set_option maxRecDepth 20000 in
set_option maxHeartbeats 400000 in
theorem iturnok_any (x : Int) (w : World) :
    Calls Try.prog 102 #[.int .i64 x] w fun e w' => e = .returned (.bool (inI x 0 1000000000)) ∧ w' = w := by
  by_cases h0 : 0 ≤ x
  · by_cases h1 : x ≤ 1000000000
    · rw [show inI x 0 1000000000 = true by simp [inI, h0, h1]]
      go_enter Try.func102, Try.ntmps102
      go_wp2
      go_ret
      exact ⟨ret_bool (by simp), rfl⟩
    · rw [show inI x 0 1000000000 = false by simp [inI]; omega]
      go_enter Try.func102, Try.ntmps102
      go_wp2
      go_ret
      exact ⟨ret_bool (by simp), rfl⟩
  · rw [show inI x 0 1000000000 = false by simp [inI]; omega]
    go_enter Try.func102, Try.ntmps102
    go_wp2
    go_ret
    exact ⟨ret_bool (by simp), rfl⟩

set_option maxRecDepth 20000 in
set_option maxHeartbeats 400000 in
theorem iperson_any (x : Int) (w : World) :
    Calls Try.prog 112 #[.int .i64 x] w fun e w' => e = .returned (.bool (inI x 0 3)) ∧ w' = w := by
  by_cases h0 : 0 ≤ x
  · by_cases h1 : x < 4
    · rw [show inI x 0 3 = true by simp [inI, h0]; omega]
      go_enter Try.func112, Try.ntmps112
      go_wp2
      go_ret
      exact ⟨ret_bool (by simp), rfl⟩
    · rw [show inI x 0 3 = false by simp [inI]; omega]
      go_enter Try.func112, Try.ntmps112
      go_wp2
      go_ret
      exact ⟨ret_bool (by simp), rfl⟩
  · rw [show inI x 0 3 = false by simp [inI]; omega]
    go_enter Try.func112, Try.ntmps112
    go_wp2
    go_ret
    exact ⟨ret_bool (by simp), rfl⟩

set_option maxRecDepth 20000 in
set_option maxHeartbeats 1000000 in
theorem iregd_any (f : Nat → Int) (i : Int) (w : World) :
    Calls Try.prog 110 #[.agg (kA f), .int .i64 i] w fun e w' => e = .returned (.bool (inI i 0 3 && decide (f i.toNat ≠ 0))) ∧ Below w.heap.size w w' := by
  have b1 : Below w.heap.size w (w.alloc (.cells (kA f) 90)) := (Below.refl _ _).alloc (Nat.le_refl _) _
  have H1 : StB (w.alloc (.cells (kA f) 90)) w.heap.size 90 (kA f) := StB.new _ _ _
  have c1 := fun wx => iperson_any i wx
  by_cases h : 0 ≤ i ∧ i < 4
  · have hin : inI i 0 3 = true := by simp [inI]; omega
    simp only [hin] at c1 ⊢
    obtain ⟨j, hj, hj4⟩ : ∃ j : Nat, i = (j : Int) ∧ j < 4 := ⟨i.toNat, by omega, by omega⟩
    subst hj
    obtain ⟨y, hy⟩ : ∃ y, y = f j := ⟨_, rfl⟩
    have hc : (w.alloc (.cells (kA f) 90)).cell? ⟨w.heap.size, j, none⟩ = some (.int .i64 y) := by
      rw [hy]; exact H1.cell j (four (p := fun j => (kA f)[j]? = some (.int .i64 (f j))) rfl rfl rfl rfl j hj4)
    have HY : Hid (y = f j) := hy
    have hl : (j : Int) < 4 := by omega
    clear hin hy h H1
    unfold kA at *
    by_cases y0 : y = 0
    · go_enter Try.func110, Try.ntmps110
      go_wp2_with (first | (go_at_call 112; refine (c1 _).mono ?_; rintro e w' ⟨rfl, hw⟩; subst w'))
      go_ret
      exact ⟨ret_bool (by simp [← HY.out, y0]), b1⟩
    · have hyn : (y != 0) = true := by simpa using y0
      go_enter Try.func110, Try.ntmps110
      go_wp2_with (first | (go_at_call 112; refine (c1 _).mono ?_; rintro e w' ⟨rfl, hw⟩; subst w'))
      go_ret
      exact ⟨ret_bool (by simp [← HY.out, y0]), b1⟩
  · have hin : inI i 0 3 = false := by simp [inI]; omega
    simp only [hin] at c1 ⊢
    clear h hin H1
    unfold kA at *
    go_enter Try.func110, Try.ntmps110
    go_wp2_with (first | (go_at_call 112; refine (c1 _).mono ?_; rintro e w' ⟨rfl, hw⟩; subst w'))
    go_ret
    exact ⟨ret_bool (by simp), b1⟩

def anyF (f : Nat → Int) : Bool := (f 0 != 0) || (f 1 != 0) || (f 2 != 0) || (f 3 != 0)
theorem run_eqK0 (f : Nat → Int) (w : World) : (Op.equalIn 10000 90 (.agg (kA f)) (.agg (kA fun _ => 0))).run Try.prog w = .ok (!anyF f) w := by
  obtain ⟨i0, hi, hz0, hz1, hz2⟩ := info_parts Try.infoI
  have hz : Try.prog.cellsOf 2 = 1 := by kernel_rfl
  have hu : Try.prog.underlying 2 = some (.int .i64) := by kernel_rfl
  rw [show (10000 : Nat) = 9998 + 1 + 1 from rfl, run_equalIn_array (i := i0) w (9998 + 1) _ _ Try.underK hi, hz]
  simp [List.range, List.range.loop, Op.eqItems, part, Sem.run_bind, sizeOf, typeInfo, hi, hz1, hu, kA, run_equalIn_int, anyF]
  (repeat' split) <;> simp_all

set_option maxRecDepth 20000 in
set_option maxHeartbeats 1000000 in
theorem ianyreg_any (f : Nat → Int) (w : World) :
    Calls Try.prog 108 #[.agg (kA f)] w fun e w' => e = .returned (.bool (anyF f)) ∧ Below w.heap.size w w' := by
  have b1 : Below w.heap.size w (w.alloc (.cells (kA f) 90)) := (Below.refl _ _).alloc (Nat.le_refl _) _
  have he := run_eqK0 f (w.alloc (.cells (kA f) 90))
  obtain ⟨x, hx⟩ : ∃ x, x = anyF f := ⟨_, rfl⟩
  rw [← hx] at he ⊢
  clear hx
  unfold kA at *
  cases x with
  | false =>
    go_enter Try.func108, Try.ntmps108
    go_wp2
    go_ret
    exact ⟨rfl, b1⟩
  | true =>
    go_enter Try.func108, Try.ntmps108
    go_wp2
    go_ret
    exact ⟨rfl, b1⟩
end Go.Proofs.Ytpdggofaobmnlaa
