/- A record is four numbers, in a block of four cells. -/
import Derived.Test.YtjdmbjeginnjiaaDoorRows
import Derived.Test.YtjdmbjeginnjiaaDoorSets
import Derived.WalkKit
import Derived.ProofKit
import Derived.OpenShut
import Derived.WalkSmall
import Derived.WalkSpells
import Derived.BigQuiet
import Derived.Below
import Derived.Laws.Tables
import Derived.Laws.ResultCell
namespace Go.Proofs.YtjdmbjeginnjiaaDoor
open Go.ChangeShapes Go.WideShapes Go.ChangeAt Go.RowKit

/- A record is four numbers. -/
structure Rc where
  e : Int
  s : Int
  t : Int
  n : Int
def sameR (r q : Rc) : Bool := decide (r.e = q.e) && decide (r.s = q.s) && decide (r.t = q.t) && decide (r.n = q.n)
theorem sameR_self (r : Rc) : sameR r r = true := by simp [sameR]
def Rc.zero : Rc := ⟨0, 0, 0, 0⟩
def epI (n : Int) : Bool := decide (0 ≤ n) && decide (n ≤ 100000)
def stI (n : Int) : Bool := decide (1 ≤ n) && decide (n ≤ 3)
def Rc.ok (r : Rc) : Bool := epI r.e && stI r.s && epI r.t && epI r.n
def Rc.Fit (r : Rc) : Prop := (-9223372036854775808 ≤ r.e ∧ r.e ≤ 9223372036854775807) ∧ (-9223372036854775808 ≤ r.s ∧ r.s ≤ 9223372036854775807) ∧ (-9223372036854775808 ≤ r.t ∧ r.t ≤ 9223372036854775807) ∧ (-9223372036854775808 ≤ r.n ∧ r.n ≤ 9223372036854775807)
theorem Rc.ok_iff (r : Rc) : r.ok = true ↔ (0 ≤ r.e ∧ r.e ≤ 100000) ∧ (1 ≤ r.s ∧ r.s ≤ 3) ∧ (0 ≤ r.t ∧ r.t ≤ 100000) ∧ (0 ≤ r.n ∧ r.n ≤ 100000) := by
  simp [Rc.ok, epI, stI, and_assoc]
def recA (r : Rc) : Array Value := #[.int .i64 r.e, .int .i64 r.s, .int .i64 r.t, .int .i64 r.n]
def RV (r : Rc) : Value := .agg (recA r)

set_option maxRecDepth 20000 in
set_option maxHeartbeats 400000 in
theorem sin_any (x lo hi : Int) (w : World) :
    Calls Tryd.prog 45 #[.int .i64 x, .int .i64 lo, .int .i64 hi] w fun e w' => e = .returned (.bool (decide (lo ≤ x) && decide (x ≤ hi))) ∧ w' = w := by
  by_cases h0 : lo ≤ x
  · by_cases h1 : x ≤ hi
    · have he : (decide (lo ≤ x) && decide (x ≤ hi)) = true := by simp [h0, h1]
      rw [he]
      clear he
      go_enter Tryd.func45, Tryd.ntmps45
      go_wp2
      go_ret
      exact ⟨ret_bool (by simp), rfl⟩
    · have he : (decide (lo ≤ x) && decide (x ≤ hi)) = false := by simp [h1]
      rw [he]
      clear he
      go_enter Tryd.func45, Tryd.ntmps45
      go_wp2
      go_ret
      exact ⟨ret_bool (by simp), rfl⟩
  · have he : (decide (lo ≤ x) && decide (x ≤ hi)) = false := by simp [h0]
    rw [he]
    clear he
    go_enter Tryd.func45, Tryd.ntmps45
    go_wp2
    go_ret
    exact ⟨ret_bool (by simp), rfl⟩

set_option maxRecDepth 20000 in
set_option maxHeartbeats 400000 in
theorem sepoch_any (x : Int) (w : World) :
    Calls Tryd.prog 44 #[.int .i64 x] w fun e w' => e = .returned (.bool (epI x)) ∧ w' = w := by
  have c1 := sin_any x 0 100000 w
  unfold epI
  go_enter Tryd.func44, Tryd.ntmps44
  go_wp2_with fail
  refine c1.mono ?_
  rintro e w' ⟨rfl, hw⟩; subst w'
  clear c1
  go_wp2_with fail
  go_ret
  exact ⟨rfl, rfl⟩

set_option maxRecDepth 20000 in
set_option maxHeartbeats 400000 in
theorem iepoch_any (x : Int) (w : World) :
    Calls Tryd.prog 42 #[.int .i64 x] w fun e w' => e = .returned (.bool (epI x)) ∧ w' = w := by
  by_cases h0 : 0 ≤ x
  · by_cases h1 : x ≤ 100000
    · have he : epI x = true := by simp [epI, h0, h1]
      rw [he]
      clear he
      go_enter Tryd.func42, Tryd.ntmps42
      go_wp2
      go_ret
      exact ⟨ret_bool (by simp), rfl⟩
    · have he : epI x = false := by simp [epI, h1]
      rw [he]
      clear he
      go_enter Tryd.func42, Tryd.ntmps42
      go_wp2
      go_ret
      exact ⟨ret_bool (by simp), rfl⟩
  · have he : epI x = false := by simp [epI, h0]
    rw [he]
    clear he
    go_enter Tryd.func42, Tryd.ntmps42
    go_wp2
    go_ret
    exact ⟨ret_bool (by simp), rfl⟩

set_option maxRecDepth 20000 in
set_option maxHeartbeats 400000 in
theorem istate_any (x : Int) (w : World) :
    Calls Tryd.prog 43 #[.int .i64 x] w fun e w' => e = .returned (.bool (stI x)) ∧ w' = w := by
  by_cases h0 : 1 ≤ x
  · by_cases h1 : x ≤ 3
    · have he : stI x = true := by simp [stI, h0, h1]
      rw [he]
      clear he
      go_enter Tryd.func43, Tryd.ntmps43
      go_wp2
      go_ret
      exact ⟨ret_bool (by simp), rfl⟩
    · have he : stI x = false := by simp [stI, h1]
      rw [he]
      clear he
      go_enter Tryd.func43, Tryd.ntmps43
      go_wp2
      go_ret
      exact ⟨ret_bool (by simp), rfl⟩
  · have he : stI x = false := by simp [stI, h0]
    rw [he]
    clear he
    go_enter Tryd.func43, Tryd.ntmps43
    go_wp2
    go_ret
    exact ⟨ret_bool (by simp), rfl⟩
end Go.Proofs.YtjdmbjeginnjiaaDoor
