/- Copiers in the state of a long walk. -/
import Derived.Test.YtelfpdjidppblaaSta
import Derived.Test.YtelfpdjidppblaaLCop
import Derived.Test.YtelfpdjidppblaaMine
namespace Go.Proofs.Ytelfpdjidppblaa
open Go.ChangeShapes Go.WideShapes Go.ChangeAt Go.RowKit

theorem Sta.markC {w wx wy : World} {L : List Item} {v : Value} {xs ys : List Int} (h : Sta w wx L) (n : Nat) (e : L[n]? = some (Lst v xs)) (o : Own wy 0 v ys) (m : wx.grownBy wy v.ownBlock) : Sta w wy (L.set n (Lst v ys)) :=
  h.turn n e (Turned.of_grown m) (Lst v ys) rfl o
theorem Sta.readsC {w wx : World} {L : List Item} {v : Value} {xs : List Int} (h : Sta w wx L) (n : Nat) (e : L[n]? = some (Lst v xs)) : Reads wx v xs := (h.get n e).reads
theorem Sta.oneC {w wx : World} {L : List Item} {v : Value} {xs : List Int} (h : Sta w wx L) (n : Nat) (e : L[n]? = some (Lst v xs)) (k : Cp) : (cpA v k).all (·.oneCell') = true := cpA_one k (reads_one (h.readsC n e))
theorem Sta.oneM {w wx : World} {L : List Item} {v : Value} {xs : List Int} (h : Sta w wx L) (n : Nat) (e : L[n]? = some (LstM v xs)) (k : Cp) : (cpA v k).all (·.oneCell') = true := cpA_one k (reads_one (h.readsM n e))

set_option maxRecDepth 20000 in
set_option maxHeartbeats 400000 in
theorem mark0_any (v : Value) (k : Int) (w : World) (h : Reads w v []) :
    Calls Try.prog 81 #[v, .int .i64 k] w fun e w' => e = .returned (.int .i64 k) ∧ w' = w := by
  obtain ⟨ao, cap, e⟩ := reads_form h
  simp only [List.length_nil] at e
  subst e
  clear h
  go_enter Try.func81, Try.ntmps81
  go_wp2
  go_loop [1, 5] (fun q i => i = .int .i64 0 ∧ q = .int .i64 k) (fun _ _ => 0)
  case atStart => exact ⟨rfl, rfl⟩
  case round =>
    obtain ⟨rfl, rfl⟩ := hrel
    go_wp2
    go_ret
    exact ⟨rfl, rfl⟩

set_option maxRecDepth 20000 in
set_option maxHeartbeats 1000000 in
theorem markCopier0_any (v : Value) (c : Cp) (k : Int) (w : World) (hr : Reads w v c.ts) (h0 : c.ts = []) :
    Calls Try.prog 42 #[CpV v c, .int .i64 k] w fun e w' => e = .returned (.int .i64 k) ∧ Below w.heap.size w w' := by
  have B1 : Below w.heap.size w (w.alloc (.cells (cpA v c) 26)) := (Below.refl _ _).alloc (Nat.le_refl _) _
  rw [h0] at hr
  have c1 := mark0_any v k (w.alloc (.cells (cpA v c) 26)) (hr.below B1 (Nat.le_refl _))
  obtain ⟨ao, cap, e⟩ := reads_form hr
  simp only [List.length_nil] at e
  subst e
  clear hr h0
  unfold CpV cpA at *
  go_enter Try.func42, Try.ntmps42
  go_wp2_with fail
  refine c1.mono ?_
  rintro e w2 ⟨rfl, hw⟩
  subst w2
  clear c1
  go_wp2
  go_ret
  exact ⟨rfl, B1⟩
theorem markCopierM_any (v : Value) (c : Cp) (k : Int) (w : World) (base : Nat) (ho : Mine w base v c.ts) (hl : c.ts.length ≤ 1048576) (h0 : 0 ≤ k) (h1 : k ≤ 4194304) :
    Calls Try.prog 42 #[CpV v c, .int .i64 k] w fun e w' => e = .returned (.int .i64 (k + c.ts.length)) ∧ Mine w' base v (marks k c.ts.length) ∧ Turned w w' (mineOf v c.ts) := by
  by_cases hx : c.ts = []
  · refine (markCopier0_any v c k w ho.reads hx).mono ?_
    rintro e w' ⟨rfl, b⟩
    rw [hx]
    refine ⟨by simp, ?_, Turned.of_below b⟩
    have hr := ho.reads
    rw [hx] at hr
    exact Reads.mine hr.later
  · refine (markCopier_any v c k w base (ho.own hx) hl h0 h1).mono ?_
    rintro e w' ⟨rfl, o, g⟩
    refine ⟨rfl, .inl o, ?_⟩
    unfold mineOf
    rw [if_neg (fun e => hx (List.eq_nil_of_length_eq_zero e))]
    exact Turned.of_grown g
end Go.Proofs.Ytelfpdjidppblaa
