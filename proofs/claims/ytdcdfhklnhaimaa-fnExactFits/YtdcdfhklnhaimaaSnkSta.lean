/- Sinks in the state of a long walk. -/
import Derived.Test.YtdcdfhklnhaimaaLSink
import Derived.Test.YtdcdfhklnhaimaaMine
import Derived.Test.YtdcdfhklnhaimaaMark0
namespace Go.Proofs.Ytdcdfhklnhaimaa
open Go.ChangeShapes Go.WideShapes Go.ChangeAt Go.RowKit

theorem Sta.markK {w wx wy : World} {L : List Item} {v : Value} {xs ys : List Int} (h : Sta w wx L) (n : Nat) (e : L[n]? = some (Lst v xs)) (o : Own wy 0 v ys) (m : wx.grownBy wy v.ownBlock) : Sta w wy (L.set n (Lst v ys)) :=
  h.turn n e (Turned.of_grown m) (Lst v ys) rfl o
theorem Sta.readsK {w wx : World} {L : List Item} {v : Value} {xs : List Int} (h : Sta w wx L) (n : Nat) (e : L[n]? = some (Lst v xs)) : Reads wx v xs := (h.get n e).reads
theorem Sta.oneK {w wx : World} {L : List Item} {v : Value} {xs : List Int} (h : Sta w wx L) (n : Nat) (e : L[n]? = some (Lst v xs)) (k : Sn) : (snA v k).all (·.oneCell') = true := snA_one k (reads_one ((h.get n e).reads))
theorem Sta.oneN {w wx : World} {L : List Item} {v : Value} {xs : List Int} (h : Sta w wx L) (n : Nat) (e : L[n]? = some (LstM v xs)) (k : Sn) : (snA v k).all (·.oneCell') = true := snA_one k (reads_one (h.readsM n e))

set_option maxRecDepth 20000 in
set_option maxHeartbeats 1000000 in
theorem markSink0_any (v : Value) (c : Sn) (k : Int) (w : World) (hr : Reads w v c.ts) (h0 : c.ts = []) :
    Calls Try.prog 23 #[SnV v c, .int .i64 k] w fun e w' => e = .returned (.int .i64 k) ∧ Below w.heap.size w w' := by
  have B1 : Below w.heap.size w (w.alloc (.cells (snA v c) 26)) := (Below.refl _ _).alloc (Nat.le_refl _) _
  rw [h0] at hr
  have c1 := mark0_any v k (w.alloc (.cells (snA v c) 26)) (hr.below B1 (Nat.le_refl _))
  obtain ⟨ao, cap, e⟩ := reads_form hr
  simp only [List.length_nil] at e
  subst e
  clear hr h0
  unfold SnV snA at *
  go_enter Try.func23, Try.ntmps23
  go_wp2_with fail
  refine c1.mono ?_
  rintro e w2 ⟨rfl, hw⟩
  subst w2
  clear c1
  go_wp2
  go_ret
  exact ⟨rfl, B1⟩
theorem markSinkM_any (v : Value) (c : Sn) (k : Int) (w : World) (base : Nat) (ho : Mine w base v c.ts) (hl : c.ts.length ≤ 1048576) (h0 : 0 ≤ k) (h1 : k ≤ 4194304) :
    Calls Try.prog 23 #[SnV v c, .int .i64 k] w fun e w' => e = .returned (.int .i64 (k + c.ts.length)) ∧ Mine w' base v (marks k c.ts.length) ∧ Turned w w' (mineOf v c.ts) := by
  by_cases hx : c.ts = []
  · refine (markSink0_any v c k w ho.reads hx).mono ?_
    rintro e w' ⟨rfl, b⟩
    rw [hx]
    refine ⟨by simp, ?_, Turned.of_below b⟩
    have hr := ho.reads
    rw [hx] at hr
    exact Reads.mine hr.later
  · refine (markSink_any v c k w base (ho.own hx) hl h0 h1).mono ?_
    rintro e w' ⟨rfl, o, g⟩
    refine ⟨rfl, .inl o, ?_⟩
    unfold mineOf
    rw [if_neg (fun e => hx (List.eq_nil_of_length_eq_zero e))]
    exact Turned.of_grown g
end Go.Proofs.Ytdcdfhklnhaimaa
