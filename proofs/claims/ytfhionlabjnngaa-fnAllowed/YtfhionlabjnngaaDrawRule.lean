/- What the law on who may draws: DrawBars, DrawAllowed. -/
import Derived.Test.YtfhionlabjnngaaDraw
import Derived.Test.YtfhionlabjnngaaDrawSets
namespace Go.Proofs.Ytfhionlabjnngaa
open Go.ChangeShapes Go.WideShapes Go.ChangeAt Go.RowKit

set_option maxRecDepth 20000 in
set_option maxHeartbeats 1000000 in
theorem drawBars_any (B : Nat) (v : Value) (w : World) (h : CodeOk w B v) (hB : B ≤ w.heap.size) :
    Calls Try.prog 11 #[v] w fun e w' => ∃ (k : Int) (b : Bool), e = .returned (.tuple #[.int .i64 k, .bool b]) ∧ -1 ≤ k ∧ k ≤ 10 ∧ Below w.heap.size w w' := by
  go_enter Try.func11, Try.ntmps11
  go_wp2_with fail
  refine (new_code B v _ h hB).mono ?_
  rintro e w1 ⟨c, rfl, hc, C1, G1⟩
  go_wp2_with fail
  refine (from_any B c (-1) 10 _ C1 (by omega) (by omega) (by omega)).mono ?_
  rintro e w2 ⟨k, rfl, l2, u2, C2, G2⟩
  go_wp2_with fail
  refine (once_any B c 2 _ C2 (by omega)).mono ?_
  rintro e w3 ⟨b, rfl, C3, G3⟩
  have hb := below_of_cur G1 hc (G2.trans G3)
  clear C1 C2 C3 G1 G2 G3 h
  go_wp2_with fail
  go_ret2
  exact ⟨k, b, rfl, l2, u2, hb⟩

theorem results_four {fn : Func} {t u v x : Tmp} (h : fn.results = #[.tmp t, .tmp u, .tmp v, .tmp x]) (tmps : Array Value) (P : Program) (w : World) :
    (results fn tmps).run P w = .ok (.tuple #[tmps.getD t undef, tmps.getD u undef, tmps.getD v undef, tmps.getD x undef]) w := by
  simp [results, h]

set_option maxRecDepth 20000 in
set_option maxHeartbeats 1000000 in
theorem drawAllowed_any (B : Nat) (v : Value) (w : World) (h : CodeOk w B v) (hB : B ≤ w.heap.size) :
    Calls Try.prog 9 #[v] w fun e w' => ∃ (k : Int) (x y z : Bool), e = .returned (.tuple #[.int .i64 k, .bool x, .bool y, .bool z]) ∧ -1 ≤ k ∧ k ≤ 10 ∧ Below w.heap.size w w' := by
  go_enter Try.func9, Try.ntmps9
  go_wp2_with fail
  refine (new_code B v _ h hB).mono ?_
  rintro e w1 ⟨c, rfl, hc, C1, G1⟩
  go_wp2_with fail
  refine (from_any B c (-1) 10 _ C1 (by omega) (by omega) (by omega)).mono ?_
  rintro e w2 ⟨k, rfl, l2, u2, C2, G2⟩
  go_wp2_with fail
  refine (once_any B c 2 _ C2 (by omega)).mono ?_
  rintro e w3 ⟨x, rfl, C3, G3⟩
  go_wp2_with fail
  refine (once_any B c 3 _ C3 (by omega)).mono ?_
  rintro e w4 ⟨y, rfl, C4, G4⟩
  go_wp2_with fail
  refine (once_any B c 2 _ C4 (by omega)).mono ?_
  rintro e w5 ⟨z, rfl, C5, G5⟩
  have hb := below_of_cur G1 hc (((G2.trans G3).trans G4).trans G5)
  clear C1 C2 C3 C4 C5 G1 G2 G3 G4 G5 h
  go_wp2_with fail
  refine bodyPost_ret (results_four rfl _ _ _) rfl ?_
  exact ⟨k, x, y, z, rfl, l2, u2, hb⟩
end Go.Proofs.Ytfhionlabjnngaa
