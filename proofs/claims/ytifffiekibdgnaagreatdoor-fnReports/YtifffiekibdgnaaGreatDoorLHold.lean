/- How the laws take a holding over, compare two, mark one and look at the marks; a new holding. -/
import Derived.Test.YtifffiekibdgnaaGreatDoorSHold
import Derived.Test.YtifffiekibdgnaaGreatDoorLists
import Derived.Test.YtifffiekibdgnaaGreatDoorSz
import Derived.Deep.DeepCutAuto
namespace Go.Proofs.YtifffiekibdgnaaGreatDoor
open Go.ChangeShapes Go.WideShapes Go.ChangeAt Go.RowKit

theorem hdA_one {v : Value} (h : Hd) (hv : v.oneCell' = true) : (hdA v h).all (·.oneCell') = true := by
  unfold hdA
  simp [hv, show ∀ k n, (Value.int k n).oneCell' = true from fun _ _ => rfl]

set_option maxRecDepth 20000 in
set_option maxHeartbeats 1000000 in
theorem snewH_any (w : World) :
    Calls Tryz.prog 65 #[] w fun e w' => ∃ u, e = .returned (HV u Hd.new) ∧ Own w' w.heap.size u Hd.new.ks ∧ Below w.heap.size w w' := by
  obtain ⟨i0, hi, hz0, hz1, hz2⟩ := info_parts Tryz.infoI
  obtain ⟨w1, hw1⟩ : ∃ w1, w1 = w.alloc (.cells #[.slice none 0 0, .int .i64 0, .int .i64 0, .int .i64 0] 26) := ⟨_, rfl⟩
  have p0 : StB w1 w.heap.size 26 #[.slice none 0 0, .int .i64 0, .int .i64 0, .int .i64 0] := by rw [hw1]; exact StB.new w _ _
  have b1 : Below w.heap.size w w1 := by rw [hw1]; exact (Below.refl _ _).alloc (Nat.le_refl _) _
  have hs1 : w.heap.size < w1.heap.size := p0.lt
  go_enter Tryz.func65, Tryz.ntmps65
  go_upto_region 1 with fail
  rw [← hw1]
  clear hw1
  go_wp2_with (first
    | (refine wpList_make_full _ rfl _ _ 24 rfl w1.heap.size 2 i0 (.int .i64 0) 1 Tryz.underlying24 hi hz0 hz1 _ _ _ _ 4 rfl rfl rfl rfl (by rw [hz2]; omega) (by unfold maxLen; omega) (Nat.le_refl _) ?_; intro w2 hown hgr)
    | (refine wpList_putS Tryz.isH rfl _ _ rfl w.heap.size (hdA (.slice (some ⟨w1.heap.size, 0, none⟩) 4 4) Hd.new) #[.slice none 0 0, .int .i64 0, .int .i64 0, .int .i64 0] rfl rfl rfl rfl (hdA_one _ rfl) (p0.kept hgr (by simp)) ?_; intro w3 s3 g3))
  refine bodyPost_ret (results_S Tryz.isH rfl _ _ w.heap.size _ rfl rfl s3) rfl ?_
  have e4 : (madeCells (Value.int .i64 0).cells (4 * 1)).toList = ([0, 0, 0, 0] : List Int).map (Value.int .i64) := zeros_eq 4
  rw [e4] at hown
  have o2 : Own w2 w1.heap.size (.slice (some ⟨w1.heap.size, 0, none⟩) 4 4) [0, 0, 0, 0] := hown
  have b2 : Below w.heap.size w w2 := b1.grown hgr b1.size (fun k e => by cases e)
  exact ⟨_, rfl, (o2.keptLt g3 hs1).mono b1.size, b2.grown g3 b2.size (fun k e => by cases e; exact Nat.le_refl _)⟩
end Go.Proofs.YtifffiekibdgnaaGreatDoor
