/- What Frames and Last of the program answer: they range over its iterator. -/
import Derived.Test.YtjdmbjeginnjiaaDoorIIter
import Derived.RegionIn
namespace Go.Proofs.YtjdmbjeginnjiaaDoor
open Go.ChangeShapes Go.WideShapes Go.ChangeAt Go.RowKit
attribute [local go_sem] Oper.semAt_some

set_option maxRecDepth 20000 in
set_option maxHeartbeats 1000000 in
theorem whole_any (s : Bs) (w : World) :
    Calls Tryd.prog 34 #[.string ⟨s.toArray⟩] w fun e w' => e = .returned (.func (.func 55) #[] #[.pointer (some ⟨w.heap.size, 0, none⟩)]) ∧ w' = w.alloc (.cells #[.string ⟨s.toArray⟩] 9) := by
  go_enter Tryd.func34, Tryd.ntmps34
  go_wp2
  go_ret
  exact ⟨rfl, rfl⟩

theorem whole_stops (n : Nat) (hn : 1 ≤ n) (Bn n0 : Nat) (s : Bs) (hl : s.length ≤ 1048576) (w : World) (hBn : w.cell? ⟨Bn, 0, none⟩ = some (S s)) (hlt : Bn < w.heap.size) (hn0 : n0 ≤ w.heap.size) (ht : ∀ W', Below n0 w W' → Tab W') :
    SeqStopsK Fence.wide n Tryd.prog 55 #[.pointer (some ⟨Bn, 0, none⟩)] (fun x : Bs × Nat => #[S x.1, .int .i64 (x.2 : Nat)]) (Keep Bn n0) (fun ys => ys = wholeE s) (fun _ => True) (wholeE s).length w :=
  fun l J Jx W hW hJ _ hY h0 => iter_in n hn l Bn n0 s hl J Jx W hJ ((hW.cell (p := ⟨Bn, 0, none⟩) hlt).trans hBn) (fun W' hb => ht W' ((hW.mono hn0).trans hb)) (Nat.le_trans hn0 hW.size) (fun pre x W1 h1 h2 _ _ => hY pre x W1 h1 h2) h0
end Go.Proofs.YtjdmbjeginnjiaaDoor
