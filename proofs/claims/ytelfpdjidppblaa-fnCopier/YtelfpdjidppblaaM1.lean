/- The walk of a region that draws its order (Giv), behind a structure: what is left of the walk is not unfolded by whoever looks at the goal. -/
import Derived.Test.YtelfpdjidppblaaGiv
import Derived.Test.YtelfpdjidppblaaRows
import Derived.Test.YtelfpdjidppblaaSets
import Derived.WalkKit
import Derived.ProofKit
import Derived.OpenShut
namespace Go.Proofs.Ytelfpdjidppblaa
open Go.ChangeShapes Go.WideShapes Go.ChangeAt Go.RowKit

structure GivS (P : Program) (ops : Array Oper) (C : World → Prop) (E : Oper → Act → Option GSpec) (R : World → World → Prop) (Q : Act → Known → Prop) (l : List Oper) (a : Act) (G : Known) : Prop where
  out : wpGiv P ops C E R Q l a G
section
variable {P : Program} {ops : Array Oper} {C : World → Prop} {E : Oper → Act → Option GSpec} {R : World → World → Prop} {Q : Act → Known → Prop} {o : Oper} {rest : List Oper} {a : Act} {G : Known}
theorem gs_plain (hs : E o a = none)
    (h : ∀ K : Act → Prop, (∀ a, GivS P ops C E R Q rest a G → K a) → if Region.wanted o (yielded ops a.tmps) then (∃ v, (∀ w, (∃ q : Kin C, w = q.x) → o.quietAt P a (fun _ => False) w v) ∧ K (a.put o.dst v)) else K (a.put o.dst undef)) : GivS P ops C E R Q (o :: rest) a G :=
  ⟨giv_plain hs (fun K hK => h K (fun a g => hK a g.out))⟩
theorem gs_skip (hw : Region.wanted o (yielded ops a.tmps) = false) (h : GivS P ops C E R Q rest (a.put o.dst undef) G) : GivS P ops C E R Q (o :: rest) a G := ⟨giv_skip hw h.out⟩
theorem gs_call (s : GSpec) (hs : E o a = some s) (hw : Region.wanted o (yielded ops a.tmps) = true)
    (h : ∀ w, Base ops C o G w → givesUpon P R s.V s.F w ((execOp a.eval o).run P w))
    (k : ∀ u, s.V u → GivS P ops C E R Q rest (a.put o.dst u) ((o, s.F u) :: G)) : GivS P ops C E R Q (o :: rest) a G := ⟨giv_call s hs hw h (fun u hu => (k u hu).out)⟩
end
theorem gs_end {P : Program} {ops : Array Oper} {C : World → Prop} {E : Oper → Act → Option GSpec} {R : World → World → Prop} {Q : Act → World → Prop} {a : Act} {G : Known} (h : ∀ w', Has C G w' → Q a w') : GivS P ops C E R (fun a' G => ∀ w', Has C G w' → Q a' w') [] a G := ⟨giv_end h⟩
theorem wp_region_gs {P : Program} {C : World → Prop} {E : Oper → Act → Option GSpec} {R : World → World → Prop} (hC : ∀ x y, C x → R x y → C y) (hE : ∀ o a s, E o a = some s → ∀ u x y, s.F u x → R x y → s.F u y)
    {id : Nat} {Q : Exit → Act → World → Prop} {a : Act} {w : World} {l : List Oper} (hA : ∀ o a dst v, (∀ d, dst = some d → d ∉ o.looksAt l.toArray) → E o (Act.put a dst v) = E o a) (hm : P.follows .mixedOrders = true) (hB : Region.lexB .any l.toArray = true) (h0 : C w.drew)
    (h : GivS P l.toArray C E R (fun a' G => ∀ w', Has C G w' → Q .normal a' w') l a []) : (Code.region id l.toArray true).wp P Q a w := wp_region_giv hC hE hA hm hB h0 h.out
end Go.Proofs.Ytelfpdjidppblaa
/- In, With, Without and Full, the program's and the model's: each answers what plain sets say, at every argument, and leaves the world as it was. -/
namespace Go.Proofs.Ytelfpdjidppblaa
open Go.ChangeShapes Go.WideShapes Go.ChangeAt Go.RowKit

set_option maxRecDepth 20000 in
set_option maxHeartbeats 400000 in
theorem in_any (s i : Int) (w : World) :
    Calls Try.prog 93 #[.int .i64 s, .int .i64 i] w fun e w' => e = .returned (.bool (inB s i)) ∧ w' = w := by
  by_cases h0 : 0 ≤ s
  · by_cases h1 : s < 256
    · by_cases h2 : 0 ≤ i
      · by_cases h3 : i < 8
        · go_enter Try.func93, Try.ntmps93
          go_wp2
          go_ret
          exact ⟨ret_bool (and_in h0 h1 h2 h3), rfl⟩
        · have e := inB_noitem (s := s) (i := i) (by omega)
          rw [e]
          clear e
          go_enter Try.func93, Try.ntmps93
          go_wp2
          go_ret
          exact ⟨rfl, rfl⟩
      · have e := inB_noitem (s := s) (i := i) (by omega)
        rw [e]
        clear e
        go_enter Try.func93, Try.ntmps93
        go_wp2
        go_ret
        exact ⟨rfl, rfl⟩
    · have e := inB_noset (s := s) (i := i) (by omega)
      rw [e]
      clear e
      go_enter Try.func93, Try.ntmps93
      go_wp2
      go_ret
      exact ⟨rfl, rfl⟩
  · have e := inB_noset (s := s) (i := i) (by omega)
    rw [e]
    clear e
    go_enter Try.func93, Try.ntmps93
    go_wp2
    go_ret
    exact ⟨rfl, rfl⟩

set_option maxRecDepth 20000 in
set_option maxHeartbeats 400000 in
theorem sin_any (s i : Int) (w : World) :
    Calls Try.prog 38 #[.int .i64 s, .int .i64 i] w fun e w' => e = .returned (.bool (inB s i)) ∧ w' = w := by
  by_cases h0 : 0 ≤ s
  · by_cases h1 : s ≤ 255
    · by_cases h2 : 0 ≤ i
      · by_cases h3 : i ≤ 7
        · go_enter Try.func38, Try.ntmps38
          go_wp2
          go_ret
          exact ⟨ret_bool (shr_in h0 (by omega) h2 (by omega)), rfl⟩
        · have e := inB_noitem (s := s) (i := i) (by omega)
          rw [e]
          clear e
          go_enter Try.func38, Try.ntmps38
          go_wp2
          go_ret
          exact ⟨rfl, rfl⟩
      · have e := inB_noitem (s := s) (i := i) (by omega)
        rw [e]
        clear e
        go_enter Try.func38, Try.ntmps38
        go_wp2
        go_ret
        exact ⟨rfl, rfl⟩
    · have e := inB_noset (s := s) (i := i) (by omega)
      rw [e]
      clear e
      go_enter Try.func38, Try.ntmps38
      go_wp2
      go_ret
      exact ⟨rfl, rfl⟩
  · have e := inB_noset (s := s) (i := i) (by omega)
    rw [e]
    clear e
    go_enter Try.func38, Try.ntmps38
    go_wp2
    go_ret
    exact ⟨rfl, rfl⟩
end Go.Proofs.Ytelfpdjidppblaa
