/- What Frames and Last of the program answer: they range over its iterator. -/
import Derived.Test.YtphmjjmgpnlagaaDoorIIter
import Derived.RegionIn
namespace Go.Proofs.YtphmjjmgpnlagaaDoor
open Go.ChangeShapes Go.WideShapes Go.ChangeAt Go.RowKit
attribute [local go_sem] Oper.semAt_some

set_option maxHeartbeats 1000000 in
theorem whole_any (s : Bs) (w : World) :
    Calls Tryd.prog 28 #[.string ⟨s.toArray⟩] w fun e w' => e = .returned (.func (.func 38) #[] #[.pointer (some ⟨w.heap.size, 0, none⟩)]) ∧ w' = w.alloc (.cells #[.string ⟨s.toArray⟩] 9) := by
  go_enter Tryd.func28, Tryd.ntmps28
  go_wp2
  go_ret
  exact ⟨rfl, rfl⟩

theorem whole_stops (n : Nat) (hn : 1 ≤ n) (Bn n0 : Nat) (s : Bs) (hl : s.length ≤ 1048576) (w : World) (hBn : w.cell? ⟨Bn, 0, none⟩ = some (S s)) (hlt : Bn < w.heap.size) (hn0 : n0 ≤ w.heap.size) (ht : ∀ W', Below n0 w W' → Tab W') :
    SeqStopsK Fence.wide n Tryd.prog 38 #[.pointer (some ⟨Bn, 0, none⟩)] (fun x : Bs × Nat => #[S x.1, .int .i64 (x.2 : Nat)]) (Keep Bn n0) (fun ys => ys = wholeE s) (fun _ => True) (wholeE s).length w :=
  fun l J Jx W hW hJ _ hY h0 => iter_in n hn l Bn n0 s hl J Jx W hJ ((hW.cell (p := ⟨Bn, 0, none⟩) hlt).trans hBn) (fun W' hb => ht W' ((hW.mono hn0).trans hb)) (Nat.le_trans hn0 hW.size) hY h0

set_option maxRecDepth 100000 in
set_option maxHeartbeats 2000000 in
theorem iframes_any (s : Bs) (w : World) (hl : s.length ≤ 1048576) (ht : Tab w) :
    Calls Tryd.prog 9 #[S s] w fun e w' => ∃ u, e = .returned (.tuple #[u, .int .i64 (framesB s).2]) ∧ OwnS w' w.heap.size u (framesB s).1 ∧ Below w.heap.size w w' := by
  obtain ⟨i0, hi, hz0, hz1, hz2⟩ := info_parts Tryd.infoS
  unfold S
  refine (callsIn_wide (n := 5)).1 ?_
  refine callsIn_of_wp_marks Tryd.func9 rfl trivial ?_ rfl
  simp only [Tryd.ntmps9, List.size_toArray, List.length_cons, List.length_nil, Nat.reduceAdd, Nat.reduceSub, Array.replicate_succ, Array.replicate_zero, List.push_toArray, List.append_toArray, List.nil_append, List.cons_append]
  gi_wp2_with fail
  refine ⟨trivial, (callsIn_wide.2 (whole_any s _)).mono ?_⟩
  rintro e w' ⟨rfl, rfl⟩
  gi_wp2_with fail
  obtain ⟨W0, hW0⟩ : ∃ W0, W0 = (((w.alloc (.cells #[] 9)).alloc (.cells #[.slice (some ⟨w.heap.size, 0, none⟩) 0 0] 25)).alloc (.cells #[.int .i64 0] 2)).alloc (.cells #[.string ⟨s.toArray⟩] 9) := ⟨_, rfl⟩
  rw [← hW0]
  have hsz0 : W0.heap.size = w.heap.size + 4 := by rw [hW0]; simp
  have hB0 : Below w.heap.size w W0 := by
    rw [hW0]
    exact ((((Below.refl _ w).alloc (Nat.le_refl _) _).alloc (by simp) _).alloc (by simp; omega) _).alloc (by simp; omega) _
  have bT : Boxed W0 (w.heap.size + 1) 25 (.slice (some ⟨w.heap.size, 0, none⟩) 0 0) := by
    rw [hW0]
    have := Boxed.new (w.alloc (.cells #[] 9)) 25 (.slice (some ⟨w.heap.size, 0, none⟩) 0 0)
    rw [World.size_alloc] at this
    exact (this.alloc _).alloc _
  have bK : Boxed W0 (w.heap.size + 1 + 1) 2 (.int .i64 0) := by
    rw [hW0]
    have := Boxed.new ((w.alloc (.cells #[] 9)).alloc (.cells #[.slice (some ⟨w.heap.size, 0, none⟩) 0 0] 25)) 2 (.int .i64 0)
    rw [World.size_alloc, World.size_alloc] at this
    exact this.alloc _
  have bS : Boxed W0 (w.heap.size + 1 + 1 + 1) 9 (.string ⟨s.toArray⟩) := by
    rw [hW0]
    have := Boxed.new (((w.alloc (.cells #[] 9)).alloc (.cells #[.slice (some ⟨w.heap.size, 0, none⟩) 0 0] 25)).alloc (.cells #[.int .i64 0] 2)) 9 (.string ⟨s.toArray⟩)
    rw [World.size_alloc, World.size_alloc, World.size_alloc] at this
    exact this
  have hrow0 : W0.ownsRow w.heap.size 9 1 (.slice (some ⟨w.heap.size, 0, none⟩) 0 0) 0 [] := by
    rw [hW0]
    exact (((World.ownsRow_lit w #[] 0 (Nat.le_refl _) (Nat.zero_le _) rfl).alloc _).alloc _).alloc _
  clear hW0
  refine wpIn_rangeFunc_ownG rfl (by omega) (gf := 38) (lb := #[.pointer (some ⟨w.heap.size + 1 + 1 + 1, 0, none⟩)]) rfl trivial (enters_of Tryd.func38 (by kernel_rfl) rfl)
    (whole_stops 4 (by omega) (w.heap.size + 1 + 1 + 1) w.heap.size s hl W0 bS.cell (by omega) (by omega) (fun W' hb => ht.below (hB0.trans hb))) Keep.trans (Keep.book (by omega)) (Below.refl _ _) (fun _ => rfl)
    (fun pre W => ((∃ v, Boxed W (w.heap.size + 1) 25 v ∧ W.ownsRow w.heap.size 9 1 v pre.length ((pre.map Prod.fst).map S) ∧ v.ownBlock ≠ some (w.heap.size + 1 + 1 + 1)) ∧ Boxed W (w.heap.size + 1 + 1) 2 (.int .i64 (endOf 0 pre : Nat))) ∧ (Boxed W (w.heap.size + 1 + 1 + 1) 9 (.string ⟨s.toArray⟩) ∧ Below w.heap.size w W))
    (fun _ _ _ => False)
    (OwnFrom.and (OwnFrom.and (Own.from (holdsRow_own w.heap.size (w.heap.size + 1) 25 9 1 (fun pre : List (Bs × Nat) => pre.length) (fun pre => (pre.map Prod.fst).map S) (fun _ v => v.ownBlock ≠ some (w.heap.size + 1 + 1 + 1))) _) (Own.from (boxed_own (w.heap.size + 1 + 1) 2 (fun pre : List (Bs × Nat) => .int .i64 (endOf 0 pre : Nat))) _)) (OwnFrom.and (Own.from (boxed_own (w.heap.size + 1 + 1 + 1) 9 (fun _ : List (Bs × Nat) => .string ⟨s.toArray⟩)) _) (ownFrom_below (Nat.le_refl _) (by omega))))
    (fun _ _ _ _ _ hs _ _ => hs)
    ⟨⟨⟨_, bT, hrow0, by simp [Value.ownBlock]; omega⟩, bK⟩, bS, hB0⟩
    (fun x => { tmps := #[.string ⟨s.toArray⟩, undef, .slice none 0 0, .int .i64 0, .pointer (some ⟨w.heap.size + 1, 0, none⟩), .pointer (some ⟨w.heap.size + 1 + 1, 0, none⟩), .string ⟨x.1.toArray⟩, .int .i64 (x.2 : Nat), .slice (some ⟨w.heap.size, 0, none⟩) 0 0, .string ⟨s.toArray⟩, .func (.func 38) #[] #[.pointer (some ⟨w.heap.size + 1 + 1 + 1, 0, none⟩)], .string ⟨x.1.toArray⟩, .int .i64 (x.2 : Nat), undef, undef, undef, undef, undef, undef, undef], defers := [] }) ?assign ?body ?done ?stop
  case assign =>
    intro l x W K hK
    unfold S
    gi_wp2
    exact hK
  case body =>
    rintro l pre x W ⟨⟨⟨v, hv, hrow, hne⟩, hk⟩, hS, hB⟩ hlt
    have hlen := framesE_len s
    have hc := hv.cell
    have hwz := hB.size
    gi_wp2_with (gi_at_builtin; refine wpListIn_append_own_at _ rfl _ _ 25 rfl w.heap.size 9 i0 (.string ⟨#[]⟩) 1 16 Tryd.underlying25 hi hz0 hz1 hz2 rfl (by decide) _ _ _ rfl (hrow.alloc _) ⟨W.heap.size, 0, none⟩ 1 1 [S x.1] rfl rfl (cell_one_new _ _ _) (by simp [Value.oneCell', S]) (by unfold maxLen; omega) (by omega) (by simp; omega) ?_; intro v' w1 hown' hgrow _ hat; obtain ⟨g', cap', rfl⟩ := ownsRow_succ hown'; obtain ⟨hv1, hv2, hr2, hk2, hb2⟩ := hv.appended (by decide) hrow hB.size (Nat.le_succ _) hown' hgrow; have hc1 := hv1.cell; have hf1 := hv1.frozen; have hkw := (hk.alloc _).kept hgrow (hk.not_row (by decide) hrow); have hck := hkw.cell; have hfk := hkw.frozen)
    have hk1 := hkw.other (B' := w.heap.size + 1) (by omega) (.slice (some ⟨g', 0, none⟩) (pre.length + 1) cap')
    have hS1 : Boxed w1 (w.heap.size + 1 + 1 + 1) 9 (.string ⟨s.toArray⟩) := (hS.alloc _).kept hgrow (fun e => hne e.symm)
    have hS3 := (hS1.other (B' := w.heap.size + 1) (by omega) (.slice (some ⟨g', 0, none⟩) (pre.length + 1) cap')).other (B' := w.heap.size + 1 + 1) (by omega) (.int .i64 (x.2 : Nat))
    have hb3 := hb2.setCell (p := ⟨w.heap.size + 1 + 1, 0, none⟩) (show w.heap.size ≤ w.heap.size + 1 + 1 by omega) (.int .i64 (x.2 : Nat))
    have hr3 := hr2.kept (grownBy_setCell' _ (w.heap.size + 1 + 1) (.int .i64 (x.2 : Nat))) (.inr (hk1.not_row (by decide) hr2).symm)
    refine ⟨(hk2.trans (KeepsOthers.setCell _ _ _)).from _, ⟨fun u hu => ?_, hb3⟩, ⟨⟨_, hv2.other (by omega) _, ?_, ?_⟩, ?_⟩, hS3, hB.trans hb3⟩
    · rw [hS.cell] at hu
      cases hu
      exact hS3.cell
    · simpa using hr3
    · rcases hat with e | e
      · rw [e]; exact hne
      · rw [e]
        have := hS.lt
        simp
        omega
    · rw [endOf_snoc]
      exact hk1.set _
  case done =>
    rintro D ys W hD rfl ⟨⟨⟨v, hv, hrow, hne⟩, hk⟩, hS, hB⟩ hK
    have hc := hv.cell
    have hc2 := hk.cell
    have hO : OwnS W w.heap.size v (framesB s).1 := by
      unfold OwnS
      rw [← framesE_texts, List.length_map]
      exact hrow
    have he := framesE_end s
    obtain ⟨ao, cap, rfl, -⟩ := hO.reads
    gi_wp2
    gi_region
    all_goals gi_wp2
    all_goals
      have hK' : W.drew.heap[D]? = some (.deferred (some [])) := hK
      refine ⟨by simp, .inl ⟨_, _, rfl, run_takeDeferred hK', ?_⟩⟩
      refine ⟨_, results_tmp2 rfl _ _ _, _, rfl, ownsRow_putObj (W := W.drew) (hO.below (below_drewN (Below.refl _ _) 1)) _ hK' rfl, ?_⟩
      exact (below_drewN hB 1).trans (belowK_b (w := w) (Nat.le_refl _) W.drew D _ _ (by omega) hK' rfl rfl)
  case stop =>
    rintro D c pre W _ _ h _
    exact h.elim

set_option maxRecDepth 100000 in
set_option maxHeartbeats 2000000 in
theorem ilast_any (s : Bs) (w : World) (hl : s.length ≤ 1048576) (ht : Tab w) :
    Calls Tryd.prog 12 #[S s] w fun e w' => e = .returned (.tuple #[S (lastB s), .bool (hasB s)]) ∧ Below w.heap.size w w' := by
  unfold S
  refine (callsIn_wide (n := 5)).1 ?_
  refine callsIn_of_wp_marks Tryd.func12 rfl trivial ?_ rfl
  simp only [Tryd.ntmps12, List.size_toArray, List.length_cons, List.length_nil, Nat.reduceAdd, Nat.reduceSub, Array.replicate_succ, Array.replicate_zero, List.push_toArray, List.append_toArray, List.nil_append, List.cons_append]
  gi_wp2_with fail
  refine ⟨trivial, (callsIn_wide.2 (whole_any s _)).mono ?_⟩
  rintro e w' ⟨rfl, rfl⟩
  gi_wp2_with fail
  obtain ⟨W0, hW0⟩ : ∃ W0, W0 = ((w.alloc (.cells #[.string ⟨#[]⟩] 9)).alloc (.cells #[.bool false] 4)).alloc (.cells #[.string ⟨s.toArray⟩] 9) := ⟨_, rfl⟩
  rw [← hW0]
  have hsz0 : W0.heap.size = w.heap.size + 3 := by rw [hW0]; simp
  have hB0 : Below w.heap.size w W0 := by
    rw [hW0]
    exact (((Below.refl _ w).alloc (Nat.le_refl _) _).alloc (by simp) _).alloc (by simp; omega) _
  have bT : Boxed W0 w.heap.size 9 (.string ⟨#[]⟩) := by
    rw [hW0]
    exact ((Boxed.new w 9 (.string ⟨#[]⟩)).alloc _).alloc _
  have bK : Boxed W0 (w.heap.size + 1) 4 (.bool false) := by
    rw [hW0]
    have := Boxed.new (w.alloc (.cells #[.string ⟨#[]⟩] 9)) 4 (.bool false)
    rw [World.size_alloc] at this
    exact this.alloc _
  have bS : Boxed W0 (w.heap.size + 1 + 1) 9 (.string ⟨s.toArray⟩) := by
    rw [hW0]
    have := Boxed.new ((w.alloc (.cells #[.string ⟨#[]⟩] 9)).alloc (.cells #[.bool false] 4)) 9 (.string ⟨s.toArray⟩)
    rw [World.size_alloc, World.size_alloc] at this
    exact this
  clear hW0
  refine wpIn_rangeFunc_ownG rfl (by omega) (gf := 38) (lb := #[.pointer (some ⟨w.heap.size + 1 + 1, 0, none⟩)]) rfl trivial (enters_of Tryd.func38 (by kernel_rfl) rfl)
    (whole_stops 4 (by omega) (w.heap.size + 1 + 1) w.heap.size s hl W0 bS.cell (by omega) (by omega) (fun W' hb => ht.below (hB0.trans hb))) Keep.trans (Keep.book (by omega)) (Below.refl _ _) (fun _ => rfl)
    (fun pre W => (Boxed W w.heap.size 9 (.string ⟨((pre.map Prod.fst).getLastD []).toArray⟩) ∧ Boxed W (w.heap.size + 1) 4 (.bool (!pre.isEmpty))) ∧ (Boxed W (w.heap.size + 1 + 1) 9 (.string ⟨s.toArray⟩) ∧ Below w.heap.size w W))
    (fun _ _ _ => False)
    (OwnFrom.and (OwnFrom.and (Own.from (boxed_own w.heap.size 9 (fun pre : List (Bs × Nat) => .string ⟨((pre.map Prod.fst).getLastD []).toArray⟩)) _) (Own.from (boxed_own (w.heap.size + 1) 4 (fun pre : List (Bs × Nat) => .bool (!pre.isEmpty))) _)) (OwnFrom.and (Own.from (boxed_own (w.heap.size + 1 + 1) 9 (fun _ : List (Bs × Nat) => .string ⟨s.toArray⟩)) _) (ownFrom_below (Nat.le_refl _) (by omega))))
    (fun _ _ _ _ _ hs _ _ => hs)
    ⟨⟨bT, bK⟩, bS, hB0⟩
    (fun x => { tmps := #[.string ⟨s.toArray⟩, undef, .string ⟨#[]⟩, .bool false, .pointer (some ⟨w.heap.size, 0, none⟩), .pointer (some ⟨w.heap.size + 1, 0, none⟩), .string ⟨x.1.toArray⟩, .string ⟨s.toArray⟩, .func (.func 38) #[] #[.pointer (some ⟨w.heap.size + 1 + 1, 0, none⟩)], .string ⟨x.1.toArray⟩, .int .i64 (x.2 : Nat), undef, undef, undef], defers := [] }) ?assign ?body ?done ?stop
  case assign =>
    intro l x W K hK
    unfold S
    gi_wp2
    exact hK
  case body =>
    rintro l pre x W ⟨⟨hv, hk⟩, hS, hB⟩ hlt
    have hc := hv.cell
    have hf := hv.frozen
    have hck := hk.cell
    have hfk := hk.frozen
    gi_wp2
    have hk1 := hk.other (B' := w.heap.size) (by omega) (.string ⟨x.1.toArray⟩)
    have hS3 := (hS.other (B' := w.heap.size) (by omega) (.string ⟨x.1.toArray⟩)).other (B' := w.heap.size + 1) (by omega) (.bool true)
    have hb3 := ((Below.refl w.heap.size W).setCell (p := ⟨w.heap.size, 0, none⟩) (Nat.le_refl _) (.string ⟨x.1.toArray⟩)).setCell (p := ⟨w.heap.size + 1, 0, none⟩) (show w.heap.size ≤ w.heap.size + 1 by omega) (.bool true)
    refine ⟨((KeepsOthers.setCell _ _ _).trans (KeepsOthers.setCell _ _ _)).from _, ⟨fun u hu => ?_, hb3⟩, ⟨?_, ?_⟩, hS3, hB.trans hb3⟩
    · rw [hS.cell] at hu
      cases hu
      exact hS3.cell
    · have := (hv.set (.string ⟨x.1.toArray⟩)).other (B' := w.heap.size + 1) (by omega) (.bool true)
      simpa using this
    · have e : (!(pre ++ [x]).isEmpty) = true := by cases pre <;> rfl
      rw [e]
      exact hk1.set (.bool true)
  case done =>
    rintro D ys W hD rfl ⟨⟨hv, hk⟩, hS, hB⟩ hK
    have e1 : ((wholeE s).map Prod.fst).getLastD [] = lastB s := by rw [framesE_texts]; rfl
    have e2 : (!(wholeE s).isEmpty) = hasB s := by
      unfold hasB
      rw [← framesE_texts]
      cases wholeE s <;> rfl
    rw [e1] at hv
    rw [e2] at hk
    have hc := hv.cell
    have hck := hk.cell
    clear e1 e2
    gi_wp2
    gi_region
    all_goals gi_wp2
    all_goals
      have hK' : W.drew.heap[D]? = some (.deferred (some [])) := hK
      refine ⟨by simp, .inl ⟨_, _, rfl, run_takeDeferred hK', ?_⟩⟩
      refine ⟨_, results_tmp2 rfl _ _ _, rfl, ?_⟩
      exact (below_drewN hB 1).trans (belowK_b (w := w) (Nat.le_refl _) W.drew D _ _ (by omega) hK' rfl rfl)
  case stop =>
    rintro D c pre W _ _ h _
    exact h.elim
end Go.Proofs.YtphmjjmgpnlagaaDoor
