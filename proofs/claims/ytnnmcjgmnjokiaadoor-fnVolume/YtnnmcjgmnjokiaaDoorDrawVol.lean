/- What the model draws for a command on a disk: DrawDidDisk. -/
import Derived.Test.YtnnmcjgmnjokiaaDoorDrawA
import Derived.Test.YtnnmcjgmnjokiaaDoorTextA
import Derived.Test.YtnnmcjgmnjokiaaDoorSVol3
import Derived.Test.YtnnmcjgmnjokiaaDoorRg
namespace Go.Proofs.YtnnmcjgmnjokiaaDoor
open Go.ChangeShapes Go.WideShapes Go.ChangeAt Go.RowKit

theorem sdifferB_any (va vb : Value) (a b : List Int) (w : World) (ha : Reads w va a) (hb : Reads w vb b) (ga : a.length ≤ 1099511627776) (gb : b.length ≤ 1099511627776) :
    Calls Tryd.prog 19 #[va, vb] w fun e w' => e = .returned (.int .i64 (differI a b)) ∧ Below w.heap.size w w' := by
  refine (sdiffer_any va vb a b w ha hb ga gb).mono ?_
  rintro e w' ⟨rfl, n, rfl⟩
  exact ⟨rfl, below_drewN (Below.refl _ _) n⟩
theorem cell_kept {w w' : World} {g k j : Nat} {x : Value} (h : w.cell? ⟨g, j, none⟩ = some x) (b : w.grownBy w' (some k)) (ne : g ≠ k) : w'.cell? ⟨g, j, none⟩ = some x := by
  rw [World.cell?_of_block (a := ⟨g, j, none⟩) (b.block g (World.block_lt_of_cell? w _ h) (by simpa using ne))]; exact h
theorem results_DC {fn : Func} {p q : Tmp} (h : fn.results = #[.cell p 26, .cell q 28]) (tmps : Array Value) (w : World) (g k : Nat) (cs : Array Value) (c : Cm) (hc : cs.size = 2)
    (hp : tmps.getD p undef = .pointer (some ⟨g, 0, none⟩)) (hq : tmps.getD q undef = .pointer (some ⟨k, 0, none⟩)) (h1 : StB w g 26 cs) (h2 : CmB w k 28 c) : (results fn tmps).run Tryd.prog w = .ok (.tuple #[.agg cs, CV c]) w := by
  obtain ⟨fs, hu⟩ := Tryd.underC
  have l1 := load_S Tryd.isD w g cs hc h1
  have l2 := run_loadVar_row w k _ _ _ _ _ h2 hu rfl Tryd.infoC
  have hp' : tmps[p]?.getD undef = .pointer (some ⟨g, 0, none⟩) := by simpa using hp
  have hq' : tmps[q]?.getD undef = .pointer (some ⟨k, 0, none⟩) := by simpa using hq
  simp [results, h, hp', hq', asAddr, l1, l2, CV]

set_option maxRecDepth 20000 in
set_option maxHeartbeats 2000000 in
theorem drawVol_any (B : Nat) (v : Value) (w : World) (h : CodeOk w B v) (hB : B ≤ w.heap.size) :
    Calls Tryd.prog 6 #[v] w fun e w' => ∃ a b r, e = .returned (.tuple #[.agg #[a, b], CV r]) ∧ ∃ xs ys : List Int, xs.length ≤ 65 ∧ ys.length ≤ 65 ∧ OwnD w' w.heap.size a b xs ys ∧ Below w.heap.size w w' := by
  obtain ⟨w1, hw1⟩ : ∃ w1, w1 = (w.alloc (.cells #[.slice none 0 0, .slice none 0 0] 26)).alloc (.cells #[.int .i64 0, .int .i64 0, .int .i64 0, .int .i64 0, .int .i64 0] 28) := ⟨_, rfl⟩
  have hs1 := ((Sta.start w).box 26 #[.slice none 0 0, .slice none 0 0]).box 28 #[.int .i64 0, .int .i64 0, .int .i64 0, .int .i64 0, .int .i64 0]
  rw [World.size_alloc, ← hw1] at hs1
  have HS : Hid (Sta w w1 [Blk (w.heap.size + 1) 28 #[.int .i64 0, .int .i64 0, .int .i64 0, .int .i64 0, .int .i64 0], Blk w.heap.size 26 #[.slice none 0 0, .slice none 0 0]]) := hs1
  have HC : Hid (CodeOk w B v) := h
  clear h hs1
  go_enter Tryd.func6, Tryd.ntmps6
  go_wp2_with fail
  rw [← hw1]
  clear hw1
  refine (new_code B v _ (HC.out.below (HS.out.below.mono hB)) (Nat.le_trans hB HS.out.below.size)).mono ?_
  rintro e w2 ⟨c, rfl, hc, C2, G2⟩
  replace HS : Hid (Sta w w2 [CurI B c, Blk (w.heap.size + 1) 28 #[.int .i64 0, .int .i64 0, .int .i64 0, .int .i64 0, .int .i64 0], Blk w.heap.size 26 #[.slice none 0 0, .slice none 0 0]]) := HS.out.newCur hB hc C2 G2
  clear C2 G2 hc HC
  go_wp2_with fail
  refine (l3Draw_any HS.out).mono ?_
  rintro e w3 ⟨a, b, rfl, xs, ys, hx, hy, S3⟩
  replace HS : Hid (Sta w w3 _) := S3
  clear S3
  obtain ⟨ao, ac, rfl⟩ := (HS.out.readsU 0 rfl).form
  obtain ⟨bo, bc, rfl⟩ := (HS.out.readsV 0 rfl).form
  obtain ⟨w4, hw4⟩ : ∃ w4, w4 = w3.alloc (.cells #[.slice ao xs.length ac, .slice bo ys.length bc] 26) := ⟨_, rfl⟩
  replace HS := HS.out.box 26 #[.slice ao xs.length ac, .slice bo ys.length bc]
  rw [← hw4] at HS
  replace HS : Hid (Sta w w4 _) := HS
  go_upto_region 3 with fail
  rw [← hw4]
  clear hw4
  have HD : Hid (Sta w w4.drew _) := HS.out.drew1
  have p0 : w4.cell? ⟨w3.heap.size, 0, none⟩ = some (.slice ao xs.length ac) := Blk.cell (HS.out.get 0 rfl) 0 rfl
  have p1 : w4.cell? ⟨w3.heap.size, 1, none⟩ = some (.slice bo ys.length bc) := Blk.cell (HS.out.get 0 rfl) 1 rfl
  have d0 : w4.drew.cell? ⟨w3.heap.size, 0, none⟩ = some (.slice ao xs.length ac) := p0
  have d1 : w4.drew.cell? ⟨w3.heap.size, 1, none⟩ = some (.slice bo ys.length bc) := p1
  obtain ⟨gd, hgd⟩ : ∃ gd, gd = w3.heap.size := ⟨_, rfl⟩
  have hn0 : gd ≠ w.heap.size := by
    have h3 := HS.out.apart.1 (Blk w.heap.size 26 #[.slice none 0 0, .slice none 0 0]) (by simp) w3.heap.size (by simp [Blk])
    rw [hgd]
    intro e
    exact h3 (by simp [Blk, e])
  have hn1 : gd ≠ w.heap.size + 1 := by
    have h3 := HS.out.apart.1 (Blk (w.heap.size + 1) 28 #[.int .i64 0, .int .i64 0, .int .i64 0, .int .i64 0, .int .i64 0]) (by simp) w3.heap.size (by simp [Blk])
    rw [hgd]
    intro e
    exact h3 (by simp [Blk, e])
  rw [← hgd] at HS HD p0 p1 d0 d1 ⊢
  clear hgd
  go_region_held3 (fun w' => w'.cell? ⟨gd, 0, none⟩ = some (.slice ao xs.length ac) ∧ w'.cell? ⟨gd, 1, none⟩ = some (.slice bo ys.length bc)) (refine ⟨?_, ?_⟩ <;> first | with_reducible assumption | (with_reducible refine cell_put2 hn0 ?_; with_reducible assumption))
    (first
      | (go_at_call 29; refine (l6any_any B c _ (HD.out.get 2 rfl)).mono ?_; rintro e w5 ⟨r, rfl, C5, G5⟩; have H5 : Hid (Sta w w5 _) := HD.out.cur 2 rfl C5 G5; have Z5 : Hid (StB w5 (w.heap.size + 1) 28 #[.int .i64 0, .int .i64 0, .int .i64 0, .int .i64 0, .int .i64 0]) := H5.out.get 3 rfl; unfold CV; clear C5 G5; have e0 : w5.cell? ⟨gd, 0, none⟩ = some (.slice ao xs.length ac) := Blk.cell (H5.out.get 0 rfl) 0 rfl; have e1 : w5.cell? ⟨gd, 1, none⟩ = some (.slice bo ys.length bc) := Blk.cell (H5.out.get 0 rfl) 1 rfl; have r0 : w5.cell? ⟨w.heap.size, 0, none⟩ = some (.slice none 0 0) := Blk.cell (H5.out.get 4 rfl) 0 rfl; have r1 : w5.cell? ⟨w.heap.size, 1, none⟩ = some (.slice none 0 0) := Blk.cell (H5.out.get 4 rfl) 1 rfl; have f0 : w5.frozen? ⟨w.heap.size, 0, none⟩ = false := StB.frozen (H5.out.get 4 rfl) 0; have f1 : w5.frozen? ⟨w.heap.size, 1, none⟩ = false := StB.frozen (H5.out.get 4 rfl) 1)
      | ((with_reducible show Oper.upon _ _ _ _ _ (Result.andThen (Sem.run _ (storeCells _ (cmA _).toList) _) _)); refine upon_putS _ 28 (cmA r) #[.int .i64 0, .int .i64 0, .int .i64 0, .int .i64 0, .int .i64 0] ?_ ?_ ?_ ?_; (focus exact rfl); (focus exact cmA_one _); (focus exact (Z5.out.other _ _ (by simp)).other _ _ (by simp)); intro w7 s7 g7; have t0 := cell_kept (cell_put2 hn0 e0) g7 hn1; have t1 := cell_kept (cell_put2 hn0 e1) g7 hn1))
  all_goals
    go_wp2
    have q5 : StB w5 w.heap.size 26 #[.slice none 0 0, .slice none 0 0] := H5.out.get 4 rfl
    have S6 := (q5.put 0 (.slice ao xs.length ac) rfl).put 1 (.slice bo ys.length bc) (ds := #[.slice ao xs.length ac, .slice bo ys.length bc]) rfl
    have G6 := (grownSet w5 w.heap.size 0 (.slice ao xs.length ac)).trans (grownSet _ w.heap.size 1 (.slice bo ys.length bc))
    have H6 := H5.out.turn 4 rfl (Turned.of_grown G6) (Blk w.heap.size 26 #[.slice ao xs.length ac, .slice bo ys.length bc]) rfl S6
    have H7 := H6.turn 3 rfl (Turned.of_grown g7) (Blk (w.heap.size + 1) 28 (cmA r)) rfl s7
    refine bodyPost_ret (results_DC rfl _ _ w.heap.size (w.heap.size + 1) _ r rfl rfl rfl (S6.kept g7 (by simp)) s7) rfl ?_
    exact ⟨_, _, r, rfl, xs, ys, hx, hy, H7.ownD 1 rfl, H7.below⟩
end Go.Proofs.YtnnmcjgmnjokiaaDoor
