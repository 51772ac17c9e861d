/- Differ of the program answers what plain lists say. -/
import Derived.Test.YtnnmcjgmnjokiaaDoorEq8
namespace Go.Proofs.YtnnmcjgmnjokiaaDoor
open Go.ChangeShapes Go.WideShapes Go.ChangeAt Go.RowKit

set_option maxRecDepth 20000 in
set_option maxHeartbeats 2000000 in
theorem differ_any (va vb : Value) (a b : List Int) (w : World) (ha : Reads w va a) (hb : Reads w vb b) (ga : a.length ≤ 1099511627776) (gb : b.length ≤ 1099511627776) :
    Calls Tryd.prog 40 #[va, vb] w fun e w' => e = .returned (.int .i64 (differI a b)) ∧ Below w.heap.size w w' := by
  have c1 := rowsOf_any va vb a b w ha hb ga gb
  clear ha hb ga gb
  by_cases hok : bothOk a b = true
  · obtain ⟨o1, o2, o3⟩ := bothOk_yes hok
    have HD : Hid (differI a b = differUp a b 8) := by simp [Hid, differI, hok]
    have HLa : Hid (a.length ≤ 8) := (blocksOk_len o1).2
    have HLb : Hid (b.length ≤ 8) := (blocksOk_len o2).2
    rw [hok, rowF_yes o1, rowF_yes o2] at c1
    obtain ⟨f, hf⟩ : ∃ f : Nat → Int, f = fun k => a.getD k 0 := ⟨_, rfl⟩
    obtain ⟨g, hg⟩ : ∃ g : Nat → Int, g = fun k => b.getD k 0 := ⟨_, rfl⟩
    rw [← hf, ← hg] at c1
    have HF : Hid (f = mixF a b 0 ∧ g = fun k => b.getD k 0) := ⟨by rw [mixF_zero]; exact hf, hg⟩
    clear hf hg o1 o2 o3 hok
    go_enter Tryd.func40, Tryd.ntmps40
    go_wp2_with fail
    refine c1.mono ?_
    rintro e w1 ⟨rfl, b1⟩
    clear c1
    go_wp2_with (refine wpList_put8 rfl _ _ rfl w1.heap.size f rfl rfl (fun _ => 0) (two_rows w1).1 ?_)
    intro w2 r2 g2
    have b2 : Below w.heap.size w w2 := below_two b1 b1.size _ _ g2 b1.size
    have q2 : Row w2 (w1.heap.size + 1) (fun _ => 0) := (two_rows w1).2.kept g2 (by simp)
    obtain ⟨G5, hG5⟩ : ∃ G, G = w1.heap.size := ⟨_, rfl⟩
    have HG : Hid (w.heap.size ≤ G5) := by rw [hG5]; exact b1.size
    rw [← hG5] at r2 q2
    rw [← hG5]
    clear hG5 g2 b1
    go_wp2_with (refine wpList_put8 rfl _ _ rfl (G5 + 1) g rfl rfl (fun _ => 0) q2 ?_)
    intro w3 q3 g3
    have HR3 : Hid (DRel a b w w3 G5 (G5 + 1) 0) := by
      refine ⟨?_, ?_, b2.grown g3 b2.size (fun k e => by cases e; have := HG.out; omega)⟩
      · have := r2.kept g3 (by simp)
        rwa [HF.out.1] at this
      · rwa [HF.out.2] at q3
    clear b2 q2 r2 q3 g3
    go_wp2
    go_loopw [8, 9] (fun s i wr => ∃ j : Nat, j ≤ 8 ∧ i = .int .i64 j ∧ s = .int .i64 (differUp a b j) ∧ Hid (DRel a b w wr G5 (G5 + 1) j)) (fun _ i _ => 8 - (intOf i).toNat)
    case atStart => exact ⟨0, Nat.zero_le _, rfl, by simp [differUp], HR3⟩
    case round =>
      clear HR3
      obtain ⟨j, hj, rfl, rfl, HR⟩ := hrel
      have HR' := HR.out
      clear HR
      obtain ⟨F, hF⟩ : ∃ F, F = mixF a b j := ⟨_, rfl⟩
      obtain ⟨G, hG⟩ : ∃ G : Nat → Int, G = fun k => b.getD k 0 := ⟨_, rfl⟩
      obtain ⟨s, hs⟩ : ∃ s, s = differUp a b j := ⟨_, rfl⟩
      have rF : Row wr G5 F := by rw [hF]; exact HR'.1
      have rG : Row wr (G5 + 1) G := by rw [hG]; exact HR'.2.1
      have hsd := differUp_bd a b j hj
      rw [← hs] at hsd ⊢
      have heq := run_eq8 F G
      have HS : Hid (F = mixF a b j ∧ (G = fun k => b.getD k 0) ∧ s = differUp a b j ∧ DRel a b w wr G5 (G5 + 1) j) := ⟨hF, hG, hs, HR'⟩
      clear hF hG hs HR'
      by_cases hsame : same8 F G = true
      · rw [hsame] at heq
        go_wp2_with (first | (refine wpList_get8 rfl _ rfl G5 rfl _ rF ?_) | (refine wpList_get8 rfl _ rfl (G5 + 1) rfl _ rG ?_))
        go_ret
        obtain ⟨e1, e2, e3, e4⟩ := HS.out
        rw [e1, e2] at hsame
        exact ⟨ret_int (by rw [e3, HD.out, mixF_done HLa.out HLb.out hj hsame]), e4.2.2⟩
      · have hsame' : same8 F G = false := by simpa using hsame
        rw [hsame'] at heq
        have hj8 : j < 8 := by
          obtain ⟨e1, e2, _, _⟩ := HS.out
          rw [e1, e2] at hsame'
          exact mixF_lt hsame'
        have hj8' : (j : Int) < 8 := by omega
        have k1 := rF.cell j hj8
        have k2 := rG.cell j hj8
        have k3 := rF.frozen j
        obtain ⟨x, hx⟩ : ∃ x, x = F j := ⟨_, rfl⟩
        obtain ⟨y, hy⟩ : ∃ y, y = G j := ⟨_, rfl⟩
        rw [← hx] at k1
        rw [← hy] at k2
        have HX : Hid (x = a.getD j 0 ∧ y = b.getD j 0) := by
          obtain ⟨e1, e2, _, _⟩ := HS.out
          exact ⟨by rw [hx, e1, mixF_at], by rw [hy, e2]⟩
        clear hx hy hsame hsame'
        by_cases hxy : (x != y) = true
        · have HN : Hid (withI s j = differUp a b (j + 1) ∧ ∀ n, DRel a b w ((wr.drewN n).setCell ⟨G5, j, none⟩ (.int .i64 y)) G5 (G5 + 1) (j + 1)) := by
            obtain ⟨e1, e2, e3, e4, e5, e6⟩ := HS.out
            obtain ⟨x1, x2⟩ := HX.out
            have h1 : ¬ x = y := by simpa using hxy
            refine ⟨?_, fun n => ⟨?_, ?_, (below_drewN e6 n).setCell HG.out _⟩⟩
            · rw [differUp, if_neg (by rw [← x1, ← x2]; exact h1), ← e3]
            · have := Row.setCell (w := wr.drewN n) e4 j hj8 y
              rwa [x2, mixF_step, ← x2] at this
            · exact Row.other (w := wr.drewN n) e5 _ _ (by simp)
          go_wp2_with (first | (refine wpList_get8 rfl _ rfl G5 rfl _ rF ?_) | (refine wpList_get8 rfl _ rfl (G5 + 1) rfl _ rG ?_))
          clear rF rG heq
          go_quiet (fail)
          go_wp2_with (go_at_call 69; refine (bswith_any s j _ hsd.1 hsd.2 (by omega) hj8').mono ?_; rintro e w' ⟨rfl, hw⟩; subst w')
          go_roundw
          case rel => exact ⟨j + 1, by omega, by go_num, by rw [HN.out.1], HN.out.2 _⟩
          case measure => simp [intOf]; omega
        · have HN : Hid (s = differUp a b (j + 1) ∧ ∀ n, DRel a b w (wr.drewN n) G5 (G5 + 1) (j + 1)) := by
            obtain ⟨e1, e2, e3, e4, e5, e6⟩ := HS.out
            obtain ⟨x1, x2⟩ := HX.out
            have h1 : x = y := by simpa using hxy
            refine ⟨?_, fun n => ⟨?_, e5, below_drewN e6 n⟩⟩
            · rw [differUp, if_pos (by rw [← x1, ← x2]; exact h1), ← e3]
            · rw [mixF_skip a b j (by rw [← x1, ← x2]; exact h1)] at e4
              exact e4
          go_wp2_with (first | (refine wpList_get8 rfl _ rfl G5 rfl _ rF ?_) | (refine wpList_get8 rfl _ rfl (G5 + 1) rfl _ rG ?_))
          clear rF rG heq
          go_quiet (fail)
          go_wp2
          go_roundw
          case rel => exact ⟨j + 1, by omega, by go_num, by rw [HN.out.1], HN.out.2 _⟩
          case measure => simp [intOf]; omega
  · have hok' : bothOk a b = false := by simpa using hok
    have HD : Hid (differI a b = -1) := by simp [Hid, differI, hok']
    obtain ⟨f, hf⟩ : ∃ f, f = rowF a := ⟨_, rfl⟩
    obtain ⟨g, hg⟩ : ∃ g, g = rowF b := ⟨_, rfl⟩
    rw [hok', ← hf, ← hg] at c1
    clear hok hok' hf hg
    go_enter Tryd.func40, Tryd.ntmps40
    go_wp2_with fail
    refine c1.mono ?_
    rintro e w1 ⟨rfl, b1⟩
    clear c1
    go_wp2_with (refine wpList_put8 rfl _ _ rfl w1.heap.size f rfl rfl (fun _ => 0) (two_rows w1).1 ?_)
    intro w2 r2 g2
    have b2 : Below w.heap.size w w2 := below_two b1 b1.size _ _ g2 b1.size
    have q2 : Row w2 (w1.heap.size + 1) (fun _ => 0) := (two_rows w1).2.kept g2 (by simp)
    have HG : Hid (w.heap.size ≤ w1.heap.size) := b1.size
    clear g2 b1 r2
    go_wp2_with (refine wpList_put8 rfl _ _ rfl (w1.heap.size + 1) g rfl rfl (fun _ => 0) q2 ?_)
    intro w3 q3 g3
    have b3 : Hid (Below w.heap.size w w3) := b2.grown g3 b2.size (fun k e => by cases e; have := HG.out; omega)
    clear b2 q2 q3 g3
    go_wp2
    go_ret
    exact ⟨ret_int HD.out.symm, b3.out⟩
end Go.Proofs.YtnnmcjgmnjokiaaDoor
