/- Chosen of the program answers what plain lists say, in new memory. -/
import Derived.Test.YtpdggofaobmnlaaM14
namespace Go.Proofs.Ytpdggofaobmnlaa
open Go.ChangeShapes Go.WideShapes Go.ChangeAt Go.RowKit

def chF (a b : List Int) (s : Int) (j : Nat) : Nat → Int := fun k => if k < j ∧ inB s k = true then b.getD k 0 else a.getD k 0
theorem chF_zero (a b : List Int) (s : Int) : chF a b s 0 = fun k => a.getD k 0 := by funext k; simp [chF]
theorem chF_yes {a b : List Int} {s : Int} {j : Nat} (h : inB s j = true) : upd (chF a b s j) j (b.getD j 0) = chF a b s (j + 1) := by
  funext k
  unfold upd chF
  by_cases e : k = j
  · subst e; simp [h]
  · have : k < j + 1 ↔ k < j := by omega
    simp [e, this]
theorem chF_no {a b : List Int} {s : Int} {j : Nat} (h : inB s j = false) : chF a b s j = chF a b s (j + 1) := by
  funext k
  unfold chF
  by_cases e : k = j
  · subst e; simp [h]
  · have : k < j + 1 ↔ k < j := by omega
    simp [this]
theorem chF_list (a b : List Int) (s : Int) (n : Nat) : listF (chF a b s 8) n = chosenUp a b s 8 n := rfl

def CRel (a b : List Int) (s : Int) (w wr : World) (G5 G6 j : Nat) : Prop := Row wr G5 (chF a b s j) ∧ Row wr G6 (fun k => b.getD k 0) ∧ Below w.heap.size w wr

set_option maxRecDepth 20000 in
set_option maxHeartbeats 2000000 in
theorem chosen_any (va vb : Value) (a b : List Int) (s : Int) (w : World) (ha : Reads w va a) (hb : Reads w vb b) (ga : a.length ≤ 1099511627776) (gb : b.length ≤ 1099511627776) :
    Calls Try.prog 68 #[va, vb, .int .i64 s] w fun e w' => ∃ u, e = .returned u ∧ Own w' w.heap.size u (chosenI a b s) ∧ Below w.heap.size w w' := by
  have c1 := rowsOf_any va vb a b w ha hb ga gb
  obtain ⟨ao, ca, rfl⟩ := ha.form
  clear ha hb ga gb
  by_cases hok : bothOk a b = true
  · obtain ⟨o1, o2, o3⟩ := bothOk_yes hok
    have h8 := (blocksOk_len o1).2
    rw [hok, rowF_yes o1, rowF_yes o2] at c1
    obtain ⟨f, hf⟩ : ∃ f : Nat → Int, f = fun k => a.getD k 0 := ⟨_, rfl⟩
    obtain ⟨g, hg⟩ : ∃ g : Nat → Int, g = fun k => b.getD k 0 := ⟨_, rfl⟩
    rw [← hf, ← hg] at c1
    have HF : Hid (f = chF a b s 0 ∧ g = fun k => b.getD k 0) := ⟨by rw [chF_zero]; exact hf, hg⟩
    obtain ⟨n, hn⟩ : ∃ n, n = a.length := ⟨_, rfl⟩
    by_cases hs : setOk s = true
    · obtain ⟨h0, h1⟩ := setOk_bd hs
      have HD : Hid (chosenI a b s = chosenUp a b s 8 n) := by simp [Hid, chosenI, hok, hs, hn]
      rw [← hn] at c1 h8 ⊢
      clear hf hg o1 o2 o3 hok hn
      go_enter Try.func68, Try.ntmps68
      go_wp2_with fail
      refine c1.mono ?_
      rintro e w1 ⟨rfl, b1⟩
      clear c1
      go_wp2_with (refine wpList_put8 rfl _ _ rfl w1.heap.size f rfl rfl (fun _ => 0) (two_rows w1).1 ?_)
      intro w2 r2 g2
      have b2 : Below w.heap.size w w2 := below_two b1 b1.size _ _ g2 b1.size
      have q2 : Row w2 (w1.heap.size + 1) (fun _ => 0) := (two_rows w1).2.kept g2 (by simp)
      obtain ⟨G5, hG5⟩ : ∃ G, G = w1.heap.size := ⟨_, rfl⟩
      have HG : Hid (w.heap.size ≤ G5) := by rw [hG5]; exact b1.size
      rw [← hG5] at r2 q2
      rw [← hG5]
      clear hG5 g2 b1
      go_wp2_with (refine wpList_put8 rfl _ _ rfl (G5 + 1) g rfl rfl (fun _ => 0) q2 ?_)
      intro w3 q3 g3
      have HR3 : Hid (CRel a b s w w3 G5 (G5 + 1) 0) := by
        refine ⟨?_, ?_, b2.grown g3 b2.size (fun k e => by cases e; have := HG.out; omega)⟩
        · have := r2.kept g3 (by simp)
          rwa [HF.out.1] at this
        · rwa [HF.out.2] at q3
      clear b2 q2 r2 q3 g3
      go_wp2_with (go_at_call 67; refine (bsok_any s _).mono ?_; rw [hs]; rintro e w' ⟨rfl, hw⟩; subst w')
      clear hs
      go_loopw [28] (fun i wr => ∃ j : Nat, j ≤ 8 ∧ i = .int .i64 j ∧ Hid (CRel a b s w wr G5 (G5 + 1) j)) (fun i _ => 8 - (intOf i).toNat)
      case atStart => exact ⟨0, Nat.zero_le _, rfl, HR3⟩
      case round =>
        clear HR3
        obtain ⟨j, hj, rfl, HR⟩ := hrel
        by_cases hlt : (j : Int) < 8
        · have k2 := HR.out.2.1.cell j (by omega)
          have k1 := HR.out.1.cell j (by omega)
          have k3 := HR.out.1.frozen j
          obtain ⟨x, hx⟩ : ∃ x, x = chF a b s j j := ⟨_, rfl⟩
          obtain ⟨y, hy⟩ : ∃ y, y = b.getD j 0 := ⟨_, rfl⟩
          rw [← hx] at k1
          rw [← hy] at k2
          by_cases hin : inB s j = true
          · have HN : Hid (CRel a b s w (wr.setCell ⟨G5, j, none⟩ (.int .i64 y)) G5 (G5 + 1) (j + 1)) := by
              obtain ⟨e1, e2, e3⟩ := HR.out
              refine ⟨?_, e2.other _ _ (by simp), e3.setCell HG.out _⟩
              have := e1.setCell j (by omega) y
              rwa [hy, chF_yes hin, ← hy] at this
            clear hx hy HR
            go_wp2_with (go_at_call 96; refine (bshas_any s j _ h0 h1 (by omega) hlt).mono ?_; rw [hin]; rintro e w' ⟨rfl, hw⟩; subst w')
            go_roundw
            case rel => exact ⟨j + 1, by omega, by go_num, HN⟩
            case measure => simp [intOf]; omega
          · have hin' : inB s j = false := by simpa using hin
            have HN : Hid (CRel a b s w wr G5 (G5 + 1) (j + 1)) := by
              obtain ⟨e1, e2, e3⟩ := HR.out
              rw [chF_no hin'] at e1
              exact ⟨e1, e2, e3⟩
            clear hx hy HR hin
            go_wp2_with (go_at_call 96; refine (bshas_any s j _ h0 h1 (by omega) hlt).mono ?_; rw [hin']; rintro e w' ⟨rfl, hw⟩; subst w')
            go_roundw
            case rel => exact ⟨j + 1, by omega, by go_num, HN⟩
            case measure => simp [intOf]; omega
        · have hj8 : j = 8 := by omega
          subst hj8
          have rF := HR.out.1
          have HB : Hid (Below w.heap.size w wr) := HR.out.2.2
          clear HR
          obtain ⟨F, hF⟩ : ∃ F, F = chF a b s 8 := ⟨_, rfl⟩
          rw [← hF] at rF
          have HL : Hid (listF F n = chosenI a b s) := by rw [hF]; exact HD.out.symm
          clear hF
          go_wp2_with (first
            | (refine wpList_get8 rfl _ rfl G5 rfl _ rF ?_)
            | (go_at_call 97; refine (list_any F n _ h8).mono ?_; rw [HL.out]; rintro e w4 ⟨u, rfl, o4, b4⟩; have HU : Hid (Own w4 w.heap.size u (chosenI a b s) ∧ Below w.heap.size w w4) := ⟨o4.mono HB.out.size, HB.out.trans (b4.mono HB.out.size)⟩; clear o4 b4))
          go_ret
          exact ⟨_, rfl, HU.out⟩
    · have hs' : setOk s = false := by simpa using hs
      have HD : Hid (chosenI a b s = []) := by simp [Hid, chosenI, hs']
      rw [← hn] at c1 ⊢
      clear hf hg o1 o2 o3 hok hn hs
      go_enter Try.func68, Try.ntmps68
      go_wp2_with fail
      refine c1.mono ?_
      rintro e w1 ⟨rfl, b1⟩
      clear c1
      go_wp2_with (refine wpList_put8 rfl _ _ rfl w1.heap.size f rfl rfl (fun _ => 0) (two_rows w1).1 ?_)
      intro w2 r2 g2
      have b2 : Below w.heap.size w w2 := below_two b1 b1.size _ _ g2 b1.size
      have q2 : Row w2 (w1.heap.size + 1) (fun _ => 0) := (two_rows w1).2.kept g2 (by simp)
      obtain ⟨G5, hG5⟩ : ∃ G, G = w1.heap.size := ⟨_, rfl⟩
      have HG : Hid (w.heap.size ≤ G5) := by rw [hG5]; exact b1.size
      rw [← hG5] at r2 q2
      rw [← hG5]
      clear hG5 g2 b1
      go_wp2_with (refine wpList_put8 rfl _ _ rfl (G5 + 1) g rfl rfl (fun _ => 0) q2 ?_)
      intro w3 q3 g3
      have b3 : Hid (Below w.heap.size w w3) := b2.grown g3 b2.size (fun k e => by cases e; have := HG.out; omega)
      clear b2 q2 r2 q3 g3
      go_wp2_with (go_at_call 67; refine (bsok_any s _).mono ?_; rw [hs']; rintro e w' ⟨rfl, hw⟩; subst w')
      go_ret
      rw [HD.out]
      exact ⟨_, rfl, (ownEmpty w3).mono b3.out.size, b3.out.trans ((belowNew w3 _).mono b3.out.size)⟩
  · have hok' : bothOk a b = false := by simpa using hok
    have HD : Hid (chosenI a b s = []) := by simp [Hid, chosenI, hok']
    obtain ⟨f, hf⟩ : ∃ f, f = rowF a := ⟨_, rfl⟩
    obtain ⟨g, hg⟩ : ∃ g, g = rowF b := ⟨_, rfl⟩
    rw [hok', ← hf, ← hg] at c1
    clear hok hok' hf hg
    go_enter Try.func68, Try.ntmps68
    go_wp2_with fail
    refine c1.mono ?_
    rintro e w1 ⟨rfl, b1⟩
    clear c1
    go_wp2_with (refine wpList_put8 rfl _ _ rfl w1.heap.size f rfl rfl (fun _ => 0) (two_rows w1).1 ?_)
    intro w2 r2 g2
    have b2 : Below w.heap.size w w2 := below_two b1 b1.size _ _ g2 b1.size
    have q2 : Row w2 (w1.heap.size + 1) (fun _ => 0) := (two_rows w1).2.kept g2 (by simp)
    obtain ⟨G5, hG5⟩ : ∃ G, G = w1.heap.size := ⟨_, rfl⟩
    have HG : Hid (w.heap.size ≤ G5) := by rw [hG5]; exact b1.size
    rw [← hG5] at r2 q2
    rw [← hG5]
    clear hG5 g2 b1
    go_wp2_with (refine wpList_put8 rfl _ _ rfl (G5 + 1) g rfl rfl (fun _ => 0) q2 ?_)
    intro w3 q3 g3
    have b3 : Hid (Below w.heap.size w w3) := b2.grown g3 b2.size (fun k e => by cases e; have := HG.out; omega)
    clear b2 q2 r2 q3 g3
    go_wp2
    go_ret
    rw [HD.out]
    exact ⟨_, rfl, (ownEmpty w3).mono b3.out.size, b3.out.trans ((belowNew w3 _).mono b3.out.size)⟩
end Go.Proofs.Ytpdggofaobmnlaa
