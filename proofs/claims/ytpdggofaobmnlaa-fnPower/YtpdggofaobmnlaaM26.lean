/- Arrays of eight numbers compared; the set's own methods. -/
import Derived.Test.YtpdggofaobmnlaaIRows
import Derived.Laws.StructEq
namespace Go.Proofs.Ytpdggofaobmnlaa
open Go.ChangeShapes Go.WideShapes Go.ChangeAt Go.RowKit

def same8 (f g : Nat → Int) : Bool := (f 0 == g 0) && ((f 1 == g 1) && ((f 2 == g 2) && ((f 3 == g 3) && ((f 4 == g 4) && ((f 5 == g 5) && ((f 6 == g 6) && (f 7 == g 7)))))))
theorem same8_all {f g : Nat → Int} (h : same8 f g = true) : ∀ j, j < 8 → f j = g j := by
  simp [same8] at h
  obtain ⟨h0, h1, h2, h3, h4, h5, h6, h7⟩ := h
  exact eight h0 h1 h2 h3 h4 h5 h6 h7
theorem same8_of {f g : Nat → Int} (h : ∀ j, j < 8 → f j = g j) : same8 f g = true := by
  simp [same8, h 0, h 1, h 2, h 3, h 4, h 5, h 6, h 7]

theorem run_eq8 (f g : Nat → Int) (w : World) : (Op.equalIn 10000 86 (.agg (rowA f)) (.agg (rowA g))).run Try.prog w = .ok (same8 f g) w := by
  obtain ⟨i0, hi, hz0, hz1, hz2⟩ := info_parts Try.infoI
  have hz : Try.prog.cellsOf 2 = 1 := by kernel_rfl
  have hu : Try.prog.underlying 2 = some (.int .i64) := by kernel_rfl
  rw [show (10000 : Nat) = 9998 + 1 + 1 from rfl, run_equalIn_array (i := i0) w (9998 + 1) _ _ Try.under8 hi, hz]
  simp [List.range, List.range.loop, Op.eqItems, part, Sem.run_bind, sizeOf, typeInfo, hi, hz1, hu, rowA, run_equalIn_int, same8]
  (repeat' split) <;> simp_all

set_option maxRecDepth 20000 in
set_option maxHeartbeats 400000 in
theorem bsok_any (s : Int) (w : World) :
    Calls Try.prog 67 #[.int .i64 s] w fun e w' => e = .returned (.bool (setOk s)) ∧ w' = w := by
  by_cases h0 : 0 ≤ s
  · by_cases h1 : s < 256
    · rw [setOk_pos h0 (by omega)]
      go_enter Try.func67, Try.ntmps67
      go_wp2
      go_ret
      exact ⟨ret_bool (by simp), rfl⟩
    · rw [setOk_neg (by omega)]
      go_enter Try.func67, Try.ntmps67
      go_wp2
      go_ret
      exact ⟨ret_bool (by simp), rfl⟩
  · rw [setOk_neg (by omega)]
    go_enter Try.func67, Try.ntmps67
    go_wp2
    go_ret
    exact ⟨ret_bool (by simp), rfl⟩

set_option maxRecDepth 20000 in
set_option maxHeartbeats 400000 in
theorem bshas_any (s i : Int) (w : World) (h0 : 0 ≤ s) (h1 : s < 256) (h2 : 0 ≤ i) (h3 : i < 8) :
    Calls Try.prog 96 #[.int .i64 s, .int .i64 i] w fun e w' => e = .returned (.bool (inB s i)) ∧ w' = w := by
  go_enter Try.func96, Try.ntmps96
  go_wp2
  go_ret
  exact ⟨ret_bool (and_in h0 h1 h2 h3), rfl⟩

def mixF (a b : List Int) (j : Nat) : Nat → Int := fun k => if k < j then b.getD k 0 else a.getD k 0
theorem mixF_zero (a b : List Int) : mixF a b 0 = fun k => a.getD k 0 := by funext k; simp [mixF]
theorem mixF_step (a b : List Int) (j : Nat) : upd (mixF a b j) j (b.getD j 0) = mixF a b (j + 1) := by
  funext k
  unfold upd mixF
  by_cases e : k = j
  · subst e; simp
  · have : k < j + 1 ↔ k < j := by omega
    simp [e, this]
theorem mixF_skip (a b : List Int) (j : Nat) (h : a.getD j 0 = b.getD j 0) : mixF a b j = mixF a b (j + 1) := by
  funext k
  unfold mixF
  by_cases e : k = j
  · subst e; rw [if_neg (by omega), if_pos (by omega), h]
  · have : k < j + 1 ↔ k < j := by omega
    simp [this]
theorem mixF_at (a b : List Int) (j : Nat) : mixF a b j j = a.getD j 0 := by simp [mixF]
theorem mixF_lt {a b : List Int} {j : Nat} (h : same8 (mixF a b j) (fun k => b.getD k 0) = false) : j < 8 := by
  rcases Nat.lt_or_ge j 8 with h8 | h8
  · exact h8
  · rw [same8_of (fun k hk => by rw [mixF, if_pos (by omega)])] at h; cases h
theorem mixF_done {a b : List Int} {j : Nat} (ha : a.length ≤ 8) (hb : b.length ≤ 8) (hj : j ≤ 8) (h : same8 (mixF a b j) (fun k => b.getD k 0) = true) : differUp a b j = differUp a b 8 := by
  have h1 := same8_all h
  have := differUp_more a b j (fun k hk => by
    rcases Nat.lt_or_ge k 8 with h8 | h8
    · have := h1 k h8
      rwa [mixF, if_neg (by omega)] at this
    · rw [getD_past a k (by omega), getD_past b k (by omega)]) (8 - j)
  rw [← this]; congr 1; omega

def DRel (a b : List Int) (w wr : World) (G5 G6 j : Nat) : Prop := Row wr G5 (mixF a b j) ∧ Row wr G6 (fun k => b.getD k 0) ∧ Below w.heap.size w wr

theorem below_new8 {B : Nat} {w0 w w' : World} {g : Nat} (h : Below B w0 w) (hB : B ≤ w.heap.size) (o : Obj) (hg : (w.alloc o).grownBy w' (some g)) (hBg : B ≤ g) : Below B w0 w' :=
  (h.alloc hB o).grown hg (by simp; omega) (fun k e => by cases e; exact hBg)

/- Two new arrays, one behind the other, as the walk lays them. -/
theorem two_rows (w : World) : Row ((w.alloc (.cells (rowA fun _ => 0) 86)).alloc (.cells (rowA fun _ => 0) 86)) w.heap.size (fun _ => 0) ∧
    Row ((w.alloc (.cells (rowA fun _ => 0) 86)).alloc (.cells (rowA fun _ => 0) 86)) (w.heap.size + 1) (fun _ => 0) := by
  refine ⟨(Row.new w _).alloc _, ?_⟩
  have := Row.new (w.alloc (.cells (rowA fun _ => 0) 86)) (fun _ => 0)
  simpa using this
theorem below_two {B : Nat} {w0 w w' : World} {g : Nat} (h : Below B w0 w) (hB : B ≤ w.heap.size) (o o' : Obj) (hg : ((w.alloc o).alloc o').grownBy w' (some g)) (hBg : B ≤ g) : Below B w0 w' :=
  ((h.alloc hB o).alloc (by simp; omega) o').grown hg (by simp; omega) (fun k e => by cases e; exact hBg)
end Go.Proofs.Ytpdggofaobmnlaa
/- Differ of the program answers what plain lists say. -/
namespace Go.Proofs.Ytpdggofaobmnlaa
open Go.ChangeShapes Go.WideShapes Go.ChangeAt Go.RowKit
end Go.Proofs.Ytpdggofaobmnlaa
/- Chosen of the program answers what plain lists say, in new memory. -/
namespace Go.Proofs.Ytpdggofaobmnlaa
open Go.ChangeShapes Go.WideShapes Go.ChangeAt Go.RowKit

def chF (a b : List Int) (s : Int) (j : Nat) : Nat → Int := fun k => if k < j ∧ inB s k = true then b.getD k 0 else a.getD k 0
theorem chF_zero (a b : List Int) (s : Int) : chF a b s 0 = fun k => a.getD k 0 := by funext k; simp [chF]
theorem chF_yes {a b : List Int} {s : Int} {j : Nat} (h : inB s j = true) : upd (chF a b s j) j (b.getD j 0) = chF a b s (j + 1) := by
  funext k
  unfold upd chF
  by_cases e : k = j
  · subst e; simp [h]
  · have : k < j + 1 ↔ k < j := by omega
    simp [e, this]
theorem chF_no {a b : List Int} {s : Int} {j : Nat} (h : inB s j = false) : chF a b s j = chF a b s (j + 1) := by
  funext k
  unfold chF
  by_cases e : k = j
  · subst e; simp [h]
  · have : k < j + 1 ↔ k < j := by omega
    simp [this]
theorem chF_list (a b : List Int) (s : Int) (n : Nat) : listF (chF a b s 8) n = chosenUp a b s 8 n := rfl

def CRel (a b : List Int) (s : Int) (w wr : World) (G5 G6 j : Nat) : Prop := Row wr G5 (chF a b s j) ∧ Row wr G6 (fun k => b.getD k 0) ∧ Below w.heap.size w wr

set_option maxRecDepth 20000 in
set_option maxHeartbeats 2000000 in
theorem chosen_any (va vb : Value) (a b : List Int) (s : Int) (w : World) (ha : Reads w va a) (hb : Reads w vb b) (ga : a.length ≤ 1099511627776) (gb : b.length ≤ 1099511627776) :
    Calls Try.prog 68 #[va, vb, .int .i64 s] w fun e w' => ∃ u, e = .returned u ∧ Own w' w.heap.size u (chosenI a b s) ∧ Below w.heap.size w w' := by
  have c1 := rowsOf_any va vb a b w ha hb ga gb
  obtain ⟨ao, ca, rfl⟩ := ha.form
  clear ha hb ga gb
  by_cases hok : bothOk a b = true
  · obtain ⟨o1, o2, o3⟩ := bothOk_yes hok
    have h8 := (blocksOk_len o1).2
    rw [hok, rowF_yes o1, rowF_yes o2] at c1
    obtain ⟨f, hf⟩ : ∃ f : Nat → Int, f = fun k => a.getD k 0 := ⟨_, rfl⟩
    obtain ⟨g, hg⟩ : ∃ g : Nat → Int, g = fun k => b.getD k 0 := ⟨_, rfl⟩
    rw [← hf, ← hg] at c1
    have HF : Hid (f = chF a b s 0 ∧ g = fun k => b.getD k 0) := ⟨by rw [chF_zero]; exact hf, hg⟩
    obtain ⟨n, hn⟩ : ∃ n, n = a.length := ⟨_, rfl⟩
    by_cases hs : setOk s = true
    · obtain ⟨h0, h1⟩ := setOk_bd hs
      have HD : Hid (chosenI a b s = chosenUp a b s 8 n) := by simp [Hid, chosenI, hok, hs, hn]
      rw [← hn] at c1 h8 ⊢
      clear hf hg o1 o2 o3 hok hn
      go_enter Try.func68, Try.ntmps68
      go_wp2_with fail
      refine c1.mono ?_
      rintro e w1 ⟨rfl, b1⟩
      clear c1
      go_wp2_with (refine wpList_put8 rfl _ _ rfl w1.heap.size f rfl rfl (fun _ => 0) (two_rows w1).1 ?_)
      intro w2 r2 g2
      have b2 : Below w.heap.size w w2 := below_two b1 b1.size _ _ g2 b1.size
      have q2 : Row w2 (w1.heap.size + 1) (fun _ => 0) := (two_rows w1).2.kept g2 (by simp)
      obtain ⟨G5, hG5⟩ : ∃ G, G = w1.heap.size := ⟨_, rfl⟩
      have HG : Hid (w.heap.size ≤ G5) := by rw [hG5]; exact b1.size
      rw [← hG5] at r2 q2
      rw [← hG5]
      clear hG5 g2 b1
      go_wp2_with (refine wpList_put8 rfl _ _ rfl (G5 + 1) g rfl rfl (fun _ => 0) q2 ?_)
      intro w3 q3 g3
      have HR3 : Hid (CRel a b s w w3 G5 (G5 + 1) 0) := by
        refine ⟨?_, ?_, b2.grown g3 b2.size (fun k e => by cases e; have := HG.out; omega)⟩
        · have := r2.kept g3 (by simp)
          rwa [HF.out.1] at this
        · rwa [HF.out.2] at q3
      clear b2 q2 r2 q3 g3
      go_wp2_with (go_at_call 67; refine (bsok_any s _).mono ?_; rw [hs]; rintro e w' ⟨rfl, hw⟩; subst w')
      clear hs
      go_loopw [28] (fun i wr => ∃ j : Nat, j ≤ 8 ∧ i = .int .i64 j ∧ Hid (CRel a b s w wr G5 (G5 + 1) j)) (fun i _ => 8 - (intOf i).toNat)
      case atStart => exact ⟨0, Nat.zero_le _, rfl, HR3⟩
      case round =>
        clear HR3
        obtain ⟨j, hj, rfl, HR⟩ := hrel
        by_cases hlt : (j : Int) < 8
        · have k2 := HR.out.2.1.cell j (by omega)
          have k1 := HR.out.1.cell j (by omega)
          have k3 := HR.out.1.frozen j
          obtain ⟨x, hx⟩ : ∃ x, x = chF a b s j j := ⟨_, rfl⟩
          obtain ⟨y, hy⟩ : ∃ y, y = b.getD j 0 := ⟨_, rfl⟩
          rw [← hx] at k1
          rw [← hy] at k2
          by_cases hin : inB s j = true
          · have HN : Hid (CRel a b s w (wr.setCell ⟨G5, j, none⟩ (.int .i64 y)) G5 (G5 + 1) (j + 1)) := by
              obtain ⟨e1, e2, e3⟩ := HR.out
              refine ⟨?_, e2.other _ _ (by simp), e3.setCell HG.out _⟩
              have := e1.setCell j (by omega) y
              rwa [hy, chF_yes hin, ← hy] at this
            clear hx hy HR
            go_wp2_with (go_at_call 96; refine (bshas_any s j _ h0 h1 (by omega) hlt).mono ?_; rw [hin]; rintro e w' ⟨rfl, hw⟩; subst w')
            go_roundw
            case rel => exact ⟨j + 1, by omega, by go_num, HN⟩
            case measure => simp [intOf]; omega
          · have hin' : inB s j = false := by simpa using hin
            have HN : Hid (CRel a b s w wr G5 (G5 + 1) (j + 1)) := by
              obtain ⟨e1, e2, e3⟩ := HR.out
              rw [chF_no hin'] at e1
              exact ⟨e1, e2, e3⟩
            clear hx hy HR hin
            go_wp2_with (go_at_call 96; refine (bshas_any s j _ h0 h1 (by omega) hlt).mono ?_; rw [hin']; rintro e w' ⟨rfl, hw⟩; subst w')
            go_roundw
            case rel => exact ⟨j + 1, by omega, by go_num, HN⟩
            case measure => simp [intOf]; omega
        · have hj8 : j = 8 := by omega
          subst hj8
          have rF := HR.out.1
          have HB : Hid (Below w.heap.size w wr) := HR.out.2.2
          clear HR
          obtain ⟨F, hF⟩ : ∃ F, F = chF a b s 8 := ⟨_, rfl⟩
          rw [← hF] at rF
          have HL : Hid (listF F n = chosenI a b s) := by rw [hF]; exact HD.out.symm
          clear hF
          go_wp2_with (first
            | (refine wpList_get8 rfl _ rfl G5 rfl _ rF ?_)
            | (go_at_call 97; refine (list_any F n _ h8).mono ?_; rw [HL.out]; rintro e w4 ⟨u, rfl, o4, b4⟩; have HU : Hid (Own w4 w.heap.size u (chosenI a b s) ∧ Below w.heap.size w w4) := ⟨o4.mono HB.out.size, HB.out.trans (b4.mono HB.out.size)⟩; clear o4 b4))
          go_ret
          exact ⟨_, rfl, HU.out⟩
    · have hs' : setOk s = false := by simpa using hs
      have HD : Hid (chosenI a b s = []) := by simp [Hid, chosenI, hs']
      rw [← hn] at c1 ⊢
      clear hf hg o1 o2 o3 hok hn hs
      go_enter Try.func68, Try.ntmps68
      go_wp2_with fail
      refine c1.mono ?_
      rintro e w1 ⟨rfl, b1⟩
      clear c1
      go_wp2_with (refine wpList_put8 rfl _ _ rfl w1.heap.size f rfl rfl (fun _ => 0) (two_rows w1).1 ?_)
      intro w2 r2 g2
      have b2 : Below w.heap.size w w2 := below_two b1 b1.size _ _ g2 b1.size
      have q2 : Row w2 (w1.heap.size + 1) (fun _ => 0) := (two_rows w1).2.kept g2 (by simp)
      obtain ⟨G5, hG5⟩ : ∃ G, G = w1.heap.size := ⟨_, rfl⟩
      have HG : Hid (w.heap.size ≤ G5) := by rw [hG5]; exact b1.size
      rw [← hG5] at r2 q2
      rw [← hG5]
      clear hG5 g2 b1
      go_wp2_with (refine wpList_put8 rfl _ _ rfl (G5 + 1) g rfl rfl (fun _ => 0) q2 ?_)
      intro w3 q3 g3
      have b3 : Hid (Below w.heap.size w w3) := b2.grown g3 b2.size (fun k e => by cases e; have := HG.out; omega)
      clear b2 q2 r2 q3 g3
      go_wp2_with (go_at_call 67; refine (bsok_any s _).mono ?_; rw [hs']; rintro e w' ⟨rfl, hw⟩; subst w')
      go_ret
      rw [HD.out]
      exact ⟨_, rfl, (ownEmpty w3).mono b3.out.size, b3.out.trans ((belowNew w3 _).mono b3.out.size)⟩
  · have hok' : bothOk a b = false := by simpa using hok
    have HD : Hid (chosenI a b s = []) := by simp [Hid, chosenI, hok']
    obtain ⟨f, hf⟩ : ∃ f, f = rowF a := ⟨_, rfl⟩
    obtain ⟨g, hg⟩ : ∃ g, g = rowF b := ⟨_, rfl⟩
    rw [hok', ← hf, ← hg] at c1
    clear hok hok' hf hg
    go_enter Try.func68, Try.ntmps68
    go_wp2_with fail
    refine c1.mono ?_
    rintro e w1 ⟨rfl, b1⟩
    clear c1
    go_wp2_with (refine wpList_put8 rfl _ _ rfl w1.heap.size f rfl rfl (fun _ => 0) (two_rows w1).1 ?_)
    intro w2 r2 g2
    have b2 : Below w.heap.size w w2 := below_two b1 b1.size _ _ g2 b1.size
    have q2 : Row w2 (w1.heap.size + 1) (fun _ => 0) := (two_rows w1).2.kept g2 (by simp)
    obtain ⟨G5, hG5⟩ : ∃ G, G = w1.heap.size := ⟨_, rfl⟩
    have HG : Hid (w.heap.size ≤ G5) := by rw [hG5]; exact b1.size
    rw [← hG5] at r2 q2
    rw [← hG5]
    clear hG5 g2 b1
    go_wp2_with (refine wpList_put8 rfl _ _ rfl (G5 + 1) g rfl rfl (fun _ => 0) q2 ?_)
    intro w3 q3 g3
    have b3 : Hid (Below w.heap.size w w3) := b2.grown g3 b2.size (fun k e => by cases e; have := HG.out; omega)
    clear b2 q2 r2 q3 g3
    go_wp2
    go_ret
    rw [HD.out]
    exact ⟨_, rfl, (ownEmpty w3).mono b3.out.size, b3.out.trans ((belowNew w3 _).mono b3.out.size)⟩
end Go.Proofs.Ytpdggofaobmnlaa
