/- Arrays of eight numbers compared; the set's own methods. -/
import Derived.Test.YteooloceaoinlaaGreatDoorM24
import Derived.Laws.StructEq
import Derived.Test.YteooloceaoinlaaGreatDoorM8
import Derived.ArgAppend
import Derived.Laws.CopyOwn
import Derived.Test.YteooloceaoinlaaGreatDoorM4
import Derived.Test.YteooloceaoinlaaGreatDoorM6
namespace Go.Proofs.YteooloceaoinlaaGreatDoor
open Go.ChangeShapes Go.WideShapes Go.ChangeAt Go.RowKit

def same8 (f g : Nat → Int) : Bool := (f 0 == g 0) && ((f 1 == g 1) && ((f 2 == g 2) && ((f 3 == g 3) && ((f 4 == g 4) && ((f 5 == g 5) && ((f 6 == g 6) && (f 7 == g 7)))))))
theorem same8_all {f g : Nat → Int} (h : same8 f g = true) : ∀ j, j < 8 → f j = g j := by
  simp [same8] at h
  obtain ⟨h0, h1, h2, h3, h4, h5, h6, h7⟩ := h
  exact eight h0 h1 h2 h3 h4 h5 h6 h7
theorem same8_of {f g : Nat → Int} (h : ∀ j, j < 8 → f j = g j) : same8 f g = true := by
  simp [same8, h 0, h 1, h 2, h 3, h 4, h 5, h 6, h 7]

theorem run_eq8 (f g : Nat → Int) (w : World) : (Op.equalIn 10000 119 (.agg (rowA f)) (.agg (rowA g))).run Tryz.prog w = .ok (same8 f g) w := by
  obtain ⟨i0, hi, hz0, hz1, hz2⟩ := info_parts Tryz.infoI
  have hz : Tryz.prog.cellsOf 2 = 1 := by kernel_rfl
  have hu : Tryz.prog.underlying 2 = some (.int .i64) := by kernel_rfl
  rw [show (10000 : Nat) = 9998 + 1 + 1 from rfl, run_equalIn_array (i := i0) w (9998 + 1) _ _ Tryz.under8 hi, hz]
  simp [List.range, List.range.loop, Op.eqItems, part, Sem.run_bind, sizeOf, typeInfo, hi, hz1, hu, rowA, run_equalIn_int, same8]
  (repeat' split) <;> simp_all

set_option maxRecDepth 20000 in
set_option maxHeartbeats 400000 in
theorem bsok_any (s : Int) (w : World) :
    Calls Tryz.prog 47 #[.int .i64 s] w fun e w' => e = .returned (.bool (setOk s)) ∧ w' = w := by
  by_cases h0 : 0 ≤ s
  · by_cases h1 : s < 256
    · rw [setOk_pos h0 (by omega)]
      go_enter Tryz.func47, Tryz.ntmps47
      go_wp2
      go_ret
      exact ⟨ret_bool (by simp), rfl⟩
    · rw [setOk_neg (by omega)]
      go_enter Tryz.func47, Tryz.ntmps47
      go_wp2
      go_ret
      exact ⟨ret_bool (by simp), rfl⟩
  · rw [setOk_neg (by omega)]
    go_enter Tryz.func47, Tryz.ntmps47
    go_wp2
    go_ret
    exact ⟨ret_bool (by simp), rfl⟩

set_option maxRecDepth 20000 in
set_option maxHeartbeats 400000 in
theorem bshas_any (s i : Int) (w : World) (h0 : 0 ≤ s) (h1 : s < 256) (h2 : 0 ≤ i) (h3 : i < 8) :
    Calls Tryz.prog 127 #[.int .i64 s, .int .i64 i] w fun e w' => e = .returned (.bool (inB s i)) ∧ w' = w := by
  go_enter Tryz.func127, Tryz.ntmps127
  go_wp2
  go_ret
  exact ⟨ret_bool (and_in h0 h1 h2 h3), rfl⟩

def mixF (a b : List Int) (j : Nat) : Nat → Int := fun k => if k < j then b.getD k 0 else a.getD k 0
theorem mixF_zero (a b : List Int) : mixF a b 0 = fun k => a.getD k 0 := by funext k; simp [mixF]
theorem mixF_step (a b : List Int) (j : Nat) : upd (mixF a b j) j (b.getD j 0) = mixF a b (j + 1) := by
  funext k
  unfold upd mixF
  by_cases e : k = j
  · subst e; simp
  · have : k < j + 1 ↔ k < j := by omega
    simp [e, this]
theorem mixF_skip (a b : List Int) (j : Nat) (h : a.getD j 0 = b.getD j 0) : mixF a b j = mixF a b (j + 1) := by
  funext k
  unfold mixF
  by_cases e : k = j
  · subst e; rw [if_neg (by omega), if_pos (by omega), h]
  · have : k < j + 1 ↔ k < j := by omega
    simp [this]
theorem mixF_at (a b : List Int) (j : Nat) : mixF a b j j = a.getD j 0 := by simp [mixF]
theorem mixF_lt {a b : List Int} {j : Nat} (h : same8 (mixF a b j) (fun k => b.getD k 0) = false) : j < 8 := by
  rcases Nat.lt_or_ge j 8 with h8 | h8
  · exact h8
  · rw [same8_of (fun k hk => by rw [mixF, if_pos (by omega)])] at h; cases h
theorem mixF_done {a b : List Int} {j : Nat} (ha : a.length ≤ 8) (hb : b.length ≤ 8) (hj : j ≤ 8) (h : same8 (mixF a b j) (fun k => b.getD k 0) = true) : differUp a b j = differUp a b 8 := by
  have h1 := same8_all h
  have := differUp_more a b j (fun k hk => by
    rcases Nat.lt_or_ge k 8 with h8 | h8
    · have := h1 k h8
      rwa [mixF, if_neg (by omega)] at this
    · rw [getD_past a k (by omega), getD_past b k (by omega)]) (8 - j)
  rw [← this]; congr 1; omega

def DRel (a b : List Int) (w wr : World) (G5 G6 j : Nat) : Prop := Row wr G5 (mixF a b j) ∧ Row wr G6 (fun k => b.getD k 0) ∧ Below w.heap.size w wr

theorem below_new8 {B : Nat} {w0 w w' : World} {g : Nat} (h : Below B w0 w) (hB : B ≤ w.heap.size) (o : Obj) (hg : (w.alloc o).grownBy w' (some g)) (hBg : B ≤ g) : Below B w0 w' :=
  (h.alloc hB o).grown hg (by simp; omega) (fun k e => by cases e; exact hBg)

/- Two new arrays, one behind the other, as the walk lays them. -/
theorem two_rows (w : World) : Row ((w.alloc (.cells (rowA fun _ => 0) 119)).alloc (.cells (rowA fun _ => 0) 119)) w.heap.size (fun _ => 0) ∧
    Row ((w.alloc (.cells (rowA fun _ => 0) 119)).alloc (.cells (rowA fun _ => 0) 119)) (w.heap.size + 1) (fun _ => 0) := by
  refine ⟨(Row.new w _).alloc _, ?_⟩
  have := Row.new (w.alloc (.cells (rowA fun _ => 0) 119)) (fun _ => 0)
  simpa using this
theorem below_two {B : Nat} {w0 w w' : World} {g : Nat} (h : Below B w0 w) (hB : B ≤ w.heap.size) (o o' : Obj) (hg : ((w.alloc o).alloc o').grownBy w' (some g)) (hBg : B ≤ g) : Below B w0 w' :=
  ((h.alloc hB o).alloc (by simp; omega) o').grown hg (by simp; omega) (fun k e => by cases e; exact hBg)
end Go.Proofs.YteooloceaoinlaaGreatDoor
/- Differ of the program answers what plain lists say. -/
namespace Go.Proofs.YteooloceaoinlaaGreatDoor
open Go.ChangeShapes Go.WideShapes Go.ChangeAt Go.RowKit
end Go.Proofs.YteooloceaoinlaaGreatDoor
/- Chosen of the program answers what plain lists say, in new memory. -/
namespace Go.Proofs.YteooloceaoinlaaGreatDoor
open Go.ChangeShapes Go.WideShapes Go.ChangeAt Go.RowKit

def chF (a b : List Int) (s : Int) (j : Nat) : Nat → Int := fun k => if k < j ∧ inB s k = true then b.getD k 0 else a.getD k 0
theorem chF_zero (a b : List Int) (s : Int) : chF a b s 0 = fun k => a.getD k 0 := by funext k; simp [chF]
theorem chF_yes {a b : List Int} {s : Int} {j : Nat} (h : inB s j = true) : upd (chF a b s j) j (b.getD j 0) = chF a b s (j + 1) := by
  funext k
  unfold upd chF
  by_cases e : k = j
  · subst e; simp [h]
  · have : k < j + 1 ↔ k < j := by omega
    simp [e, this]
theorem chF_no {a b : List Int} {s : Int} {j : Nat} (h : inB s j = false) : chF a b s j = chF a b s (j + 1) := by
  funext k
  unfold chF
  by_cases e : k = j
  · subst e; simp [h]
  · have : k < j + 1 ↔ k < j := by omega
    simp [this]
theorem chF_list (a b : List Int) (s : Int) (n : Nat) : listF (chF a b s 8) n = chosenUp a b s 8 n := rfl

def CRel (a b : List Int) (s : Int) (w wr : World) (G5 G6 j : Nat) : Prop := Row wr G5 (chF a b s j) ∧ Row wr G6 (fun k => b.getD k 0) ∧ Below w.heap.size w wr

set_option maxRecDepth 20000 in
set_option maxHeartbeats 2000000 in
theorem chosen_any (va vb : Value) (a b : List Int) (s : Int) (w : World) (ha : Reads w va a) (hb : Reads w vb b) (ga : a.length ≤ 1099511627776) (gb : b.length ≤ 1099511627776) :
    Calls Tryz.prog 112 #[va, vb, .int .i64 s] w fun e w' => ∃ u, e = .returned u ∧ Own w' w.heap.size u (chosenI a b s) ∧ Below w.heap.size w w' := by
  have c1 := rowsOf_any va vb a b w ha hb ga gb
  obtain ⟨ao, ca, rfl⟩ := ha.form
  clear ha hb ga gb
  by_cases hok : bothOk a b = true
  · obtain ⟨o1, o2, o3⟩ := bothOk_yes hok
    have h8 := (blocksOk_len o1).2
    rw [hok, rowF_yes o1, rowF_yes o2] at c1
    obtain ⟨f, hf⟩ : ∃ f : Nat → Int, f = fun k => a.getD k 0 := ⟨_, rfl⟩
    obtain ⟨g, hg⟩ : ∃ g : Nat → Int, g = fun k => b.getD k 0 := ⟨_, rfl⟩
    rw [← hf, ← hg] at c1
    have HF : Hid (f = chF a b s 0 ∧ g = fun k => b.getD k 0) := ⟨by rw [chF_zero]; exact hf, hg⟩
    obtain ⟨n, hn⟩ : ∃ n, n = a.length := ⟨_, rfl⟩
    by_cases hs : setOk s = true
    · obtain ⟨h0, h1⟩ := setOk_bd hs
      have HD : Hid (chosenI a b s = chosenUp a b s 8 n) := by simp [Hid, chosenI, hok, hs, hn]
      rw [← hn] at c1 h8 ⊢
      clear hf hg o1 o2 o3 hok hn
      go_enter Tryz.func112, Tryz.ntmps112
      go_wp2_with fail
      refine c1.mono ?_
      rintro e w1 ⟨rfl, b1⟩
      clear c1
      go_wp2_with (refine wpList_put8 rfl _ _ rfl w1.heap.size f rfl rfl (fun _ => 0) (two_rows w1).1 ?_)
      intro w2 r2 g2
      have b2 : Below w.heap.size w w2 := below_two b1 b1.size _ _ g2 b1.size
      have q2 : Row w2 (w1.heap.size + 1) (fun _ => 0) := (two_rows w1).2.kept g2 (by simp)
      obtain ⟨G5, hG5⟩ : ∃ G, G = w1.heap.size := ⟨_, rfl⟩
      have HG : Hid (w.heap.size ≤ G5) := by rw [hG5]; exact b1.size
      rw [← hG5] at r2 q2
      rw [← hG5]
      clear hG5 g2 b1
      go_wp2_with (refine wpList_put8 rfl _ _ rfl (G5 + 1) g rfl rfl (fun _ => 0) q2 ?_)
      intro w3 q3 g3
      have HR3 : Hid (CRel a b s w w3 G5 (G5 + 1) 0) := by
        refine ⟨?_, ?_, b2.grown g3 b2.size (fun k e => by cases e; have := HG.out; omega)⟩
        · have := r2.kept g3 (by simp)
          rwa [HF.out.1] at this
        · rwa [HF.out.2] at q3
      clear b2 q2 r2 q3 g3
      go_wp2_with (go_at_call 47; refine (bsok_any s _).mono ?_; rw [hs]; rintro e w' ⟨rfl, hw⟩; subst w')
      clear hs
      go_loopw [28] (fun i wr => ∃ j : Nat, j ≤ 8 ∧ i = .int .i64 j ∧ Hid (CRel a b s w wr G5 (G5 + 1) j)) (fun i _ => 8 - (intOf i).toNat)
      case atStart => exact ⟨0, Nat.zero_le _, rfl, HR3⟩
      case round =>
        clear HR3
        obtain ⟨j, hj, rfl, HR⟩ := hrel
        by_cases hlt : (j : Int) < 8
        · have k2 := HR.out.2.1.cell j (by omega)
          have k1 := HR.out.1.cell j (by omega)
          have k3 := HR.out.1.frozen j
          obtain ⟨x, hx⟩ : ∃ x, x = chF a b s j j := ⟨_, rfl⟩
          obtain ⟨y, hy⟩ : ∃ y, y = b.getD j 0 := ⟨_, rfl⟩
          rw [← hx] at k1
          rw [← hy] at k2
          by_cases hin : inB s j = true
          · have HN : Hid (CRel a b s w (wr.setCell ⟨G5, j, none⟩ (.int .i64 y)) G5 (G5 + 1) (j + 1)) := by
              obtain ⟨e1, e2, e3⟩ := HR.out
              refine ⟨?_, e2.other _ _ (by simp), e3.setCell HG.out _⟩
              have := e1.setCell j (by omega) y
              rwa [hy, chF_yes hin, ← hy] at this
            clear hx hy HR
            go_wp2_with (go_at_call 127; refine (bshas_any s j _ h0 h1 (by omega) hlt).mono ?_; rw [hin]; rintro e w' ⟨rfl, hw⟩; subst w')
            go_roundw
            case rel => exact ⟨j + 1, by omega, by go_num, HN⟩
            case measure => simp [intOf]; omega
          · have hin' : inB s j = false := by simpa using hin
            have HN : Hid (CRel a b s w wr G5 (G5 + 1) (j + 1)) := by
              obtain ⟨e1, e2, e3⟩ := HR.out
              rw [chF_no hin'] at e1
              exact ⟨e1, e2, e3⟩
            clear hx hy HR hin
            go_wp2_with (go_at_call 127; refine (bshas_any s j _ h0 h1 (by omega) hlt).mono ?_; rw [hin']; rintro e w' ⟨rfl, hw⟩; subst w')
            go_roundw
            case rel => exact ⟨j + 1, by omega, by go_num, HN⟩
            case measure => simp [intOf]; omega
        · have hj8 : j = 8 := by omega
          subst hj8
          have rF := HR.out.1
          have HB : Hid (Below w.heap.size w wr) := HR.out.2.2
          clear HR
          obtain ⟨F, hF⟩ : ∃ F, F = chF a b s 8 := ⟨_, rfl⟩
          rw [← hF] at rF
          have HL : Hid (listF F n = chosenI a b s) := by rw [hF]; exact HD.out.symm
          clear hF
          go_wp2_with (first
            | (refine wpList_get8 rfl _ rfl G5 rfl _ rF ?_)
            | (go_at_call 128; refine (list_any F n _ h8).mono ?_; rw [HL.out]; rintro e w4 ⟨u, rfl, o4, b4⟩; have HU : Hid (Own w4 w.heap.size u (chosenI a b s) ∧ Below w.heap.size w w4) := ⟨o4.mono HB.out.size, HB.out.trans (b4.mono HB.out.size)⟩; clear o4 b4))
          go_ret
          exact ⟨_, rfl, HU.out⟩
    · have hs' : setOk s = false := by simpa using hs
      have HD : Hid (chosenI a b s = []) := by simp [Hid, chosenI, hs']
      rw [← hn] at c1 ⊢
      clear hf hg o1 o2 o3 hok hn hs
      go_enter Tryz.func112, Tryz.ntmps112
      go_wp2_with fail
      refine c1.mono ?_
      rintro e w1 ⟨rfl, b1⟩
      clear c1
      go_wp2_with (refine wpList_put8 rfl _ _ rfl w1.heap.size f rfl rfl (fun _ => 0) (two_rows w1).1 ?_)
      intro w2 r2 g2
      have b2 : Below w.heap.size w w2 := below_two b1 b1.size _ _ g2 b1.size
      have q2 : Row w2 (w1.heap.size + 1) (fun _ => 0) := (two_rows w1).2.kept g2 (by simp)
      obtain ⟨G5, hG5⟩ : ∃ G, G = w1.heap.size := ⟨_, rfl⟩
      have HG : Hid (w.heap.size ≤ G5) := by rw [hG5]; exact b1.size
      rw [← hG5] at r2 q2
      rw [← hG5]
      clear hG5 g2 b1
      go_wp2_with (refine wpList_put8 rfl _ _ rfl (G5 + 1) g rfl rfl (fun _ => 0) q2 ?_)
      intro w3 q3 g3
      have b3 : Hid (Below w.heap.size w w3) := b2.grown g3 b2.size (fun k e => by cases e; have := HG.out; omega)
      clear b2 q2 r2 q3 g3
      go_wp2_with (go_at_call 47; refine (bsok_any s _).mono ?_; rw [hs']; rintro e w' ⟨rfl, hw⟩; subst w')
      go_ret
      rw [HD.out]
      exact ⟨_, rfl, (ownEmpty w3).mono b3.out.size, b3.out.trans ((belowNew w3 _).mono b3.out.size)⟩
  · have hok' : bothOk a b = false := by simpa using hok
    have HD : Hid (chosenI a b s = []) := by simp [Hid, chosenI, hok']
    obtain ⟨f, hf⟩ : ∃ f, f = rowF a := ⟨_, rfl⟩
    obtain ⟨g, hg⟩ : ∃ g, g = rowF b := ⟨_, rfl⟩
    rw [hok', ← hf, ← hg] at c1
    clear hok hok' hf hg
    go_enter Tryz.func112, Tryz.ntmps112
    go_wp2_with fail
    refine c1.mono ?_
    rintro e w1 ⟨rfl, b1⟩
    clear c1
    go_wp2_with (refine wpList_put8 rfl _ _ rfl w1.heap.size f rfl rfl (fun _ => 0) (two_rows w1).1 ?_)
    intro w2 r2 g2
    have b2 : Below w.heap.size w w2 := below_two b1 b1.size _ _ g2 b1.size
    have q2 : Row w2 (w1.heap.size + 1) (fun _ => 0) := (two_rows w1).2.kept g2 (by simp)
    obtain ⟨G5, hG5⟩ : ∃ G, G = w1.heap.size := ⟨_, rfl⟩
    have HG : Hid (w.heap.size ≤ G5) := by rw [hG5]; exact b1.size
    rw [← hG5] at r2 q2
    rw [← hG5]
    clear hG5 g2 b1
    go_wp2_with (refine wpList_put8 rfl _ _ rfl (G5 + 1) g rfl rfl (fun _ => 0) q2 ?_)
    intro w3 q3 g3
    have b3 : Hid (Below w.heap.size w w3) := b2.grown g3 b2.size (fun k e => by cases e; have := HG.out; omega)
    clear b2 q2 r2 q3 g3
    go_wp2
    go_ret
    rw [HD.out]
    exact ⟨_, rfl, (ownEmpty w3).mono b3.out.size, b3.out.trans ((belowNew w3 _).mono b3.out.size)⟩
end Go.Proofs.YteooloceaoinlaaGreatDoor
/- The program's disks: fresh, DiskOk, NewDisk, Loose, Written, Flushed and Lost answer what plain lists say, in new memory. -/
namespace Go.Proofs.YteooloceaoinlaaGreatDoor
open Go.ChangeShapes Go.WideShapes Go.ChangeAt Go.RowKit

set_option maxRecDepth 20000 in
set_option maxHeartbeats 1000000 in
theorem fresh_any (v : Value) (xs : List Int) (w : World) (h : Reads w v xs) (h1 : 1 ≤ xs.length) (hbig : xs.length ≤ 1099511627776) :
    Calls Tryz.prog 111 #[v] w fun e w' => ∃ u, e = .returned u ∧ Own w' w.heap.size u xs ∧ Below w.heap.size w w' := by
  obtain ⟨i0, hi, hz0, hz1, hz2⟩ := info_parts Tryz.infoI
  obtain ⟨ao, cap, rfl, hl, hm, hc⟩ := h
  obtain ⟨b, off, hab, hcell⟩ : ∃ b off, ao = some ⟨b, off, none⟩ ∧ ∀ j, j < xs.length → w.cell? ⟨b, off + j, none⟩ = some (.int .i64 (xs.getD j 0)) := by
    rcases hc with e | h
    · subst e; simp at h1
    · exact h
  subst hab
  have hnews : ∀ j u, (xs.map (Value.int .i64))[j]? = some u → w.cell? ((⟨b, off, none⟩ : Addr).add j) = some u := by
    intro j u hj
    have hlt : j < xs.length := by
      rcases Nat.lt_or_ge j xs.length with h | h
      · exact h
      · rw [List.getElem?_eq_none (by simpa using h)] at hj; cases hj
    rw [show (⟨b, off, none⟩ : Addr).add j = ⟨b, off + j, none⟩ by unfold Addr.add; split <;> simp_all]
    rw [hcell j hlt]
    simp [List.getD, hlt] at hj ⊢
    exact hj
  have hone : ∀ u ∈ xs.map (Value.int .i64), u.oneCell' = true := by
    intro u hu
    obtain ⟨x, _, rfl⟩ := List.mem_map.1 hu
    rfl
  obtain ⟨hm1, -⟩ := hm
  unfold maxLen at hm1
  obtain ⟨n, hn⟩ : ∃ n, n = xs.length := ⟨_, rfl⟩
  have hll : (xs.map (Value.int .i64)).length = n * 1 := by simp [hn]
  rw [← hn] at hbig hl h1 ⊢
  have HN : Hid (n = xs.length) := hn
  clear hn hc hcell
  go_enter Tryz.func111, Tryz.ntmps111
  go_wp2_with (at_builtin; refine wpList_append_grows _ rfl _ _ 22 rfl 2 i0 (.int .i64 0) 1 8 Tryz.underlying22 hi hz0 hz1 hz2 rfl (by decide) (some ⟨b, off, none⟩) 0 0 [] rfl (by intro e; cases e) (by simp) (by intro b' _ j u hj; simp at hj) ⟨b, off, none⟩ n cap (xs.map (Value.int .i64)) rfl hll hnews hone (by omega) (by unfold maxLen; omega) (by omega) ?_)
  intro v' w1 hown hgrow
  go_wp2_with fail
  go_ret
  refine ⟨_, rfl, ?_, (Below.refl w.heap.size w).grown hgrow (Nat.le_refl _) (fun k e => by cases e)⟩
  unfold Own
  rw [← HN.out]
  exact hown

set_option maxRecDepth 20000 in
set_option maxHeartbeats 1000000 in
theorem freshDisk_any (u v : Value) (xs ys : List Int) (w : World) (h : Reads w u xs) (h' : Reads w v ys) (hx1 : 1 ≤ xs.length) (hy1 : 1 ≤ ys.length) (gx : xs.length ≤ 1099511627776) (gy : ys.length ≤ 1099511627776) :
    Calls Tryz.prog 108 #[.agg #[u, v]] w fun e w' => ∃ a b, e = .returned (.agg #[a, b]) ∧ OwnD w' w.heap.size a b xs ys ∧ Below w.heap.size w w' := by
  have HR : Hid (Reads w u xs ∧ Reads w v ys) := ⟨h, h'⟩
  clear h h'
  obtain ⟨w2, hw2⟩ : ∃ w2, w2 = (w.alloc (.cells #[u, v] 37)).alloc (.cells #[.slice none 0 0, .slice none 0 0] 37) := ⟨_, rfl⟩
  have HB : Hid (Boxes w w2 u v) := by rw [hw2]; exact Boxes.start w u v
  have c0 := HB.out.1.cell0
  have c1 := HB.out.1.cell1
  go_enter Tryz.func108, Tryz.ntmps108
  go_wp2_with fail
  rw [← hw2]
  clear hw2
  have HB2 := HB.out.drew
  go_region_held3 (fun w' => w'.cell? ⟨w.heap.size, 0, none⟩ = some u ∧ w'.cell? ⟨w.heap.size, 1, none⟩ = some v) (constructor <;> first | assumption | exact cell_set1 (cell_set1 (by assumption)))
    (first
      | (go_at_call_of 111 u; refine (fresh_any u xs w2.drew (HR.out.1.below HB2.2.2.1 (Nat.le_refl _)) hx1 gx).mono ?_; rintro e w4 ⟨a, rfl, oa, ba⟩; have HB4 := HB2.below ba; have d0 := HB4.1.cell0; have d1 := HB4.1.cell1; obtain ⟨ao, ca, hea⟩ := oa.reads.form; subst hea)
      | (go_at_call_of 111 v; refine (fresh_any v ys w4 (HR.out.2.below HB4.2.2.1 (Nat.le_refl _)) hy1 gy).mono ?_; rintro e w5 ⟨b, rfl, ob, bb⟩; have hap := apart_of oa ob (Nat.le_refl _); replace oa := oa.below bb; have hs5 := ba.size; have HB5 := HB4.below bb; have e0 := HB5.1.cell0; have e1 := HB5.1.cell1; have e2 := HB5.2.1.cell0; have e3 := HB5.2.1.cell1; have f2 := HB5.2.1.frozen 0; have f3 := HB5.2.1.frozen 1; obtain ⟨bo, cb, heb⟩ := ob.reads.form; subst heb))
  go_wp2_with fail
  refine bodyPost_ret (results_pair rfl _ _ (w.heap.size + 1) _ _ rfl ((HB5.2.1.set0 _).set1 _)) rfl ?_
  exact ⟨_, _, rfl, HB5.done (grown_two _ _ _ _) oa ob (HB2.2.2.2) (Nat.le_trans HB2.2.2.2 hs5) hap⟩

set_option maxRecDepth 20000 in
set_option maxHeartbeats 1000000 in
theorem diskOk_any (u v : Value) (xs ys : List Int) (w : World) (h : Reads w u xs) (h' : Reads w v ys) (gx : xs.length ≤ 1099511627776) (gy : ys.length ≤ 1099511627776) :
    Calls Tryz.prog 74 #[.agg #[u, v]] w fun e w' => e = .returned (.bool (bothOk xs ys)) ∧ Below w.heap.size w w' := by
  obtain ⟨w1, hw1⟩ : ∃ w1, w1 = w.alloc (.cells #[u, v] 37) := ⟨_, rfl⟩
  have b1 : Below w.heap.size w w1 := by rw [hw1]; exact belowAlloc w _
  have c1 := rowsOf_any u v xs ys w1 (h.below b1 (Nat.le_refl _)) (h'.below b1 (Nat.le_refl _)) gx gy
  obtain ⟨bk, hbk⟩ : ∃ bk, bk = bothOk xs ys := ⟨_, rfl⟩
  obtain ⟨f, hf⟩ : ∃ f, f = rowF xs := ⟨_, rfl⟩
  obtain ⟨g, hg⟩ : ∃ g, g = rowF ys := ⟨_, rfl⟩
  rw [← hbk, ← hf, ← hg] at c1
  rw [← hbk]
  clear hbk hf hg h h'
  go_enter Tryz.func74, Tryz.ntmps74
  go_wp2_with fail
  rw [← hw1]
  clear hw1
  refine c1.mono ?_
  rintro e w2 ⟨rfl, b2⟩
  replace b2 := b1.trans (b2.mono b1.size)
  clear b1 c1
  go_wp2_with (refine wpList_put8 rfl _ _ rfl w2.heap.size f rfl rfl (fun _ => 0) (two_rows w2).1 ?_)
  intro w3 r3 g3
  have b3 : Below w.heap.size w w3 := below_two b2 b2.size _ _ g3 b2.size
  have q3 : Row w3 (w2.heap.size + 1) (fun _ => 0) := (two_rows w2).2.kept g3 (by simp)
  have HG : Hid (w.heap.size ≤ w2.heap.size) := b2.size
  clear g3 b2
  go_wp2_with (refine wpList_put8 rfl _ _ rfl (w2.heap.size + 1) g rfl rfl (fun _ => 0) q3 ?_)
  intro w4 q4 g4
  have b4 : Below w.heap.size w w4 := b3.grown g4 b3.size (fun k e => by cases e; have := HG.out; omega)
  clear g4 b3 q3 q4 r3
  go_wp2_with fail
  go_ret
  exact ⟨rfl, b4⟩
end Go.Proofs.YteooloceaoinlaaGreatDoor
/- Keys as an array of four, and a holding that embeds them, by the program: keyOk, personOk, turnOk, registered, anyRegistered, keyRowOf, list. -/
namespace Go.Proofs.YteooloceaoinlaaGreatDoor
open Go.ChangeShapes Go.WideShapes Go.ChangeAt Go.RowKit

def kA (f : Nat → Int) : Array Value := #[.int .i64 (f 0), .int .i64 (f 1), .int .i64 (f 2), .int .i64 (f 3)]
def KF (ks : List Int) : Nat → Int := fun j => ks.getD j 0
theorem four {p : Nat → Prop} (h0 : p 0) (h1 : p 1) (h2 : p 2) (h3 : p 3) : ∀ j, j < 4 → p j
  | 0, _ => h0 | 1, _ => h1 | 2, _ => h2 | 3, _ => h3
  | _ + 4, h => by omega
theorem Tryz.isKeyRow : (Tryz.prog.info? 123).map (·.size) = some 4 := by kernel_rfl
theorem Tryz.underK : Tryz.prog.underlying 123 = some (.array 4 2) := by kernel_rfl

set_option maxRecDepth 20000 in
set_option maxHeartbeats 400000 in
theorem ikeyok_any (x : Int) (w : World) :
    Calls Tryz.prog 135 #[.int .i64 x] w fun e w' => e = .returned (.bool (inI x 0 9999)) ∧ w' = w := by
  by_cases h0 : 0 ≤ x
  · by_cases h1 : x ≤ 9999
    · rw [show inI x 0 9999 = true by simp [inI, h0, h1]]
      go_enter Tryz.func135, Tryz.ntmps135
      go_wp2
      go_ret
      exact ⟨ret_bool (by simp), rfl⟩
    · rw [show inI x 0 9999 = false by simp [inI]; omega]
      go_enter Tryz.func135, Tryz.ntmps135
      go_wp2
      go_ret
      exact ⟨ret_bool (by simp), rfl⟩
  · rw [show inI x 0 9999 = false by simp [inI]; omega]
    go_enter Tryz.func135, Tryz.ntmps135
    go_wp2
    go_ret
    exact ⟨ret_bool (by simp), rfl⟩

set_option maxRecDepth 20000 in
set_option maxHeartbeats 400000 in
theorem iturnok_any (x : Int) (w : World) :
    Calls Tryz.prog 124 #[.int .i64 x] w fun e w' => e = .returned (.bool (inI x 0 1000000000)) ∧ w' = w := by
  by_cases h0 : 0 ≤ x
  · by_cases h1 : x ≤ 1000000000
    · rw [show inI x 0 1000000000 = true by simp [inI, h0, h1]]
      go_enter Tryz.func124, Tryz.ntmps124
      go_wp2
      go_ret
      exact ⟨ret_bool (by simp), rfl⟩
    · rw [show inI x 0 1000000000 = false by simp [inI]; omega]
      go_enter Tryz.func124, Tryz.ntmps124
      go_wp2
      go_ret
      exact ⟨ret_bool (by simp), rfl⟩
  · rw [show inI x 0 1000000000 = false by simp [inI]; omega]
    go_enter Tryz.func124, Tryz.ntmps124
    go_wp2
    go_ret
    exact ⟨ret_bool (by simp), rfl⟩

set_option maxRecDepth 20000 in
set_option maxHeartbeats 400000 in
theorem iperson_any (x : Int) (w : World) :
    Calls Tryz.prog 150 #[.int .i64 x] w fun e w' => e = .returned (.bool (inI x 0 3)) ∧ w' = w := by
  by_cases h0 : 0 ≤ x
  · by_cases h1 : x < 4
    · rw [show inI x 0 3 = true by simp [inI, h0]; omega]
      go_enter Tryz.func150, Tryz.ntmps150
      go_wp2
      go_ret
      exact ⟨ret_bool (by simp), rfl⟩
    · rw [show inI x 0 3 = false by simp [inI]; omega]
      go_enter Tryz.func150, Tryz.ntmps150
      go_wp2
      go_ret
      exact ⟨ret_bool (by simp), rfl⟩
  · rw [show inI x 0 3 = false by simp [inI]; omega]
    go_enter Tryz.func150, Tryz.ntmps150
    go_wp2
    go_ret
    exact ⟨ret_bool (by simp), rfl⟩

set_option maxRecDepth 20000 in
set_option maxHeartbeats 1000000 in
theorem iregd_any (f : Nat → Int) (i : Int) (w : World) :
    Calls Tryz.prog 139 #[.agg (kA f), .int .i64 i] w fun e w' => e = .returned (.bool (inI i 0 3 && decide (f i.toNat ≠ 0))) ∧ Below w.heap.size w w' := by
  have b1 : Below w.heap.size w (w.alloc (.cells (kA f) 123)) := (Below.refl _ _).alloc (Nat.le_refl _) _
  have H1 : StB (w.alloc (.cells (kA f) 123)) w.heap.size 123 (kA f) := StB.new _ _ _
  have c1 := fun wx => iperson_any i wx
  by_cases h : 0 ≤ i ∧ i < 4
  · have hin : inI i 0 3 = true := by simp [inI]; omega
    simp only [hin] at c1 ⊢
    obtain ⟨j, hj, hj4⟩ : ∃ j : Nat, i = (j : Int) ∧ j < 4 := ⟨i.toNat, by omega, by omega⟩
    subst hj
    obtain ⟨y, hy⟩ : ∃ y, y = f j := ⟨_, rfl⟩
    have hc : (w.alloc (.cells (kA f) 123)).cell? ⟨w.heap.size, j, none⟩ = some (.int .i64 y) := by
      rw [hy]; exact H1.cell j (four (p := fun j => (kA f)[j]? = some (.int .i64 (f j))) rfl rfl rfl rfl j hj4)
    have HY : Hid (y = f j) := hy
    have hl : (j : Int) < 4 := by omega
    clear hin hy h H1
    unfold kA at *
    by_cases y0 : y = 0
    · go_enter Tryz.func139, Tryz.ntmps139
      go_wp2_with (first | (go_at_call 150; refine (c1 _).mono ?_; rintro e w' ⟨rfl, hw⟩; subst w'))
      go_ret
      exact ⟨ret_bool (by simp [← HY.out, y0]), b1⟩
    · have hyn : (y != 0) = true := by simpa using y0
      go_enter Tryz.func139, Tryz.ntmps139
      go_wp2_with (first | (go_at_call 150; refine (c1 _).mono ?_; rintro e w' ⟨rfl, hw⟩; subst w'))
      go_ret
      exact ⟨ret_bool (by simp [← HY.out, y0]), b1⟩
  · have hin : inI i 0 3 = false := by simp [inI]; omega
    simp only [hin] at c1 ⊢
    clear h hin H1
    unfold kA at *
    go_enter Tryz.func139, Tryz.ntmps139
    go_wp2_with (first | (go_at_call 150; refine (c1 _).mono ?_; rintro e w' ⟨rfl, hw⟩; subst w'))
    go_ret
    exact ⟨ret_bool (by simp), b1⟩

def anyF (f : Nat → Int) : Bool := (f 0 != 0) || (f 1 != 0) || (f 2 != 0) || (f 3 != 0)
theorem run_eqK0 (f : Nat → Int) (w : World) : (Op.equalIn 10000 123 (.agg (kA f)) (.agg (kA fun _ => 0))).run Tryz.prog w = .ok (!anyF f) w := by
  obtain ⟨i0, hi, hz0, hz1, hz2⟩ := info_parts Tryz.infoI
  have hz : Tryz.prog.cellsOf 2 = 1 := by kernel_rfl
  have hu : Tryz.prog.underlying 2 = some (.int .i64) := by kernel_rfl
  rw [show (10000 : Nat) = 9998 + 1 + 1 from rfl, run_equalIn_array (i := i0) w (9998 + 1) _ _ Tryz.underK hi, hz]
  simp [List.range, List.range.loop, Op.eqItems, part, Sem.run_bind, sizeOf, typeInfo, hi, hz1, hu, kA, run_equalIn_int, anyF]
  (repeat' split) <;> simp_all

set_option maxRecDepth 20000 in
set_option maxHeartbeats 1000000 in
theorem ianyreg_any (f : Nat → Int) (w : World) :
    Calls Tryz.prog 137 #[.agg (kA f)] w fun e w' => e = .returned (.bool (anyF f)) ∧ Below w.heap.size w w' := by
  have b1 : Below w.heap.size w (w.alloc (.cells (kA f) 123)) := (Below.refl _ _).alloc (Nat.le_refl _) _
  have he := run_eqK0 f (w.alloc (.cells (kA f) 123))
  obtain ⟨x, hx⟩ : ∃ x, x = anyF f := ⟨_, rfl⟩
  rw [← hx] at he ⊢
  clear hx
  unfold kA at *
  cases x with
  | false =>
    go_enter Tryz.func137, Tryz.ntmps137
    go_wp2
    go_ret
    exact ⟨rfl, b1⟩
  | true =>
    go_enter Tryz.func137, Tryz.ntmps137
    go_wp2
    go_ret
    exact ⟨rfl, b1⟩
end Go.Proofs.YteooloceaoinlaaGreatDoor
