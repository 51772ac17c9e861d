/- rowsOf, Differ and Chosen of the program answer what plain lists say. -/
import Derived.Test.YteooloceaoinlaaDoorM22
import Derived.ChangeKeysEq
import Derived.BigRegion
import Derived.Laws.StructEq
import Derived.Test.YteooloceaoinlaaDoorM9
import Derived.ArgAppend
import Derived.Laws.CopyOwn
import Derived.Test.YteooloceaoinlaaDoorM4
import Derived.Test.YteooloceaoinlaaDoorM6
namespace Go.Proofs.YteooloceaoinlaaDoor
open Go.ChangeShapes Go.WideShapes Go.ChangeAt Go.RowKit

def fill8 (w : World) (g : Nat) (f : Nat → Int) : World :=
  (((((((w.setCell ⟨g, 0, none⟩ (.int .i64 (f 0))).setCell ⟨g, 1, none⟩ (.int .i64 (f 1))).setCell ⟨g, 2, none⟩ (.int .i64 (f 2))).setCell ⟨g, 3, none⟩ (.int .i64 (f 3))).setCell ⟨g, 4, none⟩ (.int .i64 (f 4))).setCell ⟨g, 5, none⟩ (.int .i64 (f 5))).setCell ⟨g, 6, none⟩ (.int .i64 (f 6))).setCell ⟨g, 7, none⟩ (.int .i64 (f 7))
theorem Row.fill {w : World} {g : Nat} {old : Nat → Int} (h : Row w g old) (f : Nat → Int) : Row (fill8 w g f) g f := by
  have := (((((((h.setCell 0 (by omega) (f 0)).setCell 1 (by omega) (f 1)).setCell 2 (by omega) (f 2)).setCell 3 (by omega) (f 3)).setCell 4 (by omega) (f 4)).setCell 5 (by omega) (f 5)).setCell 6 (by omega) (f 6)).setCell 7 (by omega) (f 7)
  exact Eq.trans this (congrArg (fun c => some (Obj.cells c 78 (0, 0))) (rowA_congr (eight rfl rfl rfl rfl rfl rfl rfl rfl)))
theorem Row.fill_other {w : World} {g k : Nat} {old : Nat → Int} (h : Row w g old) (f : Nat → Int) (hne : g ≠ k) : Row (fill8 w k f) g old := by
  unfold fill8
  exact (((((((h.other _ _ hne).other _ _ hne).other _ _ hne).other _ _ hne).other _ _ hne).other _ _ hne).other _ _ hne).other _ _ hne
theorem below_fill {B g : Nat} {w0 w : World} (h : Below B w0 w) (hB : B ≤ g) (f : Nat → Int) : Below B w0 (fill8 w g f) := by
  unfold fill8
  exact (((((((h.setCell hB _).setCell hB _).setCell hB _).setCell hB _).setCell hB _).setCell hB _).setCell hB _).setCell hB _
theorem Row.drew {w : World} {g : Nat} {f : Nat → Int} (h : Row w g f) : Row w.drew g f := h
theorem filled {w w4 : World} {H : Nat} (f g : Nat → Int) (hH : H = w.heap.size) (h : Below w.heap.size w w4 ∧ Row w4 H (fun _ => 0) ∧ Row w4 (H + 1) (fun _ => 0)) :
    Row (((((((((((((((((w4.setCell ⟨H, 0, none⟩ (.int .i64 (f 0))).setCell ⟨H, 1, none⟩ (.int .i64 (f 1))).setCell ⟨H, 2, none⟩ (.int .i64 (f 2))).setCell ⟨H, 3, none⟩ (.int .i64 (f 3))).setCell ⟨H, 4, none⟩ (.int .i64 (f 4))).setCell ⟨H, 5, none⟩ (.int .i64 (f 5))).setCell ⟨H, 6, none⟩ (.int .i64 (f 6))).setCell ⟨H, 7, none⟩ (.int .i64 (f 7))).setCell ⟨(H + 1), 0, none⟩ (.int .i64 (g 0))).setCell ⟨(H + 1), 1, none⟩ (.int .i64 (g 1))).setCell ⟨(H + 1), 2, none⟩ (.int .i64 (g 2))).setCell ⟨(H + 1), 3, none⟩ (.int .i64 (g 3))).setCell ⟨(H + 1), 4, none⟩ (.int .i64 (g 4))).setCell ⟨(H + 1), 5, none⟩ (.int .i64 (g 5))).setCell ⟨(H + 1), 6, none⟩ (.int .i64 (g 6))).setCell ⟨(H + 1), 7, none⟩ (.int .i64 (g 7))).drew) H f ∧ Row (((((((((((((((((w4.setCell ⟨H, 0, none⟩ (.int .i64 (f 0))).setCell ⟨H, 1, none⟩ (.int .i64 (f 1))).setCell ⟨H, 2, none⟩ (.int .i64 (f 2))).setCell ⟨H, 3, none⟩ (.int .i64 (f 3))).setCell ⟨H, 4, none⟩ (.int .i64 (f 4))).setCell ⟨H, 5, none⟩ (.int .i64 (f 5))).setCell ⟨H, 6, none⟩ (.int .i64 (f 6))).setCell ⟨H, 7, none⟩ (.int .i64 (f 7))).setCell ⟨(H + 1), 0, none⟩ (.int .i64 (g 0))).setCell ⟨(H + 1), 1, none⟩ (.int .i64 (g 1))).setCell ⟨(H + 1), 2, none⟩ (.int .i64 (g 2))).setCell ⟨(H + 1), 3, none⟩ (.int .i64 (g 3))).setCell ⟨(H + 1), 4, none⟩ (.int .i64 (g 4))).setCell ⟨(H + 1), 5, none⟩ (.int .i64 (g 5))).setCell ⟨(H + 1), 6, none⟩ (.int .i64 (g 6))).setCell ⟨(H + 1), 7, none⟩ (.int .i64 (g 7))).drew) (H + 1) g ∧ Below w.heap.size w (((((((((((((((((w4.setCell ⟨H, 0, none⟩ (.int .i64 (f 0))).setCell ⟨H, 1, none⟩ (.int .i64 (f 1))).setCell ⟨H, 2, none⟩ (.int .i64 (f 2))).setCell ⟨H, 3, none⟩ (.int .i64 (f 3))).setCell ⟨H, 4, none⟩ (.int .i64 (f 4))).setCell ⟨H, 5, none⟩ (.int .i64 (f 5))).setCell ⟨H, 6, none⟩ (.int .i64 (f 6))).setCell ⟨H, 7, none⟩ (.int .i64 (f 7))).setCell ⟨(H + 1), 0, none⟩ (.int .i64 (g 0))).setCell ⟨(H + 1), 1, none⟩ (.int .i64 (g 1))).setCell ⟨(H + 1), 2, none⟩ (.int .i64 (g 2))).setCell ⟨(H + 1), 3, none⟩ (.int .i64 (g 3))).setCell ⟨(H + 1), 4, none⟩ (.int .i64 (g 4))).setCell ⟨(H + 1), 5, none⟩ (.int .i64 (g 5))).setCell ⟨(H + 1), 6, none⟩ (.int .i64 (g 6))).setCell ⟨(H + 1), 7, none⟩ (.int .i64 (g 7))).drew) := by
  obtain ⟨z1, z2, z3⟩ := h
  have HW0 : Row (fill8 (fill8 w4 H f) (H + 1) g) H f ∧ Row (fill8 (fill8 w4 H f) (H + 1) g) (H + 1) g ∧ Below w.heap.size w (fill8 (fill8 w4 H f) (H + 1) g) := by
    refine ⟨(z2.fill f).fill_other _ (by omega), (z3.fill_other f (by omega)).fill g, below_fill (below_fill z1 (by omega) _) (by omega) _⟩
  have HW : Row (fill8 (fill8 w4 H f) (H + 1) g).drew H f ∧ Row (fill8 (fill8 w4 H f) (H + 1) g).drew (H + 1) g ∧ Below w.heap.size w (fill8 (fill8 w4 H f) (H + 1) g).drew := ⟨HW0.1.drew, HW0.2.1.drew, HW0.2.2.drew⟩
  unfold fill8 at HW
  exact HW

theorem results_rows {fn : Func} {p q u : Tmp} (h : fn.results = #[.cell p 78, .cell q 78, .tmp u]) (tmps : Array Value) (w : World) (g k : Nat) (f f' : Nat → Int) (x : Value)
    (hp : tmps.getD p undef = .pointer (some ⟨g, 0, none⟩)) (hq : tmps.getD q undef = .pointer (some ⟨k, 0, none⟩)) (hx : tmps.getD u undef = x) (hr : Row w g f) (hr' : Row w k f') :
    (results fn tmps).run Tryd.prog w = .ok (.tuple #[.agg (rowA f), .agg (rowA f'), x]) w := by
  have l1 := run_loadVar_row w g _ _ _ _ _ hr Tryd.under8 rfl (Tryd.info8 f)
  have l2 := run_loadVar_row w k _ _ _ _ _ hr' Tryd.under8 rfl (Tryd.info8 f')
  have hp' : tmps[p]?.getD undef = .pointer (some ⟨g, 0, none⟩) := by simpa using hp
  have hq' : tmps[q]?.getD undef = .pointer (some ⟨k, 0, none⟩) := by simpa using hq
  have hx' : tmps[u]?.getD undef = x := by simpa using hx
  simp only [results, h]
  simp [Sem.run_bind, Result.andThen, asAddr, hp', hq', hx', l1, l2]
end Go.Proofs.YteooloceaoinlaaDoor
/- Arrays of eight numbers compared; the set's own methods. -/
namespace Go.Proofs.YteooloceaoinlaaDoor
open Go.ChangeShapes Go.WideShapes Go.ChangeAt Go.RowKit

def same8 (f g : Nat → Int) : Bool := (f 0 == g 0) && ((f 1 == g 1) && ((f 2 == g 2) && ((f 3 == g 3) && ((f 4 == g 4) && ((f 5 == g 5) && ((f 6 == g 6) && (f 7 == g 7)))))))
theorem same8_all {f g : Nat → Int} (h : same8 f g = true) : ∀ j, j < 8 → f j = g j := by
  simp [same8] at h
  obtain ⟨h0, h1, h2, h3, h4, h5, h6, h7⟩ := h
  exact eight h0 h1 h2 h3 h4 h5 h6 h7
theorem same8_of {f g : Nat → Int} (h : ∀ j, j < 8 → f j = g j) : same8 f g = true := by
  simp [same8, h 0, h 1, h 2, h 3, h 4, h 5, h 6, h 7]

theorem run_eq8 (f g : Nat → Int) (w : World) : (Op.equalIn 10000 78 (.agg (rowA f)) (.agg (rowA g))).run Tryd.prog w = .ok (same8 f g) w := by
  obtain ⟨i0, hi, hz0, hz1, hz2⟩ := info_parts Tryd.infoI
  have hz : Tryd.prog.cellsOf 2 = 1 := by kernel_rfl
  have hu : Tryd.prog.underlying 2 = some (.int .i64) := by kernel_rfl
  rw [show (10000 : Nat) = 9998 + 1 + 1 from rfl, run_equalIn_array (i := i0) w (9998 + 1) _ _ Tryd.under8 hi, hz]
  simp [List.range, List.range.loop, Op.eqItems, part, Sem.run_bind, sizeOf, typeInfo, hi, hz1, hu, rowA, run_equalIn_int, same8]
  (repeat' split) <;> simp_all

def mixF (a b : List Int) (j : Nat) : Nat → Int := fun k => if k < j then b.getD k 0 else a.getD k 0
theorem mixF_zero (a b : List Int) : mixF a b 0 = fun k => a.getD k 0 := by funext k; simp [mixF]
theorem mixF_step (a b : List Int) (j : Nat) : upd (mixF a b j) j (b.getD j 0) = mixF a b (j + 1) := by
  funext k
  unfold upd mixF
  by_cases e : k = j
  · subst e; simp
  · have : k < j + 1 ↔ k < j := by omega
    simp [e, this]
theorem mixF_skip (a b : List Int) (j : Nat) (h : a.getD j 0 = b.getD j 0) : mixF a b j = mixF a b (j + 1) := by
  funext k
  unfold mixF
  by_cases e : k = j
  · subst e; rw [if_neg (by omega), if_pos (by omega), h]
  · have : k < j + 1 ↔ k < j := by omega
    simp [this]
theorem mixF_at (a b : List Int) (j : Nat) : mixF a b j j = a.getD j 0 := by simp [mixF]
theorem mixF_lt {a b : List Int} {j : Nat} (h : same8 (mixF a b j) (fun k => b.getD k 0) = false) : j < 8 := by
  rcases Nat.lt_or_ge j 8 with h8 | h8
  · exact h8
  · rw [same8_of (fun k hk => by rw [mixF, if_pos (by omega)])] at h; cases h
theorem mixF_done {a b : List Int} {j : Nat} (ha : a.length ≤ 8) (hb : b.length ≤ 8) (hj : j ≤ 8) (h : same8 (mixF a b j) (fun k => b.getD k 0) = true) : differUp a b j = differUp a b 8 := by
  have h1 := same8_all h
  have := differUp_more a b j (fun k hk => by
    rcases Nat.lt_or_ge k 8 with h8 | h8
    · have := h1 k h8
      rwa [mixF, if_neg (by omega)] at this
    · rw [getD_past a k (by omega), getD_past b k (by omega)]) (8 - j)
  rw [← this]; congr 1; omega

def DRel (a b : List Int) (w wr : World) (G5 G6 j : Nat) : Prop := Row wr G5 (mixF a b j) ∧ Row wr G6 (fun k => b.getD k 0) ∧ Below w.heap.size w wr

theorem below_new8 {B : Nat} {w0 w w' : World} {g : Nat} (h : Below B w0 w) (hB : B ≤ w.heap.size) (o : Obj) (hg : (w.alloc o).grownBy w' (some g)) (hBg : B ≤ g) : Below B w0 w' :=
  (h.alloc hB o).grown hg (by simp; omega) (fun k e => by cases e; exact hBg)

/- Two new arrays, one behind the other, as the walk lays them. -/
theorem two_rows (w : World) : Row ((w.alloc (.cells (rowA fun _ => 0) 78)).alloc (.cells (rowA fun _ => 0) 78)) w.heap.size (fun _ => 0) ∧
    Row ((w.alloc (.cells (rowA fun _ => 0) 78)).alloc (.cells (rowA fun _ => 0) 78)) (w.heap.size + 1) (fun _ => 0) := by
  refine ⟨(Row.new w _).alloc _, ?_⟩
  have := Row.new (w.alloc (.cells (rowA fun _ => 0) 78)) (fun _ => 0)
  simpa using this
theorem below_two {B : Nat} {w0 w w' : World} {g : Nat} (h : Below B w0 w) (hB : B ≤ w.heap.size) (o o' : Obj) (hg : ((w.alloc o).alloc o').grownBy w' (some g)) (hBg : B ≤ g) : Below B w0 w' :=
  ((h.alloc hB o).alloc (by simp; omega) o').grown hg (by simp; omega) (fun k e => by cases e; exact hBg)
end Go.Proofs.YteooloceaoinlaaDoor
/- Differ of the program answers what plain lists say. -/
namespace Go.Proofs.YteooloceaoinlaaDoor
open Go.ChangeShapes Go.WideShapes Go.ChangeAt Go.RowKit
end Go.Proofs.YteooloceaoinlaaDoor
/- Chosen of the program answers what plain lists say, in new memory. -/
namespace Go.Proofs.YteooloceaoinlaaDoor
open Go.ChangeShapes Go.WideShapes Go.ChangeAt Go.RowKit

def chF (a b : List Int) (s : Int) (j : Nat) : Nat → Int := fun k => if k < j ∧ inB s k = true then b.getD k 0 else a.getD k 0
theorem chF_zero (a b : List Int) (s : Int) : chF a b s 0 = fun k => a.getD k 0 := by funext k; simp [chF]
theorem chF_yes {a b : List Int} {s : Int} {j : Nat} (h : inB s j = true) : upd (chF a b s j) j (b.getD j 0) = chF a b s (j + 1) := by
  funext k
  unfold upd chF
  by_cases e : k = j
  · subst e; simp [h]
  · have : k < j + 1 ↔ k < j := by omega
    simp [e, this]
theorem chF_no {a b : List Int} {s : Int} {j : Nat} (h : inB s j = false) : chF a b s j = chF a b s (j + 1) := by
  funext k
  unfold chF
  by_cases e : k = j
  · subst e; simp [h]
  · have : k < j + 1 ↔ k < j := by omega
    simp [this]
theorem chF_list (a b : List Int) (s : Int) (n : Nat) : listF (chF a b s 8) n = chosenUp a b s 8 n := rfl

def CRel (a b : List Int) (s : Int) (w wr : World) (G5 G6 j : Nat) : Prop := Row wr G5 (chF a b s j) ∧ Row wr G6 (fun k => b.getD k 0) ∧ Below w.heap.size w wr
end Go.Proofs.YteooloceaoinlaaDoor
/- The program's disks: fresh, DiskOk, NewDisk, Loose, Written, Flushed and Lost answer what plain lists say, in new memory. -/
namespace Go.Proofs.YteooloceaoinlaaDoor
open Go.ChangeShapes Go.WideShapes Go.ChangeAt Go.RowKit

set_option maxRecDepth 20000 in
set_option maxHeartbeats 1000000 in
theorem newDisk_any (n : Int) (w : World) :
    Calls Tryd.prog 32 #[.int .i64 n] w fun e w' => ∃ a b, e = .returned (.tuple #[.agg #[a, b], .bool (cntOk n)]) ∧ OwnD w' w.heap.size a b (zerosI n) (zerosI n) ∧ Below w.heap.size w w' := by
  obtain ⟨w1, hw1⟩ : ∃ w1, w1 = w.alloc (.cells #[.slice none 0 0, .slice none 0 0] 24) := ⟨_, rfl⟩
  have p1 : Pair w1 w.heap.size 24 (.slice none 0 0) (.slice none 0 0) := by rw [hw1]; exact Pair.new w _ _ _
  have b1 : Below w.heap.size w w1 := by rw [hw1]; exact belowAlloc w _
  have hs1 : w.heap.size < w1.heap.size := by rw [hw1]; simp
  by_cases hc : cntOk n = true
  · rw [hc]
    obtain ⟨zs, hz⟩ : ∃ zs, zs = zerosI n := ⟨_, rfl⟩
    have c2 : ∀ w', _ := fun w' => new_any8 n w'
    rw [← hz] at c2 ⊢
    have c1 := cnt_any n w1
    rw [hc] at c1
    clear hz hc
    go_enter Tryd.func32, Tryd.ntmps32
    go_wp2_with fail
    rw [← hw1]
    clear hw1
    refine c1.mono ?_
    rintro e w' ⟨rfl, hw⟩; subst w'
    go_wp2_with fail
    refine (c2 w1).mono ?_
    rintro e w2 ⟨a, rfl, o2, b2⟩
    have HS : Hid (w.heap.size < w1.heap.size ∧ w1.heap.size ≤ w2.heap.size) := ⟨hs1, b2.size⟩
    replace p1 := p1.below b2
    replace b1 := b1.trans (b2.mono b1.size)
    clear b2 c1 hs1
    go_wp2_with fail
    refine (c2 w2).mono ?_
    rintro e w3 ⟨b, rfl, o3, b3⟩
    have hap := apart_of o2 o3 (Nat.le_refl _)
    replace o2 := o2.below b3
    replace p1 := p1.below b3
    replace b1 := b1.trans (b3.mono b1.size)
    obtain ⟨ao, ca, hea⟩ := o2.reads.form
    obtain ⟨bo, cb, heb⟩ := o3.reads.form
    subst hea heb
    have HO : Hid (Own w3 w1.heap.size _ zs ∧ Own w3 w2.heap.size _ zs ∧ apart _ _ ∧ Below w.heap.size w w3) := ⟨o2, o3, hap, b1⟩
    clear o2 o3 hap b1 b3 c2
    go_wp2_with (refine wpList_putP rfl _ _ rfl w.heap.size _ _ _ _ rfl rfl rfl rfl p1 ?_; intro w4 p4 g4)
    refine bodyPost_ret (results_pair2 rfl _ _ w.heap.size _ _ _ rfl rfl p4) rfl ?_
    obtain ⟨o2, o3, hap, b1⟩ := HO.out
    have hs := HS.out
    exact ⟨_, _, rfl, ⟨(o2.keptLt g4 (by omega)).mono (by omega), (o3.keptLt g4 (by omega)).mono (by omega), hap⟩, b1.grown g4 b1.size (fun k e => by cases e; omega)⟩
  · have hc' : cntOk n = false := by simpa using hc
    have HZ : Hid (zerosI n = []) := by simp [Hid, zerosI]; simp [cntOk] at hc'; omega
    have c1 := cnt_any n w1
    rw [hc'] at c1 ⊢
    clear hc hc'
    go_enter Tryd.func32, Tryd.ntmps32
    go_wp2_with fail
    rw [← hw1]
    clear hw1
    refine c1.mono ?_
    rintro e w' ⟨rfl, hw⟩; subst w'
    clear c1
    go_wp2_with (refine wpList_putP rfl _ _ rfl w.heap.size _ _ _ _ rfl rfl rfl rfl p1 ?_; intro w4 p4 g4)
    refine bodyPost_ret (results_pair2 rfl _ _ w.heap.size _ _ _ rfl rfl p4) rfl ?_
    rw [HZ.out]
    exact ⟨_, _, rfl, ownNil2 _ _, b1.grown g4 b1.size (fun k e => by cases e; omega)⟩
end Go.Proofs.YteooloceaoinlaaDoor
/- Keys as an array of four, and a holding that embeds them, by the program: keyOk, personOk, turnOk, registered, anyRegistered, keyRowOf, list. -/
namespace Go.Proofs.YteooloceaoinlaaDoor
open Go.ChangeShapes Go.WideShapes Go.ChangeAt Go.RowKit

def kA (f : Nat → Int) : Array Value := #[.int .i64 (f 0), .int .i64 (f 1), .int .i64 (f 2), .int .i64 (f 3)]
def KF (ks : List Int) : Nat → Int := fun j => ks.getD j 0
theorem four {p : Nat → Prop} (h0 : p 0) (h1 : p 1) (h2 : p 2) (h3 : p 3) : ∀ j, j < 4 → p j
  | 0, _ => h0 | 1, _ => h1 | 2, _ => h2 | 3, _ => h3
  | _ + 4, h => by omega
theorem Tryd.isKeyRow : (Tryd.prog.info? 70).map (·.size) = some 4 := by kernel_rfl
theorem Tryd.underK : Tryd.prog.underlying 70 = some (.array 4 2) := by kernel_rfl

def anyF (f : Nat → Int) : Bool := (f 0 != 0) || (f 1 != 0) || (f 2 != 0) || (f 3 != 0)
theorem run_eqK0 (f : Nat → Int) (w : World) : (Op.equalIn 10000 70 (.agg (kA f)) (.agg (kA fun _ => 0))).run Tryd.prog w = .ok (!anyF f) w := by
  obtain ⟨i0, hi, hz0, hz1, hz2⟩ := info_parts Tryd.infoI
  have hz : Tryd.prog.cellsOf 2 = 1 := by kernel_rfl
  have hu : Tryd.prog.underlying 2 = some (.int .i64) := by kernel_rfl
  rw [show (10000 : Nat) = 9998 + 1 + 1 from rfl, run_equalIn_array (i := i0) w (9998 + 1) _ _ Tryd.underK hi, hz]
  simp [List.range, List.range.loop, Op.eqItems, part, Sem.run_bind, sizeOf, typeInfo, hi, hz1, hu, kA, run_equalIn_int, anyF]
  (repeat' split) <;> simp_all
end Go.Proofs.YteooloceaoinlaaDoor
