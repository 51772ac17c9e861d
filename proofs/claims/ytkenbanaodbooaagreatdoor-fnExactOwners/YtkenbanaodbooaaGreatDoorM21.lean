/- Arrays of eight numbers compared; the set's own methods. -/
import Derived.Test.YtkenbanaodbooaaGreatDoorM20
import Derived.Laws.StructEq
import Derived.Test.YtkenbanaodbooaaGreatDoorM8
import Derived.ArgAppend
import Derived.Laws.CopyOwn
import Derived.Test.YtkenbanaodbooaaGreatDoorM4
import Derived.Test.YtkenbanaodbooaaGreatDoorM6
import Derived.MapKept
import Derived.Carry
import Derived.OwnWalk
import Derived.Deep.RegionHeld3
import Derived.Deep.DeepCutAuto
namespace Go.Proofs.YtkenbanaodbooaaGreatDoor
open Go.ChangeShapes Go.WideShapes Go.ChangeAt Go.RowKit

def same8 (f g : Nat → Int) : Bool := (f 0 == g 0) && ((f 1 == g 1) && ((f 2 == g 2) && ((f 3 == g 3) && ((f 4 == g 4) && ((f 5 == g 5) && ((f 6 == g 6) && (f 7 == g 7)))))))
theorem same8_all {f g : Nat → Int} (h : same8 f g = true) : ∀ j, j < 8 → f j = g j := by
  simp [same8] at h
  obtain ⟨h0, h1, h2, h3, h4, h5, h6, h7⟩ := h
  exact eight h0 h1 h2 h3 h4 h5 h6 h7
theorem same8_of {f g : Nat → Int} (h : ∀ j, j < 8 → f j = g j) : same8 f g = true := by
  simp [same8, h 0, h 1, h 2, h 3, h 4, h 5, h 6, h 7]

theorem run_eq8 (f g : Nat → Int) (w : World) : (Op.equalIn 10000 149 (.agg (rowA f)) (.agg (rowA g))).run Tryz.prog w = .ok (same8 f g) w := by
  obtain ⟨i0, hi, hz0, hz1, hz2⟩ := info_parts Tryz.infoI
  have hz : Tryz.prog.cellsOf 2 = 1 := by kernel_rfl
  have hu : Tryz.prog.underlying 2 = some (.int .i64) := by kernel_rfl
  rw [show (10000 : Nat) = 9998 + 1 + 1 from rfl, run_equalIn_array (i := i0) w (9998 + 1) _ _ Tryz.under8 hi, hz]
  simp [List.range, List.range.loop, Op.eqItems, part, Sem.run_bind, sizeOf, typeInfo, hi, hz1, hu, rowA, run_equalIn_int, same8]
  (repeat' split) <;> simp_all

set_option maxRecDepth 20000 in
set_option maxHeartbeats 400000 in
theorem bsok_any (s : Int) (w : World) :
    Calls Tryz.prog 86 #[.int .i64 s] w fun e w' => e = .returned (.bool (setOk s)) ∧ w' = w := by
  by_cases h0 : 0 ≤ s
  · by_cases h1 : s < 256
    · rw [setOk_pos h0 (by omega)]
      go_enter Tryz.func86, Tryz.ntmps86
      go_wp2
      go_ret
      exact ⟨ret_bool (by simp), rfl⟩
    · rw [setOk_neg (by omega)]
      go_enter Tryz.func86, Tryz.ntmps86
      go_wp2
      go_ret
      exact ⟨ret_bool (by simp), rfl⟩
  · rw [setOk_neg (by omega)]
    go_enter Tryz.func86, Tryz.ntmps86
    go_wp2
    go_ret
    exact ⟨ret_bool (by simp), rfl⟩

def mixF (a b : List Int) (j : Nat) : Nat → Int := fun k => if k < j then b.getD k 0 else a.getD k 0
theorem mixF_zero (a b : List Int) : mixF a b 0 = fun k => a.getD k 0 := by funext k; simp [mixF]
theorem mixF_step (a b : List Int) (j : Nat) : upd (mixF a b j) j (b.getD j 0) = mixF a b (j + 1) := by
  funext k
  unfold upd mixF
  by_cases e : k = j
  · subst e; simp
  · have : k < j + 1 ↔ k < j := by omega
    simp [e, this]
theorem mixF_skip (a b : List Int) (j : Nat) (h : a.getD j 0 = b.getD j 0) : mixF a b j = mixF a b (j + 1) := by
  funext k
  unfold mixF
  by_cases e : k = j
  · subst e; rw [if_neg (by omega), if_pos (by omega), h]
  · have : k < j + 1 ↔ k < j := by omega
    simp [this]
theorem mixF_at (a b : List Int) (j : Nat) : mixF a b j j = a.getD j 0 := by simp [mixF]
theorem mixF_lt {a b : List Int} {j : Nat} (h : same8 (mixF a b j) (fun k => b.getD k 0) = false) : j < 8 := by
  rcases Nat.lt_or_ge j 8 with h8 | h8
  · exact h8
  · rw [same8_of (fun k hk => by rw [mixF, if_pos (by omega)])] at h; cases h
theorem mixF_done {a b : List Int} {j : Nat} (ha : a.length ≤ 8) (hb : b.length ≤ 8) (hj : j ≤ 8) (h : same8 (mixF a b j) (fun k => b.getD k 0) = true) : differUp a b j = differUp a b 8 := by
  have h1 := same8_all h
  have := differUp_more a b j (fun k hk => by
    rcases Nat.lt_or_ge k 8 with h8 | h8
    · have := h1 k h8
      rwa [mixF, if_neg (by omega)] at this
    · rw [getD_past a k (by omega), getD_past b k (by omega)]) (8 - j)
  rw [← this]; congr 1; omega

def DRel (a b : List Int) (w wr : World) (G5 G6 j : Nat) : Prop := Row wr G5 (mixF a b j) ∧ Row wr G6 (fun k => b.getD k 0) ∧ Below w.heap.size w wr

theorem below_new8 {B : Nat} {w0 w w' : World} {g : Nat} (h : Below B w0 w) (hB : B ≤ w.heap.size) (o : Obj) (hg : (w.alloc o).grownBy w' (some g)) (hBg : B ≤ g) : Below B w0 w' :=
  (h.alloc hB o).grown hg (by simp; omega) (fun k e => by cases e; exact hBg)

/- Two new arrays, one behind the other, as the walk lays them. -/
theorem two_rows (w : World) : Row ((w.alloc (.cells (rowA fun _ => 0) 149)).alloc (.cells (rowA fun _ => 0) 149)) w.heap.size (fun _ => 0) ∧
    Row ((w.alloc (.cells (rowA fun _ => 0) 149)).alloc (.cells (rowA fun _ => 0) 149)) (w.heap.size + 1) (fun _ => 0) := by
  refine ⟨(Row.new w _).alloc _, ?_⟩
  have := Row.new (w.alloc (.cells (rowA fun _ => 0) 149)) (fun _ => 0)
  simpa using this
theorem below_two {B : Nat} {w0 w w' : World} {g : Nat} (h : Below B w0 w) (hB : B ≤ w.heap.size) (o o' : Obj) (hg : ((w.alloc o).alloc o').grownBy w' (some g)) (hBg : B ≤ g) : Below B w0 w' :=
  ((h.alloc hB o).alloc (by simp; omega) o').grown hg (by simp; omega) (fun k e => by cases e; exact hBg)
end Go.Proofs.YtkenbanaodbooaaGreatDoor
/- Differ of the program answers what plain lists say. -/
namespace Go.Proofs.YtkenbanaodbooaaGreatDoor
open Go.ChangeShapes Go.WideShapes Go.ChangeAt Go.RowKit
end Go.Proofs.YtkenbanaodbooaaGreatDoor
/- Chosen of the program answers what plain lists say, in new memory. -/
namespace Go.Proofs.YtkenbanaodbooaaGreatDoor
open Go.ChangeShapes Go.WideShapes Go.ChangeAt Go.RowKit

def chF (a b : List Int) (s : Int) (j : Nat) : Nat → Int := fun k => if k < j ∧ inB s k = true then b.getD k 0 else a.getD k 0
theorem chF_zero (a b : List Int) (s : Int) : chF a b s 0 = fun k => a.getD k 0 := by funext k; simp [chF]
theorem chF_yes {a b : List Int} {s : Int} {j : Nat} (h : inB s j = true) : upd (chF a b s j) j (b.getD j 0) = chF a b s (j + 1) := by
  funext k
  unfold upd chF
  by_cases e : k = j
  · subst e; simp [h]
  · have : k < j + 1 ↔ k < j := by omega
    simp [e, this]
theorem chF_no {a b : List Int} {s : Int} {j : Nat} (h : inB s j = false) : chF a b s j = chF a b s (j + 1) := by
  funext k
  unfold chF
  by_cases e : k = j
  · subst e; simp [h]
  · have : k < j + 1 ↔ k < j := by omega
    simp [this]
theorem chF_list (a b : List Int) (s : Int) (n : Nat) : listF (chF a b s 8) n = chosenUp a b s 8 n := rfl

def CRel (a b : List Int) (s : Int) (w wr : World) (G5 G6 j : Nat) : Prop := Row wr G5 (chF a b s j) ∧ Row wr G6 (fun k => b.getD k 0) ∧ Below w.heap.size w wr
end Go.Proofs.YtkenbanaodbooaaGreatDoor
/- The program's disks: fresh, DiskOk, NewDisk, Loose, Written, Flushed and Lost answer what plain lists say, in new memory. -/
namespace Go.Proofs.YtkenbanaodbooaaGreatDoor
open Go.ChangeShapes Go.WideShapes Go.ChangeAt Go.RowKit

set_option maxRecDepth 20000 in
set_option maxHeartbeats 1000000 in
theorem diskOk_any (u v : Value) (xs ys : List Int) (w : World) (h : Reads w u xs) (h' : Reads w v ys) (gx : xs.length ≤ 1099511627776) (gy : ys.length ≤ 1099511627776) :
    Calls Tryz.prog 100 #[.agg #[u, v]] w fun e w' => e = .returned (.bool (bothOk xs ys)) ∧ Below w.heap.size w w' := by
  obtain ⟨w1, hw1⟩ : ∃ w1, w1 = w.alloc (.cells #[u, v] 44) := ⟨_, rfl⟩
  have b1 : Below w.heap.size w w1 := by rw [hw1]; exact belowAlloc w _
  have c1 := rowsOf_any u v xs ys w1 (h.below b1 (Nat.le_refl _)) (h'.below b1 (Nat.le_refl _)) gx gy
  obtain ⟨bk, hbk⟩ : ∃ bk, bk = bothOk xs ys := ⟨_, rfl⟩
  obtain ⟨f, hf⟩ : ∃ f, f = rowF xs := ⟨_, rfl⟩
  obtain ⟨g, hg⟩ : ∃ g, g = rowF ys := ⟨_, rfl⟩
  rw [← hbk, ← hf, ← hg] at c1
  rw [← hbk]
  clear hbk hf hg h h'
  go_enter Tryz.func100, Tryz.ntmps100
  go_wp2_with fail
  rw [← hw1]
  clear hw1
  refine c1.mono ?_
  rintro e w2 ⟨rfl, b2⟩
  replace b2 := b1.trans (b2.mono b1.size)
  clear b1 c1
  go_wp2_with (refine wpList_put8 rfl _ _ rfl w2.heap.size f rfl rfl (fun _ => 0) (two_rows w2).1 ?_)
  intro w3 r3 g3
  have b3 : Below w.heap.size w w3 := below_two b2 b2.size _ _ g3 b2.size
  have q3 : Row w3 (w2.heap.size + 1) (fun _ => 0) := (two_rows w2).2.kept g3 (by simp)
  have HG : Hid (w.heap.size ≤ w2.heap.size) := b2.size
  clear g3 b2
  go_wp2_with (refine wpList_put8 rfl _ _ rfl (w2.heap.size + 1) g rfl rfl (fun _ => 0) q3 ?_)
  intro w4 q4 g4
  have b4 : Below w.heap.size w w4 := b3.grown g4 b3.size (fun k e => by cases e; have := HG.out; omega)
  clear g4 b3 q3 q4 r3
  go_wp2_with fail
  go_ret
  exact ⟨rfl, b4⟩
end Go.Proofs.YtkenbanaodbooaaGreatDoor
/- Keys as an array of four, and a holding that embeds them, by the program: keyOk, personOk, turnOk, registered, anyRegistered, keyRowOf, list. -/
namespace Go.Proofs.YtkenbanaodbooaaGreatDoor
open Go.ChangeShapes Go.WideShapes Go.ChangeAt Go.RowKit

def kA (f : Nat → Int) : Array Value := #[.int .i64 (f 0), .int .i64 (f 1), .int .i64 (f 2), .int .i64 (f 3)]
def KF (ks : List Int) : Nat → Int := fun j => ks.getD j 0
theorem four {p : Nat → Prop} (h0 : p 0) (h1 : p 1) (h2 : p 2) (h3 : p 3) : ∀ j, j < 4 → p j
  | 0, _ => h0 | 1, _ => h1 | 2, _ => h2 | 3, _ => h3
  | _ + 4, h => by omega
theorem Tryz.isKeyRow : (Tryz.prog.info? 153).map (·.size) = some 4 := by kernel_rfl
theorem Tryz.underK : Tryz.prog.underlying 153 = some (.array 4 2) := by kernel_rfl

set_option maxRecDepth 20000 in
set_option maxHeartbeats 400000 in
theorem ikeyok_any (x : Int) (w : World) :
    Calls Tryz.prog 136 #[.int .i64 x] w fun e w' => e = .returned (.bool (inI x 0 9999)) ∧ w' = w := by
  by_cases h0 : 0 ≤ x
  · by_cases h1 : x ≤ 9999
    · rw [show inI x 0 9999 = true by simp [inI, h0, h1]]
      go_enter Tryz.func136, Tryz.ntmps136
      go_wp2
      go_ret
      exact ⟨ret_bool (by simp), rfl⟩
    · rw [show inI x 0 9999 = false by simp [inI]; omega]
      go_enter Tryz.func136, Tryz.ntmps136
      go_wp2
      go_ret
      exact ⟨ret_bool (by simp), rfl⟩
  · rw [show inI x 0 9999 = false by simp [inI]; omega]
    go_enter Tryz.func136, Tryz.ntmps136
    go_wp2
    go_ret
    exact ⟨ret_bool (by simp), rfl⟩

set_option maxRecDepth 20000 in
set_option maxHeartbeats 400000 in
theorem iturnok_any (x : Int) (w : World) :
    Calls Tryz.prog 109 #[.int .i64 x] w fun e w' => e = .returned (.bool (inI x 0 1000000000)) ∧ w' = w := by
  by_cases h0 : 0 ≤ x
  · by_cases h1 : x ≤ 1000000000
    · rw [show inI x 0 1000000000 = true by simp [inI, h0, h1]]
      go_enter Tryz.func109, Tryz.ntmps109
      go_wp2
      go_ret
      exact ⟨ret_bool (by simp), rfl⟩
    · rw [show inI x 0 1000000000 = false by simp [inI]; omega]
      go_enter Tryz.func109, Tryz.ntmps109
      go_wp2
      go_ret
      exact ⟨ret_bool (by simp), rfl⟩
  · rw [show inI x 0 1000000000 = false by simp [inI]; omega]
    go_enter Tryz.func109, Tryz.ntmps109
    go_wp2
    go_ret
    exact ⟨ret_bool (by simp), rfl⟩

set_option maxRecDepth 20000 in
set_option maxHeartbeats 400000 in
theorem iperson_any (x : Int) (w : World) :
    Calls Tryz.prog 83 #[.int .i64 x] w fun e w' => e = .returned (.bool (inI x 0 3)) ∧ w' = w := by
  by_cases h0 : 0 ≤ x
  · by_cases h1 : x < 4
    · rw [show inI x 0 3 = true by simp [inI, h0]; omega]
      go_enter Tryz.func83, Tryz.ntmps83
      go_wp2
      go_ret
      exact ⟨ret_bool (by simp), rfl⟩
    · rw [show inI x 0 3 = false by simp [inI]; omega]
      go_enter Tryz.func83, Tryz.ntmps83
      go_wp2
      go_ret
      exact ⟨ret_bool (by simp), rfl⟩
  · rw [show inI x 0 3 = false by simp [inI]; omega]
    go_enter Tryz.func83, Tryz.ntmps83
    go_wp2
    go_ret
    exact ⟨ret_bool (by simp), rfl⟩

set_option maxRecDepth 20000 in
set_option maxHeartbeats 1000000 in
theorem iregd_any (f : Nat → Int) (i : Int) (w : World) :
    Calls Tryz.prog 140 #[.agg (kA f), .int .i64 i] w fun e w' => e = .returned (.bool (inI i 0 3 && decide (f i.toNat ≠ 0))) ∧ Below w.heap.size w w' := by
  have b1 : Below w.heap.size w (w.alloc (.cells (kA f) 153)) := (Below.refl _ _).alloc (Nat.le_refl _) _
  have H1 : StB (w.alloc (.cells (kA f) 153)) w.heap.size 153 (kA f) := StB.new _ _ _
  have c1 := fun wx => iperson_any i wx
  by_cases h : 0 ≤ i ∧ i < 4
  · have hin : inI i 0 3 = true := by simp [inI]; omega
    simp only [hin] at c1 ⊢
    obtain ⟨j, hj, hj4⟩ : ∃ j : Nat, i = (j : Int) ∧ j < 4 := ⟨i.toNat, by omega, by omega⟩
    subst hj
    obtain ⟨y, hy⟩ : ∃ y, y = f j := ⟨_, rfl⟩
    have hc : (w.alloc (.cells (kA f) 153)).cell? ⟨w.heap.size, j, none⟩ = some (.int .i64 y) := by
      rw [hy]; exact H1.cell j (four (p := fun j => (kA f)[j]? = some (.int .i64 (f j))) rfl rfl rfl rfl j hj4)
    have HY : Hid (y = f j) := hy
    have hl : (j : Int) < 4 := by omega
    clear hin hy h H1
    unfold kA at *
    by_cases y0 : y = 0
    · go_enter Tryz.func140, Tryz.ntmps140
      go_wp2_with (first | (go_at_call 83; refine (c1 _).mono ?_; rintro e w' ⟨rfl, hw⟩; subst w'))
      go_ret
      exact ⟨ret_bool (by simp [← HY.out, y0]), b1⟩
    · have hyn : (y != 0) = true := by simpa using y0
      go_enter Tryz.func140, Tryz.ntmps140
      go_wp2_with (first | (go_at_call 83; refine (c1 _).mono ?_; rintro e w' ⟨rfl, hw⟩; subst w'))
      go_ret
      exact ⟨ret_bool (by simp [← HY.out, y0]), b1⟩
  · have hin : inI i 0 3 = false := by simp [inI]; omega
    simp only [hin] at c1 ⊢
    clear h hin H1
    unfold kA at *
    go_enter Tryz.func140, Tryz.ntmps140
    go_wp2_with (first | (go_at_call 83; refine (c1 _).mono ?_; rintro e w' ⟨rfl, hw⟩; subst w'))
    go_ret
    exact ⟨ret_bool (by simp), b1⟩

def anyF (f : Nat → Int) : Bool := (f 0 != 0) || (f 1 != 0) || (f 2 != 0) || (f 3 != 0)
theorem run_eqK0 (f : Nat → Int) (w : World) : (Op.equalIn 10000 153 (.agg (kA f)) (.agg (kA fun _ => 0))).run Tryz.prog w = .ok (!anyF f) w := by
  obtain ⟨i0, hi, hz0, hz1, hz2⟩ := info_parts Tryz.infoI
  have hz : Tryz.prog.cellsOf 2 = 1 := by kernel_rfl
  have hu : Tryz.prog.underlying 2 = some (.int .i64) := by kernel_rfl
  rw [show (10000 : Nat) = 9998 + 1 + 1 from rfl, run_equalIn_array (i := i0) w (9998 + 1) _ _ Tryz.underK hi, hz]
  simp [List.range, List.range.loop, Op.eqItems, part, Sem.run_bind, sizeOf, typeInfo, hi, hz1, hu, kA, run_equalIn_int, anyF]
  (repeat' split) <;> simp_all

set_option maxRecDepth 20000 in
set_option maxHeartbeats 1000000 in
theorem ianyreg_any (f : Nat → Int) (w : World) :
    Calls Tryz.prog 138 #[.agg (kA f)] w fun e w' => e = .returned (.bool (anyF f)) ∧ Below w.heap.size w w' := by
  have b1 : Below w.heap.size w (w.alloc (.cells (kA f) 153)) := (Below.refl _ _).alloc (Nat.le_refl _) _
  have he := run_eqK0 f (w.alloc (.cells (kA f) 153))
  obtain ⟨x, hx⟩ : ∃ x, x = anyF f := ⟨_, rfl⟩
  rw [← hx] at he ⊢
  clear hx
  unfold kA at *
  cases x with
  | false =>
    go_enter Tryz.func138, Tryz.ntmps138
    go_wp2
    go_ret
    exact ⟨rfl, b1⟩
  | true =>
    go_enter Tryz.func138, Tryz.ntmps138
    go_wp2
    go_ret
    exact ⟨rfl, b1⟩
end Go.Proofs.YtkenbanaodbooaaGreatDoor
/- Keys as an array of four, on: read from a list, and as a list of their own. -/
namespace Go.Proofs.YtkenbanaodbooaaGreatDoor
open Go.ChangeShapes Go.WideShapes Go.ChangeAt Go.RowKit

theorem kA_size (f : Nat → Int) : (kA f).size = 4 := rfl
theorem kA_one (f : Nat → Int) : (kA f).all (·.oneCell') = true := by simp [kA, Value.oneCell']
theorem kA_at (f : Nat → Int) : ∀ j, j < 4 → (kA f)[j]? = some (.int .i64 (f j)) := four rfl rfl rfl rfl
def updF (f : Nat → Int) (j : Nat) (x : Int) : Nat → Int := fun k => if k = j then x else f k
theorem kA_set (f : Nat → Int) (x : Int) : ∀ j, j < 4 → (kA f).setIfInBounds j (.int .i64 x) = kA (updF f j x) := four rfl rfl rfl rfl
theorem kA_congr {f g : Nat → Int} (h : ∀ j, j < 4 → f j = g j) : kA f = kA g := by
  simp [kA, h 0, h 1, h 2, h 3]
def partK (xs : List Int) (j : Nat) : Nat → Int := fun k => if k < j then xs.getD k 0 else 0
theorem partK_step (xs : List Int) (j : Nat) : updF (partK xs j) j (xs.getD j 0) = partK xs (j + 1) := by
  funext k
  unfold updF partK
  by_cases e : k = j
  · subst e; simp
  · have : k < j + 1 ↔ k < j := by omega
    simp [e, this]
theorem partK_zero (xs : List Int) : partK xs 0 = fun _ => 0 := by funext k; simp [partK]
theorem partK_full (xs : List Int) : partK xs xs.length = KF xs := by
  funext k
  unfold partK KF
  split
  · rfl
  · rw [List.getD_eq_getElem?_getD, List.getElem?_eq_none (by omega)]; rfl
def rowOk (ks : List Int) : Bool := decide (ks.length = 4) && keysI ks
def rowKF (ks : List Int) : Nat → Int := fun j => if rowOk ks then ks.getD j 0 else 0
theorem rowKF_yes {xs : List Int} (h : rowOk xs = true) : rowKF xs = KF xs := by funext k; simp [rowKF, KF, h]
theorem rowKF_no {xs : List Int} (h : rowOk xs = false) : rowKF xs = fun _ => 0 := by funext k; simp [rowKF, h]

theorem wpList_getK {ops : Array Oper} {rest : List Oper} {o : Oper} {a : Act} {w : World} {Q : Exit → Act → World → Prop} (hgd : o.guard = none) (x : Operand) (ho : o.op = .load 153 x)
    (g : Nat) (hx : a.eval x = .pointer (some ⟨g, 0, none⟩)) (f : Nat → Int) (hr : StB w g 153 (kA f))
    (h : wpList Tryz.prog ops Q rest (a.put o.dst (.agg (kA f))) w) : wpList Tryz.prog ops Q (o :: rest) a w :=
  wpList_load_row hgd _ x ho g hx _ _ _ _ hr Tryz.underK rfl Tryz.isKeyRow h
theorem wpList_putK {ops : Array Oper} {rest : List Oper} {o : Oper} {a : Act} {w : World} {Q : Exit → Act → World → Prop} (hgd : o.guard = none) (x y : Operand) (ho : o.op = .store 153 x y)
    (g : Nat) (f : Nat → Int) (hx : a.eval x = .pointer (some ⟨g, 0, none⟩)) (hy : a.eval y = .agg (kA f)) (old : Nat → Int) (hr : StB w g 153 (kA old))
    (h : ∀ w', StB w' g 153 (kA f) → w.grownBy w' (some g) → wpList Tryz.prog ops Q rest (a.put o.dst undef) w') : wpList Tryz.prog ops Q (o :: rest) a w :=
  wpList_store_row hgd _ x y ho g (kA f) hx hy _ _ hr Tryz.isKeyRow rfl (kA_one f) (h _ (setRow_heap w g _ _ _ _ hr) (grownRowS w g _))
theorem results_K {fn : Func} {p u : Tmp} (h : fn.results = #[.cell p 153, .tmp u]) (tmps : Array Value) (w : World) (g : Nat) (f : Nat → Int) (x : Value)
    (hp : tmps.getD p undef = .pointer (some ⟨g, 0, none⟩)) (hx : tmps.getD u undef = x) (hr : StB w g 153 (kA f)) :
    (results fn tmps).run Tryz.prog w = .ok (.tuple #[.agg (kA f), x]) w := by
  rw [results_cell_tmp h, hp, hx]
  simp only [asAddr, Sem.run_pure, Result.andThen_ok]
  rw [run_loadVar_row w g _ _ _ _ _ hr Tryz.underK rfl Tryz.isKeyRow]
  rfl

def KRel (xs : List Int) (w wr : World) (j : Nat) : Prop := StB wr w.heap.size 153 (kA fun _ => 0) ∧ StB wr (w.heap.size + 1) 153 (kA (partK xs j)) ∧ keysI (xs.take j) = true ∧ Below w.heap.size w wr
theorem KRel.start (xs : List Int) (w : World) : KRel xs w ((w.alloc (.cells (kA fun _ => 0) 153)).alloc (.cells (kA fun _ => 0) 153)) 0 := by
  refine ⟨(StB.new w _ _).alloc _, ?_, by simp [keysI], ((Below.refl _ _).alloc (Nat.le_refl _) _).alloc (by simp) _⟩
  have := StB.new (w.alloc (.cells (kA fun _ => 0) 153)) 153 (kA fun _ => 0)
  rw [partK_zero]
  simpa using this

set_option maxRecDepth 20000 in
set_option maxHeartbeats 1000000 in
theorem ikeyrow_any (v : Value) (xs : List Int) (w : World) (h : Reads w v xs) (hbig : xs.length ≤ 1099511627776) :
    Calls Tryz.prog 125 #[v] w fun e w' => e = .returned (.tuple #[.agg (kA (rowKF xs)), .bool (rowOk xs)]) ∧ Below w.heap.size w w' := by
  obtain ⟨ao, cap, rfl⟩ := reads_form h
  obtain ⟨-, la, ma, hcell⟩ := reads_cells h
  have HR0 : Hid (Reads w (.slice ao xs.length cap) xs) := h
  clear h
  obtain ⟨n, hn⟩ : ∃ n, n = xs.length := ⟨_, rfl⟩
  rw [← hn] at la hcell hbig HR0 ⊢
  have HN : Hid (n = xs.length) := hn
  clear hn
  unfold maxLen at ma
  by_cases hc : n = 4
  · subst hc
    go_enter Tryz.func125, Tryz.ntmps125
    go_wp2_with fail
    go_loopw [14] (fun i wr => ∃ j : Nat, j ≤ 4 ∧ i = .int .i64 j ∧ Hid (KRel xs w wr j)) (fun i _ => 4 - (intOf i).toNat)
    case atStart => exact ⟨0, Nat.zero_le _, rfl, KRel.start xs w⟩
    case round =>
      obtain ⟨j, hj, rfl, HR⟩ := hrel
      by_cases hlt : (j : Int) < 4
      · obtain ⟨-, -, -, hcell'⟩ := reads_cells (HR0.out.below HR.out.2.2.2 (Nat.le_refl _))
        obtain ⟨b, off, rfl, hc1⟩ := hcell' j (by omega)
        obtain ⟨x, hx⟩ : ∃ x, x = xs.getD j 0 := ⟨_, rfl⟩
        rw [← hx] at hc1
        clear hcell hcell'
        by_cases hv : inI x 0 9999 = true
        · have hfr := HR.out.2.1.frozen j
          have hcc := HR.out.2.1.cell j (kA_at _ j (by omega))
          have HS : Hid (KRel xs w (wr.setCell ⟨w.heap.size + 1, j, none⟩ (.int .i64 x)) (j + 1)) := by
            obtain ⟨r1, r2, r3, r4⟩ := HR.out
            refine ⟨r1.other _ _ (by simp), ?_, keys_take xs j (by have := HN.out; omega) r3 (by rw [← hx]; exact hv), r4.setCell (by simp) _⟩
            refine r2.put j (.int .i64 x) ?_
            rw [kA_set _ _ j (by omega), hx, partK_step]
          clear hx HR
          go_wp2_with (first | (go_at_call 136; refine (ikeyok_any _ _).mono ?_; rw [hv]; rintro e w' ⟨rfl, hw⟩; subst w'))
          go_roundw
          case rel => exact ⟨j + 1, by omega, by go_num, HS⟩
          case measure => simp [intOf]; omega
        · have hv' : inI x 0 9999 = false := by simpa using hv
          have HB : Hid (rowOk xs = false) := by
            simp [Hid, rowOk, keys_not xs j (by have := HN.out; omega) (by rw [← hx]; exact hv')]
          have hrow := HR.out.1
          clear hx hv
          go_wp2_with (first | (go_at_call 136; refine (ikeyok_any _ _).mono ?_; rw [hv']; rintro e w' ⟨rfl, hw⟩; subst w') | (refine wpList_putK rfl _ _ rfl w.heap.size (fun _ => 0) rfl rfl _ hrow ?_; intro w3 h3 g3))
          refine bodyPost_ret (results_K rfl _ _ w.heap.size (fun _ => 0) _ rfl rfl h3) rfl ?_
          rw [HB.out, rowKF_no HB.out]
          exact ⟨rfl, HR.out.2.2.2.grown g3 HR.out.2.2.2.size (fun k e => by cases e; exact Nat.le_refl _)⟩
      · have hrow := HR.out.1
        have hrow2 := HR.out.2.1
        go_wp2_with (first | (refine wpList_getK rfl _ rfl (w.heap.size + 1) rfl _ hrow2 ?_) | (refine wpList_putK rfl _ _ rfl w.heap.size (partK xs j) rfl rfl _ hrow ?_; intro w3 h3 g3))
        refine bodyPost_ret (results_K rfl _ _ w.heap.size (partK xs j) _ rfl rfl h3) rfl ?_
        have e : j = xs.length := by have := HN.out; omega
        have HB : rowOk xs = true := by
          have := HR.out.2.2.1
          rw [e, List.take_length] at this
          simp [rowOk, this, ← HN.out]
        rw [HB, rowKF_yes HB, e, partK_full]
        exact ⟨rfl, HR.out.2.2.2.grown g3 HR.out.2.2.2.size (fun k e => by cases e; exact Nat.le_refl _)⟩
  · have hn4 : ((n : Int) != 4) = true := by simp; omega
    have HB : Hid (rowOk xs = false) := by
      have := HN.out
      simp [Hid, rowOk]; intro h; omega
    have hrow := (KRel.start xs w).1
    have hz : StB (w.alloc (.cells (kA fun _ => 0) 153)) w.heap.size 153 (kA fun _ => 0) := StB.new _ _ _
    have hzB : Below w.heap.size w (w.alloc (.cells (kA fun _ => 0) 153)) := (Below.refl _ _).alloc (Nat.le_refl _) _
    clear hrow hcell
    go_enter Tryz.func125, Tryz.ntmps125
    go_wp2_with (first | (refine wpList_putK rfl _ _ rfl w.heap.size (fun _ => 0) rfl rfl _ hz ?_; intro w3 h3 g3))
    refine bodyPost_ret (results_K rfl _ _ w.heap.size (fun _ => 0) _ rfl rfl h3) rfl ?_
    rw [HB.out, rowKF_no HB.out]
    exact ⟨rfl, hzB.grown g3 hzB.size (fun k e => by cases e; exact Nat.le_refl _)⟩
end Go.Proofs.YtkenbanaodbooaaGreatDoor
/- A table keyed by two truths, in a block: what it holds, and the runs of Go's operations on it. -/
namespace Go.Proofs.YtkenbanaodbooaaGreatDoor
open Go.ChangeShapes Go.WideShapes Go.ChangeAt Go.RowKit

def keyB (x y : Bool) : Value := .agg #[.bool x, .bool y]
def entB (p : Bool × Bool × Nat) : MapEntry := ⟨keyB p.1 p.2.1, .int .i64 1, p.2.2⟩

def findB (x y : Bool) : List (Bool × Bool × Nat) → Nat → Option (Nat × Value)
  | [], _ => none
  | p :: l, i => if (x == p.1 && y == p.2.1) = true then some (i, .int .i64 1) else findB x y l (i + 1)
def delB (x y : Bool) : List (Bool × Bool × Nat) → List (Bool × Bool × Nat)
  | [] => []
  | p :: l => if (x == p.1 && y == p.2.1) = true then l else p :: delB x y l
def hasBK (l : List (Bool × Bool × Nat)) (x y : Bool) : Bool := l.any fun p => x == p.1 && y == p.2.1
def ApartB (l : List (Bool × Bool × Nat)) : Prop := l.Pairwise fun p q => (p.1 == q.1 && p.2.1 == q.2.1) = false

theorem findB_nil (x y : Bool) (l : List (Bool × Bool × Nat)) : ∀ i, hasBK l x y = false → findB x y l i = none ∧ delB x y l = l := by
  induction l with
  | nil => intro i _; exact ⟨rfl, rfl⟩
  | cons p l ih =>
    intro i h
    simp only [hasBK, List.any_cons, Bool.or_eq_false_iff] at h
    obtain ⟨h1, h2⟩ := ih (i + 1) h.2
    simp [findB, delB, h.1, h1, h2]
theorem findB_some (x y : Bool) (l : List (Bool × Bool × Nat)) : ∀ i, hasBK l x y = true → ∃ j, findB x y l i = some (i + j, .int .i64 1) ∧ l.eraseIdx j = delB x y l := by
  induction l with
  | nil => intro i h; cases h
  | cons p l ih =>
    intro i h
    by_cases hb : (x == p.1 && y == p.2.1) = true
    · exact ⟨0, by simp [findB, hb], by simp [delB, hb]⟩
    · have h' : hasBK l x y = true := by
        simp only [hasBK, List.any_cons, Bool.or_eq_true] at h
        rcases h with h | h
        · exact absurd h hb
        · exact h
      obtain ⟨j, h1, h2⟩ := ih (i + 1) h'
      refine ⟨j + 1, ?_, ?_⟩
      · unfold findB
        rw [if_neg hb, h1]
        simp [Nat.add_assoc, Nat.add_comm 1 j]
      · unfold delB
        rw [if_neg hb, ← h2]
        rfl
theorem del_sub (x y : Bool) (l : List (Bool × Bool × Nat)) : (delB x y l).Sublist l := by
  induction l with
  | nil => exact List.Sublist.refl _
  | cons p l ih =>
    unfold delB
    split
    · exact List.sublist_cons_self _ _
    · exact ih.cons_cons _
theorem has_del (x y a b : Bool) (l : List (Bool × Bool × Nat)) (h : ApartB l) : hasBK (delB x y l) a b = (hasBK l a b && !(a == x && b == y)) := by
  induction l with
  | nil => rfl
  | cons p l ih =>
    have h2 := List.pairwise_cons.1 h
    have ih := ih h2.2
    obtain ⟨p1, p2, n⟩ := p
    unfold delB
    by_cases hb : (x == p1 && y == p2) = true
    · rw [if_pos hb]
      have hno : hasBK l p1 p2 = false := by
        unfold hasBK
        rw [List.any_eq_false]
        intro q hq
        simpa using h2.1 q hq
      simp only [Bool.and_eq_true, beq_iff_eq] at hb
      obtain ⟨rfl, rfl⟩ := hb
      by_cases ha : (a == x && b == y) = true
      · simp only [Bool.and_eq_true, beq_iff_eq] at ha
        obtain ⟨rfl, rfl⟩ := ha
        rw [hno]; simp
      · have ha' : (a == x && b == y) = false := by simpa using ha
        simp only [hasBK, List.any_cons, ha', Bool.false_or, Bool.not_false, Bool.and_true]
    · rw [if_neg hb]
      simp only [hasBK, List.any_cons] at ih ⊢
      rw [ih]
      have hb' : (x == p1 && y == p2) = false := by simpa using hb
      revert hb'
      cases a <;> cases b <;> cases x <;> cases y <;> cases p1 <;> cases p2 <;> simp

/- Block b of w holds a table of the pairs at which t is true, each with 1. -/
def MB (w : World) (b : Nat) (t : Bool → Bool → Bool) : Prop :=
  ∃ l clock, w.heap[b]? = some (.map (l.map entB).toArray clock) ∧ ApartB l ∧ ∀ x y, hasBK l x y = t x y
theorem MB.of (w w' : World) (b : Nat) (t : Bool → Bool → Bool) (h : MB w b t) (e : w'.heap[b]? = w.heap[b]?) : MB w' b t := by
  obtain ⟨l, c, hb, ha, ht⟩ := h
  exact ⟨l, c, e.trans hb, ha, ht⟩
theorem MB.eq {w : World} {b : Nat} {t s : Bool → Bool → Bool} (h : MB w b t) (e : ∀ x y, t x y = s x y) : MB w b s := by
  obtain ⟨l, c, hb, ha, ht⟩ := h
  exact ⟨l, c, hb, ha, fun x y => (ht x y).trans (e x y)⟩
theorem MB.lt {w : World} {b : Nat} {t : Bool → Bool → Bool} (h : MB w b t) : b < w.heap.size := by
  obtain ⟨l, c, hb, _, _⟩ := h
  exact (Array.getElem?_eq_some_iff.1 hb).1

def putT (t : Bool → Bool → Bool) (x y : Bool) : Bool → Bool → Bool := fun a b => t a b || (a == x && b == y)
def delT (t : Bool → Bool → Bool) (x y : Bool) : Bool → Bool → Bool := fun a b => t a b && !(a == x && b == y)
end Go.Proofs.YtkenbanaodbooaaGreatDoor
/- Kinds by the program: shapes, the table of a kind, KindOk, ForAll. -/
namespace Go.Proofs.YtkenbanaodbooaaGreatDoor
open Go.ChangeShapes Go.WideShapes Go.ChangeAt Go.RowKit

def heldI (k : Int) : Int := if k = 1 then 1 else if k = 2 then 1 else if k = 3 then 2 else if k = 4 then 2 else if k = 5 then 3 else if k = 6 then 3 else 0
def whatI (k : Int) : Int := if k = 1 then 1 else if k = 2 then 2 else if k = 3 then 1 else if k = 4 then 2 else if k = 5 then 1 else if k = 6 then 2 else 0

theorem Tryz.isShape : IsS 176 2 := ⟨⟨_, Tryz.underlying176⟩, by kernel_rfl⟩

set_option maxRecDepth 20000 in
set_option maxHeartbeats 400000 in
theorem ishape_any (k : Int) (w : World) :
    Calls Tryz.prog 146 #[.int .i64 k] w fun e w' => e = .returned (.agg #[.int .i64 (heldI k), .int .i64 (whatI k)]) ∧ Below w.heap.size w w' := by
  have b1 := (Below.refl w.heap.size w).alloc (Nat.le_refl _)
  rcases kinds k with h | h | h | h | h | h | h | ⟨_, h0, h1, h2, h3, h4, h5, h6⟩
  · subst h
    go_enter Tryz.func146, Tryz.ntmps146
    go_wp2
    refine bodyPost_ret (results_S Tryz.isShape rfl _ _ w.heap.size _ rfl rfl (StB.new w _ _)) rfl ?_
    exact ⟨rfl, b1 _⟩
  · subst h
    go_enter Tryz.func146, Tryz.ntmps146
    go_wp2
    refine bodyPost_ret (results_S Tryz.isShape rfl _ _ w.heap.size _ rfl rfl (StB.new w _ _)) rfl ?_
    exact ⟨rfl, b1 _⟩
  · subst h
    go_enter Tryz.func146, Tryz.ntmps146
    go_wp2
    refine bodyPost_ret (results_S Tryz.isShape rfl _ _ w.heap.size _ rfl rfl (StB.new w _ _)) rfl ?_
    exact ⟨rfl, b1 _⟩
  · subst h
    go_enter Tryz.func146, Tryz.ntmps146
    go_wp2
    refine bodyPost_ret (results_S Tryz.isShape rfl _ _ w.heap.size _ rfl rfl (StB.new w _ _)) rfl ?_
    exact ⟨rfl, b1 _⟩
  · subst h
    go_enter Tryz.func146, Tryz.ntmps146
    go_wp2
    refine bodyPost_ret (results_S Tryz.isShape rfl _ _ w.heap.size _ rfl rfl (StB.new w _ _)) rfl ?_
    exact ⟨rfl, b1 _⟩
  · subst h
    go_enter Tryz.func146, Tryz.ntmps146
    go_wp2
    refine bodyPost_ret (results_S Tryz.isShape rfl _ _ w.heap.size _ rfl rfl (StB.new w _ _)) rfl ?_
    exact ⟨rfl, b1 _⟩
  · subst h
    go_enter Tryz.func146, Tryz.ntmps146
    go_wp2
    refine bodyPost_ret (results_S Tryz.isShape rfl _ _ w.heap.size _ rfl rfl (StB.new w _ _)) rfl ?_
    exact ⟨rfl, b1 _⟩
  · have he : heldI k = 0 := by simp [heldI, h1, h2, h3, h4, h5, h6]
    have hf : whatI k = 0 := by simp [whatI, h1, h2, h3, h4, h5, h6]
    rw [he, hf]
    clear he hf
    go_enter Tryz.func146, Tryz.ntmps146
    go_wp2
    refine bodyPost_ret (results_S Tryz.isShape rfl _ _ w.heap.size _ rfl rfl (StB.new w _ _)) rfl ?_
    exact ⟨rfl, b1 _⟩

set_option maxRecDepth 20000 in
set_option maxHeartbeats 400000 in
theorem ikind_any (k : Int) (w : World) :
    Calls Tryz.prog 139 #[.int .i64 k] w fun e w' => e = .returned (.bool (kiI k)) ∧ Below w.heap.size w w' := by
  have c1 := ishape_any k w
  rcases kinds k with h | h | h | h | h | h | h | ⟨hk, h0, h1, h2, h3, h4, h5, h6⟩
  all_goals first
    | (subst h
       go_enter Tryz.func139, Tryz.ntmps139
       go_wp2_with fail
       refine c1.mono ?_
       rintro e w2 ⟨rfl, b2⟩
       go_wp2
       go_ret
       exact ⟨rfl, b2⟩)
    | (have he : heldI k = 0 := by simp [heldI, h1, h2, h3, h4, h5, h6]
       have hf : whatI k = 0 := by simp [whatI, h1, h2, h3, h4, h5, h6]
       rw [he, hf] at c1
       rw [hk]
       clear he hf
       go_enter Tryz.func139, Tryz.ntmps139
       go_wp2_with fail
       refine c1.mono ?_
       rintro e w2 ⟨rfl, b2⟩
       go_wp2
       go_ret
       exact ⟨rfl, b2⟩)

theorem allI_held (k : Int) : allI k = decide (heldI k = 3) := by
  rcases kinds k with h | h | h | h | h | h | h | ⟨hk, h0, h1, h2, h3, h4, h5, h6⟩
  all_goals first | (subst h; rfl) | (rw [none_all k hk, show heldI k = 0 by simp [heldI, h1, h2, h3, h4, h5, h6]]; rfl)

set_option maxRecDepth 20000 in
set_option maxHeartbeats 400000 in
theorem iall_any (k : Int) (w : World) :
    Calls Tryz.prog 137 #[.int .i64 k] w fun e w' => e = .returned (.bool (allI k)) ∧ Below w.heap.size w w' := by
  have c1 := ishape_any k w
  rw [allI_held]
  obtain ⟨p, hp⟩ : ∃ p, p = heldI k := ⟨_, rfl⟩
  obtain ⟨q, hq⟩ : ∃ q, q = whatI k := ⟨_, rfl⟩
  rw [← hp, ← hq] at c1
  rw [← hp]
  clear hp hq
  go_enter Tryz.func137, Tryz.ntmps137
  go_wp2_with fail
  refine c1.mono ?_
  rintro e w2 ⟨rfl, b2⟩
  have hf : ∀ wx, (Instr.field 176 (.agg #[.int .i64 p, .int .i64 q]) 0).run Tryz.prog wx = .ok (.int .i64 p) wx := fun wx => by kernel_rfl
  go_wp2
  go_ret
  exact ⟨ret_bool (by by_cases h : p = 3 <;> simp [h]), b2⟩

/- The table that the call itself made, in block b, behind what it was given. -/
def MBB (w0 w : World) (b : Nat) (t : Bool → Bool → Bool) : Prop := MB w b t ∧ Below w0.heap.size w0 w ∧ w0.heap.size ≤ b
theorem MBB.start (w : World) : MBB w (w.alloc (.map #[] 0)).drew w.heap.size (fun _ _ => false) :=
  ⟨⟨[], 0, (MapKept.heap_alloc w _).1, List.Pairwise.nil, fun _ _ => rfl⟩, ((Below.refl w.heap.size w).alloc (Nat.le_refl _) _).drew, Nat.le_refl _⟩
theorem MBB.grown {w0 w w' : World} {b : Nat} {t s : Bool → Bool → Bool} (h : MBB w0 w b t) (hm : MB w' b s) (hg : w.grownBy w' (some b)) : MBB w0 w' b s :=
  ⟨hm, h.2.1.grown hg h.2.1.size (fun k e => by cases e; exact h.2.2), h.2.2⟩
theorem MBB.below {w0 w w' : World} {b : Nat} {t : Bool → Bool → Bool} (h : MBB w0 w b t) (hb : Below w.heap.size w w') : MBB w0 w' b t :=
  ⟨MB.of w w' b t h.1 (hb.block b h.1.lt), h.2.1.trans (hb.mono h.2.1.size), h.2.2⟩
theorem MBB.eq {w0 w : World} {b : Nat} {t s : Bool → Bool → Bool} (h : MBB w0 w b t) (e : ∀ x y, t x y = s x y) : MBB w0 w b s := ⟨h.1.eq e, h.2⟩

/- Beside it the shape of the kind, in a block of its own. -/
def SB (w0 w : World) (b : Nat) (t : Bool → Bool → Bool) (g : Nat) (p q : Int) : Prop := MBB w0 w b t ∧ StB w g 176 #[.int .i64 p, .int .i64 q] ∧ b ≠ g
theorem SB.start {w0 w : World} {b : Nat} {t : Bool → Bool → Bool} (h : MBB w0 w b t) (p q : Int) : SB w0 (w.alloc (.cells #[.int .i64 p, .int .i64 q] 176)) b t w.heap.size p q :=
  ⟨h.below ((Below.refl w.heap.size w).alloc (Nat.le_refl _) _), StB.new w _ _, Nat.ne_of_lt h.1.lt⟩
theorem SB.grown {w0 w w' : World} {b g : Nat} {t s : Bool → Bool → Bool} {p q : Int} (h : SB w0 w b t g p q) (hm : MBB w0 w' b s) (hg : w.grownBy w' (some b)) : Hid (SB w0 w' b s g p q) :=
  ⟨hm, h.2.1.kept hg (fun e => h.2.2 (by cases e; rfl)), h.2.2⟩
theorem SB.cell0 {w0 w : World} {b g : Nat} {t : Bool → Bool → Bool} {p q : Int} (h : SB w0 w b t g p q) : w.cell? ⟨g, 0, none⟩ = some (.int .i64 p) := h.2.1.cell 0 rfl
theorem SB.cell1 {w0 w : World} {b g : Nat} {t : Bool → Bool → Bool} {p q : Int} (h : SB w0 w b t g p q) : w.cell? ⟨g, 1, none⟩ = some (.int .i64 q) := h.2.1.cell 1 rfl

def tabI (p q : Int) (x y : Bool) : Bool := !decide (p = 0) && (!(decide (q = 1) && !x) && !(!decide (p = 1) && y))
end Go.Proofs.YtkenbanaodbooaaGreatDoor
