/- How the laws take a store over, measure it, compare two, mark one and look at the marks. -/
import Derived.Test.YtjbfncjdedigdaaM7
import Derived.Test.YtjbfncjdedigdaaM16
import Derived.Deep.DeepCutAuto
import Derived.Test.YtjbfncjdedigdaaM6
import Derived.Test.YtjbfncjdedigdaaM17
import Derived.Test.YtjbfncjdedigdaaM5
import Derived.Laws.Tables
import Derived.Laws.ResultCell
import Derived.ChangeKeysEq
import Derived.BigRegion
import Derived.Laws.StructEq
import Derived.Test.YtjbfncjdedigdaaM10
import Derived.ArgAppend
import Derived.Laws.CopyOwn
namespace Go.Proofs.Ytjbfncjdedigdaa
open Go.ChangeShapes Go.WideShapes Go.ChangeAt Go.RowKit
end Go.Proofs.Ytjbfncjdedigdaa
/- The model's store: StoreOk, l12Copy. -/
namespace Go.Proofs.Ytjbfncjdedigdaa
open Go.ChangeShapes Go.WideShapes Go.ChangeAt Go.RowKit
end Go.Proofs.Ytjbfncjdedigdaa
/- Arrays of eight numbers in memory: 'Row w g f': block g holds them. What a load, a store, a new one make of it. And rowOf, rowsOf, list, valueOk, countOk answer what plain lists say. -/
namespace Go.Proofs.Ytjbfncjdedigdaa
open Go.ChangeShapes Go.WideShapes Go.ChangeAt Go.RowKit

def rowA (f : Nat → Int) : Array Value := #[.int .i64 (f 0), .int .i64 (f 1), .int .i64 (f 2), .int .i64 (f 3), .int .i64 (f 4), .int .i64 (f 5), .int .i64 (f 6), .int .i64 (f 7)]
def upd (f : Nat → Int) (j : Nat) (x : Int) : Nat → Int := fun k => if k = j then x else f k

theorem eight {p : Nat → Prop} (h0 : p 0) (h1 : p 1) (h2 : p 2) (h3 : p 3) (h4 : p 4) (h5 : p 5) (h6 : p 6) (h7 : p 7) : ∀ j, j < 8 → p j
  | 0, _ => h0 | 1, _ => h1 | 2, _ => h2 | 3, _ => h3 | 4, _ => h4 | 5, _ => h5 | 6, _ => h6 | 7, _ => h7
  | _ + 8, h => by omega

theorem rowA_at (f : Nat → Int) : ∀ j, j < 8 → (rowA f)[j]? = some (.int .i64 (f j)) := eight rfl rfl rfl rfl rfl rfl rfl rfl
theorem rowA_set (f : Nat → Int) (x : Int) : ∀ j, j < 8 → (rowA f).setIfInBounds j (.int .i64 x) = rowA (upd f j x) := eight rfl rfl rfl rfl rfl rfl rfl rfl
theorem rowA_size (f : Nat → Int) : (rowA f).size = 8 := rfl
theorem rowA_one (f : Nat → Int) : (rowA f).all (·.oneCell') = true := by simp [rowA, Value.oneCell']
theorem rowA_congr {f g : Nat → Int} (h : ∀ j, j < 8 → f j = g j) : rowA f = rowA g := by
  simp [rowA, h 0, h 1, h 2, h 3, h 4, h 5, h 6, h 7]

set_option maxRecDepth 20000 in
set_option maxHeartbeats 400000 in
theorem val_any (x : Int) (w : World) :
    Calls Try.prog 71 #[.int .i64 x] w fun e w' => e = .returned (.bool (valOk x)) ∧ w' = w := by
  by_cases h0 : 0 ≤ x
  · by_cases h1 : x ≤ 9999
    · rw [valOk_yes h0 h1]
      go_enter Try.func71, Try.ntmps71
      go_wp2
      go_ret
      exact ⟨ret_bool (by simp), rfl⟩
    · rw [valOk_no (by omega)]
      go_enter Try.func71, Try.ntmps71
      go_wp2
      go_ret
      exact ⟨ret_bool (by simp), rfl⟩
  · rw [valOk_no (by omega)]
    go_enter Try.func71, Try.ntmps71
    go_wp2
    go_ret
    exact ⟨ret_bool (by simp), rfl⟩
end Go.Proofs.Ytjbfncjdedigdaa
/- rowOf: the blocks of a list as an array, where they are blocks. -/
namespace Go.Proofs.Ytjbfncjdedigdaa
open Go.ChangeShapes Go.WideShapes Go.ChangeAt Go.RowKit

def partF (xs : List Int) (j : Nat) : Nat → Int := fun k => if k < j then xs.getD k 0 else 0
def rowF (xs : List Int) : Nat → Int := fun j => if blocksOk xs then xs.getD j 0 else 0
theorem partF_step (xs : List Int) (j : Nat) : upd (partF xs j) j (xs.getD j 0) = partF xs (j + 1) := by
  funext k
  unfold upd partF
  by_cases e : k = j
  · subst e; simp
  · have : k < j + 1 ↔ k < j := by omega
    simp [e, this]
theorem partF_zero (xs : List Int) : partF xs 0 = fun _ => 0 := by funext k; simp [partF]
theorem partF_full (xs : List Int) : partF xs xs.length = fun k => xs.getD k 0 := by
  funext k
  unfold partF
  split
  · rfl
  · rw [getD_past xs k (by omega)]

theorem rowF_yes {xs : List Int} (h : blocksOk xs = true) : rowF xs = fun k => xs.getD k 0 := by funext k; simp [rowF, h]
theorem rowF_no {xs : List Int} (h : blocksOk xs = false) : rowF xs = fun _ => 0 := by funext k; simp [rowF, h]
theorem row_zero : (#[.int .i64 0, .int .i64 0, .int .i64 0, .int .i64 0, .int .i64 0, .int .i64 0, .int .i64 0, .int .i64 0] : Array Value) = rowA (fun _ => 0) := rfl
end Go.Proofs.Ytjbfncjdedigdaa
/- The program's BlocksOk, NewBlocks and Put answer what plain lists say, in new memory, and write nothing that was there. -/
namespace Go.Proofs.Ytjbfncjdedigdaa
open Go.ChangeShapes Go.WideShapes Go.ChangeAt Go.RowKit

def listF (f : Nat → Int) (n : Nat) : List Int := (List.range n).map f
theorem listF_len (f : Nat → Int) (n : Nat) : (listF f n).length = n := by simp [listF]
theorem listF_getD (xs : List Int) : listF (fun k => xs.getD k 0) xs.length = xs := by
  apply List.ext_getElem
  · simp [listF]
  · intro j h1 h2
    simp [listF, List.getD, h2]

theorem listF_set (xs : List Int) (i : Nat) (x : Int) : listF (upd (fun k => xs.getD k 0) i x) xs.length = xs.set i x := by
  apply List.ext_getElem
  · simp [listF]
  · intro j h1 h2
    have h3 : j < xs.length := by simpa [listF] using h1
    rw [List.getElem_set]
    by_cases e : i = j
    · subst e; simp [listF, upd]
    · have e' : ¬ j = i := fun h => e h.symm
      simp [listF, upd, e, e', List.getD, h3]
end Go.Proofs.Ytjbfncjdedigdaa
/- rowsOf, Differ and Chosen of the program answer what plain lists say. -/
namespace Go.Proofs.Ytjbfncjdedigdaa
open Go.ChangeShapes Go.WideShapes Go.ChangeAt Go.RowKit
end Go.Proofs.Ytjbfncjdedigdaa
/- Arrays of eight numbers compared; the set's own methods. -/
namespace Go.Proofs.Ytjbfncjdedigdaa
open Go.ChangeShapes Go.WideShapes Go.ChangeAt Go.RowKit

def same8 (f g : Nat → Int) : Bool := (f 0 == g 0) && ((f 1 == g 1) && ((f 2 == g 2) && ((f 3 == g 3) && ((f 4 == g 4) && ((f 5 == g 5) && ((f 6 == g 6) && (f 7 == g 7)))))))
theorem same8_all {f g : Nat → Int} (h : same8 f g = true) : ∀ j, j < 8 → f j = g j := by
  simp [same8] at h
  obtain ⟨h0, h1, h2, h3, h4, h5, h6, h7⟩ := h
  exact eight h0 h1 h2 h3 h4 h5 h6 h7
theorem same8_of {f g : Nat → Int} (h : ∀ j, j < 8 → f j = g j) : same8 f g = true := by
  simp [same8, h 0, h 1, h 2, h 3, h 4, h 5, h 6, h 7]

def mixF (a b : List Int) (j : Nat) : Nat → Int := fun k => if k < j then b.getD k 0 else a.getD k 0
theorem mixF_zero (a b : List Int) : mixF a b 0 = fun k => a.getD k 0 := by funext k; simp [mixF]
theorem mixF_step (a b : List Int) (j : Nat) : upd (mixF a b j) j (b.getD j 0) = mixF a b (j + 1) := by
  funext k
  unfold upd mixF
  by_cases e : k = j
  · subst e; simp
  · have : k < j + 1 ↔ k < j := by omega
    simp [e, this]
theorem mixF_skip (a b : List Int) (j : Nat) (h : a.getD j 0 = b.getD j 0) : mixF a b j = mixF a b (j + 1) := by
  funext k
  unfold mixF
  by_cases e : k = j
  · subst e; rw [if_neg (by omega), if_pos (by omega), h]
  · have : k < j + 1 ↔ k < j := by omega
    simp [this]
theorem mixF_at (a b : List Int) (j : Nat) : mixF a b j j = a.getD j 0 := by simp [mixF]
theorem mixF_lt {a b : List Int} {j : Nat} (h : same8 (mixF a b j) (fun k => b.getD k 0) = false) : j < 8 := by
  rcases Nat.lt_or_ge j 8 with h8 | h8
  · exact h8
  · rw [same8_of (fun k hk => by rw [mixF, if_pos (by omega)])] at h; cases h
theorem mixF_done {a b : List Int} {j : Nat} (ha : a.length ≤ 8) (hb : b.length ≤ 8) (hj : j ≤ 8) (h : same8 (mixF a b j) (fun k => b.getD k 0) = true) : differUp a b j = differUp a b 8 := by
  have h1 := same8_all h
  have := differUp_more a b j (fun k hk => by
    rcases Nat.lt_or_ge k 8 with h8 | h8
    · have := h1 k h8
      rwa [mixF, if_neg (by omega)] at this
    · rw [getD_past a k (by omega), getD_past b k (by omega)]) (8 - j)
  rw [← this]; congr 1; omega

theorem below_new8 {B : Nat} {w0 w w' : World} {g : Nat} (h : Below B w0 w) (hB : B ≤ w.heap.size) (o : Obj) (hg : (w.alloc o).grownBy w' (some g)) (hBg : B ≤ g) : Below B w0 w' :=
  (h.alloc hB o).grown hg (by simp; omega) (fun k e => by cases e; exact hBg)
end Go.Proofs.Ytjbfncjdedigdaa
/- Differ of the program answers what plain lists say. -/
namespace Go.Proofs.Ytjbfncjdedigdaa
open Go.ChangeShapes Go.WideShapes Go.ChangeAt Go.RowKit
end Go.Proofs.Ytjbfncjdedigdaa
/- Chosen of the program answers what plain lists say, in new memory. -/
namespace Go.Proofs.Ytjbfncjdedigdaa
open Go.ChangeShapes Go.WideShapes Go.ChangeAt Go.RowKit

def chF (a b : List Int) (s : Int) (j : Nat) : Nat → Int := fun k => if k < j ∧ inB s k = true then b.getD k 0 else a.getD k 0
theorem chF_zero (a b : List Int) (s : Int) : chF a b s 0 = fun k => a.getD k 0 := by funext k; simp [chF]
theorem chF_yes {a b : List Int} {s : Int} {j : Nat} (h : inB s j = true) : upd (chF a b s j) j (b.getD j 0) = chF a b s (j + 1) := by
  funext k
  unfold upd chF
  by_cases e : k = j
  · subst e; simp [h]
  · have : k < j + 1 ↔ k < j := by omega
    simp [e, this]
theorem chF_no {a b : List Int} {s : Int} {j : Nat} (h : inB s j = false) : chF a b s j = chF a b s (j + 1) := by
  funext k
  unfold chF
  by_cases e : k = j
  · subst e; simp [h]
  · have : k < j + 1 ↔ k < j := by omega
    simp [this]
theorem chF_list (a b : List Int) (s : Int) (n : Nat) : listF (chF a b s 8) n = chosenUp a b s 8 n := rfl
end Go.Proofs.Ytjbfncjdedigdaa
/- The program's disks: fresh, DiskOk, NewDisk, Loose, Written, Flushed and Lost answer what plain lists say, in new memory. -/
namespace Go.Proofs.Ytjbfncjdedigdaa
open Go.ChangeShapes Go.WideShapes Go.ChangeAt Go.RowKit

set_option maxRecDepth 20000 in
set_option maxHeartbeats 1000000 in
theorem fresh_any (v : Value) (xs : List Int) (w : World) (h : Reads w v xs) (h1 : 1 ≤ xs.length) (hbig : xs.length ≤ 1099511627776) :
    Calls Try.prog 74 #[v] w fun e w' => ∃ u, e = .returned u ∧ Own w' w.heap.size u xs ∧ Below w.heap.size w w' := by
  obtain ⟨i0, hi, hz0, hz1, hz2⟩ := info_parts Try.infoI
  obtain ⟨ao, cap, rfl, hl, hm, hc⟩ := h
  obtain ⟨b, off, hab, hcell⟩ : ∃ b off, ao = some ⟨b, off, none⟩ ∧ ∀ j, j < xs.length → w.cell? ⟨b, off + j, none⟩ = some (.int .i64 (xs.getD j 0)) := by
    rcases hc with e | h
    · subst e; simp at h1
    · exact h
  subst hab
  have hnews : ∀ j u, (xs.map (Value.int .i64))[j]? = some u → w.cell? ((⟨b, off, none⟩ : Addr).add j) = some u := by
    intro j u hj
    have hlt : j < xs.length := by
      rcases Nat.lt_or_ge j xs.length with h | h
      · exact h
      · rw [List.getElem?_eq_none (by simpa using h)] at hj; cases hj
    rw [show (⟨b, off, none⟩ : Addr).add j = ⟨b, off + j, none⟩ by unfold Addr.add; split <;> simp_all]
    rw [hcell j hlt]
    simp [List.getD, hlt] at hj ⊢
    exact hj
  have hone : ∀ u ∈ xs.map (Value.int .i64), u.oneCell' = true := by
    intro u hu
    obtain ⟨x, _, rfl⟩ := List.mem_map.1 hu
    rfl
  obtain ⟨hm1, -⟩ := hm
  unfold maxLen at hm1
  obtain ⟨n, hn⟩ : ∃ n, n = xs.length := ⟨_, rfl⟩
  have hll : (xs.map (Value.int .i64)).length = n * 1 := by simp [hn]
  rw [← hn] at hbig hl h1 ⊢
  have HN : Hid (n = xs.length) := hn
  clear hn hc hcell
  go_enter Try.func74, Try.ntmps74
  go_wp2_with (at_builtin; refine wpList_append_grows _ rfl _ _ 31 rfl 2 i0 (.int .i64 0) 1 8 Try.underlying31 hi hz0 hz1 hz2 rfl (by decide) (some ⟨b, off, none⟩) 0 0 [] rfl (by intro e; cases e) (by simp) (by intro b' _ j u hj; simp at hj) ⟨b, off, none⟩ n cap (xs.map (Value.int .i64)) rfl hll hnews hone (by omega) (by unfold maxLen; omega) (by omega) ?_)
  intro v' w1 hown hgrow
  go_wp2_with fail
  go_ret
  refine ⟨_, rfl, ?_, (Below.refl w.heap.size w).grown hgrow (Nat.le_refl _) (fun k e => by cases e)⟩
  unfold Own
  rw [← HN.out]
  exact hown
end Go.Proofs.Ytjbfncjdedigdaa
