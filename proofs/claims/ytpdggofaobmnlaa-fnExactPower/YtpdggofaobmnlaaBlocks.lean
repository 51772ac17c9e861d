/- Blocks as plain lists: what BlocksOk, NewBlocks, Put, Differ and Chosen say of them; and the model's own functions answer just that. -/
import Derived.Test.YtpdggofaobmnlaaLists
import Derived.Test.YtpdggofaobmnlaaM1
namespace Go.Proofs.Ytpdggofaobmnlaa
open Go.ChangeShapes Go.WideShapes Go.ChangeAt Go.RowKit

def valOk (x : Int) : Bool := decide (0 ≤ x) && decide (x ≤ 9999)
def lenOk (n : Nat) : Bool := decide (1 ≤ (n : Int)) && decide ((n : Int) ≤ 8)
def blocksOk (xs : List Int) : Bool := xs.all valOk && lenOk xs.length
def zerosI (n : Int) : List Int := if 1 ≤ n ∧ n ≤ 8 then List.replicate n.toNat 0 else []
def placeOk (xs : List Int) (i v : Int) : Bool := decide (0 ≤ i) && (decide (i < (xs.length : Int)) && valOk v)
def putI (xs : List Int) (i v : Int) : List Int := if blocksOk xs then (if placeOk xs i v then xs.set i.toNat v else xs) else []
def putB (xs : List Int) (i v : Int) : Bool := blocksOk xs && placeOk xs i v
def differUp (a b : List Int) : Nat → Int
  | 0 => 0
  | k + 1 => if a.getD k 0 = b.getD k 0 then differUp a b k else withI (differUp a b k) k
def bothOk (a b : List Int) : Bool := blocksOk a && (blocksOk b && decide (a.length = b.length))
def differI (a b : List Int) : Int := if bothOk a b then differUp a b 8 else -1
def chosenUp (a b : List Int) (s : Int) (k n : Nat) : List Int := (List.range n).map fun j => if j < k ∧ inB s j = true then b.getD j 0 else a.getD j 0
def chosenI (a b : List Int) (s : Int) : List Int := if bothOk a b && setOk s then chosenUp a b s 8 a.length else []

def cntOk (n : Int) : Bool := decide (1 ≤ n) && decide (n ≤ 8)
theorem cntOk_yes {x : Int} (h0 : 1 ≤ x) (h1 : x ≤ 8) : cntOk x = true := by simp [cntOk, h0, h1]
theorem cntOk_no {x : Int} (h : x < 1 ∨ 8 < x) : cntOk x = false := by simp [cntOk]; omega
theorem cntOk_len (n : Nat) : cntOk n = lenOk n := rfl

theorem bothOk_yes' {a b : List Int} (h : bothOk a b = true) : blocksOk a = true ∧ blocksOk b = true ∧ a.length = b.length := by
  simpa [bothOk] using h
theorem lenOk_yes {n : Nat} (h1 : 1 ≤ n) (h8 : n ≤ 8) : lenOk n = true := by simp [lenOk]; omega
theorem lenOk_no {n : Nat} (h : n < 1 ∨ 8 < n) : lenOk n = false := by simp [lenOk]; omega
theorem blocksOk_len {xs : List Int} (h : blocksOk xs = true) : 1 ≤ xs.length ∧ xs.length ≤ 8 := by
  simp [blocksOk, lenOk] at h; omega
theorem blocksOk_val {xs : List Int} (h : blocksOk xs = true) : ∀ x ∈ xs, 0 ≤ x ∧ x ≤ 9999 := by
  simp [blocksOk, valOk] at h; exact h.1
theorem withI_lim_all : ∀ n : Nat, n < 256 → ∀ k : Nat, k < 8 → (n ||| 2 ^ k) < 256 := by decide +kernel
theorem withI_lim {s i : Int} (h0 : 0 ≤ s) (h1 : s < 256) (h2 : 0 ≤ i) (h3 : i < 8) : 0 ≤ withI s i ∧ withI s i < 256 := by
  simp only [withI, setOk_pos h0 h1, itemOk_pos h2 h3, if_true]
  have := withI_lim_all s.toNat (by omega) i.toNat (by omega)
  omega
theorem differUp_bd (a b : List Int) : ∀ k, k ≤ 8 → 0 ≤ differUp a b k ∧ differUp a b k < 256
  | 0, _ => by simp [differUp]
  | k + 1, h => by
    have ih := differUp_bd a b k (by omega)
    rw [differUp]
    split
    · exact ih
    · exact withI_lim ih.1 ih.2 (by omega) (by omega)
theorem differUp_more (a b : List Int) (i : Nat) (h : ∀ j, i ≤ j → a.getD j 0 = b.getD j 0) : ∀ m, differUp a b (i + m) = differUp a b i
  | 0 => rfl
  | m + 1 => by rw [← Nat.add_assoc, differUp, if_pos (h _ (by omega)), differUp_more a b i h m]
theorem getD_past (xs : List Int) (j : Nat) (h : xs.length ≤ j) : xs.getD j 0 = 0 := by
  simp [List.getD, List.getElem?_eq_none h]
theorem differUp_full (a b : List Int) (hl : a.length = b.length) (h8 : a.length ≤ 8) : differUp a b a.length = differUp a b 8 := by
  have := differUp_more a b a.length (fun j hj => by rw [getD_past a j hj, getD_past b j (by omega)]) (8 - a.length)
  rw [← this]; congr 1; omega
theorem chosenUp_len (a b : List Int) (s : Int) (k n : Nat) : (chosenUp a b s k n).length = n := by simp [chosenUp]
theorem chosenUp_zero (a b : List Int) (s : Int) : chosenUp a b s 0 a.length = a := by
  apply List.ext_getElem
  · simp [chosenUp]
  · intro j h1 h2
    simp [chosenUp, List.getD, h2]
theorem chosenUp_getD (a b : List Int) (s : Int) (k n j : Nat) (h : j < n) : (chosenUp a b s k n).getD j 0 = if j < k ∧ inB s j = true then b.getD j 0 else a.getD j 0 := by
  simp [chosenUp, List.getD, h]
theorem chosenUp_no {a b : List Int} {s : Int} {k n : Nat} (h : inB s k = false) : chosenUp a b s (k + 1) n = chosenUp a b s k n := by
  unfold chosenUp
  apply List.map_congr_left
  intro j _
  by_cases e : j = k
  · subst e; simp [h]
  · have : j < k + 1 ↔ j < k := by omega
    simp [this]
theorem chosenUp_yes {a b : List Int} {s : Int} {k n : Nat} (h : inB s k = true) : (chosenUp a b s k n).set k (b.getD k 0) = chosenUp a b s (k + 1) n := by
  apply List.ext_getElem
  · simp [chosenUp]
  · intro j h1 h2
    rw [List.getElem_set]
    by_cases e : k = j
    · subst e; simp [chosenUp, h]
    · have : j < k + 1 ↔ j < k := by omega
      simp [chosenUp, e, this]
theorem chosenUp_full {a b : List Int} {s : Int} {n : Nat} (h : n ≤ 8) : chosenUp a b s n n = chosenUp a b s 8 n := by
  unfold chosenUp
  apply List.map_congr_left
  intro j hj
  have := List.mem_range.1 hj
  have e1 : j < n := this
  have e2 : j < 8 := by omega
  simp [e1, e2]

theorem putI_len (xs : List Int) (i v : Int) {n : Nat} (h : xs.length ≤ n) : (putI xs i v).length ≤ n := by
  unfold putI; split
  · split
    · rwa [List.length_set]
    · exact h
  · simp
theorem chosenI_len (a b : List Int) (s : Int) : (chosenI a b s).length ≤ a.length := by
  unfold chosenI; split
  · rw [chosenUp_len]; exact Nat.le_refl _
  · simp
theorem all_snoc {xs : List Int} {j : Nat} (h : j < xs.length) (h1 : (xs.take j).all valOk = true) (h2 : valOk (xs.getD j 0) = true) : (xs.take (j + 1)).all valOk = true := by
  rw [take_snoc xs j h, List.all_append, h1]; simpa using h2
theorem all_not {xs : List Int} {j : Nat} (h : j < xs.length) (h2 : valOk (xs.getD j 0) = false) : xs.all valOk = false := by
  rw [List.all_eq_false]
  exact ⟨xs.getD j 0, by simp [List.getD, h], by rw [h2]; simp⟩

set_option maxRecDepth 20000 in
set_option maxHeartbeats 1000000 in
theorem sok_any (v : Value) (xs : List Int) (w : World) (h : Reads w v xs) (hbig : xs.length ≤ 1099511627776) :
    Calls Try.prog 76 #[v] w fun e w' => e = .returned (.bool (blocksOk xs)) ∧ w' = w := by
  obtain ⟨ao, cap, rfl, hl, ⟨hm, -⟩, hc⟩ := h
  obtain ⟨n, hn⟩ : ∃ n, n = xs.length := ⟨_, rfl⟩
  rw [← hn] at hl hc hbig ⊢
  have HN : Hid (n = xs.length) := hn
  clear hn
  unfold maxLen at hm
  have hcell : ∀ j, j < n → ∃ b off, ao = some ⟨b, off, none⟩ ∧ w.cell? ⟨b, off + j, none⟩ = some (.int .i64 (xs.getD j 0)) := by
    intro j hj
    rcases hc with e | ⟨b, off, e, h4⟩
    · have := HN.out; rw [e] at this; simp at this; omega
    · exact ⟨b, off, e, h4 j hj⟩
  clear hc
  go_enter Try.func76, Try.ntmps76
  go_wp2
  go_loop [3] (fun i => ∃ j : Nat, j ≤ n ∧ i = .int .i64 j ∧ Hid ((xs.take j).all valOk = true)) (fun i => n - (intOf i).toNat)
  case atStart => exact ⟨0, Nat.zero_le _, rfl, by simp [Hid]⟩
  case round =>
    obtain ⟨j, hj, rfl, ht⟩ := hrel
    by_cases hlt : (j : Int) < (n : Int)
    · obtain ⟨b, off, rfl, hc1⟩ := hcell j (by omega)
      clear hcell
      obtain ⟨x, hx⟩ : ∃ x, x = xs.getD j 0 := ⟨_, rfl⟩
      rw [← hx] at hc1
      have HX : Hid (x = xs.getD j 0) := hx
      clear hx
      by_cases h0 : 0 ≤ x
      · by_cases h1 : x ≤ 9999
        · go_wp2
          go_round
          case rel => exact ⟨j + 1, by omega, by go_num, all_snoc (by have := HN.out; omega) ht.out (by rw [← HX.out]; simp [valOk, h0, h1])⟩
          case measure => simp [intOf]; omega
        · go_wp2
          go_ret
          exact ⟨ret_bool (by simp [blocksOk, all_not (xs := xs) (j := j) (by have := HN.out; omega) (by rw [← HX.out]; simp [valOk]; omega)]), rfl⟩
      · go_wp2
        go_ret
        exact ⟨ret_bool (by simp [blocksOk, all_not (xs := xs) (j := j) (by have := HN.out; omega) (by rw [← HX.out]; simp [valOk]; omega)]), rfl⟩
    · have hall : Hid (blocksOk xs = lenOk n) := by
        have hn' := HN.out
        have h2 := ht.out
        rw [List.take_of_length_le (by omega)] at h2
        simp [Hid, blocksOk, h2, ← hn']
      by_cases h1 : 1 ≤ (n : Int)
      · by_cases h8 : (n : Int) ≤ 8
        · go_wp2
          go_ret
          exact ⟨ret_bool (by rw [hall.out, lenOk_yes (by omega) (by omega)]), rfl⟩
        · go_wp2
          go_ret
          exact ⟨ret_bool (by rw [hall.out, lenOk_no (by omega)]), rfl⟩
      · go_wp2
        go_ret
        exact ⟨ret_bool (by rw [hall.out, lenOk_no (by omega)]), rfl⟩

theorem ownEmpty (w : World) : Own (w.alloc (.cells #[] 2)) w.heap.size (.slice (some ⟨w.heap.size, 0, none⟩) 0 0) [] := World.ownsRow_lit w #[] 0 (Nat.le_refl _) (Nat.zero_le _) rfl
theorem belowNew (w : World) (o : Obj) : Below w.heap.size w (w.alloc o) := (Below.refl _ _).alloc (Nat.le_refl _) _
end Go.Proofs.Ytpdggofaobmnlaa
