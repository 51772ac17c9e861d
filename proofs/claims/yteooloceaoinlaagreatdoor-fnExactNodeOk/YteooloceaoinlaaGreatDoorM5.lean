/- Holdings as texts: what is told of one, how one is shown and read. -/
import Derived.Test.YteooloceaoinlaaGreatDoorM4
import Derived.Test.YteooloceaoinlaaGreatDoorMem
import Derived.Test.YteooloceaoinlaaGreatDoorRows
import Derived.Test.YteooloceaoinlaaGreatDoorM1
import Derived.WalkKit
import Derived.ProofKit
import Derived.OpenShut
import Derived.Test.YteooloceaoinlaaGreatDoorM2
namespace Go.Proofs.YteooloceaoinlaaGreatDoor
open Go.RowKit

def Hd.keysN (h : Hd) : List Int := h.tu :: h.ks.filter (fun k => decide (k ≠ 0))
def Hd.holdN (h : Hd) : List Int := [h.tu, h.kd, if 0 ≤ h.ho then h.ks.getD h.ho.toNat 0 else 0]
def Hd.showN (h : Hd) : List Int := h.ks ++ [h.kd, h.ho, h.tu]
def Hd.keysT (h : Hd) : Bs := if h.ok then intsB h.keysN else []
def Hd.holdT (h : Hd) : Bs := if h.ok then intsB h.holdN else []
def Hd.showT (h : Hd) : Bs := if h.ok then intsB h.showN else []
def hdOf (ns : List Int) : Hd := ⟨ns.take 4, ns.getD 4 0, ns.getD 5 0, ns.getD 6 0⟩
def readH (s : Bs) : Option Hd := if ((splitB 32 s).length = 7 ∧ (splitB 32 s).all okT = true) ∧ (hdOf ((splitB 32 s).map numT)).ok = true then some (hdOf ((splitB 32 s).map numT)) else none
def readD (s : Bs) : Hd := (readH s).getD Hd.zero
def readY (s : Bs) : Bool := (readH s).isSome

theorem splitB_appN (c : UInt8) (a r : Bs) (h : ∀ b ∈ a, b ≠ c) : splitB c (a ++ c :: r) = a :: splitB c r := by
  induction a with
  | nil => simp [splitB]
  | cons b a ih =>
    rw [List.cons_append, splitB, if_neg (h b (by simp)), ih (fun x hx => h x (by simp [hx]))]
    rfl
theorem decI_no32 (x : Int) : ∀ b ∈ decI x, b ≠ 32 := by
  have hd : ∀ n, ∀ b ∈ dec n, b ≠ 32 := by
    intro n b hb e
    have := List.all_eq_true.1 (dec_digs n).1 b hb
    rw [e] at this
    exact absurd this (by decide)
  intro b hb
  unfold decI at hb
  split at hb
  · rcases List.mem_cons.1 hb with rfl | hb
    · decide
    · exact hd _ b hb
  · exact hd _ b hb
theorem splitB_ints (xs : List Int) (h : xs ≠ []) : splitB 32 (intsB xs) = xs.map decI := by
  induction xs with
  | nil => exact absurd rfl h
  | cons x l ih =>
    cases l with
    | nil => rw [intsB, splitB_word 32 _ (decI_no32 x)]; rfl
    | cons y l =>
      rw [intsB, splitB_appN 32 _ _ (decI_no32 x), ih (by simp)]
      rfl
theorem Hd.ok_nums {h : Hd} (e : h.ok = true) : ∀ x ∈ h.showN, -10000000000 < x ∧ x < 10000000000 := by
  obtain ⟨hl, ht, hk, hm⟩ := Hd.ok_all e
  intro x hx
  unfold Hd.showN at hx
  rcases List.mem_append.1 hx with hx | hx
  · have := List.all_eq_true.1 hk x hx
    have := (inI_iff _ _ _).1 this
    omega
  · have hkd : -1 ≤ h.kd ∧ h.kd ≤ 100 ∧ -1 ≤ h.ho ∧ h.ho ≤ 3 := by
      unfold Hd.mid at hm
      split at hm
      · rename_i c
        have : h.ho = -1 := by simpa using hm
        omega
      · split at hm
        · rename_i c
          have h1 : h.ho = -1 := by simp only [Bool.and_eq_true, decide_eq_true_eq] at hm; exact hm.1
          have : h.kd = 5 ∨ h.kd = 6 := by simpa [allI] using c
          omega
        · simp only [Bool.and_eq_true] at hm
          have := (inI_iff _ _ _).1 (show inI h.kd 1 6 = true from hm.1.1)
          have := (inI_iff _ _ _).1 hm.1.2
          omega
    simp only [List.mem_cons, List.mem_nil_iff, or_false] at hx
    rcases hx with rfl | rfl | rfl <;> omega
theorem hdOf_show {h : Hd} (hl : h.ks.length = 4) : hdOf h.showN = h := by
  obtain ⟨ks, kd, ho, tu⟩ := h
  dsimp only at hl
  match ks, hl with
  | [a, b, c, d], _ => rfl
theorem map_read (xs : List Int) (h : ∀ x ∈ xs, -10000000000 < x ∧ x < 10000000000) : (xs.map decI).map numT = xs ∧ (xs.map decI).all okT = true := by
  constructor
  · rw [List.map_map]
    conv => rhs; rw [← List.map_id xs]
    apply List.map_congr_left
    intro x hx
    exact (readT_decI x (h x hx).1 (h x hx).2).2
  · rw [List.all_eq_true]
    intro b hb
    obtain ⟨x, hx, rfl⟩ := List.mem_map.1 hb
    exact (readT_decI x (h x hx).1 (h x hx).2).1
/- What is shown is read. -/
theorem readH_show {h : Hd} (e : h.ok = true) : readH (intsB h.showN) = some h := by
  have hl := (Hd.ok_all e).1
  have hs : splitB 32 (intsB h.showN) = h.showN.map decI := splitB_ints _ (by simp [Hd.showN])
  obtain ⟨m1, m2⟩ := map_read _ (Hd.ok_nums e)
  unfold readH
  rw [hs, m1, hdOf_show hl]
  rw [if_pos]
  refine ⟨⟨?_, m2⟩, e⟩
  rw [List.length_map]
  simp [Hd.showN, hl]
/- What is read is shown so. -/
theorem showH_read {s : Bs} {h : Hd} (e : readH s = some h) : h.ok = true ∧ intsB h.showN = s := by
  unfold readH at e
  split at e
  · rename_i c
    obtain ⟨⟨c1, c2⟩, c3⟩ := c
    simp only [Option.some.injEq] at e
    rw [e] at c3
    refine ⟨c3, ?_⟩
    have hj := joinB_split 32 s
    obtain ⟨ws, hws⟩ : ∃ ws, ws = splitB 32 s := ⟨_, rfl⟩
    rw [← hws] at c1 c2 e hj
    have hm : h.showN = ws.map numT := by
      rw [← e]
      match ws, c1 with
      | [a, b, c, d, x, y, z], _ => rfl
    rw [hm, ← join_ints, List.map_map]
    have : ws.map (decI ∘ numT) = ws := by
      conv => rhs; rw [← List.map_id ws]
      apply List.map_congr_left
      intro b hb
      exact readT_back b (List.all_eq_true.1 c2 b hb)
    rw [this, hj]
  · cases e
theorem readD_len (s : Bs) : (readD s).ks.length ≤ 4 := by
  unfold readD
  cases h : readH s with
  | none => simp [Hd.zero]
  | some g =>
    have := (Hd.ok_all (showH_read h).1).1
    simp; omega
end Go.Proofs.YteooloceaoinlaaGreatDoor
/- How much is left behind a list; what stays where one cell is set. -/
namespace Go.Proofs.YteooloceaoinlaaGreatDoor
open Go.ChangeShapes Go.WideShapes Go.ChangeAt Go.RowKit

theorem grownSet (w : World) (g j : Nat) (x : Value) : w.grownBy (w.setCell ⟨g, j, none⟩ x) (some g) :=
  ⟨rfl, rfl, rfl, by simp, fun k _ hk => heap_setCell_other w ⟨g, j, none⟩ k x (fun e => hk (by simp [e]))⟩
theorem Own.keptLt {w w' : World} {base g : Nat} {v : Value} {xs : List Int} (h : Own w base v xs) (hg : w.grownBy w' (some g)) (hb : g < base) : Own w' base v xs :=
  h.kept hg (by
    by_cases e : v.ownBlock = none
    · exact .inl e
    · refine .inr fun e2 => ?_
      have := h.lt g e2
      omega)
theorem Own.setLt {w : World} {base g : Nat} {v : Value} {xs : List Int} (h : Own w base v xs) (hb : g < base) (j : Nat) (x : Value) : Own (w.setCell ⟨g, j, none⟩ x) base v xs := h.keptLt (grownSet w g j x) hb

def szI (k : Int) (n : Nat) : Int := if (n : Int) ≤ k then k - n else -1

set_option maxRecDepth 20000 in
set_option maxHeartbeats 400000 in
theorem sz_any (v : Value) (xs : List Int) (k : Int) (w : World) (h : Reads w v xs) (h0 : 0 ≤ k) (h1 : k ≤ 1048576) :
    Calls Tryz.prog 60 #[v, .int .i64 k] w fun e w' => e = .returned (.int .i64 (szI k xs.length)) ∧ w' = w := by
  obtain ⟨ao, cap, rfl, hl, ⟨hm, -⟩, -⟩ := h
  unfold maxLen at hm
  obtain ⟨n, hn⟩ : ∃ n, n = xs.length := ⟨_, rfl⟩
  rw [← hn] at hl ⊢
  clear hn
  by_cases hk : (n : Int) ≤ k
  · have e : szI k n = k - n := by simp [szI, hk]
    rw [e]
    clear e
    go_enter Tryz.func60, Tryz.ntmps60
    go_wp2
    go_ret
    exact ⟨rfl, rfl⟩
  · have e : szI k n = -1 := by simp [szI, hk]
    rw [e]
    clear e
    go_enter Tryz.func60, Tryz.ntmps60
    go_wp2
    go_ret
    exact ⟨rfl, rfl⟩
end Go.Proofs.YteooloceaoinlaaGreatDoor
/- In, With, Without and Full, the program's and the model's: each answers what plain sets say, at every argument, and leaves the world as it was. -/
namespace Go.Proofs.YteooloceaoinlaaGreatDoor
open Go.ChangeShapes Go.WideShapes Go.ChangeAt Go.RowKit
end Go.Proofs.YteooloceaoinlaaGreatDoor
/- The model's Put, Differ and Chosen answer what plain lists say, in new memory, and write nothing that was there. -/
namespace Go.Proofs.YteooloceaoinlaaGreatDoor
open Go.ChangeShapes Go.WideShapes Go.ChangeAt Go.RowKit

theorem valOk_eq (x : Int) : (decide (0 ≤ x) && decide (x ≤ 9999)) = valOk x := rfl
theorem valOk_yes {x : Int} (h0 : 0 ≤ x) (h1 : x ≤ 9999) : valOk x = true := by simp [valOk, h0, h1]
theorem valOk_no {x : Int} (h : x < 0 ∨ 9999 < x) : valOk x = false := by simp [valOk]; omega

set_option maxRecDepth 20000 in
set_option maxHeartbeats 400000 in
theorem sval_any (x : Int) (w : World) :
    Calls Tryz.prog 95 #[.int .i64 x] w fun e w' => e = .returned (.bool (valOk x)) ∧ w' = w := by
  by_cases h0 : 0 ≤ x
  · by_cases h1 : x ≤ 9999
    · rw [valOk_yes h0 h1]
      go_enter Tryz.func95, Tryz.ntmps95
      go_wp2
      go_ret
      exact ⟨ret_bool (by simp), rfl⟩
    · rw [valOk_no (by omega)]
      go_enter Tryz.func95, Tryz.ntmps95
      go_wp2
      go_ret
      exact ⟨ret_bool (by simp), rfl⟩
  · rw [valOk_no (by omega)]
    go_enter Tryz.func95, Tryz.ntmps95
    go_wp2
    go_ret
    exact ⟨ret_bool (by simp), rfl⟩

theorem Reads.cellOf {w : World} {ao : Option Addr} {n cap : Nat} {xs : List Int} (h : Reads w (.slice ao n cap) xs) : n = xs.length ∧ n ≤ cap ∧ cap ≤ maxLen ∧ ∀ j, j < n → ∃ b off, ao = some ⟨b, off, none⟩ ∧ b < w.heap.size ∧ w.cell? ⟨b, off + j, none⟩ = some (.int .i64 (xs.getD j 0)) := by
  obtain ⟨ao', cap', e, hl, ⟨hm, -⟩, hc⟩ := h
  simp only [Value.slice.injEq] at e
  obtain ⟨rfl, rfl, rfl⟩ := e
  refine ⟨rfl, hl, hm, fun j hj => ?_⟩
  rcases hc with e | ⟨b, off, e, h4⟩
  · rw [e] at hj; simp at hj
  · exact ⟨b, off, e, World.block_lt_of_cell? w _ (h4 j hj), h4 j hj⟩
theorem Reads.form {w : World} {v : Value} {xs : List Int} (h : Reads w v xs) : ∃ ao cap, v = .slice ao xs.length cap := by
  obtain ⟨ao, cap, e, _⟩ := h
  exact ⟨ao, cap, e⟩

theorem bothOk_yes {a b : List Int} (h : bothOk a b = true) : blocksOk a = true ∧ blocksOk b = true ∧ a.length = b.length := by
  simpa [bothOk] using h

set_option maxRecDepth 20000 in
set_option maxHeartbeats 1000000 in
theorem sl2chosen_any (va vb : Value) (a b : List Int) (s : Int) (w : World) (ha : Reads w va a) (hb : Reads w vb b) (hl : a.length = b.length) (h1 : 1 ≤ a.length) (h8 : a.length ≤ 8) (h0 : 0 ≤ s) (hs : s < 256) :
    Calls Tryz.prog 107 #[va, vb, .int .i64 s] w fun e w' => ∃ u, e = .returned u ∧ Own w' w.heap.size u (chosenUp a b s 8 a.length) ∧ Below w.heap.size w w' := by
  have c1 := copy_any va a w ha (by omega)
  obtain ⟨ao, ca, rfl⟩ := ha.form
  obtain ⟨bo, cb, rfl⟩ := hb.form
  obtain ⟨-, lb, mb, cb1⟩ := hb.cellOf
  clear ha hb
  rw [← hl] at lb cb1 ⊢
  have HF : Hid (chosenUp a b s a.length a.length = chosenUp a b s 8 a.length) := chosenUp_full h8
  obtain ⟨n, hn⟩ : ∃ n, n = a.length := ⟨_, rfl⟩
  rw [← hn] at c1 lb cb1 h1 h8 HF ⊢
  have HN : Hid (n = a.length) := hn
  clear hl hn
  unfold maxLen at mb
  go_enter Tryz.func107, Tryz.ntmps107
  go_wp2_with (go_at_call 106; refine c1.mono ?_; rintro e w1 ⟨u, rfl, o1, b1⟩; obtain ⟨g, cap1, rfl, hbg, -⟩ := World.ownsRow.form o1 (by have := HN.out; omega); have HU : Hid (Own w1 w.heap.size (.slice (some ⟨g, 0, none⟩) n cap1) (chosenUp a b s 0 n) ∧ Below w.heap.size w w1) := (by have e := HN.out; rw [e] at *; rw [chosenUp_zero]; exact ⟨o1, b1⟩); rw [← HN.out]; clear o1 b1)
  clear c1
  go_loopw [8] (fun i wr => ∃ j : Nat, j ≤ n ∧ i = .int .i64 j ∧ Hid (Own wr w.heap.size (.slice (some ⟨g, 0, none⟩) n cap1) (chosenUp a b s j n) ∧ Below w.heap.size w wr)) (fun i _ => n - (intOf i).toNat)
  case atStart => exact ⟨0, Nat.zero_le _, rfl, HU⟩
  case round =>
    obtain ⟨j, hj, rfl, HR⟩ := hrel
    clear HU
    by_cases hlt : (j : Int) < (n : Int)
    · obtain ⟨b2, off', rfl, hb2, hc0⟩ := cb1 j (by omega)
      have hc2 := (HR.out.2.cell (p := ⟨b2, off' + j, none⟩) hb2).trans hc0
      obtain ⟨y, hy⟩ : ∃ y, y = b.getD j 0 := ⟨_, rfl⟩
      rw [← hy] at hc2
      clear cb1 hc0
      obtain ⟨ib, hib⟩ : ∃ ib, ib = inB s j := ⟨_, rfl⟩
      have htest : ((s / 2 ^ j).tmod 2 == 1) = ib := by rw [hib]; exact shr_in (i := (j : Int)) h0 hs (by omega) (by omega)
      cases ib
      · have HS : Hid (Own wr w.heap.size (.slice (some ⟨g, 0, none⟩) n cap1) (chosenUp a b s (j + 1) n) ∧ Below w.heap.size w wr) := by
          rw [Hid, chosenUp_no hib.symm]; exact HR.out
        clear hib hy HR
        go_wp2
        go_roundw
        case rel => exact ⟨j + 1, by omega, by go_num, HS⟩
        case measure => simp [intOf]; omega
      · obtain ⟨hfr, ⟨z, hz⟩, ho⟩ := HR.out.1.put (by rw [chosenUp_len]) j (by omega) y
        have HS : Hid (Own (wr.setCell ⟨g, j, none⟩ (.int .i64 y)) w.heap.size (.slice (some ⟨g, 0, none⟩) n cap1) (chosenUp a b s (j + 1) n) ∧ Below w.heap.size w (wr.setCell ⟨g, j, none⟩ (.int .i64 y))) := by
          rw [hy, chosenUp_yes hib.symm, ← hy] at ho
          exact ⟨ho, HR.out.2.setCell hbg _⟩
        clear hib hy HR ho
        go_wp2
        go_roundw
        case rel => exact ⟨j + 1, by omega, by go_num, HS⟩
        case measure => simp [intOf]; omega
    · clear cb1
      go_wp2
      go_ret
      have e : j = n := by omega
      have := HR.out
      rw [e, HF.out] at this
      exact ⟨_, rfl, this⟩

set_option maxRecDepth 20000 in
set_option maxHeartbeats 400000 in
theorem sset_any (s : Int) (w : World) :
    Calls Tryz.prog 45 #[.int .i64 s] w fun e w' => e = .returned (.bool (setOk s)) ∧ w' = w := by
  by_cases h0 : 0 ≤ s
  · by_cases h1 : s ≤ 255
    · rw [setOk_pos h0 (by omega)]
      go_enter Tryz.func45, Tryz.ntmps45
      go_wp2
      go_ret
      exact ⟨ret_bool (by simp), rfl⟩
    · rw [setOk_neg (by omega)]
      go_enter Tryz.func45, Tryz.ntmps45
      go_wp2
      go_ret
      exact ⟨ret_bool (by simp), rfl⟩
  · rw [setOk_neg (by omega)]
    go_enter Tryz.func45, Tryz.ntmps45
    go_wp2
    go_ret
    exact ⟨ret_bool (by simp), rfl⟩

theorem setOk_bd {s : Int} (h : setOk s = true) : 0 ≤ s ∧ s < 256 := by simpa [setOk] using h
end Go.Proofs.YteooloceaoinlaaGreatDoor
