/- What one may change of a holding, as plain lists and numbers. -/
import Derived.Test.YtlkkpolnllbljaaGreatDoorM2
import Derived.Test.YtlkkpolnllbljaaGreatDoorM1
import Derived.Test.YtlkkpolnllbljaaGreatDoorRows
import Derived.WalkKit
import Derived.ProofKit
import Derived.OpenShut
import Derived.Laws.Tables
import Derived.Laws.ResultCell
import Derived.Deep.RegionHeld3
import Derived.Deep.RegionWith
import Derived.WalkSpells
import Derived.Below
namespace Go.Proofs.YtlkkpolnllbljaaGreatDoor
open Go.RowKit

def turnI (t : Int) : Int := if 1000000000 < t + 1 then 0 else t + 1
def Hd.zero : Hd := ⟨[], 0, 0, 0⟩
def Hd.free (h : Hd) : Hd := ⟨h.ks, 0, -1, h.tu⟩
def Hd.take (h : Hd) (i k : Int) : Hd := ⟨h.ks, k, if allI k then -1 else i, h.tu⟩
def Hd.turn (h : Hd) : Hd := ⟨h.ks, h.kd, h.ho, turnI h.tu⟩
def Hd.key (h : Hd) (i key : Int) : Hd := ⟨h.ks.set i.toNat key, h.kd, h.ho, h.tu⟩
def Hd.regd (h : Hd) (i key : Int) : Hd := if key = 0 ∧ (h.ho = i ∨ anyI (h.ks.set i.toNat key) = false) then ((h.key i key).turn).free else (h.key i key).turn
def Hd.register (h : Hd) (i key : Int) : Hd × Int := if h.ok && inI i 0 3 && inI key 0 9999 then (h.regd i key, 0) else (Hd.zero, 2)
def Hd.resd (h : Hd) (i k : Int) : Hd × Bool := if regI h.ks i = false then (h, false) else if h.kd = 0 then (h.take i k, true) else (h, decide (h.kd = k) && (allI k || decide (h.ho = i)))
def told (r : Hd × Bool) : Hd × Int := (r.1, if r.2 then 0 else 1)
def Hd.reserve (h : Hd) (i k : Int) : Hd × Int := if h.ok && inI i 0 3 && kiI k then told (h.resd i k) else (Hd.zero, 2)
def Hd.reld (h : Hd) (i : Int) : Hd × Bool := if regI h.ks i = false then (h, false) else if h.holds i then (h.free, true) else (h, true)
def Hd.release (h : Hd) (i : Int) : Hd × Int := if h.ok && inI i 0 3 then told (h.reld i) else (Hd.zero, 2)
def Hd.clrd (h : Hd) (i : Int) : Hd × Bool := if regI h.ks i = false then (h, false) else (⟨[0, 0, 0, 0], 0, -1, turnI h.tu⟩, true)
def Hd.clear (h : Hd) (i : Int) : Hd × Int := if h.ok && inI i 0 3 then told (h.clrd i) else (Hd.zero, 2)
/- The first j keys but this one's: those that are 'key' are struck; is any left? -/
def strike (ks : List Int) (i : Nat) (key : Int) : Nat → List Int
  | 0 => ks
  | j + 1 => if j ≠ i ∧ ks.getD j 0 = key then (strike ks i key j).set j 0 else strike ks i key j
def more (ks : List Int) (i : Nat) (key : Int) : Nat → Bool
  | 0 => false
  | j + 1 => more ks i key j || (decide (j ≠ i) && (decide (ks.getD j 0 ≠ key) && decide (ks.getD j 0 ≠ 0)))
def has (ks : List Int) (key : Int) : Nat → Bool
  | 0 => false
  | j + 1 => has ks key j || decide (ks.getD j 0 = key)
def Hd.alone (h : Hd) (key : Int) : Bool := decide (h.kd ≠ 0) && (!allI h.kd && decide (h.ks.getD h.ho.toNat 0 = key))
def Hd.pred (h : Hd) (i key k : Int) : Hd × Bool :=
  if (regI h.ks i && has h.ks key 4) = false then (h, false) else
  if (h.alone key || (allI h.kd && !more h.ks i.toNat key 4)) = true then ((Hd.turn ⟨strike h.ks i.toNat key 4, h.kd, h.ho, h.tu⟩).take i k, true)
  else (Hd.turn ⟨strike h.ks i.toNat key 4, h.kd, h.ho, h.tu⟩, true)
theorem strike_len (ks : List Int) (i : Nat) (key : Int) (j : Nat) : (strike ks i key j).length = ks.length := by
  induction j with
  | zero => rfl
  | succ j ih => unfold strike; split <;> simp [ih]
theorem strike_at (ks : List Int) (i : Nat) (key : Int) (j m : Nat) (hm : j ≤ m) : (strike ks i key j).getD m 0 = ks.getD m 0 := by
  induction j with
  | zero => rfl
  | succ j ih =>
    have := ih (by omega)
    unfold strike
    split
    · rw [← this]
      simp only [List.getD_eq_getElem?_getD]
      rw [List.getElem?_set_ne (by omega)]
    · exact this
def Hd.preempt (h : Hd) (i key k : Int) : Hd × Int := if h.ok && inI i 0 3 && inI key 1 9999 && kiI k then told (h.pred i key k) else (Hd.zero, 2)
theorem Hd.ok_all {h : Hd} (e : h.ok = true) : h.ks.length = 4 ∧ (0 ≤ h.tu ∧ h.tu ≤ 1000000000) ∧ keysI h.ks = true ∧ h.mid = true := by
  unfold Hd.ok at e
  simp only [Bool.and_eq_true, decide_eq_true_eq] at e
  exact ⟨e.1.1.1, (inI_iff _ _ _).1 e.1.1.2, e.1.2, e.2⟩
theorem turnI_in (t : Int) (h0 : 0 ≤ t) (h1 : t ≤ 1000000000) : 0 ≤ turnI t ∧ turnI t ≤ 1000000000 := by
  unfold turnI; split <;> omega
/- What is answered has four keys, or none. -/
theorem register_len (h : Hd) (i key : Int) : (h.register i key).1.ks.length ≤ 4 := by
  unfold Hd.register
  split
  · rename_i c
    simp only [Bool.and_eq_true] at c
    have := (Hd.ok_all c.1.1).1
    unfold Hd.regd
    split <;> simp [Hd.free, Hd.turn, Hd.key, this]
  · simp [Hd.zero]
theorem told_fst (r : Hd × Bool) : (told r).1 = r.1 := rfl
theorem reserve_len (h : Hd) (i k : Int) : (h.reserve i k).1.ks.length ≤ 4 := by
  unfold Hd.reserve
  split
  · rename_i c
    simp only [Bool.and_eq_true] at c
    have := (Hd.ok_all c.1.1).1
    rw [told_fst]
    unfold Hd.resd
    split
    · simp [this]
    · split <;> simp [Hd.take, this]
  · simp [Hd.zero]
theorem release_len (h : Hd) (i : Int) : (h.release i).1.ks.length ≤ 4 := by
  unfold Hd.release
  split
  · rename_i c
    simp only [Bool.and_eq_true] at c
    have := (Hd.ok_all c.1).1
    rw [told_fst]
    unfold Hd.reld
    split
    · simp [this]
    · split <;> simp [Hd.free, this]
  · simp [Hd.zero]
theorem clear_len (h : Hd) (i : Int) : (h.clear i).1.ks.length ≤ 4 := by
  unfold Hd.clear
  split
  · rename_i c
    simp only [Bool.and_eq_true] at c
    have := (Hd.ok_all c.1).1
    rw [told_fst]
    unfold Hd.clrd
    split <;> simp [this]
  · simp [Hd.zero]
theorem preempt_len (h : Hd) (i key k : Int) : (h.preempt i key k).1.ks.length ≤ 4 := by
  unfold Hd.preempt
  split
  · rename_i c
    simp only [Bool.and_eq_true] at c
    have := (Hd.ok_all c.1.1.1).1
    rw [told_fst]
    unfold Hd.pred
    split
    · simp [this]
    · split <;> simp [Hd.take, Hd.turn, strike_len, this]
  · simp [Hd.zero]
end Go.Proofs.YtlkkpolnllbljaaGreatDoor
/- Holdings as texts: what is told of one, how one is shown and read. -/
namespace Go.Proofs.YtlkkpolnllbljaaGreatDoor
open Go.RowKit

def Hd.keysN (h : Hd) : List Int := h.tu :: h.ks.filter (fun k => decide (k ≠ 0))
def Hd.holdN (h : Hd) : List Int := [h.tu, h.kd, if 0 ≤ h.ho then h.ks.getD h.ho.toNat 0 else 0]
def Hd.showN (h : Hd) : List Int := h.ks ++ [h.kd, h.ho, h.tu]
def Hd.keysT (h : Hd) : Bs := if h.ok then intsB h.keysN else []
def Hd.holdT (h : Hd) : Bs := if h.ok then intsB h.holdN else []
def Hd.showT (h : Hd) : Bs := if h.ok then intsB h.showN else []
def hdOf (ns : List Int) : Hd := ⟨ns.take 4, ns.getD 4 0, ns.getD 5 0, ns.getD 6 0⟩
def readH (s : Bs) : Option Hd := if ((splitB 32 s).length = 7 ∧ (splitB 32 s).all okT = true) ∧ (hdOf ((splitB 32 s).map numT)).ok = true then some (hdOf ((splitB 32 s).map numT)) else none
def readD (s : Bs) : Hd := (readH s).getD Hd.zero
def readY (s : Bs) : Bool := (readH s).isSome

theorem splitB_appN (c : UInt8) (a r : Bs) (h : ∀ b ∈ a, b ≠ c) : splitB c (a ++ c :: r) = a :: splitB c r := by
  induction a with
  | nil => simp [splitB]
  | cons b a ih =>
    rw [List.cons_append, splitB, if_neg (h b (by simp)), ih (fun x hx => h x (by simp [hx]))]
    rfl
theorem decI_no32 (x : Int) : ∀ b ∈ decI x, b ≠ 32 := by
  have hd : ∀ n, ∀ b ∈ dec n, b ≠ 32 := by
    intro n b hb e
    have := List.all_eq_true.1 (dec_digs n).1 b hb
    rw [e] at this
    exact absurd this (by decide)
  intro b hb
  unfold decI at hb
  split at hb
  · rcases List.mem_cons.1 hb with rfl | hb
    · decide
    · exact hd _ b hb
  · exact hd _ b hb
theorem splitB_ints (xs : List Int) (h : xs ≠ []) : splitB 32 (intsB xs) = xs.map decI := by
  induction xs with
  | nil => exact absurd rfl h
  | cons x l ih =>
    cases l with
    | nil => rw [intsB, splitB_word 32 _ (decI_no32 x)]; rfl
    | cons y l =>
      rw [intsB, splitB_appN 32 _ _ (decI_no32 x), ih (by simp)]
      rfl
theorem Hd.ok_nums {h : Hd} (e : h.ok = true) : ∀ x ∈ h.showN, -10000000000 < x ∧ x < 10000000000 := by
  obtain ⟨hl, ht, hk, hm⟩ := Hd.ok_all e
  intro x hx
  unfold Hd.showN at hx
  rcases List.mem_append.1 hx with hx | hx
  · have := List.all_eq_true.1 hk x hx
    have := (inI_iff _ _ _).1 this
    omega
  · have hkd : -1 ≤ h.kd ∧ h.kd ≤ 100 ∧ -1 ≤ h.ho ∧ h.ho ≤ 3 := by
      unfold Hd.mid at hm
      split at hm
      · rename_i c
        have : h.ho = -1 := by simpa using hm
        omega
      · split at hm
        · rename_i c
          have h1 : h.ho = -1 := by simp only [Bool.and_eq_true, decide_eq_true_eq] at hm; exact hm.1
          have : h.kd = 5 ∨ h.kd = 6 := by simpa [allI] using c
          omega
        · simp only [Bool.and_eq_true] at hm
          have := (inI_iff _ _ _).1 (show inI h.kd 1 6 = true from hm.1.1)
          have := (inI_iff _ _ _).1 hm.1.2
          omega
    simp only [List.mem_cons, List.mem_nil_iff, or_false] at hx
    rcases hx with rfl | rfl | rfl <;> omega
theorem hdOf_show {h : Hd} (hl : h.ks.length = 4) : hdOf h.showN = h := by
  obtain ⟨ks, kd, ho, tu⟩ := h
  dsimp only at hl
  match ks, hl with
  | [a, b, c, d], _ => rfl
theorem map_read (xs : List Int) (h : ∀ x ∈ xs, -10000000000 < x ∧ x < 10000000000) : (xs.map decI).map numT = xs ∧ (xs.map decI).all okT = true := by
  constructor
  · rw [List.map_map]
    conv => rhs; rw [← List.map_id xs]
    apply List.map_congr_left
    intro x hx
    exact (readT_decI x (h x hx).1 (h x hx).2).2
  · rw [List.all_eq_true]
    intro b hb
    obtain ⟨x, hx, rfl⟩ := List.mem_map.1 hb
    exact (readT_decI x (h x hx).1 (h x hx).2).1
/- What is shown is read. -/
theorem readH_show {h : Hd} (e : h.ok = true) : readH (intsB h.showN) = some h := by
  have hl := (Hd.ok_all e).1
  have hs : splitB 32 (intsB h.showN) = h.showN.map decI := splitB_ints _ (by simp [Hd.showN])
  obtain ⟨m1, m2⟩ := map_read _ (Hd.ok_nums e)
  unfold readH
  rw [hs, m1, hdOf_show hl]
  rw [if_pos]
  refine ⟨⟨?_, m2⟩, e⟩
  rw [List.length_map]
  simp [Hd.showN, hl]
/- What is read is shown so. -/
theorem showH_read {s : Bs} {h : Hd} (e : readH s = some h) : h.ok = true ∧ intsB h.showN = s := by
  unfold readH at e
  split at e
  · rename_i c
    obtain ⟨⟨c1, c2⟩, c3⟩ := c
    simp only [Option.some.injEq] at e
    rw [e] at c3
    refine ⟨c3, ?_⟩
    have hj := joinB_split 32 s
    obtain ⟨ws, hws⟩ : ∃ ws, ws = splitB 32 s := ⟨_, rfl⟩
    rw [← hws] at c1 c2 e hj
    have hm : h.showN = ws.map numT := by
      rw [← e]
      match ws, c1 with
      | [a, b, c, d, x, y, z], _ => rfl
    rw [hm, ← join_ints, List.map_map]
    have : ws.map (decI ∘ numT) = ws := by
      conv => rhs; rw [← List.map_id ws]
      apply List.map_congr_left
      intro b hb
      exact readT_back b (List.all_eq_true.1 c2 b hb)
    rw [this, hj]
  · cases e
theorem readD_len (s : Bs) : (readD s).ks.length ≤ 4 := by
  unfold readD
  cases h : readH s with
  | none => simp [Hd.zero]
  | some g =>
    have := (Hd.ok_all (showH_read h).1).1
    simp; omega
end Go.Proofs.YtlkkpolnllbljaaGreatDoor
/- How much is left behind a list; what stays where one cell is set. -/
namespace Go.Proofs.YtlkkpolnllbljaaGreatDoor
open Go.ChangeShapes Go.WideShapes Go.ChangeAt Go.RowKit

theorem grownSet (w : World) (g j : Nat) (x : Value) : w.grownBy (w.setCell ⟨g, j, none⟩ x) (some g) :=
  ⟨rfl, rfl, rfl, by simp, fun k _ hk => heap_setCell_other w ⟨g, j, none⟩ k x (fun e => hk (by simp [e]))⟩
theorem Own.keptLt {w w' : World} {base g : Nat} {v : Value} {xs : List Int} (h : Own w base v xs) (hg : w.grownBy w' (some g)) (hb : g < base) : Own w' base v xs :=
  h.kept hg (by
    by_cases e : v.ownBlock = none
    · exact .inl e
    · refine .inr fun e2 => ?_
      have := h.lt g e2
      omega)
theorem Own.setLt {w : World} {base g : Nat} {v : Value} {xs : List Int} (h : Own w base v xs) (hb : g < base) (j : Nat) (x : Value) : Own (w.setCell ⟨g, j, none⟩ x) base v xs := h.keptLt (grownSet w g j x) hb

def szI (k : Int) (n : Nat) : Int := if (n : Int) ≤ k then k - n else -1

set_option maxRecDepth 20000 in
set_option maxHeartbeats 400000 in
theorem sz_any (v : Value) (xs : List Int) (k : Int) (w : World) (h : Reads w v xs) (h0 : 0 ≤ k) (h1 : k ≤ 1048576) :
    Calls Tryz.prog 43 #[v, .int .i64 k] w fun e w' => e = .returned (.int .i64 (szI k xs.length)) ∧ w' = w := by
  obtain ⟨ao, cap, rfl, hl, ⟨hm, -⟩, -⟩ := h
  unfold maxLen at hm
  obtain ⟨n, hn⟩ : ∃ n, n = xs.length := ⟨_, rfl⟩
  rw [← hn] at hl ⊢
  clear hn
  by_cases hk : (n : Int) ≤ k
  · have e : szI k n = k - n := by simp [szI, hk]
    rw [e]
    clear e
    go_enter Tryz.func43, Tryz.ntmps43
    go_wp2
    go_ret
    exact ⟨rfl, rfl⟩
  · have e : szI k n = -1 := by simp [szI, hk]
    rw [e]
    clear e
    go_enter Tryz.func43, Tryz.ntmps43
    go_wp2
    go_ret
    exact ⟨rfl, rfl⟩
end Go.Proofs.YtlkkpolnllbljaaGreatDoor
/- In, With, Without and Full, the program's and the model's: each answers what plain sets say, at every argument, and leaves the world as it was. -/
namespace Go.Proofs.YtlkkpolnllbljaaGreatDoor
open Go.ChangeShapes Go.WideShapes Go.ChangeAt Go.RowKit

set_option maxRecDepth 20000 in
set_option maxHeartbeats 400000 in
theorem in_any (s i : Int) (w : World) :
    Calls Tryz.prog 169 #[.int .i64 s, .int .i64 i] w fun e w' => e = .returned (.bool (inB s i)) ∧ w' = w := by
  by_cases h0 : 0 ≤ s
  · by_cases h1 : s < 256
    · by_cases h2 : 0 ≤ i
      · by_cases h3 : i < 8
        · go_enter Tryz.func169, Tryz.ntmps169
          go_wp2
          go_ret
          exact ⟨ret_bool (and_in h0 h1 h2 h3), rfl⟩
        · have e := inB_noitem (s := s) (i := i) (by omega)
          rw [e]
          clear e
          go_enter Tryz.func169, Tryz.ntmps169
          go_wp2
          go_ret
          exact ⟨rfl, rfl⟩
      · have e := inB_noitem (s := s) (i := i) (by omega)
        rw [e]
        clear e
        go_enter Tryz.func169, Tryz.ntmps169
        go_wp2
        go_ret
        exact ⟨rfl, rfl⟩
    · have e := inB_noset (s := s) (i := i) (by omega)
      rw [e]
      clear e
      go_enter Tryz.func169, Tryz.ntmps169
      go_wp2
      go_ret
      exact ⟨rfl, rfl⟩
  · have e := inB_noset (s := s) (i := i) (by omega)
    rw [e]
    clear e
    go_enter Tryz.func169, Tryz.ntmps169
    go_wp2
    go_ret
    exact ⟨rfl, rfl⟩
end Go.Proofs.YtlkkpolnllbljaaGreatDoor
/- The model's Put, Differ and Chosen answer what plain lists say, in new memory, and write nothing that was there. -/
namespace Go.Proofs.YtlkkpolnllbljaaGreatDoor
open Go.ChangeShapes Go.WideShapes Go.ChangeAt Go.RowKit

theorem valOk_eq (x : Int) : (decide (0 ≤ x) && decide (x ≤ 9999)) = valOk x := rfl
theorem valOk_yes {x : Int} (h0 : 0 ≤ x) (h1 : x ≤ 9999) : valOk x = true := by simp [valOk, h0, h1]
theorem valOk_no {x : Int} (h : x < 0 ∨ 9999 < x) : valOk x = false := by simp [valOk]; omega

set_option maxRecDepth 20000 in
set_option maxHeartbeats 400000 in
theorem sval_any (x : Int) (w : World) :
    Calls Tryz.prog 128 #[.int .i64 x] w fun e w' => e = .returned (.bool (valOk x)) ∧ w' = w := by
  by_cases h0 : 0 ≤ x
  · by_cases h1 : x ≤ 9999
    · rw [valOk_yes h0 h1]
      go_enter Tryz.func128, Tryz.ntmps128
      go_wp2
      go_ret
      exact ⟨ret_bool (by simp), rfl⟩
    · rw [valOk_no (by omega)]
      go_enter Tryz.func128, Tryz.ntmps128
      go_wp2
      go_ret
      exact ⟨ret_bool (by simp), rfl⟩
  · rw [valOk_no (by omega)]
    go_enter Tryz.func128, Tryz.ntmps128
    go_wp2
    go_ret
    exact ⟨ret_bool (by simp), rfl⟩

theorem Reads.cellOf {w : World} {ao : Option Addr} {n cap : Nat} {xs : List Int} (h : Reads w (.slice ao n cap) xs) : n = xs.length ∧ n ≤ cap ∧ cap ≤ maxLen ∧ ∀ j, j < n → ∃ b off, ao = some ⟨b, off, none⟩ ∧ b < w.heap.size ∧ w.cell? ⟨b, off + j, none⟩ = some (.int .i64 (xs.getD j 0)) := by
  obtain ⟨ao', cap', e, hl, ⟨hm, -⟩, hc⟩ := h
  simp only [Value.slice.injEq] at e
  obtain ⟨rfl, rfl, rfl⟩ := e
  refine ⟨rfl, hl, hm, fun j hj => ?_⟩
  rcases hc with e | ⟨b, off, e, h4⟩
  · rw [e] at hj; simp at hj
  · exact ⟨b, off, e, World.block_lt_of_cell? w _ (h4 j hj), h4 j hj⟩
theorem Reads.form {w : World} {v : Value} {xs : List Int} (h : Reads w v xs) : ∃ ao cap, v = .slice ao xs.length cap := by
  obtain ⟨ao, cap, e, _⟩ := h
  exact ⟨ao, cap, e⟩

theorem bothOk_yes {a b : List Int} (h : bothOk a b = true) : blocksOk a = true ∧ blocksOk b = true ∧ a.length = b.length := by
  simpa [bothOk] using h

set_option maxRecDepth 20000 in
set_option maxHeartbeats 400000 in
theorem sset_any (s : Int) (w : World) :
    Calls Tryz.prog 145 #[.int .i64 s] w fun e w' => e = .returned (.bool (setOk s)) ∧ w' = w := by
  by_cases h0 : 0 ≤ s
  · by_cases h1 : s ≤ 255
    · rw [setOk_pos h0 (by omega)]
      go_enter Tryz.func145, Tryz.ntmps145
      go_wp2
      go_ret
      exact ⟨ret_bool (by simp), rfl⟩
    · rw [setOk_neg (by omega)]
      go_enter Tryz.func145, Tryz.ntmps145
      go_wp2
      go_ret
      exact ⟨ret_bool (by simp), rfl⟩
  · rw [setOk_neg (by omega)]
    go_enter Tryz.func145, Tryz.ntmps145
    go_wp2
    go_ret
    exact ⟨ret_bool (by simp), rfl⟩

theorem setOk_bd {s : Int} (h : setOk s = true) : 0 ≤ s ∧ s < 256 := by simpa [setOk] using h
end Go.Proofs.YtlkkpolnllbljaaGreatDoor
/- Disks, structs of two lists: what the laws' szDisk, toDisk, eqDisk, markDisk and heldDisk answer. -/
namespace Go.Proofs.YtlkkpolnllbljaaGreatDoor
open Go.ChangeShapes Go.WideShapes Go.ChangeAt Go.RowKit

def apart (u v : Value) : Prop := (u.ownBlock = none ∨ u.ownBlock ≠ v.ownBlock) ∧ (v.ownBlock = none ∨ v.ownBlock ≠ u.ownBlock)

/- A new disk: its two lists lie in new memory, apart. -/
def OwnD (w : World) (base : Nat) (u v : Value) (xs ys : List Int) : Prop := Own w base u xs ∧ Own w base v ys ∧ apart u v

/- A struct of two values in memory, at block g. -/
def Pair (w : World) (g : Nat) (t : TypeId) (u v : Value) : Prop := w.heap[g]? = some (.cells #[u, v] t (0, 0))
theorem Pair.lt {w : World} {g : Nat} {t : TypeId} {u v : Value} (h : Pair w g t u v) : g < w.heap.size := by
  rcases Nat.lt_or_ge g w.heap.size with hlt | hge
  · exact hlt
  · rw [Pair, Array.getElem?_eq_none hge] at h; cases h
theorem Pair.new (w : World) (t : TypeId) (u v : Value) : Pair (w.alloc (.cells #[u, v] t)) w.heap.size t u v := heap_alloc_new w _
theorem Pair.below {w w' : World} {g : Nat} {t : TypeId} {u v : Value} (h : Pair w g t u v) (hb : Below w.heap.size w w') : Pair w' g t u v := (hb.block g h.lt).trans h
theorem Pair.kept {w w' : World} {g : Nat} {t : TypeId} {u v : Value} {row : Option Nat} (h : Pair w g t u v) (hg : w.grownBy w' row) (hne : some g ≠ row) : Pair w' g t u v := (hg.block g h.lt hne).trans h
theorem Pair.alloc {w : World} {g : Nat} {t : TypeId} {u v : Value} (h : Pair w g t u v) (o : Obj) : Pair (w.alloc o) g t u v := (Below.heap_alloc w o g h.lt).trans h
theorem Pair.cell0 {w : World} {g : Nat} {t : TypeId} {u v : Value} (h : Pair w g t u v) : w.cell? ⟨g, 0, none⟩ = some u := by rw [cell_of_row w g 0 _ _ _ h]; rfl
theorem Pair.cell1 {w : World} {g : Nat} {t : TypeId} {u v : Value} (h : Pair w g t u v) : w.cell? ⟨g, 1, none⟩ = some v := by rw [cell_of_row w g 1 _ _ _ h]; rfl
theorem Pair.frozen {w : World} {g : Nat} {t : TypeId} {u v : Value} (h : Pair w g t u v) (j : Nat) : w.frozen? ⟨g, j, none⟩ = false := frozen_of_row w g j _ _ h
theorem grown_alloc (w : World) (o : Obj) (row : Option Nat) : w.grownBy (w.alloc o) row := ⟨rfl, rfl, rfl, by simp, fun k hk _ => Below.heap_alloc w o k hk⟩
theorem belowAlloc (w : World) (o : Obj) : Below w.heap.size w (w.alloc o) := (Below.refl _ _).alloc (Nat.le_refl _) _

/- The parameter's box: a world behind it, as a letter. -/
theorem boxed (w : World) (t : TypeId) (u v : Value) : ∃ w1 g, w1 = w.alloc (.cells #[u, v] t) ∧ g = w.heap.size ∧ Pair w1 g t u v ∧ Below w.heap.size w w1 := ⟨_, _, rfl, rfl, Pair.new w t u v, belowAlloc w _⟩

set_option maxRecDepth 20000 in
set_option maxHeartbeats 400000 in
theorem szDisk_any (u v : Value) (xs ys : List Int) (k : Int) (w : World) (h : Reads w u xs) (h' : Reads w v ys) (h0 : 0 ≤ k) (h1 : k ≤ 1048576) :
    Calls Tryz.prog 12 #[.agg #[u, v], .int .i64 k] w fun e w' => e = .returned (.int .i64 (szI k (xs.length + ys.length))) ∧ Below w.heap.size w w' := by
  have hb := belowAlloc w (.cells #[u, v] 24)
  have c1 := sz_any u xs k _ (h.below hb (Nat.le_refl _)) h0 h1
  by_cases hx : (xs.length : Int) ≤ k
  · have e1 : szI k xs.length = k - xs.length := by simp [szI, hx]
    have c2 := sz_any v ys (k - xs.length) _ (h'.below hb (Nat.le_refl _)) (by omega) (by omega)
    rw [e1] at c1
    by_cases hy : (ys.length : Int) ≤ k - xs.length
    · have e2 : szI (k - xs.length) ys.length = k - xs.length - ys.length := by simp [szI, hy]
      have e3 : Hid (szI k (xs.length + ys.length) = k - xs.length - ys.length) := by simp only [Hid, szI]; rw [if_pos (by omega)]; omega
      rw [e2] at c2
      clear e1 e2
      go_enter Tryz.func12, Tryz.ntmps12
      go_wp2_with fail
      refine c1.mono ?_
      rintro e w' ⟨rfl, hw⟩; subst w'
      go_wp2_with fail
      refine c2.mono ?_
      rintro e w' ⟨rfl, hw⟩; subst w'
      go_wp2_with fail
      go_ret
      exact ⟨ret_int e3.out.symm, hb⟩
    · have e2 : szI (k - xs.length) ys.length = -1 := by simp [szI, hy]
      have e3 : Hid (szI k (xs.length + ys.length) = -1) := by simp only [Hid, szI]; rw [if_neg (by omega)]
      rw [e2] at c2
      clear e1 e2
      go_enter Tryz.func12, Tryz.ntmps12
      go_wp2_with fail
      refine c1.mono ?_
      rintro e w' ⟨rfl, hw⟩; subst w'
      go_wp2_with fail
      refine c2.mono ?_
      rintro e w' ⟨rfl, hw⟩; subst w'
      go_wp2_with fail
      go_ret
      exact ⟨ret_int e3.out.symm, hb⟩
  · have e1 : szI k xs.length = -1 := by simp [szI, hx]
    have e3 : Hid (szI k (xs.length + ys.length) = -1) := by simp only [Hid, szI]; rw [if_neg (by omega)]
    rw [e1] at c1
    clear e1
    go_enter Tryz.func12, Tryz.ntmps12
    go_wp2_with fail
    refine c1.mono ?_
    rintro e w' ⟨rfl, hw⟩; subst w'
    go_wp2_with fail
    go_ret
    exact ⟨ret_int e3.out.symm, hb⟩

theorem Tryz.infoD : (Tryz.prog.info? 36).map (·.size) = some 2 := by kernel_rfl

theorem Tryz.infoLD : (Tryz.prog.info? 24).map (·.size) = some 2 := by kernel_rfl

theorem apart_of {w1 w2 : World} {b1 b2 : Nat} {v0 v1 : Value} {xs ys : List Int} (h : Own w1 b1 v0 xs) (k : Own w2 b2 v1 ys) (hb : w1.heap.size ≤ b2) : apart v0 v1 := ⟨h.apart k hb, h.apart' k hb⟩

theorem Tryz.underD : ∃ fs, Tryz.prog.underlying 36 = some (.struct fs) := ⟨_, Tryz.underlying36⟩
theorem Reads.one {w : World} {v : Value} {xs : List Int} (h : Reads w v xs) : v.oneCell' = true := by
  obtain ⟨ao, cap, rfl, _⟩ := h; rfl
theorem pair_one {u v : Value} (hu : u.oneCell' = true) (hv : v.oneCell' = true) : (#[u, v] : Array Value).all (·.oneCell') = true := by simp [hu, hv]
theorem Pair.set0 {w : World} {g : Nat} {t : TypeId} {u v : Value} (h : Pair w g t u v) (x : Value) : Pair (w.setCell ⟨g, 0, none⟩ x) g t x v := heap_setCell_same w g 0 _ _ x h
theorem Pair.set1 {w : World} {g : Nat} {t : TypeId} {u v : Value} (h : Pair w g t u v) (x : Value) : Pair (w.setCell ⟨g, 1, none⟩ x) g t u x := heap_setCell_same w g 1 _ _ x h
theorem Pair.other {w : World} {g : Nat} {t : TypeId} {u v : Value} (h : Pair w g t u v) (a : Addr) (x : Value) (hne : g ≠ a.block) : Pair (w.setCell a x) g t u v := (heap_setCell_other w a g x hne).trans h
theorem grownRow (w : World) (g : Nat) (cs : Array Value) : w.grownBy (w.setRow g cs) (some g) :=
  ⟨rfl, rfl, rfl, by simp, fun k _ hne => _root_.Go.setRow_other w g k cs (fun e => hne (by rw [e]))⟩

theorem wpList_getP {ops : Array Oper} {rest : List Oper} {o : Oper} {a : Act} {w : World} {Q : Exit → Act → World → Prop} (hgd : o.guard = none) (x : Operand) (ho : o.op = .load 36 x)
    (g : Nat) (hx : a.eval x = .pointer (some ⟨g, 0, none⟩)) (u v : Value) (hr : Pair w g 36 u v)
    (h : wpList Tryz.prog ops Q rest (a.put o.dst (.agg #[u, v])) w) : wpList Tryz.prog ops Q (o :: rest) a w := by
  obtain ⟨fs, hu⟩ := Tryz.underD
  exact wpList_load_row hgd _ x ho g hx _ _ _ _ hr hu rfl Tryz.infoD h
theorem wpList_putP {ops : Array Oper} {rest : List Oper} {o : Oper} {a : Act} {w : World} {Q : Exit → Act → World → Prop} (hgd : o.guard = none) (x y : Operand) (ho : o.op = .store 36 x y)
    (g : Nat) (u v u' v' : Value) (hx : a.eval x = .pointer (some ⟨g, 0, none⟩)) (hy : a.eval y = .agg #[u, v]) (hu : u.oneCell' = true) (hv : v.oneCell' = true) (hr : Pair w g 36 u' v')
    (h : ∀ w', Pair w' g 36 u v → w.grownBy w' (some g) → wpList Tryz.prog ops Q rest (a.put o.dst undef) w') : wpList Tryz.prog ops Q (o :: rest) a w :=
  wpList_store_row hgd _ x y ho g #[u, v] hx hy _ _ hr Tryz.infoD rfl (pair_one hu hv) (h _ (setRow_heap w g _ _ _ _ hr) (grownRow w g _))
theorem results_pair {fn : Func} {p : Tmp} (h : fn.results = #[.cell p 36]) (tmps : Array Value) (w : World) (g : Nat) (u v : Value)
    (hp : tmps.getD p undef = .pointer (some ⟨g, 0, none⟩)) (hr : Pair w g 36 u v) : (results fn tmps).run Tryz.prog w = .ok (.agg #[u, v]) w := by
  obtain ⟨fs, hu⟩ := Tryz.underD
  exact results_cell_row h tmps w g _ _ _ _ hp hr hu rfl Tryz.infoD
theorem results_pair2 {fn : Func} {p q : Tmp} (h : fn.results = #[.cell p 36, .tmp q]) (tmps : Array Value) (w : World) (g : Nat) (u v x : Value)
    (hp : tmps.getD p undef = .pointer (some ⟨g, 0, none⟩)) (hx : tmps.getD q undef = x) (hr : Pair w g 36 u v) : (results fn tmps).run Tryz.prog w = .ok (.tuple #[.agg #[u, v], x]) w := by
  obtain ⟨fs, hu⟩ := Tryz.underD
  rw [results_cell_tmp h, hp, hx]
  simp only [asAddr, Sem.run_pure, Result.andThen_ok]
  rw [run_loadVar_row w g _ _ _ _ _ hr hu rfl Tryz.infoD]
  rfl

set_option maxRecDepth 20000 in
set_option maxHeartbeats 1000000 in
theorem toDisk_any (u v : Value) (xs ys : List Int) (w : World) (h : Reads w u xs) (h' : Reads w v ys) (gx : xs.length ≤ 1099511627776) (gy : ys.length ≤ 1099511627776) :
    Calls Tryz.prog 19 #[.agg #[u, v]] w fun e w' => ∃ a b, e = .returned (.agg #[a, b]) ∧ OwnD w' w.heap.size a b xs ys ∧ Below w.heap.size w w' := by
  have HR : Hid (Reads w u xs ∧ Reads w v ys) := ⟨h, h'⟩
  clear h h'
  obtain ⟨w3, hw3⟩ : ∃ w3, w3 = ((w.alloc (.cells #[u, v] 24)).alloc (.cells #[.slice none 0 0, .slice none 0 0] 36)).alloc (.cells #[.slice none 0 0, .slice none 0 0] 36) := ⟨_, rfl⟩
  have p0 : Pair w3 w.heap.size 24 u v := by rw [hw3]; exact ((Pair.new w _ u v).alloc _).alloc _
  have p1 : Pair w3 (w.heap.size + 1) 36 (.slice none 0 0) (.slice none 0 0) := by rw [hw3]; have := (Pair.new (w.alloc (.cells #[u, v] 24)) 36 (.slice none 0 0) (.slice none 0 0)).alloc (.cells #[.slice none 0 0, .slice none 0 0] 36); simpa using this
  have p2 : Pair w3 (w.heap.size + 1 + 1) 36 (.slice none 0 0) (.slice none 0 0) := by rw [hw3]; have := Pair.new ((w.alloc (.cells #[u, v] 24)).alloc (.cells #[.slice none 0 0, .slice none 0 0] 36)) 36 (.slice none 0 0) (.slice none 0 0); simpa using this
  have b3 : Below w.heap.size w w3 := by rw [hw3]; exact (((Below.refl _ _).alloc (Nat.le_refl _) _).alloc (by simp) _).alloc (by simp; omega) _
  have hs3 : w3.heap.size = w.heap.size + 3 := by rw [hw3]; simp
  go_enter Tryz.func19, Tryz.ntmps19
  go_wp2_with fail
  rw [← hw3]
  clear hw3
  refine (to_any u xs _ (HR.out.1.below b3 (Nat.le_refl _)) gx).mono ?_
  rintro e w4 ⟨a, rfl, o4, b4⟩
  have hs4 := b4.size
  replace p0 := p0.below b4
  replace p1 := p1.below b4
  replace p2 := p2.below b4
  replace b4 := b3.trans (b4.mono b3.size)
  obtain ⟨ao, ca, hea⟩ := o4.reads.form
  have c2 := p2.cell0
  have f2 := p2.frozen 0
  have c1 := p0.cell1
  have q0 := p0.other ⟨w.heap.size + 1 + 1, 0, none⟩ a (by simp; omega)
  have q1 := p1.other ⟨w.heap.size + 1 + 1, 0, none⟩ a (by simp)
  have q2 := p2.set0 a
  have b5 : Below w.heap.size w (w4.setCell ⟨w.heap.size + 1 + 1, 0, none⟩ a) := b4.setCell (by simp; omega) _
  have o5 := o4.setLt (g := w.heap.size + 1 + 1) (by omega) 0 a
  subst hea
  obtain ⟨w5, hw5⟩ : ∃ w5, w5 = w4.setCell ⟨w.heap.size + 1 + 1, 0, none⟩ (.slice ao xs.length ca) := ⟨_, rfl⟩
  have hs45 : w5.heap.size = w4.heap.size := by rw [hw5]; simp
  rw [← hw5] at q0 q1 q2 b5 o5
  clear p0 p1 p2 o4 b3
  have hne : w.heap.size ≠ w.heap.size + 1 + 1 := by omega
  go_wp2_with fail
  rw [← hw5]
  clear hw5 c1 c2 f2
  refine (to_any v ys _ (HR.out.2.below b5 (Nat.le_refl _)) gy).mono ?_
  rintro e w6 ⟨b, rfl, o6, b6⟩
  have hap : apart (.slice ao xs.length ca) b := apart_of o5 o6 (Nat.le_refl _)
  replace q0 := q0.below b6
  replace q1 := q1.below b6
  replace q2 := q2.below b6
  replace o5 := o5.below b6
  have hs5 := b5.size
  replace b6 := b5.trans (b6.mono b5.size)
  replace o6 := o6.mono (show w3.heap.size ≤ w5.heap.size by omega)
  obtain ⟨bo, cb, heb⟩ := o6.reads.form
  have c2 := q2.cell1
  have f2 := q2.frozen 1
  have r1 := q1.other ⟨w.heap.size + 1 + 1, 1, none⟩ b (by simp)
  have r2 := q2.set1 b
  have b7 : Below w.heap.size w (w6.setCell ⟨w.heap.size + 1 + 1, 1, none⟩ b) := b6.setCell (by simp; omega) _
  replace o5 := o5.setLt (g := w.heap.size + 1 + 1) (by omega) 1 b
  have o7 := o6.setLt (g := w.heap.size + 1 + 1) (by omega) 1 b
  subst heb
  obtain ⟨w7, hw7⟩ : ∃ w7, w7 = w6.setCell ⟨w.heap.size + 1 + 1, 1, none⟩ (.slice bo ys.length cb) := ⟨_, rfl⟩
  rw [← hw7] at r1 r2 b7 o5 o7
  clear q0 q1 q2 o6 b5 b6
  go_wp2_with (first
    | (refine wpList_getP rfl _ rfl (w.heap.size + 1 + 1) rfl _ _ (by rw [← hw7]; exact r2) ?_)
    | (refine wpList_putP rfl _ _ rfl (w.heap.size + 1) _ _ _ _ rfl rfl rfl rfl (by rw [← hw7]; exact r1) ?_; rw [← hw7]; intro w8 s1 g8))
  refine bodyPost_ret (results_pair rfl _ _ (w.heap.size + 1) _ _ rfl s1) rfl ?_
  refine ⟨_, _, rfl, ⟨(o5.keptLt g8 (by omega)).mono (by omega), (o7.keptLt g8 (by omega)).mono (by omega), hap⟩, b7.grown g8 b7.size (fun k e => by cases e; omega)⟩

set_option maxRecDepth 20000 in
set_option maxHeartbeats 1000000 in
theorem eqDisk_any (u v a b : Value) (xs ys : List Int) (w : World) (hu : Reads w u xs) (hv : Reads w v ys) (ha : Reads w a xs) (hb : Reads w b ys) (gx : xs.length ≤ 1099511627776) (gy : ys.length ≤ 1099511627776) :
    Calls Tryz.prog 30 #[.agg #[u, v], .agg #[a, b]] w fun e w' => e = .returned (.bool true) ∧ Below w.heap.size w w' := by
  obtain ⟨w2, hw2⟩ : ∃ w2, w2 = (w.alloc (.cells #[u, v] 36)).alloc (.cells #[a, b] 36) := ⟨_, rfl⟩
  have p0 : Pair w2 w.heap.size 36 u v := by rw [hw2]; exact (Pair.new w _ u v).alloc _
  have p1 : Pair w2 (w.heap.size + 1) 36 a b := by rw [hw2]; have := Pair.new (w.alloc (.cells #[u, v] 36)) 36 a b; simpa using this
  have b2 : Below w.heap.size w w2 := by rw [hw2]; exact ((Below.refl _ _).alloc (Nat.le_refl _) _).alloc (by simp) _
  have c1 := eq_any u a xs xs w2 (hu.below b2 (Nat.le_refl _)) (ha.below b2 (Nat.le_refl _)) gx
  rw [show decide (xs = xs) = true by simp] at c1
  have c2 : ∀ n, _ := fun n => eq_any v b ys ys (w2.drewN n) (hv.below (below_drewN b2 n) (Nat.le_refl _)) (hb.below (below_drewN b2 n) (Nat.le_refl _)) gy
  rw [show decide (ys = ys) = true by simp] at c2
  clear hu hv ha hb gx gy
  go_enter Tryz.func30, Tryz.ntmps30
  go_wp2_with fail
  rw [← hw2]
  clear hw2
  refine c1.mono ?_
  rintro e w3 ⟨rfl, n3, hw3⟩
  have d0 := p0.cell1
  have d1 := p1.cell1
  have e0 : w3.cell? ⟨w.heap.size, 1, none⟩ = some v := by rw [hw3]; exact d0
  have e1 : w3.cell? ⟨w.heap.size + 1, 1, none⟩ = some b := by rw [hw3]; exact d1
  replace c2 := c2 n3
  have HB : Hid (Below w.heap.size w w3) := by rw [hw3]; exact below_drewN b2 n3
  rw [← hw3] at c2
  clear hw3 d0 d1 p0 p1 c1 b2
  go_wp2_with fail
  refine c2.mono ?_
  rintro e w4 ⟨rfl, n4, hw4⟩
  have HC : Hid (Below w.heap.size w w4) := by rw [hw4]; exact below_drewN HB.out n4
  clear hw4 HB e0 e1 c2
  go_wp2_with fail
  go_ret
  exact ⟨rfl, HC.out⟩

/- What marks in one list leave of others. -/
def Marked (w w' : World) (u v : Value) : Prop := ∃ w1, w.grownBy w1 u.ownBlock ∧ w1.grownBy w' v.ownBlock
theorem Own.marked {w w' : World} {base : Nat} {u v z : Value} {zs : List Int} (h : Own w base z zs) (m : Marked w w' u v) (hu : z.ownBlock = none ∨ z.ownBlock ≠ u.ownBlock) (hv : z.ownBlock = none ∨ z.ownBlock ≠ v.ownBlock) : Own w' base z zs := by
  obtain ⟨w1, g1, g2⟩ := m
  exact (h.kept g1 hu).kept g2 hv
theorem below_marked {B : Nat} {w0 w w' : World} {u v : Value} (h : Below B w0 w) (m : Marked w w' u v) (hB : B ≤ w.heap.size) (hu : ∀ k, u.ownBlock = some k → B ≤ k) (hv : ∀ k, v.ownBlock = some k → B ≤ k) : Below B w0 w' := by
  obtain ⟨w1, g1, g2⟩ := m
  exact (h.grown g1 hB hu).grown g2 (Nat.le_trans hB g1.size) hv

set_option maxRecDepth 20000 in
set_option maxHeartbeats 1000000 in
theorem markDisk_any (u v : Value) (xs ys : List Int) (k : Int) (w : World) (base : Nat) (ho : OwnD w base u v xs ys) (gx : xs.length ≤ 1048576) (gy : ys.length ≤ 1048576) (h0 : 0 ≤ k) (h1 : k ≤ 1048576) :
    Calls Tryz.prog 35 #[.agg #[u, v], .int .i64 k] w fun e w' => e = .returned (.int .i64 (k + xs.length + ys.length)) ∧ OwnD w' base u v (marks k xs.length) (marks (k + xs.length) ys.length) ∧ Marked w w' u v := by
  obtain ⟨ou, ov, ha⟩ := ho
  obtain ⟨w1, hw1⟩ : ∃ w1, w1 = w.alloc (.cells #[u, v] 36) := ⟨_, rfl⟩
  have p0 : Pair w1 w.heap.size 36 u v := by rw [hw1]; exact Pair.new w _ u v
  have b1 : Below w.heap.size w w1 := by rw [hw1]; exact belowAlloc w _
  have g1 : w.grownBy w1 u.ownBlock := by rw [hw1]; exact grown_alloc w _ _
  have hnu : some w.heap.size ≠ u.ownBlock := by
    intro e
    have := ou.lt _ e.symm
    omega
  replace ou := ou.below b1
  replace ov := ov.below b1
  go_enter Tryz.func35, Tryz.ntmps35
  go_wp2_with fail
  rw [← hw1]
  clear hw1 b1
  refine (mark_any u xs k w1 base ou (by omega) (by omega) (by omega)).mono ?_
  rintro e w2 ⟨rfl, ou2, g2⟩
  have e0 := (p0.kept g2 hnu).cell1
  have ov2 := ov.kept g2 ha.2
  have g12 := g1.trans g2
  clear p0 ou ov g1 g2
  go_wp2_with fail
  refine (mark_any v ys (k + xs.length) w2 base ov2 (by omega) (by omega) (by omega)).mono ?_
  rintro e w3 ⟨rfl, ov3, g3⟩
  have HC : Hid (OwnD w3 base u v (marks k xs.length) (marks (k + xs.length) ys.length) ∧ Marked w w3 u v) := ⟨⟨ou2.kept g3 ha.1, ov3, ha⟩, _, g12, g3⟩
  clear ou2 ov2 ov3 g12 g3 e0
  go_wp2_with fail
  go_ret
  exact ⟨rfl, HC.out⟩

set_option maxRecDepth 20000 in
set_option maxHeartbeats 1000000 in
theorem heldDisk_any (u v : Value) (n m : Nat) (k : Int) (w : World) (hu : Reads w u (marks k n)) (hv : Reads w v (marks (k + n) m)) (gx : n ≤ 1048576) (gy : m ≤ 1048576) (h0 : 0 ≤ k) (h1 : k ≤ 1048576) :
    Calls Tryz.prog 39 #[.agg #[u, v], .int .i64 k] w fun e w' => e = .returned (.int .i64 (k + n + m)) ∧ Below w.heap.size w w' := by
  have b1 : Below w.heap.size w (w.alloc (.cells #[u, v] 36)) := belowAlloc w _
  have c1 := held_marks u n k _ (hu.below b1 (Nat.le_refl _)) (by omega) (by omega) (by omega)
  have c2 := held_marks v m (k + n) _ (hv.below b1 (Nat.le_refl _)) (by omega) (by omega) (by omega)
  clear hu hv
  go_enter Tryz.func39, Tryz.ntmps39
  go_wp2_with fail
  refine c1.mono ?_
  rintro e w' ⟨rfl, hw⟩; subst w'
  go_wp2_with fail
  refine c2.mono ?_
  rintro e w' ⟨rfl, hw⟩; subst w'
  go_wp2_with fail
  go_ret
  exact ⟨rfl, b1⟩
end Go.Proofs.YtlkkpolnllbljaaGreatDoor
/- Disks: the model's DiskOk, NewDisk, Written, Flushed, Loose and Lost answer what plain lists say, in new memory. -/
namespace Go.Proofs.YtlkkpolnllbljaaGreatDoor
open Go.ChangeShapes Go.WideShapes Go.ChangeAt Go.RowKit

/- A parameter's box and the result's variable, both new, and nothing else has turned. -/
def Boxes (w wx : World) (u v : Value) : Prop :=
  Pair wx w.heap.size 36 u v ∧ Pair wx (w.heap.size + 1) 36 (.slice none 0 0) (.slice none 0 0) ∧ Below w.heap.size w wx ∧ w.heap.size + 2 ≤ wx.heap.size
theorem Boxes.start (w : World) (u v : Value) : Boxes w ((w.alloc (.cells #[u, v] 36)).alloc (.cells #[.slice none 0 0, .slice none 0 0] 36)) u v := by
  refine ⟨(Pair.new w _ u v).alloc _, ?_, ((Below.refl _ _).alloc (Nat.le_refl _) _).alloc (by simp) _, by simp⟩
  have := Pair.new (w.alloc (.cells #[u, v] 36)) 36 (.slice none 0 0) (.slice none 0 0)
  simpa using this
theorem Boxes.below {w wx wy : World} {u v : Value} (h : Boxes w wx u v) (b : Below wx.heap.size wx wy) : Boxes w wy u v :=
  ⟨h.1.below b, h.2.1.below b, h.2.2.1.trans (b.mono h.2.2.1.size), Nat.le_trans h.2.2.2 b.size⟩
theorem Boxes.drew {w wx : World} {u v : Value} (h : Boxes w wx u v) : Boxes w wx.drew u v := ⟨h.1, h.2.1, below_drewN h.2.2.1 1, h.2.2.2⟩
theorem Boxes.done {w wx wy : World} {u v a b : Value} {xs ys : List Int} {base base' : Nat} (h : Boxes w wx u v) (g : wx.grownBy wy (some (w.heap.size + 1))) (oa : Own wx base a xs) (ob : Own wx base' b ys) (hb : w.heap.size + 2 ≤ base) (hb' : w.heap.size + 2 ≤ base') (hap : apart a b) :
    OwnD wy w.heap.size a b xs ys ∧ Below w.heap.size w wy :=
  ⟨⟨(oa.keptLt g (by omega)).mono (by omega), (ob.keptLt g (by omega)).mono (by omega), hap⟩, h.2.2.1.grown g h.2.2.1.size (fun k e => by cases e; omega)⟩

theorem cell_set1 {w : World} {g j k : Nat} {x y : Value} (h : w.cell? ⟨g, j, none⟩ = some x) : (w.setCell ⟨g + 1, k, none⟩ y).cell? ⟨g, j, none⟩ = some x := by
  rw [World.cell?_of_block (w := w) (heap_setCell_other w ⟨g + 1, k, none⟩ g y (by simp)), h]
theorem grown_two (w : World) (g : Nat) (x y : Value) : w.grownBy ((w.setCell ⟨g, 0, none⟩ x).setCell ⟨g, 1, none⟩ y) (some g) := (grownSet w g 0 x).trans (grownSet _ g 1 y)
theorem apart.symm {u v : Value} (h : apart u v) : apart v u := ⟨h.2, h.1⟩

theorem beq_cast (n m : Nat) : ((n : Int) == (m : Int)) = decide (n = m) := by
  by_cases h : n = m
  · subst h; simp
  · have : (n : Int) ≠ m := by omega
    simp [h, this]

set_option maxRecDepth 20000 in
set_option maxHeartbeats 1000000 in
theorem l3Copy_any (u v : Value) (xs ys : List Int) (w : World) (h : Reads w u xs) (h' : Reads w v ys) (gx : xs.length ≤ 1099511627776) (gy : ys.length ≤ 1099511627776) :
    Calls Tryz.prog 51 #[.agg #[u, v]] w fun e w' => ∃ a b, e = .returned (.agg #[a, b]) ∧ OwnD w' w.heap.size a b xs ys ∧ Below w.heap.size w w' := by
  have HR : Hid (Reads w u xs ∧ Reads w v ys) := ⟨h, h'⟩
  clear h h'
  obtain ⟨w2, hw2⟩ : ∃ w2, w2 = (w.alloc (.cells #[u, v] 36)).alloc (.cells #[.slice none 0 0, .slice none 0 0] 36) := ⟨_, rfl⟩
  have HB : Hid (Boxes w w2 u v) := by rw [hw2]; exact Boxes.start w u v
  have c0 := HB.out.1.cell0
  have c1 := HB.out.1.cell1
  go_enter Tryz.func51, Tryz.ntmps51
  go_wp2_with fail
  rw [← hw2]
  clear hw2
  have HB2 := HB.out.drew
  go_region_held3 (fun w' => w'.cell? ⟨w.heap.size, 0, none⟩ = some u ∧ w'.cell? ⟨w.heap.size, 1, none⟩ = some v) (constructor <;> first | assumption | exact cell_set1 (cell_set1 (by assumption)))
    (first
      | (go_at_call_of 95 u; refine (copy_any u xs w2.drew (HR.out.1.below HB2.2.2.1 (Nat.le_refl _)) gx).mono ?_; rintro e w4 ⟨a, rfl, oa, ba⟩; have HB4 := HB2.below ba; have d0 := HB4.1.cell0; have d1 := HB4.1.cell1; obtain ⟨ao, ca, hea⟩ := oa.reads.form; subst hea)
      | (go_at_call_of 95 v; refine (copy_any v ys w4 (HR.out.2.below HB4.2.2.1 (Nat.le_refl _)) gy).mono ?_; rintro e w5 ⟨b, rfl, ob, bb⟩; have hap := apart_of oa ob (Nat.le_refl _); replace oa := oa.below bb; have hs5 := ba.size; have HB5 := HB4.below bb; have e0 := HB5.1.cell0; have e1 := HB5.1.cell1; have e2 := HB5.2.1.cell0; have e3 := HB5.2.1.cell1; have f2 := HB5.2.1.frozen 0; have f3 := HB5.2.1.frozen 1; obtain ⟨bo, cb, heb⟩ := ob.reads.form; subst heb))
  go_wp2_with fail
  refine bodyPost_ret (results_pair rfl _ _ (w.heap.size + 1) _ _ rfl ((HB5.2.1.set0 _).set1 _)) rfl ?_
  exact ⟨_, _, rfl, HB5.done (grown_two _ _ _ _) oa ob (HB2.2.2.2) (Nat.le_trans HB2.2.2.2 hs5) hap⟩

set_option maxRecDepth 20000 in
set_option maxHeartbeats 1000000 in
theorem l3Flushed_any (u v : Value) (ys : List Int) (w : World) (h' : Reads w v ys) (gy : ys.length ≤ 1099511627776) :
    Calls Tryz.prog 144 #[.agg #[u, v]] w fun e w' => ∃ a b, e = .returned (.agg #[a, b]) ∧ OwnD w' w.heap.size a b ys ys ∧ Below w.heap.size w w' := by
  have HR : Hid (Reads w v ys) := h'
  clear h'
  obtain ⟨w2, hw2⟩ : ∃ w2, w2 = (w.alloc (.cells #[u, v] 36)).alloc (.cells #[.slice none 0 0, .slice none 0 0] 36) := ⟨_, rfl⟩
  have HB : Hid (Boxes w w2 u v) := by rw [hw2]; exact Boxes.start w u v
  have c0 := HB.out.1.cell0
  have c1 := HB.out.1.cell1
  go_enter Tryz.func144, Tryz.ntmps144
  go_wp2_with fail
  rw [← hw2]
  clear hw2
  have HB2 := HB.out.drew
  go_region_held3 (fun w' => w'.cell? ⟨w.heap.size, 0, none⟩ = some u ∧ w'.cell? ⟨w.heap.size, 1, none⟩ = some v) (constructor <;> first | assumption | exact cell_set1 (cell_set1 (by assumption)))
    (first
      | (go_at_call_of 95 v; refine (copy_any v ys w2.drew (HR.out.below HB2.2.2.1 (Nat.le_refl _)) gy).mono ?_; rintro e w4 ⟨a, rfl, oa, ba⟩; have HB4 := HB2.below ba; have d0 := HB4.1.cell0; have d1 := HB4.1.cell1; obtain ⟨ao, ca, hea⟩ := oa.reads.form; subst hea)
      | (go_at_call_of 95 v; refine (copy_any v ys w4 (HR.out.below HB4.2.2.1 (Nat.le_refl _)) gy).mono ?_; rintro e w5 ⟨b, rfl, ob, bb⟩; have hap := apart_of oa ob (Nat.le_refl _); replace oa := oa.below bb; have hs5 := ba.size; have HB5 := HB4.below bb; have e0 := HB5.1.cell0; have e1 := HB5.1.cell1; have e2 := HB5.2.1.cell0; have e3 := HB5.2.1.cell1; have f2 := HB5.2.1.frozen 0; have f3 := HB5.2.1.frozen 1; obtain ⟨bo, cb, heb⟩ := ob.reads.form; subst heb))
  go_wp2_with fail
  refine bodyPost_ret (results_pair rfl _ _ (w.heap.size + 1) _ _ rfl ((HB5.2.1.set0 _).set1 _)) rfl ?_
  exact ⟨_, _, rfl, HB5.done (grown_two _ _ _ _) oa ob (HB2.2.2.2) (Nat.le_trans HB2.2.2.2 hs5) hap⟩

set_option maxRecDepth 20000 in
set_option maxHeartbeats 1000000 in
theorem sdiskOk_any (u v : Value) (xs ys : List Int) (w : World) (h : Reads w u xs) (h' : Reads w v ys) (gx : xs.length ≤ 1099511627776) (gy : ys.length ≤ 1099511627776) :
    Calls Tryz.prog 45 #[.agg #[u, v]] w fun e w' => e = .returned (.bool (bothOk xs ys)) ∧ Below w.heap.size w w' := by
  have b1 := belowAlloc w (.cells #[u, v] 36)
  have c1 := sok_any u xs _ (h.below b1 (Nat.le_refl _)) gx
  have c2 := sok_any v ys _ (h'.below b1 (Nat.le_refl _)) gy
  obtain ⟨ao, ca, rfl⟩ := h.form
  obtain ⟨bo, cb, rfl⟩ := h'.form
  have HB : Hid (Below w.heap.size w (w.alloc (.cells #[.slice ao xs.length ca, .slice bo ys.length cb] 36))) := b1
  clear h h' b1
  by_cases h1 : blocksOk xs = true
  · rw [h1] at c1
    by_cases h2 : blocksOk ys = true
    · rw [h2] at c2
      have HD : Hid (bothOk xs ys = decide (xs.length = ys.length)) := by simp [Hid, bothOk, h1, h2]
      obtain ⟨n, hn⟩ : ∃ n, n = xs.length := ⟨_, rfl⟩
      obtain ⟨m, hm⟩ : ∃ m, m = ys.length := ⟨_, rfl⟩
      rw [← hn] at c1 c2 HB HD ⊢
      rw [← hm] at c1 c2 HB HD ⊢
      clear h1 h2 gx gy hn hm
      go_enter Tryz.func45, Tryz.ntmps45
      go_wp2_with fail
      refine c1.mono ?_
      rintro e w' ⟨rfl, hw⟩; subst w'
      go_wp2_with fail
      refine c2.mono ?_
      rintro e w' ⟨rfl, hw⟩; subst w'
      go_wp2_with fail
      go_ret
      refine ⟨ret_bool ?_, HB.out⟩
      rw [HD.out]
      exact beq_cast n m
    · have h2' : blocksOk ys = false := by simpa using h2
      rw [h2'] at c2
      have HD : Hid (bothOk xs ys = false) := by simp [Hid, bothOk, h2']
      obtain ⟨n, hn⟩ : ∃ n, n = xs.length := ⟨_, rfl⟩
      obtain ⟨m, hm⟩ : ∃ m, m = ys.length := ⟨_, rfl⟩
      rw [← hn] at c1 c2 HB ⊢
      rw [← hm] at c1 c2 HB ⊢
      clear h1 h2 h2' gx gy hn hm
      go_enter Tryz.func45, Tryz.ntmps45
      go_wp2_with fail
      refine c1.mono ?_
      rintro e w' ⟨rfl, hw⟩; subst w'
      go_wp2_with fail
      refine c2.mono ?_
      rintro e w' ⟨rfl, hw⟩; subst w'
      go_wp2_with fail
      go_ret
      exact ⟨ret_bool HD.out.symm, HB.out⟩
  · have h1' : blocksOk xs = false := by simpa using h1
    rw [h1'] at c1
    have HD : Hid (bothOk xs ys = false) := by simp [Hid, bothOk, h1']
    obtain ⟨n, hn⟩ : ∃ n, n = xs.length := ⟨_, rfl⟩
    obtain ⟨m, hm⟩ : ∃ m, m = ys.length := ⟨_, rfl⟩
    rw [← hn] at c1 HB ⊢
    rw [← hm] at c1 HB ⊢
    clear h1 h1' gx gy hn hm c2
    go_enter Tryz.func45, Tryz.ntmps45
    go_wp2_with fail
    refine c1.mono ?_
    rintro e w' ⟨rfl, hw⟩; subst w'
    go_wp2_with fail
    go_ret
    exact ⟨ret_bool HD.out.symm, HB.out⟩
end Go.Proofs.YtlkkpolnllbljaaGreatDoor
/- A struct in a block of its own, whatever its type: loads, stores and answers of the whole struct. -/
namespace Go.Proofs.YtlkkpolnllbljaaGreatDoor
open Go.ChangeShapes Go.WideShapes Go.ChangeAt Go.RowKit

def StB (w : World) (g : Nat) (t : TypeId) (cs : Array Value) : Prop := w.heap[g]? = some (.cells cs t (0, 0))
theorem StB.lt {w : World} {g : Nat} {t : TypeId} {cs : Array Value} (h : StB w g t cs) : g < w.heap.size := by
  rcases Nat.lt_or_ge g w.heap.size with hlt | hge
  · exact hlt
  · rw [StB, Array.getElem?_eq_none hge] at h; cases h
theorem StB.new (w : World) (t : TypeId) (cs : Array Value) : StB (w.alloc (.cells cs t)) w.heap.size t cs := heap_alloc_new w _
theorem StB.below {w w' : World} {g : Nat} {t : TypeId} {cs : Array Value} (h : StB w g t cs) (hb : Below w.heap.size w w') : StB w' g t cs := (hb.block g h.lt).trans h
theorem StB.kept {w w' : World} {g : Nat} {t : TypeId} {cs : Array Value} {row : Option Nat} (h : StB w g t cs) (hg : w.grownBy w' row) (hne : some g ≠ row) : StB w' g t cs := (hg.block g h.lt hne).trans h
theorem StB.alloc {w : World} {g : Nat} {t : TypeId} {cs : Array Value} (h : StB w g t cs) (o : Obj) : StB (w.alloc o) g t cs := (Below.heap_alloc w o g h.lt).trans h
theorem StB.cell {w : World} {g : Nat} {t : TypeId} {cs : Array Value} (h : StB w g t cs) (j : Nat) {x : Value} (e : cs[j]? = some x) : w.cell? ⟨g, j, none⟩ = some x := by rw [cell_of_row w g j _ _ _ h, e]
theorem StB.frozen {w : World} {g : Nat} {t : TypeId} {cs : Array Value} (h : StB w g t cs) (j : Nat) : w.frozen? ⟨g, j, none⟩ = false := frozen_of_row w g j _ _ h
theorem StB.put {w : World} {g : Nat} {t : TypeId} {cs ds : Array Value} (h : StB w g t cs) (j : Nat) (x : Value) (e : cs.setIfInBounds j x = ds) : StB (w.setCell ⟨g, j, none⟩ x) g t ds := by
  have := heap_setCell_same w g j _ _ x h
  rw [e] at this
  exact this
theorem StB.other {w : World} {g : Nat} {t : TypeId} {cs : Array Value} (h : StB w g t cs) (a : Addr) (x : Value) (hne : g ≠ a.block) : StB (w.setCell a x) g t cs := (heap_setCell_other w a g x hne).trans h
theorem grownRowS (w : World) (g : Nat) (cs : Array Value) : w.grownBy (w.setRow g cs) (some g) :=
  ⟨rfl, rfl, rfl, by simp, fun k _ hne => _root_.Go.setRow_other w g k cs (fun e => hne (by rw [e]))⟩
/- Type t is a struct of n cells. -/
def IsS (t : TypeId) (n : Nat) : Prop := (∃ fs, Tryz.prog.underlying t = some (.struct fs)) ∧ (Tryz.prog.info? t).map (·.size) = some n
theorem wpList_getS {t : TypeId} {n : Nat} (hS : IsS t n) {ops : Array Oper} {rest : List Oper} {o : Oper} {a : Act} {w : World} {Q : Exit → Act → World → Prop} (hgd : o.guard = none) (x : Operand) (ho : o.op = .load t x)
    (g : Nat) (hx : a.eval x = .pointer (some ⟨g, 0, none⟩)) (cs : Array Value) (hn : cs.size = n) (hr : StB w g t cs)
    (h : wpList Tryz.prog ops Q rest (a.put o.dst (.agg cs)) w) : wpList Tryz.prog ops Q (o :: rest) a w := by
  obtain ⟨⟨fs, hu⟩, hi⟩ := hS
  exact wpList_load_row hgd _ x ho g hx _ _ _ _ hr hu rfl (by rw [hi, hn]) h
theorem wpList_putS {t : TypeId} {n : Nat} (hS : IsS t n) {ops : Array Oper} {rest : List Oper} {o : Oper} {a : Act} {w : World} {Q : Exit → Act → World → Prop} (hgd : o.guard = none) (x y : Operand) (ho : o.op = .store t x y)
    (g : Nat) (cs ds : Array Value) (hx : a.eval x = .pointer (some ⟨g, 0, none⟩)) (hy : a.eval y = .agg cs) (hn : cs.size = n) (hd : ds.size = n) (h1 : cs.all (·.oneCell') = true) (hr : StB w g t ds)
    (h : ∀ w', StB w' g t cs → w.grownBy w' (some g) → wpList Tryz.prog ops Q rest (a.put o.dst undef) w') : wpList Tryz.prog ops Q (o :: rest) a w :=
  wpList_store_row hgd _ x y ho g cs hx hy _ _ hr (by rw [hS.2, hn]) (by rw [hd, hn]) h1 (h _ (setRow_heap w g _ _ _ _ hr) (grownRowS w g _))
theorem load_S {t : TypeId} {n : Nat} (hS : IsS t n) (w : World) (g : Nat) (cs : Array Value) (hn : cs.size = n) (hr : StB w g t cs) : (loadVar t ⟨g, 0, none⟩).run Tryz.prog w = .ok (.agg cs) w := by
  obtain ⟨⟨fs, hu⟩, hi⟩ := hS
  exact run_loadVar_row w g _ _ _ _ _ hr hu rfl (by rw [hi, hn])
theorem results_S {t : TypeId} {n : Nat} (hS : IsS t n) {fn : Func} {p : Tmp} (h : fn.results = #[.cell p t]) (tmps : Array Value) (w : World) (g : Nat) (cs : Array Value) (hn : cs.size = n)
    (hp : tmps.getD p undef = .pointer (some ⟨g, 0, none⟩)) (hr : StB w g t cs) : (results fn tmps).run Tryz.prog w = .ok (.agg cs) w := by
  obtain ⟨⟨fs, hu⟩, hi⟩ := hS
  exact results_cell_row h tmps w g _ _ _ _ hp hr hu rfl (by rw [hi, hn])
theorem results_S2 {t : TypeId} {n : Nat} (hS : IsS t n) {fn : Func} {p q : Tmp} (h : fn.results = #[.cell p t, .tmp q]) (tmps : Array Value) (w : World) (g : Nat) (cs : Array Value) (x : Value) (hn : cs.size = n)
    (hp : tmps.getD p undef = .pointer (some ⟨g, 0, none⟩)) (hx : tmps.getD q undef = x) (hr : StB w g t cs) : (results fn tmps).run Tryz.prog w = .ok (.tuple #[.agg cs, x]) w := by
  rw [results_cell_tmp h, hp, hx]
  simp only [asAddr, Sem.run_pure, Result.andThen_ok]
  rw [load_S hS w g cs hn hr]
  rfl
theorem results_S3 {t : TypeId} {n : Nat} (hS : IsS t n) {fn : Func} {p q r : Tmp} (h : fn.results = #[.cell p t, .tmp q, .tmp r]) (tmps : Array Value) (w : World) (g : Nat) (cs : Array Value) (x y : Value) (hn : cs.size = n)
    (hp : tmps.getD p undef = .pointer (some ⟨g, 0, none⟩)) (hx : tmps.getD q undef = x) (hy : tmps.getD r undef = y) (hr : StB w g t cs) : (results fn tmps).run Tryz.prog w = .ok (.tuple #[.agg cs, x, y]) w := by
  have hl := load_S hS w g cs hn hr
  have hp' : tmps[p]?.getD undef = .pointer (some ⟨g, 0, none⟩) := by simpa using hp
  have hx' : tmps[q]?.getD undef = x := by simpa using hx
  have hy' : tmps[r]?.getD undef = y := by simpa using hy
  simp [results, h, hp', hx', hy', asAddr, hl]
theorem reads_cells {w : World} {ao : Option Addr} {n cap : Nat} {xs : List Int} (h : Reads w (.slice ao n cap) xs) : n = xs.length ∧ n ≤ cap ∧ cap ≤ maxLen ∧ ∀ j, j < n → ∃ b off, ao = some ⟨b, off, none⟩ ∧ w.cell? ⟨b, off + j, none⟩ = some (.int .i64 (xs.getD j 0)) := by
  obtain ⟨ao', cap', e, hl, ⟨hm, -⟩, hc⟩ := h
  simp only [Value.slice.injEq] at e
  obtain ⟨rfl, rfl, rfl⟩ := e
  refine ⟨rfl, hl, hm, fun j hj => ?_⟩
  rcases hc with rfl | ⟨b, off, rfl, h4⟩
  · simp at hj
  · exact ⟨b, off, rfl, h4 j hj⟩
theorem reads_form {w : World} {v : Value} {xs : List Int} (h : Reads w v xs) : ∃ ao cap, v = .slice ao xs.length cap := by
  obtain ⟨ao, cap, e, _⟩ := h
  exact ⟨ao, cap, e⟩
theorem reads_one {w : World} {v : Value} {xs : List Int} (h : Reads w v xs) : v.oneCell' = true := by
  obtain ⟨ao, cap, rfl, _⟩ := h; rfl
end Go.Proofs.YtlkkpolnllbljaaGreatDoor
/- Whether a number lies between two others, by the model: l1In, l6Key, l6Word. -/
namespace Go.Proofs.YtlkkpolnllbljaaGreatDoor
open Go.ChangeShapes Go.WideShapes Go.ChangeAt Go.RowKit

set_option maxRecDepth 20000 in
set_option maxHeartbeats 400000 in
theorem sin6_any (x lo hi : Int) (w : World) :
    Calls Tryz.prog 44 #[.int .i64 x, .int .i64 lo, .int .i64 hi] w fun e w' => e = .returned (.bool (inI x lo hi)) ∧ w' = w := by
  by_cases h0 : lo ≤ x
  · by_cases h1 : x ≤ hi
    · have he : inI x lo hi = true := by simp [inI, h0, h1]
      rw [he]
      clear he
      go_enter Tryz.func44, Tryz.ntmps44
      go_wp2
      go_ret
      exact ⟨ret_bool (by simp), rfl⟩
    · have he : inI x lo hi = false := by simp [inI, h1]
      rw [he]
      clear he
      go_enter Tryz.func44, Tryz.ntmps44
      go_wp2
      go_ret
      exact ⟨ret_bool (by simp), rfl⟩
  · have he : inI x lo hi = false := by simp [inI, h0]
    rw [he]
    clear he
    go_enter Tryz.func44, Tryz.ntmps44
    go_wp2
    go_ret
    exact ⟨ret_bool (by simp), rfl⟩

set_option maxRecDepth 20000 in
set_option maxHeartbeats 400000 in
theorem s6key_any (x : Int) (w : World) :
    Calls Tryz.prog 85 #[.int .i64 x] w fun e w' => e = .returned (.bool (inI x 0 9999)) ∧ w' = w := by
  have c1 := sin6_any x 0 9999 w
  go_enter Tryz.func85, Tryz.ntmps85
  go_wp2_with fail
  refine c1.mono ?_
  rintro e w' ⟨rfl, hw⟩; subst w'
  clear c1
  go_wp2_with fail
  go_ret
  exact ⟨rfl, rfl⟩

set_option maxRecDepth 20000 in
set_option maxHeartbeats 400000 in
theorem s6word_any (x : Int) (w : World) :
    Calls Tryz.prog 133 #[.int .i64 x] w fun e w' => e = .returned (.bool (inI x 0 65535)) ∧ w' = w := by
  have c1 := sin6_any x 0 65535 w
  go_enter Tryz.func133, Tryz.ntmps133
  go_wp2_with fail
  refine c1.mono ?_
  rintro e w' ⟨rfl, hw⟩; subst w'
  clear c1
  go_wp2_with fail
  go_ret
  exact ⟨rfl, rfl⟩
end Go.Proofs.YtlkkpolnllbljaaGreatDoor
/- Kinds, and who may, by the model: KindOk, Bars, ForAll, Allowed. -/
namespace Go.Proofs.YtlkkpolnllbljaaGreatDoor
open Go.ChangeShapes Go.WideShapes Go.ChangeAt Go.RowKit

set_option maxRecDepth 20000 in
set_option maxHeartbeats 400000 in
theorem skind_any (k : Int) (w : World) :
    Calls Tryz.prog 88 #[.int .i64 k] w fun e w' => e = .returned (.bool (kiI k)) ∧ w' = w := by
  have c1 := sin6_any k 1 6 w
  unfold kiI
  go_enter Tryz.func88, Tryz.ntmps88
  go_wp2_with fail
  refine c1.mono ?_
  rintro e w' ⟨rfl, hw⟩; subst w'
  clear c1
  go_wp2_with fail
  go_ret
  exact ⟨rfl, rfl⟩

set_option maxRecDepth 20000 in
set_option maxHeartbeats 400000 in
theorem sall_any (k : Int) (w : World) :
    Calls Tryz.prog 86 #[.int .i64 k] w fun e w' => e = .returned (.bool (allI k)) ∧ w' = w := by
  by_cases h5 : k = 5
  · subst h5
    go_enter Tryz.func86, Tryz.ntmps86
    go_wp2
    go_ret
    exact ⟨rfl, rfl⟩
  · by_cases h6 : k = 6
    · subst h6
      go_enter Tryz.func86, Tryz.ntmps86
      go_wp2
      go_ret
      exact ⟨rfl, rfl⟩
    · have he : allI k = false := by simp [allI, h5, h6]
      rw [he]
      clear he
      go_enter Tryz.func86, Tryz.ntmps86
      go_wp2
      go_ret
      exact ⟨ret_bool (by simp [h5, h6]), rfl⟩

set_option maxRecDepth 20000 in
set_option maxHeartbeats 400000 in
theorem sbars_any (k : Int) (b : Bool) (w : World) :
    Calls Tryz.prog 180 #[.int .i64 k, .bool b] w fun e w' => e = .returned (.bool (barsI k b)) ∧ w' = w := by
  have c1 := skind_any k w
  have HE : Hid (barsI k b = (kiI k && (b || decide (k % 2 = 0)))) := rfl
  obtain ⟨x, hx⟩ : ∃ x, x = barsI k b := ⟨_, rfl⟩
  rw [← hx] at HE ⊢
  obtain ⟨y, hy⟩ : ∃ y, y = kiI k := ⟨_, rfl⟩
  rw [← hy] at HE c1
  have hk : y = true → 1 ≤ k ∧ k ≤ 6 := fun h => (inI_iff k 1 6).1 (by rw [← h, hy]; rfl)
  clear hx hy
  cases y with
  | false =>
    clear hk
    go_enter Tryz.func180, Tryz.ntmps180
    go_wp2_with fail
    refine c1.mono ?_
    rintro e w' ⟨rfl, hw⟩; subst w'
    clear c1
    go_wp2
    go_ret
    exact ⟨ret_bool (by rw [HE.out]; rfl), rfl⟩
  | true =>
    have hk2 := hk rfl
    have hm : k.tmod 2 = k % 2 := Int.tmod_eq_emod_of_nonneg (by omega)
    clear hk
    cases b with
    | true =>
      go_enter Tryz.func180, Tryz.ntmps180
      go_wp2_with fail
      refine c1.mono ?_
      rintro e w' ⟨rfl, hw⟩; subst w'
      clear c1
      go_wp2
      go_ret
      exact ⟨ret_bool (by rw [HE.out]; rfl), rfl⟩
    | false =>
      have HX : Hid (x = decide (k % 2 = 0)) := by rw [Hid, HE.out]; rfl
      clear HE
      by_cases h2 : k % 2 = 0
      · go_enter Tryz.func180, Tryz.ntmps180
        go_wp2_with fail
        refine c1.mono ?_
        rintro e w' ⟨rfl, hw⟩; subst w'
        clear c1
        go_wp2
        go_ret
        exact ⟨ret_bool (by rw [HX.out]; simp [h2]), rfl⟩
      · go_enter Tryz.func180, Tryz.ntmps180
        go_wp2_with fail
        refine c1.mono ?_
        rintro e w' ⟨rfl, hw⟩; subst w'
        clear c1
        go_wp2
        go_ret
        exact ⟨ret_bool (by rw [HX.out]; simp [h2]), rfl⟩

set_option maxRecDepth 20000 in
set_option maxHeartbeats 1000000 in
theorem smay_any (k : Int) (b h r : Bool) (w : World) :
    Calls Tryz.prog 141 #[.int .i64 k, .bool b, .bool h, .bool r] w fun e w' => e = .returned (.bool (mayI k b h r)) ∧ w' = w := by
  have c1 := skind_any k w
  have c2 := sbars_any k b w
  have HE : Hid (mayI k b h r = if k = 0 then true else if kiI k = false then false else if h then true else if decide (3 ≤ k) && r then true else !barsI k b) := rfl
  obtain ⟨x, hx⟩ : ∃ x, x = mayI k b h r := ⟨_, rfl⟩
  rw [← hx] at HE ⊢
  obtain ⟨y, hy⟩ : ∃ y, y = kiI k := ⟨_, rfl⟩
  obtain ⟨z, hz⟩ : ∃ z, z = barsI k b := ⟨_, rfl⟩
  rw [← hy, ← hz] at HE
  rw [← hy] at c1
  rw [← hz] at c2
  clear hx hy hz
  by_cases h0 : k = 0
  · have HX : Hid (x = true) := by rw [Hid, HE.out, if_pos h0]
    subst h0
    clear c1 c2 HE
    go_enter Tryz.func141, Tryz.ntmps141
    go_wp2
    go_ret
    exact ⟨ret_bool (by rw [HX.out]), rfl⟩
  · cases y with
    | false =>
      have HX : Hid (x = false) := by rw [Hid, HE.out, if_neg h0, if_pos rfl]
      clear c2 HE
      go_enter Tryz.func141, Tryz.ntmps141
      go_wp2_with fail
      refine c1.mono ?_
      rintro e w' ⟨rfl, hw⟩; subst w'
      clear c1
      go_wp2
      go_ret
      exact ⟨ret_bool (by rw [HX.out]), rfl⟩
    | true =>
      cases h with
      | true =>
        have HX : Hid (x = true) := by rw [Hid, HE.out, if_neg h0, if_neg (by decide), if_pos rfl]
        clear c2 HE
        go_enter Tryz.func141, Tryz.ntmps141
        go_wp2_with fail
        refine c1.mono ?_
        rintro e w' ⟨rfl, hw⟩; subst w'
        clear c1
        go_wp2
        go_ret
        exact ⟨ret_bool (by rw [HX.out]), rfl⟩
      | false =>
        by_cases h3 : 3 ≤ k
        · cases r with
          | true =>
            have HX : Hid (x = true) := by rw [Hid, HE.out, if_neg h0, if_neg (by decide), if_neg (by decide), if_pos (by simp [h3])]
            clear c2 HE
            go_enter Tryz.func141, Tryz.ntmps141
            go_wp2_with fail
            refine c1.mono ?_
            rintro e w' ⟨rfl, hw⟩; subst w'
            clear c1
            go_wp2
            go_ret
            exact ⟨ret_bool (by rw [HX.out]), rfl⟩
          | false =>
            have HX : Hid (x = !z) := by rw [Hid, HE.out, if_neg h0, if_neg (by decide), if_neg (by decide), if_neg (by simp)]
            clear HE
            go_enter Tryz.func141, Tryz.ntmps141
            go_wp2_with fail
            refine c1.mono ?_
            rintro e w' ⟨rfl, hw⟩; subst w'
            clear c1
            go_wp2_with fail
            refine c2.mono ?_
            rintro e w' ⟨rfl, hw⟩; subst w'
            clear c2
            go_wp2
            go_ret
            exact ⟨ret_bool (by rw [HX.out]), rfl⟩
        · have HX : Hid (x = !z) := by rw [Hid, HE.out, if_neg h0, if_neg (by decide), if_neg (by decide), if_neg (by simp [h3])]
          clear HE
          go_enter Tryz.func141, Tryz.ntmps141
          go_wp2_with fail
          refine c1.mono ?_
          rintro e w' ⟨rfl, hw⟩; subst w'
          clear c1
          go_wp2_with fail
          refine c2.mono ?_
          rintro e w' ⟨rfl, hw⟩; subst w'
          clear c2
          go_wp2
          go_ret
          exact ⟨ret_bool (by rw [HX.out]), rfl⟩
end Go.Proofs.YtlkkpolnllbljaaGreatDoor
