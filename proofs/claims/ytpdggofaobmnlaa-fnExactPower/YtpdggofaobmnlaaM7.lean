/- Holdings as texts: what is told of one, how one is shown and read. -/
import Derived.Test.YtpdggofaobmnlaaM5
import Derived.Test.YtpdggofaobmnlaaM6
import Derived.Test.YtpdggofaobmnlaaMem
import Derived.Test.YtpdggofaobmnlaaRows
import Derived.Test.YtpdggofaobmnlaaM1
import Derived.WalkKit
import Derived.ProofKit
import Derived.OpenShut
namespace Go.Proofs.Ytpdggofaobmnlaa
open Go.RowKit

def Hd.keysN (h : Hd) : List Int := h.tu :: h.ks.filter (fun k => decide (k ≠ 0))
def Hd.holdN (h : Hd) : List Int := [h.tu, h.kd, if 0 ≤ h.ho then h.ks.getD h.ho.toNat 0 else 0]
def Hd.showN (h : Hd) : List Int := h.ks ++ [h.kd, h.ho, h.tu]
def Hd.keysT (h : Hd) : Bs := if h.ok then intsB h.keysN else []
def Hd.holdT (h : Hd) : Bs := if h.ok then intsB h.holdN else []
def Hd.showT (h : Hd) : Bs := if h.ok then intsB h.showN else []
def hdOf (ns : List Int) : Hd := ⟨ns.take 4, ns.getD 4 0, ns.getD 5 0, ns.getD 6 0⟩
def readH (s : Bs) : Option Hd := if ((splitB 32 s).length = 7 ∧ (splitB 32 s).all okT = true) ∧ (hdOf ((splitB 32 s).map numT)).ok = true then some (hdOf ((splitB 32 s).map numT)) else none
def readD (s : Bs) : Hd := (readH s).getD Hd.zero
def readY (s : Bs) : Bool := (readH s).isSome

theorem splitB_appN (c : UInt8) (a r : Bs) (h : ∀ b ∈ a, b ≠ c) : splitB c (a ++ c :: r) = a :: splitB c r := by
  induction a with
  | nil => simp [splitB]
  | cons b a ih =>
    rw [List.cons_append, splitB, if_neg (h b (by simp)), ih (fun x hx => h x (by simp [hx]))]
    rfl
theorem decI_no32 (x : Int) : ∀ b ∈ decI x, b ≠ 32 := by
  have hd : ∀ n, ∀ b ∈ dec n, b ≠ 32 := by
    intro n b hb e
    have := List.all_eq_true.1 (dec_digs n).1 b hb
    rw [e] at this
    exact absurd this (by decide)
  intro b hb
  unfold decI at hb
  split at hb
  · rcases List.mem_cons.1 hb with rfl | hb
    · decide
    · exact hd _ b hb
  · exact hd _ b hb
theorem splitB_ints (xs : List Int) (h : xs ≠ []) : splitB 32 (intsB xs) = xs.map decI := by
  induction xs with
  | nil => exact absurd rfl h
  | cons x l ih =>
    cases l with
    | nil => rw [intsB, splitB_word 32 _ (decI_no32 x)]; rfl
    | cons y l =>
      rw [intsB, splitB_appN 32 _ _ (decI_no32 x), ih (by simp)]
      rfl
theorem Hd.ok_nums {h : Hd} (e : h.ok = true) : ∀ x ∈ h.showN, -10000000000 < x ∧ x < 10000000000 := by
  obtain ⟨hl, ht, hk, hm⟩ := Hd.ok_all e
  intro x hx
  unfold Hd.showN at hx
  rcases List.mem_append.1 hx with hx | hx
  · have := List.all_eq_true.1 hk x hx
    have := (inI_iff _ _ _).1 this
    omega
  · have hkd : -1 ≤ h.kd ∧ h.kd ≤ 100 ∧ -1 ≤ h.ho ∧ h.ho ≤ 3 := by
      unfold Hd.mid at hm
      split at hm
      · rename_i c
        have : h.ho = -1 := by simpa using hm
        omega
      · split at hm
        · rename_i c
          have h1 : h.ho = -1 := by simp only [Bool.and_eq_true, decide_eq_true_eq] at hm; exact hm.1
          have : h.kd = 5 ∨ h.kd = 6 := by simpa [allI] using c
          omega
        · simp only [Bool.and_eq_true] at hm
          have := (inI_iff _ _ _).1 (show inI h.kd 1 6 = true from hm.1.1)
          have := (inI_iff _ _ _).1 hm.1.2
          omega
    simp only [List.mem_cons, List.mem_nil_iff, or_false] at hx
    rcases hx with rfl | rfl | rfl <;> omega
theorem hdOf_show {h : Hd} (hl : h.ks.length = 4) : hdOf h.showN = h := by
  obtain ⟨ks, kd, ho, tu⟩ := h
  dsimp only at hl
  match ks, hl with
  | [a, b, c, d], _ => rfl
theorem map_read (xs : List Int) (h : ∀ x ∈ xs, -10000000000 < x ∧ x < 10000000000) : (xs.map decI).map numT = xs ∧ (xs.map decI).all okT = true := by
  constructor
  · rw [List.map_map]
    conv => rhs; rw [← List.map_id xs]
    apply List.map_congr_left
    intro x hx
    exact (readT_decI x (h x hx).1 (h x hx).2).2
  · rw [List.all_eq_true]
    intro b hb
    obtain ⟨x, hx, rfl⟩ := List.mem_map.1 hb
    exact (readT_decI x (h x hx).1 (h x hx).2).1
/- What is shown is read. -/
theorem readH_show {h : Hd} (e : h.ok = true) : readH (intsB h.showN) = some h := by
  have hl := (Hd.ok_all e).1
  have hs : splitB 32 (intsB h.showN) = h.showN.map decI := splitB_ints _ (by simp [Hd.showN])
  obtain ⟨m1, m2⟩ := map_read _ (Hd.ok_nums e)
  unfold readH
  rw [hs, m1, hdOf_show hl]
  rw [if_pos]
  refine ⟨⟨?_, m2⟩, e⟩
  rw [List.length_map]
  simp [Hd.showN, hl]
/- What is read is shown so. -/
theorem showH_read {s : Bs} {h : Hd} (e : readH s = some h) : h.ok = true ∧ intsB h.showN = s := by
  unfold readH at e
  split at e
  · rename_i c
    obtain ⟨⟨c1, c2⟩, c3⟩ := c
    simp only [Option.some.injEq] at e
    rw [e] at c3
    refine ⟨c3, ?_⟩
    have hj := joinB_split 32 s
    obtain ⟨ws, hws⟩ : ∃ ws, ws = splitB 32 s := ⟨_, rfl⟩
    rw [← hws] at c1 c2 e hj
    have hm : h.showN = ws.map numT := by
      rw [← e]
      match ws, c1 with
      | [a, b, c, d, x, y, z], _ => rfl
    rw [hm, ← join_ints, List.map_map]
    have : ws.map (decI ∘ numT) = ws := by
      conv => rhs; rw [← List.map_id ws]
      apply List.map_congr_left
      intro b hb
      exact readT_back b (List.all_eq_true.1 c2 b hb)
    rw [this, hj]
  · cases e
theorem readD_len (s : Bs) : (readD s).ks.length ≤ 4 := by
  unfold readD
  cases h : readH s with
  | none => simp [Hd.zero]
  | some g =>
    have := (Hd.ok_all (showH_read h).1).1
    simp; omega
end Go.Proofs.Ytpdggofaobmnlaa
/- How much is left behind a list; what stays where one cell is set. -/
namespace Go.Proofs.Ytpdggofaobmnlaa
open Go.ChangeShapes Go.WideShapes Go.ChangeAt Go.RowKit

theorem grownSet (w : World) (g j : Nat) (x : Value) : w.grownBy (w.setCell ⟨g, j, none⟩ x) (some g) :=
  ⟨rfl, rfl, rfl, by simp, fun k _ hk => heap_setCell_other w ⟨g, j, none⟩ k x (fun e => hk (by simp [e]))⟩
theorem Own.keptLt {w w' : World} {base g : Nat} {v : Value} {xs : List Int} (h : Own w base v xs) (hg : w.grownBy w' (some g)) (hb : g < base) : Own w' base v xs :=
  h.kept hg (by
    by_cases e : v.ownBlock = none
    · exact .inl e
    · refine .inr fun e2 => ?_
      have := h.lt g e2
      omega)
theorem Own.setLt {w : World} {base g : Nat} {v : Value} {xs : List Int} (h : Own w base v xs) (hb : g < base) (j : Nat) (x : Value) : Own (w.setCell ⟨g, j, none⟩ x) base v xs := h.keptLt (grownSet w g j x) hb

def szI (k : Int) (n : Nat) : Int := if (n : Int) ≤ k then k - n else -1

set_option maxRecDepth 20000 in
set_option maxHeartbeats 400000 in
theorem sz_any (v : Value) (xs : List Int) (k : Int) (w : World) (h : Reads w v xs) (h0 : 0 ≤ k) (h1 : k ≤ 1048576) :
    Calls Try.prog 84 #[v, .int .i64 k] w fun e w' => e = .returned (.int .i64 (szI k xs.length)) ∧ w' = w := by
  obtain ⟨ao, cap, rfl, hl, ⟨hm, -⟩, -⟩ := h
  unfold maxLen at hm
  obtain ⟨n, hn⟩ : ∃ n, n = xs.length := ⟨_, rfl⟩
  rw [← hn] at hl ⊢
  clear hn
  by_cases hk : (n : Int) ≤ k
  · have e : szI k n = k - n := by simp [szI, hk]
    rw [e]
    clear e
    go_enter Try.func84, Try.ntmps84
    go_wp2
    go_ret
    exact ⟨rfl, rfl⟩
  · have e : szI k n = -1 := by simp [szI, hk]
    rw [e]
    clear e
    go_enter Try.func84, Try.ntmps84
    go_wp2
    go_ret
    exact ⟨rfl, rfl⟩
end Go.Proofs.Ytpdggofaobmnlaa
/- In, With, Without and Full, the program's and the model's: each answers what plain sets say, at every argument, and leaves the world as it was. -/
namespace Go.Proofs.Ytpdggofaobmnlaa
open Go.ChangeShapes Go.WideShapes Go.ChangeAt Go.RowKit
end Go.Proofs.Ytpdggofaobmnlaa
