/- What one may change of a holding, as plain lists and numbers. -/
import Derived.Test.YtpdggofaobmnlaaM6
import Derived.Test.YtpdggofaobmnlaaM13
import Derived.Test.YtpdggofaobmnlaaM10
import Derived.Test.YtpdggofaobmnlaaM11
import Derived.Test.YtpdggofaobmnlaaSHold
import Derived.Test.YtpdggofaobmnlaaLHold
import Derived.Deep.DeepCutAuto
namespace Go.Proofs.Ytpdggofaobmnlaa
open Go.RowKit

def turnI (t : Int) : Int := if 1000000000 < t + 1 then 0 else t + 1
def Hd.zero : Hd := ⟨[], 0, 0, 0⟩
def Hd.free (h : Hd) : Hd := ⟨h.ks, 0, -1, h.tu⟩
def Hd.take (h : Hd) (i k : Int) : Hd := ⟨h.ks, k, if allI k then -1 else i, h.tu⟩
def Hd.turn (h : Hd) : Hd := ⟨h.ks, h.kd, h.ho, turnI h.tu⟩
def Hd.key (h : Hd) (i key : Int) : Hd := ⟨h.ks.set i.toNat key, h.kd, h.ho, h.tu⟩
def Hd.regd (h : Hd) (i key : Int) : Hd := if key = 0 ∧ (h.ho = i ∨ anyI (h.ks.set i.toNat key) = false) then ((h.key i key).turn).free else (h.key i key).turn
def Hd.register (h : Hd) (i key : Int) : Hd × Int := if h.ok && inI i 0 3 && inI key 0 9999 then (h.regd i key, 0) else (Hd.zero, 2)
def Hd.resd (h : Hd) (i k : Int) : Hd × Bool := if regI h.ks i = false then (h, false) else if h.kd = 0 then (h.take i k, true) else (h, decide (h.kd = k) && (allI k || decide (h.ho = i)))
def told (r : Hd × Bool) : Hd × Int := (r.1, if r.2 then 0 else 1)
def Hd.reserve (h : Hd) (i k : Int) : Hd × Int := if h.ok && inI i 0 3 && kiI k then told (h.resd i k) else (Hd.zero, 2)
def Hd.reld (h : Hd) (i : Int) : Hd × Bool := if regI h.ks i = false then (h, false) else if h.holds i then (h.free, true) else (h, true)
def Hd.release (h : Hd) (i : Int) : Hd × Int := if h.ok && inI i 0 3 then told (h.reld i) else (Hd.zero, 2)
def Hd.clrd (h : Hd) (i : Int) : Hd × Bool := if regI h.ks i = false then (h, false) else (⟨[0, 0, 0, 0], 0, -1, turnI h.tu⟩, true)
def Hd.clear (h : Hd) (i : Int) : Hd × Int := if h.ok && inI i 0 3 then told (h.clrd i) else (Hd.zero, 2)
/- The first j keys but this one's: those that are 'key' are struck; is any left? -/
def strike (ks : List Int) (i : Nat) (key : Int) : Nat → List Int
  | 0 => ks
  | j + 1 => if j ≠ i ∧ ks.getD j 0 = key then (strike ks i key j).set j 0 else strike ks i key j
def more (ks : List Int) (i : Nat) (key : Int) : Nat → Bool
  | 0 => false
  | j + 1 => more ks i key j || (decide (j ≠ i) && (decide (ks.getD j 0 ≠ key) && decide (ks.getD j 0 ≠ 0)))
def has (ks : List Int) (key : Int) : Nat → Bool
  | 0 => false
  | j + 1 => has ks key j || decide (ks.getD j 0 = key)
def Hd.alone (h : Hd) (key : Int) : Bool := decide (h.kd ≠ 0) && (!allI h.kd && decide (h.ks.getD h.ho.toNat 0 = key))
def Hd.pred (h : Hd) (i key k : Int) : Hd × Bool :=
  if (regI h.ks i && has h.ks key 4) = false then (h, false) else
  if (h.alone key || (allI h.kd && !more h.ks i.toNat key 4)) = true then ((Hd.turn ⟨strike h.ks i.toNat key 4, h.kd, h.ho, h.tu⟩).take i k, true)
  else (Hd.turn ⟨strike h.ks i.toNat key 4, h.kd, h.ho, h.tu⟩, true)
theorem strike_len (ks : List Int) (i : Nat) (key : Int) (j : Nat) : (strike ks i key j).length = ks.length := by
  induction j with
  | zero => rfl
  | succ j ih => unfold strike; split <;> simp [ih]
theorem strike_at (ks : List Int) (i : Nat) (key : Int) (j m : Nat) (hm : j ≤ m) : (strike ks i key j).getD m 0 = ks.getD m 0 := by
  induction j with
  | zero => rfl
  | succ j ih =>
    have := ih (by omega)
    unfold strike
    split
    · rw [← this]
      simp only [List.getD_eq_getElem?_getD]
      rw [List.getElem?_set_ne (by omega)]
    · exact this
def Hd.preempt (h : Hd) (i key k : Int) : Hd × Int := if h.ok && inI i 0 3 && inI key 1 9999 && kiI k then told (h.pred i key k) else (Hd.zero, 2)
theorem Hd.ok_all {h : Hd} (e : h.ok = true) : h.ks.length = 4 ∧ (0 ≤ h.tu ∧ h.tu ≤ 1000000000) ∧ keysI h.ks = true ∧ h.mid = true := by
  unfold Hd.ok at e
  simp only [Bool.and_eq_true, decide_eq_true_eq] at e
  exact ⟨e.1.1.1, (inI_iff _ _ _).1 e.1.1.2, e.1.2, e.2⟩
theorem turnI_in (t : Int) (h0 : 0 ≤ t) (h1 : t ≤ 1000000000) : 0 ≤ turnI t ∧ turnI t ≤ 1000000000 := by
  unfold turnI; split <;> omega
/- What is answered has four keys, or none. -/
theorem register_len (h : Hd) (i key : Int) : (h.register i key).1.ks.length ≤ 4 := by
  unfold Hd.register
  split
  · rename_i c
    simp only [Bool.and_eq_true] at c
    have := (Hd.ok_all c.1.1).1
    unfold Hd.regd
    split <;> simp [Hd.free, Hd.turn, Hd.key, this]
  · simp [Hd.zero]
theorem told_fst (r : Hd × Bool) : (told r).1 = r.1 := rfl
theorem reserve_len (h : Hd) (i k : Int) : (h.reserve i k).1.ks.length ≤ 4 := by
  unfold Hd.reserve
  split
  · rename_i c
    simp only [Bool.and_eq_true] at c
    have := (Hd.ok_all c.1.1).1
    rw [told_fst]
    unfold Hd.resd
    split
    · simp [this]
    · split <;> simp [Hd.take, this]
  · simp [Hd.zero]
theorem release_len (h : Hd) (i : Int) : (h.release i).1.ks.length ≤ 4 := by
  unfold Hd.release
  split
  · rename_i c
    simp only [Bool.and_eq_true] at c
    have := (Hd.ok_all c.1).1
    rw [told_fst]
    unfold Hd.reld
    split
    · simp [this]
    · split <;> simp [Hd.free, this]
  · simp [Hd.zero]
theorem clear_len (h : Hd) (i : Int) : (h.clear i).1.ks.length ≤ 4 := by
  unfold Hd.clear
  split
  · rename_i c
    simp only [Bool.and_eq_true] at c
    have := (Hd.ok_all c.1).1
    rw [told_fst]
    unfold Hd.clrd
    split <;> simp [this]
  · simp [Hd.zero]
theorem preempt_len (h : Hd) (i key k : Int) : (h.preempt i key k).1.ks.length ≤ 4 := by
  unfold Hd.preempt
  split
  · rename_i c
    simp only [Bool.and_eq_true] at c
    have := (Hd.ok_all c.1.1.1).1
    rw [told_fst]
    unfold Hd.pred
    split
    · simp [this]
    · split <;> simp [Hd.take, Hd.turn, strike_len, this]
  · simp [Hd.zero]
end Go.Proofs.Ytpdggofaobmnlaa
/- Holdings as texts: what is told of one, how one is shown and read. -/
namespace Go.Proofs.Ytpdggofaobmnlaa
open Go.RowKit

def Hd.keysN (h : Hd) : List Int := h.tu :: h.ks.filter (fun k => decide (k ≠ 0))
def Hd.holdN (h : Hd) : List Int := [h.tu, h.kd, if 0 ≤ h.ho then h.ks.getD h.ho.toNat 0 else 0]
def Hd.showN (h : Hd) : List Int := h.ks ++ [h.kd, h.ho, h.tu]
def Hd.keysT (h : Hd) : Bs := if h.ok then intsB h.keysN else []
def Hd.holdT (h : Hd) : Bs := if h.ok then intsB h.holdN else []
def Hd.showT (h : Hd) : Bs := if h.ok then intsB h.showN else []
def hdOf (ns : List Int) : Hd := ⟨ns.take 4, ns.getD 4 0, ns.getD 5 0, ns.getD 6 0⟩
def readH (s : Bs) : Option Hd := if ((splitB 32 s).length = 7 ∧ (splitB 32 s).all okT = true) ∧ (hdOf ((splitB 32 s).map numT)).ok = true then some (hdOf ((splitB 32 s).map numT)) else none
def readD (s : Bs) : Hd := (readH s).getD Hd.zero
def readY (s : Bs) : Bool := (readH s).isSome

theorem splitB_appN (c : UInt8) (a r : Bs) (h : ∀ b ∈ a, b ≠ c) : splitB c (a ++ c :: r) = a :: splitB c r := by
  induction a with
  | nil => simp [splitB]
  | cons b a ih =>
    rw [List.cons_append, splitB, if_neg (h b (by simp)), ih (fun x hx => h x (by simp [hx]))]
    rfl
theorem decI_no32 (x : Int) : ∀ b ∈ decI x, b ≠ 32 := by
  have hd : ∀ n, ∀ b ∈ dec n, b ≠ 32 := by
    intro n b hb e
    have := List.all_eq_true.1 (dec_digs n).1 b hb
    rw [e] at this
    exact absurd this (by decide)
  intro b hb
  unfold decI at hb
  split at hb
  · rcases List.mem_cons.1 hb with rfl | hb
    · decide
    · exact hd _ b hb
  · exact hd _ b hb
theorem splitB_ints (xs : List Int) (h : xs ≠ []) : splitB 32 (intsB xs) = xs.map decI := by
  induction xs with
  | nil => exact absurd rfl h
  | cons x l ih =>
    cases l with
    | nil => rw [intsB, splitB_word 32 _ (decI_no32 x)]; rfl
    | cons y l =>
      rw [intsB, splitB_appN 32 _ _ (decI_no32 x), ih (by simp)]
      rfl
theorem Hd.ok_nums {h : Hd} (e : h.ok = true) : ∀ x ∈ h.showN, -10000000000 < x ∧ x < 10000000000 := by
  obtain ⟨hl, ht, hk, hm⟩ := Hd.ok_all e
  intro x hx
  unfold Hd.showN at hx
  rcases List.mem_append.1 hx with hx | hx
  · have := List.all_eq_true.1 hk x hx
    have := (inI_iff _ _ _).1 this
    omega
  · have hkd : -1 ≤ h.kd ∧ h.kd ≤ 100 ∧ -1 ≤ h.ho ∧ h.ho ≤ 3 := by
      unfold Hd.mid at hm
      split at hm
      · rename_i c
        have : h.ho = -1 := by simpa using hm
        omega
      · split at hm
        · rename_i c
          have h1 : h.ho = -1 := by simp only [Bool.and_eq_true, decide_eq_true_eq] at hm; exact hm.1
          have : h.kd = 5 ∨ h.kd = 6 := by simpa [allI] using c
          omega
        · simp only [Bool.and_eq_true] at hm
          have := (inI_iff _ _ _).1 (show inI h.kd 1 6 = true from hm.1.1)
          have := (inI_iff _ _ _).1 hm.1.2
          omega
    simp only [List.mem_cons, List.mem_nil_iff, or_false] at hx
    rcases hx with rfl | rfl | rfl <;> omega
theorem hdOf_show {h : Hd} (hl : h.ks.length = 4) : hdOf h.showN = h := by
  obtain ⟨ks, kd, ho, tu⟩ := h
  dsimp only at hl
  match ks, hl with
  | [a, b, c, d], _ => rfl
theorem map_read (xs : List Int) (h : ∀ x ∈ xs, -10000000000 < x ∧ x < 10000000000) : (xs.map decI).map numT = xs ∧ (xs.map decI).all okT = true := by
  constructor
  · rw [List.map_map]
    conv => rhs; rw [← List.map_id xs]
    apply List.map_congr_left
    intro x hx
    exact (readT_decI x (h x hx).1 (h x hx).2).2
  · rw [List.all_eq_true]
    intro b hb
    obtain ⟨x, hx, rfl⟩ := List.mem_map.1 hb
    exact (readT_decI x (h x hx).1 (h x hx).2).1
/- What is shown is read. -/
theorem readH_show {h : Hd} (e : h.ok = true) : readH (intsB h.showN) = some h := by
  have hl := (Hd.ok_all e).1
  have hs : splitB 32 (intsB h.showN) = h.showN.map decI := splitB_ints _ (by simp [Hd.showN])
  obtain ⟨m1, m2⟩ := map_read _ (Hd.ok_nums e)
  unfold readH
  rw [hs, m1, hdOf_show hl]
  rw [if_pos]
  refine ⟨⟨?_, m2⟩, e⟩
  rw [List.length_map]
  simp [Hd.showN, hl]
/- What is read is shown so. -/
theorem showH_read {s : Bs} {h : Hd} (e : readH s = some h) : h.ok = true ∧ intsB h.showN = s := by
  unfold readH at e
  split at e
  · rename_i c
    obtain ⟨⟨c1, c2⟩, c3⟩ := c
    simp only [Option.some.injEq] at e
    rw [e] at c3
    refine ⟨c3, ?_⟩
    have hj := joinB_split 32 s
    obtain ⟨ws, hws⟩ : ∃ ws, ws = splitB 32 s := ⟨_, rfl⟩
    rw [← hws] at c1 c2 e hj
    have hm : h.showN = ws.map numT := by
      rw [← e]
      match ws, c1 with
      | [a, b, c, d, x, y, z], _ => rfl
    rw [hm, ← join_ints, List.map_map]
    have : ws.map (decI ∘ numT) = ws := by
      conv => rhs; rw [← List.map_id ws]
      apply List.map_congr_left
      intro b hb
      exact readT_back b (List.all_eq_true.1 c2 b hb)
    rw [this, hj]
  · cases e
theorem readD_len (s : Bs) : (readD s).ks.length ≤ 4 := by
  unfold readD
  cases h : readH s with
  | none => simp [Hd.zero]
  | some g =>
    have := (Hd.ok_all (showH_read h).1).1
    simp; omega
end Go.Proofs.Ytpdggofaobmnlaa
/- A store in plain lists and numbers: a disk and a holding; what is done to it. -/
namespace Go.Proofs.Ytpdggofaobmnlaa
open Go.ChangeShapes Go.WideShapes Go.ChangeAt Go.RowKit

/- The six cells of a store: the disk's two lists, the keys, kind, holder and turn. -/
def srA (a b k : Value) (h : Hd) : Array Value := #[a, b, k, .int .i64 h.kd, .int .i64 h.ho, .int .i64 h.tu]
def SRV (a b k : Value) (h : Hd) : Value := .agg (srA a b k h)

/- A store. -/
structure Sr where
  xs : List Int
  ys : List Int
  h : Hd
def Sr.zero : Sr := ⟨[], [], Hd.zero⟩
def Sr.ok (s : Sr) : Bool := bothOk s.xs s.ys && s.h.ok
def newS (n : Int) : Sr := if decide (1 ≤ n) && decide (n ≤ 8) then ⟨zerosI n, zerosI n, Hd.new⟩ else Sr.zero
def conf (r : Hd × Bool) : Hd × An := (r.1, if r.2 then ⟨0, []⟩ else ⟨3, []⟩)
def Hd.act (h : Hd) (who : Int) (c : Cm) : Hd × An :=
  if c.o = 6 then (h.regd who c.a, ⟨0, []⟩)
  else if c.o = 7 then conf (h.resd who c.k)
  else if c.o = 8 then conf (h.reld who)
  else if c.o = 9 then conf (h.clrd who)
  else if c.o = 10 then (if c.a = 0 then (h, ⟨1, []⟩) else conf (h.pred who c.a c.k))
  else if c.o = 11 then (h, ⟨0, h.keysT⟩)
  else (h, ⟨0, h.holdT⟩)
def Sr.doing (s : Sr) (who : Int) (c : Cm) : Sr × An :=
  if 5 < c.o then (⟨s.xs, s.ys, (s.h.act who c).1⟩, (s.h.act who c).2)
  else if s.h.may who (decide (c.o ≠ 1)) then (⟨(didI s.xs s.ys c).1, (didI s.xs s.ys c).2.1, s.h⟩, (didI s.xs s.ys c).2.2)
  else (s, ⟨3, []⟩)
def Sr.did (s : Sr) (who : Int) (c : Cm) : Sr × An :=
  if s.ok then (if inI who 0 3 && c.ok then s.doing who c else (s, ⟨7, []⟩)) else (Sr.zero, ⟨7, []⟩)
def Sr.power (s : Sr) (set : Int) : Sr :=
  if s.ok then (if setOk set then ⟨chosenUp s.xs s.ys set 8 s.xs.length, chosenUp s.xs s.ys set 8 s.xs.length, s.h⟩ else s) else Sr.zero
def Hd.eqB (a b : Hd) : Bool := decide (a.ks = b.ks) && decide (a.kd = b.kd) && decide (a.ho = b.ho) && decide (a.tu = b.tu)
def Sr.alike (s t : Sr) : Bool := s.ok && t.ok && (decide (s.xs = t.xs) && decide (s.ys = t.ys) && s.h.eqB t.h)
end Go.Proofs.Ytpdggofaobmnlaa
/- How the laws take a store over, measure it, compare two, mark one and look at the marks. -/
namespace Go.Proofs.Ytpdggofaobmnlaa
open Go.ChangeShapes Go.WideShapes Go.ChangeAt Go.RowKit

theorem Try.isR : IsS 30 6 := ⟨⟨_, Try.underlying30⟩, by kernel_rfl⟩
/- A store's three lists, each in a block of its own. -/
def OwnR (w : World) (base : Nat) (a b k : Value) (xs ys ks : List Int) : Prop := OwnD w base a b xs ys ∧ Own w base k ks ∧ apart a k ∧ apart b k
def zeR : Array Value := #[.slice none 0 0, .slice none 0 0, .slice none 0 0, .int .i64 0, .int .i64 0, .int .i64 0]
theorem srA_one {a b k : Value} (h : Hd) (ha : a.oneCell' = true) (hb : b.oneCell' = true) (hk : k.oneCell' = true) : (srA a b k h).all (·.oneCell') = true := by
  unfold srA
  simp [ha, hb, hk, show ∀ k n, (Value.int k n).oneCell' = true from fun _ _ => rfl]
theorem OwnR.below {w w' : World} {base : Nat} {a b k : Value} {xs ys ks : List Int} (h : OwnR w base a b k xs ys ks) (e : Below w.heap.size w w') : OwnR w' base a b k xs ys ks :=
  ⟨⟨h.1.1.below e, h.1.2.1.below e, h.1.2.2⟩, h.2.1.below e, h.2.2⟩
theorem OwnR.mono {w : World} {base base' : Nat} {a b k : Value} {xs ys ks : List Int} (h : OwnR w base a b k xs ys ks) (e : base' ≤ base) : OwnR w base' a b k xs ys ks :=
  ⟨⟨h.1.1.mono e, h.1.2.1.mono e, h.1.2.2⟩, h.2.1.mono e, h.2.2⟩
theorem OwnR.keptLt {w w' : World} {base g : Nat} {a b k : Value} {xs ys ks : List Int} (h : OwnR w base a b k xs ys ks) (e : w.grownBy w' (some g)) (hg : g < base) : OwnR w' base a b k xs ys ks :=
  ⟨⟨h.1.1.keptLt e hg, h.1.2.1.keptLt e hg, h.1.2.2⟩, h.2.1.keptLt e hg, h.2.2⟩
theorem OwnR.nil (w : World) (base : Nat) : OwnR w base (.slice none 0 0) (.slice none 0 0) (.slice none 0 0) [] [] [] :=
  ⟨⟨Own.nil w base, Own.nil w base, ⟨.inl rfl, .inl rfl⟩⟩, Own.nil w base, ⟨.inl rfl, .inl rfl⟩, ⟨.inl rfl, .inl rfl⟩⟩

set_option maxRecDepth 20000 in
set_option maxHeartbeats 1000000 in
theorem szStore_any (u v q : Value) (xs ys : List Int) (h : Hd) (k : Int) (w : World) (hu : Reads w u xs) (hv : Reads w v ys) (hq : Reads w q h.ks) (h0 : 0 ≤ k) (h1 : k ≤ 1048576) :
    Calls Try.prog 22 #[SRV u v q h, .int .i64 k] w fun e w' => e = .returned (.int .i64 (szI k (xs.length + ys.length + h.ks.length))) ∧ Below w.heap.size w w' := by
  have B1 : Hid (Below w.heap.size w (w.alloc (.cells (srA u v q h) 45))) := (Below.refl _ _).alloc (Nat.le_refl _) _
  have P1 : Hid (StB (w.alloc (.cells (srA u v q h) 45)) w.heap.size 45 (srA u v q h)) := StB.new _ _ _
  have c1 := szDisk_any u v xs ys k _ (hu.below B1.out (Nat.le_refl _)) (hv.below B1.out (Nat.le_refl _)) h0 h1
  by_cases hx : ((xs.length + ys.length : Nat) : Int) ≤ k
  · have e1 : szI k (xs.length + ys.length) = k - (xs.length + ys.length : Nat) := by simp only [szI]; rw [if_pos hx]
    have c2 := fun wx (b : Below w.heap.size w wx) => szHolding_any q h (k - (xs.length + ys.length : Nat)) wx (hq.below b (Nat.le_refl _)) (by omega) (by omega)
    have e2 : szI (k - (xs.length + ys.length : Nat)) h.ks.length = szI k (xs.length + ys.length + h.ks.length) := by
      simp only [szI]
      by_cases hk : (h.ks.length : Int) ≤ k - (xs.length + ys.length : Nat)
      · rw [if_pos hk, if_pos (by omega)]; omega
      · rw [if_neg hk, if_neg (by omega)]
    rw [e1] at c1
    rw [e2] at c2
    have hs : szI k (xs.length + ys.length + h.ks.length) = -1 ∨ 0 ≤ szI k (xs.length + ys.length + h.ks.length) := by unfold szI; split <;> omega
    obtain ⟨x, hx'⟩ : ∃ x, x = szI k (xs.length + ys.length + h.ks.length) := ⟨_, rfl⟩
    rw [← hx'] at c2 hs ⊢
    obtain ⟨m, hm⟩ : ∃ m : Int, m = k - (xs.length + ys.length : Nat) := ⟨_, rfl⟩
    rw [← hm] at c1 c2
    have m0 : 0 ≤ m := by omega
    obtain ⟨uo, uc, rfl⟩ := reads_form hu
    obtain ⟨vo, vc, rfl⟩ := reads_form hv
    obtain ⟨qo, qc, rfl⟩ := reads_form hq
    have C2 : Hid _ := c2
    clear c2 hx' hm hu hv hq e1 e2 hx
    unfold SRV srA at *
    unfold HV hdA at C2
    rcases hs with hs | hs
    · subst hs
      go_enter Try.func22, Try.ntmps22
      go_wp2_with fail
      refine c1.mono ?_
      rintro e w2 ⟨rfl, b2⟩
      have B2 : Hid (Below w.heap.size w w2) := B1.out.trans (b2.mono B1.out.size)
      have P2 := P1.out.below b2
      have k2 := P2.cell 2 rfl
      have k3 := P2.cell 3 rfl
      have k4 := P2.cell 4 rfl
      have k5 := P2.cell 5 rfl
      clear b2 c1 B1 P1 P2
      go_wp2_with fail
      refine (C2.out _ B2.out).mono ?_
      rintro e w3 ⟨rfl, b3⟩
      have B3 : Hid (Below w.heap.size w w3) := B2.out.trans (b3.mono B2.out.size)
      clear b3 k2 k3 k4 k5
      go_wp2
      go_ret
      exact ⟨rfl, B3.out⟩
    · go_enter Try.func22, Try.ntmps22
      go_wp2_with fail
      refine c1.mono ?_
      rintro e w2 ⟨rfl, b2⟩
      have B2 : Hid (Below w.heap.size w w2) := B1.out.trans (b2.mono B1.out.size)
      have P2 := P1.out.below b2
      have k2 := P2.cell 2 rfl
      have k3 := P2.cell 3 rfl
      have k4 := P2.cell 4 rfl
      have k5 := P2.cell 5 rfl
      clear b2 c1 B1 P1 P2
      go_wp2_with fail
      refine (C2.out _ B2.out).mono ?_
      rintro e w3 ⟨rfl, b3⟩
      have B3 : Hid (Below w.heap.size w w3) := B2.out.trans (b3.mono B2.out.size)
      clear b3 k2 k3 k4 k5
      go_wp2
      go_ret
      exact ⟨rfl, B3.out⟩
  · have e1 : szI k (xs.length + ys.length) = -1 := by simp only [szI]; rw [if_neg hx]
    have e2 : szI k (xs.length + ys.length + h.ks.length) = -1 := by simp only [szI]; rw [if_neg (by omega)]
    rw [e1] at c1
    rw [e2]
    obtain ⟨uo, uc, rfl⟩ := reads_form hu
    obtain ⟨vo, vc, rfl⟩ := reads_form hv
    obtain ⟨qo, qc, rfl⟩ := reads_form hq
    clear hu hv hq e1 e2 hx
    unfold SRV srA at *
    go_enter Try.func22, Try.ntmps22
    go_wp2_with fail
    refine c1.mono ?_
    rintro e w2 ⟨rfl, b2⟩
    have B2 : Hid (Below w.heap.size w w2) := B1.out.trans (b2.mono B1.out.size)
    clear b2 c1 B1 P1
    go_wp2
    go_ret
    exact ⟨rfl, B2.out⟩
end Go.Proofs.Ytpdggofaobmnlaa
