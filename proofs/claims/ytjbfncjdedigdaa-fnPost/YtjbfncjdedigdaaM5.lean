/- Holdings as texts: what is told of one, how one is shown and read. -/
import Derived.Test.YtjbfncjdedigdaaM4
import Derived.Test.YtjbfncjdedigdaaMem
import Derived.Test.YtjbfncjdedigdaaRows
import Derived.Test.YtjbfncjdedigdaaM1
import Derived.WalkKit
import Derived.ProofKit
import Derived.OpenShut
import Derived.Test.YtjbfncjdedigdaaM2
import Derived.Laws.Tables
import Derived.Laws.ResultCell
namespace Go.Proofs.Ytjbfncjdedigdaa
open Go.RowKit

def Hd.keysN (h : Hd) : List Int := h.tu :: h.ks.filter (fun k => decide (k ≠ 0))
def Hd.holdN (h : Hd) : List Int := [h.tu, h.kd, if 0 ≤ h.ho then h.ks.getD h.ho.toNat 0 else 0]
def Hd.showN (h : Hd) : List Int := h.ks ++ [h.kd, h.ho, h.tu]
def Hd.keysT (h : Hd) : Bs := if h.ok then intsB h.keysN else []
def Hd.holdT (h : Hd) : Bs := if h.ok then intsB h.holdN else []
def Hd.showT (h : Hd) : Bs := if h.ok then intsB h.showN else []
def hdOf (ns : List Int) : Hd := ⟨ns.take 4, ns.getD 4 0, ns.getD 5 0, ns.getD 6 0⟩
def readH (s : Bs) : Option Hd := if ((splitB 32 s).length = 7 ∧ (splitB 32 s).all okT = true) ∧ (hdOf ((splitB 32 s).map numT)).ok = true then some (hdOf ((splitB 32 s).map numT)) else none
def readD (s : Bs) : Hd := (readH s).getD Hd.zero
def readY (s : Bs) : Bool := (readH s).isSome

theorem splitB_appN (c : UInt8) (a r : Bs) (h : ∀ b ∈ a, b ≠ c) : splitB c (a ++ c :: r) = a :: splitB c r := by
  induction a with
  | nil => simp [splitB]
  | cons b a ih =>
    rw [List.cons_append, splitB, if_neg (h b (by simp)), ih (fun x hx => h x (by simp [hx]))]
    rfl
theorem decI_no32 (x : Int) : ∀ b ∈ decI x, b ≠ 32 := by
  have hd : ∀ n, ∀ b ∈ dec n, b ≠ 32 := by
    intro n b hb e
    have := List.all_eq_true.1 (dec_digs n).1 b hb
    rw [e] at this
    exact absurd this (by decide)
  intro b hb
  unfold decI at hb
  split at hb
  · rcases List.mem_cons.1 hb with rfl | hb
    · decide
    · exact hd _ b hb
  · exact hd _ b hb
theorem splitB_ints (xs : List Int) (h : xs ≠ []) : splitB 32 (intsB xs) = xs.map decI := by
  induction xs with
  | nil => exact absurd rfl h
  | cons x l ih =>
    cases l with
    | nil => rw [intsB, splitB_word 32 _ (decI_no32 x)]; rfl
    | cons y l =>
      rw [intsB, splitB_appN 32 _ _ (decI_no32 x), ih (by simp)]
      rfl
theorem Hd.ok_nums {h : Hd} (e : h.ok = true) : ∀ x ∈ h.showN, -10000000000 < x ∧ x < 10000000000 := by
  obtain ⟨hl, ht, hk, hm⟩ := Hd.ok_all e
  intro x hx
  unfold Hd.showN at hx
  rcases List.mem_append.1 hx with hx | hx
  · have := List.all_eq_true.1 hk x hx
    have := (inI_iff _ _ _).1 this
    omega
  · have hkd : -1 ≤ h.kd ∧ h.kd ≤ 100 ∧ -1 ≤ h.ho ∧ h.ho ≤ 3 := by
      unfold Hd.mid at hm
      split at hm
      · rename_i c
        have : h.ho = -1 := by simpa using hm
        omega
      · split at hm
        · rename_i c
          have h1 : h.ho = -1 := by simp only [Bool.and_eq_true, decide_eq_true_eq] at hm; exact hm.1
          have : h.kd = 5 ∨ h.kd = 6 := by simpa [allI] using c
          omega
        · simp only [Bool.and_eq_true] at hm
          have := (inI_iff _ _ _).1 (show inI h.kd 1 6 = true from hm.1.1)
          have := (inI_iff _ _ _).1 hm.1.2
          omega
    simp only [List.mem_cons, List.mem_nil_iff, or_false] at hx
    rcases hx with rfl | rfl | rfl <;> omega
theorem hdOf_show {h : Hd} (hl : h.ks.length = 4) : hdOf h.showN = h := by
  obtain ⟨ks, kd, ho, tu⟩ := h
  dsimp only at hl
  match ks, hl with
  | [a, b, c, d], _ => rfl
theorem map_read (xs : List Int) (h : ∀ x ∈ xs, -10000000000 < x ∧ x < 10000000000) : (xs.map decI).map numT = xs ∧ (xs.map decI).all okT = true := by
  constructor
  · rw [List.map_map]
    conv => rhs; rw [← List.map_id xs]
    apply List.map_congr_left
    intro x hx
    exact (readT_decI x (h x hx).1 (h x hx).2).2
  · rw [List.all_eq_true]
    intro b hb
    obtain ⟨x, hx, rfl⟩ := List.mem_map.1 hb
    exact (readT_decI x (h x hx).1 (h x hx).2).1
/- What is shown is read. -/
theorem readH_show {h : Hd} (e : h.ok = true) : readH (intsB h.showN) = some h := by
  have hl := (Hd.ok_all e).1
  have hs : splitB 32 (intsB h.showN) = h.showN.map decI := splitB_ints _ (by simp [Hd.showN])
  obtain ⟨m1, m2⟩ := map_read _ (Hd.ok_nums e)
  unfold readH
  rw [hs, m1, hdOf_show hl]
  rw [if_pos]
  refine ⟨⟨?_, m2⟩, e⟩
  rw [List.length_map]
  simp [Hd.showN, hl]
/- What is read is shown so. -/
theorem showH_read {s : Bs} {h : Hd} (e : readH s = some h) : h.ok = true ∧ intsB h.showN = s := by
  unfold readH at e
  split at e
  · rename_i c
    obtain ⟨⟨c1, c2⟩, c3⟩ := c
    simp only [Option.some.injEq] at e
    rw [e] at c3
    refine ⟨c3, ?_⟩
    have hj := joinB_split 32 s
    obtain ⟨ws, hws⟩ : ∃ ws, ws = splitB 32 s := ⟨_, rfl⟩
    rw [← hws] at c1 c2 e hj
    have hm : h.showN = ws.map numT := by
      rw [← e]
      match ws, c1 with
      | [a, b, c, d, x, y, z], _ => rfl
    rw [hm, ← join_ints, List.map_map]
    have : ws.map (decI ∘ numT) = ws := by
      conv => rhs; rw [← List.map_id ws]
      apply List.map_congr_left
      intro b hb
      exact readT_back b (List.all_eq_true.1 c2 b hb)
    rw [this, hj]
  · cases e
theorem readD_len (s : Bs) : (readD s).ks.length ≤ 4 := by
  unfold readD
  cases h : readH s with
  | none => simp [Hd.zero]
  | some g =>
    have := (Hd.ok_all (showH_read h).1).1
    simp; omega
end Go.Proofs.Ytjbfncjdedigdaa
/- How much is left behind a list; what stays where one cell is set. -/
namespace Go.Proofs.Ytjbfncjdedigdaa
open Go.ChangeShapes Go.WideShapes Go.ChangeAt Go.RowKit

theorem grownSet (w : World) (g j : Nat) (x : Value) : w.grownBy (w.setCell ⟨g, j, none⟩ x) (some g) :=
  ⟨rfl, rfl, rfl, by simp, fun k _ hk => heap_setCell_other w ⟨g, j, none⟩ k x (fun e => hk (by simp [e]))⟩
theorem Own.keptLt {w w' : World} {base g : Nat} {v : Value} {xs : List Int} (h : Own w base v xs) (hg : w.grownBy w' (some g)) (hb : g < base) : Own w' base v xs :=
  h.kept hg (by
    by_cases e : v.ownBlock = none
    · exact .inl e
    · refine .inr fun e2 => ?_
      have := h.lt g e2
      omega)
theorem Own.setLt {w : World} {base g : Nat} {v : Value} {xs : List Int} (h : Own w base v xs) (hb : g < base) (j : Nat) (x : Value) : Own (w.setCell ⟨g, j, none⟩ x) base v xs := h.keptLt (grownSet w g j x) hb

def szI (k : Int) (n : Nat) : Int := if (n : Int) ≤ k then k - n else -1

set_option maxRecDepth 20000 in
set_option maxHeartbeats 400000 in
theorem sz_any (v : Value) (xs : List Int) (k : Int) (w : World) (h : Reads w v xs) (h0 : 0 ≤ k) (h1 : k ≤ 1048576) :
    Calls Try.prog 81 #[v, .int .i64 k] w fun e w' => e = .returned (.int .i64 (szI k xs.length)) ∧ w' = w := by
  obtain ⟨ao, cap, rfl, hl, ⟨hm, -⟩, -⟩ := h
  unfold maxLen at hm
  obtain ⟨n, hn⟩ : ∃ n, n = xs.length := ⟨_, rfl⟩
  rw [← hn] at hl ⊢
  clear hn
  by_cases hk : (n : Int) ≤ k
  · have e : szI k n = k - n := by simp [szI, hk]
    rw [e]
    clear e
    go_enter Try.func81, Try.ntmps81
    go_wp2
    go_ret
    exact ⟨rfl, rfl⟩
  · have e : szI k n = -1 := by simp [szI, hk]
    rw [e]
    clear e
    go_enter Try.func81, Try.ntmps81
    go_wp2
    go_ret
    exact ⟨rfl, rfl⟩
end Go.Proofs.Ytjbfncjdedigdaa
/- In, With, Without and Full, the program's and the model's: each answers what plain sets say, at every argument, and leaves the world as it was. -/
namespace Go.Proofs.Ytjbfncjdedigdaa
open Go.ChangeShapes Go.WideShapes Go.ChangeAt Go.RowKit
end Go.Proofs.Ytjbfncjdedigdaa
/- The model's Put, Differ and Chosen answer what plain lists say, in new memory, and write nothing that was there. -/
namespace Go.Proofs.Ytjbfncjdedigdaa
open Go.ChangeShapes Go.WideShapes Go.ChangeAt Go.RowKit

theorem valOk_eq (x : Int) : (decide (0 ≤ x) && decide (x ≤ 9999)) = valOk x := rfl
theorem valOk_yes {x : Int} (h0 : 0 ≤ x) (h1 : x ≤ 9999) : valOk x = true := by simp [valOk, h0, h1]
theorem valOk_no {x : Int} (h : x < 0 ∨ 9999 < x) : valOk x = false := by simp [valOk]; omega

set_option maxRecDepth 20000 in
set_option maxHeartbeats 400000 in
theorem sval_any (x : Int) (w : World) :
    Calls Try.prog 58 #[.int .i64 x] w fun e w' => e = .returned (.bool (valOk x)) ∧ w' = w := by
  by_cases h0 : 0 ≤ x
  · by_cases h1 : x ≤ 9999
    · rw [valOk_yes h0 h1]
      go_enter Try.func58, Try.ntmps58
      go_wp2
      go_ret
      exact ⟨ret_bool (by simp), rfl⟩
    · rw [valOk_no (by omega)]
      go_enter Try.func58, Try.ntmps58
      go_wp2
      go_ret
      exact ⟨ret_bool (by simp), rfl⟩
  · rw [valOk_no (by omega)]
    go_enter Try.func58, Try.ntmps58
    go_wp2
    go_ret
    exact ⟨ret_bool (by simp), rfl⟩

theorem Reads.cellOf {w : World} {ao : Option Addr} {n cap : Nat} {xs : List Int} (h : Reads w (.slice ao n cap) xs) : n = xs.length ∧ n ≤ cap ∧ cap ≤ maxLen ∧ ∀ j, j < n → ∃ b off, ao = some ⟨b, off, none⟩ ∧ b < w.heap.size ∧ w.cell? ⟨b, off + j, none⟩ = some (.int .i64 (xs.getD j 0)) := by
  obtain ⟨ao', cap', e, hl, ⟨hm, -⟩, hc⟩ := h
  simp only [Value.slice.injEq] at e
  obtain ⟨rfl, rfl, rfl⟩ := e
  refine ⟨rfl, hl, hm, fun j hj => ?_⟩
  rcases hc with e | ⟨b, off, e, h4⟩
  · rw [e] at hj; simp at hj
  · exact ⟨b, off, e, World.block_lt_of_cell? w _ (h4 j hj), h4 j hj⟩
theorem Reads.form {w : World} {v : Value} {xs : List Int} (h : Reads w v xs) : ∃ ao cap, v = .slice ao xs.length cap := by
  obtain ⟨ao, cap, e, _⟩ := h
  exact ⟨ao, cap, e⟩

theorem bothOk_yes {a b : List Int} (h : bothOk a b = true) : blocksOk a = true ∧ blocksOk b = true ∧ a.length = b.length := by
  simpa [bothOk] using h

theorem setOk_bd {s : Int} (h : setOk s = true) : 0 ≤ s ∧ s < 256 := by simpa [setOk] using h
end Go.Proofs.Ytjbfncjdedigdaa
/- Disks, structs of two lists: what the laws' szDisk, toDisk, eqDisk, markDisk and heldDisk answer. -/
namespace Go.Proofs.Ytjbfncjdedigdaa
open Go.ChangeShapes Go.WideShapes Go.ChangeAt Go.RowKit

def apart (u v : Value) : Prop := (u.ownBlock = none ∨ u.ownBlock ≠ v.ownBlock) ∧ (v.ownBlock = none ∨ v.ownBlock ≠ u.ownBlock)

/- A new disk: its two lists lie in new memory, apart. -/
def OwnD (w : World) (base : Nat) (u v : Value) (xs ys : List Int) : Prop := Own w base u xs ∧ Own w base v ys ∧ apart u v

/- A struct of two values in memory, at block g. -/
def Pair (w : World) (g : Nat) (t : TypeId) (u v : Value) : Prop := w.heap[g]? = some (.cells #[u, v] t (0, 0))
theorem Pair.lt {w : World} {g : Nat} {t : TypeId} {u v : Value} (h : Pair w g t u v) : g < w.heap.size := by
  rcases Nat.lt_or_ge g w.heap.size with hlt | hge
  · exact hlt
  · rw [Pair, Array.getElem?_eq_none hge] at h; cases h
theorem Pair.new (w : World) (t : TypeId) (u v : Value) : Pair (w.alloc (.cells #[u, v] t)) w.heap.size t u v := heap_alloc_new w _
theorem Pair.below {w w' : World} {g : Nat} {t : TypeId} {u v : Value} (h : Pair w g t u v) (hb : Below w.heap.size w w') : Pair w' g t u v := (hb.block g h.lt).trans h
theorem Pair.kept {w w' : World} {g : Nat} {t : TypeId} {u v : Value} {row : Option Nat} (h : Pair w g t u v) (hg : w.grownBy w' row) (hne : some g ≠ row) : Pair w' g t u v := (hg.block g h.lt hne).trans h
theorem Pair.alloc {w : World} {g : Nat} {t : TypeId} {u v : Value} (h : Pair w g t u v) (o : Obj) : Pair (w.alloc o) g t u v := (Below.heap_alloc w o g h.lt).trans h
theorem Pair.cell0 {w : World} {g : Nat} {t : TypeId} {u v : Value} (h : Pair w g t u v) : w.cell? ⟨g, 0, none⟩ = some u := by rw [cell_of_row w g 0 _ _ _ h]; rfl
theorem Pair.cell1 {w : World} {g : Nat} {t : TypeId} {u v : Value} (h : Pair w g t u v) : w.cell? ⟨g, 1, none⟩ = some v := by rw [cell_of_row w g 1 _ _ _ h]; rfl
theorem Pair.frozen {w : World} {g : Nat} {t : TypeId} {u v : Value} (h : Pair w g t u v) (j : Nat) : w.frozen? ⟨g, j, none⟩ = false := frozen_of_row w g j _ _ h
theorem grown_alloc (w : World) (o : Obj) (row : Option Nat) : w.grownBy (w.alloc o) row := ⟨rfl, rfl, rfl, by simp, fun k hk _ => Below.heap_alloc w o k hk⟩
theorem belowAlloc (w : World) (o : Obj) : Below w.heap.size w (w.alloc o) := (Below.refl _ _).alloc (Nat.le_refl _) _

/- The parameter's box: a world behind it, as a letter. -/
theorem boxed (w : World) (t : TypeId) (u v : Value) : ∃ w1 g, w1 = w.alloc (.cells #[u, v] t) ∧ g = w.heap.size ∧ Pair w1 g t u v ∧ Below w.heap.size w w1 := ⟨_, _, rfl, rfl, Pair.new w t u v, belowAlloc w _⟩

theorem Try.infoD : (Try.prog.info? 76).map (·.size) = some 2 := by kernel_rfl

theorem apart_of {w1 w2 : World} {b1 b2 : Nat} {v0 v1 : Value} {xs ys : List Int} (h : Own w1 b1 v0 xs) (k : Own w2 b2 v1 ys) (hb : w1.heap.size ≤ b2) : apart v0 v1 := ⟨h.apart k hb, h.apart' k hb⟩

theorem Try.underD : ∃ fs, Try.prog.underlying 76 = some (.struct fs) := ⟨_, Try.underlying76⟩
theorem Reads.one {w : World} {v : Value} {xs : List Int} (h : Reads w v xs) : v.oneCell' = true := by
  obtain ⟨ao, cap, rfl, _⟩ := h; rfl
theorem pair_one {u v : Value} (hu : u.oneCell' = true) (hv : v.oneCell' = true) : (#[u, v] : Array Value).all (·.oneCell') = true := by simp [hu, hv]
theorem Pair.set0 {w : World} {g : Nat} {t : TypeId} {u v : Value} (h : Pair w g t u v) (x : Value) : Pair (w.setCell ⟨g, 0, none⟩ x) g t x v := heap_setCell_same w g 0 _ _ x h
theorem Pair.set1 {w : World} {g : Nat} {t : TypeId} {u v : Value} (h : Pair w g t u v) (x : Value) : Pair (w.setCell ⟨g, 1, none⟩ x) g t u x := heap_setCell_same w g 1 _ _ x h
theorem Pair.other {w : World} {g : Nat} {t : TypeId} {u v : Value} (h : Pair w g t u v) (a : Addr) (x : Value) (hne : g ≠ a.block) : Pair (w.setCell a x) g t u v := (heap_setCell_other w a g x hne).trans h
theorem grownRow (w : World) (g : Nat) (cs : Array Value) : w.grownBy (w.setRow g cs) (some g) :=
  ⟨rfl, rfl, rfl, by simp, fun k _ hne => _root_.Go.setRow_other w g k cs (fun e => hne (by rw [e]))⟩

theorem wpList_getP {ops : Array Oper} {rest : List Oper} {o : Oper} {a : Act} {w : World} {Q : Exit → Act → World → Prop} (hgd : o.guard = none) (x : Operand) (ho : o.op = .load 76 x)
    (g : Nat) (hx : a.eval x = .pointer (some ⟨g, 0, none⟩)) (u v : Value) (hr : Pair w g 76 u v)
    (h : wpList Try.prog ops Q rest (a.put o.dst (.agg #[u, v])) w) : wpList Try.prog ops Q (o :: rest) a w := by
  obtain ⟨fs, hu⟩ := Try.underD
  exact wpList_load_row hgd _ x ho g hx _ _ _ _ hr hu rfl Try.infoD h
theorem wpList_putP {ops : Array Oper} {rest : List Oper} {o : Oper} {a : Act} {w : World} {Q : Exit → Act → World → Prop} (hgd : o.guard = none) (x y : Operand) (ho : o.op = .store 76 x y)
    (g : Nat) (u v u' v' : Value) (hx : a.eval x = .pointer (some ⟨g, 0, none⟩)) (hy : a.eval y = .agg #[u, v]) (hu : u.oneCell' = true) (hv : v.oneCell' = true) (hr : Pair w g 76 u' v')
    (h : ∀ w', Pair w' g 76 u v → w.grownBy w' (some g) → wpList Try.prog ops Q rest (a.put o.dst undef) w') : wpList Try.prog ops Q (o :: rest) a w :=
  wpList_store_row hgd _ x y ho g #[u, v] hx hy _ _ hr Try.infoD rfl (pair_one hu hv) (h _ (setRow_heap w g _ _ _ _ hr) (grownRow w g _))
theorem results_pair {fn : Func} {p : Tmp} (h : fn.results = #[.cell p 76]) (tmps : Array Value) (w : World) (g : Nat) (u v : Value)
    (hp : tmps.getD p undef = .pointer (some ⟨g, 0, none⟩)) (hr : Pair w g 76 u v) : (results fn tmps).run Try.prog w = .ok (.agg #[u, v]) w := by
  obtain ⟨fs, hu⟩ := Try.underD
  exact results_cell_row h tmps w g _ _ _ _ hp hr hu rfl Try.infoD
theorem results_pair2 {fn : Func} {p q : Tmp} (h : fn.results = #[.cell p 76, .tmp q]) (tmps : Array Value) (w : World) (g : Nat) (u v x : Value)
    (hp : tmps.getD p undef = .pointer (some ⟨g, 0, none⟩)) (hx : tmps.getD q undef = x) (hr : Pair w g 76 u v) : (results fn tmps).run Try.prog w = .ok (.tuple #[.agg #[u, v], x]) w := by
  obtain ⟨fs, hu⟩ := Try.underD
  rw [results_cell_tmp h, hp, hx]
  simp only [asAddr, Sem.run_pure, Result.andThen_ok]
  rw [run_loadVar_row w g _ _ _ _ _ hr hu rfl Try.infoD]
  rfl

/- What marks in one list leave of others. -/
def Marked (w w' : World) (u v : Value) : Prop := ∃ w1, w.grownBy w1 u.ownBlock ∧ w1.grownBy w' v.ownBlock
theorem Own.marked {w w' : World} {base : Nat} {u v z : Value} {zs : List Int} (h : Own w base z zs) (m : Marked w w' u v) (hu : z.ownBlock = none ∨ z.ownBlock ≠ u.ownBlock) (hv : z.ownBlock = none ∨ z.ownBlock ≠ v.ownBlock) : Own w' base z zs := by
  obtain ⟨w1, g1, g2⟩ := m
  exact (h.kept g1 hu).kept g2 hv
theorem below_marked {B : Nat} {w0 w w' : World} {u v : Value} (h : Below B w0 w) (m : Marked w w' u v) (hB : B ≤ w.heap.size) (hu : ∀ k, u.ownBlock = some k → B ≤ k) (hv : ∀ k, v.ownBlock = some k → B ≤ k) : Below B w0 w' := by
  obtain ⟨w1, g1, g2⟩ := m
  exact (h.grown g1 hB hu).grown g2 (Nat.le_trans hB g1.size) hv
end Go.Proofs.Ytjbfncjdedigdaa
