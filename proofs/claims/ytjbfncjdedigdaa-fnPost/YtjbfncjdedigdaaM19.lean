/- Keys as an array of four, and a holding that embeds them, by the program: keyOk, personOk, turnOk, registered, anyRegistered, keyRowOf, list. -/
import Derived.Test.YtjbfncjdedigdaaM4
import Derived.Test.YtjbfncjdedigdaaM6
import Derived.Laws.StructEq
import Derived.MapKept
import Derived.Carry
import Derived.OwnWalk
import Derived.Deep.RegionHeld3
import Derived.Deep.DeepCutAuto
namespace Go.Proofs.Ytjbfncjdedigdaa
open Go.ChangeShapes Go.WideShapes Go.ChangeAt Go.RowKit

def kA (f : Nat → Int) : Array Value := #[.int .i64 (f 0), .int .i64 (f 1), .int .i64 (f 2), .int .i64 (f 3)]
def KF (ks : List Int) : Nat → Int := fun j => ks.getD j 0
theorem four {p : Nat → Prop} (h0 : p 0) (h1 : p 1) (h2 : p 2) (h3 : p 3) : ∀ j, j < 4 → p j
  | 0, _ => h0 | 1, _ => h1 | 2, _ => h2 | 3, _ => h3
  | _ + 4, h => by omega
theorem Try.isKeyRow : (Try.prog.info? 99).map (·.size) = some 4 := by kernel_rfl
theorem Try.underK : Try.prog.underlying 99 = some (.array 4 2) := by kernel_rfl

set_option maxRecDepth 20000 in
set_option maxHeartbeats 400000 in
theorem ikeyok_any (x : Int) (w : World) :
    Calls Try.prog 88 #[.int .i64 x] w fun e w' => e = .returned (.bool (inI x 0 9999)) ∧ w' = w := by
  by_cases h0 : 0 ≤ x
  · by_cases h1 : x ≤ 9999
    · rw [show inI x 0 9999 = true by simp [inI, h0, h1]]
      go_enter Try.func88, Try.ntmps88
      go_wp2
      go_ret
      exact ⟨ret_bool (by simp), rfl⟩
    · rw [show inI x 0 9999 = false by simp [inI]; omega]
      go_enter Try.func88, Try.ntmps88
      go_wp2
      go_ret
      exact ⟨ret_bool (by simp), rfl⟩
  · rw [show inI x 0 9999 = false by simp [inI]; omega]
    go_enter Try.func88, Try.ntmps88
    go_wp2
    go_ret
    exact ⟨ret_bool (by simp), rfl⟩

set_option maxRecDepth 20000 in
set_option maxHeartbeats 400000 in
theorem iturnok_any (x : Int) (w : World) :
    Calls Try.prog 70 #[.int .i64 x] w fun e w' => e = .returned (.bool (inI x 0 1000000000)) ∧ w' = w := by
  by_cases h0 : 0 ≤ x
  · by_cases h1 : x ≤ 1000000000
    · rw [show inI x 0 1000000000 = true by simp [inI, h0, h1]]
      go_enter Try.func70, Try.ntmps70
      go_wp2
      go_ret
      exact ⟨ret_bool (by simp), rfl⟩
    · rw [show inI x 0 1000000000 = false by simp [inI]; omega]
      go_enter Try.func70, Try.ntmps70
      go_wp2
      go_ret
      exact ⟨ret_bool (by simp), rfl⟩
  · rw [show inI x 0 1000000000 = false by simp [inI]; omega]
    go_enter Try.func70, Try.ntmps70
    go_wp2
    go_ret
    exact ⟨ret_bool (by simp), rfl⟩

set_option maxRecDepth 20000 in
set_option maxHeartbeats 400000 in
theorem iperson_any (x : Int) (w : World) :
    Calls Try.prog 94 #[.int .i64 x] w fun e w' => e = .returned (.bool (inI x 0 3)) ∧ w' = w := by
  by_cases h0 : 0 ≤ x
  · by_cases h1 : x < 4
    · rw [show inI x 0 3 = true by simp [inI, h0]; omega]
      go_enter Try.func94, Try.ntmps94
      go_wp2
      go_ret
      exact ⟨ret_bool (by simp), rfl⟩
    · rw [show inI x 0 3 = false by simp [inI]; omega]
      go_enter Try.func94, Try.ntmps94
      go_wp2
      go_ret
      exact ⟨ret_bool (by simp), rfl⟩
  · rw [show inI x 0 3 = false by simp [inI]; omega]
    go_enter Try.func94, Try.ntmps94
    go_wp2
    go_ret
    exact ⟨ret_bool (by simp), rfl⟩

set_option maxRecDepth 20000 in
set_option maxHeartbeats 1000000 in
theorem iregd_any (f : Nat → Int) (i : Int) (w : World) :
    Calls Try.prog 92 #[.agg (kA f), .int .i64 i] w fun e w' => e = .returned (.bool (inI i 0 3 && decide (f i.toNat ≠ 0))) ∧ Below w.heap.size w w' := by
  have b1 : Below w.heap.size w (w.alloc (.cells (kA f) 99)) := (Below.refl _ _).alloc (Nat.le_refl _) _
  have H1 : StB (w.alloc (.cells (kA f) 99)) w.heap.size 99 (kA f) := StB.new _ _ _
  have c1 := fun wx => iperson_any i wx
  by_cases h : 0 ≤ i ∧ i < 4
  · have hin : inI i 0 3 = true := by simp [inI]; omega
    simp only [hin] at c1 ⊢
    obtain ⟨j, hj, hj4⟩ : ∃ j : Nat, i = (j : Int) ∧ j < 4 := ⟨i.toNat, by omega, by omega⟩
    subst hj
    obtain ⟨y, hy⟩ : ∃ y, y = f j := ⟨_, rfl⟩
    have hc : (w.alloc (.cells (kA f) 99)).cell? ⟨w.heap.size, j, none⟩ = some (.int .i64 y) := by
      rw [hy]; exact H1.cell j (four (p := fun j => (kA f)[j]? = some (.int .i64 (f j))) rfl rfl rfl rfl j hj4)
    have HY : Hid (y = f j) := hy
    have hl : (j : Int) < 4 := by omega
    clear hin hy h H1
    unfold kA at *
    by_cases y0 : y = 0
    · go_enter Try.func92, Try.ntmps92
      go_wp2_with (first | (go_at_call 94; refine (c1 _).mono ?_; rintro e w' ⟨rfl, hw⟩; subst w'))
      go_ret
      exact ⟨ret_bool (by simp [← HY.out, y0]), b1⟩
    · have hyn : (y != 0) = true := by simpa using y0
      go_enter Try.func92, Try.ntmps92
      go_wp2_with (first | (go_at_call 94; refine (c1 _).mono ?_; rintro e w' ⟨rfl, hw⟩; subst w'))
      go_ret
      exact ⟨ret_bool (by simp [← HY.out, y0]), b1⟩
  · have hin : inI i 0 3 = false := by simp [inI]; omega
    simp only [hin] at c1 ⊢
    clear h hin H1
    unfold kA at *
    go_enter Try.func92, Try.ntmps92
    go_wp2_with (first | (go_at_call 94; refine (c1 _).mono ?_; rintro e w' ⟨rfl, hw⟩; subst w'))
    go_ret
    exact ⟨ret_bool (by simp), b1⟩

def anyF (f : Nat → Int) : Bool := (f 0 != 0) || (f 1 != 0) || (f 2 != 0) || (f 3 != 0)
theorem run_eqK0 (f : Nat → Int) (w : World) : (Op.equalIn 10000 99 (.agg (kA f)) (.agg (kA fun _ => 0))).run Try.prog w = .ok (!anyF f) w := by
  obtain ⟨i0, hi, hz0, hz1, hz2⟩ := info_parts Try.infoI
  have hz : Try.prog.cellsOf 2 = 1 := by kernel_rfl
  have hu : Try.prog.underlying 2 = some (.int .i64) := by kernel_rfl
  rw [show (10000 : Nat) = 9998 + 1 + 1 from rfl, run_equalIn_array (i := i0) w (9998 + 1) _ _ Try.underK hi, hz]
  simp [List.range, List.range.loop, Op.eqItems, part, Sem.run_bind, sizeOf, typeInfo, hi, hz1, hu, kA, run_equalIn_int, anyF]
  (repeat' split) <;> simp_all

set_option maxRecDepth 20000 in
set_option maxHeartbeats 1000000 in
theorem ianyreg_any (f : Nat → Int) (w : World) :
    Calls Try.prog 90 #[.agg (kA f)] w fun e w' => e = .returned (.bool (anyF f)) ∧ Below w.heap.size w w' := by
  have b1 : Below w.heap.size w (w.alloc (.cells (kA f) 99)) := (Below.refl _ _).alloc (Nat.le_refl _) _
  have he := run_eqK0 f (w.alloc (.cells (kA f) 99))
  obtain ⟨x, hx⟩ : ∃ x, x = anyF f := ⟨_, rfl⟩
  rw [← hx] at he ⊢
  clear hx
  unfold kA at *
  cases x with
  | false =>
    go_enter Try.func90, Try.ntmps90
    go_wp2
    go_ret
    exact ⟨rfl, b1⟩
  | true =>
    go_enter Try.func90, Try.ntmps90
    go_wp2
    go_ret
    exact ⟨rfl, b1⟩
end Go.Proofs.Ytjbfncjdedigdaa
/- Keys as an array of four, on: read from a list, and as a list of their own. -/
namespace Go.Proofs.Ytjbfncjdedigdaa
open Go.ChangeShapes Go.WideShapes Go.ChangeAt Go.RowKit

theorem kA_size (f : Nat → Int) : (kA f).size = 4 := rfl
theorem kA_one (f : Nat → Int) : (kA f).all (·.oneCell') = true := by simp [kA, Value.oneCell']
theorem kA_at (f : Nat → Int) : ∀ j, j < 4 → (kA f)[j]? = some (.int .i64 (f j)) := four rfl rfl rfl rfl
def updF (f : Nat → Int) (j : Nat) (x : Int) : Nat → Int := fun k => if k = j then x else f k
theorem kA_set (f : Nat → Int) (x : Int) : ∀ j, j < 4 → (kA f).setIfInBounds j (.int .i64 x) = kA (updF f j x) := four rfl rfl rfl rfl
theorem kA_congr {f g : Nat → Int} (h : ∀ j, j < 4 → f j = g j) : kA f = kA g := by
  simp [kA, h 0, h 1, h 2, h 3]
def partK (xs : List Int) (j : Nat) : Nat → Int := fun k => if k < j then xs.getD k 0 else 0
theorem partK_step (xs : List Int) (j : Nat) : updF (partK xs j) j (xs.getD j 0) = partK xs (j + 1) := by
  funext k
  unfold updF partK
  by_cases e : k = j
  · subst e; simp
  · have : k < j + 1 ↔ k < j := by omega
    simp [e, this]
theorem partK_zero (xs : List Int) : partK xs 0 = fun _ => 0 := by funext k; simp [partK]
theorem partK_full (xs : List Int) : partK xs xs.length = KF xs := by
  funext k
  unfold partK KF
  split
  · rfl
  · rw [List.getD_eq_getElem?_getD, List.getElem?_eq_none (by omega)]; rfl
def rowOk (ks : List Int) : Bool := decide (ks.length = 4) && keysI ks
def rowKF (ks : List Int) : Nat → Int := fun j => if rowOk ks then ks.getD j 0 else 0
theorem rowKF_yes {xs : List Int} (h : rowOk xs = true) : rowKF xs = KF xs := by funext k; simp [rowKF, KF, h]
theorem rowKF_no {xs : List Int} (h : rowOk xs = false) : rowKF xs = fun _ => 0 := by funext k; simp [rowKF, h]

theorem wpList_getK {ops : Array Oper} {rest : List Oper} {o : Oper} {a : Act} {w : World} {Q : Exit → Act → World → Prop} (hgd : o.guard = none) (x : Operand) (ho : o.op = .load 99 x)
    (g : Nat) (hx : a.eval x = .pointer (some ⟨g, 0, none⟩)) (f : Nat → Int) (hr : StB w g 99 (kA f))
    (h : wpList Try.prog ops Q rest (a.put o.dst (.agg (kA f))) w) : wpList Try.prog ops Q (o :: rest) a w :=
  wpList_load_row hgd _ x ho g hx _ _ _ _ hr Try.underK rfl Try.isKeyRow h
theorem wpList_putK {ops : Array Oper} {rest : List Oper} {o : Oper} {a : Act} {w : World} {Q : Exit → Act → World → Prop} (hgd : o.guard = none) (x y : Operand) (ho : o.op = .store 99 x y)
    (g : Nat) (f : Nat → Int) (hx : a.eval x = .pointer (some ⟨g, 0, none⟩)) (hy : a.eval y = .agg (kA f)) (old : Nat → Int) (hr : StB w g 99 (kA old))
    (h : ∀ w', StB w' g 99 (kA f) → w.grownBy w' (some g) → wpList Try.prog ops Q rest (a.put o.dst undef) w') : wpList Try.prog ops Q (o :: rest) a w :=
  wpList_store_row hgd _ x y ho g (kA f) hx hy _ _ hr Try.isKeyRow rfl (kA_one f) (h _ (setRow_heap w g _ _ _ _ hr) (grownRowS w g _))
theorem results_K {fn : Func} {p u : Tmp} (h : fn.results = #[.cell p 99, .tmp u]) (tmps : Array Value) (w : World) (g : Nat) (f : Nat → Int) (x : Value)
    (hp : tmps.getD p undef = .pointer (some ⟨g, 0, none⟩)) (hx : tmps.getD u undef = x) (hr : StB w g 99 (kA f)) :
    (results fn tmps).run Try.prog w = .ok (.tuple #[.agg (kA f), x]) w := by
  rw [results_cell_tmp h, hp, hx]
  simp only [asAddr, Sem.run_pure, Result.andThen_ok]
  rw [run_loadVar_row w g _ _ _ _ _ hr Try.underK rfl Try.isKeyRow]
  rfl

def KRel (xs : List Int) (w wr : World) (j : Nat) : Prop := StB wr w.heap.size 99 (kA fun _ => 0) ∧ StB wr (w.heap.size + 1) 99 (kA (partK xs j)) ∧ keysI (xs.take j) = true ∧ Below w.heap.size w wr
theorem KRel.start (xs : List Int) (w : World) : KRel xs w ((w.alloc (.cells (kA fun _ => 0) 99)).alloc (.cells (kA fun _ => 0) 99)) 0 := by
  refine ⟨(StB.new w _ _).alloc _, ?_, by simp [keysI], ((Below.refl _ _).alloc (Nat.le_refl _) _).alloc (by simp) _⟩
  have := StB.new (w.alloc (.cells (kA fun _ => 0) 99)) 99 (kA fun _ => 0)
  rw [partK_zero]
  simpa using this

set_option maxRecDepth 20000 in
set_option maxHeartbeats 1000000 in
theorem ikeyrow_any (v : Value) (xs : List Int) (w : World) (h : Reads w v xs) (hbig : xs.length ≤ 1099511627776) :
    Calls Try.prog 86 #[v] w fun e w' => e = .returned (.tuple #[.agg (kA (rowKF xs)), .bool (rowOk xs)]) ∧ Below w.heap.size w w' := by
  obtain ⟨ao, cap, rfl⟩ := reads_form h
  obtain ⟨-, la, ma, hcell⟩ := reads_cells h
  have HR0 : Hid (Reads w (.slice ao xs.length cap) xs) := h
  clear h
  obtain ⟨n, hn⟩ : ∃ n, n = xs.length := ⟨_, rfl⟩
  rw [← hn] at la hcell hbig HR0 ⊢
  have HN : Hid (n = xs.length) := hn
  clear hn
  unfold maxLen at ma
  by_cases hc : n = 4
  · subst hc
    go_enter Try.func86, Try.ntmps86
    go_wp2_with fail
    go_loopw [14] (fun i wr => ∃ j : Nat, j ≤ 4 ∧ i = .int .i64 j ∧ Hid (KRel xs w wr j)) (fun i _ => 4 - (intOf i).toNat)
    case atStart => exact ⟨0, Nat.zero_le _, rfl, KRel.start xs w⟩
    case round =>
      obtain ⟨j, hj, rfl, HR⟩ := hrel
      by_cases hlt : (j : Int) < 4
      · obtain ⟨-, -, -, hcell'⟩ := reads_cells (HR0.out.below HR.out.2.2.2 (Nat.le_refl _))
        obtain ⟨b, off, rfl, hc1⟩ := hcell' j (by omega)
        obtain ⟨x, hx⟩ : ∃ x, x = xs.getD j 0 := ⟨_, rfl⟩
        rw [← hx] at hc1
        clear hcell hcell'
        by_cases hv : inI x 0 9999 = true
        · have hfr := HR.out.2.1.frozen j
          have hcc := HR.out.2.1.cell j (kA_at _ j (by omega))
          have HS : Hid (KRel xs w (wr.setCell ⟨w.heap.size + 1, j, none⟩ (.int .i64 x)) (j + 1)) := by
            obtain ⟨r1, r2, r3, r4⟩ := HR.out
            refine ⟨r1.other _ _ (by simp), ?_, keys_take xs j (by have := HN.out; omega) r3 (by rw [← hx]; exact hv), r4.setCell (by simp) _⟩
            refine r2.put j (.int .i64 x) ?_
            rw [kA_set _ _ j (by omega), hx, partK_step]
          clear hx HR
          go_wp2_with (first | (go_at_call 88; refine (ikeyok_any _ _).mono ?_; rw [hv]; rintro e w' ⟨rfl, hw⟩; subst w'))
          go_roundw
          case rel => exact ⟨j + 1, by omega, by go_num, HS⟩
          case measure => simp [intOf]; omega
        · have hv' : inI x 0 9999 = false := by simpa using hv
          have HB : Hid (rowOk xs = false) := by
            simp [Hid, rowOk, keys_not xs j (by have := HN.out; omega) (by rw [← hx]; exact hv')]
          have hrow := HR.out.1
          clear hx hv
          go_wp2_with (first | (go_at_call 88; refine (ikeyok_any _ _).mono ?_; rw [hv']; rintro e w' ⟨rfl, hw⟩; subst w') | (refine wpList_putK rfl _ _ rfl w.heap.size (fun _ => 0) rfl rfl _ hrow ?_; intro w3 h3 g3))
          refine bodyPost_ret (results_K rfl _ _ w.heap.size (fun _ => 0) _ rfl rfl h3) rfl ?_
          rw [HB.out, rowKF_no HB.out]
          exact ⟨rfl, HR.out.2.2.2.grown g3 HR.out.2.2.2.size (fun k e => by cases e; exact Nat.le_refl _)⟩
      · have hrow := HR.out.1
        have hrow2 := HR.out.2.1
        go_wp2_with (first | (refine wpList_getK rfl _ rfl (w.heap.size + 1) rfl _ hrow2 ?_) | (refine wpList_putK rfl _ _ rfl w.heap.size (partK xs j) rfl rfl _ hrow ?_; intro w3 h3 g3))
        refine bodyPost_ret (results_K rfl _ _ w.heap.size (partK xs j) _ rfl rfl h3) rfl ?_
        have e : j = xs.length := by have := HN.out; omega
        have HB : rowOk xs = true := by
          have := HR.out.2.2.1
          rw [e, List.take_length] at this
          simp [rowOk, this, ← HN.out]
        rw [HB, rowKF_yes HB, e, partK_full]
        exact ⟨rfl, HR.out.2.2.2.grown g3 HR.out.2.2.2.size (fun k e => by cases e; exact Nat.le_refl _)⟩
  · have hn4 : ((n : Int) != 4) = true := by simp; omega
    have HB : Hid (rowOk xs = false) := by
      have := HN.out
      simp [Hid, rowOk]; intro h; omega
    have hrow := (KRel.start xs w).1
    have hz : StB (w.alloc (.cells (kA fun _ => 0) 99)) w.heap.size 99 (kA fun _ => 0) := StB.new _ _ _
    have hzB : Below w.heap.size w (w.alloc (.cells (kA fun _ => 0) 99)) := (Below.refl _ _).alloc (Nat.le_refl _) _
    clear hrow hcell
    go_enter Try.func86, Try.ntmps86
    go_wp2_with (first | (refine wpList_putK rfl _ _ rfl w.heap.size (fun _ => 0) rfl rfl _ hz ?_; intro w3 h3 g3))
    refine bodyPost_ret (results_K rfl _ _ w.heap.size (fun _ => 0) _ rfl rfl h3) rfl ?_
    rw [HB.out, rowKF_no HB.out]
    exact ⟨rfl, hzB.grown g3 hzB.size (fun k e => by cases e; exact Nat.le_refl _)⟩
end Go.Proofs.Ytjbfncjdedigdaa
/- A table keyed by two truths, in a block: what it holds, and the runs of Go's operations on it. -/
namespace Go.Proofs.Ytjbfncjdedigdaa
open Go.ChangeShapes Go.WideShapes Go.ChangeAt Go.RowKit

def keyB (x y : Bool) : Value := .agg #[.bool x, .bool y]
def entB (p : Bool × Bool × Nat) : MapEntry := ⟨keyB p.1 p.2.1, .int .i64 1, p.2.2⟩

def findB (x y : Bool) : List (Bool × Bool × Nat) → Nat → Option (Nat × Value)
  | [], _ => none
  | p :: l, i => if (x == p.1 && y == p.2.1) = true then some (i, .int .i64 1) else findB x y l (i + 1)
def delB (x y : Bool) : List (Bool × Bool × Nat) → List (Bool × Bool × Nat)
  | [] => []
  | p :: l => if (x == p.1 && y == p.2.1) = true then l else p :: delB x y l
def hasBK (l : List (Bool × Bool × Nat)) (x y : Bool) : Bool := l.any fun p => x == p.1 && y == p.2.1
def ApartB (l : List (Bool × Bool × Nat)) : Prop := l.Pairwise fun p q => (p.1 == q.1 && p.2.1 == q.2.1) = false

theorem findB_nil (x y : Bool) (l : List (Bool × Bool × Nat)) : ∀ i, hasBK l x y = false → findB x y l i = none ∧ delB x y l = l := by
  induction l with
  | nil => intro i _; exact ⟨rfl, rfl⟩
  | cons p l ih =>
    intro i h
    simp only [hasBK, List.any_cons, Bool.or_eq_false_iff] at h
    obtain ⟨h1, h2⟩ := ih (i + 1) h.2
    simp [findB, delB, h.1, h1, h2]
theorem findB_some (x y : Bool) (l : List (Bool × Bool × Nat)) : ∀ i, hasBK l x y = true → ∃ j, findB x y l i = some (i + j, .int .i64 1) ∧ l.eraseIdx j = delB x y l := by
  induction l with
  | nil => intro i h; cases h
  | cons p l ih =>
    intro i h
    by_cases hb : (x == p.1 && y == p.2.1) = true
    · exact ⟨0, by simp [findB, hb], by simp [delB, hb]⟩
    · have h' : hasBK l x y = true := by
        simp only [hasBK, List.any_cons, Bool.or_eq_true] at h
        rcases h with h | h
        · exact absurd h hb
        · exact h
      obtain ⟨j, h1, h2⟩ := ih (i + 1) h'
      refine ⟨j + 1, ?_, ?_⟩
      · unfold findB
        rw [if_neg hb, h1]
        simp [Nat.add_assoc, Nat.add_comm 1 j]
      · unfold delB
        rw [if_neg hb, ← h2]
        rfl
theorem del_sub (x y : Bool) (l : List (Bool × Bool × Nat)) : (delB x y l).Sublist l := by
  induction l with
  | nil => exact List.Sublist.refl _
  | cons p l ih =>
    unfold delB
    split
    · exact List.sublist_cons_self _ _
    · exact ih.cons_cons _
theorem has_del (x y a b : Bool) (l : List (Bool × Bool × Nat)) (h : ApartB l) : hasBK (delB x y l) a b = (hasBK l a b && !(a == x && b == y)) := by
  induction l with
  | nil => rfl
  | cons p l ih =>
    have h2 := List.pairwise_cons.1 h
    have ih := ih h2.2
    obtain ⟨p1, p2, n⟩ := p
    unfold delB
    by_cases hb : (x == p1 && y == p2) = true
    · rw [if_pos hb]
      have hno : hasBK l p1 p2 = false := by
        unfold hasBK
        rw [List.any_eq_false]
        intro q hq
        simpa using h2.1 q hq
      simp only [Bool.and_eq_true, beq_iff_eq] at hb
      obtain ⟨rfl, rfl⟩ := hb
      by_cases ha : (a == x && b == y) = true
      · simp only [Bool.and_eq_true, beq_iff_eq] at ha
        obtain ⟨rfl, rfl⟩ := ha
        rw [hno]; simp
      · have ha' : (a == x && b == y) = false := by simpa using ha
        simp only [hasBK, List.any_cons, ha', Bool.false_or, Bool.not_false, Bool.and_true]
    · rw [if_neg hb]
      simp only [hasBK, List.any_cons] at ih ⊢
      rw [ih]
      have hb' : (x == p1 && y == p2) = false := by simpa using hb
      revert hb'
      cases a <;> cases b <;> cases x <;> cases y <;> cases p1 <;> cases p2 <;> simp

/- Block b of w holds a table of the pairs at which t is true, each with 1. -/
def MB (w : World) (b : Nat) (t : Bool → Bool → Bool) : Prop :=
  ∃ l clock, w.heap[b]? = some (.map (l.map entB).toArray clock) ∧ ApartB l ∧ ∀ x y, hasBK l x y = t x y
theorem MB.of (w w' : World) (b : Nat) (t : Bool → Bool → Bool) (h : MB w b t) (e : w'.heap[b]? = w.heap[b]?) : MB w' b t := by
  obtain ⟨l, c, hb, ha, ht⟩ := h
  exact ⟨l, c, e.trans hb, ha, ht⟩
theorem MB.eq {w : World} {b : Nat} {t s : Bool → Bool → Bool} (h : MB w b t) (e : ∀ x y, t x y = s x y) : MB w b s := by
  obtain ⟨l, c, hb, ha, ht⟩ := h
  exact ⟨l, c, hb, ha, fun x y => (ht x y).trans (e x y)⟩
theorem MB.lt {w : World} {b : Nat} {t : Bool → Bool → Bool} (h : MB w b t) : b < w.heap.size := by
  obtain ⟨l, c, hb, _, _⟩ := h
  exact (Array.getElem?_eq_some_iff.1 hb).1

def putT (t : Bool → Bool → Bool) (x y : Bool) : Bool → Bool → Bool := fun a b => t a b || (a == x && b == y)
def delT (t : Bool → Bool → Bool) (x y : Bool) : Bool → Bool → Bool := fun a b => t a b && !(a == x && b == y)
end Go.Proofs.Ytjbfncjdedigdaa
/- Kinds by the program: shapes, the table of a kind, KindOk, ForAll. -/
namespace Go.Proofs.Ytjbfncjdedigdaa
open Go.ChangeShapes Go.WideShapes Go.ChangeAt Go.RowKit

def heldI (k : Int) : Int := if k = 1 then 1 else if k = 2 then 1 else if k = 3 then 2 else if k = 4 then 2 else if k = 5 then 3 else if k = 6 then 3 else 0
def whatI (k : Int) : Int := if k = 1 then 1 else if k = 2 then 2 else if k = 3 then 1 else if k = 4 then 2 else if k = 5 then 1 else if k = 6 then 2 else 0

theorem Try.isShape : IsS 108 2 := ⟨⟨_, Try.underlying108⟩, by kernel_rfl⟩

set_option maxRecDepth 20000 in
set_option maxHeartbeats 400000 in
theorem ishape_any (k : Int) (w : World) :
    Calls Try.prog 93 #[.int .i64 k] w fun e w' => e = .returned (.agg #[.int .i64 (heldI k), .int .i64 (whatI k)]) ∧ Below w.heap.size w w' := by
  have b1 := (Below.refl w.heap.size w).alloc (Nat.le_refl _)
  rcases kinds k with h | h | h | h | h | h | h | ⟨_, h0, h1, h2, h3, h4, h5, h6⟩
  · subst h
    go_enter Try.func93, Try.ntmps93
    go_wp2
    refine bodyPost_ret (results_S Try.isShape rfl _ _ w.heap.size _ rfl rfl (StB.new w _ _)) rfl ?_
    exact ⟨rfl, b1 _⟩
  · subst h
    go_enter Try.func93, Try.ntmps93
    go_wp2
    refine bodyPost_ret (results_S Try.isShape rfl _ _ w.heap.size _ rfl rfl (StB.new w _ _)) rfl ?_
    exact ⟨rfl, b1 _⟩
  · subst h
    go_enter Try.func93, Try.ntmps93
    go_wp2
    refine bodyPost_ret (results_S Try.isShape rfl _ _ w.heap.size _ rfl rfl (StB.new w _ _)) rfl ?_
    exact ⟨rfl, b1 _⟩
  · subst h
    go_enter Try.func93, Try.ntmps93
    go_wp2
    refine bodyPost_ret (results_S Try.isShape rfl _ _ w.heap.size _ rfl rfl (StB.new w _ _)) rfl ?_
    exact ⟨rfl, b1 _⟩
  · subst h
    go_enter Try.func93, Try.ntmps93
    go_wp2
    refine bodyPost_ret (results_S Try.isShape rfl _ _ w.heap.size _ rfl rfl (StB.new w _ _)) rfl ?_
    exact ⟨rfl, b1 _⟩
  · subst h
    go_enter Try.func93, Try.ntmps93
    go_wp2
    refine bodyPost_ret (results_S Try.isShape rfl _ _ w.heap.size _ rfl rfl (StB.new w _ _)) rfl ?_
    exact ⟨rfl, b1 _⟩
  · subst h
    go_enter Try.func93, Try.ntmps93
    go_wp2
    refine bodyPost_ret (results_S Try.isShape rfl _ _ w.heap.size _ rfl rfl (StB.new w _ _)) rfl ?_
    exact ⟨rfl, b1 _⟩
  · have he : heldI k = 0 := by simp [heldI, h1, h2, h3, h4, h5, h6]
    have hf : whatI k = 0 := by simp [whatI, h1, h2, h3, h4, h5, h6]
    rw [he, hf]
    clear he hf
    go_enter Try.func93, Try.ntmps93
    go_wp2
    refine bodyPost_ret (results_S Try.isShape rfl _ _ w.heap.size _ rfl rfl (StB.new w _ _)) rfl ?_
    exact ⟨rfl, b1 _⟩

set_option maxRecDepth 20000 in
set_option maxHeartbeats 400000 in
theorem ikind_any (k : Int) (w : World) :
    Calls Try.prog 91 #[.int .i64 k] w fun e w' => e = .returned (.bool (kiI k)) ∧ Below w.heap.size w w' := by
  have c1 := ishape_any k w
  rcases kinds k with h | h | h | h | h | h | h | ⟨hk, h0, h1, h2, h3, h4, h5, h6⟩
  all_goals first
    | (subst h
       go_enter Try.func91, Try.ntmps91
       go_wp2_with fail
       refine c1.mono ?_
       rintro e w2 ⟨rfl, b2⟩
       go_wp2
       go_ret
       exact ⟨rfl, b2⟩)
    | (have he : heldI k = 0 := by simp [heldI, h1, h2, h3, h4, h5, h6]
       have hf : whatI k = 0 := by simp [whatI, h1, h2, h3, h4, h5, h6]
       rw [he, hf] at c1
       rw [hk]
       clear he hf
       go_enter Try.func91, Try.ntmps91
       go_wp2_with fail
       refine c1.mono ?_
       rintro e w2 ⟨rfl, b2⟩
       go_wp2
       go_ret
       exact ⟨rfl, b2⟩)

theorem allI_held (k : Int) : allI k = decide (heldI k = 3) := by
  rcases kinds k with h | h | h | h | h | h | h | ⟨hk, h0, h1, h2, h3, h4, h5, h6⟩
  all_goals first | (subst h; rfl) | (rw [none_all k hk, show heldI k = 0 by simp [heldI, h1, h2, h3, h4, h5, h6]]; rfl)

set_option maxRecDepth 20000 in
set_option maxHeartbeats 400000 in
theorem iall_any (k : Int) (w : World) :
    Calls Try.prog 89 #[.int .i64 k] w fun e w' => e = .returned (.bool (allI k)) ∧ Below w.heap.size w w' := by
  have c1 := ishape_any k w
  rw [allI_held]
  obtain ⟨p, hp⟩ : ∃ p, p = heldI k := ⟨_, rfl⟩
  obtain ⟨q, hq⟩ : ∃ q, q = whatI k := ⟨_, rfl⟩
  rw [← hp, ← hq] at c1
  rw [← hp]
  clear hp hq
  go_enter Try.func89, Try.ntmps89
  go_wp2_with fail
  refine c1.mono ?_
  rintro e w2 ⟨rfl, b2⟩
  have hf : ∀ wx, (Instr.field 108 (.agg #[.int .i64 p, .int .i64 q]) 0).run Try.prog wx = .ok (.int .i64 p) wx := fun wx => by kernel_rfl
  go_wp2
  go_ret
  exact ⟨ret_bool (by by_cases h : p = 3 <;> simp [h]), b2⟩

/- The table that the call itself made, in block b, behind what it was given. -/
def MBB (w0 w : World) (b : Nat) (t : Bool → Bool → Bool) : Prop := MB w b t ∧ Below w0.heap.size w0 w ∧ w0.heap.size ≤ b
theorem MBB.start (w : World) : MBB w (w.alloc (.map #[] 0)).drew w.heap.size (fun _ _ => false) :=
  ⟨⟨[], 0, (MapKept.heap_alloc w _).1, List.Pairwise.nil, fun _ _ => rfl⟩, ((Below.refl w.heap.size w).alloc (Nat.le_refl _) _).drew, Nat.le_refl _⟩
theorem MBB.grown {w0 w w' : World} {b : Nat} {t s : Bool → Bool → Bool} (h : MBB w0 w b t) (hm : MB w' b s) (hg : w.grownBy w' (some b)) : MBB w0 w' b s :=
  ⟨hm, h.2.1.grown hg h.2.1.size (fun k e => by cases e; exact h.2.2), h.2.2⟩
theorem MBB.below {w0 w w' : World} {b : Nat} {t : Bool → Bool → Bool} (h : MBB w0 w b t) (hb : Below w.heap.size w w') : MBB w0 w' b t :=
  ⟨MB.of w w' b t h.1 (hb.block b h.1.lt), h.2.1.trans (hb.mono h.2.1.size), h.2.2⟩
theorem MBB.eq {w0 w : World} {b : Nat} {t s : Bool → Bool → Bool} (h : MBB w0 w b t) (e : ∀ x y, t x y = s x y) : MBB w0 w b s := ⟨h.1.eq e, h.2⟩

/- Beside it the shape of the kind, in a block of its own. -/
def SB (w0 w : World) (b : Nat) (t : Bool → Bool → Bool) (g : Nat) (p q : Int) : Prop := MBB w0 w b t ∧ StB w g 108 #[.int .i64 p, .int .i64 q] ∧ b ≠ g
theorem SB.start {w0 w : World} {b : Nat} {t : Bool → Bool → Bool} (h : MBB w0 w b t) (p q : Int) : SB w0 (w.alloc (.cells #[.int .i64 p, .int .i64 q] 108)) b t w.heap.size p q :=
  ⟨h.below ((Below.refl w.heap.size w).alloc (Nat.le_refl _) _), StB.new w _ _, Nat.ne_of_lt h.1.lt⟩
theorem SB.grown {w0 w w' : World} {b g : Nat} {t s : Bool → Bool → Bool} {p q : Int} (h : SB w0 w b t g p q) (hm : MBB w0 w' b s) (hg : w.grownBy w' (some b)) : Hid (SB w0 w' b s g p q) :=
  ⟨hm, h.2.1.kept hg (fun e => h.2.2 (by cases e; rfl)), h.2.2⟩
theorem SB.cell0 {w0 w : World} {b g : Nat} {t : Bool → Bool → Bool} {p q : Int} (h : SB w0 w b t g p q) : w.cell? ⟨g, 0, none⟩ = some (.int .i64 p) := h.2.1.cell 0 rfl
theorem SB.cell1 {w0 w : World} {b g : Nat} {t : Bool → Bool → Bool} {p q : Int} (h : SB w0 w b t g p q) : w.cell? ⟨g, 1, none⟩ = some (.int .i64 q) := h.2.1.cell 1 rfl

def tabI (p q : Int) (x y : Bool) : Bool := !decide (p = 0) && (!(decide (q = 1) && !x) && !(!decide (p = 1) && y))
end Go.Proofs.Ytjbfncjdedigdaa
