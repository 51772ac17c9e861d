/- The program's disks: fresh, DiskOk, NewDisk, Loose, Written, Flushed and Lost answer what plain lists say, in new memory. -/
import Derived.Test.YtpdggofaobmnlaaSDisk2
import Derived.Test.YtpdggofaobmnlaaM26
import Derived.ArgAppend
import Derived.Laws.CopyOwn
import Derived.Test.YtpdggofaobmnlaaM6
import Derived.Test.YtpdggofaobmnlaaM7
import Derived.Laws.StructEq
namespace Go.Proofs.Ytpdggofaobmnlaa
open Go.ChangeShapes Go.WideShapes Go.ChangeAt Go.RowKit

set_option maxRecDepth 20000 in
set_option maxHeartbeats 1000000 in
theorem fresh_any (v : Value) (xs : List Int) (w : World) (h : Reads w v xs) (h1 : 1 ≤ xs.length) (hbig : xs.length ≤ 1099511627776) :
    Calls Try.prog 69 #[v] w fun e w' => ∃ u, e = .returned u ∧ Own w' w.heap.size u xs ∧ Below w.heap.size w w' := by
  obtain ⟨i0, hi, hz0, hz1, hz2⟩ := info_parts Try.infoI
  obtain ⟨ao, cap, rfl, hl, hm, hc⟩ := h
  obtain ⟨b, off, hab, hcell⟩ : ∃ b off, ao = some ⟨b, off, none⟩ ∧ ∀ j, j < xs.length → w.cell? ⟨b, off + j, none⟩ = some (.int .i64 (xs.getD j 0)) := by
    rcases hc with e | h
    · subst e; simp at h1
    · exact h
  subst hab
  have hnews : ∀ j u, (xs.map (Value.int .i64))[j]? = some u → w.cell? ((⟨b, off, none⟩ : Addr).add j) = some u := by
    intro j u hj
    have hlt : j < xs.length := by
      rcases Nat.lt_or_ge j xs.length with h | h
      · exact h
      · rw [List.getElem?_eq_none (by simpa using h)] at hj; cases hj
    rw [show (⟨b, off, none⟩ : Addr).add j = ⟨b, off + j, none⟩ by unfold Addr.add; split <;> simp_all]
    rw [hcell j hlt]
    simp [List.getD, hlt] at hj ⊢
    exact hj
  have hone : ∀ u ∈ xs.map (Value.int .i64), u.oneCell' = true := by
    intro u hu
    obtain ⟨x, _, rfl⟩ := List.mem_map.1 hu
    rfl
  obtain ⟨hm1, -⟩ := hm
  unfold maxLen at hm1
  obtain ⟨n, hn⟩ : ∃ n, n = xs.length := ⟨_, rfl⟩
  have hll : (xs.map (Value.int .i64)).length = n * 1 := by simp [hn]
  rw [← hn] at hbig hl h1 ⊢
  have HN : Hid (n = xs.length) := hn
  clear hn hc hcell
  go_enter Try.func69, Try.ntmps69
  go_wp2_with (at_builtin; refine wpList_append_grows _ rfl _ _ 24 rfl 2 i0 (.int .i64 0) 1 8 Try.underlying24 hi hz0 hz1 hz2 rfl (by decide) (some ⟨b, off, none⟩) 0 0 [] rfl (by intro e; cases e) (by simp) (by intro b' _ j u hj; simp at hj) ⟨b, off, none⟩ n cap (xs.map (Value.int .i64)) rfl hll hnews hone (by omega) (by unfold maxLen; omega) (by omega) ?_)
  intro v' w1 hown hgrow
  go_wp2_with fail
  go_ret
  refine ⟨_, rfl, ?_, (Below.refl w.heap.size w).grown hgrow (Nat.le_refl _) (fun k e => by cases e)⟩
  unfold Own
  rw [← HN.out]
  exact hown

set_option maxRecDepth 20000 in
set_option maxHeartbeats 1000000 in
theorem freshDisk_any (u v : Value) (xs ys : List Int) (w : World) (h : Reads w u xs) (h' : Reads w v ys) (hx1 : 1 ≤ xs.length) (hy1 : 1 ≤ ys.length) (gx : xs.length ≤ 1099511627776) (gy : ys.length ≤ 1099511627776) :
    Calls Try.prog 66 #[.agg #[u, v]] w fun e w' => ∃ a b, e = .returned (.agg #[a, b]) ∧ OwnD w' w.heap.size a b xs ys ∧ Below w.heap.size w w' := by
  have HR : Hid (Reads w u xs ∧ Reads w v ys) := ⟨h, h'⟩
  clear h h'
  obtain ⟨w2, hw2⟩ : ∃ w2, w2 = (w.alloc (.cells #[u, v] 26)).alloc (.cells #[.slice none 0 0, .slice none 0 0] 26) := ⟨_, rfl⟩
  have HB : Hid (Boxes w w2 u v) := by rw [hw2]; exact Boxes.start w u v
  have c0 := HB.out.1.cell0
  have c1 := HB.out.1.cell1
  go_enter Try.func66, Try.ntmps66
  go_wp2_with fail
  rw [← hw2]
  clear hw2
  have HB2 := HB.out.drew
  go_region_held3 (fun w' => w'.cell? ⟨w.heap.size, 0, none⟩ = some u ∧ w'.cell? ⟨w.heap.size, 1, none⟩ = some v) (constructor <;> first | assumption | exact cell_set1 (cell_set1 (by assumption)))
    (first
      | (go_at_call_of 69 u; refine (fresh_any u xs w2.drew (HR.out.1.below HB2.2.2.1 (Nat.le_refl _)) hx1 gx).mono ?_; rintro e w4 ⟨a, rfl, oa, ba⟩; have HB4 := HB2.below ba; have d0 := HB4.1.cell0; have d1 := HB4.1.cell1; obtain ⟨ao, ca, hea⟩ := oa.reads.form; subst hea)
      | (go_at_call_of 69 v; refine (fresh_any v ys w4 (HR.out.2.below HB4.2.2.1 (Nat.le_refl _)) hy1 gy).mono ?_; rintro e w5 ⟨b, rfl, ob, bb⟩; have hap := apart_of oa ob (Nat.le_refl _); replace oa := oa.below bb; have hs5 := ba.size; have HB5 := HB4.below bb; have e0 := HB5.1.cell0; have e1 := HB5.1.cell1; have e2 := HB5.2.1.cell0; have e3 := HB5.2.1.cell1; have f2 := HB5.2.1.frozen 0; have f3 := HB5.2.1.frozen 1; obtain ⟨bo, cb, heb⟩ := ob.reads.form; subst heb))
  go_wp2_with fail
  refine bodyPost_ret (results_pair rfl _ _ (w.heap.size + 1) _ _ rfl ((HB5.2.1.set0 _).set1 _)) rfl ?_
  exact ⟨_, _, rfl, HB5.done (grown_two _ _ _ _) oa ob (HB2.2.2.2) (Nat.le_trans HB2.2.2.2 hs5) hap⟩

set_option maxRecDepth 20000 in
set_option maxHeartbeats 1000000 in
theorem diskOk_any (u v : Value) (xs ys : List Int) (w : World) (h : Reads w u xs) (h' : Reads w v ys) (gx : xs.length ≤ 1099511627776) (gy : ys.length ≤ 1099511627776) :
    Calls Try.prog 44 #[.agg #[u, v]] w fun e w' => e = .returned (.bool (bothOk xs ys)) ∧ Below w.heap.size w w' := by
  obtain ⟨w1, hw1⟩ : ∃ w1, w1 = w.alloc (.cells #[u, v] 26) := ⟨_, rfl⟩
  have b1 : Below w.heap.size w w1 := by rw [hw1]; exact belowAlloc w _
  have c1 := rowsOf_any u v xs ys w1 (h.below b1 (Nat.le_refl _)) (h'.below b1 (Nat.le_refl _)) gx gy
  obtain ⟨bk, hbk⟩ : ∃ bk, bk = bothOk xs ys := ⟨_, rfl⟩
  obtain ⟨f, hf⟩ : ∃ f, f = rowF xs := ⟨_, rfl⟩
  obtain ⟨g, hg⟩ : ∃ g, g = rowF ys := ⟨_, rfl⟩
  rw [← hbk, ← hf, ← hg] at c1
  rw [← hbk]
  clear hbk hf hg h h'
  go_enter Try.func44, Try.ntmps44
  go_wp2_with fail
  rw [← hw1]
  clear hw1
  refine c1.mono ?_
  rintro e w2 ⟨rfl, b2⟩
  replace b2 := b1.trans (b2.mono b1.size)
  clear b1 c1
  go_wp2_with (refine wpList_put8 rfl _ _ rfl w2.heap.size f rfl rfl (fun _ => 0) (two_rows w2).1 ?_)
  intro w3 r3 g3
  have b3 : Below w.heap.size w w3 := below_two b2 b2.size _ _ g3 b2.size
  have q3 : Row w3 (w2.heap.size + 1) (fun _ => 0) := (two_rows w2).2.kept g3 (by simp)
  have HG : Hid (w.heap.size ≤ w2.heap.size) := b2.size
  clear g3 b2
  go_wp2_with (refine wpList_put8 rfl _ _ rfl (w2.heap.size + 1) g rfl rfl (fun _ => 0) q3 ?_)
  intro w4 q4 g4
  have b4 : Below w.heap.size w w4 := b3.grown g4 b3.size (fun k e => by cases e; have := HG.out; omega)
  clear g4 b3 q3 q4 r3
  go_wp2_with fail
  go_ret
  exact ⟨rfl, b4⟩

set_option maxRecDepth 20000 in
set_option maxHeartbeats 1000000 in
theorem newDisk_any (n : Int) (w : World) :
    Calls Try.prog 56 #[.int .i64 n] w fun e w' => ∃ a b, e = .returned (.tuple #[.agg #[a, b], .bool (cntOk n)]) ∧ OwnD w' w.heap.size a b (zerosI n) (zerosI n) ∧ Below w.heap.size w w' := by
  obtain ⟨w1, hw1⟩ : ∃ w1, w1 = w.alloc (.cells #[.slice none 0 0, .slice none 0 0] 26) := ⟨_, rfl⟩
  have p1 : Pair w1 w.heap.size 26 (.slice none 0 0) (.slice none 0 0) := by rw [hw1]; exact Pair.new w _ _ _
  have b1 : Below w.heap.size w w1 := by rw [hw1]; exact belowAlloc w _
  have hs1 : w.heap.size < w1.heap.size := by rw [hw1]; simp
  by_cases hc : cntOk n = true
  · rw [hc]
    obtain ⟨zs, hz⟩ : ∃ zs, zs = zerosI n := ⟨_, rfl⟩
    have c2 : ∀ w', _ := fun w' => new_any8 n w'
    rw [← hz] at c2 ⊢
    have c1 := cnt_any n w1
    rw [hc] at c1
    clear hz hc
    go_enter Try.func56, Try.ntmps56
    go_wp2_with fail
    rw [← hw1]
    clear hw1
    refine c1.mono ?_
    rintro e w' ⟨rfl, hw⟩; subst w'
    go_wp2_with fail
    refine (c2 w1).mono ?_
    rintro e w2 ⟨a, rfl, o2, b2⟩
    have HS : Hid (w.heap.size < w1.heap.size ∧ w1.heap.size ≤ w2.heap.size) := ⟨hs1, b2.size⟩
    replace p1 := p1.below b2
    replace b1 := b1.trans (b2.mono b1.size)
    clear b2 c1 hs1
    go_wp2_with fail
    refine (c2 w2).mono ?_
    rintro e w3 ⟨b, rfl, o3, b3⟩
    have hap := apart_of o2 o3 (Nat.le_refl _)
    replace o2 := o2.below b3
    replace p1 := p1.below b3
    replace b1 := b1.trans (b3.mono b1.size)
    obtain ⟨ao, ca, hea⟩ := o2.reads.form
    obtain ⟨bo, cb, heb⟩ := o3.reads.form
    subst hea heb
    have HO : Hid (Own w3 w1.heap.size _ zs ∧ Own w3 w2.heap.size _ zs ∧ apart _ _ ∧ Below w.heap.size w w3) := ⟨o2, o3, hap, b1⟩
    clear o2 o3 hap b1 b3 c2
    go_wp2_with (refine wpList_putP rfl _ _ rfl w.heap.size _ _ _ _ rfl rfl rfl rfl p1 ?_; intro w4 p4 g4)
    refine bodyPost_ret (results_pair2 rfl _ _ w.heap.size _ _ _ rfl rfl p4) rfl ?_
    obtain ⟨o2, o3, hap, b1⟩ := HO.out
    have hs := HS.out
    exact ⟨_, _, rfl, ⟨(o2.keptLt g4 (by omega)).mono (by omega), (o3.keptLt g4 (by omega)).mono (by omega), hap⟩, b1.grown g4 b1.size (fun k e => by cases e; omega)⟩
  · have hc' : cntOk n = false := by simpa using hc
    have HZ : Hid (zerosI n = []) := by simp [Hid, zerosI]; simp [cntOk] at hc'; omega
    have c1 := cnt_any n w1
    rw [hc'] at c1 ⊢
    clear hc hc'
    go_enter Try.func56, Try.ntmps56
    go_wp2_with fail
    rw [← hw1]
    clear hw1
    refine c1.mono ?_
    rintro e w' ⟨rfl, hw⟩; subst w'
    clear c1
    go_wp2_with (refine wpList_putP rfl _ _ rfl w.heap.size _ _ _ _ rfl rfl rfl rfl p1 ?_; intro w4 p4 g4)
    refine bodyPost_ret (results_pair2 rfl _ _ w.heap.size _ _ _ rfl rfl p4) rfl ?_
    rw [HZ.out]
    exact ⟨_, _, rfl, ownNil2 _ _, b1.grown g4 b1.size (fun k e => by cases e; omega)⟩
end Go.Proofs.Ytpdggofaobmnlaa
/- Keys as an array of four, and a holding that embeds them, by the program: keyOk, personOk, turnOk, registered, anyRegistered, keyRowOf, list. -/
namespace Go.Proofs.Ytpdggofaobmnlaa
open Go.ChangeShapes Go.WideShapes Go.ChangeAt Go.RowKit

def kA (f : Nat → Int) : Array Value := #[.int .i64 (f 0), .int .i64 (f 1), .int .i64 (f 2), .int .i64 (f 3)]
def KF (ks : List Int) : Nat → Int := fun j => ks.getD j 0
theorem four {p : Nat → Prop} (h0 : p 0) (h1 : p 1) (h2 : p 2) (h3 : p 3) : ∀ j, j < 4 → p j
  | 0, _ => h0 | 1, _ => h1 | 2, _ => h2 | 3, _ => h3
  | _ + 4, h => by omega
theorem Try.isKeyRow : (Try.prog.info? 90).map (·.size) = some 4 := by kernel_rfl
theorem Try.underK : Try.prog.underlying 90 = some (.array 4 2) := by kernel_rfl

set_option maxRecDepth 20000 in
set_option maxHeartbeats 400000 in
theorem ikeyok_any (x : Int) (w : World) :
    Calls Try.prog 106 #[.int .i64 x] w fun e w' => e = .returned (.bool (inI x 0 9999)) ∧ w' = w := by
  by_cases h0 : 0 ≤ x
  · by_cases h1 : x ≤ 9999
    · rw [show inI x 0 9999 = true by simp [inI, h0, h1]]
      go_enter Try.func106, Try.ntmps106
      go_wp2
      go_ret
      exact ⟨ret_bool (by simp), rfl⟩
    · rw [show inI x 0 9999 = false by simp [inI]; omega]
      go_enter Try.func106, Try.ntmps106
      go_wp2
      go_ret
      exact ⟨ret_bool (by simp), rfl⟩
  · rw [show inI x 0 9999 = false by simp [inI]; omega]
    go_enter Try.func106, Try.ntmps106
    go_wp2
    go_ret
    exact ⟨ret_bool (by simp), rfl⟩

set_option maxRecDepth 20000 in
set_option maxHeartbeats 400000 in
theorem iturnok_any (x : Int) (w : World) :
    Calls Try.prog 102 #[.int .i64 x] w fun e w' => e = .returned (.bool (inI x 0 1000000000)) ∧ w' = w := by
  by_cases h0 : 0 ≤ x
  · by_cases h1 : x ≤ 1000000000
    · rw [show inI x 0 1000000000 = true by simp [inI, h0, h1]]
      go_enter Try.func102, Try.ntmps102
      go_wp2
      go_ret
      exact ⟨ret_bool (by simp), rfl⟩
    · rw [show inI x 0 1000000000 = false by simp [inI]; omega]
      go_enter Try.func102, Try.ntmps102
      go_wp2
      go_ret
      exact ⟨ret_bool (by simp), rfl⟩
  · rw [show inI x 0 1000000000 = false by simp [inI]; omega]
    go_enter Try.func102, Try.ntmps102
    go_wp2
    go_ret
    exact ⟨ret_bool (by simp), rfl⟩

set_option maxRecDepth 20000 in
set_option maxHeartbeats 400000 in
theorem iperson_any (x : Int) (w : World) :
    Calls Try.prog 112 #[.int .i64 x] w fun e w' => e = .returned (.bool (inI x 0 3)) ∧ w' = w := by
  by_cases h0 : 0 ≤ x
  · by_cases h1 : x < 4
    · rw [show inI x 0 3 = true by simp [inI, h0]; omega]
      go_enter Try.func112, Try.ntmps112
      go_wp2
      go_ret
      exact ⟨ret_bool (by simp), rfl⟩
    · rw [show inI x 0 3 = false by simp [inI]; omega]
      go_enter Try.func112, Try.ntmps112
      go_wp2
      go_ret
      exact ⟨ret_bool (by simp), rfl⟩
  · rw [show inI x 0 3 = false by simp [inI]; omega]
    go_enter Try.func112, Try.ntmps112
    go_wp2
    go_ret
    exact ⟨ret_bool (by simp), rfl⟩

set_option maxRecDepth 20000 in
set_option maxHeartbeats 1000000 in
theorem iregd_any (f : Nat → Int) (i : Int) (w : World) :
    Calls Try.prog 110 #[.agg (kA f), .int .i64 i] w fun e w' => e = .returned (.bool (inI i 0 3 && decide (f i.toNat ≠ 0))) ∧ Below w.heap.size w w' := by
  have b1 : Below w.heap.size w (w.alloc (.cells (kA f) 90)) := (Below.refl _ _).alloc (Nat.le_refl _) _
  have H1 : StB (w.alloc (.cells (kA f) 90)) w.heap.size 90 (kA f) := StB.new _ _ _
  have c1 := fun wx => iperson_any i wx
  by_cases h : 0 ≤ i ∧ i < 4
  · have hin : inI i 0 3 = true := by simp [inI]; omega
    simp only [hin] at c1 ⊢
    obtain ⟨j, hj, hj4⟩ : ∃ j : Nat, i = (j : Int) ∧ j < 4 := ⟨i.toNat, by omega, by omega⟩
    subst hj
    obtain ⟨y, hy⟩ : ∃ y, y = f j := ⟨_, rfl⟩
    have hc : (w.alloc (.cells (kA f) 90)).cell? ⟨w.heap.size, j, none⟩ = some (.int .i64 y) := by
      rw [hy]; exact H1.cell j (four (p := fun j => (kA f)[j]? = some (.int .i64 (f j))) rfl rfl rfl rfl j hj4)
    have HY : Hid (y = f j) := hy
    have hl : (j : Int) < 4 := by omega
    clear hin hy h H1
    unfold kA at *
    by_cases y0 : y = 0
    · go_enter Try.func110, Try.ntmps110
      go_wp2_with (first | (go_at_call 112; refine (c1 _).mono ?_; rintro e w' ⟨rfl, hw⟩; subst w'))
      go_ret
      exact ⟨ret_bool (by simp [← HY.out, y0]), b1⟩
    · have hyn : (y != 0) = true := by simpa using y0
      go_enter Try.func110, Try.ntmps110
      go_wp2_with (first | (go_at_call 112; refine (c1 _).mono ?_; rintro e w' ⟨rfl, hw⟩; subst w'))
      go_ret
      exact ⟨ret_bool (by simp [← HY.out, y0]), b1⟩
  · have hin : inI i 0 3 = false := by simp [inI]; omega
    simp only [hin] at c1 ⊢
    clear h hin H1
    unfold kA at *
    go_enter Try.func110, Try.ntmps110
    go_wp2_with (first | (go_at_call 112; refine (c1 _).mono ?_; rintro e w' ⟨rfl, hw⟩; subst w'))
    go_ret
    exact ⟨ret_bool (by simp), b1⟩

def anyF (f : Nat → Int) : Bool := (f 0 != 0) || (f 1 != 0) || (f 2 != 0) || (f 3 != 0)
theorem run_eqK0 (f : Nat → Int) (w : World) : (Op.equalIn 10000 90 (.agg (kA f)) (.agg (kA fun _ => 0))).run Try.prog w = .ok (!anyF f) w := by
  obtain ⟨i0, hi, hz0, hz1, hz2⟩ := info_parts Try.infoI
  have hz : Try.prog.cellsOf 2 = 1 := by kernel_rfl
  have hu : Try.prog.underlying 2 = some (.int .i64) := by kernel_rfl
  rw [show (10000 : Nat) = 9998 + 1 + 1 from rfl, run_equalIn_array (i := i0) w (9998 + 1) _ _ Try.underK hi, hz]
  simp [List.range, List.range.loop, Op.eqItems, part, Sem.run_bind, sizeOf, typeInfo, hi, hz1, hu, kA, run_equalIn_int, anyF]
  (repeat' split) <;> simp_all

set_option maxRecDepth 20000 in
set_option maxHeartbeats 1000000 in
theorem ianyreg_any (f : Nat → Int) (w : World) :
    Calls Try.prog 108 #[.agg (kA f)] w fun e w' => e = .returned (.bool (anyF f)) ∧ Below w.heap.size w w' := by
  have b1 : Below w.heap.size w (w.alloc (.cells (kA f) 90)) := (Below.refl _ _).alloc (Nat.le_refl _) _
  have he := run_eqK0 f (w.alloc (.cells (kA f) 90))
  obtain ⟨x, hx⟩ : ∃ x, x = anyF f := ⟨_, rfl⟩
  rw [← hx] at he ⊢
  clear hx
  unfold kA at *
  cases x with
  | false =>
    go_enter Try.func108, Try.ntmps108
    go_wp2
    go_ret
    exact ⟨rfl, b1⟩
  | true =>
    go_enter Try.func108, Try.ntmps108
    go_wp2
    go_ret
    exact ⟨rfl, b1⟩
end Go.Proofs.Ytpdggofaobmnlaa
