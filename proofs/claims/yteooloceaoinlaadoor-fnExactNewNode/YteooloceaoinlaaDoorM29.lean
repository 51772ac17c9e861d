/- The program's copiers, on: what is new (NewCopier), what is copied (fresh, freshCopier). -/
import Derived.Test.YteooloceaoinlaaDoorM17
import Derived.ArgAppend
import Derived.Test.YteooloceaoinlaaDoorM26
import Derived.Test.YteooloceaoinlaaDoorM28
import Derived.Test.YteooloceaoinlaaDoorM27
import Derived.Test.YteooloceaoinlaaDoorM23
import Derived.Test.YteooloceaoinlaaDoorM11
import Derived.Test.YteooloceaoinlaaDoorM18
namespace Go.Proofs.YteooloceaoinlaaDoor
open Go.ChangeShapes Go.WideShapes Go.ChangeAt Go.RowKit

end Go.Proofs.YteooloceaoinlaaDoor
/- Houses by the program: freshNode. -/
namespace Go.Proofs.YteooloceaoinlaaDoor
open Go.ChangeShapes Go.WideShapes Go.ChangeAt Go.RowKit

theorem five_new {w7 w8 w9 : World} {base : Nat} {a b k q z : Value} {xs ys ks qs zs : List Int} (o : OwnR w7 base a b k xs ys ks) (oq : Mine w8 w7.heap.size q qs) (oz : Mine w9 w8.heap.size z zs) (h : w7.heap.size ≤ w8.heap.size) : Five (blk a) (blk b) (blk k) (mineOf q qs) (mineOf z zs) := by
  have ha := fun x hx => (blk_new o.1.1 x hx).2
  have hb := fun x hx => (blk_new o.1.2.1 x hx).2
  have hk := fun x hx => (blk_new o.2.1 x hx).2
  have hq := fun {x : Nat} (hx : x ∈ mineOf q qs) => mineOf_lt oq hx
  have hz := fun {x : Nat} (hx : x ∈ mineOf z zs) => mineOf_lt oz hx
  exact ⟨apart_iff.1 o.1.2.2, apart_iff.1 o.2.2.1, fun x h1 h2 => by have := ha x h1; have := (hq h2).1; omega, fun x h1 h2 => by have := ha x h1; have := (hz h2).1; omega, apart_iff.1 o.2.2.2,
    fun x h1 h2 => by have := hb x h1; have := (hq h2).1; omega, fun x h1 h2 => by have := hb x h1; have := (hz h2).1; omega, fun x h1 h2 => by have := hk x h1; have := (hq h2).1; omega, fun x h1 h2 => by have := hk x h1; have := (hz h2).1; omega, fun x h1 h2 => by have := (hq h1).2; have := (hz h2).1; omega⟩
set_option maxRecDepth 20000 in
set_option maxHeartbeats 2000000 in
theorem tail7 {w wx : World} {a b k q z : Value} {n : Nd} (h : FS w wx (ndA a b k q z n)) (q' z' : Value) : FS w (((((((wx.setCell ⟨w.heap.size, 13, none⟩ (.int .i64 n.c.tr)).setCell ⟨w.heap.size, 14, none⟩ (.bool n.c.op)).setCell ⟨w.heap.size, 15, none⟩ (.int .i64 n.c.di)).setCell ⟨w.heap.size, 16, none⟩ (.int .i64 n.c.wa)).setCell ⟨w.heap.size, 17, none⟩ q').setCell ⟨w.heap.size, 18, none⟩ (.int .i64 n.s.tr)).setCell ⟨w.heap.size, 19, none⟩ z') (ndA a b k q' z' n) :=
  ((((((h.put 13 (.int .i64 n.c.tr) rfl).put 14 (.bool n.c.op) rfl).put 15 (.int .i64 n.c.di) rfl).put 16 (.int .i64 n.c.wa) rfl).put 17 q' rfl).put 18 (.int .i64 n.s.tr) rfl).put 19 z' rfl
theorem own7 {wx : World} {base g : Nat} {a b k q z : Value} {n : Nd} (h : MineN wx base a b k q z n) (hg : g < base) (c0 c1 c2 c3 c4 c5 c6 : Value) : MineN (((((((wx.setCell ⟨g, 13, none⟩ c0).setCell ⟨g, 14, none⟩ c1).setCell ⟨g, 15, none⟩ c2).setCell ⟨g, 16, none⟩ c3).setCell ⟨g, 17, none⟩ c4).setCell ⟨g, 18, none⟩ c5).setCell ⟨g, 19, none⟩ c6) base a b k q z n :=
  ((((((h.keptLt (grownSet _ g 13 c0) hg).keptLt (grownSet _ g 14 c1) hg).keptLt (grownSet _ g 15 c2) hg).keptLt (grownSet _ g 16 c3) hg).keptLt (grownSet _ g 17 c4) hg).keptLt (grownSet _ g 18 c5) hg).keptLt (grownSet _ g 19 c6) hg
theorem MineN.setLt {w : World} {base g : Nat} {a b k q z : Value} {n : Nd} (h : MineN w base a b k q z n) (hb : g < base) (j : Nat) (x : Value) : MineN (w.setCell ⟨g, j, none⟩ x) base a b k q z n := h.keptLt (grownSet w g j x) hb
end Go.Proofs.YteooloceaoinlaaDoor
/- Houses by the program: fallen, Fallen, Risen. -/
namespace Go.Proofs.YteooloceaoinlaaDoor
open Go.ChangeShapes Go.WideShapes Go.ChangeAt Go.RowKit

theorem NdR.small {n : Nd} (h : NdR n) : 1 ≤ n.xs.length ∧ 1 ≤ n.ys.length ∧ 1 ≤ n.h.ks.length := by
  obtain ⟨k1, k2, k3⟩ := bothOk_yes h.dk
  exact ⟨(blocksOk_len k1).1, (blocksOk_len k2).1, by rw [Hd.ok_len h.h]; decide⟩

end Go.Proofs.YteooloceaoinlaaDoor
/- What the model shows of a record: l1Ints, l5Show, ShowRecord; and reads of a number: l1Digits, l1Read. -/
namespace Go.Proofs.YteooloceaoinlaaDoor
open Go.ChangeShapes Go.WideShapes Go.ChangeAt Go.RowKit

theorem showR_ints (r : Rc) : showR r = recW ++ 32 :: intsB [r.e, r.s, r.t, r.n] := by simp [showR, intsB]

set_option maxRecDepth 20000 in
set_option maxHeartbeats 1000000 in
theorem sints_any (g : Nat) (xs : List Int) (w : World) (hl : xs.length = 4) (hx : ∀ x ∈ xs, -9223372036854775808 ≤ x ∧ x ≤ 9223372036854775807)
    (hc : ∀ j, j < 4 → w.cell? ⟨g, j, none⟩ = some (.int .i64 (xs.getD j 0))) :
    Calls Tryd.prog 44 #[.slice (some ⟨g, 0, none⟩) 4 4] w fun e w' => e = .returned (S (intsB xs)) ∧ Below w.heap.size w w' := by
  have HX : Hid (∀ x ∈ xs, -9223372036854775808 ≤ x ∧ x ≤ 9223372036854775807) := hx
  have HC : Hid (∀ j, j < 4 → w.cell? ⟨g, j, none⟩ = some (.int .i64 (xs.getD j 0))) := hc
  clear hx hc
  unfold S
  go_enter Tryd.func44, Tryd.ntmps44
  go_wp2
  go_loopw [3, 4] (fun s i wr => ∃ j : Nat, (j : Int) ≤ 4 ∧ i = .int .i64 j ∧ s = .string ⟨(fourB xs j).toArray⟩ ∧ Hid (Below w.heap.size w wr)) (fun _ i _ => 4 - (intOf i).toNat)
  case atStart => exact ⟨0, by omega, rfl, rfl, Below.refl _ _⟩
  case round =>
    obtain ⟨j, hj, rfl, rfl, HB⟩ := hrel
    by_cases hlt : (j : Int) < 4
    · have hj4 : j < xs.length := by omega
      have hmem : xs.getD j 0 ∈ xs := by simp [hj4]
      have hb := HX.out _ hmem
      have hcell : wr.cell? ⟨g, j, none⟩ = some (.int .i64 (xs.getD j 0)) := by
        have h1 := HC.out j (by omega)
        rw [HB.out.cell (p := ⟨g, j, none⟩) (World.block_lt_of_cell? w _ h1)]
        exact h1
      have c1 := fun wx => sint_any (xs.getD j 0) wx hb.1 hb.2
      have hdl := decI_len _ hb.1 hb.2
      have HS : Hid (fourB xs (j + 1) = _) := fourB_step xs j hj4
      have hfl : (fourB xs j).length ≤ 88 := by
        unfold fourB
        split
        · simp
        · have := intsB_len (xs.take j) (fun x hx => HX.out x (List.mem_of_mem_take hx))
          simp at this
          omega
      obtain ⟨x, hxe⟩ : ∃ x, x = xs.getD j 0 := ⟨_, rfl⟩
      rw [← hxe] at hcell hdl HS
      simp only [← hxe] at c1
      obtain ⟨d, hde⟩ : ∃ d, d = decI x := ⟨_, rfl⟩
      rw [← hde] at hdl HS
      simp only [← hde] at c1
      obtain ⟨f, hfe⟩ : ∃ f, f = fourB xs j := ⟨_, rfl⟩
      have HF0 : Hid (j = 0 → f = []) := fun h => by rw [hfe, h]; rfl
      rw [← hfe] at hfl HS ⊢
      unfold S at c1
      have hsz : (⟨f.toArray⟩ : ByteArray).size = f.length := rfl
      have hdz : (⟨d.toArray⟩ : ByteArray).size = d.length := rfl
      clear hxe hde hfe hmem hb
      by_cases h0 : 0 < (j : Int)
      · have HE : Hid (fourB xs (j + 1) = f ++ [32] ++ d) := by rw [Hid, HS.out, if_neg (by omega)]
        have ha := app f [32]
        have ha2 := app (f ++ [32]) d
        have hz2 : (⟨(f ++ [32]).toArray⟩ : ByteArray).size = f.length + 1 := by rw [bsize]; simp
        clear HS
        go_wp2_with fail
        refine (c1 _).mono ?_
        rintro e w1 ⟨rfl, b1⟩
        replace HB : Hid (Below w.heap.size w w1) := HB.out.trans (b1.mono HB.out.size)
        clear b1 c1
        go_wp2
        go_roundw
        case rel => exact ⟨j + 1, by omega, by go_num, by simp [HE.out], HB⟩
        case measure => simp [intOf]; omega
      · obtain rfl : j = 0 := by omega
        have HE : Hid (fourB xs (0 + 1) = f ++ d) := by rw [Hid, HS.out, if_pos rfl, HF0.out rfl]
        have ha := app f d
        clear HS
        go_wp2_with fail
        refine (c1 _).mono ?_
        rintro e w1 ⟨rfl, b1⟩
        replace HB : Hid (Below w.heap.size w w1) := HB.out.trans (b1.mono HB.out.size)
        clear b1 c1
        go_wp2
        go_roundw
        case rel => exact ⟨0 + 1, by omega, by go_num, by simp [HE.out], HB⟩
        case measure => simp [intOf]
    · have HE : Hid (fourB xs j = intsB xs) := by
        have : j = 4 := by omega
        subst this
        unfold Hid fourB
        rw [if_neg (by omega), List.take_of_length_le (by omega)]
      rw [HE.out]
      go_wp2
      go_ret
      exact ⟨rfl, HB.out⟩

set_option maxRecDepth 20000 in
set_option maxHeartbeats 1000000 in
theorem s5show_any (r : Rc) (w : World) (hf : r.Fit) :
    Calls Tryd.prog 31 #[RV r] w fun e w' => e = .returned (S (showR r)) ∧ Below w.heap.size w w' := by
  have hx : ∀ x ∈ [r.e, r.s, r.t, r.n], -9223372036854775808 ≤ x ∧ x ≤ 9223372036854775807 := by
    unfold Rc.Fit at hf
    intro x hx
    simp only [List.mem_cons, List.mem_nil_iff, or_false] at hx
    rcases hx with rfl | rfl | rfl | rfl <;> omega
  have HI : Hid (showR r = recW ++ 32 :: intsB [r.e, r.s, r.t, r.n]) := showR_ints r
  have hil := intsB_len _ hx
  obtain ⟨w1, hw1⟩ : ∃ w1, w1 = w.alloc (.cells (recA r) 28) := ⟨_, rfl⟩
  have b1 : Below w.heap.size w w1 := by rw [hw1]; exact (Below.refl _ _).alloc (Nat.le_refl _) _
  have b2 : Below w.heap.size w (w1.alloc (.cells (recA r) 2)) := b1.alloc b1.size _
  have c1 := sints_any w1.heap.size [r.e, r.s, r.t, r.n] (w1.alloc (.cells (recA r) 2)) rfl hx (by
    intro j hj
    rw [cell_of_row _ w1.heap.size j _ _ _ (heap_alloc_new w1 _)]
    match j, hj with
    | 0, _ => rfl
    | 1, _ => rfl
    | 2, _ => rfl
    | 3, _ => rfl)
  have HB : Hid (Below w.heap.size w (w1.alloc (.cells (recA r) 2))) := b2
  obtain ⟨q, hq⟩ : ∃ q, q = intsB [r.e, r.s, r.t, r.n] := ⟨_, rfl⟩
  rw [← hq] at c1 HI hil
  rw [hw1] at c1 HB
  have ha := app [114, 101, 99, 111, 114, 100, 32] q
  have hz : (⟨q.toArray⟩ : ByteArray).size = q.length := rfl
  simp at hil
  clear hq hw1 hx hf b1 b2
  unfold S RV recA at *
  go_enter Tryd.func31, Tryd.ntmps31
  go_wp2_with fail
  refine Calls.mono (by simpa using c1) ?_
  rintro e w3 ⟨rfl, b3⟩
  have b4 := HB.out.trans (b3.mono (by omega))
  clear b3 HB c1
  go_wp2
  go_ret
  refine ⟨?_, b4⟩
  rw [HI.out]
  simp [recW]
end Go.Proofs.YteooloceaoinlaaDoor
