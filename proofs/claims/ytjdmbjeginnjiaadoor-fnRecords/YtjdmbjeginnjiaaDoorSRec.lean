/- What the model shows of a record: l1Ints, l5Show, ShowRecord; and reads of a number: l1Digits, l1Read. -/
import Derived.Test.YtjdmbjeginnjiaaDoorRec
import Derived.Test.YtjdmbjeginnjiaaDoorRecOk
namespace Go.Proofs.YtjdmbjeginnjiaaDoor
open Go.ChangeShapes Go.WideShapes Go.ChangeAt Go.RowKit

/- Four numbers in a row, in a block of the call's own. -/
def fourB (xs : List Int) (j : Nat) : Bs := if j = 0 then [] else intsB (xs.take j)
theorem intsB_snoc (xs : List Int) (x : Int) (h : xs ≠ []) : intsB (xs ++ [x]) = intsB xs ++ 32 :: decI x := by
  induction xs with
  | nil => exact absurd rfl h
  | cons a l ih =>
    cases l with
    | nil => rfl
    | cons b l =>
      have := ih (by simp)
      simp only [List.cons_append] at this ⊢
      rw [intsB, this, intsB]
      simp
theorem fourB_step (xs : List Int) (j : Nat) (h : j < xs.length) : fourB xs (j + 1) = (if j = 0 then [] else fourB xs j ++ [32]) ++ decI (xs.getD j 0) := by
  unfold fourB
  rw [if_neg (by omega), List.take_succ_eq_append_getElem h]
  have e : xs.getD j 0 = xs[j] := by simp [h]
  rw [e]
  by_cases h0 : j = 0
  · subst h0
    simp [intsB]
  · rw [if_neg h0, if_neg h0, intsB_snoc _ _ (by intro e; have := congrArg List.length e; rw [List.length_take, Nat.min_eq_left (by omega)] at this; exact h0 this)]
    simp
theorem showR_ints (r : Rc) : showR r = recW ++ 32 :: intsB [r.e, r.s, r.t, r.n] := by simp [showR, intsB]

theorem intsB_len (xs : List Int) (h : ∀ x ∈ xs, -9223372036854775808 ≤ x ∧ x ≤ 9223372036854775807) : (intsB xs).length ≤ 22 * xs.length := by
  induction xs with
  | nil => simp [intsB]
  | cons a l ih =>
    have ha := h a (by simp)
    have hl := decI_len a ha.1 ha.2
    cases l with
    | nil => simp [intsB]; omega
    | cons b l =>
      have := ih (fun x hx => h x (by simp [hx]))
      rw [intsB]
      simp at this ⊢
      omega

set_option maxRecDepth 20000 in
set_option maxHeartbeats 1000000 in
theorem sints_any (g : Nat) (xs : List Int) (w : World) (hl : xs.length = 4) (hx : ∀ x ∈ xs, -9223372036854775808 ≤ x ∧ x ≤ 9223372036854775807)
    (hc : ∀ j, j < 4 → w.cell? ⟨g, j, none⟩ = some (.int .i64 (xs.getD j 0))) :
    Calls Tryd.prog 62 #[.slice (some ⟨g, 0, none⟩) 4 4] w fun e w' => e = .returned (S (intsB xs)) ∧ Below w.heap.size w w' := by
  have HX : Hid (∀ x ∈ xs, -9223372036854775808 ≤ x ∧ x ≤ 9223372036854775807) := hx
  have HC : Hid (∀ j, j < 4 → w.cell? ⟨g, j, none⟩ = some (.int .i64 (xs.getD j 0))) := hc
  clear hx hc
  unfold S
  go_enter Tryd.func62, Tryd.ntmps62
  go_wp2
  go_loopw [3, 4] (fun s i wr => ∃ j : Nat, (j : Int) ≤ 4 ∧ i = .int .i64 j ∧ s = .string ⟨(fourB xs j).toArray⟩ ∧ Hid (Below w.heap.size w wr)) (fun _ i _ => 4 - (intOf i).toNat)
  case atStart => exact ⟨0, by omega, rfl, rfl, Below.refl _ _⟩
  case round =>
    obtain ⟨j, hj, rfl, rfl, HB⟩ := hrel
    by_cases hlt : (j : Int) < 4
    · have hj4 : j < xs.length := by omega
      have hmem : xs.getD j 0 ∈ xs := by simp [hj4]
      have hb := HX.out _ hmem
      have hcell : wr.cell? ⟨g, j, none⟩ = some (.int .i64 (xs.getD j 0)) := by
        have h1 := HC.out j (by omega)
        rw [HB.out.cell (p := ⟨g, j, none⟩) (World.block_lt_of_cell? w _ h1)]
        exact h1
      have c1 := fun wx => sint_any (xs.getD j 0) wx hb.1 hb.2
      have hdl := decI_len _ hb.1 hb.2
      have HS : Hid (fourB xs (j + 1) = _) := fourB_step xs j hj4
      have hfl : (fourB xs j).length ≤ 88 := by
        unfold fourB
        split
        · simp
        · have := intsB_len (xs.take j) (fun x hx => HX.out x (List.mem_of_mem_take hx))
          simp at this
          omega
      obtain ⟨x, hxe⟩ : ∃ x, x = xs.getD j 0 := ⟨_, rfl⟩
      rw [← hxe] at hcell hdl HS
      simp only [← hxe] at c1
      obtain ⟨d, hde⟩ : ∃ d, d = decI x := ⟨_, rfl⟩
      rw [← hde] at hdl HS
      simp only [← hde] at c1
      obtain ⟨f, hfe⟩ : ∃ f, f = fourB xs j := ⟨_, rfl⟩
      have HF0 : Hid (j = 0 → f = []) := fun h => by rw [hfe, h]; rfl
      rw [← hfe] at hfl HS ⊢
      unfold S at c1
      have hsz : (⟨f.toArray⟩ : ByteArray).size = f.length := rfl
      have hdz : (⟨d.toArray⟩ : ByteArray).size = d.length := rfl
      clear hxe hde hfe hmem hb
      by_cases h0 : 0 < (j : Int)
      · have HE : Hid (fourB xs (j + 1) = f ++ [32] ++ d) := by rw [Hid, HS.out, if_neg (by omega)]
        have ha := app f [32]
        have ha2 := app (f ++ [32]) d
        have hz2 : (⟨(f ++ [32]).toArray⟩ : ByteArray).size = f.length + 1 := by rw [bsize]; simp
        clear HS
        go_wp2_with fail
        refine (c1 _).mono ?_
        rintro e w1 ⟨rfl, b1⟩
        replace HB : Hid (Below w.heap.size w w1) := HB.out.trans (b1.mono HB.out.size)
        clear b1 c1
        go_wp2
        go_roundw
        case rel => exact ⟨j + 1, by omega, by go_num, by simp [HE.out], HB⟩
        case measure => simp [intOf]; omega
      · obtain rfl : j = 0 := by omega
        have HE : Hid (fourB xs (0 + 1) = f ++ d) := by rw [Hid, HS.out, if_pos rfl, HF0.out rfl]
        have ha := app f d
        clear HS
        go_wp2_with fail
        refine (c1 _).mono ?_
        rintro e w1 ⟨rfl, b1⟩
        replace HB : Hid (Below w.heap.size w w1) := HB.out.trans (b1.mono HB.out.size)
        clear b1 c1
        go_wp2
        go_roundw
        case rel => exact ⟨0 + 1, by omega, by go_num, by simp [HE.out], HB⟩
        case measure => simp [intOf]
    · have HE : Hid (fourB xs j = intsB xs) := by
        have : j = 4 := by omega
        subst this
        unfold Hid fourB
        rw [if_neg (by omega), List.take_of_length_le (by omega)]
      rw [HE.out]
      go_wp2
      go_ret
      exact ⟨rfl, HB.out⟩

set_option maxRecDepth 20000 in
set_option maxHeartbeats 1000000 in
theorem s5show_any (r : Rc) (w : World) (hf : r.Fit) :
    Calls Tryd.prog 41 #[RV r] w fun e w' => e = .returned (S (showR r)) ∧ Below w.heap.size w w' := by
  have hx : ∀ x ∈ [r.e, r.s, r.t, r.n], -9223372036854775808 ≤ x ∧ x ≤ 9223372036854775807 := by
    unfold Rc.Fit at hf
    intro x hx
    simp only [List.mem_cons, List.mem_nil_iff, or_false] at hx
    rcases hx with rfl | rfl | rfl | rfl <;> omega
  have HI : Hid (showR r = recW ++ 32 :: intsB [r.e, r.s, r.t, r.n]) := showR_ints r
  have hil := intsB_len _ hx
  obtain ⟨w1, hw1⟩ : ∃ w1, w1 = w.alloc (.cells (recA r) 25) := ⟨_, rfl⟩
  have b1 : Below w.heap.size w w1 := by rw [hw1]; exact (Below.refl _ _).alloc (Nat.le_refl _) _
  have b2 : Below w.heap.size w (w1.alloc (.cells (recA r) 2)) := b1.alloc b1.size _
  have c1 := sints_any w1.heap.size [r.e, r.s, r.t, r.n] (w1.alloc (.cells (recA r) 2)) rfl hx (by
    intro j hj
    rw [cell_of_row _ w1.heap.size j _ _ _ (heap_alloc_new w1 _)]
    match j, hj with
    | 0, _ => rfl
    | 1, _ => rfl
    | 2, _ => rfl
    | 3, _ => rfl)
  have HB : Hid (Below w.heap.size w (w1.alloc (.cells (recA r) 2))) := b2
  obtain ⟨q, hq⟩ : ∃ q, q = intsB [r.e, r.s, r.t, r.n] := ⟨_, rfl⟩
  rw [← hq] at c1 HI hil
  rw [hw1] at c1 HB
  have ha := app [114, 101, 99, 111, 114, 100, 32] q
  have hz : (⟨q.toArray⟩ : ByteArray).size = q.length := rfl
  simp at hil
  clear hq hw1 hx hf b1 b2
  unfold S RV recA at *
  go_enter Tryd.func41, Tryd.ntmps41
  go_wp2_with fail
  refine Calls.mono (by simpa using c1) ?_
  rintro e w3 ⟨rfl, b3⟩
  have b4 := HB.out.trans (b3.mono (by omega))
  clear b3 HB c1
  go_wp2
  go_ret
  refine ⟨?_, b4⟩
  rw [HI.out]
  simp [recW]

set_option maxRecDepth 20000 in
set_option maxHeartbeats 1000000 in
theorem sshow_any (r : Rc) (w : World) (hf : r.Fit) :
    Calls Tryd.prog 18 #[RV r] w fun e w' => e = .returned (S (showS r)) ∧ Below w.heap.size w w' := by
  have c1 := fun wx => srecok_any r wx
  have c2 := fun wx => s5show_any r wx hf
  have R0 := RecB.new w 25 r
  have B0 : Below w.heap.size w (w.alloc (.cells (recA r) 25)) := (Below.refl _ _).alloc (Nat.le_refl _) _
  have HS : Hid (showS r = if r.ok then showR r else []) := rfl
  obtain ⟨b, hb⟩ : ∃ b, b = r.ok := ⟨_, rfl⟩
  rw [← hb] at HS
  simp only [← hb] at c1
  clear hb hf
  unfold RV S at *
  go_enter Tryd.func18, Tryd.ntmps18
  go_wp2_with (refine wpList_getR rfl _ rfl w.heap.size rfl r R0 ?_; unfold RV)
  refine (c1 _).mono ?_
  rintro e w1 ⟨rfl, b1⟩
  have R1 := R0.below b1
  have B1 := B0.trans (b1.mono B0.size)
  clear b1 R0 B0
  cases b with
  | false =>
    go_wp2_with fail
    go_ret
    rw [HS.out]
    exact ⟨rfl, B1⟩
  | true =>
    go_wp2_with (refine wpList_getR rfl _ rfl w.heap.size rfl r R1 ?_; unfold RV)
    refine (c2 _).mono ?_
    rintro e w2 ⟨rfl, b2⟩
    have B2 := B1.trans (b2.mono B1.size)
    clear b2
    go_wp2_with fail
    go_ret
    rw [HS.out]
    exact ⟨rfl, B2⟩
end Go.Proofs.YtjdmbjeginnjiaaDoor
