/- Disks: the model's Written and NewDisk. -/
import Derived.Test.YthjgannjahcmiaaSDisk2
import Derived.Deep.OwnRows
namespace Go.Proofs.Ythjgannjahcmiaa
open Go.ChangeShapes Go.WideShapes Go.ChangeAt Go.RowKit

/- What is out of place: the disk is copied, and false. -/
set_option maxHeartbeats 1000000 in
theorem swritten_out (u v : Value) (xs ys : List Int) (i x : Int) (w : World) (h : Reads w u xs) (h' : Reads w v ys) (gx : xs.length ≤ 1099511627776) (gy : ys.length ≤ 1099511627776) (hb : bothOk xs ys = true) (hp : placeOk ys i x = false) :
    Calls Try.prog 18 #[.agg #[u, v], .int .i64 i, .int .i64 x] w fun e w' => ∃ a b, e = .returned (.tuple #[.agg #[a, b], .bool false]) ∧ OwnD w' w.heap.size a b xs ys ∧ Below w.heap.size w w' := by
  obtain ⟨w2, hw2⟩ : ∃ w2, w2 = (w.alloc (.cells #[u, v] 26)).alloc (.cells #[.slice none 0 0, .slice none 0 0] 26) := ⟨_, rfl⟩
  have HB : Hid (Boxes w w2 u v) := by rw [hw2]; exact Boxes.start w u v
  have b2 := HB.out.2.2.1
  have c1 := sdiskOk_any u v xs ys w2 (h.below b2 (Nat.le_refl _)) (h'.below b2 (Nat.le_refl _)) gx gy
  have c2 : ∀ w', _ := fun w' => sval_any x w'
  have c3 : ∀ w', Below w.heap.size w w' → _ := fun w' b => l3Copy_any u v xs ys w' (h.below b (Nat.le_refl _)) (h'.below b (Nat.le_refl _)) gx gy
  clear b2
  rw [hb] at c1
  obtain ⟨vo, cv, hev⟩ := h'.form
  obtain ⟨n, hn⟩ : ∃ n, n = ys.length := ⟨_, rfl⟩
  rw [← hn] at hev
  have HP : Hid (placeOk ys i x = false) := hp
  have hcase : i < 0 ∨ (0 ≤ i ∧ (n : Int) ≤ i) ∨ (0 ≤ i ∧ i < (n : Int) ∧ valOk x = false) := by
    simp [placeOk, ← hn] at hp
    by_cases a1 : i < 0
    · exact .inl a1
    · by_cases a2 : (n : Int) ≤ i
      · exact .inr (.inl ⟨by omega, a2⟩)
      · exact .inr (.inr ⟨by omega, by omega, hp (by omega) (by omega)⟩)
  have HEV : Hid (v = .slice vo n cv) := hev
  clear hp hb h h' hev hn
  rcases hcase with k1 | ⟨k1, k2⟩ | ⟨k1, k2, k3⟩
  all_goals
    try rw [k3] at c2
    go_enter Try.func18, Try.ntmps18
    go_wp2_with fail
    rw [← hw2]
    clear hw2
    refine c1.mono ?_
    rintro e w3 ⟨rfl, b3⟩
    replace HB : Hid (Boxes w w3 u v) := HB.out.below b3
    have p3 := HB.out.1
    clear b3 c1
    go_wp2_with (refine wpList_getP rfl _ rfl w.heap.size rfl _ _ p3 ?_)
    refine (c3 _ HB.out.2.2.1).mono ?_
    rintro e w4 ⟨a, b, rfl, o4, b4⟩
    have HS : Hid (w.heap.size + 2 ≤ w3.heap.size) := HB.out.2.2.2
    have hs4 := Nat.le_trans HS.out b4.size
    replace HB : Hid (Boxes w w4 u v) := HB.out.below b4
    have ha1 := o4.1.reads.one
    have hb1 := o4.2.1.reads.one
    have HO : Hid (OwnD w4 w3.heap.size a b xs ys) := o4
    clear b4 o4 p3 c3
    go_wp2_with (first
      | (refine wpList_putP rfl _ _ rfl w4.heap.size _ _ _ _ rfl rfl ha1 hb1 (Pair.new w4 _ _ _) ?_; intro w5 p5 g5; have hg5 : w4.grownBy w5 (some w4.heap.size) := (grown_alloc w4 _ _).trans g5; have HB5 : Hid (Boxes w w5 u v ∧ OwnD w5 w3.heap.size a b xs ys) := ⟨HB.out.kept hg5 hs4, HO.out.1.keptNew hg5, HO.out.2.1.keptNew hg5, HO.out.2.2⟩; have e1 := HB5.out.1.1.cell1; rw [HEV.out] at e1; have p6 := HB5.out.1.2.1)
      | (go_at_call 48; refine (c2 _).mono ?_; rintro e w' ⟨rfl, hw⟩; subst w')
      | (refine wpList_getP rfl _ rfl w4.heap.size rfl _ _ p5 ?_)
      | (refine wpList_putP rfl _ _ rfl (w.heap.size + 1) _ _ _ _ rfl rfl ha1 hb1 p6 ?_; intro w6 p7 g7))
    refine bodyPost_ret (results_pair2 rfl _ _ (w.heap.size + 1) _ _ _ rfl rfl p7) rfl ?_
    exact ⟨_, _, rfl, HB5.out.1.done g7 HB5.out.2.1 HB5.out.2.2.1 HS.out HS.out HB5.out.2.2.2⟩

set_option maxHeartbeats 1000000 in
theorem swritten_in (u v : Value) (xs ys : List Int) (i x : Int) (w : World) (h : Reads w u xs) (h' : Reads w v ys) (gx : xs.length ≤ 1099511627776) (gy : ys.length ≤ 1099511627776) (hb : bothOk xs ys = true) (hp : placeOk ys i x = true) :
    Calls Try.prog 18 #[.agg #[u, v], .int .i64 i, .int .i64 x] w fun e w' => ∃ a b, e = .returned (.tuple #[.agg #[a, b], .bool true]) ∧ OwnD w' w.heap.size a b xs (ys.set i.toNat x) ∧ Below w.heap.size w w' := by
  obtain ⟨w2, hw2⟩ : ∃ w2, w2 = (w.alloc (.cells #[u, v] 26)).alloc (.cells #[.slice none 0 0, .slice none 0 0] 26) := ⟨_, rfl⟩
  have HB : Hid (Boxes w w2 u v) := by rw [hw2]; exact Boxes.start w u v
  have b2 := HB.out.2.2.1
  have c1 := sdiskOk_any u v xs ys w2 (h.below b2 (Nat.le_refl _)) (h'.below b2 (Nat.le_refl _)) gx gy
  have c2 : ∀ w', _ := fun w' => sval_any x w'
  have c3 : ∀ w', Below w.heap.size w w' → _ := fun w' b => l3Copy_any u v xs ys w' (h.below b (Nat.le_refl _)) (h'.below b (Nat.le_refl _)) gx gy
  clear b2
  rw [hb] at c1
  obtain ⟨vo, cv, hev⟩ := h'.form
  obtain ⟨n, hn⟩ : ∃ n, n = ys.length := ⟨_, rfl⟩
  rw [← hn] at hev
  have HEV : Hid (v = .slice vo n cv ∧ n = ys.length) := ⟨hev, hn⟩
  have hcase : 0 ≤ i ∧ i < (n : Int) ∧ valOk x = true := by
    simpa [placeOk, ← hn] using hp
  have hy8 : n ≤ 8 := by rw [hn]; exact (blocksOk_len (bothOk_yes hb).2.1).2
  clear hp hb h h' hev hn
  obtain ⟨k1, k2, k3⟩ := hcase
  rw [k3] at c2
  go_enter Try.func18, Try.ntmps18
  go_wp2_with fail
  rw [← hw2]
  clear hw2
  refine c1.mono ?_
  rintro e w3 ⟨rfl, b3⟩
  replace HB : Hid (Boxes w w3 u v) := HB.out.below b3
  have p3 := HB.out.1
  clear b3 c1
  go_wp2_with (refine wpList_getP rfl _ rfl w.heap.size rfl _ _ p3 ?_)
  refine (c3 _ HB.out.2.2.1).mono ?_
  rintro e w4 ⟨a, b, rfl, o4, b4⟩
  have HS : Hid (w.heap.size + 2 ≤ w3.heap.size) := HB.out.2.2.2
  have hs4 := Nat.le_trans HS.out b4.size
  replace HB : Hid (Boxes w w4 u v) := HB.out.below b4
  have ha1 := o4.1.reads.one
  have hb1 := o4.2.1.reads.one
  obtain ⟨g, cb, heb, hgl⟩ := World.ownsRow.form o4.2.1 (by have := HEV.out.2; omega)
  obtain ⟨hg1, hg2⟩ := o4.2.1.ltBlock heb
  rw [← HEV.out.2] at heb
  have HO : Hid (OwnD w4 w3.heap.size a b xs ys) := o4
  clear b4 o4 p3 c3 hgl
  subst heb
  go_wp2_with (first
    | (refine wpList_putP rfl _ _ rfl w4.heap.size _ _ _ _ rfl rfl ha1 hb1 (Pair.new w4 _ _ _) ?_; intro w5 p5 g5; have hg5 : w4.grownBy w5 (some w4.heap.size) := (grown_alloc w4 _ _).trans g5; have HB5 : Hid (Boxes w w5 u v ∧ OwnD w5 w3.heap.size a _ xs ys) := ⟨HB.out.kept hg5 hs4, HO.out.1.keptNew hg5, HO.out.2.1.keptNew hg5, HO.out.2.2⟩; have e1 := HB5.out.1.1.cell1; rw [HEV.out.1] at e1; have e2 := p5.cell1; obtain ⟨hfr, ⟨z, hz⟩, ho⟩ := HB5.out.2.2.1.put HEV.out.2 i.toNat (by omega) x; have HB6 : Hid (Boxes w (w5.setCell ⟨g, i.toNat, none⟩ (.int .i64 x)) u v ∧ OwnD (w5.setCell ⟨g, i.toNat, none⟩ (.int .i64 x)) w3.heap.size a _ xs (ys.set i.toNat x)) := ⟨HB5.out.1.kept (grownSet _ _ _ _) (by have := HS.out; omega), HB5.out.2.1.setApart _ rfl HB5.out.2.2.2.1, ho, HB5.out.2.2.2⟩; have p6 := p5.other ⟨g, i.toNat, none⟩ (.int .i64 x) (by simp; omega); have p7 := HB6.out.1.2.1; clear ho p5 g5 hg5)
    | (go_at_call 48; refine (c2 _).mono ?_; rintro e w' ⟨rfl, hw⟩; subst w')
    | (refine wpList_getP rfl _ rfl w4.heap.size rfl _ _ p6 ?_)
    | (refine wpList_putP rfl _ _ rfl (w.heap.size + 1) _ _ _ _ rfl rfl ha1 hb1 p7 ?_; intro w6 p8 g8))
  refine bodyPost_ret (results_pair2 rfl _ _ (w.heap.size + 1) _ _ _ rfl rfl p8) rfl ?_
  exact ⟨_, _, rfl, HB6.out.1.done g8 HB6.out.2.1 HB6.out.2.2.1 HS.out HS.out HB6.out.2.2.2⟩

set_option maxHeartbeats 1000000 in
theorem swritten_any (u v : Value) (xs ys : List Int) (i x : Int) (w : World) (h : Reads w u xs) (h' : Reads w v ys) (gx : xs.length ≤ 1099511627776) (gy : ys.length ≤ 1099511627776) :
    Calls Try.prog 18 #[.agg #[u, v], .int .i64 i, .int .i64 x] w fun e w' => ∃ a b, e = .returned (.tuple #[.agg #[a, b], .bool (wrB xs ys i x)]) ∧ OwnD w' w.heap.size a b (wrK xs ys) (wrN xs ys i x) ∧ Below w.heap.size w w' := by
  by_cases hb : bothOk xs ys = true
  · have hy := (bothOk_yes hb).2.1
    by_cases hp : placeOk ys i x = true
    · have e1 : wrB xs ys i x = true := by simp [wrB, hb, putB, hy, hp]
      have e2 : wrK xs ys = xs := by simp [wrK, hb]
      have e3 : wrN xs ys i x = ys.set i.toNat x := by simp [wrN, hb, putI, hy, hp]
      rw [e1, e2, e3]
      exact swritten_in u v xs ys i x w h h' gx gy hb hp
    · have hp' : placeOk ys i x = false := by simpa using hp
      have e1 : wrB xs ys i x = false := by simp [wrB, hb, putB, hy, hp']
      have e2 : wrK xs ys = xs := by simp [wrK, hb]
      have e3 : wrN xs ys i x = ys := by simp [wrN, hb, putI, hy, hp']
      rw [e1, e2, e3]
      exact swritten_out u v xs ys i x w h h' gx gy hb hp'
  · have hb' : bothOk xs ys = false := by simpa using hb
    have e1 : wrB xs ys i x = false := by simp [wrB, hb']
    have e2 : wrK xs ys = [] := by simp [wrK, hb']
    have e3 : wrN xs ys i x = [] := by simp [wrN, hb']
    rw [e1, e2, e3]
    obtain ⟨w2, hw2⟩ : ∃ w2, w2 = (w.alloc (.cells #[u, v] 26)).alloc (.cells #[.slice none 0 0, .slice none 0 0] 26) := ⟨_, rfl⟩
    have HB : Hid (Boxes w w2 u v) := by rw [hw2]; exact Boxes.start w u v
    have b2 := HB.out.2.2.1
    have c1 := sdiskOk_any u v xs ys w2 (h.below b2 (Nat.le_refl _)) (h'.below b2 (Nat.le_refl _)) gx gy
    rw [hb'] at c1
    clear hb hb' b2 e1 e2 e3 h h'
    go_enter Try.func18, Try.ntmps18
    go_wp2_with fail
    rw [← hw2]
    clear hw2
    refine c1.mono ?_
    rintro e w3 ⟨rfl, b3⟩
    replace HB : Hid (Boxes w w3 u v) := HB.out.below b3
    have p3 := HB.out.2.1
    clear b3 c1
    go_wp2_with (refine wpList_putP rfl _ _ rfl (w.heap.size + 1) _ _ _ _ rfl rfl rfl rfl p3 ?_; intro w5 p5 g5)
    refine bodyPost_ret (results_pair2 rfl _ _ (w.heap.size + 1) _ _ _ rfl rfl p5) rfl ?_
    exact ⟨_, _, rfl, ownNil2 _ _, HB.out.2.2.1.grown g5 HB.out.2.2.1.size (fun k e => by cases e; omega)⟩

theorem ownZeros (w : World) (base k : Nat) (h8 : k ≤ 8) (hb : base ≤ w.heap.size) : Own (w.alloc (.cells (madeCells #[Value.int .i64 0] k) 2)) base (.slice (some ⟨w.heap.size, 0, none⟩) k k) (List.replicate k 0) := by
  have hsz : (madeCells #[Value.int .i64 0] k).size = k := by
    have := congrArg List.length (zeros_eq k)
    simpa using this
  have := World.ownsRow_lit (base := base) (e := 2) (size := 1) w (madeCells #[Value.int .i64 0] k) k hb (by unfold maxLen; omega) (by rw [hsz]; omega)
  unfold Own
  rw [← zeros_eq, List.length_replicate]
  exact this

theorem twoZeros (w : World) (o : Obj) (k : Nat) (h8 : k ≤ 8) :
    Own ((((w.alloc o).alloc (.cells (madeCells #[.int .i64 0] k) 2)).alloc (.cells (madeCells #[.int .i64 0] k) 2)).drew) w.heap.size (.slice (some ⟨w.heap.size + 1, 0, none⟩) k k) (List.replicate k 0) ∧
    Own ((((w.alloc o).alloc (.cells (madeCells #[.int .i64 0] k) 2)).alloc (.cells (madeCells #[.int .i64 0] k) 2)).drew) w.heap.size (.slice (some ⟨w.heap.size + 1 + 1, 0, none⟩) k k) (List.replicate k 0) ∧
    Below w.heap.size w ((((w.alloc o).alloc (.cells (madeCells #[.int .i64 0] k) 2)).alloc (.cells (madeCells #[.int .i64 0] k) 2)).drew) := by
  refine ⟨?_, ?_, below_drewN ((((Below.refl _ _).alloc (Nat.le_refl _) _).alloc (by simp) _).alloc (by simp; omega) _) 1⟩
  · have := (ownZeros (w.alloc o) w.heap.size k h8 (by simp)).below (belowAlloc _ (.cells (madeCells #[.int .i64 0] k) 2))
    show Own (((w.alloc o).alloc _).alloc _) _ _ _
    simpa using this
  · have := (ownZeros ((w.alloc o).alloc (.cells (madeCells #[.int .i64 0] k) 2)) w.heap.size k h8 (by simp; omega))
    show Own (((w.alloc o).alloc _).alloc _) _ _ _
    simpa using this

set_option maxHeartbeats 2000000 in
theorem snewDisk_any (n : Int) (w : World) :
    Calls Try.prog 25 #[.int .i64 n] w fun e w' => ∃ a b, e = .returned (.tuple #[.agg #[a, b], .bool (cntOk n)]) ∧ OwnD w' w.heap.size a b (zerosI n) (zerosI n) ∧ Below w.heap.size w w' := by
  by_cases hc : cntOk n = true
  · obtain ⟨k, rfl⟩ : ∃ k : Nat, n = k := ⟨n.toNat, by simp [cntOk] at hc; omega⟩
    have h8 : (1 : Int) ≤ k ∧ (k : Int) ≤ 8 := by simp [cntOk] at hc; omega
    have HZ : Hid (zerosI k = List.replicate k 0) := by simp only [Hid, zerosI]; rw [if_pos (by omega)]; simp
    rw [hc]
    obtain ⟨h1, h8⟩ := h8
    have hm : ∀ w : World, (Instr.makeSlice 24 (.int .i64 (k : Int)) (.int .i64 (k : Int))).run Try.prog w = .ok (.slice (some ⟨w.heap.size, 0, none⟩) k k) (w.alloc (.cells (madeCells #[.int .i64 0] k) 2)) := fun w => run_make_row' 24 2 (.int .i64 0) 8 Try.underlying24 Try.infoI rfl .i64 .i64 k (by omega) (by omega) w
    clear hc
    go_enter Try.func25, Try.ntmps25
    go_wp2_with (go_at_call 54; go_in)
    go_region
    all_goals
      clear hm
      go_wp2_with fail
    · refine bodyPost_ret (results_pair2 rfl _ _ w.heap.size _ _ _ rfl rfl (((Pair.new w _ _ _).alloc _).alloc _)) rfl ?_
      have Z := twoZeros w (.cells #[.slice (some ⟨w.heap.size + 1, 0, none⟩) k k, .slice (some ⟨w.heap.size + 1 + 1, 0, none⟩) k k] 26) k (by omega)
      rw [HZ.out]
      exact ⟨_, _, rfl, ⟨Z.1, Z.2.1, .inr (by simp [Value.ownBlock]), .inr (by simp [Value.ownBlock])⟩, Z.2.2⟩
    · refine bodyPost_ret (results_pair2 rfl _ _ w.heap.size _ _ _ rfl rfl (((Pair.new w _ _ _).alloc _).alloc _)) rfl ?_
      have Z := twoZeros w (.cells #[.slice (some ⟨w.heap.size + 1 + 1, 0, none⟩) k k, .slice (some ⟨w.heap.size + 1, 0, none⟩) k k] 26) k (by omega)
      rw [HZ.out]
      exact ⟨_, _, rfl, ⟨Z.2.1, Z.1, .inr (by simp [Value.ownBlock]), .inr (by simp [Value.ownBlock])⟩, Z.2.2⟩
  · have hc' : cntOk n = false := by simpa using hc
    have HZ : Hid (zerosI n = []) := by simp [Hid, zerosI]; simp [cntOk] at hc'; omega
    have hn : ¬ 1 ≤ n ∨ ¬ n ≤ 8 := by simp [cntOk] at hc'; omega
    rw [hc']
    clear hc hc'
    have fin : ∀ w' : World, Below w.heap.size w w' → OwnD w' w.heap.size (.slice none 0 0) (.slice none 0 0) (zerosI n) (zerosI n) ∧ Below w.heap.size w w' := fun w' b => ⟨by rw [HZ.out]; exact ownNil2 _ _, b⟩
    rcases hn with hn | hn
    all_goals
      go_enter Try.func25, Try.ntmps25
      go_wp2_with (go_at_call 54; go_in)
      refine bodyPost_ret (results_pair2 rfl _ _ w.heap.size _ _ _ rfl rfl (Pair.new w _ _ _)) rfl ?_
      exact ⟨_, _, rfl, fin _ (belowAlloc w _)⟩
end Go.Proofs.Ythjgannjahcmiaa
