/- Disks: the model's NewDisk, Written, Flushed, Loose and Lost. -/
import Derived.Test.YtpdggofaobmnlaaM11
import Derived.Test.YtpdggofaobmnlaaM2
namespace Go.Proofs.Ytpdggofaobmnlaa
open Go.ChangeShapes Go.WideShapes Go.ChangeAt Go.RowKit

def wrK (xs ys : List Int) : List Int := if bothOk xs ys then xs else []
def wrN (xs ys : List Int) (i x : Int) : List Int := if bothOk xs ys then putI ys i x else []
def wrB (xs ys : List Int) (i x : Int) : Bool := bothOk xs ys && putB ys i x
def flN (xs ys : List Int) : List Int := if bothOk xs ys then ys else []
def loK (xs ys : List Int) (s : Int) : List Int := if bothOk xs ys then (if setOk s then chosenUp xs ys s 8 xs.length else xs) else []
def loN (xs ys : List Int) (s : Int) : List Int := if bothOk xs ys then (if setOk s then chosenUp xs ys s 8 xs.length else ys) else []

theorem wrK_len (xs ys : List Int) {n : Nat} (h : xs.length ≤ n) : (wrK xs ys).length ≤ n := by unfold wrK; split <;> simp [h]
theorem wrN_len (xs ys : List Int) (i x : Int) {n : Nat} (h : ys.length ≤ n) : (wrN xs ys i x).length ≤ n := by
  unfold wrN; split
  · exact putI_len ys i x h
  · simp
theorem loK_len (xs ys : List Int) (s : Int) {n : Nat} (h : xs.length ≤ n) : (loK xs ys s).length ≤ n := by
  unfold loK; split
  · split
    · rw [chosenUp_len]; exact h
    · exact h
  · simp
theorem loN_len (xs ys : List Int) (s : Int) {n : Nat} (h : xs.length ≤ n) (h' : ys.length ≤ n) : (loN xs ys s).length ≤ n := by
  unfold loN; split
  · split
    · rw [chosenUp_len]; exact h
    · exact h'
  · simp
theorem ownNil2 (w : World) (base : Nat) : OwnD w base (.slice none 0 0) (.slice none 0 0) [] [] := ⟨Own.nil w base, Own.nil w base, .inl rfl, .inl rfl⟩

set_option maxRecDepth 20000 in
set_option maxHeartbeats 1000000 in
theorem sflushed_any (u v : Value) (xs ys : List Int) (w : World) (h : Reads w u xs) (h' : Reads w v ys) (gx : xs.length ≤ 1099511627776) (gy : ys.length ≤ 1099511627776) :
    Calls Try.prog 17 #[.agg #[u, v]] w fun e w' => ∃ a b, e = .returned (.agg #[a, b]) ∧ OwnD w' w.heap.size a b (flN xs ys) (flN xs ys) ∧ Below w.heap.size w w' := by
  obtain ⟨w2, hw2⟩ : ∃ w2, w2 = (w.alloc (.cells #[u, v] 26)).alloc (.cells #[.slice none 0 0, .slice none 0 0] 26) := ⟨_, rfl⟩
  have HB : Hid (Boxes w w2 u v) := by rw [hw2]; exact Boxes.start w u v
  have c0 := HB.out.1
  have b2 := HB.out.2.2.1
  have c1 := sdiskOk_any u v xs ys w2 (h.below b2 (Nat.le_refl _)) (h'.below b2 (Nat.le_refl _)) gx gy
  by_cases hb : bothOk xs ys = true
  · have HD : Hid (flN xs ys = ys) := by simp [Hid, flN, hb]
    have c3 : ∀ w', Below w.heap.size w w' → _ := fun w' b => l3Flushed_any u v ys w' (h'.below b (Nat.le_refl _)) gy
    rw [hb] at c1
    clear b2 hb
    go_enter Try.func17, Try.ntmps17
    go_wp2_with fail
    rw [← hw2]
    clear hw2
    refine c1.mono ?_
    rintro e w3 ⟨rfl, b3⟩
    replace HB : Hid (Boxes w w3 u v) := HB.out.below b3
    have p3 := HB.out.1
    clear b3 c0 c1
    go_wp2_with (refine wpList_getP rfl _ rfl w.heap.size rfl _ _ p3 ?_)
    refine (c3 _ HB.out.2.2.1).mono ?_
    rintro e w4 ⟨a, b, rfl, o4, b4⟩
    have HS : Hid (w.heap.size + 2 ≤ w3.heap.size) := HB.out.2.2.2
    replace HB : Hid (Boxes w w4 u v) := HB.out.below b4
    have p4 := HB.out.2.1
    have ha1 := o4.1.reads.one
    have hb1 := o4.2.1.reads.one
    have HO : Hid (OwnD w4 w3.heap.size a b ys ys) := o4
    clear b4 o4 p3 c3
    go_wp2_with (refine wpList_putP rfl _ _ rfl (w.heap.size + 1) _ _ _ _ rfl rfl ha1 hb1 p4 ?_; intro w5 p5 g5)
    refine bodyPost_ret (results_pair rfl _ _ (w.heap.size + 1) _ _ rfl p5) rfl ?_
    rw [HD.out]
    exact ⟨_, _, rfl, HB.out.done g5 HO.out.1 HO.out.2.1 HS.out HS.out HO.out.2.2⟩
  · have hb' : bothOk xs ys = false := by simpa using hb
    have HD : Hid (flN xs ys = []) := by simp [Hid, flN, hb']
    rw [hb'] at c1
    clear b2 hb hb'
    go_enter Try.func17, Try.ntmps17
    go_wp2_with fail
    rw [← hw2]
    clear hw2
    refine c1.mono ?_
    rintro e w3 ⟨rfl, b3⟩
    replace HB : Hid (Boxes w w3 u v) := HB.out.below b3
    have p3 := HB.out.2.1
    clear b3 c0 c1
    go_wp2_with (refine wpList_putP rfl _ _ rfl (w.heap.size + 1) _ _ _ _ rfl rfl rfl rfl p3 ?_; intro w5 p5 g5)
    refine bodyPost_ret (results_pair rfl _ _ (w.heap.size + 1) _ _ rfl p5) rfl ?_
    rw [HD.out]
    exact ⟨_, _, rfl, ownNil2 _ _, HB.out.2.2.1.grown g5 HB.out.2.2.1.size (fun k e => by cases e; omega)⟩

theorem Boxes.kept {w wx wy : World} {u v : Value} {h : Nat} (H : Boxes w wx u v) (g : wx.grownBy wy (some h)) (hh : w.heap.size + 2 ≤ h) : Boxes w wy u v :=
  ⟨H.1.kept g (by simp; omega), H.2.1.kept g (by simp; omega), H.2.2.1.grown g H.2.2.1.size (fun k e => by cases e; omega), Nat.le_trans H.2.2.2 g.size⟩
theorem Own.keptNew {w w' : World} {base : Nat} {v : Value} {xs : List Int} (h : Own w base v xs) (g : w.grownBy w' (some w.heap.size)) : Own w' base v xs :=
  h.kept g (by
    by_cases e : v.ownBlock = none
    · exact .inl e
    · refine .inr fun e2 => ?_
      have := h.lt _ e2
      omega)
theorem Boxes.alloc {w wx : World} {u v : Value} (H : Boxes w wx u v) (o : Obj) : Boxes w (wx.alloc o) u v := H.below (belowAlloc wx o)

theorem Own.ltBlock {w : World} {base : Nat} {v : Value} {xs : List Int} {g n cap : Nat} (h : Own w base v xs) (e : v = .slice (some ⟨g, 0, none⟩) n cap) : base ≤ g ∧ g < w.heap.size := h.lt g (by rw [e]; rfl)

theorem Own.setApart {w : World} {base g j : Nat} {v u : Value} {xs : List Int} {n cap : Nat} (h : Own w base v xs) (x : Value) (e : u = .slice (some ⟨g, 0, none⟩) n cap) (ha : v.ownBlock = none ∨ v.ownBlock ≠ u.ownBlock) : Own (w.setCell ⟨g, j, none⟩ x) base v xs :=
  h.kept (grownSet w g j x) (by rw [e] at ha; exact ha)

set_option maxRecDepth 20000 in
set_option maxHeartbeats 1000000 in
theorem sl3Lost_any (u v : Value) (xs ys : List Int) (s : Int) (w : World) (h : Reads w u xs) (h' : Reads w v ys) (hb : bothOk xs ys = true) (h0 : 0 ≤ s) (h1 : s < 256) :
    Calls Try.prog 37 #[.agg #[u, v], .int .i64 s] w fun e w' => ∃ a b, e = .returned (.agg #[a, b]) ∧ OwnD w' w.heap.size a b (chosenUp xs ys s 8 xs.length) (chosenUp xs ys s 8 xs.length) ∧ Below w.heap.size w w' := by
  obtain ⟨w2, hw2⟩ : ∃ w2, w2 = (w.alloc (.cells #[u, v] 26)).alloc (.cells #[.slice none 0 0, .slice none 0 0] 26) := ⟨_, rfl⟩
  have HB : Hid (Boxes w w2 u v) := by rw [hw2]; exact Boxes.start w u v
  have b2 := HB.out.2.2.1
  obtain ⟨k1, k2, k3⟩ := bothOk_yes hb
  have hlen := blocksOk_len k1
  have c1 := sl2chosen_any u v xs ys s w2 (h.below b2 (Nat.le_refl _)) (h'.below b2 (Nat.le_refl _)) k3 hlen.1 hlen.2 h0 h1
  have hzl : (chosenUp xs ys s 8 xs.length).length ≤ 1099511627776 := by rw [chosenUp_len]; omega
  obtain ⟨zs, hz⟩ : ∃ zs, zs = chosenUp xs ys s 8 xs.length := ⟨_, rfl⟩
  rw [← hz] at c1 hzl ⊢
  clear hz h h' hb b2 k1 k2 k3 hlen h0 h1
  go_enter Try.func37, Try.ntmps37
  go_wp2_with fail
  rw [← hw2]
  clear hw2
  refine c1.mono ?_
  rintro e w3 ⟨a, rfl, o3, b3⟩
  have HS : Hid (w.heap.size + 2 ≤ w2.heap.size ∧ w2.heap.size ≤ w3.heap.size) := ⟨HB.out.2.2.2, b3.size⟩
  replace HB : Hid (Boxes w w3 u v) := HB.out.below b3
  clear b3 c1
  go_wp2_with fail
  refine (copy_any a zs w3 o3.reads hzl).mono ?_
  rintro e w4 ⟨b, rfl, o4, b4⟩
  have hap := apart_of o3 o4 (Nat.le_refl _)
  replace o3 := o3.below b4
  replace HB : Hid (Boxes w w4 u v) := HB.out.below b4
  have p4 := HB.out.2.1
  obtain ⟨ao, ca, hea⟩ := o3.reads.form
  obtain ⟨bo, cb, heb⟩ := o4.reads.form
  subst hea heb
  have HO : Hid (Own w4 w2.heap.size _ zs ∧ Own w4 w3.heap.size _ zs ∧ apart _ _) := ⟨o3, o4, hap⟩
  clear b4 o4 o3 hap
  go_wp2_with (refine wpList_putP rfl _ _ rfl (w.heap.size + 1) _ _ _ _ rfl rfl rfl rfl p4 ?_; intro w5 p5 g5)
  refine bodyPost_ret (results_pair rfl _ _ (w.heap.size + 1) _ _ rfl p5) rfl ?_
  exact ⟨_, _, rfl, HB.out.done g5 HO.out.1 HO.out.2.1 HS.out.1 (Nat.le_trans HS.out.1 HS.out.2) HO.out.2.2⟩

set_option maxRecDepth 20000 in
set_option maxHeartbeats 1000000 in
theorem slost_any (u v : Value) (xs ys : List Int) (s : Int) (w : World) (h : Reads w u xs) (h' : Reads w v ys) (gx : xs.length ≤ 1099511627776) (gy : ys.length ≤ 1099511627776) :
    Calls Try.prog 21 #[.agg #[u, v], .int .i64 s] w fun e w' => ∃ a b, e = .returned (.agg #[a, b]) ∧ OwnD w' w.heap.size a b (loK xs ys s) (loN xs ys s) ∧ Below w.heap.size w w' := by
  obtain ⟨w2, hw2⟩ : ∃ w2, w2 = (w.alloc (.cells #[u, v] 26)).alloc (.cells #[.slice none 0 0, .slice none 0 0] 26) := ⟨_, rfl⟩
  have HB : Hid (Boxes w w2 u v) := by rw [hw2]; exact Boxes.start w u v
  have b2 := HB.out.2.2.1
  have c1 := sdiskOk_any u v xs ys w2 (h.below b2 (Nat.le_refl _)) (h'.below b2 (Nat.le_refl _)) gx gy
  have c2 : ∀ w', _ := fun w' => sset_any s w'
  clear b2
  by_cases hb : bothOk xs ys = true
  · rw [hb] at c1
    by_cases hs : setOk s = true
    · have HD : Hid (loK xs ys s = chosenUp xs ys s 8 xs.length ∧ loN xs ys s = chosenUp xs ys s 8 xs.length) := by simp [Hid, loK, loN, hb, hs]
      have c3 : ∀ w', Below w.heap.size w w' → _ := fun w' b => sl3Lost_any u v xs ys s w' (h.below b (Nat.le_refl _)) (h'.below b (Nat.le_refl _)) hb (setOk_bd hs).1 (setOk_bd hs).2
      rw [hs] at c2
      clear hb hs h h'
      go_enter Try.func21, Try.ntmps21
      go_wp2_with fail
      rw [← hw2]
      clear hw2
      refine c1.mono ?_
      rintro e w3 ⟨rfl, b3⟩
      replace HB : Hid (Boxes w w3 u v) := HB.out.below b3
      have p3 := HB.out.1
      clear b3 c1
      go_wp2_with fail
      refine (c2 w3).mono ?_
      rintro e w' ⟨rfl, hw⟩; subst w'
      go_wp2_with (refine wpList_getP rfl _ rfl w.heap.size rfl _ _ p3 ?_)
      refine (c3 _ HB.out.2.2.1).mono ?_
      rintro e w4 ⟨a, b, rfl, o4, b4⟩
      have HS : Hid (w.heap.size + 2 ≤ w3.heap.size) := HB.out.2.2.2
      replace HB : Hid (Boxes w w4 u v) := HB.out.below b4
      have p4 := HB.out.2.1
      have ha1 := o4.1.reads.one
      have hb1 := o4.2.1.reads.one
      have HO : Hid (OwnD w4 w3.heap.size a b _ _) := o4
      clear b4 o4 p3 c3 c2
      go_wp2_with (refine wpList_putP rfl _ _ rfl (w.heap.size + 1) _ _ _ _ rfl rfl ha1 hb1 p4 ?_; intro w5 p5 g5)
      refine bodyPost_ret (results_pair rfl _ _ (w.heap.size + 1) _ _ rfl p5) rfl ?_
      rw [HD.out.1, HD.out.2]
      exact ⟨_, _, rfl, HB.out.done g5 HO.out.1 HO.out.2.1 HS.out HS.out HO.out.2.2⟩
    · have hs' : setOk s = false := by simpa using hs
      have HD : Hid (loK xs ys s = xs ∧ loN xs ys s = ys) := by simp [Hid, loK, loN, hb, hs']
      have c3 : ∀ w', Below w.heap.size w w' → _ := fun w' b => l3Copy_any u v xs ys w' (h.below b (Nat.le_refl _)) (h'.below b (Nat.le_refl _)) gx gy
      rw [hs'] at c2
      clear hb hs hs' h h'
      go_enter Try.func21, Try.ntmps21
      go_wp2_with fail
      rw [← hw2]
      clear hw2
      refine c1.mono ?_
      rintro e w3 ⟨rfl, b3⟩
      replace HB : Hid (Boxes w w3 u v) := HB.out.below b3
      have p3 := HB.out.1
      clear b3 c1
      go_wp2_with fail
      refine (c2 w3).mono ?_
      rintro e w' ⟨rfl, hw⟩; subst w'
      go_wp2_with (refine wpList_getP rfl _ rfl w.heap.size rfl _ _ p3 ?_)
      refine (c3 _ HB.out.2.2.1).mono ?_
      rintro e w4 ⟨a, b, rfl, o4, b4⟩
      have HS : Hid (w.heap.size + 2 ≤ w3.heap.size) := HB.out.2.2.2
      replace HB : Hid (Boxes w w4 u v) := HB.out.below b4
      have p4 := HB.out.2.1
      have ha1 := o4.1.reads.one
      have hb1 := o4.2.1.reads.one
      have HO : Hid (OwnD w4 w3.heap.size a b _ _) := o4
      clear b4 o4 p3 c3 c2
      go_wp2_with (refine wpList_putP rfl _ _ rfl (w.heap.size + 1) _ _ _ _ rfl rfl ha1 hb1 p4 ?_; intro w5 p5 g5)
      refine bodyPost_ret (results_pair rfl _ _ (w.heap.size + 1) _ _ rfl p5) rfl ?_
      rw [HD.out.1, HD.out.2]
      exact ⟨_, _, rfl, HB.out.done g5 HO.out.1 HO.out.2.1 HS.out HS.out HO.out.2.2⟩
  · have hb' : bothOk xs ys = false := by simpa using hb
    have HD : Hid (loK xs ys s = [] ∧ loN xs ys s = []) := by simp [Hid, loK, loN, hb']
    rw [hb'] at c1
    clear hb hb' c2
    go_enter Try.func21, Try.ntmps21
    go_wp2_with fail
    rw [← hw2]
    clear hw2
    refine c1.mono ?_
    rintro e w3 ⟨rfl, b3⟩
    replace HB : Hid (Boxes w w3 u v) := HB.out.below b3
    have p3 := HB.out.2.1
    clear b3 c1
    go_wp2_with (refine wpList_putP rfl _ _ rfl (w.heap.size + 1) _ _ _ _ rfl rfl rfl rfl p3 ?_; intro w5 p5 g5)
    refine bodyPost_ret (results_pair rfl _ _ (w.heap.size + 1) _ _ rfl p5) rfl ?_
    rw [HD.out.1, HD.out.2]
    exact ⟨_, _, rfl, ownNil2 _ _, HB.out.2.2.1.grown g5 HB.out.2.2.1.size (fun k e => by cases e; omega)⟩
end Go.Proofs.Ytpdggofaobmnlaa
