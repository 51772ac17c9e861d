/- The program's Lost. -/
import Derived.Test.YtlkkpolnllbljaaGreatDoorM23
import Derived.Test.YtlkkpolnllbljaaGreatDoorM17
import Derived.Test.YtlkkpolnllbljaaGreatDoorM11
import Derived.Test.YtlkkpolnllbljaaGreatDoorM3
import Derived.Test.YtlkkpolnllbljaaGreatDoorM15
import Derived.Test.YtlkkpolnllbljaaGreatDoorM14
import Derived.ArgAppend
namespace Go.Proofs.YtlkkpolnllbljaaGreatDoor
open Go.ChangeShapes Go.WideShapes Go.ChangeAt Go.RowKit

theorem Pair.drew {w : World} {g : Nat} {t : TypeId} {u v : Value} (h : Pair w g t u v) : Pair w.drew g t u v := h
theorem OwnD.drew {w : World} {base : Nat} {u v : Value} {xs ys : List Int} (h : OwnD w base u v xs ys) : OwnD w.drew base u v xs ys := h
theorem OwnD.below {w w' : World} {base : Nat} {u v : Value} {xs ys : List Int} (h : OwnD w base u v xs ys) (b : Below w.heap.size w w') : OwnD w' base u v xs ys := ⟨h.1.below b, h.2.1.below b, h.2.2⟩

/- The state in the midst: the boxes, and the copy of the disk at block h. -/
def Mid (w wx : World) (u v : Value) (h base : Nat) (a b : Value) (xs ys : List Int) : Prop := Boxes w wx u v ∧ Pair wx h 36 a b ∧ OwnD wx base a b xs ys
theorem Mid.below {w wx wy : World} {u v a b : Value} {h base : Nat} {xs ys : List Int} (m : Mid w wx u v h base a b xs ys) (k : Below wx.heap.size wx wy) : Mid w wy u v h base a b xs ys :=
  ⟨m.1.below k, m.2.1.below k, m.2.2.below k⟩
theorem Mid.drew {w wx : World} {u v a b : Value} {h base : Nat} {xs ys : List Int} (m : Mid w wx u v h base a b xs ys) : Mid w wx.drew u v h base a b xs ys := ⟨m.1.drew, m.2.1, m.2.2⟩

theorem Mid.copy0 {w wx wy : World} {u v a b : Value} {h base : Nat} {xs ys zs : List Int} (m : Mid w wx u v h base a b xs ys) (o : Own wy base a zs) (g : wx.grownBy wy a.ownBlock) (hb : w.heap.size + 2 ≤ base) (hh : ∀ k, a.ownBlock = some k → k ≠ h) (h1 : 1 ≤ xs.length) : Mid w wy u v h base a b zs ys := by
  obtain ⟨k, ca, hea, _⟩ := World.ownsRow.form m.2.2.1 h1
  have hab : a.ownBlock = some k := by rw [hea]; rfl
  have hk := (m.2.2.1.lt k hab).1
  have hap := m.2.2.2.2.2
  rw [hab] at g hap
  exact ⟨m.1.kept g (by omega), m.2.1.kept g (by have := hh k hab; simp; omega), o, m.2.2.2.1.kept g hap, m.2.2.2.2⟩
theorem Mid.copy1 {w wx wy : World} {u v a b : Value} {h base : Nat} {xs ys zs : List Int} (m : Mid w wx u v h base a b xs ys) (o : Own wy base b zs) (g : wx.grownBy wy b.ownBlock) (hb : w.heap.size + 2 ≤ base) (hh : ∀ k, b.ownBlock = some k → k ≠ h) (h1 : 1 ≤ ys.length) : Mid w wy u v h base a b xs zs := by
  obtain ⟨k, cb, heb, _⟩ := World.ownsRow.form m.2.2.2.1 h1
  have hab : b.ownBlock = some k := by rw [heb]; rfl
  have hk := (m.2.2.2.1.lt k hab).1
  have hap := m.2.2.2.2.1
  rw [hab] at g hap
  exact ⟨m.1.kept g (by omega), m.2.1.kept g (by have := hh k hab; simp; omega), m.2.2.1.kept g hap, o, m.2.2.2.2⟩
end Go.Proofs.YtlkkpolnllbljaaGreatDoor
/- Holdings by the program, on: Holds, May, a new holding. -/
namespace Go.Proofs.YtlkkpolnllbljaaGreatDoor
open Go.ChangeShapes Go.WideShapes Go.ChangeAt Go.RowKit

theorem holdsF_ok {h : Hd} (hk : h.ok = true) (i : Int) : holdsF (KF h.ks) h.kd h.ho i = (inI i 0 3 && h.holds i) := by
  have hm : h.mid = true := by
    unfold Hd.ok at hk
    simp only [Bool.and_eq_true] at hk
    exact hk.2
  unfold holdsF Hd.holds
  rw [show decide (KF h.ks i.toNat ≠ 0) = regI h.ks i from rfl]
  unfold Hd.mid at hm
  cases hin : inI i 0 3
  · simp
  · have hi : 0 ≤ i ∧ i ≤ 3 := by simpa [inI] using hin
    simp only [Bool.true_and]
    by_cases h0 : h.kd = 0
    · rw [if_pos h0] at hm
      have ho : h.ho = -1 := by simpa using hm
      rw [h0, ho]
      simp [show allI 0 = false from rfl]
      intro _; omega
    · rw [if_neg h0] at hm
      cases ha : allI h.kd
      · rw [ha] at hm
        simp only [Bool.false_eq_true, if_false, Bool.and_eq_true] at hm
        by_cases he : i = h.ho
        · subst he
          simp [h0, hm.2]
        · simp [he, Ne.symm he]
      · rw [ha] at hm
        simp only [if_true, Bool.and_eq_true, decide_eq_true_eq] at hm
        have : h.ho ≠ i := by omega
        simp [h0, this]

theorem heA_S {w : World} {g : Nat} {f : Nat → Int} {kd ho tu : Int} {w' : World} {B : Nat} (h : Hid (StB w g 171 (heA f kd ho tu))) (hb : Below B w w') (e : B = w.heap.size) : Hid (StB w' g 171 (heA f kd ho tu)) := by subst e; exact h.out.below hb
theorem HB_next {w w3 w4 : World} (h : Hid (Below w.heap.size w w3)) (b : Below w3.heap.size w3 w4) : Hid (Below w.heap.size w w4) := h.out.trans (b.mono h.out.size)

set_option maxRecDepth 20000 in
set_option maxHeartbeats 4000000 in
theorem iMay_any (v : Value) (h : Hd) (i : Int) (b : Bool) (w : World) (hr : Reads w v h.ks) (hl : h.ks.length ≤ 1099511627776) :
    Calls Tryz.prog 200 #[HV v h, .int .i64 i, .bool b] w fun e w' => e = .returned (.bool (h.May i b)) ∧ Below w.heap.size w w' := by
  have b1 : Below w.heap.size w (w.alloc (.cells (hdA v h) 37)) := (Below.refl _ _).alloc (Nat.le_refl _) _
  have c1 := iheldof_any v h _ (hr.below b1 (Nat.le_refl _)) hl
  obtain ⟨ao, cap, rfl⟩ := reads_form hr
  obtain ⟨f, x, y, z, hf, hfo⟩ := heldV_form h
  have c2 := fun wx => iheldholds_any f x y z i wx
  have c3 := fun wx => iregd_any f i wx
  have c4 := fun wx => iperson_any i wx
  have c5 := fun wx => imay_any x b (holdsF f x y i) (inI i 0 3 && decide (f i.toNat ≠ 0)) wx
  have HE : Hid (h.May i b = (h.ok && (inI i 0 3 && mayI x b (holdsF f x y i) (inI i 0 3 && decide (f i.toNat ≠ 0))))) := by
    unfold Hd.May
    rw [Hid]
    cases hk : h.ok
    · simp
    · rw [(hfo hk).1, (hfo hk).2.1, (hfo hk).2.2.1, holdsF_ok hk]
      cases inI i 0 3
      · simp
      · rfl
  obtain ⟨ok, hok⟩ : ∃ ok, ok = h.ok := ⟨_, rfl⟩
  obtain ⟨r, hr'⟩ : ∃ r, r = h.May i b := ⟨_, rfl⟩
  rw [← hok] at c1 HE
  rw [← hr'] at HE ⊢
  rw [hf] at c1
  obtain ⟨q1, hq1⟩ : ∃ q1, q1 = holdsF f x y i := ⟨_, rfl⟩
  obtain ⟨q2, hq2⟩ : ∃ q2, q2 = (inI i 0 3 && decide (f i.toNat ≠ 0)) := ⟨_, rfl⟩
  simp only [← hq1, ← hq2] at c2 c3 c5 HE
  obtain ⟨q3, hq3⟩ : ∃ q3, q3 = mayI x b q1 q2 := ⟨_, rfl⟩
  obtain ⟨q4, hq4⟩ : ∃ q4, q4 = inI i 0 3 := ⟨_, rfl⟩
  simp only [← hq3, ← hq4] at c5 c4 HE
  clear hok hf hfo hr hl hr' hq1 hq2 hq3 hq4
  unfold HV hdA at *
  go_enter Tryz.func200, Tryz.ntmps200
  go_wp2_with fail
  refine c1.mono ?_
  rintro e w2 ⟨rfl, b2⟩
  have HB2 : Hid (Below w.heap.size w w2) := b1.trans (b2.mono b1.size)
  have z2 : Hid (StB (w2.alloc (.cells (heA (fun _ => 0) 0 0 0) 171)) w2.heap.size 171 (heA (fun _ => 0) 0 0 0)) := StB.new _ _ _
  clear c1 b1 b2
  go_upto_region 2 with (first | (refine wpList_putS Tryz.isHeld rfl _ _ rfl w2.heap.size (heA f x y z) _ rfl rfl rfl rfl (heA_one _ _ _ _) z2.out ?_; intro w3 h3 g3))
  have HB3 : Hid (Below w.heap.size w w3) := HB2.out.trans (((Below.refl _ _).alloc (Nat.le_refl _) _ |>.grown g3 (by simp) (fun k e => by cases e; exact Nat.le_refl _)).mono HB2.out.size)
  have H3 : Hid (StB w3 w2.heap.size 171 (heA f x y z)) := h3
  obtain ⟨m0, m1, m2, m3, m4, m5, m6⟩ := heA_cells h3
  obtain ⟨g, hg⟩ : ∃ g, g = w2.heap.size := ⟨_, rfl⟩
  rw [← hg] at m0 m1 m2 m3 m4 m5 m6 H3 ⊢
  clear HB2 z2 g3 h3 hg
  unfold heA at c2
  unfold kA at c3
  cases ok with
  | false =>
    clear c2 c3 c4 c5
    go_quiet (fail)
    go_wp2
    go_ret
    exact ⟨ret_bool (by rw [HE.out]; simp), below_drewN HB3.out _⟩
  | true =>
    cases q4 with
    | false =>
      clear c2 c3 c5
      go_quiet ((go_at_call 26; exact Calls.quiet_of_same (c4 _)))
      go_wp2
      go_ret
      exact ⟨ret_bool (by rw [HE.out]; simp), below_drewN HB3.out _⟩
    | true =>
      have HD3 : Hid (Below w.heap.size w w3.drew) := HB3.out.drew
      have HH3 : Hid (StB w3.drew g 171 (heA f x y z)) := H3.out
      clear HB3 H3
      go_region_held3 (fun w' => w'.cell? ⟨g, 0, none⟩ = some (.int .i64 (f 0)) ∧ w'.cell? ⟨g, 1, none⟩ = some (.int .i64 (f 1)) ∧ w'.cell? ⟨g, 2, none⟩ = some (.int .i64 (f 2)) ∧ w'.cell? ⟨g, 3, none⟩ = some (.int .i64 (f 3)) ∧ w'.cell? ⟨g, 4, none⟩ = some (.int .i64 x) ∧ w'.cell? ⟨g, 5, none⟩ = some (.int .i64 y) ∧ w'.cell? ⟨g, 6, none⟩ = some (.int .i64 z)) (refine ⟨?_, ?_, ?_, ?_, ?_, ?_, ?_⟩ <;> assumption)
        (first
          | (go_at_call 26; refine (c4 _).mono ?_; rintro e w' ⟨rfl, hw⟩; subst w')
          | (go_at_call 232; refine (c2 _).mono ?_; rintro e w4 ⟨rfl, b4⟩; have HB4 := HB_next HD3 b4; have H4 := heA_S HH3 b4 rfl; obtain ⟨n0, n1, n2, n3, n4, n5, n6⟩ := heA_cells H4.out; clear b4)
          | (go_at_call 223; refine (c3 _).mono ?_; rintro e w5 ⟨rfl, b5⟩; have HB5 := HB_next HB4 b5; have H5 := heA_S H4 b5 rfl; obtain ⟨o0, o1, o2, o3, o4, o5, o6⟩ := heA_cells H5.out; clear b5)
          | (go_at_call 231; refine (c5 _).mono ?_; rintro e w6 ⟨rfl, b6⟩; have HB6 := HB_next HB5 b6; have H6 := heA_S H5 b6 rfl; obtain ⟨u0, u1, u2, u3, u4, u5, u6⟩ := heA_cells H6.out; clear b6))
      go_wp2
      go_ret
      exact ⟨ret_bool (by rw [HE.out]; simp), HB6.out⟩
end Go.Proofs.YtlkkpolnllbljaaGreatDoor
/- Holdings by the program, on: a new holding. -/
namespace Go.Proofs.YtlkkpolnllbljaaGreatDoor
open Go.ChangeShapes Go.WideShapes Go.ChangeAt Go.RowKit

theorem ilistK4_any (f : Nat → Int) (w : World) :
    Calls Tryz.prog 284 #[.agg (kA f)] w fun e w' => ∃ ao cap, e = .returned (.slice ao 4 cap) ∧ Own w' w.heap.size (.slice ao 4 cap) (listK f) ∧ Below w.heap.size w w' := by
  refine (ilistK_any f w).mono ?_
  rintro e w' ⟨u, rfl, o, b⟩
  obtain ⟨ao, cap, rfl⟩ := reads_form o.reads
  exact ⟨ao, cap, rfl, o, b⟩

theorem cell_put4 {w : World} {g k : Nat} (hne : g ≠ k) {j : Nat} {a b c d x : Value} (h : w.cell? ⟨g, j, none⟩ = some x) :
    ((((w.setCell ⟨k, 0, none⟩ a).setCell ⟨k, 1, none⟩ b).setCell ⟨k, 2, none⟩ c).setCell ⟨k, 3, none⟩ d).cell? ⟨g, j, none⟩ = some x := by
  rw [World.cell?_setCell_far _ _ _ _ (Ne.symm hne), World.cell?_setCell_far _ _ _ _ (Ne.symm hne), World.cell?_setCell_far _ _ _ _ (Ne.symm hne), World.cell?_setCell_far _ _ _ _ (Ne.symm hne), h]

set_option maxRecDepth 20000 in
set_option maxHeartbeats 600000 in
theorem iholding_any (f : Nat → Int) (kd ho tu : Int) (w : World) :
    Calls Tryz.prog 266 #[.agg (heA f kd ho tu)] w fun e w' => ∃ u, e = .returned (HV u ⟨listK f, kd, ho, tu⟩) ∧ Own w' w.heap.size u (listK f) ∧ Below w.heap.size w w' := by
  obtain ⟨w1, hw1⟩ : ∃ w1, w1 = (w.alloc (.cells (heA f kd ho tu) 171)).alloc (.cells #[.slice none 0 0, .int .i64 0, .int .i64 0, .int .i64 0] 37) := ⟨_, rfl⟩
  have HB : Hid (Below w.heap.size w w1.drew) := by rw [hw1]; exact (((Below.refl _ _).alloc (Nat.le_refl _) _).alloc (by simp) _).drew
  have H1 : Hid (StB w1 w.heap.size 171 (heA f kd ho tu)) := by rw [hw1]; exact (StB.new _ _ _).alloc _
  have HH1 : Hid (StB w1.drew w.heap.size 171 (heA f kd ho tu)) := H1.out
  have R1 : Hid (StB w1.drew (w.heap.size + 1) 37 #[.slice none 0 0, .int .i64 0, .int .i64 0, .int .i64 0]) := by
    rw [hw1]
    have := StB.new (w.alloc (.cells (heA f kd ho tu) 171)) 37 #[.slice none 0 0, .int .i64 0, .int .i64 0, .int .i64 0]
    rw [World.size_alloc] at this
    exact this
  obtain ⟨m0, m1, m2, m3, m4, m5, m6⟩ := heA_cells H1.out
  have c1 := fun wx => ilistK4_any f wx
  have hs : w.heap.size + 1 < w1.drew.heap.size := R1.out.lt
  clear H1
  unfold heA at hw1 ⊢
  unfold kA at c1
  go_enter Tryz.func266, Tryz.ntmps266
  go_upto_region 1 with fail
  rw [← hw1]
  obtain ⟨k, hk⟩ : ∃ k, k = w.heap.size + 1 := ⟨_, rfl⟩
  rw [← hk] at R1 hs ⊢
  have hne : w.heap.size ≠ k := by omega
  have HK : Hid (k = w.heap.size + 1) := hk
  obtain ⟨g, hg⟩ : ∃ g, g = w.heap.size := ⟨_, rfl⟩
  rw [← hg] at m0 m1 m2 m3 m4 m5 m6 HH1 hne ⊢
  have HG : Hid (g = w.heap.size) := hg
  have HS : Hid (k < w1.drew.heap.size) := hs
  obtain ⟨d0, d1, d2, d3, d4, d5, d6⟩ := heA_cells HH1.out
  clear hw1 hk hg hs
  go_region_held3 (fun w' => w'.cell? ⟨g, 0, none⟩ = some (.int .i64 (f 0)) ∧ w'.cell? ⟨g, 1, none⟩ = some (.int .i64 (f 1)) ∧ w'.cell? ⟨g, 2, none⟩ = some (.int .i64 (f 2)) ∧ w'.cell? ⟨g, 3, none⟩ = some (.int .i64 (f 3)) ∧ w'.cell? ⟨g, 4, none⟩ = some (.int .i64 kd) ∧ w'.cell? ⟨g, 5, none⟩ = some (.int .i64 ho) ∧ w'.cell? ⟨g, 6, none⟩ = some (.int .i64 tu)) (refine ⟨?_, ?_, ?_, ?_, ?_, ?_, ?_⟩ <;> first | with_reducible assumption | (with_reducible refine cell_put4 hne ?_; with_reducible assumption))
    (first
      | (go_at_call 284; refine (c1 _).mono ?_; rintro e w2 ⟨ao, cap, rfl, o2, b2⟩; have HB2 := HB_next HB b2; have H2 := heA_S HH1 b2 rfl; have R2 : Hid (StB w2 k 37 #[.slice none 0 0, .int .i64 0, .int .i64 0, .int .i64 0]) := R1.out.below b2; have O2 : Hid (Own w2 w1.drew.heap.size (.slice ao 4 cap) (listK f)) := o2; obtain ⟨n0, n1, n2, n3, n4, n5, n6⟩ := heA_cells H2.out; clear b2 o2; have q0 : w2.cell? ⟨k, 0, none⟩ = some (.slice none 0 0) := R2.out.cell 0 rfl; have q1 : w2.cell? ⟨k, 1, none⟩ = some (.int .i64 0) := R2.out.cell 1 rfl; have q2 : w2.cell? ⟨k, 2, none⟩ = some (.int .i64 0) := R2.out.cell 2 rfl; have q3 : w2.cell? ⟨k, 3, none⟩ = some (.int .i64 0) := R2.out.cell 3 rfl; have f0 := R2.out.frozen 0; have f1 := R2.out.frozen 1; have f2 := R2.out.frozen 2; have f3 := R2.out.frozen 3))
  have SE := (((R2.out.put 0 (.slice ao 4 cap) rfl).put 1 (.int .i64 kd) rfl).put 2 (.int .i64 ho) rfl).put 3 (.int .i64 tu) (ds := hdA (.slice ao 4 cap) ⟨listK f, kd, ho, tu⟩) rfl
  have GE := (((grownSet w2 k 0 (.slice ao 4 cap)).trans (grownSet _ k 1 (.int .i64 kd))).trans (grownSet _ k 2 (.int .i64 ho))).trans (grownSet _ k 3 (.int .i64 tu))
  have HF : Hid (_ ∧ _) := ⟨SE, GE⟩
  clear SE GE H2 R2 n0 n1 n2 n3 n4 n5 n6 q0 q1 q2 q3 f0 f1 f2 f3 d0 d1 d2 d3 d4 d5 d6 m0 m1 m2 m3 m4 m5 m6
  go_wp2
  refine bodyPost_ret (results_S Tryz.isH rfl _ _ k _ rfl rfl HF.out.1) rfl ?_
  have h1 := HB.out.size
  have h2 := HK.out
  exact ⟨_, rfl, (O2.out.keptLt HF.out.2 HS.out).mono h1, HB2.out.grown HF.out.2 HB2.out.size (fun x e => by cases e; omega)⟩
end Go.Proofs.YtlkkpolnllbljaaGreatDoor
/- What a region keeps that stores into one block alone: every cell of the others. -/
namespace Go.Proofs.YtlkkpolnllbljaaGreatDoor
open Go.ChangeShapes Go.WideShapes Go.ChangeAt Go.RowKit

theorem bl_size {w wx : World} (h : Below w.heap.size w wx) : w.heap.size ≤ wx.heap.size := h.size
def Sp (g : Nat) (w1 w' : World) : Prop := ∀ a x, a.block ≠ g → w1.cell? a = some x → w'.cell? a = some x
theorem Sp.refl (g : Nat) (w1 : World) : Sp g w1 w1 := fun _ _ _ h => h
theorem Sp.dr {g : Nat} {w1 wx : World} (h : Sp g w1 wx) : Sp g w1 wx.drew := h
theorem Sp.bel {g : Nat} {w1 wx wy : World} (h : Sp g w1 wx) (b : Below wx.heap.size wx wy) : Sp g w1 wy := fun a x h1 h3 => later_cell (h a x h1 h3) b
theorem Sp.al {g : Nat} {w1 wx : World} {o : Obj} (h : Sp g w1 wx) : Sp g w1 (wx.alloc o) := h.bel ((Below.refl _ _).alloc (Nat.le_refl _) _)
theorem Sp.put {g : Nat} {w1 wx wy : World} (h : Sp g w1 wx) (e : wx.grownBy wy (some g)) : Sp g w1 wy := fun a x h1 h3 => e.cell (h a x h1 h3) (by simpa using h1)
theorem Sp.set {g : Nat} {w1 wx : World} {j : Nat} {v : Value} (h : Sp g w1 wx) : Sp g w1 (wx.setCell ⟨g, j, none⟩ v) := h.put (grownSet wx g j v)
/- The same of two blocks. -/
def Sd (g k : Nat) (w1 w' : World) : Prop := ∀ a x, a.block ≠ g → a.block ≠ k → w1.cell? a = some x → w'.cell? a = some x
theorem Sd.refl (g k : Nat) (w1 : World) : Sd g k w1 w1 := fun _ _ _ _ h => h
theorem Sd.dr {g k : Nat} {w1 wx : World} (h : Sd g k w1 wx) : Sd g k w1 wx.drew := h
theorem Sd.bel {g k : Nat} {w1 wx wy : World} (h : Sd g k w1 wx) (b : Below wx.heap.size wx wy) : Sd g k w1 wy := fun a x h1 h2 h3 => later_cell (h a x h1 h2 h3) b
theorem Sd.al {g k : Nat} {w1 wx : World} {o : Obj} (h : Sd g k w1 wx) : Sd g k w1 (wx.alloc o) := h.bel ((Below.refl _ _).alloc (Nat.le_refl _) _)
theorem Sd.put1 {g k : Nat} {w1 wx wy : World} (h : Sd g k w1 wx) (e : wx.grownBy wy (some g)) : Sd g k w1 wy := fun a x h1 h2 h3 => e.cell (h a x h1 h2 h3) (by simpa using h1)
theorem Sd.put2 {g k : Nat} {w1 wx wy : World} (h : Sd g k w1 wx) (e : wx.grownBy wy (some k)) : Sd g k w1 wy := fun a x h1 h2 h3 => e.cell (h a x h1 h2 h3) (by simpa using h2)
theorem Sd.set1 {g k : Nat} {w1 wx : World} {j : Nat} {v : Value} (h : Sd g k w1 wx) : Sd g k w1 (wx.setCell ⟨g, j, none⟩ v) := h.put1 (grownSet wx g j v)
theorem Sd.set2 {g k : Nat} {w1 wx : World} {j : Nat} {v : Value} (h : Sd g k w1 wx) : Sd g k w1 (wx.setCell ⟨k, j, none⟩ v) := h.put2 (grownSet wx k j v)
end Go.Proofs.YtlkkpolnllbljaaGreatDoor
/- The model's store, on: l12Copy. -/
namespace Go.Proofs.YtlkkpolnllbljaaGreatDoor
open Go.ChangeShapes Go.WideShapes Go.ChangeAt Go.RowKit

/- The six cells of a store put one by one. -/
def put6 (w : World) (g : Nat) (a b k : Value) (h : Hd) : World :=
  (((((w.setCell ⟨g, 0, none⟩ a).setCell ⟨g, 1, none⟩ b).setCell ⟨g, 2, none⟩ k).setCell ⟨g, 3, none⟩ (.int .i64 h.kd)).setCell ⟨g, 4, none⟩ (.int .i64 h.ho)).setCell ⟨g, 5, none⟩ (.int .i64 h.tu)
theorem put6_st {w : World} {g : Nat} {t : TypeId} {c0 c1 c2 c3 c4 c5 : Value} (a b k : Value) (h : Hd) (s : StB w g t #[c0, c1, c2, c3, c4, c5]) : StB (put6 w g a b k h) g t (srA a b k h) :=
  (((((s.put 0 _ rfl).put 1 _ rfl).put 2 _ rfl).put 3 _ rfl).put 4 _ rfl).put 5 _ rfl
theorem put6_grown (w : World) (g : Nat) (a b k : Value) (h : Hd) : w.grownBy (put6 w g a b k h) (some g) :=
  (((((grownSet _ _ _ _).trans (grownSet _ _ _ _)).trans (grownSet _ _ _ _)).trans (grownSet _ _ _ _)).trans (grownSet _ _ _ _)).trans (grownSet _ _ _ _)

set_option maxRecDepth 20000 in
set_option maxHeartbeats 2000000 in
theorem s12copy_any (u v q : Value) (xs ys : List Int) (h : Hd) (w : World) (hu : Reads w u xs) (hv : Reads w v ys) (hq : Reads w q h.ks) (gx : xs.length ≤ 1099511627776) (gy : ys.length ≤ 1099511627776) (gk : h.ks.length ≤ 1099511627776) :
    Calls Tryz.prog 98 #[SRV u v q h] w fun e w' => ∃ a b k, e = .returned (SRV a b k h) ∧ OwnR w' w.heap.size a b k xs ys h.ks ∧ Below w.heap.size w w' := by
  obtain ⟨w1, hw1⟩ : ∃ w1, w1 = (w.alloc (.cells (srA u v q h) 96)).alloc (.cells zeR 96) := ⟨_, rfl⟩
  have b1 : Below w.heap.size w w1 := by rw [hw1]; exact ((Below.refl _ _).alloc (Nat.le_refl _) _).alloc (by simp) _
  have S1 : Hid (StB w1 w.heap.size 96 (srA u v q h) ∧ StB w1 (w.heap.size + 1) 96 zeR ∧ Below w.heap.size w w1 ∧ w.heap.size + 2 ≤ w1.heap.size) := by
    have a2 := StB.new (w.alloc (.cells (srA u v q h) 96)) 96 zeR
    simp only [World.size_alloc] at a2
    exact ⟨by rw [hw1]; exact (StB.new w _ _).alloc _, by rw [hw1]; exact a2, b1, by rw [hw1]; simp⟩
  have C1 : Hid (∀ wx, Below w1.heap.size w1 wx → Calls Tryz.prog 51 #[.agg #[u, v]] wx fun e w' => ∃ a b, e = .returned (.agg #[a, b]) ∧ OwnD w' wx.heap.size a b xs ys ∧ Below wx.heap.size wx w') := fun wx e => l3Copy_any u v xs ys wx ((hu.below b1 (Nat.le_refl _)).below e (Nat.le_refl _)) ((hv.below b1 (Nat.le_refl _)).below e (Nat.le_refl _)) gx gy
  have C2 : Hid (∀ wx, Below w1.heap.size w1 wx → Calls Tryz.prog 52 #[HV q h] wx fun e w' => ∃ u, e = .returned (HV u h) ∧ Own w' wx.heap.size u h.ks ∧ Below wx.heap.size wx w') := fun wx e => s8copy_any q h wx ((hq.below b1 (Nat.le_refl _)).below e (Nat.le_refl _)) gk
  obtain ⟨uo, uc, rfl⟩ := reads_form hu
  obtain ⟨vo, vc, rfl⟩ := reads_form hv
  obtain ⟨qo, qc, rfl⟩ := reads_form hq
  clear b1 hu hv hq gx gy gk
  have q0 : ∀ w', Sp (w.heap.size + 1) w1 w' → w'.cell? ⟨w.heap.size, 0, none⟩ = some (.slice uo xs.length uc) := fun w' b => b _ _ (by simp) (S1.out.1.cell 0 rfl)
  have q1 : ∀ w', Sp (w.heap.size + 1) w1 w' → w'.cell? ⟨w.heap.size, 1, none⟩ = some (.slice vo ys.length vc) := fun w' b => b _ _ (by simp) (S1.out.1.cell 1 rfl)
  have q2 : ∀ w', Sp (w.heap.size + 1) w1 w' → w'.cell? ⟨w.heap.size, 2, none⟩ = some (.slice qo h.ks.length qc) := fun w' b => b _ _ (by simp) (S1.out.1.cell 2 rfl)
  have q3 : ∀ w', Sp (w.heap.size + 1) w1 w' → w'.cell? ⟨w.heap.size, 3, none⟩ = some (.int .i64 h.kd) := fun w' b => b _ _ (by simp) (S1.out.1.cell 3 rfl)
  have q4 : ∀ w', Sp (w.heap.size + 1) w1 w' → w'.cell? ⟨w.heap.size, 4, none⟩ = some (.int .i64 h.ho) := fun w' b => b _ _ (by simp) (S1.out.1.cell 4 rfl)
  have q5 : ∀ w', Sp (w.heap.size + 1) w1 w' → w'.cell? ⟨w.heap.size, 5, none⟩ = some (.int .i64 h.tu) := fun w' b => b _ _ (by simp) (S1.out.1.cell 5 rfl)
  unfold SRV
  conv in srA => unfold srA
  unfold HV hdA at C2
  unfold srA zeR at hw1
  go_enter Tryz.func98, Tryz.ntmps98
  go_upto_region 1 with fail
  rw [← hw1]
  clear hw1
  go_region_held3 (fun w' => Sp (w.heap.size + 1) w1 w') ((repeat' (first | with_reducible assumption | with_reducible exact Sp.refl _ _ | with_reducible refine Sp.al ?_ | with_reducible refine Sp.dr ?_ | with_reducible refine Sp.set ?_ | with_reducible refine Sp.put ?_ (by with_reducible assumption) | with_reducible refine Sp.bel ?_ (by with_reducible assumption))))
    (first
      | (go_at_call 51; refine (C1.out _ (by repeat' (first | with_reducible assumption | with_reducible exact Below.refl _ _ | with_reducible refine bel_alloc ?_ | with_reducible refine bel_drew ?_ | with_reducible refine bel_trans ?_ (by with_reducible assumption)))).mono ?_; rintro e w3 ⟨a, b, rfl, o3, b3⟩; obtain ⟨ao, ac, rfl⟩ := o3.1.reads.form; obtain ⟨bo, bc, rfl⟩ := o3.2.1.reads.form; have O3 : Hid (OwnD w3 _ (.slice ao xs.length ac) (.slice bo ys.length bc) xs ys) := o3; clear o3)
      | (go_at_call 52; refine (C2.out _ (by repeat' (first | with_reducible assumption | with_reducible exact Below.refl _ _ | with_reducible refine bel_alloc ?_ | with_reducible refine bel_drew ?_ | with_reducible refine bel_trans ?_ (by with_reducible assumption)))).mono ?_; rintro e w4 ⟨z, rfl, o4, b4⟩; have hap : Hid (apart (.slice ao xs.length ac) z ∧ apart (.slice bo ys.length bc) z) := ⟨apart_of O3.out.1 o4 (bl_size (by repeat' (first | with_reducible assumption | with_reducible exact Below.refl _ _ | with_reducible refine bel_alloc ?_ | with_reducible refine bel_drew ?_ | with_reducible refine bel_trans ?_ (by with_reducible assumption)))), apart_of O3.out.2.1 o4 (bl_size (by repeat' (first | with_reducible assumption | with_reducible exact Below.refl _ _ | with_reducible refine bel_alloc ?_ | with_reducible refine bel_drew ?_ | with_reducible refine bel_trans ?_ (by with_reducible assumption))))⟩; obtain ⟨zo, zc, rfl⟩ := o4.reads.form; have B4 : Hid (Below w1.heap.size w1 w4) := (show Below w1.heap.size w1 w4 from (by repeat' (first | with_reducible assumption | with_reducible exact Below.refl _ _ | with_reducible refine bel_alloc ?_ | with_reducible refine bel_drew ?_ | with_reducible refine bel_trans ?_ (by with_reducible assumption)))); have O4 : Hid (OwnR w4 (w.heap.size + 2) (.slice ao xs.length ac) (.slice bo ys.length bc) (.slice zo h.ks.length zc) xs ys h.ks) := ⟨⟨(O3.out.1.mono (Nat.le_trans S1.out.2.2.2 (bl_size (by repeat' (first | with_reducible assumption | with_reducible exact Below.refl _ _ | with_reducible refine bel_alloc ?_ | with_reducible refine bel_drew ?_ | with_reducible refine bel_trans ?_ (by with_reducible assumption)))))).below (by repeat' (first | with_reducible assumption | with_reducible exact Below.refl _ _ | with_reducible refine bel_alloc ?_ | with_reducible refine bel_drew ?_ | with_reducible refine bel_trans ?_ (by with_reducible assumption))), (O3.out.2.1.mono (Nat.le_trans S1.out.2.2.2 (bl_size (by repeat' (first | with_reducible assumption | with_reducible exact Below.refl _ _ | with_reducible refine bel_alloc ?_ | with_reducible refine bel_drew ?_ | with_reducible refine bel_trans ?_ (by with_reducible assumption)))))).below (by repeat' (first | with_reducible assumption | with_reducible exact Below.refl _ _ | with_reducible refine bel_alloc ?_ | with_reducible refine bel_drew ?_ | with_reducible refine bel_trans ?_ (by with_reducible assumption))), O3.out.2.2⟩, o4.mono (Nat.le_trans S1.out.2.2.2 (bl_size (by repeat' (first | with_reducible assumption | with_reducible exact Below.refl _ _ | with_reducible refine bel_alloc ?_ | with_reducible refine bel_drew ?_ | with_reducible refine bel_trans ?_ (by with_reducible assumption))))), hap.out⟩; have R4 := S1.out.2.1.below B4.out; have r0 : w4.cell? ⟨w.heap.size + 1, 0, none⟩ = some (.slice none 0 0) := R4.cell 0 rfl; have r1 : w4.cell? ⟨w.heap.size + 1, 1, none⟩ = some (.slice none 0 0) := R4.cell 1 rfl; have r2 : w4.cell? ⟨w.heap.size + 1, 2, none⟩ = some (.slice none 0 0) := R4.cell 2 rfl; have r3 : w4.cell? ⟨w.heap.size + 1, 3, none⟩ = some (.int .i64 0) := R4.cell 3 rfl; have r4 : w4.cell? ⟨w.heap.size + 1, 4, none⟩ = some (.int .i64 0) := R4.cell 4 rfl; have r5 : w4.cell? ⟨w.heap.size + 1, 5, none⟩ = some (.int .i64 0) := R4.cell 5 rfl; have f0 := R4.frozen 0; have f1 := R4.frozen 1; have f2 := R4.frozen 2; have f3 := R4.frozen 3; have f4 := R4.frozen 4; have f5 := R4.frozen 5; clear o4))
  all_goals
    go_wp2
    have R4 : StB w4 (w.heap.size + 1) 96 _ := S1.out.2.1.below B4.out
    have G6 := put6_grown w4 (w.heap.size + 1) (.slice ao xs.length ac) (.slice bo ys.length bc) (.slice zo h.ks.length zc) h
    refine bodyPost_ret (results_S Tryz.isR rfl _ _ (w.heap.size + 1) (srA (.slice ao xs.length ac) (.slice bo ys.length bc) (.slice zo h.ks.length zc) h) rfl rfl (put6_st (.slice ao xs.length ac) (.slice bo ys.length bc) (.slice zo h.ks.length zc) h R4)) rfl ?_
    have B5 := S1.out.2.2.1.trans (B4.out.mono S1.out.2.2.1.size)
    exact ⟨_, _, _, rfl, (O4.out.keptLt G6 (by omega)).mono (by omega), B5.grown G6 B5.size (fun k e => by cases e; omega)⟩
end Go.Proofs.YtlkkpolnllbljaaGreatDoor
/- The model's store, on: NewStore, Power. -/
namespace Go.Proofs.YtlkkpolnllbljaaGreatDoor
open Go.ChangeShapes Go.WideShapes Go.ChangeAt Go.RowKit

theorem newS_yes {n : Int} (h : cntOk n = true) : newS n = ⟨zerosI n, zerosI n, Hd.new⟩ := by
  have e : (decide (1 ≤ n) && decide (n ≤ 8)) = true := h
  unfold newS
  rw [e, if_pos rfl]
theorem newS_no {n : Int} (h : cntOk n = false) : newS n = Sr.zero := by
  have e : (decide (1 ≤ n) && decide (n ≤ 8)) = false := h
  unfold newS
  rw [e]
  rfl

/- The box of a store and the result. -/
structure Dp (w wx : World) (u v q : Value) (h : Hd) : Prop where
  st : StB wx w.heap.size 96 (srA u v q h)
  rs : StB wx (w.heap.size + 1) 96 zeR
  bl : Below w.heap.size w wx
  sz : w.heap.size + 2 ≤ wx.heap.size
theorem Dp.next {w wx wy : World} {u v q : Value} {h : Hd} (d : Dp w wx u v q h) (b : Below wx.heap.size wx wy) : Dp w wy u v q h :=
  ⟨d.st.below b, d.rs.below b, d.bl.trans (b.mono d.bl.size), Nat.le_trans d.sz b.size⟩
theorem Dp.grown {w wx wy : World} {u v q : Value} {h : Hd} {g : Nat} (d : Dp w wx u v q h) (b : wx.grownBy wy (some g)) (hg : w.heap.size + 2 ≤ g) : Dp w wy u v q h :=
  ⟨d.st.kept b (by simp; omega), d.rs.kept b (by simp; omega), d.bl.grown b d.bl.size (fun k e => by cases e; omega), Nat.le_trans d.sz b.size⟩
end Go.Proofs.YtlkkpolnllbljaaGreatDoor
/- The program's store, on: freshStore, NewStore, Power. -/
namespace Go.Proofs.YtlkkpolnllbljaaGreatDoor
open Go.ChangeShapes Go.WideShapes Go.ChangeAt Go.RowKit

set_option maxRecDepth 20000 in
set_option maxHeartbeats 2000000 in
theorem ifreshStore_any (u v q : Value) (xs ys : List Int) (h : Hd) (w : World) (hu : Reads w u xs) (hv : Reads w v ys) (hq : Reads w q h.ks) (hx1 : 1 ≤ xs.length) (hy1 : 1 ≤ ys.length) (hk1 : 1 ≤ h.ks.length) (gx : xs.length ≤ 1099511627776) (gy : ys.length ≤ 1099511627776) (gk : h.ks.length ≤ 1099511627776) :
    Calls Tryz.prog 72 #[SRV u v q h] w fun e w' => ∃ a b k, e = .returned (SRV a b k h) ∧ OwnR w' w.heap.size a b k xs ys h.ks ∧ Below w.heap.size w w' := by
  obtain ⟨w1, hw1⟩ : ∃ w1, w1 = (w.alloc (.cells (srA u v q h) 96)).alloc (.cells zeR 96) := ⟨_, rfl⟩
  have b1 : Below w.heap.size w w1 := by rw [hw1]; exact ((Below.refl _ _).alloc (Nat.le_refl _) _).alloc (by simp) _
  have S1 : Hid (StB w1 w.heap.size 96 (srA u v q h) ∧ StB w1 (w.heap.size + 1) 96 zeR ∧ Below w.heap.size w w1 ∧ w.heap.size + 2 ≤ w1.heap.size) := by
    have a2 := StB.new (w.alloc (.cells (srA u v q h) 96)) 96 zeR
    simp only [World.size_alloc] at a2
    exact ⟨by rw [hw1]; exact (StB.new w _ _).alloc _, by rw [hw1]; exact a2, b1, by rw [hw1]; simp⟩
  have C1 : Hid (∀ wx, Below w1.heap.size w1 wx → Calls Tryz.prog 112 #[.agg #[u, v]] wx fun e w' => ∃ a b, e = .returned (.agg #[a, b]) ∧ OwnD w' wx.heap.size a b xs ys ∧ Below wx.heap.size wx w') := fun wx e => freshDisk_any u v xs ys wx ((hu.below b1 (Nat.le_refl _)).below e (Nat.le_refl _)) ((hv.below b1 (Nat.le_refl _)).below e (Nat.le_refl _)) hx1 hy1 gx gy
  have C2 : Hid (∀ wx, Below w1.heap.size w1 wx → Calls Tryz.prog 113 #[HV q h] wx fun e w' => ∃ u, e = .returned (HV u h) ∧ Own w' wx.heap.size u h.ks ∧ Below wx.heap.size wx w') := fun wx e => ifreshH_any q h wx ((hq.below b1 (Nat.le_refl _)).below e (Nat.le_refl _)) hk1 gk
  obtain ⟨uo, uc, rfl⟩ := reads_form hu
  obtain ⟨vo, vc, rfl⟩ := reads_form hv
  obtain ⟨qo, qc, rfl⟩ := reads_form hq
  clear b1 hu hv hq gx gy gk hx1 hy1 hk1
  have q0 : ∀ w', Sp (w.heap.size + 1) w1 w' → w'.cell? ⟨w.heap.size, 0, none⟩ = some (.slice uo xs.length uc) := fun w' b => b _ _ (by simp) (S1.out.1.cell 0 rfl)
  have q1 : ∀ w', Sp (w.heap.size + 1) w1 w' → w'.cell? ⟨w.heap.size, 1, none⟩ = some (.slice vo ys.length vc) := fun w' b => b _ _ (by simp) (S1.out.1.cell 1 rfl)
  have q2 : ∀ w', Sp (w.heap.size + 1) w1 w' → w'.cell? ⟨w.heap.size, 2, none⟩ = some (.slice qo h.ks.length qc) := fun w' b => b _ _ (by simp) (S1.out.1.cell 2 rfl)
  have q3 : ∀ w', Sp (w.heap.size + 1) w1 w' → w'.cell? ⟨w.heap.size, 3, none⟩ = some (.int .i64 h.kd) := fun w' b => b _ _ (by simp) (S1.out.1.cell 3 rfl)
  have q4 : ∀ w', Sp (w.heap.size + 1) w1 w' → w'.cell? ⟨w.heap.size, 4, none⟩ = some (.int .i64 h.ho) := fun w' b => b _ _ (by simp) (S1.out.1.cell 4 rfl)
  have q5 : ∀ w', Sp (w.heap.size + 1) w1 w' → w'.cell? ⟨w.heap.size, 5, none⟩ = some (.int .i64 h.tu) := fun w' b => b _ _ (by simp) (S1.out.1.cell 5 rfl)
  unfold SRV
  conv in srA => unfold srA
  unfold HV hdA at C2
  unfold srA zeR at hw1
  go_enter Tryz.func72, Tryz.ntmps72
  go_upto_region 1 with fail
  rw [← hw1]
  clear hw1
  go_region_held3 (fun w' => Sp (w.heap.size + 1) w1 w') ((repeat' (first | with_reducible assumption | with_reducible exact Sp.refl _ _ | with_reducible refine Sp.al ?_ | with_reducible refine Sp.dr ?_ | with_reducible refine Sp.set ?_ | with_reducible refine Sp.put ?_ (by with_reducible assumption) | with_reducible refine Sp.bel ?_ (by with_reducible assumption))))
    (first
      | (go_at_call 112; refine (C1.out _ (by repeat' (first | with_reducible assumption | with_reducible exact Below.refl _ _ | with_reducible refine bel_alloc ?_ | with_reducible refine bel_drew ?_ | with_reducible refine bel_trans ?_ (by with_reducible assumption)))).mono ?_; rintro e w3 ⟨a, b, rfl, o3, b3⟩; obtain ⟨ao, ac, rfl⟩ := o3.1.reads.form; obtain ⟨bo, bc, rfl⟩ := o3.2.1.reads.form; have O3 : Hid (OwnD w3 _ (.slice ao xs.length ac) (.slice bo ys.length bc) xs ys) := o3; clear o3)
      | (go_at_call 113; refine (C2.out _ (by repeat' (first | with_reducible assumption | with_reducible exact Below.refl _ _ | with_reducible refine bel_alloc ?_ | with_reducible refine bel_drew ?_ | with_reducible refine bel_trans ?_ (by with_reducible assumption)))).mono ?_; rintro e w4 ⟨z, rfl, o4, b4⟩; have hap : Hid (apart (.slice ao xs.length ac) z ∧ apart (.slice bo ys.length bc) z) := ⟨apart_of O3.out.1 o4 (bl_size (by repeat' (first | with_reducible assumption | with_reducible exact Below.refl _ _ | with_reducible refine bel_alloc ?_ | with_reducible refine bel_drew ?_ | with_reducible refine bel_trans ?_ (by with_reducible assumption)))), apart_of O3.out.2.1 o4 (bl_size (by repeat' (first | with_reducible assumption | with_reducible exact Below.refl _ _ | with_reducible refine bel_alloc ?_ | with_reducible refine bel_drew ?_ | with_reducible refine bel_trans ?_ (by with_reducible assumption))))⟩; obtain ⟨zo, zc, rfl⟩ := o4.reads.form; have B4 : Hid (Below w1.heap.size w1 w4) := (show Below w1.heap.size w1 w4 from (by repeat' (first | with_reducible assumption | with_reducible exact Below.refl _ _ | with_reducible refine bel_alloc ?_ | with_reducible refine bel_drew ?_ | with_reducible refine bel_trans ?_ (by with_reducible assumption)))); have O4 : Hid (OwnR w4 (w.heap.size + 2) (.slice ao xs.length ac) (.slice bo ys.length bc) (.slice zo h.ks.length zc) xs ys h.ks) := ⟨⟨(O3.out.1.mono (Nat.le_trans S1.out.2.2.2 (bl_size (by repeat' (first | with_reducible assumption | with_reducible exact Below.refl _ _ | with_reducible refine bel_alloc ?_ | with_reducible refine bel_drew ?_ | with_reducible refine bel_trans ?_ (by with_reducible assumption)))))).below (by repeat' (first | with_reducible assumption | with_reducible exact Below.refl _ _ | with_reducible refine bel_alloc ?_ | with_reducible refine bel_drew ?_ | with_reducible refine bel_trans ?_ (by with_reducible assumption))), (O3.out.2.1.mono (Nat.le_trans S1.out.2.2.2 (bl_size (by repeat' (first | with_reducible assumption | with_reducible exact Below.refl _ _ | with_reducible refine bel_alloc ?_ | with_reducible refine bel_drew ?_ | with_reducible refine bel_trans ?_ (by with_reducible assumption)))))).below (by repeat' (first | with_reducible assumption | with_reducible exact Below.refl _ _ | with_reducible refine bel_alloc ?_ | with_reducible refine bel_drew ?_ | with_reducible refine bel_trans ?_ (by with_reducible assumption))), O3.out.2.2⟩, o4.mono (Nat.le_trans S1.out.2.2.2 (bl_size (by repeat' (first | with_reducible assumption | with_reducible exact Below.refl _ _ | with_reducible refine bel_alloc ?_ | with_reducible refine bel_drew ?_ | with_reducible refine bel_trans ?_ (by with_reducible assumption))))), hap.out⟩; have R4 := S1.out.2.1.below B4.out; have r0 : w4.cell? ⟨w.heap.size + 1, 0, none⟩ = some (.slice none 0 0) := R4.cell 0 rfl; have r1 : w4.cell? ⟨w.heap.size + 1, 1, none⟩ = some (.slice none 0 0) := R4.cell 1 rfl; have r2 : w4.cell? ⟨w.heap.size + 1, 2, none⟩ = some (.slice none 0 0) := R4.cell 2 rfl; have r3 : w4.cell? ⟨w.heap.size + 1, 3, none⟩ = some (.int .i64 0) := R4.cell 3 rfl; have r4 : w4.cell? ⟨w.heap.size + 1, 4, none⟩ = some (.int .i64 0) := R4.cell 4 rfl; have r5 : w4.cell? ⟨w.heap.size + 1, 5, none⟩ = some (.int .i64 0) := R4.cell 5 rfl; have f0 := R4.frozen 0; have f1 := R4.frozen 1; have f2 := R4.frozen 2; have f3 := R4.frozen 3; have f4 := R4.frozen 4; have f5 := R4.frozen 5; clear o4))
  all_goals
    go_wp2
    have R4 : StB w4 (w.heap.size + 1) 96 _ := S1.out.2.1.below B4.out
    have G6 := put6_grown w4 (w.heap.size + 1) (.slice ao xs.length ac) (.slice bo ys.length bc) (.slice zo h.ks.length zc) h
    refine bodyPost_ret (results_S Tryz.isR rfl _ _ (w.heap.size + 1) (srA (.slice ao xs.length ac) (.slice bo ys.length bc) (.slice zo h.ks.length zc) h) rfl rfl (put6_st (.slice ao xs.length ac) (.slice bo ys.length bc) (.slice zo h.ks.length zc) h R4)) rfl ?_
    have B5 := S1.out.2.2.1.trans (B4.out.mono S1.out.2.2.1.size)
    exact ⟨_, _, _, rfl, (O4.out.keptLt G6 (by omega)).mono (by omega), B5.grown G6 B5.size (fun k e => by cases e; omega)⟩
end Go.Proofs.YtlkkpolnllbljaaGreatDoor
/- The program's copiers, on: what is new (NewCopier), what is copied (fresh, freshCopier). -/
namespace Go.Proofs.YtlkkpolnllbljaaGreatDoor
open Go.ChangeShapes Go.WideShapes Go.ChangeAt Go.RowKit

set_option maxRecDepth 20000 in
set_option maxHeartbeats 2000000 in
theorem ifreshC_any (v : Value) (c : Cp) (w : World) (hr : Reads w v c.ts) (hl : c.ts.length ≤ 1099511627776) :
    Calls Tryz.prog 74 #[CpV v c] w fun e w' => ∃ u, e = .returned (CpV u c) ∧ Mine w' w.heap.size u c.ts ∧ Below w.heap.size w w' := by
  obtain ⟨w1, hw1⟩ : ∃ w1, w1 = (w.alloc (.cells (cpA v c) 39)).alloc (.cells zeroCp 39) := ⟨_, rfl⟩
  have p0 : StB w1 w.heap.size 39 (cpA v c) := by rw [hw1]; exact (StB.new w _ _).alloc _
  have q0 : StB w1 (w.heap.size + 1) 39 zeroCp := by
    rw [hw1]
    have := StB.new (w.alloc (.cells (cpA v c) 39)) 39 zeroCp
    rwa [World.size_alloc] at this
  have b1 : Below w.heap.size w w1 := by rw [hw1]; exact ((Below.refl _ _).alloc (Nat.le_refl _) _).alloc (by simp) _
  have c1 := ifresh_any v c.ts w1 (hr.below b1 (Nat.le_refl _)) hl
  have hs1 := q0.lt
  obtain ⟨ao, cap, rfl⟩ := reads_form hr
  have HW : Hid (w1 = (w.alloc (.cells #[.int .i64 c.tr, .bool c.op, .int .i64 c.di, .int .i64 c.wa, .slice ao c.ts.length cap] 39)).alloc (.cells #[.int .i64 0, .bool false, .int .i64 0, .int .i64 0, .slice none 0 0] 39)) := hw1
  have k4 : w1.cell? ⟨w.heap.size, 4, none⟩ = some (.slice ao c.ts.length cap) := p0.cell 4 rfl
  clear hw1 hr hl
  unfold CpV cpA
  go_enter Tryz.func74, Tryz.ntmps74
  go_wp2_with fail
  rw [← HW.out]
  clear HW
  refine c1.mono ?_
  rintro e w3 ⟨u, rfl, o3, b3⟩
  replace p0 := p0.below b3
  replace q0 := q0.below b3
  have B3 := b1.trans (b3.mono b1.size)
  obtain ⟨ab, cb, rfl⟩ := reads_form o3.reads
  have k0 : w3.cell? ⟨w.heap.size, 4, none⟩ = some (.slice ao c.ts.length cap) := p0.cell 4 rfl
  have f0 := p0.frozen 4
  have r4 := p0.put 4 (.slice ab c.ts.length cb) (ds := cpA (.slice ab c.ts.length cb) c) rfl
  have q4 := q0.other ⟨w.heap.size, 4, none⟩ (.slice ab c.ts.length cb) (by simp)
  have HP : Hid (Mine (w3.setCell ⟨w.heap.size, 4, none⟩ (.slice ab c.ts.length cb)) w1.heap.size (.slice ab c.ts.length cb) c.ts ∧ Below w.heap.size w (w3.setCell ⟨w.heap.size, 4, none⟩ (.slice ab c.ts.length cb))) := ⟨o3.setLt (by omega) 4 _, B3.setCell (Nat.le_refl _) _⟩
  clear k4 p0 q0 c1 o3 b3 b1 B3
  go_upto_region 2 with fail
  obtain ⟨w4, hw4⟩ : ∃ w4, w4 = w3.setCell ⟨w.heap.size, 4, none⟩ (.slice ab c.ts.length cb) := ⟨_, rfl⟩
  rw [← hw4] at r4 q4 HP ⊢
  clear hw4 k0 f0
  go_wp2_with (first | (refine wpList_getS Tryz.isCp rfl _ rfl w.heap.size rfl (cpA (.slice ab c.ts.length cb) c) rfl r4 ?_) | (refine wpList_putS Tryz.isCp rfl _ _ rfl (w.heap.size + 1) (cpA (.slice ab c.ts.length cb) c) zeroCp rfl rfl rfl rfl (cpA_one c rfl) q4 ?_; intro w8 s8 g8))
  refine bodyPost_ret (results_S Tryz.isCp rfl _ _ (w.heap.size + 1) _ rfl rfl s8) rfl ?_
  exact ⟨_, rfl, (HP.out.1.keptLt g8 (by omega)).mono (by omega), HP.out.2.grown g8 HP.out.2.size (fun k e => by cases e; omega)⟩

end Go.Proofs.YtlkkpolnllbljaaGreatDoor
