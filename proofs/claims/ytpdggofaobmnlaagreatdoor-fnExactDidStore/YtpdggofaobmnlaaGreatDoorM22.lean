/- The program's Lost. -/
import Derived.Test.YtpdggofaobmnlaaGreatDoorIDisk2
import Derived.Test.YtpdggofaobmnlaaGreatDoorM21
import Derived.Test.YtpdggofaobmnlaaGreatDoorM13
import Derived.Test.YtpdggofaobmnlaaGreatDoorM16
namespace Go.Proofs.YtpdggofaobmnlaaGreatDoor
open Go.ChangeShapes Go.WideShapes Go.ChangeAt Go.RowKit

theorem Pair.drew {w : World} {g : Nat} {t : TypeId} {u v : Value} (h : Pair w g t u v) : Pair w.drew g t u v := h
theorem OwnD.drew {w : World} {base : Nat} {u v : Value} {xs ys : List Int} (h : OwnD w base u v xs ys) : OwnD w.drew base u v xs ys := h
theorem OwnD.below {w w' : World} {base : Nat} {u v : Value} {xs ys : List Int} (h : OwnD w base u v xs ys) (b : Below w.heap.size w w') : OwnD w' base u v xs ys := ⟨h.1.below b, h.2.1.below b, h.2.2⟩

/- The state in the midst: the boxes, and the copy of the disk at block h. -/
def Mid (w wx : World) (u v : Value) (h base : Nat) (a b : Value) (xs ys : List Int) : Prop := Boxes w wx u v ∧ Pair wx h 26 a b ∧ OwnD wx base a b xs ys
theorem Mid.below {w wx wy : World} {u v a b : Value} {h base : Nat} {xs ys : List Int} (m : Mid w wx u v h base a b xs ys) (k : Below wx.heap.size wx wy) : Mid w wy u v h base a b xs ys :=
  ⟨m.1.below k, m.2.1.below k, m.2.2.below k⟩
theorem Mid.drew {w wx : World} {u v a b : Value} {h base : Nat} {xs ys : List Int} (m : Mid w wx u v h base a b xs ys) : Mid w wx.drew u v h base a b xs ys := ⟨m.1.drew, m.2.1, m.2.2⟩

theorem Mid.copy0 {w wx wy : World} {u v a b : Value} {h base : Nat} {xs ys zs : List Int} (m : Mid w wx u v h base a b xs ys) (o : Own wy base a zs) (g : wx.grownBy wy a.ownBlock) (hb : w.heap.size + 2 ≤ base) (hh : ∀ k, a.ownBlock = some k → k ≠ h) (h1 : 1 ≤ xs.length) : Mid w wy u v h base a b zs ys := by
  obtain ⟨k, ca, hea, _⟩ := World.ownsRow.form m.2.2.1 h1
  have hab : a.ownBlock = some k := by rw [hea]; rfl
  have hk := (m.2.2.1.lt k hab).1
  have hap := m.2.2.2.2.2
  rw [hab] at g hap
  exact ⟨m.1.kept g (by omega), m.2.1.kept g (by have := hh k hab; simp; omega), o, m.2.2.2.1.kept g hap, m.2.2.2.2⟩
theorem Mid.copy1 {w wx wy : World} {u v a b : Value} {h base : Nat} {xs ys zs : List Int} (m : Mid w wx u v h base a b xs ys) (o : Own wy base b zs) (g : wx.grownBy wy b.ownBlock) (hb : w.heap.size + 2 ≤ base) (hh : ∀ k, b.ownBlock = some k → k ≠ h) (h1 : 1 ≤ ys.length) : Mid w wy u v h base a b xs zs := by
  obtain ⟨k, cb, heb, _⟩ := World.ownsRow.form m.2.2.2.1 h1
  have hab : b.ownBlock = some k := by rw [heb]; rfl
  have hk := (m.2.2.2.1.lt k hab).1
  have hap := m.2.2.2.2.1
  rw [hab] at g hap
  exact ⟨m.1.kept g (by omega), m.2.1.kept g (by have := hh k hab; simp; omega), m.2.2.1.kept g hap, o, m.2.2.2.2⟩
end Go.Proofs.YtpdggofaobmnlaaGreatDoor
/- Holdings by the program, on: Holds, May, a new holding. -/
namespace Go.Proofs.YtpdggofaobmnlaaGreatDoor
open Go.ChangeShapes Go.WideShapes Go.ChangeAt Go.RowKit

theorem holdsF_ok {h : Hd} (hk : h.ok = true) (i : Int) : holdsF (KF h.ks) h.kd h.ho i = (inI i 0 3 && h.holds i) := by
  have hm : h.mid = true := by
    unfold Hd.ok at hk
    simp only [Bool.and_eq_true] at hk
    exact hk.2
  unfold holdsF Hd.holds
  rw [show decide (KF h.ks i.toNat ≠ 0) = regI h.ks i from rfl]
  unfold Hd.mid at hm
  cases hin : inI i 0 3
  · simp
  · have hi : 0 ≤ i ∧ i ≤ 3 := by simpa [inI] using hin
    simp only [Bool.true_and]
    by_cases h0 : h.kd = 0
    · rw [if_pos h0] at hm
      have ho : h.ho = -1 := by simpa using hm
      rw [h0, ho]
      simp [show allI 0 = false from rfl]
      intro _; omega
    · rw [if_neg h0] at hm
      cases ha : allI h.kd
      · rw [ha] at hm
        simp only [Bool.false_eq_true, if_false, Bool.and_eq_true] at hm
        by_cases he : i = h.ho
        · subst he
          simp [h0, hm.2]
        · simp [he, Ne.symm he]
      · rw [ha] at hm
        simp only [if_true, Bool.and_eq_true, decide_eq_true_eq] at hm
        have : h.ho ≠ i := by omega
        simp [h0, this]

theorem heA_S {w : World} {g : Nat} {f : Nat → Int} {kd ho tu : Int} {w' : World} {B : Nat} (h : Hid (StB w g 106 (heA f kd ho tu))) (hb : Below B w w') (e : B = w.heap.size) : Hid (StB w' g 106 (heA f kd ho tu)) := by subst e; exact h.out.below hb
theorem HB_next {w w3 w4 : World} (h : Hid (Below w.heap.size w w3)) (b : Below w3.heap.size w3 w4) : Hid (Below w.heap.size w w4) := h.out.trans (b.mono h.out.size)

set_option maxRecDepth 20000 in
set_option maxHeartbeats 4000000 in
theorem iMay_any (v : Value) (h : Hd) (i : Int) (b : Bool) (w : World) (hr : Reads w v h.ks) (hl : h.ks.length ≤ 1099511627776) :
    Calls Tryz.prog 109 #[HV v h, .int .i64 i, .bool b] w fun e w' => e = .returned (.bool (h.May i b)) ∧ Below w.heap.size w w' := by
  have b1 : Below w.heap.size w (w.alloc (.cells (hdA v h) 28)) := (Below.refl _ _).alloc (Nat.le_refl _) _
  have c1 := iheldof_any v h _ (hr.below b1 (Nat.le_refl _)) hl
  obtain ⟨ao, cap, rfl⟩ := reads_form hr
  obtain ⟨f, x, y, z, hf, hfo⟩ := heldV_form h
  have c2 := fun wx => iheldholds_any f x y z i wx
  have c3 := fun wx => iregd_any f i wx
  have c4 := fun wx => iperson_any i wx
  have c5 := fun wx => imay_any x b (holdsF f x y i) (inI i 0 3 && decide (f i.toNat ≠ 0)) wx
  have HE : Hid (h.May i b = (h.ok && (inI i 0 3 && mayI x b (holdsF f x y i) (inI i 0 3 && decide (f i.toNat ≠ 0))))) := by
    unfold Hd.May
    rw [Hid]
    cases hk : h.ok
    · simp
    · rw [(hfo hk).1, (hfo hk).2.1, (hfo hk).2.2.1, holdsF_ok hk]
      cases inI i 0 3
      · simp
      · rfl
  obtain ⟨ok, hok⟩ : ∃ ok, ok = h.ok := ⟨_, rfl⟩
  obtain ⟨r, hr'⟩ : ∃ r, r = h.May i b := ⟨_, rfl⟩
  rw [← hok] at c1 HE
  rw [← hr'] at HE ⊢
  rw [hf] at c1
  obtain ⟨q1, hq1⟩ : ∃ q1, q1 = holdsF f x y i := ⟨_, rfl⟩
  obtain ⟨q2, hq2⟩ : ∃ q2, q2 = (inI i 0 3 && decide (f i.toNat ≠ 0)) := ⟨_, rfl⟩
  simp only [← hq1, ← hq2] at c2 c3 c5 HE
  obtain ⟨q3, hq3⟩ : ∃ q3, q3 = mayI x b q1 q2 := ⟨_, rfl⟩
  obtain ⟨q4, hq4⟩ : ∃ q4, q4 = inI i 0 3 := ⟨_, rfl⟩
  simp only [← hq3, ← hq4] at c5 c4 HE
  clear hok hf hfo hr hl hr' hq1 hq2 hq3 hq4
  unfold HV hdA at *
  go_enter Tryz.func109, Tryz.ntmps109
  go_wp2_with fail
  refine c1.mono ?_
  rintro e w2 ⟨rfl, b2⟩
  have HB2 : Hid (Below w.heap.size w w2) := b1.trans (b2.mono b1.size)
  have z2 : Hid (StB (w2.alloc (.cells (heA (fun _ => 0) 0 0 0) 106)) w2.heap.size 106 (heA (fun _ => 0) 0 0 0)) := StB.new _ _ _
  clear c1 b1 b2
  go_upto_region 2 with (first | (refine wpList_putS Tryz.isHeld rfl _ _ rfl w2.heap.size (heA f x y z) _ rfl rfl rfl rfl (heA_one _ _ _ _) z2.out ?_; intro w3 h3 g3))
  have HB3 : Hid (Below w.heap.size w w3) := HB2.out.trans (((Below.refl _ _).alloc (Nat.le_refl _) _ |>.grown g3 (by simp) (fun k e => by cases e; exact Nat.le_refl _)).mono HB2.out.size)
  have H3 : Hid (StB w3 w2.heap.size 106 (heA f x y z)) := h3
  obtain ⟨m0, m1, m2, m3, m4, m5, m6⟩ := heA_cells h3
  obtain ⟨g, hg⟩ : ∃ g, g = w2.heap.size := ⟨_, rfl⟩
  rw [← hg] at m0 m1 m2 m3 m4 m5 m6 H3 ⊢
  clear HB2 z2 g3 h3 hg
  unfold heA at c2
  unfold kA at c3
  cases ok with
  | false =>
    clear c2 c3 c4 c5
    go_quiet (fail)
    go_wp2
    go_ret
    exact ⟨ret_bool (by rw [HE.out]; simp), below_drewN HB3.out _⟩
  | true =>
    cases q4 with
    | false =>
      clear c2 c3 c5
      go_quiet ((go_at_call 70; exact Calls.quiet_of_same (c4 _)))
      go_wp2
      go_ret
      exact ⟨ret_bool (by rw [HE.out]; simp), below_drewN HB3.out _⟩
    | true =>
      have HD3 : Hid (Below w.heap.size w w3.drew) := HB3.out.drew
      have HH3 : Hid (StB w3.drew g 106 (heA f x y z)) := H3.out
      clear HB3 H3
      go_region_held3 (fun w' => w'.cell? ⟨g, 0, none⟩ = some (.int .i64 (f 0)) ∧ w'.cell? ⟨g, 1, none⟩ = some (.int .i64 (f 1)) ∧ w'.cell? ⟨g, 2, none⟩ = some (.int .i64 (f 2)) ∧ w'.cell? ⟨g, 3, none⟩ = some (.int .i64 (f 3)) ∧ w'.cell? ⟨g, 4, none⟩ = some (.int .i64 x) ∧ w'.cell? ⟨g, 5, none⟩ = some (.int .i64 y) ∧ w'.cell? ⟨g, 6, none⟩ = some (.int .i64 z)) (refine ⟨?_, ?_, ?_, ?_, ?_, ?_, ?_⟩ <;> assumption)
        (first
          | (go_at_call 70; refine (c4 _).mono ?_; rintro e w' ⟨rfl, hw⟩; subst w')
          | (go_at_call 142; refine (c2 _).mono ?_; rintro e w4 ⟨rfl, b4⟩; have HB4 := HB_next HD3 b4; have H4 := heA_S HH3 b4 rfl; obtain ⟨n0, n1, n2, n3, n4, n5, n6⟩ := heA_cells H4.out; clear b4)
          | (go_at_call 143; refine (c3 _).mono ?_; rintro e w5 ⟨rfl, b5⟩; have HB5 := HB_next HB4 b5; have H5 := heA_S H4 b5 rfl; obtain ⟨o0, o1, o2, o3, o4, o5, o6⟩ := heA_cells H5.out; clear b5)
          | (go_at_call 141; refine (c5 _).mono ?_; rintro e w6 ⟨rfl, b6⟩; have HB6 := HB_next HB5 b6; have H6 := heA_S H5 b6 rfl; obtain ⟨u0, u1, u2, u3, u4, u5, u6⟩ := heA_cells H6.out; clear b6))
      go_wp2
      go_ret
      exact ⟨ret_bool (by rw [HE.out]; simp), HB6.out⟩
end Go.Proofs.YtpdggofaobmnlaaGreatDoor
/- Holdings by the program, on: a new holding. -/
namespace Go.Proofs.YtpdggofaobmnlaaGreatDoor
open Go.ChangeShapes Go.WideShapes Go.ChangeAt Go.RowKit

theorem ilistK4_any (f : Nat → Int) (w : World) :
    Calls Tryz.prog 124 #[.agg (kA f)] w fun e w' => ∃ ao cap, e = .returned (.slice ao 4 cap) ∧ Own w' w.heap.size (.slice ao 4 cap) (listK f) ∧ Below w.heap.size w w' := by
  refine (ilistK_any f w).mono ?_
  rintro e w' ⟨u, rfl, o, b⟩
  obtain ⟨ao, cap, rfl⟩ := reads_form o.reads
  exact ⟨ao, cap, rfl, o, b⟩

theorem cell_put4 {w : World} {g k : Nat} (hne : g ≠ k) {j : Nat} {a b c d x : Value} (h : w.cell? ⟨g, j, none⟩ = some x) :
    ((((w.setCell ⟨k, 0, none⟩ a).setCell ⟨k, 1, none⟩ b).setCell ⟨k, 2, none⟩ c).setCell ⟨k, 3, none⟩ d).cell? ⟨g, j, none⟩ = some x := by
  rw [World.cell?_setCell_far _ _ _ _ (Ne.symm hne), World.cell?_setCell_far _ _ _ _ (Ne.symm hne), World.cell?_setCell_far _ _ _ _ (Ne.symm hne), World.cell?_setCell_far _ _ _ _ (Ne.symm hne), h]

set_option maxRecDepth 20000 in
set_option maxHeartbeats 600000 in
theorem iholding_any (f : Nat → Int) (kd ho tu : Int) (w : World) :
    Calls Tryz.prog 85 #[.agg (heA f kd ho tu)] w fun e w' => ∃ u, e = .returned (HV u ⟨listK f, kd, ho, tu⟩) ∧ Own w' w.heap.size u (listK f) ∧ Below w.heap.size w w' := by
  obtain ⟨w1, hw1⟩ : ∃ w1, w1 = (w.alloc (.cells (heA f kd ho tu) 106)).alloc (.cells #[.slice none 0 0, .int .i64 0, .int .i64 0, .int .i64 0] 28) := ⟨_, rfl⟩
  have HB : Hid (Below w.heap.size w w1.drew) := by rw [hw1]; exact (((Below.refl _ _).alloc (Nat.le_refl _) _).alloc (by simp) _).drew
  have H1 : Hid (StB w1 w.heap.size 106 (heA f kd ho tu)) := by rw [hw1]; exact (StB.new _ _ _).alloc _
  have HH1 : Hid (StB w1.drew w.heap.size 106 (heA f kd ho tu)) := H1.out
  have R1 : Hid (StB w1.drew (w.heap.size + 1) 28 #[.slice none 0 0, .int .i64 0, .int .i64 0, .int .i64 0]) := by
    rw [hw1]
    have := StB.new (w.alloc (.cells (heA f kd ho tu) 106)) 28 #[.slice none 0 0, .int .i64 0, .int .i64 0, .int .i64 0]
    rw [World.size_alloc] at this
    exact this
  obtain ⟨m0, m1, m2, m3, m4, m5, m6⟩ := heA_cells H1.out
  have c1 := fun wx => ilistK4_any f wx
  have hs : w.heap.size + 1 < w1.drew.heap.size := R1.out.lt
  clear H1
  unfold heA at hw1 ⊢
  unfold kA at c1
  go_enter Tryz.func85, Tryz.ntmps85
  go_upto_region 1 with fail
  rw [← hw1]
  obtain ⟨k, hk⟩ : ∃ k, k = w.heap.size + 1 := ⟨_, rfl⟩
  rw [← hk] at R1 hs ⊢
  have hne : w.heap.size ≠ k := by omega
  have HK : Hid (k = w.heap.size + 1) := hk
  obtain ⟨g, hg⟩ : ∃ g, g = w.heap.size := ⟨_, rfl⟩
  rw [← hg] at m0 m1 m2 m3 m4 m5 m6 HH1 hne ⊢
  have HG : Hid (g = w.heap.size) := hg
  have HS : Hid (k < w1.drew.heap.size) := hs
  obtain ⟨d0, d1, d2, d3, d4, d5, d6⟩ := heA_cells HH1.out
  clear hw1 hk hg hs
  go_region_held3 (fun w' => w'.cell? ⟨g, 0, none⟩ = some (.int .i64 (f 0)) ∧ w'.cell? ⟨g, 1, none⟩ = some (.int .i64 (f 1)) ∧ w'.cell? ⟨g, 2, none⟩ = some (.int .i64 (f 2)) ∧ w'.cell? ⟨g, 3, none⟩ = some (.int .i64 (f 3)) ∧ w'.cell? ⟨g, 4, none⟩ = some (.int .i64 kd) ∧ w'.cell? ⟨g, 5, none⟩ = some (.int .i64 ho) ∧ w'.cell? ⟨g, 6, none⟩ = some (.int .i64 tu)) (refine ⟨?_, ?_, ?_, ?_, ?_, ?_, ?_⟩ <;> first | with_reducible assumption | (with_reducible refine cell_put4 hne ?_; with_reducible assumption))
    (first
      | (go_at_call 124; refine (c1 _).mono ?_; rintro e w2 ⟨ao, cap, rfl, o2, b2⟩; have HB2 := HB_next HB b2; have H2 := heA_S HH1 b2 rfl; have R2 : Hid (StB w2 k 28 #[.slice none 0 0, .int .i64 0, .int .i64 0, .int .i64 0]) := R1.out.below b2; have O2 : Hid (Own w2 w1.drew.heap.size (.slice ao 4 cap) (listK f)) := o2; obtain ⟨n0, n1, n2, n3, n4, n5, n6⟩ := heA_cells H2.out; clear b2 o2; have q0 : w2.cell? ⟨k, 0, none⟩ = some (.slice none 0 0) := R2.out.cell 0 rfl; have q1 : w2.cell? ⟨k, 1, none⟩ = some (.int .i64 0) := R2.out.cell 1 rfl; have q2 : w2.cell? ⟨k, 2, none⟩ = some (.int .i64 0) := R2.out.cell 2 rfl; have q3 : w2.cell? ⟨k, 3, none⟩ = some (.int .i64 0) := R2.out.cell 3 rfl; have f0 := R2.out.frozen 0; have f1 := R2.out.frozen 1; have f2 := R2.out.frozen 2; have f3 := R2.out.frozen 3))
  have SE := (((R2.out.put 0 (.slice ao 4 cap) rfl).put 1 (.int .i64 kd) rfl).put 2 (.int .i64 ho) rfl).put 3 (.int .i64 tu) (ds := hdA (.slice ao 4 cap) ⟨listK f, kd, ho, tu⟩) rfl
  have GE := (((grownSet w2 k 0 (.slice ao 4 cap)).trans (grownSet _ k 1 (.int .i64 kd))).trans (grownSet _ k 2 (.int .i64 ho))).trans (grownSet _ k 3 (.int .i64 tu))
  have HF : Hid (_ ∧ _) := ⟨SE, GE⟩
  clear SE GE H2 R2 n0 n1 n2 n3 n4 n5 n6 q0 q1 q2 q3 f0 f1 f2 f3 d0 d1 d2 d3 d4 d5 d6 m0 m1 m2 m3 m4 m5 m6
  go_wp2
  refine bodyPost_ret (results_S Tryz.isH rfl _ _ k _ rfl rfl HF.out.1) rfl ?_
  have h1 := HB.out.size
  have h2 := HK.out
  exact ⟨_, rfl, (O2.out.keptLt HF.out.2 HS.out).mono h1, HB2.out.grown HF.out.2 HB2.out.size (fun x e => by cases e; omega)⟩

set_option maxRecDepth 20000 in
set_option maxHeartbeats 1000000 in
theorem inewH_any (w : World) :
    Calls Tryz.prog 37 #[] w fun e w' => ∃ u, e = .returned (HV u Hd.new) ∧ Own w' w.heap.size u Hd.new.ks ∧ Below w.heap.size w w' := by
  obtain ⟨w1, hw1⟩ : ∃ w1, w1 = w.alloc (.cells #[.slice none 0 0, .int .i64 0, .int .i64 0, .int .i64 0] 28) := ⟨_, rfl⟩
  have p0 : Hid (StB w1 w.heap.size 28 #[.slice none 0 0, .int .i64 0, .int .i64 0, .int .i64 0]) := by rw [hw1]; exact StB.new w _ _
  have b1 : Hid (Below w.heap.size w w1) := by rw [hw1]; exact (Below.refl _ _).alloc (Nat.le_refl _) _
  have c1 := iholding_any (fun _ => 0) 0 (-1) 0 w1
  unfold heA at c1
  go_enter Tryz.func37, Tryz.ntmps37
  go_wp2_with fail
  rw [← hw1]
  refine c1.mono ?_
  rintro e w2 ⟨u, rfl, o2, b2⟩
  obtain ⟨ao, cap, rfl⟩ := reads_form o2.reads
  have P2 : Hid (StB w2 w.heap.size 28 #[.slice none 0 0, .int .i64 0, .int .i64 0, .int .i64 0]) := p0.out.below b2
  have B2 := HB_next b1 b2
  have O2 : Hid (Own w2 w1.heap.size (.slice ao 4 cap) (listK fun _ => 0)) := o2
  have HS : Hid (w.heap.size < w1.heap.size) := p0.out.lt
  clear hw1 c1 o2 b2 p0
  go_wp2_with (first | (refine wpList_putS Tryz.isH rfl _ _ rfl w.heap.size (hdA (.slice ao 4 cap) Hd.new) _ rfl rfl rfl rfl (hdA_one _ rfl) P2.out ?_; intro w3 s3 g3))
  refine bodyPost_ret (results_S Tryz.isH rfl _ _ w.heap.size _ rfl rfl s3) rfl ?_
  exact ⟨_, rfl, (O2.out.keptLt g3 HS.out).mono b1.out.size, B2.out.grown g3 B2.out.size (fun k e => by cases e; exact Nat.le_refl _)⟩
end Go.Proofs.YtpdggofaobmnlaaGreatDoor
/- The model's store, on: NewStore, Power. -/
namespace Go.Proofs.YtpdggofaobmnlaaGreatDoor
open Go.ChangeShapes Go.WideShapes Go.ChangeAt Go.RowKit

theorem newS_yes {n : Int} (h : cntOk n = true) : newS n = ⟨zerosI n, zerosI n, Hd.new⟩ := by
  have e : (decide (1 ≤ n) && decide (n ≤ 8)) = true := h
  unfold newS
  rw [e, if_pos rfl]
theorem newS_no {n : Int} (h : cntOk n = false) : newS n = Sr.zero := by
  have e : (decide (1 ≤ n) && decide (n ≤ 8)) = false := h
  unfold newS
  rw [e]
  rfl

set_option maxRecDepth 20000 in
set_option maxHeartbeats 2000000 in
theorem snewStore_any (n : Int) (w : World) :
    Calls Tryz.prog 14 #[.int .i64 n] w fun e w' => ∃ a b k, e = .returned (.tuple #[SRV a b k (newS n).h, .bool (cntOk n)]) ∧ OwnR w' w.heap.size a b k (newS n).xs (newS n).ys (newS n).h.ks ∧ Below w.heap.size w w' := by
  obtain ⟨w1, hw1⟩ : ∃ w1, w1 = w.alloc (.cells #[.slice none 0 0, .slice none 0 0, .slice none 0 0, .int .i64 0, .int .i64 0, .int .i64 0] 30) := ⟨_, rfl⟩
  have S1 : Hid (StB w1 w.heap.size 30 zeR ∧ Below w.heap.size w w1 ∧ w.heap.size + 1 ≤ w1.heap.size) := ⟨by rw [hw1]; exact StB.new _ _ _, by rw [hw1]; exact (Below.refl _ _).alloc (Nat.le_refl _) _, by rw [hw1]; simp⟩
  have c1 := snewDisk_any n w1
  cases hn : cntOk n with
  | false =>
    rw [hn] at c1
    rw [newS_no hn]
    clear hn
    go_enter Tryz.func14, Tryz.ntmps14
    go_upto_region 1 with fail
    rw [← hw1]
    clear hw1
    go_wp2_with fail
    refine c1.mono ?_
    rintro e w2 ⟨a, b, rfl, o2, b2⟩
    obtain ⟨ao, ac, rfl⟩ := o2.1.reads.form
    obtain ⟨bo, bc, rfl⟩ := o2.2.1.reads.form
    obtain ⟨w3, hw3⟩ : ∃ w3, w3 = w2.alloc (.cells #[.slice ao (zerosI n).length ac, .slice bo (zerosI n).length bc] 26) := ⟨_, rfl⟩
    have b3 : Below w2.heap.size w2 w3 := by rw [hw3]; exact (Below.refl _ _).alloc (Nat.le_refl _) _
    have S3 : Hid (StB w3 w.heap.size 30 zeR ∧ Below w.heap.size w w3) := ⟨(S1.out.1.below b2).below b3, (S1.out.2.1.trans (b2.mono S1.out.2.1.size)).trans (b3.mono (Nat.le_trans S1.out.2.1.size b2.size))⟩
    clear S1 b2 b3 o2 c1
    go_upto_region 2 with fail
    rw [← hw3]
    clear hw3
    go_wp2_with (refine wpList_putS Tryz.isR rfl _ _ rfl w.heap.size zeR zeR rfl rfl rfl rfl (srA_one Hd.zero rfl rfl rfl) S3.out.1 ?_; intro w5 s5 g5)
    refine bodyPost_ret (results_S2 Tryz.isR rfl _ _ w.heap.size _ _ rfl rfl rfl s5) rfl ?_
    exact ⟨_, _, _, rfl, OwnR.nil _ _, S3.out.2.grown g5 S3.out.2.size (fun k e => by cases e; omega)⟩
  | true =>
    rw [hn] at c1
    rw [newS_yes hn]
    clear hn
    have HN := fun wx => snewH_any wx
    have CN : Hid (∀ wx, Calls Tryz.prog 46 #[] wx fun e w' => ∃ u, e = .returned (HV u Hd.new) ∧ Own w' wx.heap.size u Hd.new.ks ∧ Below wx.heap.size wx w') := HN
    clear HN
    unfold HV hdA at CN
    go_enter Tryz.func14, Tryz.ntmps14
    go_upto_region 1 with fail
    rw [← hw1]
    clear hw1
    go_wp2_with fail
    refine c1.mono ?_
    rintro e w2 ⟨a, b, rfl, o2, b2⟩
    obtain ⟨ao, ac, rfl⟩ := o2.1.reads.form
    obtain ⟨bo, bc, rfl⟩ := o2.2.1.reads.form
    obtain ⟨w3, hw3⟩ : ∃ w3, w3 = w2.alloc (.cells #[.slice ao (zerosI n).length ac, .slice bo (zerosI n).length bc] 26) := ⟨_, rfl⟩
    have b3 : Below w2.heap.size w2 w3 := by rw [hw3]; exact (Below.refl _ _).alloc (Nat.le_refl _) _
    have S3 : Hid (StB w3 w.heap.size 30 zeR ∧ Below w.heap.size w w3 ∧ StB w3 w2.heap.size 26 #[.slice ao (zerosI n).length ac, .slice bo (zerosI n).length bc] ∧ OwnD w3 (w.heap.size + 1) (.slice ao (zerosI n).length ac) (.slice bo (zerosI n).length bc) (zerosI n) (zerosI n) ∧ w.heap.size + 1 ≤ w2.heap.size ∧ w2.heap.size ≤ w3.heap.size) :=
      ⟨(S1.out.1.below b2).below b3, (S1.out.2.1.trans (b2.mono S1.out.2.1.size)).trans (b3.mono (Nat.le_trans S1.out.2.1.size b2.size)), by rw [hw3]; exact StB.new _ _ _, ⟨(o2.1.mono S1.out.2.2).below b3, (o2.2.1.mono S1.out.2.2).below b3, o2.2.2⟩, Nat.le_trans S1.out.2.2 b2.size, b3.size⟩
    clear S1 b2 b3 o2 c1
    go_upto_region 2 with fail
    rw [← hw3]
    clear hw3
    go_upto_region 4 with fail
    obtain ⟨g, hg⟩ : ∃ g, g = w2.heap.size := ⟨_, rfl⟩
    rw [← hg] at S3 ⊢
    clear hg
    have q0 : ∀ w', Sp w.heap.size w3 w' → w'.cell? ⟨g, 0, none⟩ = some (.slice ao (zerosI n).length ac) := fun w' b => b _ _ (by have := S3.out.2.2.2.2.1; dsimp only; omega) (S3.out.2.2.1.cell 0 rfl)
    have q1 : ∀ w', Sp w.heap.size w3 w' → w'.cell? ⟨g, 1, none⟩ = some (.slice bo (zerosI n).length bc) := fun w' b => b _ _ (by have := S3.out.2.2.2.2.1; dsimp only; omega) (S3.out.2.2.1.cell 1 rfl)
    go_region_held3 (fun w' => Sp w.heap.size w3 w') ((repeat' (first | with_reducible assumption | with_reducible exact Sp.refl _ _ | with_reducible refine Sp.al ?_ | with_reducible refine Sp.dr ?_ | with_reducible refine Sp.set ?_ | with_reducible refine Sp.put ?_ (by with_reducible assumption) | with_reducible refine Sp.bel ?_ (by with_reducible assumption))))
      (first
        | (go_at_call 46; refine (CN.out _).mono ?_; rintro e w4 ⟨z, rfl, o4, b4⟩; have hap : Hid (apart (.slice ao (zerosI n).length ac) z ∧ apart (.slice bo (zerosI n).length bc) z) := ⟨apart_of S3.out.2.2.2.1.1 o4 (bl_size (by repeat' (first | with_reducible assumption | with_reducible exact Below.refl _ _ | with_reducible refine bel_alloc ?_ | with_reducible refine bel_drew ?_ | with_reducible refine bel_trans ?_ (by with_reducible assumption)))), apart_of S3.out.2.2.2.1.2.1 o4 (bl_size (by repeat' (first | with_reducible assumption | with_reducible exact Below.refl _ _ | with_reducible refine bel_alloc ?_ | with_reducible refine bel_drew ?_ | with_reducible refine bel_trans ?_ (by with_reducible assumption))))⟩; obtain ⟨ko, kc, rfl⟩ := o4.reads.form; have B4 : Hid (Below w3.heap.size w3 w4) := (show Below w3.heap.size w3 w4 from (by repeat' (first | with_reducible assumption | with_reducible exact Below.refl _ _ | with_reducible refine bel_alloc ?_ | with_reducible refine bel_drew ?_ | with_reducible refine bel_trans ?_ (by with_reducible assumption)))); have O4 : Hid (OwnR w4 (w.heap.size + 1) (.slice ao (zerosI n).length ac) (.slice bo (zerosI n).length bc) (.slice ko Hd.new.ks.length kc) (zerosI n) (zerosI n) Hd.new.ks) := ⟨⟨S3.out.2.2.2.1.1.below B4.out, S3.out.2.2.2.1.2.1.below B4.out, S3.out.2.2.2.1.2.2⟩, o4.mono (Nat.le_trans S3.out.2.2.2.2.1 (Nat.le_trans S3.out.2.2.2.2.2 (bl_size (by repeat' (first | with_reducible assumption | with_reducible exact Below.refl _ _ | with_reducible refine bel_alloc ?_ | with_reducible refine bel_drew ?_ | with_reducible refine bel_trans ?_ (by with_reducible assumption)))))), hap.out⟩; have R4 := S3.out.1.below B4.out; have r0 : w4.cell? ⟨w.heap.size, 0, none⟩ = some (.slice none 0 0) := R4.cell 0 rfl; have f0 := R4.frozen 0; have r1 : w4.cell? ⟨w.heap.size, 1, none⟩ = some (.slice none 0 0) := R4.cell 1 rfl; have f1 := R4.frozen 1; have r2 : w4.cell? ⟨w.heap.size, 2, none⟩ = some (.slice none 0 0) := R4.cell 2 rfl; have f2 := R4.frozen 2; have r3 : w4.cell? ⟨w.heap.size, 3, none⟩ = some (.int .i64 0) := R4.cell 3 rfl; have f3 := R4.frozen 3; have r4 : w4.cell? ⟨w.heap.size, 4, none⟩ = some (.int .i64 0) := R4.cell 4 rfl; have f4 := R4.frozen 4; have r5 : w4.cell? ⟨w.heap.size, 5, none⟩ = some (.int .i64 0) := R4.cell 5 rfl; have f5 := R4.frozen 5; clear o4))
    all_goals
      go_wp2
      have R4 : StB w4 w.heap.size 30 zeR := S3.out.1.below B4.out
      have G6 := put6_grown w4 w.heap.size (.slice ao (zerosI n).length ac) (.slice bo (zerosI n).length bc) (.slice ko Hd.new.ks.length kc) Hd.new
      refine bodyPost_ret (results_S2 Tryz.isR rfl _ _ w.heap.size (srA (.slice ao (zerosI n).length ac) (.slice bo (zerosI n).length bc) (.slice ko Hd.new.ks.length kc) Hd.new) _ rfl rfl rfl (put6_st (.slice ao (zerosI n).length ac) (.slice bo (zerosI n).length bc) (.slice ko Hd.new.ks.length kc) Hd.new R4)) rfl ?_
      have B5 := S3.out.2.1.trans (B4.out.mono S3.out.2.1.size)
      exact ⟨_, _, _, rfl, (O4.out.keptLt G6 (by omega)).mono (by omega), B5.grown G6 B5.size (fun k e => by cases e; omega)⟩

/- The box of a store and the result. -/
structure Dp (w wx : World) (u v q : Value) (h : Hd) : Prop where
  st : StB wx w.heap.size 30 (srA u v q h)
  rs : StB wx (w.heap.size + 1) 30 zeR
  bl : Below w.heap.size w wx
  sz : w.heap.size + 2 ≤ wx.heap.size
theorem Dp.next {w wx wy : World} {u v q : Value} {h : Hd} (d : Dp w wx u v q h) (b : Below wx.heap.size wx wy) : Dp w wy u v q h :=
  ⟨d.st.below b, d.rs.below b, d.bl.trans (b.mono d.bl.size), Nat.le_trans d.sz b.size⟩
theorem Dp.grown {w wx wy : World} {u v q : Value} {h : Hd} {g : Nat} (d : Dp w wx u v q h) (b : wx.grownBy wy (some g)) (hg : w.heap.size + 2 ≤ g) : Dp w wy u v q h :=
  ⟨d.st.kept b (by simp; omega), d.rs.kept b (by simp; omega), d.bl.grown b d.bl.size (fun k e => by cases e; omega), Nat.le_trans d.sz b.size⟩
end Go.Proofs.YtpdggofaobmnlaaGreatDoor
