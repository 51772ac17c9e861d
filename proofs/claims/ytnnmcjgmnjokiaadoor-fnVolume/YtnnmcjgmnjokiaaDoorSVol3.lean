/- What the model does to a disk by a command, on: l11Did whatever the command, DidDisk. -/
import Derived.Test.YtnnmcjgmnjokiaaDoorSVol2
import Derived.Test.YtnnmcjgmnjokiaaDoorSDisk3
import Derived.Test.YtnnmcjgmnjokiaaDoorSVr
namespace Go.Proofs.YtnnmcjgmnjokiaaDoor
open Go.ChangeShapes Go.WideShapes Go.ChangeAt Go.RowKit

theorem drew_cell {w : World} {a : Addr} {v : Value} (h : w.cell? a = some v) : w.drew.cell? a = some v := h
theorem didI_range {xs ys : List Int} {c : Cm} (h5 : c.o ≠ 5) (h : rangeI ys c = true) : didI xs ys c = (xs, ys, ⟨1, []⟩) := by simp [didI, h5, h]
theorem sdid_any (u v : Value) (xs ys : List Int) (c : Cm) (w : World) (h : Reads w u xs) (h' : Reads w v ys) (hb : bothOk xs ys = true) (hc : c.ok = true) (h5 : c.o ≤ 5) :
    Calls Tryd.prog 35 #[.agg #[u, v], CV c] w fun e w' => ∃ a b, e = .returned (.tuple #[.agg #[a, b], AV (didI xs ys c).2.2]) ∧ OwnD w' w.heap.size a b (didI xs ys c).1 (didI xs ys c).2.1 ∧ Below w.heap.size w w' := by
  obtain ⟨ho, hp0⟩ := Cm.ok_vol hc h5
  obtain ⟨o, p, x, y, k0⟩ := c
  dsimp only at ho hp0
  by_cases e5 : o = 5
  · subst e5
    have e : didI xs ys ⟨5, p, x, y, k0⟩ = (ys, ys, ⟨0, []⟩) := by simp [didI]
    rw [e]
    exact s11sync_any u v xs ys p x y k0 w h h' hb
  · by_cases hf : (ys.length : Int) ≤ p
    · rw [didI_range (by exact e5) (by simp [rangeI, hf])]
      exact s11far_any u v xs ys o p x y k0 w h h' hb (by simpa using e5) hf
    · obtain ⟨j, rfl⟩ : ∃ j : Nat, p = (j : Int) := ⟨p.toNat, by omega⟩
      have hj : (j : Int) < (ys.length : Int) := by omega
      have hjt : ((j : Int)).toNat = j := by omega
      rcases ho with rfl | rfl | rfl | rfl | rfl
      · have e : didI xs ys ⟨1, j, x, y, k0⟩ = (xs, ys, ⟨0, decI (ys.getD j 0)⟩) := by
          have : rangeI ys ⟨1, j, x, y, k0⟩ = false := by simp [rangeI]; omega
          simp [didI, this, atI]
        rw [e]
        exact s11read_any u v xs ys j x y k0 w h h' hb hj
      · cases hv : valOk x with
        | false =>
          rw [didI_range (by simp) (by simp [rangeI, hv])]
          exact s11wide2_any u v xs ys j x y k0 w h h' hb hj hv
        | true =>
          have e : didI xs ys ⟨2, j, x, y, k0⟩ = (xs, ys.set j x, ⟨0, []⟩) := by
            have : rangeI ys ⟨2, j, x, y, k0⟩ = false := by simp [rangeI, hv]; omega
            simp [didI, this]
          rw [e]
          exact s11write_any u v xs ys j x y k0 w h h' hb hj hv
      · cases hv : valOk y with
        | false =>
          rw [didI_range (by simp) (by simp [rangeI, hv])]
          exact s11wide3_any u v xs ys j x y k0 w h h' hb hj hv
        | true =>
          have hr : rangeI ys ⟨3, j, x, y, k0⟩ = false := by simp [rangeI, hv]; omega
          by_cases he : ys.getD j 0 = x
          · have e : didI xs ys ⟨3, j, x, y, k0⟩ = (xs, ys.set j y, ⟨0, []⟩) := by
              unfold didI atI
              dsimp only
              rw [if_neg (by decide), hr, hjt, he]
              simp
            rw [e]
            exact s11swap_any u v xs ys j x y k0 w h h' hb hj hv he
          · have e : didI xs ys ⟨3, j, x, y, k0⟩ = (xs, ys, ⟨2, decI (ys.getD j 0)⟩) := by
              unfold didI atI
              dsimp only
              rw [if_neg (by decide), hr, hjt, if_neg he]
              simp
            rw [e]
            exact s11unlike_any u v xs ys j x y k0 w h h' hb hj hv he
      · have e : didI xs ys ⟨4, j, x, y, k0⟩ = (xs, ys.set j 0, ⟨0, []⟩) := by
          have : rangeI ys ⟨4, j, x, y, k0⟩ = false := by simp [rangeI]; omega
          simp [didI, this]
        rw [e]
        exact s11unmap_any u v xs ys j x y k0 w h h' hb hj
      · exact absurd rfl e5

set_option maxRecDepth 20000 in
set_option maxHeartbeats 2000000 in
theorem sDidDisk_any (u v : Value) (xs ys : List Int) (c : Cm) (w : World) (h : Reads w u xs) (h' : Reads w v ys) (gx : xs.length ≤ 1099511627776) (gy : ys.length ≤ 1099511627776) :
    Calls Tryd.prog 8 #[.agg #[u, v], CV c] w fun e w' => ∃ a b, e = .returned (.tuple #[.agg #[a, b], AV (didD xs ys c).2.2]) ∧ OwnD w' w.heap.size a b (didD xs ys c).1 (didD xs ys c).2.1 ∧ Below w.heap.size w w' := by
  obtain ⟨w1, hw1⟩ : ∃ w1, w1 = (((w.alloc (.cells #[u, v] 26)).alloc (.cells (cmA c) 28)).alloc (.cells #[.slice none 0 0, .slice none 0 0] 26)).alloc (.cells #[.int .i64 0, .string ⟨#[]⟩] 32) := ⟨_, rfl⟩
  obtain ⟨w2, hw2⟩ : ∃ w2, w2 = w1.alloc (.cells #[.int .i64 7, .string ⟨#[]⟩] 32) := ⟨_, rfl⟩
  have HV1 : Hid (Vl w w1 u v c zeD ⟨0, []⟩) := by rw [hw1]; exact Vl.start w u v c
  have HV : Hid (Vl w w2 u v c zeD ⟨0, []⟩) := by rw [hw2]; exact HV1.out.next (belowAlloc _ _)
  have HN : Hid (StB w2 w1.heap.size 32 (anA ⟨7, []⟩)) := by rw [hw2]; exact StB.new _ _ _
  have RR : Hid (Reads w2 u xs ∧ Reads w2 v ys) := ⟨h.below HV.out.bl (Nat.le_refl _), h'.below HV.out.bl (Nat.le_refl _)⟩
  have HG : Hid (w.heap.size + 4 ≤ w1.heap.size) := HV1.out.sz
  have c1 := sdiskOk_any u v xs ys w2 RR.out.1 RR.out.2 gx gy
  obtain ⟨uo, uc, rfl⟩ := h.form
  obtain ⟨vo, vc, rfl⟩ := h'.form
  have HLX : Hid (xs.length ≤ 1099511627776 ∧ ys.length ≤ 1099511627776) := ⟨gx, gy⟩
  clear h h' gx gy HV1
  unfold CV
  unfold cmA at hw1 ⊢
  go_enter Tryd.func8, Tryd.ntmps8
  go_upto_region 2 with fail
  rw [← hw1, ← hw2]
  have hsz : w1.heap.size = w.heap.size + 1 + 1 + 1 + 1 := by rw [hw1]; simp
  rw [hsz] at HN HG
  clear hw1 hw2 hsz
  obtain ⟨kn, hkn⟩ : ∃ kn, kn = w.heap.size + 1 + 1 + 1 + 1 := ⟨_, rfl⟩
  rw [← hkn] at HN HG ⊢
  have hn2 : kn ≠ w.heap.size + 1 + 1 := by omega
  have hn3 : kn ≠ w.heap.size + 1 + 1 + 1 := by omega
  clear hkn
  go_wp2_with (first | (refine wpList_getS Tryd.isD rfl _ rfl w.heap.size rfl _ rfl HV.out.dk ?_))
  refine c1.mono ?_
  rintro e w3 ⟨rfl, b3⟩
  replace HV : Hid (Vl w w3 (.slice uo xs.length uc) (.slice vo ys.length vc) c zeD ⟨0, []⟩) := HV.out.next b3
  replace HN : Hid (StB w3 kn 32 (anA ⟨7, []⟩)) := HN.out.below b3
  replace RR : Hid (Reads w3 (.slice uo xs.length uc) xs ∧ Reads w3 (.slice vo ys.length vc) ys) := ⟨RR.out.1.below b3 (Nat.le_refl _), RR.out.2.below b3 (Nat.le_refl _)⟩
  clear c1 b3
  cases hb : bothOk xs ys with
  | false =>
    have HE : Hid (didD xs ys c = ([], [], ⟨7, []⟩)) := by simp [Hid, didD, hb]
    clear hb
    go_upto_region 3 with fail
    have HVD := HV.out.drew
    have n0 : w3.cell? ⟨kn, 0, none⟩ = some (.int .i64 7) := HN.out.cell 0 rfl
    have n1 : w3.cell? ⟨kn, 1, none⟩ = some (.string ⟨#[]⟩) := HN.out.cell 1 rfl
    have d0 : w3.drew.cell? ⟨kn, 0, none⟩ = some (.int .i64 7) := n0
    have d1 : w3.drew.cell? ⟨kn, 1, none⟩ = some (.string ⟨#[]⟩) := n1
    have rd0 : w3.drew.cell? ⟨w.heap.size + 1 + 1, 0, none⟩ = some (.slice none 0 0) := HVD.rd.cell 0 rfl
    have rd1 : w3.drew.cell? ⟨w.heap.size + 1 + 1, 1, none⟩ = some (.slice none 0 0) := HVD.rd.cell 1 rfl
    have frd0 := HVD.rd.frozen 0
    have frd1 := HVD.rd.frozen 1
    have ra0 : w3.drew.cell? ⟨w.heap.size + 1 + 1 + 1, 0, none⟩ = some (.int .i64 0) := HVD.ra.cell 0 rfl
    have ra1 : w3.drew.cell? ⟨w.heap.size + 1 + 1 + 1, 1, none⟩ = some (.string ⟨#[]⟩) := HVD.ra.cell 1 rfl
    have fra0 := HVD.ra.frozen 0
    have fra1 := HVD.ra.frozen 1
    have rd0' : w3.cell? ⟨w.heap.size + 1 + 1, 0, none⟩ = some (.slice none 0 0) := HV.out.rd.cell 0 rfl
    have frd0' := HV.out.rd.frozen 0
    have rd1' : w3.cell? ⟨w.heap.size + 1 + 1, 1, none⟩ = some (.slice none 0 0) := HV.out.rd.cell 1 rfl
    have frd1' := HV.out.rd.frozen 1
    have ra0' : w3.cell? ⟨w.heap.size + 1 + 1 + 1, 0, none⟩ = some (.int .i64 0) := HV.out.ra.cell 0 rfl
    have fra0' := HV.out.ra.frozen 0
    have ra1' : w3.cell? ⟨w.heap.size + 1 + 1 + 1, 1, none⟩ = some (.string ⟨#[]⟩) := HV.out.ra.cell 1 rfl
    have fra1' := HV.out.ra.frozen 1
    have hkl := HG.out
    have HD : Hid (Vl w w3.drew (.slice uo xs.length uc) (.slice vo ys.length vc) c zeD ⟨0, []⟩) := HVD
    clear HVD
    go_region_held3 (fun w' => w'.cell? ⟨kn, 0, none⟩ = some (.int .i64 7) ∧ w'.cell? ⟨kn, 1, none⟩ = some (.string ⟨#[]⟩)) (refine ⟨?_, ?_⟩ <;> first | with_reducible assumption | (with_reducible refine cell_put2 hn2 ?_; with_reducible assumption) | (with_reducible refine cell_put2 hn3 ?_; with_reducible refine cell_put2 hn2 ?_; with_reducible assumption) | (with_reducible refine drew_cell ?_; with_reducible refine cell_put2 hn2 ?_; with_reducible assumption) | (with_reducible refine drew_cell ?_; with_reducible refine cell_put2 hn3 ?_; with_reducible refine cell_put2 hn2 ?_; with_reducible assumption))
      (fail)
    all_goals
      go_wp2
      have S5 := (HD.out.rd.put 0 (.slice none 0 0) rfl).put 1 (.slice none 0 0) (ds := zeD) rfl
      have G5 := (grownSet w3.drew (w.heap.size + 1 + 1) 0 (.slice none 0 0)).trans (grownSet _ (w.heap.size + 1 + 1) 1 (.slice none 0 0))
      have S6 := ((HD.out.ra.kept G5 (by simp)).put 0 (.int .i64 7) rfl).put 1 (.string ⟨#[]⟩) (ds := anA ⟨7, []⟩) rfl
      have G6 := (grownSet ((w3.drew.setCell ⟨w.heap.size + 1 + 1, 0, none⟩ (.slice none 0 0)).setCell ⟨w.heap.size + 1 + 1, 1, none⟩ (.slice none 0 0)) (w.heap.size + 1 + 1 + 1) 0 (.int .i64 7)).trans (grownSet _ (w.heap.size + 1 + 1 + 1) 1 (.string ⟨#[]⟩))
      refine bodyPost_ret (results_DA rfl _ _ (w.heap.size + 1 + 1) (w.heap.size + 1 + 1 + 1) _ _ rfl rfl rfl rfl (S5.kept G6 (by simp)) S6) rfl ?_
      rw [HE.out]
      refine ⟨_, _, rfl, ?_, ?_⟩
      · exact ownNil2 _ _
      · have b5 := HD.out.bl.grown G5 HD.out.bl.size (fun k e => by cases e; omega)
        exact b5.grown G6 b5.size (fun k e => by cases e; omega)
  | true =>
    have c2 := scmdok_any c w3
    cases hc : (c.ok && decide (c.o ≤ 5)) with
    | true =>
      obtain ⟨k1, k2⟩ : c.ok = true ∧ c.o ≤ 5 := by simpa using hc
      have HE : Hid (didD xs ys c = didI xs ys c) := by simp [Hid, didD, hb, k1, k2]
      have c3 := fun wx (r1 : Reads wx (.slice uo xs.length uc) xs) (r2 : Reads wx (.slice vo ys.length vc) ys) => sdid_any (.slice uo xs.length uc) (.slice vo ys.length vc) xs ys c wx r1 r2 hb k1 k2
      rw [k1] at c2
      obtain ⟨D, hD⟩ : ∃ D, D = didI xs ys c := ⟨_, rfl⟩
      rw [← hD] at HE
      simp only [← hD] at c3
      clear hD
      obtain ⟨xs', ys', an⟩ := D
      dsimp only at c3
      have C3 : Hid _ := c3
      have hgt : decide (5 < c.o) = false := by simpa using k2
      have hle : ¬ 5 < c.o := by omega
      clear hb hc k1 k2 c3
      go_upto_region 4 with fail
      have HVc := HV.out.cm
      go_wp2_with (first | (refine wpList_getC rfl _ rfl (w.heap.size + 1) rfl c HVc ?_))
      refine c2.mono ?_
      rintro e w4 ⟨rfl, b4⟩
      replace HV : Hid (Vl w w4 (.slice uo xs.length uc) (.slice vo ys.length vc) c zeD ⟨0, []⟩) := HV.out.next b4
      replace RR : Hid (Reads w4 (.slice uo xs.length uc) xs ∧ Reads w4 (.slice vo ys.length vc) ys) := ⟨RR.out.1.below b4 (Nat.le_refl _), RR.out.2.below b4 (Nat.le_refl _)⟩
      have m0 : w4.cell? ⟨w.heap.size + 1, 0, none⟩ = some (.int .i64 c.o) := HV.out.cm.cell 0 rfl
      clear c2 b4 HVc
      go_upto_region 6 with fail
      clear m0
      have HVc := HV.out.cm
      have c4 := C3.out w4 RR.out.1 RR.out.2
      unfold CV cmA at c4
      go_wp2_with (first | (refine wpList_getS Tryd.isD rfl _ rfl w.heap.size rfl _ rfl HV.out.dk ?_) | (refine wpList_getC rfl _ rfl (w.heap.size + 1) rfl c HVc ?_; unfold CV cmA))
      refine c4.mono ?_
      rintro e w5 ⟨a, b, rfl, o5, b5⟩
      have H5 : Hid (Vl w w5 (.slice uo xs.length uc) (.slice vo ys.length vc) c zeD ⟨0, []⟩) := HV.out.next b5
      have O5 : Hid (OwnD w5 (w.heap.size + 4) a b xs' ys') := ⟨o5.1.mono HV.out.sz, o5.2.1.mono HV.out.sz, o5.2.2⟩
      obtain ⟨ao, ac, rfl⟩ := o5.1.reads.form
      obtain ⟨bo, bc, rfl⟩ := o5.2.1.reads.form
      clear c4 C3 o5 b5 HVc HV
      unfold AV
      go_wp2_with (first | (refine wpList_putS Tryd.isD rfl _ _ rfl (w.heap.size + 1 + 1) #[.slice ao xs'.length ac, .slice bo ys'.length bc] zeD rfl rfl rfl rfl (dkA_one rfl rfl) H5.out.rd ?_; intro w6 s6 g6) | (refine wpList_putS Tryd.isA rfl _ _ rfl (w.heap.size + 1 + 1 + 1) (anA an) (anA ⟨0, []⟩) rfl rfl rfl rfl (anA_one _) (H5.out.ra.kept g6 (by simp)) ?_; intro w7 s7 g7))
      refine bodyPost_ret (results_DA rfl _ _ (w.heap.size + 1 + 1) (w.heap.size + 1 + 1 + 1) _ _ rfl rfl rfl rfl (s6.kept g7 (by simp)) s7) rfl ?_
      rw [HE.out]
      exact ⟨_, _, rfl, H5.out.fin O5.out.1 O5.out.2.1 (Nat.le_refl _) O5.out.2.2 g6 g7⟩
    | false =>
      have HE : Hid (didD xs ys c = (xs, ys, ⟨7, []⟩)) := by
        unfold didD
        rw [Hid, hb, hc]
        simp
      have hgo : c.ok = true → decide (5 < c.o) = true ∧ 5 < c.o := fun e => by
        rw [e, Bool.true_and] at hc
        have : ¬ c.o ≤ 5 := by simpa using hc
        simp; omega
      have HGO : Hid (c.ok = true → decide (5 < c.o) = true ∧ 5 < c.o) := hgo
      obtain ⟨ok, hok⟩ : ∃ ok, ok = c.ok := ⟨_, rfl⟩
      rw [← hok] at c2 HGO
      clear hb hc hgo hok
      go_upto_region 4 with fail
      have HVc := HV.out.cm
      go_wp2_with (first | (refine wpList_getC rfl _ rfl (w.heap.size + 1) rfl c HVc ?_))
      refine c2.mono ?_
      rintro e w4 ⟨rfl, b4⟩
      replace HV : Hid (Vl w w4 (.slice uo xs.length uc) (.slice vo ys.length vc) c zeD ⟨0, []⟩) := HV.out.next b4
      replace HN : Hid (StB w4 kn 32 (anA ⟨7, []⟩)) := HN.out.below b4
      replace RR : Hid (Reads w4 (.slice uo xs.length uc) xs ∧ Reads w4 (.slice vo ys.length vc) ys) := ⟨RR.out.1.below b4 (Nat.le_refl _), RR.out.2.below b4 (Nat.le_refl _)⟩
      have m0 : w4.cell? ⟨w.heap.size + 1, 0, none⟩ = some (.int .i64 c.o) := HV.out.cm.cell 0 rfl
      clear c2 b4 HVc
      have HD : Hid (Vl w w4.drew (.slice uo xs.length uc) (.slice vo ys.length vc) c zeD ⟨0, []⟩) := HV.out.drew
      have ND : Hid (StB w4.drew kn 32 (anA ⟨7, []⟩)) := HN.out
      have RD : Hid (Reads w4.drew (.slice uo xs.length uc) xs ∧ Reads w4.drew (.slice vo ys.length vc) ys) := RR.out
      have CC : Hid (∀ wx, Reads wx (.slice uo xs.length uc) xs ∧ Reads wx (.slice vo ys.length vc) ys → _) := fun wx r => l3Copy_any (.slice uo xs.length uc) (.slice vo ys.length vc) xs ys wx r.1 r.2 HLX.out.1 HLX.out.2
      cases ok with
      | false =>
        go_upto_region 5 with fail
        clear m0
        have hd2 : w.heap.size ≠ w.heap.size + 1 + 1 := by omega
        have hd3 : w.heap.size ≠ w.heap.size + 1 + 1 + 1 := by omega
        have pa0 : w4.cell? ⟨w.heap.size, 0, none⟩ = some (.slice uo xs.length uc) := HV.out.dk.cell 0 rfl
        have pa1 : w4.cell? ⟨w.heap.size, 1, none⟩ = some (.slice vo ys.length vc) := HV.out.dk.cell 1 rfl
        have pa2 : w4.cell? ⟨kn, 0, none⟩ = some (.int .i64 7) := HN.out.cell 0 rfl
        have pa3 : w4.cell? ⟨kn, 1, none⟩ = some (.string ⟨#[]⟩) := HN.out.cell 1 rfl
        have pd0 : w4.drew.cell? ⟨w.heap.size, 0, none⟩ = some (.slice uo xs.length uc) := HD.out.dk.cell 0 rfl
        have pd1 : w4.drew.cell? ⟨w.heap.size, 1, none⟩ = some (.slice vo ys.length vc) := HD.out.dk.cell 1 rfl
        have pd2 : w4.drew.cell? ⟨kn, 0, none⟩ = some (.int .i64 7) := ND.out.cell 0 rfl
        have pd3 : w4.drew.cell? ⟨kn, 1, none⟩ = some (.string ⟨#[]⟩) := ND.out.cell 1 rfl
        go_region_held3 (fun w' => w'.cell? ⟨w.heap.size, 0, none⟩ = some (.slice uo xs.length uc) ∧ w'.cell? ⟨w.heap.size, 1, none⟩ = some (.slice vo ys.length vc) ∧ w'.cell? ⟨kn, 0, none⟩ = some (.int .i64 7) ∧ w'.cell? ⟨kn, 1, none⟩ = some (.string ⟨#[]⟩)) (refine ⟨?_, ?_, ?_, ?_⟩ <;> first | with_reducible assumption | (with_reducible refine cell_put2 hn2 ?_; with_reducible assumption) | (with_reducible refine cell_put2 hd2 ?_; with_reducible assumption) | (with_reducible refine cell_put2 hn3 ?_; with_reducible refine cell_put2 hn2 ?_; with_reducible assumption) | (with_reducible refine cell_put2 hd3 ?_; with_reducible refine cell_put2 hd2 ?_; with_reducible assumption) | (with_reducible refine drew_cell ?_; with_reducible refine cell_put2 hn2 ?_; with_reducible assumption) | (with_reducible refine drew_cell ?_; with_reducible refine cell_put2 hd2 ?_; with_reducible assumption) | (with_reducible refine drew_cell ?_; with_reducible refine cell_put2 hn3 ?_; with_reducible refine cell_put2 hn2 ?_; with_reducible assumption) | (with_reducible refine drew_cell ?_; with_reducible refine cell_put2 hd3 ?_; with_reducible refine cell_put2 hd2 ?_; with_reducible assumption))
          (first | (go_at_call 34; refine (CC.out _ RD.out).mono ?_; rintro e w5 ⟨a, b, rfl, o5, b5⟩; obtain ⟨ao, ac, rfl⟩ := o5.1.reads.form; obtain ⟨bo, bc, rfl⟩ := o5.2.1.reads.form; have H5 : Hid (Vl w w5 (.slice uo xs.length uc) (.slice vo ys.length vc) c zeD ⟨0, []⟩) := HD.out.next b5; have N5 : Hid (StB w5 kn 32 (anA ⟨7, []⟩)) := ND.out.below b5; have O5 : Hid (OwnD w5 (w.heap.size + 4) (.slice ao xs.length ac) (.slice bo ys.length bc) xs ys) := ⟨o5.1.mono HD.out.sz, o5.2.1.mono HD.out.sz, o5.2.2⟩; have pe0 : w5.cell? ⟨w.heap.size, 0, none⟩ = some (.slice uo xs.length uc) := H5.out.dk.cell 0 rfl; have pe1 : w5.cell? ⟨w.heap.size, 1, none⟩ = some (.slice vo ys.length vc) := H5.out.dk.cell 1 rfl; have pe2 : w5.cell? ⟨kn, 0, none⟩ = some (.int .i64 7) := N5.out.cell 0 rfl; have pe3 : w5.cell? ⟨kn, 1, none⟩ = some (.string ⟨#[]⟩) := N5.out.cell 1 rfl; have rd0 : w5.cell? ⟨w.heap.size + 1 + 1, 0, none⟩ = some (.slice none 0 0) := H5.out.rd.cell 0 rfl; have frd0 := H5.out.rd.frozen 0; have rd1 : w5.cell? ⟨w.heap.size + 1 + 1, 1, none⟩ = some (.slice none 0 0) := H5.out.rd.cell 1 rfl; have frd1 := H5.out.rd.frozen 1; have ra0 : w5.cell? ⟨w.heap.size + 1 + 1 + 1, 0, none⟩ = some (.int .i64 0) := H5.out.ra.cell 0 rfl; have fra0 := H5.out.ra.frozen 0; have ra1 : w5.cell? ⟨w.heap.size + 1 + 1 + 1, 1, none⟩ = some (.string ⟨#[]⟩) := H5.out.ra.cell 1 rfl; have fra1 := H5.out.ra.frozen 1; clear o5 b5))
        all_goals
          go_wp2
          have S5 := (H5.out.rd.put 0 (.slice ao xs.length ac) rfl).put 1 (.slice bo ys.length bc) (ds := #[.slice ao xs.length ac, .slice bo ys.length bc]) rfl
          have G5 := (grownSet w5 (w.heap.size + 1 + 1) 0 (.slice ao xs.length ac)).trans (grownSet _ (w.heap.size + 1 + 1) 1 (.slice bo ys.length bc))
          have S6 := ((H5.out.ra.kept G5 (by simp)).put 0 (.int .i64 7) rfl).put 1 (.string ⟨#[]⟩) (ds := anA ⟨7, []⟩) rfl
          have G6 := (grownSet ((w5.setCell ⟨w.heap.size + 1 + 1, 0, none⟩ (.slice ao xs.length ac)).setCell ⟨w.heap.size + 1 + 1, 1, none⟩ (.slice bo ys.length bc)) (w.heap.size + 1 + 1 + 1) 0 (.int .i64 7)).trans (grownSet _ (w.heap.size + 1 + 1 + 1) 1 (.string ⟨#[]⟩))
          refine bodyPost_ret (results_DA rfl _ _ (w.heap.size + 1 + 1) (w.heap.size + 1 + 1 + 1) _ _ rfl rfl rfl rfl (S5.kept G6 (by simp)) S6) rfl ?_
          rw [HE.out]
          exact ⟨_, _, rfl, H5.out.fin O5.out.1 O5.out.2.1 (Nat.le_refl _) O5.out.2.2 G5 G6⟩
      | true =>
        obtain ⟨g1, g2⟩ := HGO.out rfl
        go_upto_region 5 with fail
        clear m0
        have hd2 : w.heap.size ≠ w.heap.size + 1 + 1 := by omega
        have hd3 : w.heap.size ≠ w.heap.size + 1 + 1 + 1 := by omega
        have pa0 : w4.cell? ⟨w.heap.size, 0, none⟩ = some (.slice uo xs.length uc) := HV.out.dk.cell 0 rfl
        have pa1 : w4.cell? ⟨w.heap.size, 1, none⟩ = some (.slice vo ys.length vc) := HV.out.dk.cell 1 rfl
        have pa2 : w4.cell? ⟨kn, 0, none⟩ = some (.int .i64 7) := HN.out.cell 0 rfl
        have pa3 : w4.cell? ⟨kn, 1, none⟩ = some (.string ⟨#[]⟩) := HN.out.cell 1 rfl
        have pd0 : w4.drew.cell? ⟨w.heap.size, 0, none⟩ = some (.slice uo xs.length uc) := HD.out.dk.cell 0 rfl
        have pd1 : w4.drew.cell? ⟨w.heap.size, 1, none⟩ = some (.slice vo ys.length vc) := HD.out.dk.cell 1 rfl
        have pd2 : w4.drew.cell? ⟨kn, 0, none⟩ = some (.int .i64 7) := ND.out.cell 0 rfl
        have pd3 : w4.drew.cell? ⟨kn, 1, none⟩ = some (.string ⟨#[]⟩) := ND.out.cell 1 rfl
        go_region_held3 (fun w' => w'.cell? ⟨w.heap.size, 0, none⟩ = some (.slice uo xs.length uc) ∧ w'.cell? ⟨w.heap.size, 1, none⟩ = some (.slice vo ys.length vc) ∧ w'.cell? ⟨kn, 0, none⟩ = some (.int .i64 7) ∧ w'.cell? ⟨kn, 1, none⟩ = some (.string ⟨#[]⟩)) (refine ⟨?_, ?_, ?_, ?_⟩ <;> first | with_reducible assumption | (with_reducible refine cell_put2 hn2 ?_; with_reducible assumption) | (with_reducible refine cell_put2 hd2 ?_; with_reducible assumption) | (with_reducible refine cell_put2 hn3 ?_; with_reducible refine cell_put2 hn2 ?_; with_reducible assumption) | (with_reducible refine cell_put2 hd3 ?_; with_reducible refine cell_put2 hd2 ?_; with_reducible assumption) | (with_reducible refine drew_cell ?_; with_reducible refine cell_put2 hn2 ?_; with_reducible assumption) | (with_reducible refine drew_cell ?_; with_reducible refine cell_put2 hd2 ?_; with_reducible assumption) | (with_reducible refine drew_cell ?_; with_reducible refine cell_put2 hn3 ?_; with_reducible refine cell_put2 hn2 ?_; with_reducible assumption) | (with_reducible refine drew_cell ?_; with_reducible refine cell_put2 hd3 ?_; with_reducible refine cell_put2 hd2 ?_; with_reducible assumption))
          (first | (go_at_call 34; refine (CC.out _ RD.out).mono ?_; rintro e w5 ⟨a, b, rfl, o5, b5⟩; obtain ⟨ao, ac, rfl⟩ := o5.1.reads.form; obtain ⟨bo, bc, rfl⟩ := o5.2.1.reads.form; have H5 : Hid (Vl w w5 (.slice uo xs.length uc) (.slice vo ys.length vc) c zeD ⟨0, []⟩) := HD.out.next b5; have N5 : Hid (StB w5 kn 32 (anA ⟨7, []⟩)) := ND.out.below b5; have O5 : Hid (OwnD w5 (w.heap.size + 4) (.slice ao xs.length ac) (.slice bo ys.length bc) xs ys) := ⟨o5.1.mono HD.out.sz, o5.2.1.mono HD.out.sz, o5.2.2⟩; have pe0 : w5.cell? ⟨w.heap.size, 0, none⟩ = some (.slice uo xs.length uc) := H5.out.dk.cell 0 rfl; have pe1 : w5.cell? ⟨w.heap.size, 1, none⟩ = some (.slice vo ys.length vc) := H5.out.dk.cell 1 rfl; have pe2 : w5.cell? ⟨kn, 0, none⟩ = some (.int .i64 7) := N5.out.cell 0 rfl; have pe3 : w5.cell? ⟨kn, 1, none⟩ = some (.string ⟨#[]⟩) := N5.out.cell 1 rfl; have rd0 : w5.cell? ⟨w.heap.size + 1 + 1, 0, none⟩ = some (.slice none 0 0) := H5.out.rd.cell 0 rfl; have frd0 := H5.out.rd.frozen 0; have rd1 : w5.cell? ⟨w.heap.size + 1 + 1, 1, none⟩ = some (.slice none 0 0) := H5.out.rd.cell 1 rfl; have frd1 := H5.out.rd.frozen 1; have ra0 : w5.cell? ⟨w.heap.size + 1 + 1 + 1, 0, none⟩ = some (.int .i64 0) := H5.out.ra.cell 0 rfl; have fra0 := H5.out.ra.frozen 0; have ra1 : w5.cell? ⟨w.heap.size + 1 + 1 + 1, 1, none⟩ = some (.string ⟨#[]⟩) := H5.out.ra.cell 1 rfl; have fra1 := H5.out.ra.frozen 1; clear o5 b5))
        all_goals
          go_wp2
          have S5 := (H5.out.rd.put 0 (.slice ao xs.length ac) rfl).put 1 (.slice bo ys.length bc) (ds := #[.slice ao xs.length ac, .slice bo ys.length bc]) rfl
          have G5 := (grownSet w5 (w.heap.size + 1 + 1) 0 (.slice ao xs.length ac)).trans (grownSet _ (w.heap.size + 1 + 1) 1 (.slice bo ys.length bc))
          have S6 := ((H5.out.ra.kept G5 (by simp)).put 0 (.int .i64 7) rfl).put 1 (.string ⟨#[]⟩) (ds := anA ⟨7, []⟩) rfl
          have G6 := (grownSet ((w5.setCell ⟨w.heap.size + 1 + 1, 0, none⟩ (.slice ao xs.length ac)).setCell ⟨w.heap.size + 1 + 1, 1, none⟩ (.slice bo ys.length bc)) (w.heap.size + 1 + 1 + 1) 0 (.int .i64 7)).trans (grownSet _ (w.heap.size + 1 + 1 + 1) 1 (.string ⟨#[]⟩))
          refine bodyPost_ret (results_DA rfl _ _ (w.heap.size + 1 + 1) (w.heap.size + 1 + 1 + 1) _ _ rfl rfl rfl rfl (S5.kept G6 (by simp)) S6) rfl ?_
          rw [HE.out]
          exact ⟨_, _, rfl, H5.out.fin O5.out.1 O5.out.2.1 (Nat.le_refl _) O5.out.2.2 G5 G6⟩

set_option maxRecDepth 20000 in
set_option maxHeartbeats 1000000 in
theorem eqAnswer_self (x : An) (w : World) :
    Calls Tryd.prog 24 #[AV x, AV x] w fun e w' => e = .returned (.bool true) ∧ Below w.heap.size w w' := by
  obtain ⟨st, tx⟩ := x
  have hb : Hid (Below w.heap.size w ((w.alloc (.cells (anA ⟨st, tx⟩) 32)).alloc (.cells (anA ⟨st, tx⟩) 32))) := ((Below.refl _ _).alloc (Nat.le_refl _) _).alloc (by simp) _
  have e1 : (st != st) = false := by simp
  have e2 : (tx == tx) = true := by simp
  unfold AV anA S at *
  dsimp only at *
  go_enter Tryd.func24, Tryd.ntmps24
  go_wp2
  go_ret
  exact ⟨rfl, hb.out⟩
end Go.Proofs.YtnnmcjgmnjokiaaDoor
