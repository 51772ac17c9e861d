/- The program's Written, Flushed and Lost. -/
import Derived.Test.YteooloceaoinlaaDoorM23
import Derived.Test.YteooloceaoinlaaDoorM24
namespace Go.Proofs.YteooloceaoinlaaDoor
open Go.ChangeShapes Go.WideShapes Go.ChangeAt Go.RowKit

/- 'copy' of a list onto one of the call's own that is as long. -/
theorem run_copyL (w : World) (ty : TypeId) (u v : Value) (xs ys : List Int) (base : Nat) (ou : Own w base u xs) (rv : Reads w v ys) (hl : ys.length = xs.length) (h1 : 1 ≤ xs.length) :
    ∃ w', (Builtin.copy_ #[22, 22] ty #[u, v]).run Tryd.prog w = .ok (goInt xs.length) w' ∧ Own w' base u ys ∧ w.grownBy w' u.ownBlock := by
  rcases ou.2 with ⟨_, h0⟩ | ⟨g, cap, cur, rfl, hb, hg, hnc, hcm, hcs, ht⟩
  · omega
  · obtain ⟨ao, c2, rfl, _, _, hc⟩ := rv
    rcases hc with e | ⟨b, off, rfl, hcell⟩
    · subst e; simp at hl; omega
    · have hsz : (Tryd.prog.info? 2).map (·.size) = some 1 := by
        obtain ⟨i0, hi, hz0, hz1, hz2⟩ := info_parts Tryd.infoI
        simp [hi, hz1]
      have hsrc : ∀ j z, (ys.map (Value.int .i64))[j]? = some z → w.cell? ((⟨b, off, none⟩ : Addr).add j) = some z := by
        intro j z hj
        have hlt : j < ys.length := by
          rcases Nat.lt_or_ge j ys.length with h | h
          · exact h
          · rw [List.getElem?_eq_none (by simpa using h)] at hj; cases hj
        rw [show (⟨b, off, none⟩ : Addr).add j = ⟨b, off + j, none⟩ by unfold Addr.add; split <;> simp_all]
        rw [hcell j hlt]
        simp [List.getD, hlt] at hj ⊢
        exact hj
      have hone : ∀ z ∈ ys.map (Value.int .i64), z.oneCell' = true := by
        intro z hz
        obtain ⟨x, _, rfl⟩ := List.mem_map.1 hz
        rfl
      have hcz : cur.size = cap := by simpa using hcs
      have hrun := run_copy_row (P := Tryd.prog) w 22 22 ty 2 g 0 xs.length cap ⟨b, off, none⟩ ys.length c2 cur _ (ys.map (Value.int .i64)) Tryd.underlying22 hsz hg (by simp [hl]) hsrc (by simp; omega) hone
      rw [show goInt ((ys.map (Value.int .i64)).length : Nat) = goInt (xs.length : Nat) by simp [hl]] at hrun
      refine ⟨_, hrun, ⟨by simp, .inr ⟨g, cap, _, by rw [hl], hb, setRow_heap w g _ _ _ _ hg, by omega, hcm, ?_, ?_⟩⟩, ?_⟩
      · simp; omega
      · simp [hl]
      · exact grownRow w g _

theorem wpList_copyL {ops : Array Oper} {rest : List Oper} {o : Oper} {a : Act} {w : World} {Q : Exit → Act → World → Prop} (hgd : o.guard = none) (d s : Operand)
    (ho : o.op = .call { callee := .builtin .copy, args := #[d, s], argTypes := #[22, 22] }) (u v : Value) (xs ys : List Int) (base : Nat) (hd : a.eval d = u) (hs : a.eval s = v)
    (ou : Own w base u xs) (rv : Reads w v ys) (hl : ys.length = xs.length) (h1 : 1 ≤ xs.length)
    (h : ∀ w', Own w' base u ys → w.grownBy w' u.ownBlock → wpList Tryd.prog ops Q rest (a.put o.dst (goInt xs.length)) w') : wpList Tryd.prog ops Q (o :: rest) a w := by
  refine wpList_plain hgd fun K hK => ?_
  obtain ⟨w', hrun, h2, h3⟩ := run_copyL w o.type u v xs ys base ou rv hl h1
  unfold Oper.wp
  simp [execOp, ho, resolve, invoke, builtin, hd, hs, hrun, Result.andThen]
  exact hK _ _ (h w' h2 h3)

theorem step_copyL {ops : Array Oper} {o : Oper} {a : Act} {w : World} {K : Act → World → Prop} {Q : Exit → Act → World → Prop} {E : Prop} (hgd : o.guard = none) (d s : Operand)
    (ho : o.op = .call { callee := .builtin .copy, args := #[d, s], argTypes := #[22, 22] }) (u v : Value) (xs ys : List Int) (base : Nat) (hd : a.eval d = u) (hs : a.eval s = v)
    (ou : Own w base u xs) (rv : Reads w v ys) (hl : ys.length = xs.length) (h1 : 1 ≤ xs.length)
    (h : ∀ w', Own w' base u ys → w.grownBy w' u.ownBlock → K (a.put o.dst (goInt xs.length)) w') : if Region.wanted o (yielded ops a.tmps) = true then Oper.wp Tryd.prog o a w K Q else E := by
  have hw : Region.wanted o (yielded ops a.tmps) = true := by simp [Region.wanted, hgd]
  rw [if_pos hw]
  obtain ⟨w', hrun, h2, h3⟩ := run_copyL w o.type u v xs ys base ou rv hl h1
  unfold Oper.wp
  simp [execOp, ho, resolve, invoke, builtin, hd, hs, hrun, Result.andThen]
  exact h w' h2 h3

theorem apart_slice {g n cap : Nat} {z : Value} (h : apart (.slice (some ⟨g, 0, none⟩) n cap) z) : z.ownBlock = none ∨ z.ownBlock ≠ some g := h.2
end Go.Proofs.YteooloceaoinlaaDoor
/- The program's Lost. -/
namespace Go.Proofs.YteooloceaoinlaaDoor
open Go.ChangeShapes Go.WideShapes Go.ChangeAt Go.RowKit

theorem Pair.drew {w : World} {g : Nat} {t : TypeId} {u v : Value} (h : Pair w g t u v) : Pair w.drew g t u v := h
theorem OwnD.drew {w : World} {base : Nat} {u v : Value} {xs ys : List Int} (h : OwnD w base u v xs ys) : OwnD w.drew base u v xs ys := h
theorem OwnD.below {w w' : World} {base : Nat} {u v : Value} {xs ys : List Int} (h : OwnD w base u v xs ys) (b : Below w.heap.size w w') : OwnD w' base u v xs ys := ⟨h.1.below b, h.2.1.below b, h.2.2⟩

/- The state in the midst: the boxes, and the copy of the disk at block h. -/
def Mid (w wx : World) (u v : Value) (h base : Nat) (a b : Value) (xs ys : List Int) : Prop := Boxes w wx u v ∧ Pair wx h 24 a b ∧ OwnD wx base a b xs ys
theorem Mid.below {w wx wy : World} {u v a b : Value} {h base : Nat} {xs ys : List Int} (m : Mid w wx u v h base a b xs ys) (k : Below wx.heap.size wx wy) : Mid w wy u v h base a b xs ys :=
  ⟨m.1.below k, m.2.1.below k, m.2.2.below k⟩
theorem Mid.drew {w wx : World} {u v a b : Value} {h base : Nat} {xs ys : List Int} (m : Mid w wx u v h base a b xs ys) : Mid w wx.drew u v h base a b xs ys := ⟨m.1.drew, m.2.1, m.2.2⟩

theorem Mid.copy0 {w wx wy : World} {u v a b : Value} {h base : Nat} {xs ys zs : List Int} (m : Mid w wx u v h base a b xs ys) (o : Own wy base a zs) (g : wx.grownBy wy a.ownBlock) (hb : w.heap.size + 2 ≤ base) (hh : ∀ k, a.ownBlock = some k → k ≠ h) (h1 : 1 ≤ xs.length) : Mid w wy u v h base a b zs ys := by
  obtain ⟨k, ca, hea, _⟩ := World.ownsRow.form m.2.2.1 h1
  have hab : a.ownBlock = some k := by rw [hea]; rfl
  have hk := (m.2.2.1.lt k hab).1
  have hap := m.2.2.2.2.2
  rw [hab] at g hap
  exact ⟨m.1.kept g (by omega), m.2.1.kept g (by have := hh k hab; simp; omega), o, m.2.2.2.1.kept g hap, m.2.2.2.2⟩
theorem Mid.copy1 {w wx wy : World} {u v a b : Value} {h base : Nat} {xs ys zs : List Int} (m : Mid w wx u v h base a b xs ys) (o : Own wy base b zs) (g : wx.grownBy wy b.ownBlock) (hb : w.heap.size + 2 ≤ base) (hh : ∀ k, b.ownBlock = some k → k ≠ h) (h1 : 1 ≤ ys.length) : Mid w wy u v h base a b xs zs := by
  obtain ⟨k, cb, heb, _⟩ := World.ownsRow.form m.2.2.2.1 h1
  have hab : b.ownBlock = some k := by rw [heb]; rfl
  have hk := (m.2.2.2.1.lt k hab).1
  have hap := m.2.2.2.2.1
  rw [hab] at g hap
  exact ⟨m.1.kept g (by omega), m.2.1.kept g (by have := hh k hab; simp; omega), m.2.2.1.kept g hap, o, m.2.2.2.2⟩
end Go.Proofs.YteooloceaoinlaaDoor
/- Holdings by the program, on: Holds, May, a new holding. -/
namespace Go.Proofs.YteooloceaoinlaaDoor
open Go.ChangeShapes Go.WideShapes Go.ChangeAt Go.RowKit

theorem holdsF_ok {h : Hd} (hk : h.ok = true) (i : Int) : holdsF (KF h.ks) h.kd h.ho i = (inI i 0 3 && h.holds i) := by
  have hm : h.mid = true := by
    unfold Hd.ok at hk
    simp only [Bool.and_eq_true] at hk
    exact hk.2
  unfold holdsF Hd.holds
  rw [show decide (KF h.ks i.toNat ≠ 0) = regI h.ks i from rfl]
  unfold Hd.mid at hm
  cases hin : inI i 0 3
  · simp
  · have hi : 0 ≤ i ∧ i ≤ 3 := by simpa [inI] using hin
    simp only [Bool.true_and]
    by_cases h0 : h.kd = 0
    · rw [if_pos h0] at hm
      have ho : h.ho = -1 := by simpa using hm
      rw [h0, ho]
      simp [show allI 0 = false from rfl]
      intro _; omega
    · rw [if_neg h0] at hm
      cases ha : allI h.kd
      · rw [ha] at hm
        simp only [Bool.false_eq_true, if_false, Bool.and_eq_true] at hm
        by_cases he : i = h.ho
        · subst he
          simp [h0, hm.2]
        · simp [he, Ne.symm he]
      · rw [ha] at hm
        simp only [if_true, Bool.and_eq_true, decide_eq_true_eq] at hm
        have : h.ho ≠ i := by omega
        simp [h0, this]

theorem heA_S {w : World} {g : Nat} {f : Nat → Int} {kd ho tu : Int} {w' : World} {B : Nat} (h : Hid (StB w g 72 (heA f kd ho tu))) (hb : Below B w w') (e : B = w.heap.size) : Hid (StB w' g 72 (heA f kd ho tu)) := by subst e; exact h.out.below hb
theorem HB_next {w w3 w4 : World} (h : Hid (Below w.heap.size w w3)) (b : Below w3.heap.size w3 w4) : Hid (Below w.heap.size w w4) := h.out.trans (b.mono h.out.size)
end Go.Proofs.YteooloceaoinlaaDoor
/- Holdings by the program, on: a new holding. -/
namespace Go.Proofs.YteooloceaoinlaaDoor
open Go.ChangeShapes Go.WideShapes Go.ChangeAt Go.RowKit

theorem ilistK4_any (f : Nat → Int) (w : World) :
    Calls Tryd.prog 56 #[.agg (kA f)] w fun e w' => ∃ ao cap, e = .returned (.slice ao 4 cap) ∧ Own w' w.heap.size (.slice ao 4 cap) (listK f) ∧ Below w.heap.size w w' := by
  refine (ilistK_any f w).mono ?_
  rintro e w' ⟨u, rfl, o, b⟩
  obtain ⟨ao, cap, rfl⟩ := reads_form o.reads
  exact ⟨ao, cap, rfl, o, b⟩

theorem cell_put4 {w : World} {g k : Nat} (hne : g ≠ k) {j : Nat} {a b c d x : Value} (h : w.cell? ⟨g, j, none⟩ = some x) :
    ((((w.setCell ⟨k, 0, none⟩ a).setCell ⟨k, 1, none⟩ b).setCell ⟨k, 2, none⟩ c).setCell ⟨k, 3, none⟩ d).cell? ⟨g, j, none⟩ = some x := by
  rw [World.cell?_setCell_far _ _ _ _ (Ne.symm hne), World.cell?_setCell_far _ _ _ _ (Ne.symm hne), World.cell?_setCell_far _ _ _ _ (Ne.symm hne), World.cell?_setCell_far _ _ _ _ (Ne.symm hne), h]

set_option maxRecDepth 20000 in
set_option maxHeartbeats 600000 in
theorem iholding_any (f : Nat → Int) (kd ho tu : Int) (w : World) :
    Calls Tryd.prog 47 #[.agg (heA f kd ho tu)] w fun e w' => ∃ u, e = .returned (HV u ⟨listK f, kd, ho, tu⟩) ∧ Own w' w.heap.size u (listK f) ∧ Below w.heap.size w w' := by
  obtain ⟨w1, hw1⟩ : ∃ w1, w1 = (w.alloc (.cells (heA f kd ho tu) 72)).alloc (.cells #[.slice none 0 0, .int .i64 0, .int .i64 0, .int .i64 0] 26) := ⟨_, rfl⟩
  have HB : Hid (Below w.heap.size w w1.drew) := by rw [hw1]; exact (((Below.refl _ _).alloc (Nat.le_refl _) _).alloc (by simp) _).drew
  have H1 : Hid (StB w1 w.heap.size 72 (heA f kd ho tu)) := by rw [hw1]; exact (StB.new _ _ _).alloc _
  have HH1 : Hid (StB w1.drew w.heap.size 72 (heA f kd ho tu)) := H1.out
  have R1 : Hid (StB w1.drew (w.heap.size + 1) 26 #[.slice none 0 0, .int .i64 0, .int .i64 0, .int .i64 0]) := by
    rw [hw1]
    have := StB.new (w.alloc (.cells (heA f kd ho tu) 72)) 26 #[.slice none 0 0, .int .i64 0, .int .i64 0, .int .i64 0]
    rw [World.size_alloc] at this
    exact this
  obtain ⟨m0, m1, m2, m3, m4, m5, m6⟩ := heA_cells H1.out
  have c1 := fun wx => ilistK4_any f wx
  have hs : w.heap.size + 1 < w1.drew.heap.size := R1.out.lt
  clear H1
  unfold heA at hw1 ⊢
  unfold kA at c1
  go_enter Tryd.func47, Tryd.ntmps47
  go_upto_region 1 with fail
  rw [← hw1]
  obtain ⟨k, hk⟩ : ∃ k, k = w.heap.size + 1 := ⟨_, rfl⟩
  rw [← hk] at R1 hs ⊢
  have hne : w.heap.size ≠ k := by omega
  have HK : Hid (k = w.heap.size + 1) := hk
  obtain ⟨g, hg⟩ : ∃ g, g = w.heap.size := ⟨_, rfl⟩
  rw [← hg] at m0 m1 m2 m3 m4 m5 m6 HH1 hne ⊢
  have HG : Hid (g = w.heap.size) := hg
  have HS : Hid (k < w1.drew.heap.size) := hs
  obtain ⟨d0, d1, d2, d3, d4, d5, d6⟩ := heA_cells HH1.out
  clear hw1 hk hg hs
  go_region_held3 (fun w' => w'.cell? ⟨g, 0, none⟩ = some (.int .i64 (f 0)) ∧ w'.cell? ⟨g, 1, none⟩ = some (.int .i64 (f 1)) ∧ w'.cell? ⟨g, 2, none⟩ = some (.int .i64 (f 2)) ∧ w'.cell? ⟨g, 3, none⟩ = some (.int .i64 (f 3)) ∧ w'.cell? ⟨g, 4, none⟩ = some (.int .i64 kd) ∧ w'.cell? ⟨g, 5, none⟩ = some (.int .i64 ho) ∧ w'.cell? ⟨g, 6, none⟩ = some (.int .i64 tu)) (refine ⟨?_, ?_, ?_, ?_, ?_, ?_, ?_⟩ <;> first | with_reducible assumption | (with_reducible refine cell_put4 hne ?_; with_reducible assumption))
    (first
      | (go_at_call 56; refine (c1 _).mono ?_; rintro e w2 ⟨ao, cap, rfl, o2, b2⟩; have HB2 := HB_next HB b2; have H2 := heA_S HH1 b2 rfl; have R2 : Hid (StB w2 k 26 #[.slice none 0 0, .int .i64 0, .int .i64 0, .int .i64 0]) := R1.out.below b2; have O2 : Hid (Own w2 w1.drew.heap.size (.slice ao 4 cap) (listK f)) := o2; obtain ⟨n0, n1, n2, n3, n4, n5, n6⟩ := heA_cells H2.out; clear b2 o2; have q0 : w2.cell? ⟨k, 0, none⟩ = some (.slice none 0 0) := R2.out.cell 0 rfl; have q1 : w2.cell? ⟨k, 1, none⟩ = some (.int .i64 0) := R2.out.cell 1 rfl; have q2 : w2.cell? ⟨k, 2, none⟩ = some (.int .i64 0) := R2.out.cell 2 rfl; have q3 : w2.cell? ⟨k, 3, none⟩ = some (.int .i64 0) := R2.out.cell 3 rfl; have f0 := R2.out.frozen 0; have f1 := R2.out.frozen 1; have f2 := R2.out.frozen 2; have f3 := R2.out.frozen 3))
  have SE := (((R2.out.put 0 (.slice ao 4 cap) rfl).put 1 (.int .i64 kd) rfl).put 2 (.int .i64 ho) rfl).put 3 (.int .i64 tu) (ds := hdA (.slice ao 4 cap) ⟨listK f, kd, ho, tu⟩) rfl
  have GE := (((grownSet w2 k 0 (.slice ao 4 cap)).trans (grownSet _ k 1 (.int .i64 kd))).trans (grownSet _ k 2 (.int .i64 ho))).trans (grownSet _ k 3 (.int .i64 tu))
  have HF : Hid (_ ∧ _) := ⟨SE, GE⟩
  clear SE GE H2 R2 n0 n1 n2 n3 n4 n5 n6 q0 q1 q2 q3 f0 f1 f2 f3 d0 d1 d2 d3 d4 d5 d6 m0 m1 m2 m3 m4 m5 m6
  go_wp2
  refine bodyPost_ret (results_S Tryd.isH rfl _ _ k _ rfl rfl HF.out.1) rfl ?_
  have h1 := HB.out.size
  have h2 := HK.out
  exact ⟨_, rfl, (O2.out.keptLt HF.out.2 HS.out).mono h1, HB2.out.grown HF.out.2 HB2.out.size (fun x e => by cases e; omega)⟩

set_option maxRecDepth 20000 in
set_option maxHeartbeats 1000000 in
theorem inewH_any (w : World) :
    Calls Tryd.prog 33 #[] w fun e w' => ∃ u, e = .returned (HV u Hd.new) ∧ Own w' w.heap.size u Hd.new.ks ∧ Below w.heap.size w w' := by
  obtain ⟨w1, hw1⟩ : ∃ w1, w1 = w.alloc (.cells #[.slice none 0 0, .int .i64 0, .int .i64 0, .int .i64 0] 26) := ⟨_, rfl⟩
  have p0 : Hid (StB w1 w.heap.size 26 #[.slice none 0 0, .int .i64 0, .int .i64 0, .int .i64 0]) := by rw [hw1]; exact StB.new w _ _
  have b1 : Hid (Below w.heap.size w w1) := by rw [hw1]; exact (Below.refl _ _).alloc (Nat.le_refl _) _
  have c1 := iholding_any (fun _ => 0) 0 (-1) 0 w1
  unfold heA at c1
  go_enter Tryd.func33, Tryd.ntmps33
  go_wp2_with fail
  rw [← hw1]
  refine c1.mono ?_
  rintro e w2 ⟨u, rfl, o2, b2⟩
  obtain ⟨ao, cap, rfl⟩ := reads_form o2.reads
  have P2 : Hid (StB w2 w.heap.size 26 #[.slice none 0 0, .int .i64 0, .int .i64 0, .int .i64 0]) := p0.out.below b2
  have B2 := HB_next b1 b2
  have O2 : Hid (Own w2 w1.heap.size (.slice ao 4 cap) (listK fun _ => 0)) := o2
  have HS : Hid (w.heap.size < w1.heap.size) := p0.out.lt
  clear hw1 c1 o2 b2 p0
  go_wp2_with (first | (refine wpList_putS Tryd.isH rfl _ _ rfl w.heap.size (hdA (.slice ao 4 cap) Hd.new) _ rfl rfl rfl rfl (hdA_one _ rfl) P2.out ?_; intro w3 s3 g3))
  refine bodyPost_ret (results_S Tryd.isH rfl _ _ w.heap.size _ rfl rfl s3) rfl ?_
  exact ⟨_, rfl, (O2.out.keptLt g3 HS.out).mono b1.out.size, B2.out.grown g3 B2.out.size (fun k e => by cases e; exact Nat.le_refl _)⟩
end Go.Proofs.YteooloceaoinlaaDoor
