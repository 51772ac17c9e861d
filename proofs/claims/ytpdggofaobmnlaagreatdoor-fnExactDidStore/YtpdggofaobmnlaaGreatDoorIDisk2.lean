/- The program's Written, Flushed and Lost. -/
import Derived.Test.YtpdggofaobmnlaaGreatDoorM18
namespace Go.Proofs.YtpdggofaobmnlaaGreatDoor
open Go.ChangeShapes Go.WideShapes Go.ChangeAt Go.RowKit

/- 'copy' of a list onto one of the call's own that is as long. -/
theorem run_copyL (w : World) (ty : TypeId) (u v : Value) (xs ys : List Int) (base : Nat) (ou : Own w base u xs) (rv : Reads w v ys) (hl : ys.length = xs.length) (h1 : 1 ≤ xs.length) :
    ∃ w', (Builtin.copy_ #[24, 24] ty #[u, v]).run Tryz.prog w = .ok (goInt xs.length) w' ∧ Own w' base u ys ∧ w.grownBy w' u.ownBlock := by
  rcases ou.2 with ⟨_, h0⟩ | ⟨g, cap, cur, rfl, hb, hg, hnc, hcm, hcs, ht⟩
  · omega
  · obtain ⟨ao, c2, rfl, _, _, hc⟩ := rv
    rcases hc with e | ⟨b, off, rfl, hcell⟩
    · subst e; simp at hl; omega
    · have hsz : (Tryz.prog.info? 2).map (·.size) = some 1 := by
        obtain ⟨i0, hi, hz0, hz1, hz2⟩ := info_parts Tryz.infoI
        simp [hi, hz1]
      have hsrc : ∀ j z, (ys.map (Value.int .i64))[j]? = some z → w.cell? ((⟨b, off, none⟩ : Addr).add j) = some z := by
        intro j z hj
        have hlt : j < ys.length := by
          rcases Nat.lt_or_ge j ys.length with h | h
          · exact h
          · rw [List.getElem?_eq_none (by simpa using h)] at hj; cases hj
        rw [show (⟨b, off, none⟩ : Addr).add j = ⟨b, off + j, none⟩ by unfold Addr.add; split <;> simp_all]
        rw [hcell j hlt]
        simp [List.getD, hlt] at hj ⊢
        exact hj
      have hone : ∀ z ∈ ys.map (Value.int .i64), z.oneCell' = true := by
        intro z hz
        obtain ⟨x, _, rfl⟩ := List.mem_map.1 hz
        rfl
      have hcz : cur.size = cap := by simpa using hcs
      have hrun := run_copy_row (P := Tryz.prog) w 24 24 ty 2 g 0 xs.length cap ⟨b, off, none⟩ ys.length c2 cur _ (ys.map (Value.int .i64)) Tryz.underlying24 hsz hg (by simp [hl]) hsrc (by simp; omega) hone
      rw [show goInt ((ys.map (Value.int .i64)).length : Nat) = goInt (xs.length : Nat) by simp [hl]] at hrun
      refine ⟨_, hrun, ⟨by simp, .inr ⟨g, cap, _, by rw [hl], hb, setRow_heap w g _ _ _ _ hg, by omega, hcm, ?_, ?_⟩⟩, ?_⟩
      · simp; omega
      · simp [hl]
      · exact grownRow w g _

theorem wpList_copyL {ops : Array Oper} {rest : List Oper} {o : Oper} {a : Act} {w : World} {Q : Exit → Act → World → Prop} (hgd : o.guard = none) (d s : Operand)
    (ho : o.op = .call { callee := .builtin .copy, args := #[d, s], argTypes := #[24, 24] }) (u v : Value) (xs ys : List Int) (base : Nat) (hd : a.eval d = u) (hs : a.eval s = v)
    (ou : Own w base u xs) (rv : Reads w v ys) (hl : ys.length = xs.length) (h1 : 1 ≤ xs.length)
    (h : ∀ w', Own w' base u ys → w.grownBy w' u.ownBlock → wpList Tryz.prog ops Q rest (a.put o.dst (goInt xs.length)) w') : wpList Tryz.prog ops Q (o :: rest) a w := by
  refine wpList_plain hgd fun K hK => ?_
  obtain ⟨w', hrun, h2, h3⟩ := run_copyL w o.type u v xs ys base ou rv hl h1
  unfold Oper.wp
  simp [execOp, ho, resolve, invoke, builtin, hd, hs, hrun, Result.andThen]
  exact hK _ _ (h w' h2 h3)

theorem step_copyL {ops : Array Oper} {o : Oper} {a : Act} {w : World} {K : Act → World → Prop} {Q : Exit → Act → World → Prop} {E : Prop} (hgd : o.guard = none) (d s : Operand)
    (ho : o.op = .call { callee := .builtin .copy, args := #[d, s], argTypes := #[24, 24] }) (u v : Value) (xs ys : List Int) (base : Nat) (hd : a.eval d = u) (hs : a.eval s = v)
    (ou : Own w base u xs) (rv : Reads w v ys) (hl : ys.length = xs.length) (h1 : 1 ≤ xs.length)
    (h : ∀ w', Own w' base u ys → w.grownBy w' u.ownBlock → K (a.put o.dst (goInt xs.length)) w') : if Region.wanted o (yielded ops a.tmps) = true then Oper.wp Tryz.prog o a w K Q else E := by
  have hw : Region.wanted o (yielded ops a.tmps) = true := by simp [Region.wanted, hgd]
  rw [if_pos hw]
  obtain ⟨w', hrun, h2, h3⟩ := run_copyL w o.type u v xs ys base ou rv hl h1
  unfold Oper.wp
  simp [execOp, ho, resolve, invoke, builtin, hd, hs, hrun, Result.andThen]
  exact h w' h2 h3

set_option maxRecDepth 20000 in
set_option maxHeartbeats 1000000 in
theorem written_any (u v : Value) (xs ys : List Int) (i x : Int) (w : World) (h : Reads w u xs) (h' : Reads w v ys) (gx : xs.length ≤ 1099511627776) (gy : ys.length ≤ 1099511627776) :
    Calls Tryz.prog 175 #[.agg #[u, v], .int .i64 i, .int .i64 x] w fun e w' => ∃ a b, e = .returned (.tuple #[.agg #[a, b], .bool (wrB xs ys i x)]) ∧ OwnD w' w.heap.size a b (wrK xs ys) (wrN xs ys i x) ∧ Below w.heap.size w w' := by
  obtain ⟨w2, hw2⟩ : ∃ w2, w2 = (w.alloc (.cells #[u, v] 26)).alloc (.cells #[.slice none 0 0, .slice none 0 0] 26) := ⟨_, rfl⟩
  have HB : Hid (Boxes w w2 u v) := by rw [hw2]; exact Boxes.start w u v
  have b2 := HB.out.2.2.1
  have c1 := diskOk_any u v xs ys w2 (h.below b2 (Nat.le_refl _)) (h'.below b2 (Nat.le_refl _)) gx gy
  by_cases hb : bothOk xs ys = true
  · have e1 : wrB xs ys i x = putB ys i x := by simp [wrB, hb]
    have e2 : wrK xs ys = xs := by simp [wrK, hb]
    have e3 : wrN xs ys i x = putI ys i x := by simp [wrN, hb]
    rw [e1, e2, e3]
    have hx1 := (blocksOk_len (bothOk_yes hb).1).1
    have c2 : ∀ w', Below w.heap.size w w' → _ := fun w' b => put_any v ys i x w' (h'.below b (Nat.le_refl _)) gy
    have c3 : ∀ w', Below w.heap.size w w' → _ := fun w' b => fresh_any u xs w' (h.below b (Nat.le_refl _)) hx1 gx
    obtain ⟨zs, hz⟩ : ∃ zs, zs = putI ys i x := ⟨_, rfl⟩
    obtain ⟨pb, hpb⟩ : ∃ pb, pb = putB ys i x := ⟨_, rfl⟩
    simp only [← hz, ← hpb] at c2 ⊢
    rw [hb] at c1
    clear hb e1 e2 e3 hz hpb h h' b2 hx1
    go_enter Tryz.func175, Tryz.ntmps175
    go_wp2_with fail
    rw [← hw2]
    clear hw2
    refine c1.mono ?_
    rintro e w3 ⟨rfl, b3⟩
    replace HB : Hid (Boxes w w3 u v) := HB.out.below b3
    have q0 := HB.out.1.cell0
    have q1 := HB.out.1.cell1
    clear b3 c1
    go_wp2_with fail
    refine (c2 _ HB.out.2.2.1).mono ?_
    rintro e w4 ⟨b, rfl, o4, b4⟩
    have HS : Hid (w.heap.size + 2 ≤ w3.heap.size ∧ w3.heap.size ≤ w4.heap.size) := ⟨HB.out.2.2.2, b4.size⟩
    replace HB : Hid (Boxes w w4 u v) := HB.out.below b4
    replace q0 := HB.out.1.cell0
    clear b4 c2 q1
    go_wp2_with fail
    refine (c3 _ HB.out.2.2.1).mono ?_
    rintro e w5 ⟨a, rfl, o5, b5⟩
    have hap := apart_of o4 o5 (Nat.le_refl _)
    replace o4 := o4.below b5
    replace HB : Hid (Boxes w w5 u v) := HB.out.below b5
    have p5 := HB.out.2.1
    obtain ⟨ao, ca, hea⟩ := o5.reads.form
    obtain ⟨bo, cb, heb⟩ := o4.reads.form
    subst hea heb
    have HO : Hid (Own w5 w4.heap.size _ xs ∧ Own w5 w3.heap.size _ zs ∧ apart _ _) := ⟨o5, o4, hap.symm⟩
    clear b5 o4 o5 hap c3 q0
    go_wp2_with (refine wpList_putP rfl _ _ rfl (w.heap.size + 1) _ _ _ _ rfl rfl rfl rfl p5 ?_; intro w6 p6 g6)
    refine bodyPost_ret (results_pair2 rfl _ _ (w.heap.size + 1) _ _ _ rfl rfl p6) rfl ?_
    exact ⟨_, _, rfl, HB.out.done g6 HO.out.1 HO.out.2.1 (Nat.le_trans HS.out.1 HS.out.2) HS.out.1 HO.out.2.2⟩
  · have hb' : bothOk xs ys = false := by simpa using hb
    have e1 : wrB xs ys i x = false := by simp [wrB, hb']
    have e2 : wrK xs ys = [] := by simp [wrK, hb']
    have e3 : wrN xs ys i x = [] := by simp [wrN, hb']
    rw [e1, e2, e3]
    rw [hb'] at c1
    clear hb hb' b2 e1 e2 e3 h h'
    go_enter Tryz.func175, Tryz.ntmps175
    go_wp2_with fail
    rw [← hw2]
    clear hw2
    refine c1.mono ?_
    rintro e w3 ⟨rfl, b3⟩
    replace HB : Hid (Boxes w w3 u v) := HB.out.below b3
    have p3 := HB.out.2.1
    clear b3 c1
    go_wp2_with (refine wpList_putP rfl _ _ rfl (w.heap.size + 1) _ _ _ _ rfl rfl rfl rfl p3 ?_; intro w5 p5 g5)
    refine bodyPost_ret (results_pair2 rfl _ _ (w.heap.size + 1) _ _ _ rfl rfl p5) rfl ?_
    exact ⟨_, _, rfl, ownNil2 _ _, HB.out.2.2.1.grown g5 HB.out.2.2.1.size (fun k e => by cases e; omega)⟩

theorem apart_slice {g n cap : Nat} {z : Value} (h : apart (.slice (some ⟨g, 0, none⟩) n cap) z) : z.ownBlock = none ∨ z.ownBlock ≠ some g := h.2

set_option maxRecDepth 20000 in
set_option maxHeartbeats 1000000 in
theorem flushed_any (u v : Value) (xs ys : List Int) (w : World) (h : Reads w u xs) (h' : Reads w v ys) (gx : xs.length ≤ 1099511627776) (gy : ys.length ≤ 1099511627776) :
    Calls Tryz.prog 168 #[.agg #[u, v]] w fun e w' => ∃ a b, e = .returned (.agg #[a, b]) ∧ OwnD w' w.heap.size a b (flN xs ys) (flN xs ys) ∧ Below w.heap.size w w' := by
  obtain ⟨w2, hw2⟩ : ∃ w2, w2 = (w.alloc (.cells #[u, v] 26)).alloc (.cells #[.slice none 0 0, .slice none 0 0] 26) := ⟨_, rfl⟩
  have HB : Hid (Boxes w w2 u v) := by rw [hw2]; exact Boxes.start w u v
  have b2 := HB.out.2.2.1
  have c1 := diskOk_any u v xs ys w2 (h.below b2 (Nat.le_refl _)) (h'.below b2 (Nat.le_refl _)) gx gy
  by_cases hb : bothOk xs ys = true
  · have HD : Hid (flN xs ys = ys) := by simp [Hid, flN, hb]
    obtain ⟨k1, k2, k3⟩ := bothOk_yes hb
    have hx1 := (blocksOk_len k1).1
    have hy1 := (blocksOk_len k2).1
    have c3 : ∀ w', Below w.heap.size w w' → _ := fun w' b => freshDisk_any u v xs ys w' (h.below b (Nat.le_refl _)) (h'.below b (Nat.le_refl _)) hx1 hy1 gx gy
    rw [hb] at c1
    have HL : Hid (ys.length = xs.length ∧ 1 ≤ xs.length) := ⟨k3.symm, hx1⟩
    clear b2 hb k1 k2 k3 hx1 hy1 h h'
    go_enter Tryz.func168, Tryz.ntmps168
    go_wp2_with fail
    rw [← hw2]
    clear hw2
    refine c1.mono ?_
    rintro e w3 ⟨rfl, b3⟩
    replace HB : Hid (Boxes w w3 u v) := HB.out.below b3
    have p3 := HB.out.1
    clear b3 c1
    go_wp2_with (refine wpList_getP rfl _ rfl w.heap.size rfl _ _ p3 ?_)
    refine (c3 _ HB.out.2.2.1).mono ?_
    rintro e w4 ⟨a, b, rfl, o4, b4⟩
    have HS : Hid (w.heap.size + 2 ≤ w3.heap.size) := HB.out.2.2.2
    have hs4 := Nat.le_trans HS.out b4.size
    replace HB : Hid (Boxes w w4 u v) := HB.out.below b4
    have ha1 := o4.1.reads.one
    have hb1 := o4.2.1.reads.one
    obtain ⟨g, ca, hea, hgl⟩ := World.ownsRow.form o4.1 (by have := HL.out.2; omega)
    obtain ⟨hg1, hg2⟩ := o4.1.ltBlock hea
    have HO : Hid (OwnD w4 w3.heap.size a b xs ys) := o4
    have hab : a.ownBlock = some g := by rw [hea]; rfl
    have HG : Hid (a.ownBlock = some g ∧ w3.heap.size ≤ g ∧ g < w4.heap.size) := ⟨hab, hg1, hg2⟩
    clear b4 o4 p3 c3 hgl hea hab hg1 hg2
    go_wp2_with (first
      | (refine wpList_putP rfl _ _ rfl w4.heap.size _ _ _ _ rfl rfl ha1 hb1 (Pair.new w4 _ _ _) ?_; intro w5 p5 g5; have hg5 : w4.grownBy w5 (some w4.heap.size) := (grown_alloc w4 _ _).trans g5; have HB5 : Hid (Boxes w w5 u v ∧ OwnD w5 w3.heap.size a b xs ys) := ⟨HB.out.kept hg5 hs4, HO.out.1.keptNew hg5, HO.out.2.1.keptNew hg5, HO.out.2.2⟩; have e0 := p5.cell0; have e1 := p5.cell1; clear g5 hg5)
      | (refine wpList_copyL rfl _ _ rfl a b xs ys w3.heap.size rfl rfl HB5.out.2.1 HB5.out.2.2.1.reads HL.out.1 HL.out.2 ?_; intro w6 o6 g6; rw [HG.out.1] at g6; have HB6 : Hid (Boxes w w6 u v ∧ OwnD w6 w3.heap.size a b ys ys) := ⟨HB5.out.1.kept g6 (by have := HG.out; have := HS.out; omega), o6, HB5.out.2.2.1.kept g6 (by have := HB5.out.2.2.2.2; rw [HG.out.1] at this; exact this), HB5.out.2.2.2⟩; have p6 := p5.kept g6 (by have := HG.out; simp; omega); have p7 := HB6.out.1.2.1; clear g6 o6)
      | (refine wpList_getP rfl _ rfl w4.heap.size rfl _ _ p6 ?_)
      | (refine wpList_putP rfl _ _ rfl (w.heap.size + 1) _ _ _ _ rfl rfl ha1 hb1 p7 ?_; intro w7 p8 g8))
    refine bodyPost_ret (results_pair rfl _ _ (w.heap.size + 1) _ _ rfl p8) rfl ?_
    rw [HD.out]
    exact ⟨_, _, rfl, HB6.out.1.done g8 HB6.out.2.1 HB6.out.2.2.1 HS.out HS.out HB6.out.2.2.2⟩
  · have hb' : bothOk xs ys = false := by simpa using hb
    have HD : Hid (flN xs ys = []) := by simp [Hid, flN, hb']
    rw [hb'] at c1
    clear b2 hb hb' h h'
    go_enter Tryz.func168, Tryz.ntmps168
    go_wp2_with fail
    rw [← hw2]
    clear hw2
    refine c1.mono ?_
    rintro e w3 ⟨rfl, b3⟩
    replace HB : Hid (Boxes w w3 u v) := HB.out.below b3
    have p3 := HB.out.2.1
    clear b3 c1
    go_wp2_with (refine wpList_putP rfl _ _ rfl (w.heap.size + 1) _ _ _ _ rfl rfl rfl rfl p3 ?_; intro w5 p5 g5)
    refine bodyPost_ret (results_pair rfl _ _ (w.heap.size + 1) _ _ rfl p5) rfl ?_
    rw [HD.out]
    exact ⟨_, _, rfl, ownNil2 _ _, HB.out.2.2.1.grown g5 HB.out.2.2.1.size (fun k e => by cases e; omega)⟩
end Go.Proofs.YtpdggofaobmnlaaGreatDoor
