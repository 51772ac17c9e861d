/- Sinks by the model: NewSink, Received. -/
import Derived.Test.YtdcdfhklnhaimaaSoS
import Derived.OwnWalk
namespace Go.Proofs.Ytdcdfhklnhaimaa
open Go.ChangeShapes Go.WideShapes Go.ChangeAt Go.RowKit

theorem made_own0 {w w1 w2 : World} {v : Value} {k : Nat} (hlt : w.heap.size < w1.heap.size) (o2 : w2.ownsRow w1.heap.size 2 1 v k ((List.replicate k (0 : Int)).map (Value.int .i64))) : Own w2 (w.heap.size + 1) v (List.replicate k 0) := by
  have : Own w2 w1.heap.size v (List.replicate k 0) := by unfold Own; simpa using o2
  exact this.mono hlt

set_option maxRecDepth 20000 in
set_option maxHeartbeats 2000000 in
theorem snewS_any (n t : Int) (w : World) :
    Calls Try.prog 19 #[.int .i64 n, .int .i64 t] w fun e w' => ∃ u, e = .returned (.tuple #[SnV u (Sn.new n t), .bool (Cp.made n t)]) ∧ Own w' w.heap.size u (Sn.new n t).ts ∧ Below w.heap.size w w' := by
  obtain ⟨i0, hi, hz0, hz1, hz2⟩ := info_parts Try.infoI
  have HE : Hid (Cp.made n t = (inI n 1 8 && inI t 1 100000)) := rfl
  have HN : Hid (Sn.new n t = if Cp.made n t then ⟨t, List.replicate n.toNat 0⟩ else Sn.zero) := rfl
  obtain ⟨m, hm⟩ : ∃ m, m = Cp.made n t := ⟨_, rfl⟩
  rw [← hm] at HE HN ⊢
  obtain ⟨c, hc⟩ : ∃ c, c = Sn.new n t := ⟨_, rfl⟩
  rw [← hc] at HN ⊢
  have c1 := fun wx => sin6_any n 1 8 wx
  have c2 := fun wx => sin6_any t 1 100000 wx
  have HI : Hid (inI n 1 8 = true → 1 ≤ n ∧ n ≤ 8) := (inI_iff n 1 8).1
  obtain ⟨b1, hb1⟩ : ∃ b1, b1 = inI n 1 8 := ⟨_, rfl⟩
  rw [← hb1] at HE HI
  simp only [← hb1] at c1
  obtain ⟨b2, hb2⟩ : ∃ b2, b2 = inI t 1 100000 := ⟨_, rfl⟩
  rw [← hb2] at HE
  simp only [← hb2] at c2
  clear hm hc hb1 hb2
  obtain ⟨w1, hw1⟩ : ∃ w1, w1 = w.alloc (.cells zeroSn 26) := ⟨_, rfl⟩
  have p0 : StB w1 w.heap.size 26 zeroSn := by rw [hw1]; exact StB.new w _ _
  have HB : Hid (Below w.heap.size w w1) := by rw [hw1]; exact (Below.refl _ _).alloc (Nat.le_refl _) _
  unfold zeroSn at hw1
  go_enter Try.func19, Try.ntmps19
  go_upto_region 1 with fail
  rw [← hw1]
  clear hw1
  go_wp2_with fail
  refine (c1 _).mono ?_
  rintro e w' ⟨rfl, hw⟩; subst w'
  clear c1
  cases b1 with
  | false =>
    have HM : Hid (m = false) := by rw [Hid, HE.out]; rfl
    have HC : Hid (c = Sn.zero) := by rw [Hid, HN.out, HM.out]; rfl
    clear HE HN c2 HI
    go_wp2_with (refine wpList_putS Try.isSn rfl _ _ rfl w.heap.size zeroSn zeroSn rfl rfl rfl rfl zeroSn_one p0 ?_; intro w8 s8 g8)
    refine bodyPost_ret (results_S2 Try.isSn rfl _ _ w.heap.size _ _ rfl rfl rfl s8) rfl ?_
    refine ⟨.slice none 0 0, by rw [HC.out, HM.out]; rfl, by rw [HC.out]; exact Own.nil _ _, HB.out.grown g8 HB.out.size (fun k e => by cases e; omega)⟩
  | true =>
    go_wp2_with fail
    refine (c2 _).mono ?_
    rintro e w' ⟨rfl, hw⟩; subst w'
    clear c2
    cases b2 with
    | false =>
      have HM : Hid (m = false) := by rw [Hid, HE.out]; rfl
      have HC : Hid (c = Sn.zero) := by rw [Hid, HN.out, HM.out]; rfl
      clear HE HN HI
      go_wp2_with (refine wpList_putS Try.isSn rfl _ _ rfl w.heap.size zeroSn zeroSn rfl rfl rfl rfl zeroSn_one p0 ?_; intro w8 s8 g8)
      refine bodyPost_ret (results_S2 Try.isSn rfl _ _ w.heap.size _ _ rfl rfl rfl s8) rfl ?_
      refine ⟨.slice none 0 0, by rw [HC.out, HM.out]; rfl, by rw [HC.out]; exact Own.nil _ _, HB.out.grown g8 HB.out.size (fun k e => by cases e; omega)⟩
    | true =>
      obtain ⟨hn1, hn8⟩ := HI.out trivial
      obtain ⟨k, rfl⟩ := nat_of (show 0 ≤ n by omega)
      have HM : Hid (m = true) := by rw [Hid, HE.out]; rfl
      have HC : Hid (c = ⟨t, List.replicate k 0⟩) := by rw [Hid, HN.out, HM.out]; simp
      clear HE HN HI
      have hk8 : k ≤ 1000 := by omega
      go_upto_region 3 with fail
      go_wp2_with (refine wpList_make_full _ rfl _ _ 24 rfl w1.heap.size 2 i0 (.int .i64 0) 1 Try.underlying24 hi hz0 hz1 _ _ _ _ k rfl rfl rfl rfl (by rw [hz2]; omega) (by unfold maxLen; omega) (Nat.le_refl _) ?_)
      intro w2 o2 g2
      rw [zeros_eq] at o2
      have O2 : Hid (Own w2 (w.heap.size + 1) (.slice (some ⟨w1.heap.size, 0, none⟩) k k) (List.replicate k 0)) := made_own0 p0.lt (by simpa using o2)
      have s2 := p0.kept g2 (by simp)
      have B2 : Hid (Below w.heap.size w w2) := HB.out.grown g2 HB.out.size (fun k e => by cases e)
      clear o2 g2
      go_wp2_with (refine wpList_putS Try.isSn rfl _ _ rfl w.heap.size (snA (.slice (some ⟨w1.heap.size, 0, none⟩) k k) ⟨t, List.replicate k 0⟩) zeroSn rfl rfl rfl rfl (snA_one _ rfl) s2 ?_; intro w8 s8 g8)
      refine bodyPost_ret (results_S2 Try.isSn rfl _ _ w.heap.size _ _ rfl rfl rfl s8) rfl ?_
      exact ⟨.slice (some ⟨w1.heap.size, 0, none⟩) k k, by rw [HC.out, HM.out]; rfl, by rw [HC.out]; exact (O2.out.keptLt g8 (by omega)).mono (by omega), B2.out.grown g8 B2.out.size (fun k e => by cases e; omega)⟩

set_option maxRecDepth 20000 in
set_option maxHeartbeats 4000000 in
theorem sgot_any (v : Value) (c : Sn) (t i n : Int) (w : World) (hr : Reads w v c.ts) (hl : c.ts.length ≤ 1099511627776) :
    Calls Try.prog 14 #[SnV v c, .int .i64 t, .int .i64 i, .int .i64 n] w fun e w' => ∃ u, e = .returned (.tuple #[SnV u (c.Got t i n), .bool (c.Is t i n)]) ∧ Mine w' w.heap.size u (c.Got t i n).ts ∧ Below w.heap.size w w' := by
  obtain ⟨w1, hw1⟩ : ∃ w1, w1 = (w.alloc (.cells (snA v c) 26)).alloc (.cells zeroSn 26) := ⟨_, rfl⟩
  have p0 : StB w1 w.heap.size 26 (snA v c) := by rw [hw1]; exact (StB.new w _ _).alloc _
  have q0 : StB w1 (w.heap.size + 1) 26 zeroSn := by
    rw [hw1]
    have := StB.new (w.alloc (.cells (snA v c) 26)) 26 zeroSn
    rwa [World.size_alloc] at this
  have b1 : Below w.heap.size w w1 := by rw [hw1]; exact ((Below.refl _ _).alloc (Nat.le_refl _) _).alloc (by simp) _
  have c1 := ssinkok_any v c w1 (hr.below b1 (Nat.le_refl _)) hl
  have cf : Hid (∀ wx, Reads wx v c.ts → _) := fun wx h => scopyS_any v c wx h hl
  have ct : Hid (∀ wx, Reads wx v c.ts → _) := fun wx h => sfits_any v c t i n wx h
  obtain ⟨ao, cap, rfl⟩ := reads_form hr
  have HW : Hid (w1 = (w.alloc (.cells #[.int .i64 c.tr, .slice ao c.ts.length cap] 26)).alloc (.cells #[.int .i64 0, .slice none 0 0] 26)) := hw1
  have hs1 := q0.lt
  have HP : Hid (StB w1 w.heap.size 26 (snA (.slice ao c.ts.length cap) c) ∧ StB w1 (w.heap.size + 1) 26 zeroSn ∧ Below w.heap.size w w1 ∧ Reads w (.slice ao c.ts.length cap) c.ts) := ⟨p0, q0, b1, hr⟩
  clear hw1 hr
  have k0 : w1.cell? ⟨w.heap.size, 0, none⟩ = some (.int .i64 c.tr) := p0.cell 0 rfl
  have k1 : w1.cell? ⟨w.heap.size, 1, none⟩ = some (.slice ao c.ts.length cap) := p0.cell 1 rfl
  clear p0 q0 b1
  cases ok : c.ok with
  | false =>
    obtain ⟨e0, e1, -⟩ := Sn.bad ok t i n
    rw [e0, e1]
    rw [ok] at c1
    unfold SnV at c1 ⊢
    conv in snA (.slice ao c.ts.length cap) c => unfold snA
    conv at c1 in snA (.slice ao c.ts.length cap) c => unfold snA
    clear e0 e1 cf ct
    go_enter Try.func14, Try.ntmps14
    go_wp2_with fail
    rw [← HW.out]
    refine c1.mono ?_
    rintro e w2 ⟨rfl, b2⟩
    have q2 := HP.out.2.1.below b2
    have HB2 : Hid (Below w.heap.size w w2) := HP.out.2.2.1.trans (b2.mono HP.out.2.2.1.size)
    have HS2 := b2.size
    clear HW HP c1 k0 k1 b2
    go_wp2_with (refine wpList_putS Try.isSn rfl _ _ rfl (w.heap.size + 1) zeroSn zeroSn rfl rfl rfl rfl zeroSn_one q2 ?_; intro w8 s8 g8)
    refine bodyPost_ret (results_S2 Try.isSn rfl _ _ (w.heap.size + 1) _ _ rfl rfl rfl s8) rfl ?_
    exact ⟨.slice none 0 0, rfl, .inl (Own.nil _ _), HB2.out.grown g8 HB2.out.size (fun k e => by cases e; omega)⟩
  | true =>
    have HNO : Hid (c.takes t i n = false → c.Got t i n = c ∧ c.Is t i n = false) := fun h => by unfold Sn.Got Sn.got Sn.Is; rw [ok, h]; exact ⟨rfl, rfl⟩
    have HYES : Hid (c.takes t i n = true → c.Got t i n = { c with ts := c.ts.set i.toNat n } ∧ c.Is t i n = true) := fun h => by unfold Sn.Got Sn.got Sn.Is; rw [ok, h]; exact ⟨rfl, rfl⟩
    have HT : Hid (c.takes t i n = (c.fits t i n && decide (n ≤ 1000000000))) := rfl
    have HI : Hid (c.fits t i n = true → 0 ≤ i ∧ i < (c.ts.length : Int)) := fun h => by
      unfold Sn.fits at h
      simp only [Bool.and_eq_true, decide_eq_true_eq] at h
      exact ⟨h.1.1.2, h.1.2⟩
    rw [ok] at c1
    obtain ⟨bf, hbf⟩ : ∃ bf, bf = c.fits t i n := ⟨_, rfl⟩
    simp only [← hbf] at ct HT HI
    obtain ⟨d, hd⟩ : ∃ d, d = c.Got t i n := ⟨_, rfl⟩
    obtain ⟨is, his⟩ : ∃ is, is = c.Is t i n := ⟨_, rfl⟩
    rw [← hd, ← his] at HNO HYES ⊢
    unfold SnV at c1 cf ct ⊢
    conv in snA (.slice ao c.ts.length cap) c => unfold snA
    conv at c1 in snA (.slice ao c.ts.length cap) c => unfold snA
    conv at cf in snA (.slice ao c.ts.length cap) c => unfold snA
    conv at ct in snA (.slice ao c.ts.length cap) c => unfold snA
    clear hbf hd his
    go_enter Try.func14, Try.ntmps14
    go_wp2_with fail
    rw [← HW.out]
    refine c1.mono ?_
    rintro e w2 ⟨rfl, b2⟩
    have p2 := HP.out.1.below b2
    have q2 := HP.out.2.1.below b2
    have B2 : Below w.heap.size w w2 := HP.out.2.2.1.trans (b2.mono HP.out.2.2.1.size)
    have HR : Hid (Reads w (.slice ao c.ts.length cap) c.ts) := HP.out.2.2.2
    have c2 := cf.out w2 (HR.out.below B2 (Nat.le_refl _))
    have HS2 : Hid (w.heap.size + 1 < w2.heap.size) := Nat.lt_of_lt_of_le hs1 b2.size
    have HQ : Hid (StB w2 w.heap.size 26 (snA (.slice ao c.ts.length cap) c) ∧ StB w2 (w.heap.size + 1) 26 zeroSn ∧ Below w.heap.size w w2) := ⟨p2, q2, B2⟩
    clear HW HP c1 cf k0 k1 b2 q2 B2 hs1
    have k0 : w2.cell? ⟨w.heap.size, 0, none⟩ = some (.int .i64 c.tr) := p2.cell 0 rfl
    have k1 : w2.cell? ⟨w.heap.size, 1, none⟩ = some (.slice ao c.ts.length cap) := p2.cell 1 rfl
    clear p2
    go_wp2_with fail
    refine c2.mono ?_
    rintro e w3 ⟨u, rfl, o3, b3⟩
    obtain ⟨bo, bc, rfl⟩ := reads_form o3.reads
    clear k0 k1 c2
    obtain ⟨w4, hw4⟩ : ∃ w4, w4 = w3.alloc (.cells (snA (.slice bo c.ts.length bc) c) 26) := ⟨_, rfl⟩
    obtain ⟨g, hg⟩ : ∃ g, g = w3.heap.size := ⟨_, rfl⟩
    have HC : Hid (SoS w w4 g (.slice ao c.ts.length cap) (.slice bo c.ts.length bc) c c) := by
      rw [hw4, hg]
      exact SoS.start HQ.out.1 HQ.out.2.1 HQ.out.2.2 HS2.out o3.mine b3
    unfold snA at hw4 ⊢
    clear HQ HS2 o3 b3
    go_upto_region 4 with fail
    rw [← hw4, ← hg]
    clear hw4 hg
    have k0 : w4.cell? ⟨w.heap.size, 0, none⟩ = some (.int .i64 c.tr) := HC.out.p.cell 0 rfl
    have k1 : w4.cell? ⟨w.heap.size, 1, none⟩ = some (.slice ao c.ts.length cap) := HC.out.p.cell 1 rfl
    have c4 := ct.out w4 (HR.out.below HC.out.b (Nat.le_refl _))
    clear ct
    go_wp2_with fail
    refine c4.mono ?_
    rintro e w5 ⟨rfl, bq⟩
    replace HC : Hid (SoS w w5 g (.slice ao c.ts.length cap) (.slice bo c.ts.length bc) c c) := HC.out.below bq
    clear c4 bq k0 k1
    cases bf with
    | false =>
      obtain ⟨e0, e1⟩ := HNO.out (by rw [HT.out]; rfl)
      subst d is
      clear HNO HYES HT HI HR
      go_upto_region 5 with fail
      go_wp2_with (first | (refine wpList_getS Try.isSn rfl _ rfl g rfl (snA (.slice bo c.ts.length bc) (c)) rfl (HC.out).r ?_) | (refine wpList_putS Try.isSn rfl _ _ rfl (w.heap.size + 1) (snA (.slice bo c.ts.length bc) (c)) zeroSn rfl rfl rfl rfl (snA_one _ rfl) (HC.out).q ?_; intro w8 s8 g8))
      refine bodyPost_ret (results_S2 Try.isSn rfl _ _ (w.heap.size + 1) _ _ rfl rfl rfl s8) rfl ?_
      obtain ⟨hm, hb⟩ := (HC.out).fin g8
      exact ⟨_, rfl, hm, hb⟩
    | true =>
      by_cases hx : 1000000000 < n
      · obtain ⟨e0, e1⟩ := HNO.out (by rw [HT.out, decide_eq_false (by omega)]; rfl)
        subst d is
        clear HNO HYES HT HI HR
        go_upto_region 5 with fail
        go_wp2_with (first | (refine wpList_getS Try.isSn rfl _ rfl g rfl (snA (.slice bo c.ts.length bc) (c)) rfl (HC.out).r ?_) | (refine wpList_putS Try.isSn rfl _ _ rfl (w.heap.size + 1) (snA (.slice bo c.ts.length bc) (c)) zeroSn rfl rfl rfl rfl (snA_one _ rfl) (HC.out).q ?_; intro w8 s8 g8))
        refine bodyPost_ret (results_S2 Try.isSn rfl _ _ (w.heap.size + 1) _ _ rfl rfl rfl s8) rfl ?_
        obtain ⟨hm, hb⟩ := (HC.out).fin g8
        exact ⟨_, rfl, hm, hb⟩
      · obtain ⟨e0, e1⟩ := HYES.out (by rw [HT.out, decide_eq_true (by omega)]; rfl)
        obtain ⟨h0, h1⟩ := HI.out rfl
        obtain ⟨j, rfl⟩ := nat_of h0
        rw [Int.toNat_natCast] at e0
        have HD : Hid (d = { c with ts := c.ts.set j n }) := e0
        have HJ : Hid (j < c.ts.length) := by show j < c.ts.length; omega
        subst is
        clear HNO HYES HT HI HR e0 h0
        have OT : Own w5 w.heap.size (.slice bo c.ts.length bc) c.ts := HC.out.o.own (fun e => by have := HJ.out; rw [e] at this; simp at this)
        obtain ⟨r, rc, er, hrb, hrl⟩ := World.ownsRow.form OT (by have := HJ.out; omega)
        cases er
        obtain ⟨-, hd1, hd2, hcell⟩ := reads_cells OT.reads
        unfold maxLen at hd2
        obtain ⟨rb, roff, er, kr⟩ := hcell j HJ.out
        cases er
        rw [Nat.zero_add] at kr
        obtain ⟨fr, -, OP⟩ := OT.put rfl j HJ.out n
        have HF : Hid (SoS w (w5.setCell ⟨r, j, none⟩ (.int .i64 n)) g (.slice ao c.ts.length cap) (.slice (some ⟨r, 0, none⟩) c.ts.length bc) c { c with ts := c.ts.set j n }) := HC.out.row OT OP
        have m4 : w5.cell? ⟨g, 1, none⟩ = some (.slice (some ⟨r, 0, none⟩) c.ts.length bc) := HC.out.r.cell 1 rfl
        clear OT OP HC hcell
        go_upto_region 7 with fail
        obtain ⟨wz, hwz⟩ : ∃ wz, wz = w5.setCell ⟨r, j, none⟩ (.int .i64 n) := ⟨_, rfl⟩
        rw [← hwz] at HF ⊢
        clear hwz kr fr m4
        go_wp2_with (first | (refine wpList_getS Try.isSn rfl _ rfl g rfl (snA (.slice (some ⟨r, 0, none⟩) c.ts.length bc) ({ c with ts := c.ts.set j n })) rfl (HF.out).r ?_) | (refine wpList_putS Try.isSn rfl _ _ rfl (w.heap.size + 1) (snA (.slice (some ⟨r, 0, none⟩) c.ts.length bc) ({ c with ts := c.ts.set j n })) zeroSn rfl rfl rfl rfl (snA_one _ rfl) (HF.out).q ?_; intro w8 s8 g8))
        refine bodyPost_ret (results_S2 Try.isSn rfl _ _ (w.heap.size + 1) _ _ rfl rfl rfl s8) rfl ?_
        obtain ⟨hm, hb⟩ := (HF.out).fin g8
        exact ⟨_, by rw [HD.out]; rfl, by rw [HD.out]; exact hm, hb⟩
end Go.Proofs.Ytdcdfhklnhaimaa
