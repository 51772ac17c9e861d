/- The program's Marked. -/
import Derived.Test.YtelfpdjidppblaaCoS
namespace Go.Proofs.Ytelfpdjidppblaa
open Go.ChangeShapes Go.WideShapes Go.ChangeAt Go.RowKit

set_option maxRecDepth 20000 in
set_option maxHeartbeats 4000000 in
theorem imarked_any (v : Value) (c : Cp) (i : Int) (w : World) (hr : Reads w v c.ts) (hl : c.ts.length ≤ 1099511627776) :
    Calls Try.prog 31 #[CpV v c, .int .i64 i] w fun e w' => ∃ u, e = .returned (CpV u (c.Mark i)) ∧ Mine w' w.heap.size u (c.Mark i).ts ∧ Below w.heap.size w w' := by
  obtain ⟨w1, hw1⟩ : ∃ w1, w1 = (w.alloc (.cells (cpA v c) 26)).alloc (.cells zeroCp 26) := ⟨_, rfl⟩
  have p0 : StB w1 w.heap.size 26 (cpA v c) := by rw [hw1]; exact (StB.new w _ _).alloc _
  have q0 : StB w1 (w.heap.size + 1) 26 zeroCp := by
    rw [hw1]
    have := StB.new (w.alloc (.cells (cpA v c) 26)) 26 zeroCp
    rwa [World.size_alloc] at this
  have b1 : Below w.heap.size w w1 := by rw [hw1]; exact ((Below.refl _ _).alloc (Nat.le_refl _) _).alloc (by simp) _
  have c1 := icopok_any v c w1 (hr.below b1 (Nat.le_refl _)) hl
  have cf : Hid (∀ wx, Reads wx v c.ts → _) := fun wx h => ifreshC_any v c wx h hl
  obtain ⟨ao, cap, rfl⟩ := reads_form hr
  have HW : Hid (w1 = (w.alloc (.cells #[.int .i64 c.tr, .bool c.op, .int .i64 c.di, .int .i64 c.wa, .slice ao c.ts.length cap] 26)).alloc (.cells #[.int .i64 0, .bool false, .int .i64 0, .int .i64 0, .slice none 0 0] 26)) := hw1
  have hs1 := q0.lt
  have HP : Hid (StB w1 w.heap.size 26 (cpA (.slice ao c.ts.length cap) c) ∧ StB w1 (w.heap.size + 1) 26 zeroCp ∧ Below w.heap.size w w1 ∧ Reads w (.slice ao c.ts.length cap) c.ts) := ⟨p0, q0, b1, hr⟩
  clear hw1 hr
  have k0 : w1.cell? ⟨w.heap.size, 0, none⟩ = some (.int .i64 c.tr) := p0.cell 0 rfl
  have k1 : w1.cell? ⟨w.heap.size, 1, none⟩ = some (.bool c.op) := p0.cell 1 rfl
  have k2 : w1.cell? ⟨w.heap.size, 2, none⟩ = some (.int .i64 c.di) := p0.cell 2 rfl
  have k3 : w1.cell? ⟨w.heap.size, 3, none⟩ = some (.int .i64 c.wa) := p0.cell 3 rfl
  have k4 : w1.cell? ⟨w.heap.size, 4, none⟩ = some (.slice ao c.ts.length cap) := p0.cell 4 rfl
  clear p0 q0 b1
  cases ok : c.ok with
  | false =>
    have e0 : c.Mark i = Cp.zero := by unfold Cp.Mark; rw [ok]; rfl
    rw [e0]
    rw [ok] at c1
    unfold CpV at c1 ⊢
    conv in cpA (.slice ao c.ts.length cap) c => unfold cpA
    conv at c1 in cpA (.slice ao c.ts.length cap) c => unfold cpA
    clear e0 cf
    go_enter Try.func31, Try.ntmps31
    go_wp2_with fail
    rw [← HW.out]
    refine c1.mono ?_
    rintro e w2 ⟨rfl, b2⟩
    have q2 := HP.out.2.1.below b2
    have HB2 : Hid (Below w.heap.size w w2) := HP.out.2.2.1.trans (b2.mono HP.out.2.2.1.size)
    have HS2 := b2.size
    clear HW HP c1 k0 k1 k2 k3 k4 b2
    go_wp2_with (refine wpList_putS Try.isCp rfl _ _ rfl (w.heap.size + 1) zeroCp zeroCp rfl rfl rfl rfl zeroCp_one q2 ?_; intro w8 s8 g8)
    refine bodyPost_ret (results_S Try.isCp rfl _ _ (w.heap.size + 1) _ rfl rfl s8) rfl ?_
    exact ⟨.slice none 0 0, rfl, .inl (Own.nil _ _), HB2.out.grown g8 HB2.out.size (fun k e => by cases e; omega)⟩
  | true =>
    have e0 : c.Mark i = c.mark i := by unfold Cp.Mark; rw [ok]; rfl
    rw [e0]
    have FT : Hid c.Fit := Cp.fit ok
    rw [ok] at c1
    unfold CpV at c1 cf ⊢
    conv in cpA (.slice ao c.ts.length cap) c => unfold cpA
    conv at c1 in cpA (.slice ao c.ts.length cap) c => unfold cpA
    conv at cf in cpA (.slice ao c.ts.length cap) c => unfold cpA
    clear e0
    go_enter Try.func31, Try.ntmps31
    go_wp2_with fail
    rw [← HW.out]
    refine c1.mono ?_
    rintro e w2 ⟨rfl, b2⟩
    have p2 := HP.out.1.below b2
    have q2 := HP.out.2.1.below b2
    have B2 : Below w.heap.size w w2 := HP.out.2.2.1.trans (b2.mono HP.out.2.2.1.size)
    have HR : Hid (Reads w (.slice ao c.ts.length cap) c.ts) := HP.out.2.2.2
    have c2 := cf.out w2 (HR.out.below B2 (Nat.le_refl _))
    have HS2 : Hid (w.heap.size + 1 < w2.heap.size) := Nat.lt_of_lt_of_le hs1 b2.size
    have HQ : Hid (StB w2 w.heap.size 26 (cpA (.slice ao c.ts.length cap) c) ∧ StB w2 (w.heap.size + 1) 26 zeroCp ∧ Below w.heap.size w w2) := ⟨p2, q2, B2⟩
    clear HW HP c1 cf k0 k1 k2 k3 k4 b2 q2 B2 hs1
    have k0 : w2.cell? ⟨w.heap.size, 0, none⟩ = some (.int .i64 c.tr) := p2.cell 0 rfl
    have k1 : w2.cell? ⟨w.heap.size, 1, none⟩ = some (.bool c.op) := p2.cell 1 rfl
    have k2 : w2.cell? ⟨w.heap.size, 2, none⟩ = some (.int .i64 c.di) := p2.cell 2 rfl
    have k3 : w2.cell? ⟨w.heap.size, 3, none⟩ = some (.int .i64 c.wa) := p2.cell 3 rfl
    have k4 : w2.cell? ⟨w.heap.size, 4, none⟩ = some (.slice ao c.ts.length cap) := p2.cell 4 rfl
    clear p2
    go_wp2_with fail
    refine c2.mono ?_
    rintro e w3 ⟨u, rfl, o3, b3⟩
    obtain ⟨bo, bc, rfl⟩ := reads_form o3.reads
    clear k0 k1 k2 k3 k4 c2
    obtain ⟨w4, hw4⟩ : ∃ w4, w4 = w3.alloc (.cells (cpA (.slice bo c.ts.length bc) c) 26) := ⟨_, rfl⟩
    obtain ⟨g, hg⟩ : ∃ g, g = w3.heap.size := ⟨_, rfl⟩
    have HC : Hid (CoS w w4 g (.slice ao c.ts.length cap) (.slice bo c.ts.length bc) c c) := by
      rw [hw4, hg]
      exact CoS.start HQ.out.1 HQ.out.2.1 HQ.out.2.2 HS2.out o3 b3
    unfold cpA at hw4 ⊢
    clear HQ HS2 o3 b3
    go_upto_region 4 with fail
    rw [← hw4, ← hg]
    clear hw4 hg
    have k0 : w4.cell? ⟨w.heap.size, 0, none⟩ = some (.int .i64 c.tr) := HC.out.p.cell 0 rfl
    have k1 : w4.cell? ⟨w.heap.size, 1, none⟩ = some (.bool c.op) := HC.out.p.cell 1 rfl
    have k2 : w4.cell? ⟨w.heap.size, 2, none⟩ = some (.int .i64 c.di) := HC.out.p.cell 2 rfl
    have k3 : w4.cell? ⟨w.heap.size, 3, none⟩ = some (.int .i64 c.wa) := HC.out.p.cell 3 rfl
    have k4 : w4.cell? ⟨w.heap.size, 4, none⟩ = some (.slice ao c.ts.length cap) := HC.out.p.cell 4 rfl
    have ch := ihas_any (.slice ao c.ts.length cap) c i w4 (HR.out.below HC.out.b (Nat.le_refl _))
    obtain ⟨bh, hbh⟩ : ∃ bh, bh = c.has i := ⟨_, rfl⟩
    rw [← hbh] at ch
    unfold CpV cpA at ch
    have HH : Hid (bh = c.has i) := hbh
    clear hbh
    go_wp2_with fail
    refine ch.mono ?_
    rintro e w5 ⟨rfl, bq⟩
    replace HC : Hid (CoS w w5 g (.slice ao c.ts.length cap) (.slice bo c.ts.length bc) c c) := HC.out.below bq
    clear ch bq
    clear k0 k1 k2 k3 k4
    cases bh with
    | false =>
      have HA : Hid (c.mark i = c) := by
        rw [Hid]; unfold Cp.mark; rw [← HH.out]; rfl
      clear HH HR FT
      go_wp2_with (first | (refine wpList_getS Try.isCp rfl _ rfl g rfl (cpA (.slice bo c.ts.length bc) (c)) rfl (HC.out).r ?_) | (refine wpList_putS Try.isCp rfl _ _ rfl (w.heap.size + 1) (cpA (.slice bo c.ts.length bc) (c)) zeroCp rfl rfl rfl rfl (cpA_one _ rfl) (HC.out).q ?_; intro w8 s8 g8))
      refine bodyPost_ret (results_S Try.isCp rfl _ _ (w.heap.size + 1) _ rfl rfl s8) rfl ?_
      obtain ⟨hm, hb⟩ := (HC.out).fin g8
      exact ⟨_, by rw [HA.out], by rw [HA.out]; exact hm, hb⟩
    | true =>
      have hi := (has_iff c i).1 HH.out.symm
      obtain ⟨j, rfl⟩ := nat_of hi.1
      have h8 : j < 8 := by have := FT.out.len; omega
      have HA : Hid (c.mark j = { c with di := withI c.di j }) := by
        rw [Hid]; unfold Cp.mark; rw [← HH.out]; rfl
      have HO : Hid (∀ m, Added (bagI c.di 8) (withI 0 j) 8 m → setL m = withI c.di j) := by
        intro m hm
        have z := with_zero j h8
        have hd0 := FT.out.di0
        have hd := FT.out.d
        rw [set_added hd0 hd z.2.1 (by omega) hm]
        obtain ⟨k, hk⟩ := nat_of hd0
        rw [hk] at hd ⊢
        exact z.2.2 k (by omega)
      clear hi h8 HH
      have k0 : w5.cell? ⟨w.heap.size, 0, none⟩ = some (.int .i64 c.tr) := HC.out.p.cell 0 rfl
      have k1 : w5.cell? ⟨w.heap.size, 1, none⟩ = some (.bool c.op) := HC.out.p.cell 1 rfl
      have k2 : w5.cell? ⟨w.heap.size, 2, none⟩ = some (.int .i64 c.di) := HC.out.p.cell 2 rfl
      have k3 : w5.cell? ⟨w.heap.size, 3, none⟩ = some (.int .i64 c.wa) := HC.out.p.cell 3 rfl
      have k4 : w5.cell? ⟨w.heap.size, 4, none⟩ = some (.slice ao c.ts.length cap) := HC.out.p.cell 4 rfl
      have cd := idirty_any (.slice ao c.ts.length cap) c w5 (HR.out.below HC.out.b (Nat.le_refl _))
      unfold CpV cpA at cd
      go_wp2_with fail
      refine cd.mono ?_
      rintro e w6 ⟨ud, rfl, od, bd⟩
      obtain ⟨dO, dC, rfl⟩ := reads_form od.reads
      obtain ⟨w7, hN⟩ : ∃ w7, w7 = w6.alloc (.cells #[.slice dO (bagI c.di 8).length dC] 52) := ⟨_, rfl⟩
      obtain ⟨h, hh⟩ : ∃ h, h = w6.heap.size := ⟨_, rfl⟩
      have bN : Below w6.heap.size w6 w7 := by rw [hN]; exact (Below.refl _ _).alloc (Nat.le_refl _) _
      have HD : Hid (HpB w7 w5.heap.size h (.slice dO (bagI c.di 8).length dC) (bagI c.di 8)) := ⟨by rw [hN, hh]; exact StB.new _ _ _, od.below bN, by rw [hh]; exact bd.size⟩
      have HX : Hid (Below w5.heap.size w5 w7) := bd.trans (bN.mono bd.size)
      clear cd od bd bN
      clear k0 k1 k2 k3 k4
      go_upto_region 6 with fail
      rw [← hN, ← hh]
      clear hN hh
      have cw := with_any 0 j w7
      obtain ⟨a, ha⟩ : ∃ a, a = withI 0 j := ⟨_, rfl⟩
      rw [← ha] at cw HO
      clear ha
      have ca := hadd_any _ (bagI c.di 8) (a) _ h w7 HD.out (bagI_nodup _ _) (fun x hx => by have := bagI_lt hx; omega)
      go_wp2_with fail
      refine cw.mono ?_
      rintro e w' ⟨rfl, hw⟩; subst w'
      clear cw
      go_wp2_with fail
      refine ca.mono ?_
      rintro e w8 ⟨rfl, um, m, h8, a8, b8⟩
      replace HX : Hid (Below w5.heap.size w5 w8) := HX.out.trans b8
      have HM : Hid (Added (bagI c.di 8) (a) 8 m) := a8
      replace HD : Hid (HpB w8 w5.heap.size h um m) := h8
      clear ca h8 a8 b8
      have kh := HD.out.cell
      have cs := hset_any um m w8 HD.out.own.reads (HM.out.bound (fun x hx => by have := bagI_lt hx; omega) (Nat.le_refl _))
      obtain ⟨z, hz⟩ : ∃ z, z = setL m := ⟨_, rfl⟩
      rw [← hz] at cs
      have HZ : Hid (z = setL m) := hz
      obtain ⟨mO, mC, rfl⟩ := reads_form HD.out.own.reads
      clear hz
      have e9 : z = withI c.di j := by rw [HZ.out]; exact HO.out m HM.out
      have HE : Hid (c.mark j = { c with di := z }) := by rw [e9]; exact HA.out
      replace HC : Hid (CoS w w8 g (.slice ao c.ts.length cap) (.slice bo c.ts.length bc) c c) := HC.out.below HX.out
      have HF : Hid (CoS w (w8.setCell ⟨g, 2, none⟩ (.int .i64 z)) g (.slice ao c.ts.length cap) (.slice bo c.ts.length bc) c { c with di := z }) := HC.out.put 2 (.int .i64 z) rfl rfl
      obtain ⟨m2, f2⟩ := HC.out.cells 2 (x := .int .i64 c.di) rfl
      clear HA HO HM HZ HX HD HC HR FT e9
      go_wp2_with fail
      refine cs.mono ?_
      rintro e w' ⟨rfl, hw⟩; subst w'
      go_upto_region 8 with fail
      obtain ⟨wz, hwz⟩ : ∃ wz, wz = w8.setCell ⟨g, 2, none⟩ (.int .i64 z) := ⟨_, rfl⟩
      rw [← hwz] at HF ⊢
      clear hwz cs kh m2 f2
      go_wp2_with (first | (refine wpList_getS Try.isCp rfl _ rfl g rfl (cpA (.slice bo c.ts.length bc) ({ c with di := z })) rfl (HF.out).r ?_) | (refine wpList_putS Try.isCp rfl _ _ rfl (w.heap.size + 1) (cpA (.slice bo c.ts.length bc) ({ c with di := z })) zeroCp rfl rfl rfl rfl (cpA_one _ rfl) (HF.out).q ?_; intro w8 s8 g8))
      refine bodyPost_ret (results_S Try.isCp rfl _ _ (w.heap.size + 1) _ rfl rfl s8) rfl ?_
      obtain ⟨hm, hb⟩ := (HF.out).fin g8
      exact ⟨_, by rw [HE.out], by rw [HE.out]; exact hm, hb⟩
end Go.Proofs.Ytelfpdjidppblaa
