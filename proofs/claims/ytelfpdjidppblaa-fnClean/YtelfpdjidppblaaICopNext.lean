/- The program's Next. -/
import Derived.Test.YtelfpdjidppblaaCoS
namespace Go.Proofs.Ytelfpdjidppblaa
open Go.ChangeShapes Go.WideShapes Go.ChangeAt Go.RowKit

set_option maxRecDepth 20000 in
set_option maxHeartbeats 4000000 in
theorem inexted_any (v : Value) (c : Cp) (w : World) (hr : Reads w v c.ts) (hl : c.ts.length ≤ 1099511627776) :
    Calls Try.prog 14 #[CpV v c] w fun e w' => ∃ u, e = .returned (.tuple #[CpV u (c.Next), .int .i64 (c.Nx)]) ∧ Mine w' w.heap.size u (c.Next).ts ∧ Below w.heap.size w w' := by
  obtain ⟨w1, hw1⟩ : ∃ w1, w1 = (w.alloc (.cells (cpA v c) 26)).alloc (.cells zeroCp 26) := ⟨_, rfl⟩
  have p0 : StB w1 w.heap.size 26 (cpA v c) := by rw [hw1]; exact (StB.new w _ _).alloc _
  have q0 : StB w1 (w.heap.size + 1) 26 zeroCp := by
    rw [hw1]
    have := StB.new (w.alloc (.cells (cpA v c) 26)) 26 zeroCp
    rwa [World.size_alloc] at this
  have b1 : Below w.heap.size w w1 := by rw [hw1]; exact ((Below.refl _ _).alloc (Nat.le_refl _) _).alloc (by simp) _
  have c1 := icopok_any v c w1 (hr.below b1 (Nat.le_refl _)) hl
  have cf : Hid (∀ wx, Reads wx v c.ts → _) := fun wx h => ifreshC_any v c wx h hl
  obtain ⟨ao, cap, rfl⟩ := reads_form hr
  have HW : Hid (w1 = (w.alloc (.cells #[.int .i64 c.tr, .bool c.op, .int .i64 c.di, .int .i64 c.wa, .slice ao c.ts.length cap] 26)).alloc (.cells #[.int .i64 0, .bool false, .int .i64 0, .int .i64 0, .slice none 0 0] 26)) := hw1
  have hs1 := q0.lt
  have HP : Hid (StB w1 w.heap.size 26 (cpA (.slice ao c.ts.length cap) c) ∧ StB w1 (w.heap.size + 1) 26 zeroCp ∧ Below w.heap.size w w1 ∧ Reads w (.slice ao c.ts.length cap) c.ts) := ⟨p0, q0, b1, hr⟩
  clear hw1 hr
  have k0 : w1.cell? ⟨w.heap.size, 0, none⟩ = some (.int .i64 c.tr) := p0.cell 0 rfl
  have k1 : w1.cell? ⟨w.heap.size, 1, none⟩ = some (.bool c.op) := p0.cell 1 rfl
  have k2 : w1.cell? ⟨w.heap.size, 2, none⟩ = some (.int .i64 c.di) := p0.cell 2 rfl
  have k3 : w1.cell? ⟨w.heap.size, 3, none⟩ = some (.int .i64 c.wa) := p0.cell 3 rfl
  have k4 : w1.cell? ⟨w.heap.size, 4, none⟩ = some (.slice ao c.ts.length cap) := p0.cell 4 rfl
  clear p0 q0 b1
  cases ok : c.ok with
  | false =>
    have e0 : c.Next = Cp.zero := by unfold Cp.Next; rw [ok]; rfl
    rw [e0]
    have e1 : c.Nx = -1 := by unfold Cp.Nx; rw [ok]; rfl
    rw [e1]
    rw [ok] at c1
    unfold CpV at c1 ⊢
    conv in cpA (.slice ao c.ts.length cap) c => unfold cpA
    conv at c1 in cpA (.slice ao c.ts.length cap) c => unfold cpA
    clear e0 e1 cf
    go_enter Try.func14, Try.ntmps14
    go_wp2_with fail
    rw [← HW.out]
    refine c1.mono ?_
    rintro e w2 ⟨rfl, b2⟩
    have q2 := HP.out.2.1.below b2
    have HB2 : Hid (Below w.heap.size w w2) := HP.out.2.2.1.trans (b2.mono HP.out.2.2.1.size)
    have HS2 := b2.size
    clear HW HP c1 k0 k1 k2 k3 k4 b2
    go_wp2_with (refine wpList_putS Try.isCp rfl _ _ rfl (w.heap.size + 1) zeroCp zeroCp rfl rfl rfl rfl zeroCp_one q2 ?_; intro w8 s8 g8)
    refine bodyPost_ret (results_S2 Try.isCp rfl _ _ (w.heap.size + 1) _ _ rfl rfl rfl s8) rfl ?_
    exact ⟨.slice none 0 0, rfl, .inl (Own.nil _ _), HB2.out.grown g8 HB2.out.size (fun k e => by cases e; omega)⟩
  | true =>
    have e0 : c.Next = c.next := by unfold Cp.Next; rw [ok]; rfl
    rw [e0]
    have e1 : c.Nx = c.nx := by unfold Cp.Nx; rw [ok]; rfl
    rw [e1]
    have FT : Hid c.Fit := Cp.fit ok
    rw [ok] at c1
    unfold CpV at c1 cf ⊢
    conv in cpA (.slice ao c.ts.length cap) c => unfold cpA
    conv at c1 in cpA (.slice ao c.ts.length cap) c => unfold cpA
    conv at cf in cpA (.slice ao c.ts.length cap) c => unfold cpA
    clear e0 e1
    go_enter Try.func14, Try.ntmps14
    go_wp2_with fail
    rw [← HW.out]
    refine c1.mono ?_
    rintro e w2 ⟨rfl, b2⟩
    have p2 := HP.out.1.below b2
    have q2 := HP.out.2.1.below b2
    have B2 : Below w.heap.size w w2 := HP.out.2.2.1.trans (b2.mono HP.out.2.2.1.size)
    have HR : Hid (Reads w (.slice ao c.ts.length cap) c.ts) := HP.out.2.2.2
    have c2 := cf.out w2 (HR.out.below B2 (Nat.le_refl _))
    have HS2 : Hid (w.heap.size + 1 < w2.heap.size) := Nat.lt_of_lt_of_le hs1 b2.size
    have HQ : Hid (StB w2 w.heap.size 26 (cpA (.slice ao c.ts.length cap) c) ∧ StB w2 (w.heap.size + 1) 26 zeroCp ∧ Below w.heap.size w w2) := ⟨p2, q2, B2⟩
    clear HW HP c1 cf k0 k1 k2 k3 k4 b2 q2 B2 hs1
    have k0 : w2.cell? ⟨w.heap.size, 0, none⟩ = some (.int .i64 c.tr) := p2.cell 0 rfl
    have k1 : w2.cell? ⟨w.heap.size, 1, none⟩ = some (.bool c.op) := p2.cell 1 rfl
    have k2 : w2.cell? ⟨w.heap.size, 2, none⟩ = some (.int .i64 c.di) := p2.cell 2 rfl
    have k3 : w2.cell? ⟨w.heap.size, 3, none⟩ = some (.int .i64 c.wa) := p2.cell 3 rfl
    have k4 : w2.cell? ⟨w.heap.size, 4, none⟩ = some (.slice ao c.ts.length cap) := p2.cell 4 rfl
    clear p2
    go_wp2_with fail
    refine c2.mono ?_
    rintro e w3 ⟨u, rfl, o3, b3⟩
    obtain ⟨bo, bc, rfl⟩ := reads_form o3.reads
    clear k0 k1 k2 k3 k4 c2
    obtain ⟨w4, hw4⟩ : ∃ w4, w4 = w3.alloc (.cells (cpA (.slice bo c.ts.length bc) c) 26) := ⟨_, rfl⟩
    obtain ⟨g, hg⟩ : ∃ g, g = w3.heap.size := ⟨_, rfl⟩
    have HC : Hid (CoS w w4 g (.slice ao c.ts.length cap) (.slice bo c.ts.length bc) c c) := by
      rw [hw4, hg]
      exact CoS.start HQ.out.1 HQ.out.2.1 HQ.out.2.2 HS2.out o3 b3
    unfold cpA at hw4 ⊢
    clear HQ HS2 o3 b3
    go_upto_region 4 with fail
    rw [← hw4, ← hg]
    clear hw4 hg
    have HA : Hid (c.goes = false → c.next = c ∧ c.nx = -1) := fun h => by unfold Cp.next Cp.nx; rw [h]; exact ⟨rfl, rfl⟩
    have HG : Hid (c.goes = (c.op && decide (0 ≤ firstI c.di) && decide (c.ts.getD (firstI c.di).toNat 0 ≠ 1000000000))) := rfl
    have HF : Hid ((0 ≤ firstI c.di → (bagI c.di 8).getD 0 0 = firstI c.di ∧ (bagI c.di 8) ≠ [] ∧ setL (bagI c.di 8).tail = withoutI c.di (firstI c.di)) ∧ (firstI c.di < 0 → bagI c.di 8 = [])) := by
      have h0 := FT.out.di0
      have h1 := FT.out.d
      obtain ⟨n, hn⟩ := nat_of h0
      rw [hn] at h1 ⊢
      exact bag_first n (by omega)
    have k0 : w4.cell? ⟨w.heap.size, 0, none⟩ = some (.int .i64 c.tr) := HC.out.p.cell 0 rfl
    have k1 : w4.cell? ⟨w.heap.size, 1, none⟩ = some (.bool c.op) := HC.out.p.cell 1 rfl
    have k2 : w4.cell? ⟨w.heap.size, 2, none⟩ = some (.int .i64 c.di) := HC.out.p.cell 2 rfl
    have k3 : w4.cell? ⟨w.heap.size, 3, none⟩ = some (.int .i64 c.wa) := HC.out.p.cell 3 rfl
    have k4 : w4.cell? ⟨w.heap.size, 4, none⟩ = some (.slice ao c.ts.length cap) := HC.out.p.cell 4 rfl
    have cd := idirty_any (.slice ao c.ts.length cap) c w4 (HR.out.below HC.out.b (Nat.le_refl _))
    unfold CpV cpA at cd
    go_wp2_with fail
    refine cd.mono ?_
    rintro e w5 ⟨ud, rfl, od, bd⟩
    obtain ⟨dO, dC, rfl⟩ := reads_form od.reads
    obtain ⟨w6, hN⟩ : ∃ w6, w6 = w5.alloc (.cells #[.slice dO (bagI c.di 8).length dC] 52) := ⟨_, rfl⟩
    obtain ⟨h, hh⟩ : ∃ h, h = w5.heap.size := ⟨_, rfl⟩
    have bN : Below w5.heap.size w5 w6 := by rw [hN]; exact (Below.refl _ _).alloc (Nat.le_refl _) _
    have HD : Hid (HpB w6 w4.heap.size h (.slice dO (bagI c.di 8).length dC) (bagI c.di 8)) := ⟨by rw [hN, hh]; exact StB.new _ _ _, od.below bN, by rw [hh]; exact bd.size⟩
    have HX : Hid (Below w4.heap.size w4 w6) := bd.trans (bN.mono bd.size)
    clear cd od bd bN
    clear k0 k1 k2 k3 k4
    go_upto_region 5 with fail
    rw [← hN, ← hh]
    clear hN hh
    have HC0 : Hid (CoS w w4 g (.slice ao c.ts.length cap) (.slice bo c.ts.length bc) c c) := HC.out
    replace HC : Hid (CoS w w6 g (.slice ao c.ts.length cap) (.slice bo c.ts.length bc) c c) := HC.out.below HX.out
    have k1 : w6.cell? ⟨w.heap.size, 1, none⟩ = some (.bool c.op) := HC.out.p.cell 1 rfl
    obtain ⟨bop, hbop⟩ : ∃ bop, bop = c.op := ⟨_, rfl⟩
    rw [← hbop] at k1 HG
    have HOP : Hid (bop = c.op) := hbop
    clear hbop
    cases bop with
    | false =>
      have HN := HA.out (by rw [HG.out]; rfl)
      have HV : Hid (c.next = c ∧ c.nx = -1) := HN
      clear HA HG HF HN FT HR HX HD HOP HC0
      go_quiet (fail)
      obtain ⟨w7, hw7⟩ : ∃ w7, w7 = w6.drewN nq := ⟨_, rfl⟩
      replace HC : Hid (CoS w w7 g (.slice ao c.ts.length cap) (.slice bo c.ts.length bc) c c) := by rw [hw7]; exact HC.out.below (below_drewN (Below.refl _ _) _)
      rw [← hw7]
      clear hw7 k1
      go_upto_region 6 with fail
      go_wp2_with (first | (refine wpList_getS Try.isCp rfl _ rfl g rfl (cpA (.slice bo c.ts.length bc) (c)) rfl (HC.out).r ?_) | (refine wpList_putS Try.isCp rfl _ _ rfl (w.heap.size + 1) (cpA (.slice bo c.ts.length bc) (c)) zeroCp rfl rfl rfl rfl (cpA_one _ rfl) (HC.out).q ?_; intro w8 s8 g8))
      refine bodyPost_ret (results_S2 Try.isCp rfl _ _ (w.heap.size + 1) _ _ rfl rfl rfl s8) rfl ?_
      obtain ⟨hm, hb⟩ := (HC.out).fin g8
      exact ⟨_, by rw [HV.out.1, HV.out.2]; rfl, by rw [HV.out.1]; exact hm, hb⟩
    | true =>
      have kh := HD.out.cell
      by_cases hf : firstI c.di < 0
      · have hbag := HF.out.2 hf
        have HB : Hid (bagI c.di 8 = []) := hbag
        rw [hbag] at kh HD
        simp only [hbag, List.length_nil] at kh HD ⊢
        have cl := fun wx => hlenV_any dO 0 dC wx
        clear hbag
        have HN := HA.out (by rw [HG.out]; simp; omega)
        have HV : Hid (c.next = c ∧ c.nx = -1) := HN
        clear HA HG HF HN FT HR HX HD HOP HC0 HB hf
        go_quiet ((go_at_call 47; exact Calls.quiet_of_same (cl _)))
        clear kh cl
        obtain ⟨w8, hw8⟩ : ∃ w8, w8 = w6.drewN nq := ⟨_, rfl⟩
        replace HC : Hid (CoS w w8 g (.slice ao c.ts.length cap) (.slice bo c.ts.length bc) c c) := by rw [hw8]; exact HC.out.below (below_drewN (Below.refl _ _) _)
        rw [← hw8]
        clear hw8 k1
        go_upto_region 6 with fail
        go_wp2_with (first | (refine wpList_getS Try.isCp rfl _ rfl g rfl (cpA (.slice bo c.ts.length bc) (c)) rfl (HC.out).r ?_) | (refine wpList_putS Try.isCp rfl _ _ rfl (w.heap.size + 1) (cpA (.slice bo c.ts.length bc) (c)) zeroCp rfl rfl rfl rfl (cpA_one _ rfl) (HC.out).q ?_; intro w8 s8 g8))
        refine bodyPost_ret (results_S2 Try.isCp rfl _ _ (w.heap.size + 1) _ _ rfl rfl rfl s8) rfl ?_
        obtain ⟨hm, hb⟩ := (HC.out).fin g8
        exact ⟨_, by rw [HV.out.1, HV.out.2]; rfl, by rw [HV.out.1]; exact hm, hb⟩
      · obtain ⟨hb0, hne, hset⟩ := HF.out.1 (by omega)
        obtain ⟨a, t, hat⟩ : ∃ a t, bagI c.di 8 = a :: t := List.exists_cons_of_ne_nil hne
        have ha : a = firstI c.di := by rw [← hb0, hat]; rfl
        have HT : Hid (∀ m : List Int, m.Perm t → setL m = withoutI c.di (firstI c.di)) := by
          intro m hm
          rw [← hset, hat]
          exact setL_perm (fun x hx => by have := bagI_lt (s := c.di) (k := 8) (x := x) (by rw [hat]; exact List.mem_cons_of_mem _ hx); omega) hm
        have HTB : Hid (∀ m : List Int, m.Perm t → ∀ x ∈ m, 0 ≤ x ∧ x < 8) := by
          intro m hm x hx
          have := bagI_lt (s := c.di) (k := 8) (x := x) (by rw [hat]; exact List.mem_cons_of_mem _ (hm.mem_iff.1 hx))
          omega
        have HTL : Hid (t.length ≤ 900) := by
          have := bagI_len c.di 8
          rw [hat] at this
          simp at this
          show t.length ≤ 900
          omega
        have hlt : firstI c.di < (c.ts.length : Int) := FT.out.first
        have hle : c.ts.length ≤ 8 := FT.out.len
        rw [hat] at HD kh
        simp only [hat] at HD kh ⊢
        rw [← ha] at hf hlt HG HT
        obtain ⟨j, rfl⟩ := nat_of (show 0 ≤ a by omega)
        rw [Int.toNat_natCast] at HG
        obtain ⟨-, hc1, hc2, hcell⟩ := reads_cells (HR.out.below HC.out.b (Nat.le_refl _))
        unfold maxLen at hc2
        obtain ⟨b, off, rfl, kt⟩ := hcell j (by omega)
        have HY : Hid (j < c.ts.length ∧ (j : Int) = firstI c.di) := ⟨by omega, ha⟩
        have hyb := turns_at FT.out.turns j
        obtain ⟨y, hy⟩ : ∃ y, y = c.ts.getD j 0 := ⟨_, rfl⟩
        rw [← hy] at kt HG hyb
        have HYV : Hid (y = c.ts.getD j 0) := hy
        obtain ⟨tl, htl⟩ : ∃ tl, tl = t.length := ⟨_, rfl⟩
        have el : ((j : Int) :: t).length = tl + 1 := by rw [htl]; rfl
        have HDO : Hid (HpB w6 w4.heap.size h (.slice dO (tl + 1) dC) ((j : Int) :: t)) := by rw [← el]; exact HD.out
        have cl := hlen_any (.slice dO (tl + 1) dC) ((j : Int) :: t) w6.drew (by have := HDO.out.own.reads; exact this.below (Below.refl _ _).drew (Nat.le_refl _))
        have cf := hfirst_any (j : Int) t (.slice dO (tl + 1) dC) w6.drew (by have := HDO.out.own.reads; exact this.below (Below.refl _ _).drew (Nat.le_refl _))
        rw [show ((((j : Int) :: t).length : Nat) : Int) = (tl : Int) + 1 by rw [el]; omega] at cl
        rw [el] at kh ⊢
        have k4 : w6.cell? ⟨w.heap.size, 4, none⟩ = some (.slice (some ⟨b, off, none⟩) c.ts.length cap) := HC.out.p.cell 4 rfl
        have kd1 : w6.drew.cell? ⟨w.heap.size, 1, none⟩ = some (.bool true) := k1
        have kdh : w6.drew.cell? ⟨h, 0, none⟩ = some (.slice dO (tl + 1) dC) := kh
        have kd4 : w6.drew.cell? ⟨w.heap.size, 4, none⟩ = some (.slice (some ⟨b, off, none⟩) c.ts.length cap) := k4
        have kdt : w6.drew.cell? ⟨b, off + j, none⟩ = some (.int .i64 y) := kt
        have hl0 : ((tl : Int) + 1 == 0) = false := by simp; omega
        clear hb0 hne hset hat ha hy htl el hcell HD
        by_cases hmax : y = 1000000000
        · have em : (y == 1000000000) = true := by simpa using hmax
          have HD : Hid True := trivial
          have HN := HA.out (by rw [HG.out]; simp [hmax])
          have HV : Hid (c.next = c ∧ c.nx = -1) := HN
          clear HA HG HF HN FT HR HX HD HOP HC0 HT HTB HTL HY HYV HDO
          go_region_held3 (fun w' => w'.cell? ⟨w.heap.size, 1, none⟩ = some (.bool true) ∧ w'.cell? ⟨h, 0, none⟩ = some (.slice dO (tl + 1) dC) ∧ w'.cell? ⟨w.heap.size, 4, none⟩ = some (.slice (some ⟨b, off, none⟩) c.ts.length cap) ∧ w'.cell? ⟨b, off + j, none⟩ = some (.int .i64 y)) (refine ⟨?_, ?_, ?_, ?_⟩ <;> with_reducible assumption)
            (first
              | (go_at_call 47; refine cl.mono ?_; rintro e w' ⟨rfl, hw⟩; subst w')
              | (go_at_call 48; refine cf.mono ?_; rintro e w' ⟨rfl, hw⟩; subst w'))
          clear kd1 kdh kd4 kdt kh k4 kt cl cf em
          obtain ⟨w9, hw9⟩ : ∃ w9, w9 = w6.drew := ⟨_, rfl⟩
          replace HC : Hid (CoS w w9 g (.slice (some ⟨b, off, none⟩) c.ts.length cap) (.slice bo c.ts.length bc) c c) := by rw [hw9]; exact HC.out.below (Below.refl _ _).drew
          rw [← hw9]
          clear hw9 k1
          go_upto_region 6 with fail
          go_wp2_with (first | (refine wpList_getS Try.isCp rfl _ rfl g rfl (cpA (.slice bo c.ts.length bc) (c)) rfl (HC.out).r ?_) | (refine wpList_putS Try.isCp rfl _ _ rfl (w.heap.size + 1) (cpA (.slice bo c.ts.length bc) (c)) zeroCp rfl rfl rfl rfl (cpA_one _ rfl) (HC.out).q ?_; intro w8 s8 g8))
          refine bodyPost_ret (results_S2 Try.isCp rfl _ _ (w.heap.size + 1) _ _ rfl rfl rfl s8) rfl ?_
          obtain ⟨hm, hb⟩ := (HC.out).fin g8
          exact ⟨_, by rw [HV.out.1, HV.out.2]; rfl, by rw [HV.out.1]; exact hm, hb⟩
        · have em : (y == 1000000000) = false := by simpa using hmax
          have HV : Hid (c.next = { c with di := withoutI c.di j, wa := withI c.wa j, ts := c.ts.set j (y + 1) } ∧ c.nx = j) := by
            have hg : c.goes = true := by rw [HG.out]; simp [hmax]
            unfold Cp.next Cp.nx
            rw [hg, ← HY.out.2, Int.toNat_natCast, ← HYV.out]
            exact ⟨rfl, rfl⟩
          go_region_held3 (fun w' => w'.cell? ⟨w.heap.size, 1, none⟩ = some (.bool true) ∧ w'.cell? ⟨h, 0, none⟩ = some (.slice dO (tl + 1) dC) ∧ w'.cell? ⟨w.heap.size, 4, none⟩ = some (.slice (some ⟨b, off, none⟩) c.ts.length cap) ∧ w'.cell? ⟨b, off + j, none⟩ = some (.int .i64 y)) (refine ⟨?_, ?_, ?_, ?_⟩ <;> with_reducible assumption)
            (first
              | (go_at_call 47; refine cl.mono ?_; rintro e w' ⟨rfl, hw⟩; subst w')
              | (go_at_call 48; refine cf.mono ?_; rintro e w' ⟨rfl, hw⟩; subst w'))
          clear kd1 kdh kd4 kdt kh k4 kt cl cf em HA HG HF
          obtain ⟨w10, hw10⟩ : ∃ w10, w10 = w6.drew := ⟨_, rfl⟩
          have bq : Below w6.heap.size w6 w10 := by rw [hw10]; exact (Below.refl _ _).drew
          rw [← hw10]
          replace HC : Hid (CoS w w4 g (.slice (some ⟨b, off, none⟩) c.ts.length cap) (.slice bo c.ts.length bc) c c) := HC0.out
          replace HX : Hid (Below w4.heap.size w4 w10) := HX.out.trans (bq.mono HX.out.size)
          have ct := htake_any (j : Int) t (.slice dO (tl + 1) dC) w4.heap.size h w10 (HDO.out.below bq) HTL.out
          clear hw10 HDO HTL bq
          go_wp2_with fail
          refine ct.mono ?_
          rintro e w11 ⟨rfl, um, m, h7, p7, b7⟩
          replace HX : Hid (Below w4.heap.size w4 w11) := HX.out.trans b7
          have HD : Hid (HpB w11 w4.heap.size h um m) := h7
          have kh := h7.cell
          have cs := hset_any um m w11 HD.out.own.reads (HTB.out m p7)
          have HZ : Hid (setL m = withoutI c.di j) := HT.out m p7
          obtain ⟨z, hz⟩ : ∃ z, z = setL m := ⟨_, rfl⟩
          rw [← hz] at cs HZ
          obtain ⟨mO, mC, rfl⟩ := reads_form HD.out.own.reads
          replace HC : Hid (CoS w w11 g (.slice (some ⟨b, off, none⟩) c.ts.length cap) (.slice bo c.ts.length bc) c c) := HC.out.below HX.out
          have HE : Hid (CoS w (w11.setCell ⟨g, 2, none⟩ (.int .i64 z)) g (.slice (some ⟨b, off, none⟩) c.ts.length cap) (.slice bo c.ts.length bc) c { c with di := z }) := HC.out.put 2 (.int .i64 z) rfl rfl
          obtain ⟨m2, f2⟩ := HC.out.cells 2 (x := .int .i64 c.di) rfl
          clear ct h7 p7 b7 HT HTB HX HD HC hz
          go_wp2_with fail
          refine cs.mono ?_
          rintro e w' ⟨rfl, hw⟩; subst w'
          go_upto_region 9 with fail
          obtain ⟨w12, hw12⟩ : ∃ w12, w12 = w11.setCell ⟨g, 2, none⟩ (.int .i64 z) := ⟨_, rfl⟩
          rw [← hw12] at HE ⊢
          clear hw12 cs kh m2 f2
          have k3 : w12.cell? ⟨w.heap.size, 3, none⟩ = some (.int .i64 c.wa) := HE.out.p.cell 3 rfl
          have cw := with_any c.wa j w12
          obtain ⟨q, hq⟩ : ∃ q, q = withI c.wa j := ⟨_, rfl⟩
          rw [← hq] at cw
          have HQ : Hid (q = withI c.wa j) := hq
          have HI : Hid (CoS w (w12.setCell ⟨g, 3, none⟩ (.int .i64 q)) g (.slice (some ⟨b, off, none⟩) c.ts.length cap) (.slice bo c.ts.length bc) c { c with di := z, wa := q }) := HE.out.put 3 (.int .i64 q) rfl rfl
          obtain ⟨m3, f3⟩ := HE.out.cells 3 (x := .int .i64 c.wa) rfl
          clear hq HE
          go_wp2_with fail
          refine cw.mono ?_
          rintro e w' ⟨rfl, hw⟩; subst w'
          go_upto_region 10 with fail
          obtain ⟨w13, hw13⟩ : ∃ w13, w13 = w12.setCell ⟨g, 3, none⟩ (.int .i64 q) := ⟨_, rfl⟩
          rw [← hw13] at HI ⊢
          clear hw13 cw k3 m3 f3
          have OT : Own w13 w.heap.size (.slice bo c.ts.length bc) c.ts := HI.out.o.own (fun e => by have := HY.out.1; rw [e] at this; simp at this)
          obtain ⟨r, rc, er, hrb, hrl⟩ := World.ownsRow.form OT (by have := HY.out.1; omega)
          cases er
          obtain ⟨-, hd1, hd2, hcell⟩ := reads_cells OT.reads
          unfold maxLen at hd2
          obtain ⟨rb, roff, er, kr⟩ := hcell j HY.out.1
          cases er
          rw [Nat.zero_add, ← HYV.out] at kr
          obtain ⟨fr, -, OP⟩ := OT.put rfl j HY.out.1 (y + 1)
          have HJ : Hid (CoS w (w13.setCell ⟨r, j, none⟩ (.int .i64 (y + 1))) g (.slice (some ⟨b, off, none⟩) c.ts.length cap) (.slice (some ⟨r, 0, none⟩) c.ts.length bc) c { c with di := z, wa := q, ts := c.ts.set j (y + 1) }) := HI.out.row OT OP
          have m4 : w13.cell? ⟨g, 4, none⟩ = some (.slice (some ⟨r, 0, none⟩) c.ts.length bc) := HI.out.r.cell 4 rfl
          have hyw : IntKind.i64.wrap (y + 1) = y + 1 := by rw [IntKind.wrap_i64]; omega
          have hjl : (j : Int) < (c.ts.length : Int) := hlt
          clear OT OP HI hcell
          go_upto_region 11 with fail
          obtain ⟨wz, hwz⟩ : ∃ wz, wz = w13.setCell ⟨r, j, none⟩ (.int .i64 (y + 1)) := ⟨_, rfl⟩
          rw [← hwz] at HJ ⊢
          clear hwz kr fr m4
          go_wp2_with (first | (refine wpList_getS Try.isCp rfl _ rfl g rfl (cpA (.slice (some ⟨r, 0, none⟩) c.ts.length bc) ({ c with di := z, wa := q, ts := c.ts.set j (y + 1) })) rfl (HJ.out).r ?_) | (refine wpList_putS Try.isCp rfl _ _ rfl (w.heap.size + 1) (cpA (.slice (some ⟨r, 0, none⟩) c.ts.length bc) ({ c with di := z, wa := q, ts := c.ts.set j (y + 1) })) zeroCp rfl rfl rfl rfl (cpA_one _ rfl) (HJ.out).q ?_; intro w8 s8 g8))
          refine bodyPost_ret (results_S2 Try.isCp rfl _ _ (w.heap.size + 1) _ _ rfl rfl rfl s8) rfl ?_
          obtain ⟨hm, hb⟩ := (HJ.out).fin g8
          exact ⟨_, by rw [HV.out.1, HV.out.2, ← HZ.out, ← HQ.out]; rfl, by rw [HV.out.1]; exact hm, hb⟩
end Go.Proofs.Ytelfpdjidppblaa
