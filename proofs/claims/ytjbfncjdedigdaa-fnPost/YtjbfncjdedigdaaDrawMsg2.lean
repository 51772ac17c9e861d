/- What the laws draw of messages: l15DrawMsg. -/
import Derived.Test.YtjbfncjdedigdaaM27
import Derived.Test.YtjbfncjdedigdaaM17
namespace Go.Proofs.Ytjbfncjdedigdaa
open Go.ChangeShapes Go.WideShapes Go.ChangeAt Go.RowKit

set_option maxRecDepth 20000 in
set_option maxHeartbeats 8000000 in
theorem l15drawMsg_any (B c : Nat) (a b k q z : Value) (n : Nd) (w : World) (hcur : Cur w B c) (hr : n.r.Few) :
    Calls Try.prog 51 #[.pointer (some ⟨c, 0, none⟩), NdV a b k q z n] w fun e w' => ∃ u m, e = .returned (MgV u m) ∧ m.h.ks.length ≤ 4 ∧ Mine w' w.heap.size u m.h.ks ∧ Cur w' B c ∧ w.grownBy w' (some c) := by
  have hlt := hcur.lt
  obtain ⟨nd, hnd⟩ : ∃ nd, nd = ndA a b k q z n := ⟨_, rfl⟩
  obtain ⟨w0, hw0⟩ : ∃ w0, w0 = (w.alloc (.cells nd 82)).alloc (.cells zeroMg 35) := ⟨_, rfl⟩
  have H0 : Hid (Cur w0 B c ∧ StB w0 w.heap.size 82 nd ∧ StB w0 (w.heap.size + 1) 35 zeroMg ∧ w.grownBy w0 (some c) ∧ w.heap.size + 2 ≤ w0.heap.size) := by
    rw [hw0]
    have S1 := StB.new (w.alloc (.cells nd 82)) 35 zeroMg
    rw [World.size_alloc] at S1
    have b1 : Below w.heap.size w ((w.alloc (.cells nd 82)).alloc (.cells zeroMg 35)) := ((Below.refl _ _).alloc (Nat.le_refl _) _).alloc (by simp) _
    exact ⟨hcur.below b1, (StB.new w _ _).alloc _, S1, ⟨b1.os, b1.tape, b1.output, b1.size, fun x hx _ => b1.block x hx⟩, by simp⟩
  have hx0 : w0.cell? ⟨w.heap.size, 0, none⟩ = some (.int .i64 n.id) := H0.out.2.1.cell 0 (by rw [hnd]; rfl)
  obtain ⟨w00, hw00⟩ : ∃ w00, w00 = ((w.alloc (.cells (ndA a b k q z n) 82)).alloc (.cells zeroMg 35)) := ⟨_, rfl⟩
  have e00 : w0 = w00 := by rw [hw0, hw00, hnd]
  unfold ndA zeroMg at hw00
  unfold NdV ndA
  clear hw0 hcur
  go_enter Try.func51, Try.ntmps51
  go_upto_region 1 with fail
  rw [← hw00, ← e00]
  clear hw00 e00
  obtain ⟨C, hCd⟩ : ∃ C, C = fun x => Cur x B c ∧ w0.grownBy x (some c) := ⟨_, rfl⟩
  have HQ : Hid (∀ x, C x → Cur x B c ∧ w0.grownBy x (some c)) := by rw [hCd]; exact fun _ h => h
  have HN : Hid (∀ x y, C x → LaterC B c x y → C y) := by rw [hCd]; exact fun _ _ h b => ⟨b.1 h.1, h.2.trans b.2⟩
  have H00 : Hid (C w0.drew) := by rw [hCd]; exact ⟨H0.out.1.below (Below.refl _ _).drew, ⟨rfl, rfl, rfl, Nat.le_refl _, fun _ _ _ => rfl⟩⟩
  have hne : Nonempty (Kin C) := ⟨⟨_, H00.out⟩⟩
  have m0 : ∀ q : Kin C, q.x.cell? ⟨w.heap.size, 0, none⟩ = some (.int .i64 n.id) := fun q => (H0.out.2.1.kept (HQ.out _ q.h).2 (fun e => by have := Option.some.inj e; omega)).cell 0 (by rw [hnd]; rfl)
  have hcn : c < w0.heap.size := Nat.lt_of_lt_of_le hlt.2 H0.out.2.2.2.1.size
  clear hCd hx0
  refine wp_region_gs_last (C := C) (E := byDst fun d => if d = 9 then some (belG 8) else if d = 12 then some (belG 4) else if d = 14 then some (belG 4) else if d = 16 then some (belG 4) else if d = 18 then some (belG 5) else if d = 20 then some (belG 4) else if d = 5 then some (alG w0.heap.size 35 zeroMg) else none) (R := LaterC B c) HN.out (byDst_later (by intro d s hs u x y hx hl; split at hs; (cases hs; exact True.intro); split at hs; (cases hs; exact True.intro); split at hs; (cases hs; exact True.intro); split at hs; (cases hs; exact True.intro); split at hs; (cases hs; exact True.intro); split at hs; (cases hs; exact True.intro); split at hs; (cases hs; exact alG_laterC hcn hx hl); cases hs)) (byDst_looks _ _) (by kernel_rfl) (by kernel_rfl) (by kernel_rfl) (by simp) H00.out ?_
  iterate 3 (refine gs_plain rfl (fun K hK => ?_); go_simp; refine hK _ ?_; clear hK K)
  refine gs_call (belG 8) rfl (by first | rfl | kernel_rfl) (fun wq hB => ?_) (fun uq hu => ?_)
  · go_simp
    refine ⟨rfl, ?_⟩
    exact belG_of (HQ.out _ hB.1).1 (by decide) (by decide)
  obtain ⟨x0, rfl, l0, v0⟩ := hu
  refine gs_plain rfl (fun K hK => ?_); go_simp; refine hK _ ?_; clear hK K
  refine gs_plain rfl (fun K hK => ?_); go_simp; refine hK _ ?_; clear hK K
  refine gs_call (belG 4) rfl (by first | rfl | kernel_rfl) (fun wq hB => ?_) (fun uq hu => ?_)
  · go_simp
    refine ⟨rfl, ?_⟩
    exact belG_of (HQ.out _ hB.1).1 (by decide) (by decide)
  obtain ⟨x1, rfl, l1, v1⟩ := hu
  refine gs_plain rfl (fun K hK => ?_); go_simp; refine hK _ ?_; clear hK K
  refine gs_call (belG 4) rfl (by first | rfl | kernel_rfl) (fun wq hB => ?_) (fun uq hu => ?_)
  · go_simp
    refine ⟨rfl, ?_⟩
    exact belG_of (HQ.out _ hB.1).1 (by decide) (by decide)
  obtain ⟨x2, rfl, l2, v2⟩ := hu
  refine gs_plain rfl (fun K hK => ?_); go_simp; refine hK _ ?_; clear hK K
  refine gs_call (belG 4) rfl (by first | rfl | kernel_rfl) (fun wq hB => ?_) (fun uq hu => ?_)
  · go_simp
    refine ⟨rfl, ?_⟩
    exact belG_of (HQ.out _ hB.1).1 (by decide) (by decide)
  obtain ⟨x3, rfl, l3, v3⟩ := hu
  refine gs_plain rfl (fun K hK => ?_); go_simp; refine hK _ ?_; clear hK K
  refine gs_call (belG 5) rfl (by first | rfl | kernel_rfl) (fun wq hB => ?_) (fun uq hu => ?_)
  · go_simp
    refine ⟨rfl, ?_⟩
    exact belG_of (HQ.out _ hB.1).1 (by decide) (by decide)
  obtain ⟨x4, rfl, l4, v4⟩ := hu
  refine gs_plain rfl (fun K hK => ?_); go_simp; refine hK _ ?_; clear hK K
  refine gs_call (belG 4) rfl (by first | rfl | kernel_rfl) (fun wq hB => ?_) (fun uq hu => ?_)
  · go_simp
    refine ⟨rfl, ?_⟩
    exact belG_of (HQ.out _ hB.1).1 (by decide) (by decide)
  obtain ⟨x5, rfl, l5, v5⟩ := hu
  have hb := built_msg7 n.id (1 + x0) x1 x2 x3 x4 x5
  refine gs_build rfl rfl 35 #[(0, .tmp 7), (1, .tmp 10), (2, .tmp 12), (3, .tmp 14), (4, .tmp 16), (5, .tmp 18), (6, .tmp 20)] rfl #[.int .i64 n.id, .int .i64 (1 + x0), .int .i64 x1, .int .i64 x2, .int .i64 x3, .int .i64 x4, .int .i64 x5, .slice none 0 0, .int .i64 0, .int .i64 0, .int .i64 0] ?_ ?_
  · simp [Act.eval, Act.put]
    have hwr : IntKind.i64.wrap (1 + x0) = 1 + x0 := by rw [IntKind.wrap_i64]; omega
    (try rw [hwr])
    exact hb
  refine gs_call (alG w0.heap.size 35 zeroMg) rfl (by first | rfl | kernel_rfl) (fun wq hB => ?_) (fun uq hu => ?_)
  · go_simp
    exact alG_ofC (HQ.out _ hB.1).2.size
  obtain ⟨g, rfl⟩ := hu
  refine gs_end (fun w4 hz => ?_)
  have cz := HQ.out _ hz.1
  have hn4 := hz.2 _ (List.mem_cons_self ..) g rfl
  refine last_putL Try.isMg rfl rfl _ _ rfl g (mgA (.slice none 0 0) ⟨n.id, 1 + x0, x1, x2, x3, x4, x5, Hd.zero⟩) zeroMg rfl rfl rfl rfl (mgA_one _ rfl) hn4.1 ?_
  intro w5 s5 g5
  have HM : Hid (DMg w w5 B c g nd (.slice none 0 0) ⟨n.id, 1 + x0, x1, x2, x3, x4, x5, Hd.zero⟩) := by
    have h0 := H0.out
    have G4 : w.grownBy w4 (some c) := h0.2.2.2.1.trans cz.2
    exact ⟨cz.1.kept g5 (fun e => by have := Option.some.inj e; have := hn4.2; omega) (fun y e => by cases e; have := hn4.2; omega), grown_newM G4 g5 (by have := hn4.2; omega), (h0.2.1.kept cz.2 (fun e => by have := Option.some.inj e; omega)).kept g5 (fun e => by have := Option.some.inj e; have := hn4.2; omega), (h0.2.2.1.kept cz.2 (fun e => by have := Option.some.inj e; omega)).kept g5 (fun e => by have := Option.some.inj e; have := hn4.2; omega), s5, .inr ⟨rfl, _, _, rfl, by decide, fun _ => rfl⟩, by have := hn4.2; omega, hlt.2, by omega⟩
  have HS : Hid (∃ u m, DMg w w5 B c g nd u m ∧ m.h.ks.length ≤ 4) := ⟨_, _, HM.out, Nat.zero_le _⟩
  obtain ⟨u0, m0', HU⟩ := HS.out
  have HU0 : Hid (DMg w w5 B c g nd u0 m0' ∧ m0'.h.ks.length ≤ 4) := HU
  clear HU HS HM s5 g5 hn4 cz hz hb H00 HN HQ hne m0 hcn H0
  obtain ⟨u, m, HU⟩ : ∃ u m, Hid (DMg w w5 B c g nd u m ∧ m.h.ks.length ≤ 4) := ⟨u0, m0', HU0⟩
  clear HU0
  have hg0 : w.heap.size ≠ g := by have := HU.out.1.bd; omega
  have hg1 : w.heap.size + 1 ≠ g := by have := HU.out.1.bd; omega
  go_wp2_with fail
  refine (once_any B c 2 _ HU.out.1.cur (by omega)).mono ?_
  rintro e w6 ⟨b5, rfl, C, G⟩
  replace HU : Hid (DMg w w6 B c g nd u m ∧ m.h.ks.length ≤ 4) := ⟨HU.out.1.draw C G, HU.out.2⟩
  clear C G
  go_upto_if 23 with fail
  go_cut [] (fun wx => Hid (∃ u m, DMg w wx B c g nd u m ∧ m.h.ks.length ≤ 4))
  case first =>
    cases b5
    case false =>
      go_wp2
      go_meet
      case rel => exact ⟨_, _, HU.out⟩
    case true =>
      have k11 : w6.cell? ⟨w.heap.size, 11, none⟩ = some (.int .i64 n.r.t) := HU.out.1.bx.cell 11 (by rw [hnd]; rfl)
      have g2 : w6.cell? ⟨g, 2, none⟩ = some (.int .i64 m.tr) := HU.out.1.ms.cell 2 rfl
      have f2 : w6.frozen? ⟨g, 2, none⟩ = false := HU.out.1.ms.frozen 2
      go_upto_region 4 with fail
      clear k11 g2 f2
      obtain ⟨w7, hw7⟩ : ∃ wn, wn = w6.setCell ⟨g, 2, none⟩ (.int .i64 n.r.t) := ⟨_, rfl⟩
      rw [← hw7]
      obtain ⟨m', hm'⟩ : ∃ m' : Mg, m' = { m with tr := n.r.t } := ⟨_, rfl⟩
      replace HU : Hid (DMg w w7 B c g nd u m' ∧ m'.h.ks.length ≤ 4) := by rw [hw7, hm']; exact ⟨HU.out.1.put 2 _ _ rfl rfl, HU.out.2⟩
      clear hw7 hm'
      clear m
      rename Mg => m
      have k10 : w7.cell? ⟨w.heap.size, 10, none⟩ = some (.int .i64 n.r.s) := HU.out.1.bx.cell 10 (by rw [hnd]; rfl)
      obtain ⟨rs, hrs⟩ : ∃ rs, rs = n.r.s := ⟨_, rfl⟩
      rw [← hrs] at k10
      clear hrs
      by_cases h3 : rs = 3
      · subst h3
        go_upto_region 5 with fail
        have hnb := hr.2.2.2
        obtain ⟨rn, hrn⟩ : ∃ rn, rn = n.r.n := ⟨_, rfl⟩
        rw [← hrn] at hnb
        have HUd : Hid (DMg w w7.drew B c g nd u m ∧ m.h.ks.length ≤ 4) := ⟨HU.out.1.below (Below.refl _ _).drew, HU.out.2⟩
        have k12 : w7.drew.cell? ⟨w.heap.size, 12, none⟩ = some (.int .i64 rn) := HUd.out.1.bx.cell 12 (by rw [hnd, hrn]; rfl)
        have hS : Hid (∀ wx, DMg w wx B c g nd u m → wx.cell? ⟨w.heap.size, 12, none⟩ = some (.int .i64 rn) ∧ ∀ v, (wx.setCell ⟨g, 2, none⟩ v).cell? ⟨w.heap.size, 12, none⟩ = some (.int .i64 rn)) := fun wx h => ⟨h.bx.cell 12 (by rw [hnd, hrn]; rfl), fun v => (h.bx.other _ _ hg0).cell 12 (by rw [hnd, hrn]; rfl)⟩
        clear HU k10 hrn
        go_region_held3 (fun w' => w'.cell? ⟨w.heap.size, 12, none⟩ = some (.int .i64 rn)) (first | with_reducible assumption | (with_reducible exact hz _)) (first | (go_at_call 49; refine (below_any B c 2 _ HUd.out.1.cur (by omega)).mono ?_; rintro e w8 ⟨x6, rfl, l6, u6, -, C, G⟩; have v6 := u6 (by omega); have HU : Hid (DMg w w8 B c g nd u m ∧ m.h.ks.length ≤ 4) := ⟨HUd.out.1.draw C G, HUd.out.2⟩; clear u6 C G; have k12' : w8.cell? ⟨w.heap.size, 12, none⟩ = some (.int .i64 rn) := (hS.out _ HU.out.1).1; have hz := (hS.out _ HU.out.1).2; have g2 : w8.cell? ⟨g, 2, none⟩ = some (.int .i64 m.tr) := HU.out.1.ms.cell 2 rfl; have f2 : w8.frozen? ⟨g, 2, none⟩ = false := HU.out.1.ms.frozen 2))
        clear k12' hz g2 f2 k12 hS HUd
        have hwr : IntKind.i64.wrap (rn + x6) = rn + x6 := by rw [IntKind.wrap_i64]; omega
        rw [hwr]
        clear hwr
        obtain ⟨w9, hw9⟩ : ∃ wn, wn = w8.setCell ⟨g, 2, none⟩ (.int .i64 (rn + x6)) := ⟨_, rfl⟩
        rw [← hw9]
        obtain ⟨m', hm'⟩ : ∃ m' : Mg, m' = { m with tr := (rn + x6) } := ⟨_, rfl⟩
        replace HU : Hid (DMg w w9 B c g nd u m' ∧ m'.h.ks.length ≤ 4) := by rw [hw9, hm']; exact ⟨HU.out.1.put 2 _ _ rfl rfl, HU.out.2⟩
        clear hw9 hm'
        clear m
        rename Mg => m
        go_wp2
        go_meet
        case rel => exact ⟨_, _, HU.out⟩
      · have h3' : (rs == 3) = false := by simpa using h3
        go_wp2
        go_meet
        case rel => exact ⟨_, _, HU.out⟩
  case rest =>
    clear HU
    obtain ⟨u, m, HU'⟩ := hcut.out
    obtain ⟨w10, hw10⟩ : ∃ x, x = wc := ⟨_, rfl⟩
    rw [← hw10] at HU' ⊢
    have HU : Hid (DMg w w10 B c g nd u m ∧ m.h.ks.length ≤ 4) := HU'
    clear HU' hcut hw10 wc
    have g1 : w10.cell? ⟨g, 1, none⟩ = some (.int .i64 m.kd) := HU.out.1.ms.cell 1 rfl
    have f1 : w10.frozen? ⟨g, 1, none⟩ = false := HU.out.1.ms.frozen 1
    obtain ⟨kd, hkd⟩ : ∃ kd, kd = m.kd := ⟨_, rfl⟩
    rw [← hkd] at g1
    clear hkd
    go_upto_if 41 with fail
    go_cut [] (fun wx => Hid (∃ u m, DMg w wx B c g nd u m ∧ m.h.ks.length ≤ 4))
    case first =>
      by_cases h5 : kd = 5
      · subst h5
        clear g1 f1
        go_wp2_with fail
        refine (l8draw_any B c _ HU.out.1.cur).mono ?_
        have HUs := HU.out.1.gr.size
        rintro e w11 ⟨gh, qh, ch, rfl, hl4, hq, oh, C, G⟩
        replace HU : Hid (DMg w w11 B c g nd u m ∧ m.h.ks.length ≤ 4) := ⟨HU.out.1.draw C G, HU.out.2⟩
        have HO : Hid (Own w11 w.heap.size (.slice (some ⟨qh, 0, none⟩) 4 ch) gh.ks ∧ gh.ks.length = 4) := ⟨oh.mono HUs, hl4⟩
        have rs := HU.out.1.ms
        clear oh C G hl4
        go_wp2_with (refine wpList_putPart Try.isH rfl _ _ rfl g 7 35 (mgA u m) (hdA (.slice (some ⟨qh, 0, none⟩) 4 ch) gh) (mgA (.slice (some ⟨qh, 0, none⟩) 4 ch) { m with h := gh }) rfl rfl rfl rs (Nat.le_refl 11) (hdA_one _ rfl) rfl ?_; intro wz sz gz)
        have HU' : Hid (DMg w wz B c g nd (.slice (some ⟨qh, 0, none⟩) 4 ch) { m with h := gh } ∧ gh.ks.length ≤ 4) := ⟨HU.out.1.hold HO.out.1.mine sz gz, by have := HO.out.2; omega⟩
        clear rs HO sz gz HU
        go_wp2
        go_meet
        case rel => exact ⟨_, _, HU'.out⟩
      · have h5' : (kd == 5) = false := by simpa using h5
        go_wp2
        go_meet
        case rel => exact ⟨_, _, HU.out⟩
    case rest =>
      clear HU
      obtain ⟨u, m, HU'⟩ := hcut.out
      obtain ⟨w12, hw12⟩ : ∃ x, x = wc := ⟨_, rfl⟩
      rw [← hw12] at HU' ⊢
      have HU : Hid (DMg w w12 B c g nd u m ∧ m.h.ks.length ≤ 4) := HU'
      clear HU' hcut hw12 wc
      go_wp2_with fail
      refine (once_any B c 12 _ HU.out.1.cur (by omega)).mono ?_
      rintro e w13 ⟨b12, rfl, C, G⟩
      replace HU : Hid (DMg w w13 B c g nd u m ∧ m.h.ks.length ≤ 4) := ⟨HU.out.1.draw C G, HU.out.2⟩
      clear C G
      go_upto_if 46 with fail
      go_cut [] (fun wx => Hid (∃ u m, DMg w wx B c g nd u m ∧ m.h.ks.length ≤ 4))
      case first =>
        cases b12
        case false =>
          go_wp2
          go_meet
          case rel => exact ⟨_, _, HU.out⟩
        case true =>
          go_wp2_with fail
          refine (below_any B c 5 _ HU.out.1.cur (by omega)).mono ?_
          rintro e w14 ⟨s, rfl, ls, us, -, C, G⟩
          have vs := us (by omega)
          replace HU : Hid (DMg w w14 B c g nd u m ∧ m.h.ks.length ≤ 4) := ⟨HU.out.1.draw C G, HU.out.2⟩
          clear us C G
          obtain rfl | rfl | rfl | rfl | rfl : s = 0 ∨ s = 1 ∨ s = 2 ∨ s = 3 ∨ s = 4 := by omega
          · clear ls vs
            go_wp2_with fail
            refine (from_any B c (-1) 4 _ HU.out.1.cur (by omega) (by omega) (by omega)).mono ?_
            rintro e w15 ⟨x6, rfl, l6, v6, C, G⟩
            replace HU : Hid (DMg w w15 B c g nd u m ∧ m.h.ks.length ≤ 4) := ⟨HU.out.1.draw C G, HU.out.2⟩
            clear C G
            have g0 : w15.cell? ⟨g, 0, none⟩ = some (.int .i64 m.dst) := HU.out.1.ms.cell 0 rfl
            have f0 : w15.frozen? ⟨g, 0, none⟩ = false := HU.out.1.ms.frozen 0
            go_wp2
            clear g0 f0
            obtain ⟨w16, hw16⟩ : ∃ wn, wn = w15.setCell ⟨g, 0, none⟩ (.int .i64 x6) := ⟨_, rfl⟩
            rw [← hw16]
            obtain ⟨m', hm'⟩ : ∃ m' : Mg, m' = { m with dst := x6 } := ⟨_, rfl⟩
            replace HU : Hid (DMg w w16 B c g nd u m' ∧ m'.h.ks.length ≤ 4) := by rw [hw16, hm']; exact ⟨HU.out.1.put 0 _ _ rfl rfl, HU.out.2⟩
            clear hw16 hm'
            clear m
            rename Mg => m
            go_meet
            case rel => exact ⟨_, _, HU.out⟩
          · clear ls vs
            have HL : Hid (DMg w (w14.alloc (.cells #[.int .i64 (0), .int .i64 (9)] 2)) B c g nd u m ∧ m.h.ks.length ≤ 4) := ⟨HU.out.1.alloc _, HU.out.2⟩
            have hcw : c < w14.heap.size := HU.out.1.cur.lt.2
            go_wp2_with fail
            refine (below_any B c 2 _ HL.out.1.cur (by omega)).mono ?_
            rintro e w15 ⟨i, rfl, li, ui, -, C, G⟩
            have vi := ui (by omega)
            have hc := lit_kept G (by simp; omega)
            replace HU : Hid (DMg w w15 B c g nd u m ∧ m.h.ks.length ≤ 4) := ⟨HL.out.1.draw C G, HL.out.2⟩
            clear ui C G HL
            obtain ⟨x, hx⟩ : ∃ x : Int, w15.cell? ⟨w14.heap.size, i.toNat, none⟩ = some (.int .i64 x) := by
              obtain rfl | rfl : i = 0 ∨ i = 1 := by omega
              · exact ⟨0, hc 0⟩
              · exact ⟨9, hc 1⟩
            clear hc
            have g1 : w15.cell? ⟨g, 1, none⟩ = some (.int .i64 m.kd) := HU.out.1.ms.cell 1 rfl
            have f1 : w15.frozen? ⟨g, 1, none⟩ = false := HU.out.1.ms.frozen 1
            go_wp2
            clear g1 f1 hx
            obtain ⟨w16, hw16⟩ : ∃ wn, wn = w15.setCell ⟨g, 1, none⟩ (.int .i64 x) := ⟨_, rfl⟩
            rw [← hw16]
            obtain ⟨m', hm'⟩ : ∃ m' : Mg, m' = { m with kd := x } := ⟨_, rfl⟩
            replace HU : Hid (DMg w w16 B c g nd u m' ∧ m'.h.ks.length ≤ 4) := by rw [hw16, hm']; exact ⟨HU.out.1.put 1 _ _ rfl rfl, HU.out.2⟩
            clear hw16 hm'
            clear m
            rename Mg => m
            go_meet
            case rel => exact ⟨_, _, HU.out⟩
          · clear ls vs
            have HL : Hid (DMg w (w14.alloc (.cells #[.int .i64 (-1), .int .i64 (100000), .int .i64 (100001)] 2)) B c g nd u m ∧ m.h.ks.length ≤ 4) := ⟨HU.out.1.alloc _, HU.out.2⟩
            have hcw : c < w14.heap.size := HU.out.1.cur.lt.2
            go_wp2_with fail
            refine (below_any B c 3 _ HL.out.1.cur (by omega)).mono ?_
            rintro e w15 ⟨i, rfl, li, ui, -, C, G⟩
            have vi := ui (by omega)
            have hc := lit_kept G (by simp; omega)
            replace HU : Hid (DMg w w15 B c g nd u m ∧ m.h.ks.length ≤ 4) := ⟨HL.out.1.draw C G, HL.out.2⟩
            clear ui C G HL
            obtain ⟨x, hx⟩ : ∃ x : Int, w15.cell? ⟨w14.heap.size, i.toNat, none⟩ = some (.int .i64 x) := by
              obtain rfl | rfl | rfl : i = 0 ∨ i = 1 ∨ i = 2 := by omega
              · exact ⟨-1, hc 0⟩
              · exact ⟨100000, hc 1⟩
              · exact ⟨100001, hc 2⟩
            clear hc
            have g2 : w15.cell? ⟨g, 2, none⟩ = some (.int .i64 m.tr) := HU.out.1.ms.cell 2 rfl
            have f2 : w15.frozen? ⟨g, 2, none⟩ = false := HU.out.1.ms.frozen 2
            go_wp2
            clear g2 f2 hx
            obtain ⟨w16, hw16⟩ : ∃ wn, wn = w15.setCell ⟨g, 2, none⟩ (.int .i64 x) := ⟨_, rfl⟩
            rw [← hw16]
            obtain ⟨m', hm'⟩ : ∃ m' : Mg, m' = { m with tr := x } := ⟨_, rfl⟩
            replace HU : Hid (DMg w w16 B c g nd u m' ∧ m'.h.ks.length ≤ 4) := by rw [hw16, hm']; exact ⟨HU.out.1.put 2 _ _ rfl rfl, HU.out.2⟩
            clear hw16 hm'
            clear m
            rename Mg => m
            go_meet
            case rel => exact ⟨_, _, HU.out⟩
          · clear ls vs
            go_wp2_with fail
            refine (from_any B c (-1) 10 _ HU.out.1.cur (by omega) (by omega) (by omega)).mono ?_
            rintro e w15 ⟨x6, rfl, l6, v6, C, G⟩
            replace HU : Hid (DMg w w15 B c g nd u m ∧ m.h.ks.length ≤ 4) := ⟨HU.out.1.draw C G, HU.out.2⟩
            clear C G
            have g3 : w15.cell? ⟨g, 3, none⟩ = some (.int .i64 m.pl) := HU.out.1.ms.cell 3 rfl
            have f3 : w15.frozen? ⟨g, 3, none⟩ = false := HU.out.1.ms.frozen 3
            go_wp2
            clear g3 f3
            obtain ⟨w16, hw16⟩ : ∃ wn, wn = w15.setCell ⟨g, 3, none⟩ (.int .i64 x6) := ⟨_, rfl⟩
            rw [← hw16]
            obtain ⟨m', hm'⟩ : ∃ m' : Mg, m' = { m with pl := x6 } := ⟨_, rfl⟩
            replace HU : Hid (DMg w w16 B c g nd u m' ∧ m'.h.ks.length ≤ 4) := by rw [hw16, hm']; exact ⟨HU.out.1.put 3 _ _ rfl rfl, HU.out.2⟩
            clear hw16 hm'
            clear m
            rename Mg => m
            go_meet
            case rel => exact ⟨_, _, HU.out⟩
          · clear ls vs
            have HL : Hid (DMg w (w14.alloc (.cells #[.int .i64 (-1), .int .i64 (100000), .int .i64 (100001)] 2)) B c g nd u m ∧ m.h.ks.length ≤ 4) := ⟨HU.out.1.alloc _, HU.out.2⟩
            have hcw : c < w14.heap.size := HU.out.1.cur.lt.2
            go_wp2_with fail
            refine (below_any B c 3 _ HL.out.1.cur (by omega)).mono ?_
            rintro e w15 ⟨i, rfl, li, ui, -, C, G⟩
            have vi := ui (by omega)
            have hc := lit_kept G (by simp; omega)
            replace HU : Hid (DMg w w15 B c g nd u m ∧ m.h.ks.length ≤ 4) := ⟨HL.out.1.draw C G, HL.out.2⟩
            clear ui C G HL
            obtain ⟨x, hx⟩ : ∃ x : Int, w15.cell? ⟨w14.heap.size, i.toNat, none⟩ = some (.int .i64 x) := by
              obtain rfl | rfl | rfl : i = 0 ∨ i = 1 ∨ i = 2 := by omega
              · exact ⟨-1, hc 0⟩
              · exact ⟨100000, hc 1⟩
              · exact ⟨100001, hc 2⟩
            clear hc
            have g6 : w15.cell? ⟨g, 6, none⟩ = some (.int .i64 m.ep) := HU.out.1.ms.cell 6 rfl
            have f6 : w15.frozen? ⟨g, 6, none⟩ = false := HU.out.1.ms.frozen 6
            go_wp2
            clear g6 f6 hx
            obtain ⟨w16, hw16⟩ : ∃ wn, wn = w15.setCell ⟨g, 6, none⟩ (.int .i64 x) := ⟨_, rfl⟩
            rw [← hw16]
            obtain ⟨m', hm'⟩ : ∃ m' : Mg, m' = { m with ep := x } := ⟨_, rfl⟩
            replace HU : Hid (DMg w w16 B c g nd u m' ∧ m'.h.ks.length ≤ 4) := by rw [hw16, hm']; exact ⟨HU.out.1.put 6 _ _ rfl rfl, HU.out.2⟩
            clear hw16 hm'
            clear m
            rename Mg => m
            go_meet
            case rel => exact ⟨_, _, HU.out⟩
      case rest =>
        clear HU
        obtain ⟨u, m, HU'⟩ := hcut.out
        obtain ⟨w18, hw18⟩ : ∃ x, x = wc := ⟨_, rfl⟩
        rw [← hw18] at HU' ⊢
        have HU : Hid (DMg w w18 B c g nd u m ∧ m.h.ks.length ≤ 4) := HU'
        clear HU' hcut hw18 wc
        have rs := HU.out.1.ms
        have rz := HU.out.1.rs
        have hu1 : u.oneCell' = true := reads_one HU.out.1.ky.reads
        go_wp2_with (first | (refine wpList_getS Try.isMg rfl _ rfl g rfl (mgA u m) rfl rs ?_) | (refine wpList_putS Try.isMg rfl _ _ rfl (w.heap.size + 1) (mgA u m) zeroMg rfl rfl rfl rfl (mgA_one _ hu1) rz ?_; intro we se ge))
        refine bodyPost_ret (results_S Try.isMg rfl _ _ (w.heap.size + 1) _ rfl rfl se) rfl ?_
        exact ⟨u, m, rfl, HU.out.2, HU.out.1.fin ge⟩
end Go.Proofs.Ytjbfncjdedigdaa
