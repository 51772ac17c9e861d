/- At every list of bytes the law FnBlocks returns true: of the blocks that are drawn of it what is put is there, all else stays, and chosen where they differ it is the other one; and the program answers as the model. -/
import Derived.Test.YtacgndmmdbkehaaRows
import Derived.WalkKit
import Derived.ProofKit
import Derived.OpenShut
import Derived.ShutString
import Derived.ChangeOld
import Derived.Below
import Derived.Test.YtacgndmmdbkehaaBlockLaws
import Derived.Test.YtacgndmmdbkehaaDrawBlocks2
import Derived.Test.YtacgndmmdbkehaaWith
import Derived.Test.YtacgndmmdbkehaaIn
import Derived.Test.YtacgndmmdbkehaaLike
import Derived.Test.YtacgndmmdbkehaaSBlocks
import Derived.Test.YtacgndmmdbkehaaDiffer
import Derived.Test.YtacgndmmdbkehaaChosen
import Derived.Test.YtacgndmmdbkehaaSt
import Derived.Deep.DeepCutAuto
namespace Go.Proofs.Ytacgndmmdbkehaa.fnBlocks
open Go.ChangeShapes Go.WideShapes Go.ChangeAt Go.RowKit
open Go.ChangeMaps (open_string shut_string)
set_option linter.unusedVariables false

theorem own : ownKnob Try.prog.godebug = none := by kernel_rfl
theorem laidOut : laidOutB Try.prog = true := by kernel_rfl

def IsRow (k : IntKind) (w : World) (a : Option Addr) (len cap : Nat) (zs : List Int) : Prop :=
  (a = none ∧ len = 0 ∧ cap = 0 ∧ zs = []) ∨
  ∃ x, a = some x ∧ len ≤ cap ∧ cap ≤ maxLen ∧ zs.length = cap ∧ (∀ i, i < zs.length → w.cell? (x.add i) = some (.int k (zs.getD i 0))) ∧ ∀ n ∈ zs, (Lit.int k n).wf = true

set_option maxRecDepth 20000 in
set_option maxHeartbeats 2000000 in
theorem walk (a0 : Option Addr) (len0 cap0 : Nat) (z0 : List Int) (w : World) (w0 : IsRow .u8 w a0 len0 cap0 z0) :
    Calls Try.prog 3 #[.slice a0 len0 cap0] w fun e w' => e = .returned (.bool true) ∧ Below w.heap.size w w' := by
  by_cases hbig : (4096 : Int) < (len0 : Int)
  · go_enter Try.func3, Try.ntmps3
    go_wp2_with (go_at_call 9; refine (big_any _ _ _ _).mono ?_; rintro e w' ⟨rfl, hw'⟩; subst w')
    go_ret
    exact ⟨rfl, Below.refl _ _⟩
  · have HC : Hid (CodeOk w w.heap.size (.slice a0 len0 cap0)) := codeOk_row w0 (by omega)
    clear w0
    have c : Below w.heap.size w w := Below.refl _ _
    go_enter Try.func3, Try.ntmps3
    go_wp2_with fail
    refine (big_any _ _ _ _).mono ?_
    rintro e w' ⟨rfl, hw'⟩; subst w' 
    go_wp2_with fail
    refine (drawPut_any w.heap.size _ _ (HC.out.below c) c.size).mono ?_
    rintro e w1 ⟨uL, i, x, rfl, xs, hxs, oL, b1⟩
    replace oL := oL.mono c.size
    replace c := c.trans (b1.mono c.size)
    clear b1
    have hx : xs.length ≤ 1099511627776 := by omega
    have hyl : (putI xs i x).length ≤ 1099511627776 := putI_len xs i x hx
    obtain ⟨ys, hys⟩ : ∃ ys, ys = putI xs i x := ⟨_, rfl⟩
    obtain ⟨pb, hpb⟩ : ∃ pb, pb = putB xs i x := ⟨_, rfl⟩
    have ci : ∀ v w', Reads w' v xs → _ := fun v w' h => put_any v xs i x w' h hx
    have cs : ∀ v w', Reads w' v xs → _ := fun v w' h => sput_any v xs i x w' h hx
    have cok : ∀ v w', Reads w' v xs → _ := fun v w' h => ok_any v xs w' h hx
    have csok : ∀ v w', Reads w' v xs → _ := fun v w' h => sok_any v xs w' h hx
    have cdx : ∀ v u w', Reads w' v xs → Reads w' u ys → _ := fun v u w' h h' => differ_any v u xs ys w' h h' hx (hys ▸ hyl)
    obtain ⟨e1, he1⟩ : ∃ e1, e1 = differI xs ys := ⟨_, rfl⟩
    obtain ⟨bk, hbk⟩ : ∃ bk, bk = blocksOk xs := ⟨_, rfl⟩
    simp only [← hys, ← hpb] at ci cs hyl
    simp only [← he1] at cdx
    simp only [← hbk] at cok csok
    have HP : Hid (pb = true → (e1 = 0 ∨ e1 = withI 0 i) ∧ 0 ≤ i ∧ i < (ys.length : Int) ∧ ys.getD i.toNat 0 = x) := by
      intro h
      rw [hpb] at h
      obtain ⟨_, k2, k3, _, _⟩ := putB_ok h
      have k4 := putI_at h
      rw [he1, hys]
      exact ⟨differ_put h, k2, by rw [k4.1]; exact k3, k4.2⟩
    clear hys hpb he1 hbk
    have hpp : (pb != pb) = false := by simp
    have hkk : (bk != bk) = false := by simp
    go_wp2_with fail
    refine (ci _ _ oL.reads).mono ?_
    rintro e w2 ⟨uX, rfl, oX, b2⟩
    replace oL := oL.below b2
    replace oX := oX.mono c.size
    replace c := c.trans (b2.mono c.size)
    clear b2
    go_wp2_with fail
    refine (drawDiffer_any w.heap.size _ _ (HC.out.below c) c.size).mono ?_
    rintro e w3 ⟨uA, uB, rfl, as_, bs, has, hbs, oA, oB, b3⟩
    replace oL := oL.below b3
    replace oX := oX.below b3
    replace oA := oA.mono c.size
    replace oB := oB.mono c.size
    replace c := c.trans (b3.mono c.size)
    clear b3
    have hax : as_.length ≤ 1099511627776 := by omega
    have hbx : bs.length ≤ 1099511627776 := by omega
    obtain ⟨d, hd⟩ : ∃ d, d = differI as_ bs := ⟨_, rfl⟩
    have cd : ∀ v u w', Reads w' v as_ → Reads w' u bs → _ := fun v u w' h h' => differ_any v u as_ bs w' h h' hax hbx
    have csd : ∀ v u w', Reads w' v as_ → Reads w' u bs → _ := fun v u w' h h' => sdiffer_any v u as_ bs w' h h' hax hbx
    have cdr : ∀ v u w', Reads w' v bs → Reads w' u as_ → _ := fun v u w' h h' => differ_any v u bs as_ w' h h' hbx hax
    rw [differI_symm] at cdr
    simp only [← hd] at cd csd cdr
    have HD : Hid (0 ≤ d → chosenI as_ bs d = bs ∧ chosenI as_ bs 0 = as_) := by
      intro h; rw [hd] at h ⊢; exact ⟨chosenI_differ h, chosenI_zero h⟩
    clear hd
    have hdd : (d != d) = false := by simp
    go_wp2_with fail
    refine (cd _ _ _ oA.reads oB.reads).mono ?_
    rintro e w4 ⟨rfl, b4⟩
    replace oL := oL.below b4
    replace oX := oX.below b4
    replace oA := oA.below b4
    replace oB := oB.below b4
    replace c := c.trans (b4.mono c.size)
    clear b4
    go_wp2_with fail
    refine (drawChosen_any w.heap.size _ _ (HC.out.below c) c.size).mono ?_
    rintro e w5 ⟨uP, uQ, s, rfl, ps, qs, hps, hqs, oP, oQ, b5⟩
    replace oL := oL.below b5
    replace oX := oX.below b5
    replace oA := oA.below b5
    replace oB := oB.below b5
    replace oP := oP.mono c.size
    replace oQ := oQ.mono c.size
    replace c := c.trans (b5.mono c.size)
    clear b5
    have hpx : ps.length ≤ 1099511627776 := by omega
    have hqx : qs.length ≤ 1099511627776 := by omega
    have hcl : (chosenI ps qs s).length ≤ 1099511627776 := by have := chosenI_len ps qs s; omega
    obtain ⟨zs, hz⟩ : ∃ zs, zs = chosenI ps qs s := ⟨_, rfl⟩
    have cc : ∀ v u w', Reads w' v ps → Reads w' u qs → _ := fun v u w' h h' => chosen_any v u ps qs s w' h h' hpx hqx
    have csc : ∀ v u w', Reads w' v ps → Reads w' u qs → _ := fun v u w' h h' => schosen_any v u ps qs s w' h h' hpx hqx
    simp only [← hz] at cc csc hcl
    have HZ : Hid (zs.length = 0 ∨ (zs.length = ps.length ∧ zs.length = qs.length ∧ zs.length ≤ 8 ∧ ∀ j : Nat, j < ps.length → zs.getD j 0 = if inB s j = true then qs.getD j 0 else ps.getD j 0)) := by
      rw [hz]; exact chosenI_get ps qs s
    clear hz
    go_wp2_with fail
    refine (cc _ _ _ oP.reads oQ.reads).mono ?_
    rintro e w6 ⟨uC, rfl, oC, b6⟩
    replace oL := oL.below b6
    replace oX := oX.below b6
    replace oA := oA.below b6
    replace oB := oB.below b6
    replace oP := oP.below b6
    replace oQ := oQ.below b6
    replace oC := oC.mono c.size
    replace c := c.trans (b6.mono c.size)
    clear b6
    go_wp2_with fail
    refine (drawNew8_any w.heap.size _ _ (HC.out.below c) c.size).mono ?_
    rintro e w7 ⟨n, rfl, b7⟩
    replace oL := oL.below b7
    replace oX := oX.below b7
    replace oA := oA.below b7
    replace oB := oB.below b7
    replace oP := oP.below b7
    replace oQ := oQ.below b7
    replace oC := oC.below b7
    replace c := c.trans (b7.mono c.size)
    clear b7
    have hnl : (zerosI n).length ≤ 1099511627776 := by unfold zerosI; split; rw [List.length_replicate]; omega; simp
    obtain ⟨ns, hns⟩ : ∃ ns, ns = zerosI n := ⟨_, rfl⟩
    have cn := new_any8 n
    have csn := snew_any n
    simp only [← hns] at cn csn hnl
    clear hns
    go_wp2_with fail
    refine (cs _ _ oL.reads).mono ?_
    rintro e w8 ⟨uY, rfl, oY, b8⟩
    replace oL := oL.below b8
    replace oX := oX.below b8
    replace oA := oA.below b8
    replace oB := oB.below b8
    replace oP := oP.below b8
    replace oQ := oQ.below b8
    replace oC := oC.below b8
    replace oY := oY.mono c.size
    replace c := c.trans (b8.mono c.size)
    clear b8
    go_wp2_with fail
    refine (like_any _ _ ys ys _ oX.reads oY.reads hyl).mono ?_
    rintro e w9 ⟨rfl, n9, hw9⟩
    replace oL := oL.drew_eq hw9
    replace oX := oX.drew_eq hw9
    replace oA := oA.drew_eq hw9
    replace oB := oB.drew_eq hw9
    replace oP := oP.drew_eq hw9
    replace oQ := oQ.drew_eq hw9
    replace oC := oC.drew_eq hw9
    replace oY := oY.drew_eq hw9
    replace c := below_drew_eq c hw9
    clear hw9
    have he : decide (ys = ys) = true := by simp
    rw [he]
    clear he
    go_wp2_with fail
    refine (csd _ _ _ oA.reads oB.reads).mono ?_
    rintro e w10 ⟨rfl, n10, hw10⟩
    replace oL := oL.drew_eq hw10
    replace oX := oX.drew_eq hw10
    replace oA := oA.drew_eq hw10
    replace oB := oB.drew_eq hw10
    replace oP := oP.drew_eq hw10
    replace oQ := oQ.drew_eq hw10
    replace oC := oC.drew_eq hw10
    replace oY := oY.drew_eq hw10
    replace c := below_drew_eq c hw10
    clear hw10
    go_wp2_with fail
    refine (csc _ _ _ oP.reads oQ.reads).mono ?_
    rintro e w11 ⟨uT, rfl, oT, b11⟩
    replace oL := oL.below b11
    replace oX := oX.below b11
    replace oA := oA.below b11
    replace oB := oB.below b11
    replace oP := oP.below b11
    replace oQ := oQ.below b11
    replace oC := oC.below b11
    replace oY := oY.below b11
    replace oT := oT.mono c.size
    replace c := c.trans (b11.mono c.size)
    clear b11
    go_wp2_with fail
    refine (like_any _ _ zs zs _ oC.reads oT.reads hcl).mono ?_
    rintro e w12 ⟨rfl, n12, hw12⟩
    replace oL := oL.drew_eq hw12
    replace oX := oX.drew_eq hw12
    replace oA := oA.drew_eq hw12
    replace oB := oB.drew_eq hw12
    replace oP := oP.drew_eq hw12
    replace oQ := oQ.drew_eq hw12
    replace oC := oC.drew_eq hw12
    replace oY := oY.drew_eq hw12
    replace oT := oT.drew_eq hw12
    replace c := below_drew_eq c hw12
    clear hw12
    have he : decide (zs = zs) = true := by simp
    rw [he]
    clear he
    go_wp2_with fail
    refine (cn _).mono ?_
    rintro e w13 ⟨uM, rfl, oM, b13⟩
    replace oL := oL.below b13
    replace oX := oX.below b13
    replace oA := oA.below b13
    replace oB := oB.below b13
    replace oP := oP.below b13
    replace oQ := oQ.below b13
    replace oC := oC.below b13
    replace oY := oY.below b13
    replace oT := oT.below b13
    replace oM := oM.mono c.size
    replace c := c.trans (b13.mono c.size)
    clear b13
    go_wp2_with fail
    refine (csn _).mono ?_
    rintro e w14 ⟨uN, rfl, oN, b14⟩
    replace oL := oL.below b14
    replace oX := oX.below b14
    replace oA := oA.below b14
    replace oB := oB.below b14
    replace oP := oP.below b14
    replace oQ := oQ.below b14
    replace oC := oC.below b14
    replace oY := oY.below b14
    replace oT := oT.below b14
    replace oM := oM.below b14
    replace oN := oN.mono c.size
    replace c := c.trans (b14.mono c.size)
    clear b14
    go_wp2_with fail
    refine (like_any _ _ ns ns _ oM.reads oN.reads hnl).mono ?_
    rintro e w15 ⟨rfl, n15, hw15⟩
    replace oL := oL.drew_eq hw15
    replace oX := oX.drew_eq hw15
    replace oA := oA.drew_eq hw15
    replace oB := oB.drew_eq hw15
    replace oP := oP.drew_eq hw15
    replace oQ := oQ.drew_eq hw15
    replace oC := oC.drew_eq hw15
    replace oY := oY.drew_eq hw15
    replace oT := oT.drew_eq hw15
    replace oM := oM.drew_eq hw15
    replace oN := oN.drew_eq hw15
    replace c := below_drew_eq c hw15
    clear hw15
    have he : decide (ns = ns) = true := by simp
    rw [he]
    clear he
    go_wp2_with fail
    refine (cok _ _ oL.reads).mono ?_
    rintro e w16 ⟨rfl, b16⟩
    replace oL := oL.below b16
    replace oX := oX.below b16
    replace oA := oA.below b16
    replace oB := oB.below b16
    replace oP := oP.below b16
    replace oQ := oQ.below b16
    replace oC := oC.below b16
    replace oY := oY.below b16
    replace oT := oT.below b16
    replace oM := oM.below b16
    replace oN := oN.below b16
    replace c := c.trans (b16.mono c.size)
    clear b16
    go_wp2_with fail
    refine (csok _ _ oL.reads).mono ?_
    rintro e w' ⟨rfl, hw⟩; subst w'
    clear ci cs cok csok cd csd cc csc cn csn oY oT oM oN hnl hkk HC
    have HS : Hid (St w _ [(uL, xs), (uX, ys), (uA, as_), (uB, bs), (uP, ps), (uQ, qs), (uC, zs)]) := ⟨c, by simp; exact ⟨oL, oX, oA, oB, oP, oQ, oC⟩⟩
    clear c oL oX oA oB oP oQ oC
    go_upto_region 13 with fail
    go_cut [123] (fun t wx => t = .bool false ∧ Hid (St w wx [(uL, xs), (uX, ys), (uA, as_), (uB, bs), (uP, ps), (uQ, qs), (uC, zs)]))
    case first =>
      cases pb with
      | false =>
        go_wp2
        go_meet
        case rel => exact ⟨rfl, HS⟩
      | true =>
        obtain ⟨g1, g2, g3, g4⟩ := HP.out rfl
        have hX := HS.out.reads (v := uX) (xs := ys) (by simp)
        obtain ⟨xo, xcap, rfl⟩ := hX.form
        obtain ⟨-, lX, mX, kX⟩ := hX.cellOf
        obtain ⟨bX, oX, rfl, hbX, hcX⟩ := kX i.toNat (by omega)
        rw [g4] at hcX
        have HG : Hid (e1 = 0 ∨ e1 = withI 0 i) := g1
        have hxx : (x != x) = false := by simp
        clear kX hX g1 g4 HP
        by_cases he0 : (e1 != 0) = true
        · have hw : withI 0 i = e1 := by
            rcases HG.out with h | h
            · simp [h] at he0
            · exact h.symm
          have hee : (e1 != e1) = false := by simp
          go_wp2_with fail
          refine (cdx _ _ _ (HS.out.reads (by simp)) (HS.out.reads (by simp))).mono ?_
          rintro e wa ⟨rfl, ba⟩
          replace hcX := (ba.cell (p := ⟨bX, oX + i.toNat, none⟩) hbX).trans hcX
          replace hbX := Nat.lt_of_lt_of_le hbX ba.size
          replace HS : Hid (St w wa _) := HS.out.below ba
          clear ba
          go_wp2_with fail
          refine (cdx _ _ _ (HS.out.reads (by simp)) (HS.out.reads (by simp))).mono ?_
          rintro e wb ⟨rfl, bb⟩
          replace hcX := (bb.cell (p := ⟨bX, oX + i.toNat, none⟩) hbX).trans hcX
          replace HS : Hid (St w wb _) := HS.out.below bb
          clear bb
          go_wp2_with (go_at_call 25; refine (swith_any 0 i _).mono ?_; rw [hw]; rintro e w' ⟨rfl, hw'⟩; subst w')
          go_meet
          case rel => exact ⟨rfl, HS⟩
        · replace he0 : (e1 != 0) = false := by simpa using he0
          go_wp2_with fail
          refine (cdx _ _ _ (HS.out.reads (by simp)) (HS.out.reads (by simp))).mono ?_
          rintro e wa ⟨rfl, ba⟩
          replace hcX := (ba.cell (p := ⟨bX, oX + i.toNat, none⟩) hbX).trans hcX
          replace HS : Hid (St w wa _) := HS.out.below ba
          clear ba
          go_wp2
          go_meet
          case rel => exact ⟨rfl, HS⟩
    case rest =>
      clear HS
      obtain ⟨rfl, HS⟩ := hcut
      clear HP hpp cdx
      go_upto_region 15 with fail
      go_cut [149] (fun t wx => t = .bool false ∧ Hid (St w wx [(uP, ps), (uQ, qs), (uC, zs)]))
      case first =>
        by_cases hd0 : 0 ≤ d
        · obtain ⟨k1, k2⟩ := HD.out hd0
          have cx : ∀ v u w', Reads w' v as_ → Reads w' u bs → _ := fun v u w' h h' => chosen_any v u as_ bs d w' h h' hax hbx
          have cy : ∀ v u w', Reads w' v as_ → Reads w' u bs → _ := fun v u w' h h' => chosen_any v u as_ bs 0 w' h h' hax hbx
          simp only [k1] at cx
          simp only [k2] at cy
          clear k1 k2 HD
          go_wp2_with fail
          refine (cx uA uB _ (HS.out.reads (by simp)) (HS.out.reads (by simp))).mono ?_
          rintro e wa ⟨uE, rfl, oE, ba⟩
          replace HS : Hid (St w wa _) := HS.out.add oE ba
          clear oE ba
          go_wp2_with fail
          refine (like_any uE uB bs bs _ (HS.out.reads (by simp)) (HS.out.reads (by simp)) hbx).mono ?_
          rintro e wb ⟨rfl, nb, hwb⟩
          have hbb : decide (bs = bs) = true := by simp
          rw [hbb]
          clear hbb
          replace HS : Hid (St w wb _) := HS.out.drew hwb
          clear hwb
          go_wp2_with fail
          refine (cy uA uB _ (HS.out.reads (by simp)) (HS.out.reads (by simp))).mono ?_
          rintro e wd ⟨uF, rfl, oF, bd⟩
          replace HS : Hid (St w wd _) := HS.out.add oF bd
          clear oF bd
          go_wp2_with fail
          refine (like_any uF uA as_ as_ _ (HS.out.reads (by simp)) (HS.out.reads (by simp)) hax).mono ?_
          rintro e we ⟨rfl, ne, hwe⟩
          have haa : decide (as_ = as_) = true := by simp
          rw [haa]
          clear haa
          replace HS : Hid (St w we _) := HS.out.drew hwe
          clear hwe
          go_wp2_with fail
          refine (cdr uB uA _ (HS.out.reads (by simp)) (HS.out.reads (by simp))).mono ?_
          rintro e wf ⟨rfl, bf⟩
          replace HS : Hid (St w wf _) := HS.out.below bf
          clear bf
          go_wp2
          go_meet
          case rel => exact ⟨rfl, HS.out.sub (fun p hp => by (simp only [List.mem_cons, List.not_mem_nil, or_false] at hp); rcases hp with rfl | rfl | rfl <;> simp)⟩
        · go_wp2
          go_meet
          case rel => exact ⟨rfl, HS.out.sub (fun p hp => by (simp only [List.mem_cons, List.not_mem_nil, or_false] at hp); rcases hp with rfl | rfl | rfl <;> simp)⟩
      case rest =>
        clear HS
        obtain ⟨rfl, HS⟩ := hcut
        have rC := HS.out.reads (v := uC) (xs := zs) (by simp)
        have rP := HS.out.reads (v := uP) (xs := ps) (by simp)
        have rQ := HS.out.reads (v := uQ) (xs := qs) (by simp)
        obtain ⟨co, ccap, rfl⟩ := rC.form
        obtain ⟨po, pcap, rfl⟩ := rP.form
        obtain ⟨qo, qcap, rfl⟩ := rQ.form
        obtain ⟨-, lc, mc, kc⟩ := rC.cellOf
        obtain ⟨-, lp, mp, kp⟩ := rP.cellOf
        obtain ⟨-, lq, mq, kq⟩ := rQ.cellOf
        have HK : Hid (∀ j : Nat, j < zs.length → ∃ b1 o1 b2 o2 b3 o3, co = some ⟨b1, o1, none⟩ ∧ po = some ⟨b2, o2, none⟩ ∧ qo = some ⟨b3, o3, none⟩ ∧ (j : Int) < (ps.length : Int) ∧ (j : Int) < (qs.length : Int) ∧ zs.length ≤ 8 ∧
            wc.cell? ⟨b1, o1 + j, none⟩ = some (.int .i64 (if inB s j = true then qs.getD j 0 else ps.getD j 0)) ∧ wc.cell? ⟨b2, o2 + j, none⟩ = some (.int .i64 (ps.getD j 0)) ∧ wc.cell? ⟨b3, o3 + j, none⟩ = some (.int .i64 (qs.getD j 0))) := by
          intro j hj
          rcases HZ.out with h0 | ⟨h1, h2, h3, h4⟩
          · omega
          · obtain ⟨b1, o1, e1, _, c1⟩ := kc j hj
            obtain ⟨b2, o2, e2, _, c2⟩ := kp j (by omega)
            obtain ⟨b3, o3, e3, _, c3⟩ := kq j (by omega)
            rw [h4 j (by omega)] at c1
            exact ⟨b1, o1, b2, o2, b3, o3, e1, e2, e3, by omega, by omega, h3, c1, c2, c3⟩
        have HB : Hid (Below w.heap.size w wc) := HS.out.1
        obtain ⟨nz, hnz⟩ : ∃ nz, nz = zs.length := ⟨_, rfl⟩
        obtain ⟨np, hnp⟩ : ∃ np, np = ps.length := ⟨_, rfl⟩
        obtain ⟨nq, hnq⟩ : ∃ nq, nq = qs.length := ⟨_, rfl⟩
        rw [← hnz, ← hnp, ← hnq] at HK
        rw [← hnz] at lc hcl ⊢
        rw [← hnp] at lp ⊢
        rw [← hnq] at lq ⊢
        unfold maxLen at mc mp mq
        clear hnz hnp hnq HS rC rP rQ kc kp kq HZ HD cdr hax hbx hpx hqx hdd hyl hx hxs has hbs hps hqs
        go_wp2
        go_loopw [18] (fun i wr => ∃ j : Nat, j ≤ nz ∧ i = .int .i64 j ∧ Hid (∃ q, wr = wc.drewN q)) (fun i _ => nz - (intOf i).toNat)
        case atStart => exact ⟨0, Nat.zero_le _, rfl, 0, rfl⟩
        case round =>
          obtain ⟨j, hj, rfl, HQ⟩ := hrel
          by_cases hlt : (j : Int) < (nz : Int)
          · obtain ⟨b1, o1, b2, o2, b3, o3, rfl, rfl, rfl, hjp, hjq, hz8, c1, c2, c3⟩ := HK.out j (by omega)
            clear HK
            have hcw : ∀ a, wr.cell? a = wc.cell? a := by obtain ⟨q, hq⟩ := HQ.out; rw [hq]; intro a; rfl
            rw [← hcw] at c1 c2 c3
            clear hcw
            obtain ⟨y, hy⟩ : ∃ y, y = ps.getD j 0 := ⟨_, rfl⟩
            obtain ⟨z, hz⟩ : ∃ z, z = qs.getD j 0 := ⟨_, rfl⟩
            rw [← hy, ← hz] at c1
            rw [← hy] at c2
            rw [← hz] at c3
            clear hy hz
            by_cases hin : inB s j = true
            · rw [if_pos hin] at c1
              have hzz : (z != z) = false := by simp
              have cin := sin_any s j
              simp only [hin] at cin
              go_wp2
              go_quiet ((go_at_call 26; exact Calls.quiet_of_same (cin _)))
              go_wp2
              go_roundw
              case rel => exact ⟨j + 1, by omega, by go_num, by obtain ⟨q, hq⟩ := HQ.out; exact ⟨_, by rw [hq]; exact World.drewN_drewN ..⟩⟩
              case measure => simp [intOf]; omega
            · rw [if_neg hin] at c1
              replace hin : inB s j = false := by simpa using hin
              have hzz : (y != y) = false := by simp
              have cin := sin_any s j
              simp only [hin] at cin
              go_wp2
              go_quiet ((go_at_call 26; exact Calls.quiet_of_same (cin _)))
              go_wp2
              go_roundw
              case rel => exact ⟨j + 1, by omega, by go_num, by obtain ⟨q, hq⟩ := HQ.out; exact ⟨_, by rw [hq]; exact World.drewN_drewN ..⟩⟩
              case measure => simp [intOf]; omega
          · clear HK
            go_wp2
            go_ret
            obtain ⟨q, hq⟩ := HQ.out
            exact ⟨rfl, below_drew_eq HB.out hq⟩

set_option maxRecDepth 100000 in
theorem lifted (os : Os) (started : os.Started) (H : Type) (enc : TypeId × Value → H) :
    ReturnsInHanded {} Try.checked os 3 .any (Rows.fnBlocksSpec.pre6 enc Try.prog Try.f3 Rows.fnBlocksRow.domain false) (Rows.fnBlocksSpec.post enc Try.prog Try.f3 false true false false) := by
  refine returnsInHanded_of_change (C := Try.checked) own started (by kernel_rfl) Try.func3
    (ChangeSpec.witness6 (enc := enc) (C := Try.checked) false ⟨#[], #[.slice none 0 0], []⟩ 8 (by kernel_rfl) (by kernel_rfl) (by kernel_rfl) (by kernel_rfl)) ?_
  intro W base args ds gs before hval0 hW hcnd _
  have hval : ∀ (j : Nat) t v, Try.f3.params[j]? = some t → args[j]? = some v → Value.okWide Try.prog W .any base t v := hval0
  have hW' := hW
  obtain ⟨p, q, hA0, hV, rfl, hfz, hnd⟩ := hW
  have hA : DataW.TrodAll enc Try.prog W 0 (fun _ => true) true Try.f3.params.toList args.toList ds p := hA0
  rw [Try.params3] at hA hval
  obtain ⟨v0, vs0, d0, ds0, p0, q0, hargs, rfl, rfl, h0, r0⟩ := trodAll_cons hA
  obtain ⟨rfl, rfl, rfl⟩ := trodAll_nil r0
  obtain rfl : args = #[v0] := by cases args; simp_all
  obtain ⟨rfl, rfl⟩ := trodVars_none hV
  obtain ⟨a0, len0, cap0, rfl⟩ := okWide_slice Try.underlying22 (hval 0 22 v0 rfl rfl)
  have k0 := h0
  have lt0 : ∀ x ∈ p0, x.block < W.heap.size := by obtain ⟨m, hm⟩ := k0; exact DataW.trod_lt m _ _ _ hm
  obtain ⟨z0, w0⟩ : ∃ zs, IsRow .u8 W a0 len0 cap0 zs := by
    obtain ⟨fuel, hf⟩ := h0
    rcases open_ints Try.underlying22 Try.underlying5 (by kernel_rfl) hf with ⟨hcs, _⟩ | ⟨x, l, c, zs, hcs, _, hl, hm, hz, _, hcell, hwz⟩
    · simp [Value.cells] at hcs
      obtain ⟨rfl, rfl, rfl⟩ := hcs
      exact ⟨[], .inl ⟨rfl, rfl, rfl, rfl⟩⟩
    · simp [Value.cells] at hcs
      obtain ⟨rfl, rfl, rfl⟩ := hcs
      exact ⟨zs, .inr ⟨_, rfl, hl, hm, by simpa using hz, hcell, hwz⟩⟩
  clear hA0 hval0
  refine (walk a0 len0 cap0 z0 W w0).mono fun e W' ⟨he, bel⟩ => ?_
  subst he
  exact ⟨_, rfl, _, _, _, [], _, [], hW', trodAll_mk1 (shut_bool Try.underlying4 _), (trodAll_cons_mk (Below.trod laidOut (by kernel_rfl) (of_decide_eq_true (by kernel_rfl)) k0 bel lt0) trodAll_mk0), rfl, bel.frame _, fun h => by cases h⟩

theorem over : Rows.fnBlocksRow.holds Try.pinned (OpenSpec.ofChange Rows.fnBlocksSpec) :=
  OpenClaim.holds_of_wide 3 Try.f3 rfl rfl rfl rfl rfl rfl rfl ⟨rfl, rfl, rfl, rfl, rfl⟩ rfl rfl rfl rfl rfl (by kernel_rfl) Try.func3 (by kernel_rfl)
    (of_decide_eq_true (by kernel_rfl)) (by unfold Func.isWrapper; first | (rw [if_pos (by decide +kernel)]; kernel_rfl) | (rw [if_neg (by decide +kernel)]; exact ⟨rfl, rfl⟩))
    (fun os started H enc _ => lifted os started H enc)

theorem proved : Rows.FnBlocksSaid := over
end Go.Proofs.Ytacgndmmdbkehaa.fnBlocks
namespace Go.Proofs.Ytacgndmmdbkehaa
theorem fnBlocks_holds : Rows.FnBlocksSaid := fnBlocks.proved
end Go.Proofs.Ytacgndmmdbkehaa
