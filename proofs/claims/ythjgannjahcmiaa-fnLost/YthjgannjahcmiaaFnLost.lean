/- At every list of bytes the law FnLost returns true: of the disk that is drawn of it what was kept is never lost, and what is lost is as it was kept; and the program answers as the model. -/
import Derived.Test.YthjgannjahcmiaaRows
import Derived.WalkKit
import Derived.ProofKit
import Derived.OpenShut
import Derived.ShutString
import Derived.ChangeOld
import Derived.Below
import Derived.Test.YthjgannjahcmiaaLikeDisk
import Derived.Test.YthjgannjahcmiaaDrawDisk
import Derived.Test.YthjgannjahcmiaaSDisk2
import Derived.Test.YthjgannjahcmiaaIDisk3
import Derived.Test.YthjgannjahcmiaaIn
import Derived.Test.YthjgannjahcmiaaLike
import Derived.Deep.RegionHeld3
namespace Go.Proofs.Ythjgannjahcmiaa.fnLost
open Go.ChangeShapes Go.WideShapes Go.ChangeAt Go.RowKit
open Go.ChangeMaps (open_string shut_string)
set_option linter.unusedVariables false

theorem own : ownKnob Try.prog.godebug = none := by kernel_rfl
theorem laidOut : laidOutB Try.prog = true := by kernel_rfl

def IsRow (k : IntKind) (w : World) (a : Option Addr) (len cap : Nat) (zs : List Int) : Prop :=
  (a = none ∧ len = 0 ∧ cap = 0 ∧ zs = []) ∨
  ∃ x, a = some x ∧ len ≤ cap ∧ cap ≤ maxLen ∧ zs.length = cap ∧ (∀ i, i < zs.length → w.cell? (x.add i) = some (.int k (zs.getD i 0))) ∧ ∀ n ∈ zs, (Lit.int k n).wf = true

set_option maxRecDepth 20000 in
set_option maxHeartbeats 2000000 in
theorem walk (a0 : Option Addr) (len0 cap0 : Nat) (z0 : List Int) (w : World) (w0 : IsRow .u8 w a0 len0 cap0 z0) :
    Calls Try.prog 4 #[.slice a0 len0 cap0] w fun e w' => e = .returned (.bool true) ∧ Below w.heap.size w w' := by
  by_cases hbig : (4096 : Int) < (len0 : Int)
  · go_enter Try.func4, Try.ntmps4
    go_wp2_with (go_at_call 11; refine (big_any _ _ _ _).mono ?_; rintro e w' ⟨rfl, hw'⟩; subst w')
    go_ret
    exact ⟨rfl, Below.refl _ _⟩
  · have HC : Hid (CodeOk w w.heap.size (.slice a0 len0 cap0)) := codeOk_row w0 (by omega)
    clear w0
    have HS : Hid (Sta w w []) := Sta.start w
    go_enter Try.func4, Try.ntmps4
    go_wp2_with fail
    refine (big_any _ _ _ _).mono ?_
    rintro e w' ⟨rfl, hw'⟩; subst w' 
    
    go_wp2_with fail
    refine (drawLost_any w.heap.size _ _ (HC.out.below HS.out.below) HS.out.below.size).mono ?_
    rintro e w1 ⟨uD, vD, s, rfl, xsD, ysD, hxD, hyD, o1, b1⟩
    replace HS : Hid (Sta w w1 [Dsk uD vD xsD ysD]) := HS.out.disk o1 b1
    clear o1 b1
    have gxD : xsD.length ≤ 1099511627776 := by omega
    have gyD : ysD.length ≤ 1099511627776 := by omega
    obtain ⟨ks, hk⟩ : ∃ ks, ks = loK xsD ysD s := ⟨_, rfl⟩
    obtain ⟨ns, hn⟩ : ∃ ns, ns = loN xsD ysD s := ⟨_, rfl⟩
    have gk : ks.length ≤ 1099511627776 := by rw [hk]; exact loK_len xsD ysD s gxD
    have gn : ns.length ≤ 1099511627776 := by rw [hn]; exact loN_len xsD ysD s gxD gyD
    have cs : ∀ u v w', Reads w' u xsD → Reads w' v ysD → _ := fun u v w' h h' => slost_any u v xsD ysD s w' h h' gxD gyD
    have ci : ∀ u v w', Reads w' u xsD → Reads w' v ysD → _ := fun u v w' h h' => lost_any u v xsD ysD s w' h h' gxD gyD
    have cok : ∀ u v w', Reads w' u xsD → Reads w' v ysD → _ := fun u v w' h h' => sdiskOk_any u v xsD ysD w' h h' gxD gyD
    simp only [← hk, ← hn] at cs ci
    have HK : Hid (ks = loK xsD ysD s ∧ ns = loN xsD ysD s) := ⟨hk, hn⟩
    clear hk hn
    go_wp2_with (first
      | (refine wpList_putB rfl 26 _ _ rfl w1.heap.size #[uD, vD] #[.slice none 0 0, .slice none 0 0] rfl rfl (HS.out.ones 0 rfl) (heap_alloc_new _ _) Try.infoB.1 rfl ?_; intro w2 q2 g2; replace HS : Hid (Sta w w2 [Blk w1.heap.size 26 #[uD, vD], Dsk uD vD xsD ysD]) := HS.out.var 26 _ _ q2 g2; clear q2 g2; have p_dv_0 := Blk.cell (HS.out.get 0 rfl) 0 rfl; have p_dv_1 := Blk.cell (HS.out.get 0 rfl) 1 rfl; skip))
    clear p_dv_0 p_dv_1
    refine (ci _ _ _ (HS.out.readsU 1 rfl) (HS.out.readsV 1 rfl)).mono ?_
    rintro e w3 ⟨uX, vX, rfl, o3, b3⟩
    replace HS : Hid (Sta w w3 [Dsk uX vX ks ns, Blk w1.heap.size 26 #[uD, vD], Dsk uD vD xsD ysD]) := HS.out.disk o3 b3
    clear o3 b3
    go_wp2_with (first
      | (refine wpList_putB rfl 26 _ _ rfl w3.heap.size #[uX, vX] #[.slice none 0 0, .slice none 0 0] rfl rfl (HS.out.ones 0 rfl) (heap_alloc_new _ _) Try.infoB.1 rfl ?_; intro w4 q4 g4; replace HS : Hid (Sta w w4 [Blk w3.heap.size 26 #[uX, vX], Dsk uX vX ks ns, Blk w1.heap.size 26 #[uD, vD], Dsk uD vD xsD ysD]) := HS.out.var 26 _ _ q4 g4; clear q4 g4; skip))
    replace HS := HS.out.drew1
    replace HS : Hid _ := HS
    have r0_0 := Blk.cell (HS.out.get 0 rfl) 0 (x := uX) rfl
    have r0_1 := Blk.cell (HS.out.get 0 rfl) 1 (x := vX) rfl
    have r0_2 := Blk.cell (HS.out.get 2 rfl) 0 (x := uD) rfl
    have r0_3 := Blk.cell (HS.out.get 2 rfl) 1 (x := vD) rfl
    go_region_held3 (fun w' => w'.cell? ⟨w3.heap.size, 0, none⟩ = some uX ∧ w'.cell? ⟨w3.heap.size, 1, none⟩ = some vX ∧ w'.cell? ⟨w1.heap.size, 0, none⟩ = some uD ∧ w'.cell? ⟨w1.heap.size, 1, none⟩ = some vD) (refine ⟨?_, ?_, ?_, ?_⟩ <;> assumption)
      (first
        | (go_at_call 30; refine (cs _ _ _ (HS.out.readsU 3 rfl) (HS.out.readsV 3 rfl)).mono ?_; rintro e w5 ⟨uU, vU, rfl, o5, b5⟩; replace HS : Hid (Sta w w5 [Dsk uU vU ks ns, Blk w3.heap.size 26 #[uX, vX], Dsk uX vX ks ns, Blk w1.heap.size 26 #[uD, vD], Dsk uD vD xsD ysD]) := HS.out.disk o5 b5; clear o5 b5; have r1_0 := Blk.cell (HS.out.get 1 rfl) 0 (x := uX) rfl; have r1_1 := Blk.cell (HS.out.get 1 rfl) 1 (x := vX) rfl; have r1_2 := Blk.cell (HS.out.get 3 rfl) 0 (x := uD) rfl; have r1_3 := Blk.cell (HS.out.get 3 rfl) 1 (x := vD) rfl)
        | (go_at_call 19; refine (likeDisk_any _ _ _ _ _ _ _ (HS.out.readsU 2 rfl) (HS.out.readsV 2 rfl) (HS.out.readsU 0 rfl) (HS.out.readsV 0 rfl) gk gn).mono ?_; rintro e w6 ⟨rfl, b6⟩; replace HS : Hid (Sta w w6 [Dsk uU vU ks ns, Blk w3.heap.size 26 #[uX, vX], Dsk uX vX ks ns, Blk w1.heap.size 26 #[uD, vD], Dsk uD vD xsD ysD]) := HS.out.next b6; clear b6; have r2_0 := Blk.cell (HS.out.get 1 rfl) 0 (x := uX) rfl; have r2_1 := Blk.cell (HS.out.get 1 rfl) 1 (x := vX) rfl; have r2_2 := Blk.cell (HS.out.get 3 rfl) 0 (x := uD) rfl; have r2_3 := Blk.cell (HS.out.get 3 rfl) 1 (x := vD) rfl))
    clear r0_0 r0_1 r0_2 r0_3 r1_0 r1_1 r1_2 r1_3 r2_0 r2_1 r2_2 r2_3
    replace HS : Hid (Sta w w6 [Blk w3.heap.size 26 #[uX, vX], Dsk uX vX ks ns, Blk w1.heap.size 26 #[uD, vD], Dsk uD vD xsD ysD]) := HS.out.tail
    clear cs
    by_cases hb : bothOk xsD ysD = true
    · skip
      simp only [hb] at cok
      have p_dv_0 := Blk.cell (HS.out.get 2 rfl) 0 rfl
      have p_dv_1 := Blk.cell (HS.out.get 2 rfl) 1 rfl
      
      go_wp2_with fail
      clear p_dv_0 p_dv_1
      refine (cok _ _ _ (HS.out.readsU 3 rfl) (HS.out.readsV 3 rfl)).mono ?_
      rintro e w7 ⟨rfl, b7⟩
      replace HS : Hid (Sta w w7 [Blk w3.heap.size 26 #[uX, vX], Dsk uX vX ks ns, Blk w1.heap.size 26 #[uD, vD], Dsk uD vD xsD ysD]) := HS.out.next b7
      clear b7
      clear cok
      by_cases hs : setOk s = true
      · skip
        obtain ⟨hs0, hs1⟩ := setOk_bd hs
        have hs2 : s ≤ 255 := by omega
        obtain ⟨k1, k2, k3⟩ := bothOk_yes' hb
        have hl8 := blocksOk_len k1
        have HN : Hid (ks = ns ∧ ns.length = xsD.length ∧ ysD.length = xsD.length ∧ xsD.length ≤ 8 ∧ ∀ j : Nat, j < xsD.length → ns.getD j 0 = if inB s j = true then ysD.getD j 0 else xsD.getD j 0) := by
          obtain ⟨h1, h2⟩ := HK.out
          have e1 : ks = chosenUp xsD ysD s 8 xsD.length := by rw [h1]; simp [loK, hb, hs]
          have e2 : ns = chosenUp xsD ysD s 8 xsD.length := by rw [h2]; simp [loN, hb, hs]
          refine ⟨e1.trans e2.symm, by rw [e2, chosenUp_len], k3.symm, hl8.2, fun j hj => ?_⟩
          rw [e2, chosenUp_getD xsD ysD s 8 _ j hj]
          have h8 : j < 8 := by omega
          simp [-List.getD_eq_getElem?_getD, h8]
        have cf : ∀ u v w', Reads w' u xsD → Reads w' v ysD → _ := fun u v w' h h' => flushed_any u v xsD ysD w' h h' gxD gyD
        have hfl : flN xsD ysD = ysD := by simp [flN, hb]
        simp only [hfl] at cf
        have cl : ∀ u v w', Reads w' u ysD → Reads w' v ysD → _ := fun u v w' h h' => lost_any u v ysD ysD s w' h h' gyD gyD
        have hlo := lost_same s (bothOk_same hb)
        simp only [hlo.1, hlo.2] at cl
        have clk : ∀ u v w', Reads w' u ks → Reads w' v ks → _ := fun u v w' h h' => like_any u v ks ks w' h h' gk
        simp only at clk
        clear hfl hlo k1 k2 k3 hl8 hs hb hs1 ci HK
        have hkn := HN.out.1
        subst hkn
        
        go_wp2_with fail
        have rX := HS.out.readsV 1 rfl
        have rU := HS.out.readsU 3 rfl
        have rV := HS.out.readsV 3 rfl
        obtain ⟨xo, xcap, heX⟩ := rX.form
        obtain ⟨uo, ucap, heU⟩ := rU.form
        obtain ⟨vo, vcap, heV⟩ := rV.form
        obtain ⟨n, hn⟩ : ∃ n, n = xsD.length := ⟨_, rfl⟩
        have l1 : ks.length = n := by rw [hn]; exact HN.out.2.1
        have l2 : ysD.length = n := by rw [hn]; exact HN.out.2.2.1
        rw [l1] at heX
        rw [← hn] at heU
        rw [l2] at heV
        subst heX heU heV
        obtain ⟨-, lc, mc, kc⟩ := rX.cellOf
        obtain ⟨-, lp, mp, kp⟩ := rU.cellOf
        obtain ⟨-, lq, mq, kq⟩ := rV.cellOf
        have HZ : Hid (∀ j : Nat, j < n → ∃ b1 o1 b2 o2 b3 o3, xo = some ⟨b1, o1, none⟩ ∧ uo = some ⟨b2, o2, none⟩ ∧ vo = some ⟨b3, o3, none⟩ ∧
            w7.cell? ⟨b1, o1 + j, none⟩ = some (.int .i64 (if inB s j = true then ysD.getD j 0 else xsD.getD j 0)) ∧ w7.cell? ⟨b2, o2 + j, none⟩ = some (.int .i64 (xsD.getD j 0)) ∧ w7.cell? ⟨b3, o3 + j, none⟩ = some (.int .i64 (ysD.getD j 0))) := by
          intro j hj
          obtain ⟨b1, o1, e1, _, c1⟩ := kc j (by omega)
          obtain ⟨b2, o2, e2, _, c2⟩ := kp j (by omega)
          obtain ⟨b3, o3, e3, _, c3⟩ := kq j (by omega)
          rw [HN.out.2.2.2.2 j (by omega)] at c1
          exact ⟨b1, o1, b2, o2, b3, o3, e1, e2, e3, c1, c2, c3⟩
        have h8 : n ≤ 8 := by rw [hn]; exact HN.out.2.2.2.1
        unfold maxLen at mc mp mq
        clear rX rU rV kc kp kq HN l1 l2 hn
        go_loopw [6] (fun i wr => ∃ j : Nat, j ≤ n ∧ i = .int .i64 j ∧ Hid (∃ q, wr = w7.drewN q)) (fun i _ => n - (intOf i).toNat)
        case atStart => exact ⟨0, Nat.zero_le _, rfl, 0, rfl⟩
        case round =>
          obtain ⟨j, hj, rfl, HQ⟩ := hrel
          obtain ⟨q, hq⟩ := HQ.out
          have HS2 := HS.out.drew hq
          replace HS : Hid _ := HS2
          clear HS2 hq
          have p0 := Blk.cell (HS.out.get 0 rfl) 1 (x := .slice xo n xcap) rfl
          have p1 := Blk.cell (HS.out.get 2 rfl) 0 (x := .slice uo n ucap) rfl
          have p2 := Blk.cell (HS.out.get 2 rfl) 1 (x := .slice vo n vcap) rfl
          by_cases hlt : (j : Int) < (n : Int)
          · obtain ⟨b1, o1, b2, o2, b3, o3, rfl, rfl, rfl, c1, c2, c3⟩ := HZ.out j (by omega)
            have hcw : ∀ a, wr.cell? a = w7.cell? a := by obtain ⟨q, hq⟩ := HQ.out; rw [hq]; intro a; rfl
            rw [← hcw] at c1 c2 c3
            obtain ⟨y, hy⟩ : ∃ y, y = xsD.getD j 0 := ⟨_, rfl⟩
            obtain ⟨z, hz⟩ : ∃ z, z = ysD.getD j 0 := ⟨_, rfl⟩
            rw [← hy, ← hz] at c1
            rw [← hy] at c2
            rw [← hz] at c3
            clear hcw hy hz HZ HS cf cl clk
            have cin := sin_any s j
            by_cases hin : inB s j = true
            · rw [if_pos hin] at c1
              simp only [hin] at cin
              have hzz : (z != z) = false := by simp
              go_wp2
              go_quiet ((go_at_call 27; exact Calls.quiet_of_same (cin _)))
              go_wp2
              go_roundw
              case rel => exact ⟨j + 1, by omega, by go_num, by obtain ⟨q, hq⟩ := HQ.out; exact ⟨_, by rw [hq]; exact World.drewN_drewN ..⟩⟩
              case measure => simp [intOf]; omega
            · rw [if_neg hin] at c1
              replace hin : inB s j = false := by simpa using hin
              simp only [hin] at cin
              have hyy : (y != y) = false := by simp
              by_cases hyz : (y != z) = true
              · go_wp2
                go_quiet ((go_at_call 27; exact Calls.quiet_of_same (cin _)))
                go_wp2
                go_roundw
                case rel => exact ⟨j + 1, by omega, by go_num, by obtain ⟨q, hq⟩ := HQ.out; exact ⟨_, by rw [hq]; exact World.drewN_drewN ..⟩⟩
                case measure => simp [intOf]; omega
              · replace hyz : (y != z) = false := by simpa using hyz
                go_wp2
                go_quiet ((go_at_call 27; exact Calls.quiet_of_same (cin _)))
                go_wp2
                go_roundw
                case rel => exact ⟨j + 1, by omega, by go_num, by obtain ⟨q, hq⟩ := HQ.out; exact ⟨_, by rw [hq]; exact World.drewN_drewN ..⟩⟩
                case measure => simp [intOf]; omega
          · skip
            clear HZ HQ p0 p1 p2
            have p_dv_0 := Blk.cell (HS.out.get 2 rfl) 0 rfl
            have p_dv_1 := Blk.cell (HS.out.get 2 rfl) 1 rfl
            
            go_wp2_with fail
            clear p_dv_0 p_dv_1
            refine (cf _ _ _ (HS.out.readsU 3 rfl) (HS.out.readsV 3 rfl)).mono ?_
            rintro e w8 ⟨uF, vF, rfl, o8, b8⟩
            replace HS : Hid (Sta w w8 [Dsk uF vF ysD ysD, Blk w3.heap.size 26 #[uX, (.slice xo n xcap)], Dsk uX (.slice xo n xcap) ks ks, Blk w1.heap.size 26 #[(.slice uo n ucap), (.slice vo n vcap)], Dsk (.slice uo n ucap) (.slice vo n vcap) xsD ysD]) := HS.out.disk o8 b8
            clear o8 b8
            go_wp2_with (first
              | (refine wpList_putB rfl 26 _ _ rfl w8.heap.size #[uF, vF] #[.slice none 0 0, .slice none 0 0] rfl rfl (HS.out.ones 0 rfl) (heap_alloc_new _ _) Try.infoB.1 rfl ?_; intro w9 q9 g9; replace HS : Hid (Sta w w9 [Blk w8.heap.size 26 #[uF, vF], Dsk uF vF ysD ysD, Blk w3.heap.size 26 #[uX, (.slice xo n xcap)], Dsk uX (.slice xo n xcap) ks ks, Blk w1.heap.size 26 #[(.slice uo n ucap), (.slice vo n vcap)], Dsk (.slice uo n ucap) (.slice vo n vcap) xsD ysD]) := HS.out.var 26 _ _ q9 g9; clear q9 g9; skip))
            replace HS := HS.out.drew1
            replace HS : Hid _ := HS
            have r0_0 := Blk.cell (HS.out.get 2 rfl) 0 (x := uX) rfl
            have r0_1 := Blk.cell (HS.out.get 2 rfl) 1 (x := (.slice xo n xcap)) rfl
            have r0_2 := Blk.cell (HS.out.get 0 rfl) 0 (x := uF) rfl
            have r0_3 := Blk.cell (HS.out.get 0 rfl) 1 (x := vF) rfl
            go_region_held3 (fun w' => w'.cell? ⟨w3.heap.size, 0, none⟩ = some uX ∧ w'.cell? ⟨w3.heap.size, 1, none⟩ = some (.slice xo n xcap) ∧ w'.cell? ⟨w8.heap.size, 0, none⟩ = some uF ∧ w'.cell? ⟨w8.heap.size, 1, none⟩ = some vF) (refine ⟨?_, ?_, ?_, ?_⟩ <;> assumption)
              (first
                | (go_at_call 26; refine (clk _ _ _ (HS.out.readsU 3 rfl) (HS.out.readsV 3 rfl)).mono ?_; rintro e w10 ⟨rfl, n10, hw10⟩; replace HS : Hid (Sta w w10 [Blk w8.heap.size 26 #[uF, vF], Dsk uF vF ysD ysD, Blk w3.heap.size 26 #[uX, (.slice xo n xcap)], Dsk uX (.slice xo n xcap) ks ks, Blk w1.heap.size 26 #[(.slice uo n ucap), (.slice vo n vcap)], Dsk (.slice uo n ucap) (.slice vo n vcap) xsD ysD]) := HS.out.drew hw10; clear hw10; have r1_0 := Blk.cell (HS.out.get 2 rfl) 0 (x := uX) rfl; have r1_1 := Blk.cell (HS.out.get 2 rfl) 1 (x := (.slice xo n xcap)) rfl; have r1_2 := Blk.cell (HS.out.get 0 rfl) 0 (x := uF) rfl; have r1_3 := Blk.cell (HS.out.get 0 rfl) 1 (x := vF) rfl)
                | (go_at_call 29; refine (cl _ _ _ (HS.out.readsU 1 rfl) (HS.out.readsV 1 rfl)).mono ?_; rintro e w11 ⟨uL, vL, rfl, o11, b11⟩; replace HS : Hid (Sta w w11 [Dsk uL vL ysD ysD, Blk w8.heap.size 26 #[uF, vF], Dsk uF vF ysD ysD, Blk w3.heap.size 26 #[uX, (.slice xo n xcap)], Dsk uX (.slice xo n xcap) ks ks, Blk w1.heap.size 26 #[(.slice uo n ucap), (.slice vo n vcap)], Dsk (.slice uo n ucap) (.slice vo n vcap) xsD ysD]) := HS.out.disk o11 b11; clear o11 b11; have r2_0 := Blk.cell (HS.out.get 3 rfl) 0 (x := uX) rfl; have r2_1 := Blk.cell (HS.out.get 3 rfl) 1 (x := (.slice xo n xcap)) rfl; have r2_2 := Blk.cell (HS.out.get 1 rfl) 0 (x := uF) rfl; have r2_3 := Blk.cell (HS.out.get 1 rfl) 1 (x := vF) rfl)
                | (go_at_call 19; refine (likeDisk_any _ _ _ _ _ _ _ (HS.out.readsU 0 rfl) (HS.out.readsV 0 rfl) (HS.out.readsU 2 rfl) (HS.out.readsV 2 rfl) gyD gyD).mono ?_; rintro e w12 ⟨rfl, b12⟩; replace HS : Hid (Sta w w12 [Dsk uL vL ysD ysD, Blk w8.heap.size 26 #[uF, vF], Dsk uF vF ysD ysD, Blk w3.heap.size 26 #[uX, (.slice xo n xcap)], Dsk uX (.slice xo n xcap) ks ks, Blk w1.heap.size 26 #[(.slice uo n ucap), (.slice vo n vcap)], Dsk (.slice uo n ucap) (.slice vo n vcap) xsD ysD]) := HS.out.next b12; clear b12; have r3_0 := Blk.cell (HS.out.get 3 rfl) 0 (x := uX) rfl; have r3_1 := Blk.cell (HS.out.get 3 rfl) 1 (x := (.slice xo n xcap)) rfl; have r3_2 := Blk.cell (HS.out.get 1 rfl) 0 (x := uF) rfl; have r3_3 := Blk.cell (HS.out.get 1 rfl) 1 (x := vF) rfl))
            clear r0_0 r0_1 r0_2 r0_3 r1_0 r1_1 r1_2 r1_3 r2_0 r2_1 r2_2 r2_3 r3_0 r3_1 r3_2 r3_3
            have HB : Hid (Below w.heap.size w _) := HS.out.below
            clear HS
            go_wp2_with fail
            go_ret
            exact ⟨rfl, HB.out⟩
      · have hs' : setOk s = false := by simpa using hs
        have hk0 : ks = xsD := by rw [HK.out.1]; simp [loK, hb, hs']
        have hn0 : ns = ysD := by rw [HK.out.2]; simp [loN, hb, hs']
        clear ci HK hb
        subst hk0 hn0
        have hss : s < 0 ∨ (¬ s < 0 ∧ 255 < s) := by simp [setOk] at hs'; omega
        clear hs hs'
        rcases hss with hs1 | ⟨hs1, hs2⟩
        all_goals
          have p_xv_0 := Blk.cell (HS.out.get 0 rfl) 0 rfl
          have p_xv_1 := Blk.cell (HS.out.get 0 rfl) 1 rfl
          have p_dv_0 := Blk.cell (HS.out.get 2 rfl) 0 rfl
          have p_dv_1 := Blk.cell (HS.out.get 2 rfl) 1 rfl
          
          go_wp2_with fail
          clear p_xv_0 p_xv_1 p_dv_0 p_dv_1
          refine (likeDisk_any _ _ _ _ _ _ _ (HS.out.readsU 1 rfl) (HS.out.readsV 1 rfl) (HS.out.readsU 3 rfl) (HS.out.readsV 3 rfl) gk gn).mono ?_
          rintro e w8 ⟨rfl, b8⟩
          replace HS : Hid (Sta w w8 [Blk w3.heap.size 26 #[uX, vX], Dsk uX vX ks ns, Blk w1.heap.size 26 #[uD, vD], Dsk uD vD ks ns]) := HS.out.next b8
          clear b8
          have HB : Hid (Below w.heap.size w _) := HS.out.below
          clear HS
          go_wp2_with fail
          go_ret
          exact ⟨rfl, HB.out⟩
    · have hb' : bothOk xsD ysD = false := by simpa using hb
      have hk0 : ks = [] := by rw [HK.out.1]; simp [loK, hb']
      have hn0 : ns = [] := by rw [HK.out.2]; simp [loN, hb']
      simp only [hb'] at cok
      clear ci HK hb hb'
      subst hk0 hn0
      have p_dv_0 := Blk.cell (HS.out.get 2 rfl) 0 rfl
      have p_dv_1 := Blk.cell (HS.out.get 2 rfl) 1 rfl
      
      go_wp2_with fail
      clear p_dv_0 p_dv_1
      refine (cok _ _ _ (HS.out.readsU 3 rfl) (HS.out.readsV 3 rfl)).mono ?_
      rintro e w7 ⟨rfl, b7⟩
      replace HS : Hid (Sta w w7 [Blk w3.heap.size 26 #[uX, vX], Dsk uX vX [] [], Blk w1.heap.size 26 #[uD, vD], Dsk uD vD xsD ysD]) := HS.out.next b7
      clear b7
      clear cok
      have p_xv_0 := Blk.cell (HS.out.get 0 rfl) 0 rfl
      have p_xv_1 := Blk.cell (HS.out.get 0 rfl) 1 rfl
      
      go_wp2_with fail
      clear p_xv_0 p_xv_1
      refine (likeDisk_any _ _ _ _ [] [] _ (HS.out.readsU 1 rfl) (HS.out.readsV 1 rfl) (Own.nil _ 0).reads (Own.nil _ 0).reads (by simp) (by simp)).mono ?_
      rintro e w8 ⟨rfl, b8⟩
      replace HS : Hid (Sta w w8 [Blk w3.heap.size 26 #[uX, vX], Dsk uX vX [] [], Blk w1.heap.size 26 #[uD, vD], Dsk uD vD xsD ysD]) := HS.out.next b8
      clear b8
      have HB : Hid (Below w.heap.size w _) := HS.out.below
      clear HS
      go_wp2_with fail
      go_ret
      exact ⟨rfl, HB.out⟩

set_option maxRecDepth 100000 in
theorem lifted (os : Os) (started : os.Started) (H : Type) (enc : TypeId × Value → H) :
    ReturnsInHanded {} Try.checked os 4 .any (Rows.fnLostSpec.pre6 enc Try.prog Try.f4 Rows.fnLostRow.domain false) (Rows.fnLostSpec.post enc Try.prog Try.f4 false true false false) := by
  refine returnsInHanded_of_change (C := Try.checked) own started (by kernel_rfl) Try.func4
    (ChangeSpec.witness6 (enc := enc) (C := Try.checked) false ⟨#[], #[.slice none 0 0], []⟩ 8 (by kernel_rfl) (by kernel_rfl) (by kernel_rfl) (by kernel_rfl)) ?_
  intro W base args ds gs before hval0 hW hcnd _
  have hval : ∀ (j : Nat) t v, Try.f4.params[j]? = some t → args[j]? = some v → Value.okWide Try.prog W .any base t v := hval0
  have hW' := hW
  obtain ⟨p, q, hA0, hV, rfl, hfz, hnd⟩ := hW
  have hA : DataW.TrodAll enc Try.prog W 0 (fun _ => true) true Try.f4.params.toList args.toList ds p := hA0
  rw [Try.params4] at hA hval
  obtain ⟨v0, vs0, d0, ds0, p0, q0, hargs, rfl, rfl, h0, r0⟩ := trodAll_cons hA
  obtain ⟨rfl, rfl, rfl⟩ := trodAll_nil r0
  obtain rfl : args = #[v0] := by cases args; simp_all
  obtain ⟨rfl, rfl⟩ := trodVars_none hV
  obtain ⟨a0, len0, cap0, rfl⟩ := okWide_slice Try.underlying22 (hval 0 22 v0 rfl rfl)
  have k0 := h0
  have lt0 : ∀ x ∈ p0, x.block < W.heap.size := by obtain ⟨m, hm⟩ := k0; exact DataW.trod_lt m _ _ _ hm
  obtain ⟨z0, w0⟩ : ∃ zs, IsRow .u8 W a0 len0 cap0 zs := by
    obtain ⟨fuel, hf⟩ := h0
    rcases open_ints Try.underlying22 Try.underlying5 (by kernel_rfl) hf with ⟨hcs, _⟩ | ⟨x, l, c, zs, hcs, _, hl, hm, hz, _, hcell, hwz⟩
    · simp [Value.cells] at hcs
      obtain ⟨rfl, rfl, rfl⟩ := hcs
      exact ⟨[], .inl ⟨rfl, rfl, rfl, rfl⟩⟩
    · simp [Value.cells] at hcs
      obtain ⟨rfl, rfl, rfl⟩ := hcs
      exact ⟨zs, .inr ⟨_, rfl, hl, hm, by simpa using hz, hcell, hwz⟩⟩
  clear hA0 hval0
  refine (walk a0 len0 cap0 z0 W w0).mono fun e W' ⟨he, bel⟩ => ?_
  subst he
  exact ⟨_, rfl, _, _, _, [], _, [], hW', trodAll_mk1 (shut_bool Try.underlying4 _), (trodAll_cons_mk (Below.trod laidOut (by kernel_rfl) (of_decide_eq_true (by kernel_rfl)) k0 bel lt0) trodAll_mk0), rfl, bel.frame _, fun h => by cases h⟩

theorem over : Rows.fnLostRow.holds Try.pinned (OpenSpec.ofChange Rows.fnLostSpec) :=
  OpenClaim.holds_of_wide 4 Try.f4 rfl rfl rfl rfl rfl rfl rfl ⟨rfl, rfl, rfl, rfl, rfl⟩ rfl rfl rfl rfl rfl (by kernel_rfl) Try.func4 (by kernel_rfl)
    (of_decide_eq_true (by kernel_rfl)) (by unfold Func.isWrapper; first | (rw [if_pos (by decide +kernel)]; kernel_rfl) | (rw [if_neg (by decide +kernel)]; exact ⟨rfl, rfl⟩))
    (fun os started H enc _ => lifted os started H enc)

theorem proved : Rows.FnLostSaid := over
end Go.Proofs.Ythjgannjahcmiaa.fnLost
namespace Go.Proofs.Ythjgannjahcmiaa
theorem fnLost_holds : Rows.FnLostSaid := fnLost.proved
end Go.Proofs.Ythjgannjahcmiaa
