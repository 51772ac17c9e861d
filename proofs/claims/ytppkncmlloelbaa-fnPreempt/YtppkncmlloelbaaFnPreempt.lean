/- At every list of bytes the law FnPreempt returns true: who preempts a key unregisters just those others that have it, and takes what was held with it; and the program answers as the model. -/
import Derived.Test.YtppkncmlloelbaaRows
import Derived.WalkKit
import Derived.ProofKit
import Derived.OpenShut
import Derived.ShutString
import Derived.ChangeOld
import Derived.Below
import Derived.Test.YtppkncmlloelbaaDrawSets
import Derived.Test.YtppkncmlloelbaaDrawAct
import Derived.Test.YtppkncmlloelbaaActSta
import Derived.Test.YtppkncmlloelbaaActLaws2
import Derived.Test.YtppkncmlloelbaaLikeHold
import Derived.Test.YtppkncmlloelbaaIAct
import Derived.Test.YtppkncmlloelbaaIHold2
import Derived.Test.YtppkncmlloelbaaSHold2
namespace Go.Proofs.Ytppkncmlloelbaa.fnPreempt
open Go.ChangeShapes Go.WideShapes Go.ChangeAt Go.RowKit
open Go.ChangeMaps (open_string shut_string)
set_option linter.unusedVariables false

theorem own : ownKnob Try.prog.godebug = none := by kernel_rfl
theorem laidOut : laidOutB Try.prog = true := by kernel_rfl

def IsRow (k : IntKind) (w : World) (a : Option Addr) (len cap : Nat) (zs : List Int) : Prop :=
  (a = none ∧ len = 0 ∧ cap = 0 ∧ zs = []) ∨
  ∃ x, a = some x ∧ len ≤ cap ∧ cap ≤ maxLen ∧ zs.length = cap ∧ (∀ i, i < zs.length → w.cell? (x.add i) = some (.int k (zs.getD i 0))) ∧ ∀ n ∈ zs, (Lit.int k n).wf = true

set_option maxRecDepth 20000 in
set_option maxHeartbeats 8000000 in
theorem walk (a0 : Option Addr) (len0 cap0 : Nat) (z0 : List Int) (w : World) (w0 : IsRow .u8 w a0 len0 cap0 z0) :
    Calls Try.prog 6 #[.slice a0 len0 cap0] w fun e w' => e = .returned (.bool true) ∧ Below w.heap.size w w' := by
  by_cases hbig : (4096 : Int) < (len0 : Int)
  · go_enter Try.func6, Try.ntmps6
    go_wp2_with (go_at_call 12; refine (big_any _ _ _ _).mono ?_; rintro e w' ⟨rfl, hw'⟩; subst w')
    go_ret
    exact ⟨rfl, Below.refl _ _⟩
  · have HC : Hid (CodeOk w w.heap.size (.slice a0 len0 cap0)) := codeOk_row w0 (by omega)
    clear w0
    have HS : Hid (FL w w []) := FL.start w
    go_enter Try.func6, Try.ntmps6
    go_wp2_with fail
    refine (big_any _ _ _ _).mono ?_
    rintro e w' ⟨rfl, hw'⟩; subst w'
    go_wp2_with fail
    refine (drawPre_any w.heap.size _ _ (HC.out.below HS.out.1) HS.out.1.size ).mono ?_
    rintro e a1 ⟨h, u_h, x, key, kind, rfl, D1, B1⟩
    have l_h : h.ks.length ≤ 1099511627776 := by have := D1.2.2; omega
    have RR : Hid (Reads a1 u_h h.ks) := D1.1
    replace HS : Hid (FL w a1 []) := HS.out.next B1
    clear D1 B1
    have zz : Hid (StB (a1.alloc (.cells zHd 26)) a1.heap.size 26 zHd) := StB.new _ _ _
    go_upto_region 4 with (first | (refine wpList_putS Try.isH rfl _ _ rfl a1.heap.size (hdA u_h h) zHd rfl rfl rfl rfl (hdA_one _ (reads_one RR.out)) zz.out ?_; intro a2 hh gg))
    replace HS : Hid (FL w a2 [(a1.heap.size, u_h, h)]) := HS.out.new RR.out hh gg
    clear hh gg zz RR
    obtain ⟨z, k, h_z⟩ : ∃ z k, h.preempt x key kind = (z, k) := ⟨_, _, rfl⟩
    have l_z : z.ks.length ≤ 1099511627776 := by have := preempt_len h x key kind; rw [h_z] at this; dsimp only at this; omega
    have ci := fun u w' (hr : Reads w' u h.ks) => ipreempt_any u h x key kind w' hr l_h
    simp only [h_z] at ci
    unfold Ans at ci
    dsimp only at ci
    have cs := fun u w' (hr : Reads w' u h.ks) => spreempt_any u h x key kind w' hr l_h
    simp only [h_z] at cs
    unfold Ans at cs
    dsimp only at cs
    have e_k : (k != k) = false := by simp
    have H_z : Hid (h.preempt x key kind = (z, k)) := h_z
    have lk_z := fun u v w' (hu : Reads w' u z.ks) (hv : Reads w' v z.ks) => likeH_any u v z z w' hu hv l_z
    simp only [likeH_same] at lk_z
    clear h_z
    have p_h_0 : a2.cell? ⟨a1.heap.size, 0, none⟩ = some (u_h) := HS.out.cell 0 rfl 0 rfl
    have p_h_1 : a2.cell? ⟨a1.heap.size, 1, none⟩ = some (.int .i64 h.kd) := HS.out.cell 0 rfl 1 rfl
    have p_h_2 : a2.cell? ⟨a1.heap.size, 2, none⟩ = some (.int .i64 h.ho) := HS.out.cell 0 rfl 2 rfl
    have p_h_3 : a2.cell? ⟨a1.heap.size, 3, none⟩ = some (.int .i64 h.tu) := HS.out.cell 0 rfl 3 rfl
    go_wp2_with fail
    refine (ci _ _ (HS.out.rd 0 rfl)).mono ?_
    rintro e a3 ⟨u_x, rfl, O1, B1⟩
    have RR : Hid (Reads a3 u_x z.ks) := O1.reads
    replace HS : Hid (FL w a3 [(a1.heap.size, u_h, h)]) := HS.out.next B1
    clear O1 B1 p_h_0 p_h_1 p_h_2 p_h_3
    have zz : Hid (StB (a3.alloc (.cells zHd 26)) a3.heap.size 26 zHd) := StB.new _ _ _
    go_upto_region 5 with (first | (refine wpList_putS Try.isH rfl _ _ rfl a3.heap.size (hdA u_x z) zHd rfl rfl rfl rfl (hdA_one _ (reads_one RR.out)) zz.out ?_; intro a4 hh gg))
    replace HS : Hid (FL w a4 [(a3.heap.size, u_x, z), (a1.heap.size, u_h, h)]) := HS.out.new RR.out hh gg
    clear hh gg zz RR
    have p_h_0 : a4.cell? ⟨a1.heap.size, 0, none⟩ = some (u_h) := HS.out.cell 1 rfl 0 rfl
    have p_h_1 : a4.cell? ⟨a1.heap.size, 1, none⟩ = some (.int .i64 h.kd) := HS.out.cell 1 rfl 1 rfl
    have p_h_2 : a4.cell? ⟨a1.heap.size, 2, none⟩ = some (.int .i64 h.ho) := HS.out.cell 1 rfl 2 rfl
    have p_h_3 : a4.cell? ⟨a1.heap.size, 3, none⟩ = some (.int .i64 h.tu) := HS.out.cell 1 rfl 3 rfl
    go_wp2_with fail
    refine (cs _ _ (HS.out.rd 1 rfl)).mono ?_
    rintro e a5 ⟨u_z1, rfl, O1, B1⟩
    have RR : Hid (Reads a5 u_z1 z.ks) := O1.reads
    replace HS : Hid (FL w a5 [(a3.heap.size, u_x, z), (a1.heap.size, u_h, h)]) := HS.out.next B1
    clear O1 B1 p_h_0 p_h_1 p_h_2 p_h_3
    have zz : Hid (StB (a5.alloc (.cells zHd 26)) a5.heap.size 26 zHd) := StB.new _ _ _
    go_upto_region 6 with (first | (refine wpList_putS Try.isH rfl _ _ rfl a5.heap.size (hdA u_z1 z) zHd rfl rfl rfl rfl (hdA_one _ (reads_one RR.out)) zz.out ?_; intro a6 hh gg))
    replace HS : Hid (FL w a6 [(a5.heap.size, u_z1, z), (a3.heap.size, u_x, z), (a1.heap.size, u_h, h)]) := HS.out.new RR.out hh gg
    clear hh gg zz RR
    clear ci cs HC
    have p_x_0 : a6.cell? ⟨a3.heap.size, 0, none⟩ = some (u_x) := HS.out.cell 1 rfl 0 rfl
    have p_x_1 : a6.cell? ⟨a3.heap.size, 1, none⟩ = some (.int .i64 z.kd) := HS.out.cell 1 rfl 1 rfl
    have p_x_2 : a6.cell? ⟨a3.heap.size, 2, none⟩ = some (.int .i64 z.ho) := HS.out.cell 1 rfl 2 rfl
    have p_x_3 : a6.cell? ⟨a3.heap.size, 3, none⟩ = some (.int .i64 z.tu) := HS.out.cell 1 rfl 3 rfl
    have p_z1_0 : a6.cell? ⟨a5.heap.size, 0, none⟩ = some (u_z1) := HS.out.cell 0 rfl 0 rfl
    have p_z1_1 : a6.cell? ⟨a5.heap.size, 1, none⟩ = some (.int .i64 z.kd) := HS.out.cell 0 rfl 1 rfl
    have p_z1_2 : a6.cell? ⟨a5.heap.size, 2, none⟩ = some (.int .i64 z.ho) := HS.out.cell 0 rfl 2 rfl
    have p_z1_3 : a6.cell? ⟨a5.heap.size, 3, none⟩ = some (.int .i64 z.tu) := HS.out.cell 0 rfl 3 rfl
    go_wp2_with fail
    refine (lk_z _ _ _ (HS.out.rd 1 rfl) (HS.out.rd 0 rfl)).mono ?_
    rintro e a7 ⟨rfl, bb6⟩
    replace HS : Hid (FL w a7 [(a5.heap.size, u_z1, z), (a3.heap.size, u_x, z), (a1.heap.size, u_h, h)]) := HS.out.next bb6
    clear bb6 p_x_0 p_x_1 p_x_2 p_x_3 p_z1_0 p_z1_1 p_z1_2 p_z1_3
    go_upto_region 8 with fail
    replace HS : Hid (FL w a7 [(a3.heap.size, u_x, z), (a1.heap.size, u_h, h)]) := HS.out.sub (.cons _ (.cons_cons _ (.cons_cons _ (.slnil))))
    have RC := preempt_cases h x key kind
    rw [H_z.out] at RC
    simp only [Prod.mk.injEq] at RC
    clear H_z
    rcases RC with ⟨hz, hk⟩ | ⟨hz, hk⟩ | ⟨z', ⟨hz, hk⟩, z4, h4, zks, hal, hz0, hz1, zok, zreg⟩
    · subst hk
      subst hz
      clear lk_z l_z
      have cl := fun u w' (hu : Reads w' u Hd.zero.ks) => likeH_any u (.slice none 0 0) Hd.zero Hd.zero w' hu (Own.nil w' 0).reads (by decide)
      simp only [likeH_same] at cl
      unfold HV hdA at cl
      have p_x_0 : a7.cell? ⟨a3.heap.size, 0, none⟩ = some (u_x) := HS.out.cell 0 rfl 0 rfl
      have p_x_1 : a7.cell? ⟨a3.heap.size, 1, none⟩ = some (.int .i64 Hd.zero.kd) := HS.out.cell 0 rfl 1 rfl
      have p_x_2 : a7.cell? ⟨a3.heap.size, 2, none⟩ = some (.int .i64 Hd.zero.ho) := HS.out.cell 0 rfl 2 rfl
      have p_x_3 : a7.cell? ⟨a3.heap.size, 3, none⟩ = some (.int .i64 Hd.zero.tu) := HS.out.cell 0 rfl 3 rfl
      go_wp2_with fail
      refine (cl _ _ (HS.out.rd 0 rfl)).mono ?_
      rintro e a8 ⟨rfl, bb7⟩
      replace HS : Hid (FL w a8 [(a3.heap.size, u_x, Hd.zero), (a1.heap.size, u_h, h)]) := HS.out.next bb7
      clear bb7 p_x_0 p_x_1 p_x_2 p_x_3
      have HB : Hid (Below w.heap.size w _) := HS.out.1
      clear HS
      go_wp2
      go_ret
      exact ⟨rfl, HB.out⟩
    · subst hk
      subst hz
      have p_x_0 : a7.cell? ⟨a3.heap.size, 0, none⟩ = some (u_x) := HS.out.cell 0 rfl 0 rfl
      have p_x_1 : a7.cell? ⟨a3.heap.size, 1, none⟩ = some (.int .i64 z.kd) := HS.out.cell 0 rfl 1 rfl
      have p_x_2 : a7.cell? ⟨a3.heap.size, 2, none⟩ = some (.int .i64 z.ho) := HS.out.cell 0 rfl 2 rfl
      have p_x_3 : a7.cell? ⟨a3.heap.size, 3, none⟩ = some (.int .i64 z.tu) := HS.out.cell 0 rfl 3 rfl
      have p_h_0 : a7.cell? ⟨a1.heap.size, 0, none⟩ = some (u_h) := HS.out.cell 1 rfl 0 rfl
      have p_h_1 : a7.cell? ⟨a1.heap.size, 1, none⟩ = some (.int .i64 z.kd) := HS.out.cell 1 rfl 1 rfl
      have p_h_2 : a7.cell? ⟨a1.heap.size, 2, none⟩ = some (.int .i64 z.ho) := HS.out.cell 1 rfl 2 rfl
      have p_h_3 : a7.cell? ⟨a1.heap.size, 3, none⟩ = some (.int .i64 z.tu) := HS.out.cell 1 rfl 3 rfl
      go_wp2_with fail
      refine (lk_z _ _ _ (HS.out.rd 0 rfl) (HS.out.rd 1 rfl)).mono ?_
      rintro e a9 ⟨rfl, bb8⟩
      replace HS : Hid (FL w a9 [(a3.heap.size, u_x, z), (a1.heap.size, u_h, z)]) := HS.out.next bb8
      clear bb8 p_x_0 p_x_1 p_x_2 p_x_3 p_h_0 p_h_1 p_h_2 p_h_3
      have HB : Hid (Below w.heap.size w _) := HS.out.1
      clear HS
      go_wp2
      go_ret
      exact ⟨rfl, HB.out⟩
    · subst hk
      subst z'
      have ZK : Hid (∀ m : Nat, m < 4 → z.ks.getD m 0 = if (m : Int) ≠ x ∧ h.ks.getD m 0 = key then 0 else h.ks.getD m 0) := zks
      have HA : Hid (h.kd ≠ 0 → 0 ≤ h.ho → h.ho ≤ 3 ∧ (h.ks.getD h.ho.toNat 0 = key → z.Hol x = true ∧ z.kd = kind)) := hal
      have HZ : Hid ((h.kd = 0 → z.kd = 0) ∧ (h.kd ≠ 0 → z.kd ≠ 0)) := ⟨hz0, hz1⟩
      have HO : Hid (z.ok = true ∧ z.Reg x = true) := ⟨zok, zreg⟩
      clear zks hal hz0 hz1 zok zreg lk_z
      obtain ⟨bx, ox, cx, rfl, cx4, cxm, -⟩ := reads_four (HS.out.rd 0 rfl) z4
      obtain ⟨bh, oh, ch, rfl, ch4, chm, -⟩ := reads_four (HS.out.rd 1 rfl) h4
      unfold maxLen at cxm chm
      clear z4 h4
      go_wp2_with fail
      go_loopw [11] (fun i wr => ∃ j : Nat, (j : Int) ≤ 4 ∧ i = .int .i64 j ∧ Hid (FL w wr [(a3.heap.size, (.slice (some ⟨bx, ox, none⟩) 4 cx), z), (a1.heap.size, (.slice (some ⟨bh, oh, none⟩) 4 ch), h)])) (fun i _ => 4 - (intOf i).toNat)
      case atStart => exact ⟨0, by omega, rfl, HS⟩
      case round =>
        obtain ⟨j, hj, rfl, HR⟩ := hrel
        clear HS
        have HS := HR
        clear HR
        by_cases hlt : (j : Int) < 4
        · have kx := reads_key (HS.out.rd 0 rfl) j (by omega)
          have kh := reads_key (HS.out.rd 1 rfl) j (by omega)
          rw [ZK.out j (by omega)] at kx
          obtain ⟨yy, hyy⟩ : ∃ yy, yy = h.ks.getD j 0 := ⟨_, rfl⟩
          rw [← hyy] at kx kh
          clear hyy
          have p_x_0 : wr.cell? ⟨a3.heap.size, 0, none⟩ = some ((.slice (some ⟨bx, ox, none⟩) 4 cx)) := HS.out.cell 0 rfl 0 rfl
          have p_h_0 : wr.cell? ⟨a1.heap.size, 0, none⟩ = some ((.slice (some ⟨bh, oh, none⟩) 4 ch)) := HS.out.cell 1 rfl 0 rfl
          have HQ := HS
          clear HS HA HZ HO ZK
          by_cases hjm : (j : Int) = x
          · rw [if_neg (fun e => e.1 hjm)] at kx
            have hb : ((j : Int) != x) = false := by simp [hjm]
            have hyb : (yy != yy) = false := by simp
            clear hjm
            go_upto_region 16 with fail
            go_quiet (fail)
            go_wp2
            go_roundw
            case rel => exact ⟨j + 1, by omega, by go_num, HQ.out.drewN _⟩
            case measure => simp [intOf]; omega
          · have hb : ((j : Int) != x) = true := by simpa using hjm
            by_cases hyk : yy = key
            · rw [if_pos ⟨hjm, hyk⟩] at kx
              have hyb : (yy == key) = true := by simpa using hyk
              clear hjm hyk
              go_upto_region 16 with fail
              go_quiet (fail)
              go_wp2
              go_roundw
              case rel => exact ⟨j + 1, by omega, by go_num, HQ.out.drewN _⟩
              case measure => simp [intOf]; omega
            · rw [if_neg (fun e => hyk e.2)] at kx
              have hyb : (yy == key) = false := by simpa using hyk
              have hyy : (yy != yy) = false := by simp
              clear hjm hyk
              go_upto_region 16 with fail
              go_quiet (fail)
              go_wp2
              go_roundw
              case rel => exact ⟨j + 1, by omega, by go_num, HQ.out.drewN _⟩
              case measure => simp [intOf]; omega
        · clear ZK
          go_upto_region 18 with fail
          go_cut [128] (fun t wx => t = .bool false ∧ Hid (FL w wx [(a3.heap.size, (.slice (some ⟨bx, ox, none⟩) 4 cx), z), (a1.heap.size, (.slice (some ⟨bh, oh, none⟩) 4 ch), h)]))
          case first =>
            have p_h_0 : wr.cell? ⟨a1.heap.size, 0, none⟩ = some ((.slice (some ⟨bh, oh, none⟩) 4 ch)) := HS.out.cell 1 rfl 0 rfl
            have p_h_1 : wr.cell? ⟨a1.heap.size, 1, none⟩ = some (.int .i64 h.kd) := HS.out.cell 1 rfl 1 rfl
            have p_h_2 : wr.cell? ⟨a1.heap.size, 2, none⟩ = some (.int .i64 h.ho) := HS.out.cell 1 rfl 2 rfl
            have p_h_3 : wr.cell? ⟨a1.heap.size, 3, none⟩ = some (.int .i64 h.tu) := HS.out.cell 1 rfl 3 rfl
            by_cases h0 : h.kd = 0
            · have hkb : (h.kd != 0) = false := by simp [h0]
              clear h0 HA HZ HO
              go_wp2_with fail
              go_meet
              exact ⟨rfl, HS⟩
            · have hkb : (h.kd != 0) = true := by simpa using h0
              by_cases ho : 0 ≤ h.ho
              · obtain ⟨ho3, hal⟩ := HA.out h0 ho
                obtain ⟨o, eo⟩ : ∃ o : Nat, h.ho = (o : Int) := ⟨h.ho.toNat, by omega⟩
                have ko := reads_key (HS.out.rd 1 rfl) o (by omega)
                rw [eo] at p_h_2 hal
                rw [show ((o : Int)).toNat = o by omega] at hal
                have o4 : (o : Int) < 4 := by omega
                obtain ⟨yy, hyy⟩ : ∃ yy, yy = h.ks.getD o 0 := ⟨_, rfl⟩
                rw [← hyy] at ko hal
                clear hyy ho ho3 eo h0 HZ HO HA
                by_cases hyk : yy = key
                · obtain ⟨hh, hzk⟩ := hal hyk
                  have hyb : (yy == key) = true := by simpa using hyk
                  have hzb : (z.kd != kind) = false := by simp [hzk]
                  have cho := fun u w' (hr : Reads w' u z.ks) => iHol_any u z x w' hr l_z
                  simp only [hh] at cho
                  clear hal hyk hzk hh
                  have p_x_0 : wr.cell? ⟨a3.heap.size, 0, none⟩ = some ((.slice (some ⟨bx, ox, none⟩) 4 cx)) := HS.out.cell 0 rfl 0 rfl
                  have p_x_1 : wr.cell? ⟨a3.heap.size, 1, none⟩ = some (.int .i64 z.kd) := HS.out.cell 0 rfl 1 rfl
                  have p_x_2 : wr.cell? ⟨a3.heap.size, 2, none⟩ = some (.int .i64 z.ho) := HS.out.cell 0 rfl 2 rfl
                  have p_x_3 : wr.cell? ⟨a3.heap.size, 3, none⟩ = some (.int .i64 z.tu) := HS.out.cell 0 rfl 3 rfl
                  go_wp2_with fail
                  refine (cho _ _ (HS.out.rd 0 rfl)).mono ?_
                  rintro e a10 ⟨rfl, bb9⟩
                  replace HS : Hid (FL w a10 [(a3.heap.size, (.slice (some ⟨bx, ox, none⟩) 4 cx), z), (a1.heap.size, (.slice (some ⟨bh, oh, none⟩) 4 ch), h)]) := HS.out.next bb9
                  clear bb9 p_x_0 p_x_1 p_x_2 p_x_3 p_h_0 p_h_1 p_h_2 p_h_3
                  have p_x_1 : a10.cell? ⟨a3.heap.size, 1, none⟩ = some (.int .i64 z.kd) := HS.out.cell 0 rfl 1 rfl
                  go_wp2_with fail
                  go_meet
                  exact ⟨rfl, HS⟩
                · have hyb : (yy == key) = false := by simpa using hyk
                  clear hal hyk
                  go_wp2_with fail
                  go_meet
                  exact ⟨rfl, HS⟩
              · have ho2 : h.ho < 0 := by omega
                clear h0 ho HA HZ HO
                go_wp2_with fail
                go_meet
                exact ⟨rfl, HS⟩
          case rest =>
            clear HS HA
            obtain ⟨rfl, HS⟩ := hcut
            have co := fun u w' (hr : Reads w' u z.ks) => sholdok_any u z w' hr l_z
            simp only [HO.out.1] at co
            have cr := fun u w' (hr : Reads w' u z.ks) => iReg_any u z x w' hr l_z
            simp only [HO.out.2] at cr
            clear HO
            by_cases h0 : h.kd = 0
            · have hz := HZ.out.1 h0
              have p_x_0 : wc.cell? ⟨a3.heap.size, 0, none⟩ = some ((.slice (some ⟨bx, ox, none⟩) 4 cx)) := HS.out.cell 0 rfl 0 rfl
              have p_x_1 : wc.cell? ⟨a3.heap.size, 1, none⟩ = some (.int .i64 z.kd) := HS.out.cell 0 rfl 1 rfl
              have p_x_2 : wc.cell? ⟨a3.heap.size, 2, none⟩ = some (.int .i64 z.ho) := HS.out.cell 0 rfl 2 rfl
              have p_x_3 : wc.cell? ⟨a3.heap.size, 3, none⟩ = some (.int .i64 z.tu) := HS.out.cell 0 rfl 3 rfl
              have p_h_1 : wc.cell? ⟨a1.heap.size, 1, none⟩ = some (.int .i64 h.kd) := HS.out.cell 1 rfl 1 rfl
              rw [hz] at p_x_1
              rw [h0] at p_h_1
              clear HZ
              go_upto_region 22 with fail
              clear p_x_0 p_x_1 p_x_2 p_x_3 p_h_1
              have p_x_0 : wc.cell? ⟨a3.heap.size, 0, none⟩ = some ((.slice (some ⟨bx, ox, none⟩) 4 cx)) := HS.out.cell 0 rfl 0 rfl
              have p_x_1 : wc.cell? ⟨a3.heap.size, 1, none⟩ = some (.int .i64 z.kd) := HS.out.cell 0 rfl 1 rfl
              have p_x_2 : wc.cell? ⟨a3.heap.size, 2, none⟩ = some (.int .i64 z.ho) := HS.out.cell 0 rfl 2 rfl
              have p_x_3 : wc.cell? ⟨a3.heap.size, 3, none⟩ = some (.int .i64 z.tu) := HS.out.cell 0 rfl 3 rfl
              clear hz h0
              go_wp2_with fail
              refine (co _ _ (HS.out.rd 0 rfl)).mono ?_
              rintro e a11 ⟨rfl, bb10⟩
              replace HS : Hid (FL w a11 [(a3.heap.size, (.slice (some ⟨bx, ox, none⟩) 4 cx), z), (a1.heap.size, (.slice (some ⟨bh, oh, none⟩) 4 ch), h)]) := HS.out.next bb10
              clear bb10 p_x_0 p_x_1 p_x_2 p_x_3
              have p_x_0 : a11.cell? ⟨a3.heap.size, 0, none⟩ = some ((.slice (some ⟨bx, ox, none⟩) 4 cx)) := HS.out.cell 0 rfl 0 rfl
              have p_x_1 : a11.cell? ⟨a3.heap.size, 1, none⟩ = some (.int .i64 z.kd) := HS.out.cell 0 rfl 1 rfl
              have p_x_2 : a11.cell? ⟨a3.heap.size, 2, none⟩ = some (.int .i64 z.ho) := HS.out.cell 0 rfl 2 rfl
              have p_x_3 : a11.cell? ⟨a3.heap.size, 3, none⟩ = some (.int .i64 z.tu) := HS.out.cell 0 rfl 3 rfl
              go_wp2_with fail
              refine (cr _ _ (HS.out.rd 0 rfl)).mono ?_
              rintro e a12 ⟨rfl, bb11⟩
              replace HS : Hid (FL w a12 [(a3.heap.size, (.slice (some ⟨bx, ox, none⟩) 4 cx), z), (a1.heap.size, (.slice (some ⟨bh, oh, none⟩) 4 ch), h)]) := HS.out.next bb11
              clear bb11 p_x_0 p_x_1 p_x_2 p_x_3
              have HB : Hid (Below w.heap.size w _) := HS.out.1
              clear HS
              go_wp2
              go_ret
              exact ⟨rfl, HB.out⟩
            · have hzn := HZ.out.2 h0
              have hkb : (h.kd == 0) = false := by simpa using h0
              have hkc : (h.kd != 0) = true := by simpa using h0
              have hzb : (z.kd == 0) = false := by simpa using hzn
              clear HZ h0 hzn
              have p_x_0 : wc.cell? ⟨a3.heap.size, 0, none⟩ = some ((.slice (some ⟨bx, ox, none⟩) 4 cx)) := HS.out.cell 0 rfl 0 rfl
              have p_x_1 : wc.cell? ⟨a3.heap.size, 1, none⟩ = some (.int .i64 z.kd) := HS.out.cell 0 rfl 1 rfl
              have p_x_2 : wc.cell? ⟨a3.heap.size, 2, none⟩ = some (.int .i64 z.ho) := HS.out.cell 0 rfl 2 rfl
              have p_x_3 : wc.cell? ⟨a3.heap.size, 3, none⟩ = some (.int .i64 z.tu) := HS.out.cell 0 rfl 3 rfl
              have p_h_1 : wc.cell? ⟨a1.heap.size, 1, none⟩ = some (.int .i64 h.kd) := HS.out.cell 1 rfl 1 rfl
              go_wp2_with fail
              refine (co _ _ (HS.out.rd 0 rfl)).mono ?_
              rintro e a13 ⟨rfl, bb12⟩
              replace HS : Hid (FL w a13 [(a3.heap.size, (.slice (some ⟨bx, ox, none⟩) 4 cx), z), (a1.heap.size, (.slice (some ⟨bh, oh, none⟩) 4 ch), h)]) := HS.out.next bb12
              clear bb12 p_x_0 p_x_1 p_x_2 p_x_3 p_h_1
              have p_x_0 : a13.cell? ⟨a3.heap.size, 0, none⟩ = some ((.slice (some ⟨bx, ox, none⟩) 4 cx)) := HS.out.cell 0 rfl 0 rfl
              have p_x_1 : a13.cell? ⟨a3.heap.size, 1, none⟩ = some (.int .i64 z.kd) := HS.out.cell 0 rfl 1 rfl
              have p_x_2 : a13.cell? ⟨a3.heap.size, 2, none⟩ = some (.int .i64 z.ho) := HS.out.cell 0 rfl 2 rfl
              have p_x_3 : a13.cell? ⟨a3.heap.size, 3, none⟩ = some (.int .i64 z.tu) := HS.out.cell 0 rfl 3 rfl
              go_wp2_with fail
              refine (cr _ _ (HS.out.rd 0 rfl)).mono ?_
              rintro e a14 ⟨rfl, bb13⟩
              replace HS : Hid (FL w a14 [(a3.heap.size, (.slice (some ⟨bx, ox, none⟩) 4 cx), z), (a1.heap.size, (.slice (some ⟨bh, oh, none⟩) 4 ch), h)]) := HS.out.next bb13
              clear bb13 p_x_0 p_x_1 p_x_2 p_x_3
              have HB : Hid (Below w.heap.size w _) := HS.out.1
              clear HS
              go_wp2
              go_ret
              exact ⟨rfl, HB.out⟩

set_option maxRecDepth 100000 in
theorem lifted (os : Os) (started : os.Started) (H : Type) (enc : TypeId × Value → H) :
    ReturnsInHanded {} Try.checked os 6 .any (Rows.fnPreemptSpec.pre6 enc Try.prog Try.f6 Rows.fnPreemptRow.domain false) (Rows.fnPreemptSpec.post enc Try.prog Try.f6 false true false false) := by
  refine returnsInHanded_of_change (C := Try.checked) own started (by kernel_rfl) Try.func6
    (ChangeSpec.witness6 (enc := enc) (C := Try.checked) false ⟨#[], #[.slice none 0 0], []⟩ 8 (by kernel_rfl) (by kernel_rfl) (by kernel_rfl) (by kernel_rfl)) ?_
  intro W base args ds gs before hval0 hW hcnd _
  have hval : ∀ (j : Nat) t v, Try.f6.params[j]? = some t → args[j]? = some v → Value.okWide Try.prog W .any base t v := hval0
  have hW' := hW
  obtain ⟨p, q, hA0, hV, rfl, hfz, hnd⟩ := hW
  have hA : DataW.TrodAll enc Try.prog W 0 (fun _ => true) true Try.f6.params.toList args.toList ds p := hA0
  rw [Try.params6] at hA hval
  obtain ⟨v0, vs0, d0, ds0, p0, q0, hargs, rfl, rfl, h0, r0⟩ := trodAll_cons hA
  obtain ⟨rfl, rfl, rfl⟩ := trodAll_nil r0
  obtain rfl : args = #[v0] := by cases args; simp_all
  obtain ⟨rfl, rfl⟩ := trodVars_none hV
  obtain ⟨a0, len0, cap0, rfl⟩ := okWide_slice Try.underlying22 (hval 0 22 v0 rfl rfl)
  have k0 := h0
  have lt0 : ∀ x ∈ p0, x.block < W.heap.size := by obtain ⟨m, hm⟩ := k0; exact DataW.trod_lt m _ _ _ hm
  obtain ⟨z0, w0⟩ : ∃ zs, IsRow .u8 W a0 len0 cap0 zs := by
    obtain ⟨fuel, hf⟩ := h0
    rcases open_ints Try.underlying22 Try.underlying5 (by kernel_rfl) hf with ⟨hcs, _⟩ | ⟨x, l, c, zs, hcs, _, hl, hm, hz, _, hcell, hwz⟩
    · simp [Value.cells] at hcs
      obtain ⟨rfl, rfl, rfl⟩ := hcs
      exact ⟨[], .inl ⟨rfl, rfl, rfl, rfl⟩⟩
    · simp [Value.cells] at hcs
      obtain ⟨rfl, rfl, rfl⟩ := hcs
      exact ⟨zs, .inr ⟨_, rfl, hl, hm, by simpa using hz, hcell, hwz⟩⟩
  clear hA0 hval0
  refine (walk a0 len0 cap0 z0 W w0).mono fun e W' ⟨he, bel⟩ => ?_
  subst he
  exact ⟨_, rfl, _, _, _, [], _, [], hW', trodAll_mk1 (shut_bool Try.underlying4 _), (trodAll_cons_mk (Below.trod laidOut (by kernel_rfl) (of_decide_eq_true (by kernel_rfl)) k0 bel lt0) trodAll_mk0), rfl, bel.frame _, fun h => by cases h⟩

theorem over : Rows.fnPreemptRow.holds Try.pinned (OpenSpec.ofChange Rows.fnPreemptSpec) :=
  OpenClaim.holds_of_wide 6 Try.f6 rfl rfl rfl rfl rfl rfl rfl ⟨rfl, rfl, rfl, rfl, rfl⟩ rfl rfl rfl rfl rfl (by kernel_rfl) Try.func6 (by kernel_rfl)
    (of_decide_eq_true (by kernel_rfl)) (by unfold Func.isWrapper; first | (rw [if_pos (by decide +kernel)]; kernel_rfl) | (rw [if_neg (by decide +kernel)]; exact ⟨rfl, rfl⟩))
    (fun os started H enc _ => lifted os started H enc)

theorem proved : Rows.FnPreemptSaid := over
end Go.Proofs.Ytppkncmlloelbaa.fnPreempt
namespace Go.Proofs.Ytppkncmlloelbaa
theorem fnPreempt_holds : Rows.FnPreemptSaid := fnPreempt.proved
end Go.Proofs.Ytppkncmlloelbaa
