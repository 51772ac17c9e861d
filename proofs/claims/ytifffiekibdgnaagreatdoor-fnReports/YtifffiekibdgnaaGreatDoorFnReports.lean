/- At every list of bytes the law FnReports returns true: a holding is read from what it is shown as, and keys and holder are told of it; and the program answers as the model. -/
import Derived.Test.YtifffiekibdgnaaGreatDoorRows
import Derived.WalkKit
import Derived.ProofKit
import Derived.OpenShut
import Derived.ShutString
import Derived.ChangeOld
import Derived.Below
import Derived.Test.YtifffiekibdgnaaGreatDoorDrawSets
import Derived.Test.YtifffiekibdgnaaGreatDoorDrawTold
import Derived.Test.YtifffiekibdgnaaGreatDoorActSta
import Derived.Test.YtifffiekibdgnaaGreatDoorLikeHold
import Derived.Test.YtifffiekibdgnaaGreatDoorSTold3
import Derived.Test.YtifffiekibdgnaaGreatDoorIReads
import Derived.Test.YtifffiekibdgnaaGreatDoorEnds
import Derived.Test.YtifffiekibdgnaaGreatDoorTabsAll
import Derived.Lay
import Derived.LaidOnce
import Derived.Test.YtifffiekibdgnaaGreatDoorCards
import Derived.Test.YtifffiekibdgnaaGreatDoorTie
import Derived.SevenTiedAt
namespace Go.Proofs.YtifffiekibdgnaaGreatDoor.fnReports
open Go.ChangeShapes Go.WideShapes Go.ChangeAt Go.RowKit
open Go.ChangeMaps (open_string shut_string)
set_option linter.unusedVariables false

theorem own : ownKnob Tryz.prog.godebug = none := by kernel_rfl
theorem laidOut : laidOutB Tryz.prog = true := by kernel_rfl

def IsRow (k : IntKind) (w : World) (a : Option Addr) (len cap : Nat) (zs : List Int) : Prop :=
  (a = none ∧ len = 0 ∧ cap = 0 ∧ zs = []) ∨
  ∃ x, a = some x ∧ len ≤ cap ∧ cap ≤ maxLen ∧ zs.length = cap ∧ (∀ i, i < zs.length → w.cell? (x.add i) = some (.int k (zs.getD i 0))) ∧ ∀ n ∈ zs, (Lit.int k n).wf = true

set_option maxRecDepth 20000 in
set_option maxHeartbeats 8000000 in
theorem walk (a0 : Option Addr) (len0 cap0 : Nat) (z0 : List Int) (w : World) (w0 : IsRow .u8 w a0 len0 cap0 z0) (hT : TabE w) :
    Calls Tryz.prog 3 #[.slice a0 len0 cap0] w fun e w' => e = .returned (.bool true) ∧ Below w.heap.size w w' := by
  by_cases hbig : (4096 : Int) < (len0 : Int)
  · go_enter Tryz.func3, Tryz.ntmps3
    go_wp2_with (go_at_call 4; refine (big_any _ _ _ _).mono ?_; rintro e w' ⟨rfl, hw'⟩; subst w')
    go_ret
    exact ⟨rfl, Below.refl _ _⟩
  · have HP : Hid (TabE w) := hT
    clear hT
    have HC : Hid (CodeOk w w.heap.size (.slice a0 len0 cap0)) := codeOk_row w0 (by omega)
    clear w0
    have HS : Hid (FL w w []) := FL.start w
    go_enter Tryz.func3, Tryz.ntmps3
    go_wp2_with fail
    refine (big_any _ _ _ _).mono ?_
    rintro e w' ⟨rfl, hw'⟩; subst w'
    go_wp2_with fail
    refine (drawShowH_any w.heap.size _ _ (HC.out.below HS.out.1) HS.out.1.size).mono ?_
    rintro e a1 ⟨h, u_h, rfl, D1, B1⟩
    have l_h : h.ks.length ≤ 1099511627776 := by have := D1.2.2; omega
    have RR : Hid (Reads a1 u_h h.ks) := D1.1
    replace HS : Hid (FL w a1 []) := HS.out.next B1
    clear D1 B1
    have zz : Hid (StB (a1.alloc (.cells zHd 26)) a1.heap.size 26 zHd) := StB.new _ _ _
    go_upto_region 4 with (first | (refine wpList_putS Tryz.isH rfl _ _ rfl a1.heap.size (hdA u_h h) zHd rfl rfl rfl rfl (hdA_one _ (reads_one RR.out)) zz.out ?_; intro a2 hh gg))
    replace HS : Hid (FL w a2 [(a1.heap.size, u_h, h)]) := HS.out.new RR.out hh gg
    clear hh gg zz RR
    obtain ⟨sT, hsT⟩ : ∃ sT, sT = h.showT := ⟨_, rfl⟩
    obtain ⟨kT, hkT⟩ : ∃ kT, kT = h.keysT := ⟨_, rfl⟩
    obtain ⟨oT, hoT⟩ : ∃ oT, oT = h.holdT := ⟨_, rfl⟩
    have H_s : Hid (sT = h.showT) := hsT
    have H_k : Hid (kT = h.keysT) := hkT
    have H_o : Hid (oT = h.holdT) := hoT
    have hsl : sT.length ≤ 200 := by rw [hsT]; exact showT_len h
    have cis := fun u w' (hr : Reads w' u h.ks) (hE : TabE w') => ishowH_any u h w' hr l_h hE.tab
    have css := fun u w' (hr : Reads w' u h.ks) => sshowH_any u h w' hr l_h
    have cik := fun u w' (hr : Reads w' u h.ks) (hE : TabE w') => ikeysof_any u h w' hr l_h hE.tab
    have csk := fun u w' (hr : Reads w' u h.ks) => skeysof_any u h w' hr l_h
    have cio := fun u w' (hr : Reads w' u h.ks) (hE : TabE w') => iholderof_any u h w' hr l_h hE.tab
    have cso := fun u w' (hr : Reads w' u h.ks) => sholderof_any u h w' hr l_h
    simp only [← hsT] at cis css
    simp only [← hkT] at cik csk
    simp only [← hoT] at cio cso
    clear hsT hkT hoT
    unfold S at cis css cik csk cio cso
    have e_s : (sT == sT) = true := by simp
    have e_k : (kT == kT) = true := by simp
    have e_o : (oT == oT) = true := by simp
    have p_h_0 : a2.cell? ⟨a1.heap.size, 0, none⟩ = some (u_h) := HS.out.cell 0 rfl 0 rfl
    have p_h_1 : a2.cell? ⟨a1.heap.size, 1, none⟩ = some (.int .i64 h.kd) := HS.out.cell 0 rfl 1 rfl
    have p_h_2 : a2.cell? ⟨a1.heap.size, 2, none⟩ = some (.int .i64 h.ho) := HS.out.cell 0 rfl 2 rfl
    have p_h_3 : a2.cell? ⟨a1.heap.size, 3, none⟩ = some (.int .i64 h.tu) := HS.out.cell 0 rfl 3 rfl
    go_wp2_with fail
    refine (cis _ _ (HS.out.rd 0 rfl) (HP.out.below HS.out.1)).mono ?_
    rintro e a3 ⟨rfl, bb2⟩
    replace HS : Hid (FL w a3 [(a1.heap.size, u_h, h)]) := HS.out.next bb2
    clear bb2 p_h_0 p_h_1 p_h_2 p_h_3
    go_wp2_with fail
    refine (drawReadH_any w.heap.size _ _ (HC.out.below HS.out.1) HS.out.1.size).mono ?_
    rintro e a4 ⟨t, rfl, htl, B1⟩
    unfold S
    replace HS : Hid (FL w a4 [(a1.heap.size, u_h, h)]) := HS.out.next B1
    clear B1 HC
    have ci : ∀ w', TabE w' → _ := fun w' hE => ireadH_any t w' (by omega) hE
    have cs : ∀ w', _ := fun w' => sreadH_any t w' (by omega)
    have l_z0 : (readD t).ks.length ≤ 4 := readD_len t
    have H_b0 : Hid (readY t = true → (readD t).showT = t) := showT_read t
    obtain ⟨z, hz⟩ : ∃ z, z = readD t := ⟨_, rfl⟩
    obtain ⟨b, hb⟩ : ∃ b, b = readY t := ⟨_, rfl⟩
    rw [← hz] at l_z0 H_b0
    rw [← hb] at H_b0
    simp only [← hz, ← hb] at ci cs
    clear hz hb
    have l_z : z.ks.length ≤ 1099511627776 := by omega
    have e_b : (b != b) = false := by simp
    have lk_z := fun u v w' (hu : Reads w' u z.ks) (hv : Reads w' v z.ks) => likeH_any u v z z w' hu hv l_z
    simp only [likeH_same] at lk_z
    unfold S at ci cs
    go_wp2_with fail
    refine (ci _ (HP.out.below HS.out.1)).mono ?_
    rintro e a5 ⟨u_x, rfl, O1, B1⟩
    have RR : Hid (Reads a5 u_x z.ks) := O1.reads
    replace HS : Hid (FL w a5 [(a1.heap.size, u_h, h)]) := HS.out.next B1
    clear O1 B1
    have zz : Hid (StB (a5.alloc (.cells zHd 26)) a5.heap.size 26 zHd) := StB.new _ _ _
    go_upto_region 7 with (first | (refine wpList_putS Tryz.isH rfl _ _ rfl a5.heap.size (hdA u_x z) zHd rfl rfl rfl rfl (hdA_one _ (reads_one RR.out)) zz.out ?_; intro a6 hh gg))
    replace HS : Hid (FL w a6 [(a5.heap.size, u_x, z), (a1.heap.size, u_h, h)]) := HS.out.new RR.out hh gg
    clear hh gg zz RR
    go_wp2_with fail
    refine (cs _).mono ?_
    rintro e a7 ⟨u_y, rfl, O1, B1⟩
    have RR : Hid (Reads a7 u_y z.ks) := O1.reads
    replace HS : Hid (FL w a7 [(a5.heap.size, u_x, z), (a1.heap.size, u_h, h)]) := HS.out.next B1
    clear O1 B1
    have zz : Hid (StB (a7.alloc (.cells zHd 26)) a7.heap.size 26 zHd) := StB.new _ _ _
    go_upto_region 8 with (first | (refine wpList_putS Tryz.isH rfl _ _ rfl a7.heap.size (hdA u_y z) zHd rfl rfl rfl rfl (hdA_one _ (reads_one RR.out)) zz.out ?_; intro a8 hh gg))
    replace HS : Hid (FL w a8 [(a7.heap.size, u_y, z), (a5.heap.size, u_x, z), (a1.heap.size, u_h, h)]) := HS.out.new RR.out hh gg
    clear hh gg zz RR
    clear ci cs
    obtain ⟨p, hp⟩ : ∃ p, p = fun x => FL w x [(a7.heap.size, u_y, z), (a5.heap.size, u_x, z), (a1.heap.size, u_h, h)] := ⟨_, rfl⟩
    have HQ : Hid (∀ x, p x → FL w x [(a7.heap.size, u_y, z), (a5.heap.size, u_x, z), (a1.heap.size, u_h, h)]) := by rw [hp]; exact fun _ h => h
    have HN : Hid (∀ x w', p x → Below x.heap.size x w' → p w') := by rw [hp]; exact fun _ _ h b => h.next b
    have H0 : Hid (p a8.drew) := by rw [hp]; exact HS.out.next (Below.refl _ _).drew
    have hne : Nonempty (Kin p) := ⟨⟨_, H0.out⟩⟩
    have m_h_0 : ∀ q : Kin p, q.x.cell? ⟨a1.heap.size, 0, none⟩ = some (u_h) := fun q => (HQ.out _ q.h).cell 2 rfl 0 rfl
    have m_h_1 : ∀ q : Kin p, q.x.cell? ⟨a1.heap.size, 1, none⟩ = some (.int .i64 h.kd) := fun q => (HQ.out _ q.h).cell 2 rfl 1 rfl
    have m_h_2 : ∀ q : Kin p, q.x.cell? ⟨a1.heap.size, 2, none⟩ = some (.int .i64 h.ho) := fun q => (HQ.out _ q.h).cell 2 rfl 2 rfl
    have m_h_3 : ∀ q : Kin p, q.x.cell? ⟨a1.heap.size, 3, none⟩ = some (.int .i64 h.tu) := fun q => (HQ.out _ q.h).cell 2 rfl 3 rfl
    have m_x_0 : ∀ q : Kin p, q.x.cell? ⟨a5.heap.size, 0, none⟩ = some (u_x) := fun q => (HQ.out _ q.h).cell 1 rfl 0 rfl
    have m_x_1 : ∀ q : Kin p, q.x.cell? ⟨a5.heap.size, 1, none⟩ = some (.int .i64 z.kd) := fun q => (HQ.out _ q.h).cell 1 rfl 1 rfl
    have m_x_2 : ∀ q : Kin p, q.x.cell? ⟨a5.heap.size, 2, none⟩ = some (.int .i64 z.ho) := fun q => (HQ.out _ q.h).cell 1 rfl 2 rfl
    have m_x_3 : ∀ q : Kin p, q.x.cell? ⟨a5.heap.size, 3, none⟩ = some (.int .i64 z.tu) := fun q => (HQ.out _ q.h).cell 1 rfl 3 rfl
    have m_y_0 : ∀ q : Kin p, q.x.cell? ⟨a7.heap.size, 0, none⟩ = some (u_y) := fun q => (HQ.out _ q.h).cell 0 rfl 0 rfl
    have m_y_1 : ∀ q : Kin p, q.x.cell? ⟨a7.heap.size, 1, none⟩ = some (.int .i64 z.kd) := fun q => (HQ.out _ q.h).cell 0 rfl 1 rfl
    have m_y_2 : ∀ q : Kin p, q.x.cell? ⟨a7.heap.size, 2, none⟩ = some (.int .i64 z.ho) := fun q => (HQ.out _ q.h).cell 0 rfl 2 rfl
    have m_y_3 : ∀ q : Kin p, q.x.cell? ⟨a7.heap.size, 3, none⟩ = some (.int .i64 z.tu) := fun q => (HQ.out _ q.h).cell 0 rfl 3 rfl
    unfold HV hdA at lk_z css cik csk cio cso
    clear hp HS
    refine wp_region_kin p (by kernel_rfl) (by kernel_rfl) H0.out ?_
    repeat (quiet_step (first
      | (go_at_call 10; exact Kin.call (lk_z _ _ _ ((HQ.out _ (Kin.h _)).rd 1 rfl) ((HQ.out _ (Kin.h _)).rd 0 rfl)) HN.out)
      | (go_at_call 11; exact Kin.call (css _ _ ((HQ.out _ (Kin.h _)).rd 2 rfl)) HN.out)
      | (go_at_call 12; exact Kin.call (cik _ _ ((HQ.out _ (Kin.h _)).rd 2 rfl) (HP.out.below (HQ.out _ (Kin.h _)).1)) HN.out)
      | (go_at_call 13; exact Kin.call (csk _ _ ((HQ.out _ (Kin.h _)).rd 2 rfl)) HN.out)
      | (go_at_call 14; exact Kin.call (cio _ _ ((HQ.out _ (Kin.h _)).rd 2 rfl) (HP.out.below (HQ.out _ (Kin.h _)).1)) HN.out)
      | (go_at_call 15; exact Kin.call (cso _ _ ((HQ.out _ (Kin.h _)).rd 2 rfl)) HN.out)))
    refine wpQuiet_nil ?_
    intro ak hk'
    have HS : Hid (FL w ak [(a7.heap.size, u_y, z), (a5.heap.size, u_x, z), (a1.heap.size, u_h, h)]) := by { obtain ⟨q, rfl⟩ := hk'; exact HQ.out _ q.h }
    clear hk' HQ HN H0 hne m_h_0 m_h_1 m_h_2 m_h_3 m_x_0 m_x_1 m_x_2 m_x_3 m_y_0 m_y_1 m_y_2 m_y_3 css csk cso
    replace HS : Hid (FL w ak [(a5.heap.size, u_x, z), (a1.heap.size, u_h, h)]) := HS.out.sub (.cons _ (.cons_cons _ (.cons_cons _ (.slnil))))
    go_upto_region 10 with fail
    go_cut [67] (fun t' wx => t' = .bool false ∧ Hid (FL w wx [(a5.heap.size, u_x, z), (a1.heap.size, u_h, h)]))
    case first =>
      cases b with
      | false =>
        go_wp2_with fail
        go_meet
        exact ⟨rfl, HS⟩
      | true =>
        have HX : Hid (z.showT = t) := H_b0.out rfl
        have cix := fun u w' (hr : Reads w' u z.ks) (hE : TabE w') => ishowH_any u z w' hr l_z hE.tab
        simp only [HX.out] at cix
        unfold S HV hdA at cix
        have e_t : (t == t) = true := by simp
        clear H_b0
        have p_x_0 : ak.cell? ⟨a5.heap.size, 0, none⟩ = some (u_x) := HS.out.cell 0 rfl 0 rfl
        have p_x_1 : ak.cell? ⟨a5.heap.size, 1, none⟩ = some (.int .i64 z.kd) := HS.out.cell 0 rfl 1 rfl
        have p_x_2 : ak.cell? ⟨a5.heap.size, 2, none⟩ = some (.int .i64 z.ho) := HS.out.cell 0 rfl 2 rfl
        have p_x_3 : ak.cell? ⟨a5.heap.size, 3, none⟩ = some (.int .i64 z.tu) := HS.out.cell 0 rfl 3 rfl
        go_wp2_with fail
        refine (cix _ _ (HS.out.rd 0 rfl) (HP.out.below HS.out.1)).mono ?_
        rintro e a9 ⟨rfl, bb8⟩
        replace HS : Hid (FL w a9 [(a5.heap.size, u_x, z), (a1.heap.size, u_h, h)]) := HS.out.next bb8
        clear bb8 p_x_0 p_x_1 p_x_2 p_x_3
        go_wp2_with fail
        go_meet
        exact ⟨rfl, HS⟩
    case rest =>
      clear HS
      obtain ⟨rfl, HS⟩ := hcut
      clear H_b0 lk_z l_z l_z0 e_b
      replace HS : Hid (FL w wc [(a1.heap.size, u_h, h)]) := HS.out.sub (.cons _ (.cons_cons _ (.slnil)))
      obtain ⟨ok, hok⟩ : ∃ ok, ok = h.ok := ⟨_, rfl⟩
      have HK : Hid (ok = h.ok) := hok
      have co := fun u w' (hr : Reads w' u h.ks) => sholdok_any u h w' hr l_h
      simp only [← hok] at co
      unfold HV hdA at co
      clear hok
      cases ok with
      | false =>
        have N := none_told HK.out.symm
        rw [← H_s.out, ← H_k.out, ← H_o.out] at N
        obtain ⟨rfl, rfl, rfl⟩ := N
        clear H_s H_k H_o HK
        have p_h_0 : wc.cell? ⟨a1.heap.size, 0, none⟩ = some (u_h) := HS.out.cell 0 rfl 0 rfl
        have p_h_1 : wc.cell? ⟨a1.heap.size, 1, none⟩ = some (.int .i64 h.kd) := HS.out.cell 0 rfl 1 rfl
        have p_h_2 : wc.cell? ⟨a1.heap.size, 2, none⟩ = some (.int .i64 h.ho) := HS.out.cell 0 rfl 2 rfl
        have p_h_3 : wc.cell? ⟨a1.heap.size, 3, none⟩ = some (.int .i64 h.tu) := HS.out.cell 0 rfl 3 rfl
        go_upto_region 13 with fail
        go_wp2_with fail
        refine (co _ _ (HS.out.rd 0 rfl)).mono ?_
        rintro e a10 ⟨rfl, bb9⟩
        replace HS : Hid (FL w a10 [(a1.heap.size, u_h, h)]) := HS.out.next bb9
        clear bb9 p_h_0 p_h_1 p_h_2 p_h_3
        have p_h_0 : a10.cell? ⟨a1.heap.size, 0, none⟩ = some (u_h) := HS.out.cell 0 rfl 0 rfl
        have p_h_1 : a10.cell? ⟨a1.heap.size, 1, none⟩ = some (.int .i64 h.kd) := HS.out.cell 0 rfl 1 rfl
        have p_h_2 : a10.cell? ⟨a1.heap.size, 2, none⟩ = some (.int .i64 h.ho) := HS.out.cell 0 rfl 2 rfl
        have p_h_3 : a10.cell? ⟨a1.heap.size, 3, none⟩ = some (.int .i64 h.tu) := HS.out.cell 0 rfl 3 rfl
        go_wp2_with fail
        refine (cik _ _ (HS.out.rd 0 rfl) (HP.out.below HS.out.1)).mono ?_
        rintro e a11 ⟨rfl, bb10⟩
        replace HS : Hid (FL w a11 [(a1.heap.size, u_h, h)]) := HS.out.next bb10
        clear bb10 p_h_0 p_h_1 p_h_2 p_h_3
        have p_h_0 : a11.cell? ⟨a1.heap.size, 0, none⟩ = some (u_h) := HS.out.cell 0 rfl 0 rfl
        have p_h_1 : a11.cell? ⟨a1.heap.size, 1, none⟩ = some (.int .i64 h.kd) := HS.out.cell 0 rfl 1 rfl
        have p_h_2 : a11.cell? ⟨a1.heap.size, 2, none⟩ = some (.int .i64 h.ho) := HS.out.cell 0 rfl 2 rfl
        have p_h_3 : a11.cell? ⟨a1.heap.size, 3, none⟩ = some (.int .i64 h.tu) := HS.out.cell 0 rfl 3 rfl
        go_wp2_with fail
        refine (cio _ _ (HS.out.rd 0 rfl) (HP.out.below HS.out.1)).mono ?_
        rintro e a12 ⟨rfl, bb11⟩
        replace HS : Hid (FL w a12 [(a1.heap.size, u_h, h)]) := HS.out.next bb11
        clear bb11 p_h_0 p_h_1 p_h_2 p_h_3
        have HB : Hid (Below w.heap.size w _) := HS.out.1
        clear HS
        go_wp2
        go_ret
        exact ⟨rfl, HB.out⟩
      | true =>
        have hok : h.ok = true := HK.out.symm
        obtain ⟨N1, N2, N3⟩ := some_told hok
        have H_kn : Hid (kT = intsB h.keysN) := by rw [Hid, H_k.out]; exact N2
        rw [← H_s.out] at N1 N3
        have e_se : sT.isEmpty = false := by simpa using N1
        have cr : ∀ w', TabE w' → _ := fun w' hE => ireadH_any sT w' (by omega) hE
        simp only [readD, readY, N3, Option.getD_some, Option.isSome_some] at cr
        have h4 := (Hd.ok_all hok).1
        have htu := (Hd.ok_all hok).2.1
        have HKB : Hid (∀ x ∈ h.ks, 0 ≤ x ∧ x ≤ 9999) := fun x hx => (inI_iff _ _ _).1 (List.all_eq_true.1 (Hd.ok_all hok).2.2.1 x hx)
        have lk_h := fun u v w' (hu : Reads w' u h.ks) (hv : Reads w' v h.ks) => likeH_any u v h h w' hu hv l_h
        simp only [likeH_same] at lk_h
        unfold S at cr
        have HOK : Hid (h.ok = true) := hok
        clear N1 N2 N3 H_s H_k H_o HK co cio hok e_o
        go_upto_region 14 with fail
        go_wp2_with fail
        refine (cr _ (HP.out.below HS.out.1)).mono ?_
        rintro e a13 ⟨u_y2, rfl, O1, B1⟩
        have RR : Hid (Reads a13 u_y2 h.ks) := O1.reads
        replace HS : Hid (FL w a13 [(a1.heap.size, u_h, h)]) := HS.out.next B1
        clear O1 B1
        have zz : Hid (StB (a13.alloc (.cells zHd 26)) a13.heap.size 26 zHd) := StB.new _ _ _
        go_upto_region 15 with (first | (refine wpList_putS Tryz.isH rfl _ _ rfl a13.heap.size (hdA u_y2 h) zHd rfl rfl rfl rfl (hdA_one _ (reads_one RR.out)) zz.out ?_; intro a14 hh gg))
        replace HS : Hid (FL w a14 [(a13.heap.size, u_y2, h), (a1.heap.size, u_h, h)]) := HS.out.new RR.out hh gg
        clear hh gg zz RR
        clear cr
        have cd := fun w' => ldigits_any h.tu w' htu.1 (by omega)
        unfold S at cd
        have p_h_3 : a14.cell? ⟨a1.heap.size, 3, none⟩ = some (.int .i64 h.tu) := HS.out.cell 1 rfl 3 rfl
        go_wp2_with fail
        refine (cd _).mono ?_
        rintro e a15 ⟨rfl, bb14⟩
        replace HS : Hid (FL w a15 [(a13.heap.size, u_y2, h), (a1.heap.size, u_h, h)]) := HS.out.next bb14
        clear bb14 p_h_3
        clear cd htu
        obtain ⟨bh, oh, ch, rfl, ch4, chm, -⟩ := reads_four (HS.out.rd 1 rfl) h4
        unfold maxLen at chm
        go_wp2_with fail
        go_loopw [12, 13] (fun al i wr => ∃ j : Nat, (j : Int) ≤ 4 ∧ i = .int .i64 j ∧ al = .string ⟨(intsB (h.tu :: (h.ks.take j).filter (fun k => decide (k ≠ 0)))).toArray⟩ ∧ Hid (FL w wr [(a13.heap.size, u_y2, h), (a1.heap.size, (.slice (some ⟨bh, oh, none⟩) 4 ch), h)])) (fun _ i _ => 4 - (intOf i).toNat)
        case atStart => exact ⟨0, by omega, rfl, rfl, HS⟩
        case round =>
          obtain ⟨j, hj, rfl, rfl, HR⟩ := hrel
          clear HS
          by_cases hlt : (j : Int) < 4
          · have hj4 : j < h.ks.length := by omega
            have kq := reads_key (HR.out.rd 1 rfl) j (by omega)
            have kz : wr.cell? ⟨a1.heap.size, 0, none⟩ = some (.slice (some ⟨bh, oh, none⟩) 4 ch) := HR.out.cell 1 rfl 0 rfl
            have HT : Hid (h.ks.take (j + 1) = h.ks.take j ++ [h.ks.getD j 0]) := by
              rw [Hid, List.take_succ_eq_append_getElem hj4]
              simp [hj4]
            have hxb := HKB.out (h.ks.getD j 0) (by simp [hj4])
            have hfl : (intsB (h.tu :: (h.ks.take j).filter (fun k => decide (k ≠ 0)))).length ≤ 2000 := told_len HOK.out j
            have hdl : (decI (h.ks.getD j 0)).length ≤ 21 := decI_len _ (by omega) (by omega)
            obtain ⟨x, hx⟩ : ∃ x, x = h.ks.getD j 0 := ⟨_, rfl⟩
            rw [← hx] at kq HT hxb hdl
            have cd := fun w' => ldigits_any x w' hxb.1 (by omega)
            obtain ⟨f, hf⟩ : ∃ f, f = intsB (h.tu :: (h.ks.take j).filter (fun k => decide (k ≠ 0))) := ⟨_, rfl⟩
            rw [← hf] at hfl ⊢
            have HF : Hid (f = intsB (h.tu :: (h.ks.take j).filter (fun k => decide (k ≠ 0)))) := hf
            clear hf hx hxb hj4
            by_cases x0 : x = 0
            · have xb : (x != 0) = false := by simpa using x0
              have HE : Hid (f = intsB (h.tu :: (h.ks.take (j + 1)).filter (fun k => decide (k ≠ 0)))) := by rw [Hid, HT.out, told_skip x0]; exact HF.out
              clear x0 cd
              go_wp2
              go_roundw
              case rel => exact ⟨j + 1, by omega, by go_num, by rw [← HE.out], HR⟩
              case measure => simp [intOf]; omega
            · have xb : (x != 0) = true := by simpa using x0
              obtain ⟨d, hd⟩ : ∃ d, d = decI x := ⟨_, rfl⟩
              have HE : Hid (f ++ [32] ++ d = intsB (h.tu :: (h.ks.take (j + 1)).filter (fun k => decide (k ≠ 0)))) := by rw [Hid, HT.out, told_add x0, HF.out, hd]
              simp only [← hd] at cd
              rw [← hd] at hdl
              unfold S at cd
              have ha := app' f [32]
              have ha2 := app' (f ++ [32]) d
              have hz1 : (⟨f.toArray⟩ : ByteArray).size = f.length := rfl
              have hz2 : (⟨(f ++ [32]).toArray⟩ : ByteArray).size = f.length + 1 := by rw [bsize']; simp
              have hz3 : (⟨d.toArray⟩ : ByteArray).size = d.length := rfl
              clear x0 hd HF HT
              go_wp2_with fail
              refine (cd _).mono ?_
              rintro e w7 ⟨rfl, b7⟩
              replace HR := HR.out.next b7
              replace HR : Hid _ := HR
              clear b7 cd kq kz
              go_wp2
              go_roundw
              case rel => exact ⟨j + 1, by omega, by go_num, by rw [← HE.out]; simp, HR⟩
              case measure => simp [intOf]; omega
          · have HF : Hid (intsB (h.tu :: (h.ks.take j).filter (fun k => decide (k ≠ 0))) = kT) := by
              rw [Hid, List.take_of_length_le (by omega), H_kn.out]; rfl
            rw [HF.out]
            have HS : Hid (FL w wr [(a13.heap.size, u_y2, h), (a1.heap.size, (.slice (some ⟨bh, oh, none⟩) 4 ch), h)]) := HR
            unfold HV hdA at lk_h
            clear HR HF H_kn HKB
            have p_y2_0 : wr.cell? ⟨a13.heap.size, 0, none⟩ = some (u_y2) := HS.out.cell 0 rfl 0 rfl
            have p_y2_1 : wr.cell? ⟨a13.heap.size, 1, none⟩ = some (.int .i64 h.kd) := HS.out.cell 0 rfl 1 rfl
            have p_y2_2 : wr.cell? ⟨a13.heap.size, 2, none⟩ = some (.int .i64 h.ho) := HS.out.cell 0 rfl 2 rfl
            have p_y2_3 : wr.cell? ⟨a13.heap.size, 3, none⟩ = some (.int .i64 h.tu) := HS.out.cell 0 rfl 3 rfl
            have p_h_0 : wr.cell? ⟨a1.heap.size, 0, none⟩ = some ((.slice (some ⟨bh, oh, none⟩) 4 ch)) := HS.out.cell 1 rfl 0 rfl
            have p_h_1 : wr.cell? ⟨a1.heap.size, 1, none⟩ = some (.int .i64 h.kd) := HS.out.cell 1 rfl 1 rfl
            have p_h_2 : wr.cell? ⟨a1.heap.size, 2, none⟩ = some (.int .i64 h.ho) := HS.out.cell 1 rfl 2 rfl
            have p_h_3 : wr.cell? ⟨a1.heap.size, 3, none⟩ = some (.int .i64 h.tu) := HS.out.cell 1 rfl 3 rfl
            go_wp2_with fail
            refine (lk_h _ _ _ (HS.out.rd 0 rfl) (HS.out.rd 1 rfl)).mono ?_
            rintro e a16 ⟨rfl, bb15⟩
            replace HS : Hid (FL w a16 [(a13.heap.size, u_y2, h), (a1.heap.size, (.slice (some ⟨bh, oh, none⟩) 4 ch), h)]) := HS.out.next bb15
            clear bb15 p_y2_0 p_y2_1 p_y2_2 p_y2_3 p_h_0 p_h_1 p_h_2 p_h_3
            have p_h_0 : a16.cell? ⟨a1.heap.size, 0, none⟩ = some ((.slice (some ⟨bh, oh, none⟩) 4 ch)) := HS.out.cell 1 rfl 0 rfl
            have p_h_1 : a16.cell? ⟨a1.heap.size, 1, none⟩ = some (.int .i64 h.kd) := HS.out.cell 1 rfl 1 rfl
            have p_h_2 : a16.cell? ⟨a1.heap.size, 2, none⟩ = some (.int .i64 h.ho) := HS.out.cell 1 rfl 2 rfl
            have p_h_3 : a16.cell? ⟨a1.heap.size, 3, none⟩ = some (.int .i64 h.tu) := HS.out.cell 1 rfl 3 rfl
            go_wp2_with fail
            refine (cik _ _ (HS.out.rd 1 rfl) (HP.out.below HS.out.1)).mono ?_
            rintro e a17 ⟨rfl, bb16⟩
            replace HS : Hid (FL w a17 [(a13.heap.size, u_y2, h), (a1.heap.size, (.slice (some ⟨bh, oh, none⟩) 4 ch), h)]) := HS.out.next bb16
            clear bb16 p_h_0 p_h_1 p_h_2 p_h_3
            have HB : Hid (Below w.heap.size w _) := HS.out.1
            clear HS
            go_wp2
            go_ret
            exact ⟨rfl, HB.out⟩

set_option maxRecDepth 100000 in
theorem lifted (os : Os) (started : os.Started) (H : Type) (enc : TypeId × Value → H) :
    ReturnsInHanded {} Tryz.checked os 3 .any (fun w args => (Rows.fnReportsSpec.pre enc Tryz.prog Tryz.f3 [] false w args ∧ laidMetH Tryz.prog Rows.fnReportsRow.laid w) ∧ sizedMet enc Tryz.prog Tryz.f3 (OpenSpec.ofChange Rows.fnReportsSpec) false w args) (Rows.fnReportsSpec.post enc Tryz.prog Tryz.f3 false true false false) := by
  refine returnsInHanded_of_change_and (C := Tryz.checked) (X := fun w _ => laidMetH Tryz.prog Rows.fnReportsRow.laid w) (fun _ _ _ hh h => h.of_heap hh) own started (by kernel_rfl) Tryz.func3
    (ChangeSpec.witness_shaped (enc := enc) (C := Tryz.checked) (os := os) (X := fun w _ => laidMetH Tryz.prog Rows.fnReportsRow.laid w) false (World.laidAll Tryz.prog os Rows.fnReportsRow.laid) #[.slice none 0 0] 8 (World.laidAll_os _ _ _) (World.shaped_of_ZipB (by kernel_rfl) (by kernel_rfl)) (by kernel_rfl) (by kernel_rfl) (by kernel_rfl) (by rw [MakeChecks.laidMetH_plain _ _ _ (by kernel_rfl)]; exact laidMet_laidAll _ (by kernel_rfl) (by kernel_rfl))) ?_
  intro W base args ds gs before hval0 hW hcnd _ hL _
  have hval : ∀ (j : Nat) t v, Tryz.f3.params[j]? = some t → args[j]? = some v → Value.okWide Tryz.prog W .any base t v := hval0
  have hW' := hW
  obtain ⟨p, q, hA0, hV, rfl, hfz, hnd⟩ := hW
  have hA : DataW.TrodAll enc Tryz.prog W 0 (fun _ => true) true Tryz.f3.params.toList args.toList ds p := hA0
  rw [Tryz.params3] at hA hval
  obtain ⟨v0, vs0, d0, ds0, p0, q0, hargs, rfl, rfl, h0, r0⟩ := trodAll_cons hA
  obtain ⟨rfl, rfl, rfl⟩ := trodAll_nil r0
  obtain rfl : args = #[v0] := by cases args; simp_all
  obtain ⟨rfl, rfl⟩ := trodVars_none hV
  obtain ⟨a0, len0, cap0, rfl⟩ := okWide_slice Tryz.underlying22 (hval 0 22 v0 rfl rfl)
  have k0 := h0
  have lt0 : ∀ x ∈ p0, x.block < W.heap.size := by obtain ⟨m, hm⟩ := k0; exact DataW.trod_lt m _ _ _ hm
  obtain ⟨z0, w0⟩ : ∃ zs, IsRow .u8 W a0 len0 cap0 zs := by
    obtain ⟨fuel, hf⟩ := h0
    rcases open_ints Tryz.underlying22 Tryz.underlying5 (by kernel_rfl) hf with ⟨hcs, _⟩ | ⟨x, l, c, zs, hcs, _, hl, hm, hz, _, hcell, hwz⟩
    · simp [Value.cells] at hcs
      obtain ⟨rfl, rfl, rfl⟩ := hcs
      exact ⟨[], .inl ⟨rfl, rfl, rfl, rfl⟩⟩
    · simp [Value.cells] at hcs
      obtain ⟨rfl, rfl, rfl⟩ := hcs
      exact ⟨zs, .inr ⟨_, rfl, hl, hm, by simpa using hz, hcell, hwz⟩⟩
  clear hA0 hval0
  refine (walk a0 len0 cap0 z0 W w0 (tab_fnReports hL)).mono fun e W' ⟨he, bel⟩ => ?_
  subst he
  exact ⟨_, rfl, _, _, _, [], _, [], hW', trodAll_mk1 (shut_bool Tryz.underlying4 _), (trodAll_cons_mk (Below.trod laidOut (by kernel_rfl) (of_decide_eq_true (by kernel_rfl)) k0 bel lt0) trodAll_mk0), rfl, bel.frame _, fun h => by cases h⟩

theorem over : Rows.fnReportsRow.holds Tryz.pinned (OpenSpec.ofChange Rows.fnReportsSpec) :=
  OpenClaim.holds_of_wide 3 Tryz.f3 rfl rfl rfl rfl rfl rfl rfl ⟨rfl, rfl, rfl, rfl, rfl⟩ rfl rfl rfl rfl rfl (by kernel_rfl) Tryz.func3 (by kernel_rfl)
    (of_decide_eq_true (by kernel_rfl)) (by unfold Func.isWrapper; first | (rw [if_pos (by decide +kernel)]; kernel_rfl) | (rw [if_neg (by decide +kernel)]; exact ⟨rfl, rfl⟩))
    (fun os started H enc _ => lifted os started H enc)

theorem proved : Rows.FnReportsSaid := over
end Go.Proofs.YtifffiekibdgnaaGreatDoor.fnReports
namespace Go.Proofs.YtifffiekibdgnaaGreatDoor
open Go in
theorem fnReports_holds : Rows.FnReportsCardSaid :=
  Claim7.holds_tied_plain_at .later [] [.data, .data, .data, .data, .sentinel, .sentinel, .pinned] true (true, "ab001aa8e311f7f2ef069092d9960153e936dd84d1dcdf999920c367b0c0ac41") true
    fnReports.proved (fun _ h => by cases h) (by kernel_rfl) (fun _ h => by cases h) fnReports_row_tie rfl ⟨rfl, rfl⟩ (by kernel_rfl) rfl
    (fun f fn hf hfn => by
      obtain rfl : f = 3 := Option.some.inj ((show Tryz.prog.funcNamed Rows.fnReportsRow.func = some 3 by kernel_rfl).symm.trans hf) |>.symm
      obtain rfl : fn = Tryz.f3 := (Option.some.inj (Tryz.func3.symm.trans hfn)).symm
      exact ⟨by kernel_rfl, fun j t ht => by
        rw [Tryz.params3] at ht
        have hm : t ∈ [22] := by simpa using Array.mem_of_getElem? ht
        have hall : ([22].all fun u => !Tryz.prog.wantsStandIn u) = true := by kernel_rfl
        exact (show Tryz.prog.wantsStandIn t = false by simpa using List.all_eq_true.1 hall t hm)⟩)
    (by kernel_rfl)
end Go.Proofs.YtifffiekibdgnaaGreatDoor
