/- The program's store, on: freshStore, NewStore, Power. -/
import Derived.Test.YtpdggofaobmnlaaIStoA
import Derived.Test.YtpdggofaobmnlaaM30
import Derived.Test.YtpdggofaobmnlaaM31
import Derived.Test.YtpdggofaobmnlaaM17
import Derived.Test.YtpdggofaobmnlaaSStore8
import Derived.Test.YtpdggofaobmnlaaIStoB
namespace Go.Proofs.Ytpdggofaobmnlaa
open Go.ChangeShapes Go.WideShapes Go.ChangeAt Go.RowKit

set_option maxRecDepth 20000 in
set_option maxHeartbeats 2000000 in
theorem inewStore_any (n : Int) (w : World) :
    Calls Try.prog 26 #[.int .i64 n] w fun e w' => ∃ a b k, e = .returned (.tuple #[SRV a b k (newS n).h, .bool (cntOk n)]) ∧ OwnR w' w.heap.size a b k (newS n).xs (newS n).ys (newS n).h.ks ∧ Below w.heap.size w w' := by
  obtain ⟨w1, hw1⟩ : ∃ w1, w1 = w.alloc (.cells #[.slice none 0 0, .slice none 0 0, .slice none 0 0, .int .i64 0, .int .i64 0, .int .i64 0] 30) := ⟨_, rfl⟩
  have S1 : Hid (StB w1 w.heap.size 30 zeR ∧ Below w.heap.size w w1 ∧ w.heap.size + 1 ≤ w1.heap.size) := ⟨by rw [hw1]; exact StB.new _ _ _, by rw [hw1]; exact (Below.refl _ _).alloc (Nat.le_refl _) _, by rw [hw1]; simp⟩
  have c1 := newDisk_any n w1
  cases hn : cntOk n with
  | false =>
    rw [hn] at c1
    rw [newS_no hn]
    clear hn
    go_enter Try.func26, Try.ntmps26
    go_upto_region 1 with fail
    rw [← hw1]
    clear hw1
    go_wp2_with fail
    refine c1.mono ?_
    rintro e w2 ⟨a, b, rfl, o2, b2⟩
    obtain ⟨ao, ac, rfl⟩ := o2.1.reads.form
    obtain ⟨bo, bc, rfl⟩ := o2.2.1.reads.form
    obtain ⟨w3, hw3⟩ : ∃ w3, w3 = w2.alloc (.cells #[.slice ao (zerosI n).length ac, .slice bo (zerosI n).length bc] 26) := ⟨_, rfl⟩
    have b3 : Below w2.heap.size w2 w3 := by rw [hw3]; exact (Below.refl _ _).alloc (Nat.le_refl _) _
    have S3 : Hid (StB w3 w.heap.size 30 zeR ∧ Below w.heap.size w w3) := ⟨(S1.out.1.below b2).below b3, (S1.out.2.1.trans (b2.mono S1.out.2.1.size)).trans (b3.mono (Nat.le_trans S1.out.2.1.size b2.size))⟩
    clear S1 b2 b3 o2 c1
    go_upto_region 2 with fail
    rw [← hw3]
    clear hw3
    go_wp2_with (refine wpList_putS Try.isR rfl _ _ rfl w.heap.size zeR zeR rfl rfl rfl rfl (srA_one Hd.zero rfl rfl rfl) S3.out.1 ?_; intro w5 s5 g5)
    refine bodyPost_ret (results_S2 Try.isR rfl _ _ w.heap.size _ _ rfl rfl rfl s5) rfl ?_
    exact ⟨_, _, _, rfl, OwnR.nil _ _, S3.out.2.grown g5 S3.out.2.size (fun k e => by cases e; omega)⟩
  | true =>
    rw [hn] at c1
    rw [newS_yes hn]
    clear hn
    have HN := fun wx => inewH_any wx
    have CN : Hid (∀ wx, Calls Try.prog 57 #[] wx fun e w' => ∃ u, e = .returned (HV u Hd.new) ∧ Own w' wx.heap.size u Hd.new.ks ∧ Below wx.heap.size wx w') := HN
    clear HN
    unfold HV hdA at CN
    go_enter Try.func26, Try.ntmps26
    go_upto_region 1 with fail
    rw [← hw1]
    clear hw1
    go_wp2_with fail
    refine c1.mono ?_
    rintro e w2 ⟨a, b, rfl, o2, b2⟩
    obtain ⟨ao, ac, rfl⟩ := o2.1.reads.form
    obtain ⟨bo, bc, rfl⟩ := o2.2.1.reads.form
    obtain ⟨w3, hw3⟩ : ∃ w3, w3 = w2.alloc (.cells #[.slice ao (zerosI n).length ac, .slice bo (zerosI n).length bc] 26) := ⟨_, rfl⟩
    have b3 : Below w2.heap.size w2 w3 := by rw [hw3]; exact (Below.refl _ _).alloc (Nat.le_refl _) _
    have S3 : Hid (StB w3 w.heap.size 30 zeR ∧ Below w.heap.size w w3 ∧ StB w3 w2.heap.size 26 #[.slice ao (zerosI n).length ac, .slice bo (zerosI n).length bc] ∧ OwnD w3 (w.heap.size + 1) (.slice ao (zerosI n).length ac) (.slice bo (zerosI n).length bc) (zerosI n) (zerosI n) ∧ w.heap.size + 1 ≤ w2.heap.size ∧ w2.heap.size ≤ w3.heap.size) :=
      ⟨(S1.out.1.below b2).below b3, (S1.out.2.1.trans (b2.mono S1.out.2.1.size)).trans (b3.mono (Nat.le_trans S1.out.2.1.size b2.size)), by rw [hw3]; exact StB.new _ _ _, ⟨(o2.1.mono S1.out.2.2).below b3, (o2.2.1.mono S1.out.2.2).below b3, o2.2.2⟩, Nat.le_trans S1.out.2.2 b2.size, b3.size⟩
    clear S1 b2 b3 o2 c1
    go_upto_region 2 with fail
    rw [← hw3]
    clear hw3
    go_upto_region 4 with fail
    obtain ⟨g, hg⟩ : ∃ g, g = w2.heap.size := ⟨_, rfl⟩
    rw [← hg] at S3 ⊢
    clear hg
    have q0 : ∀ w', Sp w.heap.size w3 w' → w'.cell? ⟨g, 0, none⟩ = some (.slice ao (zerosI n).length ac) := fun w' b => b _ _ (by have := S3.out.2.2.2.2.1; dsimp only; omega) (S3.out.2.2.1.cell 0 rfl)
    have q1 : ∀ w', Sp w.heap.size w3 w' → w'.cell? ⟨g, 1, none⟩ = some (.slice bo (zerosI n).length bc) := fun w' b => b _ _ (by have := S3.out.2.2.2.2.1; dsimp only; omega) (S3.out.2.2.1.cell 1 rfl)
    go_region_held3 (fun w' => Sp w.heap.size w3 w') ((repeat' (first | with_reducible assumption | with_reducible exact Sp.refl _ _ | with_reducible refine Sp.al ?_ | with_reducible refine Sp.dr ?_ | with_reducible refine Sp.set ?_ | with_reducible refine Sp.put ?_ (by with_reducible assumption) | with_reducible refine Sp.bel ?_ (by with_reducible assumption))))
      (first
        | (go_at_call 57; refine (CN.out _).mono ?_; rintro e w4 ⟨z, rfl, o4, b4⟩; have hap : Hid (apart (.slice ao (zerosI n).length ac) z ∧ apart (.slice bo (zerosI n).length bc) z) := ⟨apart_of S3.out.2.2.2.1.1 o4 (bl_size (by repeat' (first | with_reducible assumption | with_reducible exact Below.refl _ _ | with_reducible refine bel_alloc ?_ | with_reducible refine bel_drew ?_ | with_reducible refine bel_trans ?_ (by with_reducible assumption)))), apart_of S3.out.2.2.2.1.2.1 o4 (bl_size (by repeat' (first | with_reducible assumption | with_reducible exact Below.refl _ _ | with_reducible refine bel_alloc ?_ | with_reducible refine bel_drew ?_ | with_reducible refine bel_trans ?_ (by with_reducible assumption))))⟩; obtain ⟨ko, kc, rfl⟩ := o4.reads.form; have B4 : Hid (Below w3.heap.size w3 w4) := (show Below w3.heap.size w3 w4 from (by repeat' (first | with_reducible assumption | with_reducible exact Below.refl _ _ | with_reducible refine bel_alloc ?_ | with_reducible refine bel_drew ?_ | with_reducible refine bel_trans ?_ (by with_reducible assumption)))); have O4 : Hid (OwnR w4 (w.heap.size + 1) (.slice ao (zerosI n).length ac) (.slice bo (zerosI n).length bc) (.slice ko Hd.new.ks.length kc) (zerosI n) (zerosI n) Hd.new.ks) := ⟨⟨S3.out.2.2.2.1.1.below B4.out, S3.out.2.2.2.1.2.1.below B4.out, S3.out.2.2.2.1.2.2⟩, o4.mono (Nat.le_trans S3.out.2.2.2.2.1 (Nat.le_trans S3.out.2.2.2.2.2 (bl_size (by repeat' (first | with_reducible assumption | with_reducible exact Below.refl _ _ | with_reducible refine bel_alloc ?_ | with_reducible refine bel_drew ?_ | with_reducible refine bel_trans ?_ (by with_reducible assumption)))))), hap.out⟩; have R4 := S3.out.1.below B4.out; have r0 : w4.cell? ⟨w.heap.size, 0, none⟩ = some (.slice none 0 0) := R4.cell 0 rfl; have f0 := R4.frozen 0; have r1 : w4.cell? ⟨w.heap.size, 1, none⟩ = some (.slice none 0 0) := R4.cell 1 rfl; have f1 := R4.frozen 1; have r2 : w4.cell? ⟨w.heap.size, 2, none⟩ = some (.slice none 0 0) := R4.cell 2 rfl; have f2 := R4.frozen 2; have r3 : w4.cell? ⟨w.heap.size, 3, none⟩ = some (.int .i64 0) := R4.cell 3 rfl; have f3 := R4.frozen 3; have r4 : w4.cell? ⟨w.heap.size, 4, none⟩ = some (.int .i64 0) := R4.cell 4 rfl; have f4 := R4.frozen 4; have r5 : w4.cell? ⟨w.heap.size, 5, none⟩ = some (.int .i64 0) := R4.cell 5 rfl; have f5 := R4.frozen 5; clear o4))
    all_goals
      go_wp2
      have R4 : StB w4 w.heap.size 30 zeR := S3.out.1.below B4.out
      have G6 := put6_grown w4 w.heap.size (.slice ao (zerosI n).length ac) (.slice bo (zerosI n).length bc) (.slice ko Hd.new.ks.length kc) Hd.new
      refine bodyPost_ret (results_S2 Try.isR rfl _ _ w.heap.size (srA (.slice ao (zerosI n).length ac) (.slice bo (zerosI n).length bc) (.slice ko Hd.new.ks.length kc) Hd.new) _ rfl rfl rfl (put6_st (.slice ao (zerosI n).length ac) (.slice bo (zerosI n).length bc) (.slice ko Hd.new.ks.length kc) Hd.new R4)) rfl ?_
      have B5 := S3.out.2.1.trans (B4.out.mono S3.out.2.1.size)
      exact ⟨_, _, _, rfl, (O4.out.keptLt G6 (by omega)).mono (by omega), B5.grown G6 B5.size (fun k e => by cases e; omega)⟩

set_option maxRecDepth 20000 in
set_option maxHeartbeats 2000000 in
theorem ipower_any (u v q : Value) (xs ys : List Int) (h : Hd) (set : Int) (w : World) (hu : Reads w u xs) (hv : Reads w v ys) (hq : Reads w q h.ks) (gx : xs.length ≤ 1099511627776) (gy : ys.length ≤ 1099511627776) (gk : h.ks.length ≤ 1099511627776) :
    Calls Try.prog 10 #[SRV u v q h, .int .i64 set] w fun e w' => ∃ a b k, e = .returned (SRV a b k (Sr.power ⟨xs, ys, h⟩ set).h) ∧ OwnR w' w.heap.size a b k (Sr.power ⟨xs, ys, h⟩ set).xs (Sr.power ⟨xs, ys, h⟩ set).ys (Sr.power ⟨xs, ys, h⟩ set).h.ks ∧ Below w.heap.size w w' := by
  obtain ⟨w1, hw1⟩ : ∃ w1, w1 = (w.alloc (.cells (srA u v q h) 30)).alloc (.cells zeR 30) := ⟨_, rfl⟩
  have b1 : Below w.heap.size w w1 := by rw [hw1]; exact ((Below.refl _ _).alloc (Nat.le_refl _) _).alloc (by simp) _
  have S1 : Hid (StB w1 w.heap.size 30 (srA u v q h) ∧ StB w1 (w.heap.size + 1) 30 zeR ∧ Below w.heap.size w w1 ∧ w.heap.size + 2 ≤ w1.heap.size) := by
    have a2 := StB.new (w.alloc (.cells (srA u v q h) 30)) 30 zeR
    simp only [World.size_alloc] at a2
    exact ⟨by rw [hw1]; exact (StB.new w _ _).alloc _, by rw [hw1]; exact a2, b1, by rw [hw1]; simp⟩
  have c1 := istoreok_any u v q xs ys h w1 (hu.below b1 (Nat.le_refl _)) (hv.below b1 (Nat.le_refl _)) (hq.below b1 (Nat.le_refl _)) gx gy gk
  have HRD : Hid (Reads w u xs ∧ Reads w v ys ∧ Reads w q h.ks) := ⟨hu, hv, hq⟩
  obtain ⟨uo, uc, rfl⟩ := reads_form hu
  obtain ⟨vo, vc, rfl⟩ := reads_form hv
  obtain ⟨qo, qc, rfl⟩ := reads_form hq
  clear b1 hu hv hq
  cases hok : Sr.ok ⟨xs, ys, h⟩ with
  | false =>
    have HR : Sr.power ⟨xs, ys, h⟩ set = Sr.zero := by unfold Sr.power; rw [hok]; rfl
    rw [hok] at c1
    rw [HR]
    clear HR hok HRD gx gy gk
    unfold SRV
    unfold SRV at c1
    conv in srA (.slice uo xs.length uc) (.slice vo ys.length vc) (.slice qo h.ks.length qc) _ => unfold srA
    unfold srA zeR at hw1
    go_enter Try.func10, Try.ntmps10
    go_upto_region 1 with fail
    rw [← hw1]
    clear hw1
    go_wp2_with (refine wpList_getS Try.isR rfl _ rfl w.heap.size rfl _ rfl S1.out.1 ?_)
    refine c1.mono ?_
    rintro e w2 ⟨rfl, b2⟩
    have S2 : Hid (StB w2 (w.heap.size + 1) 30 zeR ∧ Below w.heap.size w w2) := ⟨S1.out.2.1.below b2, S1.out.2.2.1.trans (b2.mono S1.out.2.2.1.size)⟩
    clear S1 b2 c1
    go_wp2_with (refine wpList_putS Try.isR rfl _ _ rfl (w.heap.size + 1) zeR zeR rfl rfl rfl rfl (srA_one Hd.zero rfl rfl rfl) S2.out.1 ?_; intro w5 s5 g5)
    refine bodyPost_ret (results_S Try.isR rfl _ _ (w.heap.size + 1) _ rfl rfl s5) rfl ?_
    exact ⟨_, _, _, rfl, OwnR.nil _ _, S2.out.2.grown g5 S2.out.2.size (fun k e => by cases e; omega)⟩
  | true =>
    have HB : bothOk xs ys = true ∧ h.ok = true := by
      have e : (bothOk xs ys && h.ok) = true := hok
      exact Bool.and_eq_true_iff.1 e
    have hk1 : 1 ≤ h.ks.length := by have := (Hd.ok_all HB.2).1; omega
    have HR : Sr.power ⟨xs, ys, h⟩ set = ⟨loK xs ys set, loN xs ys set, h⟩ := by
      unfold Sr.power loK loN
      rw [hok]
      simp only [HB.1, if_true]
      cases setOk set <;> rfl
    rw [hok] at c1
    rw [HR]
    have C1' := fun (wx : World) (e : Below w.heap.size w wx) => lost_any (.slice uo xs.length uc) (.slice vo ys.length vc) xs ys set wx (HRD.out.1.below e (Nat.le_refl _)) (HRD.out.2.1.below e (Nat.le_refl _)) gx gy
    have C2' := fun (wx : World) (e : Below w.heap.size w wx) => ifreshH_any (.slice qo h.ks.length qc) h wx (HRD.out.2.2.below e (Nat.le_refl _)) hk1 gk
    obtain ⟨xk, hxk⟩ : ∃ xk, xk = loK xs ys set := ⟨_, rfl⟩
    obtain ⟨yk, hyk⟩ : ∃ yk, yk = loN xs ys set := ⟨_, rfl⟩
    rw [← hxk, ← hyk] at C1' ⊢
    dsimp only
    have CL : Hid (∀ wx, Below w.heap.size w wx → Calls Try.prog 32 #[.agg #[.slice uo xs.length uc, .slice vo ys.length vc], .int .i64 set] wx fun e w' => ∃ a b, e = .returned (.agg #[a, b]) ∧ OwnD w' wx.heap.size a b xk yk ∧ Below wx.heap.size wx w') := C1'
    have CH : Hid (∀ wx, Below w.heap.size w wx → Calls Try.prog 33 #[HV (.slice qo h.ks.length qc) h] wx fun e w' => ∃ u, e = .returned (HV u h) ∧ Own w' wx.heap.size u h.ks ∧ Below wx.heap.size wx w') := C2'
    clear HR hok HRD gx gy gk HB hk1 C1' C2' hxk hyk
    unfold SRV
    unfold SRV at c1
    conv in srA (.slice uo xs.length uc) (.slice vo ys.length vc) (.slice qo h.ks.length qc) _ => unfold srA
    unfold srA zeR at hw1
    go_enter Try.func10, Try.ntmps10
    go_upto_region 1 with fail
    rw [← hw1]
    clear hw1
    go_wp2_with (refine wpList_getS Try.isR rfl _ rfl w.heap.size rfl _ rfl S1.out.1 ?_)
    refine c1.mono ?_
    rintro e w2 ⟨rfl, b2⟩
    have S2 : Hid (StB w2 w.heap.size 30 (srA (.slice uo xs.length uc) (.slice vo ys.length vc) (.slice qo h.ks.length qc) h) ∧ StB w2 (w.heap.size + 1) 30 zeR ∧ Below w.heap.size w w2 ∧ w.heap.size + 2 ≤ w2.heap.size) := ⟨S1.out.1.below b2, S1.out.2.1.below b2, S1.out.2.2.1.trans (b2.mono S1.out.2.2.1.size), Nat.le_trans S1.out.2.2.2 b2.size⟩
    clear S1 b2 c1
    have C1 : Hid (∀ wx, Below w2.heap.size w2 wx → Calls Try.prog 32 #[.agg #[.slice uo xs.length uc, .slice vo ys.length vc], .int .i64 set] wx fun e w' => ∃ a b, e = .returned (.agg #[a, b]) ∧ OwnD w' wx.heap.size a b xk yk ∧ Below wx.heap.size wx w') := fun wx e => CL.out wx (S2.out.2.2.1.trans (e.mono S2.out.2.2.1.size))
    have C2 : Hid (∀ wx, Below w2.heap.size w2 wx → Calls Try.prog 33 #[HV (.slice qo h.ks.length qc) h] wx fun e w' => ∃ u, e = .returned (HV u h) ∧ Own w' wx.heap.size u h.ks ∧ Below wx.heap.size wx w') := fun wx e => CH.out wx (S2.out.2.2.1.trans (e.mono S2.out.2.2.1.size))
    clear CL CH
    unfold HV hdA at C2
    have q0 : ∀ w', Sp (w.heap.size + 1) w2 w' → w'.cell? ⟨w.heap.size, 0, none⟩ = some (.slice uo xs.length uc) := fun w' b => b _ _ (by simp) (S2.out.1.cell 0 rfl)
    have q1 : ∀ w', Sp (w.heap.size + 1) w2 w' → w'.cell? ⟨w.heap.size, 1, none⟩ = some (.slice vo ys.length vc) := fun w' b => b _ _ (by simp) (S2.out.1.cell 1 rfl)
    have q2 : ∀ w', Sp (w.heap.size + 1) w2 w' → w'.cell? ⟨w.heap.size, 2, none⟩ = some (.slice qo h.ks.length qc) := fun w' b => b _ _ (by simp) (S2.out.1.cell 2 rfl)
    have q3 : ∀ w', Sp (w.heap.size + 1) w2 w' → w'.cell? ⟨w.heap.size, 3, none⟩ = some (.int .i64 h.kd) := fun w' b => b _ _ (by simp) (S2.out.1.cell 3 rfl)
    have q4 : ∀ w', Sp (w.heap.size + 1) w2 w' → w'.cell? ⟨w.heap.size, 4, none⟩ = some (.int .i64 h.ho) := fun w' b => b _ _ (by simp) (S2.out.1.cell 4 rfl)
    have q5 : ∀ w', Sp (w.heap.size + 1) w2 w' → w'.cell? ⟨w.heap.size, 5, none⟩ = some (.int .i64 h.tu) := fun w' b => b _ _ (by simp) (S2.out.1.cell 5 rfl)
    go_upto_region 3 with fail
    go_region_held3 (fun w' => Sp (w.heap.size + 1) w2 w') ((repeat' (first | with_reducible assumption | with_reducible exact Sp.refl _ _ | with_reducible refine Sp.al ?_ | with_reducible refine Sp.dr ?_ | with_reducible refine Sp.set ?_ | with_reducible refine Sp.put ?_ (by with_reducible assumption) | with_reducible refine Sp.bel ?_ (by with_reducible assumption))))
      (first
        | (go_at_call 32; refine (C1.out _ (by repeat' (first | with_reducible assumption | with_reducible exact Below.refl _ _ | with_reducible refine bel_alloc ?_ | with_reducible refine bel_drew ?_ | with_reducible refine bel_trans ?_ (by with_reducible assumption)))).mono ?_; rintro e w3 ⟨a, b, rfl, o3, b3⟩; obtain ⟨ao, ac, rfl⟩ := o3.1.reads.form; obtain ⟨bo, bc, rfl⟩ := o3.2.1.reads.form; have O3 : Hid (OwnD w3 _ (.slice ao xk.length ac) (.slice bo yk.length bc) xk yk) := o3; clear o3)
        | (go_at_call 33; refine (C2.out _ (by repeat' (first | with_reducible assumption | with_reducible exact Below.refl _ _ | with_reducible refine bel_alloc ?_ | with_reducible refine bel_drew ?_ | with_reducible refine bel_trans ?_ (by with_reducible assumption)))).mono ?_; rintro e w4 ⟨z, rfl, o4, b4⟩; have hap : Hid (apart (.slice ao xk.length ac) z ∧ apart (.slice bo yk.length bc) z) := ⟨apart_of O3.out.1 o4 (bl_size (by repeat' (first | with_reducible assumption | with_reducible exact Below.refl _ _ | with_reducible refine bel_alloc ?_ | with_reducible refine bel_drew ?_ | with_reducible refine bel_trans ?_ (by with_reducible assumption)))), apart_of O3.out.2.1 o4 (bl_size (by repeat' (first | with_reducible assumption | with_reducible exact Below.refl _ _ | with_reducible refine bel_alloc ?_ | with_reducible refine bel_drew ?_ | with_reducible refine bel_trans ?_ (by with_reducible assumption))))⟩; obtain ⟨zo, zc, rfl⟩ := o4.reads.form; have B4 : Hid (Below w2.heap.size w2 w4) := (show Below w2.heap.size w2 w4 from (by repeat' (first | with_reducible assumption | with_reducible exact Below.refl _ _ | with_reducible refine bel_alloc ?_ | with_reducible refine bel_drew ?_ | with_reducible refine bel_trans ?_ (by with_reducible assumption)))); have O4 : Hid (OwnR w4 (w.heap.size + 2) (.slice ao xk.length ac) (.slice bo yk.length bc) (.slice zo h.ks.length zc) xk yk h.ks) := ⟨⟨(O3.out.1.mono (Nat.le_trans S2.out.2.2.2 (bl_size (by repeat' (first | with_reducible assumption | with_reducible exact Below.refl _ _ | with_reducible refine bel_alloc ?_ | with_reducible refine bel_drew ?_ | with_reducible refine bel_trans ?_ (by with_reducible assumption)))))).below (by repeat' (first | with_reducible assumption | with_reducible exact Below.refl _ _ | with_reducible refine bel_alloc ?_ | with_reducible refine bel_drew ?_ | with_reducible refine bel_trans ?_ (by with_reducible assumption))), (O3.out.2.1.mono (Nat.le_trans S2.out.2.2.2 (bl_size (by repeat' (first | with_reducible assumption | with_reducible exact Below.refl _ _ | with_reducible refine bel_alloc ?_ | with_reducible refine bel_drew ?_ | with_reducible refine bel_trans ?_ (by with_reducible assumption)))))).below (by repeat' (first | with_reducible assumption | with_reducible exact Below.refl _ _ | with_reducible refine bel_alloc ?_ | with_reducible refine bel_drew ?_ | with_reducible refine bel_trans ?_ (by with_reducible assumption))), O3.out.2.2⟩, o4.mono (Nat.le_trans S2.out.2.2.2 (bl_size (by repeat' (first | with_reducible assumption | with_reducible exact Below.refl _ _ | with_reducible refine bel_alloc ?_ | with_reducible refine bel_drew ?_ | with_reducible refine bel_trans ?_ (by with_reducible assumption))))), hap.out⟩; have R4 := S2.out.2.1.below B4.out; have r0 : w4.cell? ⟨w.heap.size + 1, 0, none⟩ = some (.slice none 0 0) := R4.cell 0 rfl; have r1 : w4.cell? ⟨w.heap.size + 1, 1, none⟩ = some (.slice none 0 0) := R4.cell 1 rfl; have r2 : w4.cell? ⟨w.heap.size + 1, 2, none⟩ = some (.slice none 0 0) := R4.cell 2 rfl; have r3 : w4.cell? ⟨w.heap.size + 1, 3, none⟩ = some (.int .i64 0) := R4.cell 3 rfl; have r4 : w4.cell? ⟨w.heap.size + 1, 4, none⟩ = some (.int .i64 0) := R4.cell 4 rfl; have r5 : w4.cell? ⟨w.heap.size + 1, 5, none⟩ = some (.int .i64 0) := R4.cell 5 rfl; have f0 := R4.frozen 0; have f1 := R4.frozen 1; have f2 := R4.frozen 2; have f3 := R4.frozen 3; have f4 := R4.frozen 4; have f5 := R4.frozen 5; clear o4))
    all_goals
      go_wp2
      have R4 : StB w4 (w.heap.size + 1) 30 _ := S2.out.2.1.below B4.out
      have G6 := put6_grown w4 (w.heap.size + 1) (.slice ao xk.length ac) (.slice bo yk.length bc) (.slice zo h.ks.length zc) h
      refine bodyPost_ret (results_S Try.isR rfl _ _ (w.heap.size + 1) (srA (.slice ao xk.length ac) (.slice bo yk.length bc) (.slice zo h.ks.length zc) h) rfl rfl (put6_st (.slice ao xk.length ac) (.slice bo yk.length bc) (.slice zo h.ks.length zc) h R4)) rfl ?_
      have B5 := S2.out.2.2.1.trans (B4.out.mono S2.out.2.2.1.size)
      exact ⟨_, _, _, rfl, (O4.out.keptLt G6 (by omega)).mono (by omega), B5.grown G6 B5.size (fun k e => by cases e; omega)⟩
end Go.Proofs.Ytpdggofaobmnlaa
/- The program's store: StoreOk, NewStore, Power, Alike. -/
namespace Go.Proofs.Ytpdggofaobmnlaa
end Go.Proofs.Ytpdggofaobmnlaa
