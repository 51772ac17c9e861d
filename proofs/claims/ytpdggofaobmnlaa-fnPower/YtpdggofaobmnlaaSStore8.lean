/- The model's store, on: NewStore, Power. -/
import Derived.Test.YtpdggofaobmnlaaM17
import Derived.Test.YtpdggofaobmnlaaM24
namespace Go.Proofs.Ytpdggofaobmnlaa
open Go.ChangeShapes Go.WideShapes Go.ChangeAt Go.RowKit

theorem newS_yes {n : Int} (h : cntOk n = true) : newS n = ⟨zerosI n, zerosI n, Hd.new⟩ := by
  have e : (decide (1 ≤ n) && decide (n ≤ 8)) = true := h
  unfold newS
  rw [e, if_pos rfl]
theorem newS_no {n : Int} (h : cntOk n = false) : newS n = Sr.zero := by
  have e : (decide (1 ≤ n) && decide (n ≤ 8)) = false := h
  unfold newS
  rw [e]
  rfl

set_option maxRecDepth 20000 in
set_option maxHeartbeats 2000000 in
theorem snewStore_any (n : Int) (w : World) :
    Calls Try.prog 25 #[.int .i64 n] w fun e w' => ∃ a b k, e = .returned (.tuple #[SRV a b k (newS n).h, .bool (cntOk n)]) ∧ OwnR w' w.heap.size a b k (newS n).xs (newS n).ys (newS n).h.ks ∧ Below w.heap.size w w' := by
  obtain ⟨w1, hw1⟩ : ∃ w1, w1 = w.alloc (.cells #[.slice none 0 0, .slice none 0 0, .slice none 0 0, .int .i64 0, .int .i64 0, .int .i64 0] 30) := ⟨_, rfl⟩
  have S1 : Hid (StB w1 w.heap.size 30 zeR ∧ Below w.heap.size w w1 ∧ w.heap.size + 1 ≤ w1.heap.size) := ⟨by rw [hw1]; exact StB.new _ _ _, by rw [hw1]; exact (Below.refl _ _).alloc (Nat.le_refl _) _, by rw [hw1]; simp⟩
  have c1 := snewDisk_any n w1
  cases hn : cntOk n with
  | false =>
    rw [hn] at c1
    rw [newS_no hn]
    clear hn
    go_enter Try.func25, Try.ntmps25
    go_upto_region 1 with fail
    rw [← hw1]
    clear hw1
    go_wp2_with fail
    refine c1.mono ?_
    rintro e w2 ⟨a, b, rfl, o2, b2⟩
    obtain ⟨ao, ac, rfl⟩ := o2.1.reads.form
    obtain ⟨bo, bc, rfl⟩ := o2.2.1.reads.form
    obtain ⟨w3, hw3⟩ : ∃ w3, w3 = w2.alloc (.cells #[.slice ao (zerosI n).length ac, .slice bo (zerosI n).length bc] 26) := ⟨_, rfl⟩
    have b3 : Below w2.heap.size w2 w3 := by rw [hw3]; exact (Below.refl _ _).alloc (Nat.le_refl _) _
    have S3 : Hid (StB w3 w.heap.size 30 zeR ∧ Below w.heap.size w w3) := ⟨(S1.out.1.below b2).below b3, (S1.out.2.1.trans (b2.mono S1.out.2.1.size)).trans (b3.mono (Nat.le_trans S1.out.2.1.size b2.size))⟩
    clear S1 b2 b3 o2 c1
    go_upto_region 2 with fail
    rw [← hw3]
    clear hw3
    go_wp2_with (refine wpList_putS Try.isR rfl _ _ rfl w.heap.size zeR zeR rfl rfl rfl rfl (srA_one Hd.zero rfl rfl rfl) S3.out.1 ?_; intro w5 s5 g5)
    refine bodyPost_ret (results_S2 Try.isR rfl _ _ w.heap.size _ _ rfl rfl rfl s5) rfl ?_
    exact ⟨_, _, _, rfl, OwnR.nil _ _, S3.out.2.grown g5 S3.out.2.size (fun k e => by cases e; omega)⟩
  | true =>
    rw [hn] at c1
    rw [newS_yes hn]
    clear hn
    have HN := fun wx => snewH_any wx
    have CN : Hid (∀ wx, Calls Try.prog 55 #[] wx fun e w' => ∃ u, e = .returned (HV u Hd.new) ∧ Own w' wx.heap.size u Hd.new.ks ∧ Below wx.heap.size wx w') := HN
    clear HN
    unfold HV hdA at CN
    go_enter Try.func25, Try.ntmps25
    go_upto_region 1 with fail
    rw [← hw1]
    clear hw1
    go_wp2_with fail
    refine c1.mono ?_
    rintro e w2 ⟨a, b, rfl, o2, b2⟩
    obtain ⟨ao, ac, rfl⟩ := o2.1.reads.form
    obtain ⟨bo, bc, rfl⟩ := o2.2.1.reads.form
    obtain ⟨w3, hw3⟩ : ∃ w3, w3 = w2.alloc (.cells #[.slice ao (zerosI n).length ac, .slice bo (zerosI n).length bc] 26) := ⟨_, rfl⟩
    have b3 : Below w2.heap.size w2 w3 := by rw [hw3]; exact (Below.refl _ _).alloc (Nat.le_refl _) _
    have S3 : Hid (StB w3 w.heap.size 30 zeR ∧ Below w.heap.size w w3 ∧ StB w3 w2.heap.size 26 #[.slice ao (zerosI n).length ac, .slice bo (zerosI n).length bc] ∧ OwnD w3 (w.heap.size + 1) (.slice ao (zerosI n).length ac) (.slice bo (zerosI n).length bc) (zerosI n) (zerosI n) ∧ w.heap.size + 1 ≤ w2.heap.size ∧ w2.heap.size ≤ w3.heap.size) :=
      ⟨(S1.out.1.below b2).below b3, (S1.out.2.1.trans (b2.mono S1.out.2.1.size)).trans (b3.mono (Nat.le_trans S1.out.2.1.size b2.size)), by rw [hw3]; exact StB.new _ _ _, ⟨(o2.1.mono S1.out.2.2).below b3, (o2.2.1.mono S1.out.2.2).below b3, o2.2.2⟩, Nat.le_trans S1.out.2.2 b2.size, b3.size⟩
    clear S1 b2 b3 o2 c1
    go_upto_region 2 with fail
    rw [← hw3]
    clear hw3
    go_upto_region 4 with fail
    obtain ⟨g, hg⟩ : ∃ g, g = w2.heap.size := ⟨_, rfl⟩
    rw [← hg] at S3 ⊢
    clear hg
    have q0 : ∀ w', Sp w.heap.size w3 w' → w'.cell? ⟨g, 0, none⟩ = some (.slice ao (zerosI n).length ac) := fun w' b => b _ _ (by have := S3.out.2.2.2.2.1; dsimp only; omega) (S3.out.2.2.1.cell 0 rfl)
    have q1 : ∀ w', Sp w.heap.size w3 w' → w'.cell? ⟨g, 1, none⟩ = some (.slice bo (zerosI n).length bc) := fun w' b => b _ _ (by have := S3.out.2.2.2.2.1; dsimp only; omega) (S3.out.2.2.1.cell 1 rfl)
    go_region_held3 (fun w' => Sp w.heap.size w3 w') ((repeat' (first | with_reducible assumption | with_reducible exact Sp.refl _ _ | with_reducible refine Sp.al ?_ | with_reducible refine Sp.dr ?_ | with_reducible refine Sp.set ?_ | with_reducible refine Sp.put ?_ (by with_reducible assumption) | with_reducible refine Sp.bel ?_ (by with_reducible assumption))))
      (first
        | (go_at_call 55; refine (CN.out _).mono ?_; rintro e w4 ⟨z, rfl, o4, b4⟩; have hap : Hid (apart (.slice ao (zerosI n).length ac) z ∧ apart (.slice bo (zerosI n).length bc) z) := ⟨apart_of S3.out.2.2.2.1.1 o4 (bl_size (by repeat' (first | with_reducible assumption | with_reducible exact Below.refl _ _ | with_reducible refine bel_alloc ?_ | with_reducible refine bel_drew ?_ | with_reducible refine bel_trans ?_ (by with_reducible assumption)))), apart_of S3.out.2.2.2.1.2.1 o4 (bl_size (by repeat' (first | with_reducible assumption | with_reducible exact Below.refl _ _ | with_reducible refine bel_alloc ?_ | with_reducible refine bel_drew ?_ | with_reducible refine bel_trans ?_ (by with_reducible assumption))))⟩; obtain ⟨ko, kc, rfl⟩ := o4.reads.form; have B4 : Hid (Below w3.heap.size w3 w4) := (show Below w3.heap.size w3 w4 from (by repeat' (first | with_reducible assumption | with_reducible exact Below.refl _ _ | with_reducible refine bel_alloc ?_ | with_reducible refine bel_drew ?_ | with_reducible refine bel_trans ?_ (by with_reducible assumption)))); have O4 : Hid (OwnR w4 (w.heap.size + 1) (.slice ao (zerosI n).length ac) (.slice bo (zerosI n).length bc) (.slice ko Hd.new.ks.length kc) (zerosI n) (zerosI n) Hd.new.ks) := ⟨⟨S3.out.2.2.2.1.1.below B4.out, S3.out.2.2.2.1.2.1.below B4.out, S3.out.2.2.2.1.2.2⟩, o4.mono (Nat.le_trans S3.out.2.2.2.2.1 (Nat.le_trans S3.out.2.2.2.2.2 (bl_size (by repeat' (first | with_reducible assumption | with_reducible exact Below.refl _ _ | with_reducible refine bel_alloc ?_ | with_reducible refine bel_drew ?_ | with_reducible refine bel_trans ?_ (by with_reducible assumption)))))), hap.out⟩; have R4 := S3.out.1.below B4.out; have r0 : w4.cell? ⟨w.heap.size, 0, none⟩ = some (.slice none 0 0) := R4.cell 0 rfl; have f0 := R4.frozen 0; have r1 : w4.cell? ⟨w.heap.size, 1, none⟩ = some (.slice none 0 0) := R4.cell 1 rfl; have f1 := R4.frozen 1; have r2 : w4.cell? ⟨w.heap.size, 2, none⟩ = some (.slice none 0 0) := R4.cell 2 rfl; have f2 := R4.frozen 2; have r3 : w4.cell? ⟨w.heap.size, 3, none⟩ = some (.int .i64 0) := R4.cell 3 rfl; have f3 := R4.frozen 3; have r4 : w4.cell? ⟨w.heap.size, 4, none⟩ = some (.int .i64 0) := R4.cell 4 rfl; have f4 := R4.frozen 4; have r5 : w4.cell? ⟨w.heap.size, 5, none⟩ = some (.int .i64 0) := R4.cell 5 rfl; have f5 := R4.frozen 5; clear o4))
    all_goals
      go_wp2
      have R4 : StB w4 w.heap.size 30 zeR := S3.out.1.below B4.out
      have G6 := put6_grown w4 w.heap.size (.slice ao (zerosI n).length ac) (.slice bo (zerosI n).length bc) (.slice ko Hd.new.ks.length kc) Hd.new
      refine bodyPost_ret (results_S2 Try.isR rfl _ _ w.heap.size (srA (.slice ao (zerosI n).length ac) (.slice bo (zerosI n).length bc) (.slice ko Hd.new.ks.length kc) Hd.new) _ rfl rfl rfl (put6_st (.slice ao (zerosI n).length ac) (.slice bo (zerosI n).length bc) (.slice ko Hd.new.ks.length kc) Hd.new R4)) rfl ?_
      have B5 := S3.out.2.1.trans (B4.out.mono S3.out.2.1.size)
      exact ⟨_, _, _, rfl, (O4.out.keptLt G6 (by omega)).mono (by omega), B5.grown G6 B5.size (fun k e => by cases e; omega)⟩

/- The box of a store and the result. -/
structure Dp (w wx : World) (u v q : Value) (h : Hd) : Prop where
  st : StB wx w.heap.size 30 (srA u v q h)
  rs : StB wx (w.heap.size + 1) 30 zeR
  bl : Below w.heap.size w wx
  sz : w.heap.size + 2 ≤ wx.heap.size
theorem Dp.next {w wx wy : World} {u v q : Value} {h : Hd} (d : Dp w wx u v q h) (b : Below wx.heap.size wx wy) : Dp w wy u v q h :=
  ⟨d.st.below b, d.rs.below b, d.bl.trans (b.mono d.bl.size), Nat.le_trans d.sz b.size⟩
theorem Dp.grown {w wx wy : World} {u v q : Value} {h : Hd} {g : Nat} (d : Dp w wx u v q h) (b : wx.grownBy wy (some g)) (hg : w.heap.size + 2 ≤ g) : Dp w wy u v q h :=
  ⟨d.st.kept b (by simp; omega), d.rs.kept b (by simp; omega), d.bl.grown b d.bl.size (fun k e => by cases e; omega), Nat.le_trans d.sz b.size⟩

set_option maxRecDepth 20000 in
set_option maxHeartbeats 2000000 in
theorem spower_any (u v q : Value) (xs ys : List Int) (h : Hd) (set : Int) (w : World) (hu : Reads w u xs) (hv : Reads w v ys) (hq : Reads w q h.ks) (gx : xs.length ≤ 1099511627776) (gy : ys.length ≤ 1099511627776) (gk : h.ks.length ≤ 1099511627776) :
    Calls Try.prog 13 #[SRV u v q h, .int .i64 set] w fun e w' => ∃ a b k, e = .returned (SRV a b k (Sr.power ⟨xs, ys, h⟩ set).h) ∧ OwnR w' w.heap.size a b k (Sr.power ⟨xs, ys, h⟩ set).xs (Sr.power ⟨xs, ys, h⟩ set).ys (Sr.power ⟨xs, ys, h⟩ set).h.ks ∧ Below w.heap.size w w' := by
  obtain ⟨w1, hw1⟩ : ∃ w1, w1 = (w.alloc (.cells (srA u v q h) 30)).alloc (.cells #[.slice none 0 0, .slice none 0 0, .slice none 0 0, .int .i64 0, .int .i64 0, .int .i64 0] 30) := ⟨_, rfl⟩
  have HV : Hid (Dp w w1 u v q h) := by
    have a2 := StB.new (w.alloc (.cells (srA u v q h) 30)) 30 zeR
    simp only [World.size_alloc] at a2
    exact ⟨by rw [hw1]; exact (StB.new w _ _).alloc _, by rw [hw1]; exact a2, by rw [hw1]; exact ((Below.refl _ _).alloc (Nat.le_refl _) _).alloc (by simp) _, by rw [hw1]; simp⟩
  have c1 := sstoreok_any u v q xs ys h w1 (hu.below HV.out.bl (Nat.le_refl _)) (hv.below HV.out.bl (Nat.le_refl _)) (hq.below HV.out.bl (Nat.le_refl _)) gx gy gk
  have C2 : Hid (∀ wx, Below w.heap.size w wx → Calls Try.prog 35 #[.agg (srA u v q h)] wx fun e w' => ∃ a b k, e = .returned (.agg (srA a b k h)) ∧ OwnR w' wx.heap.size a b k xs ys h.ks ∧ Below wx.heap.size wx w') := fun wx e => s12copy_any u v q xs ys h wx (hu.below e (Nat.le_refl _)) (hv.below e (Nat.le_refl _)) (hq.below e (Nat.le_refl _)) gx gy gk
  have HX : Hid (Reads w u xs ∧ Reads w v ys) := ⟨hu, hv⟩
  obtain ⟨uo, uc, rfl⟩ := reads_form hu
  obtain ⟨vo, vc, rfl⟩ := reads_form hv
  obtain ⟨qo, qc, rfl⟩ := reads_form hq
  have HE : Hid (Sr.power ⟨xs, ys, h⟩ set = if Sr.ok ⟨xs, ys, h⟩ then (if setOk set then ⟨chosenUp xs ys set 8 xs.length, chosenUp xs ys set 8 xs.length, h⟩ else ⟨xs, ys, h⟩) else Sr.zero) := rfl
  obtain ⟨R, hR⟩ : ∃ R, R = Sr.power ⟨xs, ys, h⟩ set := ⟨_, rfl⟩
  rw [← hR] at HE ⊢
  clear hR hu hv hq gx gy gk
  unfold srA at hw1
  unfold SRV at c1
  unfold SRV
  conv in srA (.slice uo xs.length uc) (.slice vo ys.length vc) (.slice qo h.ks.length qc) _ => unfold srA
  cases hok : Sr.ok ⟨xs, ys, h⟩ with
  | false =>
    rw [hok] at c1
    have HR : Hid (R = Sr.zero) := by rw [Hid, HE.out, hok]; rfl
    clear HE hok C2 HX
    go_enter Try.func13, Try.ntmps13
    go_upto_region 1 with fail
    rw [← hw1]
    clear hw1
    go_wp2_with (refine wpList_getS Try.isR rfl _ rfl w.heap.size rfl _ rfl HV.out.st ?_)
    refine c1.mono ?_
    rintro e w2 ⟨rfl, b2⟩
    have H2 : Hid (Dp w w2 (.slice uo xs.length uc) (.slice vo ys.length vc) (.slice qo h.ks.length qc) h) := HV.out.next b2
    clear HV c1 b2
    go_wp2_with (refine wpList_putS Try.isR rfl _ _ rfl (w.heap.size + 1) zeR zeR rfl rfl rfl rfl (srA_one Hd.zero rfl rfl rfl) H2.out.rs ?_; intro w5 s5 g5)
    refine bodyPost_ret (results_S Try.isR rfl _ _ (w.heap.size + 1) _ rfl rfl s5) rfl ?_
    rw [HR.out]
    exact ⟨_, _, _, rfl, OwnR.nil _ _, H2.out.bl.grown g5 H2.out.bl.size (fun k e => by cases e; omega)⟩
  | true =>
    rw [hok] at c1
    have HB : Hid (bothOk xs ys = true) := by
      have e : (bothOk xs ys && h.ok) = true := hok
      rw [Hid]
      exact (Bool.and_eq_true_iff.1 e).1
    rw [hok] at HE
    replace HE : Hid (R = if setOk set then ⟨chosenUp xs ys set 8 xs.length, chosenUp xs ys set 8 xs.length, h⟩ else ⟨xs, ys, h⟩) := HE.out
    clear hok
    have c3 := fun wx => sset_any set wx
    go_enter Try.func13, Try.ntmps13
    go_upto_region 1 with fail
    rw [← hw1]
    clear hw1
    go_wp2_with (refine wpList_getS Try.isR rfl _ rfl w.heap.size rfl _ rfl HV.out.st ?_)
    refine c1.mono ?_
    rintro e w2 ⟨rfl, b2⟩
    have H2 : Hid (Dp w w2 (.slice uo xs.length uc) (.slice vo ys.length vc) (.slice qo h.ks.length qc) h) := HV.out.next b2
    clear HV c1 b2
    go_wp2_with (refine wpList_getS Try.isR rfl _ rfl w.heap.size rfl _ rfl H2.out.st ?_)
    refine (C2.out _ H2.out.bl).mono ?_
    rintro e w3 ⟨a, b, k, rfl, o3, b3⟩
    obtain ⟨ao, ac, rfl⟩ := o3.1.1.reads.form
    obtain ⟨bo, bc, rfl⟩ := o3.1.2.1.reads.form
    obtain ⟨ko, kc, rfl⟩ := o3.2.1.reads.form
    conv in srA (.slice ao xs.length ac) (.slice bo ys.length bc) (.slice ko h.ks.length kc) _ => unfold srA
    obtain ⟨w4, hw4⟩ : ∃ w4, w4 = w3.alloc (.cells #[.slice ao xs.length ac, .slice bo ys.length bc, .slice ko h.ks.length kc, .int .i64 h.kd, .int .i64 h.ho, .int .i64 h.tu] 30) := ⟨_, rfl⟩
    have b4 : Below w3.heap.size w3 w4 := by rw [hw4]; exact (Below.refl _ _).alloc (Nat.le_refl _) _
    have H4 : Hid (Dp w w4 (.slice uo xs.length uc) (.slice vo ys.length vc) (.slice qo h.ks.length qc) h ∧ OwnR w4 (w.heap.size + 2) (.slice ao xs.length ac) (.slice bo ys.length bc) (.slice ko h.ks.length kc) xs ys h.ks ∧ StB w4 w3.heap.size 30 (srA (.slice ao xs.length ac) (.slice bo ys.length bc) (.slice ko h.ks.length kc) h) ∧ w.heap.size + 2 ≤ w3.heap.size) := ⟨(H2.out.next b3).next b4, (o3.mono H2.out.sz).below b4, by rw [hw4]; exact StB.new _ _ _, Nat.le_trans H2.out.sz b3.size⟩
    have NE : Hid ((Value.slice ko h.ks.length kc).ownBlock ≠ some w3.heap.size) := fun e => by have := (o3.2.1.lt _ e).2; omega
    clear H2 o3 b3 b4 C2
    go_upto_region 4 with fail
    rw [← hw4]
    clear hw4
    obtain ⟨g, hg⟩ : ∃ g, g = w3.heap.size := ⟨_, rfl⟩
    rw [← hg] at H4 NE ⊢
    clear hg
    go_wp2_with fail
    refine (c3 _).mono ?_
    rintro e w' ⟨rfl, hw⟩; subst w'
    clear c3
    cases hs : setOk set with
    | false =>
      have HR : Hid (R = ⟨xs, ys, h⟩) := by rw [Hid, HE.out, hs]; rfl
      clear HE hs
      go_wp2_with (first
        | (refine wpList_getS Try.isR rfl _ rfl g rfl _ rfl H4.out.2.2.1 ?_)
        | (refine wpList_putS Try.isR rfl _ _ rfl (w.heap.size + 1) (srA (.slice ao xs.length ac) (.slice bo ys.length bc) (.slice ko h.ks.length kc) h) zeR rfl rfl rfl rfl (srA_one h rfl rfl rfl) H4.out.1.rs ?_; intro w6 s6 g6))
      refine bodyPost_ret (results_S Try.isR rfl _ _ (w.heap.size + 1) _ rfl rfl s6) rfl ?_
      rw [HR.out]
      exact ⟨_, _, _, rfl, (H4.out.2.1.keptLt g6 (by omega)).mono (by omega), H4.out.1.bl.grown g6 H4.out.1.bl.size (fun k e => by cases e; omega)⟩
    | true =>
      have HR : Hid (R = ⟨chosenUp xs ys set 8 xs.length, chosenUp xs ys set 8 xs.length, h⟩) := by rw [Hid, HE.out, hs]; rfl
      have hb2 : 0 ≤ set ∧ set < 256 := (by simpa [setOk] using hs)
      have c5 := sl3Lost_any (.slice uo xs.length uc) (.slice vo ys.length vc) xs ys set w4 (HX.out.1.below H4.out.1.bl (Nat.le_refl _)) (HX.out.2.below H4.out.1.bl (Nat.le_refl _)) HB.out hb2.1 hb2.2
      obtain ⟨zs, hz⟩ : ∃ zs, zs = chosenUp xs ys set 8 xs.length := ⟨_, rfl⟩
      rw [← hz] at c5 HR
      have d0 : w4.cell? ⟨w.heap.size, 0, none⟩ = some (.slice uo xs.length uc) := H4.out.1.st.cell 0 rfl
      have d1 : w4.cell? ⟨w.heap.size, 1, none⟩ = some (.slice vo ys.length vc) := H4.out.1.st.cell 1 rfl
      clear HE hs hb2 hz HX HB
      go_wp2_with fail
      refine c5.mono ?_
      rintro e w5 ⟨x1, x2, rfl, o5, b5⟩
      obtain ⟨xo, xc, rfl⟩ := o5.1.reads.form
      obtain ⟨yo, yc, rfl⟩ := o5.2.1.reads.form
      have hap : Hid (apart (.slice xo zs.length xc) (.slice ko h.ks.length kc) ∧ apart (.slice yo zs.length yc) (.slice ko h.ks.length kc)) := by
        have q1 := apart_of H4.out.2.1.2.1 o5.1 (Nat.le_refl _)
        have q2 := apart_of H4.out.2.1.2.1 o5.2.1 (Nat.le_refl _)
        exact ⟨⟨q1.2, q1.1⟩, ⟨q2.2, q2.1⟩⟩
      have H5 : Hid (Dp w w5 (.slice uo xs.length uc) (.slice vo ys.length vc) (.slice qo h.ks.length qc) h ∧ OwnR w5 (w.heap.size + 2) (.slice xo zs.length xc) (.slice yo zs.length yc) (.slice ko h.ks.length kc) zs zs h.ks ∧ StB w5 g 30 (srA (.slice ao xs.length ac) (.slice bo ys.length bc) (.slice ko h.ks.length kc) h) ∧ w.heap.size + 2 ≤ g) :=
        ⟨H4.out.1.next b5, ⟨⟨o5.1.mono H4.out.1.sz, o5.2.1.mono H4.out.1.sz, o5.2.2⟩, H4.out.2.1.2.1.below b5, hap.out⟩, H4.out.2.2.1.below b5, H4.out.2.2.2⟩
      have N5 : Hid ((Value.slice xo zs.length xc).ownBlock ≠ some g ∧ (Value.slice yo zs.length yc).ownBlock ≠ some g) := by
        have hg := H4.out.2.2.1.lt
        exact ⟨fun e => by have := (o5.1.lt _ e).1; omega, fun e => by have := (o5.2.1.lt _ e).1; omega⟩
      clear o5 b5 hap c5 d0 d1 H4
      have p0 : w5.cell? ⟨g, 0, none⟩ = some (.slice ao xs.length ac) := H5.out.2.2.1.cell 0 rfl
      have p1 : w5.cell? ⟨g, 1, none⟩ = some (.slice bo ys.length bc) := H5.out.2.2.1.cell 1 rfl
      have f0 := H5.out.2.2.1.frozen 0
      have f1 := H5.out.2.2.1.frozen 1
      go_upto_region 6 with fail
      obtain ⟨w7, hw7⟩ : ∃ w7, w7 = (w5.setCell ⟨g, 0, none⟩ (.slice xo zs.length xc)).setCell ⟨g, 1, none⟩ (.slice yo zs.length yc) := ⟨_, rfl⟩
      rw [← hw7]
      have G7 : w5.grownBy w7 (some g) := by rw [hw7]; exact (grownSet _ _ _ _).trans (grownSet _ _ _ _)
      have H7 : Hid (Dp w w7 (.slice uo xs.length uc) (.slice vo ys.length vc) (.slice qo h.ks.length qc) h ∧ OwnR w7 (w.heap.size + 2) (.slice xo zs.length xc) (.slice yo zs.length yc) (.slice ko h.ks.length kc) zs zs h.ks ∧ StB w7 g 30 (srA (.slice xo zs.length xc) (.slice yo zs.length yc) (.slice ko h.ks.length kc) h)) :=
        ⟨H5.out.1.grown G7 H5.out.2.2.2, ⟨⟨H5.out.2.1.1.1.kept G7 (.inr N5.out.1), H5.out.2.1.1.2.1.kept G7 (.inr N5.out.2), H5.out.2.1.1.2.2⟩, H5.out.2.1.2.1.kept G7 (.inr NE.out), H5.out.2.1.2.2⟩, by rw [hw7]; exact (H5.out.2.2.1.put 0 _ rfl).put 1 _ rfl⟩
      clear hw7 G7 H5 p0 p1 f0 f1 N5 NE
      go_wp2_with (first
        | (refine wpList_getS Try.isR rfl _ rfl g rfl _ rfl H7.out.2.2 ?_)
        | (refine wpList_putS Try.isR rfl _ _ rfl (w.heap.size + 1) (srA (.slice xo zs.length xc) (.slice yo zs.length yc) (.slice ko h.ks.length kc) h) zeR rfl rfl rfl rfl (srA_one h rfl rfl rfl) H7.out.1.rs ?_; intro w8 s8 g8))
      refine bodyPost_ret (results_S Try.isR rfl _ _ (w.heap.size + 1) _ rfl rfl s8) rfl ?_
      rw [HR.out]
      exact ⟨_, _, _, rfl, (H7.out.2.1.keptLt g8 (by omega)).mono (by omega), H7.out.1.bl.grown g8 H7.out.1.bl.size (fun k e => by cases e; omega)⟩
end Go.Proofs.Ytpdggofaobmnlaa
