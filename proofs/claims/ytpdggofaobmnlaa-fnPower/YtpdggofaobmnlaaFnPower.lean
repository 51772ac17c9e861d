/- At every list of bytes the law FnPower returns true: when power is gone what was kept is there, and all that is held is held; and the program answers as the model. -/
import Derived.Test.YtpdggofaobmnlaaRows
import Derived.WalkKit
import Derived.ProofKit
import Derived.OpenShut
import Derived.ShutString
import Derived.ChangeOld
import Derived.Below
import Derived.Test.YtpdggofaobmnlaaM17
import Derived.Test.YtpdggofaobmnlaaDrawStore4
import Derived.Test.YtpdggofaobmnlaaM15
import Derived.Test.YtpdggofaobmnlaaM21
import Derived.Test.YtpdggofaobmnlaaM22
import Derived.Test.YtpdggofaobmnlaaM23
import Derived.Test.YtpdggofaobmnlaaM24
import Derived.Test.YtpdggofaobmnlaaSStore8
import Derived.Test.YtpdggofaobmnlaaM32
namespace Go.Proofs.Ytpdggofaobmnlaa.fnPower
open Go.ChangeShapes Go.WideShapes Go.ChangeAt Go.RowKit
open Go.ChangeMaps (open_string shut_string)
set_option linter.unusedVariables false

theorem own : ownKnob Try.prog.godebug = none := by kernel_rfl
theorem laidOut : laidOutB Try.prog = true := by kernel_rfl

def IsRow (k : IntKind) (w : World) (a : Option Addr) (len cap : Nat) (zs : List Int) : Prop :=
  (a = none ∧ len = 0 ∧ cap = 0 ∧ zs = []) ∨
  ∃ x, a = some x ∧ len ≤ cap ∧ cap ≤ maxLen ∧ zs.length = cap ∧ (∀ i, i < zs.length → w.cell? (x.add i) = some (.int k (zs.getD i 0))) ∧ ∀ n ∈ zs, (Lit.int k n).wf = true

set_option maxRecDepth 20000 in
set_option maxHeartbeats 20000000 in
theorem walk (a0 : Option Addr) (len0 cap0 : Nat) (z0 : List Int) (w : World) (w0 : IsRow .u8 w a0 len0 cap0 z0) :
    Calls Try.prog 3 #[.slice a0 len0 cap0] w fun e w' => e = .returned (.bool true) ∧ Below w.heap.size w w' := by
  by_cases hbig : (4096 : Int) < (len0 : Int)
  · go_enter Try.func3, Try.ntmps3
    go_wp2_with (go_at_call 8; refine (big_any _ _ _ _).mono ?_; rintro e w' ⟨rfl, hw'⟩; subst w')
    go_ret
    exact ⟨rfl, Below.refl _ _⟩
  · have HC : Hid (CodeOk w w.heap.size (.slice a0 len0 cap0)) := codeOk_row w0 (by omega)
    clear w0
    go_enter Try.func3, Try.ntmps3
    go_wp2_with fail
    refine (big_any _ _ _ _).mono ?_
    rintro e w' ⟨rfl, hw'⟩; subst w'
    go_wp2_with fail
    refine (drawPower_any w.heap.size _ _ HC.out (Nat.le_refl _)).mono ?_
    rintro e wb ⟨a, b, k, xs, ys, h, set, rfl, hx, hy, hk, ra, rb, rk, b3⟩
    have HB0 : Hid (Below w.heap.size w wb) := b3
    obtain ⟨sao, sac, rfl⟩ := ra.form
    obtain ⟨sbo, sbc, rfl⟩ := rb.form
    obtain ⟨sko, skc, rfl⟩ := rk.form
    have RS1 : Hid (Reads wb (.slice sao xs.length sac) xs) := ra
    have RS2 : Hid (Reads wb (.slice sbo ys.length sbc) ys) := rb
    have RS3 : Hid (Reads wb (.slice sko h.ks.length skc) h.ks) := rk
    have HS : Hid (Sta wb wb []) := Sta.start wb
    clear b3 ra rb rk
    unfold SRV srA
    obtain ⟨y1, hy1⟩ : ∃ y1, y1 = wb.alloc (.cells #[.slice sao xs.length sac, .slice sbo ys.length sbc, .slice sko h.ks.length skc, .int .i64 h.kd, .int .i64 h.ho, .int .i64 h.tu] 30) := ⟨_, rfl⟩
    replace HS : Hid (Sta wb y1 [Blk wb.heap.size 30 #[.slice sao xs.length sac, .slice sbo ys.length sbc, .slice sko h.ks.length skc, .int .i64 h.kd, .int .i64 h.ho, .int .i64 h.tu]]) := by rw [hy1]; exact HS.out.box _ _
    go_upto_region 4 with fail
    rw [← hy1]
    clear hy1
    have gx : xs.length ≤ 1099511627776 := by omega
    have gy : ys.length ≤ 1099511627776 := by omega
    have gz : h.ks.length ≤ 1099511627776 := by omega
    obtain ⟨D, hD⟩ : ∃ D, D = Sr.power ⟨xs, ys, h⟩ set := ⟨_, rfl⟩
    have HD : Hid (D = Sr.power ⟨xs, ys, h⟩ set) := hD
    have sK : Hid (D.xs.length ≤ 1048576 ∧ D.ys.length ≤ 1048576 ∧ D.h.ks.length ≤ 1048576) := by rw [hD]; exact power_len ⟨xs, ys, h⟩ set (by simp only; omega) (by simp only; omega) (by simp only; omega)
    have SP' := fun wx a b k h1 h2 h3 => spower_any a b k xs ys h set wx h1 h2 h3 gx gy gz
    have IP' := fun wx a b k h1 h2 h3 => ipower_any a b k xs ys h set wx h1 h2 h3 gx gy gz
    rw [← hD] at SP' IP'
    clear hD
    obtain ⟨ks, ns, hh⟩ := D
    dsimp only at SP' IP' sK
    unfold SRV srA at SP' IP'
    have SP : Hid _ := SP'
    have IP : Hid _ := IP'
    have sk := sK.out.1
    have sn := sK.out.2.1
    have sh := sK.out.2.2
    have gk : ks.length ≤ 1099511627776 := by omega
    have gn : ns.length ≤ 1099511627776 := by omega
    have gh : hh.ks.length ≤ 1099511627776 := by omega
    clear sK SP' IP'
    have p_vS_0 : y1.cell? ⟨wb.heap.size, 0, none⟩ = some (.slice sao xs.length sac) := Blk.cell (HS.out.get 0 rfl) 0 rfl
    have p_vS_1 : y1.cell? ⟨wb.heap.size, 1, none⟩ = some (.slice sbo ys.length sbc) := Blk.cell (HS.out.get 0 rfl) 1 rfl
    have p_vS_2 : y1.cell? ⟨wb.heap.size, 2, none⟩ = some (.slice sko h.ks.length skc) := Blk.cell (HS.out.get 0 rfl) 2 rfl
    have p_vS_3 : y1.cell? ⟨wb.heap.size, 3, none⟩ = some (.int .i64 h.kd) := Blk.cell (HS.out.get 0 rfl) 3 rfl
    have p_vS_4 : y1.cell? ⟨wb.heap.size, 4, none⟩ = some (.int .i64 h.ho) := Blk.cell (HS.out.get 0 rfl) 4 rfl
    have p_vS_5 : y1.cell? ⟨wb.heap.size, 5, none⟩ = some (.int .i64 h.tu) := Blk.cell (HS.out.get 0 rfl) 5 rfl
    go_wp2_with fail
    clear p_vS_0 p_vS_1 p_vS_2 p_vS_3 p_vS_4 p_vS_5
    refine (IP.out _ _ _ _ (RS1.out.below HS.out.below (Nat.le_refl _)) (RS2.out.below HS.out.below (Nat.le_refl _)) (RS3.out.below HS.out.below (Nat.le_refl _))).mono ?_
    rintro e y2 ⟨aX, bX, kX, rfl, oy2, by2⟩
    obtain ⟨aoX, acX, rfl⟩ := oy2.1.1.reads.form
    obtain ⟨boX, bcX, rfl⟩ := oy2.1.2.1.reads.form
    obtain ⟨koX, kcX, rfl⟩ := oy2.2.1.reads.form
    replace HS : Hid (Sta wb y2 [Sto (.slice aoX ks.length acX) (.slice boX ns.length bcX) (.slice koX hh.ks.length kcX) ks ns hh.ks, Blk wb.heap.size 30 #[.slice sao xs.length sac, .slice sbo ys.length sbc, .slice sko h.ks.length skc, .int .i64 h.kd, .int .i64 h.ho, .int .i64 h.tu]]) := HS.out.store oy2 by2
    clear oy2 by2
    obtain ⟨y3, hy3⟩ : ∃ y3, y3 = y2.alloc (.cells #[.slice aoX ks.length acX, .slice boX ns.length bcX, .slice koX hh.ks.length kcX, .int .i64 hh.kd, .int .i64 hh.ho, .int .i64 hh.tu] 30) := ⟨_, rfl⟩
    replace HS : Hid (Sta wb y3 [Blk y2.heap.size 30 #[.slice aoX ks.length acX, .slice boX ns.length bcX, .slice koX hh.ks.length kcX, .int .i64 hh.kd, .int .i64 hh.ho, .int .i64 hh.tu], Sto (.slice aoX ks.length acX) (.slice boX ns.length bcX) (.slice koX hh.ks.length kcX) ks ns hh.ks, Blk wb.heap.size 30 #[.slice sao xs.length sac, .slice sbo ys.length sbc, .slice sko h.ks.length skc, .int .i64 h.kd, .int .i64 h.ho, .int .i64 h.tu]]) := by rw [hy3]; exact HS.out.box _ _
    go_upto_region 5 with fail
    rw [← hy3]
    clear hy3
    go_wp2_with fail
    refine (drawAlike_any w.heap.size _ _ (HC.out.below (HB0.out.trans (HS.out.below.mono HB0.out.size))) (Nat.le_trans HB0.out.size HS.out.below.size)).mono ?_
    rintro e wd ⟨a1, b1, k1, xa, ya, ha, a2, b2, k2, xb, yb, hb, rfl, ⟨ha1, ha2, ha3⟩, ⟨hb1, hb2, hb3⟩, ⟨ra1, rb1, rk1⟩, ⟨ra2, rb2, rk2⟩, bc⟩
    obtain ⟨aao, aac, rfl⟩ := ra1.form
    obtain ⟨abo, abc, rfl⟩ := rb1.form
    obtain ⟨ako, akc, rfl⟩ := rk1.form
    obtain ⟨bao, bac, rfl⟩ := ra2.form
    obtain ⟨bbo, bbc, rfl⟩ := rb2.form
    obtain ⟨bko, bkc, rfl⟩ := rk2.form
    replace HS : Hid (Sta wb wd [Blk y2.heap.size 30 #[.slice aoX ks.length acX, .slice boX ns.length bcX, .slice koX hh.ks.length kcX, .int .i64 hh.kd, .int .i64 hh.ho, .int .i64 hh.tu], Sto (.slice aoX ks.length acX) (.slice boX ns.length bcX) (.slice koX hh.ks.length kcX) ks ns hh.ks, Blk wb.heap.size 30 #[.slice sao xs.length sac, .slice sbo ys.length sbc, .slice sko h.ks.length skc, .int .i64 h.kd, .int .i64 h.ho, .int .i64 h.tu]]) := HS.out.next bc
    have HBc : Hid (Below w.heap.size w wd) := HB0.out.trans (HS.out.below.mono HB0.out.size)
    have KS : Hid (StB wd wb.heap.size 30 #[.slice sao xs.length sac, .slice sbo ys.length sbc, .slice sko h.ks.length skc, .int .i64 h.kd, .int .i64 h.ho, .int .i64 h.tu]) := HS.out.get 2 rfl
    have KX : Hid (StB wd y2.heap.size 30 #[.slice aoX ks.length acX, .slice boX ns.length bcX, .slice koX hh.ks.length kcX, .int .i64 hh.kd, .int .i64 hh.ho, .int .i64 hh.tu]) := HS.out.get 0 rfl
    have TS1 : Hid (Reads wd (.slice sao xs.length sac) xs) := RS1.out.below HS.out.below (Nat.le_refl _)
    have TS2 : Hid (Reads wd (.slice sbo ys.length sbc) ys) := RS2.out.below HS.out.below (Nat.le_refl _)
    have TS3 : Hid (Reads wd (.slice sko h.ks.length skc) h.ks) := RS3.out.below HS.out.below (Nat.le_refl _)
    have TX1 : Hid (Reads wd (.slice aoX ks.length acX) ks) := HS.out.rA 1 rfl
    have TX2 : Hid (Reads wd (.slice boX ns.length bcX) ns) := HS.out.rB 1 rfl
    have TX3 : Hid (Reads wd (.slice koX hh.ks.length kcX) hh.ks) := HS.out.rK 1 rfl
    have TA1 : Hid (Reads wd (.slice aao xa.length aac) xa) := ra1
    have TA2 : Hid (Reads wd (.slice abo ya.length abc) ya) := rb1
    have TA3 : Hid (Reads wd (.slice ako ha.ks.length akc) ha.ks) := rk1
    have TB1 : Hid (Reads wd (.slice bao xb.length bac) xb) := ra2
    have TB2 : Hid (Reads wd (.slice bbo yb.length bbc) yb) := rb2
    have TB3 : Hid (Reads wd (.slice bko hb.ks.length bkc) hb.ks) := rk2
    obtain ⟨gS, hgS⟩ : ∃ gS, gS = wb.heap.size := ⟨_, rfl⟩
    obtain ⟨gX, hgX⟩ : ∃ gX, gX = y2.heap.size := ⟨_, rfl⟩
    rw [← hgS] at KS ⊢
    rw [← hgX] at KX ⊢
    clear hgS hgX HS RS1 RS2 RS3 ra1 rb1 rk1 ra2 rb2 rk2 bc HB0 HC
    have HS : Hid (Sta wd wd []) := Sta.start wd
    unfold SRV srA
    obtain ⟨y4, hy4⟩ : ∃ y4, y4 = (wd.alloc (.cells #[.slice aao xa.length aac, .slice abo ya.length abc, .slice ako ha.ks.length akc, .int .i64 ha.kd, .int .i64 ha.ho, .int .i64 ha.tu] 30)).alloc (.cells #[.slice bao xb.length bac, .slice bbo yb.length bbc, .slice bko hb.ks.length bkc, .int .i64 hb.kd, .int .i64 hb.ho, .int .i64 hb.tu] 30) := ⟨_, rfl⟩
    have hsy4 := (HS.out.box 30 #[.slice aao xa.length aac, .slice abo ya.length abc, .slice ako ha.ks.length akc, .int .i64 ha.kd, .int .i64 ha.ho, .int .i64 ha.tu]).box 30 #[.slice bao xb.length bac, .slice bbo yb.length bbc, .slice bko hb.ks.length bkc, .int .i64 hb.kd, .int .i64 hb.ho, .int .i64 hb.tu]
    rw [World.size_alloc, ← hy4] at hsy4
    replace HS : Hid (Sta wd y4 [Blk (wd.heap.size + 1) 30 #[.slice bao xb.length bac, .slice bbo yb.length bbc, .slice bko hb.ks.length bkc, .int .i64 hb.kd, .int .i64 hb.ho, .int .i64 hb.tu], Blk wd.heap.size 30 #[.slice aao xa.length aac, .slice abo ya.length abc, .slice ako ha.ks.length akc, .int .i64 ha.kd, .int .i64 ha.ho, .int .i64 ha.tu]]) := hsy4
    go_upto_region 6 with fail
    rw [← hy4]
    clear hy4 hsy4
    have g1 : xa.length ≤ 1099511627776 := by omega
    have g2 : ya.length ≤ 1099511627776 := by omega
    have g3 : ha.ks.length ≤ 1099511627776 := by omega
    have g4 : xb.length ≤ 1099511627776 := by omega
    have g5 : yb.length ≤ 1099511627776 := by omega
    have g6 : hb.ks.length ≤ 1099511627776 := by omega
    obtain ⟨al, hal⟩ : ∃ al, al = Sr.alike ⟨xa, ya, ha⟩ ⟨xb, yb, hb⟩ := ⟨_, rfl⟩
    have HAL : Hid (al = Sr.alike ⟨xa, ya, ha⟩ ⟨xb, yb, hb⟩) := hal
    have LX' := fun u v q a b k w' (h1 : Reads w' u ks) (h2 : Reads w' v ns) (h3 : Reads w' q hh.ks) (h4 : Reads w' a ks) (h5 : Reads w' b ns) (h6 : Reads w' k hh.ks) => likeStore_any u v q a b k ks ns hh w' h1 h2 h3 h4 h5 h6 gk gn gh
    have IA' := fun u v q a b k w' h1 h2 h3 h4 h5 h6 => ialike_any u v q a b k xa ya xb yb ha hb w' h1 h2 h3 h4 h5 h6 g1 g2 g3 g4 g5 g6
    have SA' := fun u v q a b k w' h1 h2 h3 h4 h5 h6 => salike_any u v q a b k xa ya xb yb ha hb w' h1 h2 h3 h4 h5 h6 g1 g2 g3 g4 g5 g6
    rw [← hal] at IA' SA'
    unfold SRV srA at LX' IA' SA'
    have LX : Hid _ := LX'
    have IA : Hid _ := IA'
    have SA : Hid _ := SA'
    clear hal LX' IA' SA'
    go_cut [49] (fun t wx => t = .bool false ∧ Hid (Sta wd wx [Blk (wd.heap.size + 1) 30 #[.slice bao xb.length bac, .slice bbo yb.length bbc, .slice bko hb.ks.length bkc, .int .i64 hb.kd, .int .i64 hb.ho, .int .i64 hb.tu], Blk wd.heap.size 30 #[.slice aao xa.length aac, .slice abo ya.length abc, .slice ako ha.ks.length akc, .int .i64 ha.kd, .int .i64 ha.ho, .int .i64 ha.tu]]))
    case first =>
      obtain ⟨C, hCd⟩ : ∃ C, C = fun x => Below y4.heap.size y4 x := ⟨_, rfl⟩
      have HQ : Hid (∀ x, C x → Below y4.heap.size y4 x) := by rw [hCd]; exact fun _ h => h
      have HQc : Hid (∀ x, C x → Below wd.heap.size wd x) := fun x hx => HS.out.below.trans ((HQ.out x hx).mono HS.out.below.size)
      have HN : Hid (∀ x y, C x → Later x y → C y) := by rw [hCd]; exact fun _ _ h b => h.trans (b.mono h.size)
      have H0 : Hid (C y4.drew) := by rw [hCd]; exact (Below.refl _ _).drew
      have hne : Nonempty (Kin C) := ⟨⟨_, H0.out⟩⟩
      have m_vX_0 : ∀ q : Kin C, q.x.cell? ⟨gX, 0, none⟩ = some (.slice aoX ks.length acX) := fun q => later_cell (KX.out.cell 0 rfl) (HQc.out _ q.h)
      have m_vX_1 : ∀ q : Kin C, q.x.cell? ⟨gX, 1, none⟩ = some (.slice boX ns.length bcX) := fun q => later_cell (KX.out.cell 1 rfl) (HQc.out _ q.h)
      have m_vX_2 : ∀ q : Kin C, q.x.cell? ⟨gX, 2, none⟩ = some (.slice koX hh.ks.length kcX) := fun q => later_cell (KX.out.cell 2 rfl) (HQc.out _ q.h)
      have m_vX_3 : ∀ q : Kin C, q.x.cell? ⟨gX, 3, none⟩ = some (.int .i64 hh.kd) := fun q => later_cell (KX.out.cell 3 rfl) (HQc.out _ q.h)
      have m_vX_4 : ∀ q : Kin C, q.x.cell? ⟨gX, 4, none⟩ = some (.int .i64 hh.ho) := fun q => later_cell (KX.out.cell 4 rfl) (HQc.out _ q.h)
      have m_vX_5 : ∀ q : Kin C, q.x.cell? ⟨gX, 5, none⟩ = some (.int .i64 hh.tu) := fun q => later_cell (KX.out.cell 5 rfl) (HQc.out _ q.h)
      have m_vS_0 : ∀ q : Kin C, q.x.cell? ⟨gS, 0, none⟩ = some (.slice sao xs.length sac) := fun q => later_cell (KS.out.cell 0 rfl) (HQc.out _ q.h)
      have m_vS_1 : ∀ q : Kin C, q.x.cell? ⟨gS, 1, none⟩ = some (.slice sbo ys.length sbc) := fun q => later_cell (KS.out.cell 1 rfl) (HQc.out _ q.h)
      have m_vS_2 : ∀ q : Kin C, q.x.cell? ⟨gS, 2, none⟩ = some (.slice sko h.ks.length skc) := fun q => later_cell (KS.out.cell 2 rfl) (HQc.out _ q.h)
      have m_vS_3 : ∀ q : Kin C, q.x.cell? ⟨gS, 3, none⟩ = some (.int .i64 h.kd) := fun q => later_cell (KS.out.cell 3 rfl) (HQc.out _ q.h)
      have m_vS_4 : ∀ q : Kin C, q.x.cell? ⟨gS, 4, none⟩ = some (.int .i64 h.ho) := fun q => later_cell (KS.out.cell 4 rfl) (HQc.out _ q.h)
      have m_vS_5 : ∀ q : Kin C, q.x.cell? ⟨gS, 5, none⟩ = some (.int .i64 h.tu) := fun q => later_cell (KS.out.cell 5 rfl) (HQc.out _ q.h)
      have m_vA_0 : ∀ q : Kin C, q.x.cell? ⟨wd.heap.size, 0, none⟩ = some (.slice aao xa.length aac) := fun q => later_cell (Blk.cell (HS.out.get 1 rfl) 0 rfl) (HQ.out _ q.h)
      have m_vA_1 : ∀ q : Kin C, q.x.cell? ⟨wd.heap.size, 1, none⟩ = some (.slice abo ya.length abc) := fun q => later_cell (Blk.cell (HS.out.get 1 rfl) 1 rfl) (HQ.out _ q.h)
      have m_vA_2 : ∀ q : Kin C, q.x.cell? ⟨wd.heap.size, 2, none⟩ = some (.slice ako ha.ks.length akc) := fun q => later_cell (Blk.cell (HS.out.get 1 rfl) 2 rfl) (HQ.out _ q.h)
      have m_vA_3 : ∀ q : Kin C, q.x.cell? ⟨wd.heap.size, 3, none⟩ = some (.int .i64 ha.kd) := fun q => later_cell (Blk.cell (HS.out.get 1 rfl) 3 rfl) (HQ.out _ q.h)
      have m_vA_4 : ∀ q : Kin C, q.x.cell? ⟨wd.heap.size, 4, none⟩ = some (.int .i64 ha.ho) := fun q => later_cell (Blk.cell (HS.out.get 1 rfl) 4 rfl) (HQ.out _ q.h)
      have m_vA_5 : ∀ q : Kin C, q.x.cell? ⟨wd.heap.size, 5, none⟩ = some (.int .i64 ha.tu) := fun q => later_cell (Blk.cell (HS.out.get 1 rfl) 5 rfl) (HQ.out _ q.h)
      have m_vB_0 : ∀ q : Kin C, q.x.cell? ⟨wd.heap.size + 1, 0, none⟩ = some (.slice bao xb.length bac) := fun q => later_cell (Blk.cell (HS.out.get 0 rfl) 0 rfl) (HQ.out _ q.h)
      have m_vB_1 : ∀ q : Kin C, q.x.cell? ⟨wd.heap.size + 1, 1, none⟩ = some (.slice bbo yb.length bbc) := fun q => later_cell (Blk.cell (HS.out.get 0 rfl) 1 rfl) (HQ.out _ q.h)
      have m_vB_2 : ∀ q : Kin C, q.x.cell? ⟨wd.heap.size + 1, 2, none⟩ = some (.slice bko hb.ks.length bkc) := fun q => later_cell (Blk.cell (HS.out.get 0 rfl) 2 rfl) (HQ.out _ q.h)
      have m_vB_3 : ∀ q : Kin C, q.x.cell? ⟨wd.heap.size + 1, 3, none⟩ = some (.int .i64 hb.kd) := fun q => later_cell (Blk.cell (HS.out.get 0 rfl) 3 rfl) (HQ.out _ q.h)
      have m_vB_4 : ∀ q : Kin C, q.x.cell? ⟨wd.heap.size + 1, 4, none⟩ = some (.int .i64 hb.ho) := fun q => later_cell (Blk.cell (HS.out.get 0 rfl) 4 rfl) (HQ.out _ q.h)
      have m_vB_5 : ∀ q : Kin C, q.x.cell? ⟨wd.heap.size + 1, 5, none⟩ = some (.int .i64 hb.tu) := fun q => later_cell (Blk.cell (HS.out.get 0 rfl) 5 rfl) (HQ.out _ q.h)
      clear hCd
      refine wp_region_giv (C := C) (E := byDst fun d => if d = 27 then some (stG ks ns hh) else if d = 28 ∨ d = 46 then some (truth true) else if d = 33 ∨ d = 36 ∨ d = 42 then some (truth al) else none) (R := Later) HN.out (byDst_later (by intro d s hs u x y hx hl; split at hs; (cases hs; exact stG_later hx hl); split at hs; (cases hs; exact hx); split at hs; (cases hs; exact hx); cases hs)) (byDst_looks _ _) (by kernel_rfl) (by kernel_rfl) H0.out ?_
      repeat (refine giv_plain rfl (fun K hK => ?_); go_simp; refine hK _ ?_; clear hK K)
      refine giv_call (stG ks ns hh) rfl (by first | rfl | kernel_rfl) (fun wq hB => ?_) (fun uq hu => ?_)
      · go_simp
        refine ⟨rfl, ?_⟩
        exact stG_of (SP.out wq _ _ _ (TS1.out.below (HQc.out _ hB.1) (Nat.le_refl _)) (TS2.out.below (HQc.out _ hB.1) (Nat.le_refl _)) (TS3.out.below (HQc.out _ hB.1) (Nat.le_refl _)))
      obtain ⟨pao, pac, pbo, pbc, pko, pkc, rfl⟩ := hu
      repeat (refine giv_plain rfl (fun K hK => ?_); go_simp; refine hK _ ?_; clear hK K)
      refine giv_call (truth true) rfl (by first | rfl | kernel_rfl) (fun wq hB => ?_) (fun uq hu => ?_)
      · go_simp
        refine ⟨rfl, ?_⟩
        exact (by obtain ⟨r1, r2, r3⟩ := hB.at0 rfl _ _ _ _ _ _ rfl; exact truth_of (fun _ h => h) (LX.out _ _ _ _ _ _ wq (TX1.out.below (HQc.out _ hB.1) (Nat.le_refl _)) (TX2.out.below (HQc.out _ hB.1) (Nat.le_refl _)) (TX3.out.below (HQc.out _ hB.1) (Nat.le_refl _)) r1 r2 r3))
      obtain rfl : uq = .bool true := hu
      repeat (refine giv_plain rfl (fun K hK => ?_); go_simp; refine hK _ ?_; clear hK K)
      refine giv_call (truth al) rfl (by first | rfl | kernel_rfl) (fun wq hB => ?_) (fun uq hu => ?_)
      · go_simp
        refine ⟨rfl, ?_⟩
        exact truth_of (fun _ h => h) (IA.out _ _ _ _ _ _ wq (TA1.out.below (HQc.out _ hB.1) (Nat.le_refl _)) (TA2.out.below (HQc.out _ hB.1) (Nat.le_refl _)) (TA3.out.below (HQc.out _ hB.1) (Nat.le_refl _)) (TB1.out.below (HQc.out _ hB.1) (Nat.le_refl _)) (TB2.out.below (HQc.out _ hB.1) (Nat.le_refl _)) (TB3.out.below (HQc.out _ hB.1) (Nat.le_refl _)))
      obtain rfl : uq = .bool al := hu
      repeat (refine giv_plain rfl (fun K hK => ?_); go_simp; refine hK _ ?_; clear hK K)
      refine giv_call (truth al) rfl (by first | rfl | kernel_rfl) (fun wq hB => ?_) (fun uq hu => ?_)
      · go_simp
        refine ⟨rfl, ?_⟩
        exact truth_of (fun _ h => h) (SA.out _ _ _ _ _ _ wq (TA1.out.below (HQc.out _ hB.1) (Nat.le_refl _)) (TA2.out.below (HQc.out _ hB.1) (Nat.le_refl _)) (TA3.out.below (HQc.out _ hB.1) (Nat.le_refl _)) (TB1.out.below (HQc.out _ hB.1) (Nat.le_refl _)) (TB2.out.below (HQc.out _ hB.1) (Nat.le_refl _)) (TB3.out.below (HQc.out _ hB.1) (Nat.le_refl _)))
      obtain rfl : uq = .bool al := hu
      have hxx : (al != al) = false := by simp
      repeat (refine giv_plain rfl (fun K hK => ?_); go_simp; refine hK _ ?_; clear hK K)
      refine giv_call (truth al) rfl (by first | rfl | kernel_rfl) (fun wq hB => ?_) (fun uq hu => ?_)
      · go_simp
        refine ⟨rfl, ?_⟩
        exact truth_of (fun _ h => h) (IA.out _ _ _ _ _ _ wq (TA1.out.below (HQc.out _ hB.1) (Nat.le_refl _)) (TA2.out.below (HQc.out _ hB.1) (Nat.le_refl _)) (TA3.out.below (HQc.out _ hB.1) (Nat.le_refl _)) (TB1.out.below (HQc.out _ hB.1) (Nat.le_refl _)) (TB2.out.below (HQc.out _ hB.1) (Nat.le_refl _)) (TB3.out.below (HQc.out _ hB.1) (Nat.le_refl _)))
      obtain rfl : uq = .bool al := hu
      cases al with
      | false =>
        repeat (refine giv_plain rfl (fun K hK => ?_); go_simp; refine hK _ ?_; clear hK K)
        refine giv_skip (by first | rfl | kernel_rfl) ?_
        repeat (refine giv_plain rfl (fun K hK => ?_); go_simp; refine hK _ ?_; clear hK K)
        refine giv_end (fun wz hz => ?_)
        have BZ : Hid (Below y4.heap.size y4 wz) := HQ.out _ hz.1
        have HS9 : Hid (Sta wd wz [Blk (wd.heap.size + 1) 30 #[.slice bao xb.length bac, .slice bbo yb.length bbc, .slice bko hb.ks.length bkc, .int .i64 hb.kd, .int .i64 hb.ho, .int .i64 hb.tu], Blk wd.heap.size 30 #[.slice aao xa.length aac, .slice abo ya.length abc, .slice ako ha.ks.length akc, .int .i64 ha.kd, .int .i64 ha.ho, .int .i64 ha.tu]]) := HS.out.next BZ.out
        clear HS BZ hz m_vX_0 m_vX_1 m_vX_2 m_vX_3 m_vX_4 m_vX_5 m_vS_0 m_vS_1 m_vS_2 m_vS_3 m_vS_4 m_vS_5 m_vA_0 m_vA_1 m_vA_2 m_vA_3 m_vA_4 m_vA_5 m_vB_0 m_vB_1 m_vB_2 m_vB_3 m_vB_4 m_vB_5 HQ HQc HN H0 hne
        go_wp2_with fail
        go_meet
        exact ⟨rfl, HS9⟩
      | true =>
        have he := alike_eq HAL.out.symm
        have LA : ∀ u v q a b k w', Reads w' u xa → Reads w' v ya → Reads w' q ha.ks → Reads w' a xb → Reads w' b yb → Reads w' k hb.ks → Calls Try.prog 12 #[.agg #[u, v, q, .int .i64 ha.kd, .int .i64 ha.ho, .int .i64 ha.tu], .agg #[a, b, k, .int .i64 hb.kd, .int .i64 hb.ho, .int .i64 hb.tu]] w' fun e w'' => e = .returned (.bool true) ∧ Below w'.heap.size w' w'' := by
          simp only [Sr.mk.injEq] at he
          obtain ⟨rfl, rfl, rfl⟩ := he
          exact fun u v q a b k w' h1 h2 h3 h4 h5 h6 => likeStore_any u v q a b k xa ya ha w' h1 h2 h3 h4 h5 h6 g1 g2 g3
        clear he
        repeat (refine giv_plain rfl (fun K hK => ?_); go_simp; refine hK _ ?_; clear hK K)
        refine giv_call (truth true) rfl (by first | rfl | kernel_rfl) (fun wq hB => ?_) (fun uq hu => ?_)
        · go_simp
          refine ⟨rfl, ?_⟩
          exact truth_of (fun _ h => h) (LA _ _ _ _ _ _ wq (TA1.out.below (HQc.out _ hB.1) (Nat.le_refl _)) (TA2.out.below (HQc.out _ hB.1) (Nat.le_refl _)) (TA3.out.below (HQc.out _ hB.1) (Nat.le_refl _)) (TB1.out.below (HQc.out _ hB.1) (Nat.le_refl _)) (TB2.out.below (HQc.out _ hB.1) (Nat.le_refl _)) (TB3.out.below (HQc.out _ hB.1) (Nat.le_refl _)))
        obtain rfl : uq = .bool true := hu
        repeat (refine giv_plain rfl (fun K hK => ?_); go_simp; refine hK _ ?_; clear hK K)
        refine giv_end (fun wz hz => ?_)
        have BZ : Hid (Below y4.heap.size y4 wz) := HQ.out _ hz.1
        have HS9 : Hid (Sta wd wz [Blk (wd.heap.size + 1) 30 #[.slice bao xb.length bac, .slice bbo yb.length bbc, .slice bko hb.ks.length bkc, .int .i64 hb.kd, .int .i64 hb.ho, .int .i64 hb.tu], Blk wd.heap.size 30 #[.slice aao xa.length aac, .slice abo ya.length abc, .slice ako ha.ks.length akc, .int .i64 ha.kd, .int .i64 ha.ho, .int .i64 ha.tu]]) := HS.out.next BZ.out
        clear HS BZ hz m_vX_0 m_vX_1 m_vX_2 m_vX_3 m_vX_4 m_vX_5 m_vS_0 m_vS_1 m_vS_2 m_vS_3 m_vS_4 m_vS_5 m_vA_0 m_vA_1 m_vA_2 m_vA_3 m_vA_4 m_vA_5 m_vB_0 m_vB_1 m_vB_2 m_vB_3 m_vB_4 m_vB_5 HQ HQc HN H0 hne
        go_wp2_with fail
        go_meet
        exact ⟨rfl, HS9⟩
    case rest =>
      clear HS
      obtain ⟨rfl, HS⟩ := hcut
      obtain ⟨y105, hy105⟩ : ∃ y105, y105 = wc := ⟨_, rfl⟩
      rw [← hy105] at HS ⊢
      clear hy105 IA SA LX HAL
      obtain ⟨ok, hok⟩ : ∃ ok, ok = Sr.ok ⟨xs, ys, h⟩ := ⟨_, rfl⟩
      have HOK : Hid (ok = Sr.ok ⟨xs, ys, h⟩) := hok
      have CS' := fun wx a b k h1 h2 h3 => sstoreok_any a b k xs ys h wx h1 h2 h3 gx gy gz
      rw [← hok] at CS'
      unfold SRV srA at CS'
      clear hok
      have p_vS_0 : y105.cell? ⟨gS, 0, none⟩ = some (.slice sao xs.length sac) := later_cell (KS.out.cell 0 rfl) HS.out.below
      have p_vS_1 : y105.cell? ⟨gS, 1, none⟩ = some (.slice sbo ys.length sbc) := later_cell (KS.out.cell 1 rfl) HS.out.below
      have p_vS_2 : y105.cell? ⟨gS, 2, none⟩ = some (.slice sko h.ks.length skc) := later_cell (KS.out.cell 2 rfl) HS.out.below
      have p_vS_3 : y105.cell? ⟨gS, 3, none⟩ = some (.int .i64 h.kd) := later_cell (KS.out.cell 3 rfl) HS.out.below
      have p_vS_4 : y105.cell? ⟨gS, 4, none⟩ = some (.int .i64 h.ho) := later_cell (KS.out.cell 4 rfl) HS.out.below
      have p_vS_5 : y105.cell? ⟨gS, 5, none⟩ = some (.int .i64 h.tu) := later_cell (KS.out.cell 5 rfl) HS.out.below
      go_wp2_with fail
      clear p_vS_0 p_vS_1 p_vS_2 p_vS_3 p_vS_4 p_vS_5
      refine (CS' _ _ _ _ (TS1.out.below HS.out.below (Nat.le_refl _)) (TS2.out.below HS.out.below (Nat.le_refl _)) (TS3.out.below HS.out.below (Nat.le_refl _))).mono ?_
      rintro e y106 ⟨rfl, by106⟩
      replace HS : Hid (Sta wd y106 [Blk (wd.heap.size + 1) 30 #[.slice bao xb.length bac, .slice bbo yb.length bbc, .slice bko hb.ks.length bkc, .int .i64 hb.kd, .int .i64 hb.ho, .int .i64 hb.tu], Blk wd.heap.size 30 #[.slice aao xa.length aac, .slice abo ya.length abc, .slice ako ha.ks.length akc, .int .i64 ha.kd, .int .i64 ha.ho, .int .i64 ha.tu]]) := HS.out.next by106
      clear by106
      clear CS'
      cases ok with
      | false =>
        have e : (⟨ks, ns, hh⟩ : Sr) = Sr.zero := by rw [HD.out]; unfold Sr.power; rw [← HOK.out]; rfl
        have E0 : ks = [] ∧ ns = [] ∧ hh = Hd.zero := by simpa [Sr.zero] using e
        have LZ' : ∀ u v q w', Reads w' u ks → Reads w' v ns → Reads w' q hh.ks → Calls Try.prog 12 #[.agg #[u, v, q, .int .i64 hh.kd, .int .i64 hh.ho, .int .i64 hh.tu], .agg #[.slice none 0 0, .slice none 0 0, .slice none 0 0, .int .i64 0, .int .i64 0, .int .i64 0]] w' fun e w'' => e = .returned (.bool true) ∧ Below w'.heap.size w' w'' := by
          obtain ⟨rfl, rfl, rfl⟩ := E0
          exact fun u v q w' h1 h2 h3 => likeStore_any u v q (.slice none 0 0) (.slice none 0 0) (.slice none 0 0) [] [] Hd.zero w' h1 h2 h3 (Own.nil w' 0).reads (Own.nil w' 0).reads (Own.nil w' 0).reads gk gn gh
        clear E0 e HD HOK
        have p_vX_0 : y106.cell? ⟨gX, 0, none⟩ = some (.slice aoX ks.length acX) := later_cell (KX.out.cell 0 rfl) HS.out.below
        have p_vX_1 : y106.cell? ⟨gX, 1, none⟩ = some (.slice boX ns.length bcX) := later_cell (KX.out.cell 1 rfl) HS.out.below
        have p_vX_2 : y106.cell? ⟨gX, 2, none⟩ = some (.slice koX hh.ks.length kcX) := later_cell (KX.out.cell 2 rfl) HS.out.below
        have p_vX_3 : y106.cell? ⟨gX, 3, none⟩ = some (.int .i64 hh.kd) := later_cell (KX.out.cell 3 rfl) HS.out.below
        have p_vX_4 : y106.cell? ⟨gX, 4, none⟩ = some (.int .i64 hh.ho) := later_cell (KX.out.cell 4 rfl) HS.out.below
        have p_vX_5 : y106.cell? ⟨gX, 5, none⟩ = some (.int .i64 hh.tu) := later_cell (KX.out.cell 5 rfl) HS.out.below
        go_wp2_with fail
        clear p_vX_0 p_vX_1 p_vX_2 p_vX_3 p_vX_4 p_vX_5
        refine (LZ' _ _ _ _ (TX1.out.below HS.out.below (Nat.le_refl _)) (TX2.out.below HS.out.below (Nat.le_refl _)) (TX3.out.below HS.out.below (Nat.le_refl _))).mono ?_
        rintro e y107 ⟨rfl, by107⟩
        replace HS : Hid (Sta wd y107 [Blk (wd.heap.size + 1) 30 #[.slice bao xb.length bac, .slice bbo yb.length bbc, .slice bko hb.ks.length bkc, .int .i64 hb.kd, .int .i64 hb.ho, .int .i64 hb.tu], Blk wd.heap.size 30 #[.slice aao xa.length aac, .slice abo ya.length abc, .slice ako ha.ks.length akc, .int .i64 ha.kd, .int .i64 ha.ho, .int .i64 ha.tu]]) := HS.out.next by107
        clear by107
        have HB : Hid (Below w.heap.size w _) := HBc.out.trans (HS.out.below.mono HBc.out.size)
        clear HS
        go_wp2
        go_ret
        exact ⟨rfl, HB.out⟩
      | true =>
        have HBO : Hid (bothOk xs ys = true ∧ h.ok = true) := by
          have e : (bothOk xs ys && h.ok) = true := HOK.out.symm
          rw [Hid]
          exact Bool.and_eq_true_iff.1 e
        have CF' := fun wx (e : Below wd.heap.size wd wx) => sflushed_any (.slice sao xs.length sac) (.slice sbo ys.length sbc) xs ys wx (TS1.out.below e (Nat.le_refl _)) (TS2.out.below e (Nat.le_refl _)) gx gy
        obtain ⟨zs, hzs⟩ : ∃ zs, zs = flN xs ys := ⟨_, rfl⟩
        rw [← hzs] at CF'
        have HZ : Hid (zs = ys) := by rw [Hid, hzs]; simp [flN, HBO.out.1]
        have gzs : zs.length ≤ 1099511627776 := by rw [HZ.out]; exact gy
        clear hzs
        have CF : Hid (∀ wx, Below wd.heap.size wd wx → Calls Try.prog 17 #[.agg #[.slice sao xs.length sac, .slice sbo ys.length sbc]] wx fun e w' => ∃ a b, e = .returned (.agg #[a, b]) ∧ OwnD w' wx.heap.size a b zs zs ∧ Below wx.heap.size wx w') := CF'
        clear CF'
        go_upto_region 10 with fail
        go_cut [8] (fun t wx => ∃ g fo fc eo ec, t = .pointer (some ⟨g, 0, none⟩) ∧ Hid (Sta wd wx [Blk (wd.heap.size + 1) 30 #[.slice bao xb.length bac, .slice bbo yb.length bbc, .slice bko hb.ks.length bkc, .int .i64 hb.kd, .int .i64 hb.ho, .int .i64 hb.tu], Blk wd.heap.size 30 #[.slice aao xa.length aac, .slice abo ya.length abc, .slice ako ha.ks.length akc, .int .i64 ha.kd, .int .i64 ha.ho, .int .i64 ha.tu]] ∧ StB wx g 30 #[.slice fo zs.length fc, .slice eo zs.length ec, .slice sko h.ks.length skc, .int .i64 h.kd, .int .i64 h.ho, .int .i64 h.tu] ∧ Reads wx (.slice fo zs.length fc) zs ∧ Reads wx (.slice eo zs.length ec) zs))
        case first =>
          as_aux_lemma =>
            obtain ⟨C, hCd⟩ : ∃ C, C = fun x => Below y106.heap.size y106 x := ⟨_, rfl⟩
            have HQ : Hid (∀ x, C x → Below y106.heap.size y106 x) := by rw [hCd]; exact fun _ h => h
            have HQc : Hid (∀ x, C x → Below wd.heap.size wd x) := fun x hx => HS.out.below.trans ((HQ.out x hx).mono HS.out.below.size)
            have HN : Hid (∀ x y, C x → Later x y → C y) := by rw [hCd]; exact fun _ _ h b => h.trans (b.mono h.size)
            have H0 : Hid (C y106.drew) := by rw [hCd]; exact (Below.refl _ _).drew
            have hne : Nonempty (Kin C) := ⟨⟨_, H0.out⟩⟩
            have m0 : ∀ q : Kin C, q.x.cell? ⟨gS, 0, none⟩ = some (.slice sao xs.length sac) := fun q => later_cell (KS.out.cell 0 rfl) (HQc.out _ q.h)
            have m1 : ∀ q : Kin C, q.x.cell? ⟨gS, 1, none⟩ = some (.slice sbo ys.length sbc) := fun q => later_cell (KS.out.cell 1 rfl) (HQc.out _ q.h)
            have m2 : ∀ q : Kin C, q.x.cell? ⟨gS, 2, none⟩ = some (.slice sko h.ks.length skc) := fun q => later_cell (KS.out.cell 2 rfl) (HQc.out _ q.h)
            have m3 : ∀ q : Kin C, q.x.cell? ⟨gS, 3, none⟩ = some (.int .i64 h.kd) := fun q => later_cell (KS.out.cell 3 rfl) (HQc.out _ q.h)
            have m4 : ∀ q : Kin C, q.x.cell? ⟨gS, 4, none⟩ = some (.int .i64 h.ho) := fun q => later_cell (KS.out.cell 4 rfl) (HQc.out _ q.h)
            have m5 : ∀ q : Kin C, q.x.cell? ⟨gS, 5, none⟩ = some (.int .i64 h.tu) := fun q => later_cell (KS.out.cell 5 rfl) (HQc.out _ q.h)
            clear hCd
            refine wp_region_giv_last (C := C) (E := byDst fun d => if d = 58 then some (dkO zs zs) else if d = 8 then some (alG y106.heap.size 30 #[.slice none 0 0, .slice none 0 0, .slice none 0 0, .int .i64 0, .int .i64 0, .int .i64 0]) else none) (R := Later) HN.out (byDst_later (by intro d s hs u x y hx hl; split at hs; (cases hs; exact dkO_later hx hl); split at hs; (cases hs; exact alG_later hx hl); cases hs)) (byDst_looks _ _) (by kernel_rfl) (by kernel_rfl) (by kernel_rfl) (by simp) H0.out ?_
            dsimp only [List.dropLast]
            repeat (refine giv_plain rfl (fun K hK => ?_); go_simp; refine hK _ ?_; clear hK K)
            refine giv_call (dkO zs zs) rfl (by first | rfl | kernel_rfl) (fun wq hB => ?_) (fun uq hu => ?_)
            · go_simp
              refine ⟨rfl, ?_⟩
              exact dkO_of (CF.out wq (HQc.out _ hB.1))
            obtain ⟨fo, fc, eo, ec, rfl⟩ := hu
            iterate 2 (refine giv_plain rfl (fun K hK => ?_); go_simp; refine hK _ ?_; clear hK K)
            refine giv_build2 rfl rfl _ _ _ _ _ rfl _ _ rfl rfl _ (built_store (.slice fo zs.length fc) (.slice eo zs.length ec) (.slice sko h.ks.length skc) (.int .i64 h.kd) (.int .i64 h.ho) (.int .i64 h.tu)) ?_
            refine giv_call (alG y106.heap.size 30 #[.slice none 0 0, .slice none 0 0, .slice none 0 0, .int .i64 0, .int .i64 0, .int .i64 0]) rfl (by first | rfl | kernel_rfl) (fun wq hB => ?_) (fun uq hu => ?_)
            · go_simp
              exact alG_of (HQ.out _ hB.1).size
            obtain ⟨g, rfl⟩ := hu
            repeat (refine giv_plain rfl (fun K hK => ?_); go_simp; refine hK _ ?_; clear hK K)
            refine giv_end (fun wz hz => ?_)
            have RG := (hz.2 _ (List.mem_cons_self ..)) g rfl
            have RD := (hz.2 _ (List.mem_cons_of_mem _ (List.mem_cons_self ..))) _ _ rfl
            have BZ := HQ.out _ hz.1
            refine last_put Try.isR rfl rfl _ _ rfl g #[.slice fo zs.length fc, .slice eo zs.length ec, .slice sko h.ks.length skc, .int .i64 h.kd, .int .i64 h.ho, .int .i64 h.tu] #[.slice none 0 0, .slice none 0 0, .slice none 0 0, .int .i64 0, .int .i64 0, .int .i64 0] rfl rfl rfl rfl (by simp [Value.oneCell']) RG.1 ?_
            intro we sE gE
            have HF : Hid (Sta wd we [Blk (wd.heap.size + 1) 30 #[.slice bao xb.length bac, .slice bbo yb.length bbc, .slice bko hb.ks.length bkc, .int .i64 hb.kd, .int .i64 hb.ho, .int .i64 hb.tu], Blk wd.heap.size 30 #[.slice aao xa.length aac, .slice abo ya.length abc, .slice ako ha.ks.length akc, .int .i64 ha.kd, .int .i64 ha.ho, .int .i64 ha.tu]] ∧ StB we g 30 #[.slice fo zs.length fc, .slice eo zs.length ec, .slice sko h.ks.length skc, .int .i64 h.kd, .int .i64 h.ho, .int .i64 h.tu] ∧ Reads we (.slice fo zs.length fc) zs ∧ Reads we (.slice eo zs.length ec) zs) := ⟨HS.out.next (bel_put BZ gE RG.2), sE, (RD.1.putBy RG.1 (by decide) gE).reads, (RD.2.putBy RG.1 (by decide) gE).reads⟩
            clear HS hz RG RD BZ sE gE HQ HQc HN H0 hne m0 m1 m2 m3 m4 m5
            go_wp2_with fail
            go_meet
            exact ⟨g, fo, fc, eo, ec, rfl, HF⟩
        case rest =>
          as_aux_lemma =>
            clear HS CF
            obtain ⟨gF, fo, fc, eo, ec, rfl, HT⟩ := hcut
            obtain ⟨y307, hy307⟩ : ∃ y307, y307 = wc := ⟨_, rfl⟩
            rw [← hy307] at HT ⊢
            clear hy307
            have HS : Hid (Sta wd y307 [Blk (wd.heap.size + 1) 30 #[.slice bao xb.length bac, .slice bbo yb.length bbc, .slice bko hb.ks.length bkc, .int .i64 hb.kd, .int .i64 hb.ho, .int .i64 hb.tu], Blk wd.heap.size 30 #[.slice aao xa.length aac, .slice abo ya.length abc, .slice ako ha.ks.length akc, .int .i64 ha.kd, .int .i64 ha.ho, .int .i64 ha.tu]]) := HT.out.1
            have KF : Hid (StB y307 gF 30 #[.slice fo zs.length fc, .slice eo zs.length ec, .slice sko h.ks.length skc, .int .i64 h.kd, .int .i64 h.ho, .int .i64 h.tu]) := HT.out.2.1
            have TF1 : Hid (Reads y307 (.slice fo zs.length fc) zs) := HT.out.2.2.1
            have TF2 : Hid (Reads y307 (.slice eo zs.length ec) zs) := HT.out.2.2.2
            clear HT
            have F1 := power_parts HD.out HOK.out.symm
            have FZ := flushed_is HOK.out.symm HZ.out set
            have IX' := fun wx a b k h1 h2 h3 => istoreok_any a b k ks ns hh wx h1 h2 h3 gk gn gh
            rw [F1.1] at IX'
            have LH' : ∀ wx u v, Reads wx u hh.ks → Reads wx v h.ks → Calls Try.prog 19 #[.agg #[u, .int .i64 hh.kd, .int .i64 hh.ho, .int .i64 hh.tu], .agg #[v, .int .i64 h.kd, .int .i64 h.ho, .int .i64 h.tu]] wx fun e w' => e = .returned (.bool true) ∧ Below wx.heap.size wx w' := by
              have e3 := F1.2.1
              subst e3
              intro wx u v h1 h2
              have := likeH_any u v hh hh wx h1 h2 gh
              rw [show likeH hh hh = true from likeH_same hh] at this
              exact this
            have SL' := fun wx a b h1 h2 => slost_any a b xs ys set wx h1 h2 gx gy
            rw [← F1.2.2.1, ← F1.2.2.2] at SL'
            have LD' := fun u v a b w' (h1 : Reads w' u ks) (h2 : Reads w' v ns) (h3 : Reads w' a ks) (h4 : Reads w' b ns) => likeDisk_any u v a b ks ns w' h1 h2 h3 h4 gk gn
            have PF' := fun wx a b k h1 h2 h3 => ipower_any a b k zs zs h set wx h1 h2 h3 gzs gzs gz
            rw [FZ.2] at PF'
            have AF' := fun u v q a b k w' h1 h2 h3 h4 h5 h6 => ialike_any u v q a b k zs zs zs zs h h w' h1 h2 h3 h4 h5 h6 gzs gzs gz gzs gzs gz
            rw [alike_self FZ.1] at AF'
            unfold SRV srA at IX' PF' AF'
            dsimp only at PF'
            have IX : Hid _ := IX'
            have LH : Hid _ := LH'
            have SL : Hid _ := SL'
            have LD : Hid _ := LD'
            have PF : Hid _ := PF'
            have AF : Hid _ := AF'
            clear IX' LH' SL' LD' PF' AF' FZ F1 HBO HD HOK HZ SP IP
            go_upto_region 11 with fail
            obtain ⟨C, hCd⟩ : ∃ C, C = fun x => Below y307.heap.size y307 x := ⟨_, rfl⟩
            have HQ : Hid (∀ x, C x → Below y307.heap.size y307 x) := by rw [hCd]; exact fun _ h => h
            have HQc : Hid (∀ x, C x → Below wd.heap.size wd x) := fun x hx => HS.out.below.trans ((HQ.out x hx).mono HS.out.below.size)
            have HN : Hid (∀ x y, C x → Later x y → C y) := by rw [hCd]; exact fun _ _ h b => h.trans (b.mono h.size)
            have H0 : Hid (C y307.drew) := by rw [hCd]; exact (Below.refl _ _).drew
            have hne : Nonempty (Kin C) := ⟨⟨_, H0.out⟩⟩
            have m_vX_0 : ∀ q : Kin C, q.x.cell? ⟨gX, 0, none⟩ = some (.slice aoX ks.length acX) := fun q => later_cell (KX.out.cell 0 rfl) (HQc.out _ q.h)
            have m_vX_1 : ∀ q : Kin C, q.x.cell? ⟨gX, 1, none⟩ = some (.slice boX ns.length bcX) := fun q => later_cell (KX.out.cell 1 rfl) (HQc.out _ q.h)
            have m_vX_2 : ∀ q : Kin C, q.x.cell? ⟨gX, 2, none⟩ = some (.slice koX hh.ks.length kcX) := fun q => later_cell (KX.out.cell 2 rfl) (HQc.out _ q.h)
            have m_vX_3 : ∀ q : Kin C, q.x.cell? ⟨gX, 3, none⟩ = some (.int .i64 hh.kd) := fun q => later_cell (KX.out.cell 3 rfl) (HQc.out _ q.h)
            have m_vX_4 : ∀ q : Kin C, q.x.cell? ⟨gX, 4, none⟩ = some (.int .i64 hh.ho) := fun q => later_cell (KX.out.cell 4 rfl) (HQc.out _ q.h)
            have m_vX_5 : ∀ q : Kin C, q.x.cell? ⟨gX, 5, none⟩ = some (.int .i64 hh.tu) := fun q => later_cell (KX.out.cell 5 rfl) (HQc.out _ q.h)
            have m_vS_0 : ∀ q : Kin C, q.x.cell? ⟨gS, 0, none⟩ = some (.slice sao xs.length sac) := fun q => later_cell (KS.out.cell 0 rfl) (HQc.out _ q.h)
            have m_vS_1 : ∀ q : Kin C, q.x.cell? ⟨gS, 1, none⟩ = some (.slice sbo ys.length sbc) := fun q => later_cell (KS.out.cell 1 rfl) (HQc.out _ q.h)
            have m_vS_2 : ∀ q : Kin C, q.x.cell? ⟨gS, 2, none⟩ = some (.slice sko h.ks.length skc) := fun q => later_cell (KS.out.cell 2 rfl) (HQc.out _ q.h)
            have m_vS_3 : ∀ q : Kin C, q.x.cell? ⟨gS, 3, none⟩ = some (.int .i64 h.kd) := fun q => later_cell (KS.out.cell 3 rfl) (HQc.out _ q.h)
            have m_vS_4 : ∀ q : Kin C, q.x.cell? ⟨gS, 4, none⟩ = some (.int .i64 h.ho) := fun q => later_cell (KS.out.cell 4 rfl) (HQc.out _ q.h)
            have m_vS_5 : ∀ q : Kin C, q.x.cell? ⟨gS, 5, none⟩ = some (.int .i64 h.tu) := fun q => later_cell (KS.out.cell 5 rfl) (HQc.out _ q.h)
            have m_vF_0 : ∀ q : Kin C, q.x.cell? ⟨gF, 0, none⟩ = some (.slice fo zs.length fc) := fun q => later_cell (KF.out.cell 0 rfl) (HQ.out _ q.h)
            have m_vF_1 : ∀ q : Kin C, q.x.cell? ⟨gF, 1, none⟩ = some (.slice eo zs.length ec) := fun q => later_cell (KF.out.cell 1 rfl) (HQ.out _ q.h)
            have m_vF_2 : ∀ q : Kin C, q.x.cell? ⟨gF, 2, none⟩ = some (.slice sko h.ks.length skc) := fun q => later_cell (KF.out.cell 2 rfl) (HQ.out _ q.h)
            have m_vF_3 : ∀ q : Kin C, q.x.cell? ⟨gF, 3, none⟩ = some (.int .i64 h.kd) := fun q => later_cell (KF.out.cell 3 rfl) (HQ.out _ q.h)
            have m_vF_4 : ∀ q : Kin C, q.x.cell? ⟨gF, 4, none⟩ = some (.int .i64 h.ho) := fun q => later_cell (KF.out.cell 4 rfl) (HQ.out _ q.h)
            have m_vF_5 : ∀ q : Kin C, q.x.cell? ⟨gF, 5, none⟩ = some (.int .i64 h.tu) := fun q => later_cell (KF.out.cell 5 rfl) (HQ.out _ q.h)
            clear hCd
            refine wp_region_giv (C := C) (E := byDst fun d => if d = 63 ∨ d = 69 ∨ d = 78 ∨ d = 85 then some (truth true) else if d = 77 then some (dkG ks ns) else if d = 83 then some (stG zs zs h) else none) (R := Later) HN.out (byDst_later (by intro d s hs u x y hx hl; split at hs; (cases hs; exact hx); split at hs; (cases hs; exact dkG_later hx hl); split at hs; (cases hs; exact stG_later hx hl); cases hs)) (byDst_looks _ _) (by kernel_rfl) (by kernel_rfl) H0.out ?_
            repeat (refine giv_plain rfl (fun K hK => ?_); go_simp; refine hK _ ?_; clear hK K)
            refine giv_call (truth true) rfl (by first | rfl | kernel_rfl) (fun wq hB => ?_) (fun uq hu => ?_)
            · go_simp
              refine ⟨rfl, ?_⟩
              exact truth_of (fun _ h => h) (IX.out wq _ _ _ (TX1.out.below (HQc.out _ hB.1) (Nat.le_refl _)) (TX2.out.below (HQc.out _ hB.1) (Nat.le_refl _)) (TX3.out.below (HQc.out _ hB.1) (Nat.le_refl _)))
            obtain rfl : uq = .bool true := hu
            repeat (refine giv_plain rfl (fun K hK => ?_); go_simp; refine hK _ ?_; clear hK K)
            refine giv_call (truth true) rfl (by first | rfl | kernel_rfl) (fun wq hB => ?_) (fun uq hu => ?_)
            · go_simp
              refine ⟨rfl, ?_⟩
              exact truth_of (fun _ h => h) (LH.out wq _ _ (TX3.out.below (HQc.out _ hB.1) (Nat.le_refl _)) (TS3.out.below (HQc.out _ hB.1) (Nat.le_refl _)))
            obtain rfl : uq = .bool true := hu
            repeat (refine giv_plain rfl (fun K hK => ?_); go_simp; refine hK _ ?_; clear hK K)
            refine giv_call (dkG ks ns) rfl (by first | rfl | kernel_rfl) (fun wq hB => ?_) (fun uq hu => ?_)
            · go_simp
              refine ⟨rfl, ?_⟩
              exact dkG_of (SL.out wq _ _ (TS1.out.below (HQc.out _ hB.1) (Nat.le_refl _)) (TS2.out.below (HQc.out _ hB.1) (Nat.le_refl _)))
            obtain ⟨pao, pac, pbo, pbc, rfl⟩ := hu
            repeat (refine giv_plain rfl (fun K hK => ?_); go_simp; refine hK _ ?_; clear hK K)
            refine giv_call (truth true) rfl (by first | rfl | kernel_rfl) (fun wq hB => ?_) (fun uq hu => ?_)
            · go_simp
              refine ⟨rfl, ?_⟩
              exact (by obtain ⟨r1, r2⟩ := hB.at0 rfl _ _ rfl; exact truth_of (fun _ h => h) (LD.out _ _ _ _ wq (TX1.out.below (HQc.out _ hB.1) (Nat.le_refl _)) (TX2.out.below (HQc.out _ hB.1) (Nat.le_refl _)) r1 r2))
            obtain rfl : uq = .bool true := hu
            repeat (refine giv_plain rfl (fun K hK => ?_); go_simp; refine hK _ ?_; clear hK K)
            refine giv_call (stG zs zs h) rfl (by first | rfl | kernel_rfl) (fun wq hB => ?_) (fun uq hu => ?_)
            · go_simp
              refine ⟨rfl, ?_⟩
              exact stG_of (PF.out wq _ _ _ (TF1.out.below (HQ.out _ hB.1) (Nat.le_refl _)) (TF2.out.below (HQ.out _ hB.1) (Nat.le_refl _)) (TS3.out.below (HQc.out _ hB.1) (Nat.le_refl _)))
            obtain ⟨qao, qac, qbo, qbc, qko, qkc, rfl⟩ := hu
            repeat (refine giv_plain rfl (fun K hK => ?_); go_simp; refine hK _ ?_; clear hK K)
            refine giv_call (truth true) rfl (by first | rfl | kernel_rfl) (fun wq hB => ?_) (fun uq hu => ?_)
            · go_simp
              refine ⟨rfl, ?_⟩
              exact (by obtain ⟨r1, r2, r3⟩ := hB.at0 rfl _ _ _ _ _ _ rfl; exact truth_of (fun _ h => h) (AF.out _ _ _ _ _ _ wq r1 r2 r3 (TF1.out.below (HQ.out _ hB.1) (Nat.le_refl _)) (TF2.out.below (HQ.out _ hB.1) (Nat.le_refl _)) (TS3.out.below (HQc.out _ hB.1) (Nat.le_refl _))))
            obtain rfl : uq = .bool true := hu
            repeat (refine giv_plain rfl (fun K hK => ?_); go_simp; refine hK _ ?_; clear hK K)
            refine giv_end (fun wz hz => ?_)
            have HB : Hid (Below w.heap.size w wz) := HBc.out.trans ((HQc.out _ hz.1).mono HBc.out.size)
            clear HS hz m_vX_0 m_vX_1 m_vX_2 m_vX_3 m_vX_4 m_vX_5 m_vS_0 m_vS_1 m_vS_2 m_vS_3 m_vS_4 m_vS_5 m_vF_0 m_vF_1 m_vF_2 m_vF_3 m_vF_4 m_vF_5 HQ HQc HN H0 hne
            go_wp2
            go_ret
            exact ⟨rfl, HB.out⟩

set_option maxRecDepth 100000 in
theorem lifted (os : Os) (started : os.Started) (H : Type) (enc : TypeId × Value → H) :
    ReturnsInHanded {} Try.checked os 3 .any (Rows.fnPowerSpec.pre6 enc Try.prog Try.f3 Rows.fnPowerRow.domain false) (Rows.fnPowerSpec.post enc Try.prog Try.f3 false true false false) := by
  refine returnsInHanded_of_change (C := Try.checked) own started (by kernel_rfl) Try.func3
    (ChangeSpec.witness6 (enc := enc) (C := Try.checked) false ⟨#[], #[.slice none 0 0], []⟩ 8 (by kernel_rfl) (by kernel_rfl) (by kernel_rfl) (by kernel_rfl)) ?_
  intro W base args ds gs before hval0 hW hcnd _
  have hval : ∀ (j : Nat) t v, Try.f3.params[j]? = some t → args[j]? = some v → Value.okWide Try.prog W .any base t v := hval0
  have hW' := hW
  obtain ⟨p, q, hA0, hV, rfl, hfz, hnd⟩ := hW
  have hA : DataW.TrodAll enc Try.prog W 0 (fun _ => true) true Try.f3.params.toList args.toList ds p := hA0
  rw [Try.params3] at hA hval
  obtain ⟨v0, vs0, d0, ds0, p0, q0, hargs, rfl, rfl, h0, r0⟩ := trodAll_cons hA
  obtain ⟨rfl, rfl, rfl⟩ := trodAll_nil r0
  obtain rfl : args = #[v0] := by cases args; simp_all
  obtain ⟨rfl, rfl⟩ := trodVars_none hV
  obtain ⟨a0, len0, cap0, rfl⟩ := okWide_slice Try.underlying22 (hval 0 22 v0 rfl rfl)
  have k0 := h0
  have lt0 : ∀ x ∈ p0, x.block < W.heap.size := by obtain ⟨m, hm⟩ := k0; exact DataW.trod_lt m _ _ _ hm
  obtain ⟨z0, w0⟩ : ∃ zs, IsRow .u8 W a0 len0 cap0 zs := by
    obtain ⟨fuel, hf⟩ := h0
    rcases open_ints Try.underlying22 Try.underlying5 (by kernel_rfl) hf with ⟨hcs, _⟩ | ⟨x, l, c, zs, hcs, _, hl, hm, hz, _, hcell, hwz⟩
    · simp [Value.cells] at hcs
      obtain ⟨rfl, rfl, rfl⟩ := hcs
      exact ⟨[], .inl ⟨rfl, rfl, rfl, rfl⟩⟩
    · simp [Value.cells] at hcs
      obtain ⟨rfl, rfl, rfl⟩ := hcs
      exact ⟨zs, .inr ⟨_, rfl, hl, hm, by simpa using hz, hcell, hwz⟩⟩
  clear hA0 hval0
  refine (walk a0 len0 cap0 z0 W w0).mono fun e W' ⟨he, bel⟩ => ?_
  subst he
  exact ⟨_, rfl, _, _, _, [], _, [], hW', trodAll_mk1 (shut_bool Try.underlying4 _), (trodAll_cons_mk (Below.trod laidOut (by kernel_rfl) (of_decide_eq_true (by kernel_rfl)) k0 bel lt0) trodAll_mk0), rfl, bel.frame _, fun h => by cases h⟩

theorem over : Rows.fnPowerRow.holds Try.pinned (OpenSpec.ofChange Rows.fnPowerSpec) :=
  OpenClaim.holds_of_wide 3 Try.f3 rfl rfl rfl rfl rfl rfl rfl ⟨rfl, rfl, rfl, rfl, rfl⟩ rfl rfl rfl rfl rfl (by kernel_rfl) Try.func3 (by kernel_rfl)
    (of_decide_eq_true (by kernel_rfl)) (by unfold Func.isWrapper; first | (rw [if_pos (by decide +kernel)]; kernel_rfl) | (rw [if_neg (by decide +kernel)]; exact ⟨rfl, rfl⟩))
    (fun os started H enc _ => lifted os started H enc)

theorem proved : Rows.FnPowerSaid := over
end Go.Proofs.Ytpdggofaobmnlaa.fnPower
namespace Go.Proofs.Ytpdggofaobmnlaa
theorem fnPower_holds : Rows.FnPowerSaid := fnPower.proved
end Go.Proofs.Ytpdggofaobmnlaa
