/- At every house Risen of the program answers as Risen of the model, in memory of its own that a second call leaves alone, and leaves what it was given as it was: the law FnExactRisen returns true, whatever it is given. -/
import Derived.Test.YteooloceaoinlaaGreatDoorRows
import Derived.WalkKit
import Derived.ProofKit
import Derived.OpenShut
import Derived.ShutString
import Derived.ChangeOld
import Derived.Below
import Derived.Test.YteooloceaoinlaaGreatDoorM20
import Derived.Test.YteooloceaoinlaaGreatDoorM32
import Derived.Test.YteooloceaoinlaaGreatDoorM34
import Derived.Test.YteooloceaoinlaaGreatDoorM37
import Derived.Test.YteooloceaoinlaaGreatDoorM38
import Derived.Test.YteooloceaoinlaaGreatDoorCards
import Derived.Test.YteooloceaoinlaaGreatDoorTie
import Derived.SevenTiedAt
import Derived.Lay
import Derived.LaidOnce
namespace Go.Proofs.YteooloceaoinlaaGreatDoor.fnExactRisen
open Go.ChangeShapes Go.WideShapes Go.ChangeAt Go.RowKit
open Go.ChangeMaps (open_string shut_string)
set_option linter.unusedVariables false

theorem own : ownKnob Tryz.prog.godebug = none := by kernel_rfl
theorem laidOut : laidOutB Tryz.prog = true := by kernel_rfl

set_option maxRecDepth 20000 in
set_option maxHeartbeats 20000000 in
theorem walk (r0 : Nd) (u0 v0 k0 q0 z0 : Value) (w : World) (f0 : RdN w u0 v0 k0 q0 z0 r0) (g0 : r0.r.Fit) (l0 : r0.log.length ≤ maxLen) (hT : Tab w) :
    Calls Tryz.prog 5 #[NdV u0 v0 k0 q0 z0 r0] w fun e w' => e = .returned (.bool true) ∧ Below w.heap.size w w' := by
  unfold maxLen at l0
  have HTab : Hid (Tab w) := hT
  clear hT
  have HR : Hid (∀ wx, Below w.heap.size w wx → RdN wx u0 v0 k0 q0 z0 r0) := fun wx b => f0.below b
  have CZ : Hid (∀ wx, Below w.heap.size w wx → Calls Tryz.prog 6 #[NdV u0 v0 k0 q0 z0 r0, .int .i64 1048576] wx fun e w' => e = .returned (.int .i64 (szI 1048576 (r0.len + r0.log.length))) ∧ Below wx.heap.size wx w') := fun wx b => szNode_any u0 v0 k0 q0 z0 r0 1048576 wx (HR.out wx b) (by omega) (by decide) (by decide)
  obtain ⟨ao0, ac0, rfl⟩ := reads_form f0.ra
  obtain ⟨bo0, bc0, rfl⟩ := reads_form f0.rb
  obtain ⟨ko0, kc0, rfl⟩ := reads_form f0.rk
  obtain ⟨qo0, qc0, rfl⟩ := reads_form f0.rq
  obtain ⟨zo0, zc0, rfl⟩ := reads_form f0.rz
  obtain ⟨w1, hw1⟩ : ∃ w1, w1 = w.alloc (.cells (ndA (.slice ao0 r0.xs.length ac0) (.slice bo0 r0.ys.length bc0) (.slice ko0 r0.h.ks.length kc0) (.slice qo0 r0.c.ts.length qc0) (.slice zo0 r0.s.ts.length zc0) r0) 34) := ⟨_, rfl⟩
  have HS : Hid (Sta w w1 [Blk w.heap.size 34 (ndA (.slice ao0 r0.xs.length ac0) (.slice bo0 r0.ys.length bc0) (.slice ko0 r0.h.ks.length kc0) (.slice qo0 r0.c.ts.length qc0) (.slice zo0 r0.s.ts.length zc0) r0)]) := by rw [hw1]; exact (Sta.start w).box _ _
  unfold NdV at CZ ⊢
  unfold ndA S at hw1
  conv in ndA (.slice ao0 _ ac0) _ _ _ _ _ => unfold ndA S
  clear f0 g0 l0
  go_enter Tryz.func5, Tryz.ntmps5
  go_upto_region 1 with fail
  rw [← hw1]
  clear hw1
  go_wp2_with (refine wpList_getSG Tryz.isLNd rfl _ rfl w.heap.size rfl (ndA (.slice ao0 r0.xs.length ac0) (.slice bo0 r0.ys.length bc0) (.slice ko0 r0.h.ks.length kc0) (.slice qo0 r0.c.ts.length qc0) (.slice zo0 r0.s.ts.length zc0) r0) rfl (HS.out.get 0 rfl) ?_)
  refine (CZ.out w1 HS.out.below).mono ?_
  rintro e w2 ⟨rfl, b2⟩
  replace HS : Hid (Sta w w2 [Blk w.heap.size 34 (ndA (.slice ao0 r0.xs.length ac0) (.slice bo0 r0.ys.length bc0) (.slice ko0 r0.h.ks.length kc0) (.slice qo0 r0.c.ts.length qc0) (.slice zo0 r0.s.ts.length zc0) r0)]) := HS.out.next b2
  clear b2 CZ
  by_cases hbig : r0.len + r0.log.length ≤ 1048576
  · have hsz : szI 1048576 (r0.len + r0.log.length) = 1048576 - ((r0.len + r0.log.length : Nat) : Int) := by simp only [szI]; rw [if_pos (by omega)]
    rw [hsz]
    clear hsz
    have HL : Hid (SmN r0) := SmN.of hbig
    obtain ⟨y, hy⟩ : ∃ y : Int, y = 1048576 - ((r0.len + r0.log.length : Nat) : Int) := ⟨_, rfl⟩
    have y0 : 0 ≤ y := by omega
    rw [← hy]
    have HLe : Hid (r0.len ≤ 1048576) := by rw [Hid]; omega
    clear hy hbig
    obtain ⟨m, hm⟩ : ∃ m, m = (r0.Rise).1 := ⟨_, rfl⟩
    obtain ⟨t, ht⟩ : ∃ t, t = (r0.Rise).2 := ⟨_, rfl⟩
    have HM : Hid (SmN m) := by rw [Hid, hm]; exact (Fine.rise r0).sm
    have HMb : Hid (m.len ≤ 1048576) := by rw [Hid, hm]; exact (Fine.rise r0).len
    have TN : Hid (∀ wx, Below w.heap.size w wx → Calls Tryz.prog 8 #[.agg (ndA (.slice ao0 r0.xs.length ac0) (.slice bo0 r0.ys.length bc0) (.slice ko0 r0.h.ks.length kc0) (.slice qo0 r0.c.ts.length qc0) (.slice zo0 r0.s.ts.length zc0) r0)] wx fun e w' => ∃ a' b' k' q' z', e = .returned (.agg (ndA a' b' k' q' z' r0)) ∧ OwnN w' wx.heap.size a' b' k' q' z' r0 ∧ Below wx.heap.size wx w') := fun wx b => toNode_any _ _ _ _ _ r0 wx (HR.out wx b) HL.out
    have SP : Hid (∀ a b k q z wx, RdN wx a b k q z r0 → Calls Tryz.prog 15 #[.agg (ndA a b k q z r0)] wx fun e w' => ∃ a' b' k' q' z', e = .returned (.tuple #[.agg (ndA a' b' k' q' z' m), .bool t]) ∧ OwnN w' wx.heap.size a' b' k' q' z' m ∧ Below wx.heap.size wx w') := fun a b k q z wx h => by rw [hm, ht]; exact sRisen_any a b k q z r0 wx h HL.out
    have IP : Hid (∀ a b k q z wx, RdN wx a b k q z r0 → Below w.heap.size w wx → Calls Tryz.prog 16 #[.agg (ndA a b k q z r0)] wx fun e w' => ∃ a' b' k' q' z', e = .returned (.tuple #[.agg (ndA a' b' k' q' z' m), .bool t]) ∧ MineN w' wx.heap.size a' b' k' q' z' m ∧ Below wx.heap.size wx w') := fun a b k q z wx h b' => by rw [hm, ht]; exact iRisen_any a b k q z r0 wx h HL.out (HTab.out.below b')
    have EQ : Hid (∀ a b k q z a' b' k' q' z' wx, RdN wx a b k q z m → RdN wx a' b' k' q' z' m → Calls Tryz.prog 10 #[.agg (ndA a b k q z m), .agg (ndA a' b' k' q' z' m)] wx fun e w' => e = .returned (.bool true) ∧ Below wx.heap.size wx w') := fun a b k q z a' b' k' q' z' wx h h' => eqNode_any a b k q z a' b' k' q' z' m wx h h' HM.out
    have EN : Hid (∀ a b k q z a' b' k' q' z' wx, RdN wx a b k q z r0 → RdN wx a' b' k' q' z' r0 → Calls Tryz.prog 10 #[.agg (ndA a b k q z r0), .agg (ndA a' b' k' q' z' r0)] wx fun e w' => e = .returned (.bool true) ∧ Below wx.heap.size wx w') := fun a b k q z a' b' k' q' z' wx h h' => eqNode_any a b k q z a' b' k' q' z' r0 wx h h' HL.out
    clear hm ht HR
    go_wp2_with (first | (refine wpList_getSG Tryz.isLNd rfl _ rfl w.heap.size rfl (ndA (.slice ao0 r0.xs.length ac0) (.slice bo0 r0.ys.length bc0) (.slice ko0 r0.h.ks.length kc0) (.slice qo0 r0.c.ts.length qc0) (.slice zo0 r0.s.ts.length zc0) r0) rfl (HS.out.get 0 rfl) ?_))
    refine (TN.out w2 HS.out.below).mono ?_
    rintro e y3 ⟨aT, bT, kT, qT, zT, rfl, oy3, by3⟩
    obtain ⟨aoT, acT, rfl⟩ := reads_form oy3.oa.reads
    obtain ⟨boT, bcT, rfl⟩ := reads_form oy3.ob.reads
    obtain ⟨koT, kcT, rfl⟩ := reads_form oy3.ok.reads
    obtain ⟨qoT, qcT, rfl⟩ := reads_form oy3.oq.reads
    obtain ⟨zoT, zcT, rfl⟩ := reads_form oy3.oz.reads
    replace HS : Hid (Sta w y3 [NdI (.slice aoT r0.xs.length acT) (.slice boT r0.ys.length bcT) (.slice koT r0.h.ks.length kcT) (.slice qoT r0.c.ts.length qcT) (.slice zoT r0.s.ts.length zcT) r0, Blk w.heap.size 34 (ndA (.slice ao0 r0.xs.length ac0) (.slice bo0 r0.ys.length bc0) (.slice ko0 r0.h.ks.length kc0) (.slice qo0 r0.c.ts.length qc0) (.slice zo0 r0.s.ts.length zc0) r0)]) := HS.out.house oy3.mine by3
    clear oy3 by3
    go_wp2_with fail
    refine (SP.out _ _ _ _ _ y3 (HS.out.rdN 0 rfl)).mono ?_
    rintro e y4 ⟨aW, bW, kW, qW, zW, rfl, oy4, by4⟩
    obtain ⟨aoW, acW, rfl⟩ := reads_form oy4.oa.reads
    obtain ⟨boW, bcW, rfl⟩ := reads_form oy4.ob.reads
    obtain ⟨koW, kcW, rfl⟩ := reads_form oy4.ok.reads
    obtain ⟨qoW, qcW, rfl⟩ := reads_form oy4.oq.reads
    obtain ⟨zoW, zcW, rfl⟩ := reads_form oy4.oz.reads
    replace HS : Hid (Sta w y4 [NdI (.slice aoW m.xs.length acW) (.slice boW m.ys.length bcW) (.slice koW m.h.ks.length kcW) (.slice qoW m.c.ts.length qcW) (.slice zoW m.s.ts.length zcW) m, NdI (.slice aoT r0.xs.length acT) (.slice boT r0.ys.length bcT) (.slice koT r0.h.ks.length kcT) (.slice qoT r0.c.ts.length qcT) (.slice zoT r0.s.ts.length zcT) r0, Blk w.heap.size 34 (ndA (.slice ao0 r0.xs.length ac0) (.slice bo0 r0.ys.length bc0) (.slice ko0 r0.h.ks.length kc0) (.slice qo0 r0.c.ts.length qc0) (.slice zo0 r0.s.ts.length zc0) r0)]) := HS.out.house oy4.mine by4
    clear oy4 by4
    have qy5 : StB (y4.alloc (.cells zeroNd 43)) y4.heap.size 43 zeroNd := StB.new y4 _ _
    go_upto_region 6 with (refine wpList_putS Tryz.isNd rfl _ _ rfl y4.heap.size (ndA (.slice aoW m.xs.length acW) (.slice boW m.ys.length bcW) (.slice koW m.h.ks.length kcW) (.slice qoW m.c.ts.length qcW) (.slice zoW m.s.ts.length zcW) m) zeroNd rfl rfl rfl rfl (ndA_one m rfl rfl rfl rfl rfl) qy5 ?_; intro y5 sy5 gy5)
    replace HS : Hid (Sta w y5 [Blk y4.heap.size 43 (ndA (.slice aoW m.xs.length acW) (.slice boW m.ys.length bcW) (.slice koW m.h.ks.length kcW) (.slice qoW m.c.ts.length qcW) (.slice zoW m.s.ts.length zcW) m), NdI (.slice aoW m.xs.length acW) (.slice boW m.ys.length bcW) (.slice koW m.h.ks.length kcW) (.slice qoW m.c.ts.length qcW) (.slice zoW m.s.ts.length zcW) m, NdI (.slice aoT r0.xs.length acT) (.slice boT r0.ys.length bcT) (.slice koT r0.h.ks.length kcT) (.slice qoT r0.c.ts.length qcT) (.slice zoT r0.s.ts.length zcT) r0, Blk w.heap.size 34 (ndA (.slice ao0 r0.xs.length ac0) (.slice bo0 r0.ys.length bc0) (.slice ko0 r0.h.ks.length kc0) (.slice qo0 r0.c.ts.length qc0) (.slice zo0 r0.s.ts.length zc0) r0)]) := HS.out.varS sy5 gy5
    clear qy5 sy5 gy5
    (try simp only [Act.put])
    go_wp2_with (first | (refine wpList_getSG Tryz.isLNd rfl _ rfl w.heap.size rfl (ndA (.slice ao0 r0.xs.length ac0) (.slice bo0 r0.ys.length bc0) (.slice ko0 r0.h.ks.length kc0) (.slice qo0 r0.c.ts.length qc0) (.slice zo0 r0.s.ts.length zc0) r0) rfl (HS.out.get 3 rfl) ?_))
    refine (TN.out y5 HS.out.below).mono ?_
    rintro e y6 ⟨aX, bX, kX, qX, zX, rfl, oy6, by6⟩
    obtain ⟨aoX, acX, rfl⟩ := reads_form oy6.oa.reads
    obtain ⟨boX, bcX, rfl⟩ := reads_form oy6.ob.reads
    obtain ⟨koX, kcX, rfl⟩ := reads_form oy6.ok.reads
    obtain ⟨qoX, qcX, rfl⟩ := reads_form oy6.oq.reads
    obtain ⟨zoX, zcX, rfl⟩ := reads_form oy6.oz.reads
    replace HS : Hid (Sta w y6 [NdI (.slice aoX r0.xs.length acX) (.slice boX r0.ys.length bcX) (.slice koX r0.h.ks.length kcX) (.slice qoX r0.c.ts.length qcX) (.slice zoX r0.s.ts.length zcX) r0, Blk y4.heap.size 43 (ndA (.slice aoW m.xs.length acW) (.slice boW m.ys.length bcW) (.slice koW m.h.ks.length kcW) (.slice qoW m.c.ts.length qcW) (.slice zoW m.s.ts.length zcW) m), NdI (.slice aoW m.xs.length acW) (.slice boW m.ys.length bcW) (.slice koW m.h.ks.length kcW) (.slice qoW m.c.ts.length qcW) (.slice zoW m.s.ts.length zcW) m, NdI (.slice aoT r0.xs.length acT) (.slice boT r0.ys.length bcT) (.slice koT r0.h.ks.length kcT) (.slice qoT r0.c.ts.length qcT) (.slice zoT r0.s.ts.length zcT) r0, Blk w.heap.size 34 (ndA (.slice ao0 r0.xs.length ac0) (.slice bo0 r0.ys.length bc0) (.slice ko0 r0.h.ks.length kc0) (.slice qo0 r0.c.ts.length qc0) (.slice zo0 r0.s.ts.length zc0) r0)]) := HS.out.house oy6.mine by6
    clear oy6 by6
    have qy7 : StB (y6.alloc (.cells zeroNd 43)) y6.heap.size 43 zeroNd := StB.new y6 _ _
    go_upto_region 7 with (refine wpList_putS Tryz.isNd rfl _ _ rfl y6.heap.size (ndA (.slice aoX r0.xs.length acX) (.slice boX r0.ys.length bcX) (.slice koX r0.h.ks.length kcX) (.slice qoX r0.c.ts.length qcX) (.slice zoX r0.s.ts.length zcX) r0) zeroNd rfl rfl rfl rfl (ndA_one r0 rfl rfl rfl rfl rfl) qy7 ?_; intro y7 sy7 gy7)
    replace HS : Hid (Sta w y7 [Blk y6.heap.size 43 (ndA (.slice aoX r0.xs.length acX) (.slice boX r0.ys.length bcX) (.slice koX r0.h.ks.length kcX) (.slice qoX r0.c.ts.length qcX) (.slice zoX r0.s.ts.length zcX) r0), NdI (.slice aoX r0.xs.length acX) (.slice boX r0.ys.length bcX) (.slice koX r0.h.ks.length kcX) (.slice qoX r0.c.ts.length qcX) (.slice zoX r0.s.ts.length zcX) r0, Blk y4.heap.size 43 (ndA (.slice aoW m.xs.length acW) (.slice boW m.ys.length bcW) (.slice koW m.h.ks.length kcW) (.slice qoW m.c.ts.length qcW) (.slice zoW m.s.ts.length zcW) m), NdI (.slice aoW m.xs.length acW) (.slice boW m.ys.length bcW) (.slice koW m.h.ks.length kcW) (.slice qoW m.c.ts.length qcW) (.slice zoW m.s.ts.length zcW) m, NdI (.slice aoT r0.xs.length acT) (.slice boT r0.ys.length bcT) (.slice koT r0.h.ks.length kcT) (.slice qoT r0.c.ts.length qcT) (.slice zoT r0.s.ts.length zcT) r0, Blk w.heap.size 34 (ndA (.slice ao0 r0.xs.length ac0) (.slice bo0 r0.ys.length bc0) (.slice ko0 r0.h.ks.length kc0) (.slice qo0 r0.c.ts.length qc0) (.slice zo0 r0.s.ts.length zc0) r0)]) := HS.out.varS sy7 gy7
    clear qy7 sy7 gy7
    (try simp only [Act.put])
    go_wp2_with (first | (refine wpList_getSG Tryz.isNd rfl _ rfl y6.heap.size rfl (ndA (.slice aoX r0.xs.length acX) (.slice boX r0.ys.length bcX) (.slice koX r0.h.ks.length kcX) (.slice qoX r0.c.ts.length qcX) (.slice zoX r0.s.ts.length zcX) r0) rfl (HS.out.get 0 rfl) ?_))
    refine (IP.out _ _ _ _ _ y7 (HS.out.rdN 1 rfl) HS.out.below).mono ?_
    rintro e y8 ⟨aG, bG, kG, qG, zG, rfl, oy8, by8⟩
    obtain ⟨aoG, acG, rfl⟩ := reads_form oy8.oa.reads
    obtain ⟨boG, bcG, rfl⟩ := reads_form oy8.ob.reads
    obtain ⟨koG, kcG, rfl⟩ := reads_form oy8.ok.reads
    obtain ⟨qoG, qcG, rfl⟩ := reads_form oy8.oq.reads
    obtain ⟨zoG, zcG, rfl⟩ := reads_form oy8.oz.reads
    replace HS : Hid (Sta w y8 [NdI (.slice aoG m.xs.length acG) (.slice boG m.ys.length bcG) (.slice koG m.h.ks.length kcG) (.slice qoG m.c.ts.length qcG) (.slice zoG m.s.ts.length zcG) m, Blk y6.heap.size 43 (ndA (.slice aoX r0.xs.length acX) (.slice boX r0.ys.length bcX) (.slice koX r0.h.ks.length kcX) (.slice qoX r0.c.ts.length qcX) (.slice zoX r0.s.ts.length zcX) r0), NdI (.slice aoX r0.xs.length acX) (.slice boX r0.ys.length bcX) (.slice koX r0.h.ks.length kcX) (.slice qoX r0.c.ts.length qcX) (.slice zoX r0.s.ts.length zcX) r0, Blk y4.heap.size 43 (ndA (.slice aoW m.xs.length acW) (.slice boW m.ys.length bcW) (.slice koW m.h.ks.length kcW) (.slice qoW m.c.ts.length qcW) (.slice zoW m.s.ts.length zcW) m), NdI (.slice aoW m.xs.length acW) (.slice boW m.ys.length bcW) (.slice koW m.h.ks.length kcW) (.slice qoW m.c.ts.length qcW) (.slice zoW m.s.ts.length zcW) m, NdI (.slice aoT r0.xs.length acT) (.slice boT r0.ys.length bcT) (.slice koT r0.h.ks.length kcT) (.slice qoT r0.c.ts.length qcT) (.slice zoT r0.s.ts.length zcT) r0, Blk w.heap.size 34 (ndA (.slice ao0 r0.xs.length ac0) (.slice bo0 r0.ys.length bc0) (.slice ko0 r0.h.ks.length kc0) (.slice qo0 r0.c.ts.length qc0) (.slice zo0 r0.s.ts.length zc0) r0)]) := HS.out.house oy8 by8
    clear oy8 by8
    have qy9 : StB (y8.alloc (.cells zeroNd 43)) y8.heap.size 43 zeroNd := StB.new y8 _ _
    go_upto_region 8 with (refine wpList_putS Tryz.isNd rfl _ _ rfl y8.heap.size (ndA (.slice aoG m.xs.length acG) (.slice boG m.ys.length bcG) (.slice koG m.h.ks.length kcG) (.slice qoG m.c.ts.length qcG) (.slice zoG m.s.ts.length zcG) m) zeroNd rfl rfl rfl rfl (ndA_one m rfl rfl rfl rfl rfl) qy9 ?_; intro y9 sy9 gy9)
    replace HS : Hid (Sta w y9 [Blk y8.heap.size 43 (ndA (.slice aoG m.xs.length acG) (.slice boG m.ys.length bcG) (.slice koG m.h.ks.length kcG) (.slice qoG m.c.ts.length qcG) (.slice zoG m.s.ts.length zcG) m), NdI (.slice aoG m.xs.length acG) (.slice boG m.ys.length bcG) (.slice koG m.h.ks.length kcG) (.slice qoG m.c.ts.length qcG) (.slice zoG m.s.ts.length zcG) m, Blk y6.heap.size 43 (ndA (.slice aoX r0.xs.length acX) (.slice boX r0.ys.length bcX) (.slice koX r0.h.ks.length kcX) (.slice qoX r0.c.ts.length qcX) (.slice zoX r0.s.ts.length zcX) r0), NdI (.slice aoX r0.xs.length acX) (.slice boX r0.ys.length bcX) (.slice koX r0.h.ks.length kcX) (.slice qoX r0.c.ts.length qcX) (.slice zoX r0.s.ts.length zcX) r0, Blk y4.heap.size 43 (ndA (.slice aoW m.xs.length acW) (.slice boW m.ys.length bcW) (.slice koW m.h.ks.length kcW) (.slice qoW m.c.ts.length qcW) (.slice zoW m.s.ts.length zcW) m), NdI (.slice aoW m.xs.length acW) (.slice boW m.ys.length bcW) (.slice koW m.h.ks.length kcW) (.slice qoW m.c.ts.length qcW) (.slice zoW m.s.ts.length zcW) m, NdI (.slice aoT r0.xs.length acT) (.slice boT r0.ys.length bcT) (.slice koT r0.h.ks.length kcT) (.slice qoT r0.c.ts.length qcT) (.slice zoT r0.s.ts.length zcT) r0, Blk w.heap.size 34 (ndA (.slice ao0 r0.xs.length ac0) (.slice bo0 r0.ys.length bc0) (.slice ko0 r0.h.ks.length kc0) (.slice qo0 r0.c.ts.length qc0) (.slice zo0 r0.s.ts.length zc0) r0)]) := HS.out.varS sy9 gy9
    clear qy9 sy9 gy9
    (try simp only [Act.put])
    go_wp2_with (first | (refine wpList_getSG Tryz.isNd rfl _ rfl y8.heap.size rfl (ndA (.slice aoG m.xs.length acG) (.slice boG m.ys.length bcG) (.slice koG m.h.ks.length kcG) (.slice qoG m.c.ts.length qcG) (.slice zoG m.s.ts.length zcG) m) rfl (HS.out.get 0 rfl) ?_) | (refine wpList_getSG Tryz.isNd rfl _ rfl y4.heap.size rfl (ndA (.slice aoW m.xs.length acW) (.slice boW m.ys.length bcW) (.slice koW m.h.ks.length kcW) (.slice qoW m.c.ts.length qcW) (.slice zoW m.s.ts.length zcW) m) rfl (HS.out.get 4 rfl) ?_))
    refine (EQ.out _ _ _ _ _ _ _ _ _ _ y9 (HS.out.rdN 1 rfl) (HS.out.rdN 5 rfl)).mono ?_
    rintro e y10 ⟨rfl, by10⟩
    replace HS : Hid (Sta w y10 [Blk y8.heap.size 43 (ndA (.slice aoG m.xs.length acG) (.slice boG m.ys.length bcG) (.slice koG m.h.ks.length kcG) (.slice qoG m.c.ts.length qcG) (.slice zoG m.s.ts.length zcG) m), NdI (.slice aoG m.xs.length acG) (.slice boG m.ys.length bcG) (.slice koG m.h.ks.length kcG) (.slice qoG m.c.ts.length qcG) (.slice zoG m.s.ts.length zcG) m, Blk y6.heap.size 43 (ndA (.slice aoX r0.xs.length acX) (.slice boX r0.ys.length bcX) (.slice koX r0.h.ks.length kcX) (.slice qoX r0.c.ts.length qcX) (.slice zoX r0.s.ts.length zcX) r0), NdI (.slice aoX r0.xs.length acX) (.slice boX r0.ys.length bcX) (.slice koX r0.h.ks.length kcX) (.slice qoX r0.c.ts.length qcX) (.slice zoX r0.s.ts.length zcX) r0, Blk y4.heap.size 43 (ndA (.slice aoW m.xs.length acW) (.slice boW m.ys.length bcW) (.slice koW m.h.ks.length kcW) (.slice qoW m.c.ts.length qcW) (.slice zoW m.s.ts.length zcW) m), NdI (.slice aoW m.xs.length acW) (.slice boW m.ys.length bcW) (.slice koW m.h.ks.length kcW) (.slice qoW m.c.ts.length qcW) (.slice zoW m.s.ts.length zcW) m, NdI (.slice aoT r0.xs.length acT) (.slice boT r0.ys.length bcT) (.slice koT r0.h.ks.length kcT) (.slice qoT r0.c.ts.length qcT) (.slice zoT r0.s.ts.length zcT) r0, Blk w.heap.size 34 (ndA (.slice ao0 r0.xs.length ac0) (.slice bo0 r0.ys.length bc0) (.slice ko0 r0.h.ks.length kc0) (.slice qo0 r0.c.ts.length qc0) (.slice zo0 r0.s.ts.length zc0) r0)]) := HS.out.next by10
    clear by10
    go_upto_region 10 with fail
    obtain ⟨C, hCd⟩ : ∃ C, C = fun x => Sta w x [Blk y8.heap.size 43 (ndA (.slice aoG m.xs.length acG) (.slice boG m.ys.length bcG) (.slice koG m.h.ks.length kcG) (.slice qoG m.c.ts.length qcG) (.slice zoG m.s.ts.length zcG) m), NdI (.slice aoG m.xs.length acG) (.slice boG m.ys.length bcG) (.slice koG m.h.ks.length kcG) (.slice qoG m.c.ts.length qcG) (.slice zoG m.s.ts.length zcG) m, Blk y6.heap.size 43 (ndA (.slice aoX r0.xs.length acX) (.slice boX r0.ys.length bcX) (.slice koX r0.h.ks.length kcX) (.slice qoX r0.c.ts.length qcX) (.slice zoX r0.s.ts.length zcX) r0), NdI (.slice aoX r0.xs.length acX) (.slice boX r0.ys.length bcX) (.slice koX r0.h.ks.length kcX) (.slice qoX r0.c.ts.length qcX) (.slice zoX r0.s.ts.length zcX) r0, Blk y4.heap.size 43 (ndA (.slice aoW m.xs.length acW) (.slice boW m.ys.length bcW) (.slice koW m.h.ks.length kcW) (.slice qoW m.c.ts.length qcW) (.slice zoW m.s.ts.length zcW) m), NdI (.slice aoW m.xs.length acW) (.slice boW m.ys.length bcW) (.slice koW m.h.ks.length kcW) (.slice qoW m.c.ts.length qcW) (.slice zoW m.s.ts.length zcW) m, NdI (.slice aoT r0.xs.length acT) (.slice boT r0.ys.length bcT) (.slice koT r0.h.ks.length kcT) (.slice qoT r0.c.ts.length qcT) (.slice zoT r0.s.ts.length zcT) r0, Blk w.heap.size 34 (ndA (.slice ao0 r0.xs.length ac0) (.slice bo0 r0.ys.length bc0) (.slice ko0 r0.h.ks.length kc0) (.slice qo0 r0.c.ts.length qc0) (.slice zo0 r0.s.ts.length zc0) r0)] := ⟨_, rfl⟩
    have HQ : Hid (∀ x, C x → Sta w x [Blk y8.heap.size 43 (ndA (.slice aoG m.xs.length acG) (.slice boG m.ys.length bcG) (.slice koG m.h.ks.length kcG) (.slice qoG m.c.ts.length qcG) (.slice zoG m.s.ts.length zcG) m), NdI (.slice aoG m.xs.length acG) (.slice boG m.ys.length bcG) (.slice koG m.h.ks.length kcG) (.slice qoG m.c.ts.length qcG) (.slice zoG m.s.ts.length zcG) m, Blk y6.heap.size 43 (ndA (.slice aoX r0.xs.length acX) (.slice boX r0.ys.length bcX) (.slice koX r0.h.ks.length kcX) (.slice qoX r0.c.ts.length qcX) (.slice zoX r0.s.ts.length zcX) r0), NdI (.slice aoX r0.xs.length acX) (.slice boX r0.ys.length bcX) (.slice koX r0.h.ks.length kcX) (.slice qoX r0.c.ts.length qcX) (.slice zoX r0.s.ts.length zcX) r0, Blk y4.heap.size 43 (ndA (.slice aoW m.xs.length acW) (.slice boW m.ys.length bcW) (.slice koW m.h.ks.length kcW) (.slice qoW m.c.ts.length qcW) (.slice zoW m.s.ts.length zcW) m), NdI (.slice aoW m.xs.length acW) (.slice boW m.ys.length bcW) (.slice koW m.h.ks.length kcW) (.slice qoW m.c.ts.length qcW) (.slice zoW m.s.ts.length zcW) m, NdI (.slice aoT r0.xs.length acT) (.slice boT r0.ys.length bcT) (.slice koT r0.h.ks.length kcT) (.slice qoT r0.c.ts.length qcT) (.slice zoT r0.s.ts.length zcT) r0, Blk w.heap.size 34 (ndA (.slice ao0 r0.xs.length ac0) (.slice bo0 r0.ys.length bc0) (.slice ko0 r0.h.ks.length kc0) (.slice qo0 r0.c.ts.length qc0) (.slice zo0 r0.s.ts.length zc0) r0)]) := by rw [hCd]; exact fun _ h => h
    have HN : Hid (∀ x y, C x → Later x y → C y) := by rw [hCd]; exact fun _ _ h b => h.next b
    have H0 : Hid (C y10.drew) := by rw [hCd]; exact HS.out.drew1
    have hne : Nonempty (Kin C) := ⟨⟨_, H0.out⟩⟩
    clear hCd
    refine wp_region_gs (C := C) (E := byDst fun d => if d = 43 then some (nodeG r0) else if d = 44 then some (truth true) else none) (R := Later) HN.out (byDst_later (by intro d s hs u x y hx hl; split at hs; (cases hs; exact nodeG_later hx hl); split at hs; (cases hs; exact truthC_later hx hl); cases hs)) (byDst_looks _ _) (by kernel_rfl) (by kernel_rfl) H0.out ?_
    refine gs_loadS Tryz.isNd rfl rfl _ rfl y6.heap.size rfl (ndA (.slice aoX r0.xs.length acX) (.slice boX r0.ys.length bcX) (.slice koX r0.h.ks.length kcX) (.slice qoX r0.c.ts.length qcX) (.slice zoX r0.s.ts.length zcX) r0) rfl (fun q => (HQ.out _ q.h).get 2 rfl) ?_
    refine gs_loadS Tryz.isLNd rfl rfl _ rfl w.heap.size rfl (ndA (.slice ao0 r0.xs.length ac0) (.slice bo0 r0.ys.length bc0) (.slice ko0 r0.h.ks.length kc0) (.slice qo0 r0.c.ts.length qc0) (.slice zo0 r0.s.ts.length zc0) r0) rfl (fun q => (HQ.out _ q.h).get 7 rfl) ?_
    refine gs_call (nodeG r0) rfl (by first | rfl | kernel_rfl) (fun wq hB => ?_) (fun uq hu => ?_)
    · go_simp
      refine ⟨rfl, ?_⟩
      exact nodeG_of (TN.out _ (HQ.out _ hB.1).below)
    obtain ⟨aQ, bQ, kQ, qQ, zQ, rfl⟩ := hu
    refine gs_call (truth true) rfl (by first | rfl | kernel_rfl) (fun wq hB => ?_) (fun uq hu => ?_)
    · have hA := nodeG_rd (hB.at0 rfl)
      go_simp
      refine ⟨rfl, ?_⟩
      exact truth_of (fun _ h => h) (EN.out _ _ _ _ _ _ _ _ _ _ _ ((HQ.out _ hB.1).rdN 3 rfl) hA)
    obtain rfl := hu
    repeat (refine gs_plain rfl (fun K hK => ?_); go_simp; refine hK _ ?_; clear hK K)
    refine gs_end (fun y11 hz => ?_)
    clear HS
    have HS : Hid (Sta w y11 [Blk y8.heap.size 43 (ndA (.slice aoG m.xs.length acG) (.slice boG m.ys.length bcG) (.slice koG m.h.ks.length kcG) (.slice qoG m.c.ts.length qcG) (.slice zoG m.s.ts.length zcG) m), NdI (.slice aoG m.xs.length acG) (.slice boG m.ys.length bcG) (.slice koG m.h.ks.length kcG) (.slice qoG m.c.ts.length qcG) (.slice zoG m.s.ts.length zcG) m, Blk y6.heap.size 43 (ndA (.slice aoX r0.xs.length acX) (.slice boX r0.ys.length bcX) (.slice koX r0.h.ks.length kcX) (.slice qoX r0.c.ts.length qcX) (.slice zoX r0.s.ts.length zcX) r0), NdI (.slice aoX r0.xs.length acX) (.slice boX r0.ys.length bcX) (.slice koX r0.h.ks.length kcX) (.slice qoX r0.c.ts.length qcX) (.slice zoX r0.s.ts.length zcX) r0, Blk y4.heap.size 43 (ndA (.slice aoW m.xs.length acW) (.slice boW m.ys.length bcW) (.slice koW m.h.ks.length kcW) (.slice qoW m.c.ts.length qcW) (.slice zoW m.s.ts.length zcW) m), NdI (.slice aoW m.xs.length acW) (.slice boW m.ys.length bcW) (.slice koW m.h.ks.length kcW) (.slice qoW m.c.ts.length qcW) (.slice zoW m.s.ts.length zcW) m, NdI (.slice aoT r0.xs.length acT) (.slice boT r0.ys.length bcT) (.slice koT r0.h.ks.length kcT) (.slice qoT r0.c.ts.length qcT) (.slice zoT r0.s.ts.length zcT) r0, Blk w.heap.size 34 (ndA (.slice ao0 r0.xs.length ac0) (.slice bo0 r0.ys.length bc0) (.slice ko0 r0.h.ks.length kc0) (.slice qo0 r0.c.ts.length qc0) (.slice zo0 r0.s.ts.length zc0) r0)]) := HQ.out _ hz.1
    clear hz HQ HN H0 hne
    have HLb : Hid (r0.len ≤ 1048576) := HLe
    go_wp2_with (first | (refine wpList_getSG Tryz.isNd rfl _ rfl y6.heap.size rfl (ndA (.slice aoX r0.xs.length acX) (.slice boX r0.ys.length bcX) (.slice koX r0.h.ks.length kcX) (.slice qoX r0.c.ts.length qcX) (.slice zoX r0.s.ts.length zcX) r0) rfl (HS.out.get 2 rfl) ?_))
    refine (markNode_any _ _ _ _ _ r0 1 _ 0 (HS.out.get 3 rfl) HLb.out (by decide) (by decide)).mono ?_
    rintro e y12 ⟨rfl, oy12, my12⟩
    replace HS : Hid (Sta w y12 [Blk y8.heap.size 43 (ndA (.slice aoG m.xs.length acG) (.slice boG m.ys.length bcG) (.slice koG m.h.ks.length kcG) (.slice qoG m.c.ts.length qcG) (.slice zoG m.s.ts.length zcG) m), NdI (.slice aoG m.xs.length acG) (.slice boG m.ys.length bcG) (.slice koG m.h.ks.length kcG) (.slice qoG m.c.ts.length qcG) (.slice zoG m.s.ts.length zcG) m, Blk y6.heap.size 43 (ndA (.slice aoX r0.xs.length acX) (.slice boX r0.ys.length bcX) (.slice koX r0.h.ks.length kcX) (.slice qoX r0.c.ts.length qcX) (.slice zoX r0.s.ts.length zcX) r0), NdI (.slice aoX r0.xs.length acX) (.slice boX r0.ys.length bcX) (.slice koX r0.h.ks.length kcX) (.slice qoX r0.c.ts.length qcX) (.slice zoX r0.s.ts.length zcX) (r0.inked 1), Blk y4.heap.size 43 (ndA (.slice aoW m.xs.length acW) (.slice boW m.ys.length bcW) (.slice koW m.h.ks.length kcW) (.slice qoW m.c.ts.length qcW) (.slice zoW m.s.ts.length zcW) m), NdI (.slice aoW m.xs.length acW) (.slice boW m.ys.length bcW) (.slice koW m.h.ks.length kcW) (.slice qoW m.c.ts.length qcW) (.slice zoW m.s.ts.length zcW) m, NdI (.slice aoT r0.xs.length acT) (.slice boT r0.ys.length bcT) (.slice koT r0.h.ks.length kcT) (.slice qoT r0.c.ts.length qcT) (.slice zoT r0.s.ts.length zcT) r0, Blk w.heap.size 34 (ndA (.slice ao0 r0.xs.length ac0) (.slice bo0 r0.ys.length bc0) (.slice ko0 r0.h.ks.length kc0) (.slice qo0 r0.c.ts.length qc0) (.slice zo0 r0.s.ts.length zc0) r0)]) := HS.out.ink 3 rfl oy12 my12
    clear oy12 my12
    have hk0 : 0 ≤ 1 + (r0.xs.length : Int) + r0.ys.length + r0.h.ks.length + r0.c.ts.length + r0.s.ts.length := by omega
    go_wp2_with (first | (refine wpList_getSG Tryz.isNd rfl _ rfl y8.heap.size rfl (ndA (.slice aoG m.xs.length acG) (.slice boG m.ys.length bcG) (.slice koG m.h.ks.length kcG) (.slice qoG m.c.ts.length qcG) (.slice zoG m.s.ts.length zcG) m) rfl (HS.out.get 0 rfl) ?_) | (refine wpList_getSG Tryz.isNd rfl _ rfl y4.heap.size rfl (ndA (.slice aoW m.xs.length acW) (.slice boW m.ys.length bcW) (.slice koW m.h.ks.length kcW) (.slice qoW m.c.ts.length qcW) (.slice zoW m.s.ts.length zcW) m) rfl (HS.out.get 4 rfl) ?_))
    refine (EQ.out _ _ _ _ _ _ _ _ _ _ y12 (HS.out.rdN 1 rfl) (HS.out.rdN 5 rfl)).mono ?_
    rintro e y13 ⟨rfl, by13⟩
    replace HS : Hid (Sta w y13 [Blk y8.heap.size 43 (ndA (.slice aoG m.xs.length acG) (.slice boG m.ys.length bcG) (.slice koG m.h.ks.length kcG) (.slice qoG m.c.ts.length qcG) (.slice zoG m.s.ts.length zcG) m), NdI (.slice aoG m.xs.length acG) (.slice boG m.ys.length bcG) (.slice koG m.h.ks.length kcG) (.slice qoG m.c.ts.length qcG) (.slice zoG m.s.ts.length zcG) m, Blk y6.heap.size 43 (ndA (.slice aoX r0.xs.length acX) (.slice boX r0.ys.length bcX) (.slice koX r0.h.ks.length kcX) (.slice qoX r0.c.ts.length qcX) (.slice zoX r0.s.ts.length zcX) r0), NdI (.slice aoX r0.xs.length acX) (.slice boX r0.ys.length bcX) (.slice koX r0.h.ks.length kcX) (.slice qoX r0.c.ts.length qcX) (.slice zoX r0.s.ts.length zcX) (r0.inked 1), Blk y4.heap.size 43 (ndA (.slice aoW m.xs.length acW) (.slice boW m.ys.length bcW) (.slice koW m.h.ks.length kcW) (.slice qoW m.c.ts.length qcW) (.slice zoW m.s.ts.length zcW) m), NdI (.slice aoW m.xs.length acW) (.slice boW m.ys.length bcW) (.slice koW m.h.ks.length kcW) (.slice qoW m.c.ts.length qcW) (.slice zoW m.s.ts.length zcW) m, NdI (.slice aoT r0.xs.length acT) (.slice boT r0.ys.length bcT) (.slice koT r0.h.ks.length kcT) (.slice qoT r0.c.ts.length qcT) (.slice zoT r0.s.ts.length zcT) r0, Blk w.heap.size 34 (ndA (.slice ao0 r0.xs.length ac0) (.slice bo0 r0.ys.length bc0) (.slice ko0 r0.h.ks.length kc0) (.slice qo0 r0.c.ts.length qc0) (.slice zo0 r0.s.ts.length zc0) r0)]) := HS.out.next by13
    clear by13
    clear hk0
    go_wp2_with (first | (refine wpList_getSG Tryz.isNd rfl _ rfl y8.heap.size rfl (ndA (.slice aoG m.xs.length acG) (.slice boG m.ys.length bcG) (.slice koG m.h.ks.length kcG) (.slice qoG m.c.ts.length qcG) (.slice zoG m.s.ts.length zcG) m) rfl (HS.out.get 0 rfl) ?_))
    refine (markNode_any _ _ _ _ _ m 1 _ 0 (HS.out.get 1 rfl) HMb.out (by decide) (by decide)).mono ?_
    rintro e y14 ⟨rfl, oy14, my14⟩
    replace HS : Hid (Sta w y14 [Blk y8.heap.size 43 (ndA (.slice aoG m.xs.length acG) (.slice boG m.ys.length bcG) (.slice koG m.h.ks.length kcG) (.slice qoG m.c.ts.length qcG) (.slice zoG m.s.ts.length zcG) m), NdI (.slice aoG m.xs.length acG) (.slice boG m.ys.length bcG) (.slice koG m.h.ks.length kcG) (.slice qoG m.c.ts.length qcG) (.slice zoG m.s.ts.length zcG) (m.inked 1), Blk y6.heap.size 43 (ndA (.slice aoX r0.xs.length acX) (.slice boX r0.ys.length bcX) (.slice koX r0.h.ks.length kcX) (.slice qoX r0.c.ts.length qcX) (.slice zoX r0.s.ts.length zcX) r0), NdI (.slice aoX r0.xs.length acX) (.slice boX r0.ys.length bcX) (.slice koX r0.h.ks.length kcX) (.slice qoX r0.c.ts.length qcX) (.slice zoX r0.s.ts.length zcX) (r0.inked 1), Blk y4.heap.size 43 (ndA (.slice aoW m.xs.length acW) (.slice boW m.ys.length bcW) (.slice koW m.h.ks.length kcW) (.slice qoW m.c.ts.length qcW) (.slice zoW m.s.ts.length zcW) m), NdI (.slice aoW m.xs.length acW) (.slice boW m.ys.length bcW) (.slice koW m.h.ks.length kcW) (.slice qoW m.c.ts.length qcW) (.slice zoW m.s.ts.length zcW) m, NdI (.slice aoT r0.xs.length acT) (.slice boT r0.ys.length bcT) (.slice koT r0.h.ks.length kcT) (.slice qoT r0.c.ts.length qcT) (.slice zoT r0.s.ts.length zcT) r0, Blk w.heap.size 34 (ndA (.slice ao0 r0.xs.length ac0) (.slice bo0 r0.ys.length bc0) (.slice ko0 r0.h.ks.length kc0) (.slice qo0 r0.c.ts.length qc0) (.slice zo0 r0.s.ts.length zc0) r0)]) := HS.out.ink 1 rfl oy14 my14
    clear oy14 my14
    go_wp2_with (first | (refine wpList_getSG Tryz.isNd rfl _ rfl y8.heap.size rfl (ndA (.slice aoG m.xs.length acG) (.slice boG m.ys.length bcG) (.slice koG m.h.ks.length kcG) (.slice qoG m.c.ts.length qcG) (.slice zoG m.s.ts.length zcG) m) rfl (HS.out.get 0 rfl) ?_))
    refine (heldNode_any _ _ _ _ _ m 1 _ (HS.out.rdN 1 rfl) HMb.out (by decide) (by decide)).mono ?_
    rintro e y15 ⟨rfl, by15⟩
    replace HS : Hid (Sta w y15 [Blk y8.heap.size 43 (ndA (.slice aoG m.xs.length acG) (.slice boG m.ys.length bcG) (.slice koG m.h.ks.length kcG) (.slice qoG m.c.ts.length qcG) (.slice zoG m.s.ts.length zcG) m), NdI (.slice aoG m.xs.length acG) (.slice boG m.ys.length bcG) (.slice koG m.h.ks.length kcG) (.slice qoG m.c.ts.length qcG) (.slice zoG m.s.ts.length zcG) (m.inked 1), Blk y6.heap.size 43 (ndA (.slice aoX r0.xs.length acX) (.slice boX r0.ys.length bcX) (.slice koX r0.h.ks.length kcX) (.slice qoX r0.c.ts.length qcX) (.slice zoX r0.s.ts.length zcX) r0), NdI (.slice aoX r0.xs.length acX) (.slice boX r0.ys.length bcX) (.slice koX r0.h.ks.length kcX) (.slice qoX r0.c.ts.length qcX) (.slice zoX r0.s.ts.length zcX) (r0.inked 1), Blk y4.heap.size 43 (ndA (.slice aoW m.xs.length acW) (.slice boW m.ys.length bcW) (.slice koW m.h.ks.length kcW) (.slice qoW m.c.ts.length qcW) (.slice zoW m.s.ts.length zcW) m), NdI (.slice aoW m.xs.length acW) (.slice boW m.ys.length bcW) (.slice koW m.h.ks.length kcW) (.slice qoW m.c.ts.length qcW) (.slice zoW m.s.ts.length zcW) m, NdI (.slice aoT r0.xs.length acT) (.slice boT r0.ys.length bcT) (.slice koT r0.h.ks.length kcT) (.slice qoT r0.c.ts.length qcT) (.slice zoT r0.s.ts.length zcT) r0, Blk w.heap.size 34 (ndA (.slice ao0 r0.xs.length ac0) (.slice bo0 r0.ys.length bc0) (.slice ko0 r0.h.ks.length kc0) (.slice qo0 r0.c.ts.length qc0) (.slice zo0 r0.s.ts.length zc0) r0)]) := HS.out.next by15
    clear by15
    have hk1 : 0 ≤ 1 + (m.xs.length : Int) + m.ys.length + m.h.ks.length + m.c.ts.length + m.s.ts.length := by omega
    go_wp2_with (first | (refine wpList_getSG Tryz.isLNd rfl _ rfl w.heap.size rfl (ndA (.slice ao0 r0.xs.length ac0) (.slice bo0 r0.ys.length bc0) (.slice ko0 r0.h.ks.length kc0) (.slice qo0 r0.c.ts.length qc0) (.slice zo0 r0.s.ts.length zc0) r0) rfl (HS.out.get 7 rfl) ?_))
    refine (TN.out y15 HS.out.below).mono ?_
    rintro e y16 ⟨aU, bU, kU, qU, zU, rfl, oy16, by16⟩
    obtain ⟨aoU, acU, rfl⟩ := reads_form oy16.oa.reads
    obtain ⟨boU, bcU, rfl⟩ := reads_form oy16.ob.reads
    obtain ⟨koU, kcU, rfl⟩ := reads_form oy16.ok.reads
    obtain ⟨qoU, qcU, rfl⟩ := reads_form oy16.oq.reads
    obtain ⟨zoU, zcU, rfl⟩ := reads_form oy16.oz.reads
    replace HS : Hid (Sta w y16 [NdI (.slice aoU r0.xs.length acU) (.slice boU r0.ys.length bcU) (.slice koU r0.h.ks.length kcU) (.slice qoU r0.c.ts.length qcU) (.slice zoU r0.s.ts.length zcU) r0, Blk y8.heap.size 43 (ndA (.slice aoG m.xs.length acG) (.slice boG m.ys.length bcG) (.slice koG m.h.ks.length kcG) (.slice qoG m.c.ts.length qcG) (.slice zoG m.s.ts.length zcG) m), NdI (.slice aoG m.xs.length acG) (.slice boG m.ys.length bcG) (.slice koG m.h.ks.length kcG) (.slice qoG m.c.ts.length qcG) (.slice zoG m.s.ts.length zcG) (m.inked 1), Blk y6.heap.size 43 (ndA (.slice aoX r0.xs.length acX) (.slice boX r0.ys.length bcX) (.slice koX r0.h.ks.length kcX) (.slice qoX r0.c.ts.length qcX) (.slice zoX r0.s.ts.length zcX) r0), NdI (.slice aoX r0.xs.length acX) (.slice boX r0.ys.length bcX) (.slice koX r0.h.ks.length kcX) (.slice qoX r0.c.ts.length qcX) (.slice zoX r0.s.ts.length zcX) (r0.inked 1), Blk y4.heap.size 43 (ndA (.slice aoW m.xs.length acW) (.slice boW m.ys.length bcW) (.slice koW m.h.ks.length kcW) (.slice qoW m.c.ts.length qcW) (.slice zoW m.s.ts.length zcW) m), NdI (.slice aoW m.xs.length acW) (.slice boW m.ys.length bcW) (.slice koW m.h.ks.length kcW) (.slice qoW m.c.ts.length qcW) (.slice zoW m.s.ts.length zcW) m, NdI (.slice aoT r0.xs.length acT) (.slice boT r0.ys.length bcT) (.slice koT r0.h.ks.length kcT) (.slice qoT r0.c.ts.length qcT) (.slice zoT r0.s.ts.length zcT) r0, Blk w.heap.size 34 (ndA (.slice ao0 r0.xs.length ac0) (.slice bo0 r0.ys.length bc0) (.slice ko0 r0.h.ks.length kc0) (.slice qo0 r0.c.ts.length qc0) (.slice zo0 r0.s.ts.length zc0) r0)]) := HS.out.house oy16.mine by16
    clear oy16 by16
    go_wp2_with fail
    refine (IP.out _ _ _ _ _ y16 (HS.out.rdN 0 rfl) HS.out.below).mono ?_
    rintro e y17 ⟨aH, bH, kH, qH, zH, rfl, oy17, by17⟩
    obtain ⟨aoH, acH, rfl⟩ := reads_form oy17.oa.reads
    obtain ⟨boH, bcH, rfl⟩ := reads_form oy17.ob.reads
    obtain ⟨koH, kcH, rfl⟩ := reads_form oy17.ok.reads
    obtain ⟨qoH, qcH, rfl⟩ := reads_form oy17.oq.reads
    obtain ⟨zoH, zcH, rfl⟩ := reads_form oy17.oz.reads
    replace HS : Hid (Sta w y17 [NdI (.slice aoH m.xs.length acH) (.slice boH m.ys.length bcH) (.slice koH m.h.ks.length kcH) (.slice qoH m.c.ts.length qcH) (.slice zoH m.s.ts.length zcH) m, NdI (.slice aoU r0.xs.length acU) (.slice boU r0.ys.length bcU) (.slice koU r0.h.ks.length kcU) (.slice qoU r0.c.ts.length qcU) (.slice zoU r0.s.ts.length zcU) r0, Blk y8.heap.size 43 (ndA (.slice aoG m.xs.length acG) (.slice boG m.ys.length bcG) (.slice koG m.h.ks.length kcG) (.slice qoG m.c.ts.length qcG) (.slice zoG m.s.ts.length zcG) m), NdI (.slice aoG m.xs.length acG) (.slice boG m.ys.length bcG) (.slice koG m.h.ks.length kcG) (.slice qoG m.c.ts.length qcG) (.slice zoG m.s.ts.length zcG) (m.inked 1), Blk y6.heap.size 43 (ndA (.slice aoX r0.xs.length acX) (.slice boX r0.ys.length bcX) (.slice koX r0.h.ks.length kcX) (.slice qoX r0.c.ts.length qcX) (.slice zoX r0.s.ts.length zcX) r0), NdI (.slice aoX r0.xs.length acX) (.slice boX r0.ys.length bcX) (.slice koX r0.h.ks.length kcX) (.slice qoX r0.c.ts.length qcX) (.slice zoX r0.s.ts.length zcX) (r0.inked 1), Blk y4.heap.size 43 (ndA (.slice aoW m.xs.length acW) (.slice boW m.ys.length bcW) (.slice koW m.h.ks.length kcW) (.slice qoW m.c.ts.length qcW) (.slice zoW m.s.ts.length zcW) m), NdI (.slice aoW m.xs.length acW) (.slice boW m.ys.length bcW) (.slice koW m.h.ks.length kcW) (.slice qoW m.c.ts.length qcW) (.slice zoW m.s.ts.length zcW) m, NdI (.slice aoT r0.xs.length acT) (.slice boT r0.ys.length bcT) (.slice koT r0.h.ks.length kcT) (.slice qoT r0.c.ts.length qcT) (.slice zoT r0.s.ts.length zcT) r0, Blk w.heap.size 34 (ndA (.slice ao0 r0.xs.length ac0) (.slice bo0 r0.ys.length bc0) (.slice ko0 r0.h.ks.length kc0) (.slice qo0 r0.c.ts.length qc0) (.slice zo0 r0.s.ts.length zc0) r0)]) := HS.out.house oy17 by17
    clear oy17 by17
    have qy18 : StB (y17.alloc (.cells zeroNd 43)) y17.heap.size 43 zeroNd := StB.new y17 _ _
    go_upto_region 25 with (refine wpList_putS Tryz.isNd rfl _ _ rfl y17.heap.size (ndA (.slice aoH m.xs.length acH) (.slice boH m.ys.length bcH) (.slice koH m.h.ks.length kcH) (.slice qoH m.c.ts.length qcH) (.slice zoH m.s.ts.length zcH) m) zeroNd rfl rfl rfl rfl (ndA_one m rfl rfl rfl rfl rfl) qy18 ?_; intro y18 sy18 gy18)
    replace HS : Hid (Sta w y18 [Blk y17.heap.size 43 (ndA (.slice aoH m.xs.length acH) (.slice boH m.ys.length bcH) (.slice koH m.h.ks.length kcH) (.slice qoH m.c.ts.length qcH) (.slice zoH m.s.ts.length zcH) m), NdI (.slice aoH m.xs.length acH) (.slice boH m.ys.length bcH) (.slice koH m.h.ks.length kcH) (.slice qoH m.c.ts.length qcH) (.slice zoH m.s.ts.length zcH) m, NdI (.slice aoU r0.xs.length acU) (.slice boU r0.ys.length bcU) (.slice koU r0.h.ks.length kcU) (.slice qoU r0.c.ts.length qcU) (.slice zoU r0.s.ts.length zcU) r0, Blk y8.heap.size 43 (ndA (.slice aoG m.xs.length acG) (.slice boG m.ys.length bcG) (.slice koG m.h.ks.length kcG) (.slice qoG m.c.ts.length qcG) (.slice zoG m.s.ts.length zcG) m), NdI (.slice aoG m.xs.length acG) (.slice boG m.ys.length bcG) (.slice koG m.h.ks.length kcG) (.slice qoG m.c.ts.length qcG) (.slice zoG m.s.ts.length zcG) (m.inked 1), Blk y6.heap.size 43 (ndA (.slice aoX r0.xs.length acX) (.slice boX r0.ys.length bcX) (.slice koX r0.h.ks.length kcX) (.slice qoX r0.c.ts.length qcX) (.slice zoX r0.s.ts.length zcX) r0), NdI (.slice aoX r0.xs.length acX) (.slice boX r0.ys.length bcX) (.slice koX r0.h.ks.length kcX) (.slice qoX r0.c.ts.length qcX) (.slice zoX r0.s.ts.length zcX) (r0.inked 1), Blk y4.heap.size 43 (ndA (.slice aoW m.xs.length acW) (.slice boW m.ys.length bcW) (.slice koW m.h.ks.length kcW) (.slice qoW m.c.ts.length qcW) (.slice zoW m.s.ts.length zcW) m), NdI (.slice aoW m.xs.length acW) (.slice boW m.ys.length bcW) (.slice koW m.h.ks.length kcW) (.slice qoW m.c.ts.length qcW) (.slice zoW m.s.ts.length zcW) m, NdI (.slice aoT r0.xs.length acT) (.slice boT r0.ys.length bcT) (.slice koT r0.h.ks.length kcT) (.slice qoT r0.c.ts.length qcT) (.slice zoT r0.s.ts.length zcT) r0, Blk w.heap.size 34 (ndA (.slice ao0 r0.xs.length ac0) (.slice bo0 r0.ys.length bc0) (.slice ko0 r0.h.ks.length kc0) (.slice qo0 r0.c.ts.length qc0) (.slice zo0 r0.s.ts.length zc0) r0)]) := HS.out.varS sy18 gy18
    clear qy18 sy18 gy18
    (try simp only [Act.put])
    go_wp2_with (first | (refine wpList_getSG Tryz.isNd rfl _ rfl y17.heap.size rfl (ndA (.slice aoH m.xs.length acH) (.slice boH m.ys.length bcH) (.slice koH m.h.ks.length kcH) (.slice qoH m.c.ts.length qcH) (.slice zoH m.s.ts.length zcH) m) rfl (HS.out.get 0 rfl) ?_) | (refine wpList_getSG Tryz.isNd rfl _ rfl y4.heap.size rfl (ndA (.slice aoW m.xs.length acW) (.slice boW m.ys.length bcW) (.slice koW m.h.ks.length kcW) (.slice qoW m.c.ts.length qcW) (.slice zoW m.s.ts.length zcW) m) rfl (HS.out.get 7 rfl) ?_))
    refine (EQ.out _ _ _ _ _ _ _ _ _ _ y18 (HS.out.rdN 1 rfl) (HS.out.rdN 8 rfl)).mono ?_
    rintro e y19 ⟨rfl, by19⟩
    replace HS : Hid (Sta w y19 [Blk y17.heap.size 43 (ndA (.slice aoH m.xs.length acH) (.slice boH m.ys.length bcH) (.slice koH m.h.ks.length kcH) (.slice qoH m.c.ts.length qcH) (.slice zoH m.s.ts.length zcH) m), NdI (.slice aoH m.xs.length acH) (.slice boH m.ys.length bcH) (.slice koH m.h.ks.length kcH) (.slice qoH m.c.ts.length qcH) (.slice zoH m.s.ts.length zcH) m, NdI (.slice aoU r0.xs.length acU) (.slice boU r0.ys.length bcU) (.slice koU r0.h.ks.length kcU) (.slice qoU r0.c.ts.length qcU) (.slice zoU r0.s.ts.length zcU) r0, Blk y8.heap.size 43 (ndA (.slice aoG m.xs.length acG) (.slice boG m.ys.length bcG) (.slice koG m.h.ks.length kcG) (.slice qoG m.c.ts.length qcG) (.slice zoG m.s.ts.length zcG) m), NdI (.slice aoG m.xs.length acG) (.slice boG m.ys.length bcG) (.slice koG m.h.ks.length kcG) (.slice qoG m.c.ts.length qcG) (.slice zoG m.s.ts.length zcG) (m.inked 1), Blk y6.heap.size 43 (ndA (.slice aoX r0.xs.length acX) (.slice boX r0.ys.length bcX) (.slice koX r0.h.ks.length kcX) (.slice qoX r0.c.ts.length qcX) (.slice zoX r0.s.ts.length zcX) r0), NdI (.slice aoX r0.xs.length acX) (.slice boX r0.ys.length bcX) (.slice koX r0.h.ks.length kcX) (.slice qoX r0.c.ts.length qcX) (.slice zoX r0.s.ts.length zcX) (r0.inked 1), Blk y4.heap.size 43 (ndA (.slice aoW m.xs.length acW) (.slice boW m.ys.length bcW) (.slice koW m.h.ks.length kcW) (.slice qoW m.c.ts.length qcW) (.slice zoW m.s.ts.length zcW) m), NdI (.slice aoW m.xs.length acW) (.slice boW m.ys.length bcW) (.slice koW m.h.ks.length kcW) (.slice qoW m.c.ts.length qcW) (.slice zoW m.s.ts.length zcW) m, NdI (.slice aoT r0.xs.length acT) (.slice boT r0.ys.length bcT) (.slice koT r0.h.ks.length kcT) (.slice qoT r0.c.ts.length qcT) (.slice zoT r0.s.ts.length zcT) r0, Blk w.heap.size 34 (ndA (.slice ao0 r0.xs.length ac0) (.slice bo0 r0.ys.length bc0) (.slice ko0 r0.h.ks.length kc0) (.slice qo0 r0.c.ts.length qc0) (.slice zo0 r0.s.ts.length zc0) r0)]) := HS.out.next by19
    clear by19
    go_wp2_with (first | (refine wpList_getSG Tryz.isNd rfl _ rfl y8.heap.size rfl (ndA (.slice aoG m.xs.length acG) (.slice boG m.ys.length bcG) (.slice koG m.h.ks.length kcG) (.slice qoG m.c.ts.length qcG) (.slice zoG m.s.ts.length zcG) m) rfl (HS.out.get 3 rfl) ?_))
    refine (heldNode_any _ _ _ _ _ m 1 _ (HS.out.rdN 4 rfl) HMb.out (by decide) (by decide)).mono ?_
    rintro e y20 ⟨rfl, by20⟩
    replace HS : Hid (Sta w y20 [Blk y17.heap.size 43 (ndA (.slice aoH m.xs.length acH) (.slice boH m.ys.length bcH) (.slice koH m.h.ks.length kcH) (.slice qoH m.c.ts.length qcH) (.slice zoH m.s.ts.length zcH) m), NdI (.slice aoH m.xs.length acH) (.slice boH m.ys.length bcH) (.slice koH m.h.ks.length kcH) (.slice qoH m.c.ts.length qcH) (.slice zoH m.s.ts.length zcH) m, NdI (.slice aoU r0.xs.length acU) (.slice boU r0.ys.length bcU) (.slice koU r0.h.ks.length kcU) (.slice qoU r0.c.ts.length qcU) (.slice zoU r0.s.ts.length zcU) r0, Blk y8.heap.size 43 (ndA (.slice aoG m.xs.length acG) (.slice boG m.ys.length bcG) (.slice koG m.h.ks.length kcG) (.slice qoG m.c.ts.length qcG) (.slice zoG m.s.ts.length zcG) m), NdI (.slice aoG m.xs.length acG) (.slice boG m.ys.length bcG) (.slice koG m.h.ks.length kcG) (.slice qoG m.c.ts.length qcG) (.slice zoG m.s.ts.length zcG) (m.inked 1), Blk y6.heap.size 43 (ndA (.slice aoX r0.xs.length acX) (.slice boX r0.ys.length bcX) (.slice koX r0.h.ks.length kcX) (.slice qoX r0.c.ts.length qcX) (.slice zoX r0.s.ts.length zcX) r0), NdI (.slice aoX r0.xs.length acX) (.slice boX r0.ys.length bcX) (.slice koX r0.h.ks.length kcX) (.slice qoX r0.c.ts.length qcX) (.slice zoX r0.s.ts.length zcX) (r0.inked 1), Blk y4.heap.size 43 (ndA (.slice aoW m.xs.length acW) (.slice boW m.ys.length bcW) (.slice koW m.h.ks.length kcW) (.slice qoW m.c.ts.length qcW) (.slice zoW m.s.ts.length zcW) m), NdI (.slice aoW m.xs.length acW) (.slice boW m.ys.length bcW) (.slice koW m.h.ks.length kcW) (.slice qoW m.c.ts.length qcW) (.slice zoW m.s.ts.length zcW) m, NdI (.slice aoT r0.xs.length acT) (.slice boT r0.ys.length bcT) (.slice koT r0.h.ks.length kcT) (.slice qoT r0.c.ts.length qcT) (.slice zoT r0.s.ts.length zcT) r0, Blk w.heap.size 34 (ndA (.slice ao0 r0.xs.length ac0) (.slice bo0 r0.ys.length bc0) (.slice ko0 r0.h.ks.length kc0) (.slice qo0 r0.c.ts.length qc0) (.slice zo0 r0.s.ts.length zc0) r0)]) := HS.out.next by20
    clear by20
    have HB : Hid (Below w.heap.size w _) := HS.out.below
    clear HS
    go_wp2_with fail
    go_ret
    exact ⟨rfl, HB.out⟩
  · have hsz : szI 1048576 (r0.len + r0.log.length) = -1 := by simp only [szI]; rw [if_neg (by omega)]
    rw [hsz]
    have HB : Hid (Below w.heap.size w w2) := HS.out.below
    clear HS hsz HR
    go_wp2
    go_ret
    exact ⟨rfl, HB.out⟩

set_option maxRecDepth 100000 in
theorem lifted (os : Os) (started : os.Started) (H : Type) (enc : TypeId × Value → H) :
    ReturnsInHanded {} Tryz.checked os 5 .any (fun w args => (Rows.fnExactRisenSpec.pre enc Tryz.prog Tryz.f5 [] false w args ∧ laidMetH Tryz.prog Rows.fnExactRisenRow.laid w) ∧ sizedMet enc Tryz.prog Tryz.f5 (OpenSpec.ofChange Rows.fnExactRisenSpec) false w args) (Rows.fnExactRisenSpec.post enc Tryz.prog Tryz.f5 false true false false) := by
  refine returnsInHanded_of_change_and (C := Tryz.checked) (X := fun w _ => laidMetH Tryz.prog Rows.fnExactRisenRow.laid w) (fun _ _ _ hh h => h.of_heap hh) own started (by kernel_rfl) Tryz.func5
    (ChangeSpec.witness_shaped (enc := enc) (C := Tryz.checked) (os := os) (X := fun w _ => laidMetH Tryz.prog Rows.fnExactRisenRow.laid w) false (World.laidAll Tryz.prog os Rows.fnExactRisenRow.laid) #[.agg #[.int .i64 0, .bool false, .slice none 0 0, .slice none 0 0, .slice none 0 0, .int .i64 0, .int .i64 0, .int .i64 0, .string ByteArray.empty, .int .i64 0, .int .i64 0, .int .i64 0, .int .i64 0, .int .i64 0, .bool false, .int .i64 0, .int .i64 0, .slice none 0 0, .int .i64 0, .slice none 0 0]] 8 (World.laidAll_os _ _ _)
      (World.shaped_of_ZipB (by kernel_rfl) (by kernel_rfl)) (by kernel_rfl) (by kernel_rfl) (by kernel_rfl)
      (by rw [MakeChecks.laidMetH_plain _ _ _ (by kernel_rfl)]; exact laidMet_laidAll _ (by kernel_rfl) (by kernel_rfl))) ?_
  intro W base args ds gs before hval0 hW hcnd _ hL _
  have hval : ∀ (j : Nat) t v, Tryz.f5.params[j]? = some t → args[j]? = some v → Value.okWide Tryz.prog W .any base t v := hval0
  have hW' := hW
  obtain ⟨p, q, hA0, hV, rfl, hfz, hnd⟩ := hW
  have hA : DataW.TrodAll enc Tryz.prog W 0 (fun _ => true) true Tryz.f5.params.toList args.toList ds p := hA0
  rw [Tryz.params5] at hA hval
  obtain ⟨v0, vs0, d0, ds0, p0, q0, hargs, rfl, rfl, h0, s0⟩ := trodAll_cons hA
  obtain ⟨rfl, rfl, rfl⟩ := trodAll_nil s0
  obtain rfl : args = #[v0] := by cases args; simp_all
  obtain ⟨rfl, rfl⟩ := trodVars_none hV
  have k0 := h0
  have lt0 : ∀ x ∈ p0, x.block < W.heap.size := by obtain ⟨m, hm⟩ := k0; exact DataW.trod_lt m _ _ _ hm
  obtain ⟨r0, u0, y0, c0, q0', z0, rfl, f0, e0, l0⟩ := open_node (hval 0 34 v0 rfl rfl) h0
  clear hA0 hval0
  refine (walk r0 u0 y0 c0 q0' z0 W f0 e0 l0 (tab_fnExactRisen hL)).mono fun e W' ⟨he, bel⟩ => ?_
  subst he
  exact ⟨_, rfl, _, _, _, [], _, [], hW', trodAll_mk1 (shut_bool Tryz.underlying4 _), (trodAll_cons_mk (Below.trod laidOut (by kernel_rfl) (of_decide_eq_true (by kernel_rfl)) k0 bel lt0) trodAll_mk0), rfl, bel.frame _, fun h => by cases h⟩

theorem over : Rows.fnExactRisenRow.holds Tryz.pinned (OpenSpec.ofChange Rows.fnExactRisenSpec) :=
  OpenClaim.holds_of_wide 5 Tryz.f5 rfl rfl rfl rfl rfl rfl rfl ⟨rfl, rfl, rfl, rfl, rfl⟩ rfl rfl rfl rfl rfl (by kernel_rfl) Tryz.func5 (by kernel_rfl)
    (of_decide_eq_true (by kernel_rfl)) (by unfold Func.isWrapper; first | (rw [if_pos (by decide +kernel)]; kernel_rfl) | (rw [if_neg (by decide +kernel)]; exact ⟨rfl, rfl⟩))
    (fun os started H enc _ => lifted os started H enc)

theorem proved : Rows.FnExactRisenSaid := over
end Go.Proofs.YteooloceaoinlaaGreatDoor.fnExactRisen
namespace Go.Proofs.YteooloceaoinlaaGreatDoor
open Go in
theorem fnExactRisen_holds : Rows.FnExactRisenCardSaid :=
  Claim7.holds_tied_plain_at .later [] [.data, .data, .data, .data, .pinned] true (true, "ee2148919edf7c01316df07e360d6246ce2a87491b349b1f7f3dccfec9331b1d") false
    fnExactRisen.proved (fun _ h => by cases h) (by kernel_rfl) (fun _ h => by cases h) fnExactRisen_row_tie rfl ⟨rfl, rfl⟩ (by kernel_rfl) rfl
    (fun f fn hf hfn => by
      obtain rfl : f = 5 := Option.some.inj ((show Tryz.prog.funcNamed Rows.fnExactRisenRow.func = some 5 by kernel_rfl).symm.trans hf) |>.symm
      obtain rfl : fn = Tryz.f5 := (Option.some.inj (Tryz.func5.symm.trans hfn)).symm
      exact ⟨by kernel_rfl, fun j t ht => by
        rw [Tryz.params5] at ht
        have hm : t ∈ [34] := by simpa using Array.mem_of_getElem? ht
        have hall : ([34].all fun u => !Tryz.prog.wantsStandIn u) = true := by kernel_rfl
        exact (show Tryz.prog.wantsStandIn t = false by simpa using List.all_eq_true.1 hall t hm)⟩)
    (by kernel_rfl)
end Go.Proofs.YteooloceaoinlaaGreatDoor
