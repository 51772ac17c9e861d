/- At every house, number and text Asked of the program answers as Asked of the model, in memory of its own that a second call leaves alone, and leaves what it was given as it was: the law FnExactAsked returns true, whatever it is given. -/
import Derived.Test.YtlkkpolnllbljaaGreatDoorRows
import Derived.WalkKit
import Derived.ProofKit
import Derived.OpenShut
import Derived.ShutString
import Derived.ChangeOld
import Derived.Below
import Derived.Test.YtlkkpolnllbljaaGreatDoorM13
import Derived.Test.YtlkkpolnllbljaaGreatDoorM20
import Derived.Test.YtlkkpolnllbljaaGreatDoorM22
import Derived.Test.YtlkkpolnllbljaaGreatDoorM29
import Derived.Test.YtlkkpolnllbljaaGreatDoorM39
import Derived.Test.YtlkkpolnllbljaaGreatDoorM25
import Derived.Test.YtlkkpolnllbljaaGreatDoorCards
import Derived.Test.YtlkkpolnllbljaaGreatDoorTie
import Derived.SevenTiedAt
import Derived.Lay
import Derived.LaidOnce
namespace Go.Proofs.YtlkkpolnllbljaaGreatDoor.fnExactAsked
open Go.ChangeShapes Go.WideShapes Go.ChangeAt Go.RowKit
open Go.ChangeMaps (open_string shut_string)
set_option linter.unusedVariables false

theorem own : ownKnob Tryz.prog.godebug = none := by kernel_rfl
theorem laidOut : laidOutB Tryz.prog = true := by kernel_rfl

set_option maxRecDepth 20000 in
set_option maxHeartbeats 20000000 in
theorem walk (r0 : Nd) (u0 v0 k0 q0 z0 : Value) (a1 : Int) (a2 : ByteArray) (w : World) (f0 : RdN w u0 v0 k0 q0 z0 r0) (g0 : r0.r.Fit) (l0 : r0.log.length ≤ maxLen) (w1 : (Lit.int .i64 a1).wf = true) (w2 : a2.size ≤ maxLen) (hT : TabS w) :
    Calls Tryz.prog 3 #[NdV u0 v0 k0 q0 z0 r0, .int .i64 a1, .string a2] w fun e w' => e = .returned (.bool true) ∧ Below w.heap.size w w' := by
  unfold maxLen at l0 w2
  obtain ⟨bs, rfl⟩ : ∃ bs : Bs, a2 = ⟨bs.toArray⟩ := ⟨a2.data.toList, by simp⟩
  have hsz : (⟨bs.toArray⟩ : ByteArray).size = bs.length := rfl
  rw [hsz] at w2
  have HTab : Hid (TabS w) := hT
  clear hT
  have HR : Hid (∀ wx, Below w.heap.size w wx → RdN wx u0 v0 k0 q0 z0 r0) := fun wx b => f0.below b
  have CZ : Hid (∀ wx, Below w.heap.size w wx → Calls Tryz.prog 4 #[NdV u0 v0 k0 q0 z0 r0, .int .i64 1048576] wx fun e w' => e = .returned (.int .i64 (szI 1048576 (r0.len + r0.log.length))) ∧ Below wx.heap.size wx w') := fun wx b => szNode_any u0 v0 k0 q0 z0 r0 1048576 wx (HR.out wx b) (by omega) (by decide) (by decide)
  obtain ⟨ao0, ac0, rfl⟩ := reads_form f0.ra
  obtain ⟨bo0, bc0, rfl⟩ := reads_form f0.rb
  obtain ⟨ko0, kc0, rfl⟩ := reads_form f0.rk
  obtain ⟨qo0, qc0, rfl⟩ := reads_form f0.rq
  obtain ⟨zo0, zc0, rfl⟩ := reads_form f0.rz
  obtain ⟨w1, hw1⟩ : ∃ w1, w1 = w.alloc (.cells (ndA (.slice ao0 r0.xs.length ac0) (.slice bo0 r0.ys.length bc0) (.slice ko0 r0.h.ks.length kc0) (.slice qo0 r0.c.ts.length qc0) (.slice zo0 r0.s.ts.length zc0) r0) 34) := ⟨_, rfl⟩
  have HS : Hid (Sta w w1 [Blk w.heap.size 34 (ndA (.slice ao0 r0.xs.length ac0) (.slice bo0 r0.ys.length bc0) (.slice ko0 r0.h.ks.length kc0) (.slice qo0 r0.c.ts.length qc0) (.slice zo0 r0.s.ts.length zc0) r0)]) := by rw [hw1]; exact (Sta.start w).box _ _
  unfold NdV at CZ ⊢
  unfold ndA S at hw1
  conv in ndA (.slice ao0 _ ac0) _ _ _ _ _ => unfold ndA S
  clear f0 g0 l0
  go_enter Tryz.func3, Tryz.ntmps3
  go_upto_region 1 with fail
  rw [← hw1]
  clear hw1
  by_cases hbs : bs.length ≤ 1048576
  case neg =>
    have hbs' : ¬ (bs.length : Int) ≤ 1048576 := by omega
    have hbs'' : (1048576 : Int) < (bs.length : Int) := by omega
    have HB : Hid (Below w.heap.size w w1) := HS.out.below
    clear HS CZ HR
    go_wp2
    go_ret
    exact ⟨rfl, HB.out⟩
  case pos =>
    have hbs' : ¬ (1048576 : Int) < (bs.length : Int) := by omega
    have HLb2 : Hid (bs.length ≤ 1048576) := hbs
    clear hbs
    go_wp2_with (refine wpList_getSG Tryz.isLNd rfl _ rfl w.heap.size rfl (ndA (.slice ao0 r0.xs.length ac0) (.slice bo0 r0.ys.length bc0) (.slice ko0 r0.h.ks.length kc0) (.slice qo0 r0.c.ts.length qc0) (.slice zo0 r0.s.ts.length zc0) r0) rfl (HS.out.get 0 rfl) ?_)
    refine (CZ.out w1 HS.out.below).mono ?_
    rintro e w2 ⟨rfl, b2⟩
    replace HS : Hid (Sta w w2 [Blk w.heap.size 34 (ndA (.slice ao0 r0.xs.length ac0) (.slice bo0 r0.ys.length bc0) (.slice ko0 r0.h.ks.length kc0) (.slice qo0 r0.c.ts.length qc0) (.slice zo0 r0.s.ts.length zc0) r0)]) := HS.out.next b2
    clear b2 CZ
    by_cases hbig : r0.len + r0.log.length ≤ 1048576
    · have hsz : szI 1048576 (r0.len + r0.log.length) = 1048576 - ((r0.len + r0.log.length : Nat) : Int) := by simp only [szI]; rw [if_pos (by omega)]
      rw [hsz]
      clear hsz
      have HL : Hid (SmN r0) := SmN.of hbig
      obtain ⟨y, hy⟩ : ∃ y : Int, y = 1048576 - ((r0.len + r0.log.length : Nat) : Int) := ⟨_, rfl⟩
      have y0 : 0 ≤ y := by omega
      rw [← hy]
      have HLe : Hid (r0.len ≤ 1048576) := by rw [Hid]; omega
      clear hy hbig
      obtain ⟨m, hm⟩ : ∃ m, m = (r0.Ask a1 bs).1 := ⟨_, rfl⟩
      obtain ⟨t, ht⟩ : ∃ t, t = (r0.Ask a1 bs).2 := ⟨_, rfl⟩
      have HM : Hid (SmN m) := by rw [Hid, hm]; exact (Fine.ask r0 a1 bs).sm
      have HMb : Hid (m.len ≤ 1048576) := by rw [Hid, hm]; exact (Fine.ask r0 a1 bs).len
      have TN : Hid (∀ wx, Below w.heap.size w wx → Calls Tryz.prog 6 #[.agg (ndA (.slice ao0 r0.xs.length ac0) (.slice bo0 r0.ys.length bc0) (.slice ko0 r0.h.ks.length kc0) (.slice qo0 r0.c.ts.length qc0) (.slice zo0 r0.s.ts.length zc0) r0)] wx fun e w' => ∃ a' b' k' q' z', e = .returned (.agg (ndA a' b' k' q' z' r0)) ∧ OwnN w' wx.heap.size a' b' k' q' z' r0 ∧ Below wx.heap.size wx w') := fun wx b => toNode_any _ _ _ _ _ r0 wx (HR.out wx b) HL.out
      have SP : Hid (∀ a b k q z wx, RdN wx a b k q z r0 → Calls Tryz.prog 5 #[.agg (ndA a b k q z r0), .int .i64 a1, .string ⟨bs.toArray⟩] wx fun e w' => ∃ a' b' k' q' z', e = .returned (.tuple #[.agg (ndA a' b' k' q' z' m), .agg (anA t)]) ∧ OwnN w' wx.heap.size a' b' k' q' z' m ∧ Below wx.heap.size wx w') := fun a b k q z wx h => by rw [hm, ht]; exact sAsked_any a b k q z r0 a1 bs wx h HL.out HLb2.out
      have IP : Hid (∀ a b k q z wx, RdN wx a b k q z r0 → Below w.heap.size w wx → Calls Tryz.prog 7 #[.agg (ndA a b k q z r0), .int .i64 a1, .string ⟨bs.toArray⟩] wx fun e w' => ∃ a' b' k' q' z', e = .returned (.tuple #[.agg (ndA a' b' k' q' z' m), .agg (anA t)]) ∧ MineN w' wx.heap.size a' b' k' q' z' m ∧ Below wx.heap.size wx w') := fun a b k q z wx h b' => by rw [hm, ht]; exact iAsk_any a b k q z r0 a1 bs wx h HL.out HLb2.out (HTab.out.below b')
      have EQ : Hid (∀ a b k q z a' b' k' q' z' wx, RdN wx a b k q z m → RdN wx a' b' k' q' z' m → Calls Tryz.prog 8 #[.agg (ndA a b k q z m), .agg (ndA a' b' k' q' z' m)] wx fun e w' => e = .returned (.bool true) ∧ Below wx.heap.size wx w') := fun a b k q z a' b' k' q' z' wx h h' => eqNode_any a b k q z a' b' k' q' z' m wx h h' HM.out
      have EN : Hid (∀ a b k q z a' b' k' q' z' wx, RdN wx a b k q z r0 → RdN wx a' b' k' q' z' r0 → Calls Tryz.prog 8 #[.agg (ndA a b k q z r0), .agg (ndA a' b' k' q' z' r0)] wx fun e w' => e = .returned (.bool true) ∧ Below wx.heap.size wx w') := fun a b k q z a' b' k' q' z' wx h h' => eqNode_any a b k q z a' b' k' q' z' r0 wx h h' HL.out
      have EA : Hid (∀ wx, Calls Tryz.prog 9 #[.agg (anA t), .agg (anA t)] wx fun e w' => e = .returned (.bool true) ∧ Below wx.heap.size wx w') := fun wx => eqAnswer_self t wx
      clear hm ht HR
      go_wp2_with (first | (refine wpList_getSG Tryz.isLNd rfl _ rfl w.heap.size rfl (ndA (.slice ao0 r0.xs.length ac0) (.slice bo0 r0.ys.length bc0) (.slice ko0 r0.h.ks.length kc0) (.slice qo0 r0.c.ts.length qc0) (.slice zo0 r0.s.ts.length zc0) r0) rfl (HS.out.get 0 rfl) ?_))
      refine (TN.out w2 HS.out.below).mono ?_
      rintro e y3 ⟨aT, bT, kT, qT, zT, rfl, oy3, by3⟩
      obtain ⟨aoT, acT, rfl⟩ := reads_form oy3.oa.reads
      obtain ⟨boT, bcT, rfl⟩ := reads_form oy3.ob.reads
      obtain ⟨koT, kcT, rfl⟩ := reads_form oy3.ok.reads
      obtain ⟨qoT, qcT, rfl⟩ := reads_form oy3.oq.reads
      obtain ⟨zoT, zcT, rfl⟩ := reads_form oy3.oz.reads
      replace HS : Hid (Sta w y3 [NdI (.slice aoT r0.xs.length acT) (.slice boT r0.ys.length bcT) (.slice koT r0.h.ks.length kcT) (.slice qoT r0.c.ts.length qcT) (.slice zoT r0.s.ts.length zcT) r0, Blk w.heap.size 34 (ndA (.slice ao0 r0.xs.length ac0) (.slice bo0 r0.ys.length bc0) (.slice ko0 r0.h.ks.length kc0) (.slice qo0 r0.c.ts.length qc0) (.slice zo0 r0.s.ts.length zc0) r0)]) := HS.out.house oy3.mine by3
      clear oy3 by3
      go_wp2_with fail
      refine (SP.out _ _ _ _ _ y3 (HS.out.rdN 0 rfl)).mono ?_
      rintro e y4 ⟨aW, bW, kW, qW, zW, rfl, oy4, by4⟩
      obtain ⟨aoW, acW, rfl⟩ := reads_form oy4.oa.reads
      obtain ⟨boW, bcW, rfl⟩ := reads_form oy4.ob.reads
      obtain ⟨koW, kcW, rfl⟩ := reads_form oy4.ok.reads
      obtain ⟨qoW, qcW, rfl⟩ := reads_form oy4.oq.reads
      obtain ⟨zoW, zcW, rfl⟩ := reads_form oy4.oz.reads
      replace HS : Hid (Sta w y4 [NdI (.slice aoW m.xs.length acW) (.slice boW m.ys.length bcW) (.slice koW m.h.ks.length kcW) (.slice qoW m.c.ts.length qcW) (.slice zoW m.s.ts.length zcW) m, NdI (.slice aoT r0.xs.length acT) (.slice boT r0.ys.length bcT) (.slice koT r0.h.ks.length kcT) (.slice qoT r0.c.ts.length qcT) (.slice zoT r0.s.ts.length zcT) r0, Blk w.heap.size 34 (ndA (.slice ao0 r0.xs.length ac0) (.slice bo0 r0.ys.length bc0) (.slice ko0 r0.h.ks.length kc0) (.slice qo0 r0.c.ts.length qc0) (.slice zo0 r0.s.ts.length zc0) r0)]) := HS.out.house oy4.mine by4
      clear oy4 by4
      have qy5 : StB ((y4.alloc (.cells zeroNd 42)).alloc (.cells (anA ⟨0, []⟩) 44)) y4.heap.size 42 zeroNd := (StB.new y4 _ _).alloc _
      have ry5 : StB ((y4.alloc (.cells zeroNd 42)).alloc (.cells (anA ⟨0, []⟩) 44)) (y4.heap.size + 1) 44 (anA ⟨0, []⟩) := by
        have h := StB.new (y4.alloc (.cells zeroNd 42)) 44 (anA ⟨0, []⟩)
        rwa [World.size_alloc] at h
      go_upto_region 8 with (first | (refine wpList_putS Tryz.isNd rfl _ _ rfl y4.heap.size (ndA (.slice aoW m.xs.length acW) (.slice boW m.ys.length bcW) (.slice koW m.h.ks.length kcW) (.slice qoW m.c.ts.length qcW) (.slice zoW m.s.ts.length zcW) m) zeroNd rfl rfl rfl rfl (ndA_one m rfl rfl rfl rfl rfl) qy5 ?_; intro y5 sy5 gy5) | (refine wpList_putS Tryz.isA rfl _ _ rfl (y4.heap.size + 1) (anA t) (anA ⟨0, []⟩) rfl rfl rfl rfl (anA_one t) (ry5.kept gy5 (by simp)) ?_; intro y6 sy6 gy6))
      have by6 : Below y4.heap.size y4 y6 := ((((Below.refl _ _).alloc (Nat.le_refl _) _).alloc (by simp) _).grown gy5 (by simp; omega) (fun k e => by cases e; omega)).grown gy6 (Nat.le_trans (by simp; omega) gy5.size) (fun k e => by cases e; omega)
      replace HS : Hid (Sta w y6 [Blk2 y4.heap.size 42 (ndA (.slice aoW m.xs.length acW) (.slice boW m.ys.length bcW) (.slice koW m.h.ks.length kcW) (.slice qoW m.c.ts.length qcW) (.slice zoW m.s.ts.length zcW) m) (y4.heap.size + 1) 44 (anA t), NdI (.slice aoW m.xs.length acW) (.slice boW m.ys.length bcW) (.slice koW m.h.ks.length kcW) (.slice qoW m.c.ts.length qcW) (.slice zoW m.s.ts.length zcW) m, NdI (.slice aoT r0.xs.length acT) (.slice boT r0.ys.length bcT) (.slice koT r0.h.ks.length kcT) (.slice qoT r0.c.ts.length qcT) (.slice zoT r0.s.ts.length zcT) r0, Blk w.heap.size 34 (ndA (.slice ao0 r0.xs.length ac0) (.slice bo0 r0.ys.length bc0) (.slice ko0 r0.h.ks.length kc0) (.slice qo0 r0.c.ts.length qc0) (.slice zo0 r0.s.ts.length zc0) r0)]) := HS.out.var2 by6 (sy5.kept gy6 (by simp)) sy6 (Nat.le_refl _) (Nat.le_succ _)
      clear qy5 ry5 sy5 gy5 sy6 gy6 by6
      (try simp only [Act.put])
      go_wp2_with (first | (refine wpList_getSG Tryz.isLNd rfl _ rfl w.heap.size rfl (ndA (.slice ao0 r0.xs.length ac0) (.slice bo0 r0.ys.length bc0) (.slice ko0 r0.h.ks.length kc0) (.slice qo0 r0.c.ts.length qc0) (.slice zo0 r0.s.ts.length zc0) r0) rfl (HS.out.get 3 rfl) ?_))
      refine (TN.out y6 HS.out.below).mono ?_
      rintro e y7 ⟨aX, bX, kX, qX, zX, rfl, oy7, by7⟩
      obtain ⟨aoX, acX, rfl⟩ := reads_form oy7.oa.reads
      obtain ⟨boX, bcX, rfl⟩ := reads_form oy7.ob.reads
      obtain ⟨koX, kcX, rfl⟩ := reads_form oy7.ok.reads
      obtain ⟨qoX, qcX, rfl⟩ := reads_form oy7.oq.reads
      obtain ⟨zoX, zcX, rfl⟩ := reads_form oy7.oz.reads
      replace HS : Hid (Sta w y7 [NdI (.slice aoX r0.xs.length acX) (.slice boX r0.ys.length bcX) (.slice koX r0.h.ks.length kcX) (.slice qoX r0.c.ts.length qcX) (.slice zoX r0.s.ts.length zcX) r0, Blk2 y4.heap.size 42 (ndA (.slice aoW m.xs.length acW) (.slice boW m.ys.length bcW) (.slice koW m.h.ks.length kcW) (.slice qoW m.c.ts.length qcW) (.slice zoW m.s.ts.length zcW) m) (y4.heap.size + 1) 44 (anA t), NdI (.slice aoW m.xs.length acW) (.slice boW m.ys.length bcW) (.slice koW m.h.ks.length kcW) (.slice qoW m.c.ts.length qcW) (.slice zoW m.s.ts.length zcW) m, NdI (.slice aoT r0.xs.length acT) (.slice boT r0.ys.length bcT) (.slice koT r0.h.ks.length kcT) (.slice qoT r0.c.ts.length qcT) (.slice zoT r0.s.ts.length zcT) r0, Blk w.heap.size 34 (ndA (.slice ao0 r0.xs.length ac0) (.slice bo0 r0.ys.length bc0) (.slice ko0 r0.h.ks.length kc0) (.slice qo0 r0.c.ts.length qc0) (.slice zo0 r0.s.ts.length zc0) r0)]) := HS.out.house oy7.mine by7
      clear oy7 by7
      have qy8 : StB (y7.alloc (.cells zeroNd 42)) y7.heap.size 42 zeroNd := StB.new y7 _ _
      go_upto_region 9 with (refine wpList_putS Tryz.isNd rfl _ _ rfl y7.heap.size (ndA (.slice aoX r0.xs.length acX) (.slice boX r0.ys.length bcX) (.slice koX r0.h.ks.length kcX) (.slice qoX r0.c.ts.length qcX) (.slice zoX r0.s.ts.length zcX) r0) zeroNd rfl rfl rfl rfl (ndA_one r0 rfl rfl rfl rfl rfl) qy8 ?_; intro y8 sy8 gy8)
      replace HS : Hid (Sta w y8 [Blk y7.heap.size 42 (ndA (.slice aoX r0.xs.length acX) (.slice boX r0.ys.length bcX) (.slice koX r0.h.ks.length kcX) (.slice qoX r0.c.ts.length qcX) (.slice zoX r0.s.ts.length zcX) r0), NdI (.slice aoX r0.xs.length acX) (.slice boX r0.ys.length bcX) (.slice koX r0.h.ks.length kcX) (.slice qoX r0.c.ts.length qcX) (.slice zoX r0.s.ts.length zcX) r0, Blk2 y4.heap.size 42 (ndA (.slice aoW m.xs.length acW) (.slice boW m.ys.length bcW) (.slice koW m.h.ks.length kcW) (.slice qoW m.c.ts.length qcW) (.slice zoW m.s.ts.length zcW) m) (y4.heap.size + 1) 44 (anA t), NdI (.slice aoW m.xs.length acW) (.slice boW m.ys.length bcW) (.slice koW m.h.ks.length kcW) (.slice qoW m.c.ts.length qcW) (.slice zoW m.s.ts.length zcW) m, NdI (.slice aoT r0.xs.length acT) (.slice boT r0.ys.length bcT) (.slice koT r0.h.ks.length kcT) (.slice qoT r0.c.ts.length qcT) (.slice zoT r0.s.ts.length zcT) r0, Blk w.heap.size 34 (ndA (.slice ao0 r0.xs.length ac0) (.slice bo0 r0.ys.length bc0) (.slice ko0 r0.h.ks.length kc0) (.slice qo0 r0.c.ts.length qc0) (.slice zo0 r0.s.ts.length zc0) r0)]) := HS.out.varS sy8 gy8
      clear qy8 sy8 gy8
      (try simp only [Act.put])
      go_wp2_with (first | (refine wpList_getSG Tryz.isNd rfl _ rfl y7.heap.size rfl (ndA (.slice aoX r0.xs.length acX) (.slice boX r0.ys.length bcX) (.slice koX r0.h.ks.length kcX) (.slice qoX r0.c.ts.length qcX) (.slice zoX r0.s.ts.length zcX) r0) rfl (HS.out.get 0 rfl) ?_))
      refine (IP.out _ _ _ _ _ y8 (HS.out.rdN 1 rfl) HS.out.below).mono ?_
      rintro e y9 ⟨aG, bG, kG, qG, zG, rfl, oy9, by9⟩
      obtain ⟨aoG, acG, rfl⟩ := reads_form oy9.oa.reads
      obtain ⟨boG, bcG, rfl⟩ := reads_form oy9.ob.reads
      obtain ⟨koG, kcG, rfl⟩ := reads_form oy9.ok.reads
      obtain ⟨qoG, qcG, rfl⟩ := reads_form oy9.oq.reads
      obtain ⟨zoG, zcG, rfl⟩ := reads_form oy9.oz.reads
      replace HS : Hid (Sta w y9 [NdI (.slice aoG m.xs.length acG) (.slice boG m.ys.length bcG) (.slice koG m.h.ks.length kcG) (.slice qoG m.c.ts.length qcG) (.slice zoG m.s.ts.length zcG) m, Blk y7.heap.size 42 (ndA (.slice aoX r0.xs.length acX) (.slice boX r0.ys.length bcX) (.slice koX r0.h.ks.length kcX) (.slice qoX r0.c.ts.length qcX) (.slice zoX r0.s.ts.length zcX) r0), NdI (.slice aoX r0.xs.length acX) (.slice boX r0.ys.length bcX) (.slice koX r0.h.ks.length kcX) (.slice qoX r0.c.ts.length qcX) (.slice zoX r0.s.ts.length zcX) r0, Blk2 y4.heap.size 42 (ndA (.slice aoW m.xs.length acW) (.slice boW m.ys.length bcW) (.slice koW m.h.ks.length kcW) (.slice qoW m.c.ts.length qcW) (.slice zoW m.s.ts.length zcW) m) (y4.heap.size + 1) 44 (anA t), NdI (.slice aoW m.xs.length acW) (.slice boW m.ys.length bcW) (.slice koW m.h.ks.length kcW) (.slice qoW m.c.ts.length qcW) (.slice zoW m.s.ts.length zcW) m, NdI (.slice aoT r0.xs.length acT) (.slice boT r0.ys.length bcT) (.slice koT r0.h.ks.length kcT) (.slice qoT r0.c.ts.length qcT) (.slice zoT r0.s.ts.length zcT) r0, Blk w.heap.size 34 (ndA (.slice ao0 r0.xs.length ac0) (.slice bo0 r0.ys.length bc0) (.slice ko0 r0.h.ks.length kc0) (.slice qo0 r0.c.ts.length qc0) (.slice zo0 r0.s.ts.length zc0) r0)]) := HS.out.house oy9 by9
      clear oy9 by9
      have qy10 : StB ((y9.alloc (.cells zeroNd 42)).alloc (.cells (anA ⟨0, []⟩) 44)) y9.heap.size 42 zeroNd := (StB.new y9 _ _).alloc _
      have ry10 : StB ((y9.alloc (.cells zeroNd 42)).alloc (.cells (anA ⟨0, []⟩) 44)) (y9.heap.size + 1) 44 (anA ⟨0, []⟩) := by
        have h := StB.new (y9.alloc (.cells zeroNd 42)) 44 (anA ⟨0, []⟩)
        rwa [World.size_alloc] at h
      go_upto_region 10 with (first | (refine wpList_putS Tryz.isNd rfl _ _ rfl y9.heap.size (ndA (.slice aoG m.xs.length acG) (.slice boG m.ys.length bcG) (.slice koG m.h.ks.length kcG) (.slice qoG m.c.ts.length qcG) (.slice zoG m.s.ts.length zcG) m) zeroNd rfl rfl rfl rfl (ndA_one m rfl rfl rfl rfl rfl) qy10 ?_; intro y10 sy10 gy10) | (refine wpList_putS Tryz.isA rfl _ _ rfl (y9.heap.size + 1) (anA t) (anA ⟨0, []⟩) rfl rfl rfl rfl (anA_one t) (ry10.kept gy10 (by simp)) ?_; intro y11 sy11 gy11))
      have by11 : Below y9.heap.size y9 y11 := ((((Below.refl _ _).alloc (Nat.le_refl _) _).alloc (by simp) _).grown gy10 (by simp; omega) (fun k e => by cases e; omega)).grown gy11 (Nat.le_trans (by simp; omega) gy10.size) (fun k e => by cases e; omega)
      replace HS : Hid (Sta w y11 [Blk2 y9.heap.size 42 (ndA (.slice aoG m.xs.length acG) (.slice boG m.ys.length bcG) (.slice koG m.h.ks.length kcG) (.slice qoG m.c.ts.length qcG) (.slice zoG m.s.ts.length zcG) m) (y9.heap.size + 1) 44 (anA t), NdI (.slice aoG m.xs.length acG) (.slice boG m.ys.length bcG) (.slice koG m.h.ks.length kcG) (.slice qoG m.c.ts.length qcG) (.slice zoG m.s.ts.length zcG) m, Blk y7.heap.size 42 (ndA (.slice aoX r0.xs.length acX) (.slice boX r0.ys.length bcX) (.slice koX r0.h.ks.length kcX) (.slice qoX r0.c.ts.length qcX) (.slice zoX r0.s.ts.length zcX) r0), NdI (.slice aoX r0.xs.length acX) (.slice boX r0.ys.length bcX) (.slice koX r0.h.ks.length kcX) (.slice qoX r0.c.ts.length qcX) (.slice zoX r0.s.ts.length zcX) r0, Blk2 y4.heap.size 42 (ndA (.slice aoW m.xs.length acW) (.slice boW m.ys.length bcW) (.slice koW m.h.ks.length kcW) (.slice qoW m.c.ts.length qcW) (.slice zoW m.s.ts.length zcW) m) (y4.heap.size + 1) 44 (anA t), NdI (.slice aoW m.xs.length acW) (.slice boW m.ys.length bcW) (.slice koW m.h.ks.length kcW) (.slice qoW m.c.ts.length qcW) (.slice zoW m.s.ts.length zcW) m, NdI (.slice aoT r0.xs.length acT) (.slice boT r0.ys.length bcT) (.slice koT r0.h.ks.length kcT) (.slice qoT r0.c.ts.length qcT) (.slice zoT r0.s.ts.length zcT) r0, Blk w.heap.size 34 (ndA (.slice ao0 r0.xs.length ac0) (.slice bo0 r0.ys.length bc0) (.slice ko0 r0.h.ks.length kc0) (.slice qo0 r0.c.ts.length qc0) (.slice zo0 r0.s.ts.length zc0) r0)]) := HS.out.var2 by11 (sy10.kept gy11 (by simp)) sy11 (Nat.le_refl _) (Nat.le_succ _)
      clear qy10 ry10 sy10 gy10 sy11 gy11 by11
      (try simp only [Act.put])
      go_wp2_with (first | (refine wpList_getSG Tryz.isNd rfl _ rfl y9.heap.size rfl (ndA (.slice aoG m.xs.length acG) (.slice boG m.ys.length bcG) (.slice koG m.h.ks.length kcG) (.slice qoG m.c.ts.length qcG) (.slice zoG m.s.ts.length zcG) m) rfl (HS.out.get 0 rfl).1 ?_) | (refine wpList_getSG Tryz.isNd rfl _ rfl y4.heap.size rfl (ndA (.slice aoW m.xs.length acW) (.slice boW m.ys.length bcW) (.slice koW m.h.ks.length kcW) (.slice qoW m.c.ts.length qcW) (.slice zoW m.s.ts.length zcW) m) rfl (HS.out.get 4 rfl).1 ?_))
      refine (EQ.out _ _ _ _ _ _ _ _ _ _ y11 (HS.out.rdN 1 rfl) (HS.out.rdN 5 rfl)).mono ?_
      rintro e y12 ⟨rfl, by12⟩
      replace HS : Hid (Sta w y12 [Blk2 y9.heap.size 42 (ndA (.slice aoG m.xs.length acG) (.slice boG m.ys.length bcG) (.slice koG m.h.ks.length kcG) (.slice qoG m.c.ts.length qcG) (.slice zoG m.s.ts.length zcG) m) (y9.heap.size + 1) 44 (anA t), NdI (.slice aoG m.xs.length acG) (.slice boG m.ys.length bcG) (.slice koG m.h.ks.length kcG) (.slice qoG m.c.ts.length qcG) (.slice zoG m.s.ts.length zcG) m, Blk y7.heap.size 42 (ndA (.slice aoX r0.xs.length acX) (.slice boX r0.ys.length bcX) (.slice koX r0.h.ks.length kcX) (.slice qoX r0.c.ts.length qcX) (.slice zoX r0.s.ts.length zcX) r0), NdI (.slice aoX r0.xs.length acX) (.slice boX r0.ys.length bcX) (.slice koX r0.h.ks.length kcX) (.slice qoX r0.c.ts.length qcX) (.slice zoX r0.s.ts.length zcX) r0, Blk2 y4.heap.size 42 (ndA (.slice aoW m.xs.length acW) (.slice boW m.ys.length bcW) (.slice koW m.h.ks.length kcW) (.slice qoW m.c.ts.length qcW) (.slice zoW m.s.ts.length zcW) m) (y4.heap.size + 1) 44 (anA t), NdI (.slice aoW m.xs.length acW) (.slice boW m.ys.length bcW) (.slice koW m.h.ks.length kcW) (.slice qoW m.c.ts.length qcW) (.slice zoW m.s.ts.length zcW) m, NdI (.slice aoT r0.xs.length acT) (.slice boT r0.ys.length bcT) (.slice koT r0.h.ks.length kcT) (.slice qoT r0.c.ts.length qcT) (.slice zoT r0.s.ts.length zcT) r0, Blk w.heap.size 34 (ndA (.slice ao0 r0.xs.length ac0) (.slice bo0 r0.ys.length bc0) (.slice ko0 r0.h.ks.length kc0) (.slice qo0 r0.c.ts.length qc0) (.slice zo0 r0.s.ts.length zc0) r0)]) := HS.out.next by12
      clear by12
      go_wp2_with (first | (refine wpList_getSG Tryz.isA rfl _ rfl (y9.heap.size + 1) rfl (anA t) rfl (HS.out.get 0 rfl).2 ?_) | (refine wpList_getSG Tryz.isA rfl _ rfl (y4.heap.size + 1) rfl (anA t) rfl (HS.out.get 4 rfl).2 ?_))
      refine (EA.out y12).mono ?_
      rintro e y13 ⟨rfl, by13⟩
      replace HS : Hid (Sta w y13 [Blk2 y9.heap.size 42 (ndA (.slice aoG m.xs.length acG) (.slice boG m.ys.length bcG) (.slice koG m.h.ks.length kcG) (.slice qoG m.c.ts.length qcG) (.slice zoG m.s.ts.length zcG) m) (y9.heap.size + 1) 44 (anA t), NdI (.slice aoG m.xs.length acG) (.slice boG m.ys.length bcG) (.slice koG m.h.ks.length kcG) (.slice qoG m.c.ts.length qcG) (.slice zoG m.s.ts.length zcG) m, Blk y7.heap.size 42 (ndA (.slice aoX r0.xs.length acX) (.slice boX r0.ys.length bcX) (.slice koX r0.h.ks.length kcX) (.slice qoX r0.c.ts.length qcX) (.slice zoX r0.s.ts.length zcX) r0), NdI (.slice aoX r0.xs.length acX) (.slice boX r0.ys.length bcX) (.slice koX r0.h.ks.length kcX) (.slice qoX r0.c.ts.length qcX) (.slice zoX r0.s.ts.length zcX) r0, Blk2 y4.heap.size 42 (ndA (.slice aoW m.xs.length acW) (.slice boW m.ys.length bcW) (.slice koW m.h.ks.length kcW) (.slice qoW m.c.ts.length qcW) (.slice zoW m.s.ts.length zcW) m) (y4.heap.size + 1) 44 (anA t), NdI (.slice aoW m.xs.length acW) (.slice boW m.ys.length bcW) (.slice koW m.h.ks.length kcW) (.slice qoW m.c.ts.length qcW) (.slice zoW m.s.ts.length zcW) m, NdI (.slice aoT r0.xs.length acT) (.slice boT r0.ys.length bcT) (.slice koT r0.h.ks.length kcT) (.slice qoT r0.c.ts.length qcT) (.slice zoT r0.s.ts.length zcT) r0, Blk w.heap.size 34 (ndA (.slice ao0 r0.xs.length ac0) (.slice bo0 r0.ys.length bc0) (.slice ko0 r0.h.ks.length kc0) (.slice qo0 r0.c.ts.length qc0) (.slice zo0 r0.s.ts.length zc0) r0)]) := HS.out.next by13
      clear by13
      go_upto_region 12 with fail
      obtain ⟨C, hCd⟩ : ∃ C, C = fun x => Sta w x [Blk2 y9.heap.size 42 (ndA (.slice aoG m.xs.length acG) (.slice boG m.ys.length bcG) (.slice koG m.h.ks.length kcG) (.slice qoG m.c.ts.length qcG) (.slice zoG m.s.ts.length zcG) m) (y9.heap.size + 1) 44 (anA t), NdI (.slice aoG m.xs.length acG) (.slice boG m.ys.length bcG) (.slice koG m.h.ks.length kcG) (.slice qoG m.c.ts.length qcG) (.slice zoG m.s.ts.length zcG) m, Blk y7.heap.size 42 (ndA (.slice aoX r0.xs.length acX) (.slice boX r0.ys.length bcX) (.slice koX r0.h.ks.length kcX) (.slice qoX r0.c.ts.length qcX) (.slice zoX r0.s.ts.length zcX) r0), NdI (.slice aoX r0.xs.length acX) (.slice boX r0.ys.length bcX) (.slice koX r0.h.ks.length kcX) (.slice qoX r0.c.ts.length qcX) (.slice zoX r0.s.ts.length zcX) r0, Blk2 y4.heap.size 42 (ndA (.slice aoW m.xs.length acW) (.slice boW m.ys.length bcW) (.slice koW m.h.ks.length kcW) (.slice qoW m.c.ts.length qcW) (.slice zoW m.s.ts.length zcW) m) (y4.heap.size + 1) 44 (anA t), NdI (.slice aoW m.xs.length acW) (.slice boW m.ys.length bcW) (.slice koW m.h.ks.length kcW) (.slice qoW m.c.ts.length qcW) (.slice zoW m.s.ts.length zcW) m, NdI (.slice aoT r0.xs.length acT) (.slice boT r0.ys.length bcT) (.slice koT r0.h.ks.length kcT) (.slice qoT r0.c.ts.length qcT) (.slice zoT r0.s.ts.length zcT) r0, Blk w.heap.size 34 (ndA (.slice ao0 r0.xs.length ac0) (.slice bo0 r0.ys.length bc0) (.slice ko0 r0.h.ks.length kc0) (.slice qo0 r0.c.ts.length qc0) (.slice zo0 r0.s.ts.length zc0) r0)] := ⟨_, rfl⟩
      have HQ : Hid (∀ x, C x → Sta w x [Blk2 y9.heap.size 42 (ndA (.slice aoG m.xs.length acG) (.slice boG m.ys.length bcG) (.slice koG m.h.ks.length kcG) (.slice qoG m.c.ts.length qcG) (.slice zoG m.s.ts.length zcG) m) (y9.heap.size + 1) 44 (anA t), NdI (.slice aoG m.xs.length acG) (.slice boG m.ys.length bcG) (.slice koG m.h.ks.length kcG) (.slice qoG m.c.ts.length qcG) (.slice zoG m.s.ts.length zcG) m, Blk y7.heap.size 42 (ndA (.slice aoX r0.xs.length acX) (.slice boX r0.ys.length bcX) (.slice koX r0.h.ks.length kcX) (.slice qoX r0.c.ts.length qcX) (.slice zoX r0.s.ts.length zcX) r0), NdI (.slice aoX r0.xs.length acX) (.slice boX r0.ys.length bcX) (.slice koX r0.h.ks.length kcX) (.slice qoX r0.c.ts.length qcX) (.slice zoX r0.s.ts.length zcX) r0, Blk2 y4.heap.size 42 (ndA (.slice aoW m.xs.length acW) (.slice boW m.ys.length bcW) (.slice koW m.h.ks.length kcW) (.slice qoW m.c.ts.length qcW) (.slice zoW m.s.ts.length zcW) m) (y4.heap.size + 1) 44 (anA t), NdI (.slice aoW m.xs.length acW) (.slice boW m.ys.length bcW) (.slice koW m.h.ks.length kcW) (.slice qoW m.c.ts.length qcW) (.slice zoW m.s.ts.length zcW) m, NdI (.slice aoT r0.xs.length acT) (.slice boT r0.ys.length bcT) (.slice koT r0.h.ks.length kcT) (.slice qoT r0.c.ts.length qcT) (.slice zoT r0.s.ts.length zcT) r0, Blk w.heap.size 34 (ndA (.slice ao0 r0.xs.length ac0) (.slice bo0 r0.ys.length bc0) (.slice ko0 r0.h.ks.length kc0) (.slice qo0 r0.c.ts.length qc0) (.slice zo0 r0.s.ts.length zc0) r0)]) := by rw [hCd]; exact fun _ h => h
      have HN : Hid (∀ x y, C x → Later x y → C y) := by rw [hCd]; exact fun _ _ h b => h.next b
      have H0 : Hid (C y13.drew) := by rw [hCd]; exact HS.out.drew1
      have hne : Nonempty (Kin C) := ⟨⟨_, H0.out⟩⟩
      clear hCd
      refine wp_region_gs (C := C) (E := byDst fun d => if d = 55 then some (nodeG r0) else if d = 56 then some (truth true) else none) (R := Later) HN.out (byDst_later (by intro d s hs u x y hx hl; split at hs; (cases hs; exact nodeG_later hx hl); split at hs; (cases hs; exact truthC_later hx hl); cases hs)) (byDst_looks _ _) (by kernel_rfl) (by kernel_rfl) H0.out ?_
      refine gs_loadS Tryz.isNd rfl rfl _ rfl y7.heap.size rfl (ndA (.slice aoX r0.xs.length acX) (.slice boX r0.ys.length bcX) (.slice koX r0.h.ks.length kcX) (.slice qoX r0.c.ts.length qcX) (.slice zoX r0.s.ts.length zcX) r0) rfl (fun q => (HQ.out _ q.h).get 2 rfl) ?_
      refine gs_loadS Tryz.isLNd rfl rfl _ rfl w.heap.size rfl (ndA (.slice ao0 r0.xs.length ac0) (.slice bo0 r0.ys.length bc0) (.slice ko0 r0.h.ks.length kc0) (.slice qo0 r0.c.ts.length qc0) (.slice zo0 r0.s.ts.length zc0) r0) rfl (fun q => (HQ.out _ q.h).get 7 rfl) ?_
      refine gs_call (nodeG r0) rfl (by first | rfl | kernel_rfl) (fun wq hB => ?_) (fun uq hu => ?_)
      · go_simp
        refine ⟨rfl, ?_⟩
        exact nodeG_of (TN.out _ (HQ.out _ hB.1).below)
      obtain ⟨aQ, bQ, kQ, qQ, zQ, rfl⟩ := hu
      refine gs_call (truth true) rfl (by first | rfl | kernel_rfl) (fun wq hB => ?_) (fun uq hu => ?_)
      · have hA := nodeG_rd (hB.at0 rfl)
        go_simp
        refine ⟨rfl, ?_⟩
        exact truth_of (fun _ h => h) (EN.out _ _ _ _ _ _ _ _ _ _ _ ((HQ.out _ hB.1).rdN 3 rfl) hA)
      obtain rfl := hu
      repeat (refine gs_plain rfl (fun K hK => ?_); go_simp; refine hK _ ?_; clear hK K)
      refine gs_end (fun y14 hz => ?_)
      clear HS
      have HS : Hid (Sta w y14 [Blk2 y9.heap.size 42 (ndA (.slice aoG m.xs.length acG) (.slice boG m.ys.length bcG) (.slice koG m.h.ks.length kcG) (.slice qoG m.c.ts.length qcG) (.slice zoG m.s.ts.length zcG) m) (y9.heap.size + 1) 44 (anA t), NdI (.slice aoG m.xs.length acG) (.slice boG m.ys.length bcG) (.slice koG m.h.ks.length kcG) (.slice qoG m.c.ts.length qcG) (.slice zoG m.s.ts.length zcG) m, Blk y7.heap.size 42 (ndA (.slice aoX r0.xs.length acX) (.slice boX r0.ys.length bcX) (.slice koX r0.h.ks.length kcX) (.slice qoX r0.c.ts.length qcX) (.slice zoX r0.s.ts.length zcX) r0), NdI (.slice aoX r0.xs.length acX) (.slice boX r0.ys.length bcX) (.slice koX r0.h.ks.length kcX) (.slice qoX r0.c.ts.length qcX) (.slice zoX r0.s.ts.length zcX) r0, Blk2 y4.heap.size 42 (ndA (.slice aoW m.xs.length acW) (.slice boW m.ys.length bcW) (.slice koW m.h.ks.length kcW) (.slice qoW m.c.ts.length qcW) (.slice zoW m.s.ts.length zcW) m) (y4.heap.size + 1) 44 (anA t), NdI (.slice aoW m.xs.length acW) (.slice boW m.ys.length bcW) (.slice koW m.h.ks.length kcW) (.slice qoW m.c.ts.length qcW) (.slice zoW m.s.ts.length zcW) m, NdI (.slice aoT r0.xs.length acT) (.slice boT r0.ys.length bcT) (.slice koT r0.h.ks.length kcT) (.slice qoT r0.c.ts.length qcT) (.slice zoT r0.s.ts.length zcT) r0, Blk w.heap.size 34 (ndA (.slice ao0 r0.xs.length ac0) (.slice bo0 r0.ys.length bc0) (.slice ko0 r0.h.ks.length kc0) (.slice qo0 r0.c.ts.length qc0) (.slice zo0 r0.s.ts.length zc0) r0)]) := HQ.out _ hz.1
      clear hz HQ HN H0 hne
      have HLb : Hid (r0.len ≤ 1048576) := HLe
      go_wp2_with (first | (refine wpList_getSG Tryz.isNd rfl _ rfl y7.heap.size rfl (ndA (.slice aoX r0.xs.length acX) (.slice boX r0.ys.length bcX) (.slice koX r0.h.ks.length kcX) (.slice qoX r0.c.ts.length qcX) (.slice zoX r0.s.ts.length zcX) r0) rfl (HS.out.get 2 rfl) ?_))
      refine (markNode_any _ _ _ _ _ r0 1 _ 0 (HS.out.get 3 rfl) HLb.out (by decide) (by decide)).mono ?_
      rintro e y15 ⟨rfl, oy15, my15⟩
      replace HS : Hid (Sta w y15 [Blk2 y9.heap.size 42 (ndA (.slice aoG m.xs.length acG) (.slice boG m.ys.length bcG) (.slice koG m.h.ks.length kcG) (.slice qoG m.c.ts.length qcG) (.slice zoG m.s.ts.length zcG) m) (y9.heap.size + 1) 44 (anA t), NdI (.slice aoG m.xs.length acG) (.slice boG m.ys.length bcG) (.slice koG m.h.ks.length kcG) (.slice qoG m.c.ts.length qcG) (.slice zoG m.s.ts.length zcG) m, Blk y7.heap.size 42 (ndA (.slice aoX r0.xs.length acX) (.slice boX r0.ys.length bcX) (.slice koX r0.h.ks.length kcX) (.slice qoX r0.c.ts.length qcX) (.slice zoX r0.s.ts.length zcX) r0), NdI (.slice aoX r0.xs.length acX) (.slice boX r0.ys.length bcX) (.slice koX r0.h.ks.length kcX) (.slice qoX r0.c.ts.length qcX) (.slice zoX r0.s.ts.length zcX) (r0.inked 1), Blk2 y4.heap.size 42 (ndA (.slice aoW m.xs.length acW) (.slice boW m.ys.length bcW) (.slice koW m.h.ks.length kcW) (.slice qoW m.c.ts.length qcW) (.slice zoW m.s.ts.length zcW) m) (y4.heap.size + 1) 44 (anA t), NdI (.slice aoW m.xs.length acW) (.slice boW m.ys.length bcW) (.slice koW m.h.ks.length kcW) (.slice qoW m.c.ts.length qcW) (.slice zoW m.s.ts.length zcW) m, NdI (.slice aoT r0.xs.length acT) (.slice boT r0.ys.length bcT) (.slice koT r0.h.ks.length kcT) (.slice qoT r0.c.ts.length qcT) (.slice zoT r0.s.ts.length zcT) r0, Blk w.heap.size 34 (ndA (.slice ao0 r0.xs.length ac0) (.slice bo0 r0.ys.length bc0) (.slice ko0 r0.h.ks.length kc0) (.slice qo0 r0.c.ts.length qc0) (.slice zo0 r0.s.ts.length zc0) r0)]) := HS.out.ink 3 rfl oy15 my15
      clear oy15 my15
      have hk0 : 0 ≤ 1 + (r0.xs.length : Int) + r0.ys.length + r0.h.ks.length + r0.c.ts.length + r0.s.ts.length := by omega
      go_wp2_with (first | (refine wpList_getSG Tryz.isNd rfl _ rfl y9.heap.size rfl (ndA (.slice aoG m.xs.length acG) (.slice boG m.ys.length bcG) (.slice koG m.h.ks.length kcG) (.slice qoG m.c.ts.length qcG) (.slice zoG m.s.ts.length zcG) m) rfl (HS.out.get 0 rfl).1 ?_) | (refine wpList_getSG Tryz.isNd rfl _ rfl y4.heap.size rfl (ndA (.slice aoW m.xs.length acW) (.slice boW m.ys.length bcW) (.slice koW m.h.ks.length kcW) (.slice qoW m.c.ts.length qcW) (.slice zoW m.s.ts.length zcW) m) rfl (HS.out.get 4 rfl).1 ?_))
      refine (EQ.out _ _ _ _ _ _ _ _ _ _ y15 (HS.out.rdN 1 rfl) (HS.out.rdN 5 rfl)).mono ?_
      rintro e y16 ⟨rfl, by16⟩
      replace HS : Hid (Sta w y16 [Blk2 y9.heap.size 42 (ndA (.slice aoG m.xs.length acG) (.slice boG m.ys.length bcG) (.slice koG m.h.ks.length kcG) (.slice qoG m.c.ts.length qcG) (.slice zoG m.s.ts.length zcG) m) (y9.heap.size + 1) 44 (anA t), NdI (.slice aoG m.xs.length acG) (.slice boG m.ys.length bcG) (.slice koG m.h.ks.length kcG) (.slice qoG m.c.ts.length qcG) (.slice zoG m.s.ts.length zcG) m, Blk y7.heap.size 42 (ndA (.slice aoX r0.xs.length acX) (.slice boX r0.ys.length bcX) (.slice koX r0.h.ks.length kcX) (.slice qoX r0.c.ts.length qcX) (.slice zoX r0.s.ts.length zcX) r0), NdI (.slice aoX r0.xs.length acX) (.slice boX r0.ys.length bcX) (.slice koX r0.h.ks.length kcX) (.slice qoX r0.c.ts.length qcX) (.slice zoX r0.s.ts.length zcX) (r0.inked 1), Blk2 y4.heap.size 42 (ndA (.slice aoW m.xs.length acW) (.slice boW m.ys.length bcW) (.slice koW m.h.ks.length kcW) (.slice qoW m.c.ts.length qcW) (.slice zoW m.s.ts.length zcW) m) (y4.heap.size + 1) 44 (anA t), NdI (.slice aoW m.xs.length acW) (.slice boW m.ys.length bcW) (.slice koW m.h.ks.length kcW) (.slice qoW m.c.ts.length qcW) (.slice zoW m.s.ts.length zcW) m, NdI (.slice aoT r0.xs.length acT) (.slice boT r0.ys.length bcT) (.slice koT r0.h.ks.length kcT) (.slice qoT r0.c.ts.length qcT) (.slice zoT r0.s.ts.length zcT) r0, Blk w.heap.size 34 (ndA (.slice ao0 r0.xs.length ac0) (.slice bo0 r0.ys.length bc0) (.slice ko0 r0.h.ks.length kc0) (.slice qo0 r0.c.ts.length qc0) (.slice zo0 r0.s.ts.length zc0) r0)]) := HS.out.next by16
      clear by16
      go_wp2_with (first | (refine wpList_getSG Tryz.isA rfl _ rfl (y9.heap.size + 1) rfl (anA t) rfl (HS.out.get 0 rfl).2 ?_) | (refine wpList_getSG Tryz.isA rfl _ rfl (y4.heap.size + 1) rfl (anA t) rfl (HS.out.get 4 rfl).2 ?_))
      refine (EA.out y16).mono ?_
      rintro e y17 ⟨rfl, by17⟩
      replace HS : Hid (Sta w y17 [Blk2 y9.heap.size 42 (ndA (.slice aoG m.xs.length acG) (.slice boG m.ys.length bcG) (.slice koG m.h.ks.length kcG) (.slice qoG m.c.ts.length qcG) (.slice zoG m.s.ts.length zcG) m) (y9.heap.size + 1) 44 (anA t), NdI (.slice aoG m.xs.length acG) (.slice boG m.ys.length bcG) (.slice koG m.h.ks.length kcG) (.slice qoG m.c.ts.length qcG) (.slice zoG m.s.ts.length zcG) m, Blk y7.heap.size 42 (ndA (.slice aoX r0.xs.length acX) (.slice boX r0.ys.length bcX) (.slice koX r0.h.ks.length kcX) (.slice qoX r0.c.ts.length qcX) (.slice zoX r0.s.ts.length zcX) r0), NdI (.slice aoX r0.xs.length acX) (.slice boX r0.ys.length bcX) (.slice koX r0.h.ks.length kcX) (.slice qoX r0.c.ts.length qcX) (.slice zoX r0.s.ts.length zcX) (r0.inked 1), Blk2 y4.heap.size 42 (ndA (.slice aoW m.xs.length acW) (.slice boW m.ys.length bcW) (.slice koW m.h.ks.length kcW) (.slice qoW m.c.ts.length qcW) (.slice zoW m.s.ts.length zcW) m) (y4.heap.size + 1) 44 (anA t), NdI (.slice aoW m.xs.length acW) (.slice boW m.ys.length bcW) (.slice koW m.h.ks.length kcW) (.slice qoW m.c.ts.length qcW) (.slice zoW m.s.ts.length zcW) m, NdI (.slice aoT r0.xs.length acT) (.slice boT r0.ys.length bcT) (.slice koT r0.h.ks.length kcT) (.slice qoT r0.c.ts.length qcT) (.slice zoT r0.s.ts.length zcT) r0, Blk w.heap.size 34 (ndA (.slice ao0 r0.xs.length ac0) (.slice bo0 r0.ys.length bc0) (.slice ko0 r0.h.ks.length kc0) (.slice qo0 r0.c.ts.length qc0) (.slice zo0 r0.s.ts.length zc0) r0)]) := HS.out.next by17
      clear by17
      clear hk0
      go_wp2_with (refine wpList_getSG Tryz.isNd rfl _ rfl y9.heap.size rfl (ndA (.slice aoG m.xs.length acG) (.slice boG m.ys.length bcG) (.slice koG m.h.ks.length kcG) (.slice qoG m.c.ts.length qcG) (.slice zoG m.s.ts.length zcG) m) rfl (HS.out.get 0 rfl).1 ?_)
      refine (markNode_any _ _ _ _ _ m 1 _ 0 (HS.out.get 1 rfl) HMb.out (by decide) (by decide)).mono ?_
      rintro e y18 ⟨rfl, oy18, my18⟩
      replace HS : Hid (Sta w y18 [Blk2 y9.heap.size 42 (ndA (.slice aoG m.xs.length acG) (.slice boG m.ys.length bcG) (.slice koG m.h.ks.length kcG) (.slice qoG m.c.ts.length qcG) (.slice zoG m.s.ts.length zcG) m) (y9.heap.size + 1) 44 (anA t), NdI (.slice aoG m.xs.length acG) (.slice boG m.ys.length bcG) (.slice koG m.h.ks.length kcG) (.slice qoG m.c.ts.length qcG) (.slice zoG m.s.ts.length zcG) (m.inked 1), Blk y7.heap.size 42 (ndA (.slice aoX r0.xs.length acX) (.slice boX r0.ys.length bcX) (.slice koX r0.h.ks.length kcX) (.slice qoX r0.c.ts.length qcX) (.slice zoX r0.s.ts.length zcX) r0), NdI (.slice aoX r0.xs.length acX) (.slice boX r0.ys.length bcX) (.slice koX r0.h.ks.length kcX) (.slice qoX r0.c.ts.length qcX) (.slice zoX r0.s.ts.length zcX) (r0.inked 1), Blk2 y4.heap.size 42 (ndA (.slice aoW m.xs.length acW) (.slice boW m.ys.length bcW) (.slice koW m.h.ks.length kcW) (.slice qoW m.c.ts.length qcW) (.slice zoW m.s.ts.length zcW) m) (y4.heap.size + 1) 44 (anA t), NdI (.slice aoW m.xs.length acW) (.slice boW m.ys.length bcW) (.slice koW m.h.ks.length kcW) (.slice qoW m.c.ts.length qcW) (.slice zoW m.s.ts.length zcW) m, NdI (.slice aoT r0.xs.length acT) (.slice boT r0.ys.length bcT) (.slice koT r0.h.ks.length kcT) (.slice qoT r0.c.ts.length qcT) (.slice zoT r0.s.ts.length zcT) r0, Blk w.heap.size 34 (ndA (.slice ao0 r0.xs.length ac0) (.slice bo0 r0.ys.length bc0) (.slice ko0 r0.h.ks.length kc0) (.slice qo0 r0.c.ts.length qc0) (.slice zo0 r0.s.ts.length zc0) r0)]) := HS.out.ink 1 rfl oy18 my18
      clear oy18 my18
      go_wp2_with (refine wpList_getSG Tryz.isNd rfl _ rfl y9.heap.size rfl (ndA (.slice aoG m.xs.length acG) (.slice boG m.ys.length bcG) (.slice koG m.h.ks.length kcG) (.slice qoG m.c.ts.length qcG) (.slice zoG m.s.ts.length zcG) m) rfl (HS.out.get 0 rfl).1 ?_)
      refine (heldNode_any _ _ _ _ _ m 1 _ (HS.out.rdN 1 rfl) HMb.out (by decide) (by decide)).mono ?_
      rintro e y19 ⟨rfl, by19⟩
      replace HS : Hid (Sta w y19 [Blk2 y9.heap.size 42 (ndA (.slice aoG m.xs.length acG) (.slice boG m.ys.length bcG) (.slice koG m.h.ks.length kcG) (.slice qoG m.c.ts.length qcG) (.slice zoG m.s.ts.length zcG) m) (y9.heap.size + 1) 44 (anA t), NdI (.slice aoG m.xs.length acG) (.slice boG m.ys.length bcG) (.slice koG m.h.ks.length kcG) (.slice qoG m.c.ts.length qcG) (.slice zoG m.s.ts.length zcG) (m.inked 1), Blk y7.heap.size 42 (ndA (.slice aoX r0.xs.length acX) (.slice boX r0.ys.length bcX) (.slice koX r0.h.ks.length kcX) (.slice qoX r0.c.ts.length qcX) (.slice zoX r0.s.ts.length zcX) r0), NdI (.slice aoX r0.xs.length acX) (.slice boX r0.ys.length bcX) (.slice koX r0.h.ks.length kcX) (.slice qoX r0.c.ts.length qcX) (.slice zoX r0.s.ts.length zcX) (r0.inked 1), Blk2 y4.heap.size 42 (ndA (.slice aoW m.xs.length acW) (.slice boW m.ys.length bcW) (.slice koW m.h.ks.length kcW) (.slice qoW m.c.ts.length qcW) (.slice zoW m.s.ts.length zcW) m) (y4.heap.size + 1) 44 (anA t), NdI (.slice aoW m.xs.length acW) (.slice boW m.ys.length bcW) (.slice koW m.h.ks.length kcW) (.slice qoW m.c.ts.length qcW) (.slice zoW m.s.ts.length zcW) m, NdI (.slice aoT r0.xs.length acT) (.slice boT r0.ys.length bcT) (.slice koT r0.h.ks.length kcT) (.slice qoT r0.c.ts.length qcT) (.slice zoT r0.s.ts.length zcT) r0, Blk w.heap.size 34 (ndA (.slice ao0 r0.xs.length ac0) (.slice bo0 r0.ys.length bc0) (.slice ko0 r0.h.ks.length kc0) (.slice qo0 r0.c.ts.length qc0) (.slice zo0 r0.s.ts.length zc0) r0)]) := HS.out.next by19
      clear by19
      have hk1 : 0 ≤ 1 + (m.xs.length : Int) + m.ys.length + m.h.ks.length + m.c.ts.length + m.s.ts.length := by omega
      go_wp2_with (first | (refine wpList_getSG Tryz.isLNd rfl _ rfl w.heap.size rfl (ndA (.slice ao0 r0.xs.length ac0) (.slice bo0 r0.ys.length bc0) (.slice ko0 r0.h.ks.length kc0) (.slice qo0 r0.c.ts.length qc0) (.slice zo0 r0.s.ts.length zc0) r0) rfl (HS.out.get 7 rfl) ?_))
      refine (TN.out y19 HS.out.below).mono ?_
      rintro e y20 ⟨aU, bU, kU, qU, zU, rfl, oy20, by20⟩
      obtain ⟨aoU, acU, rfl⟩ := reads_form oy20.oa.reads
      obtain ⟨boU, bcU, rfl⟩ := reads_form oy20.ob.reads
      obtain ⟨koU, kcU, rfl⟩ := reads_form oy20.ok.reads
      obtain ⟨qoU, qcU, rfl⟩ := reads_form oy20.oq.reads
      obtain ⟨zoU, zcU, rfl⟩ := reads_form oy20.oz.reads
      replace HS : Hid (Sta w y20 [NdI (.slice aoU r0.xs.length acU) (.slice boU r0.ys.length bcU) (.slice koU r0.h.ks.length kcU) (.slice qoU r0.c.ts.length qcU) (.slice zoU r0.s.ts.length zcU) r0, Blk2 y9.heap.size 42 (ndA (.slice aoG m.xs.length acG) (.slice boG m.ys.length bcG) (.slice koG m.h.ks.length kcG) (.slice qoG m.c.ts.length qcG) (.slice zoG m.s.ts.length zcG) m) (y9.heap.size + 1) 44 (anA t), NdI (.slice aoG m.xs.length acG) (.slice boG m.ys.length bcG) (.slice koG m.h.ks.length kcG) (.slice qoG m.c.ts.length qcG) (.slice zoG m.s.ts.length zcG) (m.inked 1), Blk y7.heap.size 42 (ndA (.slice aoX r0.xs.length acX) (.slice boX r0.ys.length bcX) (.slice koX r0.h.ks.length kcX) (.slice qoX r0.c.ts.length qcX) (.slice zoX r0.s.ts.length zcX) r0), NdI (.slice aoX r0.xs.length acX) (.slice boX r0.ys.length bcX) (.slice koX r0.h.ks.length kcX) (.slice qoX r0.c.ts.length qcX) (.slice zoX r0.s.ts.length zcX) (r0.inked 1), Blk2 y4.heap.size 42 (ndA (.slice aoW m.xs.length acW) (.slice boW m.ys.length bcW) (.slice koW m.h.ks.length kcW) (.slice qoW m.c.ts.length qcW) (.slice zoW m.s.ts.length zcW) m) (y4.heap.size + 1) 44 (anA t), NdI (.slice aoW m.xs.length acW) (.slice boW m.ys.length bcW) (.slice koW m.h.ks.length kcW) (.slice qoW m.c.ts.length qcW) (.slice zoW m.s.ts.length zcW) m, NdI (.slice aoT r0.xs.length acT) (.slice boT r0.ys.length bcT) (.slice koT r0.h.ks.length kcT) (.slice qoT r0.c.ts.length qcT) (.slice zoT r0.s.ts.length zcT) r0, Blk w.heap.size 34 (ndA (.slice ao0 r0.xs.length ac0) (.slice bo0 r0.ys.length bc0) (.slice ko0 r0.h.ks.length kc0) (.slice qo0 r0.c.ts.length qc0) (.slice zo0 r0.s.ts.length zc0) r0)]) := HS.out.house oy20.mine by20
      clear oy20 by20
      go_wp2_with fail
      refine (IP.out _ _ _ _ _ y20 (HS.out.rdN 0 rfl) HS.out.below).mono ?_
      rintro e y21 ⟨aH, bH, kH, qH, zH, rfl, oy21, by21⟩
      obtain ⟨aoH, acH, rfl⟩ := reads_form oy21.oa.reads
      obtain ⟨boH, bcH, rfl⟩ := reads_form oy21.ob.reads
      obtain ⟨koH, kcH, rfl⟩ := reads_form oy21.ok.reads
      obtain ⟨qoH, qcH, rfl⟩ := reads_form oy21.oq.reads
      obtain ⟨zoH, zcH, rfl⟩ := reads_form oy21.oz.reads
      replace HS : Hid (Sta w y21 [NdI (.slice aoH m.xs.length acH) (.slice boH m.ys.length bcH) (.slice koH m.h.ks.length kcH) (.slice qoH m.c.ts.length qcH) (.slice zoH m.s.ts.length zcH) m, NdI (.slice aoU r0.xs.length acU) (.slice boU r0.ys.length bcU) (.slice koU r0.h.ks.length kcU) (.slice qoU r0.c.ts.length qcU) (.slice zoU r0.s.ts.length zcU) r0, Blk2 y9.heap.size 42 (ndA (.slice aoG m.xs.length acG) (.slice boG m.ys.length bcG) (.slice koG m.h.ks.length kcG) (.slice qoG m.c.ts.length qcG) (.slice zoG m.s.ts.length zcG) m) (y9.heap.size + 1) 44 (anA t), NdI (.slice aoG m.xs.length acG) (.slice boG m.ys.length bcG) (.slice koG m.h.ks.length kcG) (.slice qoG m.c.ts.length qcG) (.slice zoG m.s.ts.length zcG) (m.inked 1), Blk y7.heap.size 42 (ndA (.slice aoX r0.xs.length acX) (.slice boX r0.ys.length bcX) (.slice koX r0.h.ks.length kcX) (.slice qoX r0.c.ts.length qcX) (.slice zoX r0.s.ts.length zcX) r0), NdI (.slice aoX r0.xs.length acX) (.slice boX r0.ys.length bcX) (.slice koX r0.h.ks.length kcX) (.slice qoX r0.c.ts.length qcX) (.slice zoX r0.s.ts.length zcX) (r0.inked 1), Blk2 y4.heap.size 42 (ndA (.slice aoW m.xs.length acW) (.slice boW m.ys.length bcW) (.slice koW m.h.ks.length kcW) (.slice qoW m.c.ts.length qcW) (.slice zoW m.s.ts.length zcW) m) (y4.heap.size + 1) 44 (anA t), NdI (.slice aoW m.xs.length acW) (.slice boW m.ys.length bcW) (.slice koW m.h.ks.length kcW) (.slice qoW m.c.ts.length qcW) (.slice zoW m.s.ts.length zcW) m, NdI (.slice aoT r0.xs.length acT) (.slice boT r0.ys.length bcT) (.slice koT r0.h.ks.length kcT) (.slice qoT r0.c.ts.length qcT) (.slice zoT r0.s.ts.length zcT) r0, Blk w.heap.size 34 (ndA (.slice ao0 r0.xs.length ac0) (.slice bo0 r0.ys.length bc0) (.slice ko0 r0.h.ks.length kc0) (.slice qo0 r0.c.ts.length qc0) (.slice zo0 r0.s.ts.length zc0) r0)]) := HS.out.house oy21 by21
      clear oy21 by21
      have qy22 : StB ((y21.alloc (.cells zeroNd 42)).alloc (.cells (anA ⟨0, []⟩) 44)) y21.heap.size 42 zeroNd := (StB.new y21 _ _).alloc _
      have ry22 : StB ((y21.alloc (.cells zeroNd 42)).alloc (.cells (anA ⟨0, []⟩) 44)) (y21.heap.size + 1) 44 (anA ⟨0, []⟩) := by
        have h := StB.new (y21.alloc (.cells zeroNd 42)) 44 (anA ⟨0, []⟩)
        rwa [World.size_alloc] at h
      go_upto_region 27 with (first | (refine wpList_putS Tryz.isNd rfl _ _ rfl y21.heap.size (ndA (.slice aoH m.xs.length acH) (.slice boH m.ys.length bcH) (.slice koH m.h.ks.length kcH) (.slice qoH m.c.ts.length qcH) (.slice zoH m.s.ts.length zcH) m) zeroNd rfl rfl rfl rfl (ndA_one m rfl rfl rfl rfl rfl) qy22 ?_; intro y22 sy22 gy22) | (refine wpList_putS Tryz.isA rfl _ _ rfl (y21.heap.size + 1) (anA t) (anA ⟨0, []⟩) rfl rfl rfl rfl (anA_one t) (ry22.kept gy22 (by simp)) ?_; intro y23 sy23 gy23))
      have by23 : Below y21.heap.size y21 y23 := ((((Below.refl _ _).alloc (Nat.le_refl _) _).alloc (by simp) _).grown gy22 (by simp; omega) (fun k e => by cases e; omega)).grown gy23 (Nat.le_trans (by simp; omega) gy22.size) (fun k e => by cases e; omega)
      replace HS : Hid (Sta w y23 [Blk2 y21.heap.size 42 (ndA (.slice aoH m.xs.length acH) (.slice boH m.ys.length bcH) (.slice koH m.h.ks.length kcH) (.slice qoH m.c.ts.length qcH) (.slice zoH m.s.ts.length zcH) m) (y21.heap.size + 1) 44 (anA t), NdI (.slice aoH m.xs.length acH) (.slice boH m.ys.length bcH) (.slice koH m.h.ks.length kcH) (.slice qoH m.c.ts.length qcH) (.slice zoH m.s.ts.length zcH) m, NdI (.slice aoU r0.xs.length acU) (.slice boU r0.ys.length bcU) (.slice koU r0.h.ks.length kcU) (.slice qoU r0.c.ts.length qcU) (.slice zoU r0.s.ts.length zcU) r0, Blk2 y9.heap.size 42 (ndA (.slice aoG m.xs.length acG) (.slice boG m.ys.length bcG) (.slice koG m.h.ks.length kcG) (.slice qoG m.c.ts.length qcG) (.slice zoG m.s.ts.length zcG) m) (y9.heap.size + 1) 44 (anA t), NdI (.slice aoG m.xs.length acG) (.slice boG m.ys.length bcG) (.slice koG m.h.ks.length kcG) (.slice qoG m.c.ts.length qcG) (.slice zoG m.s.ts.length zcG) (m.inked 1), Blk y7.heap.size 42 (ndA (.slice aoX r0.xs.length acX) (.slice boX r0.ys.length bcX) (.slice koX r0.h.ks.length kcX) (.slice qoX r0.c.ts.length qcX) (.slice zoX r0.s.ts.length zcX) r0), NdI (.slice aoX r0.xs.length acX) (.slice boX r0.ys.length bcX) (.slice koX r0.h.ks.length kcX) (.slice qoX r0.c.ts.length qcX) (.slice zoX r0.s.ts.length zcX) (r0.inked 1), Blk2 y4.heap.size 42 (ndA (.slice aoW m.xs.length acW) (.slice boW m.ys.length bcW) (.slice koW m.h.ks.length kcW) (.slice qoW m.c.ts.length qcW) (.slice zoW m.s.ts.length zcW) m) (y4.heap.size + 1) 44 (anA t), NdI (.slice aoW m.xs.length acW) (.slice boW m.ys.length bcW) (.slice koW m.h.ks.length kcW) (.slice qoW m.c.ts.length qcW) (.slice zoW m.s.ts.length zcW) m, NdI (.slice aoT r0.xs.length acT) (.slice boT r0.ys.length bcT) (.slice koT r0.h.ks.length kcT) (.slice qoT r0.c.ts.length qcT) (.slice zoT r0.s.ts.length zcT) r0, Blk w.heap.size 34 (ndA (.slice ao0 r0.xs.length ac0) (.slice bo0 r0.ys.length bc0) (.slice ko0 r0.h.ks.length kc0) (.slice qo0 r0.c.ts.length qc0) (.slice zo0 r0.s.ts.length zc0) r0)]) := HS.out.var2 by23 (sy22.kept gy23 (by simp)) sy23 (Nat.le_refl _) (Nat.le_succ _)
      clear qy22 ry22 sy22 gy22 sy23 gy23 by23
      (try simp only [Act.put])
      go_wp2_with (first | (refine wpList_getSG Tryz.isNd rfl _ rfl y21.heap.size rfl (ndA (.slice aoH m.xs.length acH) (.slice boH m.ys.length bcH) (.slice koH m.h.ks.length kcH) (.slice qoH m.c.ts.length qcH) (.slice zoH m.s.ts.length zcH) m) rfl (HS.out.get 0 rfl).1 ?_) | (refine wpList_getSG Tryz.isNd rfl _ rfl y4.heap.size rfl (ndA (.slice aoW m.xs.length acW) (.slice boW m.ys.length bcW) (.slice koW m.h.ks.length kcW) (.slice qoW m.c.ts.length qcW) (.slice zoW m.s.ts.length zcW) m) rfl (HS.out.get 7 rfl).1 ?_))
      refine (EQ.out _ _ _ _ _ _ _ _ _ _ y23 (HS.out.rdN 1 rfl) (HS.out.rdN 8 rfl)).mono ?_
      rintro e y24 ⟨rfl, by24⟩
      replace HS : Hid (Sta w y24 [Blk2 y21.heap.size 42 (ndA (.slice aoH m.xs.length acH) (.slice boH m.ys.length bcH) (.slice koH m.h.ks.length kcH) (.slice qoH m.c.ts.length qcH) (.slice zoH m.s.ts.length zcH) m) (y21.heap.size + 1) 44 (anA t), NdI (.slice aoH m.xs.length acH) (.slice boH m.ys.length bcH) (.slice koH m.h.ks.length kcH) (.slice qoH m.c.ts.length qcH) (.slice zoH m.s.ts.length zcH) m, NdI (.slice aoU r0.xs.length acU) (.slice boU r0.ys.length bcU) (.slice koU r0.h.ks.length kcU) (.slice qoU r0.c.ts.length qcU) (.slice zoU r0.s.ts.length zcU) r0, Blk2 y9.heap.size 42 (ndA (.slice aoG m.xs.length acG) (.slice boG m.ys.length bcG) (.slice koG m.h.ks.length kcG) (.slice qoG m.c.ts.length qcG) (.slice zoG m.s.ts.length zcG) m) (y9.heap.size + 1) 44 (anA t), NdI (.slice aoG m.xs.length acG) (.slice boG m.ys.length bcG) (.slice koG m.h.ks.length kcG) (.slice qoG m.c.ts.length qcG) (.slice zoG m.s.ts.length zcG) (m.inked 1), Blk y7.heap.size 42 (ndA (.slice aoX r0.xs.length acX) (.slice boX r0.ys.length bcX) (.slice koX r0.h.ks.length kcX) (.slice qoX r0.c.ts.length qcX) (.slice zoX r0.s.ts.length zcX) r0), NdI (.slice aoX r0.xs.length acX) (.slice boX r0.ys.length bcX) (.slice koX r0.h.ks.length kcX) (.slice qoX r0.c.ts.length qcX) (.slice zoX r0.s.ts.length zcX) (r0.inked 1), Blk2 y4.heap.size 42 (ndA (.slice aoW m.xs.length acW) (.slice boW m.ys.length bcW) (.slice koW m.h.ks.length kcW) (.slice qoW m.c.ts.length qcW) (.slice zoW m.s.ts.length zcW) m) (y4.heap.size + 1) 44 (anA t), NdI (.slice aoW m.xs.length acW) (.slice boW m.ys.length bcW) (.slice koW m.h.ks.length kcW) (.slice qoW m.c.ts.length qcW) (.slice zoW m.s.ts.length zcW) m, NdI (.slice aoT r0.xs.length acT) (.slice boT r0.ys.length bcT) (.slice koT r0.h.ks.length kcT) (.slice qoT r0.c.ts.length qcT) (.slice zoT r0.s.ts.length zcT) r0, Blk w.heap.size 34 (ndA (.slice ao0 r0.xs.length ac0) (.slice bo0 r0.ys.length bc0) (.slice ko0 r0.h.ks.length kc0) (.slice qo0 r0.c.ts.length qc0) (.slice zo0 r0.s.ts.length zc0) r0)]) := HS.out.next by24
      clear by24
      go_wp2_with (first | (refine wpList_getSG Tryz.isA rfl _ rfl (y21.heap.size + 1) rfl (anA t) rfl (HS.out.get 0 rfl).2 ?_) | (refine wpList_getSG Tryz.isA rfl _ rfl (y4.heap.size + 1) rfl (anA t) rfl (HS.out.get 7 rfl).2 ?_))
      refine (EA.out y24).mono ?_
      rintro e y25 ⟨rfl, by25⟩
      replace HS : Hid (Sta w y25 [Blk2 y21.heap.size 42 (ndA (.slice aoH m.xs.length acH) (.slice boH m.ys.length bcH) (.slice koH m.h.ks.length kcH) (.slice qoH m.c.ts.length qcH) (.slice zoH m.s.ts.length zcH) m) (y21.heap.size + 1) 44 (anA t), NdI (.slice aoH m.xs.length acH) (.slice boH m.ys.length bcH) (.slice koH m.h.ks.length kcH) (.slice qoH m.c.ts.length qcH) (.slice zoH m.s.ts.length zcH) m, NdI (.slice aoU r0.xs.length acU) (.slice boU r0.ys.length bcU) (.slice koU r0.h.ks.length kcU) (.slice qoU r0.c.ts.length qcU) (.slice zoU r0.s.ts.length zcU) r0, Blk2 y9.heap.size 42 (ndA (.slice aoG m.xs.length acG) (.slice boG m.ys.length bcG) (.slice koG m.h.ks.length kcG) (.slice qoG m.c.ts.length qcG) (.slice zoG m.s.ts.length zcG) m) (y9.heap.size + 1) 44 (anA t), NdI (.slice aoG m.xs.length acG) (.slice boG m.ys.length bcG) (.slice koG m.h.ks.length kcG) (.slice qoG m.c.ts.length qcG) (.slice zoG m.s.ts.length zcG) (m.inked 1), Blk y7.heap.size 42 (ndA (.slice aoX r0.xs.length acX) (.slice boX r0.ys.length bcX) (.slice koX r0.h.ks.length kcX) (.slice qoX r0.c.ts.length qcX) (.slice zoX r0.s.ts.length zcX) r0), NdI (.slice aoX r0.xs.length acX) (.slice boX r0.ys.length bcX) (.slice koX r0.h.ks.length kcX) (.slice qoX r0.c.ts.length qcX) (.slice zoX r0.s.ts.length zcX) (r0.inked 1), Blk2 y4.heap.size 42 (ndA (.slice aoW m.xs.length acW) (.slice boW m.ys.length bcW) (.slice koW m.h.ks.length kcW) (.slice qoW m.c.ts.length qcW) (.slice zoW m.s.ts.length zcW) m) (y4.heap.size + 1) 44 (anA t), NdI (.slice aoW m.xs.length acW) (.slice boW m.ys.length bcW) (.slice koW m.h.ks.length kcW) (.slice qoW m.c.ts.length qcW) (.slice zoW m.s.ts.length zcW) m, NdI (.slice aoT r0.xs.length acT) (.slice boT r0.ys.length bcT) (.slice koT r0.h.ks.length kcT) (.slice qoT r0.c.ts.length qcT) (.slice zoT r0.s.ts.length zcT) r0, Blk w.heap.size 34 (ndA (.slice ao0 r0.xs.length ac0) (.slice bo0 r0.ys.length bc0) (.slice ko0 r0.h.ks.length kc0) (.slice qo0 r0.c.ts.length qc0) (.slice zo0 r0.s.ts.length zc0) r0)]) := HS.out.next by25
      clear by25
      go_wp2_with (refine wpList_getSG Tryz.isNd rfl _ rfl y9.heap.size rfl (ndA (.slice aoG m.xs.length acG) (.slice boG m.ys.length bcG) (.slice koG m.h.ks.length kcG) (.slice qoG m.c.ts.length qcG) (.slice zoG m.s.ts.length zcG) m) rfl (HS.out.get 3 rfl).1 ?_)
      refine (heldNode_any _ _ _ _ _ m 1 _ (HS.out.rdN 4 rfl) HMb.out (by decide) (by decide)).mono ?_
      rintro e y26 ⟨rfl, by26⟩
      replace HS : Hid (Sta w y26 [Blk2 y21.heap.size 42 (ndA (.slice aoH m.xs.length acH) (.slice boH m.ys.length bcH) (.slice koH m.h.ks.length kcH) (.slice qoH m.c.ts.length qcH) (.slice zoH m.s.ts.length zcH) m) (y21.heap.size + 1) 44 (anA t), NdI (.slice aoH m.xs.length acH) (.slice boH m.ys.length bcH) (.slice koH m.h.ks.length kcH) (.slice qoH m.c.ts.length qcH) (.slice zoH m.s.ts.length zcH) m, NdI (.slice aoU r0.xs.length acU) (.slice boU r0.ys.length bcU) (.slice koU r0.h.ks.length kcU) (.slice qoU r0.c.ts.length qcU) (.slice zoU r0.s.ts.length zcU) r0, Blk2 y9.heap.size 42 (ndA (.slice aoG m.xs.length acG) (.slice boG m.ys.length bcG) (.slice koG m.h.ks.length kcG) (.slice qoG m.c.ts.length qcG) (.slice zoG m.s.ts.length zcG) m) (y9.heap.size + 1) 44 (anA t), NdI (.slice aoG m.xs.length acG) (.slice boG m.ys.length bcG) (.slice koG m.h.ks.length kcG) (.slice qoG m.c.ts.length qcG) (.slice zoG m.s.ts.length zcG) (m.inked 1), Blk y7.heap.size 42 (ndA (.slice aoX r0.xs.length acX) (.slice boX r0.ys.length bcX) (.slice koX r0.h.ks.length kcX) (.slice qoX r0.c.ts.length qcX) (.slice zoX r0.s.ts.length zcX) r0), NdI (.slice aoX r0.xs.length acX) (.slice boX r0.ys.length bcX) (.slice koX r0.h.ks.length kcX) (.slice qoX r0.c.ts.length qcX) (.slice zoX r0.s.ts.length zcX) (r0.inked 1), Blk2 y4.heap.size 42 (ndA (.slice aoW m.xs.length acW) (.slice boW m.ys.length bcW) (.slice koW m.h.ks.length kcW) (.slice qoW m.c.ts.length qcW) (.slice zoW m.s.ts.length zcW) m) (y4.heap.size + 1) 44 (anA t), NdI (.slice aoW m.xs.length acW) (.slice boW m.ys.length bcW) (.slice koW m.h.ks.length kcW) (.slice qoW m.c.ts.length qcW) (.slice zoW m.s.ts.length zcW) m, NdI (.slice aoT r0.xs.length acT) (.slice boT r0.ys.length bcT) (.slice koT r0.h.ks.length kcT) (.slice qoT r0.c.ts.length qcT) (.slice zoT r0.s.ts.length zcT) r0, Blk w.heap.size 34 (ndA (.slice ao0 r0.xs.length ac0) (.slice bo0 r0.ys.length bc0) (.slice ko0 r0.h.ks.length kc0) (.slice qo0 r0.c.ts.length qc0) (.slice zo0 r0.s.ts.length zc0) r0)]) := HS.out.next by26
      clear by26
      have HB : Hid (Below w.heap.size w _) := HS.out.below
      clear HS
      go_wp2_with fail
      go_ret
      exact ⟨rfl, HB.out⟩
    · have hsz : szI 1048576 (r0.len + r0.log.length) = -1 := by simp only [szI]; rw [if_neg (by omega)]
      rw [hsz]
      have HB : Hid (Below w.heap.size w w2) := HS.out.below
      clear HS hsz HR
      go_wp2
      go_ret
      exact ⟨rfl, HB.out⟩

set_option maxRecDepth 100000 in
theorem lifted (os : Os) (started : os.Started) (H : Type) (enc : TypeId × Value → H) :
    ReturnsInHanded {} Tryz.checked os 3 .any (fun w args => (Rows.fnExactAskedSpec.pre enc Tryz.prog Tryz.f3 [] false w args ∧ laidMetH Tryz.prog Rows.fnExactAskedRow.laid w) ∧ sizedMet enc Tryz.prog Tryz.f3 (OpenSpec.ofChange Rows.fnExactAskedSpec) false w args) (Rows.fnExactAskedSpec.post enc Tryz.prog Tryz.f3 false true false false) := by
  refine returnsInHanded_of_change_and (C := Tryz.checked) (X := fun w _ => laidMetH Tryz.prog Rows.fnExactAskedRow.laid w) (fun _ _ _ hh h => h.of_heap hh) own started (by kernel_rfl) Tryz.func3
    (ChangeSpec.witness_shaped (enc := enc) (C := Tryz.checked) (os := os) (X := fun w _ => laidMetH Tryz.prog Rows.fnExactAskedRow.laid w) false (worldA os) #[.agg #[.int .i64 0, .bool false, .slice none 0 0, .slice none 0 0, .slice none 0 0, .int .i64 0, .int .i64 0, .int .i64 0, .string ByteArray.empty, .int .i64 0, .int .i64 0, .int .i64 0, .int .i64 0, .int .i64 0, .bool false, .int .i64 0, .int .i64 0, .slice none 0 0, .int .i64 0, .slice none 0 0], .int .i64 0, .string ByteArray.empty] 8 (World.layVars_os _ _ _) (World.shaped_of_ZipB (by kernel_rfl) (by kernel_rfl)) (by kernel_rfl) (by kernel_rfl) (by kernel_rfl) (met_fnExactAsked os _)) ?_
  intro W base args ds gs before hval0 hW hcnd _ hL _
  have hval : ∀ (j : Nat) t v, Tryz.f3.params[j]? = some t → args[j]? = some v → Value.okWide Tryz.prog W .any base t v := hval0
  have hW' := hW
  obtain ⟨p, q, hA0, hV, rfl, hfz, hnd⟩ := hW
  have hA : DataW.TrodAll enc Tryz.prog W 0 (fun _ => true) true Tryz.f3.params.toList args.toList ds p := hA0
  rw [Tryz.params3] at hA hval
  obtain ⟨v0, vs0, d0, ds0, p0, q0, hargs, rfl, rfl, h0, s0⟩ := trodAll_cons hA
  obtain ⟨v1, vs1, d1, ds1, p1, q1, rfl, rfl, rfl, h1, s1⟩ := trodAll_cons s0
  obtain ⟨v2, vs2, d2, ds2, p2, q2, rfl, rfl, rfl, h2, s2⟩ := trodAll_cons s1
  obtain ⟨rfl, rfl, rfl⟩ := trodAll_nil s2
  obtain rfl : args = #[v0, v1, v2] := by cases args; simp_all
  obtain ⟨g1, g2, g3, g4, rfl⟩ := vars4 hV
  have k0 := h0
  have lt0 : ∀ x ∈ p0, x.block < W.heap.size := by obtain ⟨m, hm⟩ := k0; exact DataW.trod_lt m _ _ _ hm
  obtain ⟨r0, u0, y0, c0, q0', z0, rfl, f0, e0, l0⟩ := open_node (hval 0 34 v0 rfl rfl) h0
  obtain ⟨a1, rfl, rfl, rfl, w1⟩ := open_int Tryz.underlying2 (hval 1 2 v1 rfl rfl) h1
  obtain ⟨a2, rfl, rfl, rfl, w2⟩ := open_string Tryz.underlying9 (hval 2 9 v2 rfl rfl) h2
  clear hA0 hval0
  refine (walk r0 u0 y0 c0 q0' z0 a1 a2 W f0 e0 l0 w1 w2 (tab_fnExactAsked hL)).mono fun e W' ⟨he, bel⟩ => ?_
  subst he
  exact ⟨_, rfl, _, _, _, [], _, q, hW', trodAll_mk1 (shut_bool Tryz.underlying4 _), (trodAll_cons_mk (Below.trod laidOut (by kernel_rfl) (of_decide_eq_true (by kernel_rfl)) k0 bel lt0) (trodAll_cons_mk (shut_int Tryz.underlying2 w1) (trodAll_cons_mk (shut_string Tryz.underlying9 w2) trodAll_mk0))), Below.trodVars laidOut bel (by kernel_rfl) hV, bel.frame _, fun h => by cases h⟩

theorem over : Rows.fnExactAskedRow.holds Tryz.pinned (OpenSpec.ofChange Rows.fnExactAskedSpec) :=
  OpenClaim.holds_of_wide 3 Tryz.f3 rfl rfl rfl rfl rfl rfl rfl ⟨rfl, rfl, rfl, rfl, rfl⟩ rfl rfl rfl rfl rfl (by kernel_rfl) Tryz.func3 (by kernel_rfl)
    (of_decide_eq_true (by kernel_rfl)) (by unfold Func.isWrapper; first | (rw [if_pos (by decide +kernel)]; kernel_rfl) | (rw [if_neg (by decide +kernel)]; exact ⟨rfl, rfl⟩))
    (fun os started H enc _ => lifted os started H enc)

theorem proved : Rows.FnExactAskedSaid := over
end Go.Proofs.YtlkkpolnllbljaaGreatDoor.fnExactAsked
namespace Go.Proofs.YtlkkpolnllbljaaGreatDoor
open Go in
theorem fnExactAsked_holds : Rows.FnExactAskedCardSaid :=
  Claim7.holds_tied_plain_at .later [] [.data, .data, .data, .data, .handle, .sentinel, .sentinel, .sentinel, .sentinel, .pinned] true (true, "9b3b5ab1b5e433c253f4ccd9c0f6560582e5470cad8109cfd354824b46867495") true
    fnExactAsked.proved (fun _ h => by cases h) (by kernel_rfl) (fun _ h => by cases h) fnExactAsked_row_tie rfl ⟨rfl, rfl⟩ (by kernel_rfl) rfl
    (fun f fn hf hfn => by
      obtain rfl : f = 3 := Option.some.inj ((show Tryz.prog.funcNamed Rows.fnExactAskedRow.func = some 3 by kernel_rfl).symm.trans hf) |>.symm
      obtain rfl : fn = Tryz.f3 := (Option.some.inj (Tryz.func3.symm.trans hfn)).symm
      exact ⟨by kernel_rfl, fun j t ht => by
        rw [Tryz.params3] at ht
        have hm : t ∈ [34, 2, 9] := by simpa using Array.mem_of_getElem? ht
        have hall : ([34, 2, 9].all fun u => !Tryz.prog.wantsStandIn u) = true := by kernel_rfl
        exact (show Tryz.prog.wantsStandIn t = false by simpa using List.all_eq_true.1 hall t hm)⟩)
    (by kernel_rfl)
end Go.Proofs.YtlkkpolnllbljaaGreatDoor
