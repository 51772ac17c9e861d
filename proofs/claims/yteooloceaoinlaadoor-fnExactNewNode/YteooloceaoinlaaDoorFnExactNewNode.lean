/- At every two numbers and truth NewNode of the program answers as NewNode of the model, in memory of its own that a second call leaves alone: the law FnExactNewNode returns true, whatever it is given. -/
import Derived.Test.YteooloceaoinlaaDoorRows
import Derived.WalkKit
import Derived.ProofKit
import Derived.OpenShut
import Derived.ShutString
import Derived.ChangeOld
import Derived.Below
import Derived.Test.YteooloceaoinlaaDoorM34
import Derived.Test.YteooloceaoinlaaDoorSNode7
import Derived.Test.YteooloceaoinlaaDoorINodeF
import Derived.Test.YteooloceaoinlaaDoorCards
import Derived.Test.YteooloceaoinlaaDoorTie
import Derived.SevenTiedAt
import Derived.Lay
import Derived.LaidOnce
import Derived.Test.YteooloceaoinlaaDoorTabs
namespace Go.Proofs.YteooloceaoinlaaDoor.fnExactNewNode
open Go.ChangeShapes Go.WideShapes Go.ChangeAt Go.RowKit
open Go.ChangeMaps (open_string shut_string)
set_option linter.unusedVariables false

theorem own : ownKnob Tryd.prog.godebug = none := by kernel_rfl
theorem laidOut : laidOutB Tryd.prog = true := by kernel_rfl

set_option maxRecDepth 20000 in
set_option maxHeartbeats 20000000 in
theorem walk (a0 : Int) (a1 : Int) (a2 : Bool) (w : World) (w0 : (Lit.int .i64 a0).wf = true) (w1 : (Lit.int .i64 a1).wf = true) (hT : Tab w) :
    Calls Tryd.prog 3 #[.int .i64 a0, .int .i64 a1, .bool a2] w fun e w' => e = .returned (.bool true) ∧ Below w.heap.size w w' := by
  have HTab : Hid (Tab w) := hT
  clear hT
  obtain ⟨m, hm⟩ : ∃ m, m = Nd.new a0 a1 a2 := ⟨_, rfl⟩
  obtain ⟨t, ht⟩ : ∃ t, t = Nd.made a0 a1 := ⟨_, rfl⟩
  have HM : Hid (SmN m) := by rw [Hid, hm]; exact (Nd.new_sm a0 a1 a2).1
  have HMb : Hid (m.len ≤ 1048576) := by rw [Hid, hm]; exact (Nd.new_sm a0 a1 a2).2
  have SP : Hid (∀ wx, Calls Tryd.prog 4 #[.int .i64 a0, .int .i64 a1, .bool a2] wx fun e w' => ∃ a' b' k' q' z', e = .returned (.tuple #[.agg (ndA a' b' k' q' z' m), .bool t]) ∧ OwnN w' wx.heap.size a' b' k' q' z' m ∧ Below wx.heap.size wx w') := fun wx => by rw [hm, ht]; exact sNewNode_any a0 a1 a2 wx
  have IP : Hid (∀ wx, Below w.heap.size w wx → Calls Tryd.prog 5 #[.int .i64 a0, .int .i64 a1, .bool a2] wx fun e w' => ∃ a' b' k' q' z', e = .returned (.tuple #[.agg (ndA a' b' k' q' z' m), .bool t]) ∧ MineN w' wx.heap.size a' b' k' q' z' m ∧ Below wx.heap.size wx w') := fun wx b => by rw [hm, ht]; exact iNewNode_any a0 a1 a2 wx (HTab.out.below b)
  have EQ : Hid (∀ a b k q z a' b' k' q' z' wx, RdN wx a b k q z m → RdN wx a' b' k' q' z' m → Calls Tryd.prog 6 #[.agg (ndA a b k q z m), .agg (ndA a' b' k' q' z' m)] wx fun e w' => e = .returned (.bool true) ∧ Below wx.heap.size wx w') := fun a b k q z a' b' k' q' z' wx h h' => eqNode_any a b k q z a' b' k' q' z' m wx h h' HM.out
  clear hm ht
  have HS : Hid (Sta w w []) := Sta.start w
  go_enter Tryd.func3, Tryd.ntmps3
  go_upto_region 1 with fail
  go_wp2_with fail
  refine (SP.out w).mono ?_
  rintro e y3 ⟨aW, bW, kW, qW, zW, rfl, oy3, by3⟩
  obtain ⟨aoW, acW, rfl⟩ := reads_form oy3.oa.reads
  obtain ⟨boW, bcW, rfl⟩ := reads_form oy3.ob.reads
  obtain ⟨koW, kcW, rfl⟩ := reads_form oy3.ok.reads
  obtain ⟨qoW, qcW, rfl⟩ := reads_form oy3.oq.reads
  obtain ⟨zoW, zcW, rfl⟩ := reads_form oy3.oz.reads
  replace HS : Hid (Sta w y3 [NdI (.slice aoW m.xs.length acW) (.slice boW m.ys.length bcW) (.slice koW m.h.ks.length kcW) (.slice qoW m.c.ts.length qcW) (.slice zoW m.s.ts.length zcW) m]) := HS.out.house oy3.mine by3
  clear oy3 by3
  have qy4 : StB (y3.alloc (.cells zeroNd 34)) y3.heap.size 34 zeroNd := StB.new y3 _ _
  go_upto_region 2 with (refine wpList_putS Tryd.isNd rfl _ _ rfl y3.heap.size (ndA (.slice aoW m.xs.length acW) (.slice boW m.ys.length bcW) (.slice koW m.h.ks.length kcW) (.slice qoW m.c.ts.length qcW) (.slice zoW m.s.ts.length zcW) m) zeroNd rfl rfl rfl rfl (ndA_one m rfl rfl rfl rfl rfl) qy4 ?_; intro y4 sy4 gy4)
  replace HS : Hid (Sta w y4 [Blk y3.heap.size 34 (ndA (.slice aoW m.xs.length acW) (.slice boW m.ys.length bcW) (.slice koW m.h.ks.length kcW) (.slice qoW m.c.ts.length qcW) (.slice zoW m.s.ts.length zcW) m), NdI (.slice aoW m.xs.length acW) (.slice boW m.ys.length bcW) (.slice koW m.h.ks.length kcW) (.slice qoW m.c.ts.length qcW) (.slice zoW m.s.ts.length zcW) m]) := HS.out.varS sy4 gy4
  clear qy4 sy4 gy4
  (try simp only [Act.put])
  go_wp2_with fail
  refine (IP.out y4 HS.out.below).mono ?_
  rintro e y5 ⟨aG, bG, kG, qG, zG, rfl, oy5, by5⟩
  obtain ⟨aoG, acG, rfl⟩ := reads_form oy5.oa.reads
  obtain ⟨boG, bcG, rfl⟩ := reads_form oy5.ob.reads
  obtain ⟨koG, kcG, rfl⟩ := reads_form oy5.ok.reads
  obtain ⟨qoG, qcG, rfl⟩ := reads_form oy5.oq.reads
  obtain ⟨zoG, zcG, rfl⟩ := reads_form oy5.oz.reads
  replace HS : Hid (Sta w y5 [NdI (.slice aoG m.xs.length acG) (.slice boG m.ys.length bcG) (.slice koG m.h.ks.length kcG) (.slice qoG m.c.ts.length qcG) (.slice zoG m.s.ts.length zcG) m, Blk y3.heap.size 34 (ndA (.slice aoW m.xs.length acW) (.slice boW m.ys.length bcW) (.slice koW m.h.ks.length kcW) (.slice qoW m.c.ts.length qcW) (.slice zoW m.s.ts.length zcW) m), NdI (.slice aoW m.xs.length acW) (.slice boW m.ys.length bcW) (.slice koW m.h.ks.length kcW) (.slice qoW m.c.ts.length qcW) (.slice zoW m.s.ts.length zcW) m]) := HS.out.house oy5 by5
  clear oy5 by5
  have qy6 : StB (y5.alloc (.cells zeroNd 34)) y5.heap.size 34 zeroNd := StB.new y5 _ _
  go_upto_region 3 with (refine wpList_putS Tryd.isNd rfl _ _ rfl y5.heap.size (ndA (.slice aoG m.xs.length acG) (.slice boG m.ys.length bcG) (.slice koG m.h.ks.length kcG) (.slice qoG m.c.ts.length qcG) (.slice zoG m.s.ts.length zcG) m) zeroNd rfl rfl rfl rfl (ndA_one m rfl rfl rfl rfl rfl) qy6 ?_; intro y6 sy6 gy6)
  replace HS : Hid (Sta w y6 [Blk y5.heap.size 34 (ndA (.slice aoG m.xs.length acG) (.slice boG m.ys.length bcG) (.slice koG m.h.ks.length kcG) (.slice qoG m.c.ts.length qcG) (.slice zoG m.s.ts.length zcG) m), NdI (.slice aoG m.xs.length acG) (.slice boG m.ys.length bcG) (.slice koG m.h.ks.length kcG) (.slice qoG m.c.ts.length qcG) (.slice zoG m.s.ts.length zcG) m, Blk y3.heap.size 34 (ndA (.slice aoW m.xs.length acW) (.slice boW m.ys.length bcW) (.slice koW m.h.ks.length kcW) (.slice qoW m.c.ts.length qcW) (.slice zoW m.s.ts.length zcW) m), NdI (.slice aoW m.xs.length acW) (.slice boW m.ys.length bcW) (.slice koW m.h.ks.length kcW) (.slice qoW m.c.ts.length qcW) (.slice zoW m.s.ts.length zcW) m]) := HS.out.varS sy6 gy6
  clear qy6 sy6 gy6
  (try simp only [Act.put])
  go_wp2_with (first | (refine wpList_getSG Tryd.isNd rfl _ rfl y5.heap.size rfl (ndA (.slice aoG m.xs.length acG) (.slice boG m.ys.length bcG) (.slice koG m.h.ks.length kcG) (.slice qoG m.c.ts.length qcG) (.slice zoG m.s.ts.length zcG) m) rfl (HS.out.get 0 rfl) ?_) | (refine wpList_getSG Tryd.isNd rfl _ rfl y3.heap.size rfl (ndA (.slice aoW m.xs.length acW) (.slice boW m.ys.length bcW) (.slice koW m.h.ks.length kcW) (.slice qoW m.c.ts.length qcW) (.slice zoW m.s.ts.length zcW) m) rfl (HS.out.get 2 rfl) ?_))
  refine (EQ.out _ _ _ _ _ _ _ _ _ _ y6 (HS.out.rdN 1 rfl) (HS.out.rdN 3 rfl)).mono ?_
  rintro e y7 ⟨rfl, by7⟩
  replace HS : Hid (Sta w y7 [Blk y5.heap.size 34 (ndA (.slice aoG m.xs.length acG) (.slice boG m.ys.length bcG) (.slice koG m.h.ks.length kcG) (.slice qoG m.c.ts.length qcG) (.slice zoG m.s.ts.length zcG) m), NdI (.slice aoG m.xs.length acG) (.slice boG m.ys.length bcG) (.slice koG m.h.ks.length kcG) (.slice qoG m.c.ts.length qcG) (.slice zoG m.s.ts.length zcG) m, Blk y3.heap.size 34 (ndA (.slice aoW m.xs.length acW) (.slice boW m.ys.length bcW) (.slice koW m.h.ks.length kcW) (.slice qoW m.c.ts.length qcW) (.slice zoW m.s.ts.length zcW) m), NdI (.slice aoW m.xs.length acW) (.slice boW m.ys.length bcW) (.slice koW m.h.ks.length kcW) (.slice qoW m.c.ts.length qcW) (.slice zoW m.s.ts.length zcW) m]) := HS.out.next by7
  clear by7
  go_wp2_with (first | (refine wpList_getSG Tryd.isNd rfl _ rfl y5.heap.size rfl (ndA (.slice aoG m.xs.length acG) (.slice boG m.ys.length bcG) (.slice koG m.h.ks.length kcG) (.slice qoG m.c.ts.length qcG) (.slice zoG m.s.ts.length zcG) m) rfl (HS.out.get 0 rfl) ?_))
  refine (markNode_any _ _ _ _ _ m 1 _ 0 (HS.out.get 1 rfl) HMb.out (by decide) (by decide)).mono ?_
  rintro e y8 ⟨rfl, oy8, my8⟩
  replace HS : Hid (Sta w y8 [Blk y5.heap.size 34 (ndA (.slice aoG m.xs.length acG) (.slice boG m.ys.length bcG) (.slice koG m.h.ks.length kcG) (.slice qoG m.c.ts.length qcG) (.slice zoG m.s.ts.length zcG) m), NdI (.slice aoG m.xs.length acG) (.slice boG m.ys.length bcG) (.slice koG m.h.ks.length kcG) (.slice qoG m.c.ts.length qcG) (.slice zoG m.s.ts.length zcG) (m.inked 1), Blk y3.heap.size 34 (ndA (.slice aoW m.xs.length acW) (.slice boW m.ys.length bcW) (.slice koW m.h.ks.length kcW) (.slice qoW m.c.ts.length qcW) (.slice zoW m.s.ts.length zcW) m), NdI (.slice aoW m.xs.length acW) (.slice boW m.ys.length bcW) (.slice koW m.h.ks.length kcW) (.slice qoW m.c.ts.length qcW) (.slice zoW m.s.ts.length zcW) m]) := HS.out.ink 1 rfl oy8 my8
  clear oy8 my8
  go_wp2_with (first | (refine wpList_getSG Tryd.isNd rfl _ rfl y5.heap.size rfl (ndA (.slice aoG m.xs.length acG) (.slice boG m.ys.length bcG) (.slice koG m.h.ks.length kcG) (.slice qoG m.c.ts.length qcG) (.slice zoG m.s.ts.length zcG) m) rfl (HS.out.get 0 rfl) ?_))
  refine (heldNode_any _ _ _ _ _ m 1 _ (HS.out.rdN 1 rfl) HMb.out (by decide) (by decide)).mono ?_
  rintro e y9 ⟨rfl, by9⟩
  replace HS : Hid (Sta w y9 [Blk y5.heap.size 34 (ndA (.slice aoG m.xs.length acG) (.slice boG m.ys.length bcG) (.slice koG m.h.ks.length kcG) (.slice qoG m.c.ts.length qcG) (.slice zoG m.s.ts.length zcG) m), NdI (.slice aoG m.xs.length acG) (.slice boG m.ys.length bcG) (.slice koG m.h.ks.length kcG) (.slice qoG m.c.ts.length qcG) (.slice zoG m.s.ts.length zcG) (m.inked 1), Blk y3.heap.size 34 (ndA (.slice aoW m.xs.length acW) (.slice boW m.ys.length bcW) (.slice koW m.h.ks.length kcW) (.slice qoW m.c.ts.length qcW) (.slice zoW m.s.ts.length zcW) m), NdI (.slice aoW m.xs.length acW) (.slice boW m.ys.length bcW) (.slice koW m.h.ks.length kcW) (.slice qoW m.c.ts.length qcW) (.slice zoW m.s.ts.length zcW) m]) := HS.out.next by9
  clear by9
  have hk1 : 0 ≤ 1 + (m.xs.length : Int) + m.ys.length + m.h.ks.length + m.c.ts.length + m.s.ts.length := by omega
  go_wp2_with fail
  refine (IP.out y9 HS.out.below).mono ?_
  rintro e y10 ⟨aH, bH, kH, qH, zH, rfl, oy10, by10⟩
  obtain ⟨aoH, acH, rfl⟩ := reads_form oy10.oa.reads
  obtain ⟨boH, bcH, rfl⟩ := reads_form oy10.ob.reads
  obtain ⟨koH, kcH, rfl⟩ := reads_form oy10.ok.reads
  obtain ⟨qoH, qcH, rfl⟩ := reads_form oy10.oq.reads
  obtain ⟨zoH, zcH, rfl⟩ := reads_form oy10.oz.reads
  replace HS : Hid (Sta w y10 [NdI (.slice aoH m.xs.length acH) (.slice boH m.ys.length bcH) (.slice koH m.h.ks.length kcH) (.slice qoH m.c.ts.length qcH) (.slice zoH m.s.ts.length zcH) m, Blk y5.heap.size 34 (ndA (.slice aoG m.xs.length acG) (.slice boG m.ys.length bcG) (.slice koG m.h.ks.length kcG) (.slice qoG m.c.ts.length qcG) (.slice zoG m.s.ts.length zcG) m), NdI (.slice aoG m.xs.length acG) (.slice boG m.ys.length bcG) (.slice koG m.h.ks.length kcG) (.slice qoG m.c.ts.length qcG) (.slice zoG m.s.ts.length zcG) (m.inked 1), Blk y3.heap.size 34 (ndA (.slice aoW m.xs.length acW) (.slice boW m.ys.length bcW) (.slice koW m.h.ks.length kcW) (.slice qoW m.c.ts.length qcW) (.slice zoW m.s.ts.length zcW) m), NdI (.slice aoW m.xs.length acW) (.slice boW m.ys.length bcW) (.slice koW m.h.ks.length kcW) (.slice qoW m.c.ts.length qcW) (.slice zoW m.s.ts.length zcW) m]) := HS.out.house oy10 by10
  clear oy10 by10
  have qy11 : StB (y10.alloc (.cells zeroNd 34)) y10.heap.size 34 zeroNd := StB.new y10 _ _
  go_upto_region 14 with (refine wpList_putS Tryd.isNd rfl _ _ rfl y10.heap.size (ndA (.slice aoH m.xs.length acH) (.slice boH m.ys.length bcH) (.slice koH m.h.ks.length kcH) (.slice qoH m.c.ts.length qcH) (.slice zoH m.s.ts.length zcH) m) zeroNd rfl rfl rfl rfl (ndA_one m rfl rfl rfl rfl rfl) qy11 ?_; intro y11 sy11 gy11)
  replace HS : Hid (Sta w y11 [Blk y10.heap.size 34 (ndA (.slice aoH m.xs.length acH) (.slice boH m.ys.length bcH) (.slice koH m.h.ks.length kcH) (.slice qoH m.c.ts.length qcH) (.slice zoH m.s.ts.length zcH) m), NdI (.slice aoH m.xs.length acH) (.slice boH m.ys.length bcH) (.slice koH m.h.ks.length kcH) (.slice qoH m.c.ts.length qcH) (.slice zoH m.s.ts.length zcH) m, Blk y5.heap.size 34 (ndA (.slice aoG m.xs.length acG) (.slice boG m.ys.length bcG) (.slice koG m.h.ks.length kcG) (.slice qoG m.c.ts.length qcG) (.slice zoG m.s.ts.length zcG) m), NdI (.slice aoG m.xs.length acG) (.slice boG m.ys.length bcG) (.slice koG m.h.ks.length kcG) (.slice qoG m.c.ts.length qcG) (.slice zoG m.s.ts.length zcG) (m.inked 1), Blk y3.heap.size 34 (ndA (.slice aoW m.xs.length acW) (.slice boW m.ys.length bcW) (.slice koW m.h.ks.length kcW) (.slice qoW m.c.ts.length qcW) (.slice zoW m.s.ts.length zcW) m), NdI (.slice aoW m.xs.length acW) (.slice boW m.ys.length bcW) (.slice koW m.h.ks.length kcW) (.slice qoW m.c.ts.length qcW) (.slice zoW m.s.ts.length zcW) m]) := HS.out.varS sy11 gy11
  clear qy11 sy11 gy11
  (try simp only [Act.put])
  go_wp2_with (first | (refine wpList_getSG Tryd.isNd rfl _ rfl y10.heap.size rfl (ndA (.slice aoH m.xs.length acH) (.slice boH m.ys.length bcH) (.slice koH m.h.ks.length kcH) (.slice qoH m.c.ts.length qcH) (.slice zoH m.s.ts.length zcH) m) rfl (HS.out.get 0 rfl) ?_) | (refine wpList_getSG Tryd.isNd rfl _ rfl y3.heap.size rfl (ndA (.slice aoW m.xs.length acW) (.slice boW m.ys.length bcW) (.slice koW m.h.ks.length kcW) (.slice qoW m.c.ts.length qcW) (.slice zoW m.s.ts.length zcW) m) rfl (HS.out.get 4 rfl) ?_))
  refine (EQ.out _ _ _ _ _ _ _ _ _ _ y11 (HS.out.rdN 1 rfl) (HS.out.rdN 5 rfl)).mono ?_
  rintro e y12 ⟨rfl, by12⟩
  replace HS : Hid (Sta w y12 [Blk y10.heap.size 34 (ndA (.slice aoH m.xs.length acH) (.slice boH m.ys.length bcH) (.slice koH m.h.ks.length kcH) (.slice qoH m.c.ts.length qcH) (.slice zoH m.s.ts.length zcH) m), NdI (.slice aoH m.xs.length acH) (.slice boH m.ys.length bcH) (.slice koH m.h.ks.length kcH) (.slice qoH m.c.ts.length qcH) (.slice zoH m.s.ts.length zcH) m, Blk y5.heap.size 34 (ndA (.slice aoG m.xs.length acG) (.slice boG m.ys.length bcG) (.slice koG m.h.ks.length kcG) (.slice qoG m.c.ts.length qcG) (.slice zoG m.s.ts.length zcG) m), NdI (.slice aoG m.xs.length acG) (.slice boG m.ys.length bcG) (.slice koG m.h.ks.length kcG) (.slice qoG m.c.ts.length qcG) (.slice zoG m.s.ts.length zcG) (m.inked 1), Blk y3.heap.size 34 (ndA (.slice aoW m.xs.length acW) (.slice boW m.ys.length bcW) (.slice koW m.h.ks.length kcW) (.slice qoW m.c.ts.length qcW) (.slice zoW m.s.ts.length zcW) m), NdI (.slice aoW m.xs.length acW) (.slice boW m.ys.length bcW) (.slice koW m.h.ks.length kcW) (.slice qoW m.c.ts.length qcW) (.slice zoW m.s.ts.length zcW) m]) := HS.out.next by12
  clear by12
  go_wp2_with (first | (refine wpList_getSG Tryd.isNd rfl _ rfl y5.heap.size rfl (ndA (.slice aoG m.xs.length acG) (.slice boG m.ys.length bcG) (.slice koG m.h.ks.length kcG) (.slice qoG m.c.ts.length qcG) (.slice zoG m.s.ts.length zcG) m) rfl (HS.out.get 2 rfl) ?_))
  refine (heldNode_any _ _ _ _ _ m 1 _ (HS.out.rdN 3 rfl) HMb.out (by decide) (by decide)).mono ?_
  rintro e y13 ⟨rfl, by13⟩
  replace HS : Hid (Sta w y13 [Blk y10.heap.size 34 (ndA (.slice aoH m.xs.length acH) (.slice boH m.ys.length bcH) (.slice koH m.h.ks.length kcH) (.slice qoH m.c.ts.length qcH) (.slice zoH m.s.ts.length zcH) m), NdI (.slice aoH m.xs.length acH) (.slice boH m.ys.length bcH) (.slice koH m.h.ks.length kcH) (.slice qoH m.c.ts.length qcH) (.slice zoH m.s.ts.length zcH) m, Blk y5.heap.size 34 (ndA (.slice aoG m.xs.length acG) (.slice boG m.ys.length bcG) (.slice koG m.h.ks.length kcG) (.slice qoG m.c.ts.length qcG) (.slice zoG m.s.ts.length zcG) m), NdI (.slice aoG m.xs.length acG) (.slice boG m.ys.length bcG) (.slice koG m.h.ks.length kcG) (.slice qoG m.c.ts.length qcG) (.slice zoG m.s.ts.length zcG) (m.inked 1), Blk y3.heap.size 34 (ndA (.slice aoW m.xs.length acW) (.slice boW m.ys.length bcW) (.slice koW m.h.ks.length kcW) (.slice qoW m.c.ts.length qcW) (.slice zoW m.s.ts.length zcW) m), NdI (.slice aoW m.xs.length acW) (.slice boW m.ys.length bcW) (.slice koW m.h.ks.length kcW) (.slice qoW m.c.ts.length qcW) (.slice zoW m.s.ts.length zcW) m]) := HS.out.next by13
  clear by13
  have HB : Hid (Below w.heap.size w _) := HS.out.below
  clear HS
  go_wp2_with fail
  go_ret
  exact ⟨rfl, HB.out⟩

set_option maxRecDepth 100000 in
theorem lifted (os : Os) (started : os.Started) (H : Type) (enc : TypeId × Value → H) :
    ReturnsInHanded {} Tryd.checked os 3 .any (fun w args => (Rows.fnExactNewNodeSpec.pre enc Tryd.prog Tryd.f3 [] false w args ∧ laidMetH Tryd.prog Rows.fnExactNewNodeRow.laid w) ∧ sizedMet enc Tryd.prog Tryd.f3 (OpenSpec.ofChange Rows.fnExactNewNodeSpec) false w args) (Rows.fnExactNewNodeSpec.post enc Tryd.prog Tryd.f3 false true false false) := by
  refine returnsInHanded_of_change_and (C := Tryd.checked) (X := fun w _ => laidMetH Tryd.prog Rows.fnExactNewNodeRow.laid w) (fun _ _ _ hh h => h.of_heap hh) own started (by kernel_rfl) Tryd.func3
    (ChangeSpec.witness_shaped (enc := enc) (C := Tryd.checked) (os := os) (X := fun w _ => laidMetH Tryd.prog Rows.fnExactNewNodeRow.laid w) false (World.laidAll Tryd.prog os Rows.fnExactNewNodeRow.laid) #[.int .i64 0, .int .i64 0, .bool false] 8 (World.laidAll_os _ _ _)
      (World.shaped_of_ZipB (by kernel_rfl) (by kernel_rfl)) (by kernel_rfl) (by kernel_rfl) (by kernel_rfl)
      (by rw [MakeChecks.laidMetH_plain _ _ _ (by kernel_rfl)]; exact laidMet_laidAll _ (by kernel_rfl) (by kernel_rfl))) ?_
  intro W base args ds gs before hval0 hW hcnd _ hL _
  have hval : ∀ (j : Nat) t v, Tryd.f3.params[j]? = some t → args[j]? = some v → Value.okWide Tryd.prog W .any base t v := hval0
  have hW' := hW
  obtain ⟨p, q, hA0, hV, rfl, hfz, hnd⟩ := hW
  have hA : DataW.TrodAll enc Tryd.prog W 0 (fun _ => true) true Tryd.f3.params.toList args.toList ds p := hA0
  rw [Tryd.params3] at hA hval
  obtain ⟨v0, vs0, d0, ds0, p0, q0, hargs, rfl, rfl, h0, s0⟩ := trodAll_cons hA
  obtain ⟨v1, vs1, d1, ds1, p1, q1, rfl, rfl, rfl, h1, s1⟩ := trodAll_cons s0
  obtain ⟨v2, vs2, d2, ds2, p2, q2, rfl, rfl, rfl, h2, s2⟩ := trodAll_cons s1
  obtain ⟨rfl, rfl, rfl⟩ := trodAll_nil s2
  obtain rfl : args = #[v0, v1, v2] := by cases args; simp_all
  obtain ⟨rfl, rfl⟩ := trodVars_none hV
  obtain ⟨a0, rfl, rfl, rfl, w0⟩ := open_int Tryd.underlying2 (hval 0 2 v0 rfl rfl) h0
  obtain ⟨a1, rfl, rfl, rfl, w1⟩ := open_int Tryd.underlying2 (hval 1 2 v1 rfl rfl) h1
  obtain ⟨a2, rfl, rfl, rfl⟩ := open_bool Tryd.underlying4 (hval 2 4 v2 rfl rfl) h2
  clear hA0 hval0
  refine (walk a0 a1 a2 W w0 w1 (tab_fnExactNewNode hL)).mono fun e W' ⟨he, bel⟩ => ?_
  subst he
  exact ⟨_, rfl, _, _, _, [], _, [], hW', trodAll_mk1 (shut_bool Tryd.underlying4 _), (trodAll_cons_mk (shut_int Tryd.underlying2 w0) (trodAll_cons_mk (shut_int Tryd.underlying2 w1) (trodAll_cons_mk (shut_bool Tryd.underlying4 a2) trodAll_mk0))), rfl, bel.frame _, fun h => by cases h⟩

theorem over : Rows.fnExactNewNodeRow.holds Tryd.pinned (OpenSpec.ofChange Rows.fnExactNewNodeSpec) :=
  OpenClaim.holds_of_wide 3 Tryd.f3 rfl rfl rfl rfl rfl rfl rfl ⟨rfl, rfl, rfl, rfl, rfl⟩ rfl rfl rfl rfl rfl (by kernel_rfl) Tryd.func3 (by kernel_rfl)
    (of_decide_eq_true (by kernel_rfl)) (by unfold Func.isWrapper; first | (rw [if_pos (by decide +kernel)]; kernel_rfl) | (rw [if_neg (by decide +kernel)]; exact ⟨rfl, rfl⟩))
    (fun os started H enc _ => lifted os started H enc)

theorem proved : Rows.FnExactNewNodeSaid := over
end Go.Proofs.YteooloceaoinlaaDoor.fnExactNewNode
namespace Go.Proofs.YteooloceaoinlaaDoor
open Go in
theorem fnExactNewNode_holds : Rows.FnExactNewNodeCardSaid :=
  Claim7.holds_tied_plain_at .later [] [.data, .data, .data] true (true, "200b9e05954c2d58344a233545ed4a95877073867c06188d024759bb57b00b09") false
    fnExactNewNode.proved (fun _ h => by cases h) (by kernel_rfl) (fun _ h => by cases h) fnExactNewNode_row_tie rfl ⟨rfl, rfl⟩ (by kernel_rfl) rfl
    (fun f fn hf hfn => by
      obtain rfl : f = 3 := Option.some.inj ((show Tryd.prog.funcNamed Rows.fnExactNewNodeRow.func = some 3 by kernel_rfl).symm.trans hf) |>.symm
      obtain rfl : fn = Tryd.f3 := (Option.some.inj (Tryd.func3.symm.trans hfn)).symm
      exact ⟨by kernel_rfl, fun j t ht => by
        rw [Tryd.params3] at ht
        have hm : t ∈ [2, 2, 4] := by simpa using Array.mem_of_getElem? ht
        have hall : ([2, 2, 4].all fun u => !Tryd.prog.wantsStandIn u) = true := by kernel_rfl
        exact (show Tryd.prog.wantsStandIn t = false by simpa using List.all_eq_true.1 hall t hm)⟩)
    (by kernel_rfl)
end Go.Proofs.YteooloceaoinlaaDoor
