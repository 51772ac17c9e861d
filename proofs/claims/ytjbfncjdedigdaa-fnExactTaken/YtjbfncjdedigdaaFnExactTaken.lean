/- At every list of messages and place Taken of the program answers as Taken of the model, in memory of its own that a second call leaves alone, and leaves what it was given as it was: the law FnExactTaken returns true, whatever it is given. -/
import Derived.Test.YtjbfncjdedigdaaRows
import Derived.WalkKit
import Derived.ProofKit
import Derived.OpenShut
import Derived.ShutString
import Derived.ChangeOld
import Derived.Below
import Derived.Test.YtjbfncjdedigdaaM27
import Derived.Test.YtjbfncjdedigdaaPstSta
import Derived.Test.YtjbfncjdedigdaaSPost3
import Derived.Test.YtjbfncjdedigdaaIPost4
namespace Go.Proofs.Ytjbfncjdedigdaa.fnExactTaken
open Go.ChangeShapes Go.WideShapes Go.ChangeAt Go.RowKit
open Go.ChangeMaps (open_string shut_string)
set_option linter.unusedVariables false

theorem own : ownKnob Try.prog.godebug = none := by kernel_rfl
theorem laidOut : laidOutB Try.prog = true := by kernel_rfl

set_option maxRecDepth 20000 in
set_option maxHeartbeats 20000000 in
theorem walk (ps0 : List (Value × Mg)) (u0 : Value) (a1 : Int) (w : World) (f0 : RdP w u0 ps0) (w1 : (Lit.int .i64 a1).wf = true) :
    Calls Try.prog 6 #[u0, .int .i64 a1] w fun e w' => e = .returned (.bool true) ∧ Below w.heap.size w w' := by
  have HR0 : Hid (∀ wx, Below w.heap.size w wx → RdP wx u0 ps0) := fun wx b => f0.below b
  have HS : Hid (Sta w w []) := Sta.start w
  clear f0
  go_enter Try.func6, Try.ntmps6
  have CZ := szMsgS_any u0 ps0 1048576 w (HR0.out _ HS.out.below) (by decide) (by decide)
  go_wp2_with fail
  refine CZ.mono ?_
  rintro e w1 ⟨x0, rfl, hx0, b0⟩
  replace HS : Hid (Sta w w1 []) := HS.out.next b0
  clear b0 CZ
  rcases hx0 with rfl | ⟨hp0, ht0, hsm, hlen⟩
  · go_wp2
    go_ret
    exact ⟨rfl, HS.out.below⟩
  · skip
    have HL0 : Hid (SmP ps0 ∧ ps0.length ≤ 1048576 ∧ totK ps0 ≤ 1048576) := ⟨hsm, hlen, by omega⟩
    have hq0 : x0 ≤ 1048576 := by omega
    clear hsm hlen ht0
    have HM0 : Hid (FewM (msOf ps0) 1048576 1048576) := FewM.of HL0.out.1 HL0.out.2.1 HL0.out.2.2
    obtain ⟨r, hr⟩ : ∃ r, r = takeP (msOf ps0) a1 := ⟨_, rfl⟩
    have HF : Hid (FewM r.1 40 1048576) := by rw [Hid, hr]; exact (FewM.taken HM0.out a1).1
    have hml : r.2.1.h.ks.length ≤ 1048576 := by rw [hr]; exact (FewM.taken HM0.out a1).2
    have cs : Hid (∀ (v0 : Value) (q0 : List (Value × Mg)) (wx : World), RdP wx v0 q0 → msOf q0 = msOf ps0 → Calls Try.prog 19 #[v0, .int .i64 a1] wx fun e w' => ∃ u rs k, e = .returned (.tuple #[u, .agg (mgA k r.2.1), .bool r.2.2]) ∧ msOf rs = r.1 ∧ OwnP w' wx.heap.size u rs ∧ Mine w' wx.heap.size k r.2.1.h.ks ∧ Below wx.heap.size wx w') := fun v0 q0 wx h0 e0 => by
      have h := sTaken_any v0 q0 a1 wx h0 (HM0.out.smp e0) (Nat.le_trans (HM0.out.lenP e0) (by decide))
      rw [e0, ← hr] at h
      exact h
    have ci : Hid (∀ (v0 : Value) (q0 : List (Value × Mg)) (wx : World), RdP wx v0 q0 → msOf q0 = msOf ps0 → Calls Try.prog 12 #[v0, .int .i64 a1] wx fun e w' => ∃ u rs k, e = .returned (.tuple #[u, .agg (mgA k r.2.1), .bool r.2.2]) ∧ msOf rs = r.1 ∧ OwnP w' wx.heap.size u rs ∧ Mine w' wx.heap.size k r.2.1.h.ks ∧ (∀ x ∈ mineOf k r.2.1.h.ks, x ∉ psB u rs) ∧ Below wx.heap.size wx w') := fun v0 q0 wx h0 e0 => by
      have h := iTaken_any v0 q0 a1 wx h0 (HM0.out.smp e0) 
      rw [e0, ← hr] at h
      exact h
    obtain ⟨rl, m, t⟩ := r
    simp only at cs ci HF hml
    clear hr
    have htt : (t != t) = false := by simp
    have CE : Hid (∀ k k' wx, Reads wx k m.h.ks → Reads wx k' m.h.ks → Calls Try.prog 27 #[MgV k m, MgV k' m] wx fun e w' => e = .returned (.bool true) ∧ Below wx.heap.size wx w') := fun k k' wx h h' => eqMsg_any k k' m wx h h' hml
    unfold MgV mgA at CE
    go_wp2_with fail
    refine (toMsgS_any u0 ps0 _ (HR0.out _ HS.out.below) HL0.out.1 HL0.out.2.1).mono ?_
    rintro e w2 ⟨vA, qA, rfl, eA, o, b⟩
    replace HS : Hid (Sta w w2 [PsI vA qA]) := HS.out.post o b
    have EA : Hid (msOf qA = msOf ps0) := eA
    clear o b eA
    go_wp2_with fail
    refine (cs.out _ _ _ (HS.out.rdP 0 rfl) EA.out).mono ?_
    rintro e w3 ⟨vW, qW, kW, rfl, eW, o, mm, b⟩
    have hkW : kW.oneCell' = true := reads_one mm.reads
    replace HS : Hid (Sta w w3 [TkR vW qW kW m.h.ks, PsI vA qA]) := HS.out.takenR o mm b
    have EW : Hid (msOf qW = rl) := eW
    clear o mm b eW
    replace HS : Hid (Sta w w3 [TkR vW qW kW m.h.ks]) := HS.out.drop 1
    go_wp2_with (first | (refine wpList_putB rfl 35 _ _ rfl w3.heap.size (mgA kW m) zeroMg rfl rfl (mgA_one m hkW) (heap_alloc_new _ _) Try.isMg.2 rfl ?_; intro w4 qq gg; replace HS : Hid (Sta w w4 [Blk w3.heap.size 35 (mgA kW m), TkR vW qW kW m.h.ks]) := HS.out.var 35 _ _ qq gg; clear qq gg; skip))
    refine (toMsgS_any u0 ps0 _ (HR0.out _ HS.out.below) HL0.out.1 HL0.out.2.1).mono ?_
    rintro e w5 ⟨vX, qX, rfl, eX, o, b⟩
    replace HS : Hid (Sta w w5 [PsI vX qX, Blk w3.heap.size 35 (mgA kW m), TkR vW qW kW m.h.ks]) := HS.out.post o b
    have EX : Hid (msOf qX = msOf ps0) := eX
    clear o b eX
    go_wp2_with fail
    refine (ci.out _ _ _ (HS.out.rdP 0 rfl) EX.out).mono ?_
    rintro e w6 ⟨vG, qG, kG, rfl, eG, o, mm, ap, b⟩
    have hkG : kG.oneCell' = true := reads_one mm.reads
    replace HS : Hid (Sta w w6 [TkI vG qG kG m.h.ks, PsI vX qX, Blk w3.heap.size 35 (mgA kW m), TkR vW qW kW m.h.ks]) := HS.out.taken o mm ap b
    have EG : Hid (msOf qG = rl) := eG
    clear o mm b eG ap
    go_wp2_with (first | (refine wpList_putB rfl 35 _ _ rfl w6.heap.size (mgA kG m) zeroMg rfl rfl (mgA_one m hkG) (heap_alloc_new _ _) Try.isMg.2 rfl ?_; intro w7 qq gg; replace HS : Hid (Sta w w7 [Blk w6.heap.size 35 (mgA kG m), TkI vG qG kG m.h.ks, PsI vX qX, Blk w3.heap.size 35 (mgA kW m), TkR vW qW kW m.h.ks]) := HS.out.var 35 _ _ qq gg; clear qq gg; skip))
    refine (eqMsgS_any vG vW qG qW _ ((HS.out.get 1 rfl).1.rd) ((HS.out.get 4 rfl).1.rd) (EG.out.trans EW.out.symm) (HF.out.smp EG.out) (Nat.le_trans (HF.out.lenP EG.out) (by decide))).mono ?_
    rintro e w8 ⟨rfl, b⟩
    replace HS : Hid (Sta w w8 [Blk w6.heap.size 35 (mgA kG m), TkI vG qG kG m.h.ks, PsI vX qX, Blk w3.heap.size 35 (mgA kW m), TkR vW qW kW m.h.ks]) := HS.out.next b
    clear b
    have p_G_0 : w8.cell? ⟨w6.heap.size, 0, none⟩ = some (.int .i64 m.dst) := Blk.cell (HS.out.get 0 rfl) 0 rfl
    have p_G_1 : w8.cell? ⟨w6.heap.size, 1, none⟩ = some (.int .i64 m.kd) := Blk.cell (HS.out.get 0 rfl) 1 rfl
    have p_G_2 : w8.cell? ⟨w6.heap.size, 2, none⟩ = some (.int .i64 m.tr) := Blk.cell (HS.out.get 0 rfl) 2 rfl
    have p_G_3 : w8.cell? ⟨w6.heap.size, 3, none⟩ = some (.int .i64 m.pl) := Blk.cell (HS.out.get 0 rfl) 3 rfl
    have p_G_4 : w8.cell? ⟨w6.heap.size, 4, none⟩ = some (.int .i64 m.tn) := Blk.cell (HS.out.get 0 rfl) 4 rfl
    have p_G_5 : w8.cell? ⟨w6.heap.size, 5, none⟩ = some (.int .i64 m.va) := Blk.cell (HS.out.get 0 rfl) 5 rfl
    have p_G_6 : w8.cell? ⟨w6.heap.size, 6, none⟩ = some (.int .i64 m.ep) := Blk.cell (HS.out.get 0 rfl) 6 rfl
    have p_G_7 : w8.cell? ⟨w6.heap.size, 7, none⟩ = some kG := Blk.cell (HS.out.get 0 rfl) 7 rfl
    have p_G_8 : w8.cell? ⟨w6.heap.size, 8, none⟩ = some (.int .i64 m.h.kd) := Blk.cell (HS.out.get 0 rfl) 8 rfl
    have p_G_9 : w8.cell? ⟨w6.heap.size, 9, none⟩ = some (.int .i64 m.h.ho) := Blk.cell (HS.out.get 0 rfl) 9 rfl
    have p_G_10 : w8.cell? ⟨w6.heap.size, 10, none⟩ = some (.int .i64 m.h.tu) := Blk.cell (HS.out.get 0 rfl) 10 rfl
    have p_W_0 : w8.cell? ⟨w3.heap.size, 0, none⟩ = some (.int .i64 m.dst) := Blk.cell (HS.out.get 3 rfl) 0 rfl
    have p_W_1 : w8.cell? ⟨w3.heap.size, 1, none⟩ = some (.int .i64 m.kd) := Blk.cell (HS.out.get 3 rfl) 1 rfl
    have p_W_2 : w8.cell? ⟨w3.heap.size, 2, none⟩ = some (.int .i64 m.tr) := Blk.cell (HS.out.get 3 rfl) 2 rfl
    have p_W_3 : w8.cell? ⟨w3.heap.size, 3, none⟩ = some (.int .i64 m.pl) := Blk.cell (HS.out.get 3 rfl) 3 rfl
    have p_W_4 : w8.cell? ⟨w3.heap.size, 4, none⟩ = some (.int .i64 m.tn) := Blk.cell (HS.out.get 3 rfl) 4 rfl
    have p_W_5 : w8.cell? ⟨w3.heap.size, 5, none⟩ = some (.int .i64 m.va) := Blk.cell (HS.out.get 3 rfl) 5 rfl
    have p_W_6 : w8.cell? ⟨w3.heap.size, 6, none⟩ = some (.int .i64 m.ep) := Blk.cell (HS.out.get 3 rfl) 6 rfl
    have p_W_7 : w8.cell? ⟨w3.heap.size, 7, none⟩ = some kW := Blk.cell (HS.out.get 3 rfl) 7 rfl
    have p_W_8 : w8.cell? ⟨w3.heap.size, 8, none⟩ = some (.int .i64 m.h.kd) := Blk.cell (HS.out.get 3 rfl) 8 rfl
    have p_W_9 : w8.cell? ⟨w3.heap.size, 9, none⟩ = some (.int .i64 m.h.ho) := Blk.cell (HS.out.get 3 rfl) 9 rfl
    have p_W_10 : w8.cell? ⟨w3.heap.size, 10, none⟩ = some (.int .i64 m.h.tu) := Blk.cell (HS.out.get 3 rfl) 10 rfl
    go_wp2_with fail
    clear p_G_0 p_G_1 p_G_2 p_G_3 p_G_4 p_G_5 p_G_6 p_G_7 p_G_8 p_G_9 p_G_10 p_W_0 p_W_1 p_W_2 p_W_3 p_W_4 p_W_5 p_W_6 p_W_7 p_W_8 p_W_9 p_W_10
    refine (CE.out _ _ _ ((HS.out.get 1 rfl).2.1.reads) ((HS.out.get 4 rfl).2.reads)).mono ?_
    rintro e w9 ⟨rfl, b⟩
    replace HS : Hid (Sta w w9 [Blk w6.heap.size 35 (mgA kG m), TkI vG qG kG m.h.ks, PsI vX qX, Blk w3.heap.size 35 (mgA kW m), TkR vW qW kW m.h.ks]) := HS.out.next b
    clear b
    go_wp2_with fail
    refine (toMsgS_any u0 ps0 _ (HR0.out _ HS.out.below) HL0.out.1 HL0.out.2.1).mono ?_
    rintro e w10 ⟨vB, qB, rfl, eB, o, b⟩
    replace HS : Hid (Sta w w10 [PsI vB qB, Blk w6.heap.size 35 (mgA kG m), TkI vG qG kG m.h.ks, PsI vX qX, Blk w3.heap.size 35 (mgA kW m), TkR vW qW kW m.h.ks]) := HS.out.post o b
    have EB : Hid (msOf qB = msOf ps0) := eB
    clear o b eB
    go_wp2_with fail
    refine (eqMsgS_any vX vB qX qB _ (HS.out.rdP 3 rfl) (HS.out.rdP 0 rfl) (EX.out.trans EB.out.symm) (HM0.out.smp EX.out) (Nat.le_trans (HM0.out.lenP EX.out) (by decide))).mono ?_
    rintro e w11 ⟨rfl, b⟩
    replace HS : Hid (Sta w w11 [PsI vB qB, Blk w6.heap.size 35 (mgA kG m), TkI vG qG kG m.h.ks, PsI vX qX, Blk w3.heap.size 35 (mgA kW m), TkR vW qW kW m.h.ks]) := HS.out.next b
    clear b
    replace HS : Hid (Sta w w11 [Blk w6.heap.size 35 (mgA kG m), TkI vG qG kG m.h.ks, PsI vX qX, Blk w3.heap.size 35 (mgA kW m), TkR vW qW kW m.h.ks]) := HS.out.drop 0
    have CM := markMsgS_any vX qX 1 _ 0 (HS.out.get 2 rfl) (Nat.le_trans (HM0.out.bound EX.out) (by decide)) (HM0.out.smp EX.out) (by decide) (by decide)
    obtain ⟨k0, hk0⟩ : ∃ k0, k0 = inkE 1 qX := ⟨_, rfl⟩
    have pk0 : 0 ≤ k0 ∧ k0 ≤ 11534337 := by have hh := inkE_pos (ps := qX) (k := 1) (by decide) (HM0.out.bound EX.out); rw [hk0]; omega
    rw [← hk0] at CM
    have Ik0 : Hid (k0 = inkE 1 qX) := hk0
    obtain ⟨pk00, pk01⟩ := pk0
    clear hk0
    go_wp2_with fail
    refine CM.mono ?_
    rintro e w12 ⟨rfl, o, t⟩
    replace HS : Hid (Sta w w12 [Blk w6.heap.size 35 (mgA kG m), TkI vG qG kG m.h.ks, PsI vX (inkL 1 qX), Blk w3.heap.size 35 (mgA kW m), TkR vW qW kW m.h.ks]) := HS.out.markP 2 rfl o t
    clear o t CM
    go_wp2_with fail
    refine (eqMsgS_any vG vW qG qW _ ((HS.out.get 1 rfl).1.rd) ((HS.out.get 4 rfl).1.rd) (EG.out.trans EW.out.symm) (HF.out.smp EG.out) (Nat.le_trans (HF.out.lenP EG.out) (by decide))).mono ?_
    rintro e w13 ⟨rfl, b⟩
    replace HS : Hid (Sta w w13 [Blk w6.heap.size 35 (mgA kG m), TkI vG qG kG m.h.ks, PsI vX (inkL 1 qX), Blk w3.heap.size 35 (mgA kW m), TkR vW qW kW m.h.ks]) := HS.out.next b
    clear b
    have p_G_0 : w13.cell? ⟨w6.heap.size, 0, none⟩ = some (.int .i64 m.dst) := Blk.cell (HS.out.get 0 rfl) 0 rfl
    have p_G_1 : w13.cell? ⟨w6.heap.size, 1, none⟩ = some (.int .i64 m.kd) := Blk.cell (HS.out.get 0 rfl) 1 rfl
    have p_G_2 : w13.cell? ⟨w6.heap.size, 2, none⟩ = some (.int .i64 m.tr) := Blk.cell (HS.out.get 0 rfl) 2 rfl
    have p_G_3 : w13.cell? ⟨w6.heap.size, 3, none⟩ = some (.int .i64 m.pl) := Blk.cell (HS.out.get 0 rfl) 3 rfl
    have p_G_4 : w13.cell? ⟨w6.heap.size, 4, none⟩ = some (.int .i64 m.tn) := Blk.cell (HS.out.get 0 rfl) 4 rfl
    have p_G_5 : w13.cell? ⟨w6.heap.size, 5, none⟩ = some (.int .i64 m.va) := Blk.cell (HS.out.get 0 rfl) 5 rfl
    have p_G_6 : w13.cell? ⟨w6.heap.size, 6, none⟩ = some (.int .i64 m.ep) := Blk.cell (HS.out.get 0 rfl) 6 rfl
    have p_G_7 : w13.cell? ⟨w6.heap.size, 7, none⟩ = some kG := Blk.cell (HS.out.get 0 rfl) 7 rfl
    have p_G_8 : w13.cell? ⟨w6.heap.size, 8, none⟩ = some (.int .i64 m.h.kd) := Blk.cell (HS.out.get 0 rfl) 8 rfl
    have p_G_9 : w13.cell? ⟨w6.heap.size, 9, none⟩ = some (.int .i64 m.h.ho) := Blk.cell (HS.out.get 0 rfl) 9 rfl
    have p_G_10 : w13.cell? ⟨w6.heap.size, 10, none⟩ = some (.int .i64 m.h.tu) := Blk.cell (HS.out.get 0 rfl) 10 rfl
    have p_W_0 : w13.cell? ⟨w3.heap.size, 0, none⟩ = some (.int .i64 m.dst) := Blk.cell (HS.out.get 3 rfl) 0 rfl
    have p_W_1 : w13.cell? ⟨w3.heap.size, 1, none⟩ = some (.int .i64 m.kd) := Blk.cell (HS.out.get 3 rfl) 1 rfl
    have p_W_2 : w13.cell? ⟨w3.heap.size, 2, none⟩ = some (.int .i64 m.tr) := Blk.cell (HS.out.get 3 rfl) 2 rfl
    have p_W_3 : w13.cell? ⟨w3.heap.size, 3, none⟩ = some (.int .i64 m.pl) := Blk.cell (HS.out.get 3 rfl) 3 rfl
    have p_W_4 : w13.cell? ⟨w3.heap.size, 4, none⟩ = some (.int .i64 m.tn) := Blk.cell (HS.out.get 3 rfl) 4 rfl
    have p_W_5 : w13.cell? ⟨w3.heap.size, 5, none⟩ = some (.int .i64 m.va) := Blk.cell (HS.out.get 3 rfl) 5 rfl
    have p_W_6 : w13.cell? ⟨w3.heap.size, 6, none⟩ = some (.int .i64 m.ep) := Blk.cell (HS.out.get 3 rfl) 6 rfl
    have p_W_7 : w13.cell? ⟨w3.heap.size, 7, none⟩ = some kW := Blk.cell (HS.out.get 3 rfl) 7 rfl
    have p_W_8 : w13.cell? ⟨w3.heap.size, 8, none⟩ = some (.int .i64 m.h.kd) := Blk.cell (HS.out.get 3 rfl) 8 rfl
    have p_W_9 : w13.cell? ⟨w3.heap.size, 9, none⟩ = some (.int .i64 m.h.ho) := Blk.cell (HS.out.get 3 rfl) 9 rfl
    have p_W_10 : w13.cell? ⟨w3.heap.size, 10, none⟩ = some (.int .i64 m.h.tu) := Blk.cell (HS.out.get 3 rfl) 10 rfl
    go_wp2_with fail
    clear p_G_0 p_G_1 p_G_2 p_G_3 p_G_4 p_G_5 p_G_6 p_G_7 p_G_8 p_G_9 p_G_10 p_W_0 p_W_1 p_W_2 p_W_3 p_W_4 p_W_5 p_W_6 p_W_7 p_W_8 p_W_9 p_W_10
    refine (CE.out _ _ _ ((HS.out.get 1 rfl).2.1.reads) ((HS.out.get 4 rfl).2.reads)).mono ?_
    rintro e w14 ⟨rfl, b⟩
    replace HS : Hid (Sta w w14 [Blk w6.heap.size 35 (mgA kG m), TkI vG qG kG m.h.ks, PsI vX (inkL 1 qX), Blk w3.heap.size 35 (mgA kW m), TkR vW qW kW m.h.ks]) := HS.out.next b
    clear b
    have CM := markMsgS_any vG qG 1 _ 0 (HS.out.get 1 rfl).1 (Nat.le_trans (HF.out.bound EG.out) (by decide)) (HF.out.smp EG.out) (by decide) (by decide)
    obtain ⟨g, hg⟩ : ∃ g, g = inkE 1 qG := ⟨_, rfl⟩
    have pg : 0 ≤ g ∧ g ≤ 1048977 := by have hh := inkE_pos (ps := qG) (k := 1) (by decide) (HF.out.bound EG.out); rw [hg]; omega
    rw [← hg] at CM
    have Ig : Hid (g = inkE 1 qG) := hg
    obtain ⟨pg0, pg1⟩ := pg
    clear hg
    go_wp2_with fail
    refine CM.mono ?_
    rintro e w15 ⟨rfl, o, t'⟩
    replace HS : Hid (Sta w w15 [Blk w6.heap.size 35 (mgA kG m), TkI vG (inkL 1 qG) kG m.h.ks, PsI vX (inkL 1 qX), Blk w3.heap.size 35 (mgA kW m), TkR vW qW kW m.h.ks]) := HS.out.markT 1 rfl o t'
    clear o t' CM
    have CM := markMsg_any kG m g _ 0 (HS.out.get 1 rfl).2.1 hml pg0 (by omega)
    unfold MgV mgA at CM
    have p_G_0 : w15.cell? ⟨w6.heap.size, 0, none⟩ = some (.int .i64 m.dst) := Blk.cell (HS.out.get 0 rfl) 0 rfl
    have p_G_1 : w15.cell? ⟨w6.heap.size, 1, none⟩ = some (.int .i64 m.kd) := Blk.cell (HS.out.get 0 rfl) 1 rfl
    have p_G_2 : w15.cell? ⟨w6.heap.size, 2, none⟩ = some (.int .i64 m.tr) := Blk.cell (HS.out.get 0 rfl) 2 rfl
    have p_G_3 : w15.cell? ⟨w6.heap.size, 3, none⟩ = some (.int .i64 m.pl) := Blk.cell (HS.out.get 0 rfl) 3 rfl
    have p_G_4 : w15.cell? ⟨w6.heap.size, 4, none⟩ = some (.int .i64 m.tn) := Blk.cell (HS.out.get 0 rfl) 4 rfl
    have p_G_5 : w15.cell? ⟨w6.heap.size, 5, none⟩ = some (.int .i64 m.va) := Blk.cell (HS.out.get 0 rfl) 5 rfl
    have p_G_6 : w15.cell? ⟨w6.heap.size, 6, none⟩ = some (.int .i64 m.ep) := Blk.cell (HS.out.get 0 rfl) 6 rfl
    have p_G_7 : w15.cell? ⟨w6.heap.size, 7, none⟩ = some kG := Blk.cell (HS.out.get 0 rfl) 7 rfl
    have p_G_8 : w15.cell? ⟨w6.heap.size, 8, none⟩ = some (.int .i64 m.h.kd) := Blk.cell (HS.out.get 0 rfl) 8 rfl
    have p_G_9 : w15.cell? ⟨w6.heap.size, 9, none⟩ = some (.int .i64 m.h.ho) := Blk.cell (HS.out.get 0 rfl) 9 rfl
    have p_G_10 : w15.cell? ⟨w6.heap.size, 10, none⟩ = some (.int .i64 m.h.tu) := Blk.cell (HS.out.get 0 rfl) 10 rfl
    go_wp2_with fail
    clear p_G_0 p_G_1 p_G_2 p_G_3 p_G_4 p_G_5 p_G_6 p_G_7 p_G_8 p_G_9 p_G_10
    refine CM.mono ?_
    rintro e w16 ⟨rfl, o, t'⟩
    replace HS : Hid (Sta w w16 [Blk w6.heap.size 35 (mgA kG m), TkI vG (inkL 1 qG) kG (marks g m.h.ks.length), PsI vX (inkL 1 qX), Blk w3.heap.size 35 (mgA kW m), TkR vW qW kW m.h.ks]) := HS.out.markT2 1 rfl o t'
    clear o t' CM
    have CM := heldMsgS_any vG qG 1 _ (HS.out.get 1 rfl).1.rd (Nat.le_trans (HF.out.bound EG.out) (by decide)) (HF.out.smp EG.out) (by decide) (by decide)
    rw [← Ig.out] at CM
    go_wp2_with fail
    refine CM.mono ?_
    rintro e w17 ⟨rfl, hw⟩
    subst w17
    clear CM
    have CM := heldMsg_any kG m m.h.ks.length g _ rfl (HS.out.get 1 rfl).2.1.reads hml pg0 (by omega)
    unfold MgV mgA at CM
    have p_G_0 : w16.cell? ⟨w6.heap.size, 0, none⟩ = some (.int .i64 m.dst) := Blk.cell (HS.out.get 0 rfl) 0 rfl
    have p_G_1 : w16.cell? ⟨w6.heap.size, 1, none⟩ = some (.int .i64 m.kd) := Blk.cell (HS.out.get 0 rfl) 1 rfl
    have p_G_2 : w16.cell? ⟨w6.heap.size, 2, none⟩ = some (.int .i64 m.tr) := Blk.cell (HS.out.get 0 rfl) 2 rfl
    have p_G_3 : w16.cell? ⟨w6.heap.size, 3, none⟩ = some (.int .i64 m.pl) := Blk.cell (HS.out.get 0 rfl) 3 rfl
    have p_G_4 : w16.cell? ⟨w6.heap.size, 4, none⟩ = some (.int .i64 m.tn) := Blk.cell (HS.out.get 0 rfl) 4 rfl
    have p_G_5 : w16.cell? ⟨w6.heap.size, 5, none⟩ = some (.int .i64 m.va) := Blk.cell (HS.out.get 0 rfl) 5 rfl
    have p_G_6 : w16.cell? ⟨w6.heap.size, 6, none⟩ = some (.int .i64 m.ep) := Blk.cell (HS.out.get 0 rfl) 6 rfl
    have p_G_7 : w16.cell? ⟨w6.heap.size, 7, none⟩ = some kG := Blk.cell (HS.out.get 0 rfl) 7 rfl
    have p_G_8 : w16.cell? ⟨w6.heap.size, 8, none⟩ = some (.int .i64 m.h.kd) := Blk.cell (HS.out.get 0 rfl) 8 rfl
    have p_G_9 : w16.cell? ⟨w6.heap.size, 9, none⟩ = some (.int .i64 m.h.ho) := Blk.cell (HS.out.get 0 rfl) 9 rfl
    have p_G_10 : w16.cell? ⟨w6.heap.size, 10, none⟩ = some (.int .i64 m.h.tu) := Blk.cell (HS.out.get 0 rfl) 10 rfl
    go_wp2_with fail
    clear p_G_0 p_G_1 p_G_2 p_G_3 p_G_4 p_G_5 p_G_6 p_G_7 p_G_8 p_G_9 p_G_10
    refine CM.mono ?_
    rintro e w17 ⟨rfl, b⟩
    replace HS : Hid (Sta w w17 [Blk w6.heap.size 35 (mgA kG m), TkI vG (inkL 1 qG) kG (marks g m.h.ks.length), PsI vX (inkL 1 qX), Blk w3.heap.size 35 (mgA kW m), TkR vW qW kW m.h.ks]) := HS.out.next b
    clear b CM
    go_wp2_with fail
    refine (toMsgS_any u0 ps0 _ (HR0.out _ HS.out.below) HL0.out.1 HL0.out.2.1).mono ?_
    rintro e w18 ⟨vC, qC, rfl, eC, o, b⟩
    replace HS : Hid (Sta w w18 [PsI vC qC, Blk w6.heap.size 35 (mgA kG m), TkI vG (inkL 1 qG) kG (marks g m.h.ks.length), PsI vX (inkL 1 qX), Blk w3.heap.size 35 (mgA kW m), TkR vW qW kW m.h.ks]) := HS.out.post o b
    have EC : Hid (msOf qC = msOf ps0) := eC
    clear o b eC
    go_wp2_with fail
    refine (ci.out _ _ _ (HS.out.rdP 0 rfl) EC.out).mono ?_
    rintro e w19 ⟨vH, qH, kH, rfl, eH, o, mm, ap, b⟩
    have hkH : kH.oneCell' = true := reads_one mm.reads
    replace HS : Hid (Sta w w19 [TkI vH qH kH m.h.ks, PsI vC qC, Blk w6.heap.size 35 (mgA kG m), TkI vG (inkL 1 qG) kG (marks g m.h.ks.length), PsI vX (inkL 1 qX), Blk w3.heap.size 35 (mgA kW m), TkR vW qW kW m.h.ks]) := HS.out.taken o mm ap b
    have EH : Hid (msOf qH = rl) := eH
    clear o mm b eH ap
    replace HS : Hid (Sta w w19 [TkI vH qH kH m.h.ks, Blk w6.heap.size 35 (mgA kG m), TkI vG (inkL 1 qG) kG (marks g m.h.ks.length), PsI vX (inkL 1 qX), Blk w3.heap.size 35 (mgA kW m), TkR vW qW kW m.h.ks]) := HS.out.drop 1
    go_wp2_with (first | (refine wpList_putB rfl 35 _ _ rfl w19.heap.size (mgA kH m) zeroMg rfl rfl (mgA_one m hkH) (heap_alloc_new _ _) Try.isMg.2 rfl ?_; intro w20 qq gg; replace HS : Hid (Sta w w20 [Blk w19.heap.size 35 (mgA kH m), TkI vH qH kH m.h.ks, Blk w6.heap.size 35 (mgA kG m), TkI vG (inkL 1 qG) kG (marks g m.h.ks.length), PsI vX (inkL 1 qX), Blk w3.heap.size 35 (mgA kW m), TkR vW qW kW m.h.ks]) := HS.out.var 35 _ _ qq gg; clear qq gg; skip))
    refine (eqMsgS_any vH vW qH qW _ ((HS.out.get 1 rfl).1.rd) ((HS.out.get 6 rfl).1.rd) (EH.out.trans EW.out.symm) (HF.out.smp EH.out) (Nat.le_trans (HF.out.lenP EH.out) (by decide))).mono ?_
    rintro e w21 ⟨rfl, b⟩
    replace HS : Hid (Sta w w21 [Blk w19.heap.size 35 (mgA kH m), TkI vH qH kH m.h.ks, Blk w6.heap.size 35 (mgA kG m), TkI vG (inkL 1 qG) kG (marks g m.h.ks.length), PsI vX (inkL 1 qX), Blk w3.heap.size 35 (mgA kW m), TkR vW qW kW m.h.ks]) := HS.out.next b
    clear b
    have p_H_0 : w21.cell? ⟨w19.heap.size, 0, none⟩ = some (.int .i64 m.dst) := Blk.cell (HS.out.get 0 rfl) 0 rfl
    have p_H_1 : w21.cell? ⟨w19.heap.size, 1, none⟩ = some (.int .i64 m.kd) := Blk.cell (HS.out.get 0 rfl) 1 rfl
    have p_H_2 : w21.cell? ⟨w19.heap.size, 2, none⟩ = some (.int .i64 m.tr) := Blk.cell (HS.out.get 0 rfl) 2 rfl
    have p_H_3 : w21.cell? ⟨w19.heap.size, 3, none⟩ = some (.int .i64 m.pl) := Blk.cell (HS.out.get 0 rfl) 3 rfl
    have p_H_4 : w21.cell? ⟨w19.heap.size, 4, none⟩ = some (.int .i64 m.tn) := Blk.cell (HS.out.get 0 rfl) 4 rfl
    have p_H_5 : w21.cell? ⟨w19.heap.size, 5, none⟩ = some (.int .i64 m.va) := Blk.cell (HS.out.get 0 rfl) 5 rfl
    have p_H_6 : w21.cell? ⟨w19.heap.size, 6, none⟩ = some (.int .i64 m.ep) := Blk.cell (HS.out.get 0 rfl) 6 rfl
    have p_H_7 : w21.cell? ⟨w19.heap.size, 7, none⟩ = some kH := Blk.cell (HS.out.get 0 rfl) 7 rfl
    have p_H_8 : w21.cell? ⟨w19.heap.size, 8, none⟩ = some (.int .i64 m.h.kd) := Blk.cell (HS.out.get 0 rfl) 8 rfl
    have p_H_9 : w21.cell? ⟨w19.heap.size, 9, none⟩ = some (.int .i64 m.h.ho) := Blk.cell (HS.out.get 0 rfl) 9 rfl
    have p_H_10 : w21.cell? ⟨w19.heap.size, 10, none⟩ = some (.int .i64 m.h.tu) := Blk.cell (HS.out.get 0 rfl) 10 rfl
    have p_W_0 : w21.cell? ⟨w3.heap.size, 0, none⟩ = some (.int .i64 m.dst) := Blk.cell (HS.out.get 5 rfl) 0 rfl
    have p_W_1 : w21.cell? ⟨w3.heap.size, 1, none⟩ = some (.int .i64 m.kd) := Blk.cell (HS.out.get 5 rfl) 1 rfl
    have p_W_2 : w21.cell? ⟨w3.heap.size, 2, none⟩ = some (.int .i64 m.tr) := Blk.cell (HS.out.get 5 rfl) 2 rfl
    have p_W_3 : w21.cell? ⟨w3.heap.size, 3, none⟩ = some (.int .i64 m.pl) := Blk.cell (HS.out.get 5 rfl) 3 rfl
    have p_W_4 : w21.cell? ⟨w3.heap.size, 4, none⟩ = some (.int .i64 m.tn) := Blk.cell (HS.out.get 5 rfl) 4 rfl
    have p_W_5 : w21.cell? ⟨w3.heap.size, 5, none⟩ = some (.int .i64 m.va) := Blk.cell (HS.out.get 5 rfl) 5 rfl
    have p_W_6 : w21.cell? ⟨w3.heap.size, 6, none⟩ = some (.int .i64 m.ep) := Blk.cell (HS.out.get 5 rfl) 6 rfl
    have p_W_7 : w21.cell? ⟨w3.heap.size, 7, none⟩ = some kW := Blk.cell (HS.out.get 5 rfl) 7 rfl
    have p_W_8 : w21.cell? ⟨w3.heap.size, 8, none⟩ = some (.int .i64 m.h.kd) := Blk.cell (HS.out.get 5 rfl) 8 rfl
    have p_W_9 : w21.cell? ⟨w3.heap.size, 9, none⟩ = some (.int .i64 m.h.ho) := Blk.cell (HS.out.get 5 rfl) 9 rfl
    have p_W_10 : w21.cell? ⟨w3.heap.size, 10, none⟩ = some (.int .i64 m.h.tu) := Blk.cell (HS.out.get 5 rfl) 10 rfl
    go_wp2_with fail
    clear p_H_0 p_H_1 p_H_2 p_H_3 p_H_4 p_H_5 p_H_6 p_H_7 p_H_8 p_H_9 p_H_10 p_W_0 p_W_1 p_W_2 p_W_3 p_W_4 p_W_5 p_W_6 p_W_7 p_W_8 p_W_9 p_W_10
    refine (CE.out _ _ _ ((HS.out.get 1 rfl).2.1.reads) ((HS.out.get 6 rfl).2.reads)).mono ?_
    rintro e w22 ⟨rfl, b⟩
    replace HS : Hid (Sta w w22 [Blk w19.heap.size 35 (mgA kH m), TkI vH qH kH m.h.ks, Blk w6.heap.size 35 (mgA kG m), TkI vG (inkL 1 qG) kG (marks g m.h.ks.length), PsI vX (inkL 1 qX), Blk w3.heap.size 35 (mgA kW m), TkR vW qW kW m.h.ks]) := HS.out.next b
    clear b
    have CM := heldMsgS_any vG qG 1 _ (HS.out.get 3 rfl).1.rd (Nat.le_trans (HF.out.bound EG.out) (by decide)) (HF.out.smp EG.out) (by decide) (by decide)
    rw [← Ig.out] at CM
    go_wp2_with fail
    refine CM.mono ?_
    rintro e w23 ⟨rfl, hw⟩
    subst w23
    clear CM
    have CM := heldMsg_any kG m m.h.ks.length g _ rfl (HS.out.get 3 rfl).2.1.reads hml pg0 (by omega)
    unfold MgV mgA at CM
    have p_G_0 : w22.cell? ⟨w6.heap.size, 0, none⟩ = some (.int .i64 m.dst) := Blk.cell (HS.out.get 2 rfl) 0 rfl
    have p_G_1 : w22.cell? ⟨w6.heap.size, 1, none⟩ = some (.int .i64 m.kd) := Blk.cell (HS.out.get 2 rfl) 1 rfl
    have p_G_2 : w22.cell? ⟨w6.heap.size, 2, none⟩ = some (.int .i64 m.tr) := Blk.cell (HS.out.get 2 rfl) 2 rfl
    have p_G_3 : w22.cell? ⟨w6.heap.size, 3, none⟩ = some (.int .i64 m.pl) := Blk.cell (HS.out.get 2 rfl) 3 rfl
    have p_G_4 : w22.cell? ⟨w6.heap.size, 4, none⟩ = some (.int .i64 m.tn) := Blk.cell (HS.out.get 2 rfl) 4 rfl
    have p_G_5 : w22.cell? ⟨w6.heap.size, 5, none⟩ = some (.int .i64 m.va) := Blk.cell (HS.out.get 2 rfl) 5 rfl
    have p_G_6 : w22.cell? ⟨w6.heap.size, 6, none⟩ = some (.int .i64 m.ep) := Blk.cell (HS.out.get 2 rfl) 6 rfl
    have p_G_7 : w22.cell? ⟨w6.heap.size, 7, none⟩ = some kG := Blk.cell (HS.out.get 2 rfl) 7 rfl
    have p_G_8 : w22.cell? ⟨w6.heap.size, 8, none⟩ = some (.int .i64 m.h.kd) := Blk.cell (HS.out.get 2 rfl) 8 rfl
    have p_G_9 : w22.cell? ⟨w6.heap.size, 9, none⟩ = some (.int .i64 m.h.ho) := Blk.cell (HS.out.get 2 rfl) 9 rfl
    have p_G_10 : w22.cell? ⟨w6.heap.size, 10, none⟩ = some (.int .i64 m.h.tu) := Blk.cell (HS.out.get 2 rfl) 10 rfl
    go_wp2_with fail
    clear p_G_0 p_G_1 p_G_2 p_G_3 p_G_4 p_G_5 p_G_6 p_G_7 p_G_8 p_G_9 p_G_10
    refine CM.mono ?_
    rintro e w23 ⟨rfl, b⟩
    replace HS : Hid (Sta w w23 [Blk w19.heap.size 35 (mgA kH m), TkI vH qH kH m.h.ks, Blk w6.heap.size 35 (mgA kG m), TkI vG (inkL 1 qG) kG (marks g m.h.ks.length), PsI vX (inkL 1 qX), Blk w3.heap.size 35 (mgA kW m), TkR vW qW kW m.h.ks]) := HS.out.next b
    clear b CM
    have HB : Hid (Below w.heap.size w _) := HS.out.below
    clear HS
    go_wp2
    go_ret
    exact ⟨rfl, HB.out⟩

set_option maxRecDepth 100000 in
theorem lifted (os : Os) (started : os.Started) (H : Type) (enc : TypeId × Value → H) :
    ReturnsInHanded {} Try.checked os 6 .any (Rows.fnExactTakenSpec.pre6 enc Try.prog Try.f6 Rows.fnExactTakenRow.domain false) (Rows.fnExactTakenSpec.post enc Try.prog Try.f6 false true false false) := by
  refine returnsInHanded_of_change (C := Try.checked) own started (by kernel_rfl) Try.func6
    (ChangeSpec.witness6 (enc := enc) (C := Try.checked) false ⟨#[], #[.slice none 0 0, .int .i64 0], []⟩ 8 (by kernel_rfl) (by kernel_rfl) (by kernel_rfl) (by kernel_rfl)) ?_
  intro W base args ds gs before hval0 hW hcnd _
  have hval : ∀ (j : Nat) t v, Try.f6.params[j]? = some t → args[j]? = some v → Value.okWide Try.prog W .any base t v := hval0
  have hW' := hW
  obtain ⟨p, q, hA0, hV, rfl, hfz, hnd⟩ := hW
  have hA : DataW.TrodAll enc Try.prog W 0 (fun _ => true) true Try.f6.params.toList args.toList ds p := hA0
  rw [Try.params6] at hA hval
  obtain ⟨v0, vs0, d0, ds0, p0, q0, hargs, rfl, rfl, h0, s0⟩ := trodAll_cons hA
  obtain ⟨v1, vs1, d1, ds1, p1, q1, rfl, rfl, rfl, h1, s1⟩ := trodAll_cons s0
  obtain ⟨rfl, rfl, rfl⟩ := trodAll_nil s1
  obtain rfl : args = #[v0, v1] := by cases args; simp_all
  obtain ⟨rfl, rfl⟩ := trodVars_none hV
  have k0 := h0
  have lt0 : ∀ x ∈ p0, x.block < W.heap.size := by obtain ⟨m, hm⟩ := k0; exact DataW.trod_lt m _ _ _ hm
  obtain ⟨ps0, f0⟩ := open_post (hval 0 42 v0 rfl rfl) h0
  obtain ⟨a1, rfl, rfl, rfl, w1⟩ := open_int Try.underlying2 (hval 1 2 v1 rfl rfl) h1
  clear hA0 hval0
  refine (walk ps0 v0 a1 W f0 w1).mono fun e W' ⟨he, bel⟩ => ?_
  subst he
  exact ⟨_, rfl, _, _, _, [], _, [], hW', trodAll_mk1 (shut_bool Try.underlying4 _), (trodAll_cons_mk (Below.trod laidOut (by kernel_rfl) (of_decide_eq_true (by kernel_rfl)) k0 bel lt0) (trodAll_cons_mk (shut_int Try.underlying2 w1) trodAll_mk0)), rfl, bel.frame _, fun h => by cases h⟩

theorem over : Rows.fnExactTakenRow.holds Try.pinned (OpenSpec.ofChange Rows.fnExactTakenSpec) :=
  OpenClaim.holds_of_wide 6 Try.f6 rfl rfl rfl rfl rfl rfl rfl ⟨rfl, rfl, rfl, rfl, rfl⟩ rfl rfl rfl rfl rfl (by kernel_rfl) Try.func6 (by kernel_rfl)
    (of_decide_eq_true (by kernel_rfl)) (by unfold Func.isWrapper; first | (rw [if_pos (by decide +kernel)]; kernel_rfl) | (rw [if_neg (by decide +kernel)]; exact ⟨rfl, rfl⟩))
    (fun os started H enc _ => lifted os started H enc)

theorem proved : Rows.FnExactTakenSaid := over
end Go.Proofs.Ytjbfncjdedigdaa.fnExactTaken
namespace Go.Proofs.Ytjbfncjdedigdaa
theorem fnExactTaken_holds : Rows.FnExactTakenSaid := fnExactTaken.proved
end Go.Proofs.Ytjbfncjdedigdaa
