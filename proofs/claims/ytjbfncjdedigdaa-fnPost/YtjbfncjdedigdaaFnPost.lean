/- At every list of bytes the law FnPost returns true: what is posted is taken, all else in its order, and what comes twice is alike; and the program answers as the model. -/
import Derived.Test.YtjbfncjdedigdaaRows
import Derived.WalkKit
import Derived.ProofKit
import Derived.OpenShut
import Derived.ShutString
import Derived.ChangeOld
import Derived.Below
import Derived.Test.YtjbfncjdedigdaaPostCut
import Derived.Test.YtjbfncjdedigdaaM23
import Derived.Test.YtjbfncjdedigdaaIPost4
import Derived.Test.YtjbfncjdedigdaaM27
namespace Go.Proofs.Ytjbfncjdedigdaa.fnPost
open Go.ChangeShapes Go.WideShapes Go.ChangeAt Go.RowKit
open Go.ChangeMaps (open_string shut_string)
set_option linter.unusedVariables false

theorem own : ownKnob Try.prog.godebug = none := by kernel_rfl
theorem laidOut : laidOutB Try.prog = true := by kernel_rfl

def IsRow (k : IntKind) (w : World) (a : Option Addr) (len cap : Nat) (zs : List Int) : Prop :=
  (a = none ∧ len = 0 ∧ cap = 0 ∧ zs = []) ∨
  ∃ x, a = some x ∧ len ≤ cap ∧ cap ≤ maxLen ∧ zs.length = cap ∧ (∀ i, i < zs.length → w.cell? (x.add i) = some (.int k (zs.getD i 0))) ∧ ∀ n ∈ zs, (Lit.int k n).wf = true

set_option maxRecDepth 20000 in
set_option maxHeartbeats 20000000 in
theorem walk (a0 : Option Addr) (len0 cap0 : Nat) (z0 : List Int) (w : World) (w0 : IsRow .u8 w a0 len0 cap0 z0) :
    Calls Try.prog 3 #[.slice a0 len0 cap0] w fun e w' => e = .returned (.bool true) ∧ Below w.heap.size w w' := by
  by_cases hbig : (4096 : Int) < (len0 : Int)
  · go_enter Try.func3, Try.ntmps3
    go_wp2_with (go_at_call 8; refine (big_any _ _ _ _).mono ?_; rintro e w' ⟨rfl, hw'⟩; subst w')
    go_ret
    exact ⟨rfl, Below.refl _ _⟩
  · skip
    have HC : Hid (CodeOk w w.heap.size (.slice a0 len0 cap0)) := codeOk_row w0 (by omega)
    have HS : Hid (Sta w w []) := Sta.start w
    clear w0
    go_enter Try.func3, Try.ntmps3
    go_wp2_with fail
    refine (big_any _ _ _ _).mono ?_
    rintro e w' ⟨rfl, hw'⟩; subst w'
    go_wp2_with fail
    refine (drawPosted_any w.heap.size _ _ (HC.out.below HS.out.below) HS.out.below.size).mono ?_
    rintro e w1 ⟨vA, vB, qA, qB, rfl, fa, fb, oa, ob, hap, b⟩
    have HFA : Hid (FewM (msOf qA) 1048576 1048576) := fa.fewM (by decide)
    have HFB : Hid (FewM (msOf qB) 1048576 1048576) := fb.fewM (by decide)
    replace HS : Hid (Sta w w1 [PpI vA qA vB qB]) := HS.out.post2 oa ob b
    obtain ⟨r1, hr1⟩ : ∃ r1, r1 = postP (msOf qA) (msOf qB) := ⟨_, rfl⟩
    have HR1 : Hid (r1 = postP (msOf qA) (msOf qB)) := hr1
    have hf1 := FewM.posted HFA.out HFB.out
    have c1 := fun wx ha hb => iPosted_any vA vB qA qB wx ha hb (HFA.out.smp rfl) (HFB.out.smp rfl)
    have c1' := fun wx ha hb => sPosted_any vA vB qA qB wx ha hb (HFA.out.smp rfl) (HFB.out.smp rfl) (Nat.le_trans (HFA.out.lenP rfl) (by decide)) (Nat.le_trans (HFB.out.lenP rfl) (by decide))
    rw [← hr1] at hf1
    simp only [← hr1] at c1 c1'
    have HF1 : Hid (FewM r1.1 40 2097152) := hf1
    obtain ⟨t1, ht1⟩ : ∃ t1, t1 = r1.2 := ⟨_, rfl⟩
    simp only [← ht1] at c1 c1'
    have HT1 : Hid (t1 = r1.2) := ht1
    have htt1 : (t1 != t1) = false := by simp
    have C1' : Hid (∀ wx, RdP wx vA qA → RdP wx vB qB → Calls Try.prog 15 #[vA, vB] wx fun e w' => ∃ u rs, e = .returned (.tuple #[u, .bool t1]) ∧ msOf rs = r1.1 ∧ OwnP w' wx.heap.size u rs ∧ Below wx.heap.size wx w') := c1'
    clear fa fb oa ob hap b hr1 hf1 c1' ht1
    go_wp2_with fail
    refine (c1 _ (HS.out.get 0 rfl).1.rd (HS.out.get 0 rfl).2.rd).mono ?_
    rintro e w2 ⟨vX, qX, rfl, eX, o, b⟩
    replace HS : Hid (Sta w w2 [PsI vX qX, PpI vA qA vB qB]) := HS.out.post o b
    have EX : Hid (msOf qX = r1.1) := eX
    clear o b eX c1
    go_wp2_with fail
    refine (drawTaken_any w.heap.size _ _ (HC.out.below HS.out.below) HS.out.below.size).mono ?_
    rintro e w3 ⟨vP, qP, at_, rfl, fp, hat, op, b⟩
    replace HS : Hid (Sta w w3 [PsI vP qP, PsI vX qX, PpI vA qA vB qB]) := HS.out.post op b
    have HFP : Hid (FewM (msOf qP) 1048576 1048576) := fp.fewM (by decide)
    have HAT : Hid (-1 ≤ at_ ∧ at_ ≤ 7) := hat
    obtain ⟨r2, hr2⟩ : ∃ r2, r2 = takeP (msOf qP) at_ := ⟨_, rfl⟩
    have hf2 := FewM.taken HFP.out at_
    have c2 := fun wx ha => iTaken_any vP qP at_ wx ha (HFP.out.smp rfl)
    have c2' := fun wx ha => sTaken_any vP qP at_ wx ha (HFP.out.smp rfl) (Nat.le_trans (HFP.out.lenP rfl) (by decide))
    rw [← hr2] at hf2
    simp only [← hr2] at c2 c2'
    have HR2 : Hid (r2 = takeP (msOf qP) at_) := hr2
    clear hr2
    obtain ⟨rl, m, t2⟩ := r2
    simp only at hf2 c2 c2'
    have HF2 : Hid (FewM rl 40 1048576 ∧ m.h.ks.length ≤ 1048576) := hf2
    have htt2 : (t2 != t2) = false := by simp
    have C2' : Hid (∀ wx, RdP wx vP qP → Calls Try.prog 19 #[vP, .int .i64 at_] wx fun e w' => ∃ u rs k, e = .returned (.tuple #[u, .agg (mgA k m), .bool t2]) ∧ msOf rs = rl ∧ OwnP w' wx.heap.size u rs ∧ Mine w' wx.heap.size k m.h.ks ∧ Below wx.heap.size wx w') := c2'
    clear fp op b hat hf2 c2'
    go_wp2_with fail
    refine (c2 _ (HS.out.rdP 0 rfl)).mono ?_
    rintro e w4 ⟨vY, qY, kY, rfl, eY, o, mm, ap, b⟩
    replace HS : Hid (Sta w w4 [TkR vY qY kY m.h.ks, PsI vP qP, PsI vX qX, PpI vA qA vB qB]) := HS.out.takenR o mm b
    have hkY : kY.oneCell' = true := reads_one mm.reads
    have EY : Hid (msOf qY = rl) := eY
    clear o mm ap b eY c2
    have p4 : StB (w4.alloc (.cells zeroMg 35)) w4.heap.size 35 zeroMg := StB.new _ _ _
    go_wp2_with (first | (refine wpList_putB rfl 35 _ _ rfl w4.heap.size (mgA kY m) zeroMg rfl rfl (mgA_one m hkY) p4 Try.isMg.2 rfl ?_; intro w5 qq gg; replace HS : Hid (Sta w w5 [Blk w4.heap.size 35 (mgA kY m), TkR vY qY kY m.h.ks, PsI vP qP, PsI vX qX, PpI vA qA vB qB]) := HS.out.var 35 _ _ qq gg; clear qq gg; skip))
    refine (drawTwice_any w.heap.size _ _ (HC.out.below HS.out.below) HS.out.below.size).mono ?_
    rintro e w6 ⟨vQ, qQ, kq, rfl, fq, hkq, oq, b⟩
    replace HS : Hid (Sta w w6 [PsI vQ qQ, Blk w4.heap.size 35 (mgA kY m), TkR vY qY kY m.h.ks, PsI vP qP, PsI vX qX, PpI vA qA vB qB]) := HS.out.post oq b
    have HFQ : Hid (FewM (msOf qQ) 1048576 1048576) := fq.fewM (by decide)
    have HKQ : Hid (-1 ≤ kq ∧ kq ≤ 7) := hkq
    obtain ⟨r3, hr3⟩ : ∃ r3, r3 = twiceP (msOf qQ) kq := ⟨_, rfl⟩
    have hf3 := FewM.twice HFQ.out kq
    have c3 := fun wx ha => iTwice_any vQ qQ kq wx ha (HFQ.out.smp rfl)
    have c3' := fun wx ha => sTwice_any vQ qQ kq wx ha (HFQ.out.smp rfl) (Nat.le_trans (HFQ.out.lenP rfl) (by decide))
    rw [← hr3] at hf3
    simp only [← hr3] at c3 c3'
    have HR3 : Hid (r3 = twiceP (msOf qQ) kq) := hr3
    have HF3 : Hid (FewM r3.1 40 2097152) := hf3
    obtain ⟨t3, ht3⟩ : ∃ t3, t3 = r3.2 := ⟨_, rfl⟩
    simp only [← ht3] at c3 c3'
    have HT3 : Hid (t3 = r3.2) := ht3
    have htt3 : (t3 != t3) = false := by simp
    have C3' : Hid (∀ wx, RdP wx vQ qQ → Calls Try.prog 21 #[vQ, .int .i64 kq] wx fun e w' => ∃ u rs, e = .returned (.tuple #[u, .bool t3]) ∧ msOf rs = r3.1 ∧ OwnP w' wx.heap.size u rs ∧ Below wx.heap.size wx w') := c3'
    clear fq oq b hkq hf3 c3' hr3 ht3 p4
    go_wp2_with fail
    refine (c3 _ (HS.out.rdP 0 rfl)).mono ?_
    rintro e w7 ⟨vZ, qZ, rfl, eZ, o, b⟩
    replace HS : Hid (Sta w w7 [PsI vZ qZ, PsI vQ qQ, Blk w4.heap.size 35 (mgA kY m), TkR vY qY kY m.h.ks, PsI vP qP, PsI vX qX, PpI vA qA vB qB]) := HS.out.post o b
    have EZ : Hid (msOf qZ = r3.1) := eZ
    clear o b eZ c3
    go_wp2_with fail
    refine (C1'.out _ (HS.out.get 6 rfl).1.rd (HS.out.get 6 rfl).2.rd).mono ?_
    rintro e w8 ⟨vU, qU, rfl, eU, o, b⟩
    replace HS : Hid (Sta w w8 [PsI vU qU, PsI vZ qZ, PsI vQ qQ, Blk w4.heap.size 35 (mgA kY m), TkR vY qY kY m.h.ks, PsI vP qP, PsI vX qX, PpI vA qA vB qB]) := HS.out.post o b
    have EU : Hid (msOf qU = r1.1) := eU
    clear o b eU C1'
    go_wp2_with fail
    refine (likePost_eq vX vU qX qU _ (HS.out.rdP 6 rfl) (HS.out.rdP 0 rfl) (EX.out.trans EU.out.symm) (HF1.out.smp EX.out) (Nat.le_trans (HF1.out.lenP EX.out) (by decide))).mono ?_
    rintro e w9 ⟨rfl, b⟩
    replace HS : Hid (Sta w w9 [PsI vU qU, PsI vZ qZ, PsI vQ qQ, Blk w4.heap.size 35 (mgA kY m), TkR vY qY kY m.h.ks, PsI vP qP, PsI vX qX, PpI vA qA vB qB]) := HS.out.next b
    clear b
    obtain ⟨oA, hoA⟩ : ∃ oA, oA = postOk (msOf qA) := ⟨_, rfl⟩
    have ci := fun wx ha => ipostok_any vA qA wx ha (HFA.out.smp rfl)
    have csp := fun wx ha => spostok_any vA qA wx ha (HFA.out.smp rfl)
    simp only [← hoA] at ci csp
    have hoo : (oA != oA) = false := by simp
    clear hoA
    go_wp2_with fail
    refine (ci _ (HS.out.get 7 rfl).1.rd).mono ?_
    rintro e w10 ⟨rfl, b⟩
    replace HS : Hid (Sta w w10 [PsI vU qU, PsI vZ qZ, PsI vQ qQ, Blk w4.heap.size 35 (mgA kY m), TkR vY qY kY m.h.ks, PsI vP qP, PsI vX qX, PpI vA qA vB qB]) := HS.out.next b
    clear b ci
    go_wp2_with fail
    refine (csp _ (HS.out.get 7 rfl).1.rd).mono ?_
    rintro e w11 ⟨rfl, b⟩
    replace HS : Hid (Sta w w11 [PsI vU qU, PsI vZ qZ, PsI vQ qQ, Blk w4.heap.size 35 (mgA kY m), TkR vY qY kY m.h.ks, PsI vP qP, PsI vX qX, PpI vA qA vB qB]) := HS.out.next b
    clear b csp
    clear hoo
    go_wp2_with fail
    refine (C2'.out _ (HS.out.rdP 5 rfl)).mono ?_
    rintro e w12 ⟨vV, qV, kV, rfl, eV, o, mm, b⟩
    replace HS : Hid (Sta w w12 [TkR vV qV kV m.h.ks, PsI vU qU, PsI vZ qZ, PsI vQ qQ, Blk w4.heap.size 35 (mgA kY m), TkR vY qY kY m.h.ks, PsI vP qP, PsI vX qX, PpI vA qA vB qB]) := HS.out.takenR o mm b
    have hkV : kV.oneCell' = true := reads_one mm.reads
    have EV : Hid (msOf qV = rl) := eV
    clear o mm b eV C2'
    have p4 : StB (w12.alloc (.cells zeroMg 35)) w12.heap.size 35 zeroMg := StB.new _ _ _
    go_wp2_with (first | (refine wpList_putB rfl 35 _ _ rfl w12.heap.size (mgA kV m) zeroMg rfl rfl (mgA_one m hkV) p4 Try.isMg.2 rfl ?_; intro w13 qq gg; replace HS : Hid (Sta w w13 [Blk w12.heap.size 35 (mgA kV m), TkR vV qV kV m.h.ks, PsI vU qU, PsI vZ qZ, PsI vQ qQ, Blk w4.heap.size 35 (mgA kY m), TkR vY qY kY m.h.ks, PsI vP qP, PsI vX qX, PpI vA qA vB qB]) := HS.out.var 35 _ _ qq gg; clear qq gg; skip))
    refine (likePost_eq vY vV qY qV _ (HS.out.get 6 rfl).1.rd (HS.out.get 1 rfl).1.rd (EY.out.trans EV.out.symm) (HF2.out.1.smp EY.out) (Nat.le_trans (HF2.out.1.lenP EY.out) (by decide))).mono ?_
    rintro e w14 ⟨rfl, b⟩
    replace HS : Hid (Sta w w14 [Blk w12.heap.size 35 (mgA kV m), TkR vV qV kV m.h.ks, PsI vU qU, PsI vZ qZ, PsI vQ qQ, Blk w4.heap.size 35 (mgA kY m), TkR vY qY kY m.h.ks, PsI vP qP, PsI vX qX, PpI vA qA vB qB]) := HS.out.next b
    clear b
    have p_Y_0 : w14.cell? ⟨w4.heap.size, 0, none⟩ = some (.int .i64 m.dst) := Blk.cell (HS.out.get 5 rfl) 0 rfl
    have p_Y_1 : w14.cell? ⟨w4.heap.size, 1, none⟩ = some (.int .i64 m.kd) := Blk.cell (HS.out.get 5 rfl) 1 rfl
    have p_Y_2 : w14.cell? ⟨w4.heap.size, 2, none⟩ = some (.int .i64 m.tr) := Blk.cell (HS.out.get 5 rfl) 2 rfl
    have p_Y_3 : w14.cell? ⟨w4.heap.size, 3, none⟩ = some (.int .i64 m.pl) := Blk.cell (HS.out.get 5 rfl) 3 rfl
    have p_Y_4 : w14.cell? ⟨w4.heap.size, 4, none⟩ = some (.int .i64 m.tn) := Blk.cell (HS.out.get 5 rfl) 4 rfl
    have p_Y_5 : w14.cell? ⟨w4.heap.size, 5, none⟩ = some (.int .i64 m.va) := Blk.cell (HS.out.get 5 rfl) 5 rfl
    have p_Y_6 : w14.cell? ⟨w4.heap.size, 6, none⟩ = some (.int .i64 m.ep) := Blk.cell (HS.out.get 5 rfl) 6 rfl
    have p_Y_7 : w14.cell? ⟨w4.heap.size, 7, none⟩ = some kY := Blk.cell (HS.out.get 5 rfl) 7 rfl
    have p_Y_8 : w14.cell? ⟨w4.heap.size, 8, none⟩ = some (.int .i64 m.h.kd) := Blk.cell (HS.out.get 5 rfl) 8 rfl
    have p_Y_9 : w14.cell? ⟨w4.heap.size, 9, none⟩ = some (.int .i64 m.h.ho) := Blk.cell (HS.out.get 5 rfl) 9 rfl
    have p_Y_10 : w14.cell? ⟨w4.heap.size, 10, none⟩ = some (.int .i64 m.h.tu) := Blk.cell (HS.out.get 5 rfl) 10 rfl
    have p_V_0 : w14.cell? ⟨w12.heap.size, 0, none⟩ = some (.int .i64 m.dst) := Blk.cell (HS.out.get 0 rfl) 0 rfl
    have p_V_1 : w14.cell? ⟨w12.heap.size, 1, none⟩ = some (.int .i64 m.kd) := Blk.cell (HS.out.get 0 rfl) 1 rfl
    have p_V_2 : w14.cell? ⟨w12.heap.size, 2, none⟩ = some (.int .i64 m.tr) := Blk.cell (HS.out.get 0 rfl) 2 rfl
    have p_V_3 : w14.cell? ⟨w12.heap.size, 3, none⟩ = some (.int .i64 m.pl) := Blk.cell (HS.out.get 0 rfl) 3 rfl
    have p_V_4 : w14.cell? ⟨w12.heap.size, 4, none⟩ = some (.int .i64 m.tn) := Blk.cell (HS.out.get 0 rfl) 4 rfl
    have p_V_5 : w14.cell? ⟨w12.heap.size, 5, none⟩ = some (.int .i64 m.va) := Blk.cell (HS.out.get 0 rfl) 5 rfl
    have p_V_6 : w14.cell? ⟨w12.heap.size, 6, none⟩ = some (.int .i64 m.ep) := Blk.cell (HS.out.get 0 rfl) 6 rfl
    have p_V_7 : w14.cell? ⟨w12.heap.size, 7, none⟩ = some kV := Blk.cell (HS.out.get 0 rfl) 7 rfl
    have p_V_8 : w14.cell? ⟨w12.heap.size, 8, none⟩ = some (.int .i64 m.h.kd) := Blk.cell (HS.out.get 0 rfl) 8 rfl
    have p_V_9 : w14.cell? ⟨w12.heap.size, 9, none⟩ = some (.int .i64 m.h.ho) := Blk.cell (HS.out.get 0 rfl) 9 rfl
    have p_V_10 : w14.cell? ⟨w12.heap.size, 10, none⟩ = some (.int .i64 m.h.tu) := Blk.cell (HS.out.get 0 rfl) 10 rfl
    have CE : Hid (∀ k k' wx, Reads wx k m.h.ks → Reads wx k' m.h.ks → Calls Try.prog 20 #[MgV k m, MgV k' m] wx fun e w' => e = .returned (.bool true) ∧ Below wx.heap.size wx w') := fun k k' wx h h' => likeMsg_any k k' m wx h h' HF2.out.2
    unfold MgV mgA at CE
    go_wp2_with fail
    clear p_Y_0 p_Y_1 p_Y_2 p_Y_3 p_Y_4 p_Y_5 p_Y_6 p_Y_7 p_Y_8 p_Y_9 p_Y_10 p_V_0 p_V_1 p_V_2 p_V_3 p_V_4 p_V_5 p_V_6 p_V_7 p_V_8 p_V_9 p_V_10
    refine (CE.out _ _ _ (HS.out.get 6 rfl).2.reads (HS.out.get 1 rfl).2.reads).mono ?_
    rintro e w15 ⟨rfl, b⟩
    replace HS : Hid (Sta w w15 [Blk w12.heap.size 35 (mgA kV m), TkR vV qV kV m.h.ks, PsI vU qU, PsI vZ qZ, PsI vQ qQ, Blk w4.heap.size 35 (mgA kY m), TkR vY qY kY m.h.ks, PsI vP qP, PsI vX qX, PpI vA qA vB qB]) := HS.out.next b
    clear b p4 CE
    go_wp2_with fail
    refine (C3'.out _ (HS.out.rdP 4 rfl)).mono ?_
    rintro e w16 ⟨vW, qW, rfl, eW, o, b⟩
    replace HS : Hid (Sta w w16 [PsI vW qW, Blk w12.heap.size 35 (mgA kV m), TkR vV qV kV m.h.ks, PsI vU qU, PsI vZ qZ, PsI vQ qQ, Blk w4.heap.size 35 (mgA kY m), TkR vY qY kY m.h.ks, PsI vP qP, PsI vX qX, PpI vA qA vB qB]) := HS.out.post o b
    have EW : Hid (msOf qW = r3.1) := eW
    clear o b eW C3'
    go_wp2_with fail
    refine (likePost_eq vZ vW qZ qW _ (HS.out.rdP 4 rfl) (HS.out.rdP 0 rfl) (EZ.out.trans EW.out.symm) (HF3.out.smp EZ.out) (Nat.le_trans (HF3.out.lenP EZ.out) (by decide))).mono ?_
    rintro e w17 ⟨rfl, b⟩
    replace HS : Hid (Sta w w17 [PsI vW qW, Blk w12.heap.size 35 (mgA kV m), TkR vV qV kV m.h.ks, PsI vU qU, PsI vZ qZ, PsI vQ qQ, Blk w4.heap.size 35 (mgA kY m), TkR vY qY kY m.h.ks, PsI vP qP, PsI vX qX, PpI vA qA vB qB]) := HS.out.next b
    clear b
    go_upto_region 18 with fail
    obtain ⟨ox, cx, rfl⟩ := (HS.out.rdP 9 rfl).form
    have Hx : Hid (qX.length ≤ cx ∧ cx ≤ maxLen ∧ (ox = none → cx = 0)) := ⟨(HS.out.rdP 9 rfl).el.2.1, (HS.out.rdP 9 rfl).el.2.2.1, fun e => RdP.cap0 (HS.out.rdP 9 rfl) e⟩
    obtain ⟨nx, hnx⟩ : ∃ nx, nx = qX.length := ⟨_, rfl⟩
    have HNx : Hid (nx = qX.length) := hnx
    rw [← hnx] at HS Hx ⊢
    clear hnx
    obtain ⟨oa, ca, rfl⟩ := (HS.out.get 10 rfl).1.rd.form
    have Ha : Hid (qA.length ≤ ca ∧ ca ≤ maxLen ∧ (oa = none → ca = 0)) := ⟨(HS.out.get 10 rfl).1.rd.el.2.1, (HS.out.get 10 rfl).1.rd.el.2.2.1, fun e => RdP.cap0 (HS.out.get 10 rfl).1.rd e⟩
    obtain ⟨na, hna⟩ : ∃ na, na = qA.length := ⟨_, rfl⟩
    have HNa : Hid (na = qA.length) := hna
    rw [← hna] at HS Ha ⊢
    clear hna
    obtain ⟨ob, cb, rfl⟩ := (HS.out.get 10 rfl).2.rd.form
    have Hb : Hid (qB.length ≤ cb ∧ cb ≤ maxLen ∧ (ob = none → cb = 0)) := ⟨(HS.out.get 10 rfl).2.rd.el.2.1, (HS.out.get 10 rfl).2.rd.el.2.2.1, fun e => RdP.cap0 (HS.out.get 10 rfl).2.rd e⟩
    obtain ⟨nb, hnb⟩ : ∃ nb, nb = qB.length := ⟨_, rfl⟩
    have HNb : Hid (nb = qB.length) := hnb
    rw [← hnb] at HS Hb ⊢
    clear hnb
    obtain ⟨op, cp, rfl⟩ := (HS.out.rdP 8 rfl).form
    have Hp : Hid (qP.length ≤ cp ∧ cp ≤ maxLen ∧ (op = none → cp = 0)) := ⟨(HS.out.rdP 8 rfl).el.2.1, (HS.out.rdP 8 rfl).el.2.2.1, fun e => RdP.cap0 (HS.out.rdP 8 rfl) e⟩
    obtain ⟨np, hnp⟩ : ∃ np, np = qP.length := ⟨_, rfl⟩
    have HNp : Hid (np = qP.length) := hnp
    rw [← hnp] at HS Hp ⊢
    clear hnp
    obtain ⟨oy, cy, rfl⟩ := (HS.out.get 7 rfl).1.rd.form
    have Hy : Hid (qY.length ≤ cy ∧ cy ≤ maxLen ∧ (oy = none → cy = 0)) := ⟨(HS.out.get 7 rfl).1.rd.el.2.1, (HS.out.get 7 rfl).1.rd.el.2.2.1, fun e => RdP.cap0 (HS.out.get 7 rfl).1.rd e⟩
    obtain ⟨ny, hny⟩ : ∃ ny, ny = qY.length := ⟨_, rfl⟩
    have HNy : Hid (ny = qY.length) := hny
    rw [← hny] at HS Hy ⊢
    clear hny
    obtain ⟨oq, cq, rfl⟩ := (HS.out.rdP 5 rfl).form
    have Hq : Hid (qQ.length ≤ cq ∧ cq ≤ maxLen ∧ (oq = none → cq = 0)) := ⟨(HS.out.rdP 5 rfl).el.2.1, (HS.out.rdP 5 rfl).el.2.2.1, fun e => RdP.cap0 (HS.out.rdP 5 rfl) e⟩
    obtain ⟨nq, hnq⟩ : ∃ nq, nq = qQ.length := ⟨_, rfl⟩
    have HNq : Hid (nq = qQ.length) := hnq
    rw [← hnq] at HS Hq ⊢
    clear hnq
    obtain ⟨oz, cz, rfl⟩ := (HS.out.rdP 4 rfl).form
    have Hz : Hid (qZ.length ≤ cz ∧ cz ≤ maxLen ∧ (oz = none → cz = 0)) := ⟨(HS.out.rdP 4 rfl).el.2.1, (HS.out.rdP 4 rfl).el.2.2.1, fun e => RdP.cap0 (HS.out.rdP 4 rfl) e⟩
    obtain ⟨nz, hnz⟩ : ∃ nz, nz = qZ.length := ⟨_, rfl⟩
    have HNz : Hid (nz = qZ.length) := hnz
    rw [← hnz] at HS Hz ⊢
    clear hnz
    have HL : Hid (na ≤ 1048576 ∧ nb ≤ 1048576 ∧ np ≤ 1048576 ∧ nq ≤ 1048576) := by rw [Hid, HNa.out, HNb.out, HNp.out, HNq.out]; exact ⟨HFA.out.lenP rfl, HFB.out.lenP rfl, HFP.out.lenP rfl, HFQ.out.lenP rfl⟩
    go_cut [151] (fun t wx => t = .bool false ∧ Hid (Sta w wx [PsI vW qW, Blk w12.heap.size 35 (mgA kV m), TkR vV qV kV m.h.ks, PsI vU qU, PsI (.slice oz nz cz) qZ, PsI (.slice oq nq cq) qQ, Blk w4.heap.size 35 (mgA kY m), TkR (.slice oy ny cy) qY kY m.h.ks, PsI (.slice op np cp) qP, PsI (.slice ox nx cx) qX, PpI (.slice oa na ca) qA (.slice ob nb cb) qB]))
    case first =>
      cases t1 with
      | false =>
        go_wp2
        go_meet
        case rel => exact ⟨rfl, HS⟩
      | true =>
        obtain ⟨e1, ok1⟩ := posted_yes (show (postP (msOf qA) (msOf qB)).2 = true by rw [← HR1.out]; exact HT1.out.symm)
        rw [← HR1.out] at e1
        have hlx : nx = na + nb := by rw [HNx.out, HNa.out, HNb.out, ← msOf_len, ← msOf_len, ← msOf_len, EX.out, e1, List.length_append]
        subst hlx
        have ci := fun wx ha => ipostok_any (.slice ox (na + nb) cx) qX wx ha (HF1.out.smp EX.out)
        rw [EX.out, e1, ok1] at ci
        have EX1 : Hid (msOf qX = msOf qA ++ msOf qB) := by rw [Hid, EX.out, e1]
        clear e1 ok1
        go_wp2_with fail
        refine (ci _ (HS.out.rdP 9 rfl)).mono ?_
        rintro e w18 ⟨rfl, b⟩
        replace HS : Hid (Sta w w18 [PsI vW qW, Blk w12.heap.size 35 (mgA kV m), TkR vV qV kV m.h.ks, PsI vU qU, PsI (.slice oz nz cz) qZ, PsI (.slice oq nq cq) qQ, Blk w4.heap.size 35 (mgA kY m), TkR (.slice oy ny cy) qY kY m.h.ks, PsI (.slice op np cp) qP, PsI (.slice ox (na + nb) cx) qX, PpI (.slice oa na ca) qA (.slice ob nb cb) qB]) := HS.out.next b
        clear b ci
        obtain ⟨hxc, hxm, hxz⟩ := Hx.out
        unfold maxLen at hxm
        obtain ⟨hla, hlb, -, -⟩ := HL.out
        go_wp2_with fail
        have rt := RdP.take (HS.out.rdP 9 rfl) (Nat.le_add_right na nb)
        refine (likePost_eq _ _ _ qA _ rt (HS.out.get 10 rfl).1.rd (by rw [msOf_take, EX1.out, List.take_left' (by rw [msOf_len]; exact HNa.out.symm)]) (SmP.take (HF1.out.smp EX.out) na) (by rw [List.length_take]; omega)).mono ?_
        rintro e w19 ⟨rfl, b⟩
        replace HS : Hid (Sta w w19 [PsI vW qW, Blk w12.heap.size 35 (mgA kV m), TkR vV qV kV m.h.ks, PsI vU qU, PsI (.slice oz nz cz) qZ, PsI (.slice oq nq cq) qQ, Blk w4.heap.size 35 (mgA kY m), TkR (.slice oy ny cy) qY kY m.h.ks, PsI (.slice op np cp) qP, PsI (.slice ox (na + nb) cx) qX, PpI (.slice oa na ca) qA (.slice ob nb cb) qB]) := HS.out.next b
        clear b rt
        by_cases hcx : na = cx
        · subst hcx
          go_wp2_with fail
          refine (likePost_eq _ _ (qX.drop na) qB _ (RdP.drop (HS.out.rdP 9 rfl) (Nat.le_add_right na nb) (by omega) ⟨by omega, by unfold maxLen; omega, fun e => by have := hxz (by simpa using e); omega⟩ (fun hh => by first | rfl | (exfalso; omega))) (HS.out.get 10 rfl).2.rd (by rw [msOf_drop, EX1.out, List.drop_left' (by rw [msOf_len]; exact HNa.out.symm)]) (SmP.drop (HF1.out.smp EX.out) na) (by rw [List.length_drop]; have := HNx.out; omega)).mono ?_
          rintro e w20 ⟨rfl, b⟩
          replace HS : Hid (Sta w w20 [PsI vW qW, Blk w12.heap.size 35 (mgA kV m), TkR vV qV kV m.h.ks, PsI vU qU, PsI (.slice oz nz cz) qZ, PsI (.slice oq nq cq) qQ, Blk w4.heap.size 35 (mgA kY m), TkR (.slice oy ny cy) qY kY m.h.ks, PsI (.slice op np cp) qP, PsI (.slice ox (na + nb) na) qX, PpI (.slice oa na ca) qA (.slice ob nb cb) qB]) := HS.out.next b
          clear b
          go_wp2
          go_meet
          case rel => exact ⟨rfl, HS⟩
        · have hcx2 : ¬ cx = na := fun e => hcx e.symm
          go_wp2_with fail
          refine (likePost_eq _ _ (qX.drop na) qB _ (RdP.drop (HS.out.rdP 9 rfl) (Nat.le_add_right na nb) (by omega) ⟨by omega, by unfold maxLen; omega, fun e => by have := hxz (by simpa using e); omega⟩ (fun hh => by first | rfl | (exfalso; omega))) (HS.out.get 10 rfl).2.rd (by rw [msOf_drop, EX1.out, List.drop_left' (by rw [msOf_len]; exact HNa.out.symm)]) (SmP.drop (HF1.out.smp EX.out) na) (by rw [List.length_drop]; have := HNx.out; omega)).mono ?_
          rintro e w20 ⟨rfl, b⟩
          replace HS : Hid (Sta w w20 [PsI vW qW, Blk w12.heap.size 35 (mgA kV m), TkR vV qV kV m.h.ks, PsI vU qU, PsI (.slice oz nz cz) qZ, PsI (.slice oq nq cq) qQ, Blk w4.heap.size 35 (mgA kY m), TkR (.slice oy ny cy) qY kY m.h.ks, PsI (.slice op np cp) qP, PsI (.slice ox (na + nb) cx) qX, PpI (.slice oa na ca) qA (.slice ob nb cb) qB]) := HS.out.next b
          clear b
          go_wp2
          go_meet
          case rel => exact ⟨rfl, HS⟩
    case rest =>
      clear HS
      obtain ⟨rfl, HS'⟩ := hcut
      obtain ⟨w18, hw⟩ : ∃ x, x = wc := ⟨_, rfl⟩
      rw [← hw] at HS' ⊢
      have HS : Hid (Sta w w18 [PsI vW qW, Blk w12.heap.size 35 (mgA kV m), TkR vV qV kV m.h.ks, PsI vU qU, PsI (.slice oz nz cz) qZ, PsI (.slice oq nq cq) qQ, Blk w4.heap.size 35 (mgA kY m), TkR (.slice oy ny cy) qY kY m.h.ks, PsI (.slice op np cp) qP, PsI (.slice ox nx cx) qX, PpI (.slice oa na ca) qA (.slice ob nb cb) qB]) := HS'
      clear hw HS' wc
      go_upto_region 20 with fail
      go_cut [182] (fun t wx => t = .bool false ∧ Hid (Sta w wx [PsI vW qW, Blk w12.heap.size 35 (mgA kV m), TkR vV qV kV m.h.ks, PsI vU qU, PsI (.slice oz nz cz) qZ, PsI (.slice oq nq cq) qQ, Blk w4.heap.size 35 (mgA kY m), TkR (.slice oy ny cy) qY kY m.h.ks, PsI (.slice op np cp) qP, PsI (.slice ox nx cx) qX, PpI (.slice oa na ca) qA (.slice ob nb cb) qB]))
      case first =>
        cases t3 with
        | false =>
          go_quiet (fail)
          go_wp2
          go_meet
          case rel => exact ⟨rfl, HS.out.drew rfl⟩
        | true =>
          obtain ⟨⟨k0, k1⟩, e3⟩ := twice_yes (show (twiceP (msOf qQ) kq).2 = true by rw [← HR3.out]; exact HT3.out.symm)
          rw [← HR3.out] at e3
          obtain ⟨k, rfl⟩ : ∃ k : Nat, kq = k := ⟨kq.toNat, by omega⟩
          rw [Int.toNat_natCast] at e3
          rw [msOf_len, ← HNq.out] at k1
          have hlz : nz = nq + 1 := by rw [HNz.out, HNq.out, ← msOf_len, ← msOf_len, EZ.out, e3, List.length_append]; rfl
          have EZ3 : Hid (msOf qZ = msOf qQ ++ [(msOf qQ).getD k Mg.zero]) := by rw [Hid, EZ.out, e3]
          clear e3
          subst hlz
          have kn : k < nq := by omega
          obtain ⟨hqc, hqm, hqz⟩ := Hq.out
          obtain ⟨hzc, hzm, hzz⟩ := Hz.out
          unfold maxLen at hqm hzm
          obtain ⟨-, -, -, hlq⟩ := HL.out
          have rZ := (HS.out.rdP 4 rfl)
          have rQ := (HS.out.rdP 5 rfl)
          obtain ⟨bz, fz, uz, mz, hez, rfl, hrz, hcz⟩ := rZ.el.2.2.2 nq (by omega)
          obtain ⟨bq, fq, uq, mx, heq, rfl, hrq, hcq⟩ := rQ.el.2.2.2 k (by omega)
          have hmx : mz = mx := by
            have h1 := msOf_at hez
            have h2 := msOf_at heq
            rw [EZ3.out, List.getElem?_append_right (by rw [msOf_len, ← HNq.out]; exact Nat.le_refl _), msOf_len, ← HNq.out, Nat.sub_self] at h1
            simp only [List.getElem?_cons_zero, Option.some.injEq] at h1
            rw [← h1, List.getD, h2]
            rfl
          subst hmx
          have hmk : mz.h.ks.length ≤ 1048576 := (HFQ.out.smp rfl).at heq
          have CE : Hid (∀ wx, Below w18.heap.size w18 wx → Calls Try.prog 20 #[MgV uz mz, MgV uq mz] wx fun e w' => e = .returned (.bool true) ∧ Below wx.heap.size wx w') := fun wx bb => likeMsg_any uz uq mz wx (hrz.below bb (Nat.le_refl _)) (hrq.below bb (Nat.le_refl _)) hmk
          have CP : Hid (∀ wx, Below w18.heap.size w18 wx → Calls Try.prog 16 #[.slice (some ⟨bz, fz, none⟩) nq cz, .slice (some ⟨bq, fq, none⟩) nq cq] wx fun e w' => e = .returned (.bool true) ∧ Below wx.heap.size wx w') := fun wx bb => likePost_eq _ _ (qZ.take nq) qQ wx ((rZ.take (Nat.le_add_right nq 1)).below bb) (rQ.below bb) (by rw [msOf_take, EZ3.out, List.take_left' (by rw [msOf_len]; exact HNq.out.symm)]) (SmP.take (HF3.out.smp EZ.out) nq) (by rw [List.length_take]; omega)
          obtain ⟨C, hCd⟩ : ∃ C, C = fun x => Below w18.heap.size w18 x := ⟨_, rfl⟩
          have HQ : Hid (∀ x, C x → Below w18.heap.size w18 x) := by rw [hCd]; exact fun _ h => h
          have HN : Hid (∀ x y, C x → Later x y → C y) := by rw [hCd]; exact fun _ _ h b => h.trans (b.mono h.size)
          have H0 : Hid (C w18.drew) := by rw [hCd]; exact (Below.refl _ _).drew
          have hne : Nonempty (Kin C) := ⟨⟨_, H0.out⟩⟩
          clear hCd
          have ca_0 : ∀ x : Kin C, x.x.cell? ⟨bz, fz + nq * 11, none⟩ = some (.int .i64 mz.dst) := fun x => bel_cell (HQ.out _ x.h) (hcz 0 (by decide))
          have ca_1 : ∀ x : Kin C, x.x.cell? ⟨bz, fz + nq * 11 + 1, none⟩ = some (.int .i64 mz.kd) := fun x => bel_cell (HQ.out _ x.h) (hcz 1 (by decide))
          have ca_2 : ∀ x : Kin C, x.x.cell? ⟨bz, fz + nq * 11 + 2, none⟩ = some (.int .i64 mz.tr) := fun x => bel_cell (HQ.out _ x.h) (hcz 2 (by decide))
          have ca_3 : ∀ x : Kin C, x.x.cell? ⟨bz, fz + nq * 11 + 3, none⟩ = some (.int .i64 mz.pl) := fun x => bel_cell (HQ.out _ x.h) (hcz 3 (by decide))
          have ca_4 : ∀ x : Kin C, x.x.cell? ⟨bz, fz + nq * 11 + 4, none⟩ = some (.int .i64 mz.tn) := fun x => bel_cell (HQ.out _ x.h) (hcz 4 (by decide))
          have ca_5 : ∀ x : Kin C, x.x.cell? ⟨bz, fz + nq * 11 + 5, none⟩ = some (.int .i64 mz.va) := fun x => bel_cell (HQ.out _ x.h) (hcz 5 (by decide))
          have ca_6 : ∀ x : Kin C, x.x.cell? ⟨bz, fz + nq * 11 + 6, none⟩ = some (.int .i64 mz.ep) := fun x => bel_cell (HQ.out _ x.h) (hcz 6 (by decide))
          have ca_7 : ∀ x : Kin C, x.x.cell? ⟨bz, fz + nq * 11 + 7, none⟩ = some uz := fun x => bel_cell (HQ.out _ x.h) (hcz 7 (by decide))
          have ca_8 : ∀ x : Kin C, x.x.cell? ⟨bz, fz + nq * 11 + 8, none⟩ = some (.int .i64 mz.h.kd) := fun x => bel_cell (HQ.out _ x.h) (hcz 8 (by decide))
          have ca_9 : ∀ x : Kin C, x.x.cell? ⟨bz, fz + nq * 11 + 9, none⟩ = some (.int .i64 mz.h.ho) := fun x => bel_cell (HQ.out _ x.h) (hcz 9 (by decide))
          have ca_10 : ∀ x : Kin C, x.x.cell? ⟨bz, fz + nq * 11 + 10, none⟩ = some (.int .i64 mz.h.tu) := fun x => bel_cell (HQ.out _ x.h) (hcz 10 (by decide))
          have cb_0 : ∀ x : Kin C, x.x.cell? ⟨bq, fq + k * 11, none⟩ = some (.int .i64 mz.dst) := fun x => bel_cell (HQ.out _ x.h) (hcq 0 (by decide))
          have cb_1 : ∀ x : Kin C, x.x.cell? ⟨bq, fq + k * 11 + 1, none⟩ = some (.int .i64 mz.kd) := fun x => bel_cell (HQ.out _ x.h) (hcq 1 (by decide))
          have cb_2 : ∀ x : Kin C, x.x.cell? ⟨bq, fq + k * 11 + 2, none⟩ = some (.int .i64 mz.tr) := fun x => bel_cell (HQ.out _ x.h) (hcq 2 (by decide))
          have cb_3 : ∀ x : Kin C, x.x.cell? ⟨bq, fq + k * 11 + 3, none⟩ = some (.int .i64 mz.pl) := fun x => bel_cell (HQ.out _ x.h) (hcq 3 (by decide))
          have cb_4 : ∀ x : Kin C, x.x.cell? ⟨bq, fq + k * 11 + 4, none⟩ = some (.int .i64 mz.tn) := fun x => bel_cell (HQ.out _ x.h) (hcq 4 (by decide))
          have cb_5 : ∀ x : Kin C, x.x.cell? ⟨bq, fq + k * 11 + 5, none⟩ = some (.int .i64 mz.va) := fun x => bel_cell (HQ.out _ x.h) (hcq 5 (by decide))
          have cb_6 : ∀ x : Kin C, x.x.cell? ⟨bq, fq + k * 11 + 6, none⟩ = some (.int .i64 mz.ep) := fun x => bel_cell (HQ.out _ x.h) (hcq 6 (by decide))
          have cb_7 : ∀ x : Kin C, x.x.cell? ⟨bq, fq + k * 11 + 7, none⟩ = some uq := fun x => bel_cell (HQ.out _ x.h) (hcq 7 (by decide))
          have cb_8 : ∀ x : Kin C, x.x.cell? ⟨bq, fq + k * 11 + 8, none⟩ = some (.int .i64 mz.h.kd) := fun x => bel_cell (HQ.out _ x.h) (hcq 8 (by decide))
          have cb_9 : ∀ x : Kin C, x.x.cell? ⟨bq, fq + k * 11 + 9, none⟩ = some (.int .i64 mz.h.ho) := fun x => bel_cell (HQ.out _ x.h) (hcq 9 (by decide))
          have cb_10 : ∀ x : Kin C, x.x.cell? ⟨bq, fq + k * 11 + 10, none⟩ = some (.int .i64 mz.h.tu) := fun x => bel_cell (HQ.out _ x.h) (hcq 10 (by decide))
          clear hcz hcq hrz hrq hez heq hmk rZ rQ
          unfold MgV mgA at CE
          have hw1 : IntKind.i64.wrap ((nq : Int) + 1) = (nq : Int) + 1 := by rw [IntKind.wrap_i64]; omega
          have i1 : (nq : Int) < (nq : Int) + 1 := by omega
          have i2 : (k : Int) < (nq : Int) := by omega
          have i3 : (0 : Int) ≤ (k : Int) := by omega
          have i4 : (nq : Int) ≤ (cz : Int) := by omega
          have i5 : (0 : Int) ≤ (nq : Int) := by omega
          have hw2 : (((nq + 1 : Nat) : Int) != (nq : Int) + 1) = false := by simp
          refine wp_region_gs (C := C) (E := byDst fun d => if d = 170 then some (truth true) else if d = 179 then some (truth true) else none) (R := Later) HN.out (byDst_later (by intro d s hs u x y hx hl; split at hs; (cases hs; exact hx); split at hs; (cases hs; exact hx); cases hs)) (byDst_looks _ _) (by kernel_rfl) (by kernel_rfl) H0.out ?_
          iterate 9 (refine gs_plain rfl (fun K hK => ?_); go_simp; refine hK _ ?_; clear hK K)
          iterate 9 (refine gs_plain rfl (fun K hK => ?_); go_simp; refine hK _ ?_; clear hK K)
          refine gs_call (truth true) rfl (by first | rfl | kernel_rfl) (fun wq hB => ?_) (fun uu hu => ?_)
          · go_simp
            refine ⟨rfl, ?_⟩
            exact truth_of (fun _ b => b) (CE.out _ (HQ.out _ hB.1))
          subst hu
          iterate 8 (refine gs_plain rfl (fun K hK => ?_); go_simp; refine hK _ ?_; clear hK K)
          refine gs_call (truth true) rfl (by first | rfl | kernel_rfl) (fun wq hB => ?_) (fun uu hu => ?_)
          · go_simp
            refine ⟨rfl, ?_⟩
            exact truth_of (fun _ b => b) (CP.out _ (HQ.out _ hB.1))
          subst hu
          iterate 3 (refine gs_plain rfl (fun K hK => ?_); go_simp; refine hK _ ?_; clear hK K)
          refine gs_end (fun we hz => ?_)
          have HB : Hid (Below w18.heap.size w18 we) := HQ.out _ hz.1
          clear hz HQ HN H0 hne CE CP
          go_wp2
          go_meet
          case rel => exact ⟨rfl, HS.out.next HB.out⟩
      case rest =>
        clear HS
        obtain ⟨rfl, HS'⟩ := hcut
        obtain ⟨w19, hw⟩ : ∃ x, x = wc := ⟨_, rfl⟩
        rw [← hw] at HS' ⊢
        have HS : Hid (Sta w w19 [PsI vW qW, Blk w12.heap.size 35 (mgA kV m), TkR vV qV kV m.h.ks, PsI vU qU, PsI (.slice oz nz cz) qZ, PsI (.slice oq nq cq) qQ, Blk w4.heap.size 35 (mgA kY m), TkR (.slice oy ny cy) qY kY m.h.ks, PsI (.slice op np cp) qP, PsI (.slice ox nx cx) qX, PpI (.slice oa na ca) qA (.slice ob nb cb) qB]) := HS'
        clear hw HS' wc
        cases t2 with
        | false =>
          have tn := taken_no (show (takeP (msOf qP) at_).2.2 = false by rw [← HR2.out])
          rw [← HR2.out] at tn
          simp only at tn
          rcases tn with ⟨pk, e2⟩ | ⟨pk, e2, hne⟩
          · clear pk
            go_wp2_with fail
            refine (likePost_eq _ _ qY qP _ (HS.out.get 7 rfl).1.rd (HS.out.rdP 8 rfl) (by rw [EY.out, e2]) (HF2.out.1.smp EY.out) (Nat.le_trans (HF2.out.1.lenP EY.out) (by decide))).mono ?_
            rintro e w20 ⟨rfl, b⟩
            replace HS : Hid (Sta w w20 [PsI vW qW, Blk w12.heap.size 35 (mgA kV m), TkR vV qV kV m.h.ks, PsI vU qU, PsI (.slice oz nz cz) qZ, PsI (.slice oq nq cq) qQ, Blk w4.heap.size 35 (mgA kY m), TkR (.slice oy ny cy) qY kY m.h.ks, PsI (.slice op np cp) qP, PsI (.slice ox nx cx) qX, PpI (.slice oa na ca) qA (.slice ob nb cb) qB]) := HS.out.next b
            clear b e2
            go_wp2
            go_ret
            exact ⟨rfl, HS.out.below⟩
          · skip
            have hny : qY.length ≠ qP.length := by rw [← msOf_len, EY.out, e2]; rw [msOf_len] at hne; simpa using Ne.symm hne
            have hy0 : ny = 0 := by rw [HNy.out, ← msOf_len, EY.out, e2]; rfl
            subst hy0
            have cpo := fun wx ha => spostok_any (.slice op np cp) qP wx ha (HFP.out.smp rfl)
            rw [pk] at cpo
            clear pk e2 hne
            go_wp2_with fail
            refine (likePost_ne _ _ qY qP _ (HS.out.get 7 rfl).1.rd (HS.out.rdP 8 rfl) hny).mono ?_
            rintro e w20 ⟨rfl, b⟩
            replace HS : Hid (Sta w w20 [PsI vW qW, Blk w12.heap.size 35 (mgA kV m), TkR vV qV kV m.h.ks, PsI vU qU, PsI (.slice oz nz cz) qZ, PsI (.slice oq nq cq) qQ, Blk w4.heap.size 35 (mgA kY m), TkR (.slice oy 0 cy) qY kY m.h.ks, PsI (.slice op np cp) qP, PsI (.slice ox nx cx) qX, PpI (.slice oa na ca) qA (.slice ob nb cb) qB]) := HS.out.next b
            clear b hny
            go_wp2_with fail
            refine (cpo _ (HS.out.rdP 8 rfl)).mono ?_
            rintro e w21 ⟨rfl, b⟩
            replace HS : Hid (Sta w w21 [PsI vW qW, Blk w12.heap.size 35 (mgA kV m), TkR vV qV kV m.h.ks, PsI vU qU, PsI (.slice oz nz cz) qZ, PsI (.slice oq nq cq) qQ, Blk w4.heap.size 35 (mgA kY m), TkR (.slice oy 0 cy) qY kY m.h.ks, PsI (.slice op np cp) qP, PsI (.slice ox nx cx) qX, PpI (.slice oa na ca) qA (.slice ob nb cb) qB]) := HS.out.next b
            clear b cpo
            go_wp2
            go_ret
            exact ⟨rfl, HS.out.below⟩
        | true =>
          go_upto_region 24 with fail
          obtain ⟨⟨k0, k1⟩, e1, e2⟩ := taken_yes (show (takeP (msOf qP) at_).2.2 = true by rw [← HR2.out])
          rw [← HR2.out] at e1 e2
          simp only at e1 e2
          obtain ⟨k, rfl⟩ : ∃ k : Nat, at_ = k := ⟨at_.toNat, by omega⟩
          rw [Int.toNat_natCast] at e1 e2
          rw [msOf_len, ← HNp.out] at k1
          have kn : k < np := by omega
          have hly : ny = np - 1 := by rw [HNy.out, HNp.out, ← msOf_len, ← msOf_len, EY.out, e1, List.length_eraseIdx_of_lt (by rw [msOf_len, ← HNp.out]; exact kn)]
          have EY3 : Hid (msOf qY = (msOf qP).take k ++ (msOf qP).drop (k + 1)) := by rw [Hid, EY.out, e1, List.eraseIdx_eq_take_drop_succ]
          have EM : Hid (m = (msOf qP).getD k Mg.zero) := e2
          clear e1 e2
          subst hly
          obtain ⟨hyc, hym, hyz⟩ := Hy.out
          obtain ⟨hpc, hpm, hpz⟩ := Hp.out
          unfold maxLen at hym hpm
          obtain ⟨-, -, hlp, -⟩ := HL.out
          have rY := (HS.out.get 7 rfl).1.rd
          have rP := (HS.out.rdP 8 rfl)
          have rK := (HS.out.get 7 rfl).2.reads
          obtain ⟨bp, fp, up, mp, hep, rfl, hrp, hcp⟩ := rP.el.2.2.2 k (by omega)
          have hmp : mp = m := by
            rw [EM.out, List.getD, msOf_at hep]
            rfl
          subst hmp
          obtain ⟨C, hCd⟩ : ∃ C, C = fun x => Below w19.heap.size w19 x := ⟨_, rfl⟩
          have HQ : Hid (∀ x, C x → Below w19.heap.size w19 x) := by rw [hCd]; exact fun _ h => h
          have HN : Hid (∀ x y, C x → Later x y → C y) := by rw [hCd]; exact fun _ _ h b => h.trans (b.mono h.size)
          have H0 : Hid (C w19.drew) := by rw [hCd]; exact (Below.refl _ _).drew
          have hne : Nonempty (Kin C) := ⟨⟨_, H0.out⟩⟩
          clear hCd
          have CE : Hid (∀ wx, Below w19.heap.size w19 wx → Calls Try.prog 20 #[MgV kY mp, MgV up mp] wx fun e w' => e = .returned (.bool true) ∧ Below wx.heap.size wx w') := fun wx bb => likeMsg_any kY up mp wx (rK.below bb (Nat.le_refl _)) (hrp.below bb (Nat.le_refl _)) HF2.out.2
          have C1 : Hid (∀ wx, Below w19.heap.size w19 wx → Calls Try.prog 16 #[.slice oy k cy, .slice (some ⟨bp, fp, none⟩) k cp] wx fun e w' => e = .returned (.bool true) ∧ Below wx.heap.size wx w') := fun wx bb => likePost_eq _ _ (qY.take k) (qP.take k) wx ((rY.take (by omega)).below bb) ((rP.take (by omega)).below bb) (by rw [msOf_take, msOf_take, EY3.out, List.take_left' (by rw [List.length_take, msOf_len, ← HNp.out]; omega)]) (SmP.take (HF2.out.1.smp EY.out) k) (by rw [List.length_take]; omega)
          have C2 : Hid (∀ wx oy' cy' op' cp' n1 n2, n1 = np - 1 - k → n2 = np - (k + 1) → (n1 ≤ cy' ∧ cy' ≤ maxLen ∧ (oy' = none → cy' = 0)) → (n2 ≤ cp' ∧ cp' ≤ maxLen ∧ (op' = none → cp' = 0)) → (k < np - 1 → oy' = oy.map (·.add (k * 11))) → (k + 1 < np → op' = (some (⟨bp, fp, none⟩ : Addr)).map (·.add ((k + 1) * 11))) → Below w19.heap.size w19 wx → Calls Try.prog 16 #[.slice oy' n1 cy', .slice op' n2 cp'] wx fun e w' => e = .returned (.bool true) ∧ Below wx.heap.size wx w') := fun wx oy' cy' op' cp' n1 n2 g1 g2 g3 g4 g5 g6 bb => likePost_eq _ _ (qY.drop k) (qP.drop (k + 1)) wx ((rY.drop (by omega) g1 g3 g5).below bb) ((rP.drop (by omega) g2 g4 g6).below bb) (by rw [msOf_drop, msOf_drop, EY3.out, List.drop_left' (by rw [List.length_take, msOf_len, ← HNp.out]; omega)]) (SmP.drop (HF2.out.1.smp EY.out) k) (by rw [List.length_drop]; have := HNy.out; omega)
          have cc_0 : ∀ x : Kin C, x.x.cell? ⟨w4.heap.size, 0, none⟩ = some (.int .i64 mp.dst) := fun x => bel_cell (HQ.out _ x.h) (Blk.cell (HS.out.get 6 rfl) 0 rfl)
          have cc_1 : ∀ x : Kin C, x.x.cell? ⟨w4.heap.size, 1, none⟩ = some (.int .i64 mp.kd) := fun x => bel_cell (HQ.out _ x.h) (Blk.cell (HS.out.get 6 rfl) 1 rfl)
          have cc_2 : ∀ x : Kin C, x.x.cell? ⟨w4.heap.size, 2, none⟩ = some (.int .i64 mp.tr) := fun x => bel_cell (HQ.out _ x.h) (Blk.cell (HS.out.get 6 rfl) 2 rfl)
          have cc_3 : ∀ x : Kin C, x.x.cell? ⟨w4.heap.size, 3, none⟩ = some (.int .i64 mp.pl) := fun x => bel_cell (HQ.out _ x.h) (Blk.cell (HS.out.get 6 rfl) 3 rfl)
          have cc_4 : ∀ x : Kin C, x.x.cell? ⟨w4.heap.size, 4, none⟩ = some (.int .i64 mp.tn) := fun x => bel_cell (HQ.out _ x.h) (Blk.cell (HS.out.get 6 rfl) 4 rfl)
          have cc_5 : ∀ x : Kin C, x.x.cell? ⟨w4.heap.size, 5, none⟩ = some (.int .i64 mp.va) := fun x => bel_cell (HQ.out _ x.h) (Blk.cell (HS.out.get 6 rfl) 5 rfl)
          have cc_6 : ∀ x : Kin C, x.x.cell? ⟨w4.heap.size, 6, none⟩ = some (.int .i64 mp.ep) := fun x => bel_cell (HQ.out _ x.h) (Blk.cell (HS.out.get 6 rfl) 6 rfl)
          have cc_7 : ∀ x : Kin C, x.x.cell? ⟨w4.heap.size, 7, none⟩ = some kY := fun x => bel_cell (HQ.out _ x.h) (Blk.cell (HS.out.get 6 rfl) 7 rfl)
          have cc_8 : ∀ x : Kin C, x.x.cell? ⟨w4.heap.size, 8, none⟩ = some (.int .i64 mp.h.kd) := fun x => bel_cell (HQ.out _ x.h) (Blk.cell (HS.out.get 6 rfl) 8 rfl)
          have cc_9 : ∀ x : Kin C, x.x.cell? ⟨w4.heap.size, 9, none⟩ = some (.int .i64 mp.h.ho) := fun x => bel_cell (HQ.out _ x.h) (Blk.cell (HS.out.get 6 rfl) 9 rfl)
          have cc_10 : ∀ x : Kin C, x.x.cell? ⟨w4.heap.size, 10, none⟩ = some (.int .i64 mp.h.tu) := fun x => bel_cell (HQ.out _ x.h) (Blk.cell (HS.out.get 6 rfl) 10 rfl)
          have ce_0 : ∀ x : Kin C, x.x.cell? ⟨bp, fp + k * 11, none⟩ = some (.int .i64 mp.dst) := fun x => bel_cell (HQ.out _ x.h) (hcp 0 (by decide))
          have ce_1 : ∀ x : Kin C, x.x.cell? ⟨bp, fp + k * 11 + 1, none⟩ = some (.int .i64 mp.kd) := fun x => bel_cell (HQ.out _ x.h) (hcp 1 (by decide))
          have ce_2 : ∀ x : Kin C, x.x.cell? ⟨bp, fp + k * 11 + 2, none⟩ = some (.int .i64 mp.tr) := fun x => bel_cell (HQ.out _ x.h) (hcp 2 (by decide))
          have ce_3 : ∀ x : Kin C, x.x.cell? ⟨bp, fp + k * 11 + 3, none⟩ = some (.int .i64 mp.pl) := fun x => bel_cell (HQ.out _ x.h) (hcp 3 (by decide))
          have ce_4 : ∀ x : Kin C, x.x.cell? ⟨bp, fp + k * 11 + 4, none⟩ = some (.int .i64 mp.tn) := fun x => bel_cell (HQ.out _ x.h) (hcp 4 (by decide))
          have ce_5 : ∀ x : Kin C, x.x.cell? ⟨bp, fp + k * 11 + 5, none⟩ = some (.int .i64 mp.va) := fun x => bel_cell (HQ.out _ x.h) (hcp 5 (by decide))
          have ce_6 : ∀ x : Kin C, x.x.cell? ⟨bp, fp + k * 11 + 6, none⟩ = some (.int .i64 mp.ep) := fun x => bel_cell (HQ.out _ x.h) (hcp 6 (by decide))
          have ce_7 : ∀ x : Kin C, x.x.cell? ⟨bp, fp + k * 11 + 7, none⟩ = some up := fun x => bel_cell (HQ.out _ x.h) (hcp 7 (by decide))
          have ce_8 : ∀ x : Kin C, x.x.cell? ⟨bp, fp + k * 11 + 8, none⟩ = some (.int .i64 mp.h.kd) := fun x => bel_cell (HQ.out _ x.h) (hcp 8 (by decide))
          have ce_9 : ∀ x : Kin C, x.x.cell? ⟨bp, fp + k * 11 + 9, none⟩ = some (.int .i64 mp.h.ho) := fun x => bel_cell (HQ.out _ x.h) (hcp 9 (by decide))
          have ce_10 : ∀ x : Kin C, x.x.cell? ⟨bp, fp + k * 11 + 10, none⟩ = some (.int .i64 mp.h.tu) := fun x => bel_cell (HQ.out _ x.h) (hcp 10 (by decide))
          clear hcp hrp hep rY rP rK
          unfold MgV mgA at CE
          have i2 : (k : Int) < (np : Int) := by omega
          have i3 : (0 : Int) ≤ (k : Int) := by omega
          have i4 : (k : Int) ≤ (cy : Int) := by omega
          have i5 : (k : Int) ≤ (cp : Int) := by omega
          have i6 : k ≤ np - 1 := by omega
          have i7 : (k : Int) + 1 ≤ (np : Int) := by omega
          have i8 : (0 : Int) ≤ (k : Int) + 1 := by omega
          have i9 : (np : Int) ≤ (cp : Int) := by omega
          have i10 : k + 1 ≤ np := by omega
          have hw1 : IntKind.i64.wrap ((k : Int) + 1) = (k : Int) + 1 := by rw [IntKind.wrap_i64]; omega
          refine wp_region_gs (C := C) (E := byDst fun d => if d = 203 then some (truth true) else if d = 211 then some (truth true) else if d = 221 then some (truth true) else none) (R := Later) HN.out (byDst_later (by intro d s hs u x y hx hl; split at hs; (cases hs; exact hx); split at hs; (cases hs; exact hx); split at hs; (cases hs; exact hx); cases hs)) (byDst_looks _ _) (by kernel_rfl) (by kernel_rfl) H0.out ?_
          iterate 5 (refine gs_plain rfl (fun K hK => ?_); go_simp; refine hK _ ?_; clear hK K)
          refine gs_call (truth true) rfl (by first | rfl | kernel_rfl) (fun wq hB => ?_) (fun uu hu => ?_)
          · go_simp
            refine ⟨rfl, ?_⟩
            exact truth_of (fun _ b => b) (CE.out _ (HQ.out _ hB.1))
          subst hu
          iterate 7 (refine gs_plain rfl (fun K hK => ?_); go_simp; refine hK _ ?_; clear hK K)
          refine gs_call (truth true) rfl (by first | rfl | kernel_rfl) (fun wq hB => ?_) (fun uu hu => ?_)
          · go_simp
            refine ⟨rfl, ?_⟩
            exact truth_of (fun _ b => b) (C1.out _ (HQ.out _ hB.1))
          subst hu
          iterate 2 (refine gs_plain rfl (fun K hK => ?_); go_simp; refine hK _ ?_; clear hK K)
          iterate 3 (refine gs_plain rfl (fun K hK => ?_); go_simp; refine hK _ ?_; clear hK K)
          iterate 4 (refine gs_plain rfl (fun K hK => ?_); go_simp; refine hK _ ?_; clear hK K)
          refine gs_call (truth true) rfl (by first | rfl | kernel_rfl) (fun wq hB => ?_) (fun uu hu => ?_)
          · go_simp
            refine ⟨rfl, ?_⟩
            exact truth_of (fun _ b => b) (C2.out _ _ _ _ _ _ _ rfl rfl ⟨by omega, by unfold maxLen; omega, fun e => by split at e <;> first | (have := hyz e; omega) | (have := hyz (by simpa using e); omega)⟩ ⟨by omega, by unfold maxLen; omega, fun e => by split at e <;> cases e⟩ (fun h => if_neg (by omega)) (fun h => by rw [if_neg (by omega)]; simp [addr_add]) (HQ.out _ hB.1))
          subst hu
          iterate 2 (refine gs_plain rfl (fun K hK => ?_); go_simp; refine hK _ ?_; clear hK K)
          refine gs_end (fun we hz => ?_)
          have HB : Hid (Below w.heap.size w we) := HS.out.below.trans ((HQ.out _ hz.1).mono HS.out.below.size)
          clear hz HQ HN H0 hne CE C1 C2
          go_wp2
          all_goals
            go_ret
            exact ⟨rfl, HB.out⟩

set_option maxRecDepth 100000 in
theorem lifted (os : Os) (started : os.Started) (H : Type) (enc : TypeId × Value → H) :
    ReturnsInHanded {} Try.checked os 3 .any (Rows.fnPostSpec.pre6 enc Try.prog Try.f3 Rows.fnPostRow.domain false) (Rows.fnPostSpec.post enc Try.prog Try.f3 false true false false) := by
  refine returnsInHanded_of_change (C := Try.checked) own started (by kernel_rfl) Try.func3
    (ChangeSpec.witness6 (enc := enc) (C := Try.checked) false ⟨#[], #[.slice none 0 0], []⟩ 8 (by kernel_rfl) (by kernel_rfl) (by kernel_rfl) (by kernel_rfl)) ?_
  intro W base args ds gs before hval0 hW hcnd _
  have hval : ∀ (j : Nat) t v, Try.f3.params[j]? = some t → args[j]? = some v → Value.okWide Try.prog W .any base t v := hval0
  have hW' := hW
  obtain ⟨p, q, hA0, hV, rfl, hfz, hnd⟩ := hW
  have hA : DataW.TrodAll enc Try.prog W 0 (fun _ => true) true Try.f3.params.toList args.toList ds p := hA0
  rw [Try.params3] at hA hval
  obtain ⟨v0, vs0, d0, ds0, p0, q0, hargs, rfl, rfl, h0, r0⟩ := trodAll_cons hA
  obtain ⟨rfl, rfl, rfl⟩ := trodAll_nil r0
  obtain rfl : args = #[v0] := by cases args; simp_all
  obtain ⟨rfl, rfl⟩ := trodVars_none hV
  obtain ⟨a0, len0, cap0, rfl⟩ := okWide_slice Try.underlying22 (hval 0 22 v0 rfl rfl)
  have k0 := h0
  have lt0 : ∀ x ∈ p0, x.block < W.heap.size := by obtain ⟨m, hm⟩ := k0; exact DataW.trod_lt m _ _ _ hm
  obtain ⟨z0, w0⟩ : ∃ zs, IsRow .u8 W a0 len0 cap0 zs := by
    obtain ⟨fuel, hf⟩ := h0
    rcases open_ints Try.underlying22 Try.underlying5 (by kernel_rfl) hf with ⟨hcs, _⟩ | ⟨x, l, c, zs, hcs, _, hl, hm, hz, _, hcell, hwz⟩
    · simp [Value.cells] at hcs
      obtain ⟨rfl, rfl, rfl⟩ := hcs
      exact ⟨[], .inl ⟨rfl, rfl, rfl, rfl⟩⟩
    · simp [Value.cells] at hcs
      obtain ⟨rfl, rfl, rfl⟩ := hcs
      exact ⟨zs, .inr ⟨_, rfl, hl, hm, by simpa using hz, hcell, hwz⟩⟩
  clear hA0 hval0
  refine (walk a0 len0 cap0 z0 W w0).mono fun e W' ⟨he, bel⟩ => ?_
  subst he
  exact ⟨_, rfl, _, _, _, [], _, [], hW', trodAll_mk1 (shut_bool Try.underlying4 _), (trodAll_cons_mk (Below.trod laidOut (by kernel_rfl) (of_decide_eq_true (by kernel_rfl)) k0 bel lt0) trodAll_mk0), rfl, bel.frame _, fun h => by cases h⟩

theorem over : Rows.fnPostRow.holds Try.pinned (OpenSpec.ofChange Rows.fnPostSpec) :=
  OpenClaim.holds_of_wide 3 Try.f3 rfl rfl rfl rfl rfl rfl rfl ⟨rfl, rfl, rfl, rfl, rfl⟩ rfl rfl rfl rfl rfl (by kernel_rfl) Try.func3 (by kernel_rfl)
    (of_decide_eq_true (by kernel_rfl)) (by unfold Func.isWrapper; first | (rw [if_pos (by decide +kernel)]; kernel_rfl) | (rw [if_neg (by decide +kernel)]; exact ⟨rfl, rfl⟩))
    (fun os started H enc _ => lifted os started H enc)

theorem proved : Rows.FnPostSaid := over
end Go.Proofs.Ytjbfncjdedigdaa.fnPost
namespace Go.Proofs.Ytjbfncjdedigdaa
theorem fnPost_holds : Rows.FnPostSaid := fnPost.proved
end Go.Proofs.Ytjbfncjdedigdaa
