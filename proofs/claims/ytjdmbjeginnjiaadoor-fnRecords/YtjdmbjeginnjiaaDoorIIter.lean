/- The iterator of the program: wholeFrames hands back a function that gives each frame's text and where the frame ends. -/
import Derived.Test.YtjdmbjeginnjiaaDoorIFirst
import Derived.Test.YtjdmbjeginnjiaaDoorWhole
import Derived.RangeFuncNested
import Derived.RangeFuncBox
import Derived.RangeFuncCalls
import Derived.RangeFuncLeaves
import Derived.Shelf.Abstract
import Derived.OwnWalkIn
import Derived.TacticsInMore
import Derived.LoopNIn
import Derived.LoopIn
import Derived.Maps.OwnIn
namespace Go.Proofs.YtjdmbjeginnjiaaDoor
open Go.ChangeShapes Go.WideShapes Go.ChangeAt Go.RowKit
attribute [local go_sem] Oper.semAt_some

def Keep (Bn n0 : Nat) (W W' : World) : Prop := (∀ v, W.cell? ⟨Bn, 0, none⟩ = some v → W'.cell? ⟨Bn, 0, none⟩ = some v) ∧ Below n0 W W'
theorem Keep.trans {Bn n0 : Nat} {A B C : World} (h : Keep Bn n0 A B) (k : Keep Bn n0 B C) : Keep Bn n0 A C := ⟨fun v hv => k.1 v (h.1 v hv), h.2.trans k.2⟩
theorem Keep.book {Bn n0 : Nat} {w : World} (hn : n0 ≤ w.heap.size) (W : World) (l : Nat) (o o' : Obj) (hl : w.heap.size ≤ l) (h : W.heap[l]? = some o) (h1 : o.isCells = false) (h2 : o.isWalk = false) : Keep Bn n0 W (W.putObj l o') :=
  ⟨fun v hv => cell_kept hv (grownBy_putObj' W l o') (fun r e => by cases e; exact ⟨o, h, h1⟩), belowK_b hn W l o o' hl h h1 h2⟩
theorem grown_of_below {w w' : World} (h : Below w.heap.size w w') (row : Option Nat) : w.grownBy w' row := ⟨h.os, h.tape, h.output, h.size, fun k hk _ => h.block k hk⟩

set_option maxRecDepth 20000 in
set_option maxHeartbeats 1000000 in
theorem iclone_any (l : Bs) (w : World) (hl : l.length ≤ 1048576) :
    Calls Tryd.prog 32 #[S l] w fun e w' => e = .returned (S l) ∧ Below w.heap.size w w' := by
  have hsz : (⟨l.toArray⟩ : ByteArray).size = l.length := rfl
  have c0 := Tryd.stringslite_Clone ⟨l.toArray⟩ w (by omega)
  unfold S
  go_enter Tryd.func32, Tryd.ntmps32
  go_wp2_with fail
  refine c0.mono ?_
  rintro e w1 ⟨rfl, b1⟩
  clear c0
  go_wp2_with fail
  go_ret
  exact ⟨rfl, b1⟩

set_option maxRecDepth 100000 in
set_option maxHeartbeats 2000000 in
theorem iter_in (n : Nat) (hn : 1 ≤ n) (l Bn n0 : Nat) (s : Bs) (hl : s.length ≤ 1048576) (J Jx : List (Bs × Nat) → World → Prop)
    (W : World) (hJ : AbidesFrom W.heap.size J) (hBn : W.cell? ⟨Bn, 0, none⟩ = some (S s)) (ht : ∀ W', Below n0 W W' → Tab W') (hn0 : n0 ≤ W.heap.size)
    (hY : ∀ pre x W1, J pre W1 → pre.length < (wholeE s).length → x.1.length ≤ 1048576 → x.2 ≤ 1048576 → YieldAt Fence.wide (n - 1) Tryd.prog l #[S x.1, .int .i64 (x.2 : Nat)] W1 fun e W' =>
      (e = .returned (.bool true) ∧ J (pre ++ [x]) W' ∧ Keep Bn n0 W1 W') ∨ (e = .returned (.bool false) ∧ Jx (pre ++ [x]) W')) (h0 : J [] W) :
    CallsIn Fence.wide n Tryd.prog 55 #[.func (.yield l) #[] #[], .pointer (some ⟨Bn, 0, none⟩)] W fun e W' => (∃ v, e = .returned v) ∧
      ((∃ ys, ys = wholeE s ∧ J ys W') ∨ (∃ pre : List (Bs × Nat), True ∧ Jx pre W')) := by
  have hsz : (⟨s.toArray⟩ : ByteArray).size = s.length := rfl
  refine callsIn_of_wp Tryd.func55 rfl trivial ?_ rfl
  simp only [Tryd.ntmps55, List.size_toArray, List.length_cons, List.length_nil, Nat.reduceAdd, Nat.reduceSub, Array.replicate_succ, Array.replicate_zero, List.push_toArray, List.append_toArray, List.nil_append, List.cons_append]
  gi_wp2
  gi_loopw [3, 6] (fun e k wr => ∃ (a : Nat) (pre : List (Bs × Nat)), e = .int .i64 a ∧ k = .int .i64 pre.length ∧ (a : Int) ≤ s.length ∧ (pre.length : Int) ≤ 2000 ∧ Hid (J pre wr ∧ wr.cell? ⟨Bn, 0, none⟩ = some (S s) ∧ Below n0 W wr ∧ EInv s pre a)) (fun _ k _ => 2000 - (intOf k).toNat)
  case atStart => exact ⟨0, [], rfl, rfl, by omega, by simp, h0, hBn, Below.refl _ _, EInv.start s⟩
  case round =>
    obtain ⟨a, pre, rfl, rfl, ha, hp, HR⟩ := hrel
    by_cases hlt : (pre.length : Int) < 2000
    · have hex := extract_cut s a s.length
      have e0 : cutB s a s.length = s.drop a := by simp [cutB]
      rw [e0] at hex
      have hc := HR.out.2.1
      have c1 := ifirst_any (s.drop a) wr (by simp; omega) (ht wr HR.out.2.2.1)
      have hfl := firstB_le (s.drop a)
      have hdl : (s.drop a).length = s.length - a := by simp
      have HN : Hid ((firstB (s.drop a)).2 ≠ 0 → _) := fun h => HR.out.2.2.2.next (by omega) h
      have HZ : Hid ((firstB (s.drop a)).2 = 0 → _) := fun h => HR.out.2.2.2.stop (.inl h)
      obtain ⟨q, hq⟩ : ∃ q, q = s.drop a := ⟨_, rfl⟩
      rw [← hq] at hex c1 hfl hdl HN HZ
      obtain ⟨t, hte⟩ : ∃ t, t = (firstB q).1 := ⟨_, rfl⟩
      obtain ⟨m, hm⟩ : ∃ m, m = (firstB q).2 := ⟨_, rfl⟩
      rw [← hte, ← hm] at c1 HN
      rw [← hm] at hfl HZ
      unfold S at c1 hc
      clear e0 hq hm
      gi_wp2_with fail
      refine ⟨trivial, (callsIn_wide.2 c1).mono ?_⟩
      rintro e w1 ⟨rfl, b1⟩
      have HR1 : Hid (J pre w1 ∧ w1.cell? ⟨Bn, 0, none⟩ = some (S s) ∧ Below n0 W w1) := ⟨hJ pre wr w1 none HR.out.1 (grown_of_below b1 none) (fun r h => by cases h), (grown_of_below b1 none).cell HR.out.2.1 (by simp), HR.out.2.2.1.trans (b1.mono (Nat.le_trans hn0 HR.out.2.2.1.size))⟩
      clear b1 c1 hc HR
      by_cases hm0 : m = 0
      · subst hm0
        have HF := HZ.out rfl
        gi_wp2_with fail
        refine bodyPost_ret (results_none rfl _ _ _) rfl ?_
        exact ⟨⟨_, rfl⟩, .inl ⟨pre, HF, HR1.out.1⟩⟩
      · have h0' : ((m : Int) == 0) = false := by simpa using hm0
        have htl : t.length ≤ 1048576 := by
          have := firstB_text_len q
          rw [hte]; omega
        have c2 := iclone_any t w1 htl
        unfold S at c2
        obtain ⟨HI, hlen⟩ := HN.out hm0
        have HI' : Hid (EInv s (pre ++ [(t, a + m)]) (a + m)) := HI
        clear HI HN HZ hte hex
        gi_wp2_with fail
        refine ⟨trivial, (callsIn_wide.2 c2).mono ?_⟩
        rintro e w2 ⟨rfl, b2⟩
        have HR2 : Hid (J pre w2 ∧ w2.cell? ⟨Bn, 0, none⟩ = some (S s) ∧ Below n0 W w2) := ⟨hJ pre w1 w2 none HR1.out.1 (grown_of_below b2 none) (fun r h => by cases h), (grown_of_below b2 none).cell HR1.out.2.1 (by simp), HR1.out.2.2.trans (b2.mono (Nat.le_trans hn0 HR1.out.2.2.size))⟩
        clear b2 c2 HR1
        obtain ⟨fn, tmps, assign, body, hy, hR⟩ := hY pre (t, a + m) w2 HR2.out.1 hlen htl (by dsimp only; omega)
        dsimp only at hy
        unfold S at hy
        have hcast : ((a + m : Nat) : Int) = (a : Int) + (m : Int) := by omega
        rw [hcast] at hy
        gi_wp2
        refine hR.mono ?_
        rintro e W3 (⟨rfl, hJ3, hk3⟩ | ⟨rfl, hJx3⟩)
        · have HR3 : Hid (J (pre ++ [(t, a + m)]) W3 ∧ W3.cell? ⟨Bn, 0, none⟩ = some (S s) ∧ Below n0 W W3 ∧ EInv s (pre ++ [(t, a + m)]) (a + m)) := ⟨hJ3, hk3.1 _ HR2.out.2.1, HR2.out.2.2.trans hk3.2, HI'.out⟩
          clear hJ3 hk3 HR2 hy hR
          gi_wp2
          go_roundw
          case rel => exact ⟨a + m, pre ++ [(t, a + m)], by go_num, by simp, by omega, by simp; omega, HR3⟩
          case measure => simp [intOf]; omega
        · gi_wp2
          refine bodyPost_ret (results_none rfl _ _ _) rfl ?_
          exact ⟨⟨_, rfl⟩, .inr ⟨_, trivial, hJx3⟩⟩
    · have HF : Hid (pre = wholeE s) := HR.out.2.2.2.stop (.inr (by omega))
      gi_wp2
      go_end0
      exact ⟨⟨_, rfl⟩, .inl (by have h := HR.out.1; rwa [HF.out] at h)⟩
end Go.Proofs.YtjdmbjeginnjiaaDoor
