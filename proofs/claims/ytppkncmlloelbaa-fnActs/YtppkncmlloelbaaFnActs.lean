/- At every list of bytes the law FnActs returns true: who is not registered changes nothing of what is held, but by registering; and the program answers as the model. -/
import Derived.Test.YtppkncmlloelbaaRows
import Derived.WalkKit
import Derived.ProofKit
import Derived.OpenShut
import Derived.ShutString
import Derived.ChangeOld
import Derived.Below
import Derived.Test.YtppkncmlloelbaaDrawSets
import Derived.Test.YtppkncmlloelbaaDrawAct
import Derived.Test.YtppkncmlloelbaaActSta
import Derived.Test.YtppkncmlloelbaaActLaws2
import Derived.Test.YtppkncmlloelbaaLikeHold
import Derived.Test.YtppkncmlloelbaaIAct
import Derived.Test.YtppkncmlloelbaaIHold2
import Derived.Test.YtppkncmlloelbaaSHold2
namespace Go.Proofs.Ytppkncmlloelbaa.fnActs
open Go.ChangeShapes Go.WideShapes Go.ChangeAt Go.RowKit
open Go.ChangeMaps (open_string shut_string)
set_option linter.unusedVariables false

theorem own : ownKnob Try.prog.godebug = none := by kernel_rfl
theorem laidOut : laidOutB Try.prog = true := by kernel_rfl

def IsRow (k : IntKind) (w : World) (a : Option Addr) (len cap : Nat) (zs : List Int) : Prop :=
  (a = none ∧ len = 0 ∧ cap = 0 ∧ zs = []) ∨
  ∃ x, a = some x ∧ len ≤ cap ∧ cap ≤ maxLen ∧ zs.length = cap ∧ (∀ i, i < zs.length → w.cell? (x.add i) = some (.int k (zs.getD i 0))) ∧ ∀ n ∈ zs, (Lit.int k n).wf = true

set_option maxRecDepth 20000 in
set_option maxHeartbeats 8000000 in
theorem walk (a0 : Option Addr) (len0 cap0 : Nat) (z0 : List Int) (w : World) (w0 : IsRow .u8 w a0 len0 cap0 z0) :
    Calls Try.prog 4 #[.slice a0 len0 cap0] w fun e w' => e = .returned (.bool true) ∧ Below w.heap.size w w' := by
  by_cases hbig : (4096 : Int) < (len0 : Int)
  · go_enter Try.func4, Try.ntmps4
    go_wp2_with (go_at_call 12; refine (big_any _ _ _ _).mono ?_; rintro e w' ⟨rfl, hw'⟩; subst w')
    go_ret
    exact ⟨rfl, Below.refl _ _⟩
  · have HC : Hid (CodeOk w w.heap.size (.slice a0 len0 cap0)) := codeOk_row w0 (by omega)
    clear w0
    have HS : Hid (FL w w []) := FL.start w
    go_enter Try.func4, Try.ntmps4
    go_wp2_with fail
    refine (big_any _ _ _ _).mono ?_
    rintro e w' ⟨rfl, hw'⟩; subst w'
    go_wp2_with fail
    refine (drawRes_any w.heap.size _ _ (HC.out.below HS.out.1) HS.out.1.size ).mono ?_
    rintro e a1 ⟨h, u_h, x, kind, rfl, D1, B1⟩
    have l_h : h.ks.length ≤ 1099511627776 := by have := D1.2.2; omega
    have RR : Hid (Reads a1 u_h h.ks) := D1.1
    replace HS : Hid (FL w a1 []) := HS.out.next B1
    clear D1 B1
    have zz : Hid (StB (a1.alloc (.cells zHd 26)) a1.heap.size 26 zHd) := StB.new _ _ _
    go_upto_region 4 with (first | (refine wpList_putS Try.isH rfl _ _ rfl a1.heap.size (hdA u_h h) zHd rfl rfl rfl rfl (hdA_one _ (reads_one RR.out)) zz.out ?_; intro a2 hh gg))
    replace HS : Hid (FL w a2 [(a1.heap.size, u_h, h)]) := HS.out.new RR.out hh gg
    clear hh gg zz RR
    go_wp2_with fail
    refine (drawPre_any w.heap.size _ _ (HC.out.below HS.out.1) HS.out.1.size ).mono ?_
    rintro e a3 ⟨a, u_a, b, key, last, rfl, D1, B1⟩
    have l_a : a.ks.length ≤ 1099511627776 := by have := D1.2.2; omega
    have RR : Hid (Reads a3 u_a a.ks) := D1.1
    replace HS : Hid (FL w a3 [(a1.heap.size, u_h, h)]) := HS.out.next B1
    clear D1 B1
    have zz : Hid (StB (a3.alloc (.cells zHd 26)) a3.heap.size 26 zHd) := StB.new _ _ _
    go_upto_region 5 with (first | (refine wpList_putS Try.isH rfl _ _ rfl a3.heap.size (hdA u_a a) zHd rfl rfl rfl rfl (hdA_one _ (reads_one RR.out)) zz.out ?_; intro a4 hh gg))
    replace HS : Hid (FL w a4 [(a3.heap.size, u_a, a), (a1.heap.size, u_h, h)]) := HS.out.new RR.out hh gg
    clear hh gg zz RR
    obtain ⟨y, j, h_y⟩ : ∃ y j, a.preempt b key last = (y, j) := ⟨_, _, rfl⟩
    have l_y : y.ks.length ≤ 1099511627776 := by have := preempt_len a b key last; rw [h_y] at this; dsimp only at this; omega
    have di := fun u w' (hr : Reads w' u a.ks) => ipreempt_any u a b key last w' hr l_a
    simp only [h_y] at di
    unfold Ans at di
    dsimp only at di
    have ds := fun u w' (hr : Reads w' u a.ks) => spreempt_any u a b key last w' hr l_a
    simp only [h_y] at ds
    unfold Ans at ds
    dsimp only at ds
    have e_j : (j != j) = false := by simp
    have H_y : Hid (a.preempt b key last = (y, j)) := h_y
    have lk_y := fun u v w' (hu : Reads w' u y.ks) (hv : Reads w' v y.ks) => likeH_any u v y y w' hu hv l_y
    simp only [likeH_same] at lk_y
    clear h_y
    have p_a_0 : a4.cell? ⟨a3.heap.size, 0, none⟩ = some (u_a) := HS.out.cell 0 rfl 0 rfl
    have p_a_1 : a4.cell? ⟨a3.heap.size, 1, none⟩ = some (.int .i64 a.kd) := HS.out.cell 0 rfl 1 rfl
    have p_a_2 : a4.cell? ⟨a3.heap.size, 2, none⟩ = some (.int .i64 a.ho) := HS.out.cell 0 rfl 2 rfl
    have p_a_3 : a4.cell? ⟨a3.heap.size, 3, none⟩ = some (.int .i64 a.tu) := HS.out.cell 0 rfl 3 rfl
    go_wp2_with fail
    refine (di _ _ (HS.out.rd 0 rfl)).mono ?_
    rintro e a5 ⟨u_p, rfl, O1, B1⟩
    have RR : Hid (Reads a5 u_p y.ks) := O1.reads
    replace HS : Hid (FL w a5 [(a3.heap.size, u_a, a), (a1.heap.size, u_h, h)]) := HS.out.next B1
    clear O1 B1 p_a_0 p_a_1 p_a_2 p_a_3
    have zz : Hid (StB (a5.alloc (.cells zHd 26)) a5.heap.size 26 zHd) := StB.new _ _ _
    go_upto_region 6 with (first | (refine wpList_putS Try.isH rfl _ _ rfl a5.heap.size (hdA u_p y) zHd rfl rfl rfl rfl (hdA_one _ (reads_one RR.out)) zz.out ?_; intro a6 hh gg))
    replace HS : Hid (FL w a6 [(a5.heap.size, u_p, y), (a3.heap.size, u_a, a), (a1.heap.size, u_h, h)]) := HS.out.new RR.out hh gg
    clear hh gg zz RR
    have p_a_0 : a6.cell? ⟨a3.heap.size, 0, none⟩ = some (u_a) := HS.out.cell 1 rfl 0 rfl
    have p_a_1 : a6.cell? ⟨a3.heap.size, 1, none⟩ = some (.int .i64 a.kd) := HS.out.cell 1 rfl 1 rfl
    have p_a_2 : a6.cell? ⟨a3.heap.size, 2, none⟩ = some (.int .i64 a.ho) := HS.out.cell 1 rfl 2 rfl
    have p_a_3 : a6.cell? ⟨a3.heap.size, 3, none⟩ = some (.int .i64 a.tu) := HS.out.cell 1 rfl 3 rfl
    go_wp2_with fail
    refine (ds _ _ (HS.out.rd 1 rfl)).mono ?_
    rintro e a7 ⟨u_y1, rfl, O1, B1⟩
    have RR : Hid (Reads a7 u_y1 y.ks) := O1.reads
    replace HS : Hid (FL w a7 [(a5.heap.size, u_p, y), (a3.heap.size, u_a, a), (a1.heap.size, u_h, h)]) := HS.out.next B1
    clear O1 B1 p_a_0 p_a_1 p_a_2 p_a_3
    have zz : Hid (StB (a7.alloc (.cells zHd 26)) a7.heap.size 26 zHd) := StB.new _ _ _
    go_upto_region 7 with (first | (refine wpList_putS Try.isH rfl _ _ rfl a7.heap.size (hdA u_y1 y) zHd rfl rfl rfl rfl (hdA_one _ (reads_one RR.out)) zz.out ?_; intro a8 hh gg))
    replace HS : Hid (FL w a8 [(a7.heap.size, u_y1, y), (a5.heap.size, u_p, y), (a3.heap.size, u_a, a), (a1.heap.size, u_h, h)]) := HS.out.new RR.out hh gg
    clear hh gg zz RR
    clear di ds HC
    have p_p_0 : a8.cell? ⟨a5.heap.size, 0, none⟩ = some (u_p) := HS.out.cell 1 rfl 0 rfl
    have p_p_1 : a8.cell? ⟨a5.heap.size, 1, none⟩ = some (.int .i64 y.kd) := HS.out.cell 1 rfl 1 rfl
    have p_p_2 : a8.cell? ⟨a5.heap.size, 2, none⟩ = some (.int .i64 y.ho) := HS.out.cell 1 rfl 2 rfl
    have p_p_3 : a8.cell? ⟨a5.heap.size, 3, none⟩ = some (.int .i64 y.tu) := HS.out.cell 1 rfl 3 rfl
    have p_y1_0 : a8.cell? ⟨a7.heap.size, 0, none⟩ = some (u_y1) := HS.out.cell 0 rfl 0 rfl
    have p_y1_1 : a8.cell? ⟨a7.heap.size, 1, none⟩ = some (.int .i64 y.kd) := HS.out.cell 0 rfl 1 rfl
    have p_y1_2 : a8.cell? ⟨a7.heap.size, 2, none⟩ = some (.int .i64 y.ho) := HS.out.cell 0 rfl 2 rfl
    have p_y1_3 : a8.cell? ⟨a7.heap.size, 3, none⟩ = some (.int .i64 y.tu) := HS.out.cell 0 rfl 3 rfl
    go_wp2_with fail
    refine (lk_y _ _ _ (HS.out.rd 1 rfl) (HS.out.rd 0 rfl)).mono ?_
    rintro e a9 ⟨rfl, bb8⟩
    replace HS : Hid (FL w a9 [(a7.heap.size, u_y1, y), (a5.heap.size, u_p, y), (a3.heap.size, u_a, a), (a1.heap.size, u_h, h)]) := HS.out.next bb8
    clear bb8 p_p_0 p_p_1 p_p_2 p_p_3 p_y1_0 p_y1_1 p_y1_2 p_y1_3
    go_upto_region 9 with fail
    clear H_y lk_y l_y l_a e_j
    replace HS : Hid (FL w a9 [(a1.heap.size, u_h, h)]) := HS.out.sub (.cons _ (.cons _ (.cons _ (.cons_cons _ (.slnil)))))
    have co := fun u w' (hr : Reads w' u h.ks) => sholdok_any u h w' hr l_h
    have cr := fun u w' (hr : Reads w' u h.ks) => sReg_any u h x w' hr l_h
    rcases Bool.eq_false_or_eq_true h.ok with hok | hok
    all_goals simp only [hok] at co
    · rcases Bool.eq_false_or_eq_true (h.Reg x) with hr | hr
      all_goals simp only [hr] at cr
      · have p_h_0 : a9.cell? ⟨a1.heap.size, 0, none⟩ = some (u_h) := HS.out.cell 0 rfl 0 rfl
        have p_h_1 : a9.cell? ⟨a1.heap.size, 1, none⟩ = some (.int .i64 h.kd) := HS.out.cell 0 rfl 1 rfl
        have p_h_2 : a9.cell? ⟨a1.heap.size, 2, none⟩ = some (.int .i64 h.ho) := HS.out.cell 0 rfl 2 rfl
        have p_h_3 : a9.cell? ⟨a1.heap.size, 3, none⟩ = some (.int .i64 h.tu) := HS.out.cell 0 rfl 3 rfl
        go_wp2_with fail
        refine (co _ _ (HS.out.rd 0 rfl)).mono ?_
        rintro e a10 ⟨rfl, bb9⟩
        replace HS : Hid (FL w a10 [(a1.heap.size, u_h, h)]) := HS.out.next bb9
        clear bb9 p_h_0 p_h_1 p_h_2 p_h_3
        have p_h_0 : a10.cell? ⟨a1.heap.size, 0, none⟩ = some (u_h) := HS.out.cell 0 rfl 0 rfl
        have p_h_1 : a10.cell? ⟨a1.heap.size, 1, none⟩ = some (.int .i64 h.kd) := HS.out.cell 0 rfl 1 rfl
        have p_h_2 : a10.cell? ⟨a1.heap.size, 2, none⟩ = some (.int .i64 h.ho) := HS.out.cell 0 rfl 2 rfl
        have p_h_3 : a10.cell? ⟨a1.heap.size, 3, none⟩ = some (.int .i64 h.tu) := HS.out.cell 0 rfl 3 rfl
        go_wp2_with fail
        refine (cr _ _ (HS.out.rd 0 rfl)).mono ?_
        rintro e a11 ⟨rfl, bb10⟩
        replace HS : Hid (FL w a11 [(a1.heap.size, u_h, h)]) := HS.out.next bb10
        clear bb10 p_h_0 p_h_1 p_h_2 p_h_3
        have HB : Hid (Below w.heap.size w _) := HS.out.1
        clear HS
        go_wp2
        go_ret
        exact ⟨rfl, HB.out⟩
      · have p_h_0 : a9.cell? ⟨a1.heap.size, 0, none⟩ = some (u_h) := HS.out.cell 0 rfl 0 rfl
        have p_h_1 : a9.cell? ⟨a1.heap.size, 1, none⟩ = some (.int .i64 h.kd) := HS.out.cell 0 rfl 1 rfl
        have p_h_2 : a9.cell? ⟨a1.heap.size, 2, none⟩ = some (.int .i64 h.ho) := HS.out.cell 0 rfl 2 rfl
        have p_h_3 : a9.cell? ⟨a1.heap.size, 3, none⟩ = some (.int .i64 h.tu) := HS.out.cell 0 rfl 3 rfl
        go_wp2_with fail
        refine (co _ _ (HS.out.rd 0 rfl)).mono ?_
        rintro e a12 ⟨rfl, bb11⟩
        replace HS : Hid (FL w a12 [(a1.heap.size, u_h, h)]) := HS.out.next bb11
        clear bb11 p_h_0 p_h_1 p_h_2 p_h_3
        have p_h_0 : a12.cell? ⟨a1.heap.size, 0, none⟩ = some (u_h) := HS.out.cell 0 rfl 0 rfl
        have p_h_1 : a12.cell? ⟨a1.heap.size, 1, none⟩ = some (.int .i64 h.kd) := HS.out.cell 0 rfl 1 rfl
        have p_h_2 : a12.cell? ⟨a1.heap.size, 2, none⟩ = some (.int .i64 h.ho) := HS.out.cell 0 rfl 2 rfl
        have p_h_3 : a12.cell? ⟨a1.heap.size, 3, none⟩ = some (.int .i64 h.tu) := HS.out.cell 0 rfl 3 rfl
        go_wp2_with fail
        refine (cr _ _ (HS.out.rd 0 rfl)).mono ?_
        rintro e a13 ⟨rfl, bb12⟩
        replace HS : Hid (FL w a13 [(a1.heap.size, u_h, h)]) := HS.out.next bb12
        clear bb12 p_h_0 p_h_1 p_h_2 p_h_3
        clear co cr
        have c1 := fun u w' (hr : Reads w' u h.ks) => ireserve_any u h x kind w' hr l_h
        have c2 := fun u w' (hr : Reads w' u h.ks) => irelease_any u h x w' hr l_h
        have c3 := fun u w' (hr : Reads w' u h.ks) => iclear_any u h x w' hr l_h
        have c4 := fun u w' (hr : Reads w' u h.ks) => ipreempt_any u h x 1 2 w' hr l_h
        go_upto_region 11 with fail
        rcases Bool.eq_false_or_eq_true (inI x 0 3) with hin | hin
        · obtain ⟨A1, A2, A3, A4⟩ := acts_none hok hr hin kind 1 2 (by decide) (by decide)
          have hx := (inI_iff _ _ _).1 hin
          obtain ⟨x0, x1⟩ := hx
          have lk := fun u v w' (hu : Reads w' u h.ks) (hv : Reads w' v h.ks) => likeH_any u v h h w' hu hv l_h
          simp only [likeH_same] at lk
          simp only [A2] at c2
          simp only [A3] at c3
          simp only [A4] at c4
          rcases Bool.eq_false_or_eq_true (kiI kind) with hk | hk
          all_goals simp only [A1, hk, if_true, Bool.false_eq_true, if_false] at c1
          all_goals clear A1 A2 A3 A4 hok hr hin
          all_goals unfold Ans at c1 c2 c3 c4
          all_goals dsimp only at c1 c2 c3 c4
          · clear hk
            have p_h_0 : a13.cell? ⟨a1.heap.size, 0, none⟩ = some (u_h) := HS.out.cell 0 rfl 0 rfl
            have p_h_1 : a13.cell? ⟨a1.heap.size, 1, none⟩ = some (.int .i64 h.kd) := HS.out.cell 0 rfl 1 rfl
            have p_h_2 : a13.cell? ⟨a1.heap.size, 2, none⟩ = some (.int .i64 h.ho) := HS.out.cell 0 rfl 2 rfl
            have p_h_3 : a13.cell? ⟨a1.heap.size, 3, none⟩ = some (.int .i64 h.tu) := HS.out.cell 0 rfl 3 rfl
            go_wp2_with fail
            refine (c1 _ _ (HS.out.rd 0 rfl)).mono ?_
            rintro e a14 ⟨u_r1, rfl, O1, B1⟩
            have RR : Hid (Reads a14 u_r1 h.ks) := O1.reads
            replace HS : Hid (FL w a14 [(a1.heap.size, u_h, h)]) := HS.out.next B1
            clear O1 B1 p_h_0 p_h_1 p_h_2 p_h_3
            have zz : Hid (StB (a14.alloc (.cells zHd 26)) a14.heap.size 26 zHd) := StB.new _ _ _
            go_upto_region 12 with (first | (refine wpList_putS Try.isH rfl _ _ rfl a14.heap.size (hdA u_r1 h) zHd rfl rfl rfl rfl (hdA_one _ (reads_one RR.out)) zz.out ?_; intro a15 hh gg))
            replace HS : Hid (FL w a15 [(a14.heap.size, u_r1, h), (a1.heap.size, u_h, h)]) := HS.out.new RR.out hh gg
            clear hh gg zz RR
            have p_h_0 : a15.cell? ⟨a1.heap.size, 0, none⟩ = some (u_h) := HS.out.cell 1 rfl 0 rfl
            have p_h_1 : a15.cell? ⟨a1.heap.size, 1, none⟩ = some (.int .i64 h.kd) := HS.out.cell 1 rfl 1 rfl
            have p_h_2 : a15.cell? ⟨a1.heap.size, 2, none⟩ = some (.int .i64 h.ho) := HS.out.cell 1 rfl 2 rfl
            have p_h_3 : a15.cell? ⟨a1.heap.size, 3, none⟩ = some (.int .i64 h.tu) := HS.out.cell 1 rfl 3 rfl
            go_wp2_with fail
            refine (c2 _ _ (HS.out.rd 1 rfl)).mono ?_
            rintro e a16 ⟨u_r2, rfl, O1, B1⟩
            have RR : Hid (Reads a16 u_r2 h.ks) := O1.reads
            replace HS : Hid (FL w a16 [(a14.heap.size, u_r1, h), (a1.heap.size, u_h, h)]) := HS.out.next B1
            clear O1 B1 p_h_0 p_h_1 p_h_2 p_h_3
            have zz : Hid (StB (a16.alloc (.cells zHd 26)) a16.heap.size 26 zHd) := StB.new _ _ _
            go_upto_region 13 with (first | (refine wpList_putS Try.isH rfl _ _ rfl a16.heap.size (hdA u_r2 h) zHd rfl rfl rfl rfl (hdA_one _ (reads_one RR.out)) zz.out ?_; intro a17 hh gg))
            replace HS : Hid (FL w a17 [(a16.heap.size, u_r2, h), (a14.heap.size, u_r1, h), (a1.heap.size, u_h, h)]) := HS.out.new RR.out hh gg
            clear hh gg zz RR
            have p_h_0 : a17.cell? ⟨a1.heap.size, 0, none⟩ = some (u_h) := HS.out.cell 2 rfl 0 rfl
            have p_h_1 : a17.cell? ⟨a1.heap.size, 1, none⟩ = some (.int .i64 h.kd) := HS.out.cell 2 rfl 1 rfl
            have p_h_2 : a17.cell? ⟨a1.heap.size, 2, none⟩ = some (.int .i64 h.ho) := HS.out.cell 2 rfl 2 rfl
            have p_h_3 : a17.cell? ⟨a1.heap.size, 3, none⟩ = some (.int .i64 h.tu) := HS.out.cell 2 rfl 3 rfl
            go_wp2_with fail
            refine (c3 _ _ (HS.out.rd 2 rfl)).mono ?_
            rintro e a18 ⟨u_r3, rfl, O1, B1⟩
            have RR : Hid (Reads a18 u_r3 h.ks) := O1.reads
            replace HS : Hid (FL w a18 [(a16.heap.size, u_r2, h), (a14.heap.size, u_r1, h), (a1.heap.size, u_h, h)]) := HS.out.next B1
            clear O1 B1 p_h_0 p_h_1 p_h_2 p_h_3
            have zz : Hid (StB (a18.alloc (.cells zHd 26)) a18.heap.size 26 zHd) := StB.new _ _ _
            go_upto_region 14 with (first | (refine wpList_putS Try.isH rfl _ _ rfl a18.heap.size (hdA u_r3 h) zHd rfl rfl rfl rfl (hdA_one _ (reads_one RR.out)) zz.out ?_; intro a19 hh gg))
            replace HS : Hid (FL w a19 [(a18.heap.size, u_r3, h), (a16.heap.size, u_r2, h), (a14.heap.size, u_r1, h), (a1.heap.size, u_h, h)]) := HS.out.new RR.out hh gg
            clear hh gg zz RR
            have p_h_0 : a19.cell? ⟨a1.heap.size, 0, none⟩ = some (u_h) := HS.out.cell 3 rfl 0 rfl
            have p_h_1 : a19.cell? ⟨a1.heap.size, 1, none⟩ = some (.int .i64 h.kd) := HS.out.cell 3 rfl 1 rfl
            have p_h_2 : a19.cell? ⟨a1.heap.size, 2, none⟩ = some (.int .i64 h.ho) := HS.out.cell 3 rfl 2 rfl
            have p_h_3 : a19.cell? ⟨a1.heap.size, 3, none⟩ = some (.int .i64 h.tu) := HS.out.cell 3 rfl 3 rfl
            go_wp2_with fail
            refine (c4 _ _ (HS.out.rd 3 rfl)).mono ?_
            rintro e a20 ⟨u_r4, rfl, O1, B1⟩
            have RR : Hid (Reads a20 u_r4 h.ks) := O1.reads
            replace HS : Hid (FL w a20 [(a18.heap.size, u_r3, h), (a16.heap.size, u_r2, h), (a14.heap.size, u_r1, h), (a1.heap.size, u_h, h)]) := HS.out.next B1
            clear O1 B1 p_h_0 p_h_1 p_h_2 p_h_3
            have zz : Hid (StB (a20.alloc (.cells zHd 26)) a20.heap.size 26 zHd) := StB.new _ _ _
            go_upto_region 15 with (first | (refine wpList_putS Try.isH rfl _ _ rfl a20.heap.size (hdA u_r4 h) zHd rfl rfl rfl rfl (hdA_one _ (reads_one RR.out)) zz.out ?_; intro a21 hh gg))
            replace HS : Hid (FL w a21 [(a20.heap.size, u_r4, h), (a18.heap.size, u_r3, h), (a16.heap.size, u_r2, h), (a14.heap.size, u_r1, h), (a1.heap.size, u_h, h)]) := HS.out.new RR.out hh gg
            clear hh gg zz RR
            clear c1 c2 c3 c4
            have p_r1_0 : a21.cell? ⟨a14.heap.size, 0, none⟩ = some (u_r1) := HS.out.cell 3 rfl 0 rfl
            have p_r1_1 : a21.cell? ⟨a14.heap.size, 1, none⟩ = some (.int .i64 h.kd) := HS.out.cell 3 rfl 1 rfl
            have p_r1_2 : a21.cell? ⟨a14.heap.size, 2, none⟩ = some (.int .i64 h.ho) := HS.out.cell 3 rfl 2 rfl
            have p_r1_3 : a21.cell? ⟨a14.heap.size, 3, none⟩ = some (.int .i64 h.tu) := HS.out.cell 3 rfl 3 rfl
            have p_h_0 : a21.cell? ⟨a1.heap.size, 0, none⟩ = some (u_h) := HS.out.cell 4 rfl 0 rfl
            have p_h_1 : a21.cell? ⟨a1.heap.size, 1, none⟩ = some (.int .i64 h.kd) := HS.out.cell 4 rfl 1 rfl
            have p_h_2 : a21.cell? ⟨a1.heap.size, 2, none⟩ = some (.int .i64 h.ho) := HS.out.cell 4 rfl 2 rfl
            have p_h_3 : a21.cell? ⟨a1.heap.size, 3, none⟩ = some (.int .i64 h.tu) := HS.out.cell 4 rfl 3 rfl
            go_wp2_with fail
            refine (lk _ _ _ (HS.out.rd 3 rfl) (HS.out.rd 4 rfl)).mono ?_
            rintro e a22 ⟨rfl, bb21⟩
            replace HS : Hid (FL w a22 [(a20.heap.size, u_r4, h), (a18.heap.size, u_r3, h), (a16.heap.size, u_r2, h), (a14.heap.size, u_r1, h), (a1.heap.size, u_h, h)]) := HS.out.next bb21
            clear bb21 p_r1_0 p_r1_1 p_r1_2 p_r1_3 p_h_0 p_h_1 p_h_2 p_h_3
            have p_r2_0 : a22.cell? ⟨a16.heap.size, 0, none⟩ = some (u_r2) := HS.out.cell 2 rfl 0 rfl
            have p_r2_1 : a22.cell? ⟨a16.heap.size, 1, none⟩ = some (.int .i64 h.kd) := HS.out.cell 2 rfl 1 rfl
            have p_r2_2 : a22.cell? ⟨a16.heap.size, 2, none⟩ = some (.int .i64 h.ho) := HS.out.cell 2 rfl 2 rfl
            have p_r2_3 : a22.cell? ⟨a16.heap.size, 3, none⟩ = some (.int .i64 h.tu) := HS.out.cell 2 rfl 3 rfl
            have p_h_0 : a22.cell? ⟨a1.heap.size, 0, none⟩ = some (u_h) := HS.out.cell 4 rfl 0 rfl
            have p_h_1 : a22.cell? ⟨a1.heap.size, 1, none⟩ = some (.int .i64 h.kd) := HS.out.cell 4 rfl 1 rfl
            have p_h_2 : a22.cell? ⟨a1.heap.size, 2, none⟩ = some (.int .i64 h.ho) := HS.out.cell 4 rfl 2 rfl
            have p_h_3 : a22.cell? ⟨a1.heap.size, 3, none⟩ = some (.int .i64 h.tu) := HS.out.cell 4 rfl 3 rfl
            go_wp2_with fail
            refine (lk _ _ _ (HS.out.rd 2 rfl) (HS.out.rd 4 rfl)).mono ?_
            rintro e a23 ⟨rfl, bb22⟩
            replace HS : Hid (FL w a23 [(a20.heap.size, u_r4, h), (a18.heap.size, u_r3, h), (a16.heap.size, u_r2, h), (a14.heap.size, u_r1, h), (a1.heap.size, u_h, h)]) := HS.out.next bb22
            clear bb22 p_r2_0 p_r2_1 p_r2_2 p_r2_3 p_h_0 p_h_1 p_h_2 p_h_3
            have p_r3_0 : a23.cell? ⟨a18.heap.size, 0, none⟩ = some (u_r3) := HS.out.cell 1 rfl 0 rfl
            have p_r3_1 : a23.cell? ⟨a18.heap.size, 1, none⟩ = some (.int .i64 h.kd) := HS.out.cell 1 rfl 1 rfl
            have p_r3_2 : a23.cell? ⟨a18.heap.size, 2, none⟩ = some (.int .i64 h.ho) := HS.out.cell 1 rfl 2 rfl
            have p_r3_3 : a23.cell? ⟨a18.heap.size, 3, none⟩ = some (.int .i64 h.tu) := HS.out.cell 1 rfl 3 rfl
            have p_h_0 : a23.cell? ⟨a1.heap.size, 0, none⟩ = some (u_h) := HS.out.cell 4 rfl 0 rfl
            have p_h_1 : a23.cell? ⟨a1.heap.size, 1, none⟩ = some (.int .i64 h.kd) := HS.out.cell 4 rfl 1 rfl
            have p_h_2 : a23.cell? ⟨a1.heap.size, 2, none⟩ = some (.int .i64 h.ho) := HS.out.cell 4 rfl 2 rfl
            have p_h_3 : a23.cell? ⟨a1.heap.size, 3, none⟩ = some (.int .i64 h.tu) := HS.out.cell 4 rfl 3 rfl
            go_wp2_with fail
            refine (lk _ _ _ (HS.out.rd 1 rfl) (HS.out.rd 4 rfl)).mono ?_
            rintro e a24 ⟨rfl, bb23⟩
            replace HS : Hid (FL w a24 [(a20.heap.size, u_r4, h), (a18.heap.size, u_r3, h), (a16.heap.size, u_r2, h), (a14.heap.size, u_r1, h), (a1.heap.size, u_h, h)]) := HS.out.next bb23
            clear bb23 p_r3_0 p_r3_1 p_r3_2 p_r3_3 p_h_0 p_h_1 p_h_2 p_h_3
            have p_r4_0 : a24.cell? ⟨a20.heap.size, 0, none⟩ = some (u_r4) := HS.out.cell 0 rfl 0 rfl
            have p_r4_1 : a24.cell? ⟨a20.heap.size, 1, none⟩ = some (.int .i64 h.kd) := HS.out.cell 0 rfl 1 rfl
            have p_r4_2 : a24.cell? ⟨a20.heap.size, 2, none⟩ = some (.int .i64 h.ho) := HS.out.cell 0 rfl 2 rfl
            have p_r4_3 : a24.cell? ⟨a20.heap.size, 3, none⟩ = some (.int .i64 h.tu) := HS.out.cell 0 rfl 3 rfl
            have p_h_0 : a24.cell? ⟨a1.heap.size, 0, none⟩ = some (u_h) := HS.out.cell 4 rfl 0 rfl
            have p_h_1 : a24.cell? ⟨a1.heap.size, 1, none⟩ = some (.int .i64 h.kd) := HS.out.cell 4 rfl 1 rfl
            have p_h_2 : a24.cell? ⟨a1.heap.size, 2, none⟩ = some (.int .i64 h.ho) := HS.out.cell 4 rfl 2 rfl
            have p_h_3 : a24.cell? ⟨a1.heap.size, 3, none⟩ = some (.int .i64 h.tu) := HS.out.cell 4 rfl 3 rfl
            go_wp2_with fail
            refine (lk _ _ _ (HS.out.rd 0 rfl) (HS.out.rd 4 rfl)).mono ?_
            rintro e a25 ⟨rfl, bb24⟩
            replace HS : Hid (FL w a25 [(a20.heap.size, u_r4, h), (a18.heap.size, u_r3, h), (a16.heap.size, u_r2, h), (a14.heap.size, u_r1, h), (a1.heap.size, u_h, h)]) := HS.out.next bb24
            clear bb24 p_r4_0 p_r4_1 p_r4_2 p_r4_3 p_h_0 p_h_1 p_h_2 p_h_3
            have HB : Hid (Below w.heap.size w _) := HS.out.1
            clear HS
            go_wp2
            go_ret
            exact ⟨rfl, HB.out⟩
          · have p_h_0 : a13.cell? ⟨a1.heap.size, 0, none⟩ = some (u_h) := HS.out.cell 0 rfl 0 rfl
            have p_h_1 : a13.cell? ⟨a1.heap.size, 1, none⟩ = some (.int .i64 h.kd) := HS.out.cell 0 rfl 1 rfl
            have p_h_2 : a13.cell? ⟨a1.heap.size, 2, none⟩ = some (.int .i64 h.ho) := HS.out.cell 0 rfl 2 rfl
            have p_h_3 : a13.cell? ⟨a1.heap.size, 3, none⟩ = some (.int .i64 h.tu) := HS.out.cell 0 rfl 3 rfl
            go_wp2_with fail
            refine (c1 _ _ (HS.out.rd 0 rfl)).mono ?_
            rintro e a26 ⟨u_r1, rfl, O1, B1⟩
            have RR : Hid (Reads a26 u_r1 Hd.zero.ks) := O1.reads
            replace HS : Hid (FL w a26 [(a1.heap.size, u_h, h)]) := HS.out.next B1
            clear O1 B1 p_h_0 p_h_1 p_h_2 p_h_3
            have zz : Hid (StB (a26.alloc (.cells zHd 26)) a26.heap.size 26 zHd) := StB.new _ _ _
            go_upto_region 12 with (first | (refine wpList_putS Try.isH rfl _ _ rfl a26.heap.size (hdA u_r1 Hd.zero) zHd rfl rfl rfl rfl (hdA_one _ (reads_one RR.out)) zz.out ?_; intro a27 hh gg))
            replace HS : Hid (FL w a27 [(a26.heap.size, u_r1, Hd.zero), (a1.heap.size, u_h, h)]) := HS.out.new RR.out hh gg
            clear hh gg zz RR
            have p_h_0 : a27.cell? ⟨a1.heap.size, 0, none⟩ = some (u_h) := HS.out.cell 1 rfl 0 rfl
            have p_h_1 : a27.cell? ⟨a1.heap.size, 1, none⟩ = some (.int .i64 h.kd) := HS.out.cell 1 rfl 1 rfl
            have p_h_2 : a27.cell? ⟨a1.heap.size, 2, none⟩ = some (.int .i64 h.ho) := HS.out.cell 1 rfl 2 rfl
            have p_h_3 : a27.cell? ⟨a1.heap.size, 3, none⟩ = some (.int .i64 h.tu) := HS.out.cell 1 rfl 3 rfl
            go_wp2_with fail
            refine (c2 _ _ (HS.out.rd 1 rfl)).mono ?_
            rintro e a28 ⟨u_r2, rfl, O1, B1⟩
            have RR : Hid (Reads a28 u_r2 h.ks) := O1.reads
            replace HS : Hid (FL w a28 [(a26.heap.size, u_r1, Hd.zero), (a1.heap.size, u_h, h)]) := HS.out.next B1
            clear O1 B1 p_h_0 p_h_1 p_h_2 p_h_3
            have zz : Hid (StB (a28.alloc (.cells zHd 26)) a28.heap.size 26 zHd) := StB.new _ _ _
            go_upto_region 13 with (first | (refine wpList_putS Try.isH rfl _ _ rfl a28.heap.size (hdA u_r2 h) zHd rfl rfl rfl rfl (hdA_one _ (reads_one RR.out)) zz.out ?_; intro a29 hh gg))
            replace HS : Hid (FL w a29 [(a28.heap.size, u_r2, h), (a26.heap.size, u_r1, Hd.zero), (a1.heap.size, u_h, h)]) := HS.out.new RR.out hh gg
            clear hh gg zz RR
            have p_h_0 : a29.cell? ⟨a1.heap.size, 0, none⟩ = some (u_h) := HS.out.cell 2 rfl 0 rfl
            have p_h_1 : a29.cell? ⟨a1.heap.size, 1, none⟩ = some (.int .i64 h.kd) := HS.out.cell 2 rfl 1 rfl
            have p_h_2 : a29.cell? ⟨a1.heap.size, 2, none⟩ = some (.int .i64 h.ho) := HS.out.cell 2 rfl 2 rfl
            have p_h_3 : a29.cell? ⟨a1.heap.size, 3, none⟩ = some (.int .i64 h.tu) := HS.out.cell 2 rfl 3 rfl
            go_wp2_with fail
            refine (c3 _ _ (HS.out.rd 2 rfl)).mono ?_
            rintro e a30 ⟨u_r3, rfl, O1, B1⟩
            have RR : Hid (Reads a30 u_r3 h.ks) := O1.reads
            replace HS : Hid (FL w a30 [(a28.heap.size, u_r2, h), (a26.heap.size, u_r1, Hd.zero), (a1.heap.size, u_h, h)]) := HS.out.next B1
            clear O1 B1 p_h_0 p_h_1 p_h_2 p_h_3
            have zz : Hid (StB (a30.alloc (.cells zHd 26)) a30.heap.size 26 zHd) := StB.new _ _ _
            go_upto_region 14 with (first | (refine wpList_putS Try.isH rfl _ _ rfl a30.heap.size (hdA u_r3 h) zHd rfl rfl rfl rfl (hdA_one _ (reads_one RR.out)) zz.out ?_; intro a31 hh gg))
            replace HS : Hid (FL w a31 [(a30.heap.size, u_r3, h), (a28.heap.size, u_r2, h), (a26.heap.size, u_r1, Hd.zero), (a1.heap.size, u_h, h)]) := HS.out.new RR.out hh gg
            clear hh gg zz RR
            have p_h_0 : a31.cell? ⟨a1.heap.size, 0, none⟩ = some (u_h) := HS.out.cell 3 rfl 0 rfl
            have p_h_1 : a31.cell? ⟨a1.heap.size, 1, none⟩ = some (.int .i64 h.kd) := HS.out.cell 3 rfl 1 rfl
            have p_h_2 : a31.cell? ⟨a1.heap.size, 2, none⟩ = some (.int .i64 h.ho) := HS.out.cell 3 rfl 2 rfl
            have p_h_3 : a31.cell? ⟨a1.heap.size, 3, none⟩ = some (.int .i64 h.tu) := HS.out.cell 3 rfl 3 rfl
            go_wp2_with fail
            refine (c4 _ _ (HS.out.rd 3 rfl)).mono ?_
            rintro e a32 ⟨u_r4, rfl, O1, B1⟩
            have RR : Hid (Reads a32 u_r4 h.ks) := O1.reads
            replace HS : Hid (FL w a32 [(a30.heap.size, u_r3, h), (a28.heap.size, u_r2, h), (a26.heap.size, u_r1, Hd.zero), (a1.heap.size, u_h, h)]) := HS.out.next B1
            clear O1 B1 p_h_0 p_h_1 p_h_2 p_h_3
            have zz : Hid (StB (a32.alloc (.cells zHd 26)) a32.heap.size 26 zHd) := StB.new _ _ _
            go_upto_region 15 with (first | (refine wpList_putS Try.isH rfl _ _ rfl a32.heap.size (hdA u_r4 h) zHd rfl rfl rfl rfl (hdA_one _ (reads_one RR.out)) zz.out ?_; intro a33 hh gg))
            replace HS : Hid (FL w a33 [(a32.heap.size, u_r4, h), (a30.heap.size, u_r3, h), (a28.heap.size, u_r2, h), (a26.heap.size, u_r1, Hd.zero), (a1.heap.size, u_h, h)]) := HS.out.new RR.out hh gg
            clear hh gg zz RR
            clear c1 c2 c3 c4
            go_wp2_with fail
            refine (skind_any kind _).mono ?_
            rw [hk]
            rintro e w' ⟨rfl, hw'⟩; subst w'
            clear hk
            have p_r2_0 : a33.cell? ⟨a28.heap.size, 0, none⟩ = some (u_r2) := HS.out.cell 2 rfl 0 rfl
            have p_r2_1 : a33.cell? ⟨a28.heap.size, 1, none⟩ = some (.int .i64 h.kd) := HS.out.cell 2 rfl 1 rfl
            have p_r2_2 : a33.cell? ⟨a28.heap.size, 2, none⟩ = some (.int .i64 h.ho) := HS.out.cell 2 rfl 2 rfl
            have p_r2_3 : a33.cell? ⟨a28.heap.size, 3, none⟩ = some (.int .i64 h.tu) := HS.out.cell 2 rfl 3 rfl
            have p_h_0 : a33.cell? ⟨a1.heap.size, 0, none⟩ = some (u_h) := HS.out.cell 4 rfl 0 rfl
            have p_h_1 : a33.cell? ⟨a1.heap.size, 1, none⟩ = some (.int .i64 h.kd) := HS.out.cell 4 rfl 1 rfl
            have p_h_2 : a33.cell? ⟨a1.heap.size, 2, none⟩ = some (.int .i64 h.ho) := HS.out.cell 4 rfl 2 rfl
            have p_h_3 : a33.cell? ⟨a1.heap.size, 3, none⟩ = some (.int .i64 h.tu) := HS.out.cell 4 rfl 3 rfl
            go_wp2_with fail
            refine (lk _ _ _ (HS.out.rd 2 rfl) (HS.out.rd 4 rfl)).mono ?_
            rintro e a34 ⟨rfl, bb33⟩
            replace HS : Hid (FL w a34 [(a32.heap.size, u_r4, h), (a30.heap.size, u_r3, h), (a28.heap.size, u_r2, h), (a26.heap.size, u_r1, Hd.zero), (a1.heap.size, u_h, h)]) := HS.out.next bb33
            clear bb33 p_r2_0 p_r2_1 p_r2_2 p_r2_3 p_h_0 p_h_1 p_h_2 p_h_3
            have p_r3_0 : a34.cell? ⟨a30.heap.size, 0, none⟩ = some (u_r3) := HS.out.cell 1 rfl 0 rfl
            have p_r3_1 : a34.cell? ⟨a30.heap.size, 1, none⟩ = some (.int .i64 h.kd) := HS.out.cell 1 rfl 1 rfl
            have p_r3_2 : a34.cell? ⟨a30.heap.size, 2, none⟩ = some (.int .i64 h.ho) := HS.out.cell 1 rfl 2 rfl
            have p_r3_3 : a34.cell? ⟨a30.heap.size, 3, none⟩ = some (.int .i64 h.tu) := HS.out.cell 1 rfl 3 rfl
            have p_h_0 : a34.cell? ⟨a1.heap.size, 0, none⟩ = some (u_h) := HS.out.cell 4 rfl 0 rfl
            have p_h_1 : a34.cell? ⟨a1.heap.size, 1, none⟩ = some (.int .i64 h.kd) := HS.out.cell 4 rfl 1 rfl
            have p_h_2 : a34.cell? ⟨a1.heap.size, 2, none⟩ = some (.int .i64 h.ho) := HS.out.cell 4 rfl 2 rfl
            have p_h_3 : a34.cell? ⟨a1.heap.size, 3, none⟩ = some (.int .i64 h.tu) := HS.out.cell 4 rfl 3 rfl
            go_wp2_with fail
            refine (lk _ _ _ (HS.out.rd 1 rfl) (HS.out.rd 4 rfl)).mono ?_
            rintro e a35 ⟨rfl, bb34⟩
            replace HS : Hid (FL w a35 [(a32.heap.size, u_r4, h), (a30.heap.size, u_r3, h), (a28.heap.size, u_r2, h), (a26.heap.size, u_r1, Hd.zero), (a1.heap.size, u_h, h)]) := HS.out.next bb34
            clear bb34 p_r3_0 p_r3_1 p_r3_2 p_r3_3 p_h_0 p_h_1 p_h_2 p_h_3
            have p_r4_0 : a35.cell? ⟨a32.heap.size, 0, none⟩ = some (u_r4) := HS.out.cell 0 rfl 0 rfl
            have p_r4_1 : a35.cell? ⟨a32.heap.size, 1, none⟩ = some (.int .i64 h.kd) := HS.out.cell 0 rfl 1 rfl
            have p_r4_2 : a35.cell? ⟨a32.heap.size, 2, none⟩ = some (.int .i64 h.ho) := HS.out.cell 0 rfl 2 rfl
            have p_r4_3 : a35.cell? ⟨a32.heap.size, 3, none⟩ = some (.int .i64 h.tu) := HS.out.cell 0 rfl 3 rfl
            have p_h_0 : a35.cell? ⟨a1.heap.size, 0, none⟩ = some (u_h) := HS.out.cell 4 rfl 0 rfl
            have p_h_1 : a35.cell? ⟨a1.heap.size, 1, none⟩ = some (.int .i64 h.kd) := HS.out.cell 4 rfl 1 rfl
            have p_h_2 : a35.cell? ⟨a1.heap.size, 2, none⟩ = some (.int .i64 h.ho) := HS.out.cell 4 rfl 2 rfl
            have p_h_3 : a35.cell? ⟨a1.heap.size, 3, none⟩ = some (.int .i64 h.tu) := HS.out.cell 4 rfl 3 rfl
            go_wp2_with fail
            refine (lk _ _ _ (HS.out.rd 0 rfl) (HS.out.rd 4 rfl)).mono ?_
            rintro e a36 ⟨rfl, bb35⟩
            replace HS : Hid (FL w a36 [(a32.heap.size, u_r4, h), (a30.heap.size, u_r3, h), (a28.heap.size, u_r2, h), (a26.heap.size, u_r1, Hd.zero), (a1.heap.size, u_h, h)]) := HS.out.next bb35
            clear bb35 p_r4_0 p_r4_1 p_r4_2 p_r4_3 p_h_0 p_h_1 p_h_2 p_h_3
            have HB : Hid (Below w.heap.size w _) := HS.out.1
            clear HS
            go_wp2
            go_ret
            exact ⟨rfl, HB.out⟩
        · obtain ⟨A1, A2, A3, A4⟩ := acts_out (h := h) hin kind 1 2
          have hx : x < 0 ∨ 0 ≤ x ∧ 3 < x := by
            have h2 : ¬ (0 ≤ x ∧ x ≤ 3) := fun e => by rw [(inI_iff x 0 3).2 e] at hin; cases hin
            omega
          simp only [A1] at c1
          simp only [A2] at c2
          simp only [A3] at c3
          simp only [A4] at c4
          clear A1 A2 A3 A4 hok hr hin
          unfold Ans at c1 c2 c3 c4
          dsimp only at c1 c2 c3 c4
          have p_h_0 : a13.cell? ⟨a1.heap.size, 0, none⟩ = some (u_h) := HS.out.cell 0 rfl 0 rfl
          have p_h_1 : a13.cell? ⟨a1.heap.size, 1, none⟩ = some (.int .i64 h.kd) := HS.out.cell 0 rfl 1 rfl
          have p_h_2 : a13.cell? ⟨a1.heap.size, 2, none⟩ = some (.int .i64 h.ho) := HS.out.cell 0 rfl 2 rfl
          have p_h_3 : a13.cell? ⟨a1.heap.size, 3, none⟩ = some (.int .i64 h.tu) := HS.out.cell 0 rfl 3 rfl
          go_wp2_with fail
          refine (c1 _ _ (HS.out.rd 0 rfl)).mono ?_
          rintro e a37 ⟨u_r1, rfl, O1, B1⟩
          have RR : Hid (Reads a37 u_r1 Hd.zero.ks) := O1.reads
          replace HS : Hid (FL w a37 [(a1.heap.size, u_h, h)]) := HS.out.next B1
          clear O1 B1 p_h_0 p_h_1 p_h_2 p_h_3
          have zz : Hid (StB (a37.alloc (.cells zHd 26)) a37.heap.size 26 zHd) := StB.new _ _ _
          go_upto_region 12 with (first | (refine wpList_putS Try.isH rfl _ _ rfl a37.heap.size (hdA u_r1 Hd.zero) zHd rfl rfl rfl rfl (hdA_one _ (reads_one RR.out)) zz.out ?_; intro a38 hh gg))
          replace HS : Hid (FL w a38 [(a37.heap.size, u_r1, Hd.zero), (a1.heap.size, u_h, h)]) := HS.out.new RR.out hh gg
          clear hh gg zz RR
          have p_h_0 : a38.cell? ⟨a1.heap.size, 0, none⟩ = some (u_h) := HS.out.cell 1 rfl 0 rfl
          have p_h_1 : a38.cell? ⟨a1.heap.size, 1, none⟩ = some (.int .i64 h.kd) := HS.out.cell 1 rfl 1 rfl
          have p_h_2 : a38.cell? ⟨a1.heap.size, 2, none⟩ = some (.int .i64 h.ho) := HS.out.cell 1 rfl 2 rfl
          have p_h_3 : a38.cell? ⟨a1.heap.size, 3, none⟩ = some (.int .i64 h.tu) := HS.out.cell 1 rfl 3 rfl
          go_wp2_with fail
          refine (c2 _ _ (HS.out.rd 1 rfl)).mono ?_
          rintro e a39 ⟨u_r2, rfl, O1, B1⟩
          have RR : Hid (Reads a39 u_r2 Hd.zero.ks) := O1.reads
          replace HS : Hid (FL w a39 [(a37.heap.size, u_r1, Hd.zero), (a1.heap.size, u_h, h)]) := HS.out.next B1
          clear O1 B1 p_h_0 p_h_1 p_h_2 p_h_3
          have zz : Hid (StB (a39.alloc (.cells zHd 26)) a39.heap.size 26 zHd) := StB.new _ _ _
          go_upto_region 13 with (first | (refine wpList_putS Try.isH rfl _ _ rfl a39.heap.size (hdA u_r2 Hd.zero) zHd rfl rfl rfl rfl (hdA_one _ (reads_one RR.out)) zz.out ?_; intro a40 hh gg))
          replace HS : Hid (FL w a40 [(a39.heap.size, u_r2, Hd.zero), (a37.heap.size, u_r1, Hd.zero), (a1.heap.size, u_h, h)]) := HS.out.new RR.out hh gg
          clear hh gg zz RR
          have p_h_0 : a40.cell? ⟨a1.heap.size, 0, none⟩ = some (u_h) := HS.out.cell 2 rfl 0 rfl
          have p_h_1 : a40.cell? ⟨a1.heap.size, 1, none⟩ = some (.int .i64 h.kd) := HS.out.cell 2 rfl 1 rfl
          have p_h_2 : a40.cell? ⟨a1.heap.size, 2, none⟩ = some (.int .i64 h.ho) := HS.out.cell 2 rfl 2 rfl
          have p_h_3 : a40.cell? ⟨a1.heap.size, 3, none⟩ = some (.int .i64 h.tu) := HS.out.cell 2 rfl 3 rfl
          go_wp2_with fail
          refine (c3 _ _ (HS.out.rd 2 rfl)).mono ?_
          rintro e a41 ⟨u_r3, rfl, O1, B1⟩
          have RR : Hid (Reads a41 u_r3 Hd.zero.ks) := O1.reads
          replace HS : Hid (FL w a41 [(a39.heap.size, u_r2, Hd.zero), (a37.heap.size, u_r1, Hd.zero), (a1.heap.size, u_h, h)]) := HS.out.next B1
          clear O1 B1 p_h_0 p_h_1 p_h_2 p_h_3
          have zz : Hid (StB (a41.alloc (.cells zHd 26)) a41.heap.size 26 zHd) := StB.new _ _ _
          go_upto_region 14 with (first | (refine wpList_putS Try.isH rfl _ _ rfl a41.heap.size (hdA u_r3 Hd.zero) zHd rfl rfl rfl rfl (hdA_one _ (reads_one RR.out)) zz.out ?_; intro a42 hh gg))
          replace HS : Hid (FL w a42 [(a41.heap.size, u_r3, Hd.zero), (a39.heap.size, u_r2, Hd.zero), (a37.heap.size, u_r1, Hd.zero), (a1.heap.size, u_h, h)]) := HS.out.new RR.out hh gg
          clear hh gg zz RR
          have p_h_0 : a42.cell? ⟨a1.heap.size, 0, none⟩ = some (u_h) := HS.out.cell 3 rfl 0 rfl
          have p_h_1 : a42.cell? ⟨a1.heap.size, 1, none⟩ = some (.int .i64 h.kd) := HS.out.cell 3 rfl 1 rfl
          have p_h_2 : a42.cell? ⟨a1.heap.size, 2, none⟩ = some (.int .i64 h.ho) := HS.out.cell 3 rfl 2 rfl
          have p_h_3 : a42.cell? ⟨a1.heap.size, 3, none⟩ = some (.int .i64 h.tu) := HS.out.cell 3 rfl 3 rfl
          go_wp2_with fail
          refine (c4 _ _ (HS.out.rd 3 rfl)).mono ?_
          rintro e a43 ⟨u_r4, rfl, O1, B1⟩
          have RR : Hid (Reads a43 u_r4 Hd.zero.ks) := O1.reads
          replace HS : Hid (FL w a43 [(a41.heap.size, u_r3, Hd.zero), (a39.heap.size, u_r2, Hd.zero), (a37.heap.size, u_r1, Hd.zero), (a1.heap.size, u_h, h)]) := HS.out.next B1
          clear O1 B1 p_h_0 p_h_1 p_h_2 p_h_3
          have zz : Hid (StB (a43.alloc (.cells zHd 26)) a43.heap.size 26 zHd) := StB.new _ _ _
          go_upto_region 15 with (first | (refine wpList_putS Try.isH rfl _ _ rfl a43.heap.size (hdA u_r4 Hd.zero) zHd rfl rfl rfl rfl (hdA_one _ (reads_one RR.out)) zz.out ?_; intro a44 hh gg))
          replace HS : Hid (FL w a44 [(a43.heap.size, u_r4, Hd.zero), (a41.heap.size, u_r3, Hd.zero), (a39.heap.size, u_r2, Hd.zero), (a37.heap.size, u_r1, Hd.zero), (a1.heap.size, u_h, h)]) := HS.out.new RR.out hh gg
          clear hh gg zz RR
          clear c1 c2 c3 c4
          have HB : Hid (Below w.heap.size w _) := HS.out.1
          clear HS
          rcases hx with hx | ⟨x0, x1⟩
          all_goals (go_wp2; go_ret; exact ⟨rfl, HB.out⟩)
    · have p_h_0 : a9.cell? ⟨a1.heap.size, 0, none⟩ = some (u_h) := HS.out.cell 0 rfl 0 rfl
      have p_h_1 : a9.cell? ⟨a1.heap.size, 1, none⟩ = some (.int .i64 h.kd) := HS.out.cell 0 rfl 1 rfl
      have p_h_2 : a9.cell? ⟨a1.heap.size, 2, none⟩ = some (.int .i64 h.ho) := HS.out.cell 0 rfl 2 rfl
      have p_h_3 : a9.cell? ⟨a1.heap.size, 3, none⟩ = some (.int .i64 h.tu) := HS.out.cell 0 rfl 3 rfl
      clear cr
      go_wp2_with fail
      refine (co _ _ (HS.out.rd 0 rfl)).mono ?_
      rintro e a45 ⟨rfl, bb44⟩
      replace HS : Hid (FL w a45 [(a1.heap.size, u_h, h)]) := HS.out.next bb44
      clear bb44 p_h_0 p_h_1 p_h_2 p_h_3
      have HB : Hid (Below w.heap.size w _) := HS.out.1
      clear HS
      go_wp2
      go_ret
      exact ⟨rfl, HB.out⟩

set_option maxRecDepth 100000 in
theorem lifted (os : Os) (started : os.Started) (H : Type) (enc : TypeId × Value → H) :
    ReturnsInHanded {} Try.checked os 4 .any (Rows.fnActsSpec.pre6 enc Try.prog Try.f4 Rows.fnActsRow.domain false) (Rows.fnActsSpec.post enc Try.prog Try.f4 false true false false) := by
  refine returnsInHanded_of_change (C := Try.checked) own started (by kernel_rfl) Try.func4
    (ChangeSpec.witness6 (enc := enc) (C := Try.checked) false ⟨#[], #[.slice none 0 0], []⟩ 8 (by kernel_rfl) (by kernel_rfl) (by kernel_rfl) (by kernel_rfl)) ?_
  intro W base args ds gs before hval0 hW hcnd _
  have hval : ∀ (j : Nat) t v, Try.f4.params[j]? = some t → args[j]? = some v → Value.okWide Try.prog W .any base t v := hval0
  have hW' := hW
  obtain ⟨p, q, hA0, hV, rfl, hfz, hnd⟩ := hW
  have hA : DataW.TrodAll enc Try.prog W 0 (fun _ => true) true Try.f4.params.toList args.toList ds p := hA0
  rw [Try.params4] at hA hval
  obtain ⟨v0, vs0, d0, ds0, p0, q0, hargs, rfl, rfl, h0, r0⟩ := trodAll_cons hA
  obtain ⟨rfl, rfl, rfl⟩ := trodAll_nil r0
  obtain rfl : args = #[v0] := by cases args; simp_all
  obtain ⟨rfl, rfl⟩ := trodVars_none hV
  obtain ⟨a0, len0, cap0, rfl⟩ := okWide_slice Try.underlying22 (hval 0 22 v0 rfl rfl)
  have k0 := h0
  have lt0 : ∀ x ∈ p0, x.block < W.heap.size := by obtain ⟨m, hm⟩ := k0; exact DataW.trod_lt m _ _ _ hm
  obtain ⟨z0, w0⟩ : ∃ zs, IsRow .u8 W a0 len0 cap0 zs := by
    obtain ⟨fuel, hf⟩ := h0
    rcases open_ints Try.underlying22 Try.underlying5 (by kernel_rfl) hf with ⟨hcs, _⟩ | ⟨x, l, c, zs, hcs, _, hl, hm, hz, _, hcell, hwz⟩
    · simp [Value.cells] at hcs
      obtain ⟨rfl, rfl, rfl⟩ := hcs
      exact ⟨[], .inl ⟨rfl, rfl, rfl, rfl⟩⟩
    · simp [Value.cells] at hcs
      obtain ⟨rfl, rfl, rfl⟩ := hcs
      exact ⟨zs, .inr ⟨_, rfl, hl, hm, by simpa using hz, hcell, hwz⟩⟩
  clear hA0 hval0
  refine (walk a0 len0 cap0 z0 W w0).mono fun e W' ⟨he, bel⟩ => ?_
  subst he
  exact ⟨_, rfl, _, _, _, [], _, [], hW', trodAll_mk1 (shut_bool Try.underlying4 _), (trodAll_cons_mk (Below.trod laidOut (by kernel_rfl) (of_decide_eq_true (by kernel_rfl)) k0 bel lt0) trodAll_mk0), rfl, bel.frame _, fun h => by cases h⟩

theorem over : Rows.fnActsRow.holds Try.pinned (OpenSpec.ofChange Rows.fnActsSpec) :=
  OpenClaim.holds_of_wide 4 Try.f4 rfl rfl rfl rfl rfl rfl rfl ⟨rfl, rfl, rfl, rfl, rfl⟩ rfl rfl rfl rfl rfl (by kernel_rfl) Try.func4 (by kernel_rfl)
    (of_decide_eq_true (by kernel_rfl)) (by unfold Func.isWrapper; first | (rw [if_pos (by decide +kernel)]; kernel_rfl) | (rw [if_neg (by decide +kernel)]; exact ⟨rfl, rfl⟩))
    (fun os started H enc _ => lifted os started H enc)

theorem proved : Rows.FnActsSaid := over
end Go.Proofs.Ytppkncmlloelbaa.fnActs
namespace Go.Proofs.Ytppkncmlloelbaa
theorem fnActs_holds : Rows.FnActsSaid := fnActs.proved
end Go.Proofs.Ytppkncmlloelbaa
