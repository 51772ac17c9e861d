/- At every list of bytes the law FnRegister returns true: who registers is registered, nobody else's key changes, and what is held by nobody who is registered is free; and the program answers as the model. -/
import Derived.Test.YtppkncmlloelbaaRows
import Derived.WalkKit
import Derived.ProofKit
import Derived.OpenShut
import Derived.ShutString
import Derived.ChangeOld
import Derived.Below
import Derived.Test.YtppkncmlloelbaaDrawSets
import Derived.Test.YtppkncmlloelbaaDrawAct
import Derived.Test.YtppkncmlloelbaaActSta
import Derived.Test.YtppkncmlloelbaaActLaws2
import Derived.Test.YtppkncmlloelbaaLikeHold
import Derived.Test.YtppkncmlloelbaaIAct
import Derived.Test.YtppkncmlloelbaaIHold2
import Derived.Test.YtppkncmlloelbaaSHold2
namespace Go.Proofs.Ytppkncmlloelbaa.fnRegister
open Go.ChangeShapes Go.WideShapes Go.ChangeAt Go.RowKit
open Go.ChangeMaps (open_string shut_string)
set_option linter.unusedVariables false

theorem own : ownKnob Try.prog.godebug = none := by kernel_rfl
theorem laidOut : laidOutB Try.prog = true := by kernel_rfl

def IsRow (k : IntKind) (w : World) (a : Option Addr) (len cap : Nat) (zs : List Int) : Prop :=
  (a = none ∧ len = 0 ∧ cap = 0 ∧ zs = []) ∨
  ∃ x, a = some x ∧ len ≤ cap ∧ cap ≤ maxLen ∧ zs.length = cap ∧ (∀ i, i < zs.length → w.cell? (x.add i) = some (.int k (zs.getD i 0))) ∧ ∀ n ∈ zs, (Lit.int k n).wf = true

set_option maxRecDepth 20000 in
set_option maxHeartbeats 8000000 in
theorem walk (a0 : Option Addr) (len0 cap0 : Nat) (z0 : List Int) (w : World) (w0 : IsRow .u8 w a0 len0 cap0 z0) :
    Calls Try.prog 3 #[.slice a0 len0 cap0] w fun e w' => e = .returned (.bool true) ∧ Below w.heap.size w w' := by
  by_cases hbig : (4096 : Int) < (len0 : Int)
  · go_enter Try.func3, Try.ntmps3
    go_wp2_with (go_at_call 12; refine (big_any _ _ _ _).mono ?_; rintro e w' ⟨rfl, hw'⟩; subst w')
    go_ret
    exact ⟨rfl, Below.refl _ _⟩
  · have HC : Hid (CodeOk w w.heap.size (.slice a0 len0 cap0)) := codeOk_row w0 (by omega)
    clear w0
    have HS : Hid (FL w w []) := FL.start w
    go_enter Try.func3, Try.ntmps3
    go_wp2_with fail
    refine (big_any _ _ _ _).mono ?_
    rintro e w' ⟨rfl, hw'⟩; subst w'
    go_wp2_with fail
    refine (drawRegister_any w.heap.size _ _ (HC.out.below HS.out.1) HS.out.1.size ).mono ?_
    rintro e a1 ⟨h, u_h, x, key, rfl, D1, B1⟩
    have l_h : h.ks.length ≤ 1099511627776 := by have := D1.2.2; omega
    have RR : Hid (Reads a1 u_h h.ks) := D1.1
    replace HS : Hid (FL w a1 []) := HS.out.next B1
    clear D1 B1
    have zz : Hid (StB (a1.alloc (.cells zHd 26)) a1.heap.size 26 zHd) := StB.new _ _ _
    go_upto_region 4 with (first | (refine wpList_putS Try.isH rfl _ _ rfl a1.heap.size (hdA u_h h) zHd rfl rfl rfl rfl (hdA_one _ (reads_one RR.out)) zz.out ?_; intro a2 hh gg))
    replace HS : Hid (FL w a2 [(a1.heap.size, u_h, h)]) := HS.out.new RR.out hh gg
    clear hh gg zz RR
    obtain ⟨z, k, h_z⟩ : ∃ z k, h.register x key = (z, k) := ⟨_, _, rfl⟩
    have l_z : z.ks.length ≤ 1099511627776 := by have := register_len h x key; rw [h_z] at this; dsimp only at this; omega
    have ci := fun u w' (hr : Reads w' u h.ks) => iregister_any u h x key w' hr l_h
    simp only [h_z] at ci
    unfold Ans at ci
    dsimp only at ci
    have cs := fun u w' (hr : Reads w' u h.ks) => sregister_any u h x key w' hr l_h
    simp only [h_z] at cs
    unfold Ans at cs
    dsimp only at cs
    have e_k : (k != k) = false := by simp
    have H_z : Hid (h.register x key = (z, k)) := h_z
    have lk_z := fun u v w' (hu : Reads w' u z.ks) (hv : Reads w' v z.ks) => likeH_any u v z z w' hu hv l_z
    simp only [likeH_same] at lk_z
    clear h_z
    have p_h_0 : a2.cell? ⟨a1.heap.size, 0, none⟩ = some (u_h) := HS.out.cell 0 rfl 0 rfl
    have p_h_1 : a2.cell? ⟨a1.heap.size, 1, none⟩ = some (.int .i64 h.kd) := HS.out.cell 0 rfl 1 rfl
    have p_h_2 : a2.cell? ⟨a1.heap.size, 2, none⟩ = some (.int .i64 h.ho) := HS.out.cell 0 rfl 2 rfl
    have p_h_3 : a2.cell? ⟨a1.heap.size, 3, none⟩ = some (.int .i64 h.tu) := HS.out.cell 0 rfl 3 rfl
    go_wp2_with fail
    refine (ci _ _ (HS.out.rd 0 rfl)).mono ?_
    rintro e a3 ⟨u_x, rfl, O1, B1⟩
    have RR : Hid (Reads a3 u_x z.ks) := O1.reads
    replace HS : Hid (FL w a3 [(a1.heap.size, u_h, h)]) := HS.out.next B1
    clear O1 B1 p_h_0 p_h_1 p_h_2 p_h_3
    have zz : Hid (StB (a3.alloc (.cells zHd 26)) a3.heap.size 26 zHd) := StB.new _ _ _
    go_upto_region 5 with (first | (refine wpList_putS Try.isH rfl _ _ rfl a3.heap.size (hdA u_x z) zHd rfl rfl rfl rfl (hdA_one _ (reads_one RR.out)) zz.out ?_; intro a4 hh gg))
    replace HS : Hid (FL w a4 [(a3.heap.size, u_x, z), (a1.heap.size, u_h, h)]) := HS.out.new RR.out hh gg
    clear hh gg zz RR
    clear ci
    go_wp2_with fail
    refine (drawClear_any w.heap.size _ _ (HC.out.below HS.out.1) HS.out.1.size ).mono ?_
    rintro e a5 ⟨a, u_a, b, rfl, D1, B1⟩
    have l_a : a.ks.length ≤ 1099511627776 := by have := D1.2.2; omega
    have RR : Hid (Reads a5 u_a a.ks) := D1.1
    replace HS : Hid (FL w a5 [(a3.heap.size, u_x, z), (a1.heap.size, u_h, h)]) := HS.out.next B1
    clear D1 B1
    have zz : Hid (StB (a5.alloc (.cells zHd 26)) a5.heap.size 26 zHd) := StB.new _ _ _
    go_upto_region 6 with (first | (refine wpList_putS Try.isH rfl _ _ rfl a5.heap.size (hdA u_a a) zHd rfl rfl rfl rfl (hdA_one _ (reads_one RR.out)) zz.out ?_; intro a6 hh gg))
    replace HS : Hid (FL w a6 [(a5.heap.size, u_a, a), (a3.heap.size, u_x, z), (a1.heap.size, u_h, h)]) := HS.out.new RR.out hh gg
    clear hh gg zz RR
    obtain ⟨y, j, h_y⟩ : ∃ y j, a.clear b = (y, j) := ⟨_, _, rfl⟩
    have l_y : y.ks.length ≤ 1099511627776 := by have := clear_len a b; rw [h_y] at this; dsimp only at this; omega
    have di := fun u w' (hr : Reads w' u a.ks) => iclear_any u a b w' hr l_a
    simp only [h_y] at di
    unfold Ans at di
    dsimp only at di
    have ds := fun u w' (hr : Reads w' u a.ks) => sclear_any u a b w' hr l_a
    simp only [h_y] at ds
    unfold Ans at ds
    dsimp only at ds
    have e_j : (j != j) = false := by simp
    have H_y : Hid (a.clear b = (y, j)) := h_y
    have lk_y := fun u v w' (hu : Reads w' u y.ks) (hv : Reads w' v y.ks) => likeH_any u v y y w' hu hv l_y
    simp only [likeH_same] at lk_y
    clear h_y
    have p_a_0 : a6.cell? ⟨a5.heap.size, 0, none⟩ = some (u_a) := HS.out.cell 0 rfl 0 rfl
    have p_a_1 : a6.cell? ⟨a5.heap.size, 1, none⟩ = some (.int .i64 a.kd) := HS.out.cell 0 rfl 1 rfl
    have p_a_2 : a6.cell? ⟨a5.heap.size, 2, none⟩ = some (.int .i64 a.ho) := HS.out.cell 0 rfl 2 rfl
    have p_a_3 : a6.cell? ⟨a5.heap.size, 3, none⟩ = some (.int .i64 a.tu) := HS.out.cell 0 rfl 3 rfl
    go_wp2_with fail
    refine (di _ _ (HS.out.rd 0 rfl)).mono ?_
    rintro e a7 ⟨u_y, rfl, O1, B1⟩
    have RR : Hid (Reads a7 u_y y.ks) := O1.reads
    replace HS : Hid (FL w a7 [(a5.heap.size, u_a, a), (a3.heap.size, u_x, z), (a1.heap.size, u_h, h)]) := HS.out.next B1
    clear O1 B1 p_a_0 p_a_1 p_a_2 p_a_3
    have zz : Hid (StB (a7.alloc (.cells zHd 26)) a7.heap.size 26 zHd) := StB.new _ _ _
    go_upto_region 7 with (first | (refine wpList_putS Try.isH rfl _ _ rfl a7.heap.size (hdA u_y y) zHd rfl rfl rfl rfl (hdA_one _ (reads_one RR.out)) zz.out ?_; intro a8 hh gg))
    replace HS : Hid (FL w a8 [(a7.heap.size, u_y, y), (a5.heap.size, u_a, a), (a3.heap.size, u_x, z), (a1.heap.size, u_h, h)]) := HS.out.new RR.out hh gg
    clear hh gg zz RR
    clear di HC
    have p_h_0 : a8.cell? ⟨a1.heap.size, 0, none⟩ = some (u_h) := HS.out.cell 3 rfl 0 rfl
    have p_h_1 : a8.cell? ⟨a1.heap.size, 1, none⟩ = some (.int .i64 h.kd) := HS.out.cell 3 rfl 1 rfl
    have p_h_2 : a8.cell? ⟨a1.heap.size, 2, none⟩ = some (.int .i64 h.ho) := HS.out.cell 3 rfl 2 rfl
    have p_h_3 : a8.cell? ⟨a1.heap.size, 3, none⟩ = some (.int .i64 h.tu) := HS.out.cell 3 rfl 3 rfl
    go_wp2_with fail
    refine (cs _ _ (HS.out.rd 3 rfl)).mono ?_
    rintro e a9 ⟨u_z1, rfl, O1, B1⟩
    have RR : Hid (Reads a9 u_z1 z.ks) := O1.reads
    replace HS : Hid (FL w a9 [(a7.heap.size, u_y, y), (a5.heap.size, u_a, a), (a3.heap.size, u_x, z), (a1.heap.size, u_h, h)]) := HS.out.next B1
    clear O1 B1 p_h_0 p_h_1 p_h_2 p_h_3
    have zz : Hid (StB (a9.alloc (.cells zHd 26)) a9.heap.size 26 zHd) := StB.new _ _ _
    go_upto_region 8 with (first | (refine wpList_putS Try.isH rfl _ _ rfl a9.heap.size (hdA u_z1 z) zHd rfl rfl rfl rfl (hdA_one _ (reads_one RR.out)) zz.out ?_; intro a10 hh gg))
    replace HS : Hid (FL w a10 [(a9.heap.size, u_z1, z), (a7.heap.size, u_y, y), (a5.heap.size, u_a, a), (a3.heap.size, u_x, z), (a1.heap.size, u_h, h)]) := HS.out.new RR.out hh gg
    clear hh gg zz RR
    clear cs
    have p_x_0 : a10.cell? ⟨a3.heap.size, 0, none⟩ = some (u_x) := HS.out.cell 3 rfl 0 rfl
    have p_x_1 : a10.cell? ⟨a3.heap.size, 1, none⟩ = some (.int .i64 z.kd) := HS.out.cell 3 rfl 1 rfl
    have p_x_2 : a10.cell? ⟨a3.heap.size, 2, none⟩ = some (.int .i64 z.ho) := HS.out.cell 3 rfl 2 rfl
    have p_x_3 : a10.cell? ⟨a3.heap.size, 3, none⟩ = some (.int .i64 z.tu) := HS.out.cell 3 rfl 3 rfl
    have p_z1_0 : a10.cell? ⟨a9.heap.size, 0, none⟩ = some (u_z1) := HS.out.cell 0 rfl 0 rfl
    have p_z1_1 : a10.cell? ⟨a9.heap.size, 1, none⟩ = some (.int .i64 z.kd) := HS.out.cell 0 rfl 1 rfl
    have p_z1_2 : a10.cell? ⟨a9.heap.size, 2, none⟩ = some (.int .i64 z.ho) := HS.out.cell 0 rfl 2 rfl
    have p_z1_3 : a10.cell? ⟨a9.heap.size, 3, none⟩ = some (.int .i64 z.tu) := HS.out.cell 0 rfl 3 rfl
    go_wp2_with fail
    refine (lk_z _ _ _ (HS.out.rd 3 rfl) (HS.out.rd 0 rfl)).mono ?_
    rintro e a11 ⟨rfl, bb10⟩
    replace HS : Hid (FL w a11 [(a9.heap.size, u_z1, z), (a7.heap.size, u_y, y), (a5.heap.size, u_a, a), (a3.heap.size, u_x, z), (a1.heap.size, u_h, h)]) := HS.out.next bb10
    clear bb10 p_x_0 p_x_1 p_x_2 p_x_3 p_z1_0 p_z1_1 p_z1_2 p_z1_3
    go_upto_region 10 with fail
    have p_a_0 : a11.cell? ⟨a5.heap.size, 0, none⟩ = some (u_a) := HS.out.cell 2 rfl 0 rfl
    have p_a_1 : a11.cell? ⟨a5.heap.size, 1, none⟩ = some (.int .i64 a.kd) := HS.out.cell 2 rfl 1 rfl
    have p_a_2 : a11.cell? ⟨a5.heap.size, 2, none⟩ = some (.int .i64 a.ho) := HS.out.cell 2 rfl 2 rfl
    have p_a_3 : a11.cell? ⟨a5.heap.size, 3, none⟩ = some (.int .i64 a.tu) := HS.out.cell 2 rfl 3 rfl
    go_wp2_with fail
    refine (ds _ _ (HS.out.rd 2 rfl)).mono ?_
    rintro e a12 ⟨u_z2, rfl, O1, B1⟩
    have RR : Hid (Reads a12 u_z2 y.ks) := O1.reads
    replace HS : Hid (FL w a12 [(a9.heap.size, u_z1, z), (a7.heap.size, u_y, y), (a5.heap.size, u_a, a), (a3.heap.size, u_x, z), (a1.heap.size, u_h, h)]) := HS.out.next B1
    clear O1 B1 p_a_0 p_a_1 p_a_2 p_a_3
    have zz : Hid (StB (a12.alloc (.cells zHd 26)) a12.heap.size 26 zHd) := StB.new _ _ _
    go_upto_region 11 with (first | (refine wpList_putS Try.isH rfl _ _ rfl a12.heap.size (hdA u_z2 y) zHd rfl rfl rfl rfl (hdA_one _ (reads_one RR.out)) zz.out ?_; intro a13 hh gg))
    replace HS : Hid (FL w a13 [(a12.heap.size, u_z2, y), (a9.heap.size, u_z1, z), (a7.heap.size, u_y, y), (a5.heap.size, u_a, a), (a3.heap.size, u_x, z), (a1.heap.size, u_h, h)]) := HS.out.new RR.out hh gg
    clear hh gg zz RR
    clear ds
    have p_y_0 : a13.cell? ⟨a7.heap.size, 0, none⟩ = some (u_y) := HS.out.cell 2 rfl 0 rfl
    have p_y_1 : a13.cell? ⟨a7.heap.size, 1, none⟩ = some (.int .i64 y.kd) := HS.out.cell 2 rfl 1 rfl
    have p_y_2 : a13.cell? ⟨a7.heap.size, 2, none⟩ = some (.int .i64 y.ho) := HS.out.cell 2 rfl 2 rfl
    have p_y_3 : a13.cell? ⟨a7.heap.size, 3, none⟩ = some (.int .i64 y.tu) := HS.out.cell 2 rfl 3 rfl
    have p_z2_0 : a13.cell? ⟨a12.heap.size, 0, none⟩ = some (u_z2) := HS.out.cell 0 rfl 0 rfl
    have p_z2_1 : a13.cell? ⟨a12.heap.size, 1, none⟩ = some (.int .i64 y.kd) := HS.out.cell 0 rfl 1 rfl
    have p_z2_2 : a13.cell? ⟨a12.heap.size, 2, none⟩ = some (.int .i64 y.ho) := HS.out.cell 0 rfl 2 rfl
    have p_z2_3 : a13.cell? ⟨a12.heap.size, 3, none⟩ = some (.int .i64 y.tu) := HS.out.cell 0 rfl 3 rfl
    go_wp2_with fail
    refine (lk_y _ _ _ (HS.out.rd 2 rfl) (HS.out.rd 0 rfl)).mono ?_
    rintro e a14 ⟨rfl, bb13⟩
    replace HS : Hid (FL w a14 [(a12.heap.size, u_z2, y), (a9.heap.size, u_z1, z), (a7.heap.size, u_y, y), (a5.heap.size, u_a, a), (a3.heap.size, u_x, z), (a1.heap.size, u_h, h)]) := HS.out.next bb13
    clear bb13 p_y_0 p_y_1 p_y_2 p_y_3 p_z2_0 p_z2_1 p_z2_2 p_z2_3
    go_upto_region 13 with fail
    replace HS : Hid (FL w a14 [(a7.heap.size, u_y, y), (a5.heap.size, u_a, a), (a3.heap.size, u_x, z), (a1.heap.size, u_h, h)]) := HS.out.sub (.cons _ (.cons _ (.cons_cons _ (.cons_cons _ (.cons_cons _ (.cons_cons _ (.slnil)))))))
    go_cut [102] (fun t wx => t = .bool false ∧ Hid (FL w wx [(a7.heap.size, u_y, y), (a5.heap.size, u_a, a), (a3.heap.size, u_x, z), (a1.heap.size, u_h, h)]))
    case first =>
      clear H_z l_z lk_z
      have CC := clear_cases a b
      rw [H_y.out] at CC
      simp only [Prod.mk.injEq] at CC
      rcases CC with ⟨t, hy, hj⟩ | ⟨⟨hy, hj⟩, hr⟩ | ⟨hy, hj⟩
      · subst hj
        clear H_y
        have hk0 : y.kd = 0 := by rw [hy]
        have hks : y.ks = [0, 0, 0, 0] := by rw [hy]
        have RY : Hid (Reads a14 u_y [0, 0, 0, 0]) := by have := (HS.out.rd 0 rfl); rw [hks] at this; exact this
        have p_y_0 : a14.cell? ⟨a7.heap.size, 0, none⟩ = some (u_y) := HS.out.cell 0 rfl 0 rfl
        have p_y_1 : a14.cell? ⟨a7.heap.size, 1, none⟩ = some (.int .i64 y.kd) := HS.out.cell 0 rfl 1 rfl
        rw [hk0] at p_y_1
        clear hy hk0 hks
        have cl := like_any u_y (.slice (some ⟨a14.heap.size, 0, none⟩) 4 4) [0, 0, 0, 0] [0, 0, 0, 0] (a14.alloc (.cells #[.int .i64 0, .int .i64 0, .int .i64 0, .int .i64 0] 2)) (RY.out.below ((Below.refl _ _).alloc (Nat.le_refl _) _) (Nat.le_refl _)) (lit4_reads a14) (by decide)
        simp only [decide_true] at cl
        replace HS : Hid (FL w (a14.alloc (.cells #[.int .i64 0, .int .i64 0, .int .i64 0, .int .i64 0] 2)) [(a7.heap.size, u_y, y), (a5.heap.size, u_a, a), (a3.heap.size, u_x, z), (a1.heap.size, u_h, h)]) := HS.out.next ((Below.refl _ _).alloc (Nat.le_refl _) _)
        go_wp2_with fail
        refine cl.mono ?_
        rintro e ax ⟨rfl, hx⟩
        obtain ⟨nx, rfl⟩ := hx
        replace HS := HS.out.drewN nx
        go_wp2_with fail
        go_meet
        exact ⟨rfl, HS⟩
      · subst hj
        subst hy
        clear H_y
        have cr := fun u w' (hr' : Reads w' u y.ks) => sReg_any u y b w' hr' l_a
        simp only [hr] at cr
        clear hr
        have p_y_0 : a14.cell? ⟨a7.heap.size, 0, none⟩ = some (u_y) := HS.out.cell 0 rfl 0 rfl
        have p_y_1 : a14.cell? ⟨a7.heap.size, 1, none⟩ = some (.int .i64 y.kd) := HS.out.cell 0 rfl 1 rfl
        have p_y_2 : a14.cell? ⟨a7.heap.size, 2, none⟩ = some (.int .i64 y.ho) := HS.out.cell 0 rfl 2 rfl
        have p_y_3 : a14.cell? ⟨a7.heap.size, 3, none⟩ = some (.int .i64 y.tu) := HS.out.cell 0 rfl 3 rfl
        have p_a_0 : a14.cell? ⟨a5.heap.size, 0, none⟩ = some (u_a) := HS.out.cell 1 rfl 0 rfl
        have p_a_1 : a14.cell? ⟨a5.heap.size, 1, none⟩ = some (.int .i64 y.kd) := HS.out.cell 1 rfl 1 rfl
        have p_a_2 : a14.cell? ⟨a5.heap.size, 2, none⟩ = some (.int .i64 y.ho) := HS.out.cell 1 rfl 2 rfl
        have p_a_3 : a14.cell? ⟨a5.heap.size, 3, none⟩ = some (.int .i64 y.tu) := HS.out.cell 1 rfl 3 rfl
        go_wp2_with fail
        refine (lk_y _ _ _ (HS.out.rd 0 rfl) (HS.out.rd 1 rfl)).mono ?_
        rintro e a15 ⟨rfl, bb14⟩
        replace HS : Hid (FL w a15 [(a7.heap.size, u_y, y), (a5.heap.size, u_a, y), (a3.heap.size, u_x, z), (a1.heap.size, u_h, h)]) := HS.out.next bb14
        clear bb14 p_y_0 p_y_1 p_y_2 p_y_3 p_a_0 p_a_1 p_a_2 p_a_3
        have p_a_0 : a15.cell? ⟨a5.heap.size, 0, none⟩ = some (u_a) := HS.out.cell 1 rfl 0 rfl
        have p_a_1 : a15.cell? ⟨a5.heap.size, 1, none⟩ = some (.int .i64 y.kd) := HS.out.cell 1 rfl 1 rfl
        have p_a_2 : a15.cell? ⟨a5.heap.size, 2, none⟩ = some (.int .i64 y.ho) := HS.out.cell 1 rfl 2 rfl
        have p_a_3 : a15.cell? ⟨a5.heap.size, 3, none⟩ = some (.int .i64 y.tu) := HS.out.cell 1 rfl 3 rfl
        go_wp2_with fail
        refine (cr _ _ (HS.out.rd 1 rfl)).mono ?_
        rintro e a16 ⟨rfl, bb15⟩
        replace HS : Hid (FL w a16 [(a7.heap.size, u_y, y), (a5.heap.size, u_a, y), (a3.heap.size, u_x, z), (a1.heap.size, u_h, h)]) := HS.out.next bb15
        clear bb15 p_a_0 p_a_1 p_a_2 p_a_3
        go_wp2_with fail
        go_meet
        exact ⟨rfl, HS⟩
      · subst hj
        clear H_y hy
        go_wp2_with fail
        go_meet
        exact ⟨rfl, HS⟩
    case rest =>
      clear HS
      obtain ⟨rfl, HS⟩ := hcut
      clear H_y lk_y l_y l_a e_j
      replace HS : Hid (FL w wc [(a3.heap.size, u_x, z), (a1.heap.size, u_h, h)]) := HS.out.sub (.cons _ (.cons _ (.cons_cons _ (.cons_cons _ (.slnil)))))
      have RC := register_cases h x key
      rw [H_z.out] at RC
      simp only [Prod.mk.injEq] at RC
      clear H_z
      rcases RC with ⟨hz, hk⟩ | ⟨ok, hx, hky, hz, hk⟩
      · subst hk
        subst hz
        clear lk_z l_z
        have cl := fun u w' (hu : Reads w' u Hd.zero.ks) => likeH_any u (.slice none 0 0) Hd.zero Hd.zero w' hu (Own.nil w' 0).reads (by decide)
        simp only [likeH_same] at cl
        unfold HV hdA at cl
        have p_x_0 : wc.cell? ⟨a3.heap.size, 0, none⟩ = some (u_x) := HS.out.cell 0 rfl 0 rfl
        have p_x_1 : wc.cell? ⟨a3.heap.size, 1, none⟩ = some (.int .i64 Hd.zero.kd) := HS.out.cell 0 rfl 1 rfl
        have p_x_2 : wc.cell? ⟨a3.heap.size, 2, none⟩ = some (.int .i64 Hd.zero.ho) := HS.out.cell 0 rfl 2 rfl
        have p_x_3 : wc.cell? ⟨a3.heap.size, 3, none⟩ = some (.int .i64 Hd.zero.tu) := HS.out.cell 0 rfl 3 rfl
        go_wp2_with fail
        refine (cl _ _ (HS.out.rd 0 rfl)).mono ?_
        rintro e a17 ⟨rfl, bb16⟩
        replace HS : Hid (FL w a17 [(a3.heap.size, u_x, Hd.zero), (a1.heap.size, u_h, h)]) := HS.out.next bb16
        clear bb16 p_x_0 p_x_1 p_x_2 p_x_3
        have HB : Hid (Below w.heap.size w _) := HS.out.1
        clear HS
        go_wp2
        go_ret
        exact ⟨rfl, HB.out⟩
      · subst hk
        have zok : z.ok = true := by rw [hz]; exact (regd_ok ok hx hky).1
        have zkd : z.kd = h.kd ∨ key = 0 ∧ z.kd = 0 := by rw [hz]; exact (regd_ok ok hx hky).2
        have h4 := (ok_iff.1 ok).1
        have ht := (ok_iff.1 ok).2.1
        have z4 := (ok_iff.1 zok).1
        have ztu : Hid (z.tu = (h.tu + 1) % 1000000001) := by rw [Hid, hz, regd_tu]; exact turn_mod _ ht.1 ht.2
        have HK : Hid (z.kd = h.kd ∨ key = 0 ∧ z.kd = 0) := zkd
        have HT : Hid (0 ≤ h.tu ∧ h.tu ≤ 1000000000) := ht
        clear zkd ht
        have zks : Hid (∀ m : Nat, z.ks.getD m 0 = if m = x.toNat then key else h.ks.getD m 0) := fun m => by rw [hz, regd_ks]; exact getD_set (by omega)
        clear hz ok hky lk_z
        obtain ⟨m, rfl⟩ : ∃ m : Nat, x = (m : Int) := ⟨x.toNat, by omega⟩
        obtain ⟨bx, ox, cx, rfl, cx4, cxm, -⟩ := reads_four (HS.out.rd 0 rfl) z4
        obtain ⟨bh, oh, ch, rfl, ch4, chm, -⟩ := reads_four (HS.out.rd 1 rfl) h4
        unfold maxLen at cxm chm
        go_wp2_with fail
        go_loopw [16] (fun i wr => ∃ j : Nat, (j : Int) ≤ 4 ∧ i = .int .i64 j ∧ Hid (FL w wr [(a3.heap.size, (.slice (some ⟨bx, ox, none⟩) 4 cx), z), (a1.heap.size, (.slice (some ⟨bh, oh, none⟩) 4 ch), h)])) (fun i _ => 4 - (intOf i).toNat)
        case atStart => exact ⟨0, by omega, rfl, HS⟩
        case round =>
          obtain ⟨j, hj, rfl, HR⟩ := hrel
          clear HS
          have HS := HR
          clear HR
          by_cases hlt : (j : Int) < 4
          · have kx := reads_key (HS.out.rd 0 rfl) j (by omega)
            have kh := reads_key (HS.out.rd 1 rfl) j (by omega)
            have zj := zks.out j
            rw [zj] at kx
            have p_x_0 : wr.cell? ⟨a3.heap.size, 0, none⟩ = some ((.slice (some ⟨bx, ox, none⟩) 4 cx)) := HS.out.cell 0 rfl 0 rfl
            have p_h_0 : wr.cell? ⟨a1.heap.size, 0, none⟩ = some ((.slice (some ⟨bh, oh, none⟩) 4 ch)) := HS.out.cell 1 rfl 0 rfl
            by_cases hjm : j = m
            · have hb : ((j : Int) != (m : Int)) = false := by simp [hjm]
              clear kx kh zj zks hjm
              have HQ := HS
              clear HS
              go_upto_region 20 with fail
              go_quiet (fail)
              go_wp2
              go_roundw
              case rel => exact ⟨j + 1, by omega, by go_num, HQ.out.drewN _⟩
              case measure => simp [intOf]; omega
            · rw [if_neg (by simpa using hjm)] at kx
              obtain ⟨yy, hyy⟩ : ∃ yy, yy = h.ks.getD j 0 := ⟨_, rfl⟩
              rw [← hyy] at kx kh
              have hb : ((j : Int) != (m : Int)) = true := by simp; omega
              have hyb : (yy != yy) = false := by simp
              clear zj zks hjm hyy
              have HQ := HS
              clear HS
              go_upto_region 20 with fail
              go_quiet (fail)
              go_wp2
              go_roundw
              case rel => exact ⟨j + 1, by omega, by go_num, HQ.out.drewN _⟩
              case measure => simp [intOf]; omega
          · have co := fun u w' (hr : Reads w' u z.ks) => sholdok_any u z w' hr l_z
            simp only [zok] at co
            have hm4 : m < 4 := by omega
            have p_x_0 : wr.cell? ⟨a3.heap.size, 0, none⟩ = some ((.slice (some ⟨bx, ox, none⟩) 4 cx)) := HS.out.cell 0 rfl 0 rfl
            have p_x_1 : wr.cell? ⟨a3.heap.size, 1, none⟩ = some (.int .i64 z.kd) := HS.out.cell 0 rfl 1 rfl
            have p_x_2 : wr.cell? ⟨a3.heap.size, 2, none⟩ = some (.int .i64 z.ho) := HS.out.cell 0 rfl 2 rfl
            have p_x_3 : wr.cell? ⟨a3.heap.size, 3, none⟩ = some (.int .i64 z.tu) := HS.out.cell 0 rfl 3 rfl
            go_wp2_with fail
            refine (co _ _ (HS.out.rd 0 rfl)).mono ?_
            rintro e a18 ⟨rfl, bb17⟩
            replace HS : Hid (FL w a18 [(a3.heap.size, (.slice (some ⟨bx, ox, none⟩) 4 cx), z), (a1.heap.size, (.slice (some ⟨bh, oh, none⟩) 4 ch), h)]) := HS.out.next bb17
            clear bb17 p_x_0 p_x_1 p_x_2 p_x_3
            have p_x_0 : a18.cell? ⟨a3.heap.size, 0, none⟩ = some ((.slice (some ⟨bx, ox, none⟩) 4 cx)) := HS.out.cell 0 rfl 0 rfl
            have p_x_1 : a18.cell? ⟨a3.heap.size, 1, none⟩ = some (.int .i64 z.kd) := HS.out.cell 0 rfl 1 rfl
            have p_x_3 : a18.cell? ⟨a3.heap.size, 3, none⟩ = some (.int .i64 z.tu) := HS.out.cell 0 rfl 3 rfl
            have p_h_1 : a18.cell? ⟨a1.heap.size, 1, none⟩ = some (.int .i64 h.kd) := HS.out.cell 1 rfl 1 rfl
            have p_h_3 : a18.cell? ⟨a1.heap.size, 3, none⟩ = some (.int .i64 h.tu) := HS.out.cell 1 rfl 3 rfl
            have kx := reads_key (HS.out.rd 0 rfl) m hm4
            rw [zks.out m, if_pos (by simp)] at kx
            clear co zks zok z4 h4
            obtain ⟨t0, t1⟩ := HT.out
            have hwr : IntKind.i64.wrap (h.tu + 1) = h.tu + 1 := by rw [IntKind.wrap_i64]; omega
            have htm : (h.tu + 1).tmod 1000000001 = z.tu := by rw [ztu.out]; exact Int.tmod_eq_emod_of_nonneg (by omega)
            have HB : Hid (Below w.heap.size w _) := HS.out.1
            clear HS ztu HT
            by_cases hkd : z.kd = h.kd
            · have hkb : (z.kd == h.kd) = true := by simpa using hkd
              clear HK hkd
              go_wp2
              go_ret
              exact ⟨rfl, HB.out⟩
            · obtain ⟨rfl, hz0⟩ : key = 0 ∧ z.kd = 0 := HK.out.resolve_left hkd
              rw [hz0] at hkd p_x_1
              have hkb : (0 == h.kd) = false := by simpa using hkd
              clear HK hkd hz0
              go_wp2
              go_ret
              exact ⟨rfl, HB.out⟩

set_option maxRecDepth 100000 in
theorem lifted (os : Os) (started : os.Started) (H : Type) (enc : TypeId × Value → H) :
    ReturnsInHanded {} Try.checked os 3 .any (Rows.fnRegisterSpec.pre6 enc Try.prog Try.f3 Rows.fnRegisterRow.domain false) (Rows.fnRegisterSpec.post enc Try.prog Try.f3 false true false false) := by
  refine returnsInHanded_of_change (C := Try.checked) own started (by kernel_rfl) Try.func3
    (ChangeSpec.witness6 (enc := enc) (C := Try.checked) false ⟨#[], #[.slice none 0 0], []⟩ 8 (by kernel_rfl) (by kernel_rfl) (by kernel_rfl) (by kernel_rfl)) ?_
  intro W base args ds gs before hval0 hW hcnd _
  have hval : ∀ (j : Nat) t v, Try.f3.params[j]? = some t → args[j]? = some v → Value.okWide Try.prog W .any base t v := hval0
  have hW' := hW
  obtain ⟨p, q, hA0, hV, rfl, hfz, hnd⟩ := hW
  have hA : DataW.TrodAll enc Try.prog W 0 (fun _ => true) true Try.f3.params.toList args.toList ds p := hA0
  rw [Try.params3] at hA hval
  obtain ⟨v0, vs0, d0, ds0, p0, q0, hargs, rfl, rfl, h0, r0⟩ := trodAll_cons hA
  obtain ⟨rfl, rfl, rfl⟩ := trodAll_nil r0
  obtain rfl : args = #[v0] := by cases args; simp_all
  obtain ⟨rfl, rfl⟩ := trodVars_none hV
  obtain ⟨a0, len0, cap0, rfl⟩ := okWide_slice Try.underlying22 (hval 0 22 v0 rfl rfl)
  have k0 := h0
  have lt0 : ∀ x ∈ p0, x.block < W.heap.size := by obtain ⟨m, hm⟩ := k0; exact DataW.trod_lt m _ _ _ hm
  obtain ⟨z0, w0⟩ : ∃ zs, IsRow .u8 W a0 len0 cap0 zs := by
    obtain ⟨fuel, hf⟩ := h0
    rcases open_ints Try.underlying22 Try.underlying5 (by kernel_rfl) hf with ⟨hcs, _⟩ | ⟨x, l, c, zs, hcs, _, hl, hm, hz, _, hcell, hwz⟩
    · simp [Value.cells] at hcs
      obtain ⟨rfl, rfl, rfl⟩ := hcs
      exact ⟨[], .inl ⟨rfl, rfl, rfl, rfl⟩⟩
    · simp [Value.cells] at hcs
      obtain ⟨rfl, rfl, rfl⟩ := hcs
      exact ⟨zs, .inr ⟨_, rfl, hl, hm, by simpa using hz, hcell, hwz⟩⟩
  clear hA0 hval0
  refine (walk a0 len0 cap0 z0 W w0).mono fun e W' ⟨he, bel⟩ => ?_
  subst he
  exact ⟨_, rfl, _, _, _, [], _, [], hW', trodAll_mk1 (shut_bool Try.underlying4 _), (trodAll_cons_mk (Below.trod laidOut (by kernel_rfl) (of_decide_eq_true (by kernel_rfl)) k0 bel lt0) trodAll_mk0), rfl, bel.frame _, fun h => by cases h⟩

theorem over : Rows.fnRegisterRow.holds Try.pinned (OpenSpec.ofChange Rows.fnRegisterSpec) :=
  OpenClaim.holds_of_wide 3 Try.f3 rfl rfl rfl rfl rfl rfl rfl ⟨rfl, rfl, rfl, rfl, rfl⟩ rfl rfl rfl rfl rfl (by kernel_rfl) Try.func3 (by kernel_rfl)
    (of_decide_eq_true (by kernel_rfl)) (by unfold Func.isWrapper; first | (rw [if_pos (by decide +kernel)]; kernel_rfl) | (rw [if_neg (by decide +kernel)]; exact ⟨rfl, rfl⟩))
    (fun os started H enc _ => lifted os started H enc)

theorem proved : Rows.FnRegisterSaid := over
end Go.Proofs.Ytppkncmlloelbaa.fnRegister
namespace Go.Proofs.Ytppkncmlloelbaa
theorem fnRegister_holds : Rows.FnRegisterSaid := fnRegister.proved
end Go.Proofs.Ytppkncmlloelbaa
