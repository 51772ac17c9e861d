/- At every list of bytes the law FnReserve returns true: who reserves holds it, another one's is not taken, and who releases does not hold it; and the program answers as the model. -/
import Derived.Test.YtppkncmlloelbaaRows
import Derived.WalkKit
import Derived.ProofKit
import Derived.OpenShut
import Derived.ShutString
import Derived.ChangeOld
import Derived.Below
import Derived.Test.YtppkncmlloelbaaDrawSets
import Derived.Test.YtppkncmlloelbaaDrawAct
import Derived.Test.YtppkncmlloelbaaActSta
import Derived.Test.YtppkncmlloelbaaActLaws2
import Derived.Test.YtppkncmlloelbaaLikeHold
import Derived.Test.YtppkncmlloelbaaIAct
import Derived.Test.YtppkncmlloelbaaIHold2
import Derived.Test.YtppkncmlloelbaaSHold2
namespace Go.Proofs.Ytppkncmlloelbaa.fnReserve
open Go.ChangeShapes Go.WideShapes Go.ChangeAt Go.RowKit
open Go.ChangeMaps (open_string shut_string)
set_option linter.unusedVariables false

theorem own : ownKnob Try.prog.godebug = none := by kernel_rfl
theorem laidOut : laidOutB Try.prog = true := by kernel_rfl

def IsRow (k : IntKind) (w : World) (a : Option Addr) (len cap : Nat) (zs : List Int) : Prop :=
  (a = none ∧ len = 0 ∧ cap = 0 ∧ zs = []) ∨
  ∃ x, a = some x ∧ len ≤ cap ∧ cap ≤ maxLen ∧ zs.length = cap ∧ (∀ i, i < zs.length → w.cell? (x.add i) = some (.int k (zs.getD i 0))) ∧ ∀ n ∈ zs, (Lit.int k n).wf = true

set_option maxRecDepth 20000 in
set_option maxHeartbeats 8000000 in
theorem walk (a0 : Option Addr) (len0 cap0 : Nat) (z0 : List Int) (w : World) (w0 : IsRow .u8 w a0 len0 cap0 z0) :
    Calls Try.prog 5 #[.slice a0 len0 cap0] w fun e w' => e = .returned (.bool true) ∧ Below w.heap.size w w' := by
  by_cases hbig : (4096 : Int) < (len0 : Int)
  · go_enter Try.func5, Try.ntmps5
    go_wp2_with (go_at_call 12; refine (big_any _ _ _ _).mono ?_; rintro e w' ⟨rfl, hw'⟩; subst w')
    go_ret
    exact ⟨rfl, Below.refl _ _⟩
  · have HC : Hid (CodeOk w w.heap.size (.slice a0 len0 cap0)) := codeOk_row w0 (by omega)
    clear w0
    have HS : Hid (FL w w []) := FL.start w
    go_enter Try.func5, Try.ntmps5
    go_wp2_with fail
    refine (big_any _ _ _ _).mono ?_
    rintro e w' ⟨rfl, hw'⟩; subst w'
    go_wp2_with fail
    refine (drawRes_any w.heap.size _ _ (HC.out.below HS.out.1) HS.out.1.size ).mono ?_
    rintro e a1 ⟨h, u_h, x, kind, rfl, D1, B1⟩
    have l_h : h.ks.length ≤ 1099511627776 := by have := D1.2.2; omega
    have RR : Hid (Reads a1 u_h h.ks) := D1.1
    replace HS : Hid (FL w a1 []) := HS.out.next B1
    clear D1 B1
    have zz : Hid (StB (a1.alloc (.cells zHd 26)) a1.heap.size 26 zHd) := StB.new _ _ _
    go_upto_region 4 with (first | (refine wpList_putS Try.isH rfl _ _ rfl a1.heap.size (hdA u_h h) zHd rfl rfl rfl rfl (hdA_one _ (reads_one RR.out)) zz.out ?_; intro a2 hh gg))
    replace HS : Hid (FL w a2 [(a1.heap.size, u_h, h)]) := HS.out.new RR.out hh gg
    clear hh gg zz RR
    obtain ⟨z, k, h_z⟩ : ∃ z k, h.reserve x kind = (z, k) := ⟨_, _, rfl⟩
    have l_z : z.ks.length ≤ 1099511627776 := by have := reserve_len h x kind; rw [h_z] at this; dsimp only at this; omega
    have ci := fun u w' (hr : Reads w' u h.ks) => ireserve_any u h x kind w' hr l_h
    simp only [h_z] at ci
    unfold Ans at ci
    dsimp only at ci
    have cs := fun u w' (hr : Reads w' u h.ks) => sreserve_any u h x kind w' hr l_h
    simp only [h_z] at cs
    unfold Ans at cs
    dsimp only at cs
    have e_k : (k != k) = false := by simp
    have H_z : Hid (h.reserve x kind = (z, k)) := h_z
    have lk_z := fun u v w' (hu : Reads w' u z.ks) (hv : Reads w' v z.ks) => likeH_any u v z z w' hu hv l_z
    simp only [likeH_same] at lk_z
    clear h_z
    have p_h_0 : a2.cell? ⟨a1.heap.size, 0, none⟩ = some (u_h) := HS.out.cell 0 rfl 0 rfl
    have p_h_1 : a2.cell? ⟨a1.heap.size, 1, none⟩ = some (.int .i64 h.kd) := HS.out.cell 0 rfl 1 rfl
    have p_h_2 : a2.cell? ⟨a1.heap.size, 2, none⟩ = some (.int .i64 h.ho) := HS.out.cell 0 rfl 2 rfl
    have p_h_3 : a2.cell? ⟨a1.heap.size, 3, none⟩ = some (.int .i64 h.tu) := HS.out.cell 0 rfl 3 rfl
    go_wp2_with fail
    refine (ci _ _ (HS.out.rd 0 rfl)).mono ?_
    rintro e a3 ⟨u_x, rfl, O1, B1⟩
    have RR : Hid (Reads a3 u_x z.ks) := O1.reads
    replace HS : Hid (FL w a3 [(a1.heap.size, u_h, h)]) := HS.out.next B1
    clear O1 B1 p_h_0 p_h_1 p_h_2 p_h_3
    have zz : Hid (StB (a3.alloc (.cells zHd 26)) a3.heap.size 26 zHd) := StB.new _ _ _
    go_upto_region 5 with (first | (refine wpList_putS Try.isH rfl _ _ rfl a3.heap.size (hdA u_x z) zHd rfl rfl rfl rfl (hdA_one _ (reads_one RR.out)) zz.out ?_; intro a4 hh gg))
    replace HS : Hid (FL w a4 [(a3.heap.size, u_x, z), (a1.heap.size, u_h, h)]) := HS.out.new RR.out hh gg
    clear hh gg zz RR
    clear ci
    go_wp2_with fail
    refine (drawRel_any w.heap.size _ _ (HC.out.below HS.out.1) HS.out.1.size ).mono ?_
    rintro e a5 ⟨a, u_a, b, rfl, D1, B1⟩
    have l_a : a.ks.length ≤ 1099511627776 := by have := D1.2.2; omega
    have RR : Hid (Reads a5 u_a a.ks) := D1.1
    replace HS : Hid (FL w a5 [(a3.heap.size, u_x, z), (a1.heap.size, u_h, h)]) := HS.out.next B1
    clear D1 B1
    have zz : Hid (StB (a5.alloc (.cells zHd 26)) a5.heap.size 26 zHd) := StB.new _ _ _
    go_upto_region 6 with (first | (refine wpList_putS Try.isH rfl _ _ rfl a5.heap.size (hdA u_a a) zHd rfl rfl rfl rfl (hdA_one _ (reads_one RR.out)) zz.out ?_; intro a6 hh gg))
    replace HS : Hid (FL w a6 [(a5.heap.size, u_a, a), (a3.heap.size, u_x, z), (a1.heap.size, u_h, h)]) := HS.out.new RR.out hh gg
    clear hh gg zz RR
    obtain ⟨y, j, h_y⟩ : ∃ y j, a.release b = (y, j) := ⟨_, _, rfl⟩
    have l_y : y.ks.length ≤ 1099511627776 := by have := release_len a b; rw [h_y] at this; dsimp only at this; omega
    have di := fun u w' (hr : Reads w' u a.ks) => irelease_any u a b w' hr l_a
    simp only [h_y] at di
    unfold Ans at di
    dsimp only at di
    have ds := fun u w' (hr : Reads w' u a.ks) => srelease_any u a b w' hr l_a
    simp only [h_y] at ds
    unfold Ans at ds
    dsimp only at ds
    have e_j : (j != j) = false := by simp
    have H_y : Hid (a.release b = (y, j)) := h_y
    have lk_y := fun u v w' (hu : Reads w' u y.ks) (hv : Reads w' v y.ks) => likeH_any u v y y w' hu hv l_y
    simp only [likeH_same] at lk_y
    clear h_y
    have p_a_0 : a6.cell? ⟨a5.heap.size, 0, none⟩ = some (u_a) := HS.out.cell 0 rfl 0 rfl
    have p_a_1 : a6.cell? ⟨a5.heap.size, 1, none⟩ = some (.int .i64 a.kd) := HS.out.cell 0 rfl 1 rfl
    have p_a_2 : a6.cell? ⟨a5.heap.size, 2, none⟩ = some (.int .i64 a.ho) := HS.out.cell 0 rfl 2 rfl
    have p_a_3 : a6.cell? ⟨a5.heap.size, 3, none⟩ = some (.int .i64 a.tu) := HS.out.cell 0 rfl 3 rfl
    go_wp2_with fail
    refine (di _ _ (HS.out.rd 0 rfl)).mono ?_
    rintro e a7 ⟨u_y, rfl, O1, B1⟩
    have RR : Hid (Reads a7 u_y y.ks) := O1.reads
    replace HS : Hid (FL w a7 [(a5.heap.size, u_a, a), (a3.heap.size, u_x, z), (a1.heap.size, u_h, h)]) := HS.out.next B1
    clear O1 B1 p_a_0 p_a_1 p_a_2 p_a_3
    have zz : Hid (StB (a7.alloc (.cells zHd 26)) a7.heap.size 26 zHd) := StB.new _ _ _
    go_upto_region 7 with (first | (refine wpList_putS Try.isH rfl _ _ rfl a7.heap.size (hdA u_y y) zHd rfl rfl rfl rfl (hdA_one _ (reads_one RR.out)) zz.out ?_; intro a8 hh gg))
    replace HS : Hid (FL w a8 [(a7.heap.size, u_y, y), (a5.heap.size, u_a, a), (a3.heap.size, u_x, z), (a1.heap.size, u_h, h)]) := HS.out.new RR.out hh gg
    clear hh gg zz RR
    clear di HC
    have p_h_0 : a8.cell? ⟨a1.heap.size, 0, none⟩ = some (u_h) := HS.out.cell 3 rfl 0 rfl
    have p_h_1 : a8.cell? ⟨a1.heap.size, 1, none⟩ = some (.int .i64 h.kd) := HS.out.cell 3 rfl 1 rfl
    have p_h_2 : a8.cell? ⟨a1.heap.size, 2, none⟩ = some (.int .i64 h.ho) := HS.out.cell 3 rfl 2 rfl
    have p_h_3 : a8.cell? ⟨a1.heap.size, 3, none⟩ = some (.int .i64 h.tu) := HS.out.cell 3 rfl 3 rfl
    go_wp2_with fail
    refine (cs _ _ (HS.out.rd 3 rfl)).mono ?_
    rintro e a9 ⟨u_z1, rfl, O1, B1⟩
    have RR : Hid (Reads a9 u_z1 z.ks) := O1.reads
    replace HS : Hid (FL w a9 [(a7.heap.size, u_y, y), (a5.heap.size, u_a, a), (a3.heap.size, u_x, z), (a1.heap.size, u_h, h)]) := HS.out.next B1
    clear O1 B1 p_h_0 p_h_1 p_h_2 p_h_3
    have zz : Hid (StB (a9.alloc (.cells zHd 26)) a9.heap.size 26 zHd) := StB.new _ _ _
    go_upto_region 8 with (first | (refine wpList_putS Try.isH rfl _ _ rfl a9.heap.size (hdA u_z1 z) zHd rfl rfl rfl rfl (hdA_one _ (reads_one RR.out)) zz.out ?_; intro a10 hh gg))
    replace HS : Hid (FL w a10 [(a9.heap.size, u_z1, z), (a7.heap.size, u_y, y), (a5.heap.size, u_a, a), (a3.heap.size, u_x, z), (a1.heap.size, u_h, h)]) := HS.out.new RR.out hh gg
    clear hh gg zz RR
    clear cs
    have p_x_0 : a10.cell? ⟨a3.heap.size, 0, none⟩ = some (u_x) := HS.out.cell 3 rfl 0 rfl
    have p_x_1 : a10.cell? ⟨a3.heap.size, 1, none⟩ = some (.int .i64 z.kd) := HS.out.cell 3 rfl 1 rfl
    have p_x_2 : a10.cell? ⟨a3.heap.size, 2, none⟩ = some (.int .i64 z.ho) := HS.out.cell 3 rfl 2 rfl
    have p_x_3 : a10.cell? ⟨a3.heap.size, 3, none⟩ = some (.int .i64 z.tu) := HS.out.cell 3 rfl 3 rfl
    have p_z1_0 : a10.cell? ⟨a9.heap.size, 0, none⟩ = some (u_z1) := HS.out.cell 0 rfl 0 rfl
    have p_z1_1 : a10.cell? ⟨a9.heap.size, 1, none⟩ = some (.int .i64 z.kd) := HS.out.cell 0 rfl 1 rfl
    have p_z1_2 : a10.cell? ⟨a9.heap.size, 2, none⟩ = some (.int .i64 z.ho) := HS.out.cell 0 rfl 2 rfl
    have p_z1_3 : a10.cell? ⟨a9.heap.size, 3, none⟩ = some (.int .i64 z.tu) := HS.out.cell 0 rfl 3 rfl
    go_wp2_with fail
    refine (lk_z _ _ _ (HS.out.rd 3 rfl) (HS.out.rd 0 rfl)).mono ?_
    rintro e a11 ⟨rfl, bb10⟩
    replace HS : Hid (FL w a11 [(a9.heap.size, u_z1, z), (a7.heap.size, u_y, y), (a5.heap.size, u_a, a), (a3.heap.size, u_x, z), (a1.heap.size, u_h, h)]) := HS.out.next bb10
    clear bb10 p_x_0 p_x_1 p_x_2 p_x_3 p_z1_0 p_z1_1 p_z1_2 p_z1_3
    go_upto_region 10 with fail
    have p_a_0 : a11.cell? ⟨a5.heap.size, 0, none⟩ = some (u_a) := HS.out.cell 2 rfl 0 rfl
    have p_a_1 : a11.cell? ⟨a5.heap.size, 1, none⟩ = some (.int .i64 a.kd) := HS.out.cell 2 rfl 1 rfl
    have p_a_2 : a11.cell? ⟨a5.heap.size, 2, none⟩ = some (.int .i64 a.ho) := HS.out.cell 2 rfl 2 rfl
    have p_a_3 : a11.cell? ⟨a5.heap.size, 3, none⟩ = some (.int .i64 a.tu) := HS.out.cell 2 rfl 3 rfl
    go_wp2_with fail
    refine (ds _ _ (HS.out.rd 2 rfl)).mono ?_
    rintro e a12 ⟨u_z2, rfl, O1, B1⟩
    have RR : Hid (Reads a12 u_z2 y.ks) := O1.reads
    replace HS : Hid (FL w a12 [(a9.heap.size, u_z1, z), (a7.heap.size, u_y, y), (a5.heap.size, u_a, a), (a3.heap.size, u_x, z), (a1.heap.size, u_h, h)]) := HS.out.next B1
    clear O1 B1 p_a_0 p_a_1 p_a_2 p_a_3
    have zz : Hid (StB (a12.alloc (.cells zHd 26)) a12.heap.size 26 zHd) := StB.new _ _ _
    go_upto_region 11 with (first | (refine wpList_putS Try.isH rfl _ _ rfl a12.heap.size (hdA u_z2 y) zHd rfl rfl rfl rfl (hdA_one _ (reads_one RR.out)) zz.out ?_; intro a13 hh gg))
    replace HS : Hid (FL w a13 [(a12.heap.size, u_z2, y), (a9.heap.size, u_z1, z), (a7.heap.size, u_y, y), (a5.heap.size, u_a, a), (a3.heap.size, u_x, z), (a1.heap.size, u_h, h)]) := HS.out.new RR.out hh gg
    clear hh gg zz RR
    clear ds
    have p_y_0 : a13.cell? ⟨a7.heap.size, 0, none⟩ = some (u_y) := HS.out.cell 2 rfl 0 rfl
    have p_y_1 : a13.cell? ⟨a7.heap.size, 1, none⟩ = some (.int .i64 y.kd) := HS.out.cell 2 rfl 1 rfl
    have p_y_2 : a13.cell? ⟨a7.heap.size, 2, none⟩ = some (.int .i64 y.ho) := HS.out.cell 2 rfl 2 rfl
    have p_y_3 : a13.cell? ⟨a7.heap.size, 3, none⟩ = some (.int .i64 y.tu) := HS.out.cell 2 rfl 3 rfl
    have p_z2_0 : a13.cell? ⟨a12.heap.size, 0, none⟩ = some (u_z2) := HS.out.cell 0 rfl 0 rfl
    have p_z2_1 : a13.cell? ⟨a12.heap.size, 1, none⟩ = some (.int .i64 y.kd) := HS.out.cell 0 rfl 1 rfl
    have p_z2_2 : a13.cell? ⟨a12.heap.size, 2, none⟩ = some (.int .i64 y.ho) := HS.out.cell 0 rfl 2 rfl
    have p_z2_3 : a13.cell? ⟨a12.heap.size, 3, none⟩ = some (.int .i64 y.tu) := HS.out.cell 0 rfl 3 rfl
    go_wp2_with fail
    refine (lk_y _ _ _ (HS.out.rd 2 rfl) (HS.out.rd 0 rfl)).mono ?_
    rintro e a14 ⟨rfl, bb13⟩
    replace HS : Hid (FL w a14 [(a12.heap.size, u_z2, y), (a9.heap.size, u_z1, z), (a7.heap.size, u_y, y), (a5.heap.size, u_a, a), (a3.heap.size, u_x, z), (a1.heap.size, u_h, h)]) := HS.out.next bb13
    clear bb13 p_y_0 p_y_1 p_y_2 p_y_3 p_z2_0 p_z2_1 p_z2_2 p_z2_3
    go_upto_region 13 with fail
    replace HS : Hid (FL w a14 [(a7.heap.size, u_y, y), (a5.heap.size, u_a, a), (a3.heap.size, u_x, z), (a1.heap.size, u_h, h)]) := HS.out.sub (.cons _ (.cons _ (.cons_cons _ (.cons_cons _ (.cons_cons _ (.cons_cons _ (.slnil)))))))
    go_cut [108] (fun t wx => t = .bool false ∧ Hid (FL w wx [(a7.heap.size, u_y, y), (a5.heap.size, u_a, a), (a3.heap.size, u_x, z), (a1.heap.size, u_h, h)]))
    case first =>
      clear H_z l_z lk_z
      have CC := release_cases a b
      rw [H_y.out] at CC
      simp only [Prod.mk.injEq] at CC
      clear H_y
      rcases CC with ⟨y', ⟨hy, hj⟩, hh, hks, htu, hor⟩ | ⟨hy, hj⟩ | ⟨hy, hj⟩
      · subst hj
        subst y'
        have ch := fun u w' (hr : Reads w' u y.ks) => iHol_any u y b w' hr l_y
        simp only [hh] at ch
        have cl := fun u v w' (hu : Reads w' u a.ks) (hv : Reads w' v a.ks) => like_any u v a.ks a.ks w' hu hv l_a
        simp only [decide_true] at cl
        have ca := fun u w' (hr : Reads w' u a.ks) => sHol_any u a b w' hr l_a
        have etu : (y.tu != a.tu) = false := by simp [htu]
        have HKS : Hid (y.ks = a.ks) := hks
        clear hks htu
        rcases Bool.eq_false_or_eq_true (a.Hol b) with ha | ha
        all_goals simp only [ha] at ca
        · clear hor ha hh
          have p_y_0 : a14.cell? ⟨a7.heap.size, 0, none⟩ = some (u_y) := HS.out.cell 0 rfl 0 rfl
          have p_y_1 : a14.cell? ⟨a7.heap.size, 1, none⟩ = some (.int .i64 y.kd) := HS.out.cell 0 rfl 1 rfl
          have p_y_2 : a14.cell? ⟨a7.heap.size, 2, none⟩ = some (.int .i64 y.ho) := HS.out.cell 0 rfl 2 rfl
          have p_y_3 : a14.cell? ⟨a7.heap.size, 3, none⟩ = some (.int .i64 y.tu) := HS.out.cell 0 rfl 3 rfl
          go_wp2_with fail
          refine (ch _ _ (HS.out.rd 0 rfl)).mono ?_
          rintro e a15 ⟨rfl, bb14⟩
          replace HS : Hid (FL w a15 [(a7.heap.size, u_y, y), (a5.heap.size, u_a, a), (a3.heap.size, u_x, z), (a1.heap.size, u_h, h)]) := HS.out.next bb14
          clear bb14 p_y_0 p_y_1 p_y_2 p_y_3
          have p_y_0 : a15.cell? ⟨a7.heap.size, 0, none⟩ = some (u_y) := HS.out.cell 0 rfl 0 rfl
          have p_a_0 : a15.cell? ⟨a5.heap.size, 0, none⟩ = some (u_a) := HS.out.cell 1 rfl 0 rfl
          have RYA : Hid (Reads a15 u_y a.ks) := by have := (HS.out.rd 0 rfl); rw [HKS.out] at this; exact this
          go_wp2_with fail
          refine (cl _ _ _ RYA.out (HS.out.rd 1 rfl)).mono ?_
          rintro e a16 ⟨rfl, hx⟩
          have bb : Below a15.heap.size a15 a16 := by obtain ⟨nx, rfl⟩ := hx; exact below_drewN (Below.refl _ _) nx
          replace HS : Hid (FL w a16 [(a7.heap.size, u_y, y), (a5.heap.size, u_a, a), (a3.heap.size, u_x, z), (a1.heap.size, u_h, h)]) := HS.out.next bb
          clear bb hx p_y_0 p_a_0
          clear RYA
          have p_y_3 : a16.cell? ⟨a7.heap.size, 3, none⟩ = some (.int .i64 y.tu) := HS.out.cell 0 rfl 3 rfl
          have p_a_0 : a16.cell? ⟨a5.heap.size, 0, none⟩ = some (u_a) := HS.out.cell 1 rfl 0 rfl
          have p_a_1 : a16.cell? ⟨a5.heap.size, 1, none⟩ = some (.int .i64 a.kd) := HS.out.cell 1 rfl 1 rfl
          have p_a_2 : a16.cell? ⟨a5.heap.size, 2, none⟩ = some (.int .i64 a.ho) := HS.out.cell 1 rfl 2 rfl
          have p_a_3 : a16.cell? ⟨a5.heap.size, 3, none⟩ = some (.int .i64 a.tu) := HS.out.cell 1 rfl 3 rfl
          go_wp2_with fail
          refine (ca _ _ (HS.out.rd 1 rfl)).mono ?_
          rintro e a17 ⟨rfl, bb16⟩
          replace HS : Hid (FL w a17 [(a7.heap.size, u_y, y), (a5.heap.size, u_a, a), (a3.heap.size, u_x, z), (a1.heap.size, u_h, h)]) := HS.out.next bb16
          clear bb16 p_y_3 p_a_0 p_a_1 p_a_2 p_a_3
          go_wp2_with fail
          go_meet
          exact ⟨rfl, HS⟩
        · have HYA : Hid (y = a) := hor.resolve_left (by rw [ha]; decide)
          clear hor ha hh
          have p_y_0 : a14.cell? ⟨a7.heap.size, 0, none⟩ = some (u_y) := HS.out.cell 0 rfl 0 rfl
          have p_y_1 : a14.cell? ⟨a7.heap.size, 1, none⟩ = some (.int .i64 y.kd) := HS.out.cell 0 rfl 1 rfl
          have p_y_2 : a14.cell? ⟨a7.heap.size, 2, none⟩ = some (.int .i64 y.ho) := HS.out.cell 0 rfl 2 rfl
          have p_y_3 : a14.cell? ⟨a7.heap.size, 3, none⟩ = some (.int .i64 y.tu) := HS.out.cell 0 rfl 3 rfl
          go_wp2_with fail
          refine (ch _ _ (HS.out.rd 0 rfl)).mono ?_
          rintro e a18 ⟨rfl, bb17⟩
          replace HS : Hid (FL w a18 [(a7.heap.size, u_y, y), (a5.heap.size, u_a, a), (a3.heap.size, u_x, z), (a1.heap.size, u_h, h)]) := HS.out.next bb17
          clear bb17 p_y_0 p_y_1 p_y_2 p_y_3
          have p_y_0 : a18.cell? ⟨a7.heap.size, 0, none⟩ = some (u_y) := HS.out.cell 0 rfl 0 rfl
          have p_a_0 : a18.cell? ⟨a5.heap.size, 0, none⟩ = some (u_a) := HS.out.cell 1 rfl 0 rfl
          have RYA : Hid (Reads a18 u_y a.ks) := by have := (HS.out.rd 0 rfl); rw [HKS.out] at this; exact this
          go_wp2_with fail
          refine (cl _ _ _ RYA.out (HS.out.rd 1 rfl)).mono ?_
          rintro e a19 ⟨rfl, hx⟩
          have bb : Below a18.heap.size a18 a19 := by obtain ⟨nx, rfl⟩ := hx; exact below_drewN (Below.refl _ _) nx
          replace HS : Hid (FL w a19 [(a7.heap.size, u_y, y), (a5.heap.size, u_a, a), (a3.heap.size, u_x, z), (a1.heap.size, u_h, h)]) := HS.out.next bb
          clear bb hx p_y_0 p_a_0
          clear RYA
          have p_y_3 : a19.cell? ⟨a7.heap.size, 3, none⟩ = some (.int .i64 y.tu) := HS.out.cell 0 rfl 3 rfl
          have p_a_0 : a19.cell? ⟨a5.heap.size, 0, none⟩ = some (u_a) := HS.out.cell 1 rfl 0 rfl
          have p_a_1 : a19.cell? ⟨a5.heap.size, 1, none⟩ = some (.int .i64 a.kd) := HS.out.cell 1 rfl 1 rfl
          have p_a_2 : a19.cell? ⟨a5.heap.size, 2, none⟩ = some (.int .i64 a.ho) := HS.out.cell 1 rfl 2 rfl
          have p_a_3 : a19.cell? ⟨a5.heap.size, 3, none⟩ = some (.int .i64 a.tu) := HS.out.cell 1 rfl 3 rfl
          go_wp2_with fail
          refine (ca _ _ (HS.out.rd 1 rfl)).mono ?_
          rintro e a20 ⟨rfl, bb19⟩
          replace HS : Hid (FL w a20 [(a7.heap.size, u_y, y), (a5.heap.size, u_a, a), (a3.heap.size, u_x, z), (a1.heap.size, u_h, h)]) := HS.out.next bb19
          clear bb19 p_y_3 p_a_0 p_a_1 p_a_2 p_a_3
          have hya := HYA.out
          subst hya
          have p_y_0 : a20.cell? ⟨a7.heap.size, 0, none⟩ = some (u_y) := HS.out.cell 0 rfl 0 rfl
          have p_y_1 : a20.cell? ⟨a7.heap.size, 1, none⟩ = some (.int .i64 y.kd) := HS.out.cell 0 rfl 1 rfl
          have p_y_2 : a20.cell? ⟨a7.heap.size, 2, none⟩ = some (.int .i64 y.ho) := HS.out.cell 0 rfl 2 rfl
          have p_y_3 : a20.cell? ⟨a7.heap.size, 3, none⟩ = some (.int .i64 y.tu) := HS.out.cell 0 rfl 3 rfl
          have p_a_0 : a20.cell? ⟨a5.heap.size, 0, none⟩ = some (u_a) := HS.out.cell 1 rfl 0 rfl
          have p_a_1 : a20.cell? ⟨a5.heap.size, 1, none⟩ = some (.int .i64 y.kd) := HS.out.cell 1 rfl 1 rfl
          have p_a_2 : a20.cell? ⟨a5.heap.size, 2, none⟩ = some (.int .i64 y.ho) := HS.out.cell 1 rfl 2 rfl
          have p_a_3 : a20.cell? ⟨a5.heap.size, 3, none⟩ = some (.int .i64 y.tu) := HS.out.cell 1 rfl 3 rfl
          go_wp2_with fail
          refine (lk_y _ _ _ (HS.out.rd 0 rfl) (HS.out.rd 1 rfl)).mono ?_
          rintro e a21 ⟨rfl, bb20⟩
          replace HS : Hid (FL w a21 [(a7.heap.size, u_y, y), (a5.heap.size, u_a, y), (a3.heap.size, u_x, z), (a1.heap.size, u_h, h)]) := HS.out.next bb20
          clear bb20 p_y_0 p_y_1 p_y_2 p_y_3 p_a_0 p_a_1 p_a_2 p_a_3
          go_wp2_with fail
          go_meet
          exact ⟨rfl, HS⟩
      · subst hj
        clear hy
        go_wp2_with fail
        go_meet
        exact ⟨rfl, HS⟩
      · subst hj
        clear hy
        go_wp2_with fail
        go_meet
        exact ⟨rfl, HS⟩
    case rest =>
      clear HS
      obtain ⟨rfl, HS⟩ := hcut
      clear H_y lk_y l_y l_a e_j
      replace HS : Hid (FL w wc [(a3.heap.size, u_x, z), (a1.heap.size, u_h, h)]) := HS.out.sub (.cons _ (.cons _ (.cons_cons _ (.cons_cons _ (.slnil)))))
      have RC := reserve_cases h x kind
      rw [H_z.out] at RC
      simp only [Prod.mk.injEq] at RC
      clear H_z
      rcases RC with ⟨hz, hk⟩ | ⟨⟨hz, hk⟩, hor⟩ | ⟨z', ⟨hz, hk⟩, hh, hkd, hor, hag, -⟩
      · subst hk
        subst hz
        clear lk_z l_z
        have cl := fun u w' (hu : Reads w' u Hd.zero.ks) => likeH_any u (.slice none 0 0) Hd.zero Hd.zero w' hu (Own.nil w' 0).reads (by decide)
        simp only [likeH_same] at cl
        unfold HV hdA at cl
        have p_x_0 : wc.cell? ⟨a3.heap.size, 0, none⟩ = some (u_x) := HS.out.cell 0 rfl 0 rfl
        have p_x_1 : wc.cell? ⟨a3.heap.size, 1, none⟩ = some (.int .i64 Hd.zero.kd) := HS.out.cell 0 rfl 1 rfl
        have p_x_2 : wc.cell? ⟨a3.heap.size, 2, none⟩ = some (.int .i64 Hd.zero.ho) := HS.out.cell 0 rfl 2 rfl
        have p_x_3 : wc.cell? ⟨a3.heap.size, 3, none⟩ = some (.int .i64 Hd.zero.tu) := HS.out.cell 0 rfl 3 rfl
        go_wp2_with fail
        refine (cl _ _ (HS.out.rd 0 rfl)).mono ?_
        rintro e a22 ⟨rfl, bb21⟩
        replace HS : Hid (FL w a22 [(a3.heap.size, u_x, Hd.zero), (a1.heap.size, u_h, h)]) := HS.out.next bb21
        clear bb21 p_x_0 p_x_1 p_x_2 p_x_3
        have HB : Hid (Below w.heap.size w _) := HS.out.1
        clear HS
        go_wp2
        go_ret
        exact ⟨rfl, HB.out⟩
      · subst hk
        subst hz
        have cr := fun u w' (hr : Reads w' u z.ks) => sReg_any u z x w' hr l_z
        have ch := fun u w' (hr : Reads w' u z.ks) => sHol_any u z x w' hr l_z
        rcases Bool.eq_false_or_eq_true (z.Reg x) with hr | hr
        all_goals simp only [hr] at cr
        · obtain ⟨hk0, hor⟩ := hor.resolve_left (by rw [hr]; decide)
          have hkb : (z.kd != 0) = true := by simpa using hk0
          clear hr hk0
          have p_x_0 : wc.cell? ⟨a3.heap.size, 0, none⟩ = some (u_x) := HS.out.cell 0 rfl 0 rfl
          have p_x_1 : wc.cell? ⟨a3.heap.size, 1, none⟩ = some (.int .i64 z.kd) := HS.out.cell 0 rfl 1 rfl
          have p_x_2 : wc.cell? ⟨a3.heap.size, 2, none⟩ = some (.int .i64 z.ho) := HS.out.cell 0 rfl 2 rfl
          have p_x_3 : wc.cell? ⟨a3.heap.size, 3, none⟩ = some (.int .i64 z.tu) := HS.out.cell 0 rfl 3 rfl
          have p_h_0 : wc.cell? ⟨a1.heap.size, 0, none⟩ = some (u_h) := HS.out.cell 1 rfl 0 rfl
          have p_h_1 : wc.cell? ⟨a1.heap.size, 1, none⟩ = some (.int .i64 z.kd) := HS.out.cell 1 rfl 1 rfl
          have p_h_2 : wc.cell? ⟨a1.heap.size, 2, none⟩ = some (.int .i64 z.ho) := HS.out.cell 1 rfl 2 rfl
          have p_h_3 : wc.cell? ⟨a1.heap.size, 3, none⟩ = some (.int .i64 z.tu) := HS.out.cell 1 rfl 3 rfl
          go_wp2_with fail
          refine (lk_z _ _ _ (HS.out.rd 0 rfl) (HS.out.rd 1 rfl)).mono ?_
          rintro e a23 ⟨rfl, bb22⟩
          replace HS : Hid (FL w a23 [(a3.heap.size, u_x, z), (a1.heap.size, u_h, z)]) := HS.out.next bb22
          clear bb22 p_x_0 p_x_1 p_x_2 p_x_3 p_h_0 p_h_1 p_h_2 p_h_3
          have p_h_0 : a23.cell? ⟨a1.heap.size, 0, none⟩ = some (u_h) := HS.out.cell 1 rfl 0 rfl
          have p_h_1 : a23.cell? ⟨a1.heap.size, 1, none⟩ = some (.int .i64 z.kd) := HS.out.cell 1 rfl 1 rfl
          have p_h_2 : a23.cell? ⟨a1.heap.size, 2, none⟩ = some (.int .i64 z.ho) := HS.out.cell 1 rfl 2 rfl
          have p_h_3 : a23.cell? ⟨a1.heap.size, 3, none⟩ = some (.int .i64 z.tu) := HS.out.cell 1 rfl 3 rfl
          go_wp2_with fail
          refine (cr _ _ (HS.out.rd 1 rfl)).mono ?_
          rintro e a24 ⟨rfl, bb23⟩
          replace HS : Hid (FL w a24 [(a3.heap.size, u_x, z), (a1.heap.size, u_h, z)]) := HS.out.next bb23
          clear bb23 p_h_0 p_h_1 p_h_2 p_h_3
          have p_h_0 : a24.cell? ⟨a1.heap.size, 0, none⟩ = some (u_h) := HS.out.cell 1 rfl 0 rfl
          have p_h_1 : a24.cell? ⟨a1.heap.size, 1, none⟩ = some (.int .i64 z.kd) := HS.out.cell 1 rfl 1 rfl
          have p_h_2 : a24.cell? ⟨a1.heap.size, 2, none⟩ = some (.int .i64 z.ho) := HS.out.cell 1 rfl 2 rfl
          have p_h_3 : a24.cell? ⟨a1.heap.size, 3, none⟩ = some (.int .i64 z.tu) := HS.out.cell 1 rfl 3 rfl
          by_cases hkk : z.kd = kind
          · have hn : z.Hol x = false := hor.resolve_left (fun e => e hkk)
            simp only [hn] at ch
            have hkn : (z.kd != kind) = false := by simp [hkk]
            clear hor hn hkk
            go_wp2_with fail
            refine (ch _ _ (HS.out.rd 1 rfl)).mono ?_
            rintro e a25 ⟨rfl, bb24⟩
            replace HS : Hid (FL w a25 [(a3.heap.size, u_x, z), (a1.heap.size, u_h, z)]) := HS.out.next bb24
            clear bb24 p_h_0 p_h_1 p_h_2 p_h_3
            have HB : Hid (Below w.heap.size w _) := HS.out.1
            clear HS
            go_wp2
            go_ret
            exact ⟨rfl, HB.out⟩
          · have hkn : (z.kd != kind) = true := by simpa using hkk
            clear hor hkk ch cr lk_z
            have HB : Hid (Below w.heap.size w _) := HS.out.1
            clear HS
            go_wp2
            go_ret
            exact ⟨rfl, HB.out⟩
        · clear hor ch hr
          have p_x_0 : wc.cell? ⟨a3.heap.size, 0, none⟩ = some (u_x) := HS.out.cell 0 rfl 0 rfl
          have p_x_1 : wc.cell? ⟨a3.heap.size, 1, none⟩ = some (.int .i64 z.kd) := HS.out.cell 0 rfl 1 rfl
          have p_x_2 : wc.cell? ⟨a3.heap.size, 2, none⟩ = some (.int .i64 z.ho) := HS.out.cell 0 rfl 2 rfl
          have p_x_3 : wc.cell? ⟨a3.heap.size, 3, none⟩ = some (.int .i64 z.tu) := HS.out.cell 0 rfl 3 rfl
          have p_h_0 : wc.cell? ⟨a1.heap.size, 0, none⟩ = some (u_h) := HS.out.cell 1 rfl 0 rfl
          have p_h_1 : wc.cell? ⟨a1.heap.size, 1, none⟩ = some (.int .i64 z.kd) := HS.out.cell 1 rfl 1 rfl
          have p_h_2 : wc.cell? ⟨a1.heap.size, 2, none⟩ = some (.int .i64 z.ho) := HS.out.cell 1 rfl 2 rfl
          have p_h_3 : wc.cell? ⟨a1.heap.size, 3, none⟩ = some (.int .i64 z.tu) := HS.out.cell 1 rfl 3 rfl
          go_wp2_with fail
          refine (lk_z _ _ _ (HS.out.rd 0 rfl) (HS.out.rd 1 rfl)).mono ?_
          rintro e a26 ⟨rfl, bb25⟩
          replace HS : Hid (FL w a26 [(a3.heap.size, u_x, z), (a1.heap.size, u_h, z)]) := HS.out.next bb25
          clear bb25 p_x_0 p_x_1 p_x_2 p_x_3 p_h_0 p_h_1 p_h_2 p_h_3
          have p_h_0 : a26.cell? ⟨a1.heap.size, 0, none⟩ = some (u_h) := HS.out.cell 1 rfl 0 rfl
          have p_h_1 : a26.cell? ⟨a1.heap.size, 1, none⟩ = some (.int .i64 z.kd) := HS.out.cell 1 rfl 1 rfl
          have p_h_2 : a26.cell? ⟨a1.heap.size, 2, none⟩ = some (.int .i64 z.ho) := HS.out.cell 1 rfl 2 rfl
          have p_h_3 : a26.cell? ⟨a1.heap.size, 3, none⟩ = some (.int .i64 z.tu) := HS.out.cell 1 rfl 3 rfl
          go_wp2_with fail
          refine (cr _ _ (HS.out.rd 1 rfl)).mono ?_
          rintro e a27 ⟨rfl, bb26⟩
          replace HS : Hid (FL w a27 [(a3.heap.size, u_x, z), (a1.heap.size, u_h, z)]) := HS.out.next bb26
          clear bb26 p_h_0 p_h_1 p_h_2 p_h_3
          have HB : Hid (Below w.heap.size w _) := HS.out.1
          clear HS
          go_wp2
          go_ret
          exact ⟨rfl, HB.out⟩
      · subst hk
        subst z'
        have ch := fun u w' (hr : Reads w' u z.ks) => iHol_any u z x w' hr l_z
        simp only [hh] at ch
        have cg := fun u w' (hr : Reads w' u z.ks) => ireserve_any u z x kind w' hr l_z
        simp only [hag] at cg
        unfold Ans at cg
        dsimp only at cg
        have hkb : (z.kd == kind) = true := by simpa using hkd
        clear hh hag hkd
        have p_x_0 : wc.cell? ⟨a3.heap.size, 0, none⟩ = some (u_x) := HS.out.cell 0 rfl 0 rfl
        have p_x_1 : wc.cell? ⟨a3.heap.size, 1, none⟩ = some (.int .i64 z.kd) := HS.out.cell 0 rfl 1 rfl
        have p_x_2 : wc.cell? ⟨a3.heap.size, 2, none⟩ = some (.int .i64 z.ho) := HS.out.cell 0 rfl 2 rfl
        have p_x_3 : wc.cell? ⟨a3.heap.size, 3, none⟩ = some (.int .i64 z.tu) := HS.out.cell 0 rfl 3 rfl
        go_wp2_with fail
        refine (cg _ _ (HS.out.rd 0 rfl)).mono ?_
        rintro e a28 ⟨u_ag, rfl, O1, B1⟩
        have RR : Hid (Reads a28 u_ag z.ks) := O1.reads
        replace HS : Hid (FL w a28 [(a3.heap.size, u_x, z), (a1.heap.size, u_h, h)]) := HS.out.next B1
        clear O1 B1 p_x_0 p_x_1 p_x_2 p_x_3
        have zz : Hid (StB (a28.alloc (.cells zHd 26)) a28.heap.size 26 zHd) := StB.new _ _ _
        go_upto_region 20 with (first | (refine wpList_putS Try.isH rfl _ _ rfl a28.heap.size (hdA u_ag z) zHd rfl rfl rfl rfl (hdA_one _ (reads_one RR.out)) zz.out ?_; intro a29 hh gg))
        replace HS : Hid (FL w a29 [(a28.heap.size, u_ag, z), (a3.heap.size, u_x, z), (a1.heap.size, u_h, h)]) := HS.out.new RR.out hh gg
        clear hh gg zz RR
        clear cg
        have p_x_0 : a29.cell? ⟨a3.heap.size, 0, none⟩ = some (u_x) := HS.out.cell 1 rfl 0 rfl
        have p_x_1 : a29.cell? ⟨a3.heap.size, 1, none⟩ = some (.int .i64 z.kd) := HS.out.cell 1 rfl 1 rfl
        have p_x_2 : a29.cell? ⟨a3.heap.size, 2, none⟩ = some (.int .i64 z.ho) := HS.out.cell 1 rfl 2 rfl
        have p_x_3 : a29.cell? ⟨a3.heap.size, 3, none⟩ = some (.int .i64 z.tu) := HS.out.cell 1 rfl 3 rfl
        go_wp2_with fail
        refine (ch _ _ (HS.out.rd 1 rfl)).mono ?_
        rintro e a30 ⟨rfl, bb29⟩
        replace HS : Hid (FL w a30 [(a28.heap.size, u_ag, z), (a3.heap.size, u_x, z), (a1.heap.size, u_h, h)]) := HS.out.next bb29
        clear bb29 p_x_0 p_x_1 p_x_2 p_x_3
        clear ch
        by_cases hh0 : h.kd = 0
        · have hhb : (h.kd == 0) = true := by simpa using hh0
          clear hor hh0
          have p_x_0 : a30.cell? ⟨a3.heap.size, 0, none⟩ = some (u_x) := HS.out.cell 1 rfl 0 rfl
          have p_x_1 : a30.cell? ⟨a3.heap.size, 1, none⟩ = some (.int .i64 z.kd) := HS.out.cell 1 rfl 1 rfl
          have p_x_2 : a30.cell? ⟨a3.heap.size, 2, none⟩ = some (.int .i64 z.ho) := HS.out.cell 1 rfl 2 rfl
          have p_x_3 : a30.cell? ⟨a3.heap.size, 3, none⟩ = some (.int .i64 z.tu) := HS.out.cell 1 rfl 3 rfl
          have p_h_0 : a30.cell? ⟨a1.heap.size, 0, none⟩ = some (u_h) := HS.out.cell 2 rfl 0 rfl
          have p_h_1 : a30.cell? ⟨a1.heap.size, 1, none⟩ = some (.int .i64 h.kd) := HS.out.cell 2 rfl 1 rfl
          have p_h_2 : a30.cell? ⟨a1.heap.size, 2, none⟩ = some (.int .i64 h.ho) := HS.out.cell 2 rfl 2 rfl
          have p_h_3 : a30.cell? ⟨a1.heap.size, 3, none⟩ = some (.int .i64 h.tu) := HS.out.cell 2 rfl 3 rfl
          have p_ag_0 : a30.cell? ⟨a28.heap.size, 0, none⟩ = some (u_ag) := HS.out.cell 0 rfl 0 rfl
          have p_ag_1 : a30.cell? ⟨a28.heap.size, 1, none⟩ = some (.int .i64 z.kd) := HS.out.cell 0 rfl 1 rfl
          have p_ag_2 : a30.cell? ⟨a28.heap.size, 2, none⟩ = some (.int .i64 z.ho) := HS.out.cell 0 rfl 2 rfl
          have p_ag_3 : a30.cell? ⟨a28.heap.size, 3, none⟩ = some (.int .i64 z.tu) := HS.out.cell 0 rfl 3 rfl
          go_wp2_with fail
          refine (lk_z _ _ _ (HS.out.rd 0 rfl) (HS.out.rd 1 rfl)).mono ?_
          rintro e a31 ⟨rfl, bb30⟩
          replace HS : Hid (FL w a31 [(a28.heap.size, u_ag, z), (a3.heap.size, u_x, z), (a1.heap.size, u_h, h)]) := HS.out.next bb30
          clear bb30 p_x_0 p_x_1 p_x_2 p_x_3 p_h_0 p_h_1 p_h_2 p_h_3 p_ag_0 p_ag_1 p_ag_2 p_ag_3
          have HB : Hid (Below w.heap.size w _) := HS.out.1
          clear HS
          go_wp2
          go_ret
          exact ⟨rfl, HB.out⟩
        · have hhb : (h.kd == 0) = false := by simpa using hh0
          have hzh : z = h := hor.resolve_left hh0
          clear hor hh0
          subst hzh
          have p_x_0 : a30.cell? ⟨a3.heap.size, 0, none⟩ = some (u_x) := HS.out.cell 1 rfl 0 rfl
          have p_x_1 : a30.cell? ⟨a3.heap.size, 1, none⟩ = some (.int .i64 z.kd) := HS.out.cell 1 rfl 1 rfl
          have p_x_2 : a30.cell? ⟨a3.heap.size, 2, none⟩ = some (.int .i64 z.ho) := HS.out.cell 1 rfl 2 rfl
          have p_x_3 : a30.cell? ⟨a3.heap.size, 3, none⟩ = some (.int .i64 z.tu) := HS.out.cell 1 rfl 3 rfl
          have p_h_0 : a30.cell? ⟨a1.heap.size, 0, none⟩ = some (u_h) := HS.out.cell 2 rfl 0 rfl
          have p_h_1 : a30.cell? ⟨a1.heap.size, 1, none⟩ = some (.int .i64 z.kd) := HS.out.cell 2 rfl 1 rfl
          have p_h_2 : a30.cell? ⟨a1.heap.size, 2, none⟩ = some (.int .i64 z.ho) := HS.out.cell 2 rfl 2 rfl
          have p_h_3 : a30.cell? ⟨a1.heap.size, 3, none⟩ = some (.int .i64 z.tu) := HS.out.cell 2 rfl 3 rfl
          have p_ag_0 : a30.cell? ⟨a28.heap.size, 0, none⟩ = some (u_ag) := HS.out.cell 0 rfl 0 rfl
          have p_ag_1 : a30.cell? ⟨a28.heap.size, 1, none⟩ = some (.int .i64 z.kd) := HS.out.cell 0 rfl 1 rfl
          have p_ag_2 : a30.cell? ⟨a28.heap.size, 2, none⟩ = some (.int .i64 z.ho) := HS.out.cell 0 rfl 2 rfl
          have p_ag_3 : a30.cell? ⟨a28.heap.size, 3, none⟩ = some (.int .i64 z.tu) := HS.out.cell 0 rfl 3 rfl
          go_wp2_with fail
          refine (lk_z _ _ _ (HS.out.rd 1 rfl) (HS.out.rd 2 rfl)).mono ?_
          rintro e a32 ⟨rfl, bb31⟩
          replace HS : Hid (FL w a32 [(a28.heap.size, u_ag, z), (a3.heap.size, u_x, z), (a1.heap.size, u_h, z)]) := HS.out.next bb31
          clear bb31 p_x_0 p_x_1 p_x_2 p_x_3 p_h_0 p_h_1 p_h_2 p_h_3 p_ag_0 p_ag_1 p_ag_2 p_ag_3
          have p_x_0 : a32.cell? ⟨a3.heap.size, 0, none⟩ = some (u_x) := HS.out.cell 1 rfl 0 rfl
          have p_x_1 : a32.cell? ⟨a3.heap.size, 1, none⟩ = some (.int .i64 z.kd) := HS.out.cell 1 rfl 1 rfl
          have p_x_2 : a32.cell? ⟨a3.heap.size, 2, none⟩ = some (.int .i64 z.ho) := HS.out.cell 1 rfl 2 rfl
          have p_x_3 : a32.cell? ⟨a3.heap.size, 3, none⟩ = some (.int .i64 z.tu) := HS.out.cell 1 rfl 3 rfl
          have p_ag_0 : a32.cell? ⟨a28.heap.size, 0, none⟩ = some (u_ag) := HS.out.cell 0 rfl 0 rfl
          have p_ag_1 : a32.cell? ⟨a28.heap.size, 1, none⟩ = some (.int .i64 z.kd) := HS.out.cell 0 rfl 1 rfl
          have p_ag_2 : a32.cell? ⟨a28.heap.size, 2, none⟩ = some (.int .i64 z.ho) := HS.out.cell 0 rfl 2 rfl
          have p_ag_3 : a32.cell? ⟨a28.heap.size, 3, none⟩ = some (.int .i64 z.tu) := HS.out.cell 0 rfl 3 rfl
          go_wp2_with fail
          refine (lk_z _ _ _ (HS.out.rd 0 rfl) (HS.out.rd 1 rfl)).mono ?_
          rintro e a33 ⟨rfl, bb32⟩
          replace HS : Hid (FL w a33 [(a28.heap.size, u_ag, z), (a3.heap.size, u_x, z), (a1.heap.size, u_h, z)]) := HS.out.next bb32
          clear bb32 p_x_0 p_x_1 p_x_2 p_x_3 p_ag_0 p_ag_1 p_ag_2 p_ag_3
          have HB : Hid (Below w.heap.size w _) := HS.out.1
          clear HS
          go_wp2
          go_ret
          exact ⟨rfl, HB.out⟩

set_option maxRecDepth 100000 in
theorem lifted (os : Os) (started : os.Started) (H : Type) (enc : TypeId × Value → H) :
    ReturnsInHanded {} Try.checked os 5 .any (Rows.fnReserveSpec.pre6 enc Try.prog Try.f5 Rows.fnReserveRow.domain false) (Rows.fnReserveSpec.post enc Try.prog Try.f5 false true false false) := by
  refine returnsInHanded_of_change (C := Try.checked) own started (by kernel_rfl) Try.func5
    (ChangeSpec.witness6 (enc := enc) (C := Try.checked) false ⟨#[], #[.slice none 0 0], []⟩ 8 (by kernel_rfl) (by kernel_rfl) (by kernel_rfl) (by kernel_rfl)) ?_
  intro W base args ds gs before hval0 hW hcnd _
  have hval : ∀ (j : Nat) t v, Try.f5.params[j]? = some t → args[j]? = some v → Value.okWide Try.prog W .any base t v := hval0
  have hW' := hW
  obtain ⟨p, q, hA0, hV, rfl, hfz, hnd⟩ := hW
  have hA : DataW.TrodAll enc Try.prog W 0 (fun _ => true) true Try.f5.params.toList args.toList ds p := hA0
  rw [Try.params5] at hA hval
  obtain ⟨v0, vs0, d0, ds0, p0, q0, hargs, rfl, rfl, h0, r0⟩ := trodAll_cons hA
  obtain ⟨rfl, rfl, rfl⟩ := trodAll_nil r0
  obtain rfl : args = #[v0] := by cases args; simp_all
  obtain ⟨rfl, rfl⟩ := trodVars_none hV
  obtain ⟨a0, len0, cap0, rfl⟩ := okWide_slice Try.underlying22 (hval 0 22 v0 rfl rfl)
  have k0 := h0
  have lt0 : ∀ x ∈ p0, x.block < W.heap.size := by obtain ⟨m, hm⟩ := k0; exact DataW.trod_lt m _ _ _ hm
  obtain ⟨z0, w0⟩ : ∃ zs, IsRow .u8 W a0 len0 cap0 zs := by
    obtain ⟨fuel, hf⟩ := h0
    rcases open_ints Try.underlying22 Try.underlying5 (by kernel_rfl) hf with ⟨hcs, _⟩ | ⟨x, l, c, zs, hcs, _, hl, hm, hz, _, hcell, hwz⟩
    · simp [Value.cells] at hcs
      obtain ⟨rfl, rfl, rfl⟩ := hcs
      exact ⟨[], .inl ⟨rfl, rfl, rfl, rfl⟩⟩
    · simp [Value.cells] at hcs
      obtain ⟨rfl, rfl, rfl⟩ := hcs
      exact ⟨zs, .inr ⟨_, rfl, hl, hm, by simpa using hz, hcell, hwz⟩⟩
  clear hA0 hval0
  refine (walk a0 len0 cap0 z0 W w0).mono fun e W' ⟨he, bel⟩ => ?_
  subst he
  exact ⟨_, rfl, _, _, _, [], _, [], hW', trodAll_mk1 (shut_bool Try.underlying4 _), (trodAll_cons_mk (Below.trod laidOut (by kernel_rfl) (of_decide_eq_true (by kernel_rfl)) k0 bel lt0) trodAll_mk0), rfl, bel.frame _, fun h => by cases h⟩

theorem over : Rows.fnReserveRow.holds Try.pinned (OpenSpec.ofChange Rows.fnReserveSpec) :=
  OpenClaim.holds_of_wide 5 Try.f5 rfl rfl rfl rfl rfl rfl rfl ⟨rfl, rfl, rfl, rfl, rfl⟩ rfl rfl rfl rfl rfl (by kernel_rfl) Try.func5 (by kernel_rfl)
    (of_decide_eq_true (by kernel_rfl)) (by unfold Func.isWrapper; first | (rw [if_pos (by decide +kernel)]; kernel_rfl) | (rw [if_neg (by decide +kernel)]; exact ⟨rfl, rfl⟩))
    (fun os started H enc _ => lifted os started H enc)

theorem proved : Rows.FnReserveSaid := over
end Go.Proofs.Ytppkncmlloelbaa.fnReserve
namespace Go.Proofs.Ytppkncmlloelbaa
theorem fnReserve_holds : Rows.FnReserveSaid := fnReserve.proved
end Go.Proofs.Ytppkncmlloelbaa
