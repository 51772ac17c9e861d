/- At every list of bytes the law FnCopier returns true: each that is dirty goes once, with a turn of its own, and waits till just that is acknowledged; and the program answers as the model. -/
import Derived.Test.YtelfpdjidppblaaRows
import Derived.WalkKit
import Derived.ProofKit
import Derived.OpenShut
import Derived.ShutString
import Derived.ChangeOld
import Derived.Below
import Derived.Test.YtelfpdjidppblaaM1
import Derived.Test.YtelfpdjidppblaaDrawCop2
import Derived.Test.YtelfpdjidppblaaCpLaws
import Derived.Test.YtelfpdjidppblaaM4
import Derived.Test.YtelfpdjidppblaaLCop
import Derived.Test.YtelfpdjidppblaaICop
namespace Go.Proofs.Ytelfpdjidppblaa.fnCopier
open Go.ChangeShapes Go.WideShapes Go.ChangeAt Go.RowKit
open Go.ChangeMaps (open_string shut_string)
set_option linter.unusedVariables false

theorem own : ownKnob Try.prog.godebug = none := by kernel_rfl
theorem laidOut : laidOutB Try.prog = true := by kernel_rfl

def IsRow (k : IntKind) (w : World) (a : Option Addr) (len cap : Nat) (zs : List Int) : Prop :=
  (a = none ∧ len = 0 ∧ cap = 0 ∧ zs = []) ∨
  ∃ x, a = some x ∧ len ≤ cap ∧ cap ≤ maxLen ∧ zs.length = cap ∧ (∀ i, i < zs.length → w.cell? (x.add i) = some (.int k (zs.getD i 0))) ∧ ∀ n ∈ zs, (Lit.int k n).wf = true

set_option maxRecDepth 20000 in
set_option maxHeartbeats 20000000 in
theorem walk (a0 : Option Addr) (len0 cap0 : Nat) (z0 : List Int) (w : World) (w0 : IsRow .u8 w a0 len0 cap0 z0) :
    Calls Try.prog 3 #[.slice a0 len0 cap0] w fun e w' => e = .returned (.bool true) ∧ Below w.heap.size w w' := by
  by_cases hbig : (4096 : Int) < (len0 : Int)
  · go_enter Try.func3, Try.ntmps3
    go_wp2_with (go_at_call 12; refine (big_any _ _ _ _).mono ?_; rintro e w' ⟨rfl, hw'⟩; subst w')
    go_ret
    exact ⟨rfl, Below.refl _ _⟩
  · have HC : Hid (CodeOk w w.heap.size (.slice a0 len0 cap0)) := codeOk_row w0 (by omega)
    have HB : Hid (Below w.heap.size w w) := Below.refl _ _
    clear w0
    go_enter Try.func3, Try.ntmps3
    go_wp2_with fail
    refine (big_any _ _ _ _).mono ?_
    rintro e w' ⟨rfl, hw'⟩; subst w'
    go_wp2_with fail
    refine (drawNext_any w.heap.size _ _ (HC.out.below HB.out) HB.out.size).mono ?_
    rintro e y1 ⟨_, c, rfl, oq, hlc, bq⟩
    replace HB : Hid (Below w.heap.size w y1) := HB.out.trans (bq.mono HB.out.size)
    obtain ⟨Co, Cc, rfl⟩ := reads_form oq.reads
    obtain ⟨y2, hy2⟩ : ∃ y2, y2 = y1.alloc (.cells (cpA (.slice Co c.ts.length Cc) c) 26) := ⟨_, rfl⟩
    have by2 : Below y1.heap.size y1 y2 := by rw [hy2]; exact (Below.refl _ _).alloc (Nat.le_refl _) _
    have K_C : Hid (CpI y2 y1.heap.size (.slice Co c.ts.length Cc) c) := by rw [hy2]; first | exact CpI.new oq | exact CpI.new oq.mine
    clear oq bq
    replace HB : Hid (Below w.heap.size w y2) := HB.out.trans (by2.mono HB.out.size)
    clear by2
    unfold cpA at hy2
    try unfold CpV cpA
    go_upto_region 4 with fail
    rw [← hy2]
    clear hy2
    obtain ⟨g_C, hg_C⟩ : ∃ g_C, g_C = y1.heap.size := ⟨_, rfl⟩
    rw [← hg_C] at K_C ⊢
    clear hg_C
    have gc : c.ts.length ≤ 1099511627776 := by omega
    obtain ⟨x, h_x⟩ : ∃ x, x = c.Next := ⟨_, rfl⟩
    obtain ⟨k, h_k⟩ : ∃ k, k = c.Nx := ⟨_, rfl⟩
    obtain ⟨okc, h_okc⟩ : ∃ okc, okc = c.ok := ⟨_, rfl⟩
    have gx : x.ts.length ≤ 1099511627776 := by rw [h_x]; have := Cp.Next_len c; omega
    have INx' := fun v wx h => inexted_any v c wx h gc
    simp only [← h_x, ← h_k] at INx'
    unfold CpV cpA at INx'
    have INx : Hid _ := INx'
    clear INx'
    have SNx' := fun v wx h => snexted_any v c wx h gc
    simp only [← h_x, ← h_k] at SNx'
    unfold CpV cpA at SNx'
    have SNx : Hid _ := SNx'
    clear SNx'
    have IOc' := fun v wx h => icopok_any v c wx h gc
    simp only [← h_okc] at IOc'
    unfold CpV cpA at IOc'
    have IOc : Hid _ := IOc'
    clear IOc'
    have SOc' := fun v wx h => scopok_any v c wx h gc
    simp only [← h_okc] at SOc'
    unfold CpV cpA at SOc'
    have SOc : Hid _ := SOc'
    clear SOc'
    have LX' := fun u v wx hu hv => likeC_any u v x wx hu hv gx
    unfold CpV cpA at LX'
    have LX : Hid _ := LX'
    clear LX'
    have H_x : Hid (x = c.Next) := h_x
    clear h_x
    have H_k : Hid (k = c.Nx) := h_k
    clear h_k
    have H_okc : Hid (okc = c.ok) := h_okc
    clear h_okc
    have p_C_0 : y2.cell? ⟨g_C, 0, none⟩ = some (.int .i64 c.tr) := K_C.out.cell 0 rfl
    have p_C_1 : y2.cell? ⟨g_C, 1, none⟩ = some (.bool c.op) := K_C.out.cell 1 rfl
    have p_C_2 : y2.cell? ⟨g_C, 2, none⟩ = some (.int .i64 c.di) := K_C.out.cell 2 rfl
    have p_C_3 : y2.cell? ⟨g_C, 3, none⟩ = some (.int .i64 c.wa) := K_C.out.cell 3 rfl
    have p_C_4 : y2.cell? ⟨g_C, 4, none⟩ = some (.slice Co c.ts.length Cc) := K_C.out.cell 4 rfl
    go_wp2_with fail
    clear p_C_0 p_C_1 p_C_2 p_C_3 p_C_4
    refine (INx.out _ _ K_C.out.reads).mono ?_
    rintro e y4 ⟨_, rfl, oq, bq⟩
    replace K_C : Hid (CpI y4 g_C (.slice Co c.ts.length Cc) c) := K_C.out.below bq
    replace HB : Hid (Below w.heap.size w y4) := HB.out.trans (bq.mono HB.out.size)
    obtain ⟨Xo, Xc, rfl⟩ := reads_form oq.reads
    obtain ⟨y5, hy5⟩ : ∃ y5, y5 = y4.alloc (.cells (cpA (.slice Xo x.ts.length Xc) x) 26) := ⟨_, rfl⟩
    have by5 : Below y4.heap.size y4 y5 := by rw [hy5]; exact (Below.refl _ _).alloc (Nat.le_refl _) _
    have K_X : Hid (CpI y5 y4.heap.size (.slice Xo x.ts.length Xc) x) := by rw [hy5]; first | exact CpI.new oq | exact CpI.new oq.mine
    clear oq bq
    replace K_C : Hid (CpI y5 g_C (.slice Co c.ts.length Cc) c) := K_C.out.below by5
    replace HB : Hid (Below w.heap.size w y5) := HB.out.trans (by5.mono HB.out.size)
    clear by5
    unfold cpA at hy5
    try unfold CpV cpA
    go_upto_region 5 with fail
    rw [← hy5]
    clear hy5
    obtain ⟨g_X, hg_X⟩ : ∃ g_X, g_X = y4.heap.size := ⟨_, rfl⟩
    rw [← hg_X] at K_X ⊢
    clear hg_X
    go_wp2_with fail
    refine (drawAcked_any w.heap.size _ _ (HC.out.below HB.out) HB.out.size).mono ?_
    rintro e y7 ⟨_, a, i, tn, rfl, oq, hla, bq⟩
    replace K_C : Hid (CpI y7 g_C (.slice Co c.ts.length Cc) c) := K_C.out.below bq
    replace K_X : Hid (CpI y7 g_X (.slice Xo x.ts.length Xc) x) := K_X.out.below bq
    replace HB : Hid (Below w.heap.size w y7) := HB.out.trans (bq.mono HB.out.size)
    obtain ⟨Ao, Ac, rfl⟩ := reads_form oq.reads
    obtain ⟨y8, hy8⟩ : ∃ y8, y8 = y7.alloc (.cells (cpA (.slice Ao a.ts.length Ac) a) 26) := ⟨_, rfl⟩
    have by8 : Below y7.heap.size y7 y8 := by rw [hy8]; exact (Below.refl _ _).alloc (Nat.le_refl _) _
    have K_A : Hid (CpI y8 y7.heap.size (.slice Ao a.ts.length Ac) a) := by rw [hy8]; first | exact CpI.new oq | exact CpI.new oq.mine
    clear oq bq
    replace K_C : Hid (CpI y8 g_C (.slice Co c.ts.length Cc) c) := K_C.out.below by8
    replace K_X : Hid (CpI y8 g_X (.slice Xo x.ts.length Xc) x) := K_X.out.below by8
    replace HB : Hid (Below w.heap.size w y8) := HB.out.trans (by8.mono HB.out.size)
    clear by8
    unfold cpA at hy8
    try unfold CpV cpA
    go_upto_region 6 with fail
    rw [← hy8]
    clear hy8
    obtain ⟨g_A, hg_A⟩ : ∃ g_A, g_A = y7.heap.size := ⟨_, rfl⟩
    rw [← hg_A] at K_A ⊢
    clear hg_A
    have ga : a.ts.length ≤ 1099511627776 := by omega
    obtain ⟨y, h_y⟩ : ∃ y, y = a.Ack i tn := ⟨_, rfl⟩
    obtain ⟨oka, h_oka⟩ : ∃ oka, oka = a.ok := ⟨_, rfl⟩
    have gy : y.ts.length ≤ 1099511627776 := by rw [h_y]; have := Cp.Ack_len a i tn; omega
    have IAy' := fun v wx h => iacked_any v a i tn wx h ga
    simp only [← h_y] at IAy'
    unfold CpV cpA at IAy'
    have IAy : Hid _ := IAy'
    clear IAy'
    have SAy' := fun v wx h => sacked_any v a i tn wx h ga
    simp only [← h_y] at SAy'
    unfold CpV cpA at SAy'
    have SAy : Hid _ := SAy'
    clear SAy'
    have SOa' := fun v wx h => scopok_any v a wx h ga
    simp only [← h_oka] at SOa'
    unfold CpV cpA at SOa'
    have SOa : Hid _ := SOa'
    clear SOa'
    have LY' := fun u v wx hu hv => likeC_any u v y wx hu hv gy
    unfold CpV cpA at LY'
    have LY : Hid _ := LY'
    clear LY'
    have H_y : Hid (y = a.Ack i tn) := h_y
    clear h_y
    have H_oka : Hid (oka = a.ok) := h_oka
    clear h_oka
    have p_A_0 : y8.cell? ⟨g_A, 0, none⟩ = some (.int .i64 a.tr) := K_A.out.cell 0 rfl
    have p_A_1 : y8.cell? ⟨g_A, 1, none⟩ = some (.bool a.op) := K_A.out.cell 1 rfl
    have p_A_2 : y8.cell? ⟨g_A, 2, none⟩ = some (.int .i64 a.di) := K_A.out.cell 2 rfl
    have p_A_3 : y8.cell? ⟨g_A, 3, none⟩ = some (.int .i64 a.wa) := K_A.out.cell 3 rfl
    have p_A_4 : y8.cell? ⟨g_A, 4, none⟩ = some (.slice Ao a.ts.length Ac) := K_A.out.cell 4 rfl
    go_wp2_with fail
    clear p_A_0 p_A_1 p_A_2 p_A_3 p_A_4
    refine (IAy.out _ _ K_A.out.reads).mono ?_
    rintro e y10 ⟨_, rfl, oq, bq⟩
    replace K_C : Hid (CpI y10 g_C (.slice Co c.ts.length Cc) c) := K_C.out.below bq
    replace K_X : Hid (CpI y10 g_X (.slice Xo x.ts.length Xc) x) := K_X.out.below bq
    replace K_A : Hid (CpI y10 g_A (.slice Ao a.ts.length Ac) a) := K_A.out.below bq
    replace HB : Hid (Below w.heap.size w y10) := HB.out.trans (bq.mono HB.out.size)
    obtain ⟨Yo, Yc, rfl⟩ := reads_form oq.reads
    obtain ⟨y11, hy11⟩ : ∃ y11, y11 = y10.alloc (.cells (cpA (.slice Yo y.ts.length Yc) y) 26) := ⟨_, rfl⟩
    have by11 : Below y10.heap.size y10 y11 := by rw [hy11]; exact (Below.refl _ _).alloc (Nat.le_refl _) _
    have K_Y : Hid (CpI y11 y10.heap.size (.slice Yo y.ts.length Yc) y) := by rw [hy11]; first | exact CpI.new oq | exact CpI.new oq.mine
    clear oq bq
    replace K_C : Hid (CpI y11 g_C (.slice Co c.ts.length Cc) c) := K_C.out.below by11
    replace K_X : Hid (CpI y11 g_X (.slice Xo x.ts.length Xc) x) := K_X.out.below by11
    replace K_A : Hid (CpI y11 g_A (.slice Ao a.ts.length Ac) a) := K_A.out.below by11
    replace HB : Hid (Below w.heap.size w y11) := HB.out.trans (by11.mono HB.out.size)
    clear by11
    unfold cpA at hy11
    try unfold CpV cpA
    go_upto_region 7 with fail
    rw [← hy11]
    clear hy11
    obtain ⟨g_Y, hg_Y⟩ : ∃ g_Y, g_Y = y10.heap.size := ⟨_, rfl⟩
    rw [← hg_Y] at K_Y ⊢
    clear hg_Y
    go_wp2_with fail
    refine (drawNewCopier_any w.heap.size _ _ (HC.out.below HB.out) HB.out.size).mono ?_
    rintro e y13 ⟨n, t, rfl, bq⟩
    replace K_C : Hid (CpI y13 g_C (.slice Co c.ts.length Cc) c) := K_C.out.below bq
    replace K_X : Hid (CpI y13 g_X (.slice Xo x.ts.length Xc) x) := K_X.out.below bq
    replace K_A : Hid (CpI y13 g_A (.slice Ao a.ts.length Ac) a) := K_A.out.below bq
    replace K_Y : Hid (CpI y13 g_Y (.slice Yo y.ts.length Yc) y) := K_Y.out.below bq
    replace HB : Hid (Below w.heap.size w y13) := HB.out.trans (bq.mono HB.out.size)
    clear bq
    obtain ⟨z, h_z⟩ : ∃ z, z = Cp.new n t := ⟨_, rfl⟩
    obtain ⟨m, h_m⟩ : ∃ m, m = Cp.made n t := ⟨_, rfl⟩
    have gz : z.ts.length ≤ 1099511627776 := by rw [h_z]; have := Cp.new_len n t; omega
    have INz' := fun wx => inewC_any n t wx
    simp only [← h_z, ← h_m] at INz'
    unfold CpV cpA at INz'
    have INz : Hid _ := INz'
    clear INz'
    have SNz' := fun wx => snewC_any n t wx
    simp only [← h_z, ← h_m] at SNz'
    unfold CpV cpA at SNz'
    have SNz : Hid _ := SNz'
    clear SNz'
    have IOz' := fun v wx h => icopok_any v z wx h gz
    unfold CpV cpA at IOz'
    have IOz : Hid _ := IOz'
    clear IOz'
    have LZ' := fun u v wx hu hv => likeC_any u v z wx hu hv gz
    unfold CpV cpA at LZ'
    have LZ : Hid _ := LZ'
    clear LZ'
    have H_z : Hid (z = Cp.new n t) := h_z
    clear h_z
    have H_m : Hid (m = Cp.made n t) := h_m
    clear h_m
    go_wp2_with fail
    refine (INz.out _).mono ?_
    rintro e y14 ⟨_, rfl, oq, bq⟩
    replace K_C : Hid (CpI y14 g_C (.slice Co c.ts.length Cc) c) := K_C.out.below bq
    replace K_X : Hid (CpI y14 g_X (.slice Xo x.ts.length Xc) x) := K_X.out.below bq
    replace K_A : Hid (CpI y14 g_A (.slice Ao a.ts.length Ac) a) := K_A.out.below bq
    replace K_Y : Hid (CpI y14 g_Y (.slice Yo y.ts.length Yc) y) := K_Y.out.below bq
    replace HB : Hid (Below w.heap.size w y14) := HB.out.trans (bq.mono HB.out.size)
    obtain ⟨Zo, Zc, rfl⟩ := reads_form oq.reads
    obtain ⟨y15, hy15⟩ : ∃ y15, y15 = y14.alloc (.cells (cpA (.slice Zo z.ts.length Zc) z) 26) := ⟨_, rfl⟩
    have by15 : Below y14.heap.size y14 y15 := by rw [hy15]; exact (Below.refl _ _).alloc (Nat.le_refl _) _
    have K_Z : Hid (CpI y15 y14.heap.size (.slice Zo z.ts.length Zc) z) := by rw [hy15]; first | exact CpI.new oq | exact CpI.new oq.mine
    clear oq bq
    replace K_C : Hid (CpI y15 g_C (.slice Co c.ts.length Cc) c) := K_C.out.below by15
    replace K_X : Hid (CpI y15 g_X (.slice Xo x.ts.length Xc) x) := K_X.out.below by15
    replace K_A : Hid (CpI y15 g_A (.slice Ao a.ts.length Ac) a) := K_A.out.below by15
    replace K_Y : Hid (CpI y15 g_Y (.slice Yo y.ts.length Yc) y) := K_Y.out.below by15
    replace HB : Hid (Below w.heap.size w y15) := HB.out.trans (by15.mono HB.out.size)
    clear by15
    unfold cpA at hy15
    try unfold CpV cpA
    go_upto_region 9 with fail
    rw [← hy15]
    clear hy15
    obtain ⟨g_Z, hg_Z⟩ : ∃ g_Z, g_Z = y14.heap.size := ⟨_, rfl⟩
    rw [← hg_Z] at K_Z ⊢
    clear hg_Z
    have p_C_0 : y15.cell? ⟨g_C, 0, none⟩ = some (.int .i64 c.tr) := K_C.out.cell 0 rfl
    have p_C_1 : y15.cell? ⟨g_C, 1, none⟩ = some (.bool c.op) := K_C.out.cell 1 rfl
    have p_C_2 : y15.cell? ⟨g_C, 2, none⟩ = some (.int .i64 c.di) := K_C.out.cell 2 rfl
    have p_C_3 : y15.cell? ⟨g_C, 3, none⟩ = some (.int .i64 c.wa) := K_C.out.cell 3 rfl
    have p_C_4 : y15.cell? ⟨g_C, 4, none⟩ = some (.slice Co c.ts.length Cc) := K_C.out.cell 4 rfl
    go_wp2_with fail
    clear p_C_0 p_C_1 p_C_2 p_C_3 p_C_4
    refine (SNx.out _ _ K_C.out.reads).mono ?_
    rintro e y17 ⟨_, rfl, oq, bq⟩
    replace K_C : Hid (CpI y17 g_C (.slice Co c.ts.length Cc) c) := K_C.out.below bq
    replace K_X : Hid (CpI y17 g_X (.slice Xo x.ts.length Xc) x) := K_X.out.below bq
    replace K_A : Hid (CpI y17 g_A (.slice Ao a.ts.length Ac) a) := K_A.out.below bq
    replace K_Y : Hid (CpI y17 g_Y (.slice Yo y.ts.length Yc) y) := K_Y.out.below bq
    replace K_Z : Hid (CpI y17 g_Z (.slice Zo z.ts.length Zc) z) := K_Z.out.below bq
    replace HB : Hid (Below w.heap.size w y17) := HB.out.trans (bq.mono HB.out.size)
    obtain ⟨Uo, Uc, rfl⟩ := reads_form oq.reads
    obtain ⟨y18, hy18⟩ : ∃ y18, y18 = y17.alloc (.cells (cpA (.slice Uo x.ts.length Uc) x) 26) := ⟨_, rfl⟩
    have by18 : Below y17.heap.size y17 y18 := by rw [hy18]; exact (Below.refl _ _).alloc (Nat.le_refl _) _
    have K_U : Hid (CpI y18 y17.heap.size (.slice Uo x.ts.length Uc) x) := by rw [hy18]; first | exact CpI.new oq | exact CpI.new oq.mine
    clear oq bq
    replace K_C : Hid (CpI y18 g_C (.slice Co c.ts.length Cc) c) := K_C.out.below by18
    replace K_X : Hid (CpI y18 g_X (.slice Xo x.ts.length Xc) x) := K_X.out.below by18
    replace K_A : Hid (CpI y18 g_A (.slice Ao a.ts.length Ac) a) := K_A.out.below by18
    replace K_Y : Hid (CpI y18 g_Y (.slice Yo y.ts.length Yc) y) := K_Y.out.below by18
    replace K_Z : Hid (CpI y18 g_Z (.slice Zo z.ts.length Zc) z) := K_Z.out.below by18
    replace HB : Hid (Below w.heap.size w y18) := HB.out.trans (by18.mono HB.out.size)
    clear by18
    unfold cpA at hy18
    try unfold CpV cpA
    go_upto_region 10 with fail
    rw [← hy18]
    clear hy18
    obtain ⟨g_U, hg_U⟩ : ∃ g_U, g_U = y17.heap.size := ⟨_, rfl⟩
    rw [← hg_U] at K_U ⊢
    clear hg_U
    have hkk : (k != k) = false := by simp
    have hoo : (okc != okc) = false := by simp
    go_cut [77] (fun t wx => t = .bool false ∧ Hid (CpI wx g_C (.slice Co c.ts.length Cc) c ∧ CpI wx g_X (.slice Xo x.ts.length Xc) x ∧ CpI wx g_A (.slice Ao a.ts.length Ac) a ∧ CpI wx g_Y (.slice Yo y.ts.length Yc) y ∧ CpI wx g_Z (.slice Zo z.ts.length Zc) z ∧ CpI wx g_U (.slice Uo x.ts.length Uc) x ∧ Below w.heap.size w wx))
    case first =>
      as_aux_lemma =>
        obtain ⟨C, hCd⟩ : ∃ C, C = fun x => Below y18.heap.size y18 x := ⟨_, rfl⟩
        have HQ : Hid (∀ x, C x → Below y18.heap.size y18 x) := by rw [hCd]; exact fun _ h => h
        have HN : Hid (∀ x y, C x → Later x y → C y) := by rw [hCd]; exact fun _ _ h b => h.trans (b.mono h.size)
        have H0 : Hid (C y18.drew) := by rw [hCd]; exact (Below.refl _ _).drew
        have hne : Nonempty (Kin C) := ⟨⟨_, H0.out⟩⟩
        have m_X_0 : ∀ q : Kin C, q.x.cell? ⟨g_X, 0, none⟩ = some (.int .i64 x.tr) := fun q => later_cell (K_X.out.cell 0 rfl) (HQ.out _ q.h)
        have m_X_1 : ∀ q : Kin C, q.x.cell? ⟨g_X, 1, none⟩ = some (.bool x.op) := fun q => later_cell (K_X.out.cell 1 rfl) (HQ.out _ q.h)
        have m_X_2 : ∀ q : Kin C, q.x.cell? ⟨g_X, 2, none⟩ = some (.int .i64 x.di) := fun q => later_cell (K_X.out.cell 2 rfl) (HQ.out _ q.h)
        have m_X_3 : ∀ q : Kin C, q.x.cell? ⟨g_X, 3, none⟩ = some (.int .i64 x.wa) := fun q => later_cell (K_X.out.cell 3 rfl) (HQ.out _ q.h)
        have m_X_4 : ∀ q : Kin C, q.x.cell? ⟨g_X, 4, none⟩ = some (.slice Xo x.ts.length Xc) := fun q => later_cell (K_X.out.cell 4 rfl) (HQ.out _ q.h)
        have m_U_0 : ∀ q : Kin C, q.x.cell? ⟨g_U, 0, none⟩ = some (.int .i64 x.tr) := fun q => later_cell (K_U.out.cell 0 rfl) (HQ.out _ q.h)
        have m_U_1 : ∀ q : Kin C, q.x.cell? ⟨g_U, 1, none⟩ = some (.bool x.op) := fun q => later_cell (K_U.out.cell 1 rfl) (HQ.out _ q.h)
        have m_U_2 : ∀ q : Kin C, q.x.cell? ⟨g_U, 2, none⟩ = some (.int .i64 x.di) := fun q => later_cell (K_U.out.cell 2 rfl) (HQ.out _ q.h)
        have m_U_3 : ∀ q : Kin C, q.x.cell? ⟨g_U, 3, none⟩ = some (.int .i64 x.wa) := fun q => later_cell (K_U.out.cell 3 rfl) (HQ.out _ q.h)
        have m_U_4 : ∀ q : Kin C, q.x.cell? ⟨g_U, 4, none⟩ = some (.slice Uo x.ts.length Uc) := fun q => later_cell (K_U.out.cell 4 rfl) (HQ.out _ q.h)
        have m_Y_0 : ∀ q : Kin C, q.x.cell? ⟨g_Y, 0, none⟩ = some (.int .i64 y.tr) := fun q => later_cell (K_Y.out.cell 0 rfl) (HQ.out _ q.h)
        have m_Y_1 : ∀ q : Kin C, q.x.cell? ⟨g_Y, 1, none⟩ = some (.bool y.op) := fun q => later_cell (K_Y.out.cell 1 rfl) (HQ.out _ q.h)
        have m_Y_2 : ∀ q : Kin C, q.x.cell? ⟨g_Y, 2, none⟩ = some (.int .i64 y.di) := fun q => later_cell (K_Y.out.cell 2 rfl) (HQ.out _ q.h)
        have m_Y_3 : ∀ q : Kin C, q.x.cell? ⟨g_Y, 3, none⟩ = some (.int .i64 y.wa) := fun q => later_cell (K_Y.out.cell 3 rfl) (HQ.out _ q.h)
        have m_Y_4 : ∀ q : Kin C, q.x.cell? ⟨g_Y, 4, none⟩ = some (.slice Yo y.ts.length Yc) := fun q => later_cell (K_Y.out.cell 4 rfl) (HQ.out _ q.h)
        have m_A_0 : ∀ q : Kin C, q.x.cell? ⟨g_A, 0, none⟩ = some (.int .i64 a.tr) := fun q => later_cell (K_A.out.cell 0 rfl) (HQ.out _ q.h)
        have m_A_1 : ∀ q : Kin C, q.x.cell? ⟨g_A, 1, none⟩ = some (.bool a.op) := fun q => later_cell (K_A.out.cell 1 rfl) (HQ.out _ q.h)
        have m_A_2 : ∀ q : Kin C, q.x.cell? ⟨g_A, 2, none⟩ = some (.int .i64 a.di) := fun q => later_cell (K_A.out.cell 2 rfl) (HQ.out _ q.h)
        have m_A_3 : ∀ q : Kin C, q.x.cell? ⟨g_A, 3, none⟩ = some (.int .i64 a.wa) := fun q => later_cell (K_A.out.cell 3 rfl) (HQ.out _ q.h)
        have m_A_4 : ∀ q : Kin C, q.x.cell? ⟨g_A, 4, none⟩ = some (.slice Ao a.ts.length Ac) := fun q => later_cell (K_A.out.cell 4 rfl) (HQ.out _ q.h)
        have m_C_0 : ∀ q : Kin C, q.x.cell? ⟨g_C, 0, none⟩ = some (.int .i64 c.tr) := fun q => later_cell (K_C.out.cell 0 rfl) (HQ.out _ q.h)
        have m_C_1 : ∀ q : Kin C, q.x.cell? ⟨g_C, 1, none⟩ = some (.bool c.op) := fun q => later_cell (K_C.out.cell 1 rfl) (HQ.out _ q.h)
        have m_C_2 : ∀ q : Kin C, q.x.cell? ⟨g_C, 2, none⟩ = some (.int .i64 c.di) := fun q => later_cell (K_C.out.cell 2 rfl) (HQ.out _ q.h)
        have m_C_3 : ∀ q : Kin C, q.x.cell? ⟨g_C, 3, none⟩ = some (.int .i64 c.wa) := fun q => later_cell (K_C.out.cell 3 rfl) (HQ.out _ q.h)
        have m_C_4 : ∀ q : Kin C, q.x.cell? ⟨g_C, 4, none⟩ = some (.slice Co c.ts.length Cc) := fun q => later_cell (K_C.out.cell 4 rfl) (HQ.out _ q.h)
        clear hCd
        refine wp_region_gs (C := C) (E := byDst fun d => if d = 59 then some (truth true) else if d = 67 then some (cpG y) else if d = 68 then some (truth true) else if d = 73 then some (truth okc) else if d = 75 then some (truth okc) else none) (R := Later) HN.out (byDst_later (by intro d s hs u x y hx hl; split at hs; (cases hs; exact truthC_later hx hl); split at hs; (cases hs; exact cpG_later hx hl); split at hs; (cases hs; exact truthC_later hx hl); split at hs; (cases hs; exact truthC_later hx hl); split at hs; (cases hs; exact truthC_later hx hl); cases hs)) (byDst_looks _ _) (by kernel_rfl) (by kernel_rfl) H0.out ?_
        repeat (refine gs_plain rfl (fun K hK => ?_); go_simp; refine hK _ ?_; clear hK K)
        refine gs_call (truth true) rfl (by first | rfl | kernel_rfl) (fun wq hB => ?_) (fun uq hu => ?_)
        · go_simp
          refine ⟨rfl, ?_⟩
          exact truth_of (fun _ h => h) (LX.out _ _ wq (K_X.out.below (HQ.out _ hB.1)).reads (K_U.out.below (HQ.out _ hB.1)).reads)
        obtain rfl : uq = .bool true := hu
        repeat (refine gs_plain rfl (fun K hK => ?_); go_simp; refine hK _ ?_; clear hK K)
        refine gs_call (cpG y) rfl (by first | rfl | kernel_rfl) (fun wq hB => ?_) (fun uq hu => ?_)
        · go_simp
          refine ⟨rfl, ?_⟩
          exact cpG_of (SAy.out _ wq (K_A.out.below (HQ.out _ hB.1)).reads)
        obtain ⟨ro, rc, rfl⟩ := hu
        repeat (refine gs_plain rfl (fun K hK => ?_); go_simp; refine hK _ ?_; clear hK K)
        refine gs_call (truth true) rfl (by first | rfl | kernel_rfl) (fun wq hB => ?_) (fun uq hu => ?_)
        · go_simp
          refine ⟨rfl, ?_⟩
          exact (by have r := hB.at0 rfl _ _ _ _ _ rfl; exact truth_of (fun _ h => h) (LY.out _ _ wq (K_Y.out.below (HQ.out _ hB.1)).reads r.reads))
        obtain rfl : uq = .bool true := hu
        repeat (refine gs_plain rfl (fun K hK => ?_); go_simp; refine hK _ ?_; clear hK K)
        refine gs_call (truth okc) rfl (by first | rfl | kernel_rfl) (fun wq hB => ?_) (fun uq hu => ?_)
        · go_simp
          refine ⟨rfl, ?_⟩
          exact truth_of (fun _ h => h) (IOc.out _ wq (K_C.out.below (HQ.out _ hB.1)).reads)
        obtain rfl : uq = .bool okc := hu
        repeat (refine gs_plain rfl (fun K hK => ?_); go_simp; refine hK _ ?_; clear hK K)
        refine gs_call (truth okc) rfl (by first | rfl | kernel_rfl) (fun wq hB => ?_) (fun uq hu => ?_)
        · go_simp
          refine ⟨rfl, ?_⟩
          exact truth_of (fun _ h => h) (SOc.out _ wq (K_C.out.below (HQ.out _ hB.1)).reads)
        obtain rfl : uq = .bool okc := hu
        repeat (refine gs_plain rfl (fun K hK => ?_); go_simp; refine hK _ ?_; clear hK K)
        refine gs_end (fun y20 hz => ?_)
        have bz := HQ.out _ hz.1
        clear hz m_X_0 m_X_1 m_X_2 m_X_3 m_X_4 m_U_0 m_U_1 m_U_2 m_U_3 m_U_4 m_Y_0 m_Y_1 m_Y_2 m_Y_3 m_Y_4 m_A_0 m_A_1 m_A_2 m_A_3 m_A_4 m_C_0 m_C_1 m_C_2 m_C_3 m_C_4 HQ HN H0 hne
        replace K_C : Hid (CpI y20 g_C (.slice Co c.ts.length Cc) c) := K_C.out.below bz
        replace K_X : Hid (CpI y20 g_X (.slice Xo x.ts.length Xc) x) := K_X.out.below bz
        replace K_A : Hid (CpI y20 g_A (.slice Ao a.ts.length Ac) a) := K_A.out.below bz
        replace K_Y : Hid (CpI y20 g_Y (.slice Yo y.ts.length Yc) y) := K_Y.out.below bz
        replace K_Z : Hid (CpI y20 g_Z (.slice Zo z.ts.length Zc) z) := K_Z.out.below bz
        replace K_U : Hid (CpI y20 g_U (.slice Uo x.ts.length Uc) x) := K_U.out.below bz
        replace HB : Hid (Below w.heap.size w y20) := HB.out.trans (bz.mono HB.out.size)
        clear bz
        go_wp2_with fail
        go_meet
        exact ⟨rfl, K_C.out, K_X.out, K_A.out, K_Y.out, K_Z.out, K_U.out, HB.out⟩
    case rest =>
      as_aux_lemma =>
        clear HB K_C K_X K_A K_Y K_Z K_U
        obtain ⟨rfl, HX⟩ := hcut
        obtain ⟨y21, hy21⟩ : ∃ y21, y21 = wc := ⟨_, rfl⟩
        rw [← hy21] at HX ⊢
        clear hy21
        have K_C : Hid (CpI y21 g_C (.slice Co c.ts.length Cc) c) := HX.out.1
        have K_X : Hid (CpI y21 g_X (.slice Xo x.ts.length Xc) x) := HX.out.2.1
        have K_A : Hid (CpI y21 g_A (.slice Ao a.ts.length Ac) a) := HX.out.2.2.1
        have K_Y : Hid (CpI y21 g_Y (.slice Yo y.ts.length Yc) y) := HX.out.2.2.2.1
        have K_Z : Hid (CpI y21 g_Z (.slice Zo z.ts.length Zc) z) := HX.out.2.2.2.2.1
        have K_U : Hid (CpI y21 g_U (.slice Uo x.ts.length Uc) x) := HX.out.2.2.2.2.2.1
        have HB : Hid (Below w.heap.size w y21) := HX.out.2.2.2.2.2.2
        clear HX
        clear IAy SAy LY INx SNx hkk hoo
        go_wp2_with fail
        refine (SNz.out _).mono ?_
        rintro e y22 ⟨_, rfl, oq, bq⟩
        replace K_C : Hid (CpI y22 g_C (.slice Co c.ts.length Cc) c) := K_C.out.below bq
        replace K_X : Hid (CpI y22 g_X (.slice Xo x.ts.length Xc) x) := K_X.out.below bq
        replace K_A : Hid (CpI y22 g_A (.slice Ao a.ts.length Ac) a) := K_A.out.below bq
        replace K_Y : Hid (CpI y22 g_Y (.slice Yo y.ts.length Yc) y) := K_Y.out.below bq
        replace K_Z : Hid (CpI y22 g_Z (.slice Zo z.ts.length Zc) z) := K_Z.out.below bq
        replace K_U : Hid (CpI y22 g_U (.slice Uo x.ts.length Uc) x) := K_U.out.below bq
        replace HB : Hid (Below w.heap.size w y22) := HB.out.trans (bq.mono HB.out.size)
        obtain ⟨Vo, Vc, rfl⟩ := reads_form oq.reads
        obtain ⟨y23, hy23⟩ : ∃ y23, y23 = y22.alloc (.cells (cpA (.slice Vo z.ts.length Vc) z) 26) := ⟨_, rfl⟩
        have by23 : Below y22.heap.size y22 y23 := by rw [hy23]; exact (Below.refl _ _).alloc (Nat.le_refl _) _
        have K_V : Hid (CpI y23 y22.heap.size (.slice Vo z.ts.length Vc) z) := by rw [hy23]; first | exact CpI.new oq | exact CpI.new oq.mine
        clear oq bq
        replace K_C : Hid (CpI y23 g_C (.slice Co c.ts.length Cc) c) := K_C.out.below by23
        replace K_X : Hid (CpI y23 g_X (.slice Xo x.ts.length Xc) x) := K_X.out.below by23
        replace K_A : Hid (CpI y23 g_A (.slice Ao a.ts.length Ac) a) := K_A.out.below by23
        replace K_Y : Hid (CpI y23 g_Y (.slice Yo y.ts.length Yc) y) := K_Y.out.below by23
        replace K_Z : Hid (CpI y23 g_Z (.slice Zo z.ts.length Zc) z) := K_Z.out.below by23
        replace K_U : Hid (CpI y23 g_U (.slice Uo x.ts.length Uc) x) := K_U.out.below by23
        replace HB : Hid (Below w.heap.size w y23) := HB.out.trans (by23.mono HB.out.size)
        clear by23
        unfold cpA at hy23
        try unfold CpV cpA
        go_upto_region 13 with fail
        rw [← hy23]
        clear hy23
        obtain ⟨g_V, hg_V⟩ : ∃ g_V, g_V = y22.heap.size := ⟨_, rfl⟩
        rw [← hg_V] at K_V ⊢
        clear hg_V
        go_cut [107] (fun t wx => t = .bool false ∧ Hid (CpI wx g_C (.slice Co c.ts.length Cc) c ∧ CpI wx g_X (.slice Xo x.ts.length Xc) x ∧ CpI wx g_A (.slice Ao a.ts.length Ac) a ∧ CpI wx g_Y (.slice Yo y.ts.length Yc) y ∧ CpI wx g_Z (.slice Zo z.ts.length Zc) z ∧ CpI wx g_U (.slice Uo x.ts.length Uc) x ∧ CpI wx g_V (.slice Vo z.ts.length Vc) z ∧ Below w.heap.size w wx))
        case first =>
          as_aux_lemma =>
            have hmm : (m != m) = false := by simp
            obtain ⟨f, hf⟩ : ∃ f, f = fullI n := ⟨_, rfl⟩
            have IOt : Hid (m = true → ∀ v wx, Reads wx v z.ts → Calls Try.prog 22 #[.agg #[.int .i64 z.tr, .bool z.op, .int .i64 z.di, .int .i64 z.wa, v]] wx fun e w' => e = .returned (.bool true) ∧ Below wx.heap.size wx w') := by
              intro hm
              have hok : z.ok = true := by rw [H_z.out]; exact Cp.new_ok n t (by rw [← H_m.out]; exact hm)
              have := IOz.out
              rw [hok] at this
              exact this
            have HDI : Hid (m = true → (z.di != f) = false) := by
              intro hm
              rw [hf, H_z.out, Cp.new_di (by rw [← H_m.out]; exact hm)]; simp
            have SF' := fun wx => sfull_any n wx
            rw [← hf] at SF'
            have SF : Hid _ := SF'
            clear hf SF'
            obtain ⟨C, hCd⟩ : ∃ C, C = fun x => Below y23.heap.size y23 x := ⟨_, rfl⟩
            have HQ : Hid (∀ x, C x → Below y23.heap.size y23 x) := by rw [hCd]; exact fun _ h => h
            have HN : Hid (∀ x y, C x → Later x y → C y) := by rw [hCd]; exact fun _ _ h b => h.trans (b.mono h.size)
            have H0 : Hid (C y23.drew) := by rw [hCd]; exact (Below.refl _ _).drew
            have hne : Nonempty (Kin C) := ⟨⟨_, H0.out⟩⟩
            have m_Z_0 : ∀ q : Kin C, q.x.cell? ⟨g_Z, 0, none⟩ = some (.int .i64 z.tr) := fun q => later_cell (K_Z.out.cell 0 rfl) (HQ.out _ q.h)
            have m_Z_1 : ∀ q : Kin C, q.x.cell? ⟨g_Z, 1, none⟩ = some (.bool z.op) := fun q => later_cell (K_Z.out.cell 1 rfl) (HQ.out _ q.h)
            have m_Z_2 : ∀ q : Kin C, q.x.cell? ⟨g_Z, 2, none⟩ = some (.int .i64 z.di) := fun q => later_cell (K_Z.out.cell 2 rfl) (HQ.out _ q.h)
            have m_Z_3 : ∀ q : Kin C, q.x.cell? ⟨g_Z, 3, none⟩ = some (.int .i64 z.wa) := fun q => later_cell (K_Z.out.cell 3 rfl) (HQ.out _ q.h)
            have m_Z_4 : ∀ q : Kin C, q.x.cell? ⟨g_Z, 4, none⟩ = some (.slice Zo z.ts.length Zc) := fun q => later_cell (K_Z.out.cell 4 rfl) (HQ.out _ q.h)
            have m_V_0 : ∀ q : Kin C, q.x.cell? ⟨g_V, 0, none⟩ = some (.int .i64 z.tr) := fun q => later_cell (K_V.out.cell 0 rfl) (HQ.out _ q.h)
            have m_V_1 : ∀ q : Kin C, q.x.cell? ⟨g_V, 1, none⟩ = some (.bool z.op) := fun q => later_cell (K_V.out.cell 1 rfl) (HQ.out _ q.h)
            have m_V_2 : ∀ q : Kin C, q.x.cell? ⟨g_V, 2, none⟩ = some (.int .i64 z.di) := fun q => later_cell (K_V.out.cell 2 rfl) (HQ.out _ q.h)
            have m_V_3 : ∀ q : Kin C, q.x.cell? ⟨g_V, 3, none⟩ = some (.int .i64 z.wa) := fun q => later_cell (K_V.out.cell 3 rfl) (HQ.out _ q.h)
            have m_V_4 : ∀ q : Kin C, q.x.cell? ⟨g_V, 4, none⟩ = some (.slice Vo z.ts.length Vc) := fun q => later_cell (K_V.out.cell 4 rfl) (HQ.out _ q.h)
            clear hCd
            refine wp_region_gs (C := C) (E := byDst fun d => if d = 90 then some (truth true) else if d = 97 then some (truth true) else if d = 103 then some (numG f) else none) (R := Later) HN.out (byDst_later (by intro d s hs u x y hx hl; split at hs; (cases hs; exact truthC_later hx hl); split at hs; (cases hs; exact truthC_later hx hl); split at hs; (cases hs; exact numG_later hx hl); cases hs)) (byDst_looks _ _) (by kernel_rfl) (by kernel_rfl) H0.out ?_
            repeat (refine gs_plain rfl (fun K hK => ?_); go_simp; refine hK _ ?_; clear hK K)
            refine gs_call (truth true) rfl (by first | rfl | kernel_rfl) (fun wq hB => ?_) (fun uq hu => ?_)
            · go_simp
              refine ⟨rfl, ?_⟩
              exact truth_of (fun _ h => h) (LZ.out _ _ wq (K_Z.out.below (HQ.out _ hB.1)).reads (K_V.out.below (HQ.out _ hB.1)).reads)
            obtain rfl : uq = .bool true := hu
            iterate 3 (refine gs_plain rfl (fun K hK => ?_); go_simp; refine hK _ ?_; clear hK K)
            cases m with
            | false =>
              clear IOt HDI
              repeat (refine gs_plain rfl (fun K hK => ?_); go_simp; refine hK _ ?_; clear hK K)
              refine gs_skip (by first | rfl | kernel_rfl) ?_
              repeat (refine gs_plain rfl (fun K hK => ?_); go_simp; refine hK _ ?_; clear hK K)
              refine gs_skip (by first | rfl | kernel_rfl) ?_
              repeat (refine gs_plain rfl (fun K hK => ?_); go_simp; refine hK _ ?_; clear hK K)
              refine gs_end (fun y25 hz => ?_)
              have bz := HQ.out _ hz.1
              clear hz m_Z_0 m_Z_1 m_Z_2 m_Z_3 m_Z_4 m_V_0 m_V_1 m_V_2 m_V_3 m_V_4 HQ HN H0 hne SF hmm
              replace K_C : Hid (CpI y25 g_C (.slice Co c.ts.length Cc) c) := K_C.out.below bz
              replace K_X : Hid (CpI y25 g_X (.slice Xo x.ts.length Xc) x) := K_X.out.below bz
              replace K_A : Hid (CpI y25 g_A (.slice Ao a.ts.length Ac) a) := K_A.out.below bz
              replace K_Y : Hid (CpI y25 g_Y (.slice Yo y.ts.length Yc) y) := K_Y.out.below bz
              replace K_Z : Hid (CpI y25 g_Z (.slice Zo z.ts.length Zc) z) := K_Z.out.below bz
              replace K_U : Hid (CpI y25 g_U (.slice Uo x.ts.length Uc) x) := K_U.out.below bz
              replace K_V : Hid (CpI y25 g_V (.slice Vo z.ts.length Vc) z) := K_V.out.below bz
              replace HB : Hid (Below w.heap.size w y25) := HB.out.trans (bz.mono HB.out.size)
              clear bz
              go_wp2_with fail
              go_meet
              exact ⟨rfl, K_C.out, K_X.out, K_A.out, K_Y.out, K_Z.out, K_U.out, K_V.out, HB.out⟩
            | true =>
              have hdi := HDI.out rfl
              have IOu := IOt.out rfl
              have IOv : Hid _ := IOu
              clear HDI IOt IOu
              repeat (refine gs_plain rfl (fun K hK => ?_); go_simp; refine hK _ ?_; clear hK K)
              refine gs_call (truth true) rfl (by first | rfl | kernel_rfl) (fun wq hB => ?_) (fun uq hu => ?_)
              · go_simp
                refine ⟨rfl, ?_⟩
                exact truth_of (fun _ h => h) (IOv.out _ wq (K_Z.out.below (HQ.out _ hB.1)).reads)
              obtain rfl : uq = .bool true := hu
              repeat (refine gs_plain rfl (fun K hK => ?_); go_simp; refine hK _ ?_; clear hK K)
              refine gs_call (numG f) rfl (by first | rfl | kernel_rfl) (fun wq hB => ?_) (fun uq hu => ?_)
              · go_simp
                refine ⟨rfl, ?_⟩
                exact num_of (SF.out wq)
              obtain rfl : uq = .int .i64 f := hu
              repeat (refine gs_plain rfl (fun K hK => ?_); go_simp; refine hK _ ?_; clear hK K)
              refine gs_end (fun y26 hz => ?_)
              have bz := HQ.out _ hz.1
              clear hz m_Z_0 m_Z_1 m_Z_2 m_Z_3 m_Z_4 m_V_0 m_V_1 m_V_2 m_V_3 m_V_4 HQ HN H0 hne SF hmm hdi IOv
              replace K_C : Hid (CpI y26 g_C (.slice Co c.ts.length Cc) c) := K_C.out.below bz
              replace K_X : Hid (CpI y26 g_X (.slice Xo x.ts.length Xc) x) := K_X.out.below bz
              replace K_A : Hid (CpI y26 g_A (.slice Ao a.ts.length Ac) a) := K_A.out.below bz
              replace K_Y : Hid (CpI y26 g_Y (.slice Yo y.ts.length Yc) y) := K_Y.out.below bz
              replace K_Z : Hid (CpI y26 g_Z (.slice Zo z.ts.length Zc) z) := K_Z.out.below bz
              replace K_U : Hid (CpI y26 g_U (.slice Uo x.ts.length Uc) x) := K_U.out.below bz
              replace K_V : Hid (CpI y26 g_V (.slice Vo z.ts.length Vc) z) := K_V.out.below bz
              replace HB : Hid (Below w.heap.size w y26) := HB.out.trans (bz.mono HB.out.size)
              clear bz
              go_wp2_with fail
              go_meet
              exact ⟨rfl, K_C.out, K_X.out, K_A.out, K_Y.out, K_Z.out, K_U.out, K_V.out, HB.out⟩
        case rest =>
          as_aux_lemma =>
            clear HB K_C K_X K_A K_Y K_Z K_U K_V
            obtain ⟨rfl, HX⟩ := hcut
            obtain ⟨y27, hy27⟩ : ∃ y27, y27 = wc := ⟨_, rfl⟩
            rw [← hy27] at HX ⊢
            clear hy27
            have K_C : Hid (CpI y27 g_C (.slice Co c.ts.length Cc) c) := HX.out.1
            have K_X : Hid (CpI y27 g_X (.slice Xo x.ts.length Xc) x) := HX.out.2.1
            have K_A : Hid (CpI y27 g_A (.slice Ao a.ts.length Ac) a) := HX.out.2.2.1
            have K_Y : Hid (CpI y27 g_Y (.slice Yo y.ts.length Yc) y) := HX.out.2.2.2.1
            have K_Z : Hid (CpI y27 g_Z (.slice Zo z.ts.length Zc) z) := HX.out.2.2.2.2.1
            have K_U : Hid (CpI y27 g_U (.slice Uo x.ts.length Uc) x) := HX.out.2.2.2.2.2.1
            have K_V : Hid (CpI y27 g_V (.slice Vo z.ts.length Vc) z) := HX.out.2.2.2.2.2.2.1
            have HB : Hid (Below w.heap.size w y27) := HX.out.2.2.2.2.2.2.2
            clear HX
            clear IOz LZ INz SNz
            go_upto_region 15 with fail
            go_cut [141] (fun t wx => t = .bool false ∧ Hid (CpI wx g_C (.slice Co c.ts.length Cc) c ∧ CpI wx g_X (.slice Xo x.ts.length Xc) x ∧ CpI wx g_A (.slice Ao a.ts.length Ac) a ∧ CpI wx g_Y (.slice Yo y.ts.length Yc) y ∧ CpI wx g_Z (.slice Zo z.ts.length Zc) z ∧ CpI wx g_U (.slice Uo x.ts.length Uc) x ∧ CpI wx g_V (.slice Vo z.ts.length Vc) z ∧ Below w.heap.size w wx))
            case first =>
              as_aux_lemma =>
                cases oka with
                | false =>
                  obtain ⟨C, hCd⟩ : ∃ C, C = fun x => Below y27.heap.size y27 x := ⟨_, rfl⟩
                  have HQ : Hid (∀ x, C x → Below y27.heap.size y27 x) := by rw [hCd]; exact fun _ h => h
                  have HN : Hid (∀ x y, C x → Later x y → C y) := by rw [hCd]; exact fun _ _ h b => h.trans (b.mono h.size)
                  have H0 : Hid (C y27.drew) := by rw [hCd]; exact (Below.refl _ _).drew
                  have hne : Nonempty (Kin C) := ⟨⟨_, H0.out⟩⟩
                  have m_A_0 : ∀ q : Kin C, q.x.cell? ⟨g_A, 0, none⟩ = some (.int .i64 a.tr) := fun q => later_cell (K_A.out.cell 0 rfl) (HQ.out _ q.h)
                  have m_A_1 : ∀ q : Kin C, q.x.cell? ⟨g_A, 1, none⟩ = some (.bool a.op) := fun q => later_cell (K_A.out.cell 1 rfl) (HQ.out _ q.h)
                  have m_A_2 : ∀ q : Kin C, q.x.cell? ⟨g_A, 2, none⟩ = some (.int .i64 a.di) := fun q => later_cell (K_A.out.cell 2 rfl) (HQ.out _ q.h)
                  have m_A_3 : ∀ q : Kin C, q.x.cell? ⟨g_A, 3, none⟩ = some (.int .i64 a.wa) := fun q => later_cell (K_A.out.cell 3 rfl) (HQ.out _ q.h)
                  have m_A_4 : ∀ q : Kin C, q.x.cell? ⟨g_A, 4, none⟩ = some (.slice Ao a.ts.length Ac) := fun q => later_cell (K_A.out.cell 4 rfl) (HQ.out _ q.h)
                  have m_Y_0 : ∀ q : Kin C, q.x.cell? ⟨g_Y, 0, none⟩ = some (.int .i64 y.tr) := fun q => later_cell (K_Y.out.cell 0 rfl) (HQ.out _ q.h)
                  have m_Y_1 : ∀ q : Kin C, q.x.cell? ⟨g_Y, 1, none⟩ = some (.bool y.op) := fun q => later_cell (K_Y.out.cell 1 rfl) (HQ.out _ q.h)
                  have m_Y_2 : ∀ q : Kin C, q.x.cell? ⟨g_Y, 2, none⟩ = some (.int .i64 y.di) := fun q => later_cell (K_Y.out.cell 2 rfl) (HQ.out _ q.h)
                  have m_Y_3 : ∀ q : Kin C, q.x.cell? ⟨g_Y, 3, none⟩ = some (.int .i64 y.wa) := fun q => later_cell (K_Y.out.cell 3 rfl) (HQ.out _ q.h)
                  have m_Y_4 : ∀ q : Kin C, q.x.cell? ⟨g_Y, 4, none⟩ = some (.slice Yo y.ts.length Yc) := fun q => later_cell (K_Y.out.cell 4 rfl) (HQ.out _ q.h)
                  clear hCd
                  refine wp_region_gs (C := C) (E := byDst fun d => if d = 109 then some (truth false) else none) (R := Later) HN.out (byDst_later (by intro d s hs u x y hx hl; split at hs; (cases hs; exact truthC_later hx hl); cases hs)) (byDst_looks _ _) (by kernel_rfl) (by kernel_rfl) H0.out ?_
                  repeat (refine gs_plain rfl (fun K hK => ?_); go_simp; refine hK _ ?_; clear hK K)
                  refine gs_call (truth false) rfl (by first | rfl | kernel_rfl) (fun wq hB => ?_) (fun uq hu => ?_)
                  · go_simp
                    refine ⟨rfl, ?_⟩
                    exact truth_of (fun _ h => h) (SOa.out _ wq (K_A.out.below (HQ.out _ hB.1)).reads)
                  obtain rfl : uq = .bool false := hu
                  repeat (refine gs_plain rfl (fun K hK => ?_); go_simp; refine hK _ ?_; clear hK K)
                  refine gs_end (fun y28 hz => ?_)
                  have bz := HQ.out _ hz.1
                  clear hz m_A_0 m_A_1 m_A_2 m_A_3 m_A_4 m_Y_0 m_Y_1 m_Y_2 m_Y_3 m_Y_4 HQ HN H0 hne
                  replace K_C : Hid (CpI y28 g_C (.slice Co c.ts.length Cc) c) := K_C.out.below bz
                  replace K_X : Hid (CpI y28 g_X (.slice Xo x.ts.length Xc) x) := K_X.out.below bz
                  replace K_A : Hid (CpI y28 g_A (.slice Ao a.ts.length Ac) a) := K_A.out.below bz
                  replace K_Y : Hid (CpI y28 g_Y (.slice Yo y.ts.length Yc) y) := K_Y.out.below bz
                  replace K_Z : Hid (CpI y28 g_Z (.slice Zo z.ts.length Zc) z) := K_Z.out.below bz
                  replace K_U : Hid (CpI y28 g_U (.slice Uo x.ts.length Uc) x) := K_U.out.below bz
                  replace K_V : Hid (CpI y28 g_V (.slice Vo z.ts.length Vc) z) := K_V.out.below bz
                  replace HB : Hid (Below w.heap.size w y28) := HB.out.trans (bz.mono HB.out.size)
                  clear bz
                  go_wp2_with fail
                  go_meet
                  exact ⟨rfl, K_C.out, K_X.out, K_A.out, K_Y.out, K_Z.out, K_U.out, K_V.out, HB.out⟩
                | true =>
                  have HS := Cp.Ack_said H_oka.out.symm i tn
                  rw [← H_y.out] at HS
                  obtain ⟨e1, HS⟩ := HS
                  have hdi : (y.di != a.di) = false := by rw [e1]; simp
                  clear e1
                  by_cases hw : y.wa = a.wa
                  · have hww : (y.wa != a.wa) = false := by simpa using hw
                    clear hw HS
                    obtain ⟨C, hCd⟩ : ∃ C, C = fun x => Below y27.heap.size y27 x := ⟨_, rfl⟩
                    have HQ : Hid (∀ x, C x → Below y27.heap.size y27 x) := by rw [hCd]; exact fun _ h => h
                    have HN : Hid (∀ x y, C x → Later x y → C y) := by rw [hCd]; exact fun _ _ h b => h.trans (b.mono h.size)
                    have H0 : Hid (C y27.drew) := by rw [hCd]; exact (Below.refl _ _).drew
                    have hne : Nonempty (Kin C) := ⟨⟨_, H0.out⟩⟩
                    have m_A_0 : ∀ q : Kin C, q.x.cell? ⟨g_A, 0, none⟩ = some (.int .i64 a.tr) := fun q => later_cell (K_A.out.cell 0 rfl) (HQ.out _ q.h)
                    have m_A_1 : ∀ q : Kin C, q.x.cell? ⟨g_A, 1, none⟩ = some (.bool a.op) := fun q => later_cell (K_A.out.cell 1 rfl) (HQ.out _ q.h)
                    have m_A_2 : ∀ q : Kin C, q.x.cell? ⟨g_A, 2, none⟩ = some (.int .i64 a.di) := fun q => later_cell (K_A.out.cell 2 rfl) (HQ.out _ q.h)
                    have m_A_3 : ∀ q : Kin C, q.x.cell? ⟨g_A, 3, none⟩ = some (.int .i64 a.wa) := fun q => later_cell (K_A.out.cell 3 rfl) (HQ.out _ q.h)
                    have m_A_4 : ∀ q : Kin C, q.x.cell? ⟨g_A, 4, none⟩ = some (.slice Ao a.ts.length Ac) := fun q => later_cell (K_A.out.cell 4 rfl) (HQ.out _ q.h)
                    have m_Y_0 : ∀ q : Kin C, q.x.cell? ⟨g_Y, 0, none⟩ = some (.int .i64 y.tr) := fun q => later_cell (K_Y.out.cell 0 rfl) (HQ.out _ q.h)
                    have m_Y_1 : ∀ q : Kin C, q.x.cell? ⟨g_Y, 1, none⟩ = some (.bool y.op) := fun q => later_cell (K_Y.out.cell 1 rfl) (HQ.out _ q.h)
                    have m_Y_2 : ∀ q : Kin C, q.x.cell? ⟨g_Y, 2, none⟩ = some (.int .i64 y.di) := fun q => later_cell (K_Y.out.cell 2 rfl) (HQ.out _ q.h)
                    have m_Y_3 : ∀ q : Kin C, q.x.cell? ⟨g_Y, 3, none⟩ = some (.int .i64 y.wa) := fun q => later_cell (K_Y.out.cell 3 rfl) (HQ.out _ q.h)
                    have m_Y_4 : ∀ q : Kin C, q.x.cell? ⟨g_Y, 4, none⟩ = some (.slice Yo y.ts.length Yc) := fun q => later_cell (K_Y.out.cell 4 rfl) (HQ.out _ q.h)
                    clear hCd
                    refine wp_region_gs (C := C) (E := byDst fun d => if d = 109 then some (truth true) else none) (R := Later) HN.out (byDst_later (by intro d s hs u x y hx hl; split at hs; (cases hs; exact truthC_later hx hl); cases hs)) (byDst_looks _ _) (by kernel_rfl) (by kernel_rfl) H0.out ?_
                    repeat (refine gs_plain rfl (fun K hK => ?_); go_simp; refine hK _ ?_; clear hK K)
                    refine gs_call (truth true) rfl (by first | rfl | kernel_rfl) (fun wq hB => ?_) (fun uq hu => ?_)
                    · go_simp
                      refine ⟨rfl, ?_⟩
                      exact truth_of (fun _ h => h) (SOa.out _ wq (K_A.out.below (HQ.out _ hB.1)).reads)
                    obtain rfl : uq = .bool true := hu
                    repeat (refine gs_plain rfl (fun K hK => ?_); go_simp; refine hK _ ?_; clear hK K)
                    refine gs_end (fun y29 hz => ?_)
                    have bz := HQ.out _ hz.1
                    clear hz m_A_0 m_A_1 m_A_2 m_A_3 m_A_4 m_Y_0 m_Y_1 m_Y_2 m_Y_3 m_Y_4 HQ HN H0 hne
                    replace K_C : Hid (CpI y29 g_C (.slice Co c.ts.length Cc) c) := K_C.out.below bz
                    replace K_X : Hid (CpI y29 g_X (.slice Xo x.ts.length Xc) x) := K_X.out.below bz
                    replace K_A : Hid (CpI y29 g_A (.slice Ao a.ts.length Ac) a) := K_A.out.below bz
                    replace K_Y : Hid (CpI y29 g_Y (.slice Yo y.ts.length Yc) y) := K_Y.out.below bz
                    replace K_Z : Hid (CpI y29 g_Z (.slice Zo z.ts.length Zc) z) := K_Z.out.below bz
                    replace K_U : Hid (CpI y29 g_U (.slice Uo x.ts.length Uc) x) := K_U.out.below bz
                    replace K_V : Hid (CpI y29 g_V (.slice Vo z.ts.length Vc) z) := K_V.out.below bz
                    replace HB : Hid (Below w.heap.size w y29) := HB.out.trans (bz.mono HB.out.size)
                    clear bz
                    go_wp2_with fail
                    go_meet
                    exact ⟨rfl, K_C.out, K_X.out, K_A.out, K_Y.out, K_Z.out, K_U.out, K_V.out, HB.out⟩
                  · have hww : (y.wa != a.wa) = true := by simpa using hw
                    obtain ⟨e2, h0, h1, e3⟩ := HS.resolve_left hw
                    clear hw HS
                    obtain ⟨j, rfl⟩ := nat_of h0
                    rw [Int.toNat_natCast] at e3
                    obtain ⟨bb, off, rfl, hc1, hc2, kj⟩ := K_A.out.at j (by omega)
                    unfold maxLen at hc2
                    rw [e3] at kj
                    obtain ⟨q, hq⟩ : ∃ q, q = withoutI a.wa j := ⟨_, rfl⟩
                    have SW' := fun wx => swithout_any a.wa j wx
                    rw [← hq] at SW' e2
                    have SW : Hid _ := SW'
                    have hwq : (y.wa != q) = false := by rw [e2]; simp
                    have htt : (tn != tn) = false := by simp
                    clear SW' e2 e3 hq
                    obtain ⟨C, hCd⟩ : ∃ C, C = fun x => Below y27.heap.size y27 x := ⟨_, rfl⟩
                    have HQ : Hid (∀ x, C x → Below y27.heap.size y27 x) := by rw [hCd]; exact fun _ h => h
                    have HN : Hid (∀ x y, C x → Later x y → C y) := by rw [hCd]; exact fun _ _ h b => h.trans (b.mono h.size)
                    have H0 : Hid (C y27.drew) := by rw [hCd]; exact (Below.refl _ _).drew
                    have hne : Nonempty (Kin C) := ⟨⟨_, H0.out⟩⟩
                    have m_A_0 : ∀ q : Kin C, q.x.cell? ⟨g_A, 0, none⟩ = some (.int .i64 a.tr) := fun q => later_cell (K_A.out.cell 0 rfl) (HQ.out _ q.h)
                    have m_A_1 : ∀ q : Kin C, q.x.cell? ⟨g_A, 1, none⟩ = some (.bool a.op) := fun q => later_cell (K_A.out.cell 1 rfl) (HQ.out _ q.h)
                    have m_A_2 : ∀ q : Kin C, q.x.cell? ⟨g_A, 2, none⟩ = some (.int .i64 a.di) := fun q => later_cell (K_A.out.cell 2 rfl) (HQ.out _ q.h)
                    have m_A_3 : ∀ q : Kin C, q.x.cell? ⟨g_A, 3, none⟩ = some (.int .i64 a.wa) := fun q => later_cell (K_A.out.cell 3 rfl) (HQ.out _ q.h)
                    have m_A_4 : ∀ q : Kin C, q.x.cell? ⟨g_A, 4, none⟩ = some (.slice (some ⟨bb, off, none⟩) a.ts.length Ac) := fun q => later_cell (K_A.out.cell 4 rfl) (HQ.out _ q.h)
                    have m_Y_0 : ∀ q : Kin C, q.x.cell? ⟨g_Y, 0, none⟩ = some (.int .i64 y.tr) := fun q => later_cell (K_Y.out.cell 0 rfl) (HQ.out _ q.h)
                    have m_Y_1 : ∀ q : Kin C, q.x.cell? ⟨g_Y, 1, none⟩ = some (.bool y.op) := fun q => later_cell (K_Y.out.cell 1 rfl) (HQ.out _ q.h)
                    have m_Y_2 : ∀ q : Kin C, q.x.cell? ⟨g_Y, 2, none⟩ = some (.int .i64 y.di) := fun q => later_cell (K_Y.out.cell 2 rfl) (HQ.out _ q.h)
                    have m_Y_3 : ∀ q : Kin C, q.x.cell? ⟨g_Y, 3, none⟩ = some (.int .i64 y.wa) := fun q => later_cell (K_Y.out.cell 3 rfl) (HQ.out _ q.h)
                    have m_Y_4 : ∀ q : Kin C, q.x.cell? ⟨g_Y, 4, none⟩ = some (.slice Yo y.ts.length Yc) := fun q => later_cell (K_Y.out.cell 4 rfl) (HQ.out _ q.h)
                    have m_at : ∀ q : Kin C, q.x.cell? ⟨bb, off + j, none⟩ = some (.int .i64 tn) := fun q => later_cell kj (HQ.out _ q.h)
                    clear hCd
                    refine wp_region_gs (C := C) (E := byDst fun d => if d = 109 then some (truth true) else if d = 128 then some (numG q) else none) (R := Later) HN.out (byDst_later (by intro d s hs u x y hx hl; split at hs; (cases hs; exact truthC_later hx hl); split at hs; (cases hs; exact numG_later hx hl); cases hs)) (byDst_looks _ _) (by kernel_rfl) (by kernel_rfl) H0.out ?_
                    repeat (refine gs_plain rfl (fun K hK => ?_); go_simp; refine hK _ ?_; clear hK K)
                    refine gs_call (truth true) rfl (by first | rfl | kernel_rfl) (fun wq hB => ?_) (fun uq hu => ?_)
                    · go_simp
                      refine ⟨rfl, ?_⟩
                      exact truth_of (fun _ h => h) (SOa.out _ wq (K_A.out.below (HQ.out _ hB.1)).reads)
                    obtain rfl : uq = .bool true := hu
                    repeat (refine gs_plain rfl (fun K hK => ?_); go_simp; refine hK _ ?_; clear hK K)
                    refine gs_call (numG q) rfl (by first | rfl | kernel_rfl) (fun wq hB => ?_) (fun uq hu => ?_)
                    · go_simp
                      refine ⟨rfl, ?_⟩
                      exact num_of (SW.out wq)
                    obtain rfl : uq = .int .i64 q := hu
                    repeat (refine gs_plain rfl (fun K hK => ?_); go_simp; refine hK _ ?_; clear hK K)
                    refine gs_end (fun y30 hz => ?_)
                    have bz := HQ.out _ hz.1
                    clear hz m_A_0 m_A_1 m_A_2 m_A_3 m_A_4 m_Y_0 m_Y_1 m_Y_2 m_Y_3 m_Y_4 m_at kj HQ HN H0 hne
                    replace K_C : Hid (CpI y30 g_C (.slice Co c.ts.length Cc) c) := K_C.out.below bz
                    replace K_X : Hid (CpI y30 g_X (.slice Xo x.ts.length Xc) x) := K_X.out.below bz
                    replace K_A : Hid (CpI y30 g_A (.slice (some ⟨bb, off, none⟩) a.ts.length Ac) a) := K_A.out.below bz
                    replace K_Y : Hid (CpI y30 g_Y (.slice Yo y.ts.length Yc) y) := K_Y.out.below bz
                    replace K_Z : Hid (CpI y30 g_Z (.slice Zo z.ts.length Zc) z) := K_Z.out.below bz
                    replace K_U : Hid (CpI y30 g_U (.slice Uo x.ts.length Uc) x) := K_U.out.below bz
                    replace K_V : Hid (CpI y30 g_V (.slice Vo z.ts.length Vc) z) := K_V.out.below bz
                    replace HB : Hid (Below w.heap.size w y30) := HB.out.trans (bz.mono HB.out.size)
                    clear bz
                    go_wp2_with fail
                    go_meet
                    exact ⟨rfl, K_C.out, K_X.out, K_A.out, K_Y.out, K_Z.out, K_U.out, K_V.out, HB.out⟩
            case rest =>
              as_aux_lemma =>
                clear HB K_C K_X K_A K_Y K_Z K_U K_V
                obtain ⟨rfl, HX⟩ := hcut
                obtain ⟨y31, hy31⟩ : ∃ y31, y31 = wc := ⟨_, rfl⟩
                rw [← hy31] at HX ⊢
                clear hy31
                have K_C : Hid (CpI y31 g_C (.slice Co c.ts.length Cc) c) := HX.out.1
                have K_X : Hid (CpI y31 g_X (.slice Xo x.ts.length Xc) x) := HX.out.2.1
                have K_A : Hid (CpI y31 g_A (.slice Ao a.ts.length Ac) a) := HX.out.2.2.1
                have K_Y : Hid (CpI y31 g_Y (.slice Yo y.ts.length Yc) y) := HX.out.2.2.2.1
                have K_Z : Hid (CpI y31 g_Z (.slice Zo z.ts.length Zc) z) := HX.out.2.2.2.2.1
                have K_U : Hid (CpI y31 g_U (.slice Uo x.ts.length Uc) x) := HX.out.2.2.2.2.2.1
                have K_V : Hid (CpI y31 g_V (.slice Vo z.ts.length Vc) z) := HX.out.2.2.2.2.2.2.1
                have HB : Hid (Below w.heap.size w y31) := HX.out.2.2.2.2.2.2.2
                clear HX
                clear SOa
                by_cases hk0 : k < 0
                · skip
                  have p_C_0 : y31.cell? ⟨g_C, 0, none⟩ = some (.int .i64 c.tr) := K_C.out.cell 0 rfl
                  have p_C_1 : y31.cell? ⟨g_C, 1, none⟩ = some (.bool c.op) := K_C.out.cell 1 rfl
                  have p_C_2 : y31.cell? ⟨g_C, 2, none⟩ = some (.int .i64 c.di) := K_C.out.cell 2 rfl
                  have p_C_3 : y31.cell? ⟨g_C, 3, none⟩ = some (.int .i64 c.wa) := K_C.out.cell 3 rfl
                  have p_C_4 : y31.cell? ⟨g_C, 4, none⟩ = some (.slice Co c.ts.length Cc) := K_C.out.cell 4 rfl
                  go_wp2_with fail
                  clear p_C_0 p_C_1 p_C_2 p_C_3 p_C_4
                  refine (SOc.out _ _ K_C.out.reads).mono ?_
                  rintro e y32 ⟨rfl, bq⟩
                  replace K_C : Hid (CpI y32 g_C (.slice Co c.ts.length Cc) c) := K_C.out.below bq
                  replace K_X : Hid (CpI y32 g_X (.slice Xo x.ts.length Xc) x) := K_X.out.below bq
                  replace K_A : Hid (CpI y32 g_A (.slice Ao a.ts.length Ac) a) := K_A.out.below bq
                  replace K_Y : Hid (CpI y32 g_Y (.slice Yo y.ts.length Yc) y) := K_Y.out.below bq
                  replace K_Z : Hid (CpI y32 g_Z (.slice Zo z.ts.length Zc) z) := K_Z.out.below bq
                  replace K_U : Hid (CpI y32 g_U (.slice Uo x.ts.length Uc) x) := K_U.out.below bq
                  replace K_V : Hid (CpI y32 g_V (.slice Vo z.ts.length Vc) z) := K_V.out.below bq
                  replace HB : Hid (Below w.heap.size w y32) := HB.out.trans (bq.mono HB.out.size)
                  clear bq
                  cases okc with
                  | false =>
                    clear K_C K_X K_A K_Y K_Z K_U K_V
                    go_wp2
                    go_ret
                    exact ⟨rfl, HB.out⟩
                  | true =>
                    have ex : x = c := by rw [H_x.out]; exact Cp.Nx_no H_okc.out.symm (by rw [← H_k.out]; exact hk0)
                    have LXC : ∀ u v wx, Reads wx u x.ts → Reads wx v c.ts → Calls Try.prog 20 #[.agg #[.int .i64 x.tr, .bool x.op, .int .i64 x.di, .int .i64 x.wa, u], .agg #[.int .i64 c.tr, .bool c.op, .int .i64 c.di, .int .i64 c.wa, v]] wx fun e w' => e = .returned (.bool true) ∧ Below wx.heap.size wx w' := by
                      clear K_X K_U LX H_x
                      subst ex
                      exact fun u v wx hu hv => likeC_any u v x wx hu hv gc
                    clear ex
                    have LC : Hid _ := LXC
                    clear LXC
                    have p_X_0 : y32.cell? ⟨g_X, 0, none⟩ = some (.int .i64 x.tr) := K_X.out.cell 0 rfl
                    have p_X_1 : y32.cell? ⟨g_X, 1, none⟩ = some (.bool x.op) := K_X.out.cell 1 rfl
                    have p_X_2 : y32.cell? ⟨g_X, 2, none⟩ = some (.int .i64 x.di) := K_X.out.cell 2 rfl
                    have p_X_3 : y32.cell? ⟨g_X, 3, none⟩ = some (.int .i64 x.wa) := K_X.out.cell 3 rfl
                    have p_X_4 : y32.cell? ⟨g_X, 4, none⟩ = some (.slice Xo x.ts.length Xc) := K_X.out.cell 4 rfl
                    have p_C_0 : y32.cell? ⟨g_C, 0, none⟩ = some (.int .i64 c.tr) := K_C.out.cell 0 rfl
                    have p_C_1 : y32.cell? ⟨g_C, 1, none⟩ = some (.bool c.op) := K_C.out.cell 1 rfl
                    have p_C_2 : y32.cell? ⟨g_C, 2, none⟩ = some (.int .i64 c.di) := K_C.out.cell 2 rfl
                    have p_C_3 : y32.cell? ⟨g_C, 3, none⟩ = some (.int .i64 c.wa) := K_C.out.cell 3 rfl
                    have p_C_4 : y32.cell? ⟨g_C, 4, none⟩ = some (.slice Co c.ts.length Cc) := K_C.out.cell 4 rfl
                    go_wp2_with fail
                    clear p_X_0 p_X_1 p_X_2 p_X_3 p_X_4 p_C_0 p_C_1 p_C_2 p_C_3 p_C_4
                    refine (LC.out _ _ _ K_X.out.reads K_C.out.reads).mono ?_
                    rintro e y33 ⟨rfl, bq⟩
                    replace K_C : Hid (CpI y33 g_C (.slice Co c.ts.length Cc) c) := K_C.out.below bq
                    replace K_X : Hid (CpI y33 g_X (.slice Xo x.ts.length Xc) x) := K_X.out.below bq
                    replace K_A : Hid (CpI y33 g_A (.slice Ao a.ts.length Ac) a) := K_A.out.below bq
                    replace K_Y : Hid (CpI y33 g_Y (.slice Yo y.ts.length Yc) y) := K_Y.out.below bq
                    replace K_Z : Hid (CpI y33 g_Z (.slice Zo z.ts.length Zc) z) := K_Z.out.below bq
                    replace K_U : Hid (CpI y33 g_U (.slice Uo x.ts.length Uc) x) := K_U.out.below bq
                    replace K_V : Hid (CpI y33 g_V (.slice Vo z.ts.length Vc) z) := K_V.out.below bq
                    replace HB : Hid (Below w.heap.size w y33) := HB.out.trans (bq.mono HB.out.size)
                    clear bq
                    clear K_C K_X K_A K_Y K_Z K_U K_V
                    go_wp2
                    go_ret
                    exact ⟨rfl, HB.out⟩
                · skip
                  have hy := Cp.Nx_yes (c := c) (by rw [← H_k.out]; exact hk0)
                  rw [← H_x.out, ← H_k.out] at hy
                  obtain ⟨-, hop, e1, ⟨h0, h1⟩, hok, hlx, e2, e3, e4, hcl, h5, -, -⟩ := hy
                  have SF' := fun wx => sfirst_any c.di wx
                  simp only [← e1] at h0 h1 e2 e3 e4 h5 SF'
                  clear e1 hk0 H_x H_okc
                  obtain ⟨j, rfl⟩ := nat_of h0
                  rw [Int.toNat_natCast] at e2 h5
                  have IOk := fun v wx h => icopok_any v x wx h gx
                  rw [hok] at IOk
                  have ICl := fun v wx h => iclean_any v x wx h gx
                  rw [hcl] at ICl
                  unfold CpV cpA at IOk ICl
                  obtain ⟨d1, hd1⟩ : ∃ d1, d1 = withoutI c.di j := ⟨_, rfl⟩
                  obtain ⟨w1, hw1⟩ : ∃ w1, w1 = withI c.wa j := ⟨_, rfl⟩
                  have SD' := fun wx => swithout_any c.di j wx
                  have SW' := fun wx => swith_any c.wa j wx
                  rw [← hd1] at SD' e3
                  rw [← hw1] at SW' e4
                  have hde : (x.di == d1) = true := by rw [e3]; simp
                  have hwe : (x.wa == w1) = true := by rw [e4]; simp
                  have SF : Hid _ := SF'
                  have SD : Hid _ := SD'
                  have SW : Hid _ := SW'
                  have JOk : Hid _ := IOk
                  have IC : Hid _ := ICl
                  clear SF' SD' SW' IOk ICl hok hcl e3 e4 hd1 hw1
                  obtain ⟨bx, ox, rfl, hx1, hx2, kx⟩ := K_X.out.at j (by omega)
                  obtain ⟨bc, oc, rfl, hc1, hc2, kc⟩ := K_C.out.at j (by omega)
                  unfold maxLen at hx2 hc2
                  rw [e2] at kx
                  obtain ⟨yv, hyv⟩ : ∃ yv, yv = c.ts.getD j 0 := ⟨_, rfl⟩
                  rw [← hyv] at kx kc h5
                  clear e2 hyv
                  have hyw : IntKind.i64.wrap (yv + 1) = yv + 1 := by rw [IntKind.wrap_i64]; omega
                  have hjx : (j : Int) < (x.ts.length : Int) := by omega
                  have hjj : ((j : Int) == (j : Int)) = true := by simp
                  have hyy : (yv + 1 == yv + 1) = true := by simp
                  clear hlx
                  go_upto_region 19 with fail
                  obtain ⟨C, hCd⟩ : ∃ C, C = fun x => Below y31.heap.size y31 x := ⟨_, rfl⟩
                  have HQ : Hid (∀ x, C x → Below y31.heap.size y31 x) := by rw [hCd]; exact fun _ h => h
                  have HN : Hid (∀ x y, C x → Later x y → C y) := by rw [hCd]; exact fun _ _ h b => h.trans (b.mono h.size)
                  have H0 : Hid (C y31.drew) := by rw [hCd]; exact (Below.refl _ _).drew
                  have hne : Nonempty (Kin C) := ⟨⟨_, H0.out⟩⟩
                  have m_X_0 : ∀ q : Kin C, q.x.cell? ⟨g_X, 0, none⟩ = some (.int .i64 x.tr) := fun q => later_cell (K_X.out.cell 0 rfl) (HQ.out _ q.h)
                  have m_X_1 : ∀ q : Kin C, q.x.cell? ⟨g_X, 1, none⟩ = some (.bool x.op) := fun q => later_cell (K_X.out.cell 1 rfl) (HQ.out _ q.h)
                  have m_X_2 : ∀ q : Kin C, q.x.cell? ⟨g_X, 2, none⟩ = some (.int .i64 x.di) := fun q => later_cell (K_X.out.cell 2 rfl) (HQ.out _ q.h)
                  have m_X_3 : ∀ q : Kin C, q.x.cell? ⟨g_X, 3, none⟩ = some (.int .i64 x.wa) := fun q => later_cell (K_X.out.cell 3 rfl) (HQ.out _ q.h)
                  have m_X_4 : ∀ q : Kin C, q.x.cell? ⟨g_X, 4, none⟩ = some (.slice (some ⟨bx, ox, none⟩) x.ts.length Xc) := fun q => later_cell (K_X.out.cell 4 rfl) (HQ.out _ q.h)
                  have m_C_0 : ∀ q : Kin C, q.x.cell? ⟨g_C, 0, none⟩ = some (.int .i64 c.tr) := fun q => later_cell (K_C.out.cell 0 rfl) (HQ.out _ q.h)
                  have m_C_1 : ∀ q : Kin C, q.x.cell? ⟨g_C, 1, none⟩ = some (.bool c.op) := fun q => later_cell (K_C.out.cell 1 rfl) (HQ.out _ q.h)
                  have m_C_2 : ∀ q : Kin C, q.x.cell? ⟨g_C, 2, none⟩ = some (.int .i64 c.di) := fun q => later_cell (K_C.out.cell 2 rfl) (HQ.out _ q.h)
                  have m_C_3 : ∀ q : Kin C, q.x.cell? ⟨g_C, 3, none⟩ = some (.int .i64 c.wa) := fun q => later_cell (K_C.out.cell 3 rfl) (HQ.out _ q.h)
                  have m_C_4 : ∀ q : Kin C, q.x.cell? ⟨g_C, 4, none⟩ = some (.slice (some ⟨bc, oc, none⟩) c.ts.length Cc) := fun q => later_cell (K_C.out.cell 4 rfl) (HQ.out _ q.h)
                  have m_kx : ∀ q : Kin C, q.x.cell? ⟨bx, ox + j, none⟩ = some (.int .i64 (yv + 1)) := fun q => later_cell kx (HQ.out _ q.h)
                  have m_kc : ∀ q : Kin C, q.x.cell? ⟨bc, oc + j, none⟩ = some (.int .i64 yv) := fun q => later_cell kc (HQ.out _ q.h)
                  clear hCd
                  refine wp_region_gs (C := C) (E := byDst fun d => if d = 153 then some (truth true) else if d = 162 then some (numG (j : Int)) else if d = 185 then some (numG d1) else if d = 194 then some (numG w1) else if d = 199 then some (truth false) else none) (R := Later) HN.out (byDst_later (by intro d s hs u x y hx hl; split at hs; (cases hs; exact truthC_later hx hl); split at hs; (cases hs; exact numG_later hx hl); split at hs; (cases hs; exact numG_later hx hl); split at hs; (cases hs; exact numG_later hx hl); split at hs; (cases hs; exact truthC_later hx hl); cases hs)) (byDst_looks _ _) (by kernel_rfl) (by kernel_rfl) H0.out ?_
                  repeat (refine gs_plain rfl (fun K hK => ?_); go_simp; refine hK _ ?_; clear hK K)
                  refine gs_call (truth true) rfl (by first | rfl | kernel_rfl) (fun wq hB => ?_) (fun uq hu => ?_)
                  · go_simp
                    refine ⟨rfl, ?_⟩
                    exact truth_of (fun _ h => h) (JOk.out _ wq (K_X.out.below (HQ.out _ hB.1)).reads)
                  obtain rfl : uq = .bool true := hu
                  repeat (refine gs_plain rfl (fun K hK => ?_); go_simp; refine hK _ ?_; clear hK K)
                  refine gs_call (numG (j : Int)) rfl (by first | rfl | kernel_rfl) (fun wq hB => ?_) (fun uq hu => ?_)
                  · go_simp
                    refine ⟨rfl, ?_⟩
                    exact num_of (SF.out wq)
                  obtain rfl : uq = .int .i64 (j : Int) := hu
                  repeat (refine gs_plain rfl (fun K hK => ?_); go_simp; refine hK _ ?_; clear hK K)
                  refine gs_call (numG d1) rfl (by first | rfl | kernel_rfl) (fun wq hB => ?_) (fun uq hu => ?_)
                  · go_simp
                    refine ⟨rfl, ?_⟩
                    exact num_of (SD.out wq)
                  obtain rfl : uq = .int .i64 d1 := hu
                  repeat (refine gs_plain rfl (fun K hK => ?_); go_simp; refine hK _ ?_; clear hK K)
                  refine gs_call (numG w1) rfl (by first | rfl | kernel_rfl) (fun wq hB => ?_) (fun uq hu => ?_)
                  · go_simp
                    refine ⟨rfl, ?_⟩
                    exact num_of (SW.out wq)
                  obtain rfl : uq = .int .i64 w1 := hu
                  repeat (refine gs_plain rfl (fun K hK => ?_); go_simp; refine hK _ ?_; clear hK K)
                  refine gs_call (truth false) rfl (by first | rfl | kernel_rfl) (fun wq hB => ?_) (fun uq hu => ?_)
                  · go_simp
                    refine ⟨rfl, ?_⟩
                    exact truth_of (fun _ h => h) (IC.out _ wq (K_X.out.below (HQ.out _ hB.1)).reads)
                  obtain rfl : uq = .bool false := hu
                  repeat (refine gs_plain rfl (fun K hK => ?_); go_simp; refine hK _ ?_; clear hK K)
                  refine gs_end (fun y34 hz => ?_)
                  have bz := HQ.out _ hz.1
                  clear hz m_X_0 m_X_1 m_X_2 m_X_3 m_X_4 m_C_0 m_C_1 m_C_2 m_C_3 m_C_4 m_kx m_kc kx kc HQ HN H0 hne
                  replace K_C : Hid (CpI y34 g_C (.slice (some ⟨bc, oc, none⟩) c.ts.length Cc) c) := K_C.out.below bz
                  replace K_X : Hid (CpI y34 g_X (.slice (some ⟨bx, ox, none⟩) x.ts.length Xc) x) := K_X.out.below bz
                  replace K_A : Hid (CpI y34 g_A (.slice Ao a.ts.length Ac) a) := K_A.out.below bz
                  replace K_Y : Hid (CpI y34 g_Y (.slice Yo y.ts.length Yc) y) := K_Y.out.below bz
                  replace K_Z : Hid (CpI y34 g_Z (.slice Zo z.ts.length Zc) z) := K_Z.out.below bz
                  replace K_U : Hid (CpI y34 g_U (.slice Uo x.ts.length Uc) x) := K_U.out.below bz
                  replace K_V : Hid (CpI y34 g_V (.slice Vo z.ts.length Vc) z) := K_V.out.below bz
                  replace HB : Hid (Below w.heap.size w y34) := HB.out.trans (bz.mono HB.out.size)
                  clear bz
                  clear K_C K_X K_A K_Y K_Z K_U K_V
                  go_wp2
                  go_ret
                  exact ⟨rfl, HB.out⟩

set_option maxRecDepth 100000 in
theorem lifted (os : Os) (started : os.Started) (H : Type) (enc : TypeId × Value → H) :
    ReturnsInHanded {} Try.checked os 3 .any (Rows.fnCopierSpec.pre6 enc Try.prog Try.f3 Rows.fnCopierRow.domain false) (Rows.fnCopierSpec.post enc Try.prog Try.f3 false true false false) := by
  refine returnsInHanded_of_change (C := Try.checked) own started (by kernel_rfl) Try.func3
    (ChangeSpec.witness6 (enc := enc) (C := Try.checked) false ⟨#[], #[.slice none 0 0], []⟩ 8 (by kernel_rfl) (by kernel_rfl) (by kernel_rfl) (by kernel_rfl)) ?_
  intro W base args ds gs before hval0 hW hcnd _
  have hval : ∀ (j : Nat) t v, Try.f3.params[j]? = some t → args[j]? = some v → Value.okWide Try.prog W .any base t v := hval0
  have hW' := hW
  obtain ⟨p, q, hA0, hV, rfl, hfz, hnd⟩ := hW
  have hA : DataW.TrodAll enc Try.prog W 0 (fun _ => true) true Try.f3.params.toList args.toList ds p := hA0
  rw [Try.params3] at hA hval
  obtain ⟨v0, vs0, d0, ds0, p0, q0, hargs, rfl, rfl, h0, r0⟩ := trodAll_cons hA
  obtain ⟨rfl, rfl, rfl⟩ := trodAll_nil r0
  obtain rfl : args = #[v0] := by cases args; simp_all
  obtain ⟨rfl, rfl⟩ := trodVars_none hV
  obtain ⟨a0, len0, cap0, rfl⟩ := okWide_slice Try.underlying22 (hval 0 22 v0 rfl rfl)
  have k0 := h0
  have lt0 : ∀ x ∈ p0, x.block < W.heap.size := by obtain ⟨m, hm⟩ := k0; exact DataW.trod_lt m _ _ _ hm
  obtain ⟨z0, w0⟩ : ∃ zs, IsRow .u8 W a0 len0 cap0 zs := by
    obtain ⟨fuel, hf⟩ := h0
    rcases open_ints Try.underlying22 Try.underlying5 (by kernel_rfl) hf with ⟨hcs, _⟩ | ⟨x, l, c, zs, hcs, _, hl, hm, hz, _, hcell, hwz⟩
    · simp [Value.cells] at hcs
      obtain ⟨rfl, rfl, rfl⟩ := hcs
      exact ⟨[], .inl ⟨rfl, rfl, rfl, rfl⟩⟩
    · simp [Value.cells] at hcs
      obtain ⟨rfl, rfl, rfl⟩ := hcs
      exact ⟨zs, .inr ⟨_, rfl, hl, hm, by simpa using hz, hcell, hwz⟩⟩
  clear hA0 hval0
  refine (walk a0 len0 cap0 z0 W w0).mono fun e W' ⟨he, bel⟩ => ?_
  subst he
  exact ⟨_, rfl, _, _, _, [], _, [], hW', trodAll_mk1 (shut_bool Try.underlying4 _), (trodAll_cons_mk (Below.trod laidOut (by kernel_rfl) (of_decide_eq_true (by kernel_rfl)) k0 bel lt0) trodAll_mk0), rfl, bel.frame _, fun h => by cases h⟩

theorem over : Rows.fnCopierRow.holds Try.pinned (OpenSpec.ofChange Rows.fnCopierSpec) :=
  OpenClaim.holds_of_wide 3 Try.f3 rfl rfl rfl rfl rfl rfl rfl ⟨rfl, rfl, rfl, rfl, rfl⟩ rfl rfl rfl rfl rfl (by kernel_rfl) Try.func3 (by kernel_rfl)
    (of_decide_eq_true (by kernel_rfl)) (by unfold Func.isWrapper; first | (rw [if_pos (by decide +kernel)]; kernel_rfl) | (rw [if_neg (by decide +kernel)]; exact ⟨rfl, rfl⟩))
    (fun os started H enc _ => lifted os started H enc)

theorem proved : Rows.FnCopierSaid := over
end Go.Proofs.Ytelfpdjidppblaa.fnCopier
namespace Go.Proofs.Ytelfpdjidppblaa
theorem fnCopier_holds : Rows.FnCopierSaid := fnCopier.proved
end Go.Proofs.Ytelfpdjidppblaa
