/- At every list of bytes the law FnClean returns true: what is marked is not clean till it went and was acknowledged, and what waits may go once more; and the program answers as the model. -/
import Derived.Test.YtelfpdjidppblaaRows
import Derived.WalkKit
import Derived.ProofKit
import Derived.OpenShut
import Derived.ShutString
import Derived.ChangeOld
import Derived.Below
import Derived.Test.YtelfpdjidppblaaM1
import Derived.Test.YtelfpdjidppblaaDrawCop2
import Derived.Test.YtelfpdjidppblaaCpLaws
import Derived.Test.YtelfpdjidppblaaM3
import Derived.Test.YtelfpdjidppblaaLCop
import Derived.Test.YtelfpdjidppblaaM4
import Derived.Test.YtelfpdjidppblaaClPl
namespace Go.Proofs.Ytelfpdjidppblaa.fnClean
open Go.ChangeShapes Go.WideShapes Go.ChangeAt Go.RowKit
open Go.ChangeMaps (open_string shut_string)
set_option linter.unusedVariables false

theorem own : ownKnob Try.prog.godebug = none := by kernel_rfl
theorem laidOut : laidOutB Try.prog = true := by kernel_rfl

def IsRow (k : IntKind) (w : World) (a : Option Addr) (len cap : Nat) (zs : List Int) : Prop :=
  (a = none ∧ len = 0 ∧ cap = 0 ∧ zs = []) ∨
  ∃ x, a = some x ∧ len ≤ cap ∧ cap ≤ maxLen ∧ zs.length = cap ∧ (∀ i, i < zs.length → w.cell? (x.add i) = some (.int k (zs.getD i 0))) ∧ ∀ n ∈ zs, (Lit.int k n).wf = true

set_option maxRecDepth 20000 in
set_option maxHeartbeats 20000000 in
theorem walk (a0 : Option Addr) (len0 cap0 : Nat) (z0 : List Int) (w : World) (w0 : IsRow .u8 w a0 len0 cap0 z0) :
    Calls Try.prog 4 #[.slice a0 len0 cap0] w fun e w' => e = .returned (.bool true) ∧ Below w.heap.size w w' := by
  by_cases hbig : (4096 : Int) < (len0 : Int)
  · go_enter Try.func4, Try.ntmps4
    go_wp2_with (go_at_call 12; refine (big_any _ _ _ _).mono ?_; rintro e w' ⟨rfl, hw'⟩; subst w')
    go_ret
    exact ⟨rfl, Below.refl _ _⟩
  · have HC : Hid (CodeOk w w.heap.size (.slice a0 len0 cap0)) := codeOk_row w0 (by omega)
    have HB : Hid (Below w.heap.size w w) := Below.refl _ _
    clear w0
    go_enter Try.func4, Try.ntmps4
    go_wp2_with fail
    refine (big_any _ _ _ _).mono ?_
    rintro e w' ⟨rfl, hw'⟩; subst w'
    go_wp2_with fail
    refine (drawMarked_any w.heap.size _ _ (HC.out.below HB.out) HB.out.size).mono ?_
    rintro e y1 ⟨_, c, i, rfl, oq, hlc, bq⟩
    replace HB : Hid (Below w.heap.size w y1) := HB.out.trans (bq.mono HB.out.size)
    obtain ⟨Co, Cc, rfl⟩ := reads_form oq.reads
    obtain ⟨y2, hy2⟩ : ∃ y2, y2 = y1.alloc (.cells (cpA (.slice Co c.ts.length Cc) c) 26) := ⟨_, rfl⟩
    have by2 : Below y1.heap.size y1 y2 := by rw [hy2]; exact (Below.refl _ _).alloc (Nat.le_refl _) _
    have K_C : Hid (CpI y2 y1.heap.size (.slice Co c.ts.length Cc) c) := by rw [hy2]; first | exact CpI.new oq | exact CpI.new oq.mine
    clear oq bq
    replace HB : Hid (Below w.heap.size w y2) := HB.out.trans (by2.mono HB.out.size)
    clear by2
    unfold cpA at hy2
    try unfold CpV cpA
    go_upto_region 4 with fail
    rw [← hy2]
    clear hy2
    obtain ⟨g_C, hg_C⟩ : ∃ g_C, g_C = y1.heap.size := ⟨_, rfl⟩
    rw [← hg_C] at K_C ⊢
    clear hg_C
    have gc : c.ts.length ≤ 1099511627776 := by omega
    obtain ⟨x, h_x⟩ : ∃ x, x = c.Mark i := ⟨_, rfl⟩
    obtain ⟨okc, h_okc⟩ : ∃ okc, okc = c.ok := ⟨_, rfl⟩
    have gx : x.ts.length ≤ 1099511627776 := by rw [h_x]; have := Cp.Mark_len c i; omega
    have IMk' := fun v wx h => imarked_any v c i wx h gc
    simp only [← h_x] at IMk'
    unfold CpV cpA at IMk'
    have IMk : Hid _ := IMk'
    clear IMk'
    have SMk' := fun v wx h => smarked_any v c i wx h gc
    simp only [← h_x] at SMk'
    unfold CpV cpA at SMk'
    have SMk : Hid _ := SMk'
    clear SMk'
    have SOc' := fun v wx h => scopok_any v c wx h gc
    simp only [← h_okc] at SOc'
    unfold CpV cpA at SOc'
    have SOc : Hid _ := SOc'
    clear SOc'
    have LX' := fun u v wx hu hv => likeC_any u v x wx hu hv gx
    unfold CpV cpA at LX'
    have LX : Hid _ := LX'
    clear LX'
    have ICx' := fun v wx h => iclean_any v x wx h gx
    unfold CpV cpA at ICx'
    have ICx : Hid _ := ICx'
    clear ICx'
    have ICc' := fun v wx h => iclean_any v c wx h gc
    unfold CpV cpA at ICc'
    have ICc : Hid _ := ICc'
    clear ICc'
    have H_x : Hid (x = c.Mark i) := h_x
    clear h_x
    have H_okc : Hid (okc = c.ok) := h_okc
    clear h_okc
    have p_C_0 : y2.cell? ⟨g_C, 0, none⟩ = some (.int .i64 c.tr) := K_C.out.cell 0 rfl
    have p_C_1 : y2.cell? ⟨g_C, 1, none⟩ = some (.bool c.op) := K_C.out.cell 1 rfl
    have p_C_2 : y2.cell? ⟨g_C, 2, none⟩ = some (.int .i64 c.di) := K_C.out.cell 2 rfl
    have p_C_3 : y2.cell? ⟨g_C, 3, none⟩ = some (.int .i64 c.wa) := K_C.out.cell 3 rfl
    have p_C_4 : y2.cell? ⟨g_C, 4, none⟩ = some (.slice Co c.ts.length Cc) := K_C.out.cell 4 rfl
    go_wp2_with fail
    clear p_C_0 p_C_1 p_C_2 p_C_3 p_C_4
    refine (IMk.out _ _ K_C.out.reads).mono ?_
    rintro e y4 ⟨_, rfl, oq, bq⟩
    replace K_C : Hid (CpI y4 g_C (.slice Co c.ts.length Cc) c) := K_C.out.below bq
    replace HB : Hid (Below w.heap.size w y4) := HB.out.trans (bq.mono HB.out.size)
    obtain ⟨Xo, Xc, rfl⟩ := reads_form oq.reads
    obtain ⟨y5, hy5⟩ : ∃ y5, y5 = y4.alloc (.cells (cpA (.slice Xo x.ts.length Xc) x) 26) := ⟨_, rfl⟩
    have by5 : Below y4.heap.size y4 y5 := by rw [hy5]; exact (Below.refl _ _).alloc (Nat.le_refl _) _
    have K_X : Hid (CpI y5 y4.heap.size (.slice Xo x.ts.length Xc) x) := by rw [hy5]; first | exact CpI.new oq | exact CpI.new oq.mine
    clear oq bq
    replace K_C : Hid (CpI y5 g_C (.slice Co c.ts.length Cc) c) := K_C.out.below by5
    replace HB : Hid (Below w.heap.size w y5) := HB.out.trans (by5.mono HB.out.size)
    clear by5
    unfold cpA at hy5
    try unfold CpV cpA
    go_upto_region 5 with fail
    rw [← hy5]
    clear hy5
    obtain ⟨g_X, hg_X⟩ : ∃ g_X, g_X = y4.heap.size := ⟨_, rfl⟩
    rw [← hg_X] at K_X ⊢
    clear hg_X
    go_wp2_with fail
    refine (drawAgain_any w.heap.size _ _ (HC.out.below HB.out) HB.out.size).mono ?_
    rintro e y7 ⟨_, a, rfl, oq, hla, bq⟩
    replace K_C : Hid (CpI y7 g_C (.slice Co c.ts.length Cc) c) := K_C.out.below bq
    replace K_X : Hid (CpI y7 g_X (.slice Xo x.ts.length Xc) x) := K_X.out.below bq
    replace HB : Hid (Below w.heap.size w y7) := HB.out.trans (bq.mono HB.out.size)
    obtain ⟨Ao, Ac, rfl⟩ := reads_form oq.reads
    obtain ⟨y8, hy8⟩ : ∃ y8, y8 = y7.alloc (.cells (cpA (.slice Ao a.ts.length Ac) a) 26) := ⟨_, rfl⟩
    have by8 : Below y7.heap.size y7 y8 := by rw [hy8]; exact (Below.refl _ _).alloc (Nat.le_refl _) _
    have K_A : Hid (CpI y8 y7.heap.size (.slice Ao a.ts.length Ac) a) := by rw [hy8]; first | exact CpI.new oq | exact CpI.new oq.mine
    clear oq bq
    replace K_C : Hid (CpI y8 g_C (.slice Co c.ts.length Cc) c) := K_C.out.below by8
    replace K_X : Hid (CpI y8 g_X (.slice Xo x.ts.length Xc) x) := K_X.out.below by8
    replace HB : Hid (Below w.heap.size w y8) := HB.out.trans (by8.mono HB.out.size)
    clear by8
    unfold cpA at hy8
    try unfold CpV cpA
    go_upto_region 6 with fail
    rw [← hy8]
    clear hy8
    obtain ⟨g_A, hg_A⟩ : ∃ g_A, g_A = y7.heap.size := ⟨_, rfl⟩
    rw [← hg_A] at K_A ⊢
    clear hg_A
    have ga : a.ts.length ≤ 1099511627776 := by omega
    obtain ⟨y, h_y⟩ : ∃ y, y = a.Again := ⟨_, rfl⟩
    obtain ⟨oka, h_oka⟩ : ∃ oka, oka = a.ok := ⟨_, rfl⟩
    have gy : y.ts.length ≤ 1099511627776 := by rw [h_y]; have := Cp.Again_len a; omega
    have IAy' := fun v wx h => iagained_any v a wx h ga
    simp only [← h_y] at IAy'
    unfold CpV cpA at IAy'
    have IAy : Hid _ := IAy'
    clear IAy'
    have SAy' := fun v wx h => sagained_any v a wx h ga
    simp only [← h_y] at SAy'
    unfold CpV cpA at SAy'
    have SAy : Hid _ := SAy'
    clear SAy'
    have SOa' := fun v wx h => scopok_any v a wx h ga
    simp only [← h_oka] at SOa'
    unfold CpV cpA at SOa'
    have SOa : Hid _ := SOa'
    clear SOa'
    have LY' := fun u v wx hu hv => likeC_any u v y wx hu hv gy
    unfold CpV cpA at LY'
    have LY : Hid _ := LY'
    clear LY'
    have IOy' := fun v wx h => icopok_any v y wx h gy
    unfold CpV cpA at IOy'
    have IOy : Hid _ := IOy'
    clear IOy'
    have ICy' := fun v wx h => iclean_any v y wx h gy
    unfold CpV cpA at ICy'
    have ICy : Hid _ := ICy'
    clear ICy'
    have ICa' := fun v wx h => iclean_any v a wx h ga
    unfold CpV cpA at ICa'
    have ICa : Hid _ := ICa'
    clear ICa'
    have H_y : Hid (y = a.Again) := h_y
    clear h_y
    have H_oka : Hid (oka = a.ok) := h_oka
    clear h_oka
    have p_A_0 : y8.cell? ⟨g_A, 0, none⟩ = some (.int .i64 a.tr) := K_A.out.cell 0 rfl
    have p_A_1 : y8.cell? ⟨g_A, 1, none⟩ = some (.bool a.op) := K_A.out.cell 1 rfl
    have p_A_2 : y8.cell? ⟨g_A, 2, none⟩ = some (.int .i64 a.di) := K_A.out.cell 2 rfl
    have p_A_3 : y8.cell? ⟨g_A, 3, none⟩ = some (.int .i64 a.wa) := K_A.out.cell 3 rfl
    have p_A_4 : y8.cell? ⟨g_A, 4, none⟩ = some (.slice Ao a.ts.length Ac) := K_A.out.cell 4 rfl
    go_wp2_with fail
    clear p_A_0 p_A_1 p_A_2 p_A_3 p_A_4
    refine (IAy.out _ _ K_A.out.reads).mono ?_
    rintro e y10 ⟨_, rfl, oq, bq⟩
    replace K_C : Hid (CpI y10 g_C (.slice Co c.ts.length Cc) c) := K_C.out.below bq
    replace K_X : Hid (CpI y10 g_X (.slice Xo x.ts.length Xc) x) := K_X.out.below bq
    replace K_A : Hid (CpI y10 g_A (.slice Ao a.ts.length Ac) a) := K_A.out.below bq
    replace HB : Hid (Below w.heap.size w y10) := HB.out.trans (bq.mono HB.out.size)
    obtain ⟨Yo, Yc, rfl⟩ := reads_form oq.reads
    obtain ⟨y11, hy11⟩ : ∃ y11, y11 = y10.alloc (.cells (cpA (.slice Yo y.ts.length Yc) y) 26) := ⟨_, rfl⟩
    have by11 : Below y10.heap.size y10 y11 := by rw [hy11]; exact (Below.refl _ _).alloc (Nat.le_refl _) _
    have K_Y : Hid (CpI y11 y10.heap.size (.slice Yo y.ts.length Yc) y) := by rw [hy11]; first | exact CpI.new oq | exact CpI.new oq.mine
    clear oq bq
    replace K_C : Hid (CpI y11 g_C (.slice Co c.ts.length Cc) c) := K_C.out.below by11
    replace K_X : Hid (CpI y11 g_X (.slice Xo x.ts.length Xc) x) := K_X.out.below by11
    replace K_A : Hid (CpI y11 g_A (.slice Ao a.ts.length Ac) a) := K_A.out.below by11
    replace HB : Hid (Below w.heap.size w y11) := HB.out.trans (by11.mono HB.out.size)
    clear by11
    unfold cpA at hy11
    try unfold CpV cpA
    go_upto_region 7 with fail
    rw [← hy11]
    clear hy11
    obtain ⟨g_Y, hg_Y⟩ : ∃ g_Y, g_Y = y10.heap.size := ⟨_, rfl⟩
    rw [← hg_Y] at K_Y ⊢
    clear hg_Y
    go_wp2_with fail
    refine (drawClean_any w.heap.size _ _ (HC.out.below HB.out) HB.out.size).mono ?_
    rintro e y13 ⟨_, k, rfl, oq, hlk, bq⟩
    replace K_C : Hid (CpI y13 g_C (.slice Co c.ts.length Cc) c) := K_C.out.below bq
    replace K_X : Hid (CpI y13 g_X (.slice Xo x.ts.length Xc) x) := K_X.out.below bq
    replace K_A : Hid (CpI y13 g_A (.slice Ao a.ts.length Ac) a) := K_A.out.below bq
    replace K_Y : Hid (CpI y13 g_Y (.slice Yo y.ts.length Yc) y) := K_Y.out.below bq
    replace HB : Hid (Below w.heap.size w y13) := HB.out.trans (bq.mono HB.out.size)
    obtain ⟨Ko, Kc, rfl⟩ := reads_form oq.reads
    obtain ⟨y14, hy14⟩ : ∃ y14, y14 = y13.alloc (.cells (cpA (.slice Ko k.ts.length Kc) k) 26) := ⟨_, rfl⟩
    have by14 : Below y13.heap.size y13 y14 := by rw [hy14]; exact (Below.refl _ _).alloc (Nat.le_refl _) _
    have K_K : Hid (CpI y14 y13.heap.size (.slice Ko k.ts.length Kc) k) := by rw [hy14]; first | exact CpI.new oq | exact CpI.new oq.mine
    clear oq bq
    replace K_C : Hid (CpI y14 g_C (.slice Co c.ts.length Cc) c) := K_C.out.below by14
    replace K_X : Hid (CpI y14 g_X (.slice Xo x.ts.length Xc) x) := K_X.out.below by14
    replace K_A : Hid (CpI y14 g_A (.slice Ao a.ts.length Ac) a) := K_A.out.below by14
    replace K_Y : Hid (CpI y14 g_Y (.slice Yo y.ts.length Yc) y) := K_Y.out.below by14
    replace HB : Hid (Below w.heap.size w y14) := HB.out.trans (by14.mono HB.out.size)
    clear by14
    unfold cpA at hy14
    try unfold CpV cpA
    go_upto_region 8 with fail
    rw [← hy14]
    clear hy14
    obtain ⟨g_K, hg_K⟩ : ∃ g_K, g_K = y13.heap.size := ⟨_, rfl⟩
    rw [← hg_K] at K_K ⊢
    clear hg_K
    have gk : k.ts.length ≤ 1099511627776 := by omega
    obtain ⟨bk, h_bk⟩ : ∃ bk, bk = k.clean := ⟨_, rfl⟩
    have IKc' := fun v wx h => iclean_any v k wx h gk
    simp only [← h_bk] at IKc'
    unfold CpV cpA at IKc'
    have IKc : Hid _ := IKc'
    clear IKc'
    have SKc' := fun v wx h => sclean_any v k wx h gk
    simp only [← h_bk] at SKc'
    unfold CpV cpA at SKc'
    have SKc : Hid _ := SKc'
    clear SKc'
    have hkk : (bk != bk) = false := by simp
    clear h_bk
    go_cut [49] (fun t wx => t = .bool false ∧ Hid (CpI wx g_C (.slice Co c.ts.length Cc) c ∧ CpI wx g_X (.slice Xo x.ts.length Xc) x ∧ CpI wx g_A (.slice Ao a.ts.length Ac) a ∧ CpI wx g_Y (.slice Yo y.ts.length Yc) y ∧ CpI wx g_K (.slice Ko k.ts.length Kc) k ∧ Below w.heap.size w wx))
    case first =>
      as_aux_lemma =>
        obtain ⟨C, hCd⟩ : ∃ C, C = fun x => Below y14.heap.size y14 x := ⟨_, rfl⟩
        have HQ : Hid (∀ x, C x → Below y14.heap.size y14 x) := by rw [hCd]; exact fun _ h => h
        have HN : Hid (∀ x y, C x → Later x y → C y) := by rw [hCd]; exact fun _ _ h b => h.trans (b.mono h.size)
        have H0 : Hid (C y14.drew) := by rw [hCd]; exact (Below.refl _ _).drew
        have hne : Nonempty (Kin C) := ⟨⟨_, H0.out⟩⟩
        have m_X_0 : ∀ q : Kin C, q.x.cell? ⟨g_X, 0, none⟩ = some (.int .i64 x.tr) := fun q => later_cell (K_X.out.cell 0 rfl) (HQ.out _ q.h)
        have m_X_1 : ∀ q : Kin C, q.x.cell? ⟨g_X, 1, none⟩ = some (.bool x.op) := fun q => later_cell (K_X.out.cell 1 rfl) (HQ.out _ q.h)
        have m_X_2 : ∀ q : Kin C, q.x.cell? ⟨g_X, 2, none⟩ = some (.int .i64 x.di) := fun q => later_cell (K_X.out.cell 2 rfl) (HQ.out _ q.h)
        have m_X_3 : ∀ q : Kin C, q.x.cell? ⟨g_X, 3, none⟩ = some (.int .i64 x.wa) := fun q => later_cell (K_X.out.cell 3 rfl) (HQ.out _ q.h)
        have m_X_4 : ∀ q : Kin C, q.x.cell? ⟨g_X, 4, none⟩ = some (.slice Xo x.ts.length Xc) := fun q => later_cell (K_X.out.cell 4 rfl) (HQ.out _ q.h)
        have m_C_0 : ∀ q : Kin C, q.x.cell? ⟨g_C, 0, none⟩ = some (.int .i64 c.tr) := fun q => later_cell (K_C.out.cell 0 rfl) (HQ.out _ q.h)
        have m_C_1 : ∀ q : Kin C, q.x.cell? ⟨g_C, 1, none⟩ = some (.bool c.op) := fun q => later_cell (K_C.out.cell 1 rfl) (HQ.out _ q.h)
        have m_C_2 : ∀ q : Kin C, q.x.cell? ⟨g_C, 2, none⟩ = some (.int .i64 c.di) := fun q => later_cell (K_C.out.cell 2 rfl) (HQ.out _ q.h)
        have m_C_3 : ∀ q : Kin C, q.x.cell? ⟨g_C, 3, none⟩ = some (.int .i64 c.wa) := fun q => later_cell (K_C.out.cell 3 rfl) (HQ.out _ q.h)
        have m_C_4 : ∀ q : Kin C, q.x.cell? ⟨g_C, 4, none⟩ = some (.slice Co c.ts.length Cc) := fun q => later_cell (K_C.out.cell 4 rfl) (HQ.out _ q.h)
        have m_Y_0 : ∀ q : Kin C, q.x.cell? ⟨g_Y, 0, none⟩ = some (.int .i64 y.tr) := fun q => later_cell (K_Y.out.cell 0 rfl) (HQ.out _ q.h)
        have m_Y_1 : ∀ q : Kin C, q.x.cell? ⟨g_Y, 1, none⟩ = some (.bool y.op) := fun q => later_cell (K_Y.out.cell 1 rfl) (HQ.out _ q.h)
        have m_Y_2 : ∀ q : Kin C, q.x.cell? ⟨g_Y, 2, none⟩ = some (.int .i64 y.di) := fun q => later_cell (K_Y.out.cell 2 rfl) (HQ.out _ q.h)
        have m_Y_3 : ∀ q : Kin C, q.x.cell? ⟨g_Y, 3, none⟩ = some (.int .i64 y.wa) := fun q => later_cell (K_Y.out.cell 3 rfl) (HQ.out _ q.h)
        have m_Y_4 : ∀ q : Kin C, q.x.cell? ⟨g_Y, 4, none⟩ = some (.slice Yo y.ts.length Yc) := fun q => later_cell (K_Y.out.cell 4 rfl) (HQ.out _ q.h)
        have m_A_0 : ∀ q : Kin C, q.x.cell? ⟨g_A, 0, none⟩ = some (.int .i64 a.tr) := fun q => later_cell (K_A.out.cell 0 rfl) (HQ.out _ q.h)
        have m_A_1 : ∀ q : Kin C, q.x.cell? ⟨g_A, 1, none⟩ = some (.bool a.op) := fun q => later_cell (K_A.out.cell 1 rfl) (HQ.out _ q.h)
        have m_A_2 : ∀ q : Kin C, q.x.cell? ⟨g_A, 2, none⟩ = some (.int .i64 a.di) := fun q => later_cell (K_A.out.cell 2 rfl) (HQ.out _ q.h)
        have m_A_3 : ∀ q : Kin C, q.x.cell? ⟨g_A, 3, none⟩ = some (.int .i64 a.wa) := fun q => later_cell (K_A.out.cell 3 rfl) (HQ.out _ q.h)
        have m_A_4 : ∀ q : Kin C, q.x.cell? ⟨g_A, 4, none⟩ = some (.slice Ao a.ts.length Ac) := fun q => later_cell (K_A.out.cell 4 rfl) (HQ.out _ q.h)
        have m_K_0 : ∀ q : Kin C, q.x.cell? ⟨g_K, 0, none⟩ = some (.int .i64 k.tr) := fun q => later_cell (K_K.out.cell 0 rfl) (HQ.out _ q.h)
        have m_K_1 : ∀ q : Kin C, q.x.cell? ⟨g_K, 1, none⟩ = some (.bool k.op) := fun q => later_cell (K_K.out.cell 1 rfl) (HQ.out _ q.h)
        have m_K_2 : ∀ q : Kin C, q.x.cell? ⟨g_K, 2, none⟩ = some (.int .i64 k.di) := fun q => later_cell (K_K.out.cell 2 rfl) (HQ.out _ q.h)
        have m_K_3 : ∀ q : Kin C, q.x.cell? ⟨g_K, 3, none⟩ = some (.int .i64 k.wa) := fun q => later_cell (K_K.out.cell 3 rfl) (HQ.out _ q.h)
        have m_K_4 : ∀ q : Kin C, q.x.cell? ⟨g_K, 4, none⟩ = some (.slice Ko k.ts.length Kc) := fun q => later_cell (K_K.out.cell 4 rfl) (HQ.out _ q.h)
        clear hCd
        refine wp_region_gs (C := C) (E := byDst fun d => if d = 33 then some (cpG x) else if d = 34 then some (truth true) else if d = 39 then some (cpG y) else if d = 40 then some (truth true) else if d = 45 then some (truth bk) else if d = 47 then some (truth bk) else none) (R := Later) HN.out (byDst_later (by intro d s hs u x y hx hl; split at hs; (cases hs; exact cpG_later hx hl); split at hs; (cases hs; exact truthC_later hx hl); split at hs; (cases hs; exact cpG_later hx hl); split at hs; (cases hs; exact truthC_later hx hl); split at hs; (cases hs; exact truthC_later hx hl); split at hs; (cases hs; exact truthC_later hx hl); cases hs)) (byDst_looks _ _) (by kernel_rfl) (by kernel_rfl) H0.out ?_
        repeat (refine gs_plain rfl (fun K hK => ?_); go_simp; refine hK _ ?_; clear hK K)
        refine gs_call (cpG x) rfl (by first | rfl | kernel_rfl) (fun wq hB => ?_) (fun uq hu => ?_)
        · go_simp
          refine ⟨rfl, ?_⟩
          exact cpG_of (SMk.out _ wq (K_C.out.below (HQ.out _ hB.1)).reads)
        obtain ⟨ro, rc, rfl⟩ := hu
        repeat (refine gs_plain rfl (fun K hK => ?_); go_simp; refine hK _ ?_; clear hK K)
        refine gs_call (truth true) rfl (by first | rfl | kernel_rfl) (fun wq hB => ?_) (fun uq hu => ?_)
        · go_simp
          refine ⟨rfl, ?_⟩
          exact (by have r := hB.at0 rfl _ _ _ _ _ rfl; exact truth_of (fun _ h => h) (LX.out _ _ wq (K_X.out.below (HQ.out _ hB.1)).reads r.reads))
        obtain rfl : uq = .bool true := hu
        repeat (refine gs_plain rfl (fun K hK => ?_); go_simp; refine hK _ ?_; clear hK K)
        refine gs_call (cpG y) rfl (by first | rfl | kernel_rfl) (fun wq hB => ?_) (fun uq hu => ?_)
        · go_simp
          refine ⟨rfl, ?_⟩
          exact cpG_of (SAy.out _ wq (K_A.out.below (HQ.out _ hB.1)).reads)
        obtain ⟨tto, ttc, rfl⟩ := hu
        repeat (refine gs_plain rfl (fun K hK => ?_); go_simp; refine hK _ ?_; clear hK K)
        refine gs_call (truth true) rfl (by first | rfl | kernel_rfl) (fun wq hB => ?_) (fun uq hu => ?_)
        · go_simp
          refine ⟨rfl, ?_⟩
          exact (by have r := hB.at0 rfl _ _ _ _ _ rfl; exact truth_of (fun _ h => h) (LY.out _ _ wq (K_Y.out.below (HQ.out _ hB.1)).reads r.reads))
        obtain rfl : uq = .bool true := hu
        repeat (refine gs_plain rfl (fun K hK => ?_); go_simp; refine hK _ ?_; clear hK K)
        refine gs_call (truth bk) rfl (by first | rfl | kernel_rfl) (fun wq hB => ?_) (fun uq hu => ?_)
        · go_simp
          refine ⟨rfl, ?_⟩
          exact truth_of (fun _ h => h) (IKc.out _ wq (K_K.out.below (HQ.out _ hB.1)).reads)
        obtain rfl : uq = .bool bk := hu
        repeat (refine gs_plain rfl (fun K hK => ?_); go_simp; refine hK _ ?_; clear hK K)
        refine gs_call (truth bk) rfl (by first | rfl | kernel_rfl) (fun wq hB => ?_) (fun uq hu => ?_)
        · go_simp
          refine ⟨rfl, ?_⟩
          exact truth_of (fun _ h => h) (SKc.out _ wq (K_K.out.below (HQ.out _ hB.1)).reads)
        obtain rfl : uq = .bool bk := hu
        repeat (refine gs_plain rfl (fun K hK => ?_); go_simp; refine hK _ ?_; clear hK K)
        refine gs_end (fun y16 hz => ?_)
        have bz := HQ.out _ hz.1
        clear hz m_X_0 m_X_1 m_X_2 m_X_3 m_X_4 m_C_0 m_C_1 m_C_2 m_C_3 m_C_4 m_Y_0 m_Y_1 m_Y_2 m_Y_3 m_Y_4 m_A_0 m_A_1 m_A_2 m_A_3 m_A_4 m_K_0 m_K_1 m_K_2 m_K_3 m_K_4 HQ HN H0 hne
        replace K_C : Hid (CpI y16 g_C (.slice Co c.ts.length Cc) c) := K_C.out.below bz
        replace K_X : Hid (CpI y16 g_X (.slice Xo x.ts.length Xc) x) := K_X.out.below bz
        replace K_A : Hid (CpI y16 g_A (.slice Ao a.ts.length Ac) a) := K_A.out.below bz
        replace K_Y : Hid (CpI y16 g_Y (.slice Yo y.ts.length Yc) y) := K_Y.out.below bz
        replace K_K : Hid (CpI y16 g_K (.slice Ko k.ts.length Kc) k) := K_K.out.below bz
        replace HB : Hid (Below w.heap.size w y16) := HB.out.trans (bz.mono HB.out.size)
        clear bz
        go_wp2_with fail
        go_meet
        exact ⟨rfl, K_C.out, K_X.out, K_A.out, K_Y.out, K_K.out, HB.out⟩
    case rest =>
      as_aux_lemma =>
        clear HB K_C K_X K_A K_Y K_K
        obtain ⟨rfl, HX⟩ := hcut
        obtain ⟨y17, hy17⟩ : ∃ y17, y17 = wc := ⟨_, rfl⟩
        rw [← hy17] at HX ⊢
        clear hy17
        have K_C : Hid (CpI y17 g_C (.slice Co c.ts.length Cc) c) := HX.out.1
        have K_X : Hid (CpI y17 g_X (.slice Xo x.ts.length Xc) x) := HX.out.2.1
        have K_A : Hid (CpI y17 g_A (.slice Ao a.ts.length Ac) a) := HX.out.2.2.1
        have K_Y : Hid (CpI y17 g_Y (.slice Yo y.ts.length Yc) y) := HX.out.2.2.2.1
        have K_K : Hid (CpI y17 g_K (.slice Ko k.ts.length Kc) k) := HX.out.2.2.2.2.1
        have HB : Hid (Below w.heap.size w y17) := HX.out.2.2.2.2.2
        clear HX
        clear IMk SMk LX IAy SAy LY IKc SKc hkk K_K
        go_upto_region 10 with fail
        go_cut [68] (fun t wx => t = .bool false ∧ Hid (CpI wx g_C (.slice Co c.ts.length Cc) c ∧ CpI wx g_X (.slice Xo x.ts.length Xc) x ∧ CpI wx g_A (.slice Ao a.ts.length Ac) a ∧ CpI wx g_Y (.slice Yo y.ts.length Yc) y ∧ Below w.heap.size w wx))
        case first =>
          as_aux_lemma =>
            cases oka with
            | false =>
              obtain ⟨C, hCd⟩ : ∃ C, C = fun x => Below y17.heap.size y17 x := ⟨_, rfl⟩
              have HQ : Hid (∀ x, C x → Below y17.heap.size y17 x) := by rw [hCd]; exact fun _ h => h
              have HN : Hid (∀ x y, C x → Later x y → C y) := by rw [hCd]; exact fun _ _ h b => h.trans (b.mono h.size)
              have H0 : Hid (C y17.drew) := by rw [hCd]; exact (Below.refl _ _).drew
              have hne : Nonempty (Kin C) := ⟨⟨_, H0.out⟩⟩
              have m_A_0 : ∀ q : Kin C, q.x.cell? ⟨g_A, 0, none⟩ = some (.int .i64 a.tr) := fun q => later_cell (K_A.out.cell 0 rfl) (HQ.out _ q.h)
              have m_A_1 : ∀ q : Kin C, q.x.cell? ⟨g_A, 1, none⟩ = some (.bool a.op) := fun q => later_cell (K_A.out.cell 1 rfl) (HQ.out _ q.h)
              have m_A_2 : ∀ q : Kin C, q.x.cell? ⟨g_A, 2, none⟩ = some (.int .i64 a.di) := fun q => later_cell (K_A.out.cell 2 rfl) (HQ.out _ q.h)
              have m_A_3 : ∀ q : Kin C, q.x.cell? ⟨g_A, 3, none⟩ = some (.int .i64 a.wa) := fun q => later_cell (K_A.out.cell 3 rfl) (HQ.out _ q.h)
              have m_A_4 : ∀ q : Kin C, q.x.cell? ⟨g_A, 4, none⟩ = some (.slice Ao a.ts.length Ac) := fun q => later_cell (K_A.out.cell 4 rfl) (HQ.out _ q.h)
              have m_Y_0 : ∀ q : Kin C, q.x.cell? ⟨g_Y, 0, none⟩ = some (.int .i64 y.tr) := fun q => later_cell (K_Y.out.cell 0 rfl) (HQ.out _ q.h)
              have m_Y_1 : ∀ q : Kin C, q.x.cell? ⟨g_Y, 1, none⟩ = some (.bool y.op) := fun q => later_cell (K_Y.out.cell 1 rfl) (HQ.out _ q.h)
              have m_Y_2 : ∀ q : Kin C, q.x.cell? ⟨g_Y, 2, none⟩ = some (.int .i64 y.di) := fun q => later_cell (K_Y.out.cell 2 rfl) (HQ.out _ q.h)
              have m_Y_3 : ∀ q : Kin C, q.x.cell? ⟨g_Y, 3, none⟩ = some (.int .i64 y.wa) := fun q => later_cell (K_Y.out.cell 3 rfl) (HQ.out _ q.h)
              have m_Y_4 : ∀ q : Kin C, q.x.cell? ⟨g_Y, 4, none⟩ = some (.slice Yo y.ts.length Yc) := fun q => later_cell (K_Y.out.cell 4 rfl) (HQ.out _ q.h)
              clear hCd
              refine wp_region_gs (C := C) (E := byDst fun d => if d = 51 then some (truth false) else none) (R := Later) HN.out (byDst_later (by intro d s hs u x y hx hl; split at hs; (cases hs; exact truthC_later hx hl); cases hs)) (byDst_looks _ _) (by kernel_rfl) (by kernel_rfl) H0.out ?_
              repeat (refine gs_plain rfl (fun K hK => ?_); go_simp; refine hK _ ?_; clear hK K)
              refine gs_call (truth false) rfl (by first | rfl | kernel_rfl) (fun wq hB => ?_) (fun uq hu => ?_)
              · go_simp
                refine ⟨rfl, ?_⟩
                exact truth_of (fun _ h => h) (SOa.out _ wq (K_A.out.below (HQ.out _ hB.1)).reads)
              obtain rfl : uq = .bool false := hu
              repeat (refine gs_plain rfl (fun K hK => ?_); go_simp; refine hK _ ?_; clear hK K)
              refine gs_end (fun y18 hz => ?_)
              have bz := HQ.out _ hz.1
              clear hz m_A_0 m_A_1 m_A_2 m_A_3 m_A_4 m_Y_0 m_Y_1 m_Y_2 m_Y_3 m_Y_4 HQ HN H0 hne
              replace K_C : Hid (CpI y18 g_C (.slice Co c.ts.length Cc) c) := K_C.out.below bz
              replace K_X : Hid (CpI y18 g_X (.slice Xo x.ts.length Xc) x) := K_X.out.below bz
              replace K_A : Hid (CpI y18 g_A (.slice Ao a.ts.length Ac) a) := K_A.out.below bz
              replace K_Y : Hid (CpI y18 g_Y (.slice Yo y.ts.length Yc) y) := K_Y.out.below bz
              replace HB : Hid (Below w.heap.size w y18) := HB.out.trans (bz.mono HB.out.size)
              clear bz
              go_wp2_with fail
              go_meet
              exact ⟨rfl, K_C.out, K_X.out, K_A.out, K_Y.out, HB.out⟩
            | true =>
              obtain ⟨e1, e2, e3⟩ := Cp.again_said H_oka.out.symm
              rw [← H_y.out] at e1 e2 e3
              have hw0 : (y.wa != 0) = false := by rw [e1]; rfl
              have IOz := IOy.out
              rw [e3] at IOz
              have ICz := ICy.out
              rw [e2] at ICz
              have ICb := ICa.out
              obtain ⟨ca, hca⟩ : ∃ ca, ca = a.clean := ⟨_, rfl⟩
              simp only [← hca] at ICz ICb
              have JO : Hid _ := IOz
              have JY : Hid _ := ICz
              have JA : Hid _ := ICb
              have hcc : (ca != ca) = false := by simp
              clear e1 e2 e3 IOz ICz ICb hca IOy ICy ICa
              obtain ⟨C, hCd⟩ : ∃ C, C = fun x => Below y17.heap.size y17 x := ⟨_, rfl⟩
              have HQ : Hid (∀ x, C x → Below y17.heap.size y17 x) := by rw [hCd]; exact fun _ h => h
              have HN : Hid (∀ x y, C x → Later x y → C y) := by rw [hCd]; exact fun _ _ h b => h.trans (b.mono h.size)
              have H0 : Hid (C y17.drew) := by rw [hCd]; exact (Below.refl _ _).drew
              have hne : Nonempty (Kin C) := ⟨⟨_, H0.out⟩⟩
              have m_A_0 : ∀ q : Kin C, q.x.cell? ⟨g_A, 0, none⟩ = some (.int .i64 a.tr) := fun q => later_cell (K_A.out.cell 0 rfl) (HQ.out _ q.h)
              have m_A_1 : ∀ q : Kin C, q.x.cell? ⟨g_A, 1, none⟩ = some (.bool a.op) := fun q => later_cell (K_A.out.cell 1 rfl) (HQ.out _ q.h)
              have m_A_2 : ∀ q : Kin C, q.x.cell? ⟨g_A, 2, none⟩ = some (.int .i64 a.di) := fun q => later_cell (K_A.out.cell 2 rfl) (HQ.out _ q.h)
              have m_A_3 : ∀ q : Kin C, q.x.cell? ⟨g_A, 3, none⟩ = some (.int .i64 a.wa) := fun q => later_cell (K_A.out.cell 3 rfl) (HQ.out _ q.h)
              have m_A_4 : ∀ q : Kin C, q.x.cell? ⟨g_A, 4, none⟩ = some (.slice Ao a.ts.length Ac) := fun q => later_cell (K_A.out.cell 4 rfl) (HQ.out _ q.h)
              have m_Y_0 : ∀ q : Kin C, q.x.cell? ⟨g_Y, 0, none⟩ = some (.int .i64 y.tr) := fun q => later_cell (K_Y.out.cell 0 rfl) (HQ.out _ q.h)
              have m_Y_1 : ∀ q : Kin C, q.x.cell? ⟨g_Y, 1, none⟩ = some (.bool y.op) := fun q => later_cell (K_Y.out.cell 1 rfl) (HQ.out _ q.h)
              have m_Y_2 : ∀ q : Kin C, q.x.cell? ⟨g_Y, 2, none⟩ = some (.int .i64 y.di) := fun q => later_cell (K_Y.out.cell 2 rfl) (HQ.out _ q.h)
              have m_Y_3 : ∀ q : Kin C, q.x.cell? ⟨g_Y, 3, none⟩ = some (.int .i64 y.wa) := fun q => later_cell (K_Y.out.cell 3 rfl) (HQ.out _ q.h)
              have m_Y_4 : ∀ q : Kin C, q.x.cell? ⟨g_Y, 4, none⟩ = some (.slice Yo y.ts.length Yc) := fun q => later_cell (K_Y.out.cell 4 rfl) (HQ.out _ q.h)
              clear hCd
              refine wp_region_gs (C := C) (E := byDst fun d => if d = 51 then some (truth true) else if d = 58 then some (truth ca) else if d = 60 then some (truth ca) else if d = 65 then some (truth true) else none) (R := Later) HN.out (byDst_later (by intro d s hs u x y hx hl; split at hs; (cases hs; exact truthC_later hx hl); split at hs; (cases hs; exact truthC_later hx hl); split at hs; (cases hs; exact truthC_later hx hl); split at hs; (cases hs; exact truthC_later hx hl); cases hs)) (byDst_looks _ _) (by kernel_rfl) (by kernel_rfl) H0.out ?_
              repeat (refine gs_plain rfl (fun K hK => ?_); go_simp; refine hK _ ?_; clear hK K)
              refine gs_call (truth true) rfl (by first | rfl | kernel_rfl) (fun wq hB => ?_) (fun uq hu => ?_)
              · go_simp
                refine ⟨rfl, ?_⟩
                exact truth_of (fun _ h => h) (SOa.out _ wq (K_A.out.below (HQ.out _ hB.1)).reads)
              obtain rfl : uq = .bool true := hu
              repeat (refine gs_plain rfl (fun K hK => ?_); go_simp; refine hK _ ?_; clear hK K)
              refine gs_call (truth ca) rfl (by first | rfl | kernel_rfl) (fun wq hB => ?_) (fun uq hu => ?_)
              · go_simp
                refine ⟨rfl, ?_⟩
                exact truth_of (fun _ h => h) (JY.out _ wq (K_Y.out.below (HQ.out _ hB.1)).reads)
              obtain rfl : uq = .bool ca := hu
              repeat (refine gs_plain rfl (fun K hK => ?_); go_simp; refine hK _ ?_; clear hK K)
              refine gs_call (truth ca) rfl (by first | rfl | kernel_rfl) (fun wq hB => ?_) (fun uq hu => ?_)
              · go_simp
                refine ⟨rfl, ?_⟩
                exact truth_of (fun _ h => h) (JA.out _ wq (K_A.out.below (HQ.out _ hB.1)).reads)
              obtain rfl : uq = .bool ca := hu
              repeat (refine gs_plain rfl (fun K hK => ?_); go_simp; refine hK _ ?_; clear hK K)
              refine gs_call (truth true) rfl (by first | rfl | kernel_rfl) (fun wq hB => ?_) (fun uq hu => ?_)
              · go_simp
                refine ⟨rfl, ?_⟩
                exact truth_of (fun _ h => h) (JO.out _ wq (K_Y.out.below (HQ.out _ hB.1)).reads)
              obtain rfl : uq = .bool true := hu
              repeat (refine gs_plain rfl (fun K hK => ?_); go_simp; refine hK _ ?_; clear hK K)
              refine gs_end (fun y19 hz => ?_)
              have bz := HQ.out _ hz.1
              clear hz m_A_0 m_A_1 m_A_2 m_A_3 m_A_4 m_Y_0 m_Y_1 m_Y_2 m_Y_3 m_Y_4 HQ HN H0 hne
              replace K_C : Hid (CpI y19 g_C (.slice Co c.ts.length Cc) c) := K_C.out.below bz
              replace K_X : Hid (CpI y19 g_X (.slice Xo x.ts.length Xc) x) := K_X.out.below bz
              replace K_A : Hid (CpI y19 g_A (.slice Ao a.ts.length Ac) a) := K_A.out.below bz
              replace K_Y : Hid (CpI y19 g_Y (.slice Yo y.ts.length Yc) y) := K_Y.out.below bz
              replace HB : Hid (Below w.heap.size w y19) := HB.out.trans (bz.mono HB.out.size)
              clear bz
              go_wp2_with fail
              go_meet
              exact ⟨rfl, K_C.out, K_X.out, K_A.out, K_Y.out, HB.out⟩
        case rest =>
          as_aux_lemma =>
            clear HB K_C K_X K_A K_Y
            obtain ⟨rfl, HX⟩ := hcut
            obtain ⟨y20, hy20⟩ : ∃ y20, y20 = wc := ⟨_, rfl⟩
            rw [← hy20] at HX ⊢
            clear hy20
            have K_C : Hid (CpI y20 g_C (.slice Co c.ts.length Cc) c) := HX.out.1
            have K_X : Hid (CpI y20 g_X (.slice Xo x.ts.length Xc) x) := HX.out.2.1
            have K_A : Hid (CpI y20 g_A (.slice Ao a.ts.length Ac) a) := HX.out.2.2.1
            have K_Y : Hid (CpI y20 g_Y (.slice Yo y.ts.length Yc) y) := HX.out.2.2.2.1
            have HB : Hid (Below w.heap.size w y20) := HX.out.2.2.2.2
            clear HX
            clear SOa IOy ICy ICa K_A K_Y H_y H_oka
            have p_C_0 : y20.cell? ⟨g_C, 0, none⟩ = some (.int .i64 c.tr) := K_C.out.cell 0 rfl
            have p_C_1 : y20.cell? ⟨g_C, 1, none⟩ = some (.bool c.op) := K_C.out.cell 1 rfl
            have p_C_2 : y20.cell? ⟨g_C, 2, none⟩ = some (.int .i64 c.di) := K_C.out.cell 2 rfl
            have p_C_3 : y20.cell? ⟨g_C, 3, none⟩ = some (.int .i64 c.wa) := K_C.out.cell 3 rfl
            have p_C_4 : y20.cell? ⟨g_C, 4, none⟩ = some (.slice Co c.ts.length Cc) := K_C.out.cell 4 rfl
            go_wp2_with fail
            clear p_C_0 p_C_1 p_C_2 p_C_3 p_C_4
            refine (SOc.out _ _ K_C.out.reads).mono ?_
            rintro e y21 ⟨rfl, bq⟩
            replace K_C : Hid (CpI y21 g_C (.slice Co c.ts.length Cc) c) := K_C.out.below bq
            replace K_X : Hid (CpI y21 g_X (.slice Xo x.ts.length Xc) x) := K_X.out.below bq
            replace HB : Hid (Below w.heap.size w y21) := HB.out.trans (bq.mono HB.out.size)
            clear bq
            cases okc with
            | false =>
              have HM : Hid ((c.Mark i).clean = true → c.clean = true) := Cp.mark_out (.inl H_okc.out.symm)
              obtain ⟨bx, hbx⟩ : ∃ bx, bx = x.clean := ⟨_, rfl⟩
              obtain ⟨bc, hbc⟩ : ∃ bc, bc = c.clean := ⟨_, rfl⟩
              have HX : Hid (bx = true → bc = true) := by rw [hbx, hbc, H_x.out]; exact HM.out
              have ICx' := ICx.out
              have ICc' := ICc.out
              simp only [← hbx] at ICx'
              simp only [← hbc] at ICc'
              have JX : Hid _ := ICx'
              have JC : Hid _ := ICc'
              clear hbx hbc ICx' ICc' ICx ICc HM H_x H_okc SOc
              have p_X_0 : y21.cell? ⟨g_X, 0, none⟩ = some (.int .i64 x.tr) := K_X.out.cell 0 rfl
              have p_X_1 : y21.cell? ⟨g_X, 1, none⟩ = some (.bool x.op) := K_X.out.cell 1 rfl
              have p_X_2 : y21.cell? ⟨g_X, 2, none⟩ = some (.int .i64 x.di) := K_X.out.cell 2 rfl
              have p_X_3 : y21.cell? ⟨g_X, 3, none⟩ = some (.int .i64 x.wa) := K_X.out.cell 3 rfl
              have p_X_4 : y21.cell? ⟨g_X, 4, none⟩ = some (.slice Xo x.ts.length Xc) := K_X.out.cell 4 rfl
              go_wp2_with fail
              clear p_X_0 p_X_1 p_X_2 p_X_3 p_X_4
              refine (JX.out _ _ K_X.out.reads).mono ?_
              rintro e y22 ⟨rfl, bq⟩
              replace K_C : Hid (CpI y22 g_C (.slice Co c.ts.length Cc) c) := K_C.out.below bq
              replace K_X : Hid (CpI y22 g_X (.slice Xo x.ts.length Xc) x) := K_X.out.below bq
              replace HB : Hid (Below w.heap.size w y22) := HB.out.trans (bq.mono HB.out.size)
              clear bq
              cases bx with
              | false =>
                clear K_C K_X
                go_wp2
                go_ret
                exact ⟨rfl, HB.out⟩
              | true =>
                have e : bc = true := HX.out rfl
                rw [e] at JC
                clear e HX
                have p_C_0 : y22.cell? ⟨g_C, 0, none⟩ = some (.int .i64 c.tr) := K_C.out.cell 0 rfl
                have p_C_1 : y22.cell? ⟨g_C, 1, none⟩ = some (.bool c.op) := K_C.out.cell 1 rfl
                have p_C_2 : y22.cell? ⟨g_C, 2, none⟩ = some (.int .i64 c.di) := K_C.out.cell 2 rfl
                have p_C_3 : y22.cell? ⟨g_C, 3, none⟩ = some (.int .i64 c.wa) := K_C.out.cell 3 rfl
                have p_C_4 : y22.cell? ⟨g_C, 4, none⟩ = some (.slice Co c.ts.length Cc) := K_C.out.cell 4 rfl
                go_wp2_with fail
                clear p_C_0 p_C_1 p_C_2 p_C_3 p_C_4
                refine (JC.out _ _ K_C.out.reads).mono ?_
                rintro e y23 ⟨rfl, bq⟩
                replace K_C : Hid (CpI y23 g_C (.slice Co c.ts.length Cc) c) := K_C.out.below bq
                replace K_X : Hid (CpI y23 g_X (.slice Xo x.ts.length Xc) x) := K_X.out.below bq
                replace HB : Hid (Below w.heap.size w y23) := HB.out.trans (bq.mono HB.out.size)
                clear bq
                clear K_C K_X
                go_wp2
                go_ret
                exact ⟨rfl, HB.out⟩
            | true =>
              by_cases hi0 : i < 0
              · skip
                have HM : Hid ((c.Mark i).clean = true → c.clean = true) := Cp.mark_out (.inr (.inl hi0))
                obtain ⟨bx, hbx⟩ : ∃ bx, bx = x.clean := ⟨_, rfl⟩
                obtain ⟨bc, hbc⟩ : ∃ bc, bc = c.clean := ⟨_, rfl⟩
                have HX : Hid (bx = true → bc = true) := by rw [hbx, hbc, H_x.out]; exact HM.out
                have ICx' := ICx.out
                have ICc' := ICc.out
                simp only [← hbx] at ICx'
                simp only [← hbc] at ICc'
                have JX : Hid _ := ICx'
                have JC : Hid _ := ICc'
                clear hbx hbc ICx' ICc' ICx ICc HM H_x H_okc SOc
                have p_X_0 : y21.cell? ⟨g_X, 0, none⟩ = some (.int .i64 x.tr) := K_X.out.cell 0 rfl
                have p_X_1 : y21.cell? ⟨g_X, 1, none⟩ = some (.bool x.op) := K_X.out.cell 1 rfl
                have p_X_2 : y21.cell? ⟨g_X, 2, none⟩ = some (.int .i64 x.di) := K_X.out.cell 2 rfl
                have p_X_3 : y21.cell? ⟨g_X, 3, none⟩ = some (.int .i64 x.wa) := K_X.out.cell 3 rfl
                have p_X_4 : y21.cell? ⟨g_X, 4, none⟩ = some (.slice Xo x.ts.length Xc) := K_X.out.cell 4 rfl
                go_wp2_with fail
                clear p_X_0 p_X_1 p_X_2 p_X_3 p_X_4
                refine (JX.out _ _ K_X.out.reads).mono ?_
                rintro e y24 ⟨rfl, bq⟩
                replace K_C : Hid (CpI y24 g_C (.slice Co c.ts.length Cc) c) := K_C.out.below bq
                replace K_X : Hid (CpI y24 g_X (.slice Xo x.ts.length Xc) x) := K_X.out.below bq
                replace HB : Hid (Below w.heap.size w y24) := HB.out.trans (bq.mono HB.out.size)
                clear bq
                cases bx with
                | false =>
                  clear K_C K_X
                  go_wp2
                  go_ret
                  exact ⟨rfl, HB.out⟩
                | true =>
                  have e : bc = true := HX.out rfl
                  rw [e] at JC
                  clear e HX
                  have p_C_0 : y24.cell? ⟨g_C, 0, none⟩ = some (.int .i64 c.tr) := K_C.out.cell 0 rfl
                  have p_C_1 : y24.cell? ⟨g_C, 1, none⟩ = some (.bool c.op) := K_C.out.cell 1 rfl
                  have p_C_2 : y24.cell? ⟨g_C, 2, none⟩ = some (.int .i64 c.di) := K_C.out.cell 2 rfl
                  have p_C_3 : y24.cell? ⟨g_C, 3, none⟩ = some (.int .i64 c.wa) := K_C.out.cell 3 rfl
                  have p_C_4 : y24.cell? ⟨g_C, 4, none⟩ = some (.slice Co c.ts.length Cc) := K_C.out.cell 4 rfl
                  go_wp2_with fail
                  clear p_C_0 p_C_1 p_C_2 p_C_3 p_C_4
                  refine (JC.out _ _ K_C.out.reads).mono ?_
                  rintro e y25 ⟨rfl, bq⟩
                  replace K_C : Hid (CpI y25 g_C (.slice Co c.ts.length Cc) c) := K_C.out.below bq
                  replace K_X : Hid (CpI y25 g_X (.slice Xo x.ts.length Xc) x) := K_X.out.below bq
                  replace HB : Hid (Below w.heap.size w y25) := HB.out.trans (bq.mono HB.out.size)
                  clear bq
                  clear K_C K_X
                  go_wp2
                  go_ret
                  exact ⟨rfl, HB.out⟩
              · skip
                by_cases hi1 : (c.ts.length : Int) ≤ i
                · skip
                  have HM : Hid ((c.Mark i).clean = true → c.clean = true) := Cp.mark_out (.inr (.inr hi1))
                  have p_C_0 : y21.cell? ⟨g_C, 0, none⟩ = some (.int .i64 c.tr) := K_C.out.cell 0 rfl
                  have p_C_1 : y21.cell? ⟨g_C, 1, none⟩ = some (.bool c.op) := K_C.out.cell 1 rfl
                  have p_C_2 : y21.cell? ⟨g_C, 2, none⟩ = some (.int .i64 c.di) := K_C.out.cell 2 rfl
                  have p_C_3 : y21.cell? ⟨g_C, 3, none⟩ = some (.int .i64 c.wa) := K_C.out.cell 3 rfl
                  have p_C_4 : y21.cell? ⟨g_C, 4, none⟩ = some (.slice Co c.ts.length Cc) := K_C.out.cell 4 rfl
                  clear p_C_0 p_C_1 p_C_2 p_C_3
                  go_upto_region 13 with fail
                  clear p_C_4
                  obtain ⟨bx, hbx⟩ : ∃ bx, bx = x.clean := ⟨_, rfl⟩
                  obtain ⟨bc, hbc⟩ : ∃ bc, bc = c.clean := ⟨_, rfl⟩
                  have HX : Hid (bx = true → bc = true) := by rw [hbx, hbc, H_x.out]; exact HM.out
                  have ICx' := ICx.out
                  have ICc' := ICc.out
                  simp only [← hbx] at ICx'
                  simp only [← hbc] at ICc'
                  have JX : Hid _ := ICx'
                  have JC : Hid _ := ICc'
                  clear hbx hbc ICx' ICc' ICx ICc HM H_x H_okc SOc
                  have p_X_0 : y21.cell? ⟨g_X, 0, none⟩ = some (.int .i64 x.tr) := K_X.out.cell 0 rfl
                  have p_X_1 : y21.cell? ⟨g_X, 1, none⟩ = some (.bool x.op) := K_X.out.cell 1 rfl
                  have p_X_2 : y21.cell? ⟨g_X, 2, none⟩ = some (.int .i64 x.di) := K_X.out.cell 2 rfl
                  have p_X_3 : y21.cell? ⟨g_X, 3, none⟩ = some (.int .i64 x.wa) := K_X.out.cell 3 rfl
                  have p_X_4 : y21.cell? ⟨g_X, 4, none⟩ = some (.slice Xo x.ts.length Xc) := K_X.out.cell 4 rfl
                  go_wp2_with fail
                  clear p_X_0 p_X_1 p_X_2 p_X_3 p_X_4
                  refine (JX.out _ _ K_X.out.reads).mono ?_
                  rintro e y26 ⟨rfl, bq⟩
                  replace K_C : Hid (CpI y26 g_C (.slice Co c.ts.length Cc) c) := K_C.out.below bq
                  replace K_X : Hid (CpI y26 g_X (.slice Xo x.ts.length Xc) x) := K_X.out.below bq
                  replace HB : Hid (Below w.heap.size w y26) := HB.out.trans (bq.mono HB.out.size)
                  clear bq
                  cases bx with
                  | false =>
                    clear K_C K_X
                    go_wp2
                    go_ret
                    exact ⟨rfl, HB.out⟩
                  | true =>
                    have e : bc = true := HX.out rfl
                    rw [e] at JC
                    clear e HX
                    have p_C_0 : y26.cell? ⟨g_C, 0, none⟩ = some (.int .i64 c.tr) := K_C.out.cell 0 rfl
                    have p_C_1 : y26.cell? ⟨g_C, 1, none⟩ = some (.bool c.op) := K_C.out.cell 1 rfl
                    have p_C_2 : y26.cell? ⟨g_C, 2, none⟩ = some (.int .i64 c.di) := K_C.out.cell 2 rfl
                    have p_C_3 : y26.cell? ⟨g_C, 3, none⟩ = some (.int .i64 c.wa) := K_C.out.cell 3 rfl
                    have p_C_4 : y26.cell? ⟨g_C, 4, none⟩ = some (.slice Co c.ts.length Cc) := K_C.out.cell 4 rfl
                    go_wp2_with fail
                    clear p_C_0 p_C_1 p_C_2 p_C_3 p_C_4
                    refine (JC.out _ _ K_C.out.reads).mono ?_
                    rintro e y27 ⟨rfl, bq⟩
                    replace K_C : Hid (CpI y27 g_C (.slice Co c.ts.length Cc) c) := K_C.out.below bq
                    replace K_X : Hid (CpI y27 g_X (.slice Xo x.ts.length Xc) x) := K_X.out.below bq
                    replace HB : Hid (Below w.heap.size w y27) := HB.out.trans (bq.mono HB.out.size)
                    clear bq
                    clear K_C K_X
                    go_wp2
                    go_ret
                    exact ⟨rfl, HB.out⟩
                · skip
                  obtain ⟨xok, xop, xcl, xin, xln⟩ := Cp.mark_in (i := i) H_okc.out.symm (by omega) (by omega)
                  rw [← H_x.out] at xok xop xcl xin xln
                  have ICx' := ICx.out
                  rw [xcl] at ICx'
                  have JX : Hid _ := ICx'
                  have SI' := fun wx => sin_any x.di i wx
                  rw [xin] at SI'
                  have SI : Hid _ := SI'
                  have HZ0 : Hid (Zi x x 0) := Zi.start xok
                  have HOP : Hid (x.op = c.op) := xop
                  clear xok xop xcl xin xln ICx ICx' ICc SI' H_x H_okc SOc
                  have p_C_0 : y21.cell? ⟨g_C, 0, none⟩ = some (.int .i64 c.tr) := K_C.out.cell 0 rfl
                  have p_C_1 : y21.cell? ⟨g_C, 1, none⟩ = some (.bool c.op) := K_C.out.cell 1 rfl
                  have p_C_2 : y21.cell? ⟨g_C, 2, none⟩ = some (.int .i64 c.di) := K_C.out.cell 2 rfl
                  have p_C_3 : y21.cell? ⟨g_C, 3, none⟩ = some (.int .i64 c.wa) := K_C.out.cell 3 rfl
                  have p_C_4 : y21.cell? ⟨g_C, 4, none⟩ = some (.slice Co c.ts.length Cc) := K_C.out.cell 4 rfl
                  clear p_C_0 p_C_1 p_C_2 p_C_3
                  go_upto_region 14 with fail
                  clear p_C_4
                  have p_X_0 : y21.cell? ⟨g_X, 0, none⟩ = some (.int .i64 x.tr) := K_X.out.cell 0 rfl
                  have p_X_1 : y21.cell? ⟨g_X, 1, none⟩ = some (.bool x.op) := K_X.out.cell 1 rfl
                  have p_X_2 : y21.cell? ⟨g_X, 2, none⟩ = some (.int .i64 x.di) := K_X.out.cell 2 rfl
                  have p_X_3 : y21.cell? ⟨g_X, 3, none⟩ = some (.int .i64 x.wa) := K_X.out.cell 3 rfl
                  have p_X_4 : y21.cell? ⟨g_X, 4, none⟩ = some (.slice Xo x.ts.length Xc) := K_X.out.cell 4 rfl
                  go_wp2_with fail
                  clear p_X_0 p_X_1 p_X_2 p_X_3 p_X_4
                  refine (JX.out _ _ K_X.out.reads).mono ?_
                  rintro e y28 ⟨rfl, bq⟩
                  replace K_C : Hid (CpI y28 g_C (.slice Co c.ts.length Cc) c) := K_C.out.below bq
                  replace K_X : Hid (CpI y28 g_X (.slice Xo x.ts.length Xc) x) := K_X.out.below bq
                  replace HB : Hid (Below w.heap.size w y28) := HB.out.trans (bq.mono HB.out.size)
                  clear bq
                  have p_X_0 : y28.cell? ⟨g_X, 0, none⟩ = some (.int .i64 x.tr) := K_X.out.cell 0 rfl
                  have p_X_1 : y28.cell? ⟨g_X, 1, none⟩ = some (.bool x.op) := K_X.out.cell 1 rfl
                  have p_X_2 : y28.cell? ⟨g_X, 2, none⟩ = some (.int .i64 x.di) := K_X.out.cell 2 rfl
                  have p_X_3 : y28.cell? ⟨g_X, 3, none⟩ = some (.int .i64 x.wa) := K_X.out.cell 3 rfl
                  have p_X_4 : y28.cell? ⟨g_X, 4, none⟩ = some (.slice Xo x.ts.length Xc) := K_X.out.cell 4 rfl
                  clear p_X_0 p_X_1 p_X_3 p_X_4
                  go_wp2_with fail
                  clear p_X_2
                  refine (SI.out _).mono ?_
                  rintro e w' ⟨rfl, hw⟩; subst w'
                  clear SI JX hi0 hi1
                  obtain ⟨y29, hy29⟩ : ∃ y29, y29 = y28.alloc (.cells (cpA (.slice Xo x.ts.length Xc) x) 26) := ⟨_, rfl⟩
                  have by29 : Below y28.heap.size y28 y29 := by rw [hy29]; exact (Below.refl _ _).alloc (Nat.le_refl _) _
                  have K_Z : Hid (CpI y29 y28.heap.size (.slice Xo x.ts.length Xc) x) := by rw [hy29]; exact CpI.new K_X.out.2
                  have HNE : Hid (g_X ≠ y28.heap.size ∧ g_C ≠ y28.heap.size ∧ w.heap.size ≤ y28.heap.size) := ⟨Nat.ne_of_lt K_X.out.1.lt, Nat.ne_of_lt K_C.out.1.lt, HB.out.size⟩
                  have p_X_0 : y28.cell? ⟨g_X, 0, none⟩ = some (.int .i64 x.tr) := K_X.out.cell 0 rfl
                  have p_X_1 : y28.cell? ⟨g_X, 1, none⟩ = some (.bool x.op) := K_X.out.cell 1 rfl
                  have p_X_2 : y28.cell? ⟨g_X, 2, none⟩ = some (.int .i64 x.di) := K_X.out.cell 2 rfl
                  have p_X_3 : y28.cell? ⟨g_X, 3, none⟩ = some (.int .i64 x.wa) := K_X.out.cell 3 rfl
                  have p_X_4 : y28.cell? ⟨g_X, 4, none⟩ = some (.slice Xo x.ts.length Xc) := K_X.out.cell 4 rfl
                  unfold cpA at hy29
                  go_upto_region 17 with fail
                  rw [← hy29]
                  clear hy29
                  clear p_X_0 p_X_1 p_X_2 p_X_3 p_X_4
                  replace K_C : Hid (CpI y29 g_C (.slice Co c.ts.length Cc) c) := K_C.out.below by29
                  replace K_X : Hid (CpI y29 g_X (.slice Xo x.ts.length Xc) x) := K_X.out.below by29
                  replace HB : Hid (Below w.heap.size w y29) := HB.out.trans (by29.mono HB.out.size)
                  clear by29
                  obtain ⟨g_Z, hg_Z⟩ : ∃ g_Z, g_Z = y28.heap.size := ⟨_, rfl⟩
                  rw [← hg_Z] at K_Z HNE ⊢
                  clear hg_Z
                  go_wp2_with fail
                  go_loopw [10] (fun i wr => ∃ (k : Nat) (zo : Option Addr) (zc : Nat) (z : Cp), i = .int .i64 k ∧ Hid (CpI wr g_Z (.slice zo z.ts.length zc) z ∧ Zi x z k ∧ CpI wr g_X (.slice Xo x.ts.length Xc) x ∧ CpI wr g_C (.slice Co c.ts.length Cc) c ∧ Below w.heap.size w wr)) (fun i _ => 20 - (intOf i).toNat)
                  case atStart => exact ⟨0, _, _, x, rfl, K_Z.out, HZ0.out, K_X.out, K_C.out, HB.out⟩
                  case round =>
                    clear K_Z K_X K_C HB HZ0
                    obtain ⟨k, zo, zc, z, rfl, HL⟩ := hrel
                    have K_Z : Hid (CpI wr g_Z (.slice zo z.ts.length zc) z) := HL.out.1
                    have HZI : Hid (Zi x z k) := HL.out.2.1
                    have K_X : Hid (CpI wr g_X (.slice Xo x.ts.length Xc) x) := HL.out.2.2.1
                    have K_C : Hid (CpI wr g_C (.slice Co c.ts.length Cc) c) := HL.out.2.2.2.1
                    have HB : Hid (Below w.heap.size w wr) := HL.out.2.2.2.2
                    obtain ⟨hz8, hk8⟩ := HZI.out.len8
                    have hk20 : (k : Int) < 20 := by omega
                    have gz : z.ts.length ≤ 1099511627776 := by omega
                    clear HL
                    obtain ⟨y, h_y⟩ : ∃ y, y = z.Next := ⟨_, rfl⟩
                    obtain ⟨n, h_n⟩ : ∃ n, n = z.Nx := ⟨_, rfl⟩
                    have gy : y.ts.length ≤ 1099511627776 := by rw [h_y]; have := Cp.Next_len z; omega
                    have INx' := fun v wx h => inexted_any v z wx h gz
                    simp only [← h_y, ← h_n] at INx'
                    unfold CpV cpA at INx'
                    have INx : Hid _ := INx'
                    clear INx'
                    have H_y : Hid (y = z.Next) := h_y
                    clear h_y
                    have H_n : Hid (n = z.Nx) := h_n
                    clear h_n
                    have p_Z_0 : wr.cell? ⟨g_Z, 0, none⟩ = some (.int .i64 z.tr) := K_Z.out.cell 0 rfl
                    have p_Z_1 : wr.cell? ⟨g_Z, 1, none⟩ = some (.bool z.op) := K_Z.out.cell 1 rfl
                    have p_Z_2 : wr.cell? ⟨g_Z, 2, none⟩ = some (.int .i64 z.di) := K_Z.out.cell 2 rfl
                    have p_Z_3 : wr.cell? ⟨g_Z, 3, none⟩ = some (.int .i64 z.wa) := K_Z.out.cell 3 rfl
                    have p_Z_4 : wr.cell? ⟨g_Z, 4, none⟩ = some (.slice zo z.ts.length zc) := K_Z.out.cell 4 rfl
                    go_wp2_with fail
                    clear p_Z_0 p_Z_1 p_Z_2 p_Z_3 p_Z_4
                    refine (INx.out _ _ K_Z.out.reads).mono ?_
                    rintro e y30 ⟨_, rfl, oq, bq⟩
                    replace K_X : Hid (CpI y30 g_X (.slice Xo x.ts.length Xc) x) := K_X.out.below bq
                    replace K_C : Hid (CpI y30 g_C (.slice Co c.ts.length Cc) c) := K_C.out.below bq
                    replace K_Z : Hid (CpI y30 g_Z (.slice zo z.ts.length zc) z) := K_Z.out.below bq
                    replace HB : Hid (Below w.heap.size w y30) := HB.out.trans (bq.mono HB.out.size)
                    have HN_W_Z : Hid (y30.heap.size ≠ g_Z) := Nat.ne_of_gt K_Z.out.1.lt
                    obtain ⟨Wo, Wc, rfl⟩ := reads_form oq.reads
                    obtain ⟨y31, hy31⟩ : ∃ y31, y31 = y30.alloc (.cells (cpA (.slice Wo y.ts.length Wc) y) 26) := ⟨_, rfl⟩
                    have by31 : Below y30.heap.size y30 y31 := by rw [hy31]; exact (Below.refl _ _).alloc (Nat.le_refl _) _
                    have K_W : Hid (CpI y31 y30.heap.size (.slice Wo y.ts.length Wc) y) := by rw [hy31]; first | exact CpI.new oq | exact CpI.new oq.mine
                    clear oq bq
                    replace K_X : Hid (CpI y31 g_X (.slice Xo x.ts.length Xc) x) := K_X.out.below by31
                    replace K_C : Hid (CpI y31 g_C (.slice Co c.ts.length Cc) c) := K_C.out.below by31
                    replace K_Z : Hid (CpI y31 g_Z (.slice zo z.ts.length zc) z) := K_Z.out.below by31
                    replace HB : Hid (Below w.heap.size w y31) := HB.out.trans (by31.mono HB.out.size)
                    clear by31
                    unfold cpA at hy31
                    try unfold CpV cpA
                    go_upto_region 21 with fail
                    rw [← hy31]
                    clear hy31
                    obtain ⟨g_W, hg_W⟩ : ∃ g_W, g_W = y30.heap.size := ⟨_, rfl⟩
                    rw [← hg_W] at K_W HN_W_Z ⊢
                    clear hg_W
                    by_cases hn : n < 0
                    · skip
                      have HNX : Hid (z.Nx < 0) := by rw [Hid, ← H_n.out]; exact hn
                      clear INx K_W H_y gy HN_W_Z
                      go_wp2_with fail
                      go_loop [13] (fun i => ∃ j : Nat, j ≤ z.ts.length ∧ i = .int .i64 j ∧ Hid (∀ q, q < j → z.ts.getD q 0 ≠ 1000000000)) (fun i => z.ts.length - (intOf i).toNat)
                      case atStart => exact ⟨0, Nat.zero_le _, rfl, fun q hq => absurd hq (Nat.not_lt_zero q)⟩
                      case round =>
                        clear hn H_n
                        obtain ⟨j, hj, rfl, HT⟩ := hrel
                        by_cases hlt : (j : Int) < (z.ts.length : Int)
                        · skip
                          obtain ⟨bb, off, rfl, hc1, hc2, kj⟩ := K_Z.out.at j (by omega)
                          unfold maxLen at hc2
                          obtain ⟨tv, htv⟩ : ∃ tv, tv = z.ts.getD j 0 := ⟨_, rfl⟩
                          rw [← htv] at kj
                          have HTV : Hid (tv = z.ts.getD j 0) := htv
                          clear htv
                          have p_Z_0 : y31.cell? ⟨g_Z, 0, none⟩ = some (.int .i64 z.tr) := K_Z.out.cell 0 rfl
                          have p_Z_1 : y31.cell? ⟨g_Z, 1, none⟩ = some (.bool z.op) := K_Z.out.cell 1 rfl
                          have p_Z_2 : y31.cell? ⟨g_Z, 2, none⟩ = some (.int .i64 z.di) := K_Z.out.cell 2 rfl
                          have p_Z_3 : y31.cell? ⟨g_Z, 3, none⟩ = some (.int .i64 z.wa) := K_Z.out.cell 3 rfl
                          have p_Z_4 : y31.cell? ⟨g_Z, 4, none⟩ = some (.slice (some ⟨bb, off, none⟩) z.ts.length zc) := K_Z.out.cell 4 rfl
                          clear p_Z_0 p_Z_1 p_Z_2 p_Z_3
                          by_cases hm : tv = 1000000000
                          · have em : (tv == 1000000000) = true := by simpa using hm
                            clear K_X K_C K_Z HT HTV HZI HNX HOP HNE
                            go_wp2
                            go_ret
                            exact ⟨rfl, HB.out⟩
                          · have em : (tv == 1000000000) = false := by simpa using hm
                            have HT2 : Hid (∀ q, q < j + 1 → z.ts.getD q 0 ≠ 1000000000) := by
                              intro q hq
                              rcases Nat.lt_or_ge q j with h | h
                              · exact HT.out q h
                              · rw [show q = j by omega, ← HTV.out]; exact hm
                            clear hm HT HTV
                            go_wp2
                            go_round
                            case rel => exact ⟨j + 1, by omega, by go_num, HT2⟩
                            case measure => simp [intOf]; omega
                        · skip
                          have HE : Hid (x.op = true → z.di = 0 ∧ (z.wa = 0 → z.clean = true)) := fun hx => HZI.out.fin HNX.out (fun q hq => HT.out q (by omega)) hx
                          have HWA : Hid (x.wa = 0 → z.wa = 0) := HZI.out.wa
                          have ICz' := fun v wx h => iclean_any v z wx h gz
                          unfold CpV cpA at ICz'
                          have ICz : Hid _ := ICz'
                          rw [HOP.out] at HE
                          clear ICz' HT HZI HNX HOP HNE
                          have p_Z_0 : y31.cell? ⟨g_Z, 0, none⟩ = some (.int .i64 z.tr) := K_Z.out.cell 0 rfl
                          have p_Z_1 : y31.cell? ⟨g_Z, 1, none⟩ = some (.bool z.op) := K_Z.out.cell 1 rfl
                          have p_Z_2 : y31.cell? ⟨g_Z, 2, none⟩ = some (.int .i64 z.di) := K_Z.out.cell 2 rfl
                          have p_Z_3 : y31.cell? ⟨g_Z, 3, none⟩ = some (.int .i64 z.wa) := K_Z.out.cell 3 rfl
                          have p_Z_4 : y31.cell? ⟨g_Z, 4, none⟩ = some (.slice zo z.ts.length zc) := K_Z.out.cell 4 rfl
                          have p_C_0 : y31.cell? ⟨g_C, 0, none⟩ = some (.int .i64 c.tr) := K_C.out.cell 0 rfl
                          have p_C_1 : y31.cell? ⟨g_C, 1, none⟩ = some (.bool c.op) := K_C.out.cell 1 rfl
                          have p_C_2 : y31.cell? ⟨g_C, 2, none⟩ = some (.int .i64 c.di) := K_C.out.cell 2 rfl
                          have p_C_3 : y31.cell? ⟨g_C, 3, none⟩ = some (.int .i64 c.wa) := K_C.out.cell 3 rfl
                          have p_C_4 : y31.cell? ⟨g_C, 4, none⟩ = some (.slice Co c.ts.length Cc) := K_C.out.cell 4 rfl
                          have p_X_0 : y31.cell? ⟨g_X, 0, none⟩ = some (.int .i64 x.tr) := K_X.out.cell 0 rfl
                          have p_X_1 : y31.cell? ⟨g_X, 1, none⟩ = some (.bool x.op) := K_X.out.cell 1 rfl
                          have p_X_2 : y31.cell? ⟨g_X, 2, none⟩ = some (.int .i64 x.di) := K_X.out.cell 2 rfl
                          have p_X_3 : y31.cell? ⟨g_X, 3, none⟩ = some (.int .i64 x.wa) := K_X.out.cell 3 rfl
                          have p_X_4 : y31.cell? ⟨g_X, 4, none⟩ = some (.slice Xo x.ts.length Xc) := K_X.out.cell 4 rfl
                          clear p_C_0 p_C_2 p_C_3 p_C_4 p_X_0 p_X_1 p_X_2 p_X_4
                          obtain ⟨bo, hbo⟩ : ∃ bo, bo = c.op := ⟨_, rfl⟩
                          rw [← hbo] at HE p_C_1
                          clear hbo
                          cases bo with
                          | false =>
                            clear HE HWA ICz K_X K_C K_Z
                            go_wp2
                            go_ret
                            exact ⟨rfl, HB.out⟩
                          | true =>
                            obtain ⟨hd, hcl⟩ := HE.out rfl
                            have ed : (z.di == 0) = true := by simpa using hd
                            by_cases hw : z.wa = 0
                            · have ew : (z.wa == 0) = true := by simpa using hw
                              have ICy := ICz.out
                              rw [hcl hw] at ICy
                              clear HE HWA ICz hd hcl hw
                              go_wp2_with fail
                              refine (ICy _ _ K_Z.out.reads).mono ?_
                              rintro e wq ⟨rfl, bq⟩
                              replace HB : Hid (Below w.heap.size w wq) := HB.out.trans (bq.mono HB.out.size)
                              clear bq ICy K_X K_C K_Z p_Z_0 p_Z_1 p_Z_2 p_Z_3 p_Z_4 p_C_1 p_X_3
                              go_wp2
                              go_ret
                              exact ⟨rfl, HB.out⟩
                            · have ew : (z.wa == 0) = false := by simpa using hw
                              have ex : (x.wa != 0) = true := by
                                have : x.wa ≠ 0 := fun h => hw (HWA.out h)
                                simpa using this
                              clear HE HWA ICz hd hcl hw K_X K_C K_Z
                              go_wp2
                              go_ret
                              exact ⟨rfl, HB.out⟩
                    · skip
                      obtain ⟨t, ht⟩ : ∃ t, t = y.ts.getD n.toNat 0 := ⟨_, rfl⟩
                      have hst := HZI.out.step (by rw [← H_n.out]; exact hn) t (by rw [ht, H_y.out, H_n.out])
                      rw [← H_y.out, ← H_n.out] at hst
                      obtain ⟨hzi, h0, h1, ht0, ht1⟩ := hst
                      obtain ⟨j, rfl⟩ := nat_of h0
                      rw [Int.toNat_natCast] at ht
                      obtain ⟨y1, h_y1⟩ : ∃ y1, y1 = y.Ack j t := ⟨_, rfl⟩
                      obtain ⟨y2, h_y2⟩ : ∃ y2, y2 = y1.Ack j (t - 1) := ⟨_, rfl⟩
                      rw [← h_y1, ← h_y2] at hzi
                      have HZJ : Hid (Zi x y2 (k + 1)) := hzi
                      have gy1 : y1.ts.length ≤ 1099511627776 := by rw [h_y1]; have := Cp.Ack_len y j t; omega
                      obtain ⟨bb, off, rfl, hc1, hc2, kj⟩ := K_W.out.at j (by omega)
                      unfold maxLen at hc2
                      rw [← ht] at kj
                      have IA1' := fun v wx h => iacked_any v y j t wx h gy
                      simp only [← h_y1] at IA1'
                      unfold CpV cpA at IA1'
                      have IA1 : Hid _ := IA1'
                      clear IA1'
                      have IA2' := fun v wx h => iacked_any v y1 j (t - 1) wx h gy1
                      simp only [← h_y2] at IA2'
                      unfold CpV cpA at IA2'
                      have IA2 : Hid _ := IA2'
                      clear IA2'
                      have hjl : (j : Int) < (y.ts.length : Int) := h1
                      have htw : IntKind.i64.wrap (t - 1) = t - 1 := by rw [IntKind.wrap_i64]; omega
                      have HKJ : Hid _ := kj
                      clear kj hzi HZI h_y1 h_y2 H_y H_n hn INx h0
                      have HTT : Hid (j < y.ts.length ∧ t = y.ts.getD j 0) := ⟨by omega, ht⟩
                      clear ht h1
                      go_upto_region 22 with fail
                      obtain ⟨C, hCd⟩ : ∃ C, C = fun x => Below y31.heap.size y31 x := ⟨_, rfl⟩
                      have HQ : Hid (∀ x, C x → Below y31.heap.size y31 x) := by rw [hCd]; exact fun _ h => h
                      have HN : Hid (∀ x y, C x → Later x y → C y) := by rw [hCd]; exact fun _ _ h b => h.trans (b.mono h.size)
                      have H0 : Hid (C y31.drew) := by rw [hCd]; exact (Below.refl _ _).drew
                      have hne : Nonempty (Kin C) := ⟨⟨_, H0.out⟩⟩
                      have m_W_0 : ∀ q : Kin C, q.x.cell? ⟨g_W, 0, none⟩ = some (.int .i64 y.tr) := fun q => later_cell (K_W.out.cell 0 rfl) (HQ.out _ q.h)
                      have m_W_1 : ∀ q : Kin C, q.x.cell? ⟨g_W, 1, none⟩ = some (.bool y.op) := fun q => later_cell (K_W.out.cell 1 rfl) (HQ.out _ q.h)
                      have m_W_2 : ∀ q : Kin C, q.x.cell? ⟨g_W, 2, none⟩ = some (.int .i64 y.di) := fun q => later_cell (K_W.out.cell 2 rfl) (HQ.out _ q.h)
                      have m_W_3 : ∀ q : Kin C, q.x.cell? ⟨g_W, 3, none⟩ = some (.int .i64 y.wa) := fun q => later_cell (K_W.out.cell 3 rfl) (HQ.out _ q.h)
                      have m_W_4 : ∀ q : Kin C, q.x.cell? ⟨g_W, 4, none⟩ = some (.slice (some ⟨bb, off, none⟩) y.ts.length Wc) := fun q => later_cell (K_W.out.cell 4 rfl) (HQ.out _ q.h)
                      have m_t : ∀ q : Kin C, q.x.cell? ⟨bb, off + j, none⟩ = some (.int .i64 t) := fun q => later_cell HKJ.out (HQ.out _ q.h)
                      clear hCd
                      refine wp_region_gs_last (C := C) (E := byDst fun d => if d = 118 then some (cpG y1) else none) (R := Later) HN.out (byDst_later (by intro d s hs u x y hx hl; split at hs; (cases hs; exact cpG_later hx hl); cases hs)) (byDst_looks _ _) (by kernel_rfl) (by kernel_rfl) (by kernel_rfl) (by simp) H0.out ?_
                      dsimp only [List.dropLast]
                      repeat (refine gs_plain rfl (fun K hK => ?_); go_simp; refine hK _ ?_; clear hK K)
                      refine gs_call (cpG y1) rfl (by first | rfl | kernel_rfl) (fun wq hB => ?_) (fun uq hu => ?_)
                      · go_simp
                        refine ⟨rfl, ?_⟩
                        exact cpG_ofM (IA1.out _ wq (K_W.out.below (HQ.out _ hB.1)).reads)
                      obtain ⟨qy1o, qy1c, rfl⟩ := hu
                      repeat (refine gs_plain rfl (fun K hK => ?_); go_simp; refine hK _ ?_; clear hK K)
                      refine gs_end (fun wz hz => ?_)
                      have RU := (hz.2 _ (List.mem_cons_self ..)) _ _ _ _ _ rfl
                      have bz := HQ.out _ hz.1
                      replace HKJ : Hid (wz.cell? ⟨bb, off + j, none⟩ = some (.int .i64 t)) := later_cell HKJ.out bz
                      clear hz m_W_0 m_W_1 m_W_2 m_W_3 m_W_4 m_t HQ HN H0 hne
                      replace K_X : Hid (CpI wz g_X (.slice Xo x.ts.length Xc) x) := K_X.out.below bz
                      replace K_C : Hid (CpI wz g_C (.slice Co c.ts.length Cc) c) := K_C.out.below bz
                      replace K_Z : Hid (CpI wz g_Z (.slice zo z.ts.length zc) z) := K_Z.out.below bz
                      replace K_W : Hid (CpI wz g_W (.slice (some ⟨bb, off, none⟩) y.ts.length Wc) y) := K_W.out.below bz
                      replace HB : Hid (Below w.heap.size w wz) := HB.out.trans (bz.mono HB.out.size)
                      clear bz
                      refine last_putL Try.isCp rfl rfl _ _ rfl g_Z (cpA (.slice qy1o y1.ts.length qy1c) y1) (cpA (.slice zo z.ts.length zc) z) rfl rfl rfl rfl (cpA_one _ rfl) K_Z.out.1 ?_
                      intro y33 sN gN
                      have K_Q : Hid (CpI y33 g_Z (.slice qy1o y1.ts.length qy1c) y1) := ⟨sN, RU.putBy K_Z.out.1 (by decide) gN⟩
                      replace K_X : Hid (CpI y33 g_X (.slice Xo x.ts.length Xc) x) := K_X.out.kept K_Z.out.1 gN HNE.out.1
                      replace K_C : Hid (CpI y33 g_C (.slice Co c.ts.length Cc) c) := K_C.out.kept K_Z.out.1 gN HNE.out.2.1
                      replace K_W : Hid (CpI y33 g_W (.slice (some ⟨bb, off, none⟩) y.ts.length Wc) y) := K_W.out.kept K_Z.out.1 gN HN_W_Z.out
                      replace HKJ : Hid (y33.cell? ⟨bb, off + j, none⟩ = some (.int .i64 t)) := by
                        obtain ⟨b2, o2, e2, -, -, k2⟩ := K_W.out.at j HTT.out.1
                        cases e2
                        rw [← HTT.out.2] at k2
                        exact k2
                      replace HB : Hid (Below w.heap.size w y33) := bel_put HB.out gN HNE.out.2.2
                      clear K_Z sN gN RU
                      have K_Z : Hid (CpI y33 g_Z (.slice qy1o y1.ts.length qy1c) y1) := K_Q.out
                      clear K_Q
                      go_upto_region 23 with fail
                      obtain ⟨C, hCd⟩ : ∃ C, C = fun x => Below y33.heap.size y33 x := ⟨_, rfl⟩
                      have HQ : Hid (∀ x, C x → Below y33.heap.size y33 x) := by rw [hCd]; exact fun _ h => h
                      have HN : Hid (∀ x y, C x → Later x y → C y) := by rw [hCd]; exact fun _ _ h b => h.trans (b.mono h.size)
                      have H0 : Hid (C y33.drew) := by rw [hCd]; exact (Below.refl _ _).drew
                      have hne : Nonempty (Kin C) := ⟨⟨_, H0.out⟩⟩
                      have m_Z_0 : ∀ q : Kin C, q.x.cell? ⟨g_Z, 0, none⟩ = some (.int .i64 y1.tr) := fun q => later_cell (K_Z.out.cell 0 rfl) (HQ.out _ q.h)
                      have m_Z_1 : ∀ q : Kin C, q.x.cell? ⟨g_Z, 1, none⟩ = some (.bool y1.op) := fun q => later_cell (K_Z.out.cell 1 rfl) (HQ.out _ q.h)
                      have m_Z_2 : ∀ q : Kin C, q.x.cell? ⟨g_Z, 2, none⟩ = some (.int .i64 y1.di) := fun q => later_cell (K_Z.out.cell 2 rfl) (HQ.out _ q.h)
                      have m_Z_3 : ∀ q : Kin C, q.x.cell? ⟨g_Z, 3, none⟩ = some (.int .i64 y1.wa) := fun q => later_cell (K_Z.out.cell 3 rfl) (HQ.out _ q.h)
                      have m_Z_4 : ∀ q : Kin C, q.x.cell? ⟨g_Z, 4, none⟩ = some (.slice qy1o y1.ts.length qy1c) := fun q => later_cell (K_Z.out.cell 4 rfl) (HQ.out _ q.h)
                      have m_W_0 : ∀ q : Kin C, q.x.cell? ⟨g_W, 0, none⟩ = some (.int .i64 y.tr) := fun q => later_cell (K_W.out.cell 0 rfl) (HQ.out _ q.h)
                      have m_W_1 : ∀ q : Kin C, q.x.cell? ⟨g_W, 1, none⟩ = some (.bool y.op) := fun q => later_cell (K_W.out.cell 1 rfl) (HQ.out _ q.h)
                      have m_W_2 : ∀ q : Kin C, q.x.cell? ⟨g_W, 2, none⟩ = some (.int .i64 y.di) := fun q => later_cell (K_W.out.cell 2 rfl) (HQ.out _ q.h)
                      have m_W_3 : ∀ q : Kin C, q.x.cell? ⟨g_W, 3, none⟩ = some (.int .i64 y.wa) := fun q => later_cell (K_W.out.cell 3 rfl) (HQ.out _ q.h)
                      have m_W_4 : ∀ q : Kin C, q.x.cell? ⟨g_W, 4, none⟩ = some (.slice (some ⟨bb, off, none⟩) y.ts.length Wc) := fun q => later_cell (K_W.out.cell 4 rfl) (HQ.out _ q.h)
                      have m_t : ∀ q : Kin C, q.x.cell? ⟨bb, off + j, none⟩ = some (.int .i64 t) := fun q => later_cell HKJ.out (HQ.out _ q.h)
                      clear hCd
                      refine wp_region_gs_last (C := C) (E := byDst fun d => if d = 127 then some (cpG y2) else none) (R := Later) HN.out (byDst_later (by intro d s hs u x y hx hl; split at hs; (cases hs; exact cpG_later hx hl); cases hs)) (byDst_looks _ _) (by kernel_rfl) (by kernel_rfl) (by kernel_rfl) (by simp) H0.out ?_
                      dsimp only [List.dropLast]
                      repeat (refine gs_plain rfl (fun K hK => ?_); go_simp; refine hK _ ?_; clear hK K)
                      refine gs_call (cpG y2) rfl (by first | rfl | kernel_rfl) (fun wq hB => ?_) (fun uq hu => ?_)
                      · go_simp
                        refine ⟨rfl, ?_⟩
                        exact cpG_ofM (IA2.out _ wq (K_Z.out.below (HQ.out _ hB.1)).reads)
                      obtain ⟨qy2o, qy2c, rfl⟩ := hu
                      repeat (refine gs_plain rfl (fun K hK => ?_); go_simp; refine hK _ ?_; clear hK K)
                      refine gs_end (fun wz hz => ?_)
                      have RU := (hz.2 _ (List.mem_cons_self ..)) _ _ _ _ _ rfl
                      have bz := HQ.out _ hz.1
                      replace HKJ : Hid (wz.cell? ⟨bb, off + j, none⟩ = some (.int .i64 t)) := later_cell HKJ.out bz
                      clear hz m_Z_0 m_Z_1 m_Z_2 m_Z_3 m_Z_4 m_W_0 m_W_1 m_W_2 m_W_3 m_W_4 m_t HQ HN H0 hne
                      replace K_X : Hid (CpI wz g_X (.slice Xo x.ts.length Xc) x) := K_X.out.below bz
                      replace K_C : Hid (CpI wz g_C (.slice Co c.ts.length Cc) c) := K_C.out.below bz
                      replace K_Z : Hid (CpI wz g_Z (.slice qy1o y1.ts.length qy1c) y1) := K_Z.out.below bz
                      replace K_W : Hid (CpI wz g_W (.slice (some ⟨bb, off, none⟩) y.ts.length Wc) y) := K_W.out.below bz
                      replace HB : Hid (Below w.heap.size w wz) := HB.out.trans (bz.mono HB.out.size)
                      clear bz
                      refine last_putL Try.isCp rfl rfl _ _ rfl g_Z (cpA (.slice qy2o y2.ts.length qy2c) y2) (cpA (.slice qy1o y1.ts.length qy1c) y1) rfl rfl rfl rfl (cpA_one _ rfl) K_Z.out.1 ?_
                      intro y34 sN gN
                      have K_Q : Hid (CpI y34 g_Z (.slice qy2o y2.ts.length qy2c) y2) := ⟨sN, RU.putBy K_Z.out.1 (by decide) gN⟩
                      replace K_X : Hid (CpI y34 g_X (.slice Xo x.ts.length Xc) x) := K_X.out.kept K_Z.out.1 gN HNE.out.1
                      replace K_C : Hid (CpI y34 g_C (.slice Co c.ts.length Cc) c) := K_C.out.kept K_Z.out.1 gN HNE.out.2.1
                      replace K_W : Hid (CpI y34 g_W (.slice (some ⟨bb, off, none⟩) y.ts.length Wc) y) := K_W.out.kept K_Z.out.1 gN HN_W_Z.out
                      replace HKJ : Hid (y34.cell? ⟨bb, off + j, none⟩ = some (.int .i64 t)) := by
                        obtain ⟨b2, o2, e2, -, -, k2⟩ := K_W.out.at j HTT.out.1
                        cases e2
                        rw [← HTT.out.2] at k2
                        exact k2
                      replace HB : Hid (Below w.heap.size w y34) := bel_put HB.out gN HNE.out.2.2
                      clear K_Z sN gN RU
                      have K_Z : Hid (CpI y34 g_Z (.slice qy2o y2.ts.length qy2c) y2) := K_Q.out
                      clear K_Q
                      clear IA1 IA2 HKJ K_W HN_W_Z HTT
                      go_wp2
                      go_roundw
                      case rel => exact ⟨k + 1, _, _, y2, by go_num, K_Z.out, HZJ.out, K_X.out, K_C.out, HB.out⟩
                      case measure => simp [intOf]; omega

set_option maxRecDepth 100000 in
theorem lifted (os : Os) (started : os.Started) (H : Type) (enc : TypeId × Value → H) :
    ReturnsInHanded {} Try.checked os 4 .any (Rows.fnCleanSpec.pre6 enc Try.prog Try.f4 Rows.fnCleanRow.domain false) (Rows.fnCleanSpec.post enc Try.prog Try.f4 false true false false) := by
  refine returnsInHanded_of_change (C := Try.checked) own started (by kernel_rfl) Try.func4
    (ChangeSpec.witness6 (enc := enc) (C := Try.checked) false ⟨#[], #[.slice none 0 0], []⟩ 8 (by kernel_rfl) (by kernel_rfl) (by kernel_rfl) (by kernel_rfl)) ?_
  intro W base args ds gs before hval0 hW hcnd _
  have hval : ∀ (j : Nat) t v, Try.f4.params[j]? = some t → args[j]? = some v → Value.okWide Try.prog W .any base t v := hval0
  have hW' := hW
  obtain ⟨p, q, hA0, hV, rfl, hfz, hnd⟩ := hW
  have hA : DataW.TrodAll enc Try.prog W 0 (fun _ => true) true Try.f4.params.toList args.toList ds p := hA0
  rw [Try.params4] at hA hval
  obtain ⟨v0, vs0, d0, ds0, p0, q0, hargs, rfl, rfl, h0, r0⟩ := trodAll_cons hA
  obtain ⟨rfl, rfl, rfl⟩ := trodAll_nil r0
  obtain rfl : args = #[v0] := by cases args; simp_all
  obtain ⟨rfl, rfl⟩ := trodVars_none hV
  obtain ⟨a0, len0, cap0, rfl⟩ := okWide_slice Try.underlying22 (hval 0 22 v0 rfl rfl)
  have k0 := h0
  have lt0 : ∀ x ∈ p0, x.block < W.heap.size := by obtain ⟨m, hm⟩ := k0; exact DataW.trod_lt m _ _ _ hm
  obtain ⟨z0, w0⟩ : ∃ zs, IsRow .u8 W a0 len0 cap0 zs := by
    obtain ⟨fuel, hf⟩ := h0
    rcases open_ints Try.underlying22 Try.underlying5 (by kernel_rfl) hf with ⟨hcs, _⟩ | ⟨x, l, c, zs, hcs, _, hl, hm, hz, _, hcell, hwz⟩
    · simp [Value.cells] at hcs
      obtain ⟨rfl, rfl, rfl⟩ := hcs
      exact ⟨[], .inl ⟨rfl, rfl, rfl, rfl⟩⟩
    · simp [Value.cells] at hcs
      obtain ⟨rfl, rfl, rfl⟩ := hcs
      exact ⟨zs, .inr ⟨_, rfl, hl, hm, by simpa using hz, hcell, hwz⟩⟩
  clear hA0 hval0
  refine (walk a0 len0 cap0 z0 W w0).mono fun e W' ⟨he, bel⟩ => ?_
  subst he
  exact ⟨_, rfl, _, _, _, [], _, [], hW', trodAll_mk1 (shut_bool Try.underlying4 _), (trodAll_cons_mk (Below.trod laidOut (by kernel_rfl) (of_decide_eq_true (by kernel_rfl)) k0 bel lt0) trodAll_mk0), rfl, bel.frame _, fun h => by cases h⟩

theorem over : Rows.fnCleanRow.holds Try.pinned (OpenSpec.ofChange Rows.fnCleanSpec) :=
  OpenClaim.holds_of_wide 4 Try.f4 rfl rfl rfl rfl rfl rfl rfl ⟨rfl, rfl, rfl, rfl, rfl⟩ rfl rfl rfl rfl rfl (by kernel_rfl) Try.func4 (by kernel_rfl)
    (of_decide_eq_true (by kernel_rfl)) (by unfold Func.isWrapper; first | (rw [if_pos (by decide +kernel)]; kernel_rfl) | (rw [if_neg (by decide +kernel)]; exact ⟨rfl, rfl⟩))
    (fun os started H enc _ => lifted os started H enc)

theorem proved : Rows.FnCleanSaid := over
end Go.Proofs.Ytelfpdjidppblaa.fnClean
namespace Go.Proofs.Ytelfpdjidppblaa
theorem fnClean_holds : Rows.FnCleanSaid := fnClean.proved
end Go.Proofs.Ytelfpdjidppblaa
