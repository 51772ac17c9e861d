/- At every list of bytes the law FnSink returns true: turns never go back, and what was received is not received again; and the program answers as the model. -/
import Derived.Test.YtdcdfhklnhaimaaRows
import Derived.WalkKit
import Derived.ProofKit
import Derived.OpenShut
import Derived.ShutString
import Derived.ChangeOld
import Derived.Below
import Derived.Test.YtdcdfhklnhaimaaGivS
import Derived.Test.YtdcdfhklnhaimaaDrawSink2
import Derived.Test.YtdcdfhklnhaimaaSnkGiv
import Derived.Test.YtdcdfhklnhaimaaLSink
import Derived.Test.YtdcdfhklnhaimaaISink
namespace Go.Proofs.Ytdcdfhklnhaimaa.fnSink
open Go.ChangeShapes Go.WideShapes Go.ChangeAt Go.RowKit
open Go.ChangeMaps (open_string shut_string)
set_option linter.unusedVariables false

theorem own : ownKnob Try.prog.godebug = none := by kernel_rfl
theorem laidOut : laidOutB Try.prog = true := by kernel_rfl

def IsRow (k : IntKind) (w : World) (a : Option Addr) (len cap : Nat) (zs : List Int) : Prop :=
  (a = none ∧ len = 0 ∧ cap = 0 ∧ zs = []) ∨
  ∃ x, a = some x ∧ len ≤ cap ∧ cap ≤ maxLen ∧ zs.length = cap ∧ (∀ i, i < zs.length → w.cell? (x.add i) = some (.int k (zs.getD i 0))) ∧ ∀ n ∈ zs, (Lit.int k n).wf = true

set_option maxRecDepth 20000 in
set_option maxHeartbeats 20000000 in
theorem walk (a0 : Option Addr) (len0 cap0 : Nat) (z0 : List Int) (w : World) (w0 : IsRow .u8 w a0 len0 cap0 z0) :
    Calls Try.prog 3 #[.slice a0 len0 cap0] w fun e w' => e = .returned (.bool true) ∧ Below w.heap.size w w' := by
  by_cases hbig : (4096 : Int) < (len0 : Int)
  · go_enter Try.func3, Try.ntmps3
    go_wp2_with (go_at_call 8; refine (big_any _ _ _ _).mono ?_; rintro e w' ⟨rfl, hw'⟩; subst w')
    go_ret
    exact ⟨rfl, Below.refl _ _⟩
  · have HC : Hid (CodeOk w w.heap.size (.slice a0 len0 cap0)) := codeOk_row w0 (by omega)
    have HB : Hid (Below w.heap.size w w) := Below.refl _ _
    clear w0
    go_enter Try.func3, Try.ntmps3
    go_wp2_with fail
    refine (big_any _ _ _ _).mono ?_
    rintro e w' ⟨rfl, hw'⟩; subst w'
    go_wp2_with fail
    refine (drawReceived_any w.heap.size _ _ (HC.out.below HB.out) HB.out.size).mono ?_
    rintro e y1 ⟨_, c, t, i, n, rfl, oq, hlc, bq⟩
    replace HB : Hid (Below w.heap.size w y1) := HB.out.trans (bq.mono HB.out.size)
    obtain ⟨Co, Cc, rfl⟩ := reads_form oq.reads
    obtain ⟨y2, hy2⟩ : ∃ y2, y2 = y1.alloc (.cells (snA (.slice Co c.ts.length Cc) c) 26) := ⟨_, rfl⟩
    have by2 : Below y1.heap.size y1 y2 := by rw [hy2]; exact (Below.refl _ _).alloc (Nat.le_refl _) _
    have K_C : Hid (SnI y2 y1.heap.size (.slice Co c.ts.length Cc) c) := by rw [hy2]; first | exact SnI.new oq | exact SnI.new oq.mine
    clear oq bq
    replace HB : Hid (Below w.heap.size w y2) := HB.out.trans (by2.mono HB.out.size)
    clear by2
    unfold snA at hy2
    try unfold SnV snA
    go_upto_region 4 with fail
    rw [← hy2]
    clear hy2
    obtain ⟨g_C, hg_C⟩ : ∃ g_C, g_C = y1.heap.size := ⟨_, rfl⟩
    rw [← hg_C] at K_C ⊢
    clear hg_C
    have gc : c.ts.length ≤ 1099511627776 := by omega
    obtain ⟨x, h_x⟩ : ∃ x, x = c.Got t i n := ⟨_, rfl⟩
    obtain ⟨is, h_is⟩ : ∃ is, is = c.Is t i n := ⟨_, rfl⟩
    obtain ⟨f, h_f⟩ : ∃ f, f = c.Fits t i n := ⟨_, rfl⟩
    obtain ⟨okc, h_okc⟩ : ∃ okc, okc = c.ok := ⟨_, rfl⟩
    have gx : x.ts.length ≤ 1099511627776 := by rw [h_x]; have := Sn.Got_len c t i n; omega
    have IGo' := fun v wx h => igot_any v c t i n wx h gc
    simp only [← h_x, ← h_is] at IGo'
    unfold SnV snA at IGo'
    have IGo : Hid _ := IGo'
    clear IGo'
    have SGo' := fun v wx h => sgot_any v c t i n wx h gc
    simp only [← h_x, ← h_is] at SGo'
    unfold SnV snA at SGo'
    have SGo : Hid _ := SGo'
    clear SGo'
    have IFt' := fun v wx h => iFits_any v c t i n wx h gc
    simp only [← h_f] at IFt'
    unfold SnV snA at IFt'
    have IFt : Hid _ := IFt'
    clear IFt'
    have SFt' := fun v wx h => sFits_any v c t i n wx h gc
    simp only [← h_f] at SFt'
    unfold SnV snA at SFt'
    have SFt : Hid _ := SFt'
    clear SFt'
    have IOc' := fun v wx h => isinkok_any v c wx h gc
    simp only [← h_okc] at IOc'
    unfold SnV snA at IOc'
    have IOc : Hid _ := IOc'
    clear IOc'
    have SOc' := fun v wx h => ssinkok_any v c wx h gc
    simp only [← h_okc] at SOc'
    unfold SnV snA at SOc'
    have SOc : Hid _ := SOc'
    clear SOc'
    have LX' := fun u v wx hu hv => likeK_any u v x wx hu hv gx
    unfold SnV snA at LX'
    have LX : Hid _ := LX'
    clear LX'
    have H_x : Hid (x = c.Got t i n) := h_x
    clear h_x
    have H_is : Hid (is = c.Is t i n) := h_is
    clear h_is
    have H_f : Hid (f = c.Fits t i n) := h_f
    clear h_f
    have H_okc : Hid (okc = c.ok) := h_okc
    clear h_okc
    have p_C_0 : y2.cell? ⟨g_C, 0, none⟩ = some (.int .i64 c.tr) := K_C.out.cell 0 rfl
    have p_C_1 : y2.cell? ⟨g_C, 1, none⟩ = some (.slice Co c.ts.length Cc) := K_C.out.cell 1 rfl
    go_wp2_with fail
    clear p_C_0 p_C_1
    refine (IGo.out _ _ K_C.out.reads).mono ?_
    rintro e y4 ⟨_, rfl, oq, bq⟩
    replace K_C : Hid (SnI y4 g_C (.slice Co c.ts.length Cc) c) := K_C.out.below bq
    replace HB : Hid (Below w.heap.size w y4) := HB.out.trans (bq.mono HB.out.size)
    obtain ⟨Xo, Xc, rfl⟩ := reads_form oq.reads
    obtain ⟨y5, hy5⟩ : ∃ y5, y5 = y4.alloc (.cells (snA (.slice Xo x.ts.length Xc) x) 26) := ⟨_, rfl⟩
    have by5 : Below y4.heap.size y4 y5 := by rw [hy5]; exact (Below.refl _ _).alloc (Nat.le_refl _) _
    have K_X : Hid (SnI y5 y4.heap.size (.slice Xo x.ts.length Xc) x) := by rw [hy5]; first | exact SnI.new oq | exact SnI.new oq.mine
    clear oq bq
    replace K_C : Hid (SnI y5 g_C (.slice Co c.ts.length Cc) c) := K_C.out.below by5
    replace HB : Hid (Below w.heap.size w y5) := HB.out.trans (by5.mono HB.out.size)
    clear by5
    unfold snA at hy5
    try unfold SnV snA
    go_upto_region 5 with fail
    rw [← hy5]
    clear hy5
    obtain ⟨g_X, hg_X⟩ : ∃ g_X, g_X = y4.heap.size := ⟨_, rfl⟩
    rw [← hg_X] at K_X ⊢
    clear hg_X
    have p_C_0 : y5.cell? ⟨g_C, 0, none⟩ = some (.int .i64 c.tr) := K_C.out.cell 0 rfl
    have p_C_1 : y5.cell? ⟨g_C, 1, none⟩ = some (.slice Co c.ts.length Cc) := K_C.out.cell 1 rfl
    go_wp2_with fail
    clear p_C_0 p_C_1
    refine (IFt.out _ _ K_C.out.reads).mono ?_
    rintro e y7 ⟨rfl, bq⟩
    replace K_C : Hid (SnI y7 g_C (.slice Co c.ts.length Cc) c) := K_C.out.below bq
    replace K_X : Hid (SnI y7 g_X (.slice Xo x.ts.length Xc) x) := K_X.out.below bq
    replace HB : Hid (Below w.heap.size w y7) := HB.out.trans (bq.mono HB.out.size)
    clear bq
    go_wp2_with fail
    refine (drawNewSink_any w.heap.size _ _ (HC.out.below HB.out) HB.out.size).mono ?_
    rintro e y8 ⟨n2, t2, rfl, bq⟩
    replace K_C : Hid (SnI y8 g_C (.slice Co c.ts.length Cc) c) := K_C.out.below bq
    replace K_X : Hid (SnI y8 g_X (.slice Xo x.ts.length Xc) x) := K_X.out.below bq
    replace HB : Hid (Below w.heap.size w y8) := HB.out.trans (bq.mono HB.out.size)
    clear bq
    obtain ⟨z, h_z⟩ : ∃ z, z = Sn.new n2 t2 := ⟨_, rfl⟩
    obtain ⟨m, h_m⟩ : ∃ m, m = Cp.made n2 t2 := ⟨_, rfl⟩
    have gz : z.ts.length ≤ 1099511627776 := by rw [h_z]; have := Sn.new_len n2 t2; omega
    have INz' := fun wx => inewS_any n2 t2 wx
    simp only [← h_z, ← h_m] at INz'
    unfold SnV snA at INz'
    have INz : Hid _ := INz'
    clear INz'
    have SNz' := fun wx => snewS_any n2 t2 wx
    simp only [← h_z, ← h_m] at SNz'
    unfold SnV snA at SNz'
    have SNz : Hid _ := SNz'
    clear SNz'
    have IOz' := fun v wx h => isinkok_any v z wx h gz
    unfold SnV snA at IOz'
    have IOz : Hid _ := IOz'
    clear IOz'
    have LZ' := fun u v wx hu hv => likeK_any u v z wx hu hv gz
    unfold SnV snA at LZ'
    have LZ : Hid _ := LZ'
    clear LZ'
    have H_z : Hid (z = Sn.new n2 t2) := h_z
    clear h_z
    have H_m : Hid (m = Cp.made n2 t2) := h_m
    clear h_m
    go_wp2_with fail
    refine (INz.out _).mono ?_
    rintro e y9 ⟨_, rfl, oq, bq⟩
    replace K_C : Hid (SnI y9 g_C (.slice Co c.ts.length Cc) c) := K_C.out.below bq
    replace K_X : Hid (SnI y9 g_X (.slice Xo x.ts.length Xc) x) := K_X.out.below bq
    replace HB : Hid (Below w.heap.size w y9) := HB.out.trans (bq.mono HB.out.size)
    obtain ⟨Zo, Zc, rfl⟩ := reads_form oq.reads
    obtain ⟨y10, hy10⟩ : ∃ y10, y10 = y9.alloc (.cells (snA (.slice Zo z.ts.length Zc) z) 26) := ⟨_, rfl⟩
    have by10 : Below y9.heap.size y9 y10 := by rw [hy10]; exact (Below.refl _ _).alloc (Nat.le_refl _) _
    have K_Z : Hid (SnI y10 y9.heap.size (.slice Zo z.ts.length Zc) z) := by rw [hy10]; first | exact SnI.new oq | exact SnI.new oq.mine
    clear oq bq
    replace K_C : Hid (SnI y10 g_C (.slice Co c.ts.length Cc) c) := K_C.out.below by10
    replace K_X : Hid (SnI y10 g_X (.slice Xo x.ts.length Xc) x) := K_X.out.below by10
    replace HB : Hid (Below w.heap.size w y10) := HB.out.trans (by10.mono HB.out.size)
    clear by10
    unfold snA at hy10
    try unfold SnV snA
    go_upto_region 8 with fail
    rw [← hy10]
    clear hy10
    obtain ⟨g_Z, hg_Z⟩ : ∃ g_Z, g_Z = y9.heap.size := ⟨_, rfl⟩
    rw [← hg_Z] at K_Z ⊢
    clear hg_Z
    have p_C_0 : y10.cell? ⟨g_C, 0, none⟩ = some (.int .i64 c.tr) := K_C.out.cell 0 rfl
    have p_C_1 : y10.cell? ⟨g_C, 1, none⟩ = some (.slice Co c.ts.length Cc) := K_C.out.cell 1 rfl
    go_wp2_with fail
    clear p_C_0 p_C_1
    refine (SGo.out _ _ K_C.out.reads).mono ?_
    rintro e y12 ⟨_, rfl, oq, bq⟩
    replace K_C : Hid (SnI y12 g_C (.slice Co c.ts.length Cc) c) := K_C.out.below bq
    replace K_X : Hid (SnI y12 g_X (.slice Xo x.ts.length Xc) x) := K_X.out.below bq
    replace K_Z : Hid (SnI y12 g_Z (.slice Zo z.ts.length Zc) z) := K_Z.out.below bq
    replace HB : Hid (Below w.heap.size w y12) := HB.out.trans (bq.mono HB.out.size)
    obtain ⟨Uo, Uc, rfl⟩ := reads_form oq.reads
    obtain ⟨y13, hy13⟩ : ∃ y13, y13 = y12.alloc (.cells (snA (.slice Uo x.ts.length Uc) x) 26) := ⟨_, rfl⟩
    have by13 : Below y12.heap.size y12 y13 := by rw [hy13]; exact (Below.refl _ _).alloc (Nat.le_refl _) _
    have K_U : Hid (SnI y13 y12.heap.size (.slice Uo x.ts.length Uc) x) := by rw [hy13]; first | exact SnI.new oq | exact SnI.new oq.mine
    clear oq bq
    replace K_C : Hid (SnI y13 g_C (.slice Co c.ts.length Cc) c) := K_C.out.below by13
    replace K_X : Hid (SnI y13 g_X (.slice Xo x.ts.length Xc) x) := K_X.out.below by13
    replace K_Z : Hid (SnI y13 g_Z (.slice Zo z.ts.length Zc) z) := K_Z.out.below by13
    replace HB : Hid (Below w.heap.size w y13) := HB.out.trans (by13.mono HB.out.size)
    clear by13
    unfold snA at hy13
    try unfold SnV snA
    go_upto_region 9 with fail
    rw [← hy13]
    clear hy13
    obtain ⟨g_U, hg_U⟩ : ∃ g_U, g_U = y12.heap.size := ⟨_, rfl⟩
    rw [← hg_U] at K_U ⊢
    clear hg_U
    have hii : (is != is) = false := by simp
    have hff : (f != f) = false := by simp
    have hoo : (okc != okc) = false := by simp
    go_cut [86] (fun t wx => t = .bool false ∧ Hid (SnI wx g_C (.slice Co c.ts.length Cc) c ∧ SnI wx g_X (.slice Xo x.ts.length Xc) x ∧ SnI wx g_Z (.slice Zo z.ts.length Zc) z ∧ SnI wx g_U (.slice Uo x.ts.length Uc) x ∧ Below w.heap.size w wx))
    case first =>
      as_aux_lemma =>
        obtain ⟨C, hCd⟩ : ∃ C, C = fun x => Below y13.heap.size y13 x := ⟨_, rfl⟩
        have HQ : Hid (∀ x, C x → Below y13.heap.size y13 x) := by rw [hCd]; exact fun _ h => h
        have HN : Hid (∀ x y, C x → Later x y → C y) := by rw [hCd]; exact fun _ _ h b => h.trans (b.mono h.size)
        have H0 : Hid (C y13.drew) := by rw [hCd]; exact (Below.refl _ _).drew
        have hne : Nonempty (Kin C) := ⟨⟨_, H0.out⟩⟩
        have m_X_0 : ∀ q : Kin C, q.x.cell? ⟨g_X, 0, none⟩ = some (.int .i64 x.tr) := fun q => later_cell (K_X.out.cell 0 rfl) (HQ.out _ q.h)
        have m_X_1 : ∀ q : Kin C, q.x.cell? ⟨g_X, 1, none⟩ = some (.slice Xo x.ts.length Xc) := fun q => later_cell (K_X.out.cell 1 rfl) (HQ.out _ q.h)
        have m_U_0 : ∀ q : Kin C, q.x.cell? ⟨g_U, 0, none⟩ = some (.int .i64 x.tr) := fun q => later_cell (K_U.out.cell 0 rfl) (HQ.out _ q.h)
        have m_U_1 : ∀ q : Kin C, q.x.cell? ⟨g_U, 1, none⟩ = some (.slice Uo x.ts.length Uc) := fun q => later_cell (K_U.out.cell 1 rfl) (HQ.out _ q.h)
        have m_C_0 : ∀ q : Kin C, q.x.cell? ⟨g_C, 0, none⟩ = some (.int .i64 c.tr) := fun q => later_cell (K_C.out.cell 0 rfl) (HQ.out _ q.h)
        have m_C_1 : ∀ q : Kin C, q.x.cell? ⟨g_C, 1, none⟩ = some (.slice Co c.ts.length Cc) := fun q => later_cell (K_C.out.cell 1 rfl) (HQ.out _ q.h)
        clear hCd
        refine wp_region_gs (C := C) (E := byDst fun d => if d = 68 then some (truth true) else if d = 77 then some (truth f) else if d = 82 then some (truth okc) else if d = 84 then some (truth okc) else none) (R := Later) HN.out (byDst_later (by intro d s hs u x y hx hl; split at hs; (cases hs; exact truthC_later hx hl); split at hs; (cases hs; exact truthC_later hx hl); split at hs; (cases hs; exact truthC_later hx hl); split at hs; (cases hs; exact truthC_later hx hl); cases hs)) (byDst_looks _ _) (by kernel_rfl) (by kernel_rfl) H0.out ?_
        repeat (refine gs_plain rfl (fun K hK => ?_); go_simp; refine hK _ ?_; clear hK K)
        refine gs_call (truth true) rfl (by first | rfl | kernel_rfl) (fun wq hB => ?_) (fun uq hu => ?_)
        · go_simp
          refine ⟨rfl, ?_⟩
          exact truth_of (fun _ h => h) (LX.out _ _ wq (K_X.out.below (HQ.out _ hB.1)).reads (K_U.out.below (HQ.out _ hB.1)).reads)
        obtain rfl : uq = .bool true := hu
        repeat (refine gs_plain rfl (fun K hK => ?_); go_simp; refine hK _ ?_; clear hK K)
        refine gs_call (truth f) rfl (by first | rfl | kernel_rfl) (fun wq hB => ?_) (fun uq hu => ?_)
        · go_simp
          refine ⟨rfl, ?_⟩
          exact truth_of (fun _ h => h) (SFt.out _ wq (K_C.out.below (HQ.out _ hB.1)).reads)
        obtain rfl : uq = .bool f := hu
        repeat (refine gs_plain rfl (fun K hK => ?_); go_simp; refine hK _ ?_; clear hK K)
        refine gs_call (truth okc) rfl (by first | rfl | kernel_rfl) (fun wq hB => ?_) (fun uq hu => ?_)
        · go_simp
          refine ⟨rfl, ?_⟩
          exact truth_of (fun _ h => h) (IOc.out _ wq (K_C.out.below (HQ.out _ hB.1)).reads)
        obtain rfl : uq = .bool okc := hu
        repeat (refine gs_plain rfl (fun K hK => ?_); go_simp; refine hK _ ?_; clear hK K)
        refine gs_call (truth okc) rfl (by first | rfl | kernel_rfl) (fun wq hB => ?_) (fun uq hu => ?_)
        · go_simp
          refine ⟨rfl, ?_⟩
          exact truth_of (fun _ h => h) (SOc.out _ wq (K_C.out.below (HQ.out _ hB.1)).reads)
        obtain rfl : uq = .bool okc := hu
        repeat (refine gs_plain rfl (fun K hK => ?_); go_simp; refine hK _ ?_; clear hK K)
        refine gs_end (fun y15 hz => ?_)
        have bz := HQ.out _ hz.1
        clear hz m_X_0 m_X_1 m_U_0 m_U_1 m_C_0 m_C_1 HQ HN H0 hne
        replace K_C : Hid (SnI y15 g_C (.slice Co c.ts.length Cc) c) := K_C.out.below bz
        replace K_X : Hid (SnI y15 g_X (.slice Xo x.ts.length Xc) x) := K_X.out.below bz
        replace K_Z : Hid (SnI y15 g_Z (.slice Zo z.ts.length Zc) z) := K_Z.out.below bz
        replace K_U : Hid (SnI y15 g_U (.slice Uo x.ts.length Uc) x) := K_U.out.below bz
        replace HB : Hid (Below w.heap.size w y15) := HB.out.trans (bz.mono HB.out.size)
        clear bz
        go_wp2_with fail
        go_meet
        exact ⟨rfl, K_C.out, K_X.out, K_Z.out, K_U.out, HB.out⟩
    case rest =>
      as_aux_lemma =>
        clear HB K_C K_X K_Z K_U
        obtain ⟨rfl, HX⟩ := hcut
        obtain ⟨y16, hy16⟩ : ∃ y16, y16 = wc := ⟨_, rfl⟩
        rw [← hy16] at HX ⊢
        clear hy16
        have K_C : Hid (SnI y16 g_C (.slice Co c.ts.length Cc) c) := HX.out.1
        have K_X : Hid (SnI y16 g_X (.slice Xo x.ts.length Xc) x) := HX.out.2.1
        have K_Z : Hid (SnI y16 g_Z (.slice Zo z.ts.length Zc) z) := HX.out.2.2.1
        have K_U : Hid (SnI y16 g_U (.slice Uo x.ts.length Uc) x) := HX.out.2.2.2.1
        have HB : Hid (Below w.heap.size w y16) := HX.out.2.2.2.2
        clear HX
        clear SFt IOc SGo IGo IFt hii hff hoo K_U
        go_wp2_with fail
        refine (SNz.out _).mono ?_
        rintro e y17 ⟨_, rfl, oq, bq⟩
        replace K_C : Hid (SnI y17 g_C (.slice Co c.ts.length Cc) c) := K_C.out.below bq
        replace K_X : Hid (SnI y17 g_X (.slice Xo x.ts.length Xc) x) := K_X.out.below bq
        replace K_Z : Hid (SnI y17 g_Z (.slice Zo z.ts.length Zc) z) := K_Z.out.below bq
        replace HB : Hid (Below w.heap.size w y17) := HB.out.trans (bq.mono HB.out.size)
        obtain ⟨Vo, Vc, rfl⟩ := reads_form oq.reads
        obtain ⟨y18, hy18⟩ : ∃ y18, y18 = y17.alloc (.cells (snA (.slice Vo z.ts.length Vc) z) 26) := ⟨_, rfl⟩
        have by18 : Below y17.heap.size y17 y18 := by rw [hy18]; exact (Below.refl _ _).alloc (Nat.le_refl _) _
        have K_V : Hid (SnI y18 y17.heap.size (.slice Vo z.ts.length Vc) z) := by rw [hy18]; first | exact SnI.new oq | exact SnI.new oq.mine
        clear oq bq
        replace K_C : Hid (SnI y18 g_C (.slice Co c.ts.length Cc) c) := K_C.out.below by18
        replace K_X : Hid (SnI y18 g_X (.slice Xo x.ts.length Xc) x) := K_X.out.below by18
        replace K_Z : Hid (SnI y18 g_Z (.slice Zo z.ts.length Zc) z) := K_Z.out.below by18
        replace HB : Hid (Below w.heap.size w y18) := HB.out.trans (by18.mono HB.out.size)
        clear by18
        unfold snA at hy18
        try unfold SnV snA
        go_upto_region 12 with fail
        rw [← hy18]
        clear hy18
        obtain ⟨g_V, hg_V⟩ : ∃ g_V, g_V = y17.heap.size := ⟨_, rfl⟩
        rw [← hg_V] at K_V ⊢
        clear hg_V
        go_cut [109] (fun t wx => t = .bool false ∧ Hid (SnI wx g_C (.slice Co c.ts.length Cc) c ∧ SnI wx g_X (.slice Xo x.ts.length Xc) x ∧ SnI wx g_Z (.slice Zo z.ts.length Zc) z ∧ SnI wx g_V (.slice Vo z.ts.length Vc) z ∧ Below w.heap.size w wx))
        case first =>
          as_aux_lemma =>
            have hmm : (m != m) = false := by simp
            have p_Z_0 : y18.cell? ⟨g_Z, 0, none⟩ = some (.int .i64 z.tr) := K_Z.out.cell 0 rfl
            have p_Z_1 : y18.cell? ⟨g_Z, 1, none⟩ = some (.slice Zo z.ts.length Zc) := K_Z.out.cell 1 rfl
            have p_V_0 : y18.cell? ⟨g_V, 0, none⟩ = some (.int .i64 z.tr) := K_V.out.cell 0 rfl
            have p_V_1 : y18.cell? ⟨g_V, 1, none⟩ = some (.slice Vo z.ts.length Vc) := K_V.out.cell 1 rfl
            go_wp2_with fail
            clear p_Z_0 p_Z_1 p_V_0 p_V_1
            refine (LZ.out _ _ _ K_Z.out.reads K_V.out.reads).mono ?_
            rintro e y20 ⟨rfl, bq⟩
            replace K_C : Hid (SnI y20 g_C (.slice Co c.ts.length Cc) c) := K_C.out.below bq
            replace K_X : Hid (SnI y20 g_X (.slice Xo x.ts.length Xc) x) := K_X.out.below bq
            replace K_Z : Hid (SnI y20 g_Z (.slice Zo z.ts.length Zc) z) := K_Z.out.below bq
            replace K_V : Hid (SnI y20 g_V (.slice Vo z.ts.length Vc) z) := K_V.out.below bq
            replace HB : Hid (Below w.heap.size w y20) := HB.out.trans (bq.mono HB.out.size)
            clear bq
            cases m with
            | false =>
              go_wp2_with fail
              go_meet
              exact ⟨rfl, K_C.out, K_X.out, K_Z.out, K_V.out, HB.out⟩
            | true =>
              have e : z.ok = true := by rw [H_z.out]; exact Sn.new_ok H_m.out.symm
              have IOt := IOz.out
              rw [e] at IOt
              have JO : Hid _ := IOt
              clear e IOt
              have p_Z_0 : y20.cell? ⟨g_Z, 0, none⟩ = some (.int .i64 z.tr) := K_Z.out.cell 0 rfl
              have p_Z_1 : y20.cell? ⟨g_Z, 1, none⟩ = some (.slice Zo z.ts.length Zc) := K_Z.out.cell 1 rfl
              go_wp2_with fail
              clear p_Z_0 p_Z_1
              refine (JO.out _ _ K_Z.out.reads).mono ?_
              rintro e y21 ⟨rfl, bq⟩
              replace K_C : Hid (SnI y21 g_C (.slice Co c.ts.length Cc) c) := K_C.out.below bq
              replace K_X : Hid (SnI y21 g_X (.slice Xo x.ts.length Xc) x) := K_X.out.below bq
              replace K_Z : Hid (SnI y21 g_Z (.slice Zo z.ts.length Zc) z) := K_Z.out.below bq
              replace K_V : Hid (SnI y21 g_V (.slice Vo z.ts.length Vc) z) := K_V.out.below bq
              replace HB : Hid (Below w.heap.size w y21) := HB.out.trans (bq.mono HB.out.size)
              clear bq
              go_wp2_with fail
              go_meet
              exact ⟨rfl, K_C.out, K_X.out, K_Z.out, K_V.out, HB.out⟩
        case rest =>
          as_aux_lemma =>
            clear HB K_C K_X K_Z K_V
            obtain ⟨rfl, HX⟩ := hcut
            obtain ⟨y22, hy22⟩ : ∃ y22, y22 = wc := ⟨_, rfl⟩
            rw [← hy22] at HX ⊢
            clear hy22
            have K_C : Hid (SnI y22 g_C (.slice Co c.ts.length Cc) c) := HX.out.1
            have K_X : Hid (SnI y22 g_X (.slice Xo x.ts.length Xc) x) := HX.out.2.1
            have K_Z : Hid (SnI y22 g_Z (.slice Zo z.ts.length Zc) z) := HX.out.2.2.1
            have K_V : Hid (SnI y22 g_V (.slice Vo z.ts.length Vc) z) := HX.out.2.2.2.1
            have HB : Hid (Below w.heap.size w y22) := HX.out.2.2.2.2
            clear HX
            clear IOz LZ INz SNz K_Z K_V H_z H_m
            go_upto_region 14 with fail
            have p_C_0 : y22.cell? ⟨g_C, 0, none⟩ = some (.int .i64 c.tr) := K_C.out.cell 0 rfl
            have p_C_1 : y22.cell? ⟨g_C, 1, none⟩ = some (.slice Co c.ts.length Cc) := K_C.out.cell 1 rfl
            go_wp2_with fail
            clear p_C_0 p_C_1
            refine (SOc.out _ _ K_C.out.reads).mono ?_
            rintro e y23 ⟨rfl, bq⟩
            replace K_C : Hid (SnI y23 g_C (.slice Co c.ts.length Cc) c) := K_C.out.below bq
            replace K_X : Hid (SnI y23 g_X (.slice Xo x.ts.length Xc) x) := K_X.out.below bq
            replace HB : Hid (Below w.heap.size w y23) := HB.out.trans (bq.mono HB.out.size)
            clear bq
            clear SOc
            cases okc with
            | false =>
              obtain ⟨e1, e2, e3⟩ := Sn.bad H_okc.out.symm t i n
              rw [← H_x.out] at e1
              rw [← H_is.out] at e2
              rw [← H_f.out] at e3
              have LX0 : ∀ v wx, Reads wx v x.ts → Calls Try.prog 15 #[.agg #[.int .i64 x.tr, v], .agg #[.int .i64 0, .slice none 0 0]] wx fun e w' => e = .returned (.bool true) ∧ Below wx.heap.size wx w' := by
                rw [e1]
                intro v wx h
                exact likeK_any v (.slice none 0 0) Sn.zero wx h (Own.nil wx 0).reads (by decide)
              have JX : Hid _ := LX0
              clear e1 LX0 LX H_x H_okc H_is H_f
              subst is f
              have p_X_0 : y23.cell? ⟨g_X, 0, none⟩ = some (.int .i64 x.tr) := K_X.out.cell 0 rfl
              have p_X_1 : y23.cell? ⟨g_X, 1, none⟩ = some (.slice Xo x.ts.length Xc) := K_X.out.cell 1 rfl
              go_wp2_with fail
              clear p_X_0 p_X_1
              refine (JX.out _ _ K_X.out.reads).mono ?_
              rintro e y24 ⟨rfl, bq⟩
              replace K_C : Hid (SnI y24 g_C (.slice Co c.ts.length Cc) c) := K_C.out.below bq
              replace K_X : Hid (SnI y24 g_X (.slice Xo x.ts.length Xc) x) := K_X.out.below bq
              replace HB : Hid (Below w.heap.size w y24) := HB.out.trans (bq.mono HB.out.size)
              clear bq
              clear K_C K_X
              go_wp2
              go_ret
              exact ⟨rfl, HB.out⟩
            | true =>
              cases is with
              | false =>
                obtain ⟨e1, e2⟩ := Sn.is_not H_okc.out.symm H_is.out.symm
                rw [← H_x.out] at e1
                rw [← H_f.out] at e2
                have LXC : ∀ u v wx, Reads wx u x.ts → Reads wx v c.ts → Calls Try.prog 15 #[.agg #[.int .i64 x.tr, u], .agg #[.int .i64 c.tr, v]] wx fun e w' => e = .returned (.bool true) ∧ Below wx.heap.size wx w' := by
                  clear K_X LX H_x
                  subst e1
                  exact fun u v wx hu hv => likeK_any u v x wx hu hv gc
                have JX : Hid _ := LXC
                have HE : Hid (f = false ∨ 1000000000 < n) := e2
                clear e1 e2 LXC LX H_x H_okc H_is H_f
                have p_X_0 : y23.cell? ⟨g_X, 0, none⟩ = some (.int .i64 x.tr) := K_X.out.cell 0 rfl
                have p_X_1 : y23.cell? ⟨g_X, 1, none⟩ = some (.slice Xo x.ts.length Xc) := K_X.out.cell 1 rfl
                have p_C_0 : y23.cell? ⟨g_C, 0, none⟩ = some (.int .i64 c.tr) := K_C.out.cell 0 rfl
                have p_C_1 : y23.cell? ⟨g_C, 1, none⟩ = some (.slice Co c.ts.length Cc) := K_C.out.cell 1 rfl
                go_wp2_with fail
                clear p_X_0 p_X_1 p_C_0 p_C_1
                refine (JX.out _ _ _ K_X.out.reads K_C.out.reads).mono ?_
                rintro e y25 ⟨rfl, bq⟩
                replace K_C : Hid (SnI y25 g_C (.slice Co c.ts.length Cc) c) := K_C.out.below bq
                replace K_X : Hid (SnI y25 g_X (.slice Xo x.ts.length Xc) x) := K_X.out.below bq
                replace HB : Hid (Below w.heap.size w y25) := HB.out.trans (bq.mono HB.out.size)
                clear bq
                cases f with
                | false =>
                  clear K_C K_X
                  go_wp2
                  go_ret
                  exact ⟨rfl, HB.out⟩
                | true =>
                  have hn : 1000000000 < n := HE.out.resolve_left (by simp)
                  clear HE
                  clear K_C K_X
                  go_wp2
                  go_ret
                  exact ⟨rfl, HB.out⟩
              | true =>
                obtain ⟨-, e1, e2, e3, e4, h0, h1, h2⟩ := Sn.is_all H_is.out.symm
                rw [← H_x.out] at e1 e2 e4
                rw [← H_f.out] at e3
                obtain ⟨j, rfl⟩ := nat_of h0
                rw [Int.toNat_natCast] at e1 h2
                have hjl : j < c.ts.length := by omega
                have HT : Hid (∀ q, q < c.ts.length → x.ts.getD q 0 = if q = j then n else c.ts.getD q 0) := by
                  intro q hq
                  rw [e1]
                  simp only [List.getD_eq_getElem?_getD, List.getElem?_set]
                  by_cases e : j = q
                  · subst e; simp [hq]
                  · simp [e, Ne.symm e]
                have hlx : x.ts.length = c.ts.length := by rw [e1]; simp
                have HLT : Hid (c.ts.getD j 0 < n) := h2
                subst f
                obtain ⟨ge, h_ge⟩ : ∃ ge, ge = x.Got t j n := ⟨_, rfl⟩
                have IGe' := fun v wx h => igot_any v x t j n wx h gx
                simp only [← h_ge, e4] at IGe'
                unfold SnV snA at IGe'
                have IGe : Hid _ := IGe'
                clear IGe'
                have IOx' := fun v wx h => isinkok_any v x wx h gx
                unfold SnV snA at IOx'
                have IOx : Hid _ := IOx'
                clear IOx'
                have IOx' := IOx.out
                rw [e2] at IOx'
                have JO : Hid _ := IOx'
                have HJL : Hid (j < c.ts.length ∧ x.ts.length = c.ts.length) := ⟨hjl, hlx⟩
                clear e1 e2 e4 IOx IOx' h_ge H_x H_okc H_is LX h0 h1 h2 hlx hjl
                have p_X_0 : y23.cell? ⟨g_X, 0, none⟩ = some (.int .i64 x.tr) := K_X.out.cell 0 rfl
                have p_X_1 : y23.cell? ⟨g_X, 1, none⟩ = some (.slice Xo x.ts.length Xc) := K_X.out.cell 1 rfl
                go_wp2_with fail
                clear p_X_0 p_X_1
                refine (IGe.out _ _ K_X.out.reads).mono ?_
                rintro e y26 ⟨_, rfl, oq, bq⟩
                replace K_C : Hid (SnI y26 g_C (.slice Co c.ts.length Cc) c) := K_C.out.below bq
                replace K_X : Hid (SnI y26 g_X (.slice Xo x.ts.length Xc) x) := K_X.out.below bq
                replace HB : Hid (Below w.heap.size w y26) := HB.out.trans (bq.mono HB.out.size)
                obtain ⟨Eo, Ec, rfl⟩ := reads_form oq.reads
                obtain ⟨y27, hy27⟩ : ∃ y27, y27 = y26.alloc (.cells (snA (.slice Eo ge.ts.length Ec) ge) 26) := ⟨_, rfl⟩
                have by27 : Below y26.heap.size y26 y27 := by rw [hy27]; exact (Below.refl _ _).alloc (Nat.le_refl _) _
                have K_E : Hid (SnI y27 y26.heap.size (.slice Eo ge.ts.length Ec) ge) := by rw [hy27]; first | exact SnI.new oq | exact SnI.new oq.mine
                clear oq bq
                replace K_C : Hid (SnI y27 g_C (.slice Co c.ts.length Cc) c) := K_C.out.below by27
                replace K_X : Hid (SnI y27 g_X (.slice Xo x.ts.length Xc) x) := K_X.out.below by27
                replace HB : Hid (Below w.heap.size w y27) := HB.out.trans (by27.mono HB.out.size)
                clear by27
                unfold snA at hy27
                try unfold SnV snA
                go_upto_region 19 with fail
                rw [← hy27]
                clear hy27
                obtain ⟨g_E, hg_E⟩ : ∃ g_E, g_E = y26.heap.size := ⟨_, rfl⟩
                rw [← hg_E] at K_E ⊢
                clear hg_E
                clear K_E IGe
                go_wp2_with fail
                go_loopw [20] (fun i wr => ∃ k : Nat, k ≤ c.ts.length ∧ i = .int .i64 k ∧ Hid (SnI wr g_X (.slice Xo x.ts.length Xc) x ∧ SnI wr g_C (.slice Co c.ts.length Cc) c ∧ Below w.heap.size w wr)) (fun i _ => c.ts.length - (intOf i).toNat)
                case atStart => exact ⟨0, Nat.zero_le _, rfl, K_X.out, K_C.out, HB.out⟩
                case round =>
                  clear K_X K_C HB
                  obtain ⟨k, hk, rfl, HL⟩ := hrel
                  have K_X : Hid (SnI wr g_X (.slice Xo x.ts.length Xc) x) := HL.out.1
                  have K_C : Hid (SnI wr g_C (.slice Co c.ts.length Cc) c) := HL.out.2.1
                  have HB : Hid (Below w.heap.size w wr) := HL.out.2.2
                  clear HL
                  by_cases hlt : (k : Int) < (c.ts.length : Int)
                  · skip
                    have hkx : (k : Int) < (x.ts.length : Int) := by have := HJL.out.2; omega
                    have hT := HT.out k (by omega)
                    obtain ⟨bx, ox, rfl, hx1, hx2, kx⟩ := K_X.out.at k (by omega)
                    obtain ⟨bc, oc, rfl, hc1, hc2, kc⟩ := K_C.out.at k (by omega)
                    unfold maxLen at hx2 hc2
                    rw [hT] at kx
                    clear hT
                    obtain ⟨yv, hyv⟩ : ∃ yv, yv = c.ts.getD k 0 := ⟨_, rfl⟩
                    by_cases hkj : k = j
                    · rw [if_pos hkj] at kx
                      subst hkj
                      rw [← hyv] at kc
                      have e1 : ¬ n < yv := by have := HLT.out; omega
                      have e2 : ((k : Int) != (k : Int)) = false := by simp
                      have e1' : decide (n < yv) = false := decide_eq_false e1
                      clear hyv e1
                      have p_X_0 : wr.cell? ⟨g_X, 0, none⟩ = some (.int .i64 x.tr) := K_X.out.cell 0 rfl
                      have p_X_1 : wr.cell? ⟨g_X, 1, none⟩ = some (.slice (some ⟨bx, ox, none⟩) x.ts.length Xc) := K_X.out.cell 1 rfl
                      have p_C_0 : wr.cell? ⟨g_C, 0, none⟩ = some (.int .i64 c.tr) := K_C.out.cell 0 rfl
                      have p_C_1 : wr.cell? ⟨g_C, 1, none⟩ = some (.slice (some ⟨bc, oc, none⟩) c.ts.length Cc) := K_C.out.cell 1 rfl
                      clear p_X_0 p_C_0
                      go_wp2_with fail
                      go_quiet (fail)
                      obtain ⟨y29, hy29⟩ : ∃ y29, y29 = wr.drewN nq := ⟨_, rfl⟩
                      have bq : Below wr.heap.size wr y29 := by rw [hy29]; exact below_drewN (Below.refl _ _) nq
                      rw [← hy29]
                      clear hy29 p_X_1 p_C_1 kx kc e1' e2
                      replace K_C : Hid (SnI y29 g_C (.slice (some ⟨bc, oc, none⟩) c.ts.length Cc) c) := K_C.out.below bq
                      replace K_X : Hid (SnI y29 g_X (.slice (some ⟨bx, ox, none⟩) x.ts.length Xc) x) := K_X.out.below bq
                      replace HB : Hid (Below w.heap.size w y29) := HB.out.trans (bq.mono HB.out.size)
                      clear bq
                      go_wp2
                      go_roundw
                      case rel => exact ⟨k + 1, by omega, by go_num, K_X.out, K_C.out, HB.out⟩
                      case measure => simp [intOf]; omega
                    · rw [if_neg hkj] at kx
                      rw [← hyv] at kx kc
                      have e1' : decide (yv < yv) = false := decide_eq_false (by omega)
                      have e2 : ((k : Int) != (j : Int)) = true := by simp; omega
                      have e3 : (yv != yv) = false := by simp
                      clear hyv hkj
                      have p_X_0 : wr.cell? ⟨g_X, 0, none⟩ = some (.int .i64 x.tr) := K_X.out.cell 0 rfl
                      have p_X_1 : wr.cell? ⟨g_X, 1, none⟩ = some (.slice (some ⟨bx, ox, none⟩) x.ts.length Xc) := K_X.out.cell 1 rfl
                      have p_C_0 : wr.cell? ⟨g_C, 0, none⟩ = some (.int .i64 c.tr) := K_C.out.cell 0 rfl
                      have p_C_1 : wr.cell? ⟨g_C, 1, none⟩ = some (.slice (some ⟨bc, oc, none⟩) c.ts.length Cc) := K_C.out.cell 1 rfl
                      clear p_X_0 p_C_0
                      go_wp2_with fail
                      go_quiet (fail)
                      obtain ⟨y30, hy30⟩ : ∃ y30, y30 = wr.drewN nq := ⟨_, rfl⟩
                      have bq : Below wr.heap.size wr y30 := by rw [hy30]; exact below_drewN (Below.refl _ _) nq
                      rw [← hy30]
                      clear hy30 p_X_1 p_C_1 kx kc e1' e2 e3
                      replace K_C : Hid (SnI y30 g_C (.slice (some ⟨bc, oc, none⟩) c.ts.length Cc) c) := K_C.out.below bq
                      replace K_X : Hid (SnI y30 g_X (.slice (some ⟨bx, ox, none⟩) x.ts.length Xc) x) := K_X.out.below bq
                      replace HB : Hid (Below w.heap.size w y30) := HB.out.trans (bq.mono HB.out.size)
                      clear bq
                      go_wp2
                      go_roundw
                      case rel => exact ⟨k + 1, by omega, by go_num, K_X.out, K_C.out, HB.out⟩
                      case measure => simp [intOf]; omega
                  · skip
                    have pC : wr.cell? ⟨g_C, 1, none⟩ = some (.slice Co c.ts.length Cc) := K_C.out.cell 1 rfl
                    go_upto_region 24 with fail
                    clear pC
                    have p_X_0 : wr.cell? ⟨g_X, 0, none⟩ = some (.int .i64 x.tr) := K_X.out.cell 0 rfl
                    have p_X_1 : wr.cell? ⟨g_X, 1, none⟩ = some (.slice Xo x.ts.length Xc) := K_X.out.cell 1 rfl
                    go_wp2_with fail
                    clear p_X_0 p_X_1
                    refine (JO.out _ _ K_X.out.reads).mono ?_
                    rintro e y31 ⟨rfl, bq⟩
                    replace K_C : Hid (SnI y31 g_C (.slice Co c.ts.length Cc) c) := K_C.out.below bq
                    replace K_X : Hid (SnI y31 g_X (.slice Xo x.ts.length Xc) x) := K_X.out.below bq
                    replace HB : Hid (Below w.heap.size w y31) := HB.out.trans (bq.mono HB.out.size)
                    clear bq
                    have hkx : (j : Int) < (x.ts.length : Int) := by have := HJL.out; omega
                    have hT := HT.out j HJL.out.1
                    rw [if_pos rfl] at hT
                    obtain ⟨bx, ox, rfl, hx1, hx2, kx⟩ := K_X.out.at j (by omega)
                    unfold maxLen at hx2
                    rw [hT] at kx
                    clear hT
                    have p_X_0 : y31.cell? ⟨g_X, 0, none⟩ = some (.int .i64 x.tr) := K_X.out.cell 0 rfl
                    have p_X_1 : y31.cell? ⟨g_X, 1, none⟩ = some (.slice (some ⟨bx, ox, none⟩) x.ts.length Xc) := K_X.out.cell 1 rfl
                    clear p_X_0
                    have enn : (n == n) = true := by simp
                    clear K_C K_X
                    go_wp2
                    go_ret
                    exact ⟨rfl, HB.out⟩

set_option maxRecDepth 100000 in
theorem lifted (os : Os) (started : os.Started) (H : Type) (enc : TypeId × Value → H) :
    ReturnsInHanded {} Try.checked os 3 .any (Rows.fnSinkSpec.pre6 enc Try.prog Try.f3 Rows.fnSinkRow.domain false) (Rows.fnSinkSpec.post enc Try.prog Try.f3 false true false false) := by
  refine returnsInHanded_of_change (C := Try.checked) own started (by kernel_rfl) Try.func3
    (ChangeSpec.witness6 (enc := enc) (C := Try.checked) false ⟨#[], #[.slice none 0 0], []⟩ 8 (by kernel_rfl) (by kernel_rfl) (by kernel_rfl) (by kernel_rfl)) ?_
  intro W base args ds gs before hval0 hW hcnd _
  have hval : ∀ (j : Nat) t v, Try.f3.params[j]? = some t → args[j]? = some v → Value.okWide Try.prog W .any base t v := hval0
  have hW' := hW
  obtain ⟨p, q, hA0, hV, rfl, hfz, hnd⟩ := hW
  have hA : DataW.TrodAll enc Try.prog W 0 (fun _ => true) true Try.f3.params.toList args.toList ds p := hA0
  rw [Try.params3] at hA hval
  obtain ⟨v0, vs0, d0, ds0, p0, q0, hargs, rfl, rfl, h0, r0⟩ := trodAll_cons hA
  obtain ⟨rfl, rfl, rfl⟩ := trodAll_nil r0
  obtain rfl : args = #[v0] := by cases args; simp_all
  obtain ⟨rfl, rfl⟩ := trodVars_none hV
  obtain ⟨a0, len0, cap0, rfl⟩ := okWide_slice Try.underlying22 (hval 0 22 v0 rfl rfl)
  have k0 := h0
  have lt0 : ∀ x ∈ p0, x.block < W.heap.size := by obtain ⟨m, hm⟩ := k0; exact DataW.trod_lt m _ _ _ hm
  obtain ⟨z0, w0⟩ : ∃ zs, IsRow .u8 W a0 len0 cap0 zs := by
    obtain ⟨fuel, hf⟩ := h0
    rcases open_ints Try.underlying22 Try.underlying5 (by kernel_rfl) hf with ⟨hcs, _⟩ | ⟨x, l, c, zs, hcs, _, hl, hm, hz, _, hcell, hwz⟩
    · simp [Value.cells] at hcs
      obtain ⟨rfl, rfl, rfl⟩ := hcs
      exact ⟨[], .inl ⟨rfl, rfl, rfl, rfl⟩⟩
    · simp [Value.cells] at hcs
      obtain ⟨rfl, rfl, rfl⟩ := hcs
      exact ⟨zs, .inr ⟨_, rfl, hl, hm, by simpa using hz, hcell, hwz⟩⟩
  clear hA0 hval0
  refine (walk a0 len0 cap0 z0 W w0).mono fun e W' ⟨he, bel⟩ => ?_
  subst he
  exact ⟨_, rfl, _, _, _, [], _, [], hW', trodAll_mk1 (shut_bool Try.underlying4 _), (trodAll_cons_mk (Below.trod laidOut (by kernel_rfl) (of_decide_eq_true (by kernel_rfl)) k0 bel lt0) trodAll_mk0), rfl, bel.frame _, fun h => by cases h⟩

theorem over : Rows.fnSinkRow.holds Try.pinned (OpenSpec.ofChange Rows.fnSinkSpec) :=
  OpenClaim.holds_of_wide 3 Try.f3 rfl rfl rfl rfl rfl rfl rfl ⟨rfl, rfl, rfl, rfl, rfl⟩ rfl rfl rfl rfl rfl (by kernel_rfl) Try.func3 (by kernel_rfl)
    (of_decide_eq_true (by kernel_rfl)) (by unfold Func.isWrapper; first | (rw [if_pos (by decide +kernel)]; kernel_rfl) | (rw [if_neg (by decide +kernel)]; exact ⟨rfl, rfl⟩))
    (fun os started H enc _ => lifted os started H enc)

theorem proved : Rows.FnSinkSaid := over
end Go.Proofs.Ytdcdfhklnhaimaa.fnSink
namespace Go.Proofs.Ytdcdfhklnhaimaa
theorem fnSink_holds : Rows.FnSinkSaid := fnSink.proved
end Go.Proofs.Ytdcdfhklnhaimaa
