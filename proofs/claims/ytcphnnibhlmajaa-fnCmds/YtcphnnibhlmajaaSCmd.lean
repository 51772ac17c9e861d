/- What the model shows and reads of a command: l6Sum, l6Show, ShowCmd, ReadCmd. -/
import Derived.Test.YtcphnnibhlmajaaCmOk
import Derived.Test.YtcphnnibhlmajaaBend
import Derived.BigRegion
import Derived.Deep.RegionHeld3
namespace Go.Proofs.Ytcphnnibhlmajaa
open Go.ChangeShapes Go.WideShapes Go.ChangeAt Go.RowKit

set_option maxRecDepth 20000 in
set_option maxHeartbeats 1000000 in
theorem ssum_any (g n cap : Nat) (l : Bs) (w : World) (hl : 7 ≤ l.length) (hn : 7 ≤ n) (hc : ∀ j, j < 7 → w.cell? ⟨g, j, none⟩ = some (U (l.getD j 0))) :
    Calls Try.prog 32 #[.slice (some ⟨g, 0, none⟩) n cap] w fun e w' => e = .returned (.int .u8 (sumI (l.take 7))) ∧ w' = w := by
  have HC : Hid (∀ j, j < 7 → w.cell? ⟨g, j, none⟩ = some (U (l.getD j 0))) := hc
  clear hc
  go_enter Try.func32, Try.ntmps32
  go_wp2
  go_loop [3, 4] (fun s i => ∃ (j : Nat) (x : Int), (j : Int) ≤ 7 ∧ i = .int .i64 j ∧ s = .int .i64 x ∧ 0 ≤ x ∧ x ≤ 2000 ∧ Hid (x = sumN l j)) (fun _ i => 7 - (intOf i).toNat)
  case atStart => exact ⟨0, 0, by omega, rfl, rfl, by omega, by omega, rfl⟩
  case round =>
    obtain ⟨j, x, hj, rfl, rfl, hx0, hx1, HX⟩ := hrel
    by_cases hlt : (j : Int) < 7
    · have hcell := HC.out j (by omega)
      have hbd := byteI_bd (l.getD j 0)
      have HS : Hid (sumN l (j + 1) = x + byteI (l.getD j 0)) := by rw [Hid, sumN_step l j (by omega), ← HX.out]
      have hs2 := sumN_bd l (j + 1)
      rw [HS.out] at hs2
      unfold U at hcell
      obtain ⟨y, hy⟩ : ∃ y, y = byteI (l.getD j 0) := ⟨_, rfl⟩
      rw [← hy] at hcell hbd HS hs2
      clear hy
      go_wp2
      go_round
      case rel => exact ⟨j + 1, x + y, by omega, by go_num, by go_num, by omega, by omega, HS.out.symm⟩
      case measure => simp [intOf]; omega
    · have HE : Hid (sumI (l.take 7) = 255 - x % 256) := by
        obtain rfl : j = 7 := by omega
        rw [Hid, HX.out]; rfl
      have hm : x.tmod 256 = x % 256 := Int.tmod_eq_emod_of_nonneg hx0
      go_wp2
      go_ret
      rw [HE.out]
      exact ⟨rfl, rfl⟩

theorem divs (x : Int) (h0 : 0 ≤ x) : x.tdiv 256 = x / 256 ∧ x.tmod 256 = x % 256 := ⟨Int.tdiv_eq_ediv_of_nonneg h0, Int.tmod_eq_emod_of_nonneg h0⟩

set_option maxRecDepth 20000 in
set_option maxHeartbeats 2000000 in
theorem s6show_any (c : Cm) (w : World) (hb : c.Byt) :
    Calls Try.prog 34 #[CV c] w fun e w' => e = .returned (S (showC c)) ∧ Below w.heap.size w w' := by
  obtain ⟨i0, hi, hz0, hz1, hz2⟩ := info_parts Try.infoU
  obtain ⟨o, p, a, b, k⟩ := c
  obtain ⟨h1, h2, h3, h4, h5⟩ := hb
  dsimp only at h1 h2 h3 h4 h5
  obtain ⟨da, ma⟩ := divs a h3.1
  obtain ⟨db, mb⟩ := divs b h4.1
  have e1 := byteI_bt h1.1 h1.2
  have e2 := byteI_bt h2.1 h2.2
  have e3 := byteI_bt (x := a / 256) (by omega) (by omega)
  have e4 := byteI_bt (x := a % 256) (by omega) (by omega)
  have e5 := byteI_bt (x := b / 256) (by omega) (by omega)
  have e6 := byteI_bt (x := b % 256) (by omega) (by omega)
  have e7 := byteI_bt h5.1 h5.2
  have HF : Hid ((front ⟨o, p, a, b, k⟩).map U = [.int .u8 o, .int .u8 p, .int .u8 (a / 256), .int .u8 (a % 256), .int .u8 (b / 256), .int .u8 (b % 256), .int .u8 k]) := by
    simp only [Hid, front, List.map_cons, List.map_nil, U, e1, e2, e3, e4, e5, e6, e7]
  have hs := sumI_bd (front ⟨o, p, a, b, k⟩)
  have HSH : Hid (showC ⟨o, p, a, b, k⟩ = front ⟨o, p, a, b, k⟩ ++ [bt (sumI (front ⟨o, p, a, b, k⟩))]) := rfl
  have hbs := byteI_bt hs.1 hs.2
  obtain ⟨fr, hfr⟩ : ∃ fr, fr = front ⟨o, p, a, b, k⟩ := ⟨_, rfl⟩
  have hfl : fr.length = 7 := by rw [hfr]; rfl
  rw [← hfr] at HF hs HSH hbs
  clear e1 e2 e3 e4 e5 e6 e7 hfr
  obtain ⟨w2, hw2⟩ : ∃ w2, w2 = (w.alloc (.cells #[.int .i64 o, .int .i64 p, .int .i64 a, .int .i64 b, .int .i64 k] 25)).alloc (.cells #[.int .u8 o, .int .u8 p, .int .u8 (a / 256), .int .u8 (a % 256), .int .u8 (b / 256), .int .u8 (b % 256), .int .u8 k] 5) := ⟨_, rfl⟩
  have hB2 : Below w.heap.size w w2 := by rw [hw2]; exact ((Below.refl _ _).alloc (Nat.le_refl _) _).alloc (by simp) _
  have hs2 : w.heap.size ≤ w2.heap.size := hB2.size
  have hO : OwnU w2 w.heap.size (.slice (some ⟨w.heap.size + 1, 0, none⟩) 7 7) fr := by
    unfold OwnU
    rw [HF.out, hfl, hw2]
    have := World.ownsRow_lit (base := w.heap.size) (e := 5) (size := 1) (w.alloc (.cells #[.int .i64 o, .int .i64 p, .int .i64 a, .int .i64 b, .int .i64 k] 25)) #[.int .u8 o, .int .u8 p, .int .u8 (a / 256), .int .u8 (a % 256), .int .u8 (b / 256), .int .u8 (b % 256), .int .u8 k] 7 (by simp) (by unfold maxLen; omega) rfl
    rw [World.size_alloc] at this
    exact this
  have c1 := ssum_any (w.heap.size + 1) 7 7 fr w2 (by omega) (by omega) (fun j hj => by
    have h7 : w2.ownsRow w.heap.size 5 1 (.slice (some ⟨w.heap.size + 1, 0, none⟩) 7 7) 7 (fr.map U) := by have := hO; unfold OwnU at this; rwa [hfl] at this
    have := World.ownsRow.cellAt (w := w2) h7 j (by omega)
    rw [this]
    simp [show j < fr.length by omega])
  rw [List.take_of_length_le (by omega)] at c1
  obtain ⟨z, hz⟩ : ∃ z, z = sumI fr := ⟨_, rfl⟩
  rw [← hz] at c1 hs HSH hbs
  clear hz HF
  unfold CV cmA
  have hown := hO
  unfold OwnU at hown
  rw [hfl] at hown
  go_enter Try.func34, Try.ntmps34
  go_wp2_with fail
  rw [← hw2]
  refine c1.mono ?_
  rintro e w' ⟨rfl, hw⟩; subst w'
  have hlit := litU1 w2 (bt z)
  unfold U at hlit
  rw [hbs] at hlit
  clear c1 hw2
  go_wp2_with (at_builtin; refine wpList_append_own _ rfl _ _ 22 rfl w.heap.size 5 i0 (.int .u8 0) 1 1 Try.underlying22 hi hz0 hz1 hz2 rfl (by decide) _ _ _ rfl (hown.alloc _) _ 1 1 [.int .u8 z] rfl rfl hlit (by simp [Value.oneCell']) (by unfold maxLen; omega) (by omega) (by simp; omega) ?_)
  intro v' w3 hown' hgrow hnil
  have hU : fr.map U ++ [.int .u8 z] = (fr ++ [bt z]).map U := by rw [List.map_append]; simp [U, hbs]
  rw [hU] at hown'
  have hO3 : OwnU w3 w.heap.size v' (fr ++ [bt z]) := by
    unfold OwnU
    rw [show (fr ++ [bt z]).length = 7 + 1 by simp [hfl]]
    exact hown'
  have hB3 : Below w.heap.size w w3 := (hB2.alloc hs2 _).grown hgrow (by simp; omega) (fun k e => (hO.lt k e).1)
  obtain ⟨g', cap', hv', -⟩ := World.ownsRow.form hown' (by simp)
  subst hv'
  have hstr := run_str w3 _ _ _ hO3 (by simp)
  rw [← HSH.out] at hstr
  unfold S at hstr
  clear hO hO3 hown hown' hgrow hnil hU hlit
  go_wp2_with fail
  go_ret
  exact ⟨rfl, hB3⟩

set_option maxRecDepth 20000 in
set_option maxHeartbeats 1000000 in
theorem sshowC_any (c : Cm) (w : World) :
    Calls Try.prog 15 #[CV c] w fun e w' => e = .returned (S (showCS c)) ∧ Below w.heap.size w w' := by
  have c1 := fun wx => scmdok_any c wx
  have hB0 : Below w.heap.size w (w.alloc (.cells (cmA c) 25)) := (Below.refl _ _).alloc (Nat.le_refl _) _
  have hblk : (w.alloc (.cells (cmA c) 25)).heap[w.heap.size]? = some (.cells (cmA c) 25 (0, 0)) := heap_alloc_new w _
  by_cases hok : c.ok = true
  · have HS : Hid (showCS c = showC c) := by simp [Hid, showCS, hok]
    have c2 := fun wx => s6show_any c wx (Cm.ok_byt hok)
    simp only [hok] at c1
    clear hok
    unfold CV cmA S at *
    go_enter Try.func15, Try.ntmps15
    go_wp2_with fail
    refine (c1 _).mono ?_
    rintro e w1 ⟨rfl, b1⟩
    have hb1 : w1.heap[w.heap.size]? = _ := (b1.block w.heap.size (by simp)).trans hblk
    have k0 : w1.cell? ⟨w.heap.size, 0, none⟩ = some (.int .i64 c.o) := by rw [cell_of_row w1 w.heap.size 0 _ _ _ hb1]; rfl
    have k1 : w1.cell? ⟨w.heap.size, 1, none⟩ = some (.int .i64 c.p) := by rw [cell_of_row w1 w.heap.size 1 _ _ _ hb1]; rfl
    have k2 : w1.cell? ⟨w.heap.size, 2, none⟩ = some (.int .i64 c.a) := by rw [cell_of_row w1 w.heap.size 2 _ _ _ hb1]; rfl
    have k3 : w1.cell? ⟨w.heap.size, 3, none⟩ = some (.int .i64 c.b) := by rw [cell_of_row w1 w.heap.size 3 _ _ _ hb1]; rfl
    have k4 : w1.cell? ⟨w.heap.size, 4, none⟩ = some (.int .i64 c.k) := by rw [cell_of_row w1 w.heap.size 4 _ _ _ hb1]; rfl
    have B1 := hB0.trans (b1.mono hB0.size)
    clear b1 hB0 hblk hb1 c1
    go_wp2_with fail
    refine (c2 _).mono ?_
    rintro e w2 ⟨rfl, b2⟩
    have B2 := B1.trans (b2.mono B1.size)
    clear b2 B1 c2 k0 k1 k2 k3 k4
    go_wp2_with fail
    go_ret
    rw [HS.out]
    exact ⟨rfl, B2⟩
  · have hok' : c.ok = false := by simpa using hok
    have HS : Hid (showCS c = []) := by simp [Hid, showCS, hok']
    simp only [hok'] at c1
    clear hok hok'
    unfold CV cmA S at *
    go_enter Try.func15, Try.ntmps15
    go_wp2_with fail
    refine (c1 _).mono ?_
    rintro e w1 ⟨rfl, b1⟩
    have B1 := hB0.trans (b1.mono hB0.size)
    clear b1 hB0 hblk c1
    go_wp2_with fail
    go_ret
    rw [HS.out]
    exact ⟨rfl, B1⟩

set_option maxRecDepth 20000 in
set_option maxHeartbeats 4000000 in
theorem sreadC_any (s : Bs) (w : World) (hl : s.length ≤ 1048576) :
    Calls Try.prog 14 #[S s] w fun e w' => e = .returned (.tuple #[CV (readC s), .int .i64 (codeC s)]) ∧ Below w.heap.size w w' := by
  have hsz : (⟨s.toArray⟩ : ByteArray).size = s.length := rfl
  obtain ⟨w2, hw2⟩ : ∃ w2, w2 = (w.alloc (.cells (cmA Cm.zero) 25)).alloc (.cells (cmA Cm.zero) 25) := ⟨_, rfl⟩
  have Z2 : CmB w2 w.heap.size 25 Cm.zero := by rw [hw2]; exact (CmB.new w _ _).alloc _
  have N2 : CmB w2 (w.heap.size + 1) 25 Cm.zero := by rw [hw2]; have := CmB.new (w.alloc (.cells (cmA Cm.zero) 25)) 25 Cm.zero; rwa [World.size_alloc] at this
  have B2 : Below w.heap.size w w2 := by rw [hw2]; exact ((Below.refl _ _).alloc (Nat.le_refl _) _).alloc (by simp) _
  unfold cmA Cm.zero at hw2
  dsimp only at hw2
  unfold S
  by_cases h8 : (s.length : Int) < 8
  · have HE : Hid (codeC s = 1 ∧ readC s = Cm.zero) := code_short (by omega)
    go_enter Try.func14, Try.ntmps14
    go_wp2
    rw [← hw2]
    refine bodyPost_ret (results_C2 rfl _ _ w.heap.size _ _ rfl rfl Z2) rfl ?_
    rw [HE.out.1, HE.out.2]
    exact ⟨rfl, B2⟩
  · by_cases h9 : 8 < (s.length : Int)
    · have HE : Hid (codeC s = 2 ∧ readC s = Cm.zero) := code_long (by omega)
      go_enter Try.func14, Try.ntmps14
      go_wp2
      rw [← hw2]
      refine bodyPost_ret (results_C2 rfl _ _ w.heap.size _ _ rfl rfl Z2) rfl ?_
      rw [HE.out.1, HE.out.2]
      exact ⟨rfl, B2⟩
    · have hl8 : s.length = 8 := by omega
      obtain ⟨cap, w3, hr, hbuf, hg3⟩ := run_bytes w2 s (by omega)
      have hb8 : ∀ j, j < 8 → w3.cell? ⟨w2.heap.size, j, none⟩ = some (.int .u8 (byteI (s.getD j 0))) := fun j hj => by
        have h := (hbuf.2.2.2.2.2 j (by omega)).1
        rw [h]
        simp [U, show j < s.length by omega]
      have hcap : 8 ≤ cap := by have := hbuf.2.2.2.1; omega
      have hgl : w2.heap.size < w3.heap.size := hbuf.2.1
      have Z3 := Z2.kept hg3 (by simp)
      have N3 := N2.kept hg3 (by simp)
      have B3 : Below w.heap.size w w3 := B2.grown hg3 B2.size (fun k e => by cases e)
      have hr' : (convert 9 22 (.string ⟨s.toArray⟩)).run Try.prog ((w.alloc (.cells #[.int .i64 0, .int .i64 0, .int .i64 0, .int .i64 0, .int .i64 0] 25)).alloc (.cells #[.int .i64 0, .int .i64 0, .int .i64 0, .int .i64 0, .int .i64 0] 25)) = .ok (.slice (some ⟨w2.heap.size, 0, none⟩) 8 cap) w3 := by rw [← hw2, hr, hl8]
      have H1 : Hid (byteI (s.getD 7 0) ≠ sumI (s.take 7) → codeC s = 3 ∧ readC s = Cm.zero) := code_sum hl8
      have H2 : Hid (byteI (s.getD 7 0) = sumI (s.take 7) → inI (cmOf s).o 1 12 = false → codeC s = 4 ∧ readC s = Cm.zero) := code_op hl8
      have H3 : Hid (byteI (s.getD 7 0) = sumI (s.take 7) → inI (cmOf s).o 1 12 = true → (cmOf s).ok = false → codeC s = 5 ∧ readC s = Cm.zero) := code_field hl8
      have H4 : Hid (byteI (s.getD 7 0) = sumI (s.take 7) → (cmOf s).ok = true → codeC s = 0 ∧ readC s = cmOf s) := code_ok hl8
      have cs := fun wx hc => ssum_any w2.heap.size 8 cap s wx (by omega) (by omega) hc
      have hsb := sumI_bd (s.take 7)
      have hcm : cmOf s = ⟨byteI (s.getD 0 0), byteI (s.getD 1 0), byteI (s.getD 2 0) * 256 + byteI (s.getD 3 0), byteI (s.getD 4 0) * 256 + byteI (s.getD 5 0), byteI (s.getD 6 0)⟩ := rfl
      have hw3b := hgl
      have HB : Hid (∀ j, j < 8 → w3.cell? ⟨w2.heap.size, j, none⟩ = some (.int .u8 (byteI (s.getD j 0)))) := hb8
      have k0 := hb8 0 (by omega)
      have d0 := byteI_bd (s.getD 0 0)
      have k1 := hb8 1 (by omega)
      have d1 := byteI_bd (s.getD 1 0)
      have k2 := hb8 2 (by omega)
      have d2 := byteI_bd (s.getD 2 0)
      have k3 := hb8 3 (by omega)
      have d3 := byteI_bd (s.getD 3 0)
      have k4 := hb8 4 (by omega)
      have d4 := byteI_bd (s.getD 4 0)
      have k5 := hb8 5 (by omega)
      have d5 := byteI_bd (s.getD 5 0)
      have k6 := hb8 6 (by omega)
      have d6 := byteI_bd (s.getD 6 0)
      have k7 := hb8 7 (by omega)
      have d7 := byteI_bd (s.getD 7 0)
      obtain ⟨x0, hx0⟩ : ∃ x, x = byteI (s.getD 0 0) := ⟨_, rfl⟩
      rw [← hx0] at k0 d0 hcm
      obtain ⟨x1, hx1⟩ : ∃ x, x = byteI (s.getD 1 0) := ⟨_, rfl⟩
      rw [← hx1] at k1 d1 hcm
      obtain ⟨x2, hx2⟩ : ∃ x, x = byteI (s.getD 2 0) := ⟨_, rfl⟩
      rw [← hx2] at k2 d2 hcm
      obtain ⟨x3, hx3⟩ : ∃ x, x = byteI (s.getD 3 0) := ⟨_, rfl⟩
      rw [← hx3] at k3 d3 hcm
      obtain ⟨x4, hx4⟩ : ∃ x, x = byteI (s.getD 4 0) := ⟨_, rfl⟩
      rw [← hx4] at k4 d4 hcm
      obtain ⟨x5, hx5⟩ : ∃ x, x = byteI (s.getD 5 0) := ⟨_, rfl⟩
      rw [← hx5] at k5 d5 hcm
      obtain ⟨x6, hx6⟩ : ∃ x, x = byteI (s.getD 6 0) := ⟨_, rfl⟩
      rw [← hx6] at k6 d6 hcm
      obtain ⟨x7, hx7⟩ : ∃ x, x = byteI (s.getD 7 0) := ⟨_, rfl⟩
      rw [← hx7] at k7 d7
      rw [← hx7] at H1 H2 H3 H4
      obtain ⟨z, hz⟩ : ∃ z, z = sumI (s.take 7) := ⟨_, rfl⟩
      rw [← hz] at hsb H1 H2 H3 H4
      simp only [← hz] at cs
      obtain ⟨c, hc⟩ : ∃ c, c = cmOf s := ⟨_, rfl⟩
      rw [← hc] at hcm H2 H3 H4
      have HCM : Hid (c = ⟨x0, x1, x2 * 256 + x3, x4 * 256 + x5, x6⟩) := hcm
      have hne : w2.heap.size ≠ w3.heap.size := by omega
      have hs2 : w.heap.size + 1 < w3.heap.size := N3.lt
      clear hx0 hx1 hx2 hx3 hx4 hx5 hx6 hx7 hz hc hb8 hr hbuf hg3 hw2 Z2 N2 B2 hcm
      go_enter Try.func14, Try.ntmps14
      go_wp2
      go_region_held3 (fun w' => w'.cell? ⟨w2.heap.size, 0, none⟩ = some (.int .u8 x0) ∧ w'.cell? ⟨w2.heap.size, 1, none⟩ = some (.int .u8 x1) ∧ w'.cell? ⟨w2.heap.size, 2, none⟩ = some (.int .u8 x2) ∧ w'.cell? ⟨w2.heap.size, 3, none⟩ = some (.int .u8 x3) ∧ w'.cell? ⟨w2.heap.size, 4, none⟩ = some (.int .u8 x4) ∧ w'.cell? ⟨w2.heap.size, 5, none⟩ = some (.int .u8 x5) ∧ w'.cell? ⟨w2.heap.size, 6, none⟩ = some (.int .u8 x6)) (go_keep) (fail)
      have q0 : IntKind.i64.wrap x0 = x0 := by rw [IntKind.wrap_i64]; omega
      have q1 : IntKind.i64.wrap x1 = x1 := by rw [IntKind.wrap_i64]; omega
      have q2 : IntKind.i64.wrap x2 = x2 := by rw [IntKind.wrap_i64]; omega
      have q3 : IntKind.i64.wrap x3 = x3 := by rw [IntKind.wrap_i64]; omega
      have q4 : IntKind.i64.wrap x4 = x4 := by rw [IntKind.wrap_i64]; omega
      have q5 : IntKind.i64.wrap x5 = x5 := by rw [IntKind.wrap_i64]; omega
      have q6 : IntKind.i64.wrap x6 = x6 := by rw [IntKind.wrap_i64]; omega
      have r2 : IntKind.i64.wrap (x2 * 256) = x2 * 256 := by rw [IntKind.wrap_i64]; omega
      have s2 : IntKind.i64.wrap (x2 * 256 + x3) = x2 * 256 + x3 := by rw [IntKind.wrap_i64]; omega
      have r4 : IntKind.i64.wrap (x4 * 256) = x4 * 256 := by rw [IntKind.wrap_i64]; omega
      have s4 : IntKind.i64.wrap (x4 * 256 + x5) = x4 * 256 + x5 := by rw [IntKind.wrap_i64]; omega
      simp only [q0, q1, q2, q3, q4, q5, q6, r2, s2, r4, s4]
      clear q0 q1 q2 q3 q4 q5 q6 r2 s2 r4 s4
      obtain ⟨w4, hw4⟩ : ∃ w4, w4 = (w3.alloc (.cells (cmA c) 25)).drew := ⟨_, rfl⟩
      have Z4 : CmB w4 w.heap.size 25 Cm.zero := by rw [hw4]; exact Z3.alloc _
      have N4 : CmB w4 (w.heap.size + 1) 25 Cm.zero := by rw [hw4]; exact N3.alloc _
      have M4 : CmB w4 w3.heap.size 25 c := by rw [hw4]; exact CmB.new w3 _ c
      have B4 : Below w.heap.size w w4 := by rw [hw4]; exact below_drewN (B3.alloc B3.size _) 1
      have hb4 : ∀ j, j < 8 → w4.cell? ⟨w2.heap.size, j, none⟩ = some (U (s.getD j 0)) := fun j hj => by
        have hba : Below w3.heap.size w3 w4 := by rw [hw4]; exact below_drewN ((Below.refl _ _).alloc (Nat.le_refl _) _) 1
        rw [hba.cell (p := ⟨w2.heap.size, j, none⟩) hgl]
        exact HB.out j hj
      have k7' : w4.cell? ⟨w2.heap.size, 7, none⟩ = some (.int .u8 x7) := by
        have hba : Below w3.heap.size w3 w4 := by rw [hw4]; exact below_drewN ((Below.refl _ _).alloc (Nat.le_refl _) _) 1
        rw [hba.cell (p := ⟨w2.heap.size, 7, none⟩) hgl]
        exact k7
      have c1 := cs w4.drew (fun j hj => hb4 j (by omega))
      rw [show cmA c = #[.int .i64 x0, .int .i64 x1, .int .i64 (x2 * 256 + x3), .int .i64 (x4 * 256 + x5), .int .i64 x6] by rw [HCM.out]; rfl] at hw4
      rw [← hw4]
      have hs4 : w3.heap.size < w4.heap.size := M4.lt
      clear hw4 k0 k1 k2 k3 k4 k5 k6 k7 cs Z3 N3 B3 hb4 HB
      go_wp2
      go_region_held3 (fun w' => w'.cell? ⟨w2.heap.size, 7, none⟩ = some (.int .u8 x7)) (go_keep)
        (first
        | (go_at_call 32; refine c1.mono ?_; rintro e w' ⟨rfl, hw'⟩; subst w'))
      have Z5 : CmB w4.drew w.heap.size 25 Cm.zero := Z4
      have N5 : CmB w4.drew (w.heap.size + 1) 25 Cm.zero := N4
      have M5 : CmB w4.drew w3.heap.size 25 c := M4
      have B5 : Below w.heap.size w w4.drew := below_drewN B4 1
      obtain ⟨w5, hw5⟩ : ∃ w5, w5 = w4.drew := ⟨_, rfl⟩
      rw [← hw5] at Z5 N5 M5 B5 ⊢
      have hs5 : w3.heap.size < w5.heap.size := M5.lt
      have hsz5 : w.heap.size < w5.heap.size := Z5.lt
      clear hw5 Z4 N4 M4 B4 c1 k7' hs4
      by_cases h7 : x7 = z
      · subst h7
        have c2 := fun wx => sin6_any c.o 1 12 wx
        have c3 := fun wx => scmdok_any c wx
        have kc : w5.cell? ⟨w3.heap.size, 0, none⟩ = some (.int .i64 c.o) := M5.cell 0 rfl
        have H2' := H2.out rfl
        have H3' := H3.out rfl
        have H4' := H4.out rfl
        have HA : Hid (inI c.o 1 12 = false → codeC s = 4 ∧ readC s = Cm.zero) := H2'
        have HB : Hid (inI c.o 1 12 = true → c.ok = false → codeC s = 5 ∧ readC s = Cm.zero) := H3'
        have HD : Hid (c.ok = true → codeC s = 0 ∧ readC s = c) := H4'
        clear H1 H2 H3 H4 H2' H3' H4'
        obtain ⟨b1, hb1⟩ : ∃ b1, b1 = inI c.o 1 12 := ⟨_, rfl⟩
        obtain ⟨b2, hb2⟩ : ∃ b2, b2 = c.ok := ⟨_, rfl⟩
        rw [← hb1] at HA HB
        rw [← hb2] at HB HD
        simp only [← hb1] at c2
        simp only [← hb2] at c3
        clear hb1 hb2 HCM
        go_wp2_with fail
        refine (c2 _).mono ?_
        rintro e w' ⟨rfl, hw'⟩; subst w'
        clear c2
        cases b1 with
        | false =>
          have HE := HA.out rfl
          go_wp2_with (first | (refine wpList_getC rfl _ rfl (w.heap.size + 1) rfl Cm.zero N5 ?_) | (refine wpList_putC rfl _ _ rfl w.heap.size Cm.zero Cm.zero rfl rfl Z5 ?_; intro w6 R6 G6))
          refine bodyPost_ret (results_C2 rfl _ _ w.heap.size _ _ rfl rfl R6) rfl ?_
          rw [HE.1, HE.2]
          exact ⟨rfl, B5.grown G6 (by omega) (fun k e => by cases e; exact Nat.le_refl _)⟩
        | true =>
          have HB2 : Hid (b2 = false → codeC s = 5 ∧ readC s = Cm.zero) := HB.out rfl
          clear HB
          unfold CV at c3
          go_wp2_with (refine wpList_getC rfl _ rfl w3.heap.size rfl c M5 ?_; unfold CV)
          refine (c3 _).mono ?_
          rintro e w6 ⟨rfl, b6⟩
          have Z6 := Z5.below b6
          have N6 := N5.below b6
          have M6 := M5.below b6
          have B6 := B5.trans (b6.mono B5.size)
          have hs6 := Z6.lt
          clear c3 b6 Z5 N5 M5 B5 kc
          cases b2 with
          | false =>
            have HE := HB2.out rfl
            go_wp2_with (first | (refine wpList_getC rfl _ rfl (w.heap.size + 1) rfl Cm.zero N6 ?_) | (refine wpList_putC rfl _ _ rfl w.heap.size Cm.zero Cm.zero rfl rfl Z6 ?_; intro w7 R7 G7))
            refine bodyPost_ret (results_C2 rfl _ _ w.heap.size _ _ rfl rfl R7) rfl ?_
            rw [HE.1, HE.2]
            exact ⟨rfl, B6.grown G7 (by omega) (fun k e => by cases e; exact Nat.le_refl _)⟩
          | true =>
            have HE := HD.out rfl
            go_wp2_with (first | (refine wpList_getC rfl _ rfl w3.heap.size rfl c M6 ?_) | (refine wpList_putC rfl _ _ rfl w.heap.size c Cm.zero rfl rfl Z6 ?_; intro w7 R7 G7))
            refine bodyPost_ret (results_C2 rfl _ _ w.heap.size _ _ rfl rfl R7) rfl ?_
            rw [HE.1, HE.2]
            exact ⟨rfl, B6.grown G7 (by omega) (fun k e => by cases e; exact Nat.le_refl _)⟩
      · have HE := H1.out h7
        have hne7 : (x7 != z) = true := by simpa using h7
        clear H1 H2 H3 H4
        go_wp2_with (first | (refine wpList_getC rfl _ rfl (w.heap.size + 1) rfl Cm.zero N5 ?_) | (refine wpList_putC rfl _ _ rfl w.heap.size Cm.zero Cm.zero rfl rfl Z5 ?_; intro w6 R6 G6))
        refine bodyPost_ret (results_C2 rfl _ _ w.heap.size _ _ rfl rfl R6) rfl ?_
        rw [HE.1, HE.2]
        exact ⟨rfl, B5.grown G6 (by omega) (fun k e => by cases e; exact Nat.le_refl _)⟩
end Go.Proofs.Ytcphnnibhlmajaa
