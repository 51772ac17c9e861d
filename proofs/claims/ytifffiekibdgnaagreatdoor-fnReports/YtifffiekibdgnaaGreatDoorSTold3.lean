/- What the model reads of a holding: ReadHolding. -/
import Derived.Test.YtifffiekibdgnaaGreatDoorSTolds
import Derived.Test.YtifffiekibdgnaaGreatDoorSTen
namespace Go.Proofs.YtifffiekibdgnaaGreatDoor
open Go.ChangeShapes Go.WideShapes Go.ChangeAt Go.RowKit

theorem readH_len {s : Bs} (h : (splitB 32 s).length ≠ 7) : readH s = none := by
  unfold readH; rw [if_neg (fun c => h c.1.1)]
theorem readH_num {s : Bs} {j : Nat} (hj : j < (splitB 32 s).length) (h : okT ((splitB 32 s).getD j []) = false) : readH s = none := by
  unfold readH
  rw [if_neg]
  rintro ⟨⟨-, c⟩, -⟩
  have := List.all_eq_true.1 c _ (List.getElem_mem hj)
  have e : (splitB 32 s).getD j [] = (splitB 32 s)[j] := by simp [hj]
  rw [e, this] at h
  cases h
theorem readH_bad {s : Bs} (h : (hdOf ((splitB 32 s).map numT)).ok = false) : readH s = none := by
  unfold readH; rw [if_neg (fun c => by rw [c.2] at h; cases h)]
theorem readH_good {s : Bs} (h1 : (splitB 32 s).length = 7) (h2 : (splitB 32 s).all okT = true) (h3 : (hdOf ((splitB 32 s).map numT)).ok = true) : readH s = some (hdOf ((splitB 32 s).map numT)) := by
  unfold readH; rw [if_pos ⟨⟨h1, h2⟩, h3⟩]
theorem readH_not {s : Bs} (h : readH s = none) : readD s = Hd.zero ∧ readY s = false := by simp [readD, readY, h]
theorem readH_yes {s : Bs} {g : Hd} (h : readH s = some g) : readD s = g ∧ readY s = true := by simp [readD, readY, h]
theorem allT_take {ws : List Bs} {j : Nat} (h : (ws.take j).all okT = true) (hj : j < ws.length) (h2 : okT (ws.getD j []) = true) : (ws.take (j + 1)).all okT = true := by
  rw [List.take_succ_eq_append_getElem hj, List.all_append, h]
  have : ws.getD j [] = ws[j] := by simp [hj]
  rw [this] at h2
  simp [h2]
theorem numsT_take {ws : List Bs} {j : Nat} (hj : j < ws.length) : (ws.take (j + 1)).map numT = (ws.take j).map numT ++ [numT (ws.getD j [])] := by
  rw [List.take_succ_eq_append_getElem hj, List.map_append]
  simp [hj]
theorem splitB_partN (c : UInt8) (s : Bs) : ∀ p ∈ splitB c s, p.length ≤ s.length := by
  induction s with
  | nil => intro p hp; simp [splitB] at hp; subst hp; simp
  | cons b t ih =>
    intro p hp
    rw [splitB] at hp
    split at hp
    · rcases List.mem_cons.1 hp with rfl | hp
      · simp
      · have := ih p hp; simp; omega
    · cases hs : splitB c t with
      | nil => exact absurd hs (splitB_ne c t)
      | cons q qs =>
        rw [hs] at hp ih
        simp only [ahead] at hp
        rcases List.mem_cons.1 hp with rfl | hp
        · have := ih q (by simp); simp; omega
        · have := ih p (by simp [hp]); simp; omega
def zeH : Array Value := #[.slice none 0 0, .int .i64 0, .int .i64 0, .int .i64 0]

theorem cell_put4' {w : World} {g k : Nat} (hne : g ≠ k) {j : Nat} {a b c d x : Value} (h : w.cell? ⟨g, j, none⟩ = some x) :
    ((((w.setCell ⟨k, 0, none⟩ a).setCell ⟨k, 1, none⟩ b).setCell ⟨k, 2, none⟩ c).setCell ⟨k, 3, none⟩ d).cell? ⟨g, j, none⟩ = some x := by
  rw [World.cell?_setCell_far _ _ _ _ (Ne.symm hne), World.cell?_setCell_far _ _ _ _ (Ne.symm hne), World.cell?_setCell_far _ _ _ _ (Ne.symm hne), World.cell?_setCell_far _ _ _ _ (Ne.symm hne), h]

set_option maxRecDepth 20000 in
set_option maxHeartbeats 4000000 in
theorem sreadH_any (s : Bs) (w : World) (hl : s.length ≤ 1048576) :
    Calls Tryz.prog 9 #[S s] w fun e w' => ∃ u, e = .returned (.tuple #[HV u (readD s), .bool (readY s)]) ∧ Own w' w.heap.size u (readD s).ks ∧ Below w.heap.size w w' := by
  obtain ⟨i0, hi, hz0, hz1, hz2⟩ := info_parts Tryz.infoI
  have R0 : StB (w.alloc (.cells zeH 26)) w.heap.size 26 zeH := StB.new _ _ _
  have B0 : Below w.heap.size w (w.alloc (.cells zeH 26)) := (Below.refl _ _).alloc (Nat.le_refl _) _
  have c1 : ∀ wx, Calls Tryz.prog 29 #[S s, .int .u8 32] wx _ := fun wx => ssplit_any s 32 wx hl
  have hpt := splitB_partN 32 s
  have E1 : Hid ((splitB 32 s).length ≠ 7 → readH s = none) := readH_len
  have E3 : Hid (∀ j, j < (splitB 32 s).length → okT ((splitB 32 s).getD j []) = false → readH s = none) := fun j => readH_num
  have E4 : Hid ((hdOf ((splitB 32 s).map numT)).ok = false → readH s = none) := readH_bad
  have E5 : Hid ((splitB 32 s).length = 7 → (splitB 32 s).all okT = true → (hdOf ((splitB 32 s).map numT)).ok = true → readH s = some (hdOf ((splitB 32 s).map numT))) := readH_good
  obtain ⟨ws, hws⟩ : ∃ ws, ws = splitB 32 s := ⟨_, rfl⟩
  rw [← hws] at E1 E3 E4 E5 hpt
  simp only [← hws] at c1
  have HPT : Hid (∀ p ∈ ws, p.length ≤ 1048576) := fun p hp => by have := hpt p hp; omega
  clear hws hpt hl
  have RZ : Hid (StB (w.alloc (.cells zeH 26)) w.heap.size 26 zeH) := R0
  have BZ : Hid (Below w.heap.size w (w.alloc (.cells zeH 26))) := B0
  clear R0 B0
  unfold S at *
  go_enter Tryz.func9, Tryz.ntmps9
  go_wp2_with fail
  refine (c1 _).mono ?_
  rintro e wS ⟨u, rfl, o1, b1⟩
  clear c1
  have RS : Hid (StB wS w.heap.size 26 zeH) := RZ.out.below b1
  have BS : Hid (Below w.heap.size w wS) := BZ.out.trans (b1.mono BZ.out.size)
  have HSS : Hid (w.heap.size < wS.heap.size) := RS.out.lt
  clear b1 RZ BZ
  by_cases h5 : ws.length = 7
  · obtain ⟨g, cap, rfl, -⟩ := World.ownsRow.form o1 (by omega)
    have HC : Hid (∀ j, j < 7 → wS.cell? ⟨g, j, none⟩ = some (.string ⟨(ws.getD j []).toArray⟩)) := by
      intro j hj
      have hjw : j < ws.length := by omega
      have := World.ownsRow.cellAt (w := wS) o1 j (by omega)
      rw [this]
      simp [hjw, S]
    have hcap : 7 ≤ cap := by obtain ⟨_, _, he, hle, -⟩ := o1.reads; cases he; omega
    have HV5 : Hid (ws.length = 7) := h5
    rw [h5]
    clear o1 E1 h5
    go_wp2
    go_loopw [5, 6] (fun o i wr => ∃ (xs : List Int) (ao : Option Addr) (oc : Nat), o = .slice ao xs.length oc ∧ i = .int .i64 (xs.length : Int) ∧ (xs.length : Int) ≤ 7 ∧ Hid (Own wr wS.heap.size (.slice ao xs.length oc) xs ∧ Below wS.heap.size wS wr ∧ xs = (ws.take xs.length).map numT ∧ (ws.take xs.length).all okT = true)) (fun _ i _ => 7 - (intOf i).toNat)
    case atStart => exact ⟨[], _, _, rfl, rfl, by simp, World.ownsRow_lit wS #[] 0 (Nat.le_refl _) (Nat.zero_le _) rfl, (Below.refl _ _).alloc (Nat.le_refl _) _, rfl, rfl⟩
    case round =>
      obtain ⟨xs, ao, oc, rfl, rfl, hj, HR⟩ := hrel
      by_cases hlt : (xs.length : Int) < 7
      · have hjv : xs.length < ws.length := by have := HV5.out; omega
        have hcw := HC.out xs.length (by omega)
        have hcell : wr.cell? ⟨g, xs.length, none⟩ = some (.string ⟨(ws.getD xs.length []).toArray⟩) := by
          rw [HR.out.2.1.cell (p := ⟨g, xs.length, none⟩) (World.block_lt_of_cell? wS _ hcw)]
          exact hcw
        have hpl : (ws.getD xs.length []).length ≤ 1048576 := HPT.out (ws.getD xs.length []) (by simp [hjv])
        have c2 := fun wx => sdigitsT_any (ws.getD xs.length []) wx hpl
        have E3j : Hid (okT (ws.getD xs.length []) = false → readH s = none) := E3.out xs.length hjv
        have HA : Hid (okT (ws.getD xs.length []) = true → (ws.take (xs.length + 1)).all okT = true) := fun h => allT_take HR.out.2.2.2 hjv h
        have HM : Hid (xs ++ [numT (ws.getD xs.length [])] = (ws.take (xs.length + 1)).map numT) := by rw [Hid, numsT_take hjv]; exact congrArg (· ++ [numT (ws.getD xs.length [])]) HR.out.2.2.1
        obtain ⟨p, hp⟩ : ∃ p, p = ws.getD xs.length [] := ⟨_, rfl⟩
        rw [← hp] at hcell hpl E3j HA HM
        simp only [← hp] at c2
        obtain ⟨b, hb⟩ : ∃ b, b = okT p := ⟨_, rfl⟩
        obtain ⟨x, hx⟩ : ∃ x, x = numT p := ⟨_, rfl⟩
        rw [← hb] at E3j HA
        rw [← hx] at HM
        simp only [← hb, ← hx] at c2
        unfold S at c2
        clear hp hb hx hcw hjv
        go_wp2_with fail
        refine (c2 _).mono ?_
        rintro e w' ⟨rfl, hw⟩; subst w'
        clear c2
        cases b with
        | false =>
          have HE : Hid (readD s = Hd.zero ∧ readY s = false) := readH_not (E3j.out rfl)
          have R1 : Hid (StB wr w.heap.size 26 zeH) := RS.out.below HR.out.2.1
          have B1 : Hid (Below w.heap.size w wr) := BS.out.trans (HR.out.2.1.mono BS.out.size)
          clear HA HM E3j
          go_wp2_with (refine wpList_putS Tryz.isH rfl _ _ rfl w.heap.size (hdA (.slice none 0 0) Hd.zero) zeH rfl rfl rfl rfl (hdA_one _ rfl) R1.out ?_; intro w2 R2 G2)
          refine bodyPost_ret (results_S2 Tryz.isH rfl _ _ w.heap.size _ _ rfl rfl rfl R2) rfl ?_
          rw [HE.out.1, HE.out.2]
          exact ⟨.slice none 0 0, rfl, Own.nil _ _, B1.out.grown G2 B1.out.size (fun k e => by cases e; exact Nat.le_refl _)⟩
        | true =>
          have HA2 : Hid ((ws.take (xs.length + 1)).all okT = true) := HA.out rfl
          clear HA E3j
          have hown := HR.out.1
          have hbs := HR.out.2.1.size
          unfold Own at hown
          go_wp2_with (at_builtin; refine wpList_append_own _ rfl _ _ 24 rfl wS.heap.size 2 i0 (.int .i64 0) 1 8 Tryz.underlying24 hi hz0 hz1 hz2 rfl (by decide) _ _ _ rfl (hown.alloc _) _ 1 1 [.int .i64 x] rfl rfl (litOne wr x) (by simp [Value.oneCell']) (by unfold maxLen; omega) (by omega) (by simp; omega) ?_)
          intro v' w2 hown' hgrow _
          have HO : Hid (Own w2 wS.heap.size v' (xs ++ [x]) ∧ Below wS.heap.size wS w2) := appendOne HR.out.1 HR.out.2.1 hown' hgrow
          clear hown hown' hgrow HR
          obtain ⟨ao2, cap2, hev, -⟩ := HO.out.1.reads
          subst hev
          go_wp2
          go_roundw
          case rel => exact ⟨xs ++ [x], ao2, cap2, rfl, by simp, by simp; omega, HO.out.1, HO.out.2, by rw [List.length_append]; exact HM.out, by rw [List.length_append]; exact HA2.out⟩
          case measure => simp [intOf]; omega
      · have hx7 : xs.length = 7 := by omega
        have hxs : xs = ws.map numT := by have := HR.out.2.2.1; rwa [List.take_of_length_le (by have := HV5.out; omega)] at this
        have hall : ws.all okT = true := by have := HR.out.2.2.2; rwa [List.take_of_length_le (by have := HV5.out; omega)] at this
        rw [← hxs] at E4 E5
        have H5 : Hid ((hdOf xs).ok = true → readD s = hdOf xs ∧ readY s = true) := fun h => readH_yes (E5.out HV5.out hall h)
        have H4 : Hid ((hdOf xs).ok = false → readD s = Hd.zero ∧ readY s = false) := fun h => readH_not (E4.out h)
        obtain ⟨og, oc', heo, -⟩ := World.ownsRow.form HR.out.1 (by omega)
        cases heo
        have hoc : 7 ≤ oc := by obtain ⟨_, _, he, hle, -⟩ := HR.out.1.reads; cases he; omega
        have HX : Hid (∀ j, j < 7 → wr.cell? ⟨og, j, none⟩ = some (.int .i64 (xs.getD j 0))) := by
          intro j hj
          have := World.ownsRow.cellAt (w := wr) HR.out.1 j (by omega)
          rw [this]
          simp [show j < xs.length by omega]
        have hmx : oc ≤ maxLen := by obtain ⟨_, _, he, -, ⟨hm, -⟩, -⟩ := HR.out.1.reads; cases he; exact hm
        have RK : Hid (Reads wr (.slice (some ⟨og, 0, none⟩) 4 oc) (xs.take 4)) := by
          have e4 : (xs.take 4).length = 4 := by simp; omega
          refine ⟨some ⟨og, 0, none⟩, oc, by rw [e4], by omega, ⟨hmx, by simp⟩, .inr ⟨og, 0, rfl, fun j hj => ?_⟩⟩
          rw [Nat.zero_add, HX.out j (by omega)]
          have h1 : j < xs.length := by omega
          have h2 : j < 4 := by omega
          simp [List.getD_eq_getElem?_getD, h2]
        have e4 : Hid ((xs.take 4).length = 4) := by simp [Hid]; omega
        have c3 : ∀ wx, Reads wx (.slice (some ⟨og, 0, none⟩) 4 oc) (xs.take 4) → _ := fun wx hx => copy_any (.slice (some ⟨og, 0, none⟩) 4 oc) (xs.take 4) wx hx (by rw [e4.out]; omega)
        have C3 : Hid _ := c3
        have k4 : wr.cell? ⟨og, 4, none⟩ = some (.int .i64 (xs.getD 4 0)) := HX.out 4 (by omega)
        have k5 : wr.cell? ⟨og, 5, none⟩ = some (.int .i64 (xs.getD 5 0)) := HX.out 5 (by omega)
        have k6 : wr.cell? ⟨og, 6, none⟩ = some (.int .i64 (xs.getD 6 0)) := HX.out 6 (by omega)
        have R1 : Hid (StB wr w.heap.size 26 zeH) := RS.out.below HR.out.2.1
        have B1 : Hid (Below w.heap.size w wr) := BS.out.trans (HR.out.2.1.mono BS.out.size)
        have S1 : Hid (wS.heap.size ≤ wr.heap.size) := HR.out.2.1.size
        have O1 : Hid (Own wr wS.heap.size (.slice (some ⟨og, 0, none⟩) xs.length oc) xs) := HR.out.1
        unfold maxLen at hmx
        obtain ⟨y4, hy4⟩ : ∃ y4, y4 = xs.getD 4 0 := ⟨_, rfl⟩
        obtain ⟨y5, hy5⟩ : ∃ y5, y5 = xs.getD 5 0 := ⟨_, rfl⟩
        obtain ⟨y6, hy6⟩ : ∃ y6, y6 = xs.getD 6 0 := ⟨_, rfl⟩
        rw [← hy4] at k4
        rw [← hy5] at k5
        rw [← hy6] at k6
        have HH : Hid (hdOf xs = ⟨xs.take 4, y4, y5, y6⟩) := by rw [Hid, hy4, hy5, hy6]; rfl
        rw [HH.out] at H4 H5
        obtain ⟨ks, hks⟩ : ∃ ks, ks = xs.take 4 := ⟨_, rfl⟩
        rw [← hks] at H4 H5 e4 C3 RK
        rw [hx7] at O1 ⊢
        clear hy4 hy5 hy6 hxs hall HR E3 E4 E5 HC HPT HV5 hx7 hlt hj HX c3 HH hks
        go_upto_region 12 with fail
        have RD : Hid (Reads wr.drew (.slice (some ⟨og, 0, none⟩) 4 oc) ks) := RK.out
        have RA : Hid (Reads (wr.drew.alloc (.cells zeH 26)) (.slice (some ⟨og, 0, none⟩) 4 oc) ks) := RD.out.below ((Below.refl _ _).alloc (Nat.le_refl _) _) (Nat.le_refl _)
        have d4 : wr.drew.cell? ⟨og, 4, none⟩ = some (.int .i64 y4) := k4
        have d5 : wr.drew.cell? ⟨og, 5, none⟩ = some (.int .i64 y5) := k5
        have d6 : wr.drew.cell? ⟨og, 6, none⟩ = some (.int .i64 y6) := k6
        have q4 : (wr.drew.alloc (.cells zeH 26)).cell? ⟨og, 4, none⟩ = some (.int .i64 y4) := cell_later d4
        have q5 : (wr.drew.alloc (.cells zeH 26)).cell? ⟨og, 5, none⟩ = some (.int .i64 y5) := cell_later d5
        have q6 : (wr.drew.alloc (.cells zeH 26)).cell? ⟨og, 6, none⟩ = some (.int .i64 y6) := cell_later d6
        have HO : Hid (og < wr.heap.size) := (O1.out.lt og rfl).2
        have hne : og ≠ wr.heap.size := by have := HO.out; omega
        have hoc4 : (4 : Int) ≤ (oc : Int) := by omega
        have MA : Hid True := trivial
        go_cut [9] (fun t wx => ∃ G ao cp, t = .pointer (some ⟨G, 0, none⟩) ∧ Hid (StB wx G 26 (hdA (.slice ao 4 cp) ⟨ks, y4, y5, y6⟩) ∧ Own wx wr.heap.size (.slice ao 4 cp) ks ∧ StB wx w.heap.size 26 zeH ∧ Below w.heap.size w wx ∧ w.heap.size < G))
        case first =>
          go_region_held3 (fun w' => w'.cell? ⟨og, 4, none⟩ = some (.int .i64 y4) ∧ w'.cell? ⟨og, 5, none⟩ = some (.int .i64 y5) ∧ w'.cell? ⟨og, 6, none⟩ = some (.int .i64 y6)) (refine ⟨?_, ?_, ?_⟩ <;> first | with_reducible assumption | (with_reducible refine cell_later ?_; with_reducible assumption) | (with_reducible refine cell_put4' hne ?_; with_reducible assumption) | exact q4 | exact q5 | exact q6)
            (first
              | (go_at_call 31; first | (have := MA.out; refine (C3.out _ RD.out).mono ?_; rintro e w2 ⟨u, rfl, o2, b2⟩; obtain ⟨ao, cp, rfl⟩ := reads_form o2.reads; rw [e4.out] at o2 ⊢; have O2 : Hid (Own w2 wr.heap.size (.slice ao 4 cp) ks) := o2.mono (by first | exact Nat.le_refl _ | (rw [World.size_alloc]; exact Nat.le_succ _)); have N2 : Hid (Below wr.drew.heap.size wr.drew w2) := b2; have S2 : Hid (wr.heap.size ≤ w2.heap.size) := Nat.le_trans (by first | exact Nat.le_refl _ | (rw [World.size_alloc]; exact Nat.le_succ _)) b2.size; clear o2 b2; have e4' : w2.cell? ⟨og, 4, none⟩ = some (.int .i64 y4) := (N2.out.cell (World.block_lt_of_cell? _ _ d4)).trans d4; have e5' : w2.cell? ⟨og, 5, none⟩ = some (.int .i64 y5) := (N2.out.cell (World.block_lt_of_cell? _ _ d5)).trans d5; have e6' : w2.cell? ⟨og, 6, none⟩ = some (.int .i64 y6) := (N2.out.cell (World.block_lt_of_cell? _ _ d6)).trans d6) | (have := MA.out; refine (C3.out _ RA.out).mono ?_; rintro e w2 ⟨u, rfl, o2, b2⟩; obtain ⟨ao, cp, rfl⟩ := reads_form o2.reads; rw [e4.out] at o2 ⊢; have O2 : Hid (Own w2 wr.heap.size (.slice ao 4 cp) ks) := o2.mono (by first | exact Nat.le_refl _ | (rw [World.size_alloc]; exact Nat.le_succ _)); have N2 : Hid (Below (wr.drew.alloc (.cells zeH 26)).heap.size (wr.drew.alloc (.cells zeH 26)) w2) := b2; have S2 : Hid (wr.heap.size ≤ w2.heap.size) := Nat.le_trans (by first | exact Nat.le_refl _ | (rw [World.size_alloc]; exact Nat.le_succ _)) b2.size; have PB : Hid (StB w2 wr.heap.size 26 zeH) := StB.below (StB.new wr.drew 26 zeH) b2; have QB : Hid (Own w2 (wr.heap.size + 1) (.slice ao 4 cp) ks) := o2.mono (by rw [World.size_alloc]; exact Nat.le_refl _); clear o2 b2; have z0 : w2.cell? ⟨wr.heap.size, 0, none⟩ = some (.slice none 0 0) := PB.out.cell 0 rfl; have fz0 := PB.out.frozen 0; have z1 : w2.cell? ⟨wr.heap.size, 1, none⟩ = some (.int .i64 0) := PB.out.cell 1 rfl; have fz1 := PB.out.frozen 1; have z2 : w2.cell? ⟨wr.heap.size, 2, none⟩ = some (.int .i64 0) := PB.out.cell 2 rfl; have fz2 := PB.out.frozen 2; have z3 : w2.cell? ⟨wr.heap.size, 3, none⟩ = some (.int .i64 0) := PB.out.cell 3 rfl; have fz3 := PB.out.frozen 3;  have e4' : w2.cell? ⟨og, 4, none⟩ = some (.int .i64 y4) := (N2.out.cell (World.block_lt_of_cell? _ _ q4)).trans q4; have e5' : w2.cell? ⟨og, 5, none⟩ = some (.int .i64 y5) := (N2.out.cell (World.block_lt_of_cell? _ _ q5)).trans q5; have e6' : w2.cell? ⟨og, 6, none⟩ = some (.int .i64 y6) := (N2.out.cell (World.block_lt_of_cell? _ _ q6)).trans q6)))
          all_goals (go_wp2_with fail; go_meet)
          · have b2 : Below wr.heap.size wr w2 := (Below.refl _ _).drew.trans N2.out
            exact ⟨w2.heap.size, ao, cp, rfl, StB.new _ _ _, O2.out.alloc _, (R1.out.below b2).alloc _, (B1.out.trans (b2.mono B1.out.size)).alloc (Nat.le_trans B1.out.size S2.out) _, Nat.lt_of_lt_of_le R1.out.lt S2.out⟩
          · have b2 : Below wr.heap.size wr w2 := ((Below.refl wr.heap.size wr).drew.alloc (Nat.le_refl _) _).trans (N2.out.mono (by rw [World.size_alloc]; exact Nat.le_succ _))
            have SE := (((PB.out.put 0 (.slice ao 4 cp) rfl).put 1 (.int .i64 y4) rfl).put 2 (.int .i64 y5) rfl).put 3 (.int .i64 y6) (ds := hdA (.slice ao 4 cp) ⟨ks, y4, y5, y6⟩) rfl
            have GE := (((grownSet w2 wr.heap.size 0 (.slice ao 4 cp)).trans (grownSet _ wr.heap.size 1 (.int .i64 y4))).trans (grownSet _ wr.heap.size 2 (.int .i64 y5))).trans (grownSet _ wr.heap.size 3 (.int .i64 y6))
            have l1 := R1.out.lt
            exact ⟨wr.heap.size, ao, cp, rfl, SE, (QB.out.keptLt GE (Nat.lt_succ_self _)).mono (Nat.le_succ _), (R1.out.below b2).kept GE (by intro c; have := Option.some.inj c; omega), (B1.out.trans (b2.mono B1.out.size)).grown GE (Nat.le_trans B1.out.size S2.out) (fun k c => by cases c; exact B1.out.size), l1⟩
        case rest =>
          obtain ⟨G, ao, cp, rfl, HG⟩ := hcut
          have c4 := sholdok_any (.slice ao 4 cp) ⟨ks, y4, y5, y6⟩ wc HG.out.2.1.reads (by rw [e4.out]; omega)
          obtain ⟨hd, hhd⟩ : ∃ hd : Hd, hd = ⟨ks, y4, y5, y6⟩ := ⟨_, rfl⟩
          have HK : Hid (hd.ks = ks) := by rw [Hid, hhd]
          rw [← hhd] at c4 HG H4 H5
          rw [← HK.out] at HG
          obtain ⟨b, hb⟩ : ∃ b, b = hd.ok := ⟨_, rfl⟩
          rw [← hb] at c4 H4 H5
          have HS1 : Hid (w.heap.size ≤ wr.heap.size) := B1.out.size
          have HLG : Hid (w.heap.size < wr.heap.size) := R1.out.lt
          unfold HV at c4
          clear hb hhd RK C3 k4 k5 k6 R1 B1 S1 O1 RD RA d4 d5 d6 q4 q5 q6 e4
          go_wp2_with (first | (refine wpList_getS Tryz.isH rfl _ rfl G rfl (hdA (.slice ao 4 cp) hd) rfl HG.out.1 ?_))
          refine c4.mono ?_
          rintro e w5 ⟨rfl, b5⟩
          have P5 : Hid (StB w5 G 26 (hdA (.slice ao 4 cp) hd) ∧ Own w5 wr.heap.size (.slice ao 4 cp) hd.ks ∧ StB w5 w.heap.size 26 zeH ∧ Below w.heap.size w w5) := ⟨HG.out.1.below b5, HG.out.2.1.below b5, HG.out.2.2.1.below b5, HG.out.2.2.2.1.trans (b5.mono HG.out.2.2.2.1.size)⟩
          clear b5 c4 HG
          cases b with
          | false =>
            have HE : Hid (readD s = Hd.zero ∧ readY s = false) := H4.out rfl
            clear H4 H5
            go_upto_region 14 with fail
            go_wp2_with (refine wpList_putS Tryz.isH rfl _ _ rfl w.heap.size (hdA (.slice none 0 0) Hd.zero) zeH rfl rfl rfl rfl (hdA_one _ rfl) P5.out.2.2.1 ?_; intro w6 R6 G6)
            refine bodyPost_ret (results_S2 Tryz.isH rfl _ _ w.heap.size _ _ rfl rfl rfl R6) rfl ?_
            rw [HE.out.1, HE.out.2]
            exact ⟨.slice none 0 0, rfl, Own.nil _ _, P5.out.2.2.2.grown G6 P5.out.2.2.2.size (fun k e => by cases e; exact Nat.le_refl _)⟩
          | true =>
            have HE : Hid (readD s = hd ∧ readY s = true) := H5.out rfl
            clear H4 H5
            go_upto_region 15 with fail
            go_wp2_with (first | (refine wpList_getS Tryz.isH rfl _ rfl G rfl (hdA (.slice ao 4 cp) hd) rfl P5.out.1 ?_) | (refine wpList_putS Tryz.isH rfl _ _ rfl w.heap.size (hdA (.slice ao 4 cp) hd) zeH rfl rfl rfl rfl (hdA_one _ rfl) P5.out.2.2.1 ?_; intro w6 R6 G6))
            refine bodyPost_ret (results_S2 Tryz.isH rfl _ _ w.heap.size _ _ rfl rfl rfl R6) rfl ?_
            rw [HE.out.1, HE.out.2]
            exact ⟨.slice ao 4 cp, rfl, (P5.out.2.1.keptLt G6 HLG.out).mono HS1.out, P5.out.2.2.2.grown G6 P5.out.2.2.2.size (fun k e => by cases e; exact Nat.le_refl _)⟩
  · have HE : Hid (readD s = Hd.zero ∧ readY s = false) := readH_not (E1.out h5)
    have hn7 : ((ws.length : Int) != 7) = true := by simp; omega
    obtain ⟨ao1, cap1, rfl⟩ : ∃ ao1 cap1, u = .slice ao1 ws.length cap1 := by obtain ⟨a, c, e, -⟩ := o1.reads; exact ⟨a, c, e⟩
    clear o1 E1 E3 E4 E5 HPT h5
    go_upto_region 3 with fail
    go_wp2_with (refine wpList_putS Tryz.isH rfl _ _ rfl w.heap.size (hdA (.slice none 0 0) Hd.zero) zeH rfl rfl rfl rfl (hdA_one _ rfl) RS.out ?_; intro w2 R2 G2)
    refine bodyPost_ret (results_S2 Tryz.isH rfl _ _ w.heap.size _ _ rfl rfl rfl R2) rfl ?_
    rw [HE.out.1, HE.out.2]
    exact ⟨.slice none 0 0, rfl, Own.nil _ _, BS.out.grown G2 BS.out.size (fun k e => by cases e; exact Nat.le_refl _)⟩
end Go.Proofs.YtifffiekibdgnaaGreatDoor
