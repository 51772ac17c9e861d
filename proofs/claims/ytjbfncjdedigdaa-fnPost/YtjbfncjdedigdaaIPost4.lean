/- Posts by the program: Taken. -/
import Derived.Test.YtjbfncjdedigdaaM23
namespace Go.Proofs.Ytjbfncjdedigdaa
open Go.ChangeShapes Go.WideShapes Go.ChangeAt Go.RowKit

theorem size_msg (w : World) : (sizeOf (Try.prog.elem 24)).run Try.prog w = .ok 11 w := by kernel_rfl
theorem run_head (b off n ac j : Nat) (hj : j < n) (hn : n ≤ ac) (w : World) : (Instr.slice 24 (.slice (some ⟨b, off, none⟩) n ac) none (some (.int .i64 (j : Int))) none).run Try.prog w = .ok (.slice (some ⟨b, off, none⟩) j ac) w := by
  rw [run_slice_h w 24 _ _ _ (by kernel_rfl) .i64 (j : Int) (by omega) (by omega), size_msg]
  simp only [Result.andThen_ok]
  unfold sliced
  rw [if_neg (by omega)]
  simp [addr_add]
theorem run_tail (b off n ac j : Nat) (hj : j < n) (hc : ac ≠ j + 1) (w : World) : (Instr.slice 24 (.slice (some ⟨b, off, none⟩) n ac) (some (.int .i64 ((j : Int) + 1))) none none).run Try.prog w = .ok (.slice (some ⟨b, off + (j + 1) * 11, none⟩) (n - (j + 1)) (ac - (j + 1))) w := by
  rw [run_slice_l w 24 _ _ _ (by kernel_rfl) .i64 ((j : Int) + 1) (by omega) (by omega), size_msg]
  simp only [Result.andThen_ok]
  have e : ((j : Int) + 1).toNat = j + 1 := by omega
  unfold sliced
  rw [e, if_neg hc]
  simp [addr_add]
theorem run_none (b off j : Nat) (w : World) : (Instr.slice 24 (.slice (some ⟨b, off, none⟩) (j + 1) (j + 1)) (some (.int .i64 ((j : Int) + 1))) none none).run Try.prog w = .ok (.slice (some ⟨b, off, none⟩) 0 0) w := by
  rw [run_slice_l w 24 _ _ _ (by kernel_rfl) .i64 ((j : Int) + 1) (by omega) (by omega), size_msg]
  simp only [Result.andThen_ok]
  have e : ((j : Int) + 1).toNat = j + 1 := by omega
  unfold sliced
  rw [e, if_pos rfl]
  simp
theorem new_two0 (w : World) (t : TypeId) (v v2 : Value) : (w.alloc (.cells #[v, v2] t)).cell? ⟨w.heap.size, 0, none⟩ = some v := (StB.new w t _).cell 0 rfl
theorem new_two1 (w : World) (t : TypeId) (v v2 : Value) : (w.alloc (.cells #[v, v2] t)).cell? ⟨w.heap.size, 1, none⟩ = some v2 := (StB.new w t _).cell 1 rfl
theorem drew_two {w : World} {a : Addr} {v : Value} (h : w.cell? a = some v) : w.drew.cell? a = some v := h
theorem igath2g_any (g : Nat) (v v2 : Value) (ps qs : List (Value × Mg)) (w : World) (k0 : w.cell? ⟨g, 0, none⟩ = some v) (k1 : w.cell? ⟨g, 1, none⟩ = some v2) (hr : RdP w v ps) (hr2 : RdP w v2 qs) (hs : SmP ps) (hs2 : SmP qs) (hl : ps.length ≤ 40) (hl2 : qs.length ≤ 40) :
    Calls Try.prog 33 #[.slice (some ⟨g, 0, none⟩) 2 2] w fun e w' => ∃ u rs, e = .returned u ∧ msOf rs = msOf ps ++ msOf qs ∧ OwnP w' w.heap.size u rs ∧ Below w.heap.size w w' := by
  have h := igath_any g 2 [(v, ps), (v2, qs)] w rfl (by decide) (fun j p e => by
    match j, e with
    | 0, e => cases e; exact k0
    | 1, e => cases e; exact k1) (fun p hp => by
    rcases List.mem_cons.1 hp with rfl | hp
    · exact hr
    · rw [List.mem_singleton] at hp; subst hp; exact hr2) (fun p hp => by
    rcases List.mem_cons.1 hp with rfl | hp
    · exact hs
    · rw [List.mem_singleton] at hp; subst hp; exact hs2) (fun p hp => by
    rcases List.mem_cons.1 hp with rfl | hp
    · exact hl
    · rw [List.mem_singleton] at hp; subst hp; exact hl2)
  refine h.mono ?_
  rintro e w' ⟨u, qs, rfl, eq, o, b2⟩
  exact ⟨u, qs, rfl, by simpa using eq, o, b2⟩
theorem mine_nil (w : World) (base : Nat) : Mine w base (.slice none 0 0) [] := .inl (Own.nil w base)
theorem mineOf_nil (v : Value) : mineOf v [] = [] := by simp [mineOf]
theorem part_head {w : World} {b off n cap : Nat} {ps : List (Value × Mg)} (h : RdP w (.slice (some ⟨b, off, none⟩) n cap) ps) (j : Nat) (hj : j < n) : RdP w (.slice (some ⟨b, off, none⟩) j cap) ((ps.drop 0).take (j - 0)) := by
  have h0 := h.part 0 j (Nat.zero_le _) (Nat.le_of_lt hj)
  obtain ⟨e, hnc, hcm, hel⟩ := h.el
  unfold sliced at h0
  rw [if_neg (show ¬ cap = 0 by omega)] at h0
  simp only [Option.map_some, addr_add, Nat.zero_mul, Nat.add_zero, Nat.sub_zero] at h0 ⊢
  exact h0
theorem part_tail {w : World} {b off n cap : Nat} {ps : List (Value × Mg)} (h : RdP w (.slice (some ⟨b, off, none⟩) n cap) ps) (j : Nat) (hj : j < n) (hc : cap ≠ j + 1) : RdP w (.slice (some ⟨b, off + (j + 1) * 11, none⟩) (n - (j + 1)) (cap - (j + 1))) ((ps.drop (j + 1)).take (ps.length - (j + 1))) := by
  obtain ⟨e, hnc, hcm, hel⟩ := h.el
  have h0 := h.part (j + 1) n hj (Nat.le_refl _)
  unfold sliced at h0
  rw [if_neg hc] at h0
  simp only [Option.map_some, addr_add] at h0
  rw [← e]
  exact h0
theorem part_none {w : World} {b off j : Nat} {ps : List (Value × Mg)} (h : RdP w (.slice (some ⟨b, off, none⟩) (j + 1) (j + 1)) ps) : RdP w (.slice (some ⟨b, off, none⟩) 0 0) ((ps.drop (j + 1)).take (ps.length - (j + 1))) := by
  obtain ⟨e, hnc, hcm, hel⟩ := h.el
  have h0 := h.part (j + 1) (j + 1) (Nat.le_refl _) (Nat.le_refl _)
  unfold sliced at h0
  rw [if_pos rfl] at h0
  rw [← e]
  simpa using h0

set_option maxRecDepth 20000 in
set_option maxHeartbeats 4000000 in
theorem iTaken_any (va : Value) (ps : List (Value × Mg)) (i : Int) (w : World) (ha : RdP w va ps) (sa : SmP ps) :
    Calls Try.prog 12 #[va, .int .i64 i] w fun e w' => ∃ u rs k, e = .returned (.tuple #[u, .agg (mgA k (takeP (msOf ps) i).2.1), .bool (takeP (msOf ps) i).2.2]) ∧ msOf rs = (takeP (msOf ps) i).1 ∧ OwnP w' w.heap.size u rs ∧ Mine w' w.heap.size k (takeP (msOf ps) i).2.1.h.ks ∧ (∀ x ∈ mineOf k (takeP (msOf ps) i).2.1.h.ks, x ∉ psB u rs) ∧ Below w.heap.size w w' := by
  obtain ⟨w0, hw0⟩ : ∃ w0, w0 = w.alloc (.cells zeroMg 35) := ⟨_, rfl⟩
  have b0 : Below w.heap.size w w0 := by rw [hw0]; exact (Below.refl _ _).alloc (Nat.le_refl _) _
  have S0 : Hid (StB w0 w.heap.size 35 zeroMg ∧ Below w.heap.size w w0) := ⟨by rw [hw0]; exact StB.new _ _ _, b0⟩
  have c1 := ipostok_any va ps w0 (ha.below b0) sa
  have HA : Hid (∀ wx, Below w0.heap.size w0 wx → RdP wx va ps) := fun wx b => (ha.below b0).below b
  have CC : Hid (∀ wx, Below w0.heap.size w0 wx → ps.length ≤ 40 → Calls Try.prog 33 #[.slice (some ⟨wx.heap.size, 0, none⟩) 1 1] (wx.alloc (.cells #[va] 24)) fun e w' => ∃ u rs, e = .returned u ∧ msOf rs = msOf ps ∧ OwnP w' wx.heap.size u rs ∧ Below wx.heap.size wx w') := fun wx b l => igath1_any va ps wx (HA.out wx b) sa l
  obtain ⟨r, hr⟩ : ∃ r, r = takeP (msOf ps) i := ⟨_, rfl⟩
  rw [← hr]
  have HR : Hid (r = takeP (msOf ps) i) := hr
  have HSm : Hid (SmP ps) := sa
  have HA0 : Hid (RdP w va ps) := ha
  clear hr
  obtain ⟨x, hx⟩ : ∃ x, x = postOk (msOf ps) := ⟨_, rfl⟩
  rw [← hx] at c1
  obtain ⟨ao, ac, rfl⟩ := ha.form
  have HX : Hid (x = postOk (msOf ps)) := hx
  obtain ⟨-, hnc, hcm, -⟩ := ha.el
  unfold maxLen at hcm
  obtain ⟨n, hn⟩ : ∃ n, n = ps.length := ⟨_, rfl⟩
  rw [← hn] at HA HA0 CC c1 hnc ⊢
  have HN : Hid (n = ps.length) := hn
  clear hx ha sa hn b0
  unfold zeroMg at hw0
  cases x with
  | false =>
    have HE : Hid (r = ([], Mg.zero, false)) := by rw [Hid, HR.out]; unfold takeP; rw [← HX.out]; rfl
    clear HX CC
    go_enter Try.func12, Try.ntmps12
    go_upto_region 1 with fail
    rw [← hw0]
    clear hw0
    go_wp2_with fail
    refine c1.mono ?_
    rintro e w1 ⟨rfl, b1⟩
    have B1 : Below w.heap.size w w1 := S0.out.2.trans (b1.mono S0.out.2.size)
    have S1 : StB (w1.alloc (.cells #[] 35)) w.heap.size 35 zeroMg := (S0.out.1.below b1).alloc _
    have HL : Hid (OwnP (w1.alloc (.cells #[] 35)) w0.heap.size (.slice (some ⟨w1.heap.size, 0, none⟩) 0 0) [] ∧ Below w.heap.size w (w1.alloc (.cells #[] 35)) ∧ w.heap.size < w0.heap.size) := ⟨OwnP.lit w1 _ b1.size, B1.alloc B1.size _, S0.out.1.lt⟩
    clear b1 c1 B1
    go_wp2_with (refine wpList_putS Try.isMg rfl _ _ rfl w.heap.size zeroMg zeroMg rfl rfl rfl rfl (mgA_one Mg.zero rfl) S1 ?_; intro w9 s9 g9)
    refine bodyPost_ret (results_MTM Try.isMg rfl _ _ w.heap.size zeroMg _ _ rfl rfl rfl rfl s9) rfl ?_
    rw [HE.out]
    exact ⟨_, [], .slice none 0 0, rfl, rfl, (HL.out.1.frame (fun x hx => g9.block x (HL.out.1.lt x hx).2 (fun e => by have := (HL.out.1.lt x hx).1; have := HL.out.2.2; cases e; omega))).mono (Nat.le_of_lt HL.out.2.2), mine_nil _ _, fun x hx => by rw [show (([] : List Mg), Mg.zero, false).2.1.h.ks = [] from rfl, mineOf_nil] at hx; simp at hx, HL.out.2.1.grown g9 HL.out.2.1.size (fun x e => by cases e; omega)⟩
  | true =>
    have hn40 : n ≤ 40 := by have := postOk_len HX.out.symm; rw [msOf_len, ← HN.out] at this; exact this
    have CF := fun wx => ifind_any ao n ac i wx hn40
    go_enter Try.func12, Try.ntmps12
    go_upto_region 1 with fail
    rw [← hw0]
    clear hw0
    go_wp2_with fail
    refine c1.mono ?_
    rintro e w1 ⟨rfl, b1⟩
    have B1 : Hid (Below w.heap.size w w1 ∧ Below w0.heap.size w0 w1 ∧ StB w1 w.heap.size 35 zeroMg ∧ w.heap.size < w0.heap.size) := ⟨S0.out.2.trans (b1.mono S0.out.2.size), b1, S0.out.1.below b1, S0.out.1.lt⟩
    clear b1 c1 S0
    by_cases hin : 0 ≤ i ∧ i < (n : Int)
    · have HE : Hid (r = ((msOf ps).eraseIdx i.toNat, (msOf ps).getD i.toNat Mg.zero, true)) := by
        rw [Hid, HR.out]
        unfold takeP
        rw [← HX.out, msOf_len, ← HN.out, if_pos hin]
        rfl
      rw [show decide (0 ≤ i ∧ i < (n : Int)) = true from decide_eq_true hin] at CF
      clear HX HR CC
      obtain ⟨j, hj⟩ : ∃ j : Nat, i = j := ⟨i.toNat, by omega⟩
      subst hj
      obtain ⟨-, hjn⟩ := hin
      by_cases hac : ac = j + 1
      · subst hac
        obtain rfl : n = j + 1 := by omega
        obtain ⟨b, off, u, m, he, hb, hrk, hc⟩ := (HA.out w1 B1.out.2.1).el.2.2.2 j (by omega)
        cases hb
        have HT : Hid (∀ wx, Below w1.heap.size w1 wx → RdP wx (.slice (some ⟨b, off, none⟩) j (j + 1)) ((ps.drop 0).take (j - 0)) ∧ RdP wx (.slice (some ⟨b, off, none⟩) 0 0) ((ps.drop (j + 1)).take (ps.length - (j + 1)))) := fun wx bb => ⟨part_head (HA.out wx (B1.out.2.1.trans (bb.mono B1.out.2.1.size))) j (by omega), part_none (HA.out wx (B1.out.2.1.trans (bb.mono B1.out.2.1.size)))⟩
        have C1 : Hid (∀ g wx, Below w1.heap.size w1 wx → wx.cell? ⟨g, 0, none⟩ = some (.slice (some ⟨b, off, none⟩) j (j + 1)) → wx.cell? ⟨g, 1, none⟩ = some (.slice (some ⟨b, off, none⟩) 0 0) → Calls Try.prog 33 #[.slice (some ⟨g, 0, none⟩) 2 2] wx fun e w' => ∃ u rs, e = .returned u ∧ msOf rs = (msOf ps).eraseIdx j ∧ OwnP w' wx.heap.size u rs ∧ Below wx.heap.size wx w') := fun g wx bb k0 k1 => by
          rw [← msOf_erase]
          exact igath2g_any g _ _ _ _ wx k0 k1 (HT.out wx bb).1 (HT.out wx bb).2 (HSm.out.part _ _) (HSm.out.part _ _) (by rw [List.length_take]; omega) (by rw [List.length_take, ← HN.out]; omega)
        have C2 : Hid (∀ wx, Below w1.heap.size w1 wx → Calls Try.prog 36 #[.agg (mgA u m)] wx fun e w' => ∃ u, e = .returned (.agg (mgA u m)) ∧ Mine w' wx.heap.size u m.h.ks ∧ Below wx.heap.size wx w') := fun wx b => ifreshMsg_any u m wx (hrk.below b (Nat.le_refl _)) (HSm.out.at he)
        have HM : Hid ((msOf ps).getD (j : Int).toNat Mg.zero = m) := by
          have := msOf_at he
          rw [Hid]
          simp [List.getD, this]
        have hbg : b ≠ w.heap.size := by
          obtain ⟨b', off', u', m', _, e, _, hc'⟩ := HA0.out.el.2.2.2 j (by omega)
          cases e
          have := World.block_lt_of_cell? w _ (hc' 0 (by decide))
          exact Nat.ne_of_lt this
        have q0 : ∀ w', Sp w.heap.size w1 w' → w'.cell? ⟨b, off + j * 11, none⟩ = some (.int .i64 m.dst) := fun w' bb => bb _ _ hbg (hc 0 (by decide))
        have q1 : ∀ w', Sp w.heap.size w1 w' → w'.cell? ⟨b, off + j * 11 + 1, none⟩ = some (.int .i64 m.kd) := fun w' bb => bb _ _ hbg (hc 1 (by decide))
        have q2 : ∀ w', Sp w.heap.size w1 w' → w'.cell? ⟨b, off + j * 11 + 2, none⟩ = some (.int .i64 m.tr) := fun w' bb => bb _ _ hbg (hc 2 (by decide))
        have q3 : ∀ w', Sp w.heap.size w1 w' → w'.cell? ⟨b, off + j * 11 + 3, none⟩ = some (.int .i64 m.pl) := fun w' bb => bb _ _ hbg (hc 3 (by decide))
        have q4 : ∀ w', Sp w.heap.size w1 w' → w'.cell? ⟨b, off + j * 11 + 4, none⟩ = some (.int .i64 m.tn) := fun w' bb => bb _ _ hbg (hc 4 (by decide))
        have q5 : ∀ w', Sp w.heap.size w1 w' → w'.cell? ⟨b, off + j * 11 + 5, none⟩ = some (.int .i64 m.va) := fun w' bb => bb _ _ hbg (hc 5 (by decide))
        have q6 : ∀ w', Sp w.heap.size w1 w' → w'.cell? ⟨b, off + j * 11 + 6, none⟩ = some (.int .i64 m.ep) := fun w' bb => bb _ _ hbg (hc 6 (by decide))
        have q7 : ∀ w', Sp w.heap.size w1 w' → w'.cell? ⟨b, off + j * 11 + 7, none⟩ = some (u) := fun w' bb => bb _ _ hbg (hc 7 (by decide))
        have q8 : ∀ w', Sp w.heap.size w1 w' → w'.cell? ⟨b, off + j * 11 + 8, none⟩ = some (.int .i64 m.h.kd) := fun w' bb => bb _ _ hbg (hc 8 (by decide))
        have q9 : ∀ w', Sp w.heap.size w1 w' → w'.cell? ⟨b, off + j * 11 + 9, none⟩ = some (.int .i64 m.h.ho) := fun w' bb => bb _ _ hbg (hc 9 (by decide))
        have q10 : ∀ w', Sp w.heap.size w1 w' → w'.cell? ⟨b, off + j * 11 + 10, none⟩ = some (.int .i64 m.h.tu) := fun w' bb => bb _ _ hbg (hc 10 (by decide))
        clear hc hrk he HA HA0 HT
        have y1 := run_head b off (j + 1) (j + 1) j (by omega) (by omega)
        have y2 := run_none b off j
        have y4 : (j : Int) < (j : Int) + 1 := by omega
        have y5 : (0 : Int) ≤ (j : Int) := by omega
        have y6 : j < j + 1 := by omega
        have y3 : IntKind.i64.wrap ((j : Int) + 1) = (j : Int) + 1 := by rw [IntKind.wrap_i64]; omega
        conv at C2 in (mgA u m) => unfold mgA
        go_wp2_with fail
        refine (CF _).mono ?_
        rintro e w' ⟨⟨k, rfl, hk⟩, hw⟩
        subst w'
        have hk := hk (by omega)
        subst hk
        clear CF
        go_upto_region 6 with fail
        go_region_held3 (fun w' => Sp w.heap.size w1 w') ((repeat' (first | with_reducible assumption | with_reducible exact Sp.refl _ _ | with_reducible refine Sp.al ?_ | with_reducible refine Sp.dr ?_ | with_reducible refine Sp.set ?_ | with_reducible refine Sp.put ?_ (by with_reducible assumption) | with_reducible refine Sp.bel ?_ (by with_reducible assumption))))
          (first
            | (go_at_call 33; refine (C1.out _ _ (by repeat' (first | with_reducible assumption | with_reducible exact Below.refl _ _ | with_reducible refine bel_alloc ?_ | with_reducible refine bel_drew ?_ | with_reducible refine bel_trans ?_ (by with_reducible assumption))) (by repeat' (first | with_reducible exact new_two0 _ _ _ _ | with_reducible refine drew_two ?_)) (by repeat' (first | with_reducible exact new_two1 _ _ _ _ | with_reducible refine drew_two ?_))).mono ?_; rintro e w3 ⟨u3, rs, rfl, er, o3, b3⟩; have B3 : Hid (Below w1.heap.size w1 w3 ∧ OwnP w3 w1.heap.size u3 rs ∧ msOf rs = (msOf ps).eraseIdx j) := ⟨(show Below w1.heap.size w1 w3 from (by repeat' (first | with_reducible assumption | with_reducible exact Below.refl _ _ | with_reducible refine bel_alloc ?_ | with_reducible refine bel_drew ?_ | with_reducible refine bel_trans ?_ (by with_reducible assumption)))), o3.mono (bl_size (by repeat' (first | with_reducible assumption | with_reducible exact Below.refl _ _ | with_reducible refine bel_alloc ?_ | with_reducible refine bel_drew ?_ | with_reducible refine bel_trans ?_ (by with_reducible assumption)))), er⟩; clear o3 er)
            | (go_at_call 36; refine (C2.out _ (by repeat' (first | with_reducible assumption | with_reducible exact Below.refl _ _ | with_reducible refine bel_alloc ?_ | with_reducible refine bel_drew ?_ | with_reducible refine bel_trans ?_ (by with_reducible assumption)))).mono ?_; rintro e w4 ⟨u4, rfl, o4, b4⟩; have B4 : Hid (Below w1.heap.size w1 w4 ∧ OwnP w4 w1.heap.size u3 rs ∧ msOf rs = (msOf ps).eraseIdx j ∧ Mine w4 w3.heap.size u4 m.h.ks ∧ (∀ x ∈ psB u3 rs, x < w3.heap.size)) := ⟨(show Below w1.heap.size w1 w4 from (by repeat' (first | with_reducible assumption | with_reducible exact Below.refl _ _ | with_reducible refine bel_alloc ?_ | with_reducible refine bel_drew ?_ | with_reducible refine bel_trans ?_ (by with_reducible assumption)))), (B3.out.2.1.below (show Below w3.heap.size w3 w4 from (by repeat' (first | with_reducible assumption | with_reducible exact Below.refl _ _ | with_reducible refine bel_alloc ?_ | with_reducible refine bel_drew ?_ | with_reducible refine bel_trans ?_ (by with_reducible assumption))))), B3.out.2.2, o4.mono (bl_size (by repeat' (first | with_reducible assumption | with_reducible exact Below.refl _ _ | with_reducible refine bel_alloc ?_ | with_reducible refine bel_drew ?_ | with_reducible refine bel_trans ?_ (by with_reducible assumption)))), fun x hx => (B3.out.2.1.lt x hx).2⟩; have hu4 : u4.oneCell' = true := reads_one o4.reads; have S4 : Hid (StB w4 w.heap.size 35 zeroMg) := B1.out.2.2.1.below B4.out.1; clear o4)
            | ((with_reducible show Oper.upon _ _ _ _ _ (Result.andThen (Sem.run _ (storeCells _ (mgA _ _).toList) _) _)); refine upon_putS w.heap.size 35 (mgA u4 m) zeroMg rfl (mgA_one _ hu4) S4.out ?_; intro w6 s6 g6))
        all_goals
          (try go_wp2)
          refine bodyPost_ret (results_MTM Try.isMg rfl _ _ w.heap.size (mgA u4 m) _ _ rfl rfl rfl rfl s6) rfl ?_
          rw [HE.out, HM.out]
          have hlt := B1.out.2.2.1.lt
          have B9 := B1.out.1.trans (B4.out.1.mono B1.out.1.size)
          have hlw : w1.heap.size ≤ w3.heap.size := B3.out.1.size
          exact ⟨_, rs, u4, rfl, B4.out.2.2.1, (B4.out.2.1.frame (fun x hx => g6.block x (B4.out.2.1.lt x hx).2 (fun e => by have := (B4.out.2.1.lt x hx).1; cases e; omega))).mono (Nat.le_of_lt hlt), (B4.out.2.2.2.1.keptLt g6 (by omega)).mono (by omega), fun x hx hy => by
            have h1 := (mineOf_lt B4.out.2.2.2.1 hx).1
            have h2 := B4.out.2.2.2.2 x hy
            omega, B9.grown g6 B9.size (fun x e => by cases e; omega)⟩
      · have hac2 : ¬ (ac : Int) = (j : Int) + 1 := by omega
        obtain ⟨b, off, u, m, he, hb, hrk, hc⟩ := (HA.out w1 B1.out.2.1).el.2.2.2 j (by omega)
        cases hb
        have HT : Hid (∀ wx, Below w1.heap.size w1 wx → RdP wx (.slice (some ⟨b, off, none⟩) j (ac)) ((ps.drop 0).take (j - 0)) ∧ RdP wx (.slice (some ⟨b, off + (j + 1) * 11, none⟩) (n - (j + 1)) (ac - (j + 1))) ((ps.drop (j + 1)).take (ps.length - (j + 1)))) := fun wx bb => ⟨part_head (HA.out wx (B1.out.2.1.trans (bb.mono B1.out.2.1.size))) j (by omega), part_tail (HA.out wx (B1.out.2.1.trans (bb.mono B1.out.2.1.size))) j (by omega) hac⟩
        have C1 : Hid (∀ g wx, Below w1.heap.size w1 wx → wx.cell? ⟨g, 0, none⟩ = some (.slice (some ⟨b, off, none⟩) j (ac)) → wx.cell? ⟨g, 1, none⟩ = some (.slice (some ⟨b, off + (j + 1) * 11, none⟩) (n - (j + 1)) (ac - (j + 1))) → Calls Try.prog 33 #[.slice (some ⟨g, 0, none⟩) 2 2] wx fun e w' => ∃ u rs, e = .returned u ∧ msOf rs = (msOf ps).eraseIdx j ∧ OwnP w' wx.heap.size u rs ∧ Below wx.heap.size wx w') := fun g wx bb k0 k1 => by
          rw [← msOf_erase]
          exact igath2g_any g _ _ _ _ wx k0 k1 (HT.out wx bb).1 (HT.out wx bb).2 (HSm.out.part _ _) (HSm.out.part _ _) (by rw [List.length_take]; omega) (by rw [List.length_take, ← HN.out]; omega)
        have C2 : Hid (∀ wx, Below w1.heap.size w1 wx → Calls Try.prog 36 #[.agg (mgA u m)] wx fun e w' => ∃ u, e = .returned (.agg (mgA u m)) ∧ Mine w' wx.heap.size u m.h.ks ∧ Below wx.heap.size wx w') := fun wx b => ifreshMsg_any u m wx (hrk.below b (Nat.le_refl _)) (HSm.out.at he)
        have HM : Hid ((msOf ps).getD (j : Int).toNat Mg.zero = m) := by
          have := msOf_at he
          rw [Hid]
          simp [List.getD, this]
        have hbg : b ≠ w.heap.size := by
          obtain ⟨b', off', u', m', _, e, _, hc'⟩ := HA0.out.el.2.2.2 j (by omega)
          cases e
          have := World.block_lt_of_cell? w _ (hc' 0 (by decide))
          exact Nat.ne_of_lt this
        have q0 : ∀ w', Sp w.heap.size w1 w' → w'.cell? ⟨b, off + j * 11, none⟩ = some (.int .i64 m.dst) := fun w' bb => bb _ _ hbg (hc 0 (by decide))
        have q1 : ∀ w', Sp w.heap.size w1 w' → w'.cell? ⟨b, off + j * 11 + 1, none⟩ = some (.int .i64 m.kd) := fun w' bb => bb _ _ hbg (hc 1 (by decide))
        have q2 : ∀ w', Sp w.heap.size w1 w' → w'.cell? ⟨b, off + j * 11 + 2, none⟩ = some (.int .i64 m.tr) := fun w' bb => bb _ _ hbg (hc 2 (by decide))
        have q3 : ∀ w', Sp w.heap.size w1 w' → w'.cell? ⟨b, off + j * 11 + 3, none⟩ = some (.int .i64 m.pl) := fun w' bb => bb _ _ hbg (hc 3 (by decide))
        have q4 : ∀ w', Sp w.heap.size w1 w' → w'.cell? ⟨b, off + j * 11 + 4, none⟩ = some (.int .i64 m.tn) := fun w' bb => bb _ _ hbg (hc 4 (by decide))
        have q5 : ∀ w', Sp w.heap.size w1 w' → w'.cell? ⟨b, off + j * 11 + 5, none⟩ = some (.int .i64 m.va) := fun w' bb => bb _ _ hbg (hc 5 (by decide))
        have q6 : ∀ w', Sp w.heap.size w1 w' → w'.cell? ⟨b, off + j * 11 + 6, none⟩ = some (.int .i64 m.ep) := fun w' bb => bb _ _ hbg (hc 6 (by decide))
        have q7 : ∀ w', Sp w.heap.size w1 w' → w'.cell? ⟨b, off + j * 11 + 7, none⟩ = some (u) := fun w' bb => bb _ _ hbg (hc 7 (by decide))
        have q8 : ∀ w', Sp w.heap.size w1 w' → w'.cell? ⟨b, off + j * 11 + 8, none⟩ = some (.int .i64 m.h.kd) := fun w' bb => bb _ _ hbg (hc 8 (by decide))
        have q9 : ∀ w', Sp w.heap.size w1 w' → w'.cell? ⟨b, off + j * 11 + 9, none⟩ = some (.int .i64 m.h.ho) := fun w' bb => bb _ _ hbg (hc 9 (by decide))
        have q10 : ∀ w', Sp w.heap.size w1 w' → w'.cell? ⟨b, off + j * 11 + 10, none⟩ = some (.int .i64 m.h.tu) := fun w' bb => bb _ _ hbg (hc 10 (by decide))
        clear hc hrk he HA HA0 HT
        have y1 := run_head b off (n) (ac) j (by omega) (by omega)
        have y2 := run_tail b off n ac j (by omega) hac
        have y4 : (j : Int) < (j : Int) + 1 := by omega
        have y5 : (0 : Int) ≤ (j : Int) := by omega
        have y6 : j < j + 1 := by omega
        have y3 : IntKind.i64.wrap ((j : Int) + 1) = (j : Int) + 1 := by rw [IntKind.wrap_i64]; omega
        conv at C2 in (mgA u m) => unfold mgA
        go_wp2_with fail
        refine (CF _).mono ?_
        rintro e w' ⟨⟨k, rfl, hk⟩, hw⟩
        subst w'
        have hk := hk (by omega)
        subst hk
        clear CF
        go_upto_region 6 with fail
        go_region_held3 (fun w' => Sp w.heap.size w1 w') ((repeat' (first | with_reducible assumption | with_reducible exact Sp.refl _ _ | with_reducible refine Sp.al ?_ | with_reducible refine Sp.dr ?_ | with_reducible refine Sp.set ?_ | with_reducible refine Sp.put ?_ (by with_reducible assumption) | with_reducible refine Sp.bel ?_ (by with_reducible assumption))))
          (first
            | (go_at_call 33; refine (C1.out _ _ (by repeat' (first | with_reducible assumption | with_reducible exact Below.refl _ _ | with_reducible refine bel_alloc ?_ | with_reducible refine bel_drew ?_ | with_reducible refine bel_trans ?_ (by with_reducible assumption))) (by repeat' (first | with_reducible exact new_two0 _ _ _ _ | with_reducible refine drew_two ?_)) (by repeat' (first | with_reducible exact new_two1 _ _ _ _ | with_reducible refine drew_two ?_))).mono ?_; rintro e w3 ⟨u3, rs, rfl, er, o3, b3⟩; have B3 : Hid (Below w1.heap.size w1 w3 ∧ OwnP w3 w1.heap.size u3 rs ∧ msOf rs = (msOf ps).eraseIdx j) := ⟨(show Below w1.heap.size w1 w3 from (by repeat' (first | with_reducible assumption | with_reducible exact Below.refl _ _ | with_reducible refine bel_alloc ?_ | with_reducible refine bel_drew ?_ | with_reducible refine bel_trans ?_ (by with_reducible assumption)))), o3.mono (bl_size (by repeat' (first | with_reducible assumption | with_reducible exact Below.refl _ _ | with_reducible refine bel_alloc ?_ | with_reducible refine bel_drew ?_ | with_reducible refine bel_trans ?_ (by with_reducible assumption)))), er⟩; clear o3 er)
            | (go_at_call 36; refine (C2.out _ (by repeat' (first | with_reducible assumption | with_reducible exact Below.refl _ _ | with_reducible refine bel_alloc ?_ | with_reducible refine bel_drew ?_ | with_reducible refine bel_trans ?_ (by with_reducible assumption)))).mono ?_; rintro e w4 ⟨u4, rfl, o4, b4⟩; have B4 : Hid (Below w1.heap.size w1 w4 ∧ OwnP w4 w1.heap.size u3 rs ∧ msOf rs = (msOf ps).eraseIdx j ∧ Mine w4 w3.heap.size u4 m.h.ks ∧ (∀ x ∈ psB u3 rs, x < w3.heap.size)) := ⟨(show Below w1.heap.size w1 w4 from (by repeat' (first | with_reducible assumption | with_reducible exact Below.refl _ _ | with_reducible refine bel_alloc ?_ | with_reducible refine bel_drew ?_ | with_reducible refine bel_trans ?_ (by with_reducible assumption)))), (B3.out.2.1.below (show Below w3.heap.size w3 w4 from (by repeat' (first | with_reducible assumption | with_reducible exact Below.refl _ _ | with_reducible refine bel_alloc ?_ | with_reducible refine bel_drew ?_ | with_reducible refine bel_trans ?_ (by with_reducible assumption))))), B3.out.2.2, o4.mono (bl_size (by repeat' (first | with_reducible assumption | with_reducible exact Below.refl _ _ | with_reducible refine bel_alloc ?_ | with_reducible refine bel_drew ?_ | with_reducible refine bel_trans ?_ (by with_reducible assumption)))), fun x hx => (B3.out.2.1.lt x hx).2⟩; have hu4 : u4.oneCell' = true := reads_one o4.reads; have S4 : Hid (StB w4 w.heap.size 35 zeroMg) := B1.out.2.2.1.below B4.out.1; clear o4)
            | ((with_reducible show Oper.upon _ _ _ _ _ (Result.andThen (Sem.run _ (storeCells _ (mgA _ _).toList) _) _)); refine upon_putS w.heap.size 35 (mgA u4 m) zeroMg rfl (mgA_one _ hu4) S4.out ?_; intro w6 s6 g6))
        all_goals
          (try go_wp2)
          refine bodyPost_ret (results_MTM Try.isMg rfl _ _ w.heap.size (mgA u4 m) _ _ rfl rfl rfl rfl s6) rfl ?_
          rw [HE.out, HM.out]
          have hlt := B1.out.2.2.1.lt
          have B9 := B1.out.1.trans (B4.out.1.mono B1.out.1.size)
          have hlw : w1.heap.size ≤ w3.heap.size := B3.out.1.size
          exact ⟨_, rs, u4, rfl, B4.out.2.2.1, (B4.out.2.1.frame (fun x hx => g6.block x (B4.out.2.1.lt x hx).2 (fun e => by have := (B4.out.2.1.lt x hx).1; cases e; omega))).mono (Nat.le_of_lt hlt), (B4.out.2.2.2.1.keptLt g6 (by omega)).mono (by omega), fun x hx hy => by
            have h1 := (mineOf_lt B4.out.2.2.2.1 hx).1
            have h2 := B4.out.2.2.2.2 x hy
            omega, B9.grown g6 B9.size (fun x e => by cases e; omega)⟩
    · have HF : Hid (r = (msOf ps, Mg.zero, false)) := by
        rw [Hid, HR.out]
        unfold takeP
        rw [← HX.out, msOf_len, ← HN.out, if_neg hin]
        rfl
      have HNo : Hid (∀ w2 w9 u2 rs, msOf rs = msOf ps → OwnP w2 w1.heap.size u2 rs → Below w1.heap.size w1 w2 → StB w9 w.heap.size 35 zeroMg → w2.grownBy w9 (some w.heap.size) → ∃ u rs k, Ending.returned (.tuple #[u2, .agg zeroMg, .bool false]) = .returned (.tuple #[u, .agg (mgA k r.2.1), .bool r.2.2]) ∧ msOf rs = r.1 ∧ OwnP w9 w.heap.size u rs ∧ Mine w9 w.heap.size k r.2.1.h.ks ∧ (∀ x ∈ mineOf k r.2.1.h.ks, x ∉ psB u rs) ∧ Below w.heap.size w w9) := by
        intro w2 w9 u2 rs er o2 b2 s9 g9
        have B2 : Below w.heap.size w w2 := B1.out.1.trans (b2.mono B1.out.1.size)
        rw [HF.out]
        exact ⟨u2, rs, .slice none 0 0, rfl, er, (o2.frame (fun x hx => g9.block x (o2.lt x hx).2 (fun e => by have := (o2.lt x hx).1; have := B1.out.2.2.1.lt; cases e; omega))).mono B1.out.1.size, mine_nil _ _, fun x hx => by rw [show (msOf ps, Mg.zero, false).2.1.h.ks = [] from rfl, mineOf_nil] at hx; simp at hx, B2.grown g9 B2.size (fun x e => by cases e; omega)⟩
      rw [show decide (0 ≤ i ∧ i < (n : Int)) = false from decide_eq_false hin] at CF
      clear HX HR HF hin
      go_wp2_with fail
      refine (CF _).mono ?_
      rintro e w' ⟨⟨k, rfl, -⟩, hw⟩
      subst w'
      clear CF
      go_wp2_with fail
      refine (CC.out w1 B1.out.2.1 hn40).mono ?_
      rintro e w2 ⟨u2, rs, rfl, er, o2, b2⟩
      have S2 : StB w2 w.heap.size 35 zeroMg := B1.out.2.2.1.below b2
      have HP : Hid (msOf rs = msOf ps ∧ OwnP w2 w1.heap.size u2 rs ∧ Below w1.heap.size w1 w2) := ⟨er, o2, b2⟩
      clear er o2 b2
      go_wp2_with (refine wpList_putS Try.isMg rfl _ _ rfl w.heap.size zeroMg zeroMg rfl rfl rfl rfl (mgA_one Mg.zero rfl) S2 ?_; intro w9 s9 g9)
      refine bodyPost_ret (results_MTM Try.isMg rfl _ _ w.heap.size zeroMg _ _ rfl rfl rfl rfl s9) rfl ?_
      exact HNo.out w2 w9 u2 rs HP.out.1 HP.out.2.1 HP.out.2.2 s9 g9
end Go.Proofs.Ytjbfncjdedigdaa
