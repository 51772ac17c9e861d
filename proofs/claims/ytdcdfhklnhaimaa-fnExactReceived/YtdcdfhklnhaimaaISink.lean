/- The program's sinks: SinkOk, NewSink, Fits, Received. -/
import Derived.Test.YtdcdfhklnhaimaaISinkA
namespace Go.Proofs.Ytdcdfhklnhaimaa
open Go.ChangeShapes Go.WideShapes Go.ChangeAt Go.RowKit

def Sn.unused (c : Sn) : Bool := decide (c.tr = 0) && decide (c.ts.length = 0)
theorem Sn.ok_unused {c : Sn} (h : c.unused = true) : c.ok = true := by
  unfold Sn.unused at h
  simp only [Bool.and_eq_true, decide_eq_true_eq] at h
  unfold Sn.ok
  rw [if_pos h.1]
  simpa using h.2
theorem Sn.ok_used {c : Sn} (h : c.unused = false) : c.ok = (inI c.tr 1 100000 && (turnsI c.ts && inI c.ts.length 1 8)) := by
  unfold Sn.unused at h
  unfold Sn.ok
  by_cases e : c.tr = 0
  · rw [if_pos e]
    rw [decide_eq_true e, Bool.true_and] at h
    rw [h]
    have : inI c.tr 1 100000 = false := by rw [e]; decide
    rw [this]
    rfl
  · rw [if_neg e]

set_option maxRecDepth 20000 in
set_option maxHeartbeats 1000000 in
theorem iunusedS_any (v : Value) (c : Sn) (w : World) (hr : Reads w v c.ts) :
    Calls Try.prog 37 #[SnV v c] w fun e w' => e = .returned (.bool c.unused) ∧ Below w.heap.size w w' := by
  have HE : Hid (c.unused = (decide (c.tr = 0) && decide (c.ts.length = 0))) := rfl
  obtain ⟨ao, cap, rfl⟩ := reads_form hr
  obtain ⟨x, hx⟩ : ∃ x, x = c.unused := ⟨_, rfl⟩
  rw [← hx] at HE ⊢
  obtain ⟨n, hn⟩ : ∃ n, n = c.ts.length := ⟨_, rfl⟩
  unfold SnV snA
  rw [← hn] at HE ⊢
  clear hr hx hn
  by_cases ht : c.tr = 0
  · have e1 : (c.tr == 0) = true := by simpa using ht
    by_cases hn0 : (n : Int) = 0
    · have e4 : ((n : Int) == 0) = true := by simpa using hn0
      go_enter Try.func37, Try.ntmps37
      go_wp2
      go_ret
      exact ⟨ret_bool (by rw [HE.out]; simp [ht, (by omega : n = 0)]), (Below.refl _ _).alloc (Nat.le_refl _) _⟩
    · have e4 : ((n : Int) == 0) = false := by simpa using hn0
      go_enter Try.func37, Try.ntmps37
      go_wp2
      go_ret
      exact ⟨ret_bool (by rw [HE.out, show decide (n = 0) = false from decide_eq_false (by omega), Bool.and_false]), (Below.refl _ _).alloc (Nat.le_refl _) _⟩
  · have e1 : (c.tr == 0) = false := by simpa using ht
    go_enter Try.func37, Try.ntmps37
    go_wp2
    go_ret
    exact ⟨ret_bool (by rw [HE.out]; simp [ht]), (Below.refl _ _).alloc (Nat.le_refl _) _⟩

set_option maxRecDepth 20000 in
set_option maxHeartbeats 1000000 in
theorem irowof_any (ao : Option Addr) (n cap : Nat) (t : Int) (w : World) :
    Calls Try.prog 28 #[.agg #[.int .i64 t, .slice ao n cap]] w fun e w' => e = .returned (.slice ao n cap) ∧ Below w.heap.size w w' := by
  go_enter Try.func28, Try.ntmps28
  go_wp2
  go_ret
  exact ⟨rfl, (Below.refl _ _).alloc (Nat.le_refl _) _⟩

set_option maxRecDepth 20000 in
set_option maxHeartbeats 2000000 in
theorem isinkok_any (v : Value) (c : Sn) (w : World) (hr : Reads w v c.ts) (hl : c.ts.length ≤ 1099511627776) :
    Calls Try.prog 17 #[SnV v c] w fun e w' => e = .returned (.bool c.ok) ∧ Below w.heap.size w w' := by
  have HU : Hid (c.unused = true → c.ok = true) := Sn.ok_unused
  have HE : Hid (c.unused = false → c.ok = (inI c.tr 1 100000 && (turnsI c.ts && inI c.ts.length 1 8))) := Sn.ok_used
  obtain ⟨w1, hw1⟩ : ∃ w1, w1 = w.alloc (.cells (snA v c) 26) := ⟨_, rfl⟩
  have H1 : StB w1 w.heap.size 26 (snA v c) := by rw [hw1]; exact StB.new _ _ _
  have B1 : Below w.heap.size w w1 := by rw [hw1]; exact (Below.refl _ _).alloc (Nat.le_refl _) _
  have cu := iunusedS_any v c w1 (hr.below B1 (Nat.le_refl _))
  have HR : Hid (∀ w2, Below w1.heap.size w1 w2 → Reads w2 v c.ts) := fun w2 b => (hr.below B1 (Nat.le_refl _)).below b (Nat.le_refl _)
  have HS : Hid (∀ w2, Below w1.heap.size w1 w2 → StB w2 w.heap.size 26 (snA v c) ∧ Below w.heap.size w w2) := fun w2 b => ⟨H1.below b, B1.trans (b.mono B1.size)⟩
  obtain ⟨ao, cap, rfl⟩ := reads_form hr
  have HW : Hid (w1 = w.alloc (.cells #[.int .i64 c.tr, .slice ao c.ts.length cap] 26)) := hw1
  have k0 : w1.cell? ⟨w.heap.size, 0, none⟩ = some (.int .i64 c.tr) := H1.cell 0 rfl
  have k1 : w1.cell? ⟨w.heap.size, 1, none⟩ = some (.slice ao c.ts.length cap) := H1.cell 1 rfl
  have ct := fun wx => itry_any c.tr wx
  have cs := fun wx h => iturns_any (.slice ao c.ts.length cap) c.ts wx h hl
  obtain ⟨x, hx⟩ : ∃ x, x = c.ok := ⟨_, rfl⟩
  rw [← hx] at HE HU ⊢
  obtain ⟨bu, hbu⟩ : ∃ bu, bu = c.unused := ⟨_, rfl⟩
  rw [← hbu] at HE HU cu
  obtain ⟨bt, hbt⟩ : ∃ bt, bt = inI c.tr 1 100000 := ⟨_, rfl⟩
  rw [← hbt] at HE
  simp only [← hbt] at ct
  obtain ⟨bs, hbs⟩ : ∃ bs, bs = (turnsI c.ts && inI c.ts.length 1 8) := ⟨_, rfl⟩
  rw [← hbs] at HE
  simp only [← hbs] at cs
  have HCS : Hid _ := cs
  unfold SnV snA at cu ⊢
  clear hw1 H1 hr hx hbu hbt hbs B1 cs
  go_enter Try.func17, Try.ntmps17
  go_wp2_with fail
  rw [← HW.out]
  refine cu.mono ?_
  rintro e w2 ⟨rfl, b2⟩
  clear HW cu k0 k1
  have HB : Hid (Below w.heap.size w w2) := (HS.out w2 b2).2
  have H2 := (HS.out w2 b2).1
  have cs := HCS.out w2 (HR.out w2 b2)
  have k0 : w2.cell? ⟨w.heap.size, 0, none⟩ = some (.int .i64 c.tr) := H2.cell 0 rfl
  have k1 : w2.cell? ⟨w.heap.size, 1, none⟩ = some (.slice ao c.ts.length cap) := H2.cell 1 rfl
  clear HCS HS HR H2 b2
  cases bu with
  | true =>
    have HX : Hid (x = true) := HU.out rfl
    clear HU HE
    go_wp2
    go_ret
    exact ⟨ret_bool (by rw [HX.out]), HB.out⟩
  | false =>
    have HX : Hid (x = (bt && bs)) := HE.out rfl
    clear HU HE
    go_wp2_with fail
    refine (ct _).mono ?_
    rintro e w' ⟨rfl, hw⟩; subst w'
    clear ct
    cases bt with
    | false =>
      go_wp2
      go_ret
      exact ⟨ret_bool (by rw [HX.out]; rfl), HB.out⟩
    | true =>
      go_wp2_with fail
      refine cs.mono ?_
      rintro e w' ⟨rfl, hw⟩; subst w'
      clear cs
      go_wp2
      go_ret
      exact ⟨ret_bool (by rw [HX.out]; rfl), HB.out⟩

set_option maxRecDepth 20000 in
set_option maxHeartbeats 2000000 in
theorem inewS_any (n t : Int) (w : World) :
    Calls Try.prog 13 #[.int .i64 n, .int .i64 t] w fun e w' => ∃ u, e = .returned (.tuple #[SnV u (Sn.new n t), .bool (Cp.made n t)]) ∧ Own w' w.heap.size u (Sn.new n t).ts ∧ Below w.heap.size w w' := by
  obtain ⟨i0, hi, hz0, hz1, hz2⟩ := info_parts Try.infoI
  have HE : Hid (Cp.made n t = (inI n 1 8 && inI t 1 100000)) := rfl
  have HN : Hid (Sn.new n t = if Cp.made n t then ⟨t, List.replicate n.toNat 0⟩ else Sn.zero) := rfl
  obtain ⟨m, hm⟩ : ∃ m, m = Cp.made n t := ⟨_, rfl⟩
  rw [← hm] at HE HN ⊢
  obtain ⟨c, hc⟩ : ∃ c, c = Sn.new n t := ⟨_, rfl⟩
  rw [← hc] at HN ⊢
  have c1 := fun wx => icount_any n wx
  have c2 := fun wx => itry_any t wx
  have HI : Hid (inI n 1 8 = true → 1 ≤ n ∧ n ≤ 8) := (inI_iff n 1 8).1
  obtain ⟨b1, hb1⟩ : ∃ b1, b1 = inI n 1 8 := ⟨_, rfl⟩
  rw [← hb1] at HE HI
  simp only [← hb1] at c1
  obtain ⟨b2, hb2⟩ : ∃ b2, b2 = inI t 1 100000 := ⟨_, rfl⟩
  rw [← hb2] at HE
  simp only [← hb2] at c2
  clear hm hc hb1 hb2
  obtain ⟨w1, hw1⟩ : ∃ w1, w1 = w.alloc (.cells zeroSn 26) := ⟨_, rfl⟩
  have p0 : StB w1 w.heap.size 26 zeroSn := by rw [hw1]; exact StB.new w _ _
  have HB : Hid (Below w.heap.size w w1) := by rw [hw1]; exact (Below.refl _ _).alloc (Nat.le_refl _) _
  unfold zeroSn at hw1
  go_enter Try.func13, Try.ntmps13
  go_upto_region 1 with fail
  rw [← hw1]
  clear hw1
  go_wp2_with fail
  refine (c1 _).mono ?_
  rintro e w' ⟨rfl, hw⟩; subst w'
  clear c1
  cases b1 with
  | false =>
    have HM : Hid (m = false) := by rw [Hid, HE.out]; rfl
    have HC : Hid (c = Sn.zero) := by rw [Hid, HN.out, HM.out]; rfl
    clear HE HN c2 HI
    go_wp2_with (refine wpList_putS Try.isSn rfl _ _ rfl w.heap.size zeroSn zeroSn rfl rfl rfl rfl zeroSn_one p0 ?_; intro w8 s8 g8)
    refine bodyPost_ret (results_S2 Try.isSn rfl _ _ w.heap.size _ _ rfl rfl rfl s8) rfl ?_
    refine ⟨.slice none 0 0, by rw [HC.out, HM.out]; rfl, by rw [HC.out]; exact Own.nil _ _, HB.out.grown g8 HB.out.size (fun k e => by cases e; omega)⟩
  | true =>
    go_wp2_with fail
    refine (c2 _).mono ?_
    rintro e w' ⟨rfl, hw⟩; subst w'
    clear c2
    cases b2 with
    | false =>
      have HM : Hid (m = false) := by rw [Hid, HE.out]; rfl
      have HC : Hid (c = Sn.zero) := by rw [Hid, HN.out, HM.out]; rfl
      clear HE HN HI
      go_wp2_with (refine wpList_putS Try.isSn rfl _ _ rfl w.heap.size zeroSn zeroSn rfl rfl rfl rfl zeroSn_one p0 ?_; intro w8 s8 g8)
      refine bodyPost_ret (results_S2 Try.isSn rfl _ _ w.heap.size _ _ rfl rfl rfl s8) rfl ?_
      refine ⟨.slice none 0 0, by rw [HC.out, HM.out]; rfl, by rw [HC.out]; exact Own.nil _ _, HB.out.grown g8 HB.out.size (fun k e => by cases e; omega)⟩
    | true =>
      obtain ⟨hn1, hn8⟩ := HI.out trivial
      obtain ⟨k, rfl⟩ := nat_of (show 0 ≤ n by omega)
      have HM : Hid (m = true) := by rw [Hid, HE.out]; rfl
      have HC : Hid (c = ⟨t, List.replicate k 0⟩) := by rw [Hid, HN.out, HM.out]; simp
      clear HE HN HI
      have hk8 : k ≤ 1000 := by omega
      go_upto_region 3 with fail
      go_wp2_with (refine wpList_make_full _ rfl _ _ 24 rfl w1.heap.size 2 i0 (.int .i64 0) 1 Try.underlying24 hi hz0 hz1 _ _ _ _ k rfl rfl rfl rfl (by rw [hz2]; omega) (by unfold maxLen; omega) (Nat.le_refl _) ?_)
      intro w2 o2 g2
      rw [zeros_eq] at o2
      have O2 : Hid (Own w2 (w.heap.size + 1) (.slice (some ⟨w1.heap.size, 0, none⟩) k k) (List.replicate k 0)) := made_own0 p0.lt (by simpa using o2)
      have s2 := p0.kept g2 (by simp)
      have B2 : Hid (Below w.heap.size w w2) := HB.out.grown g2 HB.out.size (fun k e => by cases e)
      clear o2 g2
      go_wp2_with (refine wpList_putS Try.isSn rfl _ _ rfl w.heap.size (snA (.slice (some ⟨w1.heap.size, 0, none⟩) k k) ⟨t, List.replicate k 0⟩) zeroSn rfl rfl rfl rfl (snA_one _ rfl) s2 ?_; intro w8 s8 g8)
      refine bodyPost_ret (results_S2 Try.isSn rfl _ _ w.heap.size _ _ rfl rfl rfl s8) rfl ?_
      exact ⟨.slice (some ⟨w1.heap.size, 0, none⟩) k k, by rw [HC.out, HM.out]; rfl, by rw [HC.out]; exact (O2.out.keptLt g8 (by omega)).mono (by omega), B2.out.grown g8 B2.out.size (fun k e => by cases e; omega)⟩

theorem Sn.Fits_eq (c : Sn) (t i n : Int) : c.Fits t i n = (c.ok && inI t 1 100000 && decide (c.tr = t) && (decide (0 ≤ i) && decide (i < (c.ts.length : Int)) && decide (c.ts.getD i.toNat 0 < n))) := by
  unfold Sn.Fits Sn.fits
  cases ok : c.ok with
  | false => rfl
  | true =>
    by_cases e : c.tr = t
    · subst e
      have h : decide (0 < c.tr) = inI c.tr 1 100000 ∨ c.ts.length = 0 := by
        unfold Sn.ok at ok
        split at ok
        · exact .inr (by simpa using ok)
        · simp only [Bool.and_eq_true, inI_iff] at ok
          left
          rw [decide_eq_true (by omega), (inI_iff _ _ _).2 ok.1]
      rcases h with h | h
      · rw [h]
        simp only [Bool.true_and, decide_true, Bool.and_true, Bool.and_assoc]
      · rw [h]
        have : (decide (0 ≤ i) && decide (i < ((0 : Nat) : Int))) = false := by
          by_cases h0 : 0 ≤ i
          · rw [decide_eq_true h0, decide_eq_false (by omega)]; rfl
          · rw [decide_eq_false h0]; rfl
        rw [this, Bool.false_and, Bool.and_false, Bool.and_assoc, Bool.and_assoc, ← Bool.and_assoc (decide (0 ≤ i)), this, Bool.false_and, Bool.and_false, Bool.and_false]
    · rw [decide_eq_false e]
      simp

set_option maxRecDepth 20000 in
set_option maxHeartbeats 2000000 in
theorem iFits_any (v : Value) (c : Sn) (t i n : Int) (w : World) (hr : Reads w v c.ts) (hl : c.ts.length ≤ 1099511627776) :
    Calls Try.prog 11 #[SnV v c, .int .i64 t, .int .i64 i, .int .i64 n] w fun e w' => e = .returned (.bool (c.Fits t i n)) ∧ Below w.heap.size w w' := by
  have HE : Hid (c.Fits t i n = (c.ok && inI t 1 100000 && decide (c.tr = t) && (decide (0 ≤ i) && decide (i < (c.ts.length : Int)) && decide (c.ts.getD i.toNat 0 < n)))) := Sn.Fits_eq c t i n
  obtain ⟨w1, hw1⟩ : ∃ w1, w1 = w.alloc (.cells (snA v c) 26) := ⟨_, rfl⟩
  have H1 : StB w1 w.heap.size 26 (snA v c) := by rw [hw1]; exact StB.new _ _ _
  have B1 : Below w.heap.size w w1 := by rw [hw1]; exact (Below.refl _ _).alloc (Nat.le_refl _) _
  have cu := isinkok_any v c w1 (hr.below B1 (Nat.le_refl _)) hl
  have HR : Hid (∀ w2, Below w1.heap.size w1 w2 → Reads w2 v c.ts) := fun w2 b => (hr.below B1 (Nat.le_refl _)).below b (Nat.le_refl _)
  have HS : Hid (∀ w2, Below w1.heap.size w1 w2 → StB w2 w.heap.size 26 (snA v c) ∧ Below w.heap.size w w2) := fun w2 b => ⟨H1.below b, B1.trans (b.mono B1.size)⟩
  obtain ⟨ao, cap, rfl⟩ := reads_form hr
  have HW : Hid (w1 = w.alloc (.cells #[.int .i64 c.tr, .slice ao c.ts.length cap] 26)) := hw1
  have k0 : w1.cell? ⟨w.heap.size, 0, none⟩ = some (.int .i64 c.tr) := H1.cell 0 rfl
  have k1 : w1.cell? ⟨w.heap.size, 1, none⟩ = some (.slice ao c.ts.length cap) := H1.cell 1 rfl
  have ct := fun wx => itry_any t wx
  have cr : Hid (∀ wx, _) := fun wx => irowof_any ao c.ts.length cap c.tr wx
  have cn : Hid (∀ wx, Reads wx (.slice ao c.ts.length cap) c.ts → _) := fun wx h => inewer_any (.slice ao c.ts.length cap) c.ts i n wx h
  obtain ⟨x, hx⟩ : ∃ x, x = c.Fits t i n := ⟨_, rfl⟩
  rw [← hx] at HE ⊢
  obtain ⟨bo, hbo⟩ : ∃ bo, bo = c.ok := ⟨_, rfl⟩
  rw [← hbo] at HE cu
  obtain ⟨bt, hbt⟩ : ∃ bt, bt = inI t 1 100000 := ⟨_, rfl⟩
  rw [← hbt] at HE
  simp only [← hbt] at ct
  obtain ⟨bn, hbn⟩ : ∃ bn, bn = (decide (0 ≤ i) && decide (i < (c.ts.length : Int)) && decide (c.ts.getD i.toNat 0 < n)) := ⟨_, rfl⟩
  rw [← hbn] at HE
  simp only [← hbn] at cn
  unfold SnV snA at cu ⊢
  clear hw1 H1 hr hx hbo hbt hbn B1
  go_enter Try.func11, Try.ntmps11
  go_wp2_with fail
  rw [← HW.out]
  refine cu.mono ?_
  rintro e w2 ⟨rfl, b2⟩
  clear HW cu k0 k1
  have HB : Hid (StB w2 w.heap.size 26 (snA (.slice ao c.ts.length cap) c) ∧ Below w.heap.size w w2 ∧ Reads w2 (.slice ao c.ts.length cap) c.ts) := ⟨(HS.out w2 b2).1, (HS.out w2 b2).2, HR.out w2 b2⟩
  have k0 : w2.cell? ⟨w.heap.size, 0, none⟩ = some (.int .i64 c.tr) := HB.out.1.cell 0 rfl
  have k1 : w2.cell? ⟨w.heap.size, 1, none⟩ = some (.slice ao c.ts.length cap) := HB.out.1.cell 1 rfl
  clear HS HR b2
  cases bo with
  | false =>
    go_wp2
    go_ret
    exact ⟨ret_bool (by rw [HE.out]; rfl), HB.out.2.1⟩
  | true =>
    go_wp2_with fail
    refine (ct _).mono ?_
    rintro e w' ⟨rfl, hw⟩; subst w'
    clear ct
    cases bt with
    | false =>
      go_wp2
      go_ret
      exact ⟨ret_bool (by rw [HE.out]; rfl), HB.out.2.1⟩
    | true =>
      by_cases he : c.tr = t
      · have e1 : (c.tr == t) = true := by simpa using he
        have HX : Hid (x = bn) := by rw [Hid, HE.out, decide_eq_true he]; rfl
        have cr2 := cr.out w2
        clear he HE cr
        go_wp2_with fail
        refine cr2.mono ?_
        rintro e w3 ⟨rfl, b3⟩
        have cn3 := cn.out w3 (HB.out.2.2.below b3 (Nat.le_refl _))
        have HB3 : Hid (Below w.heap.size w w3) := HB.out.2.1.trans (b3.mono HB.out.2.1.size)
        clear cr2 cn HB b3 k0 k1
        go_wp2_with fail
        refine cn3.mono ?_
        rintro e w' ⟨rfl, hw⟩; subst w'
        clear cn3
        go_wp2
        go_ret
        exact ⟨ret_bool (by rw [HX.out]), HB3.out⟩
      · have e1 : (c.tr == t) = false := by simpa using he
        have HX : Hid (x = false) := by rw [Hid, HE.out, decide_eq_false he]; rfl
        clear he HE cr cn
        go_wp2
        go_ret
        exact ⟨ret_bool (by rw [HX.out]), HB.out.2.1⟩

set_option maxRecDepth 20000 in
set_option maxHeartbeats 2000000 in
theorem ifreshS_any (v : Value) (c : Sn) (w : World) (hr : Reads w v c.ts) (hl : c.ts.length ≤ 1099511627776) :
    Calls Try.prog 27 #[SnV v c] w fun e w' => ∃ u, e = .returned (SnV u c) ∧ Mine w' w.heap.size u c.ts ∧ Below w.heap.size w w' := by
  obtain ⟨w1, hw1⟩ : ∃ w1, w1 = (w.alloc (.cells (snA v c) 26)).alloc (.cells zeroSn 26) := ⟨_, rfl⟩
  have p0 : StB w1 w.heap.size 26 (snA v c) := by rw [hw1]; exact (StB.new w _ _).alloc _
  have q0 : StB w1 (w.heap.size + 1) 26 zeroSn := by
    rw [hw1]
    have := StB.new (w.alloc (.cells (snA v c) 26)) 26 zeroSn
    rwa [World.size_alloc] at this
  have b1 : Below w.heap.size w w1 := by rw [hw1]; exact ((Below.refl _ _).alloc (Nat.le_refl _) _).alloc (by simp) _
  have c1 := ifresh_any v c.ts w1 (hr.below b1 (Nat.le_refl _)) hl
  have hs1 := q0.lt
  obtain ⟨ao, cap, rfl⟩ := reads_form hr
  have HW : Hid (w1 = (w.alloc (.cells #[.int .i64 c.tr, .slice ao c.ts.length cap] 26)).alloc (.cells #[.int .i64 0, .slice none 0 0] 26)) := hw1
  have k4 : w1.cell? ⟨w.heap.size, 1, none⟩ = some (.slice ao c.ts.length cap) := p0.cell 1 rfl
  clear hw1 hr hl
  unfold SnV snA
  go_enter Try.func27, Try.ntmps27
  go_wp2_with fail
  rw [← HW.out]
  clear HW
  refine c1.mono ?_
  rintro e w3 ⟨u, rfl, o3, b3⟩
  replace p0 := p0.below b3
  replace q0 := q0.below b3
  have B3 := b1.trans (b3.mono b1.size)
  obtain ⟨ab, cb, rfl⟩ := reads_form o3.reads
  have k0 : w3.cell? ⟨w.heap.size, 1, none⟩ = some (.slice ao c.ts.length cap) := p0.cell 1 rfl
  have f0 := p0.frozen 1
  have r4 := p0.put 1 (.slice ab c.ts.length cb) (ds := snA (.slice ab c.ts.length cb) c) rfl
  have q4 := q0.other ⟨w.heap.size, 1, none⟩ (.slice ab c.ts.length cb) (by simp)
  have HP : Hid (Mine (w3.setCell ⟨w.heap.size, 1, none⟩ (.slice ab c.ts.length cb)) w1.heap.size (.slice ab c.ts.length cb) c.ts ∧ Below w.heap.size w (w3.setCell ⟨w.heap.size, 1, none⟩ (.slice ab c.ts.length cb))) := ⟨o3.setLt (by omega) 1 _, B3.setCell (Nat.le_refl _) _⟩
  clear k4 p0 q0 c1 o3 b3 b1 B3
  go_upto_region 2 with fail
  obtain ⟨w4, hw4⟩ : ∃ w4, w4 = w3.setCell ⟨w.heap.size, 1, none⟩ (.slice ab c.ts.length cb) := ⟨_, rfl⟩
  rw [← hw4] at r4 q4 HP ⊢
  clear hw4 k0 f0
  go_wp2_with (first | (refine wpList_getS Try.isSn rfl _ rfl w.heap.size rfl (snA (.slice ab c.ts.length cb) c) rfl r4 ?_) | (refine wpList_putS Try.isSn rfl _ _ rfl (w.heap.size + 1) (snA (.slice ab c.ts.length cb) c) zeroSn rfl rfl rfl rfl (snA_one c rfl) q4 ?_; intro w8 s8 g8))
  refine bodyPost_ret (results_S Try.isSn rfl _ _ (w.heap.size + 1) _ rfl rfl s8) rfl ?_
  exact ⟨_, rfl, (HP.out.1.keptLt g8 (by omega)).mono (by omega), HP.out.2.grown g8 HP.out.2.size (fun k e => by cases e; omega)⟩

theorem two_cells {w : World} {B j : Nat} {x y z : Value} (h : w.cell? ⟨B, j, none⟩ = some z) : ((w.setCell ⟨B + 1, 0, none⟩ x).setCell ⟨B + 1, 1, none⟩ y).cell? ⟨B, j, none⟩ = some z := by
  rw [World.cell?_setCell_far _ _ _ _ (by simp), World.cell?_setCell_far _ _ _ _ (by simp), h]
theorem below_undrew {w w' : World} (b : Below w.drew.heap.size w.drew w') : Below w.heap.size w w' := ((Below.refl w.heap.size w).drew).trans b

set_option maxRecDepth 20000 in
set_option maxHeartbeats 4000000 in
theorem igot_any (v : Value) (c : Sn) (t i n : Int) (w : World) (hr : Reads w v c.ts) (hl : c.ts.length ≤ 1099511627776) :
    Calls Try.prog 10 #[SnV v c, .int .i64 t, .int .i64 i, .int .i64 n] w fun e w' => ∃ u, e = .returned (.tuple #[SnV u (c.Got t i n), .bool (c.Is t i n)]) ∧ Mine w' w.heap.size u (c.Got t i n).ts ∧ Below w.heap.size w w' := by
  obtain ⟨w1, hw1⟩ : ∃ w1, w1 = (w.alloc (.cells (snA v c) 26)).alloc (.cells zeroSn 26) := ⟨_, rfl⟩
  have p0 : StB w1 w.heap.size 26 (snA v c) := by rw [hw1]; exact (StB.new w _ _).alloc _
  have q0 : StB w1 (w.heap.size + 1) 26 zeroSn := by
    rw [hw1]
    have := StB.new (w.alloc (.cells (snA v c) 26)) 26 zeroSn
    rwa [World.size_alloc] at this
  have b1 : Below w.heap.size w w1 := by rw [hw1]; exact ((Below.refl _ _).alloc (Nat.le_refl _) _).alloc (by simp) _
  have c1 := isinkok_any v c w1 (hr.below b1 (Nat.le_refl _)) hl
  have cf : Hid (∀ wx, Reads wx v c.ts → _) := fun wx h => ifreshS_any v c wx h hl
  have ct : Hid (∀ wx, Reads wx v c.ts → _) := fun wx h => iFits_any v c t i n wx h hl
  have cn := fun wx => iturnC_any n wx
  obtain ⟨ao, cap, rfl⟩ := reads_form hr
  have HW : Hid (w1 = (w.alloc (.cells #[.int .i64 c.tr, .slice ao c.ts.length cap] 26)).alloc (.cells #[.int .i64 0, .slice none 0 0] 26)) := hw1
  have hs1 := q0.lt
  have HP : Hid (StB w1 w.heap.size 26 (snA (.slice ao c.ts.length cap) c) ∧ StB w1 (w.heap.size + 1) 26 zeroSn ∧ Below w.heap.size w w1 ∧ Reads w (.slice ao c.ts.length cap) c.ts) := ⟨p0, q0, b1, hr⟩
  clear hw1 hr
  have k0 : w1.cell? ⟨w.heap.size, 0, none⟩ = some (.int .i64 c.tr) := p0.cell 0 rfl
  have k1 : w1.cell? ⟨w.heap.size, 1, none⟩ = some (.slice ao c.ts.length cap) := p0.cell 1 rfl
  clear p0 q0 b1
  cases ok : c.ok with
  | false =>
    obtain ⟨e0, e1, -⟩ := Sn.bad ok t i n
    rw [e0, e1]
    rw [ok] at c1
    unfold SnV at c1 ⊢
    conv in snA (.slice ao c.ts.length cap) c => unfold snA
    conv at c1 in snA (.slice ao c.ts.length cap) c => unfold snA
    clear e0 e1 cf ct cn
    go_enter Try.func10, Try.ntmps10
    go_wp2_with fail
    rw [← HW.out]
    refine c1.mono ?_
    rintro e w2 ⟨rfl, b2⟩
    have q2 := HP.out.2.1.below b2
    have HB2 : Hid (Below w.heap.size w w2) := HP.out.2.2.1.trans (b2.mono HP.out.2.2.1.size)
    have HS2 := b2.size
    clear HW HP c1 k0 k1 b2
    go_wp2_with (refine wpList_putS Try.isSn rfl _ _ rfl (w.heap.size + 1) zeroSn zeroSn rfl rfl rfl rfl zeroSn_one q2 ?_; intro w8 s8 g8)
    refine bodyPost_ret (results_S2 Try.isSn rfl _ _ (w.heap.size + 1) _ _ rfl rfl rfl s8) rfl ?_
    exact ⟨.slice none 0 0, rfl, .inl (Own.nil _ _), HB2.out.grown g8 HB2.out.size (fun k e => by cases e; omega)⟩
  | true =>
    have HNO : Hid (c.Is t i n = false → c.Got t i n = c) := fun h => by
      unfold Sn.Got Sn.got
      unfold Sn.Is at h
      rw [ok, Bool.true_and] at h
      rw [ok, h]; rfl
    have HYES : Hid (c.Is t i n = true → c.Got t i n = { c with ts := c.ts.set i.toNat n } ∧ 0 ≤ i ∧ i < (c.ts.length : Int)) := fun h => ⟨(Sn.is_all h).2.1, (Sn.is_all h).2.2.2.2.2.1, (Sn.is_all h).2.2.2.2.2.2.1⟩
    have HT : Hid (c.Is t i n = (c.Fits t i n && inI n 0 1000000000)) := by
      rw [Hid]
      unfold Sn.Is Sn.takes Sn.Fits
      rw [ok, Bool.true_and, Bool.true_and]
      cases hf : c.fits t i n with
      | false => rfl
      | true =>
        have hp : 0 ≤ n := by
          have h0 := turns_at (Sn.ok_turns ok) i.toNat
          unfold Sn.fits at hf
          simp only [Bool.and_eq_true, decide_eq_true_eq] at hf
          omega
        rw [Bool.true_and, Bool.true_and]
        unfold inI
        rw [decide_eq_true hp, Bool.true_and]
    rw [ok] at c1
    obtain ⟨bf, hbf⟩ : ∃ bf, bf = c.Fits t i n := ⟨_, rfl⟩
    simp only [← hbf] at ct HT
    obtain ⟨bn, hbn⟩ : ∃ bn, bn = inI n 0 1000000000 := ⟨_, rfl⟩
    simp only [← hbn] at cn HT
    obtain ⟨d, hd⟩ : ∃ d, d = c.Got t i n := ⟨_, rfl⟩
    obtain ⟨is, his⟩ : ∃ is, is = c.Is t i n := ⟨_, rfl⟩
    rw [← hd] at HNO HYES ⊢
    rw [← his] at HNO HYES HT ⊢
    unfold SnV at c1 cf ct ⊢
    conv in snA (.slice ao c.ts.length cap) c => unfold snA
    conv at c1 in snA (.slice ao c.ts.length cap) c => unfold snA
    conv at cf in snA (.slice ao c.ts.length cap) c => unfold snA
    conv at ct in snA (.slice ao c.ts.length cap) c => unfold snA
    have T1 : Hid (bf = false → is = false) := fun h => by rw [HT.out, h]; rfl
    have T2 : Hid (bf = true → bn = false → is = false) := fun h h' => by rw [HT.out, h, h']; rfl
    have T3 : Hid (bf = true → bn = true → is = true) := fun h h' => by rw [HT.out, h, h']; rfl
    clear hbf hd his hbn ok HT
    go_enter Try.func10, Try.ntmps10
    go_wp2_with fail
    rw [← HW.out]
    refine c1.mono ?_
    rintro e w2 ⟨rfl, b2⟩
    have p2 := HP.out.1.below b2
    have q2 := HP.out.2.1.below b2
    have B2 : Below w.heap.size w w2 := HP.out.2.2.1.trans (b2.mono HP.out.2.2.1.size)
    have HR : Hid (Reads w (.slice ao c.ts.length cap) c.ts) := HP.out.2.2.2
    have HS2 : w.heap.size + 1 < w2.heap.size := Nat.lt_of_lt_of_le hs1 b2.size
    have c2 := ct.out w2 (HR.out.below B2 (Nat.le_refl _))
    clear HW HP c1 ct k0 k1 b2 hs1
    have HQ : Hid (StB w2 w.heap.size 26 (snA (.slice ao c.ts.length cap) c) ∧ StB w2 (w.heap.size + 1) 26 zeroSn ∧ Below w.heap.size w w2) := ⟨p2, q2, B2⟩
    have HL : Hid (w.heap.size + 1 < w2.heap.size) := HS2
    clear q2 B2 HS2
    have k0 : w2.cell? ⟨w.heap.size, 0, none⟩ = some (.int .i64 c.tr) := p2.cell 0 rfl
    have k1 : w2.cell? ⟨w.heap.size, 1, none⟩ = some (.slice ao c.ts.length cap) := p2.cell 1 rfl
    clear p2
    go_wp2_with fail
    refine c2.mono ?_
    rintro e w3 ⟨rfl, b3⟩
    clear c2 k0 k1
    replace HQ : Hid (StB w3 w.heap.size 26 (snA (.slice ao c.ts.length cap) c) ∧ StB w3 (w.heap.size + 1) 26 zeroSn ∧ Below w.heap.size w w3) := ⟨HQ.out.1.below b3, HQ.out.2.1.below b3, HQ.out.2.2.trans (b3.mono HQ.out.2.2.size)⟩
    replace HL : Hid (w.heap.size + 1 < w3.heap.size) := Nat.lt_of_lt_of_le HL.out b3.size
    clear b3
    have k0 : w3.cell? ⟨w.heap.size, 0, none⟩ = some (.int .i64 c.tr) := HQ.out.1.cell 0 rfl
    have k1 : w3.cell? ⟨w.heap.size, 1, none⟩ = some (.slice ao c.ts.length cap) := HQ.out.1.cell 1 rfl
    have cf3 := cf.out w3 (HR.out.below HQ.out.2.2 (Nat.le_refl _))
    clear cf
    cases bf with
    | false =>
      have e1 : is = false := T1.out rfl
      have e0 := HNO.out e1
      subst d is
      clear HNO HYES T1 T2 T3 cn HR
      go_upto_region 4 with fail
      go_wp2_with fail
      refine cf3.mono ?_
      rintro e w4 ⟨u, rfl, o4, b4⟩
      obtain ⟨bo, bc, rfl⟩ := reads_form o4.reads
      have q4 := HQ.out.2.1.below b4
      have HB4 : Hid (Mine w4 w3.heap.size (.slice bo c.ts.length bc) c.ts ∧ Below w.heap.size w w4) := ⟨o4, HQ.out.2.2.trans (b4.mono HQ.out.2.2.size)⟩
      clear HQ cf3 k0 k1 o4 b4
      unfold snA
      go_wp2_with (refine wpList_putS Try.isSn rfl _ _ rfl (w.heap.size + 1) (snA (.slice bo c.ts.length bc) c) zeroSn rfl rfl rfl rfl (snA_one _ rfl) q4 ?_; intro w8 s8 g8)
      refine bodyPost_ret (results_S2 Try.isSn rfl _ _ (w.heap.size + 1) _ _ rfl rfl rfl s8) rfl ?_
      exact ⟨_, rfl, (HB4.out.1.keptLt g8 HL.out).mono (Nat.le_trans (Nat.le_add_right _ 1) (Nat.le_of_lt HL.out)), HB4.out.2.grown g8 HB4.out.2.size (fun k e => by cases e; omega)⟩
    | true =>
      replace T2 : Hid (bn = false → is = false) := T2.out rfl
      replace T3 : Hid (bn = true → is = true) := T3.out rfl
      go_wp2_with fail
      refine (cn _).mono ?_
      rintro e w' ⟨rfl, hw⟩; subst w'
      clear cn
      cases bn with
      | false =>
        have e1 : is = false := T2.out rfl
        have e0 := HNO.out e1
        subst d is
        clear HNO HYES T2 T3 HR
        go_upto_region 4 with fail
        go_wp2_with fail
        refine cf3.mono ?_
        rintro e w4 ⟨u, rfl, o4, b4⟩
        obtain ⟨bo, bc, rfl⟩ := reads_form o4.reads
        have q4 := HQ.out.2.1.below b4
        have HB4 : Hid (Mine w4 w3.heap.size (.slice bo c.ts.length bc) c.ts ∧ Below w.heap.size w w4) := ⟨o4, HQ.out.2.2.trans (b4.mono HQ.out.2.2.size)⟩
        clear HQ cf3 k0 k1 o4 b4
        unfold snA
        go_wp2_with (refine wpList_putS Try.isSn rfl _ _ rfl (w.heap.size + 1) (snA (.slice bo c.ts.length bc) c) zeroSn rfl rfl rfl rfl (snA_one _ rfl) q4 ?_; intro w8 s8 g8)
        refine bodyPost_ret (results_S2 Try.isSn rfl _ _ (w.heap.size + 1) _ _ rfl rfl rfl s8) rfl ?_
        exact ⟨_, rfl, (HB4.out.1.keptLt g8 HL.out).mono (Nat.le_trans (Nat.le_add_right _ 1) (Nat.le_of_lt HL.out)), HB4.out.2.grown g8 HB4.out.2.size (fun k e => by cases e; omega)⟩
      | true =>
        have e1 : is = true := T3.out rfl
        obtain ⟨e0, h0, h1⟩ := HYES.out e1
        obtain ⟨j, rfl⟩ := nat_of h0
        rw [Int.toNat_natCast] at e0
        have HD : Hid (d = { c with ts := c.ts.set j n }) := e0
        have hj : j < c.ts.length := by omega
        subst is
        have HJ : Hid (j < c.ts.length) := hj
        clear HNO HYES T2 T3 e0 h0 h1 cf3 hj
        have HN4 : Hid (∀ w4, Below w3.heap.size w3 w4 → StB w4 w.heap.size 26 (snA (.slice ao c.ts.length cap) c) ∧ StB w4 (w.heap.size + 1) 26 zeroSn ∧ Below w.heap.size w w4 ∧ w.heap.size + 1 < w4.heap.size) := fun w4 b4 => ⟨HQ.out.1.below b4, HQ.out.2.1.below b4, HQ.out.2.2.trans (b4.mono HQ.out.2.2.size), Nat.lt_of_lt_of_le HL.out b4.size⟩
        have z0 : w3.drew.cell? ⟨w.heap.size, 0, none⟩ = some (.int .i64 c.tr) := k0
        have z1 : w3.drew.cell? ⟨w.heap.size, 1, none⟩ = some (.slice ao c.ts.length cap) := k1
        go_upto_region 5 with fail
        go_region_held3 (fun w' => w'.cell? ⟨w.heap.size, 0, none⟩ = some (.int .i64 c.tr) ∧ w'.cell? ⟨w.heap.size, 1, none⟩ = some (.slice ao c.ts.length cap)) (refine ⟨?_, ?_⟩ <;> first | with_reducible assumption | exact two_cells (by with_reducible assumption))
          (first
            | (go_at_call 28; refine (irowof_any ao c.ts.length cap c.tr _).mono ?_; rintro e w4 ⟨rfl, b4⟩; have HB4 : Hid (StB w4 w.heap.size 26 (snA (.slice ao c.ts.length cap) c) ∧ StB w4 (w.heap.size + 1) 26 zeroSn ∧ Below w.heap.size w w4 ∧ w.heap.size + 1 < w4.heap.size) := HN4.out w4 (below_undrew b4); clear b4; have d0 : w4.cell? ⟨w.heap.size, 0, none⟩ = some (.int .i64 c.tr) := HB4.out.1.cell 0 rfl; have d1 : w4.cell? ⟨w.heap.size, 1, none⟩ = some (.slice ao c.ts.length cap) := HB4.out.1.cell 1 rfl)
            | (go_at_call 29; refine (irowput_any (.slice ao c.ts.length cap) c.ts j n w4 (HR.out.below HB4.out.2.2.1 (Nat.le_refl _)) hl HJ.out).mono ?_; rintro e w5 ⟨u, rfl, o5, b5⟩; obtain ⟨uo, uc, rfl⟩ := reads_form o5.reads; rw [List.length_set] at o5 ⊢; have HB5 : Hid (StB w5 w.heap.size 26 (snA (.slice ao c.ts.length cap) c) ∧ StB w5 (w.heap.size + 1) 26 zeroSn ∧ Below w.heap.size w w5 ∧ Own w5 w4.heap.size (.slice uo c.ts.length uc) (c.ts.set j n)) := ⟨HB4.out.1.below b5, HB4.out.2.1.below b5, HB4.out.2.2.1.trans (b5.mono HB4.out.2.2.1.size), o5⟩; clear o5 b5; have d0 : w5.cell? ⟨w.heap.size, 0, none⟩ = some (.int .i64 c.tr) := HB5.out.1.cell 0 rfl; have d1 : w5.cell? ⟨w.heap.size, 1, none⟩ = some (.slice ao c.ts.length cap) := HB5.out.1.cell 1 rfl; have r0 : w5.cell? ⟨w.heap.size + 1, 0, none⟩ = some (.int .i64 0) := HB5.out.2.1.cell 0 rfl; have r1 : w5.cell? ⟨w.heap.size + 1, 1, none⟩ = some (.slice none 0 0) := HB5.out.2.1.cell 1 rfl; have f0 := HB5.out.2.1.frozen 0; have f1 := HB5.out.2.1.frozen 1))
        all_goals
          go_wp2
          have G5 := (grownSet w5 (w.heap.size + 1) 0 (.int .i64 c.tr)).trans (grownSet _ (w.heap.size + 1) 1 (.slice uo c.ts.length uc))
          have S5 : StB ((w5.setCell ⟨w.heap.size + 1, 0, none⟩ (.int .i64 c.tr)).setCell ⟨w.heap.size + 1, 1, none⟩ (.slice uo c.ts.length uc)) (w.heap.size + 1) 26 (snA (.slice uo c.ts.length uc) ⟨c.tr, c.ts.set j n⟩) := (HB5.out.2.1.put 0 _ rfl).put 1 _ rfl
          refine bodyPost_ret (results_S2 Try.isSn rfl _ _ (w.heap.size + 1) _ _ rfl rfl rfl S5) rfl ?_
          exact ⟨.slice uo c.ts.length uc, by rw [HD.out]; rfl, by rw [HD.out]; exact .inl ((HB5.out.2.2.2.keptLt G5 HB4.out.2.2.2).mono (Nat.le_trans (Nat.le_add_right _ 1) (Nat.le_of_lt HB4.out.2.2.2))), HB5.out.2.2.1.grown G5 HB5.out.2.2.1.size (fun k e => by cases e; omega)⟩
end Go.Proofs.Ytdcdfhklnhaimaa
