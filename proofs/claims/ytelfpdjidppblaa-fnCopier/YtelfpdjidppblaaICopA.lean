/- The program's copiers: what is right (CopierOk), what is clean (Clean), which blocks there are. -/
import Derived.Test.YtelfpdjidppblaaSCop5
import Derived.Test.YtelfpdjidppblaaMine
import Derived.Test.YtelfpdjidppblaaITurns
namespace Go.Proofs.Ytelfpdjidppblaa
open Go.ChangeShapes Go.WideShapes Go.ChangeAt Go.RowKit

set_option maxRecDepth 20000 in
set_option maxHeartbeats 400000 in
theorem isomany_any (s : Int) (n : Nat) (w : World) :
    Calls Try.prog 70 #[.int .i64 s, .int .i64 n] w fun e w' => e = .returned (.bool (inI s 0 (fullI n))) ∧ w' = w := by
  have c1 := full_any n w
  have HI : Hid (inI s 0 (fullI n) = (decide (0 ≤ s) && decide (s ≤ fullI n))) := rfl
  obtain ⟨f, hf⟩ : ∃ f, f = fullI n := ⟨_, rfl⟩
  rw [← hf] at c1 HI ⊢
  obtain ⟨x, hx⟩ : ∃ x, x = inI s 0 f := ⟨_, rfl⟩
  rw [← hx] at HI ⊢
  clear hf hx
  by_cases h0 : 0 ≤ s
  · go_enter Try.func70, Try.ntmps70
    go_wp2_with fail
    refine c1.mono ?_
    rintro e w' ⟨rfl, hw⟩; subst w'
    clear c1
    go_wp2
    go_ret
    exact ⟨ret_bool (by rw [HI.out]; simp [h0]), rfl⟩
  · clear c1
    go_enter Try.func70, Try.ntmps70
    go_wp2
    go_ret
    exact ⟨ret_bool (by rw [HI.out, show decide (0 ≤ s) = false from decide_eq_false (by omega), Bool.false_and]), rfl⟩

def Cp.unused (c : Cp) : Bool := decide (c.tr = 0) && !c.op && decide (c.di = 0) && decide (c.wa = 0) && decide (c.ts.length = 0)
theorem Cp.ok_unused {c : Cp} (h : c.unused = true) : c.ok = true := by
  unfold Cp.unused at h
  unfold Cp.ok
  simp only [Bool.and_eq_true, decide_eq_true_eq] at h
  obtain ⟨⟨⟨⟨h1, h2⟩, h3⟩, h4⟩, h5⟩ := h
  rw [if_pos h1, h2]
  simp [h3, h4, h5]
theorem Cp.ok_used {c : Cp} (h : c.unused = false) : c.ok = (inI c.tr 1 100000 && (turnsI c.ts && inI c.ts.length 1 8) && inI c.di 0 (fullI c.ts.length) && inI c.wa 0 (fullI c.ts.length)) := by
  unfold Cp.ok Cp.mid
  by_cases e : c.tr = 0
  · rw [if_pos e]
    unfold Cp.unused at h
    rw [decide_eq_true e, Bool.true_and] at h
    rw [h]
    have : inI c.tr 1 100000 = false := by rw [e]; decide
    rw [this]
    rfl
  · rw [if_neg e]
    simp only [Bool.and_assoc]

set_option maxRecDepth 20000 in
set_option maxHeartbeats 1000000 in
theorem iunused_any (v : Value) (c : Cp) (w : World) (hr : Reads w v c.ts) :
    Calls Try.prog 68 #[CpV v c] w fun e w' => e = .returned (.bool c.unused) ∧ Below w.heap.size w w' := by
  have HE : Hid (c.unused = (decide (c.tr = 0) && !c.op && decide (c.di = 0) && decide (c.wa = 0) && decide (c.ts.length = 0))) := rfl
  obtain ⟨ao, cap, rfl⟩ := reads_form hr
  obtain ⟨x, hx⟩ : ∃ x, x = c.unused := ⟨_, rfl⟩
  rw [← hx] at HE ⊢
  obtain ⟨n, hn⟩ : ∃ n, n = c.ts.length := ⟨_, rfl⟩
  unfold CpV cpA
  rw [← hn] at HE ⊢
  clear hr hx hn
  by_cases ht : c.tr = 0
  · have e1 : (c.tr == 0) = true := by simpa using ht
    cases ho : c.op with
    | true =>
      rw [ho] at HE
      go_enter Try.func68, Try.ntmps68
      go_wp2
      go_ret
      exact ⟨ret_bool (by rw [HE.out]; simp), (Below.refl _ _).alloc (Nat.le_refl _) _⟩
    | false =>
      rw [ho] at HE
      by_cases hd : c.di = 0
      · have e2 : (c.di == 0) = true := by simpa using hd
        by_cases hw : c.wa = 0
        · have e3 : (c.wa == 0) = true := by simpa using hw
          by_cases hn0 : (n : Int) = 0
          · have e4 : ((n : Int) == 0) = true := by simpa using hn0
            go_enter Try.func68, Try.ntmps68
            go_wp2
            go_ret
            exact ⟨ret_bool (by rw [HE.out]; simp [ht, hd, hw, (by omega : n = 0)]), (Below.refl _ _).alloc (Nat.le_refl _) _⟩
          · have e4 : ((n : Int) == 0) = false := by simpa using hn0
            go_enter Try.func68, Try.ntmps68
            go_wp2
            go_ret
            exact ⟨ret_bool (by rw [HE.out, show decide (n = 0) = false from decide_eq_false (by omega), Bool.and_false]), (Below.refl _ _).alloc (Nat.le_refl _) _⟩
        · have e3 : (c.wa == 0) = false := by simpa using hw
          go_enter Try.func68, Try.ntmps68
          go_wp2
          go_ret
          exact ⟨ret_bool (by rw [HE.out]; simp [hw]), (Below.refl _ _).alloc (Nat.le_refl _) _⟩
      · have e2 : (c.di == 0) = false := by simpa using hd
        go_enter Try.func68, Try.ntmps68
        go_wp2
        go_ret
        exact ⟨ret_bool (by rw [HE.out]; simp [hd]), (Below.refl _ _).alloc (Nat.le_refl _) _⟩
  · have e1 : (c.tr == 0) = false := by simpa using ht
    go_enter Try.func68, Try.ntmps68
    go_wp2
    go_ret
    exact ⟨ret_bool (by rw [HE.out]; simp [ht]), (Below.refl _ _).alloc (Nat.le_refl _) _⟩

set_option maxRecDepth 20000 in
set_option maxHeartbeats 1000000 in
theorem ihas_any (v : Value) (c : Cp) (i : Int) (w : World) (hr : Reads w v c.ts) :
    Calls Try.prog 58 #[CpV v c, .int .i64 i] w fun e w' => e = .returned (.bool (c.has i)) ∧ Below w.heap.size w w' := by
  have HE : Hid (c.has i = (decide (0 ≤ i) && decide (i < (c.ts.length : Int)))) := rfl
  obtain ⟨ao, cap, rfl⟩ := reads_form hr
  obtain ⟨x, hx⟩ : ∃ x, x = c.has i := ⟨_, rfl⟩
  rw [← hx] at HE ⊢
  unfold CpV cpA
  clear hr hx
  by_cases h0 : 0 ≤ i
  · by_cases h1 : i < (c.ts.length : Int)
    · go_enter Try.func58, Try.ntmps58
      go_wp2
      go_ret
      exact ⟨ret_bool (by rw [HE.out]; simp [h0, h1]), (Below.refl _ _).alloc (Nat.le_refl _) _⟩
    · go_enter Try.func58, Try.ntmps58
      go_wp2
      go_ret
      exact ⟨ret_bool (by rw [HE.out]; simp [h1]), (Below.refl _ _).alloc (Nat.le_refl _) _⟩
  · have HF : Hid (x = false) := by rw [Hid, HE.out]; simp [h0]
    go_enter Try.func58, Try.ntmps58
    go_wp2
    go_ret
    exact ⟨ret_bool (by rw [HF.out]), (Below.refl _ _).alloc (Nat.le_refl _) _⟩

set_option maxRecDepth 20000 in
set_option maxHeartbeats 2000000 in
theorem icopok_any (v : Value) (c : Cp) (w : World) (hr : Reads w v c.ts) (hl : c.ts.length ≤ 1099511627776) :
    Calls Try.prog 22 #[CpV v c] w fun e w' => e = .returned (.bool c.ok) ∧ Below w.heap.size w w' := by
  have HU : Hid (c.unused = true → c.ok = true) := Cp.ok_unused
  have HE : Hid (c.unused = false → c.ok = (inI c.tr 1 100000 && (turnsI c.ts && inI c.ts.length 1 8) && inI c.di 0 (fullI c.ts.length) && inI c.wa 0 (fullI c.ts.length))) := Cp.ok_used
  obtain ⟨w1, hw1⟩ : ∃ w1, w1 = w.alloc (.cells (cpA v c) 26) := ⟨_, rfl⟩
  have H1 : StB w1 w.heap.size 26 (cpA v c) := by rw [hw1]; exact StB.new _ _ _
  have B1 : Below w.heap.size w w1 := by rw [hw1]; exact (Below.refl _ _).alloc (Nat.le_refl _) _
  have cu := iunused_any v c w1 (hr.below B1 (Nat.le_refl _))
  have HR : Hid (∀ w2, Below w1.heap.size w1 w2 → Reads w2 v c.ts) := fun w2 b => (hr.below B1 (Nat.le_refl _)).below b (Nat.le_refl _)
  have HS : Hid (∀ w2, Below w1.heap.size w1 w2 → StB w2 w.heap.size 26 (cpA v c) ∧ Below w.heap.size w w2) := fun w2 b => ⟨H1.below b, B1.trans (b.mono B1.size)⟩
  obtain ⟨ao, cap, rfl⟩ := reads_form hr
  have HW : Hid (w1 = w.alloc (.cells #[.int .i64 c.tr, .bool c.op, .int .i64 c.di, .int .i64 c.wa, .slice ao c.ts.length cap] 26)) := hw1
  have k0 : w1.cell? ⟨w.heap.size, 0, none⟩ = some (.int .i64 c.tr) := H1.cell 0 rfl
  have k1 : w1.cell? ⟨w.heap.size, 1, none⟩ = some (.bool c.op) := H1.cell 1 rfl
  have k2 : w1.cell? ⟨w.heap.size, 2, none⟩ = some (.int .i64 c.di) := H1.cell 2 rfl
  have k3 : w1.cell? ⟨w.heap.size, 3, none⟩ = some (.int .i64 c.wa) := H1.cell 3 rfl
  have k4 : w1.cell? ⟨w.heap.size, 4, none⟩ = some (.slice ao c.ts.length cap) := H1.cell 4 rfl
  have ct := fun wx => itry_any c.tr wx
  have cs := fun wx h => iturns_any (.slice ao c.ts.length cap) c.ts wx h hl
  have cd := fun wx => isomany_any c.di c.ts.length wx
  have cw := fun wx => isomany_any c.wa c.ts.length wx
  obtain ⟨x, hx⟩ : ∃ x, x = c.ok := ⟨_, rfl⟩
  rw [← hx] at HE HU ⊢
  obtain ⟨bu, hbu⟩ : ∃ bu, bu = c.unused := ⟨_, rfl⟩
  rw [← hbu] at HE HU cu
  obtain ⟨bt, hbt⟩ : ∃ bt, bt = inI c.tr 1 100000 := ⟨_, rfl⟩
  rw [← hbt] at HE
  simp only [← hbt] at ct
  obtain ⟨bs, hbs⟩ : ∃ bs, bs = (turnsI c.ts && inI c.ts.length 1 8) := ⟨_, rfl⟩
  rw [← hbs] at HE
  simp only [← hbs] at cs
  obtain ⟨bd, hbd⟩ : ∃ bd, bd = inI c.di 0 (fullI c.ts.length) := ⟨_, rfl⟩
  rw [← hbd] at HE
  simp only [← hbd] at cd
  obtain ⟨bw, hbw⟩ : ∃ bw, bw = inI c.wa 0 (fullI c.ts.length) := ⟨_, rfl⟩
  rw [← hbw] at HE
  simp only [← hbw] at cw
  have HCS : Hid _ := cs
  unfold CpV cpA at cu ⊢
  clear hw1 H1 hr hx hbu hbt hbs hbd hbw B1 cs
  go_enter Try.func22, Try.ntmps22
  go_wp2_with fail
  rw [← HW.out]
  refine cu.mono ?_
  rintro e w2 ⟨rfl, b2⟩
  clear HW cu k0 k1 k2 k3 k4
  have HB : Hid (Below w.heap.size w w2) := (HS.out w2 b2).2
  have H2 := (HS.out w2 b2).1
  have cs := HCS.out w2 (HR.out w2 b2)
  have k0 : w2.cell? ⟨w.heap.size, 0, none⟩ = some (.int .i64 c.tr) := H2.cell 0 rfl
  have k2 : w2.cell? ⟨w.heap.size, 2, none⟩ = some (.int .i64 c.di) := H2.cell 2 rfl
  have k3 : w2.cell? ⟨w.heap.size, 3, none⟩ = some (.int .i64 c.wa) := H2.cell 3 rfl
  have k4 : w2.cell? ⟨w.heap.size, 4, none⟩ = some (.slice ao c.ts.length cap) := H2.cell 4 rfl
  clear HCS HS HR H2 b2
  cases bu with
  | true =>
    have HX : Hid (x = true) := HU.out rfl
    clear HU HE
    go_wp2
    go_ret
    exact ⟨ret_bool (by rw [HX.out]), HB.out⟩
  | false =>
    have HX : Hid (x = (bt && bs && bd && bw)) := HE.out rfl
    clear HU HE
    go_wp2_with fail
    refine (ct _).mono ?_
    rintro e w' ⟨rfl, hw⟩; subst w'
    clear ct
    cases bt with
    | false =>
      go_wp2
      go_ret
      exact ⟨ret_bool (by rw [HX.out]; rfl), HB.out⟩
    | true =>
      go_wp2_with fail
      refine cs.mono ?_
      rintro e w' ⟨rfl, hw⟩; subst w'
      clear cs
      cases bs with
      | false =>
        go_wp2
        go_ret
        exact ⟨ret_bool (by rw [HX.out]; rfl), HB.out⟩
      | true =>
        go_wp2_with fail
        refine (cd _).mono ?_
        rintro e w' ⟨rfl, hw⟩; subst w'
        clear cd
        cases bd with
        | false =>
          go_wp2
          go_ret
          exact ⟨ret_bool (by rw [HX.out]; rfl), HB.out⟩
        | true =>
          go_wp2_with fail
          refine (cw _).mono ?_
          rintro e w' ⟨rfl, hw⟩; subst w'
          clear cw
          go_wp2
          go_ret
          exact ⟨ret_bool (by rw [HX.out]; rfl), HB.out⟩

set_option maxRecDepth 20000 in
set_option maxHeartbeats 1000000 in
theorem iclean_any (v : Value) (c : Cp) (w : World) (hr : Reads w v c.ts) (hl : c.ts.length ≤ 1099511627776) :
    Calls Try.prog 29 #[CpV v c] w fun e w' => e = .returned (.bool c.clean) ∧ Below w.heap.size w w' := by
  have HE : Hid (c.clean = (c.ok && c.op && decide (c.di = 0) && decide (c.wa = 0))) := rfl
  obtain ⟨w1, hw1⟩ : ∃ w1, w1 = w.alloc (.cells (cpA v c) 26) := ⟨_, rfl⟩
  have H1 : StB w1 w.heap.size 26 (cpA v c) := by rw [hw1]; exact StB.new _ _ _
  have B1 : Below w.heap.size w w1 := by rw [hw1]; exact (Below.refl _ _).alloc (Nat.le_refl _) _
  have cu := icopok_any v c w1 (hr.below B1 (Nat.le_refl _)) hl
  have HS : Hid (∀ w2, Below w1.heap.size w1 w2 → StB w2 w.heap.size 26 (cpA v c) ∧ Below w.heap.size w w2) := fun w2 b => ⟨H1.below b, B1.trans (b.mono B1.size)⟩
  obtain ⟨ao, cap, rfl⟩ := reads_form hr
  have HW : Hid (w1 = w.alloc (.cells #[.int .i64 c.tr, .bool c.op, .int .i64 c.di, .int .i64 c.wa, .slice ao c.ts.length cap] 26)) := hw1
  have k0 : w1.cell? ⟨w.heap.size, 0, none⟩ = some (.int .i64 c.tr) := H1.cell 0 rfl
  have k1 : w1.cell? ⟨w.heap.size, 1, none⟩ = some (.bool c.op) := H1.cell 1 rfl
  have k2 : w1.cell? ⟨w.heap.size, 2, none⟩ = some (.int .i64 c.di) := H1.cell 2 rfl
  have k3 : w1.cell? ⟨w.heap.size, 3, none⟩ = some (.int .i64 c.wa) := H1.cell 3 rfl
  have k4 : w1.cell? ⟨w.heap.size, 4, none⟩ = some (.slice ao c.ts.length cap) := H1.cell 4 rfl
  obtain ⟨x, hx⟩ : ∃ x, x = c.clean := ⟨_, rfl⟩
  rw [← hx] at HE ⊢
  obtain ⟨bo, hbo⟩ : ∃ bo, bo = c.ok := ⟨_, rfl⟩
  rw [← hbo] at HE cu
  unfold CpV cpA at cu ⊢
  clear hw1 H1 hr hx hbo B1
  go_enter Try.func29, Try.ntmps29
  go_wp2_with fail
  rw [← HW.out]
  refine cu.mono ?_
  rintro e w2 ⟨rfl, b2⟩
  clear HW cu k0 k1 k2 k3 k4
  have HB : Hid (Below w.heap.size w w2) := (HS.out w2 b2).2
  have H2 := (HS.out w2 b2).1
  have k1 : w2.cell? ⟨w.heap.size, 1, none⟩ = some (.bool c.op) := H2.cell 1 rfl
  have k2 : w2.cell? ⟨w.heap.size, 2, none⟩ = some (.int .i64 c.di) := H2.cell 2 rfl
  have k3 : w2.cell? ⟨w.heap.size, 3, none⟩ = some (.int .i64 c.wa) := H2.cell 3 rfl
  clear HS H2 b2
  cases bo with
  | false =>
    go_wp2
    go_ret
    exact ⟨ret_bool (by rw [HE.out]; rfl), HB.out⟩
  | true =>
    obtain ⟨bp, hbp⟩ : ∃ bp, bp = c.op := ⟨_, rfl⟩
    rw [← hbp] at HE k1
    clear hbp
    cases bp with
    | false =>
      go_wp2
      go_ret
      exact ⟨ret_bool (by rw [HE.out]; rfl), HB.out⟩
    | true =>
      by_cases hd : c.di = 0
      · have e2 : (c.di == 0) = true := by simpa using hd
        by_cases hw : c.wa = 0
        · have e3 : (c.wa == 0) = true := by simpa using hw
          go_wp2
          go_ret
          exact ⟨ret_bool (by rw [HE.out]; simp [hd, hw]), HB.out⟩
        · have e3 : (c.wa == 0) = false := by simpa using hw
          go_wp2
          go_ret
          exact ⟨ret_bool (by rw [HE.out]; simp [hw]), HB.out⟩
      · have e2 : (c.di == 0) = false := by simpa using hd
        go_wp2
        go_ret
        exact ⟨ret_bool (by rw [HE.out]; simp [hd]), HB.out⟩
end Go.Proofs.Ytelfpdjidppblaa
