/- Sinks by the model: SinkOk, NewSink, l14Fits, Fits, l14Copy, Received. -/
import Derived.Test.YtdcdfhklnhaimaaSn
import Derived.Test.YtdcdfhklnhaimaaSCop
namespace Go.Proofs.Ytdcdfhklnhaimaa
open Go.ChangeShapes Go.WideShapes Go.ChangeAt Go.RowKit

def snA (v : Value) (c : Sn) : Array Value := #[.int .i64 c.tr, v]
def SnV (v : Value) (c : Sn) : Value := .agg (snA v c)
def zeroSn : Array Value := #[.int .i64 0, .slice none 0 0]
theorem zeroSn_one : zeroSn.all (·.oneCell') = true := by simp [zeroSn, Value.oneCell']
theorem Try.isSn : IsS 26 2 := ⟨⟨_, Try.underlying26⟩, by kernel_rfl⟩
theorem snA_one {v : Value} (c : Sn) (hv : v.oneCell' = true) : (snA v c).all (·.oneCell') = true := by
  unfold snA
  simp [hv, show ∀ k n, (Value.int k n).oneCell' = true from fun _ _ => rfl]

set_option maxRecDepth 20000 in
set_option maxHeartbeats 1000000 in
theorem ssinkok_any (v : Value) (c : Sn) (w : World) (hr : Reads w v c.ts) (hl : c.ts.length ≤ 1099511627776) :
    Calls Try.prog 18 #[SnV v c] w fun e w' => e = .returned (.bool c.ok) ∧ Below w.heap.size w w' := by
  have HE : Hid (c.ok = if c.tr = 0 then decide (c.ts.length = 0) else (inI c.tr 1 100000 && (turnsI c.ts && inI c.ts.length 1 8))) := rfl
  obtain ⟨ao, cap, rfl⟩ := reads_form hr
  obtain ⟨w1, hw1⟩ : ∃ w1, w1 = w.alloc (.cells (snA (.slice ao c.ts.length cap) c) 26) := ⟨_, rfl⟩
  have H1 : StB w1 w.heap.size 26 (snA (.slice ao c.ts.length cap) c) := by rw [hw1]; exact StB.new _ _ _
  have HB : Hid (Below w.heap.size w w1) := by rw [hw1]; exact (Below.refl _ _).alloc (Nat.le_refl _) _
  have HW : Hid (w1 = w.alloc (.cells #[.int .i64 c.tr, .slice ao c.ts.length cap] 26)) := hw1
  have k0 : w1.cell? ⟨w.heap.size, 0, none⟩ = some (.int .i64 c.tr) := H1.cell 0 rfl
  have k1 : w1.cell? ⟨w.heap.size, 1, none⟩ = some (.slice ao c.ts.length cap) := H1.cell 1 rfl
  have ct := fun wx => sin6_any c.tr 1 100000 wx
  have cs := sturns_any (.slice ao c.ts.length cap) c.ts w1 (hr.below HB.out (Nat.le_refl _)) hl
  obtain ⟨x, hx⟩ : ∃ x, x = c.ok := ⟨_, rfl⟩
  rw [← hx] at HE ⊢
  obtain ⟨bt, hbt⟩ : ∃ bt, bt = inI c.tr 1 100000 := ⟨_, rfl⟩
  rw [← hbt] at HE
  simp only [← hbt] at ct
  obtain ⟨bs, hbs⟩ : ∃ bs, bs = (turnsI c.ts && inI c.ts.length 1 8) := ⟨_, rfl⟩
  rw [← hbs] at HE
  simp only [← hbs] at cs
  obtain ⟨n, hn⟩ : ∃ n, n = c.ts.length := ⟨_, rfl⟩
  rw [← hn] at hl k1 HW HE cs
  unfold SnV snA
  rw [← hn]
  clear hw1 H1 hr hn hx hbt hbs
  by_cases ht : c.tr = 0
  · have HX : Hid (x = ((n : Int) == 0)) := by
      rw [Hid, HE.out, if_pos ht, Bool.eq_iff_iff]; simp
    have e1 : (c.tr == 0) = true := by simpa using ht
    clear HE ct cs
    go_enter Try.func18, Try.ntmps18
    go_wp2
    go_ret
    exact ⟨ret_bool (by rw [HX.out]), (Below.refl _ _).alloc (Nat.le_refl _) _⟩
  · have HX : Hid (x = (bt && bs)) := by rw [Hid, HE.out, if_neg ht]
    have e1 : (c.tr == 0) = false := by simpa using ht
    clear HE
    go_enter Try.func18, Try.ntmps18
    go_wp2_with fail
    rw [← HW.out]
    refine (ct _).mono ?_
    rintro e w' ⟨rfl, hw⟩; subst w'
    clear ct
    cases bt with
    | false =>
      go_wp2
      go_ret
      exact ⟨ret_bool (by rw [HX.out]; rfl), HB.out⟩
    | true =>
      go_wp2_with fail
      refine cs.mono ?_
      rintro e w' ⟨rfl, hw⟩; subst w'
      clear cs
      go_wp2
      go_ret
      exact ⟨ret_bool (by rw [HX.out]; rfl), HB.out⟩

set_option maxRecDepth 20000 in
set_option maxHeartbeats 1000000 in
theorem sfits_any (v : Value) (c : Sn) (t i n : Int) (w : World) (hr : Reads w v c.ts) :
    Calls Try.prog 35 #[SnV v c, .int .i64 t, .int .i64 i, .int .i64 n] w fun e w' => e = .returned (.bool (c.fits t i n)) ∧ Below w.heap.size w w' := by
  have HE : Hid (c.fits t i n = (decide (0 < c.tr) && decide (c.tr = t) && decide (0 ≤ i) && decide (i < (c.ts.length : Int)) && decide (c.ts.getD i.toNat 0 < n))) := rfl
  obtain ⟨ao, cap, rfl⟩ := reads_form hr
  obtain ⟨-, hc1, hc2, hcell⟩ := reads_cells hr
  unfold maxLen at hc2
  obtain ⟨x, hx⟩ : ∃ x, x = c.fits t i n := ⟨_, rfl⟩
  rw [← hx] at HE ⊢
  unfold SnV snA
  clear hx
  by_cases h0 : 0 < c.tr
  · by_cases h1 : c.tr = t
    · have e1 : (c.tr == t) = true := by simpa using h1
      by_cases h2 : 0 ≤ i
      · by_cases h3 : i < (c.ts.length : Int)
        · obtain ⟨j, rfl⟩ := nat_of h2
          obtain ⟨b, off, rfl, kj⟩ := hcell j (by omega)
          rw [Int.toNat_natCast] at HE
          have hb := World.block_lt_of_cell? w _ kj
          obtain ⟨y, hy⟩ : ∃ y, y = c.ts.getD j 0 := ⟨_, rfl⟩
          rw [← hy] at kj HE
          have kq : (w.alloc (.cells #[.int .i64 c.tr, .slice (some ⟨b, off, none⟩) c.ts.length cap] 26)).cell? ⟨b, off + j, none⟩ = some (.int .i64 y) := by rw [← kj]; exact ((Below.refl w.heap.size w).alloc (Nat.le_refl _) _).cell hb
          clear hy hr hcell
          by_cases h4 : y < n
          · skip
            go_enter Try.func35, Try.ntmps35
            go_wp2
            go_ret
            exact ⟨ret_bool (by rw [HE.out]; rw [decide_eq_true h0, decide_eq_true h1, decide_eq_true h2, decide_eq_true h3, decide_eq_true h4]; rfl), (Below.refl _ _).alloc (Nat.le_refl _) _⟩
          · skip
            go_enter Try.func35, Try.ntmps35
            go_wp2
            go_ret
            exact ⟨ret_bool (by rw [HE.out]; rw [show decide (y < n) = false from decide_eq_false (by omega), Bool.and_false]), (Below.refl _ _).alloc (Nat.le_refl _) _⟩
        · clear hr hcell
          go_enter Try.func35, Try.ntmps35
          go_wp2
          go_ret
          exact ⟨ret_bool (by rw [HE.out]; rw [show decide (i < (c.ts.length : Int)) = false from decide_eq_false (by omega)]; simp), (Below.refl _ _).alloc (Nat.le_refl _) _⟩
      · clear hr hcell
        go_enter Try.func35, Try.ntmps35
        go_wp2
        go_ret
        exact ⟨ret_bool (by rw [HE.out]; rw [show decide (0 ≤ i) = false from decide_eq_false (by omega)]; simp), (Below.refl _ _).alloc (Nat.le_refl _) _⟩
    · have e1 : (c.tr == t) = false := by simpa using h1
      clear hr hcell
      go_enter Try.func35, Try.ntmps35
      go_wp2
      go_ret
      exact ⟨ret_bool (by rw [HE.out]; rw [show decide (c.tr = t) = false from decide_eq_false h1]; simp), (Below.refl _ _).alloc (Nat.le_refl _) _⟩
  · clear hr hcell
    go_enter Try.func35, Try.ntmps35
    go_wp2
    go_ret
    exact ⟨ret_bool (by rw [HE.out]; rw [show decide (0 < c.tr) = false from decide_eq_false (by omega)]; simp), (Below.refl _ _).alloc (Nat.le_refl _) _⟩

set_option maxRecDepth 20000 in
set_option maxHeartbeats 1000000 in
theorem sFits_any (v : Value) (c : Sn) (t i n : Int) (w : World) (hr : Reads w v c.ts) (hl : c.ts.length ≤ 1099511627776) :
    Calls Try.prog 16 #[SnV v c, .int .i64 t, .int .i64 i, .int .i64 n] w fun e w' => e = .returned (.bool (c.Fits t i n)) ∧ Below w.heap.size w w' := by
  have HE : Hid (c.Fits t i n = (c.ok && c.fits t i n)) := rfl
  obtain ⟨w1, hw1⟩ : ∃ w1, w1 = w.alloc (.cells (snA v c) 26) := ⟨_, rfl⟩
  have H1 : StB w1 w.heap.size 26 (snA v c) := by rw [hw1]; exact StB.new _ _ _
  have B1 : Below w.heap.size w w1 := by rw [hw1]; exact (Below.refl _ _).alloc (Nat.le_refl _) _
  have c1 := ssinkok_any v c w1 (hr.below B1 (Nat.le_refl _)) hl
  have HC : Hid (∀ w2, Below w1.heap.size w1 w2 → StB w2 w.heap.size 26 (snA v c) ∧ Below w.heap.size w w2 ∧ Calls Try.prog 35 #[SnV v c, .int .i64 t, .int .i64 i, .int .i64 n] w2 fun e w' => e = .returned (.bool (c.fits t i n)) ∧ Below w2.heap.size w2 w') := fun w2 b => ⟨H1.below b, B1.trans (b.mono B1.size), sfits_any v c t i n w2 ((hr.below B1 (Nat.le_refl _)).below b (Nat.le_refl _))⟩
  obtain ⟨ao, cap, rfl⟩ := reads_form hr
  have HW : Hid (w1 = w.alloc (.cells #[.int .i64 c.tr, .slice ao c.ts.length cap] 26)) := hw1
  have k0 : w1.cell? ⟨w.heap.size, 0, none⟩ = some (.int .i64 c.tr) := H1.cell 0 rfl
  have k1 : w1.cell? ⟨w.heap.size, 1, none⟩ = some (.slice ao c.ts.length cap) := H1.cell 1 rfl
  obtain ⟨x, hx⟩ : ∃ x, x = c.Fits t i n := ⟨_, rfl⟩
  rw [← hx] at HE ⊢
  obtain ⟨bo, hbo⟩ : ∃ bo, bo = c.ok := ⟨_, rfl⟩
  rw [← hbo] at HE c1
  obtain ⟨bf, hbf⟩ : ∃ bf, bf = c.fits t i n := ⟨_, rfl⟩
  rw [← hbf] at HE HC
  unfold SnV at c1 HC ⊢
  conv in snA (.slice ao c.ts.length cap) c => unfold snA
  conv at c1 in snA (.slice ao c.ts.length cap) c => unfold snA
  clear hw1 H1 hr hx hbo hbf B1
  go_enter Try.func16, Try.ntmps16
  go_wp2_with fail
  rw [← HW.out]
  refine c1.mono ?_
  rintro e w2 ⟨rfl, b2⟩
  obtain ⟨s2, B2, c2⟩ := HC.out w2 b2
  clear HW c1 HC k0 k1 b2
  have k0 : w2.cell? ⟨w.heap.size, 0, none⟩ = some (.int .i64 c.tr) := s2.cell 0 rfl
  have k1 : w2.cell? ⟨w.heap.size, 1, none⟩ = some (.slice ao c.ts.length cap) := s2.cell 1 rfl
  have HB : Hid (Below w.heap.size w w2) := B2
  unfold snA at c2
  clear s2 B2
  cases bo with
  | false =>
    clear c2
    go_wp2
    go_ret
    exact ⟨ret_bool (by rw [HE.out]; rfl), HB.out⟩
  | true =>
    go_wp2_with fail
    refine c2.mono ?_
    rintro e w3 ⟨rfl, b3⟩
    replace HB : Hid (Below w.heap.size w w3) := HB.out.trans (b3.mono HB.out.size)
    clear c2 b3 k0 k1
    go_wp2
    go_ret
    exact ⟨ret_bool (by rw [HE.out]; rfl), HB.out⟩

set_option maxRecDepth 20000 in
set_option maxHeartbeats 2000000 in
theorem scopyS_any (v : Value) (c : Sn) (w : World) (hr : Reads w v c.ts) (hl : c.ts.length ≤ 1099511627776) :
    Calls Try.prog 34 #[SnV v c] w fun e w' => ∃ u, e = .returned (SnV u c) ∧ Own w' w.heap.size u c.ts ∧ Below w.heap.size w w' := by
  obtain ⟨w1, hw1⟩ : ∃ w1, w1 = (w.alloc (.cells (snA v c) 26)).alloc (.cells zeroSn 26) := ⟨_, rfl⟩
  have p0 : StB w1 w.heap.size 26 (snA v c) := by rw [hw1]; exact (StB.new w _ _).alloc _
  have q0 : StB w1 (w.heap.size + 1) 26 zeroSn := by
    rw [hw1]
    have := StB.new (w.alloc (.cells (snA v c) 26)) 26 zeroSn
    rwa [World.size_alloc] at this
  have b1 : Below w.heap.size w w1 := by rw [hw1]; exact ((Below.refl _ _).alloc (Nat.le_refl _) _).alloc (by simp) _
  have c1 := copy_any v c.ts w1 (hr.below b1 (Nat.le_refl _)) hl
  have hs1 := q0.lt
  obtain ⟨ao, cap, rfl⟩ := reads_form hr
  have HW : Hid (w1 = (w.alloc (.cells #[.int .i64 c.tr, .slice ao c.ts.length cap] 26)).alloc (.cells #[.int .i64 0, .slice none 0 0] 26)) := hw1
  have k1 : w1.cell? ⟨w.heap.size, 1, none⟩ = some (.slice ao c.ts.length cap) := p0.cell 1 rfl
  clear hw1 hr hl
  unfold SnV snA
  go_enter Try.func34, Try.ntmps34
  go_wp2_with fail
  rw [← HW.out]
  clear HW
  refine c1.mono ?_
  rintro e w3 ⟨u, rfl, o3, b3⟩
  replace p0 := p0.below b3
  replace q0 := q0.below b3
  have B3 := b1.trans (b3.mono b1.size)
  obtain ⟨ab, cb, rfl⟩ := reads_form o3.reads
  have k0 : w3.cell? ⟨w.heap.size, 1, none⟩ = some (.slice ao c.ts.length cap) := p0.cell 1 rfl
  have f0 := p0.frozen 1
  have r4 := p0.put 1 (.slice ab c.ts.length cb) (ds := snA (.slice ab c.ts.length cb) c) rfl
  have q4 := q0.other ⟨w.heap.size, 1, none⟩ (.slice ab c.ts.length cb) (by simp)
  have HP : Hid (Own (w3.setCell ⟨w.heap.size, 1, none⟩ (.slice ab c.ts.length cb)) w1.heap.size (.slice ab c.ts.length cb) c.ts ∧ Below w.heap.size w (w3.setCell ⟨w.heap.size, 1, none⟩ (.slice ab c.ts.length cb))) := ⟨o3.setLt (by omega) 1 _, B3.setCell (Nat.le_refl _) _⟩
  clear k1 p0 q0 c1 o3 b3 b1 B3
  go_upto_region 2 with fail
  obtain ⟨w4, hw4⟩ : ∃ w4, w4 = w3.setCell ⟨w.heap.size, 1, none⟩ (.slice ab c.ts.length cb) := ⟨_, rfl⟩
  rw [← hw4] at r4 q4 HP ⊢
  clear hw4 k0 f0
  go_wp2_with (first | (refine wpList_getS Try.isSn rfl _ rfl w.heap.size rfl (snA (.slice ab c.ts.length cb) c) rfl r4 ?_) | (refine wpList_putS Try.isSn rfl _ _ rfl (w.heap.size + 1) (snA (.slice ab c.ts.length cb) c) zeroSn rfl rfl rfl rfl (snA_one c rfl) q4 ?_; intro w8 s8 g8))
  refine bodyPost_ret (results_S Try.isSn rfl _ _ (w.heap.size + 1) _ rfl rfl s8) rfl ?_
  exact ⟨_, rfl, (HP.out.1.keptLt g8 (by omega)).mono (by omega), HP.out.2.grown g8 HP.out.2.size (fun k e => by cases e; omega)⟩

end Go.Proofs.Ytdcdfhklnhaimaa
