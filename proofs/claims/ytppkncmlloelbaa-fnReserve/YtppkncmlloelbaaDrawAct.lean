/- What the laws on actions draw: DrawRegistered, DrawClear, DrawRelease, DrawRegister, DrawReserve, DrawPreempt. -/
import Derived.Test.YtppkncmlloelbaaDrawHold3
namespace Go.Proofs.Ytppkncmlloelbaa
open Go.ChangeShapes Go.WideShapes Go.ChangeAt Go.RowKit

theorem DM.alloc {w w1 wx : World} {B c g k : Nat} {u : Value} {h : Hd} (d : DM w w1 wx B c g k u h) (o : Obj) : DM w w1 (wx.alloc o) B c g k u h := by
  obtain ⟨h1, h2, h3, h4, h5, h6⟩ := d
  have G3 := World.grownBy_alloc wx o none
  exact ⟨h1.kept G3 (by simp) (by simp), h2.alloc h2.size _, h3.kept G3 (by simp), h4.kept G3 (by simp), h5.kept G3 (by simp), h6⟩
/- The answer's block is filled. -/
theorem DM.fill {w w1 wx : World} {B c g k : Nat} {u : Value} {h : Hd} (d : DM w w1 wx B c g k u h) : StB ((((wx.setCell ⟨g, 0, none⟩ u).setCell ⟨g, 1, none⟩ (.int .i64 h.kd)).setCell ⟨g, 2, none⟩ (.int .i64 h.ho)).setCell ⟨g, 3, none⟩ (.int .i64 h.tu)) g 26 (hdA u h) ∧
    Drawn w ((((wx.setCell ⟨g, 0, none⟩ u).setCell ⟨g, 1, none⟩ (.int .i64 h.kd)).setCell ⟨g, 2, none⟩ (.int .i64 h.ho)).setCell ⟨g, 3, none⟩ (.int .i64 h.tu)) u h ∧ Below w.heap.size w ((((wx.setCell ⟨g, 0, none⟩ u).setCell ⟨g, 1, none⟩ (.int .i64 h.kd)).setCell ⟨g, 2, none⟩ (.int .i64 h.ho)).setCell ⟨g, 3, none⟩ (.int .i64 h.tu)) := by
  have SE := (((d.2.2.1.put 0 u rfl).put 1 (.int .i64 h.kd) rfl).put 2 (.int .i64 h.ho) rfl).put 3 (.int .i64 h.tu) (ds := hdA u h) rfl
  have GE := (((grownSet wx g 0 u).trans (grownSet _ g 1 (.int .i64 h.kd))).trans (grownSet _ g 2 (.int .i64 h.ho))).trans (grownSet _ g 3 (.int .i64 h.tu))
  exact ⟨SE, d.fin GE⟩
theorem fill_alloc {w wy : World} {g : Nat} {u : Value} {h : Hd} {cs : Array Value} (f : StB wy g 26 cs ∧ Drawn w wy u h ∧ Below w.heap.size w wy) (o : Obj) : StB (wy.alloc o) g 26 cs ∧ Drawn w (wy.alloc o) u h ∧ Below w.heap.size w (wy.alloc o) :=
  ⟨f.1.alloc o, f.2.1.kept (World.grownBy_alloc wy o none) (by simp), f.2.2.alloc f.2.2.size o⟩
theorem results_S4 {t : TypeId} {n : Nat} (hS : IsS t n) {fn : Func} {p q r s : Tmp} (h : fn.results = #[.cell p t, .tmp q, .tmp r, .tmp s]) (tmps : Array Value) (w : World) (g : Nat) (cs : Array Value) (x y z : Value) (hn : cs.size = n)
    (hp : tmps.getD p undef = .pointer (some ⟨g, 0, none⟩)) (hx : tmps.getD q undef = x) (hy : tmps.getD r undef = y) (hz : tmps.getD s undef = z) (hr : StB w g t cs) : (results fn tmps).run Try.prog w = .ok (.tuple #[.agg cs, x, y, z]) w := by
  have hl := load_S hS w g cs hn hr
  have hp' : tmps[p]?.getD undef = .pointer (some ⟨g, 0, none⟩) := by simpa using hp
  have hx' : tmps[q]?.getD undef = x := by simpa using hx
  have hy' : tmps[r]?.getD undef = y := by simpa using hy
  have hz' : tmps[s]?.getD undef = z := by simpa using hz
  simp [results, h, hp', hx', hy', hz', asAddr, hl]
theorem Drawn.form {w w' : World} {u : Value} {h : Hd} (d : Drawn w w' u h) : ∃ q off cap n, u = .slice (some ⟨q, off, none⟩) n cap := by
  obtain ⟨-, ⟨q, off, cap, e2, -⟩, -⟩ := d
  exact ⟨q, off, cap, _, e2⟩

theorem cell_putG {w : World} {g k : Nat} (hne : k ≠ g) {j : Nat} {a b c d x : Value} (h : w.cell? ⟨g, j, none⟩ = some x) :
    ((((w.setCell ⟨k, 0, none⟩ a).setCell ⟨k, 1, none⟩ b).setCell ⟨k, 2, none⟩ c).setCell ⟨k, 3, none⟩ d).cell? ⟨g, j, none⟩ = some x := by
  rw [World.cell?_setCell_far _ _ _ _ hne, World.cell?_setCell_far _ _ _ _ hne, World.cell?_setCell_far _ _ _ _ hne, World.cell?_setCell_far _ _ _ _ hne, h]

set_option maxRecDepth 20000 in
set_option maxHeartbeats 4000000 in
theorem drawReg_any (B : Nat) (v : Value) (w : World) (hcode : CodeOk w B v) (hB : B ≤ w.heap.size) :
    Calls Try.prog 46 #[v] w fun e w' => ∃ (h : Hd) (u : Value) (x : Int), e = .returned (.tuple #[HV u h, .int .i64 x]) ∧ Drawn w w' u h ∧ Below w.heap.size w w' := by
  have HC : Hid (CodeOk (w.alloc (.cells zeroH 26)) B v) := hcode.below (((Below.refl w.heap.size w).alloc (Nat.le_refl _) _).mono hB)
  clear hcode
  go_enter Try.func46, Try.ntmps46
  go_wp2_with fail
  refine (new_code B v _ HC.out (by simp; omega)).mono ?_
  rintro e w1 ⟨c, rfl, hc, C1, G1⟩
  have hc1 := C1.lt.2
  have hs1 := G1.size
  simp at hc hs1
  have S1 : StB w1 w.heap.size 26 zeroH := (StB.new w _ _).kept G1 (by simp)
  have B1 : Below w.heap.size w w1 := ((Below.refl w.heap.size w).alloc (Nat.le_refl _) _).grown G1 (by simp) (by simp)
  have H1 : Hid (Cur w1 B c ∧ StB w1 w.heap.size 26 zeroH ∧ Below w.heap.size w w1) := ⟨C1, S1, B1⟩
  clear C1 S1 B1 G1 HC
  go_wp2_with fail
  refine (l8drawAny_any B c _ H1.out.1).mono ?_
  rintro e w2 ⟨h, u, rfl, D2, C2, G2⟩
  have hs2 := G2.size
  have HD : Hid (DM w w1 (w2.alloc (.cells (hdA u h) 26)) B c w.heap.size w2.heap.size u h) := by
    have G3 := World.grownBy_alloc w2 (.cells (hdA u h) 26) none
    refine ⟨C2.kept G3 (by simp) (by simp), (H1.out.2.2.grown G2 H1.out.2.2.size (fun x e => by cases e; omega)).alloc (by omega) _, ?_, StB.new w2 _ _, D2.kept G3 (by simp), by omega, by omega, by omega, by omega, by omega, by omega, by omega, by omega⟩
    exact (H1.out.2.1.kept G2 (by intro e; have := Option.some.inj e; omega)).alloc _
  clear D2 C2 G2 H1
  obtain ⟨q, off, cap, n, rfl⟩ := HD.out.2.2.2.2.1.form
  unfold HV
  unfold hdA at HD ⊢
  have hgk : w.heap.size ≠ w2.heap.size := by omega
  obtain ⟨w3, hw3⟩ : ∃ w3, w3 = w2.alloc (.cells #[(.slice (some ⟨q, off, none⟩) n cap), .int .i64 h.kd, .int .i64 h.ho, .int .i64 h.tu] 26) := ⟨_, rfl⟩
  rw [← hw3] at HD
  go_upto_region 3 with fail
  rw [← hw3]
  have HE : Hid (DM w w1 w3.drew B c w.heap.size w2.heap.size (.slice (some ⟨q, off, none⟩) n cap) h) := HD.out.drew
  have q0 : w3.cell? ⟨w2.heap.size, 0, none⟩ = some (.slice (some ⟨q, off, none⟩) n cap) := HD.out.2.2.2.1.cell 0 rfl
  have q1 : w3.cell? ⟨w2.heap.size, 1, none⟩ = some (.int .i64 h.kd) := HD.out.2.2.2.1.cell 1 rfl
  have q2 : w3.cell? ⟨w2.heap.size, 2, none⟩ = some (.int .i64 h.ho) := HD.out.2.2.2.1.cell 2 rfl
  have q3 : w3.cell? ⟨w2.heap.size, 3, none⟩ = some (.int .i64 h.tu) := HD.out.2.2.2.1.cell 3 rfl
  have p0 : w3.drew.cell? ⟨w2.heap.size, 0, none⟩ = some (.slice (some ⟨q, off, none⟩) n cap) := HE.out.2.2.2.1.cell 0 rfl
  have p1 : w3.drew.cell? ⟨w2.heap.size, 1, none⟩ = some (.int .i64 h.kd) := HE.out.2.2.2.1.cell 1 rfl
  have p2 : w3.drew.cell? ⟨w2.heap.size, 2, none⟩ = some (.int .i64 h.ho) := HE.out.2.2.2.1.cell 2 rfl
  have p3 : w3.drew.cell? ⟨w2.heap.size, 3, none⟩ = some (.int .i64 h.tu) := HE.out.2.2.2.1.cell 3 rfl
  clear HD hw3
  go_region_held3 (fun w' => w'.cell? ⟨w2.heap.size, 0, none⟩ = some (.slice (some ⟨q, off, none⟩) n cap) ∧ w'.cell? ⟨w2.heap.size, 1, none⟩ = some (.int .i64 h.kd) ∧ w'.cell? ⟨w2.heap.size, 2, none⟩ = some (.int .i64 h.ho) ∧ w'.cell? ⟨w2.heap.size, 3, none⟩ = some (.int .i64 h.tu)) (refine ⟨?_, ?_, ?_, ?_⟩ <;> first | with_reducible assumption | (with_reducible refine cell_putG hgk ?_; with_reducible assumption))
    (first | (go_at_call 43; refine (l8who_any B c _ HE.out.1).mono ?_; rintro e w4 ⟨x, rfl, C4, G4⟩; have H4 : Hid (DM w w1 w4 B c w.heap.size w2.heap.size (.slice (some ⟨q, off, none⟩) n cap) h) := HE.out.draw C4 G4; clear C4 G4; have r0 : w4.cell? ⟨w2.heap.size, 0, none⟩ = some (.slice (some ⟨q, off, none⟩) n cap) := H4.out.2.2.2.1.cell 0 rfl; have r1 : w4.cell? ⟨w2.heap.size, 1, none⟩ = some (.int .i64 h.kd) := H4.out.2.2.2.1.cell 1 rfl; have r2 : w4.cell? ⟨w2.heap.size, 2, none⟩ = some (.int .i64 h.ho) := H4.out.2.2.2.1.cell 2 rfl; have r3 : w4.cell? ⟨w2.heap.size, 3, none⟩ = some (.int .i64 h.tu) := H4.out.2.2.2.1.cell 3 rfl; have sz0 : w4.cell? ⟨w.heap.size, 0, none⟩ = some (.slice none 0 0) := H4.out.2.2.1.cell 0 rfl; have sf0 := H4.out.2.2.1.frozen 0; have sz1 : w4.cell? ⟨w.heap.size, 1, none⟩ = some (.int .i64 0) := H4.out.2.2.1.cell 1 rfl; have sf1 := H4.out.2.2.1.frozen 1; have sz2 : w4.cell? ⟨w.heap.size, 2, none⟩ = some (.int .i64 0) := H4.out.2.2.1.cell 2 rfl; have sf2 := H4.out.2.2.1.frozen 2; have sz3 : w4.cell? ⟨w.heap.size, 3, none⟩ = some (.int .i64 0) := H4.out.2.2.1.cell 3 rfl; have sf3 := H4.out.2.2.1.frozen 3))
  clear r0 sz0 sf0 r1 sz1 sf1 r2 sz2 sf2 r3 sz3 sf3 HE
  have HF : Hid (_ ∧ _ ∧ _) := H4.out.fill
  clear H4
  go_wp2
  refine bodyPost_ret (results_S2 Try.isH rfl _ _ w.heap.size _ _ rfl rfl rfl HF.out.1) rfl ?_
  exact ⟨h, _, x, rfl, HF.out.2⟩

set_option maxRecDepth 20000 in
set_option maxHeartbeats 4000000 in
theorem drawClear_any (B : Nat) (v : Value) (w : World) (hcode : CodeOk w B v) (hB : B ≤ w.heap.size) :
    Calls Try.prog 15 #[v] w fun e w' => ∃ (h : Hd) (u : Value) (x : Int), e = .returned (.tuple #[HV u h, .int .i64 x]) ∧ Drawn w w' u h ∧ Below w.heap.size w w' := by
  have HC : Hid (CodeOk (w.alloc (.cells zeroH 26)) B v) := hcode.below (((Below.refl w.heap.size w).alloc (Nat.le_refl _) _).mono hB)
  have b0 : Below w.heap.size w (w.alloc (.cells zeroH 26)) := (Below.refl _ _).alloc (Nat.le_refl _) _
  have S0 : StB (w.alloc (.cells zeroH 26)) w.heap.size 26 zeroH := StB.new _ _ _
  clear hcode
  go_enter Try.func15, Try.ntmps15
  go_wp2_with fail
  refine (drawReg_any B v _ HC.out (by simp; omega)).mono ?_
  rintro e w1 ⟨h, u, x, rfl, D1, B1⟩
  have HF : Hid (Below w.heap.size w w1 ∧ StB w1 w.heap.size 26 zeroH ∧ Drawn (w.alloc (.cells zeroH 26)) w1 u h) := ⟨b0.trans (B1.mono b0.size), S0.below B1, D1⟩
  obtain ⟨q, off, cap, n, rfl⟩ := D1.form
  clear D1 B1 S0 b0 HC
  go_wp2_with (refine wpList_putS Try.isH rfl _ _ rfl w.heap.size (hdA (.slice (some ⟨q, off, none⟩) n cap) h) zeroH rfl rfl rfl rfl (hdA_one _ rfl) HF.out.2.1 ?_; intro we se ge)
  refine bodyPost_ret (results_S2 Try.isH rfl _ _ w.heap.size _ _ rfl rfl rfl se) rfl ?_
  exact ⟨h, _, x, rfl, (HF.out.2.2.kept ge (fun k e => by cases e; exact .inl (by simp))).mono (by simp), HF.out.1.grown ge HF.out.1.size (fun x e => by cases e; exact Nat.le_refl _)⟩

set_option maxRecDepth 20000 in
set_option maxHeartbeats 4000000 in
theorem drawRel_any (B : Nat) (v : Value) (w : World) (hcode : CodeOk w B v) (hB : B ≤ w.heap.size) :
    Calls Try.prog 30 #[v] w fun e w' => ∃ (h : Hd) (u : Value) (x : Int), e = .returned (.tuple #[HV u h, .int .i64 x]) ∧ Drawn w w' u h ∧ Below w.heap.size w w' := by
  have HC : Hid (CodeOk (w.alloc (.cells zeroH 26)) B v) := hcode.below (((Below.refl w.heap.size w).alloc (Nat.le_refl _) _).mono hB)
  have b0 : Below w.heap.size w (w.alloc (.cells zeroH 26)) := (Below.refl _ _).alloc (Nat.le_refl _) _
  have S0 : StB (w.alloc (.cells zeroH 26)) w.heap.size 26 zeroH := StB.new _ _ _
  clear hcode
  go_enter Try.func30, Try.ntmps30
  go_wp2_with fail
  refine (drawReg_any B v _ HC.out (by simp; omega)).mono ?_
  rintro e w1 ⟨h, u, x, rfl, D1, B1⟩
  have HF : Hid (Below w.heap.size w w1 ∧ StB w1 w.heap.size 26 zeroH ∧ Drawn (w.alloc (.cells zeroH 26)) w1 u h) := ⟨b0.trans (B1.mono b0.size), S0.below B1, D1⟩
  obtain ⟨q, off, cap, n, rfl⟩ := D1.form
  clear D1 B1 S0 b0 HC
  go_wp2_with (refine wpList_putS Try.isH rfl _ _ rfl w.heap.size (hdA (.slice (some ⟨q, off, none⟩) n cap) h) zeroH rfl rfl rfl rfl (hdA_one _ rfl) HF.out.2.1 ?_; intro we se ge)
  refine bodyPost_ret (results_S2 Try.isH rfl _ _ w.heap.size _ _ rfl rfl rfl se) rfl ?_
  exact ⟨h, _, x, rfl, (HF.out.2.2.kept ge (fun k e => by cases e; exact .inl (by simp))).mono (by simp), HF.out.1.grown ge HF.out.1.size (fun x e => by cases e; exact Nat.le_refl _)⟩

set_option maxRecDepth 20000 in
set_option maxHeartbeats 4000000 in
theorem drawRes_any (B : Nat) (v : Value) (w : World) (hcode : CodeOk w B v) (hB : B ≤ w.heap.size) :
    Calls Try.prog 23 #[v] w fun e w' => ∃ (h : Hd) (u : Value) (x y : Int), e = .returned (.tuple #[HV u h, .int .i64 x, .int .i64 y]) ∧ Drawn w w' u h ∧ Below w.heap.size w w' := by
  have HC : Hid (CodeOk (w.alloc (.cells zeroH 26)) B v) := hcode.below (((Below.refl w.heap.size w).alloc (Nat.le_refl _) _).mono hB)
  clear hcode
  go_enter Try.func23, Try.ntmps23
  go_wp2_with fail
  refine (new_code B v _ HC.out (by simp; omega)).mono ?_
  rintro e w1 ⟨c, rfl, hc, C1, G1⟩
  have hc1 := C1.lt.2
  have hs1 := G1.size
  simp at hc hs1
  have S1 : StB w1 w.heap.size 26 zeroH := (StB.new w _ _).kept G1 (by simp)
  have B1 : Below w.heap.size w w1 := ((Below.refl w.heap.size w).alloc (Nat.le_refl _) _).grown G1 (by simp) (by simp)
  have H1 : Hid (Cur w1 B c ∧ StB w1 w.heap.size 26 zeroH ∧ Below w.heap.size w w1) := ⟨C1, S1, B1⟩
  clear C1 S1 B1 G1 HC
  go_wp2_with fail
  refine (l8drawAny_any B c _ H1.out.1).mono ?_
  rintro e w2 ⟨h, u, rfl, D2, C2, G2⟩
  have hs2 := G2.size
  have HD : Hid (DM w w1 (w2.alloc (.cells (hdA u h) 26)) B c w.heap.size w2.heap.size u h) := by
    have G3 := World.grownBy_alloc w2 (.cells (hdA u h) 26) none
    refine ⟨C2.kept G3 (by simp) (by simp), (H1.out.2.2.grown G2 H1.out.2.2.size (fun x e => by cases e; omega)).alloc (by omega) _, ?_, StB.new w2 _ _, D2.kept G3 (by simp), by omega, by omega, by omega, by omega, by omega, by omega, by omega, by omega⟩
    exact (H1.out.2.1.kept G2 (by intro e; have := Option.some.inj e; omega)).alloc _
  clear D2 C2 G2 H1
  obtain ⟨q, off, cap, n, rfl⟩ := HD.out.2.2.2.2.1.form
  unfold HV
  unfold hdA at HD ⊢
  have hgk : w.heap.size ≠ w2.heap.size := by omega
  go_wp2_with fail
  refine (l8who_any B c _ HD.out.1).mono ?_
  rintro e w3 ⟨x, rfl, C3, G3⟩
  have H3 : Hid (DM w w1 w3 B c w.heap.size w2.heap.size (.slice (some ⟨q, off, none⟩) n cap) h) := HD.out.draw C3 G3
  clear C3 G3 HD
  go_wp2_with fail
  refine (once_any B c 3 _ H3.out.1 (by omega)).mono ?_
  rintro e w4 ⟨b, rfl, C4, G4⟩
  have H4 : Hid (DM w w1 w4 B c w.heap.size w2.heap.size (.slice (some ⟨q, off, none⟩) n cap) h) := H3.out.draw C4 G4
  clear C4 G4 H3
  cases b with
  | true =>
    have HE : Hid (DM w w1 w4.drew B c w.heap.size w2.heap.size (.slice (some ⟨q, off, none⟩) n cap) h) := H4.out.drew
    have q0 : w4.cell? ⟨w2.heap.size, 0, none⟩ = some (.slice (some ⟨q, off, none⟩) n cap) := H4.out.2.2.2.1.cell 0 rfl
    have q1 : w4.cell? ⟨w2.heap.size, 1, none⟩ = some (.int .i64 h.kd) := H4.out.2.2.2.1.cell 1 rfl
    have q2 : w4.cell? ⟨w2.heap.size, 2, none⟩ = some (.int .i64 h.ho) := H4.out.2.2.2.1.cell 2 rfl
    have q3 : w4.cell? ⟨w2.heap.size, 3, none⟩ = some (.int .i64 h.tu) := H4.out.2.2.2.1.cell 3 rfl
    have sz0 : w4.cell? ⟨w.heap.size, 0, none⟩ = some (.slice none 0 0) := H4.out.2.2.1.cell 0 rfl; have sf0 := H4.out.2.2.1.frozen 0
    have sz1 : w4.cell? ⟨w.heap.size, 1, none⟩ = some (.int .i64 0) := H4.out.2.2.1.cell 1 rfl; have sf1 := H4.out.2.2.1.frozen 1
    have sz2 : w4.cell? ⟨w.heap.size, 2, none⟩ = some (.int .i64 0) := H4.out.2.2.1.cell 2 rfl; have sf2 := H4.out.2.2.1.frozen 2
    have sz3 : w4.cell? ⟨w.heap.size, 3, none⟩ = some (.int .i64 0) := H4.out.2.2.1.cell 3 rfl; have sf3 := H4.out.2.2.1.frozen 3
    clear H4
    go_upto_region 5 with fail
    go_region
    have HF : Hid (_ ∧ _ ∧ _) := HE.out.fill
    clear HE
    go_wp2
    refine bodyPost_ret (results_S3 Try.isH rfl _ _ w.heap.size _ _ _ rfl rfl rfl rfl HF.out.1) rfl ?_
    exact ⟨h, _, x, h.kd, rfl, HF.out.2⟩
  | false =>
    have HE : Hid (DM w w1 w4.drew B c w.heap.size w2.heap.size (.slice (some ⟨q, off, none⟩) n cap) h) := H4.out.drew
    have q0 : w4.cell? ⟨w2.heap.size, 0, none⟩ = some (.slice (some ⟨q, off, none⟩) n cap) := H4.out.2.2.2.1.cell 0 rfl
    have q1 : w4.cell? ⟨w2.heap.size, 1, none⟩ = some (.int .i64 h.kd) := H4.out.2.2.2.1.cell 1 rfl
    have q2 : w4.cell? ⟨w2.heap.size, 2, none⟩ = some (.int .i64 h.ho) := H4.out.2.2.2.1.cell 2 rfl
    have q3 : w4.cell? ⟨w2.heap.size, 3, none⟩ = some (.int .i64 h.tu) := H4.out.2.2.2.1.cell 3 rfl
    have p0 : w4.drew.cell? ⟨w2.heap.size, 0, none⟩ = some (.slice (some ⟨q, off, none⟩) n cap) := HE.out.2.2.2.1.cell 0 rfl
    have p1 : w4.drew.cell? ⟨w2.heap.size, 1, none⟩ = some (.int .i64 h.kd) := HE.out.2.2.2.1.cell 1 rfl
    have p2 : w4.drew.cell? ⟨w2.heap.size, 2, none⟩ = some (.int .i64 h.ho) := HE.out.2.2.2.1.cell 2 rfl
    have p3 : w4.drew.cell? ⟨w2.heap.size, 3, none⟩ = some (.int .i64 h.tu) := HE.out.2.2.2.1.cell 3 rfl
    clear H4
    go_upto_region 6 with fail
    go_region_held3 (fun w' => w'.cell? ⟨w2.heap.size, 0, none⟩ = some (.slice (some ⟨q, off, none⟩) n cap) ∧ w'.cell? ⟨w2.heap.size, 1, none⟩ = some (.int .i64 h.kd) ∧ w'.cell? ⟨w2.heap.size, 2, none⟩ = some (.int .i64 h.ho) ∧ w'.cell? ⟨w2.heap.size, 3, none⟩ = some (.int .i64 h.tu)) (refine ⟨?_, ?_, ?_, ?_⟩ <;> first | with_reducible assumption | (with_reducible refine cell_putG hgk ?_; with_reducible assumption))
      (first | (go_at_call 57; refine (from_any B c 0 8 _ HE.out.1 (by omega) (by omega) (by omega)).mono ?_; rintro e w5 ⟨y, rfl, ly, uy, C4, G4⟩; have H4 : Hid (DM w w1 w5 B c w.heap.size w2.heap.size (.slice (some ⟨q, off, none⟩) n cap) h) := HE.out.draw C4 G4; clear C4 G4; have r0 : w5.cell? ⟨w2.heap.size, 0, none⟩ = some (.slice (some ⟨q, off, none⟩) n cap) := H4.out.2.2.2.1.cell 0 rfl; have r1 : w5.cell? ⟨w2.heap.size, 1, none⟩ = some (.int .i64 h.kd) := H4.out.2.2.2.1.cell 1 rfl; have r2 : w5.cell? ⟨w2.heap.size, 2, none⟩ = some (.int .i64 h.ho) := H4.out.2.2.2.1.cell 2 rfl; have r3 : w5.cell? ⟨w2.heap.size, 3, none⟩ = some (.int .i64 h.tu) := H4.out.2.2.2.1.cell 3 rfl; have sz0 : w5.cell? ⟨w.heap.size, 0, none⟩ = some (.slice none 0 0) := H4.out.2.2.1.cell 0 rfl; have sf0 := H4.out.2.2.1.frozen 0; have sz1 : w5.cell? ⟨w.heap.size, 1, none⟩ = some (.int .i64 0) := H4.out.2.2.1.cell 1 rfl; have sf1 := H4.out.2.2.1.frozen 1; have sz2 : w5.cell? ⟨w.heap.size, 2, none⟩ = some (.int .i64 0) := H4.out.2.2.1.cell 2 rfl; have sf2 := H4.out.2.2.1.frozen 2; have sz3 : w5.cell? ⟨w.heap.size, 3, none⟩ = some (.int .i64 0) := H4.out.2.2.1.cell 3 rfl; have sf3 := H4.out.2.2.1.frozen 3))
    clear r0 sz0 sf0 r1 sz1 sf1 r2 sz2 sf2 r3 sz3 sf3 HE
    have HF : Hid (_ ∧ _ ∧ _) := H4.out.fill
    clear H4
    go_wp2
    refine bodyPost_ret (results_S3 Try.isH rfl _ _ w.heap.size _ _ _ rfl rfl rfl rfl HF.out.1) rfl ?_
    exact ⟨h, _, x, y, rfl, HF.out.2⟩

set_option maxRecDepth 20000 in
set_option maxHeartbeats 4000000 in
theorem drawPre_any (B : Nat) (v : Value) (w : World) (hcode : CodeOk w B v) (hB : B ≤ w.heap.size) :
    Calls Try.prog 24 #[v] w fun e w' => ∃ (h : Hd) (u : Value) (x y z : Int), e = .returned (.tuple #[HV u h, .int .i64 x, .int .i64 y, .int .i64 z]) ∧ Drawn w w' u h ∧ Below w.heap.size w w' := by
  have HC : Hid (CodeOk (w.alloc (.cells zeroH 26)) B v) := hcode.below (((Below.refl w.heap.size w).alloc (Nat.le_refl _) _).mono hB)
  clear hcode
  go_enter Try.func24, Try.ntmps24
  go_wp2_with fail
  refine (new_code B v _ HC.out (by simp; omega)).mono ?_
  rintro e w1 ⟨c, rfl, hc, C1, G1⟩
  have hc1 := C1.lt.2
  have hs1 := G1.size
  simp at hc hs1
  have S1 : StB w1 w.heap.size 26 zeroH := (StB.new w _ _).kept G1 (by simp)
  have B1 : Below w.heap.size w w1 := ((Below.refl w.heap.size w).alloc (Nat.le_refl _) _).grown G1 (by simp) (by simp)
  have H1 : Hid (Cur w1 B c ∧ StB w1 w.heap.size 26 zeroH ∧ Below w.heap.size w w1) := ⟨C1, S1, B1⟩
  clear C1 S1 B1 G1 HC
  go_wp2_with fail
  refine (l8drawAny_any B c _ H1.out.1).mono ?_
  rintro e w2 ⟨h, u, rfl, D2, C2, G2⟩
  have hs2 := G2.size
  have HD : Hid (DM w w1 (w2.alloc (.cells (hdA u h) 26)) B c w.heap.size w2.heap.size u h) := by
    have G3 := World.grownBy_alloc w2 (.cells (hdA u h) 26) none
    refine ⟨C2.kept G3 (by simp) (by simp), (H1.out.2.2.grown G2 H1.out.2.2.size (fun x e => by cases e; omega)).alloc (by omega) _, ?_, StB.new w2 _ _, D2.kept G3 (by simp), by omega, by omega, by omega, by omega, by omega, by omega, by omega, by omega⟩
    exact (H1.out.2.1.kept G2 (by intro e; have := Option.some.inj e; omega)).alloc _
  clear D2 C2 G2 H1
  obtain ⟨q, off, cap, n, rfl⟩ := HD.out.2.2.2.2.1.form
  unfold HV
  unfold hdA at HD ⊢
  have hgk : w.heap.size ≠ w2.heap.size := by omega
  go_wp2_with fail
  refine (l8who_any B c _ HD.out.1).mono ?_
  rintro e w3 ⟨x, rfl, C3, G3⟩
  have H3 : Hid (DM w w1 w3 B c w.heap.size w2.heap.size (.slice (some ⟨q, off, none⟩) n cap) h) := HD.out.draw C3 G3
  clear C3 G3 HD
  have L3 : Hid (DM w w1 (w3.alloc (.cells #[.int .i64 1, .int .i64 1, .int .i64 2, .int .i64 2, .int .i64 0, .int .i64 9999, .int .i64 10000] 2)) B c w.heap.size w2.heap.size (.slice (some ⟨q, off, none⟩) n cap) h) := H3.out.alloc _
  have hc3 := H3.out.1.lt.2
  clear H3
  go_wp2_with fail
  refine (below_any B c 7 _ L3.out.1 (by omega)).mono ?_
  rintro e w4 ⟨i, rfl, li, ui, -, C4, G4⟩
  have vi := ui (by omega)
  obtain ⟨y, hy⟩ := lit_at (w := w3) [1, 1, 2, 2, 0, 9999, 10000] (t := 2) G4 (by simp; omega) i (by omega) (by simp; omega)
  have H4 : Hid (DM w w1 w4 B c w.heap.size w2.heap.size (.slice (some ⟨q, off, none⟩) n cap) h) := L3.out.draw C4 G4
  clear ui C4 G4 L3
  go_upto_region 5 with fail
  have HE : Hid (DM w w1 w4.drew B c w.heap.size w2.heap.size (.slice (some ⟨q, off, none⟩) n cap) h) := H4.out.drew
  have q0 : w4.cell? ⟨w2.heap.size, 0, none⟩ = some (.slice (some ⟨q, off, none⟩) n cap) := H4.out.2.2.2.1.cell 0 rfl
  have q1 : w4.cell? ⟨w2.heap.size, 1, none⟩ = some (.int .i64 h.kd) := H4.out.2.2.2.1.cell 1 rfl
  have q2 : w4.cell? ⟨w2.heap.size, 2, none⟩ = some (.int .i64 h.ho) := H4.out.2.2.2.1.cell 2 rfl
  have q3 : w4.cell? ⟨w2.heap.size, 3, none⟩ = some (.int .i64 h.tu) := H4.out.2.2.2.1.cell 3 rfl
  have p0 : w4.drew.cell? ⟨w2.heap.size, 0, none⟩ = some (.slice (some ⟨q, off, none⟩) n cap) := HE.out.2.2.2.1.cell 0 rfl
  have p1 : w4.drew.cell? ⟨w2.heap.size, 1, none⟩ = some (.int .i64 h.kd) := HE.out.2.2.2.1.cell 1 rfl
  have p2 : w4.drew.cell? ⟨w2.heap.size, 2, none⟩ = some (.int .i64 h.ho) := HE.out.2.2.2.1.cell 2 rfl
  have p3 : w4.drew.cell? ⟨w2.heap.size, 3, none⟩ = some (.int .i64 h.tu) := HE.out.2.2.2.1.cell 3 rfl
  clear H4
  go_region_held3 (fun w' => w'.cell? ⟨w2.heap.size, 0, none⟩ = some (.slice (some ⟨q, off, none⟩) n cap) ∧ w'.cell? ⟨w2.heap.size, 1, none⟩ = some (.int .i64 h.kd) ∧ w'.cell? ⟨w2.heap.size, 2, none⟩ = some (.int .i64 h.ho) ∧ w'.cell? ⟨w2.heap.size, 3, none⟩ = some (.int .i64 h.tu)) (refine ⟨?_, ?_, ?_, ?_⟩ <;> first | with_reducible assumption | (with_reducible refine cell_putG hgk ?_; with_reducible assumption))
    (first | (go_at_call 57; refine (from_any B c 0 8 _ HE.out.1 (by omega) (by omega) (by omega)).mono ?_; rintro e w5 ⟨z, rfl, lz, uz, C4, G4⟩; have H4 : Hid (DM w w1 w5 B c w.heap.size w2.heap.size (.slice (some ⟨q, off, none⟩) n cap) h) := HE.out.draw C4 G4; clear C4 G4; have r0 : w5.cell? ⟨w2.heap.size, 0, none⟩ = some (.slice (some ⟨q, off, none⟩) n cap) := H4.out.2.2.2.1.cell 0 rfl; have r1 : w5.cell? ⟨w2.heap.size, 1, none⟩ = some (.int .i64 h.kd) := H4.out.2.2.2.1.cell 1 rfl; have r2 : w5.cell? ⟨w2.heap.size, 2, none⟩ = some (.int .i64 h.ho) := H4.out.2.2.2.1.cell 2 rfl; have r3 : w5.cell? ⟨w2.heap.size, 3, none⟩ = some (.int .i64 h.tu) := H4.out.2.2.2.1.cell 3 rfl; have sz0 : w5.cell? ⟨w.heap.size, 0, none⟩ = some (.slice none 0 0) := H4.out.2.2.1.cell 0 rfl; have sf0 := H4.out.2.2.1.frozen 0; have sz1 : w5.cell? ⟨w.heap.size, 1, none⟩ = some (.int .i64 0) := H4.out.2.2.1.cell 1 rfl; have sf1 := H4.out.2.2.1.frozen 1; have sz2 : w5.cell? ⟨w.heap.size, 2, none⟩ = some (.int .i64 0) := H4.out.2.2.1.cell 2 rfl; have sf2 := H4.out.2.2.1.frozen 2; have sz3 : w5.cell? ⟨w.heap.size, 3, none⟩ = some (.int .i64 0) := H4.out.2.2.1.cell 3 rfl; have sf3 := H4.out.2.2.1.frozen 3))
  clear r0 sz0 sf0 r1 sz1 sf1 r2 sz2 sf2 r3 sz3 sf3 HE
  have HF : Hid (_ ∧ _ ∧ _) := H4.out.fill
  clear H4
  go_wp2
  refine bodyPost_ret (results_S4 Try.isH rfl _ _ w.heap.size _ _ _ _ rfl rfl rfl rfl rfl HF.out.1) rfl ?_
  exact ⟨h, _, x, y, z, rfl, HF.out.2⟩

set_option maxRecDepth 20000 in
set_option maxHeartbeats 4000000 in
theorem drawRegister_any (B : Nat) (v : Value) (w : World) (hcode : CodeOk w B v) (hB : B ≤ w.heap.size) :
    Calls Try.prog 13 #[v] w fun e w' => ∃ (h : Hd) (u : Value) (x y : Int), e = .returned (.tuple #[HV u h, .int .i64 x, .int .i64 y]) ∧ Drawn w w' u h ∧ Below w.heap.size w w' := by
  have HC : Hid (CodeOk (w.alloc (.cells zeroH 26)) B v) := hcode.below (((Below.refl w.heap.size w).alloc (Nat.le_refl _) _).mono hB)
  clear hcode
  go_enter Try.func13, Try.ntmps13
  go_wp2_with fail
  refine (new_code B v _ HC.out (by simp; omega)).mono ?_
  rintro e w1 ⟨c, rfl, hc, C1, G1⟩
  have hc1 := C1.lt.2
  have hs1 := G1.size
  simp at hc hs1
  have S1 : StB w1 w.heap.size 26 zeroH := (StB.new w _ _).kept G1 (by simp)
  have B1 : Below w.heap.size w w1 := ((Below.refl w.heap.size w).alloc (Nat.le_refl _) _).grown G1 (by simp) (by simp)
  have H1 : Hid (Cur w1 B c ∧ StB w1 w.heap.size 26 zeroH ∧ Below w.heap.size w w1) := ⟨C1, S1, B1⟩
  clear C1 S1 B1 G1 HC
  go_wp2_with fail
  refine (l8drawAny_any B c _ H1.out.1).mono ?_
  rintro e w2 ⟨h, u, rfl, D2, C2, G2⟩
  have hs2 := G2.size
  have HD : Hid (DM w w1 (w2.alloc (.cells (hdA u h) 26)) B c w.heap.size w2.heap.size u h) := by
    have G3 := World.grownBy_alloc w2 (.cells (hdA u h) 26) none
    refine ⟨C2.kept G3 (by simp) (by simp), (H1.out.2.2.grown G2 H1.out.2.2.size (fun x e => by cases e; omega)).alloc (by omega) _, ?_, StB.new w2 _ _, D2.kept G3 (by simp), by omega, by omega, by omega, by omega, by omega, by omega, by omega, by omega⟩
    exact (H1.out.2.1.kept G2 (by intro e; have := Option.some.inj e; omega)).alloc _
  clear D2 C2 G2 H1
  obtain ⟨q, off, cap, n, rfl⟩ := HD.out.2.2.2.2.1.form
  unfold HV
  unfold hdA at HD ⊢
  have hgk : w.heap.size ≠ w2.heap.size := by omega
  go_wp2_with fail
  refine (l8who_any B c _ HD.out.1).mono ?_
  rintro e w3 ⟨x, rfl, C3, G3⟩
  have H3 : Hid (DM w w1 w3 B c w.heap.size w2.heap.size (.slice (some ⟨q, off, none⟩) n cap) h) := HD.out.draw C3 G3
  clear C3 G3 HD
  have hc3 := H3.out.1.lt.2
  have L3 : Hid (DM w w1 (w3.alloc (.cells #[.int .i64 0, .int .i64 0, .int .i64 1, .int .i64 2, .int .i64 9999, .int .i64 10000, .int .i64 (-1)] 2)).drew B c w.heap.size w2.heap.size (.slice (some ⟨q, off, none⟩) n cap) h) := (H3.out.alloc _).drew
  have D3 : Hid (DM w w1 w3.drew B c w.heap.size w2.heap.size (.slice (some ⟨q, off, none⟩) n cap) h) := H3.out.drew
  have s3 := H3.out.2.2.2.1.lt
  have q0 : w3.cell? ⟨w2.heap.size, 0, none⟩ = some (.slice (some ⟨q, off, none⟩) n cap) := H3.out.2.2.2.1.cell 0 rfl
  have q1 : w3.cell? ⟨w2.heap.size, 1, none⟩ = some (.int .i64 h.kd) := H3.out.2.2.2.1.cell 1 rfl
  have q2 : w3.cell? ⟨w2.heap.size, 2, none⟩ = some (.int .i64 h.ho) := H3.out.2.2.2.1.cell 2 rfl
  have q3 : w3.cell? ⟨w2.heap.size, 3, none⟩ = some (.int .i64 h.tu) := H3.out.2.2.2.1.cell 3 rfl
  clear H3
  go_upto_region 4 with fail
  go_region_with (first
    | (go_at_call 44; refine (below_any B c 7 _ L3.out.1 (by omega)).mono ?_; rintro e w4 ⟨i, rfl, li, ui, -, C4, G4⟩; have vi := ui (by omega); have H4 : Hid (DM w w1 w4 B c w.heap.size w2.heap.size (.slice (some ⟨q, off, none⟩) n cap) h) := L3.out.draw C4 G4; obtain ⟨y, hy⟩ := lit_at (w := w3) [0, 0, 1, 2, 9999, 10000, -1] (t := 2) ⟨G4.os, G4.tape, G4.output, G4.size, G4.block⟩ (by simp; omega) i (by omega) (by simp; omega); clear ui C4 G4; have HF : Hid (_ ∧ _ ∧ _) := H4.out.fill; have r0 : w4.cell? ⟨w2.heap.size, 0, none⟩ = some (.slice (some ⟨q, off, none⟩) n cap) := H4.out.2.2.2.1.cell 0 rfl; have r1 : w4.cell? ⟨w2.heap.size, 1, none⟩ = some (.int .i64 h.kd) := H4.out.2.2.2.1.cell 1 rfl; have r2 : w4.cell? ⟨w2.heap.size, 2, none⟩ = some (.int .i64 h.ho) := H4.out.2.2.2.1.cell 2 rfl; have r3 : w4.cell? ⟨w2.heap.size, 3, none⟩ = some (.int .i64 h.tu) := H4.out.2.2.2.1.cell 3 rfl; have sz0 : w4.cell? ⟨w.heap.size, 0, none⟩ = some (.slice none 0 0) := H4.out.2.2.1.cell 0 rfl; have sf0 := H4.out.2.2.1.frozen 0; have sz1 : w4.cell? ⟨w.heap.size, 1, none⟩ = some (.int .i64 0) := H4.out.2.2.1.cell 1 rfl; have sf1 := H4.out.2.2.1.frozen 1; have sz2 : w4.cell? ⟨w.heap.size, 2, none⟩ = some (.int .i64 0) := H4.out.2.2.1.cell 2 rfl; have sf2 := H4.out.2.2.1.frozen 2; have sz3 : w4.cell? ⟨w.heap.size, 3, none⟩ = some (.int .i64 0) := H4.out.2.2.1.cell 3 rfl; have sf3 := H4.out.2.2.1.frozen 3; clear H4)
    | (go_at_call 44; refine (below_any B c 7 _ D3.out.1 (by omega)).mono ?_; rintro e w4 ⟨i, rfl, li, ui, -, C4, G4⟩; have vi := ui (by omega); have H4 : Hid (DM w w1 w4 B c w.heap.size w2.heap.size (.slice (some ⟨q, off, none⟩) n cap) h) := D3.out.draw C4 G4; obtain ⟨y, hy'⟩ := lit_idx [0, 0, 1, 2, 9999, 10000, -1] i (by omega) (by simp; omega); have hy : ∀ hh : i.toNat < ([.int .i64 0, .int .i64 0, .int .i64 1, .int .i64 2, .int .i64 9999, .int .i64 10000, .int .i64 (-1)] : List Value).length, ([.int .i64 0, .int .i64 0, .int .i64 1, .int .i64 2, .int .i64 9999, .int .i64 10000, .int .i64 (-1)] : List Value)[i.toNat]'hh = .int .i64 y := hy'; clear hy' ui C4 G4; have HF : Hid (_ ∧ _ ∧ _) := (H4.out.alloc (.cells #[.int .i64 0, .int .i64 0, .int .i64 1, .int .i64 2, .int .i64 9999, .int .i64 10000, .int .i64 (-1)] 2)).fill; have HG : Hid (_ ∧ _ ∧ _) := fill_alloc H4.out.fill (.cells #[.int .i64 0, .int .i64 0, .int .i64 1, .int .i64 2, .int .i64 9999, .int .i64 10000, .int .i64 (-1)] 2); have r0 : w4.cell? ⟨w2.heap.size, 0, none⟩ = some (.slice (some ⟨q, off, none⟩) n cap) := H4.out.2.2.2.1.cell 0 rfl; have r1 : w4.cell? ⟨w2.heap.size, 1, none⟩ = some (.int .i64 h.kd) := H4.out.2.2.2.1.cell 1 rfl; have r2 : w4.cell? ⟨w2.heap.size, 2, none⟩ = some (.int .i64 h.ho) := H4.out.2.2.2.1.cell 2 rfl; have r3 : w4.cell? ⟨w2.heap.size, 3, none⟩ = some (.int .i64 h.tu) := H4.out.2.2.2.1.cell 3 rfl; have sz0 : w4.cell? ⟨w.heap.size, 0, none⟩ = some (.slice none 0 0) := H4.out.2.2.1.cell 0 rfl; have sf0 := H4.out.2.2.1.frozen 0; have sz1 : w4.cell? ⟨w.heap.size, 1, none⟩ = some (.int .i64 0) := H4.out.2.2.1.cell 1 rfl; have sf1 := H4.out.2.2.1.frozen 1; have sz2 : w4.cell? ⟨w.heap.size, 2, none⟩ = some (.int .i64 0) := H4.out.2.2.1.cell 2 rfl; have sf2 := H4.out.2.2.1.frozen 2; have sz3 : w4.cell? ⟨w.heap.size, 3, none⟩ = some (.int .i64 0) := H4.out.2.2.1.cell 3 rfl; have sf3 := H4.out.2.2.1.frozen 3; have s4 := H4.out.2.2.2.1.lt; have L4 : Hid (DM w w1 (w4.alloc (.cells #[.int .i64 0, .int .i64 0, .int .i64 1, .int .i64 2, .int .i64 9999, .int .i64 10000, .int .i64 (-1)] 2)) B c w.heap.size w2.heap.size (.slice (some ⟨q, off, none⟩) n cap) h) := H4.out.alloc _; have t0 : (w4.alloc (.cells #[.int .i64 0, .int .i64 0, .int .i64 1, .int .i64 2, .int .i64 9999, .int .i64 10000, .int .i64 (-1)] 2)).cell? ⟨w2.heap.size, 0, none⟩ = some (.slice (some ⟨q, off, none⟩) n cap) := L4.out.2.2.2.1.cell 0 rfl; have t1 : (w4.alloc (.cells #[.int .i64 0, .int .i64 0, .int .i64 1, .int .i64 2, .int .i64 9999, .int .i64 10000, .int .i64 (-1)] 2)).cell? ⟨w2.heap.size, 1, none⟩ = some (.int .i64 h.kd) := L4.out.2.2.2.1.cell 1 rfl; have t2 : (w4.alloc (.cells #[.int .i64 0, .int .i64 0, .int .i64 1, .int .i64 2, .int .i64 9999, .int .i64 10000, .int .i64 (-1)] 2)).cell? ⟨w2.heap.size, 2, none⟩ = some (.int .i64 h.ho) := L4.out.2.2.2.1.cell 2 rfl; have t3 : (w4.alloc (.cells #[.int .i64 0, .int .i64 0, .int .i64 1, .int .i64 2, .int .i64 9999, .int .i64 10000, .int .i64 (-1)] 2)).cell? ⟨w2.heap.size, 3, none⟩ = some (.int .i64 h.tu) := L4.out.2.2.2.1.cell 3 rfl; have uz0 : (w4.alloc (.cells #[.int .i64 0, .int .i64 0, .int .i64 1, .int .i64 2, .int .i64 9999, .int .i64 10000, .int .i64 (-1)] 2)).cell? ⟨w.heap.size, 0, none⟩ = some (.slice none 0 0) := L4.out.2.2.1.cell 0 rfl; have uf0 := L4.out.2.2.1.frozen 0; have uz1 : (w4.alloc (.cells #[.int .i64 0, .int .i64 0, .int .i64 1, .int .i64 2, .int .i64 9999, .int .i64 10000, .int .i64 (-1)] 2)).cell? ⟨w.heap.size, 1, none⟩ = some (.int .i64 0) := L4.out.2.2.1.cell 1 rfl; have uf1 := L4.out.2.2.1.frozen 1; have uz2 : (w4.alloc (.cells #[.int .i64 0, .int .i64 0, .int .i64 1, .int .i64 2, .int .i64 9999, .int .i64 10000, .int .i64 (-1)] 2)).cell? ⟨w.heap.size, 2, none⟩ = some (.int .i64 0) := L4.out.2.2.1.cell 2 rfl; have uf2 := L4.out.2.2.1.frozen 2; have uz3 : (w4.alloc (.cells #[.int .i64 0, .int .i64 0, .int .i64 1, .int .i64 2, .int .i64 9999, .int .i64 10000, .int .i64 (-1)] 2)).cell? ⟨w.heap.size, 3, none⟩ = some (.int .i64 0) := L4.out.2.2.1.cell 3 rfl; have uf3 := L4.out.2.2.1.frozen 3; clear H4 L4))
  all_goals
    (skip
     clear L3 D3
     first
       | (obtain ⟨we, hwe⟩ : ∃ we, we = (((((w4.alloc (.cells #[.int .i64 0, .int .i64 0, .int .i64 1, .int .i64 2, .int .i64 9999, .int .i64 10000, .int .i64 (-1)] 2)).setCell ⟨w.heap.size, 0, none⟩ (.slice (some ⟨q, off, none⟩) n cap)).setCell ⟨w.heap.size, 1, none⟩ (.int .i64 h.kd)).setCell ⟨w.heap.size, 2, none⟩ (.int .i64 h.ho)).setCell ⟨w.heap.size, 3, none⟩ (.int .i64 h.tu)) := ⟨_, rfl⟩; rw [← hwe] at HF; rw [← hwe]; clear hwe HG)
       | (obtain ⟨we, hwe⟩ : ∃ we, we = ((((w4.setCell ⟨w.heap.size, 0, none⟩ (.slice (some ⟨q, off, none⟩) n cap)).setCell ⟨w.heap.size, 1, none⟩ (.int .i64 h.kd)).setCell ⟨w.heap.size, 2, none⟩ (.int .i64 h.ho)).setCell ⟨w.heap.size, 3, none⟩ (.int .i64 h.tu)).alloc (.cells #[.int .i64 0, .int .i64 0, .int .i64 1, .int .i64 2, .int .i64 9999, .int .i64 10000, .int .i64 (-1)] 2) := ⟨_, rfl⟩; rw [← hwe] at HG; rw [← hwe]; clear hwe HF; have HF := HG; clear HG)
       | (obtain ⟨we, hwe⟩ : ∃ we, we = ((((w4.setCell ⟨w.heap.size, 0, none⟩ (.slice (some ⟨q, off, none⟩) n cap)).setCell ⟨w.heap.size, 1, none⟩ (.int .i64 h.kd)).setCell ⟨w.heap.size, 2, none⟩ (.int .i64 h.ho)).setCell ⟨w.heap.size, 3, none⟩ (.int .i64 h.tu)) := ⟨_, rfl⟩; rw [← hwe] at HF; rw [← hwe]; clear hwe)
     go_wp2
     refine bodyPost_ret (results_S3 Try.isH rfl _ _ w.heap.size _ _ _ rfl rfl rfl rfl HF.out.1) rfl ?_
     exact ⟨h, _, x, y, rfl, HF.out.2⟩)
end Go.Proofs.Ytppkncmlloelbaa
