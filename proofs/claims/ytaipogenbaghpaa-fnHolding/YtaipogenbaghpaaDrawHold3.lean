/- What the law on holdings draws: l8DrawWho, DrawMay. -/
import Derived.Test.YtaipogenbaghpaaDrawHold2
namespace Go.Proofs.Ytaipogenbaghpaa
open Go.ChangeShapes Go.WideShapes Go.ChangeAt Go.RowKit

set_option maxRecDepth 20000 in
set_option maxHeartbeats 1000000 in
theorem l8who_any (B c : Nat) (w : World) (hcur : Cur w B c) :
    Calls Try.prog 29 #[.pointer (some ⟨c, 0, none⟩)] w fun e w' => ∃ x : Int, e = .returned (.int .i64 x) ∧ Cur w' B c ∧ w.grownBy w' (some c) := by
  have hcw := hcur.lt.2
  have HC0 : Hid (Cur w B c) := hcur
  clear hcur
  go_enter Try.func29, Try.ntmps29
  go_wp2_with fail
  refine (once_any B c 14 _ HC0.out (by omega)).mono ?_
  rintro e w1 ⟨b, rfl, C1, G1⟩
  have HC1 : Hid (Cur w1 B c ∧ w.grownBy w1 (some c)) := ⟨C1, G1⟩
  have hc1 := C1.lt.2
  clear HC0 C1 G1
  cases b with
  | false =>
    go_wp2_with fail
    refine (below_any B c 4 _ HC1.out.1 (by omega)).mono ?_
    rintro e w2 ⟨x, rfl, lx, ux, -, C2, G2⟩
    go_wp2_with fail
    go_ret
    exact ⟨x, rfl, C2, HC1.out.2.trans G2⟩
  | true =>
    have L1 : Hid (Cur (w1.alloc (.cells #[.int .i64 (-1), .int .i64 4, .int .i64 4611686018427387904] 2)) B c ∧ w.grownBy (w1.alloc (.cells #[.int .i64 (-1), .int .i64 4, .int .i64 4611686018427387904] 2)) (some c)) :=
      ⟨HC1.out.1.kept (World.grownBy_alloc w1 _ none) (by simp) (by simp), HC1.out.2.trans (World.grownBy_alloc w1 _ _)⟩
    clear HC1
    go_wp2_with fail
    refine (below_any B c 3 _ L1.out.1 (by omega)).mono ?_
    rintro e w2 ⟨i, rfl, li, ui, -, C2, G2⟩
    have vi := ui (by omega)
    obtain ⟨x, hx⟩ := lit_at (w := w1) [-1, 4, 4611686018427387904] (t := 2) G2 (by simp; omega) i (by omega) (by simp; omega)
    have HC2 : Hid (Cur w2 B c ∧ w.grownBy w2 (some c)) := ⟨C2, L1.out.2.trans G2⟩
    clear ui C2 G2 L1
    go_wp2_with fail
    go_ret
    exact ⟨x, rfl, HC2.out⟩

theorem Drawn.kept {w w' w2 : World} {u : Value} {h : Hd} {row : Option Nat} (d : Drawn w w' u h) (G : w'.grownBy w2 row) (hr : ∀ k, row = some k → k < w.heap.size ∨ w'.heap.size ≤ k) : Drawn w w2 u h := by
  obtain ⟨⟨ao, cap', e, h1, h2, h3⟩, ⟨q, off, cap, e2, hq1, hq2⟩, hl⟩ := d
  subst e
  simp only [Value.slice.injEq] at e2
  obtain ⟨rfl, -, rfl⟩ := e2
  refine ⟨⟨_, _, rfl, h1, h2, ?_⟩, ⟨q, off, cap', rfl, hq1, Nat.lt_of_lt_of_le hq2 G.size⟩, hl⟩
  rcases h3 with h3 | ⟨b, o2, e3, h3⟩
  · exact .inl h3
  · refine .inr ⟨b, o2, e3, fun j hj => ?_⟩
    simp only [Option.some.injEq, Addr.mk.injEq] at e3
    obtain ⟨rfl, rfl, -⟩ := e3
    exact G.cell (h3 j hj) (fun e => by rcases hr q e.symm with h | h <;> omega)
theorem Drawn.mono {w0 w w' : World} {u : Value} {h : Hd} (d : Drawn w w' u h) (hb : w0.heap.size ≤ w.heap.size) : Drawn w0 w' u h := by
  obtain ⟨h1, ⟨q, off, cap, e2, hq1, hq2⟩, hl⟩ := d
  exact ⟨h1, ⟨q, off, cap, e2, Nat.le_trans hb hq1, hq2⟩, hl⟩

/- The answer's block g holds the zero holding, block k the one that was drawn. -/
def DM (w w1 wx : World) (B c g k : Nat) (u : Value) (h : Hd) : Prop :=
  Cur wx B c ∧ Below w.heap.size w wx ∧ StB wx g 26 zeroH ∧ StB wx k 26 (hdA u h) ∧ Drawn w1 wx u h ∧ (w.heap.size ≤ g ∧ g < w1.heap.size ∧ w.heap.size ≤ c ∧ c < w1.heap.size ∧ g ≠ c ∧ w1.heap.size ≤ k ∧ g ≠ k ∧ w.heap.size ≤ w1.heap.size)
theorem DM.draw {w w1 wx wy : World} {B c g k : Nat} {u : Value} {h : Hd} (d : DM w w1 wx B c g k u h) (C : Cur wy B c) (G : wx.grownBy wy (some c)) : DM w w1 wy B c g k u h := by
  obtain ⟨h1, h2, h3, h4, h5, h6⟩ := d
  refine ⟨C, h2.grown G h2.size (fun x e => by cases e; omega), h3.kept G ?_, h4.kept G ?_, h5.kept G (fun x e => by cases e; omega), h6⟩
  · intro e; have := Option.some.inj e; omega
  · intro e; have := Option.some.inj e; omega
theorem DM.drew {w w1 wx : World} {B c g k : Nat} {u : Value} {h : Hd} (d : DM w w1 wx B c g k u h) : DM w w1 wx.drew B c g k u h := by
  obtain ⟨h1, h2, h3, h4, h5, h6⟩ := d
  exact ⟨h1, h2.drew, h3, h4, h5, h6⟩
theorem DM.fin {w w1 wx wy : World} {B c g k : Nat} {u : Value} {h : Hd} (d : DM w w1 wx B c g k u h) (G : wx.grownBy wy (some g)) : Drawn w wy u h ∧ Below w.heap.size w wy := by
  obtain ⟨h1, h2, h3, h4, h5, h6⟩ := d
  exact ⟨(h5.kept G (fun x e => by cases e; omega)).mono h6.2.2.2.2.2.2.2, h2.grown G h2.size (fun x e => by cases e; omega)⟩

set_option maxRecDepth 20000 in
set_option maxHeartbeats 4000000 in
theorem drawMay_any (B : Nat) (v : Value) (w : World) (hcode : CodeOk w B v) (hB : B ≤ w.heap.size) :
    Calls Try.prog 10 #[v] w fun e w' => ∃ (h : Hd) (u : Value) (x : Int) (b : Bool), e = .returned (.tuple #[HV u h, .int .i64 x, .bool b]) ∧ Drawn w w' u h ∧ Below w.heap.size w w' := by
  have HC : Hid (CodeOk (w.alloc (.cells zeroH 26)) B v) := hcode.below (((Below.refl w.heap.size w).alloc (Nat.le_refl _) _).mono hB)
  clear hcode
  go_enter Try.func10, Try.ntmps10
  go_wp2_with fail
  refine (new_code B v _ HC.out (by simp; omega)).mono ?_
  rintro e w1 ⟨c, rfl, hc, C1, G1⟩
  have hc1 := C1.lt.2
  have hs1 := G1.size
  simp at hc hs1
  have S1 : StB w1 w.heap.size 26 zeroH := (StB.new w _ _).kept G1 (by simp)
  have B1 : Below w.heap.size w w1 := ((Below.refl w.heap.size w).alloc (Nat.le_refl _) _).grown G1 (by simp) (by simp)
  have H1 : Hid (Cur w1 B c ∧ StB w1 w.heap.size 26 zeroH ∧ Below w.heap.size w w1) := ⟨C1, S1, B1⟩
  clear C1 S1 B1 G1 HC
  go_wp2_with fail
  refine (l8drawAny_any B c _ H1.out.1).mono ?_
  rintro e w2 ⟨h, u, rfl, D2, C2, G2⟩
  have hs2 := G2.size
  have HD : Hid (DM w w1 (w2.alloc (.cells (hdA u h) 26)) B c w.heap.size w2.heap.size u h) := by
    have G3 := World.grownBy_alloc w2 (.cells (hdA u h) 26) none
    refine ⟨C2.kept G3 (by simp) (by simp), (H1.out.2.2.grown G2 H1.out.2.2.size (fun x e => by cases e; omega)).alloc (by omega) _, ?_, StB.new w2 _ _, D2.kept G3 (by simp), by omega, by omega, by omega, by omega, by omega, by omega, by omega, by omega⟩
    exact (H1.out.2.1.kept G2 (by intro e; have := Option.some.inj e; omega)).alloc _
  clear D2 C2 G2 H1
  obtain ⟨q, off, cap, n, rfl⟩ : ∃ q off cap n, u = .slice (some ⟨q, off, none⟩) n cap := by
    obtain ⟨-, ⟨q, off, cap, e2, -⟩, -⟩ := HD.out.2.2.2.2.1
    exact ⟨q, off, cap, _, e2⟩
  unfold HV
  unfold hdA at HD ⊢
  go_wp2_with fail
  refine (l8who_any B c _ HD.out.1).mono ?_
  rintro e w3 ⟨x, rfl, C3, G3⟩
  have H3 : Hid (DM w w1 w3 B c w.heap.size w2.heap.size (.slice (some ⟨q, off, none⟩) n cap) h) := HD.out.draw C3 G3
  clear C3 G3 HD
  have hgk : w.heap.size ≠ w2.heap.size := by omega
  have q0 : w3.cell? ⟨w2.heap.size, 0, none⟩ = some (.slice (some ⟨q, off, none⟩) n cap) := H3.out.2.2.2.1.cell 0 rfl; have q1 : w3.cell? ⟨w2.heap.size, 1, none⟩ = some (.int .i64 h.kd) := H3.out.2.2.2.1.cell 1 rfl; have q2 : w3.cell? ⟨w2.heap.size, 2, none⟩ = some (.int .i64 h.ho) := H3.out.2.2.2.1.cell 2 rfl; have q3 : w3.cell? ⟨w2.heap.size, 3, none⟩ = some (.int .i64 h.tu) := H3.out.2.2.2.1.cell 3 rfl
  go_wp2_with fail
  go_region_held3 (fun w' => w'.cell? ⟨w2.heap.size, 0, none⟩ = some (.slice (some ⟨q, off, none⟩) n cap) ∧ w'.cell? ⟨w2.heap.size, 1, none⟩ = some (.int .i64 h.kd) ∧ w'.cell? ⟨w2.heap.size, 2, none⟩ = some (.int .i64 h.ho) ∧ w'.cell? ⟨w2.heap.size, 3, none⟩ = some (.int .i64 h.tu)) (go_keep)
    (first | (go_at_call 30; refine (once_any B c 2 _ H3.out.drew.1 (by omega)).mono ?_; rintro e w4 ⟨b, rfl, C4, G4⟩; have H4 : Hid (DM w w1 w4 B c w.heap.size w2.heap.size (.slice (some ⟨q, off, none⟩) n cap) h) := H3.out.drew.draw C4 G4; clear C4 G4 H3; have r0 : w4.cell? ⟨w2.heap.size, 0, none⟩ = some (.slice (some ⟨q, off, none⟩) n cap) := H4.out.2.2.2.1.cell 0 rfl; have r1 : w4.cell? ⟨w2.heap.size, 1, none⟩ = some (.int .i64 h.kd) := H4.out.2.2.2.1.cell 1 rfl; have r2 : w4.cell? ⟨w2.heap.size, 2, none⟩ = some (.int .i64 h.ho) := H4.out.2.2.2.1.cell 2 rfl; have r3 : w4.cell? ⟨w2.heap.size, 3, none⟩ = some (.int .i64 h.tu) := H4.out.2.2.2.1.cell 3 rfl; have sz0 : w4.cell? ⟨w.heap.size, 0, none⟩ = some (.slice none 0 0) := H4.out.2.2.1.cell 0 rfl; have sf0 := H4.out.2.2.1.frozen 0; have sz1 : w4.cell? ⟨w.heap.size, 1, none⟩ = some (.int .i64 0) := H4.out.2.2.1.cell 1 rfl; have sf1 := H4.out.2.2.1.frozen 1; have sz2 : w4.cell? ⟨w.heap.size, 2, none⟩ = some (.int .i64 0) := H4.out.2.2.1.cell 2 rfl; have sf2 := H4.out.2.2.1.frozen 2; have sz3 : w4.cell? ⟨w.heap.size, 3, none⟩ = some (.int .i64 0) := H4.out.2.2.1.cell 3 rfl; have sf3 := H4.out.2.2.1.frozen 3))
  have SE := (((H4.out.2.2.1.put 0 (.slice (some ⟨q, off, none⟩) n cap) rfl).put 1 (.int .i64 h.kd) rfl).put 2 (.int .i64 h.ho) rfl).put 3 (.int .i64 h.tu) (ds := hdA (.slice (some ⟨q, off, none⟩) n cap) h) rfl
  have GE := (((grownSet w4 w.heap.size 0 (.slice (some ⟨q, off, none⟩) n cap)).trans (grownSet _ w.heap.size 1 (.int .i64 h.kd))).trans (grownSet _ w.heap.size 2 (.int .i64 h.ho))).trans (grownSet _ w.heap.size 3 (.int .i64 h.tu))
  have HF : Hid (_ ∧ _) := ⟨SE, H4.out.fin GE⟩
  clear SE GE H4 r0 r1 r2 r3 sz0 sz1 sz2 sz3 sf0 sf1 sf2 sf3
  go_wp2
  refine bodyPost_ret (results_S3 Try.isH rfl _ _ w.heap.size _ _ _ rfl rfl rfl rfl HF.out.1) rfl ?_
  exact ⟨h, _, x, b, rfl, HF.out.2⟩
end Go.Proofs.Ytaipogenbaghpaa
