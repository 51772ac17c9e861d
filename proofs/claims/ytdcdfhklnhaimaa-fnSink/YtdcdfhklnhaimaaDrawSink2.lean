/- What the laws on sinks draw: DrawFits, DrawReceived, DrawNewSink. -/
import Derived.Test.YtdcdfhklnhaimaaDrawSink
import Derived.Test.YtdcdfhklnhaimaaDrawNC
namespace Go.Proofs.Ytdcdfhklnhaimaa
open Go.ChangeShapes Go.WideShapes Go.ChangeAt Go.RowKit

theorem results_S4k {t : TypeId} {n : Nat} (hS : IsS t n) {fn : Func} {p q r s : Tmp} (h : fn.results = #[.cell p t, .tmp q, .tmp r, .tmp s]) (tmps : Array Value) (w : World) (g : Nat) (cs : Array Value) (x y z : Value) (hn : cs.size = n)
    (hp : tmps.getD p undef = .pointer (some ⟨g, 0, none⟩)) (hx : tmps.getD q undef = x) (hy : tmps.getD r undef = y) (hz : tmps.getD s undef = z) (hr : StB w g t cs) : (results fn tmps).run Try.prog w = .ok (.tuple #[.agg cs, x, y, z]) w := by
  have hl := load_S hS w g cs hn hr
  have hp' : tmps[p]?.getD undef = .pointer (some ⟨g, 0, none⟩) := by simpa using hp
  have hx' : tmps[q]?.getD undef = x := by simpa using hx
  have hy' : tmps[r]?.getD undef = y := by simpa using hy
  have hz' : tmps[s]?.getD undef = z := by simpa using hz
  simp [results, h, hp', hx', hy', hz', asAddr, hl]
def put2 (w : World) (g : Nat) (v : Value) (c : Sn) : World := (w.setCell ⟨g, 0, none⟩ (.int .i64 c.tr)).setCell ⟨g, 1, none⟩ v
theorem put2_st {w : World} {g : Nat} {t : TypeId} (v : Value) (c : Sn) (h : StB w g t zeroSn) : StB (put2 w g v c) g t (snA v c) := (h.put 0 _ rfl).put 1 _ rfl
theorem put2_grown (w : World) (g : Nat) (v : Value) (c : Sn) : w.grownBy (put2 w g v c) (some g) := (grownSet w g 0 _).trans (grownSet _ g 1 _)
/- A sink was drawn: it lies in block k, the answer's block is the first new one, the cursor stands. -/
structure DN (w wx : World) (B cc k : Nat) (v : Value) (c : Sn) : Prop where
  rs : StB wx w.heap.size 26 zeroSn
  st : StB wx k 26 (snA v c)
  own : Own wx (w.heap.size + 1) v c.ts
  cur : Cur wx B cc
  bl : Below w.heap.size w wx
  bd : w.heap.size < cc ∧ w.heap.size < k ∧ cc ≠ k ∧ ∀ q, v.ownBlock = some q → q ≠ cc
theorem DN.draw {w wx wy : World} {B cc k : Nat} {v : Value} {c : Sn} (d : DN w wx B cc k v c) (C : Cur wy B cc) (G : wx.grownBy wy (some cc)) : DN w wy B cc k v c := by
  have h := d.bd
  exact ⟨d.rs.kept G (fun e => by have := Option.some.inj e; omega), d.st.kept G (fun e => by have := Option.some.inj e; omega), d.own.kept G (.inr (fun e => h.2.2.2 cc e rfl)), C, d.bl.grown G d.bl.size (fun q e => by cases e; omega), h⟩
theorem DN.below {w wx wy : World} {B cc k : Nat} {v : Value} {c : Sn} (d : DN w wx B cc k v c) (b : Below wx.heap.size wx wy) : DN w wy B cc k v c :=
  ⟨d.rs.below b, d.st.below b, d.own.below b, d.cur.below b, d.bl.trans (b.mono d.bl.size), d.bd⟩
theorem DN.drew {w wx : World} {B cc k : Nat} {v : Value} {c : Sn} (d : DN w wx B cc k v c) : DN w wx.drew B cc k v c := d.below (Below.refl _ _).drew
theorem DN.alloc {w wx : World} {B cc k : Nat} {v : Value} {c : Sn} (d : DN w wx B cc k v c) (o : Obj) : DN w (wx.alloc o) B cc k v c := d.below ((Below.refl _ _).alloc (Nat.le_refl _) _)
theorem DN.fin {w wx : World} {B cc k : Nat} {v : Value} {c : Sn} (d : DN w wx B cc k v c) : StB (put2 wx w.heap.size v c) w.heap.size 26 (snA v c) ∧ Own (put2 wx w.heap.size v c) w.heap.size v c.ts ∧ Below w.heap.size w (put2 wx w.heap.size v c) := by
  have G := put2_grown wx w.heap.size v c
  exact ⟨put2_st v c d.rs, (d.own.keptLt G (by omega)).mono (by omega), d.bl.grown G d.bl.size (fun k e => by cases e; omega)⟩
theorem DN.finA {w wx : World} {B cc k : Nat} {v : Value} {c : Sn} (d : DN w wx B cc k v c) (o : Obj) : StB ((put2 wx w.heap.size v c).alloc o) w.heap.size 26 (snA v c) ∧ Own ((put2 wx w.heap.size v c).alloc o) w.heap.size v c.ts ∧ Below w.heap.size w ((put2 wx w.heap.size v c).alloc o) := by
  have b : Below (put2 wx w.heap.size v c).heap.size (put2 wx w.heap.size v c) ((put2 wx w.heap.size v c).alloc o) := (Below.refl _ _).alloc (Nat.le_refl _) _
  exact ⟨d.fin.1.below b, d.fin.2.1.below b, d.fin.2.2.trans (b.mono d.fin.2.2.size)⟩

set_option maxRecDepth 20000 in
set_option maxHeartbeats 4000000 in
theorem drawFits_any (B : Nat) (v : Value) (w : World) (h : CodeOk w B v) (hB : B ≤ w.heap.size) :
    Calls Try.prog 25 #[v] w fun e w' => ∃ u c t i n, e = .returned (.tuple #[SnV u c, .int .i64 t, .int .i64 i, .int .i64 n]) ∧ Own w' w.heap.size u c.ts ∧ c.ts.length ≤ 8 ∧ Below w.heap.size w w' := by
  obtain ⟨w1, hw1⟩ : ∃ w1, w1 = w.alloc (.cells zeroSn 26) := ⟨_, rfl⟩
  have b1 : Below w.heap.size w w1 := by rw [hw1]; exact (Below.refl _ _).alloc (Nat.le_refl _) _
  have HS : Hid (StB w1 w.heap.size 26 zeroSn ∧ Below w.heap.size w w1) := ⟨by rw [hw1]; exact StB.new w _ _, b1⟩
  have c1 := new_code B v w1 (h.below (b1.mono hB)) (Nat.le_trans hB b1.size)
  unfold zeroSn at hw1
  clear h b1
  go_enter Try.func25, Try.ntmps25
  go_upto_region 1 with fail
  rw [← hw1]
  clear hw1
  go_wp2_with fail
  refine c1.mono ?_
  rintro e w2 ⟨cc, rfl, hc, C2, G2⟩
  have HS2 : Hid (StB w2 w.heap.size 26 zeroSn ∧ w1.grownBy w2 none) := ⟨HS.out.1.kept G2 (by simp), G2⟩
  clear c1 G2
  go_wp2_with fail
  refine (l14draw_any B cc _ C2).mono ?_
  rintro e w3 ⟨u, c, rfl, o3, hl, C3, G3⟩
  have hg := HS.out.1.lt
  have hs2 := HS2.out.1.lt
  have hcl := C2.lt
  have hz2 := HS2.out.2.size
  have hz3 := G3.size
  have s3 := HS2.out.1.kept G3 (fun e => by have := Option.some.inj e; omega)
  have b3 : Below w1.heap.size w1 w3 := below_of_cur HS2.out.2 hc G3
  have B3 : Below w.heap.size w w3 := HS.out.2.trans (b3.mono HS.out.2.size)
  obtain ⟨ao, cap, rfl⟩ := reads_form o3.reads
  obtain ⟨w4, hw4⟩ : ∃ w4, w4 = w3.alloc (.cells (snA (.slice ao c.ts.length cap) c) 26) := ⟨_, rfl⟩
  have b4 : Below w3.heap.size w3 w4 := by rw [hw4]; exact (Below.refl _ _).alloc (Nat.le_refl _) _
  have hou := o3.lt
  have D4 : Hid (DN w w4 B cc w3.heap.size (.slice ao c.ts.length cap) c) := ⟨s3.below b4, by rw [hw4]; exact StB.new _ _ _, (o3.mono (by omega)).below b4, C3.below b4, B3.trans (b4.mono B3.size), ⟨by omega, by omega, by omega, fun q hq => by have := hou q hq; omega⟩⟩
  clear C2 C3 G3 b3 o3 HS HS2 s3 B3 b4 hou hs2
  have HW4 : Hid (w4 = w3.alloc (.cells #[.int .i64 c.tr, .slice ao c.ts.length cap] 26)) := hw4
  clear hw4
  unfold SnV snA
  have k0 : w4.cell? ⟨w3.heap.size, 0, none⟩ = some (.int .i64 c.tr) := D4.out.st.cell 0 rfl
  go_upto_region 3 with fail
  rw [← HW4.out]
  clear HW4
  go_wp2_with fail
  refine (once_any B cc 4 _ D4.out.cur (by omega)).mono ?_
  rintro e w5 ⟨b5, rfl, C5, G5⟩
  have D5 : Hid (DN w w5 B cc w3.heap.size (.slice ao c.ts.length cap) c) := D4.out.draw C5 G5
  clear C5 G5 D4 k0
  cases b5 with
  | true =>
    go_wp2_with fail
    refine (from_any B cc (-1) 6 _ D5.out.cur (by omega) (by omega) (by omega)).mono ?_
    rintro e w6 ⟨t6, rfl, l6, u6, C6, G6⟩
    have D6 : Hid (DN w w6 B cc w3.heap.size (.slice ao c.ts.length cap) c) := D5.out.draw C6 G6
    clear C6 G6 D5
    go_wp2_with fail
    refine (drawItem_any B cc _ D6.out.cur).mono ?_
    rintro e w7 ⟨i, rfl, C7, G7⟩
    have D7 : Hid (DN w w7 B cc w3.heap.size (.slice ao c.ts.length cap) c) := D6.out.draw C7 G7
    clear C7 G7 D6
    have m0 : w7.cell? ⟨w3.heap.size, 0, none⟩ = some (.int .i64 c.tr) := D7.out.st.cell 0 rfl; have m1 : w7.cell? ⟨w3.heap.size, 1, none⟩ = some (.slice ao c.ts.length cap) := D7.out.st.cell 1 rfl; have z0 : w7.cell? ⟨w.heap.size, 0, none⟩ = some (.int .i64 0) := D7.out.rs.cell 0 rfl; have z1 : w7.cell? ⟨w.heap.size, 1, none⟩ = some (.slice none 0 0) := D7.out.rs.cell 1 rfl; have fz0 := D7.out.rs.frozen 0; have fz1 := D7.out.rs.frozen 1
    have hsz : w.heap.size < w7.heap.size := D7.out.rs.lt
    have hs3 : w3.heap.size < w7.heap.size := D7.out.st.lt
    have hcc : cc < w7.heap.size := D7.out.cur.lt.2
    have L7 : Hid (DN w (w7.alloc (.cells #[.int .i64 0, .int .i64 1, .int .i64 2, .int .i64 3, .int .i64 4, .int .i64 1000000000, .int .i64 1000000001, .int .i64 (-1)] 2)).drew B cc w3.heap.size (.slice ao c.ts.length cap) c) := (D7.out.alloc _).drew
    go_upto_region 7 with fail
    go_region_with (first
      | (go_at_call 51; refine (below_any B cc 8 _ L7.out.cur (by omega)).mono ?_; rintro e w8 ⟨i8, rfl, l8, u8, -, C8, G8⟩; have v8 := u8 (by omega); have D8 : Hid (DN w w8 B cc w3.heap.size (.slice ao c.ts.length cap) c) := L7.out.draw C8 G8; obtain ⟨x, hx⟩ := lit_at (w := w7) [0, 1, 2, 3, 4, 1000000000, 1000000001, -1] (t := 2) (row := some cc) ⟨G8.os, G8.tape, G8.output, G8.size, G8.block⟩ (by simp; omega) i8 (by omega) (by simp; omega); clear u8 C8 G8; have m0 : w8.cell? ⟨w3.heap.size, 0, none⟩ = some (.int .i64 c.tr) := D8.out.st.cell 0 rfl; have m1 : w8.cell? ⟨w3.heap.size, 1, none⟩ = some (.slice ao c.ts.length cap) := D8.out.st.cell 1 rfl; have z0 : w8.cell? ⟨w.heap.size, 0, none⟩ = some (.int .i64 0) := D8.out.rs.cell 0 rfl; have z1 : w8.cell? ⟨w.heap.size, 1, none⟩ = some (.slice none 0 0) := D8.out.rs.cell 1 rfl; have fz0 := D8.out.rs.frozen 0; have fz1 := D8.out.rs.frozen 1; have HF : Hid _ := D8.out.fin; unfold put2 snA at HF; clear D8)
      | (go_at_call 51; refine (below_any B cc 8 _ D7.out.drew.cur (by omega)).mono ?_; rintro e w8 ⟨i8, rfl, l8, u8, -, C8, G8⟩; have v8 := u8 (by omega); have E8 : Hid (DN w w8 B cc w3.heap.size (.slice ao c.ts.length cap) c) := D7.out.drew.draw C8 G8; have D8 : Hid (DN w (w8.alloc (.cells #[.int .i64 0, .int .i64 1, .int .i64 2, .int .i64 3, .int .i64 4, .int .i64 1000000000, .int .i64 1000000001, .int .i64 (-1)] 2)) B cc w3.heap.size (.slice ao c.ts.length cap) c) := E8.out.alloc _; obtain ⟨x, hx'⟩ := lit_idx [0, 1, 2, 3, 4, 1000000000, 1000000001, -1] i8 (by omega) (by simp; omega); have hx : ∀ hh : i8.toNat < ([.int .i64 0, .int .i64 1, .int .i64 2, .int .i64 3, .int .i64 4, .int .i64 1000000000, .int .i64 1000000001, .int .i64 (-1)] : List Value).length, ([.int .i64 0, .int .i64 1, .int .i64 2, .int .i64 3, .int .i64 4, .int .i64 1000000000, .int .i64 1000000001, .int .i64 (-1)] : List Value)[i8.toNat]'hh = .int .i64 x := hx'; clear hx' u8 C8 G8; have m0 : (w8.alloc (.cells #[.int .i64 0, .int .i64 1, .int .i64 2, .int .i64 3, .int .i64 4, .int .i64 1000000000, .int .i64 1000000001, .int .i64 (-1)] 2)).cell? ⟨w3.heap.size, 0, none⟩ = some (.int .i64 c.tr) := D8.out.st.cell 0 rfl; have m1 : (w8.alloc (.cells #[.int .i64 0, .int .i64 1, .int .i64 2, .int .i64 3, .int .i64 4, .int .i64 1000000000, .int .i64 1000000001, .int .i64 (-1)] 2)).cell? ⟨w3.heap.size, 1, none⟩ = some (.slice ao c.ts.length cap) := D8.out.st.cell 1 rfl; have z0 : (w8.alloc (.cells #[.int .i64 0, .int .i64 1, .int .i64 2, .int .i64 3, .int .i64 4, .int .i64 1000000000, .int .i64 1000000001, .int .i64 (-1)] 2)).cell? ⟨w.heap.size, 0, none⟩ = some (.int .i64 0) := D8.out.rs.cell 0 rfl; have z1 : (w8.alloc (.cells #[.int .i64 0, .int .i64 1, .int .i64 2, .int .i64 3, .int .i64 4, .int .i64 1000000000, .int .i64 1000000001, .int .i64 (-1)] 2)).cell? ⟨w.heap.size, 1, none⟩ = some (.slice none 0 0) := D8.out.rs.cell 1 rfl; have fz0 := D8.out.rs.frozen 0; have fz1 := D8.out.rs.frozen 1; have n0 : w8.cell? ⟨w3.heap.size, 0, none⟩ = some (.int .i64 c.tr) := E8.out.st.cell 0 rfl; have n1 : w8.cell? ⟨w3.heap.size, 1, none⟩ = some (.slice ao c.ts.length cap) := E8.out.st.cell 1 rfl; have y0 : w8.cell? ⟨w.heap.size, 0, none⟩ = some (.int .i64 0) := E8.out.rs.cell 0 rfl; have y1 : w8.cell? ⟨w.heap.size, 1, none⟩ = some (.slice none 0 0) := E8.out.rs.cell 1 rfl; have fy0 := E8.out.rs.frozen 0; have fy1 := E8.out.rs.frozen 1; have HF : Hid _ := E8.out.finA (.cells #[.int .i64 0, .int .i64 1, .int .i64 2, .int .i64 3, .int .i64 4, .int .i64 1000000000, .int .i64 1000000001, .int .i64 (-1)] 2); unfold put2 snA at HF; have hsz : w.heap.size < w8.heap.size := E8.out.rs.lt; have hs3 : w3.heap.size < w8.heap.size := E8.out.st.lt; clear E8 D8))
    all_goals
      go_wp2
      refine bodyPost_ret (results_S4k Try.isSn rfl _ _ w.heap.size _ _ _ _ rfl rfl rfl rfl rfl HF.out.1) rfl ?_
      exact ⟨.slice ao c.ts.length cap, c, t6, i, x, rfl, HF.out.2.1, hl, HF.out.2.2⟩
  | false =>
    go_wp2_with fail
    refine (drawItem_any B cc _ D5.out.cur).mono ?_
    rintro e w7 ⟨i, rfl, C7, G7⟩
    have D7 : Hid (DN w w7 B cc w3.heap.size (.slice ao c.ts.length cap) c) := D5.out.draw C7 G7
    clear C7 G7 D5
    have m0 : w7.cell? ⟨w3.heap.size, 0, none⟩ = some (.int .i64 c.tr) := D7.out.st.cell 0 rfl; have m1 : w7.cell? ⟨w3.heap.size, 1, none⟩ = some (.slice ao c.ts.length cap) := D7.out.st.cell 1 rfl; have z0 : w7.cell? ⟨w.heap.size, 0, none⟩ = some (.int .i64 0) := D7.out.rs.cell 0 rfl; have z1 : w7.cell? ⟨w.heap.size, 1, none⟩ = some (.slice none 0 0) := D7.out.rs.cell 1 rfl; have fz0 := D7.out.rs.frozen 0; have fz1 := D7.out.rs.frozen 1
    have hsz : w.heap.size < w7.heap.size := D7.out.rs.lt
    have hs3 : w3.heap.size < w7.heap.size := D7.out.st.lt
    have hcc : cc < w7.heap.size := D7.out.cur.lt.2
    have L7 : Hid (DN w (w7.alloc (.cells #[.int .i64 0, .int .i64 1, .int .i64 2, .int .i64 3, .int .i64 4, .int .i64 1000000000, .int .i64 1000000001, .int .i64 (-1)] 2)).drew B cc w3.heap.size (.slice ao c.ts.length cap) c) := (D7.out.alloc _).drew
    go_upto_region 7 with fail
    go_region_with (first
      | (go_at_call 51; refine (below_any B cc 8 _ L7.out.cur (by omega)).mono ?_; rintro e w8 ⟨i8, rfl, l8, u8, -, C8, G8⟩; have v8 := u8 (by omega); have D8 : Hid (DN w w8 B cc w3.heap.size (.slice ao c.ts.length cap) c) := L7.out.draw C8 G8; obtain ⟨x, hx⟩ := lit_at (w := w7) [0, 1, 2, 3, 4, 1000000000, 1000000001, -1] (t := 2) (row := some cc) ⟨G8.os, G8.tape, G8.output, G8.size, G8.block⟩ (by simp; omega) i8 (by omega) (by simp; omega); clear u8 C8 G8; have m0 : w8.cell? ⟨w3.heap.size, 0, none⟩ = some (.int .i64 c.tr) := D8.out.st.cell 0 rfl; have m1 : w8.cell? ⟨w3.heap.size, 1, none⟩ = some (.slice ao c.ts.length cap) := D8.out.st.cell 1 rfl; have z0 : w8.cell? ⟨w.heap.size, 0, none⟩ = some (.int .i64 0) := D8.out.rs.cell 0 rfl; have z1 : w8.cell? ⟨w.heap.size, 1, none⟩ = some (.slice none 0 0) := D8.out.rs.cell 1 rfl; have fz0 := D8.out.rs.frozen 0; have fz1 := D8.out.rs.frozen 1; have HF : Hid _ := D8.out.fin; unfold put2 snA at HF; clear D8)
      | (go_at_call 51; refine (below_any B cc 8 _ D7.out.drew.cur (by omega)).mono ?_; rintro e w8 ⟨i8, rfl, l8, u8, -, C8, G8⟩; have v8 := u8 (by omega); have E8 : Hid (DN w w8 B cc w3.heap.size (.slice ao c.ts.length cap) c) := D7.out.drew.draw C8 G8; have D8 : Hid (DN w (w8.alloc (.cells #[.int .i64 0, .int .i64 1, .int .i64 2, .int .i64 3, .int .i64 4, .int .i64 1000000000, .int .i64 1000000001, .int .i64 (-1)] 2)) B cc w3.heap.size (.slice ao c.ts.length cap) c) := E8.out.alloc _; obtain ⟨x, hx'⟩ := lit_idx [0, 1, 2, 3, 4, 1000000000, 1000000001, -1] i8 (by omega) (by simp; omega); have hx : ∀ hh : i8.toNat < ([.int .i64 0, .int .i64 1, .int .i64 2, .int .i64 3, .int .i64 4, .int .i64 1000000000, .int .i64 1000000001, .int .i64 (-1)] : List Value).length, ([.int .i64 0, .int .i64 1, .int .i64 2, .int .i64 3, .int .i64 4, .int .i64 1000000000, .int .i64 1000000001, .int .i64 (-1)] : List Value)[i8.toNat]'hh = .int .i64 x := hx'; clear hx' u8 C8 G8; have m0 : (w8.alloc (.cells #[.int .i64 0, .int .i64 1, .int .i64 2, .int .i64 3, .int .i64 4, .int .i64 1000000000, .int .i64 1000000001, .int .i64 (-1)] 2)).cell? ⟨w3.heap.size, 0, none⟩ = some (.int .i64 c.tr) := D8.out.st.cell 0 rfl; have m1 : (w8.alloc (.cells #[.int .i64 0, .int .i64 1, .int .i64 2, .int .i64 3, .int .i64 4, .int .i64 1000000000, .int .i64 1000000001, .int .i64 (-1)] 2)).cell? ⟨w3.heap.size, 1, none⟩ = some (.slice ao c.ts.length cap) := D8.out.st.cell 1 rfl; have z0 : (w8.alloc (.cells #[.int .i64 0, .int .i64 1, .int .i64 2, .int .i64 3, .int .i64 4, .int .i64 1000000000, .int .i64 1000000001, .int .i64 (-1)] 2)).cell? ⟨w.heap.size, 0, none⟩ = some (.int .i64 0) := D8.out.rs.cell 0 rfl; have z1 : (w8.alloc (.cells #[.int .i64 0, .int .i64 1, .int .i64 2, .int .i64 3, .int .i64 4, .int .i64 1000000000, .int .i64 1000000001, .int .i64 (-1)] 2)).cell? ⟨w.heap.size, 1, none⟩ = some (.slice none 0 0) := D8.out.rs.cell 1 rfl; have fz0 := D8.out.rs.frozen 0; have fz1 := D8.out.rs.frozen 1; have n0 : w8.cell? ⟨w3.heap.size, 0, none⟩ = some (.int .i64 c.tr) := E8.out.st.cell 0 rfl; have n1 : w8.cell? ⟨w3.heap.size, 1, none⟩ = some (.slice ao c.ts.length cap) := E8.out.st.cell 1 rfl; have y0 : w8.cell? ⟨w.heap.size, 0, none⟩ = some (.int .i64 0) := E8.out.rs.cell 0 rfl; have y1 : w8.cell? ⟨w.heap.size, 1, none⟩ = some (.slice none 0 0) := E8.out.rs.cell 1 rfl; have fy0 := E8.out.rs.frozen 0; have fy1 := E8.out.rs.frozen 1; have HF : Hid _ := E8.out.finA (.cells #[.int .i64 0, .int .i64 1, .int .i64 2, .int .i64 3, .int .i64 4, .int .i64 1000000000, .int .i64 1000000001, .int .i64 (-1)] 2); unfold put2 snA at HF; have hsz : w.heap.size < w8.heap.size := E8.out.rs.lt; have hs3 : w3.heap.size < w8.heap.size := E8.out.st.lt; clear E8 D8))
    all_goals
      go_wp2
      refine bodyPost_ret (results_S4k Try.isSn rfl _ _ w.heap.size _ _ _ _ rfl rfl rfl rfl rfl HF.out.1) rfl ?_
      exact ⟨.slice ao c.ts.length cap, c, c.tr, i, x, rfl, HF.out.2.1, hl, HF.out.2.2⟩

set_option maxRecDepth 20000 in
set_option maxHeartbeats 1000000 in
theorem drawReceived_any (B : Nat) (v : Value) (w : World) (h : CodeOk w B v) (hB : B ≤ w.heap.size) :
    Calls Try.prog 9 #[v] w fun e w' => ∃ u c t i n, e = .returned (.tuple #[SnV u c, .int .i64 t, .int .i64 i, .int .i64 n]) ∧ Own w' w.heap.size u c.ts ∧ c.ts.length ≤ 8 ∧ Below w.heap.size w w' := by
  obtain ⟨w1, hw1⟩ : ∃ w1, w1 = w.alloc (.cells zeroSn 26) := ⟨_, rfl⟩
  have b1 : Below w.heap.size w w1 := by rw [hw1]; exact (Below.refl _ _).alloc (Nat.le_refl _) _
  have HS : Hid (StB w1 w.heap.size 26 zeroSn ∧ Below w.heap.size w w1) := ⟨by rw [hw1]; exact StB.new w _ _, b1⟩
  have c1 := drawFits_any B v w1 (h.below (b1.mono hB)) (Nat.le_trans hB b1.size)
  unfold zeroSn at hw1
  clear h b1
  go_enter Try.func9, Try.ntmps9
  go_upto_region 1 with fail
  rw [← hw1]
  clear hw1
  go_wp2_with fail
  refine c1.mono ?_
  rintro e w3 ⟨u, c, t, i, n, rfl, o3, hl, b3⟩
  have hg := HS.out.1.lt
  have s3 := HS.out.1.below b3
  have HB : Hid (Below w.heap.size w w3) := HS.out.2.trans (b3.mono HS.out.2.size)
  have h1 := reads_one o3.reads
  have HO : Hid (Own w3 (w.heap.size + 1) u c.ts) := o3.mono (by omega)
  clear b3 o3 HS c1
  unfold SnV
  go_wp2_with (refine wpList_putS Try.isSn rfl _ _ rfl w.heap.size (snA u c) zeroSn rfl rfl rfl rfl (snA_one c h1) s3 ?_; intro w8 s8 g8)
  refine bodyPost_ret (results_S4k Try.isSn rfl _ _ w.heap.size _ _ _ _ rfl rfl rfl rfl rfl s8) rfl ?_
  exact ⟨u, c, t, i, n, rfl, (HO.out.keptLt g8 (by omega)).mono (by omega), hl, HB.out.grown g8 HB.out.size (fun k e => by cases e; omega)⟩

set_option maxRecDepth 20000 in
set_option maxHeartbeats 400000 in
theorem drawNewSink_any (B : Nat) (v : Value) (w : World) (h : CodeOk w B v) (hB : B ≤ w.heap.size) :
    Calls Try.prog 12 #[v] w fun e w' => ∃ n t, e = .returned (.tuple #[.int .i64 n, .int .i64 t]) ∧ Below w.heap.size w w' := by
  have c1 := drawNewCopier_any B v w h hB
  clear h
  go_enter Try.func12, Try.ntmps12
  go_wp2_with fail
  refine c1.mono ?_
  rintro e w2 ⟨n, t, rfl, b2⟩
  have HB : Hid (Below w.heap.size w w2) := b2
  clear c1 b2
  go_wp2
  go_ret2
  exact ⟨n, t, rfl, HB.out⟩
end Go.Proofs.Ytdcdfhklnhaimaa
