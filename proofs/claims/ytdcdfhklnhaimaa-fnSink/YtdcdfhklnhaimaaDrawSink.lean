/- What the laws on sinks draw: l14Draw. -/
import Derived.Test.YtdcdfhklnhaimaaSSink2
import Derived.Test.YtdcdfhklnhaimaaDrawSets
import Derived.Test.YtdcdfhklnhaimaaCurSta
import Derived.Test.YtdcdfhklnhaimaaLit
import Derived.Deep.RegionWith
import Derived.Deep.RegionHeld3
namespace Go.Proofs.Ytdcdfhklnhaimaa
open Go.ChangeShapes Go.WideShapes Go.ChangeAt Go.RowKit

theorem Own.upK {w : World} {base base' : Nat} {v : Value} {xs : List Int} (h : Own w base v xs) (hb : ∀ k, v.ownBlock = some k → base' ≤ k) : Own w base' v xs := by
  refine ⟨h.1, ?_⟩
  rcases h.2 with h' | ⟨g, cap, cur, rfl, hg, r⟩
  · exact .inl h'
  · exact .inr ⟨g, cap, cur, rfl, hb g rfl, r⟩
/- The cursor stands; the answer's block g holds the zero sink, block k the sink c, all new since w. -/
structure DK (w wx : World) (B cc g k : Nat) (v : Value) (c : Sn) : Prop where
  cur : Cur wx B cc
  gr : w.grownBy wx (some cc)
  rs : StB wx g 26 zeroSn
  st : StB wx k 26 (snA v c)
  own : Own wx 0 v c.ts
  bd : w.heap.size ≤ g ∧ w.heap.size ≤ k ∧ g ≠ k ∧ cc < w.heap.size ∧ B ≤ w.heap.size
  nv : ∀ q, v.ownBlock = some q → w.heap.size ≤ q ∧ q ≠ g ∧ q ≠ k
theorem grown_newK {w wx wy : World} {cc g : Nat} (h : w.grownBy wx (some cc)) (G : wx.grownBy wy (some g)) (hg : w.heap.size ≤ g) : w.grownBy wy (some cc) :=
  ⟨G.os.trans h.os, G.tape.trans h.tape, G.output.trans h.output, Nat.le_trans h.size G.size, fun k hk hne => (G.block k (Nat.lt_of_lt_of_le hk h.size) (fun e => by have := Option.some.inj e; omega)).trans (h.block k hk hne)⟩
theorem DK.draw {w wx wy : World} {B cc g k : Nat} {v : Value} {c : Sn} (d : DK w wx B cc g k v c) (C : Cur wy B cc) (G : wx.grownBy wy (some cc)) : DK w wy B cc g k v c := by
  have h := d.bd
  refine ⟨C, d.gr.trans G, d.rs.kept G (fun e => by have := Option.some.inj e; omega), d.st.kept G (fun e => by have := Option.some.inj e; omega), d.own.kept G (.inr (fun e => ?_)), h, d.nv⟩
  have := d.nv cc e; omega
theorem DK.below {w wx wy : World} {B cc g k : Nat} {v : Value} {c : Sn} (d : DK w wx B cc g k v c) (b : Below wx.heap.size wx wy) : DK w wy B cc g k v c :=
  ⟨d.cur.below b, d.gr.trans ⟨b.os, b.tape, b.output, b.size, fun x hx _ => b.block x hx⟩, d.rs.below b, d.st.below b, d.own.below b, d.bd, d.nv⟩
theorem DK.drew {w wx : World} {B cc g k : Nat} {v : Value} {c : Sn} (d : DK w wx B cc g k v c) : DK w wx.drew B cc g k v c := d.below (Below.refl _ _).drew
theorem DK.alloc {w wx : World} {B cc g k : Nat} {v : Value} {c : Sn} (d : DK w wx B cc g k v c) (o : Obj) : DK w (wx.alloc o) B cc g k v c := d.below ((Below.refl _ _).alloc (Nat.le_refl _) _)
/- A cell of the sink is set. -/
theorem DK.put {w wx : World} {B cc g k : Nat} {v : Value} {c : Sn} (d : DK w wx B cc g k v c) (j : Nat) (x : Value) (m : Sn) (hts : m.ts = c.ts) (e : (snA v c).setIfInBounds j x = snA v m) : DK w (wx.setCell ⟨k, j, none⟩ x) B cc g k v m := by
  have h := d.bd
  have G := grownSet wx k j x
  refine ⟨d.cur.kept G (fun e => by have := Option.some.inj e; omega) (fun y e => by cases e; omega), grown_newK d.gr G h.2.1, d.rs.kept G (fun e => by have := Option.some.inj e; omega), d.st.put j x e, by rw [hts]; exact d.own.kept G (.inr (fun e => (d.nv k e).2.2 rfl)), h, d.nv⟩
/- A turn is set. -/
theorem DK.turn {w wx : World} {B cc g k q n cap : Nat} {c : Sn} (d : DK w wx B cc g k (.slice (some ⟨q, 0, none⟩) n cap) c) (hn : n = c.ts.length) (j : Nat) (hj : j < n) :
    wx.cell? ⟨k, 1, none⟩ = some (.slice (some ⟨q, 0, none⟩) n cap) ∧ (∃ y, wx.cell? ⟨q, j, none⟩ = some y) ∧ wx.frozen? ⟨q, j, none⟩ = false ∧ q < wx.heap.size ∧
      ∀ x : Int, DK w (wx.setCell ⟨q, j, none⟩ (.int .i64 x)) B cc g k (.slice (some ⟨q, 0, none⟩) n cap) { c with ts := c.ts.set j x } := by
  have h := d.bd
  have hq := d.nv q rfl
  have hq3 := d.own.lt q rfl
  refine ⟨d.st.cell 1 rfl, (d.own.put hn j hj 0).2.1, (d.own.put hn j hj 0).1, hq3.2, fun x => ?_⟩
  have G := grownSet wx q j (.int .i64 x)
  exact ⟨d.cur.kept G (fun e => by have := Option.some.inj e; omega) (fun y e => by cases e; omega), grown_newK d.gr G hq.1, d.rs.kept G (fun e => by have := Option.some.inj e; omega), d.st.kept G (fun e => by have := Option.some.inj e; omega), (d.own.put hn j hj x).2.2, h, d.nv⟩
theorem DK.fin {w wx wy : World} {B cc g k : Nat} {v : Value} {c : Sn} (d : DK w wx B cc g k v c) (G : wx.grownBy wy (some g)) : Own wy w.heap.size v c.ts ∧ Cur wy B cc ∧ w.grownBy wy (some cc) := by
  have h := d.bd
  exact ⟨(d.own.kept G (.inr (fun e => (d.nv g e).2.1 rfl))).upK (fun q hq => (d.nv q hq).1), d.cur.kept G (fun e => by have := Option.some.inj e; omega) (fun y e => by cases e; omega), grown_newK d.gr G h.1⟩

set_option maxRecDepth 20000 in
set_option maxHeartbeats 8000000 in
theorem l14draw_any (B cc : Nat) (w : World) (hcur : Cur w B cc) :
    Calls Try.prog 47 #[.pointer (some ⟨cc, 0, none⟩)] w fun e w' => ∃ (u : Value) (c : Sn), e = .returned (SnV u c) ∧ Own w' w.heap.size u c.ts ∧ c.ts.length ≤ 8 ∧ Cur w' B cc ∧ w.grownBy w' (some cc) := by
  have hlt := hcur.lt
  obtain ⟨w0, hw0⟩ : ∃ w0, w0 = w.alloc (.cells zeroSn 26) := ⟨_, rfl⟩
  have HC0 : Hid (Cur w0 B cc ∧ StB w0 w.heap.size 26 zeroSn ∧ w.grownBy w0 (some cc)) := by
    rw [hw0]
    exact ⟨hcur.kept (World.grownBy_alloc w _ none) (by simp) (by simp), StB.new w _ _, World.grownBy_alloc w _ _⟩
  unfold zeroSn at hw0
  clear hcur
  go_enter Try.func47, Try.ntmps47
  go_upto_region 1 with fail
  rw [← hw0]
  clear hw0
  go_wp2_with fail
  refine (below_any B cc 5 _ HC0.out.1 (by omega)).mono ?_
  rintro e w1 ⟨x1, rfl, l1, u1, -, C1, G1⟩
  have v1 := u1 (by omega)
  have HC1 : Hid (Cur w1 B cc ∧ StB w1 w.heap.size 26 zeroSn ∧ w.grownBy w1 (some cc)) := ⟨C1, HC0.out.2.1.kept G1 (fun e => by have := Option.some.inj e; omega), HC0.out.2.2.trans G1⟩
  clear u1 C1 G1 HC0
  go_wp2_with fail
  refine (below_any B cc 3 _ HC1.out.1 (by omega)).mono ?_
  rintro e w2 ⟨x2, rfl, l2, u2, -, C2, G2⟩
  have v2 := u2 (by omega)
  have HC2 : Hid (Cur w2 B cc ∧ StB w2 w.heap.size 26 zeroSn ∧ w.grownBy w2 (some cc)) := ⟨C2, HC1.out.2.1.kept G2 (fun e => by have := Option.some.inj e; omega), HC1.out.2.2.trans G2⟩
  clear u2 C2 G2 HC1
  have c3 := fun wx => snewS_any (1 + x1) (1 + x2) wx
  have hmade : Cp.made (1 + x1) (1 + x2) = true := by
    unfold Cp.made
    rw [(inI_iff _ _ _).2 (by omega), (inI_iff _ _ _).2 (by omega)]; rfl
  have hc2 : (Sn.new (1 + x1) (1 + x2)).ts.length = (1 + x1).toNat := by unfold Sn.new; rw [if_pos hmade]; simp
  simp only [hmade] at c3
  obtain ⟨c0, hcd⟩ : ∃ c0, c0 = Sn.new (1 + x1) (1 + x2) := ⟨_, rfl⟩
  rw [← hcd] at hc2
  simp only [← hcd] at c3
  clear hcd hmade
  obtain ⟨n, hn⟩ : ∃ n : Nat, 1 + x1 = n := ⟨(1 + x1).toNat, by omega⟩
  have hn5 : n ≤ 5 := by omega
  have hn1 : 1 ≤ n := by omega
  rw [hn, Int.toNat_natCast] at hc2
  rw [hn] at c3
  go_wp2_with fail
  try rw [hn]
  refine (c3 _).mono ?_
  rintro e w3 ⟨v, rfl, o3, b3⟩
  clear c3 hn
  obtain ⟨q, vc, rfl, hbq, hql⟩ := World.ownsRow.form o3 (by omega)
  rw [hc2] at o3 ⊢
  obtain ⟨k, hk⟩ : ∃ k, k = w3.heap.size := ⟨_, rfl⟩
  have hs2 := HC2.out.2.1.lt
  obtain ⟨w4, hw4⟩ : ∃ w4, w4 = w3.alloc (.cells (snA (.slice (some ⟨q, 0, none⟩) n vc) c0) 26) := ⟨_, rfl⟩
  have H4 : Hid (DK w w4 B cc w.heap.size k (.slice (some ⟨q, 0, none⟩) n vc) c0) := by
    have b2 : Below w3.heap.size w3 w4 := by rw [hw4]; exact (Below.refl _ _).alloc (Nat.le_refl _) _
    have bs := b3.size
    have hu := o3.lt
    refine ⟨(HC2.out.1.below b3).below b2, ?_, (HC2.out.2.1.below b3).below b2, by rw [hw4, hk]; exact StB.new w3 _ _, ((o3.mono (Nat.zero_le _)).below b2), by omega, fun r hr => by have := hu r hr; omega⟩
    have b := b3.trans (b2.mono bs)
    exact HC2.out.2.2.trans ⟨b.os, b.tape, b.output, b.size, fun x hx _ => b.block x hx⟩
  have HK0 : Hid (c0.ts.length = n ∧ n ≤ vc ∧ vc ≤ maxLen) := ⟨hc2, by obtain ⟨_, h1, h2, _⟩ := reads_cells o3.reads; exact ⟨by omega, h2⟩⟩
  unfold snA at hw4
  unfold SnV snA
  go_upto_region 2 with fail
  rw [← hw4, ← hk]
  have hv1 : n ≤ vc := HK0.out.2.1
  have hv2 := HK0.out.2.2
  unfold maxLen at hv2
  clear hw4 hk o3 b3 HC2 hs2 hbq hql hc2
  have hk1 := H4.out.bd
  go_wp2_with fail
  go_loopw [5] (fun i wr => ∃ (j : Nat) (c : Sn), j ≤ n ∧ i = .int .i64 j ∧ Hid (c.ts.length = n) ∧ Hid (DK w wr B cc w.heap.size k (.slice (some ⟨q, 0, none⟩) n vc) c)) (fun i _ => n - (intOf i).toNat)
  case atStart => exact ⟨0, c0, Nat.zero_le _, rfl, HK0.out.1, H4⟩
  case round =>
    obtain ⟨j, c, hj, rfl, HK, HR⟩ := hrel
    clear H4 HK0
    by_cases hlt : (j : Int) < (n : Int)
    case pos =>
      obtain ⟨k1, -, -, hq5, -⟩ := HR.out.turn HK.out.symm j (by omega)
      have kd1 : wr.drew.cell? ⟨k, 1, none⟩ = some (.slice (some ⟨q, 0, none⟩) n vc) := k1
      have HRD : Hid (DK w wr.drew B cc w.heap.size k (.slice (some ⟨q, 0, none⟩) n vc) c) := HR.out.drew
      go_upto_region 5 with fail
      go_region_held3 (fun w' => w'.cell? ⟨k, 1, none⟩ = some (.slice (some ⟨q, 0, none⟩) n vc)) (first | with_reducible assumption)
        (first
          | (go_at_call 51; refine (below_any B cc 4 _ HRD.out.cur (by omega)).mono ?_; rintro e w22 ⟨x, rfl, lx, ux, -, C4, G4⟩; have H5 : Hid (DK w w22 B cc w.heap.size k (.slice (some ⟨q, 0, none⟩) n vc) c) := HRD.out.draw C4 G4; obtain ⟨k2, ⟨y2, ky2⟩, f2, -, JX⟩ := H5.out.turn HK.out.symm j (by omega); have J5 : Hid (DK w (w22.setCell ⟨q, j, none⟩ (.int .i64 x)) B cc w.heap.size k (.slice (some ⟨q, 0, none⟩) n vc) { c with ts := c.ts.set j x }) := JX x; have kz : (w22.setCell ⟨q, j, none⟩ (.int .i64 x)).cell? ⟨k, 1, none⟩ = some (.slice (some ⟨q, 0, none⟩) n vc) := J5.out.st.cell 1 rfl; clear ux C4 G4 JX H5))
      clear k1 kd1 k2 ky2 f2 kz HRD HR
      go_wp2
      go_roundw
      case rel => exact ⟨j + 1, { c with ts := c.ts.set j x }, by omega, by go_num, by simpa [Hid] using HK.out, J5⟩
      case measure => simp [intOf]; omega
    case neg =>
      have k1 : wr.cell? ⟨k, 1, none⟩ = some (.slice (some ⟨q, 0, none⟩) n vc) := HR.out.st.cell 1 rfl
      go_wp2_with fail
      refine (once_any B cc 10 _ HR.out.cur (by omega)).mono ?_
      rintro e w20 ⟨b20, rfl, Cw20, Gw20⟩
      have Hw20 : Hid (DK w w20 B cc w.heap.size k (.slice (some ⟨q, 0, none⟩) n vc) c) := HR.out.draw Cw20 Gw20
      clear Cw20 Gw20 HR
      clear k1
      cases b20 with
      | false =>
        have zq := Hw20.out.st
        have zz := Hw20.out.rs
        go_wp2_with (first | (refine wpList_getS Try.isSn rfl _ rfl k rfl (snA (.slice (some ⟨q, 0, none⟩) n vc) c) rfl zq ?_) | (refine wpList_putS Try.isSn rfl _ _ rfl w.heap.size (snA (.slice (some ⟨q, 0, none⟩) n vc) c) zeroSn rfl rfl rfl rfl (snA_one _ rfl) zz ?_; intro we se ge))
        refine bodyPost_ret (results_S Try.isSn rfl _ _ w.heap.size _ rfl rfl se) rfl ?_
        have hfin := Hw20.out.fin ge
        exact ⟨_, c, rfl, hfin.1, show c.ts.length ≤ 8 by have := HK.out; omega, hfin.2⟩
      | true =>
        go_wp2_with fail
        refine (below_any B cc 3 _ Hw20.out.cur (by omega)).mono ?_
        rintro e w21 ⟨x21, rfl, lx21, ux21, -, Cw21, Gw21⟩
        have vx21 := ux21 (by omega)
        have Hw21 : Hid (DK w w21 B cc w.heap.size k (.slice (some ⟨q, 0, none⟩) n vc) c) := Hw20.out.draw Cw21 Gw21
        clear ux21 Cw21 Gw21 Hw20
        obtain rfl | rfl | rfl : x21 = 0 ∨ x21 = 1 ∨ x21 = 2 := by omega
        · clear lx21 vx21
          have L3 : Hid (DK w (w21.alloc (.cells #[.int .i64 0, .int .i64 (-1), .int .i64 100000, .int .i64 100001] 2)) B cc w.heap.size k (.slice (some ⟨q, 0, none⟩) n vc) c) := Hw21.out.alloc _
          have hcw : cc < w21.heap.size := by have := Hw21.out.cur.lt; omega
          clear Hw21
          go_wp2_with fail
          refine (below_any B cc 4 _ L3.out.cur (by omega)).mono ?_
          rintro e w22 ⟨i, rfl, li, ui, -, C4, G4⟩
          have vi := ui (by omega)
          have H4 : Hid (DK w w22 B cc w.heap.size k (.slice (some ⟨q, 0, none⟩) n vc) c) := L3.out.draw C4 G4
          obtain ⟨x, hx⟩ := lit_at (w := w21) [0, -1, 100000, 100001] (t := 2) G4 (by simp; omega) i (by omega) (by simp; omega)
          clear ui C4 G4 L3
          have k4 : w22.cell? ⟨k, 0, none⟩ = some (.int .i64 c.tr) := H4.out.st.cell 0 rfl
          have f4 := H4.out.st.frozen 0
          have J4 : Hid (DK w (w22.setCell ⟨k, 0, none⟩ (.int .i64 x)) B cc w.heap.size k (.slice (some ⟨q, 0, none⟩) n vc) { c with tr := x }) := H4.out.put 0 (.int .i64 x) { c with tr := x } rfl rfl
          clear H4
          have zq := J4.out.st
          have zz := J4.out.rs
          go_wp2_with (first | (refine wpList_getS Try.isSn rfl _ rfl k rfl (snA (.slice (some ⟨q, 0, none⟩) n vc) { c with tr := x }) rfl zq ?_) | (refine wpList_putS Try.isSn rfl _ _ rfl w.heap.size (snA (.slice (some ⟨q, 0, none⟩) n vc) { c with tr := x }) zeroSn rfl rfl rfl rfl (snA_one _ rfl) zz ?_; intro we se ge))
          refine bodyPost_ret (results_S Try.isSn rfl _ _ w.heap.size _ rfl rfl se) rfl ?_
          have hfin := J4.out.fin ge
          exact ⟨_, { c with tr := x }, rfl, hfin.1, show c.ts.length ≤ 8 by have := HK.out; omega, hfin.2⟩
        · clear lx21 vx21
          obtain ⟨k3, -, -, hq5, -⟩ := Hw21.out.turn HK.out.symm 0 (by omega)
          have s3 := Hw21.out.st.lt
          have hcw : cc < w21.heap.size := by have := Hw21.out.cur.lt; omega
          have L3 : Hid (DK w (w21.alloc (.cells #[.int .i64 (-1), .int .i64 1000000000, .int .i64 1000000001] 2)).drew B cc w.heap.size k (.slice (some ⟨q, 0, none⟩) n vc) c) := (Hw21.out.alloc _).drew
          have hn1' : (0 : Int) < (n : Int) := by omega
          have HQ : Hid (∀ wx, DK w wx B cc w.heap.size k (.slice (some ⟨q, 0, none⟩) n vc) c → wx.cell? ⟨k, 1, none⟩ = some (.slice (some ⟨q, 0, none⟩) n vc) ∧ (∃ y, wx.cell? ⟨q, 0, none⟩ = some y) ∧ wx.frozen? ⟨q, 0, none⟩ = false ∧ ∀ x : Int, DK w (wx.setCell ⟨q, 0, none⟩ (.int .i64 x)) B cc w.heap.size k (.slice (some ⟨q, 0, none⟩) n vc) { c with ts := c.ts.set 0 x }) := by
            intro wx d
            obtain ⟨a1, a2, a3, -, a4⟩ := d.turn HK.out.symm 0 (by omega)
            exact ⟨a1, a2, a3, a4⟩
          go_wp2_with fail
          go_region_with (first
            | (go_at_call 51; refine (below_any B cc 3 _ L3.out.cur (by omega)).mono ?_; rintro e w22 ⟨i, rfl, li, ui, -, C4, G4⟩; have vi := ui (by omega); have H4 : Hid (DK w w22 B cc w.heap.size k (.slice (some ⟨q, 0, none⟩) n vc) c) := L3.out.draw C4 G4; obtain ⟨x, hx⟩ := lit_at (w := w21) [-1, 1000000000, 1000000001] (t := 2) (row := some cc) ⟨G4.os, G4.tape, G4.output, G4.size, G4.block⟩ (by simp; omega) i (by omega) (by simp; omega); clear ui C4 G4; obtain ⟨k4, ⟨y4, ky4⟩, f4, JX⟩ := HQ.out _ H4.out; have J4 : Hid (DK w (w22.setCell ⟨q, 0, none⟩ (.int .i64 x)) B cc w.heap.size k (.slice (some ⟨q, 0, none⟩) n vc) { c with ts := c.ts.set 0 x }) := JX x; clear JX H4)
            | (go_at_call 51; refine (below_any B cc 3 _ Hw21.out.drew.cur (by omega)).mono ?_; rintro e w22 ⟨i, rfl, li, ui, -, C4, G4⟩; have vi := ui (by omega); have H4 : Hid (DK w w22 B cc w.heap.size k (.slice (some ⟨q, 0, none⟩) n vc) c) := Hw21.out.drew.draw C4 G4; have L4 : Hid (DK w (w22.alloc (.cells #[.int .i64 (-1), .int .i64 1000000000, .int .i64 1000000001] 2)) B cc w.heap.size k (.slice (some ⟨q, 0, none⟩) n vc) c) := H4.out.alloc _; obtain ⟨x, hx'⟩ := lit_idx [-1, 1000000000, 1000000001] i (by omega) (by simp; omega); have hx : ∀ hh : i.toNat < ([.int .i64 (-1), .int .i64 1000000000, .int .i64 1000000001] : List Value).length, ([.int .i64 (-1), .int .i64 1000000000, .int .i64 1000000001] : List Value)[i.toNat]'hh = .int .i64 x := hx'; clear hx' ui C4 G4; obtain ⟨k4', ⟨y4', ky4'⟩, f4', JX⟩ := HQ.out _ H4.out; obtain ⟨k4, ⟨y4, ky4⟩, f4, -⟩ := HQ.out _ L4.out; have J4 : Hid (DK w ((w22.setCell ⟨q, 0, none⟩ (.int .i64 x)).alloc (.cells #[.int .i64 (-1), .int .i64 1000000000, .int .i64 1000000001] 2)) B cc w.heap.size k (.slice (some ⟨q, 0, none⟩) n vc) { c with ts := c.ts.set 0 x }) := (JX x).alloc _; have s4 := H4.out.st.lt; have q4 : q < w22.heap.size := (H4.out.own.lt q rfl).2; have n4 : q ≠ w22.heap.size := Nat.ne_of_lt q4; clear JX H4 L4))
          all_goals
            (skip
             have zq := J4.out.st
             have zz := J4.out.rs
             go_wp2_with (first | (refine wpList_getS Try.isSn rfl _ rfl k rfl (snA (.slice (some ⟨q, 0, none⟩) n vc) { c with ts := c.ts.set 0 x }) rfl zq ?_) | (refine wpList_putS Try.isSn rfl _ _ rfl w.heap.size (snA (.slice (some ⟨q, 0, none⟩) n vc) { c with ts := c.ts.set 0 x }) zeroSn rfl rfl rfl rfl (snA_one _ rfl) zz ?_; intro we se ge))
             refine bodyPost_ret (results_S Try.isSn rfl _ _ w.heap.size _ rfl rfl se) rfl ?_
             have hfin := J4.out.fin ge
             exact ⟨_, { c with ts := c.ts.set 0 x }, rfl, hfin.1, (by simp only [List.length_set]; have := HK.out; omega), hfin.2⟩)
        · clear lx21 vx21
          have zq := Hw21.out.st
          have zz := Hw21.out.rs
          have HG : Hid (Cur w21 B cc ∧ w.grownBy w21 (some cc)) := ⟨Hw21.out.cur, Hw21.out.gr⟩
          clear Hw21
          go_upto_region 14 with (refine wpList_putS Try.isSn rfl _ _ rfl k zeroSn (snA (.slice (some ⟨q, 0, none⟩) n vc) c) rfl rfl rfl rfl zeroSn_one zq ?_; intro wf sf gf)
          have zf := zz.kept gf (fun e => by have := Option.some.inj e; omega)
          have HF : Hid (Cur wf B cc ∧ w.grownBy wf (some cc)) := ⟨HG.out.1.kept gf (fun e => by have := Option.some.inj e; omega) (fun y e => by cases e; omega), grown_newK HG.out.2 gf hk1.2.1⟩
          clear zq zz gf HG
          go_wp2_with (first | (refine wpList_getS Try.isSn rfl _ rfl k rfl zeroSn rfl sf ?_) | (refine wpList_putS Try.isSn rfl _ _ rfl w.heap.size zeroSn zeroSn rfl rfl rfl rfl zeroSn_one zf ?_; intro we se ge))
          refine bodyPost_ret (results_S Try.isSn rfl _ _ w.heap.size _ rfl rfl se) rfl ?_
          exact ⟨.slice none 0 0, Sn.zero, rfl, Own.nil _ _, by decide, HF.out.1.kept ge (fun e => by have := Option.some.inj e; omega) (fun y e => by cases e; omega), grown_newK HF.out.2 ge (Nat.le_refl _)⟩
end Go.Proofs.Ytdcdfhklnhaimaa
