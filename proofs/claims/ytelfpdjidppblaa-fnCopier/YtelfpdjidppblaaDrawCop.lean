/- What the laws on copiers draw: l13Draw. -/
import Derived.Test.YtelfpdjidppblaaSCop5
import Derived.Test.YtelfpdjidppblaaM2
import Derived.Deep.RegionWith
namespace Go.Proofs.Ytelfpdjidppblaa
open Go.ChangeShapes Go.WideShapes Go.ChangeAt Go.RowKit

/- The cursor stands; the answer's block g holds the zero copier, block k the copier c, all new since w. -/
structure DCp (w wx : World) (B cc g k : Nat) (v : Value) (c : Cp) : Prop where
  cur : Cur wx B cc
  gr : w.grownBy wx (some cc)
  rs : StB wx g 26 zeroCp
  st : CpB wx k 0 26 (cpA v c) v c
  bd : w.heap.size ≤ g ∧ w.heap.size ≤ k ∧ g ≠ k ∧ cc < w.heap.size ∧ B ≤ w.heap.size
  nv : ∀ q, v.ownBlock = some q → w.heap.size ≤ q ∧ q ≠ g
theorem grown_new {w wx wy : World} {cc g : Nat} (h : w.grownBy wx (some cc)) (G : wx.grownBy wy (some g)) (hg : w.heap.size ≤ g) : w.grownBy wy (some cc) :=
  ⟨G.os.trans h.os, G.tape.trans h.tape, G.output.trans h.output, Nat.le_trans h.size G.size, fun k hk hne => (G.block k (Nat.lt_of_lt_of_le hk h.size) (fun e => by have := Option.some.inj e; omega)).trans (h.block k hk hne)⟩
theorem CpB.mk0 {w : World} {k : Nat} {v : Value} {c : Cp} (s : StB w k 26 (cpA v c)) (o : Own w 0 v c.ts) (n : v.ownBlock ≠ some k) : CpB w k 0 26 (cpA v c) v c := ⟨s, rfl, rfl, rfl, rfl, rfl, o, n⟩
theorem DCp.draw {w wx wy : World} {B cc g k : Nat} {v : Value} {c : Cp} (d : DCp w wx B cc g k v c) (C : Cur wy B cc) (G : wx.grownBy wy (some cc)) : DCp w wy B cc g k v c := by
  have h := d.bd
  refine ⟨C, d.gr.trans G, d.rs.kept G (fun e => by have := Option.some.inj e; omega), CpB.mk0 (d.st.st.kept G (fun e => by have := Option.some.inj e; omega)) (d.st.own.kept G (.inr (fun e => ?_))) d.st.ne, h, d.nv⟩
  have := d.nv cc e; omega
theorem DCp.below {w wx wy : World} {B cc g k : Nat} {v : Value} {c : Cp} (d : DCp w wx B cc g k v c) (b : Below wx.heap.size wx wy) : DCp w wy B cc g k v c :=
  ⟨d.cur.below b, d.gr.trans ⟨b.os, b.tape, b.output, b.size, fun x hx _ => b.block x hx⟩, d.rs.below b, d.st.below b, d.bd, d.nv⟩
theorem DCp.drew {w wx : World} {B cc g k : Nat} {v : Value} {c : Cp} (d : DCp w wx B cc g k v c) : DCp w wx.drew B cc g k v c := d.below (Below.refl _ _).drew
theorem DCp.alloc {w wx : World} {B cc g k : Nat} {v : Value} {c : Cp} (d : DCp w wx B cc g k v c) (o : Obj) : DCp w (wx.alloc o) B cc g k v c := d.below ((Below.refl _ _).alloc (Nat.le_refl _) _)
/- A hand of the model was on it. -/
theorem DCp.hand {w wx wy : World} {B cc g k : Nat} {v : Value} {c m : Cp} (d : DCp w wx B cc g k v c) (ht : m.tr = c.tr) (ho : m.op = c.op) (s : CpB wy k 0 26 (cpPut (cpA v c) 0 m.di m.wa) v m) (t : Turned wx wy (k :: v.ownBlock.toList)) : DCp w wy B cc g k v m := by
  have h := d.bd
  have hk : ∀ b ∈ k :: v.ownBlock.toList, w.heap.size ≤ b ∧ b ≠ g := fun b hb => by
    rcases List.mem_cons.1 hb with e | e
    · subst e; exact ⟨h.2.1, fun e => h.2.2.1 e.symm⟩
    · exact d.nv b (by simpa using e)
  have hg := d.gr.size
  have e : cpPut (cpA v c) 0 m.di m.wa = cpA v m := by unfold cpA; rw [ht, ho]; rfl
  rw [e] at s
  refine ⟨d.cur.frame (t.block _ (by omega) (fun e => by have := (hk _ e).1; omega)) (t.belowAt (fun b hb => by have := (hk b hb).1; omega) (by omega)), ?_, d.rs.turned t (fun e => (hk g e).2 rfl), s, h, d.nv⟩
  exact ⟨t.os.trans d.gr.os, t.tape.trans d.gr.tape, t.output.trans d.gr.output, Nat.le_trans d.gr.size t.size, fun x hx hn => (t.block x (by omega) (fun e => by have := (hk x e).1; omega)).trans (d.gr.block x hx hn)⟩
/- A cell of the copier is set. -/
theorem DCp.put {w wx : World} {B cc g k : Nat} {v : Value} {c : Cp} (d : DCp w wx B cc g k v c) (j : Nat) (x : Value) (m : Cp) (hts : m.ts = c.ts) (e : (cpA v c).setIfInBounds j x = cpA v m) : DCp w (wx.setCell ⟨k, j, none⟩ x) B cc g k v m := by
  have h := d.bd
  have G := grownSet wx k j x
  refine ⟨d.cur.kept G (fun e => by have := Option.some.inj e; omega) (fun y e => by cases e; omega), grown_new d.gr G h.2.1, d.rs.kept G (fun e => by have := Option.some.inj e; omega), CpB.mk0 (d.st.st.put j x e) (by rw [hts]; exact d.st.own.kept G (.inr d.st.ne)) d.st.ne, h, d.nv⟩
/- A turn is set. -/
theorem DCp.turn {w wx : World} {B cc g k : Nat} {v : Value} {c : Cp} (d : DCp w wx B cc g k v c) (j : Nat) (hj : j < c.ts.length) :
    ∃ q cap, v = .slice (some ⟨q, 0, none⟩) c.ts.length cap ∧ q ≠ k ∧ q ≠ g ∧ c.ts.length ≤ cap ∧ cap ≤ maxLen ∧ wx.cell? ⟨q, j, none⟩ = some (.int .i64 (c.ts.getD j 0)) ∧ wx.frozen? ⟨q, j, none⟩ = false ∧ q < wx.heap.size ∧ cc ≠ q ∧
      ∀ x : Int, DCp w (wx.setCell ⟨q, j, none⟩ (.int .i64 x)) B cc g k v { c with ts := c.ts.set j x } := by
  obtain ⟨q, cap, e, hq, h1, h2, h3, h4, h5⟩ := d.st.turn j hj
  have h := d.bd
  have hq2 := d.nv q (by rw [e]; rfl)
  have hq3 := d.st.own.lt q (by rw [e]; rfl)
  refine ⟨q, cap, e, hq, hq2.2, h1, h2, h3, h4, hq3.2, by omega, fun x => ?_⟩
  have G := grownSet wx q j (.int .i64 x)
  exact ⟨d.cur.kept G (fun e => by have := Option.some.inj e; omega) (fun y e => by cases e; omega), grown_new d.gr G hq2.1, d.rs.kept G (fun e => by have := Option.some.inj e; omega), (h5 x).1, h, d.nv⟩
theorem DCp.fin {w wx wy : World} {B cc g k : Nat} {v : Value} {c : Cp} (d : DCp w wx B cc g k v c) (G : wx.grownBy wy (some g)) : Own wy w.heap.size v c.ts ∧ Cur wy B cc ∧ w.grownBy wy (some cc) := by
  have h := d.bd
  exact ⟨(d.st.own.kept G (.inr (fun e => (d.nv g e).2 rfl))).up (fun q hq => (d.nv q hq).1), d.cur.kept G (fun e => by have := Option.some.inj e; omega) (fun y e => by cases e; omega), grown_new d.gr G h.1⟩
theorem Cp.op_ok {c : Cp} (h : c.ok = true) (ht : c.tr ≠ 0) (o : Bool) : ({ c with op := o } : Cp).ok = true := by
  unfold Cp.ok at *
  rw [if_neg ht] at h
  rw [if_neg (by simpa using ht)]
  exact h
theorem Cp.next_len (c : Cp) : c.next.ts.length = c.ts.length := by unfold Cp.next; split <;> simp
theorem Cp.mark_len (c : Cp) (i : Int) : (c.mark i).ts.length = c.ts.length := by unfold Cp.mark; split <;> rfl
theorem Cp.ack_len (c : Cp) (i t : Int) : (c.ack i t).ts.length = c.ts.length := by unfold Cp.ack; split <;> rfl
theorem Cp.next_to (c : Cp) : c.next.tr = c.tr ∧ c.next.op = c.op := by unfold Cp.next; split <;> exact ⟨rfl, rfl⟩
theorem Cp.mark_to (c : Cp) (i : Int) : (c.mark i).tr = c.tr ∧ (c.mark i).op = c.op := by unfold Cp.mark; split <;> exact ⟨rfl, rfl⟩
theorem Cp.ack_to (c : Cp) (i t : Int) : (c.ack i t).tr = c.tr ∧ (c.ack i t).op = c.op := by unfold Cp.ack; split <;> exact ⟨rfl, rfl⟩

set_option maxRecDepth 20000 in
set_option maxHeartbeats 8000000 in
theorem l13draw_any (B cc : Nat) (w : World) (hcur : Cur w B cc) :
    Calls Try.prog 53 #[.pointer (some ⟨cc, 0, none⟩)] w fun e w' => ∃ (u : Value) (c : Cp), e = .returned (CpV u c) ∧ Own w' w.heap.size u c.ts ∧ c.ts.length ≤ 8 ∧ Cur w' B cc ∧ w.grownBy w' (some cc) := by
  have hlt := hcur.lt
  obtain ⟨w0, hw0⟩ : ∃ w0, w0 = w.alloc (.cells zeroCp 26) := ⟨_, rfl⟩
  have HC0 : Hid (Cur w0 B cc ∧ StB w0 w.heap.size 26 zeroCp ∧ w.grownBy w0 (some cc)) := by
    rw [hw0]
    exact ⟨hcur.kept (World.grownBy_alloc w _ none) (by simp) (by simp), StB.new w _ _, World.grownBy_alloc w _ _⟩
  unfold zeroCp at hw0
  clear hcur
  go_enter Try.func53, Try.ntmps53
  go_upto_region 1 with fail
  rw [← hw0]
  clear hw0
  go_wp2_with fail
  refine (below_any B cc 5 _ HC0.out.1 (by omega)).mono ?_
  rintro e w1 ⟨x1, rfl, l1, u1, -, C1, G1⟩
  have v1 := u1 (by omega)
  have HC1 : Hid (Cur w1 B cc ∧ StB w1 w.heap.size 26 zeroCp ∧ w.grownBy w1 (some cc)) := ⟨C1, HC0.out.2.1.kept G1 (fun e => by have := Option.some.inj e; omega), HC0.out.2.2.trans G1⟩
  clear u1 C1 G1 HC0
  go_wp2_with fail
  refine (below_any B cc 4 _ HC1.out.1 (by omega)).mono ?_
  rintro e w2 ⟨x2, rfl, l2, u2, -, C2, G2⟩
  have v2 := u2 (by omega)
  have HC2 : Hid (Cur w2 B cc ∧ StB w2 w.heap.size 26 zeroCp ∧ w.grownBy w2 (some cc)) := ⟨C2, HC1.out.2.1.kept G2 (fun e => by have := Option.some.inj e; omega), HC1.out.2.2.trans G2⟩
  clear u2 C2 G2 HC1
  have c3 := fun wx => snewC_any (1 + x1) (1 + x2) wx
  have hmade : Cp.made (1 + x1) (1 + x2) = true := by
    unfold Cp.made
    rw [(inI_iff _ _ _).2 (by omega), (inI_iff _ _ _).2 (by omega)]; rfl
  have hc0 := Cp.new_ok _ _ hmade
  have hc1 : (Cp.new (1 + x1) (1 + x2)).tr ≠ 0 := by unfold Cp.new; rw [if_pos hmade]; simp only; omega
  have hc2 : (Cp.new (1 + x1) (1 + x2)).ts.length = (1 + x1).toNat := by unfold Cp.new; rw [if_pos hmade]; simp
  simp only [hmade] at c3
  obtain ⟨c0, hcd⟩ : ∃ c0, c0 = Cp.new (1 + x1) (1 + x2) := ⟨_, rfl⟩
  rw [← hcd] at hc0 hc1 hc2
  simp only [← hcd] at c3
  clear hcd hmade
  obtain ⟨n, hn⟩ : ∃ n : Nat, 1 + x1 = n := ⟨(1 + x1).toNat, by omega⟩
  have hn5 : n ≤ 5 := by omega
  have hn1 : 1 ≤ n := by omega
  rw [hn, Int.toNat_natCast] at hc2
  rw [hn] at c3
  have HK : Hid (c0.ok = true ∧ c0.tr ≠ 0 ∧ c0.ts.length = n) := ⟨hc0, hc1, hc2⟩
  clear hc0 hc1 hc2
  go_wp2_with fail
  try rw [hn]
  refine (c3 _).mono ?_
  rintro e w3 ⟨v, rfl, o3, b3⟩
  clear c3 hn
  obtain ⟨k, hk⟩ : ∃ k, k = w3.heap.size := ⟨_, rfl⟩
  have hs2 := HC2.out.2.1.lt
  have HD4 : Hid (DCp w (w3.alloc (.cells (cpA v c0) 26)) B cc w.heap.size w3.heap.size v c0) := by
    have b2 : Below w3.heap.size w3 (w3.alloc (.cells (cpA v c0) 26)) := (Below.refl _ _).alloc (Nat.le_refl _) _
    have bs := b3.size
    have hu := o3.lt
    refine ⟨(HC2.out.1.below b3).below b2, ?_, (HC2.out.2.1.below b3).below b2, CpB.mk0 (StB.new w3 _ _) ((o3.mono (Nat.zero_le _)).below b2) (fun e => by have := (hu _ e).2; omega), by omega, fun q hq => by have := (hu q hq).1; omega⟩
    have b := b3.trans (b2.mono bs)
    exact HC2.out.2.2.trans ⟨b.os, b.tape, b.output, b.size, fun x hx _ => b.block x hx⟩
  obtain ⟨w4, hw4⟩ : ∃ w4, w4 = w3.alloc (.cells (cpA v c0) 26) := ⟨_, rfl⟩
  rw [← hw4] at HD4
  have HV : Hid (v.oneCell' = true) := reads_one o3.reads
  unfold cpA at hw4
  unfold CpV cpA
  obtain ⟨va, vc, rfl⟩ := reads_form o3.reads
  have hl0 := HK.out.2.2
  rw [hl0] at HD4 hw4 ⊢
  clear hl0
  clear o3 b3 HC2 hs2
  go_upto_region 3 with fail
  rw [← hw4]
  rw [← hk] at HD4 ⊢
  clear hw4 hk HV
  obtain ⟨v, hv⟩ : ∃ v, v = Value.slice va n vc := ⟨_, rfl⟩
  rw [← hv] at HD4
  have HV : Hid (v = Value.slice va n vc) := hv
  clear hv
  have hk1 := HD4.out.bd
  go_wp2_with fail
  refine (once_any B cc 5 _ HD4.out.cur (by omega)).mono ?_
  rintro e w5 ⟨b5, rfl, Cw5, Gw5⟩
  have Hw5 : Hid (DCp w w5 B cc w.heap.size k v c0) := HD4.out.draw Cw5 Gw5
  clear Cw5 Gw5 HD4
  have k5 : w5.cell? ⟨k, 1, none⟩ = some (.bool c0.op) := Hw5.out.st.st.cell 1 rfl
  have f5 := Hw5.out.st.st.frozen 1
  have H6 : Hid (DCp w (w5.setCell ⟨k, 1, none⟩ (.bool (!b5))) B cc w.heap.size k v { c0 with op := !b5 }) := Hw5.out.put 1 (.bool (!b5)) { c0 with op := !b5 } rfl rfl
  have HK6 : Hid (({ c0 with op := !b5 } : Cp).ok = true ∧ ({ c0 with op := !b5 } : Cp).ts.length = n) := ⟨Cp.op_ok HK.out.1 HK.out.2.1 _, HK.out.2.2⟩
  obtain ⟨c, hc⟩ : ∃ c : Cp, c = { c0 with op := !b5 } := ⟨_, rfl⟩
  rw [← hc] at H6 HK6
  clear hc Hw5 HK
  go_wp2_with fail
  refine (below_any B cc 14 _ H6.out.cur (by omega)).mono ?_
  rintro e w7 ⟨x7, rfl, lx7, ux7, -, Cw7, Gw7⟩
  have vx7 := ux7 (by omega)
  have Hw7 : Hid (DCp w w7 B cc w.heap.size k v c) := H6.out.draw Cw7 Gw7
  clear ux7 Cw7 Gw7 H6
  clear k5 f5
  go_wp2
  go_loopw [6] (fun i wr => ∃ (j : Nat) (c : Cp), j ≤ 14 ∧ i = .int .i64 j ∧ Hid (c.ok = true ∧ c.ts.length = n) ∧ Hid (DCp w wr B cc w.heap.size k v c)) (fun i _ => (intOf i).toNat)
  case atStart => exact ⟨x7.toNat, c, by omega, by rw [Int.toNat_of_nonneg lx7], HK6, Hw7⟩
  case round =>
    obtain ⟨j, c, hj, rfl, HK, HR⟩ := hrel
    clear Hw7 HK6
    by_cases hj0 : (0 : Int) < (j : Int)
    case pos =>
      go_wp2_with fail
      refine (below_any B cc 5 _ HR.out.cur (by omega)).mono ?_
      rintro e w8 ⟨x8, rfl, lx8, ux8, -, Cw8, Gw8⟩
      have vx8 := ux8 (by omega)
      have Hw8 : Hid (DCp w w8 B cc w.heap.size k v c) := HR.out.draw Cw8 Gw8
      clear ux8 Cw8 Gw8 HR
      obtain rfl | rfl | rfl | rfl | rfl : x8 = 0 ∨ x8 = 1 ∨ x8 = 2 ∨ x8 = 3 ∨ x8 = 4 := by omega
      · clear lx8 vx8
        go_wp2_with fail
        refine (snext_any k 0 26 _ v c _ Hw8.out.st (Cp.fit HK.out.1)).mono ?_
        rintro e w9 ⟨rfl, s9, t9⟩
        have H9 : Hid (DCp w w9 B cc w.heap.size k v c.next) := Hw8.out.hand c.next_to.1 c.next_to.2 s9 t9
        clear s9 t9 Hw8
        go_wp2
        go_roundw
        case rel => exact ⟨j - 1, c.next, by omega, by go_num, ⟨Cp.next_ok HK.out.1, c.next_len.trans HK.out.2⟩, H9⟩
        case measure => simp [intOf]; omega
      · clear lx8 vx8
        go_wp2_with fail
        refine (snext_any k 0 26 _ v c _ Hw8.out.st (Cp.fit HK.out.1)).mono ?_
        rintro e w9 ⟨rfl, s9, t9⟩
        have H9 : Hid (DCp w w9 B cc w.heap.size k v c.next) := Hw8.out.hand c.next_to.1 c.next_to.2 s9 t9
        clear s9 t9 Hw8
        go_wp2
        go_roundw
        case rel => exact ⟨j - 1, c.next, by omega, by go_num, ⟨Cp.next_ok HK.out.1, c.next_len.trans HK.out.2⟩, H9⟩
        case measure => simp [intOf]; omega
      · clear lx8 vx8
        go_wp2_with fail
        refine (below_any B cc (n : Int) _ Hw8.out.cur (by omega)).mono ?_
        rintro e w9 ⟨x9, rfl, lx9, ux9, -, Cw9, Gw9⟩
        have vx9 := ux9 (by omega)
        have Hw9 : Hid (DCp w w9 B cc w.heap.size k v c) := Hw8.out.draw Cw9 Gw9
        clear ux9 Cw9 Gw9 Hw8
        obtain ⟨i9, rfl⟩ := nat_of lx9
        have hv9 := HV.out
        obtain ⟨q, cap, e9, hq1, hq2, hq3, hq4, k9, f9, hq5, hq6, -⟩ := Hw9.out.turn i9 (by have := HK.out.2; omega)
        have e10 := hv9.symm.trans e9
        simp only [Value.slice.injEq] at e10
        obtain ⟨rfl, -, rfl⟩ := e10
        have kv : w9.cell? ⟨k, 4, none⟩ = some (.slice (some ⟨q, 0, none⟩) n vc) := by have := Hw9.out.st.st.cell 4 (x := v) rfl; rw [hv9] at this; exact this
        obtain ⟨y, hy⟩ : ∃ y, y = c.ts.getD i9 0 := ⟨_, rfl⟩
        rw [← hy] at k9
        have hn3 : n ≤ vc := by have := HK.out.2; omega
        unfold maxLen at hq4
        clear hv9 e9 hy hq3
        go_wp2_with fail
        refine (sack_any k 0 26 _ v c i9 y _ Hw9.out.st).mono ?_
        rintro e w10 ⟨rfl, s10, t10⟩
        have H10 : Hid (DCp w w10 B cc w.heap.size k v (c.ack i9 y)) := Hw9.out.hand (c.ack_to i9 y).1 (c.ack_to i9 y).2 s10 t10
        clear s10 t10 Hw9 k9 f9 kv
        go_wp2
        go_roundw
        case rel => exact ⟨j - 1, c.ack i9 y, by omega, by go_num, ⟨Cp.ack_ok HK.out.1 _ _, (c.ack_len i9 y).trans HK.out.2⟩, H10⟩
        case measure => simp [intOf]; omega
      · clear lx8 vx8
        go_wp2_with fail
        refine (below_any B cc (n : Int) _ Hw8.out.cur (by omega)).mono ?_
        rintro e w9 ⟨x9, rfl, lx9, ux9, -, Cw9, Gw9⟩
        have vx9 := ux9 (by omega)
        have Hw9 : Hid (DCp w w9 B cc w.heap.size k v c) := Hw8.out.draw Cw9 Gw9
        clear ux9 Cw9 Gw9 Hw8
        obtain ⟨i9, rfl⟩ := nat_of lx9
        have hv9 := HV.out
        obtain ⟨q, cap, e9, hq1, hq2, hq3, hq4, k9, f9, hq5, hq6, -⟩ := Hw9.out.turn i9 (by have := HK.out.2; omega)
        have e10 := hv9.symm.trans e9
        simp only [Value.slice.injEq] at e10
        obtain ⟨rfl, -, rfl⟩ := e10
        have kv : w9.cell? ⟨k, 4, none⟩ = some (.slice (some ⟨q, 0, none⟩) n vc) := by have := Hw9.out.st.st.cell 4 (x := v) rfl; rw [hv9] at this; exact this
        obtain ⟨y, hy⟩ : ∃ y, y = c.ts.getD i9 0 := ⟨_, rfl⟩
        rw [← hy] at k9
        have hn3 : n ≤ vc := by have := HK.out.2; omega
        unfold maxLen at hq4
        clear hv9 e9 hy hq3
        go_wp2_with fail
        refine (sack_any k 0 26 _ v c i9 y _ Hw9.out.st).mono ?_
        rintro e w10 ⟨rfl, s10, t10⟩
        have H10 : Hid (DCp w w10 B cc w.heap.size k v (c.ack i9 y)) := Hw9.out.hand (c.ack_to i9 y).1 (c.ack_to i9 y).2 s10 t10
        clear s10 t10 Hw9 k9 f9 kv
        go_wp2
        go_roundw
        case rel => exact ⟨j - 1, c.ack i9 y, by omega, by go_num, ⟨Cp.ack_ok HK.out.1 _ _, (c.ack_len i9 y).trans HK.out.2⟩, H10⟩
        case measure => simp [intOf]; omega
      · clear lx8 vx8
        go_wp2_with fail
        refine (once_any B cc 2 _ Hw8.out.cur (by omega)).mono ?_
        rintro e w9 ⟨b9, rfl, Cw9, Gw9⟩
        have Hw9 : Hid (DCp w w9 B cc w.heap.size k v c) := Hw8.out.draw Cw9 Gw9
        clear Cw9 Gw9 Hw8
        cases b9 with
        | true =>
          go_wp2_with fail
          refine (below_any B cc (n : Int) _ Hw9.out.cur (by omega)).mono ?_
          rintro e w10 ⟨x10, rfl, lx10, ux10, -, Cw10, Gw10⟩
          have vx10 := ux10 (by omega)
          have Hw10 : Hid (DCp w w10 B cc w.heap.size k v c) := Hw9.out.draw Cw10 Gw10
          clear ux10 Cw10 Gw10 Hw9
          go_wp2_with fail
          refine (smark_any k 0 26 _ v c x10 _ Hw10.out.st).mono ?_
          rintro e w11 ⟨rfl, s11, t11⟩
          have H11 : Hid (DCp w w11 B cc w.heap.size k v (c.mark x10)) := Hw10.out.hand (c.mark_to x10).1 (c.mark_to x10).2 s11 t11
          clear s11 t11 Hw10
          go_wp2
          go_roundw
          case rel => exact ⟨j - 1, c.mark x10, by omega, by go_num, ⟨Cp.mark_ok HK.out.1 _, (c.mark_len x10).trans HK.out.2⟩, H11⟩
          case measure => simp [intOf]; omega
        | false =>
          go_wp2_with fail
          refine (once_any B cc 3 _ Hw9.out.cur (by omega)).mono ?_
          rintro e w10 ⟨b10, rfl, Cw10, Gw10⟩
          have Hw10 : Hid (DCp w w10 B cc w.heap.size k v c) := Hw9.out.draw Cw10 Gw10
          clear Cw10 Gw10 Hw9
          cases b10 with
          | true =>
            go_wp2_with fail
            refine (sagain_any k 0 26 _ v c _ Hw10.out.st (Cp.fit HK.out.1)).mono ?_
            rintro e w11 ⟨rfl, s11, t11⟩
            have H11 : Hid (DCp w w11 B cc w.heap.size k v c.again) := Hw10.out.hand rfl rfl s11 t11
            clear s11 t11 Hw10
            go_wp2
            go_roundw
            case rel => exact ⟨j - 1, c.again, by omega, by go_num, ⟨Cp.again_ok HK.out.1, HK.out.2⟩, H11⟩
            case measure => simp [intOf]; omega
          | false =>
            go_wp2
            go_roundw
            case rel => exact ⟨j - 1, c, by omega, by go_num, ⟨HK.out.1, HK.out.2⟩, Hw10⟩
            case measure => simp [intOf]; omega
    case neg =>
      go_wp2_with fail
      refine (once_any B cc 10 _ HR.out.cur (by omega)).mono ?_
      rintro e w20 ⟨b20, rfl, Cw20, Gw20⟩
      have Hw20 : Hid (DCp w w20 B cc w.heap.size k v c) := HR.out.draw Cw20 Gw20
      clear Cw20 Gw20 HR
      cases b20 with
      | false =>
        have zq := Hw20.out.st.st
        have zz := Hw20.out.rs
        have zo := reads_one Hw20.out.st.own.reads
        go_wp2_with (first | (refine wpList_getS Try.isCp rfl _ rfl k rfl (cpA v c) rfl zq ?_) | (refine wpList_putS Try.isCp rfl _ _ rfl w.heap.size (cpA v c) zeroCp rfl rfl rfl rfl (cpA_one _ zo) zz ?_; intro we se ge))
        refine bodyPost_ret (results_S Try.isCp rfl _ _ w.heap.size _ rfl rfl se) rfl ?_
        have hfin := Hw20.out.fin ge
        exact ⟨v, c, rfl, hfin.1, show c.ts.length ≤ 8 by have := HK.out.2; omega, hfin.2⟩
      | true =>
        go_wp2_with fail
        refine (below_any B cc 5 _ Hw20.out.cur (by omega)).mono ?_
        rintro e w21 ⟨x21, rfl, lx21, ux21, -, Cw21, Gw21⟩
        have vx21 := ux21 (by omega)
        have Hw21 : Hid (DCp w w21 B cc w.heap.size k v c) := Hw20.out.draw Cw21 Gw21
        clear ux21 Cw21 Gw21 Hw20
        obtain rfl | rfl | rfl | rfl | rfl : x21 = 0 ∨ x21 = 1 ∨ x21 = 2 ∨ x21 = 3 ∨ x21 = 4 := by omega
        · clear lx21 vx21
          have L3 : Hid (DCp w (w21.alloc (.cells #[.int .i64 0, .int .i64 (-1), .int .i64 100000, .int .i64 100001] 2)) B cc w.heap.size k v c) := Hw21.out.alloc _
          have hcw : cc < w21.heap.size := by have := Hw21.out.cur.lt; omega
          clear Hw21
          go_wp2_with fail
          refine (below_any B cc 4 _ L3.out.cur (by omega)).mono ?_
          rintro e w22 ⟨i, rfl, li, ui, -, C4, G4⟩
          have vi := ui (by omega)
          have H4 : Hid (DCp w w22 B cc w.heap.size k v c) := L3.out.draw C4 G4
          obtain ⟨x, hx⟩ := lit_at (w := w21) [0, -1, 100000, 100001] (t := 2) G4 (by simp; omega) i (by omega) (by simp; omega)
          clear ui C4 G4 L3
          have k4 : w22.cell? ⟨k, 0, none⟩ = some (.int .i64 c.tr) := H4.out.st.st.cell 0 rfl
          have f4 := H4.out.st.st.frozen 0
          have J4 : Hid (DCp w (w22.setCell ⟨k, 0, none⟩ (.int .i64 x)) B cc w.heap.size k v { c with tr := x }) := H4.out.put 0 (.int .i64 x) { c with tr := x } rfl rfl
          clear H4
          have zq := J4.out.st.st
          have zz := J4.out.rs
          have zo := reads_one J4.out.st.own.reads
          go_wp2_with (first | (refine wpList_getS Try.isCp rfl _ rfl k rfl (cpA v { c with tr := x }) rfl zq ?_) | (refine wpList_putS Try.isCp rfl _ _ rfl w.heap.size (cpA v { c with tr := x }) zeroCp rfl rfl rfl rfl (cpA_one _ zo) zz ?_; intro we se ge))
          refine bodyPost_ret (results_S Try.isCp rfl _ _ w.heap.size _ rfl rfl se) rfl ?_
          have hfin := J4.out.fin ge
          exact ⟨v, { c with tr := x }, rfl, hfin.1, show c.ts.length ≤ 8 by have := HK.out.2; omega, hfin.2⟩
        · clear lx21 vx21
          go_wp2_with fail
          refine (drawSet_any B cc _ Hw21.out.cur).mono ?_
          rintro e w22 ⟨x, rfl, Cw22, Gw22⟩
          have Hw22 : Hid (DCp w w22 B cc w.heap.size k v c) := Hw21.out.draw Cw22 Gw22
          clear Cw22 Gw22 Hw21
          have k4 : w22.cell? ⟨k, 2, none⟩ = some (.int .i64 c.di) := Hw22.out.st.st.cell 2 rfl
          have f4 := Hw22.out.st.st.frozen 2
          have J4 : Hid (DCp w (w22.setCell ⟨k, 2, none⟩ (.int .i64 x)) B cc w.heap.size k v { c with di := x }) := Hw22.out.put 2 (.int .i64 x) { c with di := x } rfl rfl
          clear Hw22
          have zq := J4.out.st.st
          have zz := J4.out.rs
          have zo := reads_one J4.out.st.own.reads
          go_wp2_with (first | (refine wpList_getS Try.isCp rfl _ rfl k rfl (cpA v { c with di := x }) rfl zq ?_) | (refine wpList_putS Try.isCp rfl _ _ rfl w.heap.size (cpA v { c with di := x }) zeroCp rfl rfl rfl rfl (cpA_one _ zo) zz ?_; intro we se ge))
          refine bodyPost_ret (results_S Try.isCp rfl _ _ w.heap.size _ rfl rfl se) rfl ?_
          have hfin := J4.out.fin ge
          exact ⟨v, { c with di := x }, rfl, hfin.1, show c.ts.length ≤ 8 by have := HK.out.2; omega, hfin.2⟩
        · clear lx21 vx21
          go_wp2_with fail
          refine (drawSet_any B cc _ Hw21.out.cur).mono ?_
          rintro e w22 ⟨x, rfl, Cw22, Gw22⟩
          have Hw22 : Hid (DCp w w22 B cc w.heap.size k v c) := Hw21.out.draw Cw22 Gw22
          clear Cw22 Gw22 Hw21
          have k4 : w22.cell? ⟨k, 3, none⟩ = some (.int .i64 c.wa) := Hw22.out.st.st.cell 3 rfl
          have f4 := Hw22.out.st.st.frozen 3
          have J4 : Hid (DCp w (w22.setCell ⟨k, 3, none⟩ (.int .i64 x)) B cc w.heap.size k v { c with wa := x }) := Hw22.out.put 3 (.int .i64 x) { c with wa := x } rfl rfl
          clear Hw22
          have zq := J4.out.st.st
          have zz := J4.out.rs
          have zo := reads_one J4.out.st.own.reads
          go_wp2_with (first | (refine wpList_getS Try.isCp rfl _ rfl k rfl (cpA v { c with wa := x }) rfl zq ?_) | (refine wpList_putS Try.isCp rfl _ _ rfl w.heap.size (cpA v { c with wa := x }) zeroCp rfl rfl rfl rfl (cpA_one _ zo) zz ?_; intro we se ge))
          refine bodyPost_ret (results_S Try.isCp rfl _ _ w.heap.size _ rfl rfl se) rfl ?_
          have hfin := J4.out.fin ge
          exact ⟨v, { c with wa := x }, rfl, hfin.1, show c.ts.length ≤ 8 by have := HK.out.2; omega, hfin.2⟩
        · clear lx21 vx21
          have hv9 := HV.out
          obtain ⟨q, cap, e9, hq1, hq2, hq3, hq4, -, -, hq5, hq6, -⟩ := Hw21.out.turn 0 (by have := HK.out.2; omega)
          have e10 := hv9.symm.trans e9
          simp only [Value.slice.injEq] at e10
          obtain ⟨rfl, -, rfl⟩ := e10
          clear e9
          have HQ : Hid (∀ wx, DCp w wx B cc w.heap.size k v c → wx.cell? ⟨k, 4, none⟩ = some (.slice (some ⟨q, 0, none⟩) n vc) ∧ (∃ y, wx.cell? ⟨q, 0, none⟩ = some y) ∧ wx.frozen? ⟨q, 0, none⟩ = false ∧ ∀ x : Int, DCp w (wx.setCell ⟨q, 0, none⟩ (.int .i64 x)) B cc w.heap.size k v { c with ts := c.ts.set 0 x }) := by
            intro wx d
            obtain ⟨q', cap', e', -, -, -, -, k', f', -, -, hx⟩ := d.turn 0 (by have := HK.out.2; omega)
            have e2 := hv9.symm.trans e'
            simp only [Value.slice.injEq, Option.some.injEq, Addr.mk.injEq] at e2
            obtain ⟨⟨rfl, -, -⟩, -, rfl⟩ := e2
            exact ⟨by have := d.st.st.cell 4 (x := v) rfl; rw [hv9] at this; exact this, ⟨_, k'⟩, f', hx⟩
          have hn3 : n ≤ vc := by have := HK.out.2; omega
          unfold maxLen at hq4
          have k3 := (HQ.out _ Hw21.out).1
          have s3 := Hw21.out.st.st.lt
          have hcw : cc < w21.heap.size := by have := Hw21.out.cur.lt; omega
          have L3 : Hid (DCp w (w21.alloc (.cells #[.int .i64 (-1), .int .i64 1000000000, .int .i64 1000000001] 2)).drew B cc w.heap.size k v c) := (Hw21.out.alloc _).drew
          clear hq3 hv9
          have hn1' : (0 : Int) < (n : Int) := by omega
          go_wp2_with fail
          go_region_with (first
            | (go_at_call 60; refine (below_any B cc 3 _ L3.out.cur (by omega)).mono ?_; rintro e w22 ⟨i, rfl, li, ui, -, C4, G4⟩; have vi := ui (by omega); have H4 : Hid (DCp w w22 B cc w.heap.size k v c) := L3.out.draw C4 G4; obtain ⟨x, hx⟩ := lit_at (w := w21) [-1, 1000000000, 1000000001] (t := 2) (row := some cc) ⟨G4.os, G4.tape, G4.output, G4.size, G4.block⟩ (by simp; omega) i (by omega) (by simp; omega); clear ui C4 G4; obtain ⟨k4, ⟨y4, ky4⟩, f4, JX⟩ := HQ.out _ H4.out; have J4 : Hid (DCp w (w22.setCell ⟨q, 0, none⟩ (.int .i64 x)) B cc w.heap.size k v { c with ts := c.ts.set 0 x }) := JX x; clear JX H4)
            | (go_at_call 60; refine (below_any B cc 3 _ Hw21.out.drew.cur (by omega)).mono ?_; rintro e w22 ⟨i, rfl, li, ui, -, C4, G4⟩; have vi := ui (by omega); have H4 : Hid (DCp w w22 B cc w.heap.size k v c) := Hw21.out.drew.draw C4 G4; have L4 : Hid (DCp w (w22.alloc (.cells #[.int .i64 (-1), .int .i64 1000000000, .int .i64 1000000001] 2)) B cc w.heap.size k v c) := H4.out.alloc _; obtain ⟨x, hx'⟩ := lit_idx [-1, 1000000000, 1000000001] i (by omega) (by simp; omega); have hx : ∀ hh : i.toNat < ([.int .i64 (-1), .int .i64 1000000000, .int .i64 1000000001] : List Value).length, ([.int .i64 (-1), .int .i64 1000000000, .int .i64 1000000001] : List Value)[i.toNat]'hh = .int .i64 x := hx'; clear hx' ui C4 G4; obtain ⟨k4', ⟨y4', ky4'⟩, f4', JX⟩ := HQ.out _ H4.out; obtain ⟨k4, ⟨y4, ky4⟩, f4, -⟩ := HQ.out _ L4.out; have J4 : Hid (DCp w ((w22.setCell ⟨q, 0, none⟩ (.int .i64 x)).alloc (.cells #[.int .i64 (-1), .int .i64 1000000000, .int .i64 1000000001] 2)) B cc w.heap.size k v { c with ts := c.ts.set 0 x }) := (JX x).alloc _; have s4 := H4.out.st.st.lt; have q4 : q < w22.heap.size := (H4.out.st.own.lt q (by rw [HV.out]; rfl)).2; have n4 : q ≠ w22.heap.size := Nat.ne_of_lt q4; clear JX H4 L4))
          all_goals
            (skip
             have zq := J4.out.st.st
             have zz := J4.out.rs
             have zo := reads_one J4.out.st.own.reads
             go_wp2_with (first | (refine wpList_getS Try.isCp rfl _ rfl k rfl (cpA v { c with ts := c.ts.set 0 x }) rfl zq ?_) | (refine wpList_putS Try.isCp rfl _ _ rfl w.heap.size (cpA v { c with ts := c.ts.set 0 x }) zeroCp rfl rfl rfl rfl (cpA_one _ zo) zz ?_; intro we se ge))
             refine bodyPost_ret (results_S Try.isCp rfl _ _ w.heap.size _ rfl rfl se) rfl ?_
             have hfin := J4.out.fin ge
             exact ⟨v, { c with ts := c.ts.set 0 x }, rfl, hfin.1, (by simp only [List.length_set]; have := HK.out.2; omega), hfin.2⟩)
        · clear lx21 vx21
          have zq := Hw21.out.st.st
          have zz := Hw21.out.rs
          have HG : Hid (Cur w21 B cc ∧ w.grownBy w21 (some cc)) := ⟨Hw21.out.cur, Hw21.out.gr⟩
          clear Hw21
          go_upto_region 32 with (refine wpList_putS Try.isCp rfl _ _ rfl k zeroCp (cpA v c) rfl rfl rfl rfl zeroCp_one zq ?_; intro wf sf gf)
          have zf := zz.kept gf (fun e => by have := Option.some.inj e; omega)
          have HF : Hid (Cur wf B cc ∧ w.grownBy wf (some cc)) := ⟨HG.out.1.kept gf (fun e => by have := Option.some.inj e; omega) (fun y e => by cases e; omega), grown_new HG.out.2 gf hk1.2.1⟩
          clear zq zz gf HG
          go_wp2_with (first | (refine wpList_getS Try.isCp rfl _ rfl k rfl zeroCp rfl sf ?_) | (refine wpList_putS Try.isCp rfl _ _ rfl w.heap.size zeroCp zeroCp rfl rfl rfl rfl zeroCp_one zf ?_; intro we se ge))
          refine bodyPost_ret (results_S Try.isCp rfl _ _ w.heap.size _ rfl rfl se) rfl ?_
          exact ⟨.slice none 0 0, Cp.zero, rfl, Own.nil _ _, by decide, HF.out.1.kept ge (fun e => by have := Option.some.inj e; omega) (fun y e => by cases e; omega), grown_new HF.out.2 ge (Nat.le_refl _)⟩
end Go.Proofs.Ytelfpdjidppblaa
