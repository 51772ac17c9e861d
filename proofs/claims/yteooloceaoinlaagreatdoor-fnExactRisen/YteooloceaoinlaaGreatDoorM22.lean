/- The program's copiers: what is right (CopierOk), what is clean (Clean), which blocks there are. -/
import Derived.Test.YteooloceaoinlaaGreatDoorM21
import Derived.Test.YteooloceaoinlaaGreatDoorM18
import Derived.Test.YteooloceaoinlaaGreatDoorM2
import Derived.ArgAppend
import Derived.Test.YteooloceaoinlaaGreatDoorM14
import Derived.OwnWalk
namespace Go.Proofs.YteooloceaoinlaaGreatDoor
open Go.ChangeShapes Go.WideShapes Go.ChangeAt Go.RowKit

set_option maxRecDepth 20000 in
set_option maxHeartbeats 400000 in
theorem isomany_any (s : Int) (n : Nat) (w : World) :
    Calls Tryz.prog 105 #[.int .i64 s, .int .i64 n] w fun e w' => e = .returned (.bool (inI s 0 (fullI n))) ∧ w' = w := by
  have c1 := full_any n w
  have HI : Hid (inI s 0 (fullI n) = (decide (0 ≤ s) && decide (s ≤ fullI n))) := rfl
  obtain ⟨f, hf⟩ : ∃ f, f = fullI n := ⟨_, rfl⟩
  rw [← hf] at c1 HI ⊢
  obtain ⟨x, hx⟩ : ∃ x, x = inI s 0 f := ⟨_, rfl⟩
  rw [← hx] at HI ⊢
  clear hf hx
  by_cases h0 : 0 ≤ s
  · go_enter Tryz.func105, Tryz.ntmps105
    go_wp2_with fail
    refine c1.mono ?_
    rintro e w' ⟨rfl, hw⟩; subst w'
    clear c1
    go_wp2
    go_ret
    exact ⟨ret_bool (by rw [HI.out]; simp [h0]), rfl⟩
  · clear c1
    go_enter Tryz.func105, Tryz.ntmps105
    go_wp2
    go_ret
    exact ⟨ret_bool (by rw [HI.out, show decide (0 ≤ s) = false from decide_eq_false (by omega), Bool.false_and]), rfl⟩

def Cp.unused (c : Cp) : Bool := decide (c.tr = 0) && !c.op && decide (c.di = 0) && decide (c.wa = 0) && decide (c.ts.length = 0)
theorem Cp.ok_unused {c : Cp} (h : c.unused = true) : c.ok = true := by
  unfold Cp.unused at h
  unfold Cp.ok
  simp only [Bool.and_eq_true, decide_eq_true_eq] at h
  obtain ⟨⟨⟨⟨h1, h2⟩, h3⟩, h4⟩, h5⟩ := h
  rw [if_pos h1, h2]
  simp [h3, h4, h5]
theorem Cp.ok_used {c : Cp} (h : c.unused = false) : c.ok = (inI c.tr 1 100000 && (turnsI c.ts && inI c.ts.length 1 8) && inI c.di 0 (fullI c.ts.length) && inI c.wa 0 (fullI c.ts.length)) := by
  unfold Cp.ok Cp.mid
  by_cases e : c.tr = 0
  · rw [if_pos e]
    unfold Cp.unused at h
    rw [decide_eq_true e, Bool.true_and] at h
    rw [h]
    have : inI c.tr 1 100000 = false := by rw [e]; decide
    rw [this]
    rfl
  · rw [if_neg e]
    simp only [Bool.and_assoc]

set_option maxRecDepth 20000 in
set_option maxHeartbeats 1000000 in
theorem iunused_any (v : Value) (c : Cp) (w : World) (hr : Reads w v c.ts) :
    Calls Tryz.prog 76 #[CpV v c] w fun e w' => e = .returned (.bool c.unused) ∧ Below w.heap.size w w' := by
  have HE : Hid (c.unused = (decide (c.tr = 0) && !c.op && decide (c.di = 0) && decide (c.wa = 0) && decide (c.ts.length = 0))) := rfl
  obtain ⟨ao, cap, rfl⟩ := reads_form hr
  obtain ⟨x, hx⟩ : ∃ x, x = c.unused := ⟨_, rfl⟩
  rw [← hx] at HE ⊢
  obtain ⟨n, hn⟩ : ∃ n, n = c.ts.length := ⟨_, rfl⟩
  unfold CpV cpA
  rw [← hn] at HE ⊢
  clear hr hx hn
  by_cases ht : c.tr = 0
  · have e1 : (c.tr == 0) = true := by simpa using ht
    cases ho : c.op with
    | true =>
      rw [ho] at HE
      go_enter Tryz.func76, Tryz.ntmps76
      go_wp2
      go_ret
      exact ⟨ret_bool (by rw [HE.out]; simp), (Below.refl _ _).alloc (Nat.le_refl _) _⟩
    | false =>
      rw [ho] at HE
      by_cases hd : c.di = 0
      · have e2 : (c.di == 0) = true := by simpa using hd
        by_cases hw : c.wa = 0
        · have e3 : (c.wa == 0) = true := by simpa using hw
          by_cases hn0 : (n : Int) = 0
          · have e4 : ((n : Int) == 0) = true := by simpa using hn0
            go_enter Tryz.func76, Tryz.ntmps76
            go_wp2
            go_ret
            exact ⟨ret_bool (by rw [HE.out]; simp [ht, hd, hw, (by omega : n = 0)]), (Below.refl _ _).alloc (Nat.le_refl _) _⟩
          · have e4 : ((n : Int) == 0) = false := by simpa using hn0
            go_enter Tryz.func76, Tryz.ntmps76
            go_wp2
            go_ret
            exact ⟨ret_bool (by rw [HE.out, show decide (n = 0) = false from decide_eq_false (by omega), Bool.and_false]), (Below.refl _ _).alloc (Nat.le_refl _) _⟩
        · have e3 : (c.wa == 0) = false := by simpa using hw
          go_enter Tryz.func76, Tryz.ntmps76
          go_wp2
          go_ret
          exact ⟨ret_bool (by rw [HE.out]; simp [hw]), (Below.refl _ _).alloc (Nat.le_refl _) _⟩
      · have e2 : (c.di == 0) = false := by simpa using hd
        go_enter Tryz.func76, Tryz.ntmps76
        go_wp2
        go_ret
        exact ⟨ret_bool (by rw [HE.out]; simp [hd]), (Below.refl _ _).alloc (Nat.le_refl _) _⟩
  · have e1 : (c.tr == 0) = false := by simpa using ht
    go_enter Tryz.func76, Tryz.ntmps76
    go_wp2
    go_ret
    exact ⟨ret_bool (by rw [HE.out]; simp [ht]), (Below.refl _ _).alloc (Nat.le_refl _) _⟩

set_option maxRecDepth 20000 in
set_option maxHeartbeats 2000000 in
theorem icopok_any (v : Value) (c : Cp) (w : World) (hr : Reads w v c.ts) (hl : c.ts.length ≤ 1099511627776) :
    Calls Tryz.prog 77 #[CpV v c] w fun e w' => e = .returned (.bool c.ok) ∧ Below w.heap.size w w' := by
  have HU : Hid (c.unused = true → c.ok = true) := Cp.ok_unused
  have HE : Hid (c.unused = false → c.ok = (inI c.tr 1 100000 && (turnsI c.ts && inI c.ts.length 1 8) && inI c.di 0 (fullI c.ts.length) && inI c.wa 0 (fullI c.ts.length))) := Cp.ok_used
  obtain ⟨w1, hw1⟩ : ∃ w1, w1 = w.alloc (.cells (cpA v c) 40) := ⟨_, rfl⟩
  have H1 : StB w1 w.heap.size 40 (cpA v c) := by rw [hw1]; exact StB.new _ _ _
  have B1 : Below w.heap.size w w1 := by rw [hw1]; exact (Below.refl _ _).alloc (Nat.le_refl _) _
  have cu := iunused_any v c w1 (hr.below B1 (Nat.le_refl _))
  have HR : Hid (∀ w2, Below w1.heap.size w1 w2 → Reads w2 v c.ts) := fun w2 b => (hr.below B1 (Nat.le_refl _)).below b (Nat.le_refl _)
  have HS : Hid (∀ w2, Below w1.heap.size w1 w2 → StB w2 w.heap.size 40 (cpA v c) ∧ Below w.heap.size w w2) := fun w2 b => ⟨H1.below b, B1.trans (b.mono B1.size)⟩
  obtain ⟨ao, cap, rfl⟩ := reads_form hr
  have HW : Hid (w1 = w.alloc (.cells #[.int .i64 c.tr, .bool c.op, .int .i64 c.di, .int .i64 c.wa, .slice ao c.ts.length cap] 40)) := hw1
  have k0 : w1.cell? ⟨w.heap.size, 0, none⟩ = some (.int .i64 c.tr) := H1.cell 0 rfl
  have k1 : w1.cell? ⟨w.heap.size, 1, none⟩ = some (.bool c.op) := H1.cell 1 rfl
  have k2 : w1.cell? ⟨w.heap.size, 2, none⟩ = some (.int .i64 c.di) := H1.cell 2 rfl
  have k3 : w1.cell? ⟨w.heap.size, 3, none⟩ = some (.int .i64 c.wa) := H1.cell 3 rfl
  have k4 : w1.cell? ⟨w.heap.size, 4, none⟩ = some (.slice ao c.ts.length cap) := H1.cell 4 rfl
  have ct := fun wx => itry_any c.tr wx
  have cs := fun wx h => iturns_any (.slice ao c.ts.length cap) c.ts wx h hl
  have cd := fun wx => isomany_any c.di c.ts.length wx
  have cw := fun wx => isomany_any c.wa c.ts.length wx
  obtain ⟨x, hx⟩ : ∃ x, x = c.ok := ⟨_, rfl⟩
  rw [← hx] at HE HU ⊢
  obtain ⟨bu, hbu⟩ : ∃ bu, bu = c.unused := ⟨_, rfl⟩
  rw [← hbu] at HE HU cu
  obtain ⟨bt, hbt⟩ : ∃ bt, bt = inI c.tr 1 100000 := ⟨_, rfl⟩
  rw [← hbt] at HE
  simp only [← hbt] at ct
  obtain ⟨bs, hbs⟩ : ∃ bs, bs = (turnsI c.ts && inI c.ts.length 1 8) := ⟨_, rfl⟩
  rw [← hbs] at HE
  simp only [← hbs] at cs
  obtain ⟨bd, hbd⟩ : ∃ bd, bd = inI c.di 0 (fullI c.ts.length) := ⟨_, rfl⟩
  rw [← hbd] at HE
  simp only [← hbd] at cd
  obtain ⟨bw, hbw⟩ : ∃ bw, bw = inI c.wa 0 (fullI c.ts.length) := ⟨_, rfl⟩
  rw [← hbw] at HE
  simp only [← hbw] at cw
  have HCS : Hid _ := cs
  unfold CpV cpA at cu ⊢
  clear hw1 H1 hr hx hbu hbt hbs hbd hbw B1 cs
  go_enter Tryz.func77, Tryz.ntmps77
  go_wp2_with fail
  rw [← HW.out]
  refine cu.mono ?_
  rintro e w2 ⟨rfl, b2⟩
  clear HW cu k0 k1 k2 k3 k4
  have HB : Hid (Below w.heap.size w w2) := (HS.out w2 b2).2
  have H2 := (HS.out w2 b2).1
  have cs := HCS.out w2 (HR.out w2 b2)
  have k0 : w2.cell? ⟨w.heap.size, 0, none⟩ = some (.int .i64 c.tr) := H2.cell 0 rfl
  have k2 : w2.cell? ⟨w.heap.size, 2, none⟩ = some (.int .i64 c.di) := H2.cell 2 rfl
  have k3 : w2.cell? ⟨w.heap.size, 3, none⟩ = some (.int .i64 c.wa) := H2.cell 3 rfl
  have k4 : w2.cell? ⟨w.heap.size, 4, none⟩ = some (.slice ao c.ts.length cap) := H2.cell 4 rfl
  clear HCS HS HR H2 b2
  cases bu with
  | true =>
    have HX : Hid (x = true) := HU.out rfl
    clear HU HE
    go_wp2
    go_ret
    exact ⟨ret_bool (by rw [HX.out]), HB.out⟩
  | false =>
    have HX : Hid (x = (bt && bs && bd && bw)) := HE.out rfl
    clear HU HE
    go_wp2_with fail
    refine (ct _).mono ?_
    rintro e w' ⟨rfl, hw⟩; subst w'
    clear ct
    cases bt with
    | false =>
      go_wp2
      go_ret
      exact ⟨ret_bool (by rw [HX.out]; rfl), HB.out⟩
    | true =>
      go_wp2_with fail
      refine cs.mono ?_
      rintro e w' ⟨rfl, hw⟩; subst w'
      clear cs
      cases bs with
      | false =>
        go_wp2
        go_ret
        exact ⟨ret_bool (by rw [HX.out]; rfl), HB.out⟩
      | true =>
        go_wp2_with fail
        refine (cd _).mono ?_
        rintro e w' ⟨rfl, hw⟩; subst w'
        clear cd
        cases bd with
        | false =>
          go_wp2
          go_ret
          exact ⟨ret_bool (by rw [HX.out]; rfl), HB.out⟩
        | true =>
          go_wp2_with fail
          refine (cw _).mono ?_
          rintro e w' ⟨rfl, hw⟩; subst w'
          clear cw
          go_wp2
          go_ret
          exact ⟨ret_bool (by rw [HX.out]; rfl), HB.out⟩
end Go.Proofs.YteooloceaoinlaaGreatDoor
/- The program's copy of a list (fresh). -/
namespace Go.Proofs.YteooloceaoinlaaGreatDoor
open Go.ChangeShapes Go.WideShapes Go.ChangeAt Go.RowKit

set_option maxRecDepth 20000 in
set_option maxHeartbeats 1000000 in
theorem ifresh1_any (v : Value) (xs : List Int) (w : World) (h : Reads w v xs) (h1 : 1 ≤ xs.length) (hbig : xs.length ≤ 1099511627776) :
    Calls Tryz.prog 111 #[v] w fun e w' => ∃ u, e = .returned u ∧ Own w' w.heap.size u xs ∧ Below w.heap.size w w' := by
  obtain ⟨i0, hi, hz0, hz1, hz2⟩ := info_parts Tryz.infoI
  obtain ⟨ao, cap, rfl, hl, hm, hc⟩ := h
  obtain ⟨b, off, hab, hcell⟩ : ∃ b off, ao = some ⟨b, off, none⟩ ∧ ∀ j, j < xs.length → w.cell? ⟨b, off + j, none⟩ = some (.int .i64 (xs.getD j 0)) := by
    rcases hc with e | h
    · subst e; simp at h1
    · exact h
  subst hab
  have hnews : ∀ j u, (xs.map (Value.int .i64))[j]? = some u → w.cell? ((⟨b, off, none⟩ : Addr).add j) = some u := by
    intro j u hj
    have hlt : j < xs.length := by
      rcases Nat.lt_or_ge j xs.length with h | h
      · exact h
      · rw [List.getElem?_eq_none (by simpa using h)] at hj; cases hj
    rw [show (⟨b, off, none⟩ : Addr).add j = ⟨b, off + j, none⟩ by unfold Addr.add; split <;> simp_all]
    rw [hcell j hlt]
    simp [List.getD, hlt] at hj ⊢
    exact hj
  have hone : ∀ u ∈ xs.map (Value.int .i64), u.oneCell' = true := by
    intro u hu
    obtain ⟨x, _, rfl⟩ := List.mem_map.1 hu
    rfl
  obtain ⟨hm1, -⟩ := hm
  unfold maxLen at hm1
  obtain ⟨n, hn⟩ : ∃ n, n = xs.length := ⟨_, rfl⟩
  have hll : (xs.map (Value.int .i64)).length = n * 1 := by simp [hn]
  rw [← hn] at hbig hl h1 ⊢
  have HN : Hid (n = xs.length) := hn
  clear hn hc hcell
  go_enter Tryz.func111, Tryz.ntmps111
  go_wp2_with (at_builtin; refine wpList_append_grows _ rfl _ _ 22 rfl 2 i0 (.int .i64 0) 1 8 Tryz.underlying22 hi hz0 hz1 hz2 rfl (by decide) (some ⟨b, off, none⟩) 0 0 [] rfl (by intro e; cases e) (by simp) (by intro b' _ j u hj; simp at hj) ⟨b, off, none⟩ n cap (xs.map (Value.int .i64)) rfl hll hnews hone (by omega) (by unfold maxLen; omega) (by omega) ?_)
  intro v' w1 hown hgrow
  go_wp2_with fail
  go_ret
  refine ⟨_, rfl, ?_, (Below.refl w.heap.size w).grown hgrow (Nat.le_refl _) (fun k e => by cases e)⟩
  unfold Own
  rw [← HN.out]
  exact hown

set_option maxRecDepth 20000 in
set_option maxHeartbeats 1000000 in
theorem ifresh0_any (v : Value) (w : World) (h : Reads w v []) :
    Calls Tryz.prog 111 #[v] w fun e w' => ∃ u, e = .returned u ∧ Mine w' w.heap.size u [] ∧ Below w.heap.size w w' := by
  obtain ⟨ao, cap, rfl, hl, ⟨hm, hz⟩, -⟩ := h
  unfold maxLen at hm
  simp only [List.length_nil] at hl ⊢
  rcases ao with _ | ad
  · have e0 : cap = 0 := hz rfl
    subst e0
    clear hz hm hl
    go_enter Tryz.func111, Tryz.ntmps111
    go_wp2
    go_ret
    exact ⟨_, rfl, .inr ⟨rfl, _, _, rfl, Nat.zero_le _, fun _ => rfl⟩, Below.refl _ _⟩
  · clear hz
    go_enter Tryz.func111, Tryz.ntmps111
    go_wp2
    go_ret
    exact ⟨_, rfl, .inr ⟨rfl, _, _, rfl, Nat.zero_le _, fun _ => rfl⟩, Below.refl _ _⟩

theorem ifresh_any (v : Value) (xs : List Int) (w : World) (h : Reads w v xs) (hbig : xs.length ≤ 1099511627776) :
    Calls Tryz.prog 111 #[v] w fun e w' => ∃ u, e = .returned u ∧ Mine w' w.heap.size u xs ∧ Below w.heap.size w w' := by
  by_cases h1 : 1 ≤ xs.length
  · refine (ifresh1_any v xs w h h1 hbig).mono ?_
    rintro e w' ⟨u, rfl, o, b⟩
    exact ⟨u, rfl, .inl o, b⟩
  · have e0 : xs = [] := List.eq_nil_of_length_eq_zero (by omega)
    subst e0
    exact ifresh0_any v w h
end Go.Proofs.YteooloceaoinlaaGreatDoor
/- What stands while a sink is answered. -/
namespace Go.Proofs.YteooloceaoinlaaGreatDoor
open Go.ChangeShapes Go.WideShapes Go.ChangeAt Go.RowKit

/- What stands while one of them is made: the one that was given (c), the answer's place, the one that will be answered (d, in block g). -/
structure SoS (w wx : World) (g : Nat) (v u : Value) (c d : Sn) : Prop where
  p : StB wx w.heap.size 41 (snA v c)
  q : StB wx (w.heap.size + 1) 41 zeroSn
  r : StB wx g 41 (snA u d)
  o : Mine wx w.heap.size u d.ts
  b : Below w.heap.size w wx
  l : w.heap.size + 1 < g
theorem SoS.start {w w2 w3 : World} {v u : Value} {c : Sn} (hp : StB w2 w.heap.size 41 (snA v c)) (hq : StB w2 (w.heap.size + 1) 41 zeroSn) (hb : Below w.heap.size w w2) (hs : w.heap.size + 1 < w2.heap.size) (o3 : Mine w3 w2.heap.size u c.ts) (b3 : Below w2.heap.size w2 w3) : SoS w (w3.alloc (.cells (snA u c) 41)) w3.heap.size v u c c := by
  have b4 : Below w3.heap.size w3 (w3.alloc (.cells (snA u c) 41)) := (Below.refl _ _).alloc (Nat.le_refl _) _
  exact ⟨(hp.below b3).below b4, (hq.below b3).below b4, StB.new _ _ _, (o3.below b4).mono (by omega), (hb.trans (b3.mono hb.size)).trans (b4.mono (Nat.le_trans hb.size b3.size)), Nat.lt_of_lt_of_le hs b3.size⟩
theorem SoS.below {w wx wy : World} {g : Nat} {v u : Value} {c d : Sn} (h : SoS w wx g v u c d) (b : Below wx.heap.size wx wy) : SoS w wy g v u c d :=
  ⟨h.p.below b, h.q.below b, h.r.below b, h.o.below b, h.b.trans (b.mono h.b.size), h.l⟩
/- A cell of the one that will be answered is written. -/
theorem SoS.put {w wx : World} {g : Nat} {v u : Value} {c d e : Sn} (h : SoS w wx g v u c d) (j : Nat) (x : Value) (he : (snA u d).setIfInBounds j x = snA u e) (ht : e.ts = d.ts) : SoS w (wx.setCell ⟨g, j, none⟩ x) g v u c e :=
  ⟨h.p.other _ _ (by have := h.l; show w.heap.size ≠ g; omega), h.q.other _ _ (by have := h.l; show w.heap.size + 1 ≠ g; omega), h.r.put j x he, by rw [ht]; exact h.o.set h.r (by decide) x, h.b.setCell (by have := h.l; show w.heap.size ≤ g; omega) _, h.l⟩
theorem SoS.fin {w wx wy : World} {g : Nat} {v u : Value} {c d : Sn} (h : SoS w wx g v u c d) (G : wx.grownBy wy (some (w.heap.size + 1))) : Mine wy w.heap.size u d.ts ∧ Below w.heap.size w wy :=
  ⟨h.o.putBy h.q (by decide) G, h.b.grown G h.b.size (fun k e => by cases e; omega)⟩
/- The one that will be answered has a list of its own, and that is written. -/
theorem SoS.row {w wx : World} {g r n cap : Nat} {v : Value} {c d : Sn} {j : Nat} {x : Int} (h : SoS w wx g v (.slice (some ⟨r, 0, none⟩) n cap) c d) (o : Own wx w.heap.size (.slice (some ⟨r, 0, none⟩) n cap) d.ts) (O : Own (wx.setCell ⟨r, j, none⟩ (.int .i64 x)) w.heap.size (.slice (some ⟨r, 0, none⟩) n cap) (d.ts.set j x)) : SoS w (wx.setCell ⟨r, j, none⟩ (.int .i64 x)) g v (.slice (some ⟨r, 0, none⟩) n cap) c { d with ts := d.ts.set j x } := by
  have hne : ∀ (k : Nat) (cs : Array Value), StB wx k 41 cs → k ≠ r := fun k cs hk e => o.ne hk (by decide) (by rw [e]; rfl)
  exact ⟨h.p.other _ _ (hne _ _ h.p), h.q.other _ _ (hne _ _ h.q), h.r.other _ _ (hne _ _ h.r), .inl O, h.b.setCell (o.lt r rfl).1 _, h.l⟩
theorem SoS.cells {w wx : World} {g : Nat} {v u : Value} {c d : Sn} (h : SoS w wx g v u c d) (j : Nat) {x : Value} (e : (snA u d)[j]? = some x) : wx.cell? ⟨g, j, none⟩ = some x ∧ wx.frozen? ⟨g, j, none⟩ = false := ⟨h.r.cell j e, h.r.frozen j⟩

end Go.Proofs.YteooloceaoinlaaGreatDoor
/- Sinks by the model: NewSink, Received. -/
namespace Go.Proofs.YteooloceaoinlaaGreatDoor
open Go.ChangeShapes Go.WideShapes Go.ChangeAt Go.RowKit

theorem made_own0 {w w1 w2 : World} {v : Value} {k : Nat} (hlt : w.heap.size < w1.heap.size) (o2 : w2.ownsRow w1.heap.size 2 1 v k ((List.replicate k (0 : Int)).map (Value.int .i64))) : Own w2 (w.heap.size + 1) v (List.replicate k 0) := by
  have : Own w2 w1.heap.size v (List.replicate k 0) := by unfold Own; simpa using o2
  exact this.mono hlt
end Go.Proofs.YteooloceaoinlaaGreatDoor
/- The program's row of turns: what is there, what is newer, one that is put in. -/
namespace Go.Proofs.YteooloceaoinlaaGreatDoor
open Go.ChangeShapes Go.WideShapes Go.ChangeAt Go.RowKit

end Go.Proofs.YteooloceaoinlaaGreatDoor
