/- The program's copiers: what is right (CopierOk), what is clean (Clean), which blocks there are. -/
import Derived.Test.YtkenbanaodbooaaGreatDoorM29
import Derived.Test.YtkenbanaodbooaaGreatDoorM18
import Derived.Test.YtkenbanaodbooaaGreatDoorM14
import Derived.OwnWalk
import Derived.Test.YtkenbanaodbooaaGreatDoorM23
import Derived.Test.YtkenbanaodbooaaGreatDoorM13
import Derived.Test.YtkenbanaodbooaaGreatDoorM1
namespace Go.Proofs.YtkenbanaodbooaaGreatDoor
open Go.ChangeShapes Go.WideShapes Go.ChangeAt Go.RowKit

set_option maxRecDepth 20000 in
set_option maxHeartbeats 400000 in
theorem isomany_any (s : Int) (n : Nat) (w : World) :
    Calls Tryz.prog 122 #[.int .i64 s, .int .i64 n] w fun e w' => e = .returned (.bool (inI s 0 (fullI n))) ∧ w' = w := by
  have c1 := full_any n w
  have HI : Hid (inI s 0 (fullI n) = (decide (0 ≤ s) && decide (s ≤ fullI n))) := rfl
  obtain ⟨f, hf⟩ : ∃ f, f = fullI n := ⟨_, rfl⟩
  rw [← hf] at c1 HI ⊢
  obtain ⟨x, hx⟩ : ∃ x, x = inI s 0 f := ⟨_, rfl⟩
  rw [← hx] at HI ⊢
  clear hf hx
  by_cases h0 : 0 ≤ s
  · go_enter Tryz.func122, Tryz.ntmps122
    go_wp2_with fail
    refine c1.mono ?_
    rintro e w' ⟨rfl, hw⟩; subst w'
    clear c1
    go_wp2
    go_ret
    exact ⟨ret_bool (by rw [HI.out]; simp [h0]), rfl⟩
  · clear c1
    go_enter Tryz.func122, Tryz.ntmps122
    go_wp2
    go_ret
    exact ⟨ret_bool (by rw [HI.out, show decide (0 ≤ s) = false from decide_eq_false (by omega), Bool.false_and]), rfl⟩

def Cp.unused (c : Cp) : Bool := decide (c.tr = 0) && !c.op && decide (c.di = 0) && decide (c.wa = 0) && decide (c.ts.length = 0)
theorem Cp.ok_unused {c : Cp} (h : c.unused = true) : c.ok = true := by
  unfold Cp.unused at h
  unfold Cp.ok
  simp only [Bool.and_eq_true, decide_eq_true_eq] at h
  obtain ⟨⟨⟨⟨h1, h2⟩, h3⟩, h4⟩, h5⟩ := h
  rw [if_pos h1, h2]
  simp [h3, h4, h5]
theorem Cp.ok_used {c : Cp} (h : c.unused = false) : c.ok = (inI c.tr 1 100000 && (turnsI c.ts && inI c.ts.length 1 8) && inI c.di 0 (fullI c.ts.length) && inI c.wa 0 (fullI c.ts.length)) := by
  unfold Cp.ok Cp.mid
  by_cases e : c.tr = 0
  · rw [if_pos e]
    unfold Cp.unused at h
    rw [decide_eq_true e, Bool.true_and] at h
    rw [h]
    have : inI c.tr 1 100000 = false := by rw [e]; decide
    rw [this]
    rfl
  · rw [if_neg e]
    simp only [Bool.and_assoc]

set_option maxRecDepth 20000 in
set_option maxHeartbeats 1000000 in
theorem iunused_any (v : Value) (c : Cp) (w : World) (hr : Reads w v c.ts) :
    Calls Tryz.prog 103 #[CpV v c] w fun e w' => e = .returned (.bool c.unused) ∧ Below w.heap.size w w' := by
  have HE : Hid (c.unused = (decide (c.tr = 0) && !c.op && decide (c.di = 0) && decide (c.wa = 0) && decide (c.ts.length = 0))) := rfl
  obtain ⟨ao, cap, rfl⟩ := reads_form hr
  obtain ⟨x, hx⟩ : ∃ x, x = c.unused := ⟨_, rfl⟩
  rw [← hx] at HE ⊢
  obtain ⟨n, hn⟩ : ∃ n, n = c.ts.length := ⟨_, rfl⟩
  unfold CpV cpA
  rw [← hn] at HE ⊢
  clear hr hx hn
  by_cases ht : c.tr = 0
  · have e1 : (c.tr == 0) = true := by simpa using ht
    cases ho : c.op with
    | true =>
      rw [ho] at HE
      go_enter Tryz.func103, Tryz.ntmps103
      go_wp2
      go_ret
      exact ⟨ret_bool (by rw [HE.out]; simp), (Below.refl _ _).alloc (Nat.le_refl _) _⟩
    | false =>
      rw [ho] at HE
      by_cases hd : c.di = 0
      · have e2 : (c.di == 0) = true := by simpa using hd
        by_cases hw : c.wa = 0
        · have e3 : (c.wa == 0) = true := by simpa using hw
          by_cases hn0 : (n : Int) = 0
          · have e4 : ((n : Int) == 0) = true := by simpa using hn0
            go_enter Tryz.func103, Tryz.ntmps103
            go_wp2
            go_ret
            exact ⟨ret_bool (by rw [HE.out]; simp [ht, hd, hw, (by omega : n = 0)]), (Below.refl _ _).alloc (Nat.le_refl _) _⟩
          · have e4 : ((n : Int) == 0) = false := by simpa using hn0
            go_enter Tryz.func103, Tryz.ntmps103
            go_wp2
            go_ret
            exact ⟨ret_bool (by rw [HE.out, show decide (n = 0) = false from decide_eq_false (by omega), Bool.and_false]), (Below.refl _ _).alloc (Nat.le_refl _) _⟩
        · have e3 : (c.wa == 0) = false := by simpa using hw
          go_enter Tryz.func103, Tryz.ntmps103
          go_wp2
          go_ret
          exact ⟨ret_bool (by rw [HE.out]; simp [hw]), (Below.refl _ _).alloc (Nat.le_refl _) _⟩
      · have e2 : (c.di == 0) = false := by simpa using hd
        go_enter Tryz.func103, Tryz.ntmps103
        go_wp2
        go_ret
        exact ⟨ret_bool (by rw [HE.out]; simp [hd]), (Below.refl _ _).alloc (Nat.le_refl _) _⟩
  · have e1 : (c.tr == 0) = false := by simpa using ht
    go_enter Tryz.func103, Tryz.ntmps103
    go_wp2
    go_ret
    exact ⟨ret_bool (by rw [HE.out]; simp [ht]), (Below.refl _ _).alloc (Nat.le_refl _) _⟩

set_option maxRecDepth 20000 in
set_option maxHeartbeats 2000000 in
theorem icopok_any (v : Value) (c : Cp) (w : World) (hr : Reads w v c.ts) (hl : c.ts.length ≤ 1099511627776) :
    Calls Tryz.prog 104 #[CpV v c] w fun e w' => e = .returned (.bool c.ok) ∧ Below w.heap.size w w' := by
  have HU : Hid (c.unused = true → c.ok = true) := Cp.ok_unused
  have HE : Hid (c.unused = false → c.ok = (inI c.tr 1 100000 && (turnsI c.ts && inI c.ts.length 1 8) && inI c.di 0 (fullI c.ts.length) && inI c.wa 0 (fullI c.ts.length))) := Cp.ok_used
  obtain ⟨w1, hw1⟩ : ∃ w1, w1 = w.alloc (.cells (cpA v c) 50) := ⟨_, rfl⟩
  have H1 : StB w1 w.heap.size 50 (cpA v c) := by rw [hw1]; exact StB.new _ _ _
  have B1 : Below w.heap.size w w1 := by rw [hw1]; exact (Below.refl _ _).alloc (Nat.le_refl _) _
  have cu := iunused_any v c w1 (hr.below B1 (Nat.le_refl _))
  have HR : Hid (∀ w2, Below w1.heap.size w1 w2 → Reads w2 v c.ts) := fun w2 b => (hr.below B1 (Nat.le_refl _)).below b (Nat.le_refl _)
  have HS : Hid (∀ w2, Below w1.heap.size w1 w2 → StB w2 w.heap.size 50 (cpA v c) ∧ Below w.heap.size w w2) := fun w2 b => ⟨H1.below b, B1.trans (b.mono B1.size)⟩
  obtain ⟨ao, cap, rfl⟩ := reads_form hr
  have HW : Hid (w1 = w.alloc (.cells #[.int .i64 c.tr, .bool c.op, .int .i64 c.di, .int .i64 c.wa, .slice ao c.ts.length cap] 50)) := hw1
  have k0 : w1.cell? ⟨w.heap.size, 0, none⟩ = some (.int .i64 c.tr) := H1.cell 0 rfl
  have k1 : w1.cell? ⟨w.heap.size, 1, none⟩ = some (.bool c.op) := H1.cell 1 rfl
  have k2 : w1.cell? ⟨w.heap.size, 2, none⟩ = some (.int .i64 c.di) := H1.cell 2 rfl
  have k3 : w1.cell? ⟨w.heap.size, 3, none⟩ = some (.int .i64 c.wa) := H1.cell 3 rfl
  have k4 : w1.cell? ⟨w.heap.size, 4, none⟩ = some (.slice ao c.ts.length cap) := H1.cell 4 rfl
  have ct := fun wx => itry_any c.tr wx
  have cs := fun wx h => iturns_any (.slice ao c.ts.length cap) c.ts wx h hl
  have cd := fun wx => isomany_any c.di c.ts.length wx
  have cw := fun wx => isomany_any c.wa c.ts.length wx
  obtain ⟨x, hx⟩ : ∃ x, x = c.ok := ⟨_, rfl⟩
  rw [← hx] at HE HU ⊢
  obtain ⟨bu, hbu⟩ : ∃ bu, bu = c.unused := ⟨_, rfl⟩
  rw [← hbu] at HE HU cu
  obtain ⟨bt, hbt⟩ : ∃ bt, bt = inI c.tr 1 100000 := ⟨_, rfl⟩
  rw [← hbt] at HE
  simp only [← hbt] at ct
  obtain ⟨bs, hbs⟩ : ∃ bs, bs = (turnsI c.ts && inI c.ts.length 1 8) := ⟨_, rfl⟩
  rw [← hbs] at HE
  simp only [← hbs] at cs
  obtain ⟨bd, hbd⟩ : ∃ bd, bd = inI c.di 0 (fullI c.ts.length) := ⟨_, rfl⟩
  rw [← hbd] at HE
  simp only [← hbd] at cd
  obtain ⟨bw, hbw⟩ : ∃ bw, bw = inI c.wa 0 (fullI c.ts.length) := ⟨_, rfl⟩
  rw [← hbw] at HE
  simp only [← hbw] at cw
  have HCS : Hid _ := cs
  unfold CpV cpA at cu ⊢
  clear hw1 H1 hr hx hbu hbt hbs hbd hbw B1 cs
  go_enter Tryz.func104, Tryz.ntmps104
  go_wp2_with fail
  rw [← HW.out]
  refine cu.mono ?_
  rintro e w2 ⟨rfl, b2⟩
  clear HW cu k0 k1 k2 k3 k4
  have HB : Hid (Below w.heap.size w w2) := (HS.out w2 b2).2
  have H2 := (HS.out w2 b2).1
  have cs := HCS.out w2 (HR.out w2 b2)
  have k0 : w2.cell? ⟨w.heap.size, 0, none⟩ = some (.int .i64 c.tr) := H2.cell 0 rfl
  have k2 : w2.cell? ⟨w.heap.size, 2, none⟩ = some (.int .i64 c.di) := H2.cell 2 rfl
  have k3 : w2.cell? ⟨w.heap.size, 3, none⟩ = some (.int .i64 c.wa) := H2.cell 3 rfl
  have k4 : w2.cell? ⟨w.heap.size, 4, none⟩ = some (.slice ao c.ts.length cap) := H2.cell 4 rfl
  clear HCS HS HR H2 b2
  cases bu with
  | true =>
    have HX : Hid (x = true) := HU.out rfl
    clear HU HE
    go_wp2
    go_ret
    exact ⟨ret_bool (by rw [HX.out]), HB.out⟩
  | false =>
    have HX : Hid (x = (bt && bs && bd && bw)) := HE.out rfl
    clear HU HE
    go_wp2_with fail
    refine (ct _).mono ?_
    rintro e w' ⟨rfl, hw⟩; subst w'
    clear ct
    cases bt with
    | false =>
      go_wp2
      go_ret
      exact ⟨ret_bool (by rw [HX.out]; rfl), HB.out⟩
    | true =>
      go_wp2_with fail
      refine cs.mono ?_
      rintro e w' ⟨rfl, hw⟩; subst w'
      clear cs
      cases bs with
      | false =>
        go_wp2
        go_ret
        exact ⟨ret_bool (by rw [HX.out]; rfl), HB.out⟩
      | true =>
        go_wp2_with fail
        refine (cd _).mono ?_
        rintro e w' ⟨rfl, hw⟩; subst w'
        clear cd
        cases bd with
        | false =>
          go_wp2
          go_ret
          exact ⟨ret_bool (by rw [HX.out]; rfl), HB.out⟩
        | true =>
          go_wp2_with fail
          refine (cw _).mono ?_
          rintro e w' ⟨rfl, hw⟩; subst w'
          clear cw
          go_wp2
          go_ret
          exact ⟨ret_bool (by rw [HX.out]; rfl), HB.out⟩
end Go.Proofs.YtkenbanaodbooaaGreatDoor
/- What stands while a sink is answered. -/
namespace Go.Proofs.YtkenbanaodbooaaGreatDoor
open Go.ChangeShapes Go.WideShapes Go.ChangeAt Go.RowKit

/- What stands while one of them is made: the one that was given (c), the answer's place, the one that will be answered (d, in block g). -/
structure SoS (w wx : World) (g : Nat) (v u : Value) (c d : Sn) : Prop where
  p : StB wx w.heap.size 52 (snA v c)
  q : StB wx (w.heap.size + 1) 52 zeroSn
  r : StB wx g 52 (snA u d)
  o : Mine wx w.heap.size u d.ts
  b : Below w.heap.size w wx
  l : w.heap.size + 1 < g
theorem SoS.start {w w2 w3 : World} {v u : Value} {c : Sn} (hp : StB w2 w.heap.size 52 (snA v c)) (hq : StB w2 (w.heap.size + 1) 52 zeroSn) (hb : Below w.heap.size w w2) (hs : w.heap.size + 1 < w2.heap.size) (o3 : Mine w3 w2.heap.size u c.ts) (b3 : Below w2.heap.size w2 w3) : SoS w (w3.alloc (.cells (snA u c) 52)) w3.heap.size v u c c := by
  have b4 : Below w3.heap.size w3 (w3.alloc (.cells (snA u c) 52)) := (Below.refl _ _).alloc (Nat.le_refl _) _
  exact ⟨(hp.below b3).below b4, (hq.below b3).below b4, StB.new _ _ _, (o3.below b4).mono (by omega), (hb.trans (b3.mono hb.size)).trans (b4.mono (Nat.le_trans hb.size b3.size)), Nat.lt_of_lt_of_le hs b3.size⟩
theorem SoS.below {w wx wy : World} {g : Nat} {v u : Value} {c d : Sn} (h : SoS w wx g v u c d) (b : Below wx.heap.size wx wy) : SoS w wy g v u c d :=
  ⟨h.p.below b, h.q.below b, h.r.below b, h.o.below b, h.b.trans (b.mono h.b.size), h.l⟩
/- A cell of the one that will be answered is written. -/
theorem SoS.put {w wx : World} {g : Nat} {v u : Value} {c d e : Sn} (h : SoS w wx g v u c d) (j : Nat) (x : Value) (he : (snA u d).setIfInBounds j x = snA u e) (ht : e.ts = d.ts) : SoS w (wx.setCell ⟨g, j, none⟩ x) g v u c e :=
  ⟨h.p.other _ _ (by have := h.l; show w.heap.size ≠ g; omega), h.q.other _ _ (by have := h.l; show w.heap.size + 1 ≠ g; omega), h.r.put j x he, by rw [ht]; exact h.o.set h.r (by decide) x, h.b.setCell (by have := h.l; show w.heap.size ≤ g; omega) _, h.l⟩
theorem SoS.fin {w wx wy : World} {g : Nat} {v u : Value} {c d : Sn} (h : SoS w wx g v u c d) (G : wx.grownBy wy (some (w.heap.size + 1))) : Mine wy w.heap.size u d.ts ∧ Below w.heap.size w wy :=
  ⟨h.o.putBy h.q (by decide) G, h.b.grown G h.b.size (fun k e => by cases e; omega)⟩
/- The one that will be answered has a list of its own, and that is written. -/
theorem SoS.row {w wx : World} {g r n cap : Nat} {v : Value} {c d : Sn} {j : Nat} {x : Int} (h : SoS w wx g v (.slice (some ⟨r, 0, none⟩) n cap) c d) (o : Own wx w.heap.size (.slice (some ⟨r, 0, none⟩) n cap) d.ts) (O : Own (wx.setCell ⟨r, j, none⟩ (.int .i64 x)) w.heap.size (.slice (some ⟨r, 0, none⟩) n cap) (d.ts.set j x)) : SoS w (wx.setCell ⟨r, j, none⟩ (.int .i64 x)) g v (.slice (some ⟨r, 0, none⟩) n cap) c { d with ts := d.ts.set j x } := by
  have hne : ∀ (k : Nat) (cs : Array Value), StB wx k 52 cs → k ≠ r := fun k cs hk e => o.ne hk (by decide) (by rw [e]; rfl)
  exact ⟨h.p.other _ _ (hne _ _ h.p), h.q.other _ _ (hne _ _ h.q), h.r.other _ _ (hne _ _ h.r), .inl O, h.b.setCell (o.lt r rfl).1 _, h.l⟩
theorem SoS.cells {w wx : World} {g : Nat} {v u : Value} {c d : Sn} (h : SoS w wx g v u c d) (j : Nat) {x : Value} (e : (snA u d)[j]? = some x) : wx.cell? ⟨g, j, none⟩ = some x ∧ wx.frozen? ⟨g, j, none⟩ = false := ⟨h.r.cell j e, h.r.frozen j⟩

end Go.Proofs.YtkenbanaodbooaaGreatDoor
/- Sinks by the model: NewSink, Received. -/
namespace Go.Proofs.YtkenbanaodbooaaGreatDoor
open Go.ChangeShapes Go.WideShapes Go.ChangeAt Go.RowKit

theorem made_own0 {w w1 w2 : World} {v : Value} {k : Nat} (hlt : w.heap.size < w1.heap.size) (o2 : w2.ownsRow w1.heap.size 2 1 v k ((List.replicate k (0 : Int)).map (Value.int .i64))) : Own w2 (w.heap.size + 1) v (List.replicate k 0) := by
  have : Own w2 w1.heap.size v (List.replicate k 0) := by unfold Own; simpa using o2
  exact this.mono hlt
end Go.Proofs.YtkenbanaodbooaaGreatDoor
/- The program's row of turns: what is there, what is newer, one that is put in. -/
namespace Go.Proofs.YtkenbanaodbooaaGreatDoor
open Go.ChangeShapes Go.WideShapes Go.ChangeAt Go.RowKit

end Go.Proofs.YtkenbanaodbooaaGreatDoor
/- The program's sinks: SinkOk, NewSink, Fits, Received. -/
namespace Go.Proofs.YtkenbanaodbooaaGreatDoor
open Go.ChangeShapes Go.WideShapes Go.ChangeAt Go.RowKit

def Sn.unused (c : Sn) : Bool := decide (c.tr = 0) && decide (c.ts.length = 0)
theorem Sn.ok_unused {c : Sn} (h : c.unused = true) : c.ok = true := by
  unfold Sn.unused at h
  simp only [Bool.and_eq_true, decide_eq_true_eq] at h
  unfold Sn.ok
  rw [if_pos h.1]
  simpa using h.2
theorem Sn.ok_used {c : Sn} (h : c.unused = false) : c.ok = (inI c.tr 1 100000 && (turnsI c.ts && inI c.ts.length 1 8)) := by
  unfold Sn.unused at h
  unfold Sn.ok
  by_cases e : c.tr = 0
  · rw [if_pos e]
    rw [decide_eq_true e, Bool.true_and] at h
    rw [h]
    have : inI c.tr 1 100000 = false := by rw [e]; decide
    rw [this]
    rfl
  · rw [if_neg e]

set_option maxRecDepth 20000 in
set_option maxHeartbeats 1000000 in
theorem iunusedS_any (v : Value) (c : Sn) (w : World) (hr : Reads w v c.ts) :
    Calls Tryz.prog 105 #[SnV v c] w fun e w' => e = .returned (.bool c.unused) ∧ Below w.heap.size w w' := by
  have HE : Hid (c.unused = (decide (c.tr = 0) && decide (c.ts.length = 0))) := rfl
  obtain ⟨ao, cap, rfl⟩ := reads_form hr
  obtain ⟨x, hx⟩ : ∃ x, x = c.unused := ⟨_, rfl⟩
  rw [← hx] at HE ⊢
  obtain ⟨n, hn⟩ : ∃ n, n = c.ts.length := ⟨_, rfl⟩
  unfold SnV snA
  rw [← hn] at HE ⊢
  clear hr hx hn
  by_cases ht : c.tr = 0
  · have e1 : (c.tr == 0) = true := by simpa using ht
    by_cases hn0 : (n : Int) = 0
    · have e4 : ((n : Int) == 0) = true := by simpa using hn0
      go_enter Tryz.func105, Tryz.ntmps105
      go_wp2
      go_ret
      exact ⟨ret_bool (by rw [HE.out]; simp [ht, (by omega : n = 0)]), (Below.refl _ _).alloc (Nat.le_refl _) _⟩
    · have e4 : ((n : Int) == 0) = false := by simpa using hn0
      go_enter Tryz.func105, Tryz.ntmps105
      go_wp2
      go_ret
      exact ⟨ret_bool (by rw [HE.out, show decide (n = 0) = false from decide_eq_false (by omega), Bool.and_false]), (Below.refl _ _).alloc (Nat.le_refl _) _⟩
  · have e1 : (c.tr == 0) = false := by simpa using ht
    go_enter Tryz.func105, Tryz.ntmps105
    go_wp2
    go_ret
    exact ⟨ret_bool (by rw [HE.out]; simp [ht]), (Below.refl _ _).alloc (Nat.le_refl _) _⟩

set_option maxRecDepth 20000 in
set_option maxHeartbeats 2000000 in
theorem isinkok_any (v : Value) (c : Sn) (w : World) (hr : Reads w v c.ts) (hl : c.ts.length ≤ 1099511627776) :
    Calls Tryz.prog 106 #[SnV v c] w fun e w' => e = .returned (.bool c.ok) ∧ Below w.heap.size w w' := by
  have HU : Hid (c.unused = true → c.ok = true) := Sn.ok_unused
  have HE : Hid (c.unused = false → c.ok = (inI c.tr 1 100000 && (turnsI c.ts && inI c.ts.length 1 8))) := Sn.ok_used
  obtain ⟨w1, hw1⟩ : ∃ w1, w1 = w.alloc (.cells (snA v c) 52) := ⟨_, rfl⟩
  have H1 : StB w1 w.heap.size 52 (snA v c) := by rw [hw1]; exact StB.new _ _ _
  have B1 : Below w.heap.size w w1 := by rw [hw1]; exact (Below.refl _ _).alloc (Nat.le_refl _) _
  have cu := iunusedS_any v c w1 (hr.below B1 (Nat.le_refl _))
  have HR : Hid (∀ w2, Below w1.heap.size w1 w2 → Reads w2 v c.ts) := fun w2 b => (hr.below B1 (Nat.le_refl _)).below b (Nat.le_refl _)
  have HS : Hid (∀ w2, Below w1.heap.size w1 w2 → StB w2 w.heap.size 52 (snA v c) ∧ Below w.heap.size w w2) := fun w2 b => ⟨H1.below b, B1.trans (b.mono B1.size)⟩
  obtain ⟨ao, cap, rfl⟩ := reads_form hr
  have HW : Hid (w1 = w.alloc (.cells #[.int .i64 c.tr, .slice ao c.ts.length cap] 52)) := hw1
  have k0 : w1.cell? ⟨w.heap.size, 0, none⟩ = some (.int .i64 c.tr) := H1.cell 0 rfl
  have k1 : w1.cell? ⟨w.heap.size, 1, none⟩ = some (.slice ao c.ts.length cap) := H1.cell 1 rfl
  have ct := fun wx => itry_any c.tr wx
  have cs := fun wx h => iturns_any (.slice ao c.ts.length cap) c.ts wx h hl
  obtain ⟨x, hx⟩ : ∃ x, x = c.ok := ⟨_, rfl⟩
  rw [← hx] at HE HU ⊢
  obtain ⟨bu, hbu⟩ : ∃ bu, bu = c.unused := ⟨_, rfl⟩
  rw [← hbu] at HE HU cu
  obtain ⟨bt, hbt⟩ : ∃ bt, bt = inI c.tr 1 100000 := ⟨_, rfl⟩
  rw [← hbt] at HE
  simp only [← hbt] at ct
  obtain ⟨bs, hbs⟩ : ∃ bs, bs = (turnsI c.ts && inI c.ts.length 1 8) := ⟨_, rfl⟩
  rw [← hbs] at HE
  simp only [← hbs] at cs
  have HCS : Hid _ := cs
  unfold SnV snA at cu ⊢
  clear hw1 H1 hr hx hbu hbt hbs B1 cs
  go_enter Tryz.func106, Tryz.ntmps106
  go_wp2_with fail
  rw [← HW.out]
  refine cu.mono ?_
  rintro e w2 ⟨rfl, b2⟩
  clear HW cu k0 k1
  have HB : Hid (Below w.heap.size w w2) := (HS.out w2 b2).2
  have H2 := (HS.out w2 b2).1
  have cs := HCS.out w2 (HR.out w2 b2)
  have k0 : w2.cell? ⟨w.heap.size, 0, none⟩ = some (.int .i64 c.tr) := H2.cell 0 rfl
  have k1 : w2.cell? ⟨w.heap.size, 1, none⟩ = some (.slice ao c.ts.length cap) := H2.cell 1 rfl
  clear HCS HS HR H2 b2
  cases bu with
  | true =>
    have HX : Hid (x = true) := HU.out rfl
    clear HU HE
    go_wp2
    go_ret
    exact ⟨ret_bool (by rw [HX.out]), HB.out⟩
  | false =>
    have HX : Hid (x = (bt && bs)) := HE.out rfl
    clear HU HE
    go_wp2_with fail
    refine (ct _).mono ?_
    rintro e w' ⟨rfl, hw⟩; subst w'
    clear ct
    cases bt with
    | false =>
      go_wp2
      go_ret
      exact ⟨ret_bool (by rw [HX.out]; rfl), HB.out⟩
    | true =>
      go_wp2_with fail
      refine cs.mono ?_
      rintro e w' ⟨rfl, hw⟩; subst w'
      clear cs
      go_wp2
      go_ret
      exact ⟨ret_bool (by rw [HX.out]; rfl), HB.out⟩

theorem Sn.Fits_eq (c : Sn) (t i n : Int) : c.Fits t i n = (c.ok && inI t 1 100000 && decide (c.tr = t) && (decide (0 ≤ i) && decide (i < (c.ts.length : Int)) && decide (c.ts.getD i.toNat 0 < n))) := by
  unfold Sn.Fits Sn.fits
  cases ok : c.ok with
  | false => rfl
  | true =>
    by_cases e : c.tr = t
    · subst e
      have h : decide (0 < c.tr) = inI c.tr 1 100000 ∨ c.ts.length = 0 := by
        unfold Sn.ok at ok
        split at ok
        · exact .inr (by simpa using ok)
        · simp only [Bool.and_eq_true, inI_iff] at ok
          left
          rw [decide_eq_true (by omega), (inI_iff _ _ _).2 ok.1]
      rcases h with h | h
      · rw [h]
        simp only [Bool.true_and, decide_true, Bool.and_true, Bool.and_assoc]
      · rw [h]
        have : (decide (0 ≤ i) && decide (i < ((0 : Nat) : Int))) = false := by
          by_cases h0 : 0 ≤ i
          · rw [decide_eq_true h0, decide_eq_false (by omega)]; rfl
          · rw [decide_eq_false h0]; rfl
        rw [this, Bool.false_and, Bool.and_false, Bool.and_assoc, Bool.and_assoc, ← Bool.and_assoc (decide (0 ≤ i)), this, Bool.false_and, Bool.and_false, Bool.and_false]
    · rw [decide_eq_false e]
      simp

theorem two_cells {w : World} {B j : Nat} {x y z : Value} (h : w.cell? ⟨B, j, none⟩ = some z) : ((w.setCell ⟨B + 1, 0, none⟩ x).setCell ⟨B + 1, 1, none⟩ y).cell? ⟨B, j, none⟩ = some z := by
  rw [World.cell?_setCell_far _ _ _ _ (by simp), World.cell?_setCell_far _ _ _ _ (by simp), h]
theorem below_undrew {w w' : World} (b : Below w.drew.heap.size w.drew w') : Below w.heap.size w w' := ((Below.refl w.heap.size w).drew).trans b
end Go.Proofs.YtkenbanaodbooaaGreatDoor
/- When a house is right, plainly, in the program's own order of tests. -/
namespace Go.Proofs.YtkenbanaodbooaaGreatDoor
open Go.RowKit

theorem stepE_ok (l : List (Bs × Nat)) : ∀ a : Option (Rc × Nat), (∀ x, a = some x → x.1.ok = true) → ∀ x, l.foldl stepE a = some x → x.1.ok = true := by
  induction l with
  | nil => intro a h x e; exact h x e
  | cons y l ih =>
    intro a h x e
    refine ih (stepE a y) (fun z hz => ?_) x e
    unfold stepE at hz
    split at hz
    · rename_i r hr
      simp only [Option.some.injEq] at hz
      rw [← hz]
      exact readR_ok _ _ hr
    · exact h z hz
theorem recall_ok (s : Bs) (h : (recallB s).isSome = true) : (recR (recallB s)).ok = true := by
  cases e : recallB s with
  | none => rw [e] at h; cases h
  | some x => exact stepE_ok (wholeE s) none (fun _ h => by cases h) x e
def Nd.logP (n : Nd) : Bool := decide (n.log.length ≤ 40000) && ((recallB n.log).isSome && sameR (recR (recallB n.log)) n.r && (!n.up || decide (n.log.take (recAt (recallB n.log)) = n.log)))
def Nd.copP (n : Nd) : Bool := n.c.unused || (n.up && decide (n.r.s ≠ 3) && decide (n.c.tr = n.r.t) && n.c.ok && decide (n.c.ts.length = n.ys.length))
def Nd.snkP (n : Nd) : Bool := n.s.unused || (n.up && decide (n.r.s = 3) && decide (n.s.tr = n.r.n) && n.s.ok && decide (n.s.ts.length = n.ys.length))
theorem Cp.unused_tr {c : Cp} (h : c.unused = true) : c.tr = 0 := by
  unfold Cp.unused at h
  simp only [Bool.and_eq_true, decide_eq_true_eq] at h
  exact h.1.1.1.1
theorem Cp.used_tr {c : Cp} (h : c.unused = false) (ho : c.ok = true) : c.tr ≠ 0 := by
  rw [Cp.ok_used h] at ho
  simp only [Bool.and_eq_true, inI, decide_eq_true_eq] at ho
  intro e
  have := ho.1.1.1
  omega
theorem Sn.unused_tr {c : Sn} (h : c.unused = true) : c.tr = 0 := by
  unfold Sn.unused at h
  simp only [Bool.and_eq_true, decide_eq_true_eq] at h
  exact h.1
theorem Sn.used_tr {c : Sn} (h : c.unused = false) (ho : c.ok = true) : c.tr ≠ 0 := by
  rw [Sn.ok_used h] at ho
  simp only [Bool.and_eq_true, inI, decide_eq_true_eq] at ho
  intro e
  have := ho.1
  omega
theorem Nd.ok_prog (n : Nd) : n.ok = (inI n.id 0 1 && (Sr.ok ⟨n.xs, n.ys, n.h⟩ && (n.logP && (n.copP && n.snkP)))) := by
  have hl := recall_le n.log
  rw [Bool.eq_iff_iff, Nd.ok_iff]
  unfold Sr.ok Nd.logP
  simp only [Bool.and_eq_true, decide_eq_true_eq, sameR_iff]
  constructor
  · intro h
    refine ⟨h.id, ⟨h.dk, h.h⟩, ⟨h.ll, ⟨h.lg.is, h.lg.rc⟩, ?_⟩, ?_, ?_⟩
    · cases hu : n.up with
      | false => rfl
      | true =>
        simp only [Bool.not_true, Bool.false_or, decide_eq_true_eq]
        exact (take_all _ _ hl).2 (h.lg.al hu)
    · unfold Nd.copP
      cases hc : n.c.unused with
      | true => rfl
      | false =>
        have ht := Cp.used_tr hc h.c
        obtain ⟨q1, q2, q3⟩ := h.cp ht
        have hu : n.up = true := by
          cases hu : n.up with
          | true => rfl
          | false => exact absurd (h.dn hu).1 ht
        simp [hu, q1, h.c, q3, ← q2]
    · unfold Nd.snkP
      cases hc : n.s.unused with
      | true => rfl
      | false =>
        have ht := Sn.used_tr hc h.s
        obtain ⟨q1, q2, q3⟩ := h.sk ht
        have hu : n.up = true := by
          cases hu : n.up with
          | true => rfl
          | false => exact absurd (h.dn hu).2 ht
        simp [hu, q1, h.s, q3, ← q2]
  · rintro ⟨h1, ⟨h2, h3⟩, ⟨h4, ⟨h5, h6⟩, h7⟩, h8, h9⟩
    have hc : n.c.ok = true ∧ (n.up = false → n.c.tr = 0) ∧ (n.c.tr ≠ 0 → n.r.s ≠ 3 ∧ n.c.tr = n.r.t ∧ n.c.ts.length = n.ys.length) := by
      unfold Nd.copP at h8
      cases hc : n.c.unused with
      | true => exact ⟨Cp.ok_unused hc, fun _ => Cp.unused_tr hc, fun e => absurd (Cp.unused_tr hc) e⟩
      | false =>
        rw [hc] at h8
        simp only [Bool.false_or, Bool.and_eq_true, decide_eq_true_eq] at h8
        obtain ⟨⟨⟨⟨a1, a2⟩, a3⟩, a4⟩, a5⟩ := h8
        exact ⟨a4, fun e => by rw [a1] at e; (cases e), fun _ => ⟨a2, a3, a5⟩⟩
    have hs : n.s.ok = true ∧ (n.up = false → n.s.tr = 0) ∧ (n.s.tr ≠ 0 → n.r.s = 3 ∧ n.s.tr = n.r.n ∧ n.s.ts.length = n.ys.length) := by
      unfold Nd.snkP at h9
      cases hc : n.s.unused with
      | true => exact ⟨Sn.ok_unused hc, fun _ => Sn.unused_tr hc, fun e => absurd (Sn.unused_tr hc) e⟩
      | false =>
        rw [hc] at h9
        simp only [Bool.false_or, Bool.and_eq_true, decide_eq_true_eq] at h9
        obtain ⟨⟨⟨⟨a1, a2⟩, a3⟩, a4⟩, a5⟩ := h9
        exact ⟨a4, fun e => by rw [a1] at e; (cases e), fun _ => ⟨a2, a3, a5⟩⟩
    have hr : n.r.ok = true := by rw [← h6]; exact recall_ok n.log h5
    refine ⟨h1, h2, h3, hr, h4, hc.1, hs.1, ⟨h5, h6, fun hu => ?_⟩, fun hu => ⟨hc.2.1 hu, hs.2.1 hu⟩, hc.2.2, hs.2.2⟩
    rw [hu] at h7
    simp only [Bool.not_true, Bool.false_or, decide_eq_true_eq] at h7
    exact (take_all _ _ hl).1 h7
end Go.Proofs.YtkenbanaodbooaaGreatDoor
/- What Check of the program answers. -/
namespace Go.Proofs.YtkenbanaodbooaaGreatDoor
open Go.ChangeShapes Go.WideShapes Go.ChangeAt Go.RowKit

set_option maxRecDepth 20000 in
set_option maxHeartbeats 1000000 in
theorem icheck_any (l : Bs) (w : World) (hl : l.length ≤ 1048576) :
    Calls Tryz.prog 150 #[S l] w fun e w' => e = .returned (.int .i64 (chk l)) ∧ w' = w := by
  have hsz : (⟨l.toArray⟩ : ByteArray).size = l.length := rfl
  unfold S
  go_enter Tryz.func150, Tryz.ntmps150
  go_wp2
  go_loop [3, 7] (fun h i => ∃ j : Nat, j ≤ l.length ∧ i = .int .i64 j ∧ ∃ x : Int, h = .int .i64 x ∧ 0 ≤ x ∧ x < 999983 ∧ Hid (x = chk (l.take j))) (fun _ i => l.length - (intOf i).toNat)
  case atStart => exact ⟨0, Nat.zero_le _, rfl, 19, rfl, by omega, by omega, by simp [Hid, chk]⟩
  case round =>
    obtain ⟨j, hj, rfl, x, rfl, hx0, hx1, HX⟩ := hrel
    by_cases hlt : (j : Int) < (l.length : Int)
    · go_wp2
      go_round
      case rel =>
        have h1 : j < l.length := by omega
        have h2 := chk_bd (l.take (j + 1))
        have h3 := chk_step l j h1
        rw [← HX.out] at h3
        exact ⟨j + 1, by omega, by go_num, _, congrArg (Value.int .i64) h3, h2.1, h2.2, rfl⟩
      case measure => simp [intOf]; omega
    · go_wp2
      go_ret
      have e : j = l.length := by omega
      have := HX.out
      rw [e, List.take_length] at this
      exact ⟨ret_int this, rfl⟩
end Go.Proofs.YtkenbanaodbooaaGreatDoor
