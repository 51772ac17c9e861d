/- The program's copy of a list (fresh). -/
import Derived.Test.YtlkkpolnllbljaaGreatDoorM1
import Derived.Test.YtlkkpolnllbljaaGreatDoorM11
import Derived.ArgAppend
import Derived.Test.YtlkkpolnllbljaaGreatDoorM8
import Derived.OwnWalk
import Derived.Test.YtlkkpolnllbljaaGreatDoorM14
import Derived.Test.YtlkkpolnllbljaaGreatDoorM2
import Derived.Test.YtlkkpolnllbljaaGreatDoorM4
import Derived.Test.YtlkkpolnllbljaaGreatDoorM10
import Derived.Deep.DeepCutAuto
import Derived.Test.YtlkkpolnllbljaaGreatDoorM3
import Derived.Laws.Tables
import Derived.Laws.ResultCell
import Derived.ChangeKeysEq
import Derived.BigRegion
namespace Go.Proofs.YtlkkpolnllbljaaGreatDoor
open Go.ChangeShapes Go.WideShapes Go.ChangeAt Go.RowKit

set_option maxRecDepth 20000 in
set_option maxHeartbeats 1000000 in
theorem ifresh1_any (v : Value) (xs : List Int) (w : World) (h : Reads w v xs) (h1 : 1 ≤ xs.length) (hbig : xs.length ≤ 1099511627776) :
    Calls Tryz.prog 115 #[v] w fun e w' => ∃ u, e = .returned u ∧ Own w' w.heap.size u xs ∧ Below w.heap.size w w' := by
  obtain ⟨i0, hi, hz0, hz1, hz2⟩ := info_parts Tryz.infoI
  obtain ⟨ao, cap, rfl, hl, hm, hc⟩ := h
  obtain ⟨b, off, hab, hcell⟩ : ∃ b off, ao = some ⟨b, off, none⟩ ∧ ∀ j, j < xs.length → w.cell? ⟨b, off + j, none⟩ = some (.int .i64 (xs.getD j 0)) := by
    rcases hc with e | h
    · subst e; simp at h1
    · exact h
  subst hab
  have hnews : ∀ j u, (xs.map (Value.int .i64))[j]? = some u → w.cell? ((⟨b, off, none⟩ : Addr).add j) = some u := by
    intro j u hj
    have hlt : j < xs.length := by
      rcases Nat.lt_or_ge j xs.length with h | h
      · exact h
      · rw [List.getElem?_eq_none (by simpa using h)] at hj; cases hj
    rw [show (⟨b, off, none⟩ : Addr).add j = ⟨b, off + j, none⟩ by unfold Addr.add; split <;> simp_all]
    rw [hcell j hlt]
    simp [List.getD, hlt] at hj ⊢
    exact hj
  have hone : ∀ u ∈ xs.map (Value.int .i64), u.oneCell' = true := by
    intro u hu
    obtain ⟨x, _, rfl⟩ := List.mem_map.1 hu
    rfl
  obtain ⟨hm1, -⟩ := hm
  unfold maxLen at hm1
  obtain ⟨n, hn⟩ : ∃ n, n = xs.length := ⟨_, rfl⟩
  have hll : (xs.map (Value.int .i64)).length = n * 1 := by simp [hn]
  rw [← hn] at hbig hl h1 ⊢
  have HN : Hid (n = xs.length) := hn
  clear hn hc hcell
  go_enter Tryz.func115, Tryz.ntmps115
  go_wp2_with (at_builtin; refine wpList_append_grows _ rfl _ _ 22 rfl 2 i0 (.int .i64 0) 1 8 Tryz.underlying22 hi hz0 hz1 hz2 rfl (by decide) (some ⟨b, off, none⟩) 0 0 [] rfl (by intro e; cases e) (by simp) (by intro b' _ j u hj; simp at hj) ⟨b, off, none⟩ n cap (xs.map (Value.int .i64)) rfl hll hnews hone (by omega) (by unfold maxLen; omega) (by omega) ?_)
  intro v' w1 hown hgrow
  go_wp2_with fail
  go_ret
  refine ⟨_, rfl, ?_, (Below.refl w.heap.size w).grown hgrow (Nat.le_refl _) (fun k e => by cases e)⟩
  unfold Own
  rw [← HN.out]
  exact hown

set_option maxRecDepth 20000 in
set_option maxHeartbeats 1000000 in
theorem ifresh0_any (v : Value) (w : World) (h : Reads w v []) :
    Calls Tryz.prog 115 #[v] w fun e w' => ∃ u, e = .returned u ∧ Mine w' w.heap.size u [] ∧ Below w.heap.size w w' := by
  obtain ⟨ao, cap, rfl, hl, ⟨hm, hz⟩, -⟩ := h
  unfold maxLen at hm
  simp only [List.length_nil] at hl ⊢
  rcases ao with _ | ad
  · have e0 : cap = 0 := hz rfl
    subst e0
    clear hz hm hl
    go_enter Tryz.func115, Tryz.ntmps115
    go_wp2
    go_ret
    exact ⟨_, rfl, .inr ⟨rfl, _, _, rfl, Nat.zero_le _, fun _ => rfl⟩, Below.refl _ _⟩
  · clear hz
    go_enter Tryz.func115, Tryz.ntmps115
    go_wp2
    go_ret
    exact ⟨_, rfl, .inr ⟨rfl, _, _, rfl, Nat.zero_le _, fun _ => rfl⟩, Below.refl _ _⟩

theorem ifresh_any (v : Value) (xs : List Int) (w : World) (h : Reads w v xs) (hbig : xs.length ≤ 1099511627776) :
    Calls Tryz.prog 115 #[v] w fun e w' => ∃ u, e = .returned u ∧ Mine w' w.heap.size u xs ∧ Below w.heap.size w w' := by
  by_cases h1 : 1 ≤ xs.length
  · refine (ifresh1_any v xs w h h1 hbig).mono ?_
    rintro e w' ⟨u, rfl, o, b⟩
    exact ⟨u, rfl, .inl o, b⟩
  · have e0 : xs = [] := List.eq_nil_of_length_eq_zero (by omega)
    subst e0
    exact ifresh0_any v w h
end Go.Proofs.YtlkkpolnllbljaaGreatDoor
/- What stands while a sink is answered. -/
namespace Go.Proofs.YtlkkpolnllbljaaGreatDoor
open Go.ChangeShapes Go.WideShapes Go.ChangeAt Go.RowKit

/- What stands while one of them is made: the one that was given (c), the answer's place, the one that will be answered (d, in block g). -/
structure SoS (w wx : World) (g : Nat) (v u : Value) (c d : Sn) : Prop where
  p : StB wx w.heap.size 40 (snA v c)
  q : StB wx (w.heap.size + 1) 40 zeroSn
  r : StB wx g 40 (snA u d)
  o : Mine wx w.heap.size u d.ts
  b : Below w.heap.size w wx
  l : w.heap.size + 1 < g
theorem SoS.start {w w2 w3 : World} {v u : Value} {c : Sn} (hp : StB w2 w.heap.size 40 (snA v c)) (hq : StB w2 (w.heap.size + 1) 40 zeroSn) (hb : Below w.heap.size w w2) (hs : w.heap.size + 1 < w2.heap.size) (o3 : Mine w3 w2.heap.size u c.ts) (b3 : Below w2.heap.size w2 w3) : SoS w (w3.alloc (.cells (snA u c) 40)) w3.heap.size v u c c := by
  have b4 : Below w3.heap.size w3 (w3.alloc (.cells (snA u c) 40)) := (Below.refl _ _).alloc (Nat.le_refl _) _
  exact ⟨(hp.below b3).below b4, (hq.below b3).below b4, StB.new _ _ _, (o3.below b4).mono (by omega), (hb.trans (b3.mono hb.size)).trans (b4.mono (Nat.le_trans hb.size b3.size)), Nat.lt_of_lt_of_le hs b3.size⟩
theorem SoS.below {w wx wy : World} {g : Nat} {v u : Value} {c d : Sn} (h : SoS w wx g v u c d) (b : Below wx.heap.size wx wy) : SoS w wy g v u c d :=
  ⟨h.p.below b, h.q.below b, h.r.below b, h.o.below b, h.b.trans (b.mono h.b.size), h.l⟩
/- A cell of the one that will be answered is written. -/
theorem SoS.put {w wx : World} {g : Nat} {v u : Value} {c d e : Sn} (h : SoS w wx g v u c d) (j : Nat) (x : Value) (he : (snA u d).setIfInBounds j x = snA u e) (ht : e.ts = d.ts) : SoS w (wx.setCell ⟨g, j, none⟩ x) g v u c e :=
  ⟨h.p.other _ _ (by have := h.l; show w.heap.size ≠ g; omega), h.q.other _ _ (by have := h.l; show w.heap.size + 1 ≠ g; omega), h.r.put j x he, by rw [ht]; exact h.o.set h.r (by decide) x, h.b.setCell (by have := h.l; show w.heap.size ≤ g; omega) _, h.l⟩
theorem SoS.fin {w wx wy : World} {g : Nat} {v u : Value} {c d : Sn} (h : SoS w wx g v u c d) (G : wx.grownBy wy (some (w.heap.size + 1))) : Mine wy w.heap.size u d.ts ∧ Below w.heap.size w wy :=
  ⟨h.o.putBy h.q (by decide) G, h.b.grown G h.b.size (fun k e => by cases e; omega)⟩
/- The one that will be answered has a list of its own, and that is written. -/
theorem SoS.row {w wx : World} {g r n cap : Nat} {v : Value} {c d : Sn} {j : Nat} {x : Int} (h : SoS w wx g v (.slice (some ⟨r, 0, none⟩) n cap) c d) (o : Own wx w.heap.size (.slice (some ⟨r, 0, none⟩) n cap) d.ts) (O : Own (wx.setCell ⟨r, j, none⟩ (.int .i64 x)) w.heap.size (.slice (some ⟨r, 0, none⟩) n cap) (d.ts.set j x)) : SoS w (wx.setCell ⟨r, j, none⟩ (.int .i64 x)) g v (.slice (some ⟨r, 0, none⟩) n cap) c { d with ts := d.ts.set j x } := by
  have hne : ∀ (k : Nat) (cs : Array Value), StB wx k 40 cs → k ≠ r := fun k cs hk e => o.ne hk (by decide) (by rw [e]; rfl)
  exact ⟨h.p.other _ _ (hne _ _ h.p), h.q.other _ _ (hne _ _ h.q), h.r.other _ _ (hne _ _ h.r), .inl O, h.b.setCell (o.lt r rfl).1 _, h.l⟩
theorem SoS.cells {w wx : World} {g : Nat} {v u : Value} {c d : Sn} (h : SoS w wx g v u c d) (j : Nat) {x : Value} (e : (snA u d)[j]? = some x) : wx.cell? ⟨g, j, none⟩ = some x ∧ wx.frozen? ⟨g, j, none⟩ = false := ⟨h.r.cell j e, h.r.frozen j⟩

end Go.Proofs.YtlkkpolnllbljaaGreatDoor
/- Sinks by the model: NewSink, Received. -/
namespace Go.Proofs.YtlkkpolnllbljaaGreatDoor
open Go.ChangeShapes Go.WideShapes Go.ChangeAt Go.RowKit

theorem made_own0 {w w1 w2 : World} {v : Value} {k : Nat} (hlt : w.heap.size < w1.heap.size) (o2 : w2.ownsRow w1.heap.size 2 1 v k ((List.replicate k (0 : Int)).map (Value.int .i64))) : Own w2 (w.heap.size + 1) v (List.replicate k 0) := by
  have : Own w2 w1.heap.size v (List.replicate k 0) := by unfold Own; simpa using o2
  exact this.mono hlt
end Go.Proofs.YtlkkpolnllbljaaGreatDoor
/- The program's row of turns: what is there, what is newer, one that is put in. -/
namespace Go.Proofs.YtlkkpolnllbljaaGreatDoor
open Go.ChangeShapes Go.WideShapes Go.ChangeAt Go.RowKit

end Go.Proofs.YtlkkpolnllbljaaGreatDoor
/- The program's sinks: SinkOk, NewSink, Fits, Received. -/
namespace Go.Proofs.YtlkkpolnllbljaaGreatDoor
open Go.ChangeShapes Go.WideShapes Go.ChangeAt Go.RowKit

def Sn.unused (c : Sn) : Bool := decide (c.tr = 0) && decide (c.ts.length = 0)
theorem Sn.ok_unused {c : Sn} (h : c.unused = true) : c.ok = true := by
  unfold Sn.unused at h
  simp only [Bool.and_eq_true, decide_eq_true_eq] at h
  unfold Sn.ok
  rw [if_pos h.1]
  simpa using h.2
theorem Sn.ok_used {c : Sn} (h : c.unused = false) : c.ok = (inI c.tr 1 100000 && (turnsI c.ts && inI c.ts.length 1 8)) := by
  unfold Sn.unused at h
  unfold Sn.ok
  by_cases e : c.tr = 0
  · rw [if_pos e]
    rw [decide_eq_true e, Bool.true_and] at h
    rw [h]
    have : inI c.tr 1 100000 = false := by rw [e]; decide
    rw [this]
    rfl
  · rw [if_neg e]

set_option maxRecDepth 20000 in
set_option maxHeartbeats 1000000 in
theorem iunusedS_any (v : Value) (c : Sn) (w : World) (hr : Reads w v c.ts) :
    Calls Tryz.prog 109 #[SnV v c] w fun e w' => e = .returned (.bool c.unused) ∧ Below w.heap.size w w' := by
  have HE : Hid (c.unused = (decide (c.tr = 0) && decide (c.ts.length = 0))) := rfl
  obtain ⟨ao, cap, rfl⟩ := reads_form hr
  obtain ⟨x, hx⟩ : ∃ x, x = c.unused := ⟨_, rfl⟩
  rw [← hx] at HE ⊢
  obtain ⟨n, hn⟩ : ∃ n, n = c.ts.length := ⟨_, rfl⟩
  unfold SnV snA
  rw [← hn] at HE ⊢
  clear hr hx hn
  by_cases ht : c.tr = 0
  · have e1 : (c.tr == 0) = true := by simpa using ht
    by_cases hn0 : (n : Int) = 0
    · have e4 : ((n : Int) == 0) = true := by simpa using hn0
      go_enter Tryz.func109, Tryz.ntmps109
      go_wp2
      go_ret
      exact ⟨ret_bool (by rw [HE.out]; simp [ht, (by omega : n = 0)]), (Below.refl _ _).alloc (Nat.le_refl _) _⟩
    · have e4 : ((n : Int) == 0) = false := by simpa using hn0
      go_enter Tryz.func109, Tryz.ntmps109
      go_wp2
      go_ret
      exact ⟨ret_bool (by rw [HE.out, show decide (n = 0) = false from decide_eq_false (by omega), Bool.and_false]), (Below.refl _ _).alloc (Nat.le_refl _) _⟩
  · have e1 : (c.tr == 0) = false := by simpa using ht
    go_enter Tryz.func109, Tryz.ntmps109
    go_wp2
    go_ret
    exact ⟨ret_bool (by rw [HE.out]; simp [ht]), (Below.refl _ _).alloc (Nat.le_refl _) _⟩

set_option maxRecDepth 20000 in
set_option maxHeartbeats 2000000 in
theorem isinkok_any (v : Value) (c : Sn) (w : World) (hr : Reads w v c.ts) (hl : c.ts.length ≤ 1099511627776) :
    Calls Tryz.prog 110 #[SnV v c] w fun e w' => e = .returned (.bool c.ok) ∧ Below w.heap.size w w' := by
  have HU : Hid (c.unused = true → c.ok = true) := Sn.ok_unused
  have HE : Hid (c.unused = false → c.ok = (inI c.tr 1 100000 && (turnsI c.ts && inI c.ts.length 1 8))) := Sn.ok_used
  obtain ⟨w1, hw1⟩ : ∃ w1, w1 = w.alloc (.cells (snA v c) 40) := ⟨_, rfl⟩
  have H1 : StB w1 w.heap.size 40 (snA v c) := by rw [hw1]; exact StB.new _ _ _
  have B1 : Below w.heap.size w w1 := by rw [hw1]; exact (Below.refl _ _).alloc (Nat.le_refl _) _
  have cu := iunusedS_any v c w1 (hr.below B1 (Nat.le_refl _))
  have HR : Hid (∀ w2, Below w1.heap.size w1 w2 → Reads w2 v c.ts) := fun w2 b => (hr.below B1 (Nat.le_refl _)).below b (Nat.le_refl _)
  have HS : Hid (∀ w2, Below w1.heap.size w1 w2 → StB w2 w.heap.size 40 (snA v c) ∧ Below w.heap.size w w2) := fun w2 b => ⟨H1.below b, B1.trans (b.mono B1.size)⟩
  obtain ⟨ao, cap, rfl⟩ := reads_form hr
  have HW : Hid (w1 = w.alloc (.cells #[.int .i64 c.tr, .slice ao c.ts.length cap] 40)) := hw1
  have k0 : w1.cell? ⟨w.heap.size, 0, none⟩ = some (.int .i64 c.tr) := H1.cell 0 rfl
  have k1 : w1.cell? ⟨w.heap.size, 1, none⟩ = some (.slice ao c.ts.length cap) := H1.cell 1 rfl
  have ct := fun wx => itry_any c.tr wx
  have cs := fun wx h => iturns_any (.slice ao c.ts.length cap) c.ts wx h hl
  obtain ⟨x, hx⟩ : ∃ x, x = c.ok := ⟨_, rfl⟩
  rw [← hx] at HE HU ⊢
  obtain ⟨bu, hbu⟩ : ∃ bu, bu = c.unused := ⟨_, rfl⟩
  rw [← hbu] at HE HU cu
  obtain ⟨bt, hbt⟩ : ∃ bt, bt = inI c.tr 1 100000 := ⟨_, rfl⟩
  rw [← hbt] at HE
  simp only [← hbt] at ct
  obtain ⟨bs, hbs⟩ : ∃ bs, bs = (turnsI c.ts && inI c.ts.length 1 8) := ⟨_, rfl⟩
  rw [← hbs] at HE
  simp only [← hbs] at cs
  have HCS : Hid _ := cs
  unfold SnV snA at cu ⊢
  clear hw1 H1 hr hx hbu hbt hbs B1 cs
  go_enter Tryz.func110, Tryz.ntmps110
  go_wp2_with fail
  rw [← HW.out]
  refine cu.mono ?_
  rintro e w2 ⟨rfl, b2⟩
  clear HW cu k0 k1
  have HB : Hid (Below w.heap.size w w2) := (HS.out w2 b2).2
  have H2 := (HS.out w2 b2).1
  have cs := HCS.out w2 (HR.out w2 b2)
  have k0 : w2.cell? ⟨w.heap.size, 0, none⟩ = some (.int .i64 c.tr) := H2.cell 0 rfl
  have k1 : w2.cell? ⟨w.heap.size, 1, none⟩ = some (.slice ao c.ts.length cap) := H2.cell 1 rfl
  clear HCS HS HR H2 b2
  cases bu with
  | true =>
    have HX : Hid (x = true) := HU.out rfl
    clear HU HE
    go_wp2
    go_ret
    exact ⟨ret_bool (by rw [HX.out]), HB.out⟩
  | false =>
    have HX : Hid (x = (bt && bs)) := HE.out rfl
    clear HU HE
    go_wp2_with fail
    refine (ct _).mono ?_
    rintro e w' ⟨rfl, hw⟩; subst w'
    clear ct
    cases bt with
    | false =>
      go_wp2
      go_ret
      exact ⟨ret_bool (by rw [HX.out]; rfl), HB.out⟩
    | true =>
      go_wp2_with fail
      refine cs.mono ?_
      rintro e w' ⟨rfl, hw⟩; subst w'
      clear cs
      go_wp2
      go_ret
      exact ⟨ret_bool (by rw [HX.out]; rfl), HB.out⟩

theorem Sn.Fits_eq (c : Sn) (t i n : Int) : c.Fits t i n = (c.ok && inI t 1 100000 && decide (c.tr = t) && (decide (0 ≤ i) && decide (i < (c.ts.length : Int)) && decide (c.ts.getD i.toNat 0 < n))) := by
  unfold Sn.Fits Sn.fits
  cases ok : c.ok with
  | false => rfl
  | true =>
    by_cases e : c.tr = t
    · subst e
      have h : decide (0 < c.tr) = inI c.tr 1 100000 ∨ c.ts.length = 0 := by
        unfold Sn.ok at ok
        split at ok
        · exact .inr (by simpa using ok)
        · simp only [Bool.and_eq_true, inI_iff] at ok
          left
          rw [decide_eq_true (by omega), (inI_iff _ _ _).2 ok.1]
      rcases h with h | h
      · rw [h]
        simp only [Bool.true_and, decide_true, Bool.and_true, Bool.and_assoc]
      · rw [h]
        have : (decide (0 ≤ i) && decide (i < ((0 : Nat) : Int))) = false := by
          by_cases h0 : 0 ≤ i
          · rw [decide_eq_true h0, decide_eq_false (by omega)]; rfl
          · rw [decide_eq_false h0]; rfl
        rw [this, Bool.false_and, Bool.and_false, Bool.and_assoc, Bool.and_assoc, ← Bool.and_assoc (decide (0 ≤ i)), this, Bool.false_and, Bool.and_false, Bool.and_false]
    · rw [decide_eq_false e]
      simp

set_option maxRecDepth 20000 in
set_option maxHeartbeats 2000000 in
theorem ifreshS_any (v : Value) (c : Sn) (w : World) (hr : Reads w v c.ts) (hl : c.ts.length ≤ 1099511627776) :
    Calls Tryz.prog 75 #[SnV v c] w fun e w' => ∃ u, e = .returned (SnV u c) ∧ Mine w' w.heap.size u c.ts ∧ Below w.heap.size w w' := by
  obtain ⟨w1, hw1⟩ : ∃ w1, w1 = (w.alloc (.cells (snA v c) 40)).alloc (.cells zeroSn 40) := ⟨_, rfl⟩
  have p0 : StB w1 w.heap.size 40 (snA v c) := by rw [hw1]; exact (StB.new w _ _).alloc _
  have q0 : StB w1 (w.heap.size + 1) 40 zeroSn := by
    rw [hw1]
    have := StB.new (w.alloc (.cells (snA v c) 40)) 40 zeroSn
    rwa [World.size_alloc] at this
  have b1 : Below w.heap.size w w1 := by rw [hw1]; exact ((Below.refl _ _).alloc (Nat.le_refl _) _).alloc (by simp) _
  have c1 := ifresh_any v c.ts w1 (hr.below b1 (Nat.le_refl _)) hl
  have hs1 := q0.lt
  obtain ⟨ao, cap, rfl⟩ := reads_form hr
  have HW : Hid (w1 = (w.alloc (.cells #[.int .i64 c.tr, .slice ao c.ts.length cap] 40)).alloc (.cells #[.int .i64 0, .slice none 0 0] 40)) := hw1
  have k4 : w1.cell? ⟨w.heap.size, 1, none⟩ = some (.slice ao c.ts.length cap) := p0.cell 1 rfl
  clear hw1 hr hl
  unfold SnV snA
  go_enter Tryz.func75, Tryz.ntmps75
  go_wp2_with fail
  rw [← HW.out]
  clear HW
  refine c1.mono ?_
  rintro e w3 ⟨u, rfl, o3, b3⟩
  replace p0 := p0.below b3
  replace q0 := q0.below b3
  have B3 := b1.trans (b3.mono b1.size)
  obtain ⟨ab, cb, rfl⟩ := reads_form o3.reads
  have k0 : w3.cell? ⟨w.heap.size, 1, none⟩ = some (.slice ao c.ts.length cap) := p0.cell 1 rfl
  have f0 := p0.frozen 1
  have r4 := p0.put 1 (.slice ab c.ts.length cb) (ds := snA (.slice ab c.ts.length cb) c) rfl
  have q4 := q0.other ⟨w.heap.size, 1, none⟩ (.slice ab c.ts.length cb) (by simp)
  have HP : Hid (Mine (w3.setCell ⟨w.heap.size, 1, none⟩ (.slice ab c.ts.length cb)) w1.heap.size (.slice ab c.ts.length cb) c.ts ∧ Below w.heap.size w (w3.setCell ⟨w.heap.size, 1, none⟩ (.slice ab c.ts.length cb))) := ⟨o3.setLt (by omega) 1 _, B3.setCell (Nat.le_refl _) _⟩
  clear k4 p0 q0 c1 o3 b3 b1 B3
  go_upto_region 2 with fail
  obtain ⟨w4, hw4⟩ : ∃ w4, w4 = w3.setCell ⟨w.heap.size, 1, none⟩ (.slice ab c.ts.length cb) := ⟨_, rfl⟩
  rw [← hw4] at r4 q4 HP ⊢
  clear hw4 k0 f0
  go_wp2_with (first | (refine wpList_getS Tryz.isSn rfl _ rfl w.heap.size rfl (snA (.slice ab c.ts.length cb) c) rfl r4 ?_) | (refine wpList_putS Tryz.isSn rfl _ _ rfl (w.heap.size + 1) (snA (.slice ab c.ts.length cb) c) zeroSn rfl rfl rfl rfl (snA_one c rfl) q4 ?_; intro w8 s8 g8))
  refine bodyPost_ret (results_S Tryz.isSn rfl _ _ (w.heap.size + 1) _ rfl rfl s8) rfl ?_
  exact ⟨_, rfl, (HP.out.1.keptLt g8 (by omega)).mono (by omega), HP.out.2.grown g8 HP.out.2.size (fun k e => by cases e; omega)⟩

theorem two_cells {w : World} {B j : Nat} {x y z : Value} (h : w.cell? ⟨B, j, none⟩ = some z) : ((w.setCell ⟨B + 1, 0, none⟩ x).setCell ⟨B + 1, 1, none⟩ y).cell? ⟨B, j, none⟩ = some z := by
  rw [World.cell?_setCell_far _ _ _ _ (by simp), World.cell?_setCell_far _ _ _ _ (by simp), h]
theorem below_undrew {w w' : World} (b : Below w.drew.heap.size w.drew w') : Below w.heap.size w w' := ((Below.refl w.heap.size w).drew).trans b
end Go.Proofs.YtlkkpolnllbljaaGreatDoor
/- When a house is right, plainly, in the program's own order of tests. -/
namespace Go.Proofs.YtlkkpolnllbljaaGreatDoor
open Go.RowKit

theorem stepE_ok (l : List (Bs × Nat)) : ∀ a : Option (Rc × Nat), (∀ x, a = some x → x.1.ok = true) → ∀ x, l.foldl stepE a = some x → x.1.ok = true := by
  induction l with
  | nil => intro a h x e; exact h x e
  | cons y l ih =>
    intro a h x e
    refine ih (stepE a y) (fun z hz => ?_) x e
    unfold stepE at hz
    split at hz
    · rename_i r hr
      simp only [Option.some.injEq] at hz
      rw [← hz]
      exact readR_ok _ _ hr
    · exact h z hz
theorem recall_ok (s : Bs) (h : (recallB s).isSome = true) : (recR (recallB s)).ok = true := by
  cases e : recallB s with
  | none => rw [e] at h; cases h
  | some x => exact stepE_ok (wholeE s) none (fun _ h => by cases h) x e
def Nd.logP (n : Nd) : Bool := decide (n.log.length ≤ 40000) && ((recallB n.log).isSome && sameR (recR (recallB n.log)) n.r && (!n.up || decide (n.log.take (recAt (recallB n.log)) = n.log)))
def Nd.copP (n : Nd) : Bool := n.c.unused || (n.up && decide (n.r.s ≠ 3) && decide (n.c.tr = n.r.t) && n.c.ok && decide (n.c.ts.length = n.ys.length))
def Nd.snkP (n : Nd) : Bool := n.s.unused || (n.up && decide (n.r.s = 3) && decide (n.s.tr = n.r.n) && n.s.ok && decide (n.s.ts.length = n.ys.length))
theorem Cp.unused_tr {c : Cp} (h : c.unused = true) : c.tr = 0 := by
  unfold Cp.unused at h
  simp only [Bool.and_eq_true, decide_eq_true_eq] at h
  exact h.1.1.1.1
theorem Cp.used_tr {c : Cp} (h : c.unused = false) (ho : c.ok = true) : c.tr ≠ 0 := by
  rw [Cp.ok_used h] at ho
  simp only [Bool.and_eq_true, inI, decide_eq_true_eq] at ho
  intro e
  have := ho.1.1.1
  omega
theorem Sn.unused_tr {c : Sn} (h : c.unused = true) : c.tr = 0 := by
  unfold Sn.unused at h
  simp only [Bool.and_eq_true, decide_eq_true_eq] at h
  exact h.1
theorem Sn.used_tr {c : Sn} (h : c.unused = false) (ho : c.ok = true) : c.tr ≠ 0 := by
  rw [Sn.ok_used h] at ho
  simp only [Bool.and_eq_true, inI, decide_eq_true_eq] at ho
  intro e
  have := ho.1
  omega
theorem Nd.ok_prog (n : Nd) : n.ok = (inI n.id 0 1 && (Sr.ok ⟨n.xs, n.ys, n.h⟩ && (n.logP && (n.copP && n.snkP)))) := by
  have hl := recall_le n.log
  rw [Bool.eq_iff_iff, Nd.ok_iff]
  unfold Sr.ok Nd.logP
  simp only [Bool.and_eq_true, decide_eq_true_eq, sameR_iff]
  constructor
  · intro h
    refine ⟨h.id, ⟨h.dk, h.h⟩, ⟨h.ll, ⟨h.lg.is, h.lg.rc⟩, ?_⟩, ?_, ?_⟩
    · cases hu : n.up with
      | false => rfl
      | true =>
        simp only [Bool.not_true, Bool.false_or, decide_eq_true_eq]
        exact (take_all _ _ hl).2 (h.lg.al hu)
    · unfold Nd.copP
      cases hc : n.c.unused with
      | true => rfl
      | false =>
        have ht := Cp.used_tr hc h.c
        obtain ⟨q1, q2, q3⟩ := h.cp ht
        have hu : n.up = true := by
          cases hu : n.up with
          | true => rfl
          | false => exact absurd (h.dn hu).1 ht
        simp [hu, q1, h.c, q3, ← q2]
    · unfold Nd.snkP
      cases hc : n.s.unused with
      | true => rfl
      | false =>
        have ht := Sn.used_tr hc h.s
        obtain ⟨q1, q2, q3⟩ := h.sk ht
        have hu : n.up = true := by
          cases hu : n.up with
          | true => rfl
          | false => exact absurd (h.dn hu).2 ht
        simp [hu, q1, h.s, q3, ← q2]
  · rintro ⟨h1, ⟨h2, h3⟩, ⟨h4, ⟨h5, h6⟩, h7⟩, h8, h9⟩
    have hc : n.c.ok = true ∧ (n.up = false → n.c.tr = 0) ∧ (n.c.tr ≠ 0 → n.r.s ≠ 3 ∧ n.c.tr = n.r.t ∧ n.c.ts.length = n.ys.length) := by
      unfold Nd.copP at h8
      cases hc : n.c.unused with
      | true => exact ⟨Cp.ok_unused hc, fun _ => Cp.unused_tr hc, fun e => absurd (Cp.unused_tr hc) e⟩
      | false =>
        rw [hc] at h8
        simp only [Bool.false_or, Bool.and_eq_true, decide_eq_true_eq] at h8
        obtain ⟨⟨⟨⟨a1, a2⟩, a3⟩, a4⟩, a5⟩ := h8
        exact ⟨a4, fun e => by rw [a1] at e; (cases e), fun _ => ⟨a2, a3, a5⟩⟩
    have hs : n.s.ok = true ∧ (n.up = false → n.s.tr = 0) ∧ (n.s.tr ≠ 0 → n.r.s = 3 ∧ n.s.tr = n.r.n ∧ n.s.ts.length = n.ys.length) := by
      unfold Nd.snkP at h9
      cases hc : n.s.unused with
      | true => exact ⟨Sn.ok_unused hc, fun _ => Sn.unused_tr hc, fun e => absurd (Sn.unused_tr hc) e⟩
      | false =>
        rw [hc] at h9
        simp only [Bool.false_or, Bool.and_eq_true, decide_eq_true_eq] at h9
        obtain ⟨⟨⟨⟨a1, a2⟩, a3⟩, a4⟩, a5⟩ := h9
        exact ⟨a4, fun e => by rw [a1] at e; (cases e), fun _ => ⟨a2, a3, a5⟩⟩
    have hr : n.r.ok = true := by rw [← h6]; exact recall_ok n.log h5
    refine ⟨h1, h2, h3, hr, h4, hc.1, hs.1, ⟨h5, h6, fun hu => ?_⟩, fun hu => ⟨hc.2.1 hu, hs.2.1 hu⟩, hc.2.2, hs.2.2⟩
    rw [hu] at h7
    simp only [Bool.not_true, Bool.false_or, decide_eq_true_eq] at h7
    exact (take_all _ _ hl).1 h7
end Go.Proofs.YtlkkpolnllbljaaGreatDoor
/- idOk of the program. -/
namespace Go.Proofs.YtlkkpolnllbljaaGreatDoor
open Go.ChangeShapes Go.WideShapes Go.ChangeAt Go.RowKit

set_option maxRecDepth 20000 in
set_option maxHeartbeats 400000 in
theorem iidok_any (x : Int) (w : World) :
    Calls Tryz.prog 62 #[.int .i64 x] w fun e w' => e = .returned (.bool (inI x 0 1)) ∧ w' = w := by
  by_cases h0 : 0 ≤ x
  · by_cases h1 : x ≤ 1
    · rw [show inI x 0 1 = true by simp [inI, h0, h1]]
      go_enter Tryz.func62, Tryz.ntmps62
      go_wp2
      go_ret
      exact ⟨ret_bool (by simp <;> omega), rfl⟩
    · rw [show inI x 0 1 = false by simp [inI]; omega]
      go_enter Tryz.func62, Tryz.ntmps62
      go_wp2
      go_ret
      exact ⟨ret_bool (by simp <;> omega), rfl⟩
  · rw [show inI x 0 1 = false by simp [inI]; omega]
    go_enter Tryz.func62, Tryz.ntmps62
    go_wp2
    go_ret
    exact ⟨ret_bool (by simp <;> omega), rfl⟩
end Go.Proofs.YtlkkpolnllbljaaGreatDoor
/- How the laws take a store over, measure it, compare two, mark one and look at the marks. -/
namespace Go.Proofs.YtlkkpolnllbljaaGreatDoor
open Go.ChangeShapes Go.WideShapes Go.ChangeAt Go.RowKit

theorem Tryz.isR : IsS 96 6 := ⟨⟨_, Tryz.underlying96⟩, by kernel_rfl⟩
/- A store's three lists, each in a block of its own. -/
def OwnR (w : World) (base : Nat) (a b k : Value) (xs ys ks : List Int) : Prop := OwnD w base a b xs ys ∧ Own w base k ks ∧ apart a k ∧ apart b k
def zeR : Array Value := #[.slice none 0 0, .slice none 0 0, .slice none 0 0, .int .i64 0, .int .i64 0, .int .i64 0]
theorem srA_one {a b k : Value} (h : Hd) (ha : a.oneCell' = true) (hb : b.oneCell' = true) (hk : k.oneCell' = true) : (srA a b k h).all (·.oneCell') = true := by
  unfold srA
  simp [ha, hb, hk, show ∀ k n, (Value.int k n).oneCell' = true from fun _ _ => rfl]
theorem OwnR.below {w w' : World} {base : Nat} {a b k : Value} {xs ys ks : List Int} (h : OwnR w base a b k xs ys ks) (e : Below w.heap.size w w') : OwnR w' base a b k xs ys ks :=
  ⟨⟨h.1.1.below e, h.1.2.1.below e, h.1.2.2⟩, h.2.1.below e, h.2.2⟩
theorem OwnR.mono {w : World} {base base' : Nat} {a b k : Value} {xs ys ks : List Int} (h : OwnR w base a b k xs ys ks) (e : base' ≤ base) : OwnR w base' a b k xs ys ks :=
  ⟨⟨h.1.1.mono e, h.1.2.1.mono e, h.1.2.2⟩, h.2.1.mono e, h.2.2⟩
theorem OwnR.keptLt {w w' : World} {base g : Nat} {a b k : Value} {xs ys ks : List Int} (h : OwnR w base a b k xs ys ks) (e : w.grownBy w' (some g)) (hg : g < base) : OwnR w' base a b k xs ys ks :=
  ⟨⟨h.1.1.keptLt e hg, h.1.2.1.keptLt e hg, h.1.2.2⟩, h.2.1.keptLt e hg, h.2.2⟩
theorem OwnR.nil (w : World) (base : Nat) : OwnR w base (.slice none 0 0) (.slice none 0 0) (.slice none 0 0) [] [] [] :=
  ⟨⟨Own.nil w base, Own.nil w base, ⟨.inl rfl, .inl rfl⟩⟩, Own.nil w base, ⟨.inl rfl, .inl rfl⟩, ⟨.inl rfl, .inl rfl⟩⟩
end Go.Proofs.YtlkkpolnllbljaaGreatDoor
/- The model's store: StoreOk, l12Copy. -/
namespace Go.Proofs.YtlkkpolnllbljaaGreatDoor
open Go.ChangeShapes Go.WideShapes Go.ChangeAt Go.RowKit
end Go.Proofs.YtlkkpolnllbljaaGreatDoor
/- Arrays of eight numbers in memory: 'Row w g f': block g holds them. What a load, a store, a new one make of it. And rowOf, rowsOf, list, valueOk, countOk answer what plain lists say. -/
namespace Go.Proofs.YtlkkpolnllbljaaGreatDoor
open Go.ChangeShapes Go.WideShapes Go.ChangeAt Go.RowKit

def rowA (f : Nat → Int) : Array Value := #[.int .i64 (f 0), .int .i64 (f 1), .int .i64 (f 2), .int .i64 (f 3), .int .i64 (f 4), .int .i64 (f 5), .int .i64 (f 6), .int .i64 (f 7)]
def upd (f : Nat → Int) (j : Nat) (x : Int) : Nat → Int := fun k => if k = j then x else f k

def Row (w : World) (g : Nat) (f : Nat → Int) : Prop := w.heap[g]? = some (.cells (rowA f) 165 (0, 0))

theorem eight {p : Nat → Prop} (h0 : p 0) (h1 : p 1) (h2 : p 2) (h3 : p 3) (h4 : p 4) (h5 : p 5) (h6 : p 6) (h7 : p 7) : ∀ j, j < 8 → p j
  | 0, _ => h0 | 1, _ => h1 | 2, _ => h2 | 3, _ => h3 | 4, _ => h4 | 5, _ => h5 | 6, _ => h6 | 7, _ => h7
  | _ + 8, h => by omega

theorem rowA_at (f : Nat → Int) : ∀ j, j < 8 → (rowA f)[j]? = some (.int .i64 (f j)) := eight rfl rfl rfl rfl rfl rfl rfl rfl
theorem rowA_set (f : Nat → Int) (x : Int) : ∀ j, j < 8 → (rowA f).setIfInBounds j (.int .i64 x) = rowA (upd f j x) := eight rfl rfl rfl rfl rfl rfl rfl rfl
theorem rowA_size (f : Nat → Int) : (rowA f).size = 8 := rfl
theorem rowA_one (f : Nat → Int) : (rowA f).all (·.oneCell') = true := by simp [rowA, Value.oneCell']
theorem rowA_congr {f g : Nat → Int} (h : ∀ j, j < 8 → f j = g j) : rowA f = rowA g := by
  simp [rowA, h 0, h 1, h 2, h 3, h 4, h 5, h 6, h 7]

theorem Row.cell {w : World} {g : Nat} {f : Nat → Int} (h : Row w g f) (j : Nat) (hj : j < 8) : w.cell? ⟨g, j, none⟩ = some (.int .i64 (f j)) := by
  rw [cell_of_row w g j _ _ _ h, rowA_at f j hj]
theorem Row.frozen {w : World} {g : Nat} {f : Nat → Int} (h : Row w g f) (j : Nat) : w.frozen? ⟨g, j, none⟩ = false := frozen_of_row w g j _ _ h
theorem Row.lt {w : World} {g : Nat} {f : Nat → Int} (h : Row w g f) : g < w.heap.size := by
  rcases Nat.lt_or_ge g w.heap.size with hlt | hge
  · exact hlt
  · rw [Row, Array.getElem?_eq_none hge] at h; cases h
theorem Row.below {w w' : World} {g : Nat} {f : Nat → Int} (h : Row w g f) (hb : Below w.heap.size w w') : Row w' g f := (hb.block g h.lt).trans h
theorem Row.alloc {w : World} {g : Nat} {f : Nat → Int} (h : Row w g f) (o : Obj) : Row (w.alloc o) g f := (Below.heap_alloc w o g h.lt).trans h
theorem Row.new (w : World) (f : Nat → Int) : Row (w.alloc (.cells (rowA f) 165)) w.heap.size f := heap_alloc_new w _
theorem Row.setCell {w : World} {g : Nat} {f : Nat → Int} (h : Row w g f) (j : Nat) (hj : j < 8) (x : Int) : Row (w.setCell ⟨g, j, none⟩ (.int .i64 x)) g (upd f j x) := by
  have := heap_setCell_same w g j _ _ (.int .i64 x) h
  rw [rowA_set f x j hj] at this
  exact this
theorem Row.other {w : World} {g : Nat} {f : Nat → Int} (h : Row w g f) (a : Addr) (v : Value) (hne : g ≠ a.block) : Row (w.setCell a v) g f := (heap_setCell_other w a g v hne).trans h
theorem Row.setRow {w : World} {g : Nat} {f : Nat → Int} (h : Row w g f) (f' : Nat → Int) : Row (w.setRow g (rowA f')) g f' := setRow_heap w g _ _ _ _ h
theorem Row.setRow_other {w : World} {g k : Nat} {f : Nat → Int} (h : Row w g f) (cs : Array Value) (hne : g ≠ k) : Row (w.setRow k cs) g f := (_root_.Go.setRow_other w k g cs hne).trans h
theorem below_row {B g : Nat} {w0 w : World} (h : Below B w0 w) (hB : B ≤ g) (cs : Array Value) : Below B w0 (w.setRow g cs) :=
  h.trans ⟨rfl, rfl, rfl, by simp, fun k hk => _root_.Go.setRow_other w g k cs (by omega)⟩

theorem Tryz.info8 (f : Nat → Int) : (Tryz.prog.info? 165).map (·.size) = some (rowA f).size := by
  rw [rowA_size]; kernel_rfl
theorem Tryz.under8 : Tryz.prog.underlying 165 = some (.array 8 2) := by kernel_rfl

theorem grown_setRow (w : World) (g : Nat) (cs : Array Value) : w.grownBy (w.setRow g cs) (some g) :=
  ⟨rfl, rfl, rfl, by simp, fun k _ hne => _root_.Go.setRow_other w g k cs (fun e => hne (by rw [e]))⟩
theorem Row.kept {w w' : World} {g : Nat} {f : Nat → Int} {row : Option Nat} (h : Row w g f) (hg : w.grownBy w' row) (hne : some g ≠ row) : Row w' g f := (hg.block g h.lt hne).trans h
theorem wpList_get8 {ops : Array Oper} {rest : List Oper} {o : Oper} {a : Act} {w : World} {Q : Exit → Act → World → Prop} (hgd : o.guard = none) (x : Operand) (ho : o.op = .load 165 x)
    (g : Nat) (hx : a.eval x = .pointer (some ⟨g, 0, none⟩)) (f : Nat → Int) (hr : Row w g f)
    (h : wpList Tryz.prog ops Q rest (a.put o.dst (.agg (rowA f))) w) : wpList Tryz.prog ops Q (o :: rest) a w :=
  wpList_load_row hgd _ x ho g hx _ _ _ _ hr Tryz.under8 rfl (Tryz.info8 f) h
theorem wpList_put8 {ops : Array Oper} {rest : List Oper} {o : Oper} {a : Act} {w : World} {Q : Exit → Act → World → Prop} (hgd : o.guard = none) (x y : Operand) (ho : o.op = .store 165 x y)
    (g : Nat) (f : Nat → Int) (hx : a.eval x = .pointer (some ⟨g, 0, none⟩)) (hy : a.eval y = .agg (rowA f)) (old : Nat → Int) (hr : Row w g old)
    (h : ∀ w', Row w' g f → w.grownBy w' (some g) → wpList Tryz.prog ops Q rest (a.put o.dst undef) w') : wpList Tryz.prog ops Q (o :: rest) a w :=
  wpList_store_row hgd _ x y ho g (rowA f) hx hy _ _ hr (Tryz.info8 f) rfl (rowA_one f) (h _ (hr.setRow f) (grown_setRow w g _))

set_option maxRecDepth 20000 in
set_option maxHeartbeats 400000 in
theorem val_any (x : Int) (w : World) :
    Calls Tryz.prog 218 #[.int .i64 x] w fun e w' => e = .returned (.bool (valOk x)) ∧ w' = w := by
  by_cases h0 : 0 ≤ x
  · by_cases h1 : x ≤ 9999
    · rw [valOk_yes h0 h1]
      go_enter Tryz.func218, Tryz.ntmps218
      go_wp2
      go_ret
      exact ⟨ret_bool (by simp), rfl⟩
    · rw [valOk_no (by omega)]
      go_enter Tryz.func218, Tryz.ntmps218
      go_wp2
      go_ret
      exact ⟨ret_bool (by simp), rfl⟩
  · rw [valOk_no (by omega)]
    go_enter Tryz.func218, Tryz.ntmps218
    go_wp2
    go_ret
    exact ⟨ret_bool (by simp), rfl⟩

set_option maxRecDepth 20000 in
set_option maxHeartbeats 400000 in
theorem cnt_any (x : Int) (w : World) :
    Calls Tryz.prog 191 #[.int .i64 x] w fun e w' => e = .returned (.bool (cntOk x)) ∧ w' = w := by
  by_cases h0 : 1 ≤ x
  · by_cases h1 : x ≤ 8
    · rw [cntOk_yes h0 h1]
      go_enter Tryz.func191, Tryz.ntmps191
      go_wp2
      go_ret
      exact ⟨ret_bool (by simp), rfl⟩
    · rw [cntOk_no (by omega)]
      go_enter Tryz.func191, Tryz.ntmps191
      go_wp2
      go_ret
      exact ⟨ret_bool (by simp), rfl⟩
  · rw [cntOk_no (by omega)]
    go_enter Tryz.func191, Tryz.ntmps191
    go_wp2
    go_ret
    exact ⟨ret_bool (by simp), rfl⟩
end Go.Proofs.YtlkkpolnllbljaaGreatDoor
/- rowOf: the blocks of a list as an array, where they are blocks. -/
namespace Go.Proofs.YtlkkpolnllbljaaGreatDoor
open Go.ChangeShapes Go.WideShapes Go.ChangeAt Go.RowKit

def partF (xs : List Int) (j : Nat) : Nat → Int := fun k => if k < j then xs.getD k 0 else 0
def rowF (xs : List Int) : Nat → Int := fun j => if blocksOk xs then xs.getD j 0 else 0
theorem partF_step (xs : List Int) (j : Nat) : upd (partF xs j) j (xs.getD j 0) = partF xs (j + 1) := by
  funext k
  unfold upd partF
  by_cases e : k = j
  · subst e; simp
  · have : k < j + 1 ↔ k < j := by omega
    simp [e, this]
theorem partF_zero (xs : List Int) : partF xs 0 = fun _ => 0 := by funext k; simp [partF]
theorem partF_full (xs : List Int) : partF xs xs.length = fun k => xs.getD k 0 := by
  funext k
  unfold partF
  split
  · rfl
  · rw [getD_past xs k (by omega)]

theorem results_row {fn : Func} {p u : Tmp} (h : fn.results = #[.cell p 165, .tmp u]) (tmps : Array Value) (w : World) (g : Nat) (f : Nat → Int) (x : Value)
    (hp : tmps.getD p undef = .pointer (some ⟨g, 0, none⟩)) (hx : tmps.getD u undef = x) (hr : Row w g f) :
    (results fn tmps).run Tryz.prog w = .ok (.tuple #[.agg (rowA f), x]) w := by
  rw [results_cell_tmp h, hp, hx]
  simp only [asAddr, Sem.run_pure, Result.andThen_ok]
  rw [run_loadVar_row w g _ _ _ _ _ hr Tryz.under8 rfl (Tryz.info8 f)]
  rfl

theorem rowF_yes {xs : List Int} (h : blocksOk xs = true) : rowF xs = fun k => xs.getD k 0 := by funext k; simp [rowF, h]
theorem rowF_no {xs : List Int} (h : blocksOk xs = false) : rowF xs = fun _ => 0 := by funext k; simp [rowF, h]
theorem row_zero : (#[.int .i64 0, .int .i64 0, .int .i64 0, .int .i64 0, .int .i64 0, .int .i64 0, .int .i64 0, .int .i64 0] : Array Value) = rowA (fun _ => 0) := rfl

def RowRel (xs : List Int) (w wr : World) (j : Nat) : Prop := Row wr w.heap.size (fun _ => 0) ∧ Row wr (w.heap.size + 1) (partF xs j) ∧ (xs.take j).all valOk = true ∧ Below w.heap.size w wr

theorem RowRel.start (xs : List Int) (w : World) : RowRel xs w ((w.alloc (.cells (rowA fun _ => 0) 165)).alloc (.cells (rowA fun _ => 0) 165)) 0 := by
  refine ⟨(Row.new w _).alloc _, ?_, by simp, ((Below.refl _ _).alloc (Nat.le_refl _) _).alloc (by simp) _⟩
  have := Row.new (w.alloc (.cells (rowA fun _ => 0) 165)) (fun _ => 0)
  rw [partF_zero]
  simpa using this

set_option maxRecDepth 20000 in
set_option maxHeartbeats 1000000 in
theorem rowOf_any (v : Value) (xs : List Int) (w : World) (h : Reads w v xs) (hbig : xs.length ≤ 1099511627776) :
    Calls Tryz.prog 181 #[v] w fun e w' => e = .returned (.tuple #[.agg (rowA (rowF xs)), .bool (blocksOk xs)]) ∧ Below w.heap.size w w' := by
  obtain ⟨ao, cap, rfl⟩ := h.form
  obtain ⟨-, la, ma, hcell⟩ := h.cellOf
  clear h
  obtain ⟨n, hn⟩ : ∃ n, n = xs.length := ⟨_, rfl⟩
  rw [← hn] at la hcell hbig ⊢
  have HN : Hid (n = xs.length) := hn
  clear hn
  unfold maxLen at ma
  by_cases hc : cntOk (n : Int) = true
  · have h8 : n ≤ 8 := by simp [cntOk] at hc; omega
    have HL : Hid (lenOk xs.length = true) := by rw [Hid, ← HN.out]; exact hc
    go_enter Tryz.func181, Tryz.ntmps181
    go_wp2_with (first | (go_at_call 191; refine (cnt_any _ _).mono ?_; rw [hc]; rintro e w' ⟨rfl, hw⟩; subst w'))
    clear hc
    go_loopw [14] (fun i wr => ∃ j : Nat, j ≤ n ∧ i = .int .i64 j ∧ Hid (RowRel xs w wr j)) (fun i _ => n - (intOf i).toNat)
    case atStart => exact ⟨0, Nat.zero_le _, rfl, RowRel.start xs w⟩
    case round =>
      obtain ⟨j, hj, rfl, HR⟩ := hrel
      by_cases hlt : (j : Int) < (n : Int)
      · obtain ⟨b, off, rfl, hb, hc0⟩ := hcell j (by omega)
        have hc1 := (HR.out.2.2.2.cell (p := ⟨b, off + j, none⟩) hb).trans hc0
        obtain ⟨x, hx⟩ : ∃ x, x = xs.getD j 0 := ⟨_, rfl⟩
        rw [← hx] at hc1
        clear hc0 hcell
        by_cases hv : valOk x = true
        · have hfr := HR.out.2.1.frozen j
          have hcc := HR.out.2.1.cell j (by omega)
          have HS : Hid (RowRel xs w (wr.setCell ⟨w.heap.size + 1, j, none⟩ (.int .i64 x)) (j + 1)) := by
            obtain ⟨r1, r2, r3, r4⟩ := HR.out
            refine ⟨r1.other _ _ (by simp), ?_, all_snoc (by have := HN.out; omega) r3 (by rw [← hx]; exact hv), r4.setCell (by simp) _⟩
            have := r2.setCell j (by omega) x
            rwa [hx, partF_step, ← hx] at this
          clear hx HR
          go_wp2_with (first | (go_at_call 218; refine (val_any _ _).mono ?_; rw [hv]; rintro e w' ⟨rfl, hw⟩; subst w'))
          go_roundw
          case rel => exact ⟨j + 1, by omega, by go_num, HS⟩
          case measure => simp [intOf]; omega
        · have hv' : valOk x = false := by simpa using hv
          have HB : Hid (blocksOk xs = false) := by
            simp [Hid, blocksOk, all_not (xs := xs) (j := j) (by have := HN.out; omega) (by rw [← hx]; exact hv')]
          have hrow := HR.out.1
          clear hx hv
          go_wp2_with (first | (go_at_call 218; refine (val_any _ _).mono ?_; rw [hv']; rintro e w' ⟨rfl, hw⟩; subst w') | (refine wpList_store_row rfl 165 _ _ rfl w.heap.size (rowA fun _ => 0) rfl rfl _ _ hrow (Tryz.info8 _) rfl (rowA_one _) ?_))
          refine bodyPost_ret (results_row rfl _ _ w.heap.size (fun _ => 0) _ rfl rfl (hrow.setRow _)) rfl ?_
          rw [HB.out, rowF_no HB.out]
          exact ⟨rfl, below_row HR.out.2.2.2 (Nat.le_refl _) _⟩
      · have hrow := HR.out.1
        have hrow2 := HR.out.2.1
        go_wp2_with (first | (refine wpList_load_row rfl 165 _ rfl (w.heap.size + 1) rfl _ _ _ _ hrow2 Tryz.under8 rfl (Tryz.info8 _) ?_) | (refine wpList_store_row rfl 165 _ _ rfl w.heap.size (rowA (partF xs j)) rfl rfl _ _ hrow (Tryz.info8 _) rfl (rowA_one _) ?_))
        refine bodyPost_ret (results_row rfl _ _ w.heap.size (partF xs j) _ rfl rfl (hrow.setRow _)) rfl ?_
        have e : j = xs.length := by have := HN.out; omega
        have HB : blocksOk xs = true := by
          have := HR.out.2.2.1
          rw [e, List.take_length] at this
          simp [blocksOk, this, HL.out]
        rw [HB, rowF_yes HB, e, partF_full]
        exact ⟨rfl, below_row HR.out.2.2.2 (Nat.le_refl _) _⟩
  · have hc' : cntOk (n : Int) = false := by simpa using hc
    have HB : Hid (blocksOk xs = false) := by
      have := HN.out
      rw [cntOk_len, this] at hc'
      simp [Hid, blocksOk, hc']
    clear hc
    go_enter Tryz.func181, Tryz.ntmps181
    go_wp2_with (first | (go_at_call 191; refine (cnt_any _ _).mono ?_; rw [hc']; rintro e w' ⟨rfl, hw⟩; subst w'))
    refine bodyPost_ret (results_row rfl _ _ w.heap.size (fun _ => 0) _ rfl rfl (RowRel.start xs w).1) rfl ?_
    rw [HB.out, rowF_no HB.out]
    exact ⟨rfl, ((Below.refl _ _).alloc (Nat.le_refl _) _).alloc (by simp) _⟩
end Go.Proofs.YtlkkpolnllbljaaGreatDoor
/- The program's BlocksOk, NewBlocks and Put answer what plain lists say, in new memory, and write nothing that was there. -/
namespace Go.Proofs.YtlkkpolnllbljaaGreatDoor
open Go.ChangeShapes Go.WideShapes Go.ChangeAt Go.RowKit

def listF (f : Nat → Int) (n : Nat) : List Int := (List.range n).map f
theorem listF_len (f : Nat → Int) (n : Nat) : (listF f n).length = n := by simp [listF]
theorem listF_getD (xs : List Int) : listF (fun k => xs.getD k 0) xs.length = xs := by
  apply List.ext_getElem
  · simp [listF]
  · intro j h1 h2
    simp [listF, List.getD, h2]

set_option maxRecDepth 20000 in
set_option maxHeartbeats 1000000 in
theorem list_any (f : Nat → Int) (n : Nat) (w : World) (h8 : n ≤ 8) :
    Calls Tryz.prog 285 #[.agg (rowA f), .int .i64 n] w fun e w' => ∃ u, e = .returned u ∧ Own w' w.heap.size u (listF f n) ∧ Below w.heap.size w w' := by
  obtain ⟨i0, hi, hz0, hz1, hz2⟩ := info_parts Tryz.infoI
  have h8' : (n : Int) ≤ 8 := by omega
  obtain ⟨w1, hw1⟩ : ∃ w1, w1 = (w.alloc (.cells (rowA f) 165)).alloc (.cells #[] 2) := ⟨_, rfl⟩
  have hown : w1.ownsRow w.heap.size 2 1 (.slice (some ⟨w.heap.size + 1, 0, none⟩) 0 0) 0 [] := by
    have := World.ownsRow_lit (base := w.heap.size) (e := 2) (size := 1) (w.alloc (.cells (rowA f) 165)) #[] 0 (by simp) (Nat.zero_le _) rfl
    rw [hw1]
    simpa using this
  have hrow : Row w1 w.heap.size f := by rw [hw1]; exact (Row.new w f).alloc _
  have hnews : ∀ j u, ((listF f n).map (Value.int .i64))[j]? = some u → w1.cell? ((⟨w.heap.size, 0, none⟩ : Addr).add j) = some u := by
    intro j u hj
    have hlt : j < n := by
      rcases Nat.lt_or_ge j n with h | h
      · exact h
      · rw [List.getElem?_eq_none (by simpa [listF] using h)] at hj; cases hj
    rw [show (⟨w.heap.size, 0, none⟩ : Addr).add j = ⟨w.heap.size, j, none⟩ by unfold Addr.add; split <;> simp_all]
    rw [hrow.cell j (by omega)]
    simp [listF, hlt] at hj ⊢
    exact hj
  have hone : ∀ u ∈ (listF f n).map (Value.int .i64), u.oneCell' = true := by
    intro u hu
    obtain ⟨x, _, rfl⟩ := List.mem_map.1 hu
    rfl
  have hll : ((listF f n).map (Value.int .i64)).length = n * 1 := by simp [listF]
  have hb1 : Below w.heap.size w w1 := by rw [hw1]; exact ((Below.refl _ _).alloc (Nat.le_refl _) _).alloc (by simp) _
  go_enter Tryz.func285, Tryz.ntmps285
  go_wp2_with (at_builtin; rw [← hw1]; refine wpList_append_own _ rfl _ _ 22 rfl w.heap.size 2 i0 (.int .i64 0) 1 8 Tryz.underlying22 hi hz0 hz1 hz2 rfl (by decide) _ _ _ rfl hown _ n 8 ((listF f n).map (Value.int .i64)) rfl hll hnews hone (by unfold maxLen; omega) (by omega) hb1.size ?_)
  intro v' w2 hown' hgrow _
  rw [← hw1] at hgrow
  have HG : Hid (Below w.heap.size w w2) := hb1.grown hgrow hb1.size (fun g e => by simp [Value.ownBlock] at e; omega)
  go_wp2
  go_ret
  refine ⟨_, rfl, ?_, HG.out⟩
  unfold Own
  simpa [listF_len] using hown'

theorem listF_set (xs : List Int) (i : Nat) (x : Int) : listF (upd (fun k => xs.getD k 0) i x) xs.length = xs.set i x := by
  apply List.ext_getElem
  · simp [listF]
  · intro j h1 h2
    have h3 : j < xs.length := by simpa [listF] using h1
    rw [List.getElem_set]
    by_cases e : i = j
    · subst e; simp [listF, upd]
    · have e' : ¬ j = i := fun h => e h.symm
      simp [listF, upd, e, e', List.getD, h3]

set_option maxRecDepth 20000 in
set_option maxHeartbeats 1000000 in
theorem put_any (v : Value) (xs : List Int) (i x : Int) (w : World) (h : Reads w v xs) (hbig : xs.length ≤ 1099511627776) :
    Calls Tryz.prog 270 #[v, .int .i64 i, .int .i64 x] w fun e w' => ∃ u, e = .returned (.tuple #[u, .bool (putB xs i x)]) ∧ Own w' w.heap.size u (putI xs i x) ∧ Below w.heap.size w w' := by
  have c1 := rowOf_any v xs w h hbig
  obtain ⟨ao, cap, rfl⟩ := h.form
  clear h
  obtain ⟨n, hn⟩ : ∃ n, n = xs.length := ⟨_, rfl⟩
  by_cases hok : blocksOk xs = true
  · have hlen := blocksOk_len hok
    rw [hok, rowF_yes hok] at c1
    obtain ⟨f, hf⟩ : ∃ f : Nat → Int, f = fun k => xs.getD k 0 := ⟨_, rfl⟩
    have HL : Hid (listF f n = xs) := by rw [Hid, hf, hn]; exact listF_getD xs
    have HL2 : Hid (∀ i x, listF (upd f i x) n = xs.set i x) := by rw [hf, hn]; exact listF_set xs
    rw [← hf] at c1
    clear hf
    rw [← hn] at c1 hbig hlen ⊢
    by_cases h0 : 0 ≤ i
    · by_cases h1 : i < (n : Int)
      · by_cases hv : valOk x = true
        · have HB : Hid (putB xs i x = true ∧ putI xs i x = xs.set i.toNat x) := by
            simp [Hid, putB, putI, hok, placeOk, hv, h0, ← hn, h1]
          clear hn hok
          go_enter Tryz.func270, Tryz.ntmps270
          go_wp2_with fail
          refine c1.mono ?_
          rintro e w1 ⟨rfl, b1⟩
          go_wp2_with (refine wpList_put8 rfl _ _ rfl w1.heap.size f rfl rfl (fun _ => 0) (Row.new w1 fun _ => 0) ?_)
          intro w2 r2 g2
          have b2 : Below w.heap.size w w2 := (b1.alloc b1.size _).grown g2 (by simp; have := b1.size; omega) (fun k e => by cases e; exact b1.size)
          have hfr := r2.frozen i.toNat
          have hc2 := r2.cell i.toNat (by omega)
          have r3 := r2.setCell i.toNat (by omega) x
          have b3 : Hid (Below w.heap.size w (w2.setCell ⟨w1.heap.size, i.toNat, none⟩ (.int .i64 x))) := b2.setCell (p := ⟨w1.heap.size, i.toNat, none⟩) b1.size (.int .i64 x)
          clear g2 b2 r2
          go_wp2_with (first
            | (go_at_call 218; refine (val_any _ _).mono ?_; rw [hv]; rintro e w' ⟨rfl, hw⟩; subst w')
            | (refine wpList_get8 rfl _ rfl w1.heap.size rfl _ r3 ?_)
            | (go_at_call 285; refine (list_any _ n _ (by omega)).mono ?_; rintro e w4 ⟨u, rfl, o4, b4⟩; rw [HL2.out] at o4; have HU : Hid (Own w4 w.heap.size u (xs.set i.toNat x) ∧ Below w.heap.size w w4) := ⟨o4.mono b3.out.size, b3.out.trans (b4.mono b3.out.size)⟩; clear o4 b4))
          go_ret2
          rw [HB.out.1, HB.out.2]
          exact ⟨_, rfl, HU.out⟩
        · have HB : Hid (putB xs i x = false ∧ putI xs i x = xs) := by
            have hv : valOk x = false := by simpa using hv
            simp [Hid, putB, putI, hok, placeOk, hv]
          replace hv : valOk x = false := by simpa using hv
          clear hn hok
          go_enter Tryz.func270, Tryz.ntmps270
          go_wp2_with fail
          refine c1.mono ?_
          rintro e w1 ⟨rfl, b1⟩
          go_wp2_with (refine wpList_put8 rfl _ _ rfl w1.heap.size f rfl rfl (fun _ => 0) (Row.new w1 fun _ => 0) ?_)
          intro w2 r2 g2
          have b2 : Hid (Below w.heap.size w w2) := (b1.alloc b1.size _).grown g2 (by simp; have := b1.size; omega) (fun k e => by cases e; exact b1.size)
          clear g2
          go_wp2_with (first
            | (go_at_call 218; refine (val_any _ _).mono ?_; rw [hv]; rintro e w' ⟨rfl, hw⟩; subst w')
            | (refine wpList_get8 rfl _ rfl w1.heap.size rfl _ r2 ?_)
            | (go_at_call 285; refine (list_any _ n _ (by omega)).mono ?_; rw [HL.out]; rintro e w4 ⟨u, rfl, o4, b4⟩; have HU : Hid (Own w4 w.heap.size u xs ∧ Below w.heap.size w w4) := ⟨o4.mono b2.out.size, b2.out.trans (b4.mono b2.out.size)⟩; clear o4 b4))
          go_ret2
          rw [HB.out.1, HB.out.2]
          exact ⟨_, rfl, HU.out⟩
      · have HB : Hid (putB xs i x = false ∧ putI xs i x = xs) := by
          simp [Hid, putB, putI, hok, placeOk, ← hn]; omega
        obtain ⟨bv, hv⟩ : ∃ bv, valOk x = bv := ⟨_, rfl⟩
        clear hn hok
        go_enter Tryz.func270, Tryz.ntmps270
        go_wp2_with fail
        refine c1.mono ?_
        rintro e w1 ⟨rfl, b1⟩
        go_wp2_with (refine wpList_put8 rfl _ _ rfl w1.heap.size f rfl rfl (fun _ => 0) (Row.new w1 fun _ => 0) ?_)
        intro w2 r2 g2
        have b2 : Hid (Below w.heap.size w w2) := (b1.alloc b1.size _).grown g2 (by simp; have := b1.size; omega) (fun k e => by cases e; exact b1.size)
        clear g2
        go_wp2_with (first
          | (go_at_call 218; refine (val_any _ _).mono ?_; rw [hv]; rintro e w' ⟨rfl, hw⟩; subst w')
          | (refine wpList_get8 rfl _ rfl w1.heap.size rfl _ r2 ?_)
          | (go_at_call 285; refine (list_any _ n _ (by omega)).mono ?_; rw [HL.out]; rintro e w4 ⟨u, rfl, o4, b4⟩; have HU : Hid (Own w4 w.heap.size u xs ∧ Below w.heap.size w w4) := ⟨o4.mono b2.out.size, b2.out.trans (b4.mono b2.out.size)⟩; clear o4 b4))
        go_ret2
        rw [HB.out.1, HB.out.2]
        exact ⟨_, rfl, HU.out⟩
    · have HB : Hid (putB xs i x = false ∧ putI xs i x = xs) := by
        simp [Hid, putB, putI, hok, placeOk]; omega
      obtain ⟨bv, hv⟩ : ∃ bv, valOk x = bv := ⟨_, rfl⟩
      clear hn hok
      go_enter Tryz.func270, Tryz.ntmps270
      go_wp2_with fail
      refine c1.mono ?_
      rintro e w1 ⟨rfl, b1⟩
      go_wp2_with (refine wpList_put8 rfl _ _ rfl w1.heap.size f rfl rfl (fun _ => 0) (Row.new w1 fun _ => 0) ?_)
      intro w2 r2 g2
      have b2 : Hid (Below w.heap.size w w2) := (b1.alloc b1.size _).grown g2 (by simp; have := b1.size; omega) (fun k e => by cases e; exact b1.size)
      clear g2
      go_wp2_with (first
        | (go_at_call 218; refine (val_any _ _).mono ?_; rw [hv]; rintro e w' ⟨rfl, hw⟩; subst w')
        | (refine wpList_get8 rfl _ rfl w1.heap.size rfl _ r2 ?_)
        | (go_at_call 285; refine (list_any _ n _ (by omega)).mono ?_; rw [HL.out]; rintro e w4 ⟨u, rfl, o4, b4⟩; have HU : Hid (Own w4 w.heap.size u xs ∧ Below w.heap.size w w4) := ⟨o4.mono b2.out.size, b2.out.trans (b4.mono b2.out.size)⟩; clear o4 b4))
      go_ret2
      rw [HB.out.1, HB.out.2]
      exact ⟨_, rfl, HU.out⟩
  · have hok' : blocksOk xs = false := by simpa using hok
    rw [hok', rowF_no hok'] at c1
    have HB : Hid (putB xs i x = false ∧ putI xs i x = []) := by
      simp [Hid, putB, putI, hok']
    clear hok hok'
    rw [← hn] at c1
    rw [← hn]
    clear hn hbig
    go_enter Tryz.func270, Tryz.ntmps270
    go_wp2_with fail
    refine c1.mono ?_
    rintro e w1 ⟨rfl, b1⟩
    go_wp2_with (refine wpList_put8 rfl _ _ rfl w1.heap.size (fun _ => 0) rfl rfl (fun _ => 0) (Row.new w1 fun _ => 0) ?_)
    intro w2 r2 g2
    have b2 : Hid (Below w.heap.size w w2) := (b1.alloc b1.size _).grown g2 (by simp; have := b1.size; omega) (fun k e => by cases e; exact b1.size)
    clear g2
    go_wp2
    go_ret2
    rw [HB.out.1, HB.out.2]
    exact ⟨_, rfl, (ownEmpty w2).mono b2.out.size, b2.out.trans ((belowNew w2 _).mono b2.out.size)⟩
end Go.Proofs.YtlkkpolnllbljaaGreatDoor
/- rowsOf, Differ and Chosen of the program answer what plain lists say. -/
namespace Go.Proofs.YtlkkpolnllbljaaGreatDoor
open Go.ChangeShapes Go.WideShapes Go.ChangeAt Go.RowKit

def fill8 (w : World) (g : Nat) (f : Nat → Int) : World :=
  (((((((w.setCell ⟨g, 0, none⟩ (.int .i64 (f 0))).setCell ⟨g, 1, none⟩ (.int .i64 (f 1))).setCell ⟨g, 2, none⟩ (.int .i64 (f 2))).setCell ⟨g, 3, none⟩ (.int .i64 (f 3))).setCell ⟨g, 4, none⟩ (.int .i64 (f 4))).setCell ⟨g, 5, none⟩ (.int .i64 (f 5))).setCell ⟨g, 6, none⟩ (.int .i64 (f 6))).setCell ⟨g, 7, none⟩ (.int .i64 (f 7))
theorem Row.fill {w : World} {g : Nat} {old : Nat → Int} (h : Row w g old) (f : Nat → Int) : Row (fill8 w g f) g f := by
  have := (((((((h.setCell 0 (by omega) (f 0)).setCell 1 (by omega) (f 1)).setCell 2 (by omega) (f 2)).setCell 3 (by omega) (f 3)).setCell 4 (by omega) (f 4)).setCell 5 (by omega) (f 5)).setCell 6 (by omega) (f 6)).setCell 7 (by omega) (f 7)
  exact Eq.trans this (congrArg (fun c => some (Obj.cells c 165 (0, 0))) (rowA_congr (eight rfl rfl rfl rfl rfl rfl rfl rfl)))
theorem Row.fill_other {w : World} {g k : Nat} {old : Nat → Int} (h : Row w g old) (f : Nat → Int) (hne : g ≠ k) : Row (fill8 w k f) g old := by
  unfold fill8
  exact (((((((h.other _ _ hne).other _ _ hne).other _ _ hne).other _ _ hne).other _ _ hne).other _ _ hne).other _ _ hne).other _ _ hne
theorem below_fill {B g : Nat} {w0 w : World} (h : Below B w0 w) (hB : B ≤ g) (f : Nat → Int) : Below B w0 (fill8 w g f) := by
  unfold fill8
  exact (((((((h.setCell hB _).setCell hB _).setCell hB _).setCell hB _).setCell hB _).setCell hB _).setCell hB _).setCell hB _
theorem Row.drew {w : World} {g : Nat} {f : Nat → Int} (h : Row w g f) : Row w.drew g f := h
theorem filled {w w4 : World} {H : Nat} (f g : Nat → Int) (hH : H = w.heap.size) (h : Below w.heap.size w w4 ∧ Row w4 H (fun _ => 0) ∧ Row w4 (H + 1) (fun _ => 0)) :
    Row (((((((((((((((((w4.setCell ⟨H, 0, none⟩ (.int .i64 (f 0))).setCell ⟨H, 1, none⟩ (.int .i64 (f 1))).setCell ⟨H, 2, none⟩ (.int .i64 (f 2))).setCell ⟨H, 3, none⟩ (.int .i64 (f 3))).setCell ⟨H, 4, none⟩ (.int .i64 (f 4))).setCell ⟨H, 5, none⟩ (.int .i64 (f 5))).setCell ⟨H, 6, none⟩ (.int .i64 (f 6))).setCell ⟨H, 7, none⟩ (.int .i64 (f 7))).setCell ⟨(H + 1), 0, none⟩ (.int .i64 (g 0))).setCell ⟨(H + 1), 1, none⟩ (.int .i64 (g 1))).setCell ⟨(H + 1), 2, none⟩ (.int .i64 (g 2))).setCell ⟨(H + 1), 3, none⟩ (.int .i64 (g 3))).setCell ⟨(H + 1), 4, none⟩ (.int .i64 (g 4))).setCell ⟨(H + 1), 5, none⟩ (.int .i64 (g 5))).setCell ⟨(H + 1), 6, none⟩ (.int .i64 (g 6))).setCell ⟨(H + 1), 7, none⟩ (.int .i64 (g 7))).drew) H f ∧ Row (((((((((((((((((w4.setCell ⟨H, 0, none⟩ (.int .i64 (f 0))).setCell ⟨H, 1, none⟩ (.int .i64 (f 1))).setCell ⟨H, 2, none⟩ (.int .i64 (f 2))).setCell ⟨H, 3, none⟩ (.int .i64 (f 3))).setCell ⟨H, 4, none⟩ (.int .i64 (f 4))).setCell ⟨H, 5, none⟩ (.int .i64 (f 5))).setCell ⟨H, 6, none⟩ (.int .i64 (f 6))).setCell ⟨H, 7, none⟩ (.int .i64 (f 7))).setCell ⟨(H + 1), 0, none⟩ (.int .i64 (g 0))).setCell ⟨(H + 1), 1, none⟩ (.int .i64 (g 1))).setCell ⟨(H + 1), 2, none⟩ (.int .i64 (g 2))).setCell ⟨(H + 1), 3, none⟩ (.int .i64 (g 3))).setCell ⟨(H + 1), 4, none⟩ (.int .i64 (g 4))).setCell ⟨(H + 1), 5, none⟩ (.int .i64 (g 5))).setCell ⟨(H + 1), 6, none⟩ (.int .i64 (g 6))).setCell ⟨(H + 1), 7, none⟩ (.int .i64 (g 7))).drew) (H + 1) g ∧ Below w.heap.size w (((((((((((((((((w4.setCell ⟨H, 0, none⟩ (.int .i64 (f 0))).setCell ⟨H, 1, none⟩ (.int .i64 (f 1))).setCell ⟨H, 2, none⟩ (.int .i64 (f 2))).setCell ⟨H, 3, none⟩ (.int .i64 (f 3))).setCell ⟨H, 4, none⟩ (.int .i64 (f 4))).setCell ⟨H, 5, none⟩ (.int .i64 (f 5))).setCell ⟨H, 6, none⟩ (.int .i64 (f 6))).setCell ⟨H, 7, none⟩ (.int .i64 (f 7))).setCell ⟨(H + 1), 0, none⟩ (.int .i64 (g 0))).setCell ⟨(H + 1), 1, none⟩ (.int .i64 (g 1))).setCell ⟨(H + 1), 2, none⟩ (.int .i64 (g 2))).setCell ⟨(H + 1), 3, none⟩ (.int .i64 (g 3))).setCell ⟨(H + 1), 4, none⟩ (.int .i64 (g 4))).setCell ⟨(H + 1), 5, none⟩ (.int .i64 (g 5))).setCell ⟨(H + 1), 6, none⟩ (.int .i64 (g 6))).setCell ⟨(H + 1), 7, none⟩ (.int .i64 (g 7))).drew) := by
  obtain ⟨z1, z2, z3⟩ := h
  have HW0 : Row (fill8 (fill8 w4 H f) (H + 1) g) H f ∧ Row (fill8 (fill8 w4 H f) (H + 1) g) (H + 1) g ∧ Below w.heap.size w (fill8 (fill8 w4 H f) (H + 1) g) := by
    refine ⟨(z2.fill f).fill_other _ (by omega), (z3.fill_other f (by omega)).fill g, below_fill (below_fill z1 (by omega) _) (by omega) _⟩
  have HW : Row (fill8 (fill8 w4 H f) (H + 1) g).drew H f ∧ Row (fill8 (fill8 w4 H f) (H + 1) g).drew (H + 1) g ∧ Below w.heap.size w (fill8 (fill8 w4 H f) (H + 1) g).drew := ⟨HW0.1.drew, HW0.2.1.drew, HW0.2.2.drew⟩
  unfold fill8 at HW
  exact HW

theorem results_rows {fn : Func} {p q u : Tmp} (h : fn.results = #[.cell p 165, .cell q 165, .tmp u]) (tmps : Array Value) (w : World) (g k : Nat) (f f' : Nat → Int) (x : Value)
    (hp : tmps.getD p undef = .pointer (some ⟨g, 0, none⟩)) (hq : tmps.getD q undef = .pointer (some ⟨k, 0, none⟩)) (hx : tmps.getD u undef = x) (hr : Row w g f) (hr' : Row w k f') :
    (results fn tmps).run Tryz.prog w = .ok (.tuple #[.agg (rowA f), .agg (rowA f'), x]) w := by
  have l1 := run_loadVar_row w g _ _ _ _ _ hr Tryz.under8 rfl (Tryz.info8 f)
  have l2 := run_loadVar_row w k _ _ _ _ _ hr' Tryz.under8 rfl (Tryz.info8 f')
  have hp' : tmps[p]?.getD undef = .pointer (some ⟨g, 0, none⟩) := by simpa using hp
  have hq' : tmps[q]?.getD undef = .pointer (some ⟨k, 0, none⟩) := by simpa using hq
  have hx' : tmps[u]?.getD undef = x := by simpa using hx
  simp only [results, h]
  simp [Sem.run_bind, Result.andThen, asAddr, hp', hq', hx', l1, l2]

set_option maxRecDepth 20000 in
set_option maxHeartbeats 8000000 in
theorem rowsOf_any (va vb : Value) (a b : List Int) (w : World) (ha : Reads w va a) (hb : Reads w vb b) (ga : a.length ≤ 1099511627776) (gb : b.length ≤ 1099511627776) :
    Calls Tryz.prog 147 #[va, vb] w fun e w' => e = .returned (.tuple #[.agg (rowA (rowF a)), .agg (rowA (rowF b)), .bool (bothOk a b)]) ∧ Below w.heap.size w w' := by
  obtain ⟨f, hf⟩ : ∃ f, f = rowF a := ⟨_, rfl⟩
  obtain ⟨g, hg⟩ : ∃ f, f = rowF b := ⟨_, rfl⟩
  obtain ⟨x, hx⟩ : ∃ x, x = blocksOk a := ⟨_, rfl⟩
  obtain ⟨y, hy⟩ : ∃ y, y = blocksOk b := ⟨_, rfl⟩
  have c1 : ∀ w', Reads w' va a → _ := fun w' h => rowOf_any va a w' h ga
  have c2 : ∀ w', Reads w' vb b → _ := fun w' h => rowOf_any vb b w' h gb
  rw [← hf, ← hg]
  simp only [← hf, ← hg, ← hx, ← hy] at c1 c2
  have HB : Hid (bothOk a b = (x && (y && decide (a.length = b.length)))) := by rw [hx, hy]; rfl
  clear hf hg hx hy
  obtain ⟨w0, hw0⟩ : ∃ w0, w0 = (w.alloc (.cells (rowA fun _ => 0) 165)).alloc (.cells (rowA fun _ => 0) 165) := ⟨_, rfl⟩
  have b0 : Below w.heap.size w w0 := by rw [hw0]; exact ((Below.refl _ _).alloc (Nat.le_refl _) _).alloc (by simp) _
  have s0 : w0.heap.size = w.heap.size + 2 := by rw [hw0]; simp
  have r0 : Row w0 w.heap.size (fun _ => 0) := by rw [hw0]; exact (Row.new w _).alloc _
  have q0 : Row w0 (w.heap.size + 1) (fun _ => 0) := by
    rw [hw0]
    have := Row.new (w.alloc (.cells (rowA fun _ => 0) 165)) (fun _ => 0)
    simpa using this
  have k1 := c1 w0 (ha.below b0 (Nat.le_refl _))
  rw [hw0] at k1
  obtain ⟨ao, ca, rfl⟩ := ha.form
  obtain ⟨bo, cb, rfl⟩ := hb.form
  go_enter Tryz.func147, Tryz.ntmps147
  go_wp2_with fail
  refine k1.mono ?_
  rw [← hw0]
  rintro e w1 ⟨rfl, b1⟩
  clear hw0
  go_wp2_with (refine wpList_put8 rfl _ _ rfl w1.heap.size f rfl rfl (fun _ => 0) (Row.new w1 fun _ => 0) ?_)
  intro w2 r2 g2
  have b2 : Below w.heap.size w w2 := ((b0.trans (b1.mono b0.size)).alloc (Nat.le_trans b0.size b1.size) _).grown g2 (by simp; have := b1.size; omega) (fun k e => by cases e; have := b1.size; omega)
  have r2a : Row w2 w.heap.size (fun _ => 0) := ((r0.below b1).alloc _).kept g2 (by have := (r0.below b1).lt; simp; omega)
  have r2b : Row w2 (w.heap.size + 1) (fun _ => 0) := ((q0.below b1).alloc _).kept g2 (by have := (q0.below b1).lt; simp; omega)
  have n2 : w.heap.size + 2 ≤ w1.heap.size := by have := b1.size; omega
  obtain ⟨G7, hG7⟩ : ∃ G, G = w1.heap.size := ⟨_, rfl⟩
  rw [← hG7] at r2 n2
  have k2 := c2 w2 (hb.below b2 (Nat.le_refl _))
  clear k1 c1 c2 b1 g2 r0 q0 b0 s0 
  go_wp2_with fail
  refine k2.mono ?_
  rintro e w3 ⟨rfl, b3⟩
  go_wp2_with (refine wpList_put8 rfl _ _ rfl w3.heap.size g rfl rfl (fun _ => 0) (Row.new w3 fun _ => 0) ?_)
  intro w4 r4 g4
  have b4 : Below w.heap.size w w4 := ((b2.trans (b3.mono b2.size)).alloc (Nat.le_trans b2.size b3.size) _).grown g4 (by simp; have := b3.size; have := b2.size; omega) (fun k e => by cases e; have := b3.size; have := b2.size; omega)
  have r4a : Row w4 w.heap.size (fun _ => 0) := ((r2a.below b3).alloc _).kept g4 (by have := (r2a.below b3).lt; simp; omega)
  have r4b : Row w4 (w.heap.size + 1) (fun _ => 0) := ((r2b.below b3).alloc _).kept g4 (by have := (r2b.below b3).lt; simp; omega)
  have r4c : Row w4 G7 f := ((r2.below b3).alloc _).kept g4 (by have := (r2.below b3).lt; simp; omega)
  have n4 : G7 < w3.heap.size := (r2.below b3).lt
  obtain ⟨G9, hG9⟩ : ∃ G, G = w3.heap.size := ⟨_, rfl⟩
  rw [← hG9] at r4 n4
  rw [← hG7, ← hG9]
  clear hG7 hG9 g4 b3 r2a r2b r2 b2 k2
  go_wp2
  obtain ⟨H, hH⟩ : ∃ H, H = w.heap.size := ⟨_, rfl⟩
  have HH : Hid (H = w.heap.size) := hH
  have HR : Hid (Below w.heap.size w w4 ∧ Row w4 H (fun _ => 0) ∧ Row w4 (H + 1) (fun _ => 0)) := ⟨b4, hH ▸ r4a, hH ▸ r4b⟩
  rw [← hH] at n2 r4a r4b
  rw [← hH]
  clear hH b4
  have e1 : G7 ≠ H := by omega
  have e2 : G7 ≠ H + 1 := by omega
  have e3 : G9 ≠ H := by omega
  have e4 : G9 ≠ H + 1 := by omega
  have p0 := r4c.cell 0 (by omega)
  have q0 := r4.cell 0 (by omega)
  have s0 := r4a.cell 0 (by omega)
  have t0 := r4b.cell 0 (by omega)
  have u0 := r4a.frozen 0
  have v0 := r4b.frozen 0
  have p1 := r4c.cell 1 (by omega)
  have q1 := r4.cell 1 (by omega)
  have s1 := r4a.cell 1 (by omega)
  have t1 := r4b.cell 1 (by omega)
  have u1 := r4a.frozen 1
  have v1 := r4b.frozen 1
  have p2 := r4c.cell 2 (by omega)
  have q2 := r4.cell 2 (by omega)
  have s2 := r4a.cell 2 (by omega)
  have t2 := r4b.cell 2 (by omega)
  have u2 := r4a.frozen 2
  have v2 := r4b.frozen 2
  have p3 := r4c.cell 3 (by omega)
  have q3 := r4.cell 3 (by omega)
  have s3 := r4a.cell 3 (by omega)
  have t3 := r4b.cell 3 (by omega)
  have u3 := r4a.frozen 3
  have v3 := r4b.frozen 3
  have p4 := r4c.cell 4 (by omega)
  have q4 := r4.cell 4 (by omega)
  have s4 := r4a.cell 4 (by omega)
  have t4 := r4b.cell 4 (by omega)
  have u4 := r4a.frozen 4
  have v4 := r4b.frozen 4
  have p5 := r4c.cell 5 (by omega)
  have q5 := r4.cell 5 (by omega)
  have s5 := r4a.cell 5 (by omega)
  have t5 := r4b.cell 5 (by omega)
  have u5 := r4a.frozen 5
  have v5 := r4b.frozen 5
  have p6 := r4c.cell 6 (by omega)
  have q6 := r4.cell 6 (by omega)
  have s6 := r4a.cell 6 (by omega)
  have t6 := r4b.cell 6 (by omega)
  have u6 := r4a.frozen 6
  have v6 := r4b.frozen 6
  have p7 := r4c.cell 7 (by omega)
  have q7 := r4.cell 7 (by omega)
  have s7 := r4a.cell 7 (by omega)
  have t7 := r4b.cell 7 (by omega)
  have u7 := r4a.frozen 7
  have v7 := r4b.frozen 7
  clear r4 r4a r4b r4c
  by_cases hx : x = true
  · by_cases hy : y = true
    · by_cases hl : a.length = b.length
      · have hl' : ((a.length : Int) == (b.length : Int)) = true := by simp [hl]
        have HB' : Hid (bothOk a b = true) := by rw [Hid, HB.out, hx, hy, decide_eq_true hl]; rfl
        obtain ⟨n, hn⟩ : ∃ n, n = a.length := ⟨_, rfl⟩
        obtain ⟨m, hm⟩ : ∃ m, m = b.length := ⟨_, rfl⟩
        rw [← hn] at hl' ⊢
        rw [← hm] at hl' ⊢
        clear HB hl ga gb ha hb hn hm
        subst hx hy
        go_big_region
        go_wp2
        refine bodyPost_ret (results_rows rfl _ _ H (H + 1) f g _ rfl rfl rfl (filled f g HH.out HR.out).1 (filled f g HH.out HR.out).2.1) rfl ?_
        rw [HB'.out]
        exact ⟨rfl, (filled f g HH.out HR.out).2.2⟩
      · have hl' : ((a.length : Int) == (b.length : Int)) = false := by simp; omega
        have HB' : Hid (bothOk a b = false) := by rw [Hid, HB.out, decide_eq_false hl]; simp
        obtain ⟨n, hn⟩ : ∃ n, n = a.length := ⟨_, rfl⟩
        obtain ⟨m, hm⟩ : ∃ m, m = b.length := ⟨_, rfl⟩
        rw [← hn] at hl' ⊢
        rw [← hm] at hl' ⊢
        clear HB hl ga gb ha hb hn hm
        subst hx hy
        go_big_region
        go_wp2
        refine bodyPost_ret (results_rows rfl _ _ H (H + 1) f g _ rfl rfl rfl (filled f g HH.out HR.out).1 (filled f g HH.out HR.out).2.1) rfl ?_
        rw [HB'.out]
        exact ⟨rfl, (filled f g HH.out HR.out).2.2⟩
    · have hy' : y = false := by simpa using hy
      have HB' : Hid (bothOk a b = false) := by rw [Hid, HB.out, hy']; simp
      clear HB ga gb ha hb hy
      subst hx hy'
      go_big_region
      go_wp2
      refine bodyPost_ret (results_rows rfl _ _ H (H + 1) f g _ rfl rfl rfl (filled f g HH.out HR.out).1 (filled f g HH.out HR.out).2.1) rfl ?_
      rw [HB'.out]
      exact ⟨rfl, (filled f g HH.out HR.out).2.2⟩
  · have hx' : x = false := by simpa using hx
    have HB' : Hid (bothOk a b = false) := by rw [Hid, HB.out, hx']; simp
    clear HB ga gb ha hb hx
    subst hx'
    go_big_region
    go_wp2
    refine bodyPost_ret (results_rows rfl _ _ H (H + 1) f g _ rfl rfl rfl (filled f g HH.out HR.out).1 (filled f g HH.out HR.out).2.1) rfl ?_
    rw [HB'.out]
    exact ⟨rfl, (filled f g HH.out HR.out).2.2⟩
end Go.Proofs.YtlkkpolnllbljaaGreatDoor
