/- The program's sinks: SinkOk, NewSink, Fits, Received. -/
import Derived.Test.YteooloceaoinlaaGreatDoorM22
import Derived.Test.YteooloceaoinlaaGreatDoorM13
import Derived.Test.YteooloceaoinlaaGreatDoorM7
import Derived.Test.YteooloceaoinlaaGreatDoorM17
import Derived.Deep.DeepCutAuto
import Derived.Test.YteooloceaoinlaaGreatDoorM6
import Derived.Test.YteooloceaoinlaaGreatDoorM18
import Derived.Test.YteooloceaoinlaaGreatDoorM5
import Derived.Laws.Tables
import Derived.Laws.ResultCell
namespace Go.Proofs.YteooloceaoinlaaGreatDoor
open Go.ChangeShapes Go.WideShapes Go.ChangeAt Go.RowKit

def Sn.unused (c : Sn) : Bool := decide (c.tr = 0) && decide (c.ts.length = 0)
theorem Sn.ok_unused {c : Sn} (h : c.unused = true) : c.ok = true := by
  unfold Sn.unused at h
  simp only [Bool.and_eq_true, decide_eq_true_eq] at h
  unfold Sn.ok
  rw [if_pos h.1]
  simpa using h.2
theorem Sn.ok_used {c : Sn} (h : c.unused = false) : c.ok = (inI c.tr 1 100000 && (turnsI c.ts && inI c.ts.length 1 8)) := by
  unfold Sn.unused at h
  unfold Sn.ok
  by_cases e : c.tr = 0
  · rw [if_pos e]
    rw [decide_eq_true e, Bool.true_and] at h
    rw [h]
    have : inI c.tr 1 100000 = false := by rw [e]; decide
    rw [this]
    rfl
  · rw [if_neg e]

set_option maxRecDepth 20000 in
set_option maxHeartbeats 1000000 in
theorem iunusedS_any (v : Value) (c : Sn) (w : World) (hr : Reads w v c.ts) :
    Calls Tryz.prog 78 #[SnV v c] w fun e w' => e = .returned (.bool c.unused) ∧ Below w.heap.size w w' := by
  have HE : Hid (c.unused = (decide (c.tr = 0) && decide (c.ts.length = 0))) := rfl
  obtain ⟨ao, cap, rfl⟩ := reads_form hr
  obtain ⟨x, hx⟩ : ∃ x, x = c.unused := ⟨_, rfl⟩
  rw [← hx] at HE ⊢
  obtain ⟨n, hn⟩ : ∃ n, n = c.ts.length := ⟨_, rfl⟩
  unfold SnV snA
  rw [← hn] at HE ⊢
  clear hr hx hn
  by_cases ht : c.tr = 0
  · have e1 : (c.tr == 0) = true := by simpa using ht
    by_cases hn0 : (n : Int) = 0
    · have e4 : ((n : Int) == 0) = true := by simpa using hn0
      go_enter Tryz.func78, Tryz.ntmps78
      go_wp2
      go_ret
      exact ⟨ret_bool (by rw [HE.out]; simp [ht, (by omega : n = 0)]), (Below.refl _ _).alloc (Nat.le_refl _) _⟩
    · have e4 : ((n : Int) == 0) = false := by simpa using hn0
      go_enter Tryz.func78, Tryz.ntmps78
      go_wp2
      go_ret
      exact ⟨ret_bool (by rw [HE.out, show decide (n = 0) = false from decide_eq_false (by omega), Bool.and_false]), (Below.refl _ _).alloc (Nat.le_refl _) _⟩
  · have e1 : (c.tr == 0) = false := by simpa using ht
    go_enter Tryz.func78, Tryz.ntmps78
    go_wp2
    go_ret
    exact ⟨ret_bool (by rw [HE.out]; simp [ht]), (Below.refl _ _).alloc (Nat.le_refl _) _⟩

set_option maxRecDepth 20000 in
set_option maxHeartbeats 2000000 in
theorem isinkok_any (v : Value) (c : Sn) (w : World) (hr : Reads w v c.ts) (hl : c.ts.length ≤ 1099511627776) :
    Calls Tryz.prog 79 #[SnV v c] w fun e w' => e = .returned (.bool c.ok) ∧ Below w.heap.size w w' := by
  have HU : Hid (c.unused = true → c.ok = true) := Sn.ok_unused
  have HE : Hid (c.unused = false → c.ok = (inI c.tr 1 100000 && (turnsI c.ts && inI c.ts.length 1 8))) := Sn.ok_used
  obtain ⟨w1, hw1⟩ : ∃ w1, w1 = w.alloc (.cells (snA v c) 41) := ⟨_, rfl⟩
  have H1 : StB w1 w.heap.size 41 (snA v c) := by rw [hw1]; exact StB.new _ _ _
  have B1 : Below w.heap.size w w1 := by rw [hw1]; exact (Below.refl _ _).alloc (Nat.le_refl _) _
  have cu := iunusedS_any v c w1 (hr.below B1 (Nat.le_refl _))
  have HR : Hid (∀ w2, Below w1.heap.size w1 w2 → Reads w2 v c.ts) := fun w2 b => (hr.below B1 (Nat.le_refl _)).below b (Nat.le_refl _)
  have HS : Hid (∀ w2, Below w1.heap.size w1 w2 → StB w2 w.heap.size 41 (snA v c) ∧ Below w.heap.size w w2) := fun w2 b => ⟨H1.below b, B1.trans (b.mono B1.size)⟩
  obtain ⟨ao, cap, rfl⟩ := reads_form hr
  have HW : Hid (w1 = w.alloc (.cells #[.int .i64 c.tr, .slice ao c.ts.length cap] 41)) := hw1
  have k0 : w1.cell? ⟨w.heap.size, 0, none⟩ = some (.int .i64 c.tr) := H1.cell 0 rfl
  have k1 : w1.cell? ⟨w.heap.size, 1, none⟩ = some (.slice ao c.ts.length cap) := H1.cell 1 rfl
  have ct := fun wx => itry_any c.tr wx
  have cs := fun wx h => iturns_any (.slice ao c.ts.length cap) c.ts wx h hl
  obtain ⟨x, hx⟩ : ∃ x, x = c.ok := ⟨_, rfl⟩
  rw [← hx] at HE HU ⊢
  obtain ⟨bu, hbu⟩ : ∃ bu, bu = c.unused := ⟨_, rfl⟩
  rw [← hbu] at HE HU cu
  obtain ⟨bt, hbt⟩ : ∃ bt, bt = inI c.tr 1 100000 := ⟨_, rfl⟩
  rw [← hbt] at HE
  simp only [← hbt] at ct
  obtain ⟨bs, hbs⟩ : ∃ bs, bs = (turnsI c.ts && inI c.ts.length 1 8) := ⟨_, rfl⟩
  rw [← hbs] at HE
  simp only [← hbs] at cs
  have HCS : Hid _ := cs
  unfold SnV snA at cu ⊢
  clear hw1 H1 hr hx hbu hbt hbs B1 cs
  go_enter Tryz.func79, Tryz.ntmps79
  go_wp2_with fail
  rw [← HW.out]
  refine cu.mono ?_
  rintro e w2 ⟨rfl, b2⟩
  clear HW cu k0 k1
  have HB : Hid (Below w.heap.size w w2) := (HS.out w2 b2).2
  have H2 := (HS.out w2 b2).1
  have cs := HCS.out w2 (HR.out w2 b2)
  have k0 : w2.cell? ⟨w.heap.size, 0, none⟩ = some (.int .i64 c.tr) := H2.cell 0 rfl
  have k1 : w2.cell? ⟨w.heap.size, 1, none⟩ = some (.slice ao c.ts.length cap) := H2.cell 1 rfl
  clear HCS HS HR H2 b2
  cases bu with
  | true =>
    have HX : Hid (x = true) := HU.out rfl
    clear HU HE
    go_wp2
    go_ret
    exact ⟨ret_bool (by rw [HX.out]), HB.out⟩
  | false =>
    have HX : Hid (x = (bt && bs)) := HE.out rfl
    clear HU HE
    go_wp2_with fail
    refine (ct _).mono ?_
    rintro e w' ⟨rfl, hw⟩; subst w'
    clear ct
    cases bt with
    | false =>
      go_wp2
      go_ret
      exact ⟨ret_bool (by rw [HX.out]; rfl), HB.out⟩
    | true =>
      go_wp2_with fail
      refine cs.mono ?_
      rintro e w' ⟨rfl, hw⟩; subst w'
      clear cs
      go_wp2
      go_ret
      exact ⟨ret_bool (by rw [HX.out]; rfl), HB.out⟩

theorem Sn.Fits_eq (c : Sn) (t i n : Int) : c.Fits t i n = (c.ok && inI t 1 100000 && decide (c.tr = t) && (decide (0 ≤ i) && decide (i < (c.ts.length : Int)) && decide (c.ts.getD i.toNat 0 < n))) := by
  unfold Sn.Fits Sn.fits
  cases ok : c.ok with
  | false => rfl
  | true =>
    by_cases e : c.tr = t
    · subst e
      have h : decide (0 < c.tr) = inI c.tr 1 100000 ∨ c.ts.length = 0 := by
        unfold Sn.ok at ok
        split at ok
        · exact .inr (by simpa using ok)
        · simp only [Bool.and_eq_true, inI_iff] at ok
          left
          rw [decide_eq_true (by omega), (inI_iff _ _ _).2 ok.1]
      rcases h with h | h
      · rw [h]
        simp only [Bool.true_and, decide_true, Bool.and_true, Bool.and_assoc]
      · rw [h]
        have : (decide (0 ≤ i) && decide (i < ((0 : Nat) : Int))) = false := by
          by_cases h0 : 0 ≤ i
          · rw [decide_eq_true h0, decide_eq_false (by omega)]; rfl
          · rw [decide_eq_false h0]; rfl
        rw [this, Bool.false_and, Bool.and_false, Bool.and_assoc, Bool.and_assoc, ← Bool.and_assoc (decide (0 ≤ i)), this, Bool.false_and, Bool.and_false, Bool.and_false]
    · rw [decide_eq_false e]
      simp

set_option maxRecDepth 20000 in
set_option maxHeartbeats 2000000 in
theorem ifreshS_any (v : Value) (c : Sn) (w : World) (hr : Reads w v c.ts) (hl : c.ts.length ≤ 1099511627776) :
    Calls Tryz.prog 89 #[SnV v c] w fun e w' => ∃ u, e = .returned (SnV u c) ∧ Mine w' w.heap.size u c.ts ∧ Below w.heap.size w w' := by
  obtain ⟨w1, hw1⟩ : ∃ w1, w1 = (w.alloc (.cells (snA v c) 41)).alloc (.cells zeroSn 41) := ⟨_, rfl⟩
  have p0 : StB w1 w.heap.size 41 (snA v c) := by rw [hw1]; exact (StB.new w _ _).alloc _
  have q0 : StB w1 (w.heap.size + 1) 41 zeroSn := by
    rw [hw1]
    have := StB.new (w.alloc (.cells (snA v c) 41)) 41 zeroSn
    rwa [World.size_alloc] at this
  have b1 : Below w.heap.size w w1 := by rw [hw1]; exact ((Below.refl _ _).alloc (Nat.le_refl _) _).alloc (by simp) _
  have c1 := ifresh_any v c.ts w1 (hr.below b1 (Nat.le_refl _)) hl
  have hs1 := q0.lt
  obtain ⟨ao, cap, rfl⟩ := reads_form hr
  have HW : Hid (w1 = (w.alloc (.cells #[.int .i64 c.tr, .slice ao c.ts.length cap] 41)).alloc (.cells #[.int .i64 0, .slice none 0 0] 41)) := hw1
  have k4 : w1.cell? ⟨w.heap.size, 1, none⟩ = some (.slice ao c.ts.length cap) := p0.cell 1 rfl
  clear hw1 hr hl
  unfold SnV snA
  go_enter Tryz.func89, Tryz.ntmps89
  go_wp2_with fail
  rw [← HW.out]
  clear HW
  refine c1.mono ?_
  rintro e w3 ⟨u, rfl, o3, b3⟩
  replace p0 := p0.below b3
  replace q0 := q0.below b3
  have B3 := b1.trans (b3.mono b1.size)
  obtain ⟨ab, cb, rfl⟩ := reads_form o3.reads
  have k0 : w3.cell? ⟨w.heap.size, 1, none⟩ = some (.slice ao c.ts.length cap) := p0.cell 1 rfl
  have f0 := p0.frozen 1
  have r4 := p0.put 1 (.slice ab c.ts.length cb) (ds := snA (.slice ab c.ts.length cb) c) rfl
  have q4 := q0.other ⟨w.heap.size, 1, none⟩ (.slice ab c.ts.length cb) (by simp)
  have HP : Hid (Mine (w3.setCell ⟨w.heap.size, 1, none⟩ (.slice ab c.ts.length cb)) w1.heap.size (.slice ab c.ts.length cb) c.ts ∧ Below w.heap.size w (w3.setCell ⟨w.heap.size, 1, none⟩ (.slice ab c.ts.length cb))) := ⟨o3.setLt (by omega) 1 _, B3.setCell (Nat.le_refl _) _⟩
  clear k4 p0 q0 c1 o3 b3 b1 B3
  go_upto_region 2 with fail
  obtain ⟨w4, hw4⟩ : ∃ w4, w4 = w3.setCell ⟨w.heap.size, 1, none⟩ (.slice ab c.ts.length cb) := ⟨_, rfl⟩
  rw [← hw4] at r4 q4 HP ⊢
  clear hw4 k0 f0
  go_wp2_with (first | (refine wpList_getS Tryz.isSn rfl _ rfl w.heap.size rfl (snA (.slice ab c.ts.length cb) c) rfl r4 ?_) | (refine wpList_putS Tryz.isSn rfl _ _ rfl (w.heap.size + 1) (snA (.slice ab c.ts.length cb) c) zeroSn rfl rfl rfl rfl (snA_one c rfl) q4 ?_; intro w8 s8 g8))
  refine bodyPost_ret (results_S Tryz.isSn rfl _ _ (w.heap.size + 1) _ rfl rfl s8) rfl ?_
  exact ⟨_, rfl, (HP.out.1.keptLt g8 (by omega)).mono (by omega), HP.out.2.grown g8 HP.out.2.size (fun k e => by cases e; omega)⟩

theorem two_cells {w : World} {B j : Nat} {x y z : Value} (h : w.cell? ⟨B, j, none⟩ = some z) : ((w.setCell ⟨B + 1, 0, none⟩ x).setCell ⟨B + 1, 1, none⟩ y).cell? ⟨B, j, none⟩ = some z := by
  rw [World.cell?_setCell_far _ _ _ _ (by simp), World.cell?_setCell_far _ _ _ _ (by simp), h]
theorem below_undrew {w w' : World} (b : Below w.drew.heap.size w.drew w') : Below w.heap.size w w' := ((Below.refl w.heap.size w).drew).trans b
end Go.Proofs.YteooloceaoinlaaGreatDoor
/- When a house is right, plainly, in the program's own order of tests. -/
namespace Go.Proofs.YteooloceaoinlaaGreatDoor
open Go.RowKit

theorem stepE_ok (l : List (Bs × Nat)) : ∀ a : Option (Rc × Nat), (∀ x, a = some x → x.1.ok = true) → ∀ x, l.foldl stepE a = some x → x.1.ok = true := by
  induction l with
  | nil => intro a h x e; exact h x e
  | cons y l ih =>
    intro a h x e
    refine ih (stepE a y) (fun z hz => ?_) x e
    unfold stepE at hz
    split at hz
    · rename_i r hr
      simp only [Option.some.injEq] at hz
      rw [← hz]
      exact readR_ok _ _ hr
    · exact h z hz
theorem recall_ok (s : Bs) (h : (recallB s).isSome = true) : (recR (recallB s)).ok = true := by
  cases e : recallB s with
  | none => rw [e] at h; cases h
  | some x => exact stepE_ok (wholeE s) none (fun _ h => by cases h) x e
def Nd.logP (n : Nd) : Bool := decide (n.log.length ≤ 40000) && ((recallB n.log).isSome && sameR (recR (recallB n.log)) n.r && (!n.up || decide (n.log.take (recAt (recallB n.log)) = n.log)))
def Nd.copP (n : Nd) : Bool := n.c.unused || (n.up && decide (n.r.s ≠ 3) && decide (n.c.tr = n.r.t) && n.c.ok && decide (n.c.ts.length = n.ys.length))
def Nd.snkP (n : Nd) : Bool := n.s.unused || (n.up && decide (n.r.s = 3) && decide (n.s.tr = n.r.n) && n.s.ok && decide (n.s.ts.length = n.ys.length))
theorem Cp.unused_tr {c : Cp} (h : c.unused = true) : c.tr = 0 := by
  unfold Cp.unused at h
  simp only [Bool.and_eq_true, decide_eq_true_eq] at h
  exact h.1.1.1.1
theorem Cp.used_tr {c : Cp} (h : c.unused = false) (ho : c.ok = true) : c.tr ≠ 0 := by
  rw [Cp.ok_used h] at ho
  simp only [Bool.and_eq_true, inI, decide_eq_true_eq] at ho
  intro e
  have := ho.1.1.1
  omega
theorem Sn.unused_tr {c : Sn} (h : c.unused = true) : c.tr = 0 := by
  unfold Sn.unused at h
  simp only [Bool.and_eq_true, decide_eq_true_eq] at h
  exact h.1
theorem Sn.used_tr {c : Sn} (h : c.unused = false) (ho : c.ok = true) : c.tr ≠ 0 := by
  rw [Sn.ok_used h] at ho
  simp only [Bool.and_eq_true, inI, decide_eq_true_eq] at ho
  intro e
  have := ho.1
  omega
theorem Nd.ok_prog (n : Nd) : n.ok = (inI n.id 0 1 && (Sr.ok ⟨n.xs, n.ys, n.h⟩ && (n.logP && (n.copP && n.snkP)))) := by
  have hl := recall_le n.log
  rw [Bool.eq_iff_iff, Nd.ok_iff]
  unfold Sr.ok Nd.logP
  simp only [Bool.and_eq_true, decide_eq_true_eq, sameR_iff]
  constructor
  · intro h
    refine ⟨h.id, ⟨h.dk, h.h⟩, ⟨h.ll, ⟨h.lg.is, h.lg.rc⟩, ?_⟩, ?_, ?_⟩
    · cases hu : n.up with
      | false => rfl
      | true =>
        simp only [Bool.not_true, Bool.false_or, decide_eq_true_eq]
        exact (take_all _ _ hl).2 (h.lg.al hu)
    · unfold Nd.copP
      cases hc : n.c.unused with
      | true => rfl
      | false =>
        have ht := Cp.used_tr hc h.c
        obtain ⟨q1, q2, q3⟩ := h.cp ht
        have hu : n.up = true := by
          cases hu : n.up with
          | true => rfl
          | false => exact absurd (h.dn hu).1 ht
        simp [hu, q1, h.c, q3, ← q2]
    · unfold Nd.snkP
      cases hc : n.s.unused with
      | true => rfl
      | false =>
        have ht := Sn.used_tr hc h.s
        obtain ⟨q1, q2, q3⟩ := h.sk ht
        have hu : n.up = true := by
          cases hu : n.up with
          | true => rfl
          | false => exact absurd (h.dn hu).2 ht
        simp [hu, q1, h.s, q3, ← q2]
  · rintro ⟨h1, ⟨h2, h3⟩, ⟨h4, ⟨h5, h6⟩, h7⟩, h8, h9⟩
    have hc : n.c.ok = true ∧ (n.up = false → n.c.tr = 0) ∧ (n.c.tr ≠ 0 → n.r.s ≠ 3 ∧ n.c.tr = n.r.t ∧ n.c.ts.length = n.ys.length) := by
      unfold Nd.copP at h8
      cases hc : n.c.unused with
      | true => exact ⟨Cp.ok_unused hc, fun _ => Cp.unused_tr hc, fun e => absurd (Cp.unused_tr hc) e⟩
      | false =>
        rw [hc] at h8
        simp only [Bool.false_or, Bool.and_eq_true, decide_eq_true_eq] at h8
        obtain ⟨⟨⟨⟨a1, a2⟩, a3⟩, a4⟩, a5⟩ := h8
        exact ⟨a4, fun e => by rw [a1] at e; (cases e), fun _ => ⟨a2, a3, a5⟩⟩
    have hs : n.s.ok = true ∧ (n.up = false → n.s.tr = 0) ∧ (n.s.tr ≠ 0 → n.r.s = 3 ∧ n.s.tr = n.r.n ∧ n.s.ts.length = n.ys.length) := by
      unfold Nd.snkP at h9
      cases hc : n.s.unused with
      | true => exact ⟨Sn.ok_unused hc, fun _ => Sn.unused_tr hc, fun e => absurd (Sn.unused_tr hc) e⟩
      | false =>
        rw [hc] at h9
        simp only [Bool.false_or, Bool.and_eq_true, decide_eq_true_eq] at h9
        obtain ⟨⟨⟨⟨a1, a2⟩, a3⟩, a4⟩, a5⟩ := h9
        exact ⟨a4, fun e => by rw [a1] at e; (cases e), fun _ => ⟨a2, a3, a5⟩⟩
    have hr : n.r.ok = true := by rw [← h6]; exact recall_ok n.log h5
    refine ⟨h1, h2, h3, hr, h4, hc.1, hs.1, ⟨h5, h6, fun hu => ?_⟩, fun hu => ⟨hc.2.1 hu, hs.2.1 hu⟩, hc.2.2, hs.2.2⟩
    rw [hu] at h7
    simp only [Bool.not_true, Bool.false_or, decide_eq_true_eq] at h7
    exact (take_all _ _ hl).1 h7
end Go.Proofs.YteooloceaoinlaaGreatDoor
/- How the laws take a store over, measure it, compare two, mark one and look at the marks. -/
namespace Go.Proofs.YteooloceaoinlaaGreatDoor
open Go.ChangeShapes Go.WideShapes Go.ChangeAt Go.RowKit

theorem Tryz.isR : IsS 72 6 := ⟨⟨_, Tryz.underlying72⟩, by kernel_rfl⟩
/- A store's three lists, each in a block of its own. -/
def OwnR (w : World) (base : Nat) (a b k : Value) (xs ys ks : List Int) : Prop := OwnD w base a b xs ys ∧ Own w base k ks ∧ apart a k ∧ apart b k
def zeR : Array Value := #[.slice none 0 0, .slice none 0 0, .slice none 0 0, .int .i64 0, .int .i64 0, .int .i64 0]
theorem srA_one {a b k : Value} (h : Hd) (ha : a.oneCell' = true) (hb : b.oneCell' = true) (hk : k.oneCell' = true) : (srA a b k h).all (·.oneCell') = true := by
  unfold srA
  simp [ha, hb, hk, show ∀ k n, (Value.int k n).oneCell' = true from fun _ _ => rfl]
theorem OwnR.below {w w' : World} {base : Nat} {a b k : Value} {xs ys ks : List Int} (h : OwnR w base a b k xs ys ks) (e : Below w.heap.size w w') : OwnR w' base a b k xs ys ks :=
  ⟨⟨h.1.1.below e, h.1.2.1.below e, h.1.2.2⟩, h.2.1.below e, h.2.2⟩
theorem OwnR.mono {w : World} {base base' : Nat} {a b k : Value} {xs ys ks : List Int} (h : OwnR w base a b k xs ys ks) (e : base' ≤ base) : OwnR w base' a b k xs ys ks :=
  ⟨⟨h.1.1.mono e, h.1.2.1.mono e, h.1.2.2⟩, h.2.1.mono e, h.2.2⟩
theorem OwnR.keptLt {w w' : World} {base g : Nat} {a b k : Value} {xs ys ks : List Int} (h : OwnR w base a b k xs ys ks) (e : w.grownBy w' (some g)) (hg : g < base) : OwnR w' base a b k xs ys ks :=
  ⟨⟨h.1.1.keptLt e hg, h.1.2.1.keptLt e hg, h.1.2.2⟩, h.2.1.keptLt e hg, h.2.2⟩
theorem OwnR.nil (w : World) (base : Nat) : OwnR w base (.slice none 0 0) (.slice none 0 0) (.slice none 0 0) [] [] [] :=
  ⟨⟨Own.nil w base, Own.nil w base, ⟨.inl rfl, .inl rfl⟩⟩, Own.nil w base, ⟨.inl rfl, .inl rfl⟩, ⟨.inl rfl, .inl rfl⟩⟩
end Go.Proofs.YteooloceaoinlaaGreatDoor
/- The model's store: StoreOk, l12Copy. -/
namespace Go.Proofs.YteooloceaoinlaaGreatDoor
open Go.ChangeShapes Go.WideShapes Go.ChangeAt Go.RowKit
end Go.Proofs.YteooloceaoinlaaGreatDoor
/- Arrays of eight numbers in memory: 'Row w g f': block g holds them. What a load, a store, a new one make of it. And rowOf, rowsOf, list, valueOk, countOk answer what plain lists say. -/
namespace Go.Proofs.YteooloceaoinlaaGreatDoor
open Go.ChangeShapes Go.WideShapes Go.ChangeAt Go.RowKit

def rowA (f : Nat → Int) : Array Value := #[.int .i64 (f 0), .int .i64 (f 1), .int .i64 (f 2), .int .i64 (f 3), .int .i64 (f 4), .int .i64 (f 5), .int .i64 (f 6), .int .i64 (f 7)]
def Row (w : World) (g : Nat) (f : Nat → Int) : Prop := w.heap[g]? = some (.cells (rowA f) 119 (0, 0))
def upd (f : Nat → Int) (j : Nat) (x : Int) : Nat → Int := fun k => if k = j then x else f k

theorem eight {p : Nat → Prop} (h0 : p 0) (h1 : p 1) (h2 : p 2) (h3 : p 3) (h4 : p 4) (h5 : p 5) (h6 : p 6) (h7 : p 7) : ∀ j, j < 8 → p j
  | 0, _ => h0 | 1, _ => h1 | 2, _ => h2 | 3, _ => h3 | 4, _ => h4 | 5, _ => h5 | 6, _ => h6 | 7, _ => h7
  | _ + 8, h => by omega

theorem rowA_at (f : Nat → Int) : ∀ j, j < 8 → (rowA f)[j]? = some (.int .i64 (f j)) := eight rfl rfl rfl rfl rfl rfl rfl rfl
theorem rowA_set (f : Nat → Int) (x : Int) : ∀ j, j < 8 → (rowA f).setIfInBounds j (.int .i64 x) = rowA (upd f j x) := eight rfl rfl rfl rfl rfl rfl rfl rfl
theorem rowA_size (f : Nat → Int) : (rowA f).size = 8 := rfl
theorem rowA_one (f : Nat → Int) : (rowA f).all (·.oneCell') = true := by simp [rowA, Value.oneCell']
theorem rowA_congr {f g : Nat → Int} (h : ∀ j, j < 8 → f j = g j) : rowA f = rowA g := by
  simp [rowA, h 0, h 1, h 2, h 3, h 4, h 5, h 6, h 7]

theorem Row.cell {w : World} {g : Nat} {f : Nat → Int} (h : Row w g f) (j : Nat) (hj : j < 8) : w.cell? ⟨g, j, none⟩ = some (.int .i64 (f j)) := by
  rw [cell_of_row w g j _ _ _ h, rowA_at f j hj]
theorem Row.frozen {w : World} {g : Nat} {f : Nat → Int} (h : Row w g f) (j : Nat) : w.frozen? ⟨g, j, none⟩ = false := frozen_of_row w g j _ _ h
theorem Row.lt {w : World} {g : Nat} {f : Nat → Int} (h : Row w g f) : g < w.heap.size := by
  rcases Nat.lt_or_ge g w.heap.size with hlt | hge
  · exact hlt
  · rw [Row, Array.getElem?_eq_none hge] at h; cases h
theorem Row.below {w w' : World} {g : Nat} {f : Nat → Int} (h : Row w g f) (hb : Below w.heap.size w w') : Row w' g f := (hb.block g h.lt).trans h
theorem Row.alloc {w : World} {g : Nat} {f : Nat → Int} (h : Row w g f) (o : Obj) : Row (w.alloc o) g f := (Below.heap_alloc w o g h.lt).trans h
theorem Row.new (w : World) (f : Nat → Int) : Row (w.alloc (.cells (rowA f) 119)) w.heap.size f := heap_alloc_new w _
theorem Row.setCell {w : World} {g : Nat} {f : Nat → Int} (h : Row w g f) (j : Nat) (hj : j < 8) (x : Int) : Row (w.setCell ⟨g, j, none⟩ (.int .i64 x)) g (upd f j x) := by
  have := heap_setCell_same w g j _ _ (.int .i64 x) h
  rw [rowA_set f x j hj] at this
  exact this
theorem Row.other {w : World} {g : Nat} {f : Nat → Int} (h : Row w g f) (a : Addr) (v : Value) (hne : g ≠ a.block) : Row (w.setCell a v) g f := (heap_setCell_other w a g v hne).trans h
theorem Row.setRow {w : World} {g : Nat} {f : Nat → Int} (h : Row w g f) (f' : Nat → Int) : Row (w.setRow g (rowA f')) g f' := setRow_heap w g _ _ _ _ h
theorem Row.setRow_other {w : World} {g k : Nat} {f : Nat → Int} (h : Row w g f) (cs : Array Value) (hne : g ≠ k) : Row (w.setRow k cs) g f := (_root_.Go.setRow_other w k g cs hne).trans h
theorem below_row {B g : Nat} {w0 w : World} (h : Below B w0 w) (hB : B ≤ g) (cs : Array Value) : Below B w0 (w.setRow g cs) :=
  h.trans ⟨rfl, rfl, rfl, by simp, fun k hk => _root_.Go.setRow_other w g k cs (by omega)⟩

theorem Tryz.info8 (f : Nat → Int) : (Tryz.prog.info? 119).map (·.size) = some (rowA f).size := by
  rw [rowA_size]; kernel_rfl
theorem Tryz.under8 : Tryz.prog.underlying 119 = some (.array 8 2) := by kernel_rfl

theorem grown_setRow (w : World) (g : Nat) (cs : Array Value) : w.grownBy (w.setRow g cs) (some g) :=
  ⟨rfl, rfl, rfl, by simp, fun k _ hne => _root_.Go.setRow_other w g k cs (fun e => hne (by rw [e]))⟩
theorem Row.kept {w w' : World} {g : Nat} {f : Nat → Int} {row : Option Nat} (h : Row w g f) (hg : w.grownBy w' row) (hne : some g ≠ row) : Row w' g f := (hg.block g h.lt hne).trans h
theorem wpList_get8 {ops : Array Oper} {rest : List Oper} {o : Oper} {a : Act} {w : World} {Q : Exit → Act → World → Prop} (hgd : o.guard = none) (x : Operand) (ho : o.op = .load 119 x)
    (g : Nat) (hx : a.eval x = .pointer (some ⟨g, 0, none⟩)) (f : Nat → Int) (hr : Row w g f)
    (h : wpList Tryz.prog ops Q rest (a.put o.dst (.agg (rowA f))) w) : wpList Tryz.prog ops Q (o :: rest) a w :=
  wpList_load_row hgd _ x ho g hx _ _ _ _ hr Tryz.under8 rfl (Tryz.info8 f) h
theorem wpList_put8 {ops : Array Oper} {rest : List Oper} {o : Oper} {a : Act} {w : World} {Q : Exit → Act → World → Prop} (hgd : o.guard = none) (x y : Operand) (ho : o.op = .store 119 x y)
    (g : Nat) (f : Nat → Int) (hx : a.eval x = .pointer (some ⟨g, 0, none⟩)) (hy : a.eval y = .agg (rowA f)) (old : Nat → Int) (hr : Row w g old)
    (h : ∀ w', Row w' g f → w.grownBy w' (some g) → wpList Tryz.prog ops Q rest (a.put o.dst undef) w') : wpList Tryz.prog ops Q (o :: rest) a w :=
  wpList_store_row hgd _ x y ho g (rowA f) hx hy _ _ hr (Tryz.info8 f) rfl (rowA_one f) (h _ (hr.setRow f) (grown_setRow w g _))

set_option maxRecDepth 20000 in
set_option maxHeartbeats 400000 in
theorem val_any (x : Int) (w : World) :
    Calls Tryz.prog 134 #[.int .i64 x] w fun e w' => e = .returned (.bool (valOk x)) ∧ w' = w := by
  by_cases h0 : 0 ≤ x
  · by_cases h1 : x ≤ 9999
    · rw [valOk_yes h0 h1]
      go_enter Tryz.func134, Tryz.ntmps134
      go_wp2
      go_ret
      exact ⟨ret_bool (by simp), rfl⟩
    · rw [valOk_no (by omega)]
      go_enter Tryz.func134, Tryz.ntmps134
      go_wp2
      go_ret
      exact ⟨ret_bool (by simp), rfl⟩
  · rw [valOk_no (by omega)]
    go_enter Tryz.func134, Tryz.ntmps134
    go_wp2
    go_ret
    exact ⟨ret_bool (by simp), rfl⟩

set_option maxRecDepth 20000 in
set_option maxHeartbeats 400000 in
theorem cnt_any (x : Int) (w : World) :
    Calls Tryz.prog 125 #[.int .i64 x] w fun e w' => e = .returned (.bool (cntOk x)) ∧ w' = w := by
  by_cases h0 : 1 ≤ x
  · by_cases h1 : x ≤ 8
    · rw [cntOk_yes h0 h1]
      go_enter Tryz.func125, Tryz.ntmps125
      go_wp2
      go_ret
      exact ⟨ret_bool (by simp), rfl⟩
    · rw [cntOk_no (by omega)]
      go_enter Tryz.func125, Tryz.ntmps125
      go_wp2
      go_ret
      exact ⟨ret_bool (by simp), rfl⟩
  · rw [cntOk_no (by omega)]
    go_enter Tryz.func125, Tryz.ntmps125
    go_wp2
    go_ret
    exact ⟨ret_bool (by simp), rfl⟩
end Go.Proofs.YteooloceaoinlaaGreatDoor
