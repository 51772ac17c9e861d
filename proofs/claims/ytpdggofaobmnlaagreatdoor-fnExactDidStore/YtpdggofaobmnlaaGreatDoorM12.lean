/- The model's hands on a holding of its own, behind a pointer: l9Turn, l9Free, l9Take, l9Register, l9Reserve, l9Release, l9Clear; l8Copy. -/
import Derived.Test.YtpdggofaobmnlaaGreatDoorM4
import Derived.Test.YtpdggofaobmnlaaGreatDoorM11
import Derived.Test.YtpdggofaobmnlaaGreatDoorM7
import Derived.Deep.DeepCutAuto
namespace Go.Proofs.YtpdggofaobmnlaaGreatDoor
open Go.ChangeShapes Go.WideShapes Go.ChangeAt Go.RowKit

/- Block g holds the holding h, block q its four keys, both new since there were 'base' blocks. -/
def PQ (w : World) (base g q cap : Nat) (h : Hd) : Prop :=
  StB w g 28 (hdA (.slice (some ⟨q, 0, none⟩) 4 cap) h) ∧ Own w base (.slice (some ⟨q, 0, none⟩) 4 cap) h.ks ∧ (g ≠ q ∧ base ≤ g ∧ base ≤ q ∧ h.ks.length = 4)
def PB (w : World) (base g : Nat) (h : Hd) : Prop := ∃ q cap, PQ w base g q cap h
theorem PQ.put {w : World} {base g q cap : Nat} {h : Hd} (d : PQ w base g q cap h) (j : Nat) (x : Int) (f : Hd) (hk : f.ks = h.ks) (e : (hdA (.slice (some ⟨q, 0, none⟩) 4 cap) h).setIfInBounds j (.int .i64 x) = hdA (.slice (some ⟨q, 0, none⟩) 4 cap) f) :
    PQ (w.setCell ⟨g, j, none⟩ (.int .i64 x)) base g q cap f ∧ Below base w (w.setCell ⟨g, j, none⟩ (.int .i64 x)) := by
  obtain ⟨h1, h2, h3⟩ := d
  have G := grownSet w g j (.int .i64 x)
  refine ⟨⟨h1.put j _ e, ?_, ?_⟩, (Below.refl base w).setCell h3.2.1 _⟩
  · rw [hk]; exact h2.kept G (.inr (by intro e; have : q = g := Option.some.inj e; omega))
  · rw [hk]; exact h3
theorem PQ.key {w : World} {base g q cap : Nat} {h : Hd} (d : PQ w base g q cap h) (j : Nat) (hj : j < 4) (x : Int) :
    w.frozen? ⟨q, j, none⟩ = false ∧ w.cell? ⟨q, j, none⟩ = some (.int .i64 (h.ks.getD j 0)) ∧ PQ (w.setCell ⟨q, j, none⟩ (.int .i64 x)) base g q cap ⟨h.ks.set j x, h.kd, h.ho, h.tu⟩ ∧ Below base w (w.setCell ⟨q, j, none⟩ (.int .i64 x)) := by
  obtain ⟨h1, h2, h3⟩ := d
  obtain ⟨f, -, o⟩ := h2.put h3.2.2.2.symm j hj x
  have G := grownSet w q j (.int .i64 x)
  obtain ⟨-, -, -, hc⟩ := reads_cells h2.reads
  obtain ⟨b, off, e, hcell⟩ := hc j hj
  simp only [Option.some.injEq, Addr.mk.injEq] at e
  obtain ⟨rfl, rfl, -⟩ := e
  rw [Nat.zero_add] at hcell
  refine ⟨f, hcell, ⟨h1.kept G ?_, o, ?_⟩, (Below.refl base w).setCell h3.2.2.1 _⟩
  · intro e; have := Option.some.inj e; omega
  · simpa using h3
theorem PQ.below {w w' : World} {base g q cap : Nat} {h : Hd} (d : PQ w base g q cap h) (b : Below w.heap.size w w') : PQ w' base g q cap h :=
  ⟨d.1.below b, d.2.1.below b, d.2.2⟩
theorem PQ.lt {w : World} {base g q cap : Nat} {h : Hd} (d : PQ w base g q cap h) : base ≤ w.heap.size := by
  have := d.1.lt; have := d.2.2.2.1; omega
theorem PB.below {w w' : World} {base g : Nat} {h : Hd} (d : PB w base g h) (b : Below w.heap.size w w') : PB w' base g h := by
  obtain ⟨q, cap, d⟩ := d
  exact ⟨q, cap, d.below b⟩

theorem PB.lt {w : World} {base g : Nat} {h : Hd} (d : PB w base g h) : base ≤ w.heap.size := by
  obtain ⟨q, cap, d⟩ := d
  exact d.lt

set_option maxRecDepth 20000 in
set_option maxHeartbeats 400000 in
theorem s9turn_any (base g : Nat) (h : Hd) (w : World) (d : PB w base g h) (h0 : 0 ≤ h.tu) (h1 : h.tu ≤ 1000000000) :
    Calls Tryz.prog 155 #[.pointer (some ⟨g, 0, none⟩)] w fun e w' => e = .returned (.tuple #[]) ∧ PB w' base g h.turn ∧ Below base w w' := by
  obtain ⟨q, cap, d⟩ := d
  have k3 : w.cell? ⟨g, 3, none⟩ = some (.int .i64 h.tu) := d.1.cell 3 rfl
  have f3 := d.1.frozen 3
  have P1 := d.put 3 (h.tu + 1) ⟨h.ks, h.kd, h.ho, h.tu + 1⟩ rfl rfl
  have hwr : IntKind.i64.wrap (h.tu + 1) = h.tu + 1 := by rw [IntKind.wrap_i64]; omega
  by_cases hb : 1000000000 < h.tu + 1
  · have P2 := P1.1.put 3 0 ⟨h.ks, h.kd, h.ho, 0⟩ rfl rfl
    have HP : Hid (PB ((w.setCell ⟨g, 3, none⟩ (.int .i64 (h.tu + 1))).setCell ⟨g, 3, none⟩ (.int .i64 0)) base g h.turn ∧ Below base w ((w.setCell ⟨g, 3, none⟩ (.int .i64 (h.tu + 1))).setCell ⟨g, 3, none⟩ (.int .i64 0))) := by
      refine ⟨⟨q, cap, ?_⟩, P1.2.trans P2.2⟩
      have e : h.turn = ⟨h.ks, h.kd, h.ho, 0⟩ := by simp [Hd.turn, turnI, hb]
      rw [e]; exact P2.1
    have k4 : (w.setCell ⟨g, 3, none⟩ (.int .i64 (h.tu + 1))).cell? ⟨g, 3, none⟩ = some (.int .i64 (h.tu + 1)) := P1.1.1.cell 3 rfl
    clear P1 P2 d
    go_enter Tryz.func155, Tryz.ntmps155
    go_wp2
    go_end0
    exact ⟨rfl, HP.out⟩
  · have HP : Hid (PB (w.setCell ⟨g, 3, none⟩ (.int .i64 (h.tu + 1))) base g h.turn ∧ Below base w (w.setCell ⟨g, 3, none⟩ (.int .i64 (h.tu + 1)))) := by
      refine ⟨⟨q, cap, ?_⟩, P1.2⟩
      have e : h.turn = ⟨h.ks, h.kd, h.ho, h.tu + 1⟩ := by simp [Hd.turn, turnI, hb]
      rw [e]; exact P1.1
    clear P1 d
    go_enter Tryz.func155, Tryz.ntmps155
    go_wp2
    go_end0
    exact ⟨rfl, HP.out⟩

set_option maxRecDepth 20000 in
set_option maxHeartbeats 400000 in
theorem s9free_any (base g : Nat) (h : Hd) (w : World) (d : PB w base g h) :
    Calls Tryz.prog 156 #[.pointer (some ⟨g, 0, none⟩)] w fun e w' => e = .returned (.tuple #[]) ∧ PB w' base g h.free ∧ Below base w w' := by
  obtain ⟨q, cap, d⟩ := d
  have k1 : w.cell? ⟨g, 1, none⟩ = some (.int .i64 h.kd) := d.1.cell 1 rfl
  have f1 := d.1.frozen 1
  have k2 : w.cell? ⟨g, 2, none⟩ = some (.int .i64 h.ho) := d.1.cell 2 rfl
  have f2 := d.1.frozen 2
  have P1 := d.put 1 0 ⟨h.ks, 0, h.ho, h.tu⟩ rfl rfl
  have P2 := P1.1.put 2 (-1) h.free rfl rfl
  have HP : Hid (PB ((w.setCell ⟨g, 1, none⟩ (.int .i64 0)).setCell ⟨g, 2, none⟩ (.int .i64 (-1))) base g h.free ∧ Below base w ((w.setCell ⟨g, 1, none⟩ (.int .i64 0)).setCell ⟨g, 2, none⟩ (.int .i64 (-1)))) := ⟨⟨q, cap, P2.1⟩, P1.2.trans P2.2⟩
  clear P1 P2 d
  go_enter Tryz.func156, Tryz.ntmps156
  go_wp2
  go_end0
  exact ⟨rfl, HP.out⟩

set_option maxRecDepth 20000 in
set_option maxHeartbeats 400000 in
theorem s9take_any (base g : Nat) (h : Hd) (i k : Int) (w : World) (d : PB w base g h) :
    Calls Tryz.prog 157 #[.pointer (some ⟨g, 0, none⟩), .int .i64 i, .int .i64 k] w fun e w' => e = .returned (.tuple #[]) ∧ PB w' base g (h.take i k) ∧ Below base w w' := by
  obtain ⟨q, cap, d⟩ := d
  have k1 : w.cell? ⟨g, 1, none⟩ = some (.int .i64 h.kd) := d.1.cell 1 rfl
  have f1 := d.1.frozen 1
  have k2 : w.cell? ⟨g, 2, none⟩ = some (.int .i64 h.ho) := d.1.cell 2 rfl
  have f2 := d.1.frozen 2
  have P1 := d.put 1 k ⟨h.ks, k, h.ho, h.tu⟩ rfl rfl
  have P2 := P1.1.put 2 i ⟨h.ks, k, i, h.tu⟩ rfl rfl
  obtain ⟨w2, hw2⟩ : ∃ w2, w2 = (w.setCell ⟨g, 1, none⟩ (.int .i64 k)).setCell ⟨g, 2, none⟩ (.int .i64 i) := ⟨_, rfl⟩
  rw [← hw2] at P2
  have k3 : w2.cell? ⟨g, 2, none⟩ = some (.int .i64 i) := P2.1.1.cell 2 rfl
  have f3 := P2.1.1.frozen 2
  have P3 := P2.1.put 2 (-1) ⟨h.ks, k, -1, h.tu⟩ rfl rfl
  have c1 := sall_any k w2
  cases ha : allI k with
  | true =>
    have e : h.take i k = ⟨h.ks, k, -1, h.tu⟩ := by simp [Hd.take, ha]
    rw [e]
    rw [ha] at c1
    have HP : Hid (PB (w2.setCell ⟨g, 2, none⟩ (.int .i64 (-1))) base g ⟨h.ks, k, -1, h.tu⟩ ∧ Below base w (w2.setCell ⟨g, 2, none⟩ (.int .i64 (-1)))) := ⟨⟨q, cap, P3.1⟩, (P1.2.trans P2.2).trans P3.2⟩
    clear P1 P2 P3 d e ha
    go_enter Tryz.func157, Tryz.ntmps157
    go_wp2_with fail
    rw [← hw2]
    clear hw2 k1 f1 k2 f2
    refine c1.mono ?_
    rintro e w' ⟨rfl, hw'⟩; subst w'
    go_wp2
    go_end0
    exact ⟨rfl, HP.out⟩
  | false =>
    have e : h.take i k = ⟨h.ks, k, i, h.tu⟩ := by simp [Hd.take, ha]
    rw [e]
    rw [ha] at c1
    have HP : Hid (PB w2 base g ⟨h.ks, k, i, h.tu⟩ ∧ Below base w w2) := ⟨⟨q, cap, P2.1⟩, P1.2.trans P2.2⟩
    clear P1 P2 P3 d e ha
    go_enter Tryz.func157, Tryz.ntmps157
    go_wp2_with fail
    rw [← hw2]
    clear hw2 k1 f1 k2 f2
    refine c1.mono ?_
    rintro e w' ⟨rfl, hw'⟩; subst w'
    go_wp2
    go_end0
    exact ⟨rfl, HP.out⟩

set_option maxRecDepth 20000 in
set_option maxHeartbeats 1000000 in
theorem s9register_any (base g : Nat) (h : Hd) (i key : Int) (w : World) (d : PB w base g h) (t0 : 0 ≤ h.tu) (t1 : h.tu ≤ 1000000000) (i0 : 0 ≤ i) (i1 : i < 4) :
    Calls Tryz.prog 126 #[.pointer (some ⟨g, 0, none⟩), .int .i64 i, .int .i64 key] w fun e w' => e = .returned (.tuple #[]) ∧ PB w' base g (h.regd i key) ∧ Below base w w' := by
  obtain ⟨q, cap, d⟩ := d
  have k0 : w.cell? ⟨g, 0, none⟩ = some (.slice (some ⟨q, 0, none⟩) 4 cap) := d.1.cell 0 rfl
  obtain ⟨fk, ck, PK, BK⟩ := d.key i.toNat (by omega) key
  have c1 := s9turn_any base g (h.key i key) _ ⟨q, cap, PK⟩ t0 t1
  have HE : Hid (h.regd i key = if key = 0 ∧ (h.ho = i ∨ anyI (h.ks.set i.toNat key) = false) then ((h.key i key).turn).free else (h.key i key).turn) := rfl
  obtain ⟨h1, e1⟩ : ∃ h1, h1 = (h.key i key).turn := ⟨_, rfl⟩
  rw [← e1] at c1 HE
  have eho : h1.ho = h.ho := by rw [e1]; rfl
  have eks : h1.ks = h.ks.set i.toNat key := by rw [e1]; rfl
  rw [← eho, ← eks] at HE
  have HB : Hid (Below base w (w.setCell ⟨q, i.toNat, none⟩ (.int .i64 key))) := BK
  clear PK BK d e1 eho eks t0 t1
  obtain ⟨r, hr⟩ : ∃ r, r = h.regd i key := ⟨_, rfl⟩
  rw [← hr] at HE ⊢
  clear hr
  go_enter Tryz.func126, Tryz.ntmps126
  go_wp2_with fail
  refine c1.mono ?_
  rintro e w1 ⟨rfl, P1, B1⟩
  replace HB : Hid (Below base w w1) := HB.out.trans B1
  clear c1 B1 k0 fk ck
  have cf := s9free_any base g h1
  have HP : Hid (PB w1 base g h1) := P1
  obtain ⟨q1, cap1, d1⟩ := P1
  have k0 : w1.cell? ⟨g, 0, none⟩ = some (.slice (some ⟨q1, 0, none⟩) 4 cap1) := d1.1.cell 0 rfl
  have k1 : w1.cell? ⟨g, 1, none⟩ = some (.int .i64 h1.kd) := d1.1.cell 1 rfl
  have k2 : w1.cell? ⟨g, 2, none⟩ = some (.int .i64 h1.ho) := d1.1.cell 2 rfl
  have k3 : w1.cell? ⟨g, 3, none⟩ = some (.int .i64 h1.tu) := d1.1.cell 3 rfl
  have ca := s8any_any _ h1 w1 d1.2.1.reads (by have := d1.2.2.2.2.2; omega)
  unfold HV hdA at ca
  clear d1
  by_cases hk : key = 0
  · by_cases hh : h1.ho = i
    · have HR : Hid (r = h1.free) := by rw [Hid, HE.out, if_pos ⟨hk, .inl hh⟩]
      clear ca HE
      subst hk
      go_wp2_with fail
      refine (cf _ HP.out).mono ?_
      rintro e w2 ⟨rfl, P2, B2⟩
      go_wp2
      go_end0
      exact ⟨rfl, by rw [HR.out]; exact P2, HB.out.trans B2⟩
    · cases hn : anyI h1.ks with
      | false =>
        have HR : Hid (r = h1.free) := by rw [Hid, HE.out, if_pos ⟨hk, .inr hn⟩]
        rw [hn] at ca
        clear HE hn
        subst hk
        go_wp2_with fail
        refine ca.mono ?_
        rintro e w2 ⟨rfl, b2⟩
        replace HB : Hid (Below base w w2) := HB.out.trans (b2.mono HP.out.lt)
        replace HP : Hid (PB w2 base g h1) := HP.out.below b2
        clear b2 k0 k1 k2 k3
        go_wp2_with fail
        refine (cf _ HP.out).mono ?_
        rintro e w3 ⟨rfl, P3, B3⟩
        go_wp2
        go_end0
        exact ⟨rfl, by rw [HR.out]; exact P3, HB.out.trans B3⟩
      | true =>
        have HR : Hid (r = h1) := by rw [Hid, HE.out, if_neg (by simp [hh, hn])]
        rw [hn] at ca
        clear HE hn cf
        subst hk
        go_wp2_with fail
        refine ca.mono ?_
        rintro e w2 ⟨rfl, b2⟩
        have HQ : Hid (PB w2 base g h1 ∧ Below base w w2) := ⟨HP.out.below b2, HB.out.trans (b2.mono HP.out.lt)⟩
        clear b2 k0 k1 k2 k3 HP HB
        go_wp2
        go_end0
        exact ⟨rfl, by rw [HR.out]; exact HQ.out.1, HQ.out.2⟩
  · have HR : Hid (r = h1) := by rw [Hid, HE.out, if_neg (fun c => hk c.1)]
    have HQ : Hid (PB w1 base g h1 ∧ Below base w w1) := ⟨HP.out, HB.out⟩
    clear ca HE cf HP HB
    go_wp2
    go_end0
    exact ⟨rfl, by rw [HR.out]; exact HQ.out.1, HQ.out.2⟩
end Go.Proofs.YtpdggofaobmnlaaGreatDoor
/- The model's Register, Reserve, Release and Clear. -/
namespace Go.Proofs.YtpdggofaobmnlaaGreatDoor
open Go.ChangeShapes Go.WideShapes Go.ChangeAt Go.RowKit

/- The parameter in its box, the answer's block behind it. -/
def Bx (w wx : World) (v : Value) (h : Hd) : Prop := StB wx w.heap.size 28 (hdA v h) ∧ StB wx (w.heap.size + 1) 28 #[.slice none 0 0, .int .i64 0, .int .i64 0, .int .i64 0] ∧ Below w.heap.size w wx ∧ w.heap.size + 2 ≤ wx.heap.size ∧ Reads wx v h.ks
theorem Bx.start {w : World} {v : Value} {h : Hd} (hr : Reads w v h.ks) : Bx w ((w.alloc (.cells (hdA v h) 28)).alloc (.cells #[.slice none 0 0, .int .i64 0, .int .i64 0, .int .i64 0] 28)) v h := by
  have b1 : Below w.heap.size w (w.alloc (.cells (hdA v h) 28)) := (Below.refl _ _).alloc (Nat.le_refl _) _
  have b2 : Below w.heap.size w ((w.alloc (.cells (hdA v h) 28)).alloc (.cells #[.slice none 0 0, .int .i64 0, .int .i64 0, .int .i64 0] 28)) := b1.alloc (by simp) _
  refine ⟨(StB.new w _ _).alloc _, ?_, b2, by simp, hr.below b2 (Nat.le_refl _)⟩
  have := StB.new (w.alloc (.cells (hdA v h) 28)) 28 #[.slice none 0 0, .int .i64 0, .int .i64 0, .int .i64 0]
  rwa [World.size_alloc] at this
theorem Bx.next {w wx wy : World} {v : Value} {h : Hd} (d : Bx w wx v h) (b : Below wx.heap.size wx wy) : Bx w wy v h :=
  ⟨d.1.below b, d.2.1.below b, d.2.2.1.trans (b.mono d.2.2.1.size), Nat.le_trans d.2.2.2.1 b.size, d.2.2.2.2.below b (Nat.le_refl _)⟩

set_option maxRecDepth 20000 in
set_option maxHeartbeats 1000000 in
theorem s8copy_any (v : Value) (h : Hd) (w : World) (hr : Reads w v h.ks) (hl : h.ks.length ≤ 1099511627776) :
    Calls Tryz.prog 87 #[HV v h] w fun e w' => ∃ u, e = .returned (HV u h) ∧ Own w' w.heap.size u h.ks ∧ Below w.heap.size w w' := by
  obtain ⟨ao, cap, rfl⟩ := reads_form hr
  obtain ⟨w1, hw1⟩ : ∃ w1, w1 = (w.alloc (.cells (hdA (.slice ao h.ks.length cap) h) 28)).alloc (.cells #[.slice none 0 0, .int .i64 0, .int .i64 0, .int .i64 0] 28) := ⟨_, rfl⟩
  have HB : Hid (Bx w w1 (.slice ao h.ks.length cap) h) := by rw [hw1]; exact Bx.start hr
  have c1 := copy_any (.slice ao h.ks.length cap) h.ks w1 HB.out.2.2.2.2 hl
  have HW : Hid (w1 = (w.alloc (.cells #[.slice ao h.ks.length cap, .int .i64 h.kd, .int .i64 h.ho, .int .i64 h.tu] 28)).alloc (.cells #[.slice none 0 0, .int .i64 0, .int .i64 0, .int .i64 0] 28)) := hw1
  clear hw1 hr hl
  unfold HV
  conv in hdA (.slice ao h.ks.length cap) h => unfold hdA
  go_enter Tryz.func87, Tryz.ntmps87
  go_wp2_with fail
  rw [← HW.out]
  clear HW
  refine c1.mono ?_
  rintro e w2 ⟨u, rfl, o2, b2⟩
  have D2 : Bx w w2 (.slice ao h.ks.length cap) h := HB.out.next b2
  obtain ⟨ab, cb, rfl⟩ := reads_form o2.reads
  have k0 : w2.cell? ⟨w.heap.size, 0, none⟩ = some (.slice ao h.ks.length cap) := D2.1.cell 0 rfl
  have f0 := D2.1.frozen 0
  have G := grownSet w2 w.heap.size 0 (.slice ab h.ks.length cb)
  have zq : StB (w2.setCell ⟨w.heap.size, 0, none⟩ (.slice ab h.ks.length cb)) w.heap.size 28 (hdA (.slice ab h.ks.length cb) h) := D2.1.put 0 _ rfl
  have zz : StB (w2.setCell ⟨w.heap.size, 0, none⟩ (.slice ab h.ks.length cb)) (w.heap.size + 1) 28 #[.slice none 0 0, .int .i64 0, .int .i64 0, .int .i64 0] := D2.2.1.kept G (by intro e; have := Option.some.inj e; omega)
  have HF : Hid (Own (w2.setCell ⟨w.heap.size, 0, none⟩ (.slice ab h.ks.length cb)) w1.heap.size (.slice ab h.ks.length cb) h.ks ∧ Below w.heap.size w (w2.setCell ⟨w.heap.size, 0, none⟩ (.slice ab h.ks.length cb)) ∧ w.heap.size + 2 ≤ w1.heap.size) := by
    refine ⟨o2.keptLt G (by have := HB.out.2.2.2.1; omega), D2.2.2.1.setCell (Nat.le_refl _) _, HB.out.2.2.2.1⟩
  clear D2 G o2 b2 HB c1
  go_wp2_with (first | (refine wpList_getS Tryz.isH rfl _ rfl w.heap.size rfl (hdA (.slice ab h.ks.length cb) h) rfl zq ?_) | (refine wpList_putS Tryz.isH rfl _ _ rfl (w.heap.size + 1) (hdA (.slice ab h.ks.length cb) h) #[.slice none 0 0, .int .i64 0, .int .i64 0, .int .i64 0] rfl rfl rfl rfl (hdA_one _ rfl) zz ?_; intro we se ge))
  refine bodyPost_ret (results_S Tryz.isH rfl _ _ (w.heap.size + 1) _ rfl rfl se) rfl ?_
  exact ⟨_, rfl, (HF.out.1.keptLt ge (by have := HF.out.2.2; omega)).mono (by have := HF.out.2.2; omega), HF.out.2.1.grown ge HF.out.2.1.size (fun x e => by cases e; omega)⟩

set_option maxRecDepth 20000 in
set_option maxHeartbeats 1000000 in
theorem s9reserve_any (base g : Nat) (h : Hd) (i k : Int) (w : World) (d : PB w base g h) (i0 : 0 ≤ i) (i1 : i < 4) :
    Calls Tryz.prog 127 #[.pointer (some ⟨g, 0, none⟩), .int .i64 i, .int .i64 k] w fun e w' => e = .returned (.bool (h.resd i k).2) ∧ PB w' base g (h.resd i k).1 ∧ Below base w w' := by
  have HP : Hid (PB w base g h) := d
  obtain ⟨q1, cap1, d1⟩ := d
  have k0 : w.cell? ⟨g, 0, none⟩ = some (.slice (some ⟨q1, 0, none⟩) 4 cap1) := d1.1.cell 0 rfl
  have k1 : w.cell? ⟨g, 1, none⟩ = some (.int .i64 h.kd) := d1.1.cell 1 rfl
  have k2 : w.cell? ⟨g, 2, none⟩ = some (.int .i64 h.ho) := d1.1.cell 2 rfl
  have k3 : w.cell? ⟨g, 3, none⟩ = some (.int .i64 h.tu) := d1.1.cell 3 rfl
  have cr := s8reg_any _ h i w d1.2.1.reads i0 (by have := d1.2.2.2.2.2; omega)
  obtain ⟨r, HE⟩ : ∃ r, Hid (r = h.resd i k) := ⟨_, rfl⟩
  rw [← HE.out]
  unfold HV hdA at cr
  clear d1
  cases hg : regI h.ks i with
  | false =>
    have HR : Hid (r = (h, false)) := by rw [Hid, HE.out, Hd.resd, if_pos hg]
    rw [hg] at cr
    clear HE hg
    go_enter Tryz.func127, Tryz.ntmps127
    go_wp2_with fail
    refine cr.mono ?_
    rintro e w2 ⟨rfl, b2⟩
    have HQ : Hid (PB w2 base g h ∧ Below base w w2) := ⟨HP.out.below b2, b2.mono HP.out.lt⟩
    clear b2 HP k0 k1 k2 k3 cr
    go_wp2
    go_ret
    exact ⟨by rw [HR.out]; rfl, by rw [HR.out]; exact HQ.out.1, HQ.out.2⟩
  | true =>
    have H1 : Hid (r = if h.kd = 0 then (h.take i k, true) else (h, decide (h.kd = k) && (allI k || decide (h.ho = i)))) := by rw [Hid, HE.out, Hd.resd, if_neg (by rw [hg]; decide)]
    rw [hg] at cr
    have ct := s9take_any base g h i k
    have cf := fun wx => sall_any k wx
    obtain ⟨bf, hbf⟩ : ∃ bf, bf = allI k := ⟨_, rfl⟩
    rw [← hbf] at H1
    simp only [← hbf] at cf
    clear HE hg hbf
    go_enter Tryz.func127, Tryz.ntmps127
    go_wp2_with fail
    refine cr.mono ?_
    rintro e w2 ⟨rfl, b2⟩
    have HB : Hid (Below base w w2) := b2.mono HP.out.lt
    replace HP : Hid (PB w2 base g h) := HP.out.below b2
    clear b2 k0 k1 k2 k3 cr
    obtain ⟨q2, cap2, d2⟩ := HP.out
    have k0 : w2.cell? ⟨g, 0, none⟩ = some (.slice (some ⟨q2, 0, none⟩) 4 cap2) := d2.1.cell 0 rfl
    have k1 : w2.cell? ⟨g, 1, none⟩ = some (.int .i64 h.kd) := d2.1.cell 1 rfl
    have k2 : w2.cell? ⟨g, 2, none⟩ = some (.int .i64 h.ho) := d2.1.cell 2 rfl
    have k3 : w2.cell? ⟨g, 3, none⟩ = some (.int .i64 h.tu) := d2.1.cell 3 rfl
    clear d2
    by_cases hk : h.kd = 0
    · have HR : Hid (r = (h.take i k, true)) := by rw [Hid, H1.out, if_pos hk]
      clear H1 cf
      rw [hk] at k1
      go_wp2_with fail
      refine (ct _ HP.out).mono ?_
      rintro e w3 ⟨rfl, P3, B3⟩
      have HQ : Hid (PB w3 base g (h.take i k) ∧ Below base w w3) := ⟨P3, HB.out.trans B3⟩
      clear P3 B3 HP HB k0 k1 k2 k3 ct hk
      go_wp2
      go_ret
      exact ⟨by rw [HR.out]; rfl, by rw [HR.out]; exact HQ.out.1, HQ.out.2⟩
    · have HR : Hid (r = (h, decide (h.kd = k) && (bf || decide (h.ho = i)))) := by rw [Hid, H1.out, if_neg hk]
      have HQ : Hid (PB w2 base g h ∧ Below base w w2) := ⟨HP.out, HB.out⟩
      clear H1 ct HP HB
      by_cases hkk : h.kd = k
      · have hkb : (h.kd == k) = true := by simp [hkk]
        cases bf with
        | true =>
          have HS : Hid (r = (h, true)) := by rw [Hid, HR.out]; simp [hkk]
          clear HR
          go_wp2_with fail
          refine (cf _).mono ?_
          rintro e w' ⟨rfl, hw'⟩; subst w'
          go_wp2
          go_ret
          exact ⟨by rw [HS.out]; rfl, by rw [HS.out]; exact HQ.out.1, HQ.out.2⟩
        | false =>
          have HS : Hid (r = (h, decide (h.ho = i))) := by rw [Hid, HR.out]; simp [hkk]
          clear HR
          go_wp2_with fail
          refine (cf _).mono ?_
          rintro e w' ⟨rfl, hw'⟩; subst w'
          go_wp2
          go_ret
          exact ⟨ret_bool (by rw [HS.out]; by_cases hh : h.ho = i <;> simp [hh]), by rw [HS.out]; exact HQ.out.1, HQ.out.2⟩
      · have HS : Hid (r = (h, false)) := by rw [Hid, HR.out]; simp [hkk]
        clear HR cf
        go_wp2
        go_ret
        exact ⟨ret_bool (by rw [HS.out]), by rw [HS.out]; exact HQ.out.1, HQ.out.2⟩

set_option maxRecDepth 20000 in
set_option maxHeartbeats 1000000 in
theorem s9release_any (base g : Nat) (h : Hd) (i : Int) (w : World) (d : PB w base g h) (i0 : 0 ≤ i) (i1 : i < 4) :
    Calls Tryz.prog 128 #[.pointer (some ⟨g, 0, none⟩), .int .i64 i] w fun e w' => e = .returned (.bool (h.reld i).2) ∧ PB w' base g (h.reld i).1 ∧ Below base w w' := by
  have HP : Hid (PB w base g h) := d
  obtain ⟨q1, cap1, d1⟩ := d
  have k0 : w.cell? ⟨g, 0, none⟩ = some (.slice (some ⟨q1, 0, none⟩) 4 cap1) := d1.1.cell 0 rfl
  have k1 : w.cell? ⟨g, 1, none⟩ = some (.int .i64 h.kd) := d1.1.cell 1 rfl
  have k2 : w.cell? ⟨g, 2, none⟩ = some (.int .i64 h.ho) := d1.1.cell 2 rfl
  have k3 : w.cell? ⟨g, 3, none⟩ = some (.int .i64 h.tu) := d1.1.cell 3 rfl
  have cr := s8reg_any _ h i w d1.2.1.reads i0 (by have := d1.2.2.2.2.2; omega)
  obtain ⟨r, HE⟩ : ∃ r, Hid (r = h.reld i) := ⟨_, rfl⟩
  rw [← HE.out]
  unfold HV hdA at cr
  clear d1
  cases hg : regI h.ks i with
  | false =>
    have HR : Hid (r = (h, false)) := by rw [Hid, HE.out, Hd.reld, if_pos hg]
    rw [hg] at cr
    clear HE hg
    go_enter Tryz.func128, Tryz.ntmps128
    go_wp2_with fail
    refine cr.mono ?_
    rintro e w2 ⟨rfl, b2⟩
    have HQ : Hid (PB w2 base g h ∧ Below base w w2) := ⟨HP.out.below b2, b2.mono HP.out.lt⟩
    clear b2 HP k0 k1 k2 k3 cr
    go_wp2
    go_ret
    exact ⟨by rw [HR.out]; rfl, by rw [HR.out]; exact HQ.out.1, HQ.out.2⟩
  | true =>
    have H1 : Hid (r = if h.holds i then (h.free, true) else (h, true)) := by rw [Hid, HE.out, Hd.reld, if_neg (by rw [hg]; decide)]
    rw [hg] at cr
    have ct := s9free_any base g h
    clear HE hg
    go_enter Tryz.func128, Tryz.ntmps128
    go_wp2_with fail
    refine cr.mono ?_
    rintro e w2 ⟨rfl, b2⟩
    have HB : Hid (Below base w w2) := b2.mono HP.out.lt
    replace HP : Hid (PB w2 base g h) := HP.out.below b2
    clear b2 k0 k1 k2 k3 cr
    obtain ⟨q2, cap2, d2⟩ := HP.out
    have k0 : w2.cell? ⟨g, 0, none⟩ = some (.slice (some ⟨q2, 0, none⟩) 4 cap2) := d2.1.cell 0 rfl
    have k1 : w2.cell? ⟨g, 1, none⟩ = some (.int .i64 h.kd) := d2.1.cell 1 rfl
    have k2 : w2.cell? ⟨g, 2, none⟩ = some (.int .i64 h.ho) := d2.1.cell 2 rfl
    have k3 : w2.cell? ⟨g, 3, none⟩ = some (.int .i64 h.tu) := d2.1.cell 3 rfl
    have ch := s8holds_any _ h i w2 d2.2.1.reads i0 (by have := d2.2.2.2.2.2; omega)
    unfold HV hdA at ch
    clear d2
    cases hh : h.holds i with
    | true =>
      have HR : Hid (r = (h.free, true)) := by rw [Hid, H1.out, if_pos hh]
      rw [hh] at ch
      clear H1 hh
      go_wp2_with fail
      refine ch.mono ?_
      rintro e w3 ⟨rfl, b3⟩
      replace HB : Hid (Below base w w3) := HB.out.trans (b3.mono HP.out.lt)
      replace HP : Hid (PB w3 base g h) := HP.out.below b3
      clear b3 k0 k1 k2 k3 ch
      go_wp2_with fail
      refine (ct _ HP.out).mono ?_
      rintro e w4 ⟨rfl, P4, B4⟩
      have HQ : Hid (PB w4 base g h.free ∧ Below base w w4) := ⟨P4, HB.out.trans B4⟩
      clear P4 B4 HP HB ct
      go_wp2
      go_ret
      exact ⟨by rw [HR.out]; rfl, by rw [HR.out]; exact HQ.out.1, HQ.out.2⟩
    | false =>
      have HR : Hid (r = (h, true)) := by rw [Hid, H1.out, if_neg (by rw [hh]; decide)]
      rw [hh] at ch
      clear H1 hh ct
      go_wp2_with fail
      refine ch.mono ?_
      rintro e w3 ⟨rfl, b3⟩
      have HQ : Hid (PB w3 base g h ∧ Below base w w3) := ⟨HP.out.below b3, HB.out.trans (b3.mono HP.out.lt)⟩
      clear b3 k0 k1 k2 k3 ch HP HB
      go_wp2
      go_ret
      exact ⟨by rw [HR.out]; rfl, by rw [HR.out]; exact HQ.out.1, HQ.out.2⟩

set_option maxRecDepth 20000 in
set_option maxHeartbeats 1000000 in
theorem s9clear_any (base g : Nat) (h : Hd) (i : Int) (w : World) (d : PB w base g h) (i0 : 0 ≤ i) (i1 : i < 4) (t0 : 0 ≤ h.tu) (t1 : h.tu ≤ 1000000000) :
    Calls Tryz.prog 129 #[.pointer (some ⟨g, 0, none⟩), .int .i64 i] w fun e w' => e = .returned (.bool (h.clrd i).2) ∧ PB w' base g (h.clrd i).1 ∧ Below base w w' := by
  have HP : Hid (PB w base g h) := d
  obtain ⟨q1, cap1, d1⟩ := d
  have k0 : w.cell? ⟨g, 0, none⟩ = some (.slice (some ⟨q1, 0, none⟩) 4 cap1) := d1.1.cell 0 rfl
  have k1 : w.cell? ⟨g, 1, none⟩ = some (.int .i64 h.kd) := d1.1.cell 1 rfl
  have k2 : w.cell? ⟨g, 2, none⟩ = some (.int .i64 h.ho) := d1.1.cell 2 rfl
  have k3 : w.cell? ⟨g, 3, none⟩ = some (.int .i64 h.tu) := d1.1.cell 3 rfl
  have cr := s8reg_any _ h i w d1.2.1.reads i0 (by have := d1.2.2.2.2.2; omega)
  obtain ⟨r, HE⟩ : ∃ r, Hid (r = h.clrd i) := ⟨_, rfl⟩
  rw [← HE.out]
  unfold HV hdA at cr
  clear d1
  cases hg : regI h.ks i with
  | false =>
    have HR : Hid (r = (h, false)) := by rw [Hid, HE.out, Hd.clrd, if_pos hg]
    rw [hg] at cr
    clear HE hg
    go_enter Tryz.func129, Tryz.ntmps129
    go_wp2_with fail
    refine cr.mono ?_
    rintro e w2 ⟨rfl, b2⟩
    have HQ : Hid (PB w2 base g h ∧ Below base w w2) := ⟨HP.out.below b2, b2.mono HP.out.lt⟩
    clear b2 HP k0 k1 k2 k3 cr
    go_wp2
    go_ret
    exact ⟨by rw [HR.out]; rfl, by rw [HR.out]; exact HQ.out.1, HQ.out.2⟩
  | true =>
    have HR : Hid (r = ((Hd.free ⟨[0, 0, 0, 0], h.kd, h.ho, h.tu⟩).turn, true)) := by rw [Hid, HE.out, Hd.clrd, if_neg (by rw [hg]; decide)]; rfl
    rw [hg] at cr
    obtain ⟨j0, hi, hz0, hz1, hz2⟩ := info_parts Tryz.infoI
    clear HE hg
    go_enter Tryz.func129, Tryz.ntmps129
    go_wp2_with fail
    refine cr.mono ?_
    rintro e w2 ⟨rfl, b2⟩
    have HB : Hid (Below base w w2) := b2.mono HP.out.lt
    replace HP : Hid (PB w2 base g h) := HP.out.below b2
    clear b2 k0 k1 k2 k3 cr
    obtain ⟨q2, cap2, d2⟩ := HP.out
    have k0 : w2.cell? ⟨g, 0, none⟩ = some (.slice (some ⟨q2, 0, none⟩) 4 cap2) := d2.1.cell 0 rfl
    have k1 : w2.cell? ⟨g, 1, none⟩ = some (.int .i64 h.kd) := d2.1.cell 1 rfl
    have k2 : w2.cell? ⟨g, 2, none⟩ = some (.int .i64 h.ho) := d2.1.cell 2 rfl
    have k3 : w2.cell? ⟨g, 3, none⟩ = some (.int .i64 h.tu) := d2.1.cell 3 rfl
    have hg2 := d2.1.lt
    have HD : Hid (PQ w2 base g q2 cap2 h) := d2
    clear d2 HP
    go_wp2_with (first
      | (refine wpList_make_full _ rfl _ _ 24 rfl w2.heap.size 2 j0 (.int .i64 0) 1 Tryz.underlying24 hi hz0 hz1 _ _ _ _ 4 rfl rfl rfl rfl (by rw [hz2]; omega) (by unfold maxLen; omega) (Nat.le_refl _) ?_; intro w3 hown hgr; have S3 := HD.out.1.kept hgr (by simp); have m0 := S3.cell 0 (x := .slice (some ⟨q2, 0, none⟩) 4 cap2) rfl; have m1 := S3.frozen 0))
    have e4 : (madeCells (Value.int .i64 0).cells (4 * 1)).toList = ([0, 0, 0, 0] : List Int).map (Value.int .i64) := zeros_eq 4
    rw [e4] at hown
    have o3 : Own w3 w2.heap.size (.slice (some ⟨w2.heap.size, 0, none⟩) 4 4) [0, 0, 0, 0] := hown
    have G3 := grownSet w3 g 0 (.slice (some ⟨w2.heap.size, 0, none⟩) 4 4)
    have lb := HD.out.lt
    have P3 : PQ (w3.setCell ⟨g, 0, none⟩ (.slice (some ⟨w2.heap.size, 0, none⟩) 4 4)) base g w2.heap.size 4 ⟨[0, 0, 0, 0], h.kd, h.ho, h.tu⟩ :=
      ⟨S3.put 0 _ rfl, (o3.kept G3 (.inr (by intro e; have : w2.heap.size = g := Option.some.inj e; omega))).mono lb, by omega, HD.out.2.2.2.1, lb, rfl⟩
    have HB3 : Hid (Below base w (w3.setCell ⟨g, 0, none⟩ (.slice (some ⟨w2.heap.size, 0, none⟩) 4 4))) := (HB.out.trans ((Below.refl base w2).grown hgr lb (by simp))).setCell HD.out.2.2.2.1 _
    clear S3 m0 m1 hown e4 o3 G3 HD HB k0 k1 k2 k3
    refine (s9free_any base g _ _ ⟨_, _, P3⟩).mono ?_
    rintro e w4 ⟨rfl, P4, B4⟩
    replace HB3 : Hid (Below base w w4) := HB3.out.trans B4
    clear P3 B4
    go_wp2_with fail
    refine (s9turn_any base g _ _ P4 t0 t1).mono ?_
    rintro e w5 ⟨rfl, P5, B5⟩
    have HQ : Hid (PB w5 base g _ ∧ Below base w w5) := ⟨P5, HB3.out.trans B5⟩
    clear P5 B5 HB3 P4
    go_wp2
    go_ret
    exact ⟨by rw [HR.out]; rfl, by rw [HR.out]; exact HQ.out.1, HQ.out.2⟩
end Go.Proofs.YtpdggofaobmnlaaGreatDoor
