/- The model's hands on a holding of its own, behind a pointer: l9Turn, l9Free, l9Take, l9Register, l9Reserve, l9Release, l9Clear; l8Copy. -/
import Derived.Test.YtppkncmlloelbaaAct
import Derived.Test.YtppkncmlloelbaaSHold2
import Derived.Test.YtppkncmlloelbaaLHold
import Derived.Deep.DeepCutAuto
namespace Go.Proofs.Ytppkncmlloelbaa
open Go.ChangeShapes Go.WideShapes Go.ChangeAt Go.RowKit

/- Block g holds the holding h, block q its four keys, both new since there were 'base' blocks. -/
def PQ (w : World) (base g q cap : Nat) (h : Hd) : Prop :=
  StB w g 26 (hdA (.slice (some ⟨q, 0, none⟩) 4 cap) h) ∧ Own w base (.slice (some ⟨q, 0, none⟩) 4 cap) h.ks ∧ (g ≠ q ∧ base ≤ g ∧ base ≤ q ∧ h.ks.length = 4)
def PB (w : World) (base g : Nat) (h : Hd) : Prop := ∃ q cap, PQ w base g q cap h
theorem PQ.put {w : World} {base g q cap : Nat} {h : Hd} (d : PQ w base g q cap h) (j : Nat) (x : Int) (f : Hd) (hk : f.ks = h.ks) (e : (hdA (.slice (some ⟨q, 0, none⟩) 4 cap) h).setIfInBounds j (.int .i64 x) = hdA (.slice (some ⟨q, 0, none⟩) 4 cap) f) :
    PQ (w.setCell ⟨g, j, none⟩ (.int .i64 x)) base g q cap f ∧ Below base w (w.setCell ⟨g, j, none⟩ (.int .i64 x)) := by
  obtain ⟨h1, h2, h3⟩ := d
  have G := grownSet w g j (.int .i64 x)
  refine ⟨⟨h1.put j _ e, ?_, ?_⟩, (Below.refl base w).setCell h3.2.1 _⟩
  · rw [hk]; exact h2.kept G (.inr (by intro e; have : q = g := Option.some.inj e; omega))
  · rw [hk]; exact h3
theorem PQ.key {w : World} {base g q cap : Nat} {h : Hd} (d : PQ w base g q cap h) (j : Nat) (hj : j < 4) (x : Int) :
    w.frozen? ⟨q, j, none⟩ = false ∧ w.cell? ⟨q, j, none⟩ = some (.int .i64 (h.ks.getD j 0)) ∧ PQ (w.setCell ⟨q, j, none⟩ (.int .i64 x)) base g q cap ⟨h.ks.set j x, h.kd, h.ho, h.tu⟩ ∧ Below base w (w.setCell ⟨q, j, none⟩ (.int .i64 x)) := by
  obtain ⟨h1, h2, h3⟩ := d
  obtain ⟨f, -, o⟩ := h2.put h3.2.2.2.symm j hj x
  have G := grownSet w q j (.int .i64 x)
  obtain ⟨-, -, -, hc⟩ := reads_cells h2.reads
  obtain ⟨b, off, e, hcell⟩ := hc j hj
  simp only [Option.some.injEq, Addr.mk.injEq] at e
  obtain ⟨rfl, rfl, -⟩ := e
  rw [Nat.zero_add] at hcell
  refine ⟨f, hcell, ⟨h1.kept G ?_, o, ?_⟩, (Below.refl base w).setCell h3.2.2.1 _⟩
  · intro e; have := Option.some.inj e; omega
  · simpa using h3
theorem PQ.below {w w' : World} {base g q cap : Nat} {h : Hd} (d : PQ w base g q cap h) (b : Below w.heap.size w w') : PQ w' base g q cap h :=
  ⟨d.1.below b, d.2.1.below b, d.2.2⟩
theorem PQ.lt {w : World} {base g q cap : Nat} {h : Hd} (d : PQ w base g q cap h) : base ≤ w.heap.size := by
  have := d.1.lt; have := d.2.2.2.1; omega
theorem PB.below {w w' : World} {base g : Nat} {h : Hd} (d : PB w base g h) (b : Below w.heap.size w w') : PB w' base g h := by
  obtain ⟨q, cap, d⟩ := d
  exact ⟨q, cap, d.below b⟩

theorem PB.lt {w : World} {base g : Nat} {h : Hd} (d : PB w base g h) : base ≤ w.heap.size := by
  obtain ⟨q, cap, d⟩ := d
  exact d.lt

set_option maxRecDepth 20000 in
set_option maxHeartbeats 400000 in
theorem s9turn_any (base g : Nat) (h : Hd) (w : World) (d : PB w base g h) (h0 : 0 ≤ h.tu) (h1 : h.tu ≤ 1000000000) :
    Calls Try.prog 76 #[.pointer (some ⟨g, 0, none⟩)] w fun e w' => e = .returned (.tuple #[]) ∧ PB w' base g h.turn ∧ Below base w w' := by
  obtain ⟨q, cap, d⟩ := d
  have k3 : w.cell? ⟨g, 3, none⟩ = some (.int .i64 h.tu) := d.1.cell 3 rfl
  have f3 := d.1.frozen 3
  have P1 := d.put 3 (h.tu + 1) ⟨h.ks, h.kd, h.ho, h.tu + 1⟩ rfl rfl
  have hwr : IntKind.i64.wrap (h.tu + 1) = h.tu + 1 := by rw [IntKind.wrap_i64]; omega
  by_cases hb : 1000000000 < h.tu + 1
  · have P2 := P1.1.put 3 0 ⟨h.ks, h.kd, h.ho, 0⟩ rfl rfl
    have HP : Hid (PB ((w.setCell ⟨g, 3, none⟩ (.int .i64 (h.tu + 1))).setCell ⟨g, 3, none⟩ (.int .i64 0)) base g h.turn ∧ Below base w ((w.setCell ⟨g, 3, none⟩ (.int .i64 (h.tu + 1))).setCell ⟨g, 3, none⟩ (.int .i64 0))) := by
      refine ⟨⟨q, cap, ?_⟩, P1.2.trans P2.2⟩
      have e : h.turn = ⟨h.ks, h.kd, h.ho, 0⟩ := by simp [Hd.turn, turnI, hb]
      rw [e]; exact P2.1
    have k4 : (w.setCell ⟨g, 3, none⟩ (.int .i64 (h.tu + 1))).cell? ⟨g, 3, none⟩ = some (.int .i64 (h.tu + 1)) := P1.1.1.cell 3 rfl
    clear P1 P2 d
    go_enter Try.func76, Try.ntmps76
    go_wp2
    go_end0
    exact ⟨rfl, HP.out⟩
  · have HP : Hid (PB (w.setCell ⟨g, 3, none⟩ (.int .i64 (h.tu + 1))) base g h.turn ∧ Below base w (w.setCell ⟨g, 3, none⟩ (.int .i64 (h.tu + 1)))) := by
      refine ⟨⟨q, cap, ?_⟩, P1.2⟩
      have e : h.turn = ⟨h.ks, h.kd, h.ho, h.tu + 1⟩ := by simp [Hd.turn, turnI, hb]
      rw [e]; exact P1.1
    clear P1 d
    go_enter Try.func76, Try.ntmps76
    go_wp2
    go_end0
    exact ⟨rfl, HP.out⟩

set_option maxRecDepth 20000 in
set_option maxHeartbeats 400000 in
theorem s9free_any (base g : Nat) (h : Hd) (w : World) (d : PB w base g h) :
    Calls Try.prog 77 #[.pointer (some ⟨g, 0, none⟩)] w fun e w' => e = .returned (.tuple #[]) ∧ PB w' base g h.free ∧ Below base w w' := by
  obtain ⟨q, cap, d⟩ := d
  have k1 : w.cell? ⟨g, 1, none⟩ = some (.int .i64 h.kd) := d.1.cell 1 rfl
  have f1 := d.1.frozen 1
  have k2 : w.cell? ⟨g, 2, none⟩ = some (.int .i64 h.ho) := d.1.cell 2 rfl
  have f2 := d.1.frozen 2
  have P1 := d.put 1 0 ⟨h.ks, 0, h.ho, h.tu⟩ rfl rfl
  have P2 := P1.1.put 2 (-1) h.free rfl rfl
  have HP : Hid (PB ((w.setCell ⟨g, 1, none⟩ (.int .i64 0)).setCell ⟨g, 2, none⟩ (.int .i64 (-1))) base g h.free ∧ Below base w ((w.setCell ⟨g, 1, none⟩ (.int .i64 0)).setCell ⟨g, 2, none⟩ (.int .i64 (-1)))) := ⟨⟨q, cap, P2.1⟩, P1.2.trans P2.2⟩
  clear P1 P2 d
  go_enter Try.func77, Try.ntmps77
  go_wp2
  go_end0
  exact ⟨rfl, HP.out⟩

set_option maxRecDepth 20000 in
set_option maxHeartbeats 400000 in
theorem s9take_any (base g : Nat) (h : Hd) (i k : Int) (w : World) (d : PB w base g h) :
    Calls Try.prog 78 #[.pointer (some ⟨g, 0, none⟩), .int .i64 i, .int .i64 k] w fun e w' => e = .returned (.tuple #[]) ∧ PB w' base g (h.take i k) ∧ Below base w w' := by
  obtain ⟨q, cap, d⟩ := d
  have k1 : w.cell? ⟨g, 1, none⟩ = some (.int .i64 h.kd) := d.1.cell 1 rfl
  have f1 := d.1.frozen 1
  have k2 : w.cell? ⟨g, 2, none⟩ = some (.int .i64 h.ho) := d.1.cell 2 rfl
  have f2 := d.1.frozen 2
  have P1 := d.put 1 k ⟨h.ks, k, h.ho, h.tu⟩ rfl rfl
  have P2 := P1.1.put 2 i ⟨h.ks, k, i, h.tu⟩ rfl rfl
  obtain ⟨w2, hw2⟩ : ∃ w2, w2 = (w.setCell ⟨g, 1, none⟩ (.int .i64 k)).setCell ⟨g, 2, none⟩ (.int .i64 i) := ⟨_, rfl⟩
  rw [← hw2] at P2
  have k3 : w2.cell? ⟨g, 2, none⟩ = some (.int .i64 i) := P2.1.1.cell 2 rfl
  have f3 := P2.1.1.frozen 2
  have P3 := P2.1.put 2 (-1) ⟨h.ks, k, -1, h.tu⟩ rfl rfl
  have c1 := sall_any k w2
  cases ha : allI k with
  | true =>
    have e : h.take i k = ⟨h.ks, k, -1, h.tu⟩ := by simp [Hd.take, ha]
    rw [e]
    rw [ha] at c1
    have HP : Hid (PB (w2.setCell ⟨g, 2, none⟩ (.int .i64 (-1))) base g ⟨h.ks, k, -1, h.tu⟩ ∧ Below base w (w2.setCell ⟨g, 2, none⟩ (.int .i64 (-1)))) := ⟨⟨q, cap, P3.1⟩, (P1.2.trans P2.2).trans P3.2⟩
    clear P1 P2 P3 d e ha
    go_enter Try.func78, Try.ntmps78
    go_wp2_with fail
    rw [← hw2]
    clear hw2 k1 f1 k2 f2
    refine c1.mono ?_
    rintro e w' ⟨rfl, hw'⟩; subst w'
    go_wp2
    go_end0
    exact ⟨rfl, HP.out⟩
  | false =>
    have e : h.take i k = ⟨h.ks, k, i, h.tu⟩ := by simp [Hd.take, ha]
    rw [e]
    rw [ha] at c1
    have HP : Hid (PB w2 base g ⟨h.ks, k, i, h.tu⟩ ∧ Below base w w2) := ⟨⟨q, cap, P2.1⟩, P1.2.trans P2.2⟩
    clear P1 P2 P3 d e ha
    go_enter Try.func78, Try.ntmps78
    go_wp2_with fail
    rw [← hw2]
    clear hw2 k1 f1 k2 f2
    refine c1.mono ?_
    rintro e w' ⟨rfl, hw'⟩; subst w'
    go_wp2
    go_end0
    exact ⟨rfl, HP.out⟩

set_option maxRecDepth 20000 in
set_option maxHeartbeats 1000000 in
theorem s9register_any (base g : Nat) (h : Hd) (i key : Int) (w : World) (d : PB w base g h) (t0 : 0 ≤ h.tu) (t1 : h.tu ≤ 1000000000) (i0 : 0 ≤ i) (i1 : i < 4) :
    Calls Try.prog 50 #[.pointer (some ⟨g, 0, none⟩), .int .i64 i, .int .i64 key] w fun e w' => e = .returned (.tuple #[]) ∧ PB w' base g (h.regd i key) ∧ Below base w w' := by
  obtain ⟨q, cap, d⟩ := d
  have k0 : w.cell? ⟨g, 0, none⟩ = some (.slice (some ⟨q, 0, none⟩) 4 cap) := d.1.cell 0 rfl
  obtain ⟨fk, ck, PK, BK⟩ := d.key i.toNat (by omega) key
  have c1 := s9turn_any base g (h.key i key) _ ⟨q, cap, PK⟩ t0 t1
  have HE : Hid (h.regd i key = if key = 0 ∧ (h.ho = i ∨ anyI (h.ks.set i.toNat key) = false) then ((h.key i key).turn).free else (h.key i key).turn) := rfl
  obtain ⟨h1, e1⟩ : ∃ h1, h1 = (h.key i key).turn := ⟨_, rfl⟩
  rw [← e1] at c1 HE
  have eho : h1.ho = h.ho := by rw [e1]; rfl
  have eks : h1.ks = h.ks.set i.toNat key := by rw [e1]; rfl
  rw [← eho, ← eks] at HE
  have HB : Hid (Below base w (w.setCell ⟨q, i.toNat, none⟩ (.int .i64 key))) := BK
  clear PK BK d e1 eho eks t0 t1
  obtain ⟨r, hr⟩ : ∃ r, r = h.regd i key := ⟨_, rfl⟩
  rw [← hr] at HE ⊢
  clear hr
  go_enter Try.func50, Try.ntmps50
  go_wp2_with fail
  refine c1.mono ?_
  rintro e w1 ⟨rfl, P1, B1⟩
  replace HB : Hid (Below base w w1) := HB.out.trans B1
  clear c1 B1 k0 fk ck
  have cf := s9free_any base g h1
  have HP : Hid (PB w1 base g h1) := P1
  obtain ⟨q1, cap1, d1⟩ := P1
  have k0 : w1.cell? ⟨g, 0, none⟩ = some (.slice (some ⟨q1, 0, none⟩) 4 cap1) := d1.1.cell 0 rfl
  have k1 : w1.cell? ⟨g, 1, none⟩ = some (.int .i64 h1.kd) := d1.1.cell 1 rfl
  have k2 : w1.cell? ⟨g, 2, none⟩ = some (.int .i64 h1.ho) := d1.1.cell 2 rfl
  have k3 : w1.cell? ⟨g, 3, none⟩ = some (.int .i64 h1.tu) := d1.1.cell 3 rfl
  have ca := s8any_any _ h1 w1 d1.2.1.reads (by have := d1.2.2.2.2.2; omega)
  unfold HV hdA at ca
  clear d1
  by_cases hk : key = 0
  · by_cases hh : h1.ho = i
    · have HR : Hid (r = h1.free) := by rw [Hid, HE.out, if_pos ⟨hk, .inl hh⟩]
      clear ca HE
      subst hk
      go_wp2_with fail
      refine (cf _ HP.out).mono ?_
      rintro e w2 ⟨rfl, P2, B2⟩
      go_wp2
      go_end0
      exact ⟨rfl, by rw [HR.out]; exact P2, HB.out.trans B2⟩
    · cases hn : anyI h1.ks with
      | false =>
        have HR : Hid (r = h1.free) := by rw [Hid, HE.out, if_pos ⟨hk, .inr hn⟩]
        rw [hn] at ca
        clear HE hn
        subst hk
        go_wp2_with fail
        refine ca.mono ?_
        rintro e w2 ⟨rfl, b2⟩
        replace HB : Hid (Below base w w2) := HB.out.trans (b2.mono HP.out.lt)
        replace HP : Hid (PB w2 base g h1) := HP.out.below b2
        clear b2 k0 k1 k2 k3
        go_wp2_with fail
        refine (cf _ HP.out).mono ?_
        rintro e w3 ⟨rfl, P3, B3⟩
        go_wp2
        go_end0
        exact ⟨rfl, by rw [HR.out]; exact P3, HB.out.trans B3⟩
      | true =>
        have HR : Hid (r = h1) := by rw [Hid, HE.out, if_neg (by simp [hh, hn])]
        rw [hn] at ca
        clear HE hn cf
        subst hk
        go_wp2_with fail
        refine ca.mono ?_
        rintro e w2 ⟨rfl, b2⟩
        have HQ : Hid (PB w2 base g h1 ∧ Below base w w2) := ⟨HP.out.below b2, HB.out.trans (b2.mono HP.out.lt)⟩
        clear b2 k0 k1 k2 k3 HP HB
        go_wp2
        go_end0
        exact ⟨rfl, by rw [HR.out]; exact HQ.out.1, HQ.out.2⟩
  · have HR : Hid (r = h1) := by rw [Hid, HE.out, if_neg (fun c => hk c.1)]
    have HQ : Hid (PB w1 base g h1 ∧ Below base w w1) := ⟨HP.out, HB.out⟩
    clear ca HE cf HP HB
    go_wp2
    go_end0
    exact ⟨rfl, by rw [HR.out]; exact HQ.out.1, HQ.out.2⟩
end Go.Proofs.Ytppkncmlloelbaa
