/- What the law on told holdings draws: DrawHoldingOk, DrawShowHolding, DrawReadHolding. -/
import Derived.Test.YtifffiekibdgnaaGreatDoorDrawHolds
import Derived.Test.YtifffiekibdgnaaGreatDoorBend
import Derived.Test.YtifffiekibdgnaaGreatDoorSTolds
namespace Go.Proofs.YtifffiekibdgnaaGreatDoor
open Go.ChangeShapes Go.WideShapes Go.ChangeAt Go.RowKit

theorem grown_of_belowH {w w' : World} (h : Below w.heap.size w w') (row : Option Nat) : w.grownBy w' row := ⟨h.os, h.tape, h.output, h.size, fun k hk _ => h.block k hk⟩
theorem showT_len (h : Hd) : h.showT.length ≤ 200 := by
  unfold Hd.showT
  split
  · rename_i e
    have hl := (Hd.ok_all e).1
    have := intsB_len h.showN (Hd.ok_fits e)
    simp only [Hd.showN, List.length_append, List.length_cons, List.length_nil, hl] at this
    unfold Hd.showN
    omega
  · simp
theorem Drawn.form' {w w' : World} {u : Value} {h : Hd} (d : Drawn w w' u h) : ∃ q off cap n, u = .slice (some ⟨q, off, none⟩) n cap := by
  obtain ⟨-, ⟨q, off, cap, e, -⟩, -⟩ := d
  exact ⟨q, off, cap, _, e⟩

set_option maxRecDepth 20000 in
set_option maxHeartbeats 1000000 in
theorem drawHok_any (B : Nat) (v : Value) (w : World) (hcode : CodeOk w B v) (hB : B ≤ w.heap.size) :
    Calls Tryz.prog 18 #[v] w fun e w' => ∃ (h : Hd) (u : Value), e = .returned (HV u h) ∧ Drawn w w' u h ∧ Below w.heap.size w w' := by
  have b0 : Below w.heap.size w (w.alloc (.cells zeroH 26)) := (Below.refl _ _).alloc (Nat.le_refl _) _
  have HC : Hid (CodeOk (w.alloc (.cells zeroH 26)) B v) := hcode.below (b0.mono hB)
  have S0 : Hid (StB (w.alloc (.cells zeroH 26)) w.heap.size 26 zeroH) := StB.new _ _ _
  clear hcode
  go_enter Tryz.func18, Tryz.ntmps18
  go_wp2_with fail
  refine (new_code B v _ HC.out (by simp; omega)).mono ?_
  rintro e w1 ⟨c, rfl, hc, C1, G1⟩
  have HF : Hid (StB w1 w.heap.size 26 zeroH ∧ Cur w1 B c) := ⟨S0.out.kept G1 (by simp), C1⟩
  have HG : Hid ((w.alloc (.cells zeroH 26)).grownBy w1 none) := G1
  clear HC S0
  go_wp2_with fail
  refine (l8drawAny_any B c _ HF.out.2).mono ?_
  rintro e w2 ⟨h, u, rfl, D2, C2, G2⟩
  obtain ⟨q, off, cap, n, rfl⟩ := D2.form'
  have HF2 : Hid (StB w2 w.heap.size 26 zeroH ∧ Below w.heap.size w w2 ∧ Drawn (w.alloc (.cells zeroH 26)) w2 (.slice (some ⟨q, off, none⟩) n cap) h) := by
    have hc' : w.heap.size < c := by simp at hc; omega
    refine ⟨HF.out.1.kept G2 (by intro e; have := Option.some.inj e; omega), ?_, D2.mono HG.out.size⟩
    exact b0.trans ((below_of_cur HG.out hc G2).mono (by simp))
  clear HF HG D2 C2 G2 C1 G1 b0
  go_wp2_with (refine wpList_putS Tryz.isH rfl _ _ rfl w.heap.size (hdA (.slice (some ⟨q, off, none⟩) n cap) h) zeroH rfl rfl rfl rfl (hdA_one _ rfl) HF2.out.1 ?_; intro we se ge)
  refine bodyPost_ret (results_S Tryz.isH rfl _ _ w.heap.size _ rfl rfl se) rfl ?_
  exact ⟨h, _, rfl, (HF2.out.2.2.kept ge (fun k e => by cases e; exact .inl (by simp))).mono (by simp), HF2.out.2.1.grown ge HF2.out.2.1.size (fun x e => by cases e; exact Nat.le_refl _)⟩

set_option maxRecDepth 20000 in
set_option maxHeartbeats 1000000 in
theorem drawShowH_any (B : Nat) (v : Value) (w : World) (hcode : CodeOk w B v) (hB : B ≤ w.heap.size) :
    Calls Tryz.prog 5 #[v] w fun e w' => ∃ (h : Hd) (u : Value), e = .returned (HV u h) ∧ Drawn w w' u h ∧ Below w.heap.size w w' := by
  have HC : Hid (CodeOk (w.alloc (.cells zeroH 26)) B v) := hcode.below (((Below.refl w.heap.size w).alloc (Nat.le_refl _) _).mono hB)
  have b0 : Below w.heap.size w (w.alloc (.cells zeroH 26)) := (Below.refl _ _).alloc (Nat.le_refl _) _
  have S0 : StB (w.alloc (.cells zeroH 26)) w.heap.size 26 zeroH := StB.new _ _ _
  clear hcode
  go_enter Tryz.func5, Tryz.ntmps5
  go_wp2_with fail
  refine (drawHok_any B v _ HC.out (by simp; omega)).mono ?_
  rintro e w1 ⟨h, u, rfl, D1, B1⟩
  have HF : Hid (Below w.heap.size w w1 ∧ StB w1 w.heap.size 26 zeroH ∧ Drawn (w.alloc (.cells zeroH 26)) w1 u h) := ⟨b0.trans (B1.mono b0.size), S0.below B1, D1⟩
  obtain ⟨q, off, cap, n, rfl⟩ := D1.form'
  clear D1 B1 S0 b0 HC
  go_wp2_with (refine wpList_putS Tryz.isH rfl _ _ rfl w.heap.size (hdA (.slice (some ⟨q, off, none⟩) n cap) h) zeroH rfl rfl rfl rfl (hdA_one _ rfl) HF.out.2.1 ?_; intro we se ge)
  refine bodyPost_ret (results_S Tryz.isH rfl _ _ w.heap.size _ rfl rfl se) rfl ?_
  exact ⟨h, _, rfl, (HF.out.2.2.kept ge (fun k e => by cases e; exact .inl (by simp))).mono (by simp), HF.out.1.grown ge HF.out.1.size (fun x e => by cases e; exact Nat.le_refl _)⟩

set_option maxRecDepth 20000 in
set_option maxHeartbeats 1000000 in
theorem drawReadH_any (B : Nat) (v : Value) (w : World) (h : CodeOk w B v) (hB : B ≤ w.heap.size) :
    Calls Tryz.prog 7 #[v] w fun e w' => ∃ l : Bs, e = .returned (S l) ∧ l.length ≤ 5000 ∧ Below w.heap.size w w' := by
  go_enter Tryz.func7, Tryz.ntmps7
  go_wp2_with fail
  refine (new_code B v _ h hB).mono ?_
  rintro e w1 ⟨c, rfl, hc, C1, G1⟩
  have hcl := C1.lt
  go_wp2_with fail
  refine (l8drawAny_any B c _ C1).mono ?_
  rintro e w2 ⟨hd, u, rfl, D2, C2, G2⟩
  have c3 := sshowH_any u hd w2 D2.1 (by have := D2.2.2; omega)
  have hsl := showT_len hd
  obtain ⟨t, ht⟩ : ∃ t, t = hd.showT := ⟨_, rfl⟩
  rw [← ht] at hsl
  simp only [← ht] at c3
  have HC2 : Hid (Cur w2 B c ∧ w1.grownBy w2 (some c)) := ⟨C2, G2⟩
  obtain ⟨q, off, cap, n, rfl⟩ := D2.form'
  unfold S HV at c3
  unfold HV
  clear ht h D2 C2 G2 C1
  go_wp2_with fail
  refine c3.mono ?_
  rintro e w3 ⟨rfl, b3⟩
  have HC : Hid (Cur w3 B c ∧ w1.grownBy w3 (some c)) := ⟨HC2.out.1.below b3, HC2.out.2.trans (grown_of_belowH b3 _)⟩
  clear b3 c3 HC2
  go_wp2_with fail
  refine (once_any B c 2 _ HC.out.1 (by omega)).mono ?_
  rintro e w4 ⟨b, rfl, C4, G4⟩
  have HC4 : Hid (Cur w4 B c ∧ w1.grownBy w4 (some c)) := ⟨C4, HC.out.2.trans G4⟩
  clear C4 G4 HC
  cases b with
  | false =>
    go_wp2_with fail
    go_ret
    exact ⟨t, rfl, by omega, below_of_cur G1 hc HC4.out.2⟩
  | true =>
    go_wp2_with fail
    refine (bend_any B c t [48, 49, 32, 45, 57] w4 HC4.out.1 (by omega) (by simp) (by simp)).mono ?_
    rintro e w5 ⟨l', rfl, hl', C5, G5⟩
    have hb := below_of_cur G1 hc (HC4.out.2.trans G5)
    clear C5 G5
    go_wp2_with fail
    go_ret
    exact ⟨l', rfl, by omega, hb⟩
end Go.Proofs.YtifffiekibdgnaaGreatDoor
