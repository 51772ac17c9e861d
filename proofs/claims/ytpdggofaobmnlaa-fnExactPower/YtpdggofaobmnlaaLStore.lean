/- How the laws take a store over, measure it, compare two, mark one and look at the marks. -/
import Derived.Test.YtpdggofaobmnlaaSr
import Derived.Test.YtpdggofaobmnlaaLHold
import Derived.Deep.DeepCutAuto
namespace Go.Proofs.Ytpdggofaobmnlaa
open Go.ChangeShapes Go.WideShapes Go.ChangeAt Go.RowKit

theorem Try.isR : IsS 30 6 := ⟨⟨_, Try.underlying30⟩, by kernel_rfl⟩
/- A store's three lists, each in a block of its own. -/
def OwnR (w : World) (base : Nat) (a b k : Value) (xs ys ks : List Int) : Prop := OwnD w base a b xs ys ∧ Own w base k ks ∧ apart a k ∧ apart b k
def zeR : Array Value := #[.slice none 0 0, .slice none 0 0, .slice none 0 0, .int .i64 0, .int .i64 0, .int .i64 0]
theorem srA_one {a b k : Value} (h : Hd) (ha : a.oneCell' = true) (hb : b.oneCell' = true) (hk : k.oneCell' = true) : (srA a b k h).all (·.oneCell') = true := by
  unfold srA
  simp [ha, hb, hk, show ∀ k n, (Value.int k n).oneCell' = true from fun _ _ => rfl]
theorem OwnR.below {w w' : World} {base : Nat} {a b k : Value} {xs ys ks : List Int} (h : OwnR w base a b k xs ys ks) (e : Below w.heap.size w w') : OwnR w' base a b k xs ys ks :=
  ⟨⟨h.1.1.below e, h.1.2.1.below e, h.1.2.2⟩, h.2.1.below e, h.2.2⟩
theorem OwnR.mono {w : World} {base base' : Nat} {a b k : Value} {xs ys ks : List Int} (h : OwnR w base a b k xs ys ks) (e : base' ≤ base) : OwnR w base' a b k xs ys ks :=
  ⟨⟨h.1.1.mono e, h.1.2.1.mono e, h.1.2.2⟩, h.2.1.mono e, h.2.2⟩
theorem OwnR.keptLt {w w' : World} {base g : Nat} {a b k : Value} {xs ys ks : List Int} (h : OwnR w base a b k xs ys ks) (e : w.grownBy w' (some g)) (hg : g < base) : OwnR w' base a b k xs ys ks :=
  ⟨⟨h.1.1.keptLt e hg, h.1.2.1.keptLt e hg, h.1.2.2⟩, h.2.1.keptLt e hg, h.2.2⟩
theorem OwnR.nil (w : World) (base : Nat) : OwnR w base (.slice none 0 0) (.slice none 0 0) (.slice none 0 0) [] [] [] :=
  ⟨⟨Own.nil w base, Own.nil w base, ⟨.inl rfl, .inl rfl⟩⟩, Own.nil w base, ⟨.inl rfl, .inl rfl⟩, ⟨.inl rfl, .inl rfl⟩⟩

set_option maxRecDepth 20000 in
set_option maxHeartbeats 1000000 in
theorem szStore_any (u v q : Value) (xs ys : List Int) (h : Hd) (k : Int) (w : World) (hu : Reads w u xs) (hv : Reads w v ys) (hq : Reads w q h.ks) (h0 : 0 ≤ k) (h1 : k ≤ 1048576) :
    Calls Try.prog 22 #[SRV u v q h, .int .i64 k] w fun e w' => e = .returned (.int .i64 (szI k (xs.length + ys.length + h.ks.length))) ∧ Below w.heap.size w w' := by
  have B1 : Hid (Below w.heap.size w (w.alloc (.cells (srA u v q h) 45))) := (Below.refl _ _).alloc (Nat.le_refl _) _
  have P1 : Hid (StB (w.alloc (.cells (srA u v q h) 45)) w.heap.size 45 (srA u v q h)) := StB.new _ _ _
  have c1 := szDisk_any u v xs ys k _ (hu.below B1.out (Nat.le_refl _)) (hv.below B1.out (Nat.le_refl _)) h0 h1
  by_cases hx : ((xs.length + ys.length : Nat) : Int) ≤ k
  · have e1 : szI k (xs.length + ys.length) = k - (xs.length + ys.length : Nat) := by simp only [szI]; rw [if_pos hx]
    have c2 := fun wx (b : Below w.heap.size w wx) => szHolding_any q h (k - (xs.length + ys.length : Nat)) wx (hq.below b (Nat.le_refl _)) (by omega) (by omega)
    have e2 : szI (k - (xs.length + ys.length : Nat)) h.ks.length = szI k (xs.length + ys.length + h.ks.length) := by
      simp only [szI]
      by_cases hk : (h.ks.length : Int) ≤ k - (xs.length + ys.length : Nat)
      · rw [if_pos hk, if_pos (by omega)]; omega
      · rw [if_neg hk, if_neg (by omega)]
    rw [e1] at c1
    rw [e2] at c2
    have hs : szI k (xs.length + ys.length + h.ks.length) = -1 ∨ 0 ≤ szI k (xs.length + ys.length + h.ks.length) := by unfold szI; split <;> omega
    obtain ⟨x, hx'⟩ : ∃ x, x = szI k (xs.length + ys.length + h.ks.length) := ⟨_, rfl⟩
    rw [← hx'] at c2 hs ⊢
    obtain ⟨m, hm⟩ : ∃ m : Int, m = k - (xs.length + ys.length : Nat) := ⟨_, rfl⟩
    rw [← hm] at c1 c2
    have m0 : 0 ≤ m := by omega
    obtain ⟨uo, uc, rfl⟩ := reads_form hu
    obtain ⟨vo, vc, rfl⟩ := reads_form hv
    obtain ⟨qo, qc, rfl⟩ := reads_form hq
    have C2 : Hid _ := c2
    clear c2 hx' hm hu hv hq e1 e2 hx
    unfold SRV srA at *
    unfold HV hdA at C2
    rcases hs with hs | hs
    · subst hs
      go_enter Try.func22, Try.ntmps22
      go_wp2_with fail
      refine c1.mono ?_
      rintro e w2 ⟨rfl, b2⟩
      have B2 : Hid (Below w.heap.size w w2) := B1.out.trans (b2.mono B1.out.size)
      have P2 := P1.out.below b2
      have k2 := P2.cell 2 rfl
      have k3 := P2.cell 3 rfl
      have k4 := P2.cell 4 rfl
      have k5 := P2.cell 5 rfl
      clear b2 c1 B1 P1 P2
      go_wp2_with fail
      refine (C2.out _ B2.out).mono ?_
      rintro e w3 ⟨rfl, b3⟩
      have B3 : Hid (Below w.heap.size w w3) := B2.out.trans (b3.mono B2.out.size)
      clear b3 k2 k3 k4 k5
      go_wp2
      go_ret
      exact ⟨rfl, B3.out⟩
    · go_enter Try.func22, Try.ntmps22
      go_wp2_with fail
      refine c1.mono ?_
      rintro e w2 ⟨rfl, b2⟩
      have B2 : Hid (Below w.heap.size w w2) := B1.out.trans (b2.mono B1.out.size)
      have P2 := P1.out.below b2
      have k2 := P2.cell 2 rfl
      have k3 := P2.cell 3 rfl
      have k4 := P2.cell 4 rfl
      have k5 := P2.cell 5 rfl
      clear b2 c1 B1 P1 P2
      go_wp2_with fail
      refine (C2.out _ B2.out).mono ?_
      rintro e w3 ⟨rfl, b3⟩
      have B3 : Hid (Below w.heap.size w w3) := B2.out.trans (b3.mono B2.out.size)
      clear b3 k2 k3 k4 k5
      go_wp2
      go_ret
      exact ⟨rfl, B3.out⟩
  · have e1 : szI k (xs.length + ys.length) = -1 := by simp only [szI]; rw [if_neg hx]
    have e2 : szI k (xs.length + ys.length + h.ks.length) = -1 := by simp only [szI]; rw [if_neg (by omega)]
    rw [e1] at c1
    rw [e2]
    obtain ⟨uo, uc, rfl⟩ := reads_form hu
    obtain ⟨vo, vc, rfl⟩ := reads_form hv
    obtain ⟨qo, qc, rfl⟩ := reads_form hq
    clear hu hv hq e1 e2 hx
    unfold SRV srA at *
    go_enter Try.func22, Try.ntmps22
    go_wp2_with fail
    refine c1.mono ?_
    rintro e w2 ⟨rfl, b2⟩
    have B2 : Hid (Below w.heap.size w w2) := B1.out.trans (b2.mono B1.out.size)
    clear b2 c1 B1 P1
    go_wp2
    go_ret
    exact ⟨rfl, B2.out⟩
end Go.Proofs.Ytpdggofaobmnlaa
