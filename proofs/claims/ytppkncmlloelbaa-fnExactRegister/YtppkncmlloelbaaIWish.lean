/- What the program's actions ask and do, one after the other: what fits, what refuses, what is done. -/
import Derived.Test.YtppkncmlloelbaaIHold3
import Derived.Test.YtppkncmlloelbaaAct
import Derived.Deep.DeepCutAuto
namespace Go.Proofs.Ytppkncmlloelbaa
open Go.ChangeShapes Go.WideShapes Go.ChangeAt Go.RowKit

def wiA (i k d : Int) : Array Value := #[.int .i64 i, .int .i64 k, .int .i64 d]
theorem Try.isWish : IsS 55 3 := ⟨⟨_, Try.underlying55⟩, by kernel_rfl⟩
theorem wiA_one (i k d : Int) : (wiA i k d).all (·.oneCell') = true := by simp [wiA, Value.oneCell']
theorem wiA_cells {w : World} {g : Nat} {i k d : Int} (h : StB w g 55 (wiA i k d)) :
    w.cell? ⟨g, 0, none⟩ = some (.int .i64 i) ∧ w.cell? ⟨g, 1, none⟩ = some (.int .i64 k) ∧ w.cell? ⟨g, 2, none⟩ = some (.int .i64 d) :=
  ⟨h.cell 0 rfl, h.cell 1 rfl, h.cell 2 rfl⟩
def he0A : Array Value := heA (fun _ => 0) 0 0 0
/- Three new blocks: the holding, the wish, and what is answered. -/
def HW (w w1 : World) (f : Nat → Int) (kd ho tu i k d : Int) : Prop :=
  StB w1 w.heap.size 68 (heA f kd ho tu) ∧ StB w1 (w.heap.size + 1) 55 (wiA i k d) ∧ StB w1 (w.heap.size + 2) 68 he0A ∧ Below w.heap.size w w1
theorem HW.start (w : World) (f : Nat → Int) (kd ho tu i k d : Int) : HW w (((w.alloc (.cells (heA f kd ho tu) 68)).alloc (.cells (wiA i k d) 55)).alloc (.cells he0A 68)) f kd ho tu i k d := by
  refine ⟨((StB.new _ _ _).alloc _).alloc _, ?_, ?_, (((Below.refl _ _).alloc (Nat.le_refl _) _).alloc (by simp) _).alloc (by simp; omega) _⟩
  · have := StB.new (w.alloc (.cells (heA f kd ho tu) 68)) 55 (wiA i k d)
    rw [World.size_alloc] at this
    exact this.alloc _
  · have := StB.new ((w.alloc (.cells (heA f kd ho tu) 68)).alloc (.cells (wiA i k d) 55)) 68 he0A
    rw [World.size_alloc, World.size_alloc] at this
    exact this
theorem HW.next {w w1 w2 : World} {f : Nat → Int} {kd ho tu i k d : Int} (h : HW w w1 f kd ho tu i k d) (b : Below w1.heap.size w1 w2) : HW w w2 f kd ho tu i k d :=
  ⟨h.1.below b, h.2.1.below b, h.2.2.1.below b, h.2.2.2.trans (b.mono h.2.2.2.size)⟩
theorem HW.drew {w w1 : World} {f : Nat → Int} {kd ho tu i k d : Int} (h : HW w w1 f kd ho tu i k d) : HW w w1.drew f kd ho tu i k d := ⟨h.1, h.2.1, h.2.2.1, h.2.2.2.drew⟩
theorem HW.lt {w w1 : World} {f : Nat → Int} {kd ho tu i k d : Int} (h : HW w w1 f kd ho tu i k d) : w.heap.size + 2 < w1.heap.size := h.2.2.1.lt
theorem HW.set {w w1 w2 : World} {f g : Nat → Int} {kd ho tu i k d kd' ho' tu' : Int} (h : HW w w1 f kd ho tu i k d) (s : StB w2 w.heap.size 68 (heA g kd' ho' tu')) (b : w1.grownBy w2 (some w.heap.size)) : HW w w2 g kd' ho' tu' i k d :=
  ⟨s, h.2.1.kept b (by simp), h.2.2.1.kept b (by simp), h.2.2.2.grown b h.2.2.2.size (fun x e => by cases e; exact Nat.le_refl _)⟩
theorem HW.put {w w1 : World} {f g : Nat → Int} {kd ho tu i k d kd' ho' tu' : Int} (h : HW w w1 f kd ho tu i k d) (j : Nat) (x : Int) (e : (heA f kd ho tu).setIfInBounds j (.int .i64 x) = heA g kd' ho' tu') : HW w (w1.setCell ⟨w.heap.size, j, none⟩ (.int .i64 x)) g kd' ho' tu' i k d :=
  h.set (h.1.put j _ e) (grownSet w1 _ j _)

set_option maxRecDepth 20000 in
set_option maxHeartbeats 400000 in
theorem ianykey_any (i k d : Int) (w : World) :
    Calls Try.prog 84 #[.agg (wiA i k d)] w fun e w' => e = .returned (.bool (inI k 0 9999)) ∧ Below w.heap.size w w' := by
  have b1 : Below w.heap.size w (w.alloc (.cells (wiA i k d) 55)) := (Below.refl _ _).alloc (Nat.le_refl _) _
  have c1 := fun wx => ikeyok_any k wx
  unfold wiA at *
  go_enter Try.func84, Try.ntmps84
  go_wp2_with (first | (go_at_call 98; refine (c1 _).mono ?_; rintro e w' ⟨rfl, hw⟩; subst w'))
  go_ret
  exact ⟨rfl, b1⟩

set_option maxRecDepth 20000 in
set_option maxHeartbeats 400000 in
theorem isomekind_any (i k d : Int) (w : World) :
    Calls Try.prog 87 #[.agg (wiA i k d)] w fun e w' => e = .returned (.bool (kiI d)) ∧ Below w.heap.size w w' := by
  have b1 : Below w.heap.size w (w.alloc (.cells (wiA i k d) 55)) := (Below.refl _ _).alloc (Nat.le_refl _) _
  have c1 := fun wx => ikind_any d wx
  unfold wiA at *
  go_enter Try.func87, Try.ntmps87
  go_wp2_with (first | (go_at_call 100; refine (c1 _).mono ?_; rintro e w2 ⟨rfl, b2⟩))
  go_ret
  exact ⟨rfl, b1.trans (b2.mono b1.size)⟩

set_option maxRecDepth 20000 in
set_option maxHeartbeats 400000 in
theorem ianything_any (i k d : Int) (w : World) :
    Calls Try.prog 90 #[.agg (wiA i k d)] w fun e w' => e = .returned (.bool true) ∧ Below w.heap.size w w' := by
  have b1 : Below w.heap.size w (w.alloc (.cells (wiA i k d) 55)) := (Below.refl _ _).alloc (Nat.le_refl _) _
  unfold wiA at *
  go_enter Try.func90, Try.ntmps90
  go_wp2
  go_ret
  exact ⟨rfl, b1⟩

theorem key_some (k : Int) : (inI k 0 9999 && (k != 0)) = inI k 1 9999 := by
  rw [Bool.eq_iff_iff]
  simp [inI]
  omega

set_option maxRecDepth 20000 in
set_option maxHeartbeats 1000000 in
theorem isomekk_any (i k d : Int) (w : World) :
    Calls Try.prog 94 #[.agg (wiA i k d)] w fun e w' => e = .returned (.bool (inI k 1 9999 && kiI d)) ∧ Below w.heap.size w w' := by
  have b1 : Below w.heap.size w (w.alloc (.cells (wiA i k d) 55)) := (Below.refl _ _).alloc (Nat.le_refl _) _
  have c1 := fun wx => ikeyok_any k wx
  have c2 := fun wx => ikind_any d wx
  have HE : Hid ((inI k 0 9999 && (k != 0)) = inI k 1 9999) := key_some k
  obtain ⟨x, hx⟩ : ∃ x, x = inI k 0 9999 := ⟨_, rfl⟩
  obtain ⟨y, hy⟩ : ∃ y, y = kiI d := ⟨_, rfl⟩
  obtain ⟨z, hz⟩ : ∃ z, z = inI k 1 9999 := ⟨_, rfl⟩
  rw [← hx, ← hz] at HE
  rw [← hy, ← hz]
  simp only [← hx] at c1
  simp only [← hy] at c2
  clear hx hy hz
  unfold wiA at *
  cases x with
  | false =>
    have E : Hid (z = false) := by rw [Hid, ← HE.out]; simp
    clear HE
    go_enter Try.func94, Try.ntmps94
    go_wp2_with (first | (go_at_call 98; refine (c1 _).mono ?_; rintro e w' ⟨rfl, hw⟩; subst w'))
    go_ret
    exact ⟨ret_bool (by rw [E.out]; simp), b1⟩
  | true =>
    by_cases k0 : k = 0
    · have E : Hid (z = false) := by rw [Hid, ← HE.out]; simp [k0]
      have kn : (k != 0) = false := by simpa using k0
      clear HE k0
      go_enter Try.func94, Try.ntmps94
      go_wp2_with (first | (go_at_call 98; refine (c1 _).mono ?_; rintro e w' ⟨rfl, hw⟩; subst w'))
      go_ret
      exact ⟨ret_bool (by rw [E.out]; simp), b1⟩
    · have E : Hid (z = true) := by rw [Hid, ← HE.out]; simp [k0]
      have kn : (k != 0) = true := by simpa using k0
      clear HE k0
      go_enter Try.func94, Try.ntmps94
      go_wp2_with (first | (go_at_call 98; refine (c1 _).mono ?_; rintro e w' ⟨rfl, hw⟩; subst w') | (go_at_call 100; refine (c2 _).mono ?_; rintro e w2 ⟨rfl, b2⟩))
      go_ret
      exact ⟨ret_bool (by rw [E.out]; simp), b1.trans (b2.mono b1.size)⟩

set_option maxRecDepth 20000 in
set_option maxHeartbeats 400000 in
theorem inobody_any (f : Nat → Int) (kd ho tu i k d : Int) (w : World) :
    Calls Try.prog 85 #[.agg (heA f kd ho tu), .agg (wiA i k d)] w fun e w' => e = .returned (.bool false) ∧ Below w.heap.size w w' := by
  have b1 : Below w.heap.size w ((w.alloc (.cells (heA f kd ho tu) 68)).alloc (.cells (wiA i k d) 55)) := ((Below.refl _ _).alloc (Nat.le_refl _) _).alloc (by simp) _
  unfold wiA heA at *
  go_enter Try.func85, Try.ntmps85
  go_wp2
  go_ret
  exact ⟨rfl, b1⟩

/- Two new blocks: the holding and the wish. -/
def HW2 (w w1 : World) (f : Nat → Int) (kd ho tu i k d : Int) : Prop :=
  StB w1 w.heap.size 68 (heA f kd ho tu) ∧ StB w1 (w.heap.size + 1) 55 (wiA i k d) ∧ Below w.heap.size w w1
theorem HW2.start (w : World) (f : Nat → Int) (kd ho tu i k d : Int) : HW2 w ((w.alloc (.cells (heA f kd ho tu) 68)).alloc (.cells (wiA i k d) 55)) f kd ho tu i k d := by
  refine ⟨(StB.new _ _ _).alloc _, ?_, ((Below.refl _ _).alloc (Nat.le_refl _) _).alloc (by simp) _⟩
  have := StB.new (w.alloc (.cells (heA f kd ho tu) 68)) 55 (wiA i k d)
  rw [World.size_alloc] at this
  exact this
theorem HW2.next {w w1 w2 : World} {f : Nat → Int} {kd ho tu i k d : Int} (h : HW2 w w1 f kd ho tu i k d) (b : Below w1.heap.size w1 w2) : HW2 w w2 f kd ho tu i k d :=
  ⟨h.1.below b, h.2.1.below b, h.2.2.trans (b.mono h.2.2.size)⟩
theorem HW2.drew {w w1 : World} {f : Nat → Int} {kd ho tu i k d : Int} (h : HW2 w w1 f kd ho tu i k d) : HW2 w w1.drew f kd ho tu i k d := ⟨h.1, h.2.1, h.2.2.drew⟩

def strI (f : Nat → Int) (i : Int) : Bool := !(inI i 0 3 && decide (f i.toNat ≠ 0))
set_option maxRecDepth 20000 in
set_option maxHeartbeats 1000000 in
theorem istrange_any (f : Nat → Int) (kd ho tu i k d : Int) (w : World) :
    Calls Try.prog 91 #[.agg (heA f kd ho tu), .agg (wiA i k d)] w fun e w' => e = .returned (.bool (strI f i)) ∧ Below w.heap.size w w' := by
  obtain ⟨w1, hw1⟩ : ∃ w1, w1 = (w.alloc (.cells (heA f kd ho tu) 68)).alloc (.cells (wiA i k d) 55) := ⟨_, rfl⟩
  have HS : Hid (HW2 w w1 f kd ho tu i k d) := by rw [hw1]; exact HW2.start _ _ _ _ _ _ _ _
  have c1 := iregd_any f i w1
  obtain ⟨x, hx⟩ : ∃ x, x = (inI i 0 3 && decide (f i.toNat ≠ 0)) := ⟨_, rfl⟩
  unfold strI
  rw [← hx] at c1 ⊢
  clear hx
  unfold kA at c1
  rw [heA, wiA] at hw1 ⊢
  go_enter Try.func91, Try.ntmps91
  go_wp2_with fail
  rw [← hw1]
  refine c1.mono ?_
  rintro e w2 ⟨rfl, b2⟩
  replace HS := HS.out.next b2
  clear hw1 c1 b2
  go_wp2
  go_ret
  exact ⟨rfl, HS.2.2⟩
end Go.Proofs.Ytppkncmlloelbaa
