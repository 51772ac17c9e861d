/- What the laws on sets draw: a number for the set, one for the item, one for Full; whatever they are, nothing that was there is written. -/
import Derived.Test.YtelfpdjidppblaaDraw
import Derived.Test.YtelfpdjidppblaaSta
namespace Go.Proofs.Ytelfpdjidppblaa
open Go.ChangeShapes Go.WideShapes Go.ChangeAt Go.RowKit

set_option maxRecDepth 20000 in
set_option maxHeartbeats 1000000 in
theorem drawSet_any (B c : Nat) (w : World) (h : Cur w B c) :
    Calls Try.prog 87 #[.pointer (some ⟨c, 0, none⟩)] w fun e w' => ∃ x, e = .returned (.int .i64 x) ∧ Cur w' B c ∧ w.grownBy w' (some c) := by
  go_enter Try.func87, Try.ntmps87
  go_wp2_with fail
  refine (once_any B c 10 _ h (by omega)).mono ?_
  rintro e w1 ⟨b, rfl, C1, G1⟩
  have hlt := C1.lt
  cases b with
  | true =>
    go_wp2_with fail
    refine (below_any B c 5 _ (C1.kept (World.grownBy_alloc w1 _ none) (by simp) (by simp)) (by omega)).mono ?_
    rintro e w2 ⟨x, rfl, hx0, hx1, hx2, C2, G2⟩
    have hx3 := hx1 (by omega)
    have hc := lit_kept G2 (by simp; omega)
    have H2 : Hid (Cur w2 B c ∧ w.grownBy w2 (some c)) := ⟨C2, G1.trans ((World.grownBy_alloc w1 _ _).trans G2)⟩
    clear hx1 hx2 C2 G2 C1 G1 h
    obtain rfl | rfl | rfl | rfl | rfl : x = 0 ∨ x = 1 ∨ x = 2 ∨ x = 3 ∨ x = 4 := by omega
    · have hc0 := hc 0
      clear hc
      simp at hc0
      go_wp2
      go_ret
      exact ⟨_, rfl, H2.out⟩
    · have hc0 := hc 1
      clear hc
      simp at hc0
      go_wp2
      go_ret
      exact ⟨_, rfl, H2.out⟩
    · have hc0 := hc 2
      clear hc
      simp at hc0
      go_wp2
      go_ret
      exact ⟨_, rfl, H2.out⟩
    · have hc0 := hc 3
      clear hc
      simp at hc0
      go_wp2
      go_ret
      exact ⟨_, rfl, H2.out⟩
    · have hc0 := hc 4
      clear hc
      simp at hc0
      go_wp2
      go_ret
      exact ⟨_, rfl, H2.out⟩
  | false =>
    go_wp2_with fail
    refine (below_any B c 256 _ C1 (by omega)).mono ?_
    rintro e w2 ⟨x, rfl, hx0, hx1, hx2, C2, G2⟩
    go_wp2
    go_ret
    exact ⟨_, rfl, C2, G1.trans G2⟩

set_option maxRecDepth 20000 in
set_option maxHeartbeats 1000000 in
theorem drawItem_any (B c : Nat) (w : World) (h : Cur w B c) :
    Calls Try.prog 54 #[.pointer (some ⟨c, 0, none⟩)] w fun e w' => ∃ x, e = .returned (.int .i64 x) ∧ Cur w' B c ∧ w.grownBy w' (some c) := by
  go_enter Try.func54, Try.ntmps54
  go_wp2_with fail
  refine (once_any B c 10 _ h (by omega)).mono ?_
  rintro e w1 ⟨b, rfl, C1, G1⟩
  have hlt := C1.lt
  cases b with
  | true =>
    go_wp2_with fail
    refine (below_any B c 5 _ (C1.kept (World.grownBy_alloc w1 _ none) (by simp) (by simp)) (by omega)).mono ?_
    rintro e w2 ⟨x, rfl, hx0, hx1, hx2, C2, G2⟩
    have hx3 := hx1 (by omega)
    have hc := lit_kept G2 (by simp; omega)
    have H2 : Hid (Cur w2 B c ∧ w.grownBy w2 (some c)) := ⟨C2, G1.trans ((World.grownBy_alloc w1 _ _).trans G2)⟩
    clear hx1 hx2 C2 G2 C1 G1 h
    obtain rfl | rfl | rfl | rfl | rfl : x = 0 ∨ x = 1 ∨ x = 2 ∨ x = 3 ∨ x = 4 := by omega
    · have hc0 := hc 0
      clear hc
      simp at hc0
      go_wp2
      go_ret
      exact ⟨_, rfl, H2.out⟩
    · have hc0 := hc 1
      clear hc
      simp at hc0
      go_wp2
      go_ret
      exact ⟨_, rfl, H2.out⟩
    · have hc0 := hc 2
      clear hc
      simp at hc0
      go_wp2
      go_ret
      exact ⟨_, rfl, H2.out⟩
    · have hc0 := hc 3
      clear hc
      simp at hc0
      go_wp2
      go_ret
      exact ⟨_, rfl, H2.out⟩
    · have hc0 := hc 4
      clear hc
      simp at hc0
      go_wp2
      go_ret
      exact ⟨_, rfl, H2.out⟩
  | false =>
    go_wp2_with fail
    refine (below_any B c 8 _ C1 (by omega)).mono ?_
    rintro e w2 ⟨x, rfl, hx0, hx1, hx2, C2, G2⟩
    go_wp2
    go_ret
    exact ⟨_, rfl, C2, G1.trans G2⟩

/- From what is done to a cursor's own block: nothing below it has turned. -/
theorem below_of_cur {w w1 w2 : World} {c : Nat} (h1 : w.grownBy w1 none) (hc : w.heap.size ≤ c) (h2 : w1.grownBy w2 (some c)) : Below w.heap.size w w2 :=
  ((Below.refl _ w).grown h1 (Nat.le_refl _) (by simp)).grown h2 h1.size (fun k e => by simp at e; omega)
end Go.Proofs.Ytelfpdjidppblaa
/- The cursor of the draws as a thing in the state of a long walk. -/
namespace Go.Proofs.Ytelfpdjidppblaa
open Go.ChangeShapes Go.WideShapes Go.ChangeAt Go.RowKit

theorem Cur.frame {w w' : World} {B c : Nat} (h : Cur w B c) (e : w'.heap[c]? = w.heap[c]?) (b : Below B w w') : Cur w' B c := by
  obtain ⟨ao, len, cap, i, hh, hB, h1, h2, h3⟩ := h
  exact ⟨ao, len, cap, i, hh, hB, e.trans h1, h2.below b, h3⟩
def CurI (B c : Nat) : Item := ⟨[c], B, fun w => Cur w B c, fun _ _ e b h => h.frame (e c (by simp)) b⟩
theorem Sta.cur {w wx wy : World} {L : List Item} {B c : Nat} (h : Sta w wx L) (n : Nat) (e : L[n]? = some (CurI B c)) (C : Cur wy B c) (G : wx.grownBy wy (some c)) : Sta w wy L := by
  have := h.turn n e (Turned.of_grown G) (CurI B c) rfl C (h.olds _ (List.mem_of_getElem? e))
  rwa [set_same e] at this
theorem Sta.newCur {w wx wy : World} {L : List Item} {B c : Nat} (h : Sta w wx L) (hB : B ≤ w.heap.size) (hc : wx.heap.size ≤ c) (C : Cur wy B c) (G : wx.grownBy wy none) : Sta w wy (CurI B c :: L) :=
  h.add ((Below.refl _ _).grown G (Nat.le_refl _) (fun k e => by cases e)) (CurI B c) C (fun k hk => by simp [CurI] at hk; subst hk; exact ⟨hc, C.lt.2⟩) hB
theorem turned_set (w : World) (g j : Nat) (x : Value) : Turned w (w.setCell ⟨g, j, none⟩ x) [g] := Turned.of_grown (grown_set w g j x)
end Go.Proofs.Ytelfpdjidppblaa
/- A list of numbers that a call writes out, looked at by a number that was drawn. -/
namespace Go.Proofs.Ytelfpdjidppblaa
open Go.ChangeShapes Go.WideShapes Go.ChangeAt Go.RowKit

/- A list of numbers that the call writes out: what lies at place i. -/
theorem lit_at {w w' : World} (xs : List Int) {t : TypeId} {row : Option Nat} (hg : (w.alloc (.cells (xs.map (Value.int .i64)).toArray t)).grownBy w' row) (hne : row ≠ some w.heap.size) (i : Int) (h0 : 0 ≤ i) (h1 : i < xs.length) :
    ∃ x : Int, w'.cell? ⟨w.heap.size, i.toNat, none⟩ = some (.int .i64 x) := by
  rw [lit_kept hg hne i.toNat]
  have : i.toNat < xs.length := by omega
  exact ⟨xs[i.toNat], by simp [this]⟩
theorem lit_idx (xs : List Int) (i : Int) (h0 : 0 ≤ i) (h1 : i < xs.length) : ∃ x : Int, ∀ hh : i.toNat < (xs.map (Value.int .i64)).length, (xs.map (Value.int .i64))[i.toNat]'hh = .int .i64 x := by
  have : i.toNat < xs.length := by omega
  exact ⟨xs[i.toNat], fun hh => by simp⟩
end Go.Proofs.Ytelfpdjidppblaa
