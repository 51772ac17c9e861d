/- What the laws on commands draw: l6DrawBytes, DrawReadCmd. -/
import Derived.Test.YtcphnnibhlmajaaDrawCm
import Derived.Test.YtcphnnibhlmajaaSCmd
namespace Go.Proofs.Ytcphnnibhlmajaa
open Go.ChangeShapes Go.WideShapes Go.ChangeAt Go.RowKit

set_option maxRecDepth 20000 in
set_option maxHeartbeats 4000000 in
theorem l6bytes_any (B c : Nat) (w : World) (h : Cur w B c) :
    Calls Try.prog 27 #[.pointer (some ⟨c, 0, none⟩)] w fun e w' => ∃ l : Bs, e = .returned (S l) ∧ l.length ≤ 100 ∧ Cur w' B c ∧ w.grownBy w' (some c) := by
  have HC0 : Hid (Cur w B c) := h
  clear h
  go_enter Try.func27, Try.ntmps27
  go_wp2_with fail
  refine (l6draw_any B c _ HC0.out).mono ?_
  rintro e w1 ⟨r, rfl, hr, C1, G1⟩
  have HC1 : Hid (Cur w1 B c ∧ w.grownBy w1 (some c)) := ⟨C1, G1⟩
  have c2 := fun wx => s6show_any r wx hr
  have hl : (showC r).length = 8 := rfl
  obtain ⟨t, ht⟩ : ∃ t, t = showC r := ⟨_, rfl⟩
  rw [← ht] at hl
  simp only [← ht] at c2
  have htl : t.length ≤ 8 := by omega
  unfold S at c2
  clear C1 G1 HC0 ht hl hr
  go_wp2_with fail
  refine (c2 _).mono ?_
  rintro e w2 ⟨rfl, b2⟩
  have HC2 : Hid (Cur w2 B c ∧ w.grownBy w2 (some c)) := ⟨HC1.out.1.below b2, HC1.out.2.trans (grown_of_belowC b2 _)⟩
  clear HC1 b2 c2
  go_wp2_with fail
  refine (once_any B c 8 _ HC2.out.1 (by omega)).mono ?_
  rintro e w3 ⟨b, rfl, C3, G3⟩
  have HC3 : Hid (Cur w3 B c ∧ w.grownBy w3 (some c)) := ⟨C3, HC2.out.2.trans G3⟩
  clear HC2 C3 G3
  cases b with
  | false =>
    go_wp2_with fail
    refine (once_any B c 12 _ HC3.out.1 (by omega)).mono ?_
    rintro e w5 ⟨b, rfl, C5, G5⟩
    have HC5 : Hid (Cur w5 B c ∧ w.grownBy w5 (some c)) := ⟨C5, HC3.out.2.trans G5⟩
    clear HC3 C5 G5
    cases b with
    | false =>
      go_wp2_with fail
      go_ret
      exact ⟨t, rfl, by omega, HC5.out⟩
    | true =>
      go_wp2_with fail
      refine (below_any B c 16 _ HC5.out.1 (by omega)).mono ?_
      rintro e w6 ⟨x6, rfl, l6, u6, -, C6, G6⟩
      have y6 := u6 (by omega)
      have HC6 : Hid (Cur w6 B c ∧ w.grownBy w6 (some c)) := ⟨C6, HC5.out.2.trans G6⟩
      clear HC5 C6 G6 u6
      go_wp2_with fail
      refine (below_any B c 9 _ HC6.out.1 (by omega)).mono ?_
      rintro e w7 ⟨x7, rfl, l7, u7, -, C7, G7⟩
      have y7 := u7 (by omega)
      have HC7 : Hid (Cur w7 B c ∧ w.grownBy w7 (some c)) := ⟨C7, HC6.out.2.trans G7⟩
      clear HC6 C7 G7 u7
      go_wp2_with fail
      refine (below_any B c 9 _ HC7.out.1 (by omega)).mono ?_
      rintro e w8 ⟨x8, rfl, l8, u8, -, C8, G8⟩
      have y8 := u8 (by omega)
      have HC8 : Hid (Cur w8 B c ∧ w.grownBy w8 (some c)) := ⟨C8, HC7.out.2.trans G8⟩
      clear HC7 C8 G8 u8
      have c9 := fun wx => s6show_any ⟨x6, x7, 0, 0, x8⟩ wx (by unfold Cm.Byt; dsimp only; omega)
      have hl9 : (showC ⟨x6, x7, 0, 0, x8⟩).length = 8 := rfl
      obtain ⟨q, hq⟩ : ∃ q, q = showC ⟨x6, x7, 0, 0, x8⟩ := ⟨_, rfl⟩
      rw [← hq] at hl9
      simp only [← hq] at c9
      unfold CV cmA S at c9
      dsimp only at c9
      clear hq
      go_wp2_with fail
      refine (c9 _).mono ?_
      rintro e w9 ⟨rfl, b9⟩
      have HC9 : Hid (Cur w9 B c ∧ w.grownBy w9 (some c)) := ⟨HC8.out.1.below b9, HC8.out.2.trans (grown_of_belowC b9 _)⟩
      clear HC8 b9 c9
      obtain ⟨cap, w10, hr10, hbuf, hg10⟩ := run_bytes w9 q (by omega)
      have hstr := hbuf.str
      have HC10 : Hid (Cur w10 B c ∧ w.grownBy w10 (some c)) := ⟨HC9.out.1.kept hg10 (by simp) (by simp), HC9.out.2.trans ⟨hg10.os, hg10.tape, hg10.output, hg10.size, fun k hk _ => hg10.block k hk (by simp)⟩⟩
      have hql : q.length ≤ 8 := by omega
      rw [hl9] at hr10 hstr
      unfold S at hstr
      clear HC9 hbuf hg10 hl9
      go_wp2_with fail
      go_ret
      exact ⟨q, rfl, by omega, HC10.out⟩
  | true =>
    go_wp2_with fail
    refine (bend_any B c t [0, 1, 5, 255] w3 HC3.out.1 (by omega) (by simp) (by simp)).mono ?_
    rintro e w4 ⟨t', rfl, htl', C4, G4⟩
    have HC4 : Hid (Cur w4 B c ∧ w.grownBy w4 (some c)) := ⟨C4, HC3.out.2.trans G4⟩
    have htl2 : t'.length ≤ 11 := by omega
    clear HC3 C4 G4 htl htl'
    unfold S
    go_wp2_with fail
    refine (once_any B c 12 _ HC4.out.1 (by omega)).mono ?_
    rintro e w5 ⟨b, rfl, C5, G5⟩
    have HC5 : Hid (Cur w5 B c ∧ w.grownBy w5 (some c)) := ⟨C5, HC4.out.2.trans G5⟩
    clear HC4 C5 G5
    cases b with
    | false =>
      go_wp2_with fail
      go_ret
      exact ⟨t', rfl, by omega, HC5.out⟩
    | true =>
      go_wp2_with fail
      refine (below_any B c 16 _ HC5.out.1 (by omega)).mono ?_
      rintro e w6 ⟨x6, rfl, l6, u6, -, C6, G6⟩
      have y6 := u6 (by omega)
      have HC6 : Hid (Cur w6 B c ∧ w.grownBy w6 (some c)) := ⟨C6, HC5.out.2.trans G6⟩
      clear HC5 C6 G6 u6
      go_wp2_with fail
      refine (below_any B c 9 _ HC6.out.1 (by omega)).mono ?_
      rintro e w7 ⟨x7, rfl, l7, u7, -, C7, G7⟩
      have y7 := u7 (by omega)
      have HC7 : Hid (Cur w7 B c ∧ w.grownBy w7 (some c)) := ⟨C7, HC6.out.2.trans G7⟩
      clear HC6 C7 G7 u7
      go_wp2_with fail
      refine (below_any B c 9 _ HC7.out.1 (by omega)).mono ?_
      rintro e w8 ⟨x8, rfl, l8, u8, -, C8, G8⟩
      have y8 := u8 (by omega)
      have HC8 : Hid (Cur w8 B c ∧ w.grownBy w8 (some c)) := ⟨C8, HC7.out.2.trans G8⟩
      clear HC7 C8 G8 u8
      have c9 := fun wx => s6show_any ⟨x6, x7, 0, 0, x8⟩ wx (by unfold Cm.Byt; dsimp only; omega)
      have hl9 : (showC ⟨x6, x7, 0, 0, x8⟩).length = 8 := rfl
      obtain ⟨q, hq⟩ : ∃ q, q = showC ⟨x6, x7, 0, 0, x8⟩ := ⟨_, rfl⟩
      rw [← hq] at hl9
      simp only [← hq] at c9
      unfold CV cmA S at c9
      dsimp only at c9
      clear hq
      go_wp2_with fail
      refine (c9 _).mono ?_
      rintro e w9 ⟨rfl, b9⟩
      have HC9 : Hid (Cur w9 B c ∧ w.grownBy w9 (some c)) := ⟨HC8.out.1.below b9, HC8.out.2.trans (grown_of_belowC b9 _)⟩
      clear HC8 b9 c9
      obtain ⟨cap, w10, hr10, hbuf, hg10⟩ := run_bytes w9 q (by omega)
      have hstr := hbuf.str
      have HC10 : Hid (Cur w10 B c ∧ w.grownBy w10 (some c)) := ⟨HC9.out.1.kept hg10 (by simp) (by simp), HC9.out.2.trans ⟨hg10.os, hg10.tape, hg10.output, hg10.size, fun k hk _ => hg10.block k hk (by simp)⟩⟩
      have hql : q.length ≤ 8 := by omega
      rw [hl9] at hr10 hstr
      unfold S at hstr
      clear HC9 hbuf hg10 hl9
      go_wp2_with fail
      go_ret
      exact ⟨q, rfl, by omega, HC10.out⟩

set_option maxRecDepth 20000 in
set_option maxHeartbeats 1000000 in
theorem drawReadC_any (B : Nat) (v : Value) (w : World) (h : CodeOk w B v) (hB : B ≤ w.heap.size) :
    Calls Try.prog 12 #[v] w fun e w' => ∃ l : Bs, e = .returned (S l) ∧ l.length ≤ 200 ∧ Below w.heap.size w w' := by
  go_enter Try.func12, Try.ntmps12
  go_wp2_with fail
  refine (new_code B v _ h hB).mono ?_
  rintro e w1 ⟨c, rfl, hc, C1, G1⟩
  have hcl := C1.lt
  go_wp2_with fail
  refine (l6bytes_any B c _ C1).mono ?_
  rintro e w2 ⟨t, rfl, htl, C2, G2⟩
  have HC : Hid (Cur w2 B c ∧ w1.grownBy w2 (some c)) := ⟨C2, G2⟩
  clear C2 G2 C1 h
  unfold S
  go_wp2_with fail
  refine (once_any B c 4 _ HC.out.1 (by omega)).mono ?_
  rintro e w4 ⟨b, rfl, C4, G4⟩
  have HC4 : Hid (Cur w4 B c ∧ w1.grownBy w4 (some c)) := ⟨C4, HC.out.2.trans G4⟩
  clear C4 G4 HC
  cases b with
  | false =>
    go_wp2_with fail
    go_ret
    exact ⟨t, rfl, by omega, below_of_cur G1 hc HC4.out.2⟩
  | true =>
    go_wp2_with fail
    refine (bend_any B c t [0, 1, 5, 255] w4 HC4.out.1 (by omega) (by simp) (by simp)).mono ?_
    rintro e w5 ⟨l', rfl, hl', C5, G5⟩
    have hb := below_of_cur G1 hc (HC4.out.2.trans G5)
    clear C5 G5
    go_wp2_with fail
    go_ret
    exact ⟨l', rfl, by omega, hb⟩
end Go.Proofs.Ytcphnnibhlmajaa
