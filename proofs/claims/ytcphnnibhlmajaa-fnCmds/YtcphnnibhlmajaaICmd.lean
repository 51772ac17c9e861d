/- ShowCmd and ReadCmd of the program. -/
import Derived.Test.YtcphnnibhlmajaaICmOk
import Derived.Test.YtcphnnibhlmajaaILast
import Derived.Test.YtcphnnibhlmajaaBend
import Derived.Deep.QuietTactic
import Derived.BigQuiet
namespace Go.Proofs.Ytcphnnibhlmajaa
open Go.ChangeShapes Go.WideShapes Go.ChangeAt Go.RowKit

set_option maxRecDepth 20000 in
set_option maxHeartbeats 2000000 in
theorem ishowC_any (c : Cm) (w : World) :
    Calls Try.prog 11 #[CV c] w fun e w' => e = .returned (S (showCS c)) ∧ Below w.heap.size w w' := by
  have c1 := fun wx => icmdok_any c wx
  have B0 : Below w.heap.size w (w.alloc (.cells (cmA c) 25)) := (Below.refl _ _).alloc (Nat.le_refl _) _
  have P0 := CmB.new w 25 c
  by_cases hok : c.ok = true
  · have HS : Hid (showCS c = front c ++ [bt (sumI (front c))]) := by simp [Hid, showCS, hok, showC]
    obtain ⟨h1, h2, h3, h4, h5⟩ := Cm.ok_byt hok
    simp only [hok] at c1
    clear hok
    obtain ⟨o, p, a, b, k⟩ := c
    dsimp only at h1 h2 h3 h4 h5
    have e1 := byteI_bt h1.1 h1.2
    have e2 := byteI_bt h2.1 h2.2
    have e3 := byteI_bt (x := a / 256) (by omega) (by omega)
    have e4 := byteI_bt (x := a % 256) (by omega) (by omega)
    have e5 := byteI_bt (x := b / 256) (by omega) (by omega)
    have e6 := byteI_bt (x := b % 256) (by omega) (by omega)
    have e7 := byteI_bt h5.1 h5.2
    have HF : Hid ((front ⟨o, p, a, b, k⟩).map U = [.int .u8 o, .int .u8 p, .int .u8 (a / 256), .int .u8 (a % 256), .int .u8 (b / 256), .int .u8 (b % 256), .int .u8 k]) := by
      simp only [Hid, front, List.map_cons, List.map_nil, U, e1, e2, e3, e4, e5, e6, e7]
    have hs := sumI_bd (front ⟨o, p, a, b, k⟩)
    have hbs := byteI_bt hs.1 hs.2
    have cl := fun wx => ilast_any (front ⟨o, p, a, b, k⟩) wx (by simp [front])
    obtain ⟨fr, hfr⟩ : ∃ fr, fr = front ⟨o, p, a, b, k⟩ := ⟨_, rfl⟩
    have hfl : fr.length = 7 := by rw [hfr]; rfl
    rw [← hfr] at HF hs hbs HS
    simp only [← hfr] at cl
    clear e1 e2 e3 e4 e5 e6 e7 hfr
    obtain ⟨z, hz⟩ : ∃ z, z = sumI fr := ⟨_, rfl⟩
    rw [← hz] at hs hbs HS
    simp only [← hz] at cl
    clear hz
    unfold CV cmA S at *
    dsimp only at c1 P0 B0 ⊢
    go_enter Try.func11, Try.ntmps11
    go_wp2_with fail
    refine (c1 _).mono ?_
    rintro e w1 ⟨rfl, b1⟩
    have P1 : CmB w1 w.heap.size 25 ⟨o, p, a, b, k⟩ := CmB.below (c := ⟨o, p, a, b, k⟩) P0 b1
    have B1 := B0.trans (b1.mono B0.size)
    have k0 : w1.cell? ⟨w.heap.size, 0, none⟩ = some (.int .i64 o) := P1.cell 0 rfl
    have k1 : w1.cell? ⟨w.heap.size, 1, none⟩ = some (.int .i64 p) := P1.cell 1 rfl
    have k2 : w1.cell? ⟨w.heap.size, 2, none⟩ = some (.int .i64 a) := P1.cell 2 rfl
    have k3 : w1.cell? ⟨w.heap.size, 3, none⟩ = some (.int .i64 b) := P1.cell 3 rfl
    have k4 : w1.cell? ⟨w.heap.size, 4, none⟩ = some (.int .i64 k) := P1.cell 4 rfl
    have hsz := P1.lt
    clear b1 P0 B0 c1 P1
    obtain ⟨w2, hw2⟩ : ∃ w2, w2 = w1.alloc (.cells #[.int .u8 o, .int .u8 p, .int .u8 (a / 256), .int .u8 (a % 256), .int .u8 (b / 256), .int .u8 (b % 256), .int .u8 k] 5) := ⟨_, rfl⟩
    have B2 : Below w.heap.size w w2 := by rw [hw2]; exact B1.alloc B1.size _
    have hO : OwnU w2 w1.heap.size (.slice (some ⟨w1.heap.size, 0, none⟩) 7 7) fr := by
      unfold OwnU
      rw [HF.out, hfl, hw2]
      exact World.ownsRow_lit (base := w1.heap.size) (e := 5) (size := 1) w1 #[.int .u8 o, .int .u8 p, .int .u8 (a / 256), .int .u8 (a % 256), .int .u8 (b / 256), .int .u8 (b % 256), .int .u8 k] 7 (by simp) (by unfold maxLen; omega) rfl
    have hstr := run_str w2 _ _ _ hO (by simp)
    have hO3 : OwnU (w2.alloc (.cells #[.int .u8 z] 5)) w2.heap.size (.slice (some ⟨w2.heap.size, 0, none⟩) 1 1) [bt z] := by
      unfold OwnU
      simp only [List.map_cons, List.map_nil, U, hbs, List.length_cons, List.length_nil]
      exact World.ownsRow_lit (base := w2.heap.size) (e := 5) (size := 1) w2 #[.int .u8 z] 1 (by simp) (by unfold maxLen; omega) rfl
    have hstr2 := run_str (w2.alloc (.cells #[.int .u8 z] 5)) _ _ _ hO3 (by simp)
    have B3 : Below w.heap.size w (w2.alloc (.cells #[.int .u8 z] 5)) := B2.alloc B2.size _
    have hap := app fr [bt z]
    have HW : Hid (w2 = w1.alloc (.cells #[.int .u8 o, .int .u8 p, .int .u8 (a / 256), .int .u8 (a % 256), .int .u8 (b / 256), .int .u8 (b % 256), .int .u8 k] 5)) := hw2
    rw [hw2] at hstr
    clear hw2 hO hO3
    unfold S at hstr hstr2
    go_wp2_with fail
    rw [← HW.out]
    refine (cl _).mono ?_
    rintro e w' ⟨rfl, hw'⟩; subst w'
    clear hstr cl
    go_wp2_with fail
    go_ret
    rw [HS.out]
    exact ⟨rfl, B3⟩
  · have hok' : c.ok = false := by simpa using hok
    have HS : Hid (showCS c = []) := by simp [Hid, showCS, hok']
    simp only [hok'] at c1
    clear hok hok' P0
    unfold CV cmA S at *
    go_enter Try.func11, Try.ntmps11
    go_wp2_with fail
    refine (c1 _).mono ?_
    rintro e w1 ⟨rfl, b1⟩
    have B1 := B0.trans (b1.mono B0.size)
    clear b1 B0 c1
    go_wp2_with fail
    go_ret
    rw [HS.out]
    exact ⟨rfl, B1⟩

theorem extract_take (l : Bs) (b : Nat) : (⟨l.toArray⟩ : ByteArray).extract 0 b = ⟨(l.take b).toArray⟩ := by
  apply ByteArray.ext
  rw [ByteArray.data_extract]
  simp [List.extract_toArray]

set_option maxRecDepth 20000 in
set_option maxHeartbeats 2000000 in
theorem ireadC_any (s : Bs) (w : World) (hl : s.length ≤ 1048576) :
    Calls Try.prog 13 #[S s] w fun e w' => e = .returned (.tuple #[CV (readC s), .int .i64 (codeC s)]) ∧ Below w.heap.size w w' := by
  have hsz : (⟨s.toArray⟩ : ByteArray).size = s.length := rfl
  obtain ⟨w2, hw2⟩ : ∃ w2, w2 = w.alloc (.cells (cmA Cm.zero) 25) := ⟨_, rfl⟩
  have Z2 : CmB w2 w.heap.size 25 Cm.zero := by rw [hw2]; exact CmB.new w _ _
  have B2 : Below w.heap.size w w2 := by rw [hw2]; exact (Below.refl _ _).alloc (Nat.le_refl _) _
  unfold cmA Cm.zero at hw2
  dsimp only at hw2
  unfold S
  by_cases h8 : (s.length : Int) < 8
  · have HE : Hid (codeC s = 1 ∧ readC s = Cm.zero) := code_short (by omega)
    go_enter Try.func13, Try.ntmps13
    go_wp2
    rw [← hw2]
    refine bodyPost_ret (results_C2 rfl _ _ w.heap.size _ _ rfl rfl Z2) rfl ?_
    rw [HE.out.1, HE.out.2]
    exact ⟨rfl, B2⟩
  · by_cases h9 : 8 < (s.length : Int)
    · have HE : Hid (codeC s = 2 ∧ readC s = Cm.zero) := code_long (by omega)
      go_enter Try.func13, Try.ntmps13
      go_wp2
      rw [← hw2]
      refine bodyPost_ret (results_C2 rfl _ _ w.heap.size _ _ rfl rfl Z2) rfl ?_
      rw [HE.out.1, HE.out.2]
      exact ⟨rfl, B2⟩
    · have hl8 : s.length = 8 := by omega
      have H1 : Hid (byteI (s.getD 7 0) ≠ sumI (s.take 7) → codeC s = 3 ∧ readC s = Cm.zero) := code_sum hl8
      have H2 : Hid (byteI (s.getD 7 0) = sumI (s.take 7) → inI (cmOf s).o 1 12 = false → codeC s = 4 ∧ readC s = Cm.zero) := code_op hl8
      have H3 : Hid (byteI (s.getD 7 0) = sumI (s.take 7) → inI (cmOf s).o 1 12 = true → (cmOf s).ok = false → codeC s = 5 ∧ readC s = Cm.zero) := code_field hl8
      have H4 : Hid (byteI (s.getD 7 0) = sumI (s.take 7) → (cmOf s).ok = true → codeC s = 0 ∧ readC s = cmOf s) := code_ok hl8
      have cs := fun wx => ilast_any (s.take 7) wx (by simp; omega)
      have cf := fun wx => ireadF_any s wx hl8
      have c2 := fun wx => iop_any (cmOf s).o wx
      have c3 := fun wx => icmdok_any (cmOf s) wx
      have h7 : 7 < s.length := by omega
      have e7 : byteI (s.getD 7 0) = (((⟨s.toArray⟩ : ByteArray)[7]'h7).toNat : Int) := by
        rw [List.getD_eq_getElem?_getD, List.getElem?_eq_getElem h7]
        rfl
      have hex := extract_take s 7
      rw [e7] at H1 H2 H3 H4
      obtain ⟨z, hz⟩ : ∃ z, z = sumI (s.take 7) := ⟨_, rfl⟩
      rw [← hz] at H1 H2 H3 H4
      simp only [← hz] at cs
      obtain ⟨c, hc⟩ : ∃ c, c = cmOf s := ⟨_, rfl⟩
      rw [← hc] at H2 H3 H4
      simp only [← hc] at cf c2 c3
      unfold S at cs cf
      have hl8' : (s.length : Int) = 8 := by omega
      clear e7 hz hc hl8 hl h8 h9
      have HW : Hid (w2 = w.alloc (.cells #[.int .i64 0, .int .i64 0, .int .i64 0, .int .i64 0, .int .i64 0] 25)) := hw2
      have hws : w.heap.size < w2.heap.size := Z2.lt
      clear hw2
      go_enter Try.func13, Try.ntmps13
      go_wp2
      rw [← HW.out]
      go_quiet ((go_at_call 25; exact Calls.quiet_of_same (cs _)))
      obtain ⟨w5, hw5⟩ : ∃ w5, w5 = w2.drewN nq := ⟨_, rfl⟩
      have Z5 : CmB w5 w.heap.size 25 Cm.zero := by rw [hw5]; exact Z2
      have B5 : Below w.heap.size w w5 := by rw [hw5]; exact below_drewN B2 nq
      have hsz5 : w.heap.size < w5.heap.size := Z5.lt
      rw [← hw5]
      clear hw5 HW hws Z2 B2 cs hex
      by_cases hd : (((⟨s.toArray⟩ : ByteArray)[7]'h7).toNat : Int) = z
      · have HA : Hid (inI c.o 1 12 = false → codeC s = 4 ∧ readC s = Cm.zero) := H2.out hd
        have HB : Hid (inI c.o 1 12 = true → c.ok = false → codeC s = 5 ∧ readC s = Cm.zero) := H3.out hd
        have HD : Hid (c.ok = true → codeC s = 0 ∧ readC s = c) := H4.out hd
        clear H1 H2 H3 H4
        obtain ⟨b1, hb1⟩ : ∃ b1, b1 = inI c.o 1 12 := ⟨_, rfl⟩
        obtain ⟨b2, hb2⟩ : ∃ b2, b2 = c.ok := ⟨_, rfl⟩
        rw [← hb1] at HA HB
        rw [← hb2] at HB HD
        simp only [← hb1] at c2
        simp only [← hb2] at c3
        clear hb1 hb2
        unfold CV cmA at cf c3
        go_wp2_with fail
        refine (cf _).mono ?_
        rintro e w3 ⟨rfl, b3⟩
        have Z3 := Z5.below b3
        have B3 := B5.trans (b3.mono B5.size)
        obtain ⟨w4, hw4⟩ : ∃ w4, w4 = w3.alloc (.cells #[.int .i64 c.o, .int .i64 c.p, .int .i64 c.a, .int .i64 c.b, .int .i64 c.k] 25) := ⟨_, rfl⟩
        have Z4 : CmB w4 w.heap.size 25 Cm.zero := by rw [hw4]; exact Z3.alloc _
        have M4 : CmB w4 w3.heap.size 25 c := by rw [hw4]; exact CmB.new w3 _ c
        have B4 : Below w.heap.size w w4 := by rw [hw4]; exact B3.alloc B3.size _
        have HW : Hid (w4 = w3.alloc (.cells #[.int .i64 c.o, .int .i64 c.p, .int .i64 c.a, .int .i64 c.b, .int .i64 c.k] 25)) := hw4
        have hs4 : w.heap.size < w4.heap.size := Z4.lt
        have hne : w.heap.size ≠ w3.heap.size := by have := Z3.lt; omega
        clear hw4 b3 Z5 B5 Z3 B3 cf hsz5
        go_wp2_with fail
        rw [← HW.out]
        refine (c2 _).mono ?_
        rintro e w' ⟨rfl, hw'⟩; subst w'
        clear c2 HW
        cases b1 with
        | false =>
          have HE := HA.out rfl
          go_wp2_with (refine wpList_putC rfl _ _ rfl w.heap.size Cm.zero Cm.zero rfl rfl Z4 ?_; intro w6 R6 G6)
          refine bodyPost_ret (results_C2 rfl _ _ w.heap.size _ _ rfl rfl R6) rfl ?_
          rw [HE.1, HE.2]
          exact ⟨rfl, B4.grown G6 (by omega) (fun k e => by cases e; exact Nat.le_refl _)⟩
        | true =>
          have HB2 : Hid (b2 = false → codeC s = 5 ∧ readC s = Cm.zero) := HB.out rfl
          clear HB
          go_wp2_with (refine wpList_getC rfl _ rfl w3.heap.size rfl c M4 ?_; unfold CV cmA)
          refine (c3 _).mono ?_
          rintro e w6 ⟨rfl, b6⟩
          have Z6 := Z4.below b6
          have M6 := M4.below b6
          have B6 := B4.trans (b6.mono B4.size)
          have hs6 := Z6.lt
          clear c3 b6 Z4 M4 B4
          cases b2 with
          | false =>
            have HE := HB2.out rfl
            go_wp2_with (refine wpList_putC rfl _ _ rfl w.heap.size Cm.zero Cm.zero rfl rfl Z6 ?_; intro w7 R7 G7)
            refine bodyPost_ret (results_C2 rfl _ _ w.heap.size _ _ rfl rfl R7) rfl ?_
            rw [HE.1, HE.2]
            exact ⟨rfl, B6.grown G7 (by omega) (fun k e => by cases e; exact Nat.le_refl _)⟩
          | true =>
            have HE := HD.out rfl
            go_wp2_with (first | (refine wpList_getC rfl _ rfl w3.heap.size rfl c M6 ?_) | (refine wpList_putC rfl _ _ rfl w.heap.size c Cm.zero rfl rfl Z6 ?_; intro w7 R7 G7))
            refine bodyPost_ret (results_C2 rfl _ _ w.heap.size _ _ rfl rfl R7) rfl ?_
            rw [HE.1, HE.2]
            exact ⟨rfl, B6.grown G7 (by omega) (fun k e => by cases e; exact Nat.le_refl _)⟩
      · have HE := H1.out hd
        have hne7 : ((((⟨s.toArray⟩ : ByteArray)[7]'h7).toNat : Int) != z) = true := by simpa using hd
        clear H1 H2 H3 H4 cf c2 c3
        go_wp2_with (refine wpList_putC rfl _ _ rfl w.heap.size Cm.zero Cm.zero rfl rfl Z5 ?_; intro w6 R6 G6)
        refine bodyPost_ret (results_C2 rfl _ _ w.heap.size _ _ rfl rfl R6) rfl ?_
        rw [HE.1, HE.2]
        exact ⟨rfl, B5.grown G6 (by omega) (fun k e => by cases e; exact Nat.le_refl _)⟩
end Go.Proofs.Ytcphnnibhlmajaa
