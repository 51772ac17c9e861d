/- Copiers by the model, behind a pointer: l13Next, l13Ack, l13Again. -/
import Derived.Test.YtelfpdjidppblaaCpB
import Derived.Test.YtelfpdjidppblaaSeek
import Derived.Test.YtelfpdjidppblaaM1
namespace Go.Proofs.Ytelfpdjidppblaa
open Go.ChangeShapes Go.WideShapes Go.ChangeAt Go.RowKit

theorem Turned.drew {w w' : World} {bs : List Nat} (h : Turned w w' bs) : Turned w w'.drew bs := h.then (Turned.below _ (Below.refl _ _).drew)
theorem CpB.drew {w : World} {g off : Nat} {t : TypeId} {cs : Array Value} {v : Value} {c : Cp} (h : CpB w g off t cs v c) : CpB w.drew g off t cs v c := h.below (Below.refl _ _).drew
/- The turn of one that is there: its cell, and what is put there. -/
theorem CpB.turn {w : World} {g off : Nat} {t : TypeId} {cs : Array Value} {v : Value} {c : Cp} (h : CpB w g off t cs v c) (j : Nat) (hj : j < c.ts.length) :
    ∃ q cap, v = .slice (some ⟨q, 0, none⟩) c.ts.length cap ∧ q ≠ g ∧ c.ts.length ≤ cap ∧ cap ≤ maxLen ∧ w.cell? ⟨q, j, none⟩ = some (.int .i64 (c.ts.getD j 0)) ∧ w.frozen? ⟨q, j, none⟩ = false ∧
      ∀ x : Int, CpB (w.setCell ⟨q, j, none⟩ (.int .i64 x)) g off t cs v { c with ts := c.ts.set j x } ∧ Turned w (w.setCell ⟨q, j, none⟩ (.int .i64 x)) (g :: v.ownBlock.toList) := by
  obtain ⟨ao, cap, rfl⟩ := reads_form h.own.reads
  obtain ⟨-, hc1, hc2, hcell⟩ := reads_cells h.own.reads
  obtain ⟨q, rfl⟩ : ∃ q, ao = some ⟨q, 0, none⟩ := by
    rcases h.own.2 with e | ⟨q, cap', cur, e, _⟩
    · have e1 : c.ts.length = 0 := e.2
      omega
    · simp only [Value.slice.injEq] at e
      exact ⟨q, e.1⟩
  obtain ⟨b, o, e, hx⟩ := hcell j hj
  simp only [Option.some.injEq, Addr.mk.injEq] at e
  obtain ⟨rfl, rfl, -⟩ := e
  rw [Nat.zero_add] at hx
  have hne : q ≠ g := fun e => h.ne (by rw [← e]; rfl)
  refine ⟨q, cap, rfl, hne, hc1, hc2, hx, (h.own.put rfl j hj 0).1, fun x => ?_⟩
  have o := (h.own.put rfl j hj x).2.2
  exact ⟨⟨h.st.other _ _ (fun e => hne e.symm), h.i0, h.i1, h.i2, h.i3, h.i4, o, h.ne⟩, (Turned.of_grown (grownSet w q j _)).sub (by simp [Value.ownBlock])⟩

set_option maxRecDepth 20000 in
set_option maxHeartbeats 2000000 in
theorem snext_any (g off : Nat) (t : TypeId) (cs : Array Value) (v : Value) (c : Cp) (w : World) (d : CpB w g off t cs v c) (f : c.Fit) :
    Calls Try.prog 65 #[.pointer (some ⟨g, off, none⟩)] w fun e w' => e = .returned (.int .i64 c.nx) ∧ CpB w' g off t (cpPut cs off c.next.di c.next.wa) v c.next ∧ Turned w w' (g :: v.ownBlock.toList) := by
  have c1 := fun wx => sfirst_any c.di wx
  have HE : Hid (c.next = if c.goes then { c with di := withoutI c.di (firstI c.di), wa := withI c.wa (firstI c.di), ts := c.ts.set (firstI c.di).toNat (c.ts.getD (firstI c.di).toNat 0 + 1) } else c) := rfl
  have HN : Hid (c.nx = if c.goes then firstI c.di else -1) := rfl
  have HG : Hid (c.goes = (c.op && decide (0 ≤ firstI c.di) && decide (c.ts.getD (firstI c.di).toNat 0 ≠ 1000000000))) := rfl
  have hf := f.first
  have hlen := f.len
  have ht := turns_at f.turns (firstI c.di).toNat
  obtain ⟨i, hi⟩ : ∃ i, i = firstI c.di := ⟨_, rfl⟩
  rw [← hi] at HE HN HG hf ht
  simp only [← hi] at c1
  obtain ⟨m, hm⟩ : ∃ m, m = c.next := ⟨_, rfl⟩
  rw [← hm] at HE ⊢
  obtain ⟨n, hn⟩ : ∃ n, n = c.nx := ⟨_, rfl⟩
  rw [← hn] at HN ⊢
  obtain ⟨b, hb⟩ : ∃ b, b = c.goes := ⟨_, rfl⟩
  rw [← hb] at HE HN HG
  clear hi hm hn hb
  obtain ⟨k0, k1, k2, k3, k4⟩ := d.cell
  have HD : Hid (CpB w g off t cs v c) := d
  have HS : Hid (b = false → n = -1 ∧ CpB w g off t (cpPut cs off m.di m.wa) v m ∧ Turned w w (g :: v.ownBlock.toList)) := by
    rintro rfl
    refine ⟨by rw [HN.out]; simp, ?_, Turned.refl _ _⟩
    have e : m = c := by rw [HE.out]; simp
    rw [e]; exact d.same
  clear f d
  cases ho : c.op with
  | false =>
    have HB : Hid (n = -1 ∧ CpB w g off t (cpPut cs off m.di m.wa) v m ∧ Turned w w (g :: v.ownBlock.toList)) := HS.out (by rw [HG.out, ho]; rfl)
    rw [ho] at k1
    clear HS HE HN HG HD
    go_enter Try.func65, Try.ntmps65
    go_wp2_with fail
    refine (c1 _).mono ?_
    rintro e w' ⟨rfl, hw⟩; subst w'
    go_wp2
    go_ret
    exact ⟨ret_int HB.out.1.symm, HB.out.2⟩
  | true =>
    rw [ho] at k1
    by_cases hi : i < 0
    · have HB : Hid (n = -1 ∧ CpB w g off t (cpPut cs off m.di m.wa) v m ∧ Turned w w (g :: v.ownBlock.toList)) := HS.out (by rw [HG.out, ho]; simp; intro h; omega)
      clear HS HE HN HG HD
      go_enter Try.func65, Try.ntmps65
      go_wp2_with fail
      refine (c1 _).mono ?_
      rintro e w' ⟨rfl, hw⟩; subst w'
      go_wp2
      go_ret
      exact ⟨ret_int HB.out.1.symm, HB.out.2⟩
    · obtain ⟨j, rfl⟩ := nat_of (show 0 ≤ i by omega)
      rw [Int.toNat_natCast] at HE HG ht
      obtain ⟨q, cap, rfl, hq, hc1, hc2, kj, fj, PJ⟩ := HD.out.turn j (by omega)
      unfold maxLen at hc2
      by_cases hm : c.ts.getD j 0 = 1000000000
      · have HB : Hid (n = -1 ∧ CpB w g off t (cpPut cs off m.di m.wa) (.slice (some ⟨q, 0, none⟩) c.ts.length cap) m ∧ Turned w w (g :: (Value.slice (some ⟨q, 0, none⟩) c.ts.length cap).ownBlock.toList)) := HS.out (by rw [HG.out, ho, hm]; simp)
        rw [hm] at kj
        clear HS HE HN HG HD PJ fj hm ht
        go_enter Try.func65, Try.ntmps65
        go_wp2_with fail
        refine (c1 _).mono ?_
        rintro e w' ⟨rfl, hw⟩; subst w'
        go_wp2
        go_ret
        exact ⟨ret_int HB.out.1.symm, HB.out.2⟩
      · have hb : b = true := by rw [HG.out, ho]; simp; exact hm
        subst hb
        have c2 := fun wx => swithout_any c.di j wx
        have c3 := fun wx => swith_any c.wa j wx
        clear PJ
        obtain ⟨P1, T1⟩ := HD.out.putD (withoutI c.di j)
        obtain ⟨P2, T2⟩ := P1.putW (withI c.wa j)
        rw [cpPut_twice] at P2
        obtain ⟨q2, cap2, e2, -, -, -, kj2, fj2, PJ⟩ := P2.turn j (by simp only; omega)
        simp only [Value.slice.injEq, Option.some.injEq, Addr.mk.injEq] at e2
        obtain ⟨⟨rfl, -, -⟩, -, rfl⟩ := e2
        obtain ⟨P3, T3⟩ := PJ (c.ts.getD j 0 + 1)
        simp only at kj2 P3 T3
        have HP : Hid (n = (j : Int) ∧ CpB (((w.setCell ⟨g, off + 2, none⟩ (.int .i64 (withoutI c.di j))).setCell ⟨g, off + 3, none⟩ (.int .i64 (withI c.wa j))).setCell ⟨q, j, none⟩ (.int .i64 (c.ts.getD j 0 + 1))) g off t (cpPut cs off m.di m.wa) (.slice (some ⟨q, 0, none⟩) c.ts.length cap) m ∧ Turned w (((w.setCell ⟨g, off + 2, none⟩ (.int .i64 (withoutI c.di j))).setCell ⟨g, off + 3, none⟩ (.int .i64 (withI c.wa j))).setCell ⟨q, j, none⟩ (.int .i64 (c.ts.getD j 0 + 1))) (g :: (Value.slice (some ⟨q, 0, none⟩) c.ts.length cap).ownBlock.toList)) := by
          refine ⟨by rw [HN.out]; simp, ?_, (T1.then T2).then T3⟩
          have e : m = { c with di := withoutI c.di j, wa := withI c.wa j, ts := c.ts.set j (c.ts.getD j 0 + 1) } := by rw [HE.out]; simp
          rw [e]; exact P3
        have f2 := HD.out.st.frozen (off + 2)
        have k3' : (w.setCell ⟨g, off + 2, none⟩ (.int .i64 (withoutI c.di j))).cell? ⟨g, off + 3, none⟩ = some (.int .i64 c.wa) := P1.cell.2.2.2.1
        have f3' := P1.st.frozen (off + 3)
        obtain ⟨y, hy⟩ : ∃ y, y = c.ts.getD j 0 := ⟨_, rfl⟩
        rw [← hy] at kj kj2 HP ht hm
        have hyw : IntKind.i64.wrap (y + 1) = y + 1 := by rw [IntKind.wrap_i64]; omega
        have k4' : ((w.setCell ⟨g, off + 2, none⟩ (.int .i64 (withoutI c.di j))).setCell ⟨g, off + 3, none⟩ (.int .i64 (withI c.wa j))).cell? ⟨g, off + 4, none⟩ = some (.slice (some ⟨q, 0, none⟩) c.ts.length cap) := P2.cell.2.2.2.2
        have hjd : decide ((j : Int) < 0) = false := by simp
        have hyd : (y == 1000000000) = false := by simpa using hm
        clear HS HE HN HG HD PJ P1 P2 P3 T1 T2 T3 hy hm
        go_enter Try.func65, Try.ntmps65
        go_wp2_with fail
        refine (c1 _).mono ?_
        rintro e w' ⟨rfl, hw⟩; subst w'
        go_wp2_with fail
        refine (c2 _).mono ?_
        rintro e w' ⟨rfl, hw⟩; subst w'
        go_wp2_with fail
        refine (c3 _).mono ?_
        rintro e w' ⟨rfl, hw⟩; subst w'
        clear c1 c2 c3
        go_upto_region 6 with fail
        go_region
        go_wp2
        go_ret
        exact ⟨ret_int HP.out.1.symm, HP.out.2.1.drew, HP.out.2.2.drew⟩

set_option maxRecDepth 20000 in
set_option maxHeartbeats 2000000 in
theorem sack_any (g off : Nat) (t : TypeId) (cs : Array Value) (v : Value) (c : Cp) (i tn : Int) (w : World) (d : CpB w g off t cs v c) :
    Calls Try.prog 67 #[.pointer (some ⟨g, off, none⟩), .int .i64 i, .int .i64 tn] w fun e w' => e = .returned (.bool (c.acks i tn)) ∧ CpB w' g off t (cpPut cs off (c.ack i tn).di (c.ack i tn).wa) v (c.ack i tn) ∧ Turned w w' (g :: v.ownBlock.toList) := by
  have c1 := shas_any v c i w d.own.reads
  have HI := has_iff c i
  have HE : Hid (c.ack i tn = if c.acks i tn then { c with wa := withoutI c.wa i } else c) := rfl
  have HA : Hid (c.acks i tn = (c.has i && decide (c.ts.getD i.toNat 0 = tn) && inB c.wa i)) := rfl
  obtain ⟨m, hm⟩ : ∃ m, m = c.ack i tn := ⟨_, rfl⟩
  rw [← hm] at HE ⊢
  obtain ⟨a, ha⟩ : ∃ a, a = c.acks i tn := ⟨_, rfl⟩
  rw [← ha] at HE HA ⊢
  obtain ⟨b, hb⟩ : ∃ b, b = c.has i := ⟨_, rfl⟩
  rw [← hb] at HA c1 HI
  have hlen : c.ts.length ≤ maxLen := d.own.le
  unfold maxLen at hlen
  clear hm ha hb
  have HD : Hid (CpB w g off t cs v c) := d
  have HL : Hid (∃ ao cap, v = .slice ao c.ts.length cap) := reads_form d.own.reads
  obtain ⟨k0, k1, k2, k3, k4⟩ := d.cell
  have HS : Hid (∀ w1, Below w.heap.size w w1 → Hid (a = false) → CpB w1 g off t (cpPut cs off m.di m.wa) v m ∧ Turned w w1 (g :: v.ownBlock.toList)) := by
    intro w1 b1 e
    have e2 : m = c := by rw [HE.out, e.out]; simp
    rw [e2]; exact ⟨(HD.out.below b1).same, Turned.below _ b1⟩
  clear d
  cases b with
  | false =>
    have HF : Hid (a = false) := by rw [Hid, HA.out]; rfl
    obtain ⟨ao, cap, rfl⟩ := HL.out
    unfold CpV cpA at c1
    clear HL HE HA HI HD
    go_enter Try.func67, Try.ntmps67
    go_wp2_with fail
    refine c1.mono ?_
    rintro e w1 ⟨rfl, b1⟩
    have HP : Hid _ := HS.out w1 b1 HF
    clear HS b1 c1 k0 k1 k2 k3 k4
    go_wp2
    go_ret
    exact ⟨ret_bool HF.out.symm, HP.out⟩
  | true =>
    obtain ⟨h0, h1⟩ := HI.1 rfl
    clear HI
    obtain ⟨j, rfl⟩ := nat_of h0
    rw [Int.toNat_natCast] at HA
    obtain ⟨q, cap, rfl, hq, hc1, hc2, -, -, -⟩ := HD.out.turn j (by omega)
    unfold maxLen at hc2
    unfold CpV cpA at c1
    have HC : Hid (∀ w1, Below w.heap.size w w1 → w1.cell? ⟨q, j, none⟩ = some (.int .i64 (c.ts.getD j 0))) := by
      intro w1 b1
      obtain ⟨q2, cap2, e2, -, -, -, kj, -, -⟩ := (HD.out.below b1).turn j (by omega)
      simp only [Value.slice.injEq, Option.some.injEq, Addr.mk.injEq] at e2
      obtain ⟨⟨rfl, -, -⟩, -, rfl⟩ := e2
      exact kj
    obtain ⟨y, hy⟩ : ∃ y, y = c.ts.getD j 0 := ⟨_, rfl⟩
    rw [← hy] at HA HC
    clear hy HL
    have HW : Hid (∀ wx, Calls Try.prog 38 #[.int .i64 c.wa, .int .i64 (j : Int)] wx fun e w' => e = .returned (.bool (inB c.wa j)) ∧ w' = wx) := fun wx => sin_any c.wa j wx
    obtain ⟨z, hz⟩ : ∃ z, z = inB c.wa (j : Int) := ⟨_, rfl⟩
    rw [← hz] at HA HW
    clear hz
    go_enter Try.func67, Try.ntmps67
    go_wp2_with fail
    refine c1.mono ?_
    rintro e w1 ⟨rfl, b1⟩
    have D1 := HD.out.below b1
    obtain ⟨-, -, -, k3', k4'⟩ := D1.cell
    have kj := HC.out w1 b1
    clear c1 k0 k1 k2 k3 k4 HC HD
    by_cases hy : y = tn
    · have hyd : (y != tn) = false := by simpa using hy
      have HA2 : Hid (a = z) := by rw [Hid, HA.out, decide_eq_true hy]; rfl
      have HY : Hid (y = tn) := hy
      clear HA hy
      go_wp2_with fail
      refine (HW.out _).mono ?_
      rintro e w' ⟨rfl, hw⟩; subst w'
      cases z with
      | false =>
        have HP : Hid _ := HS.out w1 b1 HA2.out
        have HF : Hid (a = false) := HA2.out
        clear HS b1 D1 HA2 HW k3' k4' kj
        go_wp2
        go_ret
        exact ⟨ret_bool HF.out.symm, HP.out⟩
      | true =>
        obtain ⟨P1, T1⟩ := D1.putW (withoutI c.wa j)
        have HP : Hid (CpB (w1.setCell ⟨g, off + 3, none⟩ (.int .i64 (withoutI c.wa j))) g off t (cpPut cs off m.di m.wa) (.slice (some ⟨q, 0, none⟩) c.ts.length cap) m ∧ Turned w (w1.setCell ⟨g, off + 3, none⟩ (.int .i64 (withoutI c.wa j))) (g :: (Value.slice (some ⟨q, 0, none⟩) c.ts.length cap).ownBlock.toList)) := by
          have e : m = { c with wa := withoutI c.wa j } := by rw [HE.out, HA2.out]; simp
          rw [e]; exact ⟨P1, (Turned.below _ b1).then T1⟩
        have f3 := D1.st.frozen (off + 3)
        have c2 := swithout_any c.wa j w1
        have HF : Hid (a = true) := HA2.out
        clear HS b1 D1 HA2 HW k4' kj P1 T1 HE
        go_wp2_with fail
        refine c2.mono ?_
        rintro e w' ⟨rfl, hw⟩; subst w'
        clear c2
        go_wp2
        go_ret
        exact ⟨ret_bool HF.out.symm, HP.out⟩
    · have hyd : (y != tn) = true := by simpa using hy
      have HF : Hid (a = false) := by rw [Hid, HA.out, decide_eq_false hy]; rfl
      have HP : Hid _ := HS.out w1 b1 HF.out
      clear HS b1 D1 HA HW k3' HE hy
      go_wp2
      go_ret
      exact ⟨ret_bool HF.out.symm, HP.out⟩

set_option maxRecDepth 20000 in
set_option maxHeartbeats 1000000 in
theorem sagain_any (g off : Nat) (t : TypeId) (cs : Array Value) (v : Value) (c : Cp) (w : World) (d : CpB w g off t cs v c) (f : c.Fit) :
    Calls Try.prog 77 #[.pointer (some ⟨g, off, none⟩)] w fun e w' => e = .returned (.tuple #[]) ∧ CpB w' g off t (cpPut cs off c.again.di c.again.wa) v c.again ∧ Turned w w' (g :: v.ownBlock.toList) := by
  obtain ⟨P1, T1⟩ := d.putD (orI c.di c.wa)
  obtain ⟨P2, T2⟩ := P1.putW 0
  rw [cpPut_twice] at P2
  have e := bits_or f.di0 f.d f.wa0 f.w
  obtain ⟨-, -, k2, k3, -⟩ := d.cell
  have f2 := d.st.frozen (off + 2)
  have f3 := P1.st.frozen (off + 3)
  have k3' := P1.cell.2.2.2.1
  have HP : Hid (CpB ((w.setCell ⟨g, off + 2, none⟩ (.int .i64 (orI c.di c.wa))).setCell ⟨g, off + 3, none⟩ (.int .i64 0)) g off t (cpPut cs off (orI c.di c.wa) 0) v c.again ∧ Turned w ((w.setCell ⟨g, off + 2, none⟩ (.int .i64 (orI c.di c.wa))).setCell ⟨g, off + 3, none⟩ (.int .i64 0)) (g :: v.ownBlock.toList)) := ⟨P2, T1.then T2⟩
  have e1 : c.again.di = orI c.di c.wa := rfl
  have e2 : c.again.wa = 0 := rfl
  rw [e1, e2]
  simp only at k3'
  clear P1 P2 T1 T2 d f e1 e2
  go_enter Try.func77, Try.ntmps77
  go_wp2
  go_region
  go_wp2
  go_end0
  exact ⟨rfl, HP.out.1.drew, HP.out.2.drew⟩
end Go.Proofs.Ytelfpdjidppblaa
