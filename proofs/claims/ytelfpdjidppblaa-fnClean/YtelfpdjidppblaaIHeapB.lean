/- The program's heap of blocks, on: what container/heap makes of it (up, down, Push, Pop). -/
import Derived.Test.YtelfpdjidppblaaIHeapA
namespace Go.Proofs.Ytelfpdjidppblaa
open Go.ChangeShapes Go.WideShapes Go.ChangeAt Go.RowKit

set_option maxRecDepth 20000 in
set_option maxHeartbeats 2000000 in
theorem hup_any (v : Value) (l : List Int) (base g j0 : Nat) (w : World) (h : HpB w base g v l) (hj : j0 < l.length) (hl : l.length ≤ 1000) :
    Calls Try.prog 101 #[hpIs g, .int .i64 j0] w fun e w' => e = .returned (.tuple #[]) ∧ ∃ m, HpB w' base g v m ∧ m.Perm l ∧ ((∀ y ∈ l, y ≤ l.getD j0 0) → m = l) ∧ Below base w w' := by
  have HH : Hid (HpB w base g v l) := h
  obtain ⟨n, hn⟩ : ∃ n, n = l.length := ⟨_, rfl⟩
  have HN : Hid (n = l.length) := hn
  rw [← hn] at hj hl
  clear h hn
  unfold hpIs
  go_enter Try.func101, Try.ntmps101
  go_wp2
  go_loopw [1] (fun j wr => ∃ (k : Nat) (m : List Int), j = .int .i64 k ∧ k < n ∧ Hid (HpB wr base g v m ∧ m.Perm l ∧ ((∀ y ∈ l, y ≤ l.getD j0 0) → m = l ∧ k = j0) ∧ Below base w wr)) (fun j _ => (intOf j).toNat)
  case atStart => exact ⟨j0, l, rfl, hj, HH.out, List.Perm.refl _, fun _ => ⟨rfl, rfl⟩, Below.refl _ _⟩
  case round =>
    obtain ⟨k, m, rfl, hk, HR⟩ := hrel
    have k0 : wr.cell? ⟨g, 0, none⟩ = some v := HR.out.1.cell
    have n1 := Try.nilLess ⟨g, 0, none⟩
    have n2 := Try.nilSwap ⟨g, 0, none⟩
    have m1 := Try.methLess k0
    have hml : m.length = n := by rw [HN.out]; exact HR.out.2.1.length_eq
    rcases Nat.eq_zero_or_pos k with rfl | hpos
    · have eq0 : ((0 : Int) == 0) = true := rfl
      go_wp2
      go_end0
      exact ⟨rfl, m, HR.out.1, HR.out.2.1, fun hy => (HR.out.2.2.1 hy).1, HR.out.2.2.2⟩
    · obtain ⟨p, rfl⟩ : ∃ p, k = p + 1 := ⟨k - 1, by omega⟩
      have hq : ((((p + 1 : Nat) : Int) - 1).tdiv 2) = ((p / 2 : Nat) : Int) := by
        rw [show (((p + 1 : Nat) : Int) - 1) = (p : Int) by omega]
        rfl
      clear hq
      have e1 : ((p + 1 : Nat) : Int) = (p : Int) + 1 := by omega
      have e2 : ((p / 2 : Nat) : Int) = (p : Int) / 2 := by omega
      have c1 := hless_any v m (p + 1) (p / 2) wr HR.out.1.own.reads (by omega) (by omega)
      rw [e1, e2] at c1
      have HB : Hid (decide (m.getD (p + 1) 0 < m.getD (p / 2) 0) = true → ¬ ∀ y ∈ l, y ≤ l.getD j0 0) := by
        intro hlt hy
        obtain ⟨em, ek⟩ := HR.out.2.2.1 hy
        have hlt' := of_decide_eq_true hlt
        rw [em, ek] at hlt'
        have := hy (l.getD (p / 2) 0) (by
          have hp : p / 2 < l.length := by have := HN.out; omega
          simp only [List.getD_eq_getElem?_getD, List.getElem?_eq_getElem hp, Option.getD_some]
          exact List.getElem_mem hp)
        omega
      obtain ⟨b, hb⟩ : ∃ b, b = decide (m.getD (p + 1) 0 < m.getD (p / 2) 0) := ⟨_, rfl⟩
      rw [← hb] at c1 HB
      clear hb
      go_wp2_with fail
      refine c1.mono ?_
      rintro e wq ⟨rfl, q, hq⟩
      have HQ : Hid (HpB wq base g v m ∧ Below base wr wq) := ⟨HR.out.1.drew hq, by rw [hq]; exact below_drewN (Below.refl _ _) q⟩
      clear c1 hq m1 k0
      cases b with
      | false =>
        go_wp2
        go_end0
        exact ⟨rfl, m, HQ.out.1, HR.out.2.1, fun hy => (HR.out.2.2.1 hy).1, HR.out.2.2.2.trans HQ.out.2⟩
      | true =>
        have HF : Hid (¬ ∀ y ∈ l, y ≤ l.getD j0 0) := HB.out rfl
        clear HB
        have c2 := hswap_any v m (p / 2) (p + 1) wq base HQ.out.1.own (by omega) (by omega)
        rw [e1, e2] at c2
        have m2 := Try.methSwap HQ.out.1.cell
        go_wp2_with fail
        refine c2.mono ?_
        rintro e wz ⟨rfl, o2, g2⟩
        obtain ⟨z1, z2⟩ := HQ.out.1.swap o2 g2
        have HZ : Hid (HpB wz base g v (swapL m (p / 2) (p + 1)) ∧ (swapL m (p / 2) (p + 1)).Perm l ∧ Below base w wz) := ⟨z1, (swapL_perm m (p / 2) (p + 1) (by omega) (by omega)).trans HR.out.2.1, (HR.out.2.2.2.trans HQ.out.2).trans z2⟩
        clear c2 o2 g2 z1 z2 m2 HQ
        go_wp2
        go_roundw
        case rel => exact ⟨p / 2, _, by rw [e2], by omega, HZ.out.1, HZ.out.2.1, fun hy => absurd hy HF.out, HZ.out.2.2⟩
        case measure => simp [intOf]; omega

set_option maxRecDepth 20000 in
set_option maxHeartbeats 1000000 in
theorem heapPush_any (x : Int) (v : Value) (l : List Int) (base g : Nat) (w : World) (h : HpB w base g v l) (hl : l.length ≤ 900) :
    Calls Try.prog 95 #[hpIs g, .iface 2 (.int .i64 x)] w fun e w' => e = .returned (.tuple #[]) ∧ ∃ u m, HpB w' base g u m ∧ m.Perm (l ++ [x]) ∧ ((∀ y ∈ l, y ≤ x) → m = l ++ [x]) ∧ Below base w w' := by
  have c1 := hpush_any x v l base g w h (by omega)
  have n1 := Try.nilPush ⟨g, 0, none⟩
  have n2 := Try.nilLen ⟨g, 0, none⟩
  have m1 := Try.methPush ⟨g, 0, none⟩
  have c3 : ∀ u w', HpB w' base g u (l ++ [x]) → _ := fun u w' h' => hup_any u (l ++ [x]) base g l.length w' h' (by simp) (by simp; omega)
  have c2 : ∀ u w', HpB w' base g u (l ++ [x]) → _ := fun u w' h' => hlen_any u (l ++ [x]) w' h'.own.reads
  have e1 : (((l ++ [x]).length : Nat) : Int) = (l.length : Int) + 1 := by simp
  rw [e1] at c2
  have HC : Hid _ := c3
  have HD : Hid _ := c2
  clear h c3 c2 e1
  unfold hpIs at HC ⊢
  have hl' : (l.length : Int) ≤ 900 := by omega
  go_enter Try.func95, Try.ntmps95
  go_wp2_with fail
  refine c1.mono ?_
  rintro e w1 ⟨rfl, u, h1, b1⟩
  have m2 := Try.methLen h1.cell
  have c2 := HD.out u w1 h1
  have c3 := HC.out u w1 h1
  have HB : Hid (Below base w w1) := b1
  clear HC HD c1 m1 h1 b1
  go_wp2_with fail
  refine c2.mono ?_
  rintro e w2 ⟨rfl, hw⟩; subst w2
  clear c2 m2
  have e3 : (l.length : Int) + 1 - 1 = l.length := by omega
  go_wp2_with fail
  refine c3.mono ?_
  rintro e w3 ⟨rfl, m, h3, p3, s3, b3⟩
  have HE : Hid (HpB w3 base g u m ∧ m.Perm (l ++ [x]) ∧ ((∀ y ∈ l ++ [x], y ≤ (l ++ [x]).getD l.length 0) → m = l ++ [x]) ∧ Below base w1 w3) := ⟨h3, p3, s3, b3⟩
  clear h3 p3 s3 b3 c3
  go_wp2
  go_end0
  refine ⟨rfl, u, m, HE.out.1, HE.out.2.1, fun hy => HE.out.2.2.1 ?_, HB.out.trans HE.out.2.2.2⟩
  intro y hm
  have e4 : (l ++ [x]).getD l.length 0 = x := by simp
  rw [e4]
  rcases List.mem_append.1 hm with h | h
  · exact hy y h
  · simp at h; omega
end Go.Proofs.Ytelfpdjidppblaa
