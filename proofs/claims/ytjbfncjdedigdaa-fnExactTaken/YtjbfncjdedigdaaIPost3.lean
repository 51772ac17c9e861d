/- Posts by the program: Twice, Taken. -/
import Derived.Test.YtjbfncjdedigdaaM26
import Derived.Test.YtjbfncjdedigdaaSPost3
namespace Go.Proofs.Ytjbfncjdedigdaa
open Go.ChangeShapes Go.WideShapes Go.ChangeAt Go.RowKit

/- A part of a post. -/
theorem RdP.part {w : World} {b off n cap : Nat} {ps : List (Value × Mg)} (h : RdP w (.slice (some ⟨b, off, none⟩) n cap) ps) (l m : Nat) (hl : l ≤ m) (hm : m ≤ n) : RdP w (sliced (some ⟨b, off, none⟩) l m cap 11) ((ps.drop l).take (m - l)) := by
  obtain ⟨e, hnc, hcm, hel⟩ := h.el
  have hlen : ((ps.drop l).take (m - l)).length = m - l := by rw [List.length_take, List.length_drop]; omega
  refine ⟨⟨msC_sz _, ?_⟩, fun p hp => h.key p (List.mem_of_mem_drop (List.mem_of_mem_take hp))⟩
  refine ⟨if cap = l then some ⟨b, off, none⟩ else some ⟨b, off + l * 11, none⟩, cap - l, ?_, by rw [msC_len, hlen]; omega, ⟨by omega, fun e => by split at e <;> cases e⟩, ?_⟩
  · unfold sliced
    rw [msC_len, hlen]
    simp only [Option.map_some, addr_add]
  · by_cases hc : cap = l
    · left
      apply List.eq_nil_of_length_eq_zero
      rw [msC_len, hlen]; omega
    · refine .inr ⟨b, off + l * 11, by rw [if_neg hc], fun j i hj hi => ?_⟩
      rw [msC_len, hlen] at hj
      obtain ⟨b', off', u, q, he, hb, -, hcell⟩ := hel (l + j) (by omega)
      cases hb
      have e2 : ((ps.drop l).take (m - l))[j]? = some (u, q) := by rw [List.getElem?_take, if_pos hj, List.getElem?_drop, he]
      have e3 : (msC ((ps.drop l).take (m - l))).getD j #[] = mgA u q := by simp only [msC, List.getD, List.getElem?_map, e2]; rfl
      rw [e3, ← hcell i hi, show off + l * 11 + (j * 11 + i) = off + (l + j) * 11 + i by rw [Nat.add_mul]; omega]
theorem SmP.part {ps : List (Value × Mg)} (h : SmP ps) (l m : Nat) : SmP ((ps.drop l).take m) := fun p hp => h p (List.mem_of_mem_drop (List.mem_of_mem_take hp))
theorem one_part {ps : List (Value × Mg)} {j : Nat} {u : Value} {m : Mg} (e : ps[j]? = some (u, m)) : (ps.drop j).take (j + 1 - j) = [(u, m)] := by
  obtain ⟨hj, he⟩ := List.getElem?_eq_some_iff.1 e
  rw [Nat.add_sub_cancel_left, List.drop_eq_getElem_cons hj, he]
  rfl
theorem msOf_erase (ps : List (Value × Mg)) (j : Nat) : msOf ((ps.drop 0).take (j - 0)) ++ msOf ((ps.drop (j + 1)).take (ps.length - (j + 1))) = (msOf ps).eraseIdx j := by
  rw [List.drop_zero, Nat.sub_zero, List.eraseIdx_eq_take_drop_succ, List.take_of_length_le (l := ps.drop (j + 1)) (by rw [List.length_drop]; exact Nat.le_refl _)]
  simp [msOf]
theorem twice_is (ms : List Mg) (j : Nat) (m : Mg) (e : ms[j]? = some m) (h : postOk ms = true) : twiceP ms j = postP ms [m] := by
  obtain ⟨hj, he⟩ := List.getElem?_eq_some_iff.1 e
  have hm : m.ok = true := by
    unfold postOk at h
    simp only [Bool.and_eq_true, List.all_eq_true] at h
    exact h.2 m (List.mem_of_getElem? e)
  have h1 : postOk [m] = true := by unfold postOk; simp [hm]
  have h40 := postOk_len h
  unfold twiceP postP
  rw [h, h1]
  have eg : ms.getD (j : Int).toNat Mg.zero = m := by simp [List.getD, e]
  rw [eg]
  by_cases hl : ms.length = 40
  · have hno : ¬ ((0 ≤ (j : Int) ∧ (j : Int) < (ms.length : Int)) ∧ ms.length ≠ 40) := fun hh => hh.2 hl
    rw [if_neg hno, show decide (ms.length + [m].length ≤ 40) = false from decide_eq_false (by rw [hl]; simp)]
    rfl
  · have hyes : (0 ≤ (j : Int) ∧ (j : Int) < (ms.length : Int)) ∧ ms.length ≠ 40 := ⟨⟨by omega, by omega⟩, hl⟩
    rw [if_pos hyes, show decide (ms.length + [m].length ≤ 40) = true from decide_eq_true (by simp; omega)]
    rfl

set_option maxRecDepth 20000 in
set_option maxHeartbeats 1000000 in
theorem iTwice_any (va : Value) (ps : List (Value × Mg)) (i : Int) (w : World) (ha : RdP w va ps) (sa : SmP ps) :
    Calls Try.prog 14 #[va, .int .i64 i] w fun e w' => ∃ u rs, e = .returned (.tuple #[u, .bool (twiceP (msOf ps) i).2]) ∧ msOf rs = (twiceP (msOf ps) i).1 ∧ OwnP w' w.heap.size u rs ∧ Below w.heap.size w w' := by
  have c1 := ipostok_any va ps w ha sa
  have HA : Hid (∀ wx, Below w.heap.size w wx → RdP wx va ps) := fun wx b => ha.below b
  have C1 : Hid (∀ wx, Below w.heap.size w wx → ps.length ≤ 40 → Calls Try.prog 33 #[.slice (some ⟨wx.heap.size, 0, none⟩) 1 1] (wx.alloc (.cells #[va] 24)) fun e w' => ∃ u rs, e = .returned u ∧ msOf rs = msOf ps ∧ OwnP w' wx.heap.size u rs ∧ Below wx.heap.size wx w') := fun wx b l => igath1_any va ps wx (HA.out wx b) sa l
  obtain ⟨r, hr⟩ : ∃ r, r = twiceP (msOf ps) i := ⟨_, rfl⟩
  rw [← hr]
  have HR : Hid (r = twiceP (msOf ps) i) := hr
  have HSm : Hid (SmP ps) := sa
  clear hr
  obtain ⟨x, hx⟩ : ∃ x, x = postOk (msOf ps) := ⟨_, rfl⟩
  rw [← hx] at c1
  obtain ⟨ao, ac, rfl⟩ := ha.form
  have HX : Hid (x = postOk (msOf ps)) := hx
  obtain ⟨-, hnc, hcm, -⟩ := ha.el
  unfold maxLen at hcm
  obtain ⟨n, hn⟩ : ∃ n, n = ps.length := ⟨_, rfl⟩
  rw [← hn] at HA C1 c1 hnc ⊢
  have HN : Hid (n = ps.length) := hn
  clear hx ha sa hn
  cases x with
  | false =>
    have HE : Hid (r = ([], false)) := by rw [Hid, HR.out]; unfold twiceP; rw [← HX.out]; rfl
    clear HX C1
    go_enter Try.func14, Try.ntmps14
    go_wp2_with fail
    refine c1.mono ?_
    rintro e w1 ⟨rfl, b1⟩
    have HL : Hid (OwnP (w1.alloc (.cells #[] 35)) w.heap.size (.slice (some ⟨w1.heap.size, 0, none⟩) 0 0) [] ∧ Below w.heap.size w (w1.alloc (.cells #[] 35))) := ⟨OwnP.lit w1 _ b1.size, b1.alloc b1.size _⟩
    clear b1 c1
    go_wp2
    go_ret2
    rw [HE.out]
    exact ⟨_, _, rfl, rfl, HL.out.1, HL.out.2⟩
  | true =>
    have hn40 : n ≤ 40 := by have := postOk_len HX.out.symm; rw [msOf_len, ← HN.out] at this; exact this
    have CF := fun wx => ifind_any ao n ac i wx hn40
    go_enter Try.func14, Try.ntmps14
    go_wp2_with fail
    refine c1.mono ?_
    rintro e w1 ⟨rfl, b1⟩
    have B1 : Hid (Below w.heap.size w w1) := b1
    clear b1 c1
    by_cases hin : 0 ≤ i ∧ i < (n : Int)
    · obtain ⟨j, hj⟩ : ∃ j : Nat, i = j := ⟨i.toNat, by omega⟩
      subst hj
      obtain ⟨b, off, u, m, he, rfl, -, -⟩ := (HA.out w1 B1.out).el.2.2.2 j (by omega)
      have hjn : (j : Int) < (n : Int) := hin.2
      have hjc : (j : Int) + 1 ≤ (ac : Int) := by omega
      have C := iPosted_any (.slice (some ⟨b, off, none⟩) n ac) _ ps _ w1 (HA.out w1 B1.out) ((HA.out w1 B1.out).part j (j + 1) (by omega) (by omega)) HSm.out (HSm.out.part _ _)
      have HE : Hid (r = postP (msOf ps) [m]) := by rw [Hid, HR.out]; exact twice_is _ j m (msOf_at he) HX.out.symm
      rw [one_part he, show msOf [(u, m)] = [m] from rfl, ← HE.out] at C
      rw [show decide (0 ≤ (j : Int) ∧ (j : Int) < (n : Int)) = true from decide_eq_true hin] at CF
      clear HX HR C1
      go_wp2_with fail
      refine (CF _).mono ?_
      rintro e w' ⟨⟨k, rfl, hk⟩, hw⟩
      subst w'
      have hk := hk hin
      subst hk
      clear CF hin
      have es : sliced (some ⟨b, off, none⟩) j (j + 1) ac 11 = .slice (some ⟨b, off + j * 11, none⟩) 1 (ac - j) := by
        unfold sliced
        rw [if_neg (by omega)]
        simp [addr_add]
      rw [es] at C
      clear es
      go_wp2_with fail
      refine C.mono ?_
      rintro e w2 ⟨u2, rs, rfl, er, o2, b2⟩
      have B2 : Hid (Below w.heap.size w w2 ∧ OwnP w2 w.heap.size u2 rs ∧ msOf rs = r.1) := ⟨B1.out.trans (b2.mono B1.out.size), o2.mono B1.out.size, er⟩
      clear b2 o2 er C B1
      go_wp2
      go_ret2
      exact ⟨_, _, rfl, B2.out.2.2, B2.out.2.1, B2.out.1⟩
    · have HE : Hid (r = (msOf ps, false)) := by
        rw [Hid, HR.out]
        unfold twiceP
        rw [← HX.out, msOf_len, ← HN.out, if_neg (show ¬ ((0 ≤ i ∧ i < (n : Int)) ∧ n ≠ 40) from fun h => hin h.1)]
        rfl
      rw [show decide (0 ≤ i ∧ i < (n : Int)) = false from decide_eq_false hin] at CF
      clear HX HR
      go_wp2_with fail
      refine (CF _).mono ?_
      rintro e w' ⟨⟨k, rfl, -⟩, hw⟩
      subst w'
      clear CF hin
      go_wp2_with fail
      refine (C1.out w1 B1.out hn40).mono ?_
      rintro e w2 ⟨u2, rs, rfl, er, o2, b2⟩
      have B2 : Hid (Below w.heap.size w w2 ∧ OwnP w2 w.heap.size u2 rs ∧ msOf rs = msOf ps) := ⟨B1.out.trans (b2.mono B1.out.size), o2.mono B1.out.size, er⟩
      clear b2 o2 er C1 B1
      go_wp2
      go_ret2
      rw [HE.out]
      exact ⟨_, _, rfl, B2.out.2.2, B2.out.2.1, B2.out.1⟩
end Go.Proofs.Ytjbfncjdedigdaa
