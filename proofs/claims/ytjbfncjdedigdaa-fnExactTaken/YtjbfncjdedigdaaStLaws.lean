/- What the laws on stores ask, of plain lists and numbers. -/
import Derived.Test.YtjbfncjdedigdaaM7
import Derived.Test.YtjbfncjdedigdaaM8
import Derived.Test.YtjbfncjdedigdaaM10
namespace Go.Proofs.Ytjbfncjdedigdaa
open Go.RowKit

theorem pred_unreg {h : Hd} {i : Int} (e : regI h.ks i = false) (key k : Int) : h.pred i key k = (h, false) := by simp [Hd.pred, e]
theorem act_unreg {h : Hd} {i : Int} (e : regI h.ks i = false) (c : Cm) (h6 : c.o ≠ 6) : (h.act i c).1 = h := by
  unfold Hd.act
  rw [if_neg h6]
  split
  · simp [conf, Hd.resd, e]
  · split
    · simp [conf, Hd.reld, e]
    · split
      · simp [conf, Hd.clrd, e]
      · split
        · split
          · rfl
          · simp [conf, pred_unreg e]
        · split <;> rfl
theorem resd_no (h : Hd) (i k : Int) : (h.resd i k).2 = false → (h.resd i k).1 = h := by
  unfold Hd.resd
  split
  · intro; rfl
  · split
    · intro e; cases e
    · intro; rfl
theorem reld_no (h : Hd) (i : Int) : (h.reld i).2 = false → (h.reld i).1 = h := by
  unfold Hd.reld
  split
  · intro; rfl
  · split
    · intro e; cases e
    · intro; rfl
theorem clrd_no (h : Hd) (i : Int) : (h.clrd i).2 = false → (h.clrd i).1 = h := by
  unfold Hd.clrd
  split
  · intro; rfl
  · intro e; cases e
theorem pred_no (h : Hd) (i key k : Int) : (h.pred i key k).2 = false → (h.pred i key k).1 = h := by
  unfold Hd.pred
  split
  · intro; rfl
  · split
    · intro e; cases e
    · intro e; cases e
theorem conf_ne {r : Hd × Bool} {h : Hd} (hr : r.2 = false → r.1 = h) (hs : (conf r).2.st ≠ 0) : (conf r).1 = h := by
  obtain ⟨a, b⟩ := r
  cases b with
  | false => exact hr rfl
  | true => exact absurd rfl hs
/- What isn't good changes nothing. -/
theorem act_bad {h : Hd} {i : Int} {c : Cm} : (h.act i c).2.st ≠ 0 → (h.act i c).1 = h := by
  unfold Hd.act
  split
  · intro e; exact absurd rfl e
  · split
    · exact conf_ne (resd_no h i c.k)
    · split
      · exact conf_ne (reld_no h i)
      · split
        · exact conf_ne (clrd_no h i)
        · split
          · split
            · intro; rfl
            · exact conf_ne (pred_no h i c.a c.k)
          · split
            · intro; rfl
            · intro; rfl
theorem didI_bad {xs ys : List Int} {c : Cm} : (didI xs ys c).2.2.st ≠ 0 → (didI xs ys c).1 = xs ∧ (didI xs ys c).2.1 = ys := by
  unfold didI
  split
  · intro e; exact absurd rfl e
  · split
    · intro; exact ⟨rfl, rfl⟩
    · split
      · intro e; exact absurd rfl e
      · split
        · intro e; exact absurd rfl e
        · split
          · split
            · intro e; exact absurd rfl e
            · intro; exact ⟨rfl, rfl⟩
          · intro e; exact absurd rfl e
theorem didI_st {xs ys : List Int} {c : Cm} : (didI xs ys c).2.2.st ≠ 3 ∧ (didI xs ys c).2.2.st ≠ 7 := by
  unfold didI
  repeat' split
  all_goals simp
theorem conf_st (r : Hd × Bool) : (conf r).2.st ≠ 7 := by
  obtain ⟨a, b⟩ := r
  cases b <;> simp [conf]
theorem act_st (h : Hd) (i : Int) (c : Cm) : (h.act i c).2.st ≠ 7 := by
  unfold Hd.act
  repeat' split
  all_goals first | exact conf_st _ | simp
/- Of a right store: what isn't good leaves it as it is. -/
theorem did_bad {s : Sr} {i : Int} {c : Cm} (ok : s.ok = true) (hs : (s.did i c).2.st ≠ 0) : (s.did i c).1 = s := by
  unfold Sr.did at hs ⊢
  rw [if_pos ok] at hs ⊢
  split at hs
  · rename_i q
    rw [if_pos q]
    unfold Sr.doing at hs ⊢
    split at hs
    · rename_i q5
      rw [if_pos q5]
      dsimp only
      rw [act_bad hs]
    · rename_i q5
      rw [if_neg q5]
      split at hs
      · rename_i qm
        rw [if_pos qm]
        dsimp only
        obtain ⟨e1, e2⟩ := didI_bad hs
        rw [e1, e2]
      · rename_i qm
        rw [if_neg qm]
  · rename_i q
    rw [if_neg q]
theorem did_seven {s : Sr} {i : Int} {c : Cm} (ok : s.ok = true) : (s.did i c).2.st = 7 → (inI i 0 3 && c.ok) = false := by
  unfold Sr.did
  rw [if_pos ok]
  split
  · intro e
    exfalso
    unfold Sr.doing at e
    split at e
    · exact act_st _ _ _ e
    · split at e
      · exact didI_st.2 e
      · simp at e
  · rename_i q
    intro
    simpa using q
/- A command of blocks: nothing is held anew, and it is a conflict where who may not. -/
theorem did_low {s : Sr} {i : Int} {c : Cm} (ok : s.ok = true) (hi : (inI i 0 3 && c.ok) = true) (h5 : c.o ≤ 5) : (s.did i c).1.h = s.h ∧ decide ((s.did i c).2.st = 3) = !s.h.may i (decide (c.o ≠ 1)) := by
  unfold Sr.did Sr.doing
  rw [if_pos ok, if_pos hi, if_neg (by omega)]
  cases hm : s.h.may i (decide (c.o ≠ 1)) with
  | true =>
    rw [if_pos rfl]
    exact ⟨rfl, by simp [didI_st.1]⟩
  | false =>
    rw [if_neg (by decide)]
    exact ⟨rfl, rfl⟩
/- An action: no block is changed; who isn't registered changes nothing, but by registering. -/
theorem did_high {s : Sr} {i : Int} {c : Cm} (ok : s.ok = true) (hi : (inI i 0 3 && c.ok) = true) (h5 : 5 < c.o) : (s.did i c).1.xs = s.xs ∧ (s.did i c).1.ys = s.ys ∧ (regI s.h.ks i = false → c.o ≠ 6 → (s.did i c).1.h = s.h) := by
  unfold Sr.did Sr.doing
  rw [if_pos ok, if_pos hi, if_pos h5]
  exact ⟨rfl, rfl, fun e h6 => act_unreg e c h6⟩
theorem free_ok {h : Hd} (ok : h.ok = true) : h.free.ok = true := by
  obtain ⟨hl, ht, hk, -⟩ := ok_iff.1 ok
  exact ok_iff.2 ⟨hl, ht, hk, mid_iff.2 (.inl ⟨rfl, rfl⟩)⟩
theorem clrd_ok {h : Hd} (ok : h.ok = true) (i : Int) : (h.clrd i).1.ok = true := by
  obtain ⟨hl, ht, hk, hm⟩ := ok_iff.1 ok
  unfold Hd.clrd
  split
  · exact ok
  · refine ok_iff.2 ⟨rfl, ?_, (show keysI [0, 0, 0, 0] = true by decide), mid_iff.2 (.inl ⟨rfl, rfl⟩)⟩
    dsimp only
    unfold turnI
    split <;> omega
theorem resd_ok {h : Hd} (ok : h.ok = true) {i k : Int} (hi : 0 ≤ i ∧ i ≤ 3) (hk : kiI k = true) : (h.resd i k).1.ok = true := by
  unfold Hd.resd
  split
  · exact ok
  · rename_i hr
    split
    · exact take_ok ok hi (reg_of.1 (by simpa using hr)) hk
    · exact ok
theorem reld_ok {h : Hd} (ok : h.ok = true) (i : Int) : (h.reld i).1.ok = true := by
  unfold Hd.reld
  split
  · exact ok
  · split
    · exact free_ok ok
    · exact ok
theorem pred_ok {h : Hd} (ok : h.ok = true) {i key k : Int} (hi : inI i 0 3 = true) (hy : inI key 1 9999 = true) (hk : kiI k = true) : (h.pred i key k).1.ok = true := by
  have e : h.preempt i key k = told (h.pred i key k) := by simp [Hd.preempt, ok, hi, hy, hk]
  have c := preempt_cases h i key k
  rw [e] at c
  unfold told at c
  rcases c with c | c | ⟨x, c, -, -, -, -, -, -, hx, -⟩
  · have := congrArg Prod.snd c
    dsimp only at this
    split at this <;> cases this
  · have := congrArg Prod.fst c
    dsimp only at this
    rw [this]
    exact ok
  · have := congrArg Prod.fst c
    dsimp only at this
    rw [this]
    exact hx
theorem act_ok {h : Hd} (ok : h.ok = true) {i : Int} {c : Cm} (hi : inI i 0 3 = true) (hc : c.ok = true) : (h.act i c).1.ok = true := by
  have hi' := (inI_iff _ _ _).1 hi
  unfold Cm.ok Cm.fits at hc
  rw [Bool.and_eq_true] at hc
  have hf := hc.2
  unfold Hd.act
  split
  · rename_i h6
    rw [if_pos h6] at hf
    exact (regd_ok ok hi' ((inI_iff _ _ _).1 hf)).1
  · rename_i h6
    rw [if_neg h6] at hf
    split
    · rename_i h7
      rw [if_neg (by omega), if_pos h7] at hf
      exact resd_ok ok hi' hf
    · split
      · exact reld_ok ok i
      · split
        · exact clrd_ok ok i
        · split
          · rename_i h10
            rw [if_pos h10] at hf
            simp only [Bool.and_eq_true] at hf
            split
            · exact ok
            · rename_i ha
              have h1 := (inI_iff _ _ _).1 hf.1.1
              exact pred_ok ok hi ((inI_iff _ _ _).2 (by omega)) hf.2
          · split
            · exact ok
            · exact ok
theorem didI_ok {xs ys : List Int} {c : Cm} (hb : bothOk xs ys = true) (hc : (c.ok && decide (c.o ≤ 5)) = true) : bothOk (didI xs ys c).1 (didI xs ys c).2.1 = true := by
  have d := did_cases c hb
  rw [did_in hb hc] at d
  rcases d with ⟨-, e1, e2⟩ | ⟨-, -, -, e1, e2⟩ | ⟨-, -, -, j, z, -, hj, hz, e1, e2, -⟩
  · rw [e1, e2]; exact hb
  · rw [e1, e2]; exact bothOk_same hb
  · rw [e1, e2]; exact put_ok hb hj hz
/- A right store stays right. -/
theorem did_ok {s : Sr} {i : Int} {c : Cm} (ok : s.ok = true) : (s.did i c).1.ok = true := by
  have o := ok
  unfold Sr.ok at o
  rw [Bool.and_eq_true] at o
  unfold Sr.did
  rw [if_pos ok]
  split
  · rename_i q
    rw [Bool.and_eq_true] at q
    unfold Sr.doing
    split
    · unfold Sr.ok
      dsimp only
      rw [o.1, act_ok o.2 q.1 q.2]
      rfl
    · rename_i h5
      split
      · unfold Sr.ok
        dsimp only
        rw [didI_ok o.1 (by rw [q.2]; simp; omega), o.2]
        rfl
      · exact ok
  · exact ok
theorem zero_ok : Sr.zero.ok = false := rfl
theorem did_zero {s : Sr} {i : Int} {c : Cm} (ok : s.ok = false) : s.did i c = (Sr.zero, ⟨7, []⟩) := by
  unfold Sr.did
  rw [ok]
  rfl
theorem newS_ok {n : Int} (h : cntOk n = true) : (newS n).ok = true := by
  have e : (decide (1 ≤ n) && decide (n ≤ 8)) = true := h
  unfold newS
  rw [e, if_pos rfl]
  unfold Sr.ok
  dsimp only
  rw [(zeros_ok h).1]
  rfl
/- Power: what was flushed stays. -/
theorem power_flushed {ys : List Int} {h : Hd} (hb : bothOk ys ys = true) (set : Int) : Sr.power ⟨ys, ys, h⟩ set = if h.ok then ⟨ys, ys, h⟩ else Sr.zero := by
  unfold Sr.power Sr.ok
  dsimp only
  rw [hb, Bool.true_and, chosenUp_same]
  cases h.ok
  · rfl
  · simp
theorem alike_self {s : Sr} (ok : s.ok = true) : s.alike s = true := by simp [Sr.alike, ok, Hd.eqB]
theorem alike_eq {s t : Sr} (h : s.alike t = true) : s = t := by
  obtain ⟨xs, ys, ⟨ks, kd, ho, tu⟩⟩ := s
  obtain ⟨xt, yt, ⟨kt, kd', ho', tu'⟩⟩ := t
  simp [Sr.alike, Hd.eqB] at h
  obtain ⟨-, ⟨rfl, rfl⟩, ((⟨⟨rfl, rfl⟩, rfl⟩) | _)⟩ := h
  all_goals simp_all
end Go.Proofs.Ytjbfncjdedigdaa
