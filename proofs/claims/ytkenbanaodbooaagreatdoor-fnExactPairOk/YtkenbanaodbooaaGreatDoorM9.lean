/- What the laws on stores ask, of plain lists and numbers. -/
import Derived.Test.YtkenbanaodbooaaGreatDoorM7
import Derived.Test.YtkenbanaodbooaaGreatDoorM8
import Derived.Test.YtkenbanaodbooaaGreatDoorM2
import Derived.Test.YtkenbanaodbooaaGreatDoorM3
namespace Go.Proofs.YtkenbanaodbooaaGreatDoor
open Go.RowKit

theorem pred_unreg {h : Hd} {i : Int} (e : regI h.ks i = false) (key k : Int) : h.pred i key k = (h, false) := by simp [Hd.pred, e]
theorem act_unreg {h : Hd} {i : Int} (e : regI h.ks i = false) (c : Cm) (h6 : c.o ≠ 6) : (h.act i c).1 = h := by
  unfold Hd.act
  rw [if_neg h6]
  split
  · simp [conf, Hd.resd, e]
  · split
    · simp [conf, Hd.reld, e]
    · split
      · simp [conf, Hd.clrd, e]
      · split
        · split
          · rfl
          · simp [conf, pred_unreg e]
        · split <;> rfl
theorem resd_no (h : Hd) (i k : Int) : (h.resd i k).2 = false → (h.resd i k).1 = h := by
  unfold Hd.resd
  split
  · intro; rfl
  · split
    · intro e; cases e
    · intro; rfl
theorem reld_no (h : Hd) (i : Int) : (h.reld i).2 = false → (h.reld i).1 = h := by
  unfold Hd.reld
  split
  · intro; rfl
  · split
    · intro e; cases e
    · intro; rfl
theorem clrd_no (h : Hd) (i : Int) : (h.clrd i).2 = false → (h.clrd i).1 = h := by
  unfold Hd.clrd
  split
  · intro; rfl
  · intro e; cases e
theorem pred_no (h : Hd) (i key k : Int) : (h.pred i key k).2 = false → (h.pred i key k).1 = h := by
  unfold Hd.pred
  split
  · intro; rfl
  · split
    · intro e; cases e
    · intro e; cases e
theorem conf_ne {r : Hd × Bool} {h : Hd} (hr : r.2 = false → r.1 = h) (hs : (conf r).2.st ≠ 0) : (conf r).1 = h := by
  obtain ⟨a, b⟩ := r
  cases b with
  | false => exact hr rfl
  | true => exact absurd rfl hs
/- What isn't good changes nothing. -/
theorem act_bad {h : Hd} {i : Int} {c : Cm} : (h.act i c).2.st ≠ 0 → (h.act i c).1 = h := by
  unfold Hd.act
  split
  · intro e; exact absurd rfl e
  · split
    · exact conf_ne (resd_no h i c.k)
    · split
      · exact conf_ne (reld_no h i)
      · split
        · exact conf_ne (clrd_no h i)
        · split
          · split
            · intro; rfl
            · exact conf_ne (pred_no h i c.a c.k)
          · split
            · intro; rfl
            · intro; rfl
theorem didI_bad {xs ys : List Int} {c : Cm} : (didI xs ys c).2.2.st ≠ 0 → (didI xs ys c).1 = xs ∧ (didI xs ys c).2.1 = ys := by
  unfold didI
  split
  · intro e; exact absurd rfl e
  · split
    · intro; exact ⟨rfl, rfl⟩
    · split
      · intro e; exact absurd rfl e
      · split
        · intro e; exact absurd rfl e
        · split
          · split
            · intro e; exact absurd rfl e
            · intro; exact ⟨rfl, rfl⟩
          · intro e; exact absurd rfl e
theorem didI_st {xs ys : List Int} {c : Cm} : (didI xs ys c).2.2.st ≠ 3 ∧ (didI xs ys c).2.2.st ≠ 7 := by
  unfold didI
  repeat' split
  all_goals simp
theorem conf_st (r : Hd × Bool) : (conf r).2.st ≠ 7 := by
  obtain ⟨a, b⟩ := r
  cases b <;> simp [conf]
theorem act_st (h : Hd) (i : Int) (c : Cm) : (h.act i c).2.st ≠ 7 := by
  unfold Hd.act
  repeat' split
  all_goals first | exact conf_st _ | simp
/- Of a right store: what isn't good leaves it as it is. -/
theorem did_bad {s : Sr} {i : Int} {c : Cm} (ok : s.ok = true) (hs : (s.did i c).2.st ≠ 0) : (s.did i c).1 = s := by
  unfold Sr.did at hs ⊢
  rw [if_pos ok] at hs ⊢
  split at hs
  · rename_i q
    rw [if_pos q]
    unfold Sr.doing at hs ⊢
    split at hs
    · rename_i q5
      rw [if_pos q5]
      dsimp only
      rw [act_bad hs]
    · rename_i q5
      rw [if_neg q5]
      split at hs
      · rename_i qm
        rw [if_pos qm]
        dsimp only
        obtain ⟨e1, e2⟩ := didI_bad hs
        rw [e1, e2]
      · rename_i qm
        rw [if_neg qm]
  · rename_i q
    rw [if_neg q]
theorem did_seven {s : Sr} {i : Int} {c : Cm} (ok : s.ok = true) : (s.did i c).2.st = 7 → (inI i 0 3 && c.ok) = false := by
  unfold Sr.did
  rw [if_pos ok]
  split
  · intro e
    exfalso
    unfold Sr.doing at e
    split at e
    · exact act_st _ _ _ e
    · split at e
      · exact didI_st.2 e
      · simp at e
  · rename_i q
    intro
    simpa using q
/- A command of blocks: nothing is held anew, and it is a conflict where who may not. -/
theorem did_low {s : Sr} {i : Int} {c : Cm} (ok : s.ok = true) (hi : (inI i 0 3 && c.ok) = true) (h5 : c.o ≤ 5) : (s.did i c).1.h = s.h ∧ decide ((s.did i c).2.st = 3) = !s.h.may i (decide (c.o ≠ 1)) := by
  unfold Sr.did Sr.doing
  rw [if_pos ok, if_pos hi, if_neg (by omega)]
  cases hm : s.h.may i (decide (c.o ≠ 1)) with
  | true =>
    rw [if_pos rfl]
    exact ⟨rfl, by simp [didI_st.1]⟩
  | false =>
    rw [if_neg (by decide)]
    exact ⟨rfl, rfl⟩
/- An action: no block is changed; who isn't registered changes nothing, but by registering. -/
theorem did_high {s : Sr} {i : Int} {c : Cm} (ok : s.ok = true) (hi : (inI i 0 3 && c.ok) = true) (h5 : 5 < c.o) : (s.did i c).1.xs = s.xs ∧ (s.did i c).1.ys = s.ys ∧ (regI s.h.ks i = false → c.o ≠ 6 → (s.did i c).1.h = s.h) := by
  unfold Sr.did Sr.doing
  rw [if_pos ok, if_pos hi, if_pos h5]
  exact ⟨rfl, rfl, fun e h6 => act_unreg e c h6⟩
theorem free_ok {h : Hd} (ok : h.ok = true) : h.free.ok = true := by
  obtain ⟨hl, ht, hk, -⟩ := ok_iff.1 ok
  exact ok_iff.2 ⟨hl, ht, hk, mid_iff.2 (.inl ⟨rfl, rfl⟩)⟩
theorem clrd_ok {h : Hd} (ok : h.ok = true) (i : Int) : (h.clrd i).1.ok = true := by
  obtain ⟨hl, ht, hk, hm⟩ := ok_iff.1 ok
  unfold Hd.clrd
  split
  · exact ok
  · refine ok_iff.2 ⟨rfl, ?_, (show keysI [0, 0, 0, 0] = true by decide), mid_iff.2 (.inl ⟨rfl, rfl⟩)⟩
    dsimp only
    unfold turnI
    split <;> omega
theorem resd_ok {h : Hd} (ok : h.ok = true) {i k : Int} (hi : 0 ≤ i ∧ i ≤ 3) (hk : kiI k = true) : (h.resd i k).1.ok = true := by
  unfold Hd.resd
  split
  · exact ok
  · rename_i hr
    split
    · exact take_ok ok hi (reg_of.1 (by simpa using hr)) hk
    · exact ok
theorem reld_ok {h : Hd} (ok : h.ok = true) (i : Int) : (h.reld i).1.ok = true := by
  unfold Hd.reld
  split
  · exact ok
  · split
    · exact free_ok ok
    · exact ok
theorem pred_ok {h : Hd} (ok : h.ok = true) {i key k : Int} (hi : inI i 0 3 = true) (hy : inI key 1 9999 = true) (hk : kiI k = true) : (h.pred i key k).1.ok = true := by
  have e : h.preempt i key k = told (h.pred i key k) := by simp [Hd.preempt, ok, hi, hy, hk]
  have c := preempt_cases h i key k
  rw [e] at c
  unfold told at c
  rcases c with c | c | ⟨x, c, -, -, -, -, -, -, hx, -⟩
  · have := congrArg Prod.snd c
    dsimp only at this
    split at this <;> cases this
  · have := congrArg Prod.fst c
    dsimp only at this
    rw [this]
    exact ok
  · have := congrArg Prod.fst c
    dsimp only at this
    rw [this]
    exact hx
theorem act_ok {h : Hd} (ok : h.ok = true) {i : Int} {c : Cm} (hi : inI i 0 3 = true) (hc : c.ok = true) : (h.act i c).1.ok = true := by
  have hi' := (inI_iff _ _ _).1 hi
  unfold Cm.ok Cm.fits at hc
  rw [Bool.and_eq_true] at hc
  have hf := hc.2
  unfold Hd.act
  split
  · rename_i h6
    rw [if_pos h6] at hf
    exact (regd_ok ok hi' ((inI_iff _ _ _).1 hf)).1
  · rename_i h6
    rw [if_neg h6] at hf
    split
    · rename_i h7
      rw [if_neg (by omega), if_pos h7] at hf
      exact resd_ok ok hi' hf
    · split
      · exact reld_ok ok i
      · split
        · exact clrd_ok ok i
        · split
          · rename_i h10
            rw [if_pos h10] at hf
            simp only [Bool.and_eq_true] at hf
            split
            · exact ok
            · rename_i ha
              have h1 := (inI_iff _ _ _).1 hf.1.1
              exact pred_ok ok hi ((inI_iff _ _ _).2 (by omega)) hf.2
          · split
            · exact ok
            · exact ok
theorem didI_ok {xs ys : List Int} {c : Cm} (hb : bothOk xs ys = true) (hc : (c.ok && decide (c.o ≤ 5)) = true) : bothOk (didI xs ys c).1 (didI xs ys c).2.1 = true := by
  have d := did_cases c hb
  rw [did_in hb hc] at d
  rcases d with ⟨-, e1, e2⟩ | ⟨-, -, -, e1, e2⟩ | ⟨-, -, -, j, z, -, hj, hz, e1, e2, -⟩
  · rw [e1, e2]; exact hb
  · rw [e1, e2]; exact bothOk_same hb
  · rw [e1, e2]; exact put_ok hb hj hz
/- A right store stays right. -/
theorem did_ok {s : Sr} {i : Int} {c : Cm} (ok : s.ok = true) : (s.did i c).1.ok = true := by
  have o := ok
  unfold Sr.ok at o
  rw [Bool.and_eq_true] at o
  unfold Sr.did
  rw [if_pos ok]
  split
  · rename_i q
    rw [Bool.and_eq_true] at q
    unfold Sr.doing
    split
    · unfold Sr.ok
      dsimp only
      rw [o.1, act_ok o.2 q.1 q.2]
      rfl
    · rename_i h5
      split
      · unfold Sr.ok
        dsimp only
        rw [didI_ok o.1 (by rw [q.2]; simp; omega), o.2]
        rfl
      · exact ok
  · exact ok
theorem zero_ok : Sr.zero.ok = false := rfl
theorem did_zero {s : Sr} {i : Int} {c : Cm} (ok : s.ok = false) : s.did i c = (Sr.zero, ⟨7, []⟩) := by
  unfold Sr.did
  rw [ok]
  rfl
theorem newS_ok {n : Int} (h : cntOk n = true) : (newS n).ok = true := by
  have e : (decide (1 ≤ n) && decide (n ≤ 8)) = true := h
  unfold newS
  rw [e, if_pos rfl]
  unfold Sr.ok
  dsimp only
  rw [(zeros_ok h).1]
  rfl
/- Power: what was flushed stays. -/
theorem power_flushed {ys : List Int} {h : Hd} (hb : bothOk ys ys = true) (set : Int) : Sr.power ⟨ys, ys, h⟩ set = if h.ok then ⟨ys, ys, h⟩ else Sr.zero := by
  unfold Sr.power Sr.ok
  dsimp only
  rw [hb, Bool.true_and, chosenUp_same]
  cases h.ok
  · rfl
  · simp
theorem alike_self {s : Sr} (ok : s.ok = true) : s.alike s = true := by simp [Sr.alike, ok, Hd.eqB]
theorem alike_eq {s t : Sr} (h : s.alike t = true) : s = t := by
  obtain ⟨xs, ys, ⟨ks, kd, ho, tu⟩⟩ := s
  obtain ⟨xt, yt, ⟨kt, kd', ho', tu'⟩⟩ := t
  simp [Sr.alike, Hd.eqB] at h
  obtain ⟨-, ⟨rfl, rfl⟩, ((⟨⟨rfl, rfl⟩, rfl⟩) | _)⟩ := h
  all_goals simp_all
end Go.Proofs.YtkenbanaodbooaaGreatDoor
/- Frames as lists of bytes; what l4Framed and Framed of the model answer. -/
namespace Go.Proofs.YtkenbanaodbooaaGreatDoor
open Go.ChangeShapes Go.WideShapes Go.ChangeAt Go.RowKit

def framed (l : Bs) : Bs := dec l.length ++ [32] ++ dec (chk l).toNat ++ [32] ++ l ++ [10]
def framedS (l : Bs) : Bs := if plainB l then framed l else []

theorem decI_nat (n : Nat) : decI n = dec n := by simp [decI]
theorem chk_cast (l : Bs) : ((chk l).toNat : Int) = chk l := by have := (chk_bd l).1; omega
theorem app (a b : Bs) : (({ data := a.toArray } : ByteArray) ++ { data := b.toArray }) = { data := (a ++ b).toArray } := ByteArray.mk_append_mk a b
theorem bsize (a : Bs) : ({ data := a.toArray } : ByteArray).size = a.length := rfl

set_option maxRecDepth 20000 in
set_option maxHeartbeats 1000000 in
theorem sl4Framed_any (l : Bs) (w : World) (hl : l.length ≤ 1099511627776) :
    Calls Tryz.prog 66 #[S l] w fun e w' => e = .returned (S (framed l)) ∧ Below w.heap.size w w' := by
  have c1 : ∀ w', _ := fun w' => sint_any (l.length : Nat) w' (by omega) (by omega)
  have hb := chk_bd l
  have c2 : ∀ w', _ := fun w' => scheck_any l w' hl
  have c3 : ∀ w', _ := fun w' => sint_any (chk l) w' (by omega) (by omega)
  have e3 : decI (chk l) = dec (chk l).toNat := by have h := decI_nat (chk l).toNat; rwa [chk_cast] at h
  simp only [decI_nat] at c1
  simp only [e3] at c3
  have d1 := dec_len 13 l.length (by omega)
  have d2 := dec_len 5 (chk l).toNat (by omega)
  have HF : Hid (framed l = dec l.length ++ [32] ++ dec (chk l).toNat ++ [32] ++ l ++ [10]) := rfl
  obtain ⟨x, hx⟩ : ∃ x, x = chk l := ⟨_, rfl⟩
  obtain ⟨p, hp⟩ : ∃ p, p = dec l.length := ⟨_, rfl⟩
  obtain ⟨q, hq⟩ : ∃ q, q = dec (chk l).toNat := ⟨_, rfl⟩
  simp only [← hp] at c1 d1 HF
  simp only [← hq] at c3 d2 HF
  simp only [← hx] at c2 c3
  clear hp hq hx e3 hb
  unfold S at c1 c2 c3 ⊢
  go_enter Tryz.func66, Tryz.ntmps66
  go_wp2_with fail
  refine (c1 w).mono ?_
  rintro e w1 ⟨rfl, b1⟩
  have HB : Hid (Below w.heap.size w w1) := b1
  clear b1 c1
  go_wp2_with fail
  refine (c2 w1).mono ?_
  rintro e w' ⟨rfl, hw⟩; subst w'
  go_wp2_with fail
  refine (c3 w1).mono ?_
  rintro e w2 ⟨rfl, b2⟩
  have HC : Hid (Below w.heap.size w w2) := HB.out.trans (b2.mono HB.out.size)
  clear b2 c2 c3
  go_wp2_with fail
  go_ret
  refine ⟨congrArg (fun x => Ending.returned (Value.string x)) ?_, HC.out⟩
  rw [HF.out, app, app, app, app, app]
end Go.Proofs.YtkenbanaodbooaaGreatDoor
/- The first frame of a text, as plain lists; what l4First of the model answers. -/
namespace Go.Proofs.YtkenbanaodbooaaGreatDoor
open Go.ChangeShapes Go.WideShapes Go.ChangeAt Go.RowKit

def lineN (s : Bs) : Nat := (s.takeWhile (fun b => b != 10)).length
theorem lineN_le (s : Bs) : lineN s ≤ s.length := by
  unfold lineN
  exact (List.takeWhile_prefix _).length_le
theorem lineN_cons (b : UInt8) (s : Bs) : lineN (b :: s) = if b = 10 then 0 else lineN s + 1 := by
  unfold lineN
  by_cases h : b = 10
  · simp [h]
  · simp [h]
theorem lineN_app (t r : Bs) (h : t.all (fun b => b != 10) = true) : lineN (t ++ r) = t.length + lineN r := by
  induction t with
  | nil => simp
  | cons b t ih =>
    simp at h
    rw [List.cons_append, lineN_cons, if_neg h.1, ih (by simpa using h.2)]
    simp; omega
theorem lineN_hit (s : Bs) (j : Nat) (h : (s.take j).all (fun b => b != 10) = true) (hj : j < s.length) (e : s[j] = 10) : lineN s = j := by
  have : s = s.take j ++ (10 :: s.drop (j + 1)) := by
    rw [← e, ← List.drop_eq_getElem_cons hj, List.take_append_drop]
  rw [this, lineN_app _ _ h, lineN_cons, if_pos rfl]
  simp; omega
theorem lineN_end (s : Bs) (h : (s.take s.length).all (fun b => b != 10) = true) : lineN s = s.length := by
  rw [List.take_length] at h
  have := lineN_app s [] h
  simpa [lineN] using this

def firstB (s : Bs) : Bs × Nat :=
  let e := lineN s
  if e = s.length ∨ 330 < e then ([], 0)
  else match splitB 32 (s.take e) with
    | a :: b :: _ :: _ =>
      let t := cutB s (a.length + b.length + 2) e
      if plainB t && decide (framed t = s.take (e + 1)) then (t, e + 1) else ([], 0)
    | _ => ([], 0)

theorem three_of {ps : List Bs} (h : ¬ ps.length < 3) : ∃ a b c rest, ps = a :: b :: c :: rest := by
  match ps, h with
  | [], h => simp at h
  | [_], h => simp at h
  | [_, _], h => simp at h
  | a :: b :: c :: rest, _ => exact ⟨a, b, c, rest, rfl⟩
theorem splitB_sum (c : UInt8) (l : Bs) : ((splitB c l).map List.length).sum + (splitB c l).length = l.length + 1 := by
  induction l with
  | nil => simp [splitB]
  | cons b t ih =>
    rw [splitB]
    split
    · simp; omega
    · cases h : splitB c t with
      | nil => exact absurd h (splitB_ne c t)
      | cons p ps => rw [h] at ih; simp [ahead] at ih ⊢; omega

set_option maxRecDepth 20000 in
set_option maxHeartbeats 2000000 in
theorem sfirstF_any (s : Bs) (w : World) (hl : s.length ≤ 1048576) :
    Calls Tryz.prog 94 #[S s] w fun e w' => e = .returned (.tuple #[S (firstB s).1, .int .i64 (firstB s).2]) ∧ Below w.heap.size w w' := by
  have hsz : (⟨s.toArray⟩ : ByteArray).size = s.length := rfl
  have csp : ∀ (t : Bs) (w' : World), t.length ≤ 1048576 → _ := fun t w' h => ssplit_any t 32 w' h
  have cpl : ∀ (t : Bs) (w' : World), t.length ≤ 1099511627776 → _ := fun t w' h => splain_any t w' h
  have cfr : ∀ (t : Bs) (w' : World), t.length ≤ 1099511627776 → _ := fun t w' h => sl4Framed_any t w' h
  unfold S at csp cpl cfr ⊢
  go_enter Tryz.func94, Tryz.ntmps94
  go_wp2
  go_loop [4] (fun i => ∃ j : Nat, j ≤ s.length ∧ i = .int .i64 j ∧ Hid ((s.take j).all (fun b => b != 10) = true)) (fun i => s.length - (intOf i).toNat)
  case atStart => exact ⟨0, Nat.zero_le _, rfl, by simp [Hid]⟩
  case round =>
    obtain ⟨j, hj, rfl, HX⟩ := hrel
    by_cases hlt : (j : Int) < (s.length : Int)
    · have h1 : j < s.length := by omega
      have ht := byteAt_is s j h1 10 10 rfl
      by_cases hb : s[j] = 10
      · rw [show decide (s[j] = 10) = true by simp [hb]] at ht
        have HL : Hid (lineN s = j) := lineN_hit s j HX.out h1 hb
        clear hb HX
        have htn : (((((⟨s.toArray⟩ : ByteArray)[j]'(show j < (⟨s.toArray⟩ : ByteArray).size from h1)).toNat : Nat) : Int) != 10) = false := by simp only [bne, ht, Bool.not_true]
        have hjs : ((j : Int) == (s.length : Int)) = false := by simp; omega
        by_cases h330 : 330 < (j : Int)
        · have HF : Hid (firstB s = ([], 0)) := by
            have : 330 < j := by omega
            simp [Hid, firstB, HL.out, this]
          go_wp2
          go_ret2
          rw [HF.out]
          exact ⟨rfl, Below.refl _ _⟩
        · have hex := extract_cut s 0 j
          have e0 : cutB s 0 j = s.take j := by simp [cutB]
          rw [e0] at hex
          have hF : firstB s = match splitB 32 (s.take j) with
            | a :: b :: _ :: _ => if plainB (cutB s (a.length + b.length + 2) j) && decide (framed (cutB s (a.length + b.length + 2) j) = s.take (j + 1)) then (cutB s (a.length + b.length + 2) j, j + 1) else ([], 0)
            | _ => ([], 0) := by
            have h2 : ¬ (j = s.length ∨ 330 < j) := by omega
            unfold firstB
            rw [HL.out]
            simp only [h2, if_false]
          have hsum := splitB_sum 32 (s.take j)
          have htl : (s.take j).length = j := by simp; omega
          obtain ⟨ps, hps⟩ : ∃ ps, ps = splitB 32 (s.take j) := ⟨_, rfl⟩
          have cs := csp (s.take j) w (by omega)
          rw [← hps] at hF hsum cs
          obtain ⟨q, hq⟩ : ∃ q, q = s.take j := ⟨_, rfl⟩
          rw [← hq] at hex cs htl hsum
          have HQ : Hid (q = s.take j) := hq
          clear e0 csp hps hq HL
          have HF : Hid (firstB s = _) := hF
          clear hF
          go_wp2_with fail
          refine cs.mono ?_
          rintro e w1 ⟨u, rfl, o1, b1⟩
          have HB : Hid (Below w.heap.size w w1) := b1
          clear b1 cs
          by_cases h3 : ps.length < 3
          · have HE : Hid (firstB s = ([], 0)) := by
              rw [Hid, HF.out]
              match ps, h3 with
              | [], _ => rfl
              | [_], _ => rfl
              | [_, _], _ => rfl
            obtain ⟨ao, cap, rfl, -⟩ := o1.reads
            have h3' : (ps.length : Int) < 3 := by omega
            clear o1 hsum HF
            go_wp2_with fail
            go_ret2
            rw [HE.out]
            exact ⟨rfl, HB.out⟩
          · obtain ⟨a, b, c, rest, rfl⟩ : ∃ a b c rest, ps = a :: b :: c :: rest := by
              exact three_of h3
            obtain ⟨g, cap, rfl, -⟩ := World.ownsRow.form o1 (by simp)
            have c0 : w1.cell? ⟨g, 0, none⟩ = some (S a) := by
              have := World.ownsRow.cellAt (w := w1) o1 0 (by simp); simpa using this
            have c1 : w1.cell? ⟨g, 1, none⟩ = some (S b) := by
              have := World.ownsRow.cellAt (w := w1) o1 1 (by simp); simpa using this
            unfold S at c0 c1
            have hab : a.length + b.length + 2 ≤ j := by simp at hsum; omega
            have za : (⟨a.toArray⟩ : ByteArray).size = a.length := rfl
            have zb : (⟨b.toArray⟩ : ByteArray).size = b.length := rfl
            obtain ⟨n, hn⟩ : ∃ n, n = (a :: b :: c :: rest).length := ⟨_, rfl⟩
            have hn3 : (3 : Int) ≤ n := by simp at hn; omega
            rw [← hn]
            clear hn o1 hsum h3
            go_wp2_with fail
            go_quiet (fail)
            obtain ⟨w2, hw2⟩ : ∃ w2, w2 = w1.drewN nq := ⟨_, rfl⟩
            rw [← hw2]
            have HB1 : Hid (Below w.heap.size w w2) := by rw [hw2]; exact below_drewN HB.out nq
            clear hw2 c0 c1 HB
            have hex2 := extract_cut s (a.length + b.length + 2) j
            have hex3 := extract_cut s 0 (j + 1)
            have e3 : cutB s 0 (j + 1) = s.take (j + 1) := by simp [cutB]
            rw [e3] at hex3
            have hlt2 : (cutB s (a.length + b.length + 2) j).length ≤ 1099511627776 := by rw [cutB_len s _ _ hj]; omega
            obtain ⟨t, ht2⟩ : ∃ t, t = cutB s (a.length + b.length + 2) j := ⟨_, rfl⟩
            obtain ⟨z, hz2⟩ : ∃ z, z = s.take (j + 1) := ⟨_, rfl⟩
            rw [← ht2] at hex2 hlt2
            rw [← hz2] at hex3
            have HT : Hid (firstB s = if plainB t && decide (framed t = z) then (t, j + 1) else ([], 0)) := by rw [Hid, HF.out, ← ht2, ← hz2]
            have c5 := cpl t (w2.drew) hlt2
            have c6 := cfr t (w2.drew) hlt2
            have HB2 : Hid (Below w.heap.size w (w2.drew)) := below_drewN HB1.out 1
            have hj1 : (j : Int) + 1 ≤ (s.length : Int) := by omega
            have hj0 : (0 : Int) ≤ (j : Int) + 1 := by omega
            have hwr : IntKind.i64.wrap ((j : Int) + 1) = (j : Int) + 1 := by rw [IntKind.wrap_i64]; omega
            clear e3 ht2 hz2 HF cpl cfr
            by_cases hp : plainB t = true
            · rw [hp] at c5
              by_cases hf : framed t = z
              · have HE : Hid (firstB s = (t, j + 1)) := by rw [Hid, HT.out]; simp [hp, hf]
                go_wp2_with fail
                go_region_held3 (fun w' => True) (trivial)
                  (first
                    | (go_at_call 113; refine c5.mono ?_; rintro e w' ⟨rfl, hw'⟩; subst w')
                    | (go_at_call 66; refine c6.mono ?_; rintro e w3 ⟨rfl, b3⟩))
                have HB3 : Hid (Below w.heap.size w w3) := HB2.out.trans (b3.mono HB2.out.size)
                go_wp2_with fail
                go_ret2
                rw [HE.out]
                exact ⟨rfl, HB3.out⟩
              · have HE : Hid (firstB s = ([], 0)) := by rw [Hid, HT.out]; simp [hf]
                have hbeq : (framed t == z) = false := by simpa using hf
                go_wp2_with fail
                go_region_held3 (fun w' => True) (trivial)
                  (first
                    | (go_at_call 113; refine c5.mono ?_; rintro e w' ⟨rfl, hw'⟩; subst w')
                    | (go_at_call 66; refine c6.mono ?_; rintro e w3 ⟨rfl, b3⟩))
                have HB3 : Hid (Below w.heap.size w w3) := HB2.out.trans (b3.mono HB2.out.size)
                go_wp2_with fail
                go_ret2
                rw [HE.out]
                exact ⟨rfl, HB3.out⟩
            · have hp' : plainB t = false := by simpa using hp
              have c7 : ∀ w', _ := fun w' => splain_any t w' hlt2
              unfold S at c7
              simp only [hp'] at c7
              have HE : Hid (firstB s = ([], 0)) := by rw [Hid, HT.out]; simp [hp']
              clear c5 c6
              go_wp2_with fail
              go_quiet ((go_at_call 113; exact Calls.quiet_of_same (c7 _)))
              go_wp2_with fail
              go_ret2
              rw [HE.out]
              exact ⟨rfl, below_drewN HB1.out _⟩
      · rw [show decide (s[j] = 10) = false by simp [hb]] at ht
        have HS : Hid ((s.take (j + 1)).all (fun b => b != 10) = true) := by
          rw [Hid, take_snocB s j h1, List.all_append, HX.out]; simp [hb]
        clear hb HX
        go_wp2
        go_round
        case rel => exact ⟨j + 1, by omega, by go_num, HS⟩
        case measure => simp [intOf]; omega
    · have HL : Hid (lineN s = s.length) := lineN_end s (by rw [show s.length = j by omega]; exact HX.out)
      have HF : Hid (firstB s = ([], 0)) := by simp [Hid, firstB, HL.out]
      have hjs : ((j : Int) == (s.length : Int)) = true := by simp; omega
      go_wp2
      go_ret2
      rw [HF.out]
      exact ⟨rfl, Below.refl _ _⟩
end Go.Proofs.YtkenbanaodbooaaGreatDoor
