/- The first frame of a text, as plain lists; what l4First of the model answers. -/
import Derived.Test.YtjdmbjeginnjiaaDoorSplit
import Derived.Test.YtjdmbjeginnjiaaDoorFrame
namespace Go.Proofs.YtjdmbjeginnjiaaDoor
open Go.ChangeShapes Go.WideShapes Go.ChangeAt Go.RowKit

def lineN (s : Bs) : Nat := (s.takeWhile (fun b => b != 10)).length
theorem lineN_le (s : Bs) : lineN s ≤ s.length := by
  unfold lineN
  exact (List.takeWhile_prefix _).length_le
theorem lineN_cons (b : UInt8) (s : Bs) : lineN (b :: s) = if b = 10 then 0 else lineN s + 1 := by
  unfold lineN
  by_cases h : b = 10
  · simp [h]
  · simp [h]
theorem lineN_app (t r : Bs) (h : t.all (fun b => b != 10) = true) : lineN (t ++ r) = t.length + lineN r := by
  induction t with
  | nil => simp
  | cons b t ih =>
    simp at h
    rw [List.cons_append, lineN_cons, if_neg h.1, ih (by simpa using h.2)]
    simp; omega
theorem lineN_hit (s : Bs) (j : Nat) (h : (s.take j).all (fun b => b != 10) = true) (hj : j < s.length) (e : s[j] = 10) : lineN s = j := by
  have : s = s.take j ++ (10 :: s.drop (j + 1)) := by
    rw [← e, ← List.drop_eq_getElem_cons hj, List.take_append_drop]
  rw [this, lineN_app _ _ h, lineN_cons, if_pos rfl]
  simp; omega
theorem lineN_end (s : Bs) (h : (s.take s.length).all (fun b => b != 10) = true) : lineN s = s.length := by
  rw [List.take_length] at h
  have := lineN_app s [] h
  simpa [lineN] using this

def firstB (s : Bs) : Bs × Nat :=
  let e := lineN s
  if e = s.length ∨ 330 < e then ([], 0)
  else match splitB 32 (s.take e) with
    | a :: b :: _ :: _ =>
      let t := cutB s (a.length + b.length + 2) e
      if plainB t && decide (framed t = s.take (e + 1)) then (t, e + 1) else ([], 0)
    | _ => ([], 0)

theorem three_of {ps : List Bs} (h : ¬ ps.length < 3) : ∃ a b c rest, ps = a :: b :: c :: rest := by
  match ps, h with
  | [], h => simp at h
  | [_], h => simp at h
  | [_, _], h => simp at h
  | a :: b :: c :: rest, _ => exact ⟨a, b, c, rest, rfl⟩
theorem splitB_sum (c : UInt8) (l : Bs) : ((splitB c l).map List.length).sum + (splitB c l).length = l.length + 1 := by
  induction l with
  | nil => simp [splitB]
  | cons b t ih =>
    rw [splitB]
    split
    · simp; omega
    · cases h : splitB c t with
      | nil => exact absurd h (splitB_ne c t)
      | cons p ps => rw [h] at ih; simp [ahead] at ih ⊢; omega

set_option maxRecDepth 20000 in
set_option maxHeartbeats 2000000 in
theorem sfirst_any (s : Bs) (w : World) (hl : s.length ≤ 1048576) :
    Calls Tryd.prog 48 #[S s] w fun e w' => e = .returned (.tuple #[S (firstB s).1, .int .i64 (firstB s).2]) ∧ Below w.heap.size w w' := by
  have hsz : (⟨s.toArray⟩ : ByteArray).size = s.length := rfl
  have csp : ∀ (t : Bs) (w' : World), t.length ≤ 1048576 → _ := fun t w' h => ssplit_any t 32 w' h
  have cpl : ∀ (t : Bs) (w' : World), t.length ≤ 1099511627776 → _ := fun t w' h => splain_any t w' h
  have cfr : ∀ (t : Bs) (w' : World), t.length ≤ 1099511627776 → _ := fun t w' h => sl4Framed_any t w' h
  unfold S at csp cpl cfr ⊢
  go_enter Tryd.func48, Tryd.ntmps48
  go_wp2
  go_loop [4] (fun i => ∃ j : Nat, j ≤ s.length ∧ i = .int .i64 j ∧ Hid ((s.take j).all (fun b => b != 10) = true)) (fun i => s.length - (intOf i).toNat)
  case atStart => exact ⟨0, Nat.zero_le _, rfl, by simp [Hid]⟩
  case round =>
    obtain ⟨j, hj, rfl, HX⟩ := hrel
    by_cases hlt : (j : Int) < (s.length : Int)
    · have h1 : j < s.length := by omega
      have ht := byteAt_is s j h1 10 10 rfl
      by_cases hb : s[j] = 10
      · rw [show decide (s[j] = 10) = true by simp [hb]] at ht
        have HL : Hid (lineN s = j) := lineN_hit s j HX.out h1 hb
        clear hb HX
        have htn : (((((⟨s.toArray⟩ : ByteArray)[j]'(show j < (⟨s.toArray⟩ : ByteArray).size from h1)).toNat : Nat) : Int) != 10) = false := by simp only [bne, ht, Bool.not_true]
        have hjs : ((j : Int) == (s.length : Int)) = false := by simp; omega
        by_cases h330 : 330 < (j : Int)
        · have HF : Hid (firstB s = ([], 0)) := by
            have : 330 < j := by omega
            simp [Hid, firstB, HL.out, this]
          go_wp2
          go_ret2
          rw [HF.out]
          exact ⟨rfl, Below.refl _ _⟩
        · have hex := extract_cut s 0 j
          have e0 : cutB s 0 j = s.take j := by simp [cutB]
          rw [e0] at hex
          have hF : firstB s = match splitB 32 (s.take j) with
            | a :: b :: _ :: _ => if plainB (cutB s (a.length + b.length + 2) j) && decide (framed (cutB s (a.length + b.length + 2) j) = s.take (j + 1)) then (cutB s (a.length + b.length + 2) j, j + 1) else ([], 0)
            | _ => ([], 0) := by
            have h2 : ¬ (j = s.length ∨ 330 < j) := by omega
            unfold firstB
            rw [HL.out]
            simp only [h2, if_false]
          have hsum := splitB_sum 32 (s.take j)
          have htl : (s.take j).length = j := by simp; omega
          obtain ⟨ps, hps⟩ : ∃ ps, ps = splitB 32 (s.take j) := ⟨_, rfl⟩
          have cs := csp (s.take j) w (by omega)
          rw [← hps] at hF hsum cs
          obtain ⟨q, hq⟩ : ∃ q, q = s.take j := ⟨_, rfl⟩
          rw [← hq] at hex cs htl hsum
          have HQ : Hid (q = s.take j) := hq
          clear e0 csp hps hq HL
          have HF : Hid (firstB s = _) := hF
          clear hF
          go_wp2_with fail
          refine cs.mono ?_
          rintro e w1 ⟨u, rfl, o1, b1⟩
          have HB : Hid (Below w.heap.size w w1) := b1
          clear b1 cs
          by_cases h3 : ps.length < 3
          · have HE : Hid (firstB s = ([], 0)) := by
              rw [Hid, HF.out]
              match ps, h3 with
              | [], _ => rfl
              | [_], _ => rfl
              | [_, _], _ => rfl
            obtain ⟨ao, cap, rfl, -⟩ := o1.reads
            have h3' : (ps.length : Int) < 3 := by omega
            clear o1 hsum HF
            go_wp2_with fail
            go_ret2
            rw [HE.out]
            exact ⟨rfl, HB.out⟩
          · obtain ⟨a, b, c, rest, rfl⟩ : ∃ a b c rest, ps = a :: b :: c :: rest := by
              exact three_of h3
            obtain ⟨g, cap, rfl, -⟩ := World.ownsRow.form o1 (by simp)
            have c0 : w1.cell? ⟨g, 0, none⟩ = some (S a) := by
              have := World.ownsRow.cellAt (w := w1) o1 0 (by simp); simpa using this
            have c1 : w1.cell? ⟨g, 1, none⟩ = some (S b) := by
              have := World.ownsRow.cellAt (w := w1) o1 1 (by simp); simpa using this
            unfold S at c0 c1
            have hab : a.length + b.length + 2 ≤ j := by simp at hsum; omega
            have za : (⟨a.toArray⟩ : ByteArray).size = a.length := rfl
            have zb : (⟨b.toArray⟩ : ByteArray).size = b.length := rfl
            obtain ⟨n, hn⟩ : ∃ n, n = (a :: b :: c :: rest).length := ⟨_, rfl⟩
            have hn3 : (3 : Int) ≤ n := by simp at hn; omega
            rw [← hn]
            clear hn o1 hsum h3
            go_wp2_with fail
            go_quiet (fail)
            obtain ⟨w2, hw2⟩ : ∃ w2, w2 = w1.drewN nq := ⟨_, rfl⟩
            rw [← hw2]
            have HB1 : Hid (Below w.heap.size w w2) := by rw [hw2]; exact below_drewN HB.out nq
            clear hw2 c0 c1 HB
            have hex2 := extract_cut s (a.length + b.length + 2) j
            have hex3 := extract_cut s 0 (j + 1)
            have e3 : cutB s 0 (j + 1) = s.take (j + 1) := by simp [cutB]
            rw [e3] at hex3
            have hlt2 : (cutB s (a.length + b.length + 2) j).length ≤ 1099511627776 := by rw [cutB_len s _ _ hj]; omega
            obtain ⟨t, ht2⟩ : ∃ t, t = cutB s (a.length + b.length + 2) j := ⟨_, rfl⟩
            obtain ⟨z, hz2⟩ : ∃ z, z = s.take (j + 1) := ⟨_, rfl⟩
            rw [← ht2] at hex2 hlt2
            rw [← hz2] at hex3
            have HT : Hid (firstB s = if plainB t && decide (framed t = z) then (t, j + 1) else ([], 0)) := by rw [Hid, HF.out, ← ht2, ← hz2]
            have c5 := cpl t (w2.drew) hlt2
            have c6 := cfr t (w2.drew) hlt2
            have HB2 : Hid (Below w.heap.size w (w2.drew)) := below_drewN HB1.out 1
            have hj1 : (j : Int) + 1 ≤ (s.length : Int) := by omega
            have hj0 : (0 : Int) ≤ (j : Int) + 1 := by omega
            have hwr : IntKind.i64.wrap ((j : Int) + 1) = (j : Int) + 1 := by rw [IntKind.wrap_i64]; omega
            clear e3 ht2 hz2 HF cpl cfr
            by_cases hp : plainB t = true
            · rw [hp] at c5
              by_cases hf : framed t = z
              · have HE : Hid (firstB s = (t, j + 1)) := by rw [Hid, HT.out]; simp [hp, hf]
                go_wp2_with fail
                go_region_held3 (fun w' => True) (trivial)
                  (first
                    | (go_at_call 64; refine c5.mono ?_; rintro e w' ⟨rfl, hw'⟩; subst w')
                    | (go_at_call 40; refine c6.mono ?_; rintro e w3 ⟨rfl, b3⟩))
                have HB3 : Hid (Below w.heap.size w w3) := HB2.out.trans (b3.mono HB2.out.size)
                go_wp2_with fail
                go_ret2
                rw [HE.out]
                exact ⟨rfl, HB3.out⟩
              · have HE : Hid (firstB s = ([], 0)) := by rw [Hid, HT.out]; simp [hf]
                have hbeq : (framed t == z) = false := by simpa using hf
                go_wp2_with fail
                go_region_held3 (fun w' => True) (trivial)
                  (first
                    | (go_at_call 64; refine c5.mono ?_; rintro e w' ⟨rfl, hw'⟩; subst w')
                    | (go_at_call 40; refine c6.mono ?_; rintro e w3 ⟨rfl, b3⟩))
                have HB3 : Hid (Below w.heap.size w w3) := HB2.out.trans (b3.mono HB2.out.size)
                go_wp2_with fail
                go_ret2
                rw [HE.out]
                exact ⟨rfl, HB3.out⟩
            · have hp' : plainB t = false := by simpa using hp
              have c7 : ∀ w', _ := fun w' => splain_any t w' hlt2
              unfold S at c7
              simp only [hp'] at c7
              have HE : Hid (firstB s = ([], 0)) := by rw [Hid, HT.out]; simp [hp']
              clear c5 c6
              go_wp2_with fail
              go_quiet ((go_at_call 64; exact Calls.quiet_of_same (c7 _)))
              go_wp2_with fail
              go_ret2
              rw [HE.out]
              exact ⟨rfl, below_drewN HB1.out _⟩
      · rw [show decide (s[j] = 10) = false by simp [hb]] at ht
        have HS : Hid ((s.take (j + 1)).all (fun b => b != 10) = true) := by
          rw [Hid, take_snocB s j h1, List.all_append, HX.out]; simp [hb]
        clear hb HX
        go_wp2
        go_round
        case rel => exact ⟨j + 1, by omega, by go_num, HS⟩
        case measure => simp [intOf]; omega
    · have HL : Hid (lineN s = s.length) := lineN_end s (by rw [show s.length = j by omega]; exact HX.out)
      have HF : Hid (firstB s = ([], 0)) := by simp [Hid, firstB, HL.out]
      have hjs : ((j : Int) == (s.length : Int)) = true := by simp; omega
      go_wp2
      go_ret2
      rw [HF.out]
      exact ⟨rfl, Below.refl _ _⟩
end Go.Proofs.YtjdmbjeginnjiaaDoor
