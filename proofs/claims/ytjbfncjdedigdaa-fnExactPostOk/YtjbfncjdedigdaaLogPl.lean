/- Logs of a house, plainly: what is recalled behind a record that was noted, behind one that was half noted, and how many frames there are. -/
import Derived.Test.YtjbfncjdedigdaaM14
import Derived.Test.YtjbfncjdedigdaaM13
namespace Go.Proofs.Ytjbfncjdedigdaa
open Go.RowKit

theorem wholeE_length (s : Bs) : (wholeE s).length = (framesB s).1.length := by
  rw [← framesE_texts, List.length_map]
theorem whole_of {s t : Bs} (h : (framesB s).1 = (framesB t).1) : wholeE s = wholeE t := by
  apply List.ext_getElem (by rw [wholeE_length, wholeE_length, h])
  intro i h1 h2
  obtain ⟨_, e1⟩ := wholeE_at s i (by rw [← wholeE_length]; exact h1)
  obtain ⟨_, e2⟩ := wholeE_at t i (by rw [← wholeE_length]; exact h2)
  rw [e1, e2, h]
theorem recall_of {s t : Bs} (h : (framesB s).1 = (framesB t).1) : recallB s = recallB t := by
  unfold recallB
  rw [whole_of h]
theorem recall_end (s : Bs) : recAt (recallB s) ≤ (framesB s).2 := by
  obtain ⟨h1, h2, h3, h4⟩ := framesB_sound s
  have e : (framesB s).1 = (framesB (s.take (framesB s).2)).1 := by
    rw [h2]
    have := framesN_cat (framesB s).1 [] h1 2000 h4 (.inr none_nil)
    rw [List.append_nil] at this
    exact (congrArg Prod.fst this).symm
  rw [recall_of e]
  have := recall_le (s.take (framesB s).2)
  rw [List.length_take] at this
  omega
/- All of a log is what is recalled. -/
structure LogR (log : Bs) (r : Rc) (up : Bool) : Prop where
  is : (recallB log).isSome = true
  rc : recR (recallB log) = r
  al : up = true → recAt (recallB log) = log.length
theorem LogR.frames {log : Bs} {r : Rc} (h : LogR log r true) : (framesB log).2 = log.length := by
  have h1 := recall_end log
  have h2 := framesB_le log
  rw [h.al rfl] at h1
  omega
theorem LogR.isCat {log : Bs} {r : Rc} (h : LogR log r true) : log = cat (framesB log).1 := by
  obtain ⟨-, h2, -, -⟩ := framesB_sound log
  rw [h.frames, List.take_length] at h2
  exact h2
theorem frames_more {log : Bs} (hc : log = cat (framesB log).1) (t rest : Bs) (hp : plainB t = true) (hl : (framesB log).1.length < 2000) (hr : (firstB rest).2 = 0) :
    framesB (log ++ framed t ++ rest) = ((framesB log).1 ++ [t], (log ++ framed t).length) := by
  obtain ⟨h1, -, -, -⟩ := framesB_sound log
  obtain ⟨ts, hts⟩ : ∃ ts, ts = (framesB log).1 := ⟨_, rfl⟩
  rw [← hts] at h1 hc hl ⊢
  have hcat : log ++ framed t ++ rest = cat (ts ++ [t]) ++ rest := by rw [cat_snoc, ← hc]
  have hsl : (log ++ framed t).length = (cat (ts ++ [t])).length := by rw [cat_snoc, ← hc]
  rw [hcat, hsl]
  refine framesN_cat (ts ++ [t]) rest (fun x hx => ?_) 2000 (by simp; omega) (.inr hr)
  rcases List.mem_append.1 hx with hx | hx
  · exact h1 x hx
  · simp at hx; subst hx; exact hp
theorem frames_rest {log : Bs} (hc : log = cat (framesB log).1) (rest : Bs) (hr : (firstB rest).2 = 0) : framesB (log ++ rest) = ((framesB log).1, log.length) := by
  obtain ⟨h1, -, -, h4⟩ := framesB_sound log
  obtain ⟨ts, hts⟩ : ∃ ts, ts = (framesB log).1 := ⟨_, rfl⟩
  rw [← hts] at h1 hc h4 ⊢
  have := framesN_cat ts rest h1 2000 h4 (.inr hr)
  rw [← hc] at this
  exact this
/- A record is noted. -/
theorem LogR.noted {log : Bs} {r q : Rc} (h : LogR log r true) (hq : q.ok = true) (hl : (framesB log).1.length < 2000) :
    LogR (log ++ framed (showR q)) q true ∧ (framesB (log ++ framed (showR q))).1.length = (framesB log).1.length + 1 := by
  have hp := (plain_show q hq).1
  have f := frames_more h.isCat (showR q) [] hp hl none_nil
  rw [List.append_nil] at f
  obtain ⟨ts, hts⟩ : ∃ ts, ts = (framesB log).1 := ⟨_, rfl⟩
  have hst := recall_step (log ++ framed (showR q)) ts.length (by rw [f, ← hts]; simp)
  have hall := recall_all (log ++ framed (showR q))
  rw [f, ← hts] at hst hall
  simp only [List.length_append, List.length_cons, List.length_nil, Nat.zero_add] at hall
  rw [hst] at hall
  have e1 : (ts ++ [showR q]).getD ts.length [] = showR q := by simp
  have e2 : (ts ++ [showR q]).take (ts.length + 1) = ts ++ [showR q] := List.take_of_length_le (by simp)
  have hsl : (log ++ framed (showR q)).length = (cat (ts ++ [showR q])).length := by rw [cat_snoc, hts, ← h.isCat]
  simp only [e1, e2, stepE, readR_show q hq, ← hsl] at hall
  refine ⟨⟨by rw [← hall]; rfl, by rw [← hall]; rfl, fun _ => by rw [← hall]; rfl⟩, ?_⟩
  rw [f]
  simp
/- Less than a whole one is noted: all is as it was. -/
theorem LogR.torn {log : Bs} {r q : Rc} (h : LogR log r true) (hq : q.ok = true) (p : Nat) (hp : p < (framed (showR q)).length) :
    LogR (log ++ (framed (showR q)).take p) r false ∧ (framesB (log ++ (framed (showR q)).take p)).1 = (framesB log).1 ∧ (log ++ (framed (showR q)).take p).take (recAt (recallB (log ++ (framed (showR q)).take p))) = log := by
  have f := frames_rest h.isCat ((framed (showR q)).take p) (half_none q p hq hp)
  have e : (framesB (log ++ (framed (showR q)).take p)).1 = (framesB log).1 := by rw [f]
  have er := recall_of e
  refine ⟨⟨by rw [er]; exact h.is, by rw [er]; exact h.rc, fun h => by cases h⟩, e, ?_⟩
  rw [er, h.al rfl, List.take_left]
theorem LogR.down {log : Bs} {r : Rc} {up : Bool} (h : LogR log r up) : LogR log r false := ⟨h.is, h.rc, fun h => by cases h⟩
/- What is recalled of what is recalled. -/
theorem LogR.rise {log : Bs} {r : Rc} {up : Bool} (h : LogR log r up) : LogR (log.take (recAt (recallB log))) r true ∧ (framesB (log.take (recAt (recallB log)))).1.length ≤ (framesB log).1.length := by
  obtain ⟨h1, h2, h3, h4⟩ := framesB_sound log
  obtain ⟨ts, hts⟩ : ∃ ts, ts = (framesB log).1 := ⟨_, rfl⟩
  -- the frames up to the last record
  have key : ∀ i, i ≤ ts.length → ∀ x, recallE ((wholeE log).take i) = some x → ∃ j, j ≤ i ∧ x.2 = (cat (ts.take j)).length ∧ recallE ((wholeE log).take j) = some x := by
    intro i
    induction i with
    | zero => intro _ x hx; simp [recallE] at hx
    | succ i ih =>
      intro hi x hx
      have hs := recall_step log i (by rw [← hts]; omega)
      rw [hs] at hx
      unfold stepE at hx
      split at hx
      · cases hx
        refine ⟨i + 1, Nat.le_refl _, by rw [hts], ?_⟩
        rw [hs]
        unfold stepE
        simp_all
      · obtain ⟨j, hj, e1, e2⟩ := ih (by omega) x hx
        exact ⟨j, by omega, e1, e2⟩
  obtain ⟨x, hx⟩ := Option.isSome_iff_exists.1 h.is
  have ha := recall_all log
  rw [← hts, hx] at ha
  obtain ⟨j, hj, e1, e2⟩ := key ts.length (Nat.le_refl _) x ha
  have hat : recAt (recallB log) = (cat (ts.take j)).length := by rw [hx]; exact e1
  have hpre : log.take (recAt (recallB log)) = cat (ts.take j) := by
    rw [hat]
    have hc : log.take (framesB log).2 = cat (ts.take j) ++ cat (ts.drop j) := by
      rw [h2, ← hts]
      have : cat (ts.take j ++ ts.drop j) = cat (ts.take j) ++ cat (ts.drop j) := by unfold cat; rw [List.map_append, List.flatten_append]
      rwa [List.take_append_drop] at this
    have hle : (cat (ts.take j)).length ≤ (framesB log).2 := by rw [h3, ← hts]; exact cat_take_len ts j
    have := congrArg (fun l => l.take (cat (ts.take j)).length) hc
    simp only [List.take_take, List.take_left, Nat.min_eq_left hle] at this
    exact this
  have hf : framesB (log.take (recAt (recallB log))) = (ts.take j, (cat (ts.take j)).length) := by
    rw [hpre]
    have := framesN_cat (ts.take j) [] (fun t ht => h1 t (by rw [← hts]; exact List.mem_of_mem_take ht)) 2000 (by rw [← hts] at h4; simp; omega) (.inr none_nil)
    rw [List.append_nil] at this
    exact this
  have hjl : (ts.take j).length = j := by simp; omega
  have hr : recallB (log.take (recAt (recallB log))) = some x := by
    rw [← recall_all, hf]
    simp only [hjl]
    have : (wholeE (log.take (recAt (recallB log)))).take j = (wholeE log).take j := by
      have hl1 : (wholeE (log.take (recAt (recallB log)))).length = j := by rw [wholeE_length, hf]; exact hjl
      have hl2 : (wholeE log).length = ts.length := by rw [wholeE_length, hts]
      apply List.ext_getElem (by simp [hl1, hl2]; omega)
      intro i a1 a2
      simp only [List.length_take, hl1, Nat.min_self] at a1
      obtain ⟨_, e3⟩ := wholeE_at (log.take (recAt (recallB log))) i (by rw [hf]; simp only [hjl]; exact a1)
      obtain ⟨_, e4⟩ := wholeE_at log i (by rw [← hts]; omega)
      rw [List.getElem_take, List.getElem_take, e3, e4, hf, ← hts]
      simp only
      rw [List.take_take, Nat.min_eq_left (by omega)]
      simp [List.getD, a1]
    rw [this]
    exact e2
  refine ⟨⟨by rw [hr]; rfl, ?_, fun _ => ?_⟩, ?_⟩
  · rw [hr, ← h.rc, hx]
  · rw [hr, hpre]
    exact e1
  · rw [hf, ← hts]
    simp only [hjl]
    exact hj
end Go.Proofs.Ytjbfncjdedigdaa
