/- Posts in memory: a row of messages, each with keys of its own. -/
import Derived.Test.YtjbfncjdedigdaaSMsg
import Derived.Test.YtjbfncjdedigdaaRowS
import Derived.Test.YtjbfncjdedigdaaM16
import Derived.Test.YtjbfncjdedigdaaM17
namespace Go.Proofs.Ytjbfncjdedigdaa
open Go.ChangeShapes Go.WideShapes Go.ChangeAt Go.RowKit

def msC (ps : List (Value × Mg)) : List (Array Value) := ps.map fun p => mgA p.1 p.2
def msOf (ps : List (Value × Mg)) : List Mg := ps.map (·.2)
def kcs (ps : List (Value × Mg)) : List Nat := ps.flatMap fun p => mineOf p.1 p.2.h.ks
theorem msC_len (ps : List (Value × Mg)) : (msC ps).length = ps.length := by simp [msC]
theorem msOf_len (ps : List (Value × Mg)) : (msOf ps).length = ps.length := by simp [msOf]
theorem msC_sz (ps : List (Value × Mg)) : ∀ cs ∈ msC ps, cs.size = 11 := by
  intro cs h
  obtain ⟨p, _, rfl⟩ := List.mem_map.1 h
  rfl
structure RdP (w : World) (v : Value) (ps : List (Value × Mg)) : Prop where
  row : RdRow w 11 v (msC ps)
  key : ∀ p ∈ ps, Reads w p.1 p.2.h.ks
theorem RdP.below {w w' : World} {v : Value} {ps : List (Value × Mg)} (h : RdP w v ps) (b : Below w.heap.size w w') : RdP w' v ps :=
  ⟨h.row.below b (Nat.le_refl _), fun p hp => (h.key p hp).below b (Nat.le_refl _)⟩
theorem RdP.form {w : World} {v : Value} {ps : List (Value × Mg)} (h : RdP w v ps) : ∃ ao cap, v = .slice ao ps.length cap := by
  obtain ⟨ao, cap, e⟩ := h.row.form
  rw [msC_len] at e
  exact ⟨ao, cap, e⟩
theorem RdP.el {w : World} {ao : Option Addr} {n cap : Nat} {ps : List (Value × Mg)} (h : RdP w (.slice ao n cap) ps) : n = ps.length ∧ n ≤ cap ∧ cap ≤ maxLen ∧
    ∀ j, j < n → ∃ b off u m, ps[j]? = some (u, m) ∧ ao = some ⟨b, off, none⟩ ∧ Reads w u m.h.ks ∧ ∀ i, i < 11 → w.cell? ⟨b, off + j * 11 + i, none⟩ = (mgA u m)[i]? := by
  obtain ⟨h1, h2, h3, h4⟩ := h.row.el
  rw [msC_len] at h1
  refine ⟨h1, h2, h3, fun j hj => ?_⟩
  obtain ⟨b, off, e, _, hc⟩ := h4 j hj
  have hp : ps[j]? = some ps[j] := List.getElem?_eq_getElem (by omega)
  refine ⟨b, off, ps[j].1, ps[j].2, hp, e, h.key _ (List.getElem_mem (by omega)), fun i hi => ?_⟩
  rw [Nat.add_assoc, hc i hi]
  simp [msC, List.getD, hp]
/- No list of it is great. -/
def SmP (ps : List (Value × Mg)) : Prop := ∀ p ∈ ps, p.2.h.ks.length ≤ 1048576
theorem SmP.at {ps : List (Value × Mg)} (h : SmP ps) {j : Nat} {u : Value} {m : Mg} (e : ps[j]? = some (u, m)) : m.h.ks.length ≤ 1048576 := h _ (List.mem_of_getElem? e)

/- A post of the call's own. -/
structure OwnP (w : World) (base : Nat) (v : Value) (ps : List (Value × Mg)) : Prop where
  row : OwnRow w base 35 11 v (msC ps)
  key : ∀ p ∈ ps, Mine w base p.1 p.2.h.ks
  ap : ps.Pairwise fun p q => ∀ x ∈ mineOf p.1 p.2.h.ks, x ∉ mineOf q.1 q.2.h.ks
theorem OwnP.rd {w : World} {base : Nat} {v : Value} {ps : List (Value × Mg)} (h : OwnP w base v ps) : RdP w v ps := ⟨h.row.rd, fun p hp => (h.key p hp).reads⟩
theorem OwnP.nil (w : World) (base : Nat) : OwnP w base (.slice none 0 0) [] := ⟨OwnRow.nil _ _ _ _, by simp, List.Pairwise.nil⟩
theorem OwnP.lit (w : World) (base : Nat) (hb : base ≤ w.heap.size) : OwnP (w.alloc (.cells #[] 35)) base (.slice (some ⟨w.heap.size, 0, none⟩) 0 0) [] := ⟨OwnRow.lit _ _ _ _ hb, by simp, List.Pairwise.nil⟩
def psB (v : Value) (ps : List (Value × Mg)) : List Nat := blk v ++ kcs ps
theorem OwnP.mono {w : World} {base base' : Nat} {v : Value} {ps : List (Value × Mg)} (h : OwnP w base v ps) (hb : base' ≤ base) : OwnP w base' v ps := ⟨h.row.mono hb, fun p hp => (h.key p hp).mono hb, h.ap⟩
theorem kcs_in {ps : List (Value × Mg)} {p : Value × Mg} (hp : p ∈ ps) {x : Nat} (hx : x ∈ mineOf p.1 p.2.h.ks) : x ∈ kcs ps := List.mem_flatMap.2 ⟨p, hp, hx⟩
theorem OwnP.frame {w w' : World} {base : Nat} {v : Value} {ps : List (Value × Mg)} (h : OwnP w base v ps) (e : ∀ x ∈ psB v ps, w'.heap[x]? = w.heap[x]?) : OwnP w' base v ps :=
  ⟨h.row.frame (fun x hx => e x (List.mem_append_left _ hx)), fun p hp => (h.key p hp).frame (fun x hx => e x (List.mem_append_right _ (kcs_in hp hx))), h.ap⟩
theorem OwnP.lt {w : World} {base : Nat} {v : Value} {ps : List (Value × Mg)} (h : OwnP w base v ps) : ∀ x ∈ psB v ps, base ≤ x ∧ x < w.heap.size := by
  intro x hx
  rcases List.mem_append.1 hx with hx | hx
  · exact h.row.lt x hx
  · obtain ⟨p, hp, hx⟩ := List.mem_flatMap.1 hx
    exact mineOf_lt (h.key p hp) hx
theorem OwnP.below {w w' : World} {base : Nat} {v : Value} {ps : List (Value × Mg)} (h : OwnP w base v ps) (b : Below w.heap.size w w') : OwnP w' base v ps := h.frame (fun x hx => b.block x (h.lt x hx).2)
theorem OwnP.drew {w w' : World} {base n : Nat} {v : Value} {ps : List (Value × Mg)} (h : OwnP w base v ps) (e : w' = w.drewN n) : OwnP w' base v ps := by subst e; exact h.frame (fun _ _ => rfl)
/- Its keys lie in other blocks than its row. -/
theorem Mine.besides {w : World} {base B : Nat} {t : TypeId} {k : Nat} {u v : Value} {xs : List Int} {css : List (Array Value)} (h : Mine w base u xs) (r : OwnRow w B t k v css) (ht : t ≠ 2) : ∀ x ∈ mineOf u xs, x ∉ blk v := by
  intro x hx hv
  have hne : xs ≠ [] := fun e => by rw [e] at hx; simp [mineOf] at hx
  have ho := h.own hne
  have hu : u.ownBlock = some x := by
    have := mineOf_sub hx
    simpa [blk] using this
  have hv' : v.ownBlock = some x := by simpa [blk] using hv
  rcases ho.2 with ⟨rfl, _⟩ | ⟨g, cap, cur, rfl, _, hg, _⟩
  · simp [Value.ownBlock] at hu
  · rcases r.ow.2 with ⟨rfl, _⟩ | ⟨g', cap', cur', rfl, _, hg', _⟩
    · simp [Value.ownBlock] at hv'
    · simp only [Value.ownBlock, Option.some.injEq] at hu hv'
      subst hu
      subst hv'
      rw [hg] at hg'
      simp only [Option.some.injEq, Obj.cells.injEq] at hg'
      exact ht hg'.2.1.symm
theorem Mine.keptRow {w w' : World} {base B : Nat} {t : TypeId} {k : Nat} {u v : Value} {xs : List Int} {css : List (Array Value)} (h : Mine w base u xs) (r : OwnRow w B t k v css) (ht : t ≠ 2) (g : w.grownBy w' v.ownBlock) : Mine w' base u xs :=
  h.frame (fun x hx => g.block x (mineOf_lt h hx).2 (fun e => h.besides r ht x hx (by simp [blk, ← e])))
/- A message more. -/
theorem OwnP.push {w1 w2 w4 : World} {base : Nat} {v v' u : Value} {m : Mg} {ps : List (Value × Mg)} {o : Obj} (h : OwnP w1 base v ps) (hu : Mine w2 w1.heap.size u m.h.ks) (b : Below w1.heap.size w1 w2) (hb : base ≤ w1.heap.size)
    (hown : w4.ownsRow base 35 11 v' ((msC ps).length + 1) (flatC (msC ps) ++ (mgA u m).toList)) (hg : (w2.alloc o).grownBy w4 v.ownBlock) : OwnP w4 base v' (ps ++ [(u, m)]) := by
  have B3 : Below w2.heap.size w2 (w2.alloc o) := (Below.refl _ _).alloc (Nat.le_refl _) _
  have h3 := (h.below b).below B3
  have u3 := hu.below B3
  have e : flatC (msC (ps ++ [(u, m)])) = flatC (msC ps) ++ (mgA u m).toList := by simp [msC, flatC]
  refine ⟨⟨msC_sz _, ?_⟩, ?_, ?_⟩
  · rw [e, show (msC (ps ++ [(u, m)])).length = (msC ps).length + 1 by simp [msC]]
    exact hown
  · intro p hp
    rcases List.mem_append.1 hp with hp | hp
    · exact (h3.key p hp).keptRow h3.row (by decide) hg
    · have : p = (u, m) := by simpa using hp
      subst this
      exact (u3.keptRow h3.row (by decide) hg).mono hb
  · refine List.pairwise_append.2 ⟨h.ap, by simp, fun p hp q hq x hx hy => ?_⟩
    have : q = (u, m) := by simpa using hq
    subst this
    have h1 := (mineOf_lt (h.key p hp) hx).2
    have h2 := (mineOf_lt hu hy).1
    omega
/- Two posts, one behind the other. -/
theorem OwnP.join {w0 w1 w2 : World} {base : Nat} {v v' v2 : Value} {ps qs : List (Value × Mg)} (h : OwnP w0 base v ps) (b : Below w0.heap.size w0 w1) (k : OwnP w1 w0.heap.size v2 qs) (hb : base ≤ w0.heap.size)
    (hown : w2.ownsRow base 35 11 v' ((msC ps).length + (msC qs).length) (flatC (msC ps) ++ flatC (msC qs))) (hg : w1.grownBy w2 v.ownBlock) : OwnP w2 base v' (ps ++ qs) := by
  have h1 := h.below b
  have e : flatC (msC (ps ++ qs)) = flatC (msC ps) ++ flatC (msC qs) := by simp [msC, flatC]
  refine ⟨⟨msC_sz _, ?_⟩, ?_, ?_⟩
  · rw [e, show (msC (ps ++ qs)).length = (msC ps).length + (msC qs).length by simp [msC]]
    exact hown
  · intro p hp
    rcases List.mem_append.1 hp with hp | hp
    · exact (h1.key p hp).keptRow h1.row (by decide) hg
    · exact ((k.key p hp).keptRow h1.row (by decide) hg).mono hb
  · refine List.pairwise_append.2 ⟨h.ap, k.ap, fun p hp q hq x hx hy => ?_⟩
    have h1 := (mineOf_lt (h.key p hp) hx).2
    have h2 := (mineOf_lt (k.key q hq) hy).1
    omega
theorem addr_add (b off j : Nat) : (⟨b, off, none⟩ : Addr).add j = ⟨b, off + j, none⟩ := by unfold Addr.add; split <;> simp_all
theorem flat_cells {w : World} {v : Value} {ps : List (Value × Mg)} {ad : Addr} {m c : Nat} (h : RdP w v ps) (hv : v = .slice (some ad) m c) : ∀ j u, (flatC (msC ps))[j]? = some u → w.cell? (ad.add j) = some u := by
  subst hv
  intro j u hj
  obtain ⟨h1, _, _, h4⟩ := h.el
  have hlt : j < m * 11 := by
    have := (List.getElem?_eq_some_iff.1 hj).1
    rw [flatC_len _ (msC_sz ps), msC_len] at this
    rw [h1]; exact this
  have ej : j = j / 11 * 11 + j % 11 := by omega
  have hq : j / 11 < m := by omega
  obtain ⟨b, off, u', m', he, hab, _, hc⟩ := h4 (j / 11) hq
  cases hab
  have hfl := flatC_at (msC ps) (msC_sz ps) (j / 11) (j % 11) (by rw [msC_len]; omega) (by omega)
  rw [← ej] at hfl
  have hcell := hc (j % 11) (by omega)
  rw [addr_add]
  rw [show off + j / 11 * 11 + j % 11 = off + j by omega] at hcell
  rw [hcell, ← hj, hfl]
  simp [msC, List.getD, he]
theorem flat_one {w : World} {v : Value} {ps : List (Value × Mg)} (h : RdP w v ps) : ∀ u ∈ flatC (msC ps), u.oneCell' = true := by
  intro u hu
  obtain ⟨l, hl, hu⟩ := List.mem_flatten.1 hu
  obtain ⟨cs, hcs, rfl⟩ := List.mem_map.1 hl
  obtain ⟨p, hp, rfl⟩ := List.mem_map.1 hcs
  exact (Array.all_eq_true_iff_forall_mem.1 (mgA_one p.2 (reads_one (h.key p hp)))) u (by simpa using hu)
/- A post as a thing of the state. -/
def PsI (v : Value) (ps : List (Value × Mg)) : Item := ⟨psB v ps, 0, fun w => OwnP w 0 v ps, fun _ _ e _ h => h.frame e⟩
theorem Sta.post {w wx wy : World} {L : List Item} {v : Value} {ps : List (Value × Mg)} (h : Sta w wx L) (o : OwnP wy wx.heap.size v ps) (b : Below wx.heap.size wx wy) : Sta w wy (PsI v ps :: L) :=
  h.add b (PsI v ps) (o.mono (Nat.zero_le _)) o.lt
theorem Sta.rdP {w wx : World} {L : List Item} {v : Value} {ps : List (Value × Mg)} (h : Sta w wx L) (i : Nat) (e : L[i]? = some (PsI v ps)) : RdP wx v ps := (h.get i e).rd

/- Plainly. -/
def postOk (ms : List Mg) : Bool := decide (ms.length ≤ 40) && ms.all Mg.ok
def postP (a b : List Mg) : List Mg × Bool := if postOk a then (if postOk b && decide (a.length + b.length ≤ 40) then (a ++ b, true) else (a, false)) else ([], false)
def takeP (a : List Mg) (i : Int) : List Mg × Mg × Bool := if postOk a then (if 0 ≤ i ∧ i < (a.length : Int) then (a.eraseIdx i.toNat, a.getD i.toNat Mg.zero, true) else (a, Mg.zero, false)) else ([], Mg.zero, false)
def twiceP (a : List Mg) (i : Int) : List Mg × Bool := if postOk a then (if (0 ≤ i ∧ i < (a.length : Int)) ∧ a.length ≠ 40 then (a ++ [a.getD i.toNat Mg.zero], true) else (a, false)) else ([], false)
theorem postOk_len {ms : List Mg} (h : postOk ms = true) : ms.length ≤ 40 := by
  unfold postOk at h
  simp only [Bool.and_eq_true, decide_eq_true_eq] at h
  exact h.1
theorem all_take_ok (ms : List Mg) (j : Nat) (m : Mg) (e : ms[j]? = some m) (h0 : (ms.take j).all Mg.ok = true) (hx : m.ok = true) : (ms.take (j + 1)).all Mg.ok = true := by
  obtain ⟨hj, rfl⟩ := List.getElem?_eq_some_iff.1 e
  rw [List.take_succ_eq_append_getElem hj, List.all_append, h0]
  simp [hx]
theorem all_not_ok (ms : List Mg) (j : Nat) (m : Mg) (e : ms[j]? = some m) (hx : m.ok = false) : ms.all Mg.ok = false := by
  rw [List.all_eq_false]
  exact ⟨m, List.mem_of_getElem? e, by simp [hx]⟩
theorem msOf_at {ps : List (Value × Mg)} {j : Nat} {u : Value} {m : Mg} (e : ps[j]? = some (u, m)) : (msOf ps)[j]? = some m := by simp [msOf, e]
theorem len_of {ps qs : List (Value × Mg)} (e : msOf qs = msOf ps) : qs.length = ps.length := by rw [← msOf_len, ← msOf_len, e]
theorem smp_of {ps qs : List (Value × Mg)} (e : msOf qs = msOf ps) (h : SmP ps) : SmP qs := by
  intro p hp
  have h1 : p.2 ∈ msOf qs := List.mem_map.2 ⟨p, hp, rfl⟩
  rw [e] at h1
  obtain ⟨q, hq, e2⟩ := List.mem_map.1 h1
  rw [← e2]
  exact h q hq
end Go.Proofs.Ytjbfncjdedigdaa
