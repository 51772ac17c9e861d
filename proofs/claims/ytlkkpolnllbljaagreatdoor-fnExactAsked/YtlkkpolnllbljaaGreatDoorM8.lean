/- Sinks as plain numbers and lists: when one is right, what fits it, what it is when something was received. -/
import Derived.Test.YtlkkpolnllbljaaGreatDoorM7
import Derived.Test.YtlkkpolnllbljaaGreatDoorM6
import Derived.Test.YtlkkpolnllbljaaGreatDoorRows
import Derived.Test.YtlkkpolnllbljaaGreatDoorM1
import Derived.WalkKit
import Derived.ProofKit
import Derived.OpenShut
import Derived.Laws.Tables
import Derived.Laws.ResultCell
import Derived.Test.YtlkkpolnllbljaaGreatDoorM3
import Derived.BigRegion
import Derived.Deep.RegionHeld3
import Derived.Deep.DeepCutAuto
namespace Go.Proofs.YtlkkpolnllbljaaGreatDoor
open Go.RowKit

structure Sn where
  tr : Int
  ts : List Int
def Sn.zero : Sn := ⟨0, []⟩
def Sn.ok (s : Sn) : Bool := if s.tr = 0 then decide (s.ts.length = 0) else inI s.tr 1 100000 && (turnsI s.ts && inI s.ts.length 1 8)
def Sn.fits (s : Sn) (t i n : Int) : Bool := decide (0 < s.tr) && decide (s.tr = t) && decide (0 ≤ i) && decide (i < (s.ts.length : Int)) && decide (s.ts.getD i.toNat 0 < n)
def Sn.Fits (s : Sn) (t i n : Int) : Bool := s.ok && s.fits t i n
def Sn.takes (s : Sn) (t i n : Int) : Bool := s.fits t i n && decide (n ≤ 1000000000)
def Sn.got (s : Sn) (t i n : Int) : Sn := if s.takes t i n then { s with ts := s.ts.set i.toNat n } else s
def Sn.Got (s : Sn) (t i n : Int) : Sn := if s.ok then s.got t i n else Sn.zero
def Sn.Is (s : Sn) (t i n : Int) : Bool := s.ok && s.takes t i n
def Sn.new (n t : Int) : Sn := if Cp.made n t then ⟨t, List.replicate n.toNat 0⟩ else Sn.zero
theorem Sn.Got_len (s : Sn) (t i n : Int) : (s.Got t i n).ts.length ≤ s.ts.length := by unfold Sn.Got Sn.got; split <;> (try split) <;> simp [Sn.zero]
theorem Sn.new_len (n t : Int) : (Sn.new n t).ts.length ≤ 8 := by
  unfold Sn.new
  split
  · rename_i h
    unfold Cp.made at h
    simp only [Bool.and_eq_true, inI_iff] at h
    simp only [List.length_replicate]
    omega
  · simp [Sn.zero]
theorem Sn.takes_iff (s : Sn) (t i n : Int) : s.takes t i n = true ↔ 0 < s.tr ∧ s.tr = t ∧ 0 ≤ i ∧ i < (s.ts.length : Int) ∧ s.ts.getD i.toNat 0 < n ∧ n ≤ 1000000000 := by
  unfold Sn.takes Sn.fits
  simp only [Bool.and_eq_true, decide_eq_true_eq, and_assoc]
theorem Sn.ok_turns {s : Sn} (h : s.ok = true) : turnsI s.ts = true := by
  unfold Sn.ok at h
  split at h
  · simp only [decide_eq_true_eq] at h
    rw [List.eq_nil_of_length_eq_zero h]; rfl
  · simp only [Bool.and_eq_true] at h
    exact h.2.1
theorem Sn.new_ok {n t : Int} (h : Cp.made n t = true) : (Sn.new n t).ok = true := by
  have := Cp.new_ok n t h
  unfold Sn.new
  rw [if_pos h]
  unfold Cp.new at this
  rw [if_pos h] at this
  unfold Cp.ok Cp.mid at this
  unfold Sn.ok
  simp only at this ⊢
  split
  · rename_i e
    rw [if_pos e] at this
    simp only [Bool.and_eq_true] at this
    exact this.2
  · rename_i e
    rw [if_neg e] at this
    simp only [Bool.and_eq_true] at this
    simp only [Bool.and_eq_true]
    exact this.1
theorem Sn.got_ok {s : Sn} (h : s.ok = true) (t i n : Int) : (s.got t i n).ok = true := by
  unfold Sn.got
  split
  · rename_i hi
    rw [Sn.takes_iff] at hi
    have ht := turns_at (Sn.ok_turns h) i.toNat
    unfold Sn.ok at h ⊢
    simp only at h ⊢
    split
    · rename_i e; omega
    · rename_i e
      rw [if_neg e] at h
      simp only [Bool.and_eq_true, List.length_set] at h ⊢
      exact ⟨h.1, turns_set h.2.1 _ ((inI_iff _ _ _).2 (by omega)), h.2.2⟩
  · exact h
/- What FnSink says of one that was received. -/
theorem Sn.is_all {s : Sn} {t i n : Int} (h : s.Is t i n = true) : s.ok = true ∧ s.Got t i n = { s with ts := s.ts.set i.toNat n } ∧ (s.Got t i n).ok = true ∧ s.Fits t i n = true ∧ (s.Got t i n).Is t i n = false ∧ 0 ≤ i ∧ i < (s.ts.length : Int) ∧ s.ts.getD i.toNat 0 < n := by
  unfold Sn.Is at h
  simp only [Bool.and_eq_true] at h
  obtain ⟨ok, ht⟩ := h
  have e : s.Got t i n = { s with ts := s.ts.set i.toNat n } := by
    unfold Sn.Got Sn.got
    rw [if_pos ok, if_pos ht]
  have ho : (s.Got t i n).ok = true := by
    have := Sn.got_ok ok t i n
    unfold Sn.Got
    rwa [if_pos ok]
  have hi := (Sn.takes_iff s t i n).1 ht
  refine ⟨ok, e, ho, ?_, ?_, hi.2.2.1, hi.2.2.2.1, hi.2.2.2.2.1⟩
  · unfold Sn.Fits
    unfold Sn.takes at ht
    simp only [Bool.and_eq_true] at ht
    rw [ok, ht.1]
    rfl
  · unfold Sn.Is
    rw [ho, Bool.true_and]
    cases hk : (s.Got t i n).takes t i n with
    | false => rfl
    | true =>
      exfalso
      have h2 := (Sn.takes_iff _ t i n).1 hk
      rw [e] at h2
      have hj : i.toNat < s.ts.length := by omega
      have := h2.2.2.2.2.1
      simp only [List.getD_eq_getElem?_getD, List.getElem?_set_self hj, Option.getD_some] at this
      omega
theorem Sn.is_not {s : Sn} {t i n : Int} (ok : s.ok = true) (h : s.Is t i n = false) : s.Got t i n = s ∧ (s.Fits t i n = false ∨ 1000000000 < n) := by
  unfold Sn.Is at h
  rw [ok, Bool.true_and] at h
  refine ⟨by unfold Sn.Got Sn.got; rw [if_pos ok, h]; rfl, ?_⟩
  unfold Sn.takes at h
  cases hf : s.fits t i n with
  | false => exact .inl (by unfold Sn.Fits; rw [hf, Bool.and_false])
  | true =>
    rw [hf, Bool.true_and] at h
    exact .inr (by simpa using h)
theorem Sn.bad {s : Sn} (h : s.ok = false) (t i n : Int) : s.Got t i n = Sn.zero ∧ s.Is t i n = false ∧ s.Fits t i n = false := by
  unfold Sn.Got Sn.Is Sn.Fits
  rw [h]
  exact ⟨rfl, rfl, rfl⟩
end Go.Proofs.YtlkkpolnllbljaaGreatDoor
/- Houses and messages as plain numbers, lists and texts: when one is right, what it answers, does by itself, hears; how it falls and rises. -/
namespace Go.Proofs.YtlkkpolnllbljaaGreatDoor
open Go.RowKit

structure Mg where
  dst : Int
  kd : Int
  tr : Int
  pl : Int
  tn : Int
  va : Int
  ep : Int
  h : Hd
def Mg.zero : Mg := ⟨0, 0, 0, 0, 0, 0, 0, Hd.zero⟩
def Hd.none (h : Hd) : Bool := decide (h.ks.length = 0) && decide (h.kd = 0) && decide (h.ho = 0) && decide (h.tu = 0)
def Mg.ok (m : Mg) : Bool := inI m.dst 0 1 && inI m.kd 1 8 && epI m.tr && itemOk m.pl && inI m.tn 0 1000000000 && valOk m.va && epI m.ep && (m.h.ok || m.h.none)
structure Nd where
  id : Int
  up : Bool
  xs : List Int
  ys : List Int
  h : Hd
  log : Bs
  r : Rc
  c : Cp
  s : Sn
def Nd.zero : Nd := ⟨0, false, [], [], Hd.zero, [], Rc.zero, Cp.zero, Sn.zero⟩
/- What of its log, its copier and its sink is asked. -/
def Nd.logB (n : Nd) : Bool := (recallB n.log).isSome && sameR (recR (recallB n.log)) n.r && (!n.up || decide (n.log.take (recAt (recallB n.log)) = n.log)) && (n.up || (decide (n.c.tr = 0) && decide (n.s.tr = 0)))
def Nd.copB (n : Nd) : Bool := decide (n.c.tr = 0) || (decide (n.r.s ≠ 3) && decide (n.c.tr = n.r.t) && decide (n.c.ts.length = n.ys.length))
def Nd.snkB (n : Nd) : Bool := decide (n.s.tr = 0) || (decide (n.r.s = 3) && decide (n.s.tr = n.r.n) && decide (n.s.ts.length = n.ys.length))
def Nd.ok (n : Nd) : Bool := (inI n.id 0 1 && bothOk n.xs n.ys && n.h.ok && n.r.ok && decide (n.log.length ≤ 40000) && n.c.ok && n.s.ok) && n.logB && n.copB && n.snkB
def Nd.new (id blocks : Int) (owns : Bool) : Nd :=
  if cntOk blocks && inI id 0 1 then
    ⟨id, true, zerosI blocks, zerosI blocks, Hd.new, framed (showR (if owns then ⟨1, 1, 0, 0⟩ else ⟨0, 3, 0, 0⟩)), if owns then ⟨1, 1, 0, 0⟩ else ⟨0, 3, 0, 0⟩, Cp.zero, Sn.zero⟩
  else Nd.zero
def Nd.made (id blocks : Int) : Bool := cntOk blocks && inI id 0 1
def Nd.down (n : Nd) (set : Int) : Nd := { n with up := false, xs := chosenUp n.xs n.ys set 8 n.xs.length, ys := chosenUp n.xs n.ys set 8 n.xs.length, c := Cp.zero, s := Sn.zero }
def Nd.torn (n : Nd) (q : Rc) (t : Nat) : Nd := { n with log := n.log ++ (framed (showR q)).take ((framed (showR q)).length - min t (framed (showR q)).length) }
def Nd.note (n : Nd) (q : Rc) (torn : Int) : Nd × Bool :=
  if 40000 < n.log.length + (framed (showR q)).length then (n.down 0, false)
  else if 0 < torn then ((n.torn q torn.toNat).down 0, false)
  else ({ n with log := n.log ++ framed (showR q), r := q }, true)
def Nd.ask (n : Nd) (who : Int) (b : Bs) : Nd × An :=
  if !n.up || !inI who 0 3 then (n, ⟨7, []⟩)
  else if codeC b ≠ 0 then (n, ⟨4, decI (codeC b)⟩)
  else if n.r.s = 2 then (n, ⟨5, []⟩)
  else if n.r.s = 3 then (n, ⟨6, []⟩)
  else
    let q := (Sr.mk n.xs n.ys n.h).doing who (readC b)
    ({ n with xs := q.1.xs, ys := q.1.ys, h := q.1.h, c := if decide (q.2.st = 0) && (readC b).chg then n.c.mark (readC b).p else n.c }, q.2)
def Nd.msg (n : Nd) (k : Int) : Mg := ⟨1 - n.id, k, n.r.t, 0, 0, 0, 0, Hd.zero⟩
def Nd.hand (n : Nd) : Mg := { n.msg 5 with ep := n.r.e, h := n.h }
/- What it does by itself, act by act. -/
def Nd.move (n : Nd) (torn : Int) : Nd × List Mg × Bool :=
  let p := n.note { n.r with t := n.r.t + 1 } torn
  if p.2 then ({ p.1 with c := Cp.new n.ys.length (n.r.t + 1) }, [p.1.msg 1], true) else (p.1, [], true)
def Nd.give (n : Nd) (torn : Int) : Nd × List Mg × Bool :=
  let p := ({ n with xs := n.ys } : Nd).note { n.r with s := 2 } torn
  if p.2 then (p.1, [p.1.hand], true) else (p.1, [], true)
def Nd.copy (n : Nd) : Nd × List Mg × Bool :=
  if n.c.nx < 0 then (n, [], false)
  else ({ n with c := n.c.next }, [{ n.msg 3 with pl := n.c.nx, tn := n.c.next.ts.getD n.c.nx.toNat 0, va := n.ys.getD n.c.nx.toNat 0 }], true)
def Nd.tell (n : Nd) (k torn : Int) : Nd × List Mg × Bool :=
  if !n.up then (n, [], false)
  else if k = 1 ∧ n.r.s = 1 ∧ n.c.tr = 0 ∧ n.r.t < 100000 then n.move torn
  else if k = 2 ∧ n.c.tr ≠ 0 then (if n.c.op then ({ n with c := n.c.again }, [], true) else (n, [n.msg 1], true))
  else if k = 3 ∧ n.c.tr ≠ 0 then n.copy
  else if k = 4 ∧ n.r.s = 1 ∧ n.c.tr ≠ 0 ∧ n.c.clean = true then n.give torn
  else if k = 5 ∧ n.r.s = 2 then (n, [n.hand], true)
  else if k = 6 ∧ n.r.s = 2 then (n, [{ n.msg 7 with ep := n.r.e }], true)
  else if k = 6 ∧ n.r.s = 1 ∧ n.c.tr ≠ 0 then ({ n with c := Cp.zero }, [], true)
  else (n, [], false)
/- What comes of a message, kind by kind. -/
def Nd.back (n : Nd) (m : Mg) (k : Int) : Mg := ⟨1 - n.id, k, m.tr, 0, 0, 0, 0, Hd.zero⟩
def Nd.taken (n : Nd) (m : Mg) : Mg := { n.back m 6 with ep := m.ep + 1 }
def Nd.ready (n : Nd) (m : Mg) : Nd × List Mg × Bool := if m.tr = 0 ∨ m.tr ≠ n.s.tr then (n, [], false) else (n, [n.back m 2], true)
def Nd.begun (n : Nd) (m : Mg) (torn : Int) : Nd × List Mg × Bool :=
  if n.r.s ≠ 3 then (n, [], false)
  else if n.r.n < m.tr then
    let p := n.note { n.r with n := m.tr } torn
    if p.2 then ({ p.1 with s := Sn.new n.ys.length m.tr } : Nd).ready m else (p.1, [], true)
  else n.ready m
def Nd.opened (n : Nd) (m : Mg) : Nd × List Mg × Bool := if n.c.tr = 0 ∨ n.c.tr ≠ m.tr ∨ n.c.op = true then (n, [], false) else ({ n with c := { n.c with op := true } }, [], true)
def Nd.copied (n : Nd) (m : Mg) : Nd × List Mg × Bool :=
  let is := n.s.takes m.tr m.pl m.tn
  let q : Nd := if is then { n with s := n.s.got m.tr m.pl m.tn, ys := n.ys.set m.pl.toNat m.va } else n
  if q.s.tr = 0 ∨ q.s.tr ≠ m.tr ∨ (q.s.ts.length : Int) ≤ m.pl ∨ q.s.ts.getD m.pl.toNat 0 < m.tn then (q, [], is)
  else (q, [{ n.back m 4 with pl := m.pl, tn := m.tn }], true)
def Nd.acked (n : Nd) (m : Mg) : Nd × List Mg × Bool := if n.c.tr ≠ 0 ∧ n.c.tr = m.tr then ({ n with c := n.c.ack m.pl m.tn }, [], n.c.acks m.pl m.tn) else (n, [], false)
def Nd.handed (n : Nd) (m : Mg) (torn : Int) : Nd × List Mg × Bool :=
  if m.h.ok = false ∨ m.ep = 100000 then (n, [], false)
  else if n.s.tr ≠ 0 ∧ n.s.tr = m.tr ∧ n.r.e ≤ m.ep then
    let p := ({ n with xs := n.ys, h := m.h } : Nd).note { n.r with e := m.ep + 1, s := 1 } torn
    if p.2 then ({ p.1 with s := Sn.zero }, [n.taken m], true) else (p.1, [], true)
  else if m.ep < n.r.e then (n, [n.taken m], true)
  else (n, [], false)
def Nd.mine (n : Nd) (m : Mg) : Bool := decide (n.r.s = 2) && decide (n.r.t = m.tr)
def Nd.gone (n : Nd) (m : Mg) (torn : Int) : Nd × List Mg × Bool :=
  if n.mine m = true ∧ n.r.e < m.ep then
    let p := n.note { n.r with e := m.ep, s := 3 } torn
    (if p.2 then { p.1 with c := Cp.zero } else p.1, [], true)
  else (n, [], false)
def Nd.cancelled (n : Nd) (m : Mg) (torn : Int) : Nd × List Mg × Bool :=
  if m.ep < n.r.e then (n, [n.taken m], true)
  else if n.r.s ≠ 3 then (n, [], false)
  else if n.r.n < m.tr then
    let p := ({ n with s := Sn.zero } : Nd).note { n.r with n := m.tr } torn
    if p.2 then (p.1, [n.back m 8], true) else (p.1, [], true)
  else (if n.s.tr = m.tr then { n with s := Sn.zero } else n, [n.back m 8], true)
def Nd.kept (n : Nd) (m : Mg) (torn : Int) : Nd × List Mg × Bool :=
  if n.mine m = true then
    let p := n.note { n.r with s := 1 } torn
    (if p.2 then { p.1 with c := Cp.zero } else p.1, [], true)
  else (n, [], false)
def Nd.hear (n : Nd) (m : Mg) (torn : Int) : Nd × List Mg × Bool :=
  if n.up = false ∨ m.ok = false ∨ m.dst ≠ n.id then (n, [], false)
  else if m.kd = 1 then n.begun m torn
  else if m.kd = 2 then n.opened m
  else if m.kd = 3 then n.copied m
  else if m.kd = 4 then n.acked m
  else if m.kd = 5 then n.handed m torn
  else if m.kd = 6 then n.gone m torn
  else if m.kd = 7 then n.cancelled m torn
  else n.kept m torn
def Nd.rise (n : Nd) : Nd × Bool := if n.up then (n, false) else ({ n with up := true, log := n.log.take (recAt (recallB n.log)) }, true)
/- What is answered. -/
def Nd.Ask (n : Nd) (who : Int) (b : Bs) : Nd × An := if n.ok then n.ask who b else (Nd.zero, ⟨7, []⟩)
def Nd.Tell (n : Nd) (k torn : Int) : Nd × List Mg × Bool := if n.ok && decide (0 ≤ torn) then n.tell k torn else (Nd.zero, [], false)
def Nd.Hear (n : Nd) (m : Mg) (torn : Int) : Nd × List Mg × Bool := if n.ok && decide (0 ≤ torn) then n.hear m torn else (Nd.zero, [], false)
def Nd.Fall (n : Nd) (set : Int) : Nd × Bool := if n.ok then (if n.up && setOk set then (n.down set, true) else (n, false)) else (Nd.zero, false)
def Nd.Rise (n : Nd) : Nd × Bool := if n.ok then n.rise else (Nd.zero, false)
end Go.Proofs.YtlkkpolnllbljaaGreatDoor
/- What of right houses is right, plainly: a house stays right, whatever it is asked, told, hears, and however it falls and rises. -/
namespace Go.Proofs.YtlkkpolnllbljaaGreatDoor
open Go.RowKit

theorem sameR_iff (a b : Rc) : sameR a b = true ↔ a = b := by
  obtain ⟨a1, a2, a3, a4⟩ := a
  obtain ⟨b1, b2, b3, b4⟩ := b
  simp [sameR, and_assoc]
structure NdR (n : Nd) : Prop where
  id : inI n.id 0 1 = true
  dk : bothOk n.xs n.ys = true
  h : n.h.ok = true
  r : n.r.ok = true
  ll : n.log.length ≤ 40000
  c : n.c.ok = true
  s : n.s.ok = true
  lg : LogR n.log n.r n.up
  dn : n.up = false → n.c.tr = 0 ∧ n.s.tr = 0
  cp : n.c.tr ≠ 0 → n.r.s ≠ 3 ∧ n.c.tr = n.r.t ∧ n.c.ts.length = n.ys.length
  sk : n.s.tr ≠ 0 → n.r.s = 3 ∧ n.s.tr = n.r.n ∧ n.s.ts.length = n.ys.length
theorem take_all (s : Bs) (k : Nat) (h : k ≤ s.length) : s.take k = s ↔ k = s.length := by
  constructor
  · intro e
    have := congrArg List.length e
    rw [List.length_take] at this
    omega
  · rintro rfl
    exact List.take_length
theorem or_of {p q : Prop} [Decidable p] [Decidable q] : (decide p || decide q) = true ↔ (¬ p → q) := by
  by_cases hp : p <;> simp [hp]
theorem Nd.ok_iff (n : Nd) : n.ok = true ↔ NdR n := by
  have hl := recall_le n.log
  have e1 : n.logB = true ↔ LogR n.log n.r n.up ∧ (n.up = false → n.c.tr = 0 ∧ n.s.tr = 0) := by
    unfold Nd.logB
    simp only [Bool.and_eq_true, sameR_iff]
    constructor
    · rintro ⟨⟨⟨a, b⟩, c⟩, d⟩
      refine ⟨⟨a, b, fun hu => ?_⟩, fun hu => ?_⟩
      · rw [hu] at c
        simp only [Bool.not_true, Bool.false_or, decide_eq_true_eq] at c
        exact (take_all _ _ hl).1 c
      · rw [hu] at d
        simpa using d
    · rintro ⟨⟨a, b, c⟩, d⟩
      refine ⟨⟨⟨a, b⟩, ?_⟩, ?_⟩
      · cases hu : n.up with
        | false => rfl
        | true =>
          simp only [Bool.not_true, Bool.false_or, decide_eq_true_eq]
          exact (take_all _ _ hl).2 (c hu)
      · cases hu : n.up with
        | true => rfl
        | false => simpa using d hu
  have e2 : n.copB = true ↔ (n.c.tr ≠ 0 → n.r.s ≠ 3 ∧ n.c.tr = n.r.t ∧ n.c.ts.length = n.ys.length) := by
    unfold Nd.copB
    by_cases h0 : n.c.tr = 0
    · simp [h0]
    · simp [h0, and_assoc]
  have e3 : n.snkB = true ↔ (n.s.tr ≠ 0 → n.r.s = 3 ∧ n.s.tr = n.r.n ∧ n.s.ts.length = n.ys.length) := by
    unfold Nd.snkB
    by_cases h0 : n.s.tr = 0
    · simp [h0]
    · simp [h0, and_assoc]
  unfold Nd.ok
  simp only [Bool.and_eq_true, e1, e2, e3, decide_eq_true_eq]
  constructor
  · rintro ⟨⟨⟨⟨⟨⟨⟨⟨⟨a, b⟩, c⟩, d⟩, e⟩, f⟩, g⟩, h1, h2⟩, i⟩, j⟩
    exact ⟨a, b, c, d, e, f, g, h1, h2, i, j⟩
  · rintro ⟨a, b, c, d, e, f, g, h1, h2, i, j⟩
    exact ⟨⟨⟨⟨⟨⟨⟨⟨⟨a, b⟩, c⟩, d⟩, e⟩, f⟩, g⟩, h1, h2⟩, i⟩, j⟩
/- A disk that is lost with a set is right, and as long. -/
theorem chosen_val {xs ys : List Int} (h : bothOk xs ys = true) (set : Int) : bothOk (chosenUp xs ys set 8 xs.length) (chosenUp xs ys set 8 xs.length) = true ∧ (chosenUp xs ys set 8 xs.length).length = ys.length := by
  unfold bothOk at h
  simp only [Bool.and_eq_true, decide_eq_true_eq] at h
  obtain ⟨hx, hy, hl⟩ := h
  have hlen : (chosenUp xs ys set 8 xs.length).length = xs.length := by simp [chosenUp]
  unfold blocksOk at hx hy
  simp only [Bool.and_eq_true, List.all_eq_true] at hx hy
  have hv : ∀ (l : List Int), (∀ x ∈ l, valOk x = true) → ∀ j, valOk (l.getD j 0) = true := by
    intro l hl j
    rcases Nat.lt_or_ge j l.length with hj | hj
    · have := hl _ (List.getElem_mem hj)
      simpa [List.getD, hj] using this
    · simp [List.getD, List.getElem?_eq_none hj, valOk]
  refine ⟨?_, by rw [hlen, hl]⟩
  have hb : blocksOk (chosenUp xs ys set 8 xs.length) = true := by
    unfold blocksOk
    rw [Bool.and_eq_true, List.all_eq_true, hlen]
    refine ⟨fun x hx' => ?_, hx.2⟩
    unfold chosenUp at hx'
    simp only [List.mem_map, List.mem_range] at hx'
    obtain ⟨j, -, rfl⟩ := hx'
    split
    · exact hv ys hy.1 j
    · exact hv xs hx.1 j
  unfold bothOk
  rw [hb]
  simp
theorem Sn.zero_ok : Sn.zero.ok = true := by decide
theorem NdR.down {n : Nd} (h : NdR n) (set : Int) : NdR (n.down set) :=
  ⟨h.id, (chosen_val h.dk set).1, h.h, h.r, h.ll, Cp.zero_ok, Sn.zero_ok, h.lg.down, fun _ => ⟨rfl, rfl⟩, fun e => absurd rfl e, fun e => absurd rfl e⟩
/- What a record that is noted leaves. -/
theorem NdR.note {n : Nd} (h : NdR n) (hu : n.up = true) {q : Rc} (hq : q.ok = true) (hf : (framesB n.log).1.length < 2000) {torn : Int} (p : Nd × Bool) (hp : p = n.note q torn) :
    (p.2 = false ∧ NdR p.1 ∧ p.1.up = false ∧ p.1.r = n.r ∧ p.1.h = n.h ∧ p.1.id = n.id ∧ p.1.ys.length = n.ys.length ∧ p.1.c = Cp.zero ∧ p.1.s = Sn.zero ∧ (framesB p.1.log).1.length = (framesB n.log).1.length) ∨
    (p.2 = true ∧ p.1 = { n with log := n.log ++ framed (showR q), r := q } ∧ LogR p.1.log q true ∧ p.1.log.length ≤ 40000 ∧ (framesB p.1.log).1.length = (framesB n.log).1.length + 1) := by
  have hlg : LogR n.log n.r true := by have := h.lg; rwa [hu] at this
  have hlen := (chosen_val h.dk 0).2
  unfold Nd.note at hp
  split at hp
  · subst hp
    exact .inl ⟨rfl, h.down 0, rfl, rfl, rfl, rfl, hlen, rfl, rfl, rfl⟩
  · rename_i hroom
    split at hp
    · rename_i ht
      subst hp
      have hpos := framed_pos (showR q)
      have hlt : (framed (showR q)).length - min torn.toNat (framed (showR q)).length < (framed (showR q)).length := by omega
      obtain ⟨l1, l2, -⟩ := hlg.torn hq _ hlt
      have hN : NdR ((n.torn q torn.toNat).down 0) := by
        refine ⟨h.id, (chosen_val h.dk 0).1, h.h, h.r, ?_, Cp.zero_ok, Sn.zero_ok, l1, fun _ => ⟨rfl, rfl⟩, fun e => absurd rfl e, fun e => absurd rfl e⟩
        show (n.log ++ _).length ≤ 40000
        rw [List.length_append, List.length_take]
        omega
      refine .inl ⟨rfl, hN, rfl, rfl, rfl, rfl, hlen, rfl, rfl, ?_⟩
      exact congrArg List.length l2
    · subst hp
      obtain ⟨l1, l2⟩ := hlg.noted hq hf
      refine .inr ⟨rfl, rfl, l1, ?_, l2⟩
      show (n.log ++ framed (showR q)).length ≤ 40000
      rw [List.length_append]
      omega
theorem NdR.rise {n : Nd} (h : NdR n) : NdR n.rise.1 ∧ n.rise.1.r = n.r ∧ n.rise.1.h = n.h ∧ n.rise.1.ys = n.ys ∧ (framesB n.rise.1.log).1.length ≤ (framesB n.log).1.length := by
  unfold Nd.rise
  split
  · exact ⟨h, rfl, rfl, rfl, Nat.le_refl _⟩
  · rename_i hu
    have hu' : n.up = false := by simpa using hu
    obtain ⟨l1, l2⟩ := h.lg.rise
    have hd := h.dn hu'
    refine ⟨⟨h.id, h.dk, h.h, h.r, ?_, h.c, h.s, l1, (fun e => by cases e), h.cp, h.sk⟩, rfl, rfl, rfl, l2⟩
    show (n.log.take _).length ≤ 40000
    rw [List.length_take]
    have := h.ll
    omega
/- A house that is asked. -/
theorem didI_same (xs ys : List Int) (c : Cm) : (didI xs ys c).2.1.length = ys.length := by
  unfold didI
  split
  · rfl
  · split
    · rfl
    · split
      · rfl
      · split
        · simp
        · split
          · split <;> simp
          · simp
theorem doing_len (s : Sr) (i : Int) (c : Cm) : (s.doing i c).1.ys.length = s.ys.length := by
  unfold Sr.doing
  split
  · rfl
  · split
    · exact didI_same _ _ _
    · rfl
theorem doing_ok {s : Sr} {i : Int} {c : Cm} (ok : s.ok = true) (hi : inI i 0 3 = true) (hc : c.ok = true) : (s.doing i c).1.ok = true := by
  have := did_ok (i := i) (c := c) ok
  unfold Sr.did at this
  rwa [if_pos ok, hi, hc, if_pos (by rfl)] at this
theorem mark_tr (c : Cp) (i : Int) : (c.mark i).tr = c.tr ∧ (c.mark i).ts = c.ts := by unfold Cp.mark; split <;> exact ⟨rfl, rfl⟩
theorem NdR.ask {n : Nd} (h : NdR n) (who : Int) (b : Bs) (hb : codeC b = 0 → (readC b).ok = true) :
    NdR (n.ask who b).1 ∧ (n.ask who b).1.r = n.r ∧ (n.ask who b).1.log = n.log ∧ (n.ask who b).1.up = n.up ∧ (n.ask who b).1.id = n.id ∧ (n.ask who b).1.ys.length = n.ys.length := by
  unfold Nd.ask
  split
  · exact ⟨h, rfl, rfl, rfl, rfl, rfl⟩
  · rename_i hu
    split
    · exact ⟨h, rfl, rfl, rfl, rfl, rfl⟩
    · rename_i hcode
      split
      · exact ⟨h, rfl, rfl, rfl, rfl, rfl⟩
      · split
        · exact ⟨h, rfl, rfl, rfl, rfl, rfl⟩
        · have hw : inI who 0 3 = true := by
            cases e : inI who 0 3 with
            | true => rfl
            | false => rw [e] at hu; simp at hu
          have hup : n.up = true := by
            cases e : n.up with
            | true => rfl
            | false => rw [e] at hu; simp at hu
          have hok : (Sr.mk n.xs n.ys n.h).ok = true := by unfold Sr.ok; rw [h.dk, h.h]; rfl
          have hd := doing_ok hok hw (hb (by simpa using hcode))
          have hln := doing_len (Sr.mk n.xs n.ys n.h) who (readC b)
          obtain ⟨q, hq⟩ : ∃ q, q = (Sr.mk n.xs n.ys n.h).doing who (readC b) := ⟨_, rfl⟩
          rw [← hq] at hd hln
          unfold Sr.ok at hd
          rw [Bool.and_eq_true] at hd
          simp only [← hq]
          have hc : ∀ v : Bool, (if v then n.c.mark (readC b).p else n.c).ok = true ∧ (if v then n.c.mark (readC b).p else n.c).tr = n.c.tr ∧ (if v then n.c.mark (readC b).p else n.c).ts = n.c.ts := by
            intro v
            cases v with
            | false => exact ⟨h.c, rfl, rfl⟩
            | true => exact ⟨Cp.mark_ok h.c _, mark_tr _ _⟩
          obtain ⟨c1, c2, c3⟩ := hc (decide (q.2.st = 0) && (readC b).chg)
          refine ⟨⟨h.id, hd.1, hd.2, h.r, h.ll, c1, h.s, h.lg, fun e => ?_, fun e => ?_, fun e => ?_⟩, trivial, trivial, trivial, trivial, hln⟩
          · rw [hup] at e; cases e
          · simp only [c2] at e ⊢
            have := h.cp e
            exact ⟨this.1, this.2.1, by rw [c3, this.2.2]; exact hln.symm⟩
          · have := h.sk e
            exact ⟨this.1, this.2.1, by rw [this.2.2]; exact hln.symm⟩
end Go.Proofs.YtlkkpolnllbljaaGreatDoor
/- With, Without and Full, the program's and the model's: each answers what plain sets say, at every argument, and leaves the world as it was. -/
namespace Go.Proofs.YtlkkpolnllbljaaGreatDoor
open Go.ChangeShapes Go.WideShapes Go.ChangeAt Go.RowKit

theorem full_wrap (n : Int) (h0 : 0 ≤ n) (h1 : n ≤ 8) : wrap64 (wrap64 (2 ^ n.toNat) - 1) = fullI n := by
  have a : ∀ k : Nat, k < 9 → wrap64 (wrap64 (2 ^ k) - 1) = 2 ^ k - 1 := by decide +kernel
  simp only [fullI, h0, h1, and_self, if_true]
  exact a n.toNat (by omega)
theorem fullI_no (n : Int) (h : n < 0 ∨ 8 < n) : fullI n = -1 := by
  unfold fullI; rw [if_neg (by omega)]

set_option maxRecDepth 20000 in
set_option maxHeartbeats 400000 in
theorem with_any (s i : Int) (w : World) :
    Calls Tryz.prog 126 #[.int .i64 s, .int .i64 i] w fun e w' => e = .returned (.int .i64 (withI s i)) ∧ w' = w := by
  by_cases h0 : 0 ≤ s
  · by_cases h1 : s < 256
    · by_cases h2 : 0 ≤ i
      · by_cases h3 : i < 8
        · go_enter Tryz.func126, Tryz.ntmps126
          go_wp2
          go_ret
          exact ⟨ret_int (or_in h0 h1 h2 h3), rfl⟩
        · rw [withI_noitem h0 h1 (by omega)]
          go_enter Tryz.func126, Tryz.ntmps126
          go_wp2
          go_ret
          exact ⟨rfl, rfl⟩
      · rw [withI_noitem h0 h1 (by omega)]
        go_enter Tryz.func126, Tryz.ntmps126
        go_wp2
        go_ret
        exact ⟨rfl, rfl⟩
    · rw [withI_noset (by omega)]
      go_enter Tryz.func126, Tryz.ntmps126
      go_wp2
      go_ret
      exact ⟨rfl, rfl⟩
  · rw [withI_noset (by omega)]
    go_enter Tryz.func126, Tryz.ntmps126
    go_wp2
    go_ret
    exact ⟨rfl, rfl⟩

set_option maxRecDepth 20000 in
set_option maxHeartbeats 400000 in
theorem swith_any (s i : Int) (w : World) :
    Calls Tryz.prog 103 #[.int .i64 s, .int .i64 i] w fun e w' => e = .returned (.int .i64 (withI s i)) ∧ w' = w := by
  by_cases h0 : 0 ≤ s
  · by_cases h1 : s ≤ 255
    · by_cases h2 : 0 ≤ i
      · by_cases h3 : i ≤ 7
        · go_enter Tryz.func103, Tryz.ntmps103
          go_wp2
          go_ret
          exact ⟨ret_int (or_in h0 (by omega) h2 (by omega)), rfl⟩
        · rw [withI_noitem h0 (by omega) (by omega)]
          go_enter Tryz.func103, Tryz.ntmps103
          go_wp2
          go_ret
          exact ⟨rfl, rfl⟩
      · rw [withI_noitem h0 (by omega) (by omega)]
        go_enter Tryz.func103, Tryz.ntmps103
        go_wp2
        go_ret
        exact ⟨rfl, rfl⟩
    · rw [withI_noset (by omega)]
      go_enter Tryz.func103, Tryz.ntmps103
      go_wp2
      go_ret
      exact ⟨rfl, rfl⟩
  · rw [withI_noset (by omega)]
    go_enter Tryz.func103, Tryz.ntmps103
    go_wp2
    go_ret
    exact ⟨rfl, rfl⟩

set_option maxRecDepth 20000 in
set_option maxHeartbeats 400000 in
theorem full_any (n : Int) (w : World) :
    Calls Tryz.prog 192 #[.int .i64 n] w fun e w' => e = .returned (.int .i64 (fullI n)) ∧ w' = w := by
  by_cases h0 : 0 ≤ n
  · by_cases h1 : n ≤ 8
    · go_enter Tryz.func192, Tryz.ntmps192
      go_wp2
      go_ret
      exact ⟨ret_int (full_wrap n h0 h1), rfl⟩
    · rw [fullI_no n (by omega)]
      go_enter Tryz.func192, Tryz.ntmps192
      go_wp2
      go_ret
      exact ⟨rfl, rfl⟩
  · rw [fullI_no n (by omega)]
    go_enter Tryz.func192, Tryz.ntmps192
    go_wp2
    go_ret
    exact ⟨rfl, rfl⟩

set_option maxRecDepth 20000 in
set_option maxHeartbeats 400000 in
theorem sfull_any (n : Int) (w : World) :
    Calls Tryz.prog 91 #[.int .i64 n] w fun e w' => e = .returned (.int .i64 (fullI n)) ∧ w' = w := by
  by_cases h0 : 0 ≤ n
  · by_cases h1 : n ≤ 8
    · go_enter Tryz.func91, Tryz.ntmps91
      go_wp2
      go_ret
      exact ⟨ret_int (full_wrap n h0 h1), rfl⟩
    · rw [fullI_no n (by omega)]
      go_enter Tryz.func91, Tryz.ntmps91
      go_wp2
      go_ret
      exact ⟨rfl, rfl⟩
  · rw [fullI_no n (by omega)]
    go_enter Tryz.func91, Tryz.ntmps91
    go_wp2
    go_ret
    exact ⟨rfl, rfl⟩
end Go.Proofs.YtlkkpolnllbljaaGreatDoor
/- The state of a long walk under one name: nothing that was there has turned, and these things lie in memory of the call's own, each in blocks of its own. -/
namespace Go.Proofs.YtlkkpolnllbljaaGreatDoor
open Go.ChangeShapes Go.WideShapes Go.ChangeAt Go.RowKit

/- A thing: the blocks that it lies in, and what is known of them; it may lean on what came in, too: all blocks below 'old'. -/
structure Item where
  blocks : List Nat
  old : Nat
  holds : World → Prop
  frame : ∀ w w' : World, (∀ b ∈ blocks, w'.heap[b]? = w.heap[b]?) → Below old w w' → holds w → holds w'

/- What leaves all blocks but these alone. -/
structure Turned (w w' : World) (bs : List Nat) : Prop where
  os : w'.os = w.os
  tape : w'.tape = w.tape
  output : w'.output = w.output
  size : w.heap.size ≤ w'.heap.size
  block : ∀ k, k < w.heap.size → k ∉ bs → w'.heap[k]? = w.heap[k]?

theorem Turned.of_grown {w w' : World} {row : Option Nat} (h : w.grownBy w' row) : Turned w w' row.toList :=
  ⟨h.os, h.tape, h.output, h.size, fun k hk hn => h.block k hk (fun e => hn (by rw [← e]; simp))⟩
theorem Turned.trans {w w' w'' : World} {bs cs : List Nat} (h : Turned w w' bs) (h' : Turned w' w'' cs) : Turned w w'' (bs ++ cs) :=
  ⟨h'.os.trans h.os, h'.tape.trans h.tape, h'.output.trans h.output, Nat.le_trans h.size h'.size, fun k hk hn => by
    simp at hn
    exact (h'.block k (Nat.lt_of_lt_of_le hk h.size) hn.2).trans (h.block k hk hn.1)⟩
theorem Turned.of_below {w w' : World} (h : Below w.heap.size w w') : Turned w w' [] :=
  ⟨h.os, h.tape, h.output, h.size, fun k hk _ => h.block k hk⟩

def Apart : List Item → Prop
  | [] => True
  | i :: l => (∀ j ∈ l, ∀ b ∈ i.blocks, b ∉ j.blocks) ∧ Apart l

structure Sta (w wx : World) (L : List Item) : Prop where
  below : Below w.heap.size w wx
  olds : ∀ i ∈ L, i.old ≤ w.heap.size
  holds : ∀ i ∈ L, i.holds wx
  bound : ∀ i ∈ L, ∀ b ∈ i.blocks, w.heap.size ≤ b ∧ b < wx.heap.size
  apart : Apart L

theorem Sta.start (w : World) : Sta w w [] := ⟨Below.refl _ _, by simp, by simp, by simp, trivial⟩
theorem Sta.next {w wx wy : World} {L : List Item} (h : Sta w wx L) (b : Below wx.heap.size wx wy) : Sta w wy L :=
  ⟨h.below.trans (b.mono h.below.size), h.olds, fun i hi => i.frame wx wy (fun k hk => b.block k (h.bound i hi k hk).2) (b.mono (Nat.le_trans (h.olds i hi) h.below.size)) (h.holds i hi), fun i hi k hk => ⟨(h.bound i hi k hk).1, Nat.lt_of_lt_of_le (h.bound i hi k hk).2 b.size⟩, h.apart⟩
theorem Sta.drew {w wx wy : World} {L : List Item} {n : Nat} (h : Sta w wx L) (e : wy = wx.drewN n) : Sta w wy L := by
  subst e
  exact ⟨below_drewN h.below n, h.olds, fun i hi => i.frame wx _ (fun _ _ => rfl) (below_drewN (Below.refl _ _) n) (h.holds i hi), h.bound, h.apart⟩
theorem Sta.drew1 {w wx : World} {L : List Item} (h : Sta w wx L) : Sta w wx.drew L := h.drew (n := 1) rfl
theorem Sta.add {w wx wy : World} {L : List Item} (h : Sta w wx L) (b : Below wx.heap.size wx wy) (i : Item) (hi : i.holds wy) (hb : ∀ k ∈ i.blocks, wx.heap.size ≤ k ∧ k < wy.heap.size) (ho : i.old ≤ w.heap.size := by exact Nat.zero_le _) : Sta w wy (i :: L) := by
  have h' := h.next b
  refine ⟨h'.below, ?_, ?_, ?_, ?_, h'.apart⟩
  · intro j hj
    rcases List.mem_cons.1 hj with rfl | hj
    · exact ho
    · exact h'.olds j hj
  · intro j hj
    rcases List.mem_cons.1 hj with rfl | hj
    · exact hi
    · exact h'.holds j hj
  · intro j hj k hk
    rcases List.mem_cons.1 hj with rfl | hj
    · exact ⟨Nat.le_trans h.below.size (hb k hk).1, (hb k hk).2⟩
    · exact h'.bound j hj k hk
  · intro j hj k hk hk'
    have := (hb k hk).1
    have := (h.bound j hj k hk').2
    omega
theorem Sta.get {w wx : World} {L : List Item} (h : Sta w wx L) (n : Nat) {i : Item} (e : L[n]? = some i) : i.holds wx := h.holds i (List.mem_of_getElem? e)
theorem Sta.lt {w wx : World} {L : List Item} (h : Sta w wx L) (n : Nat) {i : Item} (e : L[n]? = some i) : ∀ b ∈ i.blocks, w.heap.size ≤ b ∧ b < wx.heap.size := h.bound i (List.mem_of_getElem? e)

theorem Apart.set {L : List Item} {n : Nat} {i j : Item} (h : Apart L) (e : L[n]? = some i) (hb : j.blocks = i.blocks) : Apart (L.set n j) := by
  induction L generalizing n with
  | nil => simp at e
  | cons a l ih =>
    cases n with
    | zero =>
      simp at e
      subst e
      refine ⟨?_, h.2⟩
      rw [hb]
      exact h.1
    | succ n =>
      simp at e
      refine ⟨?_, ih h.2 e⟩
      intro x hx b hba
      rcases List.mem_or_eq_of_mem_set hx with hx | rfl
      · exact h.1 x hx b hba
      · rw [hb]
        exact h.1 i (List.mem_of_getElem? e) b hba
theorem Apart.ne {L : List Item} {n m : Nat} {i j : Item} (h : Apart L) (e : L[n]? = some i) (e' : L[m]? = some j) (hne : n ≠ m) : ∀ b ∈ i.blocks, b ∉ j.blocks := by
  induction L generalizing n m with
  | nil => simp at e
  | cons a l ih =>
    cases n with
    | zero =>
      cases m with
      | zero => exact absurd rfl hne
      | succ m =>
        simp at e e'
        subst e
        exact h.1 j (List.mem_of_getElem? e')
    | succ n =>
      cases m with
      | zero =>
        simp at e e'
        subst e'
        intro b hb hb'
        exact h.1 i (List.mem_of_getElem? e) b hb' hb
      | succ m =>
        simp at e e'
        exact ih h.2 e e' (by omega)

/- What turns the blocks of one thing alone. -/
theorem Sta.turn {w wx wy : World} {L : List Item} (h : Sta w wx L) (n : Nat) {i : Item} (e : L[n]? = some i) (t : Turned wx wy i.blocks) (j : Item) (hb : j.blocks = i.blocks) (hj : j.holds wy) (ho : j.old ≤ w.heap.size := by exact Nat.zero_le _) : Sta w wy (L.set n j) := by
  have hold : Below w.heap.size wx wy := ⟨t.os, t.tape, t.output, t.size, fun k hk => t.block k (Nat.lt_of_lt_of_le hk h.below.size) (fun hc => by have := (h.lt n e k hc).1; omega)⟩
  refine ⟨h.below.trans hold, ?_, ?_, ?_, h.apart.set e hb⟩
  · intro x hx
    rcases List.mem_or_eq_of_mem_set hx with hx | rfl
    · exact h.olds x hx
    · exact ho
  · intro x hx
    obtain ⟨m, hm, rfl⟩ := List.mem_iff_getElem.1 hx
    rw [List.getElem_set]
    split
    · exact hj
    · rename_i hne
      have hm' : m < L.length := by simpa using hm
      have hx' : L[m]? = some L[m] := List.getElem?_eq_getElem hm'
      refine L[m].frame wx wy (fun k hk => t.block k (h.lt m hx' k hk).2 (fun hc => ?_)) (hold.mono (h.olds _ (List.mem_of_getElem? hx'))) (h.get m hx')
      exact h.apart.ne hx' e (fun e2 => hne e2.symm) k hk hc
  · intro x hx k hk
    rcases List.mem_or_eq_of_mem_set hx with hx | rfl
    · exact ⟨(h.bound x hx k hk).1, Nat.lt_of_lt_of_le (h.bound x hx k hk).2 t.size⟩
    · rw [hb] at hk
      exact ⟨(h.lt n e k hk).1, Nat.lt_of_lt_of_le (h.lt n e k hk).2 t.size⟩
theorem Sta.tail {w wx : World} {i : Item} {L : List Item} (h : Sta w wx (i :: L)) : Sta w wx L :=
  ⟨h.below, fun j hj => h.olds j (List.mem_cons_of_mem _ hj), fun j hj => h.holds j (List.mem_cons_of_mem _ hj), fun j hj => h.bound j (List.mem_cons_of_mem _ hj), h.apart.2⟩
theorem Sta.second {w wx : World} {i j : Item} {L : List Item} (h : Sta w wx (i :: j :: L)) : Sta w wx (i :: L) :=
  ⟨h.below, fun x hx => h.olds x (by rcases List.mem_cons.1 hx with rfl | hx <;> simp [*]), fun x hx => h.holds x (by rcases List.mem_cons.1 hx with rfl | hx <;> simp [*]), fun x hx => h.bound x (by rcases List.mem_cons.1 hx with rfl | hx <;> simp [*]), fun x hx => h.apart.1 x (List.mem_cons_of_mem _ hx), h.apart.2.2⟩

theorem Apart.iff {L : List Item} : Apart L ↔ L.Pairwise (fun i j => ∀ b ∈ i.blocks, b ∉ j.blocks) := by
  induction L with
  | nil => simp [Apart]
  | cons a l ih => rw [List.pairwise_cons, ← ih]; exact Iff.rfl
theorem Sta.perm {w wx : World} {L M : List Item} (h : Sta w wx L) (p : L.Perm M) : Sta w wx M :=
  ⟨h.below, fun i hi => h.olds i (p.mem_iff.2 hi), fun i hi => h.holds i (p.mem_iff.2 hi), fun i hi => h.bound i (p.mem_iff.2 hi),
    Apart.iff.2 ((p.pairwise_iff (fun hxy b hb hb' => hxy b hb' hb)).1 (Apart.iff.1 h.apart))⟩
theorem Sta.sub {w wx : World} {L M : List Item} (h : Sta w wx L) (p : M.Sublist L) : Sta w wx M :=
  ⟨h.below, fun i hi => h.olds i (p.mem hi), fun i hi => h.holds i (p.mem hi), fun i hi => h.bound i (p.mem hi), Apart.iff.2 ((Apart.iff.1 h.apart).sublist p)⟩
/- Thing n is taken to the front; is dropped. -/
theorem erase_perm (L : List Item) : ∀ (n : Nat) (i : Item), L[n]? = some i → (i :: L.eraseIdx n).Perm L := by
  induction L with
  | nil => intro n i e; simp at e
  | cons a l ih =>
    intro n i e
    cases n with
    | zero => simp at e; subst e; exact List.Perm.refl _
    | succ n =>
      simp at e
      exact (List.Perm.swap a i _).trans ((ih n i e).cons a)
theorem Sta.front {w wx : World} {L : List Item} (h : Sta w wx L) (n : Nat) {i : Item} (e : L[n]? = some i) : Sta w wx (i :: L.eraseIdx n) :=
  h.perm (erase_perm L n i e).symm
theorem Sta.drop {w wx : World} {L : List Item} (h : Sta w wx L) (n : Nat) : Sta w wx (L.eraseIdx n) := h.sub (List.eraseIdx_sublist ..)
theorem set_same {L : List Item} {n : Nat} {i : Item} (e : L[n]? = some i) : L.set n i = L := by
  obtain ⟨hn, rfl⟩ := List.getElem?_eq_some_iff.1 e
  exact List.set_getElem_self hn
/- A thing turns, and a new one is made. -/
theorem Sta.turnAdd {w wx wy : World} {L : List Item} (h : Sta w wx L) (n : Nat) {i : Item} (e : L[n]? = some i) (t : Turned wx wy i.blocks) (hi : i.holds wy) (k : Item) (hk : k.holds wy) (hb : ∀ b ∈ k.blocks, wx.heap.size ≤ b ∧ b < wy.heap.size) (ho : k.old ≤ w.heap.size := by exact Nat.zero_le _) : Sta w wy (k :: L) := by
  have h' := h.turn n e t i rfl hi (h.olds i (List.mem_of_getElem? e))
  rw [set_same e] at h'
  refine ⟨h'.below, ?_, ?_, ?_, ?_, h'.apart⟩
  · intro j hj
    rcases List.mem_cons.1 hj with rfl | hj
    · exact ho
    · exact h'.olds j hj
  · intro j hj
    rcases List.mem_cons.1 hj with rfl | hj
    · exact hk
    · exact h'.holds j hj
  · intro j hj b hbb
    rcases List.mem_cons.1 hj with rfl | hj
    · exact ⟨Nat.le_trans h.below.size (hb b hbb).1, (hb b hbb).2⟩
    · exact h'.bound j hj b hbb
  · intro j hj b hbb hb'
    have := (hb b hbb).1
    have := (h.bound j hj b hb').2
    omega
/- Two things in one. -/
theorem Sta.join {w wx : World} {L : List Item} {i j : Item} (h : Sta w wx (i :: j :: L)) (k : Item) (hb : k.blocks = i.blocks ++ j.blocks) (hk : k.holds wx) (ho : k.old ≤ w.heap.size := by exact Nat.zero_le _) : Sta w wx (k :: L) := by
  refine ⟨h.below, ?_, ?_, ?_, ?_, h.apart.2.2⟩
  · intro x hx
    rcases List.mem_cons.1 hx with rfl | hx
    · exact ho
    · exact h.olds x (by simp [hx])
  · intro x hx
    rcases List.mem_cons.1 hx with rfl | hx
    · exact hk
    · exact h.holds x (by simp [hx])
  · intro x hx b hbb
    rcases List.mem_cons.1 hx with rfl | hx
    · rw [hb, List.mem_append] at hbb
      rcases hbb with hbb | hbb
      · exact h.bound i (by simp) b hbb
      · exact h.bound j (by simp) b hbb
    · exact h.bound x (by simp [hx]) b hbb
  · intro x hx b hbb
    rw [hb, List.mem_append] at hbb
    rcases hbb with hbb | hbb
    · exact h.apart.1 x (by simp [hx]) b hbb
    · exact h.apart.2.1 x hx b hbb

/- A block that is known whole. -/
def Blk (g : Nat) (t : TypeId) (cs : Array Value) : Item := ⟨[g], 0, fun w => w.heap[g]? = some (.cells cs t (0, 0)), fun w w' e _ h => (e g (by simp)).trans h⟩
theorem Sta.box {w wx : World} {L : List Item} (h : Sta w wx L) (t : TypeId) (cs : Array Value) : Sta w (wx.alloc (.cells cs t)) (Blk wx.heap.size t cs :: L) :=
  h.add ((Below.refl _ _).alloc (Nat.le_refl _) _) (Blk _ _ _) (heap_alloc_new wx _) (by simp [Blk])
theorem Blk.cell {w : World} {g : Nat} {t : TypeId} {cs : Array Value} (h : (Blk g t cs).holds w) (j : Nat) {x : Value} (e : cs[j]? = some x) : w.cell? ⟨g, j, none⟩ = some x := by
  rw [cell_of_row w g j _ _ _ h, e]
theorem Blk.frozen {w : World} {g : Nat} {t : TypeId} {cs : Array Value} (h : (Blk g t cs).holds w) (j : Nat) : w.frozen? ⟨g, j, none⟩ = false := frozen_of_row w g j _ _ h

theorem wpList_getB {ops : Array Oper} {rest : List Oper} {o : Oper} {a : Act} {w : World} {Q : Exit → Act → World → Prop} (hgd : o.guard = none) (t : TypeId) (x : Operand) (ho : o.op = .load t x)
    (g : Nat) (hx : a.eval x = .pointer (some ⟨g, 0, none⟩)) (cs : Array Value) (hr : (Blk g t cs).holds w) (fs : Array Field)
    (hu : Tryz.prog.underlying t = some (.struct fs)) (hi : (Tryz.prog.info? t).map (·.size) = some cs.size)
    (h : wpList Tryz.prog ops Q rest (a.put o.dst (.agg cs)) w) : wpList Tryz.prog ops Q (o :: rest) a w :=
  wpList_load_row hgd _ x ho g hx _ _ _ _ hr hu rfl hi h
theorem turned_setRow (w : World) (g : Nat) (cs : Array Value) : Turned w (w.setRow g cs) [g] :=
  ⟨rfl, rfl, rfl, by simp, fun k _ hn => _root_.Go.setRow_other w g k cs (fun e => hn (by simp [e]))⟩
theorem wpList_putB {ops : Array Oper} {rest : List Oper} {o : Oper} {a : Act} {w : World} {Q : Exit → Act → World → Prop} (hgd : o.guard = none) (t : TypeId) (x y : Operand) (ho : o.op = .store t x y)
    (g : Nat) (cs old : Array Value) (hx : a.eval x = .pointer (some ⟨g, 0, none⟩)) (hy : a.eval y = .agg cs) (hc : cs.all (·.oneCell') = true) (hr : (Blk g t old).holds w)
    (hi : (Tryz.prog.info? t).map (·.size) = some cs.size) (hold : old.size = cs.size)
    (h : ∀ w', (Blk g t cs).holds w' → Turned w w' [g] → wpList Tryz.prog ops Q rest (a.put o.dst undef) w') : wpList Tryz.prog ops Q (o :: rest) a w :=
  wpList_store_row hgd _ x y ho g cs hx hy _ _ hr hi hold hc (h _ (setRow_heap w g _ _ _ _ hr) (turned_setRow w g _))
/- A variable is made and filled at once. -/
theorem Sta.var {w wx wy : World} {L : List Item} (h : Sta w wx L) (t : TypeId) (cs old : Array Value) (hr : (Blk wx.heap.size t cs).holds wy) (g : Turned (wx.alloc (.cells old t)) wy [wx.heap.size]) : Sta w wy (Blk wx.heap.size t cs :: L) :=
  (h.box t old).turn 0 rfl g (Blk wx.heap.size t cs) rfl hr

/- A list of the call's own. -/
theorem Own.frame {w w' : World} {base : Nat} {v : Value} {xs : List Int} (h : Own w base v xs) (e : ∀ b ∈ v.ownBlock.toList, w'.heap[b]? = w.heap[b]?) : Own w' base v xs := by
  refine ⟨h.1, ?_⟩
  rcases h.2 with h' | ⟨g, cap, cur, rfl, hb, hg, r⟩
  · exact .inl h'
  · exact .inr ⟨g, cap, cur, rfl, hb, (e g (by simp [Value.ownBlock])).trans hg, r⟩
def Lst (v : Value) (xs : List Int) : Item := ⟨v.ownBlock.toList, 0, fun w => Own w 0 v xs, fun _ _ e _ h => Own.frame h e⟩
/- A list that came in. -/
def Arg (w : World) (v : Value) (xs : List Int) : Item := ⟨[], w.heap.size, fun wx => Below w.heap.size w wx ∧ Reads w v xs, fun _ _ _ b h => ⟨h.1.trans b, h.2⟩⟩
theorem Sta.list {w wx wy : World} {L : List Item} {v : Value} {xs : List Int} (h : Sta w wx L) (o : Own wy wx.heap.size v xs) (b : Below wx.heap.size wx wy) : Sta w wy (Lst v xs :: L) :=
  h.add b (Lst v xs) (o.mono (Nat.zero_le _)) (fun k hk => o.lt k (by simpa [Lst] using hk))

/- A disk of the call's own. -/
theorem Tryz.infoB : (Tryz.prog.info? 36).map (·.size) = some 2 ∧ (Tryz.prog.info? 24).map (·.size) = some 2 := ⟨by kernel_rfl, by kernel_rfl⟩
end Go.Proofs.YtlkkpolnllbljaaGreatDoor
/- Copiers by the model: l13Turns, CopierOk, Clean. -/
namespace Go.Proofs.YtlkkpolnllbljaaGreatDoor
open Go.ChangeShapes Go.WideShapes Go.ChangeAt Go.RowKit

def cpA (v : Value) (c : Cp) : Array Value := #[.int .i64 c.tr, .bool c.op, .int .i64 c.di, .int .i64 c.wa, v]
def CpV (v : Value) (c : Cp) : Value := .agg (cpA v c)
def zeroCp : Array Value := #[.int .i64 0, .bool false, .int .i64 0, .int .i64 0, .slice none 0 0]
theorem zeroCp_one : zeroCp.all (·.oneCell') = true := by simp [zeroCp, Value.oneCell']
theorem Tryz.isCp : IsS 39 5 := ⟨⟨_, Tryz.underlying39⟩, by kernel_rfl⟩
theorem cpA_one {v : Value} (c : Cp) (hv : v.oneCell' = true) : (cpA v c).all (·.oneCell') = true := by
  unfold cpA
  simp [hv, show ∀ k n, (Value.int k n).oneCell' = true from fun _ _ => rfl, show ∀ b, (Value.bool b).oneCell' = true from fun _ => rfl]

set_option maxRecDepth 20000 in
set_option maxHeartbeats 1000000 in
theorem sturns_any (v : Value) (ts : List Int) (w : World) (hr : Reads w v ts) (hl : ts.length ≤ 1099511627776) :
    Calls Tryz.prog 90 #[v] w fun e w' => e = .returned (.bool (turnsI ts && inI ts.length 1 8)) ∧ w' = w := by
  have HE : Hid (∀ b : Bool, turnsI ts = b → (turnsI ts && inI ts.length 1 8) = (b && inI ts.length 1 8)) := fun b h => by rw [h]
  obtain ⟨ao, cap, rfl⟩ := reads_form hr
  obtain ⟨-, hc1, hc2, hcell⟩ := reads_cells hr
  have ck := fun x wx => sin6_any x 0 1000000000 wx
  have cl := fun wx => sin6_any (ts.length : Int) 1 8 wx
  obtain ⟨x, hx⟩ : ∃ x, x = (turnsI ts && inI ts.length 1 8) := ⟨_, rfl⟩
  simp only [← hx] at HE ⊢
  obtain ⟨y, hy⟩ : ∃ y, y = inI ts.length 1 8 := ⟨_, rfl⟩
  simp only [← hy] at HE cl
  obtain ⟨n, hn⟩ : ∃ n, n = ts.length := ⟨_, rfl⟩
  rw [← hn] at hl hc1 hcell
  simp only [← hn] at cl ⊢
  have HN : Hid (n = ts.length) := hn
  unfold maxLen at hc2
  clear hr hn hx hy
  go_enter Tryz.func90, Tryz.ntmps90
  go_wp2
  go_loop [3] (fun i => ∃ j : Nat, j ≤ n ∧ i = .int .i64 j ∧ Hid (turnsI (ts.take j) = true)) (fun i => n - (intOf i).toNat)
  case atStart => exact ⟨0, Nat.zero_le _, rfl, by simp [Hid, turnsI]⟩
  case round =>
    obtain ⟨j, hj, rfl, HT⟩ := hrel
    by_cases hlt : (j : Int) < (n : Int)
    · obtain ⟨b, off, rfl, hcj⟩ := hcell j (by omega)
      clear hcell cl
      have hjl : j < ts.length := by have := HN.out; omega
      have HA : Hid (inI (ts.getD j 0) 0 1000000000 = false → turnsI ts = false) := turns_not ts j hjl
      have HZ : Hid (inI (ts.getD j 0) 0 1000000000 = true → turnsI (ts.take (j + 1)) = true) := turns_take ts j hjl HT.out
      have ckj := fun wx => ck (ts.getD j 0) wx
      obtain ⟨z, hz⟩ : ∃ z, z = ts.getD j 0 := ⟨_, rfl⟩
      rw [← hz] at hcj HA HZ
      simp only [← hz] at ckj
      obtain ⟨bz, hbz⟩ : ∃ bz, bz = inI z 0 1000000000 := ⟨_, rfl⟩
      rw [← hbz] at HA HZ
      simp only [← hbz] at ckj
      clear hz hjl hbz ck
      go_wp2_with fail
      refine (ckj _).mono ?_
      rintro e w' ⟨rfl, hw⟩; subst w'
      cases bz with
      | true =>
        have HZ2 : Hid (turnsI (ts.take (j + 1)) = true) := HZ.out rfl
        clear HZ HA
        go_wp2
        go_round
        case rel => exact ⟨j + 1, by omega, by go_num, HZ2.out⟩
        case measure => simp [intOf]; omega
      | false =>
        have HX : Hid (x = false) := by rw [Hid, HE.out false (HA.out rfl)]; rfl
        clear HZ HA
        go_wp2
        go_ret
        rw [HX.out]
        exact ⟨rfl, rfl⟩
    · have HX : Hid (x = y) := by
        have := HT.out
        rw [List.take_of_length_le (by have := HN.out; omega)] at this
        rw [Hid, HE.out true this]; rfl
      clear HT ck
      go_wp2_with fail
      refine (cl _).mono ?_
      rintro e w' ⟨rfl, hw⟩; subst w'
      go_wp2
      go_ret
      rw [HX.out]
      exact ⟨rfl, rfl⟩

set_option maxRecDepth 20000 in
set_option maxHeartbeats 2000000 in
theorem scopok_any (v : Value) (c : Cp) (w : World) (hr : Reads w v c.ts) (hl : c.ts.length ≤ 1099511627776) :
    Calls Tryz.prog 48 #[CpV v c] w fun e w' => e = .returned (.bool c.ok) ∧ Below w.heap.size w w' := by
  have HE : Hid (c.ok = if c.tr = 0 then (!c.op && decide (c.di = 0) && decide (c.wa = 0) && decide (c.ts.length = 0)) else (inI c.tr 1 100000 && (turnsI c.ts && inI c.ts.length 1 8) && (inI c.di 0 (fullI c.ts.length) && inI c.wa 0 (fullI c.ts.length)))) := rfl
  obtain ⟨ao, cap, rfl⟩ := reads_form hr
  obtain ⟨w1, hw1⟩ : ∃ w1, w1 = w.alloc (.cells (cpA (.slice ao c.ts.length cap) c) 39) := ⟨_, rfl⟩
  have H1 : StB w1 w.heap.size 39 (cpA (.slice ao c.ts.length cap) c) := by rw [hw1]; exact StB.new _ _ _
  have HB : Hid (Below w.heap.size w w1) := by rw [hw1]; exact (Below.refl _ _).alloc (Nat.le_refl _) _
  have HW : Hid (w1 = w.alloc (.cells #[.int .i64 c.tr, .bool c.op, .int .i64 c.di, .int .i64 c.wa, .slice ao c.ts.length cap] 39)) := hw1
  have k0 : w1.cell? ⟨w.heap.size, 0, none⟩ = some (.int .i64 c.tr) := H1.cell 0 rfl
  have k1 : w1.cell? ⟨w.heap.size, 1, none⟩ = some (.bool c.op) := H1.cell 1 rfl
  have k2 : w1.cell? ⟨w.heap.size, 2, none⟩ = some (.int .i64 c.di) := H1.cell 2 rfl
  have k3 : w1.cell? ⟨w.heap.size, 3, none⟩ = some (.int .i64 c.wa) := H1.cell 3 rfl
  have k4 : w1.cell? ⟨w.heap.size, 4, none⟩ = some (.slice ao c.ts.length cap) := H1.cell 4 rfl
  have ct := fun wx => sin6_any c.tr 1 100000 wx
  have cs := sturns_any (.slice ao c.ts.length cap) c.ts w1 (hr.below HB.out (Nat.le_refl _)) hl
  have cf := fun wx => sfull_any (c.ts.length : Int) wx
  have cd := fun wx => sin6_any c.di 0 (fullI c.ts.length) wx
  have cw := fun wx => sin6_any c.wa 0 (fullI c.ts.length) wx
  obtain ⟨x, hx⟩ : ∃ x, x = c.ok := ⟨_, rfl⟩
  rw [← hx] at HE ⊢
  obtain ⟨bt, hbt⟩ : ∃ bt, bt = inI c.tr 1 100000 := ⟨_, rfl⟩
  rw [← hbt] at HE
  simp only [← hbt] at ct
  obtain ⟨bs, hbs⟩ : ∃ bs, bs = (turnsI c.ts && inI c.ts.length 1 8) := ⟨_, rfl⟩
  rw [← hbs] at HE
  simp only [← hbs] at cs
  obtain ⟨f, hf⟩ : ∃ f, f = fullI c.ts.length := ⟨_, rfl⟩
  rw [← hf] at HE
  simp only [← hf] at cf cd cw
  obtain ⟨bd, hbd⟩ : ∃ bd, bd = inI c.di 0 f := ⟨_, rfl⟩
  rw [← hbd] at HE
  simp only [← hbd] at cd
  obtain ⟨bw, hbw⟩ : ∃ bw, bw = inI c.wa 0 f := ⟨_, rfl⟩
  rw [← hbw] at HE
  simp only [← hbw] at cw
  obtain ⟨n, hn⟩ : ∃ n, n = c.ts.length := ⟨_, rfl⟩
  rw [← hn] at hl k4 HW HE cs
  simp only [← hn] at cf
  unfold CpV cpA
  rw [← hn]
  clear hw1 H1 hr hn hx hbt hbs hf hbd hbw
  by_cases ht : c.tr = 0
  · have HX : Hid (x = (!c.op && decide (c.di = 0) && decide (c.wa = 0) && decide (n = 0))) := by rw [Hid, HE.out, if_pos ht]
    clear HE ct cs cf cd cw
    have e1 : (c.tr == 0) = true := by simpa using ht
    have HX2 : Hid (x = (!c.op && (c.di == 0) && (c.wa == 0) && ((n : Int) == 0))) := by
      rw [Hid, HX.out]
      congr 1
      rw [Bool.eq_iff_iff]; simp
    clear HX
    cases ho : c.op with
    | true =>
      rw [ho] at HX2 HW k1
      go_enter Tryz.func48, Tryz.ntmps48
      go_wp2
      go_ret
      exact ⟨ret_bool (by rw [HX2.out]; rfl), (Below.refl _ _).alloc (Nat.le_refl _) _⟩
    | false =>
      rw [ho] at HX2 HW k1
      by_cases hd : c.di = 0
      · by_cases hw : c.wa = 0
        · by_cases hn0 : (n : Int) = 0
          · go_enter Tryz.func48, Tryz.ntmps48
            go_wp2
            go_ret
            exact ⟨ret_bool (by rw [HX2.out]; simp [hd, hw, hn0]), (Below.refl _ _).alloc (Nat.le_refl _) _⟩
          · go_enter Tryz.func48, Tryz.ntmps48
            go_wp2
            go_ret
            exact ⟨ret_bool (by rw [HX2.out]; simp [hd, hw]), (Below.refl _ _).alloc (Nat.le_refl _) _⟩
        · go_enter Tryz.func48, Tryz.ntmps48
          go_wp2
          go_ret
          exact ⟨ret_bool (by rw [HX2.out]; simp [hd, hw]), (Below.refl _ _).alloc (Nat.le_refl _) _⟩
      · go_enter Tryz.func48, Tryz.ntmps48
        go_wp2
        go_ret
        exact ⟨ret_bool (by rw [HX2.out]; simp [hd]), (Below.refl _ _).alloc (Nat.le_refl _) _⟩
  · have HX : Hid (x = (bt && bs && (bd && bw))) := by rw [Hid, HE.out, if_neg ht]
    have e1 : (c.tr == 0) = false := by simpa using ht
    clear HE
    go_enter Tryz.func48, Tryz.ntmps48
    go_wp2_with fail
    rw [← HW.out]
    refine (ct _).mono ?_
    rintro e w' ⟨rfl, hw⟩; subst w'
    clear ct
    cases bt with
    | false =>
      go_wp2
      go_ret
      exact ⟨ret_bool (by rw [HX.out]; rfl), HB.out⟩
    | true =>
      go_wp2_with fail
      refine cs.mono ?_
      rintro e w' ⟨rfl, hw⟩; subst w'
      clear cs
      cases bs with
      | false =>
        go_wp2
        go_ret
        exact ⟨ret_bool (by rw [HX.out]; rfl), HB.out⟩
      | true =>
        go_wp2_with fail
        refine (cf _).mono ?_
        rintro e w' ⟨rfl, hw⟩; subst w'
        clear cf
        go_wp2_with fail
        refine (cd _).mono ?_
        rintro e w' ⟨rfl, hw⟩; subst w'
        clear cd
        cases bd with
        | false =>
          go_wp2
          go_ret
          exact ⟨ret_bool (by rw [HX.out]; rfl), HB.out⟩
        | true =>
          go_wp2_with fail
          refine (cw _).mono ?_
          rintro e w' ⟨rfl, hw⟩; subst w'
          clear cw
          go_wp2
          go_ret
          exact ⟨ret_bool (by rw [HX.out]; rfl), HB.out⟩
end Go.Proofs.YtlkkpolnllbljaaGreatDoor
/- Sinks by the model: SinkOk, NewSink, l14Fits, Fits, l14Copy, Received. -/
namespace Go.Proofs.YtlkkpolnllbljaaGreatDoor
open Go.ChangeShapes Go.WideShapes Go.ChangeAt Go.RowKit

def snA (v : Value) (c : Sn) : Array Value := #[.int .i64 c.tr, v]
def SnV (v : Value) (c : Sn) : Value := .agg (snA v c)
def zeroSn : Array Value := #[.int .i64 0, .slice none 0 0]
theorem zeroSn_one : zeroSn.all (·.oneCell') = true := by simp [zeroSn, Value.oneCell']
theorem Tryz.isSn : IsS 40 2 := ⟨⟨_, Tryz.underlying40⟩, by kernel_rfl⟩
theorem snA_one {v : Value} (c : Sn) (hv : v.oneCell' = true) : (snA v c).all (·.oneCell') = true := by
  unfold snA
  simp [hv, show ∀ k n, (Value.int k n).oneCell' = true from fun _ _ => rfl]

set_option maxRecDepth 20000 in
set_option maxHeartbeats 1000000 in
theorem ssinkok_any (v : Value) (c : Sn) (w : World) (hr : Reads w v c.ts) (hl : c.ts.length ≤ 1099511627776) :
    Calls Tryz.prog 49 #[SnV v c] w fun e w' => e = .returned (.bool c.ok) ∧ Below w.heap.size w w' := by
  have HE : Hid (c.ok = if c.tr = 0 then decide (c.ts.length = 0) else (inI c.tr 1 100000 && (turnsI c.ts && inI c.ts.length 1 8))) := rfl
  obtain ⟨ao, cap, rfl⟩ := reads_form hr
  obtain ⟨w1, hw1⟩ : ∃ w1, w1 = w.alloc (.cells (snA (.slice ao c.ts.length cap) c) 40) := ⟨_, rfl⟩
  have H1 : StB w1 w.heap.size 40 (snA (.slice ao c.ts.length cap) c) := by rw [hw1]; exact StB.new _ _ _
  have HB : Hid (Below w.heap.size w w1) := by rw [hw1]; exact (Below.refl _ _).alloc (Nat.le_refl _) _
  have HW : Hid (w1 = w.alloc (.cells #[.int .i64 c.tr, .slice ao c.ts.length cap] 40)) := hw1
  have k0 : w1.cell? ⟨w.heap.size, 0, none⟩ = some (.int .i64 c.tr) := H1.cell 0 rfl
  have k1 : w1.cell? ⟨w.heap.size, 1, none⟩ = some (.slice ao c.ts.length cap) := H1.cell 1 rfl
  have ct := fun wx => sin6_any c.tr 1 100000 wx
  have cs := sturns_any (.slice ao c.ts.length cap) c.ts w1 (hr.below HB.out (Nat.le_refl _)) hl
  obtain ⟨x, hx⟩ : ∃ x, x = c.ok := ⟨_, rfl⟩
  rw [← hx] at HE ⊢
  obtain ⟨bt, hbt⟩ : ∃ bt, bt = inI c.tr 1 100000 := ⟨_, rfl⟩
  rw [← hbt] at HE
  simp only [← hbt] at ct
  obtain ⟨bs, hbs⟩ : ∃ bs, bs = (turnsI c.ts && inI c.ts.length 1 8) := ⟨_, rfl⟩
  rw [← hbs] at HE
  simp only [← hbs] at cs
  obtain ⟨n, hn⟩ : ∃ n, n = c.ts.length := ⟨_, rfl⟩
  rw [← hn] at hl k1 HW HE cs
  unfold SnV snA
  rw [← hn]
  clear hw1 H1 hr hn hx hbt hbs
  by_cases ht : c.tr = 0
  · have HX : Hid (x = ((n : Int) == 0)) := by
      rw [Hid, HE.out, if_pos ht, Bool.eq_iff_iff]; simp
    have e1 : (c.tr == 0) = true := by simpa using ht
    clear HE ct cs
    go_enter Tryz.func49, Tryz.ntmps49
    go_wp2
    go_ret
    exact ⟨ret_bool (by rw [HX.out]), (Below.refl _ _).alloc (Nat.le_refl _) _⟩
  · have HX : Hid (x = (bt && bs)) := by rw [Hid, HE.out, if_neg ht]
    have e1 : (c.tr == 0) = false := by simpa using ht
    clear HE
    go_enter Tryz.func49, Tryz.ntmps49
    go_wp2_with fail
    rw [← HW.out]
    refine (ct _).mono ?_
    rintro e w' ⟨rfl, hw⟩; subst w'
    clear ct
    cases bt with
    | false =>
      go_wp2
      go_ret
      exact ⟨ret_bool (by rw [HX.out]; rfl), HB.out⟩
    | true =>
      go_wp2_with fail
      refine cs.mono ?_
      rintro e w' ⟨rfl, hw⟩; subst w'
      clear cs
      go_wp2
      go_ret
      exact ⟨ret_bool (by rw [HX.out]; rfl), HB.out⟩

set_option maxRecDepth 20000 in
set_option maxHeartbeats 2000000 in
theorem scopyS_any (v : Value) (c : Sn) (w : World) (hr : Reads w v c.ts) (hl : c.ts.length ≤ 1099511627776) :
    Calls Tryz.prog 54 #[SnV v c] w fun e w' => ∃ u, e = .returned (SnV u c) ∧ Own w' w.heap.size u c.ts ∧ Below w.heap.size w w' := by
  obtain ⟨w1, hw1⟩ : ∃ w1, w1 = (w.alloc (.cells (snA v c) 40)).alloc (.cells zeroSn 40) := ⟨_, rfl⟩
  have p0 : StB w1 w.heap.size 40 (snA v c) := by rw [hw1]; exact (StB.new w _ _).alloc _
  have q0 : StB w1 (w.heap.size + 1) 40 zeroSn := by
    rw [hw1]
    have := StB.new (w.alloc (.cells (snA v c) 40)) 40 zeroSn
    rwa [World.size_alloc] at this
  have b1 : Below w.heap.size w w1 := by rw [hw1]; exact ((Below.refl _ _).alloc (Nat.le_refl _) _).alloc (by simp) _
  have c1 := copy_any v c.ts w1 (hr.below b1 (Nat.le_refl _)) hl
  have hs1 := q0.lt
  obtain ⟨ao, cap, rfl⟩ := reads_form hr
  have HW : Hid (w1 = (w.alloc (.cells #[.int .i64 c.tr, .slice ao c.ts.length cap] 40)).alloc (.cells #[.int .i64 0, .slice none 0 0] 40)) := hw1
  have k1 : w1.cell? ⟨w.heap.size, 1, none⟩ = some (.slice ao c.ts.length cap) := p0.cell 1 rfl
  clear hw1 hr hl
  unfold SnV snA
  go_enter Tryz.func54, Tryz.ntmps54
  go_wp2_with fail
  rw [← HW.out]
  clear HW
  refine c1.mono ?_
  rintro e w3 ⟨u, rfl, o3, b3⟩
  replace p0 := p0.below b3
  replace q0 := q0.below b3
  have B3 := b1.trans (b3.mono b1.size)
  obtain ⟨ab, cb, rfl⟩ := reads_form o3.reads
  have k0 : w3.cell? ⟨w.heap.size, 1, none⟩ = some (.slice ao c.ts.length cap) := p0.cell 1 rfl
  have f0 := p0.frozen 1
  have r4 := p0.put 1 (.slice ab c.ts.length cb) (ds := snA (.slice ab c.ts.length cb) c) rfl
  have q4 := q0.other ⟨w.heap.size, 1, none⟩ (.slice ab c.ts.length cb) (by simp)
  have HP : Hid (Own (w3.setCell ⟨w.heap.size, 1, none⟩ (.slice ab c.ts.length cb)) w1.heap.size (.slice ab c.ts.length cb) c.ts ∧ Below w.heap.size w (w3.setCell ⟨w.heap.size, 1, none⟩ (.slice ab c.ts.length cb))) := ⟨o3.setLt (by omega) 1 _, B3.setCell (Nat.le_refl _) _⟩
  clear k1 p0 q0 c1 o3 b3 b1 B3
  go_upto_region 2 with fail
  obtain ⟨w4, hw4⟩ : ∃ w4, w4 = w3.setCell ⟨w.heap.size, 1, none⟩ (.slice ab c.ts.length cb) := ⟨_, rfl⟩
  rw [← hw4] at r4 q4 HP ⊢
  clear hw4 k0 f0
  go_wp2_with (first | (refine wpList_getS Tryz.isSn rfl _ rfl w.heap.size rfl (snA (.slice ab c.ts.length cb) c) rfl r4 ?_) | (refine wpList_putS Tryz.isSn rfl _ _ rfl (w.heap.size + 1) (snA (.slice ab c.ts.length cb) c) zeroSn rfl rfl rfl rfl (snA_one c rfl) q4 ?_; intro w8 s8 g8))
  refine bodyPost_ret (results_S Tryz.isSn rfl _ _ (w.heap.size + 1) _ rfl rfl s8) rfl ?_
  exact ⟨_, rfl, (HP.out.1.keptLt g8 (by omega)).mono (by omega), HP.out.2.grown g8 HP.out.2.size (fun k e => by cases e; omega)⟩

end Go.Proofs.YtlkkpolnllbljaaGreatDoor
