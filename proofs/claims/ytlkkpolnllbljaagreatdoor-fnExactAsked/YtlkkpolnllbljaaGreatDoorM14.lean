/- What a house that hears something leaves, plainly. -/
import Derived.Test.YtlkkpolnllbljaaGreatDoorM13
import Derived.Test.YtlkkpolnllbljaaGreatDoorM12
import Derived.Test.YtlkkpolnllbljaaGreatDoorM5
import Derived.Test.YtlkkpolnllbljaaGreatDoorM3
import Derived.Test.YtlkkpolnllbljaaGreatDoorM8
import Derived.Test.YtlkkpolnllbljaaGreatDoorM11
namespace Go.Proofs.YtlkkpolnllbljaaGreatDoor
open Go.RowKit

/- What the law on hearing asks, of what comes of a message. -/
structure HearR (n : Nd) (m : Mg) (p : Nd × List Mg × Bool) : Prop where
  ok : NdR p.1
  ep : n.r.e ≤ p.1.r.e
  sn : n.r.n ≤ p.1.r.n
  td : p.1.r.t = n.r.t
  id : p.1.id = n.id
  one : p.2.1.length ≤ 1
  msg : ∀ x ∈ p.2.1, x.dst = 1 - n.id ∧ x.tr = m.tr ∧ p.1.up = true
  st : p.1.r.s ≠ n.r.s → (p.1.r.s = 1 ∧ n.r.s = 3 ∧ m.kd = 5 ∧ n.s.tr = m.tr ∧ p.1.r.e = m.ep + 1 ∧ p.1.xs = p.1.ys ∧ p.1.h = m.h) ∨ (p.1.r.s = 1 ∧ n.r.s = 2 ∧ m.kd = 8 ∧ m.tr = n.r.t) ∨ (p.1.r.s = 3 ∧ n.r.s = 2 ∧ m.kd = 6 ∧ m.tr = n.r.t)
  fr : (framesB p.1.log).1.length ≤ (framesB n.log).1.length + 1
  len : p.1.ys.length = n.ys.length
  no : p.2.2 = false → p = (n, [], false)
theorem HearR.same {n : Nd} (h : NdR n) (m : Mg) : HearR n m (n, [], false) :=
  ⟨h, Int.le_refl _, Int.le_refl _, rfl, rfl, by simp, by simp, fun e => absurd rfl e, by simp, rfl, fun _ => rfl⟩
/- The house is otherwise, but its record and its log. -/
theorem HearR.turned {n q : Nd} (m : Mg) (l : List Mg) (hq : NdR q) (hr : q.r = n.r) (hl : q.log = n.log) (hi : q.id = n.id) (hy : q.ys.length = n.ys.length) (h1 : l.length ≤ 1) (hm : ∀ x ∈ l, x.dst = 1 - n.id ∧ x.tr = m.tr ∧ q.up = true) : HearR n m (q, l, true) :=
  ⟨hq, by rw [hr]; exact Int.le_refl _, by rw [hr]; exact Int.le_refl _, by rw [hr], hi, h1, hm, fun e => absurd (by rw [hr]) e, by simp only [hl]; omega, hy, fun e => by cases e⟩
/- It fell in the midst of noting. -/
theorem HearR.fell {n q : Nd} (m : Mg) (hq : NdR q) (hr : q.r = n.r) (hf : (framesB q.log).1.length = (framesB n.log).1.length) (hi : q.id = n.id) (hy : q.ys.length = n.ys.length) : HearR n m (q, [], true) :=
  ⟨hq, by rw [hr]; exact Int.le_refl _, by rw [hr]; exact Int.le_refl _, by rw [hr], hi, by simp, by simp, fun e => absurd (by rw [hr]) e, by simp only; omega, hy, fun e => by cases e⟩
theorem back_all {n q : Nd} (m : Mg) (k : Int) (hu : q.up = true) : ∀ x ∈ [n.back m k], x.dst = 1 - n.id ∧ x.tr = m.tr ∧ q.up = true := by
  intro x hx
  simp only [List.mem_singleton] at hx
  subst hx
  exact ⟨rfl, rfl, hu⟩
theorem taken_all {n q : Nd} (m : Mg) (hu : q.up = true) : ∀ x ∈ [n.taken m], x.dst = 1 - n.id ∧ x.tr = m.tr ∧ q.up = true := by
  intro x hx
  simp only [List.mem_singleton] at hx
  subst hx
  exact ⟨rfl, rfl, hu⟩
theorem epI_iff (n : Int) : epI n = true ↔ 0 ≤ n ∧ n ≤ 100000 := by simp [epI]
theorem Mg.parts {m : Mg} (h : m.ok = true) : (0 ≤ m.tr ∧ m.tr ≤ 100000) ∧ (0 ≤ m.pl ∧ m.pl < 8) ∧ (0 ≤ m.tn ∧ m.tn ≤ 1000000000) ∧ valOk m.va = true ∧ (0 ≤ m.ep ∧ m.ep ≤ 100000) ∧ (1 ≤ m.kd ∧ m.kd ≤ 8) := by
  unfold Mg.ok at h
  simp only [Bool.and_eq_true, inI_iff, epI_iff] at h
  obtain ⟨⟨⟨⟨⟨⟨⟨h1, h2⟩, h3⟩, h4⟩, h5⟩, h6⟩, h7⟩, -⟩ := h
  simp [itemOk] at h4
  exact ⟨h3, h4, h5, h6, h7, h2⟩
theorem NdR.blocks {n : Nd} (h : NdR n) : 1 ≤ (n.ys.length : Int) ∧ (n.ys.length : Int) ≤ 8 := by
  have hb := h.dk
  unfold bothOk blocksOk lenOk at hb
  simp only [Bool.and_eq_true, decide_eq_true_eq] at hb
  omega
theorem NdR.begun {n : Nd} (h : NdR n) (hu : n.up = true) {m : Mg} (hm : m.ok = true) (torn : Int) (hf : (framesB n.log).1.length < 2000) : HearR n m (n.begun m torn) := by
  have hr := (Rc.ok_iff n.r).1 h.r
  have hp := Mg.parts hm
  have hbl := h.blocks
  unfold Nd.begun
  split
  · exact HearR.same h m
  · rename_i h3
    have h3' : n.r.s = 3 := by omega
    have hc0 : n.c.tr = 0 := by
      by_cases e : n.c.tr = 0
      · exact e
      · exact absurd h3' (h.cp e).1
    split
    · rename_i hlt
      have hq : (({ n.r with n := m.tr } : Rc)).ok = true := (Rc.ok_iff _).2 ⟨hr.1, hr.2.1, hr.2.2.1, hp.1⟩
      obtain ⟨p, hpp⟩ : ∃ p, p = n.note { n.r with n := m.tr } torn := ⟨_, rfl⟩
      simp only [← hpp]
      rcases h.note hu hq hf p hpp with ⟨e, hN, e1, e2, e3, e4, e5, e6, e7, e8⟩ | ⟨e, e1, e2, e3, e4⟩
      · rw [e]
        simp only [Bool.false_eq_true, if_false]
        exact HearR.fell m hN e2 e8 e4 e5
      · rw [e]
        simp only [if_true]
        rw [e1] at e2 e3 e4 ⊢
        have hmade : Cp.made n.ys.length m.tr = true := by
          unfold Cp.made
          rw [(inI_iff _ _ _).2 (by omega), (inI_iff _ _ _).2 (by omega)]
          rfl
        have hst : (Sn.new n.ys.length m.tr).tr = m.tr := by unfold Sn.new; rw [if_pos hmade]
        have hsl : (Sn.new n.ys.length m.tr).ts.length = n.ys.length := by unfold Sn.new; rw [if_pos hmade]; simp
        unfold Nd.ready
        rw [if_neg (by simp only [hst]; omega)]
        refine ⟨⟨h.id, h.dk, h.h, hq, e3, h.c, Sn.new_ok hmade, ?_, fun x => ?_, fun x => absurd hc0 x, fun _ => ⟨h3', hst, hsl⟩⟩, Int.le_refl _, ?_, rfl, rfl, by simp, ?_, fun x => absurd rfl x, ?_, rfl, fun x => by cases x⟩
        · show LogR _ _ n.up
          rw [hu]; exact e2
        · rw [hu] at x; cases x
        · show n.r.n ≤ m.tr
          omega
        · exact back_all (n := n) m 2 hu
        · show (framesB (n.log ++ _)).1.length ≤ _
          exact Nat.le_of_eq e4
    · unfold Nd.ready
      split
      · exact HearR.same h m
      · exact HearR.turned m _ h rfl rfl rfl rfl (by simp) (back_all m 2 hu)
theorem Cp.open_ok {c : Cp} (h : c.ok = true) (h0 : c.tr ≠ 0) : ({ c with op := true } : Cp).ok = true := by
  unfold Cp.ok at *
  rw [if_neg h0] at h
  rw [if_neg (by simpa using h0)]
  exact h
theorem NdR.opened {n : Nd} (h : NdR n) (hu : n.up = true) (m : Mg) : HearR n m (n.opened m) := by
  unfold Nd.opened
  split
  · exact HearR.same h m
  · rename_i e
    have h0 : n.c.tr ≠ 0 := fun x => e (.inl x)
    refine HearR.turned m [] ⟨h.id, h.dk, h.h, h.r, h.ll, Cp.open_ok h.c h0, h.s, h.lg, fun x => ?_, fun _ => h.cp h0, h.sk⟩ rfl rfl rfl rfl (by simp) (by simp)
    rw [hu] at x; cases x
theorem Sn.got_tr (s : Sn) (t i n : Int) : (s.got t i n).tr = s.tr ∧ (s.got t i n).ts.length = s.ts.length := by unfold Sn.got; split <;> simp
theorem NdR.copied {n : Nd} (h : NdR n) (hu : n.up = true) {m : Mg} (hm : m.ok = true) : HearR n m (n.copied m) := by
  have hp := Mg.parts hm
  obtain ⟨is, his⟩ : ∃ is, is = n.s.takes m.tr m.pl m.tn := ⟨_, rfl⟩
  obtain ⟨q, hq⟩ : ∃ q : Nd, q = (if is then { n with s := n.s.got m.tr m.pl m.tn, ys := n.ys.set m.pl.toNat m.va } else n) := ⟨_, rfl⟩
  have hN : NdR q ∧ q.r = n.r ∧ q.log = n.log ∧ q.id = n.id ∧ q.ys.length = n.ys.length ∧ q.up = true ∧ (is = false → q = n) := by
    rw [hq]
    cases e : is with
    | false => exact ⟨h, rfl, rfl, rfl, rfl, hu, fun _ => rfl⟩
    | true =>
      have ht := (Sn.takes_iff n.s m.tr m.pl m.tn).1 (by rw [← his, e])
      have hs0 : n.s.tr ≠ 0 := by omega
      have hsk := h.sk hs0
      have hj : m.pl.toNat < n.ys.length := by omega
      refine ⟨⟨h.id, put_ok h.dk hj hp.2.2.2.1, h.h, h.r, h.ll, h.c, Sn.got_ok h.s _ _ _, h.lg, fun x => ?_, fun x => ?_, fun _ => ⟨hsk.1, ?_, ?_⟩⟩, rfl, rfl, rfl, by simp, hu, fun x => by cases x⟩
      · rw [hu] at x; cases x
      · exact absurd hsk.1 (h.cp x).1
      · show (n.s.got _ _ _).tr = n.r.n
        rw [(Sn.got_tr _ _ _ _).1]; exact hsk.2.1
      · show (n.s.got _ _ _).ts.length = (n.ys.set _ _).length
        rw [(Sn.got_tr _ _ _ _).2, List.length_set]; exact hsk.2.2
  unfold Nd.copied
  simp only [← his, ← hq]
  obtain ⟨h1, h2, h3, h4, h5, h6, h7⟩ := hN
  split
  · cases e : is with
    | false => rw [h7 e]; exact HearR.same h m
    | true => exact HearR.turned m [] h1 h2 h3 h4 h5 (by simp) (by simp)
  · refine HearR.turned m _ h1 h2 h3 h4 h5 (by simp) ?_
    intro x hx
    simp only [List.mem_singleton] at hx
    subst hx
    exact ⟨rfl, rfl, h6⟩
theorem ack_to' (c : Cp) (i t : Int) : (c.ack i t).tr = c.tr ∧ (c.ack i t).ts = c.ts := by unfold Cp.ack; split <;> exact ⟨rfl, rfl⟩
theorem NdR.acked {n : Nd} (h : NdR n) (hu : n.up = true) (m : Mg) : HearR n m (n.acked m) := by
  unfold Nd.acked
  split
  · rename_i e
    cases ea : n.c.acks m.pl m.tn with
    | false =>
      have : n.c.ack m.pl m.tn = n.c := by unfold Cp.ack; rw [ea]; rfl
      rw [this]
      exact HearR.same h m
    | true =>
      have hcp := h.cp e.1
      have ht := ack_to' n.c m.pl m.tn
      refine HearR.turned m [] ⟨h.id, h.dk, h.h, h.r, h.ll, Cp.ack_ok h.c _ _, h.s, h.lg, fun x => ?_, fun _ => ⟨hcp.1, ?_, ?_⟩, h.sk⟩ rfl rfl rfl rfl (by simp) (by simp)
      · rw [hu] at x; cases x
      · show (n.c.ack _ _).tr = _
        rw [ht.1]; exact hcp.2.1
      · show (n.c.ack _ _).ts.length = _
        rw [ht.2]; exact hcp.2.2
  · exact HearR.same h m
theorem NdR.handed {n : Nd} (h : NdR n) (hu : n.up = true) {m : Mg} (hm : m.ok = true) (hk : m.kd = 5) (torn : Int) (hf : (framesB n.log).1.length < 2000) : HearR n m (n.handed m torn) := by
  have hr := (Rc.ok_iff n.r).1 h.r
  have hp := Mg.parts hm
  unfold Nd.handed
  split
  · exact HearR.same h m
  · rename_i hh
    have hho : m.h.ok = true := by
      cases e : m.h.ok with
      | true => rfl
      | false => exact absurd (.inl e) hh
    have hep : m.ep ≠ 100000 := fun e => hh (.inr e)
    split
    · rename_i hs
      have hsk := h.sk hs.1
      have hc0 : n.c.tr = 0 := by
        by_cases e : n.c.tr = 0
        · exact e
        · exact absurd hsk.1 (h.cp e).1
      have hq : (({ n.r with e := m.ep + 1, s := 1 } : Rc)).ok = true := (Rc.ok_iff _).2 ⟨by simp only; omega, by simp, hr.2.2.1, hr.2.2.2⟩
      have h' : NdR ({ n with xs := n.ys, h := m.h } : Nd) := ⟨h.id, both_same h.dk, hho, h.r, h.ll, h.c, h.s, h.lg, h.dn, h.cp, h.sk⟩
      obtain ⟨p, hpp⟩ : ∃ p, p = ({ n with xs := n.ys, h := m.h } : Nd).note { n.r with e := m.ep + 1, s := 1 } torn := ⟨_, rfl⟩
      simp only [← hpp]
      rcases h'.note hu hq hf p hpp with ⟨e, hN, e1, e2, e3, e4, e5, e6, e7, e8⟩ | ⟨e, e1, e2, e3, e4⟩
      · rw [e]
        simp only [Bool.false_eq_true, if_false]
        exact HearR.fell m hN e2 e8 e4 e5
      · rw [e]
        simp only [if_true]
        rw [e1] at e2 e3 e4 ⊢
        refine ⟨⟨h.id, both_same h.dk, hho, hq, e3, h.c, Sn.zero_ok, ?_, fun x => ?_, fun x => absurd hc0 x, fun x => absurd rfl x⟩, ?_, Int.le_refl _, rfl, rfl, by simp, taken_all m hu, fun _ => .inl ⟨rfl, hsk.1, hk, hs.2.1, rfl, rfl, rfl⟩, ?_, rfl, fun x => by cases x⟩
        · show LogR _ _ n.up
          rw [hu]; exact e2
        · rw [hu] at x; cases x
        · show n.r.e ≤ m.ep + 1
          omega
        · show (framesB (n.log ++ _)).1.length ≤ _
          exact Nat.le_of_eq e4
    · split
      · exact HearR.turned m _ h rfl rfl rfl rfl (by simp) (taken_all m hu)
      · exact HearR.same h m
theorem NdR.gone {n : Nd} (h : NdR n) (hu : n.up = true) {m : Mg} (hm : m.ok = true) (hk : m.kd = 6) (torn : Int) (hf : (framesB n.log).1.length < 2000) : HearR n m (n.gone m torn) := by
  have hr := (Rc.ok_iff n.r).1 h.r
  have hp := Mg.parts hm
  unfold Nd.gone
  split
  · rename_i hmi
    have hmi' := hmi.1
    unfold Nd.mine at hmi'
    simp only [Bool.and_eq_true, decide_eq_true_eq] at hmi'
    have hs0 : n.s.tr = 0 := by
      by_cases e : n.s.tr = 0
      · exact e
      · have := (h.sk e).1; omega
    have hq : (({ n.r with e := m.ep, s := 3 } : Rc)).ok = true := (Rc.ok_iff _).2 ⟨hp.2.2.2.2.1, by simp, hr.2.2.1, hr.2.2.2⟩
    obtain ⟨p, hpp⟩ : ∃ p, p = n.note { n.r with e := m.ep, s := 3 } torn := ⟨_, rfl⟩
    simp only [← hpp]
    rcases h.note hu hq hf p hpp with ⟨e, hN, e1, e2, e3, e4, e5, e6, e7, e8⟩ | ⟨e, e1, e2, e3, e4⟩
    · rw [e]
      simp only [Bool.false_eq_true, if_false]
      exact HearR.fell m hN e2 e8 e4 e5
    · rw [e]
      simp only [if_true]
      rw [e1] at e2 e3 e4 ⊢
      refine ⟨⟨h.id, h.dk, h.h, hq, e3, Cp.zero_ok, h.s, ?_, fun x => ?_, fun x => absurd rfl x, fun x => absurd hs0 x⟩, ?_, Int.le_refl _, rfl, rfl, by simp, by simp, fun _ => .inr (.inr ⟨rfl, hmi'.1, hk, hmi'.2.symm⟩), ?_, rfl, fun x => by cases x⟩
      · show LogR _ _ n.up
        rw [hu]; exact e2
      · rw [hu] at x; cases x
      · show n.r.e ≤ m.ep
        have := hmi.2
        omega
      · show (framesB (n.log ++ _)).1.length ≤ _
        exact Nat.le_of_eq e4
  · exact HearR.same h m
theorem NdR.kept {n : Nd} (h : NdR n) (hu : n.up = true) {m : Mg} (hk : m.kd = 8) (torn : Int) (hf : (framesB n.log).1.length < 2000) : HearR n m (n.kept m torn) := by
  have hr := (Rc.ok_iff n.r).1 h.r
  unfold Nd.kept
  split
  · rename_i hmi
    have hmi' := hmi
    unfold Nd.mine at hmi'
    simp only [Bool.and_eq_true, decide_eq_true_eq] at hmi'
    have hs0 : n.s.tr = 0 := by
      by_cases e : n.s.tr = 0
      · exact e
      · have := (h.sk e).1; omega
    have hq : (({ n.r with s := 1 } : Rc)).ok = true := (Rc.ok_iff _).2 ⟨hr.1, by simp, hr.2.2.1, hr.2.2.2⟩
    obtain ⟨p, hpp⟩ : ∃ p, p = n.note { n.r with s := 1 } torn := ⟨_, rfl⟩
    simp only [← hpp]
    rcases h.note hu hq hf p hpp with ⟨e, hN, e1, e2, e3, e4, e5, e6, e7, e8⟩ | ⟨e, e1, e2, e3, e4⟩
    · rw [e]
      simp only [Bool.false_eq_true, if_false]
      exact HearR.fell m hN e2 e8 e4 e5
    · rw [e]
      simp only [if_true]
      rw [e1] at e2 e3 e4 ⊢
      refine ⟨⟨h.id, h.dk, h.h, hq, e3, Cp.zero_ok, h.s, ?_, fun x => ?_, fun x => absurd rfl x, fun x => absurd hs0 x⟩, Int.le_refl _, Int.le_refl _, rfl, rfl, by simp, by simp, fun _ => .inr (.inl ⟨rfl, hmi'.1, hk, hmi'.2.symm⟩), ?_, rfl, fun x => by cases x⟩
      · show LogR _ _ n.up
        rw [hu]; exact e2
      · rw [hu] at x; cases x
      · show (framesB (n.log ++ _)).1.length ≤ _
        exact Nat.le_of_eq e4
  · exact HearR.same h m
theorem NdR.cancelled {n : Nd} (h : NdR n) (hu : n.up = true) {m : Mg} (hm : m.ok = true) (torn : Int) (hf : (framesB n.log).1.length < 2000) : HearR n m (n.cancelled m torn) := by
  have hr := (Rc.ok_iff n.r).1 h.r
  have hp := Mg.parts hm
  have h0 : NdR ({ n with s := Sn.zero } : Nd) := ⟨h.id, h.dk, h.h, h.r, h.ll, h.c, Sn.zero_ok, h.lg, fun x => ⟨(h.dn x).1, rfl⟩, h.cp, fun x => absurd rfl x⟩
  unfold Nd.cancelled
  split
  · exact HearR.turned m _ h rfl rfl rfl rfl (by simp) (taken_all m hu)
  · split
    · exact HearR.same h m
    · rename_i h3
      have h3' : n.r.s = 3 := by omega
      split
      · rename_i hlt
        have hq : (({ n.r with n := m.tr } : Rc)).ok = true := (Rc.ok_iff _).2 ⟨hr.1, hr.2.1, hr.2.2.1, hp.1⟩
        obtain ⟨p, hpp⟩ : ∃ p, p = ({ n with s := Sn.zero } : Nd).note { n.r with n := m.tr } torn := ⟨_, rfl⟩
        simp only [← hpp]
        rcases h0.note hu hq hf p hpp with ⟨e, hN, e1, e2, e3, e4, e5, e6, e7, e8⟩ | ⟨e, e1, e2, e3, e4⟩
        · rw [e]
          simp only [Bool.false_eq_true, if_false]
          exact HearR.fell m hN e2 e8 e4 e5
        · rw [e]
          simp only [if_true]
          rw [e1] at e2 e3 e4 ⊢
          refine ⟨⟨h.id, h.dk, h.h, hq, e3, h.c, Sn.zero_ok, ?_, fun x => ?_, fun x => absurd h3' (h.cp x).1, fun x => absurd rfl x⟩, Int.le_refl _, ?_, rfl, rfl, by simp, back_all m 8 hu, fun x => absurd rfl x, ?_, rfl, fun x => by cases x⟩
          · show LogR _ _ n.up
            rw [hu]; exact e2
          · rw [hu] at x; cases x
          · show n.r.n ≤ m.tr
            omega
          · show (framesB (n.log ++ _)).1.length ≤ _
            exact Nat.le_of_eq e4
      · split
        · exact HearR.turned m _ h0 rfl rfl rfl rfl (by simp) (back_all m 8 hu)
        · exact HearR.turned m _ h rfl rfl rfl rfl (by simp) (back_all m 8 hu)
theorem NdR.hear {n : Nd} (h : NdR n) (m : Mg) (torn : Int) (hf : (framesB n.log).1.length < 2000) : HearR n m (n.hear m torn) := by
  unfold Nd.hear
  split
  · exact HearR.same h m
  · rename_i e
    have hu : n.up = true := by
      cases x : n.up with
      | true => rfl
      | false => exact absurd (.inl x) e
    have hm : m.ok = true := by
      cases x : m.ok with
      | true => rfl
      | false => exact absurd (.inr (.inl x)) e
    have hk := (Mg.parts hm).2.2.2.2.2
    split
    · exact h.begun hu hm torn hf
    · split
      · exact h.opened hu m
      · split
        · exact h.copied hu hm
        · split
          · exact h.acked hu m
          · split
            · rename_i k5; exact h.handed hu hm k5 torn hf
            · split
              · rename_i k6; exact h.gone hu hm k6 torn hf
              · split
                · exact h.cancelled hu hm torn hf
                · exact h.kept hu (by omega) torn hf
end Go.Proofs.YtlkkpolnllbljaaGreatDoor
/- Copiers by the model, behind a pointer: l13Next, l13Ack, l13Again. -/
namespace Go.Proofs.YtlkkpolnllbljaaGreatDoor
open Go.ChangeShapes Go.WideShapes Go.ChangeAt Go.RowKit

theorem Turned.drew {w w' : World} {bs : List Nat} (h : Turned w w' bs) : Turned w w'.drew bs := h.then (Turned.below _ (Below.refl _ _).drew)
theorem CpB.drew {w : World} {g off : Nat} {t : TypeId} {cs : Array Value} {v : Value} {c : Cp} (h : CpB w g off t cs v c) : CpB w.drew g off t cs v c := h.below (Below.refl _ _).drew
/- The turn of one that is there: its cell, and what is put there. -/
theorem CpB.turn {w : World} {g off : Nat} {t : TypeId} {cs : Array Value} {v : Value} {c : Cp} (h : CpB w g off t cs v c) (j : Nat) (hj : j < c.ts.length) :
    ∃ q cap, v = .slice (some ⟨q, 0, none⟩) c.ts.length cap ∧ q ≠ g ∧ c.ts.length ≤ cap ∧ cap ≤ maxLen ∧ w.cell? ⟨q, j, none⟩ = some (.int .i64 (c.ts.getD j 0)) ∧ w.frozen? ⟨q, j, none⟩ = false ∧
      ∀ x : Int, CpB (w.setCell ⟨q, j, none⟩ (.int .i64 x)) g off t cs v { c with ts := c.ts.set j x } ∧ Turned w (w.setCell ⟨q, j, none⟩ (.int .i64 x)) (g :: v.ownBlock.toList) := by
  obtain ⟨ao, cap, rfl⟩ := reads_form h.own.reads
  obtain ⟨-, hc1, hc2, hcell⟩ := reads_cells h.own.reads
  obtain ⟨q, rfl⟩ : ∃ q, ao = some ⟨q, 0, none⟩ := by
    rcases h.own.2 with e | ⟨q, cap', cur, e, _⟩
    · have e1 : c.ts.length = 0 := e.2
      omega
    · simp only [Value.slice.injEq] at e
      exact ⟨q, e.1⟩
  obtain ⟨b, o, e, hx⟩ := hcell j hj
  simp only [Option.some.injEq, Addr.mk.injEq] at e
  obtain ⟨rfl, rfl, -⟩ := e
  rw [Nat.zero_add] at hx
  have hne : q ≠ g := fun e => h.ne (by rw [← e]; rfl)
  refine ⟨q, cap, rfl, hne, hc1, hc2, hx, (h.own.put rfl j hj 0).1, fun x => ?_⟩
  have o := (h.own.put rfl j hj x).2.2
  exact ⟨⟨h.st.other _ _ (fun e => hne e.symm), h.i0, h.i1, h.i2, h.i3, h.i4, o, h.ne⟩, (Turned.of_grown (grownSet w q j _)).sub (by simp [Value.ownBlock])⟩
end Go.Proofs.YtlkkpolnllbljaaGreatDoor
/- Copiers by the model: Marked, Next, Acked, Again, Clean, NewCopier. -/
namespace Go.Proofs.YtlkkpolnllbljaaGreatDoor
open Go.ChangeShapes Go.WideShapes Go.ChangeAt Go.RowKit

end Go.Proofs.YtlkkpolnllbljaaGreatDoor
/- A new copier by the model. -/
namespace Go.Proofs.YtlkkpolnllbljaaGreatDoor
open Go.ChangeShapes Go.WideShapes Go.ChangeAt Go.RowKit

set_option maxRecDepth 20000 in
set_option maxHeartbeats 400000 in
theorem upon_makeI {o : Oper} {a : Act} {w : World} {K : Act → World → Prop} {Q : Exit → Act → World → Prop} (k : Nat) (hk : k ≤ 1000)
    (h : ∀ w', Own w' w.heap.size (.slice (some ⟨w.heap.size, 0, none⟩) k k) (List.replicate k 0) → w.grownBy w' none → Oper.upon Tryz.prog o a K Q (.ok (.value (.slice (some ⟨w.heap.size, 0, none⟩) k k)) w')) :
    Oper.upon Tryz.prog o a K Q (((Instr.makeSlice 22 (.int .i64 (k : Int)) (.int .i64 (k : Int))).run Tryz.prog w).andThen fun v w' => .ok (.value v) w') := by
  obtain ⟨i0, hi, hz0, hz1, hz2⟩ := info_parts Tryz.infoI
  obtain ⟨w', hrun, h1, h2⟩ := run_makeSlice_full (P := Tryz.prog) w w.heap.size 22 2 i0 (.int .i64 0) 1 Tryz.underlying22 hi hz0 hz1 .i64 .i64 k (by omega) (by rw [hz2]; omega) (by unfold maxLen; omega) (Nat.le_refl _)
  rw [hrun]
  refine h w' ?_ h2
  have e := zeros_eq k
  rw [Nat.mul_one] at h1
  rw [show Value.cells (.int .i64 0) = #[.int .i64 0] from rfl, e] at h1
  unfold Own
  simpa using h1
theorem made_own {w w1 w2 : World} {v : Value} {xs : List Int} (HB : Below w.heap.size w w1) (hlt : w.heap.size < w1.heap.size) (o2 : Own w2 w1.drew.heap.size v xs) (g2 : w1.drew.grownBy w2 none) : Own w2 (w.heap.size + 1) v xs ∧ Below w.heap.size w w2 :=
  ⟨o2.mono hlt, HB.grown (show w1.grownBy w2 none from ⟨g2.os, g2.tape, g2.output, g2.size, g2.block⟩) HB.size (fun k e => by cases e)⟩
def putC5 (w : World) (g : Nat) (v : Value) (c : Cp) : World := ((((w.setCell ⟨g, 0, none⟩ (.int .i64 c.tr)).setCell ⟨g, 1, none⟩ (.bool c.op)).setCell ⟨g, 2, none⟩ (.int .i64 c.di)).setCell ⟨g, 3, none⟩ (.int .i64 c.wa)).setCell ⟨g, 4, none⟩ v
theorem putC5_st {w : World} {g : Nat} {t : TypeId} (v : Value) (c : Cp) (h : StB w g t zeroCp) : StB (putC5 w g v c) g t (cpA v c) :=
  ((((h.put 0 _ rfl).put 1 _ rfl).put 2 _ rfl).put 3 _ rfl).put 4 _ rfl
theorem putC5_grown (w : World) (g : Nat) (v : Value) (c : Cp) : w.grownBy (putC5 w g v c) (some g) :=
  ((((grownSet w g 0 _).trans (grownSet _ g 1 _)).trans (grownSet _ g 2 _)).trans (grownSet _ g 3 _)).trans (grownSet _ g 4 _)
end Go.Proofs.YtlkkpolnllbljaaGreatDoor
/- The program's numbers of copiers and sinks: how many, which try, which turn, a row of turns. -/
namespace Go.Proofs.YtlkkpolnllbljaaGreatDoor
open Go.ChangeShapes Go.WideShapes Go.ChangeAt Go.RowKit

set_option maxRecDepth 20000 in
set_option maxHeartbeats 400000 in
theorem icount_any (x : Int) (w : World) :
    Calls Tryz.prog 191 #[.int .i64 x] w fun e w' => e = .returned (.bool (inI x 1 8)) ∧ w' = w := by
  by_cases h0 : 1 ≤ x
  · by_cases h1 : x ≤ 8
    · rw [show inI x 1 8 = true by simp [inI, h0, h1]]
      go_enter Tryz.func191, Tryz.ntmps191
      go_wp2
      go_ret
      exact ⟨ret_bool (by simp), rfl⟩
    · rw [show inI x 1 8 = false by simp [inI]; omega]
      go_enter Tryz.func191, Tryz.ntmps191
      go_wp2
      go_ret
      exact ⟨ret_bool (by simp), rfl⟩
  · rw [show inI x 1 8 = false by simp [inI]; omega]
    go_enter Tryz.func191, Tryz.ntmps191
    go_wp2
    go_ret
    exact ⟨ret_bool (by simp), rfl⟩

set_option maxRecDepth 20000 in
set_option maxHeartbeats 400000 in
theorem itry_any (x : Int) (w : World) :
    Calls Tryz.prog 151 #[.int .i64 x] w fun e w' => e = .returned (.bool (inI x 1 100000)) ∧ w' = w := by
  by_cases h0 : 1 ≤ x
  · by_cases h1 : x ≤ 100000
    · rw [show inI x 1 100000 = true by simp [inI, h0, h1]]
      go_enter Tryz.func151, Tryz.ntmps151
      go_wp2
      go_ret
      exact ⟨ret_bool (by simp), rfl⟩
    · rw [show inI x 1 100000 = false by simp [inI]; omega]
      go_enter Tryz.func151, Tryz.ntmps151
      go_wp2
      go_ret
      exact ⟨ret_bool (by simp), rfl⟩
  · rw [show inI x 1 100000 = false by simp [inI]; omega]
    go_enter Tryz.func151, Tryz.ntmps151
    go_wp2
    go_ret
    exact ⟨ret_bool (by simp), rfl⟩

set_option maxRecDepth 20000 in
set_option maxHeartbeats 400000 in
theorem iturnC_any (x : Int) (w : World) :
    Calls Tryz.prog 184 #[.int .i64 x] w fun e w' => e = .returned (.bool (inI x 0 1000000000)) ∧ w' = w := by
  by_cases h0 : 0 ≤ x
  · by_cases h1 : x ≤ 1000000000
    · rw [show inI x 0 1000000000 = true by simp [inI, h0, h1]]
      go_enter Tryz.func184, Tryz.ntmps184
      go_wp2
      go_ret
      exact ⟨ret_bool (by simp), rfl⟩
    · rw [show inI x 0 1000000000 = false by simp [inI]; omega]
      go_enter Tryz.func184, Tryz.ntmps184
      go_wp2
      go_ret
      exact ⟨ret_bool (by simp), rfl⟩
  · rw [show inI x 0 1000000000 = false by simp [inI]; omega]
    go_enter Tryz.func184, Tryz.ntmps184
    go_wp2
    go_ret
    exact ⟨ret_bool (by simp), rfl⟩

set_option maxRecDepth 20000 in
set_option maxHeartbeats 1000000 in
theorem iturns_any (v : Value) (ts : List Int) (w : World) (hr : Reads w v ts) (hl : ts.length ≤ 1099511627776) :
    Calls Tryz.prog 152 #[v] w fun e w' => e = .returned (.bool (turnsI ts && inI ts.length 1 8)) ∧ w' = w := by
  have HE : Hid (∀ b : Bool, turnsI ts = b → (turnsI ts && inI ts.length 1 8) = (b && inI ts.length 1 8)) := fun b h => by rw [h]
  have HF : Hid (inI ts.length 1 8 = false → (turnsI ts && inI ts.length 1 8) = false) := fun h => by rw [h, Bool.and_false]
  obtain ⟨ao, cap, rfl⟩ := reads_form hr
  obtain ⟨-, hc1, hc2, hcell⟩ := reads_cells hr
  have ck := fun x wx => iturnC_any x wx
  have cl := fun wx => icount_any (ts.length : Int) wx
  obtain ⟨x, hx⟩ : ∃ x, x = (turnsI ts && inI ts.length 1 8) := ⟨_, rfl⟩
  simp only [← hx] at HE HF ⊢
  obtain ⟨y, hy⟩ : ∃ y, y = inI ts.length 1 8 := ⟨_, rfl⟩
  simp only [← hy] at HE HF cl
  obtain ⟨n, hn⟩ : ∃ n, n = ts.length := ⟨_, rfl⟩
  rw [← hn] at hl hc1 hcell
  simp only [← hn] at cl ⊢
  have HN : Hid (n = ts.length) := hn
  unfold maxLen at hc2
  clear hr hn hx hy
  go_enter Tryz.func152, Tryz.ntmps152
  go_wp2_with fail
  refine (cl _).mono ?_
  rintro e w' ⟨rfl, hw⟩; subst w'
  clear cl
  cases y with
  | false =>
    have HX : Hid (x = false) := HF.out rfl
    clear HE HF
    go_wp2
    go_ret
    rw [HX.out]
    exact ⟨rfl, rfl⟩
  | true =>
    clear HF
    go_wp2
    go_loop [11] (fun i => ∃ j : Nat, j ≤ n ∧ i = .int .i64 j ∧ Hid (turnsI (ts.take j) = true)) (fun i => n - (intOf i).toNat)
    case atStart => exact ⟨0, Nat.zero_le _, rfl, by simp [Hid, turnsI]⟩
    case round =>
      obtain ⟨j, hj, rfl, HT⟩ := hrel
      by_cases hlt : (j : Int) < (n : Int)
      · obtain ⟨b, off, rfl, hcj⟩ := hcell j (by omega)
        clear hcell
        have hjl : j < ts.length := by have := HN.out; omega
        have HA : Hid (inI (ts.getD j 0) 0 1000000000 = false → turnsI ts = false) := turns_not ts j hjl
        have HZ : Hid (inI (ts.getD j 0) 0 1000000000 = true → turnsI (ts.take (j + 1)) = true) := turns_take ts j hjl HT.out
        have ckj := fun wx => ck (ts.getD j 0) wx
        obtain ⟨z, hz⟩ : ∃ z, z = ts.getD j 0 := ⟨_, rfl⟩
        rw [← hz] at hcj HA HZ
        simp only [← hz] at ckj
        obtain ⟨bz, hbz⟩ : ∃ bz, bz = inI z 0 1000000000 := ⟨_, rfl⟩
        rw [← hbz] at HA HZ
        simp only [← hbz] at ckj
        clear hz hjl hbz ck
        go_wp2_with fail
        refine (ckj _).mono ?_
        rintro e w' ⟨rfl, hw⟩; subst w'
        cases bz with
        | true =>
          have HZ2 : Hid (turnsI (ts.take (j + 1)) = true) := HZ.out rfl
          clear HZ HA
          go_wp2
          go_round
          case rel => exact ⟨j + 1, by omega, by go_num, HZ2.out⟩
          case measure => simp [intOf]; omega
        | false =>
          have HX : Hid (x = false) := by rw [Hid, HE.out false (HA.out rfl)]; rfl
          clear HZ HA
          go_wp2
          go_ret
          rw [HX.out]
          exact ⟨rfl, rfl⟩
      · have HX : Hid (x = true) := by
          have := HT.out
          rw [List.take_of_length_le (by have := HN.out; omega)] at this
          rw [Hid, HE.out true this]; rfl
        clear HT ck
        go_wp2
        go_ret
        rw [HX.out]
        exact ⟨rfl, rfl⟩
end Go.Proofs.YtlkkpolnllbljaaGreatDoor
/- The program's copiers: what is right (CopierOk), what is clean (Clean), which blocks there are. -/
namespace Go.Proofs.YtlkkpolnllbljaaGreatDoor
open Go.ChangeShapes Go.WideShapes Go.ChangeAt Go.RowKit

set_option maxRecDepth 20000 in
set_option maxHeartbeats 400000 in
theorem isomany_any (s : Int) (n : Nat) (w : World) :
    Calls Tryz.prog 153 #[.int .i64 s, .int .i64 n] w fun e w' => e = .returned (.bool (inI s 0 (fullI n))) ∧ w' = w := by
  have c1 := full_any n w
  have HI : Hid (inI s 0 (fullI n) = (decide (0 ≤ s) && decide (s ≤ fullI n))) := rfl
  obtain ⟨f, hf⟩ : ∃ f, f = fullI n := ⟨_, rfl⟩
  rw [← hf] at c1 HI ⊢
  obtain ⟨x, hx⟩ : ∃ x, x = inI s 0 f := ⟨_, rfl⟩
  rw [← hx] at HI ⊢
  clear hf hx
  by_cases h0 : 0 ≤ s
  · go_enter Tryz.func153, Tryz.ntmps153
    go_wp2_with fail
    refine c1.mono ?_
    rintro e w' ⟨rfl, hw⟩; subst w'
    clear c1
    go_wp2
    go_ret
    exact ⟨ret_bool (by rw [HI.out]; simp [h0]), rfl⟩
  · clear c1
    go_enter Tryz.func153, Tryz.ntmps153
    go_wp2
    go_ret
    exact ⟨ret_bool (by rw [HI.out, show decide (0 ≤ s) = false from decide_eq_false (by omega), Bool.false_and]), rfl⟩

def Cp.unused (c : Cp) : Bool := decide (c.tr = 0) && !c.op && decide (c.di = 0) && decide (c.wa = 0) && decide (c.ts.length = 0)
theorem Cp.ok_unused {c : Cp} (h : c.unused = true) : c.ok = true := by
  unfold Cp.unused at h
  unfold Cp.ok
  simp only [Bool.and_eq_true, decide_eq_true_eq] at h
  obtain ⟨⟨⟨⟨h1, h2⟩, h3⟩, h4⟩, h5⟩ := h
  rw [if_pos h1, h2]
  simp [h3, h4, h5]
theorem Cp.ok_used {c : Cp} (h : c.unused = false) : c.ok = (inI c.tr 1 100000 && (turnsI c.ts && inI c.ts.length 1 8) && inI c.di 0 (fullI c.ts.length) && inI c.wa 0 (fullI c.ts.length)) := by
  unfold Cp.ok Cp.mid
  by_cases e : c.tr = 0
  · rw [if_pos e]
    unfold Cp.unused at h
    rw [decide_eq_true e, Bool.true_and] at h
    rw [h]
    have : inI c.tr 1 100000 = false := by rw [e]; decide
    rw [this]
    rfl
  · rw [if_neg e]
    simp only [Bool.and_assoc]

set_option maxRecDepth 20000 in
set_option maxHeartbeats 1000000 in
theorem iunused_any (v : Value) (c : Cp) (w : World) (hr : Reads w v c.ts) :
    Calls Tryz.prog 107 #[CpV v c] w fun e w' => e = .returned (.bool c.unused) ∧ Below w.heap.size w w' := by
  have HE : Hid (c.unused = (decide (c.tr = 0) && !c.op && decide (c.di = 0) && decide (c.wa = 0) && decide (c.ts.length = 0))) := rfl
  obtain ⟨ao, cap, rfl⟩ := reads_form hr
  obtain ⟨x, hx⟩ : ∃ x, x = c.unused := ⟨_, rfl⟩
  rw [← hx] at HE ⊢
  obtain ⟨n, hn⟩ : ∃ n, n = c.ts.length := ⟨_, rfl⟩
  unfold CpV cpA
  rw [← hn] at HE ⊢
  clear hr hx hn
  by_cases ht : c.tr = 0
  · have e1 : (c.tr == 0) = true := by simpa using ht
    cases ho : c.op with
    | true =>
      rw [ho] at HE
      go_enter Tryz.func107, Tryz.ntmps107
      go_wp2
      go_ret
      exact ⟨ret_bool (by rw [HE.out]; simp), (Below.refl _ _).alloc (Nat.le_refl _) _⟩
    | false =>
      rw [ho] at HE
      by_cases hd : c.di = 0
      · have e2 : (c.di == 0) = true := by simpa using hd
        by_cases hw : c.wa = 0
        · have e3 : (c.wa == 0) = true := by simpa using hw
          by_cases hn0 : (n : Int) = 0
          · have e4 : ((n : Int) == 0) = true := by simpa using hn0
            go_enter Tryz.func107, Tryz.ntmps107
            go_wp2
            go_ret
            exact ⟨ret_bool (by rw [HE.out]; simp [ht, hd, hw, (by omega : n = 0)]), (Below.refl _ _).alloc (Nat.le_refl _) _⟩
          · have e4 : ((n : Int) == 0) = false := by simpa using hn0
            go_enter Tryz.func107, Tryz.ntmps107
            go_wp2
            go_ret
            exact ⟨ret_bool (by rw [HE.out, show decide (n = 0) = false from decide_eq_false (by omega), Bool.and_false]), (Below.refl _ _).alloc (Nat.le_refl _) _⟩
        · have e3 : (c.wa == 0) = false := by simpa using hw
          go_enter Tryz.func107, Tryz.ntmps107
          go_wp2
          go_ret
          exact ⟨ret_bool (by rw [HE.out]; simp [hw]), (Below.refl _ _).alloc (Nat.le_refl _) _⟩
      · have e2 : (c.di == 0) = false := by simpa using hd
        go_enter Tryz.func107, Tryz.ntmps107
        go_wp2
        go_ret
        exact ⟨ret_bool (by rw [HE.out]; simp [hd]), (Below.refl _ _).alloc (Nat.le_refl _) _⟩
  · have e1 : (c.tr == 0) = false := by simpa using ht
    go_enter Tryz.func107, Tryz.ntmps107
    go_wp2
    go_ret
    exact ⟨ret_bool (by rw [HE.out]; simp [ht]), (Below.refl _ _).alloc (Nat.le_refl _) _⟩

set_option maxRecDepth 20000 in
set_option maxHeartbeats 1000000 in
theorem ihas_any (v : Value) (c : Cp) (i : Int) (w : World) (hr : Reads w v c.ts) :
    Calls Tryz.prog 123 #[CpV v c, .int .i64 i] w fun e w' => e = .returned (.bool (c.has i)) ∧ Below w.heap.size w w' := by
  have HE : Hid (c.has i = (decide (0 ≤ i) && decide (i < (c.ts.length : Int)))) := rfl
  obtain ⟨ao, cap, rfl⟩ := reads_form hr
  obtain ⟨x, hx⟩ : ∃ x, x = c.has i := ⟨_, rfl⟩
  rw [← hx] at HE ⊢
  unfold CpV cpA
  clear hr hx
  by_cases h0 : 0 ≤ i
  · by_cases h1 : i < (c.ts.length : Int)
    · go_enter Tryz.func123, Tryz.ntmps123
      go_wp2
      go_ret
      exact ⟨ret_bool (by rw [HE.out]; simp [h0, h1]), (Below.refl _ _).alloc (Nat.le_refl _) _⟩
    · go_enter Tryz.func123, Tryz.ntmps123
      go_wp2
      go_ret
      exact ⟨ret_bool (by rw [HE.out]; simp [h1]), (Below.refl _ _).alloc (Nat.le_refl _) _⟩
  · have HF : Hid (x = false) := by rw [Hid, HE.out]; simp [h0]
    go_enter Tryz.func123, Tryz.ntmps123
    go_wp2
    go_ret
    exact ⟨ret_bool (by rw [HF.out]), (Below.refl _ _).alloc (Nat.le_refl _) _⟩

set_option maxRecDepth 20000 in
set_option maxHeartbeats 2000000 in
theorem icopok_any (v : Value) (c : Cp) (w : World) (hr : Reads w v c.ts) (hl : c.ts.length ≤ 1099511627776) :
    Calls Tryz.prog 108 #[CpV v c] w fun e w' => e = .returned (.bool c.ok) ∧ Below w.heap.size w w' := by
  have HU : Hid (c.unused = true → c.ok = true) := Cp.ok_unused
  have HE : Hid (c.unused = false → c.ok = (inI c.tr 1 100000 && (turnsI c.ts && inI c.ts.length 1 8) && inI c.di 0 (fullI c.ts.length) && inI c.wa 0 (fullI c.ts.length))) := Cp.ok_used
  obtain ⟨w1, hw1⟩ : ∃ w1, w1 = w.alloc (.cells (cpA v c) 39) := ⟨_, rfl⟩
  have H1 : StB w1 w.heap.size 39 (cpA v c) := by rw [hw1]; exact StB.new _ _ _
  have B1 : Below w.heap.size w w1 := by rw [hw1]; exact (Below.refl _ _).alloc (Nat.le_refl _) _
  have cu := iunused_any v c w1 (hr.below B1 (Nat.le_refl _))
  have HR : Hid (∀ w2, Below w1.heap.size w1 w2 → Reads w2 v c.ts) := fun w2 b => (hr.below B1 (Nat.le_refl _)).below b (Nat.le_refl _)
  have HS : Hid (∀ w2, Below w1.heap.size w1 w2 → StB w2 w.heap.size 39 (cpA v c) ∧ Below w.heap.size w w2) := fun w2 b => ⟨H1.below b, B1.trans (b.mono B1.size)⟩
  obtain ⟨ao, cap, rfl⟩ := reads_form hr
  have HW : Hid (w1 = w.alloc (.cells #[.int .i64 c.tr, .bool c.op, .int .i64 c.di, .int .i64 c.wa, .slice ao c.ts.length cap] 39)) := hw1
  have k0 : w1.cell? ⟨w.heap.size, 0, none⟩ = some (.int .i64 c.tr) := H1.cell 0 rfl
  have k1 : w1.cell? ⟨w.heap.size, 1, none⟩ = some (.bool c.op) := H1.cell 1 rfl
  have k2 : w1.cell? ⟨w.heap.size, 2, none⟩ = some (.int .i64 c.di) := H1.cell 2 rfl
  have k3 : w1.cell? ⟨w.heap.size, 3, none⟩ = some (.int .i64 c.wa) := H1.cell 3 rfl
  have k4 : w1.cell? ⟨w.heap.size, 4, none⟩ = some (.slice ao c.ts.length cap) := H1.cell 4 rfl
  have ct := fun wx => itry_any c.tr wx
  have cs := fun wx h => iturns_any (.slice ao c.ts.length cap) c.ts wx h hl
  have cd := fun wx => isomany_any c.di c.ts.length wx
  have cw := fun wx => isomany_any c.wa c.ts.length wx
  obtain ⟨x, hx⟩ : ∃ x, x = c.ok := ⟨_, rfl⟩
  rw [← hx] at HE HU ⊢
  obtain ⟨bu, hbu⟩ : ∃ bu, bu = c.unused := ⟨_, rfl⟩
  rw [← hbu] at HE HU cu
  obtain ⟨bt, hbt⟩ : ∃ bt, bt = inI c.tr 1 100000 := ⟨_, rfl⟩
  rw [← hbt] at HE
  simp only [← hbt] at ct
  obtain ⟨bs, hbs⟩ : ∃ bs, bs = (turnsI c.ts && inI c.ts.length 1 8) := ⟨_, rfl⟩
  rw [← hbs] at HE
  simp only [← hbs] at cs
  obtain ⟨bd, hbd⟩ : ∃ bd, bd = inI c.di 0 (fullI c.ts.length) := ⟨_, rfl⟩
  rw [← hbd] at HE
  simp only [← hbd] at cd
  obtain ⟨bw, hbw⟩ : ∃ bw, bw = inI c.wa 0 (fullI c.ts.length) := ⟨_, rfl⟩
  rw [← hbw] at HE
  simp only [← hbw] at cw
  have HCS : Hid _ := cs
  unfold CpV cpA at cu ⊢
  clear hw1 H1 hr hx hbu hbt hbs hbd hbw B1 cs
  go_enter Tryz.func108, Tryz.ntmps108
  go_wp2_with fail
  rw [← HW.out]
  refine cu.mono ?_
  rintro e w2 ⟨rfl, b2⟩
  clear HW cu k0 k1 k2 k3 k4
  have HB : Hid (Below w.heap.size w w2) := (HS.out w2 b2).2
  have H2 := (HS.out w2 b2).1
  have cs := HCS.out w2 (HR.out w2 b2)
  have k0 : w2.cell? ⟨w.heap.size, 0, none⟩ = some (.int .i64 c.tr) := H2.cell 0 rfl
  have k2 : w2.cell? ⟨w.heap.size, 2, none⟩ = some (.int .i64 c.di) := H2.cell 2 rfl
  have k3 : w2.cell? ⟨w.heap.size, 3, none⟩ = some (.int .i64 c.wa) := H2.cell 3 rfl
  have k4 : w2.cell? ⟨w.heap.size, 4, none⟩ = some (.slice ao c.ts.length cap) := H2.cell 4 rfl
  clear HCS HS HR H2 b2
  cases bu with
  | true =>
    have HX : Hid (x = true) := HU.out rfl
    clear HU HE
    go_wp2
    go_ret
    exact ⟨ret_bool (by rw [HX.out]), HB.out⟩
  | false =>
    have HX : Hid (x = (bt && bs && bd && bw)) := HE.out rfl
    clear HU HE
    go_wp2_with fail
    refine (ct _).mono ?_
    rintro e w' ⟨rfl, hw⟩; subst w'
    clear ct
    cases bt with
    | false =>
      go_wp2
      go_ret
      exact ⟨ret_bool (by rw [HX.out]; rfl), HB.out⟩
    | true =>
      go_wp2_with fail
      refine cs.mono ?_
      rintro e w' ⟨rfl, hw⟩; subst w'
      clear cs
      cases bs with
      | false =>
        go_wp2
        go_ret
        exact ⟨ret_bool (by rw [HX.out]; rfl), HB.out⟩
      | true =>
        go_wp2_with fail
        refine (cd _).mono ?_
        rintro e w' ⟨rfl, hw⟩; subst w'
        clear cd
        cases bd with
        | false =>
          go_wp2
          go_ret
          exact ⟨ret_bool (by rw [HX.out]; rfl), HB.out⟩
        | true =>
          go_wp2_with fail
          refine (cw _).mono ?_
          rintro e w' ⟨rfl, hw⟩; subst w'
          clear cw
          go_wp2
          go_ret
          exact ⟨ret_bool (by rw [HX.out]; rfl), HB.out⟩
end Go.Proofs.YtlkkpolnllbljaaGreatDoor
