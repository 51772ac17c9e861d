/- What a house that does something leaves, plainly. -/
import Derived.Test.YtkenbanaodbooaaGreatDoorM13
namespace Go.Proofs.YtkenbanaodbooaaGreatDoor
open Go.RowKit

/- What the law on telling asks, of what is done. -/
structure TellR (n : Nd) (p : Nd × List Mg × Bool) : Prop where
  ok : NdR p.1
  ep : p.1.r.e = n.r.e
  sn : p.1.r.n = n.r.n
  td : n.r.t ≤ p.1.r.t
  id : p.1.id = n.id
  one : p.2.1.length ≤ 1
  msg : ∀ m ∈ p.2.1, m.dst = 1 - n.id ∧ m.tr = p.1.r.t ∧ p.1.up = true ∧ (m.kd = 3 → m.va = n.ys.getD m.pl.toNat 0 ∧ m.tn = p.1.c.ts.getD m.pl.toNat 0 ∧ 0 ≤ m.pl ∧ m.pl < (n.ys.length : Int) ∧ n.ys.length = p.1.c.ts.length)
  st : p.1.r.s ≠ n.r.s → p.1.r.s = 2 ∧ n.r.s = 1 ∧ n.c.clean = true ∧ p.1.xs = p.1.ys
  fr : (framesB p.1.log).1.length ≤ (framesB n.log).1.length + 1
  len : p.1.ys.length = n.ys.length
  no : p.2.2 = false → p = (n, [], false)
theorem both_same {xs ys : List Int} (h : bothOk xs ys = true) : bothOk ys ys = true := by
  unfold bothOk at h ⊢
  simp only [Bool.and_eq_true, decide_eq_true_eq] at h ⊢
  exact ⟨h.2.1, h.2.1, trivial⟩
theorem TellR.same {n : Nd} (h : NdR n) : TellR n (n, [], false) :=
  ⟨h, rfl, rfl, Int.le_refl _, rfl, by simp, by simp, fun e => absurd rfl e, by simp, rfl, fun _ => rfl⟩
theorem TellR.say {n : Nd} (h : NdR n) (hu : n.up = true) (m : Mg) (h1 : m.dst = 1 - n.id) (h2 : m.tr = n.r.t) (h3 : m.kd ≠ 3) : TellR n (n, [m], true) :=
  ⟨h, rfl, rfl, Int.le_refl _, rfl, by simp, by
    intro x hx
    simp only [List.mem_singleton] at hx
    subst hx
    exact ⟨h1, h2, hu, fun e => absurd e h3⟩, fun e => absurd rfl e, by simp, rfl, fun e => by cases e⟩
theorem next_to' (c : Cp) : c.next.tr = c.tr ∧ c.next.ts.length = c.ts.length := by unfold Cp.next; split <;> simp
theorem NdR.move {n : Nd} (h : NdR n) (hu : n.up = true) (torn : Int) (hs : n.r.s = 1) (ht : n.r.t < 100000) (hf : (framesB n.log).1.length < 2000) : TellR n (n.move torn) := by
  have hr := (Rc.ok_iff n.r).1 h.r
  have hq : (({ n.r with t := n.r.t + 1 } : Rc)).ok = true := (Rc.ok_iff _).2 ⟨hr.1, hr.2.1, by simp only; omega, hr.2.2.2⟩
  obtain ⟨p, hp⟩ : ∃ p, p = n.note { n.r with t := n.r.t + 1 } torn := ⟨_, rfl⟩
  have hsk : n.s.tr = 0 := by
    by_cases e : n.s.tr = 0
    · exact e
    · have := (h.sk e).1; omega
  have hb := h.dk
  unfold bothOk blocksOk lenOk at hb
  simp only [Bool.and_eq_true, decide_eq_true_eq] at hb
  have hmade : Cp.made n.ys.length (n.r.t + 1) = true := by
    unfold Cp.made
    rw [(inI_iff _ _ _).2 (by omega), (inI_iff _ _ _).2 (by omega)]
    rfl
  unfold Nd.move
  simp only [← hp]
  rcases h.note hu hq hf p hp with ⟨e, hN, e1, e2, e3, e4, e5, e6, e7, e8⟩ | ⟨e, e1, e2, e3, e4⟩
  · rw [e]
    simp only [Bool.false_eq_true, if_false]
    exact ⟨hN, by rw [e2], by rw [e2], by rw [e2]; exact Int.le_refl _, e4, by simp, by simp, fun x => absurd (by rw [e2]) x, Nat.le_trans (Nat.le_of_eq e8) (Nat.le_succ _), e5, fun x => by cases x⟩
  · rw [e]
    simp only [if_true]
    have hcl : (Cp.new n.ys.length (n.r.t + 1)).ts.length = n.ys.length := by unfold Cp.new; rw [if_pos hmade]; simp
    have hct : (Cp.new n.ys.length (n.r.t + 1)).tr = n.r.t + 1 := by unfold Cp.new; rw [if_pos hmade]
    rw [e1] at e2 e3 e4 ⊢
    refine ⟨⟨h.id, h.dk, h.h, hq, e3, Cp.new_ok _ _ hmade, h.s, ?_, fun x => ?_, fun _ => ⟨?_, hct, hcl⟩, fun x => absurd hsk x⟩, rfl, rfl, ?_, rfl, by simp, ?_, fun x => absurd rfl x, ?_, rfl, fun x => by cases x⟩
    · show LogR _ _ n.up
      rw [hu]; exact e2
    · rw [hu] at x; cases x
    · show n.r.s ≠ 3
      omega
    · show n.r.t ≤ n.r.t + 1
      omega
    · intro m hm
      simp only [List.mem_singleton] at hm
      subst hm
      exact ⟨rfl, rfl, hu, fun x => by simp [Nd.msg] at x⟩
    · show (framesB (n.log ++ _)).1.length ≤ _
      exact Nat.le_of_eq e4
theorem NdR.give {n : Nd} (h : NdR n) (hu : n.up = true) (torn : Int) (hs : n.r.s = 1) (hcl : n.c.clean = true) (hf : (framesB n.log).1.length < 2000) : TellR n (n.give torn) := by
  have hr := (Rc.ok_iff n.r).1 h.r
  have hq : (({ n.r with s := 2 } : Rc)).ok = true := (Rc.ok_iff _).2 ⟨hr.1, by simp only; omega, hr.2.2.1, hr.2.2.2⟩
  have h' : NdR ({ n with xs := n.ys } : Nd) := ⟨h.id, both_same h.dk, h.h, h.r, h.ll, h.c, h.s, h.lg, h.dn, h.cp, h.sk⟩
  have hsk : n.s.tr = 0 := by
    by_cases e : n.s.tr = 0
    · exact e
    · have := (h.sk e).1; omega
  obtain ⟨p, hp⟩ : ∃ p, p = ({ n with xs := n.ys } : Nd).note { n.r with s := 2 } torn := ⟨_, rfl⟩
  unfold Nd.give
  simp only [← hp]
  rcases h'.note hu hq hf p hp with ⟨e, hN, e1, e2, e3, e4, e5, e6, e7, e8⟩ | ⟨e, e1, e2, e3, e4⟩
  · rw [e]
    simp only [Bool.false_eq_true, if_false]
    exact ⟨hN, by rw [e2], by rw [e2], by rw [e2]; exact Int.le_refl _, e4, by simp, by simp, fun x => absurd (by rw [e2]) x, Nat.le_trans (Nat.le_of_eq e8) (Nat.le_succ _), e5, fun x => by cases x⟩
  · rw [e]
    simp only [if_true]
    rw [e1] at e2 e3 e4 ⊢
    refine ⟨⟨h.id, both_same h.dk, h.h, hq, e3, h.c, h.s, ?_, fun x => ?_, fun x => ?_, fun x => absurd hsk x⟩, rfl, rfl, Int.le_refl _, rfl, by simp, ?_, fun _ => ⟨rfl, hs, hcl, rfl⟩, ?_, rfl, fun x => by cases x⟩
    · show LogR _ _ n.up
      rw [hu]; exact e2
    · rw [hu] at x; cases x
    · have := h.cp x
      exact ⟨by simp, this.2.1, this.2.2⟩
    · intro m hm
      simp only [List.mem_singleton] at hm
      subst hm
      exact ⟨rfl, rfl, hu, fun x => by simp [Nd.hand, Nd.msg] at x⟩
    · show (framesB (n.log ++ _)).1.length ≤ _
      exact Nat.le_of_eq e4
theorem NdR.copy {n : Nd} (h : NdR n) (hu : n.up = true) (hc : n.c.tr ≠ 0) : TellR n n.copy := by
  unfold Nd.copy
  split
  · exact TellR.same h
  · rename_i hx
    have hcp := h.cp hc
    have hg : n.c.goes = true := by
      cases e : n.c.goes with
      | true => rfl
      | false => unfold Cp.nx at hx; rw [e] at hx; simp at hx
    have hnx : n.c.nx = firstI n.c.di := by unfold Cp.nx; rw [if_pos hg]
    have hft := (Cp.fit h.c).first
    have hnt := next_to' n.c
    refine ⟨⟨h.id, h.dk, h.h, h.r, h.ll, Cp.next_ok h.c, h.s, h.lg, fun x => ?_, fun _ => ⟨hcp.1, ?_, ?_⟩, h.sk⟩, rfl, rfl, Int.le_refl _, rfl, by simp, ?_, fun x => absurd rfl x, by simp, rfl, fun x => by cases x⟩
    · rw [hu] at x; cases x
    · show n.c.next.tr = n.r.t
      rw [hnt.1]; exact hcp.2.1
    · show n.c.next.ts.length = n.ys.length
      rw [hnt.2]; exact hcp.2.2
    · intro m hm
      simp only [List.mem_singleton] at hm
      subst hm
      refine ⟨rfl, rfl, hu, fun _ => ⟨rfl, rfl, ?_, ?_, ?_⟩⟩
      · show 0 ≤ n.c.nx
        omega
      · show n.c.nx < (n.ys.length : Int)
        rw [hnx, ← hcp.2.2]; exact hft
      · show n.ys.length = n.c.next.ts.length
        rw [hnt.2, hcp.2.2]
theorem NdR.tell {n : Nd} (h : NdR n) (k torn : Int) (hf : (framesB n.log).1.length < 2000) : TellR n (n.tell k torn) := by
  unfold Nd.tell
  split
  · exact TellR.same h
  · rename_i hu'
    have hu : n.up = true := by simpa using hu'
    split
    · rename_i e; exact h.move hu torn e.2.1 e.2.2.2 hf
    · split
      · rename_i e
        split
        · have hcp := h.cp e.2
          refine ⟨⟨h.id, h.dk, h.h, h.r, h.ll, Cp.again_ok h.c, h.s, h.lg, fun x => ?_, fun _ => hcp, h.sk⟩, rfl, rfl, Int.le_refl _, rfl, by simp, by simp, fun x => absurd rfl x, by simp, rfl, fun x => by cases x⟩
          rw [hu] at x; cases x
        · exact TellR.say h hu _ rfl rfl (by simp [Nd.msg])
      · split
        · rename_i e; exact h.copy hu e.2
        · split
          · rename_i e; exact h.give hu torn e.2.1 e.2.2.2 hf
          · split
            · exact TellR.say h hu _ rfl rfl (by simp [Nd.hand, Nd.msg])
            · split
              · exact TellR.say h hu _ rfl rfl (by simp [Nd.msg])
              · split
                · refine ⟨⟨h.id, h.dk, h.h, h.r, h.ll, Cp.zero_ok, h.s, h.lg, fun x => ?_, fun x => absurd rfl x, h.sk⟩, rfl, rfl, Int.le_refl _, rfl, by simp, by simp, fun x => absurd rfl x, by simp, rfl, fun x => by cases x⟩
                  rw [hu] at x; cases x
                · exact TellR.same h
end Go.Proofs.YtkenbanaodbooaaGreatDoor
/- What a house that hears something leaves, plainly. -/
namespace Go.Proofs.YtkenbanaodbooaaGreatDoor
open Go.RowKit

/- What the law on hearing asks, of what comes of a message. -/
structure HearR (n : Nd) (m : Mg) (p : Nd × List Mg × Bool) : Prop where
  ok : NdR p.1
  ep : n.r.e ≤ p.1.r.e
  sn : n.r.n ≤ p.1.r.n
  td : p.1.r.t = n.r.t
  id : p.1.id = n.id
  one : p.2.1.length ≤ 1
  msg : ∀ x ∈ p.2.1, x.dst = 1 - n.id ∧ x.tr = m.tr ∧ p.1.up = true
  st : p.1.r.s ≠ n.r.s → (p.1.r.s = 1 ∧ n.r.s = 3 ∧ m.kd = 5 ∧ n.s.tr = m.tr ∧ p.1.r.e = m.ep + 1 ∧ p.1.xs = p.1.ys ∧ p.1.h = m.h) ∨ (p.1.r.s = 1 ∧ n.r.s = 2 ∧ m.kd = 8 ∧ m.tr = n.r.t) ∨ (p.1.r.s = 3 ∧ n.r.s = 2 ∧ m.kd = 6 ∧ m.tr = n.r.t)
  fr : (framesB p.1.log).1.length ≤ (framesB n.log).1.length + 1
  len : p.1.ys.length = n.ys.length
  no : p.2.2 = false → p = (n, [], false)
theorem HearR.same {n : Nd} (h : NdR n) (m : Mg) : HearR n m (n, [], false) :=
  ⟨h, Int.le_refl _, Int.le_refl _, rfl, rfl, by simp, by simp, fun e => absurd rfl e, by simp, rfl, fun _ => rfl⟩
/- The house is otherwise, but its record and its log. -/
theorem HearR.turned {n q : Nd} (m : Mg) (l : List Mg) (hq : NdR q) (hr : q.r = n.r) (hl : q.log = n.log) (hi : q.id = n.id) (hy : q.ys.length = n.ys.length) (h1 : l.length ≤ 1) (hm : ∀ x ∈ l, x.dst = 1 - n.id ∧ x.tr = m.tr ∧ q.up = true) : HearR n m (q, l, true) :=
  ⟨hq, by rw [hr]; exact Int.le_refl _, by rw [hr]; exact Int.le_refl _, by rw [hr], hi, h1, hm, fun e => absurd (by rw [hr]) e, by simp only [hl]; omega, hy, fun e => by cases e⟩
/- It fell in the midst of noting. -/
theorem HearR.fell {n q : Nd} (m : Mg) (hq : NdR q) (hr : q.r = n.r) (hf : (framesB q.log).1.length = (framesB n.log).1.length) (hi : q.id = n.id) (hy : q.ys.length = n.ys.length) : HearR n m (q, [], true) :=
  ⟨hq, by rw [hr]; exact Int.le_refl _, by rw [hr]; exact Int.le_refl _, by rw [hr], hi, by simp, by simp, fun e => absurd (by rw [hr]) e, by simp only; omega, hy, fun e => by cases e⟩
theorem back_all {n q : Nd} (m : Mg) (k : Int) (hu : q.up = true) : ∀ x ∈ [n.back m k], x.dst = 1 - n.id ∧ x.tr = m.tr ∧ q.up = true := by
  intro x hx
  simp only [List.mem_singleton] at hx
  subst hx
  exact ⟨rfl, rfl, hu⟩
theorem taken_all {n q : Nd} (m : Mg) (hu : q.up = true) : ∀ x ∈ [n.taken m], x.dst = 1 - n.id ∧ x.tr = m.tr ∧ q.up = true := by
  intro x hx
  simp only [List.mem_singleton] at hx
  subst hx
  exact ⟨rfl, rfl, hu⟩
theorem epI_iff (n : Int) : epI n = true ↔ 0 ≤ n ∧ n ≤ 100000 := by simp [epI]
theorem Mg.parts {m : Mg} (h : m.ok = true) : (0 ≤ m.tr ∧ m.tr ≤ 100000) ∧ (0 ≤ m.pl ∧ m.pl < 8) ∧ (0 ≤ m.tn ∧ m.tn ≤ 1000000000) ∧ valOk m.va = true ∧ (0 ≤ m.ep ∧ m.ep ≤ 100000) ∧ (1 ≤ m.kd ∧ m.kd ≤ 8) := by
  unfold Mg.ok at h
  simp only [Bool.and_eq_true, inI_iff, epI_iff] at h
  obtain ⟨⟨⟨⟨⟨⟨⟨h1, h2⟩, h3⟩, h4⟩, h5⟩, h6⟩, h7⟩, -⟩ := h
  simp [itemOk] at h4
  exact ⟨h3, h4, h5, h6, h7, h2⟩
theorem NdR.blocks {n : Nd} (h : NdR n) : 1 ≤ (n.ys.length : Int) ∧ (n.ys.length : Int) ≤ 8 := by
  have hb := h.dk
  unfold bothOk blocksOk lenOk at hb
  simp only [Bool.and_eq_true, decide_eq_true_eq] at hb
  omega
theorem NdR.begun {n : Nd} (h : NdR n) (hu : n.up = true) {m : Mg} (hm : m.ok = true) (torn : Int) (hf : (framesB n.log).1.length < 2000) : HearR n m (n.begun m torn) := by
  have hr := (Rc.ok_iff n.r).1 h.r
  have hp := Mg.parts hm
  have hbl := h.blocks
  unfold Nd.begun
  split
  · exact HearR.same h m
  · rename_i h3
    have h3' : n.r.s = 3 := by omega
    have hc0 : n.c.tr = 0 := by
      by_cases e : n.c.tr = 0
      · exact e
      · exact absurd h3' (h.cp e).1
    split
    · rename_i hlt
      have hq : (({ n.r with n := m.tr } : Rc)).ok = true := (Rc.ok_iff _).2 ⟨hr.1, hr.2.1, hr.2.2.1, hp.1⟩
      obtain ⟨p, hpp⟩ : ∃ p, p = n.note { n.r with n := m.tr } torn := ⟨_, rfl⟩
      simp only [← hpp]
      rcases h.note hu hq hf p hpp with ⟨e, hN, e1, e2, e3, e4, e5, e6, e7, e8⟩ | ⟨e, e1, e2, e3, e4⟩
      · rw [e]
        simp only [Bool.false_eq_true, if_false]
        exact HearR.fell m hN e2 e8 e4 e5
      · rw [e]
        simp only [if_true]
        rw [e1] at e2 e3 e4 ⊢
        have hmade : Cp.made n.ys.length m.tr = true := by
          unfold Cp.made
          rw [(inI_iff _ _ _).2 (by omega), (inI_iff _ _ _).2 (by omega)]
          rfl
        have hst : (Sn.new n.ys.length m.tr).tr = m.tr := by unfold Sn.new; rw [if_pos hmade]
        have hsl : (Sn.new n.ys.length m.tr).ts.length = n.ys.length := by unfold Sn.new; rw [if_pos hmade]; simp
        unfold Nd.ready
        rw [if_neg (by simp only [hst]; omega)]
        refine ⟨⟨h.id, h.dk, h.h, hq, e3, h.c, Sn.new_ok hmade, ?_, fun x => ?_, fun x => absurd hc0 x, fun _ => ⟨h3', hst, hsl⟩⟩, Int.le_refl _, ?_, rfl, rfl, by simp, ?_, fun x => absurd rfl x, ?_, rfl, fun x => by cases x⟩
        · show LogR _ _ n.up
          rw [hu]; exact e2
        · rw [hu] at x; cases x
        · show n.r.n ≤ m.tr
          omega
        · exact back_all (n := n) m 2 hu
        · show (framesB (n.log ++ _)).1.length ≤ _
          exact Nat.le_of_eq e4
    · unfold Nd.ready
      split
      · exact HearR.same h m
      · exact HearR.turned m _ h rfl rfl rfl rfl (by simp) (back_all m 2 hu)
theorem Cp.open_ok {c : Cp} (h : c.ok = true) (h0 : c.tr ≠ 0) : ({ c with op := true } : Cp).ok = true := by
  unfold Cp.ok at *
  rw [if_neg h0] at h
  rw [if_neg (by simpa using h0)]
  exact h
theorem NdR.opened {n : Nd} (h : NdR n) (hu : n.up = true) (m : Mg) : HearR n m (n.opened m) := by
  unfold Nd.opened
  split
  · exact HearR.same h m
  · rename_i e
    have h0 : n.c.tr ≠ 0 := fun x => e (.inl x)
    refine HearR.turned m [] ⟨h.id, h.dk, h.h, h.r, h.ll, Cp.open_ok h.c h0, h.s, h.lg, fun x => ?_, fun _ => h.cp h0, h.sk⟩ rfl rfl rfl rfl (by simp) (by simp)
    rw [hu] at x; cases x
theorem Sn.got_tr (s : Sn) (t i n : Int) : (s.got t i n).tr = s.tr ∧ (s.got t i n).ts.length = s.ts.length := by unfold Sn.got; split <;> simp
theorem NdR.copied {n : Nd} (h : NdR n) (hu : n.up = true) {m : Mg} (hm : m.ok = true) : HearR n m (n.copied m) := by
  have hp := Mg.parts hm
  obtain ⟨is, his⟩ : ∃ is, is = n.s.takes m.tr m.pl m.tn := ⟨_, rfl⟩
  obtain ⟨q, hq⟩ : ∃ q : Nd, q = (if is then { n with s := n.s.got m.tr m.pl m.tn, ys := n.ys.set m.pl.toNat m.va } else n) := ⟨_, rfl⟩
  have hN : NdR q ∧ q.r = n.r ∧ q.log = n.log ∧ q.id = n.id ∧ q.ys.length = n.ys.length ∧ q.up = true ∧ (is = false → q = n) := by
    rw [hq]
    cases e : is with
    | false => exact ⟨h, rfl, rfl, rfl, rfl, hu, fun _ => rfl⟩
    | true =>
      have ht := (Sn.takes_iff n.s m.tr m.pl m.tn).1 (by rw [← his, e])
      have hs0 : n.s.tr ≠ 0 := by omega
      have hsk := h.sk hs0
      have hj : m.pl.toNat < n.ys.length := by omega
      refine ⟨⟨h.id, put_ok h.dk hj hp.2.2.2.1, h.h, h.r, h.ll, h.c, Sn.got_ok h.s _ _ _, h.lg, fun x => ?_, fun x => ?_, fun _ => ⟨hsk.1, ?_, ?_⟩⟩, rfl, rfl, rfl, by simp, hu, fun x => by cases x⟩
      · rw [hu] at x; cases x
      · exact absurd hsk.1 (h.cp x).1
      · show (n.s.got _ _ _).tr = n.r.n
        rw [(Sn.got_tr _ _ _ _).1]; exact hsk.2.1
      · show (n.s.got _ _ _).ts.length = (n.ys.set _ _).length
        rw [(Sn.got_tr _ _ _ _).2, List.length_set]; exact hsk.2.2
  unfold Nd.copied
  simp only [← his, ← hq]
  obtain ⟨h1, h2, h3, h4, h5, h6, h7⟩ := hN
  split
  · cases e : is with
    | false => rw [h7 e]; exact HearR.same h m
    | true => exact HearR.turned m [] h1 h2 h3 h4 h5 (by simp) (by simp)
  · refine HearR.turned m _ h1 h2 h3 h4 h5 (by simp) ?_
    intro x hx
    simp only [List.mem_singleton] at hx
    subst hx
    exact ⟨rfl, rfl, h6⟩
theorem ack_to' (c : Cp) (i t : Int) : (c.ack i t).tr = c.tr ∧ (c.ack i t).ts = c.ts := by unfold Cp.ack; split <;> exact ⟨rfl, rfl⟩
theorem NdR.acked {n : Nd} (h : NdR n) (hu : n.up = true) (m : Mg) : HearR n m (n.acked m) := by
  unfold Nd.acked
  split
  · rename_i e
    cases ea : n.c.acks m.pl m.tn with
    | false =>
      have : n.c.ack m.pl m.tn = n.c := by unfold Cp.ack; rw [ea]; rfl
      rw [this]
      exact HearR.same h m
    | true =>
      have hcp := h.cp e.1
      have ht := ack_to' n.c m.pl m.tn
      refine HearR.turned m [] ⟨h.id, h.dk, h.h, h.r, h.ll, Cp.ack_ok h.c _ _, h.s, h.lg, fun x => ?_, fun _ => ⟨hcp.1, ?_, ?_⟩, h.sk⟩ rfl rfl rfl rfl (by simp) (by simp)
      · rw [hu] at x; cases x
      · show (n.c.ack _ _).tr = _
        rw [ht.1]; exact hcp.2.1
      · show (n.c.ack _ _).ts.length = _
        rw [ht.2]; exact hcp.2.2
  · exact HearR.same h m
theorem NdR.handed {n : Nd} (h : NdR n) (hu : n.up = true) {m : Mg} (hm : m.ok = true) (hk : m.kd = 5) (torn : Int) (hf : (framesB n.log).1.length < 2000) : HearR n m (n.handed m torn) := by
  have hr := (Rc.ok_iff n.r).1 h.r
  have hp := Mg.parts hm
  unfold Nd.handed
  split
  · exact HearR.same h m
  · rename_i hh
    have hho : m.h.ok = true := by
      cases e : m.h.ok with
      | true => rfl
      | false => exact absurd (.inl e) hh
    have hep : m.ep ≠ 100000 := fun e => hh (.inr e)
    split
    · rename_i hs
      have hsk := h.sk hs.1
      have hc0 : n.c.tr = 0 := by
        by_cases e : n.c.tr = 0
        · exact e
        · exact absurd hsk.1 (h.cp e).1
      have hq : (({ n.r with e := m.ep + 1, s := 1 } : Rc)).ok = true := (Rc.ok_iff _).2 ⟨by simp only; omega, by simp, hr.2.2.1, hr.2.2.2⟩
      have h' : NdR ({ n with xs := n.ys, h := m.h } : Nd) := ⟨h.id, both_same h.dk, hho, h.r, h.ll, h.c, h.s, h.lg, h.dn, h.cp, h.sk⟩
      obtain ⟨p, hpp⟩ : ∃ p, p = ({ n with xs := n.ys, h := m.h } : Nd).note { n.r with e := m.ep + 1, s := 1 } torn := ⟨_, rfl⟩
      simp only [← hpp]
      rcases h'.note hu hq hf p hpp with ⟨e, hN, e1, e2, e3, e4, e5, e6, e7, e8⟩ | ⟨e, e1, e2, e3, e4⟩
      · rw [e]
        simp only [Bool.false_eq_true, if_false]
        exact HearR.fell m hN e2 e8 e4 e5
      · rw [e]
        simp only [if_true]
        rw [e1] at e2 e3 e4 ⊢
        refine ⟨⟨h.id, both_same h.dk, hho, hq, e3, h.c, Sn.zero_ok, ?_, fun x => ?_, fun x => absurd hc0 x, fun x => absurd rfl x⟩, ?_, Int.le_refl _, rfl, rfl, by simp, taken_all m hu, fun _ => .inl ⟨rfl, hsk.1, hk, hs.2.1, rfl, rfl, rfl⟩, ?_, rfl, fun x => by cases x⟩
        · show LogR _ _ n.up
          rw [hu]; exact e2
        · rw [hu] at x; cases x
        · show n.r.e ≤ m.ep + 1
          omega
        · show (framesB (n.log ++ _)).1.length ≤ _
          exact Nat.le_of_eq e4
    · split
      · exact HearR.turned m _ h rfl rfl rfl rfl (by simp) (taken_all m hu)
      · exact HearR.same h m
theorem NdR.gone {n : Nd} (h : NdR n) (hu : n.up = true) {m : Mg} (hm : m.ok = true) (hk : m.kd = 6) (torn : Int) (hf : (framesB n.log).1.length < 2000) : HearR n m (n.gone m torn) := by
  have hr := (Rc.ok_iff n.r).1 h.r
  have hp := Mg.parts hm
  unfold Nd.gone
  split
  · rename_i hmi
    have hmi' := hmi.1
    unfold Nd.mine at hmi'
    simp only [Bool.and_eq_true, decide_eq_true_eq] at hmi'
    have hs0 : n.s.tr = 0 := by
      by_cases e : n.s.tr = 0
      · exact e
      · have := (h.sk e).1; omega
    have hq : (({ n.r with e := m.ep, s := 3 } : Rc)).ok = true := (Rc.ok_iff _).2 ⟨hp.2.2.2.2.1, by simp, hr.2.2.1, hr.2.2.2⟩
    obtain ⟨p, hpp⟩ : ∃ p, p = n.note { n.r with e := m.ep, s := 3 } torn := ⟨_, rfl⟩
    simp only [← hpp]
    rcases h.note hu hq hf p hpp with ⟨e, hN, e1, e2, e3, e4, e5, e6, e7, e8⟩ | ⟨e, e1, e2, e3, e4⟩
    · rw [e]
      simp only [Bool.false_eq_true, if_false]
      exact HearR.fell m hN e2 e8 e4 e5
    · rw [e]
      simp only [if_true]
      rw [e1] at e2 e3 e4 ⊢
      refine ⟨⟨h.id, h.dk, h.h, hq, e3, Cp.zero_ok, h.s, ?_, fun x => ?_, fun x => absurd rfl x, fun x => absurd hs0 x⟩, ?_, Int.le_refl _, rfl, rfl, by simp, by simp, fun _ => .inr (.inr ⟨rfl, hmi'.1, hk, hmi'.2.symm⟩), ?_, rfl, fun x => by cases x⟩
      · show LogR _ _ n.up
        rw [hu]; exact e2
      · rw [hu] at x; cases x
      · show n.r.e ≤ m.ep
        have := hmi.2
        omega
      · show (framesB (n.log ++ _)).1.length ≤ _
        exact Nat.le_of_eq e4
  · exact HearR.same h m
theorem NdR.kept {n : Nd} (h : NdR n) (hu : n.up = true) {m : Mg} (hk : m.kd = 8) (torn : Int) (hf : (framesB n.log).1.length < 2000) : HearR n m (n.kept m torn) := by
  have hr := (Rc.ok_iff n.r).1 h.r
  unfold Nd.kept
  split
  · rename_i hmi
    have hmi' := hmi
    unfold Nd.mine at hmi'
    simp only [Bool.and_eq_true, decide_eq_true_eq] at hmi'
    have hs0 : n.s.tr = 0 := by
      by_cases e : n.s.tr = 0
      · exact e
      · have := (h.sk e).1; omega
    have hq : (({ n.r with s := 1 } : Rc)).ok = true := (Rc.ok_iff _).2 ⟨hr.1, by simp, hr.2.2.1, hr.2.2.2⟩
    obtain ⟨p, hpp⟩ : ∃ p, p = n.note { n.r with s := 1 } torn := ⟨_, rfl⟩
    simp only [← hpp]
    rcases h.note hu hq hf p hpp with ⟨e, hN, e1, e2, e3, e4, e5, e6, e7, e8⟩ | ⟨e, e1, e2, e3, e4⟩
    · rw [e]
      simp only [Bool.false_eq_true, if_false]
      exact HearR.fell m hN e2 e8 e4 e5
    · rw [e]
      simp only [if_true]
      rw [e1] at e2 e3 e4 ⊢
      refine ⟨⟨h.id, h.dk, h.h, hq, e3, Cp.zero_ok, h.s, ?_, fun x => ?_, fun x => absurd rfl x, fun x => absurd hs0 x⟩, Int.le_refl _, Int.le_refl _, rfl, rfl, by simp, by simp, fun _ => .inr (.inl ⟨rfl, hmi'.1, hk, hmi'.2.symm⟩), ?_, rfl, fun x => by cases x⟩
      · show LogR _ _ n.up
        rw [hu]; exact e2
      · rw [hu] at x; cases x
      · show (framesB (n.log ++ _)).1.length ≤ _
        exact Nat.le_of_eq e4
  · exact HearR.same h m
theorem NdR.cancelled {n : Nd} (h : NdR n) (hu : n.up = true) {m : Mg} (hm : m.ok = true) (torn : Int) (hf : (framesB n.log).1.length < 2000) : HearR n m (n.cancelled m torn) := by
  have hr := (Rc.ok_iff n.r).1 h.r
  have hp := Mg.parts hm
  have h0 : NdR ({ n with s := Sn.zero } : Nd) := ⟨h.id, h.dk, h.h, h.r, h.ll, h.c, Sn.zero_ok, h.lg, fun x => ⟨(h.dn x).1, rfl⟩, h.cp, fun x => absurd rfl x⟩
  unfold Nd.cancelled
  split
  · exact HearR.turned m _ h rfl rfl rfl rfl (by simp) (taken_all m hu)
  · split
    · exact HearR.same h m
    · rename_i h3
      have h3' : n.r.s = 3 := by omega
      split
      · rename_i hlt
        have hq : (({ n.r with n := m.tr } : Rc)).ok = true := (Rc.ok_iff _).2 ⟨hr.1, hr.2.1, hr.2.2.1, hp.1⟩
        obtain ⟨p, hpp⟩ : ∃ p, p = ({ n with s := Sn.zero } : Nd).note { n.r with n := m.tr } torn := ⟨_, rfl⟩
        simp only [← hpp]
        rcases h0.note hu hq hf p hpp with ⟨e, hN, e1, e2, e3, e4, e5, e6, e7, e8⟩ | ⟨e, e1, e2, e3, e4⟩
        · rw [e]
          simp only [Bool.false_eq_true, if_false]
          exact HearR.fell m hN e2 e8 e4 e5
        · rw [e]
          simp only [if_true]
          rw [e1] at e2 e3 e4 ⊢
          refine ⟨⟨h.id, h.dk, h.h, hq, e3, h.c, Sn.zero_ok, ?_, fun x => ?_, fun x => absurd h3' (h.cp x).1, fun x => absurd rfl x⟩, Int.le_refl _, ?_, rfl, rfl, by simp, back_all m 8 hu, fun x => absurd rfl x, ?_, rfl, fun x => by cases x⟩
          · show LogR _ _ n.up
            rw [hu]; exact e2
          · rw [hu] at x; cases x
          · show n.r.n ≤ m.tr
            omega
          · show (framesB (n.log ++ _)).1.length ≤ _
            exact Nat.le_of_eq e4
      · split
        · exact HearR.turned m _ h0 rfl rfl rfl rfl (by simp) (back_all m 8 hu)
        · exact HearR.turned m _ h rfl rfl rfl rfl (by simp) (back_all m 8 hu)
theorem NdR.hear {n : Nd} (h : NdR n) (m : Mg) (torn : Int) (hf : (framesB n.log).1.length < 2000) : HearR n m (n.hear m torn) := by
  unfold Nd.hear
  split
  · exact HearR.same h m
  · rename_i e
    have hu : n.up = true := by
      cases x : n.up with
      | true => rfl
      | false => exact absurd (.inl x) e
    have hm : m.ok = true := by
      cases x : m.ok with
      | true => rfl
      | false => exact absurd (.inr (.inl x)) e
    have hk := (Mg.parts hm).2.2.2.2.2
    split
    · exact h.begun hu hm torn hf
    · split
      · exact h.opened hu m
      · split
        · exact h.copied hu hm
        · split
          · exact h.acked hu m
          · split
            · rename_i k5; exact h.handed hu hm k5 torn hf
            · split
              · rename_i k6; exact h.gone hu hm k6 torn hf
              · split
                · exact h.cancelled hu hm torn hf
                · exact h.kept hu (by omega) torn hf
end Go.Proofs.YtkenbanaodbooaaGreatDoor
