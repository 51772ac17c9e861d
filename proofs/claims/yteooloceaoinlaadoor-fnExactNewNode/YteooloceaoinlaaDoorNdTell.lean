/- What a house that does something leaves, plainly. -/
import Derived.Test.YteooloceaoinlaaDoorM15
namespace Go.Proofs.YteooloceaoinlaaDoor
open Go.RowKit

/- What the law on telling asks, of what is done. -/
structure TellR (n : Nd) (p : Nd × List Mg × Bool) : Prop where
  ok : NdR p.1
  ep : p.1.r.e = n.r.e
  sn : p.1.r.n = n.r.n
  td : n.r.t ≤ p.1.r.t
  id : p.1.id = n.id
  one : p.2.1.length ≤ 1
  msg : ∀ m ∈ p.2.1, m.dst = 1 - n.id ∧ m.tr = p.1.r.t ∧ p.1.up = true ∧ (m.kd = 3 → m.va = n.ys.getD m.pl.toNat 0 ∧ m.tn = p.1.c.ts.getD m.pl.toNat 0 ∧ 0 ≤ m.pl ∧ m.pl < (n.ys.length : Int) ∧ n.ys.length = p.1.c.ts.length)
  st : p.1.r.s ≠ n.r.s → p.1.r.s = 2 ∧ n.r.s = 1 ∧ n.c.clean = true ∧ p.1.xs = p.1.ys
  fr : (framesB p.1.log).1.length ≤ (framesB n.log).1.length + 1
  len : p.1.ys.length = n.ys.length
  no : p.2.2 = false → p = (n, [], false)
theorem both_same {xs ys : List Int} (h : bothOk xs ys = true) : bothOk ys ys = true := by
  unfold bothOk at h ⊢
  simp only [Bool.and_eq_true, decide_eq_true_eq] at h ⊢
  exact ⟨h.2.1, h.2.1, trivial⟩
theorem TellR.same {n : Nd} (h : NdR n) : TellR n (n, [], false) :=
  ⟨h, rfl, rfl, Int.le_refl _, rfl, by simp, by simp, fun e => absurd rfl e, by simp, rfl, fun _ => rfl⟩
theorem TellR.say {n : Nd} (h : NdR n) (hu : n.up = true) (m : Mg) (h1 : m.dst = 1 - n.id) (h2 : m.tr = n.r.t) (h3 : m.kd ≠ 3) : TellR n (n, [m], true) :=
  ⟨h, rfl, rfl, Int.le_refl _, rfl, by simp, by
    intro x hx
    simp only [List.mem_singleton] at hx
    subst hx
    exact ⟨h1, h2, hu, fun e => absurd e h3⟩, fun e => absurd rfl e, by simp, rfl, fun e => by cases e⟩
theorem next_to' (c : Cp) : c.next.tr = c.tr ∧ c.next.ts.length = c.ts.length := by unfold Cp.next; split <;> simp
theorem NdR.move {n : Nd} (h : NdR n) (hu : n.up = true) (torn : Int) (hs : n.r.s = 1) (ht : n.r.t < 100000) (hf : (framesB n.log).1.length < 2000) : TellR n (n.move torn) := by
  have hr := (Rc.ok_iff n.r).1 h.r
  have hq : (({ n.r with t := n.r.t + 1 } : Rc)).ok = true := (Rc.ok_iff _).2 ⟨hr.1, hr.2.1, by simp only; omega, hr.2.2.2⟩
  obtain ⟨p, hp⟩ : ∃ p, p = n.note { n.r with t := n.r.t + 1 } torn := ⟨_, rfl⟩
  have hsk : n.s.tr = 0 := by
    by_cases e : n.s.tr = 0
    · exact e
    · have := (h.sk e).1; omega
  have hb := h.dk
  unfold bothOk blocksOk lenOk at hb
  simp only [Bool.and_eq_true, decide_eq_true_eq] at hb
  have hmade : Cp.made n.ys.length (n.r.t + 1) = true := by
    unfold Cp.made
    rw [(inI_iff _ _ _).2 (by omega), (inI_iff _ _ _).2 (by omega)]
    rfl
  unfold Nd.move
  simp only [← hp]
  rcases h.note hu hq hf p hp with ⟨e, hN, e1, e2, e3, e4, e5, e6, e7, e8⟩ | ⟨e, e1, e2, e3, e4⟩
  · rw [e]
    simp only [Bool.false_eq_true, if_false]
    exact ⟨hN, by rw [e2], by rw [e2], by rw [e2]; exact Int.le_refl _, e4, by simp, by simp, fun x => absurd (by rw [e2]) x, Nat.le_trans (Nat.le_of_eq e8) (Nat.le_succ _), e5, fun x => by cases x⟩
  · rw [e]
    simp only [if_true]
    have hcl : (Cp.new n.ys.length (n.r.t + 1)).ts.length = n.ys.length := by unfold Cp.new; rw [if_pos hmade]; simp
    have hct : (Cp.new n.ys.length (n.r.t + 1)).tr = n.r.t + 1 := by unfold Cp.new; rw [if_pos hmade]
    rw [e1] at e2 e3 e4 ⊢
    refine ⟨⟨h.id, h.dk, h.h, hq, e3, Cp.new_ok _ _ hmade, h.s, ?_, fun x => ?_, fun _ => ⟨?_, hct, hcl⟩, fun x => absurd hsk x⟩, rfl, rfl, ?_, rfl, by simp, ?_, fun x => absurd rfl x, ?_, rfl, fun x => by cases x⟩
    · show LogR _ _ n.up
      rw [hu]; exact e2
    · rw [hu] at x; cases x
    · show n.r.s ≠ 3
      omega
    · show n.r.t ≤ n.r.t + 1
      omega
    · intro m hm
      simp only [List.mem_singleton] at hm
      subst hm
      exact ⟨rfl, rfl, hu, fun x => by simp [Nd.msg] at x⟩
    · show (framesB (n.log ++ _)).1.length ≤ _
      exact Nat.le_of_eq e4
theorem NdR.give {n : Nd} (h : NdR n) (hu : n.up = true) (torn : Int) (hs : n.r.s = 1) (hcl : n.c.clean = true) (hf : (framesB n.log).1.length < 2000) : TellR n (n.give torn) := by
  have hr := (Rc.ok_iff n.r).1 h.r
  have hq : (({ n.r with s := 2 } : Rc)).ok = true := (Rc.ok_iff _).2 ⟨hr.1, by simp only; omega, hr.2.2.1, hr.2.2.2⟩
  have h' : NdR ({ n with xs := n.ys } : Nd) := ⟨h.id, both_same h.dk, h.h, h.r, h.ll, h.c, h.s, h.lg, h.dn, h.cp, h.sk⟩
  have hsk : n.s.tr = 0 := by
    by_cases e : n.s.tr = 0
    · exact e
    · have := (h.sk e).1; omega
  obtain ⟨p, hp⟩ : ∃ p, p = ({ n with xs := n.ys } : Nd).note { n.r with s := 2 } torn := ⟨_, rfl⟩
  unfold Nd.give
  simp only [← hp]
  rcases h'.note hu hq hf p hp with ⟨e, hN, e1, e2, e3, e4, e5, e6, e7, e8⟩ | ⟨e, e1, e2, e3, e4⟩
  · rw [e]
    simp only [Bool.false_eq_true, if_false]
    exact ⟨hN, by rw [e2], by rw [e2], by rw [e2]; exact Int.le_refl _, e4, by simp, by simp, fun x => absurd (by rw [e2]) x, Nat.le_trans (Nat.le_of_eq e8) (Nat.le_succ _), e5, fun x => by cases x⟩
  · rw [e]
    simp only [if_true]
    rw [e1] at e2 e3 e4 ⊢
    refine ⟨⟨h.id, both_same h.dk, h.h, hq, e3, h.c, h.s, ?_, fun x => ?_, fun x => ?_, fun x => absurd hsk x⟩, rfl, rfl, Int.le_refl _, rfl, by simp, ?_, fun _ => ⟨rfl, hs, hcl, rfl⟩, ?_, rfl, fun x => by cases x⟩
    · show LogR _ _ n.up
      rw [hu]; exact e2
    · rw [hu] at x; cases x
    · have := h.cp x
      exact ⟨by simp, this.2.1, this.2.2⟩
    · intro m hm
      simp only [List.mem_singleton] at hm
      subst hm
      exact ⟨rfl, rfl, hu, fun x => by simp [Nd.hand, Nd.msg] at x⟩
    · show (framesB (n.log ++ _)).1.length ≤ _
      exact Nat.le_of_eq e4
theorem NdR.copy {n : Nd} (h : NdR n) (hu : n.up = true) (hc : n.c.tr ≠ 0) : TellR n n.copy := by
  unfold Nd.copy
  split
  · exact TellR.same h
  · rename_i hx
    have hcp := h.cp hc
    have hg : n.c.goes = true := by
      cases e : n.c.goes with
      | true => rfl
      | false => unfold Cp.nx at hx; rw [e] at hx; simp at hx
    have hnx : n.c.nx = firstI n.c.di := by unfold Cp.nx; rw [if_pos hg]
    have hft := (Cp.fit h.c).first
    have hnt := next_to' n.c
    refine ⟨⟨h.id, h.dk, h.h, h.r, h.ll, Cp.next_ok h.c, h.s, h.lg, fun x => ?_, fun _ => ⟨hcp.1, ?_, ?_⟩, h.sk⟩, rfl, rfl, Int.le_refl _, rfl, by simp, ?_, fun x => absurd rfl x, by simp, rfl, fun x => by cases x⟩
    · rw [hu] at x; cases x
    · show n.c.next.tr = n.r.t
      rw [hnt.1]; exact hcp.2.1
    · show n.c.next.ts.length = n.ys.length
      rw [hnt.2]; exact hcp.2.2
    · intro m hm
      simp only [List.mem_singleton] at hm
      subst hm
      refine ⟨rfl, rfl, hu, fun _ => ⟨rfl, rfl, ?_, ?_, ?_⟩⟩
      · show 0 ≤ n.c.nx
        omega
      · show n.c.nx < (n.ys.length : Int)
        rw [hnx, ← hcp.2.2]; exact hft
      · show n.ys.length = n.c.next.ts.length
        rw [hnt.2, hcp.2.2]
theorem NdR.tell {n : Nd} (h : NdR n) (k torn : Int) (hf : (framesB n.log).1.length < 2000) : TellR n (n.tell k torn) := by
  unfold Nd.tell
  split
  · exact TellR.same h
  · rename_i hu'
    have hu : n.up = true := by simpa using hu'
    split
    · rename_i e; exact h.move hu torn e.2.1 e.2.2.2 hf
    · split
      · rename_i e
        split
        · have hcp := h.cp e.2
          refine ⟨⟨h.id, h.dk, h.h, h.r, h.ll, Cp.again_ok h.c, h.s, h.lg, fun x => ?_, fun _ => hcp, h.sk⟩, rfl, rfl, Int.le_refl _, rfl, by simp, by simp, fun x => absurd rfl x, by simp, rfl, fun x => by cases x⟩
          rw [hu] at x; cases x
        · exact TellR.say h hu _ rfl rfl (by simp [Nd.msg])
      · split
        · rename_i e; exact h.copy hu e.2
        · split
          · rename_i e; exact h.give hu torn e.2.1 e.2.2.2 hf
          · split
            · exact TellR.say h hu _ rfl rfl (by simp [Nd.hand, Nd.msg])
            · split
              · exact TellR.say h hu _ rfl rfl (by simp [Nd.msg])
              · split
                · refine ⟨⟨h.id, h.dk, h.h, h.r, h.ll, Cp.zero_ok, h.s, h.lg, fun x => ?_, fun x => absurd rfl x, h.sk⟩, rfl, rfl, Int.le_refl _, rfl, by simp, by simp, fun x => absurd rfl x, by simp, rfl, fun x => by cases x⟩
                  rw [hu] at x; cases x
                · exact TellR.same h
end Go.Proofs.YteooloceaoinlaaDoor
