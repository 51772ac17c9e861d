/- One owner, plainly: whatever a house is asked, told, hears, and however it falls and rises. -/
import Derived.Test.YtkenbanaodbooaaGreatDoorOne
import Derived.Test.YtkenbanaodbooaaGreatDoorM19
import Derived.Test.YtkenbanaodbooaaGreatDoorM18
import Derived.Test.YtkenbanaodbooaaGreatDoorLPost
namespace Go.Proofs.YtkenbanaodbooaaGreatDoor
open Go.RowKit

theorem note_cases (n : Nd) (q : Rc) (torn : Int) : ((n.note q torn).2 = false ∧ (n.note q torn).1.r = n.r ∧ (n.note q torn).1.id = n.id ∧ (n.note q torn).1.c = Cp.zero ∧ (n.note q torn).1.s = Sn.zero ∧ (n.note q torn).1.up = false) ∨ n.note q torn = ({ n with log := n.log ++ framed (showR q), r := q }, true) := by
  unfold Nd.note
  split
  · exact .inl ⟨rfl, rfl, rfl, rfl, rfl, rfl⟩
  · split
    · exact .inl ⟨rfl, rfl, rfl, rfl, rfl, rfl⟩
    · exact .inr rfl
theorem Cp.idle {c : Cp} (h : c.ok = true) (h0 : c.tr = 0) : c.op = false := by
  unfold Cp.ok Cp.mid at h
  rw [if_pos h0] at h
  simp only [Bool.and_eq_true] at h
  simpa using h.1.1.1
theorem Less.fell {X X' N : Nd} (hr : X'.r = X.r) (hi : X'.id = X.id) (hc : X'.c = Cp.zero) (hs : X'.s = Sn.zero) (e1 : X.r = N.r) (e2 : X.id = N.id) : Less X' N :=
  ⟨hr.trans e1, hi.trans e2, .inl (by rw [hc]; rfl), .inl (by rw [hs]; rfl), fun _ => by rw [hc]; rfl⟩
theorem Less.refl (N : Nd) : Less N N := ⟨rfl, rfl, .inr rfl, .inr rfl, fun h => h⟩
theorem Less.down (N : Nd) (set : Int) : Less (N.down set) N := ⟨rfl, rfl, .inl rfl, .inl rfl, fun _ => rfl⟩
theorem Less.rise (N : Nd) : Less N.rise.1 N := by
  unfold Nd.rise
  split
  · exact Less.refl N
  · exact ⟨rfl, rfl, .inr rfl, .inr rfl, fun h => h⟩
theorem mark_op (c : Cp) (i : Int) : (c.mark i).op = c.op := by unfold Cp.mark; split <;> rfl
theorem Less.ask (N : Nd) (who : Int) (b : Bs) : Less (N.ask who b).1 N := by
  unfold Nd.ask
  split
  · exact Less.refl N
  · split
    · exact Less.refl N
    · split
      · exact Less.refl N
      · split
        · exact Less.refl N
        · refine ⟨rfl, rfl, ?_, .inr rfl, ?_⟩
          · simp only
            split
            · exact .inr (mark_tr _ _).1
            · exact .inr rfl
          · simp only
            split
            · rw [mark_op]; exact fun h => h
            · exact fun h => h
theorem Two.none {X Y : Nd} {P : List Mg} (h : Two X Y P) : Two X Y (P ++ []) := by rwa [List.append_nil]

theorem Two.tell {X Y : Nd} {P : List Mg} (h : Two X Y P) (hd : 1 - X.id = Y.id) (k torn : Int) (hf : (framesB X.log).1.length < 2000) : Two (X.tell k torn).1 Y (P ++ (X.tell k torn).2.1) := by
  have hR := (h.x.tell k torn hf).ok
  have hr := (Rc.ok_iff X.r).1 h.x.r
  have hbl := h.x.blocks
  revert hR
  unfold Nd.tell
  split
  · exact fun _ => h.none
  split
  · rename_i hu hk
    obtain ⟨-, hs, hc, ht⟩ := hk
    unfold Nd.move
    rcases note_cases X { X.r with t := X.r.t + 1 } torn with ⟨e1, e2, e3, e4, e5, -⟩ | e1
    · simp only [e1]
      exact fun hR => (h.less hR (Less.fell e2 e3 e4 e5 rfl rfl)).none
    · simp only [e1, if_true]
      intro hR
      have hmade : Cp.made X.ys.length (X.r.t + 1) = true := by
        unfold Cp.made
        simp only [Bool.and_eq_true, inI_iff]
        omega
      have hnew : Cp.new X.ys.length (X.r.t + 1) = ⟨X.r.t + 1, false, fullI X.ys.length, 0, List.replicate (X.ys.length : Int).toNat 0⟩ := by unfold Cp.new; rw [if_pos hmade]
      have h' := h.moved hR rfl hs rfl hs rfl rfl (by rw [hnew]) (by rw [hnew]) rfl
      exact h'.say _ hd (fun _ => Int.le_refl _) (fun e => by simp [Nd.msg] at e) (fun e => by simp [Nd.msg] at e) (fun e => by simp [Nd.msg] at e) (fun e => by simp [Nd.msg] at e) (fun e => by simp [Nd.msg] at e) (fun e => by simp [Nd.msg] at e)
  split
  · rename_i hk
    split
    · intro hR
      refine (h.less hR ⟨rfl, rfl, .inr ?_, .inr rfl, ?_⟩).none
      · simp only [Cp.again]
      · simp only [Cp.again]; exact fun h => h
    · intro hR
      exact h.say _ hd (fun _ => Int.le_refl _) (fun e => by simp [Nd.msg] at e) (fun e => by simp [Nd.msg] at e) (fun e => by simp [Nd.msg] at e) (fun e => by simp [Nd.msg] at e) (fun e => by simp [Nd.msg] at e) (fun e => by simp [Nd.msg] at e)
  split
  · rename_i hk
    unfold Nd.copy
    split
    · exact fun _ => h.none
    · intro hR
      have l : Less { X with c := X.c.next } X := ⟨rfl, rfl, .inr (next_to' _).1, .inr rfl, by simp only [Cp.next]; split <;> exact fun h => h⟩
      exact (h.less hR l).say _ hd (fun _ => Int.le_refl _) (fun e => by simp [Nd.msg] at e) (fun e => by simp [Nd.msg] at e) (fun e => by simp [Nd.msg] at e) (fun e => by simp [Nd.msg] at e) (fun e => by simp [Nd.msg] at e) (fun e => by simp [Nd.msg] at e)
  split
  · rename_i hk
    obtain ⟨-, hs, hc, hcl⟩ := hk
    have hop : X.c.op = true := by
      unfold Cp.clean at hcl
      simp only [Bool.and_eq_true] at hcl
      exact hcl.1.1.2
    unfold Nd.give
    rcases note_cases { X with xs := X.ys } { X.r with s := 2 } torn with ⟨e1, e2, e3, e4, e5, -⟩ | e1
    · simp only [e1]
      exact fun hR => (h.less hR (Less.fell e2 e3 e4 e5 rfl rfl)).none
    · simp only [e1, if_true]
      intro hR
      have h' := h.gave hR rfl hs hc hop rfl rfl rfl rfl rfl
      exact h'.say _ hd (fun _ => Int.le_refl _) (fun _ _ => rfl) (fun _ => ⟨rfl, rfl⟩) (fun e => by simp [Nd.hand, Nd.msg] at e) (fun e => by simp [Nd.hand, Nd.msg] at e) (fun e => by simp [Nd.hand, Nd.msg] at e) (fun e => by simp [Nd.hand, Nd.msg] at e)
  split
  · rename_i hk
    intro hR
    exact h.say _ hd (fun _ => Int.le_refl _) (fun _ _ => rfl) (fun _ => ⟨hk.2, rfl⟩) (fun e => by simp [Nd.hand, Nd.msg] at e) (fun e => by simp [Nd.hand, Nd.msg] at e) (fun e => by simp [Nd.hand, Nd.msg] at e) (fun e => by simp [Nd.hand, Nd.msg] at e)
  split
  · rename_i hk
    intro hR
    exact h.say _ hd (fun _ => Int.le_refl _) (fun _ _ => rfl) (fun e => by simp [Nd.msg] at e) (fun e => by simp [Nd.msg] at e) (fun e => by simp [Nd.msg] at e) (fun e => by simp [Nd.msg] at e) (fun e => by simp [Nd.msg] at e)
  split
  · intro hR
    exact (h.less hR ⟨rfl, rfl, .inl rfl, .inr rfl, fun _ => rfl⟩).none
  · exact fun _ => h.none

theorem Two.hear {X Y : Nd} {P Q : List Mg} (h : Two X Y P) (hd : 1 - X.id = Y.id) (m : Mg) (hm : m ∈ P) (hQ : ∀ x ∈ Q, x ∈ P) (torn : Int) (hf : (framesB X.log).1.length < 2000) : Two (X.hear m torn).1 Y (Q ++ (X.hear m torn).2.1) := by
  have hR := (h.x.hear m torn hf).ok
  have hr := (Rc.ok_iff X.r).1 h.x.r
  have hbl := h.x.blocks
  have hcp := h.x.cp
  have hsk := h.x.sk
  have hid := Cp.idle h.x.c
  have h0 := h.sub hQ
  revert hR
  unfold Nd.hear
  split
  · exact fun _ => h0.none
  rename_i hno
  have hok : m.ok = true := by
    cases e : m.ok with
    | true => rfl
    | false => exact absurd (.inr (.inl e)) hno
  have hdst : m.dst = X.id := by
    by_cases e : m.dst = X.id
    · exact e
    · exact absurd (.inr (.inr e)) hno
  obtain ⟨mt, -, -, -, me, mk⟩ := Mg.parts hok
  have fw := fun k => h.b.fwd m hm hdst k
  have bw := fun k => h.f.bwd m hm hdst k
  have ready : ∀ (Z : Nd), Two Z Y Q → m.kd = 1 → Z.id = X.id → Z.r.s = 3 → NdR (Z.ready m).1 → Two (Z.ready m).1 Y (Q ++ (Z.ready m).2.1) := by
    intro Z hZ k1 hi hs
    unfold Nd.ready
    split
    · exact fun _ => hZ.none
    · intro _
      exact hZ.say _ (by simp only [Nd.back]; rw [hi]; exact hd) (fun e => by simp [Nd.back] at e) (fun e => by simp [Nd.back] at e) (fun e => by simp [Nd.back] at e) (fun _ => hs) (fun _ => fw (.inl k1)) (fun e => by simp [Nd.back] at e) (fun e => by simp [Nd.back] at e)
  have taken : m.kd = 5 ∨ m.kd = 7 → m.ep < X.r.e → Two X Y (Q ++ [X.taken m]) := by
    intro k he
    refine h0.say _ (by simp only [Nd.taken, Nd.back]; exact hd) (fun e => by simp [Nd.taken, Nd.back] at e) (fun e => by simp [Nd.taken, Nd.back] at e) (fun e => by simp [Nd.taken, Nd.back] at e) (fun e => by simp [Nd.taken, Nd.back] at e) (fun _ => fw (by omega)) ?_ (fun e => by simp [Nd.taken, Nd.back] at e)
    intro _ a e
    have := h.b.cur a m hm hdst k e
    simp only [Nd.taken]
    omega
  split
  · rename_i k1
    unfold Nd.begun
    split
    · exact fun _ => h0.none
    · rename_i hs
      have hs3 : X.r.s = 3 := by omega
      split
      · rename_i hn
        rcases note_cases X { X.r with n := m.tr } torn with ⟨e1, e2, e3, e4, e5, -⟩ | e1
        · simp only [e1]
          exact fun hR => (h0.less hR (Less.fell e2 e3 e4 e5 rfl rfl)).none
        · simp only [e1, if_true]
          intro hR
          have hmade : Cp.made X.ys.length m.tr = true := by
            unfold Cp.made
            simp only [Bool.and_eq_true, inI_iff]
            omega
          have hnew : Sn.new X.ys.length m.tr = ⟨m.tr, List.replicate (X.ys.length : Int).toNat 0⟩ := by unfold Sn.new; rw [if_pos hmade]
          have hR' : NdR { X with log := X.log ++ framed (showR { X.r with n := m.tr }), r := { X.r with n := m.tr }, s := Sn.new X.ys.length m.tr } := by
            unfold Nd.ready at hR
            split at hR <;> exact hR
          have h' := h0.began hR' rfl hs3 m.tr hn (fw (.inl k1)) rfl hs3 rfl rfl (by rw [hnew]; exact .inr rfl)
          exact ready _ h' k1 rfl hs3 hR
      · intro hR
        exact ready X h0 k1 rfl hs3 hR
  split
  · rename_i k2
    unfold Nd.opened
    split
    · exact fun _ => h0.none
    · rename_i hk
      intro hR
      have hc0 : X.c.tr ≠ 0 := fun e => hk (.inl e)
      have hct : X.c.tr = m.tr := by
        by_cases e : X.c.tr = m.tr
        · exact e
        · exact absurd (.inr (.inl e)) hk
      have hno2 : Y.r.s = 2 → X.r.s = 1 → False := fun a b => by
        have := h.b.rdy a b m hm hdst k2
        omega
      refine Two.none ⟨hR, h0.y, h0.ne, ?_, ?_⟩
      · exact ⟨h0.f.seen, h0.f.fwd, h0.f.bwd, h0.f.cur, h0.f.tak, h0.f.can, h0.f.nos, h0.f.noo, h0.f.rdo, h0.f.rdy, h0.f.st⟩
      · exact ⟨h0.b.seen, h0.b.fwd, h0.b.bwd, h0.b.cur, h0.b.tak, h0.b.can, h0.b.nos, h0.b.noo, fun a b => (hno2 a b).elim, h0.b.rdy, h0.b.st⟩
  split
  · rename_i k3
    unfold Nd.copied
    have l : Less (if X.s.takes m.tr m.pl m.tn = true then { X with s := X.s.got m.tr m.pl m.tn, ys := X.ys.set m.pl.toNat m.va } else X) X := by
      split
      · exact ⟨rfl, rfl, .inr rfl, .inr (Sn.got_tr _ _ _ _).1, fun h => h⟩
      · exact Less.refl X
    simp only
    obtain ⟨Z, hZ⟩ : ∃ Z, Z = (if X.s.takes m.tr m.pl m.tn = true then { X with s := X.s.got m.tr m.pl m.tn, ys := X.ys.set m.pl.toNat m.va } else X) := ⟨_, rfl⟩
    rw [← hZ] at l ⊢
    split
    · exact fun hR => (h0.less hR l).none
    · intro hR
      exact (h0.less hR l).say _ (by simp only [Nd.back]; exact hd) (fun e => by simp [Nd.back] at e) (fun e => by simp [Nd.back] at e) (fun e => by simp [Nd.back] at e) (fun e => by simp [Nd.back] at e) (fun _ => fw (.inr (.inl k3))) (fun e => by simp [Nd.back] at e) (fun e => by simp [Nd.back] at e)
  split
  · unfold Nd.acked
    split
    · intro hR
      exact (h0.less hR ⟨rfl, rfl, .inr (ack_to' _ _ _).1, .inr rfl, by simp only [Cp.ack]; split <;> exact fun h => h⟩).none
    · exact fun _ => h0.none
  split
  · rename_i k5
    unfold Nd.handed
    split
    · exact fun _ => h0.none
    split
    · rename_i hk
      obtain ⟨a1, a2, a3⟩ := hk
      have q1 := h.b.can m hm hdst k5 (.inr ⟨a1, a2⟩) a3
      have hs3 := (hsk a1).1
      have hc0 : X.c.tr = 0 := by
        by_cases e : X.c.tr = 0
        · exact e
        · exact absurd hs3 (hcp e).1
      rcases note_cases { X with xs := X.ys, h := m.h } { X.r with e := m.ep + 1, s := 1 } torn with ⟨e1, e2, e3, e4, e5, -⟩ | e1
      · simp only [e1]
        exact fun hR => (h0.less hR (Less.fell e2 e3 e4 e5 rfl rfl)).none
      · simp only [e1, if_true]
        intro hR
        have h1 := h.took hR rfl m hm hdst k5 hs3 a1 a2 a3 rfl rfl rfl rfl hc0 (hid hc0) rfl
        have q2 := h.b.cur (.inl q1.1) m hm hdst (.inl k5) q1.2.symm
        refine (h1.sub hQ).say _ (by simp only [Nd.taken, Nd.back]; exact hd) (fun e => by simp [Nd.taken, Nd.back] at e) (fun e => by simp [Nd.taken, Nd.back] at e) (fun e => by simp [Nd.taken, Nd.back] at e) (fun e => by simp [Nd.taken, Nd.back] at e) (fun _ => fw (by omega)) ?_ (fun e => by simp [Nd.taken, Nd.back] at e)
        intro _ a e
        simp only [Nd.taken]
        omega
    split
    · rename_i he
      exact fun _ => taken (.inl k5) he
    · exact fun _ => h0.none
  split
  · rename_i k6
    unfold Nd.gone
    split
    · rename_i hk
      obtain ⟨a1, a2⟩ := hk
      unfold Nd.mine at a1
      simp only [Bool.and_eq_true, decide_eq_true_eq] at a1
      have hs0 : X.s.tr = 0 := by
        by_cases e : X.s.tr = 0
        · exact e
        · have := (hsk e).1; omega
      rcases note_cases X { X.r with e := m.ep, s := 3 } torn with ⟨e1, e2, e3, e4, e5, -⟩ | e1
      · simp only [e1]
        exact fun hR => (h0.less hR (Less.fell e2 e3 e4 e5 rfl rfl)).none
      · simp only [e1, if_true]
        intro hR
        exact ((h.went hR rfl m hm hdst k6 a1.1 a1.2.symm rfl rfl rfl rfl rfl).sub hQ).none
    · exact fun _ => h0.none
  split
  · rename_i k7
    unfold Nd.cancelled
    split
    · rename_i he
      exact fun _ => taken (.inr k7) he
    split
    · exact fun _ => h0.none
    rename_i hs
    have hs3 : X.r.s = 3 := by omega
    split
    · rename_i hn
      rcases note_cases { X with s := Sn.zero } { X.r with n := m.tr } torn with ⟨e1, e2, e3, e4, e5, -⟩ | e1
      · simp only [e1]
        exact fun hR => (h0.less hR (Less.fell e2 e3 e4 e5 rfl rfl)).none
      · simp only [e1, if_true]
        intro hR
        have h' := h0.began hR rfl hs3 m.tr hn (fw (by omega)) rfl hs3 rfl rfl (.inl rfl)
        exact h'.say _ (by simp only [Nd.back]; exact hd) (fun e => by simp [Nd.back] at e) (fun e => by simp [Nd.back] at e) (fun e => by simp [Nd.back] at e) (fun e => by simp [Nd.back] at e) (fun _ => fw (by omega)) (fun e => by simp [Nd.back] at e) (fun _ => ⟨Int.le_refl _, .inl rfl, hs3⟩)
    · rename_i hn
      have l : Less (if X.s.tr = m.tr then { X with s := Sn.zero } else X) X := by
        split
        · exact ⟨rfl, rfl, .inr rfl, .inl rfl, fun h => h⟩
        · exact Less.refl X
      have hz : (if X.s.tr = m.tr then { X with s := Sn.zero } else X).s.tr = 0 ∨ (if X.s.tr = m.tr then { X with s := Sn.zero } else X).s.tr ≠ m.tr := by
        split
        · exact .inl rfl
        · rename_i e; exact .inr e
      obtain ⟨Z, hZ⟩ : ∃ Z, Z = (if X.s.tr = m.tr then { X with s := Sn.zero } else X) := ⟨_, rfl⟩
      rw [← hZ] at l hz ⊢
      intro hR
      exact (h0.less hR l).say _ (by simp only [Nd.back]; exact hd) (fun e => by simp [Nd.back] at e) (fun e => by simp [Nd.back] at e) (fun e => by simp [Nd.back] at e) (fun e => by simp [Nd.back] at e) (fun _ => fw (by omega)) (fun e => by simp [Nd.back] at e) (fun _ => ⟨by rw [l.r]; simp only [Nd.back]; omega, hz, by rw [l.r]; exact hs3⟩)
  · rename_i n1 n2 n3 n4 n5 n6 n7
    have k8 : m.kd = 8 := by omega
    unfold Nd.kept
    split
    · rename_i a1
      unfold Nd.mine at a1
      simp only [Bool.and_eq_true, decide_eq_true_eq] at a1
      rcases note_cases X { X.r with s := 1 } torn with ⟨e1, e2, e3, e4, e5, -⟩ | e1
      · simp only [e1]
        exact fun hR => (h0.less hR (Less.fell e2 e3 e4 e5 rfl rfl)).none
      · simp only [e1, if_true]
        intro hR
        exact ((h.stayed hR rfl m hm hdst k8 a1.1 a1.2.symm rfl rfl rfl rfl rfl rfl).sub hQ).none
    · exact fun _ => h0.none
end Go.Proofs.YtkenbanaodbooaaGreatDoor
/- Pairs, plainly: two houses, the letters between them, what was heard; what happens. -/
namespace Go.Proofs.YtkenbanaodbooaaGreatDoor
open Go.RowKit

structure Ev where
  kd : Int
  who : Int
  bs : Bs
  an : An
  set : Int
structure Ac where
  kd : Int
  nd : Int
  n : Int
  who : Int
  bs : Bs
  torn : Int
/- Two right houses (a is 0, b is 1). -/
structure P2 where
  a : Nd
  b : Nd
  post : List Mg
  evs : List Ev
def An.none : An := ⟨7, []⟩
def Ev.loss (set : Int) : Ev := ⟨2, 0, [], ⟨0, []⟩, set⟩
def Ev.keep : Ev := ⟨3, 0, [], ⟨0, []⟩, 0⟩
def Ev.ok (e : Ev) : Bool :=
  if e.kd = 1 then inI e.who 0 3 && decide (e.bs.length ≤ 20) && decide (e.set = 0) && inI e.an.st 0 7
  else if e.kd = 2 then setOk e.set && decide (e.who = 0) && decide (e.bs = []) && decide (e.an.st = 0) && decide (e.an.tx = [])
  else decide (e.kd = 3) && decide (e.who = 0) && decide (e.bs = []) && decide (e.an.st = 0) && decide (e.an.tx = []) && decide (e.set = 0)
def P2.at (p : P2) (i : Int) : Nd := if i = 0 then p.a else p.b
def P2.put (p : P2) (i : Int) (n : Nd) : P2 := if i = 0 then { p with a := n } else { p with b := n }
def P2.fin (p out : P2) (l : List Mg) (more : List Ev) (told : An) (is : Bool) : P2 × An × Bool :=
  if is = false ∨ 40 < out.post.length + l.length ∨ 300 < out.evs.length + more.length then (p, An.none, false)
  else ({ out with post := out.post ++ l, evs := out.evs ++ more }, told, true)
def P2.letter (p : P2) (i : Int) : Bool := decide (0 ≤ i) && decide (i < (p.post.length : Int))
def P2.heard (p : P2) (i torn : Int) : P2 × An × Bool :=
  let m := p.post.getD i.toNat Mg.zero
  let n := p.at m.dst
  let q := n.hear m torn
  p.fin { p.put m.dst q.1 with post := p.post.eraseIdx i.toNat } q.2.1 (if decide (n.r.s = 1) && n.up && !q.1.up then [Ev.loss 0] else []) An.none true
def P2.asked (p : P2) (i who : Int) (b : Bs) : P2 × An × Bool :=
  let q := (p.at i).ask who b
  if 20 < b.length then (p, An.none, false)
  else p.fin (p.put i q.1) [] (if q.2.st < 5 then [⟨1, who, b, q.2, 0⟩] else []) q.2 (decide (q.2.st ≠ 7))
def P2.told (p : P2) (i k torn : Int) : P2 × An × Bool :=
  let n := p.at i
  let q := n.tell k torn
  p.fin (p.put i q.1) q.2.1 ((if q.2.2 && decide (k = 4) then [Ev.keep] else []) ++ (if q.2.2 && decide (n.r.s = 1) && !q.1.up then [Ev.loss 0] else [])) An.none q.2.2
def P2.fell (p : P2) (i set : Int) : P2 × An × Bool :=
  let n := p.at i
  if n.up && setOk set then p.fin (p.put i (n.down set)) [] (if n.r.s = 1 then [Ev.loss set] else []) An.none true else (p, An.none, false)
def P2.act (p : P2) (c : Ac) : P2 × An × Bool :=
  if c.torn < 0 then (p, An.none, false)
  else if c.kd = 3 ∨ c.kd = 4 ∨ c.kd = 5 then
    if p.letter c.n = false then (p, An.none, false)
    else if c.kd = 3 then p.heard c.n c.torn
    else if c.kd = 4 then p.fin { p with post := p.post.eraseIdx c.n.toNat } [] [] An.none true
    else p.fin p [p.post.getD c.n.toNat Mg.zero] [] An.none true
  else if inI c.nd 0 1 = false then (p, An.none, false)
  else if c.kd = 1 then p.asked c.nd c.who c.bs
  else if c.kd = 2 then p.told c.nd c.n c.torn
  else if c.kd = 6 then p.fell c.nd c.n
  else if c.kd = 7 then p.fin (p.put c.nd (p.at c.nd).rise.1) [] [] An.none (p.at c.nd).rise.2
  else (p, An.none, false)
def P2.new (blocks : Int) : P2 := ⟨Nd.new 0 blocks true, Nd.new 1 blocks false, [], []⟩

/- A letter that a house sends is right. -/
theorem Mg.ok_of {m : Mg} (h1 : inI m.dst 0 1 = true) (h2 : 1 ≤ m.kd ∧ m.kd ≤ 8) (h3 : 0 ≤ m.tr ∧ m.tr ≤ 100000) (h4 : 0 ≤ m.pl ∧ m.pl < 8) (h5 : 0 ≤ m.tn ∧ m.tn ≤ 1000000000) (h6 : valOk m.va = true) (h7 : 0 ≤ m.ep ∧ m.ep ≤ 100000) (h8 : m.h.ok = true ∨ m.h = Hd.zero) : m.ok = true := by
  unfold Mg.ok
  simp only [Bool.and_eq_true, Bool.or_eq_true]
  refine ⟨⟨⟨⟨⟨⟨⟨h1, (inI_iff _ _ _).2 h2⟩, (epI_iff _).2 h3⟩, ?_⟩, (inI_iff _ _ _).2 h5⟩, h6⟩, (epI_iff _).2 h7⟩, ?_⟩
  · simp [itemOk]; exact h4
  · rcases h8 with h | h
    · exact .inl h
    · exact .inr (by rw [h]; rfl)
end Go.Proofs.YtkenbanaodbooaaGreatDoor
/- Rows of houses and rows of events in memory: who reads one, who owns one; a pair as the three of them. -/
namespace Go.Proofs.YtkenbanaodbooaaGreatDoor
open Go.ChangeShapes Go.WideShapes Go.ChangeAt Go.RowKit

/- A house with where its five lists lie. -/
structure Nv where
  a : Value
  b : Value
  k : Value
  q : Value
  z : Value
  n : Nd
def Nv.A (x : Nv) : Array Value := ndA x.a x.b x.k x.q x.z x.n
def Nv.rd (w : World) (x : Nv) : Prop := RdN w x.a x.b x.k x.q x.z x.n
def Nv.mine (w : World) (base : Nat) (x : Nv) : Prop := MineN w base x.a x.b x.k x.q x.z x.n
def Nv.bl (x : Nv) : List Nat := own5 x.a x.b x.k x.q x.z x.n
def nsC (ns : List Nv) : List (Array Value) := ns.map Nv.A
def nsOf (ns : List Nv) : List Nd := ns.map (·.n)
def nsB (ns : List Nv) : List Nat := ns.flatMap Nv.bl
theorem nsC_len (ns : List Nv) : (nsC ns).length = ns.length := by simp [nsC]
theorem nsOf_len (ns : List Nv) : (nsOf ns).length = ns.length := by simp [nsOf]
theorem nsC_sz (ns : List Nv) : ∀ cs ∈ nsC ns, cs.size = 20 := by
  intro cs h
  obtain ⟨p, _, rfl⟩ := List.mem_map.1 h
  rfl
theorem nsOf_at {ns : List Nv} {j : Nat} {x : Nv} (e : ns[j]? = some x) : (nsOf ns)[j]? = some x.n := by simp [nsOf, e]
structure RdNs (w : World) (v : Value) (ns : List Nv) : Prop where
  row : RdRow w 20 v (nsC ns)
  key : ∀ x ∈ ns, x.rd w
theorem RdNs.below {w w' : World} {v : Value} {ns : List Nv} (h : RdNs w v ns) (b : Below w.heap.size w w') : RdNs w' v ns :=
  ⟨h.row.below b (Nat.le_refl _), fun x hx => RdN.below (h.key x hx) b⟩
theorem RdNs.form {w : World} {v : Value} {ns : List Nv} (h : RdNs w v ns) : ∃ ao cap, v = .slice ao ns.length cap := by
  obtain ⟨ao, cap, e⟩ := h.row.form
  rw [nsC_len] at e
  exact ⟨ao, cap, e⟩
theorem RdNs.el {w : World} {ao : Option Addr} {n cap : Nat} {ns : List Nv} (h : RdNs w (.slice ao n cap) ns) : n = ns.length ∧ n ≤ cap ∧ cap ≤ maxLen ∧
    ∀ j, j < n → ∃ b off x, ns[j]? = some x ∧ ao = some ⟨b, off, none⟩ ∧ x.rd w ∧ ∀ i, i < 20 → w.cell? ⟨b, off + j * 20 + i, none⟩ = x.A[i]? := by
  obtain ⟨h1, h2, h3, h4⟩ := h.row.el
  rw [nsC_len] at h1
  refine ⟨h1, h2, h3, fun j hj => ?_⟩
  obtain ⟨b, off, e, _, hc⟩ := h4 j hj
  have hp : ns[j]? = some ns[j] := List.getElem?_eq_getElem (by omega)
  refine ⟨b, off, ns[j], hp, e, h.key _ (List.getElem_mem (by omega)), fun i hi => ?_⟩
  rw [Nat.add_assoc, hc i hi]
  simp [nsC, List.getD, hp]
/- No list of it is great. -/
def SmNs (ns : List Nv) : Prop := ∀ x ∈ ns, SmN x.n
theorem SmNs.at {ns : List Nv} (h : SmNs ns) {j : Nat} {x : Nv} (e : ns[j]? = some x) : SmN x.n := h _ (List.mem_of_getElem? e)
/- A row of houses of the call's own. -/
structure OwnNs (w : World) (base : Nat) (v : Value) (ns : List Nv) : Prop where
  row : OwnRow w base 54 20 v (nsC ns)
  key : ∀ x ∈ ns, x.mine w base
  ap : ns.Pairwise fun p q => ∀ x ∈ p.bl, x ∉ q.bl
theorem OwnNs.rd {w : World} {base : Nat} {v : Value} {ns : List Nv} (h : OwnNs w base v ns) : RdNs w v ns := ⟨h.row.rd, fun x hx => MineN.reads (h.key x hx)⟩
theorem OwnNs.nil (w : World) (base : Nat) : OwnNs w base (.slice none 0 0) [] := ⟨OwnRow.nil _ _ _ _, by simp, List.Pairwise.nil⟩
theorem OwnNs.lit (w : World) (base : Nat) (hb : base ≤ w.heap.size) : OwnNs (w.alloc (.cells #[] 54)) base (.slice (some ⟨w.heap.size, 0, none⟩) 0 0) [] := ⟨OwnRow.lit _ _ _ _ hb, by simp, List.Pairwise.nil⟩
def nvB (v : Value) (ns : List Nv) : List Nat := blk v ++ nsB ns
theorem OwnNs.mono {w : World} {base base' : Nat} {v : Value} {ns : List Nv} (h : OwnNs w base v ns) (hb : base' ≤ base) : OwnNs w base' v ns := ⟨h.row.mono hb, fun x hx => MineN.mono (h.key x hx) hb, h.ap⟩
theorem nsB_in {ns : List Nv} {p : Nv} (hp : p ∈ ns) {x : Nat} (hx : x ∈ p.bl) : x ∈ nsB ns := List.mem_flatMap.2 ⟨p, hp, hx⟩
theorem OwnNs.frame {w w' : World} {base : Nat} {v : Value} {ns : List Nv} (h : OwnNs w base v ns) (e : ∀ x ∈ nvB v ns, w'.heap[x]? = w.heap[x]?) : OwnNs w' base v ns :=
  ⟨h.row.frame (fun x hx => e x (List.mem_append_left _ hx)), fun p hp => MineN.frame (h.key p hp) (fun x hx => e x (List.mem_append_right _ (nsB_in hp hx))), h.ap⟩
theorem OwnNs.lt {w : World} {base : Nat} {v : Value} {ns : List Nv} (h : OwnNs w base v ns) : ∀ x ∈ nvB v ns, base ≤ x ∧ x < w.heap.size := by
  intro x hx
  rcases List.mem_append.1 hx with hx | hx
  · exact h.row.lt x hx
  · obtain ⟨p, hp, hx⟩ := List.mem_flatMap.1 hx
    exact MineN.lt (h.key p hp) hx
theorem OwnNs.below {w w' : World} {base : Nat} {v : Value} {ns : List Nv} (h : OwnNs w base v ns) (b : Below w.heap.size w w') : OwnNs w' base v ns := h.frame (fun x hx => b.block x (h.lt x hx).2)
/- Its lists lie in other blocks than its row. -/
theorem Own.besides {w : World} {base B : Nat} {t : TypeId} {k : Nat} {u v : Value} {xs : List Int} {css : List (Array Value)} (h : Own w base u xs) (r : OwnRow w B t k v css) (ht : t ≠ 2) : ∀ x ∈ blk u, x ∉ blk v := by
  intro x hx hv
  have hu : u.ownBlock = some x := by simpa [blk] using hx
  have hv' : v.ownBlock = some x := by simpa [blk] using hv
  rcases h.2 with ⟨rfl, _⟩ | ⟨g, cap, cur, rfl, _, hg, _⟩
  · simp [Value.ownBlock] at hu
  · rcases r.ow.2 with ⟨rfl, _⟩ | ⟨g', cap', cur', rfl, _, hg', _⟩
    · simp [Value.ownBlock] at hv'
    · simp only [Value.ownBlock, Option.some.injEq] at hu hv'
      subst hu
      subst hv'
      rw [hg] at hg'
      simp only [Option.some.injEq, Obj.cells.injEq] at hg'
      exact ht hg'.2.1.symm
theorem MineN.besides {w : World} {base B : Nat} {t : TypeId} {k : Nat} {v : Value} {x : Nv} {css : List (Array Value)} (h : x.mine w base) (r : OwnRow w B t k v css) (ht : t ≠ 2) : ∀ y ∈ x.bl, y ∉ blk v := by
  intro y hy
  rcases own5_in.1 hy with hy | hy | hy | hy | hy
  · exact Own.besides (MineN.oa h) r ht y hy
  · exact Own.besides (MineN.ob h) r ht y hy
  · exact Own.besides (MineN.ok h) r ht y hy
  · exact Mine.besides (MineN.oq h) r ht y hy
  · exact Mine.besides (MineN.oz h) r ht y hy
theorem MineN.keptRow {w w' : World} {base B : Nat} {t : TypeId} {k : Nat} {v : Value} {x : Nv} {css : List (Array Value)} (h : x.mine w base) (r : OwnRow w B t k v css) (ht : t ≠ 2) (g : w.grownBy w' v.ownBlock) : x.mine w' base :=
  MineN.frame h (fun y hy => g.block y (MineN.lt h hy).2 (fun e => MineN.besides h r ht y hy (by simp [blk, ← e])))
/- A house more; one is put in place. -/
theorem OwnNs.push {w1 w2 w4 : World} {base : Nat} {v v' : Value} {x : Nv} {ns : List Nv} {o : Obj} (h : OwnNs w1 base v ns) (hu : x.mine w2 w1.heap.size) (b : Below w1.heap.size w1 w2) (hb : base ≤ w1.heap.size)
    (hown : w4.ownsRow base 54 20 v' ((nsC ns).length + 1) (flatC (nsC ns) ++ x.A.toList)) (hg : (w2.alloc o).grownBy w4 v.ownBlock) : OwnNs w4 base v' (ns ++ [x]) := by
  have B3 : Below w2.heap.size w2 (w2.alloc o) := (Below.refl _ _).alloc (Nat.le_refl _) _
  have h3 := (h.below b).below B3
  have u3 : x.mine (w2.alloc o) w1.heap.size := MineN.below hu B3
  have e : flatC (nsC (ns ++ [x])) = flatC (nsC ns) ++ x.A.toList := by simp [nsC, flatC]
  refine ⟨⟨nsC_sz _, ?_⟩, ?_, ?_⟩
  · rw [e, show (nsC (ns ++ [x])).length = (nsC ns).length + 1 by simp [nsC]]
    exact hown
  · intro p hp
    rcases List.mem_append.1 hp with hp | hp
    · exact MineN.keptRow (h3.key p hp) h3.row (by decide) hg
    · have : p = x := by simpa using hp
      subst this
      exact MineN.mono (MineN.keptRow u3 h3.row (by decide) hg) hb
  · refine List.pairwise_append.2 ⟨h.ap, by simp, fun p hp q hq y hy hz => ?_⟩
    have : q = x := by simpa using hq
    subst this
    have h1 := (MineN.lt (h.key p hp) hy).2
    have h2 := (MineN.lt hu hz).1
    omega
theorem OwnNs.setAt {w1 w2 w4 : World} {base j : Nat} {v : Value} {x : Nv} {ns : List Nv} (h : OwnNs w1 base v ns) (hu : x.mine w2 w1.heap.size) (b : Below w1.heap.size w1 w2) (hb : base ≤ w1.heap.size)
    (hrow : OwnRow w4 base 54 20 v ((nsC ns).set j x.A)) (hg : w2.grownBy w4 v.ownBlock) : OwnNs w4 base v (ns.set j x) := by
  have h2 := h.below b
  refine ⟨?_, fun p hp => ?_, ?_⟩
  · rw [show nsC (ns.set j x) = (nsC ns).set j x.A by simp [nsC, List.map_set]]
    exact hrow
  · rcases List.mem_or_eq_of_mem_set hp with hp | rfl
    · exact MineN.keptRow (h2.key p hp) h2.row (by decide) hg
    · exact MineN.mono (MineN.keptRow hu h2.row (by decide) hg) hb
  · refine pairwise_set ns j x h.ap (fun q hq y hx hy => ?_) (fun q hq y hx hy => ?_)
    · have h1 := (MineN.lt (h.key q hq) hx).2
      have h3 := (MineN.lt hu hy).1
      omega
    · have h1 := (MineN.lt (h.key q hq) hy).2
      have h3 := (MineN.lt hu hx).1
      omega
def nilN : Nv := ⟨.slice none 0 0, .slice none 0 0, .slice none 0 0, .slice none 0 0, .slice none 0 0, Nd.zero⟩
theorem nilN_A : nilN.A = zeroNd := rfl
theorem madeN_flat (n : Nat) : (madeCells zeroNd (n * 20)).toList = flatC (nsC (List.replicate n nilN)) := by
  have hz : zeroNd.size = 20 := rfl
  apply List.ext_getElem?
  intro i
  by_cases hi : i < n * 20
  · have e : i = i / 20 * 20 + i % 20 := by omega
    have h2 := flatC_at (nsC (List.replicate n nilN)) (nsC_sz _) (i / 20) (i % 20) (by rw [nsC_len, List.length_replicate]; omega) (by omega)
    rw [← e] at h2
    have h3 : (nsC (List.replicate n nilN)).getD (i / 20) #[] = zeroNd := by
      have : i / 20 < n := by omega
      simp [nsC, List.getD, this]
      rfl
    rw [h2, h3]
    have hlt : i % 20 < zeroNd.size := by rw [hz]; omega
    have h4 : (madeCells zeroNd (n * 20)).toList[i]? = some zeroNd[i % 20]! := by simp [madeCells, hi, hz]
    rw [h4, getElem!_pos zeroNd (i % 20) hlt, Array.getElem?_eq_getElem hlt]
  · rw [List.getElem?_eq_none (by rw [Array.length_toList, size_madeCells]; omega), List.getElem?_eq_none (by rw [flatC_len _ (nsC_sz _), nsC_len, List.length_replicate]; omega)]
theorem OwnNs.made {w w1 : World} {n : Nat} {g : Nat} (h : w1.ownsRow w.heap.size 54 20 (.slice (some ⟨g, 0, none⟩) n n) n (madeCells zeroNd (n * 20)).toList) : OwnNs w1 w.heap.size (.slice (some ⟨g, 0, none⟩) n n) (List.replicate n nilN) := by
  refine ⟨⟨nsC_sz _, ?_⟩, fun p hp => ?_, ?_⟩
  · rw [← madeN_flat, nsC_len, List.length_replicate]
    exact h
  · rw [List.eq_of_mem_replicate hp]
    exact MineN.nil _ _
  · refine List.pairwise_replicate.2 (.inr ?_)
    intro x hx
    rw [show nilN.bl = [] from by simp [nilN, Nv.bl, own5, blk, Value.ownBlock, mineOf]] at hx
    simp at hx
/- A row of houses as a thing of the state. -/
def NsI (v : Value) (ns : List Nv) : Item := ⟨nvB v ns, 0, fun w => OwnNs w 0 v ns, fun _ _ e _ h => h.frame e⟩
theorem Sta.nodes {w wx wy : World} {L : List Item} {v : Value} {ns : List Nv} (h : Sta w wx L) (o : OwnNs wy wx.heap.size v ns) (b : Below wx.heap.size wx wy) : Sta w wy (NsI v ns :: L) :=
  h.add b (NsI v ns) (o.mono (Nat.zero_le _)) o.lt
theorem Sta.rdNs {w wx : World} {L : List Item} {v : Value} {ns : List Nv} (h : Sta w wx L) (i : Nat) (e : L[i]? = some (NsI v ns)) : RdNs wx v ns := (h.get i e).rd

/- Events. -/
def evA (e : Ev) : Array Value := #[.int .i64 e.kd, .int .i64 e.who, S e.bs, .int .i64 e.an.st, S e.an.tx, .int .i64 e.set]
def EvV (e : Ev) : Value := .agg (evA e)
theorem evA_one (e : Ev) : (evA e).all (·.oneCell') = true := by simp [evA, S, Value.oneCell']
def evC (es : List Ev) : List (Array Value) := es.map evA
theorem evC_len (es : List Ev) : (evC es).length = es.length := by simp [evC]
theorem evC_sz (es : List Ev) : ∀ cs ∈ evC es, cs.size = 6 := by
  intro cs h
  obtain ⟨p, _, rfl⟩ := List.mem_map.1 h
  rfl
def Ev.zero : Ev := ⟨0, 0, [], ⟨0, []⟩, 0⟩
def RdE (w : World) (v : Value) (es : List Ev) : Prop := RdRow w 6 v (evC es)
def OwnE (w : World) (base : Nat) (v : Value) (es : List Ev) : Prop := OwnRow w base 60 6 v (evC es)
theorem RdE.below {w w' : World} {v : Value} {es : List Ev} (h : RdE w v es) (b : Below w.heap.size w w') : RdE w' v es := RdRow.below h b (Nat.le_refl _)
theorem RdE.form {w : World} {v : Value} {es : List Ev} (h : RdE w v es) : ∃ ao cap, v = .slice ao es.length cap := by
  obtain ⟨ao, cap, e⟩ := RdRow.form h
  rw [evC_len] at e
  exact ⟨ao, cap, e⟩
theorem RdE.el {w : World} {ao : Option Addr} {n cap : Nat} {es : List Ev} (h : RdE w (.slice ao n cap) es) : n = es.length ∧ n ≤ cap ∧ cap ≤ maxLen ∧
    ∀ j, j < n → ∃ b off e, es[j]? = some e ∧ ao = some ⟨b, off, none⟩ ∧ ∀ i, i < 6 → w.cell? ⟨b, off + j * 6 + i, none⟩ = (evA e)[i]? := by
  obtain ⟨h1, h2, h3, h4⟩ := RdRow.el h
  rw [evC_len] at h1
  refine ⟨h1, h2, h3, fun j hj => ?_⟩
  obtain ⟨b, off, e, _, hc⟩ := h4 j hj
  have hp : es[j]? = some es[j] := List.getElem?_eq_getElem (by omega)
  refine ⟨b, off, es[j], hp, e, fun i hi => ?_⟩
  rw [Nat.add_assoc, hc i hi]
  simp [evC, List.getD, hp]
theorem OwnE.rd {w : World} {base : Nat} {v : Value} {es : List Ev} (h : OwnE w base v es) : RdE w v es := OwnRow.rd h
theorem OwnE.nil (w : World) (base : Nat) : OwnE w base (.slice none 0 0) [] := OwnRow.nil _ _ _ _
theorem OwnE.lit (w : World) (base : Nat) (hb : base ≤ w.heap.size) : OwnE (w.alloc (.cells #[] 60)) base (.slice (some ⟨w.heap.size, 0, none⟩) 0 0) [] := OwnRow.lit _ _ _ _ hb
theorem OwnE.frame {w w' : World} {base : Nat} {v : Value} {es : List Ev} (h : OwnE w base v es) (e : ∀ x ∈ blk v, w'.heap[x]? = w.heap[x]?) : OwnE w' base v es := OwnRow.frame h e
theorem OwnE.lt {w : World} {base : Nat} {v : Value} {es : List Ev} (h : OwnE w base v es) : ∀ x ∈ blk v, base ≤ x ∧ x < w.heap.size := OwnRow.lt h
theorem OwnE.below {w w' : World} {base : Nat} {v : Value} {es : List Ev} (h : OwnE w base v es) (b : Below w.heap.size w w') : OwnE w' base v es := OwnRow.below h b
theorem OwnE.mono {w : World} {base base' : Nat} {v : Value} {es : List Ev} (h : OwnE w base v es) (hb : base' ≤ base) : OwnE w base' v es := OwnRow.mono h hb
/- Bytes in a row of events, and how many of them. -/
def totE (es : List Ev) : Nat := (es.map fun e => e.bs.length + e.an.tx.length).sum
def totN (ns : List Nd) : Nat := (ns.map fun n => n.len + n.log.length).sum
def zeroEv : Array Value := #[.int .i64 0, .int .i64 0, .string ⟨#[]⟩, .int .i64 0, .string ⟨#[]⟩, .int .i64 0]
theorem zeroEv_is : evA Ev.zero = zeroEv := rfl
theorem madeE_flat (n : Nat) : (madeCells zeroEv (n * 6)).toList = flatC (evC (List.replicate n Ev.zero)) := by
  have hz : zeroEv.size = 6 := rfl
  apply List.ext_getElem?
  intro i
  by_cases hi : i < n * 6
  · have e : i = i / 6 * 6 + i % 6 := by omega
    have h2 := flatC_at (evC (List.replicate n Ev.zero)) (evC_sz _) (i / 6) (i % 6) (by rw [evC_len, List.length_replicate]; omega) (by omega)
    rw [← e] at h2
    have h3 : (evC (List.replicate n Ev.zero)).getD (i / 6) #[] = zeroEv := by
      have : i / 6 < n := by omega
      simp [evC, List.getD, this]
      rfl
    rw [h2, h3]
    have hlt : i % 6 < zeroEv.size := by rw [hz]; omega
    have h4 : (madeCells zeroEv (n * 6)).toList[i]? = some zeroEv[i % 6]! := by simp [madeCells, hi, hz]
    rw [h4, getElem!_pos zeroEv (i % 6) hlt, Array.getElem?_eq_getElem hlt]
  · rw [List.getElem?_eq_none (by rw [Array.length_toList, size_madeCells]; omega), List.getElem?_eq_none (by rw [flatC_len _ (evC_sz _), evC_len, List.length_replicate]; omega)]
theorem OwnE.made {w w1 : World} {n : Nat} {g : Nat} (h : w1.ownsRow w.heap.size 60 6 (.slice (some ⟨g, 0, none⟩) n n) n (madeCells zeroEv (n * 6)).toList) : OwnE w1 w.heap.size (.slice (some ⟨g, 0, none⟩) n n) (List.replicate n Ev.zero) := by
  refine ⟨evC_sz _, ?_⟩
  rw [← madeE_flat, evC_len, List.length_replicate]
  exact h
theorem OwnE.push {w1 w4 : World} {base : Nat} {v v' : Value} {e : Ev} {es : List Ev} (_h : OwnE w1 base v es) (hown : w4.ownsRow base 60 6 v' ((evC es).length + 1) (flatC (evC es) ++ (evA e).toList)) : OwnE w4 base v' (es ++ [e]) := by
  have e1 : flatC (evC (es ++ [e])) = flatC (evC es) ++ (evA e).toList := by simp [evC, flatC]
  refine ⟨evC_sz _, ?_⟩
  rw [e1, show (evC (es ++ [e])).length = (evC es).length + 1 by simp [evC]]
  exact hown
theorem OwnE.setAt {w4 : World} {base j : Nat} {v : Value} {e : Ev} {es : List Ev} (hrow : OwnRow w4 base 60 6 v ((evC es).set j (evA e))) : OwnE w4 base v (es.set j e) := by
  show OwnRow w4 base _ 6 v (evC (es.set j e))
  rw [show evC (es.set j e) = (evC es).set j (evA e) by simp [evC, List.map_set]]
  exact hrow
def EvI (v : Value) (es : List Ev) : Item := ⟨blk v, 0, fun w => OwnE w 0 v es, fun _ _ e _ h => h.frame e⟩
theorem Sta.events {w wx wy : World} {L : List Item} {v : Value} {es : List Ev} (h : Sta w wx L) (o : OwnE wy wx.heap.size v es) (b : Below wx.heap.size wx wy) : Sta w wy (EvI v es :: L) :=
  h.add b (EvI v es) (o.mono (Nat.zero_le _)) o.lt
theorem Sta.rdE {w wx : World} {L : List Item} {v : Value} {es : List Ev} (h : Sta w wx L) (i : Nat) (e : L[i]? = some (EvI v es)) : RdE wx v es := (h.get i e).rd

/- Pairs, whatever they hold. -/
structure Pa where
  ns : List Nd
  ms : List Mg
  es : List Ev
def prA (u v x : Value) : Array Value := #[u, v, x]
def PrV (u v x : Value) : Value := .agg (prA u v x)
theorem Tryz.isPr : IsS 33 3 := ⟨⟨_, Tryz.underlying33⟩, by kernel_rfl⟩
structure RdPr (w : World) (u v x : Value) (ns : List Nv) (ps : List (Value × Mg)) (es : List Ev) : Prop where
  rn : RdNs w u ns
  rp : RdP w v ps
  re : RdE w x es
theorem RdPr.below {w w' : World} {u v x : Value} {ns : List Nv} {ps : List (Value × Mg)} {es : List Ev} (h : RdPr w u v x ns ps es) (b : Below w.heap.size w w') : RdPr w' u v x ns ps es := ⟨h.rn.below b, h.rp.below b, h.re.below b⟩
end Go.Proofs.YtkenbanaodbooaaGreatDoor
