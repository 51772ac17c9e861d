/- One owner, plainly: what stands between two houses and the letters on the way, whatever they do. -/
import Derived.Test.YtkenbanaodbooaaGreatDoorM25
namespace Go.Proofs.YtkenbanaodbooaaGreatDoor
open Go.RowKit

/- X moves, Y receives; P: the letters on the way. -/
structure Dir (X Y : Nd) (P : List Mg) : Prop where
  seen : Y.r.n ≤ X.r.t
  fwd : ∀ m ∈ P, m.dst = Y.id → (m.kd = 1 ∨ m.kd = 3 ∨ m.kd = 5 ∨ m.kd = 7) → m.tr ≤ X.r.t
  bwd : ∀ m ∈ P, m.dst = X.id → (m.kd = 2 ∨ m.kd = 4 ∨ m.kd = 6 ∨ m.kd = 8) → m.tr ≤ X.r.t
  cur : (X.r.s = 2 ∨ X.r.s = 1 ∧ X.c.tr ≠ 0) → ∀ m ∈ P, m.dst = Y.id → (m.kd = 5 ∨ m.kd = 7) → m.tr = X.r.t → m.ep = X.r.e
  tak : (X.r.s = 2 ∨ X.r.s = 1 ∧ X.c.tr ≠ 0) → ∀ m ∈ P, m.dst = X.id → m.kd = 6 → m.tr = X.r.t → m.ep = X.r.e + 1 ∧ X.r.e < Y.r.e
  can : ∀ m ∈ P, m.dst = Y.id → m.kd = 5 → (Y.r.n < m.tr ∨ Y.s.tr ≠ 0 ∧ Y.s.tr = m.tr) → Y.r.e ≤ m.ep → X.r.s = 2 ∧ X.r.t = m.tr
  nos : ∀ m ∈ P, m.dst = X.id → m.kd = 8 → m.tr ≤ Y.r.n ∧ (Y.s.tr = 0 ∨ Y.s.tr ≠ m.tr)
  noo : X.r.s = 2 → Y.r.s = 1 → ∀ m ∈ P, m.dst = X.id → m.kd = 8 → m.tr ≠ X.r.t
  rdo : X.r.s = 2 → Y.r.s = 1 → Y.c.op = false
  rdy : X.r.s = 2 → Y.r.s = 1 → ∀ m ∈ P, m.dst = Y.id → m.kd = 2 → Y.c.tr = 0 ∨ m.tr ≠ Y.c.tr
  st : (X.r.s = 1 ∧ Y.r.s = 3 ∧ Y.r.e ≤ X.r.e) ∨ (X.r.s = 2 ∧ Y.r.s = 3 ∧ Y.r.e ≤ X.r.e) ∨ (X.r.s = 2 ∧ Y.r.s = 1 ∧ X.r.e < Y.r.e) ∨ (X.r.s = 1 ∧ Y.r.s = 2 ∧ Y.r.e < X.r.e) ∨ (X.r.s = 3 ∧ Y.r.s = 1 ∧ X.r.e ≤ Y.r.e) ∨ (X.r.s = 3 ∧ Y.r.s = 2 ∧ X.r.e ≤ Y.r.e)
structure Two (X Y : Nd) (P : List Mg) : Prop where
  x : NdR X
  y : NdR Y
  ne : X.id ≠ Y.id
  f : Dir X Y P
  b : Dir Y X P
theorem Two.swap {X Y : Nd} {P : List Mg} (h : Two X Y P) : Two Y X P := ⟨h.y, h.x, fun e => h.ne e.symm, h.b, h.f⟩
/- Fewer letters. -/
theorem Dir.sub {X Y : Nd} {P Q : List Mg} (h : Dir X Y P) (hs : ∀ m ∈ Q, m ∈ P) : Dir X Y Q :=
  ⟨h.seen, fun m hm => h.fwd m (hs m hm), fun m hm => h.bwd m (hs m hm), fun a m hm => h.cur a m (hs m hm), fun a m hm => h.tak a m (hs m hm), fun m hm => h.can m (hs m hm), fun m hm => h.nos m (hs m hm), fun a b m hm => h.noo a b m (hs m hm), h.rdo, fun a b m hm => h.rdy a b m (hs m hm), h.st⟩
theorem Two.sub {X Y : Nd} {P Q : List Mg} (h : Two X Y P) (hs : ∀ m ∈ Q, m ∈ P) : Two X Y Q := ⟨h.x, h.y, h.ne, h.f.sub hs, h.b.sub hs⟩
/- A house that has the same record, and copies or takes what it did, or nothing. -/
structure Less (N' N : Nd) : Prop where
  r : N'.r = N.r
  id : N'.id = N.id
  c : N'.c.tr = 0 ∨ N'.c.tr = N.c.tr
  s : N'.s.tr = 0 ∨ N'.s.tr = N.s.tr
  op : N.c.op = false → N'.c.op = false
theorem Dir.lessX {X X' Y : Nd} {P : List Mg} (h : Dir X Y P) (l : Less X' X) : Dir X' Y P := by
  obtain ⟨lr, lid, lc, ls, lo⟩ := l
  refine ⟨?_, ?_, ?_, ?_, ?_, ?_, ?_, ?_, ?_, ?_, ?_⟩
  all_goals (try rw [lr]); (try rw [lid])
  · exact h.seen
  · exact h.fwd
  · exact h.bwd
  · intro a; exact h.cur (by omega)
  · intro a; exact h.tak (by omega)
  · exact h.can
  · exact h.nos
  · exact h.noo
  · exact h.rdo
  · exact h.rdy
  · exact h.st
theorem Dir.lessY {X Y Y' : Nd} {P : List Mg} (h : Dir X Y P) (l : Less Y' Y) : Dir X Y' P := by
  obtain ⟨lr, lid, lc, ls, lo⟩ := l
  refine ⟨?_, ?_, ?_, ?_, ?_, ?_, ?_, ?_, ?_, ?_, ?_⟩
  all_goals (try rw [lr]); (try rw [lid])
  · exact h.seen
  · exact h.fwd
  · exact h.bwd
  · exact h.cur
  · exact h.tak
  · intro m hm h1 h2 h3; exact h.can m hm h1 h2 (by omega)
  · intro m hm h1 h2
    have := h.nos m hm h1 h2
    omega
  · exact h.noo
  · intro a b; exact lo (h.rdo a b)
  · intro a b m hm h1 h2
    have := h.rdy a b m hm h1 h2
    omega
  · exact h.st
theorem Two.less {X X' Y : Nd} {P : List Mg} (h : Two X Y P) (hx : NdR X') (l : Less X' X) : Two X' Y P := ⟨hx, h.y, by rw [l.id]; exact h.ne, h.f.lessX l, h.b.lessY l⟩
/- One more letter, from X to Y. -/
theorem Two.say {X Y : Nd} {P : List Mg} (h : Two X Y P) (m : Mg) (hd : m.dst = Y.id) (h1 : (m.kd = 1 ∨ m.kd = 3 ∨ m.kd = 5 ∨ m.kd = 7) → m.tr ≤ X.r.t) (h2 : (m.kd = 5 ∨ m.kd = 7) → m.tr = X.r.t → m.ep = X.r.e)
    (h3 : m.kd = 5 → X.r.s = 2 ∧ X.r.t = m.tr) (h4 : m.kd = 2 → X.r.s = 3) (h5 : (m.kd = 2 ∨ m.kd = 4 ∨ m.kd = 6 ∨ m.kd = 8) → m.tr ≤ Y.r.t)
    (h6 : m.kd = 6 → (Y.r.s = 2 ∨ Y.r.s = 1 ∧ Y.c.tr ≠ 0) → m.tr = Y.r.t → m.ep = Y.r.e + 1 ∧ Y.r.e < X.r.e) (h7 : m.kd = 8 → m.tr ≤ X.r.n ∧ (X.s.tr = 0 ∨ X.s.tr ≠ m.tr) ∧ X.r.s = 3) : Two X Y (P ++ [m]) := by
  have hn := h.ne
  have hm : ∀ x ∈ P ++ [m], x ∈ P ∨ x = m := by
    intro x hx
    simpa using hx
  obtain ⟨hx, hy, -, f, b⟩ := h
  refine ⟨hx, hy, hn, ⟨f.seen, ?_, ?_, ?_, ?_, ?_, ?_, ?_, f.rdo, ?_, f.st⟩, ⟨b.seen, ?_, ?_, ?_, ?_, ?_, ?_, ?_, b.rdo, ?_, b.st⟩⟩
  · intro x h0 e1 e2; rcases hm x h0 with h0 | rfl
    · exact f.fwd x h0 e1 e2
    · exact h1 e2
  · intro x h0 e1 e2; rcases hm x h0 with h0 | rfl
    · exact f.bwd x h0 e1 e2
    · exact absurd (e1.symm.trans hd) hn
  · intro a x h0 e1 e2 e3; rcases hm x h0 with h0 | rfl
    · exact f.cur a x h0 e1 e2 e3
    · exact h2 e2 e3
  · intro a x h0 e1 e2 e3; rcases hm x h0 with h0 | rfl
    · exact f.tak a x h0 e1 e2 e3
    · exact absurd (e1.symm.trans hd) hn
  · intro x h0 e1 e2 e3 e4; rcases hm x h0 with h0 | rfl
    · exact f.can x h0 e1 e2 e3 e4
    · exact h3 e2
  · intro x h0 e1 e2; rcases hm x h0 with h0 | rfl
    · exact f.nos x h0 e1 e2
    · exact absurd (e1.symm.trans hd) hn
  · intro a1 a2 x h0 e1 e2; rcases hm x h0 with h0 | rfl
    · exact f.noo a1 a2 x h0 e1 e2
    · exact absurd (e1.symm.trans hd) hn
  · intro a1 a2 x h0 e1 e2; rcases hm x h0 with h0 | rfl
    · exact f.rdy a1 a2 x h0 e1 e2
    · exact absurd (h4 e2) (by rw [a1]; decide)
  · intro x h0 e1 e2; rcases hm x h0 with h0 | rfl
    · exact b.fwd x h0 e1 e2
    · exact absurd (e1.symm.trans hd) hn
  · intro x h0 e1 e2; rcases hm x h0 with h0 | rfl
    · exact b.bwd x h0 e1 e2
    · exact h5 e2
  · intro a x h0 e1 e2 e3; rcases hm x h0 with h0 | rfl
    · exact b.cur a x h0 e1 e2 e3
    · exact absurd (e1.symm.trans hd) hn
  · intro a x h0 e1 e2 e3; rcases hm x h0 with h0 | rfl
    · exact b.tak a x h0 e1 e2 e3
    · exact h6 e2 a e3
  · intro x h0 e1 e2 e3 e4; rcases hm x h0 with h0 | rfl
    · exact b.can x h0 e1 e2 e3 e4
    · exact absurd (e1.symm.trans hd) hn
  · intro x h0 e1 e2; rcases hm x h0 with h0 | rfl
    · exact b.nos x h0 e1 e2
    · exact ⟨(h7 e2).1, (h7 e2).2.1⟩
  · intro a1 a2 x h0 e1 e2; rcases hm x h0 with h0 | rfl
    · exact b.noo a1 a2 x h0 e1 e2
    · exact absurd (h7 e2).2.2 (by rw [a2]; decide)
  · intro a1 a2 x h0 e1 e2; rcases hm x h0 with h0 | rfl
    · exact b.rdy a1 a2 x h0 e1 e2
    · exact absurd (e1.symm.trans hd) hn
/- A house with another record. -/
theorem Two.moved {X X' Y : Nd} {P : List Mg} (h : Two X Y P) (hx : NdR X') (id : X'.id = X.id) (hs : X.r.s = 1) (e : X'.r.e = X.r.e) (s' : X'.r.s = 1) (t : X'.r.t = X.r.t + 1) (n : X'.r.n = X.r.n) (c : X'.c.tr = X.r.t + 1) (hop : X'.c.op = false) (k : X'.s.tr = X.s.tr) : Two X' Y P := by
  obtain ⟨-, hy, hn, f, b⟩ := h
  have fs := f.st
  have bs := b.st
  have fe := f.seen
  have be := b.seen
  refine ⟨hx, hy, by rw [id]; exact hn, ⟨?_, ?_, ?_, ?_, ?_, ?_, ?_, ?_, ?_, ?_, ?_⟩, ⟨?_, ?_, ?_, ?_, ?_, ?_, ?_, ?_, ?_, ?_, ?_⟩⟩
  · omega
  · intro x h0 e1 e2; have t1 := f.fwd x h0; omega
  · intro x h0 e1 e2; rw [id] at e1; have t1 := f.bwd x h0; omega
  · intro a x h0 e1 e2 e3; have t1 := fun a => f.cur a x h0; have t2 := f.fwd x h0; omega
  · intro a x h0 e1 e2 e3; rw [id] at e1; have t1 := fun a => f.tak a x h0; have t2 := f.bwd x h0; omega
  · intro x h0 e1 e2 e3 e4; have t1 := f.can x h0; have t2 := fun a => f.cur a x h0; omega
  · intro x h0 e1 e2; rw [id] at e1; have t1 := f.nos x h0; omega
  · intro a1 a2 x h0 e1 e2; rw [id] at e1; have t1 := fun a b => f.noo a b x h0; have t2 := f.bwd x h0; have t3 := f.nos x h0; omega
  · intro a1 a2; first | (exfalso; omega) | exact f.rdo (by omega) (by omega)
  · intro a1 a2 x h0 e1 e2; have t1 := fun a b => f.rdy a b x h0; have t2 := b.bwd x h0; omega
  · omega
  · omega
  · intro x h0 e1 e2; rw [id] at e1; have t1 := b.fwd x h0; omega
  · intro x h0 e1 e2; have t1 := b.bwd x h0; omega
  · intro a x h0 e1 e2 e3; rw [id] at e1; have t1 := fun a => b.cur a x h0; omega
  · intro a x h0 e1 e2 e3; have t1 := fun a => b.tak a x h0; omega
  · intro x h0 e1 e2 e3 e4; rw [id] at e1; have t1 := b.can x h0; omega
  · intro x h0 e1 e2; have t1 := b.nos x h0; omega
  · intro a1 a2 x h0 e1 e2; have t1 := fun a b' => b.noo a b' x h0; have t2 := b.nos x h0; omega
  · intro a1 a2; first | (exfalso; omega) | exact hop | exact hop (b.rdo (by omega) (by omega))
  · intro a1 a2 x h0 e1 e2; rw [id] at e1; have t1 := fun a b' => b.rdy a b' x h0; have t2 := f.bwd x h0; omega
  · omega
theorem Two.gave {X X' Y : Nd} {P : List Mg} (h : Two X Y P) (hx : NdR X') (id : X'.id = X.id) (hs : X.r.s = 1) (hc : X.c.tr ≠ 0) (ho : X.c.op = true) (e : X'.r.e = X.r.e) (s' : X'.r.s = 2) (t : X'.r.t = X.r.t) (n : X'.r.n = X.r.n) (k : X'.s.tr = X.s.tr) : Two X' Y P := by
  obtain ⟨-, hy, hn, f, b⟩ := h
  have hno : ¬ (Y.r.s = 2) := fun e2 => by have := b.rdo e2 hs; rw [ho] at this; cases this
  have fs := f.st
  have bs := b.st
  have fe := f.seen
  have be := b.seen
  refine ⟨hx, hy, by rw [id]; exact hn, ⟨?_, ?_, ?_, ?_, ?_, ?_, ?_, ?_, ?_, ?_, ?_⟩, ⟨?_, ?_, ?_, ?_, ?_, ?_, ?_, ?_, ?_, ?_, ?_⟩⟩
  · omega
  · intro x h0 e1 e2; have t1 := f.fwd x h0; omega
  · intro x h0 e1 e2; rw [id] at e1; have t1 := f.bwd x h0; omega
  · intro a x h0 e1 e2 e3; have t1 := fun a => f.cur a x h0; have t2 := f.fwd x h0; omega
  · intro a x h0 e1 e2 e3; rw [id] at e1; have t1 := fun a => f.tak a x h0; have t2 := f.bwd x h0; omega
  · intro x h0 e1 e2 e3 e4; have t1 := f.can x h0; have t2 := fun a => f.cur a x h0; omega
  · intro x h0 e1 e2; rw [id] at e1; have t1 := f.nos x h0; omega
  · intro a1 a2 x h0 e1 e2; rw [id] at e1; have t1 := fun a b => f.noo a b x h0; have t2 := f.bwd x h0; have t3 := f.nos x h0; omega
  · intro a1 a2; first | (exfalso; omega) | exact f.rdo (by omega) (by omega)
  · intro a1 a2 x h0 e1 e2; have t1 := fun a b => f.rdy a b x h0; have t2 := b.bwd x h0; omega
  · omega
  · omega
  · intro x h0 e1 e2; rw [id] at e1; have t1 := b.fwd x h0; omega
  · intro x h0 e1 e2; have t1 := b.bwd x h0; omega
  · intro a x h0 e1 e2 e3; rw [id] at e1; have t1 := fun a => b.cur a x h0; omega
  · intro a x h0 e1 e2 e3; have t1 := fun a => b.tak a x h0; omega
  · intro x h0 e1 e2 e3 e4; rw [id] at e1; have t1 := b.can x h0; omega
  · intro x h0 e1 e2; have t1 := b.nos x h0; omega
  · intro a1 a2 x h0 e1 e2; have t1 := fun a b' => b.noo a b' x h0; have t2 := b.nos x h0; omega
  · intro a1 a2; first | (exfalso; omega) | exact hop | exact hop (b.rdo (by omega) (by omega))
  · intro a1 a2 x h0 e1 e2; rw [id] at e1; have t1 := fun a b' => b.rdy a b' x h0; have t2 := f.bwd x h0; omega
  · omega
theorem Two.began {X X' Y : Nd} {P : List Mg} (h : Two X Y P) (hx : NdR X') (id : X'.id = X.id) (hs : X.r.s = 3) (try' : Int) (h0' : X.r.n < try') (h1' : try' ≤ Y.r.t) (e : X'.r.e = X.r.e) (s' : X'.r.s = 3) (t : X'.r.t = X.r.t) (n : X'.r.n = try') (k : X'.s.tr = 0 ∨ X'.s.tr = try') : Two X' Y P := by
  obtain ⟨-, hy, hn, f, b⟩ := h
  have fs := f.st
  have bs := b.st
  have fe := f.seen
  have be := b.seen
  refine ⟨hx, hy, by rw [id]; exact hn, ⟨?_, ?_, ?_, ?_, ?_, ?_, ?_, ?_, ?_, ?_, ?_⟩, ⟨?_, ?_, ?_, ?_, ?_, ?_, ?_, ?_, ?_, ?_, ?_⟩⟩
  · omega
  · intro x h0 e1 e2; have t1 := f.fwd x h0; omega
  · intro x h0 e1 e2; rw [id] at e1; have t1 := f.bwd x h0; omega
  · intro a x h0 e1 e2 e3; have t1 := fun a => f.cur a x h0; have t2 := f.fwd x h0; omega
  · intro a x h0 e1 e2 e3; rw [id] at e1; have t1 := fun a => f.tak a x h0; have t2 := f.bwd x h0; omega
  · intro x h0 e1 e2 e3 e4; have t1 := f.can x h0; have t2 := fun a => f.cur a x h0; omega
  · intro x h0 e1 e2; rw [id] at e1; have t1 := f.nos x h0; omega
  · intro a1 a2 x h0 e1 e2; rw [id] at e1; have t1 := fun a b => f.noo a b x h0; have t2 := f.bwd x h0; have t3 := f.nos x h0; omega
  · intro a1 a2; first | (exfalso; omega) | exact f.rdo (by omega) (by omega)
  · intro a1 a2 x h0 e1 e2; have t1 := fun a b => f.rdy a b x h0; have t2 := b.bwd x h0; omega
  · omega
  · omega
  · intro x h0 e1 e2; rw [id] at e1; have t1 := b.fwd x h0; omega
  · intro x h0 e1 e2; have t1 := b.bwd x h0; omega
  · intro a x h0 e1 e2 e3; rw [id] at e1; have t1 := fun a => b.cur a x h0; omega
  · intro a x h0 e1 e2 e3; have t1 := fun a => b.tak a x h0; omega
  · intro x h0 e1 e2 e3 e4; rw [id] at e1; have t1 := b.can x h0; omega
  · intro x h0 e1 e2; have t1 := b.nos x h0; omega
  · intro a1 a2 x h0 e1 e2; have t1 := fun a b' => b.noo a b' x h0; have t2 := b.nos x h0; omega
  · intro a1 a2; first | (exfalso; omega) | exact hop | exact hop (b.rdo (by omega) (by omega))
  · intro a1 a2 x h0 e1 e2; rw [id] at e1; have t1 := fun a b' => b.rdy a b' x h0; have t2 := f.bwd x h0; omega
  · omega
theorem Two.took {X X' Y : Nd} {P : List Mg} (h : Two X Y P) (hx : NdR X') (id : X'.id = X.id) (m : Mg) (hm : m ∈ P) (md : m.dst = X.id) (mk : m.kd = 5) (hs : X.r.s = 3) (h0' : X.s.tr ≠ 0) (h1' : X.s.tr = m.tr) (h2' : X.r.e ≤ m.ep) (e : X'.r.e = m.ep + 1) (s' : X'.r.s = 1) (t : X'.r.t = X.r.t) (n : X'.r.n = X.r.n) (c : X'.c.tr = 0) (hop : X'.c.op = false) (k : X'.s.tr = 0) : Two X' Y P := by
  obtain ⟨-, hy, hn, f, b⟩ := h
  have q1 := b.can m hm md mk (by omega) h2'
  have q2 := b.cur (.inl q1.1) m hm md (.inl mk) q1.2.symm
  have fs := f.st
  have bs := b.st
  have fe := f.seen
  have be := b.seen
  refine ⟨hx, hy, by rw [id]; exact hn, ⟨?_, ?_, ?_, ?_, ?_, ?_, ?_, ?_, ?_, ?_, ?_⟩, ⟨?_, ?_, ?_, ?_, ?_, ?_, ?_, ?_, ?_, ?_, ?_⟩⟩
  · omega
  · intro x h0 e1 e2; have t1 := f.fwd x h0; omega
  · intro x h0 e1 e2; rw [id] at e1; have t1 := f.bwd x h0; omega
  · intro a x h0 e1 e2 e3; have t1 := fun a => f.cur a x h0; have t2 := f.fwd x h0; omega
  · intro a x h0 e1 e2 e3; rw [id] at e1; have t1 := fun a => f.tak a x h0; have t2 := f.bwd x h0; omega
  · intro x h0 e1 e2 e3 e4; have t1 := f.can x h0; have t2 := fun a => f.cur a x h0; omega
  · intro x h0 e1 e2; rw [id] at e1; have t1 := f.nos x h0; omega
  · intro a1 a2 x h0 e1 e2; rw [id] at e1; have t1 := fun a b => f.noo a b x h0; have t2 := f.bwd x h0; have t3 := f.nos x h0; omega
  · intro a1 a2; first | (exfalso; omega) | exact f.rdo (by omega) (by omega)
  · intro a1 a2 x h0 e1 e2; have t1 := fun a b => f.rdy a b x h0; have t2 := b.bwd x h0; omega
  · omega
  · omega
  · intro x h0 e1 e2; rw [id] at e1; have t1 := b.fwd x h0; omega
  · intro x h0 e1 e2; have t1 := b.bwd x h0; omega
  · intro a x h0 e1 e2 e3; rw [id] at e1; have t1 := fun a => b.cur a x h0; omega
  · intro a x h0 e1 e2 e3; have t1 := fun a => b.tak a x h0; omega
  · intro x h0 e1 e2 e3 e4; rw [id] at e1; have t1 := b.can x h0; omega
  · intro x h0 e1 e2; have t1 := b.nos x h0; omega
  · intro a1 a2 x h0 e1 e2; have t1 := fun a b' => b.noo a b' x h0; have t2 := b.nos x h0; omega
  · intro a1 a2; first | (exfalso; omega) | exact hop | exact hop (b.rdo (by omega) (by omega))
  · intro a1 a2 x h0 e1 e2; rw [id] at e1; have t1 := fun a b' => b.rdy a b' x h0; have t2 := f.bwd x h0; omega
  · omega
theorem Two.went {X X' Y : Nd} {P : List Mg} (h : Two X Y P) (hx : NdR X') (id : X'.id = X.id) (m : Mg) (hm : m ∈ P) (md : m.dst = X.id) (mk : m.kd = 6) (hs : X.r.s = 2) (h1' : m.tr = X.r.t) (e : X'.r.e = m.ep) (s' : X'.r.s = 3) (t : X'.r.t = X.r.t) (n : X'.r.n = X.r.n) (k : X'.s.tr = X.s.tr) : Two X' Y P := by
  obtain ⟨-, hy, hn, f, b⟩ := h
  have q1 := f.tak (.inl hs) m hm md mk h1'
  have fs := f.st
  have bs := b.st
  have fe := f.seen
  have be := b.seen
  refine ⟨hx, hy, by rw [id]; exact hn, ⟨?_, ?_, ?_, ?_, ?_, ?_, ?_, ?_, ?_, ?_, ?_⟩, ⟨?_, ?_, ?_, ?_, ?_, ?_, ?_, ?_, ?_, ?_, ?_⟩⟩
  · omega
  · intro x h0 e1 e2; have t1 := f.fwd x h0; omega
  · intro x h0 e1 e2; rw [id] at e1; have t1 := f.bwd x h0; omega
  · intro a x h0 e1 e2 e3; have t1 := fun a => f.cur a x h0; have t2 := f.fwd x h0; omega
  · intro a x h0 e1 e2 e3; rw [id] at e1; have t1 := fun a => f.tak a x h0; have t2 := f.bwd x h0; omega
  · intro x h0 e1 e2 e3 e4; have t1 := f.can x h0; have t2 := fun a => f.cur a x h0; omega
  · intro x h0 e1 e2; rw [id] at e1; have t1 := f.nos x h0; omega
  · intro a1 a2 x h0 e1 e2; rw [id] at e1; have t1 := fun a b => f.noo a b x h0; have t2 := f.bwd x h0; have t3 := f.nos x h0; omega
  · intro a1 a2; first | (exfalso; omega) | exact f.rdo (by omega) (by omega)
  · intro a1 a2 x h0 e1 e2; have t1 := fun a b => f.rdy a b x h0; have t2 := b.bwd x h0; omega
  · omega
  · omega
  · intro x h0 e1 e2; rw [id] at e1; have t1 := b.fwd x h0; omega
  · intro x h0 e1 e2; have t1 := b.bwd x h0; omega
  · intro a x h0 e1 e2 e3; rw [id] at e1; have t1 := fun a => b.cur a x h0; omega
  · intro a x h0 e1 e2 e3; have t1 := fun a => b.tak a x h0; omega
  · intro x h0 e1 e2 e3 e4; rw [id] at e1; have t1 := b.can x h0; omega
  · intro x h0 e1 e2; have t1 := b.nos x h0; omega
  · intro a1 a2 x h0 e1 e2; have t1 := fun a b' => b.noo a b' x h0; have t2 := b.nos x h0; omega
  · intro a1 a2; first | (exfalso; omega) | exact hop | exact hop (b.rdo (by omega) (by omega))
  · intro a1 a2 x h0 e1 e2; rw [id] at e1; have t1 := fun a b' => b.rdy a b' x h0; have t2 := f.bwd x h0; omega
  · omega
theorem Two.stayed {X X' Y : Nd} {P : List Mg} (h : Two X Y P) (hx : NdR X') (id : X'.id = X.id) (m : Mg) (hm : m ∈ P) (md : m.dst = X.id) (mk : m.kd = 8) (hs : X.r.s = 2) (h1' : m.tr = X.r.t) (e : X'.r.e = X.r.e) (s' : X'.r.s = 1) (t : X'.r.t = X.r.t) (n : X'.r.n = X.r.n) (c : X'.c.tr = 0) (k : X'.s.tr = X.s.tr) : Two X' Y P := by
  obtain ⟨-, hy, hn, f, b⟩ := h
  have q1 := f.nos m hm md mk
  have q2 := fun a b => f.noo a b m hm md mk
  have fs := f.st
  have bs := b.st
  have fe := f.seen
  have be := b.seen
  refine ⟨hx, hy, by rw [id]; exact hn, ⟨?_, ?_, ?_, ?_, ?_, ?_, ?_, ?_, ?_, ?_, ?_⟩, ⟨?_, ?_, ?_, ?_, ?_, ?_, ?_, ?_, ?_, ?_, ?_⟩⟩
  · omega
  · intro x h0 e1 e2; have t1 := f.fwd x h0; omega
  · intro x h0 e1 e2; rw [id] at e1; have t1 := f.bwd x h0; omega
  · intro a x h0 e1 e2 e3; have t1 := fun a => f.cur a x h0; have t2 := f.fwd x h0; omega
  · intro a x h0 e1 e2 e3; rw [id] at e1; have t1 := fun a => f.tak a x h0; have t2 := f.bwd x h0; omega
  · intro x h0 e1 e2 e3 e4; have t1 := f.can x h0; have t2 := fun a => f.cur a x h0; omega
  · intro x h0 e1 e2; rw [id] at e1; have t1 := f.nos x h0; omega
  · intro a1 a2 x h0 e1 e2; rw [id] at e1; have t1 := fun a b => f.noo a b x h0; have t2 := f.bwd x h0; have t3 := f.nos x h0; omega
  · intro a1 a2; first | (exfalso; omega) | exact f.rdo (by omega) (by omega)
  · intro a1 a2 x h0 e1 e2; have t1 := fun a b => f.rdy a b x h0; have t2 := b.bwd x h0; omega
  · omega
  · omega
  · intro x h0 e1 e2; rw [id] at e1; have t1 := b.fwd x h0; omega
  · intro x h0 e1 e2; have t1 := b.bwd x h0; omega
  · intro a x h0 e1 e2 e3; rw [id] at e1; have t1 := fun a => b.cur a x h0; omega
  · intro a x h0 e1 e2 e3; have t1 := fun a => b.tak a x h0; omega
  · intro x h0 e1 e2 e3 e4; rw [id] at e1; have t1 := b.can x h0; omega
  · intro x h0 e1 e2; have t1 := b.nos x h0; omega
  · intro a1 a2 x h0 e1 e2; have t1 := fun a b' => b.noo a b' x h0; have t2 := b.nos x h0; omega
  · intro a1 a2; first | (exfalso; omega) | exact hop | exact hop (b.rdo (by omega) (by omega))
  · intro a1 a2 x h0 e1 e2; rw [id] at e1; have t1 := fun a b' => b.rdy a b' x h0; have t2 := f.bwd x h0; omega
  · omega
end Go.Proofs.YtkenbanaodbooaaGreatDoor
