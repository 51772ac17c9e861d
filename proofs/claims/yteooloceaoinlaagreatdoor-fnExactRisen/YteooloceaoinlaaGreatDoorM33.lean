/- What the model shows of a record: l1Ints, l5Show, ShowRecord; and reads of a number: l1Digits, l1Read. -/
import Derived.Test.YteooloceaoinlaaGreatDoorM11
import Derived.Test.YteooloceaoinlaaGreatDoorM15
import Derived.Test.YteooloceaoinlaaGreatDoorSNode3
import Derived.Test.YteooloceaoinlaaGreatDoorSNode2
namespace Go.Proofs.YteooloceaoinlaaGreatDoor
open Go.ChangeShapes Go.WideShapes Go.ChangeAt Go.RowKit

theorem showR_ints (r : Rc) : showR r = recW ++ 32 :: intsB [r.e, r.s, r.t, r.n] := by simp [showR, intsB]
end Go.Proofs.YteooloceaoinlaaGreatDoor
/- Houses by the model: l15Rise, l1Min. -/
namespace Go.Proofs.YteooloceaoinlaaGreatDoor
open Go.ChangeShapes Go.WideShapes Go.ChangeAt Go.RowKit

set_option maxRecDepth 20000 in
set_option maxHeartbeats 4000000 in
theorem sriseN_any (g off : Nat) (t : TypeId) (cs : Array Value) (a b k q z : Value) (n : Nd) (w : World) (d : Hs w g off t cs a b k q z n) (hl : n.log.length ≤ 1048576) :
    Calls Tryz.prog 58 #[.pointer (some ⟨g, off, none⟩)] w fun e w' => e = .returned (.bool n.rise.2) ∧ ∃ cs', Hs w' g off t cs' a b k q z n.rise.1 ∧ Hop w w' g off cs cs' (lists5 a b k q z) (lists5 a b k q z) := by
  have HD : Hid (Hs w g off t cs a b k q z n) := d
  have p1 : w.cell? ⟨g, off + 1, none⟩ = some (.bool n.up) := d.nb.cell 1 (by decide) rfl
  have p8 : w.cell? ⟨g, off + 8, none⟩ = some (S n.log) := d.nb.cell 8 (by decide) rfl
  have c1 := srecall_any n.log w hl
  clear d
  cases hu : n.up with
  | true =>
    have e1 : n.rise = (n, false) := by unfold Nd.rise; rw [hu]; rfl
    rw [e1]
    rw [hu] at p1
    clear c1 hl
    go_enter Tryz.func58, Tryz.ntmps58
    go_wp2
    go_ret
    exact ⟨rfl, cs, HD.out, Hop.refl _ _ _ _ _⟩
  | false =>
    have e1 : n.rise = ({ n with up := true, log := n.log.take (recAt (recallB n.log)) }, true) := by unfold Nd.rise; rw [hu]; rfl
    rw [e1]
    rw [hu] at p1
    obtain ⟨r, hr⟩ : ∃ r, r = recR (recallB n.log) := ⟨_, rfl⟩
    obtain ⟨s, hs⟩ : ∃ s, s = n.log.take (recAt (recallB n.log)) := ⟨_, rfl⟩
    obtain ⟨x, hx⟩ : ∃ x, x = (recallB n.log).isSome := ⟨_, rfl⟩
    rw [← hr, ← hs, ← hx] at c1
    rw [← hs]
    have HU : Hid (n.up = false) := hu
    clear hr hs hx hl e1 hu
    unfold RV recA at c1
    unfold S at c1 p8
    go_enter Tryz.func58, Tryz.ntmps58
    go_wp2_with fail
    refine c1.mono ?_
    rintro e w1 ⟨rfl, b1⟩
    clear c1 p1 p8
    obtain ⟨w2, hw2⟩ : ∃ w2, w2 = w1.alloc (.cells #[.int .i64 r.e, .int .i64 r.s, .int .i64 r.t, .int .i64 r.n] 39) := ⟨_, rfl⟩
    have b2 : Below w1.heap.size w1 w2 := by rw [hw2]; exact (Below.refl _ _).alloc (Nat.le_refl _) _
    have H2 : Hid (Hs w2 g off t cs a b k q z n ∧ Hop w w2 g off cs cs (lists5 a b k q z) (lists5 a b k q z)) := ⟨(HD.out.below b1).below b2, ((Hop.refl _ _ _ _ _).below b1).below b2⟩
    go_upto_region 4 with fail
    rw [← hw2]
    clear hw2 b1 b2 HD
    have p1 : w2.cell? ⟨g, off + 1, none⟩ = some (.bool n.up) := H2.out.1.nb.cell 1 (by decide) rfl
    rw [HU.out] at p1
    have f1 := H2.out.1.nb.frozen 1
    have p8 : w2.cell? ⟨g, off + 8, none⟩ = some (.string ⟨n.log.toArray⟩) := H2.out.1.nb.cell 8 (by decide) rfl
    have f8 := H2.out.1.nb.frozen 8
    have n1 := H2.out.1.nb.put (a' := a) (b' := b) (k' := k) (q' := q) (z' := z) (n' := { n with log := s }) 8 (by decide) (.string ⟨s.toArray⟩) rfl
    have q1 : (w2.setCell ⟨g, off + 8, none⟩ (.string ⟨s.toArray⟩)).cell? ⟨g, off + 1, none⟩ = some (.bool n.up) := n1.cell 1 (by decide) rfl
    rw [HU.out] at q1
    have g1 := n1.frozen 1
    have HF : Hid (∃ cs', Hs ((w2.setCell ⟨g, off + 8, none⟩ (.string ⟨s.toArray⟩)).setCell ⟨g, off + 1, none⟩ (.bool true)) g off t cs' a b k q z { n with up := true, log := s } ∧ Hop w ((w2.setCell ⟨g, off + 8, none⟩ (.string ⟨s.toArray⟩)).setCell ⟨g, off + 1, none⟩ (.bool true)) g off cs cs' (lists5 a b k q z) (lists5 a b k q z)) := by
      have n2 := n1.put (a' := a) (b' := b) (k' := k) (q' := q) (z' := z) (n' := { n with up := true, log := s }) 1 (by decide) (.bool true) rfl
      have o := H2.out.1.ow
      have o' : OwnN w2 0 a b k q z { n with up := true, log := s } := ⟨o.oa, o.ob, o.ok, o.oq, o.oz, o.ap⟩
      exact ⟨_, ⟨n2, (o'.set H2.out.1.nb.st H2.out.1.ty _).set n1.st H2.out.1.ty _, H2.out.1.ty⟩, (H2.out.2.trans (hop_put _ _ _ _ _ 8 (by decide) _)).trans (hop_put _ _ _ _ _ 1 (by decide) _)⟩
    clear n1 H2 HU
    go_upto_region 5 with fail
    obtain ⟨w3, hw3⟩ : ∃ w3, w3 = w2.setCell ⟨g, off + 8, none⟩ (.string ⟨s.toArray⟩) := ⟨_, rfl⟩
    rw [← hw3] at q1 g1 HF ⊢
    clear hw3 p1 f1 p8 f8
    go_wp2
    go_ret
    exact ⟨rfl, HF.out⟩
end Go.Proofs.YteooloceaoinlaaGreatDoor
/- What stands while a house's box is worked on. -/
namespace Go.Proofs.YteooloceaoinlaaGreatDoor
open Go.ChangeShapes Go.WideShapes Go.ChangeAt Go.RowKit

/- What stands while a house's box is worked on: the box, the place of the answer. -/
structure FS (w wx : World) (cs : Array Value) : Prop where
  p : StB wx w.heap.size 43 cs
  r : StB wx (w.heap.size + 1) 43 zeroNd
  b : Below w.heap.size w wx
theorem FS.start (w : World) (cs : Array Value) : FS w ((w.alloc (.cells cs 43)).alloc (.cells zeroNd 43)) cs := by
  have r1 := StB.new (w.alloc (.cells cs 43)) 43 zeroNd
  rw [World.size_alloc] at r1
  exact ⟨(StB.new w _ _).alloc _, r1, ((Below.refl _ _).alloc (Nat.le_refl _) _).alloc (by simp) _⟩
theorem FS.below {w wx wy : World} {cs : Array Value} (h : FS w wx cs) (B : Below wx.heap.size wx wy) : FS w wy cs := ⟨h.p.below B, h.r.below B, h.b.trans (B.mono h.b.size)⟩
theorem FS.put {w wx : World} {cs ds : Array Value} (h : FS w wx cs) (j : Nat) (x : Value) (e : cs.setIfInBounds j x = ds) : FS w (wx.setCell ⟨w.heap.size, j, none⟩ x) ds :=
  ⟨h.p.put j x e, h.r.other _ _ (by show w.heap.size + 1 ≠ w.heap.size; omega), h.b.setCell (Nat.le_refl _) _⟩
theorem FS.lt {w wx : World} {cs : Array Value} (h : FS w wx cs) : w.heap.size + 1 < wx.heap.size := h.r.lt
end Go.Proofs.YteooloceaoinlaaGreatDoor
/- A house inside a block: several of its cells are written, one after the other. -/
namespace Go.Proofs.YteooloceaoinlaaGreatDoor
open Go.ChangeShapes Go.WideShapes Go.ChangeAt Go.RowKit

def putsW (g off : Nat) (l : List (Nat × Value)) (w : World) : World := l.foldl (fun w p => w.setCell ⟨g, off + p.1, none⟩ p.2) w
def putsA (l : List (Nat × Value)) (A : Array Value) : Array Value := l.foldl (fun A p => A.setIfInBounds p.1 p.2) A
theorem putsA_size (l : List (Nat × Value)) : ∀ A : Array Value, (putsA l A).size = A.size := by
  induction l with
  | nil => intro A; rfl
  | cons p l ih => intro A; show (putsA l (A.setIfInBounds p.1 p.2)).size = _; rw [ih, Array.size_setIfInBounds]
theorem puts_nb {g off : Nat} {t : TypeId} (ty : t ≠ 2) (l : List (Nat × Value)) : ∀ {w : World} {cs A : Array Value}, StB w g t cs → off + 20 ≤ cs.size → A.size = 20 → (∀ j, j < 20 → cs[off + j]? = A[j]?) → (∀ p ∈ l, p.1 < 20) →
    ∃ cs', StB (putsW g off l w) g t cs' ∧ off + 20 ≤ cs'.size ∧ (∀ j, j < 20 → cs'[off + j]? = (putsA l A)[j]?) ∧ (∀ L, Hop w (putsW g off l w) g off cs cs' L L) ∧ (∀ base a b k q z n, OwnN w base a b k q z n → OwnN (putsW g off l w) base a b k q z n) := by
  induction l with
  | nil => intro w cs A s z _ e _; exact ⟨cs, s, z, e, fun L => Hop.refl _ _ _ _ _, fun _ _ _ _ _ _ _ h => h⟩
  | cons p l ih =>
    intro w cs A s z hA e hl
    have hp : p.1 < 20 := hl p (by simp)
    have s1 := s.put (off + p.1) p.2 rfl
    obtain ⟨cs', h1, h2, h3, h4, h5⟩ := ih (A := A.setIfInBounds p.1 p.2) s1 (by rw [Array.size_setIfInBounds]; exact z) (by rw [Array.size_setIfInBounds]; exact hA) (fun j hj => by
      rw [Array.getElem?_setIfInBounds, Array.getElem?_setIfInBounds]
      by_cases hij : p.1 = j
      · subst hij
        have q1 : off + p.1 < cs.size := by omega
        have q2 : p.1 < A.size := by omega
        simp [q1, q2]
      · rw [if_neg (by omega), if_neg hij]
        exact e j hj) (fun q hq => hl q (by simp [hq]))
    refine ⟨cs', h1, h2, h3, fun L => (hop_put w g off cs L p.1 hp p.2).trans (h4 L), fun base a b k q z n h => h5 base a b k q z n (h.set s ty p.2)⟩
/- All at once: of a house. -/
theorem Hs.puts {w : World} {g off : Nat} {t : TypeId} {cs : Array Value} {a b k q z a' b' k' q' z' : Value} {n n' : Nd} (h : NdB w g off t cs a b k q z n) (ty : t ≠ 2) (l : List (Nat × Value)) (hl : ∀ p ∈ l, p.1 < 20)
    (e : putsA l (ndA a b k q z n) = ndA a' b' k' q' z' n') (o : OwnN w 0 a' b' k' q' z' n') :
    ∃ cs', Hs (putsW g off l w) g off t cs' a' b' k' q' z' n' ∧ ∀ L, Hop w (putsW g off l w) g off cs cs' L L := by
  obtain ⟨cs', h1, h2, h3, h4, h5⟩ := puts_nb ty l h.st h.sz rfl h.el hl
  exact ⟨cs', ⟨⟨h1, h2, fun j hj => by rw [h3 j hj, e]⟩, h5 _ _ _ _ _ _ _ o, ty⟩, h4⟩
/- Its lists are others from here on: what is new lies in new memory. -/
theorem Hop.lists {w w' : World} {g off : Nat} {cs : Array Value} {L L' : List Nat} (B : Below w.heap.size w w') (h : ∀ x ∈ L', x ∈ L ∨ w.heap.size ≤ x) : Hop w w' g off cs cs L L' := ⟨Only.refl _ _, Turned.below _ B, h⟩
theorem Hop.fewer {w w' : World} {g off : Nat} {cs cs' : Array Value} {L L1 L2 : List Nat} (H : Hop w w' g off cs cs' L L1) (h : ∀ x ∈ L2, x ∈ L1) : Hop w w' g off cs cs' L L2 := ⟨H.on, H.tu, fun x hx => H.nw x (h x hx)⟩
theorem mem5 {a b k q z : Value} {x : Nat} : x ∈ lists5 a b k q z ↔ x ∈ blk a ∨ x ∈ blk b ∨ x ∈ blk k ∨ x ∈ blk q ∨ x ∈ blk z := by
  unfold lists5
  simp only [List.mem_append]
  constructor
  · rintro ((((h | h) | h) | h) | h)
    · exact .inl h
    · exact .inr (.inl h)
    · exact .inr (.inr (.inl h))
    · exact .inr (.inr (.inr (.inl h)))
    · exact .inr (.inr (.inr (.inr h)))
  · rintro (h | h | h | h | h)
    · exact .inl (.inl (.inl (.inl h)))
    · exact .inl (.inl (.inl (.inr h)))
    · exact .inl (.inl (.inr h))
    · exact .inl (.inr h)
    · exact .inr h
theorem blk_nil (n c : Nat) : blk (.slice none n c) = [] := rfl
/- One list is a new one, the others stay. -/
theorem OwnN.newQ {w w' : World} {a b k q z v : Value} {n n' : Nd} (h : OwnN w 0 a b k q z n) (B : Below w.heap.size w w') (o : Own w' w.heap.size v n'.c.ts) (hx : n'.xs = n.xs) (hy : n'.ys = n.ys) (hk : n'.h.ks = n.h.ks) (hz : n'.s.ts = n.s.ts) : OwnN w' 0 a b k v z n' := by
  obtain ⟨⟨p1, p2, p3, p4⟩, ⟨p5, p6, p7⟩, ⟨p8, p9⟩, p0⟩ := pair5.1 h.ap
  have ak := fun y hy => (blk_new h.ok y hy).2
  have aa := fun y hy => (blk_new h.oa y hy).2
  have ab := fun y hy => (blk_new h.ob y hy).2
  have az := fun y hy => (blk_new h.oz y hy).2
  exact ⟨by rw [hx]; exact h.oa.below B, by rw [hy]; exact h.ob.below B, by rw [hk]; exact h.ok.below B, o.mono (Nat.zero_le _), by rw [hz]; exact h.oz.below B,
    pair5.2 ⟨⟨apart_sym (apart_old az o), p2, p3, p4⟩, ⟨apart_old ak o, apart_old ab o, apart_old aa o⟩, ⟨p8, p9⟩, p0⟩⟩
theorem OwnN.newZ {w w' : World} {a b k q z v : Value} {n n' : Nd} (h : OwnN w 0 a b k q z n) (B : Below w.heap.size w w') (o : Own w' w.heap.size v n'.s.ts) (hx : n'.xs = n.xs) (hy : n'.ys = n.ys) (hk : n'.h.ks = n.h.ks) (hq : n'.c.ts = n.c.ts) : OwnN w' 0 a b k q v n' := by
  obtain ⟨⟨p1, p2, p3, p4⟩, ⟨p5, p6, p7⟩, ⟨p8, p9⟩, p0⟩ := pair5.1 h.ap
  have ak := fun y hy => (blk_new h.ok y hy).2
  have aa := fun y hy => (blk_new h.oa y hy).2
  have ab := fun y hy => (blk_new h.ob y hy).2
  have aq := fun y hy => (blk_new h.oq y hy).2
  exact ⟨by rw [hx]; exact h.oa.below B, by rw [hy]; exact h.ob.below B, by rw [hk]; exact h.ok.below B, by rw [hq]; exact h.oq.below B, o.mono (Nat.zero_le _),
    pair5.2 ⟨⟨apart_old aq o, apart_old ak o, apart_old ab o, apart_old aa o⟩, ⟨p5, p6, p7⟩, ⟨p8, p9⟩, p0⟩⟩
theorem OwnN.newK {w w' : World} {a b k q z v : Value} {n n' : Nd} (h : OwnN w 0 a b k q z n) (B : Below w.heap.size w w') (o : Own w' w.heap.size v n'.h.ks) (hx : n'.xs = n.xs) (hy : n'.ys = n.ys) (hq : n'.c.ts = n.c.ts) (hz : n'.s.ts = n.s.ts) : OwnN w' 0 a b v q z n' := by
  obtain ⟨⟨p1, p2, p3, p4⟩, ⟨p5, p6, p7⟩, ⟨p8, p9⟩, p0⟩ := pair5.1 h.ap
  have aq := fun y hy => (blk_new h.oq y hy).2
  have aa := fun y hy => (blk_new h.oa y hy).2
  have ab := fun y hy => (blk_new h.ob y hy).2
  have az := fun y hy => (blk_new h.oz y hy).2
  exact ⟨by rw [hx]; exact h.oa.below B, by rw [hy]; exact h.ob.below B, o.mono (Nat.zero_le _), by rw [hq]; exact h.oq.below B, by rw [hz]; exact h.oz.below B,
    pair5.2 ⟨⟨p1, apart_sym (apart_old az o), p3, p4⟩, ⟨apart_sym (apart_old aq o), p6, p7⟩, ⟨apart_old ab o, apart_old aa o⟩, p0⟩⟩
/- The same house by another name. -/
theorem OwnN.as {w : World} {base : Nat} {a b k q z : Value} {n n' : Nd} (h : OwnN w base a b k q z n) (hx : n'.xs = n.xs) (hy : n'.ys = n.ys) (hk : n'.h.ks = n.h.ks) (hq : n'.c.ts = n.c.ts) (hz : n'.s.ts = n.s.ts) : OwnN w base a b k q z n' :=
  ⟨by rw [hx]; exact h.oa, by rw [hy]; exact h.ob, by rw [hk]; exact h.ok, by rw [hq]; exact h.oq, by rw [hz]; exact h.oz, h.ap⟩
theorem OwnN.dropQ {w : World} {base : Nat} {a b k q z : Value} {n n' : Nd} (h : OwnN w base a b k q z n) (hx : n'.xs = n.xs) (hy : n'.ys = n.ys) (hk : n'.h.ks = n.h.ks) (hq : n'.c.ts = []) (hz : n'.s.ts = n.s.ts) : OwnN w base a b k (.slice none 0 0) z n' := by
  obtain ⟨⟨p1, p2, p3, p4⟩, ⟨p5, p6, p7⟩, ⟨p8, p9⟩, p0⟩ := pair5.1 h.ap
  exact ⟨by rw [hx]; exact h.oa, by rw [hy]; exact h.ob, by rw [hk]; exact h.ok, by rw [hq]; exact Own.nil _ _, by rw [hz]; exact h.oz, pair5.2 ⟨⟨apart_nil _ _ _, p2, p3, p4⟩, ⟨apart_sym (apart_nil _ _ _), apart_sym (apart_nil _ _ _), apart_sym (apart_nil _ _ _)⟩, ⟨p8, p9⟩, p0⟩⟩
theorem OwnN.dropZ {w : World} {base : Nat} {a b k q z : Value} {n n' : Nd} (h : OwnN w base a b k q z n) (hx : n'.xs = n.xs) (hy : n'.ys = n.ys) (hk : n'.h.ks = n.h.ks) (hq : n'.c.ts = n.c.ts) (hz : n'.s.ts = []) : OwnN w base a b k q (.slice none 0 0) n' := by
  obtain ⟨⟨p1, p2, p3, p4⟩, ⟨p5, p6, p7⟩, ⟨p8, p9⟩, p0⟩ := pair5.1 h.ap
  exact ⟨by rw [hx]; exact h.oa, by rw [hy]; exact h.ob, by rw [hk]; exact h.ok, by rw [hq]; exact h.oq, by rw [hz]; exact Own.nil _ _, pair5.2 ⟨⟨apart_sym (apart_nil _ _ _), apart_sym (apart_nil _ _ _), apart_sym (apart_nil _ _ _), apart_sym (apart_nil _ _ _)⟩, ⟨p5, p6, p7⟩, ⟨p8, p9⟩, p0⟩⟩
end Go.Proofs.YteooloceaoinlaaGreatDoor
/- What stands while a house that was copied is worked on behind a pointer: the box, the place of the answer, the copy. -/
namespace Go.Proofs.YteooloceaoinlaaGreatDoor
open Go.ChangeShapes Go.WideShapes Go.ChangeAt Go.RowKit

theorem NdB.whole {w : World} {g : Nat} {t : TypeId} {cs : Array Value} {a b k q z : Value} {n : Nd} (h : NdB w g 0 t cs a b k q z n) (hs : cs.size = 20) : StB w g t (ndA a b k q z n) := by
  have e : cs = ndA a b k q z n := by
    apply Array.ext_getElem?
    intro i
    by_cases hi : i < 20
    · have := h.el i hi
      rwa [Nat.zero_add] at this
    · rw [Array.getElem?_eq_none (by omega), Array.getElem?_eq_none (by show 20 ≤ i; omega)]
  have := h.st
  rwa [e] at this
theorem OwnN.up {w : World} {base : Nat} {a b k q z : Value} {n : Nd} (h : OwnN w 0 a b k q z n) (hb : ∀ x ∈ lists5 a b k q z, base ≤ x) : OwnN w base a b k q z n :=
  ⟨h.oa.up (fun x e => hb x (mem5.2 (.inl (by simp [blk, e])))), h.ob.up (fun x e => hb x (mem5.2 (.inr (.inl (by simp [blk, e]))))), h.ok.up (fun x e => hb x (mem5.2 (.inr (.inr (.inl (by simp [blk, e])))))), h.oq.up (fun x e => hb x (mem5.2 (.inr (.inr (.inr (.inl (by simp [blk, e]))))))), h.oz.up (fun x e => hb x (mem5.2 (.inr (.inr (.inr (.inr (by simp [blk, e]))))))), h.ap⟩
structure CS (w wx : World) (ps : Array Value) (g : Nat) (cs : Array Value) (a b k q z : Value) (n : Nd) : Prop where
  f : FS w wx ps
  hs : Hs wx g 0 43 cs a b k q z n
  sz : cs.size = 20
  lg : w.heap.size + 2 ≤ g
  ll : ∀ x ∈ lists5 a b k q z, w.heap.size + 2 ≤ x
theorem CS.start {w wx wy : World} {ps : Array Value} {a b k q z : Value} {n : Nd} (f : FS w wx ps) (o : OwnN wx (w.heap.size + 2) a b k q z n) (s : StB wy wx.heap.size 43 (ndA a b k q z n)) (G : (wx.alloc (.cells zeroNd 43)).grownBy wy (some wx.heap.size)) :
    CS w wy ps wx.heap.size (ndA a b k q z n) a b k q z n := by
  have b4 : Below wx.heap.size wx wy := ((Below.refl _ _).alloc (Nat.le_refl _) _).grown G (by simp) (fun k e => by cases e; omega)
  refine ⟨f.below b4, ⟨⟨s, Nat.le_of_eq rfl, fun j hj => by rw [Nat.zero_add]⟩, (o.mono (Nat.zero_le _)).below b4, by decide⟩, rfl, f.lt, fun x hx => ?_⟩
  rcases mem5.1 hx with h | h | h | h | h
  · exact (blk_new o.oa x h).1
  · exact (blk_new o.ob x h).1
  · exact (blk_new o.ok x h).1
  · exact (blk_new o.oq x h).1
  · exact (blk_new o.oz x h).1
theorem CS.below {w wx wy : World} {ps : Array Value} {g : Nat} {cs : Array Value} {a b k q z : Value} {n : Nd} (h : CS w wx ps g cs a b k q z n) (B : Below wx.heap.size wx wy) : CS w wy ps g cs a b k q z n := ⟨h.f.below B, h.hs.below B, h.sz, h.lg, h.ll⟩
theorem CS.hop {w wx wy : World} {ps : Array Value} {g : Nat} {cs cs' : Array Value} {a b k q z a' b' k' q' z' : Value} {n n' : Nd} (h : CS w wx ps g cs a b k q z n) (H : Hs wy g 0 43 cs' a' b' k' q' z' n') (O : Hop wx wy g 0 cs cs' (lists5 a b k q z) (lists5 a' b' k' q' z')) : CS w wy ps g cs' a' b' k' q' z' n' := by
  have hn : ∀ x ∈ g :: lists5 a b k q z, w.heap.size + 2 ≤ x := fun x hx => by
    rcases List.mem_cons.1 hx with rfl | hx
    · exact h.lg
    · exact h.ll x hx
  have hsz := h.f.b.size
  refine ⟨⟨h.f.p.turned O.tu (fun e => by have := hn _ e; omega), h.f.r.turned O.tu (fun e => by have := hn _ e; omega), h.f.b.trans (O.tu.belowAt (fun x hx => by have := hn x hx; omega) hsz)⟩, H, O.on.sz.trans h.sz, h.lg, fun x hx => ?_⟩
  rcases O.nw x hx with e | e
  · exact h.ll x e
  · have := h.f.lt; omega
theorem CS.whole {w wx : World} {ps : Array Value} {g : Nat} {cs : Array Value} {a b k q z : Value} {n : Nd} (h : CS w wx ps g cs a b k q z n) : StB wx g 43 (ndA a b k q z n) := h.hs.nb.whole h.sz
theorem CS.own {w wx : World} {ps : Array Value} {g : Nat} {cs : Array Value} {a b k q z : Value} {n : Nd} (h : CS w wx ps g cs a b k q z n) : OwnN wx (w.heap.size + 2) a b k q z n := h.hs.ow.up h.ll
theorem OwnN.one {w : World} {base : Nat} {a b k q z : Value} {n : Nd} (h : OwnN w base a b k q z n) : (ndA a b k q z n).all (·.oneCell') = true := ndA_one n (reads_one h.oa.reads) (reads_one h.ob.reads) (reads_one h.ok.reads) (reads_one h.oq.reads) (reads_one h.oz.reads)
end Go.Proofs.YteooloceaoinlaaGreatDoor
