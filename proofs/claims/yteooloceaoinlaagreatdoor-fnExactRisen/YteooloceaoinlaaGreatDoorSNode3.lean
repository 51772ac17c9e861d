/- Houses by the model: l15Down. -/
import Derived.Test.YteooloceaoinlaaGreatDoorM32
import Derived.Test.YteooloceaoinlaaGreatDoorM8
namespace Go.Proofs.YteooloceaoinlaaGreatDoor
open Go.ChangeShapes Go.WideShapes Go.ChangeAt Go.RowKit

/- What is apart, two by two. -/
theorem pair5 {a b k q z : Value} : [z, q, k, b, a].Pairwise apart ↔ (apart z q ∧ apart z k ∧ apart z b ∧ apart z a) ∧ (apart q k ∧ apart q b ∧ apart q a) ∧ (apart k b ∧ apart k a) ∧ apart b a := by
  simp [List.pairwise_cons]
theorem apart_sym {u v : Value} (h : apart u v) : apart v u := ⟨h.2, h.1⟩
theorem apart_nil (u : Value) (n c : Nat) : apart u (.slice none n c) := ⟨by cases h : u.ownBlock with | none => exact .inl rfl | some x => exact .inr (by simp [Value.ownBlock]), .inl rfl⟩
/- The disk's two lists are new ones. -/
theorem OwnN.disk {w w' : World} {a b k q z u v : Value} {n n' : Nd} (h : OwnN w 0 a b k q z n) (B : Below w.heap.size w w') (o : OwnD w' w.heap.size u v n'.xs n'.ys) (hk : n'.h.ks = n.h.ks) (hq : n'.c.ts = n.c.ts) (hz : n'.s.ts = n.s.ts) : OwnN w' 0 u v k q z n' := by
  obtain ⟨⟨p1, p2, p3, p4⟩, ⟨p5, p6, p7⟩, ⟨p8, p9⟩, p0⟩ := pair5.1 h.ap
  have ak := fun y hy => (blk_new h.ok y hy).2
  have aq := fun y hy => (blk_new h.oq y hy).2
  have az := fun y hy => (blk_new h.oz y hy).2
  exact ⟨o.1.mono (Nat.zero_le _), o.2.1.mono (Nat.zero_le _), by rw [hk]; exact h.ok.below B, by rw [hq]; exact h.oq.below B, by rw [hz]; exact h.oz.below B,
    pair5.2 ⟨⟨p1, p2, apart_sym (apart_old az o.2.1), apart_sym (apart_old az o.1)⟩, ⟨p5, apart_sym (apart_old aq o.2.1), apart_sym (apart_old aq o.1)⟩, ⟨apart_sym (apart_old ak o.2.1), apart_sym (apart_old ak o.1)⟩, apart_sym o.2.2⟩⟩
/- It copies nothing, it takes nothing. -/
theorem OwnN.drop {w : World} {a b k q z : Value} {n : Nd} (h : OwnN w 0 a b k q z n) : OwnN w 0 a b k (.slice none 0 0) z { n with c := Cp.zero } := by
  obtain ⟨⟨p1, p2, p3, p4⟩, ⟨p5, p6, p7⟩, ⟨p8, p9⟩, p0⟩ := pair5.1 h.ap
  exact ⟨h.oa, h.ob, h.ok, Own.nil _ _, h.oz, pair5.2 ⟨⟨apart_nil _ _ _, p2, p3, p4⟩, ⟨apart_sym (apart_nil _ _ _), apart_sym (apart_nil _ _ _), apart_sym (apart_nil _ _ _)⟩, ⟨p8, p9⟩, p0⟩⟩
theorem OwnN.close {w : World} {a b k q z : Value} {n : Nd} (h : OwnN w 0 a b k q z n) : OwnN w 0 a b k q (.slice none 0 0) { n with s := Sn.zero } := by
  obtain ⟨⟨p1, p2, p3, p4⟩, ⟨p5, p6, p7⟩, ⟨p8, p9⟩, p0⟩ := pair5.1 h.ap
  exact ⟨h.oa, h.ob, h.ok, h.oq, Own.nil _ _, pair5.2 ⟨⟨apart_sym (apart_nil _ _ _), apart_sym (apart_nil _ _ _), apart_sym (apart_nil _ _ _), apart_sym (apart_nil _ _ _)⟩, ⟨p5, p6, p7⟩, ⟨p8, p9⟩, p0⟩⟩
/- A cell is written: all that stands of a house. -/
theorem Hs.put {w : World} {g off : Nat} {t : TypeId} {cs : Array Value} {a b k q z a' b' k' q' z' : Value} {n n' : Nd} (h : Hs w g off t cs a b k q z n) (j : Nat) (hj : j < 20) (x : Value) (e : (ndA a b k q z n).setIfInBounds j x = ndA a' b' k' q' z' n') (o : OwnN w 0 a' b' k' q' z' n') :
    Hs (w.setCell ⟨g, off + j, none⟩ x) g off t (cs.setIfInBounds (off + j) x) a' b' k' q' z' n' := ⟨h.nb.put j hj x e, o.set h.nb.st h.ty x, h.ty⟩

/- A house falls. -/

theorem NdB.as {w : World} {g off : Nat} {t : TypeId} {cs : Array Value} {a b k q z a' b' k' q' z' : Value} {n n' : Nd} (h : NdB w g off t cs a b k q z n) (e : ndA a b k q z n = ndA a' b' k' q' z' n') : NdB w g off t cs a' b' k' q' z' n' := ⟨h.st, h.sz, fun j hj => by rw [← e]; exact h.el j hj⟩

set_option maxRecDepth 20000 in
set_option maxHeartbeats 8000000 in
theorem sdownN_any (g off : Nat) (t : TypeId) (cs : Array Value) (a b k q z : Value) (n : Nd) (set : Int) (w : World) (d : Hs w g off t cs a b k q z n) (hb : bothOk n.xs n.ys = true) (h0 : 0 ≤ set) (h1 : set < 256) :
    Calls Tryz.prog 46 #[.pointer (some ⟨g, off, none⟩), .int .i64 set] w fun e w' => e = .returned (.tuple #[]) ∧ ∃ cs' u v, Hs w' g off t cs' u v k (.slice none 0 0) (.slice none 0 0) (n.down set) ∧ Hop w w' g off cs cs' (lists5 a b k q z) (lists5 u v k (.slice none 0 0) (.slice none 0 0)) := by
  have C1 : Hid (∀ wx, Reads wx a n.xs → Reads wx b n.ys → Calls Tryz.prog 85 #[.agg #[a, b], .int .i64 set] wx fun e w' => ∃ u v, e = .returned (.agg #[u, v]) ∧ OwnD w' wx.heap.size u v (chosenUp n.xs n.ys set 8 n.xs.length) (chosenUp n.xs n.ys set 8 n.xs.length) ∧ Below wx.heap.size wx w') := fun wx ha hb' => sl3Lost_any a b n.xs n.ys set wx ha hb' hb h0 h1
  have HD : Hid (Hs w g off t cs a b k q z n) := d
  obtain ⟨a1, a2, rfl⟩ := reads_form d.ow.oa.reads
  obtain ⟨b1, b2, rfl⟩ := reads_form d.ow.ob.reads
  obtain ⟨k1, k2, rfl⟩ := reads_form d.ow.ok.reads
  obtain ⟨q1, q2, rfl⟩ := reads_form d.ow.oq.reads
  obtain ⟨z1, z2, rfl⟩ := reads_form d.ow.oz.reads
  clear d h0 h1 hb
  have p1 : w.cell? ⟨g, off + 1, none⟩ = some (.bool n.up) := HD.out.nb.cell 1 (by decide) rfl
  have f1 := HD.out.nb.frozen 1
  obtain ⟨w1, hw1⟩ : ∃ w1, w1 = w.setCell ⟨g, off + 1, none⟩ (.bool false) := ⟨_, rfl⟩
  have H1 : Hid (Hs w1 g off t (cs.setIfInBounds (off + 1) (.bool false)) (.slice a1 n.xs.length a2) (.slice b1 n.ys.length b2) (.slice k1 n.h.ks.length k2) (.slice q1 n.c.ts.length q2) (.slice z1 n.s.ts.length z2) { n with up := false } ∧ Hop w w1 g off cs (cs.setIfInBounds (off + 1) (.bool false)) (lists5 (.slice a1 n.xs.length a2) (.slice b1 n.ys.length b2) (.slice k1 n.h.ks.length k2) (.slice q1 n.c.ts.length q2) (.slice z1 n.s.ts.length z2)) (lists5 (.slice a1 n.xs.length a2) (.slice b1 n.ys.length b2) (.slice k1 n.h.ks.length k2) (.slice q1 n.c.ts.length q2) (.slice z1 n.s.ts.length z2))) := by
    rw [hw1]
    exact ⟨HD.out.put 1 (by decide) _ rfl ⟨HD.out.ow.oa, HD.out.ow.ob, HD.out.ow.ok, HD.out.ow.oq, HD.out.ow.oz, HD.out.ow.ap⟩, hop_put _ _ _ _ _ 1 (by decide) _⟩
  go_enter Tryz.func46, Tryz.ntmps46
  go_upto_region 1 with fail
  rw [← hw1]
  clear hw1 p1 f1 HD
  obtain ⟨cs1, hcs1⟩ : ∃ cs1, cs1 = cs.setIfInBounds (off + 1) (.bool false) := ⟨_, rfl⟩
  rw [← hcs1] at H1
  clear hcs1
  have p2 : w1.cell? ⟨g, off + 2, none⟩ = some (.slice a1 n.xs.length a2) := H1.out.1.nb.cell 2 (by decide) rfl
  have p3 : w1.cell? ⟨g, off + 3, none⟩ = some (.slice b1 n.ys.length b2) := H1.out.1.nb.cell 3 (by decide) rfl
  go_wp2_with fail
  refine (C1.out w1 H1.out.1.ow.oa.reads H1.out.1.ow.ob.reads).mono ?_
  rintro e w2 ⟨u, v, rfl, o2, b2'⟩
  obtain ⟨u1, u2, rfl⟩ := reads_form o2.1.reads
  obtain ⟨v1, v2, rfl⟩ := reads_form o2.2.1.reads
  have H2 : Hid (Hs w2 g off t cs1 (.slice a1 n.xs.length a2) (.slice b1 n.ys.length b2) (.slice k1 n.h.ks.length k2) (.slice q1 n.c.ts.length q2) (.slice z1 n.s.ts.length z2) { n with up := false }) := H1.out.1.below b2'
  clear C1 p2 p3
  have p2 : w2.cell? ⟨g, off + 2, none⟩ = some (.slice a1 n.xs.length a2) := H2.out.nb.cell 2 (by decide) rfl
  have p3 : w2.cell? ⟨g, off + 3, none⟩ = some (.slice b1 n.ys.length b2) := H2.out.nb.cell 3 (by decide) rfl
  have f2 := H2.out.nb.frozen 2
  have f3 := H2.out.nb.frozen 3
  obtain ⟨w3, hw3⟩ : ∃ w3, w3 = (w2.setCell ⟨g, off + 2, none⟩ (.slice u1 (chosenUp n.xs n.ys set 8 n.xs.length).length u2)).setCell ⟨g, off + 3, none⟩ (.slice v1 (chosenUp n.xs n.ys set 8 n.xs.length).length v2) := ⟨_, rfl⟩
  have H3 : Hid (∃ cs3, Hs w3 g off t cs3 (.slice u1 (chosenUp n.xs n.ys set 8 n.xs.length).length u2) (.slice v1 (chosenUp n.xs n.ys set 8 n.xs.length).length v2) (.slice k1 n.h.ks.length k2) (.slice q1 n.c.ts.length q2) (.slice z1 n.s.ts.length z2) { n with up := false, xs := (chosenUp n.xs n.ys set 8 n.xs.length), ys := (chosenUp n.xs n.ys set 8 n.xs.length) } ∧ Hop w w3 g off cs cs3 (lists5 (.slice a1 n.xs.length a2) (.slice b1 n.ys.length b2) (.slice k1 n.h.ks.length k2) (.slice q1 n.c.ts.length q2) (.slice z1 n.s.ts.length z2)) (lists5 (.slice u1 (chosenUp n.xs n.ys set 8 n.xs.length).length u2) (.slice v1 (chosenUp n.xs n.ys set 8 n.xs.length).length v2) (.slice k1 n.h.ks.length k2) (.slice q1 n.c.ts.length q2) (.slice z1 n.s.ts.length z2))) := by
    rw [hw3]
    have ow : OwnN w2 0 (.slice u1 (chosenUp n.xs n.ys set 8 n.xs.length).length u2) (.slice v1 (chosenUp n.xs n.ys set 8 n.xs.length).length v2) (.slice k1 n.h.ks.length k2) (.slice q1 n.c.ts.length q2) (.slice z1 n.s.ts.length z2) { n with up := false, xs := (chosenUp n.xs n.ys set 8 n.xs.length), ys := (chosenUp n.xs n.ys set 8 n.xs.length) } := H1.out.1.ow.disk b2' o2 rfl rfl rfl
    have n2 := H2.out.nb.put (a' := (.slice u1 (chosenUp n.xs n.ys set 8 n.xs.length).length u2)) (b' := (.slice b1 n.ys.length b2)) (k' := (.slice k1 n.h.ks.length k2)) (q' := (.slice q1 n.c.ts.length q2)) (z' := (.slice z1 n.s.ts.length z2)) (n' := { n with up := false, xs := (chosenUp n.xs n.ys set 8 n.xs.length), ys := (chosenUp n.xs n.ys set 8 n.xs.length) }) 2 (by decide) (.slice u1 (chosenUp n.xs n.ys set 8 n.xs.length).length u2) rfl
    have n3 := n2.put (a' := (.slice u1 (chosenUp n.xs n.ys set 8 n.xs.length).length u2)) (b' := (.slice v1 (chosenUp n.xs n.ys set 8 n.xs.length).length v2)) (k' := (.slice k1 n.h.ks.length k2)) (q' := (.slice q1 n.c.ts.length q2)) (z' := (.slice z1 n.s.ts.length z2)) (n' := { n with up := false, xs := (chosenUp n.xs n.ys set 8 n.xs.length), ys := (chosenUp n.xs n.ys set 8 n.xs.length) }) 3 (by decide) (.slice v1 (chosenUp n.xs n.ys set 8 n.xs.length).length v2) rfl
    refine ⟨_, ⟨n3, (ow.set H2.out.nb.st H2.out.ty _).set n2.st H2.out.ty _, H2.out.ty⟩, ?_⟩
    have hop : Hop w1 w2 g off cs1 cs1 (lists5 (.slice a1 n.xs.length a2) (.slice b1 n.ys.length b2) (.slice k1 n.h.ks.length k2) (.slice q1 n.c.ts.length q2) (.slice z1 n.s.ts.length z2)) (lists5 (.slice u1 (chosenUp n.xs n.ys set 8 n.xs.length).length u2) (.slice v1 (chosenUp n.xs n.ys set 8 n.xs.length).length v2) (.slice k1 n.h.ks.length k2) (.slice q1 n.c.ts.length q2) (.slice z1 n.s.ts.length z2)) := ⟨Only.refl _ _, Turned.below _ b2', fun x hx => by
      unfold lists5 at hx ⊢
      simp only [List.mem_append] at hx ⊢
      rcases hx with (((hx | hx) | hx) | hx) | hx
      · exact .inr (blk_new o2.1 x hx).1
      · exact .inr (blk_new o2.2.1 x hx).1
      · exact .inl (.inl (.inl (.inr hx)))
      · exact .inl (.inl (.inr hx))
      · exact .inl (.inr hx)⟩
    exact ((H1.out.2.trans hop).trans (hop_put _ _ _ _ _ 2 (by decide) _)).trans (hop_put _ _ _ _ _ 3 (by decide) _)
  go_upto_region 2 with fail
  rw [← hw3]
  clear hw3 p2 p3 f2 f3 o2 b2' H1 H2
  obtain ⟨cs3, H3a, H3b⟩ := H3.out
  have HA : Hid _ := H3a
  have HO : Hid _ := H3b
  clear H3 H3a H3b
  have p13 : w3.cell? ⟨g, off + 13, none⟩ = some (.int .i64 n.c.tr) := HA.out.nb.cell 13 (by decide) rfl
  have f13 := HA.out.nb.frozen 13
  have p14 : w3.cell? ⟨g, off + 14, none⟩ = some (.bool n.c.op) := HA.out.nb.cell 14 (by decide) rfl
  have f14 := HA.out.nb.frozen 14
  have p15 : w3.cell? ⟨g, off + 15, none⟩ = some (.int .i64 n.c.di) := HA.out.nb.cell 15 (by decide) rfl
  have f15 := HA.out.nb.frozen 15
  have p16 : w3.cell? ⟨g, off + 16, none⟩ = some (.int .i64 n.c.wa) := HA.out.nb.cell 16 (by decide) rfl
  have f16 := HA.out.nb.frozen 16
  have p17 : w3.cell? ⟨g, off + 17, none⟩ = some (.slice q1 n.c.ts.length q2) := HA.out.nb.cell 17 (by decide) rfl
  have f17 := HA.out.nb.frozen 17
  obtain ⟨w4, hw4⟩ : ∃ w4, w4 = (((((w3.setCell ⟨g, off + 13, none⟩ (.int .i64 0)).setCell ⟨g, off + 14, none⟩ (.bool false)).setCell ⟨g, off + 15, none⟩ (.int .i64 0)).setCell ⟨g, off + 16, none⟩ (.int .i64 0)).setCell ⟨g, off + 17, none⟩ (.slice none 0 0)) := ⟨_, rfl⟩
  have H4 : Hid (∃ cs4, Hs w4 g off t cs4 (.slice u1 (chosenUp n.xs n.ys set 8 n.xs.length).length u2) (.slice v1 (chosenUp n.xs n.ys set 8 n.xs.length).length v2) (.slice k1 n.h.ks.length k2) (.slice none 0 0) (.slice z1 n.s.ts.length z2) { n with up := false, xs := (chosenUp n.xs n.ys set 8 n.xs.length), ys := (chosenUp n.xs n.ys set 8 n.xs.length), c := Cp.zero } ∧ Hop w w4 g off cs cs4 (lists5 (.slice a1 n.xs.length a2) (.slice b1 n.ys.length b2) (.slice k1 n.h.ks.length k2) (.slice q1 n.c.ts.length q2) (.slice z1 n.s.ts.length z2)) (lists5 (.slice u1 (chosenUp n.xs n.ys set 8 n.xs.length).length u2) (.slice v1 (chosenUp n.xs n.ys set 8 n.xs.length).length v2) (.slice k1 n.h.ks.length k2) (.slice none 0 0) (.slice z1 n.s.ts.length z2))) := by
    rw [hw4]
    have ow := HA.out.ow.drop
    have n0 := HA.out.nb.put (a' := (.slice u1 (chosenUp n.xs n.ys set 8 n.xs.length).length u2)) (b' := (.slice v1 (chosenUp n.xs n.ys set 8 n.xs.length).length v2)) (k' := (.slice k1 n.h.ks.length k2)) (q' := (.slice q1 n.c.ts.length q2)) (z' := (.slice z1 n.s.ts.length z2)) (n' := { n with up := false, xs := (chosenUp n.xs n.ys set 8 n.xs.length), ys := (chosenUp n.xs n.ys set 8 n.xs.length), c := { n.c with tr := 0 } }) 13 (by decide) (.int .i64 0) rfl
    have n1 := n0.put (a' := (.slice u1 (chosenUp n.xs n.ys set 8 n.xs.length).length u2)) (b' := (.slice v1 (chosenUp n.xs n.ys set 8 n.xs.length).length v2)) (k' := (.slice k1 n.h.ks.length k2)) (q' := (.slice q1 n.c.ts.length q2)) (z' := (.slice z1 n.s.ts.length z2)) (n' := { n with up := false, xs := (chosenUp n.xs n.ys set 8 n.xs.length), ys := (chosenUp n.xs n.ys set 8 n.xs.length), c := { n.c with tr := 0, op := false } }) 14 (by decide) (.bool false) rfl
    have n2 := n1.put (a' := (.slice u1 (chosenUp n.xs n.ys set 8 n.xs.length).length u2)) (b' := (.slice v1 (chosenUp n.xs n.ys set 8 n.xs.length).length v2)) (k' := (.slice k1 n.h.ks.length k2)) (q' := (.slice q1 n.c.ts.length q2)) (z' := (.slice z1 n.s.ts.length z2)) (n' := { n with up := false, xs := (chosenUp n.xs n.ys set 8 n.xs.length), ys := (chosenUp n.xs n.ys set 8 n.xs.length), c := { n.c with tr := 0, op := false, di := 0 } }) 15 (by decide) (.int .i64 0) rfl
    have n3 := n2.put (a' := (.slice u1 (chosenUp n.xs n.ys set 8 n.xs.length).length u2)) (b' := (.slice v1 (chosenUp n.xs n.ys set 8 n.xs.length).length v2)) (k' := (.slice k1 n.h.ks.length k2)) (q' := (.slice q1 n.c.ts.length q2)) (z' := (.slice z1 n.s.ts.length z2)) (n' := { n with up := false, xs := (chosenUp n.xs n.ys set 8 n.xs.length), ys := (chosenUp n.xs n.ys set 8 n.xs.length), c := { n.c with tr := 0, op := false, di := 0, wa := 0 } }) 16 (by decide) (.int .i64 0) rfl
    have n4 := n3.put (a' := (.slice u1 (chosenUp n.xs n.ys set 8 n.xs.length).length u2)) (b' := (.slice v1 (chosenUp n.xs n.ys set 8 n.xs.length).length v2)) (k' := (.slice k1 n.h.ks.length k2)) (q' := (.slice none 0 0)) (z' := (.slice z1 n.s.ts.length z2)) (n' := { n with up := false, xs := (chosenUp n.xs n.ys set 8 n.xs.length), ys := (chosenUp n.xs n.ys set 8 n.xs.length), c := Cp.zero }) 17 (by decide) (.slice none 0 0) rfl
    refine ⟨_, ⟨n4, ((((ow.set HA.out.nb.st HA.out.ty _).set n0.st HA.out.ty _).set n1.st HA.out.ty _).set n2.st HA.out.ty _).set n3.st HA.out.ty _, HA.out.ty⟩, ?_⟩
    have hop := (((((HO.out.trans (hop_put _ _ _ _ _ 13 (by decide) (.int .i64 0))).trans (hop_put _ _ _ _ _ 14 (by decide) (.bool false))).trans (hop_put _ _ _ _ _ 15 (by decide) (.int .i64 0))).trans (hop_put _ _ _ _ _ 16 (by decide) (.int .i64 0))).trans (hop_put _ _ _ _ _ 17 (by decide) (.slice none 0 0)))
    exact ⟨hop.on, hop.tu, fun x hx => hop.nw x (by unfold lists5 at hx ⊢; simp only [List.mem_append] at hx ⊢; rcases hx with (((hx | hx) | hx) | hx) | hx <;> simp_all [blk, Value.ownBlock])⟩
  go_upto_region 3 with fail
  rw [← hw4]
  clear hw4 HA HO p13 f13 p14 f14 p15 f15 p16 f16 p17 f17
  obtain ⟨cs4, H4a, H4b⟩ := H4.out
  have HA : Hid _ := H4a
  have HO : Hid _ := H4b
  clear H4 H4a H4b
  have p18 : w4.cell? ⟨g, off + 18, none⟩ = some (.int .i64 n.s.tr) := HA.out.nb.cell 18 (by decide) rfl
  have f18 := HA.out.nb.frozen 18
  have p19 : w4.cell? ⟨g, off + 19, none⟩ = some (.slice z1 n.s.ts.length z2) := HA.out.nb.cell 19 (by decide) rfl
  have f19 := HA.out.nb.frozen 19
  go_wp2
  go_end0
  refine ⟨rfl, (cs4.setIfInBounds (off + 18) (.int .i64 0)).setIfInBounds (off + 19) (.slice none 0 0), (.slice u1 (chosenUp n.xs n.ys set 8 n.xs.length).length u2), (.slice v1 (chosenUp n.xs n.ys set 8 n.xs.length).length v2), ?_, ?_⟩
  rotate_left
  · have hop := (HO.out.trans (hop_put _ _ _ _ _ 18 (by decide) (.int .i64 0))).trans (hop_put _ _ _ _ _ 19 (by decide) (.slice none 0 0))
    exact ⟨hop.on, hop.tu, fun x hx => hop.nw x (by unfold lists5 at hx ⊢; simp only [List.mem_append] at hx ⊢; rcases hx with (((hx | hx) | hx) | hx) | hx <;> simp_all [blk, Value.ownBlock])⟩
  · have n0 := HA.out.nb.put (a' := (.slice u1 (chosenUp n.xs n.ys set 8 n.xs.length).length u2)) (b' := (.slice v1 (chosenUp n.xs n.ys set 8 n.xs.length).length v2)) (k' := (.slice k1 n.h.ks.length k2)) (q' := (.slice none 0 0)) (z' := (.slice z1 n.s.ts.length z2)) (n' := { n with up := false, xs := (chosenUp n.xs n.ys set 8 n.xs.length), ys := (chosenUp n.xs n.ys set 8 n.xs.length), c := Cp.zero, s := { n.s with tr := 0 } }) 18 (by decide) (.int .i64 0) rfl
    have n1 := n0.put (a' := (.slice u1 (chosenUp n.xs n.ys set 8 n.xs.length).length u2)) (b' := (.slice v1 (chosenUp n.xs n.ys set 8 n.xs.length).length v2)) (k' := (.slice k1 n.h.ks.length k2)) (q' := (.slice none 0 0)) (z' := (.slice none 0 0)) (n' := n.down set) 19 (by decide) (.slice none 0 0) rfl
    exact ⟨n1, (HA.out.ow.close.set HA.out.nb.st HA.out.ty _).set n0.st HA.out.ty _, HA.out.ty⟩

end Go.Proofs.YteooloceaoinlaaGreatDoor
