/- A house that was answered: its lists are the call's own, or empty wherever they point to; in the state of a long walk. -/
import Derived.Test.YtlkkpolnllbljaaGreatDoorM11
import Derived.Test.YtlkkpolnllbljaaGreatDoorM10
import Derived.Test.YtlkkpolnllbljaaGreatDoorM8
import Derived.Test.YtlkkpolnllbljaaGreatDoorM5
import Derived.Test.YtlkkpolnllbljaaGreatDoorM3
namespace Go.Proofs.YtlkkpolnllbljaaGreatDoor
open Go.ChangeShapes Go.WideShapes Go.ChangeAt Go.RowKit

theorem apart_iff {u v : Value} : apart u v ↔ ∀ x, x ∈ blk u → x ∈ blk v → False := by
  constructor
  · intro h x h1 h2
    have e1 : u.ownBlock = some x := by simpa [blk] using h1
    have e2 : v.ownBlock = some x := by simpa [blk] using h2
    rcases h.1 with h | h
    · rw [e1] at h; cases h
    · exact h (e1.trans e2.symm)
  · intro h
    constructor
    · cases hu : u.ownBlock with
      | none => exact .inl rfl
      | some x => exact .inr (fun e => h x (by simp [blk, hu]) (by simp [blk, ← e]))
    · cases hv : v.ownBlock with
      | none => exact .inl rfl
      | some x => exact .inr (fun e => h x (by simp [blk, ← e]) (by simp [blk, hv]))
theorem mineOf_sub {v : Value} {xs : List Int} {x : Nat} (h : x ∈ mineOf v xs) : x ∈ blk v := by
  unfold mineOf at h
  split at h
  · cases h
  · exact h
theorem mineOf_lt {w : World} {B : Nat} {v : Value} {xs : List Int} (h : Mine w B v xs) {x : Nat} (hx : x ∈ mineOf v xs) : B ≤ x ∧ x < w.heap.size := by
  have e : xs ≠ [] := fun e => by rw [e] at hx; simp [mineOf] at hx
  exact blk_new (h.own e) x (mineOf_sub hx)
/- Blocks that are all apart, five kinds of them. -/
structure Five (l1 l2 l3 l4 l5 : List Nat) : Prop where
  h12 : ∀ x, x ∈ l1 → x ∈ l2 → False
  h13 : ∀ x, x ∈ l1 → x ∈ l3 → False
  h14 : ∀ x, x ∈ l1 → x ∈ l4 → False
  h15 : ∀ x, x ∈ l1 → x ∈ l5 → False
  h23 : ∀ x, x ∈ l2 → x ∈ l3 → False
  h24 : ∀ x, x ∈ l2 → x ∈ l4 → False
  h25 : ∀ x, x ∈ l2 → x ∈ l5 → False
  h34 : ∀ x, x ∈ l3 → x ∈ l4 → False
  h35 : ∀ x, x ∈ l3 → x ∈ l5 → False
  h45 : ∀ x, x ∈ l4 → x ∈ l5 → False
structure MineN (w : World) (base : Nat) (a b k q z : Value) (n : Nd) : Prop where
  oa : Own w base a n.xs
  ob : Own w base b n.ys
  ok : Own w base k n.h.ks
  oq : Mine w base q n.c.ts
  oz : Mine w base z n.s.ts
  ap : Five (blk a) (blk b) (blk k) (mineOf q n.c.ts) (mineOf z n.s.ts)
def own5 (a b k q z : Value) (n : Nd) : List Nat := blk a ++ (blk b ++ (blk k ++ (mineOf q n.c.ts ++ mineOf z n.s.ts)))
theorem own5_in {a b k q z : Value} {n : Nd} {x : Nat} : x ∈ own5 a b k q z n ↔ x ∈ blk a ∨ x ∈ blk b ∨ x ∈ blk k ∨ x ∈ mineOf q n.c.ts ∨ x ∈ mineOf z n.s.ts := by
  unfold own5
  simp only [List.mem_append]
theorem OwnN.mine {w : World} {base : Nat} {a b k q z : Value} {n : Nd} (h : OwnN w base a b k q z n) : MineN w base a b k q z n := by
  have p : (apart z q ∧ apart z k ∧ apart z b ∧ apart z a) ∧ (apart q k ∧ apart q b ∧ apart q a) ∧ (apart k b ∧ apart k a) ∧ apart b a := by
    have := h.ap
    simpa [List.pairwise_cons] using this
  obtain ⟨⟨p1, p2, p3, p4⟩, ⟨p5, p6, p7⟩, ⟨p8, p9⟩, p0⟩ := p
  simp only [apart_iff] at *
  exact ⟨h.oa, h.ob, h.ok, .inl h.oq, .inl h.oz, ⟨fun x h1 h2 => p0 x h2 h1, fun x h1 h2 => p9 x h2 h1, fun x h1 h2 => p7 x (mineOf_sub h2) h1, fun x h1 h2 => p4 x (mineOf_sub h2) h1, fun x h1 h2 => p8 x h2 h1, fun x h1 h2 => p6 x (mineOf_sub h2) h1, fun x h1 h2 => p3 x (mineOf_sub h2) h1, fun x h1 h2 => p5 x (mineOf_sub h2) h1, fun x h1 h2 => p2 x (mineOf_sub h2) h1, fun x h1 h2 => p1 x (mineOf_sub h2) (mineOf_sub h1)⟩⟩
theorem MineN.reads {w : World} {base : Nat} {a b k q z : Value} {n : Nd} (h : MineN w base a b k q z n) : RdN w a b k q z n := ⟨h.oa.reads, h.ob.reads, h.ok.reads, h.oq.reads, h.oz.reads⟩
theorem MineN.mono {w : World} {base base' : Nat} {a b k q z : Value} {n : Nd} (h : MineN w base a b k q z n) (hb : base' ≤ base) : MineN w base' a b k q z n := ⟨h.oa.mono hb, h.ob.mono hb, h.ok.mono hb, h.oq.mono hb, h.oz.mono hb, h.ap⟩
theorem MineN.below {w w' : World} {base : Nat} {a b k q z : Value} {n : Nd} (h : MineN w base a b k q z n) (B : Below w.heap.size w w') : MineN w' base a b k q z n := ⟨h.oa.below B, h.ob.below B, h.ok.below B, h.oq.below B, h.oz.below B, h.ap⟩
theorem MineN.keptLt {w w' : World} {base g : Nat} {a b k q z : Value} {n : Nd} (h : MineN w base a b k q z n) (hg : w.grownBy w' (some g)) (hb : g < base) : MineN w' base a b k q z n := ⟨h.oa.keptLt hg hb, h.ob.keptLt hg hb, h.ok.keptLt hg hb, h.oq.keptLt hg hb, h.oz.keptLt hg hb, h.ap⟩
theorem MineN.putBy {w w' : World} {base g : Nat} {a b k q z : Value} {n : Nd} {t : TypeId} {cs : Array Value} (h : MineN w base a b k q z n) (s : StB w g t cs) (ty : t ≠ 2) (G : w.grownBy w' (some g)) : MineN w' base a b k q z n :=
  ⟨h.oa.putBy s ty G, h.ob.putBy s ty G, h.ok.putBy s ty G, h.oq.putBy s ty G, h.oz.putBy s ty G, h.ap⟩
theorem MineN.lt {w : World} {base : Nat} {a b k q z : Value} {n : Nd} (h : MineN w base a b k q z n) {x : Nat} (hx : x ∈ own5 a b k q z n) : base ≤ x ∧ x < w.heap.size := by
  rcases own5_in.1 hx with hx | hx | hx | hx | hx
  · exact blk_new h.oa x hx
  · exact blk_new h.ob x hx
  · exact blk_new h.ok x hx
  · exact mineOf_lt h.oq hx
  · exact mineOf_lt h.oz hx
theorem MineN.nil (w : World) (base : Nat) : MineN w base (.slice none 0 0) (.slice none 0 0) (.slice none 0 0) (.slice none 0 0) (.slice none 0 0) Nd.zero :=
  ⟨Own.nil _ _, Own.nil _ _, Own.nil _ _, .inl (Own.nil _ _), .inl (Own.nil _ _), by constructor <;> (intro x h; cases h)⟩
theorem MineN.frame {w w' : World} {base : Nat} {a b k q z : Value} {n : Nd} (h : MineN w base a b k q z n) (e : ∀ x ∈ own5 a b k q z n, w'.heap[x]? = w.heap[x]?) : MineN w' base a b k q z n :=
  ⟨h.oa.frame (fun x hx => e x (own5_in.2 (.inl hx))), h.ob.frame (fun x hx => e x (own5_in.2 (.inr (.inl hx)))), h.ok.frame (fun x hx => e x (own5_in.2 (.inr (.inr (.inl hx))))), h.oq.frame (fun x hx => e x (own5_in.2 (.inr (.inr (.inr (.inl hx)))))), h.oz.frame (fun x hx => e x (own5_in.2 (.inr (.inr (.inr (.inr hx)))))), h.ap⟩
/- A house as a thing of the state. -/
def NdI (a b k q z : Value) (n : Nd) : Item := ⟨own5 a b k q z n, 0, fun w => MineN w 0 a b k q z n, fun _ _ e _ h => h.frame e⟩
theorem Sta.house {w wx wy : World} {L : List Item} {a b k q z : Value} {n : Nd} (h : Sta w wx L) (o : MineN wy wx.heap.size a b k q z n) (B : Below wx.heap.size wx wy) : Sta w wy (NdI a b k q z n :: L) :=
  h.add B (NdI a b k q z n) (o.mono (Nat.zero_le _)) (fun x hx => o.lt hx)
theorem Sta.rdN {w wx : World} {L : List Item} {a b k q z : Value} {n : Nd} (h : Sta w wx L) (i : Nat) (e : L[i]? = some (NdI a b k q z n)) : RdN wx a b k q z n := (h.get i e).reads
/- Its lists are marked. -/
def Nd.inked (n : Nd) (k : Int) : Nd := { n with xs := marks k n.xs.length, ys := marks (k + n.xs.length) n.ys.length, h := { n.h with ks := marks (k + n.xs.length + n.ys.length) n.h.ks.length }, c := { n.c with ts := marks (k + n.xs.length + n.ys.length + n.h.ks.length) n.c.ts.length }, s := { n.s with ts := marks (k + n.xs.length + n.ys.length + n.h.ks.length + n.c.ts.length) n.s.ts.length } }
def Nd.len (n : Nd) : Nat := n.xs.length + n.ys.length + n.h.ks.length + n.c.ts.length + n.s.ts.length
end Go.Proofs.YtlkkpolnllbljaaGreatDoor
/- A copier inside a block, behind a pointer to its first cell: what a hand on it leaves. -/
namespace Go.Proofs.YtlkkpolnllbljaaGreatDoor
open Go.ChangeShapes Go.WideShapes Go.ChangeAt Go.RowKit

theorem Turned.sub {w w' : World} {bs cs : List Nat} (h : Turned w w' bs) (hs : ∀ b ∈ bs, b ∈ cs) : Turned w w' cs :=
  ⟨h.os, h.tape, h.output, h.size, fun k hk hn => h.block k hk (fun e => hn (hs k e))⟩
theorem Turned.then {w w' w'' : World} {bs : List Nat} (h : Turned w w' bs) (h' : Turned w' w'' bs) : Turned w w'' bs := (h.trans h').sub (by simp)
theorem Turned.refl (w : World) (bs : List Nat) : Turned w w bs := (Turned.of_below (Below.refl _ _)).sub (by simp)
theorem Turned.below {w w' : World} (bs : List Nat) (h : Below w.heap.size w w') : Turned w w' bs := (Turned.of_below h).sub (by simp)

theorem Turned.belowAt {B : Nat} {w w' : World} {bs : List Nat} (h : Turned w w' bs) (hb : ∀ b ∈ bs, B ≤ b) (hB : B ≤ w.heap.size) : Below B w w' :=
  ⟨h.os, h.tape, h.output, h.size, fun k hk => h.block k (Nat.lt_of_lt_of_le hk hB) (fun e => by have := hb k e; omega)⟩
theorem Own.up {w : World} {base base' : Nat} {v : Value} {xs : List Int} (h : Own w base v xs) (hb : ∀ k, v.ownBlock = some k → base' ≤ k) : Own w base' v xs := by
  refine ⟨h.1, ?_⟩
  rcases h.2 with h' | ⟨g, cap, cur, rfl, hg, r⟩
  · exact .inl h'
  · exact .inr ⟨g, cap, cur, rfl, hb g rfl, r⟩
theorem StB.turned {w w' : World} {g : Nat} {t : TypeId} {cs : Array Value} {bs : List Nat} (h : StB w g t cs) (ht : Turned w w' bs) (hn : g ∉ bs) : StB w' g t cs := (ht.block g h.lt hn).trans h

structure CpB (w : World) (g off : Nat) (t : TypeId) (cs : Array Value) (v : Value) (c : Cp) : Prop where
  st : StB w g t cs
  i0 : cs[off]? = some (.int .i64 c.tr)
  i1 : cs[off + 1]? = some (.bool c.op)
  i2 : cs[off + 2]? = some (.int .i64 c.di)
  i3 : cs[off + 3]? = some (.int .i64 c.wa)
  i4 : cs[off + 4]? = some v
  own : Own w 0 v c.ts
  ne : v.ownBlock ≠ some g
def cpPut (cs : Array Value) (off : Nat) (d w : Int) : Array Value := (cs.setIfInBounds (off + 2) (.int .i64 d)).setIfInBounds (off + 3) (.int .i64 w)
theorem put_same {cs : Array Value} {j : Nat} {x : Value} (h : cs[j]? = some x) : cs.setIfInBounds j x = cs := by
  apply Array.ext_getElem?
  intro i
  rw [Array.getElem?_setIfInBounds]
  split
  · rename_i e; subst e
    have hlt : j < cs.size := by
      rcases Nat.lt_or_ge j cs.size with hlt | hge
      · exact hlt
      · rw [Array.getElem?_eq_none hge] at h; cases h
    simp [hlt] at h ⊢
    exact h.symm
  · rfl
theorem cpPut_same {cs : Array Value} {off : Nat} {d w : Int} (h2 : cs[off + 2]? = some (.int .i64 d)) (h3 : cs[off + 3]? = some (.int .i64 w)) : cpPut cs off d w = cs := by
  unfold cpPut
  rw [put_same h2, put_same h3]
theorem put_at {cs : Array Value} {j : Nat} {x y : Value} (h : cs[j]? = some x) : (cs.setIfInBounds j y)[j]? = some y := by
  have hlt : j < cs.size := by
    rcases Nat.lt_or_ge j cs.size with hlt | hge
    · exact hlt
    · rw [Array.getElem?_eq_none hge] at h; cases h
  simp [hlt]
theorem put_else {cs : Array Value} {i j : Nat} {y : Value} (h : j ≠ i) : (cs.setIfInBounds j y)[i]? = cs[i]? := by
  rw [Array.getElem?_setIfInBounds_ne h]
theorem cpPut_di {cs : Array Value} {off : Nat} {d w : Int} (h3 : cs[off + 3]? = some (.int .i64 w)) : cs.setIfInBounds (off + 2) (.int .i64 d) = cpPut cs off d w := by
  unfold cpPut
  exact (put_same (by rw [put_else (by omega)]; exact h3)).symm
theorem cpPut_wa {cs : Array Value} {off : Nat} {d w : Int} (h2 : cs[off + 2]? = some (.int .i64 d)) : cs.setIfInBounds (off + 3) (.int .i64 w) = cpPut cs off d w := by
  unfold cpPut
  rw [put_same h2]
theorem cpPut_twice {cs : Array Value} {off : Nat} {d w d' w' : Int} : cpPut (cpPut cs off d w) off d' w' = cpPut cs off d' w' := by
  unfold cpPut
  apply Array.ext_getElem?
  intro i
  simp only [Array.getElem?_setIfInBounds, Array.size_setIfInBounds]
  split
  · rfl
  · split
    · rfl
    · rfl
theorem CpB.below {w w' : World} {g off : Nat} {t : TypeId} {cs : Array Value} {v : Value} {c : Cp} (h : CpB w g off t cs v c) (b : Below w.heap.size w w') : CpB w' g off t cs v c :=
  ⟨h.st.below b, h.i0, h.i1, h.i2, h.i3, h.i4, h.own.below b, h.ne⟩
/- A number is put into one of the two sets. -/
theorem CpB.putD {w : World} {g off : Nat} {t : TypeId} {cs : Array Value} {v : Value} {c : Cp} (h : CpB w g off t cs v c) (d : Int) :
    CpB (w.setCell ⟨g, off + 2, none⟩ (.int .i64 d)) g off t (cpPut cs off d c.wa) v { c with di := d } ∧ Turned w (w.setCell ⟨g, off + 2, none⟩ (.int .i64 d)) (g :: v.ownBlock.toList) := by
  have e := cpPut_di (d := d) h.i3
  refine ⟨⟨h.st.put (off + 2) _ e, ?_, ?_, ?_, ?_, ?_, h.own.kept (grownSet w g _ _) (.inr h.ne), h.ne⟩, (Turned.of_grown (grownSet w g _ _)).sub (by simp)⟩
  · rw [← e, put_else (by omega)]; exact h.i0
  · rw [← e, put_else (by omega)]; exact h.i1
  · rw [← e]; exact put_at h.i2
  · rw [← e, put_else (by omega)]; exact h.i3
  · rw [← e, put_else (by omega)]; exact h.i4
theorem CpB.putW {w : World} {g off : Nat} {t : TypeId} {cs : Array Value} {v : Value} {c : Cp} (h : CpB w g off t cs v c) (d : Int) :
    CpB (w.setCell ⟨g, off + 3, none⟩ (.int .i64 d)) g off t (cpPut cs off c.di d) v { c with wa := d } ∧ Turned w (w.setCell ⟨g, off + 3, none⟩ (.int .i64 d)) (g :: v.ownBlock.toList) := by
  have e := cpPut_wa (w := d) h.i2
  refine ⟨⟨h.st.put (off + 3) _ e, ?_, ?_, ?_, ?_, ?_, h.own.kept (grownSet w g _ _) (.inr h.ne), h.ne⟩, (Turned.of_grown (grownSet w g _ _)).sub (by simp)⟩
  · rw [← e, put_else (by omega)]; exact h.i0
  · rw [← e, put_else (by omega)]; exact h.i1
  · rw [← e, put_else (by omega)]; exact h.i2
  · rw [← e]; exact put_at h.i3
  · rw [← e, put_else (by omega)]; exact h.i4
theorem CpB.same {w : World} {g off : Nat} {t : TypeId} {cs : Array Value} {v : Value} {c : Cp} (h : CpB w g off t cs v c) : CpB w g off t (cpPut cs off c.di c.wa) v c := by
  rw [cpPut_same h.i2 h.i3]; exact h
/- The five cells, as the walk reads them. -/
theorem CpB.cell {w : World} {g off : Nat} {t : TypeId} {cs : Array Value} {v : Value} {c : Cp} (h : CpB w g off t cs v c) :
    w.cell? ⟨g, off, none⟩ = some (.int .i64 c.tr) ∧ w.cell? ⟨g, off + 1, none⟩ = some (.bool c.op) ∧ w.cell? ⟨g, off + 2, none⟩ = some (.int .i64 c.di) ∧ w.cell? ⟨g, off + 3, none⟩ = some (.int .i64 c.wa) ∧ w.cell? ⟨g, off + 4, none⟩ = some v :=
  ⟨h.st.cell off h.i0, h.st.cell _ h.i1, h.st.cell _ h.i2, h.st.cell _ h.i3, h.st.cell _ h.i4⟩

set_option maxRecDepth 20000 in
set_option maxHeartbeats 1000000 in
theorem smark_any (g off : Nat) (t : TypeId) (cs : Array Value) (v : Value) (c : Cp) (i : Int) (w : World) (d : CpB w g off t cs v c) :
    Calls Tryz.prog 60 #[.pointer (some ⟨g, off, none⟩), .int .i64 i] w fun e w' => e = .returned (.tuple #[]) ∧ CpB w' g off t (cpPut cs off (c.mark i).di (c.mark i).wa) v (c.mark i) ∧ Turned w w' (g :: v.ownBlock.toList) := by
  have c1 := shas_any v c i w d.own.reads
  have HE : Hid (c.mark i = if c.has i then { c with di := withI c.di i } else c) := rfl
  obtain ⟨m, hm⟩ : ∃ m, m = c.mark i := ⟨_, rfl⟩
  rw [← hm] at HE ⊢
  obtain ⟨b, hb⟩ : ∃ b, b = c.has i := ⟨_, rfl⟩
  rw [← hb] at HE c1
  clear hm hb
  obtain ⟨ao, cap, rfl⟩ := reads_form d.own.reads
  obtain ⟨k0, k1, k2, k3, k4⟩ := d.cell
  have HD : Hid (CpB w g off t cs (.slice ao c.ts.length cap) c) := d
  unfold CpV cpA at c1
  clear d
  go_enter Tryz.func60, Tryz.ntmps60
  go_wp2_with fail
  refine c1.mono ?_
  rintro e w1 ⟨rfl, b1⟩
  have D1 := HD.out.below b1
  have HT : Hid (Turned w w1 (g :: (Value.slice ao c.ts.length cap).ownBlock.toList)) := Turned.below _ b1
  clear c1 b1 k0 k1 k2 k3 k4 HD
  cases b with
  | false =>
    have HP : Hid (CpB w1 g off t (cpPut cs off m.di m.wa) (.slice ao c.ts.length cap) m) := by
      have e : m = c := by rw [HE.out]; simp
      rw [e]; exact D1.same
    clear D1
    go_wp2
    go_end0
    exact ⟨rfl, HP.out, HT.out⟩
  | true =>
    obtain ⟨P1, T1⟩ := D1.putD (withI c.di i)
    have HP : Hid (CpB (w1.setCell ⟨g, off + 2, none⟩ (.int .i64 (withI c.di i))) g off t (cpPut cs off m.di m.wa) (.slice ao c.ts.length cap) m ∧ Turned w (w1.setCell ⟨g, off + 2, none⟩ (.int .i64 (withI c.di i))) (g :: (Value.slice ao c.ts.length cap).ownBlock.toList)) := by
      have e : m = { c with di := withI c.di i } := by rw [HE.out]; simp
      rw [e]; exact ⟨P1, HT.out.then T1⟩
    obtain ⟨-, -, k2, -, -⟩ := D1.cell
    have f2 := D1.st.frozen (off + 2)
    have c2 := swith_any c.di i w1
    clear D1 P1 T1 HT HE
    go_wp2_with fail
    refine c2.mono ?_
    rintro e w' ⟨rfl, hw⟩; subst w'
    clear c2
    go_wp2
    go_end0
    exact ⟨rfl, HP.out⟩
end Go.Proofs.YtlkkpolnllbljaaGreatDoor
/- How the laws take a copier over, compare two, mark one and look at the marks. -/
namespace Go.Proofs.YtlkkpolnllbljaaGreatDoor
open Go.ChangeShapes Go.WideShapes Go.ChangeAt Go.RowKit

theorem Tryz.isLCp : IsS 30 5 := ⟨⟨_, Tryz.underlying30⟩, by kernel_rfl⟩

set_option maxRecDepth 20000 in
set_option maxHeartbeats 1000000 in
theorem szCopier_any (v : Value) (c : Cp) (k : Int) (w : World) (hr : Reads w v c.ts) (h0 : 0 ≤ k) (h1 : k ≤ 1048576) :
    Calls Tryz.prog 14 #[CpV v c, .int .i64 k] w fun e w' => e = .returned (.int .i64 (szI k c.ts.length)) ∧ Below w.heap.size w w' := by
  have B1 : Below w.heap.size w (w.alloc (.cells (cpA v c) 30)) := (Below.refl _ _).alloc (Nat.le_refl _) _
  have c1 := sz_any v c.ts k _ (hr.below B1 (Nat.le_refl _)) h0 h1
  have hs : szI k c.ts.length = -1 ∨ 0 ≤ szI k c.ts.length := by unfold szI; split <;> omega
  obtain ⟨x, hx⟩ : ∃ x, x = szI k c.ts.length := ⟨_, rfl⟩
  rw [← hx] at c1 hs ⊢
  obtain ⟨ao, cap, rfl⟩ := reads_form hr
  clear hx hr
  unfold CpV cpA at *
  rcases hs with hs | hs
  · subst hs
    go_enter Tryz.func14, Tryz.ntmps14
    go_wp2_with fail
    refine c1.mono ?_
    rintro e w' ⟨rfl, hw⟩; subst w'
    go_wp2
    go_ret
    exact ⟨rfl, B1⟩
  · go_enter Tryz.func14, Tryz.ntmps14
    go_wp2_with fail
    refine c1.mono ?_
    rintro e w' ⟨rfl, hw⟩; subst w'
    go_wp2
    go_ret
    exact ⟨rfl, B1⟩

set_option maxRecDepth 20000 in
set_option maxHeartbeats 2000000 in
theorem toCopier_any (v : Value) (c : Cp) (w : World) (hr : Reads w v c.ts) (hl : c.ts.length ≤ 1099511627776) :
    Calls Tryz.prog 22 #[CpV v c] w fun e w' => ∃ u, e = .returned (CpV u c) ∧ Own w' w.heap.size u c.ts ∧ Below w.heap.size w w' := by
  obtain ⟨w1, hw1⟩ : ∃ w1, w1 = ((w.alloc (.cells (cpA v c) 30)).alloc (.cells zeroCp 39)).alloc (.cells #[.int .i64 c.tr, .bool c.op, .int .i64 c.di, .int .i64 c.wa, .slice none 0 0] 39) := ⟨_, rfl⟩
  have q0 : StB w1 (w.heap.size + 1) 39 zeroCp := by
    rw [hw1]
    have := (StB.new (w.alloc (.cells (cpA v c) 30)) 39 zeroCp).alloc (.cells #[.int .i64 c.tr, .bool c.op, .int .i64 c.di, .int .i64 c.wa, .slice none 0 0] 39)
    rwa [World.size_alloc] at this
  have r0 : StB w1 (w.heap.size + 1 + 1) 39 #[.int .i64 c.tr, .bool c.op, .int .i64 c.di, .int .i64 c.wa, .slice none 0 0] := by
    rw [hw1]
    have := StB.new ((w.alloc (.cells (cpA v c) 30)).alloc (.cells zeroCp 39)) 39 #[.int .i64 c.tr, .bool c.op, .int .i64 c.di, .int .i64 c.wa, .slice none 0 0]
    rwa [World.size_alloc, World.size_alloc] at this
  have b1 : Below w.heap.size w w1 := by rw [hw1]; exact (((Below.refl _ _).alloc (Nat.le_refl _) _).alloc (by simp) _).alloc (by simp; omega) _
  have c1 := to_any v c.ts w1 (hr.below b1 (Nat.le_refl _)) hl
  have hs1 := r0.lt
  obtain ⟨ao, cap, rfl⟩ := reads_form hr
  have HW : Hid (w1 = ((w.alloc (.cells #[.int .i64 c.tr, .bool c.op, .int .i64 c.di, .int .i64 c.wa, .slice ao c.ts.length cap] 30)).alloc (.cells #[.int .i64 0, .bool false, .int .i64 0, .int .i64 0, .slice none 0 0] 39)).alloc (.cells #[.int .i64 c.tr, .bool c.op, .int .i64 c.di, .int .i64 c.wa, .slice none 0 0] 39)) := hw1
  clear hw1 hr hl
  unfold CpV
  conv in cpA (.slice ao c.ts.length cap) c => unfold cpA
  go_enter Tryz.func22, Tryz.ntmps22
  go_wp2_with fail
  rw [← HW.out]
  clear HW
  refine c1.mono ?_
  rintro e w3 ⟨u, rfl, o3, b3⟩
  replace q0 := q0.below b3
  replace r0 := r0.below b3
  have B3 := b1.trans (b3.mono b1.size)
  obtain ⟨ab, cb, rfl⟩ := reads_form o3.reads
  have m4 : w3.cell? ⟨w.heap.size + 1 + 1, 4, none⟩ = some (.slice none 0 0) := r0.cell 4 rfl
  have f4 := r0.frozen 4
  have R4 := r0.put 4 (.slice ab c.ts.length cb) (ds := cpA (.slice ab c.ts.length cb) c) rfl
  have Q4 := q0.other ⟨w.heap.size + 1 + 1, 4, none⟩ (.slice ab c.ts.length cb) (by simp)
  have HP : Hid (Own (w3.setCell ⟨w.heap.size + 1 + 1, 4, none⟩ (.slice ab c.ts.length cb)) w1.heap.size (.slice ab c.ts.length cb) c.ts ∧ Below w.heap.size w (w3.setCell ⟨w.heap.size + 1 + 1, 4, none⟩ (.slice ab c.ts.length cb))) := ⟨o3.setLt (by omega) 4 _, B3.setCell (by simp; omega) _⟩
  clear q0 r0 c1 o3 b3 b1 B3
  go_upto_region 7 with fail
  obtain ⟨w4, hw4⟩ : ∃ w4, w4 = w3.setCell ⟨w.heap.size + 1 + 1, 4, none⟩ (.slice ab c.ts.length cb) := ⟨_, rfl⟩
  rw [← hw4] at R4 Q4 HP ⊢
  clear hw4 m4 f4
  go_wp2_with (first | (refine wpList_getS Tryz.isCp rfl _ rfl (w.heap.size + 1 + 1) rfl (cpA (.slice ab c.ts.length cb) c) rfl R4 ?_) | (refine wpList_putS Tryz.isCp rfl _ _ rfl (w.heap.size + 1) (cpA (.slice ab c.ts.length cb) c) zeroCp rfl rfl rfl rfl (cpA_one c rfl) Q4 ?_; intro w8 s8 g8))
  refine bodyPost_ret (results_S Tryz.isCp rfl _ _ (w.heap.size + 1) _ rfl rfl s8) rfl ?_
  exact ⟨_, rfl, (HP.out.1.keptLt g8 (by omega)).mono (by omega), HP.out.2.grown g8 HP.out.2.size (fun k e => by cases e; omega)⟩

set_option maxRecDepth 20000 in
set_option maxHeartbeats 1000000 in
theorem eqCopier_any (u v : Value) (c : Cp) (w : World) (hu : Reads w u c.ts) (hv : Reads w v c.ts) (hl : c.ts.length ≤ 1099511627776) :
    Calls Tryz.prog 33 #[CpV u c, CpV v c] w fun e w' => e = .returned (.bool true) ∧ Below w.heap.size w w' := by
  obtain ⟨w1, hw1⟩ : ∃ w1, w1 = (w.alloc (.cells (cpA u c) 39)).alloc (.cells (cpA v c) 39) := ⟨_, rfl⟩
  have HB : Hid (Below w.heap.size w w1) := by rw [hw1]; exact ((Below.refl _ _).alloc (Nat.le_refl _) _).alloc (by simp) _
  have c1 := eq_any u v c.ts c.ts w1 (hu.below HB.out (Nat.le_refl _)) (hv.below HB.out (Nat.le_refl _)) hl
  rw [show decide (c.ts = c.ts) = true by simp] at c1
  obtain ⟨ao, ca, rfl⟩ := reads_form hu
  obtain ⟨bo, cb, rfl⟩ := reads_form hv
  have HW : Hid (w1 = (w.alloc (.cells #[.int .i64 c.tr, .bool c.op, .int .i64 c.di, .int .i64 c.wa, .slice ao c.ts.length ca] 39)).alloc (.cells #[.int .i64 c.tr, .bool c.op, .int .i64 c.di, .int .i64 c.wa, .slice bo c.ts.length cb] 39)) := hw1
  clear hw1 hu hv hl
  unfold CpV cpA
  go_enter Tryz.func33, Tryz.ntmps33
  go_wp2_with fail
  rw [← HW.out]
  clear HW
  refine c1.mono ?_
  rintro e w3 ⟨rfl, n3, hw3⟩
  have B3 : Hid (Below w.heap.size w w3) := by rw [hw3]; exact below_drewN HB.out n3
  clear hw3 c1 HB
  go_wp2
  go_ret
  exact ⟨rfl, B3.out⟩

set_option maxRecDepth 20000 in
set_option maxHeartbeats 1000000 in
theorem markCopier_any (v : Value) (c : Cp) (k : Int) (w : World) (base : Nat) (ho : Own w base v c.ts) (hl : c.ts.length ≤ 1048576) (h0 : 0 ≤ k) (h1 : k ≤ 4194304) :
    Calls Tryz.prog 37 #[CpV v c, .int .i64 k] w fun e w' => e = .returned (.int .i64 (k + c.ts.length)) ∧ Own w' base v (marks k c.ts.length) ∧ w.grownBy w' v.ownBlock := by
  have B1 : Below w.heap.size w (w.alloc (.cells (cpA v c) 39)) := (Below.refl _ _).alloc (Nat.le_refl _) _
  have G1 : w.grownBy (w.alloc (.cells (cpA v c) 39)) v.ownBlock := World.grownBy_alloc w _ _
  have c1 := mark_any v c.ts k _ base (ho.below B1) (by omega) h0 (by omega)
  obtain ⟨ao, cap, rfl⟩ := reads_form ho.reads
  have hl' : (c.ts.length : Int) ≤ 1048576 := by omega
  clear ho hl
  unfold CpV cpA at *
  go_enter Tryz.func37, Tryz.ntmps37
  go_wp2_with fail
  refine c1.mono ?_
  rintro e w2 ⟨rfl, o2, g2⟩
  have HC : Hid (Own w2 base (.slice ao c.ts.length cap) (marks k c.ts.length) ∧ w.grownBy w2 (Value.slice ao c.ts.length cap).ownBlock) := ⟨o2, G1.trans g2⟩
  clear o2 g2 G1 B1 c1
  go_wp2
  go_ret
  exact ⟨rfl, HC.out⟩

set_option maxRecDepth 20000 in
set_option maxHeartbeats 1000000 in
theorem heldCopier_any (v : Value) (c : Cp) (n : Nat) (k : Int) (w : World) (hn : n = c.ts.length) (hr : Reads w v (marks k n)) (hl : n ≤ 1048576) (h0 : 0 ≤ k) (h1 : k ≤ 4194304) :
    Calls Tryz.prog 41 #[CpV v c, .int .i64 k] w fun e w' => e = .returned (.int .i64 (k + n)) ∧ Below w.heap.size w w' := by
  have B1 : Below w.heap.size w (w.alloc (.cells (cpA v c) 39)) := (Below.refl _ _).alloc (Nat.le_refl _) _
  have c1 := held_marks v n k _ (hr.below B1 (Nat.le_refl _)) (by omega) h0 (by omega)
  obtain ⟨ao, cap, rfl⟩ := reads_form hr
  have hl' : (n : Int) ≤ 1048576 := by omega
  clear hr hl hn
  unfold CpV cpA at *
  go_enter Tryz.func41, Tryz.ntmps41
  go_wp2_with fail
  refine c1.mono ?_
  rintro e w' ⟨rfl, hw⟩; subst w'
  go_wp2
  go_ret
  exact ⟨rfl, B1⟩
end Go.Proofs.YtlkkpolnllbljaaGreatDoor
/- An empty list is marked: nothing is written. -/
namespace Go.Proofs.YtlkkpolnllbljaaGreatDoor
open Go.ChangeShapes Go.WideShapes Go.ChangeAt Go.RowKit

set_option maxRecDepth 20000 in
set_option maxHeartbeats 400000 in
theorem mark0_any (v : Value) (k : Int) (w : World) (h : Reads w v []) :
    Calls Tryz.prog 82 #[v, .int .i64 k] w fun e w' => e = .returned (.int .i64 k) ∧ w' = w := by
  obtain ⟨ao, cap, e⟩ := reads_form h
  simp only [List.length_nil] at e
  subst e
  clear h
  go_enter Tryz.func82, Tryz.ntmps82
  go_wp2
  go_loop [1, 5] (fun q i => i = .int .i64 0 ∧ q = .int .i64 k) (fun _ _ => 0)
  case atStart => exact ⟨rfl, rfl⟩
  case round =>
    obtain ⟨rfl, rfl⟩ := hrel
    go_wp2
    go_ret
    exact ⟨rfl, rfl⟩

end Go.Proofs.YtlkkpolnllbljaaGreatDoor
/- Copiers in the state of a long walk. -/
namespace Go.Proofs.YtlkkpolnllbljaaGreatDoor
open Go.ChangeShapes Go.WideShapes Go.ChangeAt Go.RowKit

theorem Sta.markC {w wx wy : World} {L : List Item} {v : Value} {xs ys : List Int} (h : Sta w wx L) (n : Nat) (e : L[n]? = some (Lst v xs)) (o : Own wy 0 v ys) (m : wx.grownBy wy v.ownBlock) : Sta w wy (L.set n (Lst v ys)) :=
  h.turn n e (Turned.of_grown m) (Lst v ys) rfl o
theorem Sta.readsC {w wx : World} {L : List Item} {v : Value} {xs : List Int} (h : Sta w wx L) (n : Nat) (e : L[n]? = some (Lst v xs)) : Reads wx v xs := (h.get n e).reads
theorem Sta.oneC {w wx : World} {L : List Item} {v : Value} {xs : List Int} (h : Sta w wx L) (n : Nat) (e : L[n]? = some (Lst v xs)) (k : Cp) : (cpA v k).all (·.oneCell') = true := cpA_one k (reads_one (h.readsC n e))
theorem Sta.oneM {w wx : World} {L : List Item} {v : Value} {xs : List Int} (h : Sta w wx L) (n : Nat) (e : L[n]? = some (LstM v xs)) (k : Cp) : (cpA v k).all (·.oneCell') = true := cpA_one k (reads_one (h.readsM n e))

set_option maxRecDepth 20000 in
set_option maxHeartbeats 1000000 in
theorem markCopier0_any (v : Value) (c : Cp) (k : Int) (w : World) (hr : Reads w v c.ts) (h0 : c.ts = []) :
    Calls Tryz.prog 37 #[CpV v c, .int .i64 k] w fun e w' => e = .returned (.int .i64 k) ∧ Below w.heap.size w w' := by
  have B1 : Below w.heap.size w (w.alloc (.cells (cpA v c) 39)) := (Below.refl _ _).alloc (Nat.le_refl _) _
  rw [h0] at hr
  have c1 := mark0_any v k (w.alloc (.cells (cpA v c) 39)) (hr.below B1 (Nat.le_refl _))
  obtain ⟨ao, cap, e⟩ := reads_form hr
  simp only [List.length_nil] at e
  subst e
  clear hr h0
  unfold CpV cpA at *
  go_enter Tryz.func37, Tryz.ntmps37
  go_wp2_with fail
  refine c1.mono ?_
  rintro e w2 ⟨rfl, hw⟩
  subst w2
  clear c1
  go_wp2
  go_ret
  exact ⟨rfl, B1⟩
theorem markCopierM_any (v : Value) (c : Cp) (k : Int) (w : World) (base : Nat) (ho : Mine w base v c.ts) (hl : c.ts.length ≤ 1048576) (h0 : 0 ≤ k) (h1 : k ≤ 4194304) :
    Calls Tryz.prog 37 #[CpV v c, .int .i64 k] w fun e w' => e = .returned (.int .i64 (k + c.ts.length)) ∧ Mine w' base v (marks k c.ts.length) ∧ Turned w w' (mineOf v c.ts) := by
  by_cases hx : c.ts = []
  · refine (markCopier0_any v c k w ho.reads hx).mono ?_
    rintro e w' ⟨rfl, b⟩
    rw [hx]
    refine ⟨by simp, ?_, Turned.of_below b⟩
    have hr := ho.reads
    rw [hx] at hr
    exact Reads.mine hr.later
  · refine (markCopier_any v c k w base (ho.own hx) hl h0 h1).mono ?_
    rintro e w' ⟨rfl, o, g⟩
    refine ⟨rfl, .inl o, ?_⟩
    unfold mineOf
    rw [if_neg (fun e => hx (List.eq_nil_of_length_eq_zero e))]
    exact Turned.of_grown g
end Go.Proofs.YtlkkpolnllbljaaGreatDoor
/- How the laws take a sink over, compare two, mark one and look at the marks. -/
namespace Go.Proofs.YtlkkpolnllbljaaGreatDoor
open Go.ChangeShapes Go.WideShapes Go.ChangeAt Go.RowKit

theorem Tryz.isLSn : IsS 32 2 := ⟨⟨_, Tryz.underlying32⟩, by kernel_rfl⟩

set_option maxRecDepth 20000 in
set_option maxHeartbeats 1000000 in
theorem szSink_any (v : Value) (c : Sn) (k : Int) (w : World) (hr : Reads w v c.ts) (h0 : 0 ≤ k) (h1 : k ≤ 1048576) :
    Calls Tryz.prog 15 #[SnV v c, .int .i64 k] w fun e w' => e = .returned (.int .i64 (szI k c.ts.length)) ∧ Below w.heap.size w w' := by
  have B1 : Below w.heap.size w (w.alloc (.cells (snA v c) 32)) := (Below.refl _ _).alloc (Nat.le_refl _) _
  have c1 := sz_any v c.ts k _ (hr.below B1 (Nat.le_refl _)) h0 h1
  have hs : szI k c.ts.length = -1 ∨ 0 ≤ szI k c.ts.length := by unfold szI; split <;> omega
  obtain ⟨x, hx⟩ : ∃ x, x = szI k c.ts.length := ⟨_, rfl⟩
  rw [← hx] at c1 hs ⊢
  obtain ⟨ao, cap, rfl⟩ := reads_form hr
  clear hx hr
  unfold SnV snA at *
  rcases hs with hs | hs
  · subst hs
    go_enter Tryz.func15, Tryz.ntmps15
    go_wp2_with fail
    refine c1.mono ?_
    rintro e w' ⟨rfl, hw⟩; subst w'
    go_wp2
    go_ret
    exact ⟨rfl, B1⟩
  · go_enter Tryz.func15, Tryz.ntmps15
    go_wp2_with fail
    refine c1.mono ?_
    rintro e w' ⟨rfl, hw⟩; subst w'
    go_wp2
    go_ret
    exact ⟨rfl, B1⟩

set_option maxRecDepth 20000 in
set_option maxHeartbeats 2000000 in
theorem toSink_any (v : Value) (c : Sn) (w : World) (hr : Reads w v c.ts) (hl : c.ts.length ≤ 1099511627776) :
    Calls Tryz.prog 23 #[SnV v c] w fun e w' => ∃ u, e = .returned (SnV u c) ∧ Own w' w.heap.size u c.ts ∧ Below w.heap.size w w' := by
  obtain ⟨w1, hw1⟩ : ∃ w1, w1 = ((w.alloc (.cells (snA v c) 32)).alloc (.cells zeroSn 40)).alloc (.cells #[.int .i64 c.tr, .slice none 0 0] 40) := ⟨_, rfl⟩
  have q0 : StB w1 (w.heap.size + 1) 40 zeroSn := by
    rw [hw1]
    have := (StB.new (w.alloc (.cells (snA v c) 32)) 40 zeroSn).alloc (.cells #[.int .i64 c.tr, .slice none 0 0] 40)
    rwa [World.size_alloc] at this
  have r0 : StB w1 (w.heap.size + 1 + 1) 40 #[.int .i64 c.tr, .slice none 0 0] := by
    rw [hw1]
    have := StB.new ((w.alloc (.cells (snA v c) 32)).alloc (.cells zeroSn 40)) 40 #[.int .i64 c.tr, .slice none 0 0]
    rwa [World.size_alloc, World.size_alloc] at this
  have b1 : Below w.heap.size w w1 := by rw [hw1]; exact (((Below.refl _ _).alloc (Nat.le_refl _) _).alloc (by simp) _).alloc (by simp; omega) _
  have c1 := to_any v c.ts w1 (hr.below b1 (Nat.le_refl _)) hl
  have hs1 := r0.lt
  obtain ⟨ao, cap, rfl⟩ := reads_form hr
  have HW : Hid (w1 = ((w.alloc (.cells #[.int .i64 c.tr, .slice ao c.ts.length cap] 32)).alloc (.cells #[.int .i64 0, .slice none 0 0] 40)).alloc (.cells #[.int .i64 c.tr, .slice none 0 0] 40)) := hw1
  clear hw1 hr hl
  unfold SnV
  conv in snA (.slice ao c.ts.length cap) c => unfold snA
  go_enter Tryz.func23, Tryz.ntmps23
  go_wp2_with fail
  rw [← HW.out]
  clear HW
  refine c1.mono ?_
  rintro e w3 ⟨u, rfl, o3, b3⟩
  replace q0 := q0.below b3
  replace r0 := r0.below b3
  have B3 := b1.trans (b3.mono b1.size)
  obtain ⟨ab, cb, rfl⟩ := reads_form o3.reads
  have m4 : w3.cell? ⟨w.heap.size + 1 + 1, 1, none⟩ = some (.slice none 0 0) := r0.cell 1 rfl
  have f4 := r0.frozen 1
  have R4 := r0.put 1 (.slice ab c.ts.length cb) (ds := snA (.slice ab c.ts.length cb) c) rfl
  have Q4 := q0.other ⟨w.heap.size + 1 + 1, 1, none⟩ (.slice ab c.ts.length cb) (by simp)
  have HP : Hid (Own (w3.setCell ⟨w.heap.size + 1 + 1, 1, none⟩ (.slice ab c.ts.length cb)) w1.heap.size (.slice ab c.ts.length cb) c.ts ∧ Below w.heap.size w (w3.setCell ⟨w.heap.size + 1 + 1, 1, none⟩ (.slice ab c.ts.length cb))) := ⟨o3.setLt (by omega) 1 _, B3.setCell (by simp; omega) _⟩
  clear q0 r0 c1 o3 b3 b1 B3
  go_upto_region 4 with fail
  obtain ⟨w4, hw4⟩ : ∃ w4, w4 = w3.setCell ⟨w.heap.size + 1 + 1, 1, none⟩ (.slice ab c.ts.length cb) := ⟨_, rfl⟩
  rw [← hw4] at R4 Q4 HP ⊢
  clear hw4 m4 f4
  go_wp2_with (first | (refine wpList_getS Tryz.isSn rfl _ rfl (w.heap.size + 1 + 1) rfl (snA (.slice ab c.ts.length cb) c) rfl R4 ?_) | (refine wpList_putS Tryz.isSn rfl _ _ rfl (w.heap.size + 1) (snA (.slice ab c.ts.length cb) c) zeroSn rfl rfl rfl rfl (snA_one c rfl) Q4 ?_; intro w8 s8 g8))
  refine bodyPost_ret (results_S Tryz.isSn rfl _ _ (w.heap.size + 1) _ rfl rfl s8) rfl ?_
  exact ⟨_, rfl, (HP.out.1.keptLt g8 (by omega)).mono (by omega), HP.out.2.grown g8 HP.out.2.size (fun k e => by cases e; omega)⟩

set_option maxRecDepth 20000 in
set_option maxHeartbeats 1000000 in
theorem eqSink_any (u v : Value) (c : Sn) (w : World) (hu : Reads w u c.ts) (hv : Reads w v c.ts) (hl : c.ts.length ≤ 1099511627776) :
    Calls Tryz.prog 34 #[SnV u c, SnV v c] w fun e w' => e = .returned (.bool true) ∧ Below w.heap.size w w' := by
  obtain ⟨w1, hw1⟩ : ∃ w1, w1 = (w.alloc (.cells (snA u c) 40)).alloc (.cells (snA v c) 40) := ⟨_, rfl⟩
  have HB : Hid (Below w.heap.size w w1) := by rw [hw1]; exact ((Below.refl _ _).alloc (Nat.le_refl _) _).alloc (by simp) _
  have c1 := eq_any u v c.ts c.ts w1 (hu.below HB.out (Nat.le_refl _)) (hv.below HB.out (Nat.le_refl _)) hl
  rw [show decide (c.ts = c.ts) = true by simp] at c1
  obtain ⟨ao, ca, rfl⟩ := reads_form hu
  obtain ⟨bo, cb, rfl⟩ := reads_form hv
  have HW : Hid (w1 = (w.alloc (.cells #[.int .i64 c.tr, .slice ao c.ts.length ca] 40)).alloc (.cells #[.int .i64 c.tr, .slice bo c.ts.length cb] 40)) := hw1
  clear hw1 hu hv hl
  unfold SnV snA
  go_enter Tryz.func34, Tryz.ntmps34
  go_wp2_with fail
  rw [← HW.out]
  clear HW
  refine c1.mono ?_
  rintro e w3 ⟨rfl, n3, hw3⟩
  have B3 : Hid (Below w.heap.size w w3) := by rw [hw3]; exact below_drewN HB.out n3
  clear hw3 c1 HB
  go_wp2
  go_ret
  exact ⟨rfl, B3.out⟩

set_option maxRecDepth 20000 in
set_option maxHeartbeats 1000000 in
theorem markSink_any (v : Value) (c : Sn) (k : Int) (w : World) (base : Nat) (ho : Own w base v c.ts) (hl : c.ts.length ≤ 1048576) (h0 : 0 ≤ k) (h1 : k ≤ 4194304) :
    Calls Tryz.prog 38 #[SnV v c, .int .i64 k] w fun e w' => e = .returned (.int .i64 (k + c.ts.length)) ∧ Own w' base v (marks k c.ts.length) ∧ w.grownBy w' v.ownBlock := by
  have B1 : Below w.heap.size w (w.alloc (.cells (snA v c) 40)) := (Below.refl _ _).alloc (Nat.le_refl _) _
  have G1 : w.grownBy (w.alloc (.cells (snA v c) 40)) v.ownBlock := World.grownBy_alloc w _ _
  have c1 := mark_any v c.ts k _ base (ho.below B1) (by omega) h0 (by omega)
  obtain ⟨ao, cap, rfl⟩ := reads_form ho.reads
  have hl' : (c.ts.length : Int) ≤ 1048576 := by omega
  clear ho hl
  unfold SnV snA at *
  go_enter Tryz.func38, Tryz.ntmps38
  go_wp2_with fail
  refine c1.mono ?_
  rintro e w2 ⟨rfl, o2, g2⟩
  have HC : Hid (Own w2 base (.slice ao c.ts.length cap) (marks k c.ts.length) ∧ w.grownBy w2 (Value.slice ao c.ts.length cap).ownBlock) := ⟨o2, G1.trans g2⟩
  clear o2 g2 G1 B1 c1
  go_wp2
  go_ret
  exact ⟨rfl, HC.out⟩

set_option maxRecDepth 20000 in
set_option maxHeartbeats 1000000 in
theorem heldSink_any (v : Value) (c : Sn) (n : Nat) (k : Int) (w : World) (hn : n = c.ts.length) (hr : Reads w v (marks k n)) (hl : n ≤ 1048576) (h0 : 0 ≤ k) (h1 : k ≤ 4194304) :
    Calls Tryz.prog 42 #[SnV v c, .int .i64 k] w fun e w' => e = .returned (.int .i64 (k + n)) ∧ Below w.heap.size w w' := by
  have B1 : Below w.heap.size w (w.alloc (.cells (snA v c) 40)) := (Below.refl _ _).alloc (Nat.le_refl _) _
  have c1 := held_marks v n k _ (hr.below B1 (Nat.le_refl _)) (by omega) h0 (by omega)
  obtain ⟨ao, cap, rfl⟩ := reads_form hr
  have hl' : (n : Int) ≤ 1048576 := by omega
  clear hr hl hn
  unfold SnV snA at *
  go_enter Tryz.func42, Tryz.ntmps42
  go_wp2_with fail
  refine c1.mono ?_
  rintro e w' ⟨rfl, hw⟩; subst w'
  go_wp2
  go_ret
  exact ⟨rfl, B1⟩
end Go.Proofs.YtlkkpolnllbljaaGreatDoor
/- Sinks in the state of a long walk. -/
namespace Go.Proofs.YtlkkpolnllbljaaGreatDoor
open Go.ChangeShapes Go.WideShapes Go.ChangeAt Go.RowKit

theorem Sta.markK {w wx wy : World} {L : List Item} {v : Value} {xs ys : List Int} (h : Sta w wx L) (n : Nat) (e : L[n]? = some (Lst v xs)) (o : Own wy 0 v ys) (m : wx.grownBy wy v.ownBlock) : Sta w wy (L.set n (Lst v ys)) :=
  h.turn n e (Turned.of_grown m) (Lst v ys) rfl o
theorem Sta.readsK {w wx : World} {L : List Item} {v : Value} {xs : List Int} (h : Sta w wx L) (n : Nat) (e : L[n]? = some (Lst v xs)) : Reads wx v xs := (h.get n e).reads
theorem Sta.oneK {w wx : World} {L : List Item} {v : Value} {xs : List Int} (h : Sta w wx L) (n : Nat) (e : L[n]? = some (Lst v xs)) (k : Sn) : (snA v k).all (·.oneCell') = true := snA_one k (reads_one ((h.get n e).reads))
theorem Sta.oneN {w wx : World} {L : List Item} {v : Value} {xs : List Int} (h : Sta w wx L) (n : Nat) (e : L[n]? = some (LstM v xs)) (k : Sn) : (snA v k).all (·.oneCell') = true := snA_one k (reads_one (h.readsM n e))

set_option maxRecDepth 20000 in
set_option maxHeartbeats 1000000 in
theorem markSink0_any (v : Value) (c : Sn) (k : Int) (w : World) (hr : Reads w v c.ts) (h0 : c.ts = []) :
    Calls Tryz.prog 38 #[SnV v c, .int .i64 k] w fun e w' => e = .returned (.int .i64 k) ∧ Below w.heap.size w w' := by
  have B1 : Below w.heap.size w (w.alloc (.cells (snA v c) 40)) := (Below.refl _ _).alloc (Nat.le_refl _) _
  rw [h0] at hr
  have c1 := mark0_any v k (w.alloc (.cells (snA v c) 40)) (hr.below B1 (Nat.le_refl _))
  obtain ⟨ao, cap, e⟩ := reads_form hr
  simp only [List.length_nil] at e
  subst e
  clear hr h0
  unfold SnV snA at *
  go_enter Tryz.func38, Tryz.ntmps38
  go_wp2_with fail
  refine c1.mono ?_
  rintro e w2 ⟨rfl, hw⟩
  subst w2
  clear c1
  go_wp2
  go_ret
  exact ⟨rfl, B1⟩
theorem markSinkM_any (v : Value) (c : Sn) (k : Int) (w : World) (base : Nat) (ho : Mine w base v c.ts) (hl : c.ts.length ≤ 1048576) (h0 : 0 ≤ k) (h1 : k ≤ 4194304) :
    Calls Tryz.prog 38 #[SnV v c, .int .i64 k] w fun e w' => e = .returned (.int .i64 (k + c.ts.length)) ∧ Mine w' base v (marks k c.ts.length) ∧ Turned w w' (mineOf v c.ts) := by
  by_cases hx : c.ts = []
  · refine (markSink0_any v c k w ho.reads hx).mono ?_
    rintro e w' ⟨rfl, b⟩
    rw [hx]
    refine ⟨by simp, ?_, Turned.of_below b⟩
    have hr := ho.reads
    rw [hx] at hr
    exact Reads.mine hr.later
  · refine (markSink_any v c k w base (ho.own hx) hl h0 h1).mono ?_
    rintro e w' ⟨rfl, o, g⟩
    refine ⟨rfl, .inl o, ?_⟩
    unfold mineOf
    rw [if_neg (fun e => hx (List.eq_nil_of_length_eq_zero e))]
    exact Turned.of_grown g
end Go.Proofs.YtlkkpolnllbljaaGreatDoor
/- Disks in the state of a long walk. -/
namespace Go.Proofs.YtlkkpolnllbljaaGreatDoor
open Go.ChangeShapes Go.WideShapes Go.ChangeAt Go.RowKit

def Dsk (u v : Value) (xs ys : List Int) : Item := ⟨u.ownBlock.toList ++ v.ownBlock.toList, 0, fun w => OwnD w 0 u v xs ys, fun _ _ e _ h => ⟨h.1.frame (fun b hb => e b (List.mem_append_left _ hb)), h.2.1.frame (fun b hb => e b (List.mem_append_right _ hb)), h.2.2⟩⟩
theorem Sta.disk {w wx wy : World} {L : List Item} {u v : Value} {xs ys : List Int} (h : Sta w wx L) (o : OwnD wy wx.heap.size u v xs ys) (b : Below wx.heap.size wx wy) : Sta w wy (Dsk u v xs ys :: L) :=
  h.add b (Dsk u v xs ys) ⟨o.1.mono (Nat.zero_le _), o.2.1.mono (Nat.zero_le _), o.2.2⟩ (fun k hk => by
    simp only [Dsk, List.mem_append, Option.mem_toList] at hk
    rcases hk with hk | hk
    · exact o.1.lt k hk
    · exact o.2.1.lt k hk)
theorem Marked.turned {w w' : World} {u v : Value} (h : Marked w w' u v) : Turned w w' (u.ownBlock.toList ++ v.ownBlock.toList) := by
  obtain ⟨w1, g1, g2⟩ := h
  exact (Turned.of_grown g1).trans (Turned.of_grown g2)
theorem Sta.marked {w wx wy : World} {L : List Item} {u v : Value} {xs ys zs ts : List Int} (h : Sta w wx L) (n : Nat) (e : L[n]? = some (Dsk u v xs ys)) (o : OwnD wy 0 u v zs ts) (m : Marked wx wy u v) : Sta w wy (L.set n (Dsk u v zs ts)) :=
  h.turn n e m.turned (Dsk u v zs ts) rfl o
theorem Sta.readsU {w wx : World} {L : List Item} {u v : Value} {xs ys : List Int} (h : Sta w wx L) (n : Nat) (e : L[n]? = some (Dsk u v xs ys)) : Reads wx u xs := (h.get n e).1.reads
theorem Sta.readsV {w wx : World} {L : List Item} {u v : Value} {xs ys : List Int} (h : Sta w wx L) (n : Nat) (e : L[n]? = some (Dsk u v xs ys)) : Reads wx v ys := (h.get n e).2.1.reads
theorem Sta.ones {w wx : World} {L : List Item} {u v : Value} {xs ys : List Int} (h : Sta w wx L) (n : Nat) (e : L[n]? = some (Dsk u v xs ys)) : (#[u, v] : Array Value).all (·.oneCell') = true := pair_one (h.readsU n e).one (h.readsV n e).one
theorem apart_blocks {i j : List Nat} {u v : Value} (hi : i = u.ownBlock.toList) (hj : j = v.ownBlock.toList) (h : ∀ b ∈ i, b ∉ j) : apart u v := by
  subst hi hj
  refine ⟨?_, ?_⟩
  · by_cases e : u.ownBlock = none
    · exact .inl e
    · refine .inr fun e2 => ?_
      obtain ⟨g, hg⟩ := Option.ne_none_iff_exists'.1 e
      exact h g (by simp [hg]) (by simp [← e2, hg])
  · by_cases e : v.ownBlock = none
    · exact .inl e
    · refine .inr fun e2 => ?_
      obtain ⟨g, hg⟩ := Option.ne_none_iff_exists'.1 e
      exact h g (by simp [← e2, hg]) (by simp [hg])
/- Two lists that lie apart are a disk. -/
theorem Sta.two {w wx : World} {L : List Item} {u v : Value} {xs ys : List Int} (h : Sta w wx (Lst u xs :: Lst v ys :: L)) : Sta w wx (Dsk u v xs ys :: L) :=
  h.join (Dsk u v xs ys) rfl ⟨h.get 0 rfl, h.get 1 rfl, apart_blocks rfl rfl (h.apart.1 (Lst v ys) (by simp))⟩
end Go.Proofs.YtlkkpolnllbljaaGreatDoor
