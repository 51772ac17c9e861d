/- Frames as lists of bytes; what l4Framed and Framed of the model answer. -/
import Derived.Test.YtnnmcjgmnjokiaaDoorDec
import Derived.Test.YtnnmcjgmnjokiaaDoorDrawA
import Derived.Laws.OwnMore
import Derived.OwnWalk
import Derived.Laws.IdiomStrings
import Derived.Deep.RegionHeld3
import Derived.Test.YtnnmcjgmnjokiaaDoorCmB
namespace Go.Proofs.YtnnmcjgmnjokiaaDoor
open Go.ChangeShapes Go.WideShapes Go.ChangeAt Go.RowKit

def framed (l : Bs) : Bs := dec l.length ++ [32] ++ dec (chk l).toNat ++ [32] ++ l ++ [10]
def framedS (l : Bs) : Bs := if plainB l then framed l else []

theorem decI_nat (n : Nat) : decI n = dec n := by simp [decI]
theorem chk_cast (l : Bs) : ((chk l).toNat : Int) = chk l := by have := (chk_bd l).1; omega
theorem app (a b : Bs) : (({ data := a.toArray } : ByteArray) ++ { data := b.toArray }) = { data := (a ++ b).toArray } := ByteArray.mk_append_mk a b
theorem bsize (a : Bs) : ({ data := a.toArray } : ByteArray).size = a.length := rfl
end Go.Proofs.YtnnmcjgmnjokiaaDoor
/- What the law on frames draws: texts. Lists of bytes of the call's own. -/
namespace Go.Proofs.YtnnmcjgmnjokiaaDoor
open Go.ChangeShapes Go.WideShapes Go.ChangeAt Go.RowKit

def U (b : UInt8) : Value := .int .u8 (byteI b)
def OwnU (w : World) (base : Nat) (v : Value) (l : Bs) : Prop := w.ownsRow base 5 1 v l.length (l.map U)
theorem Tryd.infoU : (Tryd.prog.info? 5).map (fun i => (i.zero, i.size, i.bytes)) = some (some (.int .u8 0), 1, 1) := by kernel_rfl
theorem OwnU.lt {w : World} {base : Nat} {v : Value} {xs : Bs} (h : OwnU w base v xs) : ∀ k, v.ownBlock = some k → base ≤ k ∧ k < w.heap.size := World.ownsRow.lt h
theorem OwnU.frame {w w' : World} {base : Nat} {v : Value} {xs : Bs} (h : OwnU w base v xs) (e : ∀ b ∈ v.ownBlock.toList, w'.heap[b]? = w.heap[b]?) : OwnU w' base v xs := by
  refine ⟨h.1, ?_⟩
  rcases h.2 with h' | ⟨g, cap, cur, rfl, hb, hg, r⟩
  · exact .inl h'
  · exact .inr ⟨g, cap, cur, rfl, hb, (e g (by simp [Value.ownBlock])).trans hg, r⟩
theorem OwnU.raise {w : World} {base base' : Nat} {v : Value} {xs : Bs} (h : OwnU w base v xs) (hb : ∀ k, v.ownBlock = some k → base' ≤ k) : OwnU w base' v xs := by
  refine ⟨h.1, ?_⟩
  rcases h.2 with h' | ⟨g, cap, cur, rfl, _, r⟩
  · exact .inl h'
  · exact .inr ⟨g, cap, cur, rfl, hb g rfl, r⟩
theorem mapU_one (l : Bs) (b : UInt8) : l.map U ++ [U b] = (l ++ [b]).map U := by simp
theorem litU1 (w : World) (b : UInt8) : ∀ j u, ([U b])[j]? = some u → (w.alloc (.cells #[U b] 5)).cell? ((⟨w.heap.size, 0, none⟩ : Addr).add j) = some u := by
  intro j u hj
  match j, hj with
  | 0, hj => simp at hj; subst hj; simp [Addr.add]
theorem OwnU.kept {w w' : World} {base : Nat} {v : Value} {row : Option Nat} {xs : Bs} (h : OwnU w base v xs) (hg : w.grownBy w' row) (hne : v.ownBlock = none ∨ v.ownBlock ≠ row) : OwnU w' base v xs :=
  World.ownsRow.kept h hg hne
theorem OwnU.notAt {w : World} {base c : Nat} {v : Value} {xs : Bs} (h : OwnU w base v xs) (hc : c < base) : v.ownBlock = none ∨ v.ownBlock ≠ some c := by
  by_cases e : v.ownBlock = none
  · exact .inl e
  · refine .inr fun e2 => ?_
    have := (h.lt c e2).1
    omega
theorem grown_ownU {o a b : World} {c : Nat} {row : Option Nat} (h : o.grownBy a (some c)) (g : a.grownBy b row) (hr : ∀ k, row = some k → o.heap.size ≤ k) : o.grownBy b (some c) :=
  ⟨g.os.trans h.os, g.tape.trans h.tape, g.output.trans h.output, Nat.le_trans h.size g.size, fun k hk hne => (g.block k (Nat.lt_of_lt_of_le hk h.size) (fun e => by have := hr k e.symm; omega)).trans (h.block k hk hne)⟩

/- A list of bytes that is being drawn: new since w0; the cursor stands; nothing else has turned. -/
def DrawnU (w0 w : World) (B c : Nat) (v : Value) (l : Bs) : Prop := OwnU w w0.heap.size v l ∧ Cur w B c ∧ w0.grownBy w (some c) ∧ c < w0.heap.size
theorem DrawnU.draw {w0 w w' : World} {B c : Nat} {v : Value} {l : Bs} (h : DrawnU w0 w B c v l) (C : Cur w' B c) (G : w.grownBy w' (some c)) : DrawnU w0 w' B c v l :=
  ⟨h.1.kept G (h.1.notAt h.2.2.2), C, h.2.2.1.trans G, h.2.2.2⟩
theorem DrawnU.append {w0 w w' : World} {B c : Nat} {v v' : Value} {l : Bs} {b : UInt8} {o : Obj} (h : DrawnU w0 w B c v l) (hB : B ≤ w0.heap.size)
    (hown : w'.ownsRow w0.heap.size 5 1 v' (l.length + 1) (l.map U ++ [U b])) (hg : (w.alloc o).grownBy w' v.ownBlock) : DrawnU w0 w' B c v' (l ++ [b]) := by
  obtain ⟨h1, h2, h3, h4⟩ := h
  have ga : w.grownBy (w.alloc o) (some c) := World.grownBy_alloc w o _
  have hrow : ∀ k, v.ownBlock = some k → w0.heap.size ≤ k := fun k e => (h1.lt k e).1
  refine ⟨?_, ?_, grown_ownU (h3.trans ga) hg hrow, h4⟩
  · unfold OwnU
    rw [← mapU_one]
    simpa using hown
  · exact (h2.kept (World.grownBy_alloc w o none) (by simp) (by simp)).kept hg (by rcases h1.notAt h4 with e | e; rw [e]; simp; exact e) (fun k e => by have := hrow k e; omega)
theorem DrawnU.new {w0 w w' : World} {B c : Nat} {v v' : Value} {l l' : Bs} (h : DrawnU w0 w B c v l) (hown : OwnU w' w.heap.size v' l') (G : w.grownBy w' none) : DrawnU w0 w' B c v' l' :=
  ⟨OwnU.raise hown (fun k hk => Nat.le_trans h.2.2.1.size (hown.lt k hk).1), h.2.1.kept G (by simp) (by simp), grown_ownU h.2.2.1 G (by simp), h.2.2.2⟩
/- Bytes as a string. -/
theorem run_str (w : World) (base : Nat) (v : Value) (l : Bs) (h : OwnU w base v l) (hv : v ≠ .slice none 0 0) : (convert 22 9 v).run Tryd.prog w = .ok (S l) w := by
  rcases h.2 with ⟨e, _⟩ | ⟨g, cap, cur, rfl, hb, hg, hnc, hcm, hcs, ht⟩
  · exact absurd e hv
  · refine run_convert_bytes_back (P := Tryd.prog) w 22 9 5 ⟨g, 0, none⟩ cap l Tryd.underlying22 Tryd.underlying5 Tryd.underlying9 (fun j hj => ?_)
    have := World.ownsRow.cellAt (w := w) h j (by omega)
    rw [show (⟨g, 0, none⟩ : Addr).add j = ⟨g, j, none⟩ by unfold Addr.add; split <;> simp_all, this]
    simp [hj, U, byteI]

theorem zerosU_eq (n : Nat) : (madeCells #[Value.int .u8 0] n).toList = (List.replicate n (0 : UInt8)).map U := by
  rw [toList_madeCells_one, List.map_replicate]; rfl
end Go.Proofs.YtnnmcjgmnjokiaaDoor
/- What the law on frames draws: DrawCheck, DrawFramed; pick. -/
namespace Go.Proofs.YtnnmcjgmnjokiaaDoor
open Go.ChangeShapes Go.WideShapes Go.ChangeAt Go.RowKit
end Go.Proofs.YtnnmcjgmnjokiaaDoor
/- Texts are bent: l1Bend of the model. -/
namespace Go.Proofs.YtnnmcjgmnjokiaaDoor
open Go.ChangeShapes Go.WideShapes Go.ChangeAt Go.RowKit

/- Bytes in a block of the call's own, from its head on. -/
def Buf (w : World) (base g n cap : Nat) (l : Bs) : Prop :=
  base ≤ g ∧ g < w.heap.size ∧ n = l.length ∧ n ≤ cap ∧ cap ≤ maxLen ∧ ∀ j (h : j < l.length), w.cell? ⟨g, j, none⟩ = some (U l[j]) ∧ w.frozen? ⟨g, j, none⟩ = false
theorem Buf.kept {w w' : World} {base g n cap : Nat} {l : Bs} {row : Option Nat} (h : Buf w base g n cap l) (hg : w.grownBy w' row) (hne : some g ≠ row) : Buf w' base g n cap l := by
  obtain ⟨h1, h2, h3, h4, h5, h6⟩ := h
  have hb := hg.block g h2 hne
  exact ⟨h1, Nat.lt_of_lt_of_le h2 hg.size, h3, h4, h5, fun j hj => ⟨(World.cell?_of_block (a := ⟨g, j, none⟩) hb).trans (h6 j hj).1, (World.frozen?_of_block (a := ⟨g, j, none⟩) hb).trans (h6 j hj).2⟩⟩
theorem Buf.shrink {w : World} {base g n cap : Nat} {l : Bs} (h : Buf w base g n cap l) (k : Nat) (hk : k ≤ n) : Buf w base g k cap (l.take k) := by
  obtain ⟨h1, h2, h3, h4, h5, h6⟩ := h
  refine ⟨h1, h2, by simp; omega, by omega, h5, fun j hj => ?_⟩
  have hj' : j < k ∧ j < l.length := by simp at hj; omega
  have := h6 j hj'.2
  rw [List.getElem_take]
  exact this
theorem Buf.of_own {w : World} {base g n cap : Nat} {l : Bs} (h : OwnU w base (.slice (some ⟨g, 0, none⟩) n cap) l) : Buf w base g n cap l := by
  have hlt := h.lt g rfl
  rcases h.2 with ⟨e, _⟩ | ⟨g', cap', cur, e, hb, hg, hnc, hcm, hcs, ht⟩
  · cases e
  · cases e
    refine ⟨hlt.1, hlt.2, rfl, hnc, hcm, fun j hj => ⟨?_, World.ownsRow.frozenAt h j⟩⟩
    have := World.ownsRow.cellAt (w := w) h j (by omega)
    rw [this]
    simp [hj]
theorem Buf.str {w : World} {base g n cap : Nat} {l : Bs} (h : Buf w base g n cap l) : (convert 22 9 (.slice (some ⟨g, 0, none⟩) n cap)).run Tryd.prog w = .ok (S l) w := by
  obtain ⟨h1, h2, rfl, h4, h5, h6⟩ := h
  refine run_convert_bytes_back (P := Tryd.prog) w 22 9 5 ⟨g, 0, none⟩ cap l Tryd.underlying22 Tryd.underlying5 Tryd.underlying9 (fun j hj => ?_)
  rw [show (⟨g, 0, none⟩ : Addr).add j = ⟨g, j, none⟩ by unfold Addr.add; split <;> simp_all]
  exact (h6 j hj).1

theorem run_bytes (w : World) (s : Bs) (hs : s.length ≤ 1000000) : ∃ cap w1, (convert 9 22 (.string ⟨s.toArray⟩)).run Tryd.prog w = .ok (.slice (some ⟨w.heap.size, 0, none⟩) s.length cap) w1 ∧ Buf w1 w.heap.size w.heap.size s.length cap s ∧ w.grownBy w1 none := by
  have hr := run_bytes_of_string (P := Tryd.prog) w 9 22 5 ⟨s.toArray⟩ Tryd.underlying9 Tryd.underlying22 Tryd.underlying5
  have hsz : (⟨s.toArray⟩ : ByteArray).size = s.length := rfl
  rw [hsz] at hr
  refine ⟨_, _, hr, ?_, ⟨rfl, rfl, rfl, by simp, fun k hk _ => Below.heap_alloc w.drew _ k hk⟩⟩
  have hge := grownCap_ge w s.length 0 5
  have hcm := grownCap_le_maxLen w s.length 0 5 (by unfold maxLen; omega)
  generalize grownCap w s.length 0 5 = cap at hge hcm
  have hh : (w.drew.alloc (.cells (bytesRow ⟨s.toArray⟩ cap) 5 ((bytesRow ⟨s.toArray⟩ cap).size, (bytesRow ⟨s.toArray⟩ cap).size + 1))).heap[w.heap.size]? = some (.cells (bytesRow ⟨s.toArray⟩ cap) 5 ((bytesRow ⟨s.toArray⟩ cap).size, (bytesRow ⟨s.toArray⟩ cap).size + 1)) := heap_alloc_new w.drew _
  have hrs : s.length ≤ (bytesRow ⟨s.toArray⟩ cap).size := by simp [bytesRow, ByteArray.size]
  refine ⟨Nat.le_refl _, by simp, rfl, hge, hcm, fun j hj => ⟨?_, ?_⟩⟩
  · rw [cell_of_row _ w.heap.size j _ _ _ hh]
    unfold bytesRow
    rw [Array.getElem?_append_left (by simpa using hj)]
    simp [hj, U, byteI]
  · have h1 : ¬ (bytesRow ⟨s.toArray⟩ cap).size ≤ j := by omega
    simp only [World.frozen?, hh]
    simp [h1]

/- append of bytes onto a list of the call's own that is not nil, as one step of a region that draws. -/
theorem step_appendU {ops : Array Oper} {o : Oper} {a : Act} {w : World} {K : Act → World → Prop} {Q : Exit → Act → World → Prop} {E : Prop} (hgd : o.guard = none) (s x : Operand)
    (ho : o.op = .call { callee := .builtin .append, args := #[s, x], argTypes := #[22, 22] }) (base g n cap : Nat) (l : Bs) (hs : a.eval s = .slice (some ⟨g, 0, none⟩) n cap) (hown : OwnU w base (.slice (some ⟨g, 0, none⟩) n cap) l)
    (ad : Addr) (m c : Nat) (l2 : Bs) (hx : a.eval x = .slice (some ad) m c) (hm : m = l2.length) (hnews : ∀ j (hj : j < l2.length), w.cell? (ad.add j) = some (U l2[j])) (hsm : l.length + l2.length ≤ 10000000) (hbase : base ≤ w.heap.size)
    (h : ∀ g' cap' w', OwnU w' base (.slice (some ⟨g', 0, none⟩) (n + m) cap') (l ++ l2) → w.grownBy w' (some g) → K (a.put o.dst (.slice (some ⟨g', 0, none⟩) (n + m) cap')) w') : if Region.wanted o (yielded ops a.tmps) = true then Oper.wp Tryd.prog o a w K Q else E := by
  have hw : Region.wanted o (yielded ops a.tmps) = true := by simp [Region.wanted, hgd]
  rw [if_pos hw]
  obtain ⟨i0, hi, hz0, hz1, hz2⟩ := info_parts Tryd.infoU
  have hn : n = l.length := by
    rcases hown.2 with ⟨e, _⟩ | ⟨g', cap', cur, e, _⟩
    · cases e
    · cases e; rfl
  subst hn hm
  have hnews' : ∀ j u, (l2.map U)[j]? = some u → w.cell? (ad.add j) = some u := by
    intro j u hj
    have hlt : j < l2.length := by
      rcases Nat.lt_or_ge j l2.length with h | h
      · exact h
      · rw [List.getElem?_eq_none (by simpa using h)] at hj; cases hj
    rw [hnews j hlt]
    simpa [hlt] using hj
  have hone : ∀ u ∈ l2.map U, u.oneCell' = true := by
    intro u hu
    obtain ⟨b, _, rfl⟩ := List.mem_map.1 hu
    rfl
  obtain ⟨v', w', hrun, r1, r2, r3⟩ := run_append_own (P := Tryd.prog) w base 22 o.type 5 i0 (.int .u8 0) 1 1 Tryd.underlying22 hi hz0 hz1 hz2 rfl (by decide) _ l.length (l.map U) hown ad l2.length c (l2.map U) (by simp) hnews' hone (by unfold maxLen; omega) (by omega) hbase
  have hnil : v' ≠ .slice none 0 0 := fun e => by have := (r3.1 e).1; cases this
  rw [← List.map_append] at r1
  rcases r1.2 with ⟨e, _⟩ | ⟨g', cap', cur, e, rr⟩
  · exact absurd e hnil
  · subst e
    unfold Oper.wp
    simp [execOp, ho, resolve, invoke, builtin, hs, hx, hrun, Result.andThen]
    refine h g' cap' w' ?_ r2
    unfold OwnU
    rw [List.length_append]
    exact r1

def DrawnB (w0 w : World) (B c g n cap : Nat) (l : Bs) : Prop := Buf w w0.heap.size g n cap l ∧ Cur w B c ∧ w0.grownBy w (some c) ∧ c < w0.heap.size
theorem DrawnB.draw {w0 w w' : World} {B c g n cap : Nat} {l : Bs} (h : DrawnB w0 w B c g n cap l) (C : Cur w' B c) (G : w.grownBy w' (some c)) : DrawnB w0 w' B c g n cap l :=
  ⟨h.1.kept G (by have := h.1.1; have := h.2.2.2; simp; omega), C, h.2.2.1.trans G, h.2.2.2⟩
theorem DrawnB.put {w0 w : World} {B c g n cap : Nat} {l : Bs} (h : DrawnB w0 w B c g n cap l) (hB : B ≤ w0.heap.size) (k : Nat) (b : UInt8) : DrawnB w0 (w.setCell ⟨g, k, none⟩ (U b)) B c g n cap (l.set k b) := by
  obtain ⟨h1, h2, h3, h4⟩ := h
  have hg := grown_set w g k (U b)
  refine ⟨?_, h2.kept hg (by have := h1.1; simp; omega) (fun j e => by cases e; have := h1.1; omega), grown_ownU h3 hg (fun j e => by cases e; exact h1.1), h4⟩
  obtain ⟨g1, g2, g3, g4, g5, g6⟩ := h1
  refine ⟨g1, by simpa using g2, by simpa using g3, g4, g5, fun j hj => ?_⟩
  have hj' : j < l.length := by simpa using hj
  rw [World.frozen?_setCell, List.getElem_set]
  refine ⟨?_, (g6 j hj').2⟩
  by_cases e : k = j
  · subst e
    rw [if_pos rfl]
    exact World.cell?_setCell_same' w ⟨g, k, none⟩ (U b) (by rw [(g6 k hj').1]; rfl)
  · rw [if_neg e, ← (g6 j hj').1]
    apply World.cell?_setCell_other
    intro h
    cases h
    exact e rfl

theorem Buf.newsD {w : World} {base g n cap : Nat} {l : Bs} (h : Buf w base g n cap l) (k j : Nat) (hj : j < (l.drop k).length) : w.cell? ((⟨g, k, none⟩ : Addr).add j) = some (U (l.drop k)[j]) := by
  have hj' : k + j < l.length := by simp at hj; omega
  rw [show (⟨g, k, none⟩ : Addr).add j = ⟨g, k + j, none⟩ by unfold Addr.add; split <;> simp_all, (h.2.2.2.2.2 (k + j) hj').1, List.getElem_drop]
theorem DrawnB.keep {w0 w w' : World} {B c g n cap : Nat} {l : Bs} (h : DrawnB w0 w B c g n cap l) (G : w.grownBy w' none) : DrawnB w0 w' B c g n cap l :=
  ⟨h.1.kept G (by simp), h.2.1.kept G (by simp) (by simp), grown_ownU h.2.2.1 G (by simp), h.2.2.2⟩
theorem Buf.news {w : World} {base g n cap : Nat} {l : Bs} (h : Buf w base g n cap l) (j : Nat) (hj : j < l.length) (k : Nat) (hk : j < (l.take k).length) : w.cell? ((⟨g, 0, none⟩ : Addr).add j) = some (U (l.take k)[j]) := by
  rw [show (⟨g, 0, none⟩ : Addr).add j = ⟨g, j, none⟩ by unfold Addr.add; split <;> simp_all, (h.2.2.2.2.2 j hj).1, List.getElem_take]

theorem DrawnB.grow {w0 w w' : World} {B c g n cap g' n' cap' a : Nat} {l l' : Bs} (h : DrawnB w0 w B c g n cap l) (hB : B ≤ w0.heap.size) (G : w.grownBy w' (some a)) (ha : w0.heap.size ≤ a) (o : OwnU w' w0.heap.size (.slice (some ⟨g', 0, none⟩) n' cap') l') : DrawnB w0 w' B c g' n' cap' l' :=
  ⟨Buf.of_own o, h.2.1.kept G (by have := h.2.2.2; simp; omega) (fun k e => by cases e; omega), grown_ownU h.2.2.1 G (fun k e => by cases e; exact ha), h.2.2.2⟩

theorem DrawnB.growKeep {w0 w w' : World} {B c g n cap a : Nat} {l : Bs} (h : DrawnB w0 w B c g n cap l) (hB : B ≤ w0.heap.size) (G : w.grownBy w' (some a)) (ha : w0.heap.size ≤ a) (hne : g ≠ a) : DrawnB w0 w' B c g n cap l :=
  ⟨h.1.kept G (by simpa using hne), h.2.1.kept G (by have := h.2.2.2; simp; omega) (fun k e => by cases e; omega), grown_ownU h.2.2.1 G (fun k e => by cases e; exact ha), h.2.2.2⟩
theorem OwnU.alloc {w : World} {base : Nat} {v : Value} {l : Bs} (h : OwnU w base v l) (o : Obj) : OwnU (w.alloc o) base v l := World.ownsRow.alloc h o
theorem litU1' (w : World) (b : UInt8) (j : Nat) (hj : j < [b].length) : (w.alloc (.cells #[U b] 5)).cell? ((⟨w.heap.size, 0, none⟩ : Addr).add j) = some (U [b][j]) := by
  have e : j = 0 := by simpa using hj
  subst e
  exact litU1 w b 0 _ rfl

theorem framedS_len (t : Bs) (h : t.length ≤ 301) : (framedS t).length ≤ 400 := by
  unfold framedS
  split
  · have h1 := dec_len 2 t.length (by omega)
    have h2 := dec_len 5 (chk t).toNat (by have := chk_bd t; omega)
    simp [framed]; omega
  · simp
end Go.Proofs.YtnnmcjgmnjokiaaDoor
/- What the laws on commands draw: l6Draw, l6DrawAny, DrawCmdOk, DrawShowCmd, DrawChanges. -/
namespace Go.Proofs.YtnnmcjgmnjokiaaDoor
open Go.ChangeShapes Go.WideShapes Go.ChangeAt Go.RowKit

theorem grownSetC (w : World) (g j : Nat) (x : Value) : w.grownBy (w.setCell ⟨g, j, none⟩ x) (some g) :=
  ⟨rfl, rfl, rfl, by simp, fun k _ hk => heap_setCell_other w ⟨g, j, none⟩ k x (fun e => hk (by simp [e]))⟩
theorem grown_of_belowC {w w' : World} (h : Below w.heap.size w w') (row : Option Nat) : w.grownBy w' row := ⟨h.os, h.tape, h.output, h.size, fun k hk _ => h.block k hk⟩
/- The cursor stands, nothing else that was there has turned; a block of the call's own holds the zero command, another one r. -/
def DC (w wx : World) (B c g k : Nat) (r : Cm) : Prop :=
  Cur wx B c ∧ w.grownBy wx (some c) ∧ CmB wx g 28 Cm.zero ∧ CmB wx k 28 r ∧ w.heap.size ≤ g ∧ g < k ∧ c < w.heap.size ∧ B ≤ w.heap.size
theorem DC.draw {w wx wy : World} {B c g k : Nat} {r : Cm} (h : DC w wx B c g k r) (C : Cur wy B c) (G : wx.grownBy wy (some c)) : DC w wy B c g k r :=
  ⟨C, h.2.1.trans G, h.2.2.1.kept G (by intro e; have := Option.some.inj e; have := h.2.2.2.2; omega), h.2.2.2.1.kept G (by intro e; have := Option.some.inj e; have := h.2.2.2.2; omega), h.2.2.2.2⟩
theorem DC.alloc {w wx : World} {B c g k : Nat} {r : Cm} (h : DC w wx B c g k r) (x : Obj) : DC w (wx.alloc x) B c g k r :=
  ⟨h.1.kept (World.grownBy_alloc wx x none) (by simp) (by simp), h.2.1.trans (World.grownBy_alloc wx x _), h.2.2.1.alloc x, h.2.2.2.1.alloc x, h.2.2.2.2⟩
theorem CmB.put {w : World} {g : Nat} {t : TypeId} {r : Cm} (h : CmB w g t r) (j : Nat) (x : Int) (q : Cm) (e : (cmA r).setIfInBounds j (.int .i64 x) = cmA q) : CmB (w.setCell ⟨g, j, none⟩ (.int .i64 x)) g t q := by
  have := heap_setCell_same w g j _ _ (.int .i64 x) h
  rw [e] at this
  exact this
theorem DC.put {w wx : World} {B c g k : Nat} {r : Cm} (h : DC w wx B c g k r) (j : Nat) (x : Int) (q : Cm) (e : (cmA r).setIfInBounds j (.int .i64 x) = cmA q) : DC w (wx.setCell ⟨k, j, none⟩ (.int .i64 x)) B c g k q :=
  have G := grownSetC wx k j (.int .i64 x)
  ⟨h.1.kept G (by intro e; have := Option.some.inj e; have := h.2.2.2.2; omega) (fun y e => by cases e; have := h.2.2.2.2; omega), grown_ownU h.2.1 G (fun y e => by cases e; have := h.2.2.2.2; omega), h.2.2.1.kept G (by intro e; have := Option.some.inj e; have := h.2.2.2.2; omega), h.2.2.2.1.put j x q e, h.2.2.2.2⟩
/- What is left: the command is stored where the answer lies. -/
theorem DC.fin {w wx wy : World} {B c g k : Nat} {r : Cm} (h : DC w wx B c g k r) (G : wx.grownBy wy (some g)) : Cur wy B c ∧ w.grownBy wy (some c) :=
  ⟨h.1.kept G (by intro e; have := Option.some.inj e; have := h.2.2.2.2; omega) (fun x e => by cases e; have := h.2.2.2.2; omega), grown_ownU h.2.1 G (fun x e => by cases e; have := h.2.2.2.2; omega)⟩
/- The answer's block alone. -/
def D0 (w wx : World) (B c g : Nat) : Prop := Cur wx B c ∧ w.grownBy wx (some c) ∧ CmB wx g 28 Cm.zero ∧ w.heap.size ≤ g ∧ c < w.heap.size ∧ B ≤ w.heap.size
theorem D0.start {w : World} {B c : Nat} (h : Cur w B c) : D0 w (w.alloc (.cells (cmA Cm.zero) 28)) B c w.heap.size :=
  ⟨h.kept (World.grownBy_alloc w _ none) (by simp) (by simp), World.grownBy_alloc w _ _, CmB.new w _ _, Nat.le_refl _, h.lt.2, by have := h.lt; omega⟩
theorem D0.draw {w wx wy : World} {B c g : Nat} (h : D0 w wx B c g) (C : Cur wy B c) (G : wx.grownBy wy (some c)) : D0 w wy B c g :=
  ⟨C, h.2.1.trans G, h.2.2.1.kept G (by intro e; have := Option.some.inj e; have := h.2.2.2; omega), h.2.2.2⟩
theorem D0.box {w wx : World} {B c g : Nat} (h : D0 w wx B c g) (r : Cm) : DC w (wx.alloc (.cells (cmA r) 28)) B c g wx.heap.size r :=
  ⟨h.1.kept (World.grownBy_alloc wx _ none) (by simp) (by simp), h.2.1.trans (World.grownBy_alloc wx _ _), h.2.2.1.alloc _, CmB.new wx _ r, h.2.2.2.1, h.2.2.1.lt, h.2.2.2.2⟩

set_option maxRecDepth 20000 in
set_option maxHeartbeats 8000000 in
theorem l6draw_any (B c : Nat) (w : World) (h : Cur w B c) :
    Calls Tryd.prog 53 #[.pointer (some ⟨c, 0, none⟩)] w fun e w' => ∃ r, e = .returned (CV r) ∧ r.Byt ∧ Cur w' B c ∧ w.grownBy w' (some c) := by
  have H0 : Hid (D0 w (w.alloc (.cells (cmA Cm.zero) 28)) B c w.heap.size) := D0.start h
  clear h
  go_enter Tryd.func53, Tryd.ntmps53
  go_wp2_with fail
  refine (below_any B c 12 _ H0.out.1 (by omega)).mono ?_
  rintro e w1 ⟨x1, rfl, l1, u1, -, C1, G1⟩
  have y1 := u1 (by omega)
  have H1 : Hid (D0 w w1 B c w.heap.size) := H0.out.draw C1 G1
  clear u1 C1 G1 H0
  have hgk : w.heap.size < w1.heap.size := H1.out.2.2.1.lt
  have hne : w.heap.size ≠ w1.heap.size := by omega
  have H2 : Hid (DC w (w1.alloc (.cells #[.int .i64 (1 + x1), .int .i64 0, .int .i64 0, .int .i64 0, .int .i64 0] 28)) B c w.heap.size w1.heap.size ⟨1 + x1, 0, 0, 0, 0⟩) := H1.out.box ⟨1 + x1, 0, 0, 0, 0⟩
  clear H1
  go_wp2_with fail
  refine (once_any B c 3 _ H2.out.1 (by omega)).mono ?_
  rintro e w2 ⟨b, rfl, C2, G2⟩
  have H3 : Hid (DC w w2 B c w.heap.size w1.heap.size ⟨1 + x1, 0, 0, 0, 0⟩) := H2.out.draw C2 G2
  clear C2 G2 H2
  have hk2 : w1.heap.size < w2.heap.size := H3.out.2.2.2.1.lt
  cases b with
  | false =>
    obtain rfl | rfl | rfl | rfl | rfl | rfl | rfl | rfl | rfl | rfl | rfl | rfl : x1 = 0 ∨ x1 = 1 ∨ x1 = 2 ∨ x1 = 3 ∨ x1 = 4 ∨ x1 = 5 ∨ x1 = 6 ∨ x1 = 7 ∨ x1 = 8 ∨ x1 = 9 ∨ x1 = 10 ∨ x1 = 11 := by omega
    · replace H3 : Hid (DC w w2 B c w.heap.size w1.heap.size ⟨1, 0, 0, 0, 0⟩) := H3
      have kc : w2.cell? ⟨w1.heap.size, 0, none⟩ = some (.int .i64 1) := H3.out.2.2.2.1.cell 0 rfl
      clear l1 y1
      go_wp2_with fail
      refine (below_any B c 5 _ H3.out.1 (by omega)).mono ?_
      rintro e v4 ⟨x4, rfl, l4, u4, -, C4, G4⟩
      have y4 := u4 (by omega)
      have H4 : Hid (DC w v4 B c w.heap.size w1.heap.size ⟨1, 0, 0, 0, 0⟩) := H3.out.draw C4 G4
      clear u4 C4 G4 H3 
      have k4 : v4.cell? ⟨w1.heap.size, 1, none⟩ = some (.int .i64 0) := H4.out.2.2.2.1.cell 1 rfl
      have f4 := H4.out.2.2.2.1.frozen 1
      have s4 := H4.out.2.2.2.1.lt
      have J4 : Hid (DC w (v4.setCell ⟨w1.heap.size, 1, none⟩ (.int .i64 x4)) B c w.heap.size w1.heap.size ⟨1, x4, 0, 0, 0⟩) := H4.out.put 1 x4 ⟨1, x4, 0, 0, 0⟩ rfl
      clear H4
      have q5 : CmB (v4.setCell ⟨w1.heap.size, 1, none⟩ (.int .i64 x4)) w1.heap.size 28 ⟨1, x4, 0, 0, 0⟩ := J4.out.2.2.2.1
      have z5 : CmB (v4.setCell ⟨w1.heap.size, 1, none⟩ (.int .i64 x4)) w.heap.size 28 Cm.zero := J4.out.2.2.1
      have hf : Hid ((⟨1, x4, 0, 0, 0⟩ : Cm).Byt) := by unfold Hid Cm.Byt; dsimp only; omega
      go_wp2_with (first | (refine wpList_getC rfl _ rfl w1.heap.size rfl ⟨1, x4, 0, 0, 0⟩ q5 ?_) | (refine wpList_putC rfl _ _ rfl w.heap.size ⟨1, x4, 0, 0, 0⟩ Cm.zero rfl rfl z5 ?_; intro we Re Ge))
      refine bodyPost_ret (results_C rfl _ _ w.heap.size _ rfl Re) rfl ?_
      exact ⟨_, rfl, hf.out, J4.out.fin Ge⟩
    · replace H3 : Hid (DC w w2 B c w.heap.size w1.heap.size ⟨2, 0, 0, 0, 0⟩) := H3
      have kc : w2.cell? ⟨w1.heap.size, 0, none⟩ = some (.int .i64 2) := H3.out.2.2.2.1.cell 0 rfl
      clear l1 y1
      go_wp2_with fail
      refine (below_any B c 5 _ H3.out.1 (by omega)).mono ?_
      rintro e v4 ⟨x4, rfl, l4, u4, -, C4, G4⟩
      have y4 := u4 (by omega)
      have H4 : Hid (DC w v4 B c w.heap.size w1.heap.size ⟨2, 0, 0, 0, 0⟩) := H3.out.draw C4 G4
      clear u4 C4 G4 H3 
      have k4 : v4.cell? ⟨w1.heap.size, 1, none⟩ = some (.int .i64 0) := H4.out.2.2.2.1.cell 1 rfl
      have f4 := H4.out.2.2.2.1.frozen 1
      have s4 := H4.out.2.2.2.1.lt
      have J4 : Hid (DC w (v4.setCell ⟨w1.heap.size, 1, none⟩ (.int .i64 x4)) B c w.heap.size w1.heap.size ⟨2, x4, 0, 0, 0⟩) := H4.out.put 1 x4 ⟨2, x4, 0, 0, 0⟩ rfl
      clear H4
      go_wp2_with fail
      refine (below_any B c 6 _ J4.out.1 (by omega)).mono ?_
      rintro e v5 ⟨x5, rfl, l5, u5, -, C5, G5⟩
      have y5 := u5 (by omega)
      have H5 : Hid (DC w v5 B c w.heap.size w1.heap.size ⟨2, x4, 0, 0, 0⟩) := J4.out.draw C5 G5
      clear u5 C5 G5 J4 k4 f4 s4
      have k5 : v5.cell? ⟨w1.heap.size, 2, none⟩ = some (.int .i64 0) := H5.out.2.2.2.1.cell 2 rfl
      have f5 := H5.out.2.2.2.1.frozen 2
      have s5 := H5.out.2.2.2.1.lt
      have J5 : Hid (DC w (v5.setCell ⟨w1.heap.size, 2, none⟩ (.int .i64 x5)) B c w.heap.size w1.heap.size ⟨2, x4, x5, 0, 0⟩) := H5.out.put 2 x5 ⟨2, x4, x5, 0, 0⟩ rfl
      clear H5
      have q6 : CmB (v5.setCell ⟨w1.heap.size, 2, none⟩ (.int .i64 x5)) w1.heap.size 28 ⟨2, x4, x5, 0, 0⟩ := J5.out.2.2.2.1
      have z6 : CmB (v5.setCell ⟨w1.heap.size, 2, none⟩ (.int .i64 x5)) w.heap.size 28 Cm.zero := J5.out.2.2.1
      have hf : Hid ((⟨2, x4, x5, 0, 0⟩ : Cm).Byt) := by unfold Hid Cm.Byt; dsimp only; omega
      go_wp2_with (first | (refine wpList_getC rfl _ rfl w1.heap.size rfl ⟨2, x4, x5, 0, 0⟩ q6 ?_) | (refine wpList_putC rfl _ _ rfl w.heap.size ⟨2, x4, x5, 0, 0⟩ Cm.zero rfl rfl z6 ?_; intro we Re Ge))
      refine bodyPost_ret (results_C rfl _ _ w.heap.size _ rfl Re) rfl ?_
      exact ⟨_, rfl, hf.out, J5.out.fin Ge⟩
    · replace H3 : Hid (DC w w2 B c w.heap.size w1.heap.size ⟨3, 0, 0, 0, 0⟩) := H3
      have kc : w2.cell? ⟨w1.heap.size, 0, none⟩ = some (.int .i64 3) := H3.out.2.2.2.1.cell 0 rfl
      clear l1 y1
      go_wp2_with fail
      refine (below_any B c 4 _ H3.out.1 (by omega)).mono ?_
      rintro e v4 ⟨x4, rfl, l4, u4, -, C4, G4⟩
      have y4 := u4 (by omega)
      have H4 : Hid (DC w v4 B c w.heap.size w1.heap.size ⟨3, 0, 0, 0, 0⟩) := H3.out.draw C4 G4
      clear u4 C4 G4 H3 
      have k4 : v4.cell? ⟨w1.heap.size, 1, none⟩ = some (.int .i64 0) := H4.out.2.2.2.1.cell 1 rfl
      have f4 := H4.out.2.2.2.1.frozen 1
      have s4 := H4.out.2.2.2.1.lt
      have J4 : Hid (DC w (v4.setCell ⟨w1.heap.size, 1, none⟩ (.int .i64 x4)) B c w.heap.size w1.heap.size ⟨3, x4, 0, 0, 0⟩) := H4.out.put 1 x4 ⟨3, x4, 0, 0, 0⟩ rfl
      clear H4
      go_wp2_with fail
      refine (below_any B c 4 _ J4.out.1 (by omega)).mono ?_
      rintro e v5 ⟨x5, rfl, l5, u5, -, C5, G5⟩
      have y5 := u5 (by omega)
      have H5 : Hid (DC w v5 B c w.heap.size w1.heap.size ⟨3, x4, 0, 0, 0⟩) := J4.out.draw C5 G5
      clear u5 C5 G5 J4 k4 f4 s4
      have k5 : v5.cell? ⟨w1.heap.size, 2, none⟩ = some (.int .i64 0) := H5.out.2.2.2.1.cell 2 rfl
      have f5 := H5.out.2.2.2.1.frozen 2
      have s5 := H5.out.2.2.2.1.lt
      have J5 : Hid (DC w (v5.setCell ⟨w1.heap.size, 2, none⟩ (.int .i64 x5)) B c w.heap.size w1.heap.size ⟨3, x4, x5, 0, 0⟩) := H5.out.put 2 x5 ⟨3, x4, x5, 0, 0⟩ rfl
      clear H5
      go_wp2_with fail
      refine (below_any B c 6 _ J5.out.1 (by omega)).mono ?_
      rintro e v6 ⟨x6, rfl, l6, u6, -, C6, G6⟩
      have y6 := u6 (by omega)
      have H6 : Hid (DC w v6 B c w.heap.size w1.heap.size ⟨3, x4, x5, 0, 0⟩) := J5.out.draw C6 G6
      clear u6 C6 G6 J5 k5 f5 s5
      have k6 : v6.cell? ⟨w1.heap.size, 3, none⟩ = some (.int .i64 0) := H6.out.2.2.2.1.cell 3 rfl
      have f6 := H6.out.2.2.2.1.frozen 3
      have s6 := H6.out.2.2.2.1.lt
      have J6 : Hid (DC w (v6.setCell ⟨w1.heap.size, 3, none⟩ (.int .i64 x6)) B c w.heap.size w1.heap.size ⟨3, x4, x5, x6, 0⟩) := H6.out.put 3 x6 ⟨3, x4, x5, x6, 0⟩ rfl
      clear H6
      have q7 : CmB (v6.setCell ⟨w1.heap.size, 3, none⟩ (.int .i64 x6)) w1.heap.size 28 ⟨3, x4, x5, x6, 0⟩ := J6.out.2.2.2.1
      have z7 : CmB (v6.setCell ⟨w1.heap.size, 3, none⟩ (.int .i64 x6)) w.heap.size 28 Cm.zero := J6.out.2.2.1
      have hf : Hid ((⟨3, x4, x5, x6, 0⟩ : Cm).Byt) := by unfold Hid Cm.Byt; dsimp only; omega
      go_wp2_with (first | (refine wpList_getC rfl _ rfl w1.heap.size rfl ⟨3, x4, x5, x6, 0⟩ q7 ?_) | (refine wpList_putC rfl _ _ rfl w.heap.size ⟨3, x4, x5, x6, 0⟩ Cm.zero rfl rfl z7 ?_; intro we Re Ge))
      refine bodyPost_ret (results_C rfl _ _ w.heap.size _ rfl Re) rfl ?_
      exact ⟨_, rfl, hf.out, J6.out.fin Ge⟩
    · replace H3 : Hid (DC w w2 B c w.heap.size w1.heap.size ⟨4, 0, 0, 0, 0⟩) := H3
      have kc : w2.cell? ⟨w1.heap.size, 0, none⟩ = some (.int .i64 4) := H3.out.2.2.2.1.cell 0 rfl
      clear l1 y1
      go_wp2_with fail
      refine (below_any B c 5 _ H3.out.1 (by omega)).mono ?_
      rintro e v4 ⟨x4, rfl, l4, u4, -, C4, G4⟩
      have y4 := u4 (by omega)
      have H4 : Hid (DC w v4 B c w.heap.size w1.heap.size ⟨4, 0, 0, 0, 0⟩) := H3.out.draw C4 G4
      clear u4 C4 G4 H3 
      have k4 : v4.cell? ⟨w1.heap.size, 1, none⟩ = some (.int .i64 0) := H4.out.2.2.2.1.cell 1 rfl
      have f4 := H4.out.2.2.2.1.frozen 1
      have s4 := H4.out.2.2.2.1.lt
      have J4 : Hid (DC w (v4.setCell ⟨w1.heap.size, 1, none⟩ (.int .i64 x4)) B c w.heap.size w1.heap.size ⟨4, x4, 0, 0, 0⟩) := H4.out.put 1 x4 ⟨4, x4, 0, 0, 0⟩ rfl
      clear H4
      have q5 : CmB (v4.setCell ⟨w1.heap.size, 1, none⟩ (.int .i64 x4)) w1.heap.size 28 ⟨4, x4, 0, 0, 0⟩ := J4.out.2.2.2.1
      have z5 : CmB (v4.setCell ⟨w1.heap.size, 1, none⟩ (.int .i64 x4)) w.heap.size 28 Cm.zero := J4.out.2.2.1
      have hf : Hid ((⟨4, x4, 0, 0, 0⟩ : Cm).Byt) := by unfold Hid Cm.Byt; dsimp only; omega
      go_wp2_with (first | (refine wpList_getC rfl _ rfl w1.heap.size rfl ⟨4, x4, 0, 0, 0⟩ q5 ?_) | (refine wpList_putC rfl _ _ rfl w.heap.size ⟨4, x4, 0, 0, 0⟩ Cm.zero rfl rfl z5 ?_; intro we Re Ge))
      refine bodyPost_ret (results_C rfl _ _ w.heap.size _ rfl Re) rfl ?_
      exact ⟨_, rfl, hf.out, J4.out.fin Ge⟩
    · replace H3 : Hid (DC w w2 B c w.heap.size w1.heap.size ⟨5, 0, 0, 0, 0⟩) := H3
      have kc : w2.cell? ⟨w1.heap.size, 0, none⟩ = some (.int .i64 5) := H3.out.2.2.2.1.cell 0 rfl
      clear l1 y1
      have q4 : CmB w2 w1.heap.size 28 ⟨5, 0, 0, 0, 0⟩ := H3.out.2.2.2.1
      have z4 : CmB w2 w.heap.size 28 Cm.zero := H3.out.2.2.1
      have hf : Hid ((⟨5, 0, 0, 0, 0⟩ : Cm).Byt) := by unfold Hid Cm.Byt; dsimp only; omega
      go_wp2_with (first | (refine wpList_getC rfl _ rfl w1.heap.size rfl ⟨5, 0, 0, 0, 0⟩ q4 ?_) | (refine wpList_putC rfl _ _ rfl w.heap.size ⟨5, 0, 0, 0, 0⟩ Cm.zero rfl rfl z4 ?_; intro we Re Ge))
      refine bodyPost_ret (results_C rfl _ _ w.heap.size _ rfl Re) rfl ?_
      exact ⟨_, rfl, hf.out, H3.out.fin Ge⟩
    · replace H3 : Hid (DC w w2 B c w.heap.size w1.heap.size ⟨6, 0, 0, 0, 0⟩) := H3
      have kc : w2.cell? ⟨w1.heap.size, 0, none⟩ = some (.int .i64 6) := H3.out.2.2.2.1.cell 0 rfl
      clear l1 y1
      go_wp2_with fail
      refine (below_any B c 3 _ H3.out.1 (by omega)).mono ?_
      rintro e v4 ⟨x4, rfl, l4, u4, -, C4, G4⟩
      have y4 := u4 (by omega)
      have H4 : Hid (DC w v4 B c w.heap.size w1.heap.size ⟨6, 0, 0, 0, 0⟩) := H3.out.draw C4 G4
      clear u4 C4 G4 H3 
      have k4 : v4.cell? ⟨w1.heap.size, 2, none⟩ = some (.int .i64 0) := H4.out.2.2.2.1.cell 2 rfl
      have f4 := H4.out.2.2.2.1.frozen 2
      have s4 := H4.out.2.2.2.1.lt
      have J4 : Hid (DC w (v4.setCell ⟨w1.heap.size, 2, none⟩ (.int .i64 x4)) B c w.heap.size w1.heap.size ⟨6, 0, x4, 0, 0⟩) := H4.out.put 2 x4 ⟨6, 0, x4, 0, 0⟩ rfl
      clear H4
      have q5 : CmB (v4.setCell ⟨w1.heap.size, 2, none⟩ (.int .i64 x4)) w1.heap.size 28 ⟨6, 0, x4, 0, 0⟩ := J4.out.2.2.2.1
      have z5 : CmB (v4.setCell ⟨w1.heap.size, 2, none⟩ (.int .i64 x4)) w.heap.size 28 Cm.zero := J4.out.2.2.1
      have hf : Hid ((⟨6, 0, x4, 0, 0⟩ : Cm).Byt) := by unfold Hid Cm.Byt; dsimp only; omega
      go_wp2_with (first | (refine wpList_getC rfl _ rfl w1.heap.size rfl ⟨6, 0, x4, 0, 0⟩ q5 ?_) | (refine wpList_putC rfl _ _ rfl w.heap.size ⟨6, 0, x4, 0, 0⟩ Cm.zero rfl rfl z5 ?_; intro we Re Ge))
      refine bodyPost_ret (results_C rfl _ _ w.heap.size _ rfl Re) rfl ?_
      exact ⟨_, rfl, hf.out, J4.out.fin Ge⟩
    · replace H3 : Hid (DC w w2 B c w.heap.size w1.heap.size ⟨7, 0, 0, 0, 0⟩) := H3
      have kc : w2.cell? ⟨w1.heap.size, 0, none⟩ = some (.int .i64 7) := H3.out.2.2.2.1.cell 0 rfl
      clear l1 y1
      go_wp2_with fail
      refine (below_any B c 6 _ H3.out.1 (by omega)).mono ?_
      rintro e v4 ⟨x4, rfl, l4, u4, -, C4, G4⟩
      have y4 := u4 (by omega)
      have H4 : Hid (DC w v4 B c w.heap.size w1.heap.size ⟨7, 0, 0, 0, 0⟩) := H3.out.draw C4 G4
      clear u4 C4 G4 H3 
      have k4 : v4.cell? ⟨w1.heap.size, 4, none⟩ = some (.int .i64 0) := H4.out.2.2.2.1.cell 4 rfl
      have f4 := H4.out.2.2.2.1.frozen 4
      have s4 := H4.out.2.2.2.1.lt
      have J4 : Hid (DC w (v4.setCell ⟨w1.heap.size, 4, none⟩ (.int .i64 (1 + x4))) B c w.heap.size w1.heap.size ⟨7, 0, 0, 0, (1 + x4)⟩) := H4.out.put 4 (1 + x4) ⟨7, 0, 0, 0, (1 + x4)⟩ rfl
      clear H4
      have q5 : CmB (v4.setCell ⟨w1.heap.size, 4, none⟩ (.int .i64 (1 + x4))) w1.heap.size 28 ⟨7, 0, 0, 0, (1 + x4)⟩ := J4.out.2.2.2.1
      have z5 : CmB (v4.setCell ⟨w1.heap.size, 4, none⟩ (.int .i64 (1 + x4))) w.heap.size 28 Cm.zero := J4.out.2.2.1
      have hf : Hid ((⟨7, 0, 0, 0, (1 + x4)⟩ : Cm).Byt) := by unfold Hid Cm.Byt; dsimp only; omega
      go_wp2_with (first | (refine wpList_getC rfl _ rfl w1.heap.size rfl ⟨7, 0, 0, 0, (1 + x4)⟩ q5 ?_) | (refine wpList_putC rfl _ _ rfl w.heap.size ⟨7, 0, 0, 0, (1 + x4)⟩ Cm.zero rfl rfl z5 ?_; intro we Re Ge))
      refine bodyPost_ret (results_C rfl _ _ w.heap.size _ rfl Re) rfl ?_
      exact ⟨_, rfl, hf.out, J4.out.fin Ge⟩
    · replace H3 : Hid (DC w w2 B c w.heap.size w1.heap.size ⟨8, 0, 0, 0, 0⟩) := H3
      have kc : w2.cell? ⟨w1.heap.size, 0, none⟩ = some (.int .i64 8) := H3.out.2.2.2.1.cell 0 rfl
      clear l1 y1
      have q4 : CmB w2 w1.heap.size 28 ⟨8, 0, 0, 0, 0⟩ := H3.out.2.2.2.1
      have z4 : CmB w2 w.heap.size 28 Cm.zero := H3.out.2.2.1
      have hf : Hid ((⟨8, 0, 0, 0, 0⟩ : Cm).Byt) := by unfold Hid Cm.Byt; dsimp only; omega
      go_wp2_with (first | (refine wpList_getC rfl _ rfl w1.heap.size rfl ⟨8, 0, 0, 0, 0⟩ q4 ?_) | (refine wpList_putC rfl _ _ rfl w.heap.size ⟨8, 0, 0, 0, 0⟩ Cm.zero rfl rfl z4 ?_; intro we Re Ge))
      refine bodyPost_ret (results_C rfl _ _ w.heap.size _ rfl Re) rfl ?_
      exact ⟨_, rfl, hf.out, H3.out.fin Ge⟩
    · replace H3 : Hid (DC w w2 B c w.heap.size w1.heap.size ⟨9, 0, 0, 0, 0⟩) := H3
      have kc : w2.cell? ⟨w1.heap.size, 0, none⟩ = some (.int .i64 9) := H3.out.2.2.2.1.cell 0 rfl
      clear l1 y1
      have q4 : CmB w2 w1.heap.size 28 ⟨9, 0, 0, 0, 0⟩ := H3.out.2.2.2.1
      have z4 : CmB w2 w.heap.size 28 Cm.zero := H3.out.2.2.1
      have hf : Hid ((⟨9, 0, 0, 0, 0⟩ : Cm).Byt) := by unfold Hid Cm.Byt; dsimp only; omega
      go_wp2_with (first | (refine wpList_getC rfl _ rfl w1.heap.size rfl ⟨9, 0, 0, 0, 0⟩ q4 ?_) | (refine wpList_putC rfl _ _ rfl w.heap.size ⟨9, 0, 0, 0, 0⟩ Cm.zero rfl rfl z4 ?_; intro we Re Ge))
      refine bodyPost_ret (results_C rfl _ _ w.heap.size _ rfl Re) rfl ?_
      exact ⟨_, rfl, hf.out, H3.out.fin Ge⟩
    · replace H3 : Hid (DC w w2 B c w.heap.size w1.heap.size ⟨10, 0, 0, 0, 0⟩) := H3
      have kc : w2.cell? ⟨w1.heap.size, 0, none⟩ = some (.int .i64 10) := H3.out.2.2.2.1.cell 0 rfl
      clear l1 y1
      go_wp2_with fail
      refine (below_any B c 3 _ H3.out.1 (by omega)).mono ?_
      rintro e v4 ⟨x4, rfl, l4, u4, -, C4, G4⟩
      have y4 := u4 (by omega)
      have H4 : Hid (DC w v4 B c w.heap.size w1.heap.size ⟨10, 0, 0, 0, 0⟩) := H3.out.draw C4 G4
      clear u4 C4 G4 H3 
      have k4 : v4.cell? ⟨w1.heap.size, 2, none⟩ = some (.int .i64 0) := H4.out.2.2.2.1.cell 2 rfl
      have f4 := H4.out.2.2.2.1.frozen 2
      have s4 := H4.out.2.2.2.1.lt
      have J4 : Hid (DC w (v4.setCell ⟨w1.heap.size, 2, none⟩ (.int .i64 x4)) B c w.heap.size w1.heap.size ⟨10, 0, x4, 0, 0⟩) := H4.out.put 2 x4 ⟨10, 0, x4, 0, 0⟩ rfl
      clear H4
      go_wp2_with fail
      refine (below_any B c 2 _ J4.out.1 (by omega)).mono ?_
      rintro e v5 ⟨x5, rfl, l5, u5, -, C5, G5⟩
      have y5 := u5 (by omega)
      have H5 : Hid (DC w v5 B c w.heap.size w1.heap.size ⟨10, 0, x4, 0, 0⟩) := J4.out.draw C5 G5
      clear u5 C5 G5 J4 k4 f4 s4
      have k5 : v5.cell? ⟨w1.heap.size, 3, none⟩ = some (.int .i64 0) := H5.out.2.2.2.1.cell 3 rfl
      have f5 := H5.out.2.2.2.1.frozen 3
      have s5 := H5.out.2.2.2.1.lt
      have J5 : Hid (DC w (v5.setCell ⟨w1.heap.size, 3, none⟩ (.int .i64 (1 + x5))) B c w.heap.size w1.heap.size ⟨10, 0, x4, (1 + x5), 0⟩) := H5.out.put 3 (1 + x5) ⟨10, 0, x4, (1 + x5), 0⟩ rfl
      clear H5
      go_wp2_with fail
      refine (below_any B c 6 _ J5.out.1 (by omega)).mono ?_
      rintro e v6 ⟨x6, rfl, l6, u6, -, C6, G6⟩
      have y6 := u6 (by omega)
      have H6 : Hid (DC w v6 B c w.heap.size w1.heap.size ⟨10, 0, x4, (1 + x5), 0⟩) := J5.out.draw C6 G6
      clear u6 C6 G6 J5 k5 f5 s5
      have k6 : v6.cell? ⟨w1.heap.size, 4, none⟩ = some (.int .i64 0) := H6.out.2.2.2.1.cell 4 rfl
      have f6 := H6.out.2.2.2.1.frozen 4
      have s6 := H6.out.2.2.2.1.lt
      have J6 : Hid (DC w (v6.setCell ⟨w1.heap.size, 4, none⟩ (.int .i64 (1 + x6))) B c w.heap.size w1.heap.size ⟨10, 0, x4, (1 + x5), (1 + x6)⟩) := H6.out.put 4 (1 + x6) ⟨10, 0, x4, (1 + x5), (1 + x6)⟩ rfl
      clear H6
      have q7 : CmB (v6.setCell ⟨w1.heap.size, 4, none⟩ (.int .i64 (1 + x6))) w1.heap.size 28 ⟨10, 0, x4, (1 + x5), (1 + x6)⟩ := J6.out.2.2.2.1
      have z7 : CmB (v6.setCell ⟨w1.heap.size, 4, none⟩ (.int .i64 (1 + x6))) w.heap.size 28 Cm.zero := J6.out.2.2.1
      have hf : Hid ((⟨10, 0, x4, (1 + x5), (1 + x6)⟩ : Cm).Byt) := by unfold Hid Cm.Byt; dsimp only; omega
      go_wp2_with (first | (refine wpList_getC rfl _ rfl w1.heap.size rfl ⟨10, 0, x4, (1 + x5), (1 + x6)⟩ q7 ?_) | (refine wpList_putC rfl _ _ rfl w.heap.size ⟨10, 0, x4, (1 + x5), (1 + x6)⟩ Cm.zero rfl rfl z7 ?_; intro we Re Ge))
      refine bodyPost_ret (results_C rfl _ _ w.heap.size _ rfl Re) rfl ?_
      exact ⟨_, rfl, hf.out, J6.out.fin Ge⟩
    · replace H3 : Hid (DC w w2 B c w.heap.size w1.heap.size ⟨11, 0, 0, 0, 0⟩) := H3
      have kc : w2.cell? ⟨w1.heap.size, 0, none⟩ = some (.int .i64 11) := H3.out.2.2.2.1.cell 0 rfl
      clear l1 y1
      have q4 : CmB w2 w1.heap.size 28 ⟨11, 0, 0, 0, 0⟩ := H3.out.2.2.2.1
      have z4 : CmB w2 w.heap.size 28 Cm.zero := H3.out.2.2.1
      have hf : Hid ((⟨11, 0, 0, 0, 0⟩ : Cm).Byt) := by unfold Hid Cm.Byt; dsimp only; omega
      go_wp2_with (first | (refine wpList_getC rfl _ rfl w1.heap.size rfl ⟨11, 0, 0, 0, 0⟩ q4 ?_) | (refine wpList_putC rfl _ _ rfl w.heap.size ⟨11, 0, 0, 0, 0⟩ Cm.zero rfl rfl z4 ?_; intro we Re Ge))
      refine bodyPost_ret (results_C rfl _ _ w.heap.size _ rfl Re) rfl ?_
      exact ⟨_, rfl, hf.out, H3.out.fin Ge⟩
    · replace H3 : Hid (DC w w2 B c w.heap.size w1.heap.size ⟨12, 0, 0, 0, 0⟩) := H3
      have kc : w2.cell? ⟨w1.heap.size, 0, none⟩ = some (.int .i64 12) := H3.out.2.2.2.1.cell 0 rfl
      clear l1 y1
      have q4 : CmB w2 w1.heap.size 28 ⟨12, 0, 0, 0, 0⟩ := H3.out.2.2.2.1
      have z4 : CmB w2 w.heap.size 28 Cm.zero := H3.out.2.2.1
      have hf : Hid ((⟨12, 0, 0, 0, 0⟩ : Cm).Byt) := by unfold Hid Cm.Byt; dsimp only; omega
      go_wp2_with (first | (refine wpList_getC rfl _ rfl w1.heap.size rfl ⟨12, 0, 0, 0, 0⟩ q4 ?_) | (refine wpList_putC rfl _ _ rfl w.heap.size ⟨12, 0, 0, 0, 0⟩ Cm.zero rfl rfl z4 ?_; intro we Re Ge))
      refine bodyPost_ret (results_C rfl _ _ w.heap.size _ rfl Re) rfl ?_
      exact ⟨_, rfl, hf.out, H3.out.fin Ge⟩
  | true =>
    go_wp2_with fail
    refine (below_any B c 3 _ H3.out.1 (by omega)).mono ?_
    rintro e w3 ⟨x2, rfl, l2, u2, -, C3, G3⟩
    have y2 := u2 (by omega)
    have H4 : Hid (DC w w3 B c w.heap.size w1.heap.size ⟨1 + x1, 0, 0, 0, 0⟩) := H3.out.draw C3 G3
    clear u2 C3 G3 H3 hk2
    have k3 : w3.cell? ⟨w1.heap.size, 0, none⟩ = some (.int .i64 (1 + x1)) := H4.out.2.2.2.1.cell 0 rfl
    have f3 := H4.out.2.2.2.1.frozen 0
    have s3 := H4.out.2.2.2.1.lt
    obtain rfl | rfl | rfl : x2 = 0 ∨ x2 = 1 ∨ x2 = 2 := by omega
    · have J4 : Hid (DC w (w3.setCell ⟨w1.heap.size, 0, none⟩ (.int .i64 1)) B c w.heap.size w1.heap.size ⟨1, 0, 0, 0, 0⟩) := H4.out.put 0 1 ⟨1, 0, 0, 0, 0⟩ rfl
      clear H4 l2 y2
      go_wp2_with fail
      refine (below_any B c 5 _ J4.out.1 (by omega)).mono ?_
      rintro e v5 ⟨x5, rfl, l5, u5, -, C5, G5⟩
      have y5 := u5 (by omega)
      have H5 : Hid (DC w v5 B c w.heap.size w1.heap.size ⟨1, 0, 0, 0, 0⟩) := J4.out.draw C5 G5
      clear u5 C5 G5 J4 k3 f3 s3
      have k5 : v5.cell? ⟨w1.heap.size, 1, none⟩ = some (.int .i64 0) := H5.out.2.2.2.1.cell 1 rfl
      have f5 := H5.out.2.2.2.1.frozen 1
      have s5 := H5.out.2.2.2.1.lt
      have J5 : Hid (DC w (v5.setCell ⟨w1.heap.size, 1, none⟩ (.int .i64 x5)) B c w.heap.size w1.heap.size ⟨1, x5, 0, 0, 0⟩) := H5.out.put 1 x5 ⟨1, x5, 0, 0, 0⟩ rfl
      clear H5
      have q6 : CmB (v5.setCell ⟨w1.heap.size, 1, none⟩ (.int .i64 x5)) w1.heap.size 28 ⟨1, x5, 0, 0, 0⟩ := J5.out.2.2.2.1
      have z6 : CmB (v5.setCell ⟨w1.heap.size, 1, none⟩ (.int .i64 x5)) w.heap.size 28 Cm.zero := J5.out.2.2.1
      have hf : Hid ((⟨1, x5, 0, 0, 0⟩ : Cm).Byt) := by unfold Hid Cm.Byt; dsimp only; omega
      go_wp2_with (first | (refine wpList_getC rfl _ rfl w1.heap.size rfl ⟨1, x5, 0, 0, 0⟩ q6 ?_) | (refine wpList_putC rfl _ _ rfl w.heap.size ⟨1, x5, 0, 0, 0⟩ Cm.zero rfl rfl z6 ?_; intro we Re Ge))
      refine bodyPost_ret (results_C rfl _ _ w.heap.size _ rfl Re) rfl ?_
      exact ⟨_, rfl, hf.out, J5.out.fin Ge⟩
    · have J4 : Hid (DC w (w3.setCell ⟨w1.heap.size, 0, none⟩ (.int .i64 2)) B c w.heap.size w1.heap.size ⟨2, 0, 0, 0, 0⟩) := H4.out.put 0 2 ⟨2, 0, 0, 0, 0⟩ rfl
      clear H4 l2 y2
      go_wp2_with fail
      refine (below_any B c 5 _ J4.out.1 (by omega)).mono ?_
      rintro e v5 ⟨x5, rfl, l5, u5, -, C5, G5⟩
      have y5 := u5 (by omega)
      have H5 : Hid (DC w v5 B c w.heap.size w1.heap.size ⟨2, 0, 0, 0, 0⟩) := J4.out.draw C5 G5
      clear u5 C5 G5 J4 k3 f3 s3
      have k5 : v5.cell? ⟨w1.heap.size, 1, none⟩ = some (.int .i64 0) := H5.out.2.2.2.1.cell 1 rfl
      have f5 := H5.out.2.2.2.1.frozen 1
      have s5 := H5.out.2.2.2.1.lt
      have J5 : Hid (DC w (v5.setCell ⟨w1.heap.size, 1, none⟩ (.int .i64 x5)) B c w.heap.size w1.heap.size ⟨2, x5, 0, 0, 0⟩) := H5.out.put 1 x5 ⟨2, x5, 0, 0, 0⟩ rfl
      clear H5
      go_wp2_with fail
      refine (below_any B c 6 _ J5.out.1 (by omega)).mono ?_
      rintro e v6 ⟨x6, rfl, l6, u6, -, C6, G6⟩
      have y6 := u6 (by omega)
      have H6 : Hid (DC w v6 B c w.heap.size w1.heap.size ⟨2, x5, 0, 0, 0⟩) := J5.out.draw C6 G6
      clear u6 C6 G6 J5 k5 f5 s5
      have k6 : v6.cell? ⟨w1.heap.size, 2, none⟩ = some (.int .i64 0) := H6.out.2.2.2.1.cell 2 rfl
      have f6 := H6.out.2.2.2.1.frozen 2
      have s6 := H6.out.2.2.2.1.lt
      have J6 : Hid (DC w (v6.setCell ⟨w1.heap.size, 2, none⟩ (.int .i64 x6)) B c w.heap.size w1.heap.size ⟨2, x5, x6, 0, 0⟩) := H6.out.put 2 x6 ⟨2, x5, x6, 0, 0⟩ rfl
      clear H6
      have q7 : CmB (v6.setCell ⟨w1.heap.size, 2, none⟩ (.int .i64 x6)) w1.heap.size 28 ⟨2, x5, x6, 0, 0⟩ := J6.out.2.2.2.1
      have z7 : CmB (v6.setCell ⟨w1.heap.size, 2, none⟩ (.int .i64 x6)) w.heap.size 28 Cm.zero := J6.out.2.2.1
      have hf : Hid ((⟨2, x5, x6, 0, 0⟩ : Cm).Byt) := by unfold Hid Cm.Byt; dsimp only; omega
      go_wp2_with (first | (refine wpList_getC rfl _ rfl w1.heap.size rfl ⟨2, x5, x6, 0, 0⟩ q7 ?_) | (refine wpList_putC rfl _ _ rfl w.heap.size ⟨2, x5, x6, 0, 0⟩ Cm.zero rfl rfl z7 ?_; intro we Re Ge))
      refine bodyPost_ret (results_C rfl _ _ w.heap.size _ rfl Re) rfl ?_
      exact ⟨_, rfl, hf.out, J6.out.fin Ge⟩
    · have J4 : Hid (DC w (w3.setCell ⟨w1.heap.size, 0, none⟩ (.int .i64 3)) B c w.heap.size w1.heap.size ⟨3, 0, 0, 0, 0⟩) := H4.out.put 0 3 ⟨3, 0, 0, 0, 0⟩ rfl
      clear H4 l2 y2
      go_wp2_with fail
      refine (below_any B c 4 _ J4.out.1 (by omega)).mono ?_
      rintro e v5 ⟨x5, rfl, l5, u5, -, C5, G5⟩
      have y5 := u5 (by omega)
      have H5 : Hid (DC w v5 B c w.heap.size w1.heap.size ⟨3, 0, 0, 0, 0⟩) := J4.out.draw C5 G5
      clear u5 C5 G5 J4 k3 f3 s3
      have k5 : v5.cell? ⟨w1.heap.size, 1, none⟩ = some (.int .i64 0) := H5.out.2.2.2.1.cell 1 rfl
      have f5 := H5.out.2.2.2.1.frozen 1
      have s5 := H5.out.2.2.2.1.lt
      have J5 : Hid (DC w (v5.setCell ⟨w1.heap.size, 1, none⟩ (.int .i64 x5)) B c w.heap.size w1.heap.size ⟨3, x5, 0, 0, 0⟩) := H5.out.put 1 x5 ⟨3, x5, 0, 0, 0⟩ rfl
      clear H5
      go_wp2_with fail
      refine (below_any B c 4 _ J5.out.1 (by omega)).mono ?_
      rintro e v6 ⟨x6, rfl, l6, u6, -, C6, G6⟩
      have y6 := u6 (by omega)
      have H6 : Hid (DC w v6 B c w.heap.size w1.heap.size ⟨3, x5, 0, 0, 0⟩) := J5.out.draw C6 G6
      clear u6 C6 G6 J5 k5 f5 s5
      have k6 : v6.cell? ⟨w1.heap.size, 2, none⟩ = some (.int .i64 0) := H6.out.2.2.2.1.cell 2 rfl
      have f6 := H6.out.2.2.2.1.frozen 2
      have s6 := H6.out.2.2.2.1.lt
      have J6 : Hid (DC w (v6.setCell ⟨w1.heap.size, 2, none⟩ (.int .i64 x6)) B c w.heap.size w1.heap.size ⟨3, x5, x6, 0, 0⟩) := H6.out.put 2 x6 ⟨3, x5, x6, 0, 0⟩ rfl
      clear H6
      go_wp2_with fail
      refine (below_any B c 6 _ J6.out.1 (by omega)).mono ?_
      rintro e v7 ⟨x7, rfl, l7, u7, -, C7, G7⟩
      have y7 := u7 (by omega)
      have H7 : Hid (DC w v7 B c w.heap.size w1.heap.size ⟨3, x5, x6, 0, 0⟩) := J6.out.draw C7 G7
      clear u7 C7 G7 J6 k6 f6 s6
      have k7 : v7.cell? ⟨w1.heap.size, 3, none⟩ = some (.int .i64 0) := H7.out.2.2.2.1.cell 3 rfl
      have f7 := H7.out.2.2.2.1.frozen 3
      have s7 := H7.out.2.2.2.1.lt
      have J7 : Hid (DC w (v7.setCell ⟨w1.heap.size, 3, none⟩ (.int .i64 x7)) B c w.heap.size w1.heap.size ⟨3, x5, x6, x7, 0⟩) := H7.out.put 3 x7 ⟨3, x5, x6, x7, 0⟩ rfl
      clear H7
      have q8 : CmB (v7.setCell ⟨w1.heap.size, 3, none⟩ (.int .i64 x7)) w1.heap.size 28 ⟨3, x5, x6, x7, 0⟩ := J7.out.2.2.2.1
      have z8 : CmB (v7.setCell ⟨w1.heap.size, 3, none⟩ (.int .i64 x7)) w.heap.size 28 Cm.zero := J7.out.2.2.1
      have hf : Hid ((⟨3, x5, x6, x7, 0⟩ : Cm).Byt) := by unfold Hid Cm.Byt; dsimp only; omega
      go_wp2_with (first | (refine wpList_getC rfl _ rfl w1.heap.size rfl ⟨3, x5, x6, x7, 0⟩ q8 ?_) | (refine wpList_putC rfl _ _ rfl w.heap.size ⟨3, x5, x6, x7, 0⟩ Cm.zero rfl rfl z8 ?_; intro we Re Ge))
      refine bodyPost_ret (results_C rfl _ _ w.heap.size _ rfl Re) rfl ?_
      exact ⟨_, rfl, hf.out, J7.out.fin Ge⟩

set_option maxRecDepth 20000 in
set_option maxHeartbeats 8000000 in
theorem l6any_any (B c : Nat) (w : World) (h : Cur w B c) :
    Calls Tryd.prog 29 #[.pointer (some ⟨c, 0, none⟩)] w fun e w' => ∃ r, e = .returned (CV r) ∧ Cur w' B c ∧ w.grownBy w' (some c) := by
  have H0 : Hid (D0 w (w.alloc (.cells (cmA Cm.zero) 28)) B c w.heap.size) := D0.start h
  clear h
  go_enter Tryd.func29, Tryd.ntmps29
  go_wp2_with fail
  refine (l6draw_any B c _ H0.out.1).mono ?_
  rintro e w1 ⟨r, rfl, hr, C1, G1⟩
  have H1 : Hid (D0 w w1 B c w.heap.size) := H0.out.draw C1 G1
  clear C1 G1 H0 hr
  have hgk : w.heap.size < w1.heap.size := H1.out.2.2.1.lt
  have hne : w.heap.size ≠ w1.heap.size := by omega
  have H2 : Hid (DC w (w1.alloc (.cells #[.int .i64 r.o, .int .i64 r.p, .int .i64 r.a, .int .i64 r.b, .int .i64 r.k] 28)) B c w.heap.size w1.heap.size r) := H1.out.box r
  clear H1
  unfold CV cmA
  go_wp2_with fail
  refine (once_any B c 6 _ H2.out.1 (by omega)).mono ?_
  rintro e w2 ⟨b, rfl, C2, G2⟩
  have H3 : Hid (DC w w2 B c w.heap.size w1.heap.size r) := H2.out.draw C2 G2
  clear C2 G2 H2
  have hk2 : w1.heap.size < w2.heap.size := H3.out.2.2.2.1.lt
  cases b with
  | false =>
    have q : CmB w2 w1.heap.size 28 r := H3.out.2.2.2.1
    have z : CmB w2 w.heap.size 28 Cm.zero := H3.out.2.2.1
    go_wp2_with (first | (refine wpList_getC rfl _ rfl w1.heap.size rfl r q ?_) | (refine wpList_putC rfl _ _ rfl w.heap.size r Cm.zero rfl rfl z ?_; intro we Re Ge))
    refine bodyPost_ret (results_C rfl _ _ w.heap.size _ rfl Re) rfl ?_
    exact ⟨_, rfl, H3.out.fin Ge⟩
  | true =>
    go_wp2_with fail
    refine (below_any B c 5 _ H3.out.1 (by omega)).mono ?_
    rintro e w3 ⟨x2, rfl, l2, u2, -, C3, G3⟩
    have y2 := u2 (by omega)
    have H4 : Hid (DC w w3 B c w.heap.size w1.heap.size r) := H3.out.draw C3 G3
    clear u2 C3 G3 H3 hk2
    have s3 := H4.out.2.2.2.1.lt
    obtain rfl | rfl | rfl | rfl | rfl : x2 = 0 ∨ x2 = 1 ∨ x2 = 2 ∨ x2 = 3 ∨ x2 = 4 := by omega
    · clear l2 y2
      have L4 : Hid (DC w (w3.alloc (.cells #[.int .i64 0, .int .i64 13, .int .i64 (-1), .int .i64 5] 2)) B c w.heap.size w1.heap.size r) := H4.out.alloc _
      have hcw : c < w3.heap.size := by have := H4.out.1.lt; omega
      clear H4
      go_wp2_with fail
      refine (below_any B c 4 _ L4.out.1 (by omega)).mono ?_
      rintro e w4 ⟨i, rfl, li, ui, -, C4, G4⟩
      have vi := ui (by omega)
      have H5 : Hid (DC w w4 B c w.heap.size w1.heap.size r) := L4.out.draw C4 G4
      have hc := lit_kept G4 (by simp; omega)
      clear ui C4 G4 L4
      obtain ⟨x, hx⟩ : ∃ x : Int, w4.cell? ⟨w3.heap.size, i.toNat, none⟩ = some (.int .i64 x) := by
        obtain rfl | rfl | rfl | rfl : i = 0 ∨ i = 1 ∨ i = 2 ∨ i = 3 := by omega
        · exact ⟨0, hc 0⟩
        · exact ⟨13, hc 1⟩
        · exact ⟨(-1), hc 2⟩
        · exact ⟨5, hc 3⟩
      clear hc
      have k4 : w4.cell? ⟨w1.heap.size, 0, none⟩ = some (.int .i64 r.o) := H5.out.2.2.2.1.cell 0 rfl
      have f4 := H5.out.2.2.2.1.frozen 0
      have s4 := H5.out.2.2.2.1.lt
      have J5 : Hid (DC w (w4.setCell ⟨w1.heap.size, 0, none⟩ (.int .i64 x)) B c w.heap.size w1.heap.size ⟨x, r.p, r.a, r.b, r.k⟩) := H5.out.put 0 x ⟨x, r.p, r.a, r.b, r.k⟩ rfl
      clear H5
      have q : CmB (w4.setCell ⟨w1.heap.size, 0, none⟩ (.int .i64 x)) w1.heap.size 28 ⟨x, r.p, r.a, r.b, r.k⟩ := J5.out.2.2.2.1
      have z : CmB (w4.setCell ⟨w1.heap.size, 0, none⟩ (.int .i64 x)) w.heap.size 28 Cm.zero := J5.out.2.2.1
      go_wp2_with (first | (refine wpList_getC rfl _ rfl w1.heap.size rfl ⟨x, r.p, r.a, r.b, r.k⟩ q ?_) | (refine wpList_putC rfl _ _ rfl w.heap.size ⟨x, r.p, r.a, r.b, r.k⟩ Cm.zero rfl rfl z ?_; intro we Re Ge))
      refine bodyPost_ret (results_C rfl _ _ w.heap.size _ rfl Re) rfl ?_
      exact ⟨_, rfl, J5.out.fin Ge⟩
    · clear l2 y2
      have L4 : Hid (DC w (w3.alloc (.cells #[.int .i64 (-1), .int .i64 255, .int .i64 256, .int .i64 3] 2)) B c w.heap.size w1.heap.size r) := H4.out.alloc _
      have hcw : c < w3.heap.size := by have := H4.out.1.lt; omega
      clear H4
      go_wp2_with fail
      refine (below_any B c 4 _ L4.out.1 (by omega)).mono ?_
      rintro e w4 ⟨i, rfl, li, ui, -, C4, G4⟩
      have vi := ui (by omega)
      have H5 : Hid (DC w w4 B c w.heap.size w1.heap.size r) := L4.out.draw C4 G4
      have hc := lit_kept G4 (by simp; omega)
      clear ui C4 G4 L4
      obtain ⟨x, hx⟩ : ∃ x : Int, w4.cell? ⟨w3.heap.size, i.toNat, none⟩ = some (.int .i64 x) := by
        obtain rfl | rfl | rfl | rfl : i = 0 ∨ i = 1 ∨ i = 2 ∨ i = 3 := by omega
        · exact ⟨(-1), hc 0⟩
        · exact ⟨255, hc 1⟩
        · exact ⟨256, hc 2⟩
        · exact ⟨3, hc 3⟩
      clear hc
      have k4 : w4.cell? ⟨w1.heap.size, 1, none⟩ = some (.int .i64 r.p) := H5.out.2.2.2.1.cell 1 rfl
      have f4 := H5.out.2.2.2.1.frozen 1
      have s4 := H5.out.2.2.2.1.lt
      have J5 : Hid (DC w (w4.setCell ⟨w1.heap.size, 1, none⟩ (.int .i64 x)) B c w.heap.size w1.heap.size ⟨r.o, x, r.a, r.b, r.k⟩) := H5.out.put 1 x ⟨r.o, x, r.a, r.b, r.k⟩ rfl
      clear H5
      have q : CmB (w4.setCell ⟨w1.heap.size, 1, none⟩ (.int .i64 x)) w1.heap.size 28 ⟨r.o, x, r.a, r.b, r.k⟩ := J5.out.2.2.2.1
      have z : CmB (w4.setCell ⟨w1.heap.size, 1, none⟩ (.int .i64 x)) w.heap.size 28 Cm.zero := J5.out.2.2.1
      go_wp2_with (first | (refine wpList_getC rfl _ rfl w1.heap.size rfl ⟨r.o, x, r.a, r.b, r.k⟩ q ?_) | (refine wpList_putC rfl _ _ rfl w.heap.size ⟨r.o, x, r.a, r.b, r.k⟩ Cm.zero rfl rfl z ?_; intro we Re Ge))
      refine bodyPost_ret (results_C rfl _ _ w.heap.size _ rfl Re) rfl ?_
      exact ⟨_, rfl, J5.out.fin Ge⟩
    · clear l2 y2
      have L4 : Hid (DC w (w3.alloc (.cells #[.int .i64 (-1), .int .i64 9999, .int .i64 10000, .int .i64 65535, .int .i64 65536] 2)) B c w.heap.size w1.heap.size r) := H4.out.alloc _
      have hcw : c < w3.heap.size := by have := H4.out.1.lt; omega
      clear H4
      go_wp2_with fail
      refine (below_any B c 5 _ L4.out.1 (by omega)).mono ?_
      rintro e w4 ⟨i, rfl, li, ui, -, C4, G4⟩
      have vi := ui (by omega)
      have H5 : Hid (DC w w4 B c w.heap.size w1.heap.size r) := L4.out.draw C4 G4
      have hc := lit_kept G4 (by simp; omega)
      clear ui C4 G4 L4
      obtain ⟨x, hx⟩ : ∃ x : Int, w4.cell? ⟨w3.heap.size, i.toNat, none⟩ = some (.int .i64 x) := by
        obtain rfl | rfl | rfl | rfl | rfl : i = 0 ∨ i = 1 ∨ i = 2 ∨ i = 3 ∨ i = 4 := by omega
        · exact ⟨(-1), hc 0⟩
        · exact ⟨9999, hc 1⟩
        · exact ⟨10000, hc 2⟩
        · exact ⟨65535, hc 3⟩
        · exact ⟨65536, hc 4⟩
      clear hc
      have k4 : w4.cell? ⟨w1.heap.size, 2, none⟩ = some (.int .i64 r.a) := H5.out.2.2.2.1.cell 2 rfl
      have f4 := H5.out.2.2.2.1.frozen 2
      have s4 := H5.out.2.2.2.1.lt
      have J5 : Hid (DC w (w4.setCell ⟨w1.heap.size, 2, none⟩ (.int .i64 x)) B c w.heap.size w1.heap.size ⟨r.o, r.p, x, r.b, r.k⟩) := H5.out.put 2 x ⟨r.o, r.p, x, r.b, r.k⟩ rfl
      clear H5
      have q : CmB (w4.setCell ⟨w1.heap.size, 2, none⟩ (.int .i64 x)) w1.heap.size 28 ⟨r.o, r.p, x, r.b, r.k⟩ := J5.out.2.2.2.1
      have z : CmB (w4.setCell ⟨w1.heap.size, 2, none⟩ (.int .i64 x)) w.heap.size 28 Cm.zero := J5.out.2.2.1
      go_wp2_with (first | (refine wpList_getC rfl _ rfl w1.heap.size rfl ⟨r.o, r.p, x, r.b, r.k⟩ q ?_) | (refine wpList_putC rfl _ _ rfl w.heap.size ⟨r.o, r.p, x, r.b, r.k⟩ Cm.zero rfl rfl z ?_; intro we Re Ge))
      refine bodyPost_ret (results_C rfl _ _ w.heap.size _ rfl Re) rfl ?_
      exact ⟨_, rfl, J5.out.fin Ge⟩
    · clear l2 y2
      have L4 : Hid (DC w (w3.alloc (.cells #[.int .i64 (-1), .int .i64 9999, .int .i64 10000, .int .i64 65535, .int .i64 65536] 2)) B c w.heap.size w1.heap.size r) := H4.out.alloc _
      have hcw : c < w3.heap.size := by have := H4.out.1.lt; omega
      clear H4
      go_wp2_with fail
      refine (below_any B c 5 _ L4.out.1 (by omega)).mono ?_
      rintro e w4 ⟨i, rfl, li, ui, -, C4, G4⟩
      have vi := ui (by omega)
      have H5 : Hid (DC w w4 B c w.heap.size w1.heap.size r) := L4.out.draw C4 G4
      have hc := lit_kept G4 (by simp; omega)
      clear ui C4 G4 L4
      obtain ⟨x, hx⟩ : ∃ x : Int, w4.cell? ⟨w3.heap.size, i.toNat, none⟩ = some (.int .i64 x) := by
        obtain rfl | rfl | rfl | rfl | rfl : i = 0 ∨ i = 1 ∨ i = 2 ∨ i = 3 ∨ i = 4 := by omega
        · exact ⟨(-1), hc 0⟩
        · exact ⟨9999, hc 1⟩
        · exact ⟨10000, hc 2⟩
        · exact ⟨65535, hc 3⟩
        · exact ⟨65536, hc 4⟩
      clear hc
      have k4 : w4.cell? ⟨w1.heap.size, 3, none⟩ = some (.int .i64 r.b) := H5.out.2.2.2.1.cell 3 rfl
      have f4 := H5.out.2.2.2.1.frozen 3
      have s4 := H5.out.2.2.2.1.lt
      have J5 : Hid (DC w (w4.setCell ⟨w1.heap.size, 3, none⟩ (.int .i64 x)) B c w.heap.size w1.heap.size ⟨r.o, r.p, r.a, x, r.k⟩) := H5.out.put 3 x ⟨r.o, r.p, r.a, x, r.k⟩ rfl
      clear H5
      have q : CmB (w4.setCell ⟨w1.heap.size, 3, none⟩ (.int .i64 x)) w1.heap.size 28 ⟨r.o, r.p, r.a, x, r.k⟩ := J5.out.2.2.2.1
      have z : CmB (w4.setCell ⟨w1.heap.size, 3, none⟩ (.int .i64 x)) w.heap.size 28 Cm.zero := J5.out.2.2.1
      go_wp2_with (first | (refine wpList_getC rfl _ rfl w1.heap.size rfl ⟨r.o, r.p, r.a, x, r.k⟩ q ?_) | (refine wpList_putC rfl _ _ rfl w.heap.size ⟨r.o, r.p, r.a, x, r.k⟩ Cm.zero rfl rfl z ?_; intro we Re Ge))
      refine bodyPost_ret (results_C rfl _ _ w.heap.size _ rfl Re) rfl ?_
      exact ⟨_, rfl, J5.out.fin Ge⟩
    · clear l2 y2
      go_wp2_with fail
      refine (from_any B c (-1) 9 _ H4.out.1 (by omega) (by omega) (by omega)).mono ?_
      rintro e w4 ⟨x, rfl, lx, ux, C4, G4⟩
      have H5 : Hid (DC w w4 B c w.heap.size w1.heap.size r) := H4.out.draw C4 G4
      clear C4 G4 H4
      have k4 : w4.cell? ⟨w1.heap.size, 4, none⟩ = some (.int .i64 r.k) := H5.out.2.2.2.1.cell 4 rfl
      have f4 := H5.out.2.2.2.1.frozen 4
      have s4 := H5.out.2.2.2.1.lt
      have J5 : Hid (DC w (w4.setCell ⟨w1.heap.size, 4, none⟩ (.int .i64 x)) B c w.heap.size w1.heap.size ⟨r.o, r.p, r.a, r.b, x⟩) := H5.out.put 4 x ⟨r.o, r.p, r.a, r.b, x⟩ rfl
      clear H5
      have q : CmB (w4.setCell ⟨w1.heap.size, 4, none⟩ (.int .i64 x)) w1.heap.size 28 ⟨r.o, r.p, r.a, r.b, x⟩ := J5.out.2.2.2.1
      have z : CmB (w4.setCell ⟨w1.heap.size, 4, none⟩ (.int .i64 x)) w.heap.size 28 Cm.zero := J5.out.2.2.1
      go_wp2_with (first | (refine wpList_getC rfl _ rfl w1.heap.size rfl ⟨r.o, r.p, r.a, r.b, x⟩ q ?_) | (refine wpList_putC rfl _ _ rfl w.heap.size ⟨r.o, r.p, r.a, r.b, x⟩ Cm.zero rfl rfl z ?_; intro we Re Ge))
      refine bodyPost_ret (results_C rfl _ _ w.heap.size _ rfl Re) rfl ?_
      exact ⟨_, rfl, J5.out.fin Ge⟩
end Go.Proofs.YtnnmcjgmnjokiaaDoor
