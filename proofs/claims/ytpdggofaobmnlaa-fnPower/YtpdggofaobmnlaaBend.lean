/- Texts are bent: l1Bend of the model. -/
import Derived.Test.YtpdggofaobmnlaaM15
import Derived.Laws.IdiomStrings
import Derived.Deep.RegionHeld3
namespace Go.Proofs.Ytpdggofaobmnlaa
open Go.ChangeShapes Go.WideShapes Go.ChangeAt Go.RowKit

/- Bytes in a block of the call's own, from its head on. -/
def Buf (w : World) (base g n cap : Nat) (l : Bs) : Prop :=
  base ≤ g ∧ g < w.heap.size ∧ n = l.length ∧ n ≤ cap ∧ cap ≤ maxLen ∧ ∀ j (h : j < l.length), w.cell? ⟨g, j, none⟩ = some (U l[j]) ∧ w.frozen? ⟨g, j, none⟩ = false
theorem Buf.kept {w w' : World} {base g n cap : Nat} {l : Bs} {row : Option Nat} (h : Buf w base g n cap l) (hg : w.grownBy w' row) (hne : some g ≠ row) : Buf w' base g n cap l := by
  obtain ⟨h1, h2, h3, h4, h5, h6⟩ := h
  have hb := hg.block g h2 hne
  exact ⟨h1, Nat.lt_of_lt_of_le h2 hg.size, h3, h4, h5, fun j hj => ⟨(World.cell?_of_block (a := ⟨g, j, none⟩) hb).trans (h6 j hj).1, (World.frozen?_of_block (a := ⟨g, j, none⟩) hb).trans (h6 j hj).2⟩⟩
theorem Buf.shrink {w : World} {base g n cap : Nat} {l : Bs} (h : Buf w base g n cap l) (k : Nat) (hk : k ≤ n) : Buf w base g k cap (l.take k) := by
  obtain ⟨h1, h2, h3, h4, h5, h6⟩ := h
  refine ⟨h1, h2, by simp; omega, by omega, h5, fun j hj => ?_⟩
  have hj' : j < k ∧ j < l.length := by simp at hj; omega
  have := h6 j hj'.2
  rw [List.getElem_take]
  exact this
theorem Buf.of_own {w : World} {base g n cap : Nat} {l : Bs} (h : OwnU w base (.slice (some ⟨g, 0, none⟩) n cap) l) : Buf w base g n cap l := by
  have hlt := h.lt g rfl
  rcases h.2 with ⟨e, _⟩ | ⟨g', cap', cur, e, hb, hg, hnc, hcm, hcs, ht⟩
  · cases e
  · cases e
    refine ⟨hlt.1, hlt.2, rfl, hnc, hcm, fun j hj => ⟨?_, World.ownsRow.frozenAt h j⟩⟩
    have := World.ownsRow.cellAt (w := w) h j (by omega)
    rw [this]
    simp [hj]
theorem Buf.str {w : World} {base g n cap : Nat} {l : Bs} (h : Buf w base g n cap l) : (convert 22 9 (.slice (some ⟨g, 0, none⟩) n cap)).run Try.prog w = .ok (S l) w := by
  obtain ⟨h1, h2, rfl, h4, h5, h6⟩ := h
  refine run_convert_bytes_back (P := Try.prog) w 22 9 5 ⟨g, 0, none⟩ cap l Try.underlying22 Try.underlying5 Try.underlying9 (fun j hj => ?_)
  rw [show (⟨g, 0, none⟩ : Addr).add j = ⟨g, j, none⟩ by unfold Addr.add; split <;> simp_all]
  exact (h6 j hj).1

theorem run_bytes (w : World) (s : Bs) (hs : s.length ≤ 1000000) : ∃ cap w1, (convert 9 22 (.string ⟨s.toArray⟩)).run Try.prog w = .ok (.slice (some ⟨w.heap.size, 0, none⟩) s.length cap) w1 ∧ Buf w1 w.heap.size w.heap.size s.length cap s ∧ w.grownBy w1 none := by
  have hr := run_bytes_of_string (P := Try.prog) w 9 22 5 ⟨s.toArray⟩ Try.underlying9 Try.underlying22 Try.underlying5
  have hsz : (⟨s.toArray⟩ : ByteArray).size = s.length := rfl
  rw [hsz] at hr
  refine ⟨_, _, hr, ?_, ⟨rfl, rfl, rfl, by simp, fun k hk _ => Below.heap_alloc w.drew _ k hk⟩⟩
  have hge := grownCap_ge w s.length 0 5
  have hcm := grownCap_le_maxLen w s.length 0 5 (by unfold maxLen; omega)
  generalize grownCap w s.length 0 5 = cap at hge hcm
  have hh : (w.drew.alloc (.cells (bytesRow ⟨s.toArray⟩ cap) 5 ((bytesRow ⟨s.toArray⟩ cap).size, (bytesRow ⟨s.toArray⟩ cap).size + 1))).heap[w.heap.size]? = some (.cells (bytesRow ⟨s.toArray⟩ cap) 5 ((bytesRow ⟨s.toArray⟩ cap).size, (bytesRow ⟨s.toArray⟩ cap).size + 1)) := heap_alloc_new w.drew _
  have hrs : s.length ≤ (bytesRow ⟨s.toArray⟩ cap).size := by simp [bytesRow, ByteArray.size]
  refine ⟨Nat.le_refl _, by simp, rfl, hge, hcm, fun j hj => ⟨?_, ?_⟩⟩
  · rw [cell_of_row _ w.heap.size j _ _ _ hh]
    unfold bytesRow
    rw [Array.getElem?_append_left (by simpa using hj)]
    simp [hj, U, byteI]
  · have h1 : ¬ (bytesRow ⟨s.toArray⟩ cap).size ≤ j := by omega
    simp only [World.frozen?, hh]
    simp [h1]

/- append of bytes onto a list of the call's own that is not nil, as one step of a region that draws. -/
theorem step_appendU {ops : Array Oper} {o : Oper} {a : Act} {w : World} {K : Act → World → Prop} {Q : Exit → Act → World → Prop} {E : Prop} (hgd : o.guard = none) (s x : Operand)
    (ho : o.op = .call { callee := .builtin .append, args := #[s, x], argTypes := #[22, 22] }) (base g n cap : Nat) (l : Bs) (hs : a.eval s = .slice (some ⟨g, 0, none⟩) n cap) (hown : OwnU w base (.slice (some ⟨g, 0, none⟩) n cap) l)
    (ad : Addr) (m c : Nat) (l2 : Bs) (hx : a.eval x = .slice (some ad) m c) (hm : m = l2.length) (hnews : ∀ j (hj : j < l2.length), w.cell? (ad.add j) = some (U l2[j])) (hsm : l.length + l2.length ≤ 10000000) (hbase : base ≤ w.heap.size)
    (h : ∀ g' cap' w', OwnU w' base (.slice (some ⟨g', 0, none⟩) (n + m) cap') (l ++ l2) → w.grownBy w' (some g) → K (a.put o.dst (.slice (some ⟨g', 0, none⟩) (n + m) cap')) w') : if Region.wanted o (yielded ops a.tmps) = true then Oper.wp Try.prog o a w K Q else E := by
  have hw : Region.wanted o (yielded ops a.tmps) = true := by simp [Region.wanted, hgd]
  rw [if_pos hw]
  obtain ⟨i0, hi, hz0, hz1, hz2⟩ := info_parts Try.infoU
  have hn : n = l.length := by
    rcases hown.2 with ⟨e, _⟩ | ⟨g', cap', cur, e, _⟩
    · cases e
    · cases e; rfl
  subst hn hm
  have hnews' : ∀ j u, (l2.map U)[j]? = some u → w.cell? (ad.add j) = some u := by
    intro j u hj
    have hlt : j < l2.length := by
      rcases Nat.lt_or_ge j l2.length with h | h
      · exact h
      · rw [List.getElem?_eq_none (by simpa using h)] at hj; cases hj
    rw [hnews j hlt]
    simpa [hlt] using hj
  have hone : ∀ u ∈ l2.map U, u.oneCell' = true := by
    intro u hu
    obtain ⟨b, _, rfl⟩ := List.mem_map.1 hu
    rfl
  obtain ⟨v', w', hrun, r1, r2, r3⟩ := run_append_own (P := Try.prog) w base 22 o.type 5 i0 (.int .u8 0) 1 1 Try.underlying22 hi hz0 hz1 hz2 rfl (by decide) _ l.length (l.map U) hown ad l2.length c (l2.map U) (by simp) hnews' hone (by unfold maxLen; omega) (by omega) hbase
  have hnil : v' ≠ .slice none 0 0 := fun e => by have := (r3.1 e).1; cases this
  rw [← List.map_append] at r1
  rcases r1.2 with ⟨e, _⟩ | ⟨g', cap', cur, e, rr⟩
  · exact absurd e hnil
  · subst e
    unfold Oper.wp
    simp [execOp, ho, resolve, invoke, builtin, hs, hx, hrun, Result.andThen]
    refine h g' cap' w' ?_ r2
    unfold OwnU
    rw [List.length_append]
    exact r1

def DrawnB (w0 w : World) (B c g n cap : Nat) (l : Bs) : Prop := Buf w w0.heap.size g n cap l ∧ Cur w B c ∧ w0.grownBy w (some c) ∧ c < w0.heap.size
theorem DrawnB.draw {w0 w w' : World} {B c g n cap : Nat} {l : Bs} (h : DrawnB w0 w B c g n cap l) (C : Cur w' B c) (G : w.grownBy w' (some c)) : DrawnB w0 w' B c g n cap l :=
  ⟨h.1.kept G (by have := h.1.1; have := h.2.2.2; simp; omega), C, h.2.2.1.trans G, h.2.2.2⟩
theorem DrawnB.put {w0 w : World} {B c g n cap : Nat} {l : Bs} (h : DrawnB w0 w B c g n cap l) (hB : B ≤ w0.heap.size) (k : Nat) (b : UInt8) : DrawnB w0 (w.setCell ⟨g, k, none⟩ (U b)) B c g n cap (l.set k b) := by
  obtain ⟨h1, h2, h3, h4⟩ := h
  have hg := grown_set w g k (U b)
  refine ⟨?_, h2.kept hg (by have := h1.1; simp; omega) (fun j e => by cases e; have := h1.1; omega), grown_ownU h3 hg (fun j e => by cases e; exact h1.1), h4⟩
  obtain ⟨g1, g2, g3, g4, g5, g6⟩ := h1
  refine ⟨g1, by simpa using g2, by simpa using g3, g4, g5, fun j hj => ?_⟩
  have hj' : j < l.length := by simpa using hj
  rw [World.frozen?_setCell, List.getElem_set]
  refine ⟨?_, (g6 j hj').2⟩
  by_cases e : k = j
  · subst e
    rw [if_pos rfl]
    exact World.cell?_setCell_same' w ⟨g, k, none⟩ (U b) (by rw [(g6 k hj').1]; rfl)
  · rw [if_neg e, ← (g6 j hj').1]
    apply World.cell?_setCell_other
    intro h
    cases h
    exact e rfl

theorem Buf.newsD {w : World} {base g n cap : Nat} {l : Bs} (h : Buf w base g n cap l) (k j : Nat) (hj : j < (l.drop k).length) : w.cell? ((⟨g, k, none⟩ : Addr).add j) = some (U (l.drop k)[j]) := by
  have hj' : k + j < l.length := by simp at hj; omega
  rw [show (⟨g, k, none⟩ : Addr).add j = ⟨g, k + j, none⟩ by unfold Addr.add; split <;> simp_all, (h.2.2.2.2.2 (k + j) hj').1, List.getElem_drop]
theorem DrawnB.keep {w0 w w' : World} {B c g n cap : Nat} {l : Bs} (h : DrawnB w0 w B c g n cap l) (G : w.grownBy w' none) : DrawnB w0 w' B c g n cap l :=
  ⟨h.1.kept G (by simp), h.2.1.kept G (by simp) (by simp), grown_ownU h.2.2.1 G (by simp), h.2.2.2⟩
theorem Buf.news {w : World} {base g n cap : Nat} {l : Bs} (h : Buf w base g n cap l) (j : Nat) (hj : j < l.length) (k : Nat) (hk : j < (l.take k).length) : w.cell? ((⟨g, 0, none⟩ : Addr).add j) = some (U (l.take k)[j]) := by
  rw [show (⟨g, 0, none⟩ : Addr).add j = ⟨g, j, none⟩ by unfold Addr.add; split <;> simp_all, (h.2.2.2.2.2 j hj).1, List.getElem_take]

theorem DrawnB.grow {w0 w w' : World} {B c g n cap g' n' cap' a : Nat} {l l' : Bs} (h : DrawnB w0 w B c g n cap l) (hB : B ≤ w0.heap.size) (G : w.grownBy w' (some a)) (ha : w0.heap.size ≤ a) (o : OwnU w' w0.heap.size (.slice (some ⟨g', 0, none⟩) n' cap') l') : DrawnB w0 w' B c g' n' cap' l' :=
  ⟨Buf.of_own o, h.2.1.kept G (by have := h.2.2.2; simp; omega) (fun k e => by cases e; omega), grown_ownU h.2.2.1 G (fun k e => by cases e; exact ha), h.2.2.2⟩

theorem DrawnB.growKeep {w0 w w' : World} {B c g n cap a : Nat} {l : Bs} (h : DrawnB w0 w B c g n cap l) (hB : B ≤ w0.heap.size) (G : w.grownBy w' (some a)) (ha : w0.heap.size ≤ a) (hne : g ≠ a) : DrawnB w0 w' B c g n cap l :=
  ⟨h.1.kept G (by simpa using hne), h.2.1.kept G (by have := h.2.2.2; simp; omega) (fun k e => by cases e; omega), grown_ownU h.2.2.1 G (fun k e => by cases e; exact ha), h.2.2.2⟩
theorem OwnU.alloc {w : World} {base : Nat} {v : Value} {l : Bs} (h : OwnU w base v l) (o : Obj) : OwnU (w.alloc o) base v l := World.ownsRow.alloc h o
theorem litU1' (w : World) (b : UInt8) (j : Nat) (hj : j < [b].length) : (w.alloc (.cells #[U b] 5)).cell? ((⟨w.heap.size, 0, none⟩ : Addr).add j) = some (U [b][j]) := by
  have e : j = 0 := by simpa using hj
  subst e
  exact litU1 w b 0 _ rfl

theorem framedS_len (t : Bs) (h : t.length ≤ 301) : (framedS t).length ≤ 400 := by
  unfold framedS
  split
  · have h1 := dec_len 2 t.length (by omega)
    have h2 := dec_len 5 (chk t).toNat (by have := chk_bd t; omega)
    simp [framed]; omega
  · simp
end Go.Proofs.Ytpdggofaobmnlaa
