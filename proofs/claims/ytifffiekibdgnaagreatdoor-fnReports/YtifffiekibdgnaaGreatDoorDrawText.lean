/- What the law on frames draws: texts. Lists of bytes of the call's own. -/
import Derived.Test.YtifffiekibdgnaaGreatDoorFrame
import Derived.Test.YtifffiekibdgnaaGreatDoorCurSta
import Derived.Laws.OwnMore
import Derived.OwnWalk
namespace Go.Proofs.YtifffiekibdgnaaGreatDoor
open Go.ChangeShapes Go.WideShapes Go.ChangeAt Go.RowKit

def U (b : UInt8) : Value := .int .u8 (byteI b)
def OwnU (w : World) (base : Nat) (v : Value) (l : Bs) : Prop := w.ownsRow base 5 1 v l.length (l.map U)
theorem Tryz.infoU : (Tryz.prog.info? 5).map (fun i => (i.zero, i.size, i.bytes)) = some (some (.int .u8 0), 1, 1) := by kernel_rfl
theorem OwnU.lt {w : World} {base : Nat} {v : Value} {xs : Bs} (h : OwnU w base v xs) : ∀ k, v.ownBlock = some k → base ≤ k ∧ k < w.heap.size := World.ownsRow.lt h
theorem OwnU.frame {w w' : World} {base : Nat} {v : Value} {xs : Bs} (h : OwnU w base v xs) (e : ∀ b ∈ v.ownBlock.toList, w'.heap[b]? = w.heap[b]?) : OwnU w' base v xs := by
  refine ⟨h.1, ?_⟩
  rcases h.2 with h' | ⟨g, cap, cur, rfl, hb, hg, r⟩
  · exact .inl h'
  · exact .inr ⟨g, cap, cur, rfl, hb, (e g (by simp [Value.ownBlock])).trans hg, r⟩
theorem OwnU.raise {w : World} {base base' : Nat} {v : Value} {xs : Bs} (h : OwnU w base v xs) (hb : ∀ k, v.ownBlock = some k → base' ≤ k) : OwnU w base' v xs := by
  refine ⟨h.1, ?_⟩
  rcases h.2 with h' | ⟨g, cap, cur, rfl, _, r⟩
  · exact .inl h'
  · exact .inr ⟨g, cap, cur, rfl, hb g rfl, r⟩
theorem mapU_one (l : Bs) (b : UInt8) : l.map U ++ [U b] = (l ++ [b]).map U := by simp
theorem litU1 (w : World) (b : UInt8) : ∀ j u, ([U b])[j]? = some u → (w.alloc (.cells #[U b] 5)).cell? ((⟨w.heap.size, 0, none⟩ : Addr).add j) = some u := by
  intro j u hj
  match j, hj with
  | 0, hj => simp at hj; subst hj; simp [Addr.add]
theorem OwnU.kept {w w' : World} {base : Nat} {v : Value} {row : Option Nat} {xs : Bs} (h : OwnU w base v xs) (hg : w.grownBy w' row) (hne : v.ownBlock = none ∨ v.ownBlock ≠ row) : OwnU w' base v xs :=
  World.ownsRow.kept h hg hne
theorem OwnU.notAt {w : World} {base c : Nat} {v : Value} {xs : Bs} (h : OwnU w base v xs) (hc : c < base) : v.ownBlock = none ∨ v.ownBlock ≠ some c := by
  by_cases e : v.ownBlock = none
  · exact .inl e
  · refine .inr fun e2 => ?_
    have := (h.lt c e2).1
    omega
theorem grown_ownU {o a b : World} {c : Nat} {row : Option Nat} (h : o.grownBy a (some c)) (g : a.grownBy b row) (hr : ∀ k, row = some k → o.heap.size ≤ k) : o.grownBy b (some c) :=
  ⟨g.os.trans h.os, g.tape.trans h.tape, g.output.trans h.output, Nat.le_trans h.size g.size, fun k hk hne => (g.block k (Nat.lt_of_lt_of_le hk h.size) (fun e => by have := hr k e.symm; omega)).trans (h.block k hk hne)⟩

/- A list of bytes that is being drawn: new since w0; the cursor stands; nothing else has turned. -/
def DrawnU (w0 w : World) (B c : Nat) (v : Value) (l : Bs) : Prop := OwnU w w0.heap.size v l ∧ Cur w B c ∧ w0.grownBy w (some c) ∧ c < w0.heap.size
theorem DrawnU.draw {w0 w w' : World} {B c : Nat} {v : Value} {l : Bs} (h : DrawnU w0 w B c v l) (C : Cur w' B c) (G : w.grownBy w' (some c)) : DrawnU w0 w' B c v l :=
  ⟨h.1.kept G (h.1.notAt h.2.2.2), C, h.2.2.1.trans G, h.2.2.2⟩
theorem DrawnU.append {w0 w w' : World} {B c : Nat} {v v' : Value} {l : Bs} {b : UInt8} {o : Obj} (h : DrawnU w0 w B c v l) (hB : B ≤ w0.heap.size)
    (hown : w'.ownsRow w0.heap.size 5 1 v' (l.length + 1) (l.map U ++ [U b])) (hg : (w.alloc o).grownBy w' v.ownBlock) : DrawnU w0 w' B c v' (l ++ [b]) := by
  obtain ⟨h1, h2, h3, h4⟩ := h
  have ga : w.grownBy (w.alloc o) (some c) := World.grownBy_alloc w o _
  have hrow : ∀ k, v.ownBlock = some k → w0.heap.size ≤ k := fun k e => (h1.lt k e).1
  refine ⟨?_, ?_, grown_ownU (h3.trans ga) hg hrow, h4⟩
  · unfold OwnU
    rw [← mapU_one]
    simpa using hown
  · exact (h2.kept (World.grownBy_alloc w o none) (by simp) (by simp)).kept hg (by rcases h1.notAt h4 with e | e; rw [e]; simp; exact e) (fun k e => by have := hrow k e; omega)
theorem DrawnU.new {w0 w w' : World} {B c : Nat} {v v' : Value} {l l' : Bs} (h : DrawnU w0 w B c v l) (hown : OwnU w' w.heap.size v' l') (G : w.grownBy w' none) : DrawnU w0 w' B c v' l' :=
  ⟨OwnU.raise hown (fun k hk => Nat.le_trans h.2.2.1.size (hown.lt k hk).1), h.2.1.kept G (by simp) (by simp), grown_ownU h.2.2.1 G (by simp), h.2.2.2⟩
/- Bytes as a string. -/
theorem run_str (w : World) (base : Nat) (v : Value) (l : Bs) (h : OwnU w base v l) (hv : v ≠ .slice none 0 0) : (convert 22 9 v).run Tryz.prog w = .ok (S l) w := by
  rcases h.2 with ⟨e, _⟩ | ⟨g, cap, cur, rfl, hb, hg, hnc, hcm, hcs, ht⟩
  · exact absurd e hv
  · refine run_convert_bytes_back (P := Tryz.prog) w 22 9 5 ⟨g, 0, none⟩ cap l Tryz.underlying22 Tryz.underlying5 Tryz.underlying9 (fun j hj => ?_)
    have := World.ownsRow.cellAt (w := w) h j (by omega)
    rw [show (⟨g, 0, none⟩ : Addr).add j = ⟨g, j, none⟩ by unfold Addr.add; split <;> simp_all, this]
    simp [hj, U, byteI]

theorem zerosU_eq (n : Nat) : (madeCells #[Value.int .u8 0] n).toList = (List.replicate n (0 : UInt8)).map U := by
  rw [toList_madeCells_one, List.map_replicate]; rfl
end Go.Proofs.YtifffiekibdgnaaGreatDoor
