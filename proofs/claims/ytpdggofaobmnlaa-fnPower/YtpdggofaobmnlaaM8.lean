/- Numbers in decimal digits: what l1Int of the model answers. -/
import Derived.Test.YtpdggofaobmnlaaM5
import Derived.Below
import Derived.Test.YtpdggofaobmnlaaM4
import Derived.Laws.OwnMore
import Derived.OwnWalk
namespace Go.Proofs.Ytpdggofaobmnlaa
open Go.ChangeShapes Go.WideShapes Go.ChangeAt Go.RowKit

def digit (n : Nat) : UInt8 := UInt8.ofNat (48 + n % 10)
def dec (n : Nat) : Bs := if n < 10 then [digit n] else dec (n / 10) ++ [digit n]
def decI (n : Int) : Bs := if n < 0 then 45 :: dec n.natAbs else dec n.natAbs
/- What is still to be written ahead: nothing of 0. -/
def decZ (n : Nat) : Bs := if n = 0 then [] else dec n
theorem decZ_step (n : Nat) (h : n ≠ 0) : decZ n = decZ (n / 10) ++ [digit n] := by
  unfold decZ
  rw [if_neg h, dec]
  by_cases h10 : n < 10
  · rw [if_pos h10, if_pos (by omega)]; rfl
  · rw [if_neg h10, if_neg (by omega)]
theorem dec_zero : dec 0 = [digit 0] := by rw [dec]; rfl

theorem parts_neg (k : Int) (h : k < 0) : k.tmod 10 = -((k.natAbs % 10 : Nat) : Int) ∧ k.tdiv 10 = -((k.natAbs / 10 : Nat) : Int) := by
  obtain ⟨m, rfl⟩ : ∃ m : Nat, k = -(m : Int) := ⟨k.natAbs, by omega⟩
  rw [Int.neg_tmod, Int.neg_tdiv, Int.natAbs_neg, Int.natAbs_natCast]
  constructor <;> rfl
theorem parts_pos (k : Int) (h : 0 ≤ k) : k.tmod 10 = ((k.natAbs % 10 : Nat) : Int) ∧ k.tdiv 10 = ((k.natAbs / 10 : Nat) : Int) := by
  obtain ⟨m, rfl⟩ : ∃ m : Nat, k = (m : Int) := ⟨k.natAbs, by omega⟩
  rw [Int.natAbs_natCast]
  constructor <;> rfl
theorem digit_at (d : Nat) (h : d ≤ 9) : ((digit d).toNat : Int) = 48 + (d : Int) := by
  have : (digit d).toNat = 48 + d % 10 := by unfold digit; rw [UInt8.toNat_ofNat']; omega
  rw [this]; omega
theorem conv1 (w : World) (d : Nat) (h : d ≤ 9) : (convert 22 9 (.slice (some ⟨w.heap.size, 0, none⟩) 1 1)).run Try.prog (w.alloc (.cells #[.int .u8 (48 + (d : Int))] 5)) = .ok (.string ⟨#[digit d]⟩) (w.alloc (.cells #[.int .u8 (48 + (d : Int))] 5)) := by
  have := run_convert_bytes_back (P := Try.prog) (w.alloc (.cells #[.int .u8 (48 + (d : Int))] 5)) 22 9 5 ⟨w.heap.size, 0, none⟩ 1 [digit d] Try.underlying22 Try.underlying5 Try.underlying9 (by
    intro j hj
    have e : j = 0 := by simpa using hj
    subst e
    have h1 : (w.alloc (.cells #[.int .u8 (48 + (d : Int))] 5)).heap[w.heap.size]? = some (.cells #[.int .u8 (48 + (d : Int))] 5) := heap_alloc_new w _
    have h2 := cell_of_row _ w.heap.size 0 _ _ _ h1
    have h3 : ((([digit d] : List UInt8)[0]).toNat : Int) = 48 + (d : Int) := digit_at d h
    rw [h3]
    exact h2)
  exact this
theorem digit_mod (n : Nat) : digit (n % 10) = digit n := by unfold digit; rw [Nat.mod_mod]
theorem dec_len (k : Nat) : ∀ n, n < 10 ^ (k + 1) → (dec n).length ≤ k + 1 := by
  induction k with
  | zero => intro n h; rw [dec, if_pos (by omega)]; simp
  | succ k ih =>
    intro n h
    rw [dec]
    split
    · simp
    · have := ih (n / 10) (by rw [Nat.pow_succ] at h; omega)
      simp; omega

theorem _root_.ByteArray.mk_append_mk' (a b : List UInt8) : (({ data := a.toArray } : ByteArray) ++ { data := b.toArray }) = { data := (a ++ b).toArray } := ByteArray.mk_append_mk a b

def IntInv (n k : Int) (l : Bs) : Prop := (l = [] ∧ k = n) ∨ (l ≠ [] ∧ decZ k.natAbs ++ l = dec n.natAbs)
theorem IntInv.step {n k k' : Int} {l : Bs} {d : Nat} (h : IntInv n k l) (hg : l = [] ∨ k ≠ 0) (hd : d = k.natAbs % 10) (hk : k'.natAbs = k.natAbs / 10) : IntInv n k' (digit d :: l) := by
  refine .inr ⟨by simp, ?_⟩
  rw [hk, hd, digit_mod]
  rcases h with ⟨rfl, rfl⟩ | ⟨h1, h2⟩
  · by_cases h0 : k.natAbs = 0
    · rw [h0]; simp [decZ, dec_zero]
    · rw [← decZ_step _ h0]; simp [decZ, h0]
  · have hk0 : k ≠ 0 := by
      rcases hg with h | h
      · exact absurd h h1
      · exact h
    rw [← h2, decZ_step k.natAbs (by omega)]
    simp
theorem IntInv.len {n k : Int} {l : Bs} (h : IntInv n k l) (h0 : -9223372036854775808 ≤ n) (h1 : n ≤ 9223372036854775807) : l.length ≤ 20 := by
  rcases h with ⟨rfl, _⟩ | ⟨_, h2⟩
  · simp
  · have := congrArg List.length h2
    have h3 := dec_len 19 n.natAbs (by omega)
    rw [List.length_append] at this
    omega
theorem IntInv.done {n : Int} {l : Bs} (h : IntInv n 0 l) (hl : l ≠ []) : l = dec n.natAbs := by
  rcases h with ⟨h, _⟩ | ⟨_, h2⟩
  · exact absurd h hl
  · simpa [decZ] using h2
theorem int_meas (k k' : Int) (q d : Nat) (l : Bs) (hk' : k'.natAbs = q) (h : (q : Int) < k.natAbs ∨ (q : Int) = k.natAbs ∧ l = []) :
    2 * (intOf (.int .i64 k')).natAbs + (match Value.string (({ data := #[digit d] } : ByteArray) ++ { data := l.toArray }) with | .string b => if b.size = 0 then 1 else 0 | _ => 0) < 2 * (intOf (.int .i64 k)).natAbs + (match Value.string ⟨l.toArray⟩ with | .string b => if b.size = 0 then 1 else 0 | _ => 0) := by
  rw [ByteArray.mk_append_mk' [digit d] l]
  have e1 : (⟨([digit d] ++ l).toArray⟩ : ByteArray).size = l.length + 1 := by simp [ByteArray.size]
  have e2 : (⟨l.toArray⟩ : ByteArray).size = l.length := rfl
  simp only [intOf, e1, e2, hk']
  rcases h with h | ⟨h, rfl⟩
  · split <;> simp <;> omega
  · simp; omega
end Go.Proofs.Ytpdggofaobmnlaa
/- Frames as lists of bytes; what l4Framed and Framed of the model answer. -/
namespace Go.Proofs.Ytpdggofaobmnlaa
open Go.ChangeShapes Go.WideShapes Go.ChangeAt Go.RowKit

def framed (l : Bs) : Bs := dec l.length ++ [32] ++ dec (chk l).toNat ++ [32] ++ l ++ [10]
def framedS (l : Bs) : Bs := if plainB l then framed l else []

theorem decI_nat (n : Nat) : decI n = dec n := by simp [decI]
theorem chk_cast (l : Bs) : ((chk l).toNat : Int) = chk l := by have := (chk_bd l).1; omega
theorem app (a b : Bs) : (({ data := a.toArray } : ByteArray) ++ { data := b.toArray }) = { data := (a ++ b).toArray } := ByteArray.mk_append_mk a b
theorem bsize (a : Bs) : ({ data := a.toArray } : ByteArray).size = a.length := rfl
end Go.Proofs.Ytpdggofaobmnlaa
/- What the law on frames draws: texts. Lists of bytes of the call's own. -/
namespace Go.Proofs.Ytpdggofaobmnlaa
open Go.ChangeShapes Go.WideShapes Go.ChangeAt Go.RowKit

def U (b : UInt8) : Value := .int .u8 (byteI b)
def OwnU (w : World) (base : Nat) (v : Value) (l : Bs) : Prop := w.ownsRow base 5 1 v l.length (l.map U)
theorem Try.infoU : (Try.prog.info? 5).map (fun i => (i.zero, i.size, i.bytes)) = some (some (.int .u8 0), 1, 1) := by kernel_rfl
theorem OwnU.lt {w : World} {base : Nat} {v : Value} {xs : Bs} (h : OwnU w base v xs) : ∀ k, v.ownBlock = some k → base ≤ k ∧ k < w.heap.size := World.ownsRow.lt h
theorem OwnU.frame {w w' : World} {base : Nat} {v : Value} {xs : Bs} (h : OwnU w base v xs) (e : ∀ b ∈ v.ownBlock.toList, w'.heap[b]? = w.heap[b]?) : OwnU w' base v xs := by
  refine ⟨h.1, ?_⟩
  rcases h.2 with h' | ⟨g, cap, cur, rfl, hb, hg, r⟩
  · exact .inl h'
  · exact .inr ⟨g, cap, cur, rfl, hb, (e g (by simp [Value.ownBlock])).trans hg, r⟩
theorem OwnU.raise {w : World} {base base' : Nat} {v : Value} {xs : Bs} (h : OwnU w base v xs) (hb : ∀ k, v.ownBlock = some k → base' ≤ k) : OwnU w base' v xs := by
  refine ⟨h.1, ?_⟩
  rcases h.2 with h' | ⟨g, cap, cur, rfl, _, r⟩
  · exact .inl h'
  · exact .inr ⟨g, cap, cur, rfl, hb g rfl, r⟩
theorem mapU_one (l : Bs) (b : UInt8) : l.map U ++ [U b] = (l ++ [b]).map U := by simp
theorem litU1 (w : World) (b : UInt8) : ∀ j u, ([U b])[j]? = some u → (w.alloc (.cells #[U b] 5)).cell? ((⟨w.heap.size, 0, none⟩ : Addr).add j) = some u := by
  intro j u hj
  match j, hj with
  | 0, hj => simp at hj; subst hj; simp [Addr.add]
theorem OwnU.kept {w w' : World} {base : Nat} {v : Value} {row : Option Nat} {xs : Bs} (h : OwnU w base v xs) (hg : w.grownBy w' row) (hne : v.ownBlock = none ∨ v.ownBlock ≠ row) : OwnU w' base v xs :=
  World.ownsRow.kept h hg hne
theorem OwnU.notAt {w : World} {base c : Nat} {v : Value} {xs : Bs} (h : OwnU w base v xs) (hc : c < base) : v.ownBlock = none ∨ v.ownBlock ≠ some c := by
  by_cases e : v.ownBlock = none
  · exact .inl e
  · refine .inr fun e2 => ?_
    have := (h.lt c e2).1
    omega
theorem grown_ownU {o a b : World} {c : Nat} {row : Option Nat} (h : o.grownBy a (some c)) (g : a.grownBy b row) (hr : ∀ k, row = some k → o.heap.size ≤ k) : o.grownBy b (some c) :=
  ⟨g.os.trans h.os, g.tape.trans h.tape, g.output.trans h.output, Nat.le_trans h.size g.size, fun k hk hne => (g.block k (Nat.lt_of_lt_of_le hk h.size) (fun e => by have := hr k e.symm; omega)).trans (h.block k hk hne)⟩

/- A list of bytes that is being drawn: new since w0; the cursor stands; nothing else has turned. -/
def DrawnU (w0 w : World) (B c : Nat) (v : Value) (l : Bs) : Prop := OwnU w w0.heap.size v l ∧ Cur w B c ∧ w0.grownBy w (some c) ∧ c < w0.heap.size
theorem DrawnU.draw {w0 w w' : World} {B c : Nat} {v : Value} {l : Bs} (h : DrawnU w0 w B c v l) (C : Cur w' B c) (G : w.grownBy w' (some c)) : DrawnU w0 w' B c v l :=
  ⟨h.1.kept G (h.1.notAt h.2.2.2), C, h.2.2.1.trans G, h.2.2.2⟩
theorem DrawnU.append {w0 w w' : World} {B c : Nat} {v v' : Value} {l : Bs} {b : UInt8} {o : Obj} (h : DrawnU w0 w B c v l) (hB : B ≤ w0.heap.size)
    (hown : w'.ownsRow w0.heap.size 5 1 v' (l.length + 1) (l.map U ++ [U b])) (hg : (w.alloc o).grownBy w' v.ownBlock) : DrawnU w0 w' B c v' (l ++ [b]) := by
  obtain ⟨h1, h2, h3, h4⟩ := h
  have ga : w.grownBy (w.alloc o) (some c) := World.grownBy_alloc w o _
  have hrow : ∀ k, v.ownBlock = some k → w0.heap.size ≤ k := fun k e => (h1.lt k e).1
  refine ⟨?_, ?_, grown_ownU (h3.trans ga) hg hrow, h4⟩
  · unfold OwnU
    rw [← mapU_one]
    simpa using hown
  · exact (h2.kept (World.grownBy_alloc w o none) (by simp) (by simp)).kept hg (by rcases h1.notAt h4 with e | e; rw [e]; simp; exact e) (fun k e => by have := hrow k e; omega)
theorem DrawnU.new {w0 w w' : World} {B c : Nat} {v v' : Value} {l l' : Bs} (h : DrawnU w0 w B c v l) (hown : OwnU w' w.heap.size v' l') (G : w.grownBy w' none) : DrawnU w0 w' B c v' l' :=
  ⟨OwnU.raise hown (fun k hk => Nat.le_trans h.2.2.1.size (hown.lt k hk).1), h.2.1.kept G (by simp) (by simp), grown_ownU h.2.2.1 G (by simp), h.2.2.2⟩
/- Bytes as a string. -/
theorem run_str (w : World) (base : Nat) (v : Value) (l : Bs) (h : OwnU w base v l) (hv : v ≠ .slice none 0 0) : (convert 22 9 v).run Try.prog w = .ok (S l) w := by
  rcases h.2 with ⟨e, _⟩ | ⟨g, cap, cur, rfl, hb, hg, hnc, hcm, hcs, ht⟩
  · exact absurd e hv
  · refine run_convert_bytes_back (P := Try.prog) w 22 9 5 ⟨g, 0, none⟩ cap l Try.underlying22 Try.underlying5 Try.underlying9 (fun j hj => ?_)
    have := World.ownsRow.cellAt (w := w) h j (by omega)
    rw [show (⟨g, 0, none⟩ : Addr).add j = ⟨g, j, none⟩ by unfold Addr.add; split <;> simp_all, this]
    simp [hj, U, byteI]

theorem zerosU_eq (n : Nat) : (madeCells #[Value.int .u8 0] n).toList = (List.replicate n (0 : UInt8)).map U := by
  rw [toList_madeCells_one, List.map_replicate]; rfl
end Go.Proofs.Ytpdggofaobmnlaa
