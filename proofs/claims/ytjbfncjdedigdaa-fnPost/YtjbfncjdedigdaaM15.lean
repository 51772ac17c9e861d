/- Copiers by the model: l13Turns, CopierOk, Clean. -/
import Derived.Test.YtjbfncjdedigdaaM13
import Derived.Test.YtjbfncjdedigdaaM6
import Derived.Test.YtjbfncjdedigdaaM14
import Derived.Test.YtjbfncjdedigdaaM2
import Derived.Test.YtjbfncjdedigdaaSta
import Derived.Test.YtjbfncjdedigdaaM5
import Derived.BigRegion
import Derived.Deep.RegionHeld3
import Derived.Deep.DeepCutAuto
import Derived.Test.YtjbfncjdedigdaaM11
import Derived.Test.YtjbfncjdedigdaaM4
import Derived.Test.YtjbfncjdedigdaaM3
import Derived.Test.YtjbfncjdedigdaaM12
namespace Go.Proofs.Ytjbfncjdedigdaa
open Go.ChangeShapes Go.WideShapes Go.ChangeAt Go.RowKit

def cpA (v : Value) (c : Cp) : Array Value := #[.int .i64 c.tr, .bool c.op, .int .i64 c.di, .int .i64 c.wa, v]
def CpV (v : Value) (c : Cp) : Value := .agg (cpA v c)
def zeroCp : Array Value := #[.int .i64 0, .bool false, .int .i64 0, .int .i64 0, .slice none 0 0]
theorem zeroCp_one : zeroCp.all (·.oneCell') = true := by simp [zeroCp, Value.oneCell']
theorem Try.isCp : IsS 78 5 := ⟨⟨_, Try.underlying78⟩, by kernel_rfl⟩
theorem cpA_one {v : Value} (c : Cp) (hv : v.oneCell' = true) : (cpA v c).all (·.oneCell') = true := by
  unfold cpA
  simp [hv, show ∀ k n, (Value.int k n).oneCell' = true from fun _ _ => rfl, show ∀ b, (Value.bool b).oneCell' = true from fun _ => rfl]
end Go.Proofs.Ytjbfncjdedigdaa
/- Sinks by the model: SinkOk, NewSink, l14Fits, Fits, l14Copy, Received. -/
namespace Go.Proofs.Ytjbfncjdedigdaa
open Go.ChangeShapes Go.WideShapes Go.ChangeAt Go.RowKit

def snA (v : Value) (c : Sn) : Array Value := #[.int .i64 c.tr, v]
def SnV (v : Value) (c : Sn) : Value := .agg (snA v c)
def zeroSn : Array Value := #[.int .i64 0, .slice none 0 0]
theorem zeroSn_one : zeroSn.all (·.oneCell') = true := by simp [zeroSn, Value.oneCell']
theorem Try.isSn : IsS 80 2 := ⟨⟨_, Try.underlying80⟩, by kernel_rfl⟩
theorem snA_one {v : Value} (c : Sn) (hv : v.oneCell' = true) : (snA v c).all (·.oneCell') = true := by
  unfold snA
  simp [hv, show ∀ k n, (Value.int k n).oneCell' = true from fun _ _ => rfl]

end Go.Proofs.Ytjbfncjdedigdaa
/- Whether a record is right; how the laws take one over and compare two. -/
namespace Go.Proofs.Ytjbfncjdedigdaa
open Go.ChangeShapes Go.WideShapes Go.ChangeAt Go.RowKit

theorem Try.infoR : (Try.prog.info? 73).map (·.size) = some 4 := by kernel_rfl

theorem Try.underR : ∃ fs, Try.prog.underlying 73 = some (.struct fs) := ⟨_, Try.underlying73⟩
theorem recA_one (r : Rc) : (recA r).all (·.oneCell') = true := by simp [recA, Value.oneCell']
theorem recA_size (r : Rc) : (recA r).size = 4 := rfl
theorem recA_zero : (#[.int .i64 0, .int .i64 0, .int .i64 0, .int .i64 0] : Array Value) = recA Rc.zero := rfl
/- Block g holds the record r. -/
def RecB (w : World) (g : Nat) (t : TypeId) (r : Rc) : Prop := w.heap[g]? = some (.cells (recA r) t (0, 0))
theorem RecB.lt {w : World} {g : Nat} {t : TypeId} {r : Rc} (h : RecB w g t r) : g < w.heap.size := by
  rcases Nat.lt_or_ge g w.heap.size with hlt | hge
  · exact hlt
  · rw [RecB, Array.getElem?_eq_none hge] at h; cases h
theorem RecB.new (w : World) (t : TypeId) (r : Rc) : RecB (w.alloc (.cells (recA r) t)) w.heap.size t r := heap_alloc_new w _
theorem RecB.below {w w' : World} {g : Nat} {t : TypeId} {r : Rc} (h : RecB w g t r) (hb : Below w.heap.size w w') : RecB w' g t r := (hb.block g h.lt).trans h
theorem RecB.kept {w w' : World} {g : Nat} {t : TypeId} {r : Rc} {row : Option Nat} (h : RecB w g t r) (hg : w.grownBy w' row) (hne : some g ≠ row) : RecB w' g t r := (hg.block g h.lt hne).trans h
theorem RecB.alloc {w : World} {g : Nat} {t : TypeId} {r : Rc} (h : RecB w g t r) (o : Obj) : RecB (w.alloc o) g t r := (Below.heap_alloc w o g h.lt).trans h
theorem RecB.cell {w : World} {g : Nat} {t : TypeId} {r : Rc} (h : RecB w g t r) (j : Nat) {x : Value} (e : (recA r)[j]? = some x) : w.cell? ⟨g, j, none⟩ = some x := by rw [cell_of_row w g j _ _ _ h, e]
theorem RecB.frozen {w : World} {g : Nat} {t : TypeId} {r : Rc} (h : RecB w g t r) (j : Nat) : w.frozen? ⟨g, j, none⟩ = false := frozen_of_row w g j _ _ h
theorem grownRowR (w : World) (g : Nat) (cs : Array Value) : w.grownBy (w.setRow g cs) (some g) :=
  ⟨rfl, rfl, rfl, by simp, fun k _ hne => _root_.Go.setRow_other w g k cs (fun e => hne (by rw [e]))⟩
theorem wpList_getR {ops : Array Oper} {rest : List Oper} {o : Oper} {a : Act} {w : World} {Q : Exit → Act → World → Prop} (hgd : o.guard = none) (x : Operand) (ho : o.op = .load 73 x)
    (g : Nat) (hx : a.eval x = .pointer (some ⟨g, 0, none⟩)) (r : Rc) (hr : RecB w g 73 r)
    (h : wpList Try.prog ops Q rest (a.put o.dst (RV r)) w) : wpList Try.prog ops Q (o :: rest) a w := by
  obtain ⟨fs, hu⟩ := Try.underR
  exact wpList_load_row hgd _ x ho g hx _ _ _ _ hr hu rfl Try.infoR h
theorem wpList_putR {ops : Array Oper} {rest : List Oper} {o : Oper} {a : Act} {w : World} {Q : Exit → Act → World → Prop} (hgd : o.guard = none) (x y : Operand) (ho : o.op = .store 73 x y)
    (g : Nat) (r r' : Rc) (hx : a.eval x = .pointer (some ⟨g, 0, none⟩)) (hy : a.eval y = RV r) (hr : RecB w g 73 r')
    (h : ∀ w', RecB w' g 73 r → w.grownBy w' (some g) → wpList Try.prog ops Q rest (a.put o.dst undef) w') : wpList Try.prog ops Q (o :: rest) a w :=
  wpList_store_row hgd _ x y ho g (recA r) hx hy _ _ hr Try.infoR rfl (recA_one r) (h _ (setRow_heap w g _ _ _ _ hr) (grownRowR w g _))
theorem results_R {fn : Func} {p : Tmp} (h : fn.results = #[.cell p 73]) (tmps : Array Value) (w : World) (g : Nat) (r : Rc)
    (hp : tmps.getD p undef = .pointer (some ⟨g, 0, none⟩)) (hr : RecB w g 73 r) : (results fn tmps).run Try.prog w = .ok (RV r) w := by
  obtain ⟨fs, hu⟩ := Try.underR
  exact results_cell_row h tmps w g _ _ _ _ hp hr hu rfl Try.infoR
theorem results_R2 {fn : Func} {p q : Tmp} (h : fn.results = #[.cell p 73, .tmp q]) (tmps : Array Value) (w : World) (g : Nat) (r : Rc) (x : Value)
    (hp : tmps.getD p undef = .pointer (some ⟨g, 0, none⟩)) (hx : tmps.getD q undef = x) (hr : RecB w g 73 r) : (results fn tmps).run Try.prog w = .ok (.tuple #[RV r, x]) w := by
  obtain ⟨fs, hu⟩ := Try.underR
  rw [results_cell_tmp h, hp, hx]
  simp only [asAddr, Sem.run_pure, Result.andThen_ok]
  rw [run_loadVar_row w g _ _ _ _ _ hr hu rfl Try.infoR]
  rfl
end Go.Proofs.Ytjbfncjdedigdaa
/- What the model reads of a number: l1Digits, l1Read. -/
namespace Go.Proofs.Ytjbfncjdedigdaa
open Go.ChangeShapes Go.WideShapes Go.ChangeAt Go.RowKit
end Go.Proofs.Ytjbfncjdedigdaa
/- A list of strings of the call's own as a thing in the state of a long walk. -/
namespace Go.Proofs.Ytjbfncjdedigdaa
open Go.ChangeShapes Go.WideShapes Go.ChangeAt Go.RowKit

def Lss (v : Value) (xs : List Bs) : Item := ⟨v.ownBlock.toList, 0, fun w => OwnS w 0 v xs, fun _ _ e _ h => OwnS.frame h e⟩
theorem Sta.texts {w wx wy : World} {L : List Item} {v : Value} {xs : List Bs} (h : Sta w wx L) (o : OwnS wy wx.heap.size v xs) (b : Below wx.heap.size wx wy) : Sta w wy (Lss v xs :: L) :=
  h.add b (Lss v xs) (o.mono (Nat.zero_le _)) (fun k hk => o.lt k (by simpa [Lss] using hk))
/- The list is written anew in its own block: what markStringS does. -/
theorem Sta.markS {w wx wy : World} {L : List Item} {v : Value} {xs ys : List Bs} (h : Sta w wx L) (n : Nat) (e : L[n]? = some (Lss v xs)) (o : OwnS wy 0 v ys) (g : wx.grownBy wy v.ownBlock) : Sta w wy (L.set n (Lss v ys)) :=
  h.turn n e (Turned.of_grown g) (Lss v ys) rfl o
theorem Sta.readsS {w wx : World} {L : List Item} {v : Value} {xs : List Bs} (h : Sta w wx L) (n : Nat) (e : L[n]? = some (Lss v xs)) : ReadsS wx v xs := OwnS.reads (h.get n e)
/- The first m of a list. -/
theorem ReadsS.take {w : World} {ao : Option Addr} {n cap : Nat} {xs : List Bs} (h : ReadsS w (.slice ao n cap) xs) (m : Nat) (hm : m ≤ xs.length) : ReadsS w (.slice ao m cap) (xs.take m) := by
  obtain ⟨ao', cap', e, h1, h2, h4⟩ := h
  cases e
  have hl : (xs.take m).length = m := by simp [Nat.min_eq_left hm]
  refine ⟨ao, cap, by rw [hl], by rw [hl]; omega, h2, ?_⟩
  rcases h4 with rfl | ⟨b, off, e, h4⟩
  · exact .inl (by simp)
  · refine .inr ⟨b, off, e, fun j hj => ?_⟩
    rw [hl] at hj
    rw [h4 j (by omega)]
    simp [hj]
end Go.Proofs.Ytjbfncjdedigdaa
/- What ReadRecord of the model answers. -/
namespace Go.Proofs.Ytjbfncjdedigdaa
open Go.ChangeShapes Go.WideShapes Go.ChangeAt Go.RowKit

def recO (s : Bs) : Rc := (readR s).getD Rc.zero
def isR (s : Bs) : Bool := (readR s).isSome
theorem readR_not {s : Bs} (h : readR s = none) : recO s = Rc.zero ∧ isR s = false := by simp [recO, isR, h]
theorem readR_yes {s : Bs} {r : Rc} (h : readR s = some r) : recO s = r ∧ isR s = true := by simp [recO, isR, h]
theorem readR_len {s : Bs} (h : (splitB 32 s).length ≠ 5) : readR s = none := by
  unfold readR
  rw [if_neg]
  rintro ⟨_, h2⟩
  have hne := List.length_pos_iff.2 (splitB_ne 32 s)
  unfold goodW at h2
  simp only [Bool.and_eq_true, decide_eq_true_eq, List.length_tail] at h2
  omega
theorem readR_word {s : Bs} (h : (splitB 32 s).head? ≠ some recW) : readR s = none := by
  unfold readR
  rw [if_neg]
  rintro ⟨h1, _⟩
  exact h h1
theorem readR_num {s : Bs} {j : Nat} (hj : j < (splitB 32 s).tail.length) (h : okN ((splitB 32 s).tail.getD j []) = false) : readR s = none := by
  unfold readR
  rw [if_neg]
  rintro ⟨_, h2⟩
  unfold goodW at h2
  simp only [Bool.and_eq_true, decide_eq_true_eq] at h2
  have := List.all_eq_true.1 h2.1.2 _ (getD_mem _ j hj)
  rw [h] at this
  cases this
theorem readR_bad {s : Bs} (h : (recOf (splitB 32 s).tail).ok = false) : readR s = none := by
  unfold readR
  rw [if_neg]
  rintro ⟨_, h2⟩
  unfold goodW at h2
  rw [h] at h2
  simp at h2
theorem readR_good {s : Bs} (h1 : (splitB 32 s).head? = some recW) (h2 : (splitB 32 s).tail.length = 4) (h3 : (splitB 32 s).tail.all okN = true) (h4 : (recOf (splitB 32 s).tail).ok = true) : readR s = some (recOf (splitB 32 s).tail) := by
  unfold readR
  rw [if_pos]
  refine ⟨h1, ?_⟩
  unfold goodW
  rw [h3, h4, h2]
  rfl
theorem all_take {ws : List Bs} {j : Nat} (h : (ws.take j).all okN = true) (hj : j < ws.length) (h2 : okN (ws.getD j []) = true) : (ws.take (j + 1)).all okN = true := by
  rw [takeS_snoc ws j hj, List.all_append, h]
  simpa using h2
theorem nums_take {ws : List Bs} {j : Nat} (hj : j < ws.length) : (ws.take (j + 1)).map num = (ws.take j).map num ++ [num (ws.getD j [])] := by
  rw [takeS_snoc ws j hj, List.map_append]
  rfl
theorem recOf_four {ws : List Bs} (h : ws.length = 4) : ws.map num = [(recOf ws).e, (recOf ws).s, (recOf ws).t, (recOf ws).n] := by
  match ws, h with
  | [a, b, c, d], _ => rfl
theorem recOf_fit (ws : List Bs) : (recOf ws).Fit := by
  have h := fun l => num_bd l
  have h0 := h (ws.getD 0 [])
  have h1 := h (ws.getD 1 [])
  have h2 := h (ws.getD 2 [])
  have h3 := h (ws.getD 3 [])
  unfold Rc.Fit recOf
  dsimp only
  omega
theorem lit1I (w : World) (x : Int) : ∀ j u, ([Value.int .i64 x])[j]? = some u → (w.alloc (.cells #[.int .i64 x] 2)).cell? ((⟨w.heap.size, 0, none⟩ : Addr).add j) = some u := by
  intro j u hj
  match j, hj with
  | 0, hj => simp at hj; subst hj; simp [Addr.add]
theorem appendI {w wr w' : World} {o v' : Value} {out : List Int} {x : Int} {ob : Obj} (hO : Own wr w.heap.size o out) (hB : Below w.heap.size w wr)
    (hown : w'.ownsRow w.heap.size 2 1 v' (out.length + 1) (out.map (Value.int .i64) ++ [.int .i64 x])) (hg : (wr.alloc ob).grownBy w' o.ownBlock) : Own w' w.heap.size v' (out ++ [x]) ∧ Below w.heap.size w w' := by
  refine ⟨?_, (hB.alloc hB.size ob).grown hg (by simp; have := hB.size; omega) (fun k e => (hO.lt k e).1)⟩
  unfold Own
  rw [List.map_append]
  simpa using hown
theorem five_of {ws : List Bs} (h : ws.length = 5) : ∃ a b c d e, ws = [a, b, c, d, e] := by
  match ws, h with
  | [a, b, c, d, e], _ => exact ⟨a, b, c, d, e, rfl⟩
theorem splitB_part (c : UInt8) (s : Bs) : ∀ p ∈ splitB c s, p.length ≤ s.length := by
  induction s with
  | nil => simp [splitB]
  | cons b t ih =>
    intro p hp
    rw [splitB] at hp
    split at hp
    · rcases List.mem_cons.1 hp with rfl | hp
      · simp
      · have := ih p hp; simp; omega
    · cases hs : splitB c t with
      | nil => exact absurd hs (splitB_ne c t)
      | cons q qs =>
        rw [hs] at hp ih
        simp only [ahead, List.mem_cons] at hp
        rcases hp with rfl | hp
        · have := ih q (by simp); simp; omega
        · have := ih p (by simp [hp]); simp; omega
end Go.Proofs.Ytjbfncjdedigdaa
/- What Recalled of the model answers. -/
namespace Go.Proofs.Ytjbfncjdedigdaa
open Go.ChangeShapes Go.WideShapes Go.ChangeAt Go.RowKit

theorem step_yes {x : Bs} (a : Option (Rc × Nat)) (n : Nat) (h : isR x = true) : stepE a (x, n) = some (recO x, n) := by
  unfold isR recO at *
  unfold stepE
  cases hr : readR x with
  | none => rw [hr] at h; cases h
  | some r => rfl
theorem step_no {x : Bs} (a : Option (Rc × Nat)) (n : Nat) (h : isR x = false) : stepE a (x, n) = a := by
  unfold isR at h
  unfold stepE
  cases hr : readR x with
  | none => rfl
  | some r => rw [hr] at h; cases h
theorem results_R3 {fn : Func} {p q u : Tmp} (h : fn.results = #[.cell p 73, .tmp q, .tmp u]) (tmps : Array Value) (w : World) (g : Nat) (r : Rc) (x y : Value)
    (hp : tmps.getD p undef = .pointer (some ⟨g, 0, none⟩)) (hx : tmps.getD q undef = x) (hy : tmps.getD u undef = y) (hr : RecB w g 73 r) : (results fn tmps).run Try.prog w = .ok (.tuple #[RV r, x, y]) w := by
  obtain ⟨fs, hu⟩ := Try.underR
  have hl := run_loadVar_row w g _ _ _ _ _ hr hu rfl Try.infoR
  have hp' : tmps[p]?.getD undef = .pointer (some ⟨g, 0, none⟩) := by simpa using hp
  have hx' : tmps[q]?.getD undef = x := by simpa using hx
  have hy' : tmps[u]?.getD undef = y := by simpa using hy
  simp [results, h, hp', hx', hy', asAddr, hl]
  rfl

theorem RecB.set4 {w : World} {g : Nat} {t : TypeId} {q : Rc} (h : RecB w g t q) (r : Rc) : RecB ((((w.setCell ⟨g, 0, none⟩ (.int .i64 r.e)).setCell ⟨g, 1, none⟩ (.int .i64 r.s)).setCell ⟨g, 2, none⟩ (.int .i64 r.t)).setCell ⟨g, 3, none⟩ (.int .i64 r.n)) g t r := by
  have h0 := heap_setCell_same w g 0 _ _ (.int .i64 r.e) h
  have h1 := heap_setCell_same _ g 1 _ _ (.int .i64 r.s) h0
  have h2 := heap_setCell_same _ g 2 _ _ (.int .i64 r.t) h1
  exact heap_setCell_same _ g 3 _ _ (.int .i64 r.n) h2
theorem below_set4 {w0 w : World} {g : Nat} (B : Below w0.heap.size w0 w) (hg : w0.heap.size ≤ g) (a b c d : Value) : Below w0.heap.size w0 ((((w.setCell ⟨g, 0, none⟩ a).setCell ⟨g, 1, none⟩ b).setCell ⟨g, 2, none⟩ c).setCell ⟨g, 3, none⟩ d) :=
  (((B.setCell (p := ⟨g, 0, none⟩) hg a).setCell (p := ⟨g, 1, none⟩) hg b).setCell (p := ⟨g, 2, none⟩) hg c).setCell (p := ⟨g, 3, none⟩) hg d
end Go.Proofs.Ytjbfncjdedigdaa
/- A house in memory: twenty cells; NodeOk of the model. -/
namespace Go.Proofs.Ytjbfncjdedigdaa
open Go.ChangeShapes Go.WideShapes Go.ChangeAt Go.RowKit

def ndA (a b k q z : Value) (n : Nd) : Array Value := #[.int .i64 n.id, .bool n.up, a, b, k, .int .i64 n.h.kd, .int .i64 n.h.ho, .int .i64 n.h.tu, S n.log, .int .i64 n.r.e, .int .i64 n.r.s, .int .i64 n.r.t, .int .i64 n.r.n, .int .i64 n.c.tr, .bool n.c.op, .int .i64 n.c.di, .int .i64 n.c.wa, q, .int .i64 n.s.tr, z]
def NdV (a b k q z : Value) (n : Nd) : Value := .agg (ndA a b k q z n)
theorem Try.isNd : IsS 82 20 := ⟨⟨_, Try.underlying82⟩, by kernel_rfl⟩
/- Its five lists are there, and nothing of it is great. -/
structure RdN (w : World) (a b k q z : Value) (n : Nd) : Prop where
  ra : Reads w a n.xs
  rb : Reads w b n.ys
  rk : Reads w k n.h.ks
  rq : Reads w q n.c.ts
  rz : Reads w z n.s.ts
structure SmN (n : Nd) : Prop where
  la : n.xs.length ≤ 1048576
  lb : n.ys.length ≤ 1048576
  lk : n.h.ks.length ≤ 1048576
  lq : n.c.ts.length ≤ 1048576
  lz : n.s.ts.length ≤ 1048576
  ll : n.log.length ≤ 1048576
theorem RdN.below {w w' : World} {a b k q z : Value} {n : Nd} (h : RdN w a b k q z n) (B : Below w.heap.size w w') : RdN w' a b k q z n := ⟨h.ra.below B (Nat.le_refl _), h.rb.below B (Nat.le_refl _), h.rk.below B (Nat.le_refl _), h.rq.below B (Nat.le_refl _), h.rz.below B (Nat.le_refl _)⟩

theorem beq_t {α : Type} [BEq α] [LawfulBEq α] {a b : α} (h : (a == b) = true) : a = b := eq_of_beq h
theorem beq_f {α : Type} [BEq α] [LawfulBEq α] {a b : α} (h : (a == b) = false) : ¬ a = b := fun e => by rw [e, beq_self_eq_true] at h; cases h
theorem bne_t {α : Type} [BEq α] [LawfulBEq α] {a b : α} (h : (a != b) = true) : ¬ a = b := fun e => by rw [e] at h; simp at h
theorem bne_f {α : Type} [BEq α] [LawfulBEq α] {a b : α} (h : (a != b) = false) : a = b := by simpa using h
end Go.Proofs.Ytjbfncjdedigdaa
