/- The iterator of the program: wholeFrames hands back a function that gives each frame's text and where the frame ends. -/
import Derived.Test.YteooloceaoinlaaDoorM25
import Derived.Test.YteooloceaoinlaaDoorM12
import Derived.RangeFuncNested
import Derived.RangeFuncBox
import Derived.RangeFuncCalls
import Derived.RangeFuncLeaves
import Derived.Shelf.Abstract
import Derived.OwnWalkIn
import Derived.TacticsInMore
import Derived.LoopNIn
import Derived.LoopIn
import Derived.Maps.OwnIn
import Derived.RegionIn
import Derived.Test.YteooloceaoinlaaDoorM19
import Derived.Shelf.RegionOpen
import Derived.Test.YteooloceaoinlaaDoorM18
import Derived.Test.YteooloceaoinlaaDoorM21
import Derived.Test.YteooloceaoinlaaDoorM24
import Derived.Test.YteooloceaoinlaaDoorM20
namespace Go.Proofs.YteooloceaoinlaaDoor
open Go.ChangeShapes Go.WideShapes Go.ChangeAt Go.RowKit
attribute [local go_sem] Oper.semAt_some

def Keep (Bn n0 : Nat) (W W' : World) : Prop := (∀ v, W.cell? ⟨Bn, 0, none⟩ = some v → W'.cell? ⟨Bn, 0, none⟩ = some v) ∧ Below n0 W W'
theorem Keep.trans {Bn n0 : Nat} {A B C : World} (h : Keep Bn n0 A B) (k : Keep Bn n0 B C) : Keep Bn n0 A C := ⟨fun v hv => k.1 v (h.1 v hv), h.2.trans k.2⟩
theorem Keep.book {Bn n0 : Nat} {w : World} (hn : n0 ≤ w.heap.size) (W : World) (l : Nat) (o o' : Obj) (hl : w.heap.size ≤ l) (h : W.heap[l]? = some o) (h1 : o.isCells = false) (h2 : o.isWalk = false) : Keep Bn n0 W (W.putObj l o') :=
  ⟨fun v hv => cell_kept hv (grownBy_putObj' W l o') (fun r e => by cases e; exact ⟨o, h, h1⟩), belowK_b hn W l o o' hl h h1 h2⟩
theorem grown_of_below {w w' : World} (h : Below w.heap.size w w') (row : Option Nat) : w.grownBy w' row := ⟨h.os, h.tape, h.output, h.size, fun k hk _ => h.block k hk⟩

set_option maxRecDepth 20000 in
set_option maxHeartbeats 1000000 in
theorem iclone_any (l : Bs) (w : World) (hl : l.length ≤ 1048576) :
    Calls Tryd.prog 37 #[S l] w fun e w' => e = .returned (S l) ∧ Below w.heap.size w w' := by
  have hsz : (⟨l.toArray⟩ : ByteArray).size = l.length := rfl
  have c0 := Tryd.stringslite_Clone ⟨l.toArray⟩ w (by omega)
  unfold S
  go_enter Tryd.func37, Tryd.ntmps37
  go_wp2_with fail
  refine c0.mono ?_
  rintro e w1 ⟨rfl, b1⟩
  clear c0
  go_wp2_with fail
  go_ret
  exact ⟨rfl, b1⟩
end Go.Proofs.YteooloceaoinlaaDoor
/- What Frames and Last of the program answer: they range over its iterator. -/
namespace Go.Proofs.YteooloceaoinlaaDoor
open Go.ChangeShapes Go.WideShapes Go.ChangeAt Go.RowKit
attribute [local go_sem] Oper.semAt_some
end Go.Proofs.YteooloceaoinlaaDoor
/- What the program reads of a number: readNumber. -/
namespace Go.Proofs.YteooloceaoinlaaDoor
open Go.ChangeShapes Go.WideShapes Go.ChangeAt Go.RowKit

theorem nozero {l : Bs} {k : Nat} (ho : offN l = k) (hk : k < l.length) (h : l[k] ≠ 48 ∨ l.length ≤ 1) : ¬ ((digs l).head? = some 48 ∧ 1 < l.length) := by
  rintro ⟨h1, h2⟩
  subst ho
  rw [head_digs l hk] at h1
  rcases h with h | h
  · exact h (by simpa using h1)
  · omega
theorem leadzero {l : Bs} {k : Nat} (ho : offN l = k) (hk : k < l.length) (h : l[k] = 48) (h1 : 1 < l.length) : okN l = false := by
  subst ho
  rw [← Bool.not_eq_true, okN_iff]
  rintro ⟨_, _, _, h4⟩
  exact h4 ⟨by rw [head_digs l hk, h], h1⟩
end Go.Proofs.YteooloceaoinlaaDoor
/- What strings.SplitN of Go's library answers, where the sign is one byte. -/
namespace Go.Proofs.YteooloceaoinlaaDoor
open Go.ChangeShapes Go.WideShapes Go.ChangeAt Go.RowKit

set_option maxRecDepth 20000 in
set_option maxHeartbeats 400000 in
theorem isidx_any (c : UInt8) (l : Bs) (w : World) :
    Calls Tryd.prog 57 #[S l, .string ⟨#[c]⟩] w fun e w' => e = .returned (.int .i64 (if posB c l = l.length then -1 else (posB c l : Int))) ∧ w' = w := by
  have c0 := Tryd.stringslite_Index_one ⟨l.toArray⟩ c w
  rw [show (⟨l.toArray⟩ : ByteArray).data.toList = l from rfl, index_pos] at c0
  obtain ⟨z, hz⟩ : ∃ z, z = (if posB c l = l.length then -1 else (posB c l : Int)) := ⟨_, rfl⟩
  rw [← hz] at c0 ⊢
  clear hz
  unfold S
  go_enter Tryd.func57, Tryd.ntmps57
  go_wp2_with fail
  refine c0.mono ?_
  rintro e w' ⟨rfl, hw⟩; subst w'
  clear c0
  go_wp2_with fail
  go_ret
  exact ⟨rfl, rfl⟩

theorem zerosS_eq (n : Nat) : (madeCells #[Value.string ⟨#[]⟩] n).toList = (List.replicate n ([] : Bs)).map S := by
  rw [toList_madeCells_one, List.map_replicate]; rfl

/- What stands in the list of n when i pieces are cut and s is still to be cut. -/
def CutInv (c : UInt8) (l : Bs) (k : Nat) (out : List Bs) (s : Bs) : Prop := out.length ≤ k ∧ splitN c k l = out ++ splitN c (k - out.length) s
theorem CutInv.start (c : UInt8) (l : Bs) (k : Nat) : CutInv c l k [] l := ⟨Nat.zero_le _, by simp⟩
theorem CutInv.next {c : UInt8} {l s : Bs} {k : Nat} {out : List Bs} (h : CutInv c l k out s) (hk : out.length < k) (hp : posB c s ≠ s.length) : CutInv c l k (out ++ [before c s]) (behind c s) := by
  refine ⟨by simp; omega, ?_⟩
  rw [h.2, show k - out.length = (k - (out ++ [before c s]).length) + 1 by simp; omega, splitN, posC_is, if_neg hp]
  simp [before, behind]
theorem CutInv.stop {c : UInt8} {l s : Bs} {k : Nat} {out : List Bs} (h : CutInv c l k out s) (hk : out.length = k ∨ posB c s = s.length) : splitN c k l = out ++ [s] := by
  rw [h.2]
  rcases hk with hk | hk
  · rw [hk, Nat.sub_self, splitN]
  · cases k - out.length with
    | zero => rw [splitN]
    | succ m => rw [splitN, posC_is, if_pos hk]
theorem setS_mid (out : List Bs) (m : Nat) (x : Bs) (h : 0 < m) : (out ++ List.replicate m []).set out.length x = (out ++ [x]) ++ List.replicate (m - 1) [] := by
  obtain ⟨k, rfl⟩ : ∃ k, m = k + 1 := ⟨m - 1, by omega⟩
  rw [List.set_append_right _ _ (by omega), Nat.sub_self, List.replicate_succ, List.set_cons_zero]
  simp
theorem below_setS {w wr : World} {g j : Nat} {x : Value} (h : Below w.heap.size w wr) (hg : w.heap.size ≤ g) : Below w.heap.size w (wr.setCell ⟨g, j, none⟩ x) := h.setCell (p := ⟨g, j, none⟩) hg x

theorem cut_reads {w : World} {base g n : Nat} {out : List Bs} {q : Bs} (h : OwnS w base (.slice (some ⟨g, 0, none⟩) n n) ((out ++ List.replicate (n - out.length) []).set out.length q)) (hn : out.length < n) : ReadsS w (.slice (some ⟨g, 0, none⟩) (out.length + 1) n) (out ++ [q]) := by
  rw [setS_mid out _ q (by omega)] at h
  have h2 := h.reads.take (out.length + 1) (by simp)
  rwa [List.take_append_of_le_length (by simp), List.take_of_length_le (by simp)] at h2
end Go.Proofs.YteooloceaoinlaaDoor
/- What ReadRecord of the program answers. -/
namespace Go.Proofs.YteooloceaoinlaaDoor
open Go.ChangeShapes Go.WideShapes Go.ChangeAt Go.RowKit

def wordsN (s : Bs) : List Bs := splitN 32 (min 5 ((behind 32 s).length + 1) - 1) (behind 32 s)
theorem head_before (s : Bs) : (splitB 32 s).head? = some (before 32 s) := by
  rw [splitB_first, posC_is]
  split
  · rename_i h
    rw [(behind_miss h).2.1]; rfl
  · rfl
theorem words_four {s : Bs} (h : (wordsN s).length = 4) : (splitB 32 s).tail = wordsN s := by
  rw [splitB_first, posC_is]
  split
  · rename_i hp
    exfalso
    unfold wordsN at h
    rw [(behind_miss hp).1] at h
    simp [splitN] at h
  · unfold wordsN at h ⊢
    rcases split_four (behind 32 s) with e | ⟨e1, _⟩
    · rw [e]; rfl
    · exact absurd h e1
theorem words_not {s : Bs} (h : (wordsN s).length ≠ 4) : readR s = none := by
  refine readR_len ?_
  rw [splitB_first, posC_is]
  split
  · simp
  · unfold wordsN at h
    rcases split_four (behind 32 s) with e | ⟨_, e2⟩
    · rw [e] at h
      simp only [List.length_cons]
      intro h2
      exact h (by unfold behind; omega)
    · simp only [List.length_cons]
      intro h2
      exact e2 (by unfold behind; omega)
theorem splitN_part (c : UInt8) (k : Nat) : ∀ s : Bs, ∀ p ∈ splitN c k s, p.length ≤ s.length := by
  induction k with
  | zero => intro s p hp; simp [splitN] at hp; rw [hp]; exact Nat.le_refl _
  | succ k ih =>
    intro s p hp
    rw [splitN] at hp
    split at hp
    · simp at hp; rw [hp]; exact Nat.le_refl _
    · rcases List.mem_cons.1 hp with rfl | hp
      · simp; omega
      · have := ih _ p hp; simp at this; omega

/- An array of four numbers in memory. -/
def row4 (f : Nat → Int) : Array Value := #[.int .i64 (f 0), .int .i64 (f 1), .int .i64 (f 2), .int .i64 (f 3)]
def Row4 (w : World) (g : Nat) (f : Nat → Int) : Prop := w.heap[g]? = some (.cells (row4 f) 69 (0, 0))
def upd4 (f : Nat → Int) (j : Nat) (x : Int) : Nat → Int := fun k => if k = j then x else f k
theorem fours {p : Nat → Prop} (h0 : p 0) (h1 : p 1) (h2 : p 2) (h3 : p 3) : ∀ j, j < 4 → p j
  | 0, _ => h0 | 1, _ => h1 | 2, _ => h2 | 3, _ => h3
  | _ + 4, h => by omega
theorem row4_at (f : Nat → Int) : ∀ j, j < 4 → (row4 f)[j]? = some (.int .i64 (f j)) := fours rfl rfl rfl rfl
theorem row4_set (f : Nat → Int) (x : Int) : ∀ j, j < 4 → (row4 f).setIfInBounds j (.int .i64 x) = row4 (upd4 f j x) := fours rfl rfl rfl rfl
theorem Row4.cell {w : World} {g : Nat} {f : Nat → Int} (h : Row4 w g f) (j : Nat) (hj : j < 4) : w.cell? ⟨g, j, none⟩ = some (.int .i64 (f j)) := by
  rw [cell_of_row w g j _ _ _ h, row4_at f j hj]
theorem Row4.frozen {w : World} {g : Nat} {f : Nat → Int} (h : Row4 w g f) (j : Nat) : w.frozen? ⟨g, j, none⟩ = false := frozen_of_row w g j _ _ h
theorem Row4.new (w : World) (f : Nat → Int) : Row4 (w.alloc (.cells (row4 f) 69)) w.heap.size f := heap_alloc_new w _
theorem Row4.setCell {w : World} {g : Nat} {f : Nat → Int} (h : Row4 w g f) (j : Nat) (hj : j < 4) (x : Int) : Row4 (w.setCell ⟨g, j, none⟩ (.int .i64 x)) g (upd4 f j x) := by
  have := heap_setCell_same w g j _ _ (.int .i64 x) h
  rw [row4_set f x j hj] at this
  exact this
def part4 (vs : List Bs) (j : Nat) : Nat → Int := fun k => if k < j then num (vs.getD k []) else 0
theorem part4_step (vs : List Bs) (j : Nat) : upd4 (part4 vs j) j (num (vs.getD j [])) = part4 vs (j + 1) := by
  funext k
  unfold upd4 part4
  by_cases e : k = j
  · subst e; simp
  · have : k < j + 1 ↔ k < j := by omega
    simp [e, this]
end Go.Proofs.YteooloceaoinlaaDoor
/- What Recalled of the program answers: it ranges over its iterator, and reads each text. -/
namespace Go.Proofs.YteooloceaoinlaaDoor
open Go.ChangeShapes Go.WideShapes Go.ChangeAt Go.RowKit
attribute [local go_sem] Oper.semAt_some
end Go.Proofs.YteooloceaoinlaaDoor
/- Houses by the program: idOk, store, logOk, copierOk, sinkOk, NodeOk. -/
namespace Go.Proofs.YteooloceaoinlaaDoor
open Go.ChangeShapes Go.WideShapes Go.ChangeAt Go.RowKit

set_option maxRecDepth 20000 in
set_option maxHeartbeats 400000 in
theorem iidok_any (x : Int) (w : World) :
    Calls Tryd.prog 14 #[.int .i64 x] w fun e w' => e = .returned (.bool (inI x 0 1)) ∧ w' = w := by
  by_cases h0 : 0 ≤ x
  · by_cases h1 : x ≤ 1
    · rw [show inI x 0 1 = true by simp [inI, h0, h1]]
      go_enter Tryd.func14, Tryd.ntmps14
      go_wp2
      go_ret
      exact ⟨ret_bool (by simp <;> omega), rfl⟩
    · rw [show inI x 0 1 = false by simp [inI]; omega]
      go_enter Tryd.func14, Tryd.ntmps14
      go_wp2
      go_ret
      exact ⟨ret_bool (by simp <;> omega), rfl⟩
  · rw [show inI x 0 1 = false by simp [inI]; omega]
    go_enter Tryd.func14, Tryd.ntmps14
    go_wp2
    go_ret
    exact ⟨ret_bool (by simp <;> omega), rfl⟩

end Go.Proofs.YteooloceaoinlaaDoor
/- Houses by the program: NodeOk. -/
namespace Go.Proofs.YteooloceaoinlaaDoor
open Go.ChangeShapes Go.WideShapes Go.ChangeAt Go.RowKit

/- A whole struct is loaded where a test ahead of it said yes. -/
theorem wpList_getSG {t : TypeId} {n : Nat} (hS : IsS t n) {ops : Array Oper} {rest : List Oper} {o : Oper} {a : Act} {w : World} {Q : Exit → Act → World → Prop} (hw : Region.wanted o (yielded ops a.tmps) = true) (x : Operand) (ho : o.op = .load t x)
    (g : Nat) (hx : a.eval x = .pointer (some ⟨g, 0, none⟩)) (cs : Array Value) (hn : cs.size = n) (hr : StB w g t cs)
    (h : wpList Tryd.prog ops Q rest (a.put o.dst (.agg cs)) w) : wpList Tryd.prog ops Q (o :: rest) a w := by
  obtain ⟨⟨fs, hu⟩, hi⟩ := hS
  exact wpList_step fun K hK => by rw [if_pos hw]; exact wp_load_row _ x ho g hx _ _ _ _ hr hu rfl (by rw [hi, hn]) (hK _ _ h)
end Go.Proofs.YteooloceaoinlaaDoor
/- What stands while a house's box is worked on. -/
namespace Go.Proofs.YteooloceaoinlaaDoor
open Go.ChangeShapes Go.WideShapes Go.ChangeAt Go.RowKit

/- What stands while a house's box is worked on: the box, the place of the answer. -/
structure FS (w wx : World) (cs : Array Value) : Prop where
  p : StB wx w.heap.size 34 cs
  r : StB wx (w.heap.size + 1) 34 zeroNd
  b : Below w.heap.size w wx
theorem FS.start (w : World) (cs : Array Value) : FS w ((w.alloc (.cells cs 34)).alloc (.cells zeroNd 34)) cs := by
  have r1 := StB.new (w.alloc (.cells cs 34)) 34 zeroNd
  rw [World.size_alloc] at r1
  exact ⟨(StB.new w _ _).alloc _, r1, ((Below.refl _ _).alloc (Nat.le_refl _) _).alloc (by simp) _⟩
theorem FS.below {w wx wy : World} {cs : Array Value} (h : FS w wx cs) (B : Below wx.heap.size wx wy) : FS w wy cs := ⟨h.p.below B, h.r.below B, h.b.trans (B.mono h.b.size)⟩
theorem FS.put {w wx : World} {cs ds : Array Value} (h : FS w wx cs) (j : Nat) (x : Value) (e : cs.setIfInBounds j x = ds) : FS w (wx.setCell ⟨w.heap.size, j, none⟩ x) ds :=
  ⟨h.p.put j x e, h.r.other _ _ (by show w.heap.size + 1 ≠ w.heap.size; omega), h.b.setCell (Nat.le_refl _) _⟩
theorem FS.lt {w wx : World} {cs : Array Value} (h : FS w wx cs) : w.heap.size + 1 < wx.heap.size := h.r.lt
end Go.Proofs.YteooloceaoinlaaDoor
