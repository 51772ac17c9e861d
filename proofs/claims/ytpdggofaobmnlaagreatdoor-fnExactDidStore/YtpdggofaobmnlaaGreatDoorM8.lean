/- How the laws take a store over, measure it, compare two, mark one and look at the marks. -/
import Derived.Test.YtpdggofaobmnlaaGreatDoorM7
import Derived.Deep.DeepCutAuto
import Derived.Test.YtpdggofaobmnlaaGreatDoorM2
import Derived.ShutString
import Derived.ChangeOld
import Derived.Below
import Derived.ChangeSame
import Derived.Test.YtpdggofaobmnlaaGreatDoorM1
import Derived.Laws.Tables
import Derived.Laws.ResultCell
namespace Go.Proofs.YtpdggofaobmnlaaGreatDoor
open Go.ChangeShapes Go.WideShapes Go.ChangeAt Go.RowKit

theorem Tryz.isR : IsS 30 6 := ⟨⟨_, Tryz.underlying30⟩, by kernel_rfl⟩
/- A store's three lists, each in a block of its own. -/
def OwnR (w : World) (base : Nat) (a b k : Value) (xs ys ks : List Int) : Prop := OwnD w base a b xs ys ∧ Own w base k ks ∧ apart a k ∧ apart b k
def zeR : Array Value := #[.slice none 0 0, .slice none 0 0, .slice none 0 0, .int .i64 0, .int .i64 0, .int .i64 0]
theorem srA_one {a b k : Value} (h : Hd) (ha : a.oneCell' = true) (hb : b.oneCell' = true) (hk : k.oneCell' = true) : (srA a b k h).all (·.oneCell') = true := by
  unfold srA
  simp [ha, hb, hk, show ∀ k n, (Value.int k n).oneCell' = true from fun _ _ => rfl]
theorem OwnR.below {w w' : World} {base : Nat} {a b k : Value} {xs ys ks : List Int} (h : OwnR w base a b k xs ys ks) (e : Below w.heap.size w w') : OwnR w' base a b k xs ys ks :=
  ⟨⟨h.1.1.below e, h.1.2.1.below e, h.1.2.2⟩, h.2.1.below e, h.2.2⟩
theorem OwnR.mono {w : World} {base base' : Nat} {a b k : Value} {xs ys ks : List Int} (h : OwnR w base a b k xs ys ks) (e : base' ≤ base) : OwnR w base' a b k xs ys ks :=
  ⟨⟨h.1.1.mono e, h.1.2.1.mono e, h.1.2.2⟩, h.2.1.mono e, h.2.2⟩
theorem OwnR.keptLt {w w' : World} {base g : Nat} {a b k : Value} {xs ys ks : List Int} (h : OwnR w base a b k xs ys ks) (e : w.grownBy w' (some g)) (hg : g < base) : OwnR w' base a b k xs ys ks :=
  ⟨⟨h.1.1.keptLt e hg, h.1.2.1.keptLt e hg, h.1.2.2⟩, h.2.1.keptLt e hg, h.2.2⟩
theorem OwnR.nil (w : World) (base : Nat) : OwnR w base (.slice none 0 0) (.slice none 0 0) (.slice none 0 0) [] [] [] :=
  ⟨⟨Own.nil w base, Own.nil w base, ⟨.inl rfl, .inl rfl⟩⟩, Own.nil w base, ⟨.inl rfl, .inl rfl⟩, ⟨.inl rfl, .inl rfl⟩⟩

set_option maxRecDepth 20000 in
set_option maxHeartbeats 1000000 in
theorem szStore_any (u v q : Value) (xs ys : List Int) (h : Hd) (k : Int) (w : World) (hu : Reads w u xs) (hv : Reads w v ys) (hq : Reads w q h.ks) (h0 : 0 ≤ k) (h1 : k ≤ 1048576) :
    Calls Tryz.prog 20 #[SRV u v q h, .int .i64 k] w fun e w' => e = .returned (.int .i64 (szI k (xs.length + ys.length + h.ks.length))) ∧ Below w.heap.size w w' := by
  have B1 : Hid (Below w.heap.size w (w.alloc (.cells (srA u v q h) 52))) := (Below.refl _ _).alloc (Nat.le_refl _) _
  have P1 : Hid (StB (w.alloc (.cells (srA u v q h) 52)) w.heap.size 52 (srA u v q h)) := StB.new _ _ _
  have c1 := szDisk_any u v xs ys k _ (hu.below B1.out (Nat.le_refl _)) (hv.below B1.out (Nat.le_refl _)) h0 h1
  by_cases hx : ((xs.length + ys.length : Nat) : Int) ≤ k
  · have e1 : szI k (xs.length + ys.length) = k - (xs.length + ys.length : Nat) := by simp only [szI]; rw [if_pos hx]
    have c2 := fun wx (b : Below w.heap.size w wx) => szHolding_any q h (k - (xs.length + ys.length : Nat)) wx (hq.below b (Nat.le_refl _)) (by omega) (by omega)
    have e2 : szI (k - (xs.length + ys.length : Nat)) h.ks.length = szI k (xs.length + ys.length + h.ks.length) := by
      simp only [szI]
      by_cases hk : (h.ks.length : Int) ≤ k - (xs.length + ys.length : Nat)
      · rw [if_pos hk, if_pos (by omega)]; omega
      · rw [if_neg hk, if_neg (by omega)]
    rw [e1] at c1
    rw [e2] at c2
    have hs : szI k (xs.length + ys.length + h.ks.length) = -1 ∨ 0 ≤ szI k (xs.length + ys.length + h.ks.length) := by unfold szI; split <;> omega
    obtain ⟨x, hx'⟩ : ∃ x, x = szI k (xs.length + ys.length + h.ks.length) := ⟨_, rfl⟩
    rw [← hx'] at c2 hs ⊢
    obtain ⟨m, hm⟩ : ∃ m : Int, m = k - (xs.length + ys.length : Nat) := ⟨_, rfl⟩
    rw [← hm] at c1 c2
    have m0 : 0 ≤ m := by omega
    obtain ⟨uo, uc, rfl⟩ := reads_form hu
    obtain ⟨vo, vc, rfl⟩ := reads_form hv
    obtain ⟨qo, qc, rfl⟩ := reads_form hq
    have C2 : Hid _ := c2
    clear c2 hx' hm hu hv hq e1 e2 hx
    unfold SRV srA at *
    unfold HV hdA at C2
    rcases hs with hs | hs
    · subst hs
      go_enter Tryz.func20, Tryz.ntmps20
      go_wp2_with fail
      refine c1.mono ?_
      rintro e w2 ⟨rfl, b2⟩
      have B2 : Hid (Below w.heap.size w w2) := B1.out.trans (b2.mono B1.out.size)
      have P2 := P1.out.below b2
      have k2 := P2.cell 2 rfl
      have k3 := P2.cell 3 rfl
      have k4 := P2.cell 4 rfl
      have k5 := P2.cell 5 rfl
      clear b2 c1 B1 P1 P2
      go_wp2_with fail
      refine (C2.out _ B2.out).mono ?_
      rintro e w3 ⟨rfl, b3⟩
      have B3 : Hid (Below w.heap.size w w3) := B2.out.trans (b3.mono B2.out.size)
      clear b3 k2 k3 k4 k5
      go_wp2
      go_ret
      exact ⟨rfl, B3.out⟩
    · go_enter Tryz.func20, Tryz.ntmps20
      go_wp2_with fail
      refine c1.mono ?_
      rintro e w2 ⟨rfl, b2⟩
      have B2 : Hid (Below w.heap.size w w2) := B1.out.trans (b2.mono B1.out.size)
      have P2 := P1.out.below b2
      have k2 := P2.cell 2 rfl
      have k3 := P2.cell 3 rfl
      have k4 := P2.cell 4 rfl
      have k5 := P2.cell 5 rfl
      clear b2 c1 B1 P1 P2
      go_wp2_with fail
      refine (C2.out _ B2.out).mono ?_
      rintro e w3 ⟨rfl, b3⟩
      have B3 : Hid (Below w.heap.size w w3) := B2.out.trans (b3.mono B2.out.size)
      clear b3 k2 k3 k4 k5
      go_wp2
      go_ret
      exact ⟨rfl, B3.out⟩
  · have e1 : szI k (xs.length + ys.length) = -1 := by simp only [szI]; rw [if_neg hx]
    have e2 : szI k (xs.length + ys.length + h.ks.length) = -1 := by simp only [szI]; rw [if_neg (by omega)]
    rw [e1] at c1
    rw [e2]
    obtain ⟨uo, uc, rfl⟩ := reads_form hu
    obtain ⟨vo, vc, rfl⟩ := reads_form hv
    obtain ⟨qo, qc, rfl⟩ := reads_form hq
    clear hu hv hq e1 e2 hx
    unfold SRV srA at *
    go_enter Tryz.func20, Tryz.ntmps20
    go_wp2_with fail
    refine c1.mono ?_
    rintro e w2 ⟨rfl, b2⟩
    have B2 : Hid (Below w.heap.size w w2) := B1.out.trans (b2.mono B1.out.size)
    clear b2 c1 B1 P1
    go_wp2
    go_ret
    exact ⟨rfl, B2.out⟩
end Go.Proofs.YtpdggofaobmnlaaGreatDoor
/- What a law is given, opened: a list of numbers, and a struct of two of them, as the form of claims has them. -/
namespace Go.Proofs.YtpdggofaobmnlaaGreatDoor
open Go.ChangeShapes Go.WideShapes Go.ChangeAt Go.RowKit

theorem Tryz.cellsI : Tryz.prog.cellsOf 2 = 1 := by kernel_rfl
theorem Tryz.cellsL : Tryz.prog.cellsOf 24 = 1 := by kernel_rfl

theorem open_list {H : Type} {enc : TypeId × Value → H} {w : World} {base : Nat} {held : Bool} {fuel : Nat} {c : Value} {x : DataW H × List MemPlace}
    (h : DataW.trod enc Tryz.prog w base (fun _ => true) held fuel 24 [c] = some x) : ∃ xs, Reads w c xs := by
  rcases open_ints Tryz.underlying24 Tryz.underlying2 (by kernel_rfl) h with ⟨hcs, _⟩ | ⟨x, l, c', zs, hcs, _, hl, hm, hz, _, hcell, hwz⟩
  · simp at hcs
    subst hcs
    exact ⟨[], none, 0, rfl, Nat.le_refl _, ⟨Nat.zero_le _, fun _ => rfl⟩, .inl rfl⟩
  · simp at hcs
    subst hcs
    obtain ⟨xs, hl, hr⟩ := reads_row (w := w) (a := some x) (len := l) (cap := c') (zs := zs) (.inr ⟨x, rfl, hl, hm, by simpa using hz, hcell, hwz⟩)
    exact ⟨xs, hr⟩

theorem two_of {l : List Value} (h : l.length = 2) : ∃ a b, l = [a, b] := by
  match l, h with
  | [a, b], _ => exact ⟨a, b, rfl⟩

theorem Tryz.cellsD : Tryz.prog.cellsOf 49 = 2 := by kernel_rfl

set_option maxRecDepth 20000 in
set_option maxHeartbeats 400000 in
theorem open_disk {H : Type} {enc : TypeId × Value → H} {w : World} {base b' : Nat} {held : Bool} {v : Value} {d : DataW H} {p : List MemPlace}
    (hv : Value.okWide Tryz.prog w .any base 49 v) (h : DataW.Trod enc Tryz.prog w b' (fun _ => true) held 49 v d p) :
    ∃ a b xs ys, v = .agg #[a, b] ∧ Reads w a xs ∧ Reads w b ys := by
  obtain ⟨cs, rfl, hsz⟩ := okWide_struct Tryz.underlying49 hv
  rw [Tryz.cellsD] at hsz
  obtain ⟨l⟩ := cs
  obtain ⟨a, b, rfl⟩ := two_of (l := l) (by simpa using hsz)
  obtain ⟨fuel, hf⟩ := h
  obtain ⟨y0, y1, m, hx, _, hy0, hy1⟩ := trod_struct2 Tryz.underlying49 hf
  simp [Value.cells, Tryz.cellsL] at hy0 hy1
  obtain ⟨xs, hxs⟩ := open_list hy0
  obtain ⟨ys, hys⟩ := open_list hy1
  exact ⟨a, b, xs, ys, rfl, hxs, hys⟩
end Go.Proofs.YtpdggofaobmnlaaGreatDoor
/- What a law is given, opened: a holding, as the form of claims has it. -/
namespace Go.Proofs.YtpdggofaobmnlaaGreatDoor
open Go.ChangeShapes Go.WideShapes Go.ChangeAt Go.RowKit

theorem Tryz.cellsH : Tryz.prog.cellsOf 50 = 4 := by kernel_rfl
theorem four_vals {l : List Value} (h : l.length = 4) : ∃ a b c d, l = [a, b, c, d] := by
  match l, h with
  | [a, b, c, d], _ => exact ⟨a, b, c, d, rfl⟩
set_option maxRecDepth 20000 in
theorem open_num {H : Type} {enc : TypeId × Value → H} {w : World} {base : Nat} {held : Bool} {fuel : Nat} {c : Value} {x : DataW H × List MemPlace}
    (h : DataW.trod enc Tryz.prog w base (fun _ => true) held fuel 2 [c] = some x) : ∃ n : Int, c = .int .i64 n ∧ -9223372036854775808 ≤ n ∧ n ≤ 9223372036854775807 := by
  obtain ⟨n, he, _, hw⟩ := DataW.trod_int Tryz.underlying2 h
  simp at he
  exact ⟨n, he, by simpa [Lit.wf, IntKind.min, IntKind.max, IntKind.signed, IntKind.bits] using hw⟩
set_option maxRecDepth 20000 in
theorem open_holding {H : Type} {enc : TypeId × Value → H} {w : World} {base b' : Nat} {held : Bool} {v : Value} {d : DataW H} {p : List MemPlace}
    (hv : Value.okWide Tryz.prog w .any base 50 v) (h : DataW.Trod enc Tryz.prog w b' (fun _ => true) held 50 v d p) :
    ∃ (h : Hd) (u : Value), v = HV u h ∧ Reads w u h.ks := by
  obtain ⟨cs, rfl, hsz⟩ := okWide_struct Tryz.underlying50 hv
  rw [Tryz.cellsH] at hsz
  obtain ⟨l⟩ := cs
  obtain ⟨a, b, c, e, rfl⟩ := four_vals (l := l) (by simpa using hsz)
  obtain ⟨fuel, hf⟩ := h
  obtain ⟨xs, n, _, _, hl, hlen, hf⟩ := DataW.trod_struct Tryz.underlying50 hf
  match xs, hlen with
  | [y0, y1, y2, y3], _ =>
    have h0 := hf 0 _ rfl
    have h1 := hf 1 _ rfl
    have h2 := hf 2 _ rfl
    have h3 := hf 3 _ rfl
    simp [Value.cells, Tryz.cellsI, Tryz.cellsL] at h0 h1 h2 h3
    obtain ⟨ks, hks⟩ := open_list h0
    obtain ⟨n1, rfl, k1⟩ := open_num h1
    obtain ⟨n2, rfl, k2⟩ := open_num h2
    obtain ⟨n3, rfl, k3⟩ := open_num h3
    exact ⟨⟨ks, n1, n2, n3⟩, a, rfl, hks⟩
end Go.Proofs.YtpdggofaobmnlaaGreatDoor
/- What a law is given, opened: a store, as the form of claims has it. -/
namespace Go.Proofs.YtpdggofaobmnlaaGreatDoor
open Go.ChangeShapes Go.WideShapes Go.ChangeAt Go.RowKit

theorem Tryz.cellsR : Tryz.prog.cellsOf 52 = 6 := by kernel_rfl
theorem six_vals {l : List Value} (h : l.length = 6) : ∃ a b c d e f, l = [a, b, c, d, e, f] := by
  match l, h with
  | [a, b, c, d, e, f], _ => exact ⟨a, b, c, d, e, f, rfl⟩
set_option maxRecDepth 20000 in
theorem open_store {H : Type} {enc : TypeId × Value → H} {w : World} {base b' : Nat} {held : Bool} {v : Value} {d : DataW H} {p : List MemPlace}
    (hv : Value.okWide Tryz.prog w .any base 52 v) (h : DataW.Trod enc Tryz.prog w b' (fun _ => true) held 52 v d p) :
    ∃ (h : Hd) (a b u : Value) (xs ys : List Int), v = SRV a b u h ∧ Reads w a xs ∧ Reads w b ys ∧ Reads w u h.ks := by
  obtain ⟨cs, rfl, hsz⟩ := okWide_struct Tryz.underlying52 hv
  rw [Tryz.cellsR] at hsz
  obtain ⟨l⟩ := cs
  obtain ⟨a, b, c, e, f, g, rfl⟩ := six_vals (l := l) (by simpa using hsz)
  obtain ⟨fuel, hf⟩ := h
  obtain ⟨xs, n, _, _, hl, hlen, hf⟩ := DataW.trod_struct Tryz.underlying52 hf
  match xs, hlen with
  | [y0, y1], _ =>
    have h0 := hf 0 _ rfl
    have h1 := hf 1 _ rfl
    simp [Value.cells, Tryz.cellsD, Tryz.cellsH] at h0 h1
    obtain ⟨zs, m, _, _, _, zlen, hz⟩ := DataW.trod_struct Tryz.underlying49 h0
    obtain ⟨ts, r, _, _, _, tlen, ht⟩ := DataW.trod_struct Tryz.underlying50 h1
    match zs, zlen, ts, tlen with
    | [z0, z1], _, [t0, t1, t2, t3], _ =>
      have a0 := hz 0 _ rfl
      have a1 := hz 1 _ rfl
      have b0 := ht 0 _ rfl
      have b1 := ht 1 _ rfl
      have b2 := ht 2 _ rfl
      have b3 := ht 3 _ rfl
      simp [Tryz.cellsI, Tryz.cellsL] at a0 a1 b0 b1 b2 b3
      obtain ⟨xs, hxs⟩ := open_list a0
      obtain ⟨ys, hys⟩ := open_list a1
      obtain ⟨ks, hks⟩ := open_list b0
      obtain ⟨n1, rfl, k1⟩ := open_num b1
      obtain ⟨n2, rfl, k2⟩ := open_num b2
      obtain ⟨n3, rfl, k3⟩ := open_num b3
      exact ⟨⟨ks, n1, n2, n3⟩, a, b, c, xs, ys, rfl, hxs, hys, hks⟩
end Go.Proofs.YtpdggofaobmnlaaGreatDoor
/- A command in a block of five cells: loads, stores and answers of the whole struct. -/
namespace Go.Proofs.YtpdggofaobmnlaaGreatDoor
open Go.ChangeShapes Go.WideShapes Go.ChangeAt Go.RowKit

def cmA (c : Cm) : Array Value := #[.int .i64 c.o, .int .i64 c.p, .int .i64 c.a, .int .i64 c.b, .int .i64 c.k]
def CV (c : Cm) : Value := .agg (cmA c)

def sumN (l : Bs) (j : Nat) : Int := (l.take j).foldl (fun n b => n + byteI b) 0
theorem sumN_step (l : Bs) (j : Nat) (h : j < l.length) : sumN l (j + 1) = sumN l j + byteI (l.getD j 0) := by
  unfold sumN
  rw [take_snocB l j h, List.foldl_append]
  simp [h]
theorem sumN_bd (l : Bs) (j : Nat) : 0 ≤ sumN l j ∧ sumN l j ≤ 256 * j := by
  induction j with
  | zero => simp [sumN]
  | succ j ih =>
    by_cases h : j < l.length
    · have := byteI_bd (l.getD j 0)
      rw [sumN_step l j h]; omega
    · have : sumN l (j + 1) = sumN l j := by unfold sumN; rw [List.take_of_length_le (by omega), List.take_of_length_le (by omega)]
      rw [this]; omega

/- Block g holds the command c. -/
def CmB (w : World) (g : Nat) (t : TypeId) (c : Cm) : Prop := w.heap[g]? = some (.cells (cmA c) t (0, 0))
theorem CmB.lt {w : World} {g : Nat} {t : TypeId} {c : Cm} (h : CmB w g t c) : g < w.heap.size := by
  rcases Nat.lt_or_ge g w.heap.size with hlt | hge
  · exact hlt
  · rw [CmB, Array.getElem?_eq_none hge] at h; cases h
theorem CmB.new (w : World) (t : TypeId) (c : Cm) : CmB (w.alloc (.cells (cmA c) t)) w.heap.size t c := heap_alloc_new w _
theorem CmB.below {w w' : World} {g : Nat} {t : TypeId} {c : Cm} (h : CmB w g t c) (hb : Below w.heap.size w w') : CmB w' g t c := (hb.block g h.lt).trans h
theorem CmB.kept {w w' : World} {g : Nat} {t : TypeId} {c : Cm} {row : Option Nat} (h : CmB w g t c) (hg : w.grownBy w' row) (hne : some g ≠ row) : CmB w' g t c := (hg.block g h.lt hne).trans h
theorem CmB.alloc {w : World} {g : Nat} {t : TypeId} {c : Cm} (h : CmB w g t c) (o : Obj) : CmB (w.alloc o) g t c := (Below.heap_alloc w o g h.lt).trans h
theorem CmB.cell {w : World} {g : Nat} {t : TypeId} {c : Cm} (h : CmB w g t c) (j : Nat) {x : Value} (e : (cmA c)[j]? = some x) : w.cell? ⟨g, j, none⟩ = some x := by rw [cell_of_row w g j _ _ _ h, e]
theorem CmB.frozen {w : World} {g : Nat} {t : TypeId} {c : Cm} (h : CmB w g t c) (j : Nat) : w.frozen? ⟨g, j, none⟩ = false := frozen_of_row w g j _ _ h
theorem grownRowC (w : World) (g : Nat) (cs : Array Value) : w.grownBy (w.setRow g cs) (some g) :=
  ⟨rfl, rfl, rfl, by simp, fun k _ hne => _root_.Go.setRow_other w g k cs (fun e => hne (by rw [e]))⟩
theorem cmA_one (c : Cm) : (cmA c).all (·.oneCell') = true := by simp [cmA, Value.oneCell']

theorem Tryz.infoC : (Tryz.prog.info? 32).map (·.size) = some 5 := by kernel_rfl
theorem Tryz.underC : ∃ fs, Tryz.prog.underlying 32 = some (.struct fs) := ⟨_, Tryz.underlying32⟩
theorem wpList_getC {ops : Array Oper} {rest : List Oper} {o : Oper} {a : Act} {w : World} {Q : Exit → Act → World → Prop} (hgd : o.guard = none) (x : Operand) (ho : o.op = .load 32 x)
    (g : Nat) (hx : a.eval x = .pointer (some ⟨g, 0, none⟩)) (c : Cm) (hr : CmB w g 32 c)
    (h : wpList Tryz.prog ops Q rest (a.put o.dst (CV c)) w) : wpList Tryz.prog ops Q (o :: rest) a w := by
  obtain ⟨fs, hu⟩ := Tryz.underC
  exact wpList_load_row hgd _ x ho g hx _ _ _ _ hr hu rfl Tryz.infoC h
theorem wpList_putC {ops : Array Oper} {rest : List Oper} {o : Oper} {a : Act} {w : World} {Q : Exit → Act → World → Prop} (hgd : o.guard = none) (x y : Operand) (ho : o.op = .store 32 x y)
    (g : Nat) (c c' : Cm) (hx : a.eval x = .pointer (some ⟨g, 0, none⟩)) (hy : a.eval y = CV c) (hr : CmB w g 32 c')
    (h : ∀ w', CmB w' g 32 c → w.grownBy w' (some g) → wpList Tryz.prog ops Q rest (a.put o.dst undef) w') : wpList Tryz.prog ops Q (o :: rest) a w :=
  wpList_store_row hgd _ x y ho g (cmA c) hx hy _ _ hr Tryz.infoC rfl (cmA_one c) (h _ (setRow_heap w g _ _ _ _ hr) (grownRowC w g _))
theorem results_C {fn : Func} {p : Tmp} (h : fn.results = #[.cell p 32]) (tmps : Array Value) (w : World) (g : Nat) (c : Cm)
    (hp : tmps.getD p undef = .pointer (some ⟨g, 0, none⟩)) (hr : CmB w g 32 c) : (results fn tmps).run Tryz.prog w = .ok (CV c) w := by
  obtain ⟨fs, hu⟩ := Tryz.underC
  exact results_cell_row h tmps w g _ _ _ _ hp hr hu rfl Tryz.infoC
theorem results_C2 {fn : Func} {p q : Tmp} (h : fn.results = #[.cell p 32, .tmp q]) (tmps : Array Value) (w : World) (g : Nat) (c : Cm) (x : Value)
    (hp : tmps.getD p undef = .pointer (some ⟨g, 0, none⟩)) (hx : tmps.getD q undef = x) (hr : CmB w g 32 c) : (results fn tmps).run Tryz.prog w = .ok (.tuple #[CV c, x]) w := by
  obtain ⟨fs, hu⟩ := Tryz.underC
  rw [results_cell_tmp h, hp, hx]
  simp only [asAddr, Sem.run_pure, Result.andThen_ok]
  rw [run_loadVar_row w g _ _ _ _ _ hr hu rfl Tryz.infoC]
  rfl
theorem results_CC {fn : Func} {p q : Tmp} (h : fn.results = #[.cell p 32, .cell q 32]) (tmps : Array Value) (w : World) (g k : Nat) (c d : Cm)
    (hp : tmps.getD p undef = .pointer (some ⟨g, 0, none⟩)) (hq : tmps.getD q undef = .pointer (some ⟨k, 0, none⟩)) (hc : CmB w g 32 c) (hd : CmB w k 32 d) : (results fn tmps).run Tryz.prog w = .ok (.tuple #[CV c, CV d]) w := by
  obtain ⟨fs, hu⟩ := Tryz.underC
  have h1 := run_loadVar_row w g _ _ _ _ _ hc hu rfl Tryz.infoC
  have h2 := run_loadVar_row w k _ _ _ _ _ hd hu rfl Tryz.infoC
  have hp' : tmps[p]?.getD undef = .pointer (some ⟨g, 0, none⟩) := by simpa using hp
  have hq' : tmps[q]?.getD undef = .pointer (some ⟨k, 0, none⟩) := by simpa using hq
  simp [results, h, hp', hq', asAddr, h1, h2]
  exact ⟨rfl, rfl⟩
theorem code_short {s : Bs} (h : s.length < 8) : codeC s = 1 ∧ readC s = Cm.zero := by
  have : codeC s = 1 := by unfold codeC; rw [if_pos h]
  exact ⟨this, readC_not (by rw [this]; decide)⟩
theorem code_long {s : Bs} (h : 8 < s.length) : codeC s = 2 ∧ readC s = Cm.zero := by
  have : codeC s = 2 := by unfold codeC; rw [if_neg (by omega), if_pos h]
  exact ⟨this, readC_not (by rw [this]; decide)⟩
theorem code_sum {s : Bs} (h : s.length = 8) (h2 : byteI (s.getD 7 0) ≠ sumI (s.take 7)) : codeC s = 3 ∧ readC s = Cm.zero := by
  have : codeC s = 3 := by unfold codeC; rw [if_neg (by omega), if_neg (by omega), if_pos h2]
  exact ⟨this, readC_not (by rw [this]; decide)⟩
theorem code_op {s : Bs} (h : s.length = 8) (h2 : byteI (s.getD 7 0) = sumI (s.take 7)) (h3 : inI (cmOf s).o 1 12 = false) : codeC s = 4 ∧ readC s = Cm.zero := by
  have : codeC s = 4 := by unfold codeC; rw [if_neg (by omega), if_neg (by omega), if_neg (by simpa using h2), if_pos h3]
  exact ⟨this, readC_not (by rw [this]; decide)⟩
theorem code_field {s : Bs} (h : s.length = 8) (h2 : byteI (s.getD 7 0) = sumI (s.take 7)) (h3 : inI (cmOf s).o 1 12 = true) (h4 : (cmOf s).ok = false) : codeC s = 5 ∧ readC s = Cm.zero := by
  have : codeC s = 5 := by unfold codeC; rw [if_neg (by omega), if_neg (by omega), if_neg (by simpa using h2), if_neg (by rw [h3]; decide), if_pos h4]
  exact ⟨this, readC_not (by rw [this]; decide)⟩
theorem code_ok {s : Bs} (h : s.length = 8) (h2 : byteI (s.getD 7 0) = sumI (s.take 7)) (h4 : (cmOf s).ok = true) : codeC s = 0 ∧ readC s = cmOf s := by
  have : codeC s = 0 := by unfold codeC; rw [if_neg (by omega), if_neg (by omega), if_neg (by simpa using h2), if_neg (by rw [told_op h4]; decide), if_neg (by rw [h4]; decide)]
  exact ⟨this, by unfold readC; rw [if_pos this]⟩
end Go.Proofs.YtpdggofaobmnlaaGreatDoor
