/- What a law is given, opened: a list of numbers, and a struct of two of them, as the form of claims has them. -/
import Derived.Test.YtpdggofaobmnlaaLists
import Derived.ShutString
import Derived.ChangeOld
import Derived.Below
import Derived.ChangeSame
import Derived.Test.YtpdggofaobmnlaaLHold
import Derived.Test.YtpdggofaobmnlaaLStore
namespace Go.Proofs.Ytpdggofaobmnlaa
open Go.ChangeShapes Go.WideShapes Go.ChangeAt Go.RowKit

theorem Try.cellsI : Try.prog.cellsOf 2 = 1 := by kernel_rfl
theorem Try.cellsL : Try.prog.cellsOf 24 = 1 := by kernel_rfl

theorem open_list {H : Type} {enc : TypeId × Value → H} {w : World} {base : Nat} {held : Bool} {fuel : Nat} {c : Value} {x : DataW H × List MemPlace}
    (h : DataW.trod enc Try.prog w base (fun _ => true) held fuel 24 [c] = some x) : ∃ xs, Reads w c xs := by
  rcases open_ints Try.underlying24 Try.underlying2 (by kernel_rfl) h with ⟨hcs, _⟩ | ⟨x, l, c', zs, hcs, _, hl, hm, hz, _, hcell, hwz⟩
  · simp at hcs
    subst hcs
    exact ⟨[], none, 0, rfl, Nat.le_refl _, ⟨Nat.zero_le _, fun _ => rfl⟩, .inl rfl⟩
  · simp at hcs
    subst hcs
    obtain ⟨xs, hl, hr⟩ := reads_row (w := w) (a := some x) (len := l) (cap := c') (zs := zs) (.inr ⟨x, rfl, hl, hm, by simpa using hz, hcell, hwz⟩)
    exact ⟨xs, hr⟩

theorem two_of {l : List Value} (h : l.length = 2) : ∃ a b, l = [a, b] := by
  match l, h with
  | [a, b], _ => exact ⟨a, b, rfl⟩

theorem Try.cellsD : Try.prog.cellsOf 42 = 2 := by kernel_rfl

set_option maxRecDepth 20000 in
set_option maxHeartbeats 400000 in
theorem open_disk {H : Type} {enc : TypeId × Value → H} {w : World} {base b' : Nat} {held : Bool} {v : Value} {d : DataW H} {p : List MemPlace}
    (hv : Value.okWide Try.prog w .any base 42 v) (h : DataW.Trod enc Try.prog w b' (fun _ => true) held 42 v d p) :
    ∃ a b xs ys, v = .agg #[a, b] ∧ Reads w a xs ∧ Reads w b ys := by
  obtain ⟨cs, rfl, hsz⟩ := okWide_struct Try.underlying42 hv
  rw [Try.cellsD] at hsz
  obtain ⟨l⟩ := cs
  obtain ⟨a, b, rfl⟩ := two_of (l := l) (by simpa using hsz)
  obtain ⟨fuel, hf⟩ := h
  obtain ⟨y0, y1, m, hx, _, hy0, hy1⟩ := trod_struct2 Try.underlying42 hf
  simp [Value.cells, Try.cellsL] at hy0 hy1
  obtain ⟨xs, hxs⟩ := open_list hy0
  obtain ⟨ys, hys⟩ := open_list hy1
  exact ⟨a, b, xs, ys, rfl, hxs, hys⟩
end Go.Proofs.Ytpdggofaobmnlaa
/- What a law is given, opened: a holding, as the form of claims has it. -/
namespace Go.Proofs.Ytpdggofaobmnlaa
open Go.ChangeShapes Go.WideShapes Go.ChangeAt Go.RowKit

theorem Try.cellsH : Try.prog.cellsOf 43 = 4 := by kernel_rfl
theorem four_vals {l : List Value} (h : l.length = 4) : ∃ a b c d, l = [a, b, c, d] := by
  match l, h with
  | [a, b, c, d], _ => exact ⟨a, b, c, d, rfl⟩
set_option maxRecDepth 20000 in
theorem open_num {H : Type} {enc : TypeId × Value → H} {w : World} {base : Nat} {held : Bool} {fuel : Nat} {c : Value} {x : DataW H × List MemPlace}
    (h : DataW.trod enc Try.prog w base (fun _ => true) held fuel 2 [c] = some x) : ∃ n : Int, c = .int .i64 n ∧ -9223372036854775808 ≤ n ∧ n ≤ 9223372036854775807 := by
  obtain ⟨n, he, _, hw⟩ := DataW.trod_int Try.underlying2 h
  simp at he
  exact ⟨n, he, by simpa [Lit.wf, IntKind.min, IntKind.max, IntKind.signed, IntKind.bits] using hw⟩
set_option maxRecDepth 20000 in
theorem open_holding {H : Type} {enc : TypeId × Value → H} {w : World} {base b' : Nat} {held : Bool} {v : Value} {d : DataW H} {p : List MemPlace}
    (hv : Value.okWide Try.prog w .any base 43 v) (h : DataW.Trod enc Try.prog w b' (fun _ => true) held 43 v d p) :
    ∃ (h : Hd) (u : Value), v = HV u h ∧ Reads w u h.ks := by
  obtain ⟨cs, rfl, hsz⟩ := okWide_struct Try.underlying43 hv
  rw [Try.cellsH] at hsz
  obtain ⟨l⟩ := cs
  obtain ⟨a, b, c, e, rfl⟩ := four_vals (l := l) (by simpa using hsz)
  obtain ⟨fuel, hf⟩ := h
  obtain ⟨xs, n, _, _, hl, hlen, hf⟩ := DataW.trod_struct Try.underlying43 hf
  match xs, hlen with
  | [y0, y1, y2, y3], _ =>
    have h0 := hf 0 _ rfl
    have h1 := hf 1 _ rfl
    have h2 := hf 2 _ rfl
    have h3 := hf 3 _ rfl
    simp [Value.cells, Try.cellsI, Try.cellsL] at h0 h1 h2 h3
    obtain ⟨ks, hks⟩ := open_list h0
    obtain ⟨n1, rfl, k1⟩ := open_num h1
    obtain ⟨n2, rfl, k2⟩ := open_num h2
    obtain ⟨n3, rfl, k3⟩ := open_num h3
    exact ⟨⟨ks, n1, n2, n3⟩, a, rfl, hks⟩
end Go.Proofs.Ytpdggofaobmnlaa
/- What a law is given, opened: a store, as the form of claims has it. -/
namespace Go.Proofs.Ytpdggofaobmnlaa
open Go.ChangeShapes Go.WideShapes Go.ChangeAt Go.RowKit

theorem Try.cellsR : Try.prog.cellsOf 45 = 6 := by kernel_rfl
theorem six_vals {l : List Value} (h : l.length = 6) : ∃ a b c d e f, l = [a, b, c, d, e, f] := by
  match l, h with
  | [a, b, c, d, e, f], _ => exact ⟨a, b, c, d, e, f, rfl⟩
set_option maxRecDepth 20000 in
theorem open_store {H : Type} {enc : TypeId × Value → H} {w : World} {base b' : Nat} {held : Bool} {v : Value} {d : DataW H} {p : List MemPlace}
    (hv : Value.okWide Try.prog w .any base 45 v) (h : DataW.Trod enc Try.prog w b' (fun _ => true) held 45 v d p) :
    ∃ (h : Hd) (a b u : Value) (xs ys : List Int), v = SRV a b u h ∧ Reads w a xs ∧ Reads w b ys ∧ Reads w u h.ks := by
  obtain ⟨cs, rfl, hsz⟩ := okWide_struct Try.underlying45 hv
  rw [Try.cellsR] at hsz
  obtain ⟨l⟩ := cs
  obtain ⟨a, b, c, e, f, g, rfl⟩ := six_vals (l := l) (by simpa using hsz)
  obtain ⟨fuel, hf⟩ := h
  obtain ⟨xs, n, _, _, hl, hlen, hf⟩ := DataW.trod_struct Try.underlying45 hf
  match xs, hlen with
  | [y0, y1], _ =>
    have h0 := hf 0 _ rfl
    have h1 := hf 1 _ rfl
    simp [Value.cells, Try.cellsD, Try.cellsH] at h0 h1
    obtain ⟨zs, m, _, _, _, zlen, hz⟩ := DataW.trod_struct Try.underlying42 h0
    obtain ⟨ts, r, _, _, _, tlen, ht⟩ := DataW.trod_struct Try.underlying43 h1
    match zs, zlen, ts, tlen with
    | [z0, z1], _, [t0, t1, t2, t3], _ =>
      have a0 := hz 0 _ rfl
      have a1 := hz 1 _ rfl
      have b0 := ht 0 _ rfl
      have b1 := ht 1 _ rfl
      have b2 := ht 2 _ rfl
      have b3 := ht 3 _ rfl
      simp [Try.cellsI, Try.cellsL] at a0 a1 b0 b1 b2 b3
      obtain ⟨xs, hxs⟩ := open_list a0
      obtain ⟨ys, hys⟩ := open_list a1
      obtain ⟨ks, hks⟩ := open_list b0
      obtain ⟨n1, rfl, k1⟩ := open_num b1
      obtain ⟨n2, rfl, k2⟩ := open_num b2
      obtain ⟨n3, rfl, k3⟩ := open_num b3
      exact ⟨⟨ks, n1, n2, n3⟩, a, b, c, xs, ys, rfl, hxs, hys, hks⟩
end Go.Proofs.Ytpdggofaobmnlaa
