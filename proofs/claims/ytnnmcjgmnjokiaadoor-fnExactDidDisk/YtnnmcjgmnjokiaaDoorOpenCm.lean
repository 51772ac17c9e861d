/- What a law is given, opened: a struct of five numbers; how the laws take a command over and compare two. -/
import Derived.Test.YtnnmcjgmnjokiaaDoorCmOk
import Derived.ShutString
import Derived.ChangeOld
import Derived.Below
import Derived.ChangeSame
namespace Go.Proofs.YtnnmcjgmnjokiaaDoor
open Go.ChangeShapes Go.WideShapes Go.ChangeAt Go.RowKit

def Cm.Fit (c : Cm) : Prop := (-9223372036854775808 ≤ c.o ∧ c.o ≤ 9223372036854775807) ∧ (-9223372036854775808 ≤ c.p ∧ c.p ≤ 9223372036854775807) ∧ (-9223372036854775808 ≤ c.a ∧ c.a ≤ 9223372036854775807) ∧ (-9223372036854775808 ≤ c.b ∧ c.b ≤ 9223372036854775807) ∧ (-9223372036854775808 ≤ c.k ∧ c.k ≤ 9223372036854775807)

theorem Tryd.infoLC : (Tryd.prog.info? 44).map (·.size) = some 5 := by kernel_rfl
theorem Tryd.underLC : ∃ fs, Tryd.prog.underlying 44 = some (.struct fs) := ⟨_, Tryd.underlying44⟩
theorem wpList_getLC {ops : Array Oper} {rest : List Oper} {o : Oper} {a : Act} {w : World} {Q : Exit → Act → World → Prop} (hgd : o.guard = none) (x : Operand) (ho : o.op = .load 44 x)
    (g : Nat) (hx : a.eval x = .pointer (some ⟨g, 0, none⟩)) (c : Cm) (hr : CmB w g 44 c)
    (h : wpList Tryd.prog ops Q rest (a.put o.dst (CV c)) w) : wpList Tryd.prog ops Q (o :: rest) a w := by
  obtain ⟨fs, hu⟩ := Tryd.underLC
  exact wpList_load_row hgd _ x ho g hx _ _ _ _ hr hu rfl Tryd.infoLC h

set_option maxRecDepth 20000 in
set_option maxHeartbeats 1000000 in
theorem toCmd_any (c : Cm) (w : World) :
    Calls Tryd.prog 22 #[CV c] w fun e w' => e = .returned (CV c) ∧ Below w.heap.size w w' := by
  unfold CV cmA
  go_enter Tryd.func22, Tryd.ntmps22
  go_wp2_with fail
  refine bodyPost_ret (results_C rfl _ _ (w.heap.size + 1) c rfl ?_) rfl ?_
  · have := (CmB.new (w.alloc (.cells (cmA c) 44)) 28 c).alloc (.cells (cmA c) 28)
    rw [World.size_alloc] at this
    exact this
  · exact ⟨rfl, (((Below.refl _ _).alloc (Nat.le_refl _) _).alloc (by simp) _).alloc (by simp; omega) _⟩

theorem Tryd.cells1 : Tryd.prog.cellsOf 2 = 1 := by kernel_rfl
theorem Tryd.cellsC : Tryd.prog.cellsOf 44 = 5 := by kernel_rfl
theorem five_of {l : List Value} (h : l.length = 5) : ∃ a b c d e, l = [a, b, c, d, e] := by
  match l, h with
  | [a, b, c, d, e], _ => exact ⟨a, b, c, d, e, rfl⟩
set_option maxRecDepth 20000 in
theorem open_one {H : Type} {enc : TypeId × Value → H} {w : World} {base : Nat} {held : Bool} {fuel : Nat} {c : Value} {x : DataW H × List MemPlace}
    (h : DataW.trod enc Tryd.prog w base (fun _ => true) held fuel 2 [c] = some x) : ∃ n : Int, c = .int .i64 n ∧ -9223372036854775808 ≤ n ∧ n ≤ 9223372036854775807 := by
  obtain ⟨n, he, _, hw⟩ := DataW.trod_int Tryd.underlying2 h
  simp at he
  exact ⟨n, he, by simpa [Lit.wf, IntKind.min, IntKind.max, IntKind.signed, IntKind.bits] using hw⟩
set_option maxRecDepth 20000 in
theorem open_cmd {H : Type} {enc : TypeId × Value → H} {w : World} {base b' : Nat} {held : Bool} {v : Value} {d : DataW H} {p : List MemPlace}
    (hv : Value.okWide Tryd.prog w .any base 44 v) (h : DataW.Trod enc Tryd.prog w b' (fun _ => true) held 44 v d p) :
    ∃ c : Cm, v = CV c ∧ c.Fit := by
  obtain ⟨cs, rfl, hsz⟩ := okWide_struct Tryd.underlying44 hv
  rw [Tryd.cellsC] at hsz
  obtain ⟨l⟩ := cs
  obtain ⟨a, b, c, e, f, rfl⟩ := five_of (l := l) (by simpa using hsz)
  obtain ⟨fuel, hf⟩ := h
  obtain ⟨xs, n, _, _, hl, hlen, hf⟩ := DataW.trod_struct Tryd.underlying44 hf
  match xs, hlen with
  | [y0, y1, y2, y3, y4], _ =>
    have h0 := hf 0 _ rfl
    have h1 := hf 1 _ rfl
    have h2 := hf 2 _ rfl
    have h3 := hf 3 _ rfl
    have h4 := hf 4 _ rfl
    simp [Value.cells, Tryd.cells1] at h0 h1 h2 h3 h4
    obtain ⟨n0, rfl, k0⟩ := open_one h0
    obtain ⟨n1, rfl, k1⟩ := open_one h1
    obtain ⟨n2, rfl, k2⟩ := open_one h2
    obtain ⟨n3, rfl, k3⟩ := open_one h3
    obtain ⟨n4, rfl, k4⟩ := open_one h4
    exact ⟨⟨n0, n1, n2, n3, n4⟩, rfl, k0, k1, k2, k3, k4⟩
end Go.Proofs.YtnnmcjgmnjokiaaDoor
