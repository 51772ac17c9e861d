/- What a law is given, opened: a copier, as the form of claims has it. -/
import Derived.Test.YtelfpdjidppblaaLCop
import Derived.Test.YtelfpdjidppblaaOpen
import Derived.ShutString
import Derived.ChangeOld
import Derived.Below
import Derived.ChangeSame
namespace Go.Proofs.Ytelfpdjidppblaa
open Go.ChangeShapes Go.WideShapes Go.ChangeAt Go.RowKit

theorem Try.cellsCp : Try.prog.cellsOf 45 = 5 := by kernel_rfl
theorem Try.cellsBo : Try.prog.cellsOf 4 = 1 := by kernel_rfl
theorem five_vals {l : List Value} (h : l.length = 5) : ∃ a b c d e, l = [a, b, c, d, e] := by
  match l, h with
  | [a, b, c, d, e], _ => exact ⟨a, b, c, d, e, rfl⟩
set_option maxRecDepth 20000 in
theorem open_numC {H : Type} {enc : TypeId × Value → H} {w : World} {base : Nat} {held : Bool} {fuel : Nat} {c : Value} {x : DataW H × List MemPlace}
    (h : DataW.trod enc Try.prog w base (fun _ => true) held fuel 2 [c] = some x) : ∃ n : Int, c = .int .i64 n := by
  obtain ⟨n, he, _, _⟩ := DataW.trod_int Try.underlying2 h
  simp at he
  exact ⟨n, he⟩
set_option maxRecDepth 20000 in
theorem open_boolC {H : Type} {enc : TypeId × Value → H} {w : World} {base : Nat} {held : Bool} {fuel : Nat} {c : Value} {x : DataW H × List MemPlace}
    (h : DataW.trod enc Try.prog w base (fun _ => true) held fuel 4 [c] = some x) : ∃ b : Bool, c = .bool b := by
  obtain ⟨b, he, _⟩ := DataW.trod_bool Try.underlying4 h
  simp at he
  exact ⟨b, he⟩
set_option maxRecDepth 20000 in
theorem open_copier {H : Type} {enc : TypeId × Value → H} {w : World} {base b' : Nat} {held : Bool} {v : Value} {d : DataW H} {p : List MemPlace}
    (hv : Value.okWide Try.prog w .any base 45 v) (h : DataW.Trod enc Try.prog w b' (fun _ => true) held 45 v d p) :
    ∃ (c : Cp) (u : Value), v = CpV u c ∧ Reads w u c.ts := by
  obtain ⟨cs, rfl, hsz⟩ := okWide_struct Try.underlying45 hv
  rw [Try.cellsCp] at hsz
  obtain ⟨l⟩ := cs
  obtain ⟨a, b, c, e, f, rfl⟩ := five_vals (l := l) (by simpa using hsz)
  obtain ⟨fuel, hf⟩ := h
  obtain ⟨xs, n, _, _, hl, hlen, hf⟩ := DataW.trod_struct Try.underlying45 hf
  match xs, hlen with
  | [y0, y1, y2, y3, y4], _ =>
    have h0 := hf 0 _ rfl
    have h1 := hf 1 _ rfl
    have h2 := hf 2 _ rfl
    have h3 := hf 3 _ rfl
    have h4 := hf 4 _ rfl
    simp [Value.cells, Try.cellsI, Try.cellsL, Try.cellsBo] at h0 h1 h2 h3 h4
    obtain ⟨n0, rfl⟩ := open_numC h0
    obtain ⟨o, rfl⟩ := open_boolC h1
    obtain ⟨n2, rfl⟩ := open_numC h2
    obtain ⟨n3, rfl⟩ := open_numC h3
    obtain ⟨ts, hts⟩ := open_list h4
    exact ⟨⟨n0, o, n2, n3, ts⟩, f, rfl, hts⟩
end Go.Proofs.Ytelfpdjidppblaa
