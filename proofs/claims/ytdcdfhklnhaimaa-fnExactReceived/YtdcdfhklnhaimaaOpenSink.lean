/- What a law is given, opened: a sink, as the form of claims has it. -/
import Derived.Test.YtdcdfhklnhaimaaLSink
import Derived.Test.YtdcdfhklnhaimaaOpen
import Derived.ShutString
import Derived.ChangeOld
import Derived.Below
import Derived.ChangeSame
namespace Go.Proofs.Ytdcdfhklnhaimaa
open Go.ChangeShapes Go.WideShapes Go.ChangeAt Go.RowKit

theorem Try.cellsSn : Try.prog.cellsOf 37 = 2 := by kernel_rfl
theorem two_vals {l : List Value} (h : l.length = 2) : ∃ a b, l = [a, b] := by
  match l, h with
  | [a, b], _ => exact ⟨a, b, rfl⟩
set_option maxRecDepth 20000 in
theorem open_numK {H : Type} {enc : TypeId × Value → H} {w : World} {base : Nat} {held : Bool} {fuel : Nat} {c : Value} {x : DataW H × List MemPlace}
    (h : DataW.trod enc Try.prog w base (fun _ => true) held fuel 2 [c] = some x) : ∃ n : Int, c = .int .i64 n := by
  obtain ⟨n, he, _, _⟩ := DataW.trod_int Try.underlying2 h
  simp at he
  exact ⟨n, he⟩
set_option maxRecDepth 20000 in
theorem open_sink {H : Type} {enc : TypeId × Value → H} {w : World} {base b' : Nat} {held : Bool} {v : Value} {d : DataW H} {p : List MemPlace}
    (hv : Value.okWide Try.prog w .any base 37 v) (h : DataW.Trod enc Try.prog w b' (fun _ => true) held 37 v d p) :
    ∃ (c : Sn) (u : Value), v = SnV u c ∧ Reads w u c.ts := by
  obtain ⟨cs, rfl, hsz⟩ := okWide_struct Try.underlying37 hv
  rw [Try.cellsSn] at hsz
  obtain ⟨l⟩ := cs
  obtain ⟨a, f, rfl⟩ := two_vals (l := l) (by simpa using hsz)
  obtain ⟨fuel, hf⟩ := h
  obtain ⟨xs, n, _, _, hl, hlen, hf⟩ := DataW.trod_struct Try.underlying37 hf
  match xs, hlen with
  | [y0, y1], _ =>
    have h0 := hf 0 _ rfl
    have h1 := hf 1 _ rfl
    simp [Value.cells, Try.cellsI, Try.cellsL] at h0 h1
    obtain ⟨n0, rfl⟩ := open_numK h0
    obtain ⟨ts, hts⟩ := open_list h1
    exact ⟨⟨n0, ts⟩, f, rfl, hts⟩
end Go.Proofs.Ytdcdfhklnhaimaa
