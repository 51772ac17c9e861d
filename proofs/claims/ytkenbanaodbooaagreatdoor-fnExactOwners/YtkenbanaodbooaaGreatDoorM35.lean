/- What a law is given, opened: a list of numbers, and a struct of two of them, as the form of claims has them. -/
import Derived.Test.YtkenbanaodbooaaGreatDoorM2
import Derived.ShutString
import Derived.ChangeOld
import Derived.Below
import Derived.ChangeSame
import Derived.Test.YtkenbanaodbooaaGreatDoorM18
import Derived.Test.YtkenbanaodbooaaGreatDoorM27
import Derived.Test.YtkenbanaodbooaaGreatDoorM15
import Derived.Test.YtkenbanaodbooaaGreatDoorM28
import Derived.Test.YtkenbanaodbooaaGreatDoorLPost
import Derived.Deep.Slices
namespace Go.Proofs.YtkenbanaodbooaaGreatDoor
open Go.ChangeShapes Go.WideShapes Go.ChangeAt Go.RowKit

theorem Tryz.cellsI : Tryz.prog.cellsOf 2 = 1 := by kernel_rfl
theorem Tryz.cellsL : Tryz.prog.cellsOf 42 = 1 := by kernel_rfl

theorem open_list {H : Type} {enc : TypeId × Value → H} {w : World} {base : Nat} {held : Bool} {fuel : Nat} {c : Value} {x : DataW H × List MemPlace}
    (h : DataW.trod enc Tryz.prog w base (fun _ => true) held fuel 42 [c] = some x) : ∃ xs, Reads w c xs := by
  rcases open_ints Tryz.underlying42 Tryz.underlying2 (by kernel_rfl) h with ⟨hcs, _⟩ | ⟨x, l, c', zs, hcs, _, hl, hm, hz, _, hcell, hwz⟩
  · simp at hcs
    subst hcs
    exact ⟨[], none, 0, rfl, Nat.le_refl _, ⟨Nat.zero_le _, fun _ => rfl⟩, .inl rfl⟩
  · simp at hcs
    subst hcs
    obtain ⟨xs, hl, hr⟩ := reads_row (w := w) (a := some x) (len := l) (cap := c') (zs := zs) (.inr ⟨x, rfl, hl, hm, by simpa using hz, hcell, hwz⟩)
    exact ⟨xs, hr⟩

theorem two_of {l : List Value} (h : l.length = 2) : ∃ a b, l = [a, b] := by
  match l, h with
  | [a, b], _ => exact ⟨a, b, rfl⟩

theorem Tryz.cellsD : Tryz.prog.cellsOf 71 = 2 := by kernel_rfl

set_option maxRecDepth 20000 in
set_option maxHeartbeats 400000 in
theorem open_disk {H : Type} {enc : TypeId × Value → H} {w : World} {base b' : Nat} {held : Bool} {v : Value} {d : DataW H} {p : List MemPlace}
    (hv : Value.okWide Tryz.prog w .any base 71 v) (h : DataW.Trod enc Tryz.prog w b' (fun _ => true) held 71 v d p) :
    ∃ a b xs ys, v = .agg #[a, b] ∧ Reads w a xs ∧ Reads w b ys := by
  obtain ⟨cs, rfl, hsz⟩ := okWide_struct Tryz.underlying71 hv
  rw [Tryz.cellsD] at hsz
  obtain ⟨l⟩ := cs
  obtain ⟨a, b, rfl⟩ := two_of (l := l) (by simpa using hsz)
  obtain ⟨fuel, hf⟩ := h
  obtain ⟨y0, y1, m, hx, _, hy0, hy1⟩ := trod_struct2 Tryz.underlying71 hf
  simp [Value.cells, Tryz.cellsL] at hy0 hy1
  obtain ⟨xs, hxs⟩ := open_list hy0
  obtain ⟨ys, hys⟩ := open_list hy1
  exact ⟨a, b, xs, ys, rfl, hxs, hys⟩
end Go.Proofs.YtkenbanaodbooaaGreatDoor
/- What a law is given, opened: a holding, as the form of claims has it. -/
namespace Go.Proofs.YtkenbanaodbooaaGreatDoor
open Go.ChangeShapes Go.WideShapes Go.ChangeAt Go.RowKit

theorem Tryz.cellsH : Tryz.prog.cellsOf 72 = 4 := by kernel_rfl
theorem four_vals {l : List Value} (h : l.length = 4) : ∃ a b c d, l = [a, b, c, d] := by
  match l, h with
  | [a, b, c, d], _ => exact ⟨a, b, c, d, rfl⟩
set_option maxRecDepth 20000 in
theorem open_num {H : Type} {enc : TypeId × Value → H} {w : World} {base : Nat} {held : Bool} {fuel : Nat} {c : Value} {x : DataW H × List MemPlace}
    (h : DataW.trod enc Tryz.prog w base (fun _ => true) held fuel 2 [c] = some x) : ∃ n : Int, c = .int .i64 n ∧ -9223372036854775808 ≤ n ∧ n ≤ 9223372036854775807 := by
  obtain ⟨n, he, _, hw⟩ := DataW.trod_int Tryz.underlying2 h
  simp at he
  exact ⟨n, he, by simpa [Lit.wf, IntKind.min, IntKind.max, IntKind.signed, IntKind.bits] using hw⟩
set_option maxRecDepth 20000 in
theorem open_holding {H : Type} {enc : TypeId × Value → H} {w : World} {base b' : Nat} {held : Bool} {v : Value} {d : DataW H} {p : List MemPlace}
    (hv : Value.okWide Tryz.prog w .any base 72 v) (h : DataW.Trod enc Tryz.prog w b' (fun _ => true) held 72 v d p) :
    ∃ (h : Hd) (u : Value), v = HV u h ∧ Reads w u h.ks := by
  obtain ⟨cs, rfl, hsz⟩ := okWide_struct Tryz.underlying72 hv
  rw [Tryz.cellsH] at hsz
  obtain ⟨l⟩ := cs
  obtain ⟨a, b, c, e, rfl⟩ := four_vals (l := l) (by simpa using hsz)
  obtain ⟨fuel, hf⟩ := h
  obtain ⟨xs, n, _, _, hl, hlen, hf⟩ := DataW.trod_struct Tryz.underlying72 hf
  match xs, hlen with
  | [y0, y1, y2, y3], _ =>
    have h0 := hf 0 _ rfl
    have h1 := hf 1 _ rfl
    have h2 := hf 2 _ rfl
    have h3 := hf 3 _ rfl
    simp [Value.cells, Tryz.cellsI, Tryz.cellsL] at h0 h1 h2 h3
    obtain ⟨ks, hks⟩ := open_list h0
    obtain ⟨n1, rfl, k1⟩ := open_num h1
    obtain ⟨n2, rfl, k2⟩ := open_num h2
    obtain ⟨n3, rfl, k3⟩ := open_num h3
    exact ⟨⟨ks, n1, n2, n3⟩, a, rfl, hks⟩
end Go.Proofs.YtkenbanaodbooaaGreatDoor
/- What a law is given, opened: a copier, as the form of claims has it. -/
namespace Go.Proofs.YtkenbanaodbooaaGreatDoor
open Go.ChangeShapes Go.WideShapes Go.ChangeAt Go.RowKit

theorem Tryz.cellsCp : Tryz.prog.cellsOf 74 = 5 := by kernel_rfl
theorem Tryz.cellsBo : Tryz.prog.cellsOf 4 = 1 := by kernel_rfl
theorem five_vals {l : List Value} (h : l.length = 5) : ∃ a b c d e, l = [a, b, c, d, e] := by
  match l, h with
  | [a, b, c, d, e], _ => exact ⟨a, b, c, d, e, rfl⟩
set_option maxRecDepth 20000 in
theorem open_numC {H : Type} {enc : TypeId × Value → H} {w : World} {base : Nat} {held : Bool} {fuel : Nat} {c : Value} {x : DataW H × List MemPlace}
    (h : DataW.trod enc Tryz.prog w base (fun _ => true) held fuel 2 [c] = some x) : ∃ n : Int, c = .int .i64 n := by
  obtain ⟨n, he, _, _⟩ := DataW.trod_int Tryz.underlying2 h
  simp at he
  exact ⟨n, he⟩
set_option maxRecDepth 20000 in
theorem open_boolC {H : Type} {enc : TypeId × Value → H} {w : World} {base : Nat} {held : Bool} {fuel : Nat} {c : Value} {x : DataW H × List MemPlace}
    (h : DataW.trod enc Tryz.prog w base (fun _ => true) held fuel 4 [c] = some x) : ∃ b : Bool, c = .bool b := by
  obtain ⟨b, he, _⟩ := DataW.trod_bool Tryz.underlying4 h
  simp at he
  exact ⟨b, he⟩
set_option maxRecDepth 20000 in
theorem open_copier {H : Type} {enc : TypeId × Value → H} {w : World} {base b' : Nat} {held : Bool} {v : Value} {d : DataW H} {p : List MemPlace}
    (hv : Value.okWide Tryz.prog w .any base 74 v) (h : DataW.Trod enc Tryz.prog w b' (fun _ => true) held 74 v d p) :
    ∃ (c : Cp) (u : Value), v = CpV u c ∧ Reads w u c.ts := by
  obtain ⟨cs, rfl, hsz⟩ := okWide_struct Tryz.underlying74 hv
  rw [Tryz.cellsCp] at hsz
  obtain ⟨l⟩ := cs
  obtain ⟨a, b, c, e, f, rfl⟩ := five_vals (l := l) (by simpa using hsz)
  obtain ⟨fuel, hf⟩ := h
  obtain ⟨xs, n, _, _, hl, hlen, hf⟩ := DataW.trod_struct Tryz.underlying74 hf
  match xs, hlen with
  | [y0, y1, y2, y3, y4], _ =>
    have h0 := hf 0 _ rfl
    have h1 := hf 1 _ rfl
    have h2 := hf 2 _ rfl
    have h3 := hf 3 _ rfl
    have h4 := hf 4 _ rfl
    simp [Value.cells, Tryz.cellsI, Tryz.cellsL, Tryz.cellsBo] at h0 h1 h2 h3 h4
    obtain ⟨n0, rfl⟩ := open_numC h0
    obtain ⟨o, rfl⟩ := open_boolC h1
    obtain ⟨n2, rfl⟩ := open_numC h2
    obtain ⟨n3, rfl⟩ := open_numC h3
    obtain ⟨ts, hts⟩ := open_list h4
    exact ⟨⟨n0, o, n2, n3, ts⟩, f, rfl, hts⟩
end Go.Proofs.YtkenbanaodbooaaGreatDoor
/- What a law is given, opened: a sink, as the form of claims has it. -/
namespace Go.Proofs.YtkenbanaodbooaaGreatDoor
open Go.ChangeShapes Go.WideShapes Go.ChangeAt Go.RowKit

theorem Tryz.cellsSn : Tryz.prog.cellsOf 75 = 2 := by kernel_rfl
theorem two_vals {l : List Value} (h : l.length = 2) : ∃ a b, l = [a, b] := by
  match l, h with
  | [a, b], _ => exact ⟨a, b, rfl⟩
set_option maxRecDepth 20000 in
theorem open_numK {H : Type} {enc : TypeId × Value → H} {w : World} {base : Nat} {held : Bool} {fuel : Nat} {c : Value} {x : DataW H × List MemPlace}
    (h : DataW.trod enc Tryz.prog w base (fun _ => true) held fuel 2 [c] = some x) : ∃ n : Int, c = .int .i64 n := by
  obtain ⟨n, he, _, _⟩ := DataW.trod_int Tryz.underlying2 h
  simp at he
  exact ⟨n, he⟩
set_option maxRecDepth 20000 in
theorem open_sink {H : Type} {enc : TypeId × Value → H} {w : World} {base b' : Nat} {held : Bool} {v : Value} {d : DataW H} {p : List MemPlace}
    (hv : Value.okWide Tryz.prog w .any base 75 v) (h : DataW.Trod enc Tryz.prog w b' (fun _ => true) held 75 v d p) :
    ∃ (c : Sn) (u : Value), v = SnV u c ∧ Reads w u c.ts := by
  obtain ⟨cs, rfl, hsz⟩ := okWide_struct Tryz.underlying75 hv
  rw [Tryz.cellsSn] at hsz
  obtain ⟨l⟩ := cs
  obtain ⟨a, f, rfl⟩ := two_vals (l := l) (by simpa using hsz)
  obtain ⟨fuel, hf⟩ := h
  obtain ⟨xs, n, _, _, hl, hlen, hf⟩ := DataW.trod_struct Tryz.underlying75 hf
  match xs, hlen with
  | [y0, y1], _ =>
    have h0 := hf 0 _ rfl
    have h1 := hf 1 _ rfl
    simp [Value.cells, Tryz.cellsI, Tryz.cellsL] at h0 h1
    obtain ⟨n0, rfl⟩ := open_numK h0
    obtain ⟨ts, hts⟩ := open_list h1
    exact ⟨⟨n0, ts⟩, f, rfl, hts⟩
end Go.Proofs.YtkenbanaodbooaaGreatDoor
/- What a law is given, opened: a struct of four numbers, as the form of claims has it. -/
namespace Go.Proofs.YtkenbanaodbooaaGreatDoor
open Go.ChangeShapes Go.WideShapes Go.ChangeAt Go.RowKit

theorem Tryz.cells1 : Tryz.prog.cellsOf 2 = 1 := by kernel_rfl
theorem Tryz.cellsR : Tryz.prog.cellsOf 73 = 4 := by kernel_rfl
theorem four_of {l : List Value} (h : l.length = 4) : ∃ a b c d, l = [a, b, c, d] := by
  match l, h with
  | [a, b, c, d], _ => exact ⟨a, b, c, d, rfl⟩
set_option maxRecDepth 20000 in
theorem open_one {H : Type} {enc : TypeId × Value → H} {w : World} {base : Nat} {held : Bool} {fuel : Nat} {c : Value} {x : DataW H × List MemPlace}
    (h : DataW.trod enc Tryz.prog w base (fun _ => true) held fuel 2 [c] = some x) : ∃ n : Int, c = .int .i64 n ∧ -9223372036854775808 ≤ n ∧ n ≤ 9223372036854775807 := by
  obtain ⟨n, he, _, hw⟩ := DataW.trod_int Tryz.underlying2 h
  simp at he
  exact ⟨n, he, by simpa [Lit.wf, IntKind.min, IntKind.max, IntKind.signed, IntKind.bits] using hw⟩
set_option maxRecDepth 20000 in
theorem open_record {H : Type} {enc : TypeId × Value → H} {w : World} {base b' : Nat} {held : Bool} {v : Value} {d : DataW H} {p : List MemPlace}
    (hv : Value.okWide Tryz.prog w .any base 73 v) (h : DataW.Trod enc Tryz.prog w b' (fun _ => true) held 73 v d p) :
    ∃ r : Rc, v = RV r ∧ r.Fit := by
  obtain ⟨cs, rfl, hsz⟩ := okWide_struct Tryz.underlying73 hv
  rw [Tryz.cellsR] at hsz
  obtain ⟨l⟩ := cs
  obtain ⟨a, b, c, e, rfl⟩ := four_of (l := l) (by simpa using hsz)
  obtain ⟨fuel, hf⟩ := h
  obtain ⟨xs, n, _, _, hl, hlen, hf⟩ := DataW.trod_struct Tryz.underlying73 hf
  match xs, hlen with
  | [y0, y1, y2, y3], _ =>
    have h0 := hf 0 _ rfl
    have h1 := hf 1 _ rfl
    have h2 := hf 2 _ rfl
    have h3 := hf 3 _ rfl
    simp [Value.cells, Tryz.cells1] at h0 h1 h2 h3
    obtain ⟨n0, rfl, k0⟩ := open_one h0
    obtain ⟨n1, rfl, k1⟩ := open_one h1
    obtain ⟨n2, rfl, k2⟩ := open_one h2
    obtain ⟨n3, rfl, k3⟩ := open_one h3
    exact ⟨⟨n0, n1, n2, n3⟩, rfl, k0, k1, k2, k3⟩
end Go.Proofs.YtkenbanaodbooaaGreatDoor
/- What a law is given, opened: a house, as the form of claims has it. -/
namespace Go.Proofs.YtkenbanaodbooaaGreatDoor
open Go.ChangeShapes Go.WideShapes Go.ChangeAt Go.RowKit

theorem Tryz.cellsNd : Tryz.prog.cellsOf 77 = 20 := by kernel_rfl
theorem Tryz.cellsSt : Tryz.prog.cellsOf 9 = 1 := by kernel_rfl
theorem twenty_vals {l : List Value} (h : l.length = 20) : ∃ a0 a1 a2 a3 a4 a5 a6 a7 a8 a9 b0 b1 b2 b3 b4 b5 b6 b7 b8 b9, l = [a0, a1, a2, a3, a4, a5, a6, a7, a8, a9, b0, b1, b2, b3, b4, b5, b6, b7, b8, b9] := by
  match l, h with
  | [a0, a1, a2, a3, a4, a5, a6, a7, a8, a9, b0, b1, b2, b3, b4, b5, b6, b7, b8, b9], _ => exact ⟨a0, a1, a2, a3, a4, a5, a6, a7, a8, a9, b0, b1, b2, b3, b4, b5, b6, b7, b8, b9, rfl⟩
set_option maxRecDepth 20000 in
theorem open_str {H : Type} {enc : TypeId × Value → H} {w : World} {base : Nat} {held : Bool} {fuel : Nat} {c : Value} {x : DataW H × List MemPlace}
    (h : DataW.trod enc Tryz.prog w base (fun _ => true) held fuel 9 [c] = some x) : ∃ s : Bs, c = S s ∧ s.length ≤ maxLen := by
  obtain ⟨s, he, _, hl⟩ := DataW.trod_string Tryz.underlying9 h
  simp at he
  obtain ⟨⟨l⟩⟩ := s
  exact ⟨l, he, hl⟩
set_option maxRecDepth 20000 in
set_option maxHeartbeats 2000000 in
theorem open_node {H : Type} {enc : TypeId × Value → H} {w : World} {base b' : Nat} {held : Bool} {v : Value} {d : DataW H} {p : List MemPlace}
    (hv : Value.okWide Tryz.prog w .any base 77 v) (h : DataW.Trod enc Tryz.prog w b' (fun _ => true) held 77 v d p) :
    ∃ (n : Nd) (a b k q z : Value), v = NdV a b k q z n ∧ RdN w a b k q z n ∧ n.r.Fit ∧ n.log.length ≤ maxLen := by
  obtain ⟨cs, rfl, hsz⟩ := okWide_struct Tryz.underlying77 hv
  rw [Tryz.cellsNd] at hsz
  obtain ⟨l⟩ := cs
  obtain ⟨a0, a1, a2, a3, a4, a5, a6, a7, a8, a9, b0, b1, b2, b3, b4, b5, b6, b7, b8, b9, rfl⟩ := twenty_vals (l := l) (by simpa using hsz)
  obtain ⟨fuel, hf⟩ := h
  obtain ⟨xs, n, _, _, hl, hlen, hf⟩ := DataW.trod_struct Tryz.underlying77 hf
  match xs, hlen with
  | [y0, y1, y2, y3, y4, y5, y6, y7], _ =>
    have h0 := hf 0 _ rfl
    have h1 := hf 1 _ rfl
    have h2 := hf 2 _ rfl
    have h3 := hf 3 _ rfl
    have h4 := hf 4 _ rfl
    have h5 := hf 5 _ rfl
    have h6 := hf 6 _ rfl
    have h7 := hf 7 _ rfl
    simp [Value.cells, Tryz.cellsI, Tryz.cellsBo, Tryz.cellsSt, Tryz.cellsD, Tryz.cellsH, Tryz.cellsR, Tryz.cellsCp, Tryz.cellsSn] at h0 h1 h2 h3 h4 h5 h6 h7
    obtain ⟨id, rfl⟩ := open_numC h0
    obtain ⟨up, rfl⟩ := open_boolC h1
    obtain ⟨log, rfl, hlog⟩ := open_str h4
    obtain ⟨zs, _, _, _, _, zlen, hz⟩ := DataW.trod_struct Tryz.underlying71 h2
    obtain ⟨ts, _, _, _, _, tlen, ht⟩ := DataW.trod_struct Tryz.underlying72 h3
    obtain ⟨rs, _, _, _, _, rlen, hr⟩ := DataW.trod_struct Tryz.underlying73 h5
    obtain ⟨ks, _, _, _, _, klen, hk⟩ := DataW.trod_struct Tryz.underlying74 h6
    obtain ⟨ss, _, _, _, _, slen, hs⟩ := DataW.trod_struct Tryz.underlying75 h7
    match zs, zlen, ts, tlen with
    | [z0, z1], _, [t0, t1, t2, t3], _ =>
      match rs, rlen, ks, klen with
      | [r0, r1, r2, r3], _, [k0, k1, k2, k3, k4], _ =>
        match ss, slen with
        | [s0, s1], _ =>
          have u0 := hz 0 _ rfl
          have u1 := hz 1 _ rfl
          have v0 := ht 0 _ rfl
          have v1 := ht 1 _ rfl
          have v2 := ht 2 _ rfl
          have v3 := ht 3 _ rfl
          have c0 := hr 0 _ rfl
          have c1 := hr 1 _ rfl
          have c2 := hr 2 _ rfl
          have c3 := hr 3 _ rfl
          have d0 := hk 0 _ rfl
          have d1 := hk 1 _ rfl
          have d2 := hk 2 _ rfl
          have d3 := hk 3 _ rfl
          have d4 := hk 4 _ rfl
          have e0 := hs 0 _ rfl
          have e1 := hs 1 _ rfl
          simp [Tryz.cellsI, Tryz.cellsL, Tryz.cellsBo] at u0 u1 v0 v1 v2 v3 c0 c1 c2 c3 d0 d1 d2 d3 d4 e0 e1
          obtain ⟨xs, hxs⟩ := open_list u0
          obtain ⟨ys, hys⟩ := open_list u1
          obtain ⟨kk, hkk⟩ := open_list v0
          obtain ⟨n1, rfl⟩ := open_numC v1
          obtain ⟨n2, rfl⟩ := open_numC v2
          obtain ⟨n3, rfl⟩ := open_numC v3
          obtain ⟨m0, rfl, f0⟩ := open_one c0
          obtain ⟨m1, rfl, f1⟩ := open_one c1
          obtain ⟨m2, rfl, f2⟩ := open_one c2
          obtain ⟨m3, rfl, f3⟩ := open_one c3
          obtain ⟨o0, rfl⟩ := open_numC d0
          obtain ⟨o1, rfl⟩ := open_boolC d1
          obtain ⟨o2, rfl⟩ := open_numC d2
          obtain ⟨o3, rfl⟩ := open_numC d3
          obtain ⟨cts, hcts⟩ := open_list d4
          obtain ⟨q0, rfl⟩ := open_numC e0
          obtain ⟨sts, hsts⟩ := open_list e1
          exact ⟨⟨id, up, xs, ys, ⟨kk, n1, n2, n3⟩, log, ⟨m0, m1, m2, m3⟩, ⟨o0, o1, o2, o3, cts⟩, ⟨q0, sts⟩⟩, _, _, _, _, _, rfl, ⟨hxs, hys, hkk, hcts, hsts⟩, ⟨f0, f1, f2, f3⟩, hlog⟩
end Go.Proofs.YtkenbanaodbooaaGreatDoor
/- What a law is given, opened: a row of messages, as the form of claims has it. -/
namespace Go.Proofs.YtkenbanaodbooaaGreatDoor
open Go.ChangeShapes Go.WideShapes Go.ChangeAt Go.RowKit

theorem Tryz.cellsMg : Tryz.prog.cellsOf 80 = 11 := by kernel_rfl
theorem eleven_vals {l : List Value} (h : l.length = 11) : ∃ a0 a1 a2 a3 a4 a5 a6 a7 a8 a9 b0, l = [a0, a1, a2, a3, a4, a5, a6, a7, a8, a9, b0] := by
  match l, h with
  | [a0, a1, a2, a3, a4, a5, a6, a7, a8, a9, b0], _ => exact ⟨a0, a1, a2, a3, a4, a5, a6, a7, a8, a9, b0, rfl⟩
set_option maxRecDepth 20000 in
set_option maxHeartbeats 2000000 in
theorem open_msg {H : Type} {enc : TypeId × Value → H} {w : World} {base : Nat} {held : Bool} {fuel : Nat} {cs : List Value} {x : DataW H × List MemPlace} (hs : cs.length = 11)
    (h : DataW.trod enc Tryz.prog w base (fun _ => true) held fuel 80 cs = some x) : ∃ (m : Mg) (u : Value), cs = (mgA u m).toList ∧ Reads w u m.h.ks := by
  obtain ⟨a0, a1, a2, a3, a4, a5, a6, a7, a8, a9, b0, rfl⟩ := eleven_vals hs
  obtain ⟨xs, n, _, _, hl, hlen, hf⟩ := DataW.trod_struct Tryz.underlying80 h
  match xs, hlen with
  | [y0, y1, y2, y3, y4, y5, y6, y7], _ =>
    have h0 := hf 0 _ rfl
    have h1 := hf 1 _ rfl
    have h2 := hf 2 _ rfl
    have h3 := hf 3 _ rfl
    have h4 := hf 4 _ rfl
    have h5 := hf 5 _ rfl
    have h6 := hf 6 _ rfl
    have h7 := hf 7 _ rfl
    simp [Tryz.cellsI, Tryz.cellsH] at h0 h1 h2 h3 h4 h5 h6 h7
    obtain ⟨n0, rfl, _⟩ := open_num h0
    obtain ⟨n1, rfl, _⟩ := open_num h1
    obtain ⟨n2, rfl, _⟩ := open_num h2
    obtain ⟨n3, rfl, _⟩ := open_num h3
    obtain ⟨n4, rfl, _⟩ := open_num h4
    obtain ⟨n5, rfl, _⟩ := open_num h5
    obtain ⟨n6, rfl, _⟩ := open_num h6
    obtain ⟨ts, _, _, _, _, tlen, ht⟩ := DataW.trod_struct Tryz.underlying72 h7
    match ts, tlen with
    | [t0, t1, t2, t3], _ =>
      have v0 := ht 0 _ rfl
      have v1 := ht 1 _ rfl
      have v2 := ht 2 _ rfl
      have v3 := ht 3 _ rfl
      simp [Tryz.cellsI, Tryz.cellsL] at v0 v1 v2 v3
      obtain ⟨kk, hkk⟩ := open_list v0
      obtain ⟨k1, rfl, _⟩ := open_num v1
      obtain ⟨k2, rfl, _⟩ := open_num v2
      obtain ⟨k3, rfl, _⟩ := open_num v3
      exact ⟨⟨n0, n1, n2, n3, n4, n5, n6, ⟨kk, k1, k2, k3⟩⟩, a7, rfl, hkk⟩
theorem rows_of {w : World} {a : Addr} (len : Nat) (h : ∀ i, i < len → ∃ (m : Mg) (u : Value), Reads w u m.h.ks ∧ ∀ k, k < 11 → w.cell? (a.add (i * 11 + k)) = (mgA u m)[k]?) :
    ∃ ps : List (Value × Mg), ps.length = len ∧ ∀ i, i < len → ∃ m u, ps[i]? = some (u, m) ∧ Reads w u m.h.ks ∧ ∀ k, k < 11 → w.cell? (a.add (i * 11 + k)) = (mgA u m)[k]? := by
  induction len with
  | zero => exact ⟨[], rfl, fun i hi => absurd hi (Nat.not_lt_zero _)⟩
  | succ n ih =>
    obtain ⟨ps, hl, hp⟩ := ih (fun i hi => h i (Nat.lt_succ_of_lt hi))
    obtain ⟨m, u, hr, hc⟩ := h n (Nat.lt_succ_self n)
    refine ⟨ps ++ [(u, m)], by simp [hl], fun i hi => ?_⟩
    rcases Nat.lt_succ_iff_lt_or_eq.1 hi with hlt | rfl
    · obtain ⟨m', u', e, hr', hc'⟩ := hp i hlt
      exact ⟨m', u', by rw [List.getElem?_append_left (by omega), e], hr', hc'⟩
    · exact ⟨m, u, by rw [List.getElem?_append_right (by omega), hl, Nat.sub_self]; rfl, hr, hc⟩
set_option maxRecDepth 20000 in
theorem open_post {H : Type} {enc : TypeId × Value → H} {w : World} {base b' : Nat} {held : Bool} {v : Value} {d : DataW H} {p : List MemPlace}
    (hv : Value.okWide Tryz.prog w .any base 23 v) (h : DataW.Trod enc Tryz.prog w b' (fun _ => true) held 23 v d p) : ∃ ps : List (Value × Mg), RdP w v ps := by
  obtain ⟨a0, l0, c0, rfl⟩ := okWide_slice Tryz.underlying23 hv
  obtain ⟨fuel, hf⟩ := h
  rcases Go.Deep.open_slice Tryz.underlying23 hf with ⟨hc, _⟩ | ⟨a, len, cap, m, n, D, Pl, hc, _, hl, hm, hmm, _, hx⟩
  · simp [Value.cells] at hc
    obtain ⟨rfl, rfl, rfl⟩ := hc
    exact ⟨[], (OwnP.nil w 0).rd⟩
  · simp [Value.cells] at hc
    obtain ⟨rfl, rfl, rfl⟩ := hc
    rw [if_pos rfl] at hmm
    subst hmm
    rw [Tryz.cellsMg] at hx
    obtain ⟨ps, hlen, hp⟩ := rows_of (w := w) (a := a) l0 (fun i hi => by
      obtain ⟨cs, hcs, ht⟩ := hx i (by omega)
      obtain ⟨_, hsz, hcell⟩ := World.cells?_some hcs
      obtain ⟨q, u, rfl, hr⟩ := open_msg hsz ht
      refine ⟨q, u, hr, fun k hk => ?_⟩
      have := hcell k hk
      rw [Go.Deep.add_add] at this
      rw [this]
      simp)
    refine ⟨ps, ⟨msC_sz _, ?_⟩, fun q hq => ?_⟩
    · refine ⟨some a, m, by rw [msC_len, hlen], by rw [msC_len, hlen]; exact hl, ⟨hm, fun e => by cases e⟩, ?_⟩
      rcases Nat.eq_zero_or_pos l0 with rfl | hpos
      · exact .inl (by rw [List.eq_nil_of_length_eq_zero hlen]; rfl)
      · obtain ⟨b, off, spot⟩ := a
        obtain ⟨q, u, _, _, h0⟩ := hp 0 hpos
        have hspot : spot = none := by
          have h1 := h0 0 (by decide)
          simpa [Addr.add] using World.cell?_spot h1
        subst hspot
        refine .inr ⟨b, off, rfl, fun j i hj hi => ?_⟩
        rw [msC_len, hlen] at hj
        obtain ⟨q, u, e, _, hc⟩ := hp j hj
        have hc := hc i hi
        rw [addr_add] at hc
        rw [hc]
        simp [msC, List.getD, e]
    · obtain ⟨i, hi, e⟩ := List.getElem_of_mem hq
      obtain ⟨q', u', e', hr, _⟩ := hp i (by omega)
      have : q = (u', q') := by rw [List.getElem?_eq_getElem hi, e] at e'; exact Option.some.inj e'
      rw [this]
      exact hr
end Go.Proofs.YtkenbanaodbooaaGreatDoor
