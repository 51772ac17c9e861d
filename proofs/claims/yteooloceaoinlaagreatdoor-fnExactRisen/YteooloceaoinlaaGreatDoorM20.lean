/- What a law is given, opened: a list of numbers, and a struct of two of them, as the form of claims has them. -/
import Derived.Test.YteooloceaoinlaaGreatDoorM2
import Derived.ShutString
import Derived.ChangeOld
import Derived.Below
import Derived.ChangeSame
import Derived.Test.YteooloceaoinlaaGreatDoorM17
import Derived.Test.YteooloceaoinlaaGreatDoorM18
import Derived.Test.YteooloceaoinlaaGreatDoorM19
import Derived.Test.YteooloceaoinlaaGreatDoorM15
import Derived.Test.YteooloceaoinlaaGreatDoorLNode2
import Derived.Test.YteooloceaoinlaaGreatDoorM13
namespace Go.Proofs.YteooloceaoinlaaGreatDoor
open Go.ChangeShapes Go.WideShapes Go.ChangeAt Go.RowKit

theorem Tryz.cellsI : Tryz.prog.cellsOf 2 = 1 := by kernel_rfl
theorem Tryz.cellsL : Tryz.prog.cellsOf 22 = 1 := by kernel_rfl

theorem open_list {H : Type} {enc : TypeId × Value → H} {w : World} {base : Nat} {held : Bool} {fuel : Nat} {c : Value} {x : DataW H × List MemPlace}
    (h : DataW.trod enc Tryz.prog w base (fun _ => true) held fuel 22 [c] = some x) : ∃ xs, Reads w c xs := by
  rcases open_ints Tryz.underlying22 Tryz.underlying2 (by kernel_rfl) h with ⟨hcs, _⟩ | ⟨x, l, c', zs, hcs, _, hl, hm, hz, _, hcell, hwz⟩
  · simp at hcs
    subst hcs
    exact ⟨[], none, 0, rfl, Nat.le_refl _, ⟨Nat.zero_le _, fun _ => rfl⟩, .inl rfl⟩
  · simp at hcs
    subst hcs
    obtain ⟨xs, hl, hr⟩ := reads_row (w := w) (a := some x) (len := l) (cap := c') (zs := zs) (.inr ⟨x, rfl, hl, hm, by simpa using hz, hcell, hwz⟩)
    exact ⟨xs, hr⟩

theorem two_of {l : List Value} (h : l.length = 2) : ∃ a b, l = [a, b] := by
  match l, h with
  | [a, b], _ => exact ⟨a, b, rfl⟩

theorem Tryz.cellsD : Tryz.prog.cellsOf 24 = 2 := by kernel_rfl

set_option maxRecDepth 20000 in
set_option maxHeartbeats 400000 in
theorem open_disk {H : Type} {enc : TypeId × Value → H} {w : World} {base b' : Nat} {held : Bool} {v : Value} {d : DataW H} {p : List MemPlace}
    (hv : Value.okWide Tryz.prog w .any base 24 v) (h : DataW.Trod enc Tryz.prog w b' (fun _ => true) held 24 v d p) :
    ∃ a b xs ys, v = .agg #[a, b] ∧ Reads w a xs ∧ Reads w b ys := by
  obtain ⟨cs, rfl, hsz⟩ := okWide_struct Tryz.underlying24 hv
  rw [Tryz.cellsD] at hsz
  obtain ⟨l⟩ := cs
  obtain ⟨a, b, rfl⟩ := two_of (l := l) (by simpa using hsz)
  obtain ⟨fuel, hf⟩ := h
  obtain ⟨y0, y1, m, hx, _, hy0, hy1⟩ := trod_struct2 Tryz.underlying24 hf
  simp [Value.cells, Tryz.cellsL] at hy0 hy1
  obtain ⟨xs, hxs⟩ := open_list hy0
  obtain ⟨ys, hys⟩ := open_list hy1
  exact ⟨a, b, xs, ys, rfl, hxs, hys⟩
end Go.Proofs.YteooloceaoinlaaGreatDoor
/- What a law is given, opened: a holding, as the form of claims has it. -/
namespace Go.Proofs.YteooloceaoinlaaGreatDoor
open Go.ChangeShapes Go.WideShapes Go.ChangeAt Go.RowKit

theorem Tryz.cellsH : Tryz.prog.cellsOf 26 = 4 := by kernel_rfl
theorem four_vals {l : List Value} (h : l.length = 4) : ∃ a b c d, l = [a, b, c, d] := by
  match l, h with
  | [a, b, c, d], _ => exact ⟨a, b, c, d, rfl⟩
set_option maxRecDepth 20000 in
theorem open_num {H : Type} {enc : TypeId × Value → H} {w : World} {base : Nat} {held : Bool} {fuel : Nat} {c : Value} {x : DataW H × List MemPlace}
    (h : DataW.trod enc Tryz.prog w base (fun _ => true) held fuel 2 [c] = some x) : ∃ n : Int, c = .int .i64 n ∧ -9223372036854775808 ≤ n ∧ n ≤ 9223372036854775807 := by
  obtain ⟨n, he, _, hw⟩ := DataW.trod_int Tryz.underlying2 h
  simp at he
  exact ⟨n, he, by simpa [Lit.wf, IntKind.min, IntKind.max, IntKind.signed, IntKind.bits] using hw⟩
set_option maxRecDepth 20000 in
theorem open_holding {H : Type} {enc : TypeId × Value → H} {w : World} {base b' : Nat} {held : Bool} {v : Value} {d : DataW H} {p : List MemPlace}
    (hv : Value.okWide Tryz.prog w .any base 26 v) (h : DataW.Trod enc Tryz.prog w b' (fun _ => true) held 26 v d p) :
    ∃ (h : Hd) (u : Value), v = HV u h ∧ Reads w u h.ks := by
  obtain ⟨cs, rfl, hsz⟩ := okWide_struct Tryz.underlying26 hv
  rw [Tryz.cellsH] at hsz
  obtain ⟨l⟩ := cs
  obtain ⟨a, b, c, e, rfl⟩ := four_vals (l := l) (by simpa using hsz)
  obtain ⟨fuel, hf⟩ := h
  obtain ⟨xs, n, _, _, hl, hlen, hf⟩ := DataW.trod_struct Tryz.underlying26 hf
  match xs, hlen with
  | [y0, y1, y2, y3], _ =>
    have h0 := hf 0 _ rfl
    have h1 := hf 1 _ rfl
    have h2 := hf 2 _ rfl
    have h3 := hf 3 _ rfl
    simp [Value.cells, Tryz.cellsI, Tryz.cellsL] at h0 h1 h2 h3
    obtain ⟨ks, hks⟩ := open_list h0
    obtain ⟨n1, rfl, k1⟩ := open_num h1
    obtain ⟨n2, rfl, k2⟩ := open_num h2
    obtain ⟨n3, rfl, k3⟩ := open_num h3
    exact ⟨⟨ks, n1, n2, n3⟩, a, rfl, hks⟩
end Go.Proofs.YteooloceaoinlaaGreatDoor
/- What a law is given, opened: a copier, as the form of claims has it. -/
namespace Go.Proofs.YteooloceaoinlaaGreatDoor
open Go.ChangeShapes Go.WideShapes Go.ChangeAt Go.RowKit

theorem Tryz.cellsCp : Tryz.prog.cellsOf 30 = 5 := by kernel_rfl
theorem Tryz.cellsBo : Tryz.prog.cellsOf 4 = 1 := by kernel_rfl
theorem five_vals {l : List Value} (h : l.length = 5) : ∃ a b c d e, l = [a, b, c, d, e] := by
  match l, h with
  | [a, b, c, d, e], _ => exact ⟨a, b, c, d, e, rfl⟩
set_option maxRecDepth 20000 in
theorem open_numC {H : Type} {enc : TypeId × Value → H} {w : World} {base : Nat} {held : Bool} {fuel : Nat} {c : Value} {x : DataW H × List MemPlace}
    (h : DataW.trod enc Tryz.prog w base (fun _ => true) held fuel 2 [c] = some x) : ∃ n : Int, c = .int .i64 n := by
  obtain ⟨n, he, _, _⟩ := DataW.trod_int Tryz.underlying2 h
  simp at he
  exact ⟨n, he⟩
set_option maxRecDepth 20000 in
theorem open_boolC {H : Type} {enc : TypeId × Value → H} {w : World} {base : Nat} {held : Bool} {fuel : Nat} {c : Value} {x : DataW H × List MemPlace}
    (h : DataW.trod enc Tryz.prog w base (fun _ => true) held fuel 4 [c] = some x) : ∃ b : Bool, c = .bool b := by
  obtain ⟨b, he, _⟩ := DataW.trod_bool Tryz.underlying4 h
  simp at he
  exact ⟨b, he⟩
set_option maxRecDepth 20000 in
theorem open_copier {H : Type} {enc : TypeId × Value → H} {w : World} {base b' : Nat} {held : Bool} {v : Value} {d : DataW H} {p : List MemPlace}
    (hv : Value.okWide Tryz.prog w .any base 30 v) (h : DataW.Trod enc Tryz.prog w b' (fun _ => true) held 30 v d p) :
    ∃ (c : Cp) (u : Value), v = CpV u c ∧ Reads w u c.ts := by
  obtain ⟨cs, rfl, hsz⟩ := okWide_struct Tryz.underlying30 hv
  rw [Tryz.cellsCp] at hsz
  obtain ⟨l⟩ := cs
  obtain ⟨a, b, c, e, f, rfl⟩ := five_vals (l := l) (by simpa using hsz)
  obtain ⟨fuel, hf⟩ := h
  obtain ⟨xs, n, _, _, hl, hlen, hf⟩ := DataW.trod_struct Tryz.underlying30 hf
  match xs, hlen with
  | [y0, y1, y2, y3, y4], _ =>
    have h0 := hf 0 _ rfl
    have h1 := hf 1 _ rfl
    have h2 := hf 2 _ rfl
    have h3 := hf 3 _ rfl
    have h4 := hf 4 _ rfl
    simp [Value.cells, Tryz.cellsI, Tryz.cellsL, Tryz.cellsBo] at h0 h1 h2 h3 h4
    obtain ⟨n0, rfl⟩ := open_numC h0
    obtain ⟨o, rfl⟩ := open_boolC h1
    obtain ⟨n2, rfl⟩ := open_numC h2
    obtain ⟨n3, rfl⟩ := open_numC h3
    obtain ⟨ts, hts⟩ := open_list h4
    exact ⟨⟨n0, o, n2, n3, ts⟩, f, rfl, hts⟩
end Go.Proofs.YteooloceaoinlaaGreatDoor
/- What a law is given, opened: a sink, as the form of claims has it. -/
namespace Go.Proofs.YteooloceaoinlaaGreatDoor
open Go.ChangeShapes Go.WideShapes Go.ChangeAt Go.RowKit

theorem Tryz.cellsSn : Tryz.prog.cellsOf 32 = 2 := by kernel_rfl
theorem two_vals {l : List Value} (h : l.length = 2) : ∃ a b, l = [a, b] := by
  match l, h with
  | [a, b], _ => exact ⟨a, b, rfl⟩
set_option maxRecDepth 20000 in
theorem open_numK {H : Type} {enc : TypeId × Value → H} {w : World} {base : Nat} {held : Bool} {fuel : Nat} {c : Value} {x : DataW H × List MemPlace}
    (h : DataW.trod enc Tryz.prog w base (fun _ => true) held fuel 2 [c] = some x) : ∃ n : Int, c = .int .i64 n := by
  obtain ⟨n, he, _, _⟩ := DataW.trod_int Tryz.underlying2 h
  simp at he
  exact ⟨n, he⟩
set_option maxRecDepth 20000 in
theorem open_sink {H : Type} {enc : TypeId × Value → H} {w : World} {base b' : Nat} {held : Bool} {v : Value} {d : DataW H} {p : List MemPlace}
    (hv : Value.okWide Tryz.prog w .any base 32 v) (h : DataW.Trod enc Tryz.prog w b' (fun _ => true) held 32 v d p) :
    ∃ (c : Sn) (u : Value), v = SnV u c ∧ Reads w u c.ts := by
  obtain ⟨cs, rfl, hsz⟩ := okWide_struct Tryz.underlying32 hv
  rw [Tryz.cellsSn] at hsz
  obtain ⟨l⟩ := cs
  obtain ⟨a, f, rfl⟩ := two_vals (l := l) (by simpa using hsz)
  obtain ⟨fuel, hf⟩ := h
  obtain ⟨xs, n, _, _, hl, hlen, hf⟩ := DataW.trod_struct Tryz.underlying32 hf
  match xs, hlen with
  | [y0, y1], _ =>
    have h0 := hf 0 _ rfl
    have h1 := hf 1 _ rfl
    simp [Value.cells, Tryz.cellsI, Tryz.cellsL] at h0 h1
    obtain ⟨n0, rfl⟩ := open_numK h0
    obtain ⟨ts, hts⟩ := open_list h1
    exact ⟨⟨n0, ts⟩, f, rfl, hts⟩
end Go.Proofs.YteooloceaoinlaaGreatDoor
/- What a law is given, opened: a struct of four numbers, as the form of claims has it. -/
namespace Go.Proofs.YteooloceaoinlaaGreatDoor
open Go.ChangeShapes Go.WideShapes Go.ChangeAt Go.RowKit

theorem Tryz.cells1 : Tryz.prog.cellsOf 2 = 1 := by kernel_rfl
theorem Tryz.cellsR : Tryz.prog.cellsOf 28 = 4 := by kernel_rfl
theorem four_of {l : List Value} (h : l.length = 4) : ∃ a b c d, l = [a, b, c, d] := by
  match l, h with
  | [a, b, c, d], _ => exact ⟨a, b, c, d, rfl⟩
set_option maxRecDepth 20000 in
theorem open_one {H : Type} {enc : TypeId × Value → H} {w : World} {base : Nat} {held : Bool} {fuel : Nat} {c : Value} {x : DataW H × List MemPlace}
    (h : DataW.trod enc Tryz.prog w base (fun _ => true) held fuel 2 [c] = some x) : ∃ n : Int, c = .int .i64 n ∧ -9223372036854775808 ≤ n ∧ n ≤ 9223372036854775807 := by
  obtain ⟨n, he, _, hw⟩ := DataW.trod_int Tryz.underlying2 h
  simp at he
  exact ⟨n, he, by simpa [Lit.wf, IntKind.min, IntKind.max, IntKind.signed, IntKind.bits] using hw⟩
set_option maxRecDepth 20000 in
theorem open_record {H : Type} {enc : TypeId × Value → H} {w : World} {base b' : Nat} {held : Bool} {v : Value} {d : DataW H} {p : List MemPlace}
    (hv : Value.okWide Tryz.prog w .any base 28 v) (h : DataW.Trod enc Tryz.prog w b' (fun _ => true) held 28 v d p) :
    ∃ r : Rc, v = RV r ∧ r.Fit := by
  obtain ⟨cs, rfl, hsz⟩ := okWide_struct Tryz.underlying28 hv
  rw [Tryz.cellsR] at hsz
  obtain ⟨l⟩ := cs
  obtain ⟨a, b, c, e, rfl⟩ := four_of (l := l) (by simpa using hsz)
  obtain ⟨fuel, hf⟩ := h
  obtain ⟨xs, n, _, _, hl, hlen, hf⟩ := DataW.trod_struct Tryz.underlying28 hf
  match xs, hlen with
  | [y0, y1, y2, y3], _ =>
    have h0 := hf 0 _ rfl
    have h1 := hf 1 _ rfl
    have h2 := hf 2 _ rfl
    have h3 := hf 3 _ rfl
    simp [Value.cells, Tryz.cells1] at h0 h1 h2 h3
    obtain ⟨n0, rfl, k0⟩ := open_one h0
    obtain ⟨n1, rfl, k1⟩ := open_one h1
    obtain ⟨n2, rfl, k2⟩ := open_one h2
    obtain ⟨n3, rfl, k3⟩ := open_one h3
    exact ⟨⟨n0, n1, n2, n3⟩, rfl, k0, k1, k2, k3⟩
end Go.Proofs.YteooloceaoinlaaGreatDoor
/- What a law is given, opened: a house, as the form of claims has it. -/
namespace Go.Proofs.YteooloceaoinlaaGreatDoor
open Go.ChangeShapes Go.WideShapes Go.ChangeAt Go.RowKit

theorem Tryz.cellsNd : Tryz.prog.cellsOf 34 = 20 := by kernel_rfl
theorem Tryz.cellsSt : Tryz.prog.cellsOf 9 = 1 := by kernel_rfl
theorem twenty_vals {l : List Value} (h : l.length = 20) : ∃ a0 a1 a2 a3 a4 a5 a6 a7 a8 a9 b0 b1 b2 b3 b4 b5 b6 b7 b8 b9, l = [a0, a1, a2, a3, a4, a5, a6, a7, a8, a9, b0, b1, b2, b3, b4, b5, b6, b7, b8, b9] := by
  match l, h with
  | [a0, a1, a2, a3, a4, a5, a6, a7, a8, a9, b0, b1, b2, b3, b4, b5, b6, b7, b8, b9], _ => exact ⟨a0, a1, a2, a3, a4, a5, a6, a7, a8, a9, b0, b1, b2, b3, b4, b5, b6, b7, b8, b9, rfl⟩
set_option maxRecDepth 20000 in
theorem open_str {H : Type} {enc : TypeId × Value → H} {w : World} {base : Nat} {held : Bool} {fuel : Nat} {c : Value} {x : DataW H × List MemPlace}
    (h : DataW.trod enc Tryz.prog w base (fun _ => true) held fuel 9 [c] = some x) : ∃ s : Bs, c = S s ∧ s.length ≤ maxLen := by
  obtain ⟨s, he, _, hl⟩ := DataW.trod_string Tryz.underlying9 h
  simp at he
  obtain ⟨⟨l⟩⟩ := s
  exact ⟨l, he, hl⟩
set_option maxRecDepth 20000 in
set_option maxHeartbeats 2000000 in
theorem open_node {H : Type} {enc : TypeId × Value → H} {w : World} {base b' : Nat} {held : Bool} {v : Value} {d : DataW H} {p : List MemPlace}
    (hv : Value.okWide Tryz.prog w .any base 34 v) (h : DataW.Trod enc Tryz.prog w b' (fun _ => true) held 34 v d p) :
    ∃ (n : Nd) (a b k q z : Value), v = NdV a b k q z n ∧ RdN w a b k q z n ∧ n.r.Fit ∧ n.log.length ≤ maxLen := by
  obtain ⟨cs, rfl, hsz⟩ := okWide_struct Tryz.underlying34 hv
  rw [Tryz.cellsNd] at hsz
  obtain ⟨l⟩ := cs
  obtain ⟨a0, a1, a2, a3, a4, a5, a6, a7, a8, a9, b0, b1, b2, b3, b4, b5, b6, b7, b8, b9, rfl⟩ := twenty_vals (l := l) (by simpa using hsz)
  obtain ⟨fuel, hf⟩ := h
  obtain ⟨xs, n, _, _, hl, hlen, hf⟩ := DataW.trod_struct Tryz.underlying34 hf
  match xs, hlen with
  | [y0, y1, y2, y3, y4, y5, y6, y7], _ =>
    have h0 := hf 0 _ rfl
    have h1 := hf 1 _ rfl
    have h2 := hf 2 _ rfl
    have h3 := hf 3 _ rfl
    have h4 := hf 4 _ rfl
    have h5 := hf 5 _ rfl
    have h6 := hf 6 _ rfl
    have h7 := hf 7 _ rfl
    simp [Value.cells, Tryz.cellsI, Tryz.cellsBo, Tryz.cellsSt, Tryz.cellsD, Tryz.cellsH, Tryz.cellsR, Tryz.cellsCp, Tryz.cellsSn] at h0 h1 h2 h3 h4 h5 h6 h7
    obtain ⟨id, rfl⟩ := open_numC h0
    obtain ⟨up, rfl⟩ := open_boolC h1
    obtain ⟨log, rfl, hlog⟩ := open_str h4
    obtain ⟨zs, _, _, _, _, zlen, hz⟩ := DataW.trod_struct Tryz.underlying24 h2
    obtain ⟨ts, _, _, _, _, tlen, ht⟩ := DataW.trod_struct Tryz.underlying26 h3
    obtain ⟨rs, _, _, _, _, rlen, hr⟩ := DataW.trod_struct Tryz.underlying28 h5
    obtain ⟨ks, _, _, _, _, klen, hk⟩ := DataW.trod_struct Tryz.underlying30 h6
    obtain ⟨ss, _, _, _, _, slen, hs⟩ := DataW.trod_struct Tryz.underlying32 h7
    match zs, zlen, ts, tlen with
    | [z0, z1], _, [t0, t1, t2, t3], _ =>
      match rs, rlen, ks, klen with
      | [r0, r1, r2, r3], _, [k0, k1, k2, k3, k4], _ =>
        match ss, slen with
        | [s0, s1], _ =>
          have u0 := hz 0 _ rfl
          have u1 := hz 1 _ rfl
          have v0 := ht 0 _ rfl
          have v1 := ht 1 _ rfl
          have v2 := ht 2 _ rfl
          have v3 := ht 3 _ rfl
          have c0 := hr 0 _ rfl
          have c1 := hr 1 _ rfl
          have c2 := hr 2 _ rfl
          have c3 := hr 3 _ rfl
          have d0 := hk 0 _ rfl
          have d1 := hk 1 _ rfl
          have d2 := hk 2 _ rfl
          have d3 := hk 3 _ rfl
          have d4 := hk 4 _ rfl
          have e0 := hs 0 _ rfl
          have e1 := hs 1 _ rfl
          simp [Tryz.cellsI, Tryz.cellsL, Tryz.cellsBo] at u0 u1 v0 v1 v2 v3 c0 c1 c2 c3 d0 d1 d2 d3 d4 e0 e1
          obtain ⟨xs, hxs⟩ := open_list u0
          obtain ⟨ys, hys⟩ := open_list u1
          obtain ⟨kk, hkk⟩ := open_list v0
          obtain ⟨n1, rfl⟩ := open_numC v1
          obtain ⟨n2, rfl⟩ := open_numC v2
          obtain ⟨n3, rfl⟩ := open_numC v3
          obtain ⟨m0, rfl, f0⟩ := open_one c0
          obtain ⟨m1, rfl, f1⟩ := open_one c1
          obtain ⟨m2, rfl, f2⟩ := open_one c2
          obtain ⟨m3, rfl, f3⟩ := open_one c3
          obtain ⟨o0, rfl⟩ := open_numC d0
          obtain ⟨o1, rfl⟩ := open_boolC d1
          obtain ⟨o2, rfl⟩ := open_numC d2
          obtain ⟨o3, rfl⟩ := open_numC d3
          obtain ⟨cts, hcts⟩ := open_list d4
          obtain ⟨q0, rfl⟩ := open_numC e0
          obtain ⟨sts, hsts⟩ := open_list e1
          exact ⟨⟨id, up, xs, ys, ⟨kk, n1, n2, n3⟩, log, ⟨m0, m1, m2, m3⟩, ⟨o0, o1, o2, o3, cts⟩, ⟨q0, sts⟩⟩, _, _, _, _, _, rfl, ⟨hxs, hys, hkk, hcts, hsts⟩, ⟨f0, f1, f2, f3⟩, hlog⟩
end Go.Proofs.YteooloceaoinlaaGreatDoor
/- What a house that does something leaves, plainly. -/
namespace Go.Proofs.YteooloceaoinlaaGreatDoor
open Go.RowKit

/- What the law on telling asks, of what is done. -/
structure TellR (n : Nd) (p : Nd × List Mg × Bool) : Prop where
  ok : NdR p.1
  ep : p.1.r.e = n.r.e
  sn : p.1.r.n = n.r.n
  td : n.r.t ≤ p.1.r.t
  id : p.1.id = n.id
  one : p.2.1.length ≤ 1
  msg : ∀ m ∈ p.2.1, m.dst = 1 - n.id ∧ m.tr = p.1.r.t ∧ p.1.up = true ∧ (m.kd = 3 → m.va = n.ys.getD m.pl.toNat 0 ∧ m.tn = p.1.c.ts.getD m.pl.toNat 0 ∧ 0 ≤ m.pl ∧ m.pl < (n.ys.length : Int) ∧ n.ys.length = p.1.c.ts.length)
  st : p.1.r.s ≠ n.r.s → p.1.r.s = 2 ∧ n.r.s = 1 ∧ n.c.clean = true ∧ p.1.xs = p.1.ys
  fr : (framesB p.1.log).1.length ≤ (framesB n.log).1.length + 1
  len : p.1.ys.length = n.ys.length
  no : p.2.2 = false → p = (n, [], false)
theorem both_same {xs ys : List Int} (h : bothOk xs ys = true) : bothOk ys ys = true := by
  unfold bothOk at h ⊢
  simp only [Bool.and_eq_true, decide_eq_true_eq] at h ⊢
  exact ⟨h.2.1, h.2.1, trivial⟩
theorem TellR.same {n : Nd} (h : NdR n) : TellR n (n, [], false) :=
  ⟨h, rfl, rfl, Int.le_refl _, rfl, by simp, by simp, fun e => absurd rfl e, by simp, rfl, fun _ => rfl⟩
theorem TellR.say {n : Nd} (h : NdR n) (hu : n.up = true) (m : Mg) (h1 : m.dst = 1 - n.id) (h2 : m.tr = n.r.t) (h3 : m.kd ≠ 3) : TellR n (n, [m], true) :=
  ⟨h, rfl, rfl, Int.le_refl _, rfl, by simp, by
    intro x hx
    simp only [List.mem_singleton] at hx
    subst hx
    exact ⟨h1, h2, hu, fun e => absurd e h3⟩, fun e => absurd rfl e, by simp, rfl, fun e => by cases e⟩
theorem next_to' (c : Cp) : c.next.tr = c.tr ∧ c.next.ts.length = c.ts.length := by unfold Cp.next; split <;> simp
theorem NdR.move {n : Nd} (h : NdR n) (hu : n.up = true) (torn : Int) (hs : n.r.s = 1) (ht : n.r.t < 100000) (hf : (framesB n.log).1.length < 2000) : TellR n (n.move torn) := by
  have hr := (Rc.ok_iff n.r).1 h.r
  have hq : (({ n.r with t := n.r.t + 1 } : Rc)).ok = true := (Rc.ok_iff _).2 ⟨hr.1, hr.2.1, by simp only; omega, hr.2.2.2⟩
  obtain ⟨p, hp⟩ : ∃ p, p = n.note { n.r with t := n.r.t + 1 } torn := ⟨_, rfl⟩
  have hsk : n.s.tr = 0 := by
    by_cases e : n.s.tr = 0
    · exact e
    · have := (h.sk e).1; omega
  have hb := h.dk
  unfold bothOk blocksOk lenOk at hb
  simp only [Bool.and_eq_true, decide_eq_true_eq] at hb
  have hmade : Cp.made n.ys.length (n.r.t + 1) = true := by
    unfold Cp.made
    rw [(inI_iff _ _ _).2 (by omega), (inI_iff _ _ _).2 (by omega)]
    rfl
  unfold Nd.move
  simp only [← hp]
  rcases h.note hu hq hf p hp with ⟨e, hN, e1, e2, e3, e4, e5, e6, e7, e8⟩ | ⟨e, e1, e2, e3, e4⟩
  · rw [e]
    simp only [Bool.false_eq_true, if_false]
    exact ⟨hN, by rw [e2], by rw [e2], by rw [e2]; exact Int.le_refl _, e4, by simp, by simp, fun x => absurd (by rw [e2]) x, Nat.le_trans (Nat.le_of_eq e8) (Nat.le_succ _), e5, fun x => by cases x⟩
  · rw [e]
    simp only [if_true]
    have hcl : (Cp.new n.ys.length (n.r.t + 1)).ts.length = n.ys.length := by unfold Cp.new; rw [if_pos hmade]; simp
    have hct : (Cp.new n.ys.length (n.r.t + 1)).tr = n.r.t + 1 := by unfold Cp.new; rw [if_pos hmade]
    rw [e1] at e2 e3 e4 ⊢
    refine ⟨⟨h.id, h.dk, h.h, hq, e3, Cp.new_ok _ _ hmade, h.s, ?_, fun x => ?_, fun _ => ⟨?_, hct, hcl⟩, fun x => absurd hsk x⟩, rfl, rfl, ?_, rfl, by simp, ?_, fun x => absurd rfl x, ?_, rfl, fun x => by cases x⟩
    · show LogR _ _ n.up
      rw [hu]; exact e2
    · rw [hu] at x; cases x
    · show n.r.s ≠ 3
      omega
    · show n.r.t ≤ n.r.t + 1
      omega
    · intro m hm
      simp only [List.mem_singleton] at hm
      subst hm
      exact ⟨rfl, rfl, hu, fun x => by simp [Nd.msg] at x⟩
    · show (framesB (n.log ++ _)).1.length ≤ _
      exact Nat.le_of_eq e4
theorem NdR.give {n : Nd} (h : NdR n) (hu : n.up = true) (torn : Int) (hs : n.r.s = 1) (hcl : n.c.clean = true) (hf : (framesB n.log).1.length < 2000) : TellR n (n.give torn) := by
  have hr := (Rc.ok_iff n.r).1 h.r
  have hq : (({ n.r with s := 2 } : Rc)).ok = true := (Rc.ok_iff _).2 ⟨hr.1, by simp only; omega, hr.2.2.1, hr.2.2.2⟩
  have h' : NdR ({ n with xs := n.ys } : Nd) := ⟨h.id, both_same h.dk, h.h, h.r, h.ll, h.c, h.s, h.lg, h.dn, h.cp, h.sk⟩
  have hsk : n.s.tr = 0 := by
    by_cases e : n.s.tr = 0
    · exact e
    · have := (h.sk e).1; omega
  obtain ⟨p, hp⟩ : ∃ p, p = ({ n with xs := n.ys } : Nd).note { n.r with s := 2 } torn := ⟨_, rfl⟩
  unfold Nd.give
  simp only [← hp]
  rcases h'.note hu hq hf p hp with ⟨e, hN, e1, e2, e3, e4, e5, e6, e7, e8⟩ | ⟨e, e1, e2, e3, e4⟩
  · rw [e]
    simp only [Bool.false_eq_true, if_false]
    exact ⟨hN, by rw [e2], by rw [e2], by rw [e2]; exact Int.le_refl _, e4, by simp, by simp, fun x => absurd (by rw [e2]) x, Nat.le_trans (Nat.le_of_eq e8) (Nat.le_succ _), e5, fun x => by cases x⟩
  · rw [e]
    simp only [if_true]
    rw [e1] at e2 e3 e4 ⊢
    refine ⟨⟨h.id, both_same h.dk, h.h, hq, e3, h.c, h.s, ?_, fun x => ?_, fun x => ?_, fun x => absurd hsk x⟩, rfl, rfl, Int.le_refl _, rfl, by simp, ?_, fun _ => ⟨rfl, hs, hcl, rfl⟩, ?_, rfl, fun x => by cases x⟩
    · show LogR _ _ n.up
      rw [hu]; exact e2
    · rw [hu] at x; cases x
    · have := h.cp x
      exact ⟨by simp, this.2.1, this.2.2⟩
    · intro m hm
      simp only [List.mem_singleton] at hm
      subst hm
      exact ⟨rfl, rfl, hu, fun x => by simp [Nd.hand, Nd.msg] at x⟩
    · show (framesB (n.log ++ _)).1.length ≤ _
      exact Nat.le_of_eq e4
theorem NdR.copy {n : Nd} (h : NdR n) (hu : n.up = true) (hc : n.c.tr ≠ 0) : TellR n n.copy := by
  unfold Nd.copy
  split
  · exact TellR.same h
  · rename_i hx
    have hcp := h.cp hc
    have hg : n.c.goes = true := by
      cases e : n.c.goes with
      | true => rfl
      | false => unfold Cp.nx at hx; rw [e] at hx; simp at hx
    have hnx : n.c.nx = firstI n.c.di := by unfold Cp.nx; rw [if_pos hg]
    have hft := (Cp.fit h.c).first
    have hnt := next_to' n.c
    refine ⟨⟨h.id, h.dk, h.h, h.r, h.ll, Cp.next_ok h.c, h.s, h.lg, fun x => ?_, fun _ => ⟨hcp.1, ?_, ?_⟩, h.sk⟩, rfl, rfl, Int.le_refl _, rfl, by simp, ?_, fun x => absurd rfl x, by simp, rfl, fun x => by cases x⟩
    · rw [hu] at x; cases x
    · show n.c.next.tr = n.r.t
      rw [hnt.1]; exact hcp.2.1
    · show n.c.next.ts.length = n.ys.length
      rw [hnt.2]; exact hcp.2.2
    · intro m hm
      simp only [List.mem_singleton] at hm
      subst hm
      refine ⟨rfl, rfl, hu, fun _ => ⟨rfl, rfl, ?_, ?_, ?_⟩⟩
      · show 0 ≤ n.c.nx
        omega
      · show n.c.nx < (n.ys.length : Int)
        rw [hnx, ← hcp.2.2]; exact hft
      · show n.ys.length = n.c.next.ts.length
        rw [hnt.2, hcp.2.2]
theorem NdR.tell {n : Nd} (h : NdR n) (k torn : Int) (hf : (framesB n.log).1.length < 2000) : TellR n (n.tell k torn) := by
  unfold Nd.tell
  split
  · exact TellR.same h
  · rename_i hu'
    have hu : n.up = true := by simpa using hu'
    split
    · rename_i e; exact h.move hu torn e.2.1 e.2.2.2 hf
    · split
      · rename_i e
        split
        · have hcp := h.cp e.2
          refine ⟨⟨h.id, h.dk, h.h, h.r, h.ll, Cp.again_ok h.c, h.s, h.lg, fun x => ?_, fun _ => hcp, h.sk⟩, rfl, rfl, Int.le_refl _, rfl, by simp, by simp, fun x => absurd rfl x, by simp, rfl, fun x => by cases x⟩
          rw [hu] at x; cases x
        · exact TellR.say h hu _ rfl rfl (by simp [Nd.msg])
      · split
        · rename_i e; exact h.copy hu e.2
        · split
          · rename_i e; exact h.give hu torn e.2.1 e.2.2.2 hf
          · split
            · exact TellR.say h hu _ rfl rfl (by simp [Nd.hand, Nd.msg])
            · split
              · exact TellR.say h hu _ rfl rfl (by simp [Nd.msg])
              · split
                · refine ⟨⟨h.id, h.dk, h.h, h.r, h.ll, Cp.zero_ok, h.s, h.lg, fun x => ?_, fun x => absurd rfl x, h.sk⟩, rfl, rfl, Int.le_refl _, rfl, by simp, by simp, fun x => absurd rfl x, by simp, rfl, fun x => by cases x⟩
                  rw [hu] at x; cases x
                · exact TellR.same h
end Go.Proofs.YteooloceaoinlaaGreatDoor
