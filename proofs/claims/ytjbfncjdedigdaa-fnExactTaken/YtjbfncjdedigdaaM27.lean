/- What a law is given, opened: a list of numbers, and a struct of two of them, as the form of claims has them. -/
import Derived.Test.YtjbfncjdedigdaaM2
import Derived.ShutString
import Derived.ChangeOld
import Derived.Below
import Derived.ChangeSame
import Derived.Test.YtjbfncjdedigdaaLHold
import Derived.Test.YtjbfncjdedigdaaLPost
import Derived.Deep.Slices
import Derived.Test.YtjbfncjdedigdaaM6
namespace Go.Proofs.Ytjbfncjdedigdaa
open Go.ChangeShapes Go.WideShapes Go.ChangeAt Go.RowKit

theorem Try.cellsI : Try.prog.cellsOf 2 = 1 := by kernel_rfl
theorem Try.cellsL : Try.prog.cellsOf 31 = 1 := by kernel_rfl

theorem open_list {H : Type} {enc : TypeId × Value → H} {w : World} {base : Nat} {held : Bool} {fuel : Nat} {c : Value} {x : DataW H × List MemPlace}
    (h : DataW.trod enc Try.prog w base (fun _ => true) held fuel 31 [c] = some x) : ∃ xs, Reads w c xs := by
  rcases open_ints Try.underlying31 Try.underlying2 (by kernel_rfl) h with ⟨hcs, _⟩ | ⟨x, l, c', zs, hcs, _, hl, hm, hz, _, hcell, hwz⟩
  · simp at hcs
    subst hcs
    exact ⟨[], none, 0, rfl, Nat.le_refl _, ⟨Nat.zero_le _, fun _ => rfl⟩, .inl rfl⟩
  · simp at hcs
    subst hcs
    obtain ⟨xs, hl, hr⟩ := reads_row (w := w) (a := some x) (len := l) (cap := c') (zs := zs) (.inr ⟨x, rfl, hl, hm, by simpa using hz, hcell, hwz⟩)
    exact ⟨xs, hr⟩

theorem two_of {l : List Value} (h : l.length = 2) : ∃ a b, l = [a, b] := by
  match l, h with
  | [a, b], _ => exact ⟨a, b, rfl⟩
end Go.Proofs.Ytjbfncjdedigdaa
/- What a law is given, opened: a holding, as the form of claims has it. -/
namespace Go.Proofs.Ytjbfncjdedigdaa
open Go.ChangeShapes Go.WideShapes Go.ChangeAt Go.RowKit

theorem Try.cellsH : Try.prog.cellsOf 63 = 4 := by kernel_rfl
theorem four_vals {l : List Value} (h : l.length = 4) : ∃ a b c d, l = [a, b, c, d] := by
  match l, h with
  | [a, b, c, d], _ => exact ⟨a, b, c, d, rfl⟩
set_option maxRecDepth 20000 in
theorem open_num {H : Type} {enc : TypeId × Value → H} {w : World} {base : Nat} {held : Bool} {fuel : Nat} {c : Value} {x : DataW H × List MemPlace}
    (h : DataW.trod enc Try.prog w base (fun _ => true) held fuel 2 [c] = some x) : ∃ n : Int, c = .int .i64 n ∧ -9223372036854775808 ≤ n ∧ n ≤ 9223372036854775807 := by
  obtain ⟨n, he, _, hw⟩ := DataW.trod_int Try.underlying2 h
  simp at he
  exact ⟨n, he, by simpa [Lit.wf, IntKind.min, IntKind.max, IntKind.signed, IntKind.bits] using hw⟩
set_option maxRecDepth 20000 in
theorem open_holding {H : Type} {enc : TypeId × Value → H} {w : World} {base b' : Nat} {held : Bool} {v : Value} {d : DataW H} {p : List MemPlace}
    (hv : Value.okWide Try.prog w .any base 63 v) (h : DataW.Trod enc Try.prog w b' (fun _ => true) held 63 v d p) :
    ∃ (h : Hd) (u : Value), v = HV u h ∧ Reads w u h.ks := by
  obtain ⟨cs, rfl, hsz⟩ := okWide_struct Try.underlying63 hv
  rw [Try.cellsH] at hsz
  obtain ⟨l⟩ := cs
  obtain ⟨a, b, c, e, rfl⟩ := four_vals (l := l) (by simpa using hsz)
  obtain ⟨fuel, hf⟩ := h
  obtain ⟨xs, n, _, _, hl, hlen, hf⟩ := DataW.trod_struct Try.underlying63 hf
  match xs, hlen with
  | [y0, y1, y2, y3], _ =>
    have h0 := hf 0 _ rfl
    have h1 := hf 1 _ rfl
    have h2 := hf 2 _ rfl
    have h3 := hf 3 _ rfl
    simp [Value.cells, Try.cellsI, Try.cellsL] at h0 h1 h2 h3
    obtain ⟨ks, hks⟩ := open_list h0
    obtain ⟨n1, rfl, k1⟩ := open_num h1
    obtain ⟨n2, rfl, k2⟩ := open_num h2
    obtain ⟨n3, rfl, k3⟩ := open_num h3
    exact ⟨⟨ks, n1, n2, n3⟩, a, rfl, hks⟩
end Go.Proofs.Ytjbfncjdedigdaa
/- What a law is given, opened: a row of messages, as the form of claims has it. -/
namespace Go.Proofs.Ytjbfncjdedigdaa
open Go.ChangeShapes Go.WideShapes Go.ChangeAt Go.RowKit

theorem Try.cellsMg : Try.prog.cellsOf 65 = 11 := by kernel_rfl
theorem eleven_vals {l : List Value} (h : l.length = 11) : ∃ a0 a1 a2 a3 a4 a5 a6 a7 a8 a9 b0, l = [a0, a1, a2, a3, a4, a5, a6, a7, a8, a9, b0] := by
  match l, h with
  | [a0, a1, a2, a3, a4, a5, a6, a7, a8, a9, b0], _ => exact ⟨a0, a1, a2, a3, a4, a5, a6, a7, a8, a9, b0, rfl⟩
set_option maxRecDepth 20000 in
set_option maxHeartbeats 2000000 in
theorem open_msg {H : Type} {enc : TypeId × Value → H} {w : World} {base : Nat} {held : Bool} {fuel : Nat} {cs : List Value} {x : DataW H × List MemPlace} (hs : cs.length = 11)
    (h : DataW.trod enc Try.prog w base (fun _ => true) held fuel 65 cs = some x) : ∃ (m : Mg) (u : Value), cs = (mgA u m).toList ∧ Reads w u m.h.ks := by
  obtain ⟨a0, a1, a2, a3, a4, a5, a6, a7, a8, a9, b0, rfl⟩ := eleven_vals hs
  obtain ⟨xs, n, _, _, hl, hlen, hf⟩ := DataW.trod_struct Try.underlying65 h
  match xs, hlen with
  | [y0, y1, y2, y3, y4, y5, y6, y7], _ =>
    have h0 := hf 0 _ rfl
    have h1 := hf 1 _ rfl
    have h2 := hf 2 _ rfl
    have h3 := hf 3 _ rfl
    have h4 := hf 4 _ rfl
    have h5 := hf 5 _ rfl
    have h6 := hf 6 _ rfl
    have h7 := hf 7 _ rfl
    simp [Try.cellsI, Try.cellsH] at h0 h1 h2 h3 h4 h5 h6 h7
    obtain ⟨n0, rfl, _⟩ := open_num h0
    obtain ⟨n1, rfl, _⟩ := open_num h1
    obtain ⟨n2, rfl, _⟩ := open_num h2
    obtain ⟨n3, rfl, _⟩ := open_num h3
    obtain ⟨n4, rfl, _⟩ := open_num h4
    obtain ⟨n5, rfl, _⟩ := open_num h5
    obtain ⟨n6, rfl, _⟩ := open_num h6
    obtain ⟨ts, _, _, _, _, tlen, ht⟩ := DataW.trod_struct Try.underlying63 h7
    match ts, tlen with
    | [t0, t1, t2, t3], _ =>
      have v0 := ht 0 _ rfl
      have v1 := ht 1 _ rfl
      have v2 := ht 2 _ rfl
      have v3 := ht 3 _ rfl
      simp [Try.cellsI, Try.cellsL] at v0 v1 v2 v3
      obtain ⟨kk, hkk⟩ := open_list v0
      obtain ⟨k1, rfl, _⟩ := open_num v1
      obtain ⟨k2, rfl, _⟩ := open_num v2
      obtain ⟨k3, rfl, _⟩ := open_num v3
      exact ⟨⟨n0, n1, n2, n3, n4, n5, n6, ⟨kk, k1, k2, k3⟩⟩, a7, rfl, hkk⟩
theorem rows_of {w : World} {a : Addr} (len : Nat) (h : ∀ i, i < len → ∃ (m : Mg) (u : Value), Reads w u m.h.ks ∧ ∀ k, k < 11 → w.cell? (a.add (i * 11 + k)) = (mgA u m)[k]?) :
    ∃ ps : List (Value × Mg), ps.length = len ∧ ∀ i, i < len → ∃ m u, ps[i]? = some (u, m) ∧ Reads w u m.h.ks ∧ ∀ k, k < 11 → w.cell? (a.add (i * 11 + k)) = (mgA u m)[k]? := by
  induction len with
  | zero => exact ⟨[], rfl, fun i hi => absurd hi (Nat.not_lt_zero _)⟩
  | succ n ih =>
    obtain ⟨ps, hl, hp⟩ := ih (fun i hi => h i (Nat.lt_succ_of_lt hi))
    obtain ⟨m, u, hr, hc⟩ := h n (Nat.lt_succ_self n)
    refine ⟨ps ++ [(u, m)], by simp [hl], fun i hi => ?_⟩
    rcases Nat.lt_succ_iff_lt_or_eq.1 hi with hlt | rfl
    · obtain ⟨m', u', e, hr', hc'⟩ := hp i hlt
      exact ⟨m', u', by rw [List.getElem?_append_left (by omega), e], hr', hc'⟩
    · exact ⟨m, u, by rw [List.getElem?_append_right (by omega), hl, Nat.sub_self]; rfl, hr, hc⟩
set_option maxRecDepth 20000 in
theorem open_post {H : Type} {enc : TypeId × Value → H} {w : World} {base b' : Nat} {held : Bool} {v : Value} {d : DataW H} {p : List MemPlace}
    (hv : Value.okWide Try.prog w .any base 42 v) (h : DataW.Trod enc Try.prog w b' (fun _ => true) held 42 v d p) : ∃ ps : List (Value × Mg), RdP w v ps := by
  obtain ⟨a0, l0, c0, rfl⟩ := okWide_slice Try.underlying42 hv
  obtain ⟨fuel, hf⟩ := h
  rcases Go.Deep.open_slice Try.underlying42 hf with ⟨hc, _⟩ | ⟨a, len, cap, m, n, D, Pl, hc, _, hl, hm, hmm, _, hx⟩
  · simp [Value.cells] at hc
    obtain ⟨rfl, rfl, rfl⟩ := hc
    exact ⟨[], (OwnP.nil w 0).rd⟩
  · simp [Value.cells] at hc
    obtain ⟨rfl, rfl, rfl⟩ := hc
    rw [if_pos rfl] at hmm
    subst hmm
    rw [Try.cellsMg] at hx
    obtain ⟨ps, hlen, hp⟩ := rows_of (w := w) (a := a) l0 (fun i hi => by
      obtain ⟨cs, hcs, ht⟩ := hx i (by omega)
      obtain ⟨_, hsz, hcell⟩ := World.cells?_some hcs
      obtain ⟨q, u, rfl, hr⟩ := open_msg hsz ht
      refine ⟨q, u, hr, fun k hk => ?_⟩
      have := hcell k hk
      rw [Go.Deep.add_add] at this
      rw [this]
      simp)
    refine ⟨ps, ⟨msC_sz _, ?_⟩, fun q hq => ?_⟩
    · refine ⟨some a, m, by rw [msC_len, hlen], by rw [msC_len, hlen]; exact hl, ⟨hm, fun e => by cases e⟩, ?_⟩
      rcases Nat.eq_zero_or_pos l0 with rfl | hpos
      · exact .inl (by rw [List.eq_nil_of_length_eq_zero hlen]; rfl)
      · obtain ⟨b, off, spot⟩ := a
        obtain ⟨q, u, _, _, h0⟩ := hp 0 hpos
        have hspot : spot = none := by
          have h1 := h0 0 (by decide)
          simpa [Addr.add] using World.cell?_spot h1
        subst hspot
        refine .inr ⟨b, off, rfl, fun j i hj hi => ?_⟩
        rw [msC_len, hlen] at hj
        obtain ⟨q, u, e, _, hc⟩ := hp j hj
        have hc := hc i hi
        rw [addr_add] at hc
        rw [hc]
        simp [msC, List.getD, e]
    · obtain ⟨i, hi, e⟩ := List.getElem_of_mem hq
      obtain ⟨q', u', e', hr, _⟩ := hp i (by omega)
      have : q = (u', q') := by rw [List.getElem?_eq_getElem hi, e] at e'; exact Option.some.inj e'
      rw [this]
      exact hr
end Go.Proofs.Ytjbfncjdedigdaa
/- An empty list is marked: nothing is written. -/
namespace Go.Proofs.Ytjbfncjdedigdaa
open Go.ChangeShapes Go.WideShapes Go.ChangeAt Go.RowKit

set_option maxRecDepth 20000 in
set_option maxHeartbeats 400000 in
theorem mark0_any (v : Value) (k : Int) (w : World) (h : Reads w v []) :
    Calls Try.prog 44 #[v, .int .i64 k] w fun e w' => e = .returned (.int .i64 k) ∧ w' = w := by
  obtain ⟨ao, cap, e⟩ := reads_form h
  simp only [List.length_nil] at e
  subst e
  clear h
  go_enter Try.func44, Try.ntmps44
  go_wp2
  go_loop [1, 5] (fun q i => i = .int .i64 0 ∧ q = .int .i64 k) (fun _ _ => 0)
  case atStart => exact ⟨rfl, rfl⟩
  case round =>
    obtain ⟨rfl, rfl⟩ := hrel
    go_wp2
    go_ret
    exact ⟨rfl, rfl⟩

end Go.Proofs.Ytjbfncjdedigdaa
