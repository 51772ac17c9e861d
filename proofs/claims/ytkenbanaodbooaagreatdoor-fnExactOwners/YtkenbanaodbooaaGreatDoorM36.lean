/- What a law is given, opened: a pair, as the form of claims has it. -/
import Derived.Test.YtkenbanaodbooaaGreatDoorLPair2
import Derived.Test.YtkenbanaodbooaaGreatDoorM35
import Derived.Test.YtkenbanaodbooaaGreatDoorM29
import Derived.Test.YtkenbanaodbooaaGreatDoorM34
import Derived.Test.YtkenbanaodbooaaGreatDoorM19
import Derived.Test.YtkenbanaodbooaaGreatDoorM6
namespace Go.Proofs.YtkenbanaodbooaaGreatDoor
open Go.ChangeShapes Go.WideShapes Go.ChangeAt Go.RowKit

theorem Tryz.cellsEvL : Tryz.prog.cellsOf 84 = 6 := by kernel_rfl
theorem Tryz.cellsAnL : Tryz.prog.cellsOf 82 = 2 := by kernel_rfl
theorem Tryz.cellsPrL : Tryz.prog.cellsOf 26 = 3 := by kernel_rfl
theorem Tryz.cellsNsL : Tryz.prog.cellsOf 22 = 1 := by kernel_rfl
theorem Tryz.cellsMsL : Tryz.prog.cellsOf 23 = 1 := by kernel_rfl
theorem Tryz.cellsEsL : Tryz.prog.cellsOf 24 = 1 := by kernel_rfl
theorem six_vals {l : List Value} (h : l.length = 6) : ∃ a0 a1 a2 a3 a4 a5, l = [a0, a1, a2, a3, a4, a5] := by
  match l, h with
  | [a0, a1, a2, a3, a4, a5], _ => exact ⟨a0, a1, a2, a3, a4, a5, rfl⟩
theorem three_vals {l : List Value} (h : l.length = 3) : ∃ a0 a1 a2, l = [a0, a1, a2] := by
  match l, h with
  | [a0, a1, a2], _ => exact ⟨a0, a1, a2, rfl⟩
set_option maxRecDepth 20000 in
set_option maxHeartbeats 2000000 in
theorem open_event {H : Type} {enc : TypeId × Value → H} {w : World} {base : Nat} {held : Bool} {fuel : Nat} {cs : List Value} {x : DataW H × List MemPlace} (hs : cs.length = 6)
    (h : DataW.trod enc Tryz.prog w base (fun _ => true) held fuel 84 cs = some x) : ∃ e : Ev, cs = (evA e).toList ∧ e.bs.length ≤ maxLen ∧ e.an.tx.length ≤ maxLen := by
  obtain ⟨a0, a1, a2, a3, a4, a5, rfl⟩ := six_vals hs
  obtain ⟨xs, n, _, _, hl, hlen, hf⟩ := DataW.trod_struct Tryz.underlying84 h
  match xs, hlen with
  | [y0, y1, y2, y3, y4], _ =>
    have h0 := hf 0 _ rfl
    have h1 := hf 1 _ rfl
    have h2 := hf 2 _ rfl
    have h3 := hf 3 _ rfl
    have h4 := hf 4 _ rfl
    simp [Tryz.cellsI, Tryz.cellsSt, Tryz.cellsAnL] at h0 h1 h2 h3 h4
    obtain ⟨kd, rfl, _⟩ := open_num h0
    obtain ⟨who, rfl, _⟩ := open_num h1
    obtain ⟨bs, rfl, hb⟩ := open_str h2
    obtain ⟨set, rfl, _⟩ := open_num h4
    obtain ⟨ts, _, _, _, _, tlen, ht⟩ := DataW.trod_struct Tryz.underlying82 h3
    match ts, tlen with
    | [t0, t1], _ =>
      have v0 := ht 0 _ rfl
      have v1 := ht 1 _ rfl
      simp [Tryz.cellsI, Tryz.cellsSt] at v0 v1
      obtain ⟨st, rfl, _⟩ := open_num v0
      obtain ⟨tx, rfl, htx⟩ := open_str v1
      exact ⟨⟨kd, who, bs, ⟨st, tx⟩, set⟩, rfl, hb, htx⟩
set_option maxRecDepth 20000 in
set_option maxHeartbeats 2000000 in
theorem open_nodeC {H : Type} {enc : TypeId × Value → H} {w : World} {base : Nat} {held : Bool} {fuel : Nat} {cs : List Value} {x : DataW H × List MemPlace} (hs : cs.length = 20)
    (h : DataW.trod enc Tryz.prog w base (fun _ => true) held fuel 77 cs = some x) : ∃ y : Nv, cs = y.A.toList ∧ y.rd w ∧ y.n.log.length ≤ maxLen := by
  obtain ⟨a0, a1, a2, a3, a4, a5, a6, a7, a8, a9, b0, b1, b2, b3, b4, b5, b6, b7, b8, b9, rfl⟩ := twenty_vals hs
  obtain ⟨xs, n, _, _, hl, hlen, hf⟩ := DataW.trod_struct Tryz.underlying77 h
  match xs, hlen with
  | [y0, y1, y2, y3, y4, y5, y6, y7], _ =>
    have h0 := hf 0 _ rfl
    have h1 := hf 1 _ rfl
    have h2 := hf 2 _ rfl
    have h3 := hf 3 _ rfl
    have h4 := hf 4 _ rfl
    have h5 := hf 5 _ rfl
    have h6 := hf 6 _ rfl
    have h7 := hf 7 _ rfl
    simp [Tryz.cellsI, Tryz.cellsBo, Tryz.cellsSt, Tryz.cellsD, Tryz.cellsH, Tryz.cellsR, Tryz.cellsCp, Tryz.cellsSn] at h0 h1 h2 h3 h4 h5 h6 h7
    obtain ⟨id, rfl⟩ := open_numC h0
    obtain ⟨up, rfl⟩ := open_boolC h1
    obtain ⟨log, rfl, hlog⟩ := open_str h4
    obtain ⟨zs, _, _, _, _, zlen, hz⟩ := DataW.trod_struct Tryz.underlying71 h2
    obtain ⟨ts, _, _, _, _, tlen, ht⟩ := DataW.trod_struct Tryz.underlying72 h3
    obtain ⟨rs, _, _, _, _, rlen, hr⟩ := DataW.trod_struct Tryz.underlying73 h5
    obtain ⟨ks, _, _, _, _, klen, hk⟩ := DataW.trod_struct Tryz.underlying74 h6
    obtain ⟨ss, _, _, _, _, slen, hss⟩ := DataW.trod_struct Tryz.underlying75 h7
    match zs, zlen, ts, tlen with
    | [z0, z1], _, [t0, t1, t2, t3], _ =>
      match rs, rlen, ks, klen with
      | [r0, r1, r2, r3], _, [k0, k1, k2, k3, k4], _ =>
        match ss, slen with
        | [s0, s1], _ =>
          have u0 := hz 0 _ rfl
          have u1 := hz 1 _ rfl
          have v0 := ht 0 _ rfl
          have v1 := ht 1 _ rfl
          have v2 := ht 2 _ rfl
          have v3 := ht 3 _ rfl
          have c0 := hr 0 _ rfl
          have c1 := hr 1 _ rfl
          have c2 := hr 2 _ rfl
          have c3 := hr 3 _ rfl
          have d0 := hk 0 _ rfl
          have d1 := hk 1 _ rfl
          have d2 := hk 2 _ rfl
          have d3 := hk 3 _ rfl
          have d4 := hk 4 _ rfl
          have e0 := hss 0 _ rfl
          have e1 := hss 1 _ rfl
          simp [Tryz.cellsI, Tryz.cellsL, Tryz.cellsBo] at u0 u1 v0 v1 v2 v3 c0 c1 c2 c3 d0 d1 d2 d3 d4 e0 e1
          obtain ⟨xs, hxs⟩ := open_list u0
          obtain ⟨ys, hys⟩ := open_list u1
          obtain ⟨kk, hkk⟩ := open_list v0
          obtain ⟨n1, rfl⟩ := open_numC v1
          obtain ⟨n2, rfl⟩ := open_numC v2
          obtain ⟨n3, rfl⟩ := open_numC v3
          obtain ⟨m0, rfl⟩ := open_numC c0
          obtain ⟨m1, rfl⟩ := open_numC c1
          obtain ⟨m2, rfl⟩ := open_numC c2
          obtain ⟨m3, rfl⟩ := open_numC c3
          obtain ⟨o0, rfl⟩ := open_numC d0
          obtain ⟨o1, rfl⟩ := open_boolC d1
          obtain ⟨o2, rfl⟩ := open_numC d2
          obtain ⟨o3, rfl⟩ := open_numC d3
          obtain ⟨cts, hcts⟩ := open_list d4
          obtain ⟨q0, rfl⟩ := open_numC e0
          obtain ⟨sts, hsts⟩ := open_list e1
          exact ⟨⟨_, _, _, _, _, ⟨id, up, xs, ys, ⟨kk, n1, n2, n3⟩, log, ⟨m0, m1, m2, m3⟩, ⟨o0, o1, o2, o3, cts⟩, ⟨q0, sts⟩⟩⟩, rfl, ⟨hxs, hys, hkk, hcts, hsts⟩, hlog⟩
theorem rowsE_of {w : World} {a : Addr} (len : Nat) (h : ∀ i, i < len → ∃ e : Ev, (e.bs.length ≤ maxLen ∧ e.an.tx.length ≤ maxLen) ∧ ∀ k, k < 6 → w.cell? (a.add (i * 6 + k)) = (evA e)[k]?) :
    ∃ es : List Ev, es.length = len ∧ ∀ i, i < len → ∃ e, es[i]? = some e ∧ (e.bs.length ≤ maxLen ∧ e.an.tx.length ≤ maxLen) ∧ ∀ k, k < 6 → w.cell? (a.add (i * 6 + k)) = (evA e)[k]? := by
  induction len with
  | zero => exact ⟨[], rfl, fun i hi => absurd hi (Nat.not_lt_zero _)⟩
  | succ n ih =>
    obtain ⟨ps, hl, hp⟩ := ih (fun i hi => h i (Nat.lt_succ_of_lt hi))
    obtain ⟨m, hr, hc⟩ := h n (Nat.lt_succ_self n)
    refine ⟨ps ++ [m], by simp [hl], fun i hi => ?_⟩
    rcases Nat.lt_succ_iff_lt_or_eq.1 hi with hlt | rfl
    · obtain ⟨m', e, hr', hc'⟩ := hp i hlt
      exact ⟨m', by rw [List.getElem?_append_left (by omega), e], hr', hc'⟩
    · exact ⟨m, by rw [List.getElem?_append_right (by omega), hl, Nat.sub_self]; rfl, hr, hc⟩
theorem rowsN_of {w : World} {a : Addr} (len : Nat) (h : ∀ i, i < len → ∃ y : Nv, (y.rd w ∧ y.n.log.length ≤ maxLen) ∧ ∀ k, k < 20 → w.cell? (a.add (i * 20 + k)) = y.A[k]?) :
    ∃ ns : List Nv, ns.length = len ∧ ∀ i, i < len → ∃ y, ns[i]? = some y ∧ (y.rd w ∧ y.n.log.length ≤ maxLen) ∧ ∀ k, k < 20 → w.cell? (a.add (i * 20 + k)) = y.A[k]? := by
  induction len with
  | zero => exact ⟨[], rfl, fun i hi => absurd hi (Nat.not_lt_zero _)⟩
  | succ n ih =>
    obtain ⟨ps, hl, hp⟩ := ih (fun i hi => h i (Nat.lt_succ_of_lt hi))
    obtain ⟨m, hr, hc⟩ := h n (Nat.lt_succ_self n)
    refine ⟨ps ++ [m], by simp [hl], fun i hi => ?_⟩
    rcases Nat.lt_succ_iff_lt_or_eq.1 hi with hlt | rfl
    · obtain ⟨m', e, hr', hc'⟩ := hp i hlt
      exact ⟨m', by rw [List.getElem?_append_left (by omega), e], hr', hc'⟩
    · exact ⟨m, by rw [List.getElem?_append_right (by omega), hl, Nat.sub_self]; rfl, hr, hc⟩
set_option maxRecDepth 20000 in
theorem open_nodesC {H : Type} {enc : TypeId × Value → H} {w : World} {base : Nat} {held : Bool} {fuel : Nat} {v : Value} {x : DataW H × List MemPlace}
    (h : DataW.trod enc Tryz.prog w base (fun _ => true) held fuel 22 [v] = some x) : ∃ ns : List Nv, RdNs w v ns ∧ ∀ y ∈ ns, y.n.log.length ≤ maxLen := by
  rcases Go.Deep.open_slice Tryz.underlying22 h with ⟨hc, _⟩ | ⟨a, len, cap, m, n, D, Pl, hc, _, hl, hm, hmm, _, hx⟩
  · simp at hc
    subst hc
    exact ⟨[], (OwnNs.nil w 0).rd, by simp⟩
  · simp at hc
    subst hc
    rw [if_pos rfl] at hmm
    subst hmm
    rw [Tryz.cellsNd] at hx
    obtain ⟨ps, hlen, hp⟩ := rowsN_of (w := w) (a := a) len (fun i hi => by
      obtain ⟨cs, hcs, ht⟩ := hx i (by omega)
      obtain ⟨_, hsz, hcell⟩ := World.cells?_some hcs
      obtain ⟨y, rfl, hr, hlg⟩ := open_nodeC hsz ht
      refine ⟨y, ⟨hr, hlg⟩, fun k hk => ?_⟩
      have := hcell k hk
      rw [Go.Deep.add_add] at this
      rw [this]
      simp)
    have hall : ∀ q ∈ ps, q.rd w ∧ q.n.log.length ≤ maxLen := fun q hq => by
      obtain ⟨i, hi, e⟩ := List.getElem_of_mem hq
      obtain ⟨y, e', hr, _⟩ := hp i (by omega)
      have : q = y := by rw [List.getElem?_eq_getElem hi, e] at e'; exact Option.some.inj e'
      rw [this]
      exact hr
    refine ⟨ps, ⟨⟨nsC_sz _, ?_⟩, fun q hq => (hall q hq).1⟩, fun q hq => (hall q hq).2⟩
    refine ⟨some a, m, by rw [nsC_len, hlen], by rw [nsC_len, hlen]; exact hl, ⟨hm, fun e => by cases e⟩, ?_⟩
    rcases Nat.eq_zero_or_pos len with rfl | hpos
    · exact .inl (by rw [List.eq_nil_of_length_eq_zero hlen]; rfl)
    · obtain ⟨b, off, spot⟩ := a
      obtain ⟨q, _, _, h0⟩ := hp 0 hpos
      have hspot : spot = none := by
        have h1 := h0 0 (by decide)
        simpa [Addr.add] using World.cell?_spot h1
      subst hspot
      refine .inr ⟨b, off, rfl, fun j i hj hi => ?_⟩
      rw [nsC_len, hlen] at hj
      obtain ⟨q, e, _, hc⟩ := hp j hj
      have hc := hc i hi
      rw [addr_add] at hc
      rw [hc]
      simp [nsC, List.getD, e]
set_option maxRecDepth 20000 in
theorem open_eventsC {H : Type} {enc : TypeId × Value → H} {w : World} {base : Nat} {held : Bool} {fuel : Nat} {v : Value} {x : DataW H × List MemPlace}
    (h : DataW.trod enc Tryz.prog w base (fun _ => true) held fuel 24 [v] = some x) : ∃ es : List Ev, RdE w v es ∧ ∀ e ∈ es, e.bs.length ≤ maxLen ∧ e.an.tx.length ≤ maxLen := by
  rcases Go.Deep.open_slice Tryz.underlying24 h with ⟨hc, _⟩ | ⟨a, len, cap, m, n, D, Pl, hc, _, hl, hm, hmm, _, hx⟩
  · simp at hc
    subst hc
    exact ⟨[], OwnE.rd (OwnE.nil w 0), by simp⟩
  · simp at hc
    subst hc
    rw [if_pos rfl] at hmm
    subst hmm
    rw [Tryz.cellsEvL] at hx
    obtain ⟨ps, hlen, hp⟩ := rowsE_of (w := w) (a := a) len (fun i hi => by
      obtain ⟨cs, hcs, ht⟩ := hx i (by omega)
      obtain ⟨_, hsz, hcell⟩ := World.cells?_some hcs
      obtain ⟨y, rfl, h1, h2⟩ := open_event hsz ht
      refine ⟨y, ⟨h1, h2⟩, fun k hk => ?_⟩
      have := hcell k hk
      rw [Go.Deep.add_add] at this
      rw [this]
      simp)
    have hall : ∀ q ∈ ps, q.bs.length ≤ maxLen ∧ q.an.tx.length ≤ maxLen := fun q hq => by
      obtain ⟨i, hi, e⟩ := List.getElem_of_mem hq
      obtain ⟨y, e', hr, _⟩ := hp i (by omega)
      have : q = y := by rw [List.getElem?_eq_getElem hi, e] at e'; exact Option.some.inj e'
      rw [this]
      exact hr
    refine ⟨ps, ⟨evC_sz _, ?_⟩, hall⟩
    refine ⟨some a, m, by rw [evC_len, hlen], by rw [evC_len, hlen]; exact hl, ⟨hm, fun e => by cases e⟩, ?_⟩
    rcases Nat.eq_zero_or_pos len with rfl | hpos
    · exact .inl (by rw [List.eq_nil_of_length_eq_zero hlen]; rfl)
    · obtain ⟨b, off, spot⟩ := a
      obtain ⟨q, _, _, h0⟩ := hp 0 hpos
      have hspot : spot = none := by
        have h1 := h0 0 (by decide)
        simpa [Addr.add] using World.cell?_spot h1
      subst hspot
      refine .inr ⟨b, off, rfl, fun j i hj hi => ?_⟩
      rw [evC_len, hlen] at hj
      obtain ⟨q, e, _, hc⟩ := hp j hj
      have hc := hc i hi
      rw [addr_add] at hc
      rw [hc]
      simp [evC, List.getD, e]
set_option maxRecDepth 20000 in
theorem open_postC {H : Type} {enc : TypeId × Value → H} {w : World} {base : Nat} {held : Bool} {fuel : Nat} {v : Value} {x : DataW H × List MemPlace}
    (h : DataW.trod enc Tryz.prog w base (fun _ => true) held fuel 23 [v] = some x) : ∃ ps : List (Value × Mg), RdP w v ps := by
  rcases Go.Deep.open_slice Tryz.underlying23 h with ⟨hc, _⟩ | ⟨a, len, cap, m, n, D, Pl, hc, _, hl, hm, hmm, _, hx⟩
  · simp at hc
    subst hc
    exact ⟨[], (OwnP.nil w 0).rd⟩
  · simp at hc
    subst hc
    rw [if_pos rfl] at hmm
    subst hmm
    rw [Tryz.cellsMg] at hx
    obtain ⟨ps, hlen, hp⟩ := rows_of (w := w) (a := a) len (fun i hi => by
      obtain ⟨cs, hcs, ht⟩ := hx i (by omega)
      obtain ⟨_, hsz, hcell⟩ := World.cells?_some hcs
      obtain ⟨q, u, rfl, hr⟩ := open_msg hsz ht
      refine ⟨q, u, hr, fun k hk => ?_⟩
      have := hcell k hk
      rw [Go.Deep.add_add] at this
      rw [this]
      simp)
    refine ⟨ps, ⟨msC_sz _, ?_⟩, fun q hq => ?_⟩
    · refine ⟨some a, m, by rw [msC_len, hlen], by rw [msC_len, hlen]; exact hl, ⟨hm, fun e => by cases e⟩, ?_⟩
      rcases Nat.eq_zero_or_pos len with rfl | hpos
      · exact .inl (by rw [List.eq_nil_of_length_eq_zero hlen]; rfl)
      · obtain ⟨b, off, spot⟩ := a
        obtain ⟨q, u, _, _, h0⟩ := hp 0 hpos
        have hspot : spot = none := by
          have h1 := h0 0 (by decide)
          simpa [Addr.add] using World.cell?_spot h1
        subst hspot
        refine .inr ⟨b, off, rfl, fun j i hj hi => ?_⟩
        rw [msC_len, hlen] at hj
        obtain ⟨q, u, e, _, hc⟩ := hp j hj
        have hc := hc i hi
        rw [addr_add] at hc
        rw [hc]
        simp [msC, List.getD, e]
    · obtain ⟨i, hi, e⟩ := List.getElem_of_mem hq
      obtain ⟨q', u', e', hr, _⟩ := hp i (by omega)
      have : q = (u', q') := by rw [List.getElem?_eq_getElem hi, e] at e'; exact Option.some.inj e'
      rw [this]
      exact hr
/- What a law's pair is: its three rows, no text of it greater than texts are. -/
structure OpPr (w : World) (u v x : Value) (ns : List Nv) (ps : List (Value × Mg)) (es : List Ev) : Prop where
  rd : RdPr w u v x ns ps es
  ln : ∀ y ∈ ns, y.n.log.length ≤ maxLen
  le : ∀ e ∈ es, e.bs.length ≤ maxLen ∧ e.an.tx.length ≤ maxLen
set_option maxRecDepth 20000 in
set_option maxHeartbeats 2000000 in
theorem open_pair {H : Type} {enc : TypeId × Value → H} {w : World} {base b' : Nat} {held : Bool} {v : Value} {d : DataW H} {p : List MemPlace}
    (hv : Value.okWide Tryz.prog w .any base 26 v) (h : DataW.Trod enc Tryz.prog w b' (fun _ => true) held 26 v d p) :
    ∃ (ns : List Nv) (ps : List (Value × Mg)) (es : List Ev) (a b x : Value), v = PrV a b x ∧ OpPr w a b x ns ps es := by
  obtain ⟨cs, rfl, hsz⟩ := okWide_struct Tryz.underlying26 hv
  rw [Tryz.cellsPrL] at hsz
  obtain ⟨l⟩ := cs
  obtain ⟨a0, a1, a2, rfl⟩ := three_vals (l := l) (by simpa using hsz)
  obtain ⟨fuel, hf⟩ := h
  obtain ⟨xs, n, _, _, hl, hlen, hf⟩ := DataW.trod_struct Tryz.underlying26 hf
  match xs, hlen with
  | [y0, y1, y2], _ =>
    have h0 := hf 0 _ rfl
    have h1 := hf 1 _ rfl
    have h2 := hf 2 _ rfl
    simp [Value.cells, Tryz.cellsNsL, Tryz.cellsMsL, Tryz.cellsEsL] at h0 h1 h2
    obtain ⟨ns, hn, hln⟩ := open_nodesC h0
    obtain ⟨ps, hp⟩ := open_postC h1
    obtain ⟨es, he, hle⟩ := open_eventsC h2
    exact ⟨ns, ps, es, _, _, _, rfl, ⟨hn, hp, he⟩, hln, hle⟩
end Go.Proofs.YtkenbanaodbooaaGreatDoor
/- Pairs in regions that draw their order: one that is answered in new memory. -/
namespace Go.Proofs.YtkenbanaodbooaaGreatDoor
open Go.ChangeShapes Go.WideShapes Go.ChangeAt Go.RowKit

def prG (NS : List Nd) (MS : List Mg) (es : List Ev) : GSpec := ⟨fun u => ∃ a b x, u = .agg (prA a b x), fun u w => ∃ ns ps a b x, u = .agg (prA a b x) ∧ RdPr w a b x ns ps es ∧ nsOf ns = NS ∧ msOf ps = MS⟩
theorem prG_later {NS : List Nd} {MS : List Mg} {es : List Ev} {u : Value} {x y : World} (hx : (prG NS MS es).F u x) (hl : Later x y) : (prG NS MS es).F u y := by
  obtain ⟨ns, ps, a, b, v, e, h, e1, e2⟩ := hx
  exact ⟨ns, ps, a, b, v, e, h.below hl, e1, e2⟩
theorem prG_rd {NS : List Nd} {MS : List Mg} {es : List Ev} {a b x : Value} {w : World} (h : (prG NS MS es).F (.agg (prA a b x)) w) : ∃ ns ps, RdPr w a b x ns ps es ∧ nsOf ns = NS ∧ msOf ps = MS := by
  obtain ⟨ns, ps, a', b', x', e, h, e1, e2⟩ := h
  have e' := congrArg (fun v => match v with | .agg cs => cs | _ => #[]) e
  simp only [prA] at e'
  have g : ∀ j : Nat, _ := fun j => congrArg (fun cs : Array Value => cs[j]?) e'
  have h0 := g 0
  have h1 := g 1
  have h2 := g 2
  simp at h0 h1 h2
  subst h0 h1 h2
  exact ⟨ns, ps, h, e1, e2⟩
theorem prG_of {P : Program} {f : FuncId} {args : Array Value} {w : World} {NS : List Nd} {MS : List Mg} {es : List Ev} (h : Calls P f args w fun e w' => ∃ a b x ns ps, e = .returned (.agg (prA a b x)) ∧ nsOf ns = NS ∧ msOf ps = MS ∧ OwnPr w' w.heap.size a b x ns ps es ∧ Below w.heap.size w w') : Calls P f args w (fun e w'' => ∃ u, e = .returned u ∧ (prG NS MS es).V u ∧ (prG NS MS es).F u w'' ∧ Later w w'') :=
  h.mono fun _ _ ⟨a, b, x, ns, ps, he, e1, e2, o, hb⟩ => ⟨_, he, ⟨a, b, x, rfl⟩, ⟨ns, ps, a, b, x, rfl, o.rd, e1, e2⟩, hb⟩
theorem SmPr.of {ns ns2 : List Nv} {ps ps2 : List (Value × Mg)} {es : List Ev} (h : SmPr ns ps es) (e1 : nsOf ns2 = nsOf ns) (e2 : msOf ps2 = msOf ps) : SmPr ns2 ps2 es := by
  have l1 : ns2.length = ns.length := by rw [← nsOf_len, ← nsOf_len, e1]
  have l2 : ps2.length = ps.length := len_of e2
  refine ⟨fun x hx => ?_, by rw [l1]; exact h.ln, smp_of e2 h.sp, by rw [l2]; exact h.lp, h.le, ?_, ?_, h.te⟩
  · have h1 : x.n ∈ nsOf ns2 := List.mem_map.2 ⟨x, hx, rfl⟩
    rw [e1] at h1
    obtain ⟨y, hy, e⟩ := List.mem_map.1 h1
    rw [← e]
    exact h.sn y hy
  · have := h.tn
    have e : totV ns2 = totV ns := by
      have := congrArg (fun l : List Nd => (l.map fun n => n.len + n.log.length).sum) e1
      simpa [nsOf, totV, List.map_map, Function.comp_def] using this
    rw [e]; exact this
  · have := h.tk
    have e : totK ps2 = totK ps := by
      have := congrArg (fun l : List Mg => (l.map fun m => m.h.ks.length).sum) e2
      simpa [msOf, totK, List.map_map, Function.comp_def] using this
    rw [e]; exact this
end Go.Proofs.YtkenbanaodbooaaGreatDoor
/- Pairs by the model: l17Event, PairOk, l17Owners, Owners. -/
namespace Go.Proofs.YtkenbanaodbooaaGreatDoor
open Go.ChangeShapes Go.WideShapes Go.ChangeAt Go.RowKit

def evsOk (es : List Ev) : Bool := decide (es.length ≤ 300) && es.all Ev.ok
def nodesP (ns : List Nd) : Bool := match ns with
  | [a, b] => a.ok && b.ok && decide (a.id = 0) && decide (b.id = 1) && decide (a.ys.length = b.ys.length)
  | _ => false
def paOk (ns : List Nd) (ms : List Mg) (es : List Ev) : Bool := nodesP ns && postOk ms && evsOk es

set_option maxRecDepth 20000 in
set_option maxHeartbeats 4000000 in
theorem sevent_any (e : Ev) (w : World) :
    Calls Tryz.prog 17 #[.agg (evA e)] w fun r w' => r = .returned (.bool e.ok) ∧ Below w.heap.size w w' := by
  have CW : Hid (∀ wx, Calls Tryz.prog 40 #[.int .i64 e.who] wx fun r w' => r = .returned (.bool (inI e.who 0 3)) ∧ w' = wx) := fun wx => swho_any e.who wx
  have CI : Hid (∀ wx, Calls Tryz.prog 32 #[.int .i64 e.an.st, .int .i64 0, .int .i64 7] wx fun r w' => r = .returned (.bool (inI e.an.st 0 7)) ∧ w' = wx) := fun wx => sin6_any e.an.st 0 7 wx
  have CS : Hid (∀ wx, Calls Tryz.prog 41 #[.int .i64 e.set] wx fun r w' => r = .returned (.bool (setOk e.set)) ∧ w' = wx) := fun wx => sset_any e.set wx
  obtain ⟨kd, who, bs, ⟨st, tx⟩, set⟩ := e
  have hb : Hid (Below w.heap.size w (w.alloc (.cells (evA ⟨kd, who, bs, ⟨st, tx⟩, set⟩) 60))) := (Below.refl _ _).alloc (Nat.le_refl _) _
  have hsz : (⟨bs.toArray⟩ : ByteArray).size = bs.length := rfl
  unfold evA S at *
  dsimp only at *
  by_cases h1 : kd = 1
  · subst h1
    obtain ⟨b1, hb1⟩ : ∃ b, b = inI who 0 3 := ⟨_, rfl⟩
    obtain ⟨b2, hb2⟩ : ∃ b, b = inI st 0 7 := ⟨_, rfl⟩
    have HE : Hid (Ev.ok ⟨1, who, bs, ⟨st, tx⟩, set⟩ = (b1 && decide (bs.length ≤ 20) && decide (set = 0) && b2)) := by rw [hb1, hb2]; rfl
    rw [← hb1] at CW
    rw [← hb2] at CI
    clear hb1 hb2 CS
    go_enter Tryz.func17, Tryz.ntmps17
    go_wp2_with fail
    refine (CW.out _).mono ?_
    rintro r w' ⟨rfl, hw⟩; subst w'
    clear CW
    cases b1 with
    | false =>
      go_wp2
      go_ret
      rw [HE.out]
      exact ⟨rfl, hb.out⟩
    | true =>
      by_cases h20 : bs.length ≤ 20
      · by_cases hs0 : set = 0
        · have HX : Hid (Ev.ok ⟨1, who, bs, ⟨st, tx⟩, set⟩ = b2) := by rw [Hid, HE.out]; simp [h20, hs0]
          clear HE
          subst hs0
          have h20' : (bs.length : Int) ≤ 20 := by omega
          go_wp2_with fail
          refine (CI.out _).mono ?_
          rintro r w' ⟨rfl, hw⟩; subst w'
          clear CI
          go_wp2
          go_ret
          rw [HX.out]
          exact ⟨rfl, hb.out⟩
        · have HX : Hid (Ev.ok ⟨1, who, bs, ⟨st, tx⟩, set⟩ = false) := by rw [Hid, HE.out]; simp [hs0]
          clear HE CI
          have h20' : (bs.length : Int) ≤ 20 := by omega
          go_wp2
          go_ret
          rw [HX.out]
          exact ⟨rfl, hb.out⟩
      · have HX : Hid (Ev.ok ⟨1, who, bs, ⟨st, tx⟩, set⟩ = false) := by rw [Hid, HE.out]; simp [h20]
        clear HE CI
        have h20' : ¬ (bs.length : Int) ≤ 20 := by omega
        go_wp2
        go_ret
        rw [HX.out]
        exact ⟨rfl, hb.out⟩
  · by_cases h2 : kd = 2
    · subst h2
      obtain ⟨b1, hb1⟩ : ∃ b, b = setOk set := ⟨_, rfl⟩
      have HE : Hid (Ev.ok ⟨2, who, bs, ⟨st, tx⟩, set⟩ = (b1 && decide (who = 0) && decide (bs = []) && decide (st = 0) && decide (tx = []))) := by rw [hb1]; rfl
      rw [← hb1] at CS
      clear hb1 CW CI h1
      go_enter Tryz.func17, Tryz.ntmps17
      go_wp2_with fail
      refine (CS.out _).mono ?_
      rintro r w' ⟨rfl, hw⟩; subst w'
      clear CS
      cases b1 with
      | false =>
        go_wp2
        go_ret
        rw [HE.out]
        exact ⟨rfl, hb.out⟩
      | true =>
        by_cases hw0 : who = 0
        · by_cases hbs : bs = []
          · by_cases hst : st = 0
            · by_cases htx : tx = []
              · have HX : Hid (Ev.ok ⟨2, who, bs, ⟨st, tx⟩, set⟩ = true) := by rw [Hid, HE.out]; simp [hw0, hbs, hst, htx]
                clear HE
                subst hw0 hbs hst htx
                go_wp2
                go_ret
                rw [HX.out]
                exact ⟨rfl, hb.out⟩
              · have HX : Hid (Ev.ok ⟨2, who, bs, ⟨st, tx⟩, set⟩ = false) := by rw [Hid, HE.out]; simp [htx]
                clear HE
                subst hw0 hbs hst
                go_wp2
                go_ret
                rw [HX.out]
                exact ⟨rfl, hb.out⟩
            · have HX : Hid (Ev.ok ⟨2, who, bs, ⟨st, tx⟩, set⟩ = false) := by rw [Hid, HE.out]; simp [hst]
              clear HE
              subst hw0 hbs
              go_wp2
              go_ret
              rw [HX.out]
              exact ⟨rfl, hb.out⟩
          · have HX : Hid (Ev.ok ⟨2, who, bs, ⟨st, tx⟩, set⟩ = false) := by rw [Hid, HE.out]; simp [hbs]
            clear HE
            subst hw0
            go_wp2
            go_ret
            rw [HX.out]
            exact ⟨rfl, hb.out⟩
        · have HX : Hid (Ev.ok ⟨2, who, bs, ⟨st, tx⟩, set⟩ = false) := by rw [Hid, HE.out]; simp [hw0]
          clear HE
          go_wp2
          go_ret
          rw [HX.out]
          exact ⟨rfl, hb.out⟩
    · clear CW CI CS
      by_cases h3 : kd = 3
      · subst h3
        have HE : Hid (Ev.ok ⟨3, who, bs, ⟨st, tx⟩, set⟩ = (decide (who = 0) && decide (bs = []) && decide (st = 0) && decide (tx = []) && decide (set = 0))) := rfl
        clear h1 h2
        go_enter Tryz.func17, Tryz.ntmps17
        by_cases hw0 : who = 0
        · by_cases hbs : bs = []
          · by_cases hst : st = 0
            · by_cases htx : tx = []
              · by_cases hs0 : set = 0
                · have HX : Hid (Ev.ok ⟨3, who, bs, ⟨st, tx⟩, set⟩ = true) := by rw [Hid, HE.out]; simp [hw0, hbs, hst, htx, hs0]
                  clear HE
                  subst hw0 hbs hst htx hs0
                  go_wp2
                  go_ret
                  rw [HX.out]
                  exact ⟨rfl, hb.out⟩
                · have HX : Hid (Ev.ok ⟨3, who, bs, ⟨st, tx⟩, set⟩ = false) := by rw [Hid, HE.out]; simp [hs0]
                  clear HE
                  subst hw0 hbs hst htx
                  go_wp2
                  go_ret
                  rw [HX.out]
                  exact ⟨rfl, hb.out⟩
              · have HX : Hid (Ev.ok ⟨3, who, bs, ⟨st, tx⟩, set⟩ = false) := by rw [Hid, HE.out]; simp [htx]
                clear HE
                subst hw0 hbs hst
                go_wp2
                go_ret
                rw [HX.out]
                exact ⟨rfl, hb.out⟩
            · have HX : Hid (Ev.ok ⟨3, who, bs, ⟨st, tx⟩, set⟩ = false) := by rw [Hid, HE.out]; simp [hst]
              clear HE
              subst hw0 hbs
              go_wp2
              go_ret
              rw [HX.out]
              exact ⟨rfl, hb.out⟩
          · have HX : Hid (Ev.ok ⟨3, who, bs, ⟨st, tx⟩, set⟩ = false) := by rw [Hid, HE.out]; simp [hbs]
            clear HE
            subst hw0
            go_wp2
            go_ret
            rw [HX.out]
            exact ⟨rfl, hb.out⟩
        · have HX : Hid (Ev.ok ⟨3, who, bs, ⟨st, tx⟩, set⟩ = false) := by rw [Hid, HE.out]; simp [hw0]
          clear HE
          go_wp2
          go_ret
          rw [HX.out]
          exact ⟨rfl, hb.out⟩
      · have HX : Hid (Ev.ok ⟨kd, who, bs, ⟨st, tx⟩, set⟩ = false) := by rw [Hid]; simp [Ev.ok, h1, h2, h3]
        go_enter Tryz.func17, Tryz.ntmps17
        go_wp2
        go_ret
        rw [HX.out]
        exact ⟨rfl, hb.out⟩
end Go.Proofs.YtkenbanaodbooaaGreatDoor
