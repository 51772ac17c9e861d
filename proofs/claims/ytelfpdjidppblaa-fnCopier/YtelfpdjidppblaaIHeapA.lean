/- The program's heap of blocks: where it lies, and what Len, Less, Swap, Push and Pop of it answer and leave. -/
import Derived.Test.YtelfpdjidppblaaHpPl
import Derived.Test.YtelfpdjidppblaaCpB
import Derived.Test.YtelfpdjidppblaaM3
import Derived.Deep.RegionLaw
namespace Go.Proofs.Ytelfpdjidppblaa
open Go.ChangeShapes Go.WideShapes Go.ChangeAt Go.RowKit

/- The heap lies in a variable, block g; its row and the variable lie behind 'base'. -/
structure HpB (w : World) (base g : Nat) (v : Value) (l : List Int) : Prop where
  st : StB w g 52 #[v]
  own : Own w base v l
  le : base ≤ g
theorem HpB.below {w w' : World} {base g : Nat} {v : Value} {l : List Int} (h : HpB w base g v l) (b : Below w.heap.size w w') : HpB w' base g v l := ⟨h.st.below b, h.own.below b, h.le⟩
theorem HpB.drew {w w' : World} {base g n : Nat} {v : Value} {l : List Int} (h : HpB w base g v l) (e : w' = w.drewN n) : HpB w' base g v l := by subst e; exact ⟨h.st, h.own, h.le⟩
theorem HpB.cell {w : World} {base g : Nat} {v : Value} {l : List Int} (h : HpB w base g v l) : w.cell? ⟨g, 0, none⟩ = some v := h.st.cell 0 rfl
theorem HpB.grow {w w' : World} {base g : Nat} {u v : Value} {l m : List Int} (h : HpB w base g v l) (o : Own w' base u m) (G : w.grownBy w' v.ownBlock) : StB w' g 52 #[v] ∧ Own w' base u m ∧ Below base w w' := by
  refine ⟨h.st.kept G (fun e => h.own.ne h.st (by decide) e.symm), o, ⟨G.os, G.tape, G.output, G.size, fun k hk => G.block k ?_ (fun e => ?_)⟩⟩
  · have := h.st.lt; have := h.le; omega
  · have := (h.own.lt k e.symm).1; omega
theorem HpB.put {w : World} {base g : Nat} {u v : Value} {m : List Int} (h : StB w g 52 #[v]) (o : Own w base u m) (hle : base ≤ g) : HpB (w.setCell ⟨g, 0, none⟩ u) base g u m ∧ Below base w (w.setCell ⟨g, 0, none⟩ u) :=
  ⟨⟨h.put 0 u rfl, o.putBy h (by decide) (grownSet w g 0 u), hle⟩, (Below.refl base w).setCell hle _⟩
theorem HpB.swap {w w' : World} {base g : Nat} {v : Value} {l m : List Int} (h : HpB w base g v l) (o : Own w' base v m) (G : w.grownBy w' v.ownBlock) : HpB w' base g v m ∧ Below base w w' := by
  refine ⟨⟨h.st.kept G (fun e => h.own.ne h.st (by decide) e.symm), o, h.le⟩, ⟨G.os, G.tape, G.output, G.size, fun k hk => G.block k ?_ (fun e => ?_)⟩⟩
  · have := h.st.lt; have := h.le; omega
  · have := (h.own.lt k e.symm).1; omega
def hpIs (g : Nat) : Value := .iface 79 (.pointer (some ⟨g, 0, none⟩))

theorem Try.nilLen (a : Addr) (w : World) : (nilAhead 214 79 (.pointer (some a)) "Len").run Try.prog w = .ok (some false) w := by kernel_rfl
theorem Try.nilLess (a : Addr) (w : World) : (nilAhead 214 79 (.pointer (some a)) "Less").run Try.prog w = .ok (some false) w := by kernel_rfl
theorem Try.nilSwap (a : Addr) (w : World) : (nilAhead 214 79 (.pointer (some a)) "Swap").run Try.prog w = .ok (some false) w := by kernel_rfl
theorem Try.nilPush (a : Addr) (w : World) : (nilAhead 214 79 (.pointer (some a)) "Push").run Try.prog w = .ok (some false) w := by kernel_rfl
theorem Try.nilPop (a : Addr) (w : World) : (nilAhead 214 79 (.pointer (some a)) "Pop").run Try.prog w = .ok (some false) w := by kernel_rfl
theorem Try.methPush (a : Addr) (w : World) : (method 214 79 (.pointer (some a)) "Push").run Try.prog w = .ok (121, .pointer (some a)) w := by kernel_rfl
theorem Try.methPop (a : Addr) (w : World) : (method 214 79 (.pointer (some a)) "Pop").run Try.prog w = .ok (120, .pointer (some a)) w := by kernel_rfl
theorem Try.atLen (a : Addr) (w : World) : (method 214 79 (.pointer (some a)) "Len").run Try.prog w = (Sem.load .plain a fun v => .pure (47, v)).run Try.prog w := by kernel_rfl
theorem Try.atLess (a : Addr) (w : World) : (method 214 79 (.pointer (some a)) "Less").run Try.prog w = (Sem.load .plain a fun v => .pure (118, v)).run Try.prog w := by kernel_rfl
theorem Try.atSwap (a : Addr) (w : World) : (method 214 79 (.pointer (some a)) "Swap").run Try.prog w = (Sem.load .plain a fun v => .pure (119, v)).run Try.prog w := by kernel_rfl
theorem Try.methLen {a : Addr} {w : World} {v : Value} (h : w.cell? a = some v) : (method 214 79 (.pointer (some a)) "Len").run Try.prog w = .ok (47, v) w := by
  rw [Try.atLen]; simp [Sem.run, h]
theorem Try.methLess {a : Addr} {w : World} {v : Value} (h : w.cell? a = some v) : (method 214 79 (.pointer (some a)) "Less").run Try.prog w = .ok (118, v) w := by
  rw [Try.atLess]; simp [Sem.run, h]
theorem Try.methSwap {a : Addr} {w : World} {v : Value} (h : w.cell? a = some v) : (method 214 79 (.pointer (some a)) "Swap").run Try.prog w = .ok (119, v) w := by
  rw [Try.atSwap]; simp [Sem.run, h]
theorem Try.asInt (v : Value) (w : World) : (Instr.typeAssert (.iface 2 v) 20 2 false).run Try.prog w = .ok v w := by kernel_rfl

set_option maxRecDepth 20000 in
set_option maxHeartbeats 400000 in
theorem hless_any (v : Value) (l : List Int) (i j : Nat) (w : World) (h : Reads w v l) (hi : i < l.length) (hj : j < l.length) :
    Calls Try.prog 118 #[v, .int .i64 i, .int .i64 j] w fun e w' => e = .returned (.bool (decide (l.getD i 0 < l.getD j 0))) ∧ ∃ n, w' = w.drewN n := by
  obtain ⟨ao, cap, rfl⟩ := reads_form h
  obtain ⟨-, hc1, hc2, hcell⟩ := reads_cells h
  unfold maxLen at hc2
  obtain ⟨b, off, rfl, k1⟩ := hcell i hi
  obtain ⟨b', off', e', k2⟩ := hcell j hj
  cases e'
  obtain ⟨x, hx⟩ : ∃ x, x = l.getD i 0 := ⟨_, rfl⟩
  obtain ⟨y, hy⟩ : ∃ y, y = l.getD j 0 := ⟨_, rfl⟩
  rw [← hx] at k1
  rw [← hy] at k2
  rw [← hx, ← hy]
  obtain ⟨n, hn⟩ : ∃ n, n = l.length := ⟨_, rfl⟩
  rw [← hn] at hi hj hc1 ⊢
  clear hcell h hx hy hn
  go_enter Try.func118, Try.ntmps118
  go_wp2
  go_quiet (fail)
  go_wp2
  go_ret
  exact ⟨rfl, ⟨_, rfl⟩⟩

set_option maxRecDepth 20000 in
set_option maxHeartbeats 1000000 in
theorem hswap_any (v : Value) (l : List Int) (i j : Nat) (w : World) (base : Nat) (h : Own w base v l) (hi : i < l.length) (hj : j < l.length) :
    Calls Try.prog 119 #[v, .int .i64 i, .int .i64 j] w fun e w' => e = .returned (.tuple #[]) ∧ Own w' base v (swapL l i j) ∧ w.grownBy w' v.ownBlock := by
  obtain ⟨g, cap, rfl, hbg, hgl⟩ := World.ownsRow.form h (by omega)
  obtain ⟨-, hc1, hc2, hcell⟩ := reads_cells h.reads
  unfold maxLen at hc2
  obtain ⟨b, off, e1, k1⟩ := hcell i hi
  obtain ⟨b', off', e2, k2⟩ := hcell j hj
  cases e1
  cases e2
  simp only [Nat.zero_add] at k1 k2
  obtain ⟨f1, -, o1⟩ := h.put rfl i hi (l.getD j 0)
  have hl1 : (l.set i (l.getD j 0)).length = l.length := by simp
  obtain ⟨f2, ⟨y2, k3⟩, o2⟩ := Own.put o1 (by simp) j hj (l.getD i 0)
  have HO : Hid (Own ((w.setCell ⟨g, i, none⟩ (.int .i64 (l.getD j 0))).setCell ⟨g, j, none⟩ (.int .i64 (l.getD i 0))) base (.slice (some ⟨g, 0, none⟩) l.length cap) (swapL l i j)) := o2
  have HG : Hid (w.grownBy ((w.setCell ⟨g, i, none⟩ (.int .i64 (l.getD j 0))).setCell ⟨g, j, none⟩ (.int .i64 (l.getD i 0))) (some g)) := (grownSet w g i _).trans (grownSet _ g j _)
  obtain ⟨x, hx⟩ : ∃ x, x = l.getD i 0 := ⟨_, rfl⟩
  obtain ⟨y, hy⟩ : ∃ y, y = l.getD j 0 := ⟨_, rfl⟩
  obtain ⟨s, hs⟩ : ∃ s, s = swapL l i j := ⟨_, rfl⟩
  rw [← hs] at HO ⊢
  rw [← hx, ← hy] at HO HG
  rw [← hx] at k1
  rw [← hy] at k2 f2 k3
  obtain ⟨n, hn⟩ : ∃ n, n = l.length := ⟨_, rfl⟩
  rw [← hn] at hi hj hc1 HO ⊢
  clear hcell h hx hy hn o1 o2 hs hl1
  go_enter Try.func119, Try.ntmps119
  go_wp2
  go_region
  go_wp2
  go_end0
  refine ⟨rfl, ?_, ?_⟩
  · exact HO.out.below (Below.refl _ _).drew
  · have := HG.out
    exact ⟨this.os, this.tape, this.output, this.size, this.block⟩

theorem Own.lst {w : World} {x : Int} : ∀ j, j < [x].length → (w.alloc (.cells #[.int .i64 x] 2)).cell? ⟨w.heap.size, j, none⟩ = some (.int .i64 ([x].getD j 0)) := by
  intro j hj
  have H : StB (w.alloc (.cells #[.int .i64 x] 2)) w.heap.size 2 #[.int .i64 x] := StB.new _ _ _
  match j, hj with
  | 0, _ => exact H.cell 0 rfl
theorem step_appendH {ops : Array Oper} {o : Oper} {a : Act} {w : World} {K : Act → World → Prop} {Q : Exit → Act → World → Prop} {E : Prop} (hgd : o.guard = none) (s x : Operand)
    (ho : o.op = .call { callee := .builtin .append, args := #[s, x], argTypes := #[52, 52] }) (base : Nat) (v : Value) (l : List Int) (hs : a.eval s = v) (hown : Own w base v l)
    (g m c : Nat) (l2 : List Int) (hx : a.eval x = .slice (some ⟨g, 0, none⟩) m c) (hm : m = l2.length) (hnews : ∀ j, j < l2.length → w.cell? ⟨g, j, none⟩ = some (.int .i64 (l2.getD j 0))) (hsm : l.length + l2.length ≤ 10000000) (hbase : base ≤ w.heap.size)
    (h : ∀ v' w', Own w' base v' (l ++ l2) → w.grownBy w' v.ownBlock → K (a.put o.dst v') w') : if Region.wanted o (yielded ops a.tmps) = true then Oper.wp Try.prog o a w K Q else E := by
  have hw : Region.wanted o (yielded ops a.tmps) = true := by simp [Region.wanted, hgd]
  rw [if_pos hw]
  obtain ⟨i0, hi, hz0, hz1, hz2⟩ := info_parts Try.infoI
  subst hm
  have hnews' : ∀ j u, (l2.map (Value.int .i64))[j]? = some u → w.cell? ((⟨g, 0, none⟩ : Addr).add j) = some u := by
    intro j u hj
    have hlt : j < l2.length := by
      rcases Nat.lt_or_ge j l2.length with h | h
      · exact h
      · rw [List.getElem?_eq_none (by simpa using h)] at hj; cases hj
    rw [show (⟨g, 0, none⟩ : Addr).add j = ⟨g, j, none⟩ by unfold Addr.add; split <;> simp_all]
    rw [hnews j hlt]
    simpa [hlt] using hj
  have hone : ∀ u ∈ l2.map (Value.int .i64), u.oneCell' = true := by
    intro u hu
    obtain ⟨y, _, rfl⟩ := List.mem_map.1 hu
    rfl
  obtain ⟨v', w', hrun, r1, r2, -⟩ := run_append_own (P := Try.prog) w base 52 o.type 2 i0 (.int .i64 0) 1 8 Try.underlying52 hi hz0 hz1 hz2 rfl (by decide) _ l.length (l.map (Value.int .i64)) hown ⟨g, 0, none⟩ l2.length c (l2.map (Value.int .i64)) (by simp) hnews' hone (by unfold maxLen; omega) (by omega) hbase
  rw [← List.map_append] at r1
  unfold Oper.wp
  simp [execOp, ho, resolve, invoke, builtin, hs, hx, hrun, Result.andThen]
  refine h v' w' ?_ r2
  unfold Own
  rw [List.length_append]
  exact r1

set_option maxRecDepth 20000 in
set_option maxHeartbeats 1000000 in
theorem hpush_any (x : Int) (v : Value) (l : List Int) (base g : Nat) (w : World) (h : HpB w base g v l) (hl : l.length ≤ 1000) :
    Calls Try.prog 121 #[.pointer (some ⟨g, 0, none⟩), .iface 2 (.int .i64 x)] w fun e w' => e = .returned (.tuple #[]) ∧ ∃ u, HpB w' base g u (l ++ [x]) ∧ Below base w w' := by
  have k0 : w.drew.cell? ⟨g, 0, none⟩ = some v := h.cell
  have hasI := Try.asInt (.int .i64 x)
  have hle : base ≤ w.drew.heap.size := by have := h.st.lt; have := h.le; exact Nat.le_trans h.le (Nat.le_of_lt h.st.lt)
  have HH : Hid (HpB w.drew base g v l) := h.drew (n := 1) rfl
  have HL : Hid (l.length ≤ 1000) := hl
  obtain ⟨ao, cap, rfl⟩ := reads_form h.own.reads
  obtain ⟨wa, hwa⟩ : ∃ wa, wa = (w.alloc (.cells #[.int .i64 x] 2)).drew := ⟨_, rfl⟩
  have HA : Hid (HpB wa base g (.slice ao l.length cap) l ∧ Below base w wa ∧ base ≤ wa.heap.size) := by
    have b : Below w.heap.size w wa := by rw [hwa]; exact ((Below.refl _ _).alloc (Nat.le_refl _) _).drew
    exact ⟨h.below b, b.mono hle, Nat.le_trans hle b.size⟩
  have HN : Hid (∀ j, j < [x].length → wa.cell? ⟨w.heap.size, j, none⟩ = some (.int .i64 ([x].getD j 0))) := by rw [hwa]; exact Own.lst
  have k1 : wa.cell? ⟨g, 0, none⟩ = some (.slice ao l.length cap) := HA.out.1.cell
  rw [hwa] at k1
  clear h hl
  go_enter Try.func121, Try.ntmps121
  go_upto_region 0 with fail
  go_region_law
    (first
      | (rw [← hwa]; refine step_appendH rfl (.tmp 7) (.tmp 10) rfl base (.slice ao l.length cap) l (by simp [Act.eval]) HA.out.1.own w.heap.size 1 1 [x] (by simp [Act.eval]) rfl HN.out (by have := HL.out; simp; omega) HA.out.2.2 ?_; intro v3 w3 o3 g3; obtain ⟨S3, O3, B3⟩ := HA.out.1.grow o3 g3; obtain ⟨ao3, cap3, rfl⟩ := reads_form o3.reads; have HP : Hid (StB w3 g 52 #[.slice ao l.length cap] ∧ Own w3 base (.slice ao3 (l ++ [x]).length cap3) (l ++ [x]) ∧ Below base w w3) := ⟨S3, O3, HA.out.2.1.trans B3⟩; have k2 : w3.cell? ⟨g, 0, none⟩ = some (.slice ao l.length cap) := S3.cell 0 rfl; have f2 := S3.frozen 0; clear S3 O3 B3 o3 g3))
  all_goals
    go_end0
    have e1 : (l ++ [x]).length = l.length + 1 := by simp
    have h3 := HP.out
    rw [e1] at h3
    have q := HpB.put h3.1 h3.2.1 HA.out.1.le
    exact ⟨rfl, _, q.1, h3.2.2.trans q.2⟩

set_option maxRecDepth 20000 in
set_option maxHeartbeats 400000 in
theorem hlen_any (v : Value) (l : List Int) (w : World) (h : Reads w v l) :
    Calls Try.prog 47 #[v] w fun e w' => e = .returned (.int .i64 l.length) ∧ w' = w := by
  obtain ⟨ao, cap, rfl⟩ := reads_form h
  clear h
  go_enter Try.func47, Try.ntmps47
  go_wp2
  go_ret
  exact ⟨rfl, rfl⟩

theorem Own.cut {w : World} {base n cap : Nat} {ao : Option Addr} {l : List Int} {x : Int} (h : Own w base (.slice ao (n + 1) cap) (l ++ [x])) (hn : n = l.length) : Own w base (.slice ao n cap) l := by
  subst hn
  have h' : w.ownsRow base 2 1 (.slice ao (l.length + 1) cap) (l.length + 1) ((l ++ [x]).map (Value.int .i64)) := by
    have := h
    unfold Own at this
    rwa [List.length_append] at this
  obtain ⟨g, cap', e, -, -⟩ := World.ownsRow.form h' (by omega)
  cases e
  rw [List.map_append] at h'
  exact ownsRow_pop (by simp) h'

set_option maxRecDepth 20000 in
set_option maxHeartbeats 1000000 in
theorem hpop_any (x : Int) (v : Value) (l : List Int) (base g : Nat) (w : World) (h : HpB w base g v (l ++ [x])) :
    Calls Try.prog 120 #[.pointer (some ⟨g, 0, none⟩)] w fun e w' => e = .returned (.iface 2 (.int .i64 x)) ∧ ∃ u, HpB w' base g u l ∧ Below base w w' := by
  have k0 : w.cell? ⟨g, 0, none⟩ = some v := h.cell
  have f0 := h.st.frozen 0
  obtain ⟨ao, cap, rfl⟩ := reads_form h.own.reads
  have e1 : (l ++ [x]).length = l.length + 1 := by simp
  obtain ⟨-, hc1, hc2, hcell⟩ := reads_cells h.own.reads
  obtain ⟨b, off, rfl, k1⟩ := hcell l.length (by omega)
  have e2 : (l ++ [x]).getD l.length 0 = x := by simp
  rw [e2] at k1
  have HO : Hid (HpB w base g (.slice (some ⟨b, off, none⟩) (l.length + 1) cap) (l ++ [x])) := by rw [← e1]; exact h
  rw [e1] at k0 hc1
  unfold maxLen at hc2
  have HQ : Hid (HpB (w.setCell ⟨g, 0, none⟩ (.slice (some ⟨b, off, none⟩) l.length cap)) base g (.slice (some ⟨b, off, none⟩) l.length cap) l ∧ Below base w (w.setCell ⟨g, 0, none⟩ (.slice (some ⟨b, off, none⟩) l.length cap))) := HpB.put HO.out.st (HO.out.own.cut rfl) HO.out.le
  obtain ⟨n, hn⟩ : ∃ n, n = l.length := ⟨_, rfl⟩
  rw [← hn] at hc1 k0 k1 HQ
  clear h hcell e1 e2 hn HO
  go_enter Try.func120, Try.ntmps120
  go_wp2
  go_ret
  exact ⟨rfl, _, HQ.out⟩
end Go.Proofs.Ytelfpdjidppblaa
