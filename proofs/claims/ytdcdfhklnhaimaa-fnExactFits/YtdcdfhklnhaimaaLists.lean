/- Lists are copied: toInt64S and l1Copy answer the same list in new memory, and write nothing that was there. -/
import Derived.Test.YtdcdfhklnhaimaaMem
import Derived.OwnWalk
import Derived.Laws.AppendOwnNone
import Derived.WalkSpells
namespace Go.Proofs.Ytdcdfhklnhaimaa
open Go.ChangeShapes Go.WideShapes Go.ChangeAt Go.RowKit

theorem zeros_eq (n : Nat) : (madeCells #[Value.int .i64 0] n).toList = (List.replicate n (0 : Int)).map (Value.int .i64) := by
  rw [toList_madeCells_one, List.map_replicate]

theorem fill_step (xs : List Int) (j : Nat) (h : j < xs.length) : ((xs.take j ++ List.replicate (xs.length - j) 0).set j (xs.getD j 0)) = xs.take (j + 1) ++ List.replicate (xs.length - (j + 1)) 0 := by
  have hl : (xs.take j).length = j := by simp; omega
  rw [List.set_append_right _ _ (by omega), hl, Nat.sub_self, take_snoc xs j h, show xs.length - j = (xs.length - (j + 1)) + 1 by omega, List.replicate_succ, List.set_cons_zero]
  simp

set_option maxRecDepth 20000 in
set_option maxHeartbeats 1000000 in
theorem to_any (v : Value) (xs : List Int) (w : World) (h : Reads w v xs) (hbig : xs.length ≤ 1099511627776) :
    Calls Try.prog 42 #[v] w fun e w' => ∃ u, e = .returned u ∧ Own w' w.heap.size u xs ∧ Below w.heap.size w w' := by
  obtain ⟨i0, hi, hz0, hz1, hz2⟩ := info_parts Try.infoI
  obtain ⟨ao, cap, rfl, hl, ⟨hm, -⟩, hc⟩ := h
  obtain ⟨n, hn⟩ : ∃ n, n = xs.length := ⟨_, rfl⟩
  rw [← hn] at hl hc hbig ⊢
  have HN : Hid (n = xs.length) := hn
  clear hn
  unfold maxLen at hm
  have hcell : ∀ j, j < n → ∃ b off, ao = some ⟨b, off, none⟩ ∧ b < w.heap.size ∧ w.cell? ⟨b, off + j, none⟩ = some (.int .i64 (xs.getD j 0)) := by
    intro j hj
    rcases hc with e | ⟨b, off, e, h4⟩
    · have := HN.out; rw [e] at this; simp at this; omega
    · exact ⟨b, off, e, World.block_lt_of_cell? w _ (h4 j hj), h4 j hj⟩
  clear hc
  go_enter Try.func42, Try.ntmps42
  go_wp2_with (refine wpList_make_full _ rfl _ _ 24 rfl w.heap.size 2 i0 (.int .i64 0) 1 Try.underlying24 hi hz0 hz1 _ _ _ _ n rfl rfl rfl rfl (by rw [hz2]; omega) (by unfold maxLen; omega) (Nat.le_refl _) ?_)
  intro w1 hown hgr
  rw [zeros_eq] at hown
  have HO : Hid (Own w1 w.heap.size (.slice (some ⟨w.heap.size, 0, none⟩) n n) (List.replicate n 0) ∧ Below w.heap.size w w1) := by
    refine ⟨?_, (Below.refl _ _).grown hgr (Nat.le_refl _) (fun k e => by cases e)⟩
    unfold Own
    simpa using hown
  clear hown hgr
  go_wp2
  go_loopw [4] (fun i wr => ∃ j : Nat, j ≤ n ∧ i = .int .i64 j ∧ Hid (Own wr w.heap.size (.slice (some ⟨w.heap.size, 0, none⟩) n n) (xs.take j ++ List.replicate (xs.length - j) 0) ∧ Below w.heap.size w wr)) (fun i _ => n - (intOf i).toNat)
  case atStart => exact ⟨0, Nat.zero_le _, rfl, by have this := HO.out; rw [HN.out] at this ⊢; simpa [Hid] using this⟩
  case round =>
    obtain ⟨j, hj, rfl, HR⟩ := hrel
    have hn' := HN.out
    have hlen : (xs.take j ++ List.replicate (xs.length - j) (0 : Int)).length = n := by simp; omega
    by_cases hlt : (j : Int) < (n : Int)
    · obtain ⟨b, off, rfl, hb, hc0⟩ := hcell j (by omega)
      have hc1 := (HR.out.2.cell (p := ⟨b, off + j, none⟩) hb).trans hc0
      obtain ⟨x, hx⟩ : ∃ x, x = xs.getD j 0 := ⟨_, rfl⟩
      rw [← hx] at hc1
      have hown : wr.ownsRow w.heap.size 2 1 (.slice (some ⟨w.heap.size, 0, none⟩) n n) n ((xs.take j ++ List.replicate (xs.length - j) 0).map (Value.int .i64)) := by
        have := HR.out.1
        unfold Own at this
        rwa [hlen] at this
      have hfr := World.ownsRow.frozenAt hown j
      obtain ⟨y, hc⟩ : ∃ y, wr.cell? ⟨w.heap.size, j, none⟩ = some y := by
        have := World.ownsRow.cellAt hown j (by omega)
        rw [this]
        exact ⟨_, List.getElem?_eq_getElem (by simp; omega)⟩
      have hst := World.ownsRow.stored hown j (.int .i64 x)
      have HS : Hid (Own (wr.setCell ⟨w.heap.size, j, none⟩ (.int .i64 x)) w.heap.size (.slice (some ⟨w.heap.size, 0, none⟩) n n) (xs.take (j + 1) ++ List.replicate (xs.length - (j + 1)) 0) ∧ Below w.heap.size w (wr.setCell ⟨w.heap.size, j, none⟩ (.int .i64 x))) := by
        refine ⟨?_, HR.out.2.setCell (Nat.le_refl _) _⟩
        have := hst.1
        rw [← List.map_set, hx, fill_step xs j (by omega)] at this
        unfold Own
        rw [← hx] at this
        rwa [show (xs.take (j + 1) ++ List.replicate (xs.length - (j + 1)) (0 : Int)).length = n by simp; omega]
      clear hst hown HR hlen hn' hcell hc0 hx HO
      go_wp2
      go_roundw
      case rel => exact ⟨j + 1, by omega, by go_num, HS⟩
      case measure => simp [intOf]; omega
    · clear hn' hlen
      go_wp2
      go_ret
      have hjn : j = xs.length := by have := HN.out; omega
      have this := HR.out
      rw [hjn, List.take_length, Nat.sub_self, List.replicate_zero, List.append_nil] at this
      exact ⟨_, rfl, this⟩

theorem Own.put {w : World} {base g n cap : Nat} {xs : List Int} (h : Own w base (.slice (some ⟨g, 0, none⟩) n cap) xs) (hn : n = xs.length) (j : Nat) (hj : j < n) (x : Int) :
    w.frozen? ⟨g, j, none⟩ = false ∧ (∃ y, w.cell? ⟨g, j, none⟩ = some y) ∧ Own (w.setCell ⟨g, j, none⟩ (.int .i64 x)) base (.slice (some ⟨g, 0, none⟩) n cap) (xs.set j x) := by
  subst hn
  have hown : w.ownsRow base 2 1 (.slice (some ⟨g, 0, none⟩) xs.length cap) xs.length (xs.map (Value.int .i64)) := h
  refine ⟨World.ownsRow.frozenAt hown j, ?_, ?_⟩
  · rw [World.ownsRow.cellAt hown j (by omega)]
    exact ⟨_, List.getElem?_eq_getElem (by simpa using hj)⟩
  · have := (World.ownsRow.stored hown j (.int .i64 x)).1
    rw [← List.map_set] at this
    unfold Own
    rwa [List.length_set]

set_option maxRecDepth 20000 in
set_option maxHeartbeats 1000000 in
theorem copy_any (v : Value) (xs : List Int) (w : World) (h : Reads w v xs) (hbig : xs.length ≤ 1099511627776) :
    Calls Try.prog 55 #[v] w fun e w' => ∃ u, e = .returned u ∧ Own w' w.heap.size u xs ∧ Below w.heap.size w w' := by
  obtain ⟨i0, hi, hz0, hz1, hz2⟩ := info_parts Try.infoI
  obtain ⟨ao, cap, rfl, hl, hm, hc⟩ := h
  have hown : (w.alloc (.cells #[] 2)).ownsRow w.heap.size 2 1 (.slice (some ⟨w.heap.size, 0, none⟩) 0 0) 0 [] := World.ownsRow_lit w #[] 0 (Nat.le_refl _) (Nat.zero_le _) rfl
  rcases ao with _ | ad
  · have e0 : cap = 0 := hm.2 rfl
    subst e0
    have e1 : xs = [] := List.eq_nil_of_length_eq_zero (by omega)
    subst e1
    clear hc hm hl
    go_enter Try.func55, Try.ntmps55
    go_wp2_with (at_builtin; refine wpList_append_own_none rfl _ _ 24 rfl w.heap.size 2 i0 1 Try.underlying24 hi _ _ _ rfl hown rfl ?_)
    go_wp2
    go_ret
    exact ⟨_, rfl, hown, (Below.refl _ _).alloc (Nat.le_refl _) _⟩
  · obtain ⟨n, hn⟩ : ∃ n, n = xs.length := ⟨_, rfl⟩
    have hnews : ∀ j u, (xs.map (Value.int .i64))[j]? = some u → (w.alloc (.cells #[] 2)).cell? (ad.add j) = some u := by
      intro j u hj
      rcases hc with e | ⟨b, off, e, h4⟩
      · subst e; simp at hj
      · cases e
        have hlt : j < xs.length := by
          rcases Nat.lt_or_ge j xs.length with h | h
          · exact h
          · rw [List.getElem?_eq_none (by simpa using h)] at hj; cases hj
        have h5 := h4 j hlt
        have hb := World.block_lt_of_cell? w _ h5
        rw [show (⟨b, off, none⟩ : Addr).add j = ⟨b, off + j, none⟩ by unfold Addr.add; split <;> simp_all]
        rw [World.cell?_of_block (w := w) (Below.heap_alloc w _ b hb), h5]
        simp [List.getD, hlt] at hj ⊢
        exact hj
    have hone : ∀ u ∈ xs.map (Value.int .i64), u.oneCell' = true := by
      intro u hu
      obtain ⟨x, _, rfl⟩ := List.mem_map.1 hu
      rfl
    have hll : (xs.map (Value.int .i64)).length = n * 1 := by simp [hn]
    rw [← hn] at hbig hl ⊢
    have HN : Hid (n = xs.length) := hn
    clear hn hc hm hl
    go_enter Try.func55, Try.ntmps55
    go_wp2_with (at_builtin; refine wpList_append_own _ rfl _ _ 24 rfl w.heap.size 2 i0 (.int .i64 0) 1 8 Try.underlying24 hi hz0 hz1 hz2 rfl (by decide) _ _ _ rfl hown _ n cap (xs.map (Value.int .i64)) rfl hll hnews hone (by unfold maxLen; omega) (by omega) (by simp) ?_)
    intro v' w1 hown' hgrow _
    go_wp2
    go_ret
    refine ⟨_, rfl, ?_, ((Below.refl w.heap.size w).alloc (Nat.le_refl _) _).grown hgrow (by simp) (fun g e => by simp [Value.ownBlock] at e; omega)⟩
    unfold Own
    have := HN.out
    simpa [this] using hown'

/- A list of numbers that came in, as the shell of a law has it. -/
theorem reads_row {w : World} {a : Option Addr} {len cap : Nat} {zs : List Int} (h : (a = none ∧ len = 0 ∧ cap = 0 ∧ zs = []) ∨
    ∃ x, a = some x ∧ len ≤ cap ∧ cap ≤ maxLen ∧ zs.length = cap ∧ (∀ i, i < zs.length → w.cell? (x.add i) = some (.int .i64 (zs.getD i 0))) ∧ ∀ n ∈ zs, (Lit.int .i64 n).wf = true) :
    ∃ xs : List Int, xs.length = len ∧ Reads w (.slice a len cap) xs := by
  rcases h with ⟨rfl, rfl, rfl, _⟩ | ⟨x, rfl, h1, h2, h3, h4, h5⟩
  · exact ⟨[], rfl, none, 0, rfl, Nat.le_refl _, ⟨Nat.zero_le _, fun _ => rfl⟩, .inl rfl⟩
  · have hl : (zs.take len).length = len := by simp; omega
    refine ⟨zs.take len, hl, some x, cap, by rw [hl], by omega, ⟨h2, fun e => by cases e⟩, ?_⟩
    rcases Nat.eq_zero_or_pos len with rfl | hp
    · exact .inl (by simp)
    · obtain ⟨b, off, rfl, hc⟩ := ints_at h4 (by omega)
      refine .inr ⟨b, off, rfl, fun j hj => ?_⟩
      rw [hc j (by omega)]
      have hj' : j < len := by omega
      simp [List.getD, hj']
end Go.Proofs.Ytdcdfhklnhaimaa
