/- What strconv.ParseInt, slices.Clone and strings.Join of Go's library answer here. -/
import Derived.Test.YtifffiekibdgnaaDoorDoor
import Derived.Test.YtifffiekibdgnaaDoorToldP
import Derived.Test.YtifffiekibdgnaaDoorIKeys2
import Derived.Test.YtifffiekibdgnaaDoorTextSta
namespace Go.Proofs.YtifffiekibdgnaaDoor
open Go.ChangeShapes Go.WideShapes Go.ChangeAt Go.RowKit

/- A variable of Go's library that holds an error. -/
def ErrAt (w : World) (g : Nat) : Prop := ∃ t p, w.cell? ⟨g, 0, none⟩ = some (.iface t p)
theorem ErrAt.below {w w' : World} {g : Nat} (h : ErrAt w g) (b : Below w.heap.size w w') : ErrAt w' g := by
  obtain ⟨t, p, h⟩ := h
  exact ⟨t, p, by rw [b.cell (p := ⟨g, 0, none⟩) (World.block_lt_of_cell? w _ h)]; exact h⟩

structure TabE (w : World) : Prop where
  tab : Tab w
  syn : ErrAt w 0
  rng : ErrAt w 1
theorem TabE.below {w w' : World} (h : TabE w) (b : Below w.heap.size w w') : TabE w' := ⟨h.tab.below b, h.syn.below b, h.rng.below b⟩

theorem iparse_yes (l : Bs) (w : World) (hl : l.length ≤ 1048576) (h : pOk l = true) :
    Calls Tryd.prog 35 #[S l, .int .i64 10, .int .i64 64] w fun e w' => e = .returned (.tuple #[.int .i64 (pNum l), .nilIface]) ∧ Below w.heap.size w w' := by
  have hz : (⟨l.toArray⟩ : ByteArray).size = l.length := rfl
  have hd : (⟨l.toArray⟩ : ByteArray).data.toList = l := rfl
  unfold pOk at h
  unfold pNum
  rcases e : Lib.parseIntB 64 l with v | _ | _
  · refine (Tryd.strconv_ParseInt_10_at64_ok ⟨l.toArray⟩ (by omega) v (by rw [hd]; exact e) w).mono ?_
    rintro e w' ⟨rfl, hw⟩
    refine ⟨rfl, ?_⟩
    rcases hw with rfl | ⟨t, rfl⟩
    · exact Below.refl _ _
    · exact Lib.bytesWorld_below _ _ _
  · rw [e] at h; cases h
  · rw [e] at h; cases h

theorem iparse_no (l : Bs) (w : World) (hl : l.length ≤ 1048576) (h : pOk l = false) (ht : TabE w) :
    Calls Tryd.prog 35 #[S l, .int .i64 10, .int .i64 64] w fun e w' => ∃ n N, e = .returned (.tuple #[.int .i64 n, .iface 84 (.pointer (some ⟨N, 0, none⟩))]) ∧ Below w.heap.size w w' := by
  have hz : (⟨l.toArray⟩ : ByteArray).size = l.length := rfl
  have hd : (⟨l.toArray⟩ : ByteArray).data.toList = l := rfl
  unfold pOk at h
  obtain ⟨t1, p1, h1⟩ := ht.syn
  obtain ⟨t2, p2, h2⟩ := ht.rng
  rcases e : Lib.parseIntB 64 l with v | _ | _
  · rw [e] at h; cases h
  · refine (Any.strconv_ParseInt_10_at64_syntax Tryd.laysC174 ⟨l.toArray⟩ (by omega) (by rw [hd]; exact e) _ w h1 (.inr ⟨_, _, rfl⟩)).mono ?_
    rintro e w' ⟨N, rfl, -, -, b⟩
    exact ⟨_, N, rfl, b⟩
  · refine (Tryd.strconv_ParseInt_10_at64_range ⟨l.toArray⟩ (by omega) (by rw [hd]; exact e) _ w h2 (.inr ⟨_, _, rfl⟩)).mono ?_
    rintro e w' ⟨N, rfl, -, -, b⟩
    exact ⟨_, N, rfl, b⟩

set_option maxRecDepth 20000 in
set_option maxHeartbeats 1000000 in
theorem iclone_any (b off n cap : Nat) (xs : List Int) (w : World) (hn : xs.length = n) (hs : n ≤ 1048576) (hc : ∀ j, j < n → w.cell? ⟨b, off + j, none⟩ = some (.int .i64 (xs.getD j 0))) :
    Calls Tryd.prog 36 #[.slice (some ⟨b, off, none⟩) n cap] w fun e w' => ∃ u, e = .returned u ∧ Own w' w.heap.size u xs ∧ Below w.heap.size w w' := by
  obtain ⟨i0, hi, hz0, hz1, hz2⟩ := info_parts Tryd.infoI
  obtain ⟨w1, hw1⟩ : ∃ w1, w1 = w.alloc (.cells #[] 2) := ⟨_, rfl⟩
  have hown : w1.ownsRow w.heap.size 2 1 (.slice (some ⟨w.heap.size, 0, none⟩) 0 0) 0 [] := by
    have := World.ownsRow_lit (base := w.heap.size) (e := 2) (size := 1) w #[] 0 (Nat.le_refl _) (Nat.zero_le _) rfl
    rw [hw1]
    simpa using this
  have hnews : ∀ j u, (xs.map (Value.int .i64))[j]? = some u → w1.cell? ((⟨b, off, none⟩ : Addr).add j) = some u := by
    intro j u hj
    have hlt : j < n := by
      rcases Nat.lt_or_ge j n with h | h
      · exact h
      · rw [List.getElem?_eq_none (by simpa [hn] using h)] at hj; cases hj
    rw [show (⟨b, off, none⟩ : Addr).add j = ⟨b, off + j, none⟩ by unfold Addr.add; split <;> simp_all]
    have h1 := hc j hlt
    have hb1 : Below w.heap.size w w1 := by rw [hw1]; exact (Below.refl _ _).alloc (Nat.le_refl _) _
    rw [hb1.cell (p := ⟨b, off + j, none⟩) (World.block_lt_of_cell? w _ h1), h1, ← hj]
    simp [hn, hlt]
  have hone : ∀ u ∈ xs.map (Value.int .i64), u.oneCell' = true := by
    intro u hu
    obtain ⟨x, _, rfl⟩ := List.mem_map.1 hu
    rfl
  have hll : (xs.map (Value.int .i64)).length = n * 1 := by simp [hn]
  have hb1 : Below w.heap.size w w1 := by rw [hw1]; exact (Below.refl _ _).alloc (Nat.le_refl _) _
  have hq : (binOp .eql 22 (.slice (some ⟨b, off, none⟩) n cap) (.slice none 0 0)).run Tryd.prog w = .ok (.bool false) w := by kernel_rfl
  clear hc
  go_enter Tryd.func36, Tryd.ntmps36
  go_wp2_with (at_builtin; rw [← hw1]; refine wpList_append_own _ rfl _ _ 22 rfl w.heap.size 2 i0 (.int .i64 0) 1 8 Tryd.underlying22 hi hz0 hz1 hz2 rfl (by decide) _ _ _ rfl hown _ n cap (xs.map (Value.int .i64)) rfl hll hnews hone (by unfold maxLen; omega) (by omega) hb1.size ?_)
  intro v' w2 hown' hgrow _
  rw [← hw1] at hgrow
  have HG : Hid (Below w.heap.size w w2) := hb1.grown hgrow hb1.size (fun g e => by simp [Value.ownBlock] at e; omega)
  go_wp2
  go_ret
  refine ⟨_, rfl, ?_, HG.out⟩
  unfold Own
  rw [hn]
  simpa using hown'

theorem join_is (ls : List Bs) : Lib.join ls [32] = joinB 32 ls := by
  induction ls with
  | nil => rfl
  | cons a l ih =>
    cases l with
    | nil => rw [Lib.join_one, joinB]
    | cons b l =>
      rw [joinB, ← ih]
      simp [Lib.join, List.intercalate, List.intersperse]

theorem ijoin_any (bk c : Nat) (ls : List Bs) (w : World) (hr : ReadsS w (.slice (some ⟨bk, 0, none⟩) ls.length c) ls) (h0 : 0 < ls.length) (hn : ls.length ≤ 1048576) (hlen : (joinB 32 ls).length ≤ 1048576) :
    Calls Tryd.prog 50 #[.slice (some ⟨bk, 0, none⟩) ls.length c, .string ⟨#[32]⟩] w fun e w' => e = .returned (S (joinB 32 ls)) ∧ Below w.heap.size w w' := by
  obtain ⟨ao, cap, e, hcap, -, hc⟩ := hr
  simp only [Value.slice.injEq] at e
  obtain ⟨rfl, -, rfl⟩ := e
  have hm : (ls.map (fun l => (⟨l.toArray⟩ : ByteArray))).map (·.data.toList) = ls := by
    rw [List.map_map]
    conv => rhs; rw [← List.map_id ls]
    apply List.map_congr_left
    intro x _
    rfl
  have hcell : ∀ j, j < ls.length → w.cell? ⟨bk, 0 + j, none⟩ = some (S (ls.getD j [])) := by
    rcases hc with hc | ⟨b, off, e, hc⟩
    · rw [hc] at h0; simp at h0
    · simp only [Option.some.injEq, Addr.mk.injEq] at e
      obtain ⟨rfl, rfl, -⟩ := e
      exact hc
  have c0 := Tryd.strings_Join bk 0 c (ls.map (fun l => (⟨l.toArray⟩ : ByteArray))) ⟨#[32]⟩ w (by
    intro j x hj
    rw [List.getElem?_map] at hj
    cases hg : ls[j]? with
    | none => rw [hg] at hj; cases hj
    | some y =>
      rw [hg] at hj
      simp only [Option.map_some, Option.some.injEq] at hj
      subst hj
      have hlt : j < ls.length := by
        rcases Nat.lt_or_ge j ls.length with h | h
        · exact h
        · rw [List.getElem?_eq_none h] at hg; cases hg
      rw [hcell j hlt, List.getD_eq_getElem?_getD, hg]
      rfl) (World.block_lt_of_cell? w _ (hcell 0 h0)) (by simp; omega) (by simpa using hcap) (by
    rw [hm, show (⟨#[32]⟩ : ByteArray).data.toList = [32] from rfl, join_is]
    omega)
  rw [hm, show (⟨#[32]⟩ : ByteArray).data.toList = [32] from rfl, join_is, List.length_map] at c0
  exact c0
end Go.Proofs.YtifffiekibdgnaaDoor
