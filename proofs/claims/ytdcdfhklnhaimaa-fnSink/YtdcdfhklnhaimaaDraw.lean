/- The draws of the model: a cursor over the bytes of a code. Whatever the bytes, each draw answers a number in its range, writes into the cursor's own block alone, and leaves a cursor. -/
import Derived.Test.YtdcdfhklnhaimaaMem
import Derived.WalkSpells
namespace Go.Proofs.Ytdcdfhklnhaimaa
open Go.ChangeShapes Go.WideShapes Go.ChangeAt Go.RowKit

/- The bytes of a code that came in: below block B. -/
def Bytes (w : World) (B : Nat) (ao : Option Addr) (len : Nat) : Prop :=
  ∀ j, j < len → ∃ b off z, ao = some ⟨b, off, none⟩ ∧ b < B ∧ w.cell? ⟨b, off + j, none⟩ = some (.int .u8 z) ∧ 0 ≤ z ∧ z ≤ 255

theorem Bytes.below {w w' : World} {B : Nat} {ao : Option Addr} {len : Nat} (h : Bytes w B ao len) (hb : Below B w w') : Bytes w' B ao len := by
  intro j hj
  obtain ⟨b, off, z, h1, h2, h3, h4⟩ := h j hj
  exact ⟨b, off, z, h1, h2, (hb.cell (p := ⟨b, off + j, none⟩) h2).trans h3, h4⟩

/- A cursor at block c. -/
def CurAt (w : World) (B c : Nat) (ao : Option Addr) (len cap : Nat) (i h : Int) : Prop :=
  B ≤ c ∧ w.heap[c]? = some (.cells #[.slice ao len cap, .int .i64 i, .int .i64 h] 64 (0, 0)) ∧ Bytes w B ao len ∧ len ≤ 1099511627776 ∧ 0 ≤ i ∧ i ≤ (len : Int)
def Cur (w : World) (B c : Nat) : Prop := ∃ ao len cap i h, CurAt w B c ao len cap i h

theorem block_lt {w : World} {c : Nat} {o : Obj} (h : w.heap[c]? = some o) : c < w.heap.size := by
  rcases Nat.lt_or_ge c w.heap.size with hlt | hge
  · exact hlt
  · rw [Array.getElem?_eq_none hge] at h; cases h

theorem Cur.lt {w : World} {B c : Nat} (h : Cur w B c) : B ≤ c ∧ c < w.heap.size := by
  obtain ⟨_, _, _, _, _, hB, hh, _⟩ := h
  exact ⟨hB, block_lt hh⟩

theorem grown_set (w : World) (c j : Nat) (u : Value) : w.grownBy (w.setCell ⟨c, j, none⟩ u) (some c) :=
  ⟨rfl, rfl, rfl, by simp, fun k _ hk => heap_setCell_other w ⟨c, j, none⟩ k u (fun e => hk (by simp [e]))⟩

theorem CurAt.set2 {w : World} {B c : Nat} {ao : Option Addr} {len cap : Nat} {i h : Int} (H : CurAt w B c ao len cap i h) (x : Int) : CurAt (w.setCell ⟨c, 2, none⟩ (.int .i64 x)) B c ao len cap i x := by
  obtain ⟨hB, h1, h2, h3⟩ := H
  exact ⟨hB, heap_setCell_same w c 2 _ _ _ h1, h2.below ((Below.refl B w).setCell hB _), h3⟩
theorem CurAt.set1 {w : World} {B c : Nat} {ao : Option Addr} {len cap : Nat} {i h : Int} (H : CurAt w B c ao len cap i h) (x : Int) (h0 : 0 ≤ x) (h1 : x ≤ (len : Int)) : CurAt (w.setCell ⟨c, 1, none⟩ (.int .i64 x)) B c ao len cap x h := by
  obtain ⟨hB, a1, a2, a3, _⟩ := H
  exact ⟨hB, heap_setCell_same w c 1 _ _ _ a1, a2.below ((Below.refl B w).setCell hB _), a3, h0, h1⟩
theorem CurAt.drewN {w : World} {B c : Nat} {ao : Option Addr} {len cap : Nat} {i h : Int} (H : CurAt w B c ao len cap i h) (n : Nat) : CurAt (w.drewN n) B c ao len cap i h := H

/- Whatever else is done, above B and not at c, the cursor stands. -/
theorem Cur.kept {w w' : World} {B c : Nat} {row : Option Nat} (h : Cur w B c) (hg : w.grownBy w' row) (hne : row ≠ some c) (hr : ∀ k, row = some k → B ≤ k) : Cur w' B c := by
  have hlt := h.lt
  obtain ⟨ao, len, cap, i, hh, hB, h1, h2, h3⟩ := h
  have hb : Below B w w' := (Below.refl B w).grown hg (by omega) hr
  exact ⟨ao, len, cap, i, hh, hB, (hg.block c hlt.2 (fun e => hne e.symm)).trans h1, h2.below hb, h3⟩

theorem Cur.below {w w' : World} {B c : Nat} (h : Cur w B c) (hb : Below w.heap.size w w') : Cur w' B c := by
  have hlt := h.lt
  obtain ⟨ao, len, cap, i, hh, hB, h1, h2, h3⟩ := h
  exact ⟨ao, len, cap, i, hh, hB, (hb.block c hlt.2).trans h1, h2.below (hb.mono (by omega)), h3⟩

theorem Cur.drewN {w : World} {B c : Nat} (h : Cur w B c) (n : Nat) : Cur (w.drewN n) B c := h

theorem grown_drewN {w w' : World} {row : Option Nat} (h : w.grownBy w' row) (n : Nat) : w.grownBy (w'.drewN n) row := h.trans ⟨rfl, rfl, rfl, Nat.le_refl _, fun _ _ _ => rfl⟩
theorem drewN_grown {w w' : World} {row : Option Nat} {n : Nat} (h : (w.drewN n).grownBy w' row) : w.grownBy w' row := ⟨h.os, h.tape, h.output, h.size, h.block⟩

theorem wrap_nat (n : Nat) (h : n < 9223372036854775808) : IntKind.i64.wrap (n : Int) = n := by
  have e : IntKind.i64.wrap (n : Int) = if (true && decide ((n : Int) % 18446744073709551616 ≥ 9223372036854775808)) = true then (n : Int) % 18446744073709551616 - 18446744073709551616 else (n : Int) % 18446744073709551616 := rfl
  rw [e, if_neg (by simp; omega)]
  omega

theorem and_bd (x : Int) (m : Nat) (hm : m < 9223372036854775808) : 0 ≤ bits BinOp.and IntKind.i64 x (m : Int) ∧ bits BinOp.and IntKind.i64 x (m : Int) ≤ m := by
  have e : bits BinOp.and IntKind.i64 x (m : Int) = IntKind.i64.wrap (((BitVec.ofInt 64 x &&& BitVec.ofInt 64 (m : Int)).toNat : Nat) : Int) := rfl
  have a : (BitVec.ofInt 64 x &&& BitVec.ofInt 64 (m : Int)).toNat ≤ m := by
    rw [BitVec.toNat_and]
    refine Nat.le_trans Nat.and_le_right ?_
    rw [BitVec.toNat_ofInt]
    omega
  rw [e, wrap_nat _ (by omega)]
  omega

theorem and255 (x : Int) : 0 ≤ bits BinOp.and IntKind.i64 x 255 ∧ bits BinOp.and IntKind.i64 x 255 < 256 := by
  have := and_bd x 255 (by omega)
  have e : ((255 : Nat) : Int) = 255 := rfl
  rw [e] at this
  omega

set_option maxRecDepth 20000 in
set_option maxHeartbeats 1000000 in
theorem byte_any (B c : Nat) (w : World) (h : Cur w B c) :
    Calls Try.prog 56 #[.pointer (some ⟨c, 0, none⟩)] w fun e w' => ∃ x, e = .returned (.int .i64 x) ∧ 0 ≤ x ∧ x < 256 ∧ Cur w' B c ∧ w.grownBy w' (some c) := by
  obtain ⟨ao, len, cap, i, hh, H⟩ := h
  have HC : Hid (CurAt w B c ao len cap i hh) := H
  obtain ⟨hB, h1, h2, h3, h4, h5⟩ := H
  have c0 : w.cell? ⟨c, 0, none⟩ = some (.slice ao len cap) := by rw [cell_of_row w c 0 _ _ _ h1]; rfl
  have c1 : w.cell? ⟨c, 1, none⟩ = some (.int .i64 i) := by rw [cell_of_row w c 1 _ _ _ h1]; rfl
  have c2 : w.cell? ⟨c, 2, none⟩ = some (.int .i64 hh) := by rw [cell_of_row w c 2 _ _ _ h1]; rfl
  have f1 : w.frozen? ⟨c, 1, none⟩ = false := frozen_of_row w c 1 _ _ h1
  have f2 : w.frozen? ⟨c, 2, none⟩ = false := frozen_of_row w c 2 _ _ h1
  clear h1
  by_cases hlt : i < (len : Int)
  · obtain ⟨k, rfl⟩ : ∃ k : Nat, i = k := ⟨i.toNat, by omega⟩
    obtain ⟨b, off, z, rfl, hbB, hz, hz0, hz1⟩ := h2 k (by omega)
    have hbc : b ≠ c := by omega
    clear h2
    go_enter Try.func56, Try.ntmps56
    go_wp2
    go_quiet (fail)
    go_wp2
    go_quiet (fail)
    go_wp2
    go_quiet (fail)
    go_wp2
    go_ret
    refine ⟨_, rfl, (and255 _).1, (and255 _).2, ⟨_, _, _, _, _, (CurAt.set1 (HC.out.set2 _) _ (by omega) (by omega))⟩, ?_⟩
    exact (grown_drewN (grown_set _ _ _ _) _).trans (grown_set _ _ _ _)
  · go_enter Try.func56, Try.ntmps56
    go_wp2
    go_quiet (fail)
    go_wp2
    go_quiet (fail)
    go_wp2
    go_ret
    refine ⟨_, rfl, (and255 _).1, (and255 _).2, ⟨_, _, _, _, _, HC.out.set2 _⟩, ?_⟩
    exact grown_drewN (grown_drewN (grown_set _ _ _ _) _) _

theorem tmod_bd (x n : Int) (h0 : 0 ≤ x) (hn : 0 < n) : 0 ≤ x.tmod n ∧ x.tmod n < n :=
  ⟨Int.tmod_nonneg n h0, Int.tmod_lt_of_pos x hn⟩

set_option maxRecDepth 20000 in
set_option maxHeartbeats 1000000 in
theorem below_any (B c : Nat) (n : Int) (w : World) (h : Cur w B c) (hn : n ≤ 4611686018427387904) :
    Calls Try.prog 51 #[.pointer (some ⟨c, 0, none⟩), .int .i64 n] w fun e w' => ∃ x, e = .returned (.int .i64 x) ∧ 0 ≤ x ∧ (0 < n → x < n) ∧ (n ≤ 0 → x = 0) ∧ Cur w' B c ∧ w.grownBy w' (some c) := by
  have HC : Hid (Cur w B c) := h
  clear h
  by_cases h0 : n ≤ 0
  · go_enter Try.func51, Try.ntmps51
    go_wp2
    go_ret
    exact ⟨0, rfl, by omega, by omega, fun _ => rfl, HC.out, World.grownBy.refl _ _⟩
  · by_cases h1 : n ≤ 256
    · go_enter Try.func51, Try.ntmps51
      go_wp2_with fail
      refine (byte_any B c _ HC.out).mono ?_
      rintro e w1 ⟨x, rfl, hx0, hx1, C1, G1⟩
      have H1 : Hid (Cur w1 B c ∧ w.grownBy w1 (some c)) := ⟨C1, G1⟩
      clear C1 G1 HC
      go_wp2
      go_ret
      exact ⟨_, rfl, Int.emod_nonneg _ (by omega), fun _ => Int.emod_lt_of_pos _ (by omega), fun h => absurd h (by omega), H1.out.1, H1.out.2⟩
    · go_enter Try.func51, Try.ntmps51
      go_wp2_with fail
      refine (byte_any B c _ HC.out).mono ?_
      rintro e w1 ⟨x, rfl, hx0, hx1, C1, G1⟩
      have H1 : Hid (Cur w1 B c ∧ w.grownBy w1 (some c)) := ⟨C1, G1⟩
      clear C1 G1 HC
      go_wp2_with fail
      refine (byte_any B c _ H1.out.1).mono ?_
      rintro e w2 ⟨y, rfl, hy0, hy1, C2, G2⟩
      have H2 : Hid (Cur w2 B c ∧ w.grownBy w2 (some c)) := ⟨C2, H1.out.2.trans G2⟩
      clear C2 G2 H1
      go_wp2_with fail
      refine (byte_any B c _ H2.out.1).mono ?_
      rintro e w3 ⟨z, rfl, hz0, hz1, C3, G3⟩
      have H3 : Hid (Cur w3 B c ∧ w.grownBy w3 (some c)) := ⟨C3, H2.out.2.trans G3⟩
      clear C3 G3 H2
      go_wp2_with fail
      refine (byte_any B c _ H3.out.1).mono ?_
      rintro e w4 ⟨u, rfl, hu0, hu1, C4, G4⟩
      have H4 : Hid (Cur w4 B c ∧ w.grownBy w4 (some c)) := ⟨C4, H3.out.2.trans G4⟩
      clear C4 G4 H3
      go_wp2
      go_ret
      exact ⟨_, rfl, Int.emod_nonneg _ (by omega), fun _ => Int.emod_lt_of_pos _ (by omega), fun h => absurd h (by omega), H4.out.1, H4.out.2⟩

set_option maxRecDepth 20000 in
set_option maxHeartbeats 1000000 in
theorem once_any (B c : Nat) (n : Int) (w : World) (h : Cur w B c) (hn : n ≤ 4611686018427387904) :
    Calls Try.prog 48 #[.pointer (some ⟨c, 0, none⟩), .int .i64 n] w fun e w' => ∃ b, e = .returned (.bool b) ∧ Cur w' B c ∧ w.grownBy w' (some c) := by
  go_enter Try.func48, Try.ntmps48
  go_wp2_with fail
  refine (below_any B c n _ h hn).mono ?_
  rintro e w1 ⟨x, rfl, hx0, hx1, hx2, C1, G1⟩
  clear hx1 hx2
  go_wp2
  go_ret
  exact ⟨_, rfl, C1, G1⟩

set_option maxRecDepth 20000 in
set_option maxHeartbeats 1000000 in
theorem from_any (B c : Nat) (lo hi : Int) (w : World) (h : Cur w B c) (h1 : lo ≤ hi) (h2 : -1152921504606846976 ≤ lo) (h3 : hi ≤ 1152921504606846976) :
    Calls Try.prog 49 #[.pointer (some ⟨c, 0, none⟩), .int .i64 lo, .int .i64 hi] w fun e w' => ∃ x, e = .returned (.int .i64 x) ∧ lo ≤ x ∧ x ≤ hi ∧ Cur w' B c ∧ w.grownBy w' (some c) := by
  go_enter Try.func49, Try.ntmps49
  go_wp2_with fail
  refine (below_any B c _ _ h (by omega)).mono ?_
  rintro e w1 ⟨x, rfl, hx0, hx1, hx2, C1, G1⟩
  have hx3 := hx1 (by omega)
  clear hx1 hx2
  go_wp2
  go_ret
  exact ⟨_, rfl, by omega, by omega, C1, G1⟩

theorem and30 (x : Int) : 0 ≤ bits BinOp.and IntKind.i64 x 1073741823 ∧ bits BinOp.and IntKind.i64 x 1073741823 < 1073741824 := by
  have := and_bd x 1073741823 (by omega)
  have e : ((1073741823 : Nat) : Int) = 1073741823 := rfl
  rw [e] at this
  omega

theorem Cur.made (w : World) (ao : Option Addr) (len cap : Nat) (h : Int) (hl : len ≤ 1099511627776) (B : Nat) (hB : B ≤ w.heap.size) (hb2 : Bytes w B ao len) :
    Cur (w.alloc (.cells #[.slice ao len cap, .int .i64 0, .int .i64 h] 64)) B w.heap.size :=
  ⟨ao, len, cap, 0, h, hB, heap_alloc_new w _, hb2.below ((Below.refl B w).alloc hB _), hl, by omega, by omega⟩

set_option maxRecDepth 20000 in
set_option maxHeartbeats 1000000 in
theorem new_any (B : Nat) (ao : Option Addr) (len cap : Nat) (w : World) (hb : Bytes w B ao len) (hl : len ≤ 1099511627776) (hB : B ≤ w.heap.size) :
    Calls Try.prog 46 #[.slice ao len cap] w fun e w' => ∃ c, e = .returned (.pointer (some ⟨c, 0, none⟩)) ∧ w.heap.size ≤ c ∧ Cur w' B c ∧ w.grownBy w' none := by
  have HB : Hid (Bytes w B ao len) := hb
  clear hb
  go_enter Try.func46, Try.ntmps46
  go_wp2
  go_loop [3, 4] (fun h i => ∃ (x : Int) (k : Nat), k ≤ len ∧ i = .int .i64 k ∧ h = .int .i64 x) (fun _ i => len - (intOf i).toNat)
  case atStart => exact ⟨_, 0, Nat.zero_le _, rfl, rfl⟩
  case round =>
    obtain ⟨x, k, hk, rfl, rfl⟩ := hrel
    by_cases hlt : (k : Int) < (len : Int)
    · obtain ⟨b, off, z, rfl, hbB, hz, hz0, hz1⟩ := HB.out k (by omega)
      go_wp2
      go_round
      case rel => exact ⟨_, k + 1, by omega, by go_num, rfl⟩
      case measure => simp [intOf]; omega
    · go_wp2
      go_ret
      exact ⟨_, rfl, Nat.le_refl _, Cur.made w ao len cap x hl B hB HB.out, World.grownBy_alloc w _ none⟩

/- A literal that was built behind the cursor: a draw leaves it. -/
theorem lit_kept {w w' : World} {cs : Array Value} {t : TypeId} {row : Option Nat} (hg : (w.alloc (.cells cs t)).grownBy w' row) (hne : row ≠ some w.heap.size) (j : Nat) : w'.cell? ⟨w.heap.size, j, none⟩ = cs[j]? := by
  have h1 : w'.heap[w.heap.size]? = some (.cells cs t (0, 0)) := (hg.block w.heap.size (by simp) (fun e => hne e.symm)).trans (heap_alloc_new w _)
  rw [cell_of_row w' w.heap.size j _ _ _ h1]

/- The code as a law has it: bytes below block B, not too many. -/
def CodeOk (w : World) (B : Nat) (v : Value) : Prop := ∃ ao len cap, v = .slice ao len cap ∧ Bytes w B ao len ∧ len ≤ 1099511627776

theorem CodeOk.below {w w' : World} {B : Nat} {v : Value} (h : CodeOk w B v) (hb : Below B w w') : CodeOk w' B v := by
  obtain ⟨ao, len, cap, h1, h2, h3⟩ := h
  exact ⟨ao, len, cap, h1, h2.below hb, h3⟩

theorem new_code (B : Nat) (v : Value) (w : World) (h : CodeOk w B v) (hB : B ≤ w.heap.size) :
    Calls Try.prog 46 #[v] w fun e w' => ∃ c, e = .returned (.pointer (some ⟨c, 0, none⟩)) ∧ w.heap.size ≤ c ∧ Cur w' B c ∧ w.grownBy w' none := by
  obtain ⟨ao, len, cap, rfl, h1, h2⟩ := h
  exact new_any B ao len cap w h1 h2 hB

theorem codeOk_row {w : World} {a : Option Addr} {len cap : Nat} {zs : List Int} (h : (a = none ∧ len = 0 ∧ cap = 0 ∧ zs = []) ∨
    ∃ x, a = some x ∧ len ≤ cap ∧ cap ≤ maxLen ∧ zs.length = cap ∧ (∀ i, i < zs.length → w.cell? (x.add i) = some (.int .u8 (zs.getD i 0))) ∧ ∀ n ∈ zs, (Lit.int .u8 n).wf = true)
    (hl : len ≤ 1099511627776) : CodeOk w w.heap.size (.slice a len cap) := by
  refine ⟨a, len, cap, rfl, fun j hj => ?_, hl⟩
  rcases h with ⟨_, h0, _⟩ | ⟨x, rfl, h1, h2, h3, h4, h5⟩
  · omega
  · obtain ⟨b, off, spot⟩ := x
    have hs : spot = none := by simpa [Addr.add] using World.cell?_spot (h4 0 (by omega))
    subst hs
    have ea : (⟨b, off, none⟩ : Addr).add j = ⟨b, off + j, none⟩ := by
      by_cases e : j = 0
      · subst e; simp [Addr.add]
      · simp [Addr.add, e]
    have hc := h4 j (by omega)
    rw [ea] at hc
    refine ⟨b, off, zs.getD j 0, rfl, World.block_lt_of_cell? w _ hc, hc, ?_⟩
    have hm : zs.getD j 0 ∈ zs := by
      have : j < zs.length := by omega
      simp [List.getD, this]
    have := bounds_u8 (h5 _ hm)
    omega

set_option maxRecDepth 20000 in
set_option maxHeartbeats 400000 in
theorem big_any (ao : Option Addr) (len cap : Nat) (w : World) :
    Calls Try.prog 8 #[.slice ao len cap] w fun e w' => e = .returned (.bool (decide ((4096 : Int) < len))) ∧ w' = w := by
  go_enter Try.func8, Try.ntmps8
  go_wp2
  go_ret
  exact ⟨rfl, rfl⟩
end Go.Proofs.Ytdcdfhklnhaimaa
