/- Lists of strings are marked and looked at again: markStringS, heldStringS; one more string behind a list. -/
import Derived.Test.YtphmjjmgpnlagaaDoorSMem
import Derived.Deep.RegionHeld3
namespace Go.Proofs.YtphmjjmgpnlagaaDoor
open Go.ChangeShapes Go.WideShapes Go.ChangeAt Go.RowKit

def marksS (k : Nat) (n : Nat) : List Bs := (List.range n).map fun j => mtext (k + j)
theorem marksS_length (k n : Nat) : (marksS k n).length = n := by simp [marksS]
theorem marksS_getD (k n j : Nat) (h : j < n) : (marksS k n).getD j [] = mtext (k + j) := by simp [marksS, List.getD, h]
theorem marksS_step (k : Nat) (xs : List Bs) (j : Nat) (h : j < xs.length) : ((marksS k j ++ xs.drop j).set j (mtext (k + j))) = marksS k (j + 1) ++ xs.drop (j + 1) := by
  rw [List.set_append_right _ _ (by simp [marksS_length]), marksS_length, Nat.sub_self]
  rw [List.drop_eq_getElem_cons h, List.set_cons_zero]
  simp [marksS, List.range_succ]
theorem marksS_all (k : Nat) (xs : List Bs) : marksS k xs.length ++ xs.drop xs.length = marksS k xs.length := by simp
theorem OwnS.put {w : World} {base g n cap : Nat} {xs : List Bs} (h : OwnS w base (.slice (some ⟨g, 0, none⟩) n cap) xs) (hn : n = xs.length) (j : Nat) (hj : j < n) (x : Bs) :
    w.frozen? ⟨g, j, none⟩ = false ∧ (∃ y, w.cell? ⟨g, j, none⟩ = some y) ∧ OwnS (w.setCell ⟨g, j, none⟩ (S x)) base (.slice (some ⟨g, 0, none⟩) n cap) (xs.set j x) := by
  subst hn
  have hown : w.ownsRow base 9 1 (.slice (some ⟨g, 0, none⟩) xs.length cap) xs.length (xs.map S) := h
  refine ⟨World.ownsRow.frozenAt hown j, ?_, ?_⟩
  · rw [World.ownsRow.cellAt hown j (by omega)]
    exact ⟨_, List.getElem?_eq_getElem (by simpa using hj)⟩
  · have := (World.ownsRow.stored hown j (S x)).1
    rw [← List.map_set] at this
    unfold OwnS
    rwa [List.length_set]
theorem grownSetS (w : World) (g j : Nat) (x : Value) : w.grownBy (w.setCell ⟨g, j, none⟩ x) (some g) :=
  ⟨rfl, rfl, rfl, by simp, fun k _ hk => heap_setCell_other w ⟨g, j, none⟩ k x (fun e => hk (by simp [e]))⟩
theorem grown_below {w w' w'' : World} {row : Option Nat} (h : w.grownBy w' row) (b : Below w'.heap.size w' w'') : w.grownBy w'' row :=
  ⟨b.os.trans h.os, b.tape.trans h.tape, b.output.trans h.output, Nat.le_trans h.size b.size, fun k hk hne => (b.block k (Nat.lt_of_lt_of_le hk h.size)).trans (h.block k hk hne)⟩

theorem mtextN_any (k : Nat) (w : World) (h0 : 1 ≤ k) (h1 : k ≤ 9223372036854775807) :
    Calls Tryd.prog 36 #[.int .i64 (k : Int)] w fun e w' => e = .returned (S (mtext k)) ∧ Below w.heap.size w w' := by
  have := mtext_any (k : Int) w (by omega) (by omega)
  simpa using this

set_option maxHeartbeats 1000000 in
theorem markS_any (v : Value) (xs : List Bs) (k : Nat) (w : World) (base : Nat) (h : OwnS w base v xs) (hbig : xs.length ≤ 1048576) (h0 : 1 ≤ k) (h1 : k ≤ 1048576) :
    Calls Tryd.prog 21 #[v, .int .i64 k] w fun e w' => e = .returned (.int .i64 (k + xs.length : Nat)) ∧ OwnS w' base v (marksS k xs.length) ∧ w.grownBy w' v.ownBlock := by
  by_cases hz : 0 < xs.length
  · obtain ⟨g, cap, rfl, hbg, hgl⟩ := World.ownsRow.form h hz
    have HO : Hid (OwnS w base (.slice (some ⟨g, 0, none⟩) xs.length cap) xs) := h
    clear h
    obtain ⟨n, hn⟩ : ∃ n, n = xs.length := ⟨_, rfl⟩
    rw [← hn] at hz hbig HO ⊢
    have HN : Hid (n = xs.length) := hn
    clear hn
    go_enter Tryd.func21, Tryd.ntmps21
    go_wp2
    go_loopw [1, 5] (fun q i wr => ∃ j : Nat, j ≤ n ∧ i = .int .i64 j ∧ q = .int .i64 (k + j : Nat) ∧ Hid (OwnS wr base (.slice (some ⟨g, 0, none⟩) n cap) (marksS k j ++ xs.drop j) ∧ w.grownBy wr (some g))) (fun _ i _ => n - (intOf i).toNat)
    case atStart => exact ⟨0, Nat.zero_le _, rfl, by simp, by simpa [marksS] using HO.out, World.grownBy.refl _ _⟩
    case round =>
      obtain ⟨j, hj, rfl, rfl, HR⟩ := hrel
      have hn' := HN.out
      have hlen : (marksS k j ++ xs.drop j).length = n := by simp [marksS_length]; omega
      by_cases hlt : (j : Int) < (n : Int)
      · clear hn'
        go_wp2_with fail
        refine (mtextN_any (k + j) _ (by omega) (by omega)).mono ?_
        rintro e w1 ⟨rfl, b1⟩
        have HR1 : Hid (OwnS w1 base (.slice (some ⟨g, 0, none⟩) n cap) (marksS k j ++ xs.drop j) ∧ w.grownBy w1 (some g)) := ⟨HR.out.1.below b1, grown_below HR.out.2 b1⟩
        obtain ⟨hfr, ⟨y, hc⟩, ho⟩ := HR1.out.1.put hlen.symm j (by omega) (mtext (k + j))
        rw [marksS_step k xs j (by have := HN.out; omega)] at ho
        have HS : Hid (OwnS (w1.setCell ⟨g, j, none⟩ (S (mtext (k + j)))) base (.slice (some ⟨g, 0, none⟩) n cap) (marksS k (j + 1) ++ xs.drop (j + 1)) ∧ w.grownBy (w1.setCell ⟨g, j, none⟩ (S (mtext (k + j)))) (some g)) := ⟨ho, HR1.out.2.trans (grownSetS _ _ _ _)⟩
        unfold S at HS ⊢
        clear ho b1 HR HR1 hlen
        go_wp2
        go_roundw
        case rel => exact ⟨j + 1, by omega, by go_num, by go_num, HS⟩
        case measure => simp [intOf]; omega
      · clear hn' hlen
        go_wp2
        go_ret
        have hjn : j = n := by omega
        have hn' := HN.out
        have this := HR.out
        rw [hjn, hn', marksS_all, ← hn'] at this
        exact ⟨ret_int (by omega), this.1, this.2⟩
  · have hx : xs = [] := List.eq_nil_of_length_eq_zero (by omega)
    subst hx
    obtain ⟨ao, cap, rfl, _, _, _⟩ := h.reads
    have HO : Hid (OwnS w base (.slice ao 0 cap) []) := h
    clear h
    simp only [List.length_nil] at hz hbig ⊢
    go_enter Tryd.func21, Tryd.ntmps21
    go_wp2
    go_loop [1, 5] (fun q i => i = .int .i64 0 ∧ q = .int .i64 k) (fun _ _ => 0)
    case atStart => exact ⟨rfl, rfl⟩
    case round =>
      obtain ⟨rfl, rfl⟩ := hrel
      go_wp2
      go_ret
      exact ⟨ret_int (by simp), by simpa [marksS] using HO.out, World.grownBy.refl _ _⟩

set_option maxHeartbeats 1000000 in
theorem heldS_any (v : Value) (n : Nat) (k : Nat) (w : World) (h : ReadsS w v (marksS k n)) (hbig : n ≤ 1048576) (h0 : 1 ≤ k) (h1 : k ≤ 1048576) :
    Calls Tryd.prog 22 #[v, .int .i64 k] w fun e w' => e = .returned (.int .i64 (k + n : Nat)) ∧ Below w.heap.size w w' := by
  obtain ⟨ao, cap, rfl, hl, ⟨hm, -⟩, hc⟩ := h
  rw [marksS_length] at hl hc ⊢
  unfold maxLen at hm
  have hcell : ∀ j, j < n → ∃ b off, ao = some ⟨b, off, none⟩ ∧ b < w.heap.size ∧ w.cell? ⟨b, off + j, none⟩ = some (S (mtext (k + j))) := by
    intro j hj
    rcases hc with e | ⟨b, off, e, h4⟩
    · have := congrArg List.length e; simp [marksS_length] at this; omega
    · refine ⟨b, off, e, World.block_lt_of_cell? w _ (h4 j hj), ?_⟩
      rw [h4 j hj, marksS_getD k n j hj]
  clear hc
  go_enter Tryd.func22, Tryd.ntmps22
  go_wp2
  go_loopw [1, 5] (fun q i wr => ∃ j : Nat, j ≤ n ∧ i = .int .i64 j ∧ q = .int .i64 (k + j : Nat) ∧ Hid (Below w.heap.size w wr)) (fun _ i _ => n - (intOf i).toNat)
  case atStart => exact ⟨0, Nat.zero_le _, rfl, by simp, Below.refl _ _⟩
  case round =>
    obtain ⟨j, hj, rfl, rfl, HB⟩ := hrel
    by_cases hlt : (j : Int) < (n : Int)
    · obtain ⟨b, off, rfl, hb, hc0⟩ := hcell j (by omega)
      have hc1 := (HB.out.cell (p := ⟨b, off + j, none⟩) hb).trans hc0
      unfold S at hc1
      clear hc0
      go_wp2_with fail
      go_region_held3 (fun w' => w'.cell? ⟨b, off + j, none⟩ = some (.string ⟨(mtext (k + j)).toArray⟩)) (assumption)
        (first
          | (go_at_call 36; refine (mtextN_any (k + j) _ (by omega) (by omega)).mono ?_; rintro e w2 ⟨rfl, b2⟩; have hc2 := (b2.cell (p := ⟨b, off + j, none⟩) (World.block_lt_of_cell? _ _ hc1)).trans hc1; have HB2 : Hid (Below w.heap.size w w2) := (below_drewN HB.out 1).trans (b2.mono HB.out.size); unfold S; clear b2))
      go_wp2
      go_roundw
      case rel => exact ⟨j + 1, by omega, by go_num, by go_num, HB2⟩
      case measure => simp [intOf]; omega
    · go_wp2
      go_ret
      exact ⟨ret_int (by omega), HB.out⟩
end Go.Proofs.YtphmjjmgpnlagaaDoor
