/- Lists of strings in memory: 'ReadsS', 'OwnS'; what eqStringS, likeTexts, markText, markStringS and heldStringS answer. -/
import Derived.Test.YtphmjjmgpnlagaaDoorDec
import Derived.Laws.OwnMore
import Derived.Deep.AppendLies
import Derived.Deep.QuietTactic
import Derived.OwnWalk
namespace Go.Proofs.YtphmjjmgpnlagaaDoor
open Go.ChangeShapes Go.WideShapes Go.ChangeAt Go.RowKit

def ReadsS (w : World) (v : Value) (xs : List Bs) : Prop :=
  ∃ ao cap, v = .slice ao xs.length cap ∧ xs.length ≤ cap ∧ (cap ≤ maxLen ∧ (ao = none → cap = 0)) ∧
    (xs = [] ∨ ∃ b off, ao = some ⟨b, off, none⟩ ∧ ∀ j, j < xs.length → w.cell? ⟨b, off + j, none⟩ = some (S (xs.getD j [])))
def OwnS (w : World) (base : Nat) (v : Value) (xs : List Bs) : Prop :=
  w.ownsRow base 9 1 v xs.length (xs.map S)

theorem OwnS.nil (w : World) (base : Nat) : OwnS w base (.slice none 0 0) [] := World.ownsRow_nil w base _ _
theorem OwnS.reads {w : World} {base : Nat} {v : Value} {xs : List Bs} (h : OwnS w base v xs) : ReadsS w v xs := by
  rcases h.2 with ⟨rfl, h0⟩ | ⟨g, cap, cur, rfl, hb, hg, hnc, hcm, hcs, ht⟩
  · have e : xs = [] := List.eq_nil_of_length_eq_zero h0
    subst e
    exact ⟨none, 0, rfl, Nat.le_refl _, ⟨Nat.zero_le _, fun _ => rfl⟩, .inl rfl⟩
  · refine ⟨_, cap, rfl, hnc, ⟨hcm, fun e => by cases e⟩, .inr ⟨g, 0, rfl, fun j hj => ?_⟩⟩
    have := World.ownsRow.cellAt (w := w) h j (by omega)
    rw [Nat.zero_add, this]
    simp [List.getD, hj]
theorem OwnS.mono {w : World} {base base' : Nat} {v : Value} {xs : List Bs} (h : OwnS w base v xs) (hb : base' ≤ base) : OwnS w base' v xs := by
  refine ⟨h.1, ?_⟩
  rcases h.2 with h' | ⟨g, cap, cur, e, hg, r⟩
  · exact .inl h'
  · exact .inr ⟨g, cap, cur, e, Nat.le_trans hb hg, r⟩
theorem OwnS.lt {w : World} {base : Nat} {v : Value} {xs : List Bs} (h : OwnS w base v xs) : ∀ k, v.ownBlock = some k → base ≤ k ∧ k < w.heap.size := World.ownsRow.lt h
theorem OwnS.frame {w w' : World} {base : Nat} {v : Value} {xs : List Bs} (h : OwnS w base v xs) (e : ∀ b ∈ v.ownBlock.toList, w'.heap[b]? = w.heap[b]?) : OwnS w' base v xs := by
  refine ⟨h.1, ?_⟩
  rcases h.2 with h' | ⟨g, cap, cur, rfl, hb, hg, r⟩
  · exact .inl h'
  · exact .inr ⟨g, cap, cur, rfl, hb, (e g (by simp [Value.ownBlock])).trans hg, r⟩
theorem OwnS.below {w w' : World} {base : Nat} {v : Value} {xs : List Bs} (h : OwnS w base v xs) (hb : Below w.heap.size w w') : OwnS w' base v xs :=
  h.frame (fun b hm => hb.block b (h.lt b (by simpa using hm)).2)
theorem OwnS.kept {w w' : World} {base : Nat} {v : Value} {row : Option Nat} {xs : List Bs} (h : OwnS w base v xs) (hg : w.grownBy w' row) (hne : v.ownBlock = none ∨ v.ownBlock ≠ row) : OwnS w' base v xs :=
  World.ownsRow.kept h hg hne
theorem ReadsS.below {w w' : World} {B : Nat} {v : Value} {xs : List Bs} (h : ReadsS w v xs) (hb : Below B w w') (hB : w.heap.size ≤ B) : ReadsS w' v xs := by
  obtain ⟨ao, cap, rfl, h1, h2, h3⟩ := h
  refine ⟨ao, cap, rfl, h1, h2, ?_⟩
  rcases h3 with h3 | ⟨b, off, rfl, h4⟩
  · exact .inl h3
  · refine .inr ⟨b, off, rfl, fun j hj => ?_⟩
    have h5 := h4 j hj
    have h6 := World.block_lt_of_cell? w _ h5
    rw [hb.cell (p := ⟨b, off + j, none⟩) (Nat.lt_of_lt_of_le h6 hB)]
    exact h5

theorem takeS_snoc (xs : List Bs) (j : Nat) (h : j < xs.length) : xs.take (j + 1) = xs.take j ++ [xs.getD j []] := by
  rw [List.take_succ_eq_append_getElem h]; simp [List.getD, h]
theorem takeS_step {xs ys : List Bs} {j : Nat} (h : xs.take j = ys.take j) (hx : j < xs.length) (hy : j < ys.length) (e : xs.getD j [] = ys.getD j []) : xs.take (j + 1) = ys.take (j + 1) := by
  rw [takeS_snoc xs j hx, takeS_snoc ys j hy, h, e]
theorem neS_of_getD {xs ys : List Bs} {j : Nat} (e : xs.getD j [] ≠ ys.getD j []) : xs ≠ ys := fun h => e (by rw [h])

set_option maxHeartbeats 400000 in
theorem eqS_any (va vb : Value) (xs ys : List Bs) (w : World) (ha : ReadsS w va xs) (hb : ReadsS w vb ys) (hbig : xs.length ≤ 1099511627776) :
    Calls Tryd.prog 20 #[va, vb] w fun e w' => e = .returned (.bool (decide (xs = ys))) ∧ ∃ n, w' = w.drewN n := by
  obtain ⟨ao, ca, rfl, hla, ⟨hma, -⟩, hca⟩ := ha
  obtain ⟨bo, cb, rfl, hlb, ⟨hmb, -⟩, hcb⟩ := hb
  unfold S at hca hcb
  by_cases hlen : xs.length = ys.length
  · obtain ⟨n, hn⟩ : ∃ n, n = xs.length := ⟨_, rfl⟩
    rw [← hlen] at hlb hcb ⊢
    rw [← hn] at hla hlb hca hcb hbig ⊢
    have HN : Hid (n = xs.length ∧ n = ys.length) := ⟨hn, hn.trans hlen⟩
    clear hn hlen hma hmb
    have hcell : ∀ j, j < n → ∃ b off b' off', ao = some ⟨b, off, none⟩ ∧ bo = some ⟨b', off', none⟩ ∧ w.cell? ⟨b, off + j, none⟩ = some (.string ⟨(xs.getD j []).toArray⟩) ∧ w.cell? ⟨b', off' + j, none⟩ = some (.string ⟨(ys.getD j []).toArray⟩) := by
      intro j hj
      rcases hca with e | ⟨b, off, e, h4⟩
      · have := HN.out.1; rw [e] at this; simp at this; omega
      · rcases hcb with e' | ⟨b', off', e', h4'⟩
        · have := HN.out.2; rw [e'] at this; simp at this; omega
        · exact ⟨b, off, b', off', e, e', h4 j hj, h4' j hj⟩
    clear hca hcb
    go_enter Tryd.func20, Tryd.ntmps20
    go_wp2
    go_loopw [5] (fun i wr => ∃ j q : Nat, j ≤ n ∧ i = .int .i64 j ∧ Hid (xs.take j = ys.take j) ∧ wr = w.drewN q) (fun i _ => n - (intOf i).toNat)
    case atStart => exact ⟨0, 0, Nat.zero_le _, rfl, by simp [Hid], rfl⟩
    case round =>
      obtain ⟨j, q, hj, rfl, ht, rfl⟩ := hrel
      by_cases hlt : (j : Int) < (n : Int)
      · obtain ⟨b, off, b', off', rfl, rfl, hc1, hc2⟩ := hcell j (by omega)
        clear hcell
        obtain ⟨x, hx⟩ : ∃ x, x = xs.getD j [] := ⟨_, rfl⟩
        obtain ⟨y, hy⟩ : ∃ y, y = ys.getD j [] := ⟨_, rfl⟩
        rw [← hx] at hc1
        rw [← hy] at hc2
        have HX : Hid (x = xs.getD j [] ∧ y = ys.getD j []) := ⟨hx, hy⟩
        clear hx hy
        by_cases hxy : x = y
        · go_wp2
          go_quiet (fail)
          go_wp2
          go_roundw
          case rel => exact ⟨j + 1, _, by omega, by go_num, takeS_step ht (by have := HN.out.1; omega) (by have := HN.out.2; omega) (by rw [← HX.out.1, ← HX.out.2]; exact hxy), rfl⟩
          case measure => simp [intOf]; omega
        · have hbeq : (x == y) = false := by simpa using hxy
          go_wp2
          go_quiet (fail)
          go_wp2
          go_ret
          exact ⟨ret_bool (by
            have h2 : xs ≠ ys := neS_of_getD (j := j) (by rw [← HX.out.1, ← HX.out.2]; exact hxy)
            simp [h2]), ⟨_, World.drewN_drewN ..⟩⟩
      · go_wp2
        go_ret
        exact ⟨ret_bool (by
          have h1 : xs = ys := by
            have h2 := ht.out
            rw [List.take_of_length_le (by have := HN.out.1; omega), List.take_of_length_le (by have := HN.out.2; omega)] at h2
            exact h2
          simp [h1]), ⟨_, rfl⟩⟩
  · have hne : ((xs.length : Int) != (ys.length : Int)) = true := by simp; omega
    have he : decide (xs = ys) = false := by
      have : xs ≠ ys := fun h => hlen (by rw [h])
      simp [this]
    rw [he]
    clear he hlen hca hcb
    go_enter Tryd.func20, Tryd.ntmps20
    go_wp2
    go_ret
    exact ⟨rfl, 0, rfl⟩

set_option maxHeartbeats 400000 in
theorem likeS_any (va vb : Value) (xs ys : List Bs) (w : World) (ha : ReadsS w va xs) (hb : ReadsS w vb ys) (hbig : xs.length ≤ 1099511627776) :
    Calls Tryd.prog 14 #[va, vb] w fun e w' => e = .returned (.bool (decide (xs = ys))) ∧ ∃ n, w' = w.drewN n := by
  obtain ⟨ao, ca, rfl, hla, ⟨hma, -⟩, hca⟩ := ha
  obtain ⟨bo, cb, rfl, hlb, ⟨hmb, -⟩, hcb⟩ := hb
  unfold S at hca hcb
  by_cases hlen : xs.length = ys.length
  · obtain ⟨n, hn⟩ : ∃ n, n = xs.length := ⟨_, rfl⟩
    rw [← hlen] at hlb hcb ⊢
    rw [← hn] at hla hlb hca hcb hbig ⊢
    have HN : Hid (n = xs.length ∧ n = ys.length) := ⟨hn, hn.trans hlen⟩
    clear hn hlen hma hmb
    have hcell : ∀ j, j < n → ∃ b off b' off', ao = some ⟨b, off, none⟩ ∧ bo = some ⟨b', off', none⟩ ∧ w.cell? ⟨b, off + j, none⟩ = some (.string ⟨(xs.getD j []).toArray⟩) ∧ w.cell? ⟨b', off' + j, none⟩ = some (.string ⟨(ys.getD j []).toArray⟩) := by
      intro j hj
      rcases hca with e | ⟨b, off, e, h4⟩
      · have := HN.out.1; rw [e] at this; simp at this; omega
      · rcases hcb with e' | ⟨b', off', e', h4'⟩
        · have := HN.out.2; rw [e'] at this; simp at this; omega
        · exact ⟨b, off, b', off', e, e', h4 j hj, h4' j hj⟩
    clear hca hcb
    go_enter Tryd.func14, Tryd.ntmps14
    go_wp2
    go_loopw [5] (fun i wr => ∃ j q : Nat, j ≤ n ∧ i = .int .i64 j ∧ Hid (xs.take j = ys.take j) ∧ wr = w.drewN q) (fun i _ => n - (intOf i).toNat)
    case atStart => exact ⟨0, 0, Nat.zero_le _, rfl, by simp [Hid], rfl⟩
    case round =>
      obtain ⟨j, q, hj, rfl, ht, rfl⟩ := hrel
      by_cases hlt : (j : Int) < (n : Int)
      · obtain ⟨b, off, b', off', rfl, rfl, hc1, hc2⟩ := hcell j (by omega)
        clear hcell
        obtain ⟨x, hx⟩ : ∃ x, x = xs.getD j [] := ⟨_, rfl⟩
        obtain ⟨y, hy⟩ : ∃ y, y = ys.getD j [] := ⟨_, rfl⟩
        rw [← hx] at hc1
        rw [← hy] at hc2
        have HX : Hid (x = xs.getD j [] ∧ y = ys.getD j []) := ⟨hx, hy⟩
        clear hx hy
        by_cases hxy : x = y
        · go_wp2
          go_quiet (fail)
          go_wp2
          go_roundw
          case rel => exact ⟨j + 1, _, by omega, by go_num, takeS_step ht (by have := HN.out.1; omega) (by have := HN.out.2; omega) (by rw [← HX.out.1, ← HX.out.2]; exact hxy), rfl⟩
          case measure => simp [intOf]; omega
        · have hbeq : (x == y) = false := by simpa using hxy
          go_wp2
          go_quiet (fail)
          go_wp2
          go_ret
          exact ⟨ret_bool (by
            have h2 : xs ≠ ys := neS_of_getD (j := j) (by rw [← HX.out.1, ← HX.out.2]; exact hxy)
            simp [h2]), ⟨_, World.drewN_drewN ..⟩⟩
      · go_wp2
        go_ret
        exact ⟨ret_bool (by
          have h1 : xs = ys := by
            have h2 := ht.out
            rw [List.take_of_length_le (by have := HN.out.1; omega), List.take_of_length_le (by have := HN.out.2; omega)] at h2
            exact h2
          simp [h1]), ⟨_, rfl⟩⟩
  · have hne : ((xs.length : Int) != (ys.length : Int)) = true := by simp; omega
    have he : decide (xs = ys) = false := by
      have : xs ≠ ys := fun h => hlen (by rw [h])
      simp [this]
    rw [he]
    clear he hlen hca hcb
    go_enter Tryd.func14, Tryd.ntmps14
    go_wp2
    go_ret
    exact ⟨rfl, 0, rfl⟩

def mtext (k : Nat) : Bs := 109 :: dec k

set_option maxHeartbeats 1000000 in
theorem mtext_any (k : Int) (w : World) (h0 : 1 ≤ k) (h1 : k ≤ 9223372036854775807) :
    Calls Tryd.prog 36 #[.int .i64 k] w fun e w' => e = .returned (S (mtext k.toNat)) ∧ Below w.heap.size w w' := by
  unfold S
  go_enter Tryd.func36, Tryd.ntmps36
  go_wp2
  go_loopw [0, 3] (fun m s wr => ∃ (q : Nat) (l : Bs), m = .int .i64 q ∧ s = .string ⟨l.toArray⟩ ∧ (q : Int) ≤ 9223372036854775807 ∧ Hid (decZ q ++ l = dec k.toNat ∧ Below w.heap.size w wr)) (fun m _ _ => (intOf m).toNat)
  case atStart => exact ⟨k.toNat, [], by congr 1; omega, rfl, by omega, by simp [decZ]; omega, Below.refl _ _⟩
  case round =>
    obtain ⟨q, l, rfl, rfl, hq, HI⟩ := hrel
    have hl20 : l.length ≤ 20 := by
      have := congrArg List.length HI.out.1
      have h3 := dec_len 19 k.toNat (by omega)
      rw [List.length_append] at this
      omega
    have hsz : (⟨l.toArray⟩ : ByteArray).size = l.length := rfl
    by_cases hz : 0 < (q : Int)
    · obtain ⟨hmod, hdiv⟩ := parts_pos q (by omega)
      rw [Int.natAbs_natCast] at hmod hdiv
      obtain ⟨d, hd⟩ : ∃ d : Nat, d = q % 10 := ⟨_, rfl⟩
      obtain ⟨r, hr⟩ : ∃ r : Nat, r = q / 10 := ⟨_, rfl⟩
      rw [← hd] at hmod
      rw [← hr] at hdiv
      have hd9 : (d : Int) ≤ 9 := by omega
      have hr9 : (r : Int) ≤ 922337203685477580 := by omega
      have hconv := conv1 wr d (by omega)
      have HS : Hid (decZ r ++ ([digit d] ++ l) = dec k.toNat ∧ r < q) := by
        refine ⟨?_, by omega⟩
        rw [← HI.out.1, decZ_step q (by omega), hd, digit_mod, hr]
        simp
      have HB : Hid (Below w.heap.size w (wr.alloc (.cells #[.int .u8 (48 + (d : Int))] 5))) := HI.out.2.alloc HI.out.2.size _
      clear hd hr HI
      go_wp2
      go_roundw
      case rel => exact ⟨r, [digit d] ++ l, by go_num, by rw [← ByteArray.mk_append_mk' [digit d] l], by omega, HS.out.1, HB.out⟩
      case measure => have := HS.out.2; simp [intOf]; omega
    · obtain rfl : q = 0 := by omega
      have HE : Hid (l = dec k.toNat) := by simpa [decZ, Hid] using HI.out.1
      go_wp2
      go_ret
      refine ⟨congrArg (fun x => Ending.returned (Value.string x)) ?_, HI.out.2⟩
      rw [ByteArray.mk_append_mk' [109] l, mtext, ← HE.out]
      rfl
end Go.Proofs.YtphmjjmgpnlagaaDoor
