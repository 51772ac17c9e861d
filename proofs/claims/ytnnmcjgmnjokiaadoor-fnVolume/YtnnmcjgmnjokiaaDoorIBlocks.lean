/- The program's BlocksOk, NewBlocks and Put answer what plain lists say, in new memory, and write nothing that was there. -/
import Derived.Test.YtnnmcjgmnjokiaaDoorRow
namespace Go.Proofs.YtnnmcjgmnjokiaaDoor
open Go.ChangeShapes Go.WideShapes Go.ChangeAt Go.RowKit

def listF (f : Nat → Int) (n : Nat) : List Int := (List.range n).map f
theorem listF_len (f : Nat → Int) (n : Nat) : (listF f n).length = n := by simp [listF]
theorem listF_getD (xs : List Int) : listF (fun k => xs.getD k 0) xs.length = xs := by
  apply List.ext_getElem
  · simp [listF]
  · intro j h1 h2
    simp [listF, List.getD, h2]

set_option maxRecDepth 20000 in
set_option maxHeartbeats 1000000 in
theorem list_any (f : Nat → Int) (n : Nat) (w : World) (h8 : n ≤ 8) :
    Calls Tryd.prog 85 #[.agg (rowA f), .int .i64 n] w fun e w' => ∃ u, e = .returned u ∧ Own w' w.heap.size u (listF f n) ∧ Below w.heap.size w w' := by
  obtain ⟨i0, hi, hz0, hz1, hz2⟩ := info_parts Tryd.infoI
  have h8' : (n : Int) ≤ 8 := by omega
  obtain ⟨w1, hw1⟩ : ∃ w1, w1 = (w.alloc (.cells (rowA f) 71)).alloc (.cells #[] 2) := ⟨_, rfl⟩
  have hown : w1.ownsRow w.heap.size 2 1 (.slice (some ⟨w.heap.size + 1, 0, none⟩) 0 0) 0 [] := by
    have := World.ownsRow_lit (base := w.heap.size) (e := 2) (size := 1) (w.alloc (.cells (rowA f) 71)) #[] 0 (by simp) (Nat.zero_le _) rfl
    rw [hw1]
    simpa using this
  have hrow : Row w1 w.heap.size f := by rw [hw1]; exact (Row.new w f).alloc _
  have hnews : ∀ j u, ((listF f n).map (Value.int .i64))[j]? = some u → w1.cell? ((⟨w.heap.size, 0, none⟩ : Addr).add j) = some u := by
    intro j u hj
    have hlt : j < n := by
      rcases Nat.lt_or_ge j n with h | h
      · exact h
      · rw [List.getElem?_eq_none (by simpa [listF] using h)] at hj; cases hj
    rw [show (⟨w.heap.size, 0, none⟩ : Addr).add j = ⟨w.heap.size, j, none⟩ by unfold Addr.add; split <;> simp_all]
    rw [hrow.cell j (by omega)]
    simp [listF, hlt] at hj ⊢
    exact hj
  have hone : ∀ u ∈ (listF f n).map (Value.int .i64), u.oneCell' = true := by
    intro u hu
    obtain ⟨x, _, rfl⟩ := List.mem_map.1 hu
    rfl
  have hll : ((listF f n).map (Value.int .i64)).length = n * 1 := by simp [listF]
  have hb1 : Below w.heap.size w w1 := by rw [hw1]; exact ((Below.refl _ _).alloc (Nat.le_refl _) _).alloc (by simp) _
  go_enter Tryd.func85, Tryd.ntmps85
  go_wp2_with (at_builtin; rw [← hw1]; refine wpList_append_own _ rfl _ _ 24 rfl w.heap.size 2 i0 (.int .i64 0) 1 8 Tryd.underlying24 hi hz0 hz1 hz2 rfl (by decide) _ _ _ rfl hown _ n 8 ((listF f n).map (Value.int .i64)) rfl hll hnews hone (by unfold maxLen; omega) (by omega) hb1.size ?_)
  intro v' w2 hown' hgrow _
  rw [← hw1] at hgrow
  have HG : Hid (Below w.heap.size w w2) := hb1.grown hgrow hb1.size (fun g e => by simp [Value.ownBlock] at e; omega)
  go_wp2
  go_ret
  refine ⟨_, rfl, ?_, HG.out⟩
  unfold Own
  simpa [listF_len] using hown'

theorem listF_set (xs : List Int) (i : Nat) (x : Int) : listF (upd (fun k => xs.getD k 0) i x) xs.length = xs.set i x := by
  apply List.ext_getElem
  · simp [listF]
  · intro j h1 h2
    have h3 : j < xs.length := by simpa [listF] using h1
    rw [List.getElem_set]
    by_cases e : i = j
    · subst e; simp [listF, upd]
    · have e' : ¬ j = i := fun h => e h.symm
      simp [listF, upd, e, e', List.getD, h3]

set_option maxRecDepth 20000 in
set_option maxHeartbeats 1000000 in
theorem put_any (v : Value) (xs : List Int) (i x : Int) (w : World) (h : Reads w v xs) (hbig : xs.length ≤ 1099511627776) :
    Calls Tryd.prog 80 #[v, .int .i64 i, .int .i64 x] w fun e w' => ∃ u, e = .returned (.tuple #[u, .bool (putB xs i x)]) ∧ Own w' w.heap.size u (putI xs i x) ∧ Below w.heap.size w w' := by
  have c1 := rowOf_any v xs w h hbig
  obtain ⟨ao, cap, rfl⟩ := h.form
  clear h
  obtain ⟨n, hn⟩ : ∃ n, n = xs.length := ⟨_, rfl⟩
  by_cases hok : blocksOk xs = true
  · have hlen := blocksOk_len hok
    rw [hok, rowF_yes hok] at c1
    obtain ⟨f, hf⟩ : ∃ f : Nat → Int, f = fun k => xs.getD k 0 := ⟨_, rfl⟩
    have HL : Hid (listF f n = xs) := by rw [Hid, hf, hn]; exact listF_getD xs
    have HL2 : Hid (∀ i x, listF (upd f i x) n = xs.set i x) := by rw [hf, hn]; exact listF_set xs
    rw [← hf] at c1
    clear hf
    rw [← hn] at c1 hbig hlen ⊢
    by_cases h0 : 0 ≤ i
    · by_cases h1 : i < (n : Int)
      · by_cases hv : valOk x = true
        · have HB : Hid (putB xs i x = true ∧ putI xs i x = xs.set i.toNat x) := by
            simp [Hid, putB, putI, hok, placeOk, hv, h0, ← hn, h1]
          clear hn hok
          go_enter Tryd.func80, Tryd.ntmps80
          go_wp2_with fail
          refine c1.mono ?_
          rintro e w1 ⟨rfl, b1⟩
          go_wp2_with (refine wpList_put8 rfl _ _ rfl w1.heap.size f rfl rfl (fun _ => 0) (Row.new w1 fun _ => 0) ?_)
          intro w2 r2 g2
          have b2 : Below w.heap.size w w2 := (b1.alloc b1.size _).grown g2 (by simp; have := b1.size; omega) (fun k e => by cases e; exact b1.size)
          have hfr := r2.frozen i.toNat
          have hc2 := r2.cell i.toNat (by omega)
          have r3 := r2.setCell i.toNat (by omega) x
          have b3 : Hid (Below w.heap.size w (w2.setCell ⟨w1.heap.size, i.toNat, none⟩ (.int .i64 x))) := b2.setCell (p := ⟨w1.heap.size, i.toNat, none⟩) b1.size (.int .i64 x)
          clear g2 b2 r2
          go_wp2_with (first
            | (go_at_call 77; refine (val_any _ _).mono ?_; rw [hv]; rintro e w' ⟨rfl, hw⟩; subst w')
            | (refine wpList_get8 rfl _ rfl w1.heap.size rfl _ r3 ?_)
            | (go_at_call 85; refine (list_any _ n _ (by omega)).mono ?_; rintro e w4 ⟨u, rfl, o4, b4⟩; rw [HL2.out] at o4; have HU : Hid (Own w4 w.heap.size u (xs.set i.toNat x) ∧ Below w.heap.size w w4) := ⟨o4.mono b3.out.size, b3.out.trans (b4.mono b3.out.size)⟩; clear o4 b4))
          go_ret2
          rw [HB.out.1, HB.out.2]
          exact ⟨_, rfl, HU.out⟩
        · have HB : Hid (putB xs i x = false ∧ putI xs i x = xs) := by
            have hv : valOk x = false := by simpa using hv
            simp [Hid, putB, putI, hok, placeOk, hv]
          replace hv : valOk x = false := by simpa using hv
          clear hn hok
          go_enter Tryd.func80, Tryd.ntmps80
          go_wp2_with fail
          refine c1.mono ?_
          rintro e w1 ⟨rfl, b1⟩
          go_wp2_with (refine wpList_put8 rfl _ _ rfl w1.heap.size f rfl rfl (fun _ => 0) (Row.new w1 fun _ => 0) ?_)
          intro w2 r2 g2
          have b2 : Hid (Below w.heap.size w w2) := (b1.alloc b1.size _).grown g2 (by simp; have := b1.size; omega) (fun k e => by cases e; exact b1.size)
          clear g2
          go_wp2_with (first
            | (go_at_call 77; refine (val_any _ _).mono ?_; rw [hv]; rintro e w' ⟨rfl, hw⟩; subst w')
            | (refine wpList_get8 rfl _ rfl w1.heap.size rfl _ r2 ?_)
            | (go_at_call 85; refine (list_any _ n _ (by omega)).mono ?_; rw [HL.out]; rintro e w4 ⟨u, rfl, o4, b4⟩; have HU : Hid (Own w4 w.heap.size u xs ∧ Below w.heap.size w w4) := ⟨o4.mono b2.out.size, b2.out.trans (b4.mono b2.out.size)⟩; clear o4 b4))
          go_ret2
          rw [HB.out.1, HB.out.2]
          exact ⟨_, rfl, HU.out⟩
      · have HB : Hid (putB xs i x = false ∧ putI xs i x = xs) := by
          simp [Hid, putB, putI, hok, placeOk, ← hn]; omega
        obtain ⟨bv, hv⟩ : ∃ bv, valOk x = bv := ⟨_, rfl⟩
        clear hn hok
        go_enter Tryd.func80, Tryd.ntmps80
        go_wp2_with fail
        refine c1.mono ?_
        rintro e w1 ⟨rfl, b1⟩
        go_wp2_with (refine wpList_put8 rfl _ _ rfl w1.heap.size f rfl rfl (fun _ => 0) (Row.new w1 fun _ => 0) ?_)
        intro w2 r2 g2
        have b2 : Hid (Below w.heap.size w w2) := (b1.alloc b1.size _).grown g2 (by simp; have := b1.size; omega) (fun k e => by cases e; exact b1.size)
        clear g2
        go_wp2_with (first
          | (go_at_call 77; refine (val_any _ _).mono ?_; rw [hv]; rintro e w' ⟨rfl, hw⟩; subst w')
          | (refine wpList_get8 rfl _ rfl w1.heap.size rfl _ r2 ?_)
          | (go_at_call 85; refine (list_any _ n _ (by omega)).mono ?_; rw [HL.out]; rintro e w4 ⟨u, rfl, o4, b4⟩; have HU : Hid (Own w4 w.heap.size u xs ∧ Below w.heap.size w w4) := ⟨o4.mono b2.out.size, b2.out.trans (b4.mono b2.out.size)⟩; clear o4 b4))
        go_ret2
        rw [HB.out.1, HB.out.2]
        exact ⟨_, rfl, HU.out⟩
    · have HB : Hid (putB xs i x = false ∧ putI xs i x = xs) := by
        simp [Hid, putB, putI, hok, placeOk]; omega
      obtain ⟨bv, hv⟩ : ∃ bv, valOk x = bv := ⟨_, rfl⟩
      clear hn hok
      go_enter Tryd.func80, Tryd.ntmps80
      go_wp2_with fail
      refine c1.mono ?_
      rintro e w1 ⟨rfl, b1⟩
      go_wp2_with (refine wpList_put8 rfl _ _ rfl w1.heap.size f rfl rfl (fun _ => 0) (Row.new w1 fun _ => 0) ?_)
      intro w2 r2 g2
      have b2 : Hid (Below w.heap.size w w2) := (b1.alloc b1.size _).grown g2 (by simp; have := b1.size; omega) (fun k e => by cases e; exact b1.size)
      clear g2
      go_wp2_with (first
        | (go_at_call 77; refine (val_any _ _).mono ?_; rw [hv]; rintro e w' ⟨rfl, hw⟩; subst w')
        | (refine wpList_get8 rfl _ rfl w1.heap.size rfl _ r2 ?_)
        | (go_at_call 85; refine (list_any _ n _ (by omega)).mono ?_; rw [HL.out]; rintro e w4 ⟨u, rfl, o4, b4⟩; have HU : Hid (Own w4 w.heap.size u xs ∧ Below w.heap.size w w4) := ⟨o4.mono b2.out.size, b2.out.trans (b4.mono b2.out.size)⟩; clear o4 b4))
      go_ret2
      rw [HB.out.1, HB.out.2]
      exact ⟨_, rfl, HU.out⟩
  · have hok' : blocksOk xs = false := by simpa using hok
    rw [hok', rowF_no hok'] at c1
    have HB : Hid (putB xs i x = false ∧ putI xs i x = []) := by
      simp [Hid, putB, putI, hok']
    clear hok hok'
    rw [← hn] at c1
    rw [← hn]
    clear hn hbig
    go_enter Tryd.func80, Tryd.ntmps80
    go_wp2_with fail
    refine c1.mono ?_
    rintro e w1 ⟨rfl, b1⟩
    go_wp2_with (refine wpList_put8 rfl _ _ rfl w1.heap.size (fun _ => 0) rfl rfl (fun _ => 0) (Row.new w1 fun _ => 0) ?_)
    intro w2 r2 g2
    have b2 : Hid (Below w.heap.size w w2) := (b1.alloc b1.size _).grown g2 (by simp; have := b1.size; omega) (fun k e => by cases e; exact b1.size)
    clear g2
    go_wp2
    go_ret2
    rw [HB.out.1, HB.out.2]
    exact ⟨_, rfl, (ownEmpty w2).mono b2.out.size, b2.out.trans ((belowNew w2 _).mono b2.out.size)⟩
end Go.Proofs.YtnnmcjgmnjokiaaDoor
