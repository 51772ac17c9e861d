/- A list of strings of the call's own as a thing in the state of a long walk. -/
import Derived.Test.YtnnmcjgmnjokiaaDoorSta
import Derived.Test.YtnnmcjgmnjokiaaDoorSMemA
import Derived.Test.YtnnmcjgmnjokiaaDoorDoor
import Derived.Test.YtnnmcjgmnjokiaaDoorStB
namespace Go.Proofs.YtnnmcjgmnjokiaaDoor
open Go.ChangeShapes Go.WideShapes Go.ChangeAt Go.RowKit

def Lss (v : Value) (xs : List Bs) : Item := ⟨v.ownBlock.toList, 0, fun w => OwnS w 0 v xs, fun _ _ e _ h => OwnS.frame h e⟩
theorem Sta.texts {w wx wy : World} {L : List Item} {v : Value} {xs : List Bs} (h : Sta w wx L) (o : OwnS wy wx.heap.size v xs) (b : Below wx.heap.size wx wy) : Sta w wy (Lss v xs :: L) :=
  h.add b (Lss v xs) (o.mono (Nat.zero_le _)) (fun k hk => o.lt k (by simpa [Lss] using hk))
/- The list is written anew in its own block: what markStringS does. -/
theorem Sta.markS {w wx wy : World} {L : List Item} {v : Value} {xs ys : List Bs} (h : Sta w wx L) (n : Nat) (e : L[n]? = some (Lss v xs)) (o : OwnS wy 0 v ys) (g : wx.grownBy wy v.ownBlock) : Sta w wy (L.set n (Lss v ys)) :=
  h.turn n e (Turned.of_grown g) (Lss v ys) rfl o
theorem Sta.readsS {w wx : World} {L : List Item} {v : Value} {xs : List Bs} (h : Sta w wx L) (n : Nat) (e : L[n]? = some (Lss v xs)) : ReadsS wx v xs := OwnS.reads (h.get n e)
/- The first m of a list. -/
theorem ReadsS.take {w : World} {ao : Option Addr} {n cap : Nat} {xs : List Bs} (h : ReadsS w (.slice ao n cap) xs) (m : Nat) (hm : m ≤ xs.length) : ReadsS w (.slice ao m cap) (xs.take m) := by
  obtain ⟨ao', cap', e, h1, h2, h4⟩ := h
  cases e
  have hl : (xs.take m).length = m := by simp [Nat.min_eq_left hm]
  refine ⟨ao, cap, by rw [hl], by rw [hl]; omega, h2, ?_⟩
  rcases h4 with rfl | ⟨b, off, e, h4⟩
  · exact .inl (by simp)
  · refine .inr ⟨b, off, e, fun j hj => ?_⟩
    rw [hl] at hj
    rw [h4 j (by omega)]
    simp [hj]
end Go.Proofs.YtnnmcjgmnjokiaaDoor
/- What strings.Join of Go's library answers here. -/
namespace Go.Proofs.YtnnmcjgmnjokiaaDoor
open Go.ChangeShapes Go.WideShapes Go.ChangeAt Go.RowKit

theorem join_is (ls : List Bs) : Lib.join ls [32] = joinB 32 ls := by
  induction ls with
  | nil => rfl
  | cons a l ih =>
    cases l with
    | nil => rw [Lib.join_one, joinB]
    | cons b l =>
      rw [joinB, ← ih]
      simp [Lib.join, List.intercalate, List.intersperse]

theorem ijoin_any (bk c : Nat) (ls : List Bs) (w : World) (hr : ReadsS w (.slice (some ⟨bk, 0, none⟩) ls.length c) ls) (h0 : 0 < ls.length) (hn : ls.length ≤ 1048576) (hlen : (joinB 32 ls).length ≤ 1048576) :
    Calls Tryd.prog 79 #[.slice (some ⟨bk, 0, none⟩) ls.length c, .string ⟨#[32]⟩] w fun e w' => e = .returned (S (joinB 32 ls)) ∧ Below w.heap.size w w' := by
  obtain ⟨ao, cap, e, hcap, -, hc⟩ := hr
  simp only [Value.slice.injEq] at e
  obtain ⟨rfl, -, rfl⟩ := e
  have hm : (ls.map (fun l => (⟨l.toArray⟩ : ByteArray))).map (·.data.toList) = ls := by
    rw [List.map_map]
    conv => rhs; rw [← List.map_id ls]
    apply List.map_congr_left
    intro x _
    rfl
  have hcell : ∀ j, j < ls.length → w.cell? ⟨bk, 0 + j, none⟩ = some (S (ls.getD j [])) := by
    rcases hc with hc | ⟨b, off, e, hc⟩
    · rw [hc] at h0; simp at h0
    · simp only [Option.some.injEq, Addr.mk.injEq] at e
      obtain ⟨rfl, rfl, -⟩ := e
      exact hc
  have c0 := Tryd.strings_Join bk 0 c (ls.map (fun l => (⟨l.toArray⟩ : ByteArray))) ⟨#[32]⟩ w (by
    intro j x hj
    rw [List.getElem?_map] at hj
    cases hg : ls[j]? with
    | none => rw [hg] at hj; cases hj
    | some y =>
      rw [hg] at hj
      simp only [Option.map_some, Option.some.injEq] at hj
      subst hj
      have hlt : j < ls.length := by
        rcases Nat.lt_or_ge j ls.length with h | h
        · exact h
        · rw [List.getElem?_eq_none h] at hg; cases hg
      rw [hcell j hlt, List.getD_eq_getElem?_getD, hg]
      rfl) (World.block_lt_of_cell? w _ (hcell 0 h0)) (by simp; omega) (by simpa using hcap) (by
    rw [hm, show (⟨#[32]⟩ : ByteArray).data.toList = [32] from rfl, join_is]
    omega)
  rw [hm, show (⟨#[32]⟩ : ByteArray).data.toList = [32] from rfl, join_is, List.length_map] at c0
  exact c0
end Go.Proofs.YtnnmcjgmnjokiaaDoor
/- Numbers as a text, by the program's own helper: showNumbers. -/
namespace Go.Proofs.YtnnmcjgmnjokiaaDoor
open Go.ChangeShapes Go.WideShapes Go.ChangeAt Go.RowKit

theorem itoa_all (x : Int) : Lib.itoa x = decI x := by
  unfold Lib.itoa decI
  by_cases h : x < 0
  · rw [if_pos h, if_pos h, digits_dec]
  · rw [if_neg h, if_neg h, digits_dec, show x.toNat = x.natAbs by omega]
theorem zerosN_eq (n : Nat) : (madeCells #[Value.string ⟨#[]⟩] n).toList = (List.replicate n ([] : Bs)).map S := by
  rw [toList_madeCells_one, List.map_replicate]; rfl
def shownTo (xs : List Int) (j : Nat) : List Bs := (xs.take j).map decI ++ List.replicate (xs.length - j) []
theorem shownTo_len (xs : List Int) (j : Nat) (h : j ≤ xs.length) : (shownTo xs j).length = xs.length := by simp [shownTo]; omega
theorem shownTo_put (xs : List Int) (j : Nat) (h : j < xs.length) : (shownTo xs j).set j (decI (xs.getD j 0)) = shownTo xs (j + 1) := by
  unfold shownTo
  have hl : ((xs.take j).map decI).length = j := by simp; omega
  obtain ⟨k, hk⟩ : ∃ k, xs.length - j = k + 1 := ⟨xs.length - j - 1, by omega⟩
  rw [List.set_append_right _ _ (by omega), hl, Nat.sub_self, hk, List.replicate_succ, List.set_cons_zero, List.take_succ_eq_append_getElem h, List.map_append, List.append_assoc, show xs.length - (j + 1) = k by omega]
  simp [h]
theorem shownTo_all (xs : List Int) : shownTo xs xs.length = xs.map decI := by simp [shownTo]

set_option maxRecDepth 20000 in
set_option maxHeartbeats 2000000 in
theorem ishowN_any (v : Value) (xs : List Int) (w : World) (hr : Reads w v xs) (h0 : 0 < xs.length) (hn : xs.length ≤ 16) (hx : Fits64 xs) (ht : Tab w) :
    Calls Tryd.prog 72 #[v] w fun e w' => e = .returned (S (intsB xs)) ∧ Below w.heap.size w w' := by
  obtain ⟨i0, hi, hz0, hz1, hz2⟩ := info_parts Tryd.infoS
  obtain ⟨ao, cap, rfl⟩ := reads_form hr
  obtain ⟨-, la, ma, hcell⟩ := reads_cells hr
  obtain ⟨b, off, rfl, -⟩ := hcell 0 h0
  have HR0 : Hid (Reads w (.slice (some ⟨b, off, none⟩) xs.length cap) xs) := hr
  have HT : Hid (Tab w) := ht
  have HX : Hid (Fits64 xs) := hx
  clear hr ht hcell hx
  obtain ⟨n, hn'⟩ : ∃ n, n = xs.length := ⟨_, rfl⟩
  have HN : Hid (n = xs.length) := hn'
  rw [← hn'] at h0 hn la HR0 ⊢
  clear hn'
  unfold maxLen at ma
  unfold S
  go_enter Tryd.func72, Tryd.ntmps72
  go_wp2_with (refine wpList_make_full _ rfl _ _ 95 rfl w.heap.size 9 i0 (.string ⟨#[]⟩) 1 Tryd.underlying95 hi hz0 hz1 _ _ _ _ n rfl rfl rfl rfl (by rw [hz2]; omega) (by unfold maxLen; omega) (Nat.le_refl _) ?_)
  intro w1 hown1 hgr1
  rw [zerosN_eq] at hown1
  have HO : Hid (OwnS w1 w.heap.size (.slice (some ⟨w.heap.size, 0, none⟩) n n) (shownTo xs 0) ∧ Below w.heap.size w w1) := by
    refine ⟨?_, (Below.refl _ _).grown hgr1 (Nat.le_refl _) (fun k e => by cases e)⟩
    unfold OwnS
    rw [shownTo_len xs 0 (Nat.zero_le _), ← HN.out]
    simpa [shownTo, ← HN.out] using hown1
  clear hown1 hgr1
  go_wp2
  go_loopw [11] (fun i wr => ∃ j : Nat, (j : Int) ≤ (n : Int) ∧ i = .int .i64 j ∧ Hid (OwnS wr w.heap.size (.slice (some ⟨w.heap.size, 0, none⟩) n n) (shownTo xs j) ∧ Below w.heap.size w wr)) (fun i _ => n - (intOf i).toNat)
  case atStart => exact ⟨0, by omega, rfl, HO⟩
  case round =>
    obtain ⟨j, hj, rfl, HR⟩ := hrel
    clear HO
    by_cases hlt : (j : Int) < (n : Int)
    · have hjx : Hid (j < xs.length) := by have := HN.out; rw [Hid]; omega
      obtain ⟨-, -, -, hcell⟩ := reads_cells (HR0.out.below HR.out.2 (Nat.le_refl _))
      obtain ⟨b', off', e, hc1⟩ := hcell j (by omega)
      simp only [Option.some.injEq, Addr.mk.injEq] at e
      obtain ⟨rfl, rfl, -⟩ := e
      clear hcell
      have HF := HX.out (xs.getD j 0) (by have := hjx.out; simp [this])
      have HP : Hid ((shownTo xs j).set j (decI (xs.getD j 0)) = shownTo xs (j + 1)) := shownTo_put xs j hjx.out
      obtain ⟨x, hx⟩ : ∃ x, x = xs.getD j 0 := ⟨_, rfl⟩
      rw [← hx] at hc1 HF HP
      have c2 := fun wx (h : Tab wx) => Tryd.strconv_FormatInt_10 x HF.1 HF.2 wx h
      simp only [itoa_all] at c2
      obtain ⟨d, hd⟩ : ∃ d, d = decI x := ⟨_, rfl⟩
      rw [← hd] at HP
      simp only [← hd] at c2
      clear hx hd HF
      have HT1 : Hid (Tab wr) := HT.out.below HR.out.2
      go_wp2_with fail
      refine (c2 _ HT1.out).mono ?_
      rintro e w2 ⟨rfl, k2, o2, hw2⟩
      have B2 : Below wr.heap.size wr w2 := by rw [hw2]; exact below_grow wr k2 o2
      clear hw2 c2 hc1
      have HQ : Hid (OwnS w2 w.heap.size (.slice (some ⟨w.heap.size, 0, none⟩) n n) (shownTo xs j) ∧ Below w.heap.size w w2) := ⟨HR.out.1.below B2, HR.out.2.trans (B2.mono HR.out.2.size)⟩
      clear HR B2
      obtain ⟨hf, ⟨y, hc⟩, ho2⟩ := HQ.out.1.put (by rw [shownTo_len xs j (by have := hjx.out; omega)]; exact HN.out) j (by omega) d
      have HS : Hid (OwnS (w2.setCell ⟨w.heap.size, j, none⟩ (.string ⟨d.toArray⟩)) w.heap.size (.slice (some ⟨w.heap.size, 0, none⟩) n n) (shownTo xs (j + 1)) ∧ Below w.heap.size w (w2.setCell ⟨w.heap.size, j, none⟩ (.string ⟨d.toArray⟩))) := by
        rw [HP.out] at ho2
        exact ⟨ho2, HQ.out.2.setCell (p := ⟨w.heap.size, j, none⟩) (Nat.le_refl _) _⟩
      clear ho2
      go_wp2
      go_roundw
      case rel => exact ⟨j + 1, by omega, by go_num, HS⟩
      case measure => simp [intOf]; omega
    · have e : j = xs.length := by have := HN.out; omega
      have HR2 : Hid (OwnS wr w.heap.size (.slice (some ⟨w.heap.size, 0, none⟩) n n) (xs.map decI)) := by
        have := HR.out.1
        rw [e, shownTo_all] at this
        exact this
      have hml : (xs.map decI).length = n := by rw [List.length_map]; exact HN.out.symm
      have c3 := ijoin_any w.heap.size n (xs.map decI) wr (by rw [hml]; exact HR2.out.reads) (by omega) (by omega) (by rw [join_ints]; have := intsB_len xs HX.out; have := HN.out; omega)
      rw [join_ints, hml] at c3
      unfold S at c3
      clear e hml
      go_wp2_with fail
      refine c3.mono ?_
      rintro e w2 ⟨rfl, b2⟩
      clear c3
      go_wp2
      go_ret
      exact ⟨rfl, HR.out.2.trans (b2.mono HR.out.2.size)⟩
end Go.Proofs.YtnnmcjgmnjokiaaDoor
