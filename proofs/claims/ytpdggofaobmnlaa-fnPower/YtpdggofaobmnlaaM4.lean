/- The cursor of the draws as a thing in the state of a long walk. -/
import Derived.Test.YtpdggofaobmnlaaSta
import Derived.Test.YtpdggofaobmnlaaM3
import Derived.Test.YtpdggofaobmnlaaLists
namespace Go.Proofs.Ytpdggofaobmnlaa
open Go.ChangeShapes Go.WideShapes Go.ChangeAt Go.RowKit

theorem Cur.frame {w w' : World} {B c : Nat} (h : Cur w B c) (e : w'.heap[c]? = w.heap[c]?) (b : Below B w w') : Cur w' B c := by
  obtain ⟨ao, len, cap, i, hh, hB, h1, h2, h3⟩ := h
  exact ⟨ao, len, cap, i, hh, hB, e.trans h1, h2.below b, h3⟩
def CurI (B c : Nat) : Item := ⟨[c], B, fun w => Cur w B c, fun _ _ e b h => h.frame (e c (by simp)) b⟩
theorem Sta.cur {w wx wy : World} {L : List Item} {B c : Nat} (h : Sta w wx L) (n : Nat) (e : L[n]? = some (CurI B c)) (C : Cur wy B c) (G : wx.grownBy wy (some c)) : Sta w wy L := by
  have := h.turn n e (Turned.of_grown G) (CurI B c) rfl C (h.olds _ (List.mem_of_getElem? e))
  rwa [set_same e] at this
theorem Sta.newCur {w wx wy : World} {L : List Item} {B c : Nat} (h : Sta w wx L) (hB : B ≤ w.heap.size) (hc : wx.heap.size ≤ c) (C : Cur wy B c) (G : wx.grownBy wy none) : Sta w wy (CurI B c :: L) :=
  h.add ((Below.refl _ _).grown G (Nat.le_refl _) (fun k e => by cases e)) (CurI B c) C (fun k hk => by simp [CurI] at hk; subst hk; exact ⟨hc, C.lt.2⟩) hB
theorem turned_set (w : World) (g j : Nat) (x : Value) : Turned w (w.setCell ⟨g, j, none⟩ x) [g] := Turned.of_grown (grown_set w g j x)
end Go.Proofs.Ytpdggofaobmnlaa
/- What the laws on sets draw: a number for the set, one for the item, one for Full; whatever they are, nothing that was there is written. -/
namespace Go.Proofs.Ytpdggofaobmnlaa
open Go.ChangeShapes Go.WideShapes Go.ChangeAt Go.RowKit

set_option maxRecDepth 20000 in
set_option maxHeartbeats 1000000 in
theorem drawSet_any (B c : Nat) (w : World) (h : Cur w B c) :
    Calls Try.prog 31 #[.pointer (some ⟨c, 0, none⟩)] w fun e w' => ∃ x, e = .returned (.int .i64 x) ∧ Cur w' B c ∧ w.grownBy w' (some c) := by
  go_enter Try.func31, Try.ntmps31
  go_wp2_with fail
  refine (once_any B c 10 _ h (by omega)).mono ?_
  rintro e w1 ⟨b, rfl, C1, G1⟩
  have hlt := C1.lt
  cases b with
  | true =>
    go_wp2_with fail
    refine (below_any B c 5 _ (C1.kept (World.grownBy_alloc w1 _ none) (by simp) (by simp)) (by omega)).mono ?_
    rintro e w2 ⟨x, rfl, hx0, hx1, hx2, C2, G2⟩
    have hx3 := hx1 (by omega)
    have hc := lit_kept G2 (by simp; omega)
    have H2 : Hid (Cur w2 B c ∧ w.grownBy w2 (some c)) := ⟨C2, G1.trans ((World.grownBy_alloc w1 _ _).trans G2)⟩
    clear hx1 hx2 C2 G2 C1 G1 h
    obtain rfl | rfl | rfl | rfl | rfl : x = 0 ∨ x = 1 ∨ x = 2 ∨ x = 3 ∨ x = 4 := by omega
    · have hc0 := hc 0
      clear hc
      simp at hc0
      go_wp2
      go_ret
      exact ⟨_, rfl, H2.out⟩
    · have hc0 := hc 1
      clear hc
      simp at hc0
      go_wp2
      go_ret
      exact ⟨_, rfl, H2.out⟩
    · have hc0 := hc 2
      clear hc
      simp at hc0
      go_wp2
      go_ret
      exact ⟨_, rfl, H2.out⟩
    · have hc0 := hc 3
      clear hc
      simp at hc0
      go_wp2
      go_ret
      exact ⟨_, rfl, H2.out⟩
    · have hc0 := hc 4
      clear hc
      simp at hc0
      go_wp2
      go_ret
      exact ⟨_, rfl, H2.out⟩
  | false =>
    go_wp2_with fail
    refine (below_any B c 256 _ C1 (by omega)).mono ?_
    rintro e w2 ⟨x, rfl, hx0, hx1, hx2, C2, G2⟩
    go_wp2
    go_ret
    exact ⟨_, rfl, C2, G1.trans G2⟩

/- From what is done to a cursor's own block: nothing below it has turned. -/
theorem below_of_cur {w w1 w2 : World} {c : Nat} (h1 : w.grownBy w1 none) (hc : w.heap.size ≤ c) (h2 : w1.grownBy w2 (some c)) : Below w.heap.size w w2 :=
  ((Below.refl _ w).grown h1 (Nat.le_refl _) (by simp)).grown h2 h1.size (fun k e => by simp at e; omega)
end Go.Proofs.Ytpdggofaobmnlaa
/- What the law on blocks draws: lists, places, numbers, sets; whatever they are, nothing that was there is written. -/
namespace Go.Proofs.Ytpdggofaobmnlaa
open Go.ChangeShapes Go.WideShapes Go.ChangeAt Go.RowKit

theorem Own.notAt {w : World} {base c : Nat} {v : Value} {xs : List Int} (h : Own w base v xs) (hc : c < base) : v.ownBlock = none ∨ v.ownBlock ≠ some c := by
  by_cases e : v.ownBlock = none
  · exact .inl e
  · refine .inr fun e2 => ?_
    have := (h.lt c e2).1
    omega
theorem grown_own {o a b : World} {c : Nat} {row : Option Nat} (h : o.grownBy a (some c)) (g : a.grownBy b row) (hr : ∀ k, row = some k → o.heap.size ≤ k) : o.grownBy b (some c) :=
  ⟨g.os.trans h.os, g.tape.trans h.tape, g.output.trans h.output, Nat.le_trans h.size g.size, fun k hk hne => (g.block k (Nat.lt_of_lt_of_le hk h.size) (fun e => by have := hr k e.symm; omega)).trans (h.block k hk hne)⟩
theorem Own.grownBy_alloc {w : World} {base : Nat} {v : Value} {xs : List Int} (h : Own w base v xs) (o : Obj) : Own (w.alloc o) base v xs := World.ownsRow.alloc h o

/- A list that is being drawn: new since w0; the cursor stands; nothing else has turned. -/
def Drawn (w0 w : World) (B c : Nat) (v : Value) (xs : List Int) : Prop := Own w w0.heap.size v xs ∧ Cur w B c ∧ w0.grownBy w (some c) ∧ c < w0.heap.size

theorem Drawn.draw {w0 w w' : World} {B c : Nat} {v : Value} {xs : List Int} (h : Drawn w0 w B c v xs) (C : Cur w' B c) (G : w.grownBy w' (some c)) : Drawn w0 w' B c v xs :=
  ⟨h.1.kept G (h.1.notAt h.2.2.2), C, h.2.2.1.trans G, h.2.2.2⟩

theorem map_one (xs : List Int) (a : Int) : xs.map (Value.int .i64) ++ [.int .i64 a] = (xs ++ [a]).map (Value.int .i64) := by simp

theorem Drawn.append {w0 w w' : World} {B c : Nat} {v v' : Value} {xs : List Int} {x : Int} {o : Obj} (h : Drawn w0 w B c v xs) (hB : B ≤ w0.heap.size)
    (hown : w'.ownsRow w0.heap.size 2 1 v' (xs.length + 1) (xs.map (Value.int .i64) ++ [.int .i64 x])) (hg : (w.alloc o).grownBy w' v.ownBlock) : Drawn w0 w' B c v' (xs ++ [x]) := by
  obtain ⟨h1, h2, h3, h4⟩ := h
  have ga : w.grownBy (w.alloc o) (some c) := World.grownBy_alloc w o _
  have hrow : ∀ k, v.ownBlock = some k → w0.heap.size ≤ k := fun k e => (h1.lt k e).1
  refine ⟨?_, ?_, grown_own (h3.trans ga) hg hrow, h4⟩
  · unfold Own
    rw [← map_one]
    simpa using hown
  · exact (h2.kept (World.grownBy_alloc w o none) (by simp) (by simp)).kept hg (by rcases h1.notAt h4 with e | e; rw [e]; simp; exact e) (fun k e => by have := hrow k e; omega)

theorem lit1 (w : World) (x : Int) : ∀ j u, ([Value.int .i64 x])[j]? = some u → (w.alloc (.cells #[.int .i64 x] 2)).cell? ((⟨w.heap.size, 0, none⟩ : Addr).add j) = some u := by
  intro j u hj
  match j, hj with
  | 0, hj => simp at hj; subst hj; simp [Addr.add]

set_option maxRecDepth 20000 in
set_option maxHeartbeats 1000000 in
theorem draw_any (B c : Nat) (n : Int) (w : World) (h : Cur w B c) (hn : n ≤ 64) :
    Calls Try.prog 92 #[.pointer (some ⟨c, 0, none⟩), .int .i64 n] w fun e w' => ∃ u, e = .returned u ∧ ∃ xs : List Int, xs.length ≤ 64 ∧ Drawn w w' B c u xs := by
  obtain ⟨i0, hi, hz0, hz1, hz2⟩ := info_parts Try.infoI
  have HC : Hid (Cur w B c) := h
  have hBc := h.lt
  clear h
  go_enter Try.func92, Try.ntmps92
  go_wp2
  go_loopw [1, 5] (fun m v wr => ∃ (k : Int) (xs : List Int), k ≤ 64 ∧ m = .int .i64 k ∧ ((0 < k → (xs.length : Int) + k ≤ 64) ∧ xs.length ≤ 64) ∧ Hid (Drawn w wr B c v xs)) (fun m _ _ => (intOf m).toNat)
  case atStart => exact ⟨n, [], hn, rfl, by simp; omega, World.ownsRow_lit w #[] 0 (Nat.le_refl _) (Nat.zero_le _) rfl, HC.out.below ((Below.refl _ _).alloc (Nat.le_refl _) _), World.grownBy_alloc w _ _, hBc.2⟩
  case round =>
    obtain ⟨k, xs, hk, rfl, hle, HR⟩ := hrel
    by_cases hlt : 0 < k
    · go_wp2_with fail
      refine (below_any B c 4 _ HR.out.2.1 (by omega)).mono ?_
      rintro e w1 ⟨x, rfl, hx0, hx1, hx2, C1, G1⟩
      have HR1 : Hid (Drawn w w1 B c _ xs) := HR.out.draw C1 G1
      have hown := HR1.out.1
      have hsz := HR1.out.2.2.1.size
      unfold Own at hown
      clear hx1 hx2 C1 G1 HR
      go_wp2_with (at_builtin; refine wpList_append_own _ rfl _ _ 24 rfl w.heap.size 2 i0 (.int .i64 0) 1 8 Try.underlying24 hi hz0 hz1 hz2 rfl (by decide) _ _ _ rfl (hown.alloc _) _ 1 1 [.int .i64 x] rfl rfl (lit1 w1 x) (by simp [Value.oneCell']) (by unfold maxLen; omega) (by omega) (by simp; omega) ?_)
      intro v' w2 hown' hgrow _
      have HR2 : Hid (Drawn w w2 B c v' (xs ++ [x])) := HR1.out.append (by omega) hown' hgrow
      clear hown hown' hgrow HR1 hsz
      go_wp2
      go_roundw
      case rel => exact ⟨k - 1, xs ++ [x], by omega, by go_num, by simp; omega, HR2⟩
      case measure => simp [intOf]; omega
    · go_wp2
      go_ret
      exact ⟨_, rfl, xs, by omega, HR.out⟩

theorem Drawn.keep {w0 w w' : World} {B c : Nat} {v : Value} {xs : List Int} (h : Drawn w0 w B c v xs) (G : w.grownBy w' none) : Drawn w0 w' B c v xs :=
  ⟨h.1.kept G (by by_cases e : v.ownBlock = none; exact .inl e; exact .inr e), h.2.1.kept G (by simp) (by simp), grown_own h.2.2.1 G (by simp), h.2.2.2⟩

/- A list that was drawn, behind the next draw of the same cursor. -/
theorem Drawn.base {w0 w : World} {B c : Nat} {v : Value} {xs : List Int} {o : World} (h : Drawn w0 w B c v xs) (g : o.grownBy w0 (some c)) (hc : c < o.heap.size) : Drawn o w B c v xs :=
  ⟨h.1.mono g.size, h.2.1, g.trans h.2.2.1, hc⟩

set_option maxRecDepth 20000 in
set_option maxHeartbeats 2000000 in
theorem drawAny_any (B c : Nat) (n : Int) (w : World) (h : Cur w B c) (hn : n ≤ 64) :
    Calls Try.prog 93 #[.pointer (some ⟨c, 0, none⟩), .int .i64 n] w fun e w' => ∃ u, e = .returned u ∧ ∃ xs : List Int, xs.length ≤ 65 ∧ Drawn w w' B c u xs := by
  obtain ⟨i0, hi, hz0, hz1, hz2⟩ := info_parts Try.infoI
  have hBc := h.lt
  go_enter Try.func93, Try.ntmps93
  go_wp2_with fail
  refine (draw_any B c n _ h hn).mono ?_
  rintro e w1 ⟨u, rfl, xs, hl, D1⟩
  clear h
  go_wp2_with fail
  refine (once_any B c 8 _ D1.2.1 (by omega)).mono ?_
  rintro e w2 ⟨b, rfl, C2, G2⟩
  replace D1 := D1.draw C2 G2
  clear C2 G2
  cases b with
  | false =>
    go_wp2
    go_ret
    exact ⟨_, rfl, xs, by omega, D1⟩
  | true =>
    go_wp2_with fail
    refine (below_any B c 3 _ D1.2.1 (by omega)).mono ?_
    rintro e w3 ⟨x, rfl, hx0, hx1, hx2, C3, G3⟩
    have hx3 := hx1 (by omega)
    replace D1 := D1.draw C3 G3
    clear C3 G3 hx1 hx2
    have hown := D1.1
    have hsz := D1.2.2.1.size
    obtain rfl | rfl | rfl : x = 0 ∨ x = 1 ∨ x = 2 := by omega
    · unfold Own at hown
      go_wp2_with (at_builtin; refine wpList_append_own _ rfl _ _ 24 rfl w.heap.size 2 i0 (.int .i64 0) 1 8 Try.underlying24 hi hz0 hz1 hz2 rfl (by decide) _ _ _ rfl (hown.alloc _) _ 1 1 [.int .i64 1] rfl rfl (lit1 w3 1) (by simp [Value.oneCell']) (by unfold maxLen; omega) (by omega) (by simp; omega) ?_)
      intro v' w4 hown' hgrow _
      have HR2 : Hid (Drawn w w4 B c v' (xs ++ [1])) := D1.append (by omega) hown' hgrow
      clear hown hown' hgrow D1 hsz
      go_wp2
      go_ret
      exact ⟨_, rfl, xs ++ [1], by simp; omega, HR2.out⟩
    · have HR2 : Hid (Drawn w (w3.alloc (.cells #[] 2)) B c (.slice (some ⟨w3.heap.size, 0, none⟩) 0 0) []) :=
        ⟨Own.mono (World.ownsRow_lit w3 #[] 0 (Nat.le_refl _) (Nat.zero_le _) rfl) hsz, (D1.keep (World.grownBy_alloc w3 _ none)).2⟩
      clear hown D1 hsz
      go_wp2
      go_ret
      exact ⟨_, rfl, [], by simp, HR2.out⟩
    · by_cases hz : 0 < xs.length
      · obtain ⟨g, cap, rfl, hbg, hgl⟩ := World.ownsRow.form hown hz
        obtain ⟨m, hm⟩ : ∃ m, m = xs.length := ⟨_, rfl⟩
        have hz' : (0 : Int) < (m : Int) := by omega
        rw [← hm] at D1 hown ⊢
        have HM : Hid (m = xs.length) := hm
        clear hm hz
        have D2 := D1.keep (World.grownBy_alloc w3 (.cells #[.int .i64 (-1), .int .i64 9999, .int .i64 10000] 2) none)
        go_wp2_with fail
        refine (below_any B c 3 _ D2.2.1 (by omega)).mono ?_
        rintro e w4 ⟨y, rfl, hy0, hy1, hy2, C4, G4⟩
        have hy3 := hy1 (by omega)
        have hlit := lit_kept G4 (by simp; omega)
        replace D2 := D2.draw C4 G4
        clear C4 G4 hy1 hy2 D1 hown hsz
        obtain ⟨hfr, ⟨z, hc⟩, ho⟩ := D2.1.put HM.out 0 (by have := HM.out; omega) 0
        have HO : Hid (∀ x, Drawn w (w4.setCell ⟨g, 0, none⟩ (.int .i64 x)) B c (.slice (some ⟨g, 0, none⟩) m cap) (xs.set 0 x)) := by
          intro x
          have gs := grown_set w4 g 0 (.int .i64 x)
          refine ⟨(D2.1.put HM.out 0 (by have := HM.out; omega) x).2.2, D2.2.1.kept gs (by simp; omega) (fun k e => by simp at e; omega), grown_own D2.2.2.1 gs (fun k e => by simp at e; omega), D2.2.2.2⟩
        clear ho D2
        obtain rfl | rfl | rfl : y = 0 ∨ y = 1 ∨ y = 2 := by omega
        · have hc0 := hlit 0
          clear hlit
          simp at hc0
          go_wp2
          go_ret
          exact ⟨_, rfl, _, by rw [List.length_set]; omega, HO.out _⟩
        · have hc0 := hlit 1
          clear hlit
          simp at hc0
          go_wp2
          go_ret
          exact ⟨_, rfl, _, by rw [List.length_set]; omega, HO.out _⟩
        · have hc0 := hlit 2
          clear hlit
          simp at hc0
          go_wp2
          go_ret
          exact ⟨_, rfl, _, by rw [List.length_set]; omega, HO.out _⟩
      · have hx : xs = [] := List.eq_nil_of_length_eq_zero (by omega)
        subst hx
        obtain ⟨ao, cap, rfl, _, _, _⟩ := D1.1.reads
        have HR2 : Hid (Drawn w w3 B c (.slice ao 0 cap) []) := D1
        clear D1 hown hsz hz
        simp only [List.length_nil]
        go_wp2
        go_ret
        exact ⟨_, rfl, [], by simp, HR2.out⟩
end Go.Proofs.Ytpdggofaobmnlaa
