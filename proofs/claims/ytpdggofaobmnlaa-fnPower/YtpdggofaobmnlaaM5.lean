/- DrawPut, DrawDiffer, DrawChosen, DrawNewBlocks. -/
import Derived.Test.YtpdggofaobmnlaaM4
import Derived.Deep.RegionWith
import Derived.Deep.DrawnRows
import Derived.Test.YtpdggofaobmnlaaM3
import Derived.Test.YtpdggofaobmnlaaRows
import Derived.Test.YtpdggofaobmnlaaM1
import Derived.WalkKit
import Derived.ProofKit
import Derived.OpenShut
import Derived.WalkSmall
import Derived.WalkSpells
import Derived.BigQuiet
namespace Go.Proofs.Ytpdggofaobmnlaa
open Go.ChangeShapes Go.WideShapes Go.ChangeAt Go.RowKit

/- What a draw of a list leaves: a list of its own, and nothing below w has turned. -/
theorem Drawn.own {w w1 w2 : World} {B c : Nat} {v : Value} {xs : List Int} (h : Drawn w1 w2 B c v xs) (g : w.grownBy w1 none) (hc : w.heap.size ≤ c) : Own w2 w.heap.size v xs ∧ Below w.heap.size w w2 :=
  ⟨h.1.mono g.size, below_of_cur g hc h.2.2.1⟩

theorem drew_grown {w w' : World} {row : Option Nat} (h : w.drew.grownBy w' row) : w.grownBy w' row := ⟨h.os, h.tape, h.output, h.size, h.block⟩
theorem lit5 (x : Int) (h0 : 0 ≤ x) (h1 : x < 5) : ∃ y, (#[.int .i64 0, .int .i64 7, .int .i64 9999, .int .i64 10000, .int .i64 (-1)] : Array Value)[x.toNat]? = some (.int .i64 y) := by
  obtain rfl | rfl | rfl | rfl | rfl : x = 0 ∨ x = 1 ∨ x = 2 ∨ x = 3 ∨ x = 4 := by omega
  all_goals exact ⟨_, rfl⟩
end Go.Proofs.Ytpdggofaobmnlaa
/- What the laws on disks draw: disks, places, numbers, sets; whatever they are, nothing that was there is written. -/
namespace Go.Proofs.Ytpdggofaobmnlaa
open Go.ChangeShapes Go.WideShapes Go.ChangeAt Go.RowKit

theorem Sta.curList {w wx wy : World} {L : List Item} {B c : Nat} {u : Value} {xs : List Int} (h : Sta w wx L) (n : Nat) (e : L[n]? = some (CurI B c)) (D : Drawn wx wy B c u xs) : Sta w wy (Lst u xs :: L) :=
  h.turnAdd n e (Turned.of_grown D.2.2.1) D.2.1 (Lst u xs) (D.1.mono (Nat.zero_le _)) (fun b hb => D.1.lt b (by simpa [Lst] using hb))
theorem Sta.set1 {w wx : World} {L : List Item} {g : Nat} {t : TypeId} {u v : Value} (h : Sta w wx L) (n : Nat) (e : L[n]? = some (Blk g t #[u, v])) (x : Value) : Sta w (wx.setCell ⟨g, 1, none⟩ x) (L.set n (Blk g t #[u, x])) :=
  h.turn n e (turned_set wx g 1 x) (Blk g t #[u, x]) rfl (Pair.set1 (h.get n e) x)
theorem Sta.set0 {w wx : World} {L : List Item} {g : Nat} {t : TypeId} {u v : Value} (h : Sta w wx L) (n : Nat) (e : L[n]? = some (Blk g t #[u, v])) (x : Value) : Sta w (wx.setCell ⟨g, 0, none⟩ x) (L.set n (Blk g t #[x, v])) :=
  h.turn n e (turned_set wx g 0 x) (Blk g t #[x, v]) rfl (Pair.set0 (h.get n e) x)
theorem Lst.form {w : World} {v : Value} {xs : List Int} (h : (Lst v xs).holds w) : ∃ ao cap, v = .slice ao xs.length cap := h.reads.form

set_option maxRecDepth 20000 in
set_option maxHeartbeats 2000000 in
theorem l3Draw_any {w0 w : World} {L : List Item} {B c : Nat} (hS : Sta w0 w (CurI B c :: L)) :
    Calls Try.prog 62 #[.pointer (some ⟨c, 0, none⟩)] w fun e w' => ∃ u v, e = .returned (.agg #[u, v]) ∧ ∃ xs ys : List Int, xs.length ≤ 65 ∧ ys.length ≤ 65 ∧ Sta w0 w' (Dsk u v xs ys :: CurI B c :: L) := by
  obtain ⟨w1, hw1⟩ : ∃ w1, w1 = w.alloc (.cells #[.slice none 0 0, .slice none 0 0] 26) := ⟨_, rfl⟩
  have HS : Hid (Sta w0 w1 (Blk w.heap.size 26 #[.slice none 0 0, .slice none 0 0] :: CurI B c :: L)) := by rw [hw1]; exact hS.box _ _
  clear hS
  go_enter Try.func62, Try.ntmps62
  go_wp2_with fail
  rw [← hw1]
  clear hw1
  refine (below_any B c 5 w1 (HS.out.get 1 rfl) (by omega)).mono ?_
  rintro e w2 ⟨k, rfl, hk0, hk1, hk2, C2, G2⟩
  have hk3 := hk1 (by omega)
  replace HS : Hid (Sta w0 w2 _) := HS.out.cur 1 rfl C2 G2
  clear hk1 hk2 C2 G2
  go_wp2_with fail
  refine (draw_any B c _ w2 (HS.out.get 1 rfl) (by omega)).mono ?_
  rintro e w3 ⟨u, rfl, xs, hx, D3⟩
  replace HS : Hid (Sta w0 w3 (Lst u xs :: _)) := HS.out.curList 1 rfl D3
  clear D3
  obtain ⟨uo, uc, heu⟩ := Lst.form (HS.out.get 0 rfl)
  subst heu
  go_wp2_with (refine wpList_putB rfl 26 _ _ rfl w3.heap.size #[.slice uo xs.length uc, .slice none 0 0] #[.slice none 0 0, .slice none 0 0] rfl rfl (by simp [Value.oneCell']) (heap_alloc_new _ _) Try.infoB.1 rfl ?_; intro w4 q4 g4; replace HS : Hid (Sta w0 w4 (Blk w3.heap.size 26 #[.slice uo xs.length uc, .slice none 0 0] :: _)) := HS.out.var 26 _ _ q4 g4; clear q4 g4)
  refine (draw_any B c _ w4 (HS.out.get 3 rfl) (by omega)).mono ?_
  rintro e w5 ⟨v, rfl, ys, hy, D5⟩
  replace HS : Hid (Sta w0 w5 (Lst v ys :: _)) := HS.out.curList 3 rfl D5
  clear D5
  obtain ⟨vo, vc, hev⟩ := Lst.form (HS.out.get 0 rfl)
  subst hev
  have e0 := Blk.cell (HS.out.get 1 rfl) 1 (x := .slice none 0 0) rfl
  have f0 := Blk.frozen (HS.out.get 1 rfl) 1
  obtain ⟨w6, hw6⟩ : ∃ w6, w6 = w5.setCell ⟨w3.heap.size, 1, none⟩ (.slice vo ys.length vc) := ⟨_, rfl⟩
  have HS6 := HS.out.set1 1 rfl (.slice vo ys.length vc)
  rw [← hw6] at HS6
  replace HS6 : Hid (Sta w0 w6 _) := HS6
  go_wp2_with fail
  rw [← hw6]
  clear hw6 HS e0 f0
  refine (once_any B c 10 w6 (HS6.out.get 4 rfl) (by omega)).mono ?_
  rintro e w7 ⟨b, rfl, C7, G7⟩
  replace HS6 : Hid (Sta w0 w7 _) := HS6.out.cur 4 rfl C7 G7
  clear C7 G7
  cases b with
  | false =>
    have p0 := Blk.cell (HS6.out.get 1 rfl) 0 (x := .slice uo xs.length uc) rfl
    have p1 := Blk.cell (HS6.out.get 1 rfl) 1 (x := .slice vo ys.length vc) rfl
    go_wp2_with (refine wpList_putB rfl 26 _ _ rfl w.heap.size #[.slice uo xs.length uc, .slice vo ys.length vc] #[.slice none 0 0, .slice none 0 0] rfl rfl (by simp [Value.oneCell']) (HS6.out.get 3 rfl) Try.infoB.1 rfl ?_; intro w8 q8 g8; replace HS6 : Hid (Sta w0 w8 _) := HS6.out.turn 3 rfl g8 (Blk w.heap.size 26 #[.slice uo xs.length uc, .slice vo ys.length vc]) rfl q8)
    refine bodyPost_ret (results_pair rfl _ _ w.heap.size _ _ rfl q8) rfl ?_
    exact ⟨_, _, rfl, xs, ys, by omega, by omega, ((((HS6.out.drop 1).drop 2).front 1 rfl)).two⟩
  | true =>
    go_wp2_with fail
    refine (drawAny_any B c _ w7 (HS6.out.get 4 rfl) (by omega)).mono ?_
    rintro e w8 ⟨z, rfl, zs, hz, D8⟩
    replace HS6 : Hid (Sta w0 w8 (Lst z zs :: _)) := HS6.out.curList 4 rfl D8
    clear D8
    obtain ⟨zo, zc, hez⟩ := Lst.form (HS6.out.get 0 rfl)
    subst hez
    have e0 := Blk.cell (HS6.out.get 2 rfl) 1 (x := .slice vo ys.length vc) rfl
    have f0 := Blk.frozen (HS6.out.get 2 rfl) 1
    obtain ⟨w9, hw9⟩ : ∃ w9, w9 = w8.setCell ⟨w3.heap.size, 1, none⟩ (.slice zo zs.length zc) := ⟨_, rfl⟩
    have HS9 := HS6.out.set1 2 rfl (.slice zo zs.length zc)
    have p0 := Blk.cell (HS9.get 2 rfl) 0 (x := .slice uo xs.length uc) rfl
    have p1 := Blk.cell (HS9.get 2 rfl) 1 (x := .slice zo zs.length zc) rfl
    rw [← hw9] at HS9
    replace HS9 : Hid (Sta w0 w9 _) := HS9
    have HW : Hid (w9 = w8.setCell ⟨w3.heap.size, 1, none⟩ (.slice zo zs.length zc)) := hw9
    clear hw9
    go_wp2_with (refine wpList_putB rfl 26 _ _ rfl w.heap.size #[.slice uo xs.length uc, .slice zo zs.length zc] #[.slice none 0 0, .slice none 0 0] rfl rfl (by simp [Value.oneCell']) (by rw [← HW.out]; exact HS9.out.get 4 rfl) Try.infoB.1 rfl ?_; rw [← HW.out]; intro w10 q10 g10; replace HS9 : Hid (Sta w0 w10 _) := HS9.out.turn 4 rfl g10 (Blk w.heap.size 26 #[.slice uo xs.length uc, .slice zo zs.length zc]) rfl q10)
    refine bodyPost_ret (results_pair rfl _ _ w.heap.size _ _ rfl q10) rfl ?_
    exact ⟨_, _, rfl, xs, zs, by omega, by omega, ((((HS9.out.drop 1).drop 1).drop 2).front 1 rfl).two⟩

theorem Own.raise {w : World} {base base' : Nat} {v : Value} {xs : List Int} (h : Own w base v xs) (hb : ∀ k, v.ownBlock = some k → base' ≤ k) : Own w base' v xs := by
  refine ⟨h.1, ?_⟩
  rcases h.2 with h' | ⟨g, cap, cur, rfl, _, r⟩
  · exact .inl h'
  · exact .inr ⟨g, cap, cur, rfl, hb g rfl, r⟩
theorem Sta.ownD {w wx : World} {L : List Item} {u v : Value} {xs ys : List Int} (h : Sta w wx L) (n : Nat) (e : L[n]? = some (Dsk u v xs ys)) : OwnD wx w.heap.size u v xs ys :=
  ⟨(h.get n e).1.raise (fun k hk => (h.lt n e k (by simp [Dsk, hk])).1), (h.get n e).2.1.raise (fun k hk => (h.lt n e k (by simp [Dsk, hk])).1), (h.get n e).2.2⟩

theorem results_pair3 {fn : Func} {p q r : Tmp} (h : fn.results = #[.cell p 26, .tmp q, .tmp r]) (tmps : Array Value) (w : World) (g : Nat) (u v x y : Value)
    (hp : tmps.getD p undef = .pointer (some ⟨g, 0, none⟩)) (hx : tmps.getD q undef = x) (hy : tmps.getD r undef = y) (hr : Pair w g 26 u v) : (results fn tmps).run Try.prog w = .ok (.tuple #[.agg #[u, v], x, y]) w := by
  obtain ⟨fs, hu⟩ := Try.underD
  have hl := run_loadVar_row w g _ _ _ _ _ hr hu rfl Try.infoD
  have hp' : tmps[p]?.getD undef = .pointer (some ⟨g, 0, none⟩) := by simpa using hp
  have hx' : tmps[q]?.getD undef = x := by simpa using hx
  have hy' : tmps[r]?.getD undef = y := by simpa using hy
  simp [results, h, hp', hx', hy', asAddr, hl]
end Go.Proofs.Ytpdggofaobmnlaa
/- Strings as lists of bytes; what Check and l4Plain of the model answer. -/
namespace Go.Proofs.Ytpdggofaobmnlaa
open Go.ChangeShapes Go.WideShapes Go.ChangeAt Go.RowKit

abbrev Bs := List UInt8
def S (l : Bs) : Value := .string ⟨l.toArray⟩
def byteI (b : UInt8) : Int := (b.toNat : Int)
def chk : Bs → Int := fun l => l.foldl (fun h b => (31 * h + byteI b + 1) % 999983) 19

theorem byteAt_is (l : Bs) (j : Nat) (h : j < l.length) (c : UInt8) (n : Int) (hc : byteI c = n) : (((((⟨l.toArray⟩ : ByteArray)[j]'(show j < (⟨l.toArray⟩ : ByteArray).size from h)).toNat : Nat) : Int) == n) = decide (l[j] = c) := by
  have e : ((((⟨l.toArray⟩ : ByteArray)[j]'(show j < (⟨l.toArray⟩ : ByteArray).size from h)).toNat : Nat) : Int) = byteI l[j] := rfl
  rw [e, ← hc]
  by_cases hb : l[j] = c
  · simp [hb]
  · have : byteI l[j] ≠ byteI c := fun h => hb (by
      unfold byteI at h
      exact UInt8.toNat_inj.1 (by omega))
    simp [hb, this]
theorem byteI_bd (b : UInt8) : 0 ≤ byteI b ∧ byteI b < 256 := by
  have := b.toNat_lt
  unfold byteI; omega
theorem wrap_small {x : Int} (h0 : 0 ≤ x) (h1 : x < 9223372036854775808) : wrap64 x = x := by
  unfold wrap64; omega
theorem chk_snoc (l : Bs) (b : UInt8) : chk (l ++ [b]) = (31 * chk l + byteI b + 1) % 999983 := by
  simp [chk]
theorem chk_bd (l : Bs) : 0 ≤ chk l ∧ chk l < 999983 := by
  rcases List.eq_nil_or_concat l with rfl | ⟨m, b, rfl⟩
  · simp [chk]
  · rw [List.concat_eq_append, chk_snoc]; omega
theorem take_snocB (l : Bs) (j : Nat) (h : j < l.length) : l.take (j + 1) = l.take j ++ [l[j]] := List.take_succ_eq_append_getElem h
theorem chk_step (l : Bs) (j : Nat) (h : j < l.length) : (wrap64 (wrap64 (31 * chk (l.take j) + wrap64 (byteI l[j])) + 1)).tmod 999983 = chk (l.take (j + 1)) := by
  have h1 := chk_bd (l.take j)
  have h2 := byteI_bd l[j]
  rw [take_snocB l j h, chk_snoc]
  rw [wrap_small (x := byteI l[j]) h2.1 (by omega), wrap_small (x := 31 * chk (l.take j) + byteI l[j]) (by omega) (by omega), wrap_small (by omega) (by omega)]
  exact Int.tmod_eq_emod_of_nonneg (by omega)

def plainB (l : Bs) : Bool := l.all (fun b => b != 10) && decide (l.length ≤ 300)
theorem plain_not {l : Bs} {j : Nat} (h : j < l.length) (e : l[j] = 10) : plainB l = false := by
  have : l.all (fun b => b != 10) = false := by
    rw [List.all_eq_false]
    exact ⟨l[j], List.getElem_mem h, by simp [e]⟩
  simp [plainB, this]
end Go.Proofs.Ytpdggofaobmnlaa
