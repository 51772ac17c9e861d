/- What the laws on disks draw: disks, places, numbers, sets; whatever they are, nothing that was there is written. -/
import Derived.Test.YthjgannjahcmiaaDiskSta
import Derived.Test.YthjgannjahcmiaaDrawBlocks2
import Derived.Deep.RegionWith
import Derived.Deep.DrawnRows
namespace Go.Proofs.Ythjgannjahcmiaa
open Go.ChangeShapes Go.WideShapes Go.ChangeAt Go.RowKit

theorem Cur.frame {w w' : World} {B c : Nat} (h : Cur w B c) (e : w'.heap[c]? = w.heap[c]?) (b : Below B w w') : Cur w' B c := by
  obtain ⟨ao, len, cap, i, hh, hB, h1, h2, h3⟩ := h
  exact ⟨ao, len, cap, i, hh, hB, e.trans h1, h2.below b, h3⟩
def CurI (B c : Nat) : Item := ⟨[c], B, fun w => Cur w B c, fun _ _ e b h => h.frame (e c (by simp)) b⟩
theorem Sta.cur {w wx wy : World} {L : List Item} {B c : Nat} (h : Sta w wx L) (n : Nat) (e : L[n]? = some (CurI B c)) (C : Cur wy B c) (G : wx.grownBy wy (some c)) : Sta w wy L := by
  have := h.turn n e (Turned.of_grown G) (CurI B c) rfl C (h.olds _ (List.mem_of_getElem? e))
  rwa [set_same e] at this
theorem Sta.curList {w wx wy : World} {L : List Item} {B c : Nat} {u : Value} {xs : List Int} (h : Sta w wx L) (n : Nat) (e : L[n]? = some (CurI B c)) (D : Drawn wx wy B c u xs) : Sta w wy (Lst u xs :: L) :=
  h.turnAdd n e (Turned.of_grown D.2.2.1) D.2.1 (Lst u xs) (D.1.mono (Nat.zero_le _)) (fun b hb => D.1.lt b (by simpa [Lst] using hb))
theorem Sta.newCur {w wx wy : World} {L : List Item} {B c : Nat} (h : Sta w wx L) (hB : B ≤ w.heap.size) (hc : wx.heap.size ≤ c) (C : Cur wy B c) (G : wx.grownBy wy none) : Sta w wy (CurI B c :: L) :=
  h.add ((Below.refl _ _).grown G (Nat.le_refl _) (fun k e => by cases e)) (CurI B c) C (fun k hk => by simp [CurI] at hk; subst hk; exact ⟨hc, C.lt.2⟩) hB
theorem turned_set (w : World) (g j : Nat) (x : Value) : Turned w (w.setCell ⟨g, j, none⟩ x) [g] := Turned.of_grown (grownSet w g j x)
theorem Sta.set1 {w wx : World} {L : List Item} {g : Nat} {t : TypeId} {u v : Value} (h : Sta w wx L) (n : Nat) (e : L[n]? = some (Blk g t #[u, v])) (x : Value) : Sta w (wx.setCell ⟨g, 1, none⟩ x) (L.set n (Blk g t #[u, x])) :=
  h.turn n e (turned_set wx g 1 x) (Blk g t #[u, x]) rfl (Pair.set1 (h.get n e) x)
theorem Sta.set0 {w wx : World} {L : List Item} {g : Nat} {t : TypeId} {u v : Value} (h : Sta w wx L) (n : Nat) (e : L[n]? = some (Blk g t #[u, v])) (x : Value) : Sta w (wx.setCell ⟨g, 0, none⟩ x) (L.set n (Blk g t #[x, v])) :=
  h.turn n e (turned_set wx g 0 x) (Blk g t #[x, v]) rfl (Pair.set0 (h.get n e) x)
theorem Lst.form {w : World} {v : Value} {xs : List Int} (h : (Lst v xs).holds w) : ∃ ao cap, v = .slice ao xs.length cap := h.reads.form

set_option maxHeartbeats 2000000 in
theorem l3Draw_any {w0 w : World} {L : List Item} {B c : Nat} (hS : Sta w0 w (CurI B c :: L)) :
    Calls Try.prog 37 #[.pointer (some ⟨c, 0, none⟩)] w fun e w' => ∃ u v, e = .returned (.agg #[u, v]) ∧ ∃ xs ys : List Int, xs.length ≤ 65 ∧ ys.length ≤ 65 ∧ Sta w0 w' (Dsk u v xs ys :: CurI B c :: L) := by
  obtain ⟨w1, hw1⟩ : ∃ w1, w1 = w.alloc (.cells #[.slice none 0 0, .slice none 0 0] 26) := ⟨_, rfl⟩
  have HS : Hid (Sta w0 w1 (Blk w.heap.size 26 #[.slice none 0 0, .slice none 0 0] :: CurI B c :: L)) := by rw [hw1]; exact hS.box _ _
  clear hS
  go_enter Try.func37, Try.ntmps37
  go_wp2_with fail
  rw [← hw1]
  clear hw1
  refine (below_any B c 5 w1 (HS.out.get 1 rfl) (by omega)).mono ?_
  rintro e w2 ⟨k, rfl, hk0, hk1, hk2, C2, G2⟩
  have hk3 := hk1 (by omega)
  replace HS : Hid (Sta w0 w2 _) := HS.out.cur 1 rfl C2 G2
  clear hk1 hk2 C2 G2
  go_wp2_with fail
  refine (draw_any B c _ w2 (HS.out.get 1 rfl) (by omega)).mono ?_
  rintro e w3 ⟨u, rfl, xs, hx, D3⟩
  replace HS : Hid (Sta w0 w3 (Lst u xs :: _)) := HS.out.curList 1 rfl D3
  clear D3
  obtain ⟨uo, uc, heu⟩ := Lst.form (HS.out.get 0 rfl)
  subst heu
  go_wp2_with (refine wpList_putB rfl 26 _ _ rfl w3.heap.size #[.slice uo xs.length uc, .slice none 0 0] #[.slice none 0 0, .slice none 0 0] rfl rfl (by simp [Value.oneCell']) (heap_alloc_new _ _) Try.infoB.1 rfl ?_; intro w4 q4 g4; replace HS : Hid (Sta w0 w4 (Blk w3.heap.size 26 #[.slice uo xs.length uc, .slice none 0 0] :: _)) := HS.out.var 26 _ _ q4 g4; clear q4 g4)
  refine (draw_any B c _ w4 (HS.out.get 3 rfl) (by omega)).mono ?_
  rintro e w5 ⟨v, rfl, ys, hy, D5⟩
  replace HS : Hid (Sta w0 w5 (Lst v ys :: _)) := HS.out.curList 3 rfl D5
  clear D5
  obtain ⟨vo, vc, hev⟩ := Lst.form (HS.out.get 0 rfl)
  subst hev
  have e0 := Blk.cell (HS.out.get 1 rfl) 1 (x := .slice none 0 0) rfl
  have f0 := Blk.frozen (HS.out.get 1 rfl) 1
  obtain ⟨w6, hw6⟩ : ∃ w6, w6 = w5.setCell ⟨w3.heap.size, 1, none⟩ (.slice vo ys.length vc) := ⟨_, rfl⟩
  have HS6 := HS.out.set1 1 rfl (.slice vo ys.length vc)
  rw [← hw6] at HS6
  replace HS6 : Hid (Sta w0 w6 _) := HS6
  go_wp2_with fail
  rw [← hw6]
  clear hw6 HS e0 f0
  refine (once_any B c 10 w6 (HS6.out.get 4 rfl) (by omega)).mono ?_
  rintro e w7 ⟨b, rfl, C7, G7⟩
  replace HS6 : Hid (Sta w0 w7 _) := HS6.out.cur 4 rfl C7 G7
  clear C7 G7
  cases b with
  | false =>
    have p0 := Blk.cell (HS6.out.get 1 rfl) 0 (x := .slice uo xs.length uc) rfl
    have p1 := Blk.cell (HS6.out.get 1 rfl) 1 (x := .slice vo ys.length vc) rfl
    go_wp2_with (refine wpList_putB rfl 26 _ _ rfl w.heap.size #[.slice uo xs.length uc, .slice vo ys.length vc] #[.slice none 0 0, .slice none 0 0] rfl rfl (by simp [Value.oneCell']) (HS6.out.get 3 rfl) Try.infoB.1 rfl ?_; intro w8 q8 g8; replace HS6 : Hid (Sta w0 w8 _) := HS6.out.turn 3 rfl g8 (Blk w.heap.size 26 #[.slice uo xs.length uc, .slice vo ys.length vc]) rfl q8)
    refine bodyPost_ret (results_pair rfl _ _ w.heap.size _ _ rfl q8) rfl ?_
    exact ⟨_, _, rfl, xs, ys, by omega, by omega, ((((HS6.out.drop 1).drop 2).front 1 rfl)).two⟩
  | true =>
    go_wp2_with fail
    refine (drawAny_any B c _ w7 (HS6.out.get 4 rfl) (by omega)).mono ?_
    rintro e w8 ⟨z, rfl, zs, hz, D8⟩
    replace HS6 : Hid (Sta w0 w8 (Lst z zs :: _)) := HS6.out.curList 4 rfl D8
    clear D8
    obtain ⟨zo, zc, hez⟩ := Lst.form (HS6.out.get 0 rfl)
    subst hez
    have e0 := Blk.cell (HS6.out.get 2 rfl) 1 (x := .slice vo ys.length vc) rfl
    have f0 := Blk.frozen (HS6.out.get 2 rfl) 1
    obtain ⟨w9, hw9⟩ : ∃ w9, w9 = w8.setCell ⟨w3.heap.size, 1, none⟩ (.slice zo zs.length zc) := ⟨_, rfl⟩
    have HS9 := HS6.out.set1 2 rfl (.slice zo zs.length zc)
    have p0 := Blk.cell (HS9.get 2 rfl) 0 (x := .slice uo xs.length uc) rfl
    have p1 := Blk.cell (HS9.get 2 rfl) 1 (x := .slice zo zs.length zc) rfl
    rw [← hw9] at HS9
    replace HS9 : Hid (Sta w0 w9 _) := HS9
    have HW : Hid (w9 = w8.setCell ⟨w3.heap.size, 1, none⟩ (.slice zo zs.length zc)) := hw9
    clear hw9
    go_wp2_with (refine wpList_putB rfl 26 _ _ rfl w.heap.size #[.slice uo xs.length uc, .slice zo zs.length zc] #[.slice none 0 0, .slice none 0 0] rfl rfl (by simp [Value.oneCell']) (by rw [← HW.out]; exact HS9.out.get 4 rfl) Try.infoB.1 rfl ?_; rw [← HW.out]; intro w10 q10 g10; replace HS9 : Hid (Sta w0 w10 _) := HS9.out.turn 4 rfl g10 (Blk w.heap.size 26 #[.slice uo xs.length uc, .slice zo zs.length zc]) rfl q10)
    refine bodyPost_ret (results_pair rfl _ _ w.heap.size _ _ rfl q10) rfl ?_
    exact ⟨_, _, rfl, xs, zs, by omega, by omega, ((((HS9.out.drop 1).drop 1).drop 2).front 1 rfl).two⟩

theorem Own.raise {w : World} {base base' : Nat} {v : Value} {xs : List Int} (h : Own w base v xs) (hb : ∀ k, v.ownBlock = some k → base' ≤ k) : Own w base' v xs := by
  refine ⟨h.1, ?_⟩
  rcases h.2 with h' | ⟨g, cap, cur, rfl, _, r⟩
  · exact .inl h'
  · exact .inr ⟨g, cap, cur, rfl, hb g rfl, r⟩
theorem Sta.ownD {w wx : World} {L : List Item} {u v : Value} {xs ys : List Int} (h : Sta w wx L) (n : Nat) (e : L[n]? = some (Dsk u v xs ys)) : OwnD wx w.heap.size u v xs ys :=
  ⟨(h.get n e).1.raise (fun k hk => (h.lt n e k (by simp [Dsk, hk])).1), (h.get n e).2.1.raise (fun k hk => (h.lt n e k (by simp [Dsk, hk])).1), (h.get n e).2.2⟩

set_option maxHeartbeats 1000000 in
theorem drawDiskOk_any (B : Nat) (v : Value) (w : World) (h : CodeOk w B v) (hB : B ≤ w.heap.size) :
    Calls Try.prog 42 #[v] w fun e w' => ∃ a b, e = .returned (.agg #[a, b]) ∧ ∃ xs ys : List Int, xs.length ≤ 65 ∧ ys.length ≤ 65 ∧ OwnD w' w.heap.size a b xs ys ∧ Below w.heap.size w w' := by
  obtain ⟨w1, hw1⟩ : ∃ w1, w1 = w.alloc (.cells #[.slice none 0 0, .slice none 0 0] 26) := ⟨_, rfl⟩
  have HS : Hid (Sta w w1 [Blk w.heap.size 26 #[.slice none 0 0, .slice none 0 0]]) := by rw [hw1]; exact (Sta.start w).box _ _
  have HC : Hid (CodeOk w B v) := h
  clear h
  go_enter Try.func42, Try.ntmps42
  go_wp2_with fail
  rw [← hw1]
  clear hw1
  refine (new_code B v _ (HC.out.below (HS.out.below.mono hB)) (Nat.le_trans hB HS.out.below.size)).mono ?_
  rintro e w2 ⟨c, rfl, hc, C2, G2⟩
  replace HS : Hid (Sta w w2 [CurI B c, Blk w.heap.size 26 #[.slice none 0 0, .slice none 0 0]]) := HS.out.newCur hB hc C2 G2
  clear C2 G2 hc
  go_wp2_with fail
  refine (l3Draw_any HS.out).mono ?_
  rintro e w3 ⟨a, b, rfl, xs, ys, hx, hy, S3⟩
  replace HS : Hid (Sta w w3 _) := S3
  clear S3
  have h1 := HS.out.ones 0 rfl
  go_wp2_with (refine wpList_putB rfl 26 _ _ rfl w.heap.size #[a, b] #[.slice none 0 0, .slice none 0 0] rfl rfl h1 (HS.out.get 2 rfl) Try.infoB.1 rfl ?_; intro w4 q4 g4; replace HS : Hid (Sta w w4 _) := HS.out.turn 2 rfl g4 (Blk w.heap.size 26 #[a, b]) rfl q4)
  refine bodyPost_ret (results_pair rfl _ _ w.heap.size _ _ rfl q4) rfl ?_
  exact ⟨_, _, rfl, xs, ys, hx, hy, HS.out.ownD 0 rfl, HS.out.below⟩

set_option maxHeartbeats 1000000 in
theorem drawFlushed_any (B : Nat) (v : Value) (w : World) (h : CodeOk w B v) (hB : B ≤ w.heap.size) :
    Calls Try.prog 14 #[v] w fun e w' => ∃ a b, e = .returned (.agg #[a, b]) ∧ ∃ xs ys : List Int, xs.length ≤ 65 ∧ ys.length ≤ 65 ∧ OwnD w' w.heap.size a b xs ys ∧ Below w.heap.size w w' := by
  obtain ⟨w1, hw1⟩ : ∃ w1, w1 = w.alloc (.cells #[.slice none 0 0, .slice none 0 0] 26) := ⟨_, rfl⟩
  have HS : Hid (Sta w w1 [Blk w.heap.size 26 #[.slice none 0 0, .slice none 0 0]]) := by rw [hw1]; exact (Sta.start w).box _ _
  have HC : Hid (CodeOk w B v) := h
  clear h
  go_enter Try.func14, Try.ntmps14
  go_wp2_with fail
  rw [← hw1]
  clear hw1
  refine (drawDiskOk_any B v _ (HC.out.below (HS.out.below.mono hB)) (Nat.le_trans hB HS.out.below.size)).mono ?_
  rintro e w3 ⟨a, b, rfl, xs, ys, hx, hy, o3, b3⟩
  replace HS : Hid (Sta w w3 (Dsk a b xs ys :: _)) := HS.out.disk o3 b3
  clear o3 b3
  have h1 := HS.out.ones 0 rfl
  go_wp2_with (refine wpList_putB rfl 26 _ _ rfl w.heap.size #[a, b] #[.slice none 0 0, .slice none 0 0] rfl rfl h1 (HS.out.get 1 rfl) Try.infoB.1 rfl ?_; intro w4 q4 g4; replace HS : Hid (Sta w w4 _) := HS.out.turn 1 rfl g4 (Blk w.heap.size 26 #[a, b]) rfl q4)
  refine bodyPost_ret (results_pair rfl _ _ w.heap.size _ _ rfl q4) rfl ?_
  exact ⟨_, _, rfl, xs, ys, hx, hy, HS.out.ownD 0 rfl, HS.out.below⟩

set_option maxHeartbeats 1000000 in
theorem drawNewDisk_any (B : Nat) (v : Value) (w : World) (h : CodeOk w B v) (hB : B ≤ w.heap.size) :
    Calls Try.prog 16 #[v] w fun e w' => ∃ n, e = .returned (.int .i64 n) ∧ Below w.heap.size w w' := by
  have c1 := drawNew8_any B v w h hB
  clear h
  go_enter Try.func16, Try.ntmps16
  go_wp2_with fail
  refine c1.mono ?_
  rintro e w1 ⟨n, rfl, b1⟩
  go_wp2_with fail
  go_ret
  exact ⟨_, rfl, b1⟩

theorem results_pair3 {fn : Func} {p q r : Tmp} (h : fn.results = #[.cell p 26, .tmp q, .tmp r]) (tmps : Array Value) (w : World) (g : Nat) (u v x y : Value)
    (hp : tmps.getD p undef = .pointer (some ⟨g, 0, none⟩)) (hx : tmps.getD q undef = x) (hy : tmps.getD r undef = y) (hr : Pair w g 26 u v) : (results fn tmps).run Try.prog w = .ok (.tuple #[.agg #[u, v], x, y]) w := by
  obtain ⟨fs, hu⟩ := Try.underD
  have hl := run_loadVar_row w g _ _ _ _ _ hr hu rfl Try.infoD
  have hp' : tmps[p]?.getD undef = .pointer (some ⟨g, 0, none⟩) := by simpa using hp
  have hx' : tmps[q]?.getD undef = x := by simpa using hx
  have hy' : tmps[r]?.getD undef = y := by simpa using hy
  simp [results, h, hp', hx', hy', asAddr, hl]

set_option maxHeartbeats 2000000 in
theorem drawWritten_any (B : Nat) (v : Value) (w : World) (h : CodeOk w B v) (hB : B ≤ w.heap.size) :
    Calls Try.prog 12 #[v] w fun e w' => ∃ a b i x, e = .returned (.tuple #[.agg #[a, b], .int .i64 i, .int .i64 x]) ∧ ∃ xs ys : List Int, xs.length ≤ 65 ∧ ys.length ≤ 65 ∧ OwnD w' w.heap.size a b xs ys ∧ Below w.heap.size w w' := by
  obtain ⟨w1, hw1⟩ : ∃ w1, w1 = w.alloc (.cells #[.slice none 0 0, .slice none 0 0] 26) := ⟨_, rfl⟩
  have HS : Hid (Sta w w1 [Blk w.heap.size 26 #[.slice none 0 0, .slice none 0 0]]) := by rw [hw1]; exact (Sta.start w).box _ _
  have HC : Hid (CodeOk w B v) := h
  clear h
  go_enter Try.func12, Try.ntmps12
  go_wp2_with fail
  rw [← hw1]
  clear hw1
  refine (new_code B v _ (HC.out.below (HS.out.below.mono hB)) (Nat.le_trans hB HS.out.below.size)).mono ?_
  rintro e w2 ⟨c, rfl, hc, C2, G2⟩
  replace HS : Hid (Sta w w2 [CurI B c, Blk w.heap.size 26 #[.slice none 0 0, .slice none 0 0]]) := HS.out.newCur hB hc C2 G2
  clear C2 G2 hc HC
  go_wp2_with fail
  refine (l3Draw_any HS.out).mono ?_
  rintro e w3 ⟨a, b, rfl, xs, ys, hx, hy, S3⟩
  replace HS : Hid (Sta w w3 _) := S3
  clear S3
  obtain ⟨ao, ca, hea⟩ := (HS.out.readsU 0 rfl).form
  obtain ⟨bo, cb, heb⟩ := (HS.out.readsV 0 rfl).form
  subst hea heb
  obtain ⟨a, hea⟩ : ∃ a, a = Value.slice ao xs.length ca := ⟨_, rfl⟩
  obtain ⟨b, heb⟩ : ∃ b, b = Value.slice bo ys.length cb := ⟨_, rfl⟩
  obtain ⟨w4, hw4⟩ : ∃ w4, w4 = w3.alloc (.cells #[.slice ao xs.length ca, .slice bo ys.length cb] 26) := ⟨_, rfl⟩
  have HS4 := HS.out.box 26 #[.slice ao xs.length ca, .slice bo ys.length cb]
  rw [← hw4] at HS4
  replace HS4 : Hid (Sta w w4 _) := HS4
  clear HS hea heb
  go_wp2_with fail
  rw [← hw4]
  clear hw4
  refine (drawItem_any B c w4 (HS4.out.get 2 rfl)).mono ?_
  rintro e w5 ⟨i, rfl, C5, G5⟩
  replace HS4 : Hid (Sta w w5 _) := HS4.out.cur 2 rfl C5 G5
  clear C5 G5
  have p0 := Blk.cell (HS4.out.get 0 rfl) 0 (x := .slice ao xs.length ca) rfl
  have p1 := Blk.cell (HS4.out.get 0 rfl) 1 (x := .slice bo ys.length cb) rfl
  have HS9 := HS4.out.box 2 #[.int .i64 0, .int .i64 7, .int .i64 9999, .int .i64 10000, .int .i64 (-1)]
  have p2 := Blk.cell (HS9.get 1 rfl) 0 (x := .slice ao xs.length ca) rfl
  have p3 := Blk.cell (HS9.get 1 rfl) 1 (x := .slice bo ys.length cb) rfl
  clear HS9
  have HS5 := HS4.out.drew1
  have hn5 : ¬ w5.heap.size = w.heap.size := by have := (HS4.out.lt 3 rfl w.heap.size (by simp [Blk])).2; omega
  have hn5' : ¬ w.heap.size = w5.heap.size := by omega
  have hn4 : ¬ w3.heap.size = w5.heap.size := by have := (HS4.out.lt 0 rfl w3.heap.size (by simp [Blk])).2; omega
  have hn3 : ¬ w3.heap.size = w.heap.size := fun e => HS4.out.apart.1 _ (List.mem_of_getElem? (i := 2) rfl) w3.heap.size (by simp [Blk]) (by simp [Blk, e])
  go_wp2_with fail
  go_region_with (first
      | (go_at_call 39; refine (below_any B c 5 _ (by first | exact HS5.get 2 rfl | exact (HS5.box _ _).get 3 rfl) (by omega)).mono ?_; rintro e w6 ⟨x, rfl, hx0, hx1, hx2, C6, G6⟩; have hx3 := hx1 (by omega); clear hx1 hx2; obtain ⟨y, hy5⟩ := lit5 x hx0 hx3;
          first
            | (have HS6 := HS5.cur 2 rfl C6 G6; have hyl : ([.int .i64 0, .int .i64 7, .int .i64 9999, .int .i64 10000, .int .i64 (-1)] : List Value)[x.toNat]? = some (.int .i64 y) := (by simpa using hy5); obtain ⟨hlt5, hel⟩ := List.getElem_of_getElem? hyl; have HS8 := HS6.box 2 #[.int .i64 0, .int .i64 7, .int .i64 9999, .int .i64 10000, .int .i64 (-1)]; have s0 := Blk.cell (HS8.get 1 rfl) 0 (x := .slice ao xs.length ca) rfl; have s1 := Blk.cell (HS8.get 1 rfl) 1 (x := .slice bo ys.length cb) rfl; have s2 := Blk.cell (HS8.get 4 rfl) 0 (x := .slice none 0 0) rfl; have s3 := Blk.cell (HS8.get 4 rfl) 1 (x := .slice none 0 0) rfl; have t2 := Blk.frozen (HS8.get 4 rfl) 0; have t3 := Blk.frozen (HS8.get 4 rfl) 1; have r0 := Blk.cell (HS6.get 0 rfl) 0 (x := .slice ao xs.length ca) rfl; have r1 := Blk.cell (HS6.get 0 rfl) 1 (x := .slice bo ys.length cb) rfl; have r2 := Blk.cell (HS6.get 3 rfl) 0 (x := .slice none 0 0) rfl; have r3 := Blk.cell (HS6.get 3 rfl) 1 (x := .slice none 0 0) rfl; have f2 := Blk.frozen (HS6.get 3 rfl) 0; have f3 := Blk.frozen (HS6.get 3 rfl) 1; have hn6 : ¬ w6.heap.size = w.heap.size := (by have := (HS6.lt 3 rfl w.heap.size (by simp [Blk])).2; omega); have hn6' : ¬ w.heap.size = w6.heap.size := (by omega); have hn7 : ¬ w3.heap.size = w6.heap.size := (by have := (HS6.lt 0 rfl w3.heap.size (by simp [Blk])).2; omega); clear hy5)
            | (have HS7 := (HS5.box 2 #[.int .i64 0, .int .i64 7, .int .i64 9999, .int .i64 10000, .int .i64 (-1)]).cur 3 rfl C6 G6; have hcell : w6.cell? ⟨w5.heap.size, x.toNat, none⟩ = some (.int .i64 y) := Blk.cell (HS7.get 0 rfl) x.toNat hy5; have HS6 := HS7.tail; clear HS7; have r0 := Blk.cell (HS6.get 0 rfl) 0 (x := .slice ao xs.length ca) rfl; have r1 := Blk.cell (HS6.get 0 rfl) 1 (x := .slice bo ys.length cb) rfl; have r2 := Blk.cell (HS6.get 3 rfl) 0 (x := .slice none 0 0) rfl; have r3 := Blk.cell (HS6.get 3 rfl) 1 (x := .slice none 0 0) rfl; have f2 := Blk.frozen (HS6.get 3 rfl) 0; have f3 := Blk.frozen (HS6.get 3 rfl) 1; have hn6 : ¬ w6.heap.size = w.heap.size := (by have := (HS6.lt 3 rfl w.heap.size (by simp [Blk])).2; omega); have hn6' : ¬ w.heap.size = w6.heap.size := (by omega); have hn7 : ¬ w3.heap.size = w6.heap.size := (by have := (HS6.lt 0 rfl w3.heap.size (by simp [Blk])).2; omega); clear hy5)))
  all_goals go_wp2_with fail
  all_goals first
    | (have Z := (HS6.set0 3 rfl (.slice ao xs.length ca)).set1 3 rfl (.slice bo ys.length cb); refine bodyPost_ret (results_pair3 rfl _ _ w.heap.size _ _ _ _ rfl rfl rfl (Z.get 3 rfl)) rfl ?_; exact ⟨_, _, _, _, rfl, xs, ys, hx, hy, Z.ownD 1 rfl, Z.below⟩)
    | (have Z := ((HS6.box 2 #[.int .i64 0, .int .i64 7, .int .i64 9999, .int .i64 10000, .int .i64 (-1)]).set0 4 rfl (.slice ao xs.length ca)).set1 4 rfl (.slice bo ys.length cb); refine bodyPost_ret (results_pair3 rfl _ _ w.heap.size _ _ _ _ rfl rfl rfl (Z.get 4 rfl)) rfl ?_; exact ⟨_, _, _, _, rfl, xs, ys, hx, hy, Z.ownD 2 rfl, Z.below⟩)
    | (have Z := ((HS6.set0 3 rfl (.slice ao xs.length ca)).set1 3 rfl (.slice bo ys.length cb)).box 2 #[.int .i64 0, .int .i64 7, .int .i64 9999, .int .i64 10000, .int .i64 (-1)]; refine bodyPost_ret (results_pair3 rfl _ _ w.heap.size _ _ _ _ rfl rfl rfl (Z.get 4 rfl)) rfl ?_; exact ⟨_, _, _, _, rfl, xs, ys, hx, hy, Z.ownD 2 rfl, Z.below⟩)

set_option maxHeartbeats 2000000 in
theorem drawLost_any (B : Nat) (v : Value) (w : World) (h : CodeOk w B v) (hB : B ≤ w.heap.size) :
    Calls Try.prog 28 #[v] w fun e w' => ∃ a b s, e = .returned (.tuple #[.agg #[a, b], .int .i64 s]) ∧ ∃ xs ys : List Int, xs.length ≤ 65 ∧ ys.length ≤ 65 ∧ OwnD w' w.heap.size a b xs ys ∧ Below w.heap.size w w' := by
  obtain ⟨w1, hw1⟩ : ∃ w1, w1 = w.alloc (.cells #[.slice none 0 0, .slice none 0 0] 26) := ⟨_, rfl⟩
  have HS : Hid (Sta w w1 [Blk w.heap.size 26 #[.slice none 0 0, .slice none 0 0]]) := by rw [hw1]; exact (Sta.start w).box _ _
  have HC : Hid (CodeOk w B v) := h
  clear h
  go_enter Try.func28, Try.ntmps28
  go_wp2_with fail
  rw [← hw1]
  clear hw1
  refine (new_code B v _ (HC.out.below (HS.out.below.mono hB)) (Nat.le_trans hB HS.out.below.size)).mono ?_
  rintro e w2 ⟨c, rfl, hc, C2, G2⟩
  replace HS : Hid (Sta w w2 [CurI B c, Blk w.heap.size 26 #[.slice none 0 0, .slice none 0 0]]) := HS.out.newCur hB hc C2 G2
  clear C2 G2 hc HC
  go_wp2_with fail
  refine (l3Draw_any HS.out).mono ?_
  rintro e w3 ⟨a, b, rfl, xs, ys, hx, hy, S3⟩
  replace HS : Hid (Sta w w3 _) := S3
  clear S3
  obtain ⟨ao, ca, hea⟩ := (HS.out.readsU 0 rfl).form
  obtain ⟨bo, cb, heb⟩ := (HS.out.readsV 0 rfl).form
  subst hea heb
  obtain ⟨w4, hw4⟩ : ∃ w4, w4 = w3.alloc (.cells #[.slice ao xs.length ca, .slice bo ys.length cb] 26) := ⟨_, rfl⟩
  have HS4 := HS.out.box 26 #[.slice ao xs.length ca, .slice bo ys.length cb]
  rw [← hw4] at HS4
  replace HS4 : Hid (Sta w w4 _) := HS4
  have p0 := Blk.cell (HS4.out.get 0 rfl) 0 (x := .slice ao xs.length ca) rfl
  have p1 := Blk.cell (HS4.out.get 0 rfl) 1 (x := .slice bo ys.length cb) rfl
  have HS5 := HS4.out.drew1
  clear HS
  go_wp2_with fail
  rw [← hw4]
  clear hw4
  go_region_with (first
      | (go_at_call 57; refine (drawSet_any B c w4.drew (HS5.get 2 rfl)).mono ?_; rintro e w6 ⟨x, rfl, C6, G6⟩; have HS6 := HS5.cur 2 rfl C6 G6; have r0 := Blk.cell (HS6.get 0 rfl) 0 (x := .slice ao xs.length ca) rfl; have r1 := Blk.cell (HS6.get 0 rfl) 1 (x := .slice bo ys.length cb) rfl; have r2 := Blk.cell (HS6.get 3 rfl) 0 (x := .slice none 0 0) rfl; have r3 := Blk.cell (HS6.get 3 rfl) 1 (x := .slice none 0 0) rfl; have f2 := Blk.frozen (HS6.get 3 rfl) 0; have f3 := Blk.frozen (HS6.get 3 rfl) 1))
  all_goals go_wp2_with fail
  all_goals
    have Z := (HS6.set0 3 rfl (.slice ao xs.length ca)).set1 3 rfl (.slice bo ys.length cb)
    refine bodyPost_ret (results_pair2 rfl _ _ w.heap.size _ _ _ rfl rfl (Z.get 3 rfl)) rfl ?_
    exact ⟨_, _, _, rfl, xs, ys, hx, hy, Z.ownD 1 rfl, Z.below⟩
end Go.Proofs.Ythjgannjahcmiaa
