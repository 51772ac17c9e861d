/- Houses by the program: NodeOk. -/
import Derived.Test.YteooloceaoinlaaGreatDoorINodeA
import Derived.Test.YteooloceaoinlaaGreatDoorM21
import Derived.Test.YteooloceaoinlaaGreatDoorM20
import Derived.Test.YteooloceaoinlaaGreatDoorLNode2
import Derived.Test.YteooloceaoinlaaGreatDoorSNode2
import Derived.Test.YteooloceaoinlaaGreatDoorM18
namespace Go.Proofs.YteooloceaoinlaaGreatDoor
open Go.ChangeShapes Go.WideShapes Go.ChangeAt Go.RowKit

/- A whole struct is loaded where a test ahead of it said yes. -/
theorem wpList_getSG {t : TypeId} {n : Nat} (hS : IsS t n) {ops : Array Oper} {rest : List Oper} {o : Oper} {a : Act} {w : World} {Q : Exit → Act → World → Prop} (hw : Region.wanted o (yielded ops a.tmps) = true) (x : Operand) (ho : o.op = .load t x)
    (g : Nat) (hx : a.eval x = .pointer (some ⟨g, 0, none⟩)) (cs : Array Value) (hn : cs.size = n) (hr : StB w g t cs)
    (h : wpList Tryz.prog ops Q rest (a.put o.dst (.agg cs)) w) : wpList Tryz.prog ops Q (o :: rest) a w := by
  obtain ⟨⟨fs, hu⟩, hi⟩ := hS
  exact wpList_step fun K hK => by rw [if_pos hw]; exact wp_load_row _ x ho g hx _ _ _ _ hr hu rfl (by rw [hi, hn]) (hK _ _ h)

set_option maxRecDepth 20000 in
set_option maxHeartbeats 4000000 in
theorem inodeok_any (a b k q z : Value) (n : Nd) (w : World) (hr : RdN w a b k q z n) (hl : SmN n) (ht : Tab w) :
    Calls Tryz.prog 9 #[NdV a b k q z n] w fun e w' => e = .returned (.bool n.ok) ∧ Below w.heap.size w w' := by
  have HE : Hid (n.ok = (inI n.id 0 1 && (Sr.ok ⟨n.xs, n.ys, n.h⟩ && (n.logP && (n.copP && n.snkP))))) := Nd.ok_prog n
  obtain ⟨w1, hw1⟩ : ∃ w1, w1 = w.alloc (.cells (ndA a b k q z n) 43) := ⟨_, rfl⟩
  have S1 : Hid (StB w1 w.heap.size 43 (ndA a b k q z n)) := by rw [hw1]; exact StB.new _ _ _
  have HB : Hid (Below w.heap.size w w1) := by rw [hw1]; exact (Below.refl _ _).alloc (Nat.le_refl _) _
  have HR : Hid (∀ wx, Below w.heap.size w wx → RdN wx a b k q z n) := fun wx B => hr.below B
  have HT : Hid (∀ wx, Below w.heap.size w wx → Tab wx) := fun wx B => ht.below B
  have C0 : Hid (∀ wx, Calls Tryz.prog 33 #[.int .i64 n.id] wx fun e w' => e = .returned (.bool (inI n.id 0 1)) ∧ w' = wx) := fun wx => iidok_any n.id wx
  have C1 : Hid (∀ wx, Below w.heap.size w wx → Calls Tryz.prog 35 #[NdV a b k q z n] wx fun e w' => e = .returned (SRV a b k n.h) ∧ Below wx.heap.size wx w') := fun wx B => istoreof_any a b k q z n wx (HR.out wx B)
  have C2 : Hid (∀ wx, Below w.heap.size w wx → Calls Tryz.prog 34 #[SRV a b k n.h] wx fun e w' => e = .returned (.bool (Sr.ok ⟨n.xs, n.ys, n.h⟩)) ∧ Below wx.heap.size wx w') := fun wx B => istoreok_any a b k n.xs n.ys n.h wx (HR.out wx B).ra (HR.out wx B).rb (HR.out wx B).rk (by have := hl.la; omega) (by have := hl.lb; omega) (by have := hl.lk; omega)
  have C3 : Hid (∀ wx, Below w.heap.size w wx → Calls Tryz.prog 36 #[NdV a b k q z n] wx fun e w' => e = .returned (.bool n.logP) ∧ Below wx.heap.size wx w') := fun wx B => ilogok_any a b k q z n wx (HR.out wx B) hl.ll (HT.out wx B)
  have C4 : Hid (∀ wx, Below w.heap.size w wx → Calls Tryz.prog 37 #[NdV a b k q z n] wx fun e w' => e = .returned (.bool n.copP) ∧ Below wx.heap.size wx w') := fun wx B => incopok_any a b k q z n wx (HR.out wx B) hl
  have C5 : Hid (∀ wx, Below w.heap.size w wx → Calls Tryz.prog 38 #[NdV a b k q z n] wx fun e w' => e = .returned (.bool n.snkP) ∧ Below wx.heap.size wx w') := fun wx B => insnkok_any a b k q z n wx (HR.out wx B) hl
  obtain ⟨y0, hy0⟩ : ∃ y0, y0 = inI n.id 0 1 := ⟨_, rfl⟩
  rw [← hy0] at HE
  simp only [← hy0] at C0
  clear hy0
  obtain ⟨y1, hy1⟩ : ∃ y1, y1 = Sr.ok ⟨n.xs, n.ys, n.h⟩ := ⟨_, rfl⟩
  rw [← hy1] at HE
  simp only [← hy1] at C2
  clear hy1
  obtain ⟨y2, hy2⟩ : ∃ y2, y2 = n.logP := ⟨_, rfl⟩
  rw [← hy2] at HE
  simp only [← hy2] at C3
  clear hy2
  obtain ⟨y3, hy3⟩ : ∃ y3, y3 = n.copP := ⟨_, rfl⟩
  rw [← hy3] at HE
  simp only [← hy3] at C4
  clear hy3
  obtain ⟨y4, hy4⟩ : ∃ y4, y4 = n.snkP := ⟨_, rfl⟩
  rw [← hy4] at HE
  simp only [← hy4] at C5
  clear hy4
  obtain ⟨y, hy⟩ : ∃ y, y = n.ok := ⟨_, rfl⟩
  rw [← hy] at HE ⊢
  clear hy hl ht HT
  obtain ⟨ao, ac, rfl⟩ := reads_form hr.ra
  obtain ⟨bo, bc, rfl⟩ := reads_form hr.rb
  obtain ⟨ko, kc, rfl⟩ := reads_form hr.rk
  obtain ⟨qo, qc, rfl⟩ := reads_form hr.rq
  obtain ⟨zo, zc, rfl⟩ := reads_form hr.rz
  clear hr HR
  unfold SRV srA at C1 C2
  unfold NdV at C1 C3 C4 C5
  unfold ndA S at hw1
  unfold NdV
  conv in ndA (.slice ao n.xs.length ac) _ _ _ _ _ => unfold ndA S
  go_enter Tryz.func9, Tryz.ntmps9
  go_upto_region 1 with fail
  rw [← hw1]
  clear hw1
  have p0 : w1.cell? ⟨w.heap.size, 0, none⟩ = some (.int .i64 n.id) := S1.out.cell 0 rfl
  go_wp2_with fail
  refine (C0.out w1).mono ?_
  rintro e w' ⟨rfl, hw⟩; subst w'
  clear C0 p0
  cases y0 with
  | false =>
    go_wp2
    go_ret
    exact ⟨ret_bool (by rw [HE.out]; simp), HB.out⟩
  | true =>
    go_wp2_with (refine wpList_getSG Tryz.isNd rfl _ rfl w.heap.size rfl (ndA (.slice ao n.xs.length ac) (.slice bo n.ys.length bc) (.slice ko n.h.ks.length kc) (.slice qo n.c.ts.length qc) (.slice zo n.s.ts.length zc) n) rfl S1.out ?_)
    refine (C1.out w1 HB.out).mono ?_
    rintro e w2 ⟨rfl, bx⟩
    replace S1 : Hid (StB w2 w.heap.size 43 (ndA (.slice ao n.xs.length ac) (.slice bo n.ys.length bc) (.slice ko n.h.ks.length kc) (.slice qo n.c.ts.length qc) (.slice zo n.s.ts.length zc) n)) := S1.out.below bx
    replace HB : Hid (Below w.heap.size w w2) := HB.out.trans (bx.mono HB.out.size)
    clear bx C1
    go_wp2_with fail
    refine (C2.out w2 HB.out).mono ?_
    rintro e w3 ⟨rfl, bx⟩
    replace S1 : Hid (StB w3 w.heap.size 43 (ndA (.slice ao n.xs.length ac) (.slice bo n.ys.length bc) (.slice ko n.h.ks.length kc) (.slice qo n.c.ts.length qc) (.slice zo n.s.ts.length zc) n)) := S1.out.below bx
    replace HB : Hid (Below w.heap.size w w3) := HB.out.trans (bx.mono HB.out.size)
    clear bx C2
    cases y1 with
    | false =>
      go_wp2
      go_ret
      exact ⟨ret_bool (by rw [HE.out]; simp), HB.out⟩
    | true =>
      go_wp2_with (refine wpList_getSG Tryz.isNd rfl _ rfl w.heap.size rfl (ndA (.slice ao n.xs.length ac) (.slice bo n.ys.length bc) (.slice ko n.h.ks.length kc) (.slice qo n.c.ts.length qc) (.slice zo n.s.ts.length zc) n) rfl S1.out ?_)
      refine (C3.out w3 HB.out).mono ?_
      rintro e w4 ⟨rfl, bx⟩
      replace S1 : Hid (StB w4 w.heap.size 43 (ndA (.slice ao n.xs.length ac) (.slice bo n.ys.length bc) (.slice ko n.h.ks.length kc) (.slice qo n.c.ts.length qc) (.slice zo n.s.ts.length zc) n)) := S1.out.below bx
      replace HB : Hid (Below w.heap.size w w4) := HB.out.trans (bx.mono HB.out.size)
      clear bx C3
      cases y2 with
      | false =>
        go_wp2
        go_ret
        exact ⟨ret_bool (by rw [HE.out]; simp), HB.out⟩
      | true =>
        go_wp2_with (refine wpList_getSG Tryz.isNd rfl _ rfl w.heap.size rfl (ndA (.slice ao n.xs.length ac) (.slice bo n.ys.length bc) (.slice ko n.h.ks.length kc) (.slice qo n.c.ts.length qc) (.slice zo n.s.ts.length zc) n) rfl S1.out ?_)
        refine (C4.out w4 HB.out).mono ?_
        rintro e w5 ⟨rfl, bx⟩
        replace S1 : Hid (StB w5 w.heap.size 43 (ndA (.slice ao n.xs.length ac) (.slice bo n.ys.length bc) (.slice ko n.h.ks.length kc) (.slice qo n.c.ts.length qc) (.slice zo n.s.ts.length zc) n)) := S1.out.below bx
        replace HB : Hid (Below w.heap.size w w5) := HB.out.trans (bx.mono HB.out.size)
        clear bx C4
        cases y3 with
        | false =>
          go_wp2
          go_ret
          exact ⟨ret_bool (by rw [HE.out]; simp), HB.out⟩
        | true =>
          go_wp2_with (refine wpList_getSG Tryz.isNd rfl _ rfl w.heap.size rfl (ndA (.slice ao n.xs.length ac) (.slice bo n.ys.length bc) (.slice ko n.h.ks.length kc) (.slice qo n.c.ts.length qc) (.slice zo n.s.ts.length zc) n) rfl S1.out ?_)
          refine (C5.out w5 HB.out).mono ?_
          rintro e w6 ⟨rfl, bx⟩
          replace S1 : Hid (StB w6 w.heap.size 43 (ndA (.slice ao n.xs.length ac) (.slice bo n.ys.length bc) (.slice ko n.h.ks.length kc) (.slice qo n.c.ts.length qc) (.slice zo n.s.ts.length zc) n)) := S1.out.below bx
          replace HB : Hid (Below w.heap.size w w6) := HB.out.trans (bx.mono HB.out.size)
          clear bx C5
          go_wp2
          go_ret
          exact ⟨ret_bool (by rw [HE.out]; simp), HB.out⟩
end Go.Proofs.YteooloceaoinlaaGreatDoor
/- What is answered is a right house, or none: so it isn't great; a house's variable in the state of a long walk. -/
namespace Go.Proofs.YteooloceaoinlaaGreatDoor
open Go.ChangeShapes Go.WideShapes Go.ChangeAt Go.RowKit

def Fine (m : Nd) : Prop := m = Nd.zero ∨ NdR m
theorem NdR.lens {n : Nd} (h : NdR n) : n.xs.length ≤ 8 ∧ n.ys.length ≤ 8 ∧ n.h.ks.length = 4 ∧ n.c.ts.length ≤ 8 ∧ n.s.ts.length ≤ 8 ∧ n.log.length ≤ 40000 := by
  obtain ⟨k1, k2, k3⟩ := bothOk_yes h.dk
  refine ⟨(blocksOk_len k1).2, (blocksOk_len k2).2, Hd.ok_len h.h, ?_, ?_, h.ll⟩
  · cases hc : n.c.unused with
    | true =>
      unfold Cp.unused at hc
      simp only [Bool.and_eq_true, decide_eq_true_eq] at hc
      omega
    | false =>
      have := h.c
      rw [Cp.ok_used hc] at this
      simp only [Bool.and_eq_true, inI, decide_eq_true_eq] at this
      omega
  · cases hc : n.s.unused with
    | true =>
      unfold Sn.unused at hc
      simp only [Bool.and_eq_true, decide_eq_true_eq] at hc
      omega
    | false =>
      have := h.s
      rw [Sn.ok_used hc] at this
      simp only [Bool.and_eq_true, inI, decide_eq_true_eq] at this
      omega
theorem Fine.sm {m : Nd} (h : Fine m) : SmN m := by
  rcases h with rfl | h
  · exact ⟨by decide, by decide, by decide, by decide, by decide, by decide⟩
  · have := h.lens
    exact ⟨by omega, by omega, by omega, by omega, by omega, by omega⟩
theorem Fine.len {m : Nd} (h : Fine m) : m.len ≤ 1048576 := by
  rcases h with rfl | h
  · decide
  · have := h.lens
    unfold Nd.len
    omega
theorem Fine.fall (n : Nd) (set : Int) : Fine (n.Fall set).1 := by
  unfold Nd.Fall
  split
  · rename_i ok
    have h := (Nd.ok_iff n).1 ok
    split
    · exact .inr (h.down set)
    · exact .inr h
  · exact .inl rfl
theorem Fine.rise (n : Nd) : Fine n.Rise.1 := by
  unfold Nd.Rise
  split
  · rename_i ok
    exact .inr ((Nd.ok_iff n).1 ok).rise.1
  · exact .inl rfl
theorem Tryz.isLNd : IsS 34 20 := ⟨⟨_, Tryz.underlying34⟩, by kernel_rfl⟩
theorem SmN.of {n : Nd} (h : n.len + n.log.length ≤ 1048576) : SmN n := by
  unfold Nd.len at h
  exact ⟨by omega, by omega, by omega, by omega, by omega, by omega⟩
/- A variable is made and holds what was answered. -/
theorem Sta.varS {w wx wy : World} {L : List Item} {t : TypeId} {cs ds : Array Value} (h : Sta w wx L) (s : StB wy wx.heap.size t cs) (G : (wx.alloc (.cells ds t)).grownBy wy (some wx.heap.size)) : Sta w wy (Blk wx.heap.size t cs :: L) := by
  have b : Below wx.heap.size wx wy := ((Below.refl _ _).alloc (Nat.le_refl _) _).grown G (by simp) (fun k e => by cases e; omega)
  refine h.add b (Blk wx.heap.size t cs) s (fun k hk => ?_)
  simp only [Blk, List.mem_singleton] at hk
  subst hk
  exact ⟨Nat.le_refl _, s.lt⟩
theorem Sta.ink {w wx wy : World} {L : List Item} {a b k q z : Value} {n : Nd} {i : Int} (h : Sta w wx L) (j : Nat) (e : L[j]? = some (NdI a b k q z n)) (o : MineN wy 0 a b k q z (n.inked i)) (m : Turned wx wy (own5 a b k q z n)) : Sta w wy (L.set j (NdI a b k q z (n.inked i))) :=
  h.turn j e m (NdI a b k q z (n.inked i)) (by
    show own5 a b k q z (n.inked i) = own5 a b k q z n
    have le : ∀ (v : Value) (xs : List Int) (j : Int), mineOf v (marks j xs.length) = mineOf v xs := fun v xs j => by unfold mineOf marks; simp
    unfold own5
    show blk a ++ (blk b ++ (blk k ++ (mineOf q (marks _ n.c.ts.length) ++ mineOf z (marks _ n.s.ts.length)))) = _
    rw [le, le]) o
end Go.Proofs.YteooloceaoinlaaGreatDoor
/- A house inside a block, behind a pointer to its first cell, its lists its own: what a hand on it leaves. -/
namespace Go.Proofs.YteooloceaoinlaaGreatDoor
open Go.ChangeShapes Go.WideShapes Go.ChangeAt Go.RowKit

structure NdB (w : World) (g off : Nat) (t : TypeId) (cs : Array Value) (a b k q z : Value) (n : Nd) : Prop where
  st : StB w g t cs
  sz : off + 20 ≤ cs.size
  el : ∀ j, j < 20 → cs[off + j]? = (ndA a b k q z n)[j]?
theorem NdB.below {w w' : World} {g off : Nat} {t : TypeId} {cs : Array Value} {a b k q z : Value} {n : Nd} (h : NdB w g off t cs a b k q z n) (B : Below w.heap.size w w') : NdB w' g off t cs a b k q z n := ⟨h.st.below B, h.sz, h.el⟩
theorem NdB.turned {w w' : World} {g off : Nat} {t : TypeId} {cs : Array Value} {a b k q z : Value} {n : Nd} {bs : List Nat} (h : NdB w g off t cs a b k q z n) (ht : Turned w w' bs) (hn : g ∉ bs) : NdB w' g off t cs a b k q z n := ⟨h.st.turned ht hn, h.sz, h.el⟩
theorem NdB.cell {w : World} {g off : Nat} {t : TypeId} {cs : Array Value} {a b k q z : Value} {n : Nd} (h : NdB w g off t cs a b k q z n) (j : Nat) (hj : j < 20) {x : Value} (e : (ndA a b k q z n)[j]? = some x) : w.cell? ⟨g, off + j, none⟩ = some x := h.st.cell (off + j) (by rw [h.el j hj, e])
theorem NdB.frozen {w : World} {g off : Nat} {t : TypeId} {cs : Array Value} {a b k q z : Value} {n : Nd} (h : NdB w g off t cs a b k q z n) (j : Nat) : w.frozen? ⟨g, off + j, none⟩ = false := h.st.frozen (off + j)
theorem NdB.put {w : World} {g off : Nat} {t : TypeId} {cs : Array Value} {a b k q z a' b' k' q' z' : Value} {n n' : Nd} (h : NdB w g off t cs a b k q z n) (j : Nat) (hj : j < 20) (x : Value) (e : (ndA a b k q z n).setIfInBounds j x = ndA a' b' k' q' z' n') :
    NdB (w.setCell ⟨g, off + j, none⟩ x) g off t (cs.setIfInBounds (off + j) x) a' b' k' q' z' n' := by
  refine ⟨h.st.put (off + j) x rfl, by rw [Array.size_setIfInBounds]; exact h.sz, fun i hi => ?_⟩
  rw [← e, Array.getElem?_setIfInBounds, Array.getElem?_setIfInBounds]
  by_cases hij : j = i
  · subst hij
    have h1 : off + j < cs.size := by have := h.sz; omega
    have h2 : j < (ndA a b k q z n).size := hj
    simp [h1, h2]
  · rw [if_neg (by omega), if_neg hij]
    exact h.el i hi
/- Nothing else of the block is otherwise. -/
structure Only (cs cs' : Array Value) (off : Nat) : Prop where
  sz : cs'.size = cs.size
  el : ∀ i, i < off ∨ off + 20 ≤ i → cs'[i]? = cs[i]?
theorem Only.refl (cs : Array Value) (off : Nat) : Only cs cs off := ⟨rfl, fun _ _ => rfl⟩
theorem Only.trans {cs ds es : Array Value} {off : Nat} (h : Only cs ds off) (h' : Only ds es off) : Only cs es off := ⟨h'.sz.trans h.sz, fun i hi => (h'.el i hi).trans (h.el i hi)⟩
theorem Only.put (cs : Array Value) (off j : Nat) (hj : j < 20) (x : Value) : Only cs (cs.setIfInBounds (off + j) x) off := ⟨Array.size_setIfInBounds, fun i hi => by rw [Array.getElem?_setIfInBounds_ne (by omega)]⟩
def lists5 (a b k q z : Value) : List Nat := (((blk a ++ blk b) ++ blk k) ++ blk q) ++ blk z
/- What a hand leaves: of the block just this house, of all else just its own lists; what is new lies in new memory. -/
structure Hop (w w' : World) (g off : Nat) (cs cs' : Array Value) (L L' : List Nat) : Prop where
  on : Only cs cs' off
  tu : Turned w w' (g :: L)
  nw : ∀ x ∈ L', x ∈ L ∨ w.heap.size ≤ x
theorem Hop.refl (w : World) (g off : Nat) (cs : Array Value) (L : List Nat) : Hop w w g off cs cs L L := ⟨Only.refl _ _, Turned.refl _ _, fun _ h => .inl h⟩
theorem Hop.trans {w w1 w2 : World} {g off : Nat} {cs cs1 cs2 : Array Value} {L L1 L2 : List Nat} (h : Hop w w1 g off cs cs1 L L1) (h' : Hop w1 w2 g off cs1 cs2 L1 L2) : Hop w w2 g off cs cs2 L L2 := by
  refine ⟨h.on.trans h'.on, ⟨h'.tu.os.trans h.tu.os, h'.tu.tape.trans h.tu.tape, h'.tu.output.trans h.tu.output, Nat.le_trans h.tu.size h'.tu.size, fun k hk hn => ?_⟩, fun x hx => ?_⟩
  · rw [h'.tu.block k (Nat.lt_of_lt_of_le hk h.tu.size) (fun e => ?_), h.tu.block k hk hn]
    simp only [List.mem_cons] at e hn
    rcases e with e | e
    · exact hn (.inl e)
    · rcases h.nw k e with e | e
      · exact hn (.inr e)
      · omega
  · rcases h'.nw x hx with e | e
    · exact h.nw x e
    · exact .inr (Nat.le_trans h.tu.size e)
theorem Hop.below {w w1 w2 : World} {g off : Nat} {cs cs1 : Array Value} {L L1 : List Nat} (h : Hop w w1 g off cs cs1 L L1) (B : Below w1.heap.size w1 w2) : Hop w w2 g off cs cs1 L L1 :=
  h.trans ⟨Only.refl _ _, Turned.below _ B, fun _ h => .inl h⟩
/- A house of its own, inside a block. -/
structure Hs (w : World) (g off : Nat) (t : TypeId) (cs : Array Value) (a b k q z : Value) (n : Nd) : Prop where
  nb : NdB w g off t cs a b k q z n
  ow : OwnN w 0 a b k q z n
  ty : t ≠ 2
theorem Hs.below {w w' : World} {g off : Nat} {t : TypeId} {cs : Array Value} {a b k q z : Value} {n : Nd} (h : Hs w g off t cs a b k q z n) (B : Below w.heap.size w w') : Hs w' g off t cs a b k q z n := ⟨h.nb.below B, h.ow.below B, h.ty⟩
/- A cell of it is written. -/
theorem OwnN.set {w : World} {base g j : Nat} {t : TypeId} {cs : Array Value} {a b k q z : Value} {n : Nd} (h : OwnN w base a b k q z n) (s : StB w g t cs) (ty : t ≠ 2) (x : Value) : OwnN (w.setCell ⟨g, j, none⟩ x) base a b k q z n :=
  ⟨h.oa.putBy s ty (grownSet w g j x), h.ob.putBy s ty (grownSet w g j x), h.ok.putBy s ty (grownSet w g j x), h.oq.putBy s ty (grownSet w g j x), h.oz.putBy s ty (grownSet w g j x), h.ap⟩
theorem hop_put (w : World) (g off : Nat) (cs : Array Value) (L : List Nat) (j : Nat) (hj : j < 20) (x : Value) : Hop w (w.setCell ⟨g, off + j, none⟩ x) g off cs (cs.setIfInBounds (off + j) x) L L :=
  ⟨Only.put cs off j hj x, (Turned.of_grown (grownSet w g (off + j) x)).sub (by simp), fun _ h => .inl h⟩
end Go.Proofs.YteooloceaoinlaaGreatDoor
