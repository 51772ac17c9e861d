/- A house inside a block, behind a pointer to its first cell, its lists its own: what a hand on it leaves. -/
import Derived.Test.YtlkkpolnllbljaaGreatDoorM11
import Derived.Test.YtlkkpolnllbljaaGreatDoorM12
import Derived.Test.YtlkkpolnllbljaaGreatDoorM5
import Derived.Test.YtlkkpolnllbljaaGreatDoorM7
import Derived.Test.YtlkkpolnllbljaaGreatDoorM9
import Derived.Test.YtlkkpolnllbljaaGreatDoorM21
import Derived.Test.YtlkkpolnllbljaaGreatDoorM18
import Derived.ChangeKeysEq
import Derived.Deep.OwnRows
import Derived.Test.YtlkkpolnllbljaaGreatDoorM16
namespace Go.Proofs.YtlkkpolnllbljaaGreatDoor
open Go.ChangeShapes Go.WideShapes Go.ChangeAt Go.RowKit

structure NdB (w : World) (g off : Nat) (t : TypeId) (cs : Array Value) (a b k q z : Value) (n : Nd) : Prop where
  st : StB w g t cs
  sz : off + 20 ≤ cs.size
  el : ∀ j, j < 20 → cs[off + j]? = (ndA a b k q z n)[j]?
theorem NdB.below {w w' : World} {g off : Nat} {t : TypeId} {cs : Array Value} {a b k q z : Value} {n : Nd} (h : NdB w g off t cs a b k q z n) (B : Below w.heap.size w w') : NdB w' g off t cs a b k q z n := ⟨h.st.below B, h.sz, h.el⟩
theorem NdB.turned {w w' : World} {g off : Nat} {t : TypeId} {cs : Array Value} {a b k q z : Value} {n : Nd} {bs : List Nat} (h : NdB w g off t cs a b k q z n) (ht : Turned w w' bs) (hn : g ∉ bs) : NdB w' g off t cs a b k q z n := ⟨h.st.turned ht hn, h.sz, h.el⟩
theorem NdB.cell {w : World} {g off : Nat} {t : TypeId} {cs : Array Value} {a b k q z : Value} {n : Nd} (h : NdB w g off t cs a b k q z n) (j : Nat) (hj : j < 20) {x : Value} (e : (ndA a b k q z n)[j]? = some x) : w.cell? ⟨g, off + j, none⟩ = some x := h.st.cell (off + j) (by rw [h.el j hj, e])
theorem NdB.frozen {w : World} {g off : Nat} {t : TypeId} {cs : Array Value} {a b k q z : Value} {n : Nd} (h : NdB w g off t cs a b k q z n) (j : Nat) : w.frozen? ⟨g, off + j, none⟩ = false := h.st.frozen (off + j)
theorem NdB.put {w : World} {g off : Nat} {t : TypeId} {cs : Array Value} {a b k q z a' b' k' q' z' : Value} {n n' : Nd} (h : NdB w g off t cs a b k q z n) (j : Nat) (hj : j < 20) (x : Value) (e : (ndA a b k q z n).setIfInBounds j x = ndA a' b' k' q' z' n') :
    NdB (w.setCell ⟨g, off + j, none⟩ x) g off t (cs.setIfInBounds (off + j) x) a' b' k' q' z' n' := by
  refine ⟨h.st.put (off + j) x rfl, by rw [Array.size_setIfInBounds]; exact h.sz, fun i hi => ?_⟩
  rw [← e, Array.getElem?_setIfInBounds, Array.getElem?_setIfInBounds]
  by_cases hij : j = i
  · subst hij
    have h1 : off + j < cs.size := by have := h.sz; omega
    have h2 : j < (ndA a b k q z n).size := hj
    simp [h1, h2]
  · rw [if_neg (by omega), if_neg hij]
    exact h.el i hi
/- Nothing else of the block is otherwise. -/
structure Only (cs cs' : Array Value) (off : Nat) : Prop where
  sz : cs'.size = cs.size
  el : ∀ i, i < off ∨ off + 20 ≤ i → cs'[i]? = cs[i]?
theorem Only.refl (cs : Array Value) (off : Nat) : Only cs cs off := ⟨rfl, fun _ _ => rfl⟩
theorem Only.trans {cs ds es : Array Value} {off : Nat} (h : Only cs ds off) (h' : Only ds es off) : Only cs es off := ⟨h'.sz.trans h.sz, fun i hi => (h'.el i hi).trans (h.el i hi)⟩
theorem Only.put (cs : Array Value) (off j : Nat) (hj : j < 20) (x : Value) : Only cs (cs.setIfInBounds (off + j) x) off := ⟨Array.size_setIfInBounds, fun i hi => by rw [Array.getElem?_setIfInBounds_ne (by omega)]⟩
def lists5 (a b k q z : Value) : List Nat := (((blk a ++ blk b) ++ blk k) ++ blk q) ++ blk z
/- What a hand leaves: of the block just this house, of all else just its own lists; what is new lies in new memory. -/
structure Hop (w w' : World) (g off : Nat) (cs cs' : Array Value) (L L' : List Nat) : Prop where
  on : Only cs cs' off
  tu : Turned w w' (g :: L)
  nw : ∀ x ∈ L', x ∈ L ∨ w.heap.size ≤ x
theorem Hop.refl (w : World) (g off : Nat) (cs : Array Value) (L : List Nat) : Hop w w g off cs cs L L := ⟨Only.refl _ _, Turned.refl _ _, fun _ h => .inl h⟩
theorem Hop.trans {w w1 w2 : World} {g off : Nat} {cs cs1 cs2 : Array Value} {L L1 L2 : List Nat} (h : Hop w w1 g off cs cs1 L L1) (h' : Hop w1 w2 g off cs1 cs2 L1 L2) : Hop w w2 g off cs cs2 L L2 := by
  refine ⟨h.on.trans h'.on, ⟨h'.tu.os.trans h.tu.os, h'.tu.tape.trans h.tu.tape, h'.tu.output.trans h.tu.output, Nat.le_trans h.tu.size h'.tu.size, fun k hk hn => ?_⟩, fun x hx => ?_⟩
  · rw [h'.tu.block k (Nat.lt_of_lt_of_le hk h.tu.size) (fun e => ?_), h.tu.block k hk hn]
    simp only [List.mem_cons] at e hn
    rcases e with e | e
    · exact hn (.inl e)
    · rcases h.nw k e with e | e
      · exact hn (.inr e)
      · omega
  · rcases h'.nw x hx with e | e
    · exact h.nw x e
    · exact .inr (Nat.le_trans h.tu.size e)
theorem Hop.below {w w1 w2 : World} {g off : Nat} {cs cs1 : Array Value} {L L1 : List Nat} (h : Hop w w1 g off cs cs1 L L1) (B : Below w1.heap.size w1 w2) : Hop w w2 g off cs cs1 L L1 :=
  h.trans ⟨Only.refl _ _, Turned.below _ B, fun _ h => .inl h⟩
/- A house of its own, inside a block. -/
structure Hs (w : World) (g off : Nat) (t : TypeId) (cs : Array Value) (a b k q z : Value) (n : Nd) : Prop where
  nb : NdB w g off t cs a b k q z n
  ow : OwnN w 0 a b k q z n
  ty : t ≠ 2
theorem Hs.below {w w' : World} {g off : Nat} {t : TypeId} {cs : Array Value} {a b k q z : Value} {n : Nd} (h : Hs w g off t cs a b k q z n) (B : Below w.heap.size w w') : Hs w' g off t cs a b k q z n := ⟨h.nb.below B, h.ow.below B, h.ty⟩
/- A cell of it is written. -/
theorem OwnN.set {w : World} {base g j : Nat} {t : TypeId} {cs : Array Value} {a b k q z : Value} {n : Nd} (h : OwnN w base a b k q z n) (s : StB w g t cs) (ty : t ≠ 2) (x : Value) : OwnN (w.setCell ⟨g, j, none⟩ x) base a b k q z n :=
  ⟨h.oa.putBy s ty (grownSet w g j x), h.ob.putBy s ty (grownSet w g j x), h.ok.putBy s ty (grownSet w g j x), h.oq.putBy s ty (grownSet w g j x), h.oz.putBy s ty (grownSet w g j x), h.ap⟩
theorem hop_put (w : World) (g off : Nat) (cs : Array Value) (L : List Nat) (j : Nat) (hj : j < 20) (x : Value) : Hop w (w.setCell ⟨g, off + j, none⟩ x) g off cs (cs.setIfInBounds (off + j) x) L L :=
  ⟨Only.put cs off j hj x, (Turned.of_grown (grownSet w g (off + j) x)).sub (by simp), fun _ h => .inl h⟩
end Go.Proofs.YtlkkpolnllbljaaGreatDoor
/- Houses by the model: l15Down. -/
namespace Go.Proofs.YtlkkpolnllbljaaGreatDoor
open Go.ChangeShapes Go.WideShapes Go.ChangeAt Go.RowKit

/- What is apart, two by two. -/
theorem pair5 {a b k q z : Value} : [z, q, k, b, a].Pairwise apart ↔ (apart z q ∧ apart z k ∧ apart z b ∧ apart z a) ∧ (apart q k ∧ apart q b ∧ apart q a) ∧ (apart k b ∧ apart k a) ∧ apart b a := by
  simp [List.pairwise_cons]
theorem apart_sym {u v : Value} (h : apart u v) : apart v u := ⟨h.2, h.1⟩
theorem apart_nil (u : Value) (n c : Nat) : apart u (.slice none n c) := ⟨by cases h : u.ownBlock with | none => exact .inl rfl | some x => exact .inr (by simp [Value.ownBlock]), .inl rfl⟩
/- The disk's two lists are new ones. -/
theorem OwnN.disk {w w' : World} {a b k q z u v : Value} {n n' : Nd} (h : OwnN w 0 a b k q z n) (B : Below w.heap.size w w') (o : OwnD w' w.heap.size u v n'.xs n'.ys) (hk : n'.h.ks = n.h.ks) (hq : n'.c.ts = n.c.ts) (hz : n'.s.ts = n.s.ts) : OwnN w' 0 u v k q z n' := by
  obtain ⟨⟨p1, p2, p3, p4⟩, ⟨p5, p6, p7⟩, ⟨p8, p9⟩, p0⟩ := pair5.1 h.ap
  have ak := fun y hy => (blk_new h.ok y hy).2
  have aq := fun y hy => (blk_new h.oq y hy).2
  have az := fun y hy => (blk_new h.oz y hy).2
  exact ⟨o.1.mono (Nat.zero_le _), o.2.1.mono (Nat.zero_le _), by rw [hk]; exact h.ok.below B, by rw [hq]; exact h.oq.below B, by rw [hz]; exact h.oz.below B,
    pair5.2 ⟨⟨p1, p2, apart_sym (apart_old az o.2.1), apart_sym (apart_old az o.1)⟩, ⟨p5, apart_sym (apart_old aq o.2.1), apart_sym (apart_old aq o.1)⟩, ⟨apart_sym (apart_old ak o.2.1), apart_sym (apart_old ak o.1)⟩, apart_sym o.2.2⟩⟩
/- It copies nothing, it takes nothing. -/
theorem OwnN.drop {w : World} {a b k q z : Value} {n : Nd} (h : OwnN w 0 a b k q z n) : OwnN w 0 a b k (.slice none 0 0) z { n with c := Cp.zero } := by
  obtain ⟨⟨p1, p2, p3, p4⟩, ⟨p5, p6, p7⟩, ⟨p8, p9⟩, p0⟩ := pair5.1 h.ap
  exact ⟨h.oa, h.ob, h.ok, Own.nil _ _, h.oz, pair5.2 ⟨⟨apart_nil _ _ _, p2, p3, p4⟩, ⟨apart_sym (apart_nil _ _ _), apart_sym (apart_nil _ _ _), apart_sym (apart_nil _ _ _)⟩, ⟨p8, p9⟩, p0⟩⟩
theorem OwnN.close {w : World} {a b k q z : Value} {n : Nd} (h : OwnN w 0 a b k q z n) : OwnN w 0 a b k q (.slice none 0 0) { n with s := Sn.zero } := by
  obtain ⟨⟨p1, p2, p3, p4⟩, ⟨p5, p6, p7⟩, ⟨p8, p9⟩, p0⟩ := pair5.1 h.ap
  exact ⟨h.oa, h.ob, h.ok, h.oq, Own.nil _ _, pair5.2 ⟨⟨apart_sym (apart_nil _ _ _), apart_sym (apart_nil _ _ _), apart_sym (apart_nil _ _ _), apart_sym (apart_nil _ _ _)⟩, ⟨p5, p6, p7⟩, ⟨p8, p9⟩, p0⟩⟩
/- A cell is written: all that stands of a house. -/
theorem Hs.put {w : World} {g off : Nat} {t : TypeId} {cs : Array Value} {a b k q z a' b' k' q' z' : Value} {n n' : Nd} (h : Hs w g off t cs a b k q z n) (j : Nat) (hj : j < 20) (x : Value) (e : (ndA a b k q z n).setIfInBounds j x = ndA a' b' k' q' z' n') (o : OwnN w 0 a' b' k' q' z' n') :
    Hs (w.setCell ⟨g, off + j, none⟩ x) g off t (cs.setIfInBounds (off + j) x) a' b' k' q' z' n' := ⟨h.nb.put j hj x e, o.set h.nb.st h.ty x, h.ty⟩

/- A house falls. -/

theorem NdB.as {w : World} {g off : Nat} {t : TypeId} {cs : Array Value} {a b k q z a' b' k' q' z' : Value} {n n' : Nd} (h : NdB w g off t cs a b k q z n) (e : ndA a b k q z n = ndA a' b' k' q' z' n') : NdB w g off t cs a' b' k' q' z' n' := ⟨h.st, h.sz, fun j hj => by rw [← e]; exact h.el j hj⟩

end Go.Proofs.YtlkkpolnllbljaaGreatDoor
/- What the model shows of a record: l1Ints, l5Show, ShowRecord; and reads of a number: l1Digits, l1Read. -/
namespace Go.Proofs.YtlkkpolnllbljaaGreatDoor
open Go.ChangeShapes Go.WideShapes Go.ChangeAt Go.RowKit

theorem showR_ints (r : Rc) : showR r = recW ++ 32 :: intsB [r.e, r.s, r.t, r.n] := by simp [showR, intsB]

set_option maxRecDepth 20000 in
set_option maxHeartbeats 1000000 in
theorem sints_any (g : Nat) (xs : List Int) (w : World) (hl : xs.length = 4) (hx : ∀ x ∈ xs, -9223372036854775808 ≤ x ∧ x ≤ 9223372036854775807)
    (hc : ∀ j, j < 4 → w.cell? ⟨g, j, none⟩ = some (.int .i64 (xs.getD j 0))) :
    Calls Tryz.prog 179 #[.slice (some ⟨g, 0, none⟩) 4 4] w fun e w' => e = .returned (S (intsB xs)) ∧ Below w.heap.size w w' := by
  have HX : Hid (∀ x ∈ xs, -9223372036854775808 ≤ x ∧ x ≤ 9223372036854775807) := hx
  have HC : Hid (∀ j, j < 4 → w.cell? ⟨g, j, none⟩ = some (.int .i64 (xs.getD j 0))) := hc
  clear hx hc
  unfold S
  go_enter Tryz.func179, Tryz.ntmps179
  go_wp2
  go_loopw [3, 4] (fun s i wr => ∃ j : Nat, (j : Int) ≤ 4 ∧ i = .int .i64 j ∧ s = .string ⟨(fourB xs j).toArray⟩ ∧ Hid (Below w.heap.size w wr)) (fun _ i _ => 4 - (intOf i).toNat)
  case atStart => exact ⟨0, by omega, rfl, rfl, Below.refl _ _⟩
  case round =>
    obtain ⟨j, hj, rfl, rfl, HB⟩ := hrel
    by_cases hlt : (j : Int) < 4
    · have hj4 : j < xs.length := by omega
      have hmem : xs.getD j 0 ∈ xs := by simp [hj4]
      have hb := HX.out _ hmem
      have hcell : wr.cell? ⟨g, j, none⟩ = some (.int .i64 (xs.getD j 0)) := by
        have h1 := HC.out j (by omega)
        rw [HB.out.cell (p := ⟨g, j, none⟩) (World.block_lt_of_cell? w _ h1)]
        exact h1
      have c1 := fun wx => sint_any (xs.getD j 0) wx hb.1 hb.2
      have hdl := decI_len _ hb.1 hb.2
      have HS : Hid (fourB xs (j + 1) = _) := fourB_step xs j hj4
      have hfl : (fourB xs j).length ≤ 88 := by
        unfold fourB
        split
        · simp
        · have := intsB_len (xs.take j) (fun x hx => HX.out x (List.mem_of_mem_take hx))
          simp at this
          omega
      obtain ⟨x, hxe⟩ : ∃ x, x = xs.getD j 0 := ⟨_, rfl⟩
      rw [← hxe] at hcell hdl HS
      simp only [← hxe] at c1
      obtain ⟨d, hde⟩ : ∃ d, d = decI x := ⟨_, rfl⟩
      rw [← hde] at hdl HS
      simp only [← hde] at c1
      obtain ⟨f, hfe⟩ : ∃ f, f = fourB xs j := ⟨_, rfl⟩
      have HF0 : Hid (j = 0 → f = []) := fun h => by rw [hfe, h]; rfl
      rw [← hfe] at hfl HS ⊢
      unfold S at c1
      have hsz : (⟨f.toArray⟩ : ByteArray).size = f.length := rfl
      have hdz : (⟨d.toArray⟩ : ByteArray).size = d.length := rfl
      clear hxe hde hfe hmem hb
      by_cases h0 : 0 < (j : Int)
      · have HE : Hid (fourB xs (j + 1) = f ++ [32] ++ d) := by rw [Hid, HS.out, if_neg (by omega)]
        have ha := app f [32]
        have ha2 := app (f ++ [32]) d
        have hz2 : (⟨(f ++ [32]).toArray⟩ : ByteArray).size = f.length + 1 := by rw [bsize]; simp
        clear HS
        go_wp2_with fail
        refine (c1 _).mono ?_
        rintro e w1 ⟨rfl, b1⟩
        replace HB : Hid (Below w.heap.size w w1) := HB.out.trans (b1.mono HB.out.size)
        clear b1 c1
        go_wp2
        go_roundw
        case rel => exact ⟨j + 1, by omega, by go_num, by simp [HE.out], HB⟩
        case measure => simp [intOf]; omega
      · obtain rfl : j = 0 := by omega
        have HE : Hid (fourB xs (0 + 1) = f ++ d) := by rw [Hid, HS.out, if_pos rfl, HF0.out rfl]
        have ha := app f d
        clear HS
        go_wp2_with fail
        refine (c1 _).mono ?_
        rintro e w1 ⟨rfl, b1⟩
        replace HB : Hid (Below w.heap.size w w1) := HB.out.trans (b1.mono HB.out.size)
        clear b1 c1
        go_wp2
        go_roundw
        case rel => exact ⟨0 + 1, by omega, by go_num, by simp [HE.out], HB⟩
        case measure => simp [intOf]
    · have HE : Hid (fourB xs j = intsB xs) := by
        have : j = 4 := by omega
        subst this
        unfold Hid fourB
        rw [if_neg (by omega), List.take_of_length_le (by omega)]
      rw [HE.out]
      go_wp2
      go_ret
      exact ⟨rfl, HB.out⟩
end Go.Proofs.YtlkkpolnllbljaaGreatDoor
/- Houses by the model: l15Rise, l1Min. -/
namespace Go.Proofs.YtlkkpolnllbljaaGreatDoor
open Go.ChangeShapes Go.WideShapes Go.ChangeAt Go.RowKit
end Go.Proofs.YtlkkpolnllbljaaGreatDoor
/- What stands while a house's box is worked on. -/
namespace Go.Proofs.YtlkkpolnllbljaaGreatDoor
open Go.ChangeShapes Go.WideShapes Go.ChangeAt Go.RowKit

/- What stands while a house's box is worked on: the box, the place of the answer. -/
structure FS (w wx : World) (cs : Array Value) : Prop where
  p : StB wx w.heap.size 42 cs
  r : StB wx (w.heap.size + 1) 42 zeroNd
  b : Below w.heap.size w wx
theorem FS.start (w : World) (cs : Array Value) : FS w ((w.alloc (.cells cs 42)).alloc (.cells zeroNd 42)) cs := by
  have r1 := StB.new (w.alloc (.cells cs 42)) 42 zeroNd
  rw [World.size_alloc] at r1
  exact ⟨(StB.new w _ _).alloc _, r1, ((Below.refl _ _).alloc (Nat.le_refl _) _).alloc (by simp) _⟩
theorem FS.below {w wx wy : World} {cs : Array Value} (h : FS w wx cs) (B : Below wx.heap.size wx wy) : FS w wy cs := ⟨h.p.below B, h.r.below B, h.b.trans (B.mono h.b.size)⟩
theorem FS.put {w wx : World} {cs ds : Array Value} (h : FS w wx cs) (j : Nat) (x : Value) (e : cs.setIfInBounds j x = ds) : FS w (wx.setCell ⟨w.heap.size, j, none⟩ x) ds :=
  ⟨h.p.put j x e, h.r.other _ _ (by show w.heap.size + 1 ≠ w.heap.size; omega), h.b.setCell (Nat.le_refl _) _⟩
theorem FS.lt {w wx : World} {cs : Array Value} (h : FS w wx cs) : w.heap.size + 1 < wx.heap.size := h.r.lt
end Go.Proofs.YtlkkpolnllbljaaGreatDoor
/- A house inside a block: several of its cells are written, one after the other. -/
namespace Go.Proofs.YtlkkpolnllbljaaGreatDoor
open Go.ChangeShapes Go.WideShapes Go.ChangeAt Go.RowKit

def putsW (g off : Nat) (l : List (Nat × Value)) (w : World) : World := l.foldl (fun w p => w.setCell ⟨g, off + p.1, none⟩ p.2) w
def putsA (l : List (Nat × Value)) (A : Array Value) : Array Value := l.foldl (fun A p => A.setIfInBounds p.1 p.2) A
theorem putsA_size (l : List (Nat × Value)) : ∀ A : Array Value, (putsA l A).size = A.size := by
  induction l with
  | nil => intro A; rfl
  | cons p l ih => intro A; show (putsA l (A.setIfInBounds p.1 p.2)).size = _; rw [ih, Array.size_setIfInBounds]
theorem puts_nb {g off : Nat} {t : TypeId} (ty : t ≠ 2) (l : List (Nat × Value)) : ∀ {w : World} {cs A : Array Value}, StB w g t cs → off + 20 ≤ cs.size → A.size = 20 → (∀ j, j < 20 → cs[off + j]? = A[j]?) → (∀ p ∈ l, p.1 < 20) →
    ∃ cs', StB (putsW g off l w) g t cs' ∧ off + 20 ≤ cs'.size ∧ (∀ j, j < 20 → cs'[off + j]? = (putsA l A)[j]?) ∧ (∀ L, Hop w (putsW g off l w) g off cs cs' L L) ∧ (∀ base a b k q z n, OwnN w base a b k q z n → OwnN (putsW g off l w) base a b k q z n) := by
  induction l with
  | nil => intro w cs A s z _ e _; exact ⟨cs, s, z, e, fun L => Hop.refl _ _ _ _ _, fun _ _ _ _ _ _ _ h => h⟩
  | cons p l ih =>
    intro w cs A s z hA e hl
    have hp : p.1 < 20 := hl p (by simp)
    have s1 := s.put (off + p.1) p.2 rfl
    obtain ⟨cs', h1, h2, h3, h4, h5⟩ := ih (A := A.setIfInBounds p.1 p.2) s1 (by rw [Array.size_setIfInBounds]; exact z) (by rw [Array.size_setIfInBounds]; exact hA) (fun j hj => by
      rw [Array.getElem?_setIfInBounds, Array.getElem?_setIfInBounds]
      by_cases hij : p.1 = j
      · subst hij
        have q1 : off + p.1 < cs.size := by omega
        have q2 : p.1 < A.size := by omega
        simp [q1, q2]
      · rw [if_neg (by omega), if_neg hij]
        exact e j hj) (fun q hq => hl q (by simp [hq]))
    refine ⟨cs', h1, h2, h3, fun L => (hop_put w g off cs L p.1 hp p.2).trans (h4 L), fun base a b k q z n h => h5 base a b k q z n (h.set s ty p.2)⟩
/- All at once: of a house. -/
theorem Hs.puts {w : World} {g off : Nat} {t : TypeId} {cs : Array Value} {a b k q z a' b' k' q' z' : Value} {n n' : Nd} (h : NdB w g off t cs a b k q z n) (ty : t ≠ 2) (l : List (Nat × Value)) (hl : ∀ p ∈ l, p.1 < 20)
    (e : putsA l (ndA a b k q z n) = ndA a' b' k' q' z' n') (o : OwnN w 0 a' b' k' q' z' n') :
    ∃ cs', Hs (putsW g off l w) g off t cs' a' b' k' q' z' n' ∧ ∀ L, Hop w (putsW g off l w) g off cs cs' L L := by
  obtain ⟨cs', h1, h2, h3, h4, h5⟩ := puts_nb ty l h.st h.sz rfl h.el hl
  exact ⟨cs', ⟨⟨h1, h2, fun j hj => by rw [h3 j hj, e]⟩, h5 _ _ _ _ _ _ _ o, ty⟩, h4⟩
/- Its lists are others from here on: what is new lies in new memory. -/
theorem Hop.lists {w w' : World} {g off : Nat} {cs : Array Value} {L L' : List Nat} (B : Below w.heap.size w w') (h : ∀ x ∈ L', x ∈ L ∨ w.heap.size ≤ x) : Hop w w' g off cs cs L L' := ⟨Only.refl _ _, Turned.below _ B, h⟩
theorem Hop.fewer {w w' : World} {g off : Nat} {cs cs' : Array Value} {L L1 L2 : List Nat} (H : Hop w w' g off cs cs' L L1) (h : ∀ x ∈ L2, x ∈ L1) : Hop w w' g off cs cs' L L2 := ⟨H.on, H.tu, fun x hx => H.nw x (h x hx)⟩
theorem mem5 {a b k q z : Value} {x : Nat} : x ∈ lists5 a b k q z ↔ x ∈ blk a ∨ x ∈ blk b ∨ x ∈ blk k ∨ x ∈ blk q ∨ x ∈ blk z := by
  unfold lists5
  simp only [List.mem_append]
  constructor
  · rintro ((((h | h) | h) | h) | h)
    · exact .inl h
    · exact .inr (.inl h)
    · exact .inr (.inr (.inl h))
    · exact .inr (.inr (.inr (.inl h)))
    · exact .inr (.inr (.inr (.inr h)))
  · rintro (h | h | h | h | h)
    · exact .inl (.inl (.inl (.inl h)))
    · exact .inl (.inl (.inl (.inr h)))
    · exact .inl (.inl (.inr h))
    · exact .inl (.inr h)
    · exact .inr h
theorem blk_nil (n c : Nat) : blk (.slice none n c) = [] := rfl
/- One list is a new one, the others stay. -/
theorem OwnN.newQ {w w' : World} {a b k q z v : Value} {n n' : Nd} (h : OwnN w 0 a b k q z n) (B : Below w.heap.size w w') (o : Own w' w.heap.size v n'.c.ts) (hx : n'.xs = n.xs) (hy : n'.ys = n.ys) (hk : n'.h.ks = n.h.ks) (hz : n'.s.ts = n.s.ts) : OwnN w' 0 a b k v z n' := by
  obtain ⟨⟨p1, p2, p3, p4⟩, ⟨p5, p6, p7⟩, ⟨p8, p9⟩, p0⟩ := pair5.1 h.ap
  have ak := fun y hy => (blk_new h.ok y hy).2
  have aa := fun y hy => (blk_new h.oa y hy).2
  have ab := fun y hy => (blk_new h.ob y hy).2
  have az := fun y hy => (blk_new h.oz y hy).2
  exact ⟨by rw [hx]; exact h.oa.below B, by rw [hy]; exact h.ob.below B, by rw [hk]; exact h.ok.below B, o.mono (Nat.zero_le _), by rw [hz]; exact h.oz.below B,
    pair5.2 ⟨⟨apart_sym (apart_old az o), p2, p3, p4⟩, ⟨apart_old ak o, apart_old ab o, apart_old aa o⟩, ⟨p8, p9⟩, p0⟩⟩
theorem OwnN.newZ {w w' : World} {a b k q z v : Value} {n n' : Nd} (h : OwnN w 0 a b k q z n) (B : Below w.heap.size w w') (o : Own w' w.heap.size v n'.s.ts) (hx : n'.xs = n.xs) (hy : n'.ys = n.ys) (hk : n'.h.ks = n.h.ks) (hq : n'.c.ts = n.c.ts) : OwnN w' 0 a b k q v n' := by
  obtain ⟨⟨p1, p2, p3, p4⟩, ⟨p5, p6, p7⟩, ⟨p8, p9⟩, p0⟩ := pair5.1 h.ap
  have ak := fun y hy => (blk_new h.ok y hy).2
  have aa := fun y hy => (blk_new h.oa y hy).2
  have ab := fun y hy => (blk_new h.ob y hy).2
  have aq := fun y hy => (blk_new h.oq y hy).2
  exact ⟨by rw [hx]; exact h.oa.below B, by rw [hy]; exact h.ob.below B, by rw [hk]; exact h.ok.below B, by rw [hq]; exact h.oq.below B, o.mono (Nat.zero_le _),
    pair5.2 ⟨⟨apart_old aq o, apart_old ak o, apart_old ab o, apart_old aa o⟩, ⟨p5, p6, p7⟩, ⟨p8, p9⟩, p0⟩⟩
theorem OwnN.newK {w w' : World} {a b k q z v : Value} {n n' : Nd} (h : OwnN w 0 a b k q z n) (B : Below w.heap.size w w') (o : Own w' w.heap.size v n'.h.ks) (hx : n'.xs = n.xs) (hy : n'.ys = n.ys) (hq : n'.c.ts = n.c.ts) (hz : n'.s.ts = n.s.ts) : OwnN w' 0 a b v q z n' := by
  obtain ⟨⟨p1, p2, p3, p4⟩, ⟨p5, p6, p7⟩, ⟨p8, p9⟩, p0⟩ := pair5.1 h.ap
  have aq := fun y hy => (blk_new h.oq y hy).2
  have aa := fun y hy => (blk_new h.oa y hy).2
  have ab := fun y hy => (blk_new h.ob y hy).2
  have az := fun y hy => (blk_new h.oz y hy).2
  exact ⟨by rw [hx]; exact h.oa.below B, by rw [hy]; exact h.ob.below B, o.mono (Nat.zero_le _), by rw [hq]; exact h.oq.below B, by rw [hz]; exact h.oz.below B,
    pair5.2 ⟨⟨p1, apart_sym (apart_old az o), p3, p4⟩, ⟨apart_sym (apart_old aq o), p6, p7⟩, ⟨apart_old ab o, apart_old aa o⟩, p0⟩⟩
/- The same house by another name. -/
theorem OwnN.as {w : World} {base : Nat} {a b k q z : Value} {n n' : Nd} (h : OwnN w base a b k q z n) (hx : n'.xs = n.xs) (hy : n'.ys = n.ys) (hk : n'.h.ks = n.h.ks) (hq : n'.c.ts = n.c.ts) (hz : n'.s.ts = n.s.ts) : OwnN w base a b k q z n' :=
  ⟨by rw [hx]; exact h.oa, by rw [hy]; exact h.ob, by rw [hk]; exact h.ok, by rw [hq]; exact h.oq, by rw [hz]; exact h.oz, h.ap⟩
theorem OwnN.dropQ {w : World} {base : Nat} {a b k q z : Value} {n n' : Nd} (h : OwnN w base a b k q z n) (hx : n'.xs = n.xs) (hy : n'.ys = n.ys) (hk : n'.h.ks = n.h.ks) (hq : n'.c.ts = []) (hz : n'.s.ts = n.s.ts) : OwnN w base a b k (.slice none 0 0) z n' := by
  obtain ⟨⟨p1, p2, p3, p4⟩, ⟨p5, p6, p7⟩, ⟨p8, p9⟩, p0⟩ := pair5.1 h.ap
  exact ⟨by rw [hx]; exact h.oa, by rw [hy]; exact h.ob, by rw [hk]; exact h.ok, by rw [hq]; exact Own.nil _ _, by rw [hz]; exact h.oz, pair5.2 ⟨⟨apart_nil _ _ _, p2, p3, p4⟩, ⟨apart_sym (apart_nil _ _ _), apart_sym (apart_nil _ _ _), apart_sym (apart_nil _ _ _)⟩, ⟨p8, p9⟩, p0⟩⟩
theorem OwnN.dropZ {w : World} {base : Nat} {a b k q z : Value} {n n' : Nd} (h : OwnN w base a b k q z n) (hx : n'.xs = n.xs) (hy : n'.ys = n.ys) (hk : n'.h.ks = n.h.ks) (hq : n'.c.ts = n.c.ts) (hz : n'.s.ts = []) : OwnN w base a b k q (.slice none 0 0) n' := by
  obtain ⟨⟨p1, p2, p3, p4⟩, ⟨p5, p6, p7⟩, ⟨p8, p9⟩, p0⟩ := pair5.1 h.ap
  exact ⟨by rw [hx]; exact h.oa, by rw [hy]; exact h.ob, by rw [hk]; exact h.ok, by rw [hq]; exact h.oq, by rw [hz]; exact Own.nil _ _, pair5.2 ⟨⟨apart_sym (apart_nil _ _ _), apart_sym (apart_nil _ _ _), apart_sym (apart_nil _ _ _), apart_sym (apart_nil _ _ _)⟩, ⟨p5, p6, p7⟩, ⟨p8, p9⟩, p0⟩⟩
end Go.Proofs.YtlkkpolnllbljaaGreatDoor
/- What stands while a house that was copied is worked on behind a pointer: the box, the place of the answer, the copy. -/
namespace Go.Proofs.YtlkkpolnllbljaaGreatDoor
open Go.ChangeShapes Go.WideShapes Go.ChangeAt Go.RowKit

theorem NdB.whole {w : World} {g : Nat} {t : TypeId} {cs : Array Value} {a b k q z : Value} {n : Nd} (h : NdB w g 0 t cs a b k q z n) (hs : cs.size = 20) : StB w g t (ndA a b k q z n) := by
  have e : cs = ndA a b k q z n := by
    apply Array.ext_getElem?
    intro i
    by_cases hi : i < 20
    · have := h.el i hi
      rwa [Nat.zero_add] at this
    · rw [Array.getElem?_eq_none (by omega), Array.getElem?_eq_none (by show 20 ≤ i; omega)]
  have := h.st
  rwa [e] at this
theorem OwnN.up {w : World} {base : Nat} {a b k q z : Value} {n : Nd} (h : OwnN w 0 a b k q z n) (hb : ∀ x ∈ lists5 a b k q z, base ≤ x) : OwnN w base a b k q z n :=
  ⟨h.oa.up (fun x e => hb x (mem5.2 (.inl (by simp [blk, e])))), h.ob.up (fun x e => hb x (mem5.2 (.inr (.inl (by simp [blk, e]))))), h.ok.up (fun x e => hb x (mem5.2 (.inr (.inr (.inl (by simp [blk, e])))))), h.oq.up (fun x e => hb x (mem5.2 (.inr (.inr (.inr (.inl (by simp [blk, e]))))))), h.oz.up (fun x e => hb x (mem5.2 (.inr (.inr (.inr (.inr (by simp [blk, e]))))))), h.ap⟩
structure CS (w wx : World) (ps : Array Value) (g : Nat) (cs : Array Value) (a b k q z : Value) (n : Nd) : Prop where
  f : FS w wx ps
  hs : Hs wx g 0 42 cs a b k q z n
  sz : cs.size = 20
  lg : w.heap.size + 2 ≤ g
  ll : ∀ x ∈ lists5 a b k q z, w.heap.size + 2 ≤ x
theorem CS.start {w wx wy : World} {ps : Array Value} {a b k q z : Value} {n : Nd} (f : FS w wx ps) (o : OwnN wx (w.heap.size + 2) a b k q z n) (s : StB wy wx.heap.size 42 (ndA a b k q z n)) (G : (wx.alloc (.cells zeroNd 42)).grownBy wy (some wx.heap.size)) :
    CS w wy ps wx.heap.size (ndA a b k q z n) a b k q z n := by
  have b4 : Below wx.heap.size wx wy := ((Below.refl _ _).alloc (Nat.le_refl _) _).grown G (by simp) (fun k e => by cases e; omega)
  refine ⟨f.below b4, ⟨⟨s, Nat.le_of_eq rfl, fun j hj => by rw [Nat.zero_add]⟩, (o.mono (Nat.zero_le _)).below b4, by decide⟩, rfl, f.lt, fun x hx => ?_⟩
  rcases mem5.1 hx with h | h | h | h | h
  · exact (blk_new o.oa x h).1
  · exact (blk_new o.ob x h).1
  · exact (blk_new o.ok x h).1
  · exact (blk_new o.oq x h).1
  · exact (blk_new o.oz x h).1
theorem CS.below {w wx wy : World} {ps : Array Value} {g : Nat} {cs : Array Value} {a b k q z : Value} {n : Nd} (h : CS w wx ps g cs a b k q z n) (B : Below wx.heap.size wx wy) : CS w wy ps g cs a b k q z n := ⟨h.f.below B, h.hs.below B, h.sz, h.lg, h.ll⟩
theorem CS.hop {w wx wy : World} {ps : Array Value} {g : Nat} {cs cs' : Array Value} {a b k q z a' b' k' q' z' : Value} {n n' : Nd} (h : CS w wx ps g cs a b k q z n) (H : Hs wy g 0 42 cs' a' b' k' q' z' n') (O : Hop wx wy g 0 cs cs' (lists5 a b k q z) (lists5 a' b' k' q' z')) : CS w wy ps g cs' a' b' k' q' z' n' := by
  have hn : ∀ x ∈ g :: lists5 a b k q z, w.heap.size + 2 ≤ x := fun x hx => by
    rcases List.mem_cons.1 hx with rfl | hx
    · exact h.lg
    · exact h.ll x hx
  have hsz := h.f.b.size
  refine ⟨⟨h.f.p.turned O.tu (fun e => by have := hn _ e; omega), h.f.r.turned O.tu (fun e => by have := hn _ e; omega), h.f.b.trans (O.tu.belowAt (fun x hx => by have := hn x hx; omega) hsz)⟩, H, O.on.sz.trans h.sz, h.lg, fun x hx => ?_⟩
  rcases O.nw x hx with e | e
  · exact h.ll x e
  · have := h.f.lt; omega
theorem CS.whole {w wx : World} {ps : Array Value} {g : Nat} {cs : Array Value} {a b k q z : Value} {n : Nd} (h : CS w wx ps g cs a b k q z n) : StB wx g 42 (ndA a b k q z n) := h.hs.nb.whole h.sz
theorem CS.own {w wx : World} {ps : Array Value} {g : Nat} {cs : Array Value} {a b k q z : Value} {n : Nd} (h : CS w wx ps g cs a b k q z n) : OwnN wx (w.heap.size + 2) a b k q z n := h.hs.ow.up h.ll
theorem OwnN.one {w : World} {base : Nat} {a b k q z : Value} {n : Nd} (h : OwnN w base a b k q z n) : (ndA a b k q z n).all (·.oneCell') = true := ndA_one n (reads_one h.oa.reads) (reads_one h.ob.reads) (reads_one h.ok.reads) (reads_one h.oq.reads) (reads_one h.oz.reads)
end Go.Proofs.YtlkkpolnllbljaaGreatDoor
/- Houses by the model: Fallen, Risen. -/
namespace Go.Proofs.YtlkkpolnllbljaaGreatDoor
open Go.ChangeShapes Go.WideShapes Go.ChangeAt Go.RowKit

theorem OwnN.nil (w : World) (base : Nat) : OwnN w base (.slice none 0 0) (.slice none 0 0) (.slice none 0 0) (.slice none 0 0) (.slice none 0 0) Nd.zero :=
  ⟨Own.nil _ _, Own.nil _ _, Own.nil _ _, Own.nil _ _, Own.nil _ _, pair5.2 ⟨⟨apart_nil _ _ _, apart_nil _ _ _, apart_nil _ _ _, apart_nil _ _ _⟩, ⟨apart_nil _ _ _, apart_nil _ _ _, apart_nil _ _ _⟩, ⟨apart_nil _ _ _, apart_nil _ _ _⟩, apart_nil _ _ _⟩⟩
theorem setOk_two {s : Int} (h : setOk s = true) : 0 ≤ s ∧ s < 256 := by
  unfold setOk at h
  simpa using h
theorem Nd.ok_both {n : Nd} (h : n.ok = true) : bothOk n.xs n.ys = true := ((Nd.ok_iff n).1 h).dk

end Go.Proofs.YtlkkpolnllbljaaGreatDoor
/- A struct is built in a region that draws its order. -/
namespace Go.Proofs.YtlkkpolnllbljaaGreatDoor
open Go.ChangeShapes Go.WideShapes Go.ChangeAt Go.RowKit

theorem gs_build {ops : Array Oper} {C : World → Prop} {E : Oper → Act → Option GSpec} {R : World → World → Prop} {Q : Act → Known → Prop} {o : Oper} {rest : List Oper} {a : Act} {G : Known} (hs : E o a = none) (hg : o.guard = none) (t : TypeId) (fs : Array (Nat × Operand)) (ho : o.op = .build t fs) (cells : Array Value)
    (hc : Tryz.prog.built t (fs.map fun (i, x) => (i, a.eval x)).toList = some cells)
    (k : GivS Tryz.prog ops C E R Q rest (a.put o.dst (.agg cells)) G) : GivS Tryz.prog ops C E R Q (o :: rest) a G := by
  refine gs_plain hs (fun K hK => ?_)
  have hw : Region.wanted o (yielded ops a.tmps) = true := by simp [Region.wanted, hg]
  rw [if_pos hw]
  refine ⟨.agg cells, fun w _ => ?_, hK _ k⟩
  unfold Oper.quietAt execOp
  simp only [ho, Sem.run_bind, run_build w t _ cells hc, Result.andThen_ok]
  exact ⟨rfl, rfl⟩
end Go.Proofs.YtlkkpolnllbljaaGreatDoor
/- What ShowRecord of the program answers. -/
namespace Go.Proofs.YtlkkpolnllbljaaGreatDoor
open Go.ChangeShapes Go.WideShapes Go.ChangeAt Go.RowKit

def partS (xs : List Int) (j : Nat) : Bs := recW ++ (xs.take j).flatMap (fun x => 32 :: decI x)
theorem partS_step (xs : List Int) (j : Nat) (h : j < xs.length) : partS xs (j + 1) = partS xs j ++ (32 :: decI (xs.getD j 0)) := by
  unfold partS
  have e : xs.getD j 0 = xs[j] := by simp [h]
  rw [List.take_succ_eq_append_getElem h, List.flatMap_append, e]
  simp
theorem partS_all (r : Rc) : partS [r.e, r.s, r.t, r.n] 4 = showR r := by simp [partS, showR]
theorem itoa_pos {x : Int} (h : 0 ≤ x) : Lib.itoa x = decI x := by
  obtain ⟨n, rfl⟩ : ∃ n : Nat, x = n := ⟨x.toNat, by omega⟩
  rw [itoa_dec, decI_nat]
theorem partS_len (xs : List Int) (h : ∀ x ∈ xs, 0 ≤ x ∧ x ≤ 100000) : ∀ j, (partS xs j).length ≤ 6 + 8 * j := by
  intro j
  induction j with
  | zero => simp [partS, recW]
  | succ j ih =>
    by_cases hj : j < xs.length
    · have hx := h (xs.getD j 0) (by simp [hj])
      have hl := dec_len 5 (xs.getD j 0).toNat (by omega)
      rw [partS_step xs j hj, List.length_append, List.length_cons, decI_pos hx.1]
      omega
    · have : partS xs (j + 1) = partS xs j := by unfold partS; rw [List.take_of_length_le (by omega), List.take_of_length_le (by omega)]
      rw [this]; omega

theorem Tryz.infoJ : (Tryz.prog.info? 2).map (fun i => (i.zero, i.size, i.bytes)) = some (some (.int .i64 0), 1, 8) := by kernel_rfl
theorem Tryz.cellsJ : Tryz.prog.cellsOf 2 = 1 := by kernel_rfl
theorem Tryz.plainJ : Tryz.prog.plainKey 2 = true := by kernel_rfl
theorem idx4 (cs : Array Value) (j : Nat) (hj : j < 4) (v : Value) (hv : cs[j]? = some v) (w : World) : (Instr.index 168 (.agg cs) (.int .i64 (j : Int))).run Tryz.prog w = .ok v w := by
  obtain ⟨i0, hi, hz0, hz1, hz2⟩ := info_parts Tryz.infoJ
  have h1 : (0 : Int) ≤ (j : Int) ∧ (j : Int) < ((4 : Nat) : Int) := by omega
  have h2 : ((j : Int)).toNat * 1 = j := by omega
  simp only [Instr.index, asIntOf, run_underlying Tryz.underlying168, Sem.run_bind, Sem.run_pure, Result.andThen_ok, h1, and_self, if_true, run_sizeOf w hi, Tryz.cellsJ, h2]
  exact run_part_plain w Tryz.plainJ hv
end Go.Proofs.YtlkkpolnllbljaaGreatDoor
/- What Noted of the model and of the program answer. -/
namespace Go.Proofs.YtlkkpolnllbljaaGreatDoor
open Go.ChangeShapes Go.WideShapes Go.ChangeAt Go.RowKit

theorem fit_of_ok {r : Rc} (h : r.ok = true) : r.Fit := by
  have := (Rc.ok_iff r).1 h
  unfold Rc.Fit
  omega
theorem note_not {log : Bs} {r : Rc} (h : r.ok = false ∨ 40000 < log.length + (framed (showR r)).length) : noteY log r = false ∧ noteS log r = log := by
  have : noteY log r = false := by
    unfold noteY
    rcases h with h | h
    · simp [h]
    · have : ¬ log.length + (framed (showR r)).length ≤ 40000 := by omega
      simp [this]
  exact ⟨this, by simp [noteS, this]⟩
theorem note_yes {log : Bs} {r : Rc} (h : r.ok = true) (h2 : log.length + (framed (showR r)).length ≤ 40000) : noteY log r = true ∧ noteS log r = log ++ framed (showR r) := by
  have : noteY log r = true := by simp [noteY, h, h2]
  exact ⟨this, by simp [noteS, this]⟩
end Go.Proofs.YtlkkpolnllbljaaGreatDoor
/- Disks: the model's Written and NewDisk. -/
namespace Go.Proofs.YtlkkpolnllbljaaGreatDoor
open Go.ChangeShapes Go.WideShapes Go.ChangeAt Go.RowKit

theorem ownZeros (w : World) (base k : Nat) (h8 : k ≤ 8) (hb : base ≤ w.heap.size) : Own (w.alloc (.cells (madeCells #[Value.int .i64 0] k) 2)) base (.slice (some ⟨w.heap.size, 0, none⟩) k k) (List.replicate k 0) := by
  have hsz : (madeCells #[Value.int .i64 0] k).size = k := by
    have := congrArg List.length (zeros_eq k)
    simpa using this
  have := World.ownsRow_lit (base := base) (e := 2) (size := 1) w (madeCells #[Value.int .i64 0] k) k hb (by unfold maxLen; omega) (by rw [hsz]; omega)
  unfold Own
  rw [← zeros_eq, List.length_replicate]
  exact this

theorem twoZeros (w : World) (o : Obj) (k : Nat) (h8 : k ≤ 8) :
    Own ((((w.alloc o).alloc (.cells (madeCells #[.int .i64 0] k) 2)).alloc (.cells (madeCells #[.int .i64 0] k) 2)).drew) w.heap.size (.slice (some ⟨w.heap.size + 1, 0, none⟩) k k) (List.replicate k 0) ∧
    Own ((((w.alloc o).alloc (.cells (madeCells #[.int .i64 0] k) 2)).alloc (.cells (madeCells #[.int .i64 0] k) 2)).drew) w.heap.size (.slice (some ⟨w.heap.size + 1 + 1, 0, none⟩) k k) (List.replicate k 0) ∧
    Below w.heap.size w ((((w.alloc o).alloc (.cells (madeCells #[.int .i64 0] k) 2)).alloc (.cells (madeCells #[.int .i64 0] k) 2)).drew) := by
  refine ⟨?_, ?_, below_drewN ((((Below.refl _ _).alloc (Nat.le_refl _) _).alloc (by simp) _).alloc (by simp; omega) _) 1⟩
  · have := (ownZeros (w.alloc o) w.heap.size k h8 (by simp)).below (belowAlloc _ (.cells (madeCells #[.int .i64 0] k) 2))
    show Own (((w.alloc o).alloc _).alloc _) _ _ _
    simpa using this
  · have := (ownZeros ((w.alloc o).alloc (.cells (madeCells #[.int .i64 0] k) 2)) w.heap.size k h8 (by simp; omega))
    show Own (((w.alloc o).alloc _).alloc _) _ _ _
    simpa using this
end Go.Proofs.YtlkkpolnllbljaaGreatDoor
/- The program's Written, Flushed and Lost. -/
namespace Go.Proofs.YtlkkpolnllbljaaGreatDoor
open Go.ChangeShapes Go.WideShapes Go.ChangeAt Go.RowKit

/- 'copy' of a list onto one of the call's own that is as long. -/
theorem run_copyL (w : World) (ty : TypeId) (u v : Value) (xs ys : List Int) (base : Nat) (ou : Own w base u xs) (rv : Reads w v ys) (hl : ys.length = xs.length) (h1 : 1 ≤ xs.length) :
    ∃ w', (Builtin.copy_ #[22, 22] ty #[u, v]).run Tryz.prog w = .ok (goInt xs.length) w' ∧ Own w' base u ys ∧ w.grownBy w' u.ownBlock := by
  rcases ou.2 with ⟨_, h0⟩ | ⟨g, cap, cur, rfl, hb, hg, hnc, hcm, hcs, ht⟩
  · omega
  · obtain ⟨ao, c2, rfl, _, _, hc⟩ := rv
    rcases hc with e | ⟨b, off, rfl, hcell⟩
    · subst e; simp at hl; omega
    · have hsz : (Tryz.prog.info? 2).map (·.size) = some 1 := by
        obtain ⟨i0, hi, hz0, hz1, hz2⟩ := info_parts Tryz.infoI
        simp [hi, hz1]
      have hsrc : ∀ j z, (ys.map (Value.int .i64))[j]? = some z → w.cell? ((⟨b, off, none⟩ : Addr).add j) = some z := by
        intro j z hj
        have hlt : j < ys.length := by
          rcases Nat.lt_or_ge j ys.length with h | h
          · exact h
          · rw [List.getElem?_eq_none (by simpa using h)] at hj; cases hj
        rw [show (⟨b, off, none⟩ : Addr).add j = ⟨b, off + j, none⟩ by unfold Addr.add; split <;> simp_all]
        rw [hcell j hlt]
        simp [List.getD, hlt] at hj ⊢
        exact hj
      have hone : ∀ z ∈ ys.map (Value.int .i64), z.oneCell' = true := by
        intro z hz
        obtain ⟨x, _, rfl⟩ := List.mem_map.1 hz
        rfl
      have hcz : cur.size = cap := by simpa using hcs
      have hrun := run_copy_row (P := Tryz.prog) w 22 22 ty 2 g 0 xs.length cap ⟨b, off, none⟩ ys.length c2 cur _ (ys.map (Value.int .i64)) Tryz.underlying22 hsz hg (by simp [hl]) hsrc (by simp; omega) hone
      rw [show goInt ((ys.map (Value.int .i64)).length : Nat) = goInt (xs.length : Nat) by simp [hl]] at hrun
      refine ⟨_, hrun, ⟨by simp, .inr ⟨g, cap, _, by rw [hl], hb, setRow_heap w g _ _ _ _ hg, by omega, hcm, ?_, ?_⟩⟩, ?_⟩
      · simp; omega
      · simp [hl]
      · exact grownRow w g _

theorem wpList_copyL {ops : Array Oper} {rest : List Oper} {o : Oper} {a : Act} {w : World} {Q : Exit → Act → World → Prop} (hgd : o.guard = none) (d s : Operand)
    (ho : o.op = .call { callee := .builtin .copy, args := #[d, s], argTypes := #[22, 22] }) (u v : Value) (xs ys : List Int) (base : Nat) (hd : a.eval d = u) (hs : a.eval s = v)
    (ou : Own w base u xs) (rv : Reads w v ys) (hl : ys.length = xs.length) (h1 : 1 ≤ xs.length)
    (h : ∀ w', Own w' base u ys → w.grownBy w' u.ownBlock → wpList Tryz.prog ops Q rest (a.put o.dst (goInt xs.length)) w') : wpList Tryz.prog ops Q (o :: rest) a w := by
  refine wpList_plain hgd fun K hK => ?_
  obtain ⟨w', hrun, h2, h3⟩ := run_copyL w o.type u v xs ys base ou rv hl h1
  unfold Oper.wp
  simp [execOp, ho, resolve, invoke, builtin, hd, hs, hrun, Result.andThen]
  exact hK _ _ (h w' h2 h3)

theorem step_copyL {ops : Array Oper} {o : Oper} {a : Act} {w : World} {K : Act → World → Prop} {Q : Exit → Act → World → Prop} {E : Prop} (hgd : o.guard = none) (d s : Operand)
    (ho : o.op = .call { callee := .builtin .copy, args := #[d, s], argTypes := #[22, 22] }) (u v : Value) (xs ys : List Int) (base : Nat) (hd : a.eval d = u) (hs : a.eval s = v)
    (ou : Own w base u xs) (rv : Reads w v ys) (hl : ys.length = xs.length) (h1 : 1 ≤ xs.length)
    (h : ∀ w', Own w' base u ys → w.grownBy w' u.ownBlock → K (a.put o.dst (goInt xs.length)) w') : if Region.wanted o (yielded ops a.tmps) = true then Oper.wp Tryz.prog o a w K Q else E := by
  have hw : Region.wanted o (yielded ops a.tmps) = true := by simp [Region.wanted, hgd]
  rw [if_pos hw]
  obtain ⟨w', hrun, h2, h3⟩ := run_copyL w o.type u v xs ys base ou rv hl h1
  unfold Oper.wp
  simp [execOp, ho, resolve, invoke, builtin, hd, hs, hrun, Result.andThen]
  exact h w' h2 h3

set_option maxRecDepth 20000 in
set_option maxHeartbeats 1000000 in
theorem written_any (u v : Value) (xs ys : List Int) (i x : Int) (w : World) (h : Reads w u xs) (h' : Reads w v ys) (gx : xs.length ≤ 1099511627776) (gy : ys.length ≤ 1099511627776) :
    Calls Tryz.prog 264 #[.agg #[u, v], .int .i64 i, .int .i64 x] w fun e w' => ∃ a b, e = .returned (.tuple #[.agg #[a, b], .bool (wrB xs ys i x)]) ∧ OwnD w' w.heap.size a b (wrK xs ys) (wrN xs ys i x) ∧ Below w.heap.size w w' := by
  obtain ⟨w2, hw2⟩ : ∃ w2, w2 = (w.alloc (.cells #[u, v] 36)).alloc (.cells #[.slice none 0 0, .slice none 0 0] 36) := ⟨_, rfl⟩
  have HB : Hid (Boxes w w2 u v) := by rw [hw2]; exact Boxes.start w u v
  have b2 := HB.out.2.2.1
  have c1 := diskOk_any u v xs ys w2 (h.below b2 (Nat.le_refl _)) (h'.below b2 (Nat.le_refl _)) gx gy
  by_cases hb : bothOk xs ys = true
  · have e1 : wrB xs ys i x = putB ys i x := by simp [wrB, hb]
    have e2 : wrK xs ys = xs := by simp [wrK, hb]
    have e3 : wrN xs ys i x = putI ys i x := by simp [wrN, hb]
    rw [e1, e2, e3]
    have hx1 := (blocksOk_len (bothOk_yes hb).1).1
    have c2 : ∀ w', Below w.heap.size w w' → _ := fun w' b => put_any v ys i x w' (h'.below b (Nat.le_refl _)) gy
    have c3 : ∀ w', Below w.heap.size w w' → _ := fun w' b => fresh_any u xs w' (h.below b (Nat.le_refl _)) hx1 gx
    obtain ⟨zs, hz⟩ : ∃ zs, zs = putI ys i x := ⟨_, rfl⟩
    obtain ⟨pb, hpb⟩ : ∃ pb, pb = putB ys i x := ⟨_, rfl⟩
    simp only [← hz, ← hpb] at c2 ⊢
    rw [hb] at c1
    clear hb e1 e2 e3 hz hpb h h' b2 hx1
    go_enter Tryz.func264, Tryz.ntmps264
    go_wp2_with fail
    rw [← hw2]
    clear hw2
    refine c1.mono ?_
    rintro e w3 ⟨rfl, b3⟩
    replace HB : Hid (Boxes w w3 u v) := HB.out.below b3
    have q0 := HB.out.1.cell0
    have q1 := HB.out.1.cell1
    clear b3 c1
    go_wp2_with fail
    refine (c2 _ HB.out.2.2.1).mono ?_
    rintro e w4 ⟨b, rfl, o4, b4⟩
    have HS : Hid (w.heap.size + 2 ≤ w3.heap.size ∧ w3.heap.size ≤ w4.heap.size) := ⟨HB.out.2.2.2, b4.size⟩
    replace HB : Hid (Boxes w w4 u v) := HB.out.below b4
    replace q0 := HB.out.1.cell0
    clear b4 c2 q1
    go_wp2_with fail
    refine (c3 _ HB.out.2.2.1).mono ?_
    rintro e w5 ⟨a, rfl, o5, b5⟩
    have hap := apart_of o4 o5 (Nat.le_refl _)
    replace o4 := o4.below b5
    replace HB : Hid (Boxes w w5 u v) := HB.out.below b5
    have p5 := HB.out.2.1
    obtain ⟨ao, ca, hea⟩ := o5.reads.form
    obtain ⟨bo, cb, heb⟩ := o4.reads.form
    subst hea heb
    have HO : Hid (Own w5 w4.heap.size _ xs ∧ Own w5 w3.heap.size _ zs ∧ apart _ _) := ⟨o5, o4, hap.symm⟩
    clear b5 o4 o5 hap c3 q0
    go_wp2_with (refine wpList_putP rfl _ _ rfl (w.heap.size + 1) _ _ _ _ rfl rfl rfl rfl p5 ?_; intro w6 p6 g6)
    refine bodyPost_ret (results_pair2 rfl _ _ (w.heap.size + 1) _ _ _ rfl rfl p6) rfl ?_
    exact ⟨_, _, rfl, HB.out.done g6 HO.out.1 HO.out.2.1 (Nat.le_trans HS.out.1 HS.out.2) HS.out.1 HO.out.2.2⟩
  · have hb' : bothOk xs ys = false := by simpa using hb
    have e1 : wrB xs ys i x = false := by simp [wrB, hb']
    have e2 : wrK xs ys = [] := by simp [wrK, hb']
    have e3 : wrN xs ys i x = [] := by simp [wrN, hb']
    rw [e1, e2, e3]
    rw [hb'] at c1
    clear hb hb' b2 e1 e2 e3 h h'
    go_enter Tryz.func264, Tryz.ntmps264
    go_wp2_with fail
    rw [← hw2]
    clear hw2
    refine c1.mono ?_
    rintro e w3 ⟨rfl, b3⟩
    replace HB : Hid (Boxes w w3 u v) := HB.out.below b3
    have p3 := HB.out.2.1
    clear b3 c1
    go_wp2_with (refine wpList_putP rfl _ _ rfl (w.heap.size + 1) _ _ _ _ rfl rfl rfl rfl p3 ?_; intro w5 p5 g5)
    refine bodyPost_ret (results_pair2 rfl _ _ (w.heap.size + 1) _ _ _ rfl rfl p5) rfl ?_
    exact ⟨_, _, rfl, ownNil2 _ _, HB.out.2.2.1.grown g5 HB.out.2.2.1.size (fun k e => by cases e; omega)⟩

theorem apart_slice {g n cap : Nat} {z : Value} (h : apart (.slice (some ⟨g, 0, none⟩) n cap) z) : z.ownBlock = none ∨ z.ownBlock ≠ some g := h.2

set_option maxRecDepth 20000 in
set_option maxHeartbeats 1000000 in
theorem flushed_any (u v : Value) (xs ys : List Int) (w : World) (h : Reads w u xs) (h' : Reads w v ys) (gx : xs.length ≤ 1099511627776) (gy : ys.length ≤ 1099511627776) :
    Calls Tryz.prog 254 #[.agg #[u, v]] w fun e w' => ∃ a b, e = .returned (.agg #[a, b]) ∧ OwnD w' w.heap.size a b (flN xs ys) (flN xs ys) ∧ Below w.heap.size w w' := by
  obtain ⟨w2, hw2⟩ : ∃ w2, w2 = (w.alloc (.cells #[u, v] 36)).alloc (.cells #[.slice none 0 0, .slice none 0 0] 36) := ⟨_, rfl⟩
  have HB : Hid (Boxes w w2 u v) := by rw [hw2]; exact Boxes.start w u v
  have b2 := HB.out.2.2.1
  have c1 := diskOk_any u v xs ys w2 (h.below b2 (Nat.le_refl _)) (h'.below b2 (Nat.le_refl _)) gx gy
  by_cases hb : bothOk xs ys = true
  · have HD : Hid (flN xs ys = ys) := by simp [Hid, flN, hb]
    obtain ⟨k1, k2, k3⟩ := bothOk_yes hb
    have hx1 := (blocksOk_len k1).1
    have hy1 := (blocksOk_len k2).1
    have c3 : ∀ w', Below w.heap.size w w' → _ := fun w' b => freshDisk_any u v xs ys w' (h.below b (Nat.le_refl _)) (h'.below b (Nat.le_refl _)) hx1 hy1 gx gy
    rw [hb] at c1
    have HL : Hid (ys.length = xs.length ∧ 1 ≤ xs.length) := ⟨k3.symm, hx1⟩
    clear b2 hb k1 k2 k3 hx1 hy1 h h'
    go_enter Tryz.func254, Tryz.ntmps254
    go_wp2_with fail
    rw [← hw2]
    clear hw2
    refine c1.mono ?_
    rintro e w3 ⟨rfl, b3⟩
    replace HB : Hid (Boxes w w3 u v) := HB.out.below b3
    have p3 := HB.out.1
    clear b3 c1
    go_wp2_with (refine wpList_getP rfl _ rfl w.heap.size rfl _ _ p3 ?_)
    refine (c3 _ HB.out.2.2.1).mono ?_
    rintro e w4 ⟨a, b, rfl, o4, b4⟩
    have HS : Hid (w.heap.size + 2 ≤ w3.heap.size) := HB.out.2.2.2
    have hs4 := Nat.le_trans HS.out b4.size
    replace HB : Hid (Boxes w w4 u v) := HB.out.below b4
    have ha1 := o4.1.reads.one
    have hb1 := o4.2.1.reads.one
    obtain ⟨g, ca, hea, hgl⟩ := World.ownsRow.form o4.1 (by have := HL.out.2; omega)
    obtain ⟨hg1, hg2⟩ := o4.1.ltBlock hea
    have HO : Hid (OwnD w4 w3.heap.size a b xs ys) := o4
    have hab : a.ownBlock = some g := by rw [hea]; rfl
    have HG : Hid (a.ownBlock = some g ∧ w3.heap.size ≤ g ∧ g < w4.heap.size) := ⟨hab, hg1, hg2⟩
    clear b4 o4 p3 c3 hgl hea hab hg1 hg2
    go_wp2_with (first
      | (refine wpList_putP rfl _ _ rfl w4.heap.size _ _ _ _ rfl rfl ha1 hb1 (Pair.new w4 _ _ _) ?_; intro w5 p5 g5; have hg5 : w4.grownBy w5 (some w4.heap.size) := (grown_alloc w4 _ _).trans g5; have HB5 : Hid (Boxes w w5 u v ∧ OwnD w5 w3.heap.size a b xs ys) := ⟨HB.out.kept hg5 hs4, HO.out.1.keptNew hg5, HO.out.2.1.keptNew hg5, HO.out.2.2⟩; have e0 := p5.cell0; have e1 := p5.cell1; clear g5 hg5)
      | (refine wpList_copyL rfl _ _ rfl a b xs ys w3.heap.size rfl rfl HB5.out.2.1 HB5.out.2.2.1.reads HL.out.1 HL.out.2 ?_; intro w6 o6 g6; rw [HG.out.1] at g6; have HB6 : Hid (Boxes w w6 u v ∧ OwnD w6 w3.heap.size a b ys ys) := ⟨HB5.out.1.kept g6 (by have := HG.out; have := HS.out; omega), o6, HB5.out.2.2.1.kept g6 (by have := HB5.out.2.2.2.2; rw [HG.out.1] at this; exact this), HB5.out.2.2.2⟩; have p6 := p5.kept g6 (by have := HG.out; simp; omega); have p7 := HB6.out.1.2.1; clear g6 o6)
      | (refine wpList_getP rfl _ rfl w4.heap.size rfl _ _ p6 ?_)
      | (refine wpList_putP rfl _ _ rfl (w.heap.size + 1) _ _ _ _ rfl rfl ha1 hb1 p7 ?_; intro w7 p8 g8))
    refine bodyPost_ret (results_pair rfl _ _ (w.heap.size + 1) _ _ rfl p8) rfl ?_
    rw [HD.out]
    exact ⟨_, _, rfl, HB6.out.1.done g8 HB6.out.2.1 HB6.out.2.2.1 HS.out HS.out HB6.out.2.2.2⟩
  · have hb' : bothOk xs ys = false := by simpa using hb
    have HD : Hid (flN xs ys = []) := by simp [Hid, flN, hb']
    rw [hb'] at c1
    clear b2 hb hb' h h'
    go_enter Tryz.func254, Tryz.ntmps254
    go_wp2_with fail
    rw [← hw2]
    clear hw2
    refine c1.mono ?_
    rintro e w3 ⟨rfl, b3⟩
    replace HB : Hid (Boxes w w3 u v) := HB.out.below b3
    have p3 := HB.out.2.1
    clear b3 c1
    go_wp2_with (refine wpList_putP rfl _ _ rfl (w.heap.size + 1) _ _ _ _ rfl rfl rfl rfl p3 ?_; intro w5 p5 g5)
    refine bodyPost_ret (results_pair rfl _ _ (w.heap.size + 1) _ _ rfl p5) rfl ?_
    rw [HD.out]
    exact ⟨_, _, rfl, ownNil2 _ _, HB.out.2.2.1.grown g5 HB.out.2.2.1.size (fun k e => by cases e; omega)⟩
end Go.Proofs.YtlkkpolnllbljaaGreatDoor
