/- A list of the call's own, or an empty one wherever it points to: what is answered where nothing was copied. -/
import Derived.Test.YteooloceaoinlaaDoorSta
import Derived.Test.YteooloceaoinlaaDoorM5
import Derived.Test.YteooloceaoinlaaDoorM16
import Derived.Test.YteooloceaoinlaaDoorM2
import Derived.ArgAppend
import Derived.Test.YteooloceaoinlaaDoorM14
namespace Go.Proofs.YteooloceaoinlaaDoor
open Go.ChangeShapes Go.WideShapes Go.ChangeAt Go.RowKit

def Mine (w : World) (base : Nat) (v : Value) (xs : List Int) : Prop := Own w base v xs ∨ (xs = [] ∧ ∃ ao cap, v = .slice ao 0 cap ∧ cap ≤ maxLen ∧ (ao = none → cap = 0))
theorem Own.mine {w : World} {base : Nat} {v : Value} {xs : List Int} (h : Own w base v xs) : Mine w base v xs := .inl h
theorem Mine.reads {w : World} {base : Nat} {v : Value} {xs : List Int} (h : Mine w base v xs) : Reads w v xs := by
  rcases h with h | ⟨rfl, ao, cap, rfl, h1, h2⟩
  · exact h.reads
  · exact ⟨ao, cap, rfl, Nat.zero_le _, ⟨h1, h2⟩, .inl rfl⟩
theorem Reads.mine {w : World} {base : Nat} {v : Value} (h : Reads w v []) : Mine w base v [] := by
  obtain ⟨ao, cap, rfl, -, ⟨h1, h2⟩, -⟩ := h
  exact .inr ⟨rfl, ao, cap, rfl, h1, h2⟩
theorem Mine.mono {w : World} {base base' : Nat} {v : Value} {xs : List Int} (h : Mine w base v xs) (hb : base' ≤ base) : Mine w base' v xs := h.imp (fun h => h.mono hb) id
theorem Mine.below {w w' : World} {base : Nat} {v : Value} {xs : List Int} (h : Mine w base v xs) (b : Below w.heap.size w w') : Mine w' base v xs := h.imp (fun h => h.below b) id
theorem Mine.keptLt {w w' : World} {base g : Nat} {v : Value} {xs : List Int} (h : Mine w base v xs) (hg : w.grownBy w' (some g)) (hb : g < base) : Mine w' base v xs := h.imp (fun h => h.keptLt hg hb) id
theorem Mine.setLt {w : World} {base g : Nat} {v : Value} {xs : List Int} (h : Mine w base v xs) (hb : g < base) (j : Nat) (x : Value) : Mine (w.setCell ⟨g, j, none⟩ x) base v xs := h.imp (fun h => h.setLt hb j x) id
theorem Mine.putBy {w w' : World} {base g : Nat} {v : Value} {xs : List Int} {t : TypeId} {cs : Array Value} (h : Mine w base v xs) (h' : StB w g t cs) (hne : t ≠ 2) (b : w.grownBy w' (some g)) : Mine w' base v xs := h.imp (fun h => h.putBy h' hne b) id
theorem Mine.set {w : World} {base g j : Nat} {v : Value} {xs : List Int} {t : TypeId} {cs : Array Value} (h : Mine w base v xs) (h' : StB w g t cs) (hne : t ≠ 2) (x : Value) : Mine (w.setCell ⟨g, j, none⟩ x) base v xs := h.putBy h' hne (grownSet w g j x)
theorem Mine.drew {w w' : World} {base n : Nat} {v : Value} {xs : List Int} (h : Mine w base v xs) (e : w' = w.drewN n) : Mine w' base v xs := h.imp (fun h => h.drew_eq e) id
theorem Mine.own {w : World} {base : Nat} {v : Value} {xs : List Int} (h : Mine w base v xs) (hx : xs ≠ []) : Own w base v xs := h.resolve_right (fun h => hx h.1)
/- What is left of new memory where all that lies below is as it was. -/
theorem Mine.lower {w w' : World} {base B : Nat} {v : Value} {xs : List Int} (h : Mine w base v xs) (b : Below B w w') (hB : ∀ k, v.ownBlock = some k → k < w.heap.size → k < B) : Mine w' base v xs := by
  refine h.imp (fun h => Own.frame h (fun k hk => ?_)) id
  simp at hk
  exact b.block k (hB k hk (h.lt k hk).2)

theorem Reads.later {w w' : World} {v : Value} (h : Reads w v []) : Reads w' v [] := by
  obtain ⟨ao, cap, rfl, h0, h1, -⟩ := h
  exact ⟨ao, cap, rfl, h0, h1, .inl rfl⟩
/- In the state of a long walk. -/
def mineOf (v : Value) (xs : List Int) : List Nat := if xs.length = 0 then [] else v.ownBlock.toList
theorem Mine.frame {w w' : World} {base : Nat} {v : Value} {xs : List Int} (h : Mine w base v xs) (e : ∀ b ∈ mineOf v xs, w'.heap[b]? = w.heap[b]?) : Mine w' base v xs := by
  rcases h with h | h
  · by_cases hx : xs.length = 0
    · have e0 : xs = [] := List.eq_nil_of_length_eq_zero hx
      subst e0
      exact Reads.mine (h.reads.later)
    · unfold mineOf at e
      rw [if_neg hx] at e
      exact .inl (Own.frame h e)
  · exact .inr h
def LstM (v : Value) (xs : List Int) : Item := ⟨mineOf v xs, 0, fun w => Mine w 0 v xs, fun _ _ e _ h => Mine.frame h e⟩
theorem Sta.listM {w wx wy : World} {L : List Item} {v : Value} {xs : List Int} (h : Sta w wx L) (o : Mine wy wx.heap.size v xs) (b : Below wx.heap.size wx wy) : Sta w wy (LstM v xs :: L) := by
  refine h.add b (LstM v xs) (o.mono (Nat.zero_le _)) (fun k hk => ?_)
  have hk' : k ∈ mineOf v xs := hk
  unfold mineOf at hk'
  split at hk'
  · simp at hk'
  · rename_i hx
    exact (o.own (fun e => hx (by rw [e]; rfl))).lt k (by simpa using hk')
theorem Sta.readsM {w wx : World} {L : List Item} {v : Value} {xs : List Int} (h : Sta w wx L) (n : Nat) (e : L[n]? = some (LstM v xs)) : Reads wx v xs := (h.get n e).reads
theorem Sta.markM {w wx wy : World} {L : List Item} {v : Value} {xs ys : List Int} (h : Sta w wx L) (n : Nat) (e : L[n]? = some (LstM v xs)) (hl : ys.length = xs.length) (o : Mine wy 0 v ys) (m : Turned wx wy (mineOf v xs)) : Sta w wy (L.set n (LstM v ys)) :=
  h.turn n e m (LstM v ys) (by show mineOf v ys = mineOf v xs; unfold mineOf; rw [hl]) o
end Go.Proofs.YteooloceaoinlaaDoor
/- The program's numbers of copiers and sinks: how many, which try, which turn, a row of turns. -/
namespace Go.Proofs.YteooloceaoinlaaDoor
open Go.ChangeShapes Go.WideShapes Go.ChangeAt Go.RowKit

set_option maxRecDepth 20000 in
set_option maxHeartbeats 400000 in
theorem icount_any (x : Int) (w : World) :
    Calls Tryd.prog 45 #[.int .i64 x] w fun e w' => e = .returned (.bool (inI x 1 8)) ∧ w' = w := by
  by_cases h0 : 1 ≤ x
  · by_cases h1 : x ≤ 8
    · rw [show inI x 1 8 = true by simp [inI, h0, h1]]
      go_enter Tryd.func45, Tryd.ntmps45
      go_wp2
      go_ret
      exact ⟨ret_bool (by simp), rfl⟩
    · rw [show inI x 1 8 = false by simp [inI]; omega]
      go_enter Tryd.func45, Tryd.ntmps45
      go_wp2
      go_ret
      exact ⟨ret_bool (by simp), rfl⟩
  · rw [show inI x 1 8 = false by simp [inI]; omega]
    go_enter Tryd.func45, Tryd.ntmps45
    go_wp2
    go_ret
    exact ⟨ret_bool (by simp), rfl⟩
end Go.Proofs.YteooloceaoinlaaDoor
/- The program's copiers: what is right (CopierOk), what is clean (Clean), which blocks there are. -/
namespace Go.Proofs.YteooloceaoinlaaDoor
open Go.ChangeShapes Go.WideShapes Go.ChangeAt Go.RowKit

def Cp.unused (c : Cp) : Bool := decide (c.tr = 0) && !c.op && decide (c.di = 0) && decide (c.wa = 0) && decide (c.ts.length = 0)
theorem Cp.ok_unused {c : Cp} (h : c.unused = true) : c.ok = true := by
  unfold Cp.unused at h
  unfold Cp.ok
  simp only [Bool.and_eq_true, decide_eq_true_eq] at h
  obtain ⟨⟨⟨⟨h1, h2⟩, h3⟩, h4⟩, h5⟩ := h
  rw [if_pos h1, h2]
  simp [h3, h4, h5]
theorem Cp.ok_used {c : Cp} (h : c.unused = false) : c.ok = (inI c.tr 1 100000 && (turnsI c.ts && inI c.ts.length 1 8) && inI c.di 0 (fullI c.ts.length) && inI c.wa 0 (fullI c.ts.length)) := by
  unfold Cp.ok Cp.mid
  by_cases e : c.tr = 0
  · rw [if_pos e]
    unfold Cp.unused at h
    rw [decide_eq_true e, Bool.true_and] at h
    rw [h]
    have : inI c.tr 1 100000 = false := by rw [e]; decide
    rw [this]
    rfl
  · rw [if_neg e]
    simp only [Bool.and_assoc]
end Go.Proofs.YteooloceaoinlaaDoor
/- The program's copy of a list (fresh). -/
namespace Go.Proofs.YteooloceaoinlaaDoor
open Go.ChangeShapes Go.WideShapes Go.ChangeAt Go.RowKit
end Go.Proofs.YteooloceaoinlaaDoor
/- Sinks by the model: SinkOk, NewSink, l14Fits, Fits, l14Copy, Received. -/
namespace Go.Proofs.YteooloceaoinlaaDoor
open Go.ChangeShapes Go.WideShapes Go.ChangeAt Go.RowKit

def snA (v : Value) (c : Sn) : Array Value := #[.int .i64 c.tr, v]
def SnV (v : Value) (c : Sn) : Value := .agg (snA v c)
def zeroSn : Array Value := #[.int .i64 0, .slice none 0 0]
theorem zeroSn_one : zeroSn.all (·.oneCell') = true := by simp [zeroSn, Value.oneCell']
theorem Tryd.isSn : IsS 32 2 := ⟨⟨_, Tryd.underlying32⟩, by kernel_rfl⟩
theorem snA_one {v : Value} (c : Sn) (hv : v.oneCell' = true) : (snA v c).all (·.oneCell') = true := by
  unfold snA
  simp [hv, show ∀ k n, (Value.int k n).oneCell' = true from fun _ _ => rfl]

end Go.Proofs.YteooloceaoinlaaDoor
/- What stands while a sink is answered. -/
namespace Go.Proofs.YteooloceaoinlaaDoor
open Go.ChangeShapes Go.WideShapes Go.ChangeAt Go.RowKit

/- What stands while one of them is made: the one that was given (c), the answer's place, the one that will be answered (d, in block g). -/
structure SoS (w wx : World) (g : Nat) (v u : Value) (c d : Sn) : Prop where
  p : StB wx w.heap.size 32 (snA v c)
  q : StB wx (w.heap.size + 1) 32 zeroSn
  r : StB wx g 32 (snA u d)
  o : Mine wx w.heap.size u d.ts
  b : Below w.heap.size w wx
  l : w.heap.size + 1 < g
theorem SoS.start {w w2 w3 : World} {v u : Value} {c : Sn} (hp : StB w2 w.heap.size 32 (snA v c)) (hq : StB w2 (w.heap.size + 1) 32 zeroSn) (hb : Below w.heap.size w w2) (hs : w.heap.size + 1 < w2.heap.size) (o3 : Mine w3 w2.heap.size u c.ts) (b3 : Below w2.heap.size w2 w3) : SoS w (w3.alloc (.cells (snA u c) 32)) w3.heap.size v u c c := by
  have b4 : Below w3.heap.size w3 (w3.alloc (.cells (snA u c) 32)) := (Below.refl _ _).alloc (Nat.le_refl _) _
  exact ⟨(hp.below b3).below b4, (hq.below b3).below b4, StB.new _ _ _, (o3.below b4).mono (by omega), (hb.trans (b3.mono hb.size)).trans (b4.mono (Nat.le_trans hb.size b3.size)), Nat.lt_of_lt_of_le hs b3.size⟩
theorem SoS.below {w wx wy : World} {g : Nat} {v u : Value} {c d : Sn} (h : SoS w wx g v u c d) (b : Below wx.heap.size wx wy) : SoS w wy g v u c d :=
  ⟨h.p.below b, h.q.below b, h.r.below b, h.o.below b, h.b.trans (b.mono h.b.size), h.l⟩
/- A cell of the one that will be answered is written. -/
theorem SoS.put {w wx : World} {g : Nat} {v u : Value} {c d e : Sn} (h : SoS w wx g v u c d) (j : Nat) (x : Value) (he : (snA u d).setIfInBounds j x = snA u e) (ht : e.ts = d.ts) : SoS w (wx.setCell ⟨g, j, none⟩ x) g v u c e :=
  ⟨h.p.other _ _ (by have := h.l; show w.heap.size ≠ g; omega), h.q.other _ _ (by have := h.l; show w.heap.size + 1 ≠ g; omega), h.r.put j x he, by rw [ht]; exact h.o.set h.r (by decide) x, h.b.setCell (by have := h.l; show w.heap.size ≤ g; omega) _, h.l⟩
theorem SoS.fin {w wx wy : World} {g : Nat} {v u : Value} {c d : Sn} (h : SoS w wx g v u c d) (G : wx.grownBy wy (some (w.heap.size + 1))) : Mine wy w.heap.size u d.ts ∧ Below w.heap.size w wy :=
  ⟨h.o.putBy h.q (by decide) G, h.b.grown G h.b.size (fun k e => by cases e; omega)⟩
/- The one that will be answered has a list of its own, and that is written. -/
theorem SoS.row {w wx : World} {g r n cap : Nat} {v : Value} {c d : Sn} {j : Nat} {x : Int} (h : SoS w wx g v (.slice (some ⟨r, 0, none⟩) n cap) c d) (o : Own wx w.heap.size (.slice (some ⟨r, 0, none⟩) n cap) d.ts) (O : Own (wx.setCell ⟨r, j, none⟩ (.int .i64 x)) w.heap.size (.slice (some ⟨r, 0, none⟩) n cap) (d.ts.set j x)) : SoS w (wx.setCell ⟨r, j, none⟩ (.int .i64 x)) g v (.slice (some ⟨r, 0, none⟩) n cap) c { d with ts := d.ts.set j x } := by
  have hne : ∀ (k : Nat) (cs : Array Value), StB wx k 32 cs → k ≠ r := fun k cs hk e => o.ne hk (by decide) (by rw [e]; rfl)
  exact ⟨h.p.other _ _ (hne _ _ h.p), h.q.other _ _ (hne _ _ h.q), h.r.other _ _ (hne _ _ h.r), .inl O, h.b.setCell (o.lt r rfl).1 _, h.l⟩
theorem SoS.cells {w wx : World} {g : Nat} {v u : Value} {c d : Sn} (h : SoS w wx g v u c d) (j : Nat) {x : Value} (e : (snA u d)[j]? = some x) : wx.cell? ⟨g, j, none⟩ = some x ∧ wx.frozen? ⟨g, j, none⟩ = false := ⟨h.r.cell j e, h.r.frozen j⟩

end Go.Proofs.YteooloceaoinlaaDoor
