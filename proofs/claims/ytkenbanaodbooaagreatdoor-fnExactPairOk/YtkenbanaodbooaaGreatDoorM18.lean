/- Regions that draw their order, with calls that make memory, new variables and stores into them, whatever the order: what is needed at each step is found by the world's own shape. -/
import Derived.Test.YtkenbanaodbooaaGreatDoorM6
import Derived.Deep.RegionHeld3
import Derived.Test.YtkenbanaodbooaaGreatDoorM14
import Derived.Test.YtkenbanaodbooaaGreatDoorM5
import Derived.Test.YtkenbanaodbooaaGreatDoorM2
import Derived.Deep.DeepCutAuto
import Derived.Test.YtkenbanaodbooaaGreatDoorM4
import Derived.Test.YtkenbanaodbooaaGreatDoorM17
namespace Go.Proofs.YtkenbanaodbooaaGreatDoor
open Go.ChangeShapes Go.WideShapes Go.ChangeAt Go.RowKit

theorem bel_alloc {w wx : World} {o : Obj} (h : Below w.heap.size w wx) : Below w.heap.size w (wx.alloc o) := h.alloc h.size _
theorem bel_drew {w wx : World} (h : Below w.heap.size w wx) : Below w.heap.size w wx.drew := h.drew
theorem bel_trans {w wx wy : World} (h : Below w.heap.size w wx) (b : Below wx.heap.size wx wy) : Below w.heap.size w wy := h.trans (b.mono h.size)
/- The same as 'Below', under a name of its own: what a region holds. -/
def Sx (w wx : World) : Prop := Below w.heap.size w wx
theorem later_cell {w wx : World} {a : Addr} {v : Value} (h : w.cell? a = some v) (b : Below w.heap.size w wx) : wx.cell? a = some v := by
  rw [b.cell (World.block_lt_of_cell? w _ h)]; exact h
theorem StB.newE (w : World) (t : TypeId) (cs : Array Value) {g : Nat} (h : g = w.heap.size) : StB (w.alloc (.cells cs t)) g t cs := by subst h; exact StB.new w t cs
theorem StB.dr {w : World} {g : Nat} {t : TypeId} {cs : Array Value} (h : StB w g t cs) : StB w.drew g t cs := h
theorem StB.al {w : World} {g : Nat} {t : TypeId} {cs : Array Value} {o : Obj} (h : StB w g t cs) : StB (w.alloc o) g t cs := h.alloc o
theorem StB.bel {w w' : World} {g : Nat} {t : TypeId} {cs : Array Value} (h : StB w g t cs) (b : Below w.heap.size w w') : StB w' g t cs := h.below b
/- One block has one type. -/
theorem StB.typ {w : World} {g k : Nat} {t s : TypeId} {cs ds : Array Value} (h : StB w g t cs) (h' : StB w k s ds) (hne : t ≠ s) : g ≠ k := by
  rintro rfl
  unfold StB at h h'
  rw [h] at h'
  simp at h'
  exact hne h'.2
theorem Own.ne {w : World} {base g : Nat} {v : Value} {xs : List Int} {t : TypeId} {cs : Array Value} (h : Own w base v xs) (h' : StB w g t cs) (hne : t ≠ 2) : v.ownBlock ≠ some g := by
  intro e
  rcases h.2 with ⟨rfl, -⟩ | ⟨k, cap, cur, rfl, -, hg, -⟩
  · cases e
  · simp only [Value.ownBlock, Option.some.injEq] at e
    subst e
    unfold StB at h'
    rw [hg] at h'
    simp at h'
    exact hne h'.2.symm
theorem Own.putBy {w w' : World} {base g : Nat} {v : Value} {xs : List Int} {t : TypeId} {cs : Array Value} (h : Own w base v xs) (h' : StB w g t cs) (hne : t ≠ 2) (b : w.grownBy w' (some g)) : Own w' base v xs :=
  h.kept b (.inr (h.ne h' hne))
theorem bel_put {w wx wy : World} {g : Nat} (h : Below w.heap.size w wx) (b : wx.grownBy wy (some g)) (hg : w.heap.size ≤ g) : Below w.heap.size w wy :=
  h.grown b h.size (fun k e => by cases e; exact hg)
theorem step_putS {t : TypeId} {n : Nat} (hS : IsS t n) {ops : Array Oper} {o : Oper} {a : Act} {w : World} {K : Act → World → Prop} {Q : Exit → Act → World → Prop} {E : Prop} (hgd : o.guard = none) (x y : Operand) (ho : o.op = .store t x y)
    (g : Nat) (cs ds : Array Value) (hx : a.eval x = .pointer (some ⟨g, 0, none⟩)) (hy : a.eval y = .agg cs) (hn : cs.size = n) (hd : ds.size = n) (h1 : cs.all (·.oneCell') = true) (hr : StB w g t ds)
    (h : ∀ w', StB w' g t cs → w.grownBy w' (some g) → K (a.put o.dst undef) w') : if Region.wanted o (yielded ops a.tmps) = true then Oper.wp Tryz.prog o a w K Q else E := by
  have hw : Region.wanted o (yielded ops a.tmps) = true := by simp [Region.wanted, hgd]
  rw [if_pos hw]
  exact wp_store_row t x y ho g cs hx hy _ _ hr (by rw [hS.2, hn]) (by rw [hd, hn]) h1 (h _ (setRow_heap w g _ _ _ _ hr) (grownRowS w g _))
theorem ge_of {w wx wy : World} {g : Nat} (_ : wx.grownBy wy (some g)) (l : w.heap.size ≤ g) : w.heap.size ≤ g := l
theorem StB.keptT {w w' : World} {g k : Nat} {t s : TypeId} {cs ds : Array Value} (h : StB w k s ds) (h' : StB w g t cs) (b : w.grownBy w' (some g)) (ne : t ≠ s) : StB w' k s ds := h.kept b (fun e => StB.typ h' h ne (Option.some.inj e).symm)
/- A whole struct, folded, is stored into a variable: as it comes to the arms of a region that draws. -/
theorem upon_putS {o : Oper} {a : Act} {w : World} {K : Act → World → Prop} {Q : Exit → Act → World → Prop} (g : Nat) (t : TypeId) (cs ds : Array Value) (hd : ds.size = cs.size) (h1 : cs.all (·.oneCell') = true) (hr : StB w g t ds)
    (h : ∀ w', StB w' g t cs → w.grownBy w' (some g) → Oper.upon Tryz.prog o a K Q (.ok .skip w')) :
    Oper.upon Tryz.prog o a K Q (((storeCells ⟨g, 0, none⟩ cs.toList).run Tryz.prog w).andThen fun _ w' => .ok .skip w') := by
  have e := run_storeCells_from (P := Tryz.prog) g t cs.toList 0 ds w hr (by simp; omega) (fun v hv => (Array.all_eq_true_iff_forall_mem.1 h1) v (by simpa using hv))
  rw [e]
  simp only [List.take_zero, List.nil_append, Array.toArray_toList, Result.andThen_ok]
  exact h _ (setRow_heap w g _ _ _ _ hr) (grownRowS w g _)
def dkA (u v : Value) : Array Value := #[u, v]
end Go.Proofs.YtkenbanaodbooaaGreatDoor
/- A list of the call's own, or an empty one wherever it points to: what is answered where nothing was copied. -/
namespace Go.Proofs.YtkenbanaodbooaaGreatDoor
open Go.ChangeShapes Go.WideShapes Go.ChangeAt Go.RowKit

def Mine (w : World) (base : Nat) (v : Value) (xs : List Int) : Prop := Own w base v xs ∨ (xs = [] ∧ ∃ ao cap, v = .slice ao 0 cap ∧ cap ≤ maxLen ∧ (ao = none → cap = 0))
theorem Own.mine {w : World} {base : Nat} {v : Value} {xs : List Int} (h : Own w base v xs) : Mine w base v xs := .inl h
theorem Mine.reads {w : World} {base : Nat} {v : Value} {xs : List Int} (h : Mine w base v xs) : Reads w v xs := by
  rcases h with h | ⟨rfl, ao, cap, rfl, h1, h2⟩
  · exact h.reads
  · exact ⟨ao, cap, rfl, Nat.zero_le _, ⟨h1, h2⟩, .inl rfl⟩
theorem Reads.mine {w : World} {base : Nat} {v : Value} (h : Reads w v []) : Mine w base v [] := by
  obtain ⟨ao, cap, rfl, -, ⟨h1, h2⟩, -⟩ := h
  exact .inr ⟨rfl, ao, cap, rfl, h1, h2⟩
theorem Mine.mono {w : World} {base base' : Nat} {v : Value} {xs : List Int} (h : Mine w base v xs) (hb : base' ≤ base) : Mine w base' v xs := h.imp (fun h => h.mono hb) id
theorem Mine.below {w w' : World} {base : Nat} {v : Value} {xs : List Int} (h : Mine w base v xs) (b : Below w.heap.size w w') : Mine w' base v xs := h.imp (fun h => h.below b) id
theorem Mine.keptLt {w w' : World} {base g : Nat} {v : Value} {xs : List Int} (h : Mine w base v xs) (hg : w.grownBy w' (some g)) (hb : g < base) : Mine w' base v xs := h.imp (fun h => h.keptLt hg hb) id
theorem Mine.setLt {w : World} {base g : Nat} {v : Value} {xs : List Int} (h : Mine w base v xs) (hb : g < base) (j : Nat) (x : Value) : Mine (w.setCell ⟨g, j, none⟩ x) base v xs := h.imp (fun h => h.setLt hb j x) id
theorem Mine.putBy {w w' : World} {base g : Nat} {v : Value} {xs : List Int} {t : TypeId} {cs : Array Value} (h : Mine w base v xs) (h' : StB w g t cs) (hne : t ≠ 2) (b : w.grownBy w' (some g)) : Mine w' base v xs := h.imp (fun h => h.putBy h' hne b) id
theorem Mine.set {w : World} {base g j : Nat} {v : Value} {xs : List Int} {t : TypeId} {cs : Array Value} (h : Mine w base v xs) (h' : StB w g t cs) (hne : t ≠ 2) (x : Value) : Mine (w.setCell ⟨g, j, none⟩ x) base v xs := h.putBy h' hne (grownSet w g j x)
theorem Mine.drew {w w' : World} {base n : Nat} {v : Value} {xs : List Int} (h : Mine w base v xs) (e : w' = w.drewN n) : Mine w' base v xs := h.imp (fun h => h.drew_eq e) id
theorem Mine.own {w : World} {base : Nat} {v : Value} {xs : List Int} (h : Mine w base v xs) (hx : xs ≠ []) : Own w base v xs := h.resolve_right (fun h => hx h.1)
/- What is left of new memory where all that lies below is as it was. -/
theorem Mine.lower {w w' : World} {base B : Nat} {v : Value} {xs : List Int} (h : Mine w base v xs) (b : Below B w w') (hB : ∀ k, v.ownBlock = some k → k < w.heap.size → k < B) : Mine w' base v xs := by
  refine h.imp (fun h => Own.frame h (fun k hk => ?_)) id
  simp at hk
  exact b.block k (hB k hk (h.lt k hk).2)

theorem Reads.later {w w' : World} {v : Value} (h : Reads w v []) : Reads w' v [] := by
  obtain ⟨ao, cap, rfl, h0, h1, -⟩ := h
  exact ⟨ao, cap, rfl, h0, h1, .inl rfl⟩
/- In the state of a long walk. -/
def mineOf (v : Value) (xs : List Int) : List Nat := if xs.length = 0 then [] else v.ownBlock.toList
theorem Mine.frame {w w' : World} {base : Nat} {v : Value} {xs : List Int} (h : Mine w base v xs) (e : ∀ b ∈ mineOf v xs, w'.heap[b]? = w.heap[b]?) : Mine w' base v xs := by
  rcases h with h | h
  · by_cases hx : xs.length = 0
    · have e0 : xs = [] := List.eq_nil_of_length_eq_zero hx
      subst e0
      exact Reads.mine (h.reads.later)
    · unfold mineOf at e
      rw [if_neg hx] at e
      exact .inl (Own.frame h e)
  · exact .inr h
def LstM (v : Value) (xs : List Int) : Item := ⟨mineOf v xs, 0, fun w => Mine w 0 v xs, fun _ _ e _ h => Mine.frame h e⟩
theorem Sta.listM {w wx wy : World} {L : List Item} {v : Value} {xs : List Int} (h : Sta w wx L) (o : Mine wy wx.heap.size v xs) (b : Below wx.heap.size wx wy) : Sta w wy (LstM v xs :: L) := by
  refine h.add b (LstM v xs) (o.mono (Nat.zero_le _)) (fun k hk => ?_)
  have hk' : k ∈ mineOf v xs := hk
  unfold mineOf at hk'
  split at hk'
  · simp at hk'
  · rename_i hx
    exact (o.own (fun e => hx (by rw [e]; rfl))).lt k (by simpa using hk')
theorem Sta.readsM {w wx : World} {L : List Item} {v : Value} {xs : List Int} (h : Sta w wx L) (n : Nat) (e : L[n]? = some (LstM v xs)) : Reads wx v xs := (h.get n e).reads
theorem Sta.markM {w wx wy : World} {L : List Item} {v : Value} {xs ys : List Int} (h : Sta w wx L) (n : Nat) (e : L[n]? = some (LstM v xs)) (hl : ys.length = xs.length) (o : Mine wy 0 v ys) (m : Turned wx wy (mineOf v xs)) : Sta w wy (L.set n (LstM v ys)) :=
  h.turn n e m (LstM v ys) (by show mineOf v ys = mineOf v xs; unfold mineOf; rw [hl]) o
end Go.Proofs.YtkenbanaodbooaaGreatDoor
/- Copiers by the model: l13Copy, l13Has, and the hands on one that lies behind a pointer: l13Mark, l13Next, l13Ack, l13Again. -/
namespace Go.Proofs.YtkenbanaodbooaaGreatDoor
open Go.ChangeShapes Go.WideShapes Go.ChangeAt Go.RowKit
end Go.Proofs.YtkenbanaodbooaaGreatDoor
/- Holdings by the model, on: l8Registered, Registered, l8Holds, Holds, l8May, May. -/
namespace Go.Proofs.YtkenbanaodbooaaGreatDoor
open Go.ChangeShapes Go.WideShapes Go.ChangeAt Go.RowKit
end Go.Proofs.YtkenbanaodbooaaGreatDoor
/- How the laws take a holding over, compare two, mark one and look at the marks; a new holding. -/
namespace Go.Proofs.YtkenbanaodbooaaGreatDoor
open Go.ChangeShapes Go.WideShapes Go.ChangeAt Go.RowKit

theorem Tryz.isLH : IsS 72 4 := ⟨⟨_, Tryz.underlying72⟩, by kernel_rfl⟩

theorem hdA_one {v : Value} (h : Hd) (hv : v.oneCell' = true) : (hdA v h).all (·.oneCell') = true := by
  unfold hdA
  simp [hv, show ∀ k n, (Value.int k n).oneCell' = true from fun _ _ => rfl]

set_option maxRecDepth 20000 in
set_option maxHeartbeats 1000000 in
theorem szHolding_any (v : Value) (h : Hd) (k : Int) (w : World) (hr : Reads w v h.ks) (h0 : 0 ≤ k) (h1 : k ≤ 1048576) :
    Calls Tryz.prog 53 #[HV v h, .int .i64 k] w fun e w' => e = .returned (.int .i64 (szI k h.ks.length)) ∧ Below w.heap.size w w' := by
  have B1 : Below w.heap.size w (w.alloc (.cells (hdA v h) 72)) := (Below.refl _ _).alloc (Nat.le_refl _) _
  have c1 := sz_any v h.ks k _ (hr.below B1 (Nat.le_refl _)) h0 h1
  have hs : szI k h.ks.length = -1 ∨ 0 ≤ szI k h.ks.length := by unfold szI; split <;> omega
  obtain ⟨x, hx⟩ : ∃ x, x = szI k h.ks.length := ⟨_, rfl⟩
  rw [← hx] at c1 hs ⊢
  obtain ⟨ao, cap, rfl⟩ := reads_form hr
  clear hx hr
  unfold HV hdA at *
  rcases hs with hs | hs
  · subst hs
    go_enter Tryz.func53, Tryz.ntmps53
    go_wp2_with fail
    refine c1.mono ?_
    rintro e w' ⟨rfl, hw⟩; subst w'
    go_wp2
    go_ret
    exact ⟨rfl, B1⟩
  · go_enter Tryz.func53, Tryz.ntmps53
    go_wp2_with fail
    refine c1.mono ?_
    rintro e w' ⟨rfl, hw⟩; subst w'
    go_wp2
    go_ret
    exact ⟨rfl, B1⟩

set_option maxRecDepth 20000 in
set_option maxHeartbeats 2000000 in
theorem toHolding_any (v : Value) (h : Hd) (w : World) (hr : Reads w v h.ks) (hl : h.ks.length ≤ 1099511627776) :
    Calls Tryz.prog 71 #[HV v h] w fun e w' => ∃ u, e = .returned (HV u h) ∧ Own w' w.heap.size u h.ks ∧ Below w.heap.size w w' := by
  obtain ⟨w1, hw1⟩ : ∃ w1, w1 = ((w.alloc (.cells (hdA v h) 72)).alloc (.cells #[.slice none 0 0, .int .i64 0, .int .i64 0, .int .i64 0] 46)).alloc (.cells #[.slice none 0 0, .int .i64 0, .int .i64 0, .int .i64 0] 46) := ⟨_, rfl⟩
  have hsz : w1.heap.size = w.heap.size + 3 := by rw [hw1]; simp
  have p0 : StB w1 w.heap.size 72 (hdA v h) := by rw [hw1]; exact ((StB.new w _ _).alloc _).alloc _
  have q0 : StB w1 (w.heap.size + 1) 46 #[.slice none 0 0, .int .i64 0, .int .i64 0, .int .i64 0] := by
    rw [hw1]
    have := (StB.new (w.alloc (.cells (hdA v h) 72)) 46 #[.slice none 0 0, .int .i64 0, .int .i64 0, .int .i64 0]).alloc (.cells #[.slice none 0 0, .int .i64 0, .int .i64 0, .int .i64 0] 46)
    rwa [World.size_alloc] at this
  have r0 : StB w1 (w.heap.size + 1 + 1) 46 #[.slice none 0 0, .int .i64 0, .int .i64 0, .int .i64 0] := by
    rw [hw1]
    have := StB.new ((w.alloc (.cells (hdA v h) 72)).alloc (.cells #[.slice none 0 0, .int .i64 0, .int .i64 0, .int .i64 0] 46)) 46 #[.slice none 0 0, .int .i64 0, .int .i64 0, .int .i64 0]
    rwa [World.size_alloc, World.size_alloc] at this
  have b1 : Below w.heap.size w w1 := by rw [hw1]; exact (((Below.refl _ _).alloc (Nat.le_refl _) _).alloc (by simp) _).alloc (by simp; omega) _
  have c1 := to_any v h.ks w1 (hr.below b1 (Nat.le_refl _)) hl
  obtain ⟨ao, cap, rfl⟩ := reads_form hr
  have HW : Hid (w1 = ((w.alloc (.cells #[.slice ao h.ks.length cap, .int .i64 h.kd, .int .i64 h.ho, .int .i64 h.tu] 72)).alloc (.cells #[.slice none 0 0, .int .i64 0, .int .i64 0, .int .i64 0] 46)).alloc (.cells #[.slice none 0 0, .int .i64 0, .int .i64 0, .int .i64 0] 46)) := hw1
  have hs1 : w.heap.size + 1 + 1 < w1.heap.size := by omega
  clear hw1 hr hl hsz
  unfold HV
  unfold hdA at p0
  conv in hdA => unfold hdA
  go_enter Tryz.func71, Tryz.ntmps71
  go_wp2_with fail
  rw [← HW.out]
  clear HW
  refine c1.mono ?_
  rintro e w3 ⟨u, rfl, o3, b3⟩
  replace p0 := p0.below b3
  replace q0 := q0.below b3
  replace r0 := r0.below b3
  have hs3 := b3.size
  have B3 := b1.trans (b3.mono b1.size)
  obtain ⟨ab, cb, rfl⟩ := reads_form o3.reads
  have k1 : w3.cell? ⟨w.heap.size, 1, none⟩ = some (.int .i64 h.kd) := p0.cell 1 rfl
  have k2 : w3.cell? ⟨w.heap.size, 2, none⟩ = some (.int .i64 h.ho) := p0.cell 2 rfl
  have k3 : w3.cell? ⟨w.heap.size, 3, none⟩ = some (.int .i64 h.tu) := p0.cell 3 rfl
  have m0 : w3.cell? ⟨w.heap.size + 1 + 1, 0, none⟩ = some (.slice none 0 0) := r0.cell 0 rfl
  have m1 : w3.cell? ⟨w.heap.size + 1 + 1, 1, none⟩ = some (.int .i64 0) := r0.cell 1 rfl
  have m2 : w3.cell? ⟨w.heap.size + 1 + 1, 2, none⟩ = some (.int .i64 0) := r0.cell 2 rfl
  have m3 : w3.cell? ⟨w.heap.size + 1 + 1, 3, none⟩ = some (.int .i64 0) := r0.cell 3 rfl
  have f0 := r0.frozen 0
  have f1 := r0.frozen 1
  have f2 := r0.frozen 2
  have f3 := r0.frozen 3
  have HP : Hid (StB w3 (w.heap.size + 1) 46 #[.slice none 0 0, .int .i64 0, .int .i64 0, .int .i64 0] ∧ StB w3 (w.heap.size + 1 + 1) 46 #[.slice none 0 0, .int .i64 0, .int .i64 0, .int .i64 0] ∧ Own w3 w1.heap.size (.slice ab h.ks.length cb) h.ks ∧ Below w.heap.size w w3) := ⟨q0, r0, o3, B3⟩
  clear p0 q0 r0 o3 b3 b1 c1 B3
  have hn1 : w.heap.size ≠ w.heap.size + 1 := by omega
  have hn2 : w.heap.size ≠ w.heap.size + 1 + 1 := by omega
  have hn3 : w.heap.size + 1 ≠ w.heap.size + 1 + 1 := by omega
  have hg0 : w.heap.size ≤ w.heap.size + 1 ∧ w.heap.size ≤ w.heap.size + 1 + 1 ∧ w.heap.size + 1 < w1.heap.size ∧ w.heap.size ≤ w1.heap.size := by omega
  have hlt2 : w.heap.size + 1 + 1 < w3.heap.size := HP.out.2.1.lt
  have hlt0 : w.heap.size < w3.heap.size := by omega
  obtain ⟨g2, hg2⟩ : ∃ g2, g2 = w.heap.size + 1 + 1 := ⟨_, rfl⟩
  rw [← hg2] at hn2 hn3 hg0 m0 m1 m2 m3 f0 f1 f2 f3 HP hs1 hlt2 ⊢
  clear hg2
  obtain ⟨g1, hg1⟩ : ∃ g1, g1 = w.heap.size + 1 := ⟨_, rfl⟩
  rw [← hg1] at hn1 hn3 hg0 HP ⊢
  clear hg1
  have Q4 : StB ((((w3.setCell ⟨g2, 0, none⟩ (.slice ab h.ks.length cb)).setCell ⟨g2, 1, none⟩ (.int .i64 h.kd)).setCell ⟨g2, 2, none⟩ (.int .i64 h.ho)).setCell ⟨g2, 3, none⟩ (.int .i64 h.tu)) g2 46 (hdA (.slice ab h.ks.length cb) h) := (((HP.out.2.1.put 0 _ rfl).put 1 _ rfl).put 2 _ rfl).put 3 _ rfl
  have R4 : StB ((((w3.setCell ⟨g2, 0, none⟩ (.slice ab h.ks.length cb)).setCell ⟨g2, 1, none⟩ (.int .i64 h.kd)).setCell ⟨g2, 2, none⟩ (.int .i64 h.ho)).setCell ⟨g2, 3, none⟩ (.int .i64 h.tu)) g1 46 #[.slice none 0 0, .int .i64 0, .int .i64 0, .int .i64 0] := (((HP.out.1.other _ _ hn3).other _ _ hn3).other _ _ hn3).other _ _ hn3
  have O4 : Hid (Own ((((w3.setCell ⟨g2, 0, none⟩ (.slice ab h.ks.length cb)).setCell ⟨g2, 1, none⟩ (.int .i64 h.kd)).setCell ⟨g2, 2, none⟩ (.int .i64 h.ho)).setCell ⟨g2, 3, none⟩ (.int .i64 h.tu)) w1.heap.size (.slice ab h.ks.length cb) h.ks ∧ Below w.heap.size w ((((w3.setCell ⟨g2, 0, none⟩ (.slice ab h.ks.length cb)).setCell ⟨g2, 1, none⟩ (.int .i64 h.kd)).setCell ⟨g2, 2, none⟩ (.int .i64 h.ho)).setCell ⟨g2, 3, none⟩ (.int .i64 h.tu))) := ⟨(((HP.out.2.2.1.setLt hs1 0 _).setLt hs1 1 _).setLt hs1 2 _).setLt hs1 3 _, (((HP.out.2.2.2.setCell (show w.heap.size ≤ g2 from hg0.2.1) _).setCell (show w.heap.size ≤ g2 from hg0.2.1) _).setCell (show w.heap.size ≤ g2 from hg0.2.1) _).setCell (show w.heap.size ≤ g2 from hg0.2.1) _⟩
  clear HP
  go_upto_region 6 with fail
  obtain ⟨w4, hw4⟩ : ∃ w4, w4 = ((((w3.setCell ⟨g2, 0, none⟩ (.slice ab h.ks.length cb)).setCell ⟨g2, 1, none⟩ (.int .i64 h.kd)).setCell ⟨g2, 2, none⟩ (.int .i64 h.ho)).setCell ⟨g2, 3, none⟩ (.int .i64 h.tu)) := ⟨_, rfl⟩
  rw [← hw4] at Q4 R4 O4 ⊢
  clear hw4 k1 k2 k3 m0 m1 m2 m3 f0 f1 f2 f3
  go_wp2_with (first | (refine wpList_getS Tryz.isH rfl _ rfl g2 rfl (hdA (.slice ab h.ks.length cb) h) rfl Q4 ?_) | (refine wpList_putS Tryz.isH rfl _ _ rfl g1 (hdA (.slice ab h.ks.length cb) h) #[.slice none 0 0, .int .i64 0, .int .i64 0, .int .i64 0] rfl rfl rfl rfl (hdA_one h rfl) R4 ?_; intro w8 s8 g8))
  refine bodyPost_ret (results_S Tryz.isH rfl _ _ g1 _ rfl rfl s8) rfl ?_
  exact ⟨_, rfl, (O4.out.1.keptLt g8 (by omega)).mono (by omega), O4.out.2.grown g8 O4.out.2.size (fun k e => by cases e; omega)⟩

set_option maxRecDepth 20000 in
set_option maxHeartbeats 1000000 in
theorem eqHolding_any (u v : Value) (h : Hd) (w : World) (hu : Reads w u h.ks) (hv : Reads w v h.ks) (hl : h.ks.length ≤ 1099511627776) :
    Calls Tryz.prog 88 #[HV u h, HV v h] w fun e w' => e = .returned (.bool true) ∧ Below w.heap.size w w' := by
  obtain ⟨w1, hw1⟩ : ∃ w1, w1 = (w.alloc (.cells (hdA u h) 46)).alloc (.cells (hdA v h) 46) := ⟨_, rfl⟩
  have p0 : StB w1 w.heap.size 46 (hdA u h) := by rw [hw1]; exact (StB.new w _ _).alloc _
  have p1 : StB w1 (w.heap.size + 1) 46 (hdA v h) := by
    rw [hw1]
    have := StB.new (w.alloc (.cells (hdA u h) 46)) 46 (hdA v h)
    rwa [World.size_alloc] at this
  have b1 : Below w.heap.size w w1 := by rw [hw1]; exact ((Below.refl _ _).alloc (Nat.le_refl _) _).alloc (by simp) _
  have c1 := eq_any u v h.ks h.ks w1 (hu.below b1 (Nat.le_refl _)) (hv.below b1 (Nat.le_refl _)) hl
  rw [show decide (h.ks = h.ks) = true by simp] at c1
  obtain ⟨ao, ca, rfl⟩ := reads_form hu
  obtain ⟨bo, cb, rfl⟩ := reads_form hv
  have HW : Hid (w1 = (w.alloc (.cells #[.slice ao h.ks.length ca, .int .i64 h.kd, .int .i64 h.ho, .int .i64 h.tu] 46)).alloc (.cells #[.slice bo h.ks.length cb, .int .i64 h.kd, .int .i64 h.ho, .int .i64 h.tu] 46)) := hw1
  clear hw1 hu hv hl
  unfold HV hdA
  go_enter Tryz.func88, Tryz.ntmps88
  go_wp2_with fail
  rw [← HW.out]
  clear HW
  refine c1.mono ?_
  rintro e w3 ⟨rfl, n3, hw3⟩
  replace p0 : StB w3 w.heap.size 46 (hdA (.slice ao h.ks.length ca) h) := by rw [hw3]; exact p0
  replace p1 : StB w3 (w.heap.size + 1) 46 (hdA (.slice bo h.ks.length cb) h) := by rw [hw3]; exact p1
  have B3 : Below w.heap.size w w3 := by rw [hw3]; exact below_drewN b1 n3
  clear hw3 c1 b1
  have k1 : w3.cell? ⟨w.heap.size, 1, none⟩ = some (.int .i64 h.kd) := p0.cell 1 rfl
  have k2 : w3.cell? ⟨w.heap.size, 2, none⟩ = some (.int .i64 h.ho) := p0.cell 2 rfl
  have k3 : w3.cell? ⟨w.heap.size, 3, none⟩ = some (.int .i64 h.tu) := p0.cell 3 rfl
  have m1 : w3.cell? ⟨w.heap.size + 1, 1, none⟩ = some (.int .i64 h.kd) := p1.cell 1 rfl
  have m2 : w3.cell? ⟨w.heap.size + 1, 2, none⟩ = some (.int .i64 h.ho) := p1.cell 2 rfl
  have m3 : w3.cell? ⟨w.heap.size + 1, 3, none⟩ = some (.int .i64 h.tu) := p1.cell 3 rfl
  clear p0 p1
  go_wp2
  go_ret
  exact ⟨rfl, B3⟩
end Go.Proofs.YtkenbanaodbooaaGreatDoor
/- The model's hands on a holding of its own, behind a pointer: l9Turn, l9Free, l9Take, l9Register, l9Reserve, l9Release, l9Clear; l8Copy. -/
namespace Go.Proofs.YtkenbanaodbooaaGreatDoor
open Go.ChangeShapes Go.WideShapes Go.ChangeAt Go.RowKit

/- Block g holds the holding h, block q its four keys, both new since there were 'base' blocks. -/
def PQ (w : World) (base g q cap : Nat) (h : Hd) : Prop :=
  StB w g 46 (hdA (.slice (some ⟨q, 0, none⟩) 4 cap) h) ∧ Own w base (.slice (some ⟨q, 0, none⟩) 4 cap) h.ks ∧ (g ≠ q ∧ base ≤ g ∧ base ≤ q ∧ h.ks.length = 4)
def PB (w : World) (base g : Nat) (h : Hd) : Prop := ∃ q cap, PQ w base g q cap h
theorem PQ.put {w : World} {base g q cap : Nat} {h : Hd} (d : PQ w base g q cap h) (j : Nat) (x : Int) (f : Hd) (hk : f.ks = h.ks) (e : (hdA (.slice (some ⟨q, 0, none⟩) 4 cap) h).setIfInBounds j (.int .i64 x) = hdA (.slice (some ⟨q, 0, none⟩) 4 cap) f) :
    PQ (w.setCell ⟨g, j, none⟩ (.int .i64 x)) base g q cap f ∧ Below base w (w.setCell ⟨g, j, none⟩ (.int .i64 x)) := by
  obtain ⟨h1, h2, h3⟩ := d
  have G := grownSet w g j (.int .i64 x)
  refine ⟨⟨h1.put j _ e, ?_, ?_⟩, (Below.refl base w).setCell h3.2.1 _⟩
  · rw [hk]; exact h2.kept G (.inr (by intro e; have : q = g := Option.some.inj e; omega))
  · rw [hk]; exact h3
theorem PQ.key {w : World} {base g q cap : Nat} {h : Hd} (d : PQ w base g q cap h) (j : Nat) (hj : j < 4) (x : Int) :
    w.frozen? ⟨q, j, none⟩ = false ∧ w.cell? ⟨q, j, none⟩ = some (.int .i64 (h.ks.getD j 0)) ∧ PQ (w.setCell ⟨q, j, none⟩ (.int .i64 x)) base g q cap ⟨h.ks.set j x, h.kd, h.ho, h.tu⟩ ∧ Below base w (w.setCell ⟨q, j, none⟩ (.int .i64 x)) := by
  obtain ⟨h1, h2, h3⟩ := d
  obtain ⟨f, -, o⟩ := h2.put h3.2.2.2.symm j hj x
  have G := grownSet w q j (.int .i64 x)
  obtain ⟨-, -, -, hc⟩ := reads_cells h2.reads
  obtain ⟨b, off, e, hcell⟩ := hc j hj
  simp only [Option.some.injEq, Addr.mk.injEq] at e
  obtain ⟨rfl, rfl, -⟩ := e
  rw [Nat.zero_add] at hcell
  refine ⟨f, hcell, ⟨h1.kept G ?_, o, ?_⟩, (Below.refl base w).setCell h3.2.2.1 _⟩
  · intro e; have := Option.some.inj e; omega
  · simpa using h3
theorem PQ.below {w w' : World} {base g q cap : Nat} {h : Hd} (d : PQ w base g q cap h) (b : Below w.heap.size w w') : PQ w' base g q cap h :=
  ⟨d.1.below b, d.2.1.below b, d.2.2⟩
theorem PQ.lt {w : World} {base g q cap : Nat} {h : Hd} (d : PQ w base g q cap h) : base ≤ w.heap.size := by
  have := d.1.lt; have := d.2.2.2.1; omega
theorem PB.below {w w' : World} {base g : Nat} {h : Hd} (d : PB w base g h) (b : Below w.heap.size w w') : PB w' base g h := by
  obtain ⟨q, cap, d⟩ := d
  exact ⟨q, cap, d.below b⟩

theorem PB.lt {w : World} {base g : Nat} {h : Hd} (d : PB w base g h) : base ≤ w.heap.size := by
  obtain ⟨q, cap, d⟩ := d
  exact d.lt
end Go.Proofs.YtkenbanaodbooaaGreatDoor
/- The model's Register, Reserve, Release and Clear. -/
namespace Go.Proofs.YtkenbanaodbooaaGreatDoor
open Go.ChangeShapes Go.WideShapes Go.ChangeAt Go.RowKit

/- The parameter in its box, the answer's block behind it. -/
def Bx (w wx : World) (v : Value) (h : Hd) : Prop := StB wx w.heap.size 46 (hdA v h) ∧ StB wx (w.heap.size + 1) 46 #[.slice none 0 0, .int .i64 0, .int .i64 0, .int .i64 0] ∧ Below w.heap.size w wx ∧ w.heap.size + 2 ≤ wx.heap.size ∧ Reads wx v h.ks
theorem Bx.start {w : World} {v : Value} {h : Hd} (hr : Reads w v h.ks) : Bx w ((w.alloc (.cells (hdA v h) 46)).alloc (.cells #[.slice none 0 0, .int .i64 0, .int .i64 0, .int .i64 0] 46)) v h := by
  have b1 : Below w.heap.size w (w.alloc (.cells (hdA v h) 46)) := (Below.refl _ _).alloc (Nat.le_refl _) _
  have b2 : Below w.heap.size w ((w.alloc (.cells (hdA v h) 46)).alloc (.cells #[.slice none 0 0, .int .i64 0, .int .i64 0, .int .i64 0] 46)) := b1.alloc (by simp) _
  refine ⟨(StB.new w _ _).alloc _, ?_, b2, by simp, hr.below b2 (Nat.le_refl _)⟩
  have := StB.new (w.alloc (.cells (hdA v h) 46)) 46 #[.slice none 0 0, .int .i64 0, .int .i64 0, .int .i64 0]
  rwa [World.size_alloc] at this
theorem Bx.next {w wx wy : World} {v : Value} {h : Hd} (d : Bx w wx v h) (b : Below wx.heap.size wx wy) : Bx w wy v h :=
  ⟨d.1.below b, d.2.1.below b, d.2.2.1.trans (b.mono d.2.2.1.size), Nat.le_trans d.2.2.2.1 b.size, d.2.2.2.2.below b (Nat.le_refl _)⟩
end Go.Proofs.YtkenbanaodbooaaGreatDoor
/- A house of the call's own; l15Copy of the model. -/
namespace Go.Proofs.YtkenbanaodbooaaGreatDoor
open Go.ChangeShapes Go.WideShapes Go.ChangeAt Go.RowKit

def blk (v : Value) : List Nat := v.ownBlock.toList
theorem blk_new {w : World} {B : Nat} {v : Value} {xs : List Int} (h : Own w B v xs) : ∀ x ∈ blk v, B ≤ x ∧ x < w.heap.size := fun x hx => h.lt x (by simpa [blk] using hx)
theorem apart_old {u v : Value} {w : World} {B : Nat} {xs : List Int} (hb : ∀ y ∈ blk u, y < B) (h : Own w B v xs) : apart v u := by
  have key : ∀ y, u.ownBlock = some y → v.ownBlock = some y → False := by
    intro y h1 h2
    have a1 := hb y (by unfold blk; rw [h1]; simp)
    have a2 := (h.lt y h2).1
    omega
  constructor
  · cases hv : v.ownBlock with
    | none => exact .inl rfl
    | some y => exact .inr (fun e => key y e.symm hv)
  · cases hu : u.ownBlock with
    | none => exact .inl rfl
    | some y => exact .inr (fun e => key y hu e.symm)
theorem pair_more {l : List Value} {v : Value} {w : World} {B : Nat} {xs : List Int} (hl : l.Pairwise apart) (hb : ∀ x ∈ l, ∀ y ∈ blk x, y < B) (h : Own w B v xs) : (v :: l).Pairwise apart :=
  List.Pairwise.cons (fun x hx => apart_old (hb x hx) h) hl
theorem pair_two {a b : Value} (h : apart a b) : [b, a].Pairwise apart := List.Pairwise.cons (fun x hx => by simp only [List.mem_singleton] at hx; subst hx; exact ⟨h.2, h.1⟩) (List.Pairwise.cons (fun x hx => by cases hx) List.Pairwise.nil)
/- Five lists of its own, apart. -/
structure OwnN (w : World) (base : Nat) (a b k q z : Value) (n : Nd) : Prop where
  oa : Own w base a n.xs
  ob : Own w base b n.ys
  ok : Own w base k n.h.ks
  oq : Own w base q n.c.ts
  oz : Own w base z n.s.ts
  ap : [z, q, k, b, a].Pairwise apart
theorem OwnN.reads {w : World} {base : Nat} {a b k q z : Value} {n : Nd} (h : OwnN w base a b k q z n) : RdN w a b k q z n := ⟨h.oa.reads, h.ob.reads, h.ok.reads, h.oq.reads, h.oz.reads⟩
theorem OwnN.mono {w : World} {base base' : Nat} {a b k q z : Value} {n : Nd} (h : OwnN w base a b k q z n) (hb : base' ≤ base) : OwnN w base' a b k q z n := ⟨h.oa.mono hb, h.ob.mono hb, h.ok.mono hb, h.oq.mono hb, h.oz.mono hb, h.ap⟩
theorem OwnN.below {w w' : World} {base : Nat} {a b k q z : Value} {n : Nd} (h : OwnN w base a b k q z n) (B : Below w.heap.size w w') : OwnN w' base a b k q z n := ⟨h.oa.below B, h.ob.below B, h.ok.below B, h.oq.below B, h.oz.below B, h.ap⟩
theorem OwnN.keptLt {w w' : World} {base g : Nat} {a b k q z : Value} {n : Nd} (h : OwnN w base a b k q z n) (hg : w.grownBy w' (some g)) (hb : g < base) : OwnN w' base a b k q z n := ⟨h.oa.keptLt hg hb, h.ob.keptLt hg hb, h.ok.keptLt hg hb, h.oq.keptLt hg hb, h.oz.keptLt hg hb, h.ap⟩
def zeroNd : Array Value := #[.int .i64 0, .bool false, .slice none 0 0, .slice none 0 0, .slice none 0 0, .int .i64 0, .int .i64 0, .int .i64 0, .string ⟨#[]⟩, .int .i64 0, .int .i64 0, .int .i64 0, .int .i64 0, .int .i64 0, .bool false, .int .i64 0, .int .i64 0, .slice none 0 0, .int .i64 0, .slice none 0 0]
theorem zeroNd_one : zeroNd.all (·.oneCell') = true := by simp [zeroNd, Value.oneCell']
theorem ndA_one {a b k q z : Value} (n : Nd) (ha : a.oneCell' = true) (hb : b.oneCell' = true) (hk : k.oneCell' = true) (hq : q.oneCell' = true) (hz : z.oneCell' = true) : (ndA a b k q z n).all (·.oneCell') = true := by
  unfold ndA
  simp [ha, hb, hk, hq, hz, S, show ∀ k n, (Value.int k n).oneCell' = true from fun _ _ => rfl, show ∀ b, (Value.bool b).oneCell' = true from fun _ => rfl, show ∀ s, (Value.string s).oneCell' = true from fun _ => rfl]

/- What stands while a house is copied. -/
structure NS (w wx : World) (g : Nat) (a b k q z : Value) (n : Nd) (cs : Array Value) : Prop where
  p : StB wx w.heap.size 54 (ndA a b k q z n)
  r : StB wx (w.heap.size + 1) 54 zeroNd
  o : StB wx g 54 cs
  b : Below w.heap.size w wx
  l : w.heap.size + 1 < g
theorem NS.below {w wx wy : World} {g : Nat} {a b k q z : Value} {n : Nd} {cs : Array Value} (h : NS w wx g a b k q z n cs) (B : Below wx.heap.size wx wy) : NS w wy g a b k q z n cs :=
  ⟨h.p.below B, h.r.below B, h.o.below B, h.b.trans (B.mono h.b.size), h.l⟩
theorem NS.put {w wx : World} {g : Nat} {a b k q z : Value} {n : Nd} {cs ds : Array Value} (h : NS w wx g a b k q z n cs) (j : Nat) (x : Value) (e : cs.setIfInBounds j x = ds) : NS w (wx.setCell ⟨g, j, none⟩ x) g a b k q z n ds :=
  ⟨h.p.other _ _ (by have := h.l; show w.heap.size ≠ g; omega), h.r.other _ _ (by have := h.l; show w.heap.size + 1 ≠ g; omega), h.o.put j x e, h.b.setCell (by have := h.l; show w.heap.size ≤ g; omega) _, h.l⟩
/- The house that is given, the answer's place; then a third variable that holds the same. -/
theorem NS.start {w w1 w2 : World} {a b k q z : Value} {n : Nd} (hw1 : w1 = (w.alloc (.cells (ndA a b k q z n) 54)).alloc (.cells zeroNd 54)) (s : StB w2 w1.heap.size 54 (ndA a b k q z n)) (G : (w1.alloc (.cells zeroNd 54)).grownBy w2 (some w1.heap.size)) : NS w w2 w1.heap.size a b k q z n (ndA a b k q z n) := by
  have p1 : StB w1 w.heap.size 54 (ndA a b k q z n) := by rw [hw1]; exact (StB.new w _ _).alloc _
  have r1 : StB w1 (w.heap.size + 1) 54 zeroNd := by
    rw [hw1]
    have := StB.new (w.alloc (.cells (ndA a b k q z n) 54)) 54 zeroNd
    rwa [World.size_alloc] at this
  have b1 : Below w.heap.size w w1 := by rw [hw1]; exact ((Below.refl _ _).alloc (Nat.le_refl _) _).alloc (by simp) _
  have l1 := r1.lt
  have l0 := p1.lt
  refine ⟨(p1.alloc _).kept G (by simp; omega), (r1.alloc _).kept G (by simp; omega), s, ?_, l1⟩
  exact (b1.alloc b1.size _).grown G (by simp; have := b1.size; omega) (fun k e => by cases e; omega)
end Go.Proofs.YtkenbanaodbooaaGreatDoor
/- A house that was answered: its lists are the call's own, or empty wherever they point to; in the state of a long walk. -/
namespace Go.Proofs.YtkenbanaodbooaaGreatDoor
open Go.ChangeShapes Go.WideShapes Go.ChangeAt Go.RowKit

theorem apart_iff {u v : Value} : apart u v ↔ ∀ x, x ∈ blk u → x ∈ blk v → False := by
  constructor
  · intro h x h1 h2
    have e1 : u.ownBlock = some x := by simpa [blk] using h1
    have e2 : v.ownBlock = some x := by simpa [blk] using h2
    rcases h.1 with h | h
    · rw [e1] at h; cases h
    · exact h (e1.trans e2.symm)
  · intro h
    constructor
    · cases hu : u.ownBlock with
      | none => exact .inl rfl
      | some x => exact .inr (fun e => h x (by simp [blk, hu]) (by simp [blk, ← e]))
    · cases hv : v.ownBlock with
      | none => exact .inl rfl
      | some x => exact .inr (fun e => h x (by simp [blk, ← e]) (by simp [blk, hv]))
theorem mineOf_sub {v : Value} {xs : List Int} {x : Nat} (h : x ∈ mineOf v xs) : x ∈ blk v := by
  unfold mineOf at h
  split at h
  · cases h
  · exact h
theorem mineOf_lt {w : World} {B : Nat} {v : Value} {xs : List Int} (h : Mine w B v xs) {x : Nat} (hx : x ∈ mineOf v xs) : B ≤ x ∧ x < w.heap.size := by
  have e : xs ≠ [] := fun e => by rw [e] at hx; simp [mineOf] at hx
  exact blk_new (h.own e) x (mineOf_sub hx)
/- Blocks that are all apart, five kinds of them. -/
structure Five (l1 l2 l3 l4 l5 : List Nat) : Prop where
  h12 : ∀ x, x ∈ l1 → x ∈ l2 → False
  h13 : ∀ x, x ∈ l1 → x ∈ l3 → False
  h14 : ∀ x, x ∈ l1 → x ∈ l4 → False
  h15 : ∀ x, x ∈ l1 → x ∈ l5 → False
  h23 : ∀ x, x ∈ l2 → x ∈ l3 → False
  h24 : ∀ x, x ∈ l2 → x ∈ l4 → False
  h25 : ∀ x, x ∈ l2 → x ∈ l5 → False
  h34 : ∀ x, x ∈ l3 → x ∈ l4 → False
  h35 : ∀ x, x ∈ l3 → x ∈ l5 → False
  h45 : ∀ x, x ∈ l4 → x ∈ l5 → False
structure MineN (w : World) (base : Nat) (a b k q z : Value) (n : Nd) : Prop where
  oa : Own w base a n.xs
  ob : Own w base b n.ys
  ok : Own w base k n.h.ks
  oq : Mine w base q n.c.ts
  oz : Mine w base z n.s.ts
  ap : Five (blk a) (blk b) (blk k) (mineOf q n.c.ts) (mineOf z n.s.ts)
def own5 (a b k q z : Value) (n : Nd) : List Nat := blk a ++ (blk b ++ (blk k ++ (mineOf q n.c.ts ++ mineOf z n.s.ts)))
theorem own5_in {a b k q z : Value} {n : Nd} {x : Nat} : x ∈ own5 a b k q z n ↔ x ∈ blk a ∨ x ∈ blk b ∨ x ∈ blk k ∨ x ∈ mineOf q n.c.ts ∨ x ∈ mineOf z n.s.ts := by
  unfold own5
  simp only [List.mem_append]
theorem OwnN.mine {w : World} {base : Nat} {a b k q z : Value} {n : Nd} (h : OwnN w base a b k q z n) : MineN w base a b k q z n := by
  have p : (apart z q ∧ apart z k ∧ apart z b ∧ apart z a) ∧ (apart q k ∧ apart q b ∧ apart q a) ∧ (apart k b ∧ apart k a) ∧ apart b a := by
    have := h.ap
    simpa [List.pairwise_cons] using this
  obtain ⟨⟨p1, p2, p3, p4⟩, ⟨p5, p6, p7⟩, ⟨p8, p9⟩, p0⟩ := p
  simp only [apart_iff] at *
  exact ⟨h.oa, h.ob, h.ok, .inl h.oq, .inl h.oz, ⟨fun x h1 h2 => p0 x h2 h1, fun x h1 h2 => p9 x h2 h1, fun x h1 h2 => p7 x (mineOf_sub h2) h1, fun x h1 h2 => p4 x (mineOf_sub h2) h1, fun x h1 h2 => p8 x h2 h1, fun x h1 h2 => p6 x (mineOf_sub h2) h1, fun x h1 h2 => p3 x (mineOf_sub h2) h1, fun x h1 h2 => p5 x (mineOf_sub h2) h1, fun x h1 h2 => p2 x (mineOf_sub h2) h1, fun x h1 h2 => p1 x (mineOf_sub h2) (mineOf_sub h1)⟩⟩
theorem MineN.reads {w : World} {base : Nat} {a b k q z : Value} {n : Nd} (h : MineN w base a b k q z n) : RdN w a b k q z n := ⟨h.oa.reads, h.ob.reads, h.ok.reads, h.oq.reads, h.oz.reads⟩
theorem MineN.mono {w : World} {base base' : Nat} {a b k q z : Value} {n : Nd} (h : MineN w base a b k q z n) (hb : base' ≤ base) : MineN w base' a b k q z n := ⟨h.oa.mono hb, h.ob.mono hb, h.ok.mono hb, h.oq.mono hb, h.oz.mono hb, h.ap⟩
theorem MineN.below {w w' : World} {base : Nat} {a b k q z : Value} {n : Nd} (h : MineN w base a b k q z n) (B : Below w.heap.size w w') : MineN w' base a b k q z n := ⟨h.oa.below B, h.ob.below B, h.ok.below B, h.oq.below B, h.oz.below B, h.ap⟩
theorem MineN.keptLt {w w' : World} {base g : Nat} {a b k q z : Value} {n : Nd} (h : MineN w base a b k q z n) (hg : w.grownBy w' (some g)) (hb : g < base) : MineN w' base a b k q z n := ⟨h.oa.keptLt hg hb, h.ob.keptLt hg hb, h.ok.keptLt hg hb, h.oq.keptLt hg hb, h.oz.keptLt hg hb, h.ap⟩
theorem MineN.putBy {w w' : World} {base g : Nat} {a b k q z : Value} {n : Nd} {t : TypeId} {cs : Array Value} (h : MineN w base a b k q z n) (s : StB w g t cs) (ty : t ≠ 2) (G : w.grownBy w' (some g)) : MineN w' base a b k q z n :=
  ⟨h.oa.putBy s ty G, h.ob.putBy s ty G, h.ok.putBy s ty G, h.oq.putBy s ty G, h.oz.putBy s ty G, h.ap⟩
theorem MineN.lt {w : World} {base : Nat} {a b k q z : Value} {n : Nd} (h : MineN w base a b k q z n) {x : Nat} (hx : x ∈ own5 a b k q z n) : base ≤ x ∧ x < w.heap.size := by
  rcases own5_in.1 hx with hx | hx | hx | hx | hx
  · exact blk_new h.oa x hx
  · exact blk_new h.ob x hx
  · exact blk_new h.ok x hx
  · exact mineOf_lt h.oq hx
  · exact mineOf_lt h.oz hx
theorem MineN.nil (w : World) (base : Nat) : MineN w base (.slice none 0 0) (.slice none 0 0) (.slice none 0 0) (.slice none 0 0) (.slice none 0 0) Nd.zero :=
  ⟨Own.nil _ _, Own.nil _ _, Own.nil _ _, .inl (Own.nil _ _), .inl (Own.nil _ _), by constructor <;> (intro x h; cases h)⟩
theorem MineN.frame {w w' : World} {base : Nat} {a b k q z : Value} {n : Nd} (h : MineN w base a b k q z n) (e : ∀ x ∈ own5 a b k q z n, w'.heap[x]? = w.heap[x]?) : MineN w' base a b k q z n :=
  ⟨h.oa.frame (fun x hx => e x (own5_in.2 (.inl hx))), h.ob.frame (fun x hx => e x (own5_in.2 (.inr (.inl hx)))), h.ok.frame (fun x hx => e x (own5_in.2 (.inr (.inr (.inl hx))))), h.oq.frame (fun x hx => e x (own5_in.2 (.inr (.inr (.inr (.inl hx)))))), h.oz.frame (fun x hx => e x (own5_in.2 (.inr (.inr (.inr (.inr hx)))))), h.ap⟩
/- A house as a thing of the state. -/
def NdI (a b k q z : Value) (n : Nd) : Item := ⟨own5 a b k q z n, 0, fun w => MineN w 0 a b k q z n, fun _ _ e _ h => h.frame e⟩
theorem Sta.house {w wx wy : World} {L : List Item} {a b k q z : Value} {n : Nd} (h : Sta w wx L) (o : MineN wy wx.heap.size a b k q z n) (B : Below wx.heap.size wx wy) : Sta w wy (NdI a b k q z n :: L) :=
  h.add B (NdI a b k q z n) (o.mono (Nat.zero_le _)) (fun x hx => o.lt hx)
theorem Sta.rdN {w wx : World} {L : List Item} {a b k q z : Value} {n : Nd} (h : Sta w wx L) (i : Nat) (e : L[i]? = some (NdI a b k q z n)) : RdN wx a b k q z n := (h.get i e).reads
/- Its lists are marked. -/
def Nd.inked (n : Nd) (k : Int) : Nd := { n with xs := marks k n.xs.length, ys := marks (k + n.xs.length) n.ys.length, h := { n.h with ks := marks (k + n.xs.length + n.ys.length) n.h.ks.length }, c := { n.c with ts := marks (k + n.xs.length + n.ys.length + n.h.ks.length) n.c.ts.length }, s := { n.s with ts := marks (k + n.xs.length + n.ys.length + n.h.ks.length + n.c.ts.length) n.s.ts.length } }
def Nd.len (n : Nd) : Nat := n.xs.length + n.ys.length + n.h.ks.length + n.c.ts.length + n.s.ts.length
end Go.Proofs.YtkenbanaodbooaaGreatDoor
