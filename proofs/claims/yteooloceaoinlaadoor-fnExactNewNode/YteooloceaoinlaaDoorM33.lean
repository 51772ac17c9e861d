/- How the laws take a copier over, compare two, mark one and look at the marks. -/
import Derived.Test.YteooloceaoinlaaDoorM16
import Derived.Test.YteooloceaoinlaaDoorM8
import Derived.Test.YteooloceaoinlaaDoorM6
import Derived.Test.YteooloceaoinlaaDoorSta
import Derived.Test.YteooloceaoinlaaDoorM17
import Derived.Test.YteooloceaoinlaaDoorM5
namespace Go.Proofs.YteooloceaoinlaaDoor
open Go.ChangeShapes Go.WideShapes Go.ChangeAt Go.RowKit

set_option maxRecDepth 20000 in
set_option maxHeartbeats 1000000 in
theorem eqCopier_any (u v : Value) (c : Cp) (w : World) (hu : Reads w u c.ts) (hv : Reads w v c.ts) (hl : c.ts.length ≤ 1099511627776) :
    Calls Tryd.prog 19 #[CpV u c, CpV v c] w fun e w' => e = .returned (.bool true) ∧ Below w.heap.size w w' := by
  obtain ⟨w1, hw1⟩ : ∃ w1, w1 = (w.alloc (.cells (cpA u c) 30)).alloc (.cells (cpA v c) 30) := ⟨_, rfl⟩
  have HB : Hid (Below w.heap.size w w1) := by rw [hw1]; exact ((Below.refl _ _).alloc (Nat.le_refl _) _).alloc (by simp) _
  have c1 := eq_any u v c.ts c.ts w1 (hu.below HB.out (Nat.le_refl _)) (hv.below HB.out (Nat.le_refl _)) hl
  rw [show decide (c.ts = c.ts) = true by simp] at c1
  obtain ⟨ao, ca, rfl⟩ := reads_form hu
  obtain ⟨bo, cb, rfl⟩ := reads_form hv
  have HW : Hid (w1 = (w.alloc (.cells #[.int .i64 c.tr, .bool c.op, .int .i64 c.di, .int .i64 c.wa, .slice ao c.ts.length ca] 30)).alloc (.cells #[.int .i64 c.tr, .bool c.op, .int .i64 c.di, .int .i64 c.wa, .slice bo c.ts.length cb] 30)) := hw1
  clear hw1 hu hv hl
  unfold CpV cpA
  go_enter Tryd.func19, Tryd.ntmps19
  go_wp2_with fail
  rw [← HW.out]
  clear HW
  refine c1.mono ?_
  rintro e w3 ⟨rfl, n3, hw3⟩
  have B3 : Hid (Below w.heap.size w w3) := by rw [hw3]; exact below_drewN HB.out n3
  clear hw3 c1 HB
  go_wp2
  go_ret
  exact ⟨rfl, B3.out⟩

set_option maxRecDepth 20000 in
set_option maxHeartbeats 1000000 in
theorem markCopier_any (v : Value) (c : Cp) (k : Int) (w : World) (base : Nat) (ho : Own w base v c.ts) (hl : c.ts.length ≤ 1048576) (h0 : 0 ≤ k) (h1 : k ≤ 4194304) :
    Calls Tryd.prog 23 #[CpV v c, .int .i64 k] w fun e w' => e = .returned (.int .i64 (k + c.ts.length)) ∧ Own w' base v (marks k c.ts.length) ∧ w.grownBy w' v.ownBlock := by
  have B1 : Below w.heap.size w (w.alloc (.cells (cpA v c) 30)) := (Below.refl _ _).alloc (Nat.le_refl _) _
  have G1 : w.grownBy (w.alloc (.cells (cpA v c) 30)) v.ownBlock := World.grownBy_alloc w _ _
  have c1 := mark_any v c.ts k _ base (ho.below B1) (by omega) h0 (by omega)
  obtain ⟨ao, cap, rfl⟩ := reads_form ho.reads
  have hl' : (c.ts.length : Int) ≤ 1048576 := by omega
  clear ho hl
  unfold CpV cpA at *
  go_enter Tryd.func23, Tryd.ntmps23
  go_wp2_with fail
  refine c1.mono ?_
  rintro e w2 ⟨rfl, o2, g2⟩
  have HC : Hid (Own w2 base (.slice ao c.ts.length cap) (marks k c.ts.length) ∧ w.grownBy w2 (Value.slice ao c.ts.length cap).ownBlock) := ⟨o2, G1.trans g2⟩
  clear o2 g2 G1 B1 c1
  go_wp2
  go_ret
  exact ⟨rfl, HC.out⟩

set_option maxRecDepth 20000 in
set_option maxHeartbeats 1000000 in
theorem heldCopier_any (v : Value) (c : Cp) (n : Nat) (k : Int) (w : World) (hn : n = c.ts.length) (hr : Reads w v (marks k n)) (hl : n ≤ 1048576) (h0 : 0 ≤ k) (h1 : k ≤ 4194304) :
    Calls Tryd.prog 27 #[CpV v c, .int .i64 k] w fun e w' => e = .returned (.int .i64 (k + n)) ∧ Below w.heap.size w w' := by
  have B1 : Below w.heap.size w (w.alloc (.cells (cpA v c) 30)) := (Below.refl _ _).alloc (Nat.le_refl _) _
  have c1 := held_marks v n k _ (hr.below B1 (Nat.le_refl _)) (by omega) h0 (by omega)
  obtain ⟨ao, cap, rfl⟩ := reads_form hr
  have hl' : (n : Int) ≤ 1048576 := by omega
  clear hr hl hn
  unfold CpV cpA at *
  go_enter Tryd.func27, Tryd.ntmps27
  go_wp2_with fail
  refine c1.mono ?_
  rintro e w' ⟨rfl, hw⟩; subst w'
  go_wp2
  go_ret
  exact ⟨rfl, B1⟩
end Go.Proofs.YteooloceaoinlaaDoor
/- An empty list is marked: nothing is written. -/
namespace Go.Proofs.YteooloceaoinlaaDoor
open Go.ChangeShapes Go.WideShapes Go.ChangeAt Go.RowKit

set_option maxRecDepth 20000 in
set_option maxHeartbeats 400000 in
theorem mark0_any (v : Value) (k : Int) (w : World) (h : Reads w v []) :
    Calls Tryd.prog 39 #[v, .int .i64 k] w fun e w' => e = .returned (.int .i64 k) ∧ w' = w := by
  obtain ⟨ao, cap, e⟩ := reads_form h
  simp only [List.length_nil] at e
  subst e
  clear h
  go_enter Tryd.func39, Tryd.ntmps39
  go_wp2
  go_loop [1, 5] (fun q i => i = .int .i64 0 ∧ q = .int .i64 k) (fun _ _ => 0)
  case atStart => exact ⟨rfl, rfl⟩
  case round =>
    obtain ⟨rfl, rfl⟩ := hrel
    go_wp2
    go_ret
    exact ⟨rfl, rfl⟩

end Go.Proofs.YteooloceaoinlaaDoor
/- Copiers in the state of a long walk. -/
namespace Go.Proofs.YteooloceaoinlaaDoor
open Go.ChangeShapes Go.WideShapes Go.ChangeAt Go.RowKit

theorem Sta.markC {w wx wy : World} {L : List Item} {v : Value} {xs ys : List Int} (h : Sta w wx L) (n : Nat) (e : L[n]? = some (Lst v xs)) (o : Own wy 0 v ys) (m : wx.grownBy wy v.ownBlock) : Sta w wy (L.set n (Lst v ys)) :=
  h.turn n e (Turned.of_grown m) (Lst v ys) rfl o
theorem Sta.readsC {w wx : World} {L : List Item} {v : Value} {xs : List Int} (h : Sta w wx L) (n : Nat) (e : L[n]? = some (Lst v xs)) : Reads wx v xs := (h.get n e).reads
theorem Sta.oneC {w wx : World} {L : List Item} {v : Value} {xs : List Int} (h : Sta w wx L) (n : Nat) (e : L[n]? = some (Lst v xs)) (k : Cp) : (cpA v k).all (·.oneCell') = true := cpA_one k (reads_one (h.readsC n e))
theorem Sta.oneM {w wx : World} {L : List Item} {v : Value} {xs : List Int} (h : Sta w wx L) (n : Nat) (e : L[n]? = some (LstM v xs)) (k : Cp) : (cpA v k).all (·.oneCell') = true := cpA_one k (reads_one (h.readsM n e))

set_option maxRecDepth 20000 in
set_option maxHeartbeats 1000000 in
theorem markCopier0_any (v : Value) (c : Cp) (k : Int) (w : World) (hr : Reads w v c.ts) (h0 : c.ts = []) :
    Calls Tryd.prog 23 #[CpV v c, .int .i64 k] w fun e w' => e = .returned (.int .i64 k) ∧ Below w.heap.size w w' := by
  have B1 : Below w.heap.size w (w.alloc (.cells (cpA v c) 30)) := (Below.refl _ _).alloc (Nat.le_refl _) _
  rw [h0] at hr
  have c1 := mark0_any v k (w.alloc (.cells (cpA v c) 30)) (hr.below B1 (Nat.le_refl _))
  obtain ⟨ao, cap, e⟩ := reads_form hr
  simp only [List.length_nil] at e
  subst e
  clear hr h0
  unfold CpV cpA at *
  go_enter Tryd.func23, Tryd.ntmps23
  go_wp2_with fail
  refine c1.mono ?_
  rintro e w2 ⟨rfl, hw⟩
  subst w2
  clear c1
  go_wp2
  go_ret
  exact ⟨rfl, B1⟩
theorem markCopierM_any (v : Value) (c : Cp) (k : Int) (w : World) (base : Nat) (ho : Mine w base v c.ts) (hl : c.ts.length ≤ 1048576) (h0 : 0 ≤ k) (h1 : k ≤ 4194304) :
    Calls Tryd.prog 23 #[CpV v c, .int .i64 k] w fun e w' => e = .returned (.int .i64 (k + c.ts.length)) ∧ Mine w' base v (marks k c.ts.length) ∧ Turned w w' (mineOf v c.ts) := by
  by_cases hx : c.ts = []
  · refine (markCopier0_any v c k w ho.reads hx).mono ?_
    rintro e w' ⟨rfl, b⟩
    rw [hx]
    refine ⟨by simp, ?_, Turned.of_below b⟩
    have hr := ho.reads
    rw [hx] at hr
    exact Reads.mine hr.later
  · refine (markCopier_any v c k w base (ho.own hx) hl h0 h1).mono ?_
    rintro e w' ⟨rfl, o, g⟩
    refine ⟨rfl, .inl o, ?_⟩
    unfold mineOf
    rw [if_neg (fun e => hx (List.eq_nil_of_length_eq_zero e))]
    exact Turned.of_grown g
end Go.Proofs.YteooloceaoinlaaDoor
/- How the laws take a sink over, compare two, mark one and look at the marks. -/
namespace Go.Proofs.YteooloceaoinlaaDoor
open Go.ChangeShapes Go.WideShapes Go.ChangeAt Go.RowKit

set_option maxRecDepth 20000 in
set_option maxHeartbeats 1000000 in
theorem eqSink_any (u v : Value) (c : Sn) (w : World) (hu : Reads w u c.ts) (hv : Reads w v c.ts) (hl : c.ts.length ≤ 1099511627776) :
    Calls Tryd.prog 20 #[SnV u c, SnV v c] w fun e w' => e = .returned (.bool true) ∧ Below w.heap.size w w' := by
  obtain ⟨w1, hw1⟩ : ∃ w1, w1 = (w.alloc (.cells (snA u c) 32)).alloc (.cells (snA v c) 32) := ⟨_, rfl⟩
  have HB : Hid (Below w.heap.size w w1) := by rw [hw1]; exact ((Below.refl _ _).alloc (Nat.le_refl _) _).alloc (by simp) _
  have c1 := eq_any u v c.ts c.ts w1 (hu.below HB.out (Nat.le_refl _)) (hv.below HB.out (Nat.le_refl _)) hl
  rw [show decide (c.ts = c.ts) = true by simp] at c1
  obtain ⟨ao, ca, rfl⟩ := reads_form hu
  obtain ⟨bo, cb, rfl⟩ := reads_form hv
  have HW : Hid (w1 = (w.alloc (.cells #[.int .i64 c.tr, .slice ao c.ts.length ca] 32)).alloc (.cells #[.int .i64 c.tr, .slice bo c.ts.length cb] 32)) := hw1
  clear hw1 hu hv hl
  unfold SnV snA
  go_enter Tryd.func20, Tryd.ntmps20
  go_wp2_with fail
  rw [← HW.out]
  clear HW
  refine c1.mono ?_
  rintro e w3 ⟨rfl, n3, hw3⟩
  have B3 : Hid (Below w.heap.size w w3) := by rw [hw3]; exact below_drewN HB.out n3
  clear hw3 c1 HB
  go_wp2
  go_ret
  exact ⟨rfl, B3.out⟩

set_option maxRecDepth 20000 in
set_option maxHeartbeats 1000000 in
theorem markSink_any (v : Value) (c : Sn) (k : Int) (w : World) (base : Nat) (ho : Own w base v c.ts) (hl : c.ts.length ≤ 1048576) (h0 : 0 ≤ k) (h1 : k ≤ 4194304) :
    Calls Tryd.prog 24 #[SnV v c, .int .i64 k] w fun e w' => e = .returned (.int .i64 (k + c.ts.length)) ∧ Own w' base v (marks k c.ts.length) ∧ w.grownBy w' v.ownBlock := by
  have B1 : Below w.heap.size w (w.alloc (.cells (snA v c) 32)) := (Below.refl _ _).alloc (Nat.le_refl _) _
  have G1 : w.grownBy (w.alloc (.cells (snA v c) 32)) v.ownBlock := World.grownBy_alloc w _ _
  have c1 := mark_any v c.ts k _ base (ho.below B1) (by omega) h0 (by omega)
  obtain ⟨ao, cap, rfl⟩ := reads_form ho.reads
  have hl' : (c.ts.length : Int) ≤ 1048576 := by omega
  clear ho hl
  unfold SnV snA at *
  go_enter Tryd.func24, Tryd.ntmps24
  go_wp2_with fail
  refine c1.mono ?_
  rintro e w2 ⟨rfl, o2, g2⟩
  have HC : Hid (Own w2 base (.slice ao c.ts.length cap) (marks k c.ts.length) ∧ w.grownBy w2 (Value.slice ao c.ts.length cap).ownBlock) := ⟨o2, G1.trans g2⟩
  clear o2 g2 G1 B1 c1
  go_wp2
  go_ret
  exact ⟨rfl, HC.out⟩

set_option maxRecDepth 20000 in
set_option maxHeartbeats 1000000 in
theorem heldSink_any (v : Value) (c : Sn) (n : Nat) (k : Int) (w : World) (hn : n = c.ts.length) (hr : Reads w v (marks k n)) (hl : n ≤ 1048576) (h0 : 0 ≤ k) (h1 : k ≤ 4194304) :
    Calls Tryd.prog 28 #[SnV v c, .int .i64 k] w fun e w' => e = .returned (.int .i64 (k + n)) ∧ Below w.heap.size w w' := by
  have B1 : Below w.heap.size w (w.alloc (.cells (snA v c) 32)) := (Below.refl _ _).alloc (Nat.le_refl _) _
  have c1 := held_marks v n k _ (hr.below B1 (Nat.le_refl _)) (by omega) h0 (by omega)
  obtain ⟨ao, cap, rfl⟩ := reads_form hr
  have hl' : (n : Int) ≤ 1048576 := by omega
  clear hr hl hn
  unfold SnV snA at *
  go_enter Tryd.func28, Tryd.ntmps28
  go_wp2_with fail
  refine c1.mono ?_
  rintro e w' ⟨rfl, hw⟩; subst w'
  go_wp2
  go_ret
  exact ⟨rfl, B1⟩
end Go.Proofs.YteooloceaoinlaaDoor
/- Sinks in the state of a long walk. -/
namespace Go.Proofs.YteooloceaoinlaaDoor
open Go.ChangeShapes Go.WideShapes Go.ChangeAt Go.RowKit

theorem Sta.markK {w wx wy : World} {L : List Item} {v : Value} {xs ys : List Int} (h : Sta w wx L) (n : Nat) (e : L[n]? = some (Lst v xs)) (o : Own wy 0 v ys) (m : wx.grownBy wy v.ownBlock) : Sta w wy (L.set n (Lst v ys)) :=
  h.turn n e (Turned.of_grown m) (Lst v ys) rfl o
theorem Sta.readsK {w wx : World} {L : List Item} {v : Value} {xs : List Int} (h : Sta w wx L) (n : Nat) (e : L[n]? = some (Lst v xs)) : Reads wx v xs := (h.get n e).reads
theorem Sta.oneK {w wx : World} {L : List Item} {v : Value} {xs : List Int} (h : Sta w wx L) (n : Nat) (e : L[n]? = some (Lst v xs)) (k : Sn) : (snA v k).all (·.oneCell') = true := snA_one k (reads_one ((h.get n e).reads))
theorem Sta.oneN {w wx : World} {L : List Item} {v : Value} {xs : List Int} (h : Sta w wx L) (n : Nat) (e : L[n]? = some (LstM v xs)) (k : Sn) : (snA v k).all (·.oneCell') = true := snA_one k (reads_one (h.readsM n e))

set_option maxRecDepth 20000 in
set_option maxHeartbeats 1000000 in
theorem markSink0_any (v : Value) (c : Sn) (k : Int) (w : World) (hr : Reads w v c.ts) (h0 : c.ts = []) :
    Calls Tryd.prog 24 #[SnV v c, .int .i64 k] w fun e w' => e = .returned (.int .i64 k) ∧ Below w.heap.size w w' := by
  have B1 : Below w.heap.size w (w.alloc (.cells (snA v c) 32)) := (Below.refl _ _).alloc (Nat.le_refl _) _
  rw [h0] at hr
  have c1 := mark0_any v k (w.alloc (.cells (snA v c) 32)) (hr.below B1 (Nat.le_refl _))
  obtain ⟨ao, cap, e⟩ := reads_form hr
  simp only [List.length_nil] at e
  subst e
  clear hr h0
  unfold SnV snA at *
  go_enter Tryd.func24, Tryd.ntmps24
  go_wp2_with fail
  refine c1.mono ?_
  rintro e w2 ⟨rfl, hw⟩
  subst w2
  clear c1
  go_wp2
  go_ret
  exact ⟨rfl, B1⟩
theorem markSinkM_any (v : Value) (c : Sn) (k : Int) (w : World) (base : Nat) (ho : Mine w base v c.ts) (hl : c.ts.length ≤ 1048576) (h0 : 0 ≤ k) (h1 : k ≤ 4194304) :
    Calls Tryd.prog 24 #[SnV v c, .int .i64 k] w fun e w' => e = .returned (.int .i64 (k + c.ts.length)) ∧ Mine w' base v (marks k c.ts.length) ∧ Turned w w' (mineOf v c.ts) := by
  by_cases hx : c.ts = []
  · refine (markSink0_any v c k w ho.reads hx).mono ?_
    rintro e w' ⟨rfl, b⟩
    rw [hx]
    refine ⟨by simp, ?_, Turned.of_below b⟩
    have hr := ho.reads
    rw [hx] at hr
    exact Reads.mine hr.later
  · refine (markSink_any v c k w base (ho.own hx) hl h0 h1).mono ?_
    rintro e w' ⟨rfl, o, g⟩
    refine ⟨rfl, .inl o, ?_⟩
    unfold mineOf
    rw [if_neg (fun e => hx (List.eq_nil_of_length_eq_zero e))]
    exact Turned.of_grown g
end Go.Proofs.YteooloceaoinlaaDoor
/- Disks in the state of a long walk. -/
namespace Go.Proofs.YteooloceaoinlaaDoor
open Go.ChangeShapes Go.WideShapes Go.ChangeAt Go.RowKit

def Dsk (u v : Value) (xs ys : List Int) : Item := ⟨u.ownBlock.toList ++ v.ownBlock.toList, 0, fun w => OwnD w 0 u v xs ys, fun _ _ e _ h => ⟨h.1.frame (fun b hb => e b (List.mem_append_left _ hb)), h.2.1.frame (fun b hb => e b (List.mem_append_right _ hb)), h.2.2⟩⟩
theorem Sta.disk {w wx wy : World} {L : List Item} {u v : Value} {xs ys : List Int} (h : Sta w wx L) (o : OwnD wy wx.heap.size u v xs ys) (b : Below wx.heap.size wx wy) : Sta w wy (Dsk u v xs ys :: L) :=
  h.add b (Dsk u v xs ys) ⟨o.1.mono (Nat.zero_le _), o.2.1.mono (Nat.zero_le _), o.2.2⟩ (fun k hk => by
    simp only [Dsk, List.mem_append, Option.mem_toList] at hk
    rcases hk with hk | hk
    · exact o.1.lt k hk
    · exact o.2.1.lt k hk)
theorem Marked.turned {w w' : World} {u v : Value} (h : Marked w w' u v) : Turned w w' (u.ownBlock.toList ++ v.ownBlock.toList) := by
  obtain ⟨w1, g1, g2⟩ := h
  exact (Turned.of_grown g1).trans (Turned.of_grown g2)
theorem Sta.marked {w wx wy : World} {L : List Item} {u v : Value} {xs ys zs ts : List Int} (h : Sta w wx L) (n : Nat) (e : L[n]? = some (Dsk u v xs ys)) (o : OwnD wy 0 u v zs ts) (m : Marked wx wy u v) : Sta w wy (L.set n (Dsk u v zs ts)) :=
  h.turn n e m.turned (Dsk u v zs ts) rfl o
theorem Sta.readsU {w wx : World} {L : List Item} {u v : Value} {xs ys : List Int} (h : Sta w wx L) (n : Nat) (e : L[n]? = some (Dsk u v xs ys)) : Reads wx u xs := (h.get n e).1.reads
theorem Sta.readsV {w wx : World} {L : List Item} {u v : Value} {xs ys : List Int} (h : Sta w wx L) (n : Nat) (e : L[n]? = some (Dsk u v xs ys)) : Reads wx v ys := (h.get n e).2.1.reads
theorem Sta.ones {w wx : World} {L : List Item} {u v : Value} {xs ys : List Int} (h : Sta w wx L) (n : Nat) (e : L[n]? = some (Dsk u v xs ys)) : (#[u, v] : Array Value).all (·.oneCell') = true := pair_one (h.readsU n e).one (h.readsV n e).one
theorem apart_blocks {i j : List Nat} {u v : Value} (hi : i = u.ownBlock.toList) (hj : j = v.ownBlock.toList) (h : ∀ b ∈ i, b ∉ j) : apart u v := by
  subst hi hj
  refine ⟨?_, ?_⟩
  · by_cases e : u.ownBlock = none
    · exact .inl e
    · refine .inr fun e2 => ?_
      obtain ⟨g, hg⟩ := Option.ne_none_iff_exists'.1 e
      exact h g (by simp [hg]) (by simp [← e2, hg])
  · by_cases e : v.ownBlock = none
    · exact .inl e
    · refine .inr fun e2 => ?_
      obtain ⟨g, hg⟩ := Option.ne_none_iff_exists'.1 e
      exact h g (by simp [← e2, hg]) (by simp [hg])
/- Two lists that lie apart are a disk. -/
theorem Sta.two {w wx : World} {L : List Item} {u v : Value} {xs ys : List Int} (h : Sta w wx (Lst u xs :: Lst v ys :: L)) : Sta w wx (Dsk u v xs ys :: L) :=
  h.join (Dsk u v xs ys) rfl ⟨h.get 0 rfl, h.get 1 rfl, apart_blocks rfl rfl (h.apart.1 (Lst v ys) (by simp))⟩
end Go.Proofs.YteooloceaoinlaaDoor
