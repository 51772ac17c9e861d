/- An empty list is marked: nothing is written. -/
import Derived.Test.YteooloceaoinlaaGreatDoorM6
import Derived.Test.YteooloceaoinlaaGreatDoorM14
import Derived.Test.YteooloceaoinlaaGreatDoorM18
import Derived.Test.YteooloceaoinlaaGreatDoorM8
import Derived.Test.YteooloceaoinlaaGreatDoorM5
namespace Go.Proofs.YteooloceaoinlaaGreatDoor
open Go.ChangeShapes Go.WideShapes Go.ChangeAt Go.RowKit

set_option maxRecDepth 20000 in
set_option maxHeartbeats 400000 in
theorem mark0_any (v : Value) (k : Int) (w : World) (h : Reads w v []) :
    Calls Tryz.prog 91 #[v, .int .i64 k] w fun e w' => e = .returned (.int .i64 k) ∧ w' = w := by
  obtain ⟨ao, cap, e⟩ := reads_form h
  simp only [List.length_nil] at e
  subst e
  clear h
  go_enter Tryz.func91, Tryz.ntmps91
  go_wp2
  go_loop [1, 5] (fun q i => i = .int .i64 0 ∧ q = .int .i64 k) (fun _ _ => 0)
  case atStart => exact ⟨rfl, rfl⟩
  case round =>
    obtain ⟨rfl, rfl⟩ := hrel
    go_wp2
    go_ret
    exact ⟨rfl, rfl⟩

end Go.Proofs.YteooloceaoinlaaGreatDoor
/- Copiers in the state of a long walk. -/
namespace Go.Proofs.YteooloceaoinlaaGreatDoor
open Go.ChangeShapes Go.WideShapes Go.ChangeAt Go.RowKit

theorem Sta.markC {w wx wy : World} {L : List Item} {v : Value} {xs ys : List Int} (h : Sta w wx L) (n : Nat) (e : L[n]? = some (Lst v xs)) (o : Own wy 0 v ys) (m : wx.grownBy wy v.ownBlock) : Sta w wy (L.set n (Lst v ys)) :=
  h.turn n e (Turned.of_grown m) (Lst v ys) rfl o
theorem Sta.readsC {w wx : World} {L : List Item} {v : Value} {xs : List Int} (h : Sta w wx L) (n : Nat) (e : L[n]? = some (Lst v xs)) : Reads wx v xs := (h.get n e).reads
theorem Sta.oneC {w wx : World} {L : List Item} {v : Value} {xs : List Int} (h : Sta w wx L) (n : Nat) (e : L[n]? = some (Lst v xs)) (k : Cp) : (cpA v k).all (·.oneCell') = true := cpA_one k (reads_one (h.readsC n e))
theorem Sta.oneM {w wx : World} {L : List Item} {v : Value} {xs : List Int} (h : Sta w wx L) (n : Nat) (e : L[n]? = some (LstM v xs)) (k : Cp) : (cpA v k).all (·.oneCell') = true := cpA_one k (reads_one (h.readsM n e))

set_option maxRecDepth 20000 in
set_option maxHeartbeats 1000000 in
theorem markCopier0_any (v : Value) (c : Cp) (k : Int) (w : World) (hr : Reads w v c.ts) (h0 : c.ts = []) :
    Calls Tryz.prog 52 #[CpV v c, .int .i64 k] w fun e w' => e = .returned (.int .i64 k) ∧ Below w.heap.size w w' := by
  have B1 : Below w.heap.size w (w.alloc (.cells (cpA v c) 40)) := (Below.refl _ _).alloc (Nat.le_refl _) _
  rw [h0] at hr
  have c1 := mark0_any v k (w.alloc (.cells (cpA v c) 40)) (hr.below B1 (Nat.le_refl _))
  obtain ⟨ao, cap, e⟩ := reads_form hr
  simp only [List.length_nil] at e
  subst e
  clear hr h0
  unfold CpV cpA at *
  go_enter Tryz.func52, Tryz.ntmps52
  go_wp2_with fail
  refine c1.mono ?_
  rintro e w2 ⟨rfl, hw⟩
  subst w2
  clear c1
  go_wp2
  go_ret
  exact ⟨rfl, B1⟩
theorem markCopierM_any (v : Value) (c : Cp) (k : Int) (w : World) (base : Nat) (ho : Mine w base v c.ts) (hl : c.ts.length ≤ 1048576) (h0 : 0 ≤ k) (h1 : k ≤ 4194304) :
    Calls Tryz.prog 52 #[CpV v c, .int .i64 k] w fun e w' => e = .returned (.int .i64 (k + c.ts.length)) ∧ Mine w' base v (marks k c.ts.length) ∧ Turned w w' (mineOf v c.ts) := by
  by_cases hx : c.ts = []
  · refine (markCopier0_any v c k w ho.reads hx).mono ?_
    rintro e w' ⟨rfl, b⟩
    rw [hx]
    refine ⟨by simp, ?_, Turned.of_below b⟩
    have hr := ho.reads
    rw [hx] at hr
    exact Reads.mine hr.later
  · refine (markCopier_any v c k w base (ho.own hx) hl h0 h1).mono ?_
    rintro e w' ⟨rfl, o, g⟩
    refine ⟨rfl, .inl o, ?_⟩
    unfold mineOf
    rw [if_neg (fun e => hx (List.eq_nil_of_length_eq_zero e))]
    exact Turned.of_grown g
end Go.Proofs.YteooloceaoinlaaGreatDoor
/- How the laws take a sink over, compare two, mark one and look at the marks. -/
namespace Go.Proofs.YteooloceaoinlaaGreatDoor
open Go.ChangeShapes Go.WideShapes Go.ChangeAt Go.RowKit

theorem Tryz.isLSn : IsS 32 2 := ⟨⟨_, Tryz.underlying32⟩, by kernel_rfl⟩

set_option maxRecDepth 20000 in
set_option maxHeartbeats 1000000 in
theorem szSink_any (v : Value) (c : Sn) (k : Int) (w : World) (hr : Reads w v c.ts) (h0 : 0 ≤ k) (h1 : k ≤ 1048576) :
    Calls Tryz.prog 20 #[SnV v c, .int .i64 k] w fun e w' => e = .returned (.int .i64 (szI k c.ts.length)) ∧ Below w.heap.size w w' := by
  have B1 : Below w.heap.size w (w.alloc (.cells (snA v c) 32)) := (Below.refl _ _).alloc (Nat.le_refl _) _
  have c1 := sz_any v c.ts k _ (hr.below B1 (Nat.le_refl _)) h0 h1
  have hs : szI k c.ts.length = -1 ∨ 0 ≤ szI k c.ts.length := by unfold szI; split <;> omega
  obtain ⟨x, hx⟩ : ∃ x, x = szI k c.ts.length := ⟨_, rfl⟩
  rw [← hx] at c1 hs ⊢
  obtain ⟨ao, cap, rfl⟩ := reads_form hr
  clear hx hr
  unfold SnV snA at *
  rcases hs with hs | hs
  · subst hs
    go_enter Tryz.func20, Tryz.ntmps20
    go_wp2_with fail
    refine c1.mono ?_
    rintro e w' ⟨rfl, hw⟩; subst w'
    go_wp2
    go_ret
    exact ⟨rfl, B1⟩
  · go_enter Tryz.func20, Tryz.ntmps20
    go_wp2_with fail
    refine c1.mono ?_
    rintro e w' ⟨rfl, hw⟩; subst w'
    go_wp2
    go_ret
    exact ⟨rfl, B1⟩

set_option maxRecDepth 20000 in
set_option maxHeartbeats 2000000 in
theorem toSink_any (v : Value) (c : Sn) (w : World) (hr : Reads w v c.ts) (hl : c.ts.length ≤ 1099511627776) :
    Calls Tryz.prog 32 #[SnV v c] w fun e w' => ∃ u, e = .returned (SnV u c) ∧ Own w' w.heap.size u c.ts ∧ Below w.heap.size w w' := by
  obtain ⟨w1, hw1⟩ : ∃ w1, w1 = ((w.alloc (.cells (snA v c) 32)).alloc (.cells zeroSn 41)).alloc (.cells #[.int .i64 c.tr, .slice none 0 0] 41) := ⟨_, rfl⟩
  have q0 : StB w1 (w.heap.size + 1) 41 zeroSn := by
    rw [hw1]
    have := (StB.new (w.alloc (.cells (snA v c) 32)) 41 zeroSn).alloc (.cells #[.int .i64 c.tr, .slice none 0 0] 41)
    rwa [World.size_alloc] at this
  have r0 : StB w1 (w.heap.size + 1 + 1) 41 #[.int .i64 c.tr, .slice none 0 0] := by
    rw [hw1]
    have := StB.new ((w.alloc (.cells (snA v c) 32)).alloc (.cells zeroSn 41)) 41 #[.int .i64 c.tr, .slice none 0 0]
    rwa [World.size_alloc, World.size_alloc] at this
  have b1 : Below w.heap.size w w1 := by rw [hw1]; exact (((Below.refl _ _).alloc (Nat.le_refl _) _).alloc (by simp) _).alloc (by simp; omega) _
  have c1 := to_any v c.ts w1 (hr.below b1 (Nat.le_refl _)) hl
  have hs1 := r0.lt
  obtain ⟨ao, cap, rfl⟩ := reads_form hr
  have HW : Hid (w1 = ((w.alloc (.cells #[.int .i64 c.tr, .slice ao c.ts.length cap] 32)).alloc (.cells #[.int .i64 0, .slice none 0 0] 41)).alloc (.cells #[.int .i64 c.tr, .slice none 0 0] 41)) := hw1
  clear hw1 hr hl
  unfold SnV
  conv in snA (.slice ao c.ts.length cap) c => unfold snA
  go_enter Tryz.func32, Tryz.ntmps32
  go_wp2_with fail
  rw [← HW.out]
  clear HW
  refine c1.mono ?_
  rintro e w3 ⟨u, rfl, o3, b3⟩
  replace q0 := q0.below b3
  replace r0 := r0.below b3
  have B3 := b1.trans (b3.mono b1.size)
  obtain ⟨ab, cb, rfl⟩ := reads_form o3.reads
  have m4 : w3.cell? ⟨w.heap.size + 1 + 1, 1, none⟩ = some (.slice none 0 0) := r0.cell 1 rfl
  have f4 := r0.frozen 1
  have R4 := r0.put 1 (.slice ab c.ts.length cb) (ds := snA (.slice ab c.ts.length cb) c) rfl
  have Q4 := q0.other ⟨w.heap.size + 1 + 1, 1, none⟩ (.slice ab c.ts.length cb) (by simp)
  have HP : Hid (Own (w3.setCell ⟨w.heap.size + 1 + 1, 1, none⟩ (.slice ab c.ts.length cb)) w1.heap.size (.slice ab c.ts.length cb) c.ts ∧ Below w.heap.size w (w3.setCell ⟨w.heap.size + 1 + 1, 1, none⟩ (.slice ab c.ts.length cb))) := ⟨o3.setLt (by omega) 1 _, B3.setCell (by simp; omega) _⟩
  clear q0 r0 c1 o3 b3 b1 B3
  go_upto_region 4 with fail
  obtain ⟨w4, hw4⟩ : ∃ w4, w4 = w3.setCell ⟨w.heap.size + 1 + 1, 1, none⟩ (.slice ab c.ts.length cb) := ⟨_, rfl⟩
  rw [← hw4] at R4 Q4 HP ⊢
  clear hw4 m4 f4
  go_wp2_with (first | (refine wpList_getS Tryz.isSn rfl _ rfl (w.heap.size + 1 + 1) rfl (snA (.slice ab c.ts.length cb) c) rfl R4 ?_) | (refine wpList_putS Tryz.isSn rfl _ _ rfl (w.heap.size + 1) (snA (.slice ab c.ts.length cb) c) zeroSn rfl rfl rfl rfl (snA_one c rfl) Q4 ?_; intro w8 s8 g8))
  refine bodyPost_ret (results_S Tryz.isSn rfl _ _ (w.heap.size + 1) _ rfl rfl s8) rfl ?_
  exact ⟨_, rfl, (HP.out.1.keptLt g8 (by omega)).mono (by omega), HP.out.2.grown g8 HP.out.2.size (fun k e => by cases e; omega)⟩

set_option maxRecDepth 20000 in
set_option maxHeartbeats 1000000 in
theorem eqSink_any (u v : Value) (c : Sn) (w : World) (hu : Reads w u c.ts) (hv : Reads w v c.ts) (hl : c.ts.length ≤ 1099511627776) :
    Calls Tryz.prog 43 #[SnV u c, SnV v c] w fun e w' => e = .returned (.bool true) ∧ Below w.heap.size w w' := by
  obtain ⟨w1, hw1⟩ : ∃ w1, w1 = (w.alloc (.cells (snA u c) 41)).alloc (.cells (snA v c) 41) := ⟨_, rfl⟩
  have HB : Hid (Below w.heap.size w w1) := by rw [hw1]; exact ((Below.refl _ _).alloc (Nat.le_refl _) _).alloc (by simp) _
  have c1 := eq_any u v c.ts c.ts w1 (hu.below HB.out (Nat.le_refl _)) (hv.below HB.out (Nat.le_refl _)) hl
  rw [show decide (c.ts = c.ts) = true by simp] at c1
  obtain ⟨ao, ca, rfl⟩ := reads_form hu
  obtain ⟨bo, cb, rfl⟩ := reads_form hv
  have HW : Hid (w1 = (w.alloc (.cells #[.int .i64 c.tr, .slice ao c.ts.length ca] 41)).alloc (.cells #[.int .i64 c.tr, .slice bo c.ts.length cb] 41)) := hw1
  clear hw1 hu hv hl
  unfold SnV snA
  go_enter Tryz.func43, Tryz.ntmps43
  go_wp2_with fail
  rw [← HW.out]
  clear HW
  refine c1.mono ?_
  rintro e w3 ⟨rfl, n3, hw3⟩
  have B3 : Hid (Below w.heap.size w w3) := by rw [hw3]; exact below_drewN HB.out n3
  clear hw3 c1 HB
  go_wp2
  go_ret
  exact ⟨rfl, B3.out⟩

set_option maxRecDepth 20000 in
set_option maxHeartbeats 1000000 in
theorem markSink_any (v : Value) (c : Sn) (k : Int) (w : World) (base : Nat) (ho : Own w base v c.ts) (hl : c.ts.length ≤ 1048576) (h0 : 0 ≤ k) (h1 : k ≤ 4194304) :
    Calls Tryz.prog 53 #[SnV v c, .int .i64 k] w fun e w' => e = .returned (.int .i64 (k + c.ts.length)) ∧ Own w' base v (marks k c.ts.length) ∧ w.grownBy w' v.ownBlock := by
  have B1 : Below w.heap.size w (w.alloc (.cells (snA v c) 41)) := (Below.refl _ _).alloc (Nat.le_refl _) _
  have G1 : w.grownBy (w.alloc (.cells (snA v c) 41)) v.ownBlock := World.grownBy_alloc w _ _
  have c1 := mark_any v c.ts k _ base (ho.below B1) (by omega) h0 (by omega)
  obtain ⟨ao, cap, rfl⟩ := reads_form ho.reads
  have hl' : (c.ts.length : Int) ≤ 1048576 := by omega
  clear ho hl
  unfold SnV snA at *
  go_enter Tryz.func53, Tryz.ntmps53
  go_wp2_with fail
  refine c1.mono ?_
  rintro e w2 ⟨rfl, o2, g2⟩
  have HC : Hid (Own w2 base (.slice ao c.ts.length cap) (marks k c.ts.length) ∧ w.grownBy w2 (Value.slice ao c.ts.length cap).ownBlock) := ⟨o2, G1.trans g2⟩
  clear o2 g2 G1 B1 c1
  go_wp2
  go_ret
  exact ⟨rfl, HC.out⟩

set_option maxRecDepth 20000 in
set_option maxHeartbeats 1000000 in
theorem heldSink_any (v : Value) (c : Sn) (n : Nat) (k : Int) (w : World) (hn : n = c.ts.length) (hr : Reads w v (marks k n)) (hl : n ≤ 1048576) (h0 : 0 ≤ k) (h1 : k ≤ 4194304) :
    Calls Tryz.prog 57 #[SnV v c, .int .i64 k] w fun e w' => e = .returned (.int .i64 (k + n)) ∧ Below w.heap.size w w' := by
  have B1 : Below w.heap.size w (w.alloc (.cells (snA v c) 41)) := (Below.refl _ _).alloc (Nat.le_refl _) _
  have c1 := held_marks v n k _ (hr.below B1 (Nat.le_refl _)) (by omega) h0 (by omega)
  obtain ⟨ao, cap, rfl⟩ := reads_form hr
  have hl' : (n : Int) ≤ 1048576 := by omega
  clear hr hl hn
  unfold SnV snA at *
  go_enter Tryz.func57, Tryz.ntmps57
  go_wp2_with fail
  refine c1.mono ?_
  rintro e w' ⟨rfl, hw⟩; subst w'
  go_wp2
  go_ret
  exact ⟨rfl, B1⟩
end Go.Proofs.YteooloceaoinlaaGreatDoor
/- Sinks in the state of a long walk. -/
namespace Go.Proofs.YteooloceaoinlaaGreatDoor
open Go.ChangeShapes Go.WideShapes Go.ChangeAt Go.RowKit

theorem Sta.markK {w wx wy : World} {L : List Item} {v : Value} {xs ys : List Int} (h : Sta w wx L) (n : Nat) (e : L[n]? = some (Lst v xs)) (o : Own wy 0 v ys) (m : wx.grownBy wy v.ownBlock) : Sta w wy (L.set n (Lst v ys)) :=
  h.turn n e (Turned.of_grown m) (Lst v ys) rfl o
theorem Sta.readsK {w wx : World} {L : List Item} {v : Value} {xs : List Int} (h : Sta w wx L) (n : Nat) (e : L[n]? = some (Lst v xs)) : Reads wx v xs := (h.get n e).reads
theorem Sta.oneK {w wx : World} {L : List Item} {v : Value} {xs : List Int} (h : Sta w wx L) (n : Nat) (e : L[n]? = some (Lst v xs)) (k : Sn) : (snA v k).all (·.oneCell') = true := snA_one k (reads_one ((h.get n e).reads))
theorem Sta.oneN {w wx : World} {L : List Item} {v : Value} {xs : List Int} (h : Sta w wx L) (n : Nat) (e : L[n]? = some (LstM v xs)) (k : Sn) : (snA v k).all (·.oneCell') = true := snA_one k (reads_one (h.readsM n e))

set_option maxRecDepth 20000 in
set_option maxHeartbeats 1000000 in
theorem markSink0_any (v : Value) (c : Sn) (k : Int) (w : World) (hr : Reads w v c.ts) (h0 : c.ts = []) :
    Calls Tryz.prog 53 #[SnV v c, .int .i64 k] w fun e w' => e = .returned (.int .i64 k) ∧ Below w.heap.size w w' := by
  have B1 : Below w.heap.size w (w.alloc (.cells (snA v c) 41)) := (Below.refl _ _).alloc (Nat.le_refl _) _
  rw [h0] at hr
  have c1 := mark0_any v k (w.alloc (.cells (snA v c) 41)) (hr.below B1 (Nat.le_refl _))
  obtain ⟨ao, cap, e⟩ := reads_form hr
  simp only [List.length_nil] at e
  subst e
  clear hr h0
  unfold SnV snA at *
  go_enter Tryz.func53, Tryz.ntmps53
  go_wp2_with fail
  refine c1.mono ?_
  rintro e w2 ⟨rfl, hw⟩
  subst w2
  clear c1
  go_wp2
  go_ret
  exact ⟨rfl, B1⟩
theorem markSinkM_any (v : Value) (c : Sn) (k : Int) (w : World) (base : Nat) (ho : Mine w base v c.ts) (hl : c.ts.length ≤ 1048576) (h0 : 0 ≤ k) (h1 : k ≤ 4194304) :
    Calls Tryz.prog 53 #[SnV v c, .int .i64 k] w fun e w' => e = .returned (.int .i64 (k + c.ts.length)) ∧ Mine w' base v (marks k c.ts.length) ∧ Turned w w' (mineOf v c.ts) := by
  by_cases hx : c.ts = []
  · refine (markSink0_any v c k w ho.reads hx).mono ?_
    rintro e w' ⟨rfl, b⟩
    rw [hx]
    refine ⟨by simp, ?_, Turned.of_below b⟩
    have hr := ho.reads
    rw [hx] at hr
    exact Reads.mine hr.later
  · refine (markSink_any v c k w base (ho.own hx) hl h0 h1).mono ?_
    rintro e w' ⟨rfl, o, g⟩
    refine ⟨rfl, .inl o, ?_⟩
    unfold mineOf
    rw [if_neg (fun e => hx (List.eq_nil_of_length_eq_zero e))]
    exact Turned.of_grown g
end Go.Proofs.YteooloceaoinlaaGreatDoor
/- Disks in the state of a long walk. -/
namespace Go.Proofs.YteooloceaoinlaaGreatDoor
open Go.ChangeShapes Go.WideShapes Go.ChangeAt Go.RowKit

def Dsk (u v : Value) (xs ys : List Int) : Item := ⟨u.ownBlock.toList ++ v.ownBlock.toList, 0, fun w => OwnD w 0 u v xs ys, fun _ _ e _ h => ⟨h.1.frame (fun b hb => e b (List.mem_append_left _ hb)), h.2.1.frame (fun b hb => e b (List.mem_append_right _ hb)), h.2.2⟩⟩
theorem Sta.disk {w wx wy : World} {L : List Item} {u v : Value} {xs ys : List Int} (h : Sta w wx L) (o : OwnD wy wx.heap.size u v xs ys) (b : Below wx.heap.size wx wy) : Sta w wy (Dsk u v xs ys :: L) :=
  h.add b (Dsk u v xs ys) ⟨o.1.mono (Nat.zero_le _), o.2.1.mono (Nat.zero_le _), o.2.2⟩ (fun k hk => by
    simp only [Dsk, List.mem_append, Option.mem_toList] at hk
    rcases hk with hk | hk
    · exact o.1.lt k hk
    · exact o.2.1.lt k hk)
theorem Marked.turned {w w' : World} {u v : Value} (h : Marked w w' u v) : Turned w w' (u.ownBlock.toList ++ v.ownBlock.toList) := by
  obtain ⟨w1, g1, g2⟩ := h
  exact (Turned.of_grown g1).trans (Turned.of_grown g2)
theorem Sta.marked {w wx wy : World} {L : List Item} {u v : Value} {xs ys zs ts : List Int} (h : Sta w wx L) (n : Nat) (e : L[n]? = some (Dsk u v xs ys)) (o : OwnD wy 0 u v zs ts) (m : Marked wx wy u v) : Sta w wy (L.set n (Dsk u v zs ts)) :=
  h.turn n e m.turned (Dsk u v zs ts) rfl o
theorem Sta.readsU {w wx : World} {L : List Item} {u v : Value} {xs ys : List Int} (h : Sta w wx L) (n : Nat) (e : L[n]? = some (Dsk u v xs ys)) : Reads wx u xs := (h.get n e).1.reads
theorem Sta.readsV {w wx : World} {L : List Item} {u v : Value} {xs ys : List Int} (h : Sta w wx L) (n : Nat) (e : L[n]? = some (Dsk u v xs ys)) : Reads wx v ys := (h.get n e).2.1.reads
theorem Sta.ones {w wx : World} {L : List Item} {u v : Value} {xs ys : List Int} (h : Sta w wx L) (n : Nat) (e : L[n]? = some (Dsk u v xs ys)) : (#[u, v] : Array Value).all (·.oneCell') = true := pair_one (h.readsU n e).one (h.readsV n e).one
theorem apart_blocks {i j : List Nat} {u v : Value} (hi : i = u.ownBlock.toList) (hj : j = v.ownBlock.toList) (h : ∀ b ∈ i, b ∉ j) : apart u v := by
  subst hi hj
  refine ⟨?_, ?_⟩
  · by_cases e : u.ownBlock = none
    · exact .inl e
    · refine .inr fun e2 => ?_
      obtain ⟨g, hg⟩ := Option.ne_none_iff_exists'.1 e
      exact h g (by simp [hg]) (by simp [← e2, hg])
  · by_cases e : v.ownBlock = none
    · exact .inl e
    · refine .inr fun e2 => ?_
      obtain ⟨g, hg⟩ := Option.ne_none_iff_exists'.1 e
      exact h g (by simp [← e2, hg]) (by simp [hg])
/- Two lists that lie apart are a disk. -/
theorem Sta.two {w wx : World} {L : List Item} {u v : Value} {xs ys : List Int} (h : Sta w wx (Lst u xs :: Lst v ys :: L)) : Sta w wx (Dsk u v xs ys :: L) :=
  h.join (Dsk u v xs ys) rfl ⟨h.get 0 rfl, h.get 1 rfl, apart_blocks rfl rfl (h.apart.1 (Lst v ys) (by simp))⟩
end Go.Proofs.YteooloceaoinlaaGreatDoor
