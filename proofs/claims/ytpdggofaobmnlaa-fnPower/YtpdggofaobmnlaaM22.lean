/- How long a store's lists are, whatever is done to it. -/
import Derived.Test.YtpdggofaobmnlaaM14
import Derived.Test.YtpdggofaobmnlaaM19
import Derived.Test.YtpdggofaobmnlaaLHold
import Derived.Test.YtpdggofaobmnlaaM21
import Derived.Test.YtpdggofaobmnlaaM1
import Derived.Deep.QuietTactic
namespace Go.Proofs.Ytpdggofaobmnlaa
open Go.RowKit

theorem conf_fst (r : Hd × Bool) : (conf r).1 = r.1 := rfl
theorem act_len (h : Hd) (i : Int) (c : Cm) (hl : h.ks.length ≤ 1048576) : (h.act i c).1.ks.length ≤ 1048576 := by
  unfold Hd.act
  split
  · unfold Hd.regd Hd.free Hd.turn Hd.key
    split <;> simpa using hl
  · split
    · rw [conf_fst]; unfold Hd.resd Hd.take; split
      · exact hl
      · split <;> exact hl
    · split
      · rw [conf_fst]; unfold Hd.reld Hd.free; split
        · exact hl
        · split <;> exact hl
      · split
        · rw [conf_fst]; unfold Hd.clrd; split
          · exact hl
          · simp
        · split
          · split
            · exact hl
            · rw [conf_fst]
              unfold Hd.pred Hd.turn Hd.take
              split
              · exact hl
              · split
                · simpa [strike_len] using hl
                · simpa [strike_len] using hl
          · split <;> exact hl
theorem did_len (s : Sr) (i : Int) (c : Cm) (hx : s.xs.length ≤ 1048576) (hy : s.ys.length ≤ 1048576) (hk : s.h.ks.length ≤ 1048576) : (s.did i c).1.xs.length ≤ 1048576 ∧ (s.did i c).1.ys.length ≤ 1048576 ∧ (s.did i c).1.h.ks.length ≤ 1048576 := by
  unfold Sr.did
  split
  · split
    · unfold Sr.doing
      split
      · exact ⟨hx, hy, act_len s.h i c hk⟩
      · split
        · exact ⟨(didI_len s.xs s.ys c hx hy).1, (didI_len s.xs s.ys c hx hy).2, hk⟩
        · exact ⟨hx, hy, hk⟩
    · exact ⟨hx, hy, hk⟩
  · simp [Sr.zero, Hd.zero]
theorem power_len (s : Sr) (set : Int) (hx : s.xs.length ≤ 1048576) (hy : s.ys.length ≤ 1048576) (hk : s.h.ks.length ≤ 1048576) : (s.power set).xs.length ≤ 1048576 ∧ (s.power set).ys.length ≤ 1048576 ∧ (s.power set).h.ks.length ≤ 1048576 := by
  unfold Sr.power
  split
  · split
    · simp [chosenUp_len, hx, hk]
    · exact ⟨hx, hy, hk⟩
  · simp [Sr.zero, Hd.zero]
theorem new_len (n : Int) : (newS n).xs.length ≤ 1048576 ∧ (newS n).ys.length ≤ 1048576 ∧ (newS n).h.ks.length ≤ 1048576 := by
  unfold newS
  split
  · unfold zerosI Hd.new
    split
    · simp; omega
    · simp
  · simp [Sr.zero, Hd.zero]
end Go.Proofs.Ytpdggofaobmnlaa
/- Are two holdings alike? -/
namespace Go.Proofs.Ytpdggofaobmnlaa
open Go.ChangeShapes Go.WideShapes Go.ChangeAt Go.RowKit

def likeH (a b : Hd) : Bool := decide (a.ks = b.ks) && decide (a.kd = b.kd) && decide (a.ho = b.ho) && decide (a.tu = b.tu)
theorem likeH_same (a : Hd) : likeH a a = true := by simp [likeH]

set_option maxRecDepth 20000 in
set_option maxHeartbeats 2000000 in
theorem likeH_any (u v : Value) (a b : Hd) (w : World) (hu : Reads w u a.ks) (hv : Reads w v b.ks) (hl : a.ks.length ≤ 1099511627776) :
    Calls Try.prog 19 #[HV u a, HV v b] w fun e w' => e = .returned (.bool (likeH a b)) ∧ Below w.heap.size w w' := by
  obtain ⟨w1, hw1⟩ : ∃ w1, w1 = (w.alloc (.cells (hdA u a) 28)).alloc (.cells (hdA v b) 28) := ⟨_, rfl⟩
  have B1 : Hid (Below w.heap.size w w1) := by rw [hw1]; exact ((Below.refl _ _).alloc (Nat.le_refl _) _).alloc (by simp) _
  have p0 : Hid (StB w1 w.heap.size 28 (hdA u a)) := by rw [hw1]; exact (StB.new w _ _).alloc _
  have q0 : Hid (StB w1 (w.heap.size + 1) 28 (hdA v b)) := by
    rw [hw1]
    have := StB.new (w.alloc (.cells (hdA u a) 28)) 28 (hdA v b)
    rwa [World.size_alloc] at this
  have c1 := like_any u v a.ks b.ks w1 (hu.below B1.out (Nat.le_refl _)) (hv.below B1.out (Nat.le_refl _)) hl
  have HE : Hid (likeH a b = (decide (a.ks = b.ks) && decide (a.kd = b.kd) && decide (a.ho = b.ho) && decide (a.tu = b.tu))) := rfl
  obtain ⟨r, hr⟩ : ∃ r, r = likeH a b := ⟨_, rfl⟩
  obtain ⟨d, hd⟩ : ∃ d, d = decide (a.ks = b.ks) := ⟨_, rfl⟩
  rw [← hr] at HE ⊢
  rw [← hd] at HE c1
  have k0 : w1.cell? ⟨w.heap.size, 0, none⟩ = some u := p0.out.cell 0 rfl
  have l0 : w1.cell? ⟨w.heap.size + 1, 0, none⟩ = some v := q0.out.cell 0 rfl
  obtain ⟨ao, ca, rfl⟩ := reads_form hu
  obtain ⟨bo, cb, rfl⟩ := reads_form hv
  obtain ⟨na, hna⟩ : ∃ na, na = a.ks.length := ⟨_, rfl⟩
  obtain ⟨nb, hnb⟩ : ∃ nb, nb = b.ks.length := ⟨_, rfl⟩
  rw [← hna] at hw1 c1 k0 p0 ⊢
  rw [← hnb] at hw1 c1 l0 q0 ⊢
  clear hr hd hu hv hl hna hnb
  unfold HV
  unfold hdA at hw1 ⊢
  go_enter Try.func19, Try.ntmps19
  go_wp2_with fail
  rw [← hw1]
  refine c1.mono ?_
  rintro e w2 ⟨rfl, hw2⟩
  have B2 : Hid (Below w.heap.size w w2) := by obtain ⟨n, rfl⟩ := hw2; exact below_drewN B1.out n
  have k1 : w2.cell? ⟨w.heap.size, 1, none⟩ = some (.int .i64 a.kd) := by obtain ⟨n, rfl⟩ := hw2; exact p0.out.cell 1 rfl
  have k2 : w2.cell? ⟨w.heap.size, 2, none⟩ = some (.int .i64 a.ho) := by obtain ⟨n, rfl⟩ := hw2; exact p0.out.cell 2 rfl
  have k3 : w2.cell? ⟨w.heap.size, 3, none⟩ = some (.int .i64 a.tu) := by obtain ⟨n, rfl⟩ := hw2; exact p0.out.cell 3 rfl
  have l1 : w2.cell? ⟨w.heap.size + 1, 1, none⟩ = some (.int .i64 b.kd) := by obtain ⟨n, rfl⟩ := hw2; exact q0.out.cell 1 rfl
  have l2 : w2.cell? ⟨w.heap.size + 1, 2, none⟩ = some (.int .i64 b.ho) := by obtain ⟨n, rfl⟩ := hw2; exact q0.out.cell 2 rfl
  have l3 : w2.cell? ⟨w.heap.size + 1, 3, none⟩ = some (.int .i64 b.tu) := by obtain ⟨n, rfl⟩ := hw2; exact q0.out.cell 3 rfl
  clear hw2 hw1 p0 q0 k0 l0 B1 c1
  cases d with
  | false =>
    go_wp2
    go_ret
    exact ⟨ret_bool (by rw [HE.out]; simp), B2.out⟩
  | true =>
    by_cases e1 : a.kd = b.kd
    · by_cases e2 : a.ho = b.ho
      · by_cases e3 : a.tu = b.tu
        · have f1 : (a.kd == b.kd) = true := by simpa using e1
          have f2 : (a.ho == b.ho) = true := by simpa using e2
          have f3 : (a.tu == b.tu) = true := by simpa using e3
          have HX : Hid (r = true) := by rw [Hid, HE.out]; simp [e1, e2, e3]
          clear e1 e2 e3
          go_wp2
          go_ret
          exact ⟨ret_bool (by rw [HX.out]), B2.out⟩
        · have f1 : (a.kd == b.kd) = true := by simpa using e1
          have f2 : (a.ho == b.ho) = true := by simpa using e2
          have f3 : (a.tu == b.tu) = false := by simpa using e3
          have HX : Hid (r = false) := by rw [Hid, HE.out]; simp [e3]
          clear e1 e2 e3
          go_wp2
          go_ret
          exact ⟨ret_bool (by rw [HX.out]), B2.out⟩
      · have f1 : (a.kd == b.kd) = true := by simpa using e1
        have f2 : (a.ho == b.ho) = false := by simpa using e2
        have HX : Hid (r = false) := by rw [Hid, HE.out]; simp [e2]
        clear e1 e2
        go_wp2
        go_ret
        exact ⟨ret_bool (by rw [HX.out]), B2.out⟩
    · have f1 : (a.kd == b.kd) = false := by simpa using e1
      have HX : Hid (r = false) := by rw [Hid, HE.out]; simp [e1]
      clear e1
      go_wp2
      go_ret
      exact ⟨ret_bool (by rw [HX.out]), B2.out⟩
end Go.Proofs.Ytpdggofaobmnlaa
/- likeStore of two stores that are the same is true. -/
namespace Go.Proofs.Ytpdggofaobmnlaa
open Go.ChangeShapes Go.WideShapes Go.ChangeAt Go.RowKit

set_option maxRecDepth 20000 in
set_option maxHeartbeats 1000000 in
theorem likeStore_any (u v q a b k : Value) (xs ys : List Int) (h : Hd) (w : World) (hu : Reads w u xs) (hv : Reads w v ys) (hq : Reads w q h.ks) (ha : Reads w a xs) (hb : Reads w b ys) (hk : Reads w k h.ks) (gx : xs.length ≤ 1099511627776) (gy : ys.length ≤ 1099511627776) (gk : h.ks.length ≤ 1099511627776) :
    Calls Try.prog 12 #[SRV u v q h, SRV a b k h] w fun e w' => e = .returned (.bool true) ∧ Below w.heap.size w w' := by
  obtain ⟨w1, hw1⟩ : ∃ w1, w1 = (w.alloc (.cells (srA u v q h) 30)).alloc (.cells (srA a b k h) 30) := ⟨_, rfl⟩
  have b1 : Below w.heap.size w w1 := by rw [hw1]; exact ((Below.refl _ _).alloc (Nat.le_refl _) _).alloc (by simp) _
  have S1 : Hid (StB w1 w.heap.size 30 (srA u v q h) ∧ StB w1 (w.heap.size + 1) 30 (srA a b k h) ∧ Below w.heap.size w w1) := by
    have a2 := StB.new (w.alloc (.cells (srA u v q h) 30)) 30 (srA a b k h)
    simp only [World.size_alloc] at a2
    exact ⟨by rw [hw1]; exact (StB.new w _ _).alloc _, by rw [hw1]; exact a2, b1⟩
  have c1 := likeDisk_any u v a b xs ys w1 (hu.below b1 (Nat.le_refl _)) (hv.below b1 (Nat.le_refl _)) (ha.below b1 (Nat.le_refl _)) (hb.below b1 (Nat.le_refl _)) gx gy
  have c2 : Hid (∀ wx, Below w.heap.size w wx → Calls Try.prog 19 #[HV q h, HV k h] wx fun e w' => e = .returned (.bool true) ∧ Below wx.heap.size wx w') := fun wx e => by
    have := likeH_any q k h h wx (hq.below e (Nat.le_refl _)) (hk.below e (Nat.le_refl _)) gk
    rw [likeH_same] at this
    exact this
  obtain ⟨uo, uc, rfl⟩ := reads_form hu
  obtain ⟨vo, vc, rfl⟩ := reads_form hv
  obtain ⟨qo, qc, rfl⟩ := reads_form hq
  obtain ⟨ao, ac, rfl⟩ := reads_form ha
  obtain ⟨bo, bc, rfl⟩ := reads_form hb
  obtain ⟨ko, kc, rfl⟩ := reads_form hk
  clear b1 hu hv hq ha hb hk gx gy gk
  unfold SRV srA at *
  unfold HV hdA at c2
  go_enter Try.func12, Try.ntmps12
  go_upto_region 1 with fail
  rw [← hw1]
  clear hw1
  have k0 := S1.out.1.cell 0 rfl
  have k1 := S1.out.1.cell 1 rfl
  have l0 := S1.out.2.1.cell 0 rfl
  have l1 := S1.out.2.1.cell 1 rfl
  go_wp2_with fail
  refine c1.mono ?_
  rintro e w2 ⟨rfl, b2⟩
  have S2 : Hid (StB w2 w.heap.size 30 _ ∧ StB w2 (w.heap.size + 1) 30 _ ∧ Below w.heap.size w w2) := ⟨S1.out.1.below b2, S1.out.2.1.below b2, S1.out.2.2.trans (b2.mono S1.out.2.2.size)⟩
  clear S1 c1 b2 k0 k1 l0 l1
  have k2 := S2.out.1.cell 2 rfl
  have k3 := S2.out.1.cell 3 rfl
  have k4 := S2.out.1.cell 4 rfl
  have k5 := S2.out.1.cell 5 rfl
  have l2 := S2.out.2.1.cell 2 rfl
  have l3 := S2.out.2.1.cell 3 rfl
  have l4 := S2.out.2.1.cell 4 rfl
  have l5 := S2.out.2.1.cell 5 rfl
  go_wp2_with fail
  refine (c2.out w2 S2.out.2.2).mono ?_
  rintro e w3 ⟨rfl, b3⟩
  have B3 : Hid (Below w.heap.size w w3) := S2.out.2.2.trans (b3.mono S2.out.2.2.size)
  clear S2 c2 b3 k2 k3 k4 k5 l2 l3 l4 l5
  go_wp2
  go_ret
  exact ⟨rfl, B3.out⟩
end Go.Proofs.Ytpdggofaobmnlaa
/- A region that draws its order, whose operations only read and whose callees read and may make memory of their own: walked once, in a class of worlds. -/
namespace Go.Proofs.Ytpdggofaobmnlaa
open Go.ChangeShapes Go.WideShapes Go.ChangeAt Go.RowKit

/- A world of the class p. -/
structure Kin (p : World → Prop) where
  x : World
  h : p x
theorem wp_region_kin (p : World → Prop) {id : Nat} {Q : Exit → Act → World → Prop} {a : Act} {w : World} {l : List Oper} (hm : Try.prog.follows .mixedOrders = true) (hB : Region.lexB .any l.toArray = true) (h0 : p w.drew)
    (h : wpQuiet Try.prog l.toArray (fun w' => ∃ q : Kin p, w' = q.x) (fun a' => ∀ w', (∃ q : Kin p, w' = q.x) → Q .normal a' w') l a) : (Code.region id l.toArray true).wp Try.prog Q a w :=
  wp_region_quiet (C := fun w' => ∃ q : Kin p, w' = q.x) hm hB ⟨⟨w.drew, h0⟩, rfl⟩ (by simpa using h)
/- A callee's contract, met in a world of the class. -/
theorem Kin.call {p : World → Prop} {q : Kin p} {fn : FuncId} {args : Array Value} {v : Value}
    (h : Calls Try.prog fn args q.x fun e w' => e = .returned v ∧ Below q.x.heap.size q.x w') (hb : ∀ x w', p x → Below x.heap.size x w' → p w') : Calls Try.prog fn args q.x fun e w'' => e = .returned v ∧ ∃ q : Kin p, w'' = q.x :=
  h.mono fun _ w' ⟨he, b⟩ => ⟨he, ⟨w', hb _ _ q.h b⟩, rfl⟩
theorem Kin.same {p : World → Prop} {q : Kin p} {fn : FuncId} {args : Array Value} {v : Value}
    (h : Calls Try.prog fn args q.x fun e w' => e = .returned v ∧ w' = q.x) : Calls Try.prog fn args q.x fun e w'' => e = .returned v ∧ ∃ q : Kin p, w'' = q.x :=
  h.mono fun _ _ ⟨he, b⟩ => ⟨he, q, b⟩
end Go.Proofs.Ytpdggofaobmnlaa
