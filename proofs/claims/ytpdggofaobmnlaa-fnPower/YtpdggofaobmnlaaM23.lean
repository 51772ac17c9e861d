/- Stores and disks that a call answers, in a region that draws its order. -/
import Derived.Test.YtpdggofaobmnlaaGiv
import Derived.Test.YtpdggofaobmnlaaLStore2
import Derived.Test.YtpdggofaobmnlaaM10
import Derived.Test.YtpdggofaobmnlaaM14
import Derived.Test.YtpdggofaobmnlaaM21
import Derived.Test.YtpdggofaobmnlaaSDisk2
import Derived.Test.YtpdggofaobmnlaaM1
namespace Go.Proofs.Ytpdggofaobmnlaa
open Go.ChangeShapes Go.WideShapes Go.ChangeAt Go.RowKit

/- A store is answered. -/
def stG (xs ys : List Int) (h : Hd) : GSpec :=
  ⟨fun u => ∃ ao ac bo bc ko kc, u = .agg #[.slice ao xs.length ac, .slice bo ys.length bc, .slice ko h.ks.length kc, .int .i64 h.kd, .int .i64 h.ho, .int .i64 h.tu],
   fun u x => ∀ a b k n1 n2 n3, u = .agg #[a, b, k, n1, n2, n3] → Reads x a xs ∧ Reads x b ys ∧ Reads x k h.ks⟩
theorem stG_later {xs ys : List Int} {h : Hd} {u : Value} {x y : World} (hx : (stG xs ys h).F u x) (b : Later x y) : (stG xs ys h).F u y := fun a b' k n1 n2 n3 e => by
  obtain ⟨r1, r2, r3⟩ := hx a b' k n1 n2 n3 e
  exact ⟨r1.below b (Nat.le_refl _), r2.below b (Nat.le_refl _), r3.below b (Nat.le_refl _)⟩
theorem stG_of {P : Program} {f : FuncId} {args : Array Value} {w : World} {xs ys : List Int} {h : Hd} (hc : Calls P f args w fun e w' => ∃ a b k, e = .returned (.agg #[a, b, k, .int .i64 h.kd, .int .i64 h.ho, .int .i64 h.tu]) ∧ OwnR w' w.heap.size a b k xs ys h.ks ∧ Below w.heap.size w w') :
    Calls P f args w (fun e w'' => ∃ u, e = .returned u ∧ (stG xs ys h).V u ∧ (stG xs ys h).F u w'' ∧ Later w w'') := by
  refine hc.mono ?_
  rintro e w' ⟨a, b, k, rfl, o, bl⟩
  obtain ⟨ao, ac, rfl⟩ := o.1.1.reads.form
  obtain ⟨bo, bc, rfl⟩ := o.1.2.1.reads.form
  obtain ⟨ko, kc, rfl⟩ := o.2.1.reads.form
  exact ⟨_, rfl, ⟨ao, ac, bo, bc, ko, kc, rfl⟩, fun a b k n1 n2 n3 e => by cases e; exact ⟨o.1.1.reads, o.1.2.1.reads, o.2.1.reads⟩, bl⟩
/- A disk is answered. -/
def dkG (xs ys : List Int) : GSpec :=
  ⟨fun u => ∃ ao ac bo bc, u = .agg #[.slice ao xs.length ac, .slice bo ys.length bc],
   fun u x => ∀ a b, u = .agg #[a, b] → Reads x a xs ∧ Reads x b ys⟩
theorem dkG_later {xs ys : List Int} {u : Value} {x y : World} (hx : (dkG xs ys).F u x) (b : Later x y) : (dkG xs ys).F u y := fun a b' e => by
  obtain ⟨r1, r2⟩ := hx a b' e
  exact ⟨r1.below b (Nat.le_refl _), r2.below b (Nat.le_refl _)⟩
theorem dkG_of {P : Program} {f : FuncId} {args : Array Value} {w : World} {xs ys : List Int} (hc : Calls P f args w fun e w' => ∃ a b, e = .returned (.agg #[a, b]) ∧ OwnD w' w.heap.size a b xs ys ∧ Below w.heap.size w w') :
    Calls P f args w (fun e w'' => ∃ u, e = .returned u ∧ (dkG xs ys).V u ∧ (dkG xs ys).F u w'' ∧ Later w w'') := by
  refine hc.mono ?_
  rintro e w' ⟨a, b, rfl, o, bl⟩
  obtain ⟨ao, ac, rfl⟩ := o.1.reads.form
  obtain ⟨bo, bc, rfl⟩ := o.2.1.reads.form
  exact ⟨_, rfl, ⟨ao, ac, bo, bc, rfl⟩, fun a b e => by cases e; exact ⟨o.1.reads, o.2.1.reads⟩, bl⟩
/- A disk is answered, in rows of its own. -/
def dkO (xs ys : List Int) : GSpec :=
  ⟨fun u => ∃ ao ac bo bc, u = .agg #[.slice ao xs.length ac, .slice bo ys.length bc],
   fun u x => ∀ a b, u = .agg #[a, b] → Own x 0 a xs ∧ Own x 0 b ys⟩
theorem dkO_later {xs ys : List Int} {u : Value} {x y : World} (hx : (dkO xs ys).F u x) (b : Later x y) : (dkO xs ys).F u y := fun a b' e => by
  obtain ⟨r1, r2⟩ := hx a b' e
  exact ⟨r1.below b, r2.below b⟩
theorem dkO_of {P : Program} {f : FuncId} {args : Array Value} {w : World} {xs ys : List Int} (hc : Calls P f args w fun e w' => ∃ a b, e = .returned (.agg #[a, b]) ∧ OwnD w' w.heap.size a b xs ys ∧ Below w.heap.size w w') :
    Calls P f args w (fun e w'' => ∃ u, e = .returned u ∧ (dkO xs ys).V u ∧ (dkO xs ys).F u w'' ∧ Later w w'') := by
  refine hc.mono ?_
  rintro e w' ⟨a, b, rfl, o, bl⟩
  obtain ⟨ao, ac, rfl⟩ := o.1.reads.form
  obtain ⟨bo, bc, rfl⟩ := o.2.1.reads.form
  exact ⟨_, rfl, ⟨ao, ac, bo, bc, rfl⟩, fun a b e => by cases e; exact ⟨o.1.mono (Nat.zero_le _), o.2.1.mono (Nat.zero_le _)⟩, bl⟩
/- A new variable is made. -/
def alG (n : Nat) (t : TypeId) (cs : Array Value) : GSpec := ⟨fun u => ∃ g, u = .pointer (some ⟨g, 0, none⟩), fun u x => ∀ g, u = .pointer (some ⟨g, 0, none⟩) → StB x g t cs ∧ n ≤ g⟩
theorem alG_later {n : Nat} {t : TypeId} {cs : Array Value} {u : Value} {x y : World} (hx : (alG n t cs).F u x) (b : Later x y) : (alG n t cs).F u y := fun g e => ⟨(hx g e).1.below b, (hx g e).2⟩
theorem alG_of {P : Program} {n : Nat} {t : TypeId} {cs : Array Value} {w : World} (hn : n ≤ w.heap.size) : givesUpon P Later (alG n t cs).V (alG n t cs).F w (.ok (.value (.pointer (some ⟨w.heap.size, 0, none⟩))) (w.alloc (.cells cs t))) :=
  ⟨⟨_, rfl⟩, fun g e => by cases e; exact ⟨StB.new _ _ _, hn⟩, (Below.refl _ _).alloc (Nat.le_refl _) _⟩
/- The last operation stores a whole struct. -/
theorem last_put {t : TypeId} {n : Nat} (hS : IsS t n) {ops : Array Oper} {i : Nat} {o : Oper} {a : Act} {w : World} {K : Act → World → Prop} {Q : Exit → Act → World → Prop} (hi : ops[i]? = some o) (hgd : o.guard = none) (x y : Operand) (ho : o.op = .store t x y)
    (g : Nat) (cs ds : Array Value) (hx : a.eval x = .pointer (some ⟨g, 0, none⟩)) (hy : a.eval y = .agg cs) (hn : cs.size = n) (hd : ds.size = n) (h1 : cs.all (·.oneCell') = true) (hr : StB w g t ds)
    (h : ∀ w', StB w' g t cs → w.grownBy w' (some g) → K (a.put o.dst undef) w') : wpOp Try.prog ops Q i K a w := by
  unfold wpOp
  rw [hi]
  dsimp only
  have hw : Region.wanted o (yielded ops a.tmps) = true := by simp [Region.wanted, hgd]
  rw [if_pos hw]
  refine .inl ?_
  have := step_putS (ops := ops) (Q := Q) (E := False) hS hgd x y ho g cs ds hx hy hn hd h1 hr h
  rw [if_pos hw] at this
  exact this
/- A struct is built out of two parts. -/
theorem giv_build2 {P : Program} {ops : Array Oper} {C : World → Prop} {E : Oper → Act → Option GSpec} {R : World → World → Prop} {Q : Act → Known → Prop} {o : Oper} {rest : List Oper} {a : Act} {G : Known} (hs : E o a = none) (hg : o.guard = none) (t : TypeId) (i j : Nat) (x y : Operand) (ho : o.op = .build t #[(i, x), (j, y)]) (u v : Value) (hx : a.eval x = u) (hy : a.eval y = v) (cells : Array Value) (hc : P.built t [(i, u), (j, v)] = some cells)
    (k : wpGiv P ops C E R Q rest (a.put o.dst (.agg cells)) G) : wpGiv P ops C E R Q (o :: rest) a G := by
  refine giv_plain hs (fun K hK => ?_)
  have hw : Region.wanted o (yielded ops a.tmps) = true := by simp [Region.wanted, hg]
  rw [if_pos hw]
  refine ⟨.agg cells, fun w _ => ?_, hK _ k⟩
  unfold Oper.quietAt execOp
  have hb : P.built t (#[(i, x), (j, y)].map fun (i, x) => (i, a.eval x)).toList = some cells := by simpa [hx, hy] using hc
  simp only [ho, Sem.run_bind, run_build w t _ cells hb, Result.andThen_ok]
  exact ⟨rfl, rfl⟩
theorem built_store (a b k n1 n2 n3 : Value) : Try.prog.built 30 [(0, .agg #[a, b]), (1, .agg #[k, n1, n2, n3])] = some #[a, b, k, n1, n2, n3] := by kernel_rfl

theorem bel_set {w wx : World} {j : Nat} {v : Value} (h : Below w.heap.size w wx) : Below w.heap.size w (wx.setCell ⟨w.heap.size, j, none⟩ v) := h.setCell (Nat.le_refl _) _
theorem truth_later {b : Bool} {u : Value} {x y : World} (hx : (truth b).F u x) (_ : Later x y) : (truth b).F u y := hx
end Go.Proofs.Ytpdggofaobmnlaa
/- Power of right stores, as plain lists. -/
namespace Go.Proofs.Ytpdggofaobmnlaa
open Go.RowKit

theorem valOk_in {xs : List Int} (h : blocksOk xs = true) {j : Nat} (hj : j < xs.length) : valOk (xs.getD j 0) = true := by
  have := blocksOk_val h (xs.getD j 0) (by
    rw [List.getD_eq_getElem?_getD, List.getElem?_eq_getElem hj]
    exact List.getElem_mem hj)
  unfold valOk
  rw [decide_eq_true this.1, decide_eq_true this.2]
  rfl
theorem chosen_ok {xs ys : List Int} (hb : bothOk xs ys = true) (s : Int) : blocksOk (chosenUp xs ys s 8 xs.length) = true := by
  obtain ⟨h1, h2, h3⟩ := bothOk_yes' hb
  have hl := blocksOk_len h1
  unfold blocksOk
  rw [Bool.and_eq_true]
  refine ⟨?_, by rw [chosenUp_len]; exact lenOk_yes hl.1 hl.2⟩
  rw [List.all_eq_true]
  intro x hx
  unfold chosenUp at hx
  rw [List.mem_map] at hx
  obtain ⟨j, hj, rfl⟩ := hx
  rw [List.mem_range] at hj
  split
  · exact valOk_in h2 (by omega)
  · exact valOk_in h1 hj
theorem power_ok {s : Sr} (ok : s.ok = true) (set : Int) : (s.power set).ok = true := by
  have e : (bothOk s.xs s.ys && s.h.ok) = true := ok
  obtain ⟨hb, hk⟩ := Bool.and_eq_true_iff.1 e
  unfold Sr.power
  rw [ok]
  cases setOk set with
  | false => exact ok
  | true =>
    have := chosen_ok hb set
    simp [Sr.ok, bothOk, this, hk]
theorem power_lo {xs ys : List Int} {h : Hd} (ok : Sr.ok ⟨xs, ys, h⟩ = true) (set : Int) : Sr.power ⟨xs, ys, h⟩ set = ⟨loK xs ys set, loN xs ys set, h⟩ := by
  have e : (bothOk xs ys && h.ok) = true := ok
  have hb := (Bool.and_eq_true_iff.1 e).1
  unfold Sr.power loK loN
  rw [ok]
  simp only [hb, if_true]
  cases setOk set <;> rfl
theorem power_parts {ks ns xs ys : List Int} {hh h : Hd} {set : Int} (e : (⟨ks, ns, hh⟩ : Sr) = Sr.power ⟨xs, ys, h⟩ set) (ok : Sr.ok ⟨xs, ys, h⟩ = true) : Sr.ok ⟨ks, ns, hh⟩ = true ∧ hh = h ∧ ks = loK xs ys set ∧ ns = loN xs ys set := by
  have e3 := e.trans (power_lo ok set)
  simp only [Sr.mk.injEq] at e3
  refine ⟨?_, e3.2.2, e3.1, e3.2.1⟩
  rw [e]
  exact power_ok ok set
theorem flushed_is {xs ys zs : List Int} {h : Hd} (ok : Sr.ok ⟨xs, ys, h⟩ = true) (hz : zs = ys) (set : Int) : Sr.ok ⟨zs, zs, h⟩ = true ∧ Sr.power ⟨zs, zs, h⟩ set = ⟨zs, zs, h⟩ := by
  subst hz
  have e : (bothOk xs zs && h.ok) = true := ok
  obtain ⟨hb, hk⟩ := Bool.and_eq_true_iff.1 e
  have hbz := bothOk_same hb
  refine ⟨by simp [Sr.ok, hbz, hk], ?_⟩
  rw [power_flushed hbz set, hk]
  rfl
end Go.Proofs.Ytpdggofaobmnlaa
/- Are two lists the same, by the model's l1Same? -/
namespace Go.Proofs.Ytpdggofaobmnlaa
open Go.ChangeShapes Go.WideShapes Go.ChangeAt Go.RowKit

set_option maxRecDepth 20000 in
set_option maxHeartbeats 400000 in
theorem ssame_any (va vb : Value) (xs ys : List Int) (w : World) (ha : Reads w va xs) (hb : Reads w vb ys) (hbig : xs.length ≤ 1099511627776) :
    Calls Try.prog 75 #[va, vb] w fun e w' => e = .returned (.bool (decide (xs = ys))) ∧ ∃ n, w' = w.drewN n := by
  obtain ⟨ao, ca, rfl, hla, ⟨hma, -⟩, hca⟩ := ha
  obtain ⟨bo, cb, rfl, hlb, ⟨hmb, -⟩, hcb⟩ := hb
  by_cases hlen : xs.length = ys.length
  · obtain ⟨n, hn⟩ : ∃ n, n = xs.length := ⟨_, rfl⟩
    rw [← hlen] at hlb hcb ⊢
    rw [← hn] at hla hlb hca hcb hbig ⊢
    have HN : Hid (n = xs.length ∧ n = ys.length) := ⟨hn, hn.trans hlen⟩
    clear hn hlen hma hmb
    have hcell : ∀ j, j < n → ∃ b off b' off', ao = some ⟨b, off, none⟩ ∧ bo = some ⟨b', off', none⟩ ∧ w.cell? ⟨b, off + j, none⟩ = some (.int .i64 (xs.getD j 0)) ∧ w.cell? ⟨b', off' + j, none⟩ = some (.int .i64 (ys.getD j 0)) := by
      intro j hj
      rcases hca with e | ⟨b, off, e, h4⟩
      · have := HN.out.1; rw [e] at this; simp at this; omega
      · rcases hcb with e' | ⟨b', off', e', h4'⟩
        · have := HN.out.2; rw [e'] at this; simp at this; omega
        · exact ⟨b, off, b', off', e, e', h4 j hj, h4' j hj⟩
    clear hca hcb
    go_enter Try.func75, Try.ntmps75
    go_wp2
    go_loopw [5] (fun i wr => ∃ j q : Nat, j ≤ n ∧ i = .int .i64 j ∧ Hid (xs.take j = ys.take j) ∧ wr = w.drewN q) (fun i _ => n - (intOf i).toNat)
    case atStart => exact ⟨0, 0, Nat.zero_le _, rfl, by simp [Hid], rfl⟩
    case round =>
      obtain ⟨j, q, hj, rfl, ht, rfl⟩ := hrel
      by_cases hlt : (j : Int) < (n : Int)
      · obtain ⟨b, off, b', off', rfl, rfl, hc1, hc2⟩ := hcell j (by omega)
        clear hcell
        obtain ⟨x, hx⟩ : ∃ x, x = xs.getD j 0 := ⟨_, rfl⟩
        obtain ⟨y, hy⟩ : ∃ y, y = ys.getD j 0 := ⟨_, rfl⟩
        rw [← hx] at hc1
        rw [← hy] at hc2
        have HX : Hid (x = xs.getD j 0 ∧ y = ys.getD j 0) := ⟨hx, hy⟩
        clear hx hy
        by_cases hxy : (x != y) = true
        · go_wp2
          go_quiet (fail)
          go_wp2
          go_ret
          exact ⟨ret_bool (by
            have h1 : x ≠ y := by simpa using hxy
            have h2 : xs ≠ ys := ne_of_getD (j := j) (by rw [← HX.out.1, ← HX.out.2]; exact h1)
            simp [h2]), ⟨_, World.drewN_drewN ..⟩⟩
        · go_wp2
          go_quiet (fail)
          go_wp2
          go_roundw
          case rel =>
            have h1 : x = y := by simpa using hxy
            exact ⟨j + 1, _, by omega, by go_num, take_step ht (by have := HN.out.1; omega) (by have := HN.out.2; omega) (by rw [← HX.out.1, ← HX.out.2]; exact h1), rfl⟩
          case measure => simp [intOf]; omega
      · go_wp2
        go_ret
        exact ⟨ret_bool (by
          have h1 : xs = ys := by
            have h2 := ht.out
            rw [List.take_of_length_le (by have := HN.out.1; omega), List.take_of_length_le (by have := HN.out.2; omega)] at h2
            exact h2
          simp [h1]), ⟨_, rfl⟩⟩
  · have hne : ((xs.length : Int) != (ys.length : Int)) = true := by simp; omega
    have he : decide (xs = ys) = false := by
      have : xs ≠ ys := fun h => hlen (by rw [h])
      simp [this]
    rw [he]
    clear he hlen hca hcb
    go_enter Try.func75, Try.ntmps75
    go_wp2
    go_ret
    exact ⟨rfl, 0, rfl⟩
end Go.Proofs.Ytpdggofaobmnlaa
