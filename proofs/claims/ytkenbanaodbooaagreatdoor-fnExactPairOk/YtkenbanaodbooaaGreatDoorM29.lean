/- The walk of a region that draws its order (Giv), behind a structure: what is left of the walk is not unfolded by whoever looks at the goal. -/
import Derived.Test.YtkenbanaodbooaaGreatDoorGiv
import Derived.Test.YtkenbanaodbooaaGreatDoorM18
import Derived.Test.YtkenbanaodbooaaGreatDoorM27
import Derived.Test.YtkenbanaodbooaaGreatDoorM8
import Derived.Test.YtkenbanaodbooaaGreatDoorM5
import Derived.Test.YtkenbanaodbooaaGreatDoorM14
namespace Go.Proofs.YtkenbanaodbooaaGreatDoor
open Go.ChangeShapes Go.WideShapes Go.ChangeAt Go.RowKit

structure GivS (P : Program) (ops : Array Oper) (C : World → Prop) (E : Oper → Act → Option GSpec) (R : World → World → Prop) (Q : Act → Known → Prop) (l : List Oper) (a : Act) (G : Known) : Prop where
  out : wpGiv P ops C E R Q l a G
section
variable {P : Program} {ops : Array Oper} {C : World → Prop} {E : Oper → Act → Option GSpec} {R : World → World → Prop} {Q : Act → Known → Prop} {o : Oper} {rest : List Oper} {a : Act} {G : Known}
theorem gs_plain (hs : E o a = none)
    (h : ∀ K : Act → Prop, (∀ a, GivS P ops C E R Q rest a G → K a) → if Region.wanted o (yielded ops a.tmps) then (∃ v, (∀ w, (∃ q : Kin C, w = q.x) → o.quietAt P a (fun _ => False) w v) ∧ K (a.put o.dst v)) else K (a.put o.dst undef)) : GivS P ops C E R Q (o :: rest) a G :=
  ⟨giv_plain hs (fun K hK => h K (fun a g => hK a g.out))⟩
theorem gs_skip (hw : Region.wanted o (yielded ops a.tmps) = false) (h : GivS P ops C E R Q rest (a.put o.dst undef) G) : GivS P ops C E R Q (o :: rest) a G := ⟨giv_skip hw h.out⟩
theorem gs_call (s : GSpec) (hs : E o a = some s) (hw : Region.wanted o (yielded ops a.tmps) = true)
    (h : ∀ w, Base ops C o G w → givesUpon P R s.V s.F w ((execOp a.eval o).run P w))
    (k : ∀ u, s.V u → GivS P ops C E R Q rest (a.put o.dst u) ((o, s.F u) :: G)) : GivS P ops C E R Q (o :: rest) a G := ⟨giv_call s hs hw h (fun u hu => (k u hu).out)⟩
end
theorem gs_end {P : Program} {ops : Array Oper} {C : World → Prop} {E : Oper → Act → Option GSpec} {R : World → World → Prop} {Q : Act → World → Prop} {a : Act} {G : Known} (h : ∀ w', Has C G w' → Q a w') : GivS P ops C E R (fun a' G => ∀ w', Has C G w' → Q a' w') [] a G := ⟨giv_end h⟩
theorem wp_region_gs {P : Program} {C : World → Prop} {E : Oper → Act → Option GSpec} {R : World → World → Prop} (hC : ∀ x y, C x → R x y → C y) (hE : ∀ o a s, E o a = some s → ∀ u x y, s.F u x → R x y → s.F u y)
    {id : Nat} {Q : Exit → Act → World → Prop} {a : Act} {w : World} {l : List Oper} (hA : ∀ o a dst v, (∀ d, dst = some d → d ∉ o.looksAt l.toArray) → E o (Act.put a dst v) = E o a) (hm : P.follows .mixedOrders = true) (hB : Region.lexB .any l.toArray = true) (h0 : C w.drew)
    (h : GivS P l.toArray C E R (fun a' G => ∀ w', Has C G w' → Q .normal a' w') l a []) : (Code.region id l.toArray true).wp P Q a w := wp_region_giv hC hE hA hm hB h0 h.out
end Go.Proofs.YtkenbanaodbooaaGreatDoor
/- Numbers and truths that a call answers in a region that draws its order. -/
namespace Go.Proofs.YtkenbanaodbooaaGreatDoor
open Go.ChangeShapes Go.WideShapes Go.ChangeAt Go.RowKit

/- A number is answered, and the world is as it was. -/
def numG (n : Int) : GSpec := ⟨fun u => u = .int .i64 n, fun _ _ => True⟩
theorem numG_later {n : Int} {u : Value} {x y : World} (hx : (numG n).F u x) (_ : Later x y) : (numG n).F u y := hx
theorem num_of {P : Program} {f : FuncId} {args : Array Value} {w : World} {n : Int} (h : Calls P f args w fun e w' => e = .returned (.int .i64 n) ∧ w' = w) : Calls P f args w (fun e w'' => ∃ u, e = .returned u ∧ (numG n).V u ∧ (numG n).F u w'' ∧ Later w w'') :=
  h.mono fun _ _ ⟨he, hb⟩ => ⟨_, he, rfl, trivial, by rw [hb]; exact Below.refl _ _⟩
theorem truthC_later {b : Bool} {u : Value} {x y : World} (hx : (truth b).F u x) (_ : Later x y) : (truth b).F u y := hx
theorem truthS_of {P : Program} {f : FuncId} {args : Array Value} {w : World} {b : Bool} (h : Calls P f args w fun e w' => e = .returned (.bool b) ∧ w' = w) : Calls P f args w (fun e w'' => ∃ u, e = .returned u ∧ (truth b).V u ∧ (truth b).F u w'' ∧ Later w w'') :=
  h.mono fun _ _ ⟨he, hb⟩ => ⟨_, he, rfl, trivial, by rw [hb]; exact Below.refl _ _⟩
/- A value is moved. -/
theorem giv_move {P : Program} {ops : Array Oper} {C : World → Prop} {E : Oper → Act → Option GSpec} {R : World → World → Prop} {Q : Act → Known → Prop} {o : Oper} {rest : List Oper} {a : Act} {G : Known} (hs : E o a = none) (hw : Region.wanted o (yielded ops a.tmps) = true) (x : Operand) (ho : o.op = .move x) (v : Value) (hv : a.eval x = v)
    (k : wpGiv P ops C E R Q rest (a.put o.dst v) G) : wpGiv P ops C E R Q (o :: rest) a G := by
  refine giv_plain hs (fun K hK => ?_)
  rw [if_pos hw]
  refine ⟨v, fun w _ => ?_, hK _ k⟩
  unfold Oper.quietAt execOp
  simp [ho, hv, Oper.quietUpon]
end Go.Proofs.YtkenbanaodbooaaGreatDoor
/- Houses in regions that draw their order: one that is loaded whole, one that is answered in new memory. -/
namespace Go.Proofs.YtkenbanaodbooaaGreatDoor
open Go.ChangeShapes Go.WideShapes Go.ChangeAt Go.RowKit

theorem gs_loadS {t : TypeId} {n : Nat} (hS : IsS t n) {ops : Array Oper} {C : World → Prop} {E : Oper → Act → Option GSpec} {R : World → World → Prop} {Q : Act → Known → Prop} {o : Oper} {rest : List Oper} {a : Act} {G : Known} (hs : E o a = none)
    (hw : Region.wanted o (yielded ops a.tmps) = true) (x : Operand) (ho : o.op = .load t x) (g : Nat) (hx : a.eval x = .pointer (some ⟨g, 0, none⟩)) (cs : Array Value) (hn : cs.size = n) (hr : ∀ q : Kin C, StB q.x g t cs)
    (k : GivS Tryz.prog ops C E R Q rest (a.put o.dst (.agg cs)) G) : GivS Tryz.prog ops C E R Q (o :: rest) a G := by
  refine gs_plain hs (fun K hK => ?_)
  rw [if_pos hw]
  refine ⟨.agg cs, fun w hq => ?_, hK _ k⟩
  obtain ⟨q, rfl⟩ := hq
  unfold Oper.quietAt execOp
  simp only [ho, hx, Instr.loadAt, Instr.sureAddr, Sem.run_bind, Sem.run_pure, Result.andThen_ok, load_S hS q.x g cs hn (hr q)]
  simp [Oper.quietUpon]
/- A house that is answered. -/
def nodeG (n : Nd) : GSpec := ⟨fun u => ∃ a b k q z, u = .agg (ndA a b k q z n), fun u w => ∃ a b k q z, u = .agg (ndA a b k q z n) ∧ RdN w a b k q z n⟩
theorem nodeG_later {n : Nd} {u : Value} {x y : World} (hx : (nodeG n).F u x) (hl : Later x y) : (nodeG n).F u y := by
  obtain ⟨a, b, k, q, z, e, h⟩ := hx
  exact ⟨a, b, k, q, z, e, h.below hl⟩
theorem nodeG_rd {n : Nd} {a b k q z : Value} {w : World} (h : (nodeG n).F (.agg (ndA a b k q z n)) w) : RdN w a b k q z n := by
  obtain ⟨a', b', k', q', z', e, h⟩ := h
  have e' := congrArg (fun v => match v with | .agg cs => cs | _ => #[]) e
  simp only [ndA] at e'
  have g : ∀ j : Nat, _ := fun j => congrArg (fun cs : Array Value => cs[j]?) e'
  have h2 := g 2
  have h3 := g 3
  have h4 := g 4
  have h17 := g 17
  have h19 := g 19
  simp at h2 h3 h4 h17 h19
  subst h2 h3 h4 h17 h19
  exact h
theorem nodeG_of {P : Program} {f : FuncId} {args : Array Value} {w : World} {n : Nd} (h : Calls P f args w fun e w' => ∃ a b k q z, e = .returned (.agg (ndA a b k q z n)) ∧ OwnN w' w.heap.size a b k q z n ∧ Below w.heap.size w w') : Calls P f args w (fun e w'' => ∃ u, e = .returned u ∧ (nodeG n).V u ∧ (nodeG n).F u w'' ∧ Later w w'') :=
  h.mono fun _ _ ⟨a, b, k, q, z, he, o, hb⟩ => ⟨_, he, ⟨a, b, k, q, z, rfl⟩, ⟨a, b, k, q, z, rfl, o.reads⟩, hb⟩
end Go.Proofs.YtkenbanaodbooaaGreatDoor
/- Copiers by the model, behind a pointer: l13Next, l13Ack, l13Again. -/
namespace Go.Proofs.YtkenbanaodbooaaGreatDoor
open Go.ChangeShapes Go.WideShapes Go.ChangeAt Go.RowKit

theorem Turned.drew {w w' : World} {bs : List Nat} (h : Turned w w' bs) : Turned w w'.drew bs := h.then (Turned.below _ (Below.refl _ _).drew)
theorem CpB.drew {w : World} {g off : Nat} {t : TypeId} {cs : Array Value} {v : Value} {c : Cp} (h : CpB w g off t cs v c) : CpB w.drew g off t cs v c := h.below (Below.refl _ _).drew
/- The turn of one that is there: its cell, and what is put there. -/
theorem CpB.turn {w : World} {g off : Nat} {t : TypeId} {cs : Array Value} {v : Value} {c : Cp} (h : CpB w g off t cs v c) (j : Nat) (hj : j < c.ts.length) :
    ∃ q cap, v = .slice (some ⟨q, 0, none⟩) c.ts.length cap ∧ q ≠ g ∧ c.ts.length ≤ cap ∧ cap ≤ maxLen ∧ w.cell? ⟨q, j, none⟩ = some (.int .i64 (c.ts.getD j 0)) ∧ w.frozen? ⟨q, j, none⟩ = false ∧
      ∀ x : Int, CpB (w.setCell ⟨q, j, none⟩ (.int .i64 x)) g off t cs v { c with ts := c.ts.set j x } ∧ Turned w (w.setCell ⟨q, j, none⟩ (.int .i64 x)) (g :: v.ownBlock.toList) := by
  obtain ⟨ao, cap, rfl⟩ := reads_form h.own.reads
  obtain ⟨-, hc1, hc2, hcell⟩ := reads_cells h.own.reads
  obtain ⟨q, rfl⟩ : ∃ q, ao = some ⟨q, 0, none⟩ := by
    rcases h.own.2 with e | ⟨q, cap', cur, e, _⟩
    · have e1 : c.ts.length = 0 := e.2
      omega
    · simp only [Value.slice.injEq] at e
      exact ⟨q, e.1⟩
  obtain ⟨b, o, e, hx⟩ := hcell j hj
  simp only [Option.some.injEq, Addr.mk.injEq] at e
  obtain ⟨rfl, rfl, -⟩ := e
  rw [Nat.zero_add] at hx
  have hne : q ≠ g := fun e => h.ne (by rw [← e]; rfl)
  refine ⟨q, cap, rfl, hne, hc1, hc2, hx, (h.own.put rfl j hj 0).1, fun x => ?_⟩
  have o := (h.own.put rfl j hj x).2.2
  exact ⟨⟨h.st.other _ _ (fun e => hne e.symm), h.i0, h.i1, h.i2, h.i3, h.i4, o, h.ne⟩, (Turned.of_grown (grownSet w q j _)).sub (by simp [Value.ownBlock])⟩
end Go.Proofs.YtkenbanaodbooaaGreatDoor
/- Copiers by the model: Marked, Next, Acked, Again, Clean, NewCopier. -/
namespace Go.Proofs.YtkenbanaodbooaaGreatDoor
open Go.ChangeShapes Go.WideShapes Go.ChangeAt Go.RowKit

end Go.Proofs.YtkenbanaodbooaaGreatDoor
/- A new copier by the model. -/
namespace Go.Proofs.YtkenbanaodbooaaGreatDoor
open Go.ChangeShapes Go.WideShapes Go.ChangeAt Go.RowKit

set_option maxRecDepth 20000 in
set_option maxHeartbeats 400000 in
theorem upon_makeI {o : Oper} {a : Act} {w : World} {K : Act → World → Prop} {Q : Exit → Act → World → Prop} (k : Nat) (hk : k ≤ 1000)
    (h : ∀ w', Own w' w.heap.size (.slice (some ⟨w.heap.size, 0, none⟩) k k) (List.replicate k 0) → w.grownBy w' none → Oper.upon Tryz.prog o a K Q (.ok (.value (.slice (some ⟨w.heap.size, 0, none⟩) k k)) w')) :
    Oper.upon Tryz.prog o a K Q (((Instr.makeSlice 42 (.int .i64 (k : Int)) (.int .i64 (k : Int))).run Tryz.prog w).andThen fun v w' => .ok (.value v) w') := by
  obtain ⟨i0, hi, hz0, hz1, hz2⟩ := info_parts Tryz.infoI
  obtain ⟨w', hrun, h1, h2⟩ := run_makeSlice_full (P := Tryz.prog) w w.heap.size 42 2 i0 (.int .i64 0) 1 Tryz.underlying42 hi hz0 hz1 .i64 .i64 k (by omega) (by rw [hz2]; omega) (by unfold maxLen; omega) (Nat.le_refl _)
  rw [hrun]
  refine h w' ?_ h2
  have e := zeros_eq k
  rw [Nat.mul_one] at h1
  rw [show Value.cells (.int .i64 0) = #[.int .i64 0] from rfl, e] at h1
  unfold Own
  simpa using h1
theorem made_own {w w1 w2 : World} {v : Value} {xs : List Int} (HB : Below w.heap.size w w1) (hlt : w.heap.size < w1.heap.size) (o2 : Own w2 w1.drew.heap.size v xs) (g2 : w1.drew.grownBy w2 none) : Own w2 (w.heap.size + 1) v xs ∧ Below w.heap.size w w2 :=
  ⟨o2.mono hlt, HB.grown (show w1.grownBy w2 none from ⟨g2.os, g2.tape, g2.output, g2.size, g2.block⟩) HB.size (fun k e => by cases e)⟩
def putC5 (w : World) (g : Nat) (v : Value) (c : Cp) : World := ((((w.setCell ⟨g, 0, none⟩ (.int .i64 c.tr)).setCell ⟨g, 1, none⟩ (.bool c.op)).setCell ⟨g, 2, none⟩ (.int .i64 c.di)).setCell ⟨g, 3, none⟩ (.int .i64 c.wa)).setCell ⟨g, 4, none⟩ v
theorem putC5_st {w : World} {g : Nat} {t : TypeId} (v : Value) (c : Cp) (h : StB w g t zeroCp) : StB (putC5 w g v c) g t (cpA v c) :=
  ((((h.put 0 _ rfl).put 1 _ rfl).put 2 _ rfl).put 3 _ rfl).put 4 _ rfl
theorem putC5_grown (w : World) (g : Nat) (v : Value) (c : Cp) : w.grownBy (putC5 w g v c) (some g) :=
  ((((grownSet w g 0 _).trans (grownSet _ g 1 _)).trans (grownSet _ g 2 _)).trans (grownSet _ g 3 _)).trans (grownSet _ g 4 _)
end Go.Proofs.YtkenbanaodbooaaGreatDoor
/- The program's numbers of copiers and sinks: how many, which try, which turn, a row of turns. -/
namespace Go.Proofs.YtkenbanaodbooaaGreatDoor
open Go.ChangeShapes Go.WideShapes Go.ChangeAt Go.RowKit

set_option maxRecDepth 20000 in
set_option maxHeartbeats 400000 in
theorem icount_any (x : Int) (w : World) :
    Calls Tryz.prog 134 #[.int .i64 x] w fun e w' => e = .returned (.bool (inI x 1 8)) ∧ w' = w := by
  by_cases h0 : 1 ≤ x
  · by_cases h1 : x ≤ 8
    · rw [show inI x 1 8 = true by simp [inI, h0, h1]]
      go_enter Tryz.func134, Tryz.ntmps134
      go_wp2
      go_ret
      exact ⟨ret_bool (by simp), rfl⟩
    · rw [show inI x 1 8 = false by simp [inI]; omega]
      go_enter Tryz.func134, Tryz.ntmps134
      go_wp2
      go_ret
      exact ⟨ret_bool (by simp), rfl⟩
  · rw [show inI x 1 8 = false by simp [inI]; omega]
    go_enter Tryz.func134, Tryz.ntmps134
    go_wp2
    go_ret
    exact ⟨ret_bool (by simp), rfl⟩

set_option maxRecDepth 20000 in
set_option maxHeartbeats 400000 in
theorem itry_any (x : Int) (w : World) :
    Calls Tryz.prog 120 #[.int .i64 x] w fun e w' => e = .returned (.bool (inI x 1 100000)) ∧ w' = w := by
  by_cases h0 : 1 ≤ x
  · by_cases h1 : x ≤ 100000
    · rw [show inI x 1 100000 = true by simp [inI, h0, h1]]
      go_enter Tryz.func120, Tryz.ntmps120
      go_wp2
      go_ret
      exact ⟨ret_bool (by simp), rfl⟩
    · rw [show inI x 1 100000 = false by simp [inI]; omega]
      go_enter Tryz.func120, Tryz.ntmps120
      go_wp2
      go_ret
      exact ⟨ret_bool (by simp), rfl⟩
  · rw [show inI x 1 100000 = false by simp [inI]; omega]
    go_enter Tryz.func120, Tryz.ntmps120
    go_wp2
    go_ret
    exact ⟨ret_bool (by simp), rfl⟩

set_option maxRecDepth 20000 in
set_option maxHeartbeats 400000 in
theorem iturnC_any (x : Int) (w : World) :
    Calls Tryz.prog 109 #[.int .i64 x] w fun e w' => e = .returned (.bool (inI x 0 1000000000)) ∧ w' = w := by
  by_cases h0 : 0 ≤ x
  · by_cases h1 : x ≤ 1000000000
    · rw [show inI x 0 1000000000 = true by simp [inI, h0, h1]]
      go_enter Tryz.func109, Tryz.ntmps109
      go_wp2
      go_ret
      exact ⟨ret_bool (by simp), rfl⟩
    · rw [show inI x 0 1000000000 = false by simp [inI]; omega]
      go_enter Tryz.func109, Tryz.ntmps109
      go_wp2
      go_ret
      exact ⟨ret_bool (by simp), rfl⟩
  · rw [show inI x 0 1000000000 = false by simp [inI]; omega]
    go_enter Tryz.func109, Tryz.ntmps109
    go_wp2
    go_ret
    exact ⟨ret_bool (by simp), rfl⟩

set_option maxRecDepth 20000 in
set_option maxHeartbeats 1000000 in
theorem iturns_any (v : Value) (ts : List Int) (w : World) (hr : Reads w v ts) (hl : ts.length ≤ 1099511627776) :
    Calls Tryz.prog 121 #[v] w fun e w' => e = .returned (.bool (turnsI ts && inI ts.length 1 8)) ∧ w' = w := by
  have HE : Hid (∀ b : Bool, turnsI ts = b → (turnsI ts && inI ts.length 1 8) = (b && inI ts.length 1 8)) := fun b h => by rw [h]
  have HF : Hid (inI ts.length 1 8 = false → (turnsI ts && inI ts.length 1 8) = false) := fun h => by rw [h, Bool.and_false]
  obtain ⟨ao, cap, rfl⟩ := reads_form hr
  obtain ⟨-, hc1, hc2, hcell⟩ := reads_cells hr
  have ck := fun x wx => iturnC_any x wx
  have cl := fun wx => icount_any (ts.length : Int) wx
  obtain ⟨x, hx⟩ : ∃ x, x = (turnsI ts && inI ts.length 1 8) := ⟨_, rfl⟩
  simp only [← hx] at HE HF ⊢
  obtain ⟨y, hy⟩ : ∃ y, y = inI ts.length 1 8 := ⟨_, rfl⟩
  simp only [← hy] at HE HF cl
  obtain ⟨n, hn⟩ : ∃ n, n = ts.length := ⟨_, rfl⟩
  rw [← hn] at hl hc1 hcell
  simp only [← hn] at cl ⊢
  have HN : Hid (n = ts.length) := hn
  unfold maxLen at hc2
  clear hr hn hx hy
  go_enter Tryz.func121, Tryz.ntmps121
  go_wp2_with fail
  refine (cl _).mono ?_
  rintro e w' ⟨rfl, hw⟩; subst w'
  clear cl
  cases y with
  | false =>
    have HX : Hid (x = false) := HF.out rfl
    clear HE HF
    go_wp2
    go_ret
    rw [HX.out]
    exact ⟨rfl, rfl⟩
  | true =>
    clear HF
    go_wp2
    go_loop [11] (fun i => ∃ j : Nat, j ≤ n ∧ i = .int .i64 j ∧ Hid (turnsI (ts.take j) = true)) (fun i => n - (intOf i).toNat)
    case atStart => exact ⟨0, Nat.zero_le _, rfl, by simp [Hid, turnsI]⟩
    case round =>
      obtain ⟨j, hj, rfl, HT⟩ := hrel
      by_cases hlt : (j : Int) < (n : Int)
      · obtain ⟨b, off, rfl, hcj⟩ := hcell j (by omega)
        clear hcell
        have hjl : j < ts.length := by have := HN.out; omega
        have HA : Hid (inI (ts.getD j 0) 0 1000000000 = false → turnsI ts = false) := turns_not ts j hjl
        have HZ : Hid (inI (ts.getD j 0) 0 1000000000 = true → turnsI (ts.take (j + 1)) = true) := turns_take ts j hjl HT.out
        have ckj := fun wx => ck (ts.getD j 0) wx
        obtain ⟨z, hz⟩ : ∃ z, z = ts.getD j 0 := ⟨_, rfl⟩
        rw [← hz] at hcj HA HZ
        simp only [← hz] at ckj
        obtain ⟨bz, hbz⟩ : ∃ bz, bz = inI z 0 1000000000 := ⟨_, rfl⟩
        rw [← hbz] at HA HZ
        simp only [← hbz] at ckj
        clear hz hjl hbz ck
        go_wp2_with fail
        refine (ckj _).mono ?_
        rintro e w' ⟨rfl, hw⟩; subst w'
        cases bz with
        | true =>
          have HZ2 : Hid (turnsI (ts.take (j + 1)) = true) := HZ.out rfl
          clear HZ HA
          go_wp2
          go_round
          case rel => exact ⟨j + 1, by omega, by go_num, HZ2.out⟩
          case measure => simp [intOf]; omega
        | false =>
          have HX : Hid (x = false) := by rw [Hid, HE.out false (HA.out rfl)]; rfl
          clear HZ HA
          go_wp2
          go_ret
          rw [HX.out]
          exact ⟨rfl, rfl⟩
      · have HX : Hid (x = true) := by
          have := HT.out
          rw [List.take_of_length_le (by have := HN.out; omega)] at this
          rw [Hid, HE.out true this]; rfl
        clear HT ck
        go_wp2
        go_ret
        rw [HX.out]
        exact ⟨rfl, rfl⟩
end Go.Proofs.YtkenbanaodbooaaGreatDoor
