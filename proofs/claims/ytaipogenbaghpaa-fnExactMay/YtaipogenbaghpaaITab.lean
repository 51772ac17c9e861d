/- Kinds by the program: shapes, the table of a kind, KindOk, ForAll. -/
import Derived.Test.YtaipogenbaghpaaMapB
import Derived.Test.YtaipogenbaghpaaStB
import Derived.Deep.RegionHeld3
import Derived.Deep.DeepCutAuto
namespace Go.Proofs.Ytaipogenbaghpaa
open Go.ChangeShapes Go.WideShapes Go.ChangeAt Go.RowKit

def heldI (k : Int) : Int := if k = 1 then 1 else if k = 2 then 1 else if k = 3 then 2 else if k = 4 then 2 else if k = 5 then 3 else if k = 6 then 3 else 0
def whatI (k : Int) : Int := if k = 1 then 1 else if k = 2 then 2 else if k = 3 then 1 else if k = 4 then 2 else if k = 5 then 1 else if k = 6 then 2 else 0
theorem Try.isShape : IsS 71 2 := ⟨⟨_, Try.underlying71⟩, by kernel_rfl⟩

set_option maxRecDepth 20000 in
set_option maxHeartbeats 400000 in
theorem ishape_any (k : Int) (w : World) :
    Calls Try.prog 64 #[.int .i64 k] w fun e w' => e = .returned (.agg #[.int .i64 (heldI k), .int .i64 (whatI k)]) ∧ Below w.heap.size w w' := by
  have b1 := (Below.refl w.heap.size w).alloc (Nat.le_refl _)
  rcases kinds k with h | h | h | h | h | h | h | ⟨_, h0, h1, h2, h3, h4, h5, h6⟩
  · subst h
    go_enter Try.func64, Try.ntmps64
    go_wp2
    refine bodyPost_ret (results_S Try.isShape rfl _ _ w.heap.size _ rfl rfl (StB.new w _ _)) rfl ?_
    exact ⟨rfl, b1 _⟩
  · subst h
    go_enter Try.func64, Try.ntmps64
    go_wp2
    refine bodyPost_ret (results_S Try.isShape rfl _ _ w.heap.size _ rfl rfl (StB.new w _ _)) rfl ?_
    exact ⟨rfl, b1 _⟩
  · subst h
    go_enter Try.func64, Try.ntmps64
    go_wp2
    refine bodyPost_ret (results_S Try.isShape rfl _ _ w.heap.size _ rfl rfl (StB.new w _ _)) rfl ?_
    exact ⟨rfl, b1 _⟩
  · subst h
    go_enter Try.func64, Try.ntmps64
    go_wp2
    refine bodyPost_ret (results_S Try.isShape rfl _ _ w.heap.size _ rfl rfl (StB.new w _ _)) rfl ?_
    exact ⟨rfl, b1 _⟩
  · subst h
    go_enter Try.func64, Try.ntmps64
    go_wp2
    refine bodyPost_ret (results_S Try.isShape rfl _ _ w.heap.size _ rfl rfl (StB.new w _ _)) rfl ?_
    exact ⟨rfl, b1 _⟩
  · subst h
    go_enter Try.func64, Try.ntmps64
    go_wp2
    refine bodyPost_ret (results_S Try.isShape rfl _ _ w.heap.size _ rfl rfl (StB.new w _ _)) rfl ?_
    exact ⟨rfl, b1 _⟩
  · subst h
    go_enter Try.func64, Try.ntmps64
    go_wp2
    refine bodyPost_ret (results_S Try.isShape rfl _ _ w.heap.size _ rfl rfl (StB.new w _ _)) rfl ?_
    exact ⟨rfl, b1 _⟩
  · have he : heldI k = 0 := by simp [heldI, h1, h2, h3, h4, h5, h6]
    have hf : whatI k = 0 := by simp [whatI, h1, h2, h3, h4, h5, h6]
    rw [he, hf]
    clear he hf
    go_enter Try.func64, Try.ntmps64
    go_wp2
    refine bodyPost_ret (results_S Try.isShape rfl _ _ w.heap.size _ rfl rfl (StB.new w _ _)) rfl ?_
    exact ⟨rfl, b1 _⟩

set_option maxRecDepth 20000 in
set_option maxHeartbeats 400000 in
theorem ikind_any (k : Int) (w : World) :
    Calls Try.prog 56 #[.int .i64 k] w fun e w' => e = .returned (.bool (kiI k)) ∧ Below w.heap.size w w' := by
  have c1 := ishape_any k w
  rcases kinds k with h | h | h | h | h | h | h | ⟨hk, h0, h1, h2, h3, h4, h5, h6⟩
  all_goals first
    | (subst h
       go_enter Try.func56, Try.ntmps56
       go_wp2_with fail
       refine c1.mono ?_
       rintro e w2 ⟨rfl, b2⟩
       go_wp2
       go_ret
       exact ⟨rfl, b2⟩)
    | (have he : heldI k = 0 := by simp [heldI, h1, h2, h3, h4, h5, h6]
       have hf : whatI k = 0 := by simp [whatI, h1, h2, h3, h4, h5, h6]
       rw [he, hf] at c1
       rw [hk]
       clear he hf
       go_enter Try.func56, Try.ntmps56
       go_wp2_with fail
       refine c1.mono ?_
       rintro e w2 ⟨rfl, b2⟩
       go_wp2
       go_ret
       exact ⟨rfl, b2⟩)

theorem allI_held (k : Int) : allI k = decide (heldI k = 3) := by
  rcases kinds k with h | h | h | h | h | h | h | ⟨hk, h0, h1, h2, h3, h4, h5, h6⟩
  all_goals first | (subst h; rfl) | (rw [none_all k hk, show heldI k = 0 by simp [heldI, h1, h2, h3, h4, h5, h6]]; rfl)

set_option maxRecDepth 20000 in
set_option maxHeartbeats 400000 in
theorem iall_any (k : Int) (w : World) :
    Calls Try.prog 58 #[.int .i64 k] w fun e w' => e = .returned (.bool (allI k)) ∧ Below w.heap.size w w' := by
  have c1 := ishape_any k w
  rw [allI_held]
  obtain ⟨p, hp⟩ : ∃ p, p = heldI k := ⟨_, rfl⟩
  obtain ⟨q, hq⟩ : ∃ q, q = whatI k := ⟨_, rfl⟩
  rw [← hp, ← hq] at c1
  rw [← hp]
  clear hp hq
  go_enter Try.func58, Try.ntmps58
  go_wp2_with fail
  refine c1.mono ?_
  rintro e w2 ⟨rfl, b2⟩
  have hf : ∀ wx, (Instr.field 71 (.agg #[.int .i64 p, .int .i64 q]) 0).run Try.prog wx = .ok (.int .i64 p) wx := fun wx => by kernel_rfl
  go_wp2
  go_ret
  exact ⟨ret_bool (by by_cases h : p = 3 <;> simp [h]), b2⟩

/- The table that the call itself made, in block b, behind what it was given. -/
def MBB (w0 w : World) (b : Nat) (t : Bool → Bool → Bool) : Prop := MB w b t ∧ Below w0.heap.size w0 w ∧ w0.heap.size ≤ b
theorem MBB.start (w : World) : MBB w (w.alloc (.map #[] 0)).drew w.heap.size (fun _ _ => false) :=
  ⟨⟨[], 0, (MapKept.heap_alloc w _).1, List.Pairwise.nil, fun _ _ => rfl⟩, ((Below.refl w.heap.size w).alloc (Nat.le_refl _) _).drew, Nat.le_refl _⟩
theorem MBB.grown {w0 w w' : World} {b : Nat} {t s : Bool → Bool → Bool} (h : MBB w0 w b t) (hm : MB w' b s) (hg : w.grownBy w' (some b)) : MBB w0 w' b s :=
  ⟨hm, h.2.1.grown hg h.2.1.size (fun k e => by cases e; exact h.2.2), h.2.2⟩
theorem MBB.below {w0 w w' : World} {b : Nat} {t : Bool → Bool → Bool} (h : MBB w0 w b t) (hb : Below w.heap.size w w') : MBB w0 w' b t :=
  ⟨MB.of w w' b t h.1 (hb.block b h.1.lt), h.2.1.trans (hb.mono h.2.1.size), h.2.2⟩
theorem MBB.eq {w0 w : World} {b : Nat} {t s : Bool → Bool → Bool} (h : MBB w0 w b t) (e : ∀ x y, t x y = s x y) : MBB w0 w b s := ⟨h.1.eq e, h.2⟩

theorem upon_insertB {o : Oper} {a : Act} {w : World} {K : Act → World → Prop} {Q : Exit → Act → World → Prop} (w0 : World) (b : Nat) (t : Bool → Bool → Bool) (x y : Bool) (h1 : MBB w0 w b t) (ht : t x y = false)
    (h : ∀ w', MBB w0 w' b (putT t x y) → Oper.upon Try.prog o a K Q (.ok .skip w')) :
    Oper.upon Try.prog o a K Q (((Instr.mapUpdate 65 (.map (some b)) (.agg #[.bool x, .bool y]) (.int .i64 1)).run Try.prog w).andThen fun _ w' => .ok .skip w') := by
  obtain ⟨w', hrun, h2, h3⟩ := run_insertB w b t x y h1.1 ht
  unfold keyB at hrun
  rw [hrun]
  exact h w' (h1.grown h2 h3)
theorem wpList_deleteB {ops : Array Oper} {rest : List Oper} {o : Oper} {a : Act} {w : World} {Q : Exit → Act → World → Prop} (hgd : o.guard = none) (m k : Operand)
    (ho : o.op = .call { callee := .builtin .delete, args := #[m, k], argTypes := #[65, 68] }) (w0 : World) (b : Nat) (t : Bool → Bool → Bool) (x y : Bool) (hm : a.eval m = .map (some b)) (hk : a.eval k = .agg #[.bool x, .bool y])
    (h1 : MBB w0 w b t) (h : ∀ w', MBB w0 w' b (delT t x y) → w.grownBy w' (some b) → wpList Try.prog ops Q rest (a.put o.dst (.tuple #[])) w') : wpList Try.prog ops Q (o :: rest) a w := by
  refine wpList_plain hgd fun K hK => ?_
  obtain ⟨w', hrun, h2, h3⟩ := run_deleteB w o.type b t x y h1.1
  unfold keyB at hrun
  unfold Oper.wp
  simp [execOp, ho, resolve, invoke, builtin, hm, hk, hrun, Result.andThen]
  exact hK _ _ (h w' (h1.grown h2 h3) h3)
theorem wpList_clearB {ops : Array Oper} {rest : List Oper} {o : Oper} {a : Act} {w : World} {Q : Exit → Act → World → Prop} (hgd : o.guard = none) (m : Operand)
    (ho : o.op = .call { callee := .builtin .clear, args := #[m], argTypes := #[65] }) (w0 : World) (b : Nat) (t : Bool → Bool → Bool) (hm : a.eval m = .map (some b))
    (h1 : MBB w0 w b t) (h : ∀ w', MBB w0 w' b (fun _ _ => false) → w.grownBy w' (some b) → wpList Try.prog ops Q rest (a.put o.dst (.tuple #[])) w') : wpList Try.prog ops Q (o :: rest) a w := by
  refine wpList_plain hgd fun K hK => ?_
  obtain ⟨w', hrun, h2, h3⟩ := run_clearB w o.type b t h1.1
  unfold Oper.wp
  simp [execOp, ho, resolve, invoke, builtin, hm, hrun, Result.andThen]
  exact hK _ _ (h w' (h1.grown h2 h3) h3)

/- Beside it the shape of the kind, in a block of its own. -/
def SB (w0 w : World) (b : Nat) (t : Bool → Bool → Bool) (g : Nat) (p q : Int) : Prop := MBB w0 w b t ∧ StB w g 71 #[.int .i64 p, .int .i64 q] ∧ b ≠ g
theorem SB.start {w0 w : World} {b : Nat} {t : Bool → Bool → Bool} (h : MBB w0 w b t) (p q : Int) : SB w0 (w.alloc (.cells #[.int .i64 p, .int .i64 q] 71)) b t w.heap.size p q :=
  ⟨h.below ((Below.refl w.heap.size w).alloc (Nat.le_refl _) _), StB.new w _ _, Nat.ne_of_lt h.1.lt⟩
theorem SB.grown {w0 w w' : World} {b g : Nat} {t s : Bool → Bool → Bool} {p q : Int} (h : SB w0 w b t g p q) (hm : MBB w0 w' b s) (hg : w.grownBy w' (some b)) : Hid (SB w0 w' b s g p q) :=
  ⟨hm, h.2.1.kept hg (fun e => h.2.2 (by cases e; rfl)), h.2.2⟩
theorem SB.cell0 {w0 w : World} {b g : Nat} {t : Bool → Bool → Bool} {p q : Int} (h : SB w0 w b t g p q) : w.cell? ⟨g, 0, none⟩ = some (.int .i64 p) := h.2.1.cell 0 rfl
theorem SB.cell1 {w0 w : World} {b g : Nat} {t : Bool → Bool → Bool} {p q : Int} (h : SB w0 w b t g p q) : w.cell? ⟨g, 1, none⟩ = some (.int .i64 q) := h.2.1.cell 1 rfl

def tabI (p q : Int) (x y : Bool) : Bool := !decide (p = 0) && (!(decide (q = 1) && !x) && !(!decide (p = 1) && y))

set_option maxRecDepth 20000 in
set_option maxHeartbeats 1000000 in
theorem ibarred_any (k : Int) (w : World) :
    Calls Try.prog 57 #[.int .i64 k] w fun e w' => ∃ b, e = .returned (.map (some b)) ∧ MBB w w' b (tabI (heldI k) (whatI k)) := by
  have c1 := fun wx => ishape_any k wx
  have hPQ : Hid ((heldI k = 0 ∧ whatI k = 0) ∨ ((heldI k = 1 ∨ heldI k = 2 ∨ heldI k = 3) ∧ (whatI k = 1 ∨ whatI k = 2))) := by
    rcases kinds k with h | h | h | h | h | h | h | ⟨hk, h0, h1, h2, h3, h4, h5, h6⟩
    all_goals first | (subst h; rw [Hid]; decide) | (rw [Hid]; simp [heldI, whatI, h1, h2, h3, h4, h5, h6])
  obtain ⟨p, hp⟩ : ∃ p, p = heldI k := ⟨_, rfl⟩
  obtain ⟨q, hq⟩ : ∃ q, q = whatI k := ⟨_, rfl⟩
  simp only [← hp, ← hq] at c1 hPQ ⊢
  clear hp hq
  have HC : Hid (∀ wx, Calls Try.prog 64 #[.int .i64 k] wx fun e w' => e = .returned (.agg #[.int .i64 p, .int .i64 q]) ∧ Below wx.heap.size wx w') := c1
  clear c1
  go_enter Try.func57, Try.ntmps57
  go_upto_region 1 with fail
  go_cut [3] (fun t wx => t = .map (some w.heap.size) ∧ Hid (MBB w wx w.heap.size (fun _ _ => true)))
  case first =>
    have hs := MBB.start w
    have hmm := @run_makeMap Try.prog
    go_region_held3 (fun _ => True) (trivial)
      (first
        | (refine upon_insertB w w.heap.size _ _ _ (by assumption) (by rfl) ?_; intro w1 h1))
    all_goals (go_wp2_with fail; go_meet)
    all_goals exact ⟨rfl, MBB.eq (by assumption) (by intro x y; cases x <;> cases y <;> rfl)⟩
  case rest =>
    obtain ⟨rfl, HM⟩ := hcut
    go_wp2_with fail
    refine (HC.out _).mono ?_
    rintro e w2 ⟨rfl, b2⟩
    have HS : Hid (SB w (w2.alloc (.cells #[.int .i64 p, .int .i64 q] 71)) w.heap.size (fun _ _ => true) w2.heap.size p q) := SB.start (HM.out.below b2) p q
    clear HM b2 HC
    have hPQ' := hPQ.out
    clear hPQ
    rcases hPQ' with ⟨rfl, rfl⟩ | ⟨rfl | rfl | rfl, rfl | rfl⟩
    all_goals
      (go_wp2_with (first
        | (refine wpList_deleteB rfl _ _ rfl w w.heap.size _ _ _ rfl rfl HS.out.1 ?_; intro w4 h4 g4; replace HS := HS.out.grown h4 g4; have q0 := HS.out.cell0; have q1 := HS.out.cell1; clear h4 g4)
        | (refine wpList_clearB rfl _ rfl w w.heap.size _ rfl HS.out.1 ?_; intro w4 h4 g4; replace HS := HS.out.grown h4 g4; have q0 := HS.out.cell0; have q1 := HS.out.cell1; clear h4 g4))
       go_ret
       exact ⟨_, rfl, HS.out.1.eq (by intro x y; cases x <;> cases y <;> rfl)⟩)
end Go.Proofs.Ytaipogenbaghpaa
