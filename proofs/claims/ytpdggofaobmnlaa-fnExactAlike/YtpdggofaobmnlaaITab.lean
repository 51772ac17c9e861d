/- Kinds by the program: shapes, the table of a kind, KindOk, ForAll. -/
import Derived.Test.YtpdggofaobmnlaaMapB
import Derived.Test.YtpdggofaobmnlaaStB
import Derived.Deep.RegionHeld3
import Derived.Deep.DeepCutAuto
namespace Go.Proofs.Ytpdggofaobmnlaa
open Go.ChangeShapes Go.WideShapes Go.ChangeAt Go.RowKit

def heldI (k : Int) : Int := if k = 1 then 1 else if k = 2 then 1 else if k = 3 then 2 else if k = 4 then 2 else if k = 5 then 3 else if k = 6 then 3 else 0
def whatI (k : Int) : Int := if k = 1 then 1 else if k = 2 then 2 else if k = 3 then 1 else if k = 4 then 2 else if k = 5 then 1 else if k = 6 then 2 else 0
theorem Try.isShape : IsS 108 2 := ⟨⟨_, Try.underlying108⟩, by kernel_rfl⟩

set_option maxRecDepth 20000 in
set_option maxHeartbeats 400000 in
theorem ishape_any (k : Int) (w : World) :
    Calls Try.prog 111 #[.int .i64 k] w fun e w' => e = .returned (.agg #[.int .i64 (heldI k), .int .i64 (whatI k)]) ∧ Below w.heap.size w w' := by
  have b1 := (Below.refl w.heap.size w).alloc (Nat.le_refl _)
  rcases kinds k with h | h | h | h | h | h | h | ⟨_, h0, h1, h2, h3, h4, h5, h6⟩
  · subst h
    go_enter Try.func111, Try.ntmps111
    go_wp2
    refine bodyPost_ret (results_S Try.isShape rfl _ _ w.heap.size _ rfl rfl (StB.new w _ _)) rfl ?_
    exact ⟨rfl, b1 _⟩
  · subst h
    go_enter Try.func111, Try.ntmps111
    go_wp2
    refine bodyPost_ret (results_S Try.isShape rfl _ _ w.heap.size _ rfl rfl (StB.new w _ _)) rfl ?_
    exact ⟨rfl, b1 _⟩
  · subst h
    go_enter Try.func111, Try.ntmps111
    go_wp2
    refine bodyPost_ret (results_S Try.isShape rfl _ _ w.heap.size _ rfl rfl (StB.new w _ _)) rfl ?_
    exact ⟨rfl, b1 _⟩
  · subst h
    go_enter Try.func111, Try.ntmps111
    go_wp2
    refine bodyPost_ret (results_S Try.isShape rfl _ _ w.heap.size _ rfl rfl (StB.new w _ _)) rfl ?_
    exact ⟨rfl, b1 _⟩
  · subst h
    go_enter Try.func111, Try.ntmps111
    go_wp2
    refine bodyPost_ret (results_S Try.isShape rfl _ _ w.heap.size _ rfl rfl (StB.new w _ _)) rfl ?_
    exact ⟨rfl, b1 _⟩
  · subst h
    go_enter Try.func111, Try.ntmps111
    go_wp2
    refine bodyPost_ret (results_S Try.isShape rfl _ _ w.heap.size _ rfl rfl (StB.new w _ _)) rfl ?_
    exact ⟨rfl, b1 _⟩
  · subst h
    go_enter Try.func111, Try.ntmps111
    go_wp2
    refine bodyPost_ret (results_S Try.isShape rfl _ _ w.heap.size _ rfl rfl (StB.new w _ _)) rfl ?_
    exact ⟨rfl, b1 _⟩
  · have he : heldI k = 0 := by simp [heldI, h1, h2, h3, h4, h5, h6]
    have hf : whatI k = 0 := by simp [whatI, h1, h2, h3, h4, h5, h6]
    rw [he, hf]
    clear he hf
    go_enter Try.func111, Try.ntmps111
    go_wp2
    refine bodyPost_ret (results_S Try.isShape rfl _ _ w.heap.size _ rfl rfl (StB.new w _ _)) rfl ?_
    exact ⟨rfl, b1 _⟩

set_option maxRecDepth 20000 in
set_option maxHeartbeats 400000 in
theorem ikind_any (k : Int) (w : World) :
    Calls Try.prog 109 #[.int .i64 k] w fun e w' => e = .returned (.bool (kiI k)) ∧ Below w.heap.size w w' := by
  have c1 := ishape_any k w
  rcases kinds k with h | h | h | h | h | h | h | ⟨hk, h0, h1, h2, h3, h4, h5, h6⟩
  all_goals first
    | (subst h
       go_enter Try.func109, Try.ntmps109
       go_wp2_with fail
       refine c1.mono ?_
       rintro e w2 ⟨rfl, b2⟩
       go_wp2
       go_ret
       exact ⟨rfl, b2⟩)
    | (have he : heldI k = 0 := by simp [heldI, h1, h2, h3, h4, h5, h6]
       have hf : whatI k = 0 := by simp [whatI, h1, h2, h3, h4, h5, h6]
       rw [he, hf] at c1
       rw [hk]
       clear he hf
       go_enter Try.func109, Try.ntmps109
       go_wp2_with fail
       refine c1.mono ?_
       rintro e w2 ⟨rfl, b2⟩
       go_wp2
       go_ret
       exact ⟨rfl, b2⟩)

theorem allI_held (k : Int) : allI k = decide (heldI k = 3) := by
  rcases kinds k with h | h | h | h | h | h | h | ⟨hk, h0, h1, h2, h3, h4, h5, h6⟩
  all_goals first | (subst h; rfl) | (rw [none_all k hk, show heldI k = 0 by simp [heldI, h1, h2, h3, h4, h5, h6]]; rfl)

set_option maxRecDepth 20000 in
set_option maxHeartbeats 400000 in
theorem iall_any (k : Int) (w : World) :
    Calls Try.prog 107 #[.int .i64 k] w fun e w' => e = .returned (.bool (allI k)) ∧ Below w.heap.size w w' := by
  have c1 := ishape_any k w
  rw [allI_held]
  obtain ⟨p, hp⟩ : ∃ p, p = heldI k := ⟨_, rfl⟩
  obtain ⟨q, hq⟩ : ∃ q, q = whatI k := ⟨_, rfl⟩
  rw [← hp, ← hq] at c1
  rw [← hp]
  clear hp hq
  go_enter Try.func107, Try.ntmps107
  go_wp2_with fail
  refine c1.mono ?_
  rintro e w2 ⟨rfl, b2⟩
  have hf : ∀ wx, (Instr.field 108 (.agg #[.int .i64 p, .int .i64 q]) 0).run Try.prog wx = .ok (.int .i64 p) wx := fun wx => by kernel_rfl
  go_wp2
  go_ret
  exact ⟨ret_bool (by by_cases h : p = 3 <;> simp [h]), b2⟩

/- The table that the call itself made, in block b, behind what it was given. -/
def MBB (w0 w : World) (b : Nat) (t : Bool → Bool → Bool) : Prop := MB w b t ∧ Below w0.heap.size w0 w ∧ w0.heap.size ≤ b
theorem MBB.start (w : World) : MBB w (w.alloc (.map #[] 0)).drew w.heap.size (fun _ _ => false) :=
  ⟨⟨[], 0, (MapKept.heap_alloc w _).1, List.Pairwise.nil, fun _ _ => rfl⟩, ((Below.refl w.heap.size w).alloc (Nat.le_refl _) _).drew, Nat.le_refl _⟩
theorem MBB.grown {w0 w w' : World} {b : Nat} {t s : Bool → Bool → Bool} (h : MBB w0 w b t) (hm : MB w' b s) (hg : w.grownBy w' (some b)) : MBB w0 w' b s :=
  ⟨hm, h.2.1.grown hg h.2.1.size (fun k e => by cases e; exact h.2.2), h.2.2⟩
theorem MBB.below {w0 w w' : World} {b : Nat} {t : Bool → Bool → Bool} (h : MBB w0 w b t) (hb : Below w.heap.size w w') : MBB w0 w' b t :=
  ⟨MB.of w w' b t h.1 (hb.block b h.1.lt), h.2.1.trans (hb.mono h.2.1.size), h.2.2⟩
theorem MBB.eq {w0 w : World} {b : Nat} {t s : Bool → Bool → Bool} (h : MBB w0 w b t) (e : ∀ x y, t x y = s x y) : MBB w0 w b s := ⟨h.1.eq e, h.2⟩

/- Beside it the shape of the kind, in a block of its own. -/
def SB (w0 w : World) (b : Nat) (t : Bool → Bool → Bool) (g : Nat) (p q : Int) : Prop := MBB w0 w b t ∧ StB w g 108 #[.int .i64 p, .int .i64 q] ∧ b ≠ g
theorem SB.start {w0 w : World} {b : Nat} {t : Bool → Bool → Bool} (h : MBB w0 w b t) (p q : Int) : SB w0 (w.alloc (.cells #[.int .i64 p, .int .i64 q] 108)) b t w.heap.size p q :=
  ⟨h.below ((Below.refl w.heap.size w).alloc (Nat.le_refl _) _), StB.new w _ _, Nat.ne_of_lt h.1.lt⟩
theorem SB.grown {w0 w w' : World} {b g : Nat} {t s : Bool → Bool → Bool} {p q : Int} (h : SB w0 w b t g p q) (hm : MBB w0 w' b s) (hg : w.grownBy w' (some b)) : Hid (SB w0 w' b s g p q) :=
  ⟨hm, h.2.1.kept hg (fun e => h.2.2 (by cases e; rfl)), h.2.2⟩
theorem SB.cell0 {w0 w : World} {b g : Nat} {t : Bool → Bool → Bool} {p q : Int} (h : SB w0 w b t g p q) : w.cell? ⟨g, 0, none⟩ = some (.int .i64 p) := h.2.1.cell 0 rfl
theorem SB.cell1 {w0 w : World} {b g : Nat} {t : Bool → Bool → Bool} {p q : Int} (h : SB w0 w b t g p q) : w.cell? ⟨g, 1, none⟩ = some (.int .i64 q) := h.2.1.cell 1 rfl

def tabI (p q : Int) (x y : Bool) : Bool := !decide (p = 0) && (!(decide (q = 1) && !x) && !(!decide (p = 1) && y))
end Go.Proofs.Ytpdggofaobmnlaa
