/- What the laws on commands draw: l6Draw, l6DrawAny, DrawCmdOk, DrawShowCmd, DrawChanges. -/
import Derived.Test.YtpdggofaobmnlaaM11
import Derived.Test.YtpdggofaobmnlaaBend
import Derived.Test.YtpdggofaobmnlaaSHold
import Derived.Test.YtpdggofaobmnlaaM14
import Derived.Test.YtpdggofaobmnlaaLHold
import Derived.Deep.DeepCutAuto
import Derived.Test.YtpdggofaobmnlaaM10
import Derived.Test.YtpdggofaobmnlaaM2
namespace Go.Proofs.Ytpdggofaobmnlaa
open Go.ChangeShapes Go.WideShapes Go.ChangeAt Go.RowKit
end Go.Proofs.Ytpdggofaobmnlaa
/- Holdings by the model, on: l8Registered, Registered, l8Holds, Holds, l8May, May. -/
namespace Go.Proofs.Ytpdggofaobmnlaa
open Go.ChangeShapes Go.WideShapes Go.ChangeAt Go.RowKit
end Go.Proofs.Ytpdggofaobmnlaa
/- The model's hands on a holding of its own, behind a pointer: l9Turn, l9Free, l9Take, l9Register, l9Reserve, l9Release, l9Clear; l8Copy. -/
namespace Go.Proofs.Ytpdggofaobmnlaa
open Go.ChangeShapes Go.WideShapes Go.ChangeAt Go.RowKit

/- Block g holds the holding h, block q its four keys, both new since there were 'base' blocks. -/
def PQ (w : World) (base g q cap : Nat) (h : Hd) : Prop :=
  StB w g 28 (hdA (.slice (some ⟨q, 0, none⟩) 4 cap) h) ∧ Own w base (.slice (some ⟨q, 0, none⟩) 4 cap) h.ks ∧ (g ≠ q ∧ base ≤ g ∧ base ≤ q ∧ h.ks.length = 4)
def PB (w : World) (base g : Nat) (h : Hd) : Prop := ∃ q cap, PQ w base g q cap h
theorem PQ.put {w : World} {base g q cap : Nat} {h : Hd} (d : PQ w base g q cap h) (j : Nat) (x : Int) (f : Hd) (hk : f.ks = h.ks) (e : (hdA (.slice (some ⟨q, 0, none⟩) 4 cap) h).setIfInBounds j (.int .i64 x) = hdA (.slice (some ⟨q, 0, none⟩) 4 cap) f) :
    PQ (w.setCell ⟨g, j, none⟩ (.int .i64 x)) base g q cap f ∧ Below base w (w.setCell ⟨g, j, none⟩ (.int .i64 x)) := by
  obtain ⟨h1, h2, h3⟩ := d
  have G := grownSet w g j (.int .i64 x)
  refine ⟨⟨h1.put j _ e, ?_, ?_⟩, (Below.refl base w).setCell h3.2.1 _⟩
  · rw [hk]; exact h2.kept G (.inr (by intro e; have : q = g := Option.some.inj e; omega))
  · rw [hk]; exact h3
theorem PQ.key {w : World} {base g q cap : Nat} {h : Hd} (d : PQ w base g q cap h) (j : Nat) (hj : j < 4) (x : Int) :
    w.frozen? ⟨q, j, none⟩ = false ∧ w.cell? ⟨q, j, none⟩ = some (.int .i64 (h.ks.getD j 0)) ∧ PQ (w.setCell ⟨q, j, none⟩ (.int .i64 x)) base g q cap ⟨h.ks.set j x, h.kd, h.ho, h.tu⟩ ∧ Below base w (w.setCell ⟨q, j, none⟩ (.int .i64 x)) := by
  obtain ⟨h1, h2, h3⟩ := d
  obtain ⟨f, -, o⟩ := h2.put h3.2.2.2.symm j hj x
  have G := grownSet w q j (.int .i64 x)
  obtain ⟨-, -, -, hc⟩ := reads_cells h2.reads
  obtain ⟨b, off, e, hcell⟩ := hc j hj
  simp only [Option.some.injEq, Addr.mk.injEq] at e
  obtain ⟨rfl, rfl, -⟩ := e
  rw [Nat.zero_add] at hcell
  refine ⟨f, hcell, ⟨h1.kept G ?_, o, ?_⟩, (Below.refl base w).setCell h3.2.2.1 _⟩
  · intro e; have := Option.some.inj e; omega
  · simpa using h3
theorem PQ.below {w w' : World} {base g q cap : Nat} {h : Hd} (d : PQ w base g q cap h) (b : Below w.heap.size w w') : PQ w' base g q cap h :=
  ⟨d.1.below b, d.2.1.below b, d.2.2⟩
theorem PQ.lt {w : World} {base g q cap : Nat} {h : Hd} (d : PQ w base g q cap h) : base ≤ w.heap.size := by
  have := d.1.lt; have := d.2.2.2.1; omega
theorem PB.below {w w' : World} {base g : Nat} {h : Hd} (d : PB w base g h) (b : Below w.heap.size w w') : PB w' base g h := by
  obtain ⟨q, cap, d⟩ := d
  exact ⟨q, cap, d.below b⟩

theorem PB.lt {w : World} {base g : Nat} {h : Hd} (d : PB w base g h) : base ≤ w.heap.size := by
  obtain ⟨q, cap, d⟩ := d
  exact d.lt
end Go.Proofs.Ytpdggofaobmnlaa
/- The model's Register, Reserve, Release and Clear. -/
namespace Go.Proofs.Ytpdggofaobmnlaa
open Go.ChangeShapes Go.WideShapes Go.ChangeAt Go.RowKit

/- The parameter in its box, the answer's block behind it. -/
def Bx (w wx : World) (v : Value) (h : Hd) : Prop := StB wx w.heap.size 28 (hdA v h) ∧ StB wx (w.heap.size + 1) 28 #[.slice none 0 0, .int .i64 0, .int .i64 0, .int .i64 0] ∧ Below w.heap.size w wx ∧ w.heap.size + 2 ≤ wx.heap.size ∧ Reads wx v h.ks
theorem Bx.start {w : World} {v : Value} {h : Hd} (hr : Reads w v h.ks) : Bx w ((w.alloc (.cells (hdA v h) 28)).alloc (.cells #[.slice none 0 0, .int .i64 0, .int .i64 0, .int .i64 0] 28)) v h := by
  have b1 : Below w.heap.size w (w.alloc (.cells (hdA v h) 28)) := (Below.refl _ _).alloc (Nat.le_refl _) _
  have b2 : Below w.heap.size w ((w.alloc (.cells (hdA v h) 28)).alloc (.cells #[.slice none 0 0, .int .i64 0, .int .i64 0, .int .i64 0] 28)) := b1.alloc (by simp) _
  refine ⟨(StB.new w _ _).alloc _, ?_, b2, by simp, hr.below b2 (Nat.le_refl _)⟩
  have := StB.new (w.alloc (.cells (hdA v h) 28)) 28 #[.slice none 0 0, .int .i64 0, .int .i64 0, .int .i64 0]
  rwa [World.size_alloc] at this
theorem Bx.next {w wx wy : World} {v : Value} {h : Hd} (d : Bx w wx v h) (b : Below wx.heap.size wx wy) : Bx w wy v h :=
  ⟨d.1.below b, d.2.1.below b, d.2.2.1.trans (b.mono d.2.2.1.size), Nat.le_trans d.2.2.2.1 b.size, d.2.2.2.2.below b (Nat.le_refl _)⟩

set_option maxRecDepth 20000 in
set_option maxHeartbeats 1000000 in
theorem s8copy_any (v : Value) (h : Hd) (w : World) (hr : Reads w v h.ks) (hl : h.ks.length ≤ 1099511627776) :
    Calls Try.prog 70 #[HV v h] w fun e w' => ∃ u, e = .returned (HV u h) ∧ Own w' w.heap.size u h.ks ∧ Below w.heap.size w w' := by
  obtain ⟨ao, cap, rfl⟩ := reads_form hr
  obtain ⟨w1, hw1⟩ : ∃ w1, w1 = (w.alloc (.cells (hdA (.slice ao h.ks.length cap) h) 28)).alloc (.cells #[.slice none 0 0, .int .i64 0, .int .i64 0, .int .i64 0] 28) := ⟨_, rfl⟩
  have HB : Hid (Bx w w1 (.slice ao h.ks.length cap) h) := by rw [hw1]; exact Bx.start hr
  have c1 := copy_any (.slice ao h.ks.length cap) h.ks w1 HB.out.2.2.2.2 hl
  have HW : Hid (w1 = (w.alloc (.cells #[.slice ao h.ks.length cap, .int .i64 h.kd, .int .i64 h.ho, .int .i64 h.tu] 28)).alloc (.cells #[.slice none 0 0, .int .i64 0, .int .i64 0, .int .i64 0] 28)) := hw1
  clear hw1 hr hl
  unfold HV
  conv in hdA (.slice ao h.ks.length cap) h => unfold hdA
  go_enter Try.func70, Try.ntmps70
  go_wp2_with fail
  rw [← HW.out]
  clear HW
  refine c1.mono ?_
  rintro e w2 ⟨u, rfl, o2, b2⟩
  have D2 : Bx w w2 (.slice ao h.ks.length cap) h := HB.out.next b2
  obtain ⟨ab, cb, rfl⟩ := reads_form o2.reads
  have k0 : w2.cell? ⟨w.heap.size, 0, none⟩ = some (.slice ao h.ks.length cap) := D2.1.cell 0 rfl
  have f0 := D2.1.frozen 0
  have G := grownSet w2 w.heap.size 0 (.slice ab h.ks.length cb)
  have zq : StB (w2.setCell ⟨w.heap.size, 0, none⟩ (.slice ab h.ks.length cb)) w.heap.size 28 (hdA (.slice ab h.ks.length cb) h) := D2.1.put 0 _ rfl
  have zz : StB (w2.setCell ⟨w.heap.size, 0, none⟩ (.slice ab h.ks.length cb)) (w.heap.size + 1) 28 #[.slice none 0 0, .int .i64 0, .int .i64 0, .int .i64 0] := D2.2.1.kept G (by intro e; have := Option.some.inj e; omega)
  have HF : Hid (Own (w2.setCell ⟨w.heap.size, 0, none⟩ (.slice ab h.ks.length cb)) w1.heap.size (.slice ab h.ks.length cb) h.ks ∧ Below w.heap.size w (w2.setCell ⟨w.heap.size, 0, none⟩ (.slice ab h.ks.length cb)) ∧ w.heap.size + 2 ≤ w1.heap.size) := by
    refine ⟨o2.keptLt G (by have := HB.out.2.2.2.1; omega), D2.2.2.1.setCell (Nat.le_refl _) _, HB.out.2.2.2.1⟩
  clear D2 G o2 b2 HB c1
  go_wp2_with (first | (refine wpList_getS Try.isH rfl _ rfl w.heap.size rfl (hdA (.slice ab h.ks.length cb) h) rfl zq ?_) | (refine wpList_putS Try.isH rfl _ _ rfl (w.heap.size + 1) (hdA (.slice ab h.ks.length cb) h) #[.slice none 0 0, .int .i64 0, .int .i64 0, .int .i64 0] rfl rfl rfl rfl (hdA_one _ rfl) zz ?_; intro we se ge))
  refine bodyPost_ret (results_S Try.isH rfl _ _ (w.heap.size + 1) _ rfl rfl se) rfl ?_
  exact ⟨_, rfl, (HF.out.1.keptLt ge (by have := HF.out.2.2; omega)).mono (by have := HF.out.2.2; omega), HF.out.2.1.grown ge HF.out.2.1.size (fun x e => by cases e; omega)⟩
end Go.Proofs.Ytpdggofaobmnlaa
/- The model's store: StoreOk, l12Copy. -/
namespace Go.Proofs.Ytpdggofaobmnlaa
open Go.ChangeShapes Go.WideShapes Go.ChangeAt Go.RowKit

set_option maxRecDepth 20000 in
set_option maxHeartbeats 1000000 in
theorem sstoreok_any (u v q : Value) (xs ys : List Int) (h : Hd) (w : World) (hu : Reads w u xs) (hv : Reads w v ys) (hq : Reads w q h.ks) (gx : xs.length ≤ 1099511627776) (gy : ys.length ≤ 1099511627776) (gk : h.ks.length ≤ 1099511627776) :
    Calls Try.prog 16 #[SRV u v q h] w fun e w' => e = .returned (.bool (Sr.ok ⟨xs, ys, h⟩)) ∧ Below w.heap.size w w' := by
  have B1 : Hid (Below w.heap.size w (w.alloc (.cells (srA u v q h) 30))) := (Below.refl _ _).alloc (Nat.le_refl _) _
  have P1 : Hid (StB (w.alloc (.cells (srA u v q h) 30)) w.heap.size 30 (srA u v q h)) := StB.new _ _ _
  have c1 := sdiskOk_any u v xs ys _ (hu.below B1.out (Nat.le_refl _)) (hv.below B1.out (Nat.le_refl _)) gx gy
  have c2 : Hid (∀ wx, Below w.heap.size w wx → Calls Try.prog 42 #[HV q h] wx fun e w' => e = .returned (.bool h.ok) ∧ Below wx.heap.size wx w') := fun wx b => sholdok_any q h wx (hq.below b (Nat.le_refl _)) gk
  have HE : Hid (Sr.ok ⟨xs, ys, h⟩ = (bothOk xs ys && h.ok)) := rfl
  obtain ⟨r, hr⟩ : ∃ r, r = Sr.ok ⟨xs, ys, h⟩ := ⟨_, rfl⟩
  rw [← hr] at HE ⊢
  obtain ⟨b, hb⟩ : ∃ b, b = bothOk xs ys := ⟨_, rfl⟩
  obtain ⟨o, ho⟩ : ∃ o, o = h.ok := ⟨_, rfl⟩
  rw [← hb, ← ho] at HE
  rw [← hb] at c1
  rw [← ho] at c2
  obtain ⟨uo, uc, rfl⟩ := reads_form hu
  obtain ⟨vo, vc, rfl⟩ := reads_form hv
  obtain ⟨qo, qc, rfl⟩ := reads_form hq
  clear hu hv hq gx gy gk hr hb ho
  unfold SRV srA at *
  unfold HV hdA at c2
  go_enter Try.func16, Try.ntmps16
  go_wp2_with fail
  refine c1.mono ?_
  rintro e w2 ⟨rfl, b2⟩
  have B2 : Hid (Below w.heap.size w w2) := B1.out.trans (b2.mono B1.out.size)
  have P2 := P1.out.below b2
  have k2 := P2.cell 2 rfl
  have k3 := P2.cell 3 rfl
  have k4 := P2.cell 4 rfl
  have k5 := P2.cell 5 rfl
  clear b2 c1 B1 P1 P2
  cases b with
  | false =>
    go_wp2
    go_ret
    exact ⟨ret_bool (by rw [HE.out]; rfl), B2.out⟩
  | true =>
    go_wp2_with fail
    refine (c2.out _ B2.out).mono ?_
    rintro e w3 ⟨rfl, b3⟩
    have B3 : Hid (Below w.heap.size w w3) := B2.out.trans (b3.mono B2.out.size)
    clear b3 k2 k3 k4 k5 c2
    go_wp2
    go_ret
    exact ⟨ret_bool (by rw [HE.out]; simp), B3.out⟩
end Go.Proofs.Ytpdggofaobmnlaa
/- What a region keeps that stores into one block alone: every cell of the others. -/
namespace Go.Proofs.Ytpdggofaobmnlaa
open Go.ChangeShapes Go.WideShapes Go.ChangeAt Go.RowKit

theorem bl_size {w wx : World} (h : Below w.heap.size w wx) : w.heap.size ≤ wx.heap.size := h.size
def Sp (g : Nat) (w1 w' : World) : Prop := ∀ a x, a.block ≠ g → w1.cell? a = some x → w'.cell? a = some x
theorem Sp.refl (g : Nat) (w1 : World) : Sp g w1 w1 := fun _ _ _ h => h
theorem Sp.dr {g : Nat} {w1 wx : World} (h : Sp g w1 wx) : Sp g w1 wx.drew := h
theorem Sp.bel {g : Nat} {w1 wx wy : World} (h : Sp g w1 wx) (b : Below wx.heap.size wx wy) : Sp g w1 wy := fun a x h1 h3 => later_cell (h a x h1 h3) b
theorem Sp.al {g : Nat} {w1 wx : World} {o : Obj} (h : Sp g w1 wx) : Sp g w1 (wx.alloc o) := h.bel ((Below.refl _ _).alloc (Nat.le_refl _) _)
theorem Sp.put {g : Nat} {w1 wx wy : World} (h : Sp g w1 wx) (e : wx.grownBy wy (some g)) : Sp g w1 wy := fun a x h1 h3 => e.cell (h a x h1 h3) (by simpa using h1)
theorem Sp.set {g : Nat} {w1 wx : World} {j : Nat} {v : Value} (h : Sp g w1 wx) : Sp g w1 (wx.setCell ⟨g, j, none⟩ v) := h.put (grownSet wx g j v)
/- The same of two blocks. -/
def Sd (g k : Nat) (w1 w' : World) : Prop := ∀ a x, a.block ≠ g → a.block ≠ k → w1.cell? a = some x → w'.cell? a = some x
theorem Sd.refl (g k : Nat) (w1 : World) : Sd g k w1 w1 := fun _ _ _ _ h => h
theorem Sd.dr {g k : Nat} {w1 wx : World} (h : Sd g k w1 wx) : Sd g k w1 wx.drew := h
theorem Sd.bel {g k : Nat} {w1 wx wy : World} (h : Sd g k w1 wx) (b : Below wx.heap.size wx wy) : Sd g k w1 wy := fun a x h1 h2 h3 => later_cell (h a x h1 h2 h3) b
theorem Sd.al {g k : Nat} {w1 wx : World} {o : Obj} (h : Sd g k w1 wx) : Sd g k w1 (wx.alloc o) := h.bel ((Below.refl _ _).alloc (Nat.le_refl _) _)
theorem Sd.put1 {g k : Nat} {w1 wx wy : World} (h : Sd g k w1 wx) (e : wx.grownBy wy (some g)) : Sd g k w1 wy := fun a x h1 h2 h3 => e.cell (h a x h1 h2 h3) (by simpa using h1)
theorem Sd.put2 {g k : Nat} {w1 wx wy : World} (h : Sd g k w1 wx) (e : wx.grownBy wy (some k)) : Sd g k w1 wy := fun a x h1 h2 h3 => e.cell (h a x h1 h2 h3) (by simpa using h2)
theorem Sd.set1 {g k : Nat} {w1 wx : World} {j : Nat} {v : Value} (h : Sd g k w1 wx) : Sd g k w1 (wx.setCell ⟨g, j, none⟩ v) := h.put1 (grownSet wx g j v)
theorem Sd.set2 {g k : Nat} {w1 wx : World} {j : Nat} {v : Value} (h : Sd g k w1 wx) : Sd g k w1 (wx.setCell ⟨k, j, none⟩ v) := h.put2 (grownSet wx k j v)
end Go.Proofs.Ytpdggofaobmnlaa
