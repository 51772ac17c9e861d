/- The model's hands on a holding of its own, behind a pointer: l9Turn, l9Free, l9Take, l9Register, l9Reserve, l9Release, l9Clear; l8Copy. -/
import Derived.Test.YtjbfncjdedigdaaM4
import Derived.Test.YtjbfncjdedigdaaM18
import Derived.Test.YtjbfncjdedigdaaLHold
import Derived.Deep.DeepCutAuto
namespace Go.Proofs.Ytjbfncjdedigdaa
open Go.ChangeShapes Go.WideShapes Go.ChangeAt Go.RowKit

/- Block g holds the holding h, block q its four keys, both new since there were 'base' blocks. -/
def PQ (w : World) (base g q cap : Nat) (h : Hd) : Prop :=
  StB w g 33 (hdA (.slice (some ⟨q, 0, none⟩) 4 cap) h) ∧ Own w base (.slice (some ⟨q, 0, none⟩) 4 cap) h.ks ∧ (g ≠ q ∧ base ≤ g ∧ base ≤ q ∧ h.ks.length = 4)
def PB (w : World) (base g : Nat) (h : Hd) : Prop := ∃ q cap, PQ w base g q cap h
theorem PQ.put {w : World} {base g q cap : Nat} {h : Hd} (d : PQ w base g q cap h) (j : Nat) (x : Int) (f : Hd) (hk : f.ks = h.ks) (e : (hdA (.slice (some ⟨q, 0, none⟩) 4 cap) h).setIfInBounds j (.int .i64 x) = hdA (.slice (some ⟨q, 0, none⟩) 4 cap) f) :
    PQ (w.setCell ⟨g, j, none⟩ (.int .i64 x)) base g q cap f ∧ Below base w (w.setCell ⟨g, j, none⟩ (.int .i64 x)) := by
  obtain ⟨h1, h2, h3⟩ := d
  have G := grownSet w g j (.int .i64 x)
  refine ⟨⟨h1.put j _ e, ?_, ?_⟩, (Below.refl base w).setCell h3.2.1 _⟩
  · rw [hk]; exact h2.kept G (.inr (by intro e; have : q = g := Option.some.inj e; omega))
  · rw [hk]; exact h3
theorem PQ.key {w : World} {base g q cap : Nat} {h : Hd} (d : PQ w base g q cap h) (j : Nat) (hj : j < 4) (x : Int) :
    w.frozen? ⟨q, j, none⟩ = false ∧ w.cell? ⟨q, j, none⟩ = some (.int .i64 (h.ks.getD j 0)) ∧ PQ (w.setCell ⟨q, j, none⟩ (.int .i64 x)) base g q cap ⟨h.ks.set j x, h.kd, h.ho, h.tu⟩ ∧ Below base w (w.setCell ⟨q, j, none⟩ (.int .i64 x)) := by
  obtain ⟨h1, h2, h3⟩ := d
  obtain ⟨f, -, o⟩ := h2.put h3.2.2.2.symm j hj x
  have G := grownSet w q j (.int .i64 x)
  obtain ⟨-, -, -, hc⟩ := reads_cells h2.reads
  obtain ⟨b, off, e, hcell⟩ := hc j hj
  simp only [Option.some.injEq, Addr.mk.injEq] at e
  obtain ⟨rfl, rfl, -⟩ := e
  rw [Nat.zero_add] at hcell
  refine ⟨f, hcell, ⟨h1.kept G ?_, o, ?_⟩, (Below.refl base w).setCell h3.2.2.1 _⟩
  · intro e; have := Option.some.inj e; omega
  · simpa using h3
theorem PQ.below {w w' : World} {base g q cap : Nat} {h : Hd} (d : PQ w base g q cap h) (b : Below w.heap.size w w') : PQ w' base g q cap h :=
  ⟨d.1.below b, d.2.1.below b, d.2.2⟩
theorem PQ.lt {w : World} {base g q cap : Nat} {h : Hd} (d : PQ w base g q cap h) : base ≤ w.heap.size := by
  have := d.1.lt; have := d.2.2.2.1; omega
theorem PB.below {w w' : World} {base g : Nat} {h : Hd} (d : PB w base g h) (b : Below w.heap.size w w') : PB w' base g h := by
  obtain ⟨q, cap, d⟩ := d
  exact ⟨q, cap, d.below b⟩

theorem PB.lt {w : World} {base g : Nat} {h : Hd} (d : PB w base g h) : base ≤ w.heap.size := by
  obtain ⟨q, cap, d⟩ := d
  exact d.lt
end Go.Proofs.Ytjbfncjdedigdaa
/- The model's Register, Reserve, Release and Clear. -/
namespace Go.Proofs.Ytjbfncjdedigdaa
open Go.ChangeShapes Go.WideShapes Go.ChangeAt Go.RowKit

/- The parameter in its box, the answer's block behind it. -/
def Bx (w wx : World) (v : Value) (h : Hd) : Prop := StB wx w.heap.size 33 (hdA v h) ∧ StB wx (w.heap.size + 1) 33 #[.slice none 0 0, .int .i64 0, .int .i64 0, .int .i64 0] ∧ Below w.heap.size w wx ∧ w.heap.size + 2 ≤ wx.heap.size ∧ Reads wx v h.ks
theorem Bx.start {w : World} {v : Value} {h : Hd} (hr : Reads w v h.ks) : Bx w ((w.alloc (.cells (hdA v h) 33)).alloc (.cells #[.slice none 0 0, .int .i64 0, .int .i64 0, .int .i64 0] 33)) v h := by
  have b1 : Below w.heap.size w (w.alloc (.cells (hdA v h) 33)) := (Below.refl _ _).alloc (Nat.le_refl _) _
  have b2 : Below w.heap.size w ((w.alloc (.cells (hdA v h) 33)).alloc (.cells #[.slice none 0 0, .int .i64 0, .int .i64 0, .int .i64 0] 33)) := b1.alloc (by simp) _
  refine ⟨(StB.new w _ _).alloc _, ?_, b2, by simp, hr.below b2 (Nat.le_refl _)⟩
  have := StB.new (w.alloc (.cells (hdA v h) 33)) 33 #[.slice none 0 0, .int .i64 0, .int .i64 0, .int .i64 0]
  rwa [World.size_alloc] at this
theorem Bx.next {w wx wy : World} {v : Value} {h : Hd} (d : Bx w wx v h) (b : Below wx.heap.size wx wy) : Bx w wy v h :=
  ⟨d.1.below b, d.2.1.below b, d.2.2.1.trans (b.mono d.2.2.1.size), Nat.le_trans d.2.2.2.1 b.size, d.2.2.2.2.below b (Nat.le_refl _)⟩

set_option maxRecDepth 20000 in
set_option maxHeartbeats 1000000 in
theorem s8copy_any (v : Value) (h : Hd) (w : World) (hr : Reads w v h.ks) (hl : h.ks.length ≤ 1099511627776) :
    Calls Try.prog 60 #[HV v h] w fun e w' => ∃ u, e = .returned (HV u h) ∧ Own w' w.heap.size u h.ks ∧ Below w.heap.size w w' := by
  obtain ⟨ao, cap, rfl⟩ := reads_form hr
  obtain ⟨w1, hw1⟩ : ∃ w1, w1 = (w.alloc (.cells (hdA (.slice ao h.ks.length cap) h) 33)).alloc (.cells #[.slice none 0 0, .int .i64 0, .int .i64 0, .int .i64 0] 33) := ⟨_, rfl⟩
  have HB : Hid (Bx w w1 (.slice ao h.ks.length cap) h) := by rw [hw1]; exact Bx.start hr
  have c1 := copy_any (.slice ao h.ks.length cap) h.ks w1 HB.out.2.2.2.2 hl
  have HW : Hid (w1 = (w.alloc (.cells #[.slice ao h.ks.length cap, .int .i64 h.kd, .int .i64 h.ho, .int .i64 h.tu] 33)).alloc (.cells #[.slice none 0 0, .int .i64 0, .int .i64 0, .int .i64 0] 33)) := hw1
  clear hw1 hr hl
  unfold HV
  conv in hdA (.slice ao h.ks.length cap) h => unfold hdA
  go_enter Try.func60, Try.ntmps60
  go_wp2_with fail
  rw [← HW.out]
  clear HW
  refine c1.mono ?_
  rintro e w2 ⟨u, rfl, o2, b2⟩
  have D2 : Bx w w2 (.slice ao h.ks.length cap) h := HB.out.next b2
  obtain ⟨ab, cb, rfl⟩ := reads_form o2.reads
  have k0 : w2.cell? ⟨w.heap.size, 0, none⟩ = some (.slice ao h.ks.length cap) := D2.1.cell 0 rfl
  have f0 := D2.1.frozen 0
  have G := grownSet w2 w.heap.size 0 (.slice ab h.ks.length cb)
  have zq : StB (w2.setCell ⟨w.heap.size, 0, none⟩ (.slice ab h.ks.length cb)) w.heap.size 33 (hdA (.slice ab h.ks.length cb) h) := D2.1.put 0 _ rfl
  have zz : StB (w2.setCell ⟨w.heap.size, 0, none⟩ (.slice ab h.ks.length cb)) (w.heap.size + 1) 33 #[.slice none 0 0, .int .i64 0, .int .i64 0, .int .i64 0] := D2.2.1.kept G (by intro e; have := Option.some.inj e; omega)
  have HF : Hid (Own (w2.setCell ⟨w.heap.size, 0, none⟩ (.slice ab h.ks.length cb)) w1.heap.size (.slice ab h.ks.length cb) h.ks ∧ Below w.heap.size w (w2.setCell ⟨w.heap.size, 0, none⟩ (.slice ab h.ks.length cb)) ∧ w.heap.size + 2 ≤ w1.heap.size) := by
    refine ⟨o2.keptLt G (by have := HB.out.2.2.2.1; omega), D2.2.2.1.setCell (Nat.le_refl _) _, HB.out.2.2.2.1⟩
  clear D2 G o2 b2 HB c1
  go_wp2_with (first | (refine wpList_getS Try.isH rfl _ rfl w.heap.size rfl (hdA (.slice ab h.ks.length cb) h) rfl zq ?_) | (refine wpList_putS Try.isH rfl _ _ rfl (w.heap.size + 1) (hdA (.slice ab h.ks.length cb) h) #[.slice none 0 0, .int .i64 0, .int .i64 0, .int .i64 0] rfl rfl rfl rfl (hdA_one _ rfl) zz ?_; intro we se ge))
  refine bodyPost_ret (results_S Try.isH rfl _ _ (w.heap.size + 1) _ rfl rfl se) rfl ?_
  exact ⟨_, rfl, (HF.out.1.keptLt ge (by have := HF.out.2.2; omega)).mono (by have := HF.out.2.2; omega), HF.out.2.1.grown ge HF.out.2.1.size (fun x e => by cases e; omega)⟩
end Go.Proofs.Ytjbfncjdedigdaa
