/- An action out of the table, by the program: whatever the row, if what stands in it answers. -/
import Derived.Test.YtppkncmlloelbaaIActed
namespace Go.Proofs.Ytppkncmlloelbaa
open Go.ChangeShapes Go.WideShapes Go.ChangeAt Go.RowKit

def zeHA : Array Value := #[.slice none 0 0, .int .i64 0, .int .i64 0, .int .i64 0]
/- Three new blocks: the holding, the wish, and what is answered. -/
def AW (w w1 : World) (v : Value) (h : Hd) (i k d : Int) : Prop :=
  StB w1 w.heap.size 26 (hdA v h) ∧ StB w1 (w.heap.size + 1) 55 (wiA i k d) ∧ StB w1 (w.heap.size + 2) 26 zeHA ∧ Below w.heap.size w w1
theorem AW.start (w : World) (v : Value) (h : Hd) (i k d : Int) : AW w (((w.alloc (.cells (hdA v h) 26)).alloc (.cells (wiA i k d) 55)).alloc (.cells zeHA 26)) v h i k d := by
  refine ⟨((StB.new _ _ _).alloc _).alloc _, ?_, ?_, (((Below.refl _ _).alloc (Nat.le_refl _) _).alloc (by simp) _).alloc (by simp; omega) _⟩
  · have := StB.new (w.alloc (.cells (hdA v h) 26)) 55 (wiA i k d)
    rw [World.size_alloc] at this
    exact this.alloc _
  · have := StB.new ((w.alloc (.cells (hdA v h) 26)).alloc (.cells (wiA i k d) 55)) 26 zeHA
    rw [World.size_alloc, World.size_alloc] at this
    exact this
theorem AW.next {w w1 w2 : World} {v : Value} {h : Hd} {i k d : Int} (a : AW w w1 v h i k d) (b : Below w1.heap.size w1 w2) : AW w w2 v h i k d :=
  ⟨a.1.below b, a.2.1.below b, a.2.2.1.below b, a.2.2.2.trans (b.mono a.2.2.2.size)⟩
theorem AW.lt {w w1 : World} {v : Value} {h : Hd} {i k d : Int} (a : AW w w1 v h i k d) : w.heap.size + 2 < w1.heap.size := a.2.2.1.lt
theorem below_new {w w2 : World} {t : TypeId} {cs : Array Value} (g : (w.alloc (.cells cs t)).grownBy w2 (some w.heap.size)) : Below w.heap.size w w2 :=
  (Below.refl _ _).alloc (Nat.le_refl _) _ |>.grown g (by simp) (fun k e => by cases e; exact Nat.le_refl _)

def ansA (ok fits refuses : Bool) (h g : Hd) : Hd × Int := if ok && fits then (if refuses then (h, 1) else (g, 0)) else (Hd.zero, 2)
set_option maxRecDepth 20000 in
set_option maxHeartbeats 4000000 in
theorem iacted_any (row : Int) (F1 F2 F3 : FuncId) (hx : ∀ wx, (Instr.index 80 (.agg acA) (.int .i64 row)).run Try.prog wx = .ok (.agg #[fv F1, fv F2, fv F3]) wx)
    (v : Value) (h : Hd) (i k d : Int) (w : World) (hr : Reads w v h.ks) (hl : h.ks.length ≤ 1099511627776) (b1 b2 : Bool) (f : Nat → Int) (kd ho tu : Int)
    (e1 : ∀ args wx, (callFunc F1 args).run Try.prog wx = .ok (.enter F1 args) wx) (e2 : ∀ args wx, (callFunc F2 args).run Try.prog wx = .ok (.enter F2 args) wx) (e3 : ∀ args wx, (callFunc F3 args).run Try.prog wx = .ok (.enter F3 args) wx)
    (c1 : ∀ wx, Calls Try.prog F1 #[.agg (wiA i k d)] wx fun e w' => e = .returned (.bool b1) ∧ Below wx.heap.size wx w')
    (c2 : h.ok = true → inI i 0 3 = true → b1 = true → ∀ wx, Calls Try.prog F2 #[.agg (heA (KF h.ks) h.kd h.ho h.tu), .agg (wiA i k d)] wx fun e w' => e = .returned (.bool b2) ∧ Below wx.heap.size wx w')
    (c3 : h.ok = true → inI i 0 3 = true → b1 = true → b2 = false → ∀ wx, Calls Try.prog F3 #[.agg (heA (KF h.ks) h.kd h.ho h.tu), .agg (wiA i k d)] wx fun e w' => e = .returned (.agg (heA f kd ho tu)) ∧ Below wx.heap.size wx w') :
    Calls Try.prog 45 #[.int .i64 row, HV v h, .agg (wiA i k d)] w (Ans w (ansA h.ok (inI i 0 3 && b1) b2 h ⟨listK f, kd, ho, tu⟩)) := by
  obtain ⟨ao, cap, rfl⟩ := reads_form hr
  obtain ⟨w1, hw1⟩ : ∃ w1, w1 = ((w.alloc (.cells (hdA (.slice ao h.ks.length cap) h) 26)).alloc (.cells (wiA i k d) 55)).alloc (.cells zeHA 26) := ⟨_, rfl⟩
  have HS : Hid (AW w w1 (.slice ao h.ks.length cap) h i k d) := by rw [hw1]; exact AW.start _ _ _ _ _ _
  have ch := iheldof_any (.slice ao h.ks.length cap) h w1 (hr.below HS.out.2.2.2 (Nat.le_refl _)) hl
  have ct := fun wx => iactions_any wx
  have cp := fun wx => iperson_any i wx
  have C2 : Hid _ := c2
  have C3 : Hid _ := c3
  have HK : Hid (h.ok = true → h.ks.length = 4) := Hd.ok_len
  obtain ⟨A, hA⟩ : ∃ A, A = ansA h.ok (inI i 0 3 && b1) b2 h ⟨listK f, kd, ho, tu⟩ := ⟨_, rfl⟩
  rw [← hA]
  have HA : Hid (A = ansA h.ok (inI i 0 3 && b1) b2 h ⟨listK f, kd, ho, tu⟩) := hA
  clear c2 c3 hA hr hl
  have HV2 : Hid (h.ok = true → heldV h = heA (KF h.ks) h.kd h.ho h.tu) := fun e => by rw [heldV, e]; rfl
  obtain ⟨f0, x0, y0, z0, hf, -⟩ := heldV_form h
  rw [hf] at ch HV2
  clear hf
  unfold hdA wiA zeHA at hw1
  unfold HV
  conv in hdA (.slice ao h.ks.length cap) h => unfold hdA
  conv in wiA i k d => unfold wiA
  go_enter Try.func45, Try.ntmps45
  go_upto_region 1 with fail
  rw [← hw1]
  clear hw1
  unfold HV at ch
  go_upto_region 2 with (first | (refine wpList_getS Try.isH rfl _ rfl w.heap.size rfl (hdA (.slice ao h.ks.length cap) h) rfl HS.out.1 ?_) | (go_at_call 61; refine ch.mono ?_; rintro e w2 ⟨rfl, b2'⟩; have H2 : Hid (AW w w2 (.slice ao h.ks.length cap) h i k d) := HS.out.next b2'; clear b2' ; have Z2 : Hid (StB (w2.alloc (.cells he0A 68)) w2.heap.size 68 he0A) := StB.new _ _ _) | (refine wpList_putS Try.isHeld rfl _ _ rfl w2.heap.size (heA f0 x0 y0 z0) he0A rfl rfl rfl rfl (heA_one _ _ _ _) Z2.out ?_; intro w3 h3 g3; have H3 : Hid (AW w w3 (.slice ao h.ks.length cap) h i k d) := H2.out.next (below_new g3); have E3 : Hid (StB w3 w2.heap.size 68 (heA f0 x0 y0 z0)) := h3; clear h3 g3))
  clear ch HS H2 Z2
  obtain ⟨g8, hg8⟩ : ∃ g8, g8 = w2.heap.size := ⟨_, rfl⟩
  rw [← hg8] at E3 ⊢
  clear hg8
  unfold fv at hx
  go_upto_region 3 with (first | (go_at_call 72; refine (ct _).mono ?_; rintro e w4 ⟨rfl, b4⟩; have H4 : Hid (AW w w4 (.slice ao h.ks.length cap) h i k d) := H3.out.next b4; have E4 : Hid (StB w4 g8 68 (heA f0 x0 y0 z0)) := E3.out.below b4; clear b4; have Z4 : Hid (StB (w4.alloc (.cells (nilA 3) 79)) w4.heap.size 79 (nilA 3)) := StB.new _ _ _) | (refine wpList_putS Try.isAction rfl _ _ rfl w4.heap.size #[.func (Fn.func F1) #[] #[], .func (Fn.func F2) #[] #[], .func (Fn.func F3) #[] #[]] (nilA 3) rfl rfl rfl rfl (by simp [Value.oneCell']) Z4.out ?_; intro w5 h5 g5; have H5 : Hid (AW w w5 (.slice ao h.ks.length cap) h i k d) := H4.out.next (below_new g5); have E5 : Hid (StB w5 g8 68 (heA f0 x0 y0 z0)) := E4.out.below (below_new g5); have T5 : Hid (StB w5 w4.heap.size 79 #[.func (Fn.func F1) #[] #[], .func (Fn.func F2) #[] #[], .func (Fn.func F3) #[] #[]]) := h5; clear h5 g5))
  clear ct hx H3 H4 E3 E4 Z4
  obtain ⟨ga, hga⟩ : ∃ ga, ga = w4.heap.size := ⟨_, rfl⟩
  rw [← hga] at T5 ⊢
  clear hga
  obtain ⟨ok, hok⟩ : ∃ ok, ok = h.ok := ⟨_, rfl⟩
  rw [← hok] at C2 C3 HK HA HV2 ⊢
  obtain ⟨pe, hpe⟩ : ∃ pe, pe = inI i 0 3 := ⟨_, rfl⟩
  rw [← hpe] at C2 C3 HA
  simp only [← hpe] at cp
  clear hok hpe
  unfold wiA at c1
  cases ok with
  | false =>
    clear c1 cp C2 C3 HK HV2
    go_upto_region 4 with fail
    go_wp2_with (first | (refine wpList_putS Try.isH rfl _ _ rfl (w.heap.size + 2) (hdA (.slice none 0 0) Hd.zero) zeHA rfl rfl rfl rfl (hdA_one _ rfl) H5.out.2.2.1 ?_; intro w9 h9 g9))
    refine bodyPost_ret (results_S2 Try.isH rfl _ _ (w.heap.size + 2) _ _ rfl rfl rfl h9) rfl ?_
    exact ⟨.slice none 0 0, by rw [HA.out]; rfl, by rw [HA.out]; exact zeroH_own _ _, H5.out.2.2.2.grown g9 H5.out.2.2.2.size (fun x e => by cases e; omega)⟩
  | true =>
    have HF : Hid (heA f0 x0 y0 z0 = heA (KF h.ks) h.kd h.ho h.tu) := HV2.out rfl
    have hk4 : Hid (h.ks.length = 4) := HK.out rfl
    have D2 : Hid _ := C2.out rfl
    have D3 : Hid _ := C3.out rfl
    clear HV2 HK C2 C3
    have q0 : w5.cell? ⟨w.heap.size + 1, 0, none⟩ = some (.int .i64 i) := H5.out.2.1.cell 0 rfl
    cases pe with
    | false =>
      clear c1 D2 D3
      go_wp2_with fail
      refine (cp _).mono ?_
      rintro e w' ⟨rfl, hw⟩
      subst w'
      go_upto_region 4 with fail
      go_wp2_with (first | (refine wpList_putS Try.isH rfl _ _ rfl (w.heap.size + 2) (hdA (.slice none 0 0) Hd.zero) zeHA rfl rfl rfl rfl (hdA_one _ rfl) H5.out.2.2.1 ?_; intro w9 h9 g9))
      refine bodyPost_ret (results_S2 Try.isH rfl _ _ (w.heap.size + 2) _ _ rfl rfl rfl h9) rfl ?_
      exact ⟨.slice none 0 0, by rw [HA.out]; rfl, by rw [HA.out]; exact zeroH_own _ _, H5.out.2.2.2.grown g9 H5.out.2.2.2.size (fun x e => by cases e; omega)⟩
    | true =>
      have B2 : Hid _ := D2.out rfl
      have B3 : Hid _ := D3.out rfl
      clear D2 D3
      have q1 : w5.cell? ⟨w.heap.size + 1, 1, none⟩ = some (.int .i64 k) := H5.out.2.1.cell 1 rfl
      have q2 : w5.cell? ⟨w.heap.size + 1, 2, none⟩ = some (.int .i64 d) := H5.out.2.1.cell 2 rfl
      have a0 : w5.cell? ⟨ga, 0, none⟩ = some (.func (Fn.func F1) #[] #[]) := T5.out.cell 0 rfl
      go_wp2_with fail
      refine (cp _).mono ?_
      rintro e w' ⟨rfl, hw⟩
      subst w'
      go_wp2_with fail
      refine (c1 _).mono ?_
      rintro e w6 ⟨rfl, b6⟩
      have H6 : Hid (AW w w6 (.slice ao h.ks.length cap) h i k d) := H5.out.next b6
      have T6 : Hid (StB w6 ga 79 #[.func (Fn.func F1) #[] #[], .func (Fn.func F2) #[] #[], .func (Fn.func F3) #[] #[]]) := T5.out.below b6
      have E6 : Hid (StB w6 g8 68 (heA f0 x0 y0 z0)) := E5.out.below b6
      clear b6 c1 cp H5 T5 E5 q0 q1 q2 a0 e1
      cases b1 with
      | false =>
        clear B2 B3
        go_upto_region 4 with fail
        go_wp2_with (first | (refine wpList_putS Try.isH rfl _ _ rfl (w.heap.size + 2) (hdA (.slice none 0 0) Hd.zero) zeHA rfl rfl rfl rfl (hdA_one _ rfl) H6.out.2.2.1 ?_; intro w9 h9 g9))
        refine bodyPost_ret (results_S2 Try.isH rfl _ _ (w.heap.size + 2) _ _ rfl rfl rfl h9) rfl ?_
        exact ⟨.slice none 0 0, by rw [HA.out]; rfl, by rw [HA.out]; exact zeroH_own _ _, H6.out.2.2.2.grown g9 H6.out.2.2.2.size (fun x e => by cases e; omega)⟩
      | true =>
        have c2 := B2.out rfl
        have D3 : Hid _ := B3.out rfl
        clear B2 B3
        rw [HF.out] at E6
        have a1 : w6.cell? ⟨ga, 1, none⟩ = some (.func (Fn.func F2) #[] #[]) := T6.out.cell 1 rfl
        go_upto_region 5 with fail
        go_wp2_with (first | (refine wpList_getS Try.isHeld rfl _ rfl g8 rfl (heA (KF h.ks) h.kd h.ho h.tu) rfl E6.out ?_) | (refine wpList_getS Try.isWish rfl _ rfl (w.heap.size + 1) rfl (wiA i k d) rfl H6.out.2.1 ?_))
        refine (c2 _).mono ?_
        rintro e w7 ⟨rfl, b7⟩
        have H7 : Hid (AW w w7 (.slice ao h.ks.length cap) h i k d) := H6.out.next b7
        have T7 : Hid (StB w7 ga 79 #[.func (Fn.func F1) #[] #[], .func (Fn.func F2) #[] #[], .func (Fn.func F3) #[] #[]]) := T6.out.below b7
        have E7 : Hid (StB w7 g8 68 (heA (KF h.ks) h.kd h.ho h.tu)) := E6.out.below b7
        clear b7 c2 H6 T6 E6 a1 e2
        have ci := fun wx => iholding_any (KF h.ks) h.kd h.ho h.tu wx
        rw [listK_KF hk4.out] at ci
        unfold HV at ci
        cases b2 with
        | true =>
          clear D3
          go_upto_region 6 with fail
          go_wp2_with (first | (refine wpList_getS Try.isHeld rfl _ rfl g8 rfl (heA (KF h.ks) h.kd h.ho h.tu) rfl E7.out ?_) | (go_at_call 74; refine (ci _).mono ?_; rintro e w8 ⟨u, rfl, o8, b8⟩; have H8 : Hid (AW w w8 (.slice ao h.ks.length cap) h i k d) := H7.out.next b8; have O8 : Hid (Own w8 w7.heap.size u h.ks) := o8; have ho1 := reads_one o8.reads; clear b8 o8) | (refine wpList_putS Try.isH rfl _ _ rfl (w.heap.size + 2) (hdA u h) zeHA rfl rfl rfl rfl (hdA_one _ ho1) H8.out.2.2.1 ?_; intro w9 h9 g9))
          refine bodyPost_ret (results_S2 Try.isH rfl _ _ (w.heap.size + 2) _ _ rfl rfl rfl h9) rfl ?_
          have l7 := H7.out.lt
          exact ⟨u, by rw [HA.out]; rfl, by rw [HA.out]; exact (O8.out.keptLt g9 l7).mono (by omega), H8.out.2.2.2.grown g9 H8.out.2.2.2.size (fun x e => by cases e; omega)⟩
        | false =>
          have c3 := D3.out rfl
          have cj := fun wx => iholding_any f kd ho tu wx
          unfold HV at cj
          clear D3 ci
          have a2 : w7.cell? ⟨ga, 2, none⟩ = some (.func (Fn.func F3) #[] #[]) := T7.out.cell 2 rfl
          go_upto_region 7 with fail
          go_wp2_with (first | (refine wpList_getS Try.isHeld rfl _ rfl g8 rfl (heA (KF h.ks) h.kd h.ho h.tu) rfl E7.out ?_) | (refine wpList_getS Try.isWish rfl _ rfl (w.heap.size + 1) rfl (wiA i k d) rfl H7.out.2.1 ?_))
          refine (c3 _).mono ?_
          rintro e w8 ⟨rfl, b8⟩
          have H8 : Hid (AW w w8 (.slice ao h.ks.length cap) h i k d) := H7.out.next b8
          clear b8 c3 H7 T7 E7 a2 e3
          go_wp2_with (first | (go_at_call 74; refine (cj _).mono ?_; rintro e w9 ⟨u, rfl, o9, b9⟩; have H9 : Hid (AW w w9 (.slice ao h.ks.length cap) h i k d) := H8.out.next b9; have O9 : Hid (Own w9 w8.heap.size u (listK f)) := o9; have ho1 := reads_one o9.reads; clear b9 o9) | (refine wpList_putS Try.isH rfl _ _ rfl (w.heap.size + 2) (hdA u ⟨listK f, kd, ho, tu⟩) zeHA rfl rfl rfl rfl (hdA_one _ ho1) H9.out.2.2.1 ?_; intro wa ha ga'))
          refine bodyPost_ret (results_S2 Try.isH rfl _ _ (w.heap.size + 2) _ _ rfl rfl rfl ha) rfl ?_
          have l8 := H8.out.lt
          exact ⟨u, by rw [HA.out]; rfl, by rw [HA.out]; exact (O9.out.keptLt ga' l8).mono (by omega), H9.out.2.2.2.grown ga' H9.out.2.2.2.size (fun x e => by cases e; omega)⟩
end Go.Proofs.Ytppkncmlloelbaa
