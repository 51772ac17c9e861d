/- The model's Preempt. -/
import Derived.Test.YtppkncmlloelbaaSAct3
import Derived.Test.YtppkncmlloelbaaSPre
namespace Go.Proofs.Ytppkncmlloelbaa
open Go.ChangeShapes Go.WideShapes Go.ChangeAt Go.RowKit

theorem mid_holder {h : Hd} (e : h.mid = true) : h.kd ≠ 0 → allI h.kd = false → 0 ≤ h.ho ∧ h.ho ≤ 3 := by
  intro h0 ha
  unfold Hd.mid at e
  rw [if_neg h0, ha] at e
  simp only [Bool.false_eq_true, if_false, Bool.and_eq_true] at e
  exact (inI_iff _ _ _).1 e.1.2
set_option maxRecDepth 20000 in
set_option maxHeartbeats 2000000 in
theorem spreempt_any (v : Value) (h : Hd) (i key k : Int) (w : World) (hr : Reads w v h.ks) (hl : h.ks.length ≤ 1099511627776) :
    Calls Try.prog 26 #[HV v h, .int .i64 i, .int .i64 key, .int .i64 k] w (Ans w (h.preempt i key k)) := by
  obtain ⟨ao, cap, rfl⟩ := reads_form hr
  obtain ⟨w1, hw1⟩ : ∃ w1, w1 = (w.alloc (.cells (hdA (.slice ao h.ks.length cap) h) 26)).alloc (.cells #[.slice none 0 0, .int .i64 0, .int .i64 0, .int .i64 0] 26) := ⟨_, rfl⟩
  have HB : Hid (Bx w w1 (.slice ao h.ks.length cap) h) := by rw [hw1]; exact Bx.start hr
  have HW : Hid (w1 = (w.alloc (.cells #[(.slice ao h.ks.length cap), .int .i64 h.kd, .int .i64 h.ho, .int .i64 h.tu] 26)).alloc (.cells #[.slice none 0 0, .int .i64 0, .int .i64 0, .int .i64 0] 26)) := hw1
  have co := sholdok_any (.slice ao h.ks.length cap) h w1 HB.out.2.2.2.2 hl
  have cc := fun wx (hr : Reads wx (.slice ao h.ks.length cap) h.ks) => s8copy_any (.slice ao h.ks.length cap) h wx hr hl
  have c0 := fun wx => swho_any i wx
  have c1 := fun wx => sin6_any key 1 9999 wx
  have c2 := fun wx => skind_any k wx
  obtain ⟨r, HE⟩ : ∃ r, Hid (r = h.preempt i key k) := ⟨_, rfl⟩
  rw [← HE.out]
  have hs2 : w.heap.size + 1 < w1.heap.size := by have := HB.out.2.2.2.1; omega
  have hs1 : w.heap.size < w1.heap.size := by omega
  have k0 : w1.cell? ⟨w.heap.size, 0, none⟩ = some (.slice ao h.ks.length cap) := HB.out.1.cell 0 rfl
  have k1 : w1.cell? ⟨w.heap.size, 1, none⟩ = some (.int .i64 h.kd) := HB.out.1.cell 1 rfl
  have k2 : w1.cell? ⟨w.heap.size, 2, none⟩ = some (.int .i64 h.ho) := HB.out.1.cell 2 rfl
  have k3 : w1.cell? ⟨w.heap.size, 3, none⟩ = some (.int .i64 h.tu) := HB.out.1.cell 3 rfl
  clear hw1 hr hl
  unfold HV hdA at co
  unfold HV hdA at cc
  cases b0 : h.ok with
  | false =>
    have HR : Hid (r = (Hd.zero, 2)) := by rw [Hid, HE.out]; simp [Hd.preempt, b0]
    rw [b0] at co
    clear HE cc b0 c0 c1 c2
    unfold HV
    conv in hdA (.slice ao h.ks.length cap) h => unfold hdA
    go_enter Try.func26, Try.ntmps26
    go_wp2_with fail
    rw [← HW.out]
    clear HW
    refine co.mono ?_
    rintro e w2 ⟨rfl, b2⟩
    replace HB : Hid (Bx w w2 (.slice ao h.ks.length cap) h) := HB.out.next b2
    have hs3 := b2.size
    clear b2 co k0 k1 k2 k3
    have zz := HB.out.2.1
    have hlz := zz.lt
    go_wp2_with (refine wpList_putS Try.isH rfl _ _ rfl (w.heap.size + 1) (hdA (.slice none 0 0) Hd.zero) #[.slice none 0 0, .int .i64 0, .int .i64 0, .int .i64 0] rfl rfl rfl rfl (hdA_one _ rfl) zz ?_; intro we se ge)
    refine bodyPost_ret (results_S2 Try.isH rfl _ _ (w.heap.size + 1) _ _ rfl rfl rfl se) rfl ?_
    exact ⟨.slice none 0 0, by rw [HR.out]; rfl, by rw [HR.out]; exact zeroH_own _ _, HB.out.2.2.1.grown ge HB.out.2.2.1.size (fun x e => by cases e; omega)⟩
  | true =>
    cases b1 : inI i 0 3 with
    | false =>
      have HR : Hid (r = (Hd.zero, 2)) := by rw [Hid, HE.out]; simp [Hd.preempt, b0, b1]
      rw [b0] at co
      simp only [b1] at c0
      clear HE cc b0 b1 c1 c2
      unfold HV
      conv in hdA (.slice ao h.ks.length cap) h => unfold hdA
      go_enter Try.func26, Try.ntmps26
      go_wp2_with fail
      rw [← HW.out]
      clear HW
      refine co.mono ?_
      rintro e w2 ⟨rfl, b2⟩
      replace HB : Hid (Bx w w2 (.slice ao h.ks.length cap) h) := HB.out.next b2
      have hs3 := b2.size
      clear b2 co k0 k1 k2 k3
      go_wp2_with fail
      refine (c0 _).mono ?_
      rintro e w' ⟨rfl, hw'⟩; subst w'
      have zz := HB.out.2.1
      have hlz := zz.lt
      go_wp2_with (refine wpList_putS Try.isH rfl _ _ rfl (w.heap.size + 1) (hdA (.slice none 0 0) Hd.zero) #[.slice none 0 0, .int .i64 0, .int .i64 0, .int .i64 0] rfl rfl rfl rfl (hdA_one _ rfl) zz ?_; intro we se ge)
      refine bodyPost_ret (results_S2 Try.isH rfl _ _ (w.heap.size + 1) _ _ rfl rfl rfl se) rfl ?_
      exact ⟨.slice none 0 0, by rw [HR.out]; rfl, by rw [HR.out]; exact zeroH_own _ _, HB.out.2.2.1.grown ge HB.out.2.2.1.size (fun x e => by cases e; omega)⟩
    | true =>
      cases b2 : inI key 1 9999 with
      | false =>
        have HR : Hid (r = (Hd.zero, 2)) := by rw [Hid, HE.out]; simp [Hd.preempt, b0, b1, b2]
        rw [b0] at co
        simp only [b1] at c0
        simp only [b2] at c1
        clear HE cc b0 b1 b2 c2
        unfold HV
        conv in hdA (.slice ao h.ks.length cap) h => unfold hdA
        go_enter Try.func26, Try.ntmps26
        go_wp2_with fail
        rw [← HW.out]
        clear HW
        refine co.mono ?_
        rintro e w2 ⟨rfl, b2⟩
        replace HB : Hid (Bx w w2 (.slice ao h.ks.length cap) h) := HB.out.next b2
        have hs3 := b2.size
        clear b2 co k0 k1 k2 k3
        go_wp2_with fail
        refine (c0 _).mono ?_
        rintro e w' ⟨rfl, hw'⟩; subst w'
        go_wp2_with fail
        refine (c1 _).mono ?_
        rintro e w' ⟨rfl, hw'⟩; subst w'
        have zz := HB.out.2.1
        have hlz := zz.lt
        go_wp2_with (refine wpList_putS Try.isH rfl _ _ rfl (w.heap.size + 1) (hdA (.slice none 0 0) Hd.zero) #[.slice none 0 0, .int .i64 0, .int .i64 0, .int .i64 0] rfl rfl rfl rfl (hdA_one _ rfl) zz ?_; intro we se ge)
        refine bodyPost_ret (results_S2 Try.isH rfl _ _ (w.heap.size + 1) _ _ rfl rfl rfl se) rfl ?_
        exact ⟨.slice none 0 0, by rw [HR.out]; rfl, by rw [HR.out]; exact zeroH_own _ _, HB.out.2.2.1.grown ge HB.out.2.2.1.size (fun x e => by cases e; omega)⟩
      | true =>
        cases b3 : kiI k with
        | false =>
          have HR : Hid (r = (Hd.zero, 2)) := by rw [Hid, HE.out]; simp [Hd.preempt, b0, b1, b2, b3]
          rw [b0] at co
          simp only [b1] at c0
          simp only [b2] at c1
          simp only [b3] at c2
          clear HE cc b0 b1 b2 b3 
          unfold HV
          conv in hdA (.slice ao h.ks.length cap) h => unfold hdA
          go_enter Try.func26, Try.ntmps26
          go_wp2_with fail
          rw [← HW.out]
          clear HW
          refine co.mono ?_
          rintro e w2 ⟨rfl, b2⟩
          replace HB : Hid (Bx w w2 (.slice ao h.ks.length cap) h) := HB.out.next b2
          have hs3 := b2.size
          clear b2 co k0 k1 k2 k3
          go_wp2_with fail
          refine (c0 _).mono ?_
          rintro e w' ⟨rfl, hw'⟩; subst w'
          go_wp2_with fail
          refine (c1 _).mono ?_
          rintro e w' ⟨rfl, hw'⟩; subst w'
          go_wp2_with fail
          refine (c2 _).mono ?_
          rintro e w' ⟨rfl, hw'⟩; subst w'
          have zz := HB.out.2.1
          have hlz := zz.lt
          go_wp2_with (refine wpList_putS Try.isH rfl _ _ rfl (w.heap.size + 1) (hdA (.slice none 0 0) Hd.zero) #[.slice none 0 0, .int .i64 0, .int .i64 0, .int .i64 0] rfl rfl rfl rfl (hdA_one _ rfl) zz ?_; intro we se ge)
          refine bodyPost_ret (results_S2 Try.isH rfl _ _ (w.heap.size + 1) _ _ rfl rfl rfl se) rfl ?_
          exact ⟨.slice none 0 0, by rw [HR.out]; rfl, by rw [HR.out]; exact zeroH_own _ _, HB.out.2.2.1.grown ge HB.out.2.2.1.size (fun x e => by cases e; omega)⟩
        | true =>
          have hok := Hd.ok_all b0
          have HR : Hid (r = told (h.pred i key k)) := by rw [Hid, HE.out]; simp [Hd.preempt, b0, b1, b2, b3]
          have hi := (inI_iff _ _ _).1 b1
          have hi4 : i < 4 := by omega
          have HL : Hid (h.ks.length = 4) := hok.1
          have t0 := hok.2.1.1
          have t1 := hok.2.1.2
          have hm := mid_holder hok.2.2.2
          rw [b0] at co
          simp only [b1] at c0
          simp only [b2] at c1
          simp only [b3] at c2
          clear HE hok b0 b1 b2 b3
          unfold HV
          conv in hdA (.slice ao h.ks.length cap) h => unfold hdA
          go_enter Try.func26, Try.ntmps26
          go_wp2_with fail
          rw [← HW.out]
          clear HW
          refine co.mono ?_
          rintro e w2 ⟨rfl, b2⟩
          replace HB : Hid (Bx w w2 (.slice ao h.ks.length cap) h) := HB.out.next b2
          have hs3 := b2.size
          clear b2 co k0 k1 k2 k3
          go_wp2_with fail
          refine (c0 _).mono ?_
          rintro e w' ⟨rfl, hw'⟩; subst w'
          go_wp2_with fail
          refine (c1 _).mono ?_
          rintro e w' ⟨rfl, hw'⟩; subst w'
          go_wp2_with fail
          refine (c2 _).mono ?_
          rintro e w' ⟨rfl, hw'⟩; subst w'
          have k0 : w2.cell? ⟨w.heap.size, 0, none⟩ = some (.slice ao h.ks.length cap) := HB.out.1.cell 0 rfl
          have k1 : w2.cell? ⟨w.heap.size, 1, none⟩ = some (.int .i64 h.kd) := HB.out.1.cell 1 rfl
          have k2 : w2.cell? ⟨w.heap.size, 2, none⟩ = some (.int .i64 h.ho) := HB.out.1.cell 2 rfl
          have k3 : w2.cell? ⟨w.heap.size, 3, none⟩ = some (.int .i64 h.tu) := HB.out.1.cell 3 rfl
          go_wp2_with fail
          refine (cc _ HB.out.2.2.2.2).mono ?_
          rintro e w3 ⟨u, rfl, o3, b3⟩
          obtain ⟨q, cp, rfl, P3⟩ := PB.start (base := w2.heap.size) (Nat.le_refl _) o3 b3 HL.out
          have hs4 := b3.size
          have W3 : Below w2.heap.size w2 (w3.alloc (.cells (hdA (.slice (some ⟨q, 0, none⟩) 4 cp) h) 26)) := b3.alloc hs4 _
          replace HB : Hid (Bx w (w3.alloc (.cells (hdA (.slice (some ⟨q, 0, none⟩) 4 cp) h) 26)) (.slice ao h.ks.length cap) h) := HB.out.next W3
          have ch := s9preempt_any w2.heap.size w3.heap.size h i key k (w3.alloc (.cells (hdA (.slice (some ⟨q, 0, none⟩) 4 cp) h) 26)) ⟨q, cp, P3⟩ hi.1 hi4 t0 t1 hm
          clear o3 b3 P3 W3 cc k0 k1 k2 k3 c0 c1 c2
          unfold hdA at ch
          go_wp2_with fail
          refine ch.mono ?_
          rintro e w5 ⟨rfl, ⟨q5, c5, P5⟩, B5⟩
          have zz : StB w5 (w.heap.size + 1) 26 #[.slice none 0 0, .int .i64 0, .int .i64 0, .int .i64 0] := (B5.block _ (by omega)).trans HB.out.2.1
          have HF : Hid (PQ w5 w2.heap.size w3.heap.size q5 c5 _ ∧ Below w.heap.size w w5) := ⟨P5, HB.out.2.2.1.trans (B5.mono (by omega))⟩
          have zq := P5.1
          have l5 := P5.1.lt
          clear B5 ch HB
          obtain ⟨rr, hrr⟩ : ∃ rr, rr = h.pred i key k := ⟨_, rfl⟩
          rw [← hrr] at HR zq HF P5 ⊢
          clear hrr P5
          obtain ⟨h1, bt⟩ := rr
          dsimp only at zq HF ⊢
          cases bt with
          | false =>
            go_wp2_with (first | (refine wpList_getS Try.isH rfl _ rfl w3.heap.size rfl (hdA (.slice (some ⟨q5, 0, none⟩) 4 c5) h1) rfl zq ?_) | (refine wpList_putS Try.isH rfl _ _ rfl (w.heap.size + 1) (hdA (.slice (some ⟨q5, 0, none⟩) 4 c5) h1) #[.slice none 0 0, .int .i64 0, .int .i64 0, .int .i64 0] rfl rfl rfl rfl (hdA_one _ rfl) zz ?_; intro we se ge))
            refine bodyPost_ret (results_S2 Try.isH rfl _ _ (w.heap.size + 1) _ _ rfl rfl rfl se) rfl ?_
            exact ⟨_, by rw [HR.out]; rfl, by rw [HR.out]; exact (HF.out.1.2.1.keptLt ge (by omega)).mono (by omega), HF.out.2.grown ge HF.out.2.size (fun x e => by cases e; omega)⟩
          | true =>
            go_wp2_with (first | (refine wpList_getS Try.isH rfl _ rfl w3.heap.size rfl (hdA (.slice (some ⟨q5, 0, none⟩) 4 c5) h1) rfl zq ?_) | (refine wpList_putS Try.isH rfl _ _ rfl (w.heap.size + 1) (hdA (.slice (some ⟨q5, 0, none⟩) 4 c5) h1) #[.slice none 0 0, .int .i64 0, .int .i64 0, .int .i64 0] rfl rfl rfl rfl (hdA_one _ rfl) zz ?_; intro we se ge))
            refine bodyPost_ret (results_S2 Try.isH rfl _ _ (w.heap.size + 1) _ _ rfl rfl rfl se) rfl ?_
            exact ⟨_, by rw [HR.out]; rfl, by rw [HR.out]; exact (HF.out.1.2.1.keptLt ge (by omega)).mono (by omega), HF.out.2.grown ge HF.out.2.size (fun x e => by cases e; omega)⟩
end Go.Proofs.Ytppkncmlloelbaa
