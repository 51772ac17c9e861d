/- The model's Register, Reserve, Release and Clear. -/
import Derived.Test.YtppkncmlloelbaaSAct2
namespace Go.Proofs.Ytppkncmlloelbaa
open Go.ChangeShapes Go.WideShapes Go.ChangeAt Go.RowKit

/- A holding and a number are answered. -/
def Ans (w : World) (r : Hd × Int) (e : Ending) (w' : World) : Prop := ∃ u, e = .returned (.tuple #[HV u r.1, .int .i64 r.2]) ∧ Own w' w.heap.size u r.1.ks ∧ Below w.heap.size w w'
theorem zeroH_own (w : World) (base : Nat) : Own w base (.slice none 0 0) Hd.zero.ks := Own.nil w base
/- A variable is made of a copy. -/
theorem PB.start {w wx : World} {u : Value} {h : Hd} {base : Nat} (hb : base ≤ w.heap.size) (ow : Own wx w.heap.size u h.ks) (b : Below w.heap.size w wx) (hl : h.ks.length = 4) :
    ∃ q cap, u = .slice (some ⟨q, 0, none⟩) 4 cap ∧ PQ (wx.alloc (.cells (hdA (.slice (some ⟨q, 0, none⟩) 4 cap) h) 26)) base wx.heap.size q cap h := by
  obtain ⟨q, cap, e, hq0, hq1⟩ := World.ownsRow.form ow (by omega)
  rw [hl] at e
  subst e
  have bs := b.size
  refine ⟨q, cap, rfl, StB.new wx _ _, (Own.below ow ((Below.refl _ _).alloc (Nat.le_refl _) _)).mono hb, ?_, ?_, ?_, hl⟩ <;> omega
set_option maxRecDepth 20000 in
set_option maxHeartbeats 2000000 in
theorem sregister_any (v : Value) (h : Hd) (i key : Int) (w : World) (hr : Reads w v h.ks) (hl : h.ks.length ≤ 1099511627776) :
    Calls Try.prog 17 #[HV v h, .int .i64 i, .int .i64 key] w (Ans w (h.register i key)) := by
  obtain ⟨ao, cap, rfl⟩ := reads_form hr
  obtain ⟨w1, hw1⟩ : ∃ w1, w1 = (w.alloc (.cells (hdA (.slice ao h.ks.length cap) h) 26)).alloc (.cells #[.slice none 0 0, .int .i64 0, .int .i64 0, .int .i64 0] 26) := ⟨_, rfl⟩
  have HB : Hid (Bx w w1 (.slice ao h.ks.length cap) h) := by rw [hw1]; exact Bx.start hr
  have HW : Hid (w1 = (w.alloc (.cells #[(.slice ao h.ks.length cap), .int .i64 h.kd, .int .i64 h.ho, .int .i64 h.tu] 26)).alloc (.cells #[.slice none 0 0, .int .i64 0, .int .i64 0, .int .i64 0] 26)) := hw1
  have co := sholdok_any (.slice ao h.ks.length cap) h w1 HB.out.2.2.2.2 hl
  have cc := fun wx (hr : Reads wx (.slice ao h.ks.length cap) h.ks) => s8copy_any (.slice ao h.ks.length cap) h wx hr hl
  have c0 := fun wx => swho_any i wx
  have c1 := fun wx => s6key_any key wx
  obtain ⟨r, HE⟩ : ∃ r, Hid (r = h.register i key) := ⟨_, rfl⟩
  rw [← HE.out]
  have hs2 : w.heap.size + 1 < w1.heap.size := by have := HB.out.2.2.2.1; omega
  have hs1 : w.heap.size < w1.heap.size := by omega
  have k0 : w1.cell? ⟨w.heap.size, 0, none⟩ = some (.slice ao h.ks.length cap) := HB.out.1.cell 0 rfl
  have k1 : w1.cell? ⟨w.heap.size, 1, none⟩ = some (.int .i64 h.kd) := HB.out.1.cell 1 rfl
  have k2 : w1.cell? ⟨w.heap.size, 2, none⟩ = some (.int .i64 h.ho) := HB.out.1.cell 2 rfl
  have k3 : w1.cell? ⟨w.heap.size, 3, none⟩ = some (.int .i64 h.tu) := HB.out.1.cell 3 rfl
  clear hw1 hr hl
  unfold HV hdA at co
  unfold HV hdA at cc
  cases b0 : h.ok with
  | false =>
    have HR : Hid (r = (Hd.zero, 2)) := by rw [Hid, HE.out]; simp [Hd.register, b0]
    rw [b0] at co
    clear HE cc b0 c0 c1
    unfold HV
    conv in hdA (.slice ao h.ks.length cap) h => unfold hdA
    go_enter Try.func17, Try.ntmps17
    go_wp2_with fail
    rw [← HW.out]
    clear HW
    refine co.mono ?_
    rintro e w2 ⟨rfl, b2⟩
    replace HB : Hid (Bx w w2 (.slice ao h.ks.length cap) h) := HB.out.next b2
    have hs3 := b2.size
    clear b2 co k0 k1 k2 k3
    have zz := HB.out.2.1
    have hlz := zz.lt
    go_wp2_with (refine wpList_putS Try.isH rfl _ _ rfl (w.heap.size + 1) (hdA (.slice none 0 0) Hd.zero) #[.slice none 0 0, .int .i64 0, .int .i64 0, .int .i64 0] rfl rfl rfl rfl (hdA_one _ rfl) zz ?_; intro we se ge)
    refine bodyPost_ret (results_S2 Try.isH rfl _ _ (w.heap.size + 1) _ _ rfl rfl rfl se) rfl ?_
    exact ⟨.slice none 0 0, by rw [HR.out]; rfl, by rw [HR.out]; exact zeroH_own _ _, HB.out.2.2.1.grown ge HB.out.2.2.1.size (fun x e => by cases e; omega)⟩
  | true =>
    cases b1 : inI i 0 3 with
    | false =>
      have HR : Hid (r = (Hd.zero, 2)) := by rw [Hid, HE.out]; simp [Hd.register, b0, b1]
      rw [b0] at co
      simp only [b1] at c0
      clear HE cc b0 b1 c1
      unfold HV
      conv in hdA (.slice ao h.ks.length cap) h => unfold hdA
      go_enter Try.func17, Try.ntmps17
      go_wp2_with fail
      rw [← HW.out]
      clear HW
      refine co.mono ?_
      rintro e w2 ⟨rfl, b2⟩
      replace HB : Hid (Bx w w2 (.slice ao h.ks.length cap) h) := HB.out.next b2
      have hs3 := b2.size
      clear b2 co k0 k1 k2 k3
      go_wp2_with fail
      refine (c0 _).mono ?_
      rintro e w' ⟨rfl, hw'⟩; subst w'
      have zz := HB.out.2.1
      have hlz := zz.lt
      go_wp2_with (refine wpList_putS Try.isH rfl _ _ rfl (w.heap.size + 1) (hdA (.slice none 0 0) Hd.zero) #[.slice none 0 0, .int .i64 0, .int .i64 0, .int .i64 0] rfl rfl rfl rfl (hdA_one _ rfl) zz ?_; intro we se ge)
      refine bodyPost_ret (results_S2 Try.isH rfl _ _ (w.heap.size + 1) _ _ rfl rfl rfl se) rfl ?_
      exact ⟨.slice none 0 0, by rw [HR.out]; rfl, by rw [HR.out]; exact zeroH_own _ _, HB.out.2.2.1.grown ge HB.out.2.2.1.size (fun x e => by cases e; omega)⟩
    | true =>
      cases b2 : inI key 0 9999 with
      | false =>
        have HR : Hid (r = (Hd.zero, 2)) := by rw [Hid, HE.out]; simp [Hd.register, b0, b1, b2]
        rw [b0] at co
        simp only [b1] at c0
        simp only [b2] at c1
        clear HE cc b0 b1 b2 
        unfold HV
        conv in hdA (.slice ao h.ks.length cap) h => unfold hdA
        go_enter Try.func17, Try.ntmps17
        go_wp2_with fail
        rw [← HW.out]
        clear HW
        refine co.mono ?_
        rintro e w2 ⟨rfl, b2⟩
        replace HB : Hid (Bx w w2 (.slice ao h.ks.length cap) h) := HB.out.next b2
        have hs3 := b2.size
        clear b2 co k0 k1 k2 k3
        go_wp2_with fail
        refine (c0 _).mono ?_
        rintro e w' ⟨rfl, hw'⟩; subst w'
        go_wp2_with fail
        refine (c1 _).mono ?_
        rintro e w' ⟨rfl, hw'⟩; subst w'
        have zz := HB.out.2.1
        have hlz := zz.lt
        go_wp2_with (refine wpList_putS Try.isH rfl _ _ rfl (w.heap.size + 1) (hdA (.slice none 0 0) Hd.zero) #[.slice none 0 0, .int .i64 0, .int .i64 0, .int .i64 0] rfl rfl rfl rfl (hdA_one _ rfl) zz ?_; intro we se ge)
        refine bodyPost_ret (results_S2 Try.isH rfl _ _ (w.heap.size + 1) _ _ rfl rfl rfl se) rfl ?_
        exact ⟨.slice none 0 0, by rw [HR.out]; rfl, by rw [HR.out]; exact zeroH_own _ _, HB.out.2.2.1.grown ge HB.out.2.2.1.size (fun x e => by cases e; omega)⟩
      | true =>
        have hok := Hd.ok_all b0
        have HR : Hid (r = (h.regd i key, 0)) := by rw [Hid, HE.out]; simp [Hd.register, b0, b1, b2]
        have hi := (inI_iff _ _ _).1 b1
        have hi4 : i < 4 := by omega
        have HL : Hid (h.ks.length = 4) := hok.1
        have t0 := hok.2.1.1
        have t1 := hok.2.1.2
        rw [b0] at co
        simp only [b1] at c0
        simp only [b2] at c1
        clear HE hok b0 b1 b2
        unfold HV
        conv in hdA (.slice ao h.ks.length cap) h => unfold hdA
        go_enter Try.func17, Try.ntmps17
        go_wp2_with fail
        rw [← HW.out]
        clear HW
        refine co.mono ?_
        rintro e w2 ⟨rfl, b2⟩
        replace HB : Hid (Bx w w2 (.slice ao h.ks.length cap) h) := HB.out.next b2
        have hs3 := b2.size
        clear b2 co k0 k1 k2 k3
        go_wp2_with fail
        refine (c0 _).mono ?_
        rintro e w' ⟨rfl, hw'⟩; subst w'
        go_wp2_with fail
        refine (c1 _).mono ?_
        rintro e w' ⟨rfl, hw'⟩; subst w'
        have k0 : w2.cell? ⟨w.heap.size, 0, none⟩ = some (.slice ao h.ks.length cap) := HB.out.1.cell 0 rfl
        have k1 : w2.cell? ⟨w.heap.size, 1, none⟩ = some (.int .i64 h.kd) := HB.out.1.cell 1 rfl
        have k2 : w2.cell? ⟨w.heap.size, 2, none⟩ = some (.int .i64 h.ho) := HB.out.1.cell 2 rfl
        have k3 : w2.cell? ⟨w.heap.size, 3, none⟩ = some (.int .i64 h.tu) := HB.out.1.cell 3 rfl
        go_wp2_with fail
        refine (cc _ HB.out.2.2.2.2).mono ?_
        rintro e w3 ⟨u, rfl, o3, b3⟩
        obtain ⟨q, cp, rfl, P3⟩ := PB.start (base := w2.heap.size) (Nat.le_refl _) o3 b3 HL.out
        have hs4 := b3.size
        have W3 : Below w2.heap.size w2 (w3.alloc (.cells (hdA (.slice (some ⟨q, 0, none⟩) 4 cp) h) 26)) := b3.alloc hs4 _
        replace HB : Hid (Bx w (w3.alloc (.cells (hdA (.slice (some ⟨q, 0, none⟩) 4 cp) h) 26)) (.slice ao h.ks.length cap) h) := HB.out.next W3
        have ch := s9register_any w2.heap.size w3.heap.size h i key (w3.alloc (.cells (hdA (.slice (some ⟨q, 0, none⟩) 4 cp) h) 26)) ⟨q, cp, P3⟩ t0 t1 hi.1 hi4
        clear o3 b3 P3 W3 cc k0 k1 k2 k3 c0 c1
        unfold hdA at ch
        go_wp2_with fail
        refine ch.mono ?_
        rintro e w5 ⟨rfl, ⟨q5, c5, P5⟩, B5⟩
        have zz : StB w5 (w.heap.size + 1) 26 #[.slice none 0 0, .int .i64 0, .int .i64 0, .int .i64 0] := (B5.block _ (by omega)).trans HB.out.2.1
        have HF : Hid (PQ w5 w2.heap.size w3.heap.size q5 c5 _ ∧ Below w.heap.size w w5) := ⟨P5, HB.out.2.2.1.trans (B5.mono (by omega))⟩
        have zq := P5.1
        have l5 := P5.1.lt
        clear B5 ch HB
        go_wp2_with (first | (refine wpList_getS Try.isH rfl _ rfl w3.heap.size rfl (hdA (.slice (some ⟨q5, 0, none⟩) 4 c5) (h.regd i key)) rfl zq ?_) | (refine wpList_putS Try.isH rfl _ _ rfl (w.heap.size + 1) (hdA (.slice (some ⟨q5, 0, none⟩) 4 c5) (h.regd i key)) #[.slice none 0 0, .int .i64 0, .int .i64 0, .int .i64 0] rfl rfl rfl rfl (hdA_one _ rfl) zz ?_; intro we se ge))
        refine bodyPost_ret (results_S2 Try.isH rfl _ _ (w.heap.size + 1) _ _ rfl rfl rfl se) rfl ?_
        exact ⟨_, by rw [HR.out]; rfl, by rw [HR.out]; exact (HF.out.1.2.1.keptLt ge (by omega)).mono (by omega), HF.out.2.grown ge HF.out.2.size (fun x e => by cases e; omega)⟩
set_option maxRecDepth 20000 in
set_option maxHeartbeats 2000000 in
theorem sreserve_any (v : Value) (h : Hd) (i k : Int) (w : World) (hr : Reads w v h.ks) (hl : h.ks.length ≤ 1099511627776) :
    Calls Try.prog 31 #[HV v h, .int .i64 i, .int .i64 k] w (Ans w (h.reserve i k)) := by
  obtain ⟨ao, cap, rfl⟩ := reads_form hr
  obtain ⟨w1, hw1⟩ : ∃ w1, w1 = (w.alloc (.cells (hdA (.slice ao h.ks.length cap) h) 26)).alloc (.cells #[.slice none 0 0, .int .i64 0, .int .i64 0, .int .i64 0] 26) := ⟨_, rfl⟩
  have HB : Hid (Bx w w1 (.slice ao h.ks.length cap) h) := by rw [hw1]; exact Bx.start hr
  have HW : Hid (w1 = (w.alloc (.cells #[(.slice ao h.ks.length cap), .int .i64 h.kd, .int .i64 h.ho, .int .i64 h.tu] 26)).alloc (.cells #[.slice none 0 0, .int .i64 0, .int .i64 0, .int .i64 0] 26)) := hw1
  have co := sholdok_any (.slice ao h.ks.length cap) h w1 HB.out.2.2.2.2 hl
  have cc := fun wx (hr : Reads wx (.slice ao h.ks.length cap) h.ks) => s8copy_any (.slice ao h.ks.length cap) h wx hr hl
  have c0 := fun wx => swho_any i wx
  have c1 := fun wx => skind_any k wx
  obtain ⟨r, HE⟩ : ∃ r, Hid (r = h.reserve i k) := ⟨_, rfl⟩
  rw [← HE.out]
  have hs2 : w.heap.size + 1 < w1.heap.size := by have := HB.out.2.2.2.1; omega
  have hs1 : w.heap.size < w1.heap.size := by omega
  have k0 : w1.cell? ⟨w.heap.size, 0, none⟩ = some (.slice ao h.ks.length cap) := HB.out.1.cell 0 rfl
  have k1 : w1.cell? ⟨w.heap.size, 1, none⟩ = some (.int .i64 h.kd) := HB.out.1.cell 1 rfl
  have k2 : w1.cell? ⟨w.heap.size, 2, none⟩ = some (.int .i64 h.ho) := HB.out.1.cell 2 rfl
  have k3 : w1.cell? ⟨w.heap.size, 3, none⟩ = some (.int .i64 h.tu) := HB.out.1.cell 3 rfl
  clear hw1 hr hl
  unfold HV hdA at co
  unfold HV hdA at cc
  cases b0 : h.ok with
  | false =>
    have HR : Hid (r = (Hd.zero, 2)) := by rw [Hid, HE.out]; simp [Hd.reserve, b0]
    rw [b0] at co
    clear HE cc b0 c0 c1
    unfold HV
    conv in hdA (.slice ao h.ks.length cap) h => unfold hdA
    go_enter Try.func31, Try.ntmps31
    go_wp2_with fail
    rw [← HW.out]
    clear HW
    refine co.mono ?_
    rintro e w2 ⟨rfl, b2⟩
    replace HB : Hid (Bx w w2 (.slice ao h.ks.length cap) h) := HB.out.next b2
    have hs3 := b2.size
    clear b2 co k0 k1 k2 k3
    have zz := HB.out.2.1
    have hlz := zz.lt
    go_wp2_with (refine wpList_putS Try.isH rfl _ _ rfl (w.heap.size + 1) (hdA (.slice none 0 0) Hd.zero) #[.slice none 0 0, .int .i64 0, .int .i64 0, .int .i64 0] rfl rfl rfl rfl (hdA_one _ rfl) zz ?_; intro we se ge)
    refine bodyPost_ret (results_S2 Try.isH rfl _ _ (w.heap.size + 1) _ _ rfl rfl rfl se) rfl ?_
    exact ⟨.slice none 0 0, by rw [HR.out]; rfl, by rw [HR.out]; exact zeroH_own _ _, HB.out.2.2.1.grown ge HB.out.2.2.1.size (fun x e => by cases e; omega)⟩
  | true =>
    cases b1 : inI i 0 3 with
    | false =>
      have HR : Hid (r = (Hd.zero, 2)) := by rw [Hid, HE.out]; simp [Hd.reserve, b0, b1]
      rw [b0] at co
      simp only [b1] at c0
      clear HE cc b0 b1 c1
      unfold HV
      conv in hdA (.slice ao h.ks.length cap) h => unfold hdA
      go_enter Try.func31, Try.ntmps31
      go_wp2_with fail
      rw [← HW.out]
      clear HW
      refine co.mono ?_
      rintro e w2 ⟨rfl, b2⟩
      replace HB : Hid (Bx w w2 (.slice ao h.ks.length cap) h) := HB.out.next b2
      have hs3 := b2.size
      clear b2 co k0 k1 k2 k3
      go_wp2_with fail
      refine (c0 _).mono ?_
      rintro e w' ⟨rfl, hw'⟩; subst w'
      have zz := HB.out.2.1
      have hlz := zz.lt
      go_wp2_with (refine wpList_putS Try.isH rfl _ _ rfl (w.heap.size + 1) (hdA (.slice none 0 0) Hd.zero) #[.slice none 0 0, .int .i64 0, .int .i64 0, .int .i64 0] rfl rfl rfl rfl (hdA_one _ rfl) zz ?_; intro we se ge)
      refine bodyPost_ret (results_S2 Try.isH rfl _ _ (w.heap.size + 1) _ _ rfl rfl rfl se) rfl ?_
      exact ⟨.slice none 0 0, by rw [HR.out]; rfl, by rw [HR.out]; exact zeroH_own _ _, HB.out.2.2.1.grown ge HB.out.2.2.1.size (fun x e => by cases e; omega)⟩
    | true =>
      cases b2 : kiI k with
      | false =>
        have HR : Hid (r = (Hd.zero, 2)) := by rw [Hid, HE.out]; simp [Hd.reserve, b0, b1, b2]
        rw [b0] at co
        simp only [b1] at c0
        simp only [b2] at c1
        clear HE cc b0 b1 b2 
        unfold HV
        conv in hdA (.slice ao h.ks.length cap) h => unfold hdA
        go_enter Try.func31, Try.ntmps31
        go_wp2_with fail
        rw [← HW.out]
        clear HW
        refine co.mono ?_
        rintro e w2 ⟨rfl, b2⟩
        replace HB : Hid (Bx w w2 (.slice ao h.ks.length cap) h) := HB.out.next b2
        have hs3 := b2.size
        clear b2 co k0 k1 k2 k3
        go_wp2_with fail
        refine (c0 _).mono ?_
        rintro e w' ⟨rfl, hw'⟩; subst w'
        go_wp2_with fail
        refine (c1 _).mono ?_
        rintro e w' ⟨rfl, hw'⟩; subst w'
        have zz := HB.out.2.1
        have hlz := zz.lt
        go_wp2_with (refine wpList_putS Try.isH rfl _ _ rfl (w.heap.size + 1) (hdA (.slice none 0 0) Hd.zero) #[.slice none 0 0, .int .i64 0, .int .i64 0, .int .i64 0] rfl rfl rfl rfl (hdA_one _ rfl) zz ?_; intro we se ge)
        refine bodyPost_ret (results_S2 Try.isH rfl _ _ (w.heap.size + 1) _ _ rfl rfl rfl se) rfl ?_
        exact ⟨.slice none 0 0, by rw [HR.out]; rfl, by rw [HR.out]; exact zeroH_own _ _, HB.out.2.2.1.grown ge HB.out.2.2.1.size (fun x e => by cases e; omega)⟩
      | true =>
        have hok := Hd.ok_all b0
        have HR : Hid (r = told (h.resd i k)) := by rw [Hid, HE.out]; simp [Hd.reserve, b0, b1, b2]
        have hi := (inI_iff _ _ _).1 b1
        have hi4 : i < 4 := by omega
        have HL : Hid (h.ks.length = 4) := hok.1
        have t0 := hok.2.1.1
        have t1 := hok.2.1.2
        rw [b0] at co
        simp only [b1] at c0
        simp only [b2] at c1
        clear HE hok b0 b1 b2
        unfold HV
        conv in hdA (.slice ao h.ks.length cap) h => unfold hdA
        go_enter Try.func31, Try.ntmps31
        go_wp2_with fail
        rw [← HW.out]
        clear HW
        refine co.mono ?_
        rintro e w2 ⟨rfl, b2⟩
        replace HB : Hid (Bx w w2 (.slice ao h.ks.length cap) h) := HB.out.next b2
        have hs3 := b2.size
        clear b2 co k0 k1 k2 k3
        go_wp2_with fail
        refine (c0 _).mono ?_
        rintro e w' ⟨rfl, hw'⟩; subst w'
        go_wp2_with fail
        refine (c1 _).mono ?_
        rintro e w' ⟨rfl, hw'⟩; subst w'
        have k0 : w2.cell? ⟨w.heap.size, 0, none⟩ = some (.slice ao h.ks.length cap) := HB.out.1.cell 0 rfl
        have k1 : w2.cell? ⟨w.heap.size, 1, none⟩ = some (.int .i64 h.kd) := HB.out.1.cell 1 rfl
        have k2 : w2.cell? ⟨w.heap.size, 2, none⟩ = some (.int .i64 h.ho) := HB.out.1.cell 2 rfl
        have k3 : w2.cell? ⟨w.heap.size, 3, none⟩ = some (.int .i64 h.tu) := HB.out.1.cell 3 rfl
        go_wp2_with fail
        refine (cc _ HB.out.2.2.2.2).mono ?_
        rintro e w3 ⟨u, rfl, o3, b3⟩
        obtain ⟨q, cp, rfl, P3⟩ := PB.start (base := w2.heap.size) (Nat.le_refl _) o3 b3 HL.out
        have hs4 := b3.size
        have W3 : Below w2.heap.size w2 (w3.alloc (.cells (hdA (.slice (some ⟨q, 0, none⟩) 4 cp) h) 26)) := b3.alloc hs4 _
        replace HB : Hid (Bx w (w3.alloc (.cells (hdA (.slice (some ⟨q, 0, none⟩) 4 cp) h) 26)) (.slice ao h.ks.length cap) h) := HB.out.next W3
        have ch := s9reserve_any w2.heap.size w3.heap.size h i k (w3.alloc (.cells (hdA (.slice (some ⟨q, 0, none⟩) 4 cp) h) 26)) ⟨q, cp, P3⟩ hi.1 hi4
        clear o3 b3 P3 W3 cc k0 k1 k2 k3 c0 c1
        unfold hdA at ch
        go_wp2_with fail
        refine ch.mono ?_
        rintro e w5 ⟨rfl, ⟨q5, c5, P5⟩, B5⟩
        have zz : StB w5 (w.heap.size + 1) 26 #[.slice none 0 0, .int .i64 0, .int .i64 0, .int .i64 0] := (B5.block _ (by omega)).trans HB.out.2.1
        have HF : Hid (PQ w5 w2.heap.size w3.heap.size q5 c5 _ ∧ Below w.heap.size w w5) := ⟨P5, HB.out.2.2.1.trans (B5.mono (by omega))⟩
        have zq := P5.1
        have l5 := P5.1.lt
        clear B5 ch HB
        obtain ⟨rr, hrr⟩ : ∃ rr, rr = h.resd i k := ⟨_, rfl⟩
        rw [← hrr] at HR zq HF P5 ⊢
        clear hrr P5
        obtain ⟨h1, bt⟩ := rr
        dsimp only at zq HF ⊢
        cases bt with
        | false =>
          go_wp2_with (first | (refine wpList_getS Try.isH rfl _ rfl w3.heap.size rfl (hdA (.slice (some ⟨q5, 0, none⟩) 4 c5) h1) rfl zq ?_) | (refine wpList_putS Try.isH rfl _ _ rfl (w.heap.size + 1) (hdA (.slice (some ⟨q5, 0, none⟩) 4 c5) h1) #[.slice none 0 0, .int .i64 0, .int .i64 0, .int .i64 0] rfl rfl rfl rfl (hdA_one _ rfl) zz ?_; intro we se ge))
          refine bodyPost_ret (results_S2 Try.isH rfl _ _ (w.heap.size + 1) _ _ rfl rfl rfl se) rfl ?_
          exact ⟨_, by rw [HR.out]; rfl, by rw [HR.out]; exact (HF.out.1.2.1.keptLt ge (by omega)).mono (by omega), HF.out.2.grown ge HF.out.2.size (fun x e => by cases e; omega)⟩
        | true =>
          go_wp2_with (first | (refine wpList_getS Try.isH rfl _ rfl w3.heap.size rfl (hdA (.slice (some ⟨q5, 0, none⟩) 4 c5) h1) rfl zq ?_) | (refine wpList_putS Try.isH rfl _ _ rfl (w.heap.size + 1) (hdA (.slice (some ⟨q5, 0, none⟩) 4 c5) h1) #[.slice none 0 0, .int .i64 0, .int .i64 0, .int .i64 0] rfl rfl rfl rfl (hdA_one _ rfl) zz ?_; intro we se ge))
          refine bodyPost_ret (results_S2 Try.isH rfl _ _ (w.heap.size + 1) _ _ rfl rfl rfl se) rfl ?_
          exact ⟨_, by rw [HR.out]; rfl, by rw [HR.out]; exact (HF.out.1.2.1.keptLt ge (by omega)).mono (by omega), HF.out.2.grown ge HF.out.2.size (fun x e => by cases e; omega)⟩
set_option maxRecDepth 20000 in
set_option maxHeartbeats 2000000 in
theorem srelease_any (v : Value) (h : Hd) (i : Int) (w : World) (hr : Reads w v h.ks) (hl : h.ks.length ≤ 1099511627776) :
    Calls Try.prog 32 #[HV v h, .int .i64 i] w (Ans w (h.release i)) := by
  obtain ⟨ao, cap, rfl⟩ := reads_form hr
  obtain ⟨w1, hw1⟩ : ∃ w1, w1 = (w.alloc (.cells (hdA (.slice ao h.ks.length cap) h) 26)).alloc (.cells #[.slice none 0 0, .int .i64 0, .int .i64 0, .int .i64 0] 26) := ⟨_, rfl⟩
  have HB : Hid (Bx w w1 (.slice ao h.ks.length cap) h) := by rw [hw1]; exact Bx.start hr
  have HW : Hid (w1 = (w.alloc (.cells #[(.slice ao h.ks.length cap), .int .i64 h.kd, .int .i64 h.ho, .int .i64 h.tu] 26)).alloc (.cells #[.slice none 0 0, .int .i64 0, .int .i64 0, .int .i64 0] 26)) := hw1
  have co := sholdok_any (.slice ao h.ks.length cap) h w1 HB.out.2.2.2.2 hl
  have cc := fun wx (hr : Reads wx (.slice ao h.ks.length cap) h.ks) => s8copy_any (.slice ao h.ks.length cap) h wx hr hl
  have c0 := fun wx => swho_any i wx
  obtain ⟨r, HE⟩ : ∃ r, Hid (r = h.release i) := ⟨_, rfl⟩
  rw [← HE.out]
  have hs2 : w.heap.size + 1 < w1.heap.size := by have := HB.out.2.2.2.1; omega
  have hs1 : w.heap.size < w1.heap.size := by omega
  have k0 : w1.cell? ⟨w.heap.size, 0, none⟩ = some (.slice ao h.ks.length cap) := HB.out.1.cell 0 rfl
  have k1 : w1.cell? ⟨w.heap.size, 1, none⟩ = some (.int .i64 h.kd) := HB.out.1.cell 1 rfl
  have k2 : w1.cell? ⟨w.heap.size, 2, none⟩ = some (.int .i64 h.ho) := HB.out.1.cell 2 rfl
  have k3 : w1.cell? ⟨w.heap.size, 3, none⟩ = some (.int .i64 h.tu) := HB.out.1.cell 3 rfl
  clear hw1 hr hl
  unfold HV hdA at co
  unfold HV hdA at cc
  cases b0 : h.ok with
  | false =>
    have HR : Hid (r = (Hd.zero, 2)) := by rw [Hid, HE.out]; simp [Hd.release, b0]
    rw [b0] at co
    clear HE cc b0 c0
    unfold HV
    conv in hdA (.slice ao h.ks.length cap) h => unfold hdA
    go_enter Try.func32, Try.ntmps32
    go_wp2_with fail
    rw [← HW.out]
    clear HW
    refine co.mono ?_
    rintro e w2 ⟨rfl, b2⟩
    replace HB : Hid (Bx w w2 (.slice ao h.ks.length cap) h) := HB.out.next b2
    have hs3 := b2.size
    clear b2 co k0 k1 k2 k3
    have zz := HB.out.2.1
    have hlz := zz.lt
    go_wp2_with (refine wpList_putS Try.isH rfl _ _ rfl (w.heap.size + 1) (hdA (.slice none 0 0) Hd.zero) #[.slice none 0 0, .int .i64 0, .int .i64 0, .int .i64 0] rfl rfl rfl rfl (hdA_one _ rfl) zz ?_; intro we se ge)
    refine bodyPost_ret (results_S2 Try.isH rfl _ _ (w.heap.size + 1) _ _ rfl rfl rfl se) rfl ?_
    exact ⟨.slice none 0 0, by rw [HR.out]; rfl, by rw [HR.out]; exact zeroH_own _ _, HB.out.2.2.1.grown ge HB.out.2.2.1.size (fun x e => by cases e; omega)⟩
  | true =>
    cases b1 : inI i 0 3 with
    | false =>
      have HR : Hid (r = (Hd.zero, 2)) := by rw [Hid, HE.out]; simp [Hd.release, b0, b1]
      rw [b0] at co
      simp only [b1] at c0
      clear HE cc b0 b1 
      unfold HV
      conv in hdA (.slice ao h.ks.length cap) h => unfold hdA
      go_enter Try.func32, Try.ntmps32
      go_wp2_with fail
      rw [← HW.out]
      clear HW
      refine co.mono ?_
      rintro e w2 ⟨rfl, b2⟩
      replace HB : Hid (Bx w w2 (.slice ao h.ks.length cap) h) := HB.out.next b2
      have hs3 := b2.size
      clear b2 co k0 k1 k2 k3
      go_wp2_with fail
      refine (c0 _).mono ?_
      rintro e w' ⟨rfl, hw'⟩; subst w'
      have zz := HB.out.2.1
      have hlz := zz.lt
      go_wp2_with (refine wpList_putS Try.isH rfl _ _ rfl (w.heap.size + 1) (hdA (.slice none 0 0) Hd.zero) #[.slice none 0 0, .int .i64 0, .int .i64 0, .int .i64 0] rfl rfl rfl rfl (hdA_one _ rfl) zz ?_; intro we se ge)
      refine bodyPost_ret (results_S2 Try.isH rfl _ _ (w.heap.size + 1) _ _ rfl rfl rfl se) rfl ?_
      exact ⟨.slice none 0 0, by rw [HR.out]; rfl, by rw [HR.out]; exact zeroH_own _ _, HB.out.2.2.1.grown ge HB.out.2.2.1.size (fun x e => by cases e; omega)⟩
    | true =>
      have hok := Hd.ok_all b0
      have HR : Hid (r = told (h.reld i)) := by rw [Hid, HE.out]; simp [Hd.release, b0, b1]
      have hi := (inI_iff _ _ _).1 b1
      have hi4 : i < 4 := by omega
      have HL : Hid (h.ks.length = 4) := hok.1
      have t0 := hok.2.1.1
      have t1 := hok.2.1.2
      rw [b0] at co
      simp only [b1] at c0
      clear HE hok b0 b1
      unfold HV
      conv in hdA (.slice ao h.ks.length cap) h => unfold hdA
      go_enter Try.func32, Try.ntmps32
      go_wp2_with fail
      rw [← HW.out]
      clear HW
      refine co.mono ?_
      rintro e w2 ⟨rfl, b2⟩
      replace HB : Hid (Bx w w2 (.slice ao h.ks.length cap) h) := HB.out.next b2
      have hs3 := b2.size
      clear b2 co k0 k1 k2 k3
      go_wp2_with fail
      refine (c0 _).mono ?_
      rintro e w' ⟨rfl, hw'⟩; subst w'
      have k0 : w2.cell? ⟨w.heap.size, 0, none⟩ = some (.slice ao h.ks.length cap) := HB.out.1.cell 0 rfl
      have k1 : w2.cell? ⟨w.heap.size, 1, none⟩ = some (.int .i64 h.kd) := HB.out.1.cell 1 rfl
      have k2 : w2.cell? ⟨w.heap.size, 2, none⟩ = some (.int .i64 h.ho) := HB.out.1.cell 2 rfl
      have k3 : w2.cell? ⟨w.heap.size, 3, none⟩ = some (.int .i64 h.tu) := HB.out.1.cell 3 rfl
      go_wp2_with fail
      refine (cc _ HB.out.2.2.2.2).mono ?_
      rintro e w3 ⟨u, rfl, o3, b3⟩
      obtain ⟨q, cp, rfl, P3⟩ := PB.start (base := w2.heap.size) (Nat.le_refl _) o3 b3 HL.out
      have hs4 := b3.size
      have W3 : Below w2.heap.size w2 (w3.alloc (.cells (hdA (.slice (some ⟨q, 0, none⟩) 4 cp) h) 26)) := b3.alloc hs4 _
      replace HB : Hid (Bx w (w3.alloc (.cells (hdA (.slice (some ⟨q, 0, none⟩) 4 cp) h) 26)) (.slice ao h.ks.length cap) h) := HB.out.next W3
      have ch := s9release_any w2.heap.size w3.heap.size h i (w3.alloc (.cells (hdA (.slice (some ⟨q, 0, none⟩) 4 cp) h) 26)) ⟨q, cp, P3⟩ hi.1 hi4
      clear o3 b3 P3 W3 cc k0 k1 k2 k3 c0
      unfold hdA at ch
      go_wp2_with fail
      refine ch.mono ?_
      rintro e w5 ⟨rfl, ⟨q5, c5, P5⟩, B5⟩
      have zz : StB w5 (w.heap.size + 1) 26 #[.slice none 0 0, .int .i64 0, .int .i64 0, .int .i64 0] := (B5.block _ (by omega)).trans HB.out.2.1
      have HF : Hid (PQ w5 w2.heap.size w3.heap.size q5 c5 _ ∧ Below w.heap.size w w5) := ⟨P5, HB.out.2.2.1.trans (B5.mono (by omega))⟩
      have zq := P5.1
      have l5 := P5.1.lt
      clear B5 ch HB
      obtain ⟨rr, hrr⟩ : ∃ rr, rr = h.reld i := ⟨_, rfl⟩
      rw [← hrr] at HR zq HF P5 ⊢
      clear hrr P5
      obtain ⟨h1, bt⟩ := rr
      dsimp only at zq HF ⊢
      cases bt with
      | false =>
        go_wp2_with (first | (refine wpList_getS Try.isH rfl _ rfl w3.heap.size rfl (hdA (.slice (some ⟨q5, 0, none⟩) 4 c5) h1) rfl zq ?_) | (refine wpList_putS Try.isH rfl _ _ rfl (w.heap.size + 1) (hdA (.slice (some ⟨q5, 0, none⟩) 4 c5) h1) #[.slice none 0 0, .int .i64 0, .int .i64 0, .int .i64 0] rfl rfl rfl rfl (hdA_one _ rfl) zz ?_; intro we se ge))
        refine bodyPost_ret (results_S2 Try.isH rfl _ _ (w.heap.size + 1) _ _ rfl rfl rfl se) rfl ?_
        exact ⟨_, by rw [HR.out]; rfl, by rw [HR.out]; exact (HF.out.1.2.1.keptLt ge (by omega)).mono (by omega), HF.out.2.grown ge HF.out.2.size (fun x e => by cases e; omega)⟩
      | true =>
        go_wp2_with (first | (refine wpList_getS Try.isH rfl _ rfl w3.heap.size rfl (hdA (.slice (some ⟨q5, 0, none⟩) 4 c5) h1) rfl zq ?_) | (refine wpList_putS Try.isH rfl _ _ rfl (w.heap.size + 1) (hdA (.slice (some ⟨q5, 0, none⟩) 4 c5) h1) #[.slice none 0 0, .int .i64 0, .int .i64 0, .int .i64 0] rfl rfl rfl rfl (hdA_one _ rfl) zz ?_; intro we se ge))
        refine bodyPost_ret (results_S2 Try.isH rfl _ _ (w.heap.size + 1) _ _ rfl rfl rfl se) rfl ?_
        exact ⟨_, by rw [HR.out]; rfl, by rw [HR.out]; exact (HF.out.1.2.1.keptLt ge (by omega)).mono (by omega), HF.out.2.grown ge HF.out.2.size (fun x e => by cases e; omega)⟩
set_option maxRecDepth 20000 in
set_option maxHeartbeats 2000000 in
theorem sclear_any (v : Value) (h : Hd) (i : Int) (w : World) (hr : Reads w v h.ks) (hl : h.ks.length ≤ 1099511627776) :
    Calls Try.prog 19 #[HV v h, .int .i64 i] w (Ans w (h.clear i)) := by
  obtain ⟨ao, cap, rfl⟩ := reads_form hr
  obtain ⟨w1, hw1⟩ : ∃ w1, w1 = (w.alloc (.cells (hdA (.slice ao h.ks.length cap) h) 26)).alloc (.cells #[.slice none 0 0, .int .i64 0, .int .i64 0, .int .i64 0] 26) := ⟨_, rfl⟩
  have HB : Hid (Bx w w1 (.slice ao h.ks.length cap) h) := by rw [hw1]; exact Bx.start hr
  have HW : Hid (w1 = (w.alloc (.cells #[(.slice ao h.ks.length cap), .int .i64 h.kd, .int .i64 h.ho, .int .i64 h.tu] 26)).alloc (.cells #[.slice none 0 0, .int .i64 0, .int .i64 0, .int .i64 0] 26)) := hw1
  have co := sholdok_any (.slice ao h.ks.length cap) h w1 HB.out.2.2.2.2 hl
  have cc := fun wx (hr : Reads wx (.slice ao h.ks.length cap) h.ks) => s8copy_any (.slice ao h.ks.length cap) h wx hr hl
  have c0 := fun wx => swho_any i wx
  obtain ⟨r, HE⟩ : ∃ r, Hid (r = h.clear i) := ⟨_, rfl⟩
  rw [← HE.out]
  have hs2 : w.heap.size + 1 < w1.heap.size := by have := HB.out.2.2.2.1; omega
  have hs1 : w.heap.size < w1.heap.size := by omega
  have k0 : w1.cell? ⟨w.heap.size, 0, none⟩ = some (.slice ao h.ks.length cap) := HB.out.1.cell 0 rfl
  have k1 : w1.cell? ⟨w.heap.size, 1, none⟩ = some (.int .i64 h.kd) := HB.out.1.cell 1 rfl
  have k2 : w1.cell? ⟨w.heap.size, 2, none⟩ = some (.int .i64 h.ho) := HB.out.1.cell 2 rfl
  have k3 : w1.cell? ⟨w.heap.size, 3, none⟩ = some (.int .i64 h.tu) := HB.out.1.cell 3 rfl
  clear hw1 hr hl
  unfold HV hdA at co
  unfold HV hdA at cc
  cases b0 : h.ok with
  | false =>
    have HR : Hid (r = (Hd.zero, 2)) := by rw [Hid, HE.out]; simp [Hd.clear, b0]
    rw [b0] at co
    clear HE cc b0 c0
    unfold HV
    conv in hdA (.slice ao h.ks.length cap) h => unfold hdA
    go_enter Try.func19, Try.ntmps19
    go_wp2_with fail
    rw [← HW.out]
    clear HW
    refine co.mono ?_
    rintro e w2 ⟨rfl, b2⟩
    replace HB : Hid (Bx w w2 (.slice ao h.ks.length cap) h) := HB.out.next b2
    have hs3 := b2.size
    clear b2 co k0 k1 k2 k3
    have zz := HB.out.2.1
    have hlz := zz.lt
    go_wp2_with (refine wpList_putS Try.isH rfl _ _ rfl (w.heap.size + 1) (hdA (.slice none 0 0) Hd.zero) #[.slice none 0 0, .int .i64 0, .int .i64 0, .int .i64 0] rfl rfl rfl rfl (hdA_one _ rfl) zz ?_; intro we se ge)
    refine bodyPost_ret (results_S2 Try.isH rfl _ _ (w.heap.size + 1) _ _ rfl rfl rfl se) rfl ?_
    exact ⟨.slice none 0 0, by rw [HR.out]; rfl, by rw [HR.out]; exact zeroH_own _ _, HB.out.2.2.1.grown ge HB.out.2.2.1.size (fun x e => by cases e; omega)⟩
  | true =>
    cases b1 : inI i 0 3 with
    | false =>
      have HR : Hid (r = (Hd.zero, 2)) := by rw [Hid, HE.out]; simp [Hd.clear, b0, b1]
      rw [b0] at co
      simp only [b1] at c0
      clear HE cc b0 b1 
      unfold HV
      conv in hdA (.slice ao h.ks.length cap) h => unfold hdA
      go_enter Try.func19, Try.ntmps19
      go_wp2_with fail
      rw [← HW.out]
      clear HW
      refine co.mono ?_
      rintro e w2 ⟨rfl, b2⟩
      replace HB : Hid (Bx w w2 (.slice ao h.ks.length cap) h) := HB.out.next b2
      have hs3 := b2.size
      clear b2 co k0 k1 k2 k3
      go_wp2_with fail
      refine (c0 _).mono ?_
      rintro e w' ⟨rfl, hw'⟩; subst w'
      have zz := HB.out.2.1
      have hlz := zz.lt
      go_wp2_with (refine wpList_putS Try.isH rfl _ _ rfl (w.heap.size + 1) (hdA (.slice none 0 0) Hd.zero) #[.slice none 0 0, .int .i64 0, .int .i64 0, .int .i64 0] rfl rfl rfl rfl (hdA_one _ rfl) zz ?_; intro we se ge)
      refine bodyPost_ret (results_S2 Try.isH rfl _ _ (w.heap.size + 1) _ _ rfl rfl rfl se) rfl ?_
      exact ⟨.slice none 0 0, by rw [HR.out]; rfl, by rw [HR.out]; exact zeroH_own _ _, HB.out.2.2.1.grown ge HB.out.2.2.1.size (fun x e => by cases e; omega)⟩
    | true =>
      have hok := Hd.ok_all b0
      have HR : Hid (r = told (h.clrd i)) := by rw [Hid, HE.out]; simp [Hd.clear, b0, b1]
      have hi := (inI_iff _ _ _).1 b1
      have hi4 : i < 4 := by omega
      have HL : Hid (h.ks.length = 4) := hok.1
      have t0 := hok.2.1.1
      have t1 := hok.2.1.2
      rw [b0] at co
      simp only [b1] at c0
      clear HE hok b0 b1
      unfold HV
      conv in hdA (.slice ao h.ks.length cap) h => unfold hdA
      go_enter Try.func19, Try.ntmps19
      go_wp2_with fail
      rw [← HW.out]
      clear HW
      refine co.mono ?_
      rintro e w2 ⟨rfl, b2⟩
      replace HB : Hid (Bx w w2 (.slice ao h.ks.length cap) h) := HB.out.next b2
      have hs3 := b2.size
      clear b2 co k0 k1 k2 k3
      go_wp2_with fail
      refine (c0 _).mono ?_
      rintro e w' ⟨rfl, hw'⟩; subst w'
      have k0 : w2.cell? ⟨w.heap.size, 0, none⟩ = some (.slice ao h.ks.length cap) := HB.out.1.cell 0 rfl
      have k1 : w2.cell? ⟨w.heap.size, 1, none⟩ = some (.int .i64 h.kd) := HB.out.1.cell 1 rfl
      have k2 : w2.cell? ⟨w.heap.size, 2, none⟩ = some (.int .i64 h.ho) := HB.out.1.cell 2 rfl
      have k3 : w2.cell? ⟨w.heap.size, 3, none⟩ = some (.int .i64 h.tu) := HB.out.1.cell 3 rfl
      go_wp2_with fail
      refine (cc _ HB.out.2.2.2.2).mono ?_
      rintro e w3 ⟨u, rfl, o3, b3⟩
      obtain ⟨q, cp, rfl, P3⟩ := PB.start (base := w2.heap.size) (Nat.le_refl _) o3 b3 HL.out
      have hs4 := b3.size
      have W3 : Below w2.heap.size w2 (w3.alloc (.cells (hdA (.slice (some ⟨q, 0, none⟩) 4 cp) h) 26)) := b3.alloc hs4 _
      replace HB : Hid (Bx w (w3.alloc (.cells (hdA (.slice (some ⟨q, 0, none⟩) 4 cp) h) 26)) (.slice ao h.ks.length cap) h) := HB.out.next W3
      have ch := s9clear_any w2.heap.size w3.heap.size h i (w3.alloc (.cells (hdA (.slice (some ⟨q, 0, none⟩) 4 cp) h) 26)) ⟨q, cp, P3⟩ hi.1 hi4 t0 t1
      clear o3 b3 P3 W3 cc k0 k1 k2 k3 c0
      unfold hdA at ch
      go_wp2_with fail
      refine ch.mono ?_
      rintro e w5 ⟨rfl, ⟨q5, c5, P5⟩, B5⟩
      have zz : StB w5 (w.heap.size + 1) 26 #[.slice none 0 0, .int .i64 0, .int .i64 0, .int .i64 0] := (B5.block _ (by omega)).trans HB.out.2.1
      have HF : Hid (PQ w5 w2.heap.size w3.heap.size q5 c5 _ ∧ Below w.heap.size w w5) := ⟨P5, HB.out.2.2.1.trans (B5.mono (by omega))⟩
      have zq := P5.1
      have l5 := P5.1.lt
      clear B5 ch HB
      obtain ⟨rr, hrr⟩ : ∃ rr, rr = h.clrd i := ⟨_, rfl⟩
      rw [← hrr] at HR zq HF P5 ⊢
      clear hrr P5
      obtain ⟨h1, bt⟩ := rr
      dsimp only at zq HF ⊢
      cases bt with
      | false =>
        go_wp2_with (first | (refine wpList_getS Try.isH rfl _ rfl w3.heap.size rfl (hdA (.slice (some ⟨q5, 0, none⟩) 4 c5) h1) rfl zq ?_) | (refine wpList_putS Try.isH rfl _ _ rfl (w.heap.size + 1) (hdA (.slice (some ⟨q5, 0, none⟩) 4 c5) h1) #[.slice none 0 0, .int .i64 0, .int .i64 0, .int .i64 0] rfl rfl rfl rfl (hdA_one _ rfl) zz ?_; intro we se ge))
        refine bodyPost_ret (results_S2 Try.isH rfl _ _ (w.heap.size + 1) _ _ rfl rfl rfl se) rfl ?_
        exact ⟨_, by rw [HR.out]; rfl, by rw [HR.out]; exact (HF.out.1.2.1.keptLt ge (by omega)).mono (by omega), HF.out.2.grown ge HF.out.2.size (fun x e => by cases e; omega)⟩
      | true =>
        go_wp2_with (first | (refine wpList_getS Try.isH rfl _ rfl w3.heap.size rfl (hdA (.slice (some ⟨q5, 0, none⟩) 4 c5) h1) rfl zq ?_) | (refine wpList_putS Try.isH rfl _ _ rfl (w.heap.size + 1) (hdA (.slice (some ⟨q5, 0, none⟩) 4 c5) h1) #[.slice none 0 0, .int .i64 0, .int .i64 0, .int .i64 0] rfl rfl rfl rfl (hdA_one _ rfl) zz ?_; intro we se ge))
        refine bodyPost_ret (results_S2 Try.isH rfl _ _ (w.heap.size + 1) _ _ rfl rfl rfl se) rfl ?_
        exact ⟨_, by rw [HR.out]; rfl, by rw [HR.out]; exact (HF.out.1.2.1.keptLt ge (by omega)).mono (by omega), HF.out.2.grown ge HF.out.2.size (fun x e => by cases e; omega)⟩
end Go.Proofs.Ytppkncmlloelbaa
