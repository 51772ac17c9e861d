/- A message in memory: eleven cells; l15Msg of the model. -/
import Derived.Test.YtlkkpolnllbljaaGreatDoorSNode
import Derived.Test.YtlkkpolnllbljaaGreatDoorM8
import Derived.Test.YtlkkpolnllbljaaGreatDoorM4
import Derived.Test.YtlkkpolnllbljaaGreatDoorM1
import Derived.Test.YtlkkpolnllbljaaGreatDoorM3
import Derived.Deep.DeepCutAuto
namespace Go.Proofs.YtlkkpolnllbljaaGreatDoor
open Go.ChangeShapes Go.WideShapes Go.ChangeAt Go.RowKit

set_option maxRecDepth 20000 in
set_option maxHeartbeats 400000 in
theorem sitem_any (x : Int) (w : World) :
    Calls Tryz.prog 146 #[.int .i64 x] w fun e w' => e = .returned (.bool (itemOk x)) ∧ w' = w := by
  by_cases h0 : 0 ≤ x
  · by_cases h1 : x < 8
    · rw [show itemOk x = true by simp [itemOk, h0, h1]]
      go_enter Tryz.func146, Tryz.ntmps146
      go_wp2
      go_ret
      exact ⟨ret_bool (by simp <;> omega), rfl⟩
    · rw [show itemOk x = false by simp [itemOk]; omega]
      go_enter Tryz.func146, Tryz.ntmps146
      go_wp2
      go_ret
      exact ⟨ret_bool (by simp <;> omega), rfl⟩
  · rw [show itemOk x = false by simp [itemOk]; omega]
    go_enter Tryz.func146, Tryz.ntmps146
    go_wp2
    go_ret
    exact ⟨ret_bool (by simp <;> omega), rfl⟩
end Go.Proofs.YtlkkpolnllbljaaGreatDoor
/- Copiers by the model: l13Copy, l13Has, and the hands on one that lies behind a pointer: l13Mark, l13Next, l13Ack, l13Again. -/
namespace Go.Proofs.YtlkkpolnllbljaaGreatDoor
open Go.ChangeShapes Go.WideShapes Go.ChangeAt Go.RowKit

set_option maxRecDepth 20000 in
set_option maxHeartbeats 2000000 in
theorem scopyC_any (v : Value) (c : Cp) (w : World) (hr : Reads w v c.ts) (hl : c.ts.length ≤ 1099511627776) :
    Calls Tryz.prog 53 #[CpV v c] w fun e w' => ∃ u, e = .returned (CpV u c) ∧ Own w' w.heap.size u c.ts ∧ Below w.heap.size w w' := by
  obtain ⟨w1, hw1⟩ : ∃ w1, w1 = (w.alloc (.cells (cpA v c) 39)).alloc (.cells zeroCp 39) := ⟨_, rfl⟩
  have p0 : StB w1 w.heap.size 39 (cpA v c) := by rw [hw1]; exact (StB.new w _ _).alloc _
  have q0 : StB w1 (w.heap.size + 1) 39 zeroCp := by
    rw [hw1]
    have := StB.new (w.alloc (.cells (cpA v c) 39)) 39 zeroCp
    rwa [World.size_alloc] at this
  have b1 : Below w.heap.size w w1 := by rw [hw1]; exact ((Below.refl _ _).alloc (Nat.le_refl _) _).alloc (by simp) _
  have c1 := copy_any v c.ts w1 (hr.below b1 (Nat.le_refl _)) hl
  have hs1 := q0.lt
  obtain ⟨ao, cap, rfl⟩ := reads_form hr
  have HW : Hid (w1 = (w.alloc (.cells #[.int .i64 c.tr, .bool c.op, .int .i64 c.di, .int .i64 c.wa, .slice ao c.ts.length cap] 39)).alloc (.cells #[.int .i64 0, .bool false, .int .i64 0, .int .i64 0, .slice none 0 0] 39)) := hw1
  have k4 : w1.cell? ⟨w.heap.size, 4, none⟩ = some (.slice ao c.ts.length cap) := p0.cell 4 rfl
  clear hw1 hr hl
  unfold CpV cpA
  go_enter Tryz.func53, Tryz.ntmps53
  go_wp2_with fail
  rw [← HW.out]
  clear HW
  refine c1.mono ?_
  rintro e w3 ⟨u, rfl, o3, b3⟩
  replace p0 := p0.below b3
  replace q0 := q0.below b3
  have B3 := b1.trans (b3.mono b1.size)
  obtain ⟨ab, cb, rfl⟩ := reads_form o3.reads
  have k0 : w3.cell? ⟨w.heap.size, 4, none⟩ = some (.slice ao c.ts.length cap) := p0.cell 4 rfl
  have f0 := p0.frozen 4
  have r4 := p0.put 4 (.slice ab c.ts.length cb) (ds := cpA (.slice ab c.ts.length cb) c) rfl
  have q4 := q0.other ⟨w.heap.size, 4, none⟩ (.slice ab c.ts.length cb) (by simp)
  have HP : Hid (Own (w3.setCell ⟨w.heap.size, 4, none⟩ (.slice ab c.ts.length cb)) w1.heap.size (.slice ab c.ts.length cb) c.ts ∧ Below w.heap.size w (w3.setCell ⟨w.heap.size, 4, none⟩ (.slice ab c.ts.length cb))) := ⟨o3.setLt (by omega) 4 _, B3.setCell (Nat.le_refl _) _⟩
  clear k4 p0 q0 c1 o3 b3 b1 B3
  go_upto_region 2 with fail
  obtain ⟨w4, hw4⟩ : ∃ w4, w4 = w3.setCell ⟨w.heap.size, 4, none⟩ (.slice ab c.ts.length cb) := ⟨_, rfl⟩
  rw [← hw4] at r4 q4 HP ⊢
  clear hw4 k0 f0
  go_wp2_with (first | (refine wpList_getS Tryz.isCp rfl _ rfl w.heap.size rfl (cpA (.slice ab c.ts.length cb) c) rfl r4 ?_) | (refine wpList_putS Tryz.isCp rfl _ _ rfl (w.heap.size + 1) (cpA (.slice ab c.ts.length cb) c) zeroCp rfl rfl rfl rfl (cpA_one c rfl) q4 ?_; intro w8 s8 g8))
  refine bodyPost_ret (results_S Tryz.isCp rfl _ _ (w.heap.size + 1) _ rfl rfl s8) rfl ?_
  exact ⟨_, rfl, (HP.out.1.keptLt g8 (by omega)).mono (by omega), HP.out.2.grown g8 HP.out.2.size (fun k e => by cases e; omega)⟩

set_option maxRecDepth 20000 in
set_option maxHeartbeats 1000000 in
theorem shas_any (v : Value) (c : Cp) (i : Int) (w : World) (hr : Reads w v c.ts) :
    Calls Tryz.prog 102 #[CpV v c, .int .i64 i] w fun e w' => e = .returned (.bool (c.has i)) ∧ Below w.heap.size w w' := by
  have HE : Hid (c.has i = (decide (0 ≤ i) && decide (i < (c.ts.length : Int)))) := rfl
  obtain ⟨ao, cap, rfl⟩ := reads_form hr
  obtain ⟨x, hx⟩ : ∃ x, x = c.has i := ⟨_, rfl⟩
  rw [← hx] at HE ⊢
  unfold CpV cpA
  clear hr hx
  by_cases h0 : 0 ≤ i
  · by_cases h1 : i < (c.ts.length : Int)
    · go_enter Tryz.func102, Tryz.ntmps102
      go_wp2
      go_ret
      exact ⟨ret_bool (by rw [HE.out]; simp [h0, h1]), (Below.refl _ _).alloc (Nat.le_refl _) _⟩
    · go_enter Tryz.func102, Tryz.ntmps102
      go_wp2
      go_ret
      exact ⟨ret_bool (by rw [HE.out]; simp [h1]), (Below.refl _ _).alloc (Nat.le_refl _) _⟩
  · have HF : Hid (x = false) := by rw [Hid, HE.out]; simp [h0]
    go_enter Tryz.func102, Tryz.ntmps102
    go_wp2
    go_ret
    exact ⟨ret_bool (by rw [HF.out]), (Below.refl _ _).alloc (Nat.le_refl _) _⟩
end Go.Proofs.YtlkkpolnllbljaaGreatDoor
/- Holdings by the model, on: l8Registered, Registered, l8Holds, Holds, l8May, May. -/
namespace Go.Proofs.YtlkkpolnllbljaaGreatDoor
open Go.ChangeShapes Go.WideShapes Go.ChangeAt Go.RowKit

set_option maxRecDepth 20000 in
set_option maxHeartbeats 1000000 in
theorem s8reg_any (v : Value) (h : Hd) (i : Int) (w : World) (hr : Reads w v h.ks) (h0 : 0 ≤ i) (hi : i < (h.ks.length : Int)) :
    Calls Tryz.prog 143 #[HV v h, .int .i64 i] w fun e w' => e = .returned (.bool (regI h.ks i)) ∧ Below w.heap.size w w' := by
  have HE : Hid (regI h.ks i = decide (h.ks.getD i.toNat 0 ≠ 0)) := rfl
  obtain ⟨ao, cap, rfl⟩ := reads_form hr
  obtain ⟨w1, hw1⟩ : ∃ w1, w1 = w.alloc (.cells (hdA (.slice ao h.ks.length cap) h) 37) := ⟨_, rfl⟩
  have H1 : HdB w1 w.heap.size 37 (.slice ao h.ks.length cap) h := by rw [hw1]; exact HdB.new _ hr
  have HB : Hid (Below w.heap.size w w1) := by rw [hw1]; exact (Below.refl _ _).alloc (Nat.le_refl _) _
  obtain ⟨-, hc1, hc2, hcell⟩ := reads_cells H1.2
  obtain ⟨b, off, rfl, hcj⟩ := hcell i.toNat (by omega)
  obtain ⟨y, hy⟩ : ∃ y, y = h.ks.getD i.toNat 0 := ⟨_, rfl⟩
  rw [← hy] at hcj HE
  have hic : ((i.toNat : Nat) : Int) = i := by omega
  have k0 : w1.cell? ⟨w.heap.size, 0, none⟩ = some (.slice (some ⟨b, off, none⟩) h.ks.length cap) := H1.1.cell 0 rfl
  have HW : Hid (w1 = w.alloc (.cells #[.slice (some ⟨b, off, none⟩) h.ks.length cap, .int .i64 h.kd, .int .i64 h.ho, .int .i64 h.tu] 37)) := hw1
  unfold maxLen at hc2
  unfold HV hdA
  obtain ⟨n, hn⟩ : ∃ n, n = h.ks.length := ⟨_, rfl⟩
  rw [← hn] at k0 HW hi hc1 ⊢
  clear hcell hy hr hw1 H1 hn
  have hw := HW.out
  subst hw
  by_cases hy0 : y = 0
  · go_enter Tryz.func143, Tryz.ntmps143
    go_wp2
    go_ret
    exact ⟨ret_bool (by rw [HE.out]; simp [hy0]), HB.out⟩
  · have hyn : (y != 0) = true := by simpa using hy0
    go_enter Tryz.func143, Tryz.ntmps143
    go_wp2
    go_ret
    exact ⟨ret_bool (by rw [HE.out]; simp [hy0]), HB.out⟩

set_option maxRecDepth 20000 in
set_option maxHeartbeats 1000000 in
theorem s8holds_any (v : Value) (h : Hd) (i : Int) (w : World) (hr : Reads w v h.ks) (h0 : 0 ≤ i) (hi : i < (h.ks.length : Int)) :
    Calls Tryz.prog 142 #[HV v h, .int .i64 i] w fun e w' => e = .returned (.bool (h.holds i)) ∧ Below w.heap.size w w' := by
  have HE : Hid (h.holds i = (decide (h.kd ≠ 0) && (decide (h.ho = i) || (allI h.kd && regI h.ks i)))) := rfl
  have B1 : Below w.heap.size w (w.alloc (.cells (hdA v h) 37)) := (Below.refl _ _).alloc (Nat.le_refl _) _
  have cf := fun wx => sall_any h.kd wx
  have cr := s8reg_any v h i (w.alloc (.cells (hdA v h) 37)) (hr.below B1 (Nat.le_refl _)) h0 hi
  obtain ⟨x, hx⟩ : ∃ x, x = h.holds i := ⟨_, rfl⟩
  obtain ⟨bf, hbf⟩ : ∃ bf, bf = allI h.kd := ⟨_, rfl⟩
  obtain ⟨br, hbr⟩ : ∃ br, br = regI h.ks i := ⟨_, rfl⟩
  rw [← hx] at HE ⊢
  rw [← hbf, ← hbr] at HE
  rw [← hbr] at cr
  simp only [← hbf] at cf
  have hone := reads_one hr
  obtain ⟨ao, cap, rfl⟩ := reads_form hr
  clear hx hbf hbr hr hone
  unfold HV hdA at *
  by_cases hk : h.kd = 0
  · have HX : Hid (x = false) := by rw [Hid, HE.out]; simp [hk]
    clear HE cf cr
    go_enter Tryz.func142, Tryz.ntmps142
    go_wp2
    go_ret
    exact ⟨ret_bool (by rw [HX.out]), by first | exact B1 | (rw [hk] at B1; exact B1)⟩
  · have hkn : (h.kd != 0) = true := by simpa using hk
    by_cases hoi : h.ho = i
    · have HX : Hid (x = true) := by rw [Hid, HE.out]; simp [hk, hoi]
      clear HE cf cr
      subst hoi
      go_enter Tryz.func142, Tryz.ntmps142
      go_wp2
      go_ret
      exact ⟨ret_bool (by rw [HX.out]), B1⟩
    · have HX : Hid (x = (bf && br)) := by rw [Hid, HE.out]; simp [hk, hoi]
      clear HE
      have hon : (h.ho == i) = false := by simpa using hoi
      cases bf with
      | false =>
        clear cr
        go_enter Tryz.func142, Tryz.ntmps142
        go_wp2_with fail
        refine (cf _).mono ?_
        rintro e w' ⟨rfl, hw⟩; subst w'
        go_wp2
        go_ret
        exact ⟨ret_bool (by rw [HX.out]; rfl), B1⟩
      | true =>
        go_enter Tryz.func142, Tryz.ntmps142
        go_wp2_with fail
        refine (cf _).mono ?_
        rintro e w' ⟨rfl, hw⟩; subst w'
        go_wp2_with fail
        refine cr.mono ?_
        rintro e w2 ⟨rfl, b2⟩
        have B2 := B1.trans (b2.mono B1.size)
        clear b2 B1 cr cf
        go_wp2
        go_ret
        exact ⟨ret_bool (by rw [HX.out]; simp), B2⟩

set_option maxRecDepth 20000 in
set_option maxHeartbeats 2000000 in
theorem s8may_any (v : Value) (h : Hd) (i : Int) (b : Bool) (w : World) (hr : Reads w v h.ks) (h0 : 0 ≤ i) (hi : i < (h.ks.length : Int)) :
    Calls Tryz.prog 100 #[HV v h, .int .i64 i, .bool b] w fun e w' => e = .returned (.bool (h.may i b)) ∧ Below w.heap.size w w' := by
  have HE : Hid (h.may i b = mayI h.kd b (h.holds i) (regI h.ks i)) := rfl
  obtain ⟨w1, hw1⟩ : ∃ w1, w1 = w.alloc (.cells (hdA v h) 37) := ⟨_, rfl⟩
  have HH : Hid (HdB w1 w.heap.size 37 v h ∧ Below w.heap.size w w1) := by rw [hw1]; exact ⟨HdB.new _ hr, (Below.refl _ _).alloc (Nat.le_refl _) _⟩
  have ch := fun wx (k : Reads wx v h.ks) => s8holds_any v h i wx k h0 hi
  have cr := fun wx (k : Reads wx v h.ks) => s8reg_any v h i wx k h0 hi
  have cm := fun wx => smay_any h.kd b (h.holds i) (regI h.ks i) wx
  obtain ⟨x, hx⟩ : ∃ x, x = h.may i b := ⟨_, rfl⟩
  obtain ⟨bh, hbh⟩ : ∃ bh, bh = h.holds i := ⟨_, rfl⟩
  obtain ⟨br, hbr⟩ : ∃ br, br = regI h.ks i := ⟨_, rfl⟩
  rw [← hx] at HE ⊢
  rw [← hbh, ← hbr] at HE
  simp only [← hbh] at ch
  simp only [← hbr] at cr
  simp only [← hbh, ← hbr] at cm
  rw [← HE.out] at cm
  obtain ⟨ao, cap, rfl⟩ := reads_form hr
  clear hx hbh hbr hr
  unfold HV at *
  unfold hdA at *
  have HW : Hid _ := hw1
  have k0 : w1.cell? ⟨w.heap.size, 0, none⟩ = some (.slice ao h.ks.length cap) := HH.out.1.1.cell 0 rfl
  have k1 : w1.cell? ⟨w.heap.size, 1, none⟩ = some (.int .i64 h.kd) := HH.out.1.1.cell 1 rfl
  have k2 : w1.cell? ⟨w.heap.size, 2, none⟩ = some (.int .i64 h.ho) := HH.out.1.1.cell 2 rfl
  have k3 : w1.cell? ⟨w.heap.size, 3, none⟩ = some (.int .i64 h.tu) := HH.out.1.1.cell 3 rfl
  clear hw1
  go_enter Tryz.func100, Tryz.ntmps100
  go_wp2_with fail
  rw [← HW.out]
  clear HW
  go_region_held3 (fun w' => w'.cell? ⟨w.heap.size, 0, none⟩ = some (.slice ao h.ks.length cap) ∧ w'.cell? ⟨w.heap.size, 1, none⟩ = some (.int .i64 h.kd) ∧ w'.cell? ⟨w.heap.size, 2, none⟩ = some (.int .i64 h.ho) ∧ w'.cell? ⟨w.heap.size, 3, none⟩ = some (.int .i64 h.tu)) (go_keep)
    (first
    | (go_at_call 142; refine (ch _ (HH.out.1.drewN 1).2).mono ?_; rintro e wA ⟨rfl, bA⟩; have HA : Hid (HdB wA w.heap.size 37 (.slice ao h.ks.length cap) h ∧ Below w.heap.size w wA) := ⟨(HH.out.1.drewN 1).below bA, (below_drewN HH.out.2 1).trans (bA.mono (below_drewN HH.out.2 1).size)⟩; clear bA; have ka0 : wA.cell? ⟨w.heap.size, 0, none⟩ = some (.slice ao h.ks.length cap) := HA.out.1.1.cell 0 rfl; have ka1 : wA.cell? ⟨w.heap.size, 1, none⟩ = some (.int .i64 h.kd) := HA.out.1.1.cell 1 rfl; have ka2 : wA.cell? ⟨w.heap.size, 2, none⟩ = some (.int .i64 h.ho) := HA.out.1.1.cell 2 rfl; have ka3 : wA.cell? ⟨w.heap.size, 3, none⟩ = some (.int .i64 h.tu) := HA.out.1.1.cell 3 rfl)
    | (go_at_call 143; refine (cr _ HA.out.1.2).mono ?_; rintro e wB ⟨rfl, bB⟩; have HB : Hid (HdB wB w.heap.size 37 (.slice ao h.ks.length cap) h ∧ Below w.heap.size w wB) := ⟨HA.out.1.below bB, HA.out.2.trans (bB.mono HA.out.2.size)⟩; clear bB; have kb0 : wB.cell? ⟨w.heap.size, 0, none⟩ = some (.slice ao h.ks.length cap) := HB.out.1.1.cell 0 rfl; have kb1 : wB.cell? ⟨w.heap.size, 1, none⟩ = some (.int .i64 h.kd) := HB.out.1.1.cell 1 rfl; have kb2 : wB.cell? ⟨w.heap.size, 2, none⟩ = some (.int .i64 h.ho) := HB.out.1.1.cell 2 rfl; have kb3 : wB.cell? ⟨w.heap.size, 3, none⟩ = some (.int .i64 h.tu) := HB.out.1.1.cell 3 rfl)
    | (go_at_call 141; refine (cm _).mono ?_; rintro e w' ⟨rfl, hw'⟩; subst w'))
  go_wp2
  go_ret
  exact ⟨rfl, HB.out.2⟩
end Go.Proofs.YtlkkpolnllbljaaGreatDoor
/- How the laws take a holding over, compare two, mark one and look at the marks; a new holding. -/
namespace Go.Proofs.YtlkkpolnllbljaaGreatDoor
open Go.ChangeShapes Go.WideShapes Go.ChangeAt Go.RowKit

theorem Tryz.isLH : IsS 26 4 := ⟨⟨_, Tryz.underlying26⟩, by kernel_rfl⟩

theorem hdA_one {v : Value} (h : Hd) (hv : v.oneCell' = true) : (hdA v h).all (·.oneCell') = true := by
  unfold hdA
  simp [hv, show ∀ k n, (Value.int k n).oneCell' = true from fun _ _ => rfl]

set_option maxRecDepth 20000 in
set_option maxHeartbeats 1000000 in
theorem szHolding_any (v : Value) (h : Hd) (k : Int) (w : World) (hr : Reads w v h.ks) (h0 : 0 ≤ k) (h1 : k ≤ 1048576) :
    Calls Tryz.prog 13 #[HV v h, .int .i64 k] w fun e w' => e = .returned (.int .i64 (szI k h.ks.length)) ∧ Below w.heap.size w w' := by
  have B1 : Below w.heap.size w (w.alloc (.cells (hdA v h) 26)) := (Below.refl _ _).alloc (Nat.le_refl _) _
  have c1 := sz_any v h.ks k _ (hr.below B1 (Nat.le_refl _)) h0 h1
  have hs : szI k h.ks.length = -1 ∨ 0 ≤ szI k h.ks.length := by unfold szI; split <;> omega
  obtain ⟨x, hx⟩ : ∃ x, x = szI k h.ks.length := ⟨_, rfl⟩
  rw [← hx] at c1 hs ⊢
  obtain ⟨ao, cap, rfl⟩ := reads_form hr
  clear hx hr
  unfold HV hdA at *
  rcases hs with hs | hs
  · subst hs
    go_enter Tryz.func13, Tryz.ntmps13
    go_wp2_with fail
    refine c1.mono ?_
    rintro e w' ⟨rfl, hw⟩; subst w'
    go_wp2
    go_ret
    exact ⟨rfl, B1⟩
  · go_enter Tryz.func13, Tryz.ntmps13
    go_wp2_with fail
    refine c1.mono ?_
    rintro e w' ⟨rfl, hw⟩; subst w'
    go_wp2
    go_ret
    exact ⟨rfl, B1⟩

set_option maxRecDepth 20000 in
set_option maxHeartbeats 2000000 in
theorem toHolding_any (v : Value) (h : Hd) (w : World) (hr : Reads w v h.ks) (hl : h.ks.length ≤ 1099511627776) :
    Calls Tryz.prog 20 #[HV v h] w fun e w' => ∃ u, e = .returned (HV u h) ∧ Own w' w.heap.size u h.ks ∧ Below w.heap.size w w' := by
  obtain ⟨w1, hw1⟩ : ∃ w1, w1 = ((w.alloc (.cells (hdA v h) 26)).alloc (.cells #[.slice none 0 0, .int .i64 0, .int .i64 0, .int .i64 0] 37)).alloc (.cells #[.slice none 0 0, .int .i64 0, .int .i64 0, .int .i64 0] 37) := ⟨_, rfl⟩
  have hsz : w1.heap.size = w.heap.size + 3 := by rw [hw1]; simp
  have p0 : StB w1 w.heap.size 26 (hdA v h) := by rw [hw1]; exact ((StB.new w _ _).alloc _).alloc _
  have q0 : StB w1 (w.heap.size + 1) 37 #[.slice none 0 0, .int .i64 0, .int .i64 0, .int .i64 0] := by
    rw [hw1]
    have := (StB.new (w.alloc (.cells (hdA v h) 26)) 37 #[.slice none 0 0, .int .i64 0, .int .i64 0, .int .i64 0]).alloc (.cells #[.slice none 0 0, .int .i64 0, .int .i64 0, .int .i64 0] 37)
    rwa [World.size_alloc] at this
  have r0 : StB w1 (w.heap.size + 1 + 1) 37 #[.slice none 0 0, .int .i64 0, .int .i64 0, .int .i64 0] := by
    rw [hw1]
    have := StB.new ((w.alloc (.cells (hdA v h) 26)).alloc (.cells #[.slice none 0 0, .int .i64 0, .int .i64 0, .int .i64 0] 37)) 37 #[.slice none 0 0, .int .i64 0, .int .i64 0, .int .i64 0]
    rwa [World.size_alloc, World.size_alloc] at this
  have b1 : Below w.heap.size w w1 := by rw [hw1]; exact (((Below.refl _ _).alloc (Nat.le_refl _) _).alloc (by simp) _).alloc (by simp; omega) _
  have c1 := to_any v h.ks w1 (hr.below b1 (Nat.le_refl _)) hl
  obtain ⟨ao, cap, rfl⟩ := reads_form hr
  have HW : Hid (w1 = ((w.alloc (.cells #[.slice ao h.ks.length cap, .int .i64 h.kd, .int .i64 h.ho, .int .i64 h.tu] 26)).alloc (.cells #[.slice none 0 0, .int .i64 0, .int .i64 0, .int .i64 0] 37)).alloc (.cells #[.slice none 0 0, .int .i64 0, .int .i64 0, .int .i64 0] 37)) := hw1
  have hs1 : w.heap.size + 1 + 1 < w1.heap.size := by omega
  clear hw1 hr hl hsz
  unfold HV
  unfold hdA at p0
  conv in hdA => unfold hdA
  go_enter Tryz.func20, Tryz.ntmps20
  go_wp2_with fail
  rw [← HW.out]
  clear HW
  refine c1.mono ?_
  rintro e w3 ⟨u, rfl, o3, b3⟩
  replace p0 := p0.below b3
  replace q0 := q0.below b3
  replace r0 := r0.below b3
  have hs3 := b3.size
  have B3 := b1.trans (b3.mono b1.size)
  obtain ⟨ab, cb, rfl⟩ := reads_form o3.reads
  have k1 : w3.cell? ⟨w.heap.size, 1, none⟩ = some (.int .i64 h.kd) := p0.cell 1 rfl
  have k2 : w3.cell? ⟨w.heap.size, 2, none⟩ = some (.int .i64 h.ho) := p0.cell 2 rfl
  have k3 : w3.cell? ⟨w.heap.size, 3, none⟩ = some (.int .i64 h.tu) := p0.cell 3 rfl
  have m0 : w3.cell? ⟨w.heap.size + 1 + 1, 0, none⟩ = some (.slice none 0 0) := r0.cell 0 rfl
  have m1 : w3.cell? ⟨w.heap.size + 1 + 1, 1, none⟩ = some (.int .i64 0) := r0.cell 1 rfl
  have m2 : w3.cell? ⟨w.heap.size + 1 + 1, 2, none⟩ = some (.int .i64 0) := r0.cell 2 rfl
  have m3 : w3.cell? ⟨w.heap.size + 1 + 1, 3, none⟩ = some (.int .i64 0) := r0.cell 3 rfl
  have f0 := r0.frozen 0
  have f1 := r0.frozen 1
  have f2 := r0.frozen 2
  have f3 := r0.frozen 3
  have HP : Hid (StB w3 (w.heap.size + 1) 37 #[.slice none 0 0, .int .i64 0, .int .i64 0, .int .i64 0] ∧ StB w3 (w.heap.size + 1 + 1) 37 #[.slice none 0 0, .int .i64 0, .int .i64 0, .int .i64 0] ∧ Own w3 w1.heap.size (.slice ab h.ks.length cb) h.ks ∧ Below w.heap.size w w3) := ⟨q0, r0, o3, B3⟩
  clear p0 q0 r0 o3 b3 b1 c1 B3
  have hn1 : w.heap.size ≠ w.heap.size + 1 := by omega
  have hn2 : w.heap.size ≠ w.heap.size + 1 + 1 := by omega
  have hn3 : w.heap.size + 1 ≠ w.heap.size + 1 + 1 := by omega
  have hg0 : w.heap.size ≤ w.heap.size + 1 ∧ w.heap.size ≤ w.heap.size + 1 + 1 ∧ w.heap.size + 1 < w1.heap.size ∧ w.heap.size ≤ w1.heap.size := by omega
  have hlt2 : w.heap.size + 1 + 1 < w3.heap.size := HP.out.2.1.lt
  have hlt0 : w.heap.size < w3.heap.size := by omega
  obtain ⟨g2, hg2⟩ : ∃ g2, g2 = w.heap.size + 1 + 1 := ⟨_, rfl⟩
  rw [← hg2] at hn2 hn3 hg0 m0 m1 m2 m3 f0 f1 f2 f3 HP hs1 hlt2 ⊢
  clear hg2
  obtain ⟨g1, hg1⟩ : ∃ g1, g1 = w.heap.size + 1 := ⟨_, rfl⟩
  rw [← hg1] at hn1 hn3 hg0 HP ⊢
  clear hg1
  have Q4 : StB ((((w3.setCell ⟨g2, 0, none⟩ (.slice ab h.ks.length cb)).setCell ⟨g2, 1, none⟩ (.int .i64 h.kd)).setCell ⟨g2, 2, none⟩ (.int .i64 h.ho)).setCell ⟨g2, 3, none⟩ (.int .i64 h.tu)) g2 37 (hdA (.slice ab h.ks.length cb) h) := (((HP.out.2.1.put 0 _ rfl).put 1 _ rfl).put 2 _ rfl).put 3 _ rfl
  have R4 : StB ((((w3.setCell ⟨g2, 0, none⟩ (.slice ab h.ks.length cb)).setCell ⟨g2, 1, none⟩ (.int .i64 h.kd)).setCell ⟨g2, 2, none⟩ (.int .i64 h.ho)).setCell ⟨g2, 3, none⟩ (.int .i64 h.tu)) g1 37 #[.slice none 0 0, .int .i64 0, .int .i64 0, .int .i64 0] := (((HP.out.1.other _ _ hn3).other _ _ hn3).other _ _ hn3).other _ _ hn3
  have O4 : Hid (Own ((((w3.setCell ⟨g2, 0, none⟩ (.slice ab h.ks.length cb)).setCell ⟨g2, 1, none⟩ (.int .i64 h.kd)).setCell ⟨g2, 2, none⟩ (.int .i64 h.ho)).setCell ⟨g2, 3, none⟩ (.int .i64 h.tu)) w1.heap.size (.slice ab h.ks.length cb) h.ks ∧ Below w.heap.size w ((((w3.setCell ⟨g2, 0, none⟩ (.slice ab h.ks.length cb)).setCell ⟨g2, 1, none⟩ (.int .i64 h.kd)).setCell ⟨g2, 2, none⟩ (.int .i64 h.ho)).setCell ⟨g2, 3, none⟩ (.int .i64 h.tu))) := ⟨(((HP.out.2.2.1.setLt hs1 0 _).setLt hs1 1 _).setLt hs1 2 _).setLt hs1 3 _, (((HP.out.2.2.2.setCell (show w.heap.size ≤ g2 from hg0.2.1) _).setCell (show w.heap.size ≤ g2 from hg0.2.1) _).setCell (show w.heap.size ≤ g2 from hg0.2.1) _).setCell (show w.heap.size ≤ g2 from hg0.2.1) _⟩
  clear HP
  go_upto_region 6 with fail
  obtain ⟨w4, hw4⟩ : ∃ w4, w4 = ((((w3.setCell ⟨g2, 0, none⟩ (.slice ab h.ks.length cb)).setCell ⟨g2, 1, none⟩ (.int .i64 h.kd)).setCell ⟨g2, 2, none⟩ (.int .i64 h.ho)).setCell ⟨g2, 3, none⟩ (.int .i64 h.tu)) := ⟨_, rfl⟩
  rw [← hw4] at Q4 R4 O4 ⊢
  clear hw4 k1 k2 k3 m0 m1 m2 m3 f0 f1 f2 f3
  go_wp2_with (first | (refine wpList_getS Tryz.isH rfl _ rfl g2 rfl (hdA (.slice ab h.ks.length cb) h) rfl Q4 ?_) | (refine wpList_putS Tryz.isH rfl _ _ rfl g1 (hdA (.slice ab h.ks.length cb) h) #[.slice none 0 0, .int .i64 0, .int .i64 0, .int .i64 0] rfl rfl rfl rfl (hdA_one h rfl) R4 ?_; intro w8 s8 g8))
  refine bodyPost_ret (results_S Tryz.isH rfl _ _ g1 _ rfl rfl s8) rfl ?_
  exact ⟨_, rfl, (O4.out.1.keptLt g8 (by omega)).mono (by omega), O4.out.2.grown g8 O4.out.2.size (fun k e => by cases e; omega)⟩

set_option maxRecDepth 20000 in
set_option maxHeartbeats 1000000 in
theorem eqHolding_any (u v : Value) (h : Hd) (w : World) (hu : Reads w u h.ks) (hv : Reads w v h.ks) (hl : h.ks.length ≤ 1099511627776) :
    Calls Tryz.prog 31 #[HV u h, HV v h] w fun e w' => e = .returned (.bool true) ∧ Below w.heap.size w w' := by
  obtain ⟨w1, hw1⟩ : ∃ w1, w1 = (w.alloc (.cells (hdA u h) 37)).alloc (.cells (hdA v h) 37) := ⟨_, rfl⟩
  have p0 : StB w1 w.heap.size 37 (hdA u h) := by rw [hw1]; exact (StB.new w _ _).alloc _
  have p1 : StB w1 (w.heap.size + 1) 37 (hdA v h) := by
    rw [hw1]
    have := StB.new (w.alloc (.cells (hdA u h) 37)) 37 (hdA v h)
    rwa [World.size_alloc] at this
  have b1 : Below w.heap.size w w1 := by rw [hw1]; exact ((Below.refl _ _).alloc (Nat.le_refl _) _).alloc (by simp) _
  have c1 := eq_any u v h.ks h.ks w1 (hu.below b1 (Nat.le_refl _)) (hv.below b1 (Nat.le_refl _)) hl
  rw [show decide (h.ks = h.ks) = true by simp] at c1
  obtain ⟨ao, ca, rfl⟩ := reads_form hu
  obtain ⟨bo, cb, rfl⟩ := reads_form hv
  have HW : Hid (w1 = (w.alloc (.cells #[.slice ao h.ks.length ca, .int .i64 h.kd, .int .i64 h.ho, .int .i64 h.tu] 37)).alloc (.cells #[.slice bo h.ks.length cb, .int .i64 h.kd, .int .i64 h.ho, .int .i64 h.tu] 37)) := hw1
  clear hw1 hu hv hl
  unfold HV hdA
  go_enter Tryz.func31, Tryz.ntmps31
  go_wp2_with fail
  rw [← HW.out]
  clear HW
  refine c1.mono ?_
  rintro e w3 ⟨rfl, n3, hw3⟩
  replace p0 : StB w3 w.heap.size 37 (hdA (.slice ao h.ks.length ca) h) := by rw [hw3]; exact p0
  replace p1 : StB w3 (w.heap.size + 1) 37 (hdA (.slice bo h.ks.length cb) h) := by rw [hw3]; exact p1
  have B3 : Below w.heap.size w w3 := by rw [hw3]; exact below_drewN b1 n3
  clear hw3 c1 b1
  have k1 : w3.cell? ⟨w.heap.size, 1, none⟩ = some (.int .i64 h.kd) := p0.cell 1 rfl
  have k2 : w3.cell? ⟨w.heap.size, 2, none⟩ = some (.int .i64 h.ho) := p0.cell 2 rfl
  have k3 : w3.cell? ⟨w.heap.size, 3, none⟩ = some (.int .i64 h.tu) := p0.cell 3 rfl
  have m1 : w3.cell? ⟨w.heap.size + 1, 1, none⟩ = some (.int .i64 h.kd) := p1.cell 1 rfl
  have m2 : w3.cell? ⟨w.heap.size + 1, 2, none⟩ = some (.int .i64 h.ho) := p1.cell 2 rfl
  have m3 : w3.cell? ⟨w.heap.size + 1, 3, none⟩ = some (.int .i64 h.tu) := p1.cell 3 rfl
  clear p0 p1
  go_wp2
  go_ret
  exact ⟨rfl, B3⟩

set_option maxRecDepth 20000 in
set_option maxHeartbeats 1000000 in
theorem markHolding_any (v : Value) (h : Hd) (k : Int) (w : World) (base : Nat) (ho : Own w base v h.ks) (hl : h.ks.length ≤ 1048576) (h0 : 0 ≤ k) (h1 : k ≤ 4194304) :
    Calls Tryz.prog 36 #[HV v h, .int .i64 k] w fun e w' => e = .returned (.int .i64 (k + h.ks.length)) ∧ Own w' base v (marks k h.ks.length) ∧ w.grownBy w' v.ownBlock := by
  have B1 : Below w.heap.size w (w.alloc (.cells (hdA v h) 37)) := (Below.refl _ _).alloc (Nat.le_refl _) _
  have G1 : w.grownBy (w.alloc (.cells (hdA v h) 37)) v.ownBlock := World.grownBy_alloc w _ _
  have c1 := mark_any v h.ks k _ base (ho.below B1) (by omega) h0 (by omega)
  obtain ⟨ao, cap, rfl⟩ := reads_form ho.reads
  have hl' : (h.ks.length : Int) ≤ 1048576 := by omega
  clear ho hl
  unfold HV hdA at *
  go_enter Tryz.func36, Tryz.ntmps36
  go_wp2_with fail
  refine c1.mono ?_
  rintro e w2 ⟨rfl, o2, g2⟩
  have HC : Hid (Own w2 base (.slice ao h.ks.length cap) (marks k h.ks.length) ∧ w.grownBy w2 (Value.slice ao h.ks.length cap).ownBlock) := ⟨o2, G1.trans g2⟩
  clear o2 g2 G1 B1 c1
  go_wp2
  go_ret
  exact ⟨rfl, HC.out⟩

set_option maxRecDepth 20000 in
set_option maxHeartbeats 1000000 in
theorem heldHolding_any (v : Value) (h : Hd) (n : Nat) (k : Int) (w : World) (hn : n = h.ks.length) (hr : Reads w v (marks k n)) (hl : n ≤ 1048576) (h0 : 0 ≤ k) (h1 : k ≤ 4194304) :
    Calls Tryz.prog 40 #[HV v h, .int .i64 k] w fun e w' => e = .returned (.int .i64 (k + n)) ∧ Below w.heap.size w w' := by
  have B1 : Below w.heap.size w (w.alloc (.cells (hdA v h) 37)) := (Below.refl _ _).alloc (Nat.le_refl _) _
  have c1 := held_marks v n k _ (hr.below B1 (Nat.le_refl _)) (by omega) h0 (by omega)
  obtain ⟨ao, cap, rfl⟩ := reads_form hr
  have hl' : (n : Int) ≤ 1048576 := by omega
  clear hr hl hn
  unfold HV hdA at *
  go_enter Tryz.func40, Tryz.ntmps40
  go_wp2_with fail
  refine c1.mono ?_
  rintro e w' ⟨rfl, hw⟩; subst w'
  go_wp2
  go_ret
  exact ⟨rfl, B1⟩
end Go.Proofs.YtlkkpolnllbljaaGreatDoor
/- The model's hands on a holding of its own, behind a pointer: l9Turn, l9Free, l9Take, l9Register, l9Reserve, l9Release, l9Clear; l8Copy. -/
namespace Go.Proofs.YtlkkpolnllbljaaGreatDoor
open Go.ChangeShapes Go.WideShapes Go.ChangeAt Go.RowKit

/- Block g holds the holding h, block q its four keys, both new since there were 'base' blocks. -/
def PQ (w : World) (base g q cap : Nat) (h : Hd) : Prop :=
  StB w g 37 (hdA (.slice (some ⟨q, 0, none⟩) 4 cap) h) ∧ Own w base (.slice (some ⟨q, 0, none⟩) 4 cap) h.ks ∧ (g ≠ q ∧ base ≤ g ∧ base ≤ q ∧ h.ks.length = 4)
def PB (w : World) (base g : Nat) (h : Hd) : Prop := ∃ q cap, PQ w base g q cap h
theorem PQ.put {w : World} {base g q cap : Nat} {h : Hd} (d : PQ w base g q cap h) (j : Nat) (x : Int) (f : Hd) (hk : f.ks = h.ks) (e : (hdA (.slice (some ⟨q, 0, none⟩) 4 cap) h).setIfInBounds j (.int .i64 x) = hdA (.slice (some ⟨q, 0, none⟩) 4 cap) f) :
    PQ (w.setCell ⟨g, j, none⟩ (.int .i64 x)) base g q cap f ∧ Below base w (w.setCell ⟨g, j, none⟩ (.int .i64 x)) := by
  obtain ⟨h1, h2, h3⟩ := d
  have G := grownSet w g j (.int .i64 x)
  refine ⟨⟨h1.put j _ e, ?_, ?_⟩, (Below.refl base w).setCell h3.2.1 _⟩
  · rw [hk]; exact h2.kept G (.inr (by intro e; have : q = g := Option.some.inj e; omega))
  · rw [hk]; exact h3
theorem PQ.key {w : World} {base g q cap : Nat} {h : Hd} (d : PQ w base g q cap h) (j : Nat) (hj : j < 4) (x : Int) :
    w.frozen? ⟨q, j, none⟩ = false ∧ w.cell? ⟨q, j, none⟩ = some (.int .i64 (h.ks.getD j 0)) ∧ PQ (w.setCell ⟨q, j, none⟩ (.int .i64 x)) base g q cap ⟨h.ks.set j x, h.kd, h.ho, h.tu⟩ ∧ Below base w (w.setCell ⟨q, j, none⟩ (.int .i64 x)) := by
  obtain ⟨h1, h2, h3⟩ := d
  obtain ⟨f, -, o⟩ := h2.put h3.2.2.2.symm j hj x
  have G := grownSet w q j (.int .i64 x)
  obtain ⟨-, -, -, hc⟩ := reads_cells h2.reads
  obtain ⟨b, off, e, hcell⟩ := hc j hj
  simp only [Option.some.injEq, Addr.mk.injEq] at e
  obtain ⟨rfl, rfl, -⟩ := e
  rw [Nat.zero_add] at hcell
  refine ⟨f, hcell, ⟨h1.kept G ?_, o, ?_⟩, (Below.refl base w).setCell h3.2.2.1 _⟩
  · intro e; have := Option.some.inj e; omega
  · simpa using h3
theorem PQ.below {w w' : World} {base g q cap : Nat} {h : Hd} (d : PQ w base g q cap h) (b : Below w.heap.size w w') : PQ w' base g q cap h :=
  ⟨d.1.below b, d.2.1.below b, d.2.2⟩
theorem PQ.lt {w : World} {base g q cap : Nat} {h : Hd} (d : PQ w base g q cap h) : base ≤ w.heap.size := by
  have := d.1.lt; have := d.2.2.2.1; omega
theorem PB.below {w w' : World} {base g : Nat} {h : Hd} (d : PB w base g h) (b : Below w.heap.size w w') : PB w' base g h := by
  obtain ⟨q, cap, d⟩ := d
  exact ⟨q, cap, d.below b⟩

theorem PB.lt {w : World} {base g : Nat} {h : Hd} (d : PB w base g h) : base ≤ w.heap.size := by
  obtain ⟨q, cap, d⟩ := d
  exact d.lt

set_option maxRecDepth 20000 in
set_option maxHeartbeats 400000 in
theorem s9turn_any (base g : Nat) (h : Hd) (w : World) (d : PB w base g h) (h0 : 0 ≤ h.tu) (h1 : h.tu ≤ 1000000000) :
    Calls Tryz.prog 176 #[.pointer (some ⟨g, 0, none⟩)] w fun e w' => e = .returned (.tuple #[]) ∧ PB w' base g h.turn ∧ Below base w w' := by
  obtain ⟨q, cap, d⟩ := d
  have k3 : w.cell? ⟨g, 3, none⟩ = some (.int .i64 h.tu) := d.1.cell 3 rfl
  have f3 := d.1.frozen 3
  have P1 := d.put 3 (h.tu + 1) ⟨h.ks, h.kd, h.ho, h.tu + 1⟩ rfl rfl
  have hwr : IntKind.i64.wrap (h.tu + 1) = h.tu + 1 := by rw [IntKind.wrap_i64]; omega
  by_cases hb : 1000000000 < h.tu + 1
  · have P2 := P1.1.put 3 0 ⟨h.ks, h.kd, h.ho, 0⟩ rfl rfl
    have HP : Hid (PB ((w.setCell ⟨g, 3, none⟩ (.int .i64 (h.tu + 1))).setCell ⟨g, 3, none⟩ (.int .i64 0)) base g h.turn ∧ Below base w ((w.setCell ⟨g, 3, none⟩ (.int .i64 (h.tu + 1))).setCell ⟨g, 3, none⟩ (.int .i64 0))) := by
      refine ⟨⟨q, cap, ?_⟩, P1.2.trans P2.2⟩
      have e : h.turn = ⟨h.ks, h.kd, h.ho, 0⟩ := by simp [Hd.turn, turnI, hb]
      rw [e]; exact P2.1
    have k4 : (w.setCell ⟨g, 3, none⟩ (.int .i64 (h.tu + 1))).cell? ⟨g, 3, none⟩ = some (.int .i64 (h.tu + 1)) := P1.1.1.cell 3 rfl
    clear P1 P2 d
    go_enter Tryz.func176, Tryz.ntmps176
    go_wp2
    go_end0
    exact ⟨rfl, HP.out⟩
  · have HP : Hid (PB (w.setCell ⟨g, 3, none⟩ (.int .i64 (h.tu + 1))) base g h.turn ∧ Below base w (w.setCell ⟨g, 3, none⟩ (.int .i64 (h.tu + 1)))) := by
      refine ⟨⟨q, cap, ?_⟩, P1.2⟩
      have e : h.turn = ⟨h.ks, h.kd, h.ho, h.tu + 1⟩ := by simp [Hd.turn, turnI, hb]
      rw [e]; exact P1.1
    clear P1 d
    go_enter Tryz.func176, Tryz.ntmps176
    go_wp2
    go_end0
    exact ⟨rfl, HP.out⟩

set_option maxRecDepth 20000 in
set_option maxHeartbeats 400000 in
theorem s9free_any (base g : Nat) (h : Hd) (w : World) (d : PB w base g h) :
    Calls Tryz.prog 177 #[.pointer (some ⟨g, 0, none⟩)] w fun e w' => e = .returned (.tuple #[]) ∧ PB w' base g h.free ∧ Below base w w' := by
  obtain ⟨q, cap, d⟩ := d
  have k1 : w.cell? ⟨g, 1, none⟩ = some (.int .i64 h.kd) := d.1.cell 1 rfl
  have f1 := d.1.frozen 1
  have k2 : w.cell? ⟨g, 2, none⟩ = some (.int .i64 h.ho) := d.1.cell 2 rfl
  have f2 := d.1.frozen 2
  have P1 := d.put 1 0 ⟨h.ks, 0, h.ho, h.tu⟩ rfl rfl
  have P2 := P1.1.put 2 (-1) h.free rfl rfl
  have HP : Hid (PB ((w.setCell ⟨g, 1, none⟩ (.int .i64 0)).setCell ⟨g, 2, none⟩ (.int .i64 (-1))) base g h.free ∧ Below base w ((w.setCell ⟨g, 1, none⟩ (.int .i64 0)).setCell ⟨g, 2, none⟩ (.int .i64 (-1)))) := ⟨⟨q, cap, P2.1⟩, P1.2.trans P2.2⟩
  clear P1 P2 d
  go_enter Tryz.func177, Tryz.ntmps177
  go_wp2
  go_end0
  exact ⟨rfl, HP.out⟩

set_option maxRecDepth 20000 in
set_option maxHeartbeats 400000 in
theorem s9take_any (base g : Nat) (h : Hd) (i k : Int) (w : World) (d : PB w base g h) :
    Calls Tryz.prog 178 #[.pointer (some ⟨g, 0, none⟩), .int .i64 i, .int .i64 k] w fun e w' => e = .returned (.tuple #[]) ∧ PB w' base g (h.take i k) ∧ Below base w w' := by
  obtain ⟨q, cap, d⟩ := d
  have k1 : w.cell? ⟨g, 1, none⟩ = some (.int .i64 h.kd) := d.1.cell 1 rfl
  have f1 := d.1.frozen 1
  have k2 : w.cell? ⟨g, 2, none⟩ = some (.int .i64 h.ho) := d.1.cell 2 rfl
  have f2 := d.1.frozen 2
  have P1 := d.put 1 k ⟨h.ks, k, h.ho, h.tu⟩ rfl rfl
  have P2 := P1.1.put 2 i ⟨h.ks, k, i, h.tu⟩ rfl rfl
  obtain ⟨w2, hw2⟩ : ∃ w2, w2 = (w.setCell ⟨g, 1, none⟩ (.int .i64 k)).setCell ⟨g, 2, none⟩ (.int .i64 i) := ⟨_, rfl⟩
  rw [← hw2] at P2
  have k3 : w2.cell? ⟨g, 2, none⟩ = some (.int .i64 i) := P2.1.1.cell 2 rfl
  have f3 := P2.1.1.frozen 2
  have P3 := P2.1.put 2 (-1) ⟨h.ks, k, -1, h.tu⟩ rfl rfl
  have c1 := sall_any k w2
  cases ha : allI k with
  | true =>
    have e : h.take i k = ⟨h.ks, k, -1, h.tu⟩ := by simp [Hd.take, ha]
    rw [e]
    rw [ha] at c1
    have HP : Hid (PB (w2.setCell ⟨g, 2, none⟩ (.int .i64 (-1))) base g ⟨h.ks, k, -1, h.tu⟩ ∧ Below base w (w2.setCell ⟨g, 2, none⟩ (.int .i64 (-1)))) := ⟨⟨q, cap, P3.1⟩, (P1.2.trans P2.2).trans P3.2⟩
    clear P1 P2 P3 d e ha
    go_enter Tryz.func178, Tryz.ntmps178
    go_wp2_with fail
    rw [← hw2]
    clear hw2 k1 f1 k2 f2
    refine c1.mono ?_
    rintro e w' ⟨rfl, hw'⟩; subst w'
    go_wp2
    go_end0
    exact ⟨rfl, HP.out⟩
  | false =>
    have e : h.take i k = ⟨h.ks, k, i, h.tu⟩ := by simp [Hd.take, ha]
    rw [e]
    rw [ha] at c1
    have HP : Hid (PB w2 base g ⟨h.ks, k, i, h.tu⟩ ∧ Below base w w2) := ⟨⟨q, cap, P2.1⟩, P1.2.trans P2.2⟩
    clear P1 P2 P3 d e ha
    go_enter Tryz.func178, Tryz.ntmps178
    go_wp2_with fail
    rw [← hw2]
    clear hw2 k1 f1 k2 f2
    refine c1.mono ?_
    rintro e w' ⟨rfl, hw'⟩; subst w'
    go_wp2
    go_end0
    exact ⟨rfl, HP.out⟩

set_option maxRecDepth 20000 in
set_option maxHeartbeats 1000000 in
theorem s9register_any (base g : Nat) (h : Hd) (i key : Int) (w : World) (d : PB w base g h) (t0 : 0 ≤ h.tu) (t1 : h.tu ≤ 1000000000) (i0 : 0 ≤ i) (i1 : i < 4) :
    Calls Tryz.prog 134 #[.pointer (some ⟨g, 0, none⟩), .int .i64 i, .int .i64 key] w fun e w' => e = .returned (.tuple #[]) ∧ PB w' base g (h.regd i key) ∧ Below base w w' := by
  obtain ⟨q, cap, d⟩ := d
  have k0 : w.cell? ⟨g, 0, none⟩ = some (.slice (some ⟨q, 0, none⟩) 4 cap) := d.1.cell 0 rfl
  obtain ⟨fk, ck, PK, BK⟩ := d.key i.toNat (by omega) key
  have c1 := s9turn_any base g (h.key i key) _ ⟨q, cap, PK⟩ t0 t1
  have HE : Hid (h.regd i key = if key = 0 ∧ (h.ho = i ∨ anyI (h.ks.set i.toNat key) = false) then ((h.key i key).turn).free else (h.key i key).turn) := rfl
  obtain ⟨h1, e1⟩ : ∃ h1, h1 = (h.key i key).turn := ⟨_, rfl⟩
  rw [← e1] at c1 HE
  have eho : h1.ho = h.ho := by rw [e1]; rfl
  have eks : h1.ks = h.ks.set i.toNat key := by rw [e1]; rfl
  rw [← eho, ← eks] at HE
  have HB : Hid (Below base w (w.setCell ⟨q, i.toNat, none⟩ (.int .i64 key))) := BK
  clear PK BK d e1 eho eks t0 t1
  obtain ⟨r, hr⟩ : ∃ r, r = h.regd i key := ⟨_, rfl⟩
  rw [← hr] at HE ⊢
  clear hr
  go_enter Tryz.func134, Tryz.ntmps134
  go_wp2_with fail
  refine c1.mono ?_
  rintro e w1 ⟨rfl, P1, B1⟩
  replace HB : Hid (Below base w w1) := HB.out.trans B1
  clear c1 B1 k0 fk ck
  have cf := s9free_any base g h1
  have HP : Hid (PB w1 base g h1) := P1
  obtain ⟨q1, cap1, d1⟩ := P1
  have k0 : w1.cell? ⟨g, 0, none⟩ = some (.slice (some ⟨q1, 0, none⟩) 4 cap1) := d1.1.cell 0 rfl
  have k1 : w1.cell? ⟨g, 1, none⟩ = some (.int .i64 h1.kd) := d1.1.cell 1 rfl
  have k2 : w1.cell? ⟨g, 2, none⟩ = some (.int .i64 h1.ho) := d1.1.cell 2 rfl
  have k3 : w1.cell? ⟨g, 3, none⟩ = some (.int .i64 h1.tu) := d1.1.cell 3 rfl
  have ca := s8any_any _ h1 w1 d1.2.1.reads (by have := d1.2.2.2.2.2; omega)
  unfold HV hdA at ca
  clear d1
  by_cases hk : key = 0
  · by_cases hh : h1.ho = i
    · have HR : Hid (r = h1.free) := by rw [Hid, HE.out, if_pos ⟨hk, .inl hh⟩]
      clear ca HE
      subst hk
      go_wp2_with fail
      refine (cf _ HP.out).mono ?_
      rintro e w2 ⟨rfl, P2, B2⟩
      go_wp2
      go_end0
      exact ⟨rfl, by rw [HR.out]; exact P2, HB.out.trans B2⟩
    · cases hn : anyI h1.ks with
      | false =>
        have HR : Hid (r = h1.free) := by rw [Hid, HE.out, if_pos ⟨hk, .inr hn⟩]
        rw [hn] at ca
        clear HE hn
        subst hk
        go_wp2_with fail
        refine ca.mono ?_
        rintro e w2 ⟨rfl, b2⟩
        replace HB : Hid (Below base w w2) := HB.out.trans (b2.mono HP.out.lt)
        replace HP : Hid (PB w2 base g h1) := HP.out.below b2
        clear b2 k0 k1 k2 k3
        go_wp2_with fail
        refine (cf _ HP.out).mono ?_
        rintro e w3 ⟨rfl, P3, B3⟩
        go_wp2
        go_end0
        exact ⟨rfl, by rw [HR.out]; exact P3, HB.out.trans B3⟩
      | true =>
        have HR : Hid (r = h1) := by rw [Hid, HE.out, if_neg (by simp [hh, hn])]
        rw [hn] at ca
        clear HE hn cf
        subst hk
        go_wp2_with fail
        refine ca.mono ?_
        rintro e w2 ⟨rfl, b2⟩
        have HQ : Hid (PB w2 base g h1 ∧ Below base w w2) := ⟨HP.out.below b2, HB.out.trans (b2.mono HP.out.lt)⟩
        clear b2 k0 k1 k2 k3 HP HB
        go_wp2
        go_end0
        exact ⟨rfl, by rw [HR.out]; exact HQ.out.1, HQ.out.2⟩
  · have HR : Hid (r = h1) := by rw [Hid, HE.out, if_neg (fun c => hk c.1)]
    have HQ : Hid (PB w1 base g h1 ∧ Below base w w1) := ⟨HP.out, HB.out⟩
    clear ca HE cf HP HB
    go_wp2
    go_end0
    exact ⟨rfl, by rw [HR.out]; exact HQ.out.1, HQ.out.2⟩
end Go.Proofs.YtlkkpolnllbljaaGreatDoor
