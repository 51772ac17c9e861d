/- The model's Register, Reserve, Release and Clear. -/
import Derived.Test.YtlkkpolnllbljaaGreatDoorM10
import Derived.Test.YtlkkpolnllbljaaGreatDoorM3
import Derived.Deep.RegionHeld3
import Derived.Test.YtlkkpolnllbljaaGreatDoorM8
namespace Go.Proofs.YtlkkpolnllbljaaGreatDoor
open Go.ChangeShapes Go.WideShapes Go.ChangeAt Go.RowKit

/- The parameter in its box, the answer's block behind it. -/
def Bx (w wx : World) (v : Value) (h : Hd) : Prop := StB wx w.heap.size 37 (hdA v h) ∧ StB wx (w.heap.size + 1) 37 #[.slice none 0 0, .int .i64 0, .int .i64 0, .int .i64 0] ∧ Below w.heap.size w wx ∧ w.heap.size + 2 ≤ wx.heap.size ∧ Reads wx v h.ks
theorem Bx.start {w : World} {v : Value} {h : Hd} (hr : Reads w v h.ks) : Bx w ((w.alloc (.cells (hdA v h) 37)).alloc (.cells #[.slice none 0 0, .int .i64 0, .int .i64 0, .int .i64 0] 37)) v h := by
  have b1 : Below w.heap.size w (w.alloc (.cells (hdA v h) 37)) := (Below.refl _ _).alloc (Nat.le_refl _) _
  have b2 : Below w.heap.size w ((w.alloc (.cells (hdA v h) 37)).alloc (.cells #[.slice none 0 0, .int .i64 0, .int .i64 0, .int .i64 0] 37)) := b1.alloc (by simp) _
  refine ⟨(StB.new w _ _).alloc _, ?_, b2, by simp, hr.below b2 (Nat.le_refl _)⟩
  have := StB.new (w.alloc (.cells (hdA v h) 37)) 37 #[.slice none 0 0, .int .i64 0, .int .i64 0, .int .i64 0]
  rwa [World.size_alloc] at this
theorem Bx.next {w wx wy : World} {v : Value} {h : Hd} (d : Bx w wx v h) (b : Below wx.heap.size wx wy) : Bx w wy v h :=
  ⟨d.1.below b, d.2.1.below b, d.2.2.1.trans (b.mono d.2.2.1.size), Nat.le_trans d.2.2.2.1 b.size, d.2.2.2.2.below b (Nat.le_refl _)⟩

set_option maxRecDepth 20000 in
set_option maxHeartbeats 1000000 in
theorem s8copy_any (v : Value) (h : Hd) (w : World) (hr : Reads w v h.ks) (hl : h.ks.length ≤ 1099511627776) :
    Calls Tryz.prog 52 #[HV v h] w fun e w' => ∃ u, e = .returned (HV u h) ∧ Own w' w.heap.size u h.ks ∧ Below w.heap.size w w' := by
  obtain ⟨ao, cap, rfl⟩ := reads_form hr
  obtain ⟨w1, hw1⟩ : ∃ w1, w1 = (w.alloc (.cells (hdA (.slice ao h.ks.length cap) h) 37)).alloc (.cells #[.slice none 0 0, .int .i64 0, .int .i64 0, .int .i64 0] 37) := ⟨_, rfl⟩
  have HB : Hid (Bx w w1 (.slice ao h.ks.length cap) h) := by rw [hw1]; exact Bx.start hr
  have c1 := copy_any (.slice ao h.ks.length cap) h.ks w1 HB.out.2.2.2.2 hl
  have HW : Hid (w1 = (w.alloc (.cells #[.slice ao h.ks.length cap, .int .i64 h.kd, .int .i64 h.ho, .int .i64 h.tu] 37)).alloc (.cells #[.slice none 0 0, .int .i64 0, .int .i64 0, .int .i64 0] 37)) := hw1
  clear hw1 hr hl
  unfold HV
  conv in hdA (.slice ao h.ks.length cap) h => unfold hdA
  go_enter Tryz.func52, Tryz.ntmps52
  go_wp2_with fail
  rw [← HW.out]
  clear HW
  refine c1.mono ?_
  rintro e w2 ⟨u, rfl, o2, b2⟩
  have D2 : Bx w w2 (.slice ao h.ks.length cap) h := HB.out.next b2
  obtain ⟨ab, cb, rfl⟩ := reads_form o2.reads
  have k0 : w2.cell? ⟨w.heap.size, 0, none⟩ = some (.slice ao h.ks.length cap) := D2.1.cell 0 rfl
  have f0 := D2.1.frozen 0
  have G := grownSet w2 w.heap.size 0 (.slice ab h.ks.length cb)
  have zq : StB (w2.setCell ⟨w.heap.size, 0, none⟩ (.slice ab h.ks.length cb)) w.heap.size 37 (hdA (.slice ab h.ks.length cb) h) := D2.1.put 0 _ rfl
  have zz : StB (w2.setCell ⟨w.heap.size, 0, none⟩ (.slice ab h.ks.length cb)) (w.heap.size + 1) 37 #[.slice none 0 0, .int .i64 0, .int .i64 0, .int .i64 0] := D2.2.1.kept G (by intro e; have := Option.some.inj e; omega)
  have HF : Hid (Own (w2.setCell ⟨w.heap.size, 0, none⟩ (.slice ab h.ks.length cb)) w1.heap.size (.slice ab h.ks.length cb) h.ks ∧ Below w.heap.size w (w2.setCell ⟨w.heap.size, 0, none⟩ (.slice ab h.ks.length cb)) ∧ w.heap.size + 2 ≤ w1.heap.size) := by
    refine ⟨o2.keptLt G (by have := HB.out.2.2.2.1; omega), D2.2.2.1.setCell (Nat.le_refl _) _, HB.out.2.2.2.1⟩
  clear D2 G o2 b2 HB c1
  go_wp2_with (first | (refine wpList_getS Tryz.isH rfl _ rfl w.heap.size rfl (hdA (.slice ab h.ks.length cb) h) rfl zq ?_) | (refine wpList_putS Tryz.isH rfl _ _ rfl (w.heap.size + 1) (hdA (.slice ab h.ks.length cb) h) #[.slice none 0 0, .int .i64 0, .int .i64 0, .int .i64 0] rfl rfl rfl rfl (hdA_one _ rfl) zz ?_; intro we se ge))
  refine bodyPost_ret (results_S Tryz.isH rfl _ _ (w.heap.size + 1) _ rfl rfl se) rfl ?_
  exact ⟨_, rfl, (HF.out.1.keptLt ge (by have := HF.out.2.2; omega)).mono (by have := HF.out.2.2; omega), HF.out.2.1.grown ge HF.out.2.1.size (fun x e => by cases e; omega)⟩

set_option maxRecDepth 20000 in
set_option maxHeartbeats 1000000 in
theorem s9reserve_any (base g : Nat) (h : Hd) (i k : Int) (w : World) (d : PB w base g h) (i0 : 0 ≤ i) (i1 : i < 4) :
    Calls Tryz.prog 135 #[.pointer (some ⟨g, 0, none⟩), .int .i64 i, .int .i64 k] w fun e w' => e = .returned (.bool (h.resd i k).2) ∧ PB w' base g (h.resd i k).1 ∧ Below base w w' := by
  have HP : Hid (PB w base g h) := d
  obtain ⟨q1, cap1, d1⟩ := d
  have k0 : w.cell? ⟨g, 0, none⟩ = some (.slice (some ⟨q1, 0, none⟩) 4 cap1) := d1.1.cell 0 rfl
  have k1 : w.cell? ⟨g, 1, none⟩ = some (.int .i64 h.kd) := d1.1.cell 1 rfl
  have k2 : w.cell? ⟨g, 2, none⟩ = some (.int .i64 h.ho) := d1.1.cell 2 rfl
  have k3 : w.cell? ⟨g, 3, none⟩ = some (.int .i64 h.tu) := d1.1.cell 3 rfl
  have cr := s8reg_any _ h i w d1.2.1.reads i0 (by have := d1.2.2.2.2.2; omega)
  obtain ⟨r, HE⟩ : ∃ r, Hid (r = h.resd i k) := ⟨_, rfl⟩
  rw [← HE.out]
  unfold HV hdA at cr
  clear d1
  cases hg : regI h.ks i with
  | false =>
    have HR : Hid (r = (h, false)) := by rw [Hid, HE.out, Hd.resd, if_pos hg]
    rw [hg] at cr
    clear HE hg
    go_enter Tryz.func135, Tryz.ntmps135
    go_wp2_with fail
    refine cr.mono ?_
    rintro e w2 ⟨rfl, b2⟩
    have HQ : Hid (PB w2 base g h ∧ Below base w w2) := ⟨HP.out.below b2, b2.mono HP.out.lt⟩
    clear b2 HP k0 k1 k2 k3 cr
    go_wp2
    go_ret
    exact ⟨by rw [HR.out]; rfl, by rw [HR.out]; exact HQ.out.1, HQ.out.2⟩
  | true =>
    have H1 : Hid (r = if h.kd = 0 then (h.take i k, true) else (h, decide (h.kd = k) && (allI k || decide (h.ho = i)))) := by rw [Hid, HE.out, Hd.resd, if_neg (by rw [hg]; decide)]
    rw [hg] at cr
    have ct := s9take_any base g h i k
    have cf := fun wx => sall_any k wx
    obtain ⟨bf, hbf⟩ : ∃ bf, bf = allI k := ⟨_, rfl⟩
    rw [← hbf] at H1
    simp only [← hbf] at cf
    clear HE hg hbf
    go_enter Tryz.func135, Tryz.ntmps135
    go_wp2_with fail
    refine cr.mono ?_
    rintro e w2 ⟨rfl, b2⟩
    have HB : Hid (Below base w w2) := b2.mono HP.out.lt
    replace HP : Hid (PB w2 base g h) := HP.out.below b2
    clear b2 k0 k1 k2 k3 cr
    obtain ⟨q2, cap2, d2⟩ := HP.out
    have k0 : w2.cell? ⟨g, 0, none⟩ = some (.slice (some ⟨q2, 0, none⟩) 4 cap2) := d2.1.cell 0 rfl
    have k1 : w2.cell? ⟨g, 1, none⟩ = some (.int .i64 h.kd) := d2.1.cell 1 rfl
    have k2 : w2.cell? ⟨g, 2, none⟩ = some (.int .i64 h.ho) := d2.1.cell 2 rfl
    have k3 : w2.cell? ⟨g, 3, none⟩ = some (.int .i64 h.tu) := d2.1.cell 3 rfl
    clear d2
    by_cases hk : h.kd = 0
    · have HR : Hid (r = (h.take i k, true)) := by rw [Hid, H1.out, if_pos hk]
      clear H1 cf
      rw [hk] at k1
      go_wp2_with fail
      refine (ct _ HP.out).mono ?_
      rintro e w3 ⟨rfl, P3, B3⟩
      have HQ : Hid (PB w3 base g (h.take i k) ∧ Below base w w3) := ⟨P3, HB.out.trans B3⟩
      clear P3 B3 HP HB k0 k1 k2 k3 ct hk
      go_wp2
      go_ret
      exact ⟨by rw [HR.out]; rfl, by rw [HR.out]; exact HQ.out.1, HQ.out.2⟩
    · have HR : Hid (r = (h, decide (h.kd = k) && (bf || decide (h.ho = i)))) := by rw [Hid, H1.out, if_neg hk]
      have HQ : Hid (PB w2 base g h ∧ Below base w w2) := ⟨HP.out, HB.out⟩
      clear H1 ct HP HB
      by_cases hkk : h.kd = k
      · have hkb : (h.kd == k) = true := by simp [hkk]
        cases bf with
        | true =>
          have HS : Hid (r = (h, true)) := by rw [Hid, HR.out]; simp [hkk]
          clear HR
          go_wp2_with fail
          refine (cf _).mono ?_
          rintro e w' ⟨rfl, hw'⟩; subst w'
          go_wp2
          go_ret
          exact ⟨by rw [HS.out]; rfl, by rw [HS.out]; exact HQ.out.1, HQ.out.2⟩
        | false =>
          have HS : Hid (r = (h, decide (h.ho = i))) := by rw [Hid, HR.out]; simp [hkk]
          clear HR
          go_wp2_with fail
          refine (cf _).mono ?_
          rintro e w' ⟨rfl, hw'⟩; subst w'
          go_wp2
          go_ret
          exact ⟨ret_bool (by rw [HS.out]; by_cases hh : h.ho = i <;> simp [hh]), by rw [HS.out]; exact HQ.out.1, HQ.out.2⟩
      · have HS : Hid (r = (h, false)) := by rw [Hid, HR.out]; simp [hkk]
        clear HR cf
        go_wp2
        go_ret
        exact ⟨ret_bool (by rw [HS.out]), by rw [HS.out]; exact HQ.out.1, HQ.out.2⟩

set_option maxRecDepth 20000 in
set_option maxHeartbeats 1000000 in
theorem s9release_any (base g : Nat) (h : Hd) (i : Int) (w : World) (d : PB w base g h) (i0 : 0 ≤ i) (i1 : i < 4) :
    Calls Tryz.prog 136 #[.pointer (some ⟨g, 0, none⟩), .int .i64 i] w fun e w' => e = .returned (.bool (h.reld i).2) ∧ PB w' base g (h.reld i).1 ∧ Below base w w' := by
  have HP : Hid (PB w base g h) := d
  obtain ⟨q1, cap1, d1⟩ := d
  have k0 : w.cell? ⟨g, 0, none⟩ = some (.slice (some ⟨q1, 0, none⟩) 4 cap1) := d1.1.cell 0 rfl
  have k1 : w.cell? ⟨g, 1, none⟩ = some (.int .i64 h.kd) := d1.1.cell 1 rfl
  have k2 : w.cell? ⟨g, 2, none⟩ = some (.int .i64 h.ho) := d1.1.cell 2 rfl
  have k3 : w.cell? ⟨g, 3, none⟩ = some (.int .i64 h.tu) := d1.1.cell 3 rfl
  have cr := s8reg_any _ h i w d1.2.1.reads i0 (by have := d1.2.2.2.2.2; omega)
  obtain ⟨r, HE⟩ : ∃ r, Hid (r = h.reld i) := ⟨_, rfl⟩
  rw [← HE.out]
  unfold HV hdA at cr
  clear d1
  cases hg : regI h.ks i with
  | false =>
    have HR : Hid (r = (h, false)) := by rw [Hid, HE.out, Hd.reld, if_pos hg]
    rw [hg] at cr
    clear HE hg
    go_enter Tryz.func136, Tryz.ntmps136
    go_wp2_with fail
    refine cr.mono ?_
    rintro e w2 ⟨rfl, b2⟩
    have HQ : Hid (PB w2 base g h ∧ Below base w w2) := ⟨HP.out.below b2, b2.mono HP.out.lt⟩
    clear b2 HP k0 k1 k2 k3 cr
    go_wp2
    go_ret
    exact ⟨by rw [HR.out]; rfl, by rw [HR.out]; exact HQ.out.1, HQ.out.2⟩
  | true =>
    have H1 : Hid (r = if h.holds i then (h.free, true) else (h, true)) := by rw [Hid, HE.out, Hd.reld, if_neg (by rw [hg]; decide)]
    rw [hg] at cr
    have ct := s9free_any base g h
    clear HE hg
    go_enter Tryz.func136, Tryz.ntmps136
    go_wp2_with fail
    refine cr.mono ?_
    rintro e w2 ⟨rfl, b2⟩
    have HB : Hid (Below base w w2) := b2.mono HP.out.lt
    replace HP : Hid (PB w2 base g h) := HP.out.below b2
    clear b2 k0 k1 k2 k3 cr
    obtain ⟨q2, cap2, d2⟩ := HP.out
    have k0 : w2.cell? ⟨g, 0, none⟩ = some (.slice (some ⟨q2, 0, none⟩) 4 cap2) := d2.1.cell 0 rfl
    have k1 : w2.cell? ⟨g, 1, none⟩ = some (.int .i64 h.kd) := d2.1.cell 1 rfl
    have k2 : w2.cell? ⟨g, 2, none⟩ = some (.int .i64 h.ho) := d2.1.cell 2 rfl
    have k3 : w2.cell? ⟨g, 3, none⟩ = some (.int .i64 h.tu) := d2.1.cell 3 rfl
    have ch := s8holds_any _ h i w2 d2.2.1.reads i0 (by have := d2.2.2.2.2.2; omega)
    unfold HV hdA at ch
    clear d2
    cases hh : h.holds i with
    | true =>
      have HR : Hid (r = (h.free, true)) := by rw [Hid, H1.out, if_pos hh]
      rw [hh] at ch
      clear H1 hh
      go_wp2_with fail
      refine ch.mono ?_
      rintro e w3 ⟨rfl, b3⟩
      replace HB : Hid (Below base w w3) := HB.out.trans (b3.mono HP.out.lt)
      replace HP : Hid (PB w3 base g h) := HP.out.below b3
      clear b3 k0 k1 k2 k3 ch
      go_wp2_with fail
      refine (ct _ HP.out).mono ?_
      rintro e w4 ⟨rfl, P4, B4⟩
      have HQ : Hid (PB w4 base g h.free ∧ Below base w w4) := ⟨P4, HB.out.trans B4⟩
      clear P4 B4 HP HB ct
      go_wp2
      go_ret
      exact ⟨by rw [HR.out]; rfl, by rw [HR.out]; exact HQ.out.1, HQ.out.2⟩
    | false =>
      have HR : Hid (r = (h, true)) := by rw [Hid, H1.out, if_neg (by rw [hh]; decide)]
      rw [hh] at ch
      clear H1 hh ct
      go_wp2_with fail
      refine ch.mono ?_
      rintro e w3 ⟨rfl, b3⟩
      have HQ : Hid (PB w3 base g h ∧ Below base w w3) := ⟨HP.out.below b3, HB.out.trans (b3.mono HP.out.lt)⟩
      clear b3 k0 k1 k2 k3 ch HP HB
      go_wp2
      go_ret
      exact ⟨by rw [HR.out]; rfl, by rw [HR.out]; exact HQ.out.1, HQ.out.2⟩

set_option maxRecDepth 20000 in
set_option maxHeartbeats 1000000 in
theorem s9clear_any (base g : Nat) (h : Hd) (i : Int) (w : World) (d : PB w base g h) (i0 : 0 ≤ i) (i1 : i < 4) (t0 : 0 ≤ h.tu) (t1 : h.tu ≤ 1000000000) :
    Calls Tryz.prog 137 #[.pointer (some ⟨g, 0, none⟩), .int .i64 i] w fun e w' => e = .returned (.bool (h.clrd i).2) ∧ PB w' base g (h.clrd i).1 ∧ Below base w w' := by
  have HP : Hid (PB w base g h) := d
  obtain ⟨q1, cap1, d1⟩ := d
  have k0 : w.cell? ⟨g, 0, none⟩ = some (.slice (some ⟨q1, 0, none⟩) 4 cap1) := d1.1.cell 0 rfl
  have k1 : w.cell? ⟨g, 1, none⟩ = some (.int .i64 h.kd) := d1.1.cell 1 rfl
  have k2 : w.cell? ⟨g, 2, none⟩ = some (.int .i64 h.ho) := d1.1.cell 2 rfl
  have k3 : w.cell? ⟨g, 3, none⟩ = some (.int .i64 h.tu) := d1.1.cell 3 rfl
  have cr := s8reg_any _ h i w d1.2.1.reads i0 (by have := d1.2.2.2.2.2; omega)
  obtain ⟨r, HE⟩ : ∃ r, Hid (r = h.clrd i) := ⟨_, rfl⟩
  rw [← HE.out]
  unfold HV hdA at cr
  clear d1
  cases hg : regI h.ks i with
  | false =>
    have HR : Hid (r = (h, false)) := by rw [Hid, HE.out, Hd.clrd, if_pos hg]
    rw [hg] at cr
    clear HE hg
    go_enter Tryz.func137, Tryz.ntmps137
    go_wp2_with fail
    refine cr.mono ?_
    rintro e w2 ⟨rfl, b2⟩
    have HQ : Hid (PB w2 base g h ∧ Below base w w2) := ⟨HP.out.below b2, b2.mono HP.out.lt⟩
    clear b2 HP k0 k1 k2 k3 cr
    go_wp2
    go_ret
    exact ⟨by rw [HR.out]; rfl, by rw [HR.out]; exact HQ.out.1, HQ.out.2⟩
  | true =>
    have HR : Hid (r = ((Hd.free ⟨[0, 0, 0, 0], h.kd, h.ho, h.tu⟩).turn, true)) := by rw [Hid, HE.out, Hd.clrd, if_neg (by rw [hg]; decide)]; rfl
    rw [hg] at cr
    obtain ⟨j0, hi, hz0, hz1, hz2⟩ := info_parts Tryz.infoI
    clear HE hg
    go_enter Tryz.func137, Tryz.ntmps137
    go_wp2_with fail
    refine cr.mono ?_
    rintro e w2 ⟨rfl, b2⟩
    have HB : Hid (Below base w w2) := b2.mono HP.out.lt
    replace HP : Hid (PB w2 base g h) := HP.out.below b2
    clear b2 k0 k1 k2 k3 cr
    obtain ⟨q2, cap2, d2⟩ := HP.out
    have k0 : w2.cell? ⟨g, 0, none⟩ = some (.slice (some ⟨q2, 0, none⟩) 4 cap2) := d2.1.cell 0 rfl
    have k1 : w2.cell? ⟨g, 1, none⟩ = some (.int .i64 h.kd) := d2.1.cell 1 rfl
    have k2 : w2.cell? ⟨g, 2, none⟩ = some (.int .i64 h.ho) := d2.1.cell 2 rfl
    have k3 : w2.cell? ⟨g, 3, none⟩ = some (.int .i64 h.tu) := d2.1.cell 3 rfl
    have hg2 := d2.1.lt
    have HD : Hid (PQ w2 base g q2 cap2 h) := d2
    clear d2 HP
    go_wp2_with (first
      | (refine wpList_make_full _ rfl _ _ 22 rfl w2.heap.size 2 j0 (.int .i64 0) 1 Tryz.underlying22 hi hz0 hz1 _ _ _ _ 4 rfl rfl rfl rfl (by rw [hz2]; omega) (by unfold maxLen; omega) (Nat.le_refl _) ?_; intro w3 hown hgr; have S3 := HD.out.1.kept hgr (by simp); have m0 := S3.cell 0 (x := .slice (some ⟨q2, 0, none⟩) 4 cap2) rfl; have m1 := S3.frozen 0))
    have e4 : (madeCells (Value.int .i64 0).cells (4 * 1)).toList = ([0, 0, 0, 0] : List Int).map (Value.int .i64) := zeros_eq 4
    rw [e4] at hown
    have o3 : Own w3 w2.heap.size (.slice (some ⟨w2.heap.size, 0, none⟩) 4 4) [0, 0, 0, 0] := hown
    have G3 := grownSet w3 g 0 (.slice (some ⟨w2.heap.size, 0, none⟩) 4 4)
    have lb := HD.out.lt
    have P3 : PQ (w3.setCell ⟨g, 0, none⟩ (.slice (some ⟨w2.heap.size, 0, none⟩) 4 4)) base g w2.heap.size 4 ⟨[0, 0, 0, 0], h.kd, h.ho, h.tu⟩ :=
      ⟨S3.put 0 _ rfl, (o3.kept G3 (.inr (by intro e; have : w2.heap.size = g := Option.some.inj e; omega))).mono lb, by omega, HD.out.2.2.2.1, lb, rfl⟩
    have HB3 : Hid (Below base w (w3.setCell ⟨g, 0, none⟩ (.slice (some ⟨w2.heap.size, 0, none⟩) 4 4))) := (HB.out.trans ((Below.refl base w2).grown hgr lb (by simp))).setCell HD.out.2.2.2.1 _
    clear S3 m0 m1 hown e4 o3 G3 HD HB k0 k1 k2 k3
    refine (s9free_any base g _ _ ⟨_, _, P3⟩).mono ?_
    rintro e w4 ⟨rfl, P4, B4⟩
    replace HB3 : Hid (Below base w w4) := HB3.out.trans B4
    clear P3 B4
    go_wp2_with fail
    refine (s9turn_any base g _ _ P4 t0 t1).mono ?_
    rintro e w5 ⟨rfl, P5, B5⟩
    have HQ : Hid (PB w5 base g _ ∧ Below base w w5) := ⟨P5, HB3.out.trans B5⟩
    clear P5 B5 HB3 P4
    go_wp2
    go_ret
    exact ⟨by rw [HR.out]; rfl, by rw [HR.out]; exact HQ.out.1, HQ.out.2⟩
end Go.Proofs.YtlkkpolnllbljaaGreatDoor
/- A house of the call's own; l15Copy of the model. -/
namespace Go.Proofs.YtlkkpolnllbljaaGreatDoor
open Go.ChangeShapes Go.WideShapes Go.ChangeAt Go.RowKit

def blk (v : Value) : List Nat := v.ownBlock.toList
theorem blk_new {w : World} {B : Nat} {v : Value} {xs : List Int} (h : Own w B v xs) : ∀ x ∈ blk v, B ≤ x ∧ x < w.heap.size := fun x hx => h.lt x (by simpa [blk] using hx)
theorem apart_old {u v : Value} {w : World} {B : Nat} {xs : List Int} (hb : ∀ y ∈ blk u, y < B) (h : Own w B v xs) : apart v u := by
  have key : ∀ y, u.ownBlock = some y → v.ownBlock = some y → False := by
    intro y h1 h2
    have a1 := hb y (by unfold blk; rw [h1]; simp)
    have a2 := (h.lt y h2).1
    omega
  constructor
  · cases hv : v.ownBlock with
    | none => exact .inl rfl
    | some y => exact .inr (fun e => key y e.symm hv)
  · cases hu : u.ownBlock with
    | none => exact .inl rfl
    | some y => exact .inr (fun e => key y hu e.symm)
theorem pair_more {l : List Value} {v : Value} {w : World} {B : Nat} {xs : List Int} (hl : l.Pairwise apart) (hb : ∀ x ∈ l, ∀ y ∈ blk x, y < B) (h : Own w B v xs) : (v :: l).Pairwise apart :=
  List.Pairwise.cons (fun x hx => apart_old (hb x hx) h) hl
theorem pair_two {a b : Value} (h : apart a b) : [b, a].Pairwise apart := List.Pairwise.cons (fun x hx => by simp only [List.mem_singleton] at hx; subst hx; exact ⟨h.2, h.1⟩) (List.Pairwise.cons (fun x hx => by cases hx) List.Pairwise.nil)
/- Five lists of its own, apart. -/
structure OwnN (w : World) (base : Nat) (a b k q z : Value) (n : Nd) : Prop where
  oa : Own w base a n.xs
  ob : Own w base b n.ys
  ok : Own w base k n.h.ks
  oq : Own w base q n.c.ts
  oz : Own w base z n.s.ts
  ap : [z, q, k, b, a].Pairwise apart
theorem OwnN.reads {w : World} {base : Nat} {a b k q z : Value} {n : Nd} (h : OwnN w base a b k q z n) : RdN w a b k q z n := ⟨h.oa.reads, h.ob.reads, h.ok.reads, h.oq.reads, h.oz.reads⟩
theorem OwnN.mono {w : World} {base base' : Nat} {a b k q z : Value} {n : Nd} (h : OwnN w base a b k q z n) (hb : base' ≤ base) : OwnN w base' a b k q z n := ⟨h.oa.mono hb, h.ob.mono hb, h.ok.mono hb, h.oq.mono hb, h.oz.mono hb, h.ap⟩
theorem OwnN.below {w w' : World} {base : Nat} {a b k q z : Value} {n : Nd} (h : OwnN w base a b k q z n) (B : Below w.heap.size w w') : OwnN w' base a b k q z n := ⟨h.oa.below B, h.ob.below B, h.ok.below B, h.oq.below B, h.oz.below B, h.ap⟩
theorem OwnN.keptLt {w w' : World} {base g : Nat} {a b k q z : Value} {n : Nd} (h : OwnN w base a b k q z n) (hg : w.grownBy w' (some g)) (hb : g < base) : OwnN w' base a b k q z n := ⟨h.oa.keptLt hg hb, h.ob.keptLt hg hb, h.ok.keptLt hg hb, h.oq.keptLt hg hb, h.oz.keptLt hg hb, h.ap⟩
def zeroNd : Array Value := #[.int .i64 0, .bool false, .slice none 0 0, .slice none 0 0, .slice none 0 0, .int .i64 0, .int .i64 0, .int .i64 0, .string ⟨#[]⟩, .int .i64 0, .int .i64 0, .int .i64 0, .int .i64 0, .int .i64 0, .bool false, .int .i64 0, .int .i64 0, .slice none 0 0, .int .i64 0, .slice none 0 0]
theorem zeroNd_one : zeroNd.all (·.oneCell') = true := by simp [zeroNd, Value.oneCell']
theorem ndA_one {a b k q z : Value} (n : Nd) (ha : a.oneCell' = true) (hb : b.oneCell' = true) (hk : k.oneCell' = true) (hq : q.oneCell' = true) (hz : z.oneCell' = true) : (ndA a b k q z n).all (·.oneCell') = true := by
  unfold ndA
  simp [ha, hb, hk, hq, hz, S, show ∀ k n, (Value.int k n).oneCell' = true from fun _ _ => rfl, show ∀ b, (Value.bool b).oneCell' = true from fun _ => rfl, show ∀ s, (Value.string s).oneCell' = true from fun _ => rfl]

/- What stands while a house is copied. -/
structure NS (w wx : World) (g : Nat) (a b k q z : Value) (n : Nd) (cs : Array Value) : Prop where
  p : StB wx w.heap.size 42 (ndA a b k q z n)
  r : StB wx (w.heap.size + 1) 42 zeroNd
  o : StB wx g 42 cs
  b : Below w.heap.size w wx
  l : w.heap.size + 1 < g
theorem NS.below {w wx wy : World} {g : Nat} {a b k q z : Value} {n : Nd} {cs : Array Value} (h : NS w wx g a b k q z n cs) (B : Below wx.heap.size wx wy) : NS w wy g a b k q z n cs :=
  ⟨h.p.below B, h.r.below B, h.o.below B, h.b.trans (B.mono h.b.size), h.l⟩
theorem NS.put {w wx : World} {g : Nat} {a b k q z : Value} {n : Nd} {cs ds : Array Value} (h : NS w wx g a b k q z n cs) (j : Nat) (x : Value) (e : cs.setIfInBounds j x = ds) : NS w (wx.setCell ⟨g, j, none⟩ x) g a b k q z n ds :=
  ⟨h.p.other _ _ (by have := h.l; show w.heap.size ≠ g; omega), h.r.other _ _ (by have := h.l; show w.heap.size + 1 ≠ g; omega), h.o.put j x e, h.b.setCell (by have := h.l; show w.heap.size ≤ g; omega) _, h.l⟩
/- The house that is given, the answer's place; then a third variable that holds the same. -/
theorem NS.start {w w1 w2 : World} {a b k q z : Value} {n : Nd} (hw1 : w1 = (w.alloc (.cells (ndA a b k q z n) 42)).alloc (.cells zeroNd 42)) (s : StB w2 w1.heap.size 42 (ndA a b k q z n)) (G : (w1.alloc (.cells zeroNd 42)).grownBy w2 (some w1.heap.size)) : NS w w2 w1.heap.size a b k q z n (ndA a b k q z n) := by
  have p1 : StB w1 w.heap.size 42 (ndA a b k q z n) := by rw [hw1]; exact (StB.new w _ _).alloc _
  have r1 : StB w1 (w.heap.size + 1) 42 zeroNd := by
    rw [hw1]
    have := StB.new (w.alloc (.cells (ndA a b k q z n) 42)) 42 zeroNd
    rwa [World.size_alloc] at this
  have b1 : Below w.heap.size w w1 := by rw [hw1]; exact ((Below.refl _ _).alloc (Nat.le_refl _) _).alloc (by simp) _
  have l1 := r1.lt
  have l0 := p1.lt
  refine ⟨(p1.alloc _).kept G (by simp; omega), (r1.alloc _).kept G (by simp; omega), s, ?_, l1⟩
  exact (b1.alloc b1.size _).grown G (by simp; have := b1.size; omega) (fun k e => by cases e; omega)

set_option maxRecDepth 20000 in
set_option maxHeartbeats 8000000 in
theorem scopyN_any (a b k q z : Value) (n : Nd) (w : World) (hr : RdN w a b k q z n) (hl : SmN n) :
    Calls Tryz.prog 17 #[NdV a b k q z n] w fun e w' => ∃ a' b' k' q' z', e = .returned (NdV a' b' k' q' z' n) ∧ OwnN w' w.heap.size a' b' k' q' z' n ∧ Below w.heap.size w w' := by
  obtain ⟨w1, hw1⟩ : ∃ w1, w1 = (w.alloc (.cells (ndA a b k q z n) 42)).alloc (.cells zeroNd 42) := ⟨_, rfl⟩
  have HST : Hid (∀ w2, StB w2 w1.heap.size 42 (ndA a b k q z n) → (w1.alloc (.cells zeroNd 42)).grownBy w2 (some w1.heap.size) → NS w w2 w1.heap.size a b k q z n (ndA a b k q z n)) := fun w2 s G => NS.start hw1 s G
  have p1 : StB w1 w.heap.size 42 (ndA a b k q z n) := by rw [hw1]; exact (StB.new w _ _).alloc _
  have HR : Hid (∀ wx, Below w.heap.size w wx → RdN wx a b k q z n) := fun wx B => hr.below B
  have C1 : Hid (∀ wx, Below w.heap.size w wx → Calls Tryz.prog 51 #[.agg #[a, b]] wx fun e w' => ∃ u v, e = .returned (.agg #[u, v]) ∧ OwnD w' wx.heap.size u v n.xs n.ys ∧ Below wx.heap.size wx w') := fun wx B => l3Copy_any a b n.xs n.ys wx (HR.out wx B).ra (HR.out wx B).rb (by have := hl.la; omega) (by have := hl.lb; omega)
  have C2 : Hid (∀ wx, Below w.heap.size w wx → Calls Tryz.prog 52 #[HV k n.h] wx fun e w' => ∃ u, e = .returned (HV u n.h) ∧ Own w' wx.heap.size u n.h.ks ∧ Below wx.heap.size wx w') := fun wx B => s8copy_any k n.h wx (HR.out wx B).rk (by have := hl.lk; omega)
  have C3 : Hid (∀ wx, Below w.heap.size w wx → Calls Tryz.prog 53 #[CpV q n.c] wx fun e w' => ∃ u, e = .returned (CpV u n.c) ∧ Own w' wx.heap.size u n.c.ts ∧ Below wx.heap.size wx w') := fun wx B => scopyC_any q n.c wx (HR.out wx B).rq (by have := hl.lq; omega)
  have C4 : Hid (∀ wx, Below w.heap.size w wx → Calls Tryz.prog 54 #[SnV z n.s] wx fun e w' => ∃ u, e = .returned (SnV u n.s) ∧ Own w' wx.heap.size u n.s.ts ∧ Below wx.heap.size wx w') := fun wx B => scopyS_any z n.s wx (HR.out wx B).rz (by have := hl.lz; omega)
  obtain ⟨a1, a2, rfl⟩ := reads_form hr.ra
  obtain ⟨b1, b2, rfl⟩ := reads_form hr.rb
  obtain ⟨k1, k2, rfl⟩ := reads_form hr.rk
  obtain ⟨q1, q2, rfl⟩ := reads_form hr.rq
  obtain ⟨z1, z2, rfl⟩ := reads_form hr.rz
  clear hr HR
  have HL : Hid (SmN n) := hl
  clear hl
  unfold HV hdA at C2
  unfold CpV cpA at C3
  unfold SnV snA at C4
  unfold NdV
  conv in ndA (.slice a1 n.xs.length a2) _ _ _ _ _ => unfold ndA
  unfold zeroNd ndA at hw1
  go_enter Tryz.func17, Tryz.ntmps17
  go_upto_region 1 with fail
  rw [← hw1]
  clear hw1
  have q1' : StB (w1.alloc (.cells zeroNd 42)) w1.heap.size 42 zeroNd := StB.new w1 _ _
  go_upto_region 2 with (first | (refine wpList_getS Tryz.isNd rfl _ rfl w.heap.size rfl (ndA (.slice a1 n.xs.length a2) (.slice b1 n.ys.length b2) (.slice k1 n.h.ks.length k2) (.slice q1 n.c.ts.length q2) (.slice z1 n.s.ts.length z2) n) rfl p1 ?_) | (refine wpList_putS Tryz.isNd rfl _ _ rfl w1.heap.size (ndA (.slice a1 n.xs.length a2) (.slice b1 n.ys.length b2) (.slice k1 n.h.ks.length k2) (.slice q1 n.c.ts.length q2) (.slice z1 n.s.ts.length z2) n) zeroNd rfl rfl rfl rfl (ndA_one n rfl rfl rfl rfl rfl) q1' ?_; intro w2 s2 g2))
  have HN : Hid (NS w w2 w1.heap.size (.slice a1 n.xs.length a2) (.slice b1 n.ys.length b2) (.slice k1 n.h.ks.length k2) (.slice q1 n.c.ts.length q2) (.slice z1 n.s.ts.length z2) n (ndA (.slice a1 n.xs.length a2) (.slice b1 n.ys.length b2) (.slice k1 n.h.ks.length k2) (.slice q1 n.c.ts.length q2) (.slice z1 n.s.ts.length z2) n)) := HST.out w2 s2 g2
  clear HST p1 q1' s2 g2
  obtain ⟨g, hg⟩ : ∃ g, g = w1.heap.size := ⟨_, rfl⟩
  rw [← hg] at HN ⊢
  clear hg
  simp only [Act.put]
  have p2 : w2.cell? ⟨w.heap.size, 2, none⟩ = some (.slice a1 n.xs.length a2) := HN.out.p.cell 2 rfl
  have p3 : w2.cell? ⟨w.heap.size, 3, none⟩ = some (.slice b1 n.ys.length b2) := HN.out.p.cell 3 rfl
  go_wp2_with fail
  refine (C1.out w2 HN.out.b).mono ?_
  rintro e w3 ⟨u, v, rfl, o1, bx⟩
  obtain ⟨c1, d1, rfl⟩ := reads_form o1.1.reads
  obtain ⟨c2, d2, rfl⟩ := reads_form o1.2.1.reads
  have O1 : Hid (Own w3 (g + 1) (.slice c1 n.xs.length d1) n.xs ∧ Own w3 (g + 1) (.slice c2 n.ys.length d2) n.ys ∧ [Value.slice c2 n.ys.length d2, Value.slice c1 n.xs.length d1].Pairwise apart) := ⟨o1.1.mono HN.out.o.lt, o1.2.1.mono HN.out.o.lt, pair_two o1.2.2⟩
  clear o1
  replace HN := HN.out.below bx
  clear bx C1 p2 p3
  have p2 : w3.cell? ⟨g, 2, none⟩ = some (.slice a1 n.xs.length a2) := HN.o.cell 2 rfl
  have f2 := HN.o.frozen 2
  have p3 : w3.cell? ⟨g, 3, none⟩ = some (.slice b1 n.ys.length b2) := HN.o.cell 3 rfl
  have f3 := HN.o.frozen 3
  obtain ⟨w4, hw4⟩ : ∃ w4, w4 = ((w3.setCell ⟨g, 2, none⟩ (.slice c1 n.xs.length d1)).setCell ⟨g, 3, none⟩ (.slice c2 n.ys.length d2)) := ⟨_, rfl⟩
  have HN' : Hid (NS w w4 g (.slice a1 n.xs.length a2) (.slice b1 n.ys.length b2) (.slice k1 n.h.ks.length k2) (.slice q1 n.c.ts.length q2) (.slice z1 n.s.ts.length z2) n (ndA (.slice c1 n.xs.length d1) (.slice c2 n.ys.length d2) (.slice k1 n.h.ks.length k2) (.slice q1 n.c.ts.length q2) (.slice z1 n.s.ts.length z2) n)) := by rw [hw4]; exact ((HN.put 2 (.slice c1 n.xs.length d1) rfl).put 3 (.slice c2 n.ys.length d2) rfl)
  replace O1 : Hid (Own w4 (g + 1) (.slice c1 n.xs.length d1) n.xs ∧ Own w4 (g + 1) (.slice c2 n.ys.length d2) n.ys ∧ [Value.slice c2 n.ys.length d2, Value.slice c1 n.xs.length d1].Pairwise apart) := by
    rw [hw4]
    exact ⟨((O1.out.1.setLt (Nat.lt_succ_self g) 2 _).setLt (Nat.lt_succ_self g) 3 _), ((O1.out.2.1.setLt (Nat.lt_succ_self g) 2 _).setLt (Nat.lt_succ_self g) 3 _), O1.out.2.2⟩
  go_upto_region 3 with fail
  rw [← hw4]
  clear hw4 HN p2 f2 p3 f3
  have HN := HN'
  clear HN'
  have p4 : w4.cell? ⟨w.heap.size, 4, none⟩ = some (.slice k1 n.h.ks.length k2) := HN.out.p.cell 4 rfl
  have p5 : w4.cell? ⟨w.heap.size, 5, none⟩ = some (.int .i64 n.h.kd) := HN.out.p.cell 5 rfl
  have p6 : w4.cell? ⟨w.heap.size, 6, none⟩ = some (.int .i64 n.h.ho) := HN.out.p.cell 6 rfl
  have p7 : w4.cell? ⟨w.heap.size, 7, none⟩ = some (.int .i64 n.h.tu) := HN.out.p.cell 7 rfl
  go_wp2_with fail
  refine (C2.out w4 HN.out.b).mono ?_
  rintro e w5 ⟨u, rfl, o2, bx⟩
  obtain ⟨c3, d3, rfl⟩ := reads_form o2.reads
  have O2 : Hid (Own w5 (g + 1) (.slice c1 n.xs.length d1) n.xs ∧ Own w5 (g + 1) (.slice c2 n.ys.length d2) n.ys ∧ Own w5 (g + 1) (.slice c3 n.h.ks.length d3) n.h.ks ∧ [Value.slice c3 n.h.ks.length d3, Value.slice c2 n.ys.length d2, Value.slice c1 n.xs.length d1].Pairwise apart) := by
    refine ⟨(O1.out.1).below bx, (O1.out.2.1).below bx, o2.mono HN.out.o.lt, pair_more (O1.out.2.2) (fun x hx => ?_) o2⟩
    simp only [List.mem_cons, List.not_mem_nil, or_false] at hx
    rcases hx with rfl | rfl
    · exact fun y hy => (blk_new (O1.out.2.1) y hy).2
    · exact fun y hy => (blk_new (O1.out.1) y hy).2
  clear O1 o2
  replace HN := HN.out.below bx
  clear bx C2 p4 p5 p6 p7
  have p4 : w5.cell? ⟨g, 4, none⟩ = some (.slice k1 n.h.ks.length k2) := HN.o.cell 4 rfl
  have f4 := HN.o.frozen 4
  have p5 : w5.cell? ⟨g, 5, none⟩ = some (.int .i64 n.h.kd) := HN.o.cell 5 rfl
  have f5 := HN.o.frozen 5
  have p6 : w5.cell? ⟨g, 6, none⟩ = some (.int .i64 n.h.ho) := HN.o.cell 6 rfl
  have f6 := HN.o.frozen 6
  have p7 : w5.cell? ⟨g, 7, none⟩ = some (.int .i64 n.h.tu) := HN.o.cell 7 rfl
  have f7 := HN.o.frozen 7
  obtain ⟨w6, hw6⟩ : ∃ w6, w6 = ((((w5.setCell ⟨g, 4, none⟩ (.slice c3 n.h.ks.length d3)).setCell ⟨g, 5, none⟩ (.int .i64 n.h.kd)).setCell ⟨g, 6, none⟩ (.int .i64 n.h.ho)).setCell ⟨g, 7, none⟩ (.int .i64 n.h.tu)) := ⟨_, rfl⟩
  have HN' : Hid (NS w w6 g (.slice a1 n.xs.length a2) (.slice b1 n.ys.length b2) (.slice k1 n.h.ks.length k2) (.slice q1 n.c.ts.length q2) (.slice z1 n.s.ts.length z2) n (ndA (.slice c1 n.xs.length d1) (.slice c2 n.ys.length d2) (.slice c3 n.h.ks.length d3) (.slice q1 n.c.ts.length q2) (.slice z1 n.s.ts.length z2) n)) := by rw [hw6]; exact ((((HN.put 4 (.slice c3 n.h.ks.length d3) rfl).put 5 (.int .i64 n.h.kd) rfl).put 6 (.int .i64 n.h.ho) rfl).put 7 (.int .i64 n.h.tu) rfl)
  replace O2 : Hid (Own w6 (g + 1) (.slice c1 n.xs.length d1) n.xs ∧ Own w6 (g + 1) (.slice c2 n.ys.length d2) n.ys ∧ Own w6 (g + 1) (.slice c3 n.h.ks.length d3) n.h.ks ∧ [Value.slice c3 n.h.ks.length d3, Value.slice c2 n.ys.length d2, Value.slice c1 n.xs.length d1].Pairwise apart) := by
    rw [hw6]
    exact ⟨((((O2.out.1.setLt (Nat.lt_succ_self g) 4 _).setLt (Nat.lt_succ_self g) 5 _).setLt (Nat.lt_succ_self g) 6 _).setLt (Nat.lt_succ_self g) 7 _), ((((O2.out.2.1.setLt (Nat.lt_succ_self g) 4 _).setLt (Nat.lt_succ_self g) 5 _).setLt (Nat.lt_succ_self g) 6 _).setLt (Nat.lt_succ_self g) 7 _), ((((O2.out.2.2.1.setLt (Nat.lt_succ_self g) 4 _).setLt (Nat.lt_succ_self g) 5 _).setLt (Nat.lt_succ_self g) 6 _).setLt (Nat.lt_succ_self g) 7 _), O2.out.2.2.2⟩
  go_upto_region 4 with fail
  rw [← hw6]
  clear hw6 HN p4 f4 p5 f5 p6 f6 p7 f7
  have HN := HN'
  clear HN'
  have p13 : w6.cell? ⟨w.heap.size, 13, none⟩ = some (.int .i64 n.c.tr) := HN.out.p.cell 13 rfl
  have p14 : w6.cell? ⟨w.heap.size, 14, none⟩ = some (.bool n.c.op) := HN.out.p.cell 14 rfl
  have p15 : w6.cell? ⟨w.heap.size, 15, none⟩ = some (.int .i64 n.c.di) := HN.out.p.cell 15 rfl
  have p16 : w6.cell? ⟨w.heap.size, 16, none⟩ = some (.int .i64 n.c.wa) := HN.out.p.cell 16 rfl
  have p17 : w6.cell? ⟨w.heap.size, 17, none⟩ = some (.slice q1 n.c.ts.length q2) := HN.out.p.cell 17 rfl
  go_wp2_with fail
  refine (C3.out w6 HN.out.b).mono ?_
  rintro e w7 ⟨u, rfl, o3, bx⟩
  obtain ⟨c4, d4, rfl⟩ := reads_form o3.reads
  have O3 : Hid (Own w7 (g + 1) (.slice c1 n.xs.length d1) n.xs ∧ Own w7 (g + 1) (.slice c2 n.ys.length d2) n.ys ∧ Own w7 (g + 1) (.slice c3 n.h.ks.length d3) n.h.ks ∧ Own w7 (g + 1) (.slice c4 n.c.ts.length d4) n.c.ts ∧ [Value.slice c4 n.c.ts.length d4, Value.slice c3 n.h.ks.length d3, Value.slice c2 n.ys.length d2, Value.slice c1 n.xs.length d1].Pairwise apart) := by
    refine ⟨(O2.out.1).below bx, (O2.out.2.1).below bx, (O2.out.2.2.1).below bx, o3.mono HN.out.o.lt, pair_more (O2.out.2.2.2) (fun x hx => ?_) o3⟩
    simp only [List.mem_cons, List.not_mem_nil, or_false] at hx
    rcases hx with rfl | rfl | rfl
    · exact fun y hy => (blk_new (O2.out.2.2.1) y hy).2
    · exact fun y hy => (blk_new (O2.out.2.1) y hy).2
    · exact fun y hy => (blk_new (O2.out.1) y hy).2
  clear O2 o3
  replace HN := HN.out.below bx
  clear bx C3 p13 p14 p15 p16 p17
  have p13 : w7.cell? ⟨g, 13, none⟩ = some (.int .i64 n.c.tr) := HN.o.cell 13 rfl
  have f13 := HN.o.frozen 13
  have p14 : w7.cell? ⟨g, 14, none⟩ = some (.bool n.c.op) := HN.o.cell 14 rfl
  have f14 := HN.o.frozen 14
  have p15 : w7.cell? ⟨g, 15, none⟩ = some (.int .i64 n.c.di) := HN.o.cell 15 rfl
  have f15 := HN.o.frozen 15
  have p16 : w7.cell? ⟨g, 16, none⟩ = some (.int .i64 n.c.wa) := HN.o.cell 16 rfl
  have f16 := HN.o.frozen 16
  have p17 : w7.cell? ⟨g, 17, none⟩ = some (.slice q1 n.c.ts.length q2) := HN.o.cell 17 rfl
  have f17 := HN.o.frozen 17
  obtain ⟨w8, hw8⟩ : ∃ w8, w8 = (((((w7.setCell ⟨g, 13, none⟩ (.int .i64 n.c.tr)).setCell ⟨g, 14, none⟩ (.bool n.c.op)).setCell ⟨g, 15, none⟩ (.int .i64 n.c.di)).setCell ⟨g, 16, none⟩ (.int .i64 n.c.wa)).setCell ⟨g, 17, none⟩ (.slice c4 n.c.ts.length d4)) := ⟨_, rfl⟩
  have HN' : Hid (NS w w8 g (.slice a1 n.xs.length a2) (.slice b1 n.ys.length b2) (.slice k1 n.h.ks.length k2) (.slice q1 n.c.ts.length q2) (.slice z1 n.s.ts.length z2) n (ndA (.slice c1 n.xs.length d1) (.slice c2 n.ys.length d2) (.slice c3 n.h.ks.length d3) (.slice c4 n.c.ts.length d4) (.slice z1 n.s.ts.length z2) n)) := by rw [hw8]; exact (((((HN.put 13 (.int .i64 n.c.tr) rfl).put 14 (.bool n.c.op) rfl).put 15 (.int .i64 n.c.di) rfl).put 16 (.int .i64 n.c.wa) rfl).put 17 (.slice c4 n.c.ts.length d4) rfl)
  replace O3 : Hid (Own w8 (g + 1) (.slice c1 n.xs.length d1) n.xs ∧ Own w8 (g + 1) (.slice c2 n.ys.length d2) n.ys ∧ Own w8 (g + 1) (.slice c3 n.h.ks.length d3) n.h.ks ∧ Own w8 (g + 1) (.slice c4 n.c.ts.length d4) n.c.ts ∧ [Value.slice c4 n.c.ts.length d4, Value.slice c3 n.h.ks.length d3, Value.slice c2 n.ys.length d2, Value.slice c1 n.xs.length d1].Pairwise apart) := by
    rw [hw8]
    exact ⟨(((((O3.out.1.setLt (Nat.lt_succ_self g) 13 _).setLt (Nat.lt_succ_self g) 14 _).setLt (Nat.lt_succ_self g) 15 _).setLt (Nat.lt_succ_self g) 16 _).setLt (Nat.lt_succ_self g) 17 _), (((((O3.out.2.1.setLt (Nat.lt_succ_self g) 13 _).setLt (Nat.lt_succ_self g) 14 _).setLt (Nat.lt_succ_self g) 15 _).setLt (Nat.lt_succ_self g) 16 _).setLt (Nat.lt_succ_self g) 17 _), (((((O3.out.2.2.1.setLt (Nat.lt_succ_self g) 13 _).setLt (Nat.lt_succ_self g) 14 _).setLt (Nat.lt_succ_self g) 15 _).setLt (Nat.lt_succ_self g) 16 _).setLt (Nat.lt_succ_self g) 17 _), (((((O3.out.2.2.2.1.setLt (Nat.lt_succ_self g) 13 _).setLt (Nat.lt_succ_self g) 14 _).setLt (Nat.lt_succ_self g) 15 _).setLt (Nat.lt_succ_self g) 16 _).setLt (Nat.lt_succ_self g) 17 _), O3.out.2.2.2.2⟩
  go_upto_region 5 with fail
  rw [← hw8]
  clear hw8 HN p13 f13 p14 f14 p15 f15 p16 f16 p17 f17
  have HN := HN'
  clear HN'
  have p18 : w8.cell? ⟨w.heap.size, 18, none⟩ = some (.int .i64 n.s.tr) := HN.out.p.cell 18 rfl
  have p19 : w8.cell? ⟨w.heap.size, 19, none⟩ = some (.slice z1 n.s.ts.length z2) := HN.out.p.cell 19 rfl
  go_wp2_with fail
  refine (C4.out w8 HN.out.b).mono ?_
  rintro e w9 ⟨u, rfl, o4, bx⟩
  obtain ⟨c5, d5, rfl⟩ := reads_form o4.reads
  have O4 : Hid (Own w9 (g + 1) (.slice c1 n.xs.length d1) n.xs ∧ Own w9 (g + 1) (.slice c2 n.ys.length d2) n.ys ∧ Own w9 (g + 1) (.slice c3 n.h.ks.length d3) n.h.ks ∧ Own w9 (g + 1) (.slice c4 n.c.ts.length d4) n.c.ts ∧ Own w9 (g + 1) (.slice c5 n.s.ts.length d5) n.s.ts ∧ [Value.slice c5 n.s.ts.length d5, Value.slice c4 n.c.ts.length d4, Value.slice c3 n.h.ks.length d3, Value.slice c2 n.ys.length d2, Value.slice c1 n.xs.length d1].Pairwise apart) := by
    refine ⟨(O3.out.1).below bx, (O3.out.2.1).below bx, (O3.out.2.2.1).below bx, (O3.out.2.2.2.1).below bx, o4.mono HN.out.o.lt, pair_more (O3.out.2.2.2.2) (fun x hx => ?_) o4⟩
    simp only [List.mem_cons, List.not_mem_nil, or_false] at hx
    rcases hx with rfl | rfl | rfl | rfl
    · exact fun y hy => (blk_new (O3.out.2.2.2.1) y hy).2
    · exact fun y hy => (blk_new (O3.out.2.2.1) y hy).2
    · exact fun y hy => (blk_new (O3.out.2.1) y hy).2
    · exact fun y hy => (blk_new (O3.out.1) y hy).2
  clear O3 o4
  replace HN := HN.out.below bx
  clear bx C4 p18 p19
  have p18 : w9.cell? ⟨g, 18, none⟩ = some (.int .i64 n.s.tr) := HN.o.cell 18 rfl
  have f18 := HN.o.frozen 18
  have p19 : w9.cell? ⟨g, 19, none⟩ = some (.slice z1 n.s.ts.length z2) := HN.o.cell 19 rfl
  have f19 := HN.o.frozen 19
  obtain ⟨w10, hw10⟩ : ∃ w10, w10 = ((w9.setCell ⟨g, 18, none⟩ (.int .i64 n.s.tr)).setCell ⟨g, 19, none⟩ (.slice c5 n.s.ts.length d5)) := ⟨_, rfl⟩
  have HN' : Hid (NS w w10 g (.slice a1 n.xs.length a2) (.slice b1 n.ys.length b2) (.slice k1 n.h.ks.length k2) (.slice q1 n.c.ts.length q2) (.slice z1 n.s.ts.length z2) n (ndA (.slice c1 n.xs.length d1) (.slice c2 n.ys.length d2) (.slice c3 n.h.ks.length d3) (.slice c4 n.c.ts.length d4) (.slice c5 n.s.ts.length d5) n)) := by rw [hw10]; exact ((HN.put 18 (.int .i64 n.s.tr) rfl).put 19 (.slice c5 n.s.ts.length d5) rfl)
  replace O4 : Hid (Own w10 (g + 1) (.slice c1 n.xs.length d1) n.xs ∧ Own w10 (g + 1) (.slice c2 n.ys.length d2) n.ys ∧ Own w10 (g + 1) (.slice c3 n.h.ks.length d3) n.h.ks ∧ Own w10 (g + 1) (.slice c4 n.c.ts.length d4) n.c.ts ∧ Own w10 (g + 1) (.slice c5 n.s.ts.length d5) n.s.ts ∧ [Value.slice c5 n.s.ts.length d5, Value.slice c4 n.c.ts.length d4, Value.slice c3 n.h.ks.length d3, Value.slice c2 n.ys.length d2, Value.slice c1 n.xs.length d1].Pairwise apart) := by
    rw [hw10]
    exact ⟨((O4.out.1.setLt (Nat.lt_succ_self g) 18 _).setLt (Nat.lt_succ_self g) 19 _), ((O4.out.2.1.setLt (Nat.lt_succ_self g) 18 _).setLt (Nat.lt_succ_self g) 19 _), ((O4.out.2.2.1.setLt (Nat.lt_succ_self g) 18 _).setLt (Nat.lt_succ_self g) 19 _), ((O4.out.2.2.2.1.setLt (Nat.lt_succ_self g) 18 _).setLt (Nat.lt_succ_self g) 19 _), ((O4.out.2.2.2.2.1.setLt (Nat.lt_succ_self g) 18 _).setLt (Nat.lt_succ_self g) 19 _), O4.out.2.2.2.2.2⟩
  go_upto_region 6 with fail
  rw [← hw10]
  clear hw10 HN p18 f18 p19 f19
  have HN := HN'
  clear HN'
  go_wp2_with (first | (refine wpList_getS Tryz.isNd rfl _ rfl g rfl (ndA (.slice c1 n.xs.length d1) (.slice c2 n.ys.length d2) (.slice c3 n.h.ks.length d3) (.slice c4 n.c.ts.length d4) (.slice c5 n.s.ts.length d5) n) rfl HN.out.o ?_) | (refine wpList_putS Tryz.isNd rfl _ _ rfl (w.heap.size + 1) (ndA (.slice c1 n.xs.length d1) (.slice c2 n.ys.length d2) (.slice c3 n.h.ks.length d3) (.slice c4 n.c.ts.length d4) (.slice c5 n.s.ts.length d5) n) zeroNd rfl rfl rfl rfl (ndA_one n rfl rfl rfl rfl rfl) HN.out.r ?_; intro w19 s19 g19))
  refine bodyPost_ret (results_S Tryz.isNd rfl _ _ (w.heap.size + 1) _ rfl rfl s19) rfl ?_
  refine ⟨_, _, _, _, _, rfl, ?_, HN.out.b.grown g19 HN.out.b.size (fun k e => by cases e; omega)⟩
  exact (OwnN.keptLt ⟨O4.out.1, O4.out.2.1, O4.out.2.2.1, O4.out.2.2.2.1, O4.out.2.2.2.2.1, O4.out.2.2.2.2.2⟩ g19 (by have := HN.out.l; omega)).mono (by have := HN.out.l; omega)
end Go.Proofs.YtlkkpolnllbljaaGreatDoor
/- Regions that draw their order, with calls that make memory, new variables and stores into them, whatever the order: what is needed at each step is found by the world's own shape. -/
namespace Go.Proofs.YtlkkpolnllbljaaGreatDoor
open Go.ChangeShapes Go.WideShapes Go.ChangeAt Go.RowKit

theorem bel_alloc {w wx : World} {o : Obj} (h : Below w.heap.size w wx) : Below w.heap.size w (wx.alloc o) := h.alloc h.size _
theorem bel_drew {w wx : World} (h : Below w.heap.size w wx) : Below w.heap.size w wx.drew := h.drew
theorem bel_trans {w wx wy : World} (h : Below w.heap.size w wx) (b : Below wx.heap.size wx wy) : Below w.heap.size w wy := h.trans (b.mono h.size)
/- The same as 'Below', under a name of its own: what a region holds. -/
def Sx (w wx : World) : Prop := Below w.heap.size w wx
theorem later_cell {w wx : World} {a : Addr} {v : Value} (h : w.cell? a = some v) (b : Below w.heap.size w wx) : wx.cell? a = some v := by
  rw [b.cell (World.block_lt_of_cell? w _ h)]; exact h
theorem StB.newE (w : World) (t : TypeId) (cs : Array Value) {g : Nat} (h : g = w.heap.size) : StB (w.alloc (.cells cs t)) g t cs := by subst h; exact StB.new w t cs
theorem StB.dr {w : World} {g : Nat} {t : TypeId} {cs : Array Value} (h : StB w g t cs) : StB w.drew g t cs := h
theorem StB.al {w : World} {g : Nat} {t : TypeId} {cs : Array Value} {o : Obj} (h : StB w g t cs) : StB (w.alloc o) g t cs := h.alloc o
theorem StB.bel {w w' : World} {g : Nat} {t : TypeId} {cs : Array Value} (h : StB w g t cs) (b : Below w.heap.size w w') : StB w' g t cs := h.below b
/- One block has one type. -/
theorem StB.typ {w : World} {g k : Nat} {t s : TypeId} {cs ds : Array Value} (h : StB w g t cs) (h' : StB w k s ds) (hne : t ≠ s) : g ≠ k := by
  rintro rfl
  unfold StB at h h'
  rw [h] at h'
  simp at h'
  exact hne h'.2
theorem Own.ne {w : World} {base g : Nat} {v : Value} {xs : List Int} {t : TypeId} {cs : Array Value} (h : Own w base v xs) (h' : StB w g t cs) (hne : t ≠ 2) : v.ownBlock ≠ some g := by
  intro e
  rcases h.2 with ⟨rfl, -⟩ | ⟨k, cap, cur, rfl, -, hg, -⟩
  · cases e
  · simp only [Value.ownBlock, Option.some.injEq] at e
    subst e
    unfold StB at h'
    rw [hg] at h'
    simp at h'
    exact hne h'.2.symm
theorem Own.putBy {w w' : World} {base g : Nat} {v : Value} {xs : List Int} {t : TypeId} {cs : Array Value} (h : Own w base v xs) (h' : StB w g t cs) (hne : t ≠ 2) (b : w.grownBy w' (some g)) : Own w' base v xs :=
  h.kept b (.inr (h.ne h' hne))
theorem bel_put {w wx wy : World} {g : Nat} (h : Below w.heap.size w wx) (b : wx.grownBy wy (some g)) (hg : w.heap.size ≤ g) : Below w.heap.size w wy :=
  h.grown b h.size (fun k e => by cases e; exact hg)
theorem step_putS {t : TypeId} {n : Nat} (hS : IsS t n) {ops : Array Oper} {o : Oper} {a : Act} {w : World} {K : Act → World → Prop} {Q : Exit → Act → World → Prop} {E : Prop} (hgd : o.guard = none) (x y : Operand) (ho : o.op = .store t x y)
    (g : Nat) (cs ds : Array Value) (hx : a.eval x = .pointer (some ⟨g, 0, none⟩)) (hy : a.eval y = .agg cs) (hn : cs.size = n) (hd : ds.size = n) (h1 : cs.all (·.oneCell') = true) (hr : StB w g t ds)
    (h : ∀ w', StB w' g t cs → w.grownBy w' (some g) → K (a.put o.dst undef) w') : if Region.wanted o (yielded ops a.tmps) = true then Oper.wp Tryz.prog o a w K Q else E := by
  have hw : Region.wanted o (yielded ops a.tmps) = true := by simp [Region.wanted, hgd]
  rw [if_pos hw]
  exact wp_store_row t x y ho g cs hx hy _ _ hr (by rw [hS.2, hn]) (by rw [hd, hn]) h1 (h _ (setRow_heap w g _ _ _ _ hr) (grownRowS w g _))
theorem ge_of {w wx wy : World} {g : Nat} (_ : wx.grownBy wy (some g)) (l : w.heap.size ≤ g) : w.heap.size ≤ g := l
theorem StB.keptT {w w' : World} {g k : Nat} {t s : TypeId} {cs ds : Array Value} (h : StB w k s ds) (h' : StB w g t cs) (b : w.grownBy w' (some g)) (ne : t ≠ s) : StB w' k s ds := h.kept b (fun e => StB.typ h' h ne (Option.some.inj e).symm)
/- A whole struct, folded, is stored into a variable: as it comes to the arms of a region that draws. -/
theorem upon_putS {o : Oper} {a : Act} {w : World} {K : Act → World → Prop} {Q : Exit → Act → World → Prop} (g : Nat) (t : TypeId) (cs ds : Array Value) (hd : ds.size = cs.size) (h1 : cs.all (·.oneCell') = true) (hr : StB w g t ds)
    (h : ∀ w', StB w' g t cs → w.grownBy w' (some g) → Oper.upon Tryz.prog o a K Q (.ok .skip w')) :
    Oper.upon Tryz.prog o a K Q (((storeCells ⟨g, 0, none⟩ cs.toList).run Tryz.prog w).andThen fun _ w' => .ok .skip w') := by
  have e := run_storeCells_from (P := Tryz.prog) g t cs.toList 0 ds w hr (by simp; omega) (fun v hv => (Array.all_eq_true_iff_forall_mem.1 h1) v (by simpa using hv))
  rw [e]
  simp only [List.take_zero, List.nil_append, Array.toArray_toList, Result.andThen_ok]
  exact h _ (setRow_heap w g _ _ _ _ hr) (grownRowS w g _)
def dkA (u v : Value) : Array Value := #[u, v]
end Go.Proofs.YtlkkpolnllbljaaGreatDoor
/- A list of the call's own, or an empty one wherever it points to: what is answered where nothing was copied. -/
namespace Go.Proofs.YtlkkpolnllbljaaGreatDoor
open Go.ChangeShapes Go.WideShapes Go.ChangeAt Go.RowKit

def Mine (w : World) (base : Nat) (v : Value) (xs : List Int) : Prop := Own w base v xs ∨ (xs = [] ∧ ∃ ao cap, v = .slice ao 0 cap ∧ cap ≤ maxLen ∧ (ao = none → cap = 0))
theorem Own.mine {w : World} {base : Nat} {v : Value} {xs : List Int} (h : Own w base v xs) : Mine w base v xs := .inl h
theorem Mine.reads {w : World} {base : Nat} {v : Value} {xs : List Int} (h : Mine w base v xs) : Reads w v xs := by
  rcases h with h | ⟨rfl, ao, cap, rfl, h1, h2⟩
  · exact h.reads
  · exact ⟨ao, cap, rfl, Nat.zero_le _, ⟨h1, h2⟩, .inl rfl⟩
theorem Reads.mine {w : World} {base : Nat} {v : Value} (h : Reads w v []) : Mine w base v [] := by
  obtain ⟨ao, cap, rfl, -, ⟨h1, h2⟩, -⟩ := h
  exact .inr ⟨rfl, ao, cap, rfl, h1, h2⟩
theorem Mine.mono {w : World} {base base' : Nat} {v : Value} {xs : List Int} (h : Mine w base v xs) (hb : base' ≤ base) : Mine w base' v xs := h.imp (fun h => h.mono hb) id
theorem Mine.below {w w' : World} {base : Nat} {v : Value} {xs : List Int} (h : Mine w base v xs) (b : Below w.heap.size w w') : Mine w' base v xs := h.imp (fun h => h.below b) id
theorem Mine.keptLt {w w' : World} {base g : Nat} {v : Value} {xs : List Int} (h : Mine w base v xs) (hg : w.grownBy w' (some g)) (hb : g < base) : Mine w' base v xs := h.imp (fun h => h.keptLt hg hb) id
theorem Mine.setLt {w : World} {base g : Nat} {v : Value} {xs : List Int} (h : Mine w base v xs) (hb : g < base) (j : Nat) (x : Value) : Mine (w.setCell ⟨g, j, none⟩ x) base v xs := h.imp (fun h => h.setLt hb j x) id
theorem Mine.putBy {w w' : World} {base g : Nat} {v : Value} {xs : List Int} {t : TypeId} {cs : Array Value} (h : Mine w base v xs) (h' : StB w g t cs) (hne : t ≠ 2) (b : w.grownBy w' (some g)) : Mine w' base v xs := h.imp (fun h => h.putBy h' hne b) id
theorem Mine.set {w : World} {base g j : Nat} {v : Value} {xs : List Int} {t : TypeId} {cs : Array Value} (h : Mine w base v xs) (h' : StB w g t cs) (hne : t ≠ 2) (x : Value) : Mine (w.setCell ⟨g, j, none⟩ x) base v xs := h.putBy h' hne (grownSet w g j x)
theorem Mine.drew {w w' : World} {base n : Nat} {v : Value} {xs : List Int} (h : Mine w base v xs) (e : w' = w.drewN n) : Mine w' base v xs := h.imp (fun h => h.drew_eq e) id
theorem Mine.own {w : World} {base : Nat} {v : Value} {xs : List Int} (h : Mine w base v xs) (hx : xs ≠ []) : Own w base v xs := h.resolve_right (fun h => hx h.1)
/- What is left of new memory where all that lies below is as it was. -/
theorem Mine.lower {w w' : World} {base B : Nat} {v : Value} {xs : List Int} (h : Mine w base v xs) (b : Below B w w') (hB : ∀ k, v.ownBlock = some k → k < w.heap.size → k < B) : Mine w' base v xs := by
  refine h.imp (fun h => Own.frame h (fun k hk => ?_)) id
  simp at hk
  exact b.block k (hB k hk (h.lt k hk).2)

theorem Reads.later {w w' : World} {v : Value} (h : Reads w v []) : Reads w' v [] := by
  obtain ⟨ao, cap, rfl, h0, h1, -⟩ := h
  exact ⟨ao, cap, rfl, h0, h1, .inl rfl⟩
/- In the state of a long walk. -/
def mineOf (v : Value) (xs : List Int) : List Nat := if xs.length = 0 then [] else v.ownBlock.toList
theorem Mine.frame {w w' : World} {base : Nat} {v : Value} {xs : List Int} (h : Mine w base v xs) (e : ∀ b ∈ mineOf v xs, w'.heap[b]? = w.heap[b]?) : Mine w' base v xs := by
  rcases h with h | h
  · by_cases hx : xs.length = 0
    · have e0 : xs = [] := List.eq_nil_of_length_eq_zero hx
      subst e0
      exact Reads.mine (h.reads.later)
    · unfold mineOf at e
      rw [if_neg hx] at e
      exact .inl (Own.frame h e)
  · exact .inr h
def LstM (v : Value) (xs : List Int) : Item := ⟨mineOf v xs, 0, fun w => Mine w 0 v xs, fun _ _ e _ h => Mine.frame h e⟩
theorem Sta.listM {w wx wy : World} {L : List Item} {v : Value} {xs : List Int} (h : Sta w wx L) (o : Mine wy wx.heap.size v xs) (b : Below wx.heap.size wx wy) : Sta w wy (LstM v xs :: L) := by
  refine h.add b (LstM v xs) (o.mono (Nat.zero_le _)) (fun k hk => ?_)
  have hk' : k ∈ mineOf v xs := hk
  unfold mineOf at hk'
  split at hk'
  · simp at hk'
  · rename_i hx
    exact (o.own (fun e => hx (by rw [e]; rfl))).lt k (by simpa using hk')
theorem Sta.readsM {w wx : World} {L : List Item} {v : Value} {xs : List Int} (h : Sta w wx L) (n : Nat) (e : L[n]? = some (LstM v xs)) : Reads wx v xs := (h.get n e).reads
theorem Sta.markM {w wx wy : World} {L : List Item} {v : Value} {xs ys : List Int} (h : Sta w wx L) (n : Nat) (e : L[n]? = some (LstM v xs)) (hl : ys.length = xs.length) (o : Mine wy 0 v ys) (m : Turned wx wy (mineOf v xs)) : Sta w wy (L.set n (LstM v ys)) :=
  h.turn n e m (LstM v ys) (by show mineOf v ys = mineOf v xs; unfold mineOf; rw [hl]) o
end Go.Proofs.YtlkkpolnllbljaaGreatDoor
