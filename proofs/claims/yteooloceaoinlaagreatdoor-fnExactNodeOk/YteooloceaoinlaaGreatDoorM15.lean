/- Copiers by the model: l13Turns, CopierOk, Clean. -/
import Derived.Test.YteooloceaoinlaaGreatDoorM13
import Derived.Test.YteooloceaoinlaaGreatDoorM6
import Derived.Test.YteooloceaoinlaaGreatDoorM14
import Derived.Test.YteooloceaoinlaaGreatDoorM2
import Derived.Test.YteooloceaoinlaaGreatDoorSta
import Derived.Test.YteooloceaoinlaaGreatDoorM5
import Derived.BigRegion
import Derived.Deep.RegionHeld3
import Derived.Deep.DeepCutAuto
namespace Go.Proofs.YteooloceaoinlaaGreatDoor
open Go.ChangeShapes Go.WideShapes Go.ChangeAt Go.RowKit

def cpA (v : Value) (c : Cp) : Array Value := #[.int .i64 c.tr, .bool c.op, .int .i64 c.di, .int .i64 c.wa, v]
def CpV (v : Value) (c : Cp) : Value := .agg (cpA v c)
def zeroCp : Array Value := #[.int .i64 0, .bool false, .int .i64 0, .int .i64 0, .slice none 0 0]
theorem zeroCp_one : zeroCp.all (·.oneCell') = true := by simp [zeroCp, Value.oneCell']
theorem Tryz.isCp : IsS 40 5 := ⟨⟨_, Tryz.underlying40⟩, by kernel_rfl⟩
theorem cpA_one {v : Value} (c : Cp) (hv : v.oneCell' = true) : (cpA v c).all (·.oneCell') = true := by
  unfold cpA
  simp [hv, show ∀ k n, (Value.int k n).oneCell' = true from fun _ _ => rfl, show ∀ b, (Value.bool b).oneCell' = true from fun _ => rfl]

set_option maxRecDepth 20000 in
set_option maxHeartbeats 1000000 in
theorem sturns_any (v : Value) (ts : List Int) (w : World) (hr : Reads w v ts) (hl : ts.length ≤ 1099511627776) :
    Calls Tryz.prog 68 #[v] w fun e w' => e = .returned (.bool (turnsI ts && inI ts.length 1 8)) ∧ w' = w := by
  have HE : Hid (∀ b : Bool, turnsI ts = b → (turnsI ts && inI ts.length 1 8) = (b && inI ts.length 1 8)) := fun b h => by rw [h]
  obtain ⟨ao, cap, rfl⟩ := reads_form hr
  obtain ⟨-, hc1, hc2, hcell⟩ := reads_cells hr
  have ck := fun x wx => sin6_any x 0 1000000000 wx
  have cl := fun wx => sin6_any (ts.length : Int) 1 8 wx
  obtain ⟨x, hx⟩ : ∃ x, x = (turnsI ts && inI ts.length 1 8) := ⟨_, rfl⟩
  simp only [← hx] at HE ⊢
  obtain ⟨y, hy⟩ : ∃ y, y = inI ts.length 1 8 := ⟨_, rfl⟩
  simp only [← hy] at HE cl
  obtain ⟨n, hn⟩ : ∃ n, n = ts.length := ⟨_, rfl⟩
  rw [← hn] at hl hc1 hcell
  simp only [← hn] at cl ⊢
  have HN : Hid (n = ts.length) := hn
  unfold maxLen at hc2
  clear hr hn hx hy
  go_enter Tryz.func68, Tryz.ntmps68
  go_wp2
  go_loop [3] (fun i => ∃ j : Nat, j ≤ n ∧ i = .int .i64 j ∧ Hid (turnsI (ts.take j) = true)) (fun i => n - (intOf i).toNat)
  case atStart => exact ⟨0, Nat.zero_le _, rfl, by simp [Hid, turnsI]⟩
  case round =>
    obtain ⟨j, hj, rfl, HT⟩ := hrel
    by_cases hlt : (j : Int) < (n : Int)
    · obtain ⟨b, off, rfl, hcj⟩ := hcell j (by omega)
      clear hcell cl
      have hjl : j < ts.length := by have := HN.out; omega
      have HA : Hid (inI (ts.getD j 0) 0 1000000000 = false → turnsI ts = false) := turns_not ts j hjl
      have HZ : Hid (inI (ts.getD j 0) 0 1000000000 = true → turnsI (ts.take (j + 1)) = true) := turns_take ts j hjl HT.out
      have ckj := fun wx => ck (ts.getD j 0) wx
      obtain ⟨z, hz⟩ : ∃ z, z = ts.getD j 0 := ⟨_, rfl⟩
      rw [← hz] at hcj HA HZ
      simp only [← hz] at ckj
      obtain ⟨bz, hbz⟩ : ∃ bz, bz = inI z 0 1000000000 := ⟨_, rfl⟩
      rw [← hbz] at HA HZ
      simp only [← hbz] at ckj
      clear hz hjl hbz ck
      go_wp2_with fail
      refine (ckj _).mono ?_
      rintro e w' ⟨rfl, hw⟩; subst w'
      cases bz with
      | true =>
        have HZ2 : Hid (turnsI (ts.take (j + 1)) = true) := HZ.out rfl
        clear HZ HA
        go_wp2
        go_round
        case rel => exact ⟨j + 1, by omega, by go_num, HZ2.out⟩
        case measure => simp [intOf]; omega
      | false =>
        have HX : Hid (x = false) := by rw [Hid, HE.out false (HA.out rfl)]; rfl
        clear HZ HA
        go_wp2
        go_ret
        rw [HX.out]
        exact ⟨rfl, rfl⟩
    · have HX : Hid (x = y) := by
        have := HT.out
        rw [List.take_of_length_le (by have := HN.out; omega)] at this
        rw [Hid, HE.out true this]; rfl
      clear HT ck
      go_wp2_with fail
      refine (cl _).mono ?_
      rintro e w' ⟨rfl, hw⟩; subst w'
      go_wp2
      go_ret
      rw [HX.out]
      exact ⟨rfl, rfl⟩

set_option maxRecDepth 20000 in
set_option maxHeartbeats 2000000 in
theorem scopok_any (v : Value) (c : Cp) (w : World) (hr : Reads w v c.ts) (hl : c.ts.length ≤ 1099511627776) :
    Calls Tryz.prog 25 #[CpV v c] w fun e w' => e = .returned (.bool c.ok) ∧ Below w.heap.size w w' := by
  have HE : Hid (c.ok = if c.tr = 0 then (!c.op && decide (c.di = 0) && decide (c.wa = 0) && decide (c.ts.length = 0)) else (inI c.tr 1 100000 && (turnsI c.ts && inI c.ts.length 1 8) && (inI c.di 0 (fullI c.ts.length) && inI c.wa 0 (fullI c.ts.length)))) := rfl
  obtain ⟨ao, cap, rfl⟩ := reads_form hr
  obtain ⟨w1, hw1⟩ : ∃ w1, w1 = w.alloc (.cells (cpA (.slice ao c.ts.length cap) c) 40) := ⟨_, rfl⟩
  have H1 : StB w1 w.heap.size 40 (cpA (.slice ao c.ts.length cap) c) := by rw [hw1]; exact StB.new _ _ _
  have HB : Hid (Below w.heap.size w w1) := by rw [hw1]; exact (Below.refl _ _).alloc (Nat.le_refl _) _
  have HW : Hid (w1 = w.alloc (.cells #[.int .i64 c.tr, .bool c.op, .int .i64 c.di, .int .i64 c.wa, .slice ao c.ts.length cap] 40)) := hw1
  have k0 : w1.cell? ⟨w.heap.size, 0, none⟩ = some (.int .i64 c.tr) := H1.cell 0 rfl
  have k1 : w1.cell? ⟨w.heap.size, 1, none⟩ = some (.bool c.op) := H1.cell 1 rfl
  have k2 : w1.cell? ⟨w.heap.size, 2, none⟩ = some (.int .i64 c.di) := H1.cell 2 rfl
  have k3 : w1.cell? ⟨w.heap.size, 3, none⟩ = some (.int .i64 c.wa) := H1.cell 3 rfl
  have k4 : w1.cell? ⟨w.heap.size, 4, none⟩ = some (.slice ao c.ts.length cap) := H1.cell 4 rfl
  have ct := fun wx => sin6_any c.tr 1 100000 wx
  have cs := sturns_any (.slice ao c.ts.length cap) c.ts w1 (hr.below HB.out (Nat.le_refl _)) hl
  have cf := fun wx => sfull_any (c.ts.length : Int) wx
  have cd := fun wx => sin6_any c.di 0 (fullI c.ts.length) wx
  have cw := fun wx => sin6_any c.wa 0 (fullI c.ts.length) wx
  obtain ⟨x, hx⟩ : ∃ x, x = c.ok := ⟨_, rfl⟩
  rw [← hx] at HE ⊢
  obtain ⟨bt, hbt⟩ : ∃ bt, bt = inI c.tr 1 100000 := ⟨_, rfl⟩
  rw [← hbt] at HE
  simp only [← hbt] at ct
  obtain ⟨bs, hbs⟩ : ∃ bs, bs = (turnsI c.ts && inI c.ts.length 1 8) := ⟨_, rfl⟩
  rw [← hbs] at HE
  simp only [← hbs] at cs
  obtain ⟨f, hf⟩ : ∃ f, f = fullI c.ts.length := ⟨_, rfl⟩
  rw [← hf] at HE
  simp only [← hf] at cf cd cw
  obtain ⟨bd, hbd⟩ : ∃ bd, bd = inI c.di 0 f := ⟨_, rfl⟩
  rw [← hbd] at HE
  simp only [← hbd] at cd
  obtain ⟨bw, hbw⟩ : ∃ bw, bw = inI c.wa 0 f := ⟨_, rfl⟩
  rw [← hbw] at HE
  simp only [← hbw] at cw
  obtain ⟨n, hn⟩ : ∃ n, n = c.ts.length := ⟨_, rfl⟩
  rw [← hn] at hl k4 HW HE cs
  simp only [← hn] at cf
  unfold CpV cpA
  rw [← hn]
  clear hw1 H1 hr hn hx hbt hbs hf hbd hbw
  by_cases ht : c.tr = 0
  · have HX : Hid (x = (!c.op && decide (c.di = 0) && decide (c.wa = 0) && decide (n = 0))) := by rw [Hid, HE.out, if_pos ht]
    clear HE ct cs cf cd cw
    have e1 : (c.tr == 0) = true := by simpa using ht
    have HX2 : Hid (x = (!c.op && (c.di == 0) && (c.wa == 0) && ((n : Int) == 0))) := by
      rw [Hid, HX.out]
      congr 1
      rw [Bool.eq_iff_iff]; simp
    clear HX
    cases ho : c.op with
    | true =>
      rw [ho] at HX2 HW k1
      go_enter Tryz.func25, Tryz.ntmps25
      go_wp2
      go_ret
      exact ⟨ret_bool (by rw [HX2.out]; rfl), (Below.refl _ _).alloc (Nat.le_refl _) _⟩
    | false =>
      rw [ho] at HX2 HW k1
      by_cases hd : c.di = 0
      · by_cases hw : c.wa = 0
        · by_cases hn0 : (n : Int) = 0
          · go_enter Tryz.func25, Tryz.ntmps25
            go_wp2
            go_ret
            exact ⟨ret_bool (by rw [HX2.out]; simp [hd, hw, hn0]), (Below.refl _ _).alloc (Nat.le_refl _) _⟩
          · go_enter Tryz.func25, Tryz.ntmps25
            go_wp2
            go_ret
            exact ⟨ret_bool (by rw [HX2.out]; simp [hd, hw]), (Below.refl _ _).alloc (Nat.le_refl _) _⟩
        · go_enter Tryz.func25, Tryz.ntmps25
          go_wp2
          go_ret
          exact ⟨ret_bool (by rw [HX2.out]; simp [hd, hw]), (Below.refl _ _).alloc (Nat.le_refl _) _⟩
      · go_enter Tryz.func25, Tryz.ntmps25
        go_wp2
        go_ret
        exact ⟨ret_bool (by rw [HX2.out]; simp [hd]), (Below.refl _ _).alloc (Nat.le_refl _) _⟩
  · have HX : Hid (x = (bt && bs && (bd && bw))) := by rw [Hid, HE.out, if_neg ht]
    have e1 : (c.tr == 0) = false := by simpa using ht
    clear HE
    go_enter Tryz.func25, Tryz.ntmps25
    go_wp2_with fail
    rw [← HW.out]
    refine (ct _).mono ?_
    rintro e w' ⟨rfl, hw⟩; subst w'
    clear ct
    cases bt with
    | false =>
      go_wp2
      go_ret
      exact ⟨ret_bool (by rw [HX.out]; rfl), HB.out⟩
    | true =>
      go_wp2_with fail
      refine cs.mono ?_
      rintro e w' ⟨rfl, hw⟩; subst w'
      clear cs
      cases bs with
      | false =>
        go_wp2
        go_ret
        exact ⟨ret_bool (by rw [HX.out]; rfl), HB.out⟩
      | true =>
        go_wp2_with fail
        refine (cf _).mono ?_
        rintro e w' ⟨rfl, hw⟩; subst w'
        clear cf
        go_wp2_with fail
        refine (cd _).mono ?_
        rintro e w' ⟨rfl, hw⟩; subst w'
        clear cd
        cases bd with
        | false =>
          go_wp2
          go_ret
          exact ⟨ret_bool (by rw [HX.out]; rfl), HB.out⟩
        | true =>
          go_wp2_with fail
          refine (cw _).mono ?_
          rintro e w' ⟨rfl, hw⟩; subst w'
          clear cw
          go_wp2
          go_ret
          exact ⟨ret_bool (by rw [HX.out]; rfl), HB.out⟩
end Go.Proofs.YteooloceaoinlaaGreatDoor
/- Sinks by the model: SinkOk, NewSink, l14Fits, Fits, l14Copy, Received. -/
namespace Go.Proofs.YteooloceaoinlaaGreatDoor
open Go.ChangeShapes Go.WideShapes Go.ChangeAt Go.RowKit

def snA (v : Value) (c : Sn) : Array Value := #[.int .i64 c.tr, v]
def SnV (v : Value) (c : Sn) : Value := .agg (snA v c)
def zeroSn : Array Value := #[.int .i64 0, .slice none 0 0]
theorem zeroSn_one : zeroSn.all (·.oneCell') = true := by simp [zeroSn, Value.oneCell']
theorem Tryz.isSn : IsS 41 2 := ⟨⟨_, Tryz.underlying41⟩, by kernel_rfl⟩
theorem snA_one {v : Value} (c : Sn) (hv : v.oneCell' = true) : (snA v c).all (·.oneCell') = true := by
  unfold snA
  simp [hv, show ∀ k n, (Value.int k n).oneCell' = true from fun _ _ => rfl]

set_option maxRecDepth 20000 in
set_option maxHeartbeats 1000000 in
theorem ssinkok_any (v : Value) (c : Sn) (w : World) (hr : Reads w v c.ts) (hl : c.ts.length ≤ 1099511627776) :
    Calls Tryz.prog 26 #[SnV v c] w fun e w' => e = .returned (.bool c.ok) ∧ Below w.heap.size w w' := by
  have HE : Hid (c.ok = if c.tr = 0 then decide (c.ts.length = 0) else (inI c.tr 1 100000 && (turnsI c.ts && inI c.ts.length 1 8))) := rfl
  obtain ⟨ao, cap, rfl⟩ := reads_form hr
  obtain ⟨w1, hw1⟩ : ∃ w1, w1 = w.alloc (.cells (snA (.slice ao c.ts.length cap) c) 41) := ⟨_, rfl⟩
  have H1 : StB w1 w.heap.size 41 (snA (.slice ao c.ts.length cap) c) := by rw [hw1]; exact StB.new _ _ _
  have HB : Hid (Below w.heap.size w w1) := by rw [hw1]; exact (Below.refl _ _).alloc (Nat.le_refl _) _
  have HW : Hid (w1 = w.alloc (.cells #[.int .i64 c.tr, .slice ao c.ts.length cap] 41)) := hw1
  have k0 : w1.cell? ⟨w.heap.size, 0, none⟩ = some (.int .i64 c.tr) := H1.cell 0 rfl
  have k1 : w1.cell? ⟨w.heap.size, 1, none⟩ = some (.slice ao c.ts.length cap) := H1.cell 1 rfl
  have ct := fun wx => sin6_any c.tr 1 100000 wx
  have cs := sturns_any (.slice ao c.ts.length cap) c.ts w1 (hr.below HB.out (Nat.le_refl _)) hl
  obtain ⟨x, hx⟩ : ∃ x, x = c.ok := ⟨_, rfl⟩
  rw [← hx] at HE ⊢
  obtain ⟨bt, hbt⟩ : ∃ bt, bt = inI c.tr 1 100000 := ⟨_, rfl⟩
  rw [← hbt] at HE
  simp only [← hbt] at ct
  obtain ⟨bs, hbs⟩ : ∃ bs, bs = (turnsI c.ts && inI c.ts.length 1 8) := ⟨_, rfl⟩
  rw [← hbs] at HE
  simp only [← hbs] at cs
  obtain ⟨n, hn⟩ : ∃ n, n = c.ts.length := ⟨_, rfl⟩
  rw [← hn] at hl k1 HW HE cs
  unfold SnV snA
  rw [← hn]
  clear hw1 H1 hr hn hx hbt hbs
  by_cases ht : c.tr = 0
  · have HX : Hid (x = ((n : Int) == 0)) := by
      rw [Hid, HE.out, if_pos ht, Bool.eq_iff_iff]; simp
    have e1 : (c.tr == 0) = true := by simpa using ht
    clear HE ct cs
    go_enter Tryz.func26, Tryz.ntmps26
    go_wp2
    go_ret
    exact ⟨ret_bool (by rw [HX.out]), (Below.refl _ _).alloc (Nat.le_refl _) _⟩
  · have HX : Hid (x = (bt && bs)) := by rw [Hid, HE.out, if_neg ht]
    have e1 : (c.tr == 0) = false := by simpa using ht
    clear HE
    go_enter Tryz.func26, Tryz.ntmps26
    go_wp2_with fail
    rw [← HW.out]
    refine (ct _).mono ?_
    rintro e w' ⟨rfl, hw⟩; subst w'
    clear ct
    cases bt with
    | false =>
      go_wp2
      go_ret
      exact ⟨ret_bool (by rw [HX.out]; rfl), HB.out⟩
    | true =>
      go_wp2_with fail
      refine cs.mono ?_
      rintro e w' ⟨rfl, hw⟩; subst w'
      clear cs
      go_wp2
      go_ret
      exact ⟨ret_bool (by rw [HX.out]; rfl), HB.out⟩

set_option maxRecDepth 20000 in
set_option maxHeartbeats 2000000 in
theorem scopyS_any (v : Value) (c : Sn) (w : World) (hr : Reads w v c.ts) (hl : c.ts.length ≤ 1099511627776) :
    Calls Tryz.prog 84 #[SnV v c] w fun e w' => ∃ u, e = .returned (SnV u c) ∧ Own w' w.heap.size u c.ts ∧ Below w.heap.size w w' := by
  obtain ⟨w1, hw1⟩ : ∃ w1, w1 = (w.alloc (.cells (snA v c) 41)).alloc (.cells zeroSn 41) := ⟨_, rfl⟩
  have p0 : StB w1 w.heap.size 41 (snA v c) := by rw [hw1]; exact (StB.new w _ _).alloc _
  have q0 : StB w1 (w.heap.size + 1) 41 zeroSn := by
    rw [hw1]
    have := StB.new (w.alloc (.cells (snA v c) 41)) 41 zeroSn
    rwa [World.size_alloc] at this
  have b1 : Below w.heap.size w w1 := by rw [hw1]; exact ((Below.refl _ _).alloc (Nat.le_refl _) _).alloc (by simp) _
  have c1 := copy_any v c.ts w1 (hr.below b1 (Nat.le_refl _)) hl
  have hs1 := q0.lt
  obtain ⟨ao, cap, rfl⟩ := reads_form hr
  have HW : Hid (w1 = (w.alloc (.cells #[.int .i64 c.tr, .slice ao c.ts.length cap] 41)).alloc (.cells #[.int .i64 0, .slice none 0 0] 41)) := hw1
  have k1 : w1.cell? ⟨w.heap.size, 1, none⟩ = some (.slice ao c.ts.length cap) := p0.cell 1 rfl
  clear hw1 hr hl
  unfold SnV snA
  go_enter Tryz.func84, Tryz.ntmps84
  go_wp2_with fail
  rw [← HW.out]
  clear HW
  refine c1.mono ?_
  rintro e w3 ⟨u, rfl, o3, b3⟩
  replace p0 := p0.below b3
  replace q0 := q0.below b3
  have B3 := b1.trans (b3.mono b1.size)
  obtain ⟨ab, cb, rfl⟩ := reads_form o3.reads
  have k0 : w3.cell? ⟨w.heap.size, 1, none⟩ = some (.slice ao c.ts.length cap) := p0.cell 1 rfl
  have f0 := p0.frozen 1
  have r4 := p0.put 1 (.slice ab c.ts.length cb) (ds := snA (.slice ab c.ts.length cb) c) rfl
  have q4 := q0.other ⟨w.heap.size, 1, none⟩ (.slice ab c.ts.length cb) (by simp)
  have HP : Hid (Own (w3.setCell ⟨w.heap.size, 1, none⟩ (.slice ab c.ts.length cb)) w1.heap.size (.slice ab c.ts.length cb) c.ts ∧ Below w.heap.size w (w3.setCell ⟨w.heap.size, 1, none⟩ (.slice ab c.ts.length cb))) := ⟨o3.setLt (by omega) 1 _, B3.setCell (Nat.le_refl _) _⟩
  clear k1 p0 q0 c1 o3 b3 b1 B3
  go_upto_region 2 with fail
  obtain ⟨w4, hw4⟩ : ∃ w4, w4 = w3.setCell ⟨w.heap.size, 1, none⟩ (.slice ab c.ts.length cb) := ⟨_, rfl⟩
  rw [← hw4] at r4 q4 HP ⊢
  clear hw4 k0 f0
  go_wp2_with (first | (refine wpList_getS Tryz.isSn rfl _ rfl w.heap.size rfl (snA (.slice ab c.ts.length cb) c) rfl r4 ?_) | (refine wpList_putS Tryz.isSn rfl _ _ rfl (w.heap.size + 1) (snA (.slice ab c.ts.length cb) c) zeroSn rfl rfl rfl rfl (snA_one c rfl) q4 ?_; intro w8 s8 g8))
  refine bodyPost_ret (results_S Tryz.isSn rfl _ _ (w.heap.size + 1) _ rfl rfl s8) rfl ?_
  exact ⟨_, rfl, (HP.out.1.keptLt g8 (by omega)).mono (by omega), HP.out.2.grown g8 HP.out.2.size (fun k e => by cases e; omega)⟩

end Go.Proofs.YteooloceaoinlaaGreatDoor
