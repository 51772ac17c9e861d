/- The program's actions by commands (heldAfter). -/
import Derived.Test.YtpdggofaobmnlaaGreatDoorM28
import Derived.Test.YtpdggofaobmnlaaGreatDoorM8
import Derived.Test.YtpdggofaobmnlaaGreatDoorM10
import Derived.Deep.DeepCutAuto
namespace Go.Proofs.YtpdggofaobmnlaaGreatDoor
open Go.ChangeShapes Go.WideShapes Go.ChangeAt Go.RowKit

def Hd.after (h : Hd) (i : Int) (c : Cm) : Hd × Int := if c.o = 6 then h.register i c.a else if c.o = 7 then h.reserve i c.k else if c.o = 8 then h.release i else if c.o = 9 then h.clear i else h.preempt i c.a c.k

/- The boxes of a holding and a command, and the answer's. -/
structure Hx (w wx : World) (q : Value) (h : Hd) (c : Cm) : Prop where
  hd : StB wx w.heap.size 28 (hdA q h)
  cm : StB wx (w.heap.size + 1) 32 (cmA c)
  rs : StB wx (w.heap.size + 1 + 1) 28 #[.slice none 0 0, .int .i64 0, .int .i64 0, .int .i64 0]
  bl : Below w.heap.size w wx
  sz : w.heap.size + 3 ≤ wx.heap.size
theorem Hx.start (w : World) (q : Value) (h : Hd) (c : Cm) : Hx w (((w.alloc (.cells (hdA q h) 28)).alloc (.cells (cmA c) 32)).alloc (.cells #[.slice none 0 0, .int .i64 0, .int .i64 0, .int .i64 0] 28)) q h c := by
  have a2 := StB.new (w.alloc (.cells (hdA q h) 28)) 32 (cmA c)
  have a3 := StB.new ((w.alloc (.cells (hdA q h) 28)).alloc (.cells (cmA c) 32)) 28 #[.slice none 0 0, .int .i64 0, .int .i64 0, .int .i64 0]
  simp only [World.size_alloc] at a2 a3
  exact ⟨((StB.new w _ _).alloc _).alloc _, a2.alloc _, a3, (((Below.refl _ _).alloc (Nat.le_refl _) _).alloc (by simp) _).alloc (by simp; omega) _, by simp⟩
theorem Hx.next {w wx wy : World} {q : Value} {h : Hd} {c : Cm} (d : Hx w wx q h c) (b : Below wx.heap.size wx wy) : Hx w wy q h c :=
  ⟨d.hd.below b, d.cm.below b, d.rs.below b, d.bl.trans (b.mono d.bl.size), Nat.le_trans d.sz b.size⟩

set_option maxRecDepth 20000 in
set_option maxHeartbeats 1000000 in
theorem iheldRegister_any (q : Value) (h : Hd) (i : Int) (c : Cm) (w : World) (hq : Reads w q h.ks) (hl : h.ks.length ≤ 1099511627776)  (e6 : c.o = 6) :
    Calls Tryz.prog 114 #[HV q h, .int .i64 i, CV c] w (Ans w (h.register i c.a)) := by
  have E6 : Hid (c.o = 6) := e6
  clear e6
  obtain ⟨w1, hw1⟩ : ∃ w1, w1 = ((w.alloc (.cells (hdA q h) 28)).alloc (.cells (cmA c) 32)).alloc (.cells #[.slice none 0 0, .int .i64 0, .int .i64 0, .int .i64 0] 28) := ⟨_, rfl⟩
  have HX : Hid (Hx w w1 q h c) := by rw [hw1]; exact Hx.start w q h c
  have c1 := iregister_any q h i c.a w1 (hq.below HX.out.bl (Nat.le_refl _)) hl
  obtain ⟨r, hr⟩ : ∃ r, r = h.register i c.a := ⟨_, rfl⟩
  rw [← hr] at c1 ⊢
  obtain ⟨qo, qc, rfl⟩ := reads_form hq
  clear hr hq hl
  unfold Ans HV at c1
  unfold Ans HV CV
  conv in hdA (.slice qo h.ks.length qc) _ => unfold hdA
  unfold cmA
  unfold hdA cmA at hw1
  have k0 : w1.cell? ⟨w.heap.size + 1, 0, none⟩ = some (.int .i64 c.o) := HX.out.cm.cell 0 rfl
  have k2 : w1.cell? ⟨w.heap.size + 1, 2, none⟩ = some (.int .i64 c.a) := HX.out.cm.cell 2 rfl
  have k4 : w1.cell? ⟨w.heap.size + 1, 4, none⟩ = some (.int .i64 c.k) := HX.out.cm.cell 4 rfl
  go_enter Tryz.func114, Tryz.ntmps114
  go_upto_region 1 with fail
  rw [← hw1]
  clear hw1
  have e6 := E6.out
  go_wp2_with (refine wpList_getS Tryz.isH rfl _ rfl w.heap.size rfl _ rfl HX.out.hd ?_)
  refine c1.mono ?_
  rintro e w2 ⟨u, rfl, o2, b2⟩
  have H2 : Hid (Hx w w2 (.slice qo h.ks.length qc) h c) := HX.out.next b2
  have O2 : Hid (Own w2 (w.heap.size + 3) u r.1.ks) := o2.mono HX.out.sz
  obtain ⟨uo, uc, rfl⟩ := reads_form o2.reads
  clear o2 b2 c1 HX k0 k2 k4
  go_wp2_with (refine wpList_putS Tryz.isH rfl _ _ rfl (w.heap.size + 1 + 1) (hdA (.slice uo r.1.ks.length uc) r.1) #[.slice none 0 0, .int .i64 0, .int .i64 0, .int .i64 0] rfl rfl rfl rfl (hdA_one _ rfl) H2.out.rs ?_; intro we se ge)
  refine bodyPost_ret (results_S2 Tryz.isH rfl _ _ (w.heap.size + 1 + 1) _ _ rfl rfl rfl se) rfl ?_
  exact ⟨_, rfl, (O2.out.keptLt ge (by omega)).mono (by omega), H2.out.bl.grown ge H2.out.bl.size (fun x e => by cases e; omega)⟩

set_option maxRecDepth 20000 in
set_option maxHeartbeats 1000000 in
theorem iheldReserve_any (q : Value) (h : Hd) (i : Int) (c : Cm) (w : World) (hq : Reads w q h.ks) (hl : h.ks.length ≤ 1099511627776) (n6 : c.o ≠ 6) (e7 : c.o = 7) :
    Calls Tryz.prog 114 #[HV q h, .int .i64 i, CV c] w (Ans w (h.reserve i c.k)) := by
  have N6 : Hid (c.o ≠ 6) := n6
  clear n6
  have E7 : Hid (c.o = 7) := e7
  clear e7
  obtain ⟨w1, hw1⟩ : ∃ w1, w1 = ((w.alloc (.cells (hdA q h) 28)).alloc (.cells (cmA c) 32)).alloc (.cells #[.slice none 0 0, .int .i64 0, .int .i64 0, .int .i64 0] 28) := ⟨_, rfl⟩
  have HX : Hid (Hx w w1 q h c) := by rw [hw1]; exact Hx.start w q h c
  have c1 := ireserve_any q h i c.k w1 (hq.below HX.out.bl (Nat.le_refl _)) hl
  obtain ⟨r, hr⟩ : ∃ r, r = h.reserve i c.k := ⟨_, rfl⟩
  rw [← hr] at c1 ⊢
  obtain ⟨qo, qc, rfl⟩ := reads_form hq
  clear hr hq hl
  unfold Ans HV at c1
  unfold Ans HV CV
  conv in hdA (.slice qo h.ks.length qc) _ => unfold hdA
  unfold cmA
  unfold hdA cmA at hw1
  have k0 : w1.cell? ⟨w.heap.size + 1, 0, none⟩ = some (.int .i64 c.o) := HX.out.cm.cell 0 rfl
  have k2 : w1.cell? ⟨w.heap.size + 1, 2, none⟩ = some (.int .i64 c.a) := HX.out.cm.cell 2 rfl
  have k4 : w1.cell? ⟨w.heap.size + 1, 4, none⟩ = some (.int .i64 c.k) := HX.out.cm.cell 4 rfl
  go_enter Tryz.func114, Tryz.ntmps114
  go_upto_region 1 with fail
  rw [← hw1]
  clear hw1
  have n6 := N6.out
  have e7 := E7.out
  go_wp2_with (refine wpList_getS Tryz.isH rfl _ rfl w.heap.size rfl _ rfl HX.out.hd ?_)
  refine c1.mono ?_
  rintro e w2 ⟨u, rfl, o2, b2⟩
  have H2 : Hid (Hx w w2 (.slice qo h.ks.length qc) h c) := HX.out.next b2
  have O2 : Hid (Own w2 (w.heap.size + 3) u r.1.ks) := o2.mono HX.out.sz
  obtain ⟨uo, uc, rfl⟩ := reads_form o2.reads
  clear o2 b2 c1 HX k0 k2 k4
  go_wp2_with (refine wpList_putS Tryz.isH rfl _ _ rfl (w.heap.size + 1 + 1) (hdA (.slice uo r.1.ks.length uc) r.1) #[.slice none 0 0, .int .i64 0, .int .i64 0, .int .i64 0] rfl rfl rfl rfl (hdA_one _ rfl) H2.out.rs ?_; intro we se ge)
  refine bodyPost_ret (results_S2 Tryz.isH rfl _ _ (w.heap.size + 1 + 1) _ _ rfl rfl rfl se) rfl ?_
  exact ⟨_, rfl, (O2.out.keptLt ge (by omega)).mono (by omega), H2.out.bl.grown ge H2.out.bl.size (fun x e => by cases e; omega)⟩

set_option maxRecDepth 20000 in
set_option maxHeartbeats 1000000 in
theorem iheldRelease_any (q : Value) (h : Hd) (i : Int) (c : Cm) (w : World) (hq : Reads w q h.ks) (hl : h.ks.length ≤ 1099511627776) (n6 : c.o ≠ 6) (n7 : c.o ≠ 7) (e8 : c.o = 8) :
    Calls Tryz.prog 114 #[HV q h, .int .i64 i, CV c] w (Ans w (h.release i)) := by
  have N6 : Hid (c.o ≠ 6) := n6
  clear n6
  have N7 : Hid (c.o ≠ 7) := n7
  clear n7
  have E8 : Hid (c.o = 8) := e8
  clear e8
  obtain ⟨w1, hw1⟩ : ∃ w1, w1 = ((w.alloc (.cells (hdA q h) 28)).alloc (.cells (cmA c) 32)).alloc (.cells #[.slice none 0 0, .int .i64 0, .int .i64 0, .int .i64 0] 28) := ⟨_, rfl⟩
  have HX : Hid (Hx w w1 q h c) := by rw [hw1]; exact Hx.start w q h c
  have c1 := irelease_any q h i w1 (hq.below HX.out.bl (Nat.le_refl _)) hl
  obtain ⟨r, hr⟩ : ∃ r, r = h.release i := ⟨_, rfl⟩
  rw [← hr] at c1 ⊢
  obtain ⟨qo, qc, rfl⟩ := reads_form hq
  clear hr hq hl
  unfold Ans HV at c1
  unfold Ans HV CV
  conv in hdA (.slice qo h.ks.length qc) _ => unfold hdA
  unfold cmA
  unfold hdA cmA at hw1
  have k0 : w1.cell? ⟨w.heap.size + 1, 0, none⟩ = some (.int .i64 c.o) := HX.out.cm.cell 0 rfl
  have k2 : w1.cell? ⟨w.heap.size + 1, 2, none⟩ = some (.int .i64 c.a) := HX.out.cm.cell 2 rfl
  have k4 : w1.cell? ⟨w.heap.size + 1, 4, none⟩ = some (.int .i64 c.k) := HX.out.cm.cell 4 rfl
  go_enter Tryz.func114, Tryz.ntmps114
  go_upto_region 1 with fail
  rw [← hw1]
  clear hw1
  have n6 := N6.out
  have n7 := N7.out
  have e8 := E8.out
  go_wp2_with (refine wpList_getS Tryz.isH rfl _ rfl w.heap.size rfl _ rfl HX.out.hd ?_)
  refine c1.mono ?_
  rintro e w2 ⟨u, rfl, o2, b2⟩
  have H2 : Hid (Hx w w2 (.slice qo h.ks.length qc) h c) := HX.out.next b2
  have O2 : Hid (Own w2 (w.heap.size + 3) u r.1.ks) := o2.mono HX.out.sz
  obtain ⟨uo, uc, rfl⟩ := reads_form o2.reads
  clear o2 b2 c1 HX k0 k2 k4
  go_wp2_with (refine wpList_putS Tryz.isH rfl _ _ rfl (w.heap.size + 1 + 1) (hdA (.slice uo r.1.ks.length uc) r.1) #[.slice none 0 0, .int .i64 0, .int .i64 0, .int .i64 0] rfl rfl rfl rfl (hdA_one _ rfl) H2.out.rs ?_; intro we se ge)
  refine bodyPost_ret (results_S2 Tryz.isH rfl _ _ (w.heap.size + 1 + 1) _ _ rfl rfl rfl se) rfl ?_
  exact ⟨_, rfl, (O2.out.keptLt ge (by omega)).mono (by omega), H2.out.bl.grown ge H2.out.bl.size (fun x e => by cases e; omega)⟩

set_option maxRecDepth 20000 in
set_option maxHeartbeats 1000000 in
theorem iheldClear_any (q : Value) (h : Hd) (i : Int) (c : Cm) (w : World) (hq : Reads w q h.ks) (hl : h.ks.length ≤ 1099511627776) (n6 : c.o ≠ 6) (n7 : c.o ≠ 7) (n8 : c.o ≠ 8) (e9 : c.o = 9) :
    Calls Tryz.prog 114 #[HV q h, .int .i64 i, CV c] w (Ans w (h.clear i)) := by
  have N6 : Hid (c.o ≠ 6) := n6
  clear n6
  have N7 : Hid (c.o ≠ 7) := n7
  clear n7
  have N8 : Hid (c.o ≠ 8) := n8
  clear n8
  have E9 : Hid (c.o = 9) := e9
  clear e9
  obtain ⟨w1, hw1⟩ : ∃ w1, w1 = ((w.alloc (.cells (hdA q h) 28)).alloc (.cells (cmA c) 32)).alloc (.cells #[.slice none 0 0, .int .i64 0, .int .i64 0, .int .i64 0] 28) := ⟨_, rfl⟩
  have HX : Hid (Hx w w1 q h c) := by rw [hw1]; exact Hx.start w q h c
  have c1 := iclear_any q h i w1 (hq.below HX.out.bl (Nat.le_refl _)) hl
  obtain ⟨r, hr⟩ : ∃ r, r = h.clear i := ⟨_, rfl⟩
  rw [← hr] at c1 ⊢
  obtain ⟨qo, qc, rfl⟩ := reads_form hq
  clear hr hq hl
  unfold Ans HV at c1
  unfold Ans HV CV
  conv in hdA (.slice qo h.ks.length qc) _ => unfold hdA
  unfold cmA
  unfold hdA cmA at hw1
  have k0 : w1.cell? ⟨w.heap.size + 1, 0, none⟩ = some (.int .i64 c.o) := HX.out.cm.cell 0 rfl
  have k2 : w1.cell? ⟨w.heap.size + 1, 2, none⟩ = some (.int .i64 c.a) := HX.out.cm.cell 2 rfl
  have k4 : w1.cell? ⟨w.heap.size + 1, 4, none⟩ = some (.int .i64 c.k) := HX.out.cm.cell 4 rfl
  go_enter Tryz.func114, Tryz.ntmps114
  go_upto_region 1 with fail
  rw [← hw1]
  clear hw1
  have n6 := N6.out
  have n7 := N7.out
  have n8 := N8.out
  have e9 := E9.out
  go_wp2_with (refine wpList_getS Tryz.isH rfl _ rfl w.heap.size rfl _ rfl HX.out.hd ?_)
  refine c1.mono ?_
  rintro e w2 ⟨u, rfl, o2, b2⟩
  have H2 : Hid (Hx w w2 (.slice qo h.ks.length qc) h c) := HX.out.next b2
  have O2 : Hid (Own w2 (w.heap.size + 3) u r.1.ks) := o2.mono HX.out.sz
  obtain ⟨uo, uc, rfl⟩ := reads_form o2.reads
  clear o2 b2 c1 HX k0 k2 k4
  go_wp2_with (refine wpList_putS Tryz.isH rfl _ _ rfl (w.heap.size + 1 + 1) (hdA (.slice uo r.1.ks.length uc) r.1) #[.slice none 0 0, .int .i64 0, .int .i64 0, .int .i64 0] rfl rfl rfl rfl (hdA_one _ rfl) H2.out.rs ?_; intro we se ge)
  refine bodyPost_ret (results_S2 Tryz.isH rfl _ _ (w.heap.size + 1 + 1) _ _ rfl rfl rfl se) rfl ?_
  exact ⟨_, rfl, (O2.out.keptLt ge (by omega)).mono (by omega), H2.out.bl.grown ge H2.out.bl.size (fun x e => by cases e; omega)⟩

set_option maxRecDepth 20000 in
set_option maxHeartbeats 1000000 in
theorem iheldPreempt_any (q : Value) (h : Hd) (i : Int) (c : Cm) (w : World) (hq : Reads w q h.ks) (hl : h.ks.length ≤ 1099511627776) (n6 : c.o ≠ 6) (n7 : c.o ≠ 7) (n8 : c.o ≠ 8) (n9 : c.o ≠ 9) :
    Calls Tryz.prog 114 #[HV q h, .int .i64 i, CV c] w (Ans w (h.preempt i c.a c.k)) := by
  have N6 : Hid (c.o ≠ 6) := n6
  clear n6
  have N7 : Hid (c.o ≠ 7) := n7
  clear n7
  have N8 : Hid (c.o ≠ 8) := n8
  clear n8
  have N9 : Hid (c.o ≠ 9) := n9
  clear n9
  obtain ⟨w1, hw1⟩ : ∃ w1, w1 = ((w.alloc (.cells (hdA q h) 28)).alloc (.cells (cmA c) 32)).alloc (.cells #[.slice none 0 0, .int .i64 0, .int .i64 0, .int .i64 0] 28) := ⟨_, rfl⟩
  have HX : Hid (Hx w w1 q h c) := by rw [hw1]; exact Hx.start w q h c
  have c1 := ipreempt_any q h i c.a c.k w1 (hq.below HX.out.bl (Nat.le_refl _)) hl
  obtain ⟨r, hr⟩ : ∃ r, r = h.preempt i c.a c.k := ⟨_, rfl⟩
  rw [← hr] at c1 ⊢
  obtain ⟨qo, qc, rfl⟩ := reads_form hq
  clear hr hq hl
  unfold Ans HV at c1
  unfold Ans HV CV
  conv in hdA (.slice qo h.ks.length qc) _ => unfold hdA
  unfold cmA
  unfold hdA cmA at hw1
  have k0 : w1.cell? ⟨w.heap.size + 1, 0, none⟩ = some (.int .i64 c.o) := HX.out.cm.cell 0 rfl
  have k2 : w1.cell? ⟨w.heap.size + 1, 2, none⟩ = some (.int .i64 c.a) := HX.out.cm.cell 2 rfl
  have k4 : w1.cell? ⟨w.heap.size + 1, 4, none⟩ = some (.int .i64 c.k) := HX.out.cm.cell 4 rfl
  go_enter Tryz.func114, Tryz.ntmps114
  go_upto_region 1 with fail
  rw [← hw1]
  clear hw1
  have n6 := N6.out
  have n7 := N7.out
  have n8 := N8.out
  have n9 := N9.out
  go_wp2_with (refine wpList_getS Tryz.isH rfl _ rfl w.heap.size rfl _ rfl HX.out.hd ?_)
  refine c1.mono ?_
  rintro e w2 ⟨u, rfl, o2, b2⟩
  have H2 : Hid (Hx w w2 (.slice qo h.ks.length qc) h c) := HX.out.next b2
  have O2 : Hid (Own w2 (w.heap.size + 3) u r.1.ks) := o2.mono HX.out.sz
  obtain ⟨uo, uc, rfl⟩ := reads_form o2.reads
  clear o2 b2 c1 HX k0 k2 k4
  go_wp2_with (refine wpList_putS Tryz.isH rfl _ _ rfl (w.heap.size + 1 + 1) (hdA (.slice uo r.1.ks.length uc) r.1) #[.slice none 0 0, .int .i64 0, .int .i64 0, .int .i64 0] rfl rfl rfl rfl (hdA_one _ rfl) H2.out.rs ?_; intro we se ge)
  refine bodyPost_ret (results_S2 Tryz.isH rfl _ _ (w.heap.size + 1 + 1) _ _ rfl rfl rfl se) rfl ?_
  exact ⟨_, rfl, (O2.out.keptLt ge (by omega)).mono (by omega), H2.out.bl.grown ge H2.out.bl.size (fun x e => by cases e; omega)⟩

theorem iheldAfter_any (q : Value) (h : Hd) (i : Int) (c : Cm) (w : World) (hq : Reads w q h.ks) (hl : h.ks.length ≤ 1099511627776) :
    Calls Tryz.prog 114 #[HV q h, .int .i64 i, CV c] w (Ans w (h.after i c)) := by
  unfold Hd.after
  by_cases e6 : c.o = 6
  · rw [if_pos e6]; exact iheldRegister_any q h i c w hq hl e6
  rw [if_neg e6]
  by_cases e7 : c.o = 7
  · rw [if_pos e7]; exact iheldReserve_any q h i c w hq hl e6 e7
  rw [if_neg e7]
  by_cases e8 : c.o = 8
  · rw [if_pos e8]; exact iheldRelease_any q h i c w hq hl e6 e7 e8
  rw [if_neg e8]
  by_cases e9 : c.o = 9
  · rw [if_pos e9]; exact iheldClear_any q h i c w hq hl e6 e7 e8 e9
  rw [if_neg e9]
  exact iheldPreempt_any q h i c w hq hl e6 e7 e8 e9
end Go.Proofs.YtpdggofaobmnlaaGreatDoor
