/- Register, Reserve, Release, Clear and Preempt, by the program. -/
import Derived.Test.YtppkncmlloelbaaActPl
import Derived.Test.YtppkncmlloelbaaSAct4
namespace Go.Proofs.Ytppkncmlloelbaa
open Go.ChangeShapes Go.WideShapes Go.ChangeAt Go.RowKit

def Ent (n : FuncId) : Prop := ∀ args wx, (callFunc n args).run Try.prog wx = .ok (.enter n args) wx
theorem ent_wish_anyKey : Ent 84 := by intro args wx; kernel_rfl
theorem ent_held_refusesNobody : Ent 85 := by intro args wx; kernel_rfl
theorem ent_held_rekeyed : Ent 86 := by intro args wx; kernel_rfl
theorem ent_wish_someKind : Ent 87 := by intro args wx; kernel_rfl
theorem ent_held_isTaken : Ent 88 := by intro args wx; kernel_rfl
theorem ent_held_heldBy : Ent 89 := by intro args wx; kernel_rfl
theorem ent_wish_anything : Ent 90 := by intro args wx; kernel_rfl
theorem ent_held_isStrangeTo : Ent 91 := by intro args wx; kernel_rfl
theorem ent_held_left : Ent 92 := by intro args wx; kernel_rfl
theorem ent_held_cleared : Ent 93 := by intro args wx; kernel_rfl
theorem ent_wish_someKeyAndKind : Ent 94 := by intro args wx; kernel_rfl
theorem ent_held_hasNoSuchKey : Ent 95 := by intro args wx; kernel_rfl
theorem ent_held_preempted : Ent 96 := by intro args wx; kernel_rfl
theorem ok_turn {h : Hd} (e : h.ok = true) : 0 ≤ h.tu ∧ h.tu ≤ 1000000000 := (Hd.ok_all e).2.1
theorem in_four {i : Int} (e : inI i 0 3 = true) : 0 ≤ i ∧ i < 4 := by have := (inI_iff _ _ _).1 e; omega

set_option maxRecDepth 20000 in
set_option maxHeartbeats 1000000 in
theorem iregister_any (v : Value) (h : Hd) (i key : Int) (w : World) (hr : Reads w v h.ks) (hl : h.ks.length ≤ 1099511627776) :
    Calls Try.prog 14 #[HV v h, .int .i64 i, .int .i64 key] w (Ans w (h.register i key)) := by
  obtain ⟨ao, cap, rfl⟩ := reads_form hr
  obtain ⟨w1, hw1⟩ : ∃ w1, w1 = (w.alloc (.cells (hdA (.slice ao h.ks.length cap) h) 26)).alloc (.cells #[.slice none 0 0, .int .i64 0, .int .i64 0, .int .i64 0] 26) := ⟨_, rfl⟩
  have HB : Hid (Bx w w1 (.slice ao h.ks.length cap) h) := by rw [hw1]; exact Bx.start hr
  have c := iacted_any 0 84 85 86 idxA0 (.slice ao h.ks.length cap) h i key 0 w1 HB.out.2.2.2.2 hl (inI key 0 9999) (false) (updF (KF h.ks) i.toNat key) (if midF (updF (KF h.ks) i.toNat key) h.kd h.ho then h.kd else 0) (if midF (updF (KF h.ks) i.toNat key) h.kd h.ho then h.ho else -1) (turnI h.tu) ent_wish_anyKey ent_held_refusesNobody ent_held_rekeyed
    (fun wx => ianykey_any i key 0 wx) (fun _ _ _ wx => inobody_any (KF h.ks) h.kd h.ho h.tu i key 0 wx) (fun ok hi _ _ wx => irekeyed_any (KF h.ks) h.kd h.ho h.tu i key 0 wx (ok_turn ok).1 (ok_turn ok).2 (in_four hi).1 (in_four hi).2)
  rw [registerA] at c
  obtain ⟨r, HE⟩ : ∃ r, Hid (r = h.register i key) := ⟨_, rfl⟩
  rw [← HE.out] at c ⊢
  clear HE hr hl
  obtain ⟨z, t⟩ := r
  unfold Ans HV wiA at c
  dsimp only at c
  unfold hdA at hw1
  unfold HV
  conv in hdA (.slice ao h.ks.length cap) h => unfold hdA
  have hs := HB.out.2.2.2.1
  go_enter Try.func14, Try.ntmps14
  go_upto_region 1 with fail
  rw [← hw1]
  clear hw1
  go_wp2_with (first | (refine wpList_getS Try.isH rfl _ rfl w.heap.size rfl (hdA (.slice ao h.ks.length cap) h) rfl HB.out.1 ?_) | (go_at_call 45; refine c.mono ?_; rintro e w2 ⟨u, rfl, o2, b2⟩; have HB2 : Hid (Bx w w2 (.slice ao h.ks.length cap) h) := HB.out.next b2; have O2 : Hid (Own w2 w1.heap.size u z.ks) := o2; have ho1 := reads_one o2.reads; clear b2 o2) | (refine wpList_putS Try.isH rfl _ _ rfl (w.heap.size + 1) (hdA u z) #[.slice none 0 0, .int .i64 0, .int .i64 0, .int .i64 0] rfl rfl rfl rfl (hdA_one _ ho1) HB2.out.2.1 ?_; intro we se ge))
  refine bodyPost_ret (results_S2 Try.isH rfl _ _ (w.heap.size + 1) _ _ rfl rfl rfl se) rfl ?_
  exact ⟨u, rfl, (O2.out.keptLt ge (by omega)).mono (by omega), HB2.out.2.2.1.grown ge HB2.out.2.2.1.size (fun x e => by cases e; omega)⟩

set_option maxRecDepth 20000 in
set_option maxHeartbeats 1000000 in
theorem ireserve_any (v : Value) (h : Hd) (i k : Int) (w : World) (hr : Reads w v h.ks) (hl : h.ks.length ≤ 1099511627776) :
    Calls Try.prog 27 #[HV v h, .int .i64 i, .int .i64 k] w (Ans w (h.reserve i k)) := by
  obtain ⟨ao, cap, rfl⟩ := reads_form hr
  obtain ⟨w1, hw1⟩ : ∃ w1, w1 = (w.alloc (.cells (hdA (.slice ao h.ks.length cap) h) 26)).alloc (.cells #[.slice none 0 0, .int .i64 0, .int .i64 0, .int .i64 0] 26) := ⟨_, rfl⟩
  have HB : Hid (Bx w w1 (.slice ao h.ks.length cap) h) := by rw [hw1]; exact Bx.start hr
  have c := iacted_any 1 87 88 89 idxA1 (.slice ao h.ks.length cap) h i 0 k w1 HB.out.2.2.2.2 hl (kiI k) (takenI (KF h.ks) h.kd h.ho i k) (KF h.ks) k (if allI k then -1 else i) h.tu ent_wish_someKind ent_held_isTaken ent_held_heldBy
    (fun wx => isomekind_any i 0 k wx) (fun _ _ _ wx => itaken_any (KF h.ks) h.kd h.ho h.tu i 0 k wx) (fun _ _ _ _ wx => iheldby_any (KF h.ks) h.kd h.ho h.tu i 0 k wx)
  rw [reserveA] at c
  obtain ⟨r, HE⟩ : ∃ r, Hid (r = h.reserve i k) := ⟨_, rfl⟩
  rw [← HE.out] at c ⊢
  clear HE hr hl
  obtain ⟨z, t⟩ := r
  unfold Ans HV wiA at c
  dsimp only at c
  unfold hdA at hw1
  unfold HV
  conv in hdA (.slice ao h.ks.length cap) h => unfold hdA
  have hs := HB.out.2.2.2.1
  go_enter Try.func27, Try.ntmps27
  go_upto_region 1 with fail
  rw [← hw1]
  clear hw1
  go_wp2_with (first | (refine wpList_getS Try.isH rfl _ rfl w.heap.size rfl (hdA (.slice ao h.ks.length cap) h) rfl HB.out.1 ?_) | (go_at_call 45; refine c.mono ?_; rintro e w2 ⟨u, rfl, o2, b2⟩; have HB2 : Hid (Bx w w2 (.slice ao h.ks.length cap) h) := HB.out.next b2; have O2 : Hid (Own w2 w1.heap.size u z.ks) := o2; have ho1 := reads_one o2.reads; clear b2 o2) | (refine wpList_putS Try.isH rfl _ _ rfl (w.heap.size + 1) (hdA u z) #[.slice none 0 0, .int .i64 0, .int .i64 0, .int .i64 0] rfl rfl rfl rfl (hdA_one _ ho1) HB2.out.2.1 ?_; intro we se ge))
  refine bodyPost_ret (results_S2 Try.isH rfl _ _ (w.heap.size + 1) _ _ rfl rfl rfl se) rfl ?_
  exact ⟨u, rfl, (O2.out.keptLt ge (by omega)).mono (by omega), HB2.out.2.2.1.grown ge HB2.out.2.2.1.size (fun x e => by cases e; omega)⟩

set_option maxRecDepth 20000 in
set_option maxHeartbeats 1000000 in
theorem irelease_any (v : Value) (h : Hd) (i : Int) (w : World) (hr : Reads w v h.ks) (hl : h.ks.length ≤ 1099511627776) :
    Calls Try.prog 28 #[HV v h, .int .i64 i] w (Ans w (h.release i)) := by
  obtain ⟨ao, cap, rfl⟩ := reads_form hr
  obtain ⟨w1, hw1⟩ : ∃ w1, w1 = (w.alloc (.cells (hdA (.slice ao h.ks.length cap) h) 26)).alloc (.cells #[.slice none 0 0, .int .i64 0, .int .i64 0, .int .i64 0] 26) := ⟨_, rfl⟩
  have HB : Hid (Bx w w1 (.slice ao h.ks.length cap) h) := by rw [hw1]; exact Bx.start hr
  have c := iacted_any 2 90 91 92 idxA2 (.slice ao h.ks.length cap) h i 0 0 w1 HB.out.2.2.2.2 hl (true) (strI (KF h.ks) i) (KF h.ks) (if holdsF (KF h.ks) h.kd h.ho i then 0 else h.kd) (if holdsF (KF h.ks) h.kd h.ho i then -1 else h.ho) h.tu ent_wish_anything ent_held_isStrangeTo ent_held_left
    (fun wx => ianything_any i 0 0 wx) (fun _ _ _ wx => istrange_any (KF h.ks) h.kd h.ho h.tu i 0 0 wx) (fun _ _ _ _ wx => ileft_any (KF h.ks) h.kd h.ho h.tu i 0 0 wx)
  rw [releaseA] at c
  obtain ⟨r, HE⟩ : ∃ r, Hid (r = h.release i) := ⟨_, rfl⟩
  rw [← HE.out] at c ⊢
  clear HE hr hl
  obtain ⟨z, t⟩ := r
  unfold Ans HV wiA at c
  dsimp only at c
  unfold hdA at hw1
  unfold HV
  conv in hdA (.slice ao h.ks.length cap) h => unfold hdA
  have hs := HB.out.2.2.2.1
  go_enter Try.func28, Try.ntmps28
  go_upto_region 1 with fail
  rw [← hw1]
  clear hw1
  go_wp2_with (first | (refine wpList_getS Try.isH rfl _ rfl w.heap.size rfl (hdA (.slice ao h.ks.length cap) h) rfl HB.out.1 ?_) | (go_at_call 45; refine c.mono ?_; rintro e w2 ⟨u, rfl, o2, b2⟩; have HB2 : Hid (Bx w w2 (.slice ao h.ks.length cap) h) := HB.out.next b2; have O2 : Hid (Own w2 w1.heap.size u z.ks) := o2; have ho1 := reads_one o2.reads; clear b2 o2) | (refine wpList_putS Try.isH rfl _ _ rfl (w.heap.size + 1) (hdA u z) #[.slice none 0 0, .int .i64 0, .int .i64 0, .int .i64 0] rfl rfl rfl rfl (hdA_one _ ho1) HB2.out.2.1 ?_; intro we se ge))
  refine bodyPost_ret (results_S2 Try.isH rfl _ _ (w.heap.size + 1) _ _ rfl rfl rfl se) rfl ?_
  exact ⟨u, rfl, (O2.out.keptLt ge (by omega)).mono (by omega), HB2.out.2.2.1.grown ge HB2.out.2.2.1.size (fun x e => by cases e; omega)⟩

set_option maxRecDepth 20000 in
set_option maxHeartbeats 1000000 in
theorem iclear_any (v : Value) (h : Hd) (i : Int) (w : World) (hr : Reads w v h.ks) (hl : h.ks.length ≤ 1099511627776) :
    Calls Try.prog 16 #[HV v h, .int .i64 i] w (Ans w (h.clear i)) := by
  obtain ⟨ao, cap, rfl⟩ := reads_form hr
  obtain ⟨w1, hw1⟩ : ∃ w1, w1 = (w.alloc (.cells (hdA (.slice ao h.ks.length cap) h) 26)).alloc (.cells #[.slice none 0 0, .int .i64 0, .int .i64 0, .int .i64 0] 26) := ⟨_, rfl⟩
  have HB : Hid (Bx w w1 (.slice ao h.ks.length cap) h) := by rw [hw1]; exact Bx.start hr
  have c := iacted_any 3 90 91 93 idxA3 (.slice ao h.ks.length cap) h i 0 0 w1 HB.out.2.2.2.2 hl (true) (strI (KF h.ks) i) (fun _ => 0) 0 (-1) (turnI h.tu) ent_wish_anything ent_held_isStrangeTo ent_held_cleared
    (fun wx => ianything_any i 0 0 wx) (fun _ _ _ wx => istrange_any (KF h.ks) h.kd h.ho h.tu i 0 0 wx) (fun ok _ _ _ wx => icleared_any (KF h.ks) h.kd h.ho h.tu i 0 0 wx (ok_turn ok).1 (ok_turn ok).2)
  rw [clearA] at c
  obtain ⟨r, HE⟩ : ∃ r, Hid (r = h.clear i) := ⟨_, rfl⟩
  rw [← HE.out] at c ⊢
  clear HE hr hl
  obtain ⟨z, t⟩ := r
  unfold Ans HV wiA at c
  dsimp only at c
  unfold hdA at hw1
  unfold HV
  conv in hdA (.slice ao h.ks.length cap) h => unfold hdA
  have hs := HB.out.2.2.2.1
  go_enter Try.func16, Try.ntmps16
  go_upto_region 1 with fail
  rw [← hw1]
  clear hw1
  go_wp2_with (first | (refine wpList_getS Try.isH rfl _ rfl w.heap.size rfl (hdA (.slice ao h.ks.length cap) h) rfl HB.out.1 ?_) | (go_at_call 45; refine c.mono ?_; rintro e w2 ⟨u, rfl, o2, b2⟩; have HB2 : Hid (Bx w w2 (.slice ao h.ks.length cap) h) := HB.out.next b2; have O2 : Hid (Own w2 w1.heap.size u z.ks) := o2; have ho1 := reads_one o2.reads; clear b2 o2) | (refine wpList_putS Try.isH rfl _ _ rfl (w.heap.size + 1) (hdA u z) #[.slice none 0 0, .int .i64 0, .int .i64 0, .int .i64 0] rfl rfl rfl rfl (hdA_one _ ho1) HB2.out.2.1 ?_; intro we se ge))
  refine bodyPost_ret (results_S2 Try.isH rfl _ _ (w.heap.size + 1) _ _ rfl rfl rfl se) rfl ?_
  exact ⟨u, rfl, (O2.out.keptLt ge (by omega)).mono (by omega), HB2.out.2.2.1.grown ge HB2.out.2.2.1.size (fun x e => by cases e; omega)⟩

set_option maxRecDepth 20000 in
set_option maxHeartbeats 1000000 in
theorem ipreempt_any (v : Value) (h : Hd) (i key k : Int) (w : World) (hr : Reads w v h.ks) (hl : h.ks.length ≤ 1099511627776) :
    Calls Try.prog 25 #[HV v h, .int .i64 i, .int .i64 key, .int .i64 k] w (Ans w (h.preempt i key k)) := by
  obtain ⟨ao, cap, rfl⟩ := reads_form hr
  obtain ⟨w1, hw1⟩ : ∃ w1, w1 = (w.alloc (.cells (hdA (.slice ao h.ks.length cap) h) 26)).alloc (.cells #[.slice none 0 0, .int .i64 0, .int .i64 0, .int .i64 0] 26) := ⟨_, rfl⟩
  have HB : Hid (Bx w w1 (.slice ao h.ks.length cap) h) := by rw [hw1]; exact Bx.start hr
  have c := iacted_any 4 94 95 96 idxA4 (.slice ao h.ks.length cap) h i key k w1 HB.out.2.2.2.2 hl (inI key 1 9999 && kiI k) (lacksI (KF h.ks) i key) (strF (KF h.ks) i.toNat key 4) (if fallsI (KF h.ks) h.kd h.ho i key then k else h.kd) (if fallsI (KF h.ks) h.kd h.ho i key then (if allI k then -1 else i) else h.ho) (turnI h.tu) ent_wish_someKeyAndKind ent_held_hasNoSuchKey ent_held_preempted
    (fun wx => isomekk_any i key k wx) (fun _ _ _ wx => ilacks_any (KF h.ks) h.kd h.ho h.tu i key k wx) (fun ok hi _ _ wx => ipreempted_any (KF h.ks) h.kd h.ho h.tu i key k wx (ok_turn ok).1 (ok_turn ok).2 (in_four hi).1 (in_four hi).2)
  rw [preemptA] at c
  obtain ⟨r, HE⟩ : ∃ r, Hid (r = h.preempt i key k) := ⟨_, rfl⟩
  rw [← HE.out] at c ⊢
  clear HE hr hl
  obtain ⟨z, t⟩ := r
  unfold Ans HV wiA at c
  dsimp only at c
  unfold hdA at hw1
  unfold HV
  conv in hdA (.slice ao h.ks.length cap) h => unfold hdA
  have hs := HB.out.2.2.2.1
  go_enter Try.func25, Try.ntmps25
  go_upto_region 1 with fail
  rw [← hw1]
  clear hw1
  go_wp2_with (first | (refine wpList_getS Try.isH rfl _ rfl w.heap.size rfl (hdA (.slice ao h.ks.length cap) h) rfl HB.out.1 ?_) | (go_at_call 45; refine c.mono ?_; rintro e w2 ⟨u, rfl, o2, b2⟩; have HB2 : Hid (Bx w w2 (.slice ao h.ks.length cap) h) := HB.out.next b2; have O2 : Hid (Own w2 w1.heap.size u z.ks) := o2; have ho1 := reads_one o2.reads; clear b2 o2) | (refine wpList_putS Try.isH rfl _ _ rfl (w.heap.size + 1) (hdA u z) #[.slice none 0 0, .int .i64 0, .int .i64 0, .int .i64 0] rfl rfl rfl rfl (hdA_one _ ho1) HB2.out.2.1 ?_; intro we se ge))
  refine bodyPost_ret (results_S2 Try.isH rfl _ _ (w.heap.size + 1) _ _ rfl rfl rfl se) rfl ?_
  exact ⟨u, rfl, (O2.out.keptLt ge (by omega)).mono (by omega), HB2.out.2.2.1.grown ge HB2.out.2.2.1.size (fun x e => by cases e; omega)⟩
end Go.Proofs.Ytppkncmlloelbaa
