/- What the program's actions answer is what is said of holdings as plain lists and numbers. -/
import Derived.Test.YtlkkpolnllbljaaGreatDoorM31
import Derived.Test.YtlkkpolnllbljaaGreatDoorM27
import Derived.Test.YtlkkpolnllbljaaGreatDoorM22
import Derived.Test.YtlkkpolnllbljaaGreatDoorM11
import Derived.Deep.DeepCutAuto
import Derived.Test.YtlkkpolnllbljaaGreatDoorSVol2
import Derived.Test.YtlkkpolnllbljaaGreatDoorM23
import Derived.Test.YtlkkpolnllbljaaGreatDoorM18
import Derived.Test.YtlkkpolnllbljaaGreatDoorM2
import Derived.Test.YtlkkpolnllbljaaGreatDoorM9
import Derived.Test.YtlkkpolnllbljaaGreatDoorM3
import Derived.Test.YtlkkpolnllbljaaGreatDoorM16
import Derived.Test.YtlkkpolnllbljaaGreatDoorM28
namespace Go.Proofs.YtlkkpolnllbljaaGreatDoor
open Go.RowKit

theorem mid_kd0 {h : Hd} (e : h.mid = true) (h0 : h.kd = 0) : h.ho = -1 := by
  unfold Hd.mid at e; rw [if_pos h0] at e; simpa using e
theorem mid_all {h : Hd} (e : h.mid = true) (h0 : h.kd ≠ 0) (ha : allI h.kd = true) : h.ho = -1 ∧ anyI h.ks = true := by
  unfold Hd.mid at e; rw [if_neg h0, if_pos ha] at e; simpa using e
theorem mid_one {h : Hd} (e : h.mid = true) (h0 : h.kd ≠ 0) (ha : allI h.kd = false) : kiI h.kd = true ∧ (0 ≤ h.ho ∧ h.ho ≤ 3) ∧ h.ks.getD h.ho.toNat 0 ≠ 0 := by
  unfold Hd.mid at e
  rw [if_neg h0, ha] at e
  simp only [Bool.false_eq_true, if_false, Bool.and_eq_true] at e
  exact ⟨e.1.1, (inI_iff _ _ _).1 e.1.2, by simpa [regI] using e.2⟩
theorem listK_upd {ks : List Int} (hl : ks.length = 4) {j : Nat} (hj : j < 4) (x : Int) : listK (updF (KF ks) j x) = ks.set j x := by
  match ks, hl with
  | [a, b, c, d], _ =>
    obtain rfl | rfl | rfl | rfl : j = 0 ∨ j = 1 ∨ j = 2 ∨ j = 3 := by omega
    all_goals rfl
theorem anyF_list (f : Nat → Int) : anyF f = anyI (listK f) := by
  simp [anyF, anyI, listK, Bool.or_assoc, bne, decide_not]; rfl
theorem anyI_set {ks : List Int} {i m : Nat} {x : Int} (hm : m < ks.length) (hn : m ≠ i) (h : ks.getD m 0 ≠ 0) : anyI (ks.set i x) = true := by
  refine any_at _ m (by simpa using hm) ?_
  simp only [List.getD_eq_getElem?_getD] at h ⊢
  rw [List.getElem?_set_ne (by omega)]
  exact h
theorem anyI_set_self {ks : List Int} {i : Nat} {x : Int} (hi : i < ks.length) (h : x ≠ 0) : anyI (ks.set i x) = true := by
  refine any_at _ i (by simpa using hi) ?_
  simp only [List.getD_eq_getElem?_getD, List.getElem?_set_self hi]
  exact h

theorem registerA (h : Hd) (i key : Int) :
    ansA h.ok (inI i 0 3 && inI key 0 9999) false h ⟨listK (updF (KF h.ks) i.toNat key), if midF (updF (KF h.ks) i.toNat key) h.kd h.ho then h.kd else 0, if midF (updF (KF h.ks) i.toNat key) h.kd h.ho then h.ho else -1, turnI h.tu⟩ = h.register i key := by
  unfold ansA Hd.register
  cases ho : h.ok
  · simp
  cases hi : inI i 0 3
  · simp
  cases hk : inI key 0 9999
  · simp
  obtain ⟨hl, -, -, hm⟩ := Hd.ok_all ho
  have hi' := (inI_iff _ _ _).1 hi
  have h4 : i.toNat < 4 := by omega
  simp only [Bool.and_self, if_true, Bool.false_eq_true, if_false]
  congr 1
  unfold Hd.regd
  have e1 : listK (updF (KF h.ks) i.toNat key) = h.ks.set i.toNat key := listK_upd hl h4 key
  have e2 : anyF (updF (KF h.ks) i.toNat key) = anyI (h.ks.set i.toNat key) := by rw [anyF_list, e1]
  rw [e1]
  unfold midF
  rw [e2]
  by_cases k0 : h.kd = 0
  · have := mid_kd0 hm k0
    rw [if_pos k0]
    split <;> simp [Hd.free, Hd.turn, Hd.key, k0, this]
  · rw [if_neg k0]
    cases ha : allI h.kd
    · obtain ⟨m1, m2, m3⟩ := mid_one hm k0 ha
      have m4 : inI h.ho 0 3 = true := (inI_iff _ _ _).2 m2
      simp only [Bool.false_eq_true, if_false, m1, m4, Bool.true_and]
      by_cases e : h.ho = i
      · have : updF (KF h.ks) i.toNat key h.ho.toNat = key := by simp [updF, e]
        rw [this]
        by_cases kz : key = 0
        · simp [kz, e, Hd.free, Hd.turn, Hd.key]
        · simp [kz, Hd.turn, Hd.key]
      · have n1 : h.ho.toNat ≠ i.toNat := by omega
        have : updF (KF h.ks) i.toNat key h.ho.toNat = h.ks.getD h.ho.toNat 0 := by simp [updF, n1, KF]
        rw [this]
        have a1 : anyI (h.ks.set i.toNat key) = true := anyI_set (by omega) n1 m3
        simp only [a1, e, Bool.true_eq_false, or_self, and_false, if_false]
        simp only [ne_eq, m3, not_false_eq_true, decide_true, if_true]
        rfl
    · obtain ⟨m1, m2⟩ := mid_all hm k0 ha
      have n2 : ¬ ((-1 : Int) = i) := by omega
      simp only [m1, decide_true, Bool.true_and, if_true]
      by_cases kz : key = 0
      · subst kz
        cases hb : anyI (h.ks.set i.toNat 0) <;> simp [n2, Hd.free, Hd.turn, Hd.key, m1]
      · have hb : anyI (h.ks.set i.toNat key) = true := anyI_set_self (by omega) kz
        simp [kz, hb, Hd.turn, Hd.key, m1]
theorem strI_KF (h : Hd) (i : Int) (hi : inI i 0 3 = true) : strI (KF h.ks) i = !regI h.ks i := by
  unfold strI regI KF
  rw [hi, Bool.true_and]

theorem clearA (h : Hd) (i : Int) : ansA h.ok (inI i 0 3 && true) (strI (KF h.ks) i) h ⟨listK (fun _ => 0), 0, -1, turnI h.tu⟩ = h.clear i := by
  unfold ansA Hd.clear
  cases ho : h.ok
  · simp
  cases hi : inI i 0 3
  · simp
  rw [strI_KF h i hi]
  unfold Hd.clrd
  cases hr : regI h.ks i
  · simp [told]
  · simp [told, listK]

theorem releaseA (h : Hd) (i : Int) : ansA h.ok (inI i 0 3 && true) (strI (KF h.ks) i) h ⟨listK (KF h.ks), if holdsF (KF h.ks) h.kd h.ho i then 0 else h.kd, if holdsF (KF h.ks) h.kd h.ho i then -1 else h.ho, h.tu⟩ = h.release i := by
  unfold ansA Hd.release
  cases ho : h.ok
  · simp
  cases hi : inI i 0 3
  · simp
  rw [strI_KF h i hi, holdsF_ok ho, hi, listK_KF (Hd.ok_all ho).1]
  unfold Hd.reld
  cases hr : regI h.ks i
  · simp [told]
  · cases hh : h.holds i
    · simp [told]
    · simp [told, Hd.free]

theorem reserveA (h : Hd) (i k : Int) : ansA h.ok (inI i 0 3 && kiI k) (takenI (KF h.ks) h.kd h.ho i k) h ⟨listK (KF h.ks), k, if allI k then -1 else i, h.tu⟩ = h.reserve i k := by
  unfold ansA Hd.reserve
  cases ho : h.ok
  · simp
  cases hi : inI i 0 3
  · simp
  cases hk : kiI k
  · simp
  obtain ⟨hl, -, -, hm⟩ := Hd.ok_all ho
  have hi' := (inI_iff _ _ _).1 hi
  unfold takenI
  rw [strI_KF h i hi, listK_KF hl]
  unfold Hd.resd holdsF
  rw [hi, show decide (KF h.ks i.toNat ≠ 0) = regI h.ks i from rfl]
  cases hr : regI h.ks i
  · simp [told]
  · simp only [Bool.not_true, Bool.false_or, Bool.true_eq_false, if_false, Bool.and_self, if_true, Bool.true_and]
    by_cases k0 : h.kd = 0
    · simp [k0, told, Hd.take]
    · rw [if_neg k0]
      by_cases e : h.kd = k
      · subst e
        cases ha : allI h.kd
        · by_cases eo : h.ho = i
          · subst eo
            simp [told]
          · have : ¬ i = h.ho := fun c => eo c.symm
            simp [k0, eo, told, this]
        · have m1 := (mid_all hm k0 ha).1
          rw [← m1]
          simp [told]
      · simp [k0, e, told]

theorem strikeK {ks : List Int} (hl : ks.length = 4) {i : Nat} (hi : i < 4) (key : Int) : listK (strF (KF ks) i key 4) = strike ks i key 4 := by
  match ks, hl with
  | [a, b, c, d], _ =>
    obtain rfl | rfl | rfl | rfl : i = 0 ∨ i = 1 ∨ i = 2 ∨ i = 3 := by omega
    all_goals
      simp only [listK, strF, KF, strike, List.getD_cons_zero, List.getD_cons_succ]
      by_cases ha : a = key <;> by_cases hb : b = key <;> by_cases hc : c = key <;> by_cases hd : d = key <;> simp [ha, hb, hc, hd]
theorem nez (x : Int) : (x != 0) = !decide (x = 0) := rfl
theorem moreK {ks : List Int} (hl : ks.length = 4) {i : Nat} (hi : i < 4) (key : Int) : anyF (updF (strF (KF ks) i key 4) i 0) = more ks i key 4 := by
  match ks, hl with
  | [a, b, c, d], _ =>
    obtain rfl | rfl | rfl | rfl : i = 0 ∨ i = 1 ∨ i = 2 ∨ i = 3 := by omega
    all_goals
      simp only [anyF, updF, strF, KF, more, List.getD_cons_zero, List.getD_cons_succ]
      by_cases ha : a = key <;> by_cases hb : b = key <;> by_cases hc : c = key <;> by_cases hd : d = key <;> simp [ha, hb, hc, hd, nez]
theorem hasK (ks : List Int) (key : Int) : ∀ j, hasF (KF ks) key j = has ks key j
  | 0 => rfl
  | j + 1 => by rw [hasF, has, hasK ks key j]; rfl
theorem aloneK {h : Hd} (hm : h.mid = true) (key : Int) (hk : 1 ≤ key) : (keyF (KF h.ks) h.ho == key) = h.alone key := by
  unfold keyF Hd.alone
  by_cases k0 : h.kd = 0
  · rw [mid_kd0 hm k0]
    have : ¬ (0 = key) := by omega
    simp [inI, k0, this]
  · cases ha : allI h.kd
    · obtain ⟨m1, m2, m3⟩ := mid_one hm k0 ha
      rw [(inI_iff _ _ _).2 m2]
      simp only [if_true, k0, ne_eq, not_false_eq_true, decide_true, Bool.true_and, Bool.not_false]
      rfl
    · obtain ⟨m1, m2⟩ := mid_all hm k0 ha
      rw [m1]
      have : ¬ (0 = key) := by omega
      simp [inI, this]
theorem preemptA (h : Hd) (i key k : Int) :
    ansA h.ok (inI i 0 3 && (inI key 1 9999 && kiI k)) (lacksI (KF h.ks) i key) h ⟨listK (strF (KF h.ks) i.toNat key 4), if fallsI (KF h.ks) h.kd h.ho i key then k else h.kd, if fallsI (KF h.ks) h.kd h.ho i key then (if allI k then -1 else i) else h.ho, turnI h.tu⟩ = h.preempt i key k := by
  unfold ansA Hd.preempt
  cases ho : h.ok
  · simp
  cases hi : inI i 0 3
  · simp
  cases hk : inI key 1 9999
  · simp
  cases hd : kiI k
  · simp
  obtain ⟨hl, -, -, hm⟩ := Hd.ok_all ho
  have hi' := (inI_iff _ _ _).1 hi
  have hk' := (inI_iff _ _ _).1 hk
  have h4 : i.toNat < 4 := by omega
  unfold lacksI fallsI
  rw [strI_KF h i hi, hasK, strikeK hl h4, moreK hl h4, aloneK hm key hk'.1]
  unfold Hd.pred
  simp only [Bool.and_self, if_true]
  cases hr : regI h.ks i
  · simp [told]
  · cases hh : has h.ks key 4
    · simp [told]
    · simp only [Bool.not_true, Bool.or_self, Bool.false_eq_true, if_false, Bool.and_self, Bool.true_eq_false]
      cases hq : (h.alone key || (allI h.kd && !more h.ks i.toNat key 4))
      · simp [told, Hd.turn]
      · simp [told, Hd.turn, Hd.take]
end Go.Proofs.YtlkkpolnllbljaaGreatDoor
/- Register, Reserve, Release, Clear and Preempt, by the program. -/
namespace Go.Proofs.YtlkkpolnllbljaaGreatDoor
open Go.ChangeShapes Go.WideShapes Go.ChangeAt Go.RowKit

def Ent (n : FuncId) : Prop := ∀ args wx, (callFunc n args).run Tryz.prog wx = .ok (.enter n args) wx
theorem ent_wish_anyKey : Ent 271 := by intro args wx; kernel_rfl
theorem ent_held_refusesNobody : Ent 272 := by intro args wx; kernel_rfl
theorem ent_held_rekeyed : Ent 273 := by intro args wx; kernel_rfl
theorem ent_wish_someKind : Ent 274 := by intro args wx; kernel_rfl
theorem ent_held_isTaken : Ent 275 := by intro args wx; kernel_rfl
theorem ent_held_heldBy : Ent 276 := by intro args wx; kernel_rfl
theorem ent_wish_anything : Ent 277 := by intro args wx; kernel_rfl
theorem ent_held_isStrangeTo : Ent 278 := by intro args wx; kernel_rfl
theorem ent_held_left : Ent 279 := by intro args wx; kernel_rfl
theorem ent_held_cleared : Ent 280 := by intro args wx; kernel_rfl
theorem ent_wish_someKeyAndKind : Ent 281 := by intro args wx; kernel_rfl
theorem ent_held_hasNoSuchKey : Ent 282 := by intro args wx; kernel_rfl
theorem ent_held_preempted : Ent 283 := by intro args wx; kernel_rfl
theorem ok_turn {h : Hd} (e : h.ok = true) : 0 ≤ h.tu ∧ h.tu ≤ 1000000000 := (Hd.ok_all e).2.1
theorem in_four {i : Int} (e : inI i 0 3 = true) : 0 ≤ i ∧ i < 4 := by have := (inI_iff _ _ _).1 e; omega

set_option maxRecDepth 20000 in
set_option maxHeartbeats 1000000 in
theorem iregister_any (v : Value) (h : Hd) (i key : Int) (w : World) (hr : Reads w v h.ks) (hl : h.ks.length ≤ 1099511627776) :
    Calls Tryz.prog 235 #[HV v h, .int .i64 i, .int .i64 key] w (Ans w (h.register i key)) := by
  obtain ⟨ao, cap, rfl⟩ := reads_form hr
  obtain ⟨w1, hw1⟩ : ∃ w1, w1 = (w.alloc (.cells (hdA (.slice ao h.ks.length cap) h) 37)).alloc (.cells #[.slice none 0 0, .int .i64 0, .int .i64 0, .int .i64 0] 37) := ⟨_, rfl⟩
  have HB : Hid (Bx w w1 (.slice ao h.ks.length cap) h) := by rw [hw1]; exact Bx.start hr
  have c := iacted_any 0 271 272 273 idxA0 (.slice ao h.ks.length cap) h i key 0 w1 HB.out.2.2.2.2 hl (inI key 0 9999) (false) (updF (KF h.ks) i.toNat key) (if midF (updF (KF h.ks) i.toNat key) h.kd h.ho then h.kd else 0) (if midF (updF (KF h.ks) i.toNat key) h.kd h.ho then h.ho else -1) (turnI h.tu) ent_wish_anyKey ent_held_refusesNobody ent_held_rekeyed
    (fun wx => ianykey_any i key 0 wx) (fun _ _ _ wx => inobody_any (KF h.ks) h.kd h.ho h.tu i key 0 wx) (fun ok hi _ _ wx => irekeyed_any (KF h.ks) h.kd h.ho h.tu i key 0 wx (ok_turn ok).1 (ok_turn ok).2 (in_four hi).1 (in_four hi).2)
  rw [registerA] at c
  obtain ⟨r, HE⟩ : ∃ r, Hid (r = h.register i key) := ⟨_, rfl⟩
  rw [← HE.out] at c ⊢
  clear HE hr hl
  obtain ⟨z, t⟩ := r
  unfold Ans HV wiA at c
  dsimp only at c
  unfold hdA at hw1
  unfold HV
  conv in hdA (.slice ao h.ks.length cap) h => unfold hdA
  have hs := HB.out.2.2.2.1
  go_enter Tryz.func235, Tryz.ntmps235
  go_upto_region 1 with fail
  rw [← hw1]
  clear hw1
  go_wp2_with (first | (refine wpList_getS Tryz.isH rfl _ rfl w.heap.size rfl (hdA (.slice ao h.ks.length cap) h) rfl HB.out.1 ?_) | (go_at_call 255; refine c.mono ?_; rintro e w2 ⟨u, rfl, o2, b2⟩; have HB2 : Hid (Bx w w2 (.slice ao h.ks.length cap) h) := HB.out.next b2; have O2 : Hid (Own w2 w1.heap.size u z.ks) := o2; have ho1 := reads_one o2.reads; clear b2 o2) | (refine wpList_putS Tryz.isH rfl _ _ rfl (w.heap.size + 1) (hdA u z) #[.slice none 0 0, .int .i64 0, .int .i64 0, .int .i64 0] rfl rfl rfl rfl (hdA_one _ ho1) HB2.out.2.1 ?_; intro we se ge))
  refine bodyPost_ret (results_S2 Tryz.isH rfl _ _ (w.heap.size + 1) _ _ rfl rfl rfl se) rfl ?_
  exact ⟨u, rfl, (O2.out.keptLt ge (by omega)).mono (by omega), HB2.out.2.2.1.grown ge HB2.out.2.2.1.size (fun x e => by cases e; omega)⟩

set_option maxRecDepth 20000 in
set_option maxHeartbeats 1000000 in
theorem ireserve_any (v : Value) (h : Hd) (i k : Int) (w : World) (hr : Reads w v h.ks) (hl : h.ks.length ≤ 1099511627776) :
    Calls Tryz.prog 236 #[HV v h, .int .i64 i, .int .i64 k] w (Ans w (h.reserve i k)) := by
  obtain ⟨ao, cap, rfl⟩ := reads_form hr
  obtain ⟨w1, hw1⟩ : ∃ w1, w1 = (w.alloc (.cells (hdA (.slice ao h.ks.length cap) h) 37)).alloc (.cells #[.slice none 0 0, .int .i64 0, .int .i64 0, .int .i64 0] 37) := ⟨_, rfl⟩
  have HB : Hid (Bx w w1 (.slice ao h.ks.length cap) h) := by rw [hw1]; exact Bx.start hr
  have c := iacted_any 1 274 275 276 idxA1 (.slice ao h.ks.length cap) h i 0 k w1 HB.out.2.2.2.2 hl (kiI k) (takenI (KF h.ks) h.kd h.ho i k) (KF h.ks) k (if allI k then -1 else i) h.tu ent_wish_someKind ent_held_isTaken ent_held_heldBy
    (fun wx => isomekind_any i 0 k wx) (fun _ _ _ wx => itaken_any (KF h.ks) h.kd h.ho h.tu i 0 k wx) (fun _ _ _ _ wx => iheldby_any (KF h.ks) h.kd h.ho h.tu i 0 k wx)
  rw [reserveA] at c
  obtain ⟨r, HE⟩ : ∃ r, Hid (r = h.reserve i k) := ⟨_, rfl⟩
  rw [← HE.out] at c ⊢
  clear HE hr hl
  obtain ⟨z, t⟩ := r
  unfold Ans HV wiA at c
  dsimp only at c
  unfold hdA at hw1
  unfold HV
  conv in hdA (.slice ao h.ks.length cap) h => unfold hdA
  have hs := HB.out.2.2.2.1
  go_enter Tryz.func236, Tryz.ntmps236
  go_upto_region 1 with fail
  rw [← hw1]
  clear hw1
  go_wp2_with (first | (refine wpList_getS Tryz.isH rfl _ rfl w.heap.size rfl (hdA (.slice ao h.ks.length cap) h) rfl HB.out.1 ?_) | (go_at_call 255; refine c.mono ?_; rintro e w2 ⟨u, rfl, o2, b2⟩; have HB2 : Hid (Bx w w2 (.slice ao h.ks.length cap) h) := HB.out.next b2; have O2 : Hid (Own w2 w1.heap.size u z.ks) := o2; have ho1 := reads_one o2.reads; clear b2 o2) | (refine wpList_putS Tryz.isH rfl _ _ rfl (w.heap.size + 1) (hdA u z) #[.slice none 0 0, .int .i64 0, .int .i64 0, .int .i64 0] rfl rfl rfl rfl (hdA_one _ ho1) HB2.out.2.1 ?_; intro we se ge))
  refine bodyPost_ret (results_S2 Tryz.isH rfl _ _ (w.heap.size + 1) _ _ rfl rfl rfl se) rfl ?_
  exact ⟨u, rfl, (O2.out.keptLt ge (by omega)).mono (by omega), HB2.out.2.2.1.grown ge HB2.out.2.2.1.size (fun x e => by cases e; omega)⟩

set_option maxRecDepth 20000 in
set_option maxHeartbeats 1000000 in
theorem irelease_any (v : Value) (h : Hd) (i : Int) (w : World) (hr : Reads w v h.ks) (hl : h.ks.length ≤ 1099511627776) :
    Calls Tryz.prog 237 #[HV v h, .int .i64 i] w (Ans w (h.release i)) := by
  obtain ⟨ao, cap, rfl⟩ := reads_form hr
  obtain ⟨w1, hw1⟩ : ∃ w1, w1 = (w.alloc (.cells (hdA (.slice ao h.ks.length cap) h) 37)).alloc (.cells #[.slice none 0 0, .int .i64 0, .int .i64 0, .int .i64 0] 37) := ⟨_, rfl⟩
  have HB : Hid (Bx w w1 (.slice ao h.ks.length cap) h) := by rw [hw1]; exact Bx.start hr
  have c := iacted_any 2 277 278 279 idxA2 (.slice ao h.ks.length cap) h i 0 0 w1 HB.out.2.2.2.2 hl (true) (strI (KF h.ks) i) (KF h.ks) (if holdsF (KF h.ks) h.kd h.ho i then 0 else h.kd) (if holdsF (KF h.ks) h.kd h.ho i then -1 else h.ho) h.tu ent_wish_anything ent_held_isStrangeTo ent_held_left
    (fun wx => ianything_any i 0 0 wx) (fun _ _ _ wx => istrange_any (KF h.ks) h.kd h.ho h.tu i 0 0 wx) (fun _ _ _ _ wx => ileft_any (KF h.ks) h.kd h.ho h.tu i 0 0 wx)
  rw [releaseA] at c
  obtain ⟨r, HE⟩ : ∃ r, Hid (r = h.release i) := ⟨_, rfl⟩
  rw [← HE.out] at c ⊢
  clear HE hr hl
  obtain ⟨z, t⟩ := r
  unfold Ans HV wiA at c
  dsimp only at c
  unfold hdA at hw1
  unfold HV
  conv in hdA (.slice ao h.ks.length cap) h => unfold hdA
  have hs := HB.out.2.2.2.1
  go_enter Tryz.func237, Tryz.ntmps237
  go_upto_region 1 with fail
  rw [← hw1]
  clear hw1
  go_wp2_with (first | (refine wpList_getS Tryz.isH rfl _ rfl w.heap.size rfl (hdA (.slice ao h.ks.length cap) h) rfl HB.out.1 ?_) | (go_at_call 255; refine c.mono ?_; rintro e w2 ⟨u, rfl, o2, b2⟩; have HB2 : Hid (Bx w w2 (.slice ao h.ks.length cap) h) := HB.out.next b2; have O2 : Hid (Own w2 w1.heap.size u z.ks) := o2; have ho1 := reads_one o2.reads; clear b2 o2) | (refine wpList_putS Tryz.isH rfl _ _ rfl (w.heap.size + 1) (hdA u z) #[.slice none 0 0, .int .i64 0, .int .i64 0, .int .i64 0] rfl rfl rfl rfl (hdA_one _ ho1) HB2.out.2.1 ?_; intro we se ge))
  refine bodyPost_ret (results_S2 Tryz.isH rfl _ _ (w.heap.size + 1) _ _ rfl rfl rfl se) rfl ?_
  exact ⟨u, rfl, (O2.out.keptLt ge (by omega)).mono (by omega), HB2.out.2.2.1.grown ge HB2.out.2.2.1.size (fun x e => by cases e; omega)⟩

set_option maxRecDepth 20000 in
set_option maxHeartbeats 1000000 in
theorem iclear_any (v : Value) (h : Hd) (i : Int) (w : World) (hr : Reads w v h.ks) (hl : h.ks.length ≤ 1099511627776) :
    Calls Tryz.prog 238 #[HV v h, .int .i64 i] w (Ans w (h.clear i)) := by
  obtain ⟨ao, cap, rfl⟩ := reads_form hr
  obtain ⟨w1, hw1⟩ : ∃ w1, w1 = (w.alloc (.cells (hdA (.slice ao h.ks.length cap) h) 37)).alloc (.cells #[.slice none 0 0, .int .i64 0, .int .i64 0, .int .i64 0] 37) := ⟨_, rfl⟩
  have HB : Hid (Bx w w1 (.slice ao h.ks.length cap) h) := by rw [hw1]; exact Bx.start hr
  have c := iacted_any 3 277 278 280 idxA3 (.slice ao h.ks.length cap) h i 0 0 w1 HB.out.2.2.2.2 hl (true) (strI (KF h.ks) i) (fun _ => 0) 0 (-1) (turnI h.tu) ent_wish_anything ent_held_isStrangeTo ent_held_cleared
    (fun wx => ianything_any i 0 0 wx) (fun _ _ _ wx => istrange_any (KF h.ks) h.kd h.ho h.tu i 0 0 wx) (fun ok _ _ _ wx => icleared_any (KF h.ks) h.kd h.ho h.tu i 0 0 wx (ok_turn ok).1 (ok_turn ok).2)
  rw [clearA] at c
  obtain ⟨r, HE⟩ : ∃ r, Hid (r = h.clear i) := ⟨_, rfl⟩
  rw [← HE.out] at c ⊢
  clear HE hr hl
  obtain ⟨z, t⟩ := r
  unfold Ans HV wiA at c
  dsimp only at c
  unfold hdA at hw1
  unfold HV
  conv in hdA (.slice ao h.ks.length cap) h => unfold hdA
  have hs := HB.out.2.2.2.1
  go_enter Tryz.func238, Tryz.ntmps238
  go_upto_region 1 with fail
  rw [← hw1]
  clear hw1
  go_wp2_with (first | (refine wpList_getS Tryz.isH rfl _ rfl w.heap.size rfl (hdA (.slice ao h.ks.length cap) h) rfl HB.out.1 ?_) | (go_at_call 255; refine c.mono ?_; rintro e w2 ⟨u, rfl, o2, b2⟩; have HB2 : Hid (Bx w w2 (.slice ao h.ks.length cap) h) := HB.out.next b2; have O2 : Hid (Own w2 w1.heap.size u z.ks) := o2; have ho1 := reads_one o2.reads; clear b2 o2) | (refine wpList_putS Tryz.isH rfl _ _ rfl (w.heap.size + 1) (hdA u z) #[.slice none 0 0, .int .i64 0, .int .i64 0, .int .i64 0] rfl rfl rfl rfl (hdA_one _ ho1) HB2.out.2.1 ?_; intro we se ge))
  refine bodyPost_ret (results_S2 Tryz.isH rfl _ _ (w.heap.size + 1) _ _ rfl rfl rfl se) rfl ?_
  exact ⟨u, rfl, (O2.out.keptLt ge (by omega)).mono (by omega), HB2.out.2.2.1.grown ge HB2.out.2.2.1.size (fun x e => by cases e; omega)⟩

set_option maxRecDepth 20000 in
set_option maxHeartbeats 1000000 in
theorem ipreempt_any (v : Value) (h : Hd) (i key k : Int) (w : World) (hr : Reads w v h.ks) (hl : h.ks.length ≤ 1099511627776) :
    Calls Tryz.prog 239 #[HV v h, .int .i64 i, .int .i64 key, .int .i64 k] w (Ans w (h.preempt i key k)) := by
  obtain ⟨ao, cap, rfl⟩ := reads_form hr
  obtain ⟨w1, hw1⟩ : ∃ w1, w1 = (w.alloc (.cells (hdA (.slice ao h.ks.length cap) h) 37)).alloc (.cells #[.slice none 0 0, .int .i64 0, .int .i64 0, .int .i64 0] 37) := ⟨_, rfl⟩
  have HB : Hid (Bx w w1 (.slice ao h.ks.length cap) h) := by rw [hw1]; exact Bx.start hr
  have c := iacted_any 4 281 282 283 idxA4 (.slice ao h.ks.length cap) h i key k w1 HB.out.2.2.2.2 hl (inI key 1 9999 && kiI k) (lacksI (KF h.ks) i key) (strF (KF h.ks) i.toNat key 4) (if fallsI (KF h.ks) h.kd h.ho i key then k else h.kd) (if fallsI (KF h.ks) h.kd h.ho i key then (if allI k then -1 else i) else h.ho) (turnI h.tu) ent_wish_someKeyAndKind ent_held_hasNoSuchKey ent_held_preempted
    (fun wx => isomekk_any i key k wx) (fun _ _ _ wx => ilacks_any (KF h.ks) h.kd h.ho h.tu i key k wx) (fun ok hi _ _ wx => ipreempted_any (KF h.ks) h.kd h.ho h.tu i key k wx (ok_turn ok).1 (ok_turn ok).2 (in_four hi).1 (in_four hi).2)
  rw [preemptA] at c
  obtain ⟨r, HE⟩ : ∃ r, Hid (r = h.preempt i key k) := ⟨_, rfl⟩
  rw [← HE.out] at c ⊢
  clear HE hr hl
  obtain ⟨z, t⟩ := r
  unfold Ans HV wiA at c
  dsimp only at c
  unfold hdA at hw1
  unfold HV
  conv in hdA (.slice ao h.ks.length cap) h => unfold hdA
  have hs := HB.out.2.2.2.1
  go_enter Tryz.func239, Tryz.ntmps239
  go_upto_region 1 with fail
  rw [← hw1]
  clear hw1
  go_wp2_with (first | (refine wpList_getS Tryz.isH rfl _ rfl w.heap.size rfl (hdA (.slice ao h.ks.length cap) h) rfl HB.out.1 ?_) | (go_at_call 255; refine c.mono ?_; rintro e w2 ⟨u, rfl, o2, b2⟩; have HB2 : Hid (Bx w w2 (.slice ao h.ks.length cap) h) := HB.out.next b2; have O2 : Hid (Own w2 w1.heap.size u z.ks) := o2; have ho1 := reads_one o2.reads; clear b2 o2) | (refine wpList_putS Tryz.isH rfl _ _ rfl (w.heap.size + 1) (hdA u z) #[.slice none 0 0, .int .i64 0, .int .i64 0, .int .i64 0] rfl rfl rfl rfl (hdA_one _ ho1) HB2.out.2.1 ?_; intro we se ge))
  refine bodyPost_ret (results_S2 Tryz.isH rfl _ _ (w.heap.size + 1) _ _ rfl rfl rfl se) rfl ?_
  exact ⟨u, rfl, (O2.out.keptLt ge (by omega)).mono (by omega), HB2.out.2.2.1.grown ge HB2.out.2.2.1.size (fun x e => by cases e; omega)⟩
end Go.Proofs.YtlkkpolnllbljaaGreatDoor
/- The program's actions by commands (heldAfter). -/
namespace Go.Proofs.YtlkkpolnllbljaaGreatDoor
open Go.ChangeShapes Go.WideShapes Go.ChangeAt Go.RowKit

def Hd.after (h : Hd) (i : Int) (c : Cm) : Hd × Int := if c.o = 6 then h.register i c.a else if c.o = 7 then h.reserve i c.k else if c.o = 8 then h.release i else if c.o = 9 then h.clear i else h.preempt i c.a c.k

/- The boxes of a holding and a command, and the answer's. -/
structure Hx (w wx : World) (q : Value) (h : Hd) (c : Cm) : Prop where
  hd : StB wx w.heap.size 37 (hdA q h)
  cm : StB wx (w.heap.size + 1) 66 (cmA c)
  rs : StB wx (w.heap.size + 1 + 1) 37 #[.slice none 0 0, .int .i64 0, .int .i64 0, .int .i64 0]
  bl : Below w.heap.size w wx
  sz : w.heap.size + 3 ≤ wx.heap.size
theorem Hx.start (w : World) (q : Value) (h : Hd) (c : Cm) : Hx w (((w.alloc (.cells (hdA q h) 37)).alloc (.cells (cmA c) 66)).alloc (.cells #[.slice none 0 0, .int .i64 0, .int .i64 0, .int .i64 0] 37)) q h c := by
  have a2 := StB.new (w.alloc (.cells (hdA q h) 37)) 66 (cmA c)
  have a3 := StB.new ((w.alloc (.cells (hdA q h) 37)).alloc (.cells (cmA c) 66)) 37 #[.slice none 0 0, .int .i64 0, .int .i64 0, .int .i64 0]
  simp only [World.size_alloc] at a2 a3
  exact ⟨((StB.new w _ _).alloc _).alloc _, a2.alloc _, a3, (((Below.refl _ _).alloc (Nat.le_refl _) _).alloc (by simp) _).alloc (by simp; omega) _, by simp⟩
theorem Hx.next {w wx wy : World} {q : Value} {h : Hd} {c : Cm} (d : Hx w wx q h c) (b : Below wx.heap.size wx wy) : Hx w wy q h c :=
  ⟨d.hd.below b, d.cm.below b, d.rs.below b, d.bl.trans (b.mono d.bl.size), Nat.le_trans d.sz b.size⟩

set_option maxRecDepth 20000 in
set_option maxHeartbeats 1000000 in
theorem iheldRegister_any (q : Value) (h : Hd) (i : Int) (c : Cm) (w : World) (hq : Reads w q h.ks) (hl : h.ks.length ≤ 1099511627776)  (e6 : c.o = 6) :
    Calls Tryz.prog 204 #[HV q h, .int .i64 i, CV c] w (Ans w (h.register i c.a)) := by
  have E6 : Hid (c.o = 6) := e6
  clear e6
  obtain ⟨w1, hw1⟩ : ∃ w1, w1 = ((w.alloc (.cells (hdA q h) 37)).alloc (.cells (cmA c) 66)).alloc (.cells #[.slice none 0 0, .int .i64 0, .int .i64 0, .int .i64 0] 37) := ⟨_, rfl⟩
  have HX : Hid (Hx w w1 q h c) := by rw [hw1]; exact Hx.start w q h c
  have c1 := iregister_any q h i c.a w1 (hq.below HX.out.bl (Nat.le_refl _)) hl
  obtain ⟨r, hr⟩ : ∃ r, r = h.register i c.a := ⟨_, rfl⟩
  rw [← hr] at c1 ⊢
  obtain ⟨qo, qc, rfl⟩ := reads_form hq
  clear hr hq hl
  unfold Ans HV at c1
  unfold Ans HV CV
  conv in hdA (.slice qo h.ks.length qc) _ => unfold hdA
  unfold cmA
  unfold hdA cmA at hw1
  have k0 : w1.cell? ⟨w.heap.size + 1, 0, none⟩ = some (.int .i64 c.o) := HX.out.cm.cell 0 rfl
  have k2 : w1.cell? ⟨w.heap.size + 1, 2, none⟩ = some (.int .i64 c.a) := HX.out.cm.cell 2 rfl
  have k4 : w1.cell? ⟨w.heap.size + 1, 4, none⟩ = some (.int .i64 c.k) := HX.out.cm.cell 4 rfl
  go_enter Tryz.func204, Tryz.ntmps204
  go_upto_region 1 with fail
  rw [← hw1]
  clear hw1
  have e6 := E6.out
  go_wp2_with (refine wpList_getS Tryz.isH rfl _ rfl w.heap.size rfl _ rfl HX.out.hd ?_)
  refine c1.mono ?_
  rintro e w2 ⟨u, rfl, o2, b2⟩
  have H2 : Hid (Hx w w2 (.slice qo h.ks.length qc) h c) := HX.out.next b2
  have O2 : Hid (Own w2 (w.heap.size + 3) u r.1.ks) := o2.mono HX.out.sz
  obtain ⟨uo, uc, rfl⟩ := reads_form o2.reads
  clear o2 b2 c1 HX k0 k2 k4
  go_wp2_with (refine wpList_putS Tryz.isH rfl _ _ rfl (w.heap.size + 1 + 1) (hdA (.slice uo r.1.ks.length uc) r.1) #[.slice none 0 0, .int .i64 0, .int .i64 0, .int .i64 0] rfl rfl rfl rfl (hdA_one _ rfl) H2.out.rs ?_; intro we se ge)
  refine bodyPost_ret (results_S2 Tryz.isH rfl _ _ (w.heap.size + 1 + 1) _ _ rfl rfl rfl se) rfl ?_
  exact ⟨_, rfl, (O2.out.keptLt ge (by omega)).mono (by omega), H2.out.bl.grown ge H2.out.bl.size (fun x e => by cases e; omega)⟩

set_option maxRecDepth 20000 in
set_option maxHeartbeats 1000000 in
theorem iheldReserve_any (q : Value) (h : Hd) (i : Int) (c : Cm) (w : World) (hq : Reads w q h.ks) (hl : h.ks.length ≤ 1099511627776) (n6 : c.o ≠ 6) (e7 : c.o = 7) :
    Calls Tryz.prog 204 #[HV q h, .int .i64 i, CV c] w (Ans w (h.reserve i c.k)) := by
  have N6 : Hid (c.o ≠ 6) := n6
  clear n6
  have E7 : Hid (c.o = 7) := e7
  clear e7
  obtain ⟨w1, hw1⟩ : ∃ w1, w1 = ((w.alloc (.cells (hdA q h) 37)).alloc (.cells (cmA c) 66)).alloc (.cells #[.slice none 0 0, .int .i64 0, .int .i64 0, .int .i64 0] 37) := ⟨_, rfl⟩
  have HX : Hid (Hx w w1 q h c) := by rw [hw1]; exact Hx.start w q h c
  have c1 := ireserve_any q h i c.k w1 (hq.below HX.out.bl (Nat.le_refl _)) hl
  obtain ⟨r, hr⟩ : ∃ r, r = h.reserve i c.k := ⟨_, rfl⟩
  rw [← hr] at c1 ⊢
  obtain ⟨qo, qc, rfl⟩ := reads_form hq
  clear hr hq hl
  unfold Ans HV at c1
  unfold Ans HV CV
  conv in hdA (.slice qo h.ks.length qc) _ => unfold hdA
  unfold cmA
  unfold hdA cmA at hw1
  have k0 : w1.cell? ⟨w.heap.size + 1, 0, none⟩ = some (.int .i64 c.o) := HX.out.cm.cell 0 rfl
  have k2 : w1.cell? ⟨w.heap.size + 1, 2, none⟩ = some (.int .i64 c.a) := HX.out.cm.cell 2 rfl
  have k4 : w1.cell? ⟨w.heap.size + 1, 4, none⟩ = some (.int .i64 c.k) := HX.out.cm.cell 4 rfl
  go_enter Tryz.func204, Tryz.ntmps204
  go_upto_region 1 with fail
  rw [← hw1]
  clear hw1
  have n6 := N6.out
  have e7 := E7.out
  go_wp2_with (refine wpList_getS Tryz.isH rfl _ rfl w.heap.size rfl _ rfl HX.out.hd ?_)
  refine c1.mono ?_
  rintro e w2 ⟨u, rfl, o2, b2⟩
  have H2 : Hid (Hx w w2 (.slice qo h.ks.length qc) h c) := HX.out.next b2
  have O2 : Hid (Own w2 (w.heap.size + 3) u r.1.ks) := o2.mono HX.out.sz
  obtain ⟨uo, uc, rfl⟩ := reads_form o2.reads
  clear o2 b2 c1 HX k0 k2 k4
  go_wp2_with (refine wpList_putS Tryz.isH rfl _ _ rfl (w.heap.size + 1 + 1) (hdA (.slice uo r.1.ks.length uc) r.1) #[.slice none 0 0, .int .i64 0, .int .i64 0, .int .i64 0] rfl rfl rfl rfl (hdA_one _ rfl) H2.out.rs ?_; intro we se ge)
  refine bodyPost_ret (results_S2 Tryz.isH rfl _ _ (w.heap.size + 1 + 1) _ _ rfl rfl rfl se) rfl ?_
  exact ⟨_, rfl, (O2.out.keptLt ge (by omega)).mono (by omega), H2.out.bl.grown ge H2.out.bl.size (fun x e => by cases e; omega)⟩

set_option maxRecDepth 20000 in
set_option maxHeartbeats 1000000 in
theorem iheldRelease_any (q : Value) (h : Hd) (i : Int) (c : Cm) (w : World) (hq : Reads w q h.ks) (hl : h.ks.length ≤ 1099511627776) (n6 : c.o ≠ 6) (n7 : c.o ≠ 7) (e8 : c.o = 8) :
    Calls Tryz.prog 204 #[HV q h, .int .i64 i, CV c] w (Ans w (h.release i)) := by
  have N6 : Hid (c.o ≠ 6) := n6
  clear n6
  have N7 : Hid (c.o ≠ 7) := n7
  clear n7
  have E8 : Hid (c.o = 8) := e8
  clear e8
  obtain ⟨w1, hw1⟩ : ∃ w1, w1 = ((w.alloc (.cells (hdA q h) 37)).alloc (.cells (cmA c) 66)).alloc (.cells #[.slice none 0 0, .int .i64 0, .int .i64 0, .int .i64 0] 37) := ⟨_, rfl⟩
  have HX : Hid (Hx w w1 q h c) := by rw [hw1]; exact Hx.start w q h c
  have c1 := irelease_any q h i w1 (hq.below HX.out.bl (Nat.le_refl _)) hl
  obtain ⟨r, hr⟩ : ∃ r, r = h.release i := ⟨_, rfl⟩
  rw [← hr] at c1 ⊢
  obtain ⟨qo, qc, rfl⟩ := reads_form hq
  clear hr hq hl
  unfold Ans HV at c1
  unfold Ans HV CV
  conv in hdA (.slice qo h.ks.length qc) _ => unfold hdA
  unfold cmA
  unfold hdA cmA at hw1
  have k0 : w1.cell? ⟨w.heap.size + 1, 0, none⟩ = some (.int .i64 c.o) := HX.out.cm.cell 0 rfl
  have k2 : w1.cell? ⟨w.heap.size + 1, 2, none⟩ = some (.int .i64 c.a) := HX.out.cm.cell 2 rfl
  have k4 : w1.cell? ⟨w.heap.size + 1, 4, none⟩ = some (.int .i64 c.k) := HX.out.cm.cell 4 rfl
  go_enter Tryz.func204, Tryz.ntmps204
  go_upto_region 1 with fail
  rw [← hw1]
  clear hw1
  have n6 := N6.out
  have n7 := N7.out
  have e8 := E8.out
  go_wp2_with (refine wpList_getS Tryz.isH rfl _ rfl w.heap.size rfl _ rfl HX.out.hd ?_)
  refine c1.mono ?_
  rintro e w2 ⟨u, rfl, o2, b2⟩
  have H2 : Hid (Hx w w2 (.slice qo h.ks.length qc) h c) := HX.out.next b2
  have O2 : Hid (Own w2 (w.heap.size + 3) u r.1.ks) := o2.mono HX.out.sz
  obtain ⟨uo, uc, rfl⟩ := reads_form o2.reads
  clear o2 b2 c1 HX k0 k2 k4
  go_wp2_with (refine wpList_putS Tryz.isH rfl _ _ rfl (w.heap.size + 1 + 1) (hdA (.slice uo r.1.ks.length uc) r.1) #[.slice none 0 0, .int .i64 0, .int .i64 0, .int .i64 0] rfl rfl rfl rfl (hdA_one _ rfl) H2.out.rs ?_; intro we se ge)
  refine bodyPost_ret (results_S2 Tryz.isH rfl _ _ (w.heap.size + 1 + 1) _ _ rfl rfl rfl se) rfl ?_
  exact ⟨_, rfl, (O2.out.keptLt ge (by omega)).mono (by omega), H2.out.bl.grown ge H2.out.bl.size (fun x e => by cases e; omega)⟩

set_option maxRecDepth 20000 in
set_option maxHeartbeats 1000000 in
theorem iheldClear_any (q : Value) (h : Hd) (i : Int) (c : Cm) (w : World) (hq : Reads w q h.ks) (hl : h.ks.length ≤ 1099511627776) (n6 : c.o ≠ 6) (n7 : c.o ≠ 7) (n8 : c.o ≠ 8) (e9 : c.o = 9) :
    Calls Tryz.prog 204 #[HV q h, .int .i64 i, CV c] w (Ans w (h.clear i)) := by
  have N6 : Hid (c.o ≠ 6) := n6
  clear n6
  have N7 : Hid (c.o ≠ 7) := n7
  clear n7
  have N8 : Hid (c.o ≠ 8) := n8
  clear n8
  have E9 : Hid (c.o = 9) := e9
  clear e9
  obtain ⟨w1, hw1⟩ : ∃ w1, w1 = ((w.alloc (.cells (hdA q h) 37)).alloc (.cells (cmA c) 66)).alloc (.cells #[.slice none 0 0, .int .i64 0, .int .i64 0, .int .i64 0] 37) := ⟨_, rfl⟩
  have HX : Hid (Hx w w1 q h c) := by rw [hw1]; exact Hx.start w q h c
  have c1 := iclear_any q h i w1 (hq.below HX.out.bl (Nat.le_refl _)) hl
  obtain ⟨r, hr⟩ : ∃ r, r = h.clear i := ⟨_, rfl⟩
  rw [← hr] at c1 ⊢
  obtain ⟨qo, qc, rfl⟩ := reads_form hq
  clear hr hq hl
  unfold Ans HV at c1
  unfold Ans HV CV
  conv in hdA (.slice qo h.ks.length qc) _ => unfold hdA
  unfold cmA
  unfold hdA cmA at hw1
  have k0 : w1.cell? ⟨w.heap.size + 1, 0, none⟩ = some (.int .i64 c.o) := HX.out.cm.cell 0 rfl
  have k2 : w1.cell? ⟨w.heap.size + 1, 2, none⟩ = some (.int .i64 c.a) := HX.out.cm.cell 2 rfl
  have k4 : w1.cell? ⟨w.heap.size + 1, 4, none⟩ = some (.int .i64 c.k) := HX.out.cm.cell 4 rfl
  go_enter Tryz.func204, Tryz.ntmps204
  go_upto_region 1 with fail
  rw [← hw1]
  clear hw1
  have n6 := N6.out
  have n7 := N7.out
  have n8 := N8.out
  have e9 := E9.out
  go_wp2_with (refine wpList_getS Tryz.isH rfl _ rfl w.heap.size rfl _ rfl HX.out.hd ?_)
  refine c1.mono ?_
  rintro e w2 ⟨u, rfl, o2, b2⟩
  have H2 : Hid (Hx w w2 (.slice qo h.ks.length qc) h c) := HX.out.next b2
  have O2 : Hid (Own w2 (w.heap.size + 3) u r.1.ks) := o2.mono HX.out.sz
  obtain ⟨uo, uc, rfl⟩ := reads_form o2.reads
  clear o2 b2 c1 HX k0 k2 k4
  go_wp2_with (refine wpList_putS Tryz.isH rfl _ _ rfl (w.heap.size + 1 + 1) (hdA (.slice uo r.1.ks.length uc) r.1) #[.slice none 0 0, .int .i64 0, .int .i64 0, .int .i64 0] rfl rfl rfl rfl (hdA_one _ rfl) H2.out.rs ?_; intro we se ge)
  refine bodyPost_ret (results_S2 Tryz.isH rfl _ _ (w.heap.size + 1 + 1) _ _ rfl rfl rfl se) rfl ?_
  exact ⟨_, rfl, (O2.out.keptLt ge (by omega)).mono (by omega), H2.out.bl.grown ge H2.out.bl.size (fun x e => by cases e; omega)⟩

set_option maxRecDepth 20000 in
set_option maxHeartbeats 1000000 in
theorem iheldPreempt_any (q : Value) (h : Hd) (i : Int) (c : Cm) (w : World) (hq : Reads w q h.ks) (hl : h.ks.length ≤ 1099511627776) (n6 : c.o ≠ 6) (n7 : c.o ≠ 7) (n8 : c.o ≠ 8) (n9 : c.o ≠ 9) :
    Calls Tryz.prog 204 #[HV q h, .int .i64 i, CV c] w (Ans w (h.preempt i c.a c.k)) := by
  have N6 : Hid (c.o ≠ 6) := n6
  clear n6
  have N7 : Hid (c.o ≠ 7) := n7
  clear n7
  have N8 : Hid (c.o ≠ 8) := n8
  clear n8
  have N9 : Hid (c.o ≠ 9) := n9
  clear n9
  obtain ⟨w1, hw1⟩ : ∃ w1, w1 = ((w.alloc (.cells (hdA q h) 37)).alloc (.cells (cmA c) 66)).alloc (.cells #[.slice none 0 0, .int .i64 0, .int .i64 0, .int .i64 0] 37) := ⟨_, rfl⟩
  have HX : Hid (Hx w w1 q h c) := by rw [hw1]; exact Hx.start w q h c
  have c1 := ipreempt_any q h i c.a c.k w1 (hq.below HX.out.bl (Nat.le_refl _)) hl
  obtain ⟨r, hr⟩ : ∃ r, r = h.preempt i c.a c.k := ⟨_, rfl⟩
  rw [← hr] at c1 ⊢
  obtain ⟨qo, qc, rfl⟩ := reads_form hq
  clear hr hq hl
  unfold Ans HV at c1
  unfold Ans HV CV
  conv in hdA (.slice qo h.ks.length qc) _ => unfold hdA
  unfold cmA
  unfold hdA cmA at hw1
  have k0 : w1.cell? ⟨w.heap.size + 1, 0, none⟩ = some (.int .i64 c.o) := HX.out.cm.cell 0 rfl
  have k2 : w1.cell? ⟨w.heap.size + 1, 2, none⟩ = some (.int .i64 c.a) := HX.out.cm.cell 2 rfl
  have k4 : w1.cell? ⟨w.heap.size + 1, 4, none⟩ = some (.int .i64 c.k) := HX.out.cm.cell 4 rfl
  go_enter Tryz.func204, Tryz.ntmps204
  go_upto_region 1 with fail
  rw [← hw1]
  clear hw1
  have n6 := N6.out
  have n7 := N7.out
  have n8 := N8.out
  have n9 := N9.out
  go_wp2_with (refine wpList_getS Tryz.isH rfl _ rfl w.heap.size rfl _ rfl HX.out.hd ?_)
  refine c1.mono ?_
  rintro e w2 ⟨u, rfl, o2, b2⟩
  have H2 : Hid (Hx w w2 (.slice qo h.ks.length qc) h c) := HX.out.next b2
  have O2 : Hid (Own w2 (w.heap.size + 3) u r.1.ks) := o2.mono HX.out.sz
  obtain ⟨uo, uc, rfl⟩ := reads_form o2.reads
  clear o2 b2 c1 HX k0 k2 k4
  go_wp2_with (refine wpList_putS Tryz.isH rfl _ _ rfl (w.heap.size + 1 + 1) (hdA (.slice uo r.1.ks.length uc) r.1) #[.slice none 0 0, .int .i64 0, .int .i64 0, .int .i64 0] rfl rfl rfl rfl (hdA_one _ rfl) H2.out.rs ?_; intro we se ge)
  refine bodyPost_ret (results_S2 Tryz.isH rfl _ _ (w.heap.size + 1 + 1) _ _ rfl rfl rfl se) rfl ?_
  exact ⟨_, rfl, (O2.out.keptLt ge (by omega)).mono (by omega), H2.out.bl.grown ge H2.out.bl.size (fun x e => by cases e; omega)⟩

theorem iheldAfter_any (q : Value) (h : Hd) (i : Int) (c : Cm) (w : World) (hq : Reads w q h.ks) (hl : h.ks.length ≤ 1099511627776) :
    Calls Tryz.prog 204 #[HV q h, .int .i64 i, CV c] w (Ans w (h.after i c)) := by
  unfold Hd.after
  by_cases e6 : c.o = 6
  · rw [if_pos e6]; exact iheldRegister_any q h i c w hq hl e6
  rw [if_neg e6]
  by_cases e7 : c.o = 7
  · rw [if_pos e7]; exact iheldReserve_any q h i c w hq hl e6 e7
  rw [if_neg e7]
  by_cases e8 : c.o = 8
  · rw [if_pos e8]; exact iheldRelease_any q h i c w hq hl e6 e7 e8
  rw [if_neg e8]
  by_cases e9 : c.o = 9
  · rw [if_pos e9]; exact iheldClear_any q h i c w hq hl e6 e7 e8 e9
  rw [if_neg e9]
  exact iheldPreempt_any q h i c w hq hl e6 e7 e8 e9
end Go.Proofs.YtlkkpolnllbljaaGreatDoor
/- Blocks by commands, the program: what a command of blocks writes (writtenTo). -/
namespace Go.Proofs.YtlkkpolnllbljaaGreatDoor
open Go.ChangeShapes Go.WideShapes Go.ChangeAt Go.RowKit

/- The boxes of the disk and of what is asked, the two results. -/
structure Vx (w wx : World) (u v : Value) (t : TypeId) (cs d : Array Value) (x : An) : Prop where
  dk : StB wx w.heap.size 36 #[u, v]
  cm : StB wx (w.heap.size + 1) t cs
  rd : StB wx (w.heap.size + 1 + 1) 36 d
  ra : StB wx (w.heap.size + 1 + 1 + 1) 44 (anA x)
  bl : Below w.heap.size w wx
  sz : w.heap.size + 4 ≤ wx.heap.size
theorem Vx.start (w : World) (u v : Value) (t : TypeId) (cs : Array Value) : Vx w ((((w.alloc (.cells #[u, v] 36)).alloc (.cells cs t)).alloc (.cells zeD 36)).alloc (.cells (anA ⟨0, []⟩) 44)) u v t cs zeD ⟨0, []⟩ := by
  have a1 := StB.new w 36 #[u, v]
  have a2 := StB.new (w.alloc (.cells #[u, v] 36)) t cs
  have a3 := StB.new ((w.alloc (.cells #[u, v] 36)).alloc (.cells cs t)) 36 zeD
  have a4 := StB.new (((w.alloc (.cells #[u, v] 36)).alloc (.cells cs t)).alloc (.cells zeD 36)) 44 (anA ⟨0, []⟩)
  simp only [World.size_alloc] at a2 a3 a4
  refine ⟨((a1.alloc _).alloc _).alloc _, (a2.alloc _).alloc _, a3.alloc _, a4, ?_, by simp⟩
  exact ((((Below.refl _ _).alloc (Nat.le_refl _) _).alloc (by simp) _).alloc (by simp; omega) _).alloc (by simp; omega) _
theorem Vx.next {w wx wy : World} {u v : Value} {t : TypeId} {cs d : Array Value} {x : An} (h : Vx w wx u v t cs d x) (b : Below wx.heap.size wx wy) : Vx w wy u v t cs d x :=
  ⟨h.dk.below b, h.cm.below b, h.rd.below b, h.ra.below b, h.bl.trans (b.mono h.bl.size), Nat.le_trans h.sz b.size⟩
theorem Vx.grown {w wx wy : World} {u v : Value} {t : TypeId} {cs d : Array Value} {x : An} {g : Nat} (h : Vx w wx u v t cs d x) (b : wx.grownBy wy (some g)) (hg : w.heap.size + 4 ≤ g) : Vx w wy u v t cs d x :=
  ⟨h.dk.kept b (by simp; omega), h.cm.kept b (by simp; omega), h.rd.kept b (by simp; omega), h.ra.kept b (by simp; omega), h.bl.grown b h.bl.size (fun k e => by cases e; omega), Nat.le_trans h.sz b.size⟩
theorem Vx.drew {w wx : World} {u v : Value} {t : TypeId} {cs d : Array Value} {x : An} (h : Vx w wx u v t cs d x) : Vx w wx.drew u v t cs d x :=
  ⟨h.dk, h.cm, h.rd, h.ra, h.bl.drew, h.sz⟩
/- What is answered: both results are stored. -/
theorem Vx.fin {w wx wy wz : World} {u v : Value} {t : TypeId} {cs d : Array Value} {x : An} {a b : Value} {xs ys : List Int} {base : Nat} (h : Vx w wx u v t cs d x) (oa : Own wx base a xs) (ob : Own wx base b ys) (hb : w.heap.size + 4 ≤ base) (ap : apart a b)
    (g5 : wx.grownBy wy (some (w.heap.size + 1 + 1))) (g6 : wy.grownBy wz (some (w.heap.size + 1 + 1 + 1))) : OwnD wz w.heap.size a b xs ys ∧ Below w.heap.size w wz := by
  refine ⟨⟨(((oa.keptLt g5 (by omega)).keptLt g6 (by omega))).mono (by omega), (((ob.keptLt g5 (by omega)).keptLt g6 (by omega))).mono (by omega), ap⟩, ?_⟩
  have b5 := h.bl.grown g5 h.bl.size (fun k e => by cases e; omega)
  exact b5.grown g6 b5.size (fun k e => by cases e; omega)

def wrA (b : Bool) : An := if b then ⟨0, []⟩ else ⟨1, []⟩

set_option maxRecDepth 20000 in
set_option maxHeartbeats 2000000 in
theorem iwrittenTo_any (u v : Value) (xs ys : List Int) (p x : Int) (w : World) (h : Reads w u xs) (h' : Reads w v ys) (gx : xs.length ≤ 1099511627776) (gy : ys.length ≤ 1099511627776) (hb : bothOk xs ys = true) :
    Calls Tryz.prog 252 #[.agg #[u, v], .agg #[.int .i64 p, .int .i64 x]] w fun e w' => ∃ a b, e = .returned (.tuple #[.agg #[a, b], AV (wrA (putB ys p x))]) ∧ OwnD w' w.heap.size a b xs (putI ys p x) ∧ Below w.heap.size w w' := by
  obtain ⟨w1, hw1⟩ : ∃ w1, w1 = (((w.alloc (.cells #[u, v] 36)).alloc (.cells #[.int .i64 p, .int .i64 x] 289)).alloc (.cells #[.slice none 0 0, .slice none 0 0] 36)).alloc (.cells #[.int .i64 0, .string ⟨#[]⟩] 44) := ⟨_, rfl⟩
  have HV : Hid (Vx w w1 u v 289 #[.int .i64 p, .int .i64 x] zeD ⟨0, []⟩) := by rw [hw1]; exact Vx.start w u v _ _
  have c1 := written_any u v xs ys p x w1 (h.below HV.out.bl (Nat.le_refl _)) (h'.below HV.out.bl (Nat.le_refl _)) gx gy
  have e1 : wrB xs ys p x = putB ys p x := by simp [wrB, hb]
  have e2 : wrK xs ys = xs := by simp [wrK, hb]
  have e3 : wrN xs ys p x = putI ys p x := by simp [wrN, hb]
  rw [e1, e2, e3] at c1
  obtain ⟨zs, hz⟩ : ∃ zs, zs = putI ys p x := ⟨_, rfl⟩
  obtain ⟨pb, hpb⟩ : ∃ pb, pb = putB ys p x := ⟨_, rfl⟩
  simp only [← hz, ← hpb] at c1 ⊢
  have m0 : w1.cell? ⟨w.heap.size + 1, 0, none⟩ = some (.int .i64 p) := HV.out.cm.cell 0 rfl
  have m1 : w1.cell? ⟨w.heap.size + 1, 1, none⟩ = some (.int .i64 x) := HV.out.cm.cell 1 rfl
  clear hb e1 e2 e3 hz hpb h h'
  go_enter Tryz.func252, Tryz.ntmps252
  go_upto_region 1 with fail
  rw [← hw1]
  clear hw1
  go_wp2_with (first | (refine wpList_getS Tryz.isD rfl _ rfl w.heap.size rfl _ rfl HV.out.dk ?_))
  refine c1.mono ?_
  rintro e w2 ⟨a, b, rfl, o2, b2⟩
  obtain ⟨w3, hw3⟩ : ∃ w3, w3 = w2.alloc (.cells #[.slice none 0 0, .slice none 0 0] 36) := ⟨_, rfl⟩
  have b3 : Below w2.heap.size w2 w3 := by rw [hw3]; exact belowAlloc w2 _
  have H3 : Hid (Vx w w3 u v 289 #[.int .i64 p, .int .i64 x] zeD ⟨0, []⟩) := (HV.out.next b2).next b3
  have hk : Hid (w.heap.size + 4 ≤ w2.heap.size) := Nat.le_trans HV.out.sz b2.size
  obtain ⟨ao, ac, rfl⟩ := o2.1.reads.form
  obtain ⟨bo, bc, rfl⟩ := o2.2.1.reads.form
  have O2 : Hid (Own w2 (w.heap.size + 4) (.slice ao xs.length ac) xs ∧ Own w2 (w.heap.size + 4) (.slice bo zs.length bc) zs ∧ apart (.slice ao xs.length ac) (.slice bo zs.length bc)) := ⟨o2.1.mono HV.out.sz, o2.2.1.mono HV.out.sz, o2.2.2⟩
  have s3 : Hid (StB w3 w2.heap.size 36 zeD) := by rw [hw3]; exact StB.new _ _ _
  have O3 : Hid (Own w3 (w.heap.size + 4) (.slice ao xs.length ac) xs ∧ Own w3 (w.heap.size + 4) (.slice bo zs.length bc) zs ∧ apart (.slice ao xs.length ac) (.slice bo zs.length bc)) := ⟨O2.out.1.below b3, O2.out.2.1.below b3, O2.out.2.2⟩
  have na : Hid ((Value.slice ao xs.length ac).ownBlock ≠ some w2.heap.size ∧ (Value.slice bo zs.length bc).ownBlock ≠ some w2.heap.size) := ⟨fun e => by have := (O2.out.1.lt _ e).2; omega, fun e => by have := (O2.out.2.1.lt _ e).2; omega⟩
  clear c1 o2 b2 HV m0 m1 O2 b3
  cases pb
  all_goals
    go_wp2_with (first
      | (rw [← hw3]; refine wpList_putS Tryz.isD rfl _ _ rfl w2.heap.size #[.slice ao xs.length ac, .slice bo zs.length bc] zeD rfl rfl rfl rfl (dkA_one rfl rfl) s3.out ?_; intro w4 s4 g4; clear hw3; have H4 : Hid (Vx w w4 u v 289 #[.int .i64 p, .int .i64 x] zeD ⟨0, []⟩) := H3.out.grown g4 hk.out)
      | (refine wpList_getS Tryz.isD rfl _ rfl w2.heap.size rfl _ rfl s4 ?_)
      | (refine wpList_putS Tryz.isD rfl _ _ rfl (w.heap.size + 1 + 1) #[.slice ao xs.length ac, .slice bo zs.length bc] zeD rfl rfl rfl rfl (dkA_one rfl rfl) H4.out.rd ?_; intro w5 s5 g5)
      | (refine wpList_putS Tryz.isA rfl _ _ rfl (w.heap.size + 1 + 1 + 1) (anA ⟨0, []⟩) (anA ⟨0, []⟩) rfl rfl rfl rfl (anA_one _) (H4.out.ra.kept g5 (by simp)) ?_; intro w6 s6 g6)
      | (refine wpList_putS Tryz.isA rfl _ _ rfl (w.heap.size + 1 + 1 + 1) (anA ⟨1, []⟩) (anA ⟨0, []⟩) rfl rfl rfl rfl (anA_one _) (H4.out.ra.kept g5 (by simp)) ?_; intro w6 s6 g6))
    refine bodyPost_ret (results_DA rfl _ _ (w.heap.size + 1 + 1) (w.heap.size + 1 + 1 + 1) _ _ rfl rfl rfl rfl (s5.kept g6 (by simp)) s6) rfl ?_
    exact ⟨_, _, rfl, H4.out.fin (O3.out.1.kept g4 (.inr na.out.1)) (O3.out.2.1.kept g4 (.inr na.out.2)) (Nat.le_refl _) O3.out.2.2 g5 g6⟩
end Go.Proofs.YtlkkpolnllbljaaGreatDoor
/- What strings.Join of Go's library answers here. -/
namespace Go.Proofs.YtlkkpolnllbljaaGreatDoor
open Go.ChangeShapes Go.WideShapes Go.ChangeAt Go.RowKit

theorem join_is (ls : List Bs) : Lib.join ls [32] = joinB 32 ls := by
  induction ls with
  | nil => rfl
  | cons a l ih =>
    cases l with
    | nil => rw [Lib.join_one, joinB]
    | cons b l =>
      rw [joinB, ← ih]
      simp [Lib.join, List.intercalate, List.intersperse]

theorem ijoin_any (bk c : Nat) (ls : List Bs) (w : World) (hr : ReadsS w (.slice (some ⟨bk, 0, none⟩) ls.length c) ls) (h0 : 0 < ls.length) (hn : ls.length ≤ 1048576) (hlen : (joinB 32 ls).length ≤ 1048576) :
    Calls Tryz.prog 77 #[.slice (some ⟨bk, 0, none⟩) ls.length c, .string ⟨#[32]⟩] w fun e w' => e = .returned (S (joinB 32 ls)) ∧ Below w.heap.size w w' := by
  obtain ⟨ao, cap, e, hcap, -, hc⟩ := hr
  simp only [Value.slice.injEq] at e
  obtain ⟨rfl, -, rfl⟩ := e
  have hm : (ls.map (fun l => (⟨l.toArray⟩ : ByteArray))).map (·.data.toList) = ls := by
    rw [List.map_map]
    conv => rhs; rw [← List.map_id ls]
    apply List.map_congr_left
    intro x _
    rfl
  have hcell : ∀ j, j < ls.length → w.cell? ⟨bk, 0 + j, none⟩ = some (S (ls.getD j [])) := by
    rcases hc with hc | ⟨b, off, e, hc⟩
    · rw [hc] at h0; simp at h0
    · simp only [Option.some.injEq, Addr.mk.injEq] at e
      obtain ⟨rfl, rfl, -⟩ := e
      exact hc
  have c0 := Tryz.strings_Join bk 0 c (ls.map (fun l => (⟨l.toArray⟩ : ByteArray))) ⟨#[32]⟩ w (by
    intro j x hj
    rw [List.getElem?_map] at hj
    cases hg : ls[j]? with
    | none => rw [hg] at hj; cases hj
    | some y =>
      rw [hg] at hj
      simp only [Option.map_some, Option.some.injEq] at hj
      subst hj
      have hlt : j < ls.length := by
        rcases Nat.lt_or_ge j ls.length with h | h
        · exact h
        · rw [List.getElem?_eq_none h] at hg; cases hg
      rw [hcell j hlt, List.getD_eq_getElem?_getD, hg]
      rfl) (World.block_lt_of_cell? w _ (hcell 0 h0)) (by simp; omega) (by simpa using hcap) (by
    rw [hm, show (⟨#[32]⟩ : ByteArray).data.toList = [32] from rfl, join_is]
    omega)
  rw [hm, show (⟨#[32]⟩ : ByteArray).data.toList = [32] from rfl, join_is, List.length_map] at c0
  exact c0
end Go.Proofs.YtlkkpolnllbljaaGreatDoor
/- Numbers as a text, by the program's own helper: showNumbers. -/
namespace Go.Proofs.YtlkkpolnllbljaaGreatDoor
open Go.ChangeShapes Go.WideShapes Go.ChangeAt Go.RowKit

theorem itoa_all (x : Int) : Lib.itoa x = decI x := by
  unfold Lib.itoa decI
  by_cases h : x < 0
  · rw [if_pos h, if_pos h, digits_dec]
  · rw [if_neg h, if_neg h, digits_dec, show x.toNat = x.natAbs by omega]
theorem zerosN_eq (n : Nat) : (madeCells #[Value.string ⟨#[]⟩] n).toList = (List.replicate n ([] : Bs)).map S := by
  rw [toList_madeCells_one, List.map_replicate]; rfl
def shownTo (xs : List Int) (j : Nat) : List Bs := (xs.take j).map decI ++ List.replicate (xs.length - j) []
theorem shownTo_len (xs : List Int) (j : Nat) (h : j ≤ xs.length) : (shownTo xs j).length = xs.length := by simp [shownTo]; omega
theorem shownTo_put (xs : List Int) (j : Nat) (h : j < xs.length) : (shownTo xs j).set j (decI (xs.getD j 0)) = shownTo xs (j + 1) := by
  unfold shownTo
  have hl : ((xs.take j).map decI).length = j := by simp; omega
  obtain ⟨k, hk⟩ : ∃ k, xs.length - j = k + 1 := ⟨xs.length - j - 1, by omega⟩
  rw [List.set_append_right _ _ (by omega), hl, Nat.sub_self, hk, List.replicate_succ, List.set_cons_zero, List.take_succ_eq_append_getElem h, List.map_append, List.append_assoc, show xs.length - (j + 1) = k by omega]
  simp [h]
theorem shownTo_all (xs : List Int) : shownTo xs xs.length = xs.map decI := by simp [shownTo]

set_option maxRecDepth 20000 in
set_option maxHeartbeats 2000000 in
theorem ishowN_any (v : Value) (xs : List Int) (w : World) (hr : Reads w v xs) (h0 : 0 < xs.length) (hn : xs.length ≤ 16) (hx : Fits64 xs) (ht : Tab w) :
    Calls Tryz.prog 28 #[v] w fun e w' => e = .returned (S (intsB xs)) ∧ Below w.heap.size w w' := by
  obtain ⟨i0, hi, hz0, hz1, hz2⟩ := info_parts Tryz.infoS
  obtain ⟨ao, cap, rfl⟩ := reads_form hr
  obtain ⟨-, la, ma, hcell⟩ := reads_cells hr
  obtain ⟨b, off, rfl, -⟩ := hcell 0 h0
  have HR0 : Hid (Reads w (.slice (some ⟨b, off, none⟩) xs.length cap) xs) := hr
  have HT : Hid (Tab w) := ht
  have HX : Hid (Fits64 xs) := hx
  clear hr ht hcell hx
  obtain ⟨n, hn'⟩ : ∃ n, n = xs.length := ⟨_, rfl⟩
  have HN : Hid (n = xs.length) := hn'
  rw [← hn'] at h0 hn la HR0 ⊢
  clear hn'
  unfold maxLen at ma
  unfold S
  go_enter Tryz.func28, Tryz.ntmps28
  go_wp2_with (refine wpList_make_full _ rfl _ _ 110 rfl w.heap.size 9 i0 (.string ⟨#[]⟩) 1 Tryz.underlying110 hi hz0 hz1 _ _ _ _ n rfl rfl rfl rfl (by rw [hz2]; omega) (by unfold maxLen; omega) (Nat.le_refl _) ?_)
  intro w1 hown1 hgr1
  rw [zerosN_eq] at hown1
  have HO : Hid (OwnS w1 w.heap.size (.slice (some ⟨w.heap.size, 0, none⟩) n n) (shownTo xs 0) ∧ Below w.heap.size w w1) := by
    refine ⟨?_, (Below.refl _ _).grown hgr1 (Nat.le_refl _) (fun k e => by cases e)⟩
    unfold OwnS
    rw [shownTo_len xs 0 (Nat.zero_le _), ← HN.out]
    simpa [shownTo, ← HN.out] using hown1
  clear hown1 hgr1
  go_wp2
  go_loopw [11] (fun i wr => ∃ j : Nat, (j : Int) ≤ (n : Int) ∧ i = .int .i64 j ∧ Hid (OwnS wr w.heap.size (.slice (some ⟨w.heap.size, 0, none⟩) n n) (shownTo xs j) ∧ Below w.heap.size w wr)) (fun i _ => n - (intOf i).toNat)
  case atStart => exact ⟨0, by omega, rfl, HO⟩
  case round =>
    obtain ⟨j, hj, rfl, HR⟩ := hrel
    clear HO
    by_cases hlt : (j : Int) < (n : Int)
    · have hjx : Hid (j < xs.length) := by have := HN.out; rw [Hid]; omega
      obtain ⟨-, -, -, hcell⟩ := reads_cells (HR0.out.below HR.out.2 (Nat.le_refl _))
      obtain ⟨b', off', e, hc1⟩ := hcell j (by omega)
      simp only [Option.some.injEq, Addr.mk.injEq] at e
      obtain ⟨rfl, rfl, -⟩ := e
      clear hcell
      have HF := HX.out (xs.getD j 0) (by have := hjx.out; simp [this])
      have HP : Hid ((shownTo xs j).set j (decI (xs.getD j 0)) = shownTo xs (j + 1)) := shownTo_put xs j hjx.out
      obtain ⟨x, hx⟩ : ∃ x, x = xs.getD j 0 := ⟨_, rfl⟩
      rw [← hx] at hc1 HF HP
      have c2 := fun wx (h : Tab wx) => Tryz.strconv_FormatInt_10 x HF.1 HF.2 wx h
      simp only [itoa_all] at c2
      obtain ⟨d, hd⟩ : ∃ d, d = decI x := ⟨_, rfl⟩
      rw [← hd] at HP
      simp only [← hd] at c2
      clear hx hd HF
      have HT1 : Hid (Tab wr) := HT.out.below HR.out.2
      go_wp2_with fail
      refine (c2 _ HT1.out).mono ?_
      rintro e w2 ⟨rfl, k2, o2, hw2⟩
      have B2 : Below wr.heap.size wr w2 := by rw [hw2]; exact below_grow wr k2 o2
      clear hw2 c2 hc1
      have HQ : Hid (OwnS w2 w.heap.size (.slice (some ⟨w.heap.size, 0, none⟩) n n) (shownTo xs j) ∧ Below w.heap.size w w2) := ⟨HR.out.1.below B2, HR.out.2.trans (B2.mono HR.out.2.size)⟩
      clear HR B2
      obtain ⟨hf, ⟨y, hc⟩, ho2⟩ := HQ.out.1.put (by rw [shownTo_len xs j (by have := hjx.out; omega)]; exact HN.out) j (by omega) d
      have HS : Hid (OwnS (w2.setCell ⟨w.heap.size, j, none⟩ (.string ⟨d.toArray⟩)) w.heap.size (.slice (some ⟨w.heap.size, 0, none⟩) n n) (shownTo xs (j + 1)) ∧ Below w.heap.size w (w2.setCell ⟨w.heap.size, j, none⟩ (.string ⟨d.toArray⟩))) := by
        rw [HP.out] at ho2
        exact ⟨ho2, HQ.out.2.setCell (p := ⟨w.heap.size, j, none⟩) (Nat.le_refl _) _⟩
      clear ho2
      go_wp2
      go_roundw
      case rel => exact ⟨j + 1, by omega, by go_num, HS⟩
      case measure => simp [intOf]; omega
    · have e : j = xs.length := by have := HN.out; omega
      have HR2 : Hid (OwnS wr w.heap.size (.slice (some ⟨w.heap.size, 0, none⟩) n n) (xs.map decI)) := by
        have := HR.out.1
        rw [e, shownTo_all] at this
        exact this
      have hml : (xs.map decI).length = n := by rw [List.length_map]; exact HN.out.symm
      have c3 := ijoin_any w.heap.size n (xs.map decI) wr (by rw [hml]; exact HR2.out.reads) (by omega) (by omega) (by rw [join_ints]; have := intsB_len xs HX.out; have := HN.out; omega)
      rw [join_ints, hml] at c3
      unfold S at c3
      clear e hml
      go_wp2_with fail
      refine c3.mono ?_
      rintro e w2 ⟨rfl, b2⟩
      clear c3
      go_wp2
      go_ret
      exact ⟨rfl, HR.out.2.trans (b2.mono HR.out.2.size)⟩
end Go.Proofs.YtlkkpolnllbljaaGreatDoor
/- Blocks by commands, the program: what a command of blocks reads (readFrom). -/
namespace Go.Proofs.YtlkkpolnllbljaaGreatDoor
open Go.ChangeShapes Go.WideShapes Go.ChangeAt Go.RowKit

def rdA (ys : List Int) (p : Int) : An := if (ys.length : Int) ≤ p then ⟨1, []⟩ else ⟨0, decI (ys.getD p.toNat 0)⟩
theorem ints_one (x : Int) : intsB [x] = decI x := by simp [intsB]

set_option maxRecDepth 20000 in
set_option maxHeartbeats 2000000 in
theorem ireadFrom_far (u v : Value) (xs ys : List Int) (p : Int) (w : World) (h : Reads w u xs) (h' : Reads w v ys) (hb : bothOk xs ys = true) (hp : (ys.length : Int) ≤ p) :
    Calls Tryz.prog 251 #[.agg #[u, v], .agg #[.int .i64 p]] w fun e w' => ∃ a b, e = .returned (.tuple #[.agg #[a, b], AV ⟨1, []⟩]) ∧ OwnD w' w.heap.size a b xs ys ∧ Below w.heap.size w w' := by
  obtain ⟨n1, n8, nl⟩ := vol_len hb
  obtain ⟨w1, hw1⟩ : ∃ w1, w1 = (((w.alloc (.cells #[u, v] 36)).alloc (.cells #[.int .i64 p] 286)).alloc (.cells #[.slice none 0 0, .slice none 0 0] 36)).alloc (.cells #[.int .i64 0, .string ⟨#[]⟩] 44) := ⟨_, rfl⟩
  have HV : Hid (Vx w w1 u v 286 #[.int .i64 p] zeD ⟨0, []⟩) := by rw [hw1]; exact Vx.start w u v _ _
  have c1 := freshDisk_any u v xs ys w1 (h.below HV.out.bl (Nat.le_refl _)) (h'.below HV.out.bl (Nat.le_refl _)) n1 (by omega) (by omega) (by omega)
  obtain ⟨uo, uc, rfl⟩ := h.form
  obtain ⟨vo, vc, rfl⟩ := h'.form
  have m0 : w1.cell? ⟨w.heap.size + 1, 0, none⟩ = some (.int .i64 p) := HV.out.cm.cell 0 rfl
  have m1 : w1.cell? ⟨w.heap.size, 1, none⟩ = some (.slice vo ys.length vc) := HV.out.dk.cell 1 rfl
  clear hb h h' n1 n8 nl
  go_enter Tryz.func251, Tryz.ntmps251
  go_upto_region 1 with fail
  rw [← hw1]
  clear hw1
  go_wp2_with (first | (refine wpList_getS Tryz.isD rfl _ rfl w.heap.size rfl _ rfl HV.out.dk ?_))
  refine c1.mono ?_
  rintro e w2 ⟨a, b, rfl, o2, b2⟩
  have H2 : Hid (Vx w w2 (.slice uo xs.length uc) (.slice vo ys.length vc) 286 #[.int .i64 p] zeD ⟨0, []⟩) := HV.out.next b2
  obtain ⟨ao, ac, rfl⟩ := o2.1.reads.form
  obtain ⟨bo, bc, rfl⟩ := o2.2.1.reads.form
  have O2 : Hid (Own w2 (w.heap.size + 4) (.slice ao xs.length ac) xs ∧ Own w2 (w.heap.size + 4) (.slice bo ys.length bc) ys ∧ apart (.slice ao xs.length ac) (.slice bo ys.length bc)) := ⟨o2.1.mono HV.out.sz, o2.2.1.mono HV.out.sz, o2.2.2⟩
  clear c1 o2 b2 HV m0 m1
  go_wp2_with (first
    | (refine wpList_putS Tryz.isD rfl _ _ rfl (w.heap.size + 1 + 1) #[.slice ao xs.length ac, .slice bo ys.length bc] zeD rfl rfl rfl rfl (dkA_one rfl rfl) H2.out.rd ?_; intro w5 s5 g5)
    | (refine wpList_putS Tryz.isA rfl _ _ rfl (w.heap.size + 1 + 1 + 1) (anA ⟨1, []⟩) (anA ⟨0, []⟩) rfl rfl rfl rfl (anA_one _) (H2.out.ra.kept g5 (by simp)) ?_; intro w6 s6 g6))
  refine bodyPost_ret (results_DA rfl _ _ (w.heap.size + 1 + 1) (w.heap.size + 1 + 1 + 1) _ _ rfl rfl rfl rfl (s5.kept g6 (by simp)) s6) rfl ?_
  exact ⟨_, _, rfl, H2.out.fin O2.out.1 O2.out.2.1 (Nat.le_refl _) O2.out.2.2 g5 g6⟩

theorem reads_oneE (w : World) (z : Int) {g : Nat} (h : g = w.heap.size) : Reads (w.alloc (.cells #[.int .i64 z] 2)) (.slice (some ⟨g, 0, none⟩) 1 1) [z] := by
  subst h
  have h := World.ownsRow_lit (base := w.heap.size) (e := 2) (size := 1) w #[.int .i64 z] 1 (Nat.le_refl _) (by decide) rfl
  exact Own.reads (base := w.heap.size) (by unfold Own; simpa using h)
theorem Reads.al {w : World} {o : Obj} {v : Value} {xs : List Int} (h : Reads w v xs) : Reads (w.alloc o) v xs := h.below (belowAlloc w o) (Nat.le_refl _)
theorem Reads.dr {w : World} {v : Value} {xs : List Int} (h : Reads w v xs) : Reads w.drew v xs := h
theorem Reads.bel {w w' : World} {v : Value} {xs : List Int} (h : Reads w v xs) (b : Below w.heap.size w w') : Reads w' v xs := h.below b (Nat.le_refl _)

/- What a region leaves that stores into the two results alone. -/
def Sq (w w1 w' : World) : Prop := ∀ a x, a.block ≠ w.heap.size + 1 + 1 → a.block ≠ w.heap.size + 1 + 1 + 1 → w1.cell? a = some x → w'.cell? a = some x
theorem Sq.refl (w w1 : World) : Sq w w1 w1 := fun _ _ _ _ h => h
theorem Sq.dr {w w1 wx : World} (h : Sq w w1 wx) : Sq w w1 wx.drew := h
theorem Sq.bel {w w1 wx wy : World} (h : Sq w w1 wx) (b : Below wx.heap.size wx wy) : Sq w w1 wy := fun a x h1 h2 h3 => later_cell (h a x h1 h2 h3) b
theorem Sq.al {w w1 wx : World} {o : Obj} (h : Sq w w1 wx) : Sq w w1 (wx.alloc o) := h.bel (belowAlloc wx o)
theorem Sq.put2 {w w1 wx wy : World} (h : Sq w w1 wx) (g : wx.grownBy wy (some (w.heap.size + 1 + 1))) : Sq w w1 wy := fun a x h1 h2 h3 => g.cell (h a x h1 h2 h3) (by simpa using h1)
theorem Sq.set3 {w w1 wx : World} {j : Nat} {v : Value} (h : Sq w w1 wx) : Sq w w1 (wx.setCell ⟨w.heap.size + 1 + 1 + 1, j, none⟩ v) := fun a x h1 h2 h3 => (grownSet wx _ j v).cell (h a x h1 h2 h3) (by simpa using h2)

set_option maxRecDepth 20000 in
set_option maxHeartbeats 2000000 in
theorem ireadFrom_near (u v : Value) (xs ys : List Int) (j : Nat) (w : World) (h : Reads w u xs) (h' : Reads w v ys) (hb : bothOk xs ys = true) (hj : (j : Int) < (ys.length : Int)) (ht : Tab w) :
    Calls Tryz.prog 251 #[.agg #[u, v], .agg #[.int .i64 (j : Int)]] w fun e w' => ∃ a b, e = .returned (.tuple #[.agg #[a, b], AV ⟨0, decI (ys.getD j 0)⟩]) ∧ OwnD w' w.heap.size a b xs ys ∧ Below w.heap.size w w' := by
  obtain ⟨n1, n8, nl⟩ := vol_len hb
  have hzb := vol_val hb j
  obtain ⟨w1, hw1⟩ : ∃ w1, w1 = (((w.alloc (.cells #[u, v] 36)).alloc (.cells #[.int .i64 (j : Int)] 286)).alloc (.cells #[.slice none 0 0, .slice none 0 0] 36)).alloc (.cells #[.int .i64 0, .string ⟨#[]⟩] 44) := ⟨_, rfl⟩
  have HV : Hid (Vx w w1 u v 286 #[.int .i64 (j : Int)] zeD ⟨0, []⟩) := by rw [hw1]; exact Vx.start w u v _ _
  have FD : Hid (∀ w', Below w1.heap.size w1 w' → Calls Tryz.prog 112 #[.agg #[u, v]] w' fun e w'' => ∃ a b, e = .returned (.agg (dkA a b)) ∧ OwnD w'' w'.heap.size a b xs ys ∧ Below w'.heap.size w' w'') := fun w' b => freshDisk_any u v xs ys w' ((h.below HV.out.bl (Nat.le_refl _)).below b (Nat.le_refl _)) ((h'.below HV.out.bl (Nat.le_refl _)).below b (Nat.le_refl _)) n1 (by omega) (by omega) (by omega)
  obtain ⟨uo, uc, rfl⟩ := h.form
  obtain ⟨vo, vc, rfl⟩ := h'.form
  obtain ⟨-, hm1, hm2, hcv⟩ := reads_cells h'
  obtain ⟨vb, vf, rfl, hc0⟩ := hcv j (by omega)
  obtain ⟨z, hz⟩ : ∃ z, z = ys.getD j 0 := ⟨_, rfl⟩
  rw [← hz] at hc0 hzb ⊢
  have CN : Hid (∀ u' w', Reads w' u' [z] → Below w1.heap.size w1 w' → Calls Tryz.prog 28 #[u'] w' fun e w'' => e = .returned (S (decI z)) ∧ Below w'.heap.size w' w'') := fun u' w' hr b => by
    have := ishowN_any u' [z] w' hr (by simp) (by simp) (by intro x hx; simp at hx; omega) ((ht.below HV.out.bl).below b)
    rw [ints_one] at this
    exact this
  obtain ⟨d, hd⟩ : ∃ d, d = decI z := ⟨_, rfl⟩
  rw [← hd] at CN ⊢
  have hvb : Hid (vb < w.heap.size) := World.block_lt_of_cell? w _ hc0
  have q0 : ∀ w', Sq w w1 w' → w'.cell? ⟨w.heap.size, 0, none⟩ = some (.slice uo xs.length uc) := fun w' b => b _ _ (by simp; try omega) (by simp; try omega) (HV.out.dk.cell 0 rfl)
  have q1 : ∀ w', Sq w w1 w' → w'.cell? ⟨w.heap.size, 1, none⟩ = some (.slice (some ⟨vb, vf, none⟩) ys.length vc) := fun w' b => b _ _ (by simp; try omega) (by simp; try omega) (HV.out.dk.cell 1 rfl)
  have q2 : ∀ w', Sq w w1 w' → w'.cell? ⟨w.heap.size + 1, 0, none⟩ = some (.int .i64 (j : Int)) := fun w' b => b _ _ (by simp; try omega) (by simp; try omega) (HV.out.cm.cell 0 rfl)
  have q3 : ∀ w', Sq w w1 w' → w'.cell? ⟨vb, vf + j, none⟩ = some (.int .i64 z) := fun w' b => b _ _ (by have := hvb.out; dsimp only; omega) (by have := hvb.out; dsimp only; omega) ((HV.out.bl.cell (p := ⟨vb, vf + j, none⟩) hvb.out).trans hc0)
  have m0 : w1.cell? ⟨w.heap.size + 1, 0, none⟩ = some (.int .i64 (j : Int)) := q2 w1 (Sq.refl _ _)
  have m1 : w1.cell? ⟨w.heap.size, 1, none⟩ = some (.slice (some ⟨vb, vf, none⟩) ys.length vc) := q1 w1 (Sq.refl _ _)
  clear hb h h' n1 n8 nl hz hd hcv hc0 ht hzb
  unfold S at CN
  go_enter Tryz.func251, Tryz.ntmps251
  go_upto_region 1 with fail
  rw [← hw1]
  clear hw1
  go_upto_region 3 with fail
  clear m0 m1
  go_region_held3 (fun w' => Sq w w1 w') ((repeat' (first | with_reducible assumption | with_reducible exact Sq.refl _ _ | with_reducible refine Sq.al ?_ | with_reducible refine Sq.dr ?_ | with_reducible refine Sq.set3 ?_ | with_reducible refine Sq.put2 ?_ (by with_reducible assumption) | with_reducible refine Sq.bel ?_ (by with_reducible assumption))))
    (first
      | (go_at_call 112; refine (FD.out _ (by repeat' (first | with_reducible assumption | with_reducible exact Below.refl _ _ | with_reducible refine bel_alloc ?_ | with_reducible refine bel_drew ?_ | with_reducible refine bel_trans ?_ (by with_reducible assumption)))).mono ?_; rintro e w3 ⟨a, b, rfl, o3, b3⟩; obtain ⟨ao, ac, rfl⟩ := o3.1.reads.form; obtain ⟨bo, bc, rfl⟩ := o3.2.1.reads.form; have O3 : Hid (OwnD w3 _ (.slice ao xs.length ac) (.slice bo ys.length bc) xs ys) := o3; clear o3)
      | (go_at_call 28; refine (CN.out _ _ (by repeat' (first | (with_reducible refine reads_oneE _ _ (by simp)) | (with_reducible refine Reads.al ?_) | (with_reducible refine Reads.dr ?_) | (with_reducible refine Reads.bel ?_ (by with_reducible assumption)))) (by repeat' (first | with_reducible assumption | with_reducible exact Below.refl _ _ | with_reducible refine bel_alloc ?_ | with_reducible refine bel_drew ?_ | with_reducible refine bel_trans ?_ (by with_reducible assumption)))).mono ?_; rintro e w4 ⟨rfl, b4⟩)
      | ((with_reducible show Oper.upon _ _ _ _ _ (Result.andThen (Sem.run _ (storeCells _ (dkA _ _).toList) _) _)); have H5 : Hid (Vx w w4 (.slice uo xs.length uc) (.slice (some ⟨vb, vf, none⟩) ys.length vc) 286 #[.int .i64 (j : Int)] zeD ⟨0, []⟩ ∧ OwnD w4 (w.heap.size + 4) (.slice ao xs.length ac) (.slice bo ys.length bc) xs ys) := ⟨HV.out.next (by repeat' (first | with_reducible assumption | with_reducible exact Below.refl _ _ | with_reducible refine bel_alloc ?_ | with_reducible refine bel_drew ?_ | with_reducible refine bel_trans ?_ (by with_reducible assumption))), OwnD.mono' (OwnD.bel O3.out (by repeat' (first | with_reducible assumption | with_reducible exact Below.refl _ _ | with_reducible refine bel_alloc ?_ | with_reducible refine bel_drew ?_ | with_reducible refine bel_trans ?_ (by with_reducible assumption)))) (Nat.le_trans HV.out.sz (bel_size (by repeat' (first | with_reducible assumption | with_reducible exact Below.refl _ _ | with_reducible refine bel_alloc ?_ | with_reducible refine bel_drew ?_ | with_reducible refine bel_trans ?_ (by with_reducible assumption)))))⟩; refine upon_putS (w.heap.size + 1 + 1) 36 (dkA (.slice ao xs.length ac) (.slice bo ys.length bc)) zeD rfl (dkA_one rfl rfl) H5.out.1.rd ?_; intro w6 s6 g6; have ra := H5.out.1.ra.kept g6 (by simp); have r0 : w6.cell? ⟨w.heap.size + 1 + 1 + 1, 0, none⟩ = some (.int .i64 0) := ra.cell 0 rfl; have r1 : w6.cell? ⟨w.heap.size + 1 + 1 + 1, 1, none⟩ = some (.string ⟨#[]⟩) := ra.cell 1 rfl; have f0 := ra.frozen 0; have f1 := ra.frozen 1))
  all_goals
    go_wp2
    have S7 := (ra.put 0 (.int .i64 0) rfl).put 1 (S d) (ds := anA ⟨0, d⟩) rfl
    have G7 := (grownSet w6 (w.heap.size + 1 + 1 + 1) 0 (.int .i64 0)).trans (grownSet _ (w.heap.size + 1 + 1 + 1) 1 (S d))
    refine bodyPost_ret (results_DA rfl _ _ (w.heap.size + 1 + 1) (w.heap.size + 1 + 1 + 1) _ _ rfl rfl rfl rfl (s6.kept G7 (by simp)) S7) rfl ?_
    exact ⟨_, _, rfl, H5.out.1.fin H5.out.2.1 H5.out.2.2.1 (Nat.le_refl _) H5.out.2.2.2 g6 G7⟩
end Go.Proofs.YtlkkpolnllbljaaGreatDoor
