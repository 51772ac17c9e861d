/- How the laws take a message over, count and compare it. -/
import Derived.Test.YtjbfncjdedigdaaIPost4
import Derived.Test.YtjbfncjdedigdaaM16
namespace Go.Proofs.Ytjbfncjdedigdaa
open Go.ChangeShapes Go.WideShapes Go.ChangeAt Go.RowKit

theorem Try.isLM : IsS 65 11 := ⟨⟨_, Try.underlying65⟩, by kernel_rfl⟩

set_option maxRecDepth 20000 in
set_option maxHeartbeats 1000000 in
theorem szMsg_any (v : Value) (m : Mg) (k : Int) (w : World) (hr : Reads w v m.h.ks) (h0 : 0 ≤ k) (h1 : k ≤ 1048576) :
    Calls Try.prog 42 #[MgV v m, .int .i64 k] w fun e w' => e = .returned (.int .i64 (szI k m.h.ks.length)) ∧ Below w.heap.size w w' := by
  obtain ⟨w1, hw1⟩ : ∃ w1, w1 = w.alloc (.cells (mgA v m) 65) := ⟨_, rfl⟩
  have B1 : Below w.heap.size w w1 := by rw [hw1]; exact (Below.refl _ _).alloc (Nat.le_refl _) _
  have S1 : StB w1 w.heap.size 65 (mgA v m) := by rw [hw1]; exact StB.new _ _ _
  have c1 := szHolding_any v m.h k w1 (hr.below B1 (Nat.le_refl _)) h0 h1
  have hs : szI k m.h.ks.length = -1 ∨ 0 ≤ szI k m.h.ks.length := by unfold szI; split <;> omega
  obtain ⟨x, hx⟩ : ∃ x, x = szI k m.h.ks.length := ⟨_, rfl⟩
  rw [← hx] at c1 hs ⊢
  have HB : Hid (Below w.heap.size w w1) := B1
  clear hx hr B1
  unfold HV at c1
  unfold MgV
  go_enter Try.func42, Try.ntmps42
  go_upto_region 1 with fail
  rw [← hw1]
  clear hw1
  go_wp2_with (refine wpList_getO Try.isLH rfl _ rfl w.heap.size 7 rfl (hdA v m.h) rfl (mg_hold S1) ?_)
  refine c1.mono ?_
  rintro e w2 ⟨rfl, b2⟩
  replace HB : Hid (Below w.heap.size w w2) := HB.out.trans (b2.mono HB.out.size)
  clear b2 S1 c1
  rcases hs with hs | hs
  · subst hs
    go_wp2
    go_ret
    exact ⟨rfl, HB.out⟩
  · go_wp2
    go_ret
    exact ⟨rfl, HB.out⟩

set_option maxRecDepth 20000 in
set_option maxHeartbeats 2000000 in
theorem toMsg_any (v : Value) (m : Mg) (w : World) (hr : Reads w v m.h.ks) (hl : m.h.ks.length ≤ 1048576) :
    Calls Try.prog 43 #[MgV v m] w fun e w' => ∃ u, e = .returned (MgV u m) ∧ Own w' w.heap.size u m.h.ks ∧ Below w.heap.size w w' := by
  obtain ⟨w1, hw1⟩ : ∃ w1, w1 = ((w.alloc (.cells (mgA v m) 65)).alloc (.cells zeroMg 35)).alloc (.cells (mgA (.slice none 0 0) { m with h := Hd.zero }) 35) := ⟨_, rfl⟩
  have p0 : StB w1 w.heap.size 65 (mgA v m) := by rw [hw1]; exact ((StB.new w _ _).alloc _).alloc _
  have q0 : StB w1 (w.heap.size + 1) 35 zeroMg := by
    rw [hw1]
    have := (StB.new (w.alloc (.cells (mgA v m) 65)) 35 zeroMg).alloc (.cells (mgA (.slice none 0 0) { m with h := Hd.zero }) 35)
    rwa [World.size_alloc] at this
  have r0 : StB w1 (w.heap.size + 1 + 1) 35 (mgA (.slice none 0 0) { m with h := Hd.zero }) := by
    rw [hw1]
    have := StB.new ((w.alloc (.cells (mgA v m) 65)).alloc (.cells zeroMg 35)) 35 (mgA (.slice none 0 0) { m with h := Hd.zero })
    rwa [World.size_alloc, World.size_alloc] at this
  have b1 : Below w.heap.size w w1 := by rw [hw1]; exact (((Below.refl _ _).alloc (Nat.le_refl _) _).alloc (by simp) _).alloc (by simp; omega) _
  have c1 := toHolding_any v m.h w1 (hr.below b1 (Nat.le_refl _)) (by omega)
  have hz : w.heap.size + 2 < w1.heap.size := r0.lt
  have HB : Hid (Below w.heap.size w w1) := b1
  clear b1 hr hl
  unfold HV at c1
  unfold MgV
  go_enter Try.func43, Try.ntmps43
  have e0 : w1 = ((w.alloc (.cells #[.int .i64 m.dst, .int .i64 m.kd, .int .i64 m.tr, .int .i64 m.pl, .int .i64 m.tn, .int .i64 m.va, .int .i64 m.ep, v, .int .i64 m.h.kd, .int .i64 m.h.ho, .int .i64 m.h.tu] 65)).alloc (.cells #[.int .i64 0, .int .i64 0, .int .i64 0, .int .i64 0, .int .i64 0, .int .i64 0, .int .i64 0, .slice none 0 0, .int .i64 0, .int .i64 0, .int .i64 0] 35)).alloc (.cells #[.int .i64 m.dst, .int .i64 m.kd, .int .i64 m.tr, .int .i64 m.pl, .int .i64 m.tn, .int .i64 m.va, .int .i64 m.ep, .slice none 0 0, .int .i64 0, .int .i64 0, .int .i64 0] 35) := hw1
  conv in (mgA v m) => unfold mgA
  go_upto_region 9 with fail
  rw [← e0]
  clear hw1 e0
  go_wp2_with (refine wpList_getO Try.isLH rfl _ rfl w.heap.size 7 rfl (hdA v m.h) rfl (mg_hold p0) ?_)
  refine c1.mono ?_
  rintro e w2 ⟨u, rfl, o2, b2⟩
  have hu : u.oneCell' = true := reads_one o2.reads
  replace r0 := r0.below b2
  replace q0 := q0.below b2
  have HO : Hid (Own w2 w1.heap.size u m.h.ks ∧ Below w.heap.size w w2) := ⟨o2, HB.out.trans (b2.mono HB.out.size)⟩
  clear c1 b2 o2 p0 HB
  go_wp2_with (first
    | (refine wpList_putPart Try.isH rfl _ _ rfl (w.heap.size + 1 + 1) 7 35 (mgA (.slice none 0 0) { m with h := Hd.zero }) (hdA u m.h) (mgA u m) rfl rfl rfl r0 (Nat.le_refl 11) (hdA_one _ hu) rfl ?_; intro w3 s3 g3)
    | (refine wpList_getS Try.isMg rfl _ rfl (w.heap.size + 1 + 1) rfl (mgA u m) rfl s3 ?_)
    | (refine wpList_putS Try.isMg rfl _ _ rfl (w.heap.size + 1) (mgA u m) zeroMg rfl rfl rfl rfl (mgA_one _ hu) (q0.kept g3 (by intro e; have := Option.some.inj e; omega)) ?_; intro we se ge))
  refine bodyPost_ret (results_S Try.isMg rfl _ _ (w.heap.size + 1) _ rfl rfl se) rfl ?_
  exact ⟨_, rfl, ((HO.out.1.keptLt g3 (by omega)).keptLt ge (by omega)).mono (by omega), (HO.out.2.grown g3 HO.out.2.size (fun x e => by cases e; omega)).grown ge (Nat.le_trans HO.out.2.size g3.size) (fun x e => by cases e; omega)⟩

set_option maxRecDepth 20000 in
set_option maxHeartbeats 2000000 in
theorem eqMsg_any (u v : Value) (m : Mg) (w : World) (hu : Reads w u m.h.ks) (hv : Reads w v m.h.ks) (hl : m.h.ks.length ≤ 1048576) :
    Calls Try.prog 27 #[MgV u m, MgV v m] w fun e w' => e = .returned (.bool true) ∧ Below w.heap.size w w' := by
  obtain ⟨w1, hw1⟩ : ∃ w1, w1 = (w.alloc (.cells (mgA u m) 35)).alloc (.cells (mgA v m) 35) := ⟨_, rfl⟩
  have p0 : StB w1 w.heap.size 35 (mgA u m) := by rw [hw1]; exact (StB.new w _ _).alloc _
  have p1 : StB w1 (w.heap.size + 1) 35 (mgA v m) := by
    rw [hw1]
    have := StB.new (w.alloc (.cells (mgA u m) 35)) 35 (mgA v m)
    rwa [World.size_alloc] at this
  have b1 : Below w.heap.size w w1 := by rw [hw1]; exact ((Below.refl _ _).alloc (Nat.le_refl _) _).alloc (by simp) _
  have c1 := eqHolding_any u v m.h w1 (hu.below b1 (Nat.le_refl _)) (hv.below b1 (Nat.le_refl _)) (by omega)
  have HB : Hid (Below w.heap.size w w1) := b1
  clear hu hv hl b1
  unfold HV at c1
  unfold MgV
  have k0 : w1.cell? ⟨w.heap.size, 0, none⟩ = some (.int .i64 m.dst) := p0.cell 0 rfl
  have k1 : w1.cell? ⟨w.heap.size, 1, none⟩ = some (.int .i64 m.kd) := p0.cell 1 rfl
  have k2 : w1.cell? ⟨w.heap.size, 2, none⟩ = some (.int .i64 m.tr) := p0.cell 2 rfl
  have k3 : w1.cell? ⟨w.heap.size, 3, none⟩ = some (.int .i64 m.pl) := p0.cell 3 rfl
  have k4 : w1.cell? ⟨w.heap.size, 4, none⟩ = some (.int .i64 m.tn) := p0.cell 4 rfl
  have k5 : w1.cell? ⟨w.heap.size, 5, none⟩ = some (.int .i64 m.va) := p0.cell 5 rfl
  have k6 : w1.cell? ⟨w.heap.size, 6, none⟩ = some (.int .i64 m.ep) := p0.cell 6 rfl
  have l0 : w1.cell? ⟨w.heap.size + 1, 0, none⟩ = some (.int .i64 m.dst) := p1.cell 0 rfl
  have l1 : w1.cell? ⟨w.heap.size + 1, 1, none⟩ = some (.int .i64 m.kd) := p1.cell 1 rfl
  have l2 : w1.cell? ⟨w.heap.size + 1, 2, none⟩ = some (.int .i64 m.tr) := p1.cell 2 rfl
  have l3 : w1.cell? ⟨w.heap.size + 1, 3, none⟩ = some (.int .i64 m.pl) := p1.cell 3 rfl
  have l4 : w1.cell? ⟨w.heap.size + 1, 4, none⟩ = some (.int .i64 m.tn) := p1.cell 4 rfl
  have l5 : w1.cell? ⟨w.heap.size + 1, 5, none⟩ = some (.int .i64 m.va) := p1.cell 5 rfl
  have l6 : w1.cell? ⟨w.heap.size + 1, 6, none⟩ = some (.int .i64 m.ep) := p1.cell 6 rfl
  go_enter Try.func27, Try.ntmps27
  go_upto_region 1 with fail
  rw [← hw1]
  clear hw1
  go_upto_region 15 with fail
  clear k0 k1 k2 k3 k4 k5 k6 l0 l1 l2 l3 l4 l5 l6
  go_wp2_with (first | (refine wpList_getO Try.isH rfl _ rfl w.heap.size 7 rfl (hdA u m.h) rfl (mg_hold p0) ?_) | (refine wpList_getO Try.isH rfl _ rfl (w.heap.size + 1) 7 rfl (hdA v m.h) rfl (mg_hold p1) ?_))
  refine c1.mono ?_
  rintro e w2 ⟨rfl, b2⟩
  replace HB : Hid (Below w.heap.size w w2) := HB.out.trans (b2.mono HB.out.size)
  clear b2 c1 p0 p1
  go_wp2
  go_ret
  exact ⟨rfl, HB.out⟩
end Go.Proofs.Ytjbfncjdedigdaa
