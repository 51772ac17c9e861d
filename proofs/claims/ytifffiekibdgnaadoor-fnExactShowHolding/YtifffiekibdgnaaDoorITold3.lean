/- What the program tells of a holding, on: ShowHolding. -/
import Derived.Test.YtifffiekibdgnaaDoorITold2
namespace Go.Proofs.YtifffiekibdgnaaDoor
open Go.ChangeShapes Go.WideShapes Go.ChangeAt Go.RowKit

set_option maxRecDepth 20000 in
set_option maxHeartbeats 2000000 in
theorem ishowH_any (v : Value) (h : Hd) (w : World) (hr : Reads w v h.ks) (hl : h.ks.length ≤ 1099511627776) (ht : Tab w) :
    Calls Tryd.prog 15 #[HV v h] w fun e w' => e = .returned (S h.showT) ∧ Below w.heap.size w w' := by
  have b1 : Below w.heap.size w (w.alloc (.cells (hdA v h) 27)) := (Below.refl _ _).alloc (Nat.le_refl _) _
  have c1 := iheldof_any v h _ (hr.below b1 (Nat.le_refl _)) hl
  obtain ⟨ao0, cap0, rfl⟩ := reads_form hr
  obtain ⟨ok, hok⟩ : ∃ ok, ok = h.ok := ⟨_, rfl⟩
  obtain ⟨f, x, y, z, hf, hfo⟩ := heldV_form h
  have HE : Hid (h.showT = if ok then intsB h.showN else []) := by rw [Hid, hok]; rfl
  have HF : Hid (ok = true → Fits64 (listK f ++ [x, y, z]) ∧ h.showN = listK f ++ [x, y, z]) := fun e => by
    rw [hok] at e
    obtain ⟨rfl, rfl, rfl, rfl⟩ := hfo e
    have h2 := Hd.ok_fits e
    have h1 : h.showN = listK (KF h.ks) ++ [h.kd, h.ho, h.tu] := by rw [listK_KF (Hd.ok_all e).1]; rfl
    rw [h1] at h2
    exact ⟨h2, h1⟩
  rw [← hok] at c1
  rw [hf] at c1
  have HT : Hid (Tab w) := ht
  clear hok hf hfo hr hl ht
  unfold HV hdA at *
  unfold S
  go_enter Tryd.func15, Tryd.ntmps15
  go_wp2_with fail
  refine c1.mono ?_
  rintro e w2 ⟨rfl, b2⟩
  have HB2 : Hid (Below w.heap.size w w2) := b1.trans (b2.mono b1.size)
  have z2 : Hid (StB (w2.alloc (.cells (heA (fun _ => 0) 0 0 0) 41)) w2.heap.size 41 (heA (fun _ => 0) 0 0 0)) := StB.new _ _ _
  clear c1 b1 b2
  cases ok with
  | false =>
    go_wp2_with (first | (refine wpList_putS Tryd.isHeld rfl _ _ rfl w2.heap.size (heA f x y z) _ rfl rfl rfl rfl (heA_one _ _ _ _) z2.out ?_; intro w3 h3 g3))
    go_ret
    rw [HE.out]
    exact ⟨rfl, HB2.out.trans (((Below.refl _ _).alloc (Nat.le_refl _) _ |>.grown g3 (by simp) (fun k e => by cases e; exact Nat.le_refl _)).mono HB2.out.size)⟩
  | true =>
    obtain ⟨fk, hn⟩ := HF.out rfl
    rw [if_pos rfl, hn] at HE
    have FK : Hid (Fits64 (listK f ++ [x, y, z])) := fk
    clear HF fk hn
    go_upto_region 4 with (first | (refine wpList_putS Tryd.isHeld rfl _ _ rfl w2.heap.size (heA f x y z) _ rfl rfl rfl rfl (heA_one _ _ _ _) z2.out ?_; intro w3 h3 g3))
    have HB3 : Hid (Below w.heap.size w w3.drew) := (HB2.out.trans (((Below.refl _ _).alloc (Nat.le_refl _) _ |>.grown g3 (by simp) (fun k e => by cases e; exact Nat.le_refl _)).mono HB2.out.size)).drew
    have D3 : Hid (StB w3.drew w2.heap.size 41 (heA f x y z)) := h3
    have cl := fun wx => ilistK4_any f wx
    obtain ⟨ks, hks⟩ : ∃ ks, ks = listK f := ⟨_, rfl⟩
    obtain ⟨ns, hns⟩ : ∃ ns, ns = ks ++ [x, y, z] := ⟨_, rfl⟩
    have HNS : Hid (ns = ks ++ [x, y, z]) := hns
    have HKL : Hid (ks.length = 4) := by rw [hks]; rfl
    have hnl : Hid (ns.length = 7) := by rw [Hid, hns]; have := HKL.out; simp; omega
    rw [← hks, ← hns] at FK HE
    have CN : Hid (∀ u w', Reads w' u ns → Tab w' → _) := fun u w' hr ht => ishowN_any u ns w' hr (by have := hnl.out; omega) (by have := hnl.out; omega) FK.out ht
    simp only [← hks] at cl
    obtain ⟨g, hg⟩ : ∃ g, g = w2.heap.size := ⟨_, rfl⟩
    rw [← hg] at D3 h3 ⊢
    have HG : Hid (g < w3.heap.size ∧ w.heap.size ≤ g) := ⟨h3.lt, by rw [hg]; exact HB2.out.size⟩
    obtain ⟨m0, m1, m2, m3, m4, m5, m6⟩ := heA_cells h3
    obtain ⟨d0, d1, d2, d3, d4, d5, d6⟩ := heA_cells D3.out
    have DA : Hid (StB (w3.drew.alloc (.cells #[.int .i64 x, .int .i64 y, .int .i64 z] 2)) g 41 (heA f x y z)) := D3.out.alloc _
    obtain ⟨q0, q1, q2, q3, q4, q5, q6⟩ := heA_cells DA.out
    have BA : Hid (Below w.heap.size w (w3.drew.alloc (.cells #[.int .i64 x, .int .i64 y, .int .i64 z] 2))) := HB3.out.alloc HB3.out.size _
    have NA : Hid (∀ j, j < [x, y, z].length → (w3.drew.alloc (.cells #[.int .i64 x, .int .i64 y, .int .i64 z] 2)).cell? ⟨w3.heap.size, j, none⟩ = some (.int .i64 ([x, y, z].getD j 0))) := news3 w3.drew x y z
    have CL : Hid _ := cl
    have HW : Hid (w3.heap.size ≤ (w3.drew.alloc (.cells #[.int .i64 x, .int .i64 y, .int .i64 z] 2)).heap.size) := by rw [Hid, World.size_alloc]; exact Nat.le_succ _
    clear h3 g3 z2 FK hg HB2 hks hns cl
    unfold kA at CL
    go_region_held3 (fun w' => w'.cell? ⟨g, 0, none⟩ = some (.int .i64 (f 0)) ∧ w'.cell? ⟨g, 1, none⟩ = some (.int .i64 (f 1)) ∧ w'.cell? ⟨g, 2, none⟩ = some (.int .i64 (f 2)) ∧ w'.cell? ⟨g, 3, none⟩ = some (.int .i64 (f 3)) ∧ w'.cell? ⟨g, 4, none⟩ = some (.int .i64 x) ∧ w'.cell? ⟨g, 5, none⟩ = some (.int .i64 y) ∧ w'.cell? ⟨g, 6, none⟩ = some (.int .i64 z)) (refine ⟨?_, ?_, ?_, ?_, ?_, ?_, ?_⟩ <;> first | with_reducible assumption | (with_reducible refine cell_later ?_; with_reducible assumption) | exact q0 | exact q1 | exact q2 | exact q3 | exact q4 | exact q5 | exact q6)
      (first
        | (go_at_call 30; refine (CL.out _).mono ?_; rintro e w4 ⟨ao, cap, rfl, o4, b4⟩; first
            | (have b5 : Below w3.drew.heap.size w3.drew w4 := (by with_reducible exact b4); clear b5; have OA : Hid True := trivial; have O4 : Hid (Own w4 w3.heap.size (.slice ao 4 cap) ks) := o4; have B4 : Hid (Below w.heap.size w w4) := HB3.out.trans (b4.mono HB3.out.size); have H4 : Hid (StB w4 g 41 (heA f x y z)) := D3.out.below b4; have S4 : Hid (w3.heap.size ≤ w4.heap.size) := b4.size; clear o4 b4; obtain ⟨n0, n1, n2, n3, n4, n5, n6⟩ := heA_cells H4.out)
            | (have OB : Hid True := trivial; have O4 : Hid (Own w4 w3.heap.size (.slice ao 4 cap) ks) := o4.mono HW.out; have N4 : Hid (Below (w3.drew.alloc (.cells #[.int .i64 x, .int .i64 y, .int .i64 z] 2)).heap.size (w3.drew.alloc (.cells #[.int .i64 x, .int .i64 y, .int .i64 z] 2)) w4) := b4; have B4 : Hid (Below w.heap.size w w4) := BA.out.trans (b4.mono BA.out.size); have H4 : Hid (StB w4 g 41 (heA f x y z)) := DA.out.below b4; have S4 : Hid (w3.heap.size ≤ w4.heap.size) := Nat.le_trans HW.out b4.size; clear o4 b4; obtain ⟨n0, n1, n2, n3, n4, n5, n6⟩ := heA_cells H4.out))
        | (go_at_call 25; refine (CN.out _ _ O5.out.reads (HT.out.below B5.out)).mono ?_; rintro e w6 ⟨rfl, b6⟩; have B6 : Hid (Below w.heap.size w w6) := B5.out.trans (b6.mono B5.out.size); have H6 : Hid (StB w6 g 41 (heA f x y z)) := H5.out.below b6; clear b6; obtain ⟨r0, r1, r2, r3, r4, r5, r6⟩ := heA_cells H6.out; unfold S)
        | (have := OA.out; refine step_appendI rfl (.tmp 14) (.tmp 21) rfl w3.heap.size (.slice ao 4 cap) ks (by simp [Act.eval]) (O4.out.alloc _) w4.heap.size 3 3 [x, y, z] (by simp [Act.eval]) rfl (news3 w4 x y z) (by have := HKL.out; simp; omega) (by rw [World.size_alloc]; exact Nat.le_succ_of_le S4.out) ?_; intro v5 w5 o5 g5; rw [← HNS.out] at o5; obtain ⟨ao5, cap5, rfl⟩ := reads_form o5.reads; have H5 : Hid (StB w5 g 41 (heA f x y z)) := StB.kept (H4.out.alloc _) g5 (fun c => by have := (O4.out.lt _ c.symm).1; have := HG.out.1; omega); have B5 : Hid (Below w.heap.size w w5) := Below.grown (B4.out.alloc B4.out.size _) g5 ((B4.out.alloc B4.out.size _)).size (fun x c => by have := (O4.out.lt x c).1; have := HG.out; omega); have O5 : Hid (Own w5 w3.heap.size (.slice ao5 ns.length cap5) ns) := o5; clear o5 g5; obtain ⟨s0, s1, s2, s3, s4, s5, s6⟩ := heA_cells H5.out)
        | (have := OB.out; refine step_appendI rfl (.tmp 14) (.tmp 21) rfl w3.heap.size (.slice ao 4 cap) ks (by simp [Act.eval]) O4.out w3.heap.size 3 3 [x, y, z] (by simp [Act.eval]) rfl (fun j hj => (N4.out.cell (World.block_lt_of_cell? _ _ (NA.out j hj))).trans (NA.out j hj)) (by have := HKL.out; simp; omega) S4.out ?_; intro v5 w5 o5 g5; rw [← HNS.out] at o5; obtain ⟨ao5, cap5, rfl⟩ := reads_form o5.reads; have H5 : Hid (StB w5 g 41 (heA f x y z)) := StB.kept H4.out g5 (fun c => by have := (O4.out.lt _ c.symm).1; have := HG.out.1; omega); have B5 : Hid (Below w.heap.size w w5) := Below.grown B4.out g5 B4.out.size (fun x c => by have := (O4.out.lt x c).1; have := HG.out; omega); have O5 : Hid (Own w5 w3.heap.size (.slice ao5 ns.length cap5) ns) := o5; clear o5 g5; obtain ⟨s0, s1, s2, s3, s4, s5, s6⟩ := heA_cells H5.out))
    all_goals
      go_wp2
      go_ret
      exact ⟨by rw [HE.out]; rfl, B6.out⟩
end Go.Proofs.YtifffiekibdgnaaDoor
