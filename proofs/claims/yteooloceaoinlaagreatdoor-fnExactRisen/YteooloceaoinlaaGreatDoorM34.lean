/- Houses by the model: Fallen, Risen. -/
import Derived.Test.YteooloceaoinlaaGreatDoorM33
import Derived.Test.YteooloceaoinlaaGreatDoorM25
namespace Go.Proofs.YteooloceaoinlaaGreatDoor
open Go.ChangeShapes Go.WideShapes Go.ChangeAt Go.RowKit

theorem OwnN.nil (w : World) (base : Nat) : OwnN w base (.slice none 0 0) (.slice none 0 0) (.slice none 0 0) (.slice none 0 0) (.slice none 0 0) Nd.zero :=
  ⟨Own.nil _ _, Own.nil _ _, Own.nil _ _, Own.nil _ _, Own.nil _ _, pair5.2 ⟨⟨apart_nil _ _ _, apart_nil _ _ _, apart_nil _ _ _, apart_nil _ _ _⟩, ⟨apart_nil _ _ _, apart_nil _ _ _, apart_nil _ _ _⟩, ⟨apart_nil _ _ _, apart_nil _ _ _⟩, apart_nil _ _ _⟩⟩
theorem setOk_two {s : Int} (h : setOk s = true) : 0 ≤ s ∧ s < 256 := by
  unfold setOk at h
  simpa using h
theorem Nd.ok_both {n : Nd} (h : n.ok = true) : bothOk n.xs n.ys = true := ((Nd.ok_iff n).1 h).dk

set_option maxRecDepth 20000 in
set_option maxHeartbeats 8000000 in
theorem sFallen_any (a b k q z : Value) (n : Nd) (set : Int) (w : World) (hr : RdN w a b k q z n) (hl : SmN n) :
    Calls Tryz.prog 11 #[NdV a b k q z n, .int .i64 set] w fun e w' => ∃ a' b' k' q' z', e = .returned (.tuple #[NdV a' b' k' q' z' (n.Fall set).1, .bool (n.Fall set).2]) ∧ OwnN w' w.heap.size a' b' k' q' z' (n.Fall set).1 ∧ Below w.heap.size w w' := by
  have HR : Hid (∀ wx, Below w.heap.size w wx → RdN wx a b k q z n) := fun wx B => hr.below B
  have CN : Hid (∀ wx, Below w.heap.size w wx → Calls Tryz.prog 7 #[NdV a b k q z n] wx fun e w' => e = .returned (.bool n.ok) ∧ Below wx.heap.size wx w') := fun wx B => snodeok_any a b k q z n wx (HR.out wx B) hl
  have CF : Hid (∀ wx, Below w.heap.size w wx → Calls Tryz.prog 44 #[NdV a b k q z n] wx fun e w' => ∃ a' b' k' q' z', e = .returned (NdV a' b' k' q' z' n) ∧ OwnN w' wx.heap.size a' b' k' q' z' n ∧ Below wx.heap.size wx w') := fun wx B => scopyN_any a b k q z n wx (HR.out wx B) hl
  have CB : Hid (∀ wx, Calls Tryz.prog 45 #[.int .i64 set] wx fun e w' => e = .returned (.bool (setOk set)) ∧ w' = wx) := fun wx => sset_any set wx
  have HE : Hid (n.Fall set = if n.ok then (if n.up && setOk set then (n.down set, true) else (n, false)) else (Nd.zero, false)) := rfl
  obtain ⟨x, hx⟩ : ∃ x, x = n.Fall set := ⟨_, rfl⟩
  rw [← hx] at HE ⊢
  clear hx
  obtain ⟨ao, ac, rfl⟩ := reads_form hr.ra
  obtain ⟨bo, bc, rfl⟩ := reads_form hr.rb
  obtain ⟨ko, kc, rfl⟩ := reads_form hr.rk
  obtain ⟨qo, qc, rfl⟩ := reads_form hr.rq
  obtain ⟨zo, zc, rfl⟩ := reads_form hr.rz
  obtain ⟨w1, hw1⟩ : ∃ w1, w1 = (w.alloc (.cells (ndA (.slice ao n.xs.length ac) (.slice bo n.ys.length bc) (.slice ko n.h.ks.length kc) (.slice qo n.c.ts.length qc) (.slice zo n.s.ts.length zc) n) 43)).alloc (.cells zeroNd 43) := ⟨_, rfl⟩
  have HF : Hid (FS w w1 (ndA (.slice ao n.xs.length ac) (.slice bo n.ys.length bc) (.slice ko n.h.ks.length kc) (.slice qo n.c.ts.length qc) (.slice zo n.s.ts.length zc) n)) := by rw [hw1]; exact FS.start w _
  clear hr HR
  unfold ndA zeroNd S at hw1
  unfold NdV at CN CF ⊢
  conv in ndA (.slice ao n.xs.length ac) _ _ _ _ _ => unfold ndA S
  go_enter Tryz.func11, Tryz.ntmps11
  go_upto_region 1 with fail
  rw [← hw1]
  clear hw1
  go_wp2_with (refine wpList_getS Tryz.isNd rfl _ rfl w.heap.size rfl (ndA (.slice ao n.xs.length ac) (.slice bo n.ys.length bc) (.slice ko n.h.ks.length kc) (.slice qo n.c.ts.length qc) (.slice zo n.s.ts.length zc) n) rfl HF.out.p ?_)
  refine (CN.out w1 HF.out.b).mono ?_
  rintro e w2 ⟨rfl, b2⟩
  replace HF : Hid (FS w w2 (ndA (.slice ao n.xs.length ac) (.slice bo n.ys.length bc) (.slice ko n.h.ks.length kc) (.slice qo n.c.ts.length qc) (.slice zo n.s.ts.length zc) n)) := HF.out.below b2
  clear b2 CN
  clear hl
  cases hk : n.ok with
  | false =>
    have HX : Hid (x = (Nd.zero, false)) := by rw [Hid, HE.out, hk]; rfl
    clear HE CF CB hk
    go_wp2_with (refine wpList_putS Tryz.isNd rfl _ _ rfl (w.heap.size + 1) zeroNd zeroNd rfl rfl rfl rfl zeroNd_one HF.out.r ?_; intro w19 s19 g19)
    refine bodyPost_ret (results_S2 Tryz.isNd rfl _ _ (w.heap.size + 1) _ (.bool false) rfl rfl rfl s19) rfl ?_
    rw [HX.out]
    exact ⟨_, _, _, _, _, rfl, OwnN.nil _ _, HF.out.b.grown g19 HF.out.b.size (fun k e => by cases e; omega)⟩
  | true =>
    have HK : Hid (n.ok = true) := hk
    have HX : Hid (x = if n.up && setOk set then (n.down set, true) else (n, false)) := by rw [Hid, HE.out, hk]; rfl
    clear HE hk
    go_wp2_with (refine wpList_getS Tryz.isNd rfl _ rfl w.heap.size rfl (ndA (.slice ao n.xs.length ac) (.slice bo n.ys.length bc) (.slice ko n.h.ks.length kc) (.slice qo n.c.ts.length qc) (.slice zo n.s.ts.length zc) n) rfl HF.out.p ?_)
    refine (CF.out w2 HF.out.b).mono ?_
    rintro e w3 ⟨a', b', k', q', z', rfl, o3, b3⟩
    obtain ⟨a1, a2, rfl⟩ := reads_form o3.oa.reads
    obtain ⟨b1, b2, rfl⟩ := reads_form o3.ob.reads
    obtain ⟨k1, k2, rfl⟩ := reads_form o3.ok.reads
    obtain ⟨q1, q2, rfl⟩ := reads_form o3.oq.reads
    obtain ⟨z1, z2, rfl⟩ := reads_form o3.oz.reads
    have O : Hid (OwnN w3 (w.heap.size + 2) (.slice a1 n.xs.length a2) (.slice b1 n.ys.length b2) (.slice k1 n.h.ks.length k2) (.slice q1 n.c.ts.length q2) (.slice z1 n.s.ts.length z2) n) := o3.mono HF.out.lt
    replace HF : Hid (FS w w3 (ndA (.slice ao n.xs.length ac) (.slice bo n.ys.length bc) (.slice ko n.h.ks.length kc) (.slice qo n.c.ts.length qc) (.slice zo n.s.ts.length zc) n)) := HF.out.below b3
    clear o3 b3 CF
    have q3 : StB (w3.alloc (.cells zeroNd 43)) w3.heap.size 43 zeroNd := StB.new w3 _ _
    go_upto_region 4 with (refine wpList_putS Tryz.isNd rfl _ _ rfl w3.heap.size (ndA (.slice a1 n.xs.length a2) (.slice b1 n.ys.length b2) (.slice k1 n.h.ks.length k2) (.slice q1 n.c.ts.length q2) (.slice z1 n.s.ts.length z2) n) zeroNd rfl rfl rfl rfl (ndA_one n rfl rfl rfl rfl rfl) q3 ?_; intro w4 s4 g4)
    have HC : Hid (CS w w4 (ndA (.slice ao n.xs.length ac) (.slice bo n.ys.length bc) (.slice ko n.h.ks.length kc) (.slice qo n.c.ts.length qc) (.slice zo n.s.ts.length zc) n) w3.heap.size (ndA (.slice a1 n.xs.length a2) (.slice b1 n.ys.length b2) (.slice k1 n.h.ks.length k2) (.slice q1 n.c.ts.length q2) (.slice z1 n.s.ts.length z2) n) (.slice a1 n.xs.length a2) (.slice b1 n.ys.length b2) (.slice k1 n.h.ks.length k2) (.slice q1 n.c.ts.length q2) (.slice z1 n.s.ts.length z2) n) := CS.start HF.out O.out s4 g4
    clear q3 s4 g4 HF O
    simp only [Act.put]
    obtain ⟨g, hg⟩ : ∃ g, g = w3.heap.size := ⟨_, rfl⟩
    rw [← hg] at HC ⊢
    clear hg
    have p1 : w4.cell? ⟨w.heap.size, 1, none⟩ = some (.bool n.up) := HC.out.f.p.cell 1 rfl
    cases hu : n.up with
    | false =>
      have HY : Hid (x = (n, false)) := by rw [Hid, HX.out, hu]; rfl
      rw [hu] at p1
      clear HX hu CB
      go_upto_region 5 with fail
      clear p1
      go_wp2_with (first | (refine wpList_getS Tryz.isNd rfl _ rfl g rfl (ndA (.slice a1 n.xs.length a2) (.slice b1 n.ys.length b2) (.slice k1 n.h.ks.length k2) (.slice q1 n.c.ts.length q2) (.slice z1 n.s.ts.length z2) n) rfl HC.out.whole ?_) | (refine wpList_putS Tryz.isNd rfl _ _ rfl (w.heap.size + 1) (ndA (.slice a1 n.xs.length a2) (.slice b1 n.ys.length b2) (.slice k1 n.h.ks.length k2) (.slice q1 n.c.ts.length q2) (.slice z1 n.s.ts.length z2) n) zeroNd rfl rfl rfl rfl HC.out.own.one HC.out.f.r ?_; intro w19 s19 g19))
      refine bodyPost_ret (results_S2 Tryz.isNd rfl _ _ (w.heap.size + 1) _ (.bool false) rfl rfl rfl s19) rfl ?_
      rw [HY.out]
      exact ⟨_, _, _, _, _, rfl, (HC.out.own.keptLt g19 (by omega)).mono (by omega), HC.out.f.b.grown g19 HC.out.f.b.size (fun k e => by cases e; omega)⟩
    | true =>
      rw [hu] at p1
      have HU : Hid (n.up = true) := hu
      clear hu
      go_wp2_with fail
      refine (CB.out w4).mono ?_
      rintro e w' ⟨rfl, hw⟩; subst w'
      clear CB
      cases hs : setOk set with
      | false =>
        have HY : Hid (x = (n, false)) := by rw [Hid, HX.out, HU.out, hs]; rfl
        clear HX hs
        go_upto_region 5 with fail
        clear p1
        go_wp2_with (first | (refine wpList_getS Tryz.isNd rfl _ rfl g rfl (ndA (.slice a1 n.xs.length a2) (.slice b1 n.ys.length b2) (.slice k1 n.h.ks.length k2) (.slice q1 n.c.ts.length q2) (.slice z1 n.s.ts.length z2) n) rfl HC.out.whole ?_) | (refine wpList_putS Tryz.isNd rfl _ _ rfl (w.heap.size + 1) (ndA (.slice a1 n.xs.length a2) (.slice b1 n.ys.length b2) (.slice k1 n.h.ks.length k2) (.slice q1 n.c.ts.length q2) (.slice z1 n.s.ts.length z2) n) zeroNd rfl rfl rfl rfl HC.out.own.one HC.out.f.r ?_; intro w19 s19 g19))
        refine bodyPost_ret (results_S2 Tryz.isNd rfl _ _ (w.heap.size + 1) _ (.bool false) rfl rfl rfl s19) rfl ?_
        rw [HY.out]
        exact ⟨_, _, _, _, _, rfl, (HC.out.own.keptLt g19 (by omega)).mono (by omega), HC.out.f.b.grown g19 HC.out.f.b.size (fun k e => by cases e; omega)⟩
      | true =>
        have HS : Hid (setOk set = true) := hs
        have HY : Hid (x = (n.down set, true)) := by rw [Hid, HX.out, HU.out, hs]; rfl
        clear HX hs
        go_upto_region 6 with fail
        clear p1
        have hs := setOk_two HS.out
        have c5 := sdownN_any g 0 43 _ _ _ _ _ _ n set w4 HC.out.hs (Nd.ok_both HK.out) hs.1 hs.2
        clear hs
        go_wp2_with fail
        refine c5.mono ?_
        rintro e w5 ⟨rfl, cs5, u, v, H5, O5⟩
        have HC5 : Hid (CS w w5 (ndA (.slice ao n.xs.length ac) (.slice bo n.ys.length bc) (.slice ko n.h.ks.length kc) (.slice qo n.c.ts.length qc) (.slice zo n.s.ts.length zc) n) g cs5 u v (.slice k1 n.h.ks.length k2) (.slice none 0 0) (.slice none 0 0) (n.down set)) := HC.out.hop H5 O5
        clear c5 H5 O5 HC
        go_upto_region 7 with fail
        go_wp2_with (first | (refine wpList_getS Tryz.isNd rfl _ rfl g rfl (ndA u v (.slice k1 n.h.ks.length k2) (.slice none 0 0) (.slice none 0 0) (n.down set)) rfl HC5.out.whole ?_) | (refine wpList_putS Tryz.isNd rfl _ _ rfl (w.heap.size + 1) (ndA u v (.slice k1 n.h.ks.length k2) (.slice none 0 0) (.slice none 0 0) (n.down set)) zeroNd rfl rfl rfl rfl HC5.out.own.one HC5.out.f.r ?_; intro w19 s19 g19))
        refine bodyPost_ret (results_S2 Tryz.isNd rfl _ _ (w.heap.size + 1) _ (.bool true) rfl rfl rfl s19) rfl ?_
        rw [HY.out]
        exact ⟨_, _, _, _, _, rfl, (HC5.out.own.keptLt g19 (by omega)).mono (by omega), HC5.out.f.b.grown g19 HC5.out.f.b.size (fun k e => by cases e; omega)⟩

set_option maxRecDepth 20000 in
set_option maxHeartbeats 8000000 in
theorem sRisen_any (a b k q z : Value) (n : Nd) (w : World) (hr : RdN w a b k q z n) (hl : SmN n) :
    Calls Tryz.prog 15 #[NdV a b k q z n] w fun e w' => ∃ a' b' k' q' z', e = .returned (.tuple #[NdV a' b' k' q' z' n.Rise.1, .bool n.Rise.2]) ∧ OwnN w' w.heap.size a' b' k' q' z' n.Rise.1 ∧ Below w.heap.size w w' := by
  have HR : Hid (∀ wx, Below w.heap.size w wx → RdN wx a b k q z n) := fun wx B => hr.below B
  have CN : Hid (∀ wx, Below w.heap.size w wx → Calls Tryz.prog 7 #[NdV a b k q z n] wx fun e w' => e = .returned (.bool n.ok) ∧ Below wx.heap.size wx w') := fun wx B => snodeok_any a b k q z n wx (HR.out wx B) hl
  have CF : Hid (∀ wx, Below w.heap.size w wx → Calls Tryz.prog 44 #[NdV a b k q z n] wx fun e w' => ∃ a' b' k' q' z', e = .returned (NdV a' b' k' q' z' n) ∧ OwnN w' wx.heap.size a' b' k' q' z' n ∧ Below wx.heap.size wx w') := fun wx B => scopyN_any a b k q z n wx (HR.out wx B) hl
  have HE : Hid (n.Rise = if n.ok then n.rise else (Nd.zero, false)) := rfl
  obtain ⟨x, hx⟩ : ∃ x, x = n.Rise := ⟨_, rfl⟩
  rw [← hx] at HE ⊢
  clear hx
  obtain ⟨ao, ac, rfl⟩ := reads_form hr.ra
  obtain ⟨bo, bc, rfl⟩ := reads_form hr.rb
  obtain ⟨ko, kc, rfl⟩ := reads_form hr.rk
  obtain ⟨qo, qc, rfl⟩ := reads_form hr.rq
  obtain ⟨zo, zc, rfl⟩ := reads_form hr.rz
  obtain ⟨w1, hw1⟩ : ∃ w1, w1 = (w.alloc (.cells (ndA (.slice ao n.xs.length ac) (.slice bo n.ys.length bc) (.slice ko n.h.ks.length kc) (.slice qo n.c.ts.length qc) (.slice zo n.s.ts.length zc) n) 43)).alloc (.cells zeroNd 43) := ⟨_, rfl⟩
  have HF : Hid (FS w w1 (ndA (.slice ao n.xs.length ac) (.slice bo n.ys.length bc) (.slice ko n.h.ks.length kc) (.slice qo n.c.ts.length qc) (.slice zo n.s.ts.length zc) n)) := by rw [hw1]; exact FS.start w _
  clear hr HR
  unfold ndA zeroNd S at hw1
  unfold NdV at CN CF ⊢
  conv in ndA (.slice ao n.xs.length ac) _ _ _ _ _ => unfold ndA S
  go_enter Tryz.func15, Tryz.ntmps15
  go_upto_region 1 with fail
  rw [← hw1]
  clear hw1
  go_wp2_with (refine wpList_getS Tryz.isNd rfl _ rfl w.heap.size rfl (ndA (.slice ao n.xs.length ac) (.slice bo n.ys.length bc) (.slice ko n.h.ks.length kc) (.slice qo n.c.ts.length qc) (.slice zo n.s.ts.length zc) n) rfl HF.out.p ?_)
  refine (CN.out w1 HF.out.b).mono ?_
  rintro e w2 ⟨rfl, b2⟩
  replace HF : Hid (FS w w2 (ndA (.slice ao n.xs.length ac) (.slice bo n.ys.length bc) (.slice ko n.h.ks.length kc) (.slice qo n.c.ts.length qc) (.slice zo n.s.ts.length zc) n)) := HF.out.below b2
  clear b2 CN
  have HL : Hid (SmN n) := hl
  clear hl
  cases hk : n.ok with
  | false =>
    have HX : Hid (x = (Nd.zero, false)) := by rw [Hid, HE.out, hk]; rfl
    clear HE CF hk
    go_wp2_with (refine wpList_putS Tryz.isNd rfl _ _ rfl (w.heap.size + 1) zeroNd zeroNd rfl rfl rfl rfl zeroNd_one HF.out.r ?_; intro w19 s19 g19)
    refine bodyPost_ret (results_S2 Tryz.isNd rfl _ _ (w.heap.size + 1) _ (.bool false) rfl rfl rfl s19) rfl ?_
    rw [HX.out]
    exact ⟨_, _, _, _, _, rfl, OwnN.nil _ _, HF.out.b.grown g19 HF.out.b.size (fun k e => by cases e; omega)⟩
  | true =>
    have HX : Hid (x = n.rise) := by rw [Hid, HE.out, hk]; rfl
    clear HE hk
    go_wp2_with (refine wpList_getS Tryz.isNd rfl _ rfl w.heap.size rfl (ndA (.slice ao n.xs.length ac) (.slice bo n.ys.length bc) (.slice ko n.h.ks.length kc) (.slice qo n.c.ts.length qc) (.slice zo n.s.ts.length zc) n) rfl HF.out.p ?_)
    refine (CF.out w2 HF.out.b).mono ?_
    rintro e w3 ⟨a', b', k', q', z', rfl, o3, b3⟩
    obtain ⟨a1, a2, rfl⟩ := reads_form o3.oa.reads
    obtain ⟨b1, b2, rfl⟩ := reads_form o3.ob.reads
    obtain ⟨k1, k2, rfl⟩ := reads_form o3.ok.reads
    obtain ⟨q1, q2, rfl⟩ := reads_form o3.oq.reads
    obtain ⟨z1, z2, rfl⟩ := reads_form o3.oz.reads
    have O : Hid (OwnN w3 (w.heap.size + 2) (.slice a1 n.xs.length a2) (.slice b1 n.ys.length b2) (.slice k1 n.h.ks.length k2) (.slice q1 n.c.ts.length q2) (.slice z1 n.s.ts.length z2) n) := o3.mono HF.out.lt
    replace HF : Hid (FS w w3 (ndA (.slice ao n.xs.length ac) (.slice bo n.ys.length bc) (.slice ko n.h.ks.length kc) (.slice qo n.c.ts.length qc) (.slice zo n.s.ts.length zc) n)) := HF.out.below b3
    clear o3 b3 CF
    have q3 : StB (w3.alloc (.cells zeroNd 43)) w3.heap.size 43 zeroNd := StB.new w3 _ _
    go_upto_region 4 with (refine wpList_putS Tryz.isNd rfl _ _ rfl w3.heap.size (ndA (.slice a1 n.xs.length a2) (.slice b1 n.ys.length b2) (.slice k1 n.h.ks.length k2) (.slice q1 n.c.ts.length q2) (.slice z1 n.s.ts.length z2) n) zeroNd rfl rfl rfl rfl (ndA_one n rfl rfl rfl rfl rfl) q3 ?_; intro w4 s4 g4)
    have HC : Hid (CS w w4 (ndA (.slice ao n.xs.length ac) (.slice bo n.ys.length bc) (.slice ko n.h.ks.length kc) (.slice qo n.c.ts.length qc) (.slice zo n.s.ts.length zc) n) w3.heap.size (ndA (.slice a1 n.xs.length a2) (.slice b1 n.ys.length b2) (.slice k1 n.h.ks.length k2) (.slice q1 n.c.ts.length q2) (.slice z1 n.s.ts.length z2) n) (.slice a1 n.xs.length a2) (.slice b1 n.ys.length b2) (.slice k1 n.h.ks.length k2) (.slice q1 n.c.ts.length q2) (.slice z1 n.s.ts.length z2) n) := CS.start HF.out O.out s4 g4
    clear q3 s4 g4 HF O
    simp only [Act.put]
    obtain ⟨g, hg⟩ : ∃ g, g = w3.heap.size := ⟨_, rfl⟩
    rw [← hg] at HC ⊢
    clear hg
    have c5 := sriseN_any g 0 43 _ _ _ _ _ _ n w4 HC.out.hs HL.out.ll
    obtain ⟨m, hm⟩ : ∃ m, m = n.rise.1 := ⟨_, rfl⟩
    obtain ⟨y, hy⟩ : ∃ y, y = n.rise.2 := ⟨_, rfl⟩
    rw [← hy, ← hm] at c5
    have HY : Hid (x = (m, y)) := by rw [Hid, HX.out, hm, hy]
    clear hm hy HX
    go_wp2_with fail
    refine c5.mono ?_
    rintro e w5 ⟨rfl, cs5, H5, O5⟩
    have HC5 : Hid (CS w w5 (ndA (.slice ao n.xs.length ac) (.slice bo n.ys.length bc) (.slice ko n.h.ks.length kc) (.slice qo n.c.ts.length qc) (.slice zo n.s.ts.length zc) n) g cs5 (.slice a1 n.xs.length a2) (.slice b1 n.ys.length b2) (.slice k1 n.h.ks.length k2) (.slice q1 n.c.ts.length q2) (.slice z1 n.s.ts.length z2) m) := HC.out.hop H5 O5
    clear c5 H5 O5 HC
    go_upto_region 5 with fail
    go_wp2_with (first | (refine wpList_getS Tryz.isNd rfl _ rfl g rfl (ndA (.slice a1 n.xs.length a2) (.slice b1 n.ys.length b2) (.slice k1 n.h.ks.length k2) (.slice q1 n.c.ts.length q2) (.slice z1 n.s.ts.length z2) m) rfl HC5.out.whole ?_) | (refine wpList_putS Tryz.isNd rfl _ _ rfl (w.heap.size + 1) (ndA (.slice a1 n.xs.length a2) (.slice b1 n.ys.length b2) (.slice k1 n.h.ks.length k2) (.slice q1 n.c.ts.length q2) (.slice z1 n.s.ts.length z2) m) zeroNd rfl rfl rfl rfl HC5.out.own.one HC5.out.f.r ?_; intro w19 s19 g19))
    refine bodyPost_ret (results_S2 Tryz.isNd rfl _ _ (w.heap.size + 1) _ (.bool y) rfl rfl rfl s19) rfl ?_
    rw [HY.out]
    exact ⟨_, _, _, _, _, rfl, (HC5.out.own.keptLt g19 (by omega)).mono (by omega), HC5.out.f.b.grown g19 HC5.out.f.b.size (fun k e => by cases e; omega)⟩

end Go.Proofs.YteooloceaoinlaaGreatDoor
/- The program's Written, Flushed and Lost. -/
namespace Go.Proofs.YteooloceaoinlaaGreatDoor
open Go.ChangeShapes Go.WideShapes Go.ChangeAt Go.RowKit

/- 'copy' of a list onto one of the call's own that is as long. -/
theorem run_copyL (w : World) (ty : TypeId) (u v : Value) (xs ys : List Int) (base : Nat) (ou : Own w base u xs) (rv : Reads w v ys) (hl : ys.length = xs.length) (h1 : 1 ≤ xs.length) :
    ∃ w', (Builtin.copy_ #[22, 22] ty #[u, v]).run Tryz.prog w = .ok (goInt xs.length) w' ∧ Own w' base u ys ∧ w.grownBy w' u.ownBlock := by
  rcases ou.2 with ⟨_, h0⟩ | ⟨g, cap, cur, rfl, hb, hg, hnc, hcm, hcs, ht⟩
  · omega
  · obtain ⟨ao, c2, rfl, _, _, hc⟩ := rv
    rcases hc with e | ⟨b, off, rfl, hcell⟩
    · subst e; simp at hl; omega
    · have hsz : (Tryz.prog.info? 2).map (·.size) = some 1 := by
        obtain ⟨i0, hi, hz0, hz1, hz2⟩ := info_parts Tryz.infoI
        simp [hi, hz1]
      have hsrc : ∀ j z, (ys.map (Value.int .i64))[j]? = some z → w.cell? ((⟨b, off, none⟩ : Addr).add j) = some z := by
        intro j z hj
        have hlt : j < ys.length := by
          rcases Nat.lt_or_ge j ys.length with h | h
          · exact h
          · rw [List.getElem?_eq_none (by simpa using h)] at hj; cases hj
        rw [show (⟨b, off, none⟩ : Addr).add j = ⟨b, off + j, none⟩ by unfold Addr.add; split <;> simp_all]
        rw [hcell j hlt]
        simp [List.getD, hlt] at hj ⊢
        exact hj
      have hone : ∀ z ∈ ys.map (Value.int .i64), z.oneCell' = true := by
        intro z hz
        obtain ⟨x, _, rfl⟩ := List.mem_map.1 hz
        rfl
      have hcz : cur.size = cap := by simpa using hcs
      have hrun := run_copy_row (P := Tryz.prog) w 22 22 ty 2 g 0 xs.length cap ⟨b, off, none⟩ ys.length c2 cur _ (ys.map (Value.int .i64)) Tryz.underlying22 hsz hg (by simp [hl]) hsrc (by simp; omega) hone
      rw [show goInt ((ys.map (Value.int .i64)).length : Nat) = goInt (xs.length : Nat) by simp [hl]] at hrun
      refine ⟨_, hrun, ⟨by simp, .inr ⟨g, cap, _, by rw [hl], hb, setRow_heap w g _ _ _ _ hg, by omega, hcm, ?_, ?_⟩⟩, ?_⟩
      · simp; omega
      · simp [hl]
      · exact grownRow w g _

theorem wpList_copyL {ops : Array Oper} {rest : List Oper} {o : Oper} {a : Act} {w : World} {Q : Exit → Act → World → Prop} (hgd : o.guard = none) (d s : Operand)
    (ho : o.op = .call { callee := .builtin .copy, args := #[d, s], argTypes := #[22, 22] }) (u v : Value) (xs ys : List Int) (base : Nat) (hd : a.eval d = u) (hs : a.eval s = v)
    (ou : Own w base u xs) (rv : Reads w v ys) (hl : ys.length = xs.length) (h1 : 1 ≤ xs.length)
    (h : ∀ w', Own w' base u ys → w.grownBy w' u.ownBlock → wpList Tryz.prog ops Q rest (a.put o.dst (goInt xs.length)) w') : wpList Tryz.prog ops Q (o :: rest) a w := by
  refine wpList_plain hgd fun K hK => ?_
  obtain ⟨w', hrun, h2, h3⟩ := run_copyL w o.type u v xs ys base ou rv hl h1
  unfold Oper.wp
  simp [execOp, ho, resolve, invoke, builtin, hd, hs, hrun, Result.andThen]
  exact hK _ _ (h w' h2 h3)

theorem step_copyL {ops : Array Oper} {o : Oper} {a : Act} {w : World} {K : Act → World → Prop} {Q : Exit → Act → World → Prop} {E : Prop} (hgd : o.guard = none) (d s : Operand)
    (ho : o.op = .call { callee := .builtin .copy, args := #[d, s], argTypes := #[22, 22] }) (u v : Value) (xs ys : List Int) (base : Nat) (hd : a.eval d = u) (hs : a.eval s = v)
    (ou : Own w base u xs) (rv : Reads w v ys) (hl : ys.length = xs.length) (h1 : 1 ≤ xs.length)
    (h : ∀ w', Own w' base u ys → w.grownBy w' u.ownBlock → K (a.put o.dst (goInt xs.length)) w') : if Region.wanted o (yielded ops a.tmps) = true then Oper.wp Tryz.prog o a w K Q else E := by
  have hw : Region.wanted o (yielded ops a.tmps) = true := by simp [Region.wanted, hgd]
  rw [if_pos hw]
  obtain ⟨w', hrun, h2, h3⟩ := run_copyL w o.type u v xs ys base ou rv hl h1
  unfold Oper.wp
  simp [execOp, ho, resolve, invoke, builtin, hd, hs, hrun, Result.andThen]
  exact h w' h2 h3

theorem apart_slice {g n cap : Nat} {z : Value} (h : apart (.slice (some ⟨g, 0, none⟩) n cap) z) : z.ownBlock = none ∨ z.ownBlock ≠ some g := h.2
end Go.Proofs.YteooloceaoinlaaGreatDoor
/- The program's Lost. -/
namespace Go.Proofs.YteooloceaoinlaaGreatDoor
open Go.ChangeShapes Go.WideShapes Go.ChangeAt Go.RowKit

theorem Pair.drew {w : World} {g : Nat} {t : TypeId} {u v : Value} (h : Pair w g t u v) : Pair w.drew g t u v := h
theorem OwnD.drew {w : World} {base : Nat} {u v : Value} {xs ys : List Int} (h : OwnD w base u v xs ys) : OwnD w.drew base u v xs ys := h
theorem OwnD.below {w w' : World} {base : Nat} {u v : Value} {xs ys : List Int} (h : OwnD w base u v xs ys) (b : Below w.heap.size w w') : OwnD w' base u v xs ys := ⟨h.1.below b, h.2.1.below b, h.2.2⟩

/- The state in the midst: the boxes, and the copy of the disk at block h. -/
def Mid (w wx : World) (u v : Value) (h base : Nat) (a b : Value) (xs ys : List Int) : Prop := Boxes w wx u v ∧ Pair wx h 37 a b ∧ OwnD wx base a b xs ys
theorem Mid.below {w wx wy : World} {u v a b : Value} {h base : Nat} {xs ys : List Int} (m : Mid w wx u v h base a b xs ys) (k : Below wx.heap.size wx wy) : Mid w wy u v h base a b xs ys :=
  ⟨m.1.below k, m.2.1.below k, m.2.2.below k⟩
theorem Mid.drew {w wx : World} {u v a b : Value} {h base : Nat} {xs ys : List Int} (m : Mid w wx u v h base a b xs ys) : Mid w wx.drew u v h base a b xs ys := ⟨m.1.drew, m.2.1, m.2.2⟩

theorem Mid.copy0 {w wx wy : World} {u v a b : Value} {h base : Nat} {xs ys zs : List Int} (m : Mid w wx u v h base a b xs ys) (o : Own wy base a zs) (g : wx.grownBy wy a.ownBlock) (hb : w.heap.size + 2 ≤ base) (hh : ∀ k, a.ownBlock = some k → k ≠ h) (h1 : 1 ≤ xs.length) : Mid w wy u v h base a b zs ys := by
  obtain ⟨k, ca, hea, _⟩ := World.ownsRow.form m.2.2.1 h1
  have hab : a.ownBlock = some k := by rw [hea]; rfl
  have hk := (m.2.2.1.lt k hab).1
  have hap := m.2.2.2.2.2
  rw [hab] at g hap
  exact ⟨m.1.kept g (by omega), m.2.1.kept g (by have := hh k hab; simp; omega), o, m.2.2.2.1.kept g hap, m.2.2.2.2⟩
theorem Mid.copy1 {w wx wy : World} {u v a b : Value} {h base : Nat} {xs ys zs : List Int} (m : Mid w wx u v h base a b xs ys) (o : Own wy base b zs) (g : wx.grownBy wy b.ownBlock) (hb : w.heap.size + 2 ≤ base) (hh : ∀ k, b.ownBlock = some k → k ≠ h) (h1 : 1 ≤ ys.length) : Mid w wy u v h base a b xs zs := by
  obtain ⟨k, cb, heb, _⟩ := World.ownsRow.form m.2.2.2.1 h1
  have hab : b.ownBlock = some k := by rw [heb]; rfl
  have hk := (m.2.2.2.1.lt k hab).1
  have hap := m.2.2.2.2.1
  rw [hab] at g hap
  exact ⟨m.1.kept g (by omega), m.2.1.kept g (by have := hh k hab; simp; omega), m.2.2.1.kept g hap, o, m.2.2.2.2⟩

set_option maxRecDepth 20000 in
set_option maxHeartbeats 2000000 in
theorem lost_any (u v : Value) (xs ys : List Int) (s : Int) (w : World) (h : Reads w u xs) (h' : Reads w v ys) (gx : xs.length ≤ 1099511627776) (gy : ys.length ≤ 1099511627776) :
    Calls Tryz.prog 90 #[.agg #[u, v], .int .i64 s] w fun e w' => ∃ a b, e = .returned (.agg #[a, b]) ∧ OwnD w' w.heap.size a b (loK xs ys s) (loN xs ys s) ∧ Below w.heap.size w w' := by
  obtain ⟨w2, hw2⟩ : ∃ w2, w2 = (w.alloc (.cells #[u, v] 37)).alloc (.cells #[.slice none 0 0, .slice none 0 0] 37) := ⟨_, rfl⟩
  have HB : Hid (Boxes w w2 u v) := by rw [hw2]; exact Boxes.start w u v
  have b2 := HB.out.2.2.1
  have c1 := diskOk_any u v xs ys w2 (h.below b2 (Nat.le_refl _)) (h'.below b2 (Nat.le_refl _)) gx gy
  by_cases hb : bothOk xs ys = true
  · obtain ⟨k1, k2, k3⟩ := bothOk_yes hb
    have hx1 := (blocksOk_len k1).1
    have hy1 := (blocksOk_len k2).1
    have c3 : ∀ w', Below w.heap.size w w' → _ := fun w' b => freshDisk_any u v xs ys w' (h.below b (Nat.le_refl _)) (h'.below b (Nat.le_refl _)) hx1 hy1 gx gy
    have c4 : ∀ w', Below w.heap.size w w' → _ := fun w' b => chosen_any u v xs ys s w' (h.below b (Nat.le_refl _)) (h'.below b (Nat.le_refl _)) gx gy
    have c5 : ∀ w', _ := fun w' => bsok_any s w'
    rw [hb] at c1
    have HL : Hid (ys.length = xs.length ∧ 1 ≤ xs.length) := ⟨k3.symm, hx1⟩
    by_cases hs : setOk s = true
    · have HD : Hid (loK xs ys s = chosenI xs ys s ∧ loN xs ys s = chosenI xs ys s ∧ (chosenI xs ys s).length = xs.length) := by simp [Hid, loK, loN, chosenI, hb, hs, chosenUp_len]
      rw [hs] at c5
      obtain ⟨zs, hz⟩ : ∃ zs, zs = chosenI xs ys s := ⟨_, rfl⟩
      simp only [← hz] at c4 HD
      clear b2 hb k1 k2 k3 hx1 hy1 h h' hs hz
      go_enter Tryz.func90, Tryz.ntmps90
      go_wp2_with fail
      rw [← hw2]
      clear hw2
      refine c1.mono ?_
      rintro e w3 ⟨rfl, b3⟩
      replace HB : Hid (Boxes w w3 u v) := HB.out.below b3
      have p3 := HB.out.1
      clear b3 c1
      go_wp2_with (refine wpList_getP rfl _ rfl w.heap.size rfl _ _ p3 ?_)
      refine (c3 _ HB.out.2.2.1).mono ?_
      rintro e w4 ⟨a, b, rfl, o4, b4⟩
      have HS : Hid (w.heap.size + 2 ≤ w3.heap.size ∧ (∀ k, a.ownBlock = some k → k ≠ w4.heap.size) ∧ (∀ k, b.ownBlock = some k → k ≠ w4.heap.size)) := ⟨HB.out.2.2.2, fun k e => by have := o4.1.lt k e; omega, fun k e => by have := o4.2.1.lt k e; omega⟩
      have hs4 := Nat.le_trans HS.out.1 b4.size
      replace HB : Hid (Boxes w w4 u v) := HB.out.below b4
      have ha1 := o4.1.reads.one
      have hb1 := o4.2.1.reads.one
      have HO : Hid (OwnD w4 w3.heap.size a b xs ys) := o4
      clear b4 o4 p3 c3
      go_wp2_with (refine wpList_putP rfl _ _ rfl w4.heap.size _ _ _ _ rfl rfl ha1 hb1 (Pair.new w4 _ _ _) ?_; intro w5 p5 g5; have hg5 : w4.grownBy w5 (some w4.heap.size) := (grown_alloc w4 _ _).trans g5; have HM : Hid (Mid w w5 u v w4.heap.size w3.heap.size a b xs ys) := ⟨HB.out.kept hg5 hs4, p5, HO.out.1.keptNew hg5, HO.out.2.1.keptNew hg5, HO.out.2.2⟩; clear g5 hg5 p5)
      refine (c5 _).mono ?_
      rintro e w' ⟨rfl, hw⟩; subst w'
      go_wp2_with fail
      have HM2 := HM.out.drew
      have q0 := HM.out.1.1.cell0
      have q1 := HM.out.1.1.cell1
      have q2 := HM.out.2.1.cell0
      go_region_held3 (fun w' => w'.cell? ⟨w.heap.size, 0, none⟩ = some u ∧ w'.cell? ⟨w.heap.size, 1, none⟩ = some v ∧ w'.cell? ⟨w4.heap.size, 0, none⟩ = some a) (refine ⟨?_, ?_, ?_⟩ <;> assumption)
        (first
          | (go_at_call 112; refine (c4 w5.drew HM2.1.2.2.1).mono ?_; rintro e w6 ⟨z, rfl, oz, bz⟩; have HM3 := HM2.below bz; have r0 := HM3.1.1.cell0; have r1 := HM3.1.1.cell1; have r2 := HM3.2.1.cell0)
          | (refine step_copyL rfl (.tmp 17) (.tmp 23) rfl a z xs zs w3.heap.size (by simp [Act.eval]) (by simp [Act.eval]) HM3.2.2.1 oz.reads HD.out.2.2 HL.out.2 ?_; intro w7 o7 g7; have HM4 := HM3.copy0 o7 g7 HS.out.1 HS.out.2.1 HL.out.2; have t0 := HM4.1.1.cell0; have t1 := HM4.1.1.cell1; have t2 := HM4.2.1.cell0))
      have HM5 : Hid (Mid w w7 u v w4.heap.size w3.heap.size a b zs ys) := HM4
      have t3 := HM4.2.1.cell1
      clear HM4 o7 g7 HM3 oz bz HM2 HM r0 r1 r2 q0 q1 q2 t0 t1 c4 c5
      go_wp2_with (first
        | (refine wpList_copyL rfl _ _ rfl b a ys zs w3.heap.size rfl rfl HM5.out.2.2.2.1 HM5.out.2.2.1.reads (by rw [HD.out.2.2, HL.out.1]) (by rw [HL.out.1]; exact HL.out.2) ?_; intro w8 o8 g8; have HM6 : Hid (Mid w w8 u v w4.heap.size w3.heap.size a b zs zs) := HM5.out.copy1 o8 g8 HS.out.1 HS.out.2.2 (by rw [HL.out.1]; exact HL.out.2); have p8 := HM6.out.2.1; have p9 := HM6.out.1.2.1; clear o8 g8)
        | (refine wpList_getP rfl _ rfl w4.heap.size rfl _ _ p8 ?_)
        | (refine wpList_putP rfl _ _ rfl (w.heap.size + 1) _ _ _ _ rfl rfl ha1 hb1 p9 ?_; intro w9 p10 g10))
      refine bodyPost_ret (results_pair rfl _ _ (w.heap.size + 1) _ _ rfl p10) rfl ?_
      rw [HD.out.1, HD.out.2.1]
      exact ⟨_, _, rfl, HM6.out.1.done g10 HM6.out.2.2.1 HM6.out.2.2.2.1 HS.out.1 HS.out.1 HM6.out.2.2.2.2⟩
    · have hs' : setOk s = false := by simpa using hs
      have HD : Hid (loK xs ys s = xs ∧ loN xs ys s = ys) := by simp [Hid, loK, loN, hb, hs']
      rw [hs'] at c5
      clear b2 hb k1 k2 k3 hx1 hy1 h h' hs hs' c4
      go_enter Tryz.func90, Tryz.ntmps90
      go_wp2_with fail
      rw [← hw2]
      clear hw2
      refine c1.mono ?_
      rintro e w3 ⟨rfl, b3⟩
      replace HB : Hid (Boxes w w3 u v) := HB.out.below b3
      have p3 := HB.out.1
      clear b3 c1
      go_wp2_with (refine wpList_getP rfl _ rfl w.heap.size rfl _ _ p3 ?_)
      refine (c3 _ HB.out.2.2.1).mono ?_
      rintro e w4 ⟨a, b, rfl, o4, b4⟩
      have HS : Hid (w.heap.size + 2 ≤ w3.heap.size ∧ (∀ k, a.ownBlock = some k → k ≠ w4.heap.size) ∧ (∀ k, b.ownBlock = some k → k ≠ w4.heap.size)) := ⟨HB.out.2.2.2, fun k e => by have := o4.1.lt k e; omega, fun k e => by have := o4.2.1.lt k e; omega⟩
      have hs4 := Nat.le_trans HS.out.1 b4.size
      replace HB : Hid (Boxes w w4 u v) := HB.out.below b4
      have ha1 := o4.1.reads.one
      have hb1 := o4.2.1.reads.one
      have HO : Hid (OwnD w4 w3.heap.size a b xs ys) := o4
      clear b4 o4 p3 c3
      go_wp2_with (refine wpList_putP rfl _ _ rfl w4.heap.size _ _ _ _ rfl rfl ha1 hb1 (Pair.new w4 _ _ _) ?_; intro w5 p5 g5; have hg5 : w4.grownBy w5 (some w4.heap.size) := (grown_alloc w4 _ _).trans g5; have HM : Hid (Mid w w5 u v w4.heap.size w3.heap.size a b xs ys) := ⟨HB.out.kept hg5 hs4, p5, HO.out.1.keptNew hg5, HO.out.2.1.keptNew hg5, HO.out.2.2⟩; clear g5 hg5 p5)
      refine (c5 _).mono ?_
      rintro e w' ⟨rfl, hw⟩; subst w'
      have p8 := HM.out.2.1
      have p9 := HM.out.1.2.1
      go_wp2_with (first
        | (refine wpList_getP rfl _ rfl w4.heap.size rfl _ _ p8 ?_)
        | (refine wpList_putP rfl _ _ rfl (w.heap.size + 1) _ _ _ _ rfl rfl ha1 hb1 p9 ?_; intro w9 p10 g10))
      refine bodyPost_ret (results_pair rfl _ _ (w.heap.size + 1) _ _ rfl p10) rfl ?_
      rw [HD.out.1, HD.out.2]
      exact ⟨_, _, rfl, HM.out.1.done g10 HM.out.2.2.1 HM.out.2.2.2.1 HS.out.1 HS.out.1 HM.out.2.2.2.2⟩
  · have hb' : bothOk xs ys = false := by simpa using hb
    have HD : Hid (loK xs ys s = [] ∧ loN xs ys s = []) := by simp [Hid, loK, loN, hb']
    rw [hb'] at c1
    clear b2 hb hb' h h'
    go_enter Tryz.func90, Tryz.ntmps90
    go_wp2_with fail
    rw [← hw2]
    clear hw2
    refine c1.mono ?_
    rintro e w3 ⟨rfl, b3⟩
    replace HB : Hid (Boxes w w3 u v) := HB.out.below b3
    have p3 := HB.out.2.1
    clear b3 c1
    go_wp2_with (refine wpList_putP rfl _ _ rfl (w.heap.size + 1) _ _ _ _ rfl rfl rfl rfl p3 ?_; intro w5 p5 g5)
    refine bodyPost_ret (results_pair rfl _ _ (w.heap.size + 1) _ _ rfl p5) rfl ?_
    rw [HD.out.1, HD.out.2]
    exact ⟨_, _, rfl, ownNil2 _ _, HB.out.2.2.1.grown g5 HB.out.2.2.1.size (fun k e => by cases e; omega)⟩
end Go.Proofs.YteooloceaoinlaaGreatDoor
