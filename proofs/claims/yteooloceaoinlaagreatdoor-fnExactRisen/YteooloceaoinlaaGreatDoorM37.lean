/- Houses by the program: Fallen, Risen. -/
import Derived.Test.YteooloceaoinlaaGreatDoorM36
import Derived.Test.YteooloceaoinlaaGreatDoorMem
import Derived.Deep.QuietTactic
namespace Go.Proofs.YteooloceaoinlaaGreatDoor
open Go.ChangeShapes Go.WideShapes Go.ChangeAt Go.RowKit

theorem bothOk_down {n : Nd} (h : n.ok = true) : bothOk n.xs n.ys = true := ((Nd.ok_iff n).1 h).dk
theorem MineN.down {w w' : World} {base : Nat} {a b k q z u v : Value} {n : Nd} {set : Int} (h : MineN w base a b k q z n) (B : Below w.heap.size w w') (hb : base ≤ w.heap.size) (o : OwnD w' w.heap.size u v (n.down set).xs (n.down set).ys) : MineN w' base u v k (.slice none 0 0) (.slice none 0 0) (n.down set) := by
  have hk := fun x hx => (blk_new h.ok x hx).2
  exact ⟨o.1.mono hb, o.2.1.mono hb, h.ok.below B, .inl (Own.nil _ _), .inl (Own.nil _ _), ⟨apart_iff.1 o.2.2, fun x h1 h2 => by have := (blk_new o.1 x h1).1; have := hk x h2; omega, fun _ _ h2 => (nomatch h2), fun _ _ h2 => (nomatch h2), fun x h1 h2 => by have := (blk_new o.2.1 x h1).1; have := hk x h2; omega, fun _ _ h2 => (nomatch h2), fun _ _ h2 => (nomatch h2), fun _ _ h2 => (nomatch h2), fun _ _ h2 => (nomatch h2), fun _ _ h2 => (nomatch h2)⟩⟩

set_option maxRecDepth 20000 in
set_option maxHeartbeats 8000000 in
theorem iFallen_any (a b k q z : Value) (n : Nd) (set : Int) (w : World) (hr : RdN w a b k q z n) (hl : SmN n) (ht : Tab w) :
    Calls Tryz.prog 12 #[NdV a b k q z n, .int .i64 set] w fun e w' => ∃ a' b' k' q' z', e = .returned (.tuple #[NdV a' b' k' q' z' (n.Fall set).1, .bool (n.Fall set).2]) ∧ MineN w' w.heap.size a' b' k' q' z' (n.Fall set).1 ∧ Below w.heap.size w w' := by
  have HR : Hid (∀ wx, Below w.heap.size w wx → RdN wx a b k q z n) := fun wx B => hr.below B
  have CN : Hid (∀ wx, Below w.heap.size w wx → Calls Tryz.prog 9 #[NdV a b k q z n] wx fun e w' => e = .returned (.bool n.ok) ∧ Below wx.heap.size wx w') := fun wx B => inodeok_any a b k q z n wx (HR.out wx B) hl (ht.below B)
  have CF : Hid (n.ok = true → ∀ wx, Below w.heap.size w wx → Calls Tryz.prog 48 #[NdV a b k q z n] wx fun e w' => ∃ a' b' k' q' z', e = .returned (NdV a' b' k' q' z' n) ∧ MineN w' wx.heap.size a' b' k' q' z' n ∧ Below wx.heap.size wx w') := fun ok wx B => by
    have h := ((Nd.ok_iff n).1 ok).small
    exact ifreshN_any a b k q z n wx (HR.out wx B) hl h.1 h.2.1 h.2.2
  have CB : Hid (∀ wx, Calls Tryz.prog 47 #[.int .i64 set] wx fun e w' => e = .returned (.bool (setOk set)) ∧ w' = wx) := fun wx => bsok_any set wx
  have CD : Hid (n.ok = true → setOk set = true → ∀ wx a b k q z, RdN wx a b k q z n → Calls Tryz.prog 49 #[NdV a b k q z n, .int .i64 set] wx fun e w' => ∃ a' b', e = .returned (NdV a' b' k (.slice none 0 0) (.slice none 0 0) (n.down set)) ∧ OwnD w' wx.heap.size a' b' (n.down set).xs (n.down set).ys ∧ Below wx.heap.size wx w') := fun ok hs wx a b k q z hr => ifallen_any a b k q z n set wx hr hl (bothOk_down ok) hs
  have HE : Hid (n.Fall set = if n.ok then (if n.up && setOk set then (n.down set, true) else (n, false)) else (Nd.zero, false)) := rfl
  obtain ⟨x, hx⟩ : ∃ x, x = n.Fall set := ⟨_, rfl⟩
  rw [← hx] at HE ⊢
  clear hx
  obtain ⟨ao, ac, rfl⟩ := reads_form hr.ra
  obtain ⟨bo, bc, rfl⟩ := reads_form hr.rb
  obtain ⟨ko, kc, rfl⟩ := reads_form hr.rk
  obtain ⟨qo, qc, rfl⟩ := reads_form hr.rq
  obtain ⟨zo, zc, rfl⟩ := reads_form hr.rz
  obtain ⟨w1, hw1⟩ : ∃ w1, w1 = (w.alloc (.cells (ndA (.slice ao n.xs.length ac) (.slice bo n.ys.length bc) (.slice ko n.h.ks.length kc) (.slice qo n.c.ts.length qc) (.slice zo n.s.ts.length zc) n) 43)).alloc (.cells zeroNd 43) := ⟨_, rfl⟩
  have HF : Hid (FS w w1 (ndA (.slice ao n.xs.length ac) (.slice bo n.ys.length bc) (.slice ko n.h.ks.length kc) (.slice qo n.c.ts.length qc) (.slice zo n.s.ts.length zc) n)) := by rw [hw1]; exact FS.start w _
  clear hr HR hl ht
  unfold ndA zeroNd S at hw1
  unfold NdV at CN CF ⊢
  conv in ndA (.slice ao n.xs.length ac) _ _ _ _ _ => unfold ndA S
  go_enter Tryz.func12, Tryz.ntmps12
  go_upto_region 1 with fail
  rw [← hw1]
  clear hw1
  go_wp2_with (refine wpList_getS Tryz.isNd rfl _ rfl w.heap.size rfl (ndA (.slice ao n.xs.length ac) (.slice bo n.ys.length bc) (.slice ko n.h.ks.length kc) (.slice qo n.c.ts.length qc) (.slice zo n.s.ts.length zc) n) rfl HF.out.p ?_)
  refine (CN.out w1 HF.out.b).mono ?_
  rintro e w2 ⟨rfl, b2⟩
  replace HF : Hid (FS w w2 (ndA (.slice ao n.xs.length ac) (.slice bo n.ys.length bc) (.slice ko n.h.ks.length kc) (.slice qo n.c.ts.length qc) (.slice zo n.s.ts.length zc) n)) := HF.out.below b2
  clear b2 CN
  cases hk : n.ok with
  | false =>
    have HX : Hid (x = (Nd.zero, false)) := by rw [Hid, HE.out, hk]; rfl
    clear HE CF CD CB hk
    go_wp2_with (refine wpList_putS Tryz.isNd rfl _ _ rfl (w.heap.size + 1) zeroNd zeroNd rfl rfl rfl rfl zeroNd_one HF.out.r ?_; intro w19 s19 g19)
    refine bodyPost_ret (results_S2 Tryz.isNd rfl _ _ (w.heap.size + 1) _ (.bool false) rfl rfl rfl s19) rfl ?_
    rw [HX.out]
    exact ⟨_, _, _, _, _, rfl, MineN.nil _ _, HF.out.b.grown g19 HF.out.b.size (fun k e => by cases e; omega)⟩
  | true =>
    have HK : Hid (n.ok = true) := hk
    have HX : Hid (x = if n.up && setOk set then (n.down set, true) else (n, false)) := by rw [Hid, HE.out, hk]; rfl
    clear HE hk
    have p1 : w2.cell? ⟨w.heap.size, 1, none⟩ = some (.bool n.up) := HF.out.p.cell 1 rfl
    cases hu : n.up with
    | false =>
      have HY : Hid (x = (n, false)) := by rw [Hid, HX.out, hu]; rfl
      rw [hu] at p1
      clear HX hu CD CB
      go_upto_region 4 with fail
      clear p1
      go_wp2_with (refine wpList_getS Tryz.isNd rfl _ rfl w.heap.size rfl (ndA (.slice ao n.xs.length ac) (.slice bo n.ys.length bc) (.slice ko n.h.ks.length kc) (.slice qo n.c.ts.length qc) (.slice zo n.s.ts.length zc) n) rfl HF.out.p ?_)
      refine (CF.out HK.out w2 HF.out.b).mono ?_
      rintro e w3 ⟨a', b', k', q', z', rfl, o3, b3⟩
      obtain ⟨a1, a2, rfl⟩ := reads_form o3.reads.ra
      obtain ⟨b1, b2, rfl⟩ := reads_form o3.reads.rb
      obtain ⟨k1, k2, rfl⟩ := reads_form o3.reads.rk
      obtain ⟨q1, q2, rfl⟩ := reads_form o3.reads.rq
      obtain ⟨z1, z2, rfl⟩ := reads_form o3.reads.rz
      have O : Hid (MineN w3 (w.heap.size + 2) (.slice a1 n.xs.length a2) (.slice b1 n.ys.length b2) (.slice k1 n.h.ks.length k2) (.slice q1 n.c.ts.length q2) (.slice z1 n.s.ts.length z2) n) := o3.mono HF.out.lt
      replace HF : Hid (FS w w3 (ndA (.slice ao n.xs.length ac) (.slice bo n.ys.length bc) (.slice ko n.h.ks.length kc) (.slice qo n.c.ts.length qc) (.slice zo n.s.ts.length zc) n)) := HF.out.below b3
      clear o3 b3 CF
      go_wp2_with (refine wpList_putS Tryz.isNd rfl _ _ rfl (w.heap.size + 1) (ndA (.slice a1 n.xs.length a2) (.slice b1 n.ys.length b2) (.slice k1 n.h.ks.length k2) (.slice q1 n.c.ts.length q2) (.slice z1 n.s.ts.length z2) n) zeroNd rfl rfl rfl rfl (ndA_one _ rfl rfl rfl rfl rfl) HF.out.r ?_; intro w19 s19 g19)
      refine bodyPost_ret (results_S2 Tryz.isNd rfl _ _ (w.heap.size + 1) _ (.bool false) rfl rfl rfl s19) rfl ?_
      rw [HY.out]
      exact ⟨_, _, _, _, _, rfl, (O.out.keptLt g19 (by omega)).mono (by omega), HF.out.b.grown g19 HF.out.b.size (fun k e => by cases e; omega)⟩
    | true =>
      rw [hu] at p1
      have HU : Hid (n.up = true) := hu
      clear hu
      go_wp2_with fail
      refine (CB.out w2).mono ?_
      rintro e w' ⟨rfl, hw⟩; subst w'
      clear CB
      cases hs : setOk set with
      | false =>
        have HY : Hid (x = (n, false)) := by rw [Hid, HX.out, HU.out, hs]; rfl
        clear HX hs CD
        go_upto_region 4 with fail
        clear p1
        go_wp2_with (refine wpList_getS Tryz.isNd rfl _ rfl w.heap.size rfl (ndA (.slice ao n.xs.length ac) (.slice bo n.ys.length bc) (.slice ko n.h.ks.length kc) (.slice qo n.c.ts.length qc) (.slice zo n.s.ts.length zc) n) rfl HF.out.p ?_)
        refine (CF.out HK.out w2 HF.out.b).mono ?_
        rintro e w3 ⟨a', b', k', q', z', rfl, o3, b3⟩
        obtain ⟨a1, a2, rfl⟩ := reads_form o3.reads.ra
        obtain ⟨b1, b2, rfl⟩ := reads_form o3.reads.rb
        obtain ⟨k1, k2, rfl⟩ := reads_form o3.reads.rk
        obtain ⟨q1, q2, rfl⟩ := reads_form o3.reads.rq
        obtain ⟨z1, z2, rfl⟩ := reads_form o3.reads.rz
        have O : Hid (MineN w3 (w.heap.size + 2) (.slice a1 n.xs.length a2) (.slice b1 n.ys.length b2) (.slice k1 n.h.ks.length k2) (.slice q1 n.c.ts.length q2) (.slice z1 n.s.ts.length z2) n) := o3.mono HF.out.lt
        replace HF : Hid (FS w w3 (ndA (.slice ao n.xs.length ac) (.slice bo n.ys.length bc) (.slice ko n.h.ks.length kc) (.slice qo n.c.ts.length qc) (.slice zo n.s.ts.length zc) n)) := HF.out.below b3
        clear o3 b3 CF
        go_wp2_with (refine wpList_putS Tryz.isNd rfl _ _ rfl (w.heap.size + 1) (ndA (.slice a1 n.xs.length a2) (.slice b1 n.ys.length b2) (.slice k1 n.h.ks.length k2) (.slice q1 n.c.ts.length q2) (.slice z1 n.s.ts.length z2) n) zeroNd rfl rfl rfl rfl (ndA_one _ rfl rfl rfl rfl rfl) HF.out.r ?_; intro w19 s19 g19)
        refine bodyPost_ret (results_S2 Tryz.isNd rfl _ _ (w.heap.size + 1) _ (.bool false) rfl rfl rfl s19) rfl ?_
        rw [HY.out]
        exact ⟨_, _, _, _, _, rfl, (O.out.keptLt g19 (by omega)).mono (by omega), HF.out.b.grown g19 HF.out.b.size (fun k e => by cases e; omega)⟩
      | true =>
        have HS : Hid (setOk set = true) := hs
        have HY : Hid (x = (n.down set, true)) := by rw [Hid, HX.out, HU.out, hs]; rfl
        clear HX hs
        go_upto_region 5 with fail
        clear p1
        go_wp2_with (refine wpList_getS Tryz.isNd rfl _ rfl w.heap.size rfl (ndA (.slice ao n.xs.length ac) (.slice bo n.ys.length bc) (.slice ko n.h.ks.length kc) (.slice qo n.c.ts.length qc) (.slice zo n.s.ts.length zc) n) rfl HF.out.p ?_)
        refine (CF.out HK.out w2 HF.out.b).mono ?_
        rintro e w3 ⟨a', b', k', q', z', rfl, o3, b3⟩
        obtain ⟨a1, a2, rfl⟩ := reads_form o3.reads.ra
        obtain ⟨b1, b2, rfl⟩ := reads_form o3.reads.rb
        obtain ⟨k1, k2, rfl⟩ := reads_form o3.reads.rk
        obtain ⟨q1, q2, rfl⟩ := reads_form o3.reads.rq
        obtain ⟨z1, z2, rfl⟩ := reads_form o3.reads.rz
        have O : Hid (MineN w3 (w.heap.size + 2) (.slice a1 n.xs.length a2) (.slice b1 n.ys.length b2) (.slice k1 n.h.ks.length k2) (.slice q1 n.c.ts.length q2) (.slice z1 n.s.ts.length z2) n) := o3.mono HF.out.lt
        replace HF : Hid (FS w w3 (ndA (.slice ao n.xs.length ac) (.slice bo n.ys.length bc) (.slice ko n.h.ks.length kc) (.slice qo n.c.ts.length qc) (.slice zo n.s.ts.length zc) n)) := HF.out.below b3
        clear o3 b3 CF
        have c5 := CD.out HK.out HS.out w3 _ _ _ _ _ O.out.reads
        unfold NdV at c5
        go_wp2_with fail
        refine c5.mono ?_
        rintro e w4 ⟨u, v, rfl, o4, b4⟩
        have O' : Hid (MineN w4 (w.heap.size + 2) u v (.slice k1 n.h.ks.length k2) (.slice none 0 0) (.slice none 0 0) (n.down set)) := O.out.down b4 (Nat.le_trans HF.out.lt (Nat.le_refl _)) o4
        obtain ⟨u1, u2, rfl⟩ := reads_form o4.1.reads
        obtain ⟨v1, v2, rfl⟩ := reads_form o4.2.1.reads
        replace HF : Hid (FS w w4 (ndA (.slice ao n.xs.length ac) (.slice bo n.ys.length bc) (.slice ko n.h.ks.length kc) (.slice qo n.c.ts.length qc) (.slice zo n.s.ts.length zc) n)) := HF.out.below b4
        clear O o4 b4 c5 CD
        have O := O'
        clear O'
        go_wp2_with (refine wpList_putS Tryz.isNd rfl _ _ rfl (w.heap.size + 1) (ndA (.slice u1 (n.down set).xs.length u2) (.slice v1 (n.down set).ys.length v2) (.slice k1 n.h.ks.length k2) (.slice none 0 0) (.slice none 0 0) (n.down set)) zeroNd rfl rfl rfl rfl (ndA_one _ rfl rfl rfl rfl rfl) HF.out.r ?_; intro w19 s19 g19)
        refine bodyPost_ret (results_S2 Tryz.isNd rfl _ _ (w.heap.size + 1) _ (.bool true) rfl rfl rfl s19) rfl ?_
        rw [HY.out]
        exact ⟨_, _, _, _, _, rfl, (O.out.keptLt g19 (by omega)).mono (by omega), HF.out.b.grown g19 HF.out.b.size (fun k e => by cases e; omega)⟩

set_option maxRecDepth 20000 in
set_option maxHeartbeats 8000000 in
theorem iRisen_any (a b k q z : Value) (n : Nd) (w : World) (hr : RdN w a b k q z n) (hl : SmN n) (ht : Tab w) :
    Calls Tryz.prog 16 #[NdV a b k q z n] w fun e w' => ∃ a' b' k' q' z', e = .returned (.tuple #[NdV a' b' k' q' z' n.Rise.1, .bool n.Rise.2]) ∧ MineN w' w.heap.size a' b' k' q' z' n.Rise.1 ∧ Below w.heap.size w w' := by
  have HR : Hid (∀ wx, Below w.heap.size w wx → RdN wx a b k q z n) := fun wx B => hr.below B
  have CN : Hid (∀ wx, Below w.heap.size w wx → Calls Tryz.prog 9 #[NdV a b k q z n] wx fun e w' => e = .returned (.bool n.ok) ∧ Below wx.heap.size wx w') := fun wx B => inodeok_any a b k q z n wx (HR.out wx B) hl (ht.below B)
  have CF : Hid (n.ok = true → ∀ wx, Below w.heap.size w wx → Calls Tryz.prog 48 #[NdV a b k q z n] wx fun e w' => ∃ a' b' k' q' z', e = .returned (NdV a' b' k' q' z' n) ∧ MineN w' wx.heap.size a' b' k' q' z' n ∧ Below wx.heap.size wx w') := fun ok wx B => by
    have h := ((Nd.ok_iff n).1 ok).small
    exact ifreshN_any a b k q z n wx (HR.out wx B) hl h.1 h.2.1 h.2.2
  have CR : Hid (∀ wx, Below w.heap.size w wx → Calls Tryz.prog 59 #[S n.log] wx fun e w' => e = .returned (.tuple #[RV (recR (recallB n.log)), S (n.log.take (recAt (recallB n.log))), .bool (recallB n.log).isSome]) ∧ Below wx.heap.size wx w') := fun wx B => irecall_any n.log wx hl.ll (ht.below B)
  have HE : Hid (n.Rise = if n.ok then (if n.up then (n, false) else ({ n with up := true, log := n.log.take (recAt (recallB n.log)) }, true)) else (Nd.zero, false)) := rfl
  obtain ⟨x, hx⟩ : ∃ x, x = n.Rise := ⟨_, rfl⟩
  obtain ⟨r, hrr⟩ : ∃ r, r = recR (recallB n.log) := ⟨_, rfl⟩
  obtain ⟨s, hs⟩ : ∃ s, s = n.log.take (recAt (recallB n.log)) := ⟨_, rfl⟩
  obtain ⟨y, hy⟩ : ∃ y, y = (recallB n.log).isSome := ⟨_, rfl⟩
  rw [← hx, ← hs] at HE
  simp only [← hrr, ← hs, ← hy] at CR
  rw [← hx]
  clear hx hrr hs hy
  unfold RV recA S at CR
  obtain ⟨ao, ac, rfl⟩ := reads_form hr.ra
  obtain ⟨bo, bc, rfl⟩ := reads_form hr.rb
  obtain ⟨ko, kc, rfl⟩ := reads_form hr.rk
  obtain ⟨qo, qc, rfl⟩ := reads_form hr.rq
  obtain ⟨zo, zc, rfl⟩ := reads_form hr.rz
  obtain ⟨w1, hw1⟩ : ∃ w1, w1 = (w.alloc (.cells (ndA (.slice ao n.xs.length ac) (.slice bo n.ys.length bc) (.slice ko n.h.ks.length kc) (.slice qo n.c.ts.length qc) (.slice zo n.s.ts.length zc) n) 43)).alloc (.cells zeroNd 43) := ⟨_, rfl⟩
  have HF : Hid (FS w w1 (ndA (.slice ao n.xs.length ac) (.slice bo n.ys.length bc) (.slice ko n.h.ks.length kc) (.slice qo n.c.ts.length qc) (.slice zo n.s.ts.length zc) n)) := by rw [hw1]; exact FS.start w _
  clear hr HR hl ht
  unfold ndA zeroNd S at hw1
  unfold NdV at CN CF ⊢
  conv in ndA (.slice ao n.xs.length ac) _ _ _ _ _ => unfold ndA S
  go_enter Tryz.func16, Tryz.ntmps16
  go_upto_region 1 with fail
  rw [← hw1]
  clear hw1
  go_wp2_with (refine wpList_getS Tryz.isNd rfl _ rfl w.heap.size rfl (ndA (.slice ao n.xs.length ac) (.slice bo n.ys.length bc) (.slice ko n.h.ks.length kc) (.slice qo n.c.ts.length qc) (.slice zo n.s.ts.length zc) n) rfl HF.out.p ?_)
  refine (CN.out w1 HF.out.b).mono ?_
  rintro e w2 ⟨rfl, b2⟩
  replace HF : Hid (FS w w2 (ndA (.slice ao n.xs.length ac) (.slice bo n.ys.length bc) (.slice ko n.h.ks.length kc) (.slice qo n.c.ts.length qc) (.slice zo n.s.ts.length zc) n)) := HF.out.below b2
  clear b2 CN
  cases hk : n.ok with
  | false =>
    have HX : Hid (x = (Nd.zero, false)) := by rw [Hid, HE.out, hk]; rfl
    clear HE CF CR hk
    go_wp2_with (refine wpList_putS Tryz.isNd rfl _ _ rfl (w.heap.size + 1) zeroNd zeroNd rfl rfl rfl rfl zeroNd_one HF.out.r ?_; intro w19 s19 g19)
    refine bodyPost_ret (results_S2 Tryz.isNd rfl _ _ (w.heap.size + 1) _ (.bool false) rfl rfl rfl s19) rfl ?_
    rw [HX.out]
    exact ⟨_, _, _, _, _, rfl, MineN.nil _ _, HF.out.b.grown g19 HF.out.b.size (fun k e => by cases e; omega)⟩
  | true =>
    have HK : Hid (n.ok = true) := hk
    have HX : Hid (x = if n.up then (n, false) else ({ n with up := true, log := s }, true)) := by rw [Hid, HE.out, hk]; rfl
    clear HE hk
    go_upto_region 3 with fail
    go_wp2_with (refine wpList_getS Tryz.isNd rfl _ rfl w.heap.size rfl (ndA (.slice ao n.xs.length ac) (.slice bo n.ys.length bc) (.slice ko n.h.ks.length kc) (.slice qo n.c.ts.length qc) (.slice zo n.s.ts.length zc) n) rfl HF.out.p ?_)
    refine (CF.out HK.out w2 HF.out.b).mono ?_
    rintro e w3 ⟨a', b', k', q', z', rfl, o3, b3⟩
    obtain ⟨a1, a2, rfl⟩ := reads_form o3.reads.ra
    obtain ⟨b1, b2, rfl⟩ := reads_form o3.reads.rb
    obtain ⟨k1, k2, rfl⟩ := reads_form o3.reads.rk
    obtain ⟨q1, q2, rfl⟩ := reads_form o3.reads.rq
    obtain ⟨z1, z2, rfl⟩ := reads_form o3.reads.rz
    have O : Hid (MineN w3 (w.heap.size + 2) (.slice a1 n.xs.length a2) (.slice b1 n.ys.length b2) (.slice k1 n.h.ks.length k2) (.slice q1 n.c.ts.length q2) (.slice z1 n.s.ts.length z2) n) := o3.mono HF.out.lt
    replace HF : Hid (FS w w3 (ndA (.slice ao n.xs.length ac) (.slice bo n.ys.length bc) (.slice ko n.h.ks.length kc) (.slice qo n.c.ts.length qc) (.slice zo n.s.ts.length zc) n)) := HF.out.below b3
    clear o3 b3 CF
    have q3 : StB (w3.alloc (.cells zeroNd 43)) w3.heap.size 43 zeroNd := StB.new w3 _ _
    go_upto_region 4 with (refine wpList_putS Tryz.isNd rfl _ _ rfl w3.heap.size (ndA (.slice a1 n.xs.length a2) (.slice b1 n.ys.length b2) (.slice k1 n.h.ks.length k2) (.slice q1 n.c.ts.length q2) (.slice z1 n.s.ts.length z2) n) zeroNd rfl rfl rfl rfl (ndA_one n rfl rfl rfl rfl rfl) q3 ?_; intro w4 s4 g4)
    have b4 : Below w3.heap.size w3 w4 := ((Below.refl _ _).alloc (Nat.le_refl _) _).grown g4 (by simp) (fun k e => by cases e; omega)
    have V : Hid (StB w4 w3.heap.size 43 (ndA (.slice a1 n.xs.length a2) (.slice b1 n.ys.length b2) (.slice k1 n.h.ks.length k2) (.slice q1 n.c.ts.length q2) (.slice z1 n.s.ts.length z2) n) ∧ w.heap.size + 2 ≤ w3.heap.size) := ⟨s4, HF.out.lt⟩
    replace HF : Hid (FS w w4 (ndA (.slice ao n.xs.length ac) (.slice bo n.ys.length bc) (.slice ko n.h.ks.length kc) (.slice qo n.c.ts.length qc) (.slice zo n.s.ts.length zc) n)) := HF.out.below b4
    replace O : Hid (MineN w4 (w.heap.size + 2) (.slice a1 n.xs.length a2) (.slice b1 n.ys.length b2) (.slice k1 n.h.ks.length k2) (.slice q1 n.c.ts.length q2) (.slice z1 n.s.ts.length z2) n) := O.out.below b4
    clear q3 s4 g4 b4
    simp only [Act.put]
    obtain ⟨g, hg⟩ : ∃ g, g = w3.heap.size := ⟨_, rfl⟩
    rw [← hg] at V ⊢
    clear hg
    have p1 : w4.cell? ⟨w.heap.size, 1, none⟩ = some (.bool n.up) := HF.out.p.cell 1 rfl
    cases hu : n.up with
    | true =>
      have HY : Hid (x = (n, false)) := by rw [Hid, HX.out, hu]; rfl
      rw [hu] at p1
      clear HX hu CR
      go_upto_region 5 with fail
      clear p1
      go_wp2_with (first | (refine wpList_getS Tryz.isNd rfl _ rfl g rfl (ndA (.slice a1 n.xs.length a2) (.slice b1 n.ys.length b2) (.slice k1 n.h.ks.length k2) (.slice q1 n.c.ts.length q2) (.slice z1 n.s.ts.length z2) n) rfl V.out.1 ?_) | (refine wpList_putS Tryz.isNd rfl _ _ rfl (w.heap.size + 1) (ndA (.slice a1 n.xs.length a2) (.slice b1 n.ys.length b2) (.slice k1 n.h.ks.length k2) (.slice q1 n.c.ts.length q2) (.slice z1 n.s.ts.length z2) n) zeroNd rfl rfl rfl rfl (ndA_one _ rfl rfl rfl rfl rfl) HF.out.r ?_; intro w19 s19 g19))
      refine bodyPost_ret (results_S2 Tryz.isNd rfl _ _ (w.heap.size + 1) _ (.bool false) rfl rfl rfl s19) rfl ?_
      rw [HY.out]
      exact ⟨_, _, _, _, _, rfl, (O.out.keptLt g19 (by omega)).mono (by omega), HF.out.b.grown g19 HF.out.b.size (fun k e => by cases e; omega)⟩
    | false =>
      have HY : Hid (x = ({ n with up := true, log := s }, true)) := by rw [Hid, HX.out, hu]; rfl
      rw [hu] at p1
      clear HX hu
      go_upto_region 6 with fail
      clear p1
      have r1 : w4.cell? ⟨g, 1, none⟩ = some (.bool n.up) := V.out.1.cell 1 rfl
      have fr1 : w4.frozen? ⟨g, 1, none⟩ = false := V.out.1.frozen 1
      obtain ⟨w5, hw5⟩ : ∃ w5, w5 = w4.setCell ⟨g, 1, none⟩ (.bool true) := ⟨_, rfl⟩
      have G5 : w4.grownBy w5 (some g) := by rw [hw5]; exact grownSet _ _ _ _
      have V5 : Hid (StB w5 g 43 #[.int .i64 n.id, .bool true, .slice a1 n.xs.length a2, .slice b1 n.ys.length b2, .slice k1 n.h.ks.length k2, .int .i64 n.h.kd, .int .i64 n.h.ho, .int .i64 n.h.tu, .string ⟨n.log.toArray⟩, .int .i64 n.r.e, .int .i64 n.r.s, .int .i64 n.r.t, .int .i64 n.r.n, .int .i64 n.c.tr, .bool n.c.op, .int .i64 n.c.di, .int .i64 n.c.wa, .slice q1 n.c.ts.length q2, .int .i64 n.s.tr, .slice z1 n.s.ts.length z2] ∧ w.heap.size + 2 ≤ g) := ⟨by rw [hw5]; exact V.out.1.put 1 _ rfl, V.out.2⟩
      have HF5 : Hid (FS w w5 (ndA (.slice ao n.xs.length ac) (.slice bo n.ys.length bc) (.slice ko n.h.ks.length kc) (.slice qo n.c.ts.length qc) (.slice zo n.s.ts.length zc) n)) := ⟨HF.out.p.kept G5 (by simp; have := V.out.2; omega), HF.out.r.kept G5 (by simp; have := V.out.2; omega), HF.out.b.grown G5 HF.out.b.size (fun k e => by cases e; have := V.out.2; omega)⟩
      have O5 : Hid (MineN w5 (w.heap.size + 2) (.slice a1 n.xs.length a2) (.slice b1 n.ys.length b2) (.slice k1 n.h.ks.length k2) (.slice q1 n.c.ts.length q2) (.slice z1 n.s.ts.length z2) n) := O.out.putBy V.out.1 (by decide) G5
      go_upto_region 7 with fail
      rw [← hw5]
      clear hw5 G5 V HF O r1 fr1
      have p8 : w5.cell? ⟨w.heap.size, 8, none⟩ = some (.string ⟨n.log.toArray⟩) := HF5.out.p.cell 8 rfl
      go_wp2_with fail
      refine (CR.out w5 HF5.out.b).mono ?_
      rintro e w6 ⟨rfl, b6⟩
      have V6 : Hid (StB w6 g 43 #[.int .i64 n.id, .bool true, .slice a1 n.xs.length a2, .slice b1 n.ys.length b2, .slice k1 n.h.ks.length k2, .int .i64 n.h.kd, .int .i64 n.h.ho, .int .i64 n.h.tu, .string ⟨n.log.toArray⟩, .int .i64 n.r.e, .int .i64 n.r.s, .int .i64 n.r.t, .int .i64 n.r.n, .int .i64 n.c.tr, .bool n.c.op, .int .i64 n.c.di, .int .i64 n.c.wa, .slice q1 n.c.ts.length q2, .int .i64 n.s.tr, .slice z1 n.s.ts.length z2] ∧ w.heap.size + 2 ≤ g) := ⟨V5.out.1.below b6, V5.out.2⟩
      have HF6 : Hid (FS w w6 (ndA (.slice ao n.xs.length ac) (.slice bo n.ys.length bc) (.slice ko n.h.ks.length kc) (.slice qo n.c.ts.length qc) (.slice zo n.s.ts.length zc) n)) := HF5.out.below b6
      have O6 : Hid (MineN w6 (w.heap.size + 2) (.slice a1 n.xs.length a2) (.slice b1 n.ys.length b2) (.slice k1 n.h.ks.length k2) (.slice q1 n.c.ts.length q2) (.slice z1 n.s.ts.length z2) n) := O5.out.below b6
      clear b6 CR V5 HF5 O5 p8
      have r8 : w6.cell? ⟨g, 8, none⟩ = some (.string ⟨n.log.toArray⟩) := V6.out.1.cell 8 rfl
      have fr8 : w6.frozen? ⟨g, 8, none⟩ = false := V6.out.1.frozen 8
      obtain ⟨w7, hw7⟩ : ∃ w7, w7 = w6.setCell ⟨g, 8, none⟩ (.string ⟨s.toArray⟩) := ⟨_, rfl⟩
      have G7 : w6.grownBy w7 (some g) := by rw [hw7]; exact grownSet _ _ _ _
      have V7 : Hid (StB w7 g 43 (ndA (.slice a1 n.xs.length a2) (.slice b1 n.ys.length b2) (.slice k1 n.h.ks.length k2) (.slice q1 n.c.ts.length q2) (.slice z1 n.s.ts.length z2) { n with up := true, log := s })) := by rw [hw7]; exact V6.out.1.put 8 _ rfl
      have HF7 : Hid (FS w w7 (ndA (.slice ao n.xs.length ac) (.slice bo n.ys.length bc) (.slice ko n.h.ks.length kc) (.slice qo n.c.ts.length qc) (.slice zo n.s.ts.length zc) n)) := ⟨HF6.out.p.kept G7 (by simp; have := V6.out.2; omega), HF6.out.r.kept G7 (by simp; have := V6.out.2; omega), HF6.out.b.grown G7 HF6.out.b.size (fun k e => by cases e; have := V6.out.2; omega)⟩
      have O7 : Hid (MineN w7 (w.heap.size + 2) (.slice a1 n.xs.length a2) (.slice b1 n.ys.length b2) (.slice k1 n.h.ks.length k2) (.slice q1 n.c.ts.length q2) (.slice z1 n.s.ts.length z2) { n with up := true, log := s }) := by
        have o := O6.out.putBy V6.out.1 (by decide) G7
        exact ⟨o.oa, o.ob, o.ok, o.oq, o.oz, o.ap⟩
      go_upto_region 8 with fail
      rw [← hw7]
      clear hw7 G7 V6 HF6 O6 r8 fr8
      go_wp2_with (first | (refine wpList_getS Tryz.isNd rfl _ rfl g rfl (ndA (.slice a1 n.xs.length a2) (.slice b1 n.ys.length b2) (.slice k1 n.h.ks.length k2) (.slice q1 n.c.ts.length q2) (.slice z1 n.s.ts.length z2) { n with up := true, log := s }) rfl V7.out ?_) | (refine wpList_putS Tryz.isNd rfl _ _ rfl (w.heap.size + 1) (ndA (.slice a1 n.xs.length a2) (.slice b1 n.ys.length b2) (.slice k1 n.h.ks.length k2) (.slice q1 n.c.ts.length q2) (.slice z1 n.s.ts.length z2) { n with up := true, log := s }) zeroNd rfl rfl rfl rfl (ndA_one _ rfl rfl rfl rfl rfl) HF7.out.r ?_; intro w19 s19 g19))
      refine bodyPost_ret (results_S2 Tryz.isNd rfl _ _ (w.heap.size + 1) _ (.bool true) rfl rfl rfl s19) rfl ?_
      rw [HY.out]
      exact ⟨_, _, _, _, _, rfl, (O7.out.keptLt g19 (by omega)).mono (by omega), HF7.out.b.grown g19 HF7.out.b.size (fun k e => by cases e; omega)⟩
end Go.Proofs.YteooloceaoinlaaGreatDoor
/- A region that draws its order, whose operations only read and whose callees read and may make memory of their own: walked once, in a class of worlds. -/
namespace Go.Proofs.YteooloceaoinlaaGreatDoor
open Go.ChangeShapes Go.WideShapes Go.ChangeAt Go.RowKit

/- A world of the class p. -/
structure Kin (p : World → Prop) where
  x : World
  h : p x
theorem wp_region_kin (p : World → Prop) {id : Nat} {Q : Exit → Act → World → Prop} {a : Act} {w : World} {l : List Oper} (hm : Tryz.prog.follows .mixedOrders = true) (hB : Region.lexB .any l.toArray = true) (h0 : p w.drew)
    (h : wpQuiet Tryz.prog l.toArray (fun w' => ∃ q : Kin p, w' = q.x) (fun a' => ∀ w', (∃ q : Kin p, w' = q.x) → Q .normal a' w') l a) : (Code.region id l.toArray true).wp Tryz.prog Q a w :=
  wp_region_quiet (C := fun w' => ∃ q : Kin p, w' = q.x) hm hB ⟨⟨w.drew, h0⟩, rfl⟩ (by simpa using h)
/- A callee's contract, met in a world of the class. -/
theorem Kin.call {p : World → Prop} {q : Kin p} {fn : FuncId} {args : Array Value} {v : Value}
    (h : Calls Tryz.prog fn args q.x fun e w' => e = .returned v ∧ Below q.x.heap.size q.x w') (hb : ∀ x w', p x → Below x.heap.size x w' → p w') : Calls Tryz.prog fn args q.x fun e w'' => e = .returned v ∧ ∃ q : Kin p, w'' = q.x :=
  h.mono fun _ w' ⟨he, b⟩ => ⟨he, ⟨w', hb _ _ q.h b⟩, rfl⟩
theorem Kin.same {p : World → Prop} {q : Kin p} {fn : FuncId} {args : Array Value} {v : Value}
    (h : Calls Tryz.prog fn args q.x fun e w' => e = .returned v ∧ w' = q.x) : Calls Tryz.prog fn args q.x fun e w'' => e = .returned v ∧ ∃ q : Kin p, w'' = q.x :=
  h.mono fun _ _ ⟨he, b⟩ => ⟨he, q, b⟩
end Go.Proofs.YteooloceaoinlaaGreatDoor
