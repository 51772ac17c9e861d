/- At every house NodeOk of the program answers as NodeOk of the model, and leaves what it was given as it was: the law FnExactNodeOk returns true, whatever it is given. -/
import Derived.Test.YteooloceaoinlaaGreatDoorRows
import Derived.WalkKit
import Derived.ProofKit
import Derived.OpenShut
import Derived.ShutString
import Derived.ChangeOld
import Derived.Below
import Derived.Test.YteooloceaoinlaaGreatDoorM22
import Derived.Test.YteooloceaoinlaaGreatDoorM34
import Derived.Test.YteooloceaoinlaaGreatDoorM35
import Derived.Test.YteooloceaoinlaaGreatDoorCards
import Derived.Test.YteooloceaoinlaaGreatDoorTie
import Derived.SevenTiedAt
import Derived.Lay
import Derived.LaidOnce
namespace Go.Proofs.YteooloceaoinlaaGreatDoor.fnExactNodeOk
open Go.ChangeShapes Go.WideShapes Go.ChangeAt Go.RowKit
open Go.ChangeMaps (open_string shut_string)
set_option linter.unusedVariables false

theorem own : ownKnob Tryz.prog.godebug = none := by kernel_rfl
theorem laidOut : laidOutB Tryz.prog = true := by kernel_rfl

set_option maxRecDepth 20000 in
set_option maxHeartbeats 20000000 in
theorem walk (r0 : Nd) (u0 v0 k0 q0 z0 : Value) (w : World) (f0 : RdN w u0 v0 k0 q0 z0 r0) (g0 : r0.r.Fit) (l0 : r0.log.length ≤ maxLen) (hT : Tab w) :
    Calls Tryz.prog 3 #[NdV u0 v0 k0 q0 z0 r0] w fun e w' => e = .returned (.bool true) ∧ Below w.heap.size w w' := by
  unfold maxLen at l0
  have HTab : Hid (Tab w) := hT
  clear hT
  have HR : Hid (∀ wx, Below w.heap.size w wx → RdN wx u0 v0 k0 q0 z0 r0) := fun wx b => f0.below b
  have CZ : Hid (∀ wx, Below w.heap.size w wx → Calls Tryz.prog 6 #[NdV u0 v0 k0 q0 z0 r0, .int .i64 1048576] wx fun e w' => e = .returned (.int .i64 (szI 1048576 (r0.len + r0.log.length))) ∧ Below wx.heap.size wx w') := fun wx b => szNode_any u0 v0 k0 q0 z0 r0 1048576 wx (HR.out wx b) (by omega) (by decide) (by decide)
  obtain ⟨ao0, ac0, rfl⟩ := reads_form f0.ra
  obtain ⟨bo0, bc0, rfl⟩ := reads_form f0.rb
  obtain ⟨ko0, kc0, rfl⟩ := reads_form f0.rk
  obtain ⟨qo0, qc0, rfl⟩ := reads_form f0.rq
  obtain ⟨zo0, zc0, rfl⟩ := reads_form f0.rz
  obtain ⟨w1, hw1⟩ : ∃ w1, w1 = w.alloc (.cells (ndA (.slice ao0 r0.xs.length ac0) (.slice bo0 r0.ys.length bc0) (.slice ko0 r0.h.ks.length kc0) (.slice qo0 r0.c.ts.length qc0) (.slice zo0 r0.s.ts.length zc0) r0) 34) := ⟨_, rfl⟩
  have HS : Hid (Sta w w1 [Blk w.heap.size 34 (ndA (.slice ao0 r0.xs.length ac0) (.slice bo0 r0.ys.length bc0) (.slice ko0 r0.h.ks.length kc0) (.slice qo0 r0.c.ts.length qc0) (.slice zo0 r0.s.ts.length zc0) r0)]) := by rw [hw1]; exact (Sta.start w).box _ _
  unfold NdV at CZ ⊢
  unfold ndA S at hw1
  conv in ndA (.slice ao0 _ ac0) _ _ _ _ _ => unfold ndA S
  clear f0 g0 l0
  go_enter Tryz.func3, Tryz.ntmps3
  go_upto_region 1 with fail
  rw [← hw1]
  clear hw1
  go_wp2_with (refine wpList_getSG Tryz.isLNd rfl _ rfl w.heap.size rfl (ndA (.slice ao0 r0.xs.length ac0) (.slice bo0 r0.ys.length bc0) (.slice ko0 r0.h.ks.length kc0) (.slice qo0 r0.c.ts.length qc0) (.slice zo0 r0.s.ts.length zc0) r0) rfl (HS.out.get 0 rfl) ?_)
  refine (CZ.out w1 HS.out.below).mono ?_
  rintro e w2 ⟨rfl, b2⟩
  replace HS : Hid (Sta w w2 [Blk w.heap.size 34 (ndA (.slice ao0 r0.xs.length ac0) (.slice bo0 r0.ys.length bc0) (.slice ko0 r0.h.ks.length kc0) (.slice qo0 r0.c.ts.length qc0) (.slice zo0 r0.s.ts.length zc0) r0)]) := HS.out.next b2
  clear b2 CZ
  by_cases hbig : r0.len + r0.log.length ≤ 1048576
  · have hsz : szI 1048576 (r0.len + r0.log.length) = 1048576 - ((r0.len + r0.log.length : Nat) : Int) := by simp only [szI]; rw [if_pos (by omega)]
    rw [hsz]
    clear hsz
    have HL : Hid (SmN r0) := SmN.of hbig
    obtain ⟨y, hy⟩ : ∃ y : Int, y = 1048576 - ((r0.len + r0.log.length : Nat) : Int) := ⟨_, rfl⟩
    have y0 : 0 ≤ y := by omega
    rw [← hy]
    clear hy hbig
    obtain ⟨t, ht⟩ : ∃ t, t = r0.ok := ⟨_, rfl⟩
    have TN : Hid (∀ wx, Below w.heap.size w wx → Calls Tryz.prog 8 #[.agg (ndA (.slice ao0 r0.xs.length ac0) (.slice bo0 r0.ys.length bc0) (.slice ko0 r0.h.ks.length kc0) (.slice qo0 r0.c.ts.length qc0) (.slice zo0 r0.s.ts.length zc0) r0)] wx fun e w' => ∃ a' b' k' q' z', e = .returned (.agg (ndA a' b' k' q' z' r0)) ∧ OwnN w' wx.heap.size a' b' k' q' z' r0 ∧ Below wx.heap.size wx w') := fun wx b => toNode_any _ _ _ _ _ r0 wx (HR.out wx b) HL.out
    have SP : Hid (∀ a b k q z wx, RdN wx a b k q z r0 → Calls Tryz.prog 7 #[.agg (ndA a b k q z r0)] wx fun e w' => e = .returned (.bool t) ∧ Below wx.heap.size wx w') := fun a b k q z wx h => by rw [ht]; exact snodeok_any a b k q z r0 wx h HL.out
    have IP : Hid (∀ a b k q z wx, RdN wx a b k q z r0 → Below w.heap.size w wx → Calls Tryz.prog 9 #[.agg (ndA a b k q z r0)] wx fun e w' => e = .returned (.bool t) ∧ Below wx.heap.size wx w') := fun a b k q z wx h b' => by rw [ht]; exact inodeok_any a b k q z r0 wx h HL.out (HTab.out.below b')
    have EN : Hid (∀ a b k q z a' b' k' q' z' wx, RdN wx a b k q z r0 → RdN wx a' b' k' q' z' r0 → Calls Tryz.prog 10 #[.agg (ndA a b k q z r0), .agg (ndA a' b' k' q' z' r0)] wx fun e w' => e = .returned (.bool true) ∧ Below wx.heap.size wx w') := fun a b k q z a' b' k' q' z' wx h h' => eqNode_any a b k q z a' b' k' q' z' r0 wx h h' HL.out
    clear ht HR
    go_wp2_with (first | (refine wpList_getSG Tryz.isLNd rfl _ rfl w.heap.size rfl (ndA (.slice ao0 r0.xs.length ac0) (.slice bo0 r0.ys.length bc0) (.slice ko0 r0.h.ks.length kc0) (.slice qo0 r0.c.ts.length qc0) (.slice zo0 r0.s.ts.length zc0) r0) rfl (HS.out.get 0 rfl) ?_))
    refine (TN.out w2 HS.out.below).mono ?_
    rintro e y3 ⟨aT, bT, kT, qT, zT, rfl, oy3, by3⟩
    obtain ⟨aoT, acT, rfl⟩ := reads_form oy3.oa.reads
    obtain ⟨boT, bcT, rfl⟩ := reads_form oy3.ob.reads
    obtain ⟨koT, kcT, rfl⟩ := reads_form oy3.ok.reads
    obtain ⟨qoT, qcT, rfl⟩ := reads_form oy3.oq.reads
    obtain ⟨zoT, zcT, rfl⟩ := reads_form oy3.oz.reads
    replace HS : Hid (Sta w y3 [NdI (.slice aoT r0.xs.length acT) (.slice boT r0.ys.length bcT) (.slice koT r0.h.ks.length kcT) (.slice qoT r0.c.ts.length qcT) (.slice zoT r0.s.ts.length zcT) r0, Blk w.heap.size 34 (ndA (.slice ao0 r0.xs.length ac0) (.slice bo0 r0.ys.length bc0) (.slice ko0 r0.h.ks.length kc0) (.slice qo0 r0.c.ts.length qc0) (.slice zo0 r0.s.ts.length zc0) r0)]) := HS.out.house oy3.mine by3
    clear oy3 by3
    go_wp2_with fail
    refine (SP.out _ _ _ _ _ y3 (HS.out.rdN 0 rfl)).mono ?_
    rintro e y4 ⟨rfl, by4⟩
    replace HS : Hid (Sta w y4 [NdI (.slice aoT r0.xs.length acT) (.slice boT r0.ys.length bcT) (.slice koT r0.h.ks.length kcT) (.slice qoT r0.c.ts.length qcT) (.slice zoT r0.s.ts.length zcT) r0, Blk w.heap.size 34 (ndA (.slice ao0 r0.xs.length ac0) (.slice bo0 r0.ys.length bc0) (.slice ko0 r0.h.ks.length kc0) (.slice qo0 r0.c.ts.length qc0) (.slice zo0 r0.s.ts.length zc0) r0)]) := HS.out.next by4
    clear by4
    go_upto_region 6 with fail
    go_wp2_with (first | (refine wpList_getSG Tryz.isLNd rfl _ rfl w.heap.size rfl (ndA (.slice ao0 r0.xs.length ac0) (.slice bo0 r0.ys.length bc0) (.slice ko0 r0.h.ks.length kc0) (.slice qo0 r0.c.ts.length qc0) (.slice zo0 r0.s.ts.length zc0) r0) rfl (HS.out.get 1 rfl) ?_))
    refine (TN.out y4 HS.out.below).mono ?_
    rintro e y5 ⟨aX, bX, kX, qX, zX, rfl, oy5, by5⟩
    obtain ⟨aoX, acX, rfl⟩ := reads_form oy5.oa.reads
    obtain ⟨boX, bcX, rfl⟩ := reads_form oy5.ob.reads
    obtain ⟨koX, kcX, rfl⟩ := reads_form oy5.ok.reads
    obtain ⟨qoX, qcX, rfl⟩ := reads_form oy5.oq.reads
    obtain ⟨zoX, zcX, rfl⟩ := reads_form oy5.oz.reads
    replace HS : Hid (Sta w y5 [NdI (.slice aoX r0.xs.length acX) (.slice boX r0.ys.length bcX) (.slice koX r0.h.ks.length kcX) (.slice qoX r0.c.ts.length qcX) (.slice zoX r0.s.ts.length zcX) r0, NdI (.slice aoT r0.xs.length acT) (.slice boT r0.ys.length bcT) (.slice koT r0.h.ks.length kcT) (.slice qoT r0.c.ts.length qcT) (.slice zoT r0.s.ts.length zcT) r0, Blk w.heap.size 34 (ndA (.slice ao0 r0.xs.length ac0) (.slice bo0 r0.ys.length bc0) (.slice ko0 r0.h.ks.length kc0) (.slice qo0 r0.c.ts.length qc0) (.slice zo0 r0.s.ts.length zc0) r0)]) := HS.out.house oy5.mine by5
    clear oy5 by5
    have qy6 : StB (y5.alloc (.cells zeroNd 43)) y5.heap.size 43 zeroNd := StB.new y5 _ _
    go_upto_region 7 with (refine wpList_putS Tryz.isNd rfl _ _ rfl y5.heap.size (ndA (.slice aoX r0.xs.length acX) (.slice boX r0.ys.length bcX) (.slice koX r0.h.ks.length kcX) (.slice qoX r0.c.ts.length qcX) (.slice zoX r0.s.ts.length zcX) r0) zeroNd rfl rfl rfl rfl (ndA_one r0 rfl rfl rfl rfl rfl) qy6 ?_; intro y6 sy6 gy6)
    replace HS : Hid (Sta w y6 [Blk y5.heap.size 43 (ndA (.slice aoX r0.xs.length acX) (.slice boX r0.ys.length bcX) (.slice koX r0.h.ks.length kcX) (.slice qoX r0.c.ts.length qcX) (.slice zoX r0.s.ts.length zcX) r0), NdI (.slice aoX r0.xs.length acX) (.slice boX r0.ys.length bcX) (.slice koX r0.h.ks.length kcX) (.slice qoX r0.c.ts.length qcX) (.slice zoX r0.s.ts.length zcX) r0, NdI (.slice aoT r0.xs.length acT) (.slice boT r0.ys.length bcT) (.slice koT r0.h.ks.length kcT) (.slice qoT r0.c.ts.length qcT) (.slice zoT r0.s.ts.length zcT) r0, Blk w.heap.size 34 (ndA (.slice ao0 r0.xs.length ac0) (.slice bo0 r0.ys.length bc0) (.slice ko0 r0.h.ks.length kc0) (.slice qo0 r0.c.ts.length qc0) (.slice zo0 r0.s.ts.length zc0) r0)]) := HS.out.varS sy6 gy6
    clear qy6 sy6 gy6
    (try simp only [Act.put])
    go_wp2_with (first | (refine wpList_getSG Tryz.isNd rfl _ rfl y5.heap.size rfl (ndA (.slice aoX r0.xs.length acX) (.slice boX r0.ys.length bcX) (.slice koX r0.h.ks.length kcX) (.slice qoX r0.c.ts.length qcX) (.slice zoX r0.s.ts.length zcX) r0) rfl (HS.out.get 0 rfl) ?_))
    refine (IP.out _ _ _ _ _ y6 (HS.out.rdN 1 rfl) HS.out.below).mono ?_
    rintro e y7 ⟨rfl, by7⟩
    replace HS : Hid (Sta w y7 [Blk y5.heap.size 43 (ndA (.slice aoX r0.xs.length acX) (.slice boX r0.ys.length bcX) (.slice koX r0.h.ks.length kcX) (.slice qoX r0.c.ts.length qcX) (.slice zoX r0.s.ts.length zcX) r0), NdI (.slice aoX r0.xs.length acX) (.slice boX r0.ys.length bcX) (.slice koX r0.h.ks.length kcX) (.slice qoX r0.c.ts.length qcX) (.slice zoX r0.s.ts.length zcX) r0, NdI (.slice aoT r0.xs.length acT) (.slice boT r0.ys.length bcT) (.slice koT r0.h.ks.length kcT) (.slice qoT r0.c.ts.length qcT) (.slice zoT r0.s.ts.length zcT) r0, Blk w.heap.size 34 (ndA (.slice ao0 r0.xs.length ac0) (.slice bo0 r0.ys.length bc0) (.slice ko0 r0.h.ks.length kc0) (.slice qo0 r0.c.ts.length qc0) (.slice zo0 r0.s.ts.length zc0) r0)]) := HS.out.next by7
    clear by7
    go_upto_region 10 with fail
    obtain ⟨C, hCd⟩ : ∃ C, C = fun x => Sta w x [Blk y5.heap.size 43 (ndA (.slice aoX r0.xs.length acX) (.slice boX r0.ys.length bcX) (.slice koX r0.h.ks.length kcX) (.slice qoX r0.c.ts.length qcX) (.slice zoX r0.s.ts.length zcX) r0), NdI (.slice aoX r0.xs.length acX) (.slice boX r0.ys.length bcX) (.slice koX r0.h.ks.length kcX) (.slice qoX r0.c.ts.length qcX) (.slice zoX r0.s.ts.length zcX) r0, NdI (.slice aoT r0.xs.length acT) (.slice boT r0.ys.length bcT) (.slice koT r0.h.ks.length kcT) (.slice qoT r0.c.ts.length qcT) (.slice zoT r0.s.ts.length zcT) r0, Blk w.heap.size 34 (ndA (.slice ao0 r0.xs.length ac0) (.slice bo0 r0.ys.length bc0) (.slice ko0 r0.h.ks.length kc0) (.slice qo0 r0.c.ts.length qc0) (.slice zo0 r0.s.ts.length zc0) r0)] := ⟨_, rfl⟩
    have HQ : Hid (∀ x, C x → Sta w x [Blk y5.heap.size 43 (ndA (.slice aoX r0.xs.length acX) (.slice boX r0.ys.length bcX) (.slice koX r0.h.ks.length kcX) (.slice qoX r0.c.ts.length qcX) (.slice zoX r0.s.ts.length zcX) r0), NdI (.slice aoX r0.xs.length acX) (.slice boX r0.ys.length bcX) (.slice koX r0.h.ks.length kcX) (.slice qoX r0.c.ts.length qcX) (.slice zoX r0.s.ts.length zcX) r0, NdI (.slice aoT r0.xs.length acT) (.slice boT r0.ys.length bcT) (.slice koT r0.h.ks.length kcT) (.slice qoT r0.c.ts.length qcT) (.slice zoT r0.s.ts.length zcT) r0, Blk w.heap.size 34 (ndA (.slice ao0 r0.xs.length ac0) (.slice bo0 r0.ys.length bc0) (.slice ko0 r0.h.ks.length kc0) (.slice qo0 r0.c.ts.length qc0) (.slice zo0 r0.s.ts.length zc0) r0)]) := by rw [hCd]; exact fun _ h => h
    have HN : Hid (∀ x y, C x → Later x y → C y) := by rw [hCd]; exact fun _ _ h b => h.next b
    have H0 : Hid (C y7.drew) := by rw [hCd]; exact HS.out.drew1
    have hne : Nonempty (Kin C) := ⟨⟨_, H0.out⟩⟩
    clear hCd
    refine wp_region_gs (C := C) (E := byDst fun d => if d = 24 then some (nodeG r0) else if d = 25 then some (truth true) else none) (R := Later) HN.out (byDst_later (by intro d s hs u x y hx hl; split at hs; (cases hs; exact nodeG_later hx hl); split at hs; (cases hs; exact truthC_later hx hl); cases hs)) (byDst_looks _ _) (by kernel_rfl) (by kernel_rfl) H0.out ?_
    refine gs_loadS Tryz.isNd rfl rfl _ rfl y5.heap.size rfl (ndA (.slice aoX r0.xs.length acX) (.slice boX r0.ys.length bcX) (.slice koX r0.h.ks.length kcX) (.slice qoX r0.c.ts.length qcX) (.slice zoX r0.s.ts.length zcX) r0) rfl (fun q => (HQ.out _ q.h).get 0 rfl) ?_
    refine gs_loadS Tryz.isLNd rfl rfl _ rfl w.heap.size rfl (ndA (.slice ao0 r0.xs.length ac0) (.slice bo0 r0.ys.length bc0) (.slice ko0 r0.h.ks.length kc0) (.slice qo0 r0.c.ts.length qc0) (.slice zo0 r0.s.ts.length zc0) r0) rfl (fun q => (HQ.out _ q.h).get 3 rfl) ?_
    refine gs_call (nodeG r0) rfl (by first | rfl | kernel_rfl) (fun wq hB => ?_) (fun uq hu => ?_)
    · go_simp
      refine ⟨rfl, ?_⟩
      exact nodeG_of (TN.out _ (HQ.out _ hB.1).below)
    obtain ⟨aQ, bQ, kQ, qQ, zQ, rfl⟩ := hu
    refine gs_call (truth true) rfl (by first | rfl | kernel_rfl) (fun wq hB => ?_) (fun uq hu => ?_)
    · have hA := nodeG_rd (hB.at0 rfl)
      go_simp
      refine ⟨rfl, ?_⟩
      exact truth_of (fun _ h => h) (EN.out _ _ _ _ _ _ _ _ _ _ _ ((HQ.out _ hB.1).rdN 1 rfl) hA)
    obtain rfl := hu
    repeat (refine gs_plain rfl (fun K hK => ?_); go_simp; refine hK _ ?_; clear hK K)
    refine gs_end (fun y8 hz => ?_)
    clear HS
    have HS : Hid (Sta w y8 [Blk y5.heap.size 43 (ndA (.slice aoX r0.xs.length acX) (.slice boX r0.ys.length bcX) (.slice koX r0.h.ks.length kcX) (.slice qoX r0.c.ts.length qcX) (.slice zoX r0.s.ts.length zcX) r0), NdI (.slice aoX r0.xs.length acX) (.slice boX r0.ys.length bcX) (.slice koX r0.h.ks.length kcX) (.slice qoX r0.c.ts.length qcX) (.slice zoX r0.s.ts.length zcX) r0, NdI (.slice aoT r0.xs.length acT) (.slice boT r0.ys.length bcT) (.slice koT r0.h.ks.length kcT) (.slice qoT r0.c.ts.length qcT) (.slice zoT r0.s.ts.length zcT) r0, Blk w.heap.size 34 (ndA (.slice ao0 r0.xs.length ac0) (.slice bo0 r0.ys.length bc0) (.slice ko0 r0.h.ks.length kc0) (.slice qo0 r0.c.ts.length qc0) (.slice zo0 r0.s.ts.length zc0) r0)]) := HQ.out _ hz.1
    clear hz HQ HN H0 hne
    have HB : Hid (Below w.heap.size w _) := HS.out.below
    clear HS
    go_wp2_with fail
    go_ret
    exact ⟨rfl, HB.out⟩
  · have hsz : szI 1048576 (r0.len + r0.log.length) = -1 := by simp only [szI]; rw [if_neg (by omega)]
    rw [hsz]
    have HB : Hid (Below w.heap.size w w2) := HS.out.below
    clear HS hsz HR
    go_wp2
    go_ret
    exact ⟨rfl, HB.out⟩

set_option maxRecDepth 100000 in
theorem lifted (os : Os) (started : os.Started) (H : Type) (enc : TypeId × Value → H) :
    ReturnsInHanded {} Tryz.checked os 3 .any (fun w args => (Rows.fnExactNodeOkSpec.pre enc Tryz.prog Tryz.f3 [] false w args ∧ laidMetH Tryz.prog Rows.fnExactNodeOkRow.laid w) ∧ sizedMet enc Tryz.prog Tryz.f3 (OpenSpec.ofChange Rows.fnExactNodeOkSpec) false w args) (Rows.fnExactNodeOkSpec.post enc Tryz.prog Tryz.f3 false true false false) := by
  refine returnsInHanded_of_change_and (C := Tryz.checked) (X := fun w _ => laidMetH Tryz.prog Rows.fnExactNodeOkRow.laid w) (fun _ _ _ hh h => h.of_heap hh) own started (by kernel_rfl) Tryz.func3
    (ChangeSpec.witness_shaped (enc := enc) (C := Tryz.checked) (os := os) (X := fun w _ => laidMetH Tryz.prog Rows.fnExactNodeOkRow.laid w) false (World.laidAll Tryz.prog os Rows.fnExactNodeOkRow.laid) #[.agg #[.int .i64 0, .bool false, .slice none 0 0, .slice none 0 0, .slice none 0 0, .int .i64 0, .int .i64 0, .int .i64 0, .string ByteArray.empty, .int .i64 0, .int .i64 0, .int .i64 0, .int .i64 0, .int .i64 0, .bool false, .int .i64 0, .int .i64 0, .slice none 0 0, .int .i64 0, .slice none 0 0]] 8 (World.laidAll_os _ _ _)
      (World.shaped_of_ZipB (by kernel_rfl) (by kernel_rfl)) (by kernel_rfl) (by kernel_rfl) (by kernel_rfl)
      (by rw [MakeChecks.laidMetH_plain _ _ _ (by kernel_rfl)]; exact laidMet_laidAll _ (by kernel_rfl) (by kernel_rfl))) ?_
  intro W base args ds gs before hval0 hW hcnd _ hL _
  have hval : ∀ (j : Nat) t v, Tryz.f3.params[j]? = some t → args[j]? = some v → Value.okWide Tryz.prog W .any base t v := hval0
  have hW' := hW
  obtain ⟨p, q, hA0, hV, rfl, hfz, hnd⟩ := hW
  have hA : DataW.TrodAll enc Tryz.prog W 0 (fun _ => true) true Tryz.f3.params.toList args.toList ds p := hA0
  rw [Tryz.params3] at hA hval
  obtain ⟨v0, vs0, d0, ds0, p0, q0, hargs, rfl, rfl, h0, s0⟩ := trodAll_cons hA
  obtain ⟨rfl, rfl, rfl⟩ := trodAll_nil s0
  obtain rfl : args = #[v0] := by cases args; simp_all
  obtain ⟨rfl, rfl⟩ := trodVars_none hV
  have k0 := h0
  have lt0 : ∀ x ∈ p0, x.block < W.heap.size := by obtain ⟨m, hm⟩ := k0; exact DataW.trod_lt m _ _ _ hm
  obtain ⟨r0, u0, y0, c0, q0', z0, rfl, f0, e0, l0⟩ := open_node (hval 0 34 v0 rfl rfl) h0
  clear hA0 hval0
  refine (walk r0 u0 y0 c0 q0' z0 W f0 e0 l0 (tab_fnExactNodeOk hL)).mono fun e W' ⟨he, bel⟩ => ?_
  subst he
  exact ⟨_, rfl, _, _, _, [], _, [], hW', trodAll_mk1 (shut_bool Tryz.underlying4 _), (trodAll_cons_mk (Below.trod laidOut (by kernel_rfl) (of_decide_eq_true (by kernel_rfl)) k0 bel lt0) trodAll_mk0), rfl, bel.frame _, fun h => by cases h⟩

theorem over : Rows.fnExactNodeOkRow.holds Tryz.pinned (OpenSpec.ofChange Rows.fnExactNodeOkSpec) :=
  OpenClaim.holds_of_wide 3 Tryz.f3 rfl rfl rfl rfl rfl rfl rfl ⟨rfl, rfl, rfl, rfl, rfl⟩ rfl rfl rfl rfl rfl (by kernel_rfl) Tryz.func3 (by kernel_rfl)
    (of_decide_eq_true (by kernel_rfl)) (by unfold Func.isWrapper; first | (rw [if_pos (by decide +kernel)]; kernel_rfl) | (rw [if_neg (by decide +kernel)]; exact ⟨rfl, rfl⟩))
    (fun os started H enc _ => lifted os started H enc)

theorem proved : Rows.FnExactNodeOkSaid := over
end Go.Proofs.YteooloceaoinlaaGreatDoor.fnExactNodeOk
namespace Go.Proofs.YteooloceaoinlaaGreatDoor
open Go in
theorem fnExactNodeOk_holds : Rows.FnExactNodeOkCardSaid :=
  Claim7.holds_tied_plain_at .later [] [.data, .data, .data, .data, .pinned] true (true, "ee2148919edf7c01316df07e360d6246ce2a87491b349b1f7f3dccfec9331b1d") false
    fnExactNodeOk.proved (fun _ h => by cases h) (by kernel_rfl) (fun _ h => by cases h) fnExactNodeOk_row_tie rfl ⟨rfl, rfl⟩ (by kernel_rfl) rfl
    (fun f fn hf hfn => by
      obtain rfl : f = 3 := Option.some.inj ((show Tryz.prog.funcNamed Rows.fnExactNodeOkRow.func = some 3 by kernel_rfl).symm.trans hf) |>.symm
      obtain rfl : fn = Tryz.f3 := (Option.some.inj (Tryz.func3.symm.trans hfn)).symm
      exact ⟨by kernel_rfl, fun j t ht => by
        rw [Tryz.params3] at ht
        have hm : t ∈ [34] := by simpa using Array.mem_of_getElem? ht
        have hall : ([34].all fun u => !Tryz.prog.wantsStandIn u) = true := by kernel_rfl
        exact (show Tryz.prog.wantsStandIn t = false by simpa using List.all_eq_true.1 hall t hm)⟩)
    (by kernel_rfl)
end Go.Proofs.YteooloceaoinlaaGreatDoor
