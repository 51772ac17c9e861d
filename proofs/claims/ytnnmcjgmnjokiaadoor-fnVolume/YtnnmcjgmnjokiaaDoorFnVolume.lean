/- At every list of bytes the law FnVolume returns true: what is written is read, one that swaps writes where it was that alone, and what is refused changes nothing; and the program answers as the model. -/
import Derived.Test.YtnnmcjgmnjokiaaDoorRows
import Derived.WalkKit
import Derived.ProofKit
import Derived.OpenShut
import Derived.ShutString
import Derived.ChangeOld
import Derived.Below
import Derived.Test.YtnnmcjgmnjokiaaDoorDrawVol
import Derived.Test.YtnnmcjgmnjokiaaDoorVolSta
import Derived.Test.YtnnmcjgmnjokiaaDoorLikeA
import Derived.Test.YtnnmcjgmnjokiaaDoorSMemA
import Derived.Test.YtnnmcjgmnjokiaaDoorIVolX
import Derived.Test.YtnnmcjgmnjokiaaDoorTabs
import Derived.Lay
import Derived.LaidOnce
import Derived.Test.YtnnmcjgmnjokiaaDoorCards
import Derived.Test.YtnnmcjgmnjokiaaDoorTie
import Derived.SevenTiedAt
namespace Go.Proofs.YtnnmcjgmnjokiaaDoor.fnVolume
open Go.ChangeShapes Go.WideShapes Go.ChangeAt Go.RowKit
open Go.ChangeMaps (open_string shut_string)
set_option linter.unusedVariables false

theorem own : ownKnob Tryd.prog.godebug = none := by kernel_rfl
theorem laidOut : laidOutB Tryd.prog = true := by kernel_rfl

def IsRow (k : IntKind) (w : World) (a : Option Addr) (len cap : Nat) (zs : List Int) : Prop :=
  (a = none ∧ len = 0 ∧ cap = 0 ∧ zs = []) ∨
  ∃ x, a = some x ∧ len ≤ cap ∧ cap ≤ maxLen ∧ zs.length = cap ∧ (∀ i, i < zs.length → w.cell? (x.add i) = some (.int k (zs.getD i 0))) ∧ ∀ n ∈ zs, (Lit.int k n).wf = true

set_option maxRecDepth 20000 in
set_option maxHeartbeats 20000000 in
theorem walk (a0 : Option Addr) (len0 cap0 : Nat) (z0 : List Int) (w : World) (w0 : IsRow .u8 w a0 len0 cap0 z0) (hT : Tab w) :
    Calls Tryd.prog 3 #[.slice a0 len0 cap0] w fun e w' => e = .returned (.bool true) ∧ Below w.heap.size w w' := by
  have HP : Hid (Tab w) := hT
  clear hT
  by_cases hbig : (4096 : Int) < (len0 : Int)
  · go_enter Tryd.func3, Tryd.ntmps3
    go_wp2_with (go_at_call 5; refine (big_any _ _ _ _).mono ?_; rintro e w' ⟨rfl, hw'⟩; subst w')
    go_ret
    exact ⟨rfl, Below.refl _ _⟩
  · have HC : Hid (CodeOk w w.heap.size (.slice a0 len0 cap0)) := codeOk_row w0 (by omega)
    clear w0
    have HS : Hid (Sta w w []) := Sta.start w
    go_enter Tryd.func3, Tryd.ntmps3
    go_wp2_with fail
    refine (big_any _ _ _ _).mono ?_
    rintro e w' ⟨rfl, hw'⟩; subst w'
    go_wp2_with fail
    refine (drawVol_any w.heap.size _ _ HC.out (Nat.le_refl _)).mono ?_
    rintro e v1 ⟨aD, bD, r, rfl, xs, ys, hx, hy, ov1, bv1⟩
    obtain ⟨aoD, acD, rfl⟩ := ov1.1.reads.form
    obtain ⟨boD, bcD, rfl⟩ := ov1.2.1.reads.form
    replace HS : Hid (Sta w v1 [Dsk (.slice aoD xs.length acD) (.slice boD ys.length bcD) xs ys]) := HS.out.disk ov1 bv1
    clear ov1 bv1
    clear HC
    unfold CV cmA
    obtain ⟨v2, hv2⟩ : ∃ v2, v2 = (v1.alloc (.cells #[.slice aoD xs.length acD, .slice boD ys.length bcD] 26)).alloc (.cells #[.int .i64 r.o, .int .i64 r.p, .int .i64 r.a, .int .i64 r.b, .int .i64 r.k] 28) := ⟨_, rfl⟩
    have hsv2 := (HS.out.box 26 #[.slice aoD xs.length acD, .slice boD ys.length bcD]).box 28 #[.int .i64 r.o, .int .i64 r.p, .int .i64 r.a, .int .i64 r.b, .int .i64 r.k]
    rw [World.size_alloc, ← hv2] at hsv2
    replace HS : Hid (Sta w v2 [Blk (v1.heap.size + 1) 28 #[.int .i64 r.o, .int .i64 r.p, .int .i64 r.a, .int .i64 r.b, .int .i64 r.k], Blk v1.heap.size 26 #[.slice aoD xs.length acD, .slice boD ys.length bcD], Dsk (.slice aoD xs.length acD) (.slice boD ys.length bcD) xs ys]) := hsv2
    go_upto_region 4 with fail
    rw [← hv2]
    clear hv2 hsv2
    obtain ⟨D, hD⟩ : ∃ D, D = didD xs ys r := ⟨_, rfl⟩
    have gx : xs.length ≤ 1099511627776 := by omega
    have gy : ys.length ≤ 1099511627776 := by omega
    have SD : Hid (∀ wx a b, Reads wx a xs → Reads wx b ys → _) := fun wx a b h h' => sDidDisk_any a b xs ys r wx h h' gx gy
    have ID : Hid (∀ wx a b, Reads wx a xs → Reads wx b ys → Tab wx → _) := fun wx a b h h' t => iDidDisk_any a b xs ys r wx h h' gx gy t
    have IR : Hid (∀ wx, _) := fun wx => ireads_any r wx
    have SR : Hid (∀ wx, _) := fun wx => sreads_any r wx
    have IW : Hid (∀ wx, _) := fun wx => iwrites_any r wx
    have SW : Hid (∀ wx, _) := fun wx => swrites_any r wx
    have sK : Hid (D.1.length ≤ 1048576 ∧ D.2.1.length ≤ 1048576) := by rw [hD]; exact didD_len xs ys r (by omega) (by omega)
    have HCS : Hid (bothOk xs ys = true → _) := fun hb => did_cases (xs := xs) (ys := ys) r hb
    have HCN : Hid (bothOk xs ys = false → D = ([], [], ⟨7, []⟩)) := fun hb => by rw [hD]; exact did_none r hb
    have HRW : Hid ((r.rd && r.wr) = false) := rd_wr r
    rw [← hD] at SD ID HCS
    clear hD
    obtain ⟨ks, ns, an⟩ := D
    obtain ⟨rb, hrb⟩ : ∃ rb, rb = r.rd := ⟨_, rfl⟩
    obtain ⟨wb, hwb⟩ : ∃ wb, wb = r.wr := ⟨_, rfl⟩
    rw [← hrb] at IR SR HRW HCS
    rw [← hwb] at IW SW HRW
    dsimp only at SD ID sK HCS
    have sk := sK.out.1
    have sn := sK.out.2
    have gk : ks.length ≤ 1099511627776 := by omega
    have gn : ns.length ≤ 1099511627776 := by omega
    clear sK hrb hwb
    unfold AV anA S at SD ID
    unfold CV cmA at SD ID IR SR IW SW
    have p_vD_0 : v2.cell? ⟨v1.heap.size, 0, none⟩ = some (.slice aoD xs.length acD) := Blk.cell (HS.out.get 1 rfl) 0 rfl
    have p_vD_1 : v2.cell? ⟨v1.heap.size, 1, none⟩ = some (.slice boD ys.length bcD) := Blk.cell (HS.out.get 1 rfl) 1 rfl
    have p_vC_0 : v2.cell? ⟨v1.heap.size + 1, 0, none⟩ = some (.int .i64 r.o) := Blk.cell (HS.out.get 0 rfl) 0 rfl
    have p_vC_1 : v2.cell? ⟨v1.heap.size + 1, 1, none⟩ = some (.int .i64 r.p) := Blk.cell (HS.out.get 0 rfl) 1 rfl
    have p_vC_2 : v2.cell? ⟨v1.heap.size + 1, 2, none⟩ = some (.int .i64 r.a) := Blk.cell (HS.out.get 0 rfl) 2 rfl
    have p_vC_3 : v2.cell? ⟨v1.heap.size + 1, 3, none⟩ = some (.int .i64 r.b) := Blk.cell (HS.out.get 0 rfl) 3 rfl
    have p_vC_4 : v2.cell? ⟨v1.heap.size + 1, 4, none⟩ = some (.int .i64 r.k) := Blk.cell (HS.out.get 0 rfl) 4 rfl
    go_wp2_with fail
    clear p_vD_0 p_vD_1 p_vC_0 p_vC_1 p_vC_2 p_vC_3 p_vC_4
    refine (ID.out _ _ _ (HS.out.readsU 2 rfl) (HS.out.readsV 2 rfl) (HP.out.below HS.out.below)).mono ?_
    rintro e v3 ⟨aG, bG, rfl, ov3, bv3⟩
    obtain ⟨aoG, acG, rfl⟩ := ov3.1.reads.form
    obtain ⟨boG, bcG, rfl⟩ := ov3.2.1.reads.form
    replace HS : Hid (Sta w v3 [Dsk (.slice aoG ks.length acG) (.slice boG ns.length bcG) ks ns, Blk (v1.heap.size + 1) 28 #[.int .i64 r.o, .int .i64 r.p, .int .i64 r.a, .int .i64 r.b, .int .i64 r.k], Blk v1.heap.size 26 #[.slice aoD xs.length acD, .slice boD ys.length bcD], Dsk (.slice aoD xs.length acD) (.slice boD ys.length bcD) xs ys]) := HS.out.disk ov3 bv3
    clear ov3 bv3
    obtain ⟨v4, hv4⟩ : ∃ v4, v4 = (v3.alloc (.cells #[.slice aoG ks.length acG, .slice boG ns.length bcG] 26)).alloc (.cells #[.int .i64 an.st, .string ⟨an.tx.toArray⟩] 32) := ⟨_, rfl⟩
    have hsv4 := (HS.out.box 26 #[.slice aoG ks.length acG, .slice boG ns.length bcG]).box 32 #[.int .i64 an.st, .string ⟨an.tx.toArray⟩]
    rw [World.size_alloc, ← hv4] at hsv4
    replace HS : Hid (Sta w v4 [Blk (v3.heap.size + 1) 32 #[.int .i64 an.st, .string ⟨an.tx.toArray⟩], Blk v3.heap.size 26 #[.slice aoG ks.length acG, .slice boG ns.length bcG], Dsk (.slice aoG ks.length acG) (.slice boG ns.length bcG) ks ns, Blk (v1.heap.size + 1) 28 #[.int .i64 r.o, .int .i64 r.p, .int .i64 r.a, .int .i64 r.b, .int .i64 r.k], Blk v1.heap.size 26 #[.slice aoD xs.length acD, .slice boD ys.length bcD], Dsk (.slice aoD xs.length acD) (.slice boD ys.length bcD) xs ys]) := hsv4
    go_upto_region 5 with fail
    rw [← hv4]
    clear hv4 hsv4
    have p_vD_0 : v4.cell? ⟨v1.heap.size, 0, none⟩ = some (.slice aoD xs.length acD) := Blk.cell (HS.out.get 4 rfl) 0 rfl
    have p_vD_1 : v4.cell? ⟨v1.heap.size, 1, none⟩ = some (.slice boD ys.length bcD) := Blk.cell (HS.out.get 4 rfl) 1 rfl
    have p_vC_0 : v4.cell? ⟨v1.heap.size + 1, 0, none⟩ = some (.int .i64 r.o) := Blk.cell (HS.out.get 3 rfl) 0 rfl
    have p_vC_1 : v4.cell? ⟨v1.heap.size + 1, 1, none⟩ = some (.int .i64 r.p) := Blk.cell (HS.out.get 3 rfl) 1 rfl
    have p_vC_2 : v4.cell? ⟨v1.heap.size + 1, 2, none⟩ = some (.int .i64 r.a) := Blk.cell (HS.out.get 3 rfl) 2 rfl
    have p_vC_3 : v4.cell? ⟨v1.heap.size + 1, 3, none⟩ = some (.int .i64 r.b) := Blk.cell (HS.out.get 3 rfl) 3 rfl
    have p_vC_4 : v4.cell? ⟨v1.heap.size + 1, 4, none⟩ = some (.int .i64 r.k) := Blk.cell (HS.out.get 3 rfl) 4 rfl
    go_wp2_with fail
    clear p_vD_0 p_vD_1 p_vC_0 p_vC_1 p_vC_2 p_vC_3 p_vC_4
    refine (SD.out _ _ _ (HS.out.readsU 5 rfl) (HS.out.readsV 5 rfl)).mono ?_
    rintro e v5 ⟨aW, bW, rfl, ov5, bv5⟩
    obtain ⟨aoW, acW, rfl⟩ := ov5.1.reads.form
    obtain ⟨boW, bcW, rfl⟩ := ov5.2.1.reads.form
    replace HS : Hid (Sta w v5 [Dsk (.slice aoW ks.length acW) (.slice boW ns.length bcW) ks ns, Blk (v3.heap.size + 1) 32 #[.int .i64 an.st, .string ⟨an.tx.toArray⟩], Blk v3.heap.size 26 #[.slice aoG ks.length acG, .slice boG ns.length bcG], Dsk (.slice aoG ks.length acG) (.slice boG ns.length bcG) ks ns, Blk (v1.heap.size + 1) 28 #[.int .i64 r.o, .int .i64 r.p, .int .i64 r.a, .int .i64 r.b, .int .i64 r.k], Blk v1.heap.size 26 #[.slice aoD xs.length acD, .slice boD ys.length bcD], Dsk (.slice aoD xs.length acD) (.slice boD ys.length bcD) xs ys]) := HS.out.disk ov5 bv5
    clear ov5 bv5
    obtain ⟨v6, hv6⟩ : ∃ v6, v6 = (v5.alloc (.cells #[.slice aoW ks.length acW, .slice boW ns.length bcW] 26)).alloc (.cells #[.int .i64 an.st, .string ⟨an.tx.toArray⟩] 32) := ⟨_, rfl⟩
    have hsv6 := (HS.out.box 26 #[.slice aoW ks.length acW, .slice boW ns.length bcW]).box 32 #[.int .i64 an.st, .string ⟨an.tx.toArray⟩]
    rw [World.size_alloc, ← hv6] at hsv6
    replace HS : Hid (Sta w v6 [Blk (v5.heap.size + 1) 32 #[.int .i64 an.st, .string ⟨an.tx.toArray⟩], Blk v5.heap.size 26 #[.slice aoW ks.length acW, .slice boW ns.length bcW], Dsk (.slice aoW ks.length acW) (.slice boW ns.length bcW) ks ns, Blk (v3.heap.size + 1) 32 #[.int .i64 an.st, .string ⟨an.tx.toArray⟩], Blk v3.heap.size 26 #[.slice aoG ks.length acG, .slice boG ns.length bcG], Dsk (.slice aoG ks.length acG) (.slice boG ns.length bcG) ks ns, Blk (v1.heap.size + 1) 28 #[.int .i64 r.o, .int .i64 r.p, .int .i64 r.a, .int .i64 r.b, .int .i64 r.k], Blk v1.heap.size 26 #[.slice aoD xs.length acD, .slice boD ys.length bcD], Dsk (.slice aoD xs.length acD) (.slice boD ys.length bcD) xs ys]) := hsv6
    go_upto_region 6 with fail
    rw [← hv6]
    clear hv6 hsv6
    clear SD
    have e_a : (an.st == an.st) = true := by simp
    have e_t : (an.tx == an.tx) = true := by simp
    have e_r : (rb != rb) = false := by simp
    have e_w : (wb != wb) = false := by simp
    have LK := fun u v a b w' (h1 : Reads w' u ks) (h2 : Reads w' v ns) (h3 : Reads w' a ks) (h4 : Reads w' b ns) => likeDisk_any u v a b ks ns w' h1 h2 h3 h4 gk gn
    have ir := fun wx => IR.out wx
    have sr := fun wx => SR.out wx
    have iw := fun wx => IW.out wx
    have sw := fun wx => SW.out wx
    have HRB : Hid (rb = true → wb = false) := fun e => by have := HRW.out; rw [e, Bool.true_and] at this; exact this
    cases rb with
    | false =>
      clear e_r
      clear HRB HRW
      go_upto_region 6 with fail
      obtain ⟨p, hp⟩ : ∃ p, p = fun x => Sta w x [Blk (v5.heap.size + 1) 32 #[.int .i64 an.st, .string ⟨an.tx.toArray⟩], Blk v5.heap.size 26 #[.slice aoW ks.length acW, .slice boW ns.length bcW], Dsk (.slice aoW ks.length acW) (.slice boW ns.length bcW) ks ns, Blk (v3.heap.size + 1) 32 #[.int .i64 an.st, .string ⟨an.tx.toArray⟩], Blk v3.heap.size 26 #[.slice aoG ks.length acG, .slice boG ns.length bcG], Dsk (.slice aoG ks.length acG) (.slice boG ns.length bcG) ks ns, Blk (v1.heap.size + 1) 28 #[.int .i64 r.o, .int .i64 r.p, .int .i64 r.a, .int .i64 r.b, .int .i64 r.k], Blk v1.heap.size 26 #[.slice aoD xs.length acD, .slice boD ys.length bcD], Dsk (.slice aoD xs.length acD) (.slice boD ys.length bcD) xs ys] := ⟨_, rfl⟩
      have HQ : Hid (∀ x, p x → Sta w x [Blk (v5.heap.size + 1) 32 #[.int .i64 an.st, .string ⟨an.tx.toArray⟩], Blk v5.heap.size 26 #[.slice aoW ks.length acW, .slice boW ns.length bcW], Dsk (.slice aoW ks.length acW) (.slice boW ns.length bcW) ks ns, Blk (v3.heap.size + 1) 32 #[.int .i64 an.st, .string ⟨an.tx.toArray⟩], Blk v3.heap.size 26 #[.slice aoG ks.length acG, .slice boG ns.length bcG], Dsk (.slice aoG ks.length acG) (.slice boG ns.length bcG) ks ns, Blk (v1.heap.size + 1) 28 #[.int .i64 r.o, .int .i64 r.p, .int .i64 r.a, .int .i64 r.b, .int .i64 r.k], Blk v1.heap.size 26 #[.slice aoD xs.length acD, .slice boD ys.length bcD], Dsk (.slice aoD xs.length acD) (.slice boD ys.length bcD) xs ys]) := by rw [hp]; exact fun _ h => h
      have HN : Hid (∀ x w', p x → Below x.heap.size x w' → p w') := by rw [hp]; exact fun _ _ h b => h.next b
      have H0 : Hid (p v6.drew) := by rw [hp]; exact HS.out.drew1
      have hne : Nonempty (Kin p) := ⟨⟨_, H0.out⟩⟩
      have m_vG_0 : ∀ q : Kin p, q.x.cell? ⟨v3.heap.size, 0, none⟩ = some (.slice aoG ks.length acG) := fun q => Blk.cell ((HQ.out _ q.h).get 4 rfl) 0 rfl
      have m_vG_1 : ∀ q : Kin p, q.x.cell? ⟨v3.heap.size, 1, none⟩ = some (.slice boG ns.length bcG) := fun q => Blk.cell ((HQ.out _ q.h).get 4 rfl) 1 rfl
      have m_vW_0 : ∀ q : Kin p, q.x.cell? ⟨v5.heap.size, 0, none⟩ = some (.slice aoW ks.length acW) := fun q => Blk.cell ((HQ.out _ q.h).get 1 rfl) 0 rfl
      have m_vW_1 : ∀ q : Kin p, q.x.cell? ⟨v5.heap.size, 1, none⟩ = some (.slice boW ns.length bcW) := fun q => Blk.cell ((HQ.out _ q.h).get 1 rfl) 1 rfl
      have m_aG_0 : ∀ q : Kin p, q.x.cell? ⟨v3.heap.size + 1, 0, none⟩ = some (.int .i64 an.st) := fun q => Blk.cell ((HQ.out _ q.h).get 3 rfl) 0 rfl
      have m_aG_1 : ∀ q : Kin p, q.x.cell? ⟨v3.heap.size + 1, 1, none⟩ = some (.string ⟨an.tx.toArray⟩) := fun q => Blk.cell ((HQ.out _ q.h).get 3 rfl) 1 rfl
      have m_aW_0 : ∀ q : Kin p, q.x.cell? ⟨v5.heap.size + 1, 0, none⟩ = some (.int .i64 an.st) := fun q => Blk.cell ((HQ.out _ q.h).get 0 rfl) 0 rfl
      have m_aW_1 : ∀ q : Kin p, q.x.cell? ⟨v5.heap.size + 1, 1, none⟩ = some (.string ⟨an.tx.toArray⟩) := fun q => Blk.cell ((HQ.out _ q.h).get 0 rfl) 1 rfl
      have m_vC_0 : ∀ q : Kin p, q.x.cell? ⟨v1.heap.size + 1, 0, none⟩ = some (.int .i64 r.o) := fun q => Blk.cell ((HQ.out _ q.h).get 6 rfl) 0 rfl
      have m_vC_1 : ∀ q : Kin p, q.x.cell? ⟨v1.heap.size + 1, 1, none⟩ = some (.int .i64 r.p) := fun q => Blk.cell ((HQ.out _ q.h).get 6 rfl) 1 rfl
      have m_vC_2 : ∀ q : Kin p, q.x.cell? ⟨v1.heap.size + 1, 2, none⟩ = some (.int .i64 r.a) := fun q => Blk.cell ((HQ.out _ q.h).get 6 rfl) 2 rfl
      have m_vC_3 : ∀ q : Kin p, q.x.cell? ⟨v1.heap.size + 1, 3, none⟩ = some (.int .i64 r.b) := fun q => Blk.cell ((HQ.out _ q.h).get 6 rfl) 3 rfl
      have m_vC_4 : ∀ q : Kin p, q.x.cell? ⟨v1.heap.size + 1, 4, none⟩ = some (.int .i64 r.k) := fun q => Blk.cell ((HQ.out _ q.h).get 6 rfl) 4 rfl
      clear hp HS
      refine wp_region_kin p (by kernel_rfl) (by kernel_rfl) H0.out ?_
      repeat (quiet_step (first
        | (go_at_call 9; exact Kin.call (LK _ _ _ _ _ ((HQ.out _ (Kin.h _)).readsU 5 rfl) ((HQ.out _ (Kin.h _)).readsV 5 rfl) ((HQ.out _ (Kin.h _)).readsU 2 rfl) ((HQ.out _ (Kin.h _)).readsV 2 rfl)) HN.out)
        | (go_at_call 10; exact Kin.call (ir _) HN.out)
        | (go_at_call 11; exact Kin.call (sr _) HN.out)
        | (go_at_call 12; exact Kin.call (iw _) HN.out)
        | (go_at_call 13; exact Kin.call (sw _) HN.out)))
      refine wpQuiet_nil ?_
      intro ak hk'
      have HS : Hid (Sta w ak [Blk (v5.heap.size + 1) 32 #[.int .i64 an.st, .string ⟨an.tx.toArray⟩], Blk v5.heap.size 26 #[.slice aoW ks.length acW, .slice boW ns.length bcW], Dsk (.slice aoW ks.length acW) (.slice boW ns.length bcW) ks ns, Blk (v3.heap.size + 1) 32 #[.int .i64 an.st, .string ⟨an.tx.toArray⟩], Blk v3.heap.size 26 #[.slice aoG ks.length acG, .slice boG ns.length bcG], Dsk (.slice aoG ks.length acG) (.slice boG ns.length bcG) ks ns, Blk (v1.heap.size + 1) 28 #[.int .i64 r.o, .int .i64 r.p, .int .i64 r.a, .int .i64 r.b, .int .i64 r.k], Blk v1.heap.size 26 #[.slice aoD xs.length acD, .slice boD ys.length bcD], Dsk (.slice aoD xs.length acD) (.slice boD ys.length bcD) xs ys]) := by { obtain ⟨q, rfl⟩ := hk'; exact HQ.out _ q.h }
      clear hk' HQ HN H0 hne m_vG_0 m_vG_1 m_vW_0 m_vW_1 m_aG_0 m_aG_1 m_aW_0 m_aW_1 m_vC_0 m_vC_1 m_vC_2 m_vC_3 m_vC_4
      obtain ⟨v107, hv107⟩ : ∃ v107, v107 = ak := ⟨_, rfl⟩
      rw [← hv107] at HS ⊢
      clear hv107
      clear LK sr iw sw e_a e_t
      go_upto_region 8 with fail
      obtain ⟨kb, hkb⟩ : ∃ kb, kb = bothOk xs ys := ⟨_, rfl⟩
      rw [← hkb] at HCS HCN
      have HKB : Hid (kb = bothOk xs ys) := hkb
      have co := sdiskOk_any _ _ xs ys v107 (HS.out.readsU 8 rfl) (HS.out.readsV 8 rfl) gx gy
      rw [← hkb] at co
      clear hkb
      have p_vD_0 : v107.cell? ⟨v1.heap.size, 0, none⟩ = some (.slice aoD xs.length acD) := Blk.cell (HS.out.get 7 rfl) 0 rfl
      have p_vD_1 : v107.cell? ⟨v1.heap.size, 1, none⟩ = some (.slice boD ys.length bcD) := Blk.cell (HS.out.get 7 rfl) 1 rfl
      go_wp2_with fail
      clear p_vD_0 p_vD_1
      refine (co).mono ?_
      rintro e v108 ⟨rfl, bv108⟩
      replace HS : Hid (Sta w v108 [Blk (v5.heap.size + 1) 32 #[.int .i64 an.st, .string ⟨an.tx.toArray⟩], Blk v5.heap.size 26 #[.slice aoW ks.length acW, .slice boW ns.length bcW], Dsk (.slice aoW ks.length acW) (.slice boW ns.length bcW) ks ns, Blk (v3.heap.size + 1) 32 #[.int .i64 an.st, .string ⟨an.tx.toArray⟩], Blk v3.heap.size 26 #[.slice aoG ks.length acG, .slice boG ns.length bcG], Dsk (.slice aoG ks.length acG) (.slice boG ns.length bcG) ks ns, Blk (v1.heap.size + 1) 28 #[.int .i64 r.o, .int .i64 r.p, .int .i64 r.a, .int .i64 r.b, .int .i64 r.k], Blk v1.heap.size 26 #[.slice aoD xs.length acD, .slice boD ys.length bcD], Dsk (.slice aoD xs.length acD) (.slice boD ys.length bcD) xs ys]) := HS.out.next bv108
      clear bv108
      clear co
      cases kb with
      | false =>
        have hz := HCN.out rfl
        simp only [Prod.mk.injEq] at hz
        obtain ⟨e1, e2, e3⟩ := hz
        have hst : (an.st == 7) = true := by rw [e3]; rfl
        have E1 : Hid (ks = []) := e1
        have E2 : Hid (ns = []) := e2
        clear HCS HCN e1 e2 e3
        go_upto_region 9 with fail
        have p_vG_0 : v108.cell? ⟨v3.heap.size, 0, none⟩ = some (.slice aoG ks.length acG) := Blk.cell (HS.out.get 4 rfl) 0 rfl
        have p_vG_1 : v108.cell? ⟨v3.heap.size, 1, none⟩ = some (.slice boG ns.length bcG) := Blk.cell (HS.out.get 4 rfl) 1 rfl
        have p_aG_0 : v108.cell? ⟨v3.heap.size + 1, 0, none⟩ = some (.int .i64 an.st) := Blk.cell (HS.out.get 3 rfl) 0 rfl
        have p_aG_1 : v108.cell? ⟨v3.heap.size + 1, 1, none⟩ = some (.string ⟨an.tx.toArray⟩) := Blk.cell (HS.out.get 3 rfl) 1 rfl
        go_wp2_with fail
        clear p_vG_0 p_vG_1 p_aG_0 p_aG_1
        refine (likeDisk_any _ _ (.slice none 0 0) (.slice none 0 0) ks ns _ (HS.out.readsU 5 rfl) (HS.out.readsV 5 rfl) (by rw [E1.out]; exact (Own.nil _ 0).reads) (by rw [E2.out]; exact (Own.nil _ 0).reads) gk gn).mono ?_
        rintro e v109 ⟨rfl, bv109⟩
        replace HS : Hid (Sta w v109 [Blk (v5.heap.size + 1) 32 #[.int .i64 an.st, .string ⟨an.tx.toArray⟩], Blk v5.heap.size 26 #[.slice aoW ks.length acW, .slice boW ns.length bcW], Dsk (.slice aoW ks.length acW) (.slice boW ns.length bcW) ks ns, Blk (v3.heap.size + 1) 32 #[.int .i64 an.st, .string ⟨an.tx.toArray⟩], Blk v3.heap.size 26 #[.slice aoG ks.length acG, .slice boG ns.length bcG], Dsk (.slice aoG ks.length acG) (.slice boG ns.length bcG) ks ns, Blk (v1.heap.size + 1) 28 #[.int .i64 r.o, .int .i64 r.p, .int .i64 r.a, .int .i64 r.b, .int .i64 r.k], Blk v1.heap.size 26 #[.slice aoD xs.length acD, .slice boD ys.length bcD], Dsk (.slice aoD xs.length acD) (.slice boD ys.length bcD) xs ys]) := HS.out.next bv109
        clear bv109
        have HB : Hid (Below w.heap.size w _) := HS.out.below
        clear HS
        go_wp2
        go_ret
        exact ⟨rfl, HB.out⟩
      | true =>
        have hz := HCS.out rfl
        clear HCS HCN
        rcases hz with ⟨h1, e1, e2⟩ | ⟨h1, -, h5, e1, e2⟩ | ⟨h1, -, h5, j, z, hj, hjl, hv, e1, e2, h3, h4⟩
        · have hsb : (an.st != 0) = true := h1.elim (fun h => by simpa using h) (fun h => by cases h)
          have E1 : Hid (ks = xs) := e1
          have E2 : Hid (ns = ys) := e2
          clear h1 e1 e2
          go_upto_region 10 with fail
          have p_aG_0 : v108.cell? ⟨v3.heap.size + 1, 0, none⟩ = some (.int .i64 an.st) := Blk.cell (HS.out.get 3 rfl) 0 rfl
          have p_aG_1 : v108.cell? ⟨v3.heap.size + 1, 1, none⟩ = some (.string ⟨an.tx.toArray⟩) := Blk.cell (HS.out.get 3 rfl) 1 rfl
          go_upto_region 11 with fail
          clear p_aG_0 p_aG_1
          have p_vG_0 : v108.cell? ⟨v3.heap.size, 0, none⟩ = some (.slice aoG ks.length acG) := Blk.cell (HS.out.get 4 rfl) 0 rfl
          have p_vG_1 : v108.cell? ⟨v3.heap.size, 1, none⟩ = some (.slice boG ns.length bcG) := Blk.cell (HS.out.get 4 rfl) 1 rfl
          have p_vD_0 : v108.cell? ⟨v1.heap.size, 0, none⟩ = some (.slice aoD xs.length acD) := Blk.cell (HS.out.get 7 rfl) 0 rfl
          have p_vD_1 : v108.cell? ⟨v1.heap.size, 1, none⟩ = some (.slice boD ys.length bcD) := Blk.cell (HS.out.get 7 rfl) 1 rfl
          go_wp2_with fail
          clear p_vG_0 p_vG_1 p_vD_0 p_vD_1
          refine (likeDisk_any _ _ _ _ ks ns _ (HS.out.readsU 5 rfl) (HS.out.readsV 5 rfl) (by rw [E1.out]; exact (HS.out.readsU 8 rfl)) (by rw [E2.out]; exact (HS.out.readsV 8 rfl)) gk gn).mono ?_
          rintro e v209 ⟨rfl, bv209⟩
          replace HS : Hid (Sta w v209 [Blk (v5.heap.size + 1) 32 #[.int .i64 an.st, .string ⟨an.tx.toArray⟩], Blk v5.heap.size 26 #[.slice aoW ks.length acW, .slice boW ns.length bcW], Dsk (.slice aoW ks.length acW) (.slice boW ns.length bcW) ks ns, Blk (v3.heap.size + 1) 32 #[.int .i64 an.st, .string ⟨an.tx.toArray⟩], Blk v3.heap.size 26 #[.slice aoG ks.length acG, .slice boG ns.length bcG], Dsk (.slice aoG ks.length acG) (.slice boG ns.length bcG) ks ns, Blk (v1.heap.size + 1) 28 #[.int .i64 r.o, .int .i64 r.p, .int .i64 r.a, .int .i64 r.b, .int .i64 r.k], Blk v1.heap.size 26 #[.slice aoD xs.length acD, .slice boD ys.length bcD], Dsk (.slice aoD xs.length acD) (.slice boD ys.length bcD) xs ys]) := HS.out.next bv209
          clear bv209
          have HB : Hid (Below w.heap.size w _) := HS.out.below
          clear HS
          go_wp2
          go_ret
          exact ⟨rfl, HB.out⟩
        · have hsb : (an.st != 0) = false := by simpa using h1
          have h5b : (r.o == 5) = true := by simpa using h5
          have E3 : Hid (differI ks ns = 0) := by rw [Hid, e1, e2]; exact differI_same (bothOk_same HKB.out.symm)
          have E2 : Hid (ns = ys) := e2
          clear h1 h5 e1 e2
          go_upto_region 10 with fail
          have p_aG_0 : v108.cell? ⟨v3.heap.size + 1, 0, none⟩ = some (.int .i64 an.st) := Blk.cell (HS.out.get 3 rfl) 0 rfl
          have p_aG_1 : v108.cell? ⟨v3.heap.size + 1, 1, none⟩ = some (.string ⟨an.tx.toArray⟩) := Blk.cell (HS.out.get 3 rfl) 1 rfl
          have p_vC_0 : v108.cell? ⟨v1.heap.size + 1, 0, none⟩ = some (.int .i64 r.o) := Blk.cell (HS.out.get 6 rfl) 0 rfl
          have p_vC_1 : v108.cell? ⟨v1.heap.size + 1, 1, none⟩ = some (.int .i64 r.p) := Blk.cell (HS.out.get 6 rfl) 1 rfl
          have p_vC_2 : v108.cell? ⟨v1.heap.size + 1, 2, none⟩ = some (.int .i64 r.a) := Blk.cell (HS.out.get 6 rfl) 2 rfl
          have p_vC_3 : v108.cell? ⟨v1.heap.size + 1, 3, none⟩ = some (.int .i64 r.b) := Blk.cell (HS.out.get 6 rfl) 3 rfl
          have p_vC_4 : v108.cell? ⟨v1.heap.size + 1, 4, none⟩ = some (.int .i64 r.k) := Blk.cell (HS.out.get 6 rfl) 4 rfl
          go_wp2_with fail
          clear p_aG_0 p_aG_1 p_vC_0 p_vC_1 p_vC_2 p_vC_3 p_vC_4
          refine (ir _).mono ?_
          rintro e v309 ⟨rfl, bv309⟩
          replace HS : Hid (Sta w v309 [Blk (v5.heap.size + 1) 32 #[.int .i64 an.st, .string ⟨an.tx.toArray⟩], Blk v5.heap.size 26 #[.slice aoW ks.length acW, .slice boW ns.length bcW], Dsk (.slice aoW ks.length acW) (.slice boW ns.length bcW) ks ns, Blk (v3.heap.size + 1) 32 #[.int .i64 an.st, .string ⟨an.tx.toArray⟩], Blk v3.heap.size 26 #[.slice aoG ks.length acG, .slice boG ns.length bcG], Dsk (.slice aoG ks.length acG) (.slice boG ns.length bcG) ks ns, Blk (v1.heap.size + 1) 28 #[.int .i64 r.o, .int .i64 r.p, .int .i64 r.a, .int .i64 r.b, .int .i64 r.k], Blk v1.heap.size 26 #[.slice aoD xs.length acD, .slice boD ys.length bcD], Dsk (.slice aoD xs.length acD) (.slice boD ys.length bcD) xs ys]) := HS.out.next bv309
          clear bv309
          have p_vC_0 : v309.cell? ⟨v1.heap.size + 1, 0, none⟩ = some (.int .i64 r.o) := Blk.cell (HS.out.get 6 rfl) 0 rfl
          have p_vC_1 : v309.cell? ⟨v1.heap.size + 1, 1, none⟩ = some (.int .i64 r.p) := Blk.cell (HS.out.get 6 rfl) 1 rfl
          have p_vC_2 : v309.cell? ⟨v1.heap.size + 1, 2, none⟩ = some (.int .i64 r.a) := Blk.cell (HS.out.get 6 rfl) 2 rfl
          have p_vC_3 : v309.cell? ⟨v1.heap.size + 1, 3, none⟩ = some (.int .i64 r.b) := Blk.cell (HS.out.get 6 rfl) 3 rfl
          have p_vC_4 : v309.cell? ⟨v1.heap.size + 1, 4, none⟩ = some (.int .i64 r.k) := Blk.cell (HS.out.get 6 rfl) 4 rfl
          go_upto_region 13 with fail
          clear p_vC_0 p_vC_1 p_vC_2 p_vC_3 p_vC_4
          have cl := loose_any _ _ _ _ v309 (HS.out.readsU 5 rfl) (HS.out.readsV 5 rfl) gk gn
          rw [E3.out] at cl
          have p_vG_0 : v309.cell? ⟨v3.heap.size, 0, none⟩ = some (.slice aoG ks.length acG) := Blk.cell (HS.out.get 4 rfl) 0 rfl
          have p_vG_1 : v309.cell? ⟨v3.heap.size, 1, none⟩ = some (.slice boG ns.length bcG) := Blk.cell (HS.out.get 4 rfl) 1 rfl
          go_wp2_with fail
          clear p_vG_0 p_vG_1
          refine (cl).mono ?_
          rintro e v310 ⟨rfl, bv310⟩
          replace HS : Hid (Sta w v310 [Blk (v5.heap.size + 1) 32 #[.int .i64 an.st, .string ⟨an.tx.toArray⟩], Blk v5.heap.size 26 #[.slice aoW ks.length acW, .slice boW ns.length bcW], Dsk (.slice aoW ks.length acW) (.slice boW ns.length bcW) ks ns, Blk (v3.heap.size + 1) 32 #[.int .i64 an.st, .string ⟨an.tx.toArray⟩], Blk v3.heap.size 26 #[.slice aoG ks.length acG, .slice boG ns.length bcG], Dsk (.slice aoG ks.length acG) (.slice boG ns.length bcG) ks ns, Blk (v1.heap.size + 1) 28 #[.int .i64 r.o, .int .i64 r.p, .int .i64 r.a, .int .i64 r.b, .int .i64 r.k], Blk v1.heap.size 26 #[.slice aoD xs.length acD, .slice boD ys.length bcD], Dsk (.slice aoD xs.length acD) (.slice boD ys.length bcD) xs ys]) := HS.out.next bv310
          clear bv310
          clear cl
          have p_vG_0 : v310.cell? ⟨v3.heap.size, 0, none⟩ = some (.slice aoG ks.length acG) := Blk.cell (HS.out.get 4 rfl) 0 rfl
          have p_vG_1 : v310.cell? ⟨v3.heap.size, 1, none⟩ = some (.slice boG ns.length bcG) := Blk.cell (HS.out.get 4 rfl) 1 rfl
          have p_vD_0 : v310.cell? ⟨v1.heap.size, 0, none⟩ = some (.slice aoD xs.length acD) := Blk.cell (HS.out.get 7 rfl) 0 rfl
          have p_vD_1 : v310.cell? ⟨v1.heap.size, 1, none⟩ = some (.slice boD ys.length bcD) := Blk.cell (HS.out.get 7 rfl) 1 rfl
          go_wp2_with fail
          clear p_vG_0 p_vG_1 p_vD_0 p_vD_1
          refine (like_same _ _ ns _ (HS.out.readsV 5 rfl) (by rw [E2.out]; exact (HS.out.readsV 8 rfl)) gn).mono ?_
          rintro e v311 ⟨rfl, bv311⟩
          replace HS : Hid (Sta w v311 [Blk (v5.heap.size + 1) 32 #[.int .i64 an.st, .string ⟨an.tx.toArray⟩], Blk v5.heap.size 26 #[.slice aoW ks.length acW, .slice boW ns.length bcW], Dsk (.slice aoW ks.length acW) (.slice boW ns.length bcW) ks ns, Blk (v3.heap.size + 1) 32 #[.int .i64 an.st, .string ⟨an.tx.toArray⟩], Blk v3.heap.size 26 #[.slice aoG ks.length acG, .slice boG ns.length bcG], Dsk (.slice aoG ks.length acG) (.slice boG ns.length bcG) ks ns, Blk (v1.heap.size + 1) 28 #[.int .i64 r.o, .int .i64 r.p, .int .i64 r.a, .int .i64 r.b, .int .i64 r.k], Blk v1.heap.size 26 #[.slice aoD xs.length acD, .slice boD ys.length bcD], Dsk (.slice aoD xs.length acD) (.slice boD ys.length bcD) xs ys]) := HS.out.next bv311
          clear bv311
          have HB : Hid (Below w.heap.size w _) := HS.out.below
          clear HS
          go_wp2
          go_ret
          exact ⟨rfl, HB.out⟩
        · have hzb : 0 ≤ z ∧ z ≤ 9999 := by simpa [valOk] using hv
          have hko := put_ok HKB.out.symm hjl hv
          have hrp := read_put HKB.out.symm hjl hv
          have hwp := without_put HKB.out.symm hjl hv
          rw [← e2] at hko hwp
          rw [← e2, ← e1] at hrp
          rw [← e1] at hko
          have E1 : Hid (ks = xs) := e1
          have C2 : Hid (∀ wx a b, Reads wx a ks → Reads wx b ns → Tab wx → _) := fun wx a b h h' t => iDidDisk_any a b ks ns ⟨1, j, 0, 0, 0⟩ wx h h' gk gn t
          rw [hrp] at C2
          have CK : Hid (∀ wx a b, Reads wx a ks → Reads wx b ns → _) := fun wx a b h h' => sdiskOk_any a b ks ns wx h h' gk gn
          rw [hko] at CK
          have CDf : Hid (∀ wx a b, Reads wx a ns → Reads wx b ys → _) := fun wx a b h h' => sdifferB_any a b ns ys wx h h' gn gy
          obtain ⟨dv, hdv⟩ : ∃ dv, dv = differI ns ys := ⟨_, rfl⟩
          rw [← hdv] at hwp CDf
          have CWo : Hid (∀ wx, _) := fun wx => swithout_any dv j wx
          rw [hwp] at CWo
          have CDg : Hid (∀ wx, _) := fun wx => ldigits_any z wx hzb.1 (by omega)
          obtain ⟨dt, hdt⟩ : ∃ dt, dt = decI z := ⟨_, rfl⟩
          rw [← hdt] at C2 CDg
          unfold CV cmA AV anA S at C2
          unfold S at CDg
          dsimp only at C2
          clear hrp hko hwp hdv hdt e1 e2 hv hzb
          have hsb : (an.st != 0) = false := by simpa using h1
          have h5b : (r.o == 5) = false := by simpa using h5
          clear h1 h5
          obtain ⟨ro, rp, ra, rB, rk⟩ := r
          dsimp only at hj h3 h4 h5b ir
          subst hj
          replace HS : Hid (Sta w v108 [Blk (v5.heap.size + 1) 32 #[.int .i64 an.st, .string ⟨an.tx.toArray⟩], Blk v5.heap.size 26 #[.slice aoW ks.length acW, .slice boW ns.length bcW], Dsk (.slice aoW ks.length acW) (.slice boW ns.length bcW) ks ns, Blk (v3.heap.size + 1) 32 #[.int .i64 an.st, .string ⟨an.tx.toArray⟩], Blk v3.heap.size 26 #[.slice aoG ks.length acG, .slice boG ns.length bcG], Dsk (.slice aoG ks.length acG) (.slice boG ns.length bcG) ks ns, Blk (v1.heap.size + 1) 28 #[.int .i64 ro, .int .i64 (j : Int), .int .i64 ra, .int .i64 rB, .int .i64 rk], Blk v1.heap.size 26 #[.slice aoD xs.length acD, .slice boD ys.length bcD], Dsk (.slice aoD xs.length acD) (.slice boD ys.length bcD) xs ys]) := HS
          go_upto_region 10 with fail
          have p_aG_0 : v108.cell? ⟨v3.heap.size + 1, 0, none⟩ = some (.int .i64 an.st) := Blk.cell (HS.out.get 3 rfl) 0 rfl
          have p_aG_1 : v108.cell? ⟨v3.heap.size + 1, 1, none⟩ = some (.string ⟨an.tx.toArray⟩) := Blk.cell (HS.out.get 3 rfl) 1 rfl
          have p_vC_0 : v108.cell? ⟨v1.heap.size + 1, 0, none⟩ = some (.int .i64 ro) := Blk.cell (HS.out.get 6 rfl) 0 rfl
          have p_vC_1 : v108.cell? ⟨v1.heap.size + 1, 1, none⟩ = some (.int .i64 (j : Int)) := Blk.cell (HS.out.get 6 rfl) 1 rfl
          have p_vC_2 : v108.cell? ⟨v1.heap.size + 1, 2, none⟩ = some (.int .i64 ra) := Blk.cell (HS.out.get 6 rfl) 2 rfl
          have p_vC_3 : v108.cell? ⟨v1.heap.size + 1, 3, none⟩ = some (.int .i64 rB) := Blk.cell (HS.out.get 6 rfl) 3 rfl
          have p_vC_4 : v108.cell? ⟨v1.heap.size + 1, 4, none⟩ = some (.int .i64 rk) := Blk.cell (HS.out.get 6 rfl) 4 rfl
          go_wp2_with fail
          clear p_aG_0 p_aG_1 p_vC_0 p_vC_1 p_vC_2 p_vC_3 p_vC_4
          refine (ir _).mono ?_
          rintro e v309 ⟨rfl, bv309⟩
          replace HS : Hid (Sta w v309 [Blk (v5.heap.size + 1) 32 #[.int .i64 an.st, .string ⟨an.tx.toArray⟩], Blk v5.heap.size 26 #[.slice aoW ks.length acW, .slice boW ns.length bcW], Dsk (.slice aoW ks.length acW) (.slice boW ns.length bcW) ks ns, Blk (v3.heap.size + 1) 32 #[.int .i64 an.st, .string ⟨an.tx.toArray⟩], Blk v3.heap.size 26 #[.slice aoG ks.length acG, .slice boG ns.length bcG], Dsk (.slice aoG ks.length acG) (.slice boG ns.length bcG) ks ns, Blk (v1.heap.size + 1) 28 #[.int .i64 ro, .int .i64 (j : Int), .int .i64 ra, .int .i64 rB, .int .i64 rk], Blk v1.heap.size 26 #[.slice aoD xs.length acD, .slice boD ys.length bcD], Dsk (.slice aoD xs.length acD) (.slice boD ys.length bcD) xs ys]) := HS.out.next bv309
          clear bv309
          have p_vC_0 : v309.cell? ⟨v1.heap.size + 1, 0, none⟩ = some (.int .i64 ro) := Blk.cell (HS.out.get 6 rfl) 0 rfl
          have p_vC_1 : v309.cell? ⟨v1.heap.size + 1, 1, none⟩ = some (.int .i64 (j : Int)) := Blk.cell (HS.out.get 6 rfl) 1 rfl
          have p_vC_2 : v309.cell? ⟨v1.heap.size + 1, 2, none⟩ = some (.int .i64 ra) := Blk.cell (HS.out.get 6 rfl) 2 rfl
          have p_vC_3 : v309.cell? ⟨v1.heap.size + 1, 3, none⟩ = some (.int .i64 rB) := Blk.cell (HS.out.get 6 rfl) 3 rfl
          have p_vC_4 : v309.cell? ⟨v1.heap.size + 1, 4, none⟩ = some (.int .i64 rk) := Blk.cell (HS.out.get 6 rfl) 4 rfl
          go_upto_region 15 with fail
          clear p_vC_0 p_vC_1 p_vC_2 p_vC_3 p_vC_4
          by_cases ho : ro = 3
          · have h3b : (ro == 3) = true := by simpa using ho
            obtain ⟨hz, ha⟩ := h3 ho
            subst hz
            clear ho h3 h4
            obtain ⟨-, -, -, hcv⟩ := reads_cells (HS.out.readsV 8 rfl)
            obtain ⟨bb, bf, rfl, hcell⟩ := hcv j (by omega)
            rw [ha] at hcell
            clear hcv ha
            have e_ra : (ra != ra) = false := by simp
            have p_vC_0 : v309.cell? ⟨v1.heap.size + 1, 0, none⟩ = some (.int .i64 ro) := Blk.cell (HS.out.get 6 rfl) 0 rfl
            have p_vC_1 : v309.cell? ⟨v1.heap.size + 1, 1, none⟩ = some (.int .i64 (j : Int)) := Blk.cell (HS.out.get 6 rfl) 1 rfl
            have p_vC_2 : v309.cell? ⟨v1.heap.size + 1, 2, none⟩ = some (.int .i64 ra) := Blk.cell (HS.out.get 6 rfl) 2 rfl
            have p_vC_3 : v309.cell? ⟨v1.heap.size + 1, 3, none⟩ = some (.int .i64 z) := Blk.cell (HS.out.get 6 rfl) 3 rfl
            have p_vC_4 : v309.cell? ⟨v1.heap.size + 1, 4, none⟩ = some (.int .i64 rk) := Blk.cell (HS.out.get 6 rfl) 4 rfl
            go_upto_region 17 with fail
            have p_vD_0 : v309.cell? ⟨v1.heap.size, 0, none⟩ = some (.slice aoD xs.length acD) := Blk.cell (HS.out.get 7 rfl) 0 rfl
            have p_vD_1 : v309.cell? ⟨v1.heap.size, 1, none⟩ = some (.slice (some ⟨bb, bf, none⟩) ys.length bcD) := Blk.cell (HS.out.get 7 rfl) 1 rfl
            go_quiet (fail)
            obtain ⟨v410, hv410⟩ : ∃ v410, v410 = v309.drewN nq := ⟨_, rfl⟩
            rw [← hv410]
            replace HS := HS.out.drew hv410
            replace HS : Hid (Sta w v410 [Blk (v5.heap.size + 1) 32 #[.int .i64 an.st, .string ⟨an.tx.toArray⟩], Blk v5.heap.size 26 #[.slice aoW ks.length acW, .slice boW ns.length bcW], Dsk (.slice aoW ks.length acW) (.slice boW ns.length bcW) ks ns, Blk (v3.heap.size + 1) 32 #[.int .i64 an.st, .string ⟨an.tx.toArray⟩], Blk v3.heap.size 26 #[.slice aoG ks.length acG, .slice boG ns.length bcG], Dsk (.slice aoG ks.length acG) (.slice boG ns.length bcG) ks ns, Blk (v1.heap.size + 1) 28 #[.int .i64 ro, .int .i64 (j : Int), .int .i64 ra, .int .i64 z, .int .i64 rk], Blk v1.heap.size 26 #[.slice aoD xs.length acD, .slice (some ⟨bb, bf, none⟩) ys.length bcD], Dsk (.slice aoD xs.length acD) (.slice (some ⟨bb, bf, none⟩) ys.length bcD) xs ys]) := HS
            clear hv410 hcell
            clear p_vC_0 p_vC_1 p_vC_2 p_vC_3 p_vC_4 p_vD_0 p_vD_1
            go_upto_region 19 with fail
            have p_vG_0 : v410.cell? ⟨v3.heap.size, 0, none⟩ = some (.slice aoG ks.length acG) := Blk.cell (HS.out.get 4 rfl) 0 rfl
            have p_vG_1 : v410.cell? ⟨v3.heap.size, 1, none⟩ = some (.slice boG ns.length bcG) := Blk.cell (HS.out.get 4 rfl) 1 rfl
            have p_vC_0 : v410.cell? ⟨v1.heap.size + 1, 0, none⟩ = some (.int .i64 ro) := Blk.cell (HS.out.get 6 rfl) 0 rfl
            have p_vC_1 : v410.cell? ⟨v1.heap.size + 1, 1, none⟩ = some (.int .i64 (j : Int)) := Blk.cell (HS.out.get 6 rfl) 1 rfl
            have p_vC_2 : v410.cell? ⟨v1.heap.size + 1, 2, none⟩ = some (.int .i64 ra) := Blk.cell (HS.out.get 6 rfl) 2 rfl
            have p_vC_3 : v410.cell? ⟨v1.heap.size + 1, 3, none⟩ = some (.int .i64 z) := Blk.cell (HS.out.get 6 rfl) 3 rfl
            have p_vC_4 : v410.cell? ⟨v1.heap.size + 1, 4, none⟩ = some (.int .i64 rk) := Blk.cell (HS.out.get 6 rfl) 4 rfl
            go_wp2_with fail
            clear p_vG_0 p_vG_1 p_vC_0 p_vC_1 p_vC_2 p_vC_3 p_vC_4
            refine (C2.out _ _ _ (HS.out.readsU 5 rfl) (HS.out.readsV 5 rfl) (HP.out.below HS.out.below)).mono ?_
            rintro e v411 ⟨aH, bH, rfl, ov411, bv411⟩
            obtain ⟨aoH, acH, rfl⟩ := ov411.1.reads.form
            obtain ⟨boH, bcH, rfl⟩ := ov411.2.1.reads.form
            replace HS : Hid (Sta w v411 [Dsk (.slice aoH ks.length acH) (.slice boH ns.length bcH) ks ns, Blk (v5.heap.size + 1) 32 #[.int .i64 an.st, .string ⟨an.tx.toArray⟩], Blk v5.heap.size 26 #[.slice aoW ks.length acW, .slice boW ns.length bcW], Dsk (.slice aoW ks.length acW) (.slice boW ns.length bcW) ks ns, Blk (v3.heap.size + 1) 32 #[.int .i64 an.st, .string ⟨an.tx.toArray⟩], Blk v3.heap.size 26 #[.slice aoG ks.length acG, .slice boG ns.length bcG], Dsk (.slice aoG ks.length acG) (.slice boG ns.length bcG) ks ns, Blk (v1.heap.size + 1) 28 #[.int .i64 ro, .int .i64 (j : Int), .int .i64 ra, .int .i64 z, .int .i64 rk], Blk v1.heap.size 26 #[.slice aoD xs.length acD, .slice (some ⟨bb, bf, none⟩) ys.length bcD], Dsk (.slice aoD xs.length acD) (.slice (some ⟨bb, bf, none⟩) ys.length bcD) xs ys]) := HS.out.disk ov411 bv411
            clear ov411 bv411
            obtain ⟨v412, hv412⟩ : ∃ v412, v412 = (v411.alloc (.cells #[.slice aoH ks.length acH, .slice boH ns.length bcH] 26)).alloc (.cells #[.int .i64 0, .string ⟨dt.toArray⟩] 32) := ⟨_, rfl⟩
            have hsv412 := (HS.out.box 26 #[.slice aoH ks.length acH, .slice boH ns.length bcH]).box 32 #[.int .i64 0, .string ⟨dt.toArray⟩]
            rw [World.size_alloc, ← hv412] at hsv412
            replace HS : Hid (Sta w v412 [Blk (v411.heap.size + 1) 32 #[.int .i64 0, .string ⟨dt.toArray⟩], Blk v411.heap.size 26 #[.slice aoH ks.length acH, .slice boH ns.length bcH], Dsk (.slice aoH ks.length acH) (.slice boH ns.length bcH) ks ns, Blk (v5.heap.size + 1) 32 #[.int .i64 an.st, .string ⟨an.tx.toArray⟩], Blk v5.heap.size 26 #[.slice aoW ks.length acW, .slice boW ns.length bcW], Dsk (.slice aoW ks.length acW) (.slice boW ns.length bcW) ks ns, Blk (v3.heap.size + 1) 32 #[.int .i64 an.st, .string ⟨an.tx.toArray⟩], Blk v3.heap.size 26 #[.slice aoG ks.length acG, .slice boG ns.length bcG], Dsk (.slice aoG ks.length acG) (.slice boG ns.length bcG) ks ns, Blk (v1.heap.size + 1) 28 #[.int .i64 ro, .int .i64 (j : Int), .int .i64 ra, .int .i64 z, .int .i64 rk], Blk v1.heap.size 26 #[.slice aoD xs.length acD, .slice (some ⟨bb, bf, none⟩) ys.length bcD], Dsk (.slice aoD xs.length acD) (.slice (some ⟨bb, bf, none⟩) ys.length bcD) xs ys]) := hsv412
            go_upto_region 20 with fail
            rw [← hv412]
            clear hv412 hsv412
            have e_dt : (dt == dt) = true := by simp
            have cks := fun wx a b h h' => CK.out wx a b h h'
            have cdf := fun wx a b h h' => CDf.out wx a b h h'
            have cwo := fun wx => CWo.out wx
            have cdg := fun wx => CDg.out wx
            clear C2 CK CDf CWo CDg
            go_upto_region 20 with fail
            obtain ⟨p, hp⟩ : ∃ p, p = fun x => Sta w x [Blk (v411.heap.size + 1) 32 #[.int .i64 0, .string ⟨dt.toArray⟩], Blk v411.heap.size 26 #[.slice aoH ks.length acH, .slice boH ns.length bcH], Dsk (.slice aoH ks.length acH) (.slice boH ns.length bcH) ks ns, Blk (v5.heap.size + 1) 32 #[.int .i64 an.st, .string ⟨an.tx.toArray⟩], Blk v5.heap.size 26 #[.slice aoW ks.length acW, .slice boW ns.length bcW], Dsk (.slice aoW ks.length acW) (.slice boW ns.length bcW) ks ns, Blk (v3.heap.size + 1) 32 #[.int .i64 an.st, .string ⟨an.tx.toArray⟩], Blk v3.heap.size 26 #[.slice aoG ks.length acG, .slice boG ns.length bcG], Dsk (.slice aoG ks.length acG) (.slice boG ns.length bcG) ks ns, Blk (v1.heap.size + 1) 28 #[.int .i64 ro, .int .i64 (j : Int), .int .i64 ra, .int .i64 z, .int .i64 rk], Blk v1.heap.size 26 #[.slice aoD xs.length acD, .slice (some ⟨bb, bf, none⟩) ys.length bcD], Dsk (.slice aoD xs.length acD) (.slice (some ⟨bb, bf, none⟩) ys.length bcD) xs ys] := ⟨_, rfl⟩
            have HQ : Hid (∀ x, p x → Sta w x [Blk (v411.heap.size + 1) 32 #[.int .i64 0, .string ⟨dt.toArray⟩], Blk v411.heap.size 26 #[.slice aoH ks.length acH, .slice boH ns.length bcH], Dsk (.slice aoH ks.length acH) (.slice boH ns.length bcH) ks ns, Blk (v5.heap.size + 1) 32 #[.int .i64 an.st, .string ⟨an.tx.toArray⟩], Blk v5.heap.size 26 #[.slice aoW ks.length acW, .slice boW ns.length bcW], Dsk (.slice aoW ks.length acW) (.slice boW ns.length bcW) ks ns, Blk (v3.heap.size + 1) 32 #[.int .i64 an.st, .string ⟨an.tx.toArray⟩], Blk v3.heap.size 26 #[.slice aoG ks.length acG, .slice boG ns.length bcG], Dsk (.slice aoG ks.length acG) (.slice boG ns.length bcG) ks ns, Blk (v1.heap.size + 1) 28 #[.int .i64 ro, .int .i64 (j : Int), .int .i64 ra, .int .i64 z, .int .i64 rk], Blk v1.heap.size 26 #[.slice aoD xs.length acD, .slice (some ⟨bb, bf, none⟩) ys.length bcD], Dsk (.slice aoD xs.length acD) (.slice (some ⟨bb, bf, none⟩) ys.length bcD) xs ys]) := by rw [hp]; exact fun _ h => h
            have HN : Hid (∀ x w', p x → Below x.heap.size x w' → p w') := by rw [hp]; exact fun _ _ h b => h.next b
            have H0 : Hid (p v412.drew) := by rw [hp]; exact HS.out.drew1
            have hne : Nonempty (Kin p) := ⟨⟨_, H0.out⟩⟩
            have m_vG_0 : ∀ q : Kin p, q.x.cell? ⟨v3.heap.size, 0, none⟩ = some (.slice aoG ks.length acG) := fun q => Blk.cell ((HQ.out _ q.h).get 7 rfl) 0 rfl
            have m_vG_1 : ∀ q : Kin p, q.x.cell? ⟨v3.heap.size, 1, none⟩ = some (.slice boG ns.length bcG) := fun q => Blk.cell ((HQ.out _ q.h).get 7 rfl) 1 rfl
            have m_vD_0 : ∀ q : Kin p, q.x.cell? ⟨v1.heap.size, 0, none⟩ = some (.slice aoD xs.length acD) := fun q => Blk.cell ((HQ.out _ q.h).get 10 rfl) 0 rfl
            have m_vD_1 : ∀ q : Kin p, q.x.cell? ⟨v1.heap.size, 1, none⟩ = some (.slice (some ⟨bb, bf, none⟩) ys.length bcD) := fun q => Blk.cell ((HQ.out _ q.h).get 10 rfl) 1 rfl
            have m_aH_0 : ∀ q : Kin p, q.x.cell? ⟨v411.heap.size + 1, 0, none⟩ = some (.int .i64 0) := fun q => Blk.cell ((HQ.out _ q.h).get 0 rfl) 0 rfl
            have m_aH_1 : ∀ q : Kin p, q.x.cell? ⟨v411.heap.size + 1, 1, none⟩ = some (.string ⟨dt.toArray⟩) := fun q => Blk.cell ((HQ.out _ q.h).get 0 rfl) 1 rfl
            have m_vC_0 : ∀ q : Kin p, q.x.cell? ⟨v1.heap.size + 1, 0, none⟩ = some (.int .i64 ro) := fun q => Blk.cell ((HQ.out _ q.h).get 9 rfl) 0 rfl
            have m_vC_1 : ∀ q : Kin p, q.x.cell? ⟨v1.heap.size + 1, 1, none⟩ = some (.int .i64 (j : Int)) := fun q => Blk.cell ((HQ.out _ q.h).get 9 rfl) 1 rfl
            have m_vC_2 : ∀ q : Kin p, q.x.cell? ⟨v1.heap.size + 1, 2, none⟩ = some (.int .i64 ra) := fun q => Blk.cell ((HQ.out _ q.h).get 9 rfl) 2 rfl
            have m_vC_3 : ∀ q : Kin p, q.x.cell? ⟨v1.heap.size + 1, 3, none⟩ = some (.int .i64 z) := fun q => Blk.cell ((HQ.out _ q.h).get 9 rfl) 3 rfl
            have m_vC_4 : ∀ q : Kin p, q.x.cell? ⟨v1.heap.size + 1, 4, none⟩ = some (.int .i64 rk) := fun q => Blk.cell ((HQ.out _ q.h).get 9 rfl) 4 rfl
            clear hp HS
            refine wp_region_kin p (by kernel_rfl) (by kernel_rfl) H0.out ?_
            repeat (quiet_step (first
              | (go_at_call 14; exact Kin.call (cks _ _ _ ((HQ.out _ (Kin.h _)).readsU 8 rfl) ((HQ.out _ (Kin.h _)).readsV 8 rfl)) HN.out)
              | (go_at_call 16; exact Kin.call (like_same _ _ ks _ ((HQ.out _ (Kin.h _)).readsU 8 rfl) (by rw [E1.out]; exact ((HQ.out _ (Kin.h _)).readsU 11 rfl)) gk) HN.out)
              | (go_at_call 19; exact Kin.call (cdf _ _ _ ((HQ.out _ (Kin.h _)).readsV 8 rfl) ((HQ.out _ (Kin.h _)).readsV 11 rfl)) HN.out)
              | (go_at_call 18; exact Kin.same (cwo _))
              | (go_at_call 17; exact Kin.call (cdg _) HN.out)))
            refine wpQuiet_nil ?_
            intro ak hk'
            have HS : Hid (Sta w ak [Blk (v411.heap.size + 1) 32 #[.int .i64 0, .string ⟨dt.toArray⟩], Blk v411.heap.size 26 #[.slice aoH ks.length acH, .slice boH ns.length bcH], Dsk (.slice aoH ks.length acH) (.slice boH ns.length bcH) ks ns, Blk (v5.heap.size + 1) 32 #[.int .i64 an.st, .string ⟨an.tx.toArray⟩], Blk v5.heap.size 26 #[.slice aoW ks.length acW, .slice boW ns.length bcW], Dsk (.slice aoW ks.length acW) (.slice boW ns.length bcW) ks ns, Blk (v3.heap.size + 1) 32 #[.int .i64 an.st, .string ⟨an.tx.toArray⟩], Blk v3.heap.size 26 #[.slice aoG ks.length acG, .slice boG ns.length bcG], Dsk (.slice aoG ks.length acG) (.slice boG ns.length bcG) ks ns, Blk (v1.heap.size + 1) 28 #[.int .i64 ro, .int .i64 (j : Int), .int .i64 ra, .int .i64 z, .int .i64 rk], Blk v1.heap.size 26 #[.slice aoD xs.length acD, .slice (some ⟨bb, bf, none⟩) ys.length bcD], Dsk (.slice aoD xs.length acD) (.slice (some ⟨bb, bf, none⟩) ys.length bcD) xs ys]) := by { obtain ⟨q, rfl⟩ := hk'; exact HQ.out _ q.h }
            clear hk' HQ HN H0 hne m_vG_0 m_vG_1 m_vD_0 m_vD_1 m_aH_0 m_aH_1 m_vC_0 m_vC_1 m_vC_2 m_vC_3 m_vC_4
            obtain ⟨v413, hv413⟩ : ∃ v413, v413 = ak := ⟨_, rfl⟩
            rw [← hv413] at HS ⊢
            clear hv413
            have HB : Hid (Below w.heap.size w _) := HS.out.below
            clear HS
            go_wp2
            go_ret
            exact ⟨rfl, HB.out⟩
          · have h3b : (ro == 3) = false := by simpa using ho
            have hz := h4 ho
            subst hz
            clear ho h3 h4
            have p_vC_0 : v309.cell? ⟨v1.heap.size + 1, 0, none⟩ = some (.int .i64 ro) := Blk.cell (HS.out.get 6 rfl) 0 rfl
            have p_vC_1 : v309.cell? ⟨v1.heap.size + 1, 1, none⟩ = some (.int .i64 (j : Int)) := Blk.cell (HS.out.get 6 rfl) 1 rfl
            have p_vC_2 : v309.cell? ⟨v1.heap.size + 1, 2, none⟩ = some (.int .i64 z) := Blk.cell (HS.out.get 6 rfl) 2 rfl
            have p_vC_3 : v309.cell? ⟨v1.heap.size + 1, 3, none⟩ = some (.int .i64 rB) := Blk.cell (HS.out.get 6 rfl) 3 rfl
            have p_vC_4 : v309.cell? ⟨v1.heap.size + 1, 4, none⟩ = some (.int .i64 rk) := Blk.cell (HS.out.get 6 rfl) 4 rfl
            go_upto_region 19 with fail
            clear p_vC_0 p_vC_1 p_vC_2 p_vC_3 p_vC_4
            have p_vG_0 : v309.cell? ⟨v3.heap.size, 0, none⟩ = some (.slice aoG ks.length acG) := Blk.cell (HS.out.get 4 rfl) 0 rfl
            have p_vG_1 : v309.cell? ⟨v3.heap.size, 1, none⟩ = some (.slice boG ns.length bcG) := Blk.cell (HS.out.get 4 rfl) 1 rfl
            have p_vC_0 : v309.cell? ⟨v1.heap.size + 1, 0, none⟩ = some (.int .i64 ro) := Blk.cell (HS.out.get 6 rfl) 0 rfl
            have p_vC_1 : v309.cell? ⟨v1.heap.size + 1, 1, none⟩ = some (.int .i64 (j : Int)) := Blk.cell (HS.out.get 6 rfl) 1 rfl
            have p_vC_2 : v309.cell? ⟨v1.heap.size + 1, 2, none⟩ = some (.int .i64 z) := Blk.cell (HS.out.get 6 rfl) 2 rfl
            have p_vC_3 : v309.cell? ⟨v1.heap.size + 1, 3, none⟩ = some (.int .i64 rB) := Blk.cell (HS.out.get 6 rfl) 3 rfl
            have p_vC_4 : v309.cell? ⟨v1.heap.size + 1, 4, none⟩ = some (.int .i64 rk) := Blk.cell (HS.out.get 6 rfl) 4 rfl
            go_wp2_with fail
            clear p_vG_0 p_vG_1 p_vC_0 p_vC_1 p_vC_2 p_vC_3 p_vC_4
            refine (C2.out _ _ _ (HS.out.readsU 5 rfl) (HS.out.readsV 5 rfl) (HP.out.below HS.out.below)).mono ?_
            rintro e v410 ⟨aH, bH, rfl, ov410, bv410⟩
            obtain ⟨aoH, acH, rfl⟩ := ov410.1.reads.form
            obtain ⟨boH, bcH, rfl⟩ := ov410.2.1.reads.form
            replace HS : Hid (Sta w v410 [Dsk (.slice aoH ks.length acH) (.slice boH ns.length bcH) ks ns, Blk (v5.heap.size + 1) 32 #[.int .i64 an.st, .string ⟨an.tx.toArray⟩], Blk v5.heap.size 26 #[.slice aoW ks.length acW, .slice boW ns.length bcW], Dsk (.slice aoW ks.length acW) (.slice boW ns.length bcW) ks ns, Blk (v3.heap.size + 1) 32 #[.int .i64 an.st, .string ⟨an.tx.toArray⟩], Blk v3.heap.size 26 #[.slice aoG ks.length acG, .slice boG ns.length bcG], Dsk (.slice aoG ks.length acG) (.slice boG ns.length bcG) ks ns, Blk (v1.heap.size + 1) 28 #[.int .i64 ro, .int .i64 (j : Int), .int .i64 z, .int .i64 rB, .int .i64 rk], Blk v1.heap.size 26 #[.slice aoD xs.length acD, .slice boD ys.length bcD], Dsk (.slice aoD xs.length acD) (.slice boD ys.length bcD) xs ys]) := HS.out.disk ov410 bv410
            clear ov410 bv410
            obtain ⟨v411, hv411⟩ : ∃ v411, v411 = (v410.alloc (.cells #[.slice aoH ks.length acH, .slice boH ns.length bcH] 26)).alloc (.cells #[.int .i64 0, .string ⟨dt.toArray⟩] 32) := ⟨_, rfl⟩
            have hsv411 := (HS.out.box 26 #[.slice aoH ks.length acH, .slice boH ns.length bcH]).box 32 #[.int .i64 0, .string ⟨dt.toArray⟩]
            rw [World.size_alloc, ← hv411] at hsv411
            replace HS : Hid (Sta w v411 [Blk (v410.heap.size + 1) 32 #[.int .i64 0, .string ⟨dt.toArray⟩], Blk v410.heap.size 26 #[.slice aoH ks.length acH, .slice boH ns.length bcH], Dsk (.slice aoH ks.length acH) (.slice boH ns.length bcH) ks ns, Blk (v5.heap.size + 1) 32 #[.int .i64 an.st, .string ⟨an.tx.toArray⟩], Blk v5.heap.size 26 #[.slice aoW ks.length acW, .slice boW ns.length bcW], Dsk (.slice aoW ks.length acW) (.slice boW ns.length bcW) ks ns, Blk (v3.heap.size + 1) 32 #[.int .i64 an.st, .string ⟨an.tx.toArray⟩], Blk v3.heap.size 26 #[.slice aoG ks.length acG, .slice boG ns.length bcG], Dsk (.slice aoG ks.length acG) (.slice boG ns.length bcG) ks ns, Blk (v1.heap.size + 1) 28 #[.int .i64 ro, .int .i64 (j : Int), .int .i64 z, .int .i64 rB, .int .i64 rk], Blk v1.heap.size 26 #[.slice aoD xs.length acD, .slice boD ys.length bcD], Dsk (.slice aoD xs.length acD) (.slice boD ys.length bcD) xs ys]) := hsv411
            go_upto_region 20 with fail
            rw [← hv411]
            clear hv411 hsv411
            have e_dt : (dt == dt) = true := by simp
            have cks := fun wx a b h h' => CK.out wx a b h h'
            have cdf := fun wx a b h h' => CDf.out wx a b h h'
            have cwo := fun wx => CWo.out wx
            have cdg := fun wx => CDg.out wx
            clear C2 CK CDf CWo CDg
            go_upto_region 20 with fail
            obtain ⟨p, hp⟩ : ∃ p, p = fun x => Sta w x [Blk (v410.heap.size + 1) 32 #[.int .i64 0, .string ⟨dt.toArray⟩], Blk v410.heap.size 26 #[.slice aoH ks.length acH, .slice boH ns.length bcH], Dsk (.slice aoH ks.length acH) (.slice boH ns.length bcH) ks ns, Blk (v5.heap.size + 1) 32 #[.int .i64 an.st, .string ⟨an.tx.toArray⟩], Blk v5.heap.size 26 #[.slice aoW ks.length acW, .slice boW ns.length bcW], Dsk (.slice aoW ks.length acW) (.slice boW ns.length bcW) ks ns, Blk (v3.heap.size + 1) 32 #[.int .i64 an.st, .string ⟨an.tx.toArray⟩], Blk v3.heap.size 26 #[.slice aoG ks.length acG, .slice boG ns.length bcG], Dsk (.slice aoG ks.length acG) (.slice boG ns.length bcG) ks ns, Blk (v1.heap.size + 1) 28 #[.int .i64 ro, .int .i64 (j : Int), .int .i64 z, .int .i64 rB, .int .i64 rk], Blk v1.heap.size 26 #[.slice aoD xs.length acD, .slice boD ys.length bcD], Dsk (.slice aoD xs.length acD) (.slice boD ys.length bcD) xs ys] := ⟨_, rfl⟩
            have HQ : Hid (∀ x, p x → Sta w x [Blk (v410.heap.size + 1) 32 #[.int .i64 0, .string ⟨dt.toArray⟩], Blk v410.heap.size 26 #[.slice aoH ks.length acH, .slice boH ns.length bcH], Dsk (.slice aoH ks.length acH) (.slice boH ns.length bcH) ks ns, Blk (v5.heap.size + 1) 32 #[.int .i64 an.st, .string ⟨an.tx.toArray⟩], Blk v5.heap.size 26 #[.slice aoW ks.length acW, .slice boW ns.length bcW], Dsk (.slice aoW ks.length acW) (.slice boW ns.length bcW) ks ns, Blk (v3.heap.size + 1) 32 #[.int .i64 an.st, .string ⟨an.tx.toArray⟩], Blk v3.heap.size 26 #[.slice aoG ks.length acG, .slice boG ns.length bcG], Dsk (.slice aoG ks.length acG) (.slice boG ns.length bcG) ks ns, Blk (v1.heap.size + 1) 28 #[.int .i64 ro, .int .i64 (j : Int), .int .i64 z, .int .i64 rB, .int .i64 rk], Blk v1.heap.size 26 #[.slice aoD xs.length acD, .slice boD ys.length bcD], Dsk (.slice aoD xs.length acD) (.slice boD ys.length bcD) xs ys]) := by rw [hp]; exact fun _ h => h
            have HN : Hid (∀ x w', p x → Below x.heap.size x w' → p w') := by rw [hp]; exact fun _ _ h b => h.next b
            have H0 : Hid (p v411.drew) := by rw [hp]; exact HS.out.drew1
            have hne : Nonempty (Kin p) := ⟨⟨_, H0.out⟩⟩
            have m_vG_0 : ∀ q : Kin p, q.x.cell? ⟨v3.heap.size, 0, none⟩ = some (.slice aoG ks.length acG) := fun q => Blk.cell ((HQ.out _ q.h).get 7 rfl) 0 rfl
            have m_vG_1 : ∀ q : Kin p, q.x.cell? ⟨v3.heap.size, 1, none⟩ = some (.slice boG ns.length bcG) := fun q => Blk.cell ((HQ.out _ q.h).get 7 rfl) 1 rfl
            have m_vD_0 : ∀ q : Kin p, q.x.cell? ⟨v1.heap.size, 0, none⟩ = some (.slice aoD xs.length acD) := fun q => Blk.cell ((HQ.out _ q.h).get 10 rfl) 0 rfl
            have m_vD_1 : ∀ q : Kin p, q.x.cell? ⟨v1.heap.size, 1, none⟩ = some (.slice boD ys.length bcD) := fun q => Blk.cell ((HQ.out _ q.h).get 10 rfl) 1 rfl
            have m_aH_0 : ∀ q : Kin p, q.x.cell? ⟨v410.heap.size + 1, 0, none⟩ = some (.int .i64 0) := fun q => Blk.cell ((HQ.out _ q.h).get 0 rfl) 0 rfl
            have m_aH_1 : ∀ q : Kin p, q.x.cell? ⟨v410.heap.size + 1, 1, none⟩ = some (.string ⟨dt.toArray⟩) := fun q => Blk.cell ((HQ.out _ q.h).get 0 rfl) 1 rfl
            have m_vC_0 : ∀ q : Kin p, q.x.cell? ⟨v1.heap.size + 1, 0, none⟩ = some (.int .i64 ro) := fun q => Blk.cell ((HQ.out _ q.h).get 9 rfl) 0 rfl
            have m_vC_1 : ∀ q : Kin p, q.x.cell? ⟨v1.heap.size + 1, 1, none⟩ = some (.int .i64 (j : Int)) := fun q => Blk.cell ((HQ.out _ q.h).get 9 rfl) 1 rfl
            have m_vC_2 : ∀ q : Kin p, q.x.cell? ⟨v1.heap.size + 1, 2, none⟩ = some (.int .i64 z) := fun q => Blk.cell ((HQ.out _ q.h).get 9 rfl) 2 rfl
            have m_vC_3 : ∀ q : Kin p, q.x.cell? ⟨v1.heap.size + 1, 3, none⟩ = some (.int .i64 rB) := fun q => Blk.cell ((HQ.out _ q.h).get 9 rfl) 3 rfl
            have m_vC_4 : ∀ q : Kin p, q.x.cell? ⟨v1.heap.size + 1, 4, none⟩ = some (.int .i64 rk) := fun q => Blk.cell ((HQ.out _ q.h).get 9 rfl) 4 rfl
            clear hp HS
            refine wp_region_kin p (by kernel_rfl) (by kernel_rfl) H0.out ?_
            repeat (quiet_step (first
              | (go_at_call 14; exact Kin.call (cks _ _ _ ((HQ.out _ (Kin.h _)).readsU 8 rfl) ((HQ.out _ (Kin.h _)).readsV 8 rfl)) HN.out)
              | (go_at_call 16; exact Kin.call (like_same _ _ ks _ ((HQ.out _ (Kin.h _)).readsU 8 rfl) (by rw [E1.out]; exact ((HQ.out _ (Kin.h _)).readsU 11 rfl)) gk) HN.out)
              | (go_at_call 19; exact Kin.call (cdf _ _ _ ((HQ.out _ (Kin.h _)).readsV 8 rfl) ((HQ.out _ (Kin.h _)).readsV 11 rfl)) HN.out)
              | (go_at_call 18; exact Kin.same (cwo _))
              | (go_at_call 17; exact Kin.call (cdg _) HN.out)))
            refine wpQuiet_nil ?_
            intro ak hk'
            have HS : Hid (Sta w ak [Blk (v410.heap.size + 1) 32 #[.int .i64 0, .string ⟨dt.toArray⟩], Blk v410.heap.size 26 #[.slice aoH ks.length acH, .slice boH ns.length bcH], Dsk (.slice aoH ks.length acH) (.slice boH ns.length bcH) ks ns, Blk (v5.heap.size + 1) 32 #[.int .i64 an.st, .string ⟨an.tx.toArray⟩], Blk v5.heap.size 26 #[.slice aoW ks.length acW, .slice boW ns.length bcW], Dsk (.slice aoW ks.length acW) (.slice boW ns.length bcW) ks ns, Blk (v3.heap.size + 1) 32 #[.int .i64 an.st, .string ⟨an.tx.toArray⟩], Blk v3.heap.size 26 #[.slice aoG ks.length acG, .slice boG ns.length bcG], Dsk (.slice aoG ks.length acG) (.slice boG ns.length bcG) ks ns, Blk (v1.heap.size + 1) 28 #[.int .i64 ro, .int .i64 (j : Int), .int .i64 z, .int .i64 rB, .int .i64 rk], Blk v1.heap.size 26 #[.slice aoD xs.length acD, .slice boD ys.length bcD], Dsk (.slice aoD xs.length acD) (.slice boD ys.length bcD) xs ys]) := by { obtain ⟨q, rfl⟩ := hk'; exact HQ.out _ q.h }
            clear hk' HQ HN H0 hne m_vG_0 m_vG_1 m_vD_0 m_vD_1 m_aH_0 m_aH_1 m_vC_0 m_vC_1 m_vC_2 m_vC_3 m_vC_4
            obtain ⟨v412, hv412⟩ : ∃ v412, v412 = ak := ⟨_, rfl⟩
            rw [← hv412] at HS ⊢
            clear hv412
            have HB : Hid (Below w.heap.size w _) := HS.out.below
            clear HS
            go_wp2
            go_ret
            exact ⟨rfl, HB.out⟩
    | true =>
      clear e_r
      have hwb : wb = false := HRB.out rfl
      subst hwb
      clear e_w
      clear HRB HRW
      go_upto_region 6 with fail
      obtain ⟨p, hp⟩ : ∃ p, p = fun x => Sta w x [Blk (v5.heap.size + 1) 32 #[.int .i64 an.st, .string ⟨an.tx.toArray⟩], Blk v5.heap.size 26 #[.slice aoW ks.length acW, .slice boW ns.length bcW], Dsk (.slice aoW ks.length acW) (.slice boW ns.length bcW) ks ns, Blk (v3.heap.size + 1) 32 #[.int .i64 an.st, .string ⟨an.tx.toArray⟩], Blk v3.heap.size 26 #[.slice aoG ks.length acG, .slice boG ns.length bcG], Dsk (.slice aoG ks.length acG) (.slice boG ns.length bcG) ks ns, Blk (v1.heap.size + 1) 28 #[.int .i64 r.o, .int .i64 r.p, .int .i64 r.a, .int .i64 r.b, .int .i64 r.k], Blk v1.heap.size 26 #[.slice aoD xs.length acD, .slice boD ys.length bcD], Dsk (.slice aoD xs.length acD) (.slice boD ys.length bcD) xs ys] := ⟨_, rfl⟩
      have HQ : Hid (∀ x, p x → Sta w x [Blk (v5.heap.size + 1) 32 #[.int .i64 an.st, .string ⟨an.tx.toArray⟩], Blk v5.heap.size 26 #[.slice aoW ks.length acW, .slice boW ns.length bcW], Dsk (.slice aoW ks.length acW) (.slice boW ns.length bcW) ks ns, Blk (v3.heap.size + 1) 32 #[.int .i64 an.st, .string ⟨an.tx.toArray⟩], Blk v3.heap.size 26 #[.slice aoG ks.length acG, .slice boG ns.length bcG], Dsk (.slice aoG ks.length acG) (.slice boG ns.length bcG) ks ns, Blk (v1.heap.size + 1) 28 #[.int .i64 r.o, .int .i64 r.p, .int .i64 r.a, .int .i64 r.b, .int .i64 r.k], Blk v1.heap.size 26 #[.slice aoD xs.length acD, .slice boD ys.length bcD], Dsk (.slice aoD xs.length acD) (.slice boD ys.length bcD) xs ys]) := by rw [hp]; exact fun _ h => h
      have HN : Hid (∀ x w', p x → Below x.heap.size x w' → p w') := by rw [hp]; exact fun _ _ h b => h.next b
      have H0 : Hid (p v6.drew) := by rw [hp]; exact HS.out.drew1
      have hne : Nonempty (Kin p) := ⟨⟨_, H0.out⟩⟩
      have m_vG_0 : ∀ q : Kin p, q.x.cell? ⟨v3.heap.size, 0, none⟩ = some (.slice aoG ks.length acG) := fun q => Blk.cell ((HQ.out _ q.h).get 4 rfl) 0 rfl
      have m_vG_1 : ∀ q : Kin p, q.x.cell? ⟨v3.heap.size, 1, none⟩ = some (.slice boG ns.length bcG) := fun q => Blk.cell ((HQ.out _ q.h).get 4 rfl) 1 rfl
      have m_vW_0 : ∀ q : Kin p, q.x.cell? ⟨v5.heap.size, 0, none⟩ = some (.slice aoW ks.length acW) := fun q => Blk.cell ((HQ.out _ q.h).get 1 rfl) 0 rfl
      have m_vW_1 : ∀ q : Kin p, q.x.cell? ⟨v5.heap.size, 1, none⟩ = some (.slice boW ns.length bcW) := fun q => Blk.cell ((HQ.out _ q.h).get 1 rfl) 1 rfl
      have m_aG_0 : ∀ q : Kin p, q.x.cell? ⟨v3.heap.size + 1, 0, none⟩ = some (.int .i64 an.st) := fun q => Blk.cell ((HQ.out _ q.h).get 3 rfl) 0 rfl
      have m_aG_1 : ∀ q : Kin p, q.x.cell? ⟨v3.heap.size + 1, 1, none⟩ = some (.string ⟨an.tx.toArray⟩) := fun q => Blk.cell ((HQ.out _ q.h).get 3 rfl) 1 rfl
      have m_aW_0 : ∀ q : Kin p, q.x.cell? ⟨v5.heap.size + 1, 0, none⟩ = some (.int .i64 an.st) := fun q => Blk.cell ((HQ.out _ q.h).get 0 rfl) 0 rfl
      have m_aW_1 : ∀ q : Kin p, q.x.cell? ⟨v5.heap.size + 1, 1, none⟩ = some (.string ⟨an.tx.toArray⟩) := fun q => Blk.cell ((HQ.out _ q.h).get 0 rfl) 1 rfl
      have m_vC_0 : ∀ q : Kin p, q.x.cell? ⟨v1.heap.size + 1, 0, none⟩ = some (.int .i64 r.o) := fun q => Blk.cell ((HQ.out _ q.h).get 6 rfl) 0 rfl
      have m_vC_1 : ∀ q : Kin p, q.x.cell? ⟨v1.heap.size + 1, 1, none⟩ = some (.int .i64 r.p) := fun q => Blk.cell ((HQ.out _ q.h).get 6 rfl) 1 rfl
      have m_vC_2 : ∀ q : Kin p, q.x.cell? ⟨v1.heap.size + 1, 2, none⟩ = some (.int .i64 r.a) := fun q => Blk.cell ((HQ.out _ q.h).get 6 rfl) 2 rfl
      have m_vC_3 : ∀ q : Kin p, q.x.cell? ⟨v1.heap.size + 1, 3, none⟩ = some (.int .i64 r.b) := fun q => Blk.cell ((HQ.out _ q.h).get 6 rfl) 3 rfl
      have m_vC_4 : ∀ q : Kin p, q.x.cell? ⟨v1.heap.size + 1, 4, none⟩ = some (.int .i64 r.k) := fun q => Blk.cell ((HQ.out _ q.h).get 6 rfl) 4 rfl
      clear hp HS
      refine wp_region_kin p (by kernel_rfl) (by kernel_rfl) H0.out ?_
      repeat (quiet_step (first
        | (go_at_call 9; exact Kin.call (LK _ _ _ _ _ ((HQ.out _ (Kin.h _)).readsU 5 rfl) ((HQ.out _ (Kin.h _)).readsV 5 rfl) ((HQ.out _ (Kin.h _)).readsU 2 rfl) ((HQ.out _ (Kin.h _)).readsV 2 rfl)) HN.out)
        | (go_at_call 10; exact Kin.call (ir _) HN.out)
        | (go_at_call 11; exact Kin.call (sr _) HN.out)
        | (go_at_call 12; exact Kin.call (iw _) HN.out)
        | (go_at_call 13; exact Kin.call (sw _) HN.out)))
      refine wpQuiet_nil ?_
      intro ak hk'
      have HS : Hid (Sta w ak [Blk (v5.heap.size + 1) 32 #[.int .i64 an.st, .string ⟨an.tx.toArray⟩], Blk v5.heap.size 26 #[.slice aoW ks.length acW, .slice boW ns.length bcW], Dsk (.slice aoW ks.length acW) (.slice boW ns.length bcW) ks ns, Blk (v3.heap.size + 1) 32 #[.int .i64 an.st, .string ⟨an.tx.toArray⟩], Blk v3.heap.size 26 #[.slice aoG ks.length acG, .slice boG ns.length bcG], Dsk (.slice aoG ks.length acG) (.slice boG ns.length bcG) ks ns, Blk (v1.heap.size + 1) 28 #[.int .i64 r.o, .int .i64 r.p, .int .i64 r.a, .int .i64 r.b, .int .i64 r.k], Blk v1.heap.size 26 #[.slice aoD xs.length acD, .slice boD ys.length bcD], Dsk (.slice aoD xs.length acD) (.slice boD ys.length bcD) xs ys]) := by { obtain ⟨q, rfl⟩ := hk'; exact HQ.out _ q.h }
      clear hk' HQ HN H0 hne m_vG_0 m_vG_1 m_vW_0 m_vW_1 m_aG_0 m_aG_1 m_aW_0 m_aW_1 m_vC_0 m_vC_1 m_vC_2 m_vC_3 m_vC_4
      obtain ⟨v107, hv107⟩ : ∃ v107, v107 = ak := ⟨_, rfl⟩
      rw [← hv107] at HS ⊢
      clear hv107
      clear LK sr iw sw e_a e_t
      go_upto_region 8 with fail
      obtain ⟨kb, hkb⟩ : ∃ kb, kb = bothOk xs ys := ⟨_, rfl⟩
      rw [← hkb] at HCS HCN
      have HKB : Hid (kb = bothOk xs ys) := hkb
      have co := sdiskOk_any _ _ xs ys v107 (HS.out.readsU 8 rfl) (HS.out.readsV 8 rfl) gx gy
      rw [← hkb] at co
      clear hkb
      have p_vD_0 : v107.cell? ⟨v1.heap.size, 0, none⟩ = some (.slice aoD xs.length acD) := Blk.cell (HS.out.get 7 rfl) 0 rfl
      have p_vD_1 : v107.cell? ⟨v1.heap.size, 1, none⟩ = some (.slice boD ys.length bcD) := Blk.cell (HS.out.get 7 rfl) 1 rfl
      go_wp2_with fail
      clear p_vD_0 p_vD_1
      refine (co).mono ?_
      rintro e v108 ⟨rfl, bv108⟩
      replace HS : Hid (Sta w v108 [Blk (v5.heap.size + 1) 32 #[.int .i64 an.st, .string ⟨an.tx.toArray⟩], Blk v5.heap.size 26 #[.slice aoW ks.length acW, .slice boW ns.length bcW], Dsk (.slice aoW ks.length acW) (.slice boW ns.length bcW) ks ns, Blk (v3.heap.size + 1) 32 #[.int .i64 an.st, .string ⟨an.tx.toArray⟩], Blk v3.heap.size 26 #[.slice aoG ks.length acG, .slice boG ns.length bcG], Dsk (.slice aoG ks.length acG) (.slice boG ns.length bcG) ks ns, Blk (v1.heap.size + 1) 28 #[.int .i64 r.o, .int .i64 r.p, .int .i64 r.a, .int .i64 r.b, .int .i64 r.k], Blk v1.heap.size 26 #[.slice aoD xs.length acD, .slice boD ys.length bcD], Dsk (.slice aoD xs.length acD) (.slice boD ys.length bcD) xs ys]) := HS.out.next bv108
      clear bv108
      clear co
      cases kb with
      | false =>
        have hz := HCN.out rfl
        simp only [Prod.mk.injEq] at hz
        obtain ⟨e1, e2, e3⟩ := hz
        have hst : (an.st == 7) = true := by rw [e3]; rfl
        have E1 : Hid (ks = []) := e1
        have E2 : Hid (ns = []) := e2
        clear HCS HCN e1 e2 e3
        go_upto_region 9 with fail
        have p_vG_0 : v108.cell? ⟨v3.heap.size, 0, none⟩ = some (.slice aoG ks.length acG) := Blk.cell (HS.out.get 4 rfl) 0 rfl
        have p_vG_1 : v108.cell? ⟨v3.heap.size, 1, none⟩ = some (.slice boG ns.length bcG) := Blk.cell (HS.out.get 4 rfl) 1 rfl
        have p_aG_0 : v108.cell? ⟨v3.heap.size + 1, 0, none⟩ = some (.int .i64 an.st) := Blk.cell (HS.out.get 3 rfl) 0 rfl
        have p_aG_1 : v108.cell? ⟨v3.heap.size + 1, 1, none⟩ = some (.string ⟨an.tx.toArray⟩) := Blk.cell (HS.out.get 3 rfl) 1 rfl
        go_wp2_with fail
        clear p_vG_0 p_vG_1 p_aG_0 p_aG_1
        refine (likeDisk_any _ _ (.slice none 0 0) (.slice none 0 0) ks ns _ (HS.out.readsU 5 rfl) (HS.out.readsV 5 rfl) (by rw [E1.out]; exact (Own.nil _ 0).reads) (by rw [E2.out]; exact (Own.nil _ 0).reads) gk gn).mono ?_
        rintro e v109 ⟨rfl, bv109⟩
        replace HS : Hid (Sta w v109 [Blk (v5.heap.size + 1) 32 #[.int .i64 an.st, .string ⟨an.tx.toArray⟩], Blk v5.heap.size 26 #[.slice aoW ks.length acW, .slice boW ns.length bcW], Dsk (.slice aoW ks.length acW) (.slice boW ns.length bcW) ks ns, Blk (v3.heap.size + 1) 32 #[.int .i64 an.st, .string ⟨an.tx.toArray⟩], Blk v3.heap.size 26 #[.slice aoG ks.length acG, .slice boG ns.length bcG], Dsk (.slice aoG ks.length acG) (.slice boG ns.length bcG) ks ns, Blk (v1.heap.size + 1) 28 #[.int .i64 r.o, .int .i64 r.p, .int .i64 r.a, .int .i64 r.b, .int .i64 r.k], Blk v1.heap.size 26 #[.slice aoD xs.length acD, .slice boD ys.length bcD], Dsk (.slice aoD xs.length acD) (.slice boD ys.length bcD) xs ys]) := HS.out.next bv109
        clear bv109
        have HB : Hid (Below w.heap.size w _) := HS.out.below
        clear HS
        go_wp2
        go_ret
        exact ⟨rfl, HB.out⟩
      | true =>
        have hz := HCS.out rfl
        have hz2 : ks = xs ∧ ns = ys := by
          rcases hz with h | h | h
          · exact h.2
          · exact absurd h.2.1 (by simp)
          · exact absurd h.2.1 (by simp)
        have E1 : Hid (ks = xs) := hz2.1
        have E2 : Hid (ns = ys) := hz2.2
        clear hz hz2 HCS HCN
        go_upto_region 10 with fail
        by_cases hst : an.st = 0
        · have hsb : (an.st != 0) = false := by simpa using hst
          have p_aG_0 : v108.cell? ⟨v3.heap.size + 1, 0, none⟩ = some (.int .i64 an.st) := Blk.cell (HS.out.get 3 rfl) 0 rfl
          have p_aG_1 : v108.cell? ⟨v3.heap.size + 1, 1, none⟩ = some (.string ⟨an.tx.toArray⟩) := Blk.cell (HS.out.get 3 rfl) 1 rfl
          have p_vC_0 : v108.cell? ⟨v1.heap.size + 1, 0, none⟩ = some (.int .i64 r.o) := Blk.cell (HS.out.get 6 rfl) 0 rfl
          have p_vC_1 : v108.cell? ⟨v1.heap.size + 1, 1, none⟩ = some (.int .i64 r.p) := Blk.cell (HS.out.get 6 rfl) 1 rfl
          have p_vC_2 : v108.cell? ⟨v1.heap.size + 1, 2, none⟩ = some (.int .i64 r.a) := Blk.cell (HS.out.get 6 rfl) 2 rfl
          have p_vC_3 : v108.cell? ⟨v1.heap.size + 1, 3, none⟩ = some (.int .i64 r.b) := Blk.cell (HS.out.get 6 rfl) 3 rfl
          have p_vC_4 : v108.cell? ⟨v1.heap.size + 1, 4, none⟩ = some (.int .i64 r.k) := Blk.cell (HS.out.get 6 rfl) 4 rfl
          go_wp2_with fail
          clear p_aG_0 p_aG_1 p_vC_0 p_vC_1 p_vC_2 p_vC_3 p_vC_4
          refine (ir _).mono ?_
          rintro e v209 ⟨rfl, bv209⟩
          replace HS : Hid (Sta w v209 [Blk (v5.heap.size + 1) 32 #[.int .i64 an.st, .string ⟨an.tx.toArray⟩], Blk v5.heap.size 26 #[.slice aoW ks.length acW, .slice boW ns.length bcW], Dsk (.slice aoW ks.length acW) (.slice boW ns.length bcW) ks ns, Blk (v3.heap.size + 1) 32 #[.int .i64 an.st, .string ⟨an.tx.toArray⟩], Blk v3.heap.size 26 #[.slice aoG ks.length acG, .slice boG ns.length bcG], Dsk (.slice aoG ks.length acG) (.slice boG ns.length bcG) ks ns, Blk (v1.heap.size + 1) 28 #[.int .i64 r.o, .int .i64 r.p, .int .i64 r.a, .int .i64 r.b, .int .i64 r.k], Blk v1.heap.size 26 #[.slice aoD xs.length acD, .slice boD ys.length bcD], Dsk (.slice aoD xs.length acD) (.slice boD ys.length bcD) xs ys]) := HS.out.next bv209
          clear bv209
          go_upto_region 11 with fail
          have p_vG_0 : v209.cell? ⟨v3.heap.size, 0, none⟩ = some (.slice aoG ks.length acG) := Blk.cell (HS.out.get 4 rfl) 0 rfl
          have p_vG_1 : v209.cell? ⟨v3.heap.size, 1, none⟩ = some (.slice boG ns.length bcG) := Blk.cell (HS.out.get 4 rfl) 1 rfl
          have p_vD_0 : v209.cell? ⟨v1.heap.size, 0, none⟩ = some (.slice aoD xs.length acD) := Blk.cell (HS.out.get 7 rfl) 0 rfl
          have p_vD_1 : v209.cell? ⟨v1.heap.size, 1, none⟩ = some (.slice boD ys.length bcD) := Blk.cell (HS.out.get 7 rfl) 1 rfl
          go_wp2_with fail
          clear p_vG_0 p_vG_1 p_vD_0 p_vD_1
          refine (likeDisk_any _ _ _ _ ks ns _ (HS.out.readsU 5 rfl) (HS.out.readsV 5 rfl) (by rw [E1.out]; exact (HS.out.readsU 8 rfl)) (by rw [E2.out]; exact (HS.out.readsV 8 rfl)) gk gn).mono ?_
          rintro e v210 ⟨rfl, bv210⟩
          replace HS : Hid (Sta w v210 [Blk (v5.heap.size + 1) 32 #[.int .i64 an.st, .string ⟨an.tx.toArray⟩], Blk v5.heap.size 26 #[.slice aoW ks.length acW, .slice boW ns.length bcW], Dsk (.slice aoW ks.length acW) (.slice boW ns.length bcW) ks ns, Blk (v3.heap.size + 1) 32 #[.int .i64 an.st, .string ⟨an.tx.toArray⟩], Blk v3.heap.size 26 #[.slice aoG ks.length acG, .slice boG ns.length bcG], Dsk (.slice aoG ks.length acG) (.slice boG ns.length bcG) ks ns, Blk (v1.heap.size + 1) 28 #[.int .i64 r.o, .int .i64 r.p, .int .i64 r.a, .int .i64 r.b, .int .i64 r.k], Blk v1.heap.size 26 #[.slice aoD xs.length acD, .slice boD ys.length bcD], Dsk (.slice aoD xs.length acD) (.slice boD ys.length bcD) xs ys]) := HS.out.next bv210
          clear bv210
          have HB : Hid (Below w.heap.size w _) := HS.out.below
          clear HS
          go_wp2
          go_ret
          exact ⟨rfl, HB.out⟩
        · have hsb : (an.st != 0) = true := by simpa using hst
          have p_aG_0 : v108.cell? ⟨v3.heap.size + 1, 0, none⟩ = some (.int .i64 an.st) := Blk.cell (HS.out.get 3 rfl) 0 rfl
          have p_aG_1 : v108.cell? ⟨v3.heap.size + 1, 1, none⟩ = some (.string ⟨an.tx.toArray⟩) := Blk.cell (HS.out.get 3 rfl) 1 rfl
          go_upto_region 11 with fail
          clear p_aG_0 p_aG_1
          have p_vG_0 : v108.cell? ⟨v3.heap.size, 0, none⟩ = some (.slice aoG ks.length acG) := Blk.cell (HS.out.get 4 rfl) 0 rfl
          have p_vG_1 : v108.cell? ⟨v3.heap.size, 1, none⟩ = some (.slice boG ns.length bcG) := Blk.cell (HS.out.get 4 rfl) 1 rfl
          have p_vD_0 : v108.cell? ⟨v1.heap.size, 0, none⟩ = some (.slice aoD xs.length acD) := Blk.cell (HS.out.get 7 rfl) 0 rfl
          have p_vD_1 : v108.cell? ⟨v1.heap.size, 1, none⟩ = some (.slice boD ys.length bcD) := Blk.cell (HS.out.get 7 rfl) 1 rfl
          go_wp2_with fail
          clear p_vG_0 p_vG_1 p_vD_0 p_vD_1
          refine (likeDisk_any _ _ _ _ ks ns _ (HS.out.readsU 5 rfl) (HS.out.readsV 5 rfl) (by rw [E1.out]; exact (HS.out.readsU 8 rfl)) (by rw [E2.out]; exact (HS.out.readsV 8 rfl)) gk gn).mono ?_
          rintro e v309 ⟨rfl, bv309⟩
          replace HS : Hid (Sta w v309 [Blk (v5.heap.size + 1) 32 #[.int .i64 an.st, .string ⟨an.tx.toArray⟩], Blk v5.heap.size 26 #[.slice aoW ks.length acW, .slice boW ns.length bcW], Dsk (.slice aoW ks.length acW) (.slice boW ns.length bcW) ks ns, Blk (v3.heap.size + 1) 32 #[.int .i64 an.st, .string ⟨an.tx.toArray⟩], Blk v3.heap.size 26 #[.slice aoG ks.length acG, .slice boG ns.length bcG], Dsk (.slice aoG ks.length acG) (.slice boG ns.length bcG) ks ns, Blk (v1.heap.size + 1) 28 #[.int .i64 r.o, .int .i64 r.p, .int .i64 r.a, .int .i64 r.b, .int .i64 r.k], Blk v1.heap.size 26 #[.slice aoD xs.length acD, .slice boD ys.length bcD], Dsk (.slice aoD xs.length acD) (.slice boD ys.length bcD) xs ys]) := HS.out.next bv309
          clear bv309
          have HB : Hid (Below w.heap.size w _) := HS.out.below
          clear HS
          go_wp2
          go_ret
          exact ⟨rfl, HB.out⟩

set_option maxRecDepth 100000 in
theorem lifted (os : Os) (started : os.Started) (H : Type) (enc : TypeId × Value → H) :
    ReturnsInHanded {} Tryd.checked os 3 .any (fun w args => (Rows.fnVolumeSpec.pre enc Tryd.prog Tryd.f3 [] false w args ∧ laidMetH Tryd.prog Rows.fnVolumeRow.laid w) ∧ sizedMet enc Tryd.prog Tryd.f3 (OpenSpec.ofChange Rows.fnVolumeSpec) false w args) (Rows.fnVolumeSpec.post enc Tryd.prog Tryd.f3 false true false false) := by
  refine returnsInHanded_of_change_and (C := Tryd.checked) (X := fun w _ => laidMetH Tryd.prog Rows.fnVolumeRow.laid w) (fun _ _ _ hh h => h.of_heap hh) own started (by kernel_rfl) Tryd.func3
    (ChangeSpec.witness_shaped (enc := enc) (C := Tryd.checked) (os := os) (X := fun w _ => laidMetH Tryd.prog Rows.fnVolumeRow.laid w) false (World.laidAll Tryd.prog os Rows.fnVolumeRow.laid) #[.slice none 0 0] 8 (World.laidAll_os _ _ _) (World.shaped_of_ZipB (by kernel_rfl) (by kernel_rfl)) (by kernel_rfl) (by kernel_rfl) (by kernel_rfl) (by rw [MakeChecks.laidMetH_plain _ _ _ (by kernel_rfl)]; exact laidMet_laidAll _ (by kernel_rfl) (by kernel_rfl))) ?_
  intro W base args ds gs before hval0 hW hcnd _ hL _
  have hval : ∀ (j : Nat) t v, Tryd.f3.params[j]? = some t → args[j]? = some v → Value.okWide Tryd.prog W .any base t v := hval0
  have hW' := hW
  obtain ⟨p, q, hA0, hV, rfl, hfz, hnd⟩ := hW
  have hA : DataW.TrodAll enc Tryd.prog W 0 (fun _ => true) true Tryd.f3.params.toList args.toList ds p := hA0
  rw [Tryd.params3] at hA hval
  obtain ⟨v0, vs0, d0, ds0, p0, q0, hargs, rfl, rfl, h0, r0⟩ := trodAll_cons hA
  obtain ⟨rfl, rfl, rfl⟩ := trodAll_nil r0
  obtain rfl : args = #[v0] := by cases args; simp_all
  obtain ⟨rfl, rfl⟩ := trodVars_none hV
  obtain ⟨a0, len0, cap0, rfl⟩ := okWide_slice Tryd.underlying22 (hval 0 22 v0 rfl rfl)
  have k0 := h0
  have lt0 : ∀ x ∈ p0, x.block < W.heap.size := by obtain ⟨m, hm⟩ := k0; exact DataW.trod_lt m _ _ _ hm
  obtain ⟨z0, w0⟩ : ∃ zs, IsRow .u8 W a0 len0 cap0 zs := by
    obtain ⟨fuel, hf⟩ := h0
    rcases open_ints Tryd.underlying22 Tryd.underlying5 (by kernel_rfl) hf with ⟨hcs, _⟩ | ⟨x, l, c, zs, hcs, _, hl, hm, hz, _, hcell, hwz⟩
    · simp [Value.cells] at hcs
      obtain ⟨rfl, rfl, rfl⟩ := hcs
      exact ⟨[], .inl ⟨rfl, rfl, rfl, rfl⟩⟩
    · simp [Value.cells] at hcs
      obtain ⟨rfl, rfl, rfl⟩ := hcs
      exact ⟨zs, .inr ⟨_, rfl, hl, hm, by simpa using hz, hcell, hwz⟩⟩
  clear hA0 hval0
  refine (walk a0 len0 cap0 z0 W w0 (tab_fnVolume hL)).mono fun e W' ⟨he, bel⟩ => ?_
  subst he
  exact ⟨_, rfl, _, _, _, [], _, [], hW', trodAll_mk1 (shut_bool Tryd.underlying4 _), (trodAll_cons_mk (Below.trod laidOut (by kernel_rfl) (of_decide_eq_true (by kernel_rfl)) k0 bel lt0) trodAll_mk0), rfl, bel.frame _, fun h => by cases h⟩

theorem over : Rows.fnVolumeRow.holds Tryd.pinned (OpenSpec.ofChange Rows.fnVolumeSpec) :=
  OpenClaim.holds_of_wide 3 Tryd.f3 rfl rfl rfl rfl rfl rfl rfl ⟨rfl, rfl, rfl, rfl, rfl⟩ rfl rfl rfl rfl rfl (by kernel_rfl) Tryd.func3 (by kernel_rfl)
    (of_decide_eq_true (by kernel_rfl)) (by unfold Func.isWrapper; first | (rw [if_pos (by decide +kernel)]; kernel_rfl) | (rw [if_neg (by decide +kernel)]; exact ⟨rfl, rfl⟩))
    (fun os started H enc _ => lifted os started H enc)

theorem proved : Rows.FnVolumeSaid := over
end Go.Proofs.YtnnmcjgmnjokiaaDoor.fnVolume
namespace Go.Proofs.YtnnmcjgmnjokiaaDoor
open Go in
theorem fnVolume_holds : Rows.FnVolumeCardSaid :=
  Claim7.holds_tied_plain_at .later [] [.data, .data, .data] true (true, "3aa7a82c1d5a74517d9fc0157b21a90449f5d2fbbda0ac225e98c04cbfeb6b93") true
    fnVolume.proved (fun _ h => by cases h) (by kernel_rfl) (fun _ h => by cases h) fnVolume_row_tie rfl ⟨rfl, rfl⟩ (by kernel_rfl) rfl
    (fun f fn hf hfn => by
      obtain rfl : f = 3 := Option.some.inj ((show Tryd.prog.funcNamed Rows.fnVolumeRow.func = some 3 by kernel_rfl).symm.trans hf) |>.symm
      obtain rfl : fn = Tryd.f3 := (Option.some.inj (Tryd.func3.symm.trans hfn)).symm
      exact ⟨by kernel_rfl, fun j t ht => by
        rw [Tryd.params3] at ht
        have hm : t ∈ [22] := by simpa using Array.mem_of_getElem? ht
        have hall : ([22].all fun u => !Tryd.prog.wantsStandIn u) = true := by kernel_rfl
        exact (show Tryd.prog.wantsStandIn t = false by simpa using List.all_eq_true.1 hall t hm)⟩)
    (by kernel_rfl)
end Go.Proofs.YtnnmcjgmnjokiaaDoor
