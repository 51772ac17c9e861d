/- At every list of bytes the law FnDisk returns true: of the disks that are drawn of it what is written is there now, kept when it is flushed, and loose till then; and the program answers as the model. -/
import Derived.Test.YthjgannjahcmiaaRows
import Derived.WalkKit
import Derived.ProofKit
import Derived.OpenShut
import Derived.ShutString
import Derived.ChangeOld
import Derived.Below
import Derived.Test.YthjgannjahcmiaaCellAt
import Derived.Test.YthjgannjahcmiaaLikeDisk
import Derived.Test.YthjgannjahcmiaaDrawDisk
import Derived.Test.YthjgannjahcmiaaSDisk3
import Derived.Test.YthjgannjahcmiaaIDisk2
import Derived.Test.YthjgannjahcmiaaIn
import Derived.Test.YthjgannjahcmiaaLike
import Derived.Deep.RegionHeld3
import Derived.Deep.DeepCutAuto
namespace Go.Proofs.Ythjgannjahcmiaa.fnDisk
open Go.ChangeShapes Go.WideShapes Go.ChangeAt Go.RowKit
open Go.ChangeMaps (open_string shut_string)
set_option linter.unusedVariables false

theorem own : ownKnob Try.prog.godebug = none := by kernel_rfl
theorem laidOut : laidOutB Try.prog = true := by kernel_rfl

def IsRow (k : IntKind) (w : World) (a : Option Addr) (len cap : Nat) (zs : List Int) : Prop :=
  (a = none ∧ len = 0 ∧ cap = 0 ∧ zs = []) ∨
  ∃ x, a = some x ∧ len ≤ cap ∧ cap ≤ maxLen ∧ zs.length = cap ∧ (∀ i, i < zs.length → w.cell? (x.add i) = some (.int k (zs.getD i 0))) ∧ ∀ n ∈ zs, (Lit.int k n).wf = true

set_option maxRecDepth 20000 in
set_option maxHeartbeats 2000000 in
theorem walk (a0 : Option Addr) (len0 cap0 : Nat) (z0 : List Int) (w : World) (w0 : IsRow .u8 w a0 len0 cap0 z0) :
    Calls Try.prog 3 #[.slice a0 len0 cap0] w fun e w' => e = .returned (.bool true) ∧ Below w.heap.size w w' := by
  by_cases hbig : (4096 : Int) < (len0 : Int)
  · go_enter Try.func3, Try.ntmps3
    go_wp2_with (go_at_call 11; refine (big_any _ _ _ _).mono ?_; rintro e w' ⟨rfl, hw'⟩; subst w')
    go_ret
    exact ⟨rfl, Below.refl _ _⟩
  · have HC : Hid (CodeOk w w.heap.size (.slice a0 len0 cap0)) := codeOk_row w0 (by omega)
    clear w0
    have HS : Hid (Sta w w []) := Sta.start w
    go_enter Try.func3, Try.ntmps3
    go_wp2_with fail
    refine (big_any _ _ _ _).mono ?_
    rintro e w' ⟨rfl, hw'⟩; subst w' 
    
    go_wp2_with fail
    refine (drawWritten_any w.heap.size _ _ (HC.out.below HS.out.below) HS.out.below.size).mono ?_
    rintro e w1 ⟨uD, vD, i, x, rfl, xsD, ysD, hxD, hyD, o1, b1⟩
    replace HS : Hid (Sta w w1 [Dsk uD vD xsD ysD]) := HS.out.disk o1 b1
    clear o1 b1
    have gxD : xsD.length ≤ 1099511627776 := by omega
    have gyD : ysD.length ≤ 1099511627776 := by omega
    obtain ⟨ks, hk⟩ : ∃ ks, ks = wrK xsD ysD := ⟨_, rfl⟩
    obtain ⟨ns, hn⟩ : ∃ ns, ns = wrN xsD ysD i x := ⟨_, rfl⟩
    obtain ⟨pb, hpb⟩ : ∃ pb, pb = wrB xsD ysD i x := ⟨_, rfl⟩
    obtain ⟨d, hd⟩ : ∃ d, d = differI xsD ysD := ⟨_, rfl⟩
    obtain ⟨bk, hbk⟩ : ∃ bk, bk = bothOk xsD ysD := ⟨_, rfl⟩
    have gk : ks.length ≤ 1099511627776 := by rw [hk]; exact wrK_len xsD ysD gxD
    have gn : ns.length ≤ 1099511627776 := by rw [hn]; exact wrN_len xsD ysD i x gyD
    have cs : ∀ u v w', Reads w' u xsD → Reads w' v ysD → _ := fun u v w' h h' => swritten_any u v xsD ysD i x w' h h' gxD gyD
    have ci : ∀ u v w', Reads w' u xsD → Reads w' v ysD → _ := fun u v w' h h' => written_any u v xsD ysD i x w' h h' gxD gyD
    have csl : ∀ u v w', Reads w' u xsD → Reads w' v ysD → _ := fun u v w' h h' => sloose_any u v xsD ysD w' h h' gxD gyD
    have cil : ∀ u v w', Reads w' u xsD → Reads w' v ysD → _ := fun u v w' h h' => loose_any u v xsD ysD w' h h' gxD gyD
    have csk : ∀ u v w', Reads w' u xsD → Reads w' v ysD → _ := fun u v w' h h' => sdiskOk_any u v xsD ysD w' h h' gxD gyD
    have cik : ∀ u v w', Reads w' u xsD → Reads w' v ysD → _ := fun u v w' h h' => diskOk_any u v xsD ysD w' h h' gxD gyD
    simp only [← hk, ← hn, ← hpb] at cs ci
    simp only [← hd] at csl cil
    simp only [← hbk] at csk cik
    have HK : Hid ((pb = false → bk = true → ks = xsD ∧ ns = ysD) ∧ (pb = true → bothOk xsD ysD = true ∧ placeOk ysD i x = true ∧ ks = xsD ∧ ns = ysD.set i.toNat x)) := by
      refine ⟨fun h1 h2 => ?_, fun h1 => ?_⟩
      · rw [hbk] at h2
        have hy := (bothOk_yes' h2).2.1
        rw [hpb] at h1
        have hp : placeOk ysD i x = false := by simpa [wrB, h2, putB, hy] using h1
        rw [hk, hn]
        simp [wrK, wrN, h2, putI, hy, hp]
      · rw [hpb] at h1
        have h2 : bothOk xsD ysD = true := by simp [wrB] at h1; exact h1.1
        have hy := (bothOk_yes' h2).2.1
        have hp : placeOk ysD i x = true := by simpa [wrB, h2, putB, hy] using h1
        rw [hk, hn]
        exact ⟨h2, hp, by simp [wrK, h2], by simp [wrN, h2, putI, hy, hp]⟩
    clear hk hn hpb hd hbk
    have hpp : (pb != pb) = false := by simp
    have hdd : (d != d) = false := by simp
    have hbb : (bk != bk) = false := by simp
    go_wp2_with (first
      | (refine wpList_putB rfl 26 _ _ rfl w1.heap.size #[uD, vD] #[.slice none 0 0, .slice none 0 0] rfl rfl (HS.out.ones 0 rfl) (heap_alloc_new _ _) Try.infoB.1 rfl ?_; intro w2 q2 g2; replace HS : Hid (Sta w w2 [Blk w1.heap.size 26 #[uD, vD], Dsk uD vD xsD ysD]) := HS.out.var 26 _ _ q2 g2; clear q2 g2; have p_dv_0 := Blk.cell (HS.out.get 0 rfl) 0 rfl; have p_dv_1 := Blk.cell (HS.out.get 0 rfl) 1 rfl; skip))
    clear p_dv_0 p_dv_1
    refine (ci _ _ _ (HS.out.readsU 1 rfl) (HS.out.readsV 1 rfl)).mono ?_
    rintro e w3 ⟨uX, vX, rfl, o3, b3⟩
    replace HS : Hid (Sta w w3 [Dsk uX vX ks ns, Blk w1.heap.size 26 #[uD, vD], Dsk uD vD xsD ysD]) := HS.out.disk o3 b3
    clear o3 b3
    go_wp2_with (first
      | (refine wpList_putB rfl 26 _ _ rfl w3.heap.size #[uX, vX] #[.slice none 0 0, .slice none 0 0] rfl rfl (HS.out.ones 0 rfl) (heap_alloc_new _ _) Try.infoB.1 rfl ?_; intro w4 q4 g4; replace HS : Hid (Sta w w4 [Blk w3.heap.size 26 #[uX, vX], Dsk uX vX ks ns, Blk w1.heap.size 26 #[uD, vD], Dsk uD vD xsD ysD]) := HS.out.var 26 _ _ q4 g4; clear q4 g4; skip))
    refine (drawFlushed_any w.heap.size _ _ (HC.out.below HS.out.below) HS.out.below.size).mono ?_
    rintro e w5 ⟨uF, vF, rfl, xsF, ysF, hxF, hyF, o5, b5⟩
    replace HS : Hid (Sta w w5 [Dsk uF vF xsF ysF, Blk w3.heap.size 26 #[uX, vX], Dsk uX vX ks ns, Blk w1.heap.size 26 #[uD, vD], Dsk uD vD xsD ysD]) := HS.out.disk o5 b5
    clear o5 b5
    have gxF : xsF.length ≤ 1099511627776 := by omega
    have gyF : ysF.length ≤ 1099511627776 := by omega
    obtain ⟨zs, hz⟩ : ∃ zs, zs = flN xsF ysF := ⟨_, rfl⟩
    obtain ⟨bf, hbf⟩ : ∃ bf, bf = bothOk xsF ysF := ⟨_, rfl⟩
    have gz : zs.length ≤ 1099511627776 := by rw [hz]; unfold flN; split <;> (first | omega | simp)
    have csf : ∀ u v w', Reads w' u xsF → Reads w' v ysF → _ := fun u v w' h h' => sflushed_any u v xsF ysF w' h h' gxF gyF
    have cif : ∀ u v w', Reads w' u xsF → Reads w' v ysF → _ := fun u v w' h h' => flushed_any u v xsF ysF w' h h' gxF gyF
    have ckf : ∀ u v w', Reads w' u xsF → Reads w' v ysF → _ := fun u v w' h h' => sdiskOk_any u v xsF ysF w' h h' gxF gyF
    simp only [← hz] at csf cif
    simp only [← hbf] at ckf
    have HF : Hid (bf = true → zs = ysF ∧ differI ysF ysF = 0) := by
      intro h
      rw [hbf] at h
      rw [hz]
      exact ⟨by simp [flN, h], differI_same (bothOk_same h)⟩
    clear hz hbf
    go_wp2_with (first
      | (refine wpList_putB rfl 26 _ _ rfl w5.heap.size #[uF, vF] #[.slice none 0 0, .slice none 0 0] rfl rfl (HS.out.ones 0 rfl) (heap_alloc_new _ _) Try.infoB.1 rfl ?_; intro w6 q6 g6; replace HS : Hid (Sta w w6 [Blk w5.heap.size 26 #[uF, vF], Dsk uF vF xsF ysF, Blk w3.heap.size 26 #[uX, vX], Dsk uX vX ks ns, Blk w1.heap.size 26 #[uD, vD], Dsk uD vD xsD ysD]) := HS.out.var 26 _ _ q6 g6; clear q6 g6; have p_fv_0 := Blk.cell (HS.out.get 0 rfl) 0 rfl; have p_fv_1 := Blk.cell (HS.out.get 0 rfl) 1 rfl; skip))
    clear p_fv_0 p_fv_1
    refine (cif _ _ _ (HS.out.readsU 1 rfl) (HS.out.readsV 1 rfl)).mono ?_
    rintro e w7 ⟨uY, vY, rfl, o7, b7⟩
    replace HS : Hid (Sta w w7 [Dsk uY vY zs zs, Blk w5.heap.size 26 #[uF, vF], Dsk uF vF xsF ysF, Blk w3.heap.size 26 #[uX, vX], Dsk uX vX ks ns, Blk w1.heap.size 26 #[uD, vD], Dsk uD vD xsD ysD]) := HS.out.disk o7 b7
    clear o7 b7
    go_wp2_with (first
      | (refine wpList_putB rfl 26 _ _ rfl w7.heap.size #[uY, vY] #[.slice none 0 0, .slice none 0 0] rfl rfl (HS.out.ones 0 rfl) (heap_alloc_new _ _) Try.infoB.1 rfl ?_; intro w8 q8 g8; replace HS : Hid (Sta w w8 [Blk w7.heap.size 26 #[uY, vY], Dsk uY vY zs zs, Blk w5.heap.size 26 #[uF, vF], Dsk uF vF xsF ysF, Blk w3.heap.size 26 #[uX, vX], Dsk uX vX ks ns, Blk w1.heap.size 26 #[uD, vD], Dsk uD vD xsD ysD]) := HS.out.var 26 _ _ q8 g8; clear q8 g8; skip))
    refine (drawNewDisk_any w.heap.size _ _ (HC.out.below HS.out.below) HS.out.below.size).mono ?_
    rintro e w9 ⟨n, rfl, b9⟩
    replace HS : Hid (Sta w w9 [Blk w7.heap.size 26 #[uY, vY], Dsk uY vY zs zs, Blk w5.heap.size 26 #[uF, vF], Dsk uF vF xsF ysF, Blk w3.heap.size 26 #[uX, vX], Dsk uX vX ks ns, Blk w1.heap.size 26 #[uD, vD], Dsk uD vD xsD ysD]) := HS.out.next b9
    clear b9
    obtain ⟨es, he⟩ : ∃ es, es = zerosI n := ⟨_, rfl⟩
    obtain ⟨cb, hcb⟩ : ∃ cb, cb = cntOk n := ⟨_, rfl⟩
    have ge : es.length ≤ 1099511627776 := by rw [he]; unfold zerosI; split <;> simp <;> omega
    have csn : ∀ w', _ := fun w' => snewDisk_any n w'
    have cin : ∀ w', _ := fun w' => newDisk_any n w'
    have clz : ∀ u v w', Reads w' u es → Reads w' v es → _ := fun u v w' h h' => loose_any u v es es w' h h' ge ge
    have ckz : ∀ u v w', Reads w' u es → Reads w' v es → _ := fun u v w' h h' => diskOk_any u v es es w' h h' ge ge
    simp only [← he, ← hcb] at csn cin
    have HE : Hid (cb = true → bothOk es es = true ∧ differI es es = 0) := by
      intro h
      rw [hcb] at h
      rw [he]
      exact zeros_ok h
    clear he hcb HC
    have hcc : (cb != cb) = false := by simp
    
    go_wp2_with fail
    refine (cin _).mono ?_
    rintro e w10 ⟨uZ, vZ, rfl, o10, b10⟩
    replace HS : Hid (Sta w w10 [Dsk uZ vZ es es, Blk w7.heap.size 26 #[uY, vY], Dsk uY vY zs zs, Blk w5.heap.size 26 #[uF, vF], Dsk uF vF xsF ysF, Blk w3.heap.size 26 #[uX, vX], Dsk uX vX ks ns, Blk w1.heap.size 26 #[uD, vD], Dsk uD vD xsD ysD]) := HS.out.disk o10 b10
    clear o10 b10
    go_wp2_with (first
      | (refine wpList_putB rfl 26 _ _ rfl w10.heap.size #[uZ, vZ] #[.slice none 0 0, .slice none 0 0] rfl rfl (HS.out.ones 0 rfl) (heap_alloc_new _ _) Try.infoB.1 rfl ?_; intro w11 q11 g11; replace HS : Hid (Sta w w11 [Blk w10.heap.size 26 #[uZ, vZ], Dsk uZ vZ es es, Blk w7.heap.size 26 #[uY, vY], Dsk uY vY zs zs, Blk w5.heap.size 26 #[uF, vF], Dsk uF vF xsF ysF, Blk w3.heap.size 26 #[uX, vX], Dsk uX vX ks ns, Blk w1.heap.size 26 #[uD, vD], Dsk uD vD xsD ysD]) := HS.out.var 26 _ _ q11 g11; clear q11 g11; have p_dv_0 := Blk.cell (HS.out.get 8 rfl) 0 rfl; have p_dv_1 := Blk.cell (HS.out.get 8 rfl) 1 rfl; skip))
    clear p_dv_0 p_dv_1
    refine (cs _ _ _ (HS.out.readsU 9 rfl) (HS.out.readsV 9 rfl)).mono ?_
    rintro e w12 ⟨uU, vU, rfl, o12, b12⟩
    replace HS : Hid (Sta w w12 [Dsk uU vU ks ns, Blk w10.heap.size 26 #[uZ, vZ], Dsk uZ vZ es es, Blk w7.heap.size 26 #[uY, vY], Dsk uY vY zs zs, Blk w5.heap.size 26 #[uF, vF], Dsk uF vF xsF ysF, Blk w3.heap.size 26 #[uX, vX], Dsk uX vX ks ns, Blk w1.heap.size 26 #[uD, vD], Dsk uD vD xsD ysD]) := HS.out.disk o12 b12
    clear o12 b12
    go_wp2_with (first
      | (refine wpList_putB rfl 26 _ _ rfl w12.heap.size #[uU, vU] #[.slice none 0 0, .slice none 0 0] rfl rfl (HS.out.ones 0 rfl) (heap_alloc_new _ _) Try.infoB.1 rfl ?_; intro w13 q13 g13; replace HS : Hid (Sta w w13 [Blk w12.heap.size 26 #[uU, vU], Dsk uU vU ks ns, Blk w10.heap.size 26 #[uZ, vZ], Dsk uZ vZ es es, Blk w7.heap.size 26 #[uY, vY], Dsk uY vY zs zs, Blk w5.heap.size 26 #[uF, vF], Dsk uF vF xsF ysF, Blk w3.heap.size 26 #[uX, vX], Dsk uX vX ks ns, Blk w1.heap.size 26 #[uD, vD], Dsk uD vD xsD ysD]) := HS.out.var 26 _ _ q13 g13; clear q13 g13; skip))
    replace HS := HS.out.drew1
    replace HS : Hid _ := HS
    have r0_0 := Blk.cell (HS.out.get 8 rfl) 0 (x := uX) rfl
    have r0_1 := Blk.cell (HS.out.get 8 rfl) 1 (x := vX) rfl
    have r0_2 := Blk.cell (HS.out.get 0 rfl) 0 (x := uU) rfl
    have r0_3 := Blk.cell (HS.out.get 0 rfl) 1 (x := vU) rfl
    have r0_4 := Blk.cell (HS.out.get 4 rfl) 0 (x := uY) rfl
    have r0_5 := Blk.cell (HS.out.get 4 rfl) 1 (x := vY) rfl
    have r0_6 := Blk.cell (HS.out.get 6 rfl) 0 (x := uF) rfl
    have r0_7 := Blk.cell (HS.out.get 6 rfl) 1 (x := vF) rfl
    have r0_8 := Blk.cell (HS.out.get 10 rfl) 0 (x := uD) rfl
    have r0_9 := Blk.cell (HS.out.get 10 rfl) 1 (x := vD) rfl
    go_region_held3 (fun w' => w'.cell? ⟨w3.heap.size, 0, none⟩ = some uX ∧ w'.cell? ⟨w3.heap.size, 1, none⟩ = some vX ∧ w'.cell? ⟨w12.heap.size, 0, none⟩ = some uU ∧ w'.cell? ⟨w12.heap.size, 1, none⟩ = some vU ∧ w'.cell? ⟨w7.heap.size, 0, none⟩ = some uY ∧ w'.cell? ⟨w7.heap.size, 1, none⟩ = some vY ∧ w'.cell? ⟨w5.heap.size, 0, none⟩ = some uF ∧ w'.cell? ⟨w5.heap.size, 1, none⟩ = some vF ∧ w'.cell? ⟨w1.heap.size, 0, none⟩ = some uD ∧ w'.cell? ⟨w1.heap.size, 1, none⟩ = some vD) (refine ⟨?_, ?_, ?_, ?_, ?_, ?_, ?_, ?_, ?_, ?_⟩ <;> assumption)
      (first
        | (go_at_call_of 19 uU; refine (likeDisk_any _ _ _ _ _ _ _ (HS.out.readsU 9 rfl) (HS.out.readsV 9 rfl) (HS.out.readsU 1 rfl) (HS.out.readsV 1 rfl) gk gn).mono ?_; rintro e w14 ⟨rfl, b14⟩; replace HS : Hid (Sta w w14 [Blk w12.heap.size 26 #[uU, vU], Dsk uU vU ks ns, Blk w10.heap.size 26 #[uZ, vZ], Dsk uZ vZ es es, Blk w7.heap.size 26 #[uY, vY], Dsk uY vY zs zs, Blk w5.heap.size 26 #[uF, vF], Dsk uF vF xsF ysF, Blk w3.heap.size 26 #[uX, vX], Dsk uX vX ks ns, Blk w1.heap.size 26 #[uD, vD], Dsk uD vD xsD ysD]) := HS.out.next b14; clear b14; have r1_0 := Blk.cell (HS.out.get 8 rfl) 0 (x := uX) rfl; have r1_1 := Blk.cell (HS.out.get 8 rfl) 1 (x := vX) rfl; have r1_2 := Blk.cell (HS.out.get 0 rfl) 0 (x := uU) rfl; have r1_3 := Blk.cell (HS.out.get 0 rfl) 1 (x := vU) rfl; have r1_4 := Blk.cell (HS.out.get 4 rfl) 0 (x := uY) rfl; have r1_5 := Blk.cell (HS.out.get 4 rfl) 1 (x := vY) rfl; have r1_6 := Blk.cell (HS.out.get 6 rfl) 0 (x := uF) rfl; have r1_7 := Blk.cell (HS.out.get 6 rfl) 1 (x := vF) rfl; have r1_8 := Blk.cell (HS.out.get 10 rfl) 0 (x := uD) rfl; have r1_9 := Blk.cell (HS.out.get 10 rfl) 1 (x := vD) rfl)
        | (go_at_call 20; refine (csf _ _ _ (HS.out.readsU 7 rfl) (HS.out.readsV 7 rfl)).mono ?_; rintro e w15 ⟨uV, vV, rfl, o15, b15⟩; replace HS : Hid (Sta w w15 [Dsk uV vV zs zs, Blk w12.heap.size 26 #[uU, vU], Dsk uU vU ks ns, Blk w10.heap.size 26 #[uZ, vZ], Dsk uZ vZ es es, Blk w7.heap.size 26 #[uY, vY], Dsk uY vY zs zs, Blk w5.heap.size 26 #[uF, vF], Dsk uF vF xsF ysF, Blk w3.heap.size 26 #[uX, vX], Dsk uX vX ks ns, Blk w1.heap.size 26 #[uD, vD], Dsk uD vD xsD ysD]) := HS.out.disk o15 b15; clear o15 b15; have r2_0 := Blk.cell (HS.out.get 9 rfl) 0 (x := uX) rfl; have r2_1 := Blk.cell (HS.out.get 9 rfl) 1 (x := vX) rfl; have r2_2 := Blk.cell (HS.out.get 1 rfl) 0 (x := uU) rfl; have r2_3 := Blk.cell (HS.out.get 1 rfl) 1 (x := vU) rfl; have r2_4 := Blk.cell (HS.out.get 5 rfl) 0 (x := uY) rfl; have r2_5 := Blk.cell (HS.out.get 5 rfl) 1 (x := vY) rfl; have r2_6 := Blk.cell (HS.out.get 7 rfl) 0 (x := uF) rfl; have r2_7 := Blk.cell (HS.out.get 7 rfl) 1 (x := vF) rfl; have r2_8 := Blk.cell (HS.out.get 11 rfl) 0 (x := uD) rfl; have r2_9 := Blk.cell (HS.out.get 11 rfl) 1 (x := vD) rfl)
        | (go_at_call_of 19 uV; refine (likeDisk_any _ _ _ _ _ _ _ (HS.out.readsU 6 rfl) (HS.out.readsV 6 rfl) (HS.out.readsU 0 rfl) (HS.out.readsV 0 rfl) gz gz).mono ?_; rintro e w16 ⟨rfl, b16⟩; replace HS : Hid (Sta w w16 [Dsk uV vV zs zs, Blk w12.heap.size 26 #[uU, vU], Dsk uU vU ks ns, Blk w10.heap.size 26 #[uZ, vZ], Dsk uZ vZ es es, Blk w7.heap.size 26 #[uY, vY], Dsk uY vY zs zs, Blk w5.heap.size 26 #[uF, vF], Dsk uF vF xsF ysF, Blk w3.heap.size 26 #[uX, vX], Dsk uX vX ks ns, Blk w1.heap.size 26 #[uD, vD], Dsk uD vD xsD ysD]) := HS.out.next b16; clear b16; have r3_0 := Blk.cell (HS.out.get 9 rfl) 0 (x := uX) rfl; have r3_1 := Blk.cell (HS.out.get 9 rfl) 1 (x := vX) rfl; have r3_2 := Blk.cell (HS.out.get 1 rfl) 0 (x := uU) rfl; have r3_3 := Blk.cell (HS.out.get 1 rfl) 1 (x := vU) rfl; have r3_4 := Blk.cell (HS.out.get 5 rfl) 0 (x := uY) rfl; have r3_5 := Blk.cell (HS.out.get 5 rfl) 1 (x := vY) rfl; have r3_6 := Blk.cell (HS.out.get 7 rfl) 0 (x := uF) rfl; have r3_7 := Blk.cell (HS.out.get 7 rfl) 1 (x := vF) rfl; have r3_8 := Blk.cell (HS.out.get 11 rfl) 0 (x := uD) rfl; have r3_9 := Blk.cell (HS.out.get 11 rfl) 1 (x := vD) rfl)
        | (go_at_call 21; refine (cil _ _ _ (HS.out.readsU 12 rfl) (HS.out.readsV 12 rfl)).mono ?_; rintro e w17 ⟨rfl, b17⟩; replace HS : Hid (Sta w w17 [Dsk uV vV zs zs, Blk w12.heap.size 26 #[uU, vU], Dsk uU vU ks ns, Blk w10.heap.size 26 #[uZ, vZ], Dsk uZ vZ es es, Blk w7.heap.size 26 #[uY, vY], Dsk uY vY zs zs, Blk w5.heap.size 26 #[uF, vF], Dsk uF vF xsF ysF, Blk w3.heap.size 26 #[uX, vX], Dsk uX vX ks ns, Blk w1.heap.size 26 #[uD, vD], Dsk uD vD xsD ysD]) := HS.out.next b17; clear b17; have r4_0 := Blk.cell (HS.out.get 9 rfl) 0 (x := uX) rfl; have r4_1 := Blk.cell (HS.out.get 9 rfl) 1 (x := vX) rfl; have r4_2 := Blk.cell (HS.out.get 1 rfl) 0 (x := uU) rfl; have r4_3 := Blk.cell (HS.out.get 1 rfl) 1 (x := vU) rfl; have r4_4 := Blk.cell (HS.out.get 5 rfl) 0 (x := uY) rfl; have r4_5 := Blk.cell (HS.out.get 5 rfl) 1 (x := vY) rfl; have r4_6 := Blk.cell (HS.out.get 7 rfl) 0 (x := uF) rfl; have r4_7 := Blk.cell (HS.out.get 7 rfl) 1 (x := vF) rfl; have r4_8 := Blk.cell (HS.out.get 11 rfl) 0 (x := uD) rfl; have r4_9 := Blk.cell (HS.out.get 11 rfl) 1 (x := vD) rfl)
        | (go_at_call 22; refine (csl _ _ _ (HS.out.readsU 12 rfl) (HS.out.readsV 12 rfl)).mono ?_; rintro e w18 ⟨rfl, b18⟩; replace HS : Hid (Sta w w18 [Dsk uV vV zs zs, Blk w12.heap.size 26 #[uU, vU], Dsk uU vU ks ns, Blk w10.heap.size 26 #[uZ, vZ], Dsk uZ vZ es es, Blk w7.heap.size 26 #[uY, vY], Dsk uY vY zs zs, Blk w5.heap.size 26 #[uF, vF], Dsk uF vF xsF ysF, Blk w3.heap.size 26 #[uX, vX], Dsk uX vX ks ns, Blk w1.heap.size 26 #[uD, vD], Dsk uD vD xsD ysD]) := HS.out.next b18; clear b18; have r5_0 := Blk.cell (HS.out.get 9 rfl) 0 (x := uX) rfl; have r5_1 := Blk.cell (HS.out.get 9 rfl) 1 (x := vX) rfl; have r5_2 := Blk.cell (HS.out.get 1 rfl) 0 (x := uU) rfl; have r5_3 := Blk.cell (HS.out.get 1 rfl) 1 (x := vU) rfl; have r5_4 := Blk.cell (HS.out.get 5 rfl) 0 (x := uY) rfl; have r5_5 := Blk.cell (HS.out.get 5 rfl) 1 (x := vY) rfl; have r5_6 := Blk.cell (HS.out.get 7 rfl) 0 (x := uF) rfl; have r5_7 := Blk.cell (HS.out.get 7 rfl) 1 (x := vF) rfl; have r5_8 := Blk.cell (HS.out.get 11 rfl) 0 (x := uD) rfl; have r5_9 := Blk.cell (HS.out.get 11 rfl) 1 (x := vD) rfl)
        | (go_at_call 23; refine (cik _ _ _ (HS.out.readsU 12 rfl) (HS.out.readsV 12 rfl)).mono ?_; rintro e w19 ⟨rfl, b19⟩; replace HS : Hid (Sta w w19 [Dsk uV vV zs zs, Blk w12.heap.size 26 #[uU, vU], Dsk uU vU ks ns, Blk w10.heap.size 26 #[uZ, vZ], Dsk uZ vZ es es, Blk w7.heap.size 26 #[uY, vY], Dsk uY vY zs zs, Blk w5.heap.size 26 #[uF, vF], Dsk uF vF xsF ysF, Blk w3.heap.size 26 #[uX, vX], Dsk uX vX ks ns, Blk w1.heap.size 26 #[uD, vD], Dsk uD vD xsD ysD]) := HS.out.next b19; clear b19; have r6_0 := Blk.cell (HS.out.get 9 rfl) 0 (x := uX) rfl; have r6_1 := Blk.cell (HS.out.get 9 rfl) 1 (x := vX) rfl; have r6_2 := Blk.cell (HS.out.get 1 rfl) 0 (x := uU) rfl; have r6_3 := Blk.cell (HS.out.get 1 rfl) 1 (x := vU) rfl; have r6_4 := Blk.cell (HS.out.get 5 rfl) 0 (x := uY) rfl; have r6_5 := Blk.cell (HS.out.get 5 rfl) 1 (x := vY) rfl; have r6_6 := Blk.cell (HS.out.get 7 rfl) 0 (x := uF) rfl; have r6_7 := Blk.cell (HS.out.get 7 rfl) 1 (x := vF) rfl; have r6_8 := Blk.cell (HS.out.get 11 rfl) 0 (x := uD) rfl; have r6_9 := Blk.cell (HS.out.get 11 rfl) 1 (x := vD) rfl)
        | (go_at_call 24; refine (csk _ _ _ (HS.out.readsU 12 rfl) (HS.out.readsV 12 rfl)).mono ?_; rintro e w20 ⟨rfl, b20⟩; replace HS : Hid (Sta w w20 [Dsk uV vV zs zs, Blk w12.heap.size 26 #[uU, vU], Dsk uU vU ks ns, Blk w10.heap.size 26 #[uZ, vZ], Dsk uZ vZ es es, Blk w7.heap.size 26 #[uY, vY], Dsk uY vY zs zs, Blk w5.heap.size 26 #[uF, vF], Dsk uF vF xsF ysF, Blk w3.heap.size 26 #[uX, vX], Dsk uX vX ks ns, Blk w1.heap.size 26 #[uD, vD], Dsk uD vD xsD ysD]) := HS.out.next b20; clear b20; have r7_0 := Blk.cell (HS.out.get 9 rfl) 0 (x := uX) rfl; have r7_1 := Blk.cell (HS.out.get 9 rfl) 1 (x := vX) rfl; have r7_2 := Blk.cell (HS.out.get 1 rfl) 0 (x := uU) rfl; have r7_3 := Blk.cell (HS.out.get 1 rfl) 1 (x := vU) rfl; have r7_4 := Blk.cell (HS.out.get 5 rfl) 0 (x := uY) rfl; have r7_5 := Blk.cell (HS.out.get 5 rfl) 1 (x := vY) rfl; have r7_6 := Blk.cell (HS.out.get 7 rfl) 0 (x := uF) rfl; have r7_7 := Blk.cell (HS.out.get 7 rfl) 1 (x := vF) rfl; have r7_8 := Blk.cell (HS.out.get 11 rfl) 0 (x := uD) rfl; have r7_9 := Blk.cell (HS.out.get 11 rfl) 1 (x := vD) rfl))
    clear r0_0 r0_1 r0_2 r0_3 r0_4 r0_5 r0_6 r0_7 r0_8 r0_9 r1_0 r1_1 r1_2 r1_3 r1_4 r1_5 r1_6 r1_7 r1_8 r1_9 r2_0 r2_1 r2_2 r2_3 r2_4 r2_5 r2_6 r2_7 r2_8 r2_9 r3_0 r3_1 r3_2 r3_3 r3_4 r3_5 r3_6 r3_7 r3_8 r3_9 r4_0 r4_1 r4_2 r4_3 r4_4 r4_5 r4_6 r4_7 r4_8 r4_9 r5_0 r5_1 r5_2 r5_3 r5_4 r5_5 r5_6 r5_7 r5_8 r5_9 r6_0 r6_1 r6_2 r6_3 r6_4 r6_5 r6_6 r6_7 r6_8 r6_9 r7_0 r7_1 r7_2 r7_3 r7_4 r7_5 r7_6 r7_7 r7_8 r7_9
    replace HS : Hid (Sta w w20 [Blk w12.heap.size 26 #[uU, vU], Dsk uU vU ks ns, Blk w10.heap.size 26 #[uZ, vZ], Dsk uZ vZ es es, Blk w7.heap.size 26 #[uY, vY], Dsk uY vY zs zs, Blk w5.heap.size 26 #[uF, vF], Dsk uF vF xsF ysF, Blk w3.heap.size 26 #[uX, vX], Dsk uX vX ks ns, Blk w1.heap.size 26 #[uD, vD], Dsk uD vD xsD ysD]) := HS.out.tail
    clear cs ci csl cil cik csf cif hdd hbb
    
    go_wp2_with fail
    refine (csn _).mono ?_
    rintro e w21 ⟨uT, vT, rfl, o21, b21⟩
    replace HS : Hid (Sta w w21 [Dsk uT vT es es, Blk w12.heap.size 26 #[uU, vU], Dsk uU vU ks ns, Blk w10.heap.size 26 #[uZ, vZ], Dsk uZ vZ es es, Blk w7.heap.size 26 #[uY, vY], Dsk uY vY zs zs, Blk w5.heap.size 26 #[uF, vF], Dsk uF vF xsF ysF, Blk w3.heap.size 26 #[uX, vX], Dsk uX vX ks ns, Blk w1.heap.size 26 #[uD, vD], Dsk uD vD xsD ysD]) := HS.out.disk o21 b21
    clear o21 b21
    go_upto_region 13 with (refine wpList_putB rfl 26 _ _ rfl w21.heap.size #[uT, vT] #[.slice none 0 0, .slice none 0 0] rfl rfl (HS.out.ones 0 rfl) (heap_alloc_new _ _) Try.infoB.1 rfl ?_; intro w22 q22 g22; replace HS : Hid (Sta w w22 [Blk w21.heap.size 26 #[uT, vT], Dsk uT vT es es, Blk w12.heap.size 26 #[uU, vU], Dsk uU vU ks ns, Blk w10.heap.size 26 #[uZ, vZ], Dsk uZ vZ es es, Blk w7.heap.size 26 #[uY, vY], Dsk uY vY zs zs, Blk w5.heap.size 26 #[uF, vF], Dsk uF vF xsF ysF, Blk w3.heap.size 26 #[uX, vX], Dsk uX vX ks ns, Blk w1.heap.size 26 #[uD, vD], Dsk uD vD xsD ysD]) := HS.out.var 26 _ _ q22 g22; clear q22 g22; skip)
    go_cut [106] (fun t wx => t = .bool false ∧ Hid (Sta w wx [Blk w21.heap.size 26 #[uT, vT], Dsk uT vT es es, Blk w12.heap.size 26 #[uU, vU], Dsk uU vU ks ns, Blk w10.heap.size 26 #[uZ, vZ], Dsk uZ vZ es es, Blk w7.heap.size 26 #[uY, vY], Dsk uY vY zs zs, Blk w5.heap.size 26 #[uF, vF], Dsk uF vF xsF ysF, Blk w3.heap.size 26 #[uX, vX], Dsk uX vX ks ns, Blk w1.heap.size 26 #[uD, vD], Dsk uD vD xsD ysD]))
    case first =>
      cases cb with
      | false =>
        have p_zv_0 := Blk.cell (HS.out.get 4 rfl) 0 rfl
        have p_zv_1 := Blk.cell (HS.out.get 4 rfl) 1 rfl
        have p_tv_0 := Blk.cell (HS.out.get 0 rfl) 0 rfl
        have p_tv_1 := Blk.cell (HS.out.get 0 rfl) 1 rfl
        
        go_wp2_with fail
        clear p_zv_0 p_zv_1 p_tv_0 p_tv_1
        refine (likeDisk_any _ _ _ _ _ _ _ (HS.out.readsU 5 rfl) (HS.out.readsV 5 rfl) (HS.out.readsU 1 rfl) (HS.out.readsV 1 rfl) ge ge).mono ?_
        rintro e w23 ⟨rfl, b23⟩
        replace HS : Hid (Sta w w23 [Blk w21.heap.size 26 #[uT, vT], Dsk uT vT es es, Blk w12.heap.size 26 #[uU, vU], Dsk uU vU ks ns, Blk w10.heap.size 26 #[uZ, vZ], Dsk uZ vZ es es, Blk w7.heap.size 26 #[uY, vY], Dsk uY vY zs zs, Blk w5.heap.size 26 #[uF, vF], Dsk uF vF xsF ysF, Blk w3.heap.size 26 #[uX, vX], Dsk uX vX ks ns, Blk w1.heap.size 26 #[uD, vD], Dsk uD vD xsD ysD]) := HS.out.next b23
        clear b23
        go_wp2_with fail
        go_meet
        case rel => exact ⟨rfl, HS⟩
      | true =>
        obtain ⟨m1, m2⟩ := HE.out rfl
        simp only [m1] at ckz
        simp only [m2] at clz
        clear m1 m2 HE
        have p_zv_0 := Blk.cell (HS.out.get 4 rfl) 0 rfl
        have p_zv_1 := Blk.cell (HS.out.get 4 rfl) 1 rfl
        have p_tv_0 := Blk.cell (HS.out.get 0 rfl) 0 rfl
        have p_tv_1 := Blk.cell (HS.out.get 0 rfl) 1 rfl
        
        go_wp2_with fail
        clear p_zv_0 p_zv_1 p_tv_0 p_tv_1
        refine (likeDisk_any _ _ _ _ _ _ _ (HS.out.readsU 5 rfl) (HS.out.readsV 5 rfl) (HS.out.readsU 1 rfl) (HS.out.readsV 1 rfl) ge ge).mono ?_
        rintro e w23 ⟨rfl, b23⟩
        replace HS : Hid (Sta w w23 [Blk w21.heap.size 26 #[uT, vT], Dsk uT vT es es, Blk w12.heap.size 26 #[uU, vU], Dsk uU vU ks ns, Blk w10.heap.size 26 #[uZ, vZ], Dsk uZ vZ es es, Blk w7.heap.size 26 #[uY, vY], Dsk uY vY zs zs, Blk w5.heap.size 26 #[uF, vF], Dsk uF vF xsF ysF, Blk w3.heap.size 26 #[uX, vX], Dsk uX vX ks ns, Blk w1.heap.size 26 #[uD, vD], Dsk uD vD xsD ysD]) := HS.out.next b23
        clear b23
        have p_zv_0 := Blk.cell (HS.out.get 4 rfl) 0 rfl
        have p_zv_1 := Blk.cell (HS.out.get 4 rfl) 1 rfl
        
        go_wp2_with fail
        clear p_zv_0 p_zv_1
        refine (ckz _ _ _ (HS.out.readsU 5 rfl) (HS.out.readsV 5 rfl)).mono ?_
        rintro e w24 ⟨rfl, b24⟩
        replace HS : Hid (Sta w w24 [Blk w21.heap.size 26 #[uT, vT], Dsk uT vT es es, Blk w12.heap.size 26 #[uU, vU], Dsk uU vU ks ns, Blk w10.heap.size 26 #[uZ, vZ], Dsk uZ vZ es es, Blk w7.heap.size 26 #[uY, vY], Dsk uY vY zs zs, Blk w5.heap.size 26 #[uF, vF], Dsk uF vF xsF ysF, Blk w3.heap.size 26 #[uX, vX], Dsk uX vX ks ns, Blk w1.heap.size 26 #[uD, vD], Dsk uD vD xsD ysD]) := HS.out.next b24
        clear b24
        have p_zv_0 := Blk.cell (HS.out.get 4 rfl) 0 rfl
        have p_zv_1 := Blk.cell (HS.out.get 4 rfl) 1 rfl
        
        go_wp2_with fail
        clear p_zv_0 p_zv_1
        refine (clz _ _ _ (HS.out.readsU 5 rfl) (HS.out.readsV 5 rfl)).mono ?_
        rintro e w25 ⟨rfl, b25⟩
        replace HS : Hid (Sta w w25 [Blk w21.heap.size 26 #[uT, vT], Dsk uT vT es es, Blk w12.heap.size 26 #[uU, vU], Dsk uU vU ks ns, Blk w10.heap.size 26 #[uZ, vZ], Dsk uZ vZ es es, Blk w7.heap.size 26 #[uY, vY], Dsk uY vY zs zs, Blk w5.heap.size 26 #[uF, vF], Dsk uF vF xsF ysF, Blk w3.heap.size 26 #[uX, vX], Dsk uX vX ks ns, Blk w1.heap.size 26 #[uD, vD], Dsk uD vD xsD ysD]) := HS.out.next b25
        clear b25
        go_wp2_with fail
        go_meet
        case rel => exact ⟨rfl, HS⟩
    case rest =>
      clear HS
      obtain ⟨rfl, HS⟩ := hcut
      clear HE ckz clz csn cin hcc
      replace HS : Hid (Sta w wc [Dsk uT vT es es, Blk w12.heap.size 26 #[uU, vU], Dsk uU vU ks ns, Blk w10.heap.size 26 #[uZ, vZ], Dsk uZ vZ es es, Blk w7.heap.size 26 #[uY, vY], Dsk uY vY zs zs, Blk w5.heap.size 26 #[uF, vF], Dsk uF vF xsF ysF, Blk w3.heap.size 26 #[uX, vX], Dsk uX vX ks ns, Blk w1.heap.size 26 #[uD, vD], Dsk uD vD xsD ysD]) := HS.out.drop 0
      replace HS : Hid (Sta w wc [Blk w12.heap.size 26 #[uU, vU], Dsk uU vU ks ns, Blk w10.heap.size 26 #[uZ, vZ], Dsk uZ vZ es es, Blk w7.heap.size 26 #[uY, vY], Dsk uY vY zs zs, Blk w5.heap.size 26 #[uF, vF], Dsk uF vF xsF ysF, Blk w3.heap.size 26 #[uX, vX], Dsk uX vX ks ns, Blk w1.heap.size 26 #[uD, vD], Dsk uD vD xsD ysD]) := HS.out.drop 0
      replace HS : Hid (Sta w wc [Dsk uU vU ks ns, Blk w10.heap.size 26 #[uZ, vZ], Dsk uZ vZ es es, Blk w7.heap.size 26 #[uY, vY], Dsk uY vY zs zs, Blk w5.heap.size 26 #[uF, vF], Dsk uF vF xsF ysF, Blk w3.heap.size 26 #[uX, vX], Dsk uX vX ks ns, Blk w1.heap.size 26 #[uD, vD], Dsk uD vD xsD ysD]) := HS.out.drop 0
      replace HS : Hid (Sta w wc [Blk w10.heap.size 26 #[uZ, vZ], Dsk uZ vZ es es, Blk w7.heap.size 26 #[uY, vY], Dsk uY vY zs zs, Blk w5.heap.size 26 #[uF, vF], Dsk uF vF xsF ysF, Blk w3.heap.size 26 #[uX, vX], Dsk uX vX ks ns, Blk w1.heap.size 26 #[uD, vD], Dsk uD vD xsD ysD]) := HS.out.drop 0
      replace HS : Hid (Sta w wc [Dsk uZ vZ es es, Blk w7.heap.size 26 #[uY, vY], Dsk uY vY zs zs, Blk w5.heap.size 26 #[uF, vF], Dsk uF vF xsF ysF, Blk w3.heap.size 26 #[uX, vX], Dsk uX vX ks ns, Blk w1.heap.size 26 #[uD, vD], Dsk uD vD xsD ysD]) := HS.out.drop 0
      replace HS : Hid (Sta w wc [Blk w7.heap.size 26 #[uY, vY], Dsk uY vY zs zs, Blk w5.heap.size 26 #[uF, vF], Dsk uF vF xsF ysF, Blk w3.heap.size 26 #[uX, vX], Dsk uX vX ks ns, Blk w1.heap.size 26 #[uD, vD], Dsk uD vD xsD ysD]) := HS.out.drop 0
      go_upto_region 15 with fail
      go_cut [121] (fun t wx => t = .bool false ∧ Hid (Sta w wx [Blk w7.heap.size 26 #[uY, vY], Dsk uY vY zs zs, Blk w5.heap.size 26 #[uF, vF], Dsk uF vF xsF ysF, Blk w3.heap.size 26 #[uX, vX], Dsk uX vX ks ns, Blk w1.heap.size 26 #[uD, vD], Dsk uD vD xsD ysD]))
      case first =>
        cases bf with
        | false =>
          have p_fv_0 := Blk.cell (HS.out.get 2 rfl) 0 rfl
          have p_fv_1 := Blk.cell (HS.out.get 2 rfl) 1 rfl
          
          go_wp2_with fail
          clear p_fv_0 p_fv_1
          refine (ckf _ _ _ (HS.out.readsU 3 rfl) (HS.out.readsV 3 rfl)).mono ?_
          rintro e w23 ⟨rfl, b23⟩
          replace HS : Hid (Sta w w23 [Blk w7.heap.size 26 #[uY, vY], Dsk uY vY zs zs, Blk w5.heap.size 26 #[uF, vF], Dsk uF vF xsF ysF, Blk w3.heap.size 26 #[uX, vX], Dsk uX vX ks ns, Blk w1.heap.size 26 #[uD, vD], Dsk uD vD xsD ysD]) := HS.out.next b23
          clear b23
          go_wp2_with fail
          go_meet
          case rel => exact ⟨rfl, HS⟩
        | true =>
          obtain ⟨m1, m2⟩ := HF.out rfl
          clear HF
          subst m1
          have clf : ∀ u v w', Reads w' u zs → Reads w' v zs → _ := fun u v w' h h' => loose_any u v zs zs w' h h' gz gz
          simp only [m2] at clf
          have clk : ∀ u v w', Reads w' u zs → Reads w' v zs → _ := fun u v w' h h' => like_any u v zs zs w' h h' gz
          simp only at clk
          clear m2
          have p_fv_0 := Blk.cell (HS.out.get 2 rfl) 0 rfl
          have p_fv_1 := Blk.cell (HS.out.get 2 rfl) 1 rfl
          
          go_wp2_with fail
          clear p_fv_0 p_fv_1
          refine (ckf _ _ _ (HS.out.readsU 3 rfl) (HS.out.readsV 3 rfl)).mono ?_
          rintro e w23 ⟨rfl, b23⟩
          replace HS : Hid (Sta w w23 [Blk w7.heap.size 26 #[uY, vY], Dsk uY vY zs zs, Blk w5.heap.size 26 #[uF, vF], Dsk uF vF xsF zs, Blk w3.heap.size 26 #[uX, vX], Dsk uX vX ks ns, Blk w1.heap.size 26 #[uD, vD], Dsk uD vD xsD ysD]) := HS.out.next b23
          clear b23
          have p_yv_0 := Blk.cell (HS.out.get 0 rfl) 0 rfl
          have p_yv_1 := Blk.cell (HS.out.get 0 rfl) 1 rfl
          
          go_wp2_with fail
          clear p_yv_0 p_yv_1
          refine (clf _ _ _ (HS.out.readsU 1 rfl) (HS.out.readsV 1 rfl)).mono ?_
          rintro e w24 ⟨rfl, b24⟩
          replace HS : Hid (Sta w w24 [Blk w7.heap.size 26 #[uY, vY], Dsk uY vY zs zs, Blk w5.heap.size 26 #[uF, vF], Dsk uF vF xsF zs, Blk w3.heap.size 26 #[uX, vX], Dsk uX vX ks ns, Blk w1.heap.size 26 #[uD, vD], Dsk uD vD xsD ysD]) := HS.out.next b24
          clear b24
          have p_yv_0 := Blk.cell (HS.out.get 0 rfl) 0 rfl
          have p_yv_1 := Blk.cell (HS.out.get 0 rfl) 1 rfl
          have p_fv_0 := Blk.cell (HS.out.get 2 rfl) 0 rfl
          have p_fv_1 := Blk.cell (HS.out.get 2 rfl) 1 rfl
          
          go_wp2_with fail
          clear p_yv_0 p_yv_1 p_fv_0 p_fv_1
          refine (clk _ _ _ (HS.out.readsV 1 rfl) (HS.out.readsV 3 rfl)).mono ?_
          rintro e w25 ⟨rfl, n25, hw25⟩
          replace HS : Hid (Sta w w25 [Blk w7.heap.size 26 #[uY, vY], Dsk uY vY zs zs, Blk w5.heap.size 26 #[uF, vF], Dsk uF vF xsF zs, Blk w3.heap.size 26 #[uX, vX], Dsk uX vX ks ns, Blk w1.heap.size 26 #[uD, vD], Dsk uD vD xsD ysD]) := HS.out.drew hw25
          clear hw25
          go_wp2_with fail
          go_meet
          case rel => exact ⟨rfl, HS⟩
      case rest =>
        clear HS
        obtain ⟨rfl, HS⟩ := hcut
        clear HF ckf
        replace HS : Hid (Sta w wc [Dsk uY vY zs zs, Blk w5.heap.size 26 #[uF, vF], Dsk uF vF xsF ysF, Blk w3.heap.size 26 #[uX, vX], Dsk uX vX ks ns, Blk w1.heap.size 26 #[uD, vD], Dsk uD vD xsD ysD]) := HS.out.drop 0
        replace HS : Hid (Sta w wc [Blk w5.heap.size 26 #[uF, vF], Dsk uF vF xsF ysF, Blk w3.heap.size 26 #[uX, vX], Dsk uX vX ks ns, Blk w1.heap.size 26 #[uD, vD], Dsk uD vD xsD ysD]) := HS.out.drop 0
        replace HS : Hid (Sta w wc [Dsk uF vF xsF ysF, Blk w3.heap.size 26 #[uX, vX], Dsk uX vX ks ns, Blk w1.heap.size 26 #[uD, vD], Dsk uD vD xsD ysD]) := HS.out.drop 0
        replace HS : Hid (Sta w wc [Blk w3.heap.size 26 #[uX, vX], Dsk uX vX ks ns, Blk w1.heap.size 26 #[uD, vD], Dsk uD vD xsD ysD]) := HS.out.drop 0
        cases pb with
        | false =>
          have HK1 : Hid (bk = true → ks = xsD ∧ ns = ysD) := HK.out.1 rfl
          clear HK
          have p_dv_0 := Blk.cell (HS.out.get 2 rfl) 0 rfl
          have p_dv_1 := Blk.cell (HS.out.get 2 rfl) 1 rfl
          
          go_wp2_with fail
          clear p_dv_0 p_dv_1
          refine (csk _ _ _ (HS.out.readsU 3 rfl) (HS.out.readsV 3 rfl)).mono ?_
          rintro e w23 ⟨rfl, b23⟩
          replace HS : Hid (Sta w w23 [Blk w3.heap.size 26 #[uX, vX], Dsk uX vX ks ns, Blk w1.heap.size 26 #[uD, vD], Dsk uD vD xsD ysD]) := HS.out.next b23
          clear b23
          cases bk with
          | false =>
            have HB : Hid (Below w.heap.size w _) := HS.out.below
            clear HS
            go_wp2_with fail
            go_ret
            exact ⟨rfl, HB.out⟩
          | true =>
            obtain ⟨m1, m2⟩ := HK1.out rfl
            clear HK1 csk
            subst m1 m2
            have p_xv_0 := Blk.cell (HS.out.get 0 rfl) 0 rfl
            have p_xv_1 := Blk.cell (HS.out.get 0 rfl) 1 rfl
            have p_dv_0 := Blk.cell (HS.out.get 2 rfl) 0 rfl
            have p_dv_1 := Blk.cell (HS.out.get 2 rfl) 1 rfl
            
            go_wp2_with fail
            clear p_xv_0 p_xv_1 p_dv_0 p_dv_1
            refine (likeDisk_any _ _ _ _ _ _ _ (HS.out.readsU 1 rfl) (HS.out.readsV 1 rfl) (HS.out.readsU 3 rfl) (HS.out.readsV 3 rfl) gk gn).mono ?_
            rintro e w24 ⟨rfl, b24⟩
            replace HS : Hid (Sta w w24 [Blk w3.heap.size 26 #[uX, vX], Dsk uX vX ks ns, Blk w1.heap.size 26 #[uD, vD], Dsk uD vD ks ns]) := HS.out.next b24
            clear b24
            have HB : Hid (Below w.heap.size w _) := HS.out.below
            clear HS
            go_wp2_with fail
            go_ret
            exact ⟨rfl, HB.out⟩
        | true =>
          obtain ⟨m1, m2, m3, m4⟩ := HK.out.2 rfl
          have hl := blocksOk_len (bothOk_yes' m1).2.1
          have hle := (bothOk_yes' m1).2.2
          have hi : 0 ≤ i ∧ i < (ysD.length : Int) := by simp [placeOk] at m2; exact ⟨m2.1, m2.2.1⟩
          have hlo := loose_set m1 m2
          have hat := getD_set ysD i.toNat x (by omega)
          rw [← m4] at hlo hat
          have hln : ns.length = ysD.length := by rw [m4, List.length_set]
          subst m3
          clear HK csk m1 m2 m4
          have cl : ∀ u v w', Reads w' u ks → Reads w' v ns → _ := fun u v w' h h' => loose_any u v ks ns w' h h' gk gn
          have clk : ∀ u v w', Reads w' u ks → Reads w' v ks → _ := fun u v w' h h' => like_any u v ks ks w' h h' gk
          simp only at clk
          obtain ⟨d1, hd1⟩ : ∃ d1, d1 = differI ks ns := ⟨_, rfl⟩
          obtain ⟨q, hq⟩ : ∃ q, q = ks.getD i.toNat 0 := ⟨_, rfl⟩
          simp only [← hd1] at cl
          rw [← hd1, ← hq] at hlo
          have cin : ∀ w', _ := fun w' => sin_any d1 i w'
          simp only [hlo] at cin
          obtain ⟨n, hn⟩ : ∃ n, n = ysD.length := ⟨_, rfl⟩
          have l1 : ks.length = n := by omega
          have l2 : ns.length = n := by omega
          rw [← hn] at hi hl
          obtain ⟨hi0, hi1⟩ := hi
          obtain ⟨gN, cN, heN, -⟩ := World.ownsRow.form (HS.out.get 1 rfl).2.1 (by omega)
          obtain ⟨gU, cU, heU, -⟩ := World.ownsRow.form (HS.out.get 3 rfl).1 (by omega)
          rw [l2] at heN
          rw [l1] at heU
          subst heN heU
          have HA : Hid (hat = hat) := rfl
          have aN : Hid (∀ wy, Own wy 0 (.slice (some ⟨gN, 0, none⟩) n cN) ns → wy.cell? ⟨gN, i.toNat, none⟩ = some (.int .i64 x)) := fun wy h => by rw [Own.cellAt h i.toNat (by omega), hat]
          have aU : Hid (∀ wy, Own wy 0 (.slice (some ⟨gU, 0, none⟩) n cU) ks → wy.cell? ⟨gU, i.toNat, none⟩ = some (.int .i64 q)) := fun wy h => by rw [Own.cellAt h i.toNat (by omega), ← hq]
          clear HA hat hlo hd1 hq hn l1 l2 hln hle
          have hxx : (x == x) = true := by simp
          
          go_wp2_with fail
          replace HS := HS.out.drew1
          replace HS : Hid _ := HS
          have r0_0 := Blk.cell (HS.out.get 0 rfl) 0 (x := uX) rfl
          have r0_1 := Blk.cell (HS.out.get 0 rfl) 1 (x := (.slice (some ⟨gN, 0, none⟩) n cN)) rfl
          have r0_2 := Blk.cell (HS.out.get 2 rfl) 0 (x := (.slice (some ⟨gU, 0, none⟩) n cU)) rfl
          have r0_3 := Blk.cell (HS.out.get 2 rfl) 1 (x := vD) rfl
          have r0_4 := aN.out _ (HS.out.get 1 rfl).2.1
          have r0_5 := aU.out _ (HS.out.get 3 rfl).1
          go_region_held3 (fun w' => w'.cell? ⟨w3.heap.size, 0, none⟩ = some uX ∧ w'.cell? ⟨w3.heap.size, 1, none⟩ = some (.slice (some ⟨gN, 0, none⟩) n cN) ∧ w'.cell? ⟨w1.heap.size, 0, none⟩ = some (.slice (some ⟨gU, 0, none⟩) n cU) ∧ w'.cell? ⟨w1.heap.size, 1, none⟩ = some vD ∧ w'.cell? ⟨gN, i.toNat, none⟩ = some (.int .i64 x) ∧ w'.cell? ⟨gU, i.toNat, none⟩ = some (.int .i64 q)) (refine ⟨?_, ?_, ?_, ?_, ?_, ?_⟩ <;> assumption)
            (first
              | (go_at_call 26; refine (clk _ _ _ (HS.out.readsU 1 rfl) (HS.out.readsU 3 rfl)).mono ?_; rintro e w23 ⟨rfl, n23, hw23⟩; replace HS : Hid (Sta w w23 [Blk w3.heap.size 26 #[uX, (.slice (some ⟨gN, 0, none⟩) n cN)], Dsk uX (.slice (some ⟨gN, 0, none⟩) n cN) ks ns, Blk w1.heap.size 26 #[(.slice (some ⟨gU, 0, none⟩) n cU), vD], Dsk (.slice (some ⟨gU, 0, none⟩) n cU) vD ks ysD]) := HS.out.drew hw23; clear hw23; have r1_0 := Blk.cell (HS.out.get 0 rfl) 0 (x := uX) rfl; have r1_1 := Blk.cell (HS.out.get 0 rfl) 1 (x := (.slice (some ⟨gN, 0, none⟩) n cN)) rfl; have r1_2 := Blk.cell (HS.out.get 2 rfl) 0 (x := (.slice (some ⟨gU, 0, none⟩) n cU)) rfl; have r1_3 := Blk.cell (HS.out.get 2 rfl) 1 (x := vD) rfl; have r1_4 := aN.out _ (HS.out.get 1 rfl).2.1; have r1_5 := aU.out _ (HS.out.get 3 rfl).1)
              | (go_at_call 21; refine (cl _ _ _ (HS.out.readsU 1 rfl) (HS.out.readsV 1 rfl)).mono ?_; rintro e w24 ⟨rfl, b24⟩; replace HS : Hid (Sta w w24 [Blk w3.heap.size 26 #[uX, (.slice (some ⟨gN, 0, none⟩) n cN)], Dsk uX (.slice (some ⟨gN, 0, none⟩) n cN) ks ns, Blk w1.heap.size 26 #[(.slice (some ⟨gU, 0, none⟩) n cU), vD], Dsk (.slice (some ⟨gU, 0, none⟩) n cU) vD ks ysD]) := HS.out.next b24; clear b24; have r2_0 := Blk.cell (HS.out.get 0 rfl) 0 (x := uX) rfl; have r2_1 := Blk.cell (HS.out.get 0 rfl) 1 (x := (.slice (some ⟨gN, 0, none⟩) n cN)) rfl; have r2_2 := Blk.cell (HS.out.get 2 rfl) 0 (x := (.slice (some ⟨gU, 0, none⟩) n cU)) rfl; have r2_3 := Blk.cell (HS.out.get 2 rfl) 1 (x := vD) rfl; have r2_4 := aN.out _ (HS.out.get 1 rfl).2.1; have r2_5 := aU.out _ (HS.out.get 3 rfl).1)
              | (go_at_call 27; refine (cin _).mono ?_; rintro e w' ⟨rfl, hw'⟩; subst w'; have r3_0 := Blk.cell (HS.out.get 0 rfl) 0 (x := uX) rfl; have r3_1 := Blk.cell (HS.out.get 0 rfl) 1 (x := (.slice (some ⟨gN, 0, none⟩) n cN)) rfl; have r3_2 := Blk.cell (HS.out.get 2 rfl) 0 (x := (.slice (some ⟨gU, 0, none⟩) n cU)) rfl; have r3_3 := Blk.cell (HS.out.get 2 rfl) 1 (x := vD) rfl; have r3_4 := aN.out _ (HS.out.get 1 rfl).2.1; have r3_5 := aU.out _ (HS.out.get 3 rfl).1))
          clear r0_0 r0_1 r0_2 r0_3 r0_4 r0_5 r1_0 r1_1 r1_2 r1_3 r1_4 r1_5 r2_0 r2_1 r2_2 r2_3 r2_4 r2_5 r3_0 r3_1 r3_2 r3_3 r3_4 r3_5
          have HB : Hid (Below w.heap.size w _) := HS.out.below
          clear HS
          go_wp2_with fail
          go_ret
          exact ⟨rfl, HB.out⟩

set_option maxRecDepth 100000 in
theorem lifted (os : Os) (started : os.Started) (H : Type) (enc : TypeId × Value → H) :
    ReturnsInHanded {} Try.checked os 3 .any (Rows.fnDiskSpec.pre6 enc Try.prog Try.f3 Rows.fnDiskRow.domain false) (Rows.fnDiskSpec.post enc Try.prog Try.f3 false true false false) := by
  refine returnsInHanded_of_change (C := Try.checked) own started (by kernel_rfl) Try.func3
    (ChangeSpec.witness6 (enc := enc) (C := Try.checked) false ⟨#[], #[.slice none 0 0], []⟩ 8 (by kernel_rfl) (by kernel_rfl) (by kernel_rfl) (by kernel_rfl)) ?_
  intro W base args ds gs before hval0 hW hcnd _
  have hval : ∀ (j : Nat) t v, Try.f3.params[j]? = some t → args[j]? = some v → Value.okWide Try.prog W .any base t v := hval0
  have hW' := hW
  obtain ⟨p, q, hA0, hV, rfl, hfz, hnd⟩ := hW
  have hA : DataW.TrodAll enc Try.prog W 0 (fun _ => true) true Try.f3.params.toList args.toList ds p := hA0
  rw [Try.params3] at hA hval
  obtain ⟨v0, vs0, d0, ds0, p0, q0, hargs, rfl, rfl, h0, r0⟩ := trodAll_cons hA
  obtain ⟨rfl, rfl, rfl⟩ := trodAll_nil r0
  obtain rfl : args = #[v0] := by cases args; simp_all
  obtain ⟨rfl, rfl⟩ := trodVars_none hV
  obtain ⟨a0, len0, cap0, rfl⟩ := okWide_slice Try.underlying22 (hval 0 22 v0 rfl rfl)
  have k0 := h0
  have lt0 : ∀ x ∈ p0, x.block < W.heap.size := by obtain ⟨m, hm⟩ := k0; exact DataW.trod_lt m _ _ _ hm
  obtain ⟨z0, w0⟩ : ∃ zs, IsRow .u8 W a0 len0 cap0 zs := by
    obtain ⟨fuel, hf⟩ := h0
    rcases open_ints Try.underlying22 Try.underlying5 (by kernel_rfl) hf with ⟨hcs, _⟩ | ⟨x, l, c, zs, hcs, _, hl, hm, hz, _, hcell, hwz⟩
    · simp [Value.cells] at hcs
      obtain ⟨rfl, rfl, rfl⟩ := hcs
      exact ⟨[], .inl ⟨rfl, rfl, rfl, rfl⟩⟩
    · simp [Value.cells] at hcs
      obtain ⟨rfl, rfl, rfl⟩ := hcs
      exact ⟨zs, .inr ⟨_, rfl, hl, hm, by simpa using hz, hcell, hwz⟩⟩
  clear hA0 hval0
  refine (walk a0 len0 cap0 z0 W w0).mono fun e W' ⟨he, bel⟩ => ?_
  subst he
  exact ⟨_, rfl, _, _, _, [], _, [], hW', trodAll_mk1 (shut_bool Try.underlying4 _), (trodAll_cons_mk (Below.trod laidOut (by kernel_rfl) (of_decide_eq_true (by kernel_rfl)) k0 bel lt0) trodAll_mk0), rfl, bel.frame _, fun h => by cases h⟩

theorem over : Rows.fnDiskRow.holds Try.pinned (OpenSpec.ofChange Rows.fnDiskSpec) :=
  OpenClaim.holds_of_wide 3 Try.f3 rfl rfl rfl rfl rfl rfl rfl ⟨rfl, rfl, rfl, rfl, rfl⟩ rfl rfl rfl rfl rfl (by kernel_rfl) Try.func3 (by kernel_rfl)
    (of_decide_eq_true (by kernel_rfl)) (by unfold Func.isWrapper; first | (rw [if_pos (by decide +kernel)]; kernel_rfl) | (rw [if_neg (by decide +kernel)]; exact ⟨rfl, rfl⟩))
    (fun os started H enc _ => lifted os started H enc)

theorem proved : Rows.FnDiskSaid := over
end Go.Proofs.Ythjgannjahcmiaa.fnDisk
namespace Go.Proofs.Ythjgannjahcmiaa
theorem fnDisk_holds : Rows.FnDiskSaid := fnDisk.proved
end Go.Proofs.Ythjgannjahcmiaa
