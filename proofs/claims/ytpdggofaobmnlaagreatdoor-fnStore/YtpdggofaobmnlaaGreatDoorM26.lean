import Derived.Test.YtpdggofaobmnlaaGreatDoorM24
import Derived.Test.YtpdggofaobmnlaaGreatDoorM25
import Derived.Test.YtpdggofaobmnlaaGreatDoorM14
import Derived.Test.YtpdggofaobmnlaaGreatDoorM20
import Derived.Test.YtpdggofaobmnlaaGreatDoorM9
import Derived.Shelf.Strings.Builder1
import Derived.Shelf.Strings.Builder2
import Derived.Shelf.Strings.OnBuilder
import Derived.Shelf.Strings.Builder2Cap
import Derived.Shelf.Strconv.Itoa0
import Derived.Shelf.Strconv.Itoa1
import Derived.Shelf.LaysM
import Derived.Shelf.Strconv.Itoa2
import Derived.Shelf.Strconv.Itoa3
import Derived.Shelf.Strconv.Itoa4
import Derived.Test.YtpdggofaobmnlaaGreatDoorProg
import Derived.Lib.AppendIntMem
import Derived.Test.YtpdggofaobmnlaaGreatDoorM5
import Derived.WalkKit
import Derived.LaidEql
import Derived.Stop.Asserts
import Derived.RowKitTokens
/- The program's store, on: freshStore, NewStore, Power. -/
set_option maxRecDepth 20000
set_option maxHeartbeats 4000000
namespace Go.Proofs.YtpdggofaobmnlaaGreatDoor
open Go.ChangeShapes Go.WideShapes Go.ChangeAt Go.RowKit
theorem ifreshStore_any (u v q:Value) (xs ys:List Int) (h:Hd) (w:World) (hu:Reads w u xs) (hv:Reads w v ys) (hq:Reads w q h.ks) (hx1:1≤xs.length) (hy1:1≤ys.length) (hk1:1≤h.ks.length) (gx:xs.length≤1099511627776) (gy:ys.length≤1099511627776) (gk:h.ks.length≤1099511627776):
  Calls Tryz.prog 32 #[SRV u v q h] w fun e w'=>∃a b k,e=.returned (SRV a b k h)∧OwnR w' w.heap.size a b k xs ys h.ks∧Below w.heap.size w w':=by
 obtain⟨w1,hw1⟩:∃w1,w1=(w.alloc (.cells (srA u v q h) 30)).alloc (.cells zeR 30):=⟨_,rfl⟩
 have b1:Below w.heap.size w w1:=by rw[hw1];exact((Below.refl _ _).alloc (Nat.le_refl _) _).alloc (by simp) _
 have S1:Hid (StB w1 w.heap.size 30 (srA u v q h)∧StB w1 (w.heap.size+1) 30 zeR∧Below w.heap.size w w1∧w.heap.size+2≤w1.heap.size):=by
  have a2:=StB.new (w.alloc (.cells (srA u v q h) 30)) 30 zeR
  simp only[World.size_alloc]at a2
  exact⟨by rw[hw1];exact(StB.new w _ _).alloc _,by rw[hw1];exact a2,b1,by rw[hw1];simp⟩
 have C1:Hid (∀wx,Below w1.heap.size w1 wx→Calls Tryz.prog 79 #[.agg #[u,v]] wx fun e w'=>∃a b,e=.returned (.agg #[a,b])∧OwnD w' wx.heap.size a b xs ys∧Below wx.heap.size wx w'):=fun wx e=>freshDisk_any u v xs ys wx ((hu.below b1 (Nat.le_refl _)).below e (Nat.le_refl _)) ((hv.below b1 (Nat.le_refl _)).below e (Nat.le_refl _)) hx1 hy1 gx gy
 have C2:Hid (∀wx,Below w1.heap.size w1 wx→Calls Tryz.prog 80 #[HV q h] wx fun e w'=>∃u,e=.returned (HV u h)∧Own w' wx.heap.size u h.ks∧Below wx.heap.size wx w'):=fun wx e=>ifreshH_any q h wx ((hq.below b1 (Nat.le_refl _)).below e (Nat.le_refl _)) hk1 gk
 obtain⟨uo,uc,rfl⟩:=reads_form hu
 obtain⟨vo,vc,rfl⟩:=reads_form hv
 obtain⟨qo,qc,rfl⟩:=reads_form hq
 clear b1 hu hv hq gx gy gk hx1 hy1 hk1
 have q0:∀w',Sp (w.heap.size+1) w1 w'→w'.cell? ⟨w.heap.size,0,none⟩=some (.slice uo xs.length uc):=fun w' b=>b _ _ (by simp) (S1.out.1.cell 0 rfl)
 have q1:∀w',Sp (w.heap.size+1) w1 w'→w'.cell? ⟨w.heap.size,1,none⟩=some (.slice vo ys.length vc):=fun w' b=>b _ _ (by simp) (S1.out.1.cell 1 rfl)
 have q2:∀w',Sp (w.heap.size+1) w1 w'→w'.cell? ⟨w.heap.size,2,none⟩=some (.slice qo h.ks.length qc):=fun w' b=>b _ _ (by simp) (S1.out.1.cell 2 rfl)
 have q3:∀w',Sp (w.heap.size+1) w1 w'→w'.cell? ⟨w.heap.size,3,none⟩=some (.int .i64 h.kd):=fun w' b=>b _ _ (by simp) (S1.out.1.cell 3 rfl)
 have q4:∀w',Sp (w.heap.size+1) w1 w'→w'.cell? ⟨w.heap.size,4,none⟩=some (.int .i64 h.ho):=fun w' b=>b _ _ (by simp) (S1.out.1.cell 4 rfl)
 have q5:∀w',Sp (w.heap.size+1) w1 w'→w'.cell? ⟨w.heap.size,5,none⟩=some (.int .i64 h.tu):=fun w' b=>b _ _ (by simp) (S1.out.1.cell 5 rfl)
 unfold SRV
 conv in srA=>unfold srA
 unfold HV hdA at C2
 unfold srA zeR at hw1
 go_enter Tryz.func32,Tryz.ntmps32
 go_upto_region 1 with fail
 rw[←hw1]
 clear hw1
 go_region_held3 (fun w'=>Sp (w.heap.size+1) w1 w') ((repeat'(first|with_reducible assumption|with_reducible exact Sp.refl _ _|with_reducible refine Sp.al ?_|with_reducible refine Sp.dr ?_|with_reducible refine Sp.set ?_|with_reducible refine Sp.put ?_ (by with_reducible assumption)|with_reducible refine Sp.bel ?_ (by with_reducible assumption))))
  (first
   |(go_at_call 79;refine(C1.out _ (by repeat'(first|with_reducible assumption|with_reducible exact Below.refl _ _|with_reducible refine bel_alloc ?_|with_reducible refine bel_drew ?_|with_reducible refine bel_trans ?_ (by with_reducible assumption)))).mono ?_;rintro e w3 ⟨a,b,rfl,o3,b3⟩;obtain⟨ao,ac,rfl⟩:=o3.1.reads.form;obtain⟨bo,bc,rfl⟩:=o3.2.1.reads.form;have O3:Hid (OwnD w3 _ (.slice ao xs.length ac) (.slice bo ys.length bc) xs ys):=o3;clear o3)
   |(go_at_call 80;refine(C2.out _ (by repeat'(first|with_reducible assumption|with_reducible exact Below.refl _ _|with_reducible refine bel_alloc ?_|with_reducible refine bel_drew ?_|with_reducible refine bel_trans ?_ (by with_reducible assumption)))).mono ?_;rintro e w4 ⟨z,rfl,o4,b4⟩;have hap:Hid (apart (.slice ao xs.length ac) z∧apart (.slice bo ys.length bc) z):=⟨apart_of O3.out.1 o4 (bl_size (by repeat'(first|with_reducible assumption|with_reducible exact Below.refl _ _|with_reducible refine bel_alloc ?_|with_reducible refine bel_drew ?_|with_reducible refine bel_trans ?_ (by with_reducible assumption)))),apart_of O3.out.2.1 o4 (bl_size (by repeat'(first|with_reducible assumption|with_reducible exact Below.refl _ _|with_reducible refine bel_alloc ?_|with_reducible refine bel_drew ?_|with_reducible refine bel_trans ?_ (by with_reducible assumption))))⟩;obtain⟨zo,zc,rfl⟩:=o4.reads.form;have B4:Hid (Below w1.heap.size w1 w4):=(show Below w1.heap.size w1 w4 from(by repeat'(first|with_reducible assumption|with_reducible exact Below.refl _ _|with_reducible refine bel_alloc ?_|with_reducible refine bel_drew ?_|with_reducible refine bel_trans ?_ (by with_reducible assumption))));have O4:Hid (OwnR w4 (w.heap.size+2) (.slice ao xs.length ac) (.slice bo ys.length bc) (.slice zo h.ks.length zc) xs ys h.ks):=⟨⟨(O3.out.1.mono (Nat.le_trans S1.out.2.2.2 (bl_size (by repeat'(first|with_reducible assumption|with_reducible exact Below.refl _ _|with_reducible refine bel_alloc ?_|with_reducible refine bel_drew ?_|with_reducible refine bel_trans ?_ (by with_reducible assumption)))))).below (by repeat'(first|with_reducible assumption|with_reducible exact Below.refl _ _|with_reducible refine bel_alloc ?_|with_reducible refine bel_drew ?_|with_reducible refine bel_trans ?_ (by with_reducible assumption))),(O3.out.2.1.mono (Nat.le_trans S1.out.2.2.2 (bl_size (by repeat'(first|with_reducible assumption|with_reducible exact Below.refl _ _|with_reducible refine bel_alloc ?_|with_reducible refine bel_drew ?_|with_reducible refine bel_trans ?_ (by with_reducible assumption)))))).below (by repeat'(first|with_reducible assumption|with_reducible exact Below.refl _ _|with_reducible refine bel_alloc ?_|with_reducible refine bel_drew ?_|with_reducible refine bel_trans ?_ (by with_reducible assumption))),O3.out.2.2⟩,o4.mono (Nat.le_trans S1.out.2.2.2 (bl_size (by repeat'(first|with_reducible assumption|with_reducible exact Below.refl _ _|with_reducible refine bel_alloc ?_|with_reducible refine bel_drew ?_|with_reducible refine bel_trans ?_ (by with_reducible assumption))))),hap.out⟩;have R4:=S1.out.2.1.below B4.out;have r0:w4.cell? ⟨w.heap.size+1,0,none⟩=some (.slice none 0 0):=R4.cell 0 rfl;have r1:w4.cell? ⟨w.heap.size+1,1,none⟩=some (.slice none 0 0):=R4.cell 1 rfl;have r2:w4.cell? ⟨w.heap.size+1,2,none⟩=some (.slice none 0 0):=R4.cell 2 rfl;have r3:w4.cell? ⟨w.heap.size+1,3,none⟩=some (.int .i64 0):=R4.cell 3 rfl;have r4:w4.cell? ⟨w.heap.size+1,4,none⟩=some (.int .i64 0):=R4.cell 4 rfl;have r5:w4.cell? ⟨w.heap.size+1,5,none⟩=some (.int .i64 0):=R4.cell 5 rfl;have f0:=R4.frozen 0;have f1:=R4.frozen 1;have f2:=R4.frozen 2;have f3:=R4.frozen 3;have f4:=R4.frozen 4;have f5:=R4.frozen 5;clear o4))
 all_goals
  go_wp2
  have R4:StB w4 (w.heap.size+1) 30 _:=S1.out.2.1.below B4.out
  have G6:=put6_grown w4 (w.heap.size+1) (.slice ao xs.length ac) (.slice bo ys.length bc) (.slice zo h.ks.length zc) h
  refine bodyPost_ret (results_S Tryz.isR rfl _ _ (w.heap.size+1) (srA (.slice ao xs.length ac) (.slice bo ys.length bc) (.slice zo h.ks.length zc) h) rfl rfl (put6_st (.slice ao xs.length ac) (.slice bo ys.length bc) (.slice zo h.ks.length zc) h R4)) rfl ?_
  have B5:=S1.out.2.2.1.trans (B4.out.mono S1.out.2.2.1.size)
  exact⟨_,_,_,rfl,(O4.out.keptLt G6 (by omega)).mono (by omega),B5.grown G6 B5.size (fun k e=>by cases e;omega)⟩
theorem inewStore_any (n:Int) (w:World):
  Calls Tryz.prog 9 #[.int .i64 n] w fun e w'=>∃a b k,e=.returned (.tuple #[SRV a b k (newS n).h,.bool (cntOk n)])∧OwnR w' w.heap.size a b k (newS n).xs (newS n).ys (newS n).h.ks∧Below w.heap.size w w':=by
 obtain⟨w1,hw1⟩:∃w1,w1=w.alloc (.cells #[.slice none 0 0,.slice none 0 0,.slice none 0 0,.int .i64 0,.int .i64 0,.int .i64 0] 30):=⟨_,rfl⟩
 have S1:Hid (StB w1 w.heap.size 30 zeR∧Below w.heap.size w w1∧w.heap.size+1≤w1.heap.size):=⟨by rw[hw1];exact StB.new _ _ _,by rw[hw1];exact(Below.refl _ _).alloc (Nat.le_refl _) _,by rw[hw1];simp⟩
 have c1:=newDisk_any n w1
 cases hn:cntOk n with
 |false=>
  rw[hn]at c1
  rw[newS_no hn]
  clear hn
  go_enter Tryz.func9,Tryz.ntmps9
  go_upto_region 1 with fail
  rw[←hw1]
  clear hw1
  go_wp2_with fail
  refine c1.mono ?_
  rintro e w2 ⟨a,b,rfl,o2,b2⟩
  obtain⟨ao,ac,rfl⟩:=o2.1.reads.form
  obtain⟨bo,bc,rfl⟩:=o2.2.1.reads.form
  obtain⟨w3,hw3⟩:∃w3,w3=w2.alloc (.cells #[.slice ao (zerosI n).length ac,.slice bo (zerosI n).length bc] 26):=⟨_,rfl⟩
  have b3:Below w2.heap.size w2 w3:=by rw[hw3];exact(Below.refl _ _).alloc (Nat.le_refl _) _
  have S3:Hid (StB w3 w.heap.size 30 zeR∧Below w.heap.size w w3):=⟨(S1.out.1.below b2).below b3,(S1.out.2.1.trans (b2.mono S1.out.2.1.size)).trans (b3.mono (Nat.le_trans S1.out.2.1.size b2.size))⟩
  clear S1 b2 b3 o2 c1
  go_upto_region 2 with fail
  rw[←hw3]
  clear hw3
  go_wp2_with (refine wpList_putS Tryz.isR rfl _ _ rfl w.heap.size zeR zeR rfl rfl rfl rfl (srA_one Hd.zero rfl rfl rfl) S3.out.1 ?_;intro w5 s5 g5)
  refine bodyPost_ret (results_S2 Tryz.isR rfl _ _ w.heap.size _ _ rfl rfl rfl s5) rfl ?_
  exact⟨_,_,_,rfl,OwnR.nil _ _,S3.out.2.grown g5 S3.out.2.size (fun k e=>by cases e;omega)⟩
 |true=>
  rw[hn]at c1
  rw[newS_yes hn]
  clear hn
  have HN:=fun wx=>inewH_any wx
  have CN:Hid (∀wx,Calls Tryz.prog 37 #[] wx fun e w'=>∃u,e=.returned (HV u Hd.new)∧Own w' wx.heap.size u Hd.new.ks∧Below wx.heap.size wx w'):=HN
  clear HN
  unfold HV hdA at CN
  go_enter Tryz.func9,Tryz.ntmps9
  go_upto_region 1 with fail
  rw[←hw1]
  clear hw1
  go_wp2_with fail
  refine c1.mono ?_
  rintro e w2 ⟨a,b,rfl,o2,b2⟩
  obtain⟨ao,ac,rfl⟩:=o2.1.reads.form
  obtain⟨bo,bc,rfl⟩:=o2.2.1.reads.form
  obtain⟨w3,hw3⟩:∃w3,w3=w2.alloc (.cells #[.slice ao (zerosI n).length ac,.slice bo (zerosI n).length bc] 26):=⟨_,rfl⟩
  have b3:Below w2.heap.size w2 w3:=by rw[hw3];exact(Below.refl _ _).alloc (Nat.le_refl _) _
  have S3:Hid (StB w3 w.heap.size 30 zeR∧Below w.heap.size w w3∧StB w3 w2.heap.size 26 #[.slice ao (zerosI n).length ac,.slice bo (zerosI n).length bc]∧OwnD w3 (w.heap.size+1) (.slice ao (zerosI n).length ac) (.slice bo (zerosI n).length bc) (zerosI n) (zerosI n)∧w.heap.size+1≤w2.heap.size∧w2.heap.size≤w3.heap.size):=
   ⟨(S1.out.1.below b2).below b3,(S1.out.2.1.trans (b2.mono S1.out.2.1.size)).trans (b3.mono (Nat.le_trans S1.out.2.1.size b2.size)),by rw[hw3];exact StB.new _ _ _,⟨(o2.1.mono S1.out.2.2).below b3,(o2.2.1.mono S1.out.2.2).below b3,o2.2.2⟩,Nat.le_trans S1.out.2.2 b2.size,b3.size⟩
  clear S1 b2 b3 o2 c1
  go_upto_region 2 with fail
  rw[←hw3]
  clear hw3
  go_upto_region 4 with fail
  obtain⟨g,hg⟩:∃g,g=w2.heap.size:=⟨_,rfl⟩
  rw[←hg]at S3⊢
  clear hg
  have q0:∀w',Sp w.heap.size w3 w'→w'.cell? ⟨g,0,none⟩=some (.slice ao (zerosI n).length ac):=fun w' b=>b _ _ (by have:=S3.out.2.2.2.2.1;dsimp only;omega) (S3.out.2.2.1.cell 0 rfl)
  have q1:∀w',Sp w.heap.size w3 w'→w'.cell? ⟨g,1,none⟩=some (.slice bo (zerosI n).length bc):=fun w' b=>b _ _ (by have:=S3.out.2.2.2.2.1;dsimp only;omega) (S3.out.2.2.1.cell 1 rfl)
  go_region_held3 (fun w'=>Sp w.heap.size w3 w') ((repeat'(first|with_reducible assumption|with_reducible exact Sp.refl _ _|with_reducible refine Sp.al ?_|with_reducible refine Sp.dr ?_|with_reducible refine Sp.set ?_|with_reducible refine Sp.put ?_ (by with_reducible assumption)|with_reducible refine Sp.bel ?_ (by with_reducible assumption))))
   (first
    |(go_at_call 37;refine(CN.out _).mono ?_;rintro e w4 ⟨z,rfl,o4,b4⟩;have hap:Hid (apart (.slice ao (zerosI n).length ac) z∧apart (.slice bo (zerosI n).length bc) z):=⟨apart_of S3.out.2.2.2.1.1 o4 (bl_size (by repeat'(first|with_reducible assumption|with_reducible exact Below.refl _ _|with_reducible refine bel_alloc ?_|with_reducible refine bel_drew ?_|with_reducible refine bel_trans ?_ (by with_reducible assumption)))),apart_of S3.out.2.2.2.1.2.1 o4 (bl_size (by repeat'(first|with_reducible assumption|with_reducible exact Below.refl _ _|with_reducible refine bel_alloc ?_|with_reducible refine bel_drew ?_|with_reducible refine bel_trans ?_ (by with_reducible assumption))))⟩;obtain⟨ko,kc,rfl⟩:=o4.reads.form;have B4:Hid (Below w3.heap.size w3 w4):=(show Below w3.heap.size w3 w4 from(by repeat'(first|with_reducible assumption|with_reducible exact Below.refl _ _|with_reducible refine bel_alloc ?_|with_reducible refine bel_drew ?_|with_reducible refine bel_trans ?_ (by with_reducible assumption))));have O4:Hid (OwnR w4 (w.heap.size+1) (.slice ao (zerosI n).length ac) (.slice bo (zerosI n).length bc) (.slice ko Hd.new.ks.length kc) (zerosI n) (zerosI n) Hd.new.ks):=⟨⟨S3.out.2.2.2.1.1.below B4.out,S3.out.2.2.2.1.2.1.below B4.out,S3.out.2.2.2.1.2.2⟩,o4.mono (Nat.le_trans S3.out.2.2.2.2.1 (Nat.le_trans S3.out.2.2.2.2.2 (bl_size (by repeat'(first|with_reducible assumption|with_reducible exact Below.refl _ _|with_reducible refine bel_alloc ?_|with_reducible refine bel_drew ?_|with_reducible refine bel_trans ?_ (by with_reducible assumption)))))),hap.out⟩;have R4:=S3.out.1.below B4.out;have r0:w4.cell? ⟨w.heap.size,0,none⟩=some (.slice none 0 0):=R4.cell 0 rfl;have f0:=R4.frozen 0;have r1:w4.cell? ⟨w.heap.size,1,none⟩=some (.slice none 0 0):=R4.cell 1 rfl;have f1:=R4.frozen 1;have r2:w4.cell? ⟨w.heap.size,2,none⟩=some (.slice none 0 0):=R4.cell 2 rfl;have f2:=R4.frozen 2;have r3:w4.cell? ⟨w.heap.size,3,none⟩=some (.int .i64 0):=R4.cell 3 rfl;have f3:=R4.frozen 3;have r4:w4.cell? ⟨w.heap.size,4,none⟩=some (.int .i64 0):=R4.cell 4 rfl;have f4:=R4.frozen 4;have r5:w4.cell? ⟨w.heap.size,5,none⟩=some (.int .i64 0):=R4.cell 5 rfl;have f5:=R4.frozen 5;clear o4))
  all_goals
   go_wp2
   have R4:StB w4 w.heap.size 30 zeR:=S3.out.1.below B4.out
   have G6:=put6_grown w4 w.heap.size (.slice ao (zerosI n).length ac) (.slice bo (zerosI n).length bc) (.slice ko Hd.new.ks.length kc) Hd.new
   refine bodyPost_ret (results_S2 Tryz.isR rfl _ _ w.heap.size (srA (.slice ao (zerosI n).length ac) (.slice bo (zerosI n).length bc) (.slice ko Hd.new.ks.length kc) Hd.new) _ rfl rfl rfl (put6_st (.slice ao (zerosI n).length ac) (.slice bo (zerosI n).length bc) (.slice ko Hd.new.ks.length kc) Hd.new R4)) rfl ?_
   have B5:=S3.out.2.1.trans (B4.out.mono S3.out.2.1.size)
   exact⟨_,_,_,rfl,(O4.out.keptLt G6 (by omega)).mono (by omega),B5.grown G6 B5.size (fun k e=>by cases e;omega)⟩
end Go.Proofs.YtpdggofaobmnlaaGreatDoor
namespace Go.Proofs.YtpdggofaobmnlaaGreatDoor
open Go.RowKit
def posB (c:UInt8) (l:Bs):Nat:=(l.takeWhile (fun b=>b !=c)).length
theorem posB_le (c:UInt8) (l:Bs):posB c l≤l.length:=(List.takeWhile_prefix _).length_le
theorem posB_cons (c b:UInt8) (l:Bs):posB c (b::l)=if b=c then 0 else posB c l+1:=by
 unfold posB
 by_cases h:b=c
 ·simp[h]
 ·simp[h]
theorem posB_all (c:UInt8) (l:Bs):posB c l=l.length↔l.all (fun b=>b !=c)=true:=by
 induction l with
 |nil=>simp[posB]
 |cons b l ih=>
  rw[posB_cons]
  by_cases h:b=c
  ·simp[h]
  ·simp[h,ih]
def behind (c:UInt8) (l:Bs):Bs:=l.drop (posB c l+1)
def before (c:UInt8) (l:Bs):Bs:=l.take (posB c l)
theorem behind_len_le (c:UInt8) (l:Bs):(behind c l).length≤l.length:=by simp[behind]
def posC (c:UInt8) (l:Bs):Nat:=(l.takeWhile (fun b=>b !=c)).length
def splitN (c:UInt8):Nat→Bs→List Bs
 |0,l=>[l]
 |k+1,l=>if posC c l=l.length then[l]else l.take (posC c l)::splitN c k (l.drop (posC c l+1))
theorem splitB_first (c:UInt8) (l:Bs):splitB c l=if posC c l=l.length then[l]else l.take (posC c l)::splitB c (l.drop (posC c l+1)):=by
 induction l with
 |nil=>simp[splitB,posC]
 |cons b l ih=>
  by_cases h:b=c
  ·subst h
   simp[splitB,posC]
  ·have hp:posC c (b::l)=posC c l+1:=by simp[posC,h]
   rw[splitB,if_neg h,ih,hp]
   by_cases h2:posC c l=l.length
   ·simp[h2,ahead]
   ·simp[h2,ahead]
theorem splitB_len (c:UInt8) (l:Bs):(splitB c l).length≤l.length+1:=by
 induction l with
 |nil=>simp[splitB]
 |cons b l ih=>
  rw[splitB]
  split
  ·simp;omega
  ·cases hs:splitB c l with
   |nil=>simp[ahead]
   |cons p ps=>rw[hs]at ih;simp[ahead]at ih⊢;omega
theorem splitN_or (c:UInt8) (k:Nat):∀l:Bs,splitN c k l=splitB c l∨((splitN c k l).length=k+1∧k+1<(splitB c l).length):=by
 induction k with
 |zero=>
  intro l
  rw[splitN,splitB_first]
  by_cases h:posC c l=l.length
  ·simp[h]
  ·right
   have:=splitB_ne c (l.drop (posC c l+1))
   have:=List.length_pos_iff.2 this
   simp[h];omega
 |succ k ih=>
  intro l
  rw[splitN,splitB_first]
  by_cases h:posC c l=l.length
  ·simp[h]
  ·simp only[h,if_false]
   rcases ih (l.drop (posC c l+1))with e|⟨e1,e2⟩
   ·left;rw[e]
   ·right;simp only[List.length_cons];omega
theorem splitN_len (c:UInt8) (k:Nat):∀l:Bs,1≤(splitN c k l).length∧(splitN c k l).length≤k+1:=by
 induction k with
 |zero=>intro l;simp[splitN]
 |succ k ih=>
  intro l
  rw[splitN]
  split
  ·simp
  ·have:=ih (l.drop (posC c l+1))
   simp only[List.length_cons];omega
theorem posC_is (c:UInt8) (l:Bs):posC c l=posB c l:=rfl
end Go.Proofs.YtpdggofaobmnlaaGreatDoor
namespace Go.Proofs
open Go.Shelf
def Tryz.lays156_ren:Go.Shelf.Ren:=⟨fun|156=>147|165=>170|166=>171|169=>172|240=>180|241=>181|276=>189|277=>190|n=>n,fun|31=>161|9=>9|3=>3|4=>4|0=>0|20=>20|72=>202|76=>204|70=>200|37=>22|75=>66|127=>221|164=>135|5=>5|80=>206|n=>n,fun|n=>n⟩
theorem Tryz.lays156:Go.Proofs.Lays.n156 Tryz.prog Tryz.lays156_ren:={
 mixed:=by kernel_rfl
 f156:=Tryz.func147.trans (congrArg some (by kernel_rfl))
 f165:=Tryz.func170.trans (congrArg some (by kernel_rfl))
 f166:=Tryz.func171.trans (congrArg some (by kernel_rfl))
 f169:=Tryz.func172.trans (congrArg some (by kernel_rfl))
 f240:=Tryz.func180.trans (congrArg some (by kernel_rfl))
 f241:=Tryz.func181.trans (congrArg some (by kernel_rfl))
 f276:=Tryz.func189.trans (congrArg some (by kernel_rfl))
 f277:=Tryz.func190.trans (congrArg some (by kernel_rfl))
 t0:=Tryz.underlying0
 a0:=Tryz.isAgg0
 z0:=Tryz.sizeOf0
 v0:=Tryz.zeroValue0
 t3:=Tryz.underlying3
 a3:=Tryz.isAgg3
 z3:=Tryz.sizeOf3
 v3:=Tryz.zeroValue3
 t4:=Tryz.underlying4
 a4:=Tryz.isAgg4
 z4:=Tryz.sizeOf4
 v4:=Tryz.zeroValue4
 t9:=Tryz.underlying9
 a9:=Tryz.isAgg9
 z9:=Tryz.sizeOf9
 v9:=Tryz.zeroValue9
 t20:=Tryz.underlying20
 a20:=Tryz.isAgg20
 z20:=Tryz.sizeOf20
 v20:=Tryz.zeroValue20
 t31:=Tryz.underlying161
 a31:=Tryz.isAgg161
 z31:=Tryz.sizeOf161
 v31:=Tryz.zeroValue161
 t37:=Tryz.underlying22
 a37:=Tryz.isAgg22
 z37:=Tryz.sizeOf22
 v37:=Tryz.zeroValue22
 t70:=Tryz.underlying200
 a70:=Tryz.isAgg200
 z70:=Tryz.sizeOf200
 v70:=Tryz.zeroValue200
 t72:=Tryz.underlying202
 a72:=Tryz.isAgg202
 z72:=Tryz.sizeOf202
 v72:=Tryz.zeroValue202
 t75:=Tryz.underlying66
 a75:=Tryz.isAgg66
 z75:=Tryz.sizeOf66
 v75:=Tryz.zeroValue66
 t76:=Tryz.underlying204
 a76:=Tryz.isAgg204
 z76:=Tryz.sizeOf204
 v76:=Tryz.zeroValue204
 t127:=Tryz.underlying221
 a127:=Tryz.isAgg221
 z127:=Tryz.sizeOf221
 v127:=Tryz.zeroValue221
 t164:=Tryz.underlying135
 a164:=Tryz.isAgg135
 z164:=Tryz.sizeOf135
 v164:=Tryz.zeroValue135}
theorem Tryz.Builder_Extra_156:Builder.Extra Tryz.prog Tryz.lays156_ren:={
 sizeBuilder:=by kernel_rfl
 liesBuilder:=by kernel_rfl
 t5:=Tryz.underlying5
 a5:=Tryz.isAgg5
 z5:=Tryz.sizeOf5
 v5:=Tryz.zeroValue5
 infoByte:=by kernel_rfl
 cellsByte:=by kernel_rfl
 sizeByte:=by kernel_rfl
 neB5:=by decide}
open Go.RowKit in
theorem Tryz.strings_Join (bk o c:Nat) (xs:List ByteArray) (sep:ByteArray) (w:World) (hcells:∀(j:Nat) x,xs[j]?=some x→w.cell? ⟨bk,o+j,none⟩=some (.string x)) (hbk:bk<w.heap.size) (hN:xs.length≤140737488355328) (hcap:xs.length≤c) (hlen:(Lib.join (xs.map (·.data.toList)) sep.data.toList).length≤140737488355328):
  Calls Tryz.prog 147 #[.slice (some ⟨bk,o,none⟩) xs.length c,.string sep] w fun e w'=>e=.returned (.string ⟨(Lib.join (xs.map (·.data.toList)) sep.data.toList).toArray⟩)∧Below w.heap.size w w':=Any.strings_Join Tryz.lays156 Tryz.Builder_Extra_156 bk o c xs sep w hcells hbk hN hcap hlen
def Tryz.laysM173_ren:Go.Shelf.Ren:=⟨fun|173=>146|246=>169|283=>176|284=>177|285=>178|286=>179|129=>185|317=>184|318=>186|319=>187|320=>188|337=>204|338=>205|n=>n,fun|2=>2|3=>3|9=>9|4=>4|171=>215|0=>0|53=>216|37=>22|5=>5|173=>219|212=>233|51=>234|20=>20|213=>235|46=>158|232=>244|233=>245|n=>n,fun|17=>5|18=>7|19=>8|n=>n⟩
theorem Tryz.laysM173:Go.Proofs.LaysM.n173 Tryz.prog Tryz.laysM173_ren:={
 mixed:=by kernel_rfl
 f129:=Tryz.func185.trans (congrArg some (by kernel_rfl))
 f173:=Tryz.func146.trans (congrArg some (by kernel_rfl))
 f246:=Tryz.func169.trans (congrArg some (by kernel_rfl))
 f283:=Tryz.func176.trans (congrArg some (by kernel_rfl))
 f284:=Tryz.func177.trans (congrArg some (by kernel_rfl))
 f285:=Tryz.func178.trans (congrArg some (by kernel_rfl))
 f286:=Tryz.func179.trans (congrArg some (by kernel_rfl))
 f317:=Tryz.func184.trans (congrArg some (by kernel_rfl))
 f318:=Tryz.func186.trans (congrArg some (by kernel_rfl))
 f319:=Tryz.func187.trans (congrArg some (by kernel_rfl))
 f320:=Tryz.func188.trans (congrArg some (by kernel_rfl))
 f337:=Tryz.func204.trans (congrArg some (by kernel_rfl))
 f338:=Tryz.func205.trans (congrArg some (by kernel_rfl))
 t0:=Tryz.underlying0
 a0:=Tryz.isAgg0
 z0:=Tryz.sizeOf0
 v0:=Tryz.zeroValue0
 t2:=Tryz.underlying2
 a2:=Tryz.isAgg2
 z2:=Tryz.sizeOf2
 v2:=Tryz.zeroValue2
 t3:=Tryz.underlying3
 a3:=Tryz.isAgg3
 z3:=Tryz.sizeOf3
 v3:=Tryz.zeroValue3
 t4:=Tryz.underlying4
 a4:=Tryz.isAgg4
 z4:=Tryz.sizeOf4
 v4:=Tryz.zeroValue4
 t5:=Tryz.underlying5
 a5:=Tryz.isAgg5
 z5:=Tryz.sizeOf5
 v5:=Tryz.zeroValue5
 t9:=Tryz.underlying9
 a9:=Tryz.isAgg9
 z9:=Tryz.sizeOf9
 v9:=Tryz.zeroValue9
 t20:=Tryz.underlying20
 a20:=Tryz.isAgg20
 z20:=Tryz.sizeOf20
 v20:=Tryz.zeroValue20
 t37:=Tryz.underlying22
 a37:=Tryz.isAgg22
 z37:=Tryz.sizeOf22
 v37:=Tryz.zeroValue22
 t46:=Tryz.underlying158
 a46:=Tryz.isAgg158
 z46:=Tryz.sizeOf158
 v46:=Tryz.zeroValue158
 t51:=Tryz.underlying234
 a51:=Tryz.isAgg234
 z51:=Tryz.sizeOf234
 v51:=Tryz.zeroValue234
 t53:=Tryz.underlying216
 a53:=Tryz.isAgg216
 z53:=Tryz.sizeOf216
 v53:=Tryz.zeroValue216
 t171:=Tryz.underlying215
 a171:=Tryz.isAgg215
 z171:=Tryz.sizeOf215
 v171:=Tryz.zeroValue215
 t173:=Tryz.underlying219
 a173:=Tryz.isAgg219
 z173:=Tryz.sizeOf219
 v173:=Tryz.zeroValue219
 t212:=Tryz.underlying233
 a212:=Tryz.isAgg233
 z212:=Tryz.sizeOf233
 v212:=Tryz.zeroValue233
 t213:=Tryz.underlying235
 a213:=Tryz.isAgg235
 z213:=Tryz.sizeOf235
 t232:=Tryz.underlying244
 a232:=Tryz.isAgg244
 z232:=Tryz.sizeOf244
 v232:=Tryz.zeroValue244
 t233:=Tryz.underlying245
 a233:=Tryz.isAgg245
 z233:=Tryz.sizeOf245
 v233:=Tryz.zeroValue245
 g17:=by kernel_rfl
 g18:=by kernel_rfl
 g19:=by kernel_rfl
 i0:=by kernel_rfl
 i2:=by kernel_rfl
 i3:=by kernel_rfl
 i4:=by kernel_rfl
 i5:=by kernel_rfl
 i9:=by kernel_rfl
 i20:=by kernel_rfl
 i37:=by kernel_rfl
 i46:=by kernel_rfl
 i51:=by kernel_rfl
 i53:=by kernel_rfl
 i171:=by kernel_rfl
 i173:=by kernel_rfl
 i212:=by kernel_rfl
 i232:=by kernel_rfl
 i233:=by kernel_rfl
 m17:=by kernel_rfl
 m18:=by kernel_rfl
 m19:=by kernel_rfl}
open Go.RowKit Go.Sort Go.Lib in
theorem Tryz.strconv_FormatInt_10 (n:Int) (h0: -9223372036854775808≤n) (h1:n≤9223372036854775807) (w:World) (htab:Lib.TabIs Tryz.prog w "internal/strconv.uint64pow10" .u64 Lib.pow10Tab):
  Calls Tryz.prog 146 #[.int .i64 n,.int .i64 10] w fun e w'=>e=.returned (.string ⟨(Lib.itoa n).toArray⟩)∧∃k os,w'=grow (w.drewN k) os:=Any.strconv_FormatInt_10 Tryz.laysM173 n h0 h1 w htab
end Go.Proofs
namespace Go.Proofs.YtpdggofaobmnlaaGreatDoor
open Go.ChangeShapes Go.WideShapes Go.ChangeAt Go.RowKit
abbrev Tab (w:World):Prop:=Lib.TabIs Tryz.prog w "internal/strconv.uint64pow10" .u64 Lib.pow10Tab
theorem Tab.below {w w':World} (h:Tab w) (b:Below w.heap.size w w'):Tab w':=Lib.tabBelow_of_tabIs h w' b
theorem below_grow (w:World) (k:Nat) (os:Array Obj):Below w.heap.size w (Sort.grow (w.drewN k) os):=
 ⟨rfl,rfl,rfl,by simp[Sort.grow],fun j hj=>by
  show(w.heap++os)[j]?=w.heap[j]?
  rw[Array.getElem?_append_left hj]⟩
theorem digits_dec (n:Nat):Lib.decDigits n=dec n:=by
 induction n using Nat.strongRecOn with
 |ind n ih=>
  rw[Lib.decDigits,dec]
  by_cases h:n<10
  ·simp[h,digit,Nat.mod_eq_of_lt h]
  ·simp only[h,dite_false,if_false]
   rw[ih (n/10) (by omega)]
   rfl
theorem itoa_dec (n:Nat):Lib.itoa (n:Int)=dec n:=by
 unfold Lib.itoa
 rw[if_neg (by omega),digits_dec]
 rfl
end Go.Proofs.YtpdggofaobmnlaaGreatDoor
namespace Go.Proofs.YtpdggofaobmnlaaGreatDoor
open Go.ChangeShapes Go.WideShapes Go.ChangeAt Go.RowKit Go.Extern
theorem Tryz.isTypeOf (v:Value) (w:World):(Extern.ReflectliteType.typeOf #[.iface 247 v]).run Tryz.prog w=.ok (.iface 168 (.agg #[.pointer (some ⟨9,247,none⟩)])) w:=by kernel_rfl
theorem Tryz.isComparable (w:World):((Extern.ReflectliteType.method fun t=>do Rtype.noPackHeld "Comparable" t;pure (.bool (←typeInfo t).comparable)) #[.agg #[.pointer (some ⟨9,247,none⟩)]]).run Tryz.prog w=.ok (.bool true) w:=by kernel_rfl
theorem Tryz.isMethodComparable (v:Value) (w:World):(Go.method 378 168 v "Comparable").run Tryz.prog w=.ok (235,v) w:=by kernel_rfl
theorem Tryz.callTypeOf (v:Value) (w:World):(callFunc 117 #[.iface 247 v]).run Tryz.prog w=.ok (.value (.iface 168 (.agg #[.pointer (some ⟨9,247,none⟩)]))) w:=by
 rw[@run_callFunc_extern Tryz.prog 117 _ Extern.ReflectliteType.typeOf Tryz.func117 (by kernel_rfl) (by kernel_rfl) (by kernel_rfl) (by kernel_rfl),Tryz.isTypeOf]
 rfl
theorem Tryz.callComparable (w:World):(callFunc 235 #[.agg #[.pointer (some ⟨9,247,none⟩)]]).run Tryz.prog w=.ok (.value (.bool true)) w:=by
 rw[@run_callFunc_extern Tryz.prog 235 _ (Extern.ReflectliteType.method fun t=>do Rtype.noPackHeld "Comparable" t;pure (.bool (←typeInfo t).comparable)) Tryz.func235 (by kernel_rfl) (by kernel_rfl) (by kernel_rfl) (by kernel_rfl),Tryz.isComparable]
 rfl
theorem Tryz.isComp:(Tryz.prog.info? 247).map (·.comparable)=some true:=by kernel_rfl
theorem Tryz.isSize:(Tryz.prog.info? 266).map (·.size)=some 1:=by kernel_rfl
theorem Tryz.noIsE (v:Value) (xT:TypeId) (w:World):(Instr.typeAssert (.iface 247 v) xT 170 true).run Tryz.prog w=.ok (.tuple #[.nilIface,.bool false]) w:=run_typeAssert_lacksB Tryz.underlying170 (by kernel_rfl) (by kernel_rfl) v xT w
theorem Tryz.noUnwrapE (v:Value) (xT:TypeId) (w:World):(Instr.typeAssert (.iface 247 v) xT 173 true).run Tryz.prog w=.ok (.tuple #[.nilIface,.bool false]) w:=run_typeAssert_lacksB Tryz.underlying173 (by kernel_rfl) (by kernel_rfl) v xT w
theorem Tryz.noUnwrapsE (v:Value) (xT:TypeId) (w:World):(Instr.typeAssert (.iface 247 v) xT 175 true).run Tryz.prog w=.ok (.tuple #[.nilIface,.bool false]) w:=run_typeAssert_lacksB Tryz.underlying175 (by kernel_rfl) (by kernel_rfl) v xT w
theorem Tryz.noIsR (v:Value) (xT:TypeId) (w:World):(Instr.typeAssert (.iface 99 v) xT 170 true).run Tryz.prog w=.ok (.tuple #[.nilIface,.bool false]) w:=run_typeAssert_lacksB Tryz.underlying170 (by kernel_rfl) (by kernel_rfl) v xT w
theorem Tryz.hasUnwrapR (v:Value) (xT:TypeId) (w:World):(Instr.typeAssert (.iface 99 v) xT 173 true).run Tryz.prog w=.ok (.tuple #[.iface 99 v,.bool true]) w:=run_typeAssert_hasB Tryz.underlying173 (by kernel_rfl) v xT w
theorem Tryz.methodUnwrap (v:Value) (w:World):(Go.method 378 99 v "Unwrap").run Tryz.prog w=.ok (229,v) w:=by kernel_rfl
theorem iunwrap_any (x y:Value) (w:World):Calls Tryz.prog 229 #[.agg #[x,y]] w fun e w'=>e=.returned x∧w'=w.alloc (.cells #[x,y] 99):=by
 go_enter Tryz.func229,Tryz.ntmps229
 go_wp2
 go_ret
 exact⟨rfl,rfl⟩
theorem is_same (b:Addr) (y:Value) (w:World):
  Calls Tryz.prog 81 #[.iface 99 (.agg #[.iface 247 (.pointer (some b)),y]),.iface 247 (.pointer (some b))] w fun e w'=>e=.returned (.bool true)∧Below w.heap.size w w':=by
 obtain⟨i,hi,hcmp⟩:=Option.map_eq_some_iff.1 Tryz.isComp
 obtain⟨j,hj,hjs⟩:=Option.map_eq_some_iff.1 Tryz.isSize
 have tT:=Tryz.callTypeOf
 have cT:=Tryz.callComparable
 have mR:=Tryz.isMethodComparable
 have nE:=Tryz.noIsE
 have uE:=Tryz.noUnwrapE
 have vE:=Tryz.noUnwrapsE
 have nW:=Tryz.noIsR
 have uW:=Tryz.hasUnwrapR
 have mU:=Tryz.methodUnwrap
 have B1:Hid (Below w.heap.size w (w.alloc (.cells #[.iface 247 (.pointer (some b)),y] 99))):=(Below.refl _ _).alloc (Nat.le_refl _) _
 have heq:=fun w=>run_eql_iface_ptr_same (P:=Tryz.prog) w b Tryz.underlying66 Tryz.underlying247 hi hcmp hj
 have hty:=run_eql_iface_types (P:=Tryz.prog) 99 247 (.agg #[.iface 247 (.pointer (some b)),y]) (.pointer (some b)) Tryz.underlying66 (by decide) w
 clear hi hcmp hj hjs
 go_enter Tryz.func81,Tryz.ntmps81
 go_wp2_with (go_at_call 118;go_in)
 refine wp_loop_rounds 2 ?_
 rw[rounds_succ]
 go_wp2_with (go_at_call 229;refine(iunwrap_any _ _ _).mono ?_;rintro e w' ⟨rfl,rfl⟩)
 rw[rounds_succ]
 go_wp2
 go_ret
 exact⟨rfl,B1.out⟩
theorem is_other (a b:Addr) (y:Value) (ca cb:Array Value) (ta tb:TypeId) (w:World) (hne:a≠b) (ha:w.heap[a.block]?=some (.cells ca ta (0,0))) (hb:w.heap[b.block]?=some (.cells cb tb (0,0))):
  Calls Tryz.prog 81 #[.iface 99 (.agg #[.iface 247 (.pointer (some a)),y]),.iface 247 (.pointer (some b))] w fun e w'=>e=.returned (.bool false)∧Below w.heap.size w w':=by
 obtain⟨i,hi,hcmp⟩:=Option.map_eq_some_iff.1 Tryz.isComp
 obtain⟨j,hj,hjs⟩:=Option.map_eq_some_iff.1 Tryz.isSize
 have tT:=Tryz.callTypeOf
 have cT:=Tryz.callComparable
 have mR:=Tryz.isMethodComparable
 have nE:=Tryz.noIsE
 have uE:=Tryz.noUnwrapE
 have vE:=Tryz.noUnwrapsE
 have nW:=Tryz.noIsR
 have uW:=Tryz.hasUnwrapR
 have mU:=Tryz.methodUnwrap
 have B1:Hid (Below w.heap.size w (w.alloc (.cells #[.iface 247 (.pointer (some a)),y] 99))):=(Below.refl _ _).alloc (Nat.le_refl _) _
 have la:a.block<w.heap.size:=by
  rcases Nat.lt_or_ge a.block w.heap.size with h|h
  ·exact h
  ·rw[Array.getElem?_eq_none h]at ha;cases ha
 have lb:b.block<w.heap.size:=by
  rcases Nat.lt_or_ge b.block w.heap.size with h|h
  ·exact h
  ·rw[Array.getElem?_eq_none h]at hb;cases hb
 have heq:=run_eql_iface_ptr_other (P:=Tryz.prog) (w.alloc (.cells #[.iface 247 (.pointer (some a)),y] 99)) Tryz.underlying66 Tryz.underlying247 hi hcmp hj (by rw[hjs];decide) hne (by rw[B1.out.block _ la];exact ha) (by rw[B1.out.block _ lb];exact hb)
 clear ha hb la lb hne
 have hty:=run_eql_iface_types (P:=Tryz.prog) 99 247 (.agg #[.iface 247 (.pointer (some a)),y]) (.pointer (some b)) Tryz.underlying66 (by decide) w
 clear hi hcmp hj hjs
 go_enter Tryz.func81,Tryz.ntmps81
 go_wp2_with (go_at_call 118;go_in)
 refine wp_loop_rounds 2 ?_
 rw[rounds_succ]
 go_wp2_with (go_at_call 229;refine(iunwrap_any _ _ _).mono ?_;rintro e w' ⟨rfl,rfl⟩)
 rw[rounds_succ]
 go_wp2
 go_ret
 exact⟨rfl,B1.out⟩
end Go.Proofs.YtpdggofaobmnlaaGreatDoor
