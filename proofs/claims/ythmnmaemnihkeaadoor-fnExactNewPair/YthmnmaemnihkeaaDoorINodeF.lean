/- A new house by the program. -/
import Derived.Test.YthmnmaemnihkeaaDoorM30
import Derived.Test.YthmnmaemnihkeaaDoorM31
import Derived.Test.YthmnmaemnihkeaaDoorM32
set_option maxRecDepth 20000
set_option maxHeartbeats 8000000
namespace Go.Proofs.YthmnmaemnihkeaaDoor
open Go.ChangeShapes Go.WideShapes Go.ChangeAt Go.RowKit
def firstR (o:Bool):Rc:=if o then⟨1,1,0,0⟩else⟨0,3,0,0⟩
theorem firstR_ok (o:Bool):(firstR o).ok=true:=by cases o<;>decide
theorem note_first (o:Bool):noteY [] (firstR o)=true∧noteS [] (firstR o)=framed (showR (firstR o)):=by
 have h:=note_yes (log:=[]) (firstR_ok o) (by have:=framed_show_len (firstR o) (firstR_ok o);simp only[List.length_nil];omega)
 exact⟨h.1,by rw[h.2,List.nil_append]⟩
theorem Nd.new_yes {id bl:Int} {o:Bool} (h:Nd.made id bl=true):Nd.new id bl o=⟨id,true,zerosI bl,zerosI bl,Hd.new,framed (showR (firstR o)),firstR o,Cp.zero,Sn.zero⟩:=by
 unfold Nd.made at h
 unfold Nd.new
 rw[if_pos h]
 rfl
theorem Nd.new_no {id bl:Int} {o:Bool} (h:Nd.made id bl=false):Nd.new id bl o=Nd.zero:=by
 unfold Nd.made at h
 unfold Nd.new
 rw[if_neg (by rw[h];decide)]
theorem two_no {a b:Bool} (h:false=(b&&a)):a=false∨b=false:=by revert h;cases a<;>cases b<;>decide
theorem two_yes {a b:Bool} (h:true=(b&&a)):a=true∧b=true:=by revert h;cases a<;>cases b<;>decide
theorem iNewNode_any (id bl:Int) (ow:Bool) (w:World) (ht:Tab w):
  Calls Tryd.prog 10 #[.int .i64 id,.int .i64 bl,.bool ow] w fun e w'=>∃a b k q z,e=.returned (.tuple #[NdV a b k q z (Nd.new id bl ow),.bool (Nd.made id bl)])∧MineN w' w.heap.size a b k q z (Nd.new id bl ow)∧Below w.heap.size w w':=by
 have C1:Hid (∀wx,Calls Tryd.prog 24 #[.int .i64 bl] wx fun e w'=>∃a b k,e=.returned (.tuple #[SRV a b k (newS bl).h,.bool (cntOk bl)])∧OwnR w' wx.heap.size a b k (newS bl).xs (newS bl).ys (newS bl).h.ks∧Below wx.heap.size wx w'):=fun wx=>inewStore_any bl wx
 have C2:Hid (∀wx,Calls Tryd.prog 25 #[.int .i64 id] wx fun e w'=>e=.returned (.bool (inI id 0 1))∧w'=wx):=fun wx=>iidok_any id wx
 have C3:Hid (∀wx,Below w.heap.size w wx→Calls Tryd.prog 26 #[.string ⟨#[]⟩,RV (firstR ow)] wx fun e w'=>e=.returned (.tuple #[S (framed (showR (firstR ow))),.bool true])∧Below wx.heap.size wx w'):=fun wx B=>by
  have h:=inoted_any [] (firstR ow) wx (by decide) (ht.below B)
  rwa[(note_first ow).1,(note_first ow).2]at h
 have HM:Hid (Nd.made id bl=(cntOk bl&&inI id 0 1)):=rfl
 have HN:Hid ((Nd.made id bl=false→Nd.new id bl ow=Nd.zero)∧(Nd.made id bl=true→Nd.new id bl ow=⟨id,true,zerosI bl,zerosI bl,Hd.new,framed (showR (firstR ow)),firstR ow,Cp.zero,Sn.zero⟩)):=⟨Nd.new_no,Nd.new_yes⟩
 have HS:Hid (cntOk bl=true→newS bl=⟨zerosI bl,zerosI bl,Hd.new⟩):=newS_yes
 obtain⟨w1,hw1⟩:∃w1,w1=w.alloc (.cells zeroNd 44):=⟨_,rfl⟩
 have HR:Hid (StB w1 w.heap.size 44 zeroNd∧Below w.heap.size w w1):=⟨by rw[hw1];exact StB.new _ _ _,by rw[hw1];exact(Below.refl _ _).alloc (Nat.le_refl _) _⟩
 obtain⟨nn,hnn⟩:∃nn,nn=Nd.new id bl ow:=⟨_,rfl⟩
 obtain⟨md,hmd⟩:∃md,md=Nd.made id bl:=⟨_,rfl⟩
 obtain⟨ok,hok⟩:∃ok,ok=cntOk bl:=⟨_,rfl⟩
 obtain⟨io,hio⟩:∃io,io=inI id 0 1:=⟨_,rfl⟩
 rw[←hnn,←hmd]at HN
 rw[←hmd,←hok,←hio]at HM
 rw[←hok]at C1 HS
 rw[←hio]at C2
 rw[←hnn,←hmd]
 clear hnn hmd hok hio ht
 obtain⟨s,hs⟩:∃s,s=newS bl:=⟨_,rfl⟩
 rw[←hs]at C1 HS
 clear hs
 obtain⟨lg,hlg⟩:∃lg,lg=framed (showR (firstR ow)):=⟨_,rfl⟩
 rw[←hlg]at C3 HN
 clear hlg
 unfold SRV srA at C1
 unfold RV recA S at C3
 unfold zeroNd at hw1
 go_enter Tryd.func10,Tryd.ntmps10
 go_upto_region 1 with fail
 rw[←hw1]
 clear hw1
 go_wp2_with fail
 refine(C1.out w1).mono ?_
 rintro e w2 ⟨a',b',k',rfl,o2,b2⟩
 obtain⟨a1,a2,rfl⟩:=reads_form o2.1.1.reads
 obtain⟨b1,b2',rfl⟩:=reads_form o2.1.2.1.reads
 obtain⟨k1,k2,rfl⟩:=reads_form o2.2.1.reads
 obtain⟨w3,hw3⟩:∃w3,w3=w2.alloc (.cells #[.slice a1 s.xs.length a2,.slice b1 s.ys.length b2',.slice k1 s.h.ks.length k2,.int .i64 s.h.kd,.int .i64 s.h.ho,.int .i64 s.h.tu] 60):=⟨_,rfl⟩
 have b3:Below w2.heap.size w2 w3:=by rw[hw3];exact(Below.refl _ _).alloc (Nat.le_refl _) _
 have V:Hid (StB w3 w2.heap.size 60 #[.slice a1 s.xs.length a2,.slice b1 s.ys.length b2',.slice k1 s.h.ks.length k2,.int .i64 s.h.kd,.int .i64 s.h.ho,.int .i64 s.h.tu]):=by rw[hw3];exact StB.new _ _ _
 have O:Hid (OwnR w3 (w.heap.size+1) (.slice a1 s.xs.length a2) (.slice b1 s.ys.length b2') (.slice k1 s.h.ks.length k2) s.xs s.ys s.h.ks):=(o2.mono HR.out.1.lt).below b3
 replace HR:Hid (StB w3 w.heap.size 44 zeroNd∧Below w.heap.size w w3):=⟨(HR.out.1.below b2).below b3,(HR.out.2.trans (b2.mono HR.out.2.size)).trans (b3.mono (HR.out.2.trans (b2.mono HR.out.2.size)).size)⟩
 go_upto_region 2 with fail
 rw[←hw3]
 clear hw3 o2 b2 b3 C1
 obtain⟨g,hg⟩:∃g,g=w2.heap.size:=⟨_,rfl⟩
 rw[←hg]at V⊢
 clear hg
 go_wp2_with fail
 refine(C2.out w3).mono ?_
 rintro e w' ⟨rfl,hw⟩;subst w'
 clear C2
 cases hmd:md with
 |false=>
  have HX:Hid (nn=Nd.zero∧md=false):=⟨HN.out.1 hmd,hmd⟩
  have hbad:io=false∨ok=false:=two_no (by rw[←HM.out,hmd])
  clear HN HM HS C3 hmd V O
  rcases hbad with rfl|rfl
  ·go_wp2_with (refine wpList_putS Tryd.isNd rfl _ _ rfl w.heap.size zeroNd zeroNd rfl rfl rfl rfl zeroNd_one HR.out.1 ?_;intro w19 s19 g19)
   refine bodyPost_ret (results_S2 Tryd.isNd rfl _ _ w.heap.size _ (.bool false) rfl rfl rfl s19) rfl ?_
   rw[HX.out.1,HX.out.2]
   exact⟨_,_,_,_,_,rfl,MineN.nil _ _,HR.out.2.grown g19 HR.out.2.size (fun k e=>by cases e;omega)⟩
  ·cases io with
   |false=>
    go_wp2_with (refine wpList_putS Tryd.isNd rfl _ _ rfl w.heap.size zeroNd zeroNd rfl rfl rfl rfl zeroNd_one HR.out.1 ?_;intro w19 s19 g19)
    refine bodyPost_ret (results_S2 Tryd.isNd rfl _ _ w.heap.size _ (.bool false) rfl rfl rfl s19) rfl ?_
    rw[HX.out.1,HX.out.2]
    exact⟨_,_,_,_,_,rfl,MineN.nil _ _,HR.out.2.grown g19 HR.out.2.size (fun k e=>by cases e;omega)⟩
   |true=>
    go_wp2_with (refine wpList_putS Tryd.isNd rfl _ _ rfl w.heap.size zeroNd zeroNd rfl rfl rfl rfl zeroNd_one HR.out.1 ?_;intro w19 s19 g19)
    refine bodyPost_ret (results_S2 Tryd.isNd rfl _ _ w.heap.size _ (.bool false) rfl rfl rfl s19) rfl ?_
    rw[HX.out.1,HX.out.2]
    exact⟨_,_,_,_,_,rfl,MineN.nil _ _,HR.out.2.grown g19 HR.out.2.size (fun k e=>by cases e;omega)⟩
 |true=>
  have HX:=HN.out.2 hmd
  obtain⟨rfl,rfl⟩:=two_yes (a:=io) (b:=ok) (by rw[←HM.out,hmd])
  have HX:Hid (nn=⟨id,true,s.xs,s.ys,s.h,lg,firstR ow,Cp.zero,Sn.zero⟩∧md=true):=⟨by rw[HX,HS.out rfl],hmd⟩
  clear HN HM HS hmd
  cases ow with
  |false=>
   have e1:firstR false=⟨0,3,0,0⟩:=rfl
   rw[e1]at C3 HX
   clear e1
   dsimp only at C3
   obtain⟨w4,hw4⟩:∃w4,w4=w3.alloc (.cells #[.int .i64 0,.int .i64 3,.int .i64 0,.int .i64 0] 38):=⟨_,rfl⟩
   have b4:Below w3.heap.size w3 w4:=by rw[hw4];exact(Below.refl _ _).alloc (Nat.le_refl _) _
   have R4:Hid (StB w4 w3.heap.size 38 #[.int .i64 0,.int .i64 3,.int .i64 0,.int .i64 0]):=by rw[hw4];exact StB.new _ _ _
   replace HR:Hid (StB w4 w.heap.size 44 zeroNd∧Below w.heap.size w w4):=⟨HR.out.1.below b4,HR.out.2.trans (b4.mono HR.out.2.size)⟩
   replace V:Hid (StB w4 g 60 #[.slice a1 s.xs.length a2,.slice b1 s.ys.length b2',.slice k1 s.h.ks.length k2,.int .i64 s.h.kd,.int .i64 s.h.ho,.int .i64 s.h.tu]):=V.out.below b4
   replace O:Hid (OwnR w4 (w.heap.size+1) (.slice a1 s.xs.length a2) (.slice b1 s.ys.length b2') (.slice k1 s.h.ks.length k2) s.xs s.ys s.h.ks):=O.out.below b4
   go_upto_region 7 with fail
   rw[←hw4]
   clear hw4 b4
   obtain⟨g2,hg2⟩:∃g2,g2=w3.heap.size:=⟨_,rfl⟩
   rw[←hg2]at R4⊢
   clear hg2
   have r0:w4.cell? ⟨g2,0,none⟩=some (.int .i64 0):=R4.out.cell 0 rfl
   have r1:w4.cell? ⟨g2,1,none⟩=some (.int .i64 3):=R4.out.cell 1 rfl
   have r2:w4.cell? ⟨g2,2,none⟩=some (.int .i64 0):=R4.out.cell 2 rfl
   have r3:w4.cell? ⟨g2,3,none⟩=some (.int .i64 0):=R4.out.cell 3 rfl
   go_wp2_with fail
   refine(C3.out w4 HR.out.2).mono ?_
   rintro e w5 ⟨rfl,b5⟩
   replace R4:Hid (StB w5 g2 38 #[.int .i64 0,.int .i64 3,.int .i64 0,.int .i64 0]):=R4.out.below b5
   replace HR:Hid (StB w5 w.heap.size 44 zeroNd∧Below w.heap.size w w5):=⟨HR.out.1.below b5,HR.out.2.trans (b5.mono HR.out.2.size)⟩
   replace V:Hid (StB w5 g 60 #[.slice a1 s.xs.length a2,.slice b1 s.ys.length b2',.slice k1 s.h.ks.length k2,.int .i64 s.h.kd,.int .i64 s.h.ho,.int .i64 s.h.tu]):=V.out.below b5
   replace O:Hid (OwnR w5 (w.heap.size+1) (.slice a1 s.xs.length a2) (.slice b1 s.ys.length b2') (.slice k1 s.h.ks.length k2) s.xs s.ys s.h.ks):=O.out.below b5
   clear b5 C3 r0 r1 r2 r3
   go_upto_region 8 with fail
   have r0:w5.cell? ⟨g2,0,none⟩=some (.int .i64 0):=R4.out.cell 0 rfl
   have r1:w5.cell? ⟨g2,1,none⟩=some (.int .i64 3):=R4.out.cell 1 rfl
   have r2:w5.cell? ⟨g2,2,none⟩=some (.int .i64 0):=R4.out.cell 2 rfl
   have r3:w5.cell? ⟨g2,3,none⟩=some (.int .i64 0):=R4.out.cell 3 rfl
   have v0:w5.cell? ⟨g,0,none⟩=some (.slice a1 s.xs.length a2):=V.out.cell 0 rfl
   have v1:w5.cell? ⟨g,1,none⟩=some (.slice b1 s.ys.length b2'):=V.out.cell 1 rfl
   have v2:w5.cell? ⟨g,2,none⟩=some (.slice k1 s.h.ks.length k2):=V.out.cell 2 rfl
   have v3:w5.cell? ⟨g,3,none⟩=some (.int .i64 s.h.kd):=V.out.cell 3 rfl
   have v4:w5.cell? ⟨g,4,none⟩=some (.int .i64 s.h.ho):=V.out.cell 4 rfl
   have v5:w5.cell? ⟨g,5,none⟩=some (.int .i64 s.h.tu):=V.out.cell 5 rfl
   go_wp2_with (refine wpList_putS Tryd.isNd rfl _ _ rfl w.heap.size (ndA (.slice a1 s.xs.length a2) (.slice b1 s.ys.length b2') (.slice k1 s.h.ks.length k2) (.slice none 0 0) (.slice none 0 0) ⟨id,true,s.xs,s.ys,s.h,lg,⟨0,3,0,0⟩,Cp.zero,Sn.zero⟩) zeroNd rfl rfl rfl rfl (ndA_one _ rfl rfl rfl rfl rfl) HR.out.1 ?_;intro w19 s19 g19)
   refine bodyPost_ret (results_S2 Tryd.isNd rfl _ _ w.heap.size _ (.bool true) rfl rfl rfl s19) rfl ?_
   rw[HX.out.1,HX.out.2]
   refine⟨_,_,_,_,_,rfl,?_,HR.out.2.grown g19 HR.out.2.size (fun k e=>by cases e;omega)⟩
   have o:=(O.out.keptLt g19 (by omega)).mono (Nat.le_succ _)
   exact⟨o.1.1,o.1.2.1,o.2.1,.inl (Own.nil _ _),.inl (Own.nil _ _),⟨apart_iff.1 o.1.2.2,apart_iff.1 o.2.2.1,fun _ _ h2=>(nomatch h2),fun _ _ h2=>(nomatch h2),apart_iff.1 o.2.2.2,fun _ _ h2=>(nomatch h2),fun _ _ h2=>(nomatch h2),fun _ _ h2=>(nomatch h2),fun _ _ h2=>(nomatch h2),fun _ _ h2=>(nomatch h2)⟩⟩
  |true=>
   have e1:firstR true=⟨1,1,0,0⟩:=rfl
   rw[e1]at C3 HX
   clear e1
   dsimp only at C3
   obtain⟨w4,hw4⟩:∃w4,w4=w3.alloc (.cells #[.int .i64 1,.int .i64 1,.int .i64 0,.int .i64 0] 38):=⟨_,rfl⟩
   have b4:Below w3.heap.size w3 w4:=by rw[hw4];exact(Below.refl _ _).alloc (Nat.le_refl _) _
   have R4:Hid (StB w4 w3.heap.size 38 #[.int .i64 1,.int .i64 1,.int .i64 0,.int .i64 0]):=by rw[hw4];exact StB.new _ _ _
   replace HR:Hid (StB w4 w.heap.size 44 zeroNd∧Below w.heap.size w w4):=⟨HR.out.1.below b4,HR.out.2.trans (b4.mono HR.out.2.size)⟩
   replace V:Hid (StB w4 g 60 #[.slice a1 s.xs.length a2,.slice b1 s.ys.length b2',.slice k1 s.h.ks.length k2,.int .i64 s.h.kd,.int .i64 s.h.ho,.int .i64 s.h.tu]):=V.out.below b4
   replace O:Hid (OwnR w4 (w.heap.size+1) (.slice a1 s.xs.length a2) (.slice b1 s.ys.length b2') (.slice k1 s.h.ks.length k2) s.xs s.ys s.h.ks):=O.out.below b4
   go_upto_region 7 with fail
   rw[←hw4]
   clear hw4 b4
   obtain⟨g2,hg2⟩:∃g2,g2=w3.heap.size:=⟨_,rfl⟩
   rw[←hg2]at R4⊢
   clear hg2
   have r0:w4.cell? ⟨g2,0,none⟩=some (.int .i64 1):=R4.out.cell 0 rfl
   have r1:w4.cell? ⟨g2,1,none⟩=some (.int .i64 1):=R4.out.cell 1 rfl
   have r2:w4.cell? ⟨g2,2,none⟩=some (.int .i64 0):=R4.out.cell 2 rfl
   have r3:w4.cell? ⟨g2,3,none⟩=some (.int .i64 0):=R4.out.cell 3 rfl
   go_wp2_with fail
   refine(C3.out w4 HR.out.2).mono ?_
   rintro e w5 ⟨rfl,b5⟩
   replace R4:Hid (StB w5 g2 38 #[.int .i64 1,.int .i64 1,.int .i64 0,.int .i64 0]):=R4.out.below b5
   replace HR:Hid (StB w5 w.heap.size 44 zeroNd∧Below w.heap.size w w5):=⟨HR.out.1.below b5,HR.out.2.trans (b5.mono HR.out.2.size)⟩
   replace V:Hid (StB w5 g 60 #[.slice a1 s.xs.length a2,.slice b1 s.ys.length b2',.slice k1 s.h.ks.length k2,.int .i64 s.h.kd,.int .i64 s.h.ho,.int .i64 s.h.tu]):=V.out.below b5
   replace O:Hid (OwnR w5 (w.heap.size+1) (.slice a1 s.xs.length a2) (.slice b1 s.ys.length b2') (.slice k1 s.h.ks.length k2) s.xs s.ys s.h.ks):=O.out.below b5
   clear b5 C3 r0 r1 r2 r3
   go_upto_region 8 with fail
   have r0:w5.cell? ⟨g2,0,none⟩=some (.int .i64 1):=R4.out.cell 0 rfl
   have r1:w5.cell? ⟨g2,1,none⟩=some (.int .i64 1):=R4.out.cell 1 rfl
   have r2:w5.cell? ⟨g2,2,none⟩=some (.int .i64 0):=R4.out.cell 2 rfl
   have r3:w5.cell? ⟨g2,3,none⟩=some (.int .i64 0):=R4.out.cell 3 rfl
   have v0:w5.cell? ⟨g,0,none⟩=some (.slice a1 s.xs.length a2):=V.out.cell 0 rfl
   have v1:w5.cell? ⟨g,1,none⟩=some (.slice b1 s.ys.length b2'):=V.out.cell 1 rfl
   have v2:w5.cell? ⟨g,2,none⟩=some (.slice k1 s.h.ks.length k2):=V.out.cell 2 rfl
   have v3:w5.cell? ⟨g,3,none⟩=some (.int .i64 s.h.kd):=V.out.cell 3 rfl
   have v4:w5.cell? ⟨g,4,none⟩=some (.int .i64 s.h.ho):=V.out.cell 4 rfl
   have v5:w5.cell? ⟨g,5,none⟩=some (.int .i64 s.h.tu):=V.out.cell 5 rfl
   go_wp2_with (refine wpList_putS Tryd.isNd rfl _ _ rfl w.heap.size (ndA (.slice a1 s.xs.length a2) (.slice b1 s.ys.length b2') (.slice k1 s.h.ks.length k2) (.slice none 0 0) (.slice none 0 0) ⟨id,true,s.xs,s.ys,s.h,lg,⟨1,1,0,0⟩,Cp.zero,Sn.zero⟩) zeroNd rfl rfl rfl rfl (ndA_one _ rfl rfl rfl rfl rfl) HR.out.1 ?_;intro w19 s19 g19)
   refine bodyPost_ret (results_S2 Tryd.isNd rfl _ _ w.heap.size _ (.bool true) rfl rfl rfl s19) rfl ?_
   rw[HX.out.1,HX.out.2]
   refine⟨_,_,_,_,_,rfl,?_,HR.out.2.grown g19 HR.out.2.size (fun k e=>by cases e;omega)⟩
   have o:=(O.out.keptLt g19 (by omega)).mono (Nat.le_succ _)
   exact⟨o.1.1,o.1.2.1,o.2.1,.inl (Own.nil _ _),.inl (Own.nil _ _),⟨apart_iff.1 o.1.2.2,apart_iff.1 o.2.2.1,fun _ _ h2=>(nomatch h2),fun _ _ h2=>(nomatch h2),apart_iff.1 o.2.2.2,fun _ _ h2=>(nomatch h2),fun _ _ h2=>(nomatch h2),fun _ _ h2=>(nomatch h2),fun _ _ h2=>(nomatch h2),fun _ _ h2=>(nomatch h2)⟩⟩
end Go.Proofs.YthmnmaemnihkeaaDoor
