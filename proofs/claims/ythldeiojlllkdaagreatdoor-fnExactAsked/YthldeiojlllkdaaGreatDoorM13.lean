/- The iterator of the program: wholeFrames hands back a function that jO each frame's text and where the frame ends. -/
import Derived.Test.YthldeiojlllkdaaGreatDoorM12
import Derived.RangeFuncNested
import Derived.RangeFuncBox
import Derived.RangeFuncCalls
import Derived.RangeFuncLeaves
import Derived.Shelf.Abstract
import Derived.OwnWalkIn
import Derived.TacticsInMore
import Derived.LoopNIn
import Derived.LoopIn
import Derived.Maps.OwnIn
import Derived.RegionIn
set_option maxRecDepth 20000
set_option maxHeartbeats 4000000
namespace Go.Proofs.YthldeiojlllkdaaGreatDoor
open Go.ChangeShapes Go.WideShapes Go.ChangeAt Go.RowKit
section
attribute [local go_sem] Oper.semAt_some
def pD (Bn n0:Nat) (W W':World):Prop:=(∀v,W.cell? ⟨Bn,0,none⟩=some v->W'.cell? ⟨Bn,0,none⟩=some v)/\Below n0 W W'
theorem pD.trans {Bn n0:Nat} {A B C:World} (h:pD Bn n0 A B) (k:pD Bn n0 B C):pD Bn n0 A C:=⟨fun v hv=>k.1 v (h.1 v hv),h.2.trans k.2⟩
theorem pD.book {Bn n0:Nat} {w:World} (hn:n0<=w.heap.size) (W:World) (l:Nat) (o o':Obj) (hl:w.heap.size<=l) (h:W.heap[l]?=some o) (h1:o.isCells=false) (h2:o.isWalk=false):pD Bn n0 W (W.putObj l o'):=
 ⟨fun v hv=>cell_kept hv (grownBy_putObj' W l o') (fun r e=>by cases e;exact⟨o,h,h1⟩),belowK_b hn W l o o' hl h h1 h2⟩
theorem cq {w w':World} (h:iO w w') (row:Option Nat):w.grownBy w' row:=⟨h.os,h.tape,h.output,h.size,fun k hk _=>h.block k hk⟩
theorem kl (l:Bs) (w:World) (hl:l.length<=1048576):
  Calls Tryz.prog 73 #[S l] w fun e w'=>e=.returned (S l)/\iO w w':=by
 have hsz:(⟨l.toArray⟩:ByteArray).size=l.length:=rfl;have c0:=Tryz.stringslite_Clone ⟨l.toArray⟩ w Ff;unfold S;go_enter Tryz.func73,Tryz.ntmps73;go_wp2_with fail
 refine c0.mono ?_;rintro e w1 ⟨rfl,b1⟩;clear c0;go_wp2_with fail
 go_ret;exact⟨rfl,b1⟩
theorem Cu (n:Nat) (hn:1<=n) (l Bn n0:Nat) (s:Bs) (hl:s.length<=1048576) (J Jx:List (Bs×Nat)->World->Prop)
  (W:World) (hJ:AbidesFrom W.heap.size J) (hBn:W.cell? ⟨Bn,0,none⟩=some (S s)) (ht:∀W',Below n0 W W'->Tab W') (hn0:n0<=W.heap.size)
  (hY:∀pre x W1,J pre W1->pre.length<(bV s).length->x.1.length<=1048576->x.2<=1048576->YieldAt Fence.wide (n-1) Tryz.prog l #[S x.1,.int .i64 (x.2:Nat)] W1 fun e W'=>
   (e=.returned (.bool true)/\J (pre++[x]) W'/\pD Bn n0 W1 W')∨(e=.returned (.bool false)/\Jx (pre++[x]) W')) (h0:J [] W):
  CallsIn Fence.wide n Tryz.prog 180 #[.func (.yield l) #[] #[],.pointer (some ⟨Bn,0,none⟩)] W fun e W'=>(∃v,e=.returned v)/\
   ((∃ys,ys=bV s/\J ys W')∨(∃pre:List (Bs×Nat),True/\Jx pre W')):=by
 have hsz:(⟨s.toArray⟩:ByteArray).size=s.length:=rfl;refine callsIn_of_wp Tryz.func180 rfl trivial ?_ rfl;simp only[Tryz.ntmps180,List.size_toArray,List.length_cons,List.length_nil,Nat.reduceAdd,Nat.reduceSub,Array.replicate_succ,Array.replicate_zero,List.push_toArray,List.append_toArray,List.nil_append,List.cons_append]
 gi_wp2
 gi_loopw [3,6] (fun e k wr=>∃(a:Nat) (pre:List (Bs×Nat)),e=.int .i64 a/\k=.int .i64 pre.length/\(a:Int)<=s.length/\(pre.length:Int)<=2000/\Hid (J pre wr/\wr.cell? ⟨Bn,0,none⟩=some (S s)/\Below n0 W wr/\mt s pre a)) (fun _ k _=>2000-(intOf k).toNat)
 case atStart=>exact⟨0,[],rfl,rfl,by omega,by simp,h0,hBn,Below.refl _ _,mt.start s⟩
 case round=>
  obtain⟨a,pre,rfl,rfl,ha,hp,HR⟩:=hrel;by_cases hlt:(pre.length:Int)<2000
  ·have hex:=cB s a s.length
   have e0:cV s a s.length=s.drop a:=by simp[cV]
   rw[e0]at hex;have hc:=HR.out.2.1;have c1:=vQ (s.drop a) wr (by simp;omega) (ht wr HR.out.2.2.1);have hfl:=lJ (s.drop a);have hdl:(s.drop a).length=s.length-a:=by simp
   have HN:Hid ((av (s.drop a)).2≠0->_):=fun h=>HR.out.2.2.2.next Ff h
   have HZ:Hid ((av (s.drop a)).2=0->_):=fun h=>HR.out.2.2.2.stop (.inl h)
   obtain⟨q,hq⟩:=Fe (s.drop a)
   rw[<-hq]at hex c1 hfl hdl HN HZ;obtain⟨t,hte⟩:=Fe ((av q).1)
   obtain⟨m,hm⟩:=Fe ((av q).2)
   rw[<-hte,<-hm]at c1 HN;rw[<-hm]at hfl HZ;unfold S at c1 hc;clear e0 hq hm
   gi_wp2_with fail
   refine⟨trivial,(callsIn_wide.2 c1).mono ?_⟩;rintro e w1 ⟨rfl,b1⟩;have HR1:Hid (J pre w1/\w1.cell? ⟨Bn,0,none⟩=some (S s)/\Below n0 W w1):=⟨hJ pre wr w1 none HR.out.1 (cq b1 none) (fun r h=>by cases h),(cq b1 none).cell HR.out.2.1 Fg,HR.out.2.2.1.trans (b1.mono (Nat.le_trans hn0 HR.out.2.2.1.size))⟩
   clear b1 c1 hc HR;by_cases hm0:m=0
   ·subst hm0
    have HF:=HZ.out rfl
    gi_wp2_with fail
    refine bodyPost_ret (results_none rfl _ _ _) rfl ?_;exact⟨⟨_,rfl⟩,.inl ⟨pre,HF,HR1.out.1⟩⟩
   ·have h0':((m:Int)==0)=false:=by simpa using hm0
    have htl:t.length<=1048576:=by
     have:=nt q;rw[hte];omega
    have c2:=kl t w1 htl;unfold S at c2;obtain⟨HI,hlen⟩:=HN.out hm0;have HI':Hid (mt s (pre++[(t,a+m)]) (a+m)):=HI;clear HI HN HZ hte hex
    gi_wp2_with fail
    refine⟨trivial,(callsIn_wide.2 c2).mono ?_⟩;rintro e w2 ⟨rfl,b2⟩;have HR2:Hid (J pre w2/\w2.cell? ⟨Bn,0,none⟩=some (S s)/\Below n0 W w2):=⟨hJ pre w1 w2 none HR1.out.1 (cq b2 none) (fun r h=>by cases h),(cq b2 none).cell HR1.out.2.1 Fg,HR1.out.2.2.trans (b2.mono (Nat.le_trans hn0 HR1.out.2.2.size))⟩
    clear b2 c2 HR1;obtain⟨fn,tmps,assign,body,hy,hR⟩:=hY pre (t,a+m) w2 HR2.out.1 hlen htl (by dsimp only;omega);dsimp only at hy;unfold S at hy;have hcast:((a+m:Nat):Int)=(a:Int)+(m:Int):=by omega
    rw[hcast]at hy
    gi_wp2
    refine hR.mono ?_;rintro e W3 (⟨rfl,hJ3,hk3⟩|⟨rfl,hJx3⟩)
    ·have HR3:Hid (J (pre++[(t,a+m)]) W3/\W3.cell? ⟨Bn,0,none⟩=some (S s)/\Below n0 W W3/\mt s (pre++[(t,a+m)]) (a+m)):=⟨hJ3,hk3.1 _ HR2.out.2.1,HR2.out.2.2.trans hk3.2,HI'.out⟩
     clear hJ3 hk3 HR2 hy hR
     gi_wp2
     go_roundw
     case rel=>exact⟨a+m,pre++[(t,a+m)],by go_num,by simp,by omega,by simp;omega,HR3⟩
     case measure=>simp[intOf];omega
    ·gi_wp2
     refine bodyPost_ret (results_none rfl _ _ _) rfl ?_;exact⟨⟨_,rfl⟩,.inr ⟨_,trivial,hJx3⟩⟩
  ·have HF:Hid (pre=bV s):=HR.out.2.2.2.stop (.inr Ff)
   gi_wp2
   go_end0
   exact⟨⟨_,rfl⟩,.inl (by have h:=HR.out.1;rwa[HF.out]at h)⟩
end
section
attribute [local go_sem] Oper.semAt_some
theorem yU (s:Bs) (w:World):
  Calls Tryz.prog 146 #[.string ⟨s.toArray⟩] w fun e w'=>e=.returned (.func (.func 180) #[] #[.pointer (some ⟨w.heap.size,0,none⟩)])/\w'=w.alloc (.cells #[.string ⟨s.toArray⟩] 9):=by
 go_enter Tryz.func146,Tryz.ntmps146;go_wp2;go_ret;exact⟨rfl,rfl⟩
end
theorem wd {l:Bs} {k:Nat} (ho:dW l=k) (hk:k<l.length) (h:l[k]≠48∨l.length<=1):¬((ew l).head? =some 48/\1<l.length):=by
 rintro⟨h1,h2⟩;subst ho;rw[jB l hk]at h1;rcases h with h|h
 ·exact h (by simpa using h1)
 ·omega
theorem tR {l:Bs} {k:Nat} (ho:dW l=k) (hk:k<l.length) (h:l[k]=48) (h1:1<l.length):okN l=false:=by
 subst ho;rw[<-Bool.not_eq_true,ia];rintro⟨_,_,_,h4⟩;exact h4 ⟨by rw[jB l hk,h],h1⟩
theorem zk (l:Bs) (w:World) (hl:l.length<=1048576):
  Calls Tryz.prog 184 #[S l] w fun e w'=>e=.returned (.tuple #[.int .i64 (num l),.bool (okN l)])/\w'=w:=by
 have hsz:(⟨l.toArray⟩:ByteArray).size=l.length:=rfl;unfold S;go_enter Tryz.func184,Tryz.ntmps184;go_wp2;go_loop [4,5,6,7,12] (fun st sg v dg i=>∃j:Nat,(j:Int)<=l.length/\i=.int .i64 j/\
  ((j=0/\st=.int .i64 0/\sg=.int .i64 1/\v=.int .i64 0/\dg=.int .i64 0)∨
   (j=1/\st=.int .i64 1/\sg=.int .i64 (-1)/\v=.int .i64 0/\dg=.int .i64 0/\Hid (neg l=true))∨
   (∃(x d:Int) (k:Nat) (s:Int),st=.int .i64 2/\sg=.int .i64 s/\v=.int .i64 x/\dg=.int .i64 d/\(j:Int)=dW l+d/\1<=d/\d<=9/\0<=x/\x<1000000000/\s=(if neg l then-1 else 1)/\cg l j x/\¬((ew l).head? =some 48/\1<l.length)))) (fun _ _ _ _ i=>l.length-(intOf i).toNat)
 case atStart=>exact⟨0,by omega,rfl,.inl ⟨rfl,rfl,rfl,rfl,rfl⟩⟩
 case round=>
  obtain⟨j,hj1,rfl,hcase⟩:=hrel;rcases hcase with⟨rfl,rfl,rfl,rfl,rfl⟩|⟨rfl,rfl,rfl,rfl,rfl,HG⟩|⟨x,d,k,sg,rfl,rfl,rfl,rfl,hjd,hd1,hd9,hx0,hx1,hsg,hI,hZ⟩
  ·by_cases hlt:(0:Int)<(l.length:Int)
   ·have hj:0<l.length:=by omega
    have ht:=eN l 0 hj 45 45 rfl;by_cases hb:l[0]=45
    ·have HG:Hid (neg l=true):=by rw[Hid,wY l hj];simp[hb]
     rw[show decide (l[0]=45)=true by simp[hb]]at ht;clear hb;go_wp2
     go_round
     case rel=>exact⟨1,by omega,by go_num,.inr (.inl ⟨rfl,rfl,rfl,rfl,rfl,HG⟩)⟩
     case measure=>simp[intOf];omega
    ·have hng:neg l=false:=by rw[wY l hj];simp[hb]
     have HO:Hid (dW l=0/\neg l=false):=⟨by unfold dW;rw[hng];rfl,hng⟩
     rw[show decide (l[0]=45)=false by simp[hb]]at ht;have ht0:=eN l 0 hj 48 48 rfl;clear hng hb;have hbv:=jg l 0 hj;by_cases hz:l[0]=48
     ·rw[show decide (l[0]=48)=true by simp[hz]]at ht0
      by_cases h1l:1<(l.length:Int)
      ·have HE:Hid (okN l=false/\num l=0):=by
        have:=tR HO.out.1 hj hz Ff;exact⟨this,cD this⟩
       clear hz hbv;go_wp2
       go_ret2
       rw[HE.out.1,HE.out.2];exact⟨rfl,rfl⟩
      ·have HZ:Hid (¬((ew l).head? =some 48/\1<l.length)):=wd HO.out.1 hj (.inr Ff)
       clear hz;by_cases hlo:bK l 0 hj<48
       ·have HE:Hid (okN l=false/\num l=0):=by
         have:=cg.bad (l:=l) (j:=0) (by rw[HO.out.1];omega) hj (by rw[hbv]at hlo;simp[dp];omega);exact⟨this,cD this⟩
        unfold bK at*;clear hbv;go_wp2
        go_ret2
        rw[HE.out.1,HE.out.2];exact⟨rfl,rfl⟩
       ·by_cases hhi:57<bK l 0 hj
        ·have HE:Hid (okN l=false/\num l=0):=by
          have:=cg.bad (l:=l) (j:=0) (by rw[HO.out.1];omega) hj (by rw[hbv]at hhi;simp[dp];omega);exact⟨this,cD this⟩
         unfold bK at*;clear hbv;go_wp2
         go_ret2
         rw[HE.out.1,HE.out.2];exact⟨rfl,rfl⟩
        ·have HN:Hid (∀y,y=0*10+(bK l 0 hj-48)->cg l (0+1) y):=by
          intro y hy;rw[hy,hbv];exact cg.next (by have:=cg.start l;rwa[HO.out.1]at this) (by rw[HO.out.1];omega) hj (by rw[hbv]at hlo hhi;simp[dp];omega)
         have hlo2:48<=bK l 0 hj:=by omega
         have hhi2:bK l 0 hj<=57:=by omega
         clear hbv;unfold bK at*;go_wp2
         go_round
         case rel=>exact⟨0+1,by omega,by go_num,.inr (.inr ⟨_,_,1,1,rfl,rfl,rfl,rfl,by rw[HO.out.1];omega,by omega,by omega,by omega,by omega,by simp[HO.out.2],HN.out _ Ff,HZ.out⟩)⟩
         case measure=>simp[intOf];omega
     ·rw[show decide (l[0]=48)=false by simp[hz]]at ht0
      have HZ:Hid (¬((ew l).head? =some 48/\1<l.length)):=wd HO.out.1 hj (.inl hz);clear hz;by_cases hlo:bK l 0 hj<48
      ·have HE:Hid (okN l=false/\num l=0):=by
        have:=cg.bad (l:=l) (j:=0) (by rw[HO.out.1];omega) hj (by rw[hbv]at hlo;simp[dp];omega);exact⟨this,cD this⟩
       unfold bK at*;clear hbv;go_wp2
       go_ret2
       rw[HE.out.1,HE.out.2];exact⟨rfl,rfl⟩
      ·by_cases hhi:57<bK l 0 hj
       ·have HE:Hid (okN l=false/\num l=0):=by
         have:=cg.bad (l:=l) (j:=0) (by rw[HO.out.1];omega) hj (by rw[hbv]at hhi;simp[dp];omega);exact⟨this,cD this⟩
        unfold bK at*;clear hbv;go_wp2
        go_ret2
        rw[HE.out.1,HE.out.2];exact⟨rfl,rfl⟩
       ·have HN:Hid (∀y,y=0*10+(bK l 0 hj-48)->cg l (0+1) y):=by
         intro y hy;rw[hy,hbv];exact cg.next (by have:=cg.start l;rwa[HO.out.1]at this) (by rw[HO.out.1];omega) hj (by rw[hbv]at hlo hhi;simp[dp];omega)
        have hlo2:48<=bK l 0 hj:=by omega
        have hhi2:bK l 0 hj<=57:=by omega
        clear hbv;unfold bK at*;go_wp2
        go_round
        case rel=>exact⟨0+1,by omega,by go_num,.inr (.inr ⟨_,_,1,1,rfl,rfl,rfl,rfl,by rw[HO.out.1];omega,by omega,by omega,by omega,by omega,by simp[HO.out.2],HN.out _ Ff,HZ.out⟩)⟩
        case measure=>simp[intOf];omega
   ·have HE:Hid (okN l=false/\num l=0):=by
     have:=jA l Ff;exact⟨this,cD this⟩
    go_wp2
    go_ret2
    rw[HE.out.1,HE.out.2];exact⟨rfl,rfl⟩
  ·have HO:Hid (dW l=1/\neg l=true):=⟨by unfold dW;rw[HG.out];rfl,HG.out⟩
   clear HG;by_cases hlt:(1:Int)<(l.length:Int)
   ·have hj:1<l.length:=by omega
    have ht0:=eN l 1 hj 48 48 rfl;have hbv:=jg l 1 hj;by_cases hz:l[1]=48
    ·rw[show decide (l[1]=48)=true by simp[hz]]at ht0
     have HE:Hid (okN l=false/\num l=0):=by
      have:=tR HO.out.1 hj hz Ff;exact⟨this,cD this⟩
     clear hz hbv;go_wp2
     go_ret2
     rw[HE.out.1,HE.out.2];exact⟨rfl,rfl⟩
    ·rw[show decide (l[1]=48)=false by simp[hz]]at ht0
     have HZ:Hid (¬((ew l).head? =some 48/\1<l.length)):=wd HO.out.1 hj (.inl hz);clear hz;by_cases hlo:bK l 1 hj<48
     ·have HE:Hid (okN l=false/\num l=0):=by
       have:=cg.bad (l:=l) (j:=1) (by rw[HO.out.1];omega) hj (by rw[hbv]at hlo;simp[dp];omega);exact⟨this,cD this⟩
      unfold bK at*;clear hbv;go_wp2
      go_ret2
      rw[HE.out.1,HE.out.2];exact⟨rfl,rfl⟩
     ·by_cases hhi:57<bK l 1 hj
      ·have HE:Hid (okN l=false/\num l=0):=by
        have:=cg.bad (l:=l) (j:=1) (by rw[HO.out.1];omega) hj (by rw[hbv]at hhi;simp[dp];omega);exact⟨this,cD this⟩
       unfold bK at*;clear hbv;go_wp2
       go_ret2
       rw[HE.out.1,HE.out.2];exact⟨rfl,rfl⟩
      ·have HN:Hid (∀y,y=0*10+(bK l 1 hj-48)->cg l (1+1) y):=by
        intro y hy;rw[hy,hbv];exact cg.next (by have:=cg.start l;rwa[HO.out.1]at this) (by rw[HO.out.1];omega) hj (by rw[hbv]at hlo hhi;simp[dp];omega)
       have hlo2:48<=bK l 1 hj:=by omega
       have hhi2:bK l 1 hj<=57:=by omega
       clear hbv;unfold bK at*;go_wp2
       go_round
       case rel=>exact⟨1+1,by omega,by go_num,.inr (.inr ⟨_,_,1,(-1),rfl,rfl,rfl,rfl,by rw[HO.out.1];omega,by omega,by omega,by omega,by omega,by simp[HO.out.2],HN.out _ Ff,HZ.out⟩)⟩
       case measure=>simp[intOf];omega
   ·have HE:Hid (okN l=false/\num l=0):=by
     have:=jA l (by have:=HO.out.1;omega);exact⟨this,cD this⟩
    go_wp2
    go_ret2
    rw[HE.out.1,HE.out.2];exact⟨rfl,rfl⟩
  ·have HI:Hid (cg l j x/\¬((ew l).head? =some 48/\1<l.length)/\(j:Int)=dW l+d/\sg=(if neg l then-1 else 1)):=⟨hI,hZ,hjd,hsg⟩
   have hoj:dW l<=j:=by omega
   have HJ:Hid (dW l<=j):=hoj;clear hI hZ hsg hjd hoj;by_cases hlt:(j:Int)<(l.length:Int)
   ·have hj:j<l.length:=by omega
    have hbv:=jg l j hj;by_cases hlo:bK l j hj<48
    ·have HE:Hid (okN l=false/\num l=0):=by
      have:=cg.bad (l:=l) (j:=j) HJ.out hj (by rw[hbv]at hlo;simp[dp];omega);exact⟨this,cD this⟩
     unfold bK at*;clear hbv;go_wp2
     go_ret2
     rw[HE.out.1,HE.out.2];exact⟨rfl,rfl⟩
    ·by_cases hhi:57<bK l j hj
     ·have HE:Hid (okN l=false/\num l=0):=by
       have:=cg.bad (l:=l) (j:=j) HJ.out hj (by rw[hbv]at hhi;simp[dp];omega);exact⟨this,cD this⟩
      unfold bK at*;clear hbv;go_wp2
      go_ret2
      rw[HE.out.1,HE.out.2];exact⟨rfl,rfl⟩
     ·by_cases hd:d=9
      ·have HE:Hid (okN l=false/\num l=0):=by
        have:=oQ l (by have:=HI.out.2.2.1;omega);exact⟨this,cD this⟩
       unfold bK at*;clear hbv;subst hd;go_wp2
       go_ret2
       rw[HE.out.1,HE.out.2];exact⟨rfl,rfl⟩
      ·have hdn:(d==9)=false:=by simpa using hd
       have HN:Hid (∀y,y=x*10+(bK l j hj-48)->cg l (j+1) y/\0<=y/\y<1000000000):=by
        intro y hy;have h1:cg l (j+1) y:=by
         rw[hy,hbv];exact HI.out.1.next HJ.out hj (by rw[hbv]at hlo hhi;simp[dp];omega)
        exact⟨h1,h1.bd (by have:=HI.out.2.2.1;omega)⟩
       have hlo2:48<=bK l j hj:=by omega
       have hhi2:bK l j hj<=57:=by omega
       clear hbv;unfold bK at*;go_wp2
       go_round
       case rel=>
        refine⟨j+1,by omega,by go_num,.inr (.inr ⟨_,_,1,sg,rfl,rfl,rfl,rfl,by have:=HI.out.2.2.1;omega,by omega,by omega,?_,?_,HI.out.2.2.2,?_,HI.out.2.1⟩)⟩
        ·exact(HN.out _ Ff).2.1
        ·exact(HN.out _ Ff).2.2
        ·exact(HN.out _ Ff).1
       case measure=>simp[intOf];omega
   ·obtain rfl:j=l.length:=by omega
    have hdn:=HI.out.1.done (by have:=HI.out.2.2.1;omega) (by have:=HI.out.2.2.1;omega);have hok:okN l=true:=by
     rw[hdn.1];have:=HI.out.2.1;simp only[Bool.not_eq_true',Bool.and_eq_false_iff,decide_eq_false_iff_not];by_cases h:(ew l).head? =some 48
     ·exact .inr (fun h'=>this ⟨h,h'⟩)
     ·exact .inl h
    have HE:Hid (okN l=true/\num l=sg*x):=by
     refine⟨hok,?_⟩;rw[num,hok,HI.out.2.2.2,hdn.2];cases neg l<;>simp
    have hs2:sg=1∨sg= -1:=by rw[HI.out.2.2.2];cases neg l<;>simp
    clear hdn hok;rcases hs2 with rfl|rfl
    all_goals
     go_wp2
     go_ret2
     rw[HE.out.1,HE.out.2];exact⟨by simp,rfl⟩
theorem zn (c:UInt8) (l:Bs) (w:World):
  Calls Tryz.prog 248 #[S l,.string ⟨#[c]⟩] w fun e w'=>e=.returned (.int .i64 (if posB c l=l.length then-1 else(posB c l:Int)))/\w'=w:=by
 have c0:=Tryz.stringslite_Index_one ⟨l.toArray⟩ c w;rw[show(⟨l.toArray⟩:ByteArray).data.toList=l from rfl,lH]at c0;obtain⟨z,hz⟩:=Fe ((if posB c l=l.length then-1 else(posB c l:Int)))
 rw[<-hz]at c0⊢;clear hz;unfold S;go_enter Tryz.func248,Tryz.ntmps248;go_wp2_with fail
 refine Fd c0 ?_;clear c0;go_wp2_with fail
 go_ret;exact⟨rfl,rfl⟩
theorem zr (n:Nat):(madeCells #[Value.string ⟨#[]⟩] n).toList=(List.replicate n ([]:Bs)).map S:=by
 rw[toList_madeCells_one,List.map_replicate];rfl
def ik (c:UInt8) (l:Bs) (k:Nat) (out:List Bs) (s:Bs):Prop:=out.length<=k/\dh c k l=out++dh c (k-out.length) s
theorem ik.start (c:UInt8) (l:Bs) (k:Nat):ik c l k [] l:=⟨Nat.zero_le _,by simp⟩
theorem ik.next {c:UInt8} {l s:Bs} {k:Nat} {out:List Bs} (h:ik c l k out s) (hk:out.length<k) (hp:posB c s≠s.length):ik c l k (out++[co c s]) (behind c s):=by
 refine⟨by simp;omega,?_⟩;rw[h.2,show k-out.length=(k-(out++[co c s]).length)+1 by simp;omega,dh,kI,if_neg hp];simp[co,behind]
theorem ik.stop {c:UInt8} {l s:Bs} {k:Nat} {out:List Bs} (h:ik c l k out s) (hk:out.length=k∨posB c s=s.length):dh c k l=out++[s]:=by
 rw[h.2];rcases hk with hk|hk
 ·rw[hk,Nat.sub_self,dh]
 ·cases k-out.length with
  |zero=>rw[dh]
  |succ m=>rw[dh,kI,if_pos hk]
theorem t8 (out:List Bs) (m:Nat) (x:Bs) (h:0<m):(out++List.replicate m []).set out.length x=(out++[x])++List.replicate (m-1) []:=by
 obtain⟨k,rfl⟩:∃k,m=k+1:=⟨m-1,by omega⟩
 rw[List.set_append_right _ _ Ff,Nat.sub_self,List.replicate_succ,List.set_cons_zero];simp
theorem kr {w wr:World} {g j:Nat} {x:Value} (h:iO w wr) (hg:w.heap.size<=g):iO w (wr.setCell ⟨g,j,none⟩ x):=h.setCell (p:=⟨g,j,none⟩) hg x
theorem qq {w:World} {base g n:Nat} {out:List Bs} {q:Bs} (h:dl w base (.slice (some ⟨g,0,none⟩) n n) ((out++List.replicate (n-out.length) []).set out.length q)) (hn:out.length<n):fY w (.slice (some ⟨g,0,none⟩) (out.length+1) n) (out++[q]):=by
 rw[t8 out _ q Ff]at h;have h2:=h.reads.take (out.length+1) Fg
 rwa[List.take_append_of_le_length Fg,List.take_of_length_le Fg]at h2
theorem A8 (m:Nat) (m1:1<=m) (m2:m<=100) (l:Bs) (w:World) (hl:l.length<=1048576):
  Calls Tryz.prog 220 #[S l,.string ⟨#[32]⟩,.int .i64 0,.int .i64 m] w fun e w'=>∃v,e=.returned v/\fY w' v (dh 32 (min m (l.length+1)-1) l)/\iO w w':=by
 obtain⟨i0,hi,hz0,hz1,hz2⟩:=info_parts GB;obtain⟨n,hn⟩:∃n:Nat,n=min m (l.length+1):=⟨_,rfl⟩
 rw[<-hn];have hn1:1<=n:=by omega
 have hn5:n<=100:=by omega
 have hm0:¬(m:Int)=0:=by omega
 have hm1:¬(m:Int)<0:=by omega
 have hmin:min (m:Int) ((l.length:Int)+1)=n:=by omega
 have hsz:(⟨l.toArray⟩:ByteArray).size=l.length:=rfl;clear hn;unfold S;go_enter Tryz.func220,Tryz.ntmps220;go_wp2_with (refine wpList_make_full _ rfl _ _ 115 rfl w.heap.size 9 i0 (.string ⟨#[]⟩) 1 Tryz.underlying115 hi hz0 hz1 _ _ _ _ n rfl rfl rfl rfl (by rw[hz2];omega) (by unfold maxLen;omega) (Nat.le_refl _) ?_)
 intro w1 hown1 hgr1;rw[zr]at hown1;have HO:Hid (dl w1 w.heap.size (.slice (some ⟨w.heap.size,0,none⟩) n n) ([]++List.replicate n [])/\iO w w1):=by
  refine⟨?_,(Below.refl _ _).grown hgr1 (Nat.le_refl _) (fun k e=>by cases e)⟩;unfold dl;simpa using hown1
 clear hown1 hgr1;go_wp2;go_loopw [0,10] (fun s i wr=>∃(q:Bs) (out:List Bs),s=.string ⟨q.toArray⟩/\i=.int .i64 out.length/\(out.length:Int)<=(n:Int)-1/\(q.length:Int)<=l.length/\Hid (dl wr w.heap.size (.slice (some ⟨w.heap.size,0,none⟩) n n) (out++List.replicate (n-out.length) [])/\iO w wr/\ik 32 l (n-1) out q)) (fun _ i _=>n-(intOf i).toNat)
 case atStart=>exact⟨l,[],rfl,rfl,by simp;omega,by omega,by simpa using HO.out.1,HO.out.2,ik.start _ _ _⟩
 case round=>
  obtain⟨q,out,rfl,rfl,ho,hq,HR⟩:=hrel;clear HO;have hqz:(⟨q.toArray⟩:ByteArray).size=q.length:=rfl;have hlen:(out++List.replicate (n-out.length) []).length=n:=by simp;omega
  have HST:Hid (∀x,_):=fun x=>HR.out.1.put hlen.symm out.length Ff x
  have c1:=fun wx=>zn 32 q wx
  have hple:=ny 32 q;by_cases hlt:(out.length:Int)<(n:Int)-1
  ·by_cases hp:posB 32 q=q.length
   ·have HF:Hid (dh 32 (n-1) l=out++[q]):=HR.out.2.2.stop (.inr hp)
    simp only[if_pos hp]at c1;obtain⟨hf,⟨y,hc⟩,ho2⟩:=HST.out q;unfold S at ho2 c1;clear hp;go_wp2_with fail
    refine Fd (c1 _) ?_;clear c1;go_wp2;go_ret;rw[HF.out];exact⟨_,rfl,qq ho2 Ff,kr HR.out.2.1 (Nat.le_refl _)⟩
   ·simp only[if_neg hp]at c1
    have HN:Hid (ik 32 l (n-1) (out++[co 32 q]) (behind 32 q)):=HR.out.2.2.next Ff hp;have hex1:=cB q 0 (posB 32 q);have hex2:=cB q (posB 32 q+1) q.length;have e1:cV q 0 (posB 32 q)=co 32 q:=by simp[cV,co]
    have e2:cV q (posB 32 q+1) q.length=behind 32 q:=by simp[cV,behind]
    rw[e1]at hex1;rw[e2]at hex2;have hbl:=jL 32 q;obtain⟨p,hpp⟩:=Fe (posB 32 q)
    obtain⟨x,hx⟩:=Fe (co 32 q)
    obtain⟨y,hy⟩:=Fe (behind 32 q)
    rw[<-hx]at hex1 HN;rw[<-hy]at hex2 HN hbl;rw[<-hpp]at hex1 hex2 hp hple;simp only[<-hpp]at c1;obtain⟨hf,⟨y0,hc⟩,ho2⟩:=HST.out x;have HO2:Hid (dl (wr.setCell ⟨w.heap.size,out.length,none⟩ (S x)) w.heap.size (.slice (some ⟨w.heap.size,0,none⟩) n n) ((out++[x])++List.replicate (n-(out++[x]).length) [])):=by
     rw[t8 out _ x Ff]at ho2;rw[List.length_append,List.length_cons,List.length_nil,show n-(out.length+(0+1))=n-out.length-1 by omega];exact ho2
    have HB2:Hid (iO w (wr.setCell ⟨w.heap.size,out.length,none⟩ (S x))):=kr HR.out.2.1 (Nat.le_refl _);have hplt:(p:Int)+1<=(q.length:Int):=by omega
    unfold S at c1 HO2 HB2;clear e1 e2 hpp hx hy ho2 HST;go_wp2_with fail
    refine Fd (c1 _) ?_;clear c1;go_wp2;go_roundw
    case rel=>exact⟨y,out++[x],rfl,by simp,by simp;omega,by omega,HO2.out,HB2.out,HN.out⟩
    case measure=>simp[intOf];omega
  ·have HF:Hid (dh 32 (n-1) l=out++[q]):=HR.out.2.2.stop (.inl Ff)
   obtain⟨hf,⟨y,hc⟩,ho2⟩:=HST.out q;clear c1;unfold S at ho2;go_wp2;go_ret;rw[HF.out];exact⟨_,rfl,qq ho2 Ff,kr HR.out.2.1 (Nat.le_refl _)⟩
theorem wn (m:Nat) (m1:1<=m) (m2:m<=100) (l:Bs) (w:World) (hl:l.length<=1048576):
  Calls Tryz.prog 183 #[S l,.string ⟨#[32]⟩,.int .i64 m] w fun e w'=>∃v,e=.returned v/\fY w' v (dh 32 (min m (l.length+1)-1) l)/\iO w w':=by
 have c0:=A8 m m1 m2 l w hl;go_enter Tryz.func183,Tryz.ntmps183;go_wp2_with fail
 refine c0.mono ?_;rintro e w1 ⟨v,rfl,h1,h2⟩;clear c0;go_wp2_with fail
 go_ret;exact⟨v,rfl,h1,h2⟩
def eu (s:Bs):List Bs:=dh 32 (min 5 ((behind 32 s).length+1)-1) (behind 32 s)
theorem mL (s:Bs):(ay 32 s).head? =some (co 32 s):=by
 rw[fm,kI];split
 ·rename_i h
  rw[(hU h).2.1];rfl
 ·rfl
theorem km {s:Bs} (h:(eu s).length=4):(ay 32 s).tail=eu s:=by
 rw[fm,kI];split
 ·rename_i hp
  exfalso;unfold eu at h;rw[(hU hp).1]at h;simp[dh]at h
 ·unfold eu at h⊢
  rcases oS (behind 32 s)with e|⟨e1,_⟩
  ·rw[e];rfl
  ·exact absurd h e1
theorem zl {s:Bs} (h:(eu s).length≠4):cF s=none:=by
 refine qL ?_;rw[fm,kI];split
 ·simp
 ·unfold eu at h
  rcases oS (behind 32 s)with e|⟨_,e2⟩
  ·rw[e]at h
   simp only[List.length_cons];intro h2;exact h (by unfold behind;omega)
  ·simp only[List.length_cons]
   intro h2;exact e2 (by unfold behind;omega)
theorem tS (c:UInt8) (k:Nat):∀s:Bs,∀p∈dh c k s,p.length<=s.length:=by
 induction k with
 |zero=>intro s p hp;simp[dh]at hp;rw[hp];exact Nat.le_refl _
 |succ k ih=>
  intro s p hp;rw[dh]at hp;split at hp
  ·simp at hp;rw[hp];exact Nat.le_refl _
  ·rcases List.mem_cons.1 hp with rfl|hp
   ·simp;omega
   ·have:=ih _ p hp;simp at this;omega
def A1 (f:Nat->Int):Array Value:=#[.int .i64 (f 0),.int .i64 (f 1),.int .i64 (f 2),.int .i64 (f 3)]
def nh (w:World) (g:Nat) (f:Nat->Int):Prop:=w.heap[g]?=some (.cells (A1 f) 162 (0,0))
def Cz (f:Nat->Int) (j:Nat) (x:Int):Nat->Int:=fun k=>if k=j then x else f k
theorem Dt {p:Nat->Prop} (h0:p 0) (h1:p 1) (h2:p 2) (h3:p 3):∀j,j<4->p j
 |0,_=>h0|1,_=>h1|2,_=>h2|3,_=>h3
 |_+4,h=>by omega
theorem CA (f:Nat->Int):∀j,j<4->(A1 f)[j]?=some (.int .i64 (f j)):=Dt rfl rfl rfl rfl
theorem A2 (f:Nat->Int) (x:Int):∀j,j<4->(A1 f).setIfInBounds j (.int .i64 x)=A1 (Cz f j x):=Dt rfl rfl rfl rfl
theorem nh.cell {w:World} {g:Nat} {f:Nat->Int} (h:nh w g f) (j:Nat) (hj:j<4):w.cell? ⟨g,j,none⟩=some (.int .i64 (f j)):=by
 rw[cell_of_row w g j _ _ _ h,CA f j hj]
theorem nh.frozen {w:World} {g:Nat} {f:Nat->Int} (h:nh w g f) (j:Nat):w.frozen? ⟨g,j,none⟩=false:=frozen_of_row w g j _ _ h
theorem nh.new (w:World) (f:Nat->Int):nh (w.alloc (.cells (A1 f) 162)) w.heap.size f:=heap_alloc_new w _
theorem nh.setCell {w:World} {g:Nat} {f:Nat->Int} (h:nh w g f) (j:Nat) (hj:j<4) (x:Int):nh (w.setCell ⟨g,j,none⟩ (.int .i64 x)) g (Cz f j x):=by
 have:=heap_setCell_same w g j _ _ (.int .i64 x) h;rw[A2 f x j hj]at this;exact this
def jT (vs:List Bs) (j:Nat):Nat->Int:=fun k=>if k<j then num (vs.getD k [])else 0
theorem wg (vs:List Bs) (j:Nat):Cz (jT vs j) j (num (vs.getD j []))=jT vs (j+1):=by
 funext k
 unfold Cz jT;by_cases e:k=j
 ·subst e;simp
 ·have:k<j+1↔k<j:=by omega
  simp[e,this]
theorem wh (s:Bs) (w:World) (hl:s.length<=1048576):
  Calls Tryz.prog 147 #[S s] w fun e w'=>e=.returned (.tuple #[RV (gX s),.bool (isR s)])/\iO w w':=by
 have R0:=cE.new w 38 Rc.zero;have B0:iO w (w.alloc (.cells (de Rc.zero) 38)):=Fc;have hbl:=jL 32 s;have c1:=fun wx=>lc 32 s wx hl
 have c2:=fun wx=>wn 5 Ff Ff (behind 32 s) wx Ff
 have hvs:dh 32 (min 5 ((behind 32 s).length+1)-1) (behind 32 s)=eu s:=rfl;simp only[hvs]at c2;have HPT:Hid (∀p∈eu s,p.length<=1048576):=fun p hp=>by have:=tS 32 _ (behind 32 s) p hp;omega
 have E1:Hid ((eu s).length≠4->cF s=none):=zl;have E2:Hid (co 32 s≠gO->cF s=none):=fun h=>pf (by rw[mL];intro e;exact h (Option.some.inj e))
 have E3:Hid ((eu s).length=4->∀j,j<4->okN ((eu s).getD j [])=false->cF s=none):=fun h j hj=>by
  have:=km h;have h3:=qM (s:=s) (j:=j);rw[this]at h3;exact h3 Ff
 have E4:Hid ((eu s).length=4->(df (eu s)).ok=false->cF s=none):=fun h=>by
  have:=km h;have h3:=qN (s:=s)
  rwa[this]at h3
 have E5:Hid (co 32 s=gO->(eu s).length=4->(eu s).all okN=true->(df (eu s)).ok=true->cF s=some (df (eu s))):=fun h0 h=>by
  have:=km h;have h3:=pg (s:=s) (by rw[mL,h0]);rw[this]at h3;exact h3 h
 clear hvs;obtain⟨vs,hv⟩:=Fe (eu s)
 obtain⟨bf,hbf⟩:=Fe (co 32 s)
 obtain⟨bh,hbh⟩:=Fe (behind 32 s)
 obtain⟨hc,hhc⟩:=Fe (pA 32 s)
 rw[<-hv]at HPT E1 E3 E4 E5;rw[<-hbf]at E2 E5;simp only[<-hbf,<-hbh,<-hhc]at c1;simp only[<-hv,<-hbh]at c2;clear hv hbf hbh hhc hbl hl;unfold S at*;go_enter Tryz.func147,Tryz.ntmps147;go_wp2_with fail
 refine(c1 _).mono ?_;rintro e w1 ⟨rfl,n1,hw1⟩;have b1:Below (w.alloc (.cells (de Rc.zero) 38)).heap.size (w.alloc (.cells (de Rc.zero) 38)) w1:=by rw[hw1];exact below_drewN (Below.refl _ _) n1
 have R1:=R0.below b1;have B1:=B0.trans (b1.mono B0.size);clear hw1 c1 b1 R0 B0;go_wp2_with fail
 refine(c2 _).mono ?_;rintro e wS ⟨v,rfl,o1,b2⟩;have RS:=R1.below b2;have BS:=B1.trans (b2.mono B1.size);have hsS:w.heap.size<wS.heap.size:=RS.lt;clear c2 b2 R1 B1;obtain⟨ao,cap,rfl,hcap, -,hcells⟩:=o1;by_cases hw0:bf=gO
 ·subst hw0
  by_cases h4:vs.length=4
  ·replace E3:=E3.out h4
   replace E4:=E4.out h4;replace E5:=E5.out rfl h4;have H3:Hid (∀j,j<4->okN (vs.getD j [])=false->cF s=none):=E3;have H4:Hid ((df vs).ok=false->cF s=none):=E4;have H5:Hid (vs.all okN=true->(df vs).ok=true->cF s=some (df vs)):=E5;obtain⟨vb,vo,rfl,hcell0⟩:∃b off,ao=some ⟨b,off,none⟩/\∀j,j<vs.length->wS.cell? ⟨b,off+j,none⟩=some (S (vs.getD j [])):=by
    rcases hcells with e|⟨b,off,e,h⟩
    ·rw[e]at h4;simp at h4
    ·exact⟨b,off,e,h⟩
   have HC:Hid (∀j,j<4->wS.cell? ⟨vb,vo+j,none⟩=some (.string ⟨(vs.getD j []).toArray⟩)):=fun j hj=>hcell0 j Ff
   have HV:Hid (vs.length=4):=h4;rw[h4]at hcap⊢;unfold gO;clear E1 E2 E3 E4 E5 hcells hcell0 h4;go_wp2;go_loopw [33] (fun i wr=>∃j:Nat,i=.int .i64 j/\(j:Int)<=4/\Hid (nh wr wS.heap.size (jT vs j)/\iO wS wr/\(vs.take j).all okN=true)) (fun i _=>4-(intOf i).toNat)
   case atStart=>exact⟨0,rfl,by omega,nh.new wS (jT vs 0),Fc,rfl⟩
   case round=>
    obtain⟨j,rfl,hj,HR⟩:=hrel;by_cases hlt:(j:Int)<4
    ·have hjv:j<vs.length:=by have:=HV.out;omega
     have hcw:=HC.out j Ff;have hcell:wr.cell? ⟨vb,vo+j,none⟩=some (.string ⟨(vs.getD j []).toArray⟩):=by
      rw[HR.out.2.1.cell (p:=⟨vb,vo+j,none⟩) (World.block_lt_of_cell? wS _ hcw)];exact hcw
     have hpl:=HPT.out _ (kO vs j hjv);have c2:=fun wx=>zk (vs.getD j []) wx hpl
     have E3j:Hid (okN (vs.getD j [])=false->cF s=none):=H3.out j Ff;have HA:Hid (okN (vs.getD j [])=true->(vs.take (j+1)).all okN=true):=fun h=>uT HR.out.2.2 hjv h
     have k0:=HR.out.1.cell j Ff;have f0:=HR.out.1.frozen j;have hw4:=HR.out.1.setCell j Ff (num (vs.getD j []));rw[wg]at hw4;have HB2:Hid (iO wS (wr.setCell ⟨wS.heap.size,j,none⟩ (.int .i64 (num (vs.getD j []))))):=HR.out.2.1.setCell (p:=⟨wS.heap.size,j,none⟩) (Nat.le_refl _) _;have HW4:Hid (nh (wr.setCell ⟨wS.heap.size,j,none⟩ (.int .i64 (num (vs.getD j [])))) wS.heap.size (jT vs (j+1))):=hw4;obtain⟨p,hp⟩:=Fe (vs.getD j [])
     rw[<-hp]at hcell hpl E3j HA HB2 HW4;simp only[<-hp]at c2;obtain⟨b,hb⟩:=Fe (okN p)
     obtain⟨x,hx⟩:=Fe (num p)
     rw[<-hb]at E3j HA;rw[<-hx]at HB2 HW4;simp only[<-hb,<-hx]at c2;unfold S at c2;clear hp hb hx hcw hw4;go_wp2_with fail
     refine Fd (c2 _) ?_;clear c2;cases b with
     |false=>
      have HE:Hid (gX s=Rc.zero/\isR s=false):=fg (E3j.out rfl);have R1:=RS.below (HR.out.2.1);have B1:=BS.trans (HR.out.2.1.mono BS.size);have hs1:=HR.out.2.1.size;go_wp2_with (refine cR rfl _ _ rfl w.heap.size Rc.zero Rc.zero rfl rfl R1 ?_;intro w2 R2 G2)
      refine bodyPost_ret (dL rfl _ _ w.heap.size _ _ rfl rfl R2) rfl ?_;rw[HE.out.1,HE.out.2];exact⟨rfl,B1.grown G2 Ff (fun k e=>by cases e;exact Nat.le_refl _)⟩
     |true=>
      have HA2:Hid ((vs.take (j+1)).all okN=true):=HA.out rfl;clear HA E3j;go_wp2;go_roundw
      case rel=>exact⟨j+1,by go_num,by omega,HW4.out,HB2.out,HA2.out⟩
      case measure=>simp[intOf];omega
    ·obtain rfl:j=4:=by omega
     have hall:vs.all okN=true:=by have:=HR.out.2.2;rwa[List.take_of_length_le (by have:=HV.out;omega)]at this
     have k0:=HR.out.1.cell 0 Ff;have k1:=HR.out.1.cell 1 Ff;have k2:=HR.out.1.cell 2 Ff;have k3:=HR.out.1.cell 3 Ff;have p0:jT vs 4 0=(df vs).e:=rfl;have p1:jT vs 4 1=(df vs).s:=rfl;have p2:jT vs 4 2=(df vs).t:=rfl;have p3:jT vs 4 3=(df vs).n:=rfl;rw[p0]at k0;rw[p1]at k1;rw[p2]at k2;rw[p3]at k3;clear p0 p1 p2 p3;obtain⟨r,hr⟩:=Fe (df vs)
     rw[<-hr]at k0 k1 k2 k3 H4 H5;have R1:=RS.below (HR.out.2.1);have B1:=BS.trans (HR.out.2.1.mono BS.size);have hs1:=HR.out.2.1.size;have hgl:wS.heap.size<wr.heap.size:=World.block_lt_of_cell? wr _ k0;have hne:wS.heap.size≠wr.heap.size:=by omega
     have c3:=fun wx=>xd r wx
     have HF:Hid (r.ok=false->gX s=Rc.zero/\isR s=false):=fun h=>fg (H4.out h)
     have HG:Hid (r.ok=true->gX s=r/\isR s=true):=fun h=>qK (H5.out hall h)
     obtain⟨b,hb⟩:=Fe r.ok
     rw[<-hb]at HF HG;simp only[<-hb]at c3;clear hb hr hall HR H3 H4 H5 HC HPT HV;obtain⟨w3,hw3⟩:=Fe (wr.alloc (.cells (de r) 38))
     have R3:cE w3 w.heap.size 38 Rc.zero:=by rw[hw3];exact R1.alloc _
     have Q3:cE w3 wr.heap.size 38 r:=by rw[hw3];exact cE.new wr _ r
     have B3:iO w w3:=by rw[hw3];exact B1.alloc B1.size _
     unfold de at hw3;unfold RV at c3;have hrr:w.heap.size≠wr.heap.size:=by omega
     clear R1 B1;go_wp2_with fail
     rw[<-hw3];refine Calls.mono (c3 _) ?_;rintro e w4 ⟨rfl,b4⟩;have R4:=R3.below b4;have Q4:=Q3.below b4;have B4:=B3.trans (b4.mono B3.size);have hs4:=R4.lt;clear c3 b4 R3 Q3 B3 hw3 k0 k1 k2 k3;cases b with
     |false=>
      have HE:=HF.out rfl;go_wp2_with (refine cR rfl _ _ rfl w.heap.size Rc.zero Rc.zero rfl rfl R4 ?_;intro w5 R5 G5)
      refine bodyPost_ret (dL rfl _ _ w.heap.size _ _ rfl rfl R5) rfl ?_;rw[HE.1,HE.2];exact⟨rfl,B4.grown G5 Ff (fun k e=>by cases e;exact Nat.le_refl _)⟩
     |true=>
      have HE:=HG.out rfl;go_wp2_with (first|(refine ic rfl _ rfl wr.heap.size rfl r Q4 ?_)|(refine cR rfl _ _ rfl w.heap.size r Rc.zero rfl rfl R4 ?_;intro w5 R5 G5))
      refine bodyPost_ret (dL rfl _ _ w.heap.size _ _ rfl rfl R5) rfl ?_;rw[HE.1,HE.2];exact⟨rfl,B4.grown G5 Ff (fun k e=>by cases e;exact Nat.le_refl _)⟩
  ·have HE:Hid (gX s=Rc.zero/\isR s=false):=fg (E1.out h4)
   have h4':((vs.length:Int) !=4)=true:=by simp;omega
   unfold gO;clear h4 E1 E2 E3 E4 E5 HPT hcells;go_wp2_with (refine cR rfl _ _ rfl w.heap.size Rc.zero Rc.zero rfl rfl RS ?_;intro w2 R2 G2)
   refine bodyPost_ret (dL rfl _ _ w.heap.size _ _ rfl rfl R2) rfl ?_;rw[HE.out.1,HE.out.2];exact⟨rfl,BS.grown G2 Ff (fun k e=>by cases e;exact Nat.le_refl _)⟩
 ·have HE:Hid (gX s=Rc.zero/\isR s=false):=fg (E2.out hw0)
  have hbeq:(bf==gO)=false:=by simpa using hw0
  unfold gO at hbeq;clear hw0 E1 E2 E3 E4 E5 HPT hcells;go_wp2_with (refine cR rfl _ _ rfl w.heap.size Rc.zero Rc.zero rfl rfl RS ?_;intro w2 R2 G2)
  refine bodyPost_ret (dL rfl _ _ w.heap.size _ _ rfl rfl R2) rfl ?_;rw[HE.out.1,HE.out.2];exact⟨rfl,BS.grown G2 Ff (fun k e=>by cases e;exact Nat.le_refl _)⟩
end Go.Proofs.YthldeiojlllkdaaGreatDoor
