/- The iterator of the program: wholeFrames hands back a function that gives each frame's text and where the frame ends. -/
import Derived.Test.YtflbcjgkdokhiaaGreatDoorM28
import Derived.Test.YtflbcjgkdokhiaaGreatDoorM9
import Derived.RangeFuncNested
import Derived.RangeFuncBox
import Derived.RangeFuncCalls
import Derived.RangeFuncLeaves
import Derived.Shelf.Abstract
import Derived.OwnWalkIn
import Derived.TacticsInMore
import Derived.LoopNIn
import Derived.LoopIn
import Derived.Maps.OwnIn
import Derived.RegionIn
import Derived.Test.YtflbcjgkdokhiaaGreatDoorM13
set_option maxRecDepth 100000
set_option maxHeartbeats 2000000
namespace Go.Proofs.YtflbcjgkdokhiaaGreatDoor
open Go.ChangeShapes Go.WideShapes Go.ChangeAt Go.RowKit
attribute [local go_sem] Oper.semAt_some
def Keep (Bn n0:Nat) (W W':World):Prop:=(∀v,W.cell? ⟨Bn,0,none⟩=some v→W'.cell? ⟨Bn,0,none⟩=some v)∧Below n0 W W'
theorem Keep.trans {Bn n0:Nat} {A B C:World} (h:Keep Bn n0 A B) (k:Keep Bn n0 B C):Keep Bn n0 A C:=⟨fun v hv=>k.1 v (h.1 v hv),h.2.trans k.2⟩
theorem Keep.book {Bn n0:Nat} {w:World} (hn:n0≤w.heap.size) (W:World) (l:Nat) (o o':Obj) (hl:w.heap.size≤l) (h:W.heap[l]?=some o) (h1:o.isCells=false) (h2:o.isWalk=false):Keep Bn n0 W (W.putObj l o'):=
 ⟨fun v hv=>cell_kept hv (grownBy_putObj' W l o') (fun r e=>by cases e;exact⟨o,h,h1⟩),belowK_b hn W l o o' hl h h1 h2⟩
theorem grown_of_below {w w':World} (h:Below w.heap.size w w') (row:Option Nat):w.grownBy w' row:=⟨h.os,h.tape,h.output,h.size,fun k hk _=>h.block k hk⟩
theorem iclone_any (l:Bs) (w:World) (hl:l.length≤1048576):
  Calls Tryz.prog 119 #[S l] w fun e w'=>e=.returned (S l)∧Below w.heap.size w w':=by
 have hsz:(⟨l.toArray⟩:ByteArray).size=l.length:=rfl
 have c0:=Tryz.stringslite_Clone ⟨l.toArray⟩ w (by omega)
 unfold S
 go_enter Tryz.func119,Tryz.ntmps119
 go_wp2_with fail
 refine c0.mono ?_
 rintro e w1 ⟨rfl,b1⟩
 clear c0
 go_wp2_with fail
 go_ret
 exact⟨rfl,b1⟩
theorem iter_in (n:Nat) (hn:1≤n) (l Bn n0:Nat) (s:Bs) (hl:s.length≤1048576) (J Jx:List (Bs×Nat)→World→Prop)
  (W:World) (hJ:AbidesFrom W.heap.size J) (hBn:W.cell? ⟨Bn,0,none⟩=some (S s)) (ht:∀W',Below n0 W W'→Tab W') (hn0:n0≤W.heap.size)
  (hY:∀pre x W1,J pre W1→pre.length<(wholeE s).length→x.1.length≤1048576→x.2≤1048576→YieldAt Fence.wide (n-1) Tryz.prog l #[S x.1,.int .i64 (x.2:Nat)] W1 fun e W'=>
   (e=.returned (.bool true)∧J (pre++[x]) W'∧Keep Bn n0 W1 W')∨(e=.returned (.bool false)∧Jx (pre++[x]) W')) (h0:J [] W):
  CallsIn Fence.wide n Tryz.prog 127 #[.func (.yield l) #[] #[],.pointer (some ⟨Bn,0,none⟩)] W fun e W'=>(∃v,e=.returned v)∧
   ((∃ys,ys=wholeE s∧J ys W')∨(∃pre:List (Bs×Nat),True∧Jx pre W')):=by
 have hsz:(⟨s.toArray⟩:ByteArray).size=s.length:=rfl
 refine callsIn_of_wp Tryz.func127 rfl trivial ?_ rfl
 simp only[Tryz.ntmps127,List.size_toArray,List.length_cons,List.length_nil,Nat.reduceAdd,Nat.reduceSub,Array.replicate_succ,Array.replicate_zero,List.push_toArray,List.append_toArray,List.nil_append,List.cons_append]
 gi_wp2
 gi_loopw [3,6] (fun e k wr=>∃(a:Nat) (pre:List (Bs×Nat)),e=.int .i64 a∧k=.int .i64 pre.length∧(a:Int)≤s.length∧(pre.length:Int)≤2000∧Hid (J pre wr∧wr.cell? ⟨Bn,0,none⟩=some (S s)∧Below n0 W wr∧EInv s pre a)) (fun _ k _=>2000-(intOf k).toNat)
 case atStart=>exact⟨0,[],rfl,rfl,by omega,by simp,h0,hBn,Below.refl _ _,EInv.start s⟩
 case round=>
  obtain⟨a,pre,rfl,rfl,ha,hp,HR⟩:=hrel
  by_cases hlt:(pre.length:Int)<2000
  ·have hex:=extract_cut s a s.length
   have e0:cutB s a s.length=s.drop a:=by simp[cutB]
   rw[e0]at hex
   have hc:=HR.out.2.1
   have c1:=ifirst_any (s.drop a) wr (by simp;omega) (ht wr HR.out.2.2.1)
   have hfl:=firstB_le (s.drop a)
   have hdl:(s.drop a).length=s.length-a:=by simp
   have HN:Hid ((firstB (s.drop a)).2≠0→_):=fun h=>HR.out.2.2.2.next (by omega) h
   have HZ:Hid ((firstB (s.drop a)).2=0→_):=fun h=>HR.out.2.2.2.stop (.inl h)
   obtain⟨q,hq⟩:∃q,q=s.drop a:=⟨_,rfl⟩
   rw[←hq]at hex c1 hfl hdl HN HZ
   obtain⟨t,hte⟩:∃t,t=(firstB q).1:=⟨_,rfl⟩
   obtain⟨m,hm⟩:∃m,m=(firstB q).2:=⟨_,rfl⟩
   rw[←hte,←hm]at c1 HN
   rw[←hm]at hfl HZ
   unfold S at c1 hc
   clear e0 hq hm
   gi_wp2_with fail
   refine⟨trivial,(callsIn_wide.2 c1).mono ?_⟩
   rintro e w1 ⟨rfl,b1⟩
   have HR1:Hid (J pre w1∧w1.cell? ⟨Bn,0,none⟩=some (S s)∧Below n0 W w1):=⟨hJ pre wr w1 none HR.out.1 (grown_of_below b1 none) (fun r h=>by cases h),(grown_of_below b1 none).cell HR.out.2.1 (by simp),HR.out.2.2.1.trans (b1.mono (Nat.le_trans hn0 HR.out.2.2.1.size))⟩
   clear b1 c1 hc HR
   by_cases hm0:m=0
   ·subst hm0
    have HF:=HZ.out rfl
    gi_wp2_with fail
    refine bodyPost_ret (results_none rfl _ _ _) rfl ?_
    exact⟨⟨_,rfl⟩,.inl ⟨pre,HF,HR1.out.1⟩⟩
   ·have h0':((m:Int)==0)=false:=by simpa using hm0
    have htl:t.length≤1048576:=by
     have:=firstB_text_len q
     rw[hte];omega
    have c2:=iclone_any t w1 htl
    unfold S at c2
    obtain⟨HI,hlen⟩:=HN.out hm0
    have HI':Hid (EInv s (pre++[(t,a+m)]) (a+m)):=HI
    clear HI HN HZ hte hex
    gi_wp2_with fail
    refine⟨trivial,(callsIn_wide.2 c2).mono ?_⟩
    rintro e w2 ⟨rfl,b2⟩
    have HR2:Hid (J pre w2∧w2.cell? ⟨Bn,0,none⟩=some (S s)∧Below n0 W w2):=⟨hJ pre w1 w2 none HR1.out.1 (grown_of_below b2 none) (fun r h=>by cases h),(grown_of_below b2 none).cell HR1.out.2.1 (by simp),HR1.out.2.2.trans (b2.mono (Nat.le_trans hn0 HR1.out.2.2.size))⟩
    clear b2 c2 HR1
    obtain⟨fn,tmps,assign,body,hy,hR⟩:=hY pre (t,a+m) w2 HR2.out.1 hlen htl (by dsimp only;omega)
    dsimp only at hy
    unfold S at hy
    have hcast:((a+m:Nat):Int)=(a:Int)+(m:Int):=by omega
    rw[hcast]at hy
    gi_wp2
    refine hR.mono ?_
    rintro e W3 (⟨rfl,hJ3,hk3⟩|⟨rfl,hJx3⟩)
    ·have HR3:Hid (J (pre++[(t,a+m)]) W3∧W3.cell? ⟨Bn,0,none⟩=some (S s)∧Below n0 W W3∧EInv s (pre++[(t,a+m)]) (a+m)):=⟨hJ3,hk3.1 _ HR2.out.2.1,HR2.out.2.2.trans hk3.2,HI'.out⟩
     clear hJ3 hk3 HR2 hy hR
     gi_wp2
     go_roundw
     case rel=>exact⟨a+m,pre++[(t,a+m)],by go_num,by simp,by omega,by simp;omega,HR3⟩
     case measure=>simp[intOf];omega
    ·gi_wp2
     refine bodyPost_ret (results_none rfl _ _ _) rfl ?_
     exact⟨⟨_,rfl⟩,.inr ⟨_,trivial,hJx3⟩⟩
  ·have HF:Hid (pre=wholeE s):=HR.out.2.2.2.stop (.inr (by omega))
   gi_wp2
   go_end0
   exact⟨⟨_,rfl⟩,.inl (by have h:=HR.out.1;rwa[HF.out]at h)⟩
end Go.Proofs.YtflbcjgkdokhiaaGreatDoor
set_option maxRecDepth 20000
set_option maxHeartbeats 1000000
namespace Go.Proofs.YtflbcjgkdokhiaaGreatDoor
open Go.ChangeShapes Go.WideShapes Go.ChangeAt Go.RowKit
attribute [local go_sem] Oper.semAt_some
theorem whole_any (s:Bs) (w:World):
  Calls Tryz.prog 117 #[.string ⟨s.toArray⟩] w fun e w'=>e=.returned (.func (.func 127) #[] #[.pointer (some ⟨w.heap.size,0,none⟩)])∧w'=w.alloc (.cells #[.string ⟨s.toArray⟩] 9):=by
 go_enter Tryz.func117,Tryz.ntmps117
 go_wp2
 go_ret
 exact⟨rfl,rfl⟩
end Go.Proofs.YtflbcjgkdokhiaaGreatDoor
set_option maxRecDepth 20000
set_option maxHeartbeats 4000000
namespace Go.Proofs.YtflbcjgkdokhiaaGreatDoor
open Go.ChangeShapes Go.WideShapes Go.ChangeAt Go.RowKit
theorem nozero {l:Bs} {k:Nat} (ho:offN l=k) (hk:k<l.length) (h:l[k]≠48∨l.length≤1):¬((digs l).head? =some 48∧1<l.length):=by
 rintro⟨h1,h2⟩
 subst ho
 rw[head_digs l hk]at h1
 rcases h with h|h
 ·exact h (by simpa using h1)
 ·omega
theorem leadzero {l:Bs} {k:Nat} (ho:offN l=k) (hk:k<l.length) (h:l[k]=48) (h1:1<l.length):okN l=false:=by
 subst ho
 rw[←Bool.not_eq_true,okN_iff]
 rintro⟨_,_,_,h4⟩
 exact h4 ⟨by rw[head_digs l hk,h],h1⟩
theorem iread_any (l:Bs) (w:World) (hl:l.length≤1048576):
  Calls Tryz.prog 131 #[S l] w fun e w'=>e=.returned (.tuple #[.int .i64 (num l),.bool (okN l)])∧w'=w:=by
 have hsz:(⟨l.toArray⟩:ByteArray).size=l.length:=rfl
 unfold S
 go_enter Tryz.func131,Tryz.ntmps131
 go_wp2
 go_loop [4,5,6,7,12] (fun st sg v dg i=>∃j:Nat,(j:Int)≤l.length∧i=.int .i64 j∧
  ((j=0∧st=.int .i64 0∧sg=.int .i64 1∧v=.int .i64 0∧dg=.int .i64 0)∨
   (j=1∧st=.int .i64 1∧sg=.int .i64 (-1)∧v=.int .i64 0∧dg=.int .i64 0∧Hid (neg l=true))∨
   (∃(x d:Int) (k:Nat) (s:Int),st=.int .i64 2∧sg=.int .i64 s∧v=.int .i64 x∧dg=.int .i64 d∧(j:Int)=offN l+d∧1≤d∧d≤9∧0≤x∧x<1000000000∧s=(if neg l then-1 else 1)∧RdInv l j x∧¬((digs l).head? =some 48∧1<l.length)))) (fun _ _ _ _ i=>l.length-(intOf i).toNat)
 case atStart=>exact⟨0,by omega,rfl,.inl ⟨rfl,rfl,rfl,rfl,rfl⟩⟩
 case round=>
  obtain⟨j,hj1,rfl,hcase⟩:=hrel
  rcases hcase with⟨rfl,rfl,rfl,rfl,rfl⟩|⟨rfl,rfl,rfl,rfl,rfl,HG⟩|⟨x,d,k,sg,rfl,rfl,rfl,rfl,hjd,hd1,hd9,hx0,hx1,hsg,hI,hZ⟩
  ·by_cases hlt:(0:Int)<(l.length:Int)
   ·have hj:0<l.length:=by omega
    have ht:=byteAt_is l 0 hj 45 45 rfl
    by_cases hb:l[0]=45
    ·have HG:Hid (neg l=true):=by rw[Hid,neg_at l hj];simp[hb]
     rw[show decide (l[0]=45)=true by simp[hb]]at ht
     clear hb
     go_wp2
     go_round
     case rel=>exact⟨1,by omega,by go_num,.inr (.inl ⟨rfl,rfl,rfl,rfl,rfl,HG⟩)⟩
     case measure=>simp[intOf];omega
    ·have hng:neg l=false:=by rw[neg_at l hj];simp[hb]
     have HO:Hid (offN l=0∧neg l=false):=⟨by unfold offN;rw[hng];rfl,hng⟩
     rw[show decide (l[0]=45)=false by simp[hb]]at ht
     have ht0:=byteAt_is l 0 hj 48 48 rfl
     clear hng hb
     have hbv:=byteV_is l 0 hj
     by_cases hz:l[0]=48
     ·rw[show decide (l[0]=48)=true by simp[hz]]at ht0
      by_cases h1l:1<(l.length:Int)
      ·have HE:Hid (okN l=false∧num l=0):=by
        have:=leadzero HO.out.1 hj hz (by omega)
        exact⟨this,num_not this⟩
       clear hz hbv
       go_wp2
       go_ret2
       rw[HE.out.1,HE.out.2]
       exact⟨rfl,rfl⟩
      ·have HZ:Hid (¬((digs l).head? =some 48∧1<l.length)):=nozero HO.out.1 hj (.inr (by omega))
       clear hz
       by_cases hlo:byteV l 0 hj<48
       ·have HE:Hid (okN l=false∧num l=0):=by
         have:=RdInv.bad (l:=l) (j:=0) (by rw[HO.out.1];omega) hj (by rw[hbv]at hlo;simp[isDig];omega)
         exact⟨this,num_not this⟩
        unfold byteV at*
        clear hbv
        go_wp2
        go_ret2
        rw[HE.out.1,HE.out.2]
        exact⟨rfl,rfl⟩
       ·by_cases hhi:57<byteV l 0 hj
        ·have HE:Hid (okN l=false∧num l=0):=by
          have:=RdInv.bad (l:=l) (j:=0) (by rw[HO.out.1];omega) hj (by rw[hbv]at hhi;simp[isDig];omega)
          exact⟨this,num_not this⟩
         unfold byteV at*
         clear hbv
         go_wp2
         go_ret2
         rw[HE.out.1,HE.out.2]
         exact⟨rfl,rfl⟩
        ·have HN:Hid (∀y,y=0*10+(byteV l 0 hj-48)→RdInv l (0+1) y):=by
          intro y hy
          rw[hy,hbv]
          exact RdInv.next (by have:=RdInv.start l;rwa[HO.out.1]at this) (by rw[HO.out.1];omega) hj (by rw[hbv]at hlo hhi;simp[isDig];omega)
         have hlo2:48≤byteV l 0 hj:=by omega
         have hhi2:byteV l 0 hj≤57:=by omega
         clear hbv
         unfold byteV at*
         go_wp2
         go_round
         case rel=>exact⟨0+1,by omega,by go_num,.inr (.inr ⟨_,_,1,1,rfl,rfl,rfl,rfl,by rw[HO.out.1];omega,by omega,by omega,by omega,by omega,by simp[HO.out.2],HN.out _ (by omega),HZ.out⟩)⟩
         case measure=>simp[intOf];omega
     ·rw[show decide (l[0]=48)=false by simp[hz]]at ht0
      have HZ:Hid (¬((digs l).head? =some 48∧1<l.length)):=nozero HO.out.1 hj (.inl hz)
      clear hz
      by_cases hlo:byteV l 0 hj<48
      ·have HE:Hid (okN l=false∧num l=0):=by
        have:=RdInv.bad (l:=l) (j:=0) (by rw[HO.out.1];omega) hj (by rw[hbv]at hlo;simp[isDig];omega)
        exact⟨this,num_not this⟩
       unfold byteV at*
       clear hbv
       go_wp2
       go_ret2
       rw[HE.out.1,HE.out.2]
       exact⟨rfl,rfl⟩
      ·by_cases hhi:57<byteV l 0 hj
       ·have HE:Hid (okN l=false∧num l=0):=by
         have:=RdInv.bad (l:=l) (j:=0) (by rw[HO.out.1];omega) hj (by rw[hbv]at hhi;simp[isDig];omega)
         exact⟨this,num_not this⟩
        unfold byteV at*
        clear hbv
        go_wp2
        go_ret2
        rw[HE.out.1,HE.out.2]
        exact⟨rfl,rfl⟩
       ·have HN:Hid (∀y,y=0*10+(byteV l 0 hj-48)→RdInv l (0+1) y):=by
         intro y hy
         rw[hy,hbv]
         exact RdInv.next (by have:=RdInv.start l;rwa[HO.out.1]at this) (by rw[HO.out.1];omega) hj (by rw[hbv]at hlo hhi;simp[isDig];omega)
        have hlo2:48≤byteV l 0 hj:=by omega
        have hhi2:byteV l 0 hj≤57:=by omega
        clear hbv
        unfold byteV at*
        go_wp2
        go_round
        case rel=>exact⟨0+1,by omega,by go_num,.inr (.inr ⟨_,_,1,1,rfl,rfl,rfl,rfl,by rw[HO.out.1];omega,by omega,by omega,by omega,by omega,by simp[HO.out.2],HN.out _ (by omega),HZ.out⟩)⟩
        case measure=>simp[intOf];omega
   ·have HE:Hid (okN l=false∧num l=0):=by
     have:=okN_short l (by omega)
     exact⟨this,num_not this⟩
    go_wp2
    go_ret2
    rw[HE.out.1,HE.out.2]
    exact⟨rfl,rfl⟩
  ·have HO:Hid (offN l=1∧neg l=true):=⟨by unfold offN;rw[HG.out];rfl,HG.out⟩
   clear HG
   by_cases hlt:(1:Int)<(l.length:Int)
   ·have hj:1<l.length:=by omega
    have ht0:=byteAt_is l 1 hj 48 48 rfl
    have hbv:=byteV_is l 1 hj
    by_cases hz:l[1]=48
    ·rw[show decide (l[1]=48)=true by simp[hz]]at ht0
     have HE:Hid (okN l=false∧num l=0):=by
      have:=leadzero HO.out.1 hj hz (by omega)
      exact⟨this,num_not this⟩
     clear hz hbv
     go_wp2
     go_ret2
     rw[HE.out.1,HE.out.2]
     exact⟨rfl,rfl⟩
    ·rw[show decide (l[1]=48)=false by simp[hz]]at ht0
     have HZ:Hid (¬((digs l).head? =some 48∧1<l.length)):=nozero HO.out.1 hj (.inl hz)
     clear hz
     by_cases hlo:byteV l 1 hj<48
     ·have HE:Hid (okN l=false∧num l=0):=by
       have:=RdInv.bad (l:=l) (j:=1) (by rw[HO.out.1];omega) hj (by rw[hbv]at hlo;simp[isDig];omega)
       exact⟨this,num_not this⟩
      unfold byteV at*
      clear hbv
      go_wp2
      go_ret2
      rw[HE.out.1,HE.out.2]
      exact⟨rfl,rfl⟩
     ·by_cases hhi:57<byteV l 1 hj
      ·have HE:Hid (okN l=false∧num l=0):=by
        have:=RdInv.bad (l:=l) (j:=1) (by rw[HO.out.1];omega) hj (by rw[hbv]at hhi;simp[isDig];omega)
        exact⟨this,num_not this⟩
       unfold byteV at*
       clear hbv
       go_wp2
       go_ret2
       rw[HE.out.1,HE.out.2]
       exact⟨rfl,rfl⟩
      ·have HN:Hid (∀y,y=0*10+(byteV l 1 hj-48)→RdInv l (1+1) y):=by
        intro y hy
        rw[hy,hbv]
        exact RdInv.next (by have:=RdInv.start l;rwa[HO.out.1]at this) (by rw[HO.out.1];omega) hj (by rw[hbv]at hlo hhi;simp[isDig];omega)
       have hlo2:48≤byteV l 1 hj:=by omega
       have hhi2:byteV l 1 hj≤57:=by omega
       clear hbv
       unfold byteV at*
       go_wp2
       go_round
       case rel=>exact⟨1+1,by omega,by go_num,.inr (.inr ⟨_,_,1,(-1),rfl,rfl,rfl,rfl,by rw[HO.out.1];omega,by omega,by omega,by omega,by omega,by simp[HO.out.2],HN.out _ (by omega),HZ.out⟩)⟩
       case measure=>simp[intOf];omega
   ·have HE:Hid (okN l=false∧num l=0):=by
     have:=okN_short l (by have:=HO.out.1;omega)
     exact⟨this,num_not this⟩
    go_wp2
    go_ret2
    rw[HE.out.1,HE.out.2]
    exact⟨rfl,rfl⟩
  ·have HI:Hid (RdInv l j x∧¬((digs l).head? =some 48∧1<l.length)∧(j:Int)=offN l+d∧sg=(if neg l then-1 else 1)):=⟨hI,hZ,hjd,hsg⟩
   have hoj:offN l≤j:=by omega
   have HJ:Hid (offN l≤j):=hoj
   clear hI hZ hsg hjd hoj
   by_cases hlt:(j:Int)<(l.length:Int)
   ·have hj:j<l.length:=by omega
    have hbv:=byteV_is l j hj
    by_cases hlo:byteV l j hj<48
    ·have HE:Hid (okN l=false∧num l=0):=by
      have:=RdInv.bad (l:=l) (j:=j) HJ.out hj (by rw[hbv]at hlo;simp[isDig];omega)
      exact⟨this,num_not this⟩
     unfold byteV at*
     clear hbv
     go_wp2
     go_ret2
     rw[HE.out.1,HE.out.2]
     exact⟨rfl,rfl⟩
    ·by_cases hhi:57<byteV l j hj
     ·have HE:Hid (okN l=false∧num l=0):=by
       have:=RdInv.bad (l:=l) (j:=j) HJ.out hj (by rw[hbv]at hhi;simp[isDig];omega)
       exact⟨this,num_not this⟩
      unfold byteV at*
      clear hbv
      go_wp2
      go_ret2
      rw[HE.out.1,HE.out.2]
      exact⟨rfl,rfl⟩
     ·by_cases hd:d=9
      ·have HE:Hid (okN l=false∧num l=0):=by
        have:=okN_long l (by have:=HI.out.2.2.1;omega)
        exact⟨this,num_not this⟩
       unfold byteV at*
       clear hbv
       subst hd
       go_wp2
       go_ret2
       rw[HE.out.1,HE.out.2]
       exact⟨rfl,rfl⟩
      ·have hdn:(d==9)=false:=by simpa using hd
       have HN:Hid (∀y,y=x*10+(byteV l j hj-48)→RdInv l (j+1) y∧0≤y∧y<1000000000):=by
        intro y hy
        have h1:RdInv l (j+1) y:=by
         rw[hy,hbv]
         exact HI.out.1.next HJ.out hj (by rw[hbv]at hlo hhi;simp[isDig];omega)
        exact⟨h1,h1.bd (by have:=HI.out.2.2.1;omega)⟩
       have hlo2:48≤byteV l j hj:=by omega
       have hhi2:byteV l j hj≤57:=by omega
       clear hbv
       unfold byteV at*
       go_wp2
       go_round
       case rel=>
        refine⟨j+1,by omega,by go_num,.inr (.inr ⟨_,_,1,sg,rfl,rfl,rfl,rfl,by have:=HI.out.2.2.1;omega,by omega,by omega,?_,?_,HI.out.2.2.2,?_,HI.out.2.1⟩)⟩
        ·exact(HN.out _ (by omega)).2.1
        ·exact(HN.out _ (by omega)).2.2
        ·exact(HN.out _ (by omega)).1
       case measure=>simp[intOf];omega
   ·obtain rfl:j=l.length:=by omega
    have hdn:=HI.out.1.done (by have:=HI.out.2.2.1;omega) (by have:=HI.out.2.2.1;omega)
    have hok:okN l=true:=by
     rw[hdn.1]
     have:=HI.out.2.1
     simp only[Bool.not_eq_true',Bool.and_eq_false_iff,decide_eq_false_iff_not]
     by_cases h:(digs l).head? =some 48
     ·exact .inr (fun h'=>this ⟨h,h'⟩)
     ·exact .inl h
    have HE:Hid (okN l=true∧num l=sg*x):=by
     refine⟨hok,?_⟩
     rw[num,hok,HI.out.2.2.2,hdn.2]
     cases neg l<;>simp
    have hs2:sg=1∨sg= -1:=by rw[HI.out.2.2.2];cases neg l<;>simp
    clear hdn hok
    rcases hs2 with rfl|rfl
    all_goals
     go_wp2
     go_ret2
     rw[HE.out.1,HE.out.2]
     exact⟨by simp,rfl⟩
end Go.Proofs.YtflbcjgkdokhiaaGreatDoor
