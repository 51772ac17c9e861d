/- A scope with labels: the jumps are followed one after the other, as many as there are. -/
import Derived.Test.YthldeiojlllkdaaGreatDoorM27
import Derived.Scope
import Derived.ScopeJumps
import Derived.WalkMore
import Derived.LaidMore
import Derived.Stop.Joined
import Derived.Stop.LaidErr
import Derived.Lib.LaidTab
import Derived.LaidHandle
import Derived.OpenVars
import Derived.Lay
import Derived.Lib.LaidIn
set_option maxRecDepth 20000
set_option maxHeartbeats 8000000
namespace Go.Proofs.YthldeiojlllkdaaGreatDoor
open Go.ChangeShapes Go.WideShapes Go.ChangeAt Go.RowKit
def mo (P:Program) (c:Code) (Q:Exit->Act->World->Prop):Nat->Exit->Act->World->Prop
 |0,.goto _,_,_=>False
 |n+1,.goto l,a,w=>∃rest,findLabel c l=some rest/\rest.wp P (mo P c Q n) a w
 |_,e,a,w=>Q e a w
theorem xI {P:Program} {c:Code} {Q:Exit->Act->World->Prop} (n:Nat):∀(d:Code) (a:Act) (w:World),d.wp P (mo P c Q n) a w->
  ∀b k cs,∃e a' w',Q e a' w'/\Arrives P (lone (b.at a (.code d:: .inScope c::k)) cs w) b k cs e a' w':=by
 induction n with
 |zero=>
  intro d a w h b k cs;obtain⟨e,a₁,w₁,hq,harr⟩:=h b (.inScope c::k) cs;cases e with
  |normal=>exact⟨.normal,a₁,w₁,hq,Steps.trans harr (.one step_inScope)⟩
  |exit id=>exact⟨.exit id,a₁,w₁,hq,fun k' hk=>harr k' (by simp[exitTo,hk])⟩
  |goto l=>exact hq.elim
  |ret=>exact⟨_,a₁,w₁,hq,harr⟩
  |panic ch=>exact⟨_,a₁,w₁,hq,harr⟩
  |outgrown=>exact⟨_,a₁,w₁,hq,harr⟩
 |succ n ih=>
  intro d a w h b k cs;obtain⟨e,a₁,w₁,hq,harr⟩:=h b (.inScope c::k) cs;cases e with
  |normal=>exact⟨.normal,a₁,w₁,hq,Steps.trans harr (.one step_inScope)⟩
  |exit id=>exact⟨.exit id,a₁,w₁,hq,fun k' hk=>harr k' (by simp[exitTo,hk])⟩
  |goto l=>
   obtain⟨rest,hf,hr⟩:=hq;have hg:gotoIn l (.inScope c::k)=some (.code rest:: .inScope c::k):=by simp[gotoIn,hf]
   obtain⟨e₂,a₂,w₂,hq₂,harr₂⟩:=ih rest a₁ w₁ hr b k cs;exact⟨e₂,a₂,w₂,hq₂,.of_steps (harr _ hg) harr₂⟩
  |ret=>exact⟨_,a₁,w₁,hq,harr⟩
  |panic ch=>exact⟨_,a₁,w₁,hq,harr⟩
  |outgrown=>exact⟨_,a₁,w₁,hq,harr⟩
theorem zZ {P:Program} {c:Code} {Q:Exit->Act->World->Prop} {a:Act} {w:World} (n:Nat) (h:c.wp P (mo P c Q n) a w):(Code.scope c).wp P Q a w:=by
 intro b k cs;obtain⟨e,a',w',hq,harr⟩:=xI n c a w h b k cs;exact⟨e,a',w',hq,.of_steps (.one step_scope) harr⟩
theorem cU {P:Program} {c:Code} {Q:Exit->Act->World->Prop} {a:Act} {w:World} (n l:Nat) (rest:Code) (hf:findLabel c l=some rest) (h:rest.wp P (mo P c Q n) a w):mo P c Q (n+1) (.goto l) a w:=⟨rest,hf,h⟩
theorem xJ {P:Program} {c:Code} {Q:Exit->Act->World->Prop} {a:Act} {w:World} {n:Nat} (h:Q .ret a w):mo P c Q n .ret a w:=by cases n<;>exact h
theorem vY (l:Bs) (w:World) (hl:l.length<=1048576):
  Calls Tryz.prog 68 #[S l] w fun e w'=>e=.returned (.int .u8 (eW l))/\w'=w:=by
 have hsz:(⟨l.toArray⟩:ByteArray).size=l.length:=rfl;unfold S;go_enter Tryz.func68,Tryz.ntmps68;go_wp2;go_loop [3,7] (fun h i=>∃j:Nat,j<=l.length/\i=.int .i64 j/\∃x:Int,h=.int .u8 x/\0<=x/\x<256/\Hid (x=kF l j%256)) (fun _ i=>l.length-(intOf i).toNat)
 case atStart=>exact⟨0,Nat.zero_le _,rfl,0,rfl,by omega,by omega,by simp[Hid,kF]⟩
 case round=>
  obtain⟨j,hj,rfl,x,rfl,hx0,hx1,HX⟩:=hrel;by_cases hlt:(j:Int)<(l.length:Int)
  ·go_wp2
   go_round
   case rel=>
    have h1:j<l.length:=by omega
    have h2:am (l.getD j 0)=am l[j]:=by simp[h1]
    have h3:=lE l j h1;rw[h2]at h3;have h4:((⟨l.toArray⟩:ByteArray)[j]' Ff).toNat=l[j].toNat:=rfl;refine⟨j+1,by omega,by go_num,_,rfl,by omega,by omega,?_⟩;rw[Hid,h3,HX.out,h4];unfold am;omega
   case measure=>simp[intOf];omega
  ·have HE:Hid (eW l=255-x):=by
    have e:j=l.length:=by omega
    have h:=HX.out;rw[e]at h;unfold kF at h;rw[List.take_length]at h;rw[Hid,eW,h]
   go_wp2;go_ret;rw[HE.out];exact⟨rfl,rfl⟩
theorem w8 (x:UInt8):wrap64 (am x)=am x:=by have:=bm x;exact fN this.1 Ff
theorem w16 (x y:UInt8):wrap64 (wrap64 (am x*256)+am y)=am x*256+am y:=by
 have:=bm x;have:=bm y;rw[fN (x:=am x*256) Ff Ff,fN Ff Ff]
theorem AT (a b c d e f g i:UInt8):(⟨wrap64 (wrap64 (am a)),wrap64 (wrap64 (am b)),wrap64 (wrap64 (wrap64 (wrap64 (am c))*256)+wrap64 (am d)),wrap64 (wrap64 (wrap64 (wrap64 (am e))*256)+wrap64 (am f)),wrap64 (wrap64 (am g))⟩:Cm)=fA [a,b,c,d,e,f,g,i]:=by
 simp only[w8,w16];rfl
theorem Cv (w:World) (c d:Cm):CmB ((w.alloc (.cells (cmA c) 66)).alloc (.cells (cmA d) 66)) w.heap.size 66 c/\iO w ((w.alloc (.cells (cmA c) 66)).alloc (.cells (cmA d) 66)):=
 ⟨(CmB.new w _ c).alloc _,Fc.alloc Fg _⟩
theorem vZ (l:Bs) (w:World) (hl:l.length=8):
  Calls Tryz.prog 69 #[S l] w fun e w'=>e=.returned (CV (fA l))/\iO w w':=by
 obtain⟨a,b,c,d,e,f,g,i,rfl⟩:=sK hl;have ha:=bm a;have hb:=bm b;have hc:=bm c;have hd:=bm d;have he:=bm e;have hf:=bm f;have hg:=bm g;unfold S;go_enter Tryz.func69,Tryz.ntmps69;go_wp2;refine zZ 11 ?_;go_wp2
 go_step3
 go_wp2
 go_step3
 refine cU 10 1 _ rfl ?_;go_wp2
 go_step3
 refine cU 9 0 _ rfl ?_;go_wp2
 go_step3
 refine cU 8 2 _ rfl ?_;go_wp2
 go_step3
 refine cU 7 0 _ rfl ?_;go_wp2
 go_step3
 refine cU 6 0 _ rfl ?_;go_wp2
 go_step3
 refine cU 5 3 _ rfl ?_;go_wp2
 go_step3
 refine cU 4 0 _ rfl ?_;go_wp2
 go_step3
 refine cU 3 0 _ rfl ?_;go_wp2
 go_step3
 refine cU 2 4 _ rfl ?_;go_wp2
 go_step3
 refine cU 1 0 _ rfl ?_;go_wp2
 go_step3
 refine cU 0 5 _ rfl ?_;go_wp2;refine xJ ?_;have h:=Cv w ⟨wrap64 (wrap64 (am a)),wrap64 (wrap64 (am b)),wrap64 (wrap64 (wrap64 (wrap64 (am c))*256)+wrap64 (am d)),wrap64 (wrap64 (wrap64 (wrap64 (am e))*256)+wrap64 (am f)),wrap64 (wrap64 (am g))⟩ ⟨wrap64 (wrap64 (am a)),wrap64 (wrap64 (am b)),wrap64 (wrap64 (wrap64 (wrap64 (am c))*256)+wrap64 (am d)),wrap64 (wrap64 (wrap64 (wrap64 (am e))*256)+wrap64 (am f)),wrap64 (wrap64 (am g))⟩;refine bodyPost_ret (yB rfl _ _ w.heap.size _ rfl h.1) rfl ?_;exact⟨congrArg (fun c=>Ending.returned (CV c)) (AT a b c d e f g i),h.2⟩
theorem rO (l:Bs) (b:Nat):(⟨l.toArray⟩:ByteArray).extract 0 b=⟨(l.take b).toArray⟩:=by
 apply ByteArray.ext;rw[ByteArray.data_extract];simp[List.extract_toArray]
theorem vL (s:Bs) (w:World) (hl:s.length<=1048576):
  Calls Tryz.prog 25 #[S s] w fun e w'=>e=.returned (.tuple #[CV (ax s),.int .i64 (aO s)])/\iO w w':=by
 have hsz:(⟨s.toArray⟩:ByteArray).size=s.length:=rfl;obtain⟨w2,hw2⟩:=Fe (w.alloc (.cells (cmA Cm.zero) 66))
 have Z2:CmB w2 w.heap.size 66 Cm.zero:=by rw[hw2];exact CmB.new w _ _
 have B2:iO w w2:=by rw[hw2];exact Fc
 unfold cmA Cm.zero at hw2;dsimp only at hw2;unfold S;by_cases h8:(s.length:Int)<8
 ·have HE:Hid (aO s=1/\ax s=Cm.zero):=jY Ff
  go_enter Tryz.func25,Tryz.ntmps25;go_wp2;rw[<-hw2];refine bodyPost_ret (da rfl _ _ w.heap.size _ _ rfl rfl Z2) rfl ?_;rw[HE.out.1,HE.out.2];exact⟨rfl,B2⟩
 ·by_cases h9:8<(s.length:Int)
  ·have HE:Hid (aO s=2/\ax s=Cm.zero):=lF Ff
   go_enter Tryz.func25,Tryz.ntmps25;go_wp2;rw[<-hw2];refine bodyPost_ret (da rfl _ _ w.heap.size _ _ rfl rfl Z2) rfl ?_;rw[HE.out.1,HE.out.2];exact⟨rfl,B2⟩
  ·have hl8:s.length=8:=by omega
   have H1:Hid (am (s.getD 7 0)≠eW (s.take 7)->aO s=3/\ax s=Cm.zero):=sL hl8;have H2:Hid (am (s.getD 7 0)=eW (s.take 7)->inI (fA s).o 1 12=false->aO s=4/\ax s=Cm.zero):=xS hl8;have H3:Hid (am (s.getD 7 0)=eW (s.take 7)->inI (fA s).o 1 12=true->(fA s).ok=false->aO s=5/\ax s=Cm.zero):=nI hl8;have H4:Hid (am (s.getD 7 0)=eW (s.take 7)->(fA s).ok=true->aO s=0/\ax s=fA s):=xU hl8;have cs:=fun wx=>vY (s.take 7) wx (by simp;omega)
   have cf:=fun wx=>vZ s wx hl8
   have c2:=fun wx=>x8 (fA s).o wx
   have c3:=fun wx=>dv (fA s) wx
   have h7:7<s.length:=by omega
   have e7:am (s.getD 7 0)=(((⟨s.toArray⟩:ByteArray)[7]'h7).toNat:Int):=by
    rw[List.getD_eq_getElem?_getD,List.getElem?_eq_getElem h7];rfl
   have hex:=rO s 7;rw[e7]at H1 H2 H3 H4;obtain⟨z,hz⟩:=Fe (eW (s.take 7))
   rw[<-hz]at H1 H2 H3 H4;simp only[<-hz]at cs;obtain⟨c,hc⟩:=Fe (fA s)
   rw[<-hc]at H2 H3 H4;simp only[<-hc]at cf c2 c3;unfold S at cs cf;have hl8':(s.length:Int)=8:=by omega
   clear e7 hz hc hl8 hl h8 h9;have HW:Hid (w2=w.alloc (.cells #[.int .i64 0,.int .i64 0,.int .i64 0,.int .i64 0,.int .i64 0] 66)):=hw2;have hws:w.heap.size<w2.heap.size:=Z2.lt;clear hw2;go_enter Tryz.func25,Tryz.ntmps25;go_wp2;rw[<-HW.out]
   go_quiet ((go_at_call 68;exact Calls.quiet_of_same (cs _)))
   obtain⟨w5,hw5⟩:=Fe (w2.drewN nq)
   have Z5:CmB w5 w.heap.size 66 Cm.zero:=by rw[hw5];exact Z2
   have B5:iO w w5:=by rw[hw5];exact below_drewN B2 nq
   have hsz5:w.heap.size<w5.heap.size:=Z5.lt;rw[<-hw5];clear hw5 HW hws Z2 B2 cs hex;by_cases hd:(((⟨s.toArray⟩:ByteArray)[7]'h7).toNat:Int)=z
   ·have HA:Hid (inI c.o 1 12=false->aO s=4/\ax s=Cm.zero):=H2.out hd
    have HB:Hid (inI c.o 1 12=true->c.ok=false->aO s=5/\ax s=Cm.zero):=H3.out hd;have HD:Hid (c.ok=true->aO s=0/\ax s=c):=H4.out hd;clear H1 H2 H3 H4;obtain⟨b1,hb1⟩:=Fe (inI c.o 1 12)
    obtain⟨b2,hb2⟩:=Fe c.ok
    rw[<-hb1]at HA HB;rw[<-hb2]at HB HD;simp only[<-hb1]at c2;simp only[<-hb2]at c3;clear hb1 hb2;unfold CV cmA at cf c3;go_wp2_with fail
    refine(cf _).mono ?_;rintro e w3 ⟨rfl,b3⟩;have Z3:=Z5.below b3;have B3:=B5.trans (b3.mono B5.size);obtain⟨w4,hw4⟩:=Fe (w3.alloc (.cells #[.int .i64 c.o,.int .i64 c.p,.int .i64 c.a,.int .i64 c.b,.int .i64 c.k] 66))
    have Z4:CmB w4 w.heap.size 66 Cm.zero:=by rw[hw4];exact Z3.alloc _
    have M4:CmB w4 w3.heap.size 66 c:=by rw[hw4];exact CmB.new w3 _ c
    have B4:iO w w4:=by rw[hw4];exact B3.alloc B3.size _
    have HW:Hid (w4=w3.alloc (.cells #[.int .i64 c.o,.int .i64 c.p,.int .i64 c.a,.int .i64 c.b,.int .i64 c.k] 66)):=hw4;have hs4:w.heap.size<w4.heap.size:=Z4.lt;have hne:w.heap.size≠w3.heap.size:=by have:=Z3.lt;omega
    clear hw4 b3 Z5 B5 Z3 B3 cf hsz5;go_wp2_with fail
    rw[<-HW.out];refine(c2 _).mono ?_;rintro e w' ⟨rfl,hw'⟩;subst w';clear c2 HW;cases b1 with
    |false=>
     have HE:=HA.out rfl;go_wp2_with (refine dX rfl _ _ rfl w.heap.size Cm.zero Cm.zero rfl rfl Z4 ?_;intro w6 R6 G6)
     refine bodyPost_ret (da rfl _ _ w.heap.size _ _ rfl rfl R6) rfl ?_;rw[HE.1,HE.2];exact⟨rfl,B4.grown G6 Ff (fun k e=>by cases e;exact Nat.le_refl _)⟩
    |true=>
     have HB2:Hid (b2=false->aO s=5/\ax s=Cm.zero):=HB.out rfl;clear HB;go_wp2_with (refine eB rfl _ rfl w3.heap.size rfl c M4 ?_;unfold CV cmA)
     refine(c3 _).mono ?_;rintro e w6 ⟨rfl,b6⟩;have Z6:=Z4.below b6;have M6:=M4.below b6;have B6:=B4.trans (b6.mono B4.size);have hs6:=Z6.lt;clear c3 b6 Z4 M4 B4;cases b2 with
     |false=>
      have HE:=HB2.out rfl;go_wp2_with (refine dX rfl _ _ rfl w.heap.size Cm.zero Cm.zero rfl rfl Z6 ?_;intro w7 R7 G7)
      refine bodyPost_ret (da rfl _ _ w.heap.size _ _ rfl rfl R7) rfl ?_;rw[HE.1,HE.2];exact⟨rfl,B6.grown G7 Ff (fun k e=>by cases e;exact Nat.le_refl _)⟩
     |true=>
      have HE:=HD.out rfl;go_wp2_with (first|(refine eB rfl _ rfl w3.heap.size rfl c M6 ?_)|(refine dX rfl _ _ rfl w.heap.size c Cm.zero rfl rfl Z6 ?_;intro w7 R7 G7))
      refine bodyPost_ret (da rfl _ _ w.heap.size _ _ rfl rfl R7) rfl ?_;rw[HE.1,HE.2];exact⟨rfl,B6.grown G7 Ff (fun k e=>by cases e;exact Nat.le_refl _)⟩
   ·have HE:=H1.out hd
    have hne7:((((⟨s.toArray⟩:ByteArray)[7]'h7).toNat:Int) !=z)=true:=by simpa using hd
    clear H1 H2 H3 H4 cf c2 c3;go_wp2_with (refine dX rfl _ _ rfl w.heap.size Cm.zero Cm.zero rfl rfl Z5 ?_;intro w6 R6 G6)
    refine bodyPost_ret (da rfl _ _ w.heap.size _ _ rfl rfl R6) rfl ?_;rw[HE.1,HE.2];exact⟨rfl,B5.grown G6 Ff (fun k e=>by cases e;exact Nat.le_refl _)⟩
def Nd.askP (n:Nd) (who:Int) (b:Bs):Nd×An:=
 if n.ok then(if n.up&&inI who 0 3 then(if aO b=0 then(if n.r.s=2 then(n,⟨5,[]⟩)else if n.r.s=3 then(n,⟨6,[]⟩)else n.cmd who (ax b))else(n,⟨4,ce (aO b)⟩))else(n,⟨7,[]⟩))else(Nd.zero,⟨7,[]⟩)
structure AnS (w wx:World) (cs:Array Value):Prop where
 p:StB wx w.heap.size 42 cs
 r:StB wx (w.heap.size+1) 42 aA
 ra:StB wx (w.heap.size+1+1) 44 (anA ⟨0,[]⟩)
 b:iO w wx
theorem AnS.start (w:World) (cs:Array Value):AnS w (((w.alloc (.cells cs 42)).alloc (.cells aA 42)).alloc (.cells (anA ⟨0,[]⟩) 44)) cs:=by
 have r2:=StB.new (w.alloc (.cells cs 42)) 42 aA;rw[World.size_alloc]at r2;have r3:=StB.new ((w.alloc (.cells cs 42)).alloc (.cells aA 42)) 44 (anA ⟨0,[]⟩);rw[World.size_alloc,World.size_alloc]at r3;exact⟨((StB.new w _ _).alloc _).alloc _,r2.alloc _,r3,(Fc.alloc Fg _).alloc (by simp;omega) _⟩
theorem AnS.below {w wx wy:World} {cs:Array Value} (h:AnS w wx cs) (B:iO wx wy):AnS w wy cs:=⟨h.p.below B,h.r.below B,h.ra.below B,h.b.trans (B.mono h.b.size)⟩
theorem AnS.lt {w wx:World} {cs:Array Value} (h:AnS w wx cs):w.heap.size+3<=wx.heap.size:=h.ra.lt
theorem AnS.fin {w wx wy wz:World} {cs:Array Value} {a b k q z:Value} {n:Nd} (h:AnS w wx cs) (o:aP wx (w.heap.size+3) a b k q z n) (g1:wx.grownBy wy (some (w.heap.size+1))) (g2:wy.grownBy wz (some (w.heap.size+1+1))):aP wz w.heap.size a b k q z n/\iO w wz:=by
 have b1:=h.b.grown g1 h.b.size (fun k e=>by cases e;omega);exact⟨((o.keptLt g1 Ff).keptLt g2 Ff).mono Ff,b1.grown g2 b1.size (fun k e=>by cases e;omega)⟩
theorem yb {a b k q z a' b' k' q' z':Value} {n:Nd} (h:ndA a b k q z n=ndA a' b' k' q' z' n):a=a'/\b=b'/\k=k'/\q=q'/\z=z':=by
 simp only[ndA]at h;have g:∀j:Nat,_:=fun j=>congrArg (fun cs:Array Value=>cs[j]?) h
 have h2:=g 2;have h3:=g 3;have h4:=g 4;have h17:=g 17;have h19:=g 19;simp at h2 h3 h4 h17 h19;exact⟨h2,h3,h4,h17,h19⟩
def mnG (m:Nat) (n:Nd):dP:=
 ⟨fun u=>∃a1 a2 b1 b2 k1 k2 q1 q2 z1 z2,u=.agg (Fk a1 a2 b1 b2 k1 k2 q1 q2 z1 z2 n),
  fun u w=>∃a b k q z,u=.agg (ndA a b k q z n)/\aP w m a b k q z n⟩
theorem zg {m:Nat} {n:Nd} {u:Value} {x y:World} (hx:(mnG m n).F u x) (hl:dQ x y):(mnG m n).F u y:=by
 obtain⟨a,b,k,q,z,e,h⟩:=hx;exact⟨a,b,k,q,z,e,h.below hl⟩
theorem DY {m:Nat} {n:Nd} {a b k q z:Value} {w:World} (h:(mnG m n).F (.agg (ndA a b k q z n)) w):aP w m a b k q z n:=by
 obtain⟨a',b',k',q',z',e,h⟩:=h;obtain⟨rfl,rfl,rfl,rfl,rfl⟩:=yb (congrArg (fun v=>match v with| .agg cs=>cs|_=>#[]) e);exact h
theorem DZ {P:Program} {f:FuncId} {args:Array Value} {w:World} {m:Nat} {n:Nd} (hm:m<=w.heap.size) (h:Calls P f args w fun e w'=>∃a b k q z,e=.returned (.agg (ndA a b k q z n))/\aP w' w.heap.size a b k q z n/\iO w w'):Calls P f args w (fun e w''=>∃u,e=.returned u/\(mnG m n).V u/\(mnG m n).F u w''/\dQ w w''):=by
 refine h.mono ?_;rintro e w' ⟨a,b,k,q,z,rfl,o,bl⟩;obtain⟨a1,a2,rfl⟩:=aa o.reads.ra;obtain⟨b1,b2,rfl⟩:=aa o.reads.rb;obtain⟨k1,k2,rfl⟩:=aa o.reads.rk;obtain⟨q1,q2,rfl⟩:=aa o.reads.rq;obtain⟨z1,z2,rfl⟩:=aa o.reads.rz;exact⟨_,rfl,⟨a1,a2,b1,b2,k1,k2,q1,q2,z1,z2,rfl⟩,⟨_,_,_,_,_,rfl,o.mono hm⟩,bl⟩
def cmG (m:Nat) (y:Nd×An):dP:=
 ⟨fun u=>∃a1 a2 b1 b2 k1 k2 q1 q2 z1 z2,u=.tuple #[.agg (ndA (.slice a1 y.1.xs.length a2) (.slice b1 y.1.ys.length b2) (.slice k1 y.1.h.ks.length k2) (.slice q1 y.1.c.ts.length q2) (.slice z1 y.1.s.ts.length z2) y.1),.agg (anA y.2)],
  fun u w=>∃a b k q z,u=.tuple #[.agg (ndA a b k q z y.1),.agg (anA y.2)]/\aP w m a b k q z y.1⟩
theorem zh {m:Nat} {n:Nd×An} {u:Value} {x y:World} (hx:(cmG m n).F u x) (hl:dQ x y):(cmG m n).F u y:=by
 obtain⟨a,b,k,q,z,e,h⟩:=hx;exact⟨a,b,k,q,z,e,h.below hl⟩
theorem D0 {m:Nat} {y:Nd×An} {a b k q z:Value} {w:World} (h:(cmG m y).F (.tuple #[.agg (ndA a b k q z y.1),.agg (anA y.2)]) w):aP w m a b k q z y.1:=by
 obtain⟨a',b',k',q',z',e,h⟩:=h;have e':ndA a b k q z y.1=ndA a' b' k' q' z' y.1:=by
  injection e with e1;have e2:=congrArg (fun vs:Array Value=>vs[0]?) e1;simp only[List.getElem?_toArray,List.getElem?_cons_zero,Option.some.injEq]at e2;injection e2
 obtain⟨rfl,rfl,rfl,rfl,rfl⟩:=yb e';exact h
theorem D5 {P:Program} {f:FuncId} {args:Array Value} {w:World} {m:Nat} {y:Nd×An} {z:Value} (h:Calls P f args w fun e w'=>∃a b k q,e=.returned (.tuple #[.agg (ndA a b k q z y.1),.agg (anA y.2)])/\aP w' m a b k q z y.1/\iO w w'):Calls P f args w (fun e w''=>∃u,e=.returned u/\(cmG m y).V u/\(cmG m y).F u w''/\dQ w w''):=by
 refine h.mono ?_;rintro e w' ⟨a,b,k,q,rfl,o,bl⟩;obtain⟨a1,a2,rfl⟩:=aa o.reads.ra;obtain⟨b1,b2,rfl⟩:=aa o.reads.rb;obtain⟨k1,k2,rfl⟩:=aa o.reads.rk;obtain⟨q1,q2,rfl⟩:=aa o.reads.rq;obtain⟨z1,z2,rfl⟩:=aa o.reads.rz;exact⟨_,rfl,⟨a1,a2,b1,b2,k1,k2,q1,q2,z1,z2,rfl⟩,⟨_,_,_,_,_,rfl,o⟩,bl⟩
theorem AX (cd:Int) (w:World) (h0: -9223372036854775808<=cd) (h1:cd<=9223372036854775807) (ht:Tab w):
  Calls Tryz.prog 28 #[.int .i64 cd] w fun e w'=>e=.returned (AV ⟨4,ce cd⟩)/\iO w w':=by
 have CH:Hid (∀u' wx,ag wx u' [cd]->iO w wx->Calls Tryz.prog 76 #[u'] wx fun e w'=>e=.returned (S (ce cd))/\iO wx w'):=fun u' wx hr B=>by
  have:=gH u' [cd] wx hr Fg Fg (by intro x hx;simp at hx;subst hx;omega) (ht.below B);rw[oE]at this;exact this
 obtain⟨tx,htx⟩:=Fe (ce cd)
 rw[<-htx]at CH⊢;clear htx ht h0 h1;obtain⟨w1,hw1⟩:=Fe (w.alloc (.cells (anA ⟨0,[]⟩) 44))
 have H1:Hid (StB w1 w.heap.size 44 (anA ⟨0,[]⟩)/\iO w w1):=by rw[hw1];exact⟨StB.new _ _ _,Fc⟩
 unfold anA S at hw1;unfold AV;unfold S at CH;go_enter Tryz.func28,Tryz.ntmps28;go_upto_region 1 with fail
 rw[<-hw1];clear hw1;go_wp2_with fail
 have b9:iO w1 (w1.alloc (.cells #[.int .i64 cd] 2)):=Fc;refine(CH.out _ _ (sy w1 cd).reads (H1.out.2.trans (b9.mono H1.out.2.size))).mono ?_;rintro e w3 ⟨rfl,b3⟩;have H3:Hid (StB w3 w.heap.size 44 (anA ⟨0,[]⟩)/\iO w w3):=⟨(H1.out.1.below b9).below b3,H1.out.2.trans ((b9.trans (b3.mono b9.size)).mono H1.out.2.size)⟩
 clear b3 b9 CH H1;go_wp2_with (refine ae GC rfl _ _ rfl w.heap.size (anA ⟨4,tx⟩) (anA ⟨0,[]⟩) rfl rfl rfl rfl (aC _) H3.out.1 ?_;intro w5 s5 g5)
 refine bodyPost_ret (aj GC rfl _ _ w.heap.size _ rfl rfl s5) rfl ?_;exact⟨rfl,H3.out.2.grown g5 H3.out.2.size (fun k e=>by cases e;omega)⟩
theorem wb (a b k q z:Value) (n:Nd) (i:Int) (bs:Bs) (w:World) (hr:RdN w a b k q z n) (hl:SmN n) (hb:bs.length<=1048576) (ht:ni w):
  Calls Tryz.prog 7 #[NdV a b k q z n,.int .i64 i,S bs] w fun e w'=>∃a' b' k' q' z',e=.returned (.tuple #[NdV a' b' k' q' z' (n.askP i bs).1,AV (n.askP i bs).2])/\aP w' w.heap.size a' b' k' q' z' (n.askP i bs).1/\iO w w':=by
 have HR:Hid (∀wx,iO w wx->RdN wx a b k q z n):=fun wx B=>hr.below B
 have CN:Hid (∀wx,iO w wx->Calls Tryz.prog 24 #[NdV a b k q z n] wx fun e w'=>e=.returned (.bool n.ok)/\iO wx w'):=fun wx B=>tP a b k q z n wx (HR.out wx B) hl (ht.1.below B)
 have CF:Hid (n.ok=true->∀wx,iO w wx->Calls Tryz.prog 27 #[NdV a b k q z n] wx fun e w'=>∃a' b' k' q' z',e=.returned (NdV a' b' k' q' z' n)/\aP w' wx.heap.size a' b' k' q' z' n/\iO wx w'):=fun ok wx B=>by
  have h:=((Nd.ok_iff n).1 ok).small;exact tQ a b k q z n wx (HR.out wx B) hl h.1 h.2.1 h.2.2
 have CR:Hid (∀wx,Calls Tryz.prog 25 #[S bs] wx fun e w'=>e=.returned (.tuple #[CV (ax bs),.int .i64 (aO bs)])/\iO wx w'):=fun wx=>vL bs wx hb
 have CP:Hid (∀wx,Calls Tryz.prog 26 #[.int .i64 i] wx fun e w'=>e=.returned (.bool (inI i 0 3))/\w'=wx):=fun wx=>cQ i wx
 have CH:Hid (∀wx,iO w wx->Calls Tryz.prog 28 #[.int .i64 (aO bs)] wx fun e w'=>e=.returned (AV ⟨4,ce (aO bs)⟩)/\iO wx w'):=fun wx B=>AX (aO bs) wx (by rcases gZ bs with h|h|h|h<;>omega) (by rcases gZ bs with h|h|h|h<;>omega) (ht.1.below B)
 have CC:Hid (∀wx a b k q z,iO w wx->∀base,base<=wx.heap.size->aP wx base a b k q z n->Calls Tryz.prog 29 #[NdV a b k q z n,.int .i64 i,CV (ax bs)] wx fun e w'=>∃a' b' k' q',e=.returned (.tuple #[NdV a' b' k' q' z (n.cmd i (ax bs)).1,AV (n.cmd i (ax bs)).2])/\aP w' base a' b' k' q' z (n.cmd i (ax bs)).1/\iO wx w'):=fun wx a b k q z B base hb hm=>zf a b k q z n i (ax bs) wx base hm hb hl (ht.below B)
 have HE:Hid (n.askP i bs=if n.ok then(if n.up&&inI i 0 3 then(if aO bs=0 then(if n.r.s=2 then(n,⟨5,[]⟩)else if n.r.s=3 then(n,⟨6,[]⟩)else n.cmd i (ax bs))else(n,⟨4,ce (aO bs)⟩))else(n,⟨7,[]⟩))else(Nd.zero,⟨7,[]⟩)):=rfl;obtain⟨x,hx⟩:=Fe (n.askP i bs)
 rw[<-hx]at HE⊢;clear hx;obtain⟨y,hy⟩:=Fe (n.cmd i (ax bs))
 rw[<-hy]at HE CC;clear hy;obtain⟨cd,hcd⟩:=Fe (aO bs)
 rw[<-hcd]at HE CR CH;clear hcd;obtain⟨c,hc⟩:=Fe (ax bs)
 rw[<-hc]at CC CR;clear hc;obtain⟨tx,htx⟩:=Fe (ce cd)
 rw[<-htx]at HE CH;clear htx;obtain⟨io,hio⟩:=Fe (inI i 0 3)
 rw[<-hio]at HE CP;clear hio;obtain⟨ao,ac,rfl⟩:=aa hr.ra;obtain⟨bo,bc,rfl⟩:=aa hr.rb;obtain⟨ko,kc,rfl⟩:=aa hr.rk;obtain⟨qo,qc,rfl⟩:=aa hr.rq;obtain⟨zo,zc,rfl⟩:=aa hr.rz;obtain⟨w1,hw1⟩:=Fe (((w.alloc (.cells (ndA (.slice ao n.xs.length ac) (.slice bo n.ys.length bc) (.slice ko n.h.ks.length kc) (.slice qo n.c.ts.length qc) (.slice zo n.s.ts.length zc) n) 42)).alloc (.cells aA 42)).alloc (.cells (anA ⟨0,[]⟩) 44))
 have HF:Hid (AnS w w1 (Fk ao ac bo bc ko kc qo qc zo zc n)):=by rw[hw1];exact AnS.start w _
 clear hr HR hl ht hb;unfold ndA aA anA S at hw1;unfold NdV at CN CF CC⊢;unfold CV AV at CC;unfold AV at CH;unfold CV cmA S at CR;unfold S at⊢;conv in ndA (.slice ao n.xs.length ac) _ _ _ _ _=>unfold ndA S
 go_enter Tryz.func7,Tryz.ntmps7;go_upto_region 1 with fail
 rw[<-hw1];clear hw1;go_wp2_with (refine ah GO rfl _ rfl w.heap.size rfl (Fk ao ac bo bc ko kc qo qc zo zc n) rfl HF.out.p ?_)
 refine(CN.out w1 HF.out.b).mono ?_;rintro e w2 ⟨rfl,b2⟩;replace HF:Hid (AnS w w2 (Fk ao ac bo bc ko kc qo qc zo zc n)):=HF.out.below b2;clear b2 CN;cases hk:n.ok with
 |false=>
  have HX:Hid (x=(Nd.zero,⟨7,[]⟩)):=by rw[Hid,HE.out,hk];rfl
  clear HE CF CR CP CH CC hk;go_wp2_with (first|(refine ae GO rfl _ _ rfl (w.heap.size+1) aA aA rfl rfl rfl rfl pd HF.out.r ?_;intro w19 s19 g19)|(refine ae GC rfl _ _ rfl (w.heap.size+1+1) (anA ⟨7,[]⟩) (anA ⟨0,[]⟩) rfl rfl rfl rfl (aC _) (HF.out.ra.kept g19 Fg) ?_;intro w20 s20 g20))
  refine bodyPost_ret (db rfl _ _ (w.heap.size+1) (w.heap.size+1+1) _ _ rfl rfl rfl rfl (s19.kept g20 Fg) s20) rfl ?_;rw[HX.out];exact⟨_,_,_,_,_,rfl,HF.out.fin (aP.nil _ _) g19 g20⟩
 |true=>
  have HK:Hid (n.ok=true):=hk;have HX:Hid (x=if n.up&&io then(if cd=0 then(if n.r.s=2 then(n,⟨5,[]⟩)else if n.r.s=3 then(n,⟨6,[]⟩)else y)else(n,⟨4,tx⟩))else(n,⟨7,[]⟩)):=by rw[Hid,HE.out,hk];rfl
  clear HE hk;go_wp2_with fail
  refine(CR.out w2).mono ?_;rintro e w3 ⟨rfl,b3⟩;obtain⟨w4,hw4⟩:=Fe (w3.alloc (.cells (cmA c) 66))
  have b4:iO w3 w4:=by rw[hw4];exact Fc
  replace HF:Hid (AnS w w4 (Fk ao ac bo bc ko kc qo qc zo zc n)):=(HF.out.below b3).below b4;have V:Hid (StB w4 w3.heap.size 66 (cmA c)):=by rw[hw4];exact StB.new _ _ _
  unfold cmA at hw4;go_upto_region 4 with fail
  rw[<-hw4];clear hw4 b3 b4 CR;obtain⟨g8,hg8⟩:=Fe w3.heap.size
  rw[<-hg8]at V⊢;clear hg8;have p1:w4.cell? ⟨w.heap.size,1,none⟩=some (.bool n.up):=HF.out.p.cell 1 rfl;cases hu:n.up with
  |false=>
   have HY:Hid (x=(n,⟨7,[]⟩)):=by rw[Hid,HX.out,hu];rfl
   rw[hu]at p1;clear HX hu CC CH CP;go_upto_region 5 with fail
   clear p1;go_wp2_with (refine ah GO rfl _ rfl w.heap.size rfl (Fk ao ac bo bc ko kc qo qc zo zc n) rfl HF.out.p ?_)
   refine(CF.out HK.out w4 HF.out.b).mono ?_;rintro e w9 ⟨a',b',k',q',z',rfl,o3,b3⟩;obtain⟨a1,a2,rfl⟩:=aa o3.reads.ra;obtain⟨b1,b2,rfl⟩:=aa o3.reads.rb;obtain⟨k1,k2,rfl⟩:=aa o3.reads.rk;obtain⟨q1,q2,rfl⟩:=aa o3.reads.rq;obtain⟨z1,z2,rfl⟩:=aa o3.reads.rz;have O:Hid (aP w9 (w.heap.size+3) (.slice a1 n.xs.length a2) (.slice b1 n.ys.length b2) (.slice k1 n.h.ks.length k2) (.slice q1 n.c.ts.length q2) (.slice z1 n.s.ts.length z2) n):=o3.mono HF.out.lt;replace HF:Hid (AnS w w9 (Fk ao ac bo bc ko kc qo qc zo zc n)):=HF.out.below b3;clear o3 b3 CF;go_wp2_with (first|(refine ae GO rfl _ _ rfl (w.heap.size+1) (Fk a1 a2 b1 b2 k1 k2 q1 q2 z1 z2 n) aA rfl rfl rfl rfl (cP _ rfl rfl rfl rfl rfl) HF.out.r ?_;intro w19 s19 g19)|(refine ae GC rfl _ _ rfl (w.heap.size+1+1) (anA ⟨7,[]⟩) (anA ⟨0,[]⟩) rfl rfl rfl rfl (aC _) (HF.out.ra.kept g19 Fg) ?_;intro w20 s20 g20))
   refine bodyPost_ret (db rfl _ _ (w.heap.size+1) (w.heap.size+1+1) _ _ rfl rfl rfl rfl (s19.kept g20 Fg) s20) rfl ?_;rw[HY.out];exact⟨_,_,_,_,_,rfl,HF.out.fin O.out g19 g20⟩
  |true=>
   rw[hu]at p1;replace HX:Hid (x=if io then(if cd=0 then(if n.r.s=2 then(n,⟨5,[]⟩)else if n.r.s=3 then(n,⟨6,[]⟩)else y)else(n,⟨4,tx⟩))else(n,⟨7,[]⟩)):=by rw[Hid,HX.out,hu];rfl
   clear hu;go_wp2_with fail
   refine Fd (CP.out w4) ?_;clear CP;cases io with
   |false=>
    have HY:Hid (x=(n,⟨7,[]⟩)):=HX.out;clear HX CC CH;go_upto_region 5 with fail
    clear p1;go_wp2_with (refine ah GO rfl _ rfl w.heap.size rfl (Fk ao ac bo bc ko kc qo qc zo zc n) rfl HF.out.p ?_)
    refine(CF.out HK.out w4 HF.out.b).mono ?_;rintro e w9 ⟨a',b',k',q',z',rfl,o3,b3⟩;obtain⟨a1,a2,rfl⟩:=aa o3.reads.ra;obtain⟨b1,b2,rfl⟩:=aa o3.reads.rb;obtain⟨k1,k2,rfl⟩:=aa o3.reads.rk;obtain⟨q1,q2,rfl⟩:=aa o3.reads.rq;obtain⟨z1,z2,rfl⟩:=aa o3.reads.rz;have O:Hid (aP w9 (w.heap.size+3) (.slice a1 n.xs.length a2) (.slice b1 n.ys.length b2) (.slice k1 n.h.ks.length k2) (.slice q1 n.c.ts.length q2) (.slice z1 n.s.ts.length z2) n):=o3.mono HF.out.lt;replace HF:Hid (AnS w w9 (Fk ao ac bo bc ko kc qo qc zo zc n)):=HF.out.below b3;clear o3 b3 CF;go_wp2_with (first|(refine ae GO rfl _ _ rfl (w.heap.size+1) (Fk a1 a2 b1 b2 k1 k2 q1 q2 z1 z2 n) aA rfl rfl rfl rfl (cP _ rfl rfl rfl rfl rfl) HF.out.r ?_;intro w19 s19 g19)|(refine ae GC rfl _ _ rfl (w.heap.size+1+1) (anA ⟨7,[]⟩) (anA ⟨0,[]⟩) rfl rfl rfl rfl (aC _) (HF.out.ra.kept g19 Fg) ?_;intro w20 s20 g20))
    refine bodyPost_ret (db rfl _ _ (w.heap.size+1) (w.heap.size+1+1) _ _ rfl rfl rfl rfl (s19.kept g20 Fg) s20) rfl ?_;rw[HY.out];exact⟨_,_,_,_,_,rfl,HF.out.fin O.out g19 g20⟩
   |true=>
    replace HX:Hid (x=(if cd=0 then(if n.r.s=2 then(n,⟨5,[]⟩)else if n.r.s=3 then(n,⟨6,[]⟩)else y)else(n,⟨4,tx⟩))):=HX.out;by_cases hcd:cd=0
    ·clear CH
     replace HX:Hid (x=(if n.r.s=2 then(n,⟨5,[]⟩)else if n.r.s=3 then(n,⟨6,[]⟩)else y)):=by rw[Hid,HX.out,if_pos hcd]
     have p10:w4.cell? ⟨w.heap.size,10,none⟩=some (.int .i64 n.r.s):=HF.out.p.cell 10 rfl;by_cases h2:n.r.s=2
     ·have HY:Hid (x=(n,⟨5,[]⟩)):=by rw[Hid,HX.out,if_pos h2]
      rw[h2]at p10;clear HX CC;go_upto_region 9 with fail
      clear p1 p10 h2;go_wp2_with (refine ah GO rfl _ rfl w.heap.size rfl (Fk ao ac bo bc ko kc qo qc zo zc n) rfl HF.out.p ?_)
      refine(CF.out HK.out w4 HF.out.b).mono ?_;rintro e w9 ⟨a',b',k',q',z',rfl,o3,b3⟩;obtain⟨a1,a2,rfl⟩:=aa o3.reads.ra;obtain⟨b1,b2,rfl⟩:=aa o3.reads.rb;obtain⟨k1,k2,rfl⟩:=aa o3.reads.rk;obtain⟨q1,q2,rfl⟩:=aa o3.reads.rq;obtain⟨z1,z2,rfl⟩:=aa o3.reads.rz;have O:Hid (aP w9 (w.heap.size+3) (.slice a1 n.xs.length a2) (.slice b1 n.ys.length b2) (.slice k1 n.h.ks.length k2) (.slice q1 n.c.ts.length q2) (.slice z1 n.s.ts.length z2) n):=o3.mono HF.out.lt;replace HF:Hid (AnS w w9 (Fk ao ac bo bc ko kc qo qc zo zc n)):=HF.out.below b3;clear o3 b3 CF;go_wp2_with (first|(refine ae GO rfl _ _ rfl (w.heap.size+1) (Fk a1 a2 b1 b2 k1 k2 q1 q2 z1 z2 n) aA rfl rfl rfl rfl (cP _ rfl rfl rfl rfl rfl) HF.out.r ?_;intro w19 s19 g19)|(refine ae GC rfl _ _ rfl (w.heap.size+1+1) (anA ⟨5,[]⟩) (anA ⟨0,[]⟩) rfl rfl rfl rfl (aC _) (HF.out.ra.kept g19 Fg) ?_;intro w20 s20 g20))
      refine bodyPost_ret (db rfl _ _ (w.heap.size+1) (w.heap.size+1+1) _ _ rfl rfl rfl rfl (s19.kept g20 Fg) s20) rfl ?_;rw[HY.out];exact⟨_,_,_,_,_,rfl,HF.out.fin O.out g19 g20⟩
     by_cases h3:n.r.s=3
     ·have HY:Hid (x=(n,⟨6,[]⟩)):=by rw[Hid,HX.out,if_neg h2,if_pos h3]
      rw[h3]at p10;clear HX CC;go_upto_region 11 with fail
      clear p1 p10 h2 h3;go_wp2_with (refine ah GO rfl _ rfl w.heap.size rfl (Fk ao ac bo bc ko kc qo qc zo zc n) rfl HF.out.p ?_)
      refine(CF.out HK.out w4 HF.out.b).mono ?_;rintro e w9 ⟨a',b',k',q',z',rfl,o3,b3⟩;obtain⟨a1,a2,rfl⟩:=aa o3.reads.ra;obtain⟨b1,b2,rfl⟩:=aa o3.reads.rb;obtain⟨k1,k2,rfl⟩:=aa o3.reads.rk;obtain⟨q1,q2,rfl⟩:=aa o3.reads.rq;obtain⟨z1,z2,rfl⟩:=aa o3.reads.rz;have O:Hid (aP w9 (w.heap.size+3) (.slice a1 n.xs.length a2) (.slice b1 n.ys.length b2) (.slice k1 n.h.ks.length k2) (.slice q1 n.c.ts.length q2) (.slice z1 n.s.ts.length z2) n):=o3.mono HF.out.lt;replace HF:Hid (AnS w w9 (Fk ao ac bo bc ko kc qo qc zo zc n)):=HF.out.below b3;clear o3 b3 CF;go_wp2_with (first|(refine ae GO rfl _ _ rfl (w.heap.size+1) (Fk a1 a2 b1 b2 k1 k2 q1 q2 z1 z2 n) aA rfl rfl rfl rfl (cP _ rfl rfl rfl rfl rfl) HF.out.r ?_;intro w19 s19 g19)|(refine ae GC rfl _ _ rfl (w.heap.size+1+1) (anA ⟨6,[]⟩) (anA ⟨0,[]⟩) rfl rfl rfl rfl (aC _) (HF.out.ra.kept g19 Fg) ?_;intro w20 s20 g20))
      refine bodyPost_ret (db rfl _ _ (w.heap.size+1) (w.heap.size+1+1) _ _ rfl rfl rfl rfl (s19.kept g20 Fg) s20) rfl ?_;rw[HY.out];exact⟨_,_,_,_,_,rfl,HF.out.fin O.out g19 g20⟩
     have HY:Hid (x=y):=by rw[Hid,HX.out,if_neg h2,if_neg h3]
     clear HX;go_upto_region 12 with fail
     clear p1 p10 h2 h3 hcd;obtain⟨C,hCd⟩:=Fe (fun x=>iO w4 x)
     have HQ:Hid (∀x,C x->iO w4 x):=by rw[hCd];exact fun _ h=>h
     have HN:Hid (∀x y,C x->dQ x y->C y):=by rw[hCd];exact fun _ _ h b=>h.trans (b.mono h.size)
     have H0:Hid (C w4.drew):=by rw[hCd];exact(Below.refl _ _).drew
     have hne:Nonempty (Kin C):=⟨⟨_,H0.out⟩⟩
     clear hCd;refine eY (C:=C) (E:=iN fun d=>if d=56 then some (mnG w4.heap.size n)else if d=59 then some (cmG w4.heap.size y)else none) (R:=dQ) HN.out (dY (by intro d s hs u x y hx hl;split at hs;(cases hs;exact zg hx hl);split at hs;(cases hs;exact zh hx hl);cases hs)) 6 _ _ (dZ _ _) Fi Fi Fi Fi Fg Fg rfl rfl rfl rfl rfl rfl (fun _=>rfl) (fun a v=>execOp_put (ops:=#[]) _ (by intro cs b h;cases h) a _ v (by intro d hd;cases hd;decide)) H0.out ?_;refine dz GO rfl Fj _ rfl w.heap.size rfl (Fk ao ac bo bc ko kc qo qc zo zc n) rfl (fun y=>HF.out.p.below (HQ.out _ y.h)) ?_;refine fp (mnG w4.heap.size n) rfl Fj (fun wq hB=>?_) (fun uq hu=>?_)
     ·go_simp
      refine⟨rfl,?_⟩;exact DZ (HQ.out _ hB.1).size (CF.out HK.out _ (HF.out.b.trans ((HQ.out _ hB.1).mono HF.out.b.size)))
     obtain⟨a1,a2,b1,b2,k1,k2,q1,q2,z1,z2,rfl⟩:=hu;iterate 1 (refine eP rfl (fun K hK=>?_);go_simp;refine hK _ ?_;clear hK K)
     refine dz nP rfl Fj _ rfl g8 rfl (cmA c) rfl (fun y=>V.out.below (HQ.out _ y.h)) ?_;refine fp (cmG w4.heap.size y) rfl Fj (fun wq hB=>?_) (fun uq hu=>?_)
     ·have f58:=DY (hB.at0 Fj)
      have hq1:=(HQ.out _ hB.1).size;have hq2:=HF.out.b.trans ((HQ.out _ hB.1).mono HF.out.b.size);clear hB;go_simp;refine⟨rfl,?_⟩;exact D5 (CC.out _ _ _ _ _ _ hq2 _ hq1 f58)
     obtain⟨c1,c2,d1,d2,e1,e2,f1,f2,h1,h2,rfl⟩:=hu;iterate 2 (refine eP rfl (fun K hK=>?_);go_simp;refine hK _ ?_;clear hK K)
     refine i8 (fun w16 hz=>?_);have bz:=HQ.out _ hz.1;have m16:=D0 (hz.2 _ (List.mem_cons_self ..));have HF16:=HF.out.below bz;refine gC GO _ _ rfl (w.heap.size+1) (ndA (.slice c1 y.1.xs.length c2) (.slice d1 y.1.ys.length d2) (.slice e1 y.1.h.ks.length e2) (.slice f1 y.1.c.ts.length f2) (.slice h1 y.1.s.ts.length h2) y.1) aA rfl rfl rfl rfl (cP _ rfl rfl rfl rfl rfl) HF16.r ?_;intro w19 s19 g19;refine⟨trivial,?_⟩;refine fH GC rfl rfl _ _ rfl (w.heap.size+1+1) (anA y.2) (anA ⟨0,[]⟩) rfl rfl rfl rfl (aC _) (HF16.ra.kept g19 Fg) ?_;intro w20 s20 g20;go_wp2_with fail
     refine bodyPost_ret (db rfl _ _ (w.heap.size+1) (w.heap.size+1+1) _ _ rfl rfl rfl rfl (s19.kept g20 Fg) s20) rfl ?_;rw[HY.out];exact⟨_,_,_,_,_,rfl,HF16.fin (m16.mono HF.out.lt) g19 g20⟩
    ·have HY:Hid (x=(n,⟨4,tx⟩)):=by rw[Hid,HX.out,if_neg hcd]
     clear HX CC;go_upto_region 7 with fail
     clear p1 hcd;go_wp2_with (refine ah GO rfl _ rfl w.heap.size rfl (Fk ao ac bo bc ko kc qo qc zo zc n) rfl HF.out.p ?_)
     refine(CF.out HK.out w4 HF.out.b).mono ?_;rintro e w9 ⟨a',b',k',q',z',rfl,o3,b3⟩;obtain⟨a1,a2,rfl⟩:=aa o3.reads.ra;obtain⟨b1,b2,rfl⟩:=aa o3.reads.rb;obtain⟨k1,k2,rfl⟩:=aa o3.reads.rk;obtain⟨q1,q2,rfl⟩:=aa o3.reads.rq;obtain⟨z1,z2,rfl⟩:=aa o3.reads.rz;have O:Hid (aP w9 (w.heap.size+3) (.slice a1 n.xs.length a2) (.slice b1 n.ys.length b2) (.slice k1 n.h.ks.length k2) (.slice q1 n.c.ts.length q2) (.slice z1 n.s.ts.length z2) n):=o3.mono HF.out.lt;replace HF:Hid (AnS w w9 (Fk ao ac bo bc ko kc qo qc zo zc n)):=HF.out.below b3;clear o3 b3 CF;go_wp2_with fail
     refine(CH.out _ HF.out.b).mono ?_;rintro e w10 ⟨rfl,b10⟩;replace HF:Hid (AnS w w10 (Fk ao ac bo bc ko kc qo qc zo zc n)):=HF.out.below b10;replace O:Hid (aP w10 (w.heap.size+3) (.slice a1 n.xs.length a2) (.slice b1 n.ys.length b2) (.slice k1 n.h.ks.length k2) (.slice q1 n.c.ts.length q2) (.slice z1 n.s.ts.length z2) n):=O.out.below b10;clear b10 CH;go_wp2_with (first|(refine ae GO rfl _ _ rfl (w.heap.size+1) (Fk a1 a2 b1 b2 k1 k2 q1 q2 z1 z2 n) aA rfl rfl rfl rfl (cP _ rfl rfl rfl rfl rfl) HF.out.r ?_;intro w19 s19 g19)|(refine ae GC rfl _ _ rfl (w.heap.size+1+1) (anA ⟨4,tx⟩) (anA ⟨0,[]⟩) rfl rfl rfl rfl (aC _) (HF.out.ra.kept g19 Fg) ?_;intro w20 s20 g20))
     refine bodyPost_ret (db rfl _ _ (w.heap.size+1) (w.heap.size+1+1) _ _ rfl rfl rfl rfl (s19.kept g20 Fg) s20) rfl ?_;rw[HY.out];exact⟨_,_,_,_,_,rfl,HF.out.fin O.out g19 g20⟩
theorem Nd.askP_is (n:Nd) (i:Int) (b:Bs):n.askP i b=n.Ask i b:=by
 unfold Nd.askP Nd.Ask;cases hk:n.ok with
 |false=>rfl
 |true=>
  have R:=(Nd.ok_iff n).1 hk;simp only[if_true];unfold Nd.ask;cases hu:n.up<;>cases hi:inI i 0 3<;>simp
  by_cases hc:aO b=0
  ·simp only[hc,if_true]
   have hco:(ax b).ok=true:=by
    unfold ax;rw[if_pos hc];exact(nH hc).2.2
   have hd:Sr.did ⟨n.xs,n.ys,n.h⟩ i (ax b)=(Sr.mk n.xs n.ys n.h).doing i (ax b):=by
    unfold Sr.did Sr.ok;rw[R.dk,R.h,hi,hco];rfl
   unfold Nd.cmd;rw[hd];have hm:n.c.Mark (ax b).p=n.c.mark (ax b).p:=by
    unfold Cp.Mark;rw[if_pos R.c]
   rw[hm];simp[hu]
  ·simp[hc]
theorem AY (a b k q z:Value) (n:Nd) (i:Int) (bs:Bs) (w:World) (hr:RdN w a b k q z n) (hl:SmN n) (hb:bs.length<=1048576) (ht:ni w):
  Calls Tryz.prog 7 #[NdV a b k q z n,.int .i64 i,S bs] w fun e w'=>∃a' b' k' q' z',e=.returned (.tuple #[NdV a' b' k' q' z' (n.Ask i bs).1,AV (n.Ask i bs).2])/\aP w' w.heap.size a' b' k' q' z' (n.Ask i bs).1/\iO w w':=by
 have h:=wb a b k q z n i bs w hr hl hb ht
 rwa[Nd.askP_is]at h
theorem Eg:(Rows.laid_internal_strconv_uint64pow10:DataW Unit)=Lib.tabData .u64 Lib.pow10Tab:=by kernel_rfl
theorem rf {W:World} {a b:String×DataW Unit} {rest:List (String×DataW Unit)} (h:laidMet Tryz.prog (a::b::("internal/strconv.uint64pow10",Rows.laid_internal_strconv_uint64pow10)::rest) W):Tab W:=by
 have h3:laidMet Tryz.prog (("internal/strconv.uint64pow10",Lib.tabData .u64 Lib.pow10Tab)::rest) W:=by
  have:=h.tail.tail;rw[Eg]at this;exact this
 exact Lib.tabIs_of_head (show Tryz.prog.globalNamed "internal/strconv.uint64pow10"=some 5 by kernel_rfl) (show(Tryz.prog.globals[5]?).map (·.type)=some 243 by kernel_rfl) Tryz.underlying243 Tryz.underlying211 Fi Fi h3
theorem Gj:Tryz.prog.cellsOf 348=1:=by kernel_rfl
theorem Gt:Tryz.prog.cellsOf 9=1:=by kernel_rfl
theorem Hr: "*"++ "errors.errorString"= "*errors.errorString":=by decide
theorem Hn (u:TypeId) (h:Tryz.prog.typeName? 3 u=some "*errors.errorString"):u=328:=
 typeName_ptr_named (nm:= "errors.errorString") (by rw[Hr];kernel_rfl) Fi Fh u (by rw[Hr];exact h)
theorem rh {P:Program} {n0 n1 n2 n3 nm:String} {x0 x1 x2 x3:List UInt8} {r:List (String×DataW Unit)} {W:World} {g0 g1 g2 g3:Nat} {ti tp te ts:TypeId} {ms:Array (String×TypeId)} {f:Field}
  (h:laidMet P ((n0,.iface nm (.ptr (.agg [.lit (.string x0)])))::(n1,.iface nm (.ptr (.agg [.lit (.string x1)])))::(n2,.iface nm (.ptr (.agg [.lit (.string x2)])))::(n3,.iface nm (.ptr (.agg [.lit (.string x3)])))::r) W)
  (hg0:P.globalNamed n0=some g0) (ht0:(P.globals[g0]?).map (·.type)=some ti) (hg1:P.globalNamed n1=some g1) (ht1:(P.globals[g1]?).map (·.type)=some ti)
  (hg2:P.globalNamed n2=some g2) (ht2:(P.globals[g2]?).map (·.type)=some ti) (hg3:P.globalNamed n3=some g3) (ht3:(P.globals[g3]?).map (·.type)=some ti)
  (hi:P.underlying ti=some (.interface ms)) (hrow:∀u,P.typeName? 3 u=some nm->u=tp)
  (hp:P.underlying tp=some (.pointer te)) (he:P.underlying te=some (.struct #[f])) (hft:f.type=ts) (hfo:f.offset=0) (hs:P.underlying ts=some .string) (hc:P.cellsOf te=1) (hcs:P.cellsOf ts=1):
  ∃a0 a1 a2 a3:Addr,W.cell? ⟨g0,0,none⟩=some (.iface tp (.pointer (some a0)))/\W.cell? ⟨g1,0,none⟩=some (.iface tp (.pointer (some a1)))/\W.cell? ⟨g2,0,none⟩=some (.iface tp (.pointer (some a2)))/\W.cell? ⟨g3,0,none⟩=some (.iface tp (.pointer (some a3)))/\
   kt W a0/\kt W a1/\kt W a2/\kt W a3/\a0≠a1/\a0≠a2/\a0≠a3/\a1≠a2/\a1≠a3/\a2≠a3:=by
 obtain⟨ps,⟨g0',t0',cs0,f0,p0,q0,hg0',ht0',hv0,hd0,⟨g1',t1',cs1,f1,p1,q1,hg1',ht1',hv1,hd1,⟨g2',t2',cs2,f2,p2,q2,hg2',ht2',hv2,hd2,⟨g3',t3',cs3,f3,p3,q3,hg3',ht3',hv3,hd3,_,e3⟩,e2⟩,e1⟩,e0⟩,hnd,hrows⟩:=h;obtain rfl:=Option.some.inj (hg0.symm.trans hg0');obtain rfl:=Option.some.inj (hg1.symm.trans hg1');obtain rfl:=Option.some.inj (hg2.symm.trans hg2');obtain rfl:=Option.some.inj (hg3.symm.trans hg3');obtain rfl:=Option.some.inj (ht0.symm.trans ht0');obtain rfl:=Option.some.inj (ht1.symm.trans ht1');obtain rfl:=Option.some.inj (ht2.symm.trans ht2');obtain rfl:=Option.some.inj (ht3.symm.trans ht3');subst e3;subst e2;subst e1;subst e0;obtain⟨l0⟩:=cs0;obtain⟨l1⟩:=cs1;obtain⟨l2⟩:=cs2;obtain⟨l3⟩:=cs3;have ok0:∀u v,l0=[.iface u v]->Value.okWide P W .any 0 u v:=fun u v e=>by
  subst e;exact(hrows g0 0 (by simp[MemPlace.row])).2 u v (by simpa using World.var?_cell hg0' hv0 0)
 have ok1:∀u v,l1=[.iface u v]->Value.okWide P W .any 0 u v:=fun u v e=>by
  subst e;exact(hrows g1 0 (by simp[MemPlace.row])).2 u v (by simpa using World.var?_cell hg1' hv1 0)
 have ok2:∀u v,l2=[.iface u v]->Value.okWide P W .any 0 u v:=fun u v e=>by
  subst e;exact(hrows g2 0 (by simp[MemPlace.row])).2 u v (by simpa using World.var?_cell hg2' hv2 0)
 have ok3:∀u v,l3=[.iface u v]->Value.okWide P W .any 0 u v:=fun u v e=>by
  subst e;exact(hrows g3 0 (by simp[MemPlace.row])).2 u v (by simpa using World.var?_cell hg3' hv3 0)
 obtain⟨a0,s0,rfl, -, -, -,rfl⟩:=errorString_of_trod hi hrow hp he hft hfo hs hc hcs hd0 ok0;obtain⟨a1,s1,rfl, -, -, -,rfl⟩:=errorString_of_trod hi hrow hp he hft hfo hs hc hcs hd1 ok1;obtain⟨a2,s2,rfl, -, -, -,rfl⟩:=errorString_of_trod hi hrow hp he hft hfo hs hc hcs hd2 ok2;obtain⟨a3,s3,rfl, -, -, -,rfl⟩:=errorString_of_trod hi hrow hp he hft hfo hs hc hcs hd3 ok3;refine⟨a0,a1,a2,a3,by simpa using World.var?_cell hg0' hv0 0,by simpa using World.var?_cell hg1' hv1 0,by simpa using World.var?_cell hg2' hv2 0,by simpa using World.var?_cell hg3' hv3 0,(hrows a0.block a0.off (by simp[MemPlace.row])).1,(hrows a1.block a1.off (by simp[MemPlace.row])).1,(hrows a2.block a2.off (by simp[MemPlace.row])).1,(hrows a3.block a3.off (by simp[MemPlace.row])).1,?_,?_,?_,?_,?_,?_⟩<;>(rintro rfl;simp[MemPlace.row]at hnd)
theorem Ey {H:Type} {enc:TypeId×Value->H} {P:Program} {w:World} {sp:Nat->Bool} {n1 n2 n3 n4:String} {gs:List (DataW H)} {ps:List MemPlace} (h:DataW.TrodVars enc P w sp [n1,n2,n3,n4] gs ps):∃a b c d,gs=[a,b,c,d]:=by
 rcases gs with _|⟨a,_|⟨b,_|⟨c,_|⟨d,_|⟨e,r⟩⟩⟩⟩⟩<;>simp_all [DataW.TrodVars]
theorem Gu:Tryz.prog.globalNamed "errors.errorType"=some 4:=by kernel_rfl
theorem Ho:(Tryz.prog.cutTypes.find? (·.1== "internal/reflectlite.rtype")).map (·.2)=some 256:=by kernel_rfl
theorem Hq:Tryz.prog.types.size=364:=by kernel_rfl
theorem Hl:((List.range 364).filter fun t=>Tryz.prog.rowNamed t [101,114,114,111,114])=[135]:=by kernel_rfl
theorem ri {W:World} (h:handlesMet Tryz.prog [("errors.errorType",Rows.laid_errors_errorType)] W):W.cell? ⟨4,0,none⟩=some (.iface 256 (.agg #[.pointer (some ⟨11,135,none⟩)])):=by
 obtain⟨name,u,ty,e1,e2,e3,e4,e5⟩:=h _ (List.mem_singleton.2 rfl);have en:name=[101,114,114,111,114]:=(Option.some.inj e1).symm;subst en;obtain rfl:=Option.some.inj (Ho.symm.trans e2);have hm:ty∈(List.range 364).filter fun t=>Tryz.prog.rowNamed t [101,114,114,111,114]:=List.mem_filter.2 ⟨List.mem_range.2 (by rw[<-Hq];exact e3),e4⟩
 rw[Hl]at hm;obtain rfl:=List.mem_singleton.1 hm;have hh:typeHandle Tryz.prog 135=.pointer (some ⟨11,135,none⟩):=by kernel_rfl
 rw[hh]at e5;simpa using World.var?_cell Gu e5 0
theorem Ez {W:World} {a b:String×DataW Unit} (h:laidMet Tryz.prog (a::b::("internal/strconv.uint64pow10",Rows.laid_internal_strconv_uint64pow10)::("loop.example/g00354/impl.errRange",Rows.laid_loop_example_g00354_impl_errRange)::("loop.example/g00354/impl.errUnlike",Rows.laid_loop_example_g00354_impl_errUnlike)::("loop.example/g00354/impl.errConflict",Rows.laid_loop_example_g00354_impl_errConflict)::("loop.example/g00354/impl.errNone",Rows.laid_loop_example_g00354_impl_errNone)::[]) W)
  (h':handlesMet Tryz.prog [("errors.errorType",Rows.laid_errors_errorType)] W):ni W:=by
 obtain⟨a0,a1,a2,a3,c0,c1,c2,c3,h0,h1,h2,h3,n01,n02,n03,n12,n13,n23⟩:=rh h.tail.tail.tail (show Tryz.prog.globalNamed "loop.example/g00354/impl.errRange"=some 1 by kernel_rfl) Fi (show Tryz.prog.globalNamed "loop.example/g00354/impl.errUnlike"=some 2 by kernel_rfl) Fi (show Tryz.prog.globalNamed "loop.example/g00354/impl.errConflict"=some 3 by kernel_rfl) Fi (show Tryz.prog.globalNamed "loop.example/g00354/impl.errNone"=some 0 by kernel_rfl) Fi Tryz.underlying135 Hn Tryz.underlying328 Tryz.underlying348 rfl rfl Tryz.underlying9 Gj Gt;exact⟨rf h,⟨a3,a0,a1,a2⟩,⟨c3,c0,c1,c2,ri h',h3,h0,h1,h2,Ne.symm n03,Ne.symm n13,Ne.symm n23,Ne.symm n01,Ne.symm n02,Ne.symm n12⟩⟩
theorem BQ {W:World} {a b c:String×DataW Unit} {r:List (String×DataW Unit)} (h:laidMet Tryz.prog (a::b::("internal/strconv.uint64pow10",Rows.laid_internal_strconv_uint64pow10)::c::("loop.example/g00354/impl.errRange",Rows.laid_loop_example_g00354_impl_errRange)::("loop.example/g00354/impl.errUnlike",Rows.laid_loop_example_g00354_impl_errUnlike)::("loop.example/g00354/impl.errConflict",Rows.laid_loop_example_g00354_impl_errConflict)::("loop.example/g00354/impl.errNone",Rows.laid_loop_example_g00354_impl_errNone)::r) W)
  (h':handlesMet Tryz.prog [("errors.errorType",Rows.laid_errors_errorType)] W):ni W:=by
 obtain⟨a0,a1,a2,a3,c0,c1,c2,c3,h0,h1,h2,h3,n01,n02,n03,n12,n13,n23⟩:=rh h.tail.tail.tail.tail (show Tryz.prog.globalNamed "loop.example/g00354/impl.errRange"=some 1 by kernel_rfl) Fi (show Tryz.prog.globalNamed "loop.example/g00354/impl.errUnlike"=some 2 by kernel_rfl) Fi (show Tryz.prog.globalNamed "loop.example/g00354/impl.errConflict"=some 3 by kernel_rfl) Fi (show Tryz.prog.globalNamed "loop.example/g00354/impl.errNone"=some 0 by kernel_rfl) Fi Tryz.underlying135 Hn Tryz.underlying328 Tryz.underlying348 rfl rfl Tryz.underlying9 Gj Gt;exact⟨rf h,⟨a3,a0,a1,a2⟩,⟨c3,c0,c1,c2,ri h',h3,h0,h1,h2,Ne.symm n03,Ne.symm n13,Ne.symm n23,Ne.symm n01,Ne.symm n02,Ne.symm n12⟩⟩
def rg:List (String×DataW Unit):=[("math/bits.deBruijn32tab",Rows.laid_math_bits_deBruijn32tab),("math/bits.deBruijn64tab",Rows.laid_math_bits_deBruijn64tab),("internal/strconv.uint64pow10",Rows.laid_internal_strconv_uint64pow10),("unicode/utf8.acceptRanges",Rows.laid_unicode_utf8_acceptRanges),("loop.example/g00354/impl.errRange",Rows.laid_loop_example_g00354_impl_errRange),("loop.example/g00354/impl.errUnlike",Rows.laid_loop_example_g00354_impl_errUnlike),("loop.example/g00354/impl.errConflict",Rows.laid_loop_example_g00354_impl_errConflict),("loop.example/g00354/impl.errNone",Rows.laid_loop_example_g00354_impl_errNone)]
def Aa:List (String×DataW Unit):=[("unicode/utf8.first",Rows.laid_unicode_utf8_first)]
theorem mq {W:World} (h:laidMetH Tryz.prog Rows.fnExactAskedRow.laid W):ni W:=by
 have h':laidMet Tryz.prog (rg++Aa) W/\handlesMet Tryz.prog [("errors.errorType",Rows.laid_errors_errorType)] W:=h;exact BQ h'.1 h'.2
noncomputable def pp (os:Os):World:=(World.doorLaid Tryz.prog 1000 os).layVars Tryz.prog Aa
noncomputable def ym (os:Os):List Nat:=((DataW.laidRun Tryz.prog (pp os) 8 (rg.map (·.1))).map (fun x=>x.2.map (·.block))).getD []
theorem Ex (os:Os):laidMet Tryz.prog (rg++Aa) (pp os):=by
 have e1:((rg++Aa).filter fun x=>["unicode/utf8.first"].contains x.1)=Aa:=by kernel_rfl
 have e2:((rg++Aa).filter fun x=> !["unicode/utf8.first"].contains x.1)=rg:=by kernel_rfl
 refine laidMet_layVars (w0:=World.doorLaid Tryz.prog 1000 os) (w':=pp os) ["unicode/utf8.first"] (ym os) (by rw[e1];rfl) (by rw[e1];kernel_rfl) (by rw[e1];kernel_rfl) ?_;rw[e2];exact LaidIn.of_run (ym os) 8 Fi Fi Fi Fi
theorem mr (os:Os) (args:Array Value):laidMetH Tryz.prog Rows.fnExactAskedRow.laid ((pp os).forCall (fun _ _=>0) ⟨#[],args,[]⟩).memory:=
 laidMetH_of_parts3 (fuel:=8) ((Ex os).of_heap (by simp[World.memory,World.forCall,Input.heap])) Fi Fi
end Go.Proofs.YthldeiojlllkdaaGreatDoor
