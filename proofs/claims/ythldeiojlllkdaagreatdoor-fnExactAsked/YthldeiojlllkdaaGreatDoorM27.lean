/- The program's copiers, on: what stands while an answer is made. -/
import Derived.Test.YthldeiojlllkdaaGreatDoorM26
set_option maxRecDepth 20000
set_option maxHeartbeats 8000000
namespace Go.Proofs.YthldeiojlllkdaaGreatDoor
open Go.ChangeShapes Go.WideShapes Go.ChangeAt Go.RowKit
structure CoS (w wx:World) (g:Nat) (v u:Value) (c d:Cp):Prop where
 p:StB wx w.heap.size 39 (cpA v c)
 q:StB wx (w.heap.size+1) 39 cS
 r:StB wx g 39 (cpA u d)
 o:bP wx w.heap.size u d.ts
 b:iO w wx
 l:w.heap.size+1<g
theorem CoS.start {w w2 w3:World} {v u:Value} {c:Cp} (hp:StB w2 w.heap.size 39 (cpA v c)) (hq:StB w2 (w.heap.size+1) 39 cS) (hb:iO w w2) (hs:w.heap.size+1<w2.heap.size) (o3:bP w3 w2.heap.size u c.ts) (b3:iO w2 w3):CoS w (w3.alloc (.cells (cpA u c) 39)) w3.heap.size v u c c:=by
 have b4:iO w3 (w3.alloc (.cells (cpA u c) 39)):=Fc;exact⟨(hp.below b3).below b4,(hq.below b3).below b4,StB.new _ _ _,(o3.below b4).mono Ff,(hb.trans (b3.mono hb.size)).trans (b4.mono (Nat.le_trans hb.size b3.size)),Nat.lt_of_lt_of_le hs b3.size⟩
theorem CoS.below {w wx wy:World} {g:Nat} {v u:Value} {c d:Cp} (h:CoS w wx g v u c d) (b:iO wx wy):CoS w wy g v u c d:=
 ⟨h.p.below b,h.q.below b,h.r.below b,h.o.below b,h.b.trans (b.mono h.b.size),h.l⟩
theorem CoS.put {w wx:World} {g:Nat} {v u:Value} {c d e:Cp} (h:CoS w wx g v u c d) (j:Nat) (x:Value) (he:(cpA u d).setIfInBounds j x=cpA u e) (ht:e.ts=d.ts):CoS w (wx.setCell ⟨g,j,none⟩ x) g v u c e:=
 ⟨h.p.other _ _ (by have:=h.l;show w.heap.size≠g;omega),h.q.other _ _ (by have:=h.l;show w.heap.size+1≠g;omega),h.r.put j x he,by rw[ht];exact h.o.set h.r Fh x,h.b.setCell (by have:=h.l;show w.heap.size<=g;omega) _,h.l⟩
theorem CoS.fin {w wx wy:World} {g:Nat} {v u:Value} {c d:Cp} (h:CoS w wx g v u c d) (G:wx.grownBy wy (some (w.heap.size+1))):bP wy w.heap.size u d.ts/\iO w wy:=
 ⟨h.o.putBy h.q Fh G,h.b.grown G h.b.size (fun k e=>by cases e;omega)⟩
theorem CoS.row {w wx:World} {g r n cap:Nat} {v:Value} {c d:Cp} {j:Nat} {x:Int} (h:CoS w wx g v (.slice (some ⟨r,0,none⟩) n cap) c d) (o:Own wx w.heap.size (.slice (some ⟨r,0,none⟩) n cap) d.ts) (O:Own (wx.setCell ⟨r,j,none⟩ (.int .i64 x)) w.heap.size (.slice (some ⟨r,0,none⟩) n cap) (d.ts.set j x)):CoS w (wx.setCell ⟨r,j,none⟩ (.int .i64 x)) g v (.slice (some ⟨r,0,none⟩) n cap) c {d with ts:=d.ts.set j x}:=by
 have hne:∀(k:Nat) (cs:Array Value),StB wx k 39 cs->k≠r:=fun k cs hk e=>o.ne hk Fh (by rw[e];rfl)
 exact⟨h.p.other _ _ (hne _ _ h.p),h.q.other _ _ (hne _ _ h.q),h.r.other _ _ (hne _ _ h.r),.inl O,h.b.setCell (o.lt r rfl).1 _,h.l⟩
theorem CoS.cells {w wx:World} {g:Nat} {v u:Value} {c d:Cp} (h:CoS w wx g v u c d) (j:Nat) {x:Value} (e:(cpA u d)[j]?=some x):wx.cell? ⟨g,j,none⟩=some x/\wx.frozen? ⟨g,j,none⟩=false:=⟨h.r.cell j e,h.r.frozen j⟩
theorem tz (v:Value) (c:Cp) (i:Int) (w:World) (hr:ag w v c.ts) (hl:c.ts.length<=1099511627776):
  Calls Tryz.prog 79 #[CpV v c,.int .i64 i] w fun e w'=>∃u,e=.returned (CpV u (c.Mark i))/\bP w' w.heap.size u (c.Mark i).ts/\iO w w':=by
 obtain⟨w1,hw1⟩:=Fe ((w.alloc (.cells (cpA v c) 39)).alloc (.cells cS 39))
 have p0:StB w1 w.heap.size 39 (cpA v c):=by rw[hw1];exact(StB.new w _ _).alloc _
 have q0:StB w1 (w.heap.size+1) 39 cS:=by
  rw[hw1];have:=StB.new (w.alloc (.cells (cpA v c) 39)) 39 cS
  rwa[World.size_alloc]at this
 have b1:iO w w1:=by rw[hw1];exact Fc.alloc Fg _
 have c1:=nY v c w1 (hr.below b1 (Nat.le_refl _)) hl;have cf:Hid (∀wx,ag wx v c.ts->_):=fun wx h=>mD v c wx h hl
 obtain⟨ao,cap,rfl⟩:=aa hr;have HW:Hid (w1=(w.alloc (.cells #[.int .i64 c.tr,.bool c.op,.int .i64 c.di,.int .i64 c.wa,.slice ao c.ts.length cap] 39)).alloc (.cells #[.int .i64 0,.bool false,.int .i64 0,.int .i64 0,.slice none 0 0] 39)):=hw1;have hs1:=q0.lt;have HP:Hid (StB w1 w.heap.size 39 (cpA (.slice ao c.ts.length cap) c)/\StB w1 (w.heap.size+1) 39 cS/\iO w w1/\ag w (.slice ao c.ts.length cap) c.ts):=⟨p0,q0,b1,hr⟩
 clear hw1 hr;have k0:w1.cell? ⟨w.heap.size,0,none⟩=some (.int .i64 c.tr):=p0.cell 0 rfl;have k1:w1.cell? ⟨w.heap.size,1,none⟩=some (.bool c.op):=p0.cell 1 rfl;have k2:w1.cell? ⟨w.heap.size,2,none⟩=some (.int .i64 c.di):=p0.cell 2 rfl;have k3:w1.cell? ⟨w.heap.size,3,none⟩=some (.int .i64 c.wa):=p0.cell 3 rfl;have k4:w1.cell? ⟨w.heap.size,4,none⟩=some (.slice ao c.ts.length cap):=p0.cell 4 rfl;clear p0 q0 b1;cases ok:c.ok with
 |false=>
  have e0:c.Mark i=Cp.zero:=by unfold Cp.Mark;rw[ok];rfl
  rw[e0];rw[ok]at c1;unfold CpV at c1⊢;conv in cpA (.slice ao c.ts.length cap) c=>unfold cpA
  conv at c1 in cpA (.slice ao c.ts.length cap) c=>unfold cpA
  clear e0 cf;go_enter Tryz.func79,Tryz.ntmps79;go_wp2_with fail
  rw[<-HW.out];refine c1.mono ?_;rintro e w2 ⟨rfl,b2⟩;have q2:=HP.out.2.1.below b2;have HB2:Hid (iO w w2):=HP.out.2.2.1.trans (b2.mono HP.out.2.2.1.size);have HS2:=b2.size;clear HW HP c1 k0 k1 k2 k3 k4 b2;go_wp2_with (refine ae GH rfl _ _ rfl (w.heap.size+1) cS cS rfl rfl rfl rfl xl q2 ?_;intro w8 s8 g8)
  refine bodyPost_ret (aj GH rfl _ _ (w.heap.size+1) _ rfl rfl s8) rfl ?_;exact⟨.slice none 0 0,rfl,.inl (Own.nil _ _),HB2.out.grown g8 HB2.out.size (fun k e=>by cases e;omega)⟩
 |true=>
  have e0:c.Mark i=c.mark i:=by unfold Cp.Mark;rw[ok];rfl
  rw[e0];have FT:Hid c.Fit:=Cp.fit ok;rw[ok]at c1;unfold CpV at c1 cf⊢;conv in cpA (.slice ao c.ts.length cap) c=>unfold cpA
  conv at c1 in cpA (.slice ao c.ts.length cap) c=>unfold cpA
  conv at cf in cpA (.slice ao c.ts.length cap) c=>unfold cpA
  clear e0;go_enter Tryz.func79,Tryz.ntmps79;go_wp2_with fail
  rw[<-HW.out];refine c1.mono ?_;rintro e w2 ⟨rfl,b2⟩;have p2:=HP.out.1.below b2;have q2:=HP.out.2.1.below b2;have B2:iO w w2:=HP.out.2.2.1.trans (b2.mono HP.out.2.2.1.size);have HR:Hid (ag w (.slice ao c.ts.length cap) c.ts):=HP.out.2.2.2;have c2:=cf.out w2 (HR.out.below B2 (Nat.le_refl _));have HS2:Hid (w.heap.size+1<w2.heap.size):=Nat.lt_of_lt_of_le hs1 b2.size;have HQ:Hid (StB w2 w.heap.size 39 (cpA (.slice ao c.ts.length cap) c)/\StB w2 (w.heap.size+1) 39 cS/\iO w w2):=⟨p2,q2,B2⟩
  clear HW HP c1 cf k0 k1 k2 k3 k4 b2 q2 B2 hs1;have k0:w2.cell? ⟨w.heap.size,0,none⟩=some (.int .i64 c.tr):=p2.cell 0 rfl;have k1:w2.cell? ⟨w.heap.size,1,none⟩=some (.bool c.op):=p2.cell 1 rfl;have k2:w2.cell? ⟨w.heap.size,2,none⟩=some (.int .i64 c.di):=p2.cell 2 rfl;have k3:w2.cell? ⟨w.heap.size,3,none⟩=some (.int .i64 c.wa):=p2.cell 3 rfl;have k4:w2.cell? ⟨w.heap.size,4,none⟩=some (.slice ao c.ts.length cap):=p2.cell 4 rfl;clear p2;go_wp2_with fail
  refine c2.mono ?_;rintro e w3 ⟨u,rfl,o3,b3⟩;obtain⟨bo,bc,rfl⟩:=aa o3.reads;clear k0 k1 k2 k3 k4 c2;obtain⟨w4,hw4⟩:=Fe (w3.alloc (.cells (cpA (.slice bo c.ts.length bc) c) 39))
  obtain⟨g,hg⟩:=Fe w3.heap.size
  have HC:Hid (CoS w w4 g (.slice ao c.ts.length cap) (.slice bo c.ts.length bc) c c):=by
   rw[hw4,hg];exact CoS.start HQ.out.1 HQ.out.2.1 HQ.out.2.2 HS2.out o3 b3
  unfold cpA at hw4⊢;clear HQ HS2 o3 b3;go_upto_region 4 with fail
  rw[<-hw4,<-hg];clear hw4 hg;have k0:w4.cell? ⟨w.heap.size,0,none⟩=some (.int .i64 c.tr):=HC.out.p.cell 0 rfl;have k1:w4.cell? ⟨w.heap.size,1,none⟩=some (.bool c.op):=HC.out.p.cell 1 rfl;have k2:w4.cell? ⟨w.heap.size,2,none⟩=some (.int .i64 c.di):=HC.out.p.cell 2 rfl;have k3:w4.cell? ⟨w.heap.size,3,none⟩=some (.int .i64 c.wa):=HC.out.p.cell 3 rfl;have k4:w4.cell? ⟨w.heap.size,4,none⟩=some (.slice ao c.ts.length cap):=HC.out.p.cell 4 rfl;have ch:=AJ (.slice ao c.ts.length cap) c i w4 (HR.out.below HC.out.b (Nat.le_refl _));obtain⟨bh,hbh⟩:=Fe (c.has i)
  rw[<-hbh]at ch;unfold CpV cpA at ch;have HH:Hid (bh=c.has i):=hbh;clear hbh;go_wp2_with fail
  refine ch.mono ?_;rintro e w5 ⟨rfl,bq⟩;replace HC:Hid (CoS w w5 g (.slice ao c.ts.length cap) (.slice bo c.ts.length bc) c c):=HC.out.below bq;clear ch bq;clear k0 k1 k2 k3 k4;cases bh with
  |false=>
   have HA:Hid (c.mark i=c):=by
    rw[Hid];unfold Cp.mark;rw[<-HH.out];rfl
   clear HH HR FT;go_wp2_with (first|(refine ah GH rfl _ rfl g rfl (cpA (.slice bo c.ts.length bc) (c)) rfl (HC.out).r ?_)|(refine ae GH rfl _ _ rfl (w.heap.size+1) (cpA (.slice bo c.ts.length bc) (c)) cS rfl rfl rfl rfl (lC _ rfl) (HC.out).q ?_;intro w8 s8 g8))
   refine bodyPost_ret (aj GH rfl _ _ (w.heap.size+1) _ rfl rfl s8) rfl ?_;obtain⟨hm,hb⟩:=(HC.out).fin g8;exact⟨_,by rw[HA.out],by rw[HA.out];exact hm,hb⟩
  |true=>
   have hi:=(xV c i).1 HH.out.symm;obtain⟨j,rfl⟩:=dM hi.1;have h8:j<8:=by have:=FT.out.len;omega
   have HA:Hid (c.mark j={c with di:=cv c.di j}):=by
    rw[Hid];unfold Cp.mark;rw[<-HH.out];rfl
   have HO:Hid (∀m,dU (fh c.di 8) (cv 0 j) 8 m->iS m=cv c.di j):=by
    intro m hm;have z:=yO j h8;have hd0:=FT.out.di0;have hd:=FT.out.d;rw[yN hd0 hd z.2.1 Ff hm];obtain⟨k,hk⟩:=dM hd0;rw[hk]at hd⊢;exact z.2.2 k Ff
   clear hi h8 HH;have k0:w5.cell? ⟨w.heap.size,0,none⟩=some (.int .i64 c.tr):=HC.out.p.cell 0 rfl;have k1:w5.cell? ⟨w.heap.size,1,none⟩=some (.bool c.op):=HC.out.p.cell 1 rfl;have k2:w5.cell? ⟨w.heap.size,2,none⟩=some (.int .i64 c.di):=HC.out.p.cell 2 rfl;have k3:w5.cell? ⟨w.heap.size,3,none⟩=some (.int .i64 c.wa):=HC.out.p.cell 3 rfl;have k4:w5.cell? ⟨w.heap.size,4,none⟩=some (.slice ao c.ts.length cap):=HC.out.p.cell 4 rfl;have cd:=vT (.slice ao c.ts.length cap) c w5 (HR.out.below HC.out.b (Nat.le_refl _));unfold CpV cpA at cd;go_wp2_with fail
   refine cd.mono ?_;rintro e w6 ⟨ud,rfl,od,bd⟩;obtain⟨dO,dC,rfl⟩:=aa od.reads;obtain⟨w7,hN⟩:=Fe (w6.alloc (.cells #[.slice dO (fh c.di 8).length dC] 140))
   obtain⟨h,hh⟩:=Fe w6.heap.size
   have bN:iO w6 w7:=by rw[hN];exact Fc
   have HD:Hid (HpB w7 w5.heap.size h (.slice dO (fh c.di 8).length dC) (fh c.di 8)):=⟨by rw[hN,hh];exact StB.new _ _ _,od.below bN,by rw[hh];exact bd.size⟩
   have HX:Hid (iO w5 w7):=bd.trans (bN.mono bd.size);clear cd od bd bN;clear k0 k1 k2 k3 k4;go_upto_region 6 with fail
   rw[<-hN,<-hh];clear hN hh;have cw:=BU 0 j w7;obtain⟨a,ha⟩:=Fe (cv 0 j)
   rw[<-ha]at cw HO;clear ha;have ca:=tF _ (fh c.di 8) (a) _ h w7 HD.out (vF _ _) (fun x hx=>by have:=iD hx;omega);go_wp2_with fail
   refine Fd cw ?_;clear cw;go_wp2_with fail
   refine ca.mono ?_;rintro e w8 ⟨rfl,um,m,h8,a8,b8⟩;replace HX:Hid (iO w5 w8):=HX.out.trans b8;have HM:Hid (dU (fh c.di 8) (a) 8 m):=a8;replace HD:Hid (HpB w8 w5.heap.size h um m):=h8;clear ca h8 a8 b8;have kh:=HD.out.cell;have cs:=AP um m w8 HD.out.own.reads (HM.out.bound (fun x hx=>by have:=iD hx;omega) (Nat.le_refl _));obtain⟨z,hz⟩:=Fe (iS m)
   rw[<-hz]at cs;have HZ:Hid (z=iS m):=hz;obtain⟨mO,mC,rfl⟩:=aa HD.out.own.reads;clear hz;have e9:z=cv c.di j:=by rw[HZ.out];exact HO.out m HM.out
   have HE:Hid (c.mark j={c with di:=z}):=by rw[e9];exact HA.out
   replace HC:Hid (CoS w w8 g (.slice ao c.ts.length cap) (.slice bo c.ts.length bc) c c):=HC.out.below HX.out;have HF:Hid (CoS w (w8.setCell ⟨g,2,none⟩ (.int .i64 z)) g (.slice ao c.ts.length cap) (.slice bo c.ts.length bc) c {c with di:=z}):=HC.out.put 2 (.int .i64 z) rfl rfl;obtain⟨m2,f2⟩:=HC.out.cells 2 (x:=.int .i64 c.di) rfl;clear HA HO HM HZ HX HD HC HR FT e9;go_wp2_with fail
   refine Fd cs ?_;go_upto_region 8 with fail
   obtain⟨wz,hwz⟩:=Fe (w8.setCell ⟨g,2,none⟩ (.int .i64 z))
   rw[<-hwz]at HF⊢;clear hwz cs kh m2 f2;go_wp2_with (first|(refine ah GH rfl _ rfl g rfl (cpA (.slice bo c.ts.length bc) ({c with di:=z})) rfl (HF.out).r ?_)|(refine ae GH rfl _ _ rfl (w.heap.size+1) (cpA (.slice bo c.ts.length bc) ({c with di:=z})) cS rfl rfl rfl rfl (lC _ rfl) (HF.out).q ?_;intro w8 s8 g8))
   refine bodyPost_ret (aj GH rfl _ _ (w.heap.size+1) _ rfl rfl s8) rfl ?_;obtain⟨hm,hb⟩:=(HF.out).fin g8;exact⟨_,by rw[HE.out],by rw[HE.out];exact hm,hb⟩
def Nd.cmd (n:Nd) (i:Int) (c:Cm):Nd×An:=
 ({n with xs:=(Sr.did ⟨n.xs,n.ys,n.h⟩ i c).1.xs,ys:=(Sr.did ⟨n.xs,n.ys,n.h⟩ i c).1.ys,h:=(Sr.did ⟨n.xs,n.ys,n.h⟩ i c).1.h,c:=if decide ((Sr.did ⟨n.xs,n.ys,n.h⟩ i c).2.st=0)&&c.chg then n.c.Mark c.p else n.c},(Sr.did ⟨n.xs,n.ys,n.h⟩ i c).2)
theorem aP.did {w w':World} {base:Nat} {a b k q z a' b' k':Value} {n:Nd} {xs ys:List Int} {h':Hd} (h:aP w base a b k q z n) (hb:base<=w.heap.size) (B:iO w w') (o:aZ w' w.heap.size a' b' k' xs ys h'.ks):aP w' base a' b' k' q z {n with xs:=xs,ys:=ys,h:=h'}:=by
 have ha:=fun x hx=>(aN o.1.1 x hx).1
 have hb':=fun x hx=>(aN o.1.2.1 x hx).1
 have hk:=fun x hx=>(aN o.2.1 x hx).1
 have hq:=fun{x:Nat} (hx:x∈bn q n.c.ts)=>(eL h.oq hx).2
 have hz:=fun{x:Nat} (hx:x∈bn z n.s.ts)=>(eL h.oz hx).2
 exact⟨o.1.1.mono hb,o.1.2.1.mono hb,o.2.1.mono hb,h.oq.below B,h.oz.below B,⟨eK.1 o.1.2.2,eK.1 o.2.2.1,fun x h1 h2=>by have:=ha x h1;have:=hq h2;omega,fun x h1 h2=>by have:=ha x h1;have:=hz h2;omega,eK.1 o.2.2.2,
  fun x h1 h2=>by have:=hb' x h1;have:=hq h2;omega,fun x h1 h2=>by have:=hb' x h1;have:=hz h2;omega,fun x h1 h2=>by have:=hk x h1;have:=hq h2;omega,fun x h1 h2=>by have:=hk x h1;have:=hz h2;omega,h.ap.h45⟩⟩
theorem aP.marked {w w':World} {base:Nat} {a b k q z u:Value} {n:Nd} {c':Cp} (h:aP w base a b k q z n) (hb:base<=w.heap.size) (B:iO w w') (o:bP w' w.heap.size u c'.ts):aP w' base a b k u z {n with c:=c'}:=by
 have ha:=fun x hx=>(aN h.oa x hx).2
 have hb':=fun x hx=>(aN h.ob x hx).2
 have hk:=fun x hx=>(aN h.ok x hx).2
 have hq:=fun{x:Nat} (hx:x∈bn u c'.ts)=>(eL o hx).1
 have hz:=fun{x:Nat} (hx:x∈bn z n.s.ts)=>(eL h.oz hx).2
 exact⟨h.oa.below B,h.ob.below B,h.ok.below B,o.mono hb,h.oz.below B,⟨h.ap.h12,h.ap.h13,fun x h1 h2=>by have:=ha x h1;have:=hq h2;omega,h.ap.h15,h.ap.h23,fun x h1 h2=>by have:=hb' x h1;have:=hq h2;omega,h.ap.h25,fun x h1 h2=>by have:=hk x h1;have:=hq h2;omega,h.ap.h35,fun x h1 h2=>by have:=hq h1;have:=hz h2;omega⟩⟩
structure fV (w wx:World) (cs:Array Value) (c:Cm):Prop where
 p:StB wx w.heap.size 42 cs
 c:StB wx (w.heap.size+1) 66 (cmA c)
 r:StB wx (w.heap.size+1+1) 42 aA
 ra:StB wx (w.heap.size+1+1+1) 44 (anA ⟨0,[]⟩)
 b:iO w wx
theorem fV.start (w:World) (cs:Array Value) (c:Cm):fV w ((((w.alloc (.cells cs 42)).alloc (.cells (cmA c) 66)).alloc (.cells aA 42)).alloc (.cells (anA ⟨0,[]⟩) 44)) cs c:=by
 have r1:=StB.new (w.alloc (.cells cs 42)) 66 (cmA c);rw[World.size_alloc]at r1;have r2:=StB.new ((w.alloc (.cells cs 42)).alloc (.cells (cmA c) 66)) 42 aA;rw[World.size_alloc,World.size_alloc]at r2;have r3:=StB.new (((w.alloc (.cells cs 42)).alloc (.cells (cmA c) 66)).alloc (.cells aA 42)) 44 (anA ⟨0,[]⟩);rw[World.size_alloc,World.size_alloc,World.size_alloc]at r3;exact⟨(((StB.new w _ _).alloc _).alloc _).alloc _,(r1.alloc _).alloc _,r2.alloc _,r3,((Fc.alloc Fg _).alloc (by simp;omega) _).alloc (by simp;omega) _⟩
theorem fV.below {w wx wy:World} {cs:Array Value} {c:Cm} (h:fV w wx cs c) (B:iO wx wy):fV w wy cs c:=⟨h.p.below B,h.c.below B,h.r.below B,h.ra.below B,h.b.trans (B.mono h.b.size)⟩
theorem fV.put {w wx:World} {cs ds:Array Value} {c:Cm} (h:fV w wx cs c) (j:Nat) (x:Value) (e:cs.setIfInBounds j x=ds):fV w (wx.setCell ⟨w.heap.size,j,none⟩ x) ds c:=
 ⟨h.p.put j x e,h.c.other _ _ (by show w.heap.size+1≠w.heap.size;omega),h.r.other _ _ (by show w.heap.size+1+1≠w.heap.size;omega),h.ra.other _ _ (by show w.heap.size+1+1+1≠w.heap.size;omega),h.b.setCell (Nat.le_refl _) _⟩
theorem fV.kept {w wx wy:World} {cs:Array Value} {c:Cm} {g:Nat} (h:fV w wx cs c) (G:wx.grownBy wy (some g)) (hg:w.heap.size+4<=g):fV w wy cs c:=
 ⟨h.p.kept G (by simp;omega),h.c.kept G (by simp;omega),h.r.kept G (by simp;omega),h.ra.kept G (by simp;omega),h.b.grown G h.b.size (fun k e=>by cases e;omega)⟩
theorem fV.lt {w wx:World} {cs:Array Value} {c:Cm} (h:fV w wx cs c):w.heap.size+4<=wx.heap.size:=h.ra.lt
theorem Cw (w:World) (g:Nat) (j1 j2 j3 j4 j5 j6:Nat) (x1 x2 x3 x4 x5 x6:Value):aw w ((((((w.setCell ⟨g,j1,none⟩ x1).setCell ⟨g,j2,none⟩ x2).setCell ⟨g,j3,none⟩ x3).setCell ⟨g,j4,none⟩ x4).setCell ⟨g,j5,none⟩ x5).setCell ⟨g,j6,none⟩ x6).drew [g]:=
 (((((((aw.of_grown (ai w g j1 _)).sub Fg).then ((aw.of_grown (ai _ g j2 _)).sub Fg)).then ((aw.of_grown (ai _ g j3 _)).sub Fg)).then ((aw.of_grown (ai _ g j4 _)).sub Fg)).then ((aw.of_grown (ai _ g j5 _)).sub Fg)).then ((aw.of_grown (ai _ g j6 _)).sub Fg)).then (aw.below _ (Below.refl _ _).drew)
theorem Cy (w:World) (g:Nat) (j1 j2 j3 j4 j5:Nat) (x1 x2 x3 x4 x5:Value):aw w (((((w.setCell ⟨g,j1,none⟩ x1).setCell ⟨g,j2,none⟩ x2).setCell ⟨g,j3,none⟩ x3).setCell ⟨g,j4,none⟩ x4).setCell ⟨g,j5,none⟩ x5) [g]:=
 (((((aw.of_grown (ai w g j1 _)).sub Fg).then ((aw.of_grown (ai _ g j2 _)).sub Fg)).then ((aw.of_grown (ai _ g j3 _)).sub Fg)).then ((aw.of_grown (ai _ g j4 _)).sub Fg)).then ((aw.of_grown (ai _ g j5 _)).sub Fg)
theorem aP.turned {w w':World} {base g:Nat} {a b k q z:Value} {n:Nd} {t:TypeId} {cs:Array Value} (h:aP w base a b k q z n) (T:aw w w' [g]) (s:StB w g t cs) (ty:t≠2):aP w' base a b k q z n:=by
 have ne:∀x∈me a b k q z n,x≠g:=fun x hx e=>by
  subst e;have hq:∀v xs,bP w base v xs->x∈bn v xs->False:=fun v xs hm hx=>by
   have hx':xs≠[]:=fun e=>by rw[e]at hx;simp[bn]at hx
   exact(hm.own hx').ne s ty (by have:=dK hx;simpa[blk]using this)
  have hb:∀v xs,Own w base v xs->x∈blk v->False:=fun v xs ho hx=>ho.ne s ty (by simpa[blk]using hx)
  rcases eU.1 hx with hx|hx|hx|hx|hx
  ·exact hb _ _ h.oa hx
  ·exact hb _ _ h.ob hx
  ·exact hb _ _ h.ok hx
  ·exact hq _ _ h.oq hx
  ·exact hq _ _ h.oz hx
 exact h.frame fun x hx=>T.block x (h.lt hx).2 (by simpa using ne x hx)
theorem zf (a b k q z:Value) (n:Nd) (i:Int) (c:Cm) (w:World) (base:Nat) (hm:aP w base a b k q z n) (hb:base<=w.heap.size) (hl:SmN n) (ht:ni w):
  Calls Tryz.prog 29 #[NdV a b k q z n,.int .i64 i,CV c] w fun e w'=>∃a' b' k' q',e=.returned (.tuple #[NdV a' b' k' q' z (n.cmd i c).1,AV (n.cmd i c).2])/\aP w' base a' b' k' q' z (n.cmd i c).1/\iO w w':=by
 have HR:Hid (∀wx,iO w wx->RdN wx a b k q z n):=fun wx B=>hm.reads.below B
 have CS:Hid (∀wx,iO w wx->Calls Tryz.prog 64 #[NdV a b k q z n] wx fun e w'=>e=.returned (SRV a b k n.h)/\iO wx w'):=fun wx B=>iK a b k q z n wx (HR.out wx B)
 have HE:Hid (n.cmd i c=({n with xs:=(Sr.did ⟨n.xs,n.ys,n.h⟩ i c).1.xs,ys:=(Sr.did ⟨n.xs,n.ys,n.h⟩ i c).1.ys,h:=(Sr.did ⟨n.xs,n.ys,n.h⟩ i c).1.h,c:=if decide ((Sr.did ⟨n.xs,n.ys,n.h⟩ i c).2.st=0)&&c.chg then n.c.Mark c.p else n.c},(Sr.did ⟨n.xs,n.ys,n.h⟩ i c).2)):=rfl;have CD:Hid (∀wx,iO w wx->Calls Tryz.prog 77 #[SRV a b k n.h,.int .i64 i,CV c] wx fun e w'=>∃a b k,e=.returned (.tuple #[SRV a b k (Sr.did ⟨n.xs,n.ys,n.h⟩ i c).1.h,AV (Sr.did ⟨n.xs,n.ys,n.h⟩ i c).2])/\aZ w' wx.heap.size a b k (Sr.did ⟨n.xs,n.ys,n.h⟩ i c).1.xs (Sr.did ⟨n.xs,n.ys,n.h⟩ i c).1.ys (Sr.did ⟨n.xs,n.ys,n.h⟩ i c).1.h.ks/\iO wx w'):=fun wx B=>pE a b k n.xs n.ys n.h i c wx (HR.out wx B).ra (HR.out wx B).rb (HR.out wx B).rk (by have:=hl.la;omega) (by have:=hl.lb;omega) (by have:=hl.lk;omega) (ht.below B)
 have CG:Hid (∀wx,Calls Tryz.prog 78 #[CV c] wx fun e w'=>e=.returned (.bool c.chg)/\iO wx w'):=fun wx=>tw c wx
 have CM:Hid (∀wx,iO w wx->Calls Tryz.prog 79 #[CpV q n.c,.int .i64 c.p] wx fun e w'=>∃u,e=.returned (CpV u (n.c.Mark c.p))/\bP w' wx.heap.size u (n.c.Mark c.p).ts/\iO wx w'):=fun wx B=>tz q n.c c.p wx (HR.out wx B).rq (by have:=hl.lq;omega)
 obtain⟨x,hx⟩:=Fe (n.cmd i c)
 rw[<-hx]at HE⊢;clear hx;obtain⟨d,hd⟩:=Fe (Sr.did ⟨n.xs,n.ys,n.h⟩ i c)
 rw[<-hd]at HE CD;clear hd;obtain⟨s,an⟩:=d;dsimp only at HE CD;have HM:Hid (aP w base a b k q z n/\base<=w.heap.size):=⟨hm,hb⟩
 obtain⟨ao,ac,rfl⟩:=aa hm.oa.reads;obtain⟨bo,bc,rfl⟩:=aa hm.ob.reads;obtain⟨ko,kc,rfl⟩:=aa hm.ok.reads;obtain⟨qo,qc,rfl⟩:=aa hm.oq.reads;obtain⟨zo,zc,rfl⟩:=aa hm.oz.reads;obtain⟨w1,hw1⟩:=Fe ((((w.alloc (.cells (ndA (.slice ao n.xs.length ac) (.slice bo n.ys.length bc) (.slice ko n.h.ks.length kc) (.slice qo n.c.ts.length qc) (.slice zo n.s.ts.length zc) n) 42)).alloc (.cells (cmA c) 66)).alloc (.cells aA 42)).alloc (.cells (anA ⟨0,[]⟩) 44))
 have HF:Hid (fV w w1 (Fk ao ac bo bc ko kc qo qc zo zc n) c):=by rw[hw1];exact fV.start w _ c
 clear hm hb hl ht HR;unfold SRV AV at CD;unfold SRV at CS;unfold CpV cpA at CM;unfold ndA aA cmA anA S at hw1;unfold NdV at CS⊢;unfold CV at CD CG⊢;conv in ndA (.slice ao n.xs.length ac) _ _ _ _ _=>unfold ndA S
 conv in cmA c=>unfold cmA
 go_enter Tryz.func29,Tryz.ntmps29;go_upto_region 1 with fail
 rw[<-hw1];clear hw1;obtain⟨C,hCd⟩:=Fe (fun x=>iO w1 x)
 have HQ:Hid (∀x,C x->iO w1 x):=by rw[hCd];exact fun _ h=>h
 have HN:Hid (∀x y,C x->dQ x y->C y):=by rw[hCd];exact fun _ _ h b=>h.trans (b.mono h.size)
 have H0:Hid (C w1.drew):=by rw[hCd];exact(Below.refl _ _).drew
 have hne:Nonempty (Kin C):=⟨⟨_,H0.out⟩⟩
 clear hCd;refine eY (C:=C) (E:=iN fun d=>if d=12 then some (isG (.agg (srA (.slice ao n.xs.length ac) (.slice bo n.ys.length bc) (.slice ko n.h.ks.length kc) n.h)))else if d=15 then some (tf w1.heap.size s an)else if d=8 then some (alG w1.heap.size 96 zeR)else if d=9 then some (alG w1.heap.size 44 (anA ⟨0,[]⟩))else none) (R:=dQ) HN.out (dY (by intro d s hs u x y hx hl;split at hs;(cases hs;trivial);split at hs;(cases hs;exact nQ hx hl);split at hs;(cases hs;exact jq hx hl);split at hs;(cases hs;exact jq hx hl);cases hs)) 7 _ _ (dZ _ _) Fi Fi Fi Fi Fg Fg rfl rfl rfl rfl rfl rfl (fun _=>rfl) (fun a v=>execOp_put (ops:=#[]) _ (by intro cs b h;cases h) a _ v (by intro d hd;cases hd;decide)) H0.out ?_;refine dz GO rfl Fj _ rfl w.heap.size rfl (Fk ao ac bo bc ko kc qo qc zo zc n) rfl (fun y=>HF.out.p.below (HQ.out _ y.h)) ?_;refine fp (isG (.agg (srA (.slice ao n.xs.length ac) (.slice bo n.ys.length bc) (.slice ko n.h.ks.length kc) n.h))) rfl Fj (fun wq hB=>?_) (fun uq hu=>?_)
 ·go_simp
  refine⟨rfl,?_⟩;exact DM (CS.out _ (HF.out.b.trans ((HQ.out _ hB.1).mono HF.out.b.size)))
 obtain rfl:=hu;iterate 1 (refine eP rfl (fun K hK=>?_);go_simp;refine hK _ ?_;clear hK K)
 refine dz nP rfl Fj _ rfl (w.heap.size+1) rfl (cmA c) rfl (fun y=>HF.out.c.below (HQ.out _ y.h)) ?_;refine fp (tf w1.heap.size s an) rfl Fj (fun wq hB=>?_) (fun uq hu=>?_)
 ·go_simp
  refine⟨rfl,?_⟩;exact xX (HQ.out _ hB.1).size (CD.out _ (HF.out.b.trans ((HQ.out _ hB.1).mono HF.out.b.size)))
 obtain⟨a1,a2,b1,b2,k1,k2,rfl⟩:=hu;iterate 3 (refine eP rfl (fun K hK=>?_);go_simp;refine hK _ ?_;clear hK K)
 refine fp (alG w1.heap.size 96 zeR) rfl Fj (fun wq hB=>?_) (fun uq hu=>?_)
 ·go_simp
  exact rI (HQ.out _ hB.1).size
 obtain⟨g8,rfl⟩:=hu;refine fp (alG w1.heap.size 44 (anA ⟨0,[]⟩)) rfl Fj (fun wq hB=>?_) (fun uq hu=>?_)
 ·go_simp
  exact rI (HQ.out _ hB.1).size
 obtain⟨g9,rfl⟩:=hu;refine i8 (fun w4 hz=>?_);have bz:=HQ.out _ hz.1;have q9:=hz.2 _ (List.mem_cons_self ..) g9 rfl;have q8:=hz.2 _ (List.mem_cons_of_mem _ (List.mem_cons_self ..)) g8 rfl;have qd:=hz.2 _ (List.mem_cons_of_mem _ (List.mem_cons_of_mem _ (List.mem_cons_self ..))) _ _ _ _ _ _ _ rfl;refine gC GP _ _ rfl g8 (srA (.slice a1 s.xs.length a2) (.slice b1 s.ys.length b2) (.slice k1 s.h.ks.length k2) s.h) zeR rfl rfl rfl rfl (ee s.h rfl rfl rfl) q8.1 ?_;intro w5 s5 g5;refine⟨trivial,?_⟩;refine fH GC rfl rfl _ _ rfl g9 (anA an) (anA ⟨0,[]⟩) rfl rfl rfl rfl (aC _) (q9.1.keptT q8.1 g5 Fh) ?_;intro w6 s6 g6;have hlt:=HF.out.lt;have HF6:Hid (fV w w6 (Fk ao ac bo bc ko kc qo qc zo zc n) c):=((HF.out.below bz).kept g5 (by have:=q8.2;omega)).kept g6 (by have:=q9.2;omega);have V6:Hid (StB w6 g8 96 (srA (.slice a1 s.xs.length a2) (.slice b1 s.ys.length b2) (.slice k1 s.h.ks.length k2) s.h)/\StB w6 g9 44 (anA an)/\w.heap.size+4<=g8/\w.heap.size+4<=g9):=⟨s5.keptT (q9.1.keptT q8.1 g5 Fh) g6 Fh,s6,by have:=q8.2;omega,by have:=q9.2;omega⟩
 have M6:Hid (aP w6 base (.slice a1 s.xs.length a2) (.slice b1 s.ys.length b2) (.slice k1 s.h.ks.length k2) (.slice qo n.c.ts.length qc) (.slice zo n.s.ts.length zc) {n with xs:=s.xs,ys:=s.ys,h:=s.h}):=((HM.out.1.did HM.out.2 (HF.out.b.trans (bz.mono HF.out.b.size)) (qd.mono HF.out.b.size)).putBy q8.1 Fh g5).putBy (q9.1.keptT q8.1 g5 Fh) Fh g6;clear s5 s6 g5 g6 qd q8 q9 bz hz hlt HQ HN H0 hne CS CD HF;have u0:w6.cell? ⟨g8,0,none⟩=some (.slice a1 s.xs.length a2):=V6.out.1.cell 0 rfl;have s0:w6.drew.cell? ⟨g8,0,none⟩=some (.slice a1 s.xs.length a2):=V6.out.1.dr.cell 0 rfl;have v2:w6.cell? ⟨w.heap.size,2,none⟩=some (.slice ao n.xs.length ac):=HF6.out.p.cell 2 rfl;have p2:w6.drew.cell? ⟨w.heap.size,2,none⟩=some (.slice ao n.xs.length ac):=HF6.out.p.dr.cell 2 rfl;have fv2:w6.frozen? ⟨w.heap.size,2,none⟩=false:=HF6.out.p.frozen 2;have fp2:w6.drew.frozen? ⟨w.heap.size,2,none⟩=false:=HF6.out.p.dr.frozen 2;have u1:w6.cell? ⟨g8,1,none⟩=some (.slice b1 s.ys.length b2):=V6.out.1.cell 1 rfl;have s1:w6.drew.cell? ⟨g8,1,none⟩=some (.slice b1 s.ys.length b2):=V6.out.1.dr.cell 1 rfl;have v3:w6.cell? ⟨w.heap.size,3,none⟩=some (.slice bo n.ys.length bc):=HF6.out.p.cell 3 rfl;have p3:w6.drew.cell? ⟨w.heap.size,3,none⟩=some (.slice bo n.ys.length bc):=HF6.out.p.dr.cell 3 rfl;have fv3:w6.frozen? ⟨w.heap.size,3,none⟩=false:=HF6.out.p.frozen 3;have fp3:w6.drew.frozen? ⟨w.heap.size,3,none⟩=false:=HF6.out.p.dr.frozen 3;have u2:w6.cell? ⟨g8,2,none⟩=some (.slice k1 s.h.ks.length k2):=V6.out.1.cell 2 rfl;have s2:w6.drew.cell? ⟨g8,2,none⟩=some (.slice k1 s.h.ks.length k2):=V6.out.1.dr.cell 2 rfl;have v4:w6.cell? ⟨w.heap.size,4,none⟩=some (.slice ko n.h.ks.length kc):=HF6.out.p.cell 4 rfl;have p4:w6.drew.cell? ⟨w.heap.size,4,none⟩=some (.slice ko n.h.ks.length kc):=HF6.out.p.dr.cell 4 rfl;have fv4:w6.frozen? ⟨w.heap.size,4,none⟩=false:=HF6.out.p.frozen 4;have fp4:w6.drew.frozen? ⟨w.heap.size,4,none⟩=false:=HF6.out.p.dr.frozen 4;have u3:w6.cell? ⟨g8,3,none⟩=some (.int .i64 s.h.kd):=V6.out.1.cell 3 rfl;have s3:w6.drew.cell? ⟨g8,3,none⟩=some (.int .i64 s.h.kd):=V6.out.1.dr.cell 3 rfl;have v5:w6.cell? ⟨w.heap.size,5,none⟩=some (.int .i64 n.h.kd):=HF6.out.p.cell 5 rfl;have p5:w6.drew.cell? ⟨w.heap.size,5,none⟩=some (.int .i64 n.h.kd):=HF6.out.p.dr.cell 5 rfl;have fv5:w6.frozen? ⟨w.heap.size,5,none⟩=false:=HF6.out.p.frozen 5;have fp5:w6.drew.frozen? ⟨w.heap.size,5,none⟩=false:=HF6.out.p.dr.frozen 5;have u4:w6.cell? ⟨g8,4,none⟩=some (.int .i64 s.h.ho):=V6.out.1.cell 4 rfl;have s4:w6.drew.cell? ⟨g8,4,none⟩=some (.int .i64 s.h.ho):=V6.out.1.dr.cell 4 rfl;have v6:w6.cell? ⟨w.heap.size,6,none⟩=some (.int .i64 n.h.ho):=HF6.out.p.cell 6 rfl;have p6:w6.drew.cell? ⟨w.heap.size,6,none⟩=some (.int .i64 n.h.ho):=HF6.out.p.dr.cell 6 rfl;have fv6:w6.frozen? ⟨w.heap.size,6,none⟩=false:=HF6.out.p.frozen 6;have fp6:w6.drew.frozen? ⟨w.heap.size,6,none⟩=false:=HF6.out.p.dr.frozen 6;have u5:w6.cell? ⟨g8,5,none⟩=some (.int .i64 s.h.tu):=V6.out.1.cell 5 rfl;have s5:w6.drew.cell? ⟨g8,5,none⟩=some (.int .i64 s.h.tu):=V6.out.1.dr.cell 5 rfl;have v7:w6.cell? ⟨w.heap.size,7,none⟩=some (.int .i64 n.h.tu):=HF6.out.p.cell 7 rfl;have p7:w6.drew.cell? ⟨w.heap.size,7,none⟩=some (.int .i64 n.h.tu):=HF6.out.p.dr.cell 7 rfl;have fv7:w6.frozen? ⟨w.heap.size,7,none⟩=false:=HF6.out.p.frozen 7;have fp7:w6.drew.frozen? ⟨w.heap.size,7,none⟩=false:=HF6.out.p.dr.frozen 7;obtain⟨w7,hw7⟩:=Fe (((((((w6.setCell ⟨w.heap.size,2,none⟩ (.slice a1 s.xs.length a2)).setCell ⟨w.heap.size,3,none⟩ (.slice b1 s.ys.length b2)).setCell ⟨w.heap.size,4,none⟩ (.slice k1 s.h.ks.length k2)).setCell ⟨w.heap.size,5,none⟩ (.int .i64 s.h.kd)).setCell ⟨w.heap.size,6,none⟩ (.int .i64 s.h.ho)).setCell ⟨w.heap.size,7,none⟩ (.int .i64 s.h.tu)).drew)
 have HF7:Hid (fV w w7 (ndA (.slice a1 s.xs.length a2) (.slice b1 s.ys.length b2) (.slice k1 s.h.ks.length k2) (.slice qo n.c.ts.length qc) (.slice zo n.s.ts.length zc) {n with xs:=s.xs,ys:=s.ys,h:=s.h}) c):=by
  rw[hw7];exact fV.below ((((((HF6.out.put 2 (.slice a1 s.xs.length a2) rfl).put 3 (.slice b1 s.ys.length b2) rfl).put 4 (.slice k1 s.h.ks.length k2) rfl).put 5 (.int .i64 s.h.kd) rfl).put 6 (.int .i64 s.h.ho) rfl).put 7 (.int .i64 s.h.tu) rfl) (Below.refl _ _).drew
 have T7:Hid (aw w6 w7 [w.heap.size]):=by
  rw[hw7];exact Cw w6 w.heap.size 2 3 4 5 6 7 _ _ _ _ _ _
 have M7:Hid (aP w7 base (.slice a1 s.xs.length a2) (.slice b1 s.ys.length b2) (.slice k1 s.h.ks.length k2) (.slice qo n.c.ts.length qc) (.slice zo n.s.ts.length zc) {n with xs:=s.xs,ys:=s.ys,h:=s.h}):=M6.out.turned T7.out HF6.out.p Fh;have V7:Hid (StB w7 g9 44 (anA an)/\w.heap.size+4<=g9):=⟨V6.out.2.1.turned T7.out (by simp;have:=V6.out.2.2.2;omega),V6.out.2.2.2⟩
 have hn1:¬g8=w.heap.size:=by have:=V6.out.2.2.1;omega
 have hn2:¬w.heap.size=g8:=fun e=>hn1 e.symm
 clear T7;go_upto_region 2 with fail
 go_region
 all_goals
  rw[<-hw7];clear hw7 hn1 hn2 V6 M6 HF6 u0 s0 v2 p2 fv2 fp2 u1 s1 v3 p3 fv3 fp3 u2 s2 v4 p4 fv4 fp4 u3 s3 v5 p5 fv5 fp5 u4 s4 v6 p6 fv6 fp6 u5 s5 v7 p7 fv7 fp7;have y0:w7.cell? ⟨g9,0,none⟩=some (.int .i64 an.st):=V7.out.1.cell 0 rfl;by_cases hst:an.st=0
  ·go_wp2_with (first|(refine ah nP rfl _ rfl (w.heap.size+1) rfl (cmA c) rfl HF7.out.c ?_)|(refine aD nP rfl _ rfl (w.heap.size+1) rfl (cmA c) rfl HF7.out.c ?_))
   refine(CG.out w7).mono ?_;rintro e w8 ⟨rfl,b8⟩;have HF8:Hid (fV w w8 (ndA (.slice a1 s.xs.length a2) (.slice b1 s.ys.length b2) (.slice k1 s.h.ks.length k2) (.slice qo n.c.ts.length qc) (.slice zo n.s.ts.length zc) {n with xs:=s.xs,ys:=s.ys,h:=s.h}) c):=HF7.out.below b8;have M8:Hid (aP w8 base (.slice a1 s.xs.length a2) (.slice b1 s.ys.length b2) (.slice k1 s.h.ks.length k2) (.slice qo n.c.ts.length qc) (.slice zo n.s.ts.length zc) {n with xs:=s.xs,ys:=s.ys,h:=s.h}):=M7.out.below b8;have V8:Hid (StB w8 g9 44 (anA an)/\w.heap.size+4<=g9):=⟨V7.out.1.below b8,V7.out.2⟩
   clear HF7 M7 V7 b8 y0 CG;cases hch:c.chg with
   |false=>
    have HX:Hid (x=({n with xs:=s.xs,ys:=s.ys,h:=s.h},an)):=by show x=_;rw[HE.out,if_neg (by simp[hch])]
    go_upto_region 5 with fail
    obtain⟨C,hCd⟩:=Fe (fun x=>iO w8 x)
    have HQ:Hid (∀x,C x->iO w8 x):=by rw[hCd];exact fun _ h=>h
    have HN:Hid (∀x y,C x->dQ x y->C y):=by rw[hCd];exact fun _ _ h b=>h.trans (b.mono h.size)
    have H0:Hid (C w8.drew):=by rw[hCd];exact(Below.refl _ _).drew
    have hne:Nonempty (Kin C):=⟨⟨_,H0.out⟩⟩
    clear hCd;refine du (fun a=>a.eval (.tmp 9)=.pointer (some ⟨g9,0,none⟩)) (fun x y=>x.grownBy y (some (w.heap.size+1+1))) (C:=C) (E:=iN fun _=>none) (R:=dQ) HN.out (dY (by intro d s hs;cases hs)) 1 _ _ (dZ _ _) Fi Fi Fi Fi Fg Fg rfl rfl rfl rfl rfl (xY Fi) rfl (fun a x y v ja cx dd hq=>iC GC _ rfl g9 ja (anA an) rfl (V8.out.1.below (HQ.out _ cx)) ((V8.out.1.below (HQ.out _ cx)).kept dd (by simp;have:=V8.out.2;omega)) hq) (fun _=>rfl) (fun a v=>execOp_put (ops:=#[]) _ (by intro cs b h;cases h) a _ v (by intro d hd;cases hd;decide)) H0.out ?_;refine dz GO rfl Fj _ rfl w.heap.size rfl (ndA (.slice a1 s.xs.length a2) (.slice b1 s.ys.length b2) (.slice k1 s.h.ks.length k2) (.slice qo n.c.ts.length qc) (.slice zo n.s.ts.length zc) {n with xs:=s.xs,ys:=s.ys,h:=s.h}) rfl (fun y=>HF8.out.p.below (HQ.out _ y.h)) ?_;refine dz GC rfl Fj _ rfl g9 rfl (anA an) rfl (fun y=>V8.out.1.below (HQ.out _ y.h)) ?_;refine i8 (fun w16 hz=>?_);have bz:=HQ.out _ hz.1;refine gC GO _ _ rfl (w.heap.size+1+1) (ndA (.slice a1 s.xs.length a2) (.slice b1 s.ys.length b2) (.slice k1 s.h.ks.length k2) (.slice qo n.c.ts.length qc) (.slice zo n.s.ts.length zc) {n with xs:=s.xs,ys:=s.ys,h:=s.h}) aA rfl rfl rfl rfl (cP _ rfl rfl rfl rfl rfl) (HF8.out.r.below bz) ?_;intro w17 s17 g17;refine⟨g17,?_⟩;refine fH GC rfl rfl _ _ rfl (w.heap.size+1+1+1) (anA an) (anA ⟨0,[]⟩) rfl rfl rfl rfl (aC _) ((HF8.out.ra.below bz).kept g17 Fg) ?_;intro w18 s18 g18;go_wp2_with fail
    refine bodyPost_ret (db rfl _ _ (w.heap.size+1+1) (w.heap.size+1+1+1) _ _ rfl rfl rfl rfl (s17.kept g18 Fg) s18) rfl ?_;rw[HX.out];have bb:=(HF8.out.below bz).b.grown g17 (HF8.out.below bz).b.size (fun k e=>by cases e;omega);exact⟨_,_,_,_,rfl,((M8.out.below bz).putBy (HF8.out.r.below bz) Fh g17).putBy ((HF8.out.ra.below bz).kept g17 Fg) Fh g18,bb.grown g18 bb.size (fun k e=>by cases e;omega)⟩
   |true=>
    have HX:Hid (x=({n with xs:=s.xs,ys:=s.ys,h:=s.h,c:=n.c.Mark c.p},an)):=by show x=_;rw[HE.out,if_pos (by simp[hch,hst])]
    have p13:w8.cell? ⟨w.heap.size,13,none⟩=some (.int .i64 n.c.tr):=HF8.out.p.cell 13 rfl;have p14:w8.cell? ⟨w.heap.size,14,none⟩=some (.bool n.c.op):=HF8.out.p.cell 14 rfl;have p15:w8.cell? ⟨w.heap.size,15,none⟩=some (.int .i64 n.c.di):=HF8.out.p.cell 15 rfl;have p16:w8.cell? ⟨w.heap.size,16,none⟩=some (.int .i64 n.c.wa):=HF8.out.p.cell 16 rfl;have p17:w8.cell? ⟨w.heap.size,17,none⟩=some (.slice qo n.c.ts.length qc):=HF8.out.p.cell 17 rfl;have c1:w8.cell? ⟨w.heap.size+1,1,none⟩=some (.int .i64 c.p):=HF8.out.c.cell 1 rfl;go_wp2_with fail
    refine(CM.out w8 HF8.out.b).mono ?_;rintro e w9 ⟨u,rfl,o9,b9⟩;obtain⟨u1,u2,rfl⟩:=aa o9.reads;clear p13 p14 p15 p16 p17 c1;have HF9:Hid (fV w w9 (ndA (.slice a1 s.xs.length a2) (.slice b1 s.ys.length b2) (.slice k1 s.h.ks.length k2) (.slice qo n.c.ts.length qc) (.slice zo n.s.ts.length zc) {n with xs:=s.xs,ys:=s.ys,h:=s.h}) c):=HF8.out.below b9;have M9:Hid (aP w9 base (.slice a1 s.xs.length a2) (.slice b1 s.ys.length b2) (.slice k1 s.h.ks.length k2) (.slice u1 (n.c.Mark c.p).ts.length u2) (.slice zo n.s.ts.length zc) {n with xs:=s.xs,ys:=s.ys,h:=s.h,c:=n.c.Mark c.p}):=M8.out.marked (Nat.le_trans HM.out.2 HF8.out.b.size) b9 o9;have V9:Hid (StB w9 g9 44 (anA an)/\w.heap.size+4<=g9):=⟨V8.out.1.below b9,V8.out.2⟩
    clear HF8 M8 V8 b9 o9 CM;have p13:w9.cell? ⟨w.heap.size,13,none⟩=some (.int .i64 n.c.tr):=HF9.out.p.cell 13 rfl;have f13:w9.frozen? ⟨w.heap.size,13,none⟩=false:=HF9.out.p.frozen 13;have p14:w9.cell? ⟨w.heap.size,14,none⟩=some (.bool n.c.op):=HF9.out.p.cell 14 rfl;have f14:w9.frozen? ⟨w.heap.size,14,none⟩=false:=HF9.out.p.frozen 14;have p15:w9.cell? ⟨w.heap.size,15,none⟩=some (.int .i64 n.c.di):=HF9.out.p.cell 15 rfl;have f15:w9.frozen? ⟨w.heap.size,15,none⟩=false:=HF9.out.p.frozen 15;have p16:w9.cell? ⟨w.heap.size,16,none⟩=some (.int .i64 n.c.wa):=HF9.out.p.cell 16 rfl;have f16:w9.frozen? ⟨w.heap.size,16,none⟩=false:=HF9.out.p.frozen 16;have p17:w9.cell? ⟨w.heap.size,17,none⟩=some (.slice qo n.c.ts.length qc):=HF9.out.p.cell 17 rfl;have f17:w9.frozen? ⟨w.heap.size,17,none⟩=false:=HF9.out.p.frozen 17;obtain⟨w10,hw10⟩:=Fe ((((((w9.setCell ⟨w.heap.size,13,none⟩ (.int .i64 (n.c.Mark c.p).tr)).setCell ⟨w.heap.size,14,none⟩ (.bool (n.c.Mark c.p).op)).setCell ⟨w.heap.size,15,none⟩ (.int .i64 (n.c.Mark c.p).di)).setCell ⟨w.heap.size,16,none⟩ (.int .i64 (n.c.Mark c.p).wa)).setCell ⟨w.heap.size,17,none⟩ (.slice u1 (n.c.Mark c.p).ts.length u2)))
    have HF10:Hid (fV w w10 (ndA (.slice a1 s.xs.length a2) (.slice b1 s.ys.length b2) (.slice k1 s.h.ks.length k2) (.slice u1 (n.c.Mark c.p).ts.length u2) (.slice zo n.s.ts.length zc) {n with xs:=s.xs,ys:=s.ys,h:=s.h,c:=n.c.Mark c.p}) c):=by rw[hw10];exact(fV.put (fV.put (fV.put (fV.put (fV.put HF9.out 13 (.int .i64 (n.c.Mark c.p).tr) rfl) 14 (.bool (n.c.Mark c.p).op) rfl) 15 (.int .i64 (n.c.Mark c.p).di) rfl) 16 (.int .i64 (n.c.Mark c.p).wa) rfl) 17 (.slice u1 (n.c.Mark c.p).ts.length u2) rfl)
    have T10:Hid (aw w9 w10 [w.heap.size]):=by rw[hw10];exact Cy w9 w.heap.size 13 14 15 16 17 _ _ _ _ _
    have M10:Hid (aP w10 base (.slice a1 s.xs.length a2) (.slice b1 s.ys.length b2) (.slice k1 s.h.ks.length k2) (.slice u1 (n.c.Mark c.p).ts.length u2) (.slice zo n.s.ts.length zc) {n with xs:=s.xs,ys:=s.ys,h:=s.h,c:=n.c.Mark c.p}):=M9.out.turned T10.out HF9.out.p Fh;have V10:Hid (StB w10 g9 44 (anA an)/\w.heap.size+4<=g9):=⟨V9.out.1.turned T10.out (by simp;have:=V9.out.2;omega),V9.out.2⟩
    clear T10;go_upto_region 5 with fail
    rw[<-hw10];clear hw10 HF9 M9 V9 p13 f13 p14 f14 p15 f15 p16 f16 p17 f17;obtain⟨C,hCd⟩:=Fe (fun x=>iO w10 x)
    have HQ:Hid (∀x,C x->iO w10 x):=by rw[hCd];exact fun _ h=>h
    have HN:Hid (∀x y,C x->dQ x y->C y):=by rw[hCd];exact fun _ _ h b=>h.trans (b.mono h.size)
    have H0:Hid (C w10.drew):=by rw[hCd];exact(Below.refl _ _).drew
    have hne:Nonempty (Kin C):=⟨⟨_,H0.out⟩⟩
    clear hCd;refine du (fun a=>a.eval (.tmp 9)=.pointer (some ⟨g9,0,none⟩)) (fun x y=>x.grownBy y (some (w.heap.size+1+1))) (C:=C) (E:=iN fun _=>none) (R:=dQ) HN.out (dY (by intro d s hs;cases hs)) 1 _ _ (dZ _ _) Fi Fi Fi Fi Fg Fg rfl rfl rfl rfl rfl (xY Fi) rfl (fun a x y v ja cx dd hq=>iC GC _ rfl g9 ja (anA an) rfl (V10.out.1.below (HQ.out _ cx)) ((V10.out.1.below (HQ.out _ cx)).kept dd (by simp;have:=V10.out.2;omega)) hq) (fun _=>rfl) (fun a v=>execOp_put (ops:=#[]) _ (by intro cs b h;cases h) a _ v (by intro d hd;cases hd;decide)) H0.out ?_;refine dz GO rfl Fj _ rfl w.heap.size rfl (ndA (.slice a1 s.xs.length a2) (.slice b1 s.ys.length b2) (.slice k1 s.h.ks.length k2) (.slice u1 (n.c.Mark c.p).ts.length u2) (.slice zo n.s.ts.length zc) {n with xs:=s.xs,ys:=s.ys,h:=s.h,c:=n.c.Mark c.p}) rfl (fun y=>HF10.out.p.below (HQ.out _ y.h)) ?_;refine dz GC rfl Fj _ rfl g9 rfl (anA an) rfl (fun y=>V10.out.1.below (HQ.out _ y.h)) ?_;refine i8 (fun w16 hz=>?_);have bz:=HQ.out _ hz.1;refine gC GO _ _ rfl (w.heap.size+1+1) (ndA (.slice a1 s.xs.length a2) (.slice b1 s.ys.length b2) (.slice k1 s.h.ks.length k2) (.slice u1 (n.c.Mark c.p).ts.length u2) (.slice zo n.s.ts.length zc) {n with xs:=s.xs,ys:=s.ys,h:=s.h,c:=n.c.Mark c.p}) aA rfl rfl rfl rfl (cP _ rfl rfl rfl rfl rfl) (HF10.out.r.below bz) ?_;intro w17 s17 g17;refine⟨g17,?_⟩;refine fH GC rfl rfl _ _ rfl (w.heap.size+1+1+1) (anA an) (anA ⟨0,[]⟩) rfl rfl rfl rfl (aC _) ((HF10.out.ra.below bz).kept g17 Fg) ?_;intro w18 s18 g18;go_wp2_with fail
    refine bodyPost_ret (db rfl _ _ (w.heap.size+1+1) (w.heap.size+1+1+1) _ _ rfl rfl rfl rfl (s17.kept g18 Fg) s18) rfl ?_;rw[HX.out];have bb:=(HF10.out.below bz).b.grown g17 (HF10.out.below bz).b.size (fun k e=>by cases e;omega);exact⟨_,_,_,_,rfl,((M10.out.below bz).putBy (HF10.out.r.below bz) Fh g17).putBy ((HF10.out.ra.below bz).kept g17 Fg) Fh g18,bb.grown g18 bb.size (fun k e=>by cases e;omega)⟩
  ·have HX:Hid (x=({n with xs:=s.xs,ys:=s.ys,h:=s.h},an)):=by show x=_;rw[HE.out,if_neg (by simp[hst])]
   go_upto_region 5 with fail
   obtain⟨C,hCd⟩:=Fe (fun x=>iO w7 x)
   have HQ:Hid (∀x,C x->iO w7 x):=by rw[hCd];exact fun _ h=>h
   have HN:Hid (∀x y,C x->dQ x y->C y):=by rw[hCd];exact fun _ _ h b=>h.trans (b.mono h.size)
   have H0:Hid (C w7.drew):=by rw[hCd];exact(Below.refl _ _).drew
   have hne:Nonempty (Kin C):=⟨⟨_,H0.out⟩⟩
   clear hCd;refine du (fun a=>a.eval (.tmp 9)=.pointer (some ⟨g9,0,none⟩)) (fun x y=>x.grownBy y (some (w.heap.size+1+1))) (C:=C) (E:=iN fun _=>none) (R:=dQ) HN.out (dY (by intro d s hs;cases hs)) 1 _ _ (dZ _ _) Fi Fi Fi Fi Fg Fg rfl rfl rfl rfl rfl (xY Fi) rfl (fun a x y v ja cx dd hq=>iC GC _ rfl g9 ja (anA an) rfl (V7.out.1.below (HQ.out _ cx)) ((V7.out.1.below (HQ.out _ cx)).kept dd (by simp;have:=V7.out.2;omega)) hq) (fun _=>rfl) (fun a v=>execOp_put (ops:=#[]) _ (by intro cs b h;cases h) a _ v (by intro d hd;cases hd;decide)) H0.out ?_;refine dz GO rfl Fj _ rfl w.heap.size rfl (ndA (.slice a1 s.xs.length a2) (.slice b1 s.ys.length b2) (.slice k1 s.h.ks.length k2) (.slice qo n.c.ts.length qc) (.slice zo n.s.ts.length zc) {n with xs:=s.xs,ys:=s.ys,h:=s.h}) rfl (fun y=>HF7.out.p.below (HQ.out _ y.h)) ?_;refine dz GC rfl Fj _ rfl g9 rfl (anA an) rfl (fun y=>V7.out.1.below (HQ.out _ y.h)) ?_;refine i8 (fun w16 hz=>?_);have bz:=HQ.out _ hz.1;refine gC GO _ _ rfl (w.heap.size+1+1) (ndA (.slice a1 s.xs.length a2) (.slice b1 s.ys.length b2) (.slice k1 s.h.ks.length k2) (.slice qo n.c.ts.length qc) (.slice zo n.s.ts.length zc) {n with xs:=s.xs,ys:=s.ys,h:=s.h}) aA rfl rfl rfl rfl (cP _ rfl rfl rfl rfl rfl) (HF7.out.r.below bz) ?_;intro w17 s17 g17;refine⟨g17,?_⟩;refine fH GC rfl rfl _ _ rfl (w.heap.size+1+1+1) (anA an) (anA ⟨0,[]⟩) rfl rfl rfl rfl (aC _) ((HF7.out.ra.below bz).kept g17 Fg) ?_;intro w18 s18 g18;go_wp2_with fail
   refine bodyPost_ret (db rfl _ _ (w.heap.size+1+1) (w.heap.size+1+1+1) _ _ rfl rfl rfl rfl (s17.kept g18 Fg) s18) rfl ?_;rw[HX.out];have bb:=(HF7.out.below bz).b.grown g17 (HF7.out.below bz).b.size (fun k e=>by cases e;omega);exact⟨_,_,_,_,rfl,((M7.out.below bz).putBy (HF7.out.r.below bz) Fh g17).putBy ((HF7.out.ra.below bz).kept g17 Fg) Fh g18,bb.grown g18 bb.size (fun k e=>by cases e;omega)⟩
end Go.Proofs.YthldeiojlllkdaaGreatDoor
