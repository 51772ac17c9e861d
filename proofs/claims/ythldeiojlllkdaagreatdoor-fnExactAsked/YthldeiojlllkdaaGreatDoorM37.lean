/- A house that is asked, by the program: Asked. -/
import Derived.Test.YthldeiojlllkdaaGreatDoorM1
import Derived.Test.YthldeiojlllkdaaGreatDoorM36
import Derived.Test.YthldeiojlllkdaaGreatDoorM15
import Derived.Test.YthldeiojlllkdaaGreatDoorM31
import Derived.Test.YthldeiojlllkdaaGreatDoorM24
import Derived.Test.YthldeiojlllkdaaGreatDoorM17
import Derived.LaidMore
import Derived.Stop.Joined
import Derived.Stop.LaidErr
import Derived.Lib.LaidTab
import Derived.ProofKit
import Derived.Test.YthldeiojlllkdaaGreatDoorM34
import Derived.LaidHandle
import Derived.OpenVars
import Derived.Lay
import Derived.Lib.LaidIn
set_option maxRecDepth 20000
set_option maxHeartbeats 8000000
namespace Go.Proofs.YthldeiojlllkdaaGreatDoor
open Go.ChangeShapes Go.WideShapes Go.ChangeAt Go.RowKit
def Nd.askP (n:Nd) (who:Int) (b:Bs):Nd×An:=
 if n.ok then(if n.up&&inI who 0 3 then(if aN b=0 then(if n.r.s=2 then(n,⟨5,[]⟩)else if n.r.s=3 then(n,⟨6,[]⟩)else n.cmd who (ax b))else(n,⟨4,bV (aN b)⟩))else(n,⟨7,[]⟩))else(Nd.zero,⟨7,[]⟩)
structure AnS (w wx:World) (cs:Array Value):Prop where
 p:StB wx w.heap.size 42 cs
 r:StB wx (w.heap.size+1) 42 aA
 ra:StB wx (w.heap.size+1+1) 44 (anA ⟨0,[]⟩)
 b:bB w wx
theorem AnS.start (w:World) (cs:Array Value):AnS w (((w.alloc (.cells cs 42)).alloc (.cells aA 42)).alloc (.cells (anA ⟨0,[]⟩) 44)) cs:=by
 have r2:=StB.new (w.alloc (.cells cs 42)) 42 aA;rw[World.size_alloc]at r2;have r3:=StB.new ((w.alloc (.cells cs 42)).alloc (.cells aA 42)) 44 (anA ⟨0,[]⟩);rw[World.size_alloc,World.size_alloc]at r3;exact⟨((StB.new w _ _).alloc _).alloc _,r2.alloc _,r3,(bA.alloc (by simp) _).alloc (by simp;omega) _⟩
theorem AnS.below {w wx wy:World} {cs:Array Value} (h:AnS w wx cs) (B:bB wx wy):AnS w wy cs:=⟨h.p.below B,h.r.below B,h.ra.below B,h.b.trans (B.mono h.b.size)⟩
theorem AnS.lt {w wx:World} {cs:Array Value} (h:AnS w wx cs):w.heap.size+3<=wx.heap.size:=h.ra.lt
theorem AnS.fin {w wx wy wz:World} {cs:Array Value} {a b k q z:Value} {n:Nd} (h:AnS w wx cs) (o:aO wx (w.heap.size+3) a b k q z n) (g1:wx.grownBy wy (some (w.heap.size+1))) (g2:wy.grownBy wz (some (w.heap.size+1+1))):aO wz w.heap.size a b k q z n/\bB w wz:=by
 have b1:=h.b.grown g1 h.b.size (fun k e=>by cases e;omega);exact⟨((o.keptLt g1 (by omega)).keptLt g2 (by omega)).mono (by omega),b1.grown g2 b1.size (fun k e=>by cases e;omega)⟩
theorem yb {a b k q z a' b' k' q' z':Value} {n:Nd} (h:ndA a b k q z n=ndA a' b' k' q' z' n):a=a'/\b=b'/\k=k'/\q=q'/\z=z':=by
 simp only[ndA]at h;have g:∀j:Nat,_:=fun j=>congrArg (fun cs:Array Value=>cs[j]?) h
 have h2:=g 2;have h3:=g 3;have h4:=g 4;have h17:=g 17;have h19:=g 19;simp at h2 h3 h4 h17 h19;exact⟨h2,h3,h4,h17,h19⟩
def mnG (m:Nat) (n:Nd):dP:=
 ⟨fun u=>∃a1 a2 b1 b2 k1 k2 q1 q2 z1 z2,u=.agg (ndA (.slice a1 n.xs.length a2) (.slice b1 n.ys.length b2) (.slice k1 n.h.ks.length k2) (.slice q1 n.c.ts.length q2) (.slice z1 n.s.ts.length z2) n),
  fun u w=>∃a b k q z,u=.agg (ndA a b k q z n)/\aO w m a b k q z n⟩
theorem zh {m:Nat} {n:Nd} {u:Value} {x y:World} (hx:(mnG m n).F u x) (hl:dQ x y):(mnG m n).F u y:=by
 obtain⟨a,b,k,q,z,e,h⟩:=hx;exact⟨a,b,k,q,z,e,h.below hl⟩
theorem DY {m:Nat} {n:Nd} {a b k q z:Value} {w:World} (h:(mnG m n).F (.agg (ndA a b k q z n)) w):aO w m a b k q z n:=by
 obtain⟨a',b',k',q',z',e,h⟩:=h;obtain⟨rfl,rfl,rfl,rfl,rfl⟩:=yb (congrArg (fun v=>match v with| .agg cs=>cs|_=>#[]) e);exact h
theorem DZ {P:Program} {f:FuncId} {args:Array Value} {w:World} {m:Nat} {n:Nd} (hm:m<=w.heap.size) (h:Calls P f args w fun e w'=>∃a b k q z,e=.returned (.agg (ndA a b k q z n))/\aO w' w.heap.size a b k q z n/\bB w w'):Calls P f args w (fun e w''=>∃u,e=.returned u/\(mnG m n).V u/\(mnG m n).F u w''/\dQ w w''):=by
 refine h.mono ?_;rintro e w' ⟨a,b,k,q,z,rfl,o,bl⟩;obtain⟨a1,a2,rfl⟩:=aa o.reads.ra;obtain⟨b1,b2,rfl⟩:=aa o.reads.rb;obtain⟨k1,k2,rfl⟩:=aa o.reads.rk;obtain⟨q1,q2,rfl⟩:=aa o.reads.rq;obtain⟨z1,z2,rfl⟩:=aa o.reads.rz;exact⟨_,rfl,⟨a1,a2,b1,b2,k1,k2,q1,q2,z1,z2,rfl⟩,⟨_,_,_,_,_,rfl,o.mono hm⟩,bl⟩
def cmG (m:Nat) (y:Nd×An):dP:=
 ⟨fun u=>∃a1 a2 b1 b2 k1 k2 q1 q2 z1 z2,u=.tuple #[.agg (ndA (.slice a1 y.1.xs.length a2) (.slice b1 y.1.ys.length b2) (.slice k1 y.1.h.ks.length k2) (.slice q1 y.1.c.ts.length q2) (.slice z1 y.1.s.ts.length z2) y.1),.agg (anA y.2)],
  fun u w=>∃a b k q z,u=.tuple #[.agg (ndA a b k q z y.1),.agg (anA y.2)]/\aO w m a b k q z y.1⟩
theorem zi {m:Nat} {n:Nd×An} {u:Value} {x y:World} (hx:(cmG m n).F u x) (hl:dQ x y):(cmG m n).F u y:=by
 obtain⟨a,b,k,q,z,e,h⟩:=hx;exact⟨a,b,k,q,z,e,h.below hl⟩
theorem D0 {m:Nat} {y:Nd×An} {a b k q z:Value} {w:World} (h:(cmG m y).F (.tuple #[.agg (ndA a b k q z y.1),.agg (anA y.2)]) w):aO w m a b k q z y.1:=by
 obtain⟨a',b',k',q',z',e,h⟩:=h;have e':ndA a b k q z y.1=ndA a' b' k' q' z' y.1:=by
  injection e with e1;have e2:=congrArg (fun vs:Array Value=>vs[0]?) e1;simp only[List.getElem?_toArray,List.getElem?_cons_zero,Option.some.injEq]at e2;injection e2
 obtain⟨rfl,rfl,rfl,rfl,rfl⟩:=yb e';exact h
theorem D5 {P:Program} {f:FuncId} {args:Array Value} {w:World} {m:Nat} {y:Nd×An} {z:Value} (h:Calls P f args w fun e w'=>∃a b k q,e=.returned (.tuple #[.agg (ndA a b k q z y.1),.agg (anA y.2)])/\aO w' m a b k q z y.1/\bB w w'):Calls P f args w (fun e w''=>∃u,e=.returned u/\(cmG m y).V u/\(cmG m y).F u w''/\dQ w w''):=by
 refine h.mono ?_;rintro e w' ⟨a,b,k,q,rfl,o,bl⟩;obtain⟨a1,a2,rfl⟩:=aa o.reads.ra;obtain⟨b1,b2,rfl⟩:=aa o.reads.rb;obtain⟨k1,k2,rfl⟩:=aa o.reads.rk;obtain⟨q1,q2,rfl⟩:=aa o.reads.rq;obtain⟨z1,z2,rfl⟩:=aa o.reads.rz;exact⟨_,rfl,⟨a1,a2,b1,b2,k1,k2,q1,q2,z1,z2,rfl⟩,⟨_,_,_,_,_,rfl,o⟩,bl⟩
theorem AY (cd:Int) (w:World) (h0: -9223372036854775808<=cd) (h1:cd<=9223372036854775807) (ht:Tab w):
  Calls Tryz.prog 28 #[.int .i64 cd] w fun e w'=>e=.returned (AV ⟨4,bV cd⟩)/\bB w w':=by
 have CH:Hid (∀u' wx,ag wx u' [cd]->bB w wx->Calls Tryz.prog 76 #[u'] wx fun e w'=>e=.returned (S (bV cd))/\bB wx w'):=fun u' wx hr B=>by
  have:=gI u' [cd] wx hr (by simp) (by simp) (by intro x hx;simp at hx;subst hx;omega) (ht.below B);rw[oF]at this;exact this
 obtain⟨tx,htx⟩:=eX (bV cd)
 rw[<-htx]at CH⊢;clear htx ht h0 h1;obtain⟨w1,hw1⟩:=eX (w.alloc (.cells (anA ⟨0,[]⟩) 44))
 have H1:Hid (StB w1 w.heap.size 44 (anA ⟨0,[]⟩)/\bB w w1):=by rw[hw1];exact⟨StB.new _ _ _,bA⟩
 unfold anA S at hw1;unfold AV;unfold S at CH;go_enter Tryz.func28,Tryz.ntmps28;go_upto_region 1 with fail
 rw[<-hw1];clear hw1;go_wp2_with fail
 have b9:bB w1 (w1.alloc (.cells #[.int .i64 cd] 2)):=bA;refine(CH.out _ _ (sy w1 cd).reads (H1.out.2.trans (b9.mono H1.out.2.size))).mono ?_;rintro e w3 ⟨rfl,b3⟩;have H3:Hid (StB w3 w.heap.size 44 (anA ⟨0,[]⟩)/\bB w w3):=⟨(H1.out.1.below b9).below b3,H1.out.2.trans ((b9.trans (b3.mono b9.size)).mono H1.out.2.size)⟩
 clear b3 b9 CH H1;go_wp2_with (refine ae Tryz.isA rfl _ _ rfl w.heap.size (anA ⟨4,tx⟩) (anA ⟨0,[]⟩) rfl rfl rfl rfl (aB _) H3.out.1 ?_;intro w5 s5 g5)
 refine bodyPost_ret (aj Tryz.isA rfl _ _ w.heap.size _ rfl rfl s5) rfl ?_;exact⟨rfl,H3.out.2.grown g5 H3.out.2.size (fun k e=>by cases e;omega)⟩
theorem wb (a b k q z:Value) (n:Nd) (i:Int) (bs:Bs) (w:World) (hr:RdN w a b k q z n) (hl:SmN n) (hb:bs.length<=1048576) (ht:nj w):
  Calls Tryz.prog 7 #[NdV a b k q z n,.int .i64 i,S bs] w fun e w'=>∃a' b' k' q' z',e=.returned (.tuple #[NdV a' b' k' q' z' (n.askP i bs).1,AV (n.askP i bs).2])/\aO w' w.heap.size a' b' k' q' z' (n.askP i bs).1/\bB w w':=by
 have HR:Hid (∀wx,bB w wx->RdN wx a b k q z n):=fun wx B=>hr.below B
 have CN:Hid (∀wx,bB w wx->Calls Tryz.prog 24 #[NdV a b k q z n] wx fun e w'=>e=.returned (.bool n.ok)/\bB wx w'):=fun wx B=>tP a b k q z n wx (HR.out wx B) hl (ht.1.below B)
 have CF:Hid (n.ok=true->∀wx,bB w wx->Calls Tryz.prog 27 #[NdV a b k q z n] wx fun e w'=>∃a' b' k' q' z',e=.returned (NdV a' b' k' q' z' n)/\aO w' wx.heap.size a' b' k' q' z' n/\bB wx w'):=fun ok wx B=>by
  have h:=((Nd.ok_iff n).1 ok).small;exact tQ a b k q z n wx (HR.out wx B) hl h.1 h.2.1 h.2.2
 have CR:Hid (∀wx,Calls Tryz.prog 25 #[S bs] wx fun e w'=>e=.returned (.tuple #[CV (ax bs),.int .i64 (aN bs)])/\bB wx w'):=fun wx=>vL bs wx hb
 have CP:Hid (∀wx,Calls Tryz.prog 26 #[.int .i64 i] wx fun e w'=>e=.returned (.bool (inI i 0 3))/\w'=wx):=fun wx=>cO i wx
 have CH:Hid (∀wx,bB w wx->Calls Tryz.prog 28 #[.int .i64 (aN bs)] wx fun e w'=>e=.returned (AV ⟨4,bV (aN bs)⟩)/\bB wx w'):=fun wx B=>AY (aN bs) wx (by rcases hP bs with h|h|h|h<;>omega) (by rcases hP bs with h|h|h|h<;>omega) (ht.1.below B)
 have CC:Hid (∀wx a b k q z,bB w wx->∀base,base<=wx.heap.size->aO wx base a b k q z n->Calls Tryz.prog 29 #[NdV a b k q z n,.int .i64 i,CV (ax bs)] wx fun e w'=>∃a' b' k' q',e=.returned (.tuple #[NdV a' b' k' q' z (n.cmd i (ax bs)).1,AV (n.cmd i (ax bs)).2])/\aO w' base a' b' k' q' z (n.cmd i (ax bs)).1/\bB wx w'):=fun wx a b k q z B base hb hm=>zg a b k q z n i (ax bs) wx base hm hb hl (ht.below B)
 have HE:Hid (n.askP i bs=if n.ok then(if n.up&&inI i 0 3 then(if aN bs=0 then(if n.r.s=2 then(n,⟨5,[]⟩)else if n.r.s=3 then(n,⟨6,[]⟩)else n.cmd i (ax bs))else(n,⟨4,bV (aN bs)⟩))else(n,⟨7,[]⟩))else(Nd.zero,⟨7,[]⟩)):=rfl;obtain⟨x,hx⟩:=eX (n.askP i bs)
 rw[<-hx]at HE⊢;clear hx;obtain⟨y,hy⟩:=eX (n.cmd i (ax bs))
 rw[<-hy]at HE CC;clear hy;obtain⟨cd,hcd⟩:=eX (aN bs)
 rw[<-hcd]at HE CR CH;clear hcd;obtain⟨c,hc⟩:=eX (ax bs)
 rw[<-hc]at CC CR;clear hc;obtain⟨tx,htx⟩:=eX (bV cd)
 rw[<-htx]at HE CH;clear htx;obtain⟨io,hio⟩:=eX (inI i 0 3)
 rw[<-hio]at HE CP;clear hio;obtain⟨ao,ac,rfl⟩:=aa hr.ra;obtain⟨bo,bc,rfl⟩:=aa hr.rb;obtain⟨ko,kc,rfl⟩:=aa hr.rk;obtain⟨qo,qc,rfl⟩:=aa hr.rq;obtain⟨zo,zc,rfl⟩:=aa hr.rz;obtain⟨w1,hw1⟩:=eX (((w.alloc (.cells (ndA (.slice ao n.xs.length ac) (.slice bo n.ys.length bc) (.slice ko n.h.ks.length kc) (.slice qo n.c.ts.length qc) (.slice zo n.s.ts.length zc) n) 42)).alloc (.cells aA 42)).alloc (.cells (anA ⟨0,[]⟩) 44))
 have HF:Hid (AnS w w1 (ndA (.slice ao n.xs.length ac) (.slice bo n.ys.length bc) (.slice ko n.h.ks.length kc) (.slice qo n.c.ts.length qc) (.slice zo n.s.ts.length zc) n)):=by rw[hw1];exact AnS.start w _
 clear hr HR hl ht hb;unfold ndA aA anA S at hw1;unfold NdV at CN CF CC⊢;unfold CV AV at CC;unfold AV at CH;unfold CV cmA S at CR;unfold S at⊢;conv in ndA (.slice ao n.xs.length ac) _ _ _ _ _=>unfold ndA S
 go_enter Tryz.func7,Tryz.ntmps7;go_upto_region 1 with fail
 rw[<-hw1];clear hw1;go_wp2_with (refine ah Tryz.isNd rfl _ rfl w.heap.size rfl (ndA (.slice ao n.xs.length ac) (.slice bo n.ys.length bc) (.slice ko n.h.ks.length kc) (.slice qo n.c.ts.length qc) (.slice zo n.s.ts.length zc) n) rfl HF.out.p ?_)
 refine(CN.out w1 HF.out.b).mono ?_;rintro e w2 ⟨rfl,b2⟩;replace HF:Hid (AnS w w2 (ndA (.slice ao n.xs.length ac) (.slice bo n.ys.length bc) (.slice ko n.h.ks.length kc) (.slice qo n.c.ts.length qc) (.slice zo n.s.ts.length zc) n)):=HF.out.below b2;clear b2 CN;cases hk:n.ok with
 |false=>
  have HX:Hid (x=(Nd.zero,⟨7,[]⟩)):=by rw[Hid,HE.out,hk];rfl
  clear HE CF CR CP CH CC hk;go_wp2_with (first|(refine ae Tryz.isNd rfl _ _ rfl (w.heap.size+1) aA aA rfl rfl rfl rfl pf HF.out.r ?_;intro w19 s19 g19)|(refine ae Tryz.isA rfl _ _ rfl (w.heap.size+1+1) (anA ⟨7,[]⟩) (anA ⟨0,[]⟩) rfl rfl rfl rfl (aB _) (HF.out.ra.kept g19 (by simp)) ?_;intro w20 s20 g20))
  refine bodyPost_ret (cZ rfl _ _ (w.heap.size+1) (w.heap.size+1+1) _ _ rfl rfl rfl rfl (s19.kept g20 (by simp)) s20) rfl ?_;rw[HX.out];exact⟨_,_,_,_,_,rfl,HF.out.fin (aO.nil _ _) g19 g20⟩
 |true=>
  have HK:Hid (n.ok=true):=hk;have HX:Hid (x=if n.up&&io then(if cd=0 then(if n.r.s=2 then(n,⟨5,[]⟩)else if n.r.s=3 then(n,⟨6,[]⟩)else y)else(n,⟨4,tx⟩))else(n,⟨7,[]⟩)):=by rw[Hid,HE.out,hk];rfl
  clear HE hk;go_wp2_with fail
  refine(CR.out w2).mono ?_;rintro e w3 ⟨rfl,b3⟩;obtain⟨w4,hw4⟩:=eX (w3.alloc (.cells (cmA c) 66))
  have b4:bB w3 w4:=by rw[hw4];exactbA
  replace HF:Hid (AnS w w4 (ndA (.slice ao n.xs.length ac) (.slice bo n.ys.length bc) (.slice ko n.h.ks.length kc) (.slice qo n.c.ts.length qc) (.slice zo n.s.ts.length zc) n)):=(HF.out.below b3).below b4;have V:Hid (StB w4 w3.heap.size 66 (cmA c)):=by rw[hw4];exact StB.new _ _ _
  unfold cmA at hw4;go_upto_region 4 with fail
  rw[<-hw4];clear hw4 b3 b4 CR;obtain⟨g8,hg8⟩:=eX w3.heap.size
  rw[<-hg8]at V⊢;clear hg8;have p1:w4.cell? ⟨w.heap.size,1,none⟩=some (.bool n.up):=HF.out.p.cell 1 rfl;cases hu:n.up with
  |false=>
   have HY:Hid (x=(n,⟨7,[]⟩)):=by rw[Hid,HX.out,hu];rfl
   rw[hu]at p1;clear HX hu CC CH CP;go_upto_region 5 with fail
   clear p1;go_wp2_with (refine ah Tryz.isNd rfl _ rfl w.heap.size rfl (ndA (.slice ao n.xs.length ac) (.slice bo n.ys.length bc) (.slice ko n.h.ks.length kc) (.slice qo n.c.ts.length qc) (.slice zo n.s.ts.length zc) n) rfl HF.out.p ?_)
   refine(CF.out HK.out w4 HF.out.b).mono ?_;rintro e w9 ⟨a',b',k',q',z',rfl,o3,b3⟩;obtain⟨a1,a2,rfl⟩:=aa o3.reads.ra;obtain⟨b1,b2,rfl⟩:=aa o3.reads.rb;obtain⟨k1,k2,rfl⟩:=aa o3.reads.rk;obtain⟨q1,q2,rfl⟩:=aa o3.reads.rq;obtain⟨z1,z2,rfl⟩:=aa o3.reads.rz;have O:Hid (aO w9 (w.heap.size+3) (.slice a1 n.xs.length a2) (.slice b1 n.ys.length b2) (.slice k1 n.h.ks.length k2) (.slice q1 n.c.ts.length q2) (.slice z1 n.s.ts.length z2) n):=o3.mono HF.out.lt;replace HF:Hid (AnS w w9 (ndA (.slice ao n.xs.length ac) (.slice bo n.ys.length bc) (.slice ko n.h.ks.length kc) (.slice qo n.c.ts.length qc) (.slice zo n.s.ts.length zc) n)):=HF.out.below b3;clear o3 b3 CF;go_wp2_with (first|(refine ae Tryz.isNd rfl _ _ rfl (w.heap.size+1) (ndA (.slice a1 n.xs.length a2) (.slice b1 n.ys.length b2) (.slice k1 n.h.ks.length k2) (.slice q1 n.c.ts.length q2) (.slice z1 n.s.ts.length z2) n) aA rfl rfl rfl rfl (dj _ rfl rfl rfl rfl rfl) HF.out.r ?_;intro w19 s19 g19)|(refine ae Tryz.isA rfl _ _ rfl (w.heap.size+1+1) (anA ⟨7,[]⟩) (anA ⟨0,[]⟩) rfl rfl rfl rfl (aB _) (HF.out.ra.kept g19 (by simp)) ?_;intro w20 s20 g20))
   refine bodyPost_ret (cZ rfl _ _ (w.heap.size+1) (w.heap.size+1+1) _ _ rfl rfl rfl rfl (s19.kept g20 (by simp)) s20) rfl ?_;rw[HY.out];exact⟨_,_,_,_,_,rfl,HF.out.fin O.out g19 g20⟩
  |true=>
   rw[hu]at p1;replace HX:Hid (x=if io then(if cd=0 then(if n.r.s=2 then(n,⟨5,[]⟩)else if n.r.s=3 then(n,⟨6,[]⟩)else y)else(n,⟨4,tx⟩))else(n,⟨7,[]⟩)):=by rw[Hid,HX.out,hu];rfl
   clear hu;go_wp2_with fail
   refine mo (CP.out w4) ?_;clear CP;cases io with
   |false=>
    have HY:Hid (x=(n,⟨7,[]⟩)):=HX.out;clear HX CC CH;go_upto_region 5 with fail
    clear p1;go_wp2_with (refine ah Tryz.isNd rfl _ rfl w.heap.size rfl (ndA (.slice ao n.xs.length ac) (.slice bo n.ys.length bc) (.slice ko n.h.ks.length kc) (.slice qo n.c.ts.length qc) (.slice zo n.s.ts.length zc) n) rfl HF.out.p ?_)
    refine(CF.out HK.out w4 HF.out.b).mono ?_;rintro e w9 ⟨a',b',k',q',z',rfl,o3,b3⟩;obtain⟨a1,a2,rfl⟩:=aa o3.reads.ra;obtain⟨b1,b2,rfl⟩:=aa o3.reads.rb;obtain⟨k1,k2,rfl⟩:=aa o3.reads.rk;obtain⟨q1,q2,rfl⟩:=aa o3.reads.rq;obtain⟨z1,z2,rfl⟩:=aa o3.reads.rz;have O:Hid (aO w9 (w.heap.size+3) (.slice a1 n.xs.length a2) (.slice b1 n.ys.length b2) (.slice k1 n.h.ks.length k2) (.slice q1 n.c.ts.length q2) (.slice z1 n.s.ts.length z2) n):=o3.mono HF.out.lt;replace HF:Hid (AnS w w9 (ndA (.slice ao n.xs.length ac) (.slice bo n.ys.length bc) (.slice ko n.h.ks.length kc) (.slice qo n.c.ts.length qc) (.slice zo n.s.ts.length zc) n)):=HF.out.below b3;clear o3 b3 CF;go_wp2_with (first|(refine ae Tryz.isNd rfl _ _ rfl (w.heap.size+1) (ndA (.slice a1 n.xs.length a2) (.slice b1 n.ys.length b2) (.slice k1 n.h.ks.length k2) (.slice q1 n.c.ts.length q2) (.slice z1 n.s.ts.length z2) n) aA rfl rfl rfl rfl (dj _ rfl rfl rfl rfl rfl) HF.out.r ?_;intro w19 s19 g19)|(refine ae Tryz.isA rfl _ _ rfl (w.heap.size+1+1) (anA ⟨7,[]⟩) (anA ⟨0,[]⟩) rfl rfl rfl rfl (aB _) (HF.out.ra.kept g19 (by simp)) ?_;intro w20 s20 g20))
    refine bodyPost_ret (cZ rfl _ _ (w.heap.size+1) (w.heap.size+1+1) _ _ rfl rfl rfl rfl (s19.kept g20 (by simp)) s20) rfl ?_;rw[HY.out];exact⟨_,_,_,_,_,rfl,HF.out.fin O.out g19 g20⟩
   |true=>
    replace HX:Hid (x=(if cd=0 then(if n.r.s=2 then(n,⟨5,[]⟩)else if n.r.s=3 then(n,⟨6,[]⟩)else y)else(n,⟨4,tx⟩))):=HX.out;by_cases hcd:cd=0
    ·clear CH
     replace HX:Hid (x=(if n.r.s=2 then(n,⟨5,[]⟩)else if n.r.s=3 then(n,⟨6,[]⟩)else y)):=by rw[Hid,HX.out,if_pos hcd]
     have p10:w4.cell? ⟨w.heap.size,10,none⟩=some (.int .i64 n.r.s):=HF.out.p.cell 10 rfl;by_cases h2:n.r.s=2
     ·have HY:Hid (x=(n,⟨5,[]⟩)):=by rw[Hid,HX.out,if_pos h2]
      rw[h2]at p10;clear HX CC;go_upto_region 9 with fail
      clear p1 p10 h2;go_wp2_with (refine ah Tryz.isNd rfl _ rfl w.heap.size rfl (ndA (.slice ao n.xs.length ac) (.slice bo n.ys.length bc) (.slice ko n.h.ks.length kc) (.slice qo n.c.ts.length qc) (.slice zo n.s.ts.length zc) n) rfl HF.out.p ?_)
      refine(CF.out HK.out w4 HF.out.b).mono ?_;rintro e w9 ⟨a',b',k',q',z',rfl,o3,b3⟩;obtain⟨a1,a2,rfl⟩:=aa o3.reads.ra;obtain⟨b1,b2,rfl⟩:=aa o3.reads.rb;obtain⟨k1,k2,rfl⟩:=aa o3.reads.rk;obtain⟨q1,q2,rfl⟩:=aa o3.reads.rq;obtain⟨z1,z2,rfl⟩:=aa o3.reads.rz;have O:Hid (aO w9 (w.heap.size+3) (.slice a1 n.xs.length a2) (.slice b1 n.ys.length b2) (.slice k1 n.h.ks.length k2) (.slice q1 n.c.ts.length q2) (.slice z1 n.s.ts.length z2) n):=o3.mono HF.out.lt;replace HF:Hid (AnS w w9 (ndA (.slice ao n.xs.length ac) (.slice bo n.ys.length bc) (.slice ko n.h.ks.length kc) (.slice qo n.c.ts.length qc) (.slice zo n.s.ts.length zc) n)):=HF.out.below b3;clear o3 b3 CF;go_wp2_with (first|(refine ae Tryz.isNd rfl _ _ rfl (w.heap.size+1) (ndA (.slice a1 n.xs.length a2) (.slice b1 n.ys.length b2) (.slice k1 n.h.ks.length k2) (.slice q1 n.c.ts.length q2) (.slice z1 n.s.ts.length z2) n) aA rfl rfl rfl rfl (dj _ rfl rfl rfl rfl rfl) HF.out.r ?_;intro w19 s19 g19)|(refine ae Tryz.isA rfl _ _ rfl (w.heap.size+1+1) (anA ⟨5,[]⟩) (anA ⟨0,[]⟩) rfl rfl rfl rfl (aB _) (HF.out.ra.kept g19 (by simp)) ?_;intro w20 s20 g20))
      refine bodyPost_ret (cZ rfl _ _ (w.heap.size+1) (w.heap.size+1+1) _ _ rfl rfl rfl rfl (s19.kept g20 (by simp)) s20) rfl ?_;rw[HY.out];exact⟨_,_,_,_,_,rfl,HF.out.fin O.out g19 g20⟩
     by_cases h3:n.r.s=3
     ·have HY:Hid (x=(n,⟨6,[]⟩)):=by rw[Hid,HX.out,if_neg h2,if_pos h3]
      rw[h3]at p10;clear HX CC;go_upto_region 11 with fail
      clear p1 p10 h2 h3;go_wp2_with (refine ah Tryz.isNd rfl _ rfl w.heap.size rfl (ndA (.slice ao n.xs.length ac) (.slice bo n.ys.length bc) (.slice ko n.h.ks.length kc) (.slice qo n.c.ts.length qc) (.slice zo n.s.ts.length zc) n) rfl HF.out.p ?_)
      refine(CF.out HK.out w4 HF.out.b).mono ?_;rintro e w9 ⟨a',b',k',q',z',rfl,o3,b3⟩;obtain⟨a1,a2,rfl⟩:=aa o3.reads.ra;obtain⟨b1,b2,rfl⟩:=aa o3.reads.rb;obtain⟨k1,k2,rfl⟩:=aa o3.reads.rk;obtain⟨q1,q2,rfl⟩:=aa o3.reads.rq;obtain⟨z1,z2,rfl⟩:=aa o3.reads.rz;have O:Hid (aO w9 (w.heap.size+3) (.slice a1 n.xs.length a2) (.slice b1 n.ys.length b2) (.slice k1 n.h.ks.length k2) (.slice q1 n.c.ts.length q2) (.slice z1 n.s.ts.length z2) n):=o3.mono HF.out.lt;replace HF:Hid (AnS w w9 (ndA (.slice ao n.xs.length ac) (.slice bo n.ys.length bc) (.slice ko n.h.ks.length kc) (.slice qo n.c.ts.length qc) (.slice zo n.s.ts.length zc) n)):=HF.out.below b3;clear o3 b3 CF;go_wp2_with (first|(refine ae Tryz.isNd rfl _ _ rfl (w.heap.size+1) (ndA (.slice a1 n.xs.length a2) (.slice b1 n.ys.length b2) (.slice k1 n.h.ks.length k2) (.slice q1 n.c.ts.length q2) (.slice z1 n.s.ts.length z2) n) aA rfl rfl rfl rfl (dj _ rfl rfl rfl rfl rfl) HF.out.r ?_;intro w19 s19 g19)|(refine ae Tryz.isA rfl _ _ rfl (w.heap.size+1+1) (anA ⟨6,[]⟩) (anA ⟨0,[]⟩) rfl rfl rfl rfl (aB _) (HF.out.ra.kept g19 (by simp)) ?_;intro w20 s20 g20))
      refine bodyPost_ret (cZ rfl _ _ (w.heap.size+1) (w.heap.size+1+1) _ _ rfl rfl rfl rfl (s19.kept g20 (by simp)) s20) rfl ?_;rw[HY.out];exact⟨_,_,_,_,_,rfl,HF.out.fin O.out g19 g20⟩
     have HY:Hid (x=y):=by rw[Hid,HX.out,if_neg h2,if_neg h3]
     clear HX;go_upto_region 12 with fail
     clear p1 p10 h2 h3 hcd;obtain⟨C,hCd⟩:=eX (fun x=>bB w4 x)
     have HQ:Hid (∀x,C x->bB w4 x):=by rw[hCd];exact fun _ h=>h
     have HN:Hid (∀x y,C x->dQ x y->C y):=by rw[hCd];exact fun _ _ h b=>h.trans (b.mono h.size)
     have H0:Hid (C w4.drew):=by rw[hCd];exact(Below.refl _ _).drew
     have hne:Nonempty (Kin C):=⟨⟨_,H0.out⟩⟩
     clear hCd;refine eY (C:=C) (E:=iM fun d=>if d=56 then some (mnG w4.heap.size n)else if d=59 then some (cmG w4.heap.size y)else none) (R:=dQ) HN.out (dY (by intro d s hs u x y hx hl;split at hs;(cases hs;exact zh hx hl);split at hs;(cases hs;exact zi hx hl);cases hs)) 6 _ _ (dZ _ _) (by kernel_rfl) (by kernel_rfl) (by kernel_rfl) (by kernel_rfl) (by simp) (by simp) rfl rfl rfl rfl rfl rfl (fun _=>rfl) (fun a v=>execOp_put (ops:=#[]) _ (by intro cs b h;cases h) a _ v (by intro d hd;cases hd;decide)) H0.out ?_;refine dz Tryz.isNd rfl (by first|rfl|kernel_rfl) _ rfl w.heap.size rfl (ndA (.slice ao n.xs.length ac) (.slice bo n.ys.length bc) (.slice ko n.h.ks.length kc) (.slice qo n.c.ts.length qc) (.slice zo n.s.ts.length zc) n) rfl (fun y=>HF.out.p.below (HQ.out _ y.h)) ?_;refine fp (mnG w4.heap.size n) rfl (by first|rfl|kernel_rfl) (fun wq hB=>?_) (fun uq hu=>?_)
     ·go_simp
      refine⟨rfl,?_⟩;exact DZ (HQ.out _ hB.1).size (CF.out HK.out _ (HF.out.b.trans ((HQ.out _ hB.1).mono HF.out.b.size)))
     obtain⟨a1,a2,b1,b2,k1,k2,q1,q2,z1,z2,rfl⟩:=hu;iterate 1 (refine eP rfl (fun K hK=>?_);go_simp;refine hK _ ?_;clear hK K)
     refine dz nQ rfl (by first|rfl|kernel_rfl) _ rfl g8 rfl (cmA c) rfl (fun y=>V.out.below (HQ.out _ y.h)) ?_;refine fp (cmG w4.heap.size y) rfl (by first|rfl|kernel_rfl) (fun wq hB=>?_) (fun uq hu=>?_)
     ·have f58:=DY (hB.at0 (by first|rfl|kernel_rfl))
      have hq1:=(HQ.out _ hB.1).size;have hq2:=HF.out.b.trans ((HQ.out _ hB.1).mono HF.out.b.size);clear hB;go_simp;refine⟨rfl,?_⟩;exact D5 (CC.out _ _ _ _ _ _ hq2 _ hq1 f58)
     obtain⟨c1,c2,d1,d2,e1,e2,f1,f2,h1,h2,rfl⟩:=hu;iterate 2 (refine eP rfl (fun K hK=>?_);go_simp;refine hK _ ?_;clear hK K)
     refine i7 (fun w16 hz=>?_);have bz:=HQ.out _ hz.1;have m16:=D0 (hz.2 _ (List.mem_cons_self ..));have HF16:=HF.out.below bz;refine gD Tryz.isNd _ _ rfl (w.heap.size+1) (ndA (.slice c1 y.1.xs.length c2) (.slice d1 y.1.ys.length d2) (.slice e1 y.1.h.ks.length e2) (.slice f1 y.1.c.ts.length f2) (.slice h1 y.1.s.ts.length h2) y.1) aA rfl rfl rfl rfl (dj _ rfl rfl rfl rfl rfl) HF16.r ?_;intro w19 s19 g19;refine⟨trivial,?_⟩;refine fI Tryz.isA rfl rfl _ _ rfl (w.heap.size+1+1) (anA y.2) (anA ⟨0,[]⟩) rfl rfl rfl rfl (aB _) (HF16.ra.kept g19 (by simp)) ?_;intro w20 s20 g20;go_wp2_with fail
     refine bodyPost_ret (cZ rfl _ _ (w.heap.size+1) (w.heap.size+1+1) _ _ rfl rfl rfl rfl (s19.kept g20 (by simp)) s20) rfl ?_;rw[HY.out];exact⟨_,_,_,_,_,rfl,HF16.fin (m16.mono HF.out.lt) g19 g20⟩
    ·have HY:Hid (x=(n,⟨4,tx⟩)):=by rw[Hid,HX.out,if_neg hcd]
     clear HX CC;go_upto_region 7 with fail
     clear p1 hcd;go_wp2_with (refine ah Tryz.isNd rfl _ rfl w.heap.size rfl (ndA (.slice ao n.xs.length ac) (.slice bo n.ys.length bc) (.slice ko n.h.ks.length kc) (.slice qo n.c.ts.length qc) (.slice zo n.s.ts.length zc) n) rfl HF.out.p ?_)
     refine(CF.out HK.out w4 HF.out.b).mono ?_;rintro e w9 ⟨a',b',k',q',z',rfl,o3,b3⟩;obtain⟨a1,a2,rfl⟩:=aa o3.reads.ra;obtain⟨b1,b2,rfl⟩:=aa o3.reads.rb;obtain⟨k1,k2,rfl⟩:=aa o3.reads.rk;obtain⟨q1,q2,rfl⟩:=aa o3.reads.rq;obtain⟨z1,z2,rfl⟩:=aa o3.reads.rz;have O:Hid (aO w9 (w.heap.size+3) (.slice a1 n.xs.length a2) (.slice b1 n.ys.length b2) (.slice k1 n.h.ks.length k2) (.slice q1 n.c.ts.length q2) (.slice z1 n.s.ts.length z2) n):=o3.mono HF.out.lt;replace HF:Hid (AnS w w9 (ndA (.slice ao n.xs.length ac) (.slice bo n.ys.length bc) (.slice ko n.h.ks.length kc) (.slice qo n.c.ts.length qc) (.slice zo n.s.ts.length zc) n)):=HF.out.below b3;clear o3 b3 CF;go_wp2_with fail
     refine(CH.out _ HF.out.b).mono ?_;rintro e w10 ⟨rfl,b10⟩;replace HF:Hid (AnS w w10 (ndA (.slice ao n.xs.length ac) (.slice bo n.ys.length bc) (.slice ko n.h.ks.length kc) (.slice qo n.c.ts.length qc) (.slice zo n.s.ts.length zc) n)):=HF.out.below b10;replace O:Hid (aO w10 (w.heap.size+3) (.slice a1 n.xs.length a2) (.slice b1 n.ys.length b2) (.slice k1 n.h.ks.length k2) (.slice q1 n.c.ts.length q2) (.slice z1 n.s.ts.length z2) n):=O.out.below b10;clear b10 CH;go_wp2_with (first|(refine ae Tryz.isNd rfl _ _ rfl (w.heap.size+1) (ndA (.slice a1 n.xs.length a2) (.slice b1 n.ys.length b2) (.slice k1 n.h.ks.length k2) (.slice q1 n.c.ts.length q2) (.slice z1 n.s.ts.length z2) n) aA rfl rfl rfl rfl (dj _ rfl rfl rfl rfl rfl) HF.out.r ?_;intro w19 s19 g19)|(refine ae Tryz.isA rfl _ _ rfl (w.heap.size+1+1) (anA ⟨4,tx⟩) (anA ⟨0,[]⟩) rfl rfl rfl rfl (aB _) (HF.out.ra.kept g19 (by simp)) ?_;intro w20 s20 g20))
     refine bodyPost_ret (cZ rfl _ _ (w.heap.size+1) (w.heap.size+1+1) _ _ rfl rfl rfl rfl (s19.kept g20 (by simp)) s20) rfl ?_;rw[HY.out];exact⟨_,_,_,_,_,rfl,HF.out.fin O.out g19 g20⟩
theorem Nd.askP_is (n:Nd) (i:Int) (b:Bs):n.askP i b=n.Ask i b:=by
 unfold Nd.askP Nd.Ask;cases hk:n.ok with
 |false=>rfl
 |true=>
  have R:=(Nd.ok_iff n).1 hk;simp only[if_true];unfold Nd.ask;cases hu:n.up<;>cases hi:inI i 0 3<;>simp
  by_cases hc:aN b=0
  ·simp only[hc,if_true]
   have hco:(ax b).ok=true:=by
    unfold ax;rw[if_pos hc];exact(nI hc).2.2
   have hd:Sr.did ⟨n.xs,n.ys,n.h⟩ i (ax b)=(Sr.mk n.xs n.ys n.h).doing i (ax b):=by
    unfold Sr.did Sr.ok;rw[R.dk,R.h,hi,hco];rfl
   unfold Nd.cmd;rw[hd];have hm:n.c.Mark (ax b).p=n.c.mark (ax b).p:=by
    unfold Cp.Mark;rw[if_pos R.c]
   rw[hm];simp[hu]
  ·simp[hc]
theorem AZ (a b k q z:Value) (n:Nd) (i:Int) (bs:Bs) (w:World) (hr:RdN w a b k q z n) (hl:SmN n) (hb:bs.length<=1048576) (ht:nj w):
  Calls Tryz.prog 7 #[NdV a b k q z n,.int .i64 i,S bs] w fun e w'=>∃a' b' k' q' z',e=.returned (.tuple #[NdV a' b' k' q' z' (n.Ask i bs).1,AV (n.Ask i bs).2])/\aO w' w.heap.size a' b' k' q' z' (n.Ask i bs).1/\bB w w':=by
 have h:=wb a b k q z n i bs w hr hl hb ht
 rwa[Nd.askP_is]at h
theorem Eh:(Rows.laid_internal_strconv_uint64pow10:DataW Unit)=Lib.tabData .u64 Lib.pow10Tab:=by kernel_rfl
theorem rf {W:World} {a b:String×DataW Unit} {rest:List (String×DataW Unit)} (h:laidMet Tryz.prog (a::b::("internal/strconv.uint64pow10",Rows.laid_internal_strconv_uint64pow10)::rest) W):Tab W:=by
 have h3:laidMet Tryz.prog (("internal/strconv.uint64pow10",Lib.tabData .u64 Lib.pow10Tab)::rest) W:=by
  have:=h.tail.tail;rw[Eh]at this;exact this
 exact Lib.tabIs_of_head (show Tryz.prog.globalNamed "internal/strconv.uint64pow10"=some 5 by kernel_rfl) (show(Tryz.prog.globals[5]?).map (·.type)=some 243 by kernel_rfl) Tryz.underlying243 Tryz.underlying211 (by kernel_rfl) (by kernel_rfl) h3
theorem Tryz.cellsES:Tryz.prog.cellsOf 348=1:=by kernel_rfl
theorem Tryz.cellsSt2:Tryz.prog.cellsOf 9=1:=by kernel_rfl
theorem Tryz.starES: "*"++ "errors.errorString"= "*errors.errorString":=by decide
theorem Tryz.rowES (u:TypeId) (h:Tryz.prog.typeName? 3 u=some "*errors.errorString"):u=328:=
 typeName_ptr_named (nm:= "errors.errorString") (by rw[Tryz.starES];kernel_rfl) (by kernel_rfl) (by decide) u (by rw[Tryz.starES];exact h)
theorem rh {P:Program} {n0 n1 n2 n3 nm:String} {x0 x1 x2 x3:List UInt8} {r:List (String×DataW Unit)} {W:World} {g0 g1 g2 g3:Nat} {ti tp te ts:TypeId} {ms:Array (String×TypeId)} {f:Field}
  (h:laidMet P ((n0,.iface nm (.ptr (.agg [.lit (.string x0)])))::(n1,.iface nm (.ptr (.agg [.lit (.string x1)])))::(n2,.iface nm (.ptr (.agg [.lit (.string x2)])))::(n3,.iface nm (.ptr (.agg [.lit (.string x3)])))::r) W)
  (hg0:P.globalNamed n0=some g0) (ht0:(P.globals[g0]?).map (·.type)=some ti) (hg1:P.globalNamed n1=some g1) (ht1:(P.globals[g1]?).map (·.type)=some ti)
  (hg2:P.globalNamed n2=some g2) (ht2:(P.globals[g2]?).map (·.type)=some ti) (hg3:P.globalNamed n3=some g3) (ht3:(P.globals[g3]?).map (·.type)=some ti)
  (hi:P.underlying ti=some (.interface ms)) (hrow:∀u,P.typeName? 3 u=some nm->u=tp)
  (hp:P.underlying tp=some (.pointer te)) (he:P.underlying te=some (.struct #[f])) (hft:f.type=ts) (hfo:f.offset=0) (hs:P.underlying ts=some .string) (hc:P.cellsOf te=1) (hcs:P.cellsOf ts=1):
  ∃a0 a1 a2 a3:Addr,W.cell? ⟨g0,0,none⟩=some (.iface tp (.pointer (some a0)))/\W.cell? ⟨g1,0,none⟩=some (.iface tp (.pointer (some a1)))/\W.cell? ⟨g2,0,none⟩=some (.iface tp (.pointer (some a2)))/\W.cell? ⟨g3,0,none⟩=some (.iface tp (.pointer (some a3)))/\
   kt W a0/\kt W a1/\kt W a2/\kt W a3/\a0≠a1/\a0≠a2/\a0≠a3/\a1≠a2/\a1≠a3/\a2≠a3:=by
 obtain⟨ps,⟨g0',t0',cs0,f0,p0,q0,hg0',ht0',hv0,hd0,⟨g1',t1',cs1,f1,p1,q1,hg1',ht1',hv1,hd1,⟨g2',t2',cs2,f2,p2,q2,hg2',ht2',hv2,hd2,⟨g3',t3',cs3,f3,p3,q3,hg3',ht3',hv3,hd3,_,e3⟩,e2⟩,e1⟩,e0⟩,hnd,hrows⟩:=h;obtain rfl:=Option.some.inj (hg0.symm.trans hg0');obtain rfl:=Option.some.inj (hg1.symm.trans hg1');obtain rfl:=Option.some.inj (hg2.symm.trans hg2');obtain rfl:=Option.some.inj (hg3.symm.trans hg3');obtain rfl:=Option.some.inj (ht0.symm.trans ht0');obtain rfl:=Option.some.inj (ht1.symm.trans ht1');obtain rfl:=Option.some.inj (ht2.symm.trans ht2');obtain rfl:=Option.some.inj (ht3.symm.trans ht3');subst e3;subst e2;subst e1;subst e0;obtain⟨l0⟩:=cs0;obtain⟨l1⟩:=cs1;obtain⟨l2⟩:=cs2;obtain⟨l3⟩:=cs3;have ok0:∀u v,l0=[.iface u v]->Value.okWide P W .any 0 u v:=fun u v e=>by
  subst e;exact(hrows g0 0 (by simp[MemPlace.row])).2 u v (by simpa using World.var?_cell hg0' hv0 0)
 have ok1:∀u v,l1=[.iface u v]->Value.okWide P W .any 0 u v:=fun u v e=>by
  subst e;exact(hrows g1 0 (by simp[MemPlace.row])).2 u v (by simpa using World.var?_cell hg1' hv1 0)
 have ok2:∀u v,l2=[.iface u v]->Value.okWide P W .any 0 u v:=fun u v e=>by
  subst e;exact(hrows g2 0 (by simp[MemPlace.row])).2 u v (by simpa using World.var?_cell hg2' hv2 0)
 have ok3:∀u v,l3=[.iface u v]->Value.okWide P W .any 0 u v:=fun u v e=>by
  subst e;exact(hrows g3 0 (by simp[MemPlace.row])).2 u v (by simpa using World.var?_cell hg3' hv3 0)
 obtain⟨a0,s0,rfl, -, -, -,rfl⟩:=errorString_of_trod hi hrow hp he hft hfo hs hc hcs hd0 ok0;obtain⟨a1,s1,rfl, -, -, -,rfl⟩:=errorString_of_trod hi hrow hp he hft hfo hs hc hcs hd1 ok1;obtain⟨a2,s2,rfl, -, -, -,rfl⟩:=errorString_of_trod hi hrow hp he hft hfo hs hc hcs hd2 ok2;obtain⟨a3,s3,rfl, -, -, -,rfl⟩:=errorString_of_trod hi hrow hp he hft hfo hs hc hcs hd3 ok3;refine⟨a0,a1,a2,a3,by simpa using World.var?_cell hg0' hv0 0,by simpa using World.var?_cell hg1' hv1 0,by simpa using World.var?_cell hg2' hv2 0,by simpa using World.var?_cell hg3' hv3 0,(hrows a0.block a0.off (by simp[MemPlace.row])).1,(hrows a1.block a1.off (by simp[MemPlace.row])).1,(hrows a2.block a2.off (by simp[MemPlace.row])).1,(hrows a3.block a3.off (by simp[MemPlace.row])).1,?_,?_,?_,?_,?_,?_⟩<;>(rintro rfl;simp[MemPlace.row]at hnd)
theorem Ez {H:Type} {enc:TypeId×Value->H} {P:Program} {w:World} {sp:Nat->Bool} {n1 n2 n3 n4:String} {gs:List (DataW H)} {ps:List MemPlace} (h:DataW.TrodVars enc P w sp [n1,n2,n3,n4] gs ps):∃a b c d,gs=[a,b,c,d]:=by
 rcases gs with _|⟨a,_|⟨b,_|⟨c,_|⟨d,_|⟨e,r⟩⟩⟩⟩⟩<;>simp_all [DataW.TrodVars]
theorem Tryz.etG:Tryz.prog.globalNamed "errors.errorType"=some 4:=by kernel_rfl
theorem Tryz.rtG:(Tryz.prog.cutTypes.find? (·.1== "internal/reflectlite.rtype")).map (·.2)=some 256:=by kernel_rfl
theorem Tryz.sizeT:Tryz.prog.types.size=364:=by kernel_rfl
theorem Tryz.oneRow:((List.range 364).filter fun t=>Tryz.prog.rowNamed t [101,114,114,111,114])=[135]:=by kernel_rfl
theorem ri {W:World} (h:handlesMet Tryz.prog [("errors.errorType",Rows.laid_errors_errorType)] W):W.cell? ⟨4,0,none⟩=some (.iface 256 (.agg #[.pointer (some ⟨11,135,none⟩)])):=by
 obtain⟨name,u,ty,e1,e2,e3,e4,e5⟩:=h _ (List.mem_singleton.2 rfl);have en:name=[101,114,114,111,114]:=(Option.some.inj e1).symm;subst en;obtain rfl:=Option.some.inj (Tryz.rtG.symm.trans e2);have hm:ty∈(List.range 364).filter fun t=>Tryz.prog.rowNamed t [101,114,114,111,114]:=List.mem_filter.2 ⟨List.mem_range.2 (by rw[<-Tryz.sizeT];exact e3),e4⟩
 rw[Tryz.oneRow]at hm;obtain rfl:=List.mem_singleton.1 hm;have hh:typeHandle Tryz.prog 135=.pointer (some ⟨11,135,none⟩):=by kernel_rfl
 rw[hh]at e5;simpa using World.var?_cell Tryz.etG e5 0
theorem EB {W:World} {a b:String×DataW Unit} (h:laidMet Tryz.prog (a::b::("internal/strconv.uint64pow10",Rows.laid_internal_strconv_uint64pow10)::("loop.example/g00354/impl.errRange",Rows.laid_loop_example_g00354_impl_errRange)::("loop.example/g00354/impl.errUnlike",Rows.laid_loop_example_g00354_impl_errUnlike)::("loop.example/g00354/impl.errConflict",Rows.laid_loop_example_g00354_impl_errConflict)::("loop.example/g00354/impl.errNone",Rows.laid_loop_example_g00354_impl_errNone)::[]) W)
  (h':handlesMet Tryz.prog [("errors.errorType",Rows.laid_errors_errorType)] W):nj W:=by
 obtain⟨a0,a1,a2,a3,c0,c1,c2,c3,h0,h1,h2,h3,n01,n02,n03,n12,n13,n23⟩:=rh h.tail.tail.tail (show Tryz.prog.globalNamed "loop.example/g00354/impl.errRange"=some 1 by kernel_rfl) (by kernel_rfl) (show Tryz.prog.globalNamed "loop.example/g00354/impl.errUnlike"=some 2 by kernel_rfl) (by kernel_rfl) (show Tryz.prog.globalNamed "loop.example/g00354/impl.errConflict"=some 3 by kernel_rfl) (by kernel_rfl) (show Tryz.prog.globalNamed "loop.example/g00354/impl.errNone"=some 0 by kernel_rfl) (by kernel_rfl) Tryz.underlying135 Tryz.rowES Tryz.underlying328 Tryz.underlying348 rfl rfl Tryz.underlying9 Tryz.cellsES Tryz.cellsSt2;exact⟨rf h,⟨a3,a0,a1,a2⟩,⟨c3,c0,c1,c2,ri h',h3,h0,h1,h2,Ne.symm n03,Ne.symm n13,Ne.symm n23,Ne.symm n01,Ne.symm n02,Ne.symm n12⟩⟩
theorem BR {W:World} {a b c:String×DataW Unit} {r:List (String×DataW Unit)} (h:laidMet Tryz.prog (a::b::("internal/strconv.uint64pow10",Rows.laid_internal_strconv_uint64pow10)::c::("loop.example/g00354/impl.errRange",Rows.laid_loop_example_g00354_impl_errRange)::("loop.example/g00354/impl.errUnlike",Rows.laid_loop_example_g00354_impl_errUnlike)::("loop.example/g00354/impl.errConflict",Rows.laid_loop_example_g00354_impl_errConflict)::("loop.example/g00354/impl.errNone",Rows.laid_loop_example_g00354_impl_errNone)::r) W)
  (h':handlesMet Tryz.prog [("errors.errorType",Rows.laid_errors_errorType)] W):nj W:=by
 obtain⟨a0,a1,a2,a3,c0,c1,c2,c3,h0,h1,h2,h3,n01,n02,n03,n12,n13,n23⟩:=rh h.tail.tail.tail.tail (show Tryz.prog.globalNamed "loop.example/g00354/impl.errRange"=some 1 by kernel_rfl) (by kernel_rfl) (show Tryz.prog.globalNamed "loop.example/g00354/impl.errUnlike"=some 2 by kernel_rfl) (by kernel_rfl) (show Tryz.prog.globalNamed "loop.example/g00354/impl.errConflict"=some 3 by kernel_rfl) (by kernel_rfl) (show Tryz.prog.globalNamed "loop.example/g00354/impl.errNone"=some 0 by kernel_rfl) (by kernel_rfl) Tryz.underlying135 Tryz.rowES Tryz.underlying328 Tryz.underlying348 rfl rfl Tryz.underlying9 Tryz.cellsES Tryz.cellsSt2;exact⟨rf h,⟨a3,a0,a1,a2⟩,⟨c3,c0,c1,c2,ri h',h3,h0,h1,h2,Ne.symm n03,Ne.symm n13,Ne.symm n23,Ne.symm n01,Ne.symm n02,Ne.symm n12⟩⟩
def rg:List (String×DataW Unit):=[("math/bits.deBruijn32tab",Rows.laid_math_bits_deBruijn32tab),("math/bits.deBruijn64tab",Rows.laid_math_bits_deBruijn64tab),("internal/strconv.uint64pow10",Rows.laid_internal_strconv_uint64pow10),("unicode/utf8.acceptRanges",Rows.laid_unicode_utf8_acceptRanges),("loop.example/g00354/impl.errRange",Rows.laid_loop_example_g00354_impl_errRange),("loop.example/g00354/impl.errUnlike",Rows.laid_loop_example_g00354_impl_errUnlike),("loop.example/g00354/impl.errConflict",Rows.laid_loop_example_g00354_impl_errConflict),("loop.example/g00354/impl.errNone",Rows.laid_loop_example_g00354_impl_errNone)]
def Ab:List (String×DataW Unit):=[("unicode/utf8.first",Rows.laid_unicode_utf8_first)]
theorem mr {W:World} (h:laidMetH Tryz.prog Rows.fnExactAskedRow.laid W):nj W:=by
 have h':laidMet Tryz.prog (rg++Ab) W/\handlesMet Tryz.prog [("errors.errorType",Rows.laid_errors_errorType)] W:=h;exact BR h'.1 h'.2
noncomputable def pq (os:Os):World:=(World.doorLaid Tryz.prog 1000 os).layVars Tryz.prog Ab
noncomputable def yn (os:Os):List Nat:=((DataW.laidRun Tryz.prog (pq os) 8 (rg.map (·.1))).map (fun x=>x.2.map (·.block))).getD []
theorem Ey (os:Os):laidMet Tryz.prog (rg++Ab) (pq os):=by
 have e1:((rg++Ab).filter fun x=>["unicode/utf8.first"].contains x.1)=Ab:=by kernel_rfl
 have e2:((rg++Ab).filter fun x=> !["unicode/utf8.first"].contains x.1)=rg:=by kernel_rfl
 refine laidMet_layVars (w0:=World.doorLaid Tryz.prog 1000 os) (w':=pq os) ["unicode/utf8.first"] (yn os) (by rw[e1];rfl) (by rw[e1];kernel_rfl) (by rw[e1];kernel_rfl) ?_;rw[e2];exact LaidIn.of_run (yn os) 8 (by kernel_rfl) (by kernel_rfl) (by kernel_rfl) (by kernel_rfl)
theorem mt (os:Os) (args:Array Value):laidMetH Tryz.prog Rows.fnExactAskedRow.laid ((pq os).forCall (fun _ _=>0) ⟨#[],args,[]⟩).memory:=
 laidMetH_of_parts3 (fuel:=8) ((Ey os).of_heap (by simp[World.memory,World.forCall,Input.heap])) (by kernel_rfl) (by kernel_rfl)
end Go.Proofs.YthldeiojlllkdaaGreatDoor
