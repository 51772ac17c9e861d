/- What Recalled of the program answers: it ranges kL its iterator, and reads each text. -/
import Derived.Test.YthldeiojlllkdaaGreatDoorM13
import Derived.Shelf.RegionOpen
set_option maxRecDepth 20000
set_option maxHeartbeats 4000000
namespace Go.Proofs.YthldeiojlllkdaaGreatDoor
open Go.ChangeShapes Go.WideShapes Go.ChangeAt Go.RowKit
section
attribute [local go_sem] Oper.semAt_some
abbrev Fr:={x:Bs×Nat//x.1.length<=1048576/\x.2<=1048576}
theorem rT (n:Nat) (hn:1<=n) (Bn n0:Nat) (s:Bs) (hl:s.length<=1048576) (w:World) (hBn:w.cell? ⟨Bn,0,none⟩=some (S s)) (hlt:Bn<w.heap.size) (hn0:n0<=w.heap.size) (ht:∀W',Below n0 w W'->Tab W'):
  SeqStopsK Fence.wide n Tryz.prog 180 #[.pointer (some ⟨Bn,0,none⟩)] (fun x:Fr=>#[S x.1.1,.int .i64 (x.1.2:Nat)]) (pD Bn n0) (fun ys=>ys.map Subtype.val=bV s) (fun _=>True) (bV s).length w:=by
 intro l J Jx W hW hJ hJx hY h0;have:=Cu n hn l Bn n0 s hl (fun pre W=>∃pre':List Fr,pre'.map Subtype.val=pre/\J pre' W) (fun pre W=>∃pre':List Fr,pre'.map Subtype.val=pre/\Jx pre' W) W
  (fun pre A B row h hg hr=>by obtain⟨pre',hm,hj⟩:=h;exact⟨pre',hm,hJ pre' A B row hj hg hr⟩)
  ((hW.cell (p:=⟨Bn,0,none⟩) hlt).trans hBn) (fun W' hb=>ht W' ((hW.mono hn0).trans hb)) (Nat.le_trans hn0 hW.size)
  (fun pre x W1 h hlen h1 h2=>by
   obtain⟨pre',hm,hj⟩:=h;obtain⟨fn,tmps,assign,body,hy,hR⟩:=hY pre' ⟨x,h1,h2⟩ W1 hj (by rw[<-hm,List.length_map]at hlen;exact hlen);refine⟨fn,tmps,assign,body,hy,hR.mono ?_⟩;rintro e W' (⟨he,hj',hk⟩|⟨he,hj'⟩)
   ·exact .inl ⟨he,⟨pre'++[⟨x,h1,h2⟩],by simp[hm],hj'⟩,hk⟩
   ·exact .inr ⟨he,⟨pre'++[⟨x,h1,h2⟩],by simp[hm],hj'⟩⟩)
  ⟨[],rfl,h0⟩
 refine this.mono ?_;rintro e W' ⟨hv,h⟩;refine⟨hv,?_⟩;rcases h with⟨ys,rfl,pre',hm,hj⟩|⟨pre,_,pre',_,hj⟩
 ·exact .inl ⟨pre',hm,hj⟩
 ·exact .inr ⟨pre',trivial,hj⟩
theorem tU {β:Type} (B:Nat) (t:TypeId) (f:β->Rc):Go.Own (fun s W=>cE W B t (f s)):=by
 rintro s X Y row hv hg hrow;refine hv.kept hg (fun e'=>?_);obtain⟨o,ho,hc⟩:=hrow B e'.symm;rw[show X.heap[B]?=_ from hv]at ho;cases ho;cases hc
theorem cE.other {w:World} {g:Nat} {t:TypeId} {r:Rc} (h:cE w g t r) (a:Addr) (v:Value) (hne:g≠a.block):cE (w.setCell a v) g t r:=(heap_setCell_other w a g v hne).trans h
theorem A3 (w:World) (g:Nat) (a b c d:Value):w.grownBy ((((w.setCell ⟨g,0,none⟩ a).setCell ⟨g,1,none⟩ b).setCell ⟨g,2,none⟩ c).setCell ⟨g,3,none⟩ d) (some g):=
 (((gt w g 0 a).trans (gt _ g 1 b)).trans (gt _ g 2 c)).trans (gt _ g 3 d)
def jc (pre:List Fr):Option (Rc×Nat):=dj (pre.map Subtype.val)
theorem qn (pre:List Fr) (x:Fr):jc (pre++[x])=gd (jc pre) x.1:=by unfold jc;rw[List.map_append];exact lA _ _
theorem tV (s:Bs) (w:World) (hl:s.length<=1048576) (ht:Tab w):
  Calls Tryz.prog 105 #[S s] w fun e w'=>e=.returned (.tuple #[RV (gP (aF s)),S (s.take (recAt (aF s))),.bool (aF s).isSome])/\iO w w':=by
 unfold S;refine(callsIn_wide (n:=5)).1 ?_;refine callsIn_of_wp_marks Tryz.func105 rfl trivial ?_ rfl;simp only[Tryz.ntmps105,List.size_toArray,List.length_cons,List.length_nil,Nat.reduceAdd,Nat.reduceSub,Array.replicate_succ,Array.replicate_zero,List.push_toArray,List.append_toArray,List.nil_append,List.cons_append]
 gi_wp2_with fail
 refine⟨trivial,(callsIn_wide.2 (yU s _)).mono ?_⟩;rintro e w' ⟨rfl,rfl⟩
 gi_wp2_with fail
 obtain⟨h,hh⟩:=Fe w.heap.size
 rw[<-hh];obtain⟨W0,hW0⟩:=Fe (((((w.alloc (.cells (de Rc.zero) 38)).alloc (.cells (de Rc.zero) 38)).alloc (.cells #[.int .i64 0] 2)).alloc (.cells #[.bool false] 4)).alloc (.cells #[.string ⟨s.toArray⟩] 9))
 have hsz0:W0.heap.size=h+5:=by rw[hW0,hh];simp
 have hB0:iO w W0:=by
  rw[hW0];exact(((((Below.refl _ w).alloc (Nat.le_refl _) _).alloc Fg _).alloc (by simp;omega) _).alloc (by simp;omega) _).alloc (by simp;omega) _
 have bZ:cE W0 h 38 Rc.zero:=by
  rw[hW0,hh];exact((((cE.new w 38 Rc.zero).alloc _).alloc _).alloc _).alloc _
 have bL:cE W0 (h+1) 38 Rc.zero:=by
  rw[hW0,hh];have:=cE.new (w.alloc (.cells (de Rc.zero) 38)) 38 Rc.zero;rw[World.size_alloc]at this;exact((this.alloc _).alloc _).alloc _
 have bA:Boxed W0 (h+1+1) 2 (.int .i64 0):=by
  rw[hW0,hh];have:=Boxed.new ((w.alloc (.cells (de Rc.zero) 38)).alloc (.cells (de Rc.zero) 38)) 2 (.int .i64 0);rw[World.size_alloc,World.size_alloc]at this;exact(this.alloc _).alloc _
 have bF:Boxed W0 (h+1+1+1) 4 (.bool false):=by
  rw[hW0,hh];have:=Boxed.new (((w.alloc (.cells (de Rc.zero) 38)).alloc (.cells (de Rc.zero) 38)).alloc (.cells #[.int .i64 0] 2)) 4 (.bool false);rw[World.size_alloc,World.size_alloc,World.size_alloc]at this;exact this.alloc _
 have bS:Boxed W0 (h+1+1+1+1) 9 (.string ⟨s.toArray⟩):=by
  rw[hW0,hh];have:=Boxed.new ((((w.alloc (.cells (de Rc.zero) 38)).alloc (.cells (de Rc.zero) 38)).alloc (.cells #[.int .i64 0] 2)).alloc (.cells #[.bool false] 4)) 9 (.string ⟨s.toArray⟩);rw[World.size_alloc,World.size_alloc,World.size_alloc,World.size_alloc]at this;exact this
 unfold de Rc.zero at hW0;dsimp only at hW0;rw[<-hW0];clear hW0;refine wpIn_rangeFunc_ownG rfl Ff (gf:=180) (lb:=#[.pointer (some ⟨h+1+1+1+1,0,none⟩)]) rfl trivial (enters_of Tryz.func180 Fi rfl)
  (rT 4 Ff (h+1+1+1+1) w.heap.size s hl W0 bS.cell Ff Ff (fun W' hb=>ht.below (hB0.trans hb))) pD.trans (pD.book Ff) (Below.refl _ _) (fun _=>rfl)
  (fun pre W=>((cE W (h+1) 38 (gP (jc pre))/\Boxed W (h+1+1) 2 (.int .i64 (recAt (jc pre):Nat)))/\(Boxed W (h+1+1+1) 4 (.bool (jc pre).isSome)/\cE W h 38 Rc.zero))/\(Boxed W (h+1+1+1+1) 9 (.string ⟨s.toArray⟩)/\iO w W))
  (fun _ _ _=>False)
  (OwnFrom.and (OwnFrom.and (OwnFrom.and (Own.from (tU (h+1) 38 (fun pre:List Fr=>gP (jc pre))) _) (Own.from (boxed_own (h+1+1) 2 (fun pre:List Fr=>.int .i64 (recAt (jc pre):Nat))) _)) (OwnFrom.and (Own.from (boxed_own (h+1+1+1) 4 (fun pre:List Fr=>.bool (jc pre).isSome)) _) (Own.from (tU h 38 (fun _:List Fr=>Rc.zero)) _))) (OwnFrom.and (Own.from (boxed_own (h+1+1+1+1) 9 (fun _:List Fr=>.string ⟨s.toArray⟩)) _) (ownFrom_below (Nat.le_refl _) Ff)))
  (fun _ _ _ _ _ hs _ _=>hs)
  ⟨⟨⟨bL,bA⟩,bF,bZ⟩,bS,hB0⟩
  (fun x=>{tmps:=#[.string ⟨s.toArray⟩,undef,.pointer (some ⟨h,0,none⟩),.string ⟨#[]⟩,.bool false,.pointer (some ⟨h+1,0,none⟩),.pointer (some ⟨h+1+1,0,none⟩),.pointer (some ⟨h+1+1+1,0,none⟩),.string ⟨x.1.1.toArray⟩,.int .i64 (x.1.2:Nat),undef,undef,.agg #[.int .i64 0,.int .i64 0,.int .i64 0,.int .i64 0],.string ⟨s.toArray⟩,.func (.func 180) #[] #[.pointer (some ⟨h+1+1+1+1,0,none⟩)],.string ⟨x.1.1.toArray⟩,.int .i64 (x.1.2:Nat),undef,undef,undef,undef,undef,undef,undef,undef,undef,undef,undef,undef,undef,undef],defers:=[]}) ?assign ?body ?done ?stop
 case assign=>
  intro l x W K hK;clear hsz0 hB0 bZ bL bA bF bS;clear hh;unfold S
  gi_wp2
  exact hK
 case body=>
  rintro l pre x W ⟨⟨⟨hL,hA⟩,hF,hZ⟩,hS,hB⟩ hlt;have HH:Hid (h=w.heap.size):=hh;have hwh:h<=W.heap.size:=by have:=hB.size;omega
  clear hsz0 hB0 bZ bL bA bF bS hh;have c1:=wh x.1.1 W x.2.1;have HY:Hid (isR x.1.1=true->jc (pre++[x])=some (gX x.1.1,x.1.2)):=fun hq=>by rw[qn];exact uV _ _ hq
  have HN:Hid (isR x.1.1=false->jc (pre++[x])=jc pre):=fun hq=>by rw[qn];exact yj _ _ hq
  obtain⟨a',ha'⟩:=Fe (jc (pre++[x]))
  obtain⟨a,ha⟩:=Fe (jc pre)
  obtain⟨r,hr⟩:=Fe (gX x.1.1)
  obtain⟨b,hb⟩:=Fe (isR x.1.1)
  obtain⟨y,hy⟩:=Fe x.1.1
  obtain⟨m,hm⟩:=Fe x.1.2
  have hmb:m<=1048576:=by rw[hm];exact x.2.2
  have HA':Hid (a'=jc (pre++[x])):=ha';rw[<-hb,<-ha',<-hr,<-hm]at HY;rw[<-hb,<-ha',<-ha]at HN;rw[<-ha]at hL hA hF;rw[<-hr,<-hb,<-hy]at c1;rw[<-hy,<-hm];clear ha ha' hr hb hy hm;unfold S RV de at c1
  gi_wp2_with fail
  refine⟨trivial,(CallsIn.inRound l (callsIn_wide.2 c1)).mono ?_⟩;rintro e W2 ⟨rfl,b2⟩;have gr:=cq b2 none;have hL2:=hL.kept gr Fg;have hA2:=hA.kept gr Fg;have hF2:=hF.kept gr Fg;have hZ2:=hZ.kept gr Fg;have hS2:=hS.kept gr Fg;have hwh2:h+4<W2.heap.size:=hS2.lt;clear gr c1;cases b with
  |false=>
   have HE:=HN.out rfl
   gi_wp2
   have hS3:=hS2.alloc (.cells #[.int .i64 r.e,.int .i64 r.s,.int .i64 r.t,.int .i64 r.n] 38);have b3:Below w.heap.size W (W2.alloc (.cells #[.int .i64 r.e,.int .i64 r.s,.int .i64 r.t,.int .i64 r.n] 38)):=(b2.mono hB.size).alloc (by have:=HH.out;omega) _;refine⟨((KeepsOthers.of_grownBy (cq b2 none) (fun _ _ e _=>by cases e)).trans (KeepsOthers.alloc W2 _)).from _,⟨fun u hu=>?_,b3⟩,⟨⟨?_,?_⟩,?_,hZ2.alloc _⟩,hS3,hB.trans b3⟩
   ·rw[hS.cell]at hu
    cases hu;exact hS3.cell
   ·rw[<-HA'.out,HE];exact hL2.alloc _
   ·rw[<-HA'.out,HE];exact hA2.alloc _
   ·rw[<-HA'.out,HE];exact hF2.alloc _
  |true=>
   have HE:=HY.out rfl;obtain⟨q,hq⟩:=Fe (gP a)
   rw[<-hq]at hL2;have hL3:cE (W2.alloc (.cells #[.int .i64 r.e,.int .i64 r.s,.int .i64 r.t,.int .i64 r.n] 38)) (h+1) 38 q:=hL2.alloc _;have hA3:Boxed (W2.alloc (.cells #[.int .i64 r.e,.int .i64 r.s,.int .i64 r.t,.int .i64 r.n] 38)) (h+1+1) 2 (.int .i64 (recAt a:Nat)):=hA2.alloc _;have hF3:Boxed (W2.alloc (.cells #[.int .i64 r.e,.int .i64 r.s,.int .i64 r.t,.int .i64 r.n] 38)) (h+1+1+1) 4 (.bool a.isSome):=hF2.alloc _;have hZ3:cE (W2.alloc (.cells #[.int .i64 r.e,.int .i64 r.s,.int .i64 r.t,.int .i64 r.n] 38)) h 38 Rc.zero:=hZ2.alloc _;have hS3:Boxed (W2.alloc (.cells #[.int .i64 r.e,.int .i64 r.s,.int .i64 r.t,.int .i64 r.n] 38)) (h+1+1+1+1) 9 (.string ⟨s.toArray⟩):=hS2.alloc _;have k0:(W2.alloc (.cells #[.int .i64 r.e,.int .i64 r.s,.int .i64 r.t,.int .i64 r.n] 38)).cell? ⟨h+1,0,none⟩=some (.int .i64 q.e):=hL3.cell 0 rfl;have f0:(W2.alloc (.cells #[.int .i64 r.e,.int .i64 r.s,.int .i64 r.t,.int .i64 r.n] 38)).frozen? ⟨h+1,0,none⟩=false:=hL3.frozen 0;have k1:(W2.alloc (.cells #[.int .i64 r.e,.int .i64 r.s,.int .i64 r.t,.int .i64 r.n] 38)).cell? ⟨h+1,1,none⟩=some (.int .i64 q.s):=hL3.cell 1 rfl;have f1:(W2.alloc (.cells #[.int .i64 r.e,.int .i64 r.s,.int .i64 r.t,.int .i64 r.n] 38)).frozen? ⟨h+1,1,none⟩=false:=hL3.frozen 1;have k2:(W2.alloc (.cells #[.int .i64 r.e,.int .i64 r.s,.int .i64 r.t,.int .i64 r.n] 38)).cell? ⟨h+1,2,none⟩=some (.int .i64 q.t):=hL3.cell 2 rfl;have f2:(W2.alloc (.cells #[.int .i64 r.e,.int .i64 r.s,.int .i64 r.t,.int .i64 r.n] 38)).frozen? ⟨h+1,2,none⟩=false:=hL3.frozen 2;have k3:(W2.alloc (.cells #[.int .i64 r.e,.int .i64 r.s,.int .i64 r.t,.int .i64 r.n] 38)).cell? ⟨h+1,3,none⟩=some (.int .i64 q.n):=hL3.cell 3 rfl;have f3:(W2.alloc (.cells #[.int .i64 r.e,.int .i64 r.s,.int .i64 r.t,.int .i64 r.n] 38)).frozen? ⟨h+1,3,none⟩=false:=hL3.frozen 3;have ka:(W2.alloc (.cells #[.int .i64 r.e,.int .i64 r.s,.int .i64 r.t,.int .i64 r.n] 38)).cell? ⟨h+1+1,0,none⟩=some (.int .i64 (recAt a:Nat)):=hA3.cell;have fa:(W2.alloc (.cells #[.int .i64 r.e,.int .i64 r.s,.int .i64 r.t,.int .i64 r.n] 38)).frozen? ⟨h+1+1,0,none⟩=false:=hA3.frozen;have kf:(W2.alloc (.cells #[.int .i64 r.e,.int .i64 r.s,.int .i64 r.t,.int .i64 r.n] 38)).cell? ⟨h+1+1+1,0,none⟩=some (.bool a.isSome):=hF3.cell;have ff:(W2.alloc (.cells #[.int .i64 r.e,.int .i64 r.s,.int .i64 r.t,.int .i64 r.n] 38)).frozen? ⟨h+1+1+1,0,none⟩=false:=hF3.frozen;have n1:h+1≠W2.heap.size:=by omega
   have n2:h+1+1≠W2.heap.size:=by omega
   have n3:h+1+1+1≠W2.heap.size:=by omega
   gi_wp2
   have b3:Below w.heap.size W (W2.alloc (.cells #[.int .i64 r.e,.int .i64 r.s,.int .i64 r.t,.int .i64 r.n] 38)):=(b2.mono hB.size).alloc (by have:=HH.out;omega) _;have K3:=(KeepsOthers.of_grownBy (cq b2 none) (fun _ _ e _=>by cases e)).trans (KeepsOthers.alloc W2 (.cells #[.int .i64 r.e,.int .i64 r.s,.int .i64 r.t,.int .i64 r.n] 38));obtain⟨W3,hW3⟩:=Fe (W2.alloc (.cells #[.int .i64 r.e,.int .i64 r.s,.int .i64 r.t,.int .i64 r.n] 38))
   have hs3:h+4<W3.heap.size:=by rw[hW3,World.size_alloc];omega
   rw[<-hW3]at b3 K3 hL3 hA3 hF3 hZ3 hS3⊢;clear k0 k1 k2 k3 f0 f1 f2 f3 ka fa kf ff n1 n2 n3 hW3;have G4:=A3 W3 (h+1) (.int .i64 r.e) (.int .i64 r.s) (.int .i64 r.t) (.int .i64 r.n);have K4:=(((K3.trans (KeepsOthers.setCell W3 ⟨h+1,0,none⟩ (.int .i64 r.e))).trans (KeepsOthers.setCell _ ⟨h+1,1,none⟩ (.int .i64 r.s))).trans (KeepsOthers.setCell _ ⟨h+1,2,none⟩ (.int .i64 r.t))).trans (KeepsOthers.setCell _ ⟨h+1,3,none⟩ (.int .i64 r.n));have L4:=hL3.set4 r;have A4:=hA3.kept G4 (by intro e;have:=Option.some.inj e;omega);have F4:=hF3.kept G4 (by intro e;have:=Option.some.inj e;omega);have Z4:=hZ3.kept G4 (by intro e;have:=Option.some.inj e;omega);have S4:=hS3.kept G4 (by intro e;have:=Option.some.inj e;omega);have b4:=b3.grown G4 (by have:=HH.out;omega) (fun k e=>by cases e;have:=HH.out;omega);have s4:=G4.size;clear G4 K3 hL3 hA3 hF3 hZ3 hS3 b3;obtain⟨W4,hW4⟩:=Fe ((((W3.setCell ⟨h+1,0,none⟩ (.int .i64 r.e)).setCell ⟨h+1,1,none⟩ (.int .i64 r.s)).setCell ⟨h+1,2,none⟩ (.int .i64 r.t)).setCell ⟨h+1,3,none⟩ (.int .i64 r.n))
   rw[<-hW4]at K4 L4 A4 F4 Z4 S4 b4 s4⊢;clear hW4;have G5:=gt W4 (h+1+1) 0 (.int .i64 (m:Nat));have G6:=gt (W4.setCell ⟨h+1+1,0,none⟩ (.int .i64 (m:Nat))) (h+1+1+1) 0 (.bool true);have hS6:=(S4.kept G5 (by intro e;have:=Option.some.inj e;omega)).kept G6 (by intro e;have:=Option.some.inj e;omega);have b6:=(b4.grown G5 (by have:=HH.out;omega) (fun k e=>by cases e;have:=HH.out;omega)).grown G6 (by have:=HH.out;have:=G5.size;omega) (fun k e=>by cases e;have:=HH.out;omega);refine⟨((K4.trans (KeepsOthers.setCell W4 ⟨h+1+1,0,none⟩ (.int .i64 (m:Nat)))).trans (KeepsOthers.setCell _ ⟨h+1+1+1,0,none⟩ (.bool true))).from _,⟨fun u hu=>?_,b6⟩,⟨⟨?_,?_⟩,?_,(Z4.kept G5 (by intro e;have:=Option.some.inj e;omega)).kept G6 (by intro e;have:=Option.some.inj e;omega)⟩,hS6,hB.trans b6⟩
   ·rw[hS.cell]at hu
    cases hu;exact hS6.cell
   ·rw[<-HA'.out,HE];exact(L4.kept G5 (by intro e;have:=Option.some.inj e;omega)).kept G6 (by intro e;have:=Option.some.inj e;omega)
   ·rw[<-HA'.out,HE];exact(A4.set (.int .i64 (m:Nat))).kept G6 (by intro e;have:=Option.some.inj e;omega)
   ·rw[<-HA'.out,HE];exact(F4.kept G5 (by intro e;have:=Option.some.inj e;omega)).set (.bool true)
 case done=>
  rintro D ys W hD hys ⟨⟨⟨hL,hA⟩,hF,hZ⟩,hS,hB⟩ hK;have hre:jc ys=aF s:=by unfold jc aF;rw[hys]
  rw[hre]at hL hA hF;have hla:=jC s;have hsz:(⟨s.toArray⟩:ByteArray).size=s.length:=rfl;have c1:=fun wx=>kl (s.take (recAt (aF s))) wx (by simp;omega)
  have hex:=cB s 0 (recAt (aF s));have e0:cV s 0 (recAt (aF s))=s.take (recAt (aF s)):=by simp[cV]
  rw[e0]at hex;obtain⟨r,hr⟩:=Fe (gP (aF s))
  obtain⟨b,hb⟩:=Fe ((aF s).isSome)
  obtain⟨t,hte⟩:=Fe (s.take (recAt (aF s)))
  obtain⟨m,hm⟩:=Fe (recAt (aF s))
  have HE:Hid (gP (aF s)=r/\s.take (recAt (aF s))=t/\(aF s).isSome=b/\h=w.heap.size):=⟨hr.symm,hte.symm,hb.symm,hh⟩
  rw[<-hr]at hL;rw[<-hb]at hF;rw[<-hm]at hA;rw[<-hte]at hex;simp only[<-hte]at c1;rw[<-hm]at hex hla;have hla':(m:Int)<=s.length:=by omega
  unfold S at c1;have k0:W.cell? ⟨h+1,0,none⟩=some (.int .i64 r.e):=hL.cell 0 rfl;have k1:W.cell? ⟨h+1,1,none⟩=some (.int .i64 r.s):=hL.cell 1 rfl;have k2:W.cell? ⟨h+1,2,none⟩=some (.int .i64 r.t):=hL.cell 2 rfl;have k3:W.cell? ⟨h+1,3,none⟩=some (.int .i64 r.n):=hL.cell 3 rfl;have ka:=hA.cell;have kf:=hF.cell;have HD:Hid (h+5<=D):=by rw[Hid,<-hsz0];exact hD
  have hBd:iO w W.drew:=below_drewN hB 1;have hKd:W.drew.heap[D]?=some (.deferred (some [])):=hK;have hDl:D<W.drew.heap.size:=(Array.getElem?_eq_some_iff.1 hKd).1;have hwD:w.heap.size<=W.drew.heap.size:=hBd.size;clear hsz0 hB0 bZ bL bA bF bS hh hr hb hte hm hre hys e0;have hLd:cE W.drew (h+1) 38 r:=hL;have hFd:Boxed W.drew (h+1+1+1) 4 (.bool b):=hF;have hZd:cE W.drew h 38 Rc.zero:=hZ;have hfo:Tryz.prog.follows .mixedOrders=true:=by kernel_rfl
  gi_wp2
  refine Code.wpIn_mono (Q:=NoPanic _) NoPanic.imp ?_
  gi_region_with_o (refine⟨trivial,(callsIn_wide.2 (c1 _)).mono ?_⟩;rintro e W3 ⟨rfl,b3⟩;have hL3:=hLd.kept (cq b3 none) Fg;have hF3:=hFd.kept (cq b3 none) Fg;have hZ3:=hZd.kept (cq b3 none) Fg;have k0':W3.cell? ⟨h+1,0,none⟩=some (.int .i64 r.e):=hL3.cell 0 rfl;have k1':W3.cell? ⟨h+1,1,none⟩=some (.int .i64 r.s):=hL3.cell 1 rfl;have k2':W3.cell? ⟨h+1,2,none⟩=some (.int .i64 r.t):=hL3.cell 2 rfl;have k3':W3.cell? ⟨h+1,3,none⟩=some (.int .i64 r.n):=hL3.cell 3 rfl;have kf':=hF3.cell;have z0:W3.cell? ⟨h,0,none⟩=some (.int .i64 0):=hZ3.cell 0 rfl;have z1:W3.cell? ⟨h,1,none⟩=some (.int .i64 0):=hZ3.cell 1 rfl;have z2:W3.cell? ⟨h,2,none⟩=some (.int .i64 0):=hZ3.cell 2 rfl;have z3:W3.cell? ⟨h,3,none⟩=some (.int .i64 0):=hZ3.cell 3 rfl;have f0:=hZ3.frozen 0;have f1:=hZ3.frozen 1;have f2:=hZ3.frozen 2;have f3:=hZ3.frozen 3)
  all_goals refine NoPanic.normal ?_
  all_goals gi_wp2
  all_goals
   have G4:=A3 W3 h (.int .i64 r.e) (.int .i64 r.s) (.int .i64 r.t) (.int .i64 r.n);have R4:=hZ3.set4 r;have hK3:W3.heap[D]?=some (.deferred (some [])):=(b3.block D hDl).trans hKd;have hDl3:D<W3.heap.size:=(Array.getElem?_eq_some_iff.1 hK3).1;have hK4:=(G4.block D hDl3 (by intro e;have:=Option.some.inj e;have:=HD.out;omega)).trans hK3;have B4:=(hBd.trans (b3.mono hwD)).grown G4 (by have:=b3.size;omega) (fun k e=>by cases e;have:=HE.out.2.2.2;omega);refine⟨by simp,.inl ⟨_,_,rfl,run_takeDeferred hK4,?_⟩⟩;refine⟨_,ph rfl _ _ h r _ _ rfl rfl rfl (R4.kept (grownBy_putObj' _ D _) (by intro e;have:=Option.some.inj e;have:=HD.out;omega)),?_,?_⟩
   ·rw[HE.out.1,HE.out.2.1,HE.out.2.2.1]
    rfl
   ·exact B4.trans (belowK_b (w:=w) (Nat.le_refl _) _ D _ _ (by have:=HD.out;have:=HE.out.2.2.2;omega) hK4 rfl rfl)
 case stop=>
  rintro D c pre W _ _ h _;exact h.elim
end
theorem iK (a b k q z:Value) (n:Nd) (w:World) (hr:RdN w a b k q z n):
  Calls Tryz.prog 64 #[NdV a b k q z n] w fun e w'=>e=.returned (SRV a b k n.h)/\iO w w':=by
 obtain⟨w1,hw1⟩:=Fe ((w.alloc (.cells (ndA a b k q z n) 42)).alloc (.cells zeR 96))
 have S1:Hid (StB w1 w.heap.size 42 (ndA a b k q z n)):=by rw[hw1];exact(StB.new _ _ _).alloc _
 have R1:StB w1 (w.heap.size+1) 96 zeR:=by
  rw[hw1];have:=StB.new (w.alloc (.cells (ndA a b k q z n) 42)) 96 zeR
  rwa[World.size_alloc]at this
 have HB:Hid (iO w w1):=by rw[hw1];exact Fc.alloc Fg _
 obtain⟨ao,ac,rfl⟩:=aa hr.ra;obtain⟨bo,bc,rfl⟩:=aa hr.rb;obtain⟨ko,kc,rfl⟩:=aa hr.rk;obtain⟨qo,qc,rfl⟩:=aa hr.rq;obtain⟨zo,zc,rfl⟩:=aa hr.rz;clear hr;unfold zeR at hw1;unfold ndA S at hw1;unfold NdV;conv in ndA (.slice ao n.xs.length ac) _ _ _ _ _=>unfold ndA S
 go_enter Tryz.func64,Tryz.ntmps64;go_upto_region 1 with fail
 rw[<-hw1];clear hw1;have p2:w1.cell? ⟨w.heap.size,2,none⟩=some (.slice ao n.xs.length ac):=S1.out.cell 2 rfl;have p3:w1.cell? ⟨w.heap.size,3,none⟩=some (.slice bo n.ys.length bc):=S1.out.cell 3 rfl;have p4:w1.cell? ⟨w.heap.size,4,none⟩=some (.slice ko n.h.ks.length kc):=S1.out.cell 4 rfl;have p5:w1.cell? ⟨w.heap.size,5,none⟩=some (.int .i64 n.h.kd):=S1.out.cell 5 rfl;have p6:w1.cell? ⟨w.heap.size,6,none⟩=some (.int .i64 n.h.ho):=S1.out.cell 6 rfl;have p7:w1.cell? ⟨w.heap.size,7,none⟩=some (.int .i64 n.h.tu):=S1.out.cell 7 rfl;have r0:w1.cell? ⟨w.heap.size+1,0,none⟩=some (.slice none 0 0):=R1.cell 0 rfl;have g0:=R1.frozen 0;go_wp2_with (refine ae GP rfl _ _ rfl (w.heap.size+1) (srA (.slice ao n.xs.length ac) (.slice bo n.ys.length bc) (.slice ko n.h.ks.length kc) n.h) zeR rfl rfl rfl rfl (ee n.h rfl rfl rfl) R1 ?_;intro w2 s2 g2)
 refine bodyPost_ret (aj GP rfl _ _ (w.heap.size+1) _ rfl rfl s2) rfl ?_;exact⟨rfl,HB.out.grown g2 HB.out.size (fun k e=>by cases e;omega)⟩
theorem v8 (a b k q z:Value) (n:Nd) (w:World) (hr:RdN w a b k q z n) (hl:n.log.length<=1048576) (ht:Tab w):
  Calls Tryz.prog 65 #[NdV a b k q z n] w fun e w'=>e=.returned (.bool n.logP)/\iO w w':=by
 have HE:Hid (n.logP=(decide (n.log.length<=40000)&&((aF n.log).isSome&&d8 (gP (aF n.log)) n.r&&(!n.up||decide (n.log.take (recAt (aF n.log))=n.log))))):=rfl;obtain⟨w1,hw1⟩:=Fe (w.alloc (.cells (ndA a b k q z n) 42))
 have S1:Hid (StB w1 w.heap.size 42 (ndA a b k q z n)):=by rw[hw1];exact StB.new _ _ _
 have HB:Hid (iO w w1):=by rw[hw1];exact Fc
 have c1:=tV n.log w1 hl (ht.below HB.out);obtain⟨r,hrr⟩:=Fe (gP (aF n.log))
 obtain⟨s,hs⟩:=Fe (n.log.take (recAt (aF n.log)))
 obtain⟨x,hx⟩:=Fe ((aF n.log).isSome)
 rw[<-hrr,<-hs,<-hx]at c1 HE;obtain⟨y,hy⟩:=Fe n.logP
 rw[<-hy]at HE⊢;clear hrr hs hx hy ht;have hz:(⟨n.log.toArray⟩:ByteArray).size=n.log.length:=rfl;obtain⟨ao,ac,rfl⟩:=aa hr.ra;obtain⟨bo,bc,rfl⟩:=aa hr.rb;obtain⟨ko,kc,rfl⟩:=aa hr.rk;obtain⟨qo,qc,rfl⟩:=aa hr.rq;obtain⟨zo,zc,rfl⟩:=aa hr.rz;clear hr;unfold RV de S at c1;unfold ndA S at hw1;unfold NdV;conv in ndA (.slice ao n.xs.length ac) _ _ _ _ _=>unfold ndA S
 go_enter Tryz.func65,Tryz.ntmps65;go_upto_region 1 with fail
 rw[<-hw1];clear hw1;have p8:w1.cell? ⟨w.heap.size,8,none⟩=some (.string ⟨n.log.toArray⟩):=S1.out.cell 8 rfl;by_cases h4:40000<n.log.length
 ·have HX:Hid (y=false):=by rw[Hid,HE.out];simp;omega
  clear HE c1;go_wp2;go_ret;exact⟨af HX.out.symm,HB.out⟩
 ·have h4':n.log.length<=40000:=by omega
  have HX:Hid (y=(x&&d8 r n.r&&(!n.up||decide (s=n.log)))):=by rw[Hid,HE.out];simp[h4']
  clear HE;go_wp2_with fail
  refine c1.mono ?_;rintro e w2 ⟨rfl,b2⟩;clear c1 p8;obtain⟨w3,hw3⟩:=Fe (w2.alloc (.cells #[.int .i64 r.e,.int .i64 r.s,.int .i64 r.t,.int .i64 r.n] 38))
  have b3:iO w2 w3:=by rw[hw3];exact Fc
  have R3:Hid (StB w3 w2.heap.size 38 (de r)):=by rw[hw3];exact StB.new _ _ _
  replace S1:Hid (StB w3 w.heap.size 42 (Fk ao ac bo bc ko kc qo qc zo zc n)):=(S1.out.below b2).below b3;replace HB:Hid (iO w w3):=(HB.out.trans (b2.mono HB.out.size)).trans (b3.mono (HB.out.trans (b2.mono HB.out.size)).size);go_upto_region 4 with fail
  rw[<-hw3];clear hw3 b2 b3;have r0:w3.cell? ⟨w2.heap.size,0,none⟩=some (.int .i64 r.e):=R3.out.cell 0 rfl;have r1:w3.cell? ⟨w2.heap.size,1,none⟩=some (.int .i64 r.s):=R3.out.cell 1 rfl;have r2:w3.cell? ⟨w2.heap.size,2,none⟩=some (.int .i64 r.t):=R3.out.cell 2 rfl;have r3:w3.cell? ⟨w2.heap.size,3,none⟩=some (.int .i64 r.n):=R3.out.cell 3 rfl;have p1:w3.cell? ⟨w.heap.size,1,none⟩=some (.bool n.up):=S1.out.cell 1 rfl;have p8:w3.cell? ⟨w.heap.size,8,none⟩=some (.string ⟨n.log.toArray⟩):=S1.out.cell 8 rfl;have p9:w3.cell? ⟨w.heap.size,9,none⟩=some (.int .i64 n.r.e):=S1.out.cell 9 rfl;have p10:w3.cell? ⟨w.heap.size,10,none⟩=some (.int .i64 n.r.s):=S1.out.cell 10 rfl;have p11:w3.cell? ⟨w.heap.size,11,none⟩=some (.int .i64 n.r.t):=S1.out.cell 11 rfl;have p12:w3.cell? ⟨w.heap.size,12,none⟩=some (.int .i64 n.r.n):=S1.out.cell 12 rfl;cases x with
  |false=>
   go_wp2;go_ret;exact⟨af (by rw[HX.out];simp),HB.out⟩
  |true=>
   cases t0:(r.e==n.r.e)with
   |false=>
    have HS:Hid (d8 r n.r=false):=by
     have:¬r.e=n.r.e:=by simpa using t0
     simp[Hid,d8,this]
    go_wp2;go_ret;exact⟨af (by rw[HX.out,HS.out];simp),HB.out⟩
   |true=>
    cases t1:(r.s==n.r.s)with
    |false=>
     have HS:Hid (d8 r n.r=false):=by
      have:¬r.s=n.r.s:=by simpa using t1
      simp[Hid,d8,this]
     go_wp2;go_ret;exact⟨af (by rw[HX.out,HS.out];simp),HB.out⟩
    |true=>
     cases t2:(r.t==n.r.t)with
     |false=>
      have HS:Hid (d8 r n.r=false):=by
       have:¬r.t=n.r.t:=by simpa using t2
       simp[Hid,d8,this]
      go_wp2;go_ret;exact⟨af (by rw[HX.out,HS.out];simp),HB.out⟩
     |true=>
      cases t3:(r.n==n.r.n)with
      |false=>
       have HS:Hid (d8 r n.r=false):=by
        have:¬r.n=n.r.n:=by simpa using t3
        simp[Hid,d8,this]
       go_wp2;go_ret;exact⟨af (by rw[HX.out,HS.out];simp),HB.out⟩
      |true=>
       have HS:Hid (d8 r n.r=true):=by
        simp only[beq_iff_eq]at t0 t1 t2 t3;simp[Hid,d8,t0,t1,t2,t3]
       cases hu:n.up with
       |false=>
        rw[hu]at p1;have HU:Hid (n.up=false):=hu;clear hu;go_wp2;go_ret;exact⟨af (by rw[HX.out,HS.out,HU.out];simp),HB.out⟩
       |true=>
        rw[hu]at p1;have HU:Hid (n.up=true):=hu;clear hu;cases tl:(s==n.log)with
        |false=>
         have HV:Hid (decide (s=n.log)=false):=by
          have:¬s=n.log:=by simpa using tl
          simp[Hid,this]
         go_wp2;go_ret;exact⟨af (by rw[HX.out,HS.out,HU.out,HV.out];simp),HB.out⟩
        |true=>
         have HV:Hid (decide (s=n.log)=true):=by
          have:s=n.log:=by simpa using tl
          simp[Hid,this]
         go_wp2;go_ret;exact⟨af (by rw[HX.out,HS.out,HU.out,HV.out];simp),HB.out⟩
theorem tM (a b k q z:Value) (n:Nd) (w:World) (hr:RdN w a b k q z n) (hl:SmN n):
  Calls Tryz.prog 66 #[NdV a b k q z n] w fun e w'=>e=.returned (.bool n.copP)/\iO w w':=by
 have HE:Hid (n.copP=(n.c.unused||(n.up&&decide (n.r.s≠3)&&decide (n.c.tr=n.r.t)&&n.c.ok&&decide (n.c.ts.length=n.ys.length)))):=rfl;obtain⟨w1,hw1⟩:=Fe (w.alloc (.cells (ndA a b k q z n) 42))
 have S1:Hid (StB w1 w.heap.size 42 (ndA a b k q z n)):=by rw[hw1];exact StB.new _ _ _
 have HB:Hid (iO w w1):=by rw[hw1];exact Fc
 have HR:Hid (∀wx,iO w wx->RdN wx a b k q z n):=fun wx B=>hr.below B
 have C1:Hid (∀wx,iO w wx->Calls Tryz.prog 106 #[CpV q n.c] wx fun e w'=>e=.returned (.bool n.c.unused)/\iO wx w'):=fun wx B=>mB _ n.c wx (HR.out wx B).rq
 have C2:Hid (∀wx,iO w wx->Calls Tryz.prog 107 #[CpV q n.c] wx fun e w'=>e=.returned (.bool n.c.ok)/\iO wx w'):=fun wx B=>nY _ n.c wx (HR.out wx B).rq (by have:=hl.lq;omega)
 obtain⟨x,hx⟩:=Fe n.c.unused
 obtain⟨o,ho⟩:=Fe n.c.ok
 obtain⟨y,hy⟩:=Fe n.copP
 rw[<-hx,<-ho,<-hy]at HE;rw[<-hx]at C1;rw[<-ho]at C2;rw[<-hy];clear hx ho hy hl;obtain⟨ao,ac,rfl⟩:=aa hr.ra;obtain⟨bo,bc,rfl⟩:=aa hr.rb;obtain⟨ko,kc,rfl⟩:=aa hr.rk;obtain⟨qo,qc,rfl⟩:=aa hr.rq;obtain⟨zo,zc,rfl⟩:=aa hr.rz;clear hr HR;unfold CpV cpA at C1 C2;unfold ndA S at hw1;unfold NdV;conv in ndA (.slice ao n.xs.length ac) _ _ _ _ _=>unfold ndA S
 go_enter Tryz.func66,Tryz.ntmps66;go_upto_region 1 with fail
 rw[<-hw1];clear hw1;have p13:w1.cell? ⟨w.heap.size,13,none⟩=some (.int .i64 n.c.tr):=S1.out.cell 13 rfl;have p14:w1.cell? ⟨w.heap.size,14,none⟩=some (.bool n.c.op):=S1.out.cell 14 rfl;have p15:w1.cell? ⟨w.heap.size,15,none⟩=some (.int .i64 n.c.di):=S1.out.cell 15 rfl;have p16:w1.cell? ⟨w.heap.size,16,none⟩=some (.int .i64 n.c.wa):=S1.out.cell 16 rfl;have p17:w1.cell? ⟨w.heap.size,17,none⟩=some (.slice qo n.c.ts.length qc):=S1.out.cell 17 rfl;go_wp2_with fail
 refine(C1.out w1 HB.out).mono ?_;rintro e w2 ⟨rfl,b2⟩;replace S1:Hid (StB w2 w.heap.size 42 (Fk ao ac bo bc ko kc qo qc zo zc n)):=S1.out.below b2;replace HB:Hid (iO w w2):=HB.out.trans (b2.mono HB.out.size);clear b2 C1 p13 p14 p15 p16 p17;cases x with
 |true=>
  clear C2;go_wp2;go_ret;exact⟨af (by rw[HE.out];rfl),HB.out⟩
 |false=>
  have HX:Hid (y=(n.up&&decide (n.r.s≠3)&&decide (n.c.tr=n.r.t)&&o&&decide (n.c.ts.length=n.ys.length))):=by rw[Hid,HE.out];simp
  clear HE;have p1:w2.cell? ⟨w.heap.size,1,none⟩=some (.bool n.up):=S1.out.cell 1 rfl;have p3:w2.cell? ⟨w.heap.size,3,none⟩=some (.slice bo n.ys.length bc):=S1.out.cell 3 rfl;have p10:w2.cell? ⟨w.heap.size,10,none⟩=some (.int .i64 n.r.s):=S1.out.cell 10 rfl;have p11:w2.cell? ⟨w.heap.size,11,none⟩=some (.int .i64 n.r.t):=S1.out.cell 11 rfl;have p13:w2.cell? ⟨w.heap.size,13,none⟩=some (.int .i64 n.c.tr):=S1.out.cell 13 rfl;have p14:w2.cell? ⟨w.heap.size,14,none⟩=some (.bool n.c.op):=S1.out.cell 14 rfl;have p15:w2.cell? ⟨w.heap.size,15,none⟩=some (.int .i64 n.c.di):=S1.out.cell 15 rfl;have p16:w2.cell? ⟨w.heap.size,16,none⟩=some (.int .i64 n.c.wa):=S1.out.cell 16 rfl;have p17:w2.cell? ⟨w.heap.size,17,none⟩=some (.slice qo n.c.ts.length qc):=S1.out.cell 17 rfl;cases hu:n.up with
  |false=>
   rw[hu]at p1;have HU:Hid (n.up=false):=hu;clear hu C2;go_wp2;go_ret;exact⟨af (by rw[HX.out,HU.out];simp),HB.out⟩
  |true=>
   rw[hu]at p1;have HU:Hid (n.up=true):=hu;clear hu;cases t1:(n.r.s !=3)with
   |false=>
    have HS:Hid (decide (n.r.s≠3)=false):=by simpa[Hid]using t1
    clear C2;go_wp2;go_ret;exact⟨af (by rw[HX.out,HS.out];simp),HB.out⟩
   |true=>
    have HS:Hid (decide (n.r.s≠3)=true):=by simpa[Hid]using t1
    cases t2:(n.c.tr==n.r.t)with
    |false=>
     have HT:Hid (decide (n.c.tr=n.r.t)=false):=by simpa[Hid]using t2
     clear C2;go_wp2;go_ret;exact⟨af (by rw[HX.out,HT.out];simp),HB.out⟩
    |true=>
     have HT:Hid (decide (n.c.tr=n.r.t)=true):=by simpa[Hid]using t2
     go_wp2_with fail
     refine(C2.out w2 HB.out).mono ?_;rintro e w3 ⟨rfl,b3⟩;replace S1:Hid (StB w3 w.heap.size 42 (Fk ao ac bo bc ko kc qo qc zo zc n)):=S1.out.below b3;replace HB:Hid (iO w w3):=HB.out.trans (b3.mono HB.out.size);clear b3 C2 p1 p3 p10 p11 p13 p14 p15 p16 p17;have p3:w3.cell? ⟨w.heap.size,3,none⟩=some (.slice bo n.ys.length bc):=S1.out.cell 3 rfl;have p17:w3.cell? ⟨w.heap.size,17,none⟩=some (.slice qo n.c.ts.length qc):=S1.out.cell 17 rfl;cases o with
     |false=>
      go_wp2;go_ret;exact⟨af (by rw[HX.out];simp),HB.out⟩
     |true=>
      cases t3:((n.c.ts.length:Int)==(n.ys.length:Int))with
      |false=>
       have HL:Hid (decide (n.c.ts.length=n.ys.length)=false):=by simp only[Hid,beq_eq_false_iff_ne,ne_eq,Int.natCast_inj]at t3⊢;simpa using t3
       go_wp2;go_ret;exact⟨af (by rw[HX.out,HL.out];simp),HB.out⟩
      |true=>
       have HL:Hid (decide (n.c.ts.length=n.ys.length)=true):=by simp only[Hid,beq_iff_eq,Int.natCast_inj]at t3⊢;simpa using t3
       go_wp2;go_ret;exact⟨af (by rw[HX.out,HU.out,HS.out,HT.out,HL.out];simp),HB.out⟩
theorem tN (a b k q z:Value) (n:Nd) (w:World) (hr:RdN w a b k q z n) (hl:SmN n):
  Calls Tryz.prog 67 #[NdV a b k q z n] w fun e w'=>e=.returned (.bool n.snkP)/\iO w w':=by
 have HE:Hid (n.snkP=(n.s.unused||(n.up&&decide (n.r.s=3)&&decide (n.s.tr=n.r.n)&&n.s.ok&&decide (n.s.ts.length=n.ys.length)))):=rfl;obtain⟨w1,hw1⟩:=Fe (w.alloc (.cells (ndA a b k q z n) 42))
 have S1:Hid (StB w1 w.heap.size 42 (ndA a b k q z n)):=by rw[hw1];exact StB.new _ _ _
 have HB:Hid (iO w w1):=by rw[hw1];exact Fc
 have HR:Hid (∀wx,iO w wx->RdN wx a b k q z n):=fun wx B=>hr.below B
 have C1:Hid (∀wx,iO w wx->Calls Tryz.prog 108 #[SnV z n.s] wx fun e w'=>e=.returned (.bool n.s.unused)/\iO wx w'):=fun wx B=>lf _ n.s wx (HR.out wx B).rz
 have C2:Hid (∀wx,iO w wx->Calls Tryz.prog 109 #[SnV z n.s] wx fun e w'=>e=.returned (.bool n.s.ok)/\iO wx w'):=fun wx B=>tY _ n.s wx (HR.out wx B).rz (by have:=hl.lz;omega)
 obtain⟨x,hx⟩:=Fe n.s.unused
 obtain⟨o,ho⟩:=Fe n.s.ok
 obtain⟨y,hy⟩:=Fe n.snkP
 rw[<-hx,<-ho,<-hy]at HE;rw[<-hx]at C1;rw[<-ho]at C2;rw[<-hy];clear hx ho hy hl;obtain⟨ao,ac,rfl⟩:=aa hr.ra;obtain⟨bo,bc,rfl⟩:=aa hr.rb;obtain⟨ko,kc,rfl⟩:=aa hr.rk;obtain⟨qo,qc,rfl⟩:=aa hr.rq;obtain⟨zo,zc,rfl⟩:=aa hr.rz;clear hr HR;unfold SnV snA at C1 C2;unfold ndA S at hw1;unfold NdV;conv in ndA (.slice ao n.xs.length ac) _ _ _ _ _=>unfold ndA S
 go_enter Tryz.func67,Tryz.ntmps67;go_upto_region 1 with fail
 rw[<-hw1];clear hw1;have p18:w1.cell? ⟨w.heap.size,18,none⟩=some (.int .i64 n.s.tr):=S1.out.cell 18 rfl;have p19:w1.cell? ⟨w.heap.size,19,none⟩=some (.slice zo n.s.ts.length zc):=S1.out.cell 19 rfl;go_wp2_with fail
 refine(C1.out w1 HB.out).mono ?_;rintro e w2 ⟨rfl,b2⟩;replace S1:Hid (StB w2 w.heap.size 42 (Fk ao ac bo bc ko kc qo qc zo zc n)):=S1.out.below b2;replace HB:Hid (iO w w2):=HB.out.trans (b2.mono HB.out.size);clear b2 C1 p18 p19;cases x with
 |true=>
  clear C2;go_wp2;go_ret;exact⟨af (by rw[HE.out];rfl),HB.out⟩
 |false=>
  have HX:Hid (y=(n.up&&decide (n.r.s=3)&&decide (n.s.tr=n.r.n)&&o&&decide (n.s.ts.length=n.ys.length))):=by rw[Hid,HE.out];simp
  clear HE;have p1:w2.cell? ⟨w.heap.size,1,none⟩=some (.bool n.up):=S1.out.cell 1 rfl;have p3:w2.cell? ⟨w.heap.size,3,none⟩=some (.slice bo n.ys.length bc):=S1.out.cell 3 rfl;have p10:w2.cell? ⟨w.heap.size,10,none⟩=some (.int .i64 n.r.s):=S1.out.cell 10 rfl;have p12:w2.cell? ⟨w.heap.size,12,none⟩=some (.int .i64 n.r.n):=S1.out.cell 12 rfl;have p18:w2.cell? ⟨w.heap.size,18,none⟩=some (.int .i64 n.s.tr):=S1.out.cell 18 rfl;have p19:w2.cell? ⟨w.heap.size,19,none⟩=some (.slice zo n.s.ts.length zc):=S1.out.cell 19 rfl;cases hu:n.up with
  |false=>
   rw[hu]at p1;have HU:Hid (n.up=false):=hu;clear hu C2;go_wp2;go_ret;exact⟨af (by rw[HX.out,HU.out];simp),HB.out⟩
  |true=>
   rw[hu]at p1;have HU:Hid (n.up=true):=hu;clear hu;cases t1:(n.r.s==3)with
   |false=>
    have HS:Hid (decide (n.r.s=3)=false):=by simpa[Hid]using t1
    clear C2;go_wp2;go_ret;exact⟨af (by rw[HX.out,HS.out];simp),HB.out⟩
   |true=>
    have HS:Hid (decide (n.r.s=3)=true):=by simpa[Hid]using t1
    cases t2:(n.s.tr==n.r.n)with
    |false=>
     have HT:Hid (decide (n.s.tr=n.r.n)=false):=by simpa[Hid]using t2
     clear C2;go_wp2;go_ret;exact⟨af (by rw[HX.out,HT.out];simp),HB.out⟩
    |true=>
     have HT:Hid (decide (n.s.tr=n.r.n)=true):=by simpa[Hid]using t2
     go_wp2_with fail
     refine(C2.out w2 HB.out).mono ?_;rintro e w3 ⟨rfl,b3⟩;replace S1:Hid (StB w3 w.heap.size 42 (Fk ao ac bo bc ko kc qo qc zo zc n)):=S1.out.below b3;replace HB:Hid (iO w w3):=HB.out.trans (b3.mono HB.out.size);clear b3 C2 p1 p3 p10 p12 p18 p19;have p3:w3.cell? ⟨w.heap.size,3,none⟩=some (.slice bo n.ys.length bc):=S1.out.cell 3 rfl;have p19:w3.cell? ⟨w.heap.size,19,none⟩=some (.slice zo n.s.ts.length zc):=S1.out.cell 19 rfl;cases o with
     |false=>
      go_wp2;go_ret;exact⟨af (by rw[HX.out];simp),HB.out⟩
     |true=>
      cases t3:((n.s.ts.length:Int)==(n.ys.length:Int))with
      |false=>
       have HL:Hid (decide (n.s.ts.length=n.ys.length)=false):=by simp only[Hid,beq_eq_false_iff_ne,ne_eq,Int.natCast_inj]at t3⊢;simpa using t3
       go_wp2;go_ret;exact⟨af (by rw[HX.out,HL.out];simp),HB.out⟩
      |true=>
       have HL:Hid (decide (n.s.ts.length=n.ys.length)=true):=by simp only[Hid,beq_iff_eq,Int.natCast_inj]at t3⊢;simpa using t3
       go_wp2;go_ret;exact⟨af (by rw[HX.out,HU.out,HS.out,HT.out,HL.out];simp),HB.out⟩
theorem aD {t:TypeId} {n:Nat} (hS:IsS t n) {ops:Array Oper} {rest:List Oper} {o:Oper} {a:Act} {w:World} {Q:Exit->Act->World->Prop} (hw:Region.wanted o (yielded ops a.tmps)=true) (x:Operand) (ho:o.op=.load t x)
  (g:Nat) (hx:a.eval x=.pointer (some ⟨g,0,none⟩)) (cs:Array Value) (hn:cs.size=n) (hr:StB w g t cs)
  (h:wpList Tryz.prog ops Q rest (a.put o.dst (.agg cs)) w):wpList Tryz.prog ops Q (o::rest) a w:=by
 obtain⟨⟨fs,hu⟩,hi⟩:=hS;exact wpList_step fun K hK=>by rw[if_pos hw];exact wp_load_row _ x ho g hx _ _ _ _ hr hu rfl (by rw[hi,hn]) (hK _ _ h)
theorem tP (a b k q z:Value) (n:Nd) (w:World) (hr:RdN w a b k q z n) (hl:SmN n) (ht:Tab w):
  Calls Tryz.prog 24 #[NdV a b k q z n] w fun e w'=>e=.returned (.bool n.ok)/\iO w w':=by
 have HE:Hid (n.ok=(inI n.id 0 1&&(Sr.ok ⟨n.xs,n.ys,n.h⟩&&(n.logP&&(n.copP&&n.snkP))))):=Nd.ok_prog n;obtain⟨w1,hw1⟩:=Fe (w.alloc (.cells (ndA a b k q z n) 42))
 have S1:Hid (StB w1 w.heap.size 42 (ndA a b k q z n)):=by rw[hw1];exact StB.new _ _ _
 have HB:Hid (iO w w1):=by rw[hw1];exact Fc
 have HR:Hid (∀wx,iO w wx->RdN wx a b k q z n):=fun wx B=>hr.below B
 have HT:Hid (∀wx,iO w wx->Tab wx):=fun wx B=>ht.below B
 have C0:Hid (∀wx,Calls Tryz.prog 62 #[.int .i64 n.id] wx fun e w'=>e=.returned (.bool (inI n.id 0 1))/\w'=wx):=fun wx=>zi n.id wx
 have C1:Hid (∀wx,iO w wx->Calls Tryz.prog 64 #[NdV a b k q z n] wx fun e w'=>e=.returned (SRV a b k n.h)/\iO wx w'):=fun wx B=>iK a b k q z n wx (HR.out wx B)
 have C2:Hid (∀wx,iO w wx->Calls Tryz.prog 63 #[SRV a b k n.h] wx fun e w'=>e=.returned (.bool (Sr.ok ⟨n.xs,n.ys,n.h⟩))/\iO wx w'):=fun wx B=>gj a b k n.xs n.ys n.h wx (HR.out wx B).ra (HR.out wx B).rb (HR.out wx B).rk (by have:=hl.la;omega) (by have:=hl.lb;omega) (by have:=hl.lk;omega)
 have C3:Hid (∀wx,iO w wx->Calls Tryz.prog 65 #[NdV a b k q z n] wx fun e w'=>e=.returned (.bool n.logP)/\iO wx w'):=fun wx B=>v8 a b k q z n wx (HR.out wx B) hl.ll (HT.out wx B)
 have C4:Hid (∀wx,iO w wx->Calls Tryz.prog 66 #[NdV a b k q z n] wx fun e w'=>e=.returned (.bool n.copP)/\iO wx w'):=fun wx B=>tM a b k q z n wx (HR.out wx B) hl
 have C5:Hid (∀wx,iO w wx->Calls Tryz.prog 67 #[NdV a b k q z n] wx fun e w'=>e=.returned (.bool n.snkP)/\iO wx w'):=fun wx B=>tN a b k q z n wx (HR.out wx B) hl
 obtain⟨y0,hy0⟩:=Fe (inI n.id 0 1)
 rw[<-hy0]at HE;simp only[<-hy0]at C0;clear hy0;obtain⟨y1,hy1⟩:=Fe (Sr.ok ⟨n.xs,n.ys,n.h⟩)
 rw[<-hy1]at HE;simp only[<-hy1]at C2;clear hy1;obtain⟨y2,hy2⟩:=Fe n.logP
 rw[<-hy2]at HE;simp only[<-hy2]at C3;clear hy2;obtain⟨y3,hy3⟩:=Fe n.copP
 rw[<-hy3]at HE;simp only[<-hy3]at C4;clear hy3;obtain⟨y4,hy4⟩:=Fe n.snkP
 rw[<-hy4]at HE;simp only[<-hy4]at C5;clear hy4;obtain⟨y,hy⟩:=Fe n.ok
 rw[<-hy]at HE⊢;clear hy hl ht HT;obtain⟨ao,ac,rfl⟩:=aa hr.ra;obtain⟨bo,bc,rfl⟩:=aa hr.rb;obtain⟨ko,kc,rfl⟩:=aa hr.rk;obtain⟨qo,qc,rfl⟩:=aa hr.rq;obtain⟨zo,zc,rfl⟩:=aa hr.rz;clear hr HR;unfold SRV srA at C1 C2;unfold NdV at C1 C3 C4 C5;unfold ndA S at hw1;unfold NdV;conv in ndA (.slice ao n.xs.length ac) _ _ _ _ _=>unfold ndA S
 go_enter Tryz.func24,Tryz.ntmps24;go_upto_region 1 with fail
 rw[<-hw1];clear hw1;have p0:w1.cell? ⟨w.heap.size,0,none⟩=some (.int .i64 n.id):=S1.out.cell 0 rfl;go_wp2_with fail
 refine Fd (C0.out w1) ?_;clear C0 p0;cases y0 with
 |false=>
  go_wp2;go_ret;exact⟨af (by rw[HE.out];simp),HB.out⟩
 |true=>
  go_wp2_with (refine aD GO rfl _ rfl w.heap.size rfl (Fk ao ac bo bc ko kc qo qc zo zc n) rfl S1.out ?_)
  refine(C1.out w1 HB.out).mono ?_;rintro e w2 ⟨rfl,bx⟩;replace S1:Hid (StB w2 w.heap.size 42 (Fk ao ac bo bc ko kc qo qc zo zc n)):=S1.out.below bx;replace HB:Hid (iO w w2):=HB.out.trans (bx.mono HB.out.size);clear bx C1;go_wp2_with fail
  refine(C2.out w2 HB.out).mono ?_;rintro e w3 ⟨rfl,bx⟩;replace S1:Hid (StB w3 w.heap.size 42 (Fk ao ac bo bc ko kc qo qc zo zc n)):=S1.out.below bx;replace HB:Hid (iO w w3):=HB.out.trans (bx.mono HB.out.size);clear bx C2;cases y1 with
  |false=>
   go_wp2;go_ret;exact⟨af (by rw[HE.out];simp),HB.out⟩
  |true=>
   go_wp2_with (refine aD GO rfl _ rfl w.heap.size rfl (Fk ao ac bo bc ko kc qo qc zo zc n) rfl S1.out ?_)
   refine(C3.out w3 HB.out).mono ?_;rintro e w4 ⟨rfl,bx⟩;replace S1:Hid (StB w4 w.heap.size 42 (Fk ao ac bo bc ko kc qo qc zo zc n)):=S1.out.below bx;replace HB:Hid (iO w w4):=HB.out.trans (bx.mono HB.out.size);clear bx C3;cases y2 with
   |false=>
    go_wp2;go_ret;exact⟨af (by rw[HE.out];simp),HB.out⟩
   |true=>
    go_wp2_with (refine aD GO rfl _ rfl w.heap.size rfl (Fk ao ac bo bc ko kc qo qc zo zc n) rfl S1.out ?_)
    refine(C4.out w4 HB.out).mono ?_;rintro e w5 ⟨rfl,bx⟩;replace S1:Hid (StB w5 w.heap.size 42 (Fk ao ac bo bc ko kc qo qc zo zc n)):=S1.out.below bx;replace HB:Hid (iO w w5):=HB.out.trans (bx.mono HB.out.size);clear bx C4;cases y3 with
    |false=>
     go_wp2;go_ret;exact⟨af (by rw[HE.out];simp),HB.out⟩
    |true=>
     go_wp2_with (refine aD GO rfl _ rfl w.heap.size rfl (Fk ao ac bo bc ko kc qo qc zo zc n) rfl S1.out ?_)
     refine(C5.out w5 HB.out).mono ?_;rintro e w6 ⟨rfl,bx⟩;replace S1:Hid (StB w6 w.heap.size 42 (Fk ao ac bo bc ko kc qo qc zo zc n)):=S1.out.below bx;replace HB:Hid (iO w w6):=HB.out.trans (bx.mono HB.out.size);clear bx C5;go_wp2;go_ret;exact⟨af (by rw[HE.out];simp),HB.out⟩
def uz (m:Nd):Prop:=m=Nd.zero∨NdR m
theorem NdR.lens {n:Nd} (h:NdR n):n.xs.length<=8/\n.ys.length<=8/\n.h.ks.length=4/\n.c.ts.length<=8/\n.s.ts.length<=8/\n.log.length<=40000:=by
 obtain⟨k1,k2,k3⟩:=eH h.dk;refine⟨(bE k1).2,(bE k2).2,Hd.ok_len h.h,?_,?_,h.ll⟩
 ·cases hc:n.c.unused with
  |true=>
   unfold Cp.unused at hc;simp only[Bool.and_eq_true,decide_eq_true_eq]at hc;omega
  |false=>
   have:=h.c;rw[Cp.ok_used hc]at this;simp only[Bool.and_eq_true,inI,decide_eq_true_eq]at this;omega
 ·cases hc:n.s.unused with
  |true=>
   unfold Sn.unused at hc;simp only[Bool.and_eq_true,decide_eq_true_eq]at hc;omega
  |false=>
   have:=h.s;rw[Sn.ok_used hc]at this;simp only[Bool.and_eq_true,inI,decide_eq_true_eq]at this;omega
theorem uz.sm {m:Nd} (h:uz m):SmN m:=by
 rcases h with rfl|h
 ·exact⟨by decide,by decide,by decide,by decide,by decide,by decide⟩
 ·have:=h.lens
  exact⟨by omega,by omega,by omega,by omega,by omega,by omega⟩
theorem uz.len {m:Nd} (h:uz m):m.len<=1048576:=by
 rcases h with rfl|h
 ·decide
 ·have:=h.lens
  unfold Nd.len;omega
theorem GM:IsS 34 20:=⟨⟨_,Tryz.underlying34⟩,by kernel_rfl⟩
theorem SmN.of {n:Nd} (h:n.len+n.log.length<=1048576):SmN n:=by
 unfold Nd.len at h;exact⟨by omega,by omega,by omega,by omega,by omega,by omega⟩
theorem Sta.varS {w wx wy:World} {L:List cW} {t:TypeId} {cs ds:Array Value} (h:Sta w wx L) (s:StB wy wx.heap.size t cs) (G:(wx.alloc (.cells ds t)).grownBy wy (some wx.heap.size)):Sta w wy (Blk wx.heap.size t cs::L):=by
 have b:iO wx wy:=Fc.grown G Fg (fun k e=>by cases e;omega);refine h.add b (Blk wx.heap.size t cs) s (fun k hk=>?_);simp only[Blk,List.mem_singleton]at hk;subst hk;exact⟨Nat.le_refl _,s.lt⟩
theorem Sta.ink {w wx wy:World} {L:List cW} {a b k q z:Value} {n:Nd} {i:Int} (h:Sta w wx L) (j:Nat) (e:L[j]?=some (NdI a b k q z n)) (o:aP wy 0 a b k q z (n.inked i)) (m:aw wx wy (me a b k q z n)):Sta w wy (L.set j (NdI a b k q z (n.inked i))):=
 h.turn j e m (NdI a b k q z (n.inked i)) (by
  show me a b k q z (n.inked i)=me a b k q z n;have le:∀(v:Value) (xs:List Int) (j:Int),bn v (aS j xs.length)=bn v xs:=fun v xs j=>by unfold bn aS;simp
  unfold me;show blk a++(blk b++(blk k++(bn q (aS _ n.c.ts.length)++bn z (aS _ n.s.ts.length))))=_;rw[le,le]) o
structure Kin (p:World->Prop) where
 x:World
 h:p x
theorem eQ (p:World->Prop) {id:Nat} {Q:Exit->Act->World->Prop} {a:Act} {w:World} {l:List Oper} (hm:Tryz.prog.follows .mixedOrders=true) (hB:Region.lexB .any l.toArray=true) (h0:p w.drew)
  (h:wpQuiet Tryz.prog l.toArray (fun w'=>∃q:Kin p,w'=q.x) (fun a'=>∀w',(∃q:Kin p,w'=q.x)->Q .normal a' w') l a):(Code.region id l.toArray true).wp Tryz.prog Q a w:=
 wp_region_quiet (C:=fun w'=>∃q:Kin p,w'=q.x) hm hB ⟨⟨w.drew,h0⟩,rfl⟩ (by simpa using h)
theorem Kin.call {p:World->Prop} {q:Kin p} {fn:FuncId} {args:Array Value} {v:Value}
  (h:Calls Tryz.prog fn args q.x fun e w'=>e=.returned v/\Below q.x.heap.size q.x w') (hb:∀x w',p x->iO x w'->p w'):Calls Tryz.prog fn args q.x fun e w''=>e=.returned v/\∃q:Kin p,w''=q.x:=
 h.mono fun _ w' ⟨he,b⟩=>⟨he,⟨w',hb _ _ q.h b⟩,rfl⟩
theorem Kin.same {p:World->Prop} {q:Kin p} {fn:FuncId} {args:Array Value} {v:Value}
  (h:Calls Tryz.prog fn args q.x fun e w'=>e=.returned v/\w'=q.x):Calls Tryz.prog fn args q.x fun e w''=>e=.returned v/\∃q:Kin p,w''=q.x:=
 h.mono fun _ _ ⟨he,b⟩=>⟨he,q,b⟩
end Go.Proofs.YthldeiojlllkdaaGreatDoor
