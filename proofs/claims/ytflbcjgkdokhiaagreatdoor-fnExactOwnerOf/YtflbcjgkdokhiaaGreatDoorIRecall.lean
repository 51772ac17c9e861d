/- What Recalled of the program answers: it ranges over its iterator, and reads each text. -/
import Derived.Test.YtflbcjgkdokhiaaGreatDoorM29
import Derived.Test.YtflbcjgkdokhiaaGreatDoorM30
import Derived.Test.YtflbcjgkdokhiaaGreatDoorM14
import Derived.RangeFuncCalls
import Derived.Shelf.RegionOpen
set_option maxRecDepth 100000
set_option maxHeartbeats 4000000
namespace Go.Proofs.YtflbcjgkdokhiaaGreatDoor
open Go.ChangeShapes Go.WideShapes Go.ChangeAt Go.RowKit
attribute [local go_sem] Oper.semAt_some
abbrev Fr:={x:Bs×Nat//x.1.length≤1048576∧x.2≤1048576}
theorem whole_stopsR (n:Nat) (hn:1≤n) (Bn n0:Nat) (s:Bs) (hl:s.length≤1048576) (w:World) (hBn:w.cell? ⟨Bn,0,none⟩=some (S s)) (hlt:Bn<w.heap.size) (hn0:n0≤w.heap.size) (ht:∀W',Below n0 w W'→Tab W'):
  SeqStopsK Fence.wide n Tryz.prog 127 #[.pointer (some ⟨Bn,0,none⟩)] (fun x:Fr=>#[S x.1.1,.int .i64 (x.1.2:Nat)]) (Keep Bn n0) (fun ys=>ys.map Subtype.val=wholeE s) (fun _=>True) (wholeE s).length w:=by
 intro l J Jx W hW hJ hJx hY h0
 have:=iter_in n hn l Bn n0 s hl (fun pre W=>∃pre':List Fr,pre'.map Subtype.val=pre∧J pre' W) (fun pre W=>∃pre':List Fr,pre'.map Subtype.val=pre∧Jx pre' W) W
  (fun pre A B row h hg hr=>by obtain⟨pre',hm,hj⟩:=h;exact⟨pre',hm,hJ pre' A B row hj hg hr⟩)
  ((hW.cell (p:=⟨Bn,0,none⟩) hlt).trans hBn) (fun W' hb=>ht W' ((hW.mono hn0).trans hb)) (Nat.le_trans hn0 hW.size)
  (fun pre x W1 h hlen h1 h2=>by
   obtain⟨pre',hm,hj⟩:=h
   obtain⟨fn,tmps,assign,body,hy,hR⟩:=hY pre' ⟨x,h1,h2⟩ W1 hj (by rw[←hm,List.length_map]at hlen;exact hlen)
   refine⟨fn,tmps,assign,body,hy,hR.mono ?_⟩
   rintro e W' (⟨he,hj',hk⟩|⟨he,hj'⟩)
   ·exact .inl ⟨he,⟨pre'++[⟨x,h1,h2⟩],by simp[hm],hj'⟩,hk⟩
   ·exact .inr ⟨he,⟨pre'++[⟨x,h1,h2⟩],by simp[hm],hj'⟩⟩)
  ⟨[],rfl,h0⟩
 refine this.mono ?_
 rintro e W' ⟨hv,h⟩
 refine⟨hv,?_⟩
 rcases h with⟨ys,rfl,pre',hm,hj⟩|⟨pre,_,pre',_,hj⟩
 ·exact .inl ⟨pre',hm,hj⟩
 ·exact .inr ⟨pre',trivial,hj⟩
theorem recB_own {β:Type} (B:Nat) (t:TypeId) (f:β→Rc):Go.Own (fun s W=>RecB W B t (f s)):=by
 rintro s X Y row hv hg hrow
 refine hv.kept hg (fun e'=>?_)
 obtain⟨o,ho,hc⟩:=hrow B e'.symm
 rw[show X.heap[B]?=_ from hv]at ho
 cases ho
 cases hc
theorem RecB.other {w:World} {g:Nat} {t:TypeId} {r:Rc} (h:RecB w g t r) (a:Addr) (v:Value) (hne:g≠a.block):RecB (w.setCell a v) g t r:=(heap_setCell_other w a g v hne).trans h
theorem grown4 (w:World) (g:Nat) (a b c d:Value):w.grownBy ((((w.setCell ⟨g,0,none⟩ a).setCell ⟨g,1,none⟩ b).setCell ⟨g,2,none⟩ c).setCell ⟨g,3,none⟩ d) (some g):=
 (((grownSetS w g 0 a).trans (grownSetS _ g 1 b)).trans (grownSetS _ g 2 c)).trans (grownSetS _ g 3 d)
def recP (pre:List Fr):Option (Rc×Nat):=recallE (pre.map Subtype.val)
theorem recP_snoc (pre:List Fr) (x:Fr):recP (pre++[x])=stepE (recP pre) x.1:=by unfold recP;rw[List.map_append];exact recallE_snoc _ _
theorem irecall_any (s:Bs) (w:World) (hl:s.length≤1048576) (ht:Tab w):
  Calls Tryz.prog 99 #[S s] w fun e w'=>e=.returned (.tuple #[RV (recR (recallB s)),S (s.take (recAt (recallB s))),.bool (recallB s).isSome])∧Below w.heap.size w w':=by
 unfold S
 refine(callsIn_wide (n:=5)).1 ?_
 refine callsIn_of_wp_marks Tryz.func99 rfl trivial ?_ rfl
 simp only[Tryz.ntmps99,List.size_toArray,List.length_cons,List.length_nil,Nat.reduceAdd,Nat.reduceSub,Array.replicate_succ,Array.replicate_zero,List.push_toArray,List.append_toArray,List.nil_append,List.cons_append]
 gi_wp2_with fail
 refine⟨trivial,(callsIn_wide.2 (whole_any s _)).mono ?_⟩
 rintro e w' ⟨rfl,rfl⟩
 gi_wp2_with fail
 obtain⟨h,hh⟩:∃h,h=w.heap.size:=⟨_,rfl⟩
 rw[←hh]
 obtain⟨W0,hW0⟩:∃W0,W0=((((w.alloc (.cells (recA Rc.zero) 50)).alloc (.cells (recA Rc.zero) 50)).alloc (.cells #[.int .i64 0] 2)).alloc (.cells #[.bool false] 4)).alloc (.cells #[.string ⟨s.toArray⟩] 9):=⟨_,rfl⟩
 have hsz0:W0.heap.size=h+5:=by rw[hW0,hh];simp
 have hB0:Below w.heap.size w W0:=by
  rw[hW0]
  exact(((((Below.refl _ w).alloc (Nat.le_refl _) _).alloc (by simp) _).alloc (by simp;omega) _).alloc (by simp;omega) _).alloc (by simp;omega) _
 have bZ:RecB W0 h 50 Rc.zero:=by
  rw[hW0,hh]
  exact((((RecB.new w 50 Rc.zero).alloc _).alloc _).alloc _).alloc _
 have bL:RecB W0 (h+1) 50 Rc.zero:=by
  rw[hW0,hh]
  have:=RecB.new (w.alloc (.cells (recA Rc.zero) 50)) 50 Rc.zero
  rw[World.size_alloc]at this
  exact((this.alloc _).alloc _).alloc _
 have bA:Boxed W0 (h+1+1) 2 (.int .i64 0):=by
  rw[hW0,hh]
  have:=Boxed.new ((w.alloc (.cells (recA Rc.zero) 50)).alloc (.cells (recA Rc.zero) 50)) 2 (.int .i64 0)
  rw[World.size_alloc,World.size_alloc]at this
  exact(this.alloc _).alloc _
 have bF:Boxed W0 (h+1+1+1) 4 (.bool false):=by
  rw[hW0,hh]
  have:=Boxed.new (((w.alloc (.cells (recA Rc.zero) 50)).alloc (.cells (recA Rc.zero) 50)).alloc (.cells #[.int .i64 0] 2)) 4 (.bool false)
  rw[World.size_alloc,World.size_alloc,World.size_alloc]at this
  exact this.alloc _
 have bS:Boxed W0 (h+1+1+1+1) 9 (.string ⟨s.toArray⟩):=by
  rw[hW0,hh]
  have:=Boxed.new ((((w.alloc (.cells (recA Rc.zero) 50)).alloc (.cells (recA Rc.zero) 50)).alloc (.cells #[.int .i64 0] 2)).alloc (.cells #[.bool false] 4)) 9 (.string ⟨s.toArray⟩)
  rw[World.size_alloc,World.size_alloc,World.size_alloc,World.size_alloc]at this
  exact this
 unfold recA Rc.zero at hW0
 dsimp only at hW0
 rw[←hW0]
 clear hW0
 refine wpIn_rangeFunc_ownG rfl (by omega) (gf:=127) (lb:=#[.pointer (some ⟨h+1+1+1+1,0,none⟩)]) rfl trivial (enters_of Tryz.func127 (by kernel_rfl) rfl)
  (whole_stopsR 4 (by omega) (h+1+1+1+1) w.heap.size s hl W0 bS.cell (by omega) (by omega) (fun W' hb=>ht.below (hB0.trans hb))) Keep.trans (Keep.book (by omega)) (Below.refl _ _) (fun _=>rfl)
  (fun pre W=>((RecB W (h+1) 50 (recR (recP pre))∧Boxed W (h+1+1) 2 (.int .i64 (recAt (recP pre):Nat)))∧(Boxed W (h+1+1+1) 4 (.bool (recP pre).isSome)∧RecB W h 50 Rc.zero))∧(Boxed W (h+1+1+1+1) 9 (.string ⟨s.toArray⟩)∧Below w.heap.size w W))
  (fun _ _ _=>False)
  (OwnFrom.and (OwnFrom.and (OwnFrom.and (Own.from (recB_own (h+1) 50 (fun pre:List Fr=>recR (recP pre))) _) (Own.from (boxed_own (h+1+1) 2 (fun pre:List Fr=>.int .i64 (recAt (recP pre):Nat))) _)) (OwnFrom.and (Own.from (boxed_own (h+1+1+1) 4 (fun pre:List Fr=>.bool (recP pre).isSome)) _) (Own.from (recB_own h 50 (fun _:List Fr=>Rc.zero)) _))) (OwnFrom.and (Own.from (boxed_own (h+1+1+1+1) 9 (fun _:List Fr=>.string ⟨s.toArray⟩)) _) (ownFrom_below (Nat.le_refl _) (by omega))))
  (fun _ _ _ _ _ hs _ _=>hs)
  ⟨⟨⟨bL,bA⟩,bF,bZ⟩,bS,hB0⟩
  (fun x=>{tmps:=#[.string ⟨s.toArray⟩,undef,.pointer (some ⟨h,0,none⟩),.string ⟨#[]⟩,.bool false,.pointer (some ⟨h+1,0,none⟩),.pointer (some ⟨h+1+1,0,none⟩),.pointer (some ⟨h+1+1+1,0,none⟩),.string ⟨x.1.1.toArray⟩,.int .i64 (x.1.2:Nat),undef,undef,.agg #[.int .i64 0,.int .i64 0,.int .i64 0,.int .i64 0],.string ⟨s.toArray⟩,.func (.func 127) #[] #[.pointer (some ⟨h+1+1+1+1,0,none⟩)],.string ⟨x.1.1.toArray⟩,.int .i64 (x.1.2:Nat),undef,undef,undef,undef,undef,undef,undef,undef,undef,undef,undef,undef,undef,undef],defers:=[]}) ?assign ?body ?done ?stop
 case assign=>
  intro l x W K hK
  clear hsz0 hB0 bZ bL bA bF bS
  clear hh
  unfold S
  gi_wp2
  exact hK
 case body=>
  rintro l pre x W ⟨⟨⟨hL,hA⟩,hF,hZ⟩,hS,hB⟩ hlt
  have HH:Hid (h=w.heap.size):=hh
  have hwh:h≤W.heap.size:=by have:=hB.size;omega
  clear hsz0 hB0 bZ bL bA bF bS hh
  have c1:=ireadR_any x.1.1 W x.2.1
  have HY:Hid (isR x.1.1=true→recP (pre++[x])=some (recO x.1.1,x.1.2)):=fun hq=>by rw[recP_snoc];exact step_yes _ _ hq
  have HN:Hid (isR x.1.1=false→recP (pre++[x])=recP pre):=fun hq=>by rw[recP_snoc];exact step_no _ _ hq
  obtain⟨a',ha'⟩:∃a',a'=recP (pre++[x]):=⟨_,rfl⟩
  obtain⟨a,ha⟩:∃a,a=recP pre:=⟨_,rfl⟩
  obtain⟨r,hr⟩:∃r,r=recO x.1.1:=⟨_,rfl⟩
  obtain⟨b,hb⟩:∃b,b=isR x.1.1:=⟨_,rfl⟩
  obtain⟨y,hy⟩:∃y,y=x.1.1:=⟨_,rfl⟩
  obtain⟨m,hm⟩:∃m,m=x.1.2:=⟨_,rfl⟩
  have hmb:m≤1048576:=by rw[hm];exact x.2.2
  have HA':Hid (a'=recP (pre++[x])):=ha'
  rw[←hb,←ha',←hr,←hm]at HY
  rw[←hb,←ha',←ha]at HN
  rw[←ha]at hL hA hF
  rw[←hr,←hb,←hy]at c1
  rw[←hy,←hm]
  clear ha ha' hr hb hy hm
  unfold S RV recA at c1
  gi_wp2_with fail
  refine⟨trivial,(CallsIn.inRound l (callsIn_wide.2 c1)).mono ?_⟩
  rintro e W2 ⟨rfl,b2⟩
  have gr:=grown_of_below b2 none
  have hL2:=hL.kept gr (by simp)
  have hA2:=hA.kept gr (by simp)
  have hF2:=hF.kept gr (by simp)
  have hZ2:=hZ.kept gr (by simp)
  have hS2:=hS.kept gr (by simp)
  have hwh2:h+4<W2.heap.size:=hS2.lt
  clear gr c1
  cases b with
  |false=>
   have HE:=HN.out rfl
   gi_wp2
   have hS3:=hS2.alloc (.cells #[.int .i64 r.e,.int .i64 r.s,.int .i64 r.t,.int .i64 r.n] 50)
   have b3:Below w.heap.size W (W2.alloc (.cells #[.int .i64 r.e,.int .i64 r.s,.int .i64 r.t,.int .i64 r.n] 50)):=(b2.mono hB.size).alloc (by have:=HH.out;omega) _
   refine⟨((KeepsOthers.of_grownBy (grown_of_below b2 none) (fun _ _ e _=>by cases e)).trans (KeepsOthers.alloc W2 _)).from _,⟨fun u hu=>?_,b3⟩,⟨⟨?_,?_⟩,?_,hZ2.alloc _⟩,hS3,hB.trans b3⟩
   ·rw[hS.cell]at hu
    cases hu
    exact hS3.cell
   ·rw[←HA'.out,HE];exact hL2.alloc _
   ·rw[←HA'.out,HE];exact hA2.alloc _
   ·rw[←HA'.out,HE];exact hF2.alloc _
  |true=>
   have HE:=HY.out rfl
   obtain⟨q,hq⟩:∃q,q=recR a:=⟨_,rfl⟩
   rw[←hq]at hL2
   have hL3:RecB (W2.alloc (.cells #[.int .i64 r.e,.int .i64 r.s,.int .i64 r.t,.int .i64 r.n] 50)) (h+1) 50 q:=hL2.alloc _
   have hA3:Boxed (W2.alloc (.cells #[.int .i64 r.e,.int .i64 r.s,.int .i64 r.t,.int .i64 r.n] 50)) (h+1+1) 2 (.int .i64 (recAt a:Nat)):=hA2.alloc _
   have hF3:Boxed (W2.alloc (.cells #[.int .i64 r.e,.int .i64 r.s,.int .i64 r.t,.int .i64 r.n] 50)) (h+1+1+1) 4 (.bool a.isSome):=hF2.alloc _
   have hZ3:RecB (W2.alloc (.cells #[.int .i64 r.e,.int .i64 r.s,.int .i64 r.t,.int .i64 r.n] 50)) h 50 Rc.zero:=hZ2.alloc _
   have hS3:Boxed (W2.alloc (.cells #[.int .i64 r.e,.int .i64 r.s,.int .i64 r.t,.int .i64 r.n] 50)) (h+1+1+1+1) 9 (.string ⟨s.toArray⟩):=hS2.alloc _
   have k0:(W2.alloc (.cells #[.int .i64 r.e,.int .i64 r.s,.int .i64 r.t,.int .i64 r.n] 50)).cell? ⟨h+1,0,none⟩=some (.int .i64 q.e):=hL3.cell 0 rfl
   have f0:(W2.alloc (.cells #[.int .i64 r.e,.int .i64 r.s,.int .i64 r.t,.int .i64 r.n] 50)).frozen? ⟨h+1,0,none⟩=false:=hL3.frozen 0
   have k1:(W2.alloc (.cells #[.int .i64 r.e,.int .i64 r.s,.int .i64 r.t,.int .i64 r.n] 50)).cell? ⟨h+1,1,none⟩=some (.int .i64 q.s):=hL3.cell 1 rfl
   have f1:(W2.alloc (.cells #[.int .i64 r.e,.int .i64 r.s,.int .i64 r.t,.int .i64 r.n] 50)).frozen? ⟨h+1,1,none⟩=false:=hL3.frozen 1
   have k2:(W2.alloc (.cells #[.int .i64 r.e,.int .i64 r.s,.int .i64 r.t,.int .i64 r.n] 50)).cell? ⟨h+1,2,none⟩=some (.int .i64 q.t):=hL3.cell 2 rfl
   have f2:(W2.alloc (.cells #[.int .i64 r.e,.int .i64 r.s,.int .i64 r.t,.int .i64 r.n] 50)).frozen? ⟨h+1,2,none⟩=false:=hL3.frozen 2
   have k3:(W2.alloc (.cells #[.int .i64 r.e,.int .i64 r.s,.int .i64 r.t,.int .i64 r.n] 50)).cell? ⟨h+1,3,none⟩=some (.int .i64 q.n):=hL3.cell 3 rfl
   have f3:(W2.alloc (.cells #[.int .i64 r.e,.int .i64 r.s,.int .i64 r.t,.int .i64 r.n] 50)).frozen? ⟨h+1,3,none⟩=false:=hL3.frozen 3
   have ka:(W2.alloc (.cells #[.int .i64 r.e,.int .i64 r.s,.int .i64 r.t,.int .i64 r.n] 50)).cell? ⟨h+1+1,0,none⟩=some (.int .i64 (recAt a:Nat)):=hA3.cell
   have fa:(W2.alloc (.cells #[.int .i64 r.e,.int .i64 r.s,.int .i64 r.t,.int .i64 r.n] 50)).frozen? ⟨h+1+1,0,none⟩=false:=hA3.frozen
   have kf:(W2.alloc (.cells #[.int .i64 r.e,.int .i64 r.s,.int .i64 r.t,.int .i64 r.n] 50)).cell? ⟨h+1+1+1,0,none⟩=some (.bool a.isSome):=hF3.cell
   have ff:(W2.alloc (.cells #[.int .i64 r.e,.int .i64 r.s,.int .i64 r.t,.int .i64 r.n] 50)).frozen? ⟨h+1+1+1,0,none⟩=false:=hF3.frozen
   have n1:h+1≠W2.heap.size:=by omega
   have n2:h+1+1≠W2.heap.size:=by omega
   have n3:h+1+1+1≠W2.heap.size:=by omega
   gi_wp2
   have b3:Below w.heap.size W (W2.alloc (.cells #[.int .i64 r.e,.int .i64 r.s,.int .i64 r.t,.int .i64 r.n] 50)):=(b2.mono hB.size).alloc (by have:=HH.out;omega) _
   have K3:=(KeepsOthers.of_grownBy (grown_of_below b2 none) (fun _ _ e _=>by cases e)).trans (KeepsOthers.alloc W2 (.cells #[.int .i64 r.e,.int .i64 r.s,.int .i64 r.t,.int .i64 r.n] 50))
   obtain⟨W3,hW3⟩:∃W3,W3=W2.alloc (.cells #[.int .i64 r.e,.int .i64 r.s,.int .i64 r.t,.int .i64 r.n] 50):=⟨_,rfl⟩
   have hs3:h+4<W3.heap.size:=by rw[hW3,World.size_alloc];omega
   rw[←hW3]at b3 K3 hL3 hA3 hF3 hZ3 hS3⊢
   clear k0 k1 k2 k3 f0 f1 f2 f3 ka fa kf ff n1 n2 n3 hW3
   have G4:=grown4 W3 (h+1) (.int .i64 r.e) (.int .i64 r.s) (.int .i64 r.t) (.int .i64 r.n)
   have K4:=(((K3.trans (KeepsOthers.setCell W3 ⟨h+1,0,none⟩ (.int .i64 r.e))).trans (KeepsOthers.setCell _ ⟨h+1,1,none⟩ (.int .i64 r.s))).trans (KeepsOthers.setCell _ ⟨h+1,2,none⟩ (.int .i64 r.t))).trans (KeepsOthers.setCell _ ⟨h+1,3,none⟩ (.int .i64 r.n))
   have L4:=hL3.set4 r
   have A4:=hA3.kept G4 (by intro e;have:=Option.some.inj e;omega)
   have F4:=hF3.kept G4 (by intro e;have:=Option.some.inj e;omega)
   have Z4:=hZ3.kept G4 (by intro e;have:=Option.some.inj e;omega)
   have S4:=hS3.kept G4 (by intro e;have:=Option.some.inj e;omega)
   have b4:=b3.grown G4 (by have:=HH.out;omega) (fun k e=>by cases e;have:=HH.out;omega)
   have s4:=G4.size
   clear G4 K3 hL3 hA3 hF3 hZ3 hS3 b3
   obtain⟨W4,hW4⟩:∃W4,W4=(((W3.setCell ⟨h+1,0,none⟩ (.int .i64 r.e)).setCell ⟨h+1,1,none⟩ (.int .i64 r.s)).setCell ⟨h+1,2,none⟩ (.int .i64 r.t)).setCell ⟨h+1,3,none⟩ (.int .i64 r.n):=⟨_,rfl⟩
   rw[←hW4]at K4 L4 A4 F4 Z4 S4 b4 s4⊢
   clear hW4
   have G5:=grownSetS W4 (h+1+1) 0 (.int .i64 (m:Nat))
   have G6:=grownSetS (W4.setCell ⟨h+1+1,0,none⟩ (.int .i64 (m:Nat))) (h+1+1+1) 0 (.bool true)
   have hS6:=(S4.kept G5 (by intro e;have:=Option.some.inj e;omega)).kept G6 (by intro e;have:=Option.some.inj e;omega)
   have b6:=(b4.grown G5 (by have:=HH.out;omega) (fun k e=>by cases e;have:=HH.out;omega)).grown G6 (by have:=HH.out;have:=G5.size;omega) (fun k e=>by cases e;have:=HH.out;omega)
   refine⟨((K4.trans (KeepsOthers.setCell W4 ⟨h+1+1,0,none⟩ (.int .i64 (m:Nat)))).trans (KeepsOthers.setCell _ ⟨h+1+1+1,0,none⟩ (.bool true))).from _,⟨fun u hu=>?_,b6⟩,⟨⟨?_,?_⟩,?_,(Z4.kept G5 (by intro e;have:=Option.some.inj e;omega)).kept G6 (by intro e;have:=Option.some.inj e;omega)⟩,hS6,hB.trans b6⟩
   ·rw[hS.cell]at hu
    cases hu
    exact hS6.cell
   ·rw[←HA'.out,HE];exact(L4.kept G5 (by intro e;have:=Option.some.inj e;omega)).kept G6 (by intro e;have:=Option.some.inj e;omega)
   ·rw[←HA'.out,HE];exact(A4.set (.int .i64 (m:Nat))).kept G6 (by intro e;have:=Option.some.inj e;omega)
   ·rw[←HA'.out,HE];exact(F4.kept G5 (by intro e;have:=Option.some.inj e;omega)).set (.bool true)
 case done=>
  rintro D ys W hD hys ⟨⟨⟨hL,hA⟩,hF,hZ⟩,hS,hB⟩ hK
  have hre:recP ys=recallB s:=by unfold recP recallB;rw[hys]
  rw[hre]at hL hA hF
  have hla:=recall_le s
  have hsz:(⟨s.toArray⟩:ByteArray).size=s.length:=rfl
  have c1:=fun wx=>iclone_any (s.take (recAt (recallB s))) wx (by simp;omega)
  have hex:=extract_cut s 0 (recAt (recallB s))
  have e0:cutB s 0 (recAt (recallB s))=s.take (recAt (recallB s)):=by simp[cutB]
  rw[e0]at hex
  obtain⟨r,hr⟩:∃r,r=recR (recallB s):=⟨_,rfl⟩
  obtain⟨b,hb⟩:∃b,b=(recallB s).isSome:=⟨_,rfl⟩
  obtain⟨t,hte⟩:∃t,t=s.take (recAt (recallB s)):=⟨_,rfl⟩
  obtain⟨m,hm⟩:∃m,m=recAt (recallB s):=⟨_,rfl⟩
  have HE:Hid (recR (recallB s)=r∧s.take (recAt (recallB s))=t∧(recallB s).isSome=b∧h=w.heap.size):=⟨hr.symm,hte.symm,hb.symm,hh⟩
  rw[←hr]at hL
  rw[←hb]at hF
  rw[←hm]at hA
  rw[←hte]at hex
  simp only[←hte]at c1
  rw[←hm]at hex hla
  have hla':(m:Int)≤s.length:=by omega
  unfold S at c1
  have k0:W.cell? ⟨h+1,0,none⟩=some (.int .i64 r.e):=hL.cell 0 rfl
  have k1:W.cell? ⟨h+1,1,none⟩=some (.int .i64 r.s):=hL.cell 1 rfl
  have k2:W.cell? ⟨h+1,2,none⟩=some (.int .i64 r.t):=hL.cell 2 rfl
  have k3:W.cell? ⟨h+1,3,none⟩=some (.int .i64 r.n):=hL.cell 3 rfl
  have ka:=hA.cell
  have kf:=hF.cell
  have HD:Hid (h+5≤D):=by rw[Hid,←hsz0];exact hD
  have hBd:Below w.heap.size w W.drew:=below_drewN hB 1
  have hKd:W.drew.heap[D]?=some (.deferred (some [])):=hK
  have hDl:D<W.drew.heap.size:=(Array.getElem?_eq_some_iff.1 hKd).1
  have hwD:w.heap.size≤W.drew.heap.size:=hBd.size
  clear hsz0 hB0 bZ bL bA bF bS hh hr hb hte hm hre hys e0
  have hLd:RecB W.drew (h+1) 50 r:=hL
  have hFd:Boxed W.drew (h+1+1+1) 4 (.bool b):=hF
  have hZd:RecB W.drew h 50 Rc.zero:=hZ
  have hfo:Tryz.prog.follows .mixedOrders=true:=by kernel_rfl
  gi_wp2
  refine Code.wpIn_mono (Q:=NoPanic _) NoPanic.imp ?_
  gi_region_with_o (refine⟨trivial,(callsIn_wide.2 (c1 _)).mono ?_⟩;rintro e W3 ⟨rfl,b3⟩;have hL3:=hLd.kept (grown_of_below b3 none) (by simp);have hF3:=hFd.kept (grown_of_below b3 none) (by simp);have hZ3:=hZd.kept (grown_of_below b3 none) (by simp);have k0':W3.cell? ⟨h+1,0,none⟩=some (.int .i64 r.e):=hL3.cell 0 rfl;have k1':W3.cell? ⟨h+1,1,none⟩=some (.int .i64 r.s):=hL3.cell 1 rfl;have k2':W3.cell? ⟨h+1,2,none⟩=some (.int .i64 r.t):=hL3.cell 2 rfl;have k3':W3.cell? ⟨h+1,3,none⟩=some (.int .i64 r.n):=hL3.cell 3 rfl;have kf':=hF3.cell;have z0:W3.cell? ⟨h,0,none⟩=some (.int .i64 0):=hZ3.cell 0 rfl;have z1:W3.cell? ⟨h,1,none⟩=some (.int .i64 0):=hZ3.cell 1 rfl;have z2:W3.cell? ⟨h,2,none⟩=some (.int .i64 0):=hZ3.cell 2 rfl;have z3:W3.cell? ⟨h,3,none⟩=some (.int .i64 0):=hZ3.cell 3 rfl;have f0:=hZ3.frozen 0;have f1:=hZ3.frozen 1;have f2:=hZ3.frozen 2;have f3:=hZ3.frozen 3)
  all_goals refine NoPanic.normal ?_
  all_goals gi_wp2
  all_goals
   have G4:=grown4 W3 h (.int .i64 r.e) (.int .i64 r.s) (.int .i64 r.t) (.int .i64 r.n)
   have R4:=hZ3.set4 r
   have hK3:W3.heap[D]?=some (.deferred (some [])):=(b3.block D hDl).trans hKd
   have hDl3:D<W3.heap.size:=(Array.getElem?_eq_some_iff.1 hK3).1
   have hK4:=(G4.block D hDl3 (by intro e;have:=Option.some.inj e;have:=HD.out;omega)).trans hK3
   have B4:=(hBd.trans (b3.mono hwD)).grown G4 (by have:=b3.size;omega) (fun k e=>by cases e;have:=HE.out.2.2.2;omega)
   refine⟨by simp,.inl ⟨_,_,rfl,run_takeDeferred hK4,?_⟩⟩
   refine⟨_,results_R3 rfl _ _ h r _ _ rfl rfl rfl (R4.kept (grownBy_putObj' _ D _) (by intro e;have:=Option.some.inj e;have:=HD.out;omega)),?_,?_⟩
   ·rw[HE.out.1,HE.out.2.1,HE.out.2.2.1]
    rfl
   ·exact B4.trans (belowK_b (w:=w) (Nat.le_refl _) _ D _ _ (by have:=HD.out;have:=HE.out.2.2.2;omega) hK4 rfl rfl)
 case stop=>
  rintro D c pre W _ _ h _
  exact h.elim
end Go.Proofs.YtflbcjgkdokhiaaGreatDoor
