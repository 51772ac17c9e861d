/- A house of the call's own; l15Copy of the model. -/
import Derived.Test.YthldeiojlllkdaaGreatDoorM1
import Derived.Test.YthldeiojlllkdaaGreatDoorM11
set_option maxRecDepth 20000
set_option maxHeartbeats 8000000
namespace Go.Proofs.YthldeiojlllkdaaGreatDoor
open Go.ChangeShapes Go.WideShapes Go.ChangeAt Go.RowKit
def blk (v:Value):List Nat:=v.ownBlock.toList
theorem aM {w:World} {B:Nat} {v:Value} {xs:List Int} (h:Own w B v xs):∀x∈blk v,B<=x/\x<w.heap.size:=fun x hx=>h.lt x (by simpa[blk]using hx)
theorem dp {u v:Value} {w:World} {B:Nat} {xs:List Int} (hb:∀y∈blk u,y<B) (h:Own w B v xs):apart v u:=by
 have key:∀y,u.ownBlock=some y->v.ownBlock=some y->False:=by
  intro y h1 h2;have a1:=hb y (by unfold blk;rw[h1];simp);have a2:=(h.lt y h2).1;omega
 constructor
 ·cases hv:v.ownBlock with
  |none=>exact .inl rfl
  |some y=>exact .inr (fun e=>key y e.symm hv)
 ·cases hu:u.ownBlock with
  |none=>exact .inl rfl
  |some y=>exact .inr (fun e=>key y hu e.symm)
theorem gv {l:List Value} {v:Value} {w:World} {B:Nat} {xs:List Int} (hl:l.Pairwise apart) (hb:∀x∈l,∀y∈blk x,y<B) (h:Own w B v xs):(v::l).Pairwise apart:=
 List.Pairwise.cons (fun x hx=>dp (hb x hx) h) hl
theorem uR {a b:Value} (h:apart a b):[b,a].Pairwise apart:=List.Pairwise.cons (fun x hx=>by simp only[List.mem_singleton]at hx;subst hx;exact⟨h.2,h.1⟩) (List.Pairwise.cons (fun x hx=>by cases hx) List.Pairwise.nil)
structure cF (w:World) (base:Nat) (a b k q z:Value) (n:Nd):Prop where
 oa:Own w base a n.xs
 ob:Own w base b n.ys
 ok:Own w base k n.h.ks
 oq:Own w base q n.c.ts
 oz:Own w base z n.s.ts
 ap:[z,q,k,b,a].Pairwise apart
theorem cF.reads {w:World} {base:Nat} {a b k q z:Value} {n:Nd} (h:cF w base a b k q z n):RdN w a b k q z n:=⟨h.oa.reads,h.ob.reads,h.ok.reads,h.oq.reads,h.oz.reads⟩
theorem cF.mono {w:World} {base base':Nat} {a b k q z:Value} {n:Nd} (h:cF w base a b k q z n) (hb:base'<=base):cF w base' a b k q z n:=⟨h.oa.mono hb,h.ob.mono hb,h.ok.mono hb,h.oq.mono hb,h.oz.mono hb,h.ap⟩
theorem cF.below {w w':World} {base:Nat} {a b k q z:Value} {n:Nd} (h:cF w base a b k q z n) (B:bB w w'):cF w' base a b k q z n:=⟨h.oa.below B,h.ob.below B,h.ok.below B,h.oq.below B,h.oz.below B,h.ap⟩
theorem cF.keptLt {w w':World} {base g:Nat} {a b k q z:Value} {n:Nd} (h:cF w base a b k q z n) (hg:w.grownBy w' (some g)) (hb:g<base):cF w' base a b k q z n:=⟨h.oa.keptLt hg hb,h.ob.keptLt hg hb,h.ok.keptLt hg hb,h.oq.keptLt hg hb,h.oz.keptLt hg hb,h.ap⟩
def aA:Array Value:=#[.int .i64 0,.bool false,.slice none 0 0,.slice none 0 0,.slice none 0 0,.int .i64 0,.int .i64 0,.int .i64 0,.string ⟨#[]⟩,.int .i64 0,.int .i64 0,.int .i64 0,.int .i64 0,.int .i64 0,.bool false,.int .i64 0,.int .i64 0,.slice none 0 0,.int .i64 0,.slice none 0 0]
theorem pf:aA.all (·.oneCell')=true:=by simp[aA,Value.oneCell']
theorem dj {a b k q z:Value} (n:Nd) (ha:a.oneCell'=true) (hb:b.oneCell'=true) (hk:k.oneCell'=true) (hq:q.oneCell'=true) (hz:z.oneCell'=true):(ndA a b k q z n).all (·.oneCell')=true:=by
 unfold ndA;simp[ha,hb,hk,hq,hz,S,show∀k n,(Value.int k n).oneCell'=true from fun _ _=>rfl,show∀b,(Value.bool b).oneCell'=true from fun _=>rfl,show∀s,(Value.string s).oneCell'=true from fun _=>rfl]
structure NS (w wx:World) (g:Nat) (a b k q z:Value) (n:Nd) (cs:Array Value):Prop where
 p:StB wx w.heap.size 42 (ndA a b k q z n)
 r:StB wx (w.heap.size+1) 42 aA
 o:StB wx g 42 cs
 b:bB w wx
 l:w.heap.size+1<g
theorem NS.below {w wx wy:World} {g:Nat} {a b k q z:Value} {n:Nd} {cs:Array Value} (h:NS w wx g a b k q z n cs) (B:bB wx wy):NS w wy g a b k q z n cs:=
 ⟨h.p.below B,h.r.below B,h.o.below B,h.b.trans (B.mono h.b.size),h.l⟩
theorem NS.put {w wx:World} {g:Nat} {a b k q z:Value} {n:Nd} {cs ds:Array Value} (h:NS w wx g a b k q z n cs) (j:Nat) (x:Value) (e:cs.setIfInBounds j x=ds):NS w (wx.setCell ⟨g,j,none⟩ x) g a b k q z n ds:=
 ⟨h.p.other _ _ (by have:=h.l;show w.heap.size≠g;omega),h.r.other _ _ (by have:=h.l;show w.heap.size+1≠g;omega),h.o.put j x e,h.b.setCell (by have:=h.l;show w.heap.size<=g;omega) _,h.l⟩
theorem NS.start {w w1 w2:World} {a b k q z:Value} {n:Nd} (hw1:w1=(w.alloc (.cells (ndA a b k q z n) 42)).alloc (.cells aA 42)) (s:StB w2 w1.heap.size 42 (ndA a b k q z n)) (G:(w1.alloc (.cells aA 42)).grownBy w2 (some w1.heap.size)):NS w w2 w1.heap.size a b k q z n (ndA a b k q z n):=by
 have p1:StB w1 w.heap.size 42 (ndA a b k q z n):=by rw[hw1];exact(StB.new w _ _).alloc _
 have r1:StB w1 (w.heap.size+1) 42 aA:=by
  rw[hw1];have:=StB.new (w.alloc (.cells (ndA a b k q z n) 42)) 42 aA
  rwa[World.size_alloc]at this
 have b1:bB w w1:=by rw[hw1];exactbA.alloc (by simp) _
 have l1:=r1.lt;have l0:=p1.lt;refine⟨(p1.alloc _).kept G (by simp;omega),(r1.alloc _).kept G (by simp;omega),s,?_,l1⟩;exact(b1.alloc b1.size _).grown G (by simp;have:=b1.size;omega) (fun k e=>by cases e;omega)
theorem xp (a b k q z:Value) (n:Nd) (w:World) (hr:RdN w a b k q z n) (hl:SmN n):
  Calls Tryz.prog 17 #[NdV a b k q z n] w fun e w'=>∃a' b' k' q' z',e=.returned (NdV a' b' k' q' z' n)/\cF w' w.heap.size a' b' k' q' z' n/\bB w w':=by
 obtain⟨w1,hw1⟩:=eX ((w.alloc (.cells (ndA a b k q z n) 42)).alloc (.cells aA 42))
 have HST:Hid (∀w2,StB w2 w1.heap.size 42 (ndA a b k q z n)->(w1.alloc (.cells aA 42)).grownBy w2 (some w1.heap.size)->NS w w2 w1.heap.size a b k q z n (ndA a b k q z n)):=fun w2 s G=>NS.start hw1 s G
 have p1:StB w1 w.heap.size 42 (ndA a b k q z n):=by rw[hw1];exact(StB.new w _ _).alloc _
 have HR:Hid (∀wx,bB w wx->RdN wx a b k q z n):=fun wx B=>hr.below B
 have C1:Hid (∀wx,bB w wx->Calls Tryz.prog 51 #[.agg #[a,b]] wx fun e w'=>∃u v,e=.returned (.agg #[u,v])/\aS w' wx.heap.size u v n.xs n.ys/\bB wx w'):=fun wx B=>dA a b n.xs n.ys wx (HR.out wx B).ra (HR.out wx B).rb (by have:=hl.la;omega) (by have:=hl.lb;omega)
 have C2:Hid (∀wx,bB w wx->Calls Tryz.prog 52 #[HV k n.h] wx fun e w'=>∃u,e=.returned (HV u n.h)/\Own w' wx.heap.size u n.h.ks/\bB wx w'):=fun wx B=>oW k n.h wx (HR.out wx B).rk (by have:=hl.lk;omega)
 have C3:Hid (∀wx,bB w wx->Calls Tryz.prog 53 #[CpV q n.c] wx fun e w'=>∃u,e=.returned (CpV u n.c)/\Own w' wx.heap.size u n.c.ts/\bB wx w'):=fun wx B=>xn q n.c wx (HR.out wx B).rq (by have:=hl.lq;omega)
 have C4:Hid (∀wx,bB w wx->Calls Tryz.prog 54 #[SnV z n.s] wx fun e w'=>∃u,e=.returned (SnV u n.s)/\Own w' wx.heap.size u n.s.ts/\bB wx w'):=fun wx B=>xv z n.s wx (HR.out wx B).rz (by have:=hl.lz;omega)
 obtain⟨a1,a2,rfl⟩:=aa hr.ra;obtain⟨b1,b2,rfl⟩:=aa hr.rb;obtain⟨k1,k2,rfl⟩:=aa hr.rk;obtain⟨q1,q2,rfl⟩:=aa hr.rq;obtain⟨z1,z2,rfl⟩:=aa hr.rz;clear hr HR;have HL:Hid (SmN n):=hl;clear hl;unfold HV hdA at C2;unfold CpV cpA at C3;unfold SnV snA at C4;unfold NdV;conv in ndA (.slice a1 n.xs.length a2) _ _ _ _ _=>unfold ndA
 unfold aA ndA at hw1;go_enter Tryz.func17,Tryz.ntmps17;go_upto_region 1 with fail
 rw[<-hw1];clear hw1;have q1':StB (w1.alloc (.cells aA 42)) w1.heap.size 42 aA:=StB.new w1 _ _;go_upto_region 2 with(first|(refine ah Tryz.isNd rfl _ rfl w.heap.size rfl (ndA (.slice a1 n.xs.length a2) (.slice b1 n.ys.length b2) (.slice k1 n.h.ks.length k2) (.slice q1 n.c.ts.length q2) (.slice z1 n.s.ts.length z2) n) rfl p1 ?_)|(refine ae Tryz.isNd rfl _ _ rfl w1.heap.size (ndA (.slice a1 n.xs.length a2) (.slice b1 n.ys.length b2) (.slice k1 n.h.ks.length k2) (.slice q1 n.c.ts.length q2) (.slice z1 n.s.ts.length z2) n) aA rfl rfl rfl rfl (dj n rfl rfl rfl rfl rfl) q1' ?_;intro w2 s2 g2))
 have HN:Hid (NS w w2 w1.heap.size (.slice a1 n.xs.length a2) (.slice b1 n.ys.length b2) (.slice k1 n.h.ks.length k2) (.slice q1 n.c.ts.length q2) (.slice z1 n.s.ts.length z2) n (ndA (.slice a1 n.xs.length a2) (.slice b1 n.ys.length b2) (.slice k1 n.h.ks.length k2) (.slice q1 n.c.ts.length q2) (.slice z1 n.s.ts.length z2) n)):=HST.out w2 s2 g2;clear HST p1 q1' s2 g2;obtain⟨g,hg⟩:=eX w1.heap.size
 rw[<-hg]at HN⊢;clear hg;simp only[Act.put];have p2:w2.cell? ⟨w.heap.size,2,none⟩=some (.slice a1 n.xs.length a2):=HN.out.p.cell 2 rfl;have p3:w2.cell? ⟨w.heap.size,3,none⟩=some (.slice b1 n.ys.length b2):=HN.out.p.cell 3 rfl;go_wp2_with fail
 refine(C1.out w2 HN.out.b).mono ?_;rintro e w3 ⟨u,v,rfl,o1,bx⟩;obtain⟨c1,d1,rfl⟩:=aa o1.1.reads;obtain⟨c2,d2,rfl⟩:=aa o1.2.1.reads;have O1:Hid (Own w3 (g+1) (.slice c1 n.xs.length d1) n.xs/\Own w3 (g+1) (.slice c2 n.ys.length d2) n.ys/\[Value.slice c2 n.ys.length d2,Value.slice c1 n.xs.length d1].Pairwise apart):=⟨o1.1.mono HN.out.o.lt,o1.2.1.mono HN.out.o.lt,uR o1.2.2⟩
 clear o1;replace HN:=HN.out.below bx;clear bx C1 p2 p3;have p2:w3.cell? ⟨g,2,none⟩=some (.slice a1 n.xs.length a2):=HN.o.cell 2 rfl;have f2:=HN.o.frozen 2;have p3:w3.cell? ⟨g,3,none⟩=some (.slice b1 n.ys.length b2):=HN.o.cell 3 rfl;have f3:=HN.o.frozen 3;obtain⟨w4,hw4⟩:=eX (((w3.setCell ⟨g,2,none⟩ (.slice c1 n.xs.length d1)).setCell ⟨g,3,none⟩ (.slice c2 n.ys.length d2)))
 have HN':Hid (NS w w4 g (.slice a1 n.xs.length a2) (.slice b1 n.ys.length b2) (.slice k1 n.h.ks.length k2) (.slice q1 n.c.ts.length q2) (.slice z1 n.s.ts.length z2) n (ndA (.slice c1 n.xs.length d1) (.slice c2 n.ys.length d2) (.slice k1 n.h.ks.length k2) (.slice q1 n.c.ts.length q2) (.slice z1 n.s.ts.length z2) n)):=by rw[hw4];exact((HN.put 2 (.slice c1 n.xs.length d1) rfl).put 3 (.slice c2 n.ys.length d2) rfl)
 replace O1:Hid (Own w4 (g+1) (.slice c1 n.xs.length d1) n.xs/\Own w4 (g+1) (.slice c2 n.ys.length d2) n.ys/\[Value.slice c2 n.ys.length d2,Value.slice c1 n.xs.length d1].Pairwise apart):=by
  rw[hw4];exact⟨((O1.out.1.setLt (Nat.lt_succ_self g) 2 _).setLt (Nat.lt_succ_self g) 3 _),((O1.out.2.1.setLt (Nat.lt_succ_self g) 2 _).setLt (Nat.lt_succ_self g) 3 _),O1.out.2.2⟩
 go_upto_region 3 with fail
 rw[<-hw4];clear hw4 HN p2 f2 p3 f3;have HN:=HN';clear HN';have p4:w4.cell? ⟨w.heap.size,4,none⟩=some (.slice k1 n.h.ks.length k2):=HN.out.p.cell 4 rfl;have p5:w4.cell? ⟨w.heap.size,5,none⟩=some (.int .i64 n.h.kd):=HN.out.p.cell 5 rfl;have p6:w4.cell? ⟨w.heap.size,6,none⟩=some (.int .i64 n.h.ho):=HN.out.p.cell 6 rfl;have p7:w4.cell? ⟨w.heap.size,7,none⟩=some (.int .i64 n.h.tu):=HN.out.p.cell 7 rfl;go_wp2_with fail
 refine(C2.out w4 HN.out.b).mono ?_;rintro e w5 ⟨u,rfl,o2,bx⟩;obtain⟨c3,d3,rfl⟩:=aa o2.reads;have O2:Hid (Own w5 (g+1) (.slice c1 n.xs.length d1) n.xs/\Own w5 (g+1) (.slice c2 n.ys.length d2) n.ys/\Own w5 (g+1) (.slice c3 n.h.ks.length d3) n.h.ks/\[Value.slice c3 n.h.ks.length d3,Value.slice c2 n.ys.length d2,Value.slice c1 n.xs.length d1].Pairwise apart):=by
  refine⟨(O1.out.1).below bx,(O1.out.2.1).below bx,o2.mono HN.out.o.lt,gv (O1.out.2.2) (fun x hx=>?_) o2⟩;simp only[List.mem_cons,List.not_mem_nil,or_false]at hx;rcases hx with rfl|rfl
  ·exact fun y hy=>(aM (O1.out.2.1) y hy).2
  ·exact fun y hy=>(aM (O1.out.1) y hy).2
 clear O1 o2;replace HN:=HN.out.below bx;clear bx C2 p4 p5 p6 p7;have p4:w5.cell? ⟨g,4,none⟩=some (.slice k1 n.h.ks.length k2):=HN.o.cell 4 rfl;have f4:=HN.o.frozen 4;have p5:w5.cell? ⟨g,5,none⟩=some (.int .i64 n.h.kd):=HN.o.cell 5 rfl;have f5:=HN.o.frozen 5;have p6:w5.cell? ⟨g,6,none⟩=some (.int .i64 n.h.ho):=HN.o.cell 6 rfl;have f6:=HN.o.frozen 6;have p7:w5.cell? ⟨g,7,none⟩=some (.int .i64 n.h.tu):=HN.o.cell 7 rfl;have f7:=HN.o.frozen 7;obtain⟨w6,hw6⟩:=eX (((((w5.setCell ⟨g,4,none⟩ (.slice c3 n.h.ks.length d3)).setCell ⟨g,5,none⟩ (.int .i64 n.h.kd)).setCell ⟨g,6,none⟩ (.int .i64 n.h.ho)).setCell ⟨g,7,none⟩ (.int .i64 n.h.tu)))
 have HN':Hid (NS w w6 g (.slice a1 n.xs.length a2) (.slice b1 n.ys.length b2) (.slice k1 n.h.ks.length k2) (.slice q1 n.c.ts.length q2) (.slice z1 n.s.ts.length z2) n (ndA (.slice c1 n.xs.length d1) (.slice c2 n.ys.length d2) (.slice c3 n.h.ks.length d3) (.slice q1 n.c.ts.length q2) (.slice z1 n.s.ts.length z2) n)):=by rw[hw6];exact((((HN.put 4 (.slice c3 n.h.ks.length d3) rfl).put 5 (.int .i64 n.h.kd) rfl).put 6 (.int .i64 n.h.ho) rfl).put 7 (.int .i64 n.h.tu) rfl)
 replace O2:Hid (Own w6 (g+1) (.slice c1 n.xs.length d1) n.xs/\Own w6 (g+1) (.slice c2 n.ys.length d2) n.ys/\Own w6 (g+1) (.slice c3 n.h.ks.length d3) n.h.ks/\[Value.slice c3 n.h.ks.length d3,Value.slice c2 n.ys.length d2,Value.slice c1 n.xs.length d1].Pairwise apart):=by
  rw[hw6];exact⟨((((O2.out.1.setLt (Nat.lt_succ_self g) 4 _).setLt (Nat.lt_succ_self g) 5 _).setLt (Nat.lt_succ_self g) 6 _).setLt (Nat.lt_succ_self g) 7 _),((((O2.out.2.1.setLt (Nat.lt_succ_self g) 4 _).setLt (Nat.lt_succ_self g) 5 _).setLt (Nat.lt_succ_self g) 6 _).setLt (Nat.lt_succ_self g) 7 _),((((O2.out.2.2.1.setLt (Nat.lt_succ_self g) 4 _).setLt (Nat.lt_succ_self g) 5 _).setLt (Nat.lt_succ_self g) 6 _).setLt (Nat.lt_succ_self g) 7 _),O2.out.2.2.2⟩
 go_upto_region 4 with fail
 rw[<-hw6];clear hw6 HN p4 f4 p5 f5 p6 f6 p7 f7;have HN:=HN';clear HN';have p13:w6.cell? ⟨w.heap.size,13,none⟩=some (.int .i64 n.c.tr):=HN.out.p.cell 13 rfl;have p14:w6.cell? ⟨w.heap.size,14,none⟩=some (.bool n.c.op):=HN.out.p.cell 14 rfl;have p15:w6.cell? ⟨w.heap.size,15,none⟩=some (.int .i64 n.c.di):=HN.out.p.cell 15 rfl;have p16:w6.cell? ⟨w.heap.size,16,none⟩=some (.int .i64 n.c.wa):=HN.out.p.cell 16 rfl;have p17:w6.cell? ⟨w.heap.size,17,none⟩=some (.slice q1 n.c.ts.length q2):=HN.out.p.cell 17 rfl;go_wp2_with fail
 refine(C3.out w6 HN.out.b).mono ?_;rintro e w7 ⟨u,rfl,o3,bx⟩;obtain⟨c4,d4,rfl⟩:=aa o3.reads;have O3:Hid (Own w7 (g+1) (.slice c1 n.xs.length d1) n.xs/\Own w7 (g+1) (.slice c2 n.ys.length d2) n.ys/\Own w7 (g+1) (.slice c3 n.h.ks.length d3) n.h.ks/\Own w7 (g+1) (.slice c4 n.c.ts.length d4) n.c.ts/\[Value.slice c4 n.c.ts.length d4,Value.slice c3 n.h.ks.length d3,Value.slice c2 n.ys.length d2,Value.slice c1 n.xs.length d1].Pairwise apart):=by
  refine⟨(O2.out.1).below bx,(O2.out.2.1).below bx,(O2.out.2.2.1).below bx,o3.mono HN.out.o.lt,gv (O2.out.2.2.2) (fun x hx=>?_) o3⟩;simp only[List.mem_cons,List.not_mem_nil,or_false]at hx;rcases hx with rfl|rfl|rfl
  ·exact fun y hy=>(aM (O2.out.2.2.1) y hy).2
  ·exact fun y hy=>(aM (O2.out.2.1) y hy).2
  ·exact fun y hy=>(aM (O2.out.1) y hy).2
 clear O2 o3;replace HN:=HN.out.below bx;clear bx C3 p13 p14 p15 p16 p17;have p13:w7.cell? ⟨g,13,none⟩=some (.int .i64 n.c.tr):=HN.o.cell 13 rfl;have f13:=HN.o.frozen 13;have p14:w7.cell? ⟨g,14,none⟩=some (.bool n.c.op):=HN.o.cell 14 rfl;have f14:=HN.o.frozen 14;have p15:w7.cell? ⟨g,15,none⟩=some (.int .i64 n.c.di):=HN.o.cell 15 rfl;have f15:=HN.o.frozen 15;have p16:w7.cell? ⟨g,16,none⟩=some (.int .i64 n.c.wa):=HN.o.cell 16 rfl;have f16:=HN.o.frozen 16;have p17:w7.cell? ⟨g,17,none⟩=some (.slice q1 n.c.ts.length q2):=HN.o.cell 17 rfl;have f17:=HN.o.frozen 17;obtain⟨w8,hw8⟩:=eX ((((((w7.setCell ⟨g,13,none⟩ (.int .i64 n.c.tr)).setCell ⟨g,14,none⟩ (.bool n.c.op)).setCell ⟨g,15,none⟩ (.int .i64 n.c.di)).setCell ⟨g,16,none⟩ (.int .i64 n.c.wa)).setCell ⟨g,17,none⟩ (.slice c4 n.c.ts.length d4)))
 have HN':Hid (NS w w8 g (.slice a1 n.xs.length a2) (.slice b1 n.ys.length b2) (.slice k1 n.h.ks.length k2) (.slice q1 n.c.ts.length q2) (.slice z1 n.s.ts.length z2) n (ndA (.slice c1 n.xs.length d1) (.slice c2 n.ys.length d2) (.slice c3 n.h.ks.length d3) (.slice c4 n.c.ts.length d4) (.slice z1 n.s.ts.length z2) n)):=by rw[hw8];exact(((((HN.put 13 (.int .i64 n.c.tr) rfl).put 14 (.bool n.c.op) rfl).put 15 (.int .i64 n.c.di) rfl).put 16 (.int .i64 n.c.wa) rfl).put 17 (.slice c4 n.c.ts.length d4) rfl)
 replace O3:Hid (Own w8 (g+1) (.slice c1 n.xs.length d1) n.xs/\Own w8 (g+1) (.slice c2 n.ys.length d2) n.ys/\Own w8 (g+1) (.slice c3 n.h.ks.length d3) n.h.ks/\Own w8 (g+1) (.slice c4 n.c.ts.length d4) n.c.ts/\[Value.slice c4 n.c.ts.length d4,Value.slice c3 n.h.ks.length d3,Value.slice c2 n.ys.length d2,Value.slice c1 n.xs.length d1].Pairwise apart):=by
  rw[hw8];exact⟨(((((O3.out.1.setLt (Nat.lt_succ_self g) 13 _).setLt (Nat.lt_succ_self g) 14 _).setLt (Nat.lt_succ_self g) 15 _).setLt (Nat.lt_succ_self g) 16 _).setLt (Nat.lt_succ_self g) 17 _),(((((O3.out.2.1.setLt (Nat.lt_succ_self g) 13 _).setLt (Nat.lt_succ_self g) 14 _).setLt (Nat.lt_succ_self g) 15 _).setLt (Nat.lt_succ_self g) 16 _).setLt (Nat.lt_succ_self g) 17 _),(((((O3.out.2.2.1.setLt (Nat.lt_succ_self g) 13 _).setLt (Nat.lt_succ_self g) 14 _).setLt (Nat.lt_succ_self g) 15 _).setLt (Nat.lt_succ_self g) 16 _).setLt (Nat.lt_succ_self g) 17 _),(((((O3.out.2.2.2.1.setLt (Nat.lt_succ_self g) 13 _).setLt (Nat.lt_succ_self g) 14 _).setLt (Nat.lt_succ_self g) 15 _).setLt (Nat.lt_succ_self g) 16 _).setLt (Nat.lt_succ_self g) 17 _),O3.out.2.2.2.2⟩
 go_upto_region 5 with fail
 rw[<-hw8];clear hw8 HN p13 f13 p14 f14 p15 f15 p16 f16 p17 f17;have HN:=HN';clear HN';have p18:w8.cell? ⟨w.heap.size,18,none⟩=some (.int .i64 n.s.tr):=HN.out.p.cell 18 rfl;have p19:w8.cell? ⟨w.heap.size,19,none⟩=some (.slice z1 n.s.ts.length z2):=HN.out.p.cell 19 rfl;go_wp2_with fail
 refine(C4.out w8 HN.out.b).mono ?_;rintro e w9 ⟨u,rfl,o4,bx⟩;obtain⟨c5,d5,rfl⟩:=aa o4.reads;have O4:Hid (Own w9 (g+1) (.slice c1 n.xs.length d1) n.xs/\Own w9 (g+1) (.slice c2 n.ys.length d2) n.ys/\Own w9 (g+1) (.slice c3 n.h.ks.length d3) n.h.ks/\Own w9 (g+1) (.slice c4 n.c.ts.length d4) n.c.ts/\Own w9 (g+1) (.slice c5 n.s.ts.length d5) n.s.ts/\[Value.slice c5 n.s.ts.length d5,Value.slice c4 n.c.ts.length d4,Value.slice c3 n.h.ks.length d3,Value.slice c2 n.ys.length d2,Value.slice c1 n.xs.length d1].Pairwise apart):=by
  refine⟨(O3.out.1).below bx,(O3.out.2.1).below bx,(O3.out.2.2.1).below bx,(O3.out.2.2.2.1).below bx,o4.mono HN.out.o.lt,gv (O3.out.2.2.2.2) (fun x hx=>?_) o4⟩;simp only[List.mem_cons,List.not_mem_nil,or_false]at hx;rcases hx with rfl|rfl|rfl|rfl
  ·exact fun y hy=>(aM (O3.out.2.2.2.1) y hy).2
  ·exact fun y hy=>(aM (O3.out.2.2.1) y hy).2
  ·exact fun y hy=>(aM (O3.out.2.1) y hy).2
  ·exact fun y hy=>(aM (O3.out.1) y hy).2
 clear O3 o4;replace HN:=HN.out.below bx;clear bx C4 p18 p19;have p18:w9.cell? ⟨g,18,none⟩=some (.int .i64 n.s.tr):=HN.o.cell 18 rfl;have f18:=HN.o.frozen 18;have p19:w9.cell? ⟨g,19,none⟩=some (.slice z1 n.s.ts.length z2):=HN.o.cell 19 rfl;have f19:=HN.o.frozen 19;obtain⟨w10,hw10⟩:=eX (((w9.setCell ⟨g,18,none⟩ (.int .i64 n.s.tr)).setCell ⟨g,19,none⟩ (.slice c5 n.s.ts.length d5)))
 have HN':Hid (NS w w10 g (.slice a1 n.xs.length a2) (.slice b1 n.ys.length b2) (.slice k1 n.h.ks.length k2) (.slice q1 n.c.ts.length q2) (.slice z1 n.s.ts.length z2) n (ndA (.slice c1 n.xs.length d1) (.slice c2 n.ys.length d2) (.slice c3 n.h.ks.length d3) (.slice c4 n.c.ts.length d4) (.slice c5 n.s.ts.length d5) n)):=by rw[hw10];exact((HN.put 18 (.int .i64 n.s.tr) rfl).put 19 (.slice c5 n.s.ts.length d5) rfl)
 replace O4:Hid (Own w10 (g+1) (.slice c1 n.xs.length d1) n.xs/\Own w10 (g+1) (.slice c2 n.ys.length d2) n.ys/\Own w10 (g+1) (.slice c3 n.h.ks.length d3) n.h.ks/\Own w10 (g+1) (.slice c4 n.c.ts.length d4) n.c.ts/\Own w10 (g+1) (.slice c5 n.s.ts.length d5) n.s.ts/\[Value.slice c5 n.s.ts.length d5,Value.slice c4 n.c.ts.length d4,Value.slice c3 n.h.ks.length d3,Value.slice c2 n.ys.length d2,Value.slice c1 n.xs.length d1].Pairwise apart):=by
  rw[hw10];exact⟨((O4.out.1.setLt (Nat.lt_succ_self g) 18 _).setLt (Nat.lt_succ_self g) 19 _),((O4.out.2.1.setLt (Nat.lt_succ_self g) 18 _).setLt (Nat.lt_succ_self g) 19 _),((O4.out.2.2.1.setLt (Nat.lt_succ_self g) 18 _).setLt (Nat.lt_succ_self g) 19 _),((O4.out.2.2.2.1.setLt (Nat.lt_succ_self g) 18 _).setLt (Nat.lt_succ_self g) 19 _),((O4.out.2.2.2.2.1.setLt (Nat.lt_succ_self g) 18 _).setLt (Nat.lt_succ_self g) 19 _),O4.out.2.2.2.2.2⟩
 go_upto_region 6 with fail
 rw[<-hw10];clear hw10 HN p18 f18 p19 f19;have HN:=HN';clear HN';go_wp2_with (first|(refine ah Tryz.isNd rfl _ rfl g rfl (ndA (.slice c1 n.xs.length d1) (.slice c2 n.ys.length d2) (.slice c3 n.h.ks.length d3) (.slice c4 n.c.ts.length d4) (.slice c5 n.s.ts.length d5) n) rfl HN.out.o ?_)|(refine ae Tryz.isNd rfl _ _ rfl (w.heap.size+1) (ndA (.slice c1 n.xs.length d1) (.slice c2 n.ys.length d2) (.slice c3 n.h.ks.length d3) (.slice c4 n.c.ts.length d4) (.slice c5 n.s.ts.length d5) n) aA rfl rfl rfl rfl (dj n rfl rfl rfl rfl rfl) HN.out.r ?_;intro w19 s19 g19))
 refine bodyPost_ret (aj Tryz.isNd rfl _ _ (w.heap.size+1) _ rfl rfl s19) rfl ?_;refine⟨_,_,_,_,_,rfl,?_,HN.out.b.grown g19 HN.out.b.size (fun k e=>by cases e;omega)⟩;exact(cF.keptLt ⟨O4.out.1,O4.out.2.1,O4.out.2.2.1,O4.out.2.2.2.1,O4.out.2.2.2.2.1,O4.out.2.2.2.2.2⟩ g19 (by have:=HN.out.l;omega)).mono (by have:=HN.out.l;omega)
end Go.Proofs.YthldeiojlllkdaaGreatDoor
