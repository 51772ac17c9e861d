/- How the laws take a house over. -/
import Derived.Test.YtflbcjgkdokhiaaGreatDoorLNode
set_option maxRecDepth 20000
set_option maxHeartbeats 8000000
namespace Go.Proofs.YtflbcjgkdokhiaaGreatDoor
open Go.ChangeShapes Go.WideShapes Go.ChangeAt Go.RowKit
structure LS (w wx:World) (g:Nat) (ps cs:Array Value):Prop where
 p:StB wx w.heap.size 68 ps
 r:StB wx (w.heap.size+1) 56 zeroNd
 o:StB wx g 56 cs
 b:Below w.heap.size w wx
 l:w.heap.size+1<g
theorem LS.below {w wx wy:World} {g:Nat} {ps cs:Array Value} (h:LS w wx g ps cs) (B:Below wx.heap.size wx wy):LS w wy g ps cs:=
 ⟨h.p.below B,h.r.below B,h.o.below B,h.b.trans (B.mono h.b.size),h.l⟩
theorem LS.put {w wx:World} {g:Nat} {ps cs ds:Array Value} (h:LS w wx g ps cs) (j:Nat) (x:Value) (e:cs.setIfInBounds j x=ds):LS w (wx.setCell ⟨g,j,none⟩ x) g ps ds:=
 ⟨h.p.other _ _ (by have:=h.l;show w.heap.size≠g;omega),h.r.other _ _ (by have:=h.l;show w.heap.size+1≠g;omega),h.o.put j x e,h.b.setCell (by have:=h.l;show w.heap.size≤g;omega) _,h.l⟩
theorem LS.start {w w1:World} {ps cs:Array Value} (hw1:w1=((w.alloc (.cells ps 68)).alloc (.cells zeroNd 56)).alloc (.cells cs 56)):LS w w1 (w.heap.size+1+1) ps cs:=by
 have r1:=StB.new (w.alloc (.cells ps 68)) 56 zeroNd
 rw[World.size_alloc]at r1
 have o1:=StB.new ((w.alloc (.cells ps 68)).alloc (.cells zeroNd 56)) 56 cs
 rw[World.size_alloc,World.size_alloc]at o1
 rw[hw1]
 exact⟨((StB.new w _ _).alloc _).alloc _,r1.alloc _,o1,(((Below.refl _ _).alloc (Nat.le_refl _) _).alloc (by simp) _).alloc (by simp;omega) _,by omega⟩
theorem toNode_any (a b k q z:Value) (n:Nd) (w:World) (hr:RdN w a b k q z n) (hl:SmN n):
  Calls Tryz.prog 28 #[NdV a b k q z n] w fun e w'=>∃a' b' k' q' z',e=.returned (NdV a' b' k' q' z' n)∧OwnN w' w.heap.size a' b' k' q' z' n∧Below w.heap.size w w':=by
 have HR:Hid (∀wx,Below w.heap.size w wx→RdN wx a b k q z n):=fun wx B=>hr.below B
 have C1:Hid (∀wx,Below w.heap.size w wx→Calls Tryz.prog 52 #[.agg #[a,b]] wx fun e w'=>∃u v,e=.returned (.agg #[u,v])∧OwnD w' wx.heap.size u v n.xs n.ys∧Below wx.heap.size wx w'):=fun wx B=>toDisk_any a b n.xs n.ys wx (HR.out wx B).ra (HR.out wx B).rb (by have:=hl.la;omega) (by have:=hl.lb;omega)
 have C2:Hid (∀wx,Below w.heap.size w wx→Calls Tryz.prog 53 #[HV k n.h] wx fun e w'=>∃u,e=.returned (HV u n.h)∧Own w' wx.heap.size u n.h.ks∧Below wx.heap.size wx w'):=fun wx B=>toHolding_any k n.h wx (HR.out wx B).rk (by have:=hl.lk;omega)
 have CR:Hid (∀wx,Calls Tryz.prog 54 #[RV n.r] wx fun e w'=>e=.returned (RV n.r)∧Below wx.heap.size wx w'):=fun wx=>toRecord_any n.r wx
 have C3:Hid (∀wx,Below w.heap.size w wx→Calls Tryz.prog 55 #[CpV q n.c] wx fun e w'=>∃u,e=.returned (CpV u n.c)∧Own w' wx.heap.size u n.c.ts∧Below wx.heap.size wx w'):=fun wx B=>toCopier_any q n.c wx (HR.out wx B).rq (by have:=hl.lq;omega)
 have C4:Hid (∀wx,Below w.heap.size w wx→Calls Tryz.prog 56 #[SnV z n.s] wx fun e w'=>∃u,e=.returned (SnV u n.s)∧Own w' wx.heap.size u n.s.ts∧Below wx.heap.size wx w'):=fun wx B=>toSink_any z n.s wx (HR.out wx B).rz (by have:=hl.lz;omega)
 obtain⟨a1,a2,rfl⟩:=reads_form hr.ra
 obtain⟨b1,b2,rfl⟩:=reads_form hr.rb
 obtain⟨k1,k2,rfl⟩:=reads_form hr.rk
 obtain⟨q1,q2,rfl⟩:=reads_form hr.rq
 obtain⟨z1,z2,rfl⟩:=reads_form hr.rz
 clear hr HR hl
 obtain⟨w1,hw1⟩:∃w1,w1=((w.alloc (.cells #[.int .i64 n.id,.bool n.up,.slice a1 n.xs.length a2,.slice b1 n.ys.length b2,.slice k1 n.h.ks.length k2,.int .i64 n.h.kd,.int .i64 n.h.ho,.int .i64 n.h.tu,.string ⟨n.log.toArray⟩,.int .i64 n.r.e,.int .i64 n.r.s,.int .i64 n.r.t,.int .i64 n.r.n,.int .i64 n.c.tr,.bool n.c.op,.int .i64 n.c.di,.int .i64 n.c.wa,.slice q1 n.c.ts.length q2,.int .i64 n.s.tr,.slice z1 n.s.ts.length z2] 68)).alloc (.cells #[.int .i64 0,.bool false,.slice none 0 0,.slice none 0 0,.slice none 0 0,.int .i64 0,.int .i64 0,.int .i64 0,.string ⟨#[]⟩,.int .i64 0,.int .i64 0,.int .i64 0,.int .i64 0,.int .i64 0,.bool false,.int .i64 0,.int .i64 0,.slice none 0 0,.int .i64 0,.slice none 0 0] 56)).alloc (.cells #[.int .i64 n.id,.bool n.up,.slice none 0 0,.slice none 0 0,.slice none 0 0,.int .i64 0,.int .i64 0,.int .i64 0,.string ⟨#[]⟩,.int .i64 0,.int .i64 0,.int .i64 0,.int .i64 0,.int .i64 0,.bool false,.int .i64 0,.int .i64 0,.slice none 0 0,.int .i64 0,.slice none 0 0] 56):=⟨_,rfl⟩
 have HN:Hid (LS w w1 (w.heap.size+1+1) #[.int .i64 n.id,.bool n.up,.slice a1 n.xs.length a2,.slice b1 n.ys.length b2,.slice k1 n.h.ks.length k2,.int .i64 n.h.kd,.int .i64 n.h.ho,.int .i64 n.h.tu,.string ⟨n.log.toArray⟩,.int .i64 n.r.e,.int .i64 n.r.s,.int .i64 n.r.t,.int .i64 n.r.n,.int .i64 n.c.tr,.bool n.c.op,.int .i64 n.c.di,.int .i64 n.c.wa,.slice q1 n.c.ts.length q2,.int .i64 n.s.tr,.slice z1 n.s.ts.length z2] #[.int .i64 n.id,.bool n.up,.slice none 0 0,.slice none 0 0,.slice none 0 0,.int .i64 0,.int .i64 0,.int .i64 0,.string ⟨#[]⟩,.int .i64 0,.int .i64 0,.int .i64 0,.int .i64 0,.int .i64 0,.bool false,.int .i64 0,.int .i64 0,.slice none 0 0,.int .i64 0,.slice none 0 0]):=LS.start hw1
 unfold HV hdA at C2
 unfold RV recA at CR
 unfold CpV cpA at C3
 unfold SnV snA at C4
 unfold NdV
 conv in ndA (.slice a1 n.xs.length a2) _ _ _ _ _=>unfold ndA S
 go_enter Tryz.func28,Tryz.ntmps28
 go_upto_region 4 with fail
 rw[←hw1]
 clear hw1
 obtain⟨g,hg⟩:∃g,g=w.heap.size+1+1:=⟨_,rfl⟩
 rw[←hg]at HN⊢
 clear hg
 have p2:w1.cell? ⟨w.heap.size,2,none⟩=some (.slice a1 n.xs.length a2):=HN.out.p.cell 2 rfl
 have p3:w1.cell? ⟨w.heap.size,3,none⟩=some (.slice b1 n.ys.length b2):=HN.out.p.cell 3 rfl
 go_wp2_with fail
 refine(C1.out w1 HN.out.b).mono ?_
 rintro e w2 ⟨u,v,rfl,o1,bx⟩
 obtain⟨c1,d1,rfl⟩:=reads_form o1.1.reads
 obtain⟨c2,d2,rfl⟩:=reads_form o1.2.1.reads
 have O:Hid (Own w2 (g+1) (.slice c1 n.xs.length d1) n.xs∧Own w2 (g+1) (.slice c2 n.ys.length d2) n.ys∧[Value.slice c2 n.ys.length d2,Value.slice c1 n.xs.length d1].Pairwise apart):=⟨o1.1.mono HN.out.o.lt,o1.2.1.mono HN.out.o.lt,pair_two o1.2.2⟩
 clear o1
 replace HN:Hid (LS w w2 g #[.int .i64 n.id,.bool n.up,.slice a1 n.xs.length a2,.slice b1 n.ys.length b2,.slice k1 n.h.ks.length k2,.int .i64 n.h.kd,.int .i64 n.h.ho,.int .i64 n.h.tu,.string ⟨n.log.toArray⟩,.int .i64 n.r.e,.int .i64 n.r.s,.int .i64 n.r.t,.int .i64 n.r.n,.int .i64 n.c.tr,.bool n.c.op,.int .i64 n.c.di,.int .i64 n.c.wa,.slice q1 n.c.ts.length q2,.int .i64 n.s.tr,.slice z1 n.s.ts.length z2] #[.int .i64 n.id,.bool n.up,.slice none 0 0,.slice none 0 0,.slice none 0 0,.int .i64 0,.int .i64 0,.int .i64 0,.string ⟨#[]⟩,.int .i64 0,.int .i64 0,.int .i64 0,.int .i64 0,.int .i64 0,.bool false,.int .i64 0,.int .i64 0,.slice none 0 0,.int .i64 0,.slice none 0 0]):=HN.out.below bx
 clear bx C1 p2 p3
 have s2:w2.cell? ⟨g,2,none⟩=some (.slice none 0 0):=HN.out.o.cell 2 rfl
 have f2:=HN.out.o.frozen 2
 have s3:w2.cell? ⟨g,3,none⟩=some (.slice none 0 0):=HN.out.o.cell 3 rfl
 have f3:=HN.out.o.frozen 3
 obtain⟨w3,hw3⟩:∃w3,w3=((w2.setCell ⟨g,2,none⟩ (.slice c1 n.xs.length d1)).setCell ⟨g,3,none⟩ (.slice c2 n.ys.length d2)):=⟨_,rfl⟩
 have HN':Hid (LS w w3 g #[.int .i64 n.id,.bool n.up,.slice a1 n.xs.length a2,.slice b1 n.ys.length b2,.slice k1 n.h.ks.length k2,.int .i64 n.h.kd,.int .i64 n.h.ho,.int .i64 n.h.tu,.string ⟨n.log.toArray⟩,.int .i64 n.r.e,.int .i64 n.r.s,.int .i64 n.r.t,.int .i64 n.r.n,.int .i64 n.c.tr,.bool n.c.op,.int .i64 n.c.di,.int .i64 n.c.wa,.slice q1 n.c.ts.length q2,.int .i64 n.s.tr,.slice z1 n.s.ts.length z2] #[.int .i64 n.id,.bool n.up,.slice c1 n.xs.length d1,.slice c2 n.ys.length d2,.slice none 0 0,.int .i64 0,.int .i64 0,.int .i64 0,.string ⟨#[]⟩,.int .i64 0,.int .i64 0,.int .i64 0,.int .i64 0,.int .i64 0,.bool false,.int .i64 0,.int .i64 0,.slice none 0 0,.int .i64 0,.slice none 0 0]):=by rw[hw3];exact((HN.out.put 2 (.slice c1 n.xs.length d1) rfl).put 3 (.slice c2 n.ys.length d2) rfl)
 replace O:Hid (Own w3 (g+1) (.slice c1 n.xs.length d1) n.xs∧Own w3 (g+1) (.slice c2 n.ys.length d2) n.ys∧[Value.slice c2 n.ys.length d2,Value.slice c1 n.xs.length d1].Pairwise apart):=by
  rw[hw3]
  exact⟨((O.out.1.setLt (Nat.lt_succ_self g) 2 _).setLt (Nat.lt_succ_self g) 3 _),((O.out.2.1.setLt (Nat.lt_succ_self g) 2 _).setLt (Nat.lt_succ_self g) 3 _),O.out.2.2⟩
 go_upto_region 5 with fail
 rw[←hw3]
 clear hw3 HN s2 f2 s3 f3
 have HN:=HN'
 clear HN'
 have p4:w3.cell? ⟨w.heap.size,4,none⟩=some (.slice k1 n.h.ks.length k2):=HN.out.p.cell 4 rfl
 have p5:w3.cell? ⟨w.heap.size,5,none⟩=some (.int .i64 n.h.kd):=HN.out.p.cell 5 rfl
 have p6:w3.cell? ⟨w.heap.size,6,none⟩=some (.int .i64 n.h.ho):=HN.out.p.cell 6 rfl
 have p7:w3.cell? ⟨w.heap.size,7,none⟩=some (.int .i64 n.h.tu):=HN.out.p.cell 7 rfl
 go_wp2_with fail
 refine(C2.out w3 HN.out.b).mono ?_
 rintro e w4 ⟨u,rfl,o2,bx⟩
 obtain⟨c3,d3,rfl⟩:=reads_form o2.reads
 have O':Hid (Own w4 (g+1) (.slice c1 n.xs.length d1) n.xs∧Own w4 (g+1) (.slice c2 n.ys.length d2) n.ys∧Own w4 (g+1) (.slice c3 n.h.ks.length d3) n.h.ks∧[Value.slice c3 n.h.ks.length d3,Value.slice c2 n.ys.length d2,Value.slice c1 n.xs.length d1].Pairwise apart):=by
  refine⟨(O.out.1).below bx,(O.out.2.1).below bx,o2.mono HN.out.o.lt,pair_more (O.out.2.2) (fun x hx=>?_) o2⟩
  simp only[List.mem_cons,List.not_mem_nil,or_false]at hx
  rcases hx with rfl|rfl
  ·exact fun y hy=>(blk_new (O.out.2.1) y hy).2
  ·exact fun y hy=>(blk_new (O.out.1) y hy).2
 clear O o2
 have O:=O'
 clear O'
 replace HN:Hid (LS w w4 g #[.int .i64 n.id,.bool n.up,.slice a1 n.xs.length a2,.slice b1 n.ys.length b2,.slice k1 n.h.ks.length k2,.int .i64 n.h.kd,.int .i64 n.h.ho,.int .i64 n.h.tu,.string ⟨n.log.toArray⟩,.int .i64 n.r.e,.int .i64 n.r.s,.int .i64 n.r.t,.int .i64 n.r.n,.int .i64 n.c.tr,.bool n.c.op,.int .i64 n.c.di,.int .i64 n.c.wa,.slice q1 n.c.ts.length q2,.int .i64 n.s.tr,.slice z1 n.s.ts.length z2] #[.int .i64 n.id,.bool n.up,.slice c1 n.xs.length d1,.slice c2 n.ys.length d2,.slice none 0 0,.int .i64 0,.int .i64 0,.int .i64 0,.string ⟨#[]⟩,.int .i64 0,.int .i64 0,.int .i64 0,.int .i64 0,.int .i64 0,.bool false,.int .i64 0,.int .i64 0,.slice none 0 0,.int .i64 0,.slice none 0 0]):=HN.out.below bx
 clear bx C2 p4 p5 p6 p7
 have s4:w4.cell? ⟨g,4,none⟩=some (.slice none 0 0):=HN.out.o.cell 4 rfl
 have f4:=HN.out.o.frozen 4
 have s5:w4.cell? ⟨g,5,none⟩=some (.int .i64 0):=HN.out.o.cell 5 rfl
 have f5:=HN.out.o.frozen 5
 have s6:w4.cell? ⟨g,6,none⟩=some (.int .i64 0):=HN.out.o.cell 6 rfl
 have f6:=HN.out.o.frozen 6
 have s7:w4.cell? ⟨g,7,none⟩=some (.int .i64 0):=HN.out.o.cell 7 rfl
 have f7:=HN.out.o.frozen 7
 obtain⟨w5,hw5⟩:∃w5,w5=((((w4.setCell ⟨g,4,none⟩ (.slice c3 n.h.ks.length d3)).setCell ⟨g,5,none⟩ (.int .i64 n.h.kd)).setCell ⟨g,6,none⟩ (.int .i64 n.h.ho)).setCell ⟨g,7,none⟩ (.int .i64 n.h.tu)):=⟨_,rfl⟩
 have HN':Hid (LS w w5 g #[.int .i64 n.id,.bool n.up,.slice a1 n.xs.length a2,.slice b1 n.ys.length b2,.slice k1 n.h.ks.length k2,.int .i64 n.h.kd,.int .i64 n.h.ho,.int .i64 n.h.tu,.string ⟨n.log.toArray⟩,.int .i64 n.r.e,.int .i64 n.r.s,.int .i64 n.r.t,.int .i64 n.r.n,.int .i64 n.c.tr,.bool n.c.op,.int .i64 n.c.di,.int .i64 n.c.wa,.slice q1 n.c.ts.length q2,.int .i64 n.s.tr,.slice z1 n.s.ts.length z2] #[.int .i64 n.id,.bool n.up,.slice c1 n.xs.length d1,.slice c2 n.ys.length d2,.slice c3 n.h.ks.length d3,.int .i64 n.h.kd,.int .i64 n.h.ho,.int .i64 n.h.tu,.string ⟨#[]⟩,.int .i64 0,.int .i64 0,.int .i64 0,.int .i64 0,.int .i64 0,.bool false,.int .i64 0,.int .i64 0,.slice none 0 0,.int .i64 0,.slice none 0 0]):=by rw[hw5];exact((((HN.out.put 4 (.slice c3 n.h.ks.length d3) rfl).put 5 (.int .i64 n.h.kd) rfl).put 6 (.int .i64 n.h.ho) rfl).put 7 (.int .i64 n.h.tu) rfl)
 replace O:Hid (Own w5 (g+1) (.slice c1 n.xs.length d1) n.xs∧Own w5 (g+1) (.slice c2 n.ys.length d2) n.ys∧Own w5 (g+1) (.slice c3 n.h.ks.length d3) n.h.ks∧[Value.slice c3 n.h.ks.length d3,Value.slice c2 n.ys.length d2,Value.slice c1 n.xs.length d1].Pairwise apart):=by
  rw[hw5]
  exact⟨((((O.out.1.setLt (Nat.lt_succ_self g) 4 _).setLt (Nat.lt_succ_self g) 5 _).setLt (Nat.lt_succ_self g) 6 _).setLt (Nat.lt_succ_self g) 7 _),((((O.out.2.1.setLt (Nat.lt_succ_self g) 4 _).setLt (Nat.lt_succ_self g) 5 _).setLt (Nat.lt_succ_self g) 6 _).setLt (Nat.lt_succ_self g) 7 _),((((O.out.2.2.1.setLt (Nat.lt_succ_self g) 4 _).setLt (Nat.lt_succ_self g) 5 _).setLt (Nat.lt_succ_self g) 6 _).setLt (Nat.lt_succ_self g) 7 _),O.out.2.2.2⟩
 go_upto_region 6 with fail
 rw[←hw5]
 clear hw5 HN s4 f4 s5 f5 s6 f6 s7 f7
 have HN:=HN'
 clear HN'
 have p8:w5.cell? ⟨w.heap.size,8,none⟩=some (.string ⟨n.log.toArray⟩):=HN.out.p.cell 8 rfl
 have s8:w5.cell? ⟨g,8,none⟩=some (.string ⟨#[]⟩):=HN.out.o.cell 8 rfl
 have f8:=HN.out.o.frozen 8
 obtain⟨w6,hw6⟩:∃w6,w6=(w5.setCell ⟨g,8,none⟩ (.string ⟨n.log.toArray⟩)):=⟨_,rfl⟩
 have HN':Hid (LS w w6 g #[.int .i64 n.id,.bool n.up,.slice a1 n.xs.length a2,.slice b1 n.ys.length b2,.slice k1 n.h.ks.length k2,.int .i64 n.h.kd,.int .i64 n.h.ho,.int .i64 n.h.tu,.string ⟨n.log.toArray⟩,.int .i64 n.r.e,.int .i64 n.r.s,.int .i64 n.r.t,.int .i64 n.r.n,.int .i64 n.c.tr,.bool n.c.op,.int .i64 n.c.di,.int .i64 n.c.wa,.slice q1 n.c.ts.length q2,.int .i64 n.s.tr,.slice z1 n.s.ts.length z2] #[.int .i64 n.id,.bool n.up,.slice c1 n.xs.length d1,.slice c2 n.ys.length d2,.slice c3 n.h.ks.length d3,.int .i64 n.h.kd,.int .i64 n.h.ho,.int .i64 n.h.tu,.string ⟨n.log.toArray⟩,.int .i64 0,.int .i64 0,.int .i64 0,.int .i64 0,.int .i64 0,.bool false,.int .i64 0,.int .i64 0,.slice none 0 0,.int .i64 0,.slice none 0 0]):=by rw[hw6];exact(HN.out.put 8 (.string ⟨n.log.toArray⟩) rfl)
 replace O:Hid (Own w6 (g+1) (.slice c1 n.xs.length d1) n.xs∧Own w6 (g+1) (.slice c2 n.ys.length d2) n.ys∧Own w6 (g+1) (.slice c3 n.h.ks.length d3) n.h.ks∧[Value.slice c3 n.h.ks.length d3,Value.slice c2 n.ys.length d2,Value.slice c1 n.xs.length d1].Pairwise apart):=by
  rw[hw6]
  exact⟨(O.out.1.setLt (Nat.lt_succ_self g) 8 _),(O.out.2.1.setLt (Nat.lt_succ_self g) 8 _),(O.out.2.2.1.setLt (Nat.lt_succ_self g) 8 _),O.out.2.2.2⟩
 go_upto_region 7 with fail
 rw[←hw6]
 clear hw6 HN s8 f8 p8
 have HN:=HN'
 clear HN'
 have p9:w6.cell? ⟨w.heap.size,9,none⟩=some (.int .i64 n.r.e):=HN.out.p.cell 9 rfl
 have p10:w6.cell? ⟨w.heap.size,10,none⟩=some (.int .i64 n.r.s):=HN.out.p.cell 10 rfl
 have p11:w6.cell? ⟨w.heap.size,11,none⟩=some (.int .i64 n.r.t):=HN.out.p.cell 11 rfl
 have p12:w6.cell? ⟨w.heap.size,12,none⟩=some (.int .i64 n.r.n):=HN.out.p.cell 12 rfl
 go_wp2_with fail
 refine(CR.out w6).mono ?_
 rintro e w7 ⟨rfl,bx⟩
 replace O:Hid (Own w7 (g+1) (.slice c1 n.xs.length d1) n.xs∧Own w7 (g+1) (.slice c2 n.ys.length d2) n.ys∧Own w7 (g+1) (.slice c3 n.h.ks.length d3) n.h.ks∧[Value.slice c3 n.h.ks.length d3,Value.slice c2 n.ys.length d2,Value.slice c1 n.xs.length d1].Pairwise apart):=⟨(O.out.1).below bx,(O.out.2.1).below bx,(O.out.2.2.1).below bx,O.out.2.2.2⟩
 replace HN:Hid (LS w w7 g #[.int .i64 n.id,.bool n.up,.slice a1 n.xs.length a2,.slice b1 n.ys.length b2,.slice k1 n.h.ks.length k2,.int .i64 n.h.kd,.int .i64 n.h.ho,.int .i64 n.h.tu,.string ⟨n.log.toArray⟩,.int .i64 n.r.e,.int .i64 n.r.s,.int .i64 n.r.t,.int .i64 n.r.n,.int .i64 n.c.tr,.bool n.c.op,.int .i64 n.c.di,.int .i64 n.c.wa,.slice q1 n.c.ts.length q2,.int .i64 n.s.tr,.slice z1 n.s.ts.length z2] #[.int .i64 n.id,.bool n.up,.slice c1 n.xs.length d1,.slice c2 n.ys.length d2,.slice c3 n.h.ks.length d3,.int .i64 n.h.kd,.int .i64 n.h.ho,.int .i64 n.h.tu,.string ⟨n.log.toArray⟩,.int .i64 0,.int .i64 0,.int .i64 0,.int .i64 0,.int .i64 0,.bool false,.int .i64 0,.int .i64 0,.slice none 0 0,.int .i64 0,.slice none 0 0]):=HN.out.below bx
 clear bx CR p9 p10 p11 p12
 have s9:w7.cell? ⟨g,9,none⟩=some (.int .i64 0):=HN.out.o.cell 9 rfl
 have f9:=HN.out.o.frozen 9
 have s10:w7.cell? ⟨g,10,none⟩=some (.int .i64 0):=HN.out.o.cell 10 rfl
 have f10:=HN.out.o.frozen 10
 have s11:w7.cell? ⟨g,11,none⟩=some (.int .i64 0):=HN.out.o.cell 11 rfl
 have f11:=HN.out.o.frozen 11
 have s12:w7.cell? ⟨g,12,none⟩=some (.int .i64 0):=HN.out.o.cell 12 rfl
 have f12:=HN.out.o.frozen 12
 obtain⟨w8,hw8⟩:∃w8,w8=((((w7.setCell ⟨g,9,none⟩ (.int .i64 n.r.e)).setCell ⟨g,10,none⟩ (.int .i64 n.r.s)).setCell ⟨g,11,none⟩ (.int .i64 n.r.t)).setCell ⟨g,12,none⟩ (.int .i64 n.r.n)):=⟨_,rfl⟩
 have HN':Hid (LS w w8 g #[.int .i64 n.id,.bool n.up,.slice a1 n.xs.length a2,.slice b1 n.ys.length b2,.slice k1 n.h.ks.length k2,.int .i64 n.h.kd,.int .i64 n.h.ho,.int .i64 n.h.tu,.string ⟨n.log.toArray⟩,.int .i64 n.r.e,.int .i64 n.r.s,.int .i64 n.r.t,.int .i64 n.r.n,.int .i64 n.c.tr,.bool n.c.op,.int .i64 n.c.di,.int .i64 n.c.wa,.slice q1 n.c.ts.length q2,.int .i64 n.s.tr,.slice z1 n.s.ts.length z2] #[.int .i64 n.id,.bool n.up,.slice c1 n.xs.length d1,.slice c2 n.ys.length d2,.slice c3 n.h.ks.length d3,.int .i64 n.h.kd,.int .i64 n.h.ho,.int .i64 n.h.tu,.string ⟨n.log.toArray⟩,.int .i64 n.r.e,.int .i64 n.r.s,.int .i64 n.r.t,.int .i64 n.r.n,.int .i64 0,.bool false,.int .i64 0,.int .i64 0,.slice none 0 0,.int .i64 0,.slice none 0 0]):=by rw[hw8];exact((((HN.out.put 9 (.int .i64 n.r.e) rfl).put 10 (.int .i64 n.r.s) rfl).put 11 (.int .i64 n.r.t) rfl).put 12 (.int .i64 n.r.n) rfl)
 replace O:Hid (Own w8 (g+1) (.slice c1 n.xs.length d1) n.xs∧Own w8 (g+1) (.slice c2 n.ys.length d2) n.ys∧Own w8 (g+1) (.slice c3 n.h.ks.length d3) n.h.ks∧[Value.slice c3 n.h.ks.length d3,Value.slice c2 n.ys.length d2,Value.slice c1 n.xs.length d1].Pairwise apart):=by
  rw[hw8]
  exact⟨((((O.out.1.setLt (Nat.lt_succ_self g) 9 _).setLt (Nat.lt_succ_self g) 10 _).setLt (Nat.lt_succ_self g) 11 _).setLt (Nat.lt_succ_self g) 12 _),((((O.out.2.1.setLt (Nat.lt_succ_self g) 9 _).setLt (Nat.lt_succ_self g) 10 _).setLt (Nat.lt_succ_self g) 11 _).setLt (Nat.lt_succ_self g) 12 _),((((O.out.2.2.1.setLt (Nat.lt_succ_self g) 9 _).setLt (Nat.lt_succ_self g) 10 _).setLt (Nat.lt_succ_self g) 11 _).setLt (Nat.lt_succ_self g) 12 _),O.out.2.2.2⟩
 go_upto_region 8 with fail
 rw[←hw8]
 clear hw8 HN s9 f9 s10 f10 s11 f11 s12 f12
 have HN:=HN'
 clear HN'
 have p13:w8.cell? ⟨w.heap.size,13,none⟩=some (.int .i64 n.c.tr):=HN.out.p.cell 13 rfl
 have p14:w8.cell? ⟨w.heap.size,14,none⟩=some (.bool n.c.op):=HN.out.p.cell 14 rfl
 have p15:w8.cell? ⟨w.heap.size,15,none⟩=some (.int .i64 n.c.di):=HN.out.p.cell 15 rfl
 have p16:w8.cell? ⟨w.heap.size,16,none⟩=some (.int .i64 n.c.wa):=HN.out.p.cell 16 rfl
 have p17:w8.cell? ⟨w.heap.size,17,none⟩=some (.slice q1 n.c.ts.length q2):=HN.out.p.cell 17 rfl
 go_wp2_with fail
 refine(C3.out w8 HN.out.b).mono ?_
 rintro e w9 ⟨u,rfl,o2,bx⟩
 obtain⟨c4,d4,rfl⟩:=reads_form o2.reads
 have O':Hid (Own w9 (g+1) (.slice c1 n.xs.length d1) n.xs∧Own w9 (g+1) (.slice c2 n.ys.length d2) n.ys∧Own w9 (g+1) (.slice c3 n.h.ks.length d3) n.h.ks∧Own w9 (g+1) (.slice c4 n.c.ts.length d4) n.c.ts∧[Value.slice c4 n.c.ts.length d4,Value.slice c3 n.h.ks.length d3,Value.slice c2 n.ys.length d2,Value.slice c1 n.xs.length d1].Pairwise apart):=by
  refine⟨(O.out.1).below bx,(O.out.2.1).below bx,(O.out.2.2.1).below bx,o2.mono HN.out.o.lt,pair_more (O.out.2.2.2) (fun x hx=>?_) o2⟩
  simp only[List.mem_cons,List.not_mem_nil,or_false]at hx
  rcases hx with rfl|rfl|rfl
  ·exact fun y hy=>(blk_new (O.out.2.2.1) y hy).2
  ·exact fun y hy=>(blk_new (O.out.2.1) y hy).2
  ·exact fun y hy=>(blk_new (O.out.1) y hy).2
 clear O o2
 have O:=O'
 clear O'
 replace HN:Hid (LS w w9 g #[.int .i64 n.id,.bool n.up,.slice a1 n.xs.length a2,.slice b1 n.ys.length b2,.slice k1 n.h.ks.length k2,.int .i64 n.h.kd,.int .i64 n.h.ho,.int .i64 n.h.tu,.string ⟨n.log.toArray⟩,.int .i64 n.r.e,.int .i64 n.r.s,.int .i64 n.r.t,.int .i64 n.r.n,.int .i64 n.c.tr,.bool n.c.op,.int .i64 n.c.di,.int .i64 n.c.wa,.slice q1 n.c.ts.length q2,.int .i64 n.s.tr,.slice z1 n.s.ts.length z2] #[.int .i64 n.id,.bool n.up,.slice c1 n.xs.length d1,.slice c2 n.ys.length d2,.slice c3 n.h.ks.length d3,.int .i64 n.h.kd,.int .i64 n.h.ho,.int .i64 n.h.tu,.string ⟨n.log.toArray⟩,.int .i64 n.r.e,.int .i64 n.r.s,.int .i64 n.r.t,.int .i64 n.r.n,.int .i64 0,.bool false,.int .i64 0,.int .i64 0,.slice none 0 0,.int .i64 0,.slice none 0 0]):=HN.out.below bx
 clear bx C3 p13 p14 p15 p16 p17
 have s13:w9.cell? ⟨g,13,none⟩=some (.int .i64 0):=HN.out.o.cell 13 rfl
 have f13:=HN.out.o.frozen 13
 have s14:w9.cell? ⟨g,14,none⟩=some (.bool false):=HN.out.o.cell 14 rfl
 have f14:=HN.out.o.frozen 14
 have s15:w9.cell? ⟨g,15,none⟩=some (.int .i64 0):=HN.out.o.cell 15 rfl
 have f15:=HN.out.o.frozen 15
 have s16:w9.cell? ⟨g,16,none⟩=some (.int .i64 0):=HN.out.o.cell 16 rfl
 have f16:=HN.out.o.frozen 16
 have s17:w9.cell? ⟨g,17,none⟩=some (.slice none 0 0):=HN.out.o.cell 17 rfl
 have f17:=HN.out.o.frozen 17
 obtain⟨w10,hw10⟩:∃w10,w10=(((((w9.setCell ⟨g,13,none⟩ (.int .i64 n.c.tr)).setCell ⟨g,14,none⟩ (.bool n.c.op)).setCell ⟨g,15,none⟩ (.int .i64 n.c.di)).setCell ⟨g,16,none⟩ (.int .i64 n.c.wa)).setCell ⟨g,17,none⟩ (.slice c4 n.c.ts.length d4)):=⟨_,rfl⟩
 have HN':Hid (LS w w10 g #[.int .i64 n.id,.bool n.up,.slice a1 n.xs.length a2,.slice b1 n.ys.length b2,.slice k1 n.h.ks.length k2,.int .i64 n.h.kd,.int .i64 n.h.ho,.int .i64 n.h.tu,.string ⟨n.log.toArray⟩,.int .i64 n.r.e,.int .i64 n.r.s,.int .i64 n.r.t,.int .i64 n.r.n,.int .i64 n.c.tr,.bool n.c.op,.int .i64 n.c.di,.int .i64 n.c.wa,.slice q1 n.c.ts.length q2,.int .i64 n.s.tr,.slice z1 n.s.ts.length z2] #[.int .i64 n.id,.bool n.up,.slice c1 n.xs.length d1,.slice c2 n.ys.length d2,.slice c3 n.h.ks.length d3,.int .i64 n.h.kd,.int .i64 n.h.ho,.int .i64 n.h.tu,.string ⟨n.log.toArray⟩,.int .i64 n.r.e,.int .i64 n.r.s,.int .i64 n.r.t,.int .i64 n.r.n,.int .i64 n.c.tr,.bool n.c.op,.int .i64 n.c.di,.int .i64 n.c.wa,.slice c4 n.c.ts.length d4,.int .i64 0,.slice none 0 0]):=by rw[hw10];exact(((((HN.out.put 13 (.int .i64 n.c.tr) rfl).put 14 (.bool n.c.op) rfl).put 15 (.int .i64 n.c.di) rfl).put 16 (.int .i64 n.c.wa) rfl).put 17 (.slice c4 n.c.ts.length d4) rfl)
 replace O:Hid (Own w10 (g+1) (.slice c1 n.xs.length d1) n.xs∧Own w10 (g+1) (.slice c2 n.ys.length d2) n.ys∧Own w10 (g+1) (.slice c3 n.h.ks.length d3) n.h.ks∧Own w10 (g+1) (.slice c4 n.c.ts.length d4) n.c.ts∧[Value.slice c4 n.c.ts.length d4,Value.slice c3 n.h.ks.length d3,Value.slice c2 n.ys.length d2,Value.slice c1 n.xs.length d1].Pairwise apart):=by
  rw[hw10]
  exact⟨(((((O.out.1.setLt (Nat.lt_succ_self g) 13 _).setLt (Nat.lt_succ_self g) 14 _).setLt (Nat.lt_succ_self g) 15 _).setLt (Nat.lt_succ_self g) 16 _).setLt (Nat.lt_succ_self g) 17 _),(((((O.out.2.1.setLt (Nat.lt_succ_self g) 13 _).setLt (Nat.lt_succ_self g) 14 _).setLt (Nat.lt_succ_self g) 15 _).setLt (Nat.lt_succ_self g) 16 _).setLt (Nat.lt_succ_self g) 17 _),(((((O.out.2.2.1.setLt (Nat.lt_succ_self g) 13 _).setLt (Nat.lt_succ_self g) 14 _).setLt (Nat.lt_succ_self g) 15 _).setLt (Nat.lt_succ_self g) 16 _).setLt (Nat.lt_succ_self g) 17 _),(((((O.out.2.2.2.1.setLt (Nat.lt_succ_self g) 13 _).setLt (Nat.lt_succ_self g) 14 _).setLt (Nat.lt_succ_self g) 15 _).setLt (Nat.lt_succ_self g) 16 _).setLt (Nat.lt_succ_self g) 17 _),O.out.2.2.2.2⟩
 go_upto_region 9 with fail
 rw[←hw10]
 clear hw10 HN s13 f13 s14 f14 s15 f15 s16 f16 s17 f17
 have HN:=HN'
 clear HN'
 have p18:w10.cell? ⟨w.heap.size,18,none⟩=some (.int .i64 n.s.tr):=HN.out.p.cell 18 rfl
 have p19:w10.cell? ⟨w.heap.size,19,none⟩=some (.slice z1 n.s.ts.length z2):=HN.out.p.cell 19 rfl
 go_wp2_with fail
 refine(C4.out w10 HN.out.b).mono ?_
 rintro e w11 ⟨u,rfl,o2,bx⟩
 obtain⟨c5,d5,rfl⟩:=reads_form o2.reads
 have O':Hid (Own w11 (g+1) (.slice c1 n.xs.length d1) n.xs∧Own w11 (g+1) (.slice c2 n.ys.length d2) n.ys∧Own w11 (g+1) (.slice c3 n.h.ks.length d3) n.h.ks∧Own w11 (g+1) (.slice c4 n.c.ts.length d4) n.c.ts∧Own w11 (g+1) (.slice c5 n.s.ts.length d5) n.s.ts∧[Value.slice c5 n.s.ts.length d5,Value.slice c4 n.c.ts.length d4,Value.slice c3 n.h.ks.length d3,Value.slice c2 n.ys.length d2,Value.slice c1 n.xs.length d1].Pairwise apart):=by
  refine⟨(O.out.1).below bx,(O.out.2.1).below bx,(O.out.2.2.1).below bx,(O.out.2.2.2.1).below bx,o2.mono HN.out.o.lt,pair_more (O.out.2.2.2.2) (fun x hx=>?_) o2⟩
  simp only[List.mem_cons,List.not_mem_nil,or_false]at hx
  rcases hx with rfl|rfl|rfl|rfl
  ·exact fun y hy=>(blk_new (O.out.2.2.2.1) y hy).2
  ·exact fun y hy=>(blk_new (O.out.2.2.1) y hy).2
  ·exact fun y hy=>(blk_new (O.out.2.1) y hy).2
  ·exact fun y hy=>(blk_new (O.out.1) y hy).2
 clear O o2
 have O:=O'
 clear O'
 replace HN:Hid (LS w w11 g #[.int .i64 n.id,.bool n.up,.slice a1 n.xs.length a2,.slice b1 n.ys.length b2,.slice k1 n.h.ks.length k2,.int .i64 n.h.kd,.int .i64 n.h.ho,.int .i64 n.h.tu,.string ⟨n.log.toArray⟩,.int .i64 n.r.e,.int .i64 n.r.s,.int .i64 n.r.t,.int .i64 n.r.n,.int .i64 n.c.tr,.bool n.c.op,.int .i64 n.c.di,.int .i64 n.c.wa,.slice q1 n.c.ts.length q2,.int .i64 n.s.tr,.slice z1 n.s.ts.length z2] #[.int .i64 n.id,.bool n.up,.slice c1 n.xs.length d1,.slice c2 n.ys.length d2,.slice c3 n.h.ks.length d3,.int .i64 n.h.kd,.int .i64 n.h.ho,.int .i64 n.h.tu,.string ⟨n.log.toArray⟩,.int .i64 n.r.e,.int .i64 n.r.s,.int .i64 n.r.t,.int .i64 n.r.n,.int .i64 n.c.tr,.bool n.c.op,.int .i64 n.c.di,.int .i64 n.c.wa,.slice c4 n.c.ts.length d4,.int .i64 0,.slice none 0 0]):=HN.out.below bx
 clear bx C4 p18 p19
 have s18:w11.cell? ⟨g,18,none⟩=some (.int .i64 0):=HN.out.o.cell 18 rfl
 have f18:=HN.out.o.frozen 18
 have s19:w11.cell? ⟨g,19,none⟩=some (.slice none 0 0):=HN.out.o.cell 19 rfl
 have f19:=HN.out.o.frozen 19
 obtain⟨w12,hw12⟩:∃w12,w12=((w11.setCell ⟨g,18,none⟩ (.int .i64 n.s.tr)).setCell ⟨g,19,none⟩ (.slice c5 n.s.ts.length d5)):=⟨_,rfl⟩
 have HN':Hid (LS w w12 g #[.int .i64 n.id,.bool n.up,.slice a1 n.xs.length a2,.slice b1 n.ys.length b2,.slice k1 n.h.ks.length k2,.int .i64 n.h.kd,.int .i64 n.h.ho,.int .i64 n.h.tu,.string ⟨n.log.toArray⟩,.int .i64 n.r.e,.int .i64 n.r.s,.int .i64 n.r.t,.int .i64 n.r.n,.int .i64 n.c.tr,.bool n.c.op,.int .i64 n.c.di,.int .i64 n.c.wa,.slice q1 n.c.ts.length q2,.int .i64 n.s.tr,.slice z1 n.s.ts.length z2] #[.int .i64 n.id,.bool n.up,.slice c1 n.xs.length d1,.slice c2 n.ys.length d2,.slice c3 n.h.ks.length d3,.int .i64 n.h.kd,.int .i64 n.h.ho,.int .i64 n.h.tu,.string ⟨n.log.toArray⟩,.int .i64 n.r.e,.int .i64 n.r.s,.int .i64 n.r.t,.int .i64 n.r.n,.int .i64 n.c.tr,.bool n.c.op,.int .i64 n.c.di,.int .i64 n.c.wa,.slice c4 n.c.ts.length d4,.int .i64 n.s.tr,.slice c5 n.s.ts.length d5]):=by rw[hw12];exact((HN.out.put 18 (.int .i64 n.s.tr) rfl).put 19 (.slice c5 n.s.ts.length d5) rfl)
 replace O:Hid (Own w12 (g+1) (.slice c1 n.xs.length d1) n.xs∧Own w12 (g+1) (.slice c2 n.ys.length d2) n.ys∧Own w12 (g+1) (.slice c3 n.h.ks.length d3) n.h.ks∧Own w12 (g+1) (.slice c4 n.c.ts.length d4) n.c.ts∧Own w12 (g+1) (.slice c5 n.s.ts.length d5) n.s.ts∧[Value.slice c5 n.s.ts.length d5,Value.slice c4 n.c.ts.length d4,Value.slice c3 n.h.ks.length d3,Value.slice c2 n.ys.length d2,Value.slice c1 n.xs.length d1].Pairwise apart):=by
  rw[hw12]
  exact⟨((O.out.1.setLt (Nat.lt_succ_self g) 18 _).setLt (Nat.lt_succ_self g) 19 _),((O.out.2.1.setLt (Nat.lt_succ_self g) 18 _).setLt (Nat.lt_succ_self g) 19 _),((O.out.2.2.1.setLt (Nat.lt_succ_self g) 18 _).setLt (Nat.lt_succ_self g) 19 _),((O.out.2.2.2.1.setLt (Nat.lt_succ_self g) 18 _).setLt (Nat.lt_succ_self g) 19 _),((O.out.2.2.2.2.1.setLt (Nat.lt_succ_self g) 18 _).setLt (Nat.lt_succ_self g) 19 _),O.out.2.2.2.2.2⟩
 go_upto_region 10 with fail
 rw[←hw12]
 clear hw12 HN s18 f18 s19 f19
 have HN:=HN'
 clear HN'
 go_wp2_with (first|(refine wpList_getS Tryz.isNd rfl _ rfl g rfl (ndA (.slice c1 n.xs.length d1) (.slice c2 n.ys.length d2) (.slice c3 n.h.ks.length d3) (.slice c4 n.c.ts.length d4) (.slice c5 n.s.ts.length d5) n) rfl HN.out.o ?_)|(refine wpList_putS Tryz.isNd rfl _ _ rfl (w.heap.size+1) (ndA (.slice c1 n.xs.length d1) (.slice c2 n.ys.length d2) (.slice c3 n.h.ks.length d3) (.slice c4 n.c.ts.length d4) (.slice c5 n.s.ts.length d5) n) zeroNd rfl rfl rfl rfl (ndA_one n rfl rfl rfl rfl rfl) HN.out.r ?_;intro w19 s19 g19))
 refine bodyPost_ret (results_S Tryz.isNd rfl _ _ (w.heap.size+1) _ rfl rfl s19) rfl ?_
 refine⟨_,_,_,_,_,rfl,?_,HN.out.b.grown g19 HN.out.b.size (fun k e=>by cases e;omega)⟩
 exact(OwnN.keptLt ⟨O.out.1,O.out.2.1,O.out.2.2.1,O.out.2.2.2.1,O.out.2.2.2.2.1,O.out.2.2.2.2.2⟩ g19 (by have:=HN.out.l;omega)).mono (by have:=HN.out.l;omega)
end Go.Proofs.YtflbcjgkdokhiaaGreatDoor
