/- A new pair, by the model. -/
import Derived.Test.YthmnmaemnihkeaaDoorM33
import Derived.Test.YthmnmaemnihkeaaDoorSNode7
import Derived.Test.YthmnmaemnihkeaaDoorINodeF
import Derived.Test.YthmnmaemnihkeaaDoorM25
import Derived.LaidMore
import Derived.Stop.Joined
import Derived.Stop.LaidErr
import Derived.Lib.LaidTab
import Derived.ProofKit
set_option maxRecDepth 20000
set_option maxHeartbeats 4000000
namespace Go.Proofs.YthmnmaemnihkeaaDoor
open Go.ChangeShapes Go.WideShapes Go.ChangeAt Go.RowKit
theorem sNewPair_any (bl:Int) (w:World):
  Calls Tryd.prog 4 #[.int .i64 bl] w fun e w'=>∃u v x ns ps,e=.returned (.tuple #[.agg (prA u v x),.bool (Nd.made 0 bl)])∧nsOf ns=newNs bl∧msOf ps=[]∧OwnPr w' w.heap.size u v x ns ps []∧Below w.heap.size w w':=by
 have C0:Hid (∀wx,Below w.heap.size w wx→Calls Tryd.prog 9 #[.int .i64 0,.int .i64 bl,.bool true] wx fun e w'=>∃a b k q z,e=.returned (.tuple #[.agg (ndA a b k q z (Nd.new 0 bl true)),.bool (Nd.made 0 bl)])∧OwnN w' wx.heap.size a b k q z (Nd.new 0 bl true)∧Below wx.heap.size wx w'):=fun wx b=>sNewNode_any 0 bl true wx
 have C1:Hid (∀wx,Below w.heap.size w wx→Calls Tryd.prog 9 #[.int .i64 1,.int .i64 bl,.bool false] wx fun e w'=>∃a b k q z,e=.returned (.tuple #[.agg (ndA a b k q z (Nd.new 1 bl false)),.bool (Nd.made 1 bl)])∧OwnN w' wx.heap.size a b k q z (Nd.new 1 bl false)∧Below wx.heap.size wx w'):=fun wx b=>sNewNode_any 1 bl false wx
 have HE:Hid (newNs bl=if Nd.made 0 bl then[Nd.new 0 bl true,Nd.new 1 bl false]else[]):=rfl
 obtain⟨t,ht'⟩:∃t,t=Nd.made 0 bl:=⟨_,rfl⟩
 rw[made_is,←ht']at C1
 rw[←ht']at C0 HE⊢
 clear ht'
 obtain⟨w1,hw1⟩:∃w1,w1=w.alloc (.cells zeroPr 26):=⟨_,rfl⟩
 have HP:Hid (StB w1 w.heap.size 26 zeroPr∧Below w.heap.size w w1):=by rw[hw1];exact⟨StB.new _ _ _,(Below.refl _ _).alloc (Nat.le_refl _) _⟩
 unfold zeroPr prA at hw1
 go_enter Tryd.func4,Tryd.ntmps4
 go_upto_region 1 with fail
 rw[←hw1]
 clear hw1
 go_wp2_with fail
 refine(C0.out w1 HP.out.2).mono ?_
 rintro e w2 ⟨a,b,k,q,z,rfl,o,B⟩
 obtain⟨x0,hx⟩:∃x:Nv,x=⟨a,b,k,q,z,Nd.new 0 bl true⟩:=⟨_,rfl⟩
 have hxA:ndA a b k q z (Nd.new 0 bl true)=x0.A:=by rw[hx];rfl
 have hxm:x0.mine w2 w1.heap.size:=by rw[hx];exact o.mine
 have hxn:x0.n=Nd.new 0 bl true:=by rw[hx]
 have hone:x0.A.all (·.oneCell')=true:=by rw[←hxA];exact ndA_one _ (reads_one o.oa.reads) (reads_one o.ob.reads) (reads_one o.ok.reads) (reads_one o.oq.reads) (reads_one o.oz.reads)
 rw[hxA]
 clear hx hxA o C0
 have q1:StB (w2.alloc (.cells zeroNd 44)) w2.heap.size 44 zeroNd:=StB.new _ _ _
 go_upto_region 2 with(refine wpList_putS Tryd.isNd rfl _ _ rfl w2.heap.size x0.A zeroNd rfl rfl rfl rfl hone q1 ?_;intro w3 s g)
 (try simp only[Act.put])
 have B2:Below w2.heap.size w2 w3:=((Below.refl _ _).alloc (Nat.le_refl _) _).grown g (by simp) (fun k e=>by cases e;omega)
 have H3:Hid (StB w3 w.heap.size 26 zeroPr∧Below w.heap.size w w3∧StB w3 w2.heap.size 44 x0.A∧x0.mine w3 (w.heap.size+1)∧x0.n=Nd.new 0 bl true∧w.heap.size<w2.heap.size):=⟨(HP.out.1.below B).below B2,HP.out.2.trans ((B.trans (B2.mono B.size)).mono HP.out.2.size),s,MineN.mono (MineN.below hxm B2) HP.out.1.lt,hxn,(HP.out.1.below B).lt⟩
 clear q1 s g B B2 hxm hxn hone HP
 obtain⟨g4,hg4⟩:∃g4,g4=w2.heap.size:=⟨_,rfl⟩
 rw[←hg4]at H3⊢
 clear hg4
 have HP:Hid (True∧Below w.heap.size w w3):=⟨trivial,H3.out.2.1⟩
 cases t with
 |false=>
  have HX:Hid (newNs bl=[]):=by rw[Hid,HE.out];rfl
  go_wp2_with (refine wpList_putS Tryd.isPr rfl _ _ rfl w.heap.size zeroPr zeroPr rfl rfl rfl rfl (prA_one rfl rfl rfl) H3.out.1 ?_;intro w19 s19 g19)
  refine bodyPost_ret (results_S2 Tryd.isPr rfl _ _ w.heap.size _ (.bool false) rfl rfl rfl s19) rfl ?_
  exact⟨_,_,_,[],[],rfl,HX.out.symm,rfl,OwnPr.nil _ _,H3.out.2.1.grown g19 H3.out.2.1.size (fun k e=>by cases e;omega)⟩
 |true=>
  go_wp2_with fail
  refine(C1.out w3 HP.out.2).mono ?_
  rintro e w4 ⟨a,b,k,q,z,rfl,o,B⟩
  obtain⟨x1,hx⟩:∃x:Nv,x=⟨a,b,k,q,z,Nd.new 1 bl false⟩:=⟨_,rfl⟩
  have hxA:ndA a b k q z (Nd.new 1 bl false)=x1.A:=by rw[hx];rfl
  have hxm:x1.mine w4 w3.heap.size:=by rw[hx];exact o.mine
  have hxn:x1.n=Nd.new 1 bl false:=by rw[hx]
  have hone:x1.A.all (·.oneCell')=true:=by rw[←hxA];exact ndA_one _ (reads_one o.oa.reads) (reads_one o.ob.reads) (reads_one o.ok.reads) (reads_one o.oq.reads) (reads_one o.oz.reads)
  rw[hxA]
  clear hx hxA o C1
  have q1:StB (w4.alloc (.cells zeroNd 44)) w4.heap.size 44 zeroNd:=StB.new _ _ _
  go_upto_region 5 with(refine wpList_putS Tryd.isNd rfl _ _ rfl w4.heap.size x1.A zeroNd rfl rfl rfl rfl hone q1 ?_;intro w5 s g)
  (try simp only[Act.put])
  have B2:Below w4.heap.size w4 w5:=((Below.refl _ _).alloc (Nat.le_refl _) _).grown g (by simp) (fun k e=>by cases e;omega)
  have H5:Hid (StB w5 w.heap.size 26 zeroPr∧Below w.heap.size w w5∧StB w5 g4 44 x0.A∧StB w5 w4.heap.size 44 x1.A∧x0.mine w5 (w.heap.size+1)∧x1.mine w5 (w.heap.size+1)∧x0.n=Nd.new 0 bl true∧x1.n=Nd.new 1 bl false∧∀b∈x0.bl,b∉x1.bl):=⟨(H3.out.1.below B).below B2,H3.out.2.1.trans ((B.trans (B2.mono B.size)).mono H3.out.2.1.size),(H3.out.2.2.1.below B).below B2,s,MineN.below (MineN.below H3.out.2.2.2.1 B) B2,MineN.mono (MineN.below hxm B2) H3.out.1.lt,H3.out.2.2.2.2.1,hxn,fun b h1 h2=>by have:=(MineN.lt H3.out.2.2.2.1 h1).2;have:=(MineN.lt hxm h2).1;omega⟩
  clear q1 s g B B2 hxm hxn hone HP H3
  obtain⟨g6,hg6⟩:∃g6,g6=w4.heap.size:=⟨_,rfl⟩
  rw[←hg6]at H5⊢
  clear hg6
  have HX:Hid (newNs bl=[Nd.new 0 bl true,Nd.new 1 bl false]):=by rw[Hid,HE.out];rfl
  have HO:Hid (OwnPr (w5.alloc (.cells (x0.A++x1.A) 44)) (w.heap.size+1) (.slice (some ⟨w5.heap.size,0,none⟩) 2 2) (.slice none 0 0) (.slice none 0 0) [x0,x1] [] []∧StB (w5.alloc (.cells (x0.A++x1.A) 44)) w.heap.size 26 zeroPr∧Below w.heap.size w (w5.alloc (.cells (x0.A++x1.A) 44))):=by
   have B:Below w5.heap.size w5 (w5.alloc (.cells (x0.A++x1.A) 44)):=(Below.refl _ _).alloc (Nat.le_refl _) _
   exact⟨⟨OwnNs.two H5.out.2.2.2.2.1 H5.out.2.2.2.2.2.1 H5.out.1.lt H5.out.2.2.2.2.2.2.2.2,OwnP.nil _ _,OwnE.nil _ _,fun y _ h=>by simp[psB,blk,Value.ownBlock,kcs]at h,fun y _ h=>by simp[blk,Value.ownBlock]at h,fun y _ h=>by simp[blk,Value.ownBlock]at h⟩,H5.out.1.below B,H5.out.2.1.trans (B.mono H5.out.2.1.size)⟩
  go_wp2_with (first|(refine wpList_getS Tryd.isNd rfl _ rfl g4 rfl x0.A rfl H5.out.2.2.1 ?_)|(refine wpList_getS Tryd.isNd rfl _ rfl g6 rfl x1.A rfl H5.out.2.2.2.1 ?_)|(refine wpList_litN rfl _ _ rfl x0 x1 rfl rfl ?_)|(refine wpList_putS Tryd.isPr rfl _ _ rfl w.heap.size (prA (.slice (some ⟨w5.heap.size,0,none⟩) 2 2) (.slice none 0 0) (.slice none 0 0)) zeroPr rfl rfl rfl rfl (prA_one rfl rfl rfl) HO.out.2.1 ?_;intro w19 s19 g19))
  refine bodyPost_ret (results_S2 Tryd.isPr rfl _ _ w.heap.size _ (.bool true) rfl rfl rfl s19) rfl ?_
  have HY:Hid (nsOf [x0,x1]=newNs bl):=by
   rw[Hid,HX.out]
   show[x0.n,x1.n]=_
   rw[H5.out.2.2.2.2.2.2.1,H5.out.2.2.2.2.2.2.2.1]
  have HW:=(HO.out.1.kept g19 (Nat.lt_succ_self _)).mono (Nat.le_succ _)
  have HV:Below w.heap.size w w19:=HO.out.2.2.grown g19 HO.out.2.2.size (fun k e=>by cases e;omega)
  first|exact⟨_,_,_,[x0,x1],[],rfl,HY.out,rfl,HW,HV⟩|exact⟨_,_,_,rfl,[x0,x1],HY.out,[],rfl,HW,HV⟩
end Go.Proofs.YthmnmaemnihkeaaDoor
set_option maxRecDepth 20000
set_option maxHeartbeats 4000000
namespace Go.Proofs.YthmnmaemnihkeaaDoor
open Go.ChangeShapes Go.WideShapes Go.ChangeAt Go.RowKit
theorem iNewPair_any (bl:Int) (w:World) (ht:Tab w):
  Calls Tryd.prog 5 #[.int .i64 bl] w fun e w'=>∃u v x ns ps,e=.returned (.tuple #[.agg (prA u v x),.bool (Nd.made 0 bl)])∧nsOf ns=newNs bl∧msOf ps=[]∧OwnPr w' w.heap.size u v x ns ps []∧Below w.heap.size w w':=by
 have C0:Hid (∀wx,Below w.heap.size w wx→Calls Tryd.prog 10 #[.int .i64 0,.int .i64 bl,.bool true] wx fun e w'=>∃a b k q z,e=.returned (.tuple #[.agg (ndA a b k q z (Nd.new 0 bl true)),.bool (Nd.made 0 bl)])∧MineN w' wx.heap.size a b k q z (Nd.new 0 bl true)∧Below wx.heap.size wx w'):=fun wx b=>iNewNode_any 0 bl true wx (ht.below b)
 have C1:Hid (∀wx,Below w.heap.size w wx→Calls Tryd.prog 10 #[.int .i64 1,.int .i64 bl,.bool false] wx fun e w'=>∃a b k q z,e=.returned (.tuple #[.agg (ndA a b k q z (Nd.new 1 bl false)),.bool (Nd.made 1 bl)])∧MineN w' wx.heap.size a b k q z (Nd.new 1 bl false)∧Below wx.heap.size wx w'):=fun wx b=>iNewNode_any 1 bl false wx (ht.below b)
 have HE:Hid (newNs bl=if Nd.made 0 bl then[Nd.new 0 bl true,Nd.new 1 bl false]else[]):=rfl
 obtain⟨t,ht'⟩:∃t,t=Nd.made 0 bl:=⟨_,rfl⟩
 rw[made_is,←ht']at C1
 rw[←ht']at C0 HE⊢
 clear ht' ht
 obtain⟨w1,hw1⟩:∃w1,w1=w.alloc (.cells zeroPr 26):=⟨_,rfl⟩
 have HP:Hid (StB w1 w.heap.size 26 zeroPr∧Below w.heap.size w w1):=by rw[hw1];exact⟨StB.new _ _ _,(Below.refl _ _).alloc (Nat.le_refl _) _⟩
 unfold zeroPr prA at hw1
 go_enter Tryd.func5,Tryd.ntmps5
 go_upto_region 1 with fail
 rw[←hw1]
 clear hw1
 go_wp2_with fail
 refine(C0.out w1 HP.out.2).mono ?_
 rintro e w2 ⟨a,b,k,q,z,rfl,o,B⟩
 obtain⟨x0,hx⟩:∃x:Nv,x=⟨a,b,k,q,z,Nd.new 0 bl true⟩:=⟨_,rfl⟩
 have hxA:ndA a b k q z (Nd.new 0 bl true)=x0.A:=by rw[hx];rfl
 have hxm:x0.mine w2 w1.heap.size:=by rw[hx];exact o
 have hxn:x0.n=Nd.new 0 bl true:=by rw[hx]
 have hone:x0.A.all (·.oneCell')=true:=by rw[←hxA];exact ndA_one _ (reads_one o.oa.reads) (reads_one o.ob.reads) (reads_one o.ok.reads) (reads_one o.oq.reads) (reads_one o.oz.reads)
 rw[hxA]
 clear hx hxA o C0
 have q1:StB (w2.alloc (.cells zeroNd 44)) w2.heap.size 44 zeroNd:=StB.new _ _ _
 go_upto_region 2 with(refine wpList_putS Tryd.isNd rfl _ _ rfl w2.heap.size x0.A zeroNd rfl rfl rfl rfl hone q1 ?_;intro w3 s g)
 (try simp only[Act.put])
 have B2:Below w2.heap.size w2 w3:=((Below.refl _ _).alloc (Nat.le_refl _) _).grown g (by simp) (fun k e=>by cases e;omega)
 have H3:Hid (StB w3 w.heap.size 26 zeroPr∧Below w.heap.size w w3∧StB w3 w2.heap.size 44 x0.A∧x0.mine w3 (w.heap.size+1)∧x0.n=Nd.new 0 bl true∧w.heap.size<w2.heap.size):=⟨(HP.out.1.below B).below B2,HP.out.2.trans ((B.trans (B2.mono B.size)).mono HP.out.2.size),s,MineN.mono (MineN.below hxm B2) HP.out.1.lt,hxn,(HP.out.1.below B).lt⟩
 clear q1 s g B B2 hxm hxn hone HP
 obtain⟨g4,hg4⟩:∃g4,g4=w2.heap.size:=⟨_,rfl⟩
 rw[←hg4]at H3⊢
 clear hg4
 have HP:Hid (True∧Below w.heap.size w w3):=⟨trivial,H3.out.2.1⟩
 go_wp2_with fail
 refine(C1.out w3 HP.out.2).mono ?_
 rintro e w4 ⟨a,b,k,q,z,rfl,o,B⟩
 obtain⟨x1,hx⟩:∃x:Nv,x=⟨a,b,k,q,z,Nd.new 1 bl false⟩:=⟨_,rfl⟩
 have hxA:ndA a b k q z (Nd.new 1 bl false)=x1.A:=by rw[hx];rfl
 have hxm:x1.mine w4 w3.heap.size:=by rw[hx];exact o
 have hxn:x1.n=Nd.new 1 bl false:=by rw[hx]
 have hone:x1.A.all (·.oneCell')=true:=by rw[←hxA];exact ndA_one _ (reads_one o.oa.reads) (reads_one o.ob.reads) (reads_one o.ok.reads) (reads_one o.oq.reads) (reads_one o.oz.reads)
 rw[hxA]
 clear hx hxA o C1
 have q1:StB (w4.alloc (.cells zeroNd 44)) w4.heap.size 44 zeroNd:=StB.new _ _ _
 go_upto_region 3 with(refine wpList_putS Tryd.isNd rfl _ _ rfl w4.heap.size x1.A zeroNd rfl rfl rfl rfl hone q1 ?_;intro w5 s g)
 (try simp only[Act.put])
 have B2:Below w4.heap.size w4 w5:=((Below.refl _ _).alloc (Nat.le_refl _) _).grown g (by simp) (fun k e=>by cases e;omega)
 have H5:Hid (StB w5 w.heap.size 26 zeroPr∧Below w.heap.size w w5∧StB w5 g4 44 x0.A∧StB w5 w4.heap.size 44 x1.A∧x0.mine w5 (w.heap.size+1)∧x1.mine w5 (w.heap.size+1)∧x0.n=Nd.new 0 bl true∧x1.n=Nd.new 1 bl false∧∀b∈x0.bl,b∉x1.bl):=⟨(H3.out.1.below B).below B2,H3.out.2.1.trans ((B.trans (B2.mono B.size)).mono H3.out.2.1.size),(H3.out.2.2.1.below B).below B2,s,MineN.below (MineN.below H3.out.2.2.2.1 B) B2,MineN.mono (MineN.below hxm B2) H3.out.1.lt,H3.out.2.2.2.2.1,hxn,fun b h1 h2=>by have:=(MineN.lt H3.out.2.2.2.1 h1).2;have:=(MineN.lt hxm h2).1;omega⟩
 clear q1 s g B B2 hxm hxn hone HP H3
 obtain⟨g6,hg6⟩:∃g6,g6=w4.heap.size:=⟨_,rfl⟩
 rw[←hg6]at H5⊢
 clear hg6
 cases t with
 |false=>
  have HX:Hid (newNs bl=[]):=by rw[Hid,HE.out];rfl
  go_wp2_with (refine wpList_putS Tryd.isPr rfl _ _ rfl w.heap.size zeroPr zeroPr rfl rfl rfl rfl (prA_one rfl rfl rfl) H5.out.1 ?_;intro w19 s19 g19)
  refine bodyPost_ret (results_S2 Tryd.isPr rfl _ _ w.heap.size _ (.bool false) rfl rfl rfl s19) rfl ?_
  exact⟨_,_,_,[],[],rfl,HX.out.symm,rfl,OwnPr.nil _ _,H5.out.2.1.grown g19 H5.out.2.1.size (fun k e=>by cases e;omega)⟩
 |true=>
  have HX:Hid (newNs bl=[Nd.new 0 bl true,Nd.new 1 bl false]):=by rw[Hid,HE.out];rfl
  have HO:Hid (OwnPr (((w5.alloc (.cells (x0.A++x1.A) 44)).alloc (.cells #[] 66)).alloc (.cells #[] 71)) (w.heap.size+1) (.slice (some ⟨w5.heap.size,0,none⟩) 2 2) (.slice (some ⟨w5.heap.size+1,0,none⟩) 0 0) (.slice (some ⟨w5.heap.size+1+1,0,none⟩) 0 0) [x0,x1] [] []∧StB (((w5.alloc (.cells (x0.A++x1.A) 44)).alloc (.cells #[] 66)).alloc (.cells #[] 71)) w.heap.size 26 zeroPr∧Below w.heap.size w (((w5.alloc (.cells (x0.A++x1.A) 44)).alloc (.cells #[] 66)).alloc (.cells #[] 71))):=by
   have B:Below w5.heap.size w5 (w5.alloc (.cells (x0.A++x1.A) 44)):=(Below.refl _ _).alloc (Nat.le_refl _) _
   have B7:Below (w5.alloc (.cells (x0.A++x1.A) 44)).heap.size (w5.alloc (.cells (x0.A++x1.A) 44)) ((w5.alloc (.cells (x0.A++x1.A) 44)).alloc (.cells #[] 66)):=(Below.refl _ _).alloc (Nat.le_refl _) _
   have B8:Below ((w5.alloc (.cells (x0.A++x1.A) 44)).alloc (.cells #[] 66)).heap.size ((w5.alloc (.cells (x0.A++x1.A) 44)).alloc (.cells #[] 66)) (((w5.alloc (.cells (x0.A++x1.A) 44)).alloc (.cells #[] 66)).alloc (.cells #[] 71)):=(Below.refl _ _).alloc (Nat.le_refl _) _
   have hlt:=H5.out.1.lt
   have op:OwnP ((w5.alloc (.cells (x0.A++x1.A) 44)).alloc (.cells #[] 66)) (w.heap.size+1) (.slice (some ⟨w5.heap.size+1,0,none⟩) 0 0) []:=by have:=OwnP.lit (w5.alloc (.cells (x0.A++x1.A) 44)) (w.heap.size+1) (by simp;omega);rwa[World.size_alloc]at this
   have oe:OwnE (((w5.alloc (.cells (x0.A++x1.A) 44)).alloc (.cells #[] 66)).alloc (.cells #[] 71)) (w.heap.size+1) (.slice (some ⟨w5.heap.size+1+1,0,none⟩) 0 0) []:=by have:=OwnE.lit ((w5.alloc (.cells (x0.A++x1.A) 44)).alloc (.cells #[] 66)) (w.heap.size+1) (by simp;omega);rwa[World.size_alloc,World.size_alloc]at this
   have hb:=two_blk H5.out.2.2.2.2.1 H5.out.2.2.2.2.2.1
   have e1:∀y,y∈psB (.slice (some ⟨w5.heap.size+1,0,none⟩) 0 0) []→y=w5.heap.size+1:=fun y h=>by simpa[psB,blk,Value.ownBlock,kcs]using h
   have e2:∀y,y∈blk (.slice (some ⟨w5.heap.size+1+1,0,none⟩) 0 0)→y=w5.heap.size+1+1:=fun y h=>by simpa[blk,Value.ownBlock]using h
   exact⟨⟨((OwnNs.two H5.out.2.2.2.2.1 H5.out.2.2.2.2.2.1 hlt H5.out.2.2.2.2.2.2.2.2).below B7).below B8,op.below B8,oe,fun y h1 h2=>by have:=hb y h1;have:=e1 y h2;omega,fun y h1 h2=>by have:=hb y h1;have:=e2 y h2;omega,fun y h1 h2=>by have:=e1 y h1;have:=e2 y h2;omega⟩,((H5.out.1.below B).below B7).below B8,H5.out.2.1.trans ((B.trans ((B7.trans (B8.mono B7.size)).mono B.size)).mono H5.out.2.1.size)⟩
  go_wp2_with (first|(refine wpList_getS Tryd.isNd rfl _ rfl g4 rfl x0.A rfl H5.out.2.2.1 ?_)|(refine wpList_getS Tryd.isNd rfl _ rfl g6 rfl x1.A rfl H5.out.2.2.2.1 ?_)|(refine wpList_litN rfl _ _ rfl x0 x1 rfl rfl ?_)|(refine wpList_putS Tryd.isPr rfl _ _ rfl w.heap.size (prA (.slice (some ⟨w5.heap.size,0,none⟩) 2 2) (.slice (some ⟨w5.heap.size+1,0,none⟩) 0 0) (.slice (some ⟨w5.heap.size+1+1,0,none⟩) 0 0)) zeroPr rfl rfl rfl rfl (prA_one rfl rfl rfl) HO.out.2.1 ?_;intro w19 s19 g19))
  refine bodyPost_ret (results_S2 Tryd.isPr rfl _ _ w.heap.size _ (.bool true) rfl rfl rfl s19) rfl ?_
  have HY:Hid (nsOf [x0,x1]=newNs bl):=by
   rw[Hid,HX.out]
   show[x0.n,x1.n]=_
   rw[H5.out.2.2.2.2.2.2.1,H5.out.2.2.2.2.2.2.2.1]
  have HW:=(HO.out.1.kept g19 (Nat.lt_succ_self _)).mono (Nat.le_succ _)
  have HV:Below w.heap.size w w19:=HO.out.2.2.grown g19 HO.out.2.2.size (fun k e=>by cases e;omega)
  first|exact⟨_,_,_,[x0,x1],[],rfl,HY.out,rfl,HW,HV⟩|exact⟨_,_,_,rfl,[x0,x1],HY.out,[],rfl,HW,HV⟩
end Go.Proofs.YthmnmaemnihkeaaDoor
namespace Go.Proofs.YthmnmaemnihkeaaDoor
open Go.ChangeShapes Go.WideShapes Go.ChangeAt Go.RowKit
theorem pow_is:(Rows.laid_internal_strconv_uint64pow10:DataW Unit)=Lib.tabData .u64 Lib.pow10Tab:=by kernel_rfl
theorem tab_third {W:World} {a b:String×DataW Unit} {rest:List (String×DataW Unit)} (h:laidMet Tryd.prog (a::b::("internal/strconv.uint64pow10",Rows.laid_internal_strconv_uint64pow10)::rest) W):Tab W:=by
 have h3:laidMet Tryd.prog (("internal/strconv.uint64pow10",Lib.tabData .u64 Lib.pow10Tab)::rest) W:=by
  have:=h.tail.tail
  rw[pow_is]at this
  exact this
 exact Lib.tabIs_of_head (show Tryd.prog.globalNamed "internal/strconv.uint64pow10"=some 1 by kernel_rfl) (show(Tryd.prog.globals[1]?).map (·.type)=some 111 by kernel_rfl) Tryd.underlying111 Tryd.underlying102 (by kernel_rfl) (by kernel_rfl) h3
theorem tab_fnExactNewPair {W:World} (h:laidMetH Tryd.prog Rows.fnExactNewPairRow.laid W):Tab W:=by
 rw[MakeChecks.laidMetH_plain _ _ _ (by kernel_rfl)]at h
 exact tab_third h
end Go.Proofs.YthmnmaemnihkeaaDoor
