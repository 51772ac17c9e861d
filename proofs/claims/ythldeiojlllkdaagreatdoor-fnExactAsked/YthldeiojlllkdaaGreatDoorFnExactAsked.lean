/- At every house, number and text Asked of the program answers as Asked of the model, in memory of its own that a second call leaves alone, and leaves what it was given as it was: the law FnExactAsked returns true, whatever it is given. -/
import Derived.Test.YthldeiojlllkdaaGreatDoorM28
import Derived.Test.YthldeiojlllkdaaGreatDoorCards
import Derived.Test.YthldeiojlllkdaaGreatDoorTie
import Derived.SevenTiedAt
import Derived.LaidOnce
set_option maxRecDepth 100000
set_option maxHeartbeats 20000000
namespace Go.Proofs.YthldeiojlllkdaaGreatDoor.fnExactAsked
open Go.ChangeShapes Go.WideShapes Go.ChangeAt Go.RowKit
open Go.ChangeMaps (open_string shut_string)
set_option linter.unusedVariables false
theorem own:ownKnob Tryz.prog.godebug=none:=by kernel_rfl
theorem xW:laidOutB Tryz.prog=true:=by kernel_rfl
theorem kK (r0:Nd) (u0 v0 k0 q0 z0:Value) (a1:Int) (a2:ByteArray) (w:World) (f0:RdN w u0 v0 k0 q0 z0 r0) (g0:r0.r.Fit) (l0:r0.log.length<=maxLen) (w1:(Lit.int .i64 a1).wf=true) (w2:a2.size<=maxLen) (hT:ni w):
  Calls Tryz.prog 3 #[NdV u0 v0 k0 q0 z0 r0,.int .i64 a1,.string a2] w fun e w'=>e=.returned (.bool true)/\Below w.heap.size w w':=by
 unfold maxLen at l0 w2;obtain⟨bs,rfl⟩:∃bs:Bs,a2=⟨bs.toArray⟩:=⟨a2.data.toList,by simp⟩
 have hsz:(⟨bs.toArray⟩:ByteArray).size=bs.length:=rfl;rw[hsz]at w2;have HTab:Hid (ni w):=hT;clear hT;have HR:Hid (∀wx,Below w.heap.size w wx->RdN wx u0 v0 k0 q0 z0 r0):=fun wx b=>f0.below b
 have CZ:Hid (∀wx,Below w.heap.size w wx->Calls Tryz.prog 4 #[NdV u0 v0 k0 q0 z0 r0,.int .i64 1048576] wx fun e w'=>e=.returned (.int .i64 (szI 1048576 (r0.len+r0.log.length)))/\Below wx.heap.size wx w'):=fun wx b=>wJ u0 v0 k0 q0 z0 r0 1048576 wx (HR.out wx b) (by omega) (by decide) (by decide)
 obtain⟨ao0,ac0,rfl⟩:=aa f0.ra;obtain⟨bo0,bc0,rfl⟩:=aa f0.rb;obtain⟨ko0,kc0,rfl⟩:=aa f0.rk;obtain⟨qo0,qc0,rfl⟩:=aa f0.rq;obtain⟨zo0,zc0,rfl⟩:=aa f0.rz;obtain⟨w1,hw1⟩:=Fe (w.alloc (.cells (ndA (.slice ao0 r0.xs.length ac0) (.slice bo0 r0.ys.length bc0) (.slice ko0 r0.h.ks.length kc0) (.slice qo0 r0.c.ts.length qc0) (.slice zo0 r0.s.ts.length zc0) r0) 34))
 have HS:Hid (Sta w w1 [Blk w.heap.size 34 (Fk ao0 ac0 bo0 bc0 ko0 kc0 qo0 qc0 zo0 zc0 r0)]):=by rw[hw1];exact(Sta.start w).box _ _
 unfold NdV at CZ⊢;unfold ndA S at hw1;conv in ndA (.slice ao0 _ ac0) _ _ _ _ _=>unfold ndA S
 clear f0 g0 l0;go_enter Tryz.func3,Tryz.ntmps3;go_upto_region 1 with fail
 rw[<-hw1];clear hw1;by_cases hbs:bs.length<=1048576
 case neg=>
  have hbs':¬(bs.length:Int)<=1048576:=by omega
  have hbs'':(1048576:Int)<(bs.length:Int):=by omega
  have HB:Hid (Below w.heap.size w w1):=HS.out.below;clear HS CZ HR;go_wp2;go_ret;exact⟨rfl,HB.out⟩
 case pos=>
  have hbs':¬(1048576:Int)<(bs.length:Int):=by omega
  have HLb2:Hid (bs.length<=1048576):=hbs;clear hbs;go_wp2_with (refine aD GM rfl _ rfl w.heap.size rfl (Fk ao0 ac0 bo0 bc0 ko0 kc0 qo0 qc0 zo0 zc0 r0) rfl (HS.out.get 0 rfl) ?_)
  refine(CZ.out w1 HS.out.below).mono ?_;rintro e w2 ⟨rfl,b2⟩;replace HS:Hid (Sta w w2 [Blk w.heap.size 34 (Fk ao0 ac0 bo0 bc0 ko0 kc0 qo0 qc0 zo0 zc0 r0)]):=HS.out.next b2;clear b2 CZ;by_cases hbig:r0.len+r0.log.length<=1048576
  ·have hsz:szI 1048576 (r0.len+r0.log.length)=1048576-((r0.len+r0.log.length:Nat):Int):=by simp only[szI];rw[if_pos (by omega)]
   rw[hsz];clear hsz;have HL:Hid (SmN r0):=SmN.of hbig;obtain⟨y,hy⟩:∃y:Int,y=1048576-((r0.len+r0.log.length:Nat):Int):=⟨_,rfl⟩
   have y0:0<=y:=by omega
   rw[<-hy];have HLe:Hid (r0.len<=1048576):=by rw[Hid];omega
   clear hy hbig;obtain⟨m,hm⟩:=Fe ((r0.Ask a1 bs).1)
   obtain⟨t,ht⟩:=Fe ((r0.Ask a1 bs).2)
   have HM:Hid (SmN m):=by rw[Hid,hm];exact(uz.ask r0 a1 bs).sm
   have HMb:Hid (m.len<=1048576):=by rw[Hid,hm];exact(uz.ask r0 a1 bs).len
   have TN:Hid (∀wx,Below w.heap.size w wx->Calls Tryz.prog 6 #[.agg (Fk ao0 ac0 bo0 bc0 ko0 kc0 qo0 qc0 zo0 zc0 r0)] wx fun e w'=>∃a' b' k' q' z',e=.returned (.agg (ndA a' b' k' q' z' r0))/\cG w' wx.heap.size a' b' k' q' z' r0/\Below wx.heap.size wx w'):=fun wx b=>wK _ _ _ _ _ r0 wx (HR.out wx b) HL.out
   have SP:Hid (∀a b k q z wx,RdN wx a b k q z r0->Calls Tryz.prog 5 #[.agg (ndA a b k q z r0),.int .i64 a1,.string ⟨bs.toArray⟩] wx fun e w'=>∃a' b' k' q' z',e=.returned (.tuple #[.agg (ndA a' b' k' q' z' m),.agg (anA t)])/\cG w' wx.heap.size a' b' k' q' z' m/\Below wx.heap.size wx w'):=fun a b k q z wx h=>by rw[hm,ht];exact xq a b k q z r0 a1 bs wx h HL.out HLb2.out
   have IP:Hid (∀a b k q z wx,RdN wx a b k q z r0->Below w.heap.size w wx->Calls Tryz.prog 7 #[.agg (ndA a b k q z r0),.int .i64 a1,.string ⟨bs.toArray⟩] wx fun e w'=>∃a' b' k' q' z',e=.returned (.tuple #[.agg (ndA a' b' k' q' z' m),.agg (anA t)])/\aP w' wx.heap.size a' b' k' q' z' m/\Below wx.heap.size wx w'):=fun a b k q z wx h b'=>by rw[hm,ht];exact AY a b k q z r0 a1 bs wx h HL.out HLb2.out (HTab.out.below b')
   have EQ:Hid (∀a b k q z a' b' k' q' z' wx,RdN wx a b k q z m->RdN wx a' b' k' q' z' m->Calls Tryz.prog 8 #[.agg (ndA a b k q z m),.agg (ndA a' b' k' q' z' m)] wx fun e w'=>e=.returned (.bool true)/\Below wx.heap.size wx w'):=fun a b k q z a' b' k' q' z' wx h h'=>oJ a b k q z a' b' k' q' z' m wx h h' HM.out
   have EN:Hid (∀a b k q z a' b' k' q' z' wx,RdN wx a b k q z r0->RdN wx a' b' k' q' z' r0->Calls Tryz.prog 8 #[.agg (ndA a b k q z r0),.agg (ndA a' b' k' q' z' r0)] wx fun e w'=>e=.returned (.bool true)/\Below wx.heap.size wx w'):=fun a b k q z a' b' k' q' z' wx h h'=>oJ a b k q z a' b' k' q' z' r0 wx h h' HL.out
   have EA:Hid (∀wx,Calls Tryz.prog 9 #[.agg (anA t),.agg (anA t)] wx fun e w'=>e=.returned (.bool true)/\Below wx.heap.size wx w'):=fun wx=>pu t wx
   clear hm ht HR;go_wp2_with (first|(refine aD GM rfl _ rfl w.heap.size rfl (Fk ao0 ac0 bo0 bc0 ko0 kc0 qo0 qc0 zo0 zc0 r0) rfl (HS.out.get 0 rfl) ?_))
   refine(TN.out w2 HS.out.below).mono ?_;rintro e y3 ⟨aT,bT,kT,qT,zT,rfl,oy3,by3⟩;have JT:Hid ((ndA aT bT kT qT zT r0).all (·.oneCell')=true):=cP _ (aB oy3.oa.reads) (aB oy3.ob.reads) (aB oy3.ok.reads) (aB oy3.oq.reads) (aB oy3.oz.reads);replace HS:Hid (Sta w y3 [NdI aT bT kT qT zT r0,Blk w.heap.size 34 (Fk ao0 ac0 bo0 bc0 ko0 kc0 qo0 qc0 zo0 zc0 r0)]):=HS.out.house oy3.mine by3;clear oy3 by3;go_wp2_with fail
   refine(SP.out _ _ _ _ _ y3 (HS.out.rdN 0 rfl)).mono ?_;rintro e y4 ⟨aW,bW,kW,qW,zW,rfl,oy4,by4⟩;have JW:Hid ((ndA aW bW kW qW zW m).all (·.oneCell')=true):=cP _ (aB oy4.oa.reads) (aB oy4.ob.reads) (aB oy4.ok.reads) (aB oy4.oq.reads) (aB oy4.oz.reads);replace HS:Hid (Sta w y4 [NdI aW bW kW qW zW m,NdI aT bT kT qT zT r0,Blk w.heap.size 34 (Fk ao0 ac0 bo0 bc0 ko0 kc0 qo0 qc0 zo0 zc0 r0)]):=HS.out.house oy4.mine by4;clear oy4 by4;replace HS:Hid (Sta w y4 [NdI aW bW kW qW zW m,Blk w.heap.size 34 (Fk ao0 ac0 bo0 bc0 ko0 kc0 qo0 qc0 zo0 zc0 r0)]):=HS.out.drop 1;have qy5:StB ((y4.alloc (.cells aA 42)).alloc (.cells (anA ⟨0,[]⟩) 44)) y4.heap.size 42 aA:=(StB.new y4 _ _).alloc _;have ry5:StB ((y4.alloc (.cells aA 42)).alloc (.cells (anA ⟨0,[]⟩) 44)) (y4.heap.size+1) 44 (anA ⟨0,[]⟩):=by
    have h:=StB.new (y4.alloc (.cells aA 42)) 44 (anA ⟨0,[]⟩)
    rwa[World.size_alloc]at h
   go_upto_region 8 with(first|(refine ae GO rfl _ _ rfl y4.heap.size (ndA aW bW kW qW zW m) aA rfl rfl rfl rfl JW.out qy5 ?_;intro y5 sy5 gy5)|(refine ae GC rfl _ _ rfl (y4.heap.size+1) (anA t) (anA ⟨0,[]⟩) rfl rfl rfl rfl (aC t) (ry5.kept gy5 (by simp)) ?_;intro y6 sy6 gy6))
   have by6:Below y4.heap.size y4 y6:=((Fc.alloc (by simp) _).grown gy5 (by simp;omega) (fun k e=>by cases e;omega)).grown gy6 (Nat.le_trans (by simp;omega) gy5.size) (fun k e=>by cases e;omega);replace HS:Hid (Sta w y6 [Blk2 y4.heap.size 42 (ndA aW bW kW qW zW m) (y4.heap.size+1) 44 (anA t),NdI aW bW kW qW zW m,Blk w.heap.size 34 (Fk ao0 ac0 bo0 bc0 ko0 kc0 qo0 qc0 zo0 zc0 r0)]):=HS.out.var2 by6 (sy5.kept gy6 (by simp)) sy6 (Nat.le_refl _) (Nat.le_succ _);clear qy5 ry5 sy5 gy5 sy6 gy6 by6
   (try simp only[Act.put])
   go_wp2_with (first|(refine aD GM rfl _ rfl w.heap.size rfl (Fk ao0 ac0 bo0 bc0 ko0 kc0 qo0 qc0 zo0 zc0 r0) rfl (HS.out.get 2 rfl) ?_))
   refine(TN.out y6 HS.out.below).mono ?_;rintro e y7 ⟨aX,bX,kX,qX,zX,rfl,oy7,by7⟩;have JX:Hid ((ndA aX bX kX qX zX r0).all (·.oneCell')=true):=cP _ (aB oy7.oa.reads) (aB oy7.ob.reads) (aB oy7.ok.reads) (aB oy7.oq.reads) (aB oy7.oz.reads);replace HS:Hid (Sta w y7 [NdI aX bX kX qX zX r0,Blk2 y4.heap.size 42 (ndA aW bW kW qW zW m) (y4.heap.size+1) 44 (anA t),NdI aW bW kW qW zW m,Blk w.heap.size 34 (Fk ao0 ac0 bo0 bc0 ko0 kc0 qo0 qc0 zo0 zc0 r0)]):=HS.out.house oy7.mine by7;clear oy7 by7;have qy8:StB (y7.alloc (.cells aA 42)) y7.heap.size 42 aA:=StB.new y7 _ _;go_upto_region 9 with(refine ae GO rfl _ _ rfl y7.heap.size (ndA aX bX kX qX zX r0) aA rfl rfl rfl rfl JX.out qy8 ?_;intro y8 sy8 gy8)
   replace HS:Hid (Sta w y8 [Blk y7.heap.size 42 (ndA aX bX kX qX zX r0),NdI aX bX kX qX zX r0,Blk2 y4.heap.size 42 (ndA aW bW kW qW zW m) (y4.heap.size+1) 44 (anA t),NdI aW bW kW qW zW m,Blk w.heap.size 34 (Fk ao0 ac0 bo0 bc0 ko0 kc0 qo0 qc0 zo0 zc0 r0)]):=HS.out.varS sy8 gy8;clear qy8 sy8 gy8
   (try simp only[Act.put])
   go_wp2_with (first|(refine aD GO rfl _ rfl y7.heap.size rfl (ndA aX bX kX qX zX r0) rfl (HS.out.get 0 rfl) ?_))
   refine(IP.out _ _ _ _ _ y8 (HS.out.rdN 1 rfl) HS.out.below).mono ?_;rintro e y9 ⟨aG,bG,kG,qG,zG,rfl,oy9,by9⟩;have JG:Hid ((ndA aG bG kG qG zG m).all (·.oneCell')=true):=cP _ (aB oy9.oa.reads) (aB oy9.ob.reads) (aB oy9.ok.reads) (aB oy9.oq.reads) (aB oy9.oz.reads);replace HS:Hid (Sta w y9 [NdI aG bG kG qG zG m,Blk y7.heap.size 42 (ndA aX bX kX qX zX r0),NdI aX bX kX qX zX r0,Blk2 y4.heap.size 42 (ndA aW bW kW qW zW m) (y4.heap.size+1) 44 (anA t),NdI aW bW kW qW zW m,Blk w.heap.size 34 (Fk ao0 ac0 bo0 bc0 ko0 kc0 qo0 qc0 zo0 zc0 r0)]):=HS.out.house oy9 by9;clear oy9 by9;have qy10:StB ((y9.alloc (.cells aA 42)).alloc (.cells (anA ⟨0,[]⟩) 44)) y9.heap.size 42 aA:=(StB.new y9 _ _).alloc _;have ry10:StB ((y9.alloc (.cells aA 42)).alloc (.cells (anA ⟨0,[]⟩) 44)) (y9.heap.size+1) 44 (anA ⟨0,[]⟩):=by
    have h:=StB.new (y9.alloc (.cells aA 42)) 44 (anA ⟨0,[]⟩)
    rwa[World.size_alloc]at h
   go_upto_region 10 with(first|(refine ae GO rfl _ _ rfl y9.heap.size (ndA aG bG kG qG zG m) aA rfl rfl rfl rfl JG.out qy10 ?_;intro y10 sy10 gy10)|(refine ae GC rfl _ _ rfl (y9.heap.size+1) (anA t) (anA ⟨0,[]⟩) rfl rfl rfl rfl (aC t) (ry10.kept gy10 (by simp)) ?_;intro y11 sy11 gy11))
   have by11:Below y9.heap.size y9 y11:=((Fc.alloc (by simp) _).grown gy10 (by simp;omega) (fun k e=>by cases e;omega)).grown gy11 (Nat.le_trans (by simp;omega) gy10.size) (fun k e=>by cases e;omega);replace HS:Hid (Sta w y11 [Blk2 y9.heap.size 42 (ndA aG bG kG qG zG m) (y9.heap.size+1) 44 (anA t),NdI aG bG kG qG zG m,Blk y7.heap.size 42 (ndA aX bX kX qX zX r0),NdI aX bX kX qX zX r0,Blk2 y4.heap.size 42 (ndA aW bW kW qW zW m) (y4.heap.size+1) 44 (anA t),NdI aW bW kW qW zW m,Blk w.heap.size 34 (Fk ao0 ac0 bo0 bc0 ko0 kc0 qo0 qc0 zo0 zc0 r0)]):=HS.out.var2 by11 (sy10.kept gy11 (by simp)) sy11 (Nat.le_refl _) (Nat.le_succ _);clear qy10 ry10 sy10 gy10 sy11 gy11 by11
   (try simp only[Act.put])
   go_wp2_with (first|(refine aD GO rfl _ rfl y9.heap.size rfl (ndA aG bG kG qG zG m) rfl (HS.out.get 0 rfl).1 ?_)|(refine aD GO rfl _ rfl y4.heap.size rfl (ndA aW bW kW qW zW m) rfl (HS.out.get 4 rfl).1 ?_))
   refine(EQ.out _ _ _ _ _ _ _ _ _ _ y11 (HS.out.rdN 1 rfl) (HS.out.rdN 5 rfl)).mono ?_;rintro e y12 ⟨rfl,by12⟩;replace HS:Hid (Sta w y12 [Blk2 y9.heap.size 42 (ndA aG bG kG qG zG m) (y9.heap.size+1) 44 (anA t),NdI aG bG kG qG zG m,Blk y7.heap.size 42 (ndA aX bX kX qX zX r0),NdI aX bX kX qX zX r0,Blk2 y4.heap.size 42 (ndA aW bW kW qW zW m) (y4.heap.size+1) 44 (anA t),NdI aW bW kW qW zW m,Blk w.heap.size 34 (Fk ao0 ac0 bo0 bc0 ko0 kc0 qo0 qc0 zo0 zc0 r0)]):=HS.out.next by12;clear by12;go_wp2_with (first|(refine aD GC rfl _ rfl (y9.heap.size+1) rfl (anA t) rfl (HS.out.get 0 rfl).2 ?_)|(refine aD GC rfl _ rfl (y4.heap.size+1) rfl (anA t) rfl (HS.out.get 4 rfl).2 ?_))
   refine(EA.out y12).mono ?_;rintro e y13 ⟨rfl,by13⟩;replace HS:Hid (Sta w y13 [Blk2 y9.heap.size 42 (ndA aG bG kG qG zG m) (y9.heap.size+1) 44 (anA t),NdI aG bG kG qG zG m,Blk y7.heap.size 42 (ndA aX bX kX qX zX r0),NdI aX bX kX qX zX r0,Blk2 y4.heap.size 42 (ndA aW bW kW qW zW m) (y4.heap.size+1) 44 (anA t),NdI aW bW kW qW zW m,Blk w.heap.size 34 (Fk ao0 ac0 bo0 bc0 ko0 kc0 qo0 qc0 zo0 zc0 r0)]):=HS.out.next by13;clear by13;go_upto_region 12 with fail
   obtain⟨C,hCd⟩:=Fe (fun x=>Sta w x [Blk2 y9.heap.size 42 (ndA aG bG kG qG zG m) (y9.heap.size+1) 44 (anA t),NdI aG bG kG qG zG m,Blk y7.heap.size 42 (ndA aX bX kX qX zX r0),NdI aX bX kX qX zX r0,Blk2 y4.heap.size 42 (ndA aW bW kW qW zW m) (y4.heap.size+1) 44 (anA t),NdI aW bW kW qW zW m,Blk w.heap.size 34 (Fk ao0 ac0 bo0 bc0 ko0 kc0 qo0 qc0 zo0 zc0 r0)])
   have HQ:Hid (∀x,C x->Sta w x [Blk2 y9.heap.size 42 (ndA aG bG kG qG zG m) (y9.heap.size+1) 44 (anA t),NdI aG bG kG qG zG m,Blk y7.heap.size 42 (ndA aX bX kX qX zX r0),NdI aX bX kX qX zX r0,Blk2 y4.heap.size 42 (ndA aW bW kW qW zW m) (y4.heap.size+1) 44 (anA t),NdI aW bW kW qW zW m,Blk w.heap.size 34 (Fk ao0 ac0 bo0 bc0 ko0 kc0 qo0 qc0 zo0 zc0 r0)]):=by rw[hCd];exact fun _ h=>h
   have HN:Hid (∀x y,C x->dQ x y->C y):=by rw[hCd];exact fun _ _ h b=>h.next b
   have H0:Hid (C y13.drew):=by rw[hCd];exact HS.out.drew1
   have hne:Nonempty (Kin C):=⟨⟨_,H0.out⟩⟩
   clear hCd;refine rH (C:=C) (E:=iN fun d=>if d=55 then some (oN r0)else if d=56 then some (qf true)else none) (R:=dQ) HN.out (dY (by intro d s hs u x y hx hl;split at hs;(cases hs;exact uA hx hl);split at hs;(cases hs;exact rG hx hl);cases hs)) (dZ _ _) (by kernel_rfl) (by kernel_rfl) H0.out ?_;refine dz GO rfl rfl _ rfl y7.heap.size rfl (ndA aX bX kX qX zX r0) rfl (fun q=>(HQ.out _ q.h).get 2 rfl) ?_;refine dz GM rfl rfl _ rfl w.heap.size rfl (Fk ao0 ac0 bo0 bc0 ko0 kc0 qo0 qc0 zo0 zc0 r0) rfl (fun q=>(HQ.out _ q.h).get 6 rfl) ?_;refine fp (oN r0) rfl (by first|rfl|kernel_rfl) (fun wq hB=>?_) (fun uq hu=>?_)
   ·go_simp
    refine⟨rfl,?_⟩;exact Bk (TN.out _ (HQ.out _ hB.1).below)
   obtain⟨aQ,bQ,kQ,qQ,zQ,rfl⟩:=hu;refine fp (qf true) rfl (by first|rfl|kernel_rfl) (fun wq hB=>?_) (fun uq hu=>?_)
   ·have hA:=Bj (hB.at0 rfl)
    go_simp;refine⟨rfl,?_⟩;exact AC (fun _ h=>h) (EN.out _ _ _ _ _ _ _ _ _ _ _ ((HQ.out _ hB.1).rdN 3 rfl) hA)
   obtain rfl:=hu;repeat(refine eP rfl (fun K hK=>?_);go_simp;refine hK _ ?_;clear hK K)
   refine i8 (fun y14 hz=>?_);clear HS;have HS:Hid (Sta w y14 [Blk2 y9.heap.size 42 (ndA aG bG kG qG zG m) (y9.heap.size+1) 44 (anA t),NdI aG bG kG qG zG m,Blk y7.heap.size 42 (ndA aX bX kX qX zX r0),NdI aX bX kX qX zX r0,Blk2 y4.heap.size 42 (ndA aW bW kW qW zW m) (y4.heap.size+1) 44 (anA t),NdI aW bW kW qW zW m,Blk w.heap.size 34 (Fk ao0 ac0 bo0 bc0 ko0 kc0 qo0 qc0 zo0 zc0 r0)]):=HQ.out _ hz.1;clear hz HQ HN H0 hne;have HLb:Hid (r0.len<=1048576):=HLe;go_wp2_with (first|(refine aD GO rfl _ rfl y7.heap.size rfl (ndA aX bX kX qX zX r0) rfl (HS.out.get 2 rfl) ?_))
   refine(lu _ _ _ _ _ r0 1 _ 0 (HS.out.get 3 rfl) HLb.out (by decide) (by decide)).mono ?_;rintro e y15 ⟨rfl,oy15,my15⟩;replace HS:Hid (Sta w y15 [Blk2 y9.heap.size 42 (ndA aG bG kG qG zG m) (y9.heap.size+1) 44 (anA t),NdI aG bG kG qG zG m,Blk y7.heap.size 42 (ndA aX bX kX qX zX r0),NdI aX bX kX qX zX (r0.inked 1),Blk2 y4.heap.size 42 (ndA aW bW kW qW zW m) (y4.heap.size+1) 44 (anA t),NdI aW bW kW qW zW m,Blk w.heap.size 34 (Fk ao0 ac0 bo0 bc0 ko0 kc0 qo0 qc0 zo0 zc0 r0)]):=HS.out.ink 3 rfl oy15 my15;clear oy15 my15;have hk0:0<=1+(r0.xs.length:Int)+r0.ys.length+r0.h.ks.length+r0.c.ts.length+r0.s.ts.length:=by omega
   go_wp2_with (first|(refine aD GO rfl _ rfl y9.heap.size rfl (ndA aG bG kG qG zG m) rfl (HS.out.get 0 rfl).1 ?_)|(refine aD GO rfl _ rfl y4.heap.size rfl (ndA aW bW kW qW zW m) rfl (HS.out.get 4 rfl).1 ?_))
   refine(EQ.out _ _ _ _ _ _ _ _ _ _ y15 (HS.out.rdN 1 rfl) (HS.out.rdN 5 rfl)).mono ?_;rintro e y16 ⟨rfl,by16⟩;replace HS:Hid (Sta w y16 [Blk2 y9.heap.size 42 (ndA aG bG kG qG zG m) (y9.heap.size+1) 44 (anA t),NdI aG bG kG qG zG m,Blk y7.heap.size 42 (ndA aX bX kX qX zX r0),NdI aX bX kX qX zX (r0.inked 1),Blk2 y4.heap.size 42 (ndA aW bW kW qW zW m) (y4.heap.size+1) 44 (anA t),NdI aW bW kW qW zW m,Blk w.heap.size 34 (Fk ao0 ac0 bo0 bc0 ko0 kc0 qo0 qc0 zo0 zc0 r0)]):=HS.out.next by16;clear by16;go_wp2_with (first|(refine aD GC rfl _ rfl (y9.heap.size+1) rfl (anA t) rfl (HS.out.get 0 rfl).2 ?_)|(refine aD GC rfl _ rfl (y4.heap.size+1) rfl (anA t) rfl (HS.out.get 4 rfl).2 ?_))
   refine(EA.out y16).mono ?_;rintro e y17 ⟨rfl,by17⟩;replace HS:Hid (Sta w y17 [Blk2 y9.heap.size 42 (ndA aG bG kG qG zG m) (y9.heap.size+1) 44 (anA t),NdI aG bG kG qG zG m,Blk y7.heap.size 42 (ndA aX bX kX qX zX r0),NdI aX bX kX qX zX (r0.inked 1),Blk2 y4.heap.size 42 (ndA aW bW kW qW zW m) (y4.heap.size+1) 44 (anA t),NdI aW bW kW qW zW m,Blk w.heap.size 34 (Fk ao0 ac0 bo0 bc0 ko0 kc0 qo0 qc0 zo0 zc0 r0)]):=HS.out.next by17;clear by17;clear hk0;go_wp2_with (refine aD GO rfl _ rfl y9.heap.size rfl (ndA aG bG kG qG zG m) rfl (HS.out.get 0 rfl).1 ?_)
   refine(lu _ _ _ _ _ m 1 _ 0 (HS.out.get 1 rfl) HMb.out (by decide) (by decide)).mono ?_;rintro e y18 ⟨rfl,oy18,my18⟩;replace HS:Hid (Sta w y18 [Blk2 y9.heap.size 42 (ndA aG bG kG qG zG m) (y9.heap.size+1) 44 (anA t),NdI aG bG kG qG zG (m.inked 1),Blk y7.heap.size 42 (ndA aX bX kX qX zX r0),NdI aX bX kX qX zX (r0.inked 1),Blk2 y4.heap.size 42 (ndA aW bW kW qW zW m) (y4.heap.size+1) 44 (anA t),NdI aW bW kW qW zW m,Blk w.heap.size 34 (Fk ao0 ac0 bo0 bc0 ko0 kc0 qo0 qc0 zo0 zc0 r0)]):=HS.out.ink 1 rfl oy18 my18;clear oy18 my18;go_wp2_with (refine aD GO rfl _ rfl y9.heap.size rfl (ndA aG bG kG qG zG m) rfl (HS.out.get 0 rfl).1 ?_)
   refine(lv _ _ _ _ _ m 1 _ (HS.out.rdN 1 rfl) HMb.out (by decide) (by decide)).mono ?_;rintro e y19 ⟨rfl,by19⟩;replace HS:Hid (Sta w y19 [Blk2 y9.heap.size 42 (ndA aG bG kG qG zG m) (y9.heap.size+1) 44 (anA t),NdI aG bG kG qG zG (m.inked 1),Blk y7.heap.size 42 (ndA aX bX kX qX zX r0),NdI aX bX kX qX zX (r0.inked 1),Blk2 y4.heap.size 42 (ndA aW bW kW qW zW m) (y4.heap.size+1) 44 (anA t),NdI aW bW kW qW zW m,Blk w.heap.size 34 (Fk ao0 ac0 bo0 bc0 ko0 kc0 qo0 qc0 zo0 zc0 r0)]):=HS.out.next by19;clear by19;have hk1:0<=1+(m.xs.length:Int)+m.ys.length+m.h.ks.length+m.c.ts.length+m.s.ts.length:=by omega
   go_wp2_with (first|(refine aD GM rfl _ rfl w.heap.size rfl (Fk ao0 ac0 bo0 bc0 ko0 kc0 qo0 qc0 zo0 zc0 r0) rfl (HS.out.get 6 rfl) ?_))
   refine(TN.out y19 HS.out.below).mono ?_;rintro e y20 ⟨aU,bU,kU,qU,zU,rfl,oy20,by20⟩;have JU:Hid ((ndA aU bU kU qU zU r0).all (·.oneCell')=true):=cP _ (aB oy20.oa.reads) (aB oy20.ob.reads) (aB oy20.ok.reads) (aB oy20.oq.reads) (aB oy20.oz.reads);replace HS:Hid (Sta w y20 [NdI aU bU kU qU zU r0,Blk2 y9.heap.size 42 (ndA aG bG kG qG zG m) (y9.heap.size+1) 44 (anA t),NdI aG bG kG qG zG (m.inked 1),Blk y7.heap.size 42 (ndA aX bX kX qX zX r0),NdI aX bX kX qX zX (r0.inked 1),Blk2 y4.heap.size 42 (ndA aW bW kW qW zW m) (y4.heap.size+1) 44 (anA t),NdI aW bW kW qW zW m,Blk w.heap.size 34 (Fk ao0 ac0 bo0 bc0 ko0 kc0 qo0 qc0 zo0 zc0 r0)]):=HS.out.house oy20.mine by20;clear oy20 by20;go_wp2_with fail
   refine(IP.out _ _ _ _ _ y20 (HS.out.rdN 0 rfl) HS.out.below).mono ?_;rintro e y21 ⟨aH,bH,kH,qH,zH,rfl,oy21,by21⟩;have JH:Hid ((ndA aH bH kH qH zH m).all (·.oneCell')=true):=cP _ (aB oy21.oa.reads) (aB oy21.ob.reads) (aB oy21.ok.reads) (aB oy21.oq.reads) (aB oy21.oz.reads);replace HS:Hid (Sta w y21 [NdI aH bH kH qH zH m,NdI aU bU kU qU zU r0,Blk2 y9.heap.size 42 (ndA aG bG kG qG zG m) (y9.heap.size+1) 44 (anA t),NdI aG bG kG qG zG (m.inked 1),Blk y7.heap.size 42 (ndA aX bX kX qX zX r0),NdI aX bX kX qX zX (r0.inked 1),Blk2 y4.heap.size 42 (ndA aW bW kW qW zW m) (y4.heap.size+1) 44 (anA t),NdI aW bW kW qW zW m,Blk w.heap.size 34 (Fk ao0 ac0 bo0 bc0 ko0 kc0 qo0 qc0 zo0 zc0 r0)]):=HS.out.house oy21 by21;clear oy21 by21;replace HS:Hid (Sta w y21 [NdI aH bH kH qH zH m,Blk2 y9.heap.size 42 (ndA aG bG kG qG zG m) (y9.heap.size+1) 44 (anA t),NdI aG bG kG qG zG (m.inked 1),Blk y7.heap.size 42 (ndA aX bX kX qX zX r0),NdI aX bX kX qX zX (r0.inked 1),Blk2 y4.heap.size 42 (ndA aW bW kW qW zW m) (y4.heap.size+1) 44 (anA t),NdI aW bW kW qW zW m,Blk w.heap.size 34 (Fk ao0 ac0 bo0 bc0 ko0 kc0 qo0 qc0 zo0 zc0 r0)]):=HS.out.drop 1;have qy22:StB ((y21.alloc (.cells aA 42)).alloc (.cells (anA ⟨0,[]⟩) 44)) y21.heap.size 42 aA:=(StB.new y21 _ _).alloc _;have ry22:StB ((y21.alloc (.cells aA 42)).alloc (.cells (anA ⟨0,[]⟩) 44)) (y21.heap.size+1) 44 (anA ⟨0,[]⟩):=by
    have h:=StB.new (y21.alloc (.cells aA 42)) 44 (anA ⟨0,[]⟩)
    rwa[World.size_alloc]at h
   go_upto_region 27 with(first|(refine ae GO rfl _ _ rfl y21.heap.size (ndA aH bH kH qH zH m) aA rfl rfl rfl rfl JH.out qy22 ?_;intro y22 sy22 gy22)|(refine ae GC rfl _ _ rfl (y21.heap.size+1) (anA t) (anA ⟨0,[]⟩) rfl rfl rfl rfl (aC t) (ry22.kept gy22 (by simp)) ?_;intro y23 sy23 gy23))
   have by23:Below y21.heap.size y21 y23:=((Fc.alloc (by simp) _).grown gy22 (by simp;omega) (fun k e=>by cases e;omega)).grown gy23 (Nat.le_trans (by simp;omega) gy22.size) (fun k e=>by cases e;omega);replace HS:Hid (Sta w y23 [Blk2 y21.heap.size 42 (ndA aH bH kH qH zH m) (y21.heap.size+1) 44 (anA t),NdI aH bH kH qH zH m,Blk2 y9.heap.size 42 (ndA aG bG kG qG zG m) (y9.heap.size+1) 44 (anA t),NdI aG bG kG qG zG (m.inked 1),Blk y7.heap.size 42 (ndA aX bX kX qX zX r0),NdI aX bX kX qX zX (r0.inked 1),Blk2 y4.heap.size 42 (ndA aW bW kW qW zW m) (y4.heap.size+1) 44 (anA t),NdI aW bW kW qW zW m,Blk w.heap.size 34 (Fk ao0 ac0 bo0 bc0 ko0 kc0 qo0 qc0 zo0 zc0 r0)]):=HS.out.var2 by23 (sy22.kept gy23 (by simp)) sy23 (Nat.le_refl _) (Nat.le_succ _);clear qy22 ry22 sy22 gy22 sy23 gy23 by23
   (try simp only[Act.put])
   go_wp2_with (first|(refine aD GO rfl _ rfl y21.heap.size rfl (ndA aH bH kH qH zH m) rfl (HS.out.get 0 rfl).1 ?_)|(refine aD GO rfl _ rfl y4.heap.size rfl (ndA aW bW kW qW zW m) rfl (HS.out.get 6 rfl).1 ?_))
   refine(EQ.out _ _ _ _ _ _ _ _ _ _ y23 (HS.out.rdN 1 rfl) (HS.out.rdN 7 rfl)).mono ?_;rintro e y24 ⟨rfl,by24⟩;replace HS:Hid (Sta w y24 [Blk2 y21.heap.size 42 (ndA aH bH kH qH zH m) (y21.heap.size+1) 44 (anA t),NdI aH bH kH qH zH m,Blk2 y9.heap.size 42 (ndA aG bG kG qG zG m) (y9.heap.size+1) 44 (anA t),NdI aG bG kG qG zG (m.inked 1),Blk y7.heap.size 42 (ndA aX bX kX qX zX r0),NdI aX bX kX qX zX (r0.inked 1),Blk2 y4.heap.size 42 (ndA aW bW kW qW zW m) (y4.heap.size+1) 44 (anA t),NdI aW bW kW qW zW m,Blk w.heap.size 34 (Fk ao0 ac0 bo0 bc0 ko0 kc0 qo0 qc0 zo0 zc0 r0)]):=HS.out.next by24;clear by24;go_wp2_with (first|(refine aD GC rfl _ rfl (y21.heap.size+1) rfl (anA t) rfl (HS.out.get 0 rfl).2 ?_)|(refine aD GC rfl _ rfl (y4.heap.size+1) rfl (anA t) rfl (HS.out.get 6 rfl).2 ?_))
   refine(EA.out y24).mono ?_;rintro e y25 ⟨rfl,by25⟩;replace HS:Hid (Sta w y25 [Blk2 y21.heap.size 42 (ndA aH bH kH qH zH m) (y21.heap.size+1) 44 (anA t),NdI aH bH kH qH zH m,Blk2 y9.heap.size 42 (ndA aG bG kG qG zG m) (y9.heap.size+1) 44 (anA t),NdI aG bG kG qG zG (m.inked 1),Blk y7.heap.size 42 (ndA aX bX kX qX zX r0),NdI aX bX kX qX zX (r0.inked 1),Blk2 y4.heap.size 42 (ndA aW bW kW qW zW m) (y4.heap.size+1) 44 (anA t),NdI aW bW kW qW zW m,Blk w.heap.size 34 (Fk ao0 ac0 bo0 bc0 ko0 kc0 qo0 qc0 zo0 zc0 r0)]):=HS.out.next by25;clear by25;go_wp2_with (refine aD GO rfl _ rfl y9.heap.size rfl (ndA aG bG kG qG zG m) rfl (HS.out.get 2 rfl).1 ?_)
   refine(lv _ _ _ _ _ m 1 _ (HS.out.rdN 3 rfl) HMb.out (by decide) (by decide)).mono ?_;rintro e y26 ⟨rfl,by26⟩;replace HS:Hid (Sta w y26 [Blk2 y21.heap.size 42 (ndA aH bH kH qH zH m) (y21.heap.size+1) 44 (anA t),NdI aH bH kH qH zH m,Blk2 y9.heap.size 42 (ndA aG bG kG qG zG m) (y9.heap.size+1) 44 (anA t),NdI aG bG kG qG zG (m.inked 1),Blk y7.heap.size 42 (ndA aX bX kX qX zX r0),NdI aX bX kX qX zX (r0.inked 1),Blk2 y4.heap.size 42 (ndA aW bW kW qW zW m) (y4.heap.size+1) 44 (anA t),NdI aW bW kW qW zW m,Blk w.heap.size 34 (Fk ao0 ac0 bo0 bc0 ko0 kc0 qo0 qc0 zo0 zc0 r0)]):=HS.out.next by26;clear by26;have HB:Hid (Below w.heap.size w _):=HS.out.below;clear HS;go_wp2_with fail
   go_ret;exact⟨rfl,HB.out⟩
  ·have hsz:szI 1048576 (r0.len+r0.log.length)= -1:=by simp only[szI];rw[if_neg (by omega)]
   rw[hsz];have HB:Hid (Below w.heap.size w w2):=HS.out.below;clear HS hsz HR;go_wp2;go_ret;exact⟨rfl,HB.out⟩
theorem lifted (os:Os) (started:os.Started) (H:Type) (enc:TypeId×Value->H):
  ReturnsInHanded {} Tryz.checked os 3 .any (fun w args=>(Rows.fnExactAskedSpec.pre enc Tryz.prog Tryz.f3 [] false w args/\laidMetH Tryz.prog Rows.fnExactAskedRow.laid w)/\sizedMet enc Tryz.prog Tryz.f3 (OpenSpec.ofChange Rows.fnExactAskedSpec) false w args) (Rows.fnExactAskedSpec.post enc Tryz.prog Tryz.f3 false true false false):=by
 refine returnsInHanded_of_change_and (C:=Tryz.checked) (X:=fun w _=>laidMetH Tryz.prog Rows.fnExactAskedRow.laid w) (fun _ _ _ hh h=>h.of_heap hh) own started (by kernel_rfl) Tryz.func3
  (ChangeSpec.witness_shaped (enc:=enc) (C:=Tryz.checked) (os:=os) (X:=fun w _=>laidMetH Tryz.prog Rows.fnExactAskedRow.laid w) false (pp os) #[.agg #[.int .i64 0,.bool false,.slice none 0 0,.slice none 0 0,.slice none 0 0,.int .i64 0,.int .i64 0,.int .i64 0,.string ByteArray.empty,.int .i64 0,.int .i64 0,.int .i64 0,.int .i64 0,.int .i64 0,.bool false,.int .i64 0,.int .i64 0,.slice none 0 0,.int .i64 0,.slice none 0 0],.int .i64 0,.string ByteArray.empty] 8 (World.layVars_os _ _ _) (World.shaped_of_ZipB (by kernel_rfl) (by kernel_rfl)) (by kernel_rfl) (by kernel_rfl) (by kernel_rfl) (mr os _)) ?_
 intro W base args ds gs co hval0 hW hcnd _ hL _;have hval:∀(j:Nat) t v,Tryz.f3.params[j]?=some t->args[j]?=some v->Value.okWide Tryz.prog W .any base t v:=hval0;have hW':=hW;obtain⟨p,q,hA0,hV,rfl,hfz,hnd⟩:=hW;have hA:DataW.TrodAll enc Tryz.prog W 0 (fun _=>true) true Tryz.f3.params.toList args.toList ds p:=hA0;rw[Tryz.params3]at hA hval;obtain⟨v0,vs0,d0,ds0,p0,q0,hargs,rfl,rfl,h0,s0⟩:=trodAll_cons hA;obtain⟨v1,vs1,d1,ds1,p1,q1,rfl,rfl,rfl,h1,s1⟩:=trodAll_cons s0;obtain⟨v2,vs2,d2,ds2,p2,q2,rfl,rfl,rfl,h2,s2⟩:=trodAll_cons s1;obtain⟨rfl,rfl,rfl⟩:=trodAll_nil s2;obtain rfl:args=#[v0,v1,v2]:=by cases args;simp_all
 obtain⟨g1,g2,g3,g4,rfl⟩:=Ey hV;have k0:=h0;have lt0:∀x∈p0,x.block<W.heap.size:=by obtain⟨m,hm⟩:=k0;exact DataW.trod_lt m _ _ _ hm
 obtain⟨r0,u0,y0,c0,q0',z0,rfl,f0,e0,l0⟩:=zK (hval 0 34 v0 rfl rfl) h0;obtain⟨a1,rfl,rfl,rfl,w1⟩:=open_int Tryz.underlying2 (hval 1 2 v1 rfl rfl) h1;obtain⟨a2,rfl,rfl,rfl,w2⟩:=open_string Tryz.underlying9 (hval 2 9 v2 rfl rfl) h2;clear hA0 hval0;refine(kK r0 u0 y0 c0 q0' z0 a1 a2 W f0 e0 l0 w1 w2 (mq hL)).mono fun e W' ⟨he,bel⟩=>?_
 subst he;exact⟨_,rfl,_,_,_,[],_,q,hW',trodAll_mk1 (shut_bool Tryz.underlying4 _),(trodAll_cons_mk (Below.trod xW (by kernel_rfl) (of_decide_eq_true (by kernel_rfl)) k0 bel lt0) (trodAll_cons_mk (shut_int Tryz.underlying2 w1) (trodAll_cons_mk (shut_string Tryz.underlying9 w2) trodAll_mk0))),Below.trodVars xW bel (by kernel_rfl) hV,bel.frame _,fun h=>by cases h⟩
set_option maxRecDepth 20000
theorem eX {a b:Bool} (ha:a=true) (hb:b=true):(a&&b)=true:=by rw[ha,hb];rfl
theorem cl0:(Rows.fnExactAskedRow.wf (OpenSpec.ofChange Rows.fnExactAskedSpec))=true:=by kernel_rfl
theorem cl1:(laidOutB Tryz.prog)=true:=by kernel_rfl
theorem cl2:(mapsRowed Tryz.prog)=true:=by kernel_rfl
theorem cl3:(Tryz.f3.params.all (Tryz.prog.readableRec ·))=true:=by kernel_rfl
theorem cl4:(namedTie Tryz.prog Rows.fnExactAskedRow.named Rows.fnExactAskedSpec.vars)=true:=by kernel_rfl
theorem cl5:((Rows.fnExactAskedRow.stops==[]))=true:=by kernel_rfl
theorem cl6:((Tryz.prog.stops==[]))=true:=by kernel_rfl
theorem cl7:((Rows.fnExactAskedRow.knobs==[]))=true:=by kernel_rfl
theorem cl8:((Tryz.prog.stopKnobs==[]))=true:=by kernel_rfl
theorem cl9:((Rows.fnExactAskedRow.inPlace==Tryz.prog.inPlace 3))=true:=by kernel_rfl
theorem EB:((Rows.fnExactAskedRow.unfollowed==Tryz.prog.unfollowed 3))=true:=by kernel_rfl
theorem EC:((Rows.fnExactAskedRow.recurses==Tryz.prog.recurses 3))=true:=by kernel_rfl
theorem ED:((Rows.fnExactAskedRow.named==Tryz.prog.varsNamed 3))=true:=by kernel_rfl
theorem EE:((Rows.fnExactAskedRow.maps==(Tryz.f3.params.toList++Rows.fnExactAskedSpec.plain.varTypes Tryz.prog).any (Tryz.prog.mapsRec ·)))=true:=by kernel_rfl
theorem EF:((Rows.fnExactAskedRow.ifaces==(Tryz.f3.params.toList++Rows.fnExactAskedSpec.plain.varTypes Tryz.prog).any (Tryz.prog.ifacesRec ·)))=true:=by kernel_rfl
theorem EG:((Rows.fnExactAskedRow.mapsOut==Tryz.prog.mapsAmong Tryz.f3.resultTypes.toList))=true:=by kernel_rfl
theorem EH:((Rows.fnExactAskedRow.loops==(Tryz.f3.params.toList++Rows.fnExactAskedSpec.plain.varTypes Tryz.prog).any (Tryz.prog.loopsFrom ·)))=true:=by kernel_rfl
theorem EI:((Rows.fnExactAskedRow.wideKeys==(Tryz.f3.params.toList++Rows.fnExactAskedSpec.plain.varTypes Tryz.prog++Tryz.f3.resultTypes.toList).any (Tryz.prog.wideKeysFrom ·)))=true:=by kernel_rfl
theorem EJ:(Rows.fnExactAskedSpec.vars.all (Tryz.prog.varReadable ·))=true:=by kernel_rfl
theorem EK:(Tryz.f3.resultTypes.all (fun t=>Tryz.prog.readableRec t&&decide (t<Tryz.prog.types.size)))=true:=by kernel_rfl
theorem EL:((Rows.fnExactAskedRow.ifacesOut==Tryz.f3.resultTypes.toList.any (Tryz.prog.ifacesRec ·)))=true:=by kernel_rfl
theorem EM:((Rows.fnExactAskedRow.loopsOut==Tryz.f3.resultTypes.toList.any (Tryz.prog.loopsFrom ·)))=true:=by kernel_rfl
theorem EO:((Rows.fnExactAskedRow.plainKeys==Tryz.prog.plainKeys))=true:=by kernel_rfl
theorem EP:(Rows.fnExactAskedRow.shortTexts.isNone)=true:=by kernel_rfl
theorem ER:(Tryz.prog.stopsHeard)=true:=by kernel_rfl
theorem ES:(Tryz.prog.mayEnter)=true:=by kernel_rfl
theorem ET:((Rows.fnExactAskedRow.lifted==Tryz.prog.liftsFinal))=true:=by kernel_rfl
theorem EU:((Tryz.prog.make==some Rows.fnExactAskedRow.make))=true:=by kernel_rfl
theorem EW:((Rows.fnExactAskedRow.kinds==(if Rows.fnExactAskedRow.domain.isEmpty then[]else Tryz.f3.params.toList.map fun t=>match Tryz.prog.underlying t with|some (.int k)=>some k|_=>none)))=true:=by kernel_rfl
theorem EX:((Rows.fnExactAskedRow.pinned==Rows.fnExactAskedRow.pinnedBy))=true:=by kernel_rfl
theorem EY:((Rows.fnExactAskedRow.veiled==(Tryz.f3.params.toList++Rows.fnExactAskedSpec.plain.varTypes Tryz.prog++Tryz.f3.resultTypes.toList).any (Tryz.prog.veiledRec ·)))=true:=by kernel_rfl
theorem EZ:(Rows.fnExactAskedRow.veiledFits Tryz.prog Tryz.f3.params.toList (Tryz.f3.params.toList++Rows.fnExactAskedSpec.plain.varTypes Tryz.prog++Tryz.f3.resultTypes.toList))=true:=by kernel_rfl
theorem DL:joinedFacts Tryz.prog 3 Tryz.f3 Rows.fnExactAskedSpec Rows.fnExactAskedRow=true:=(eX (eX (eX (eX (eX (eX (eX (eX (eX (eX (eX (eX (eX (eX (eX (eX (eX (eX (eX (eX (eX (eX (eX (eX (eX (eX (eX (eX (eX (eX (eX cl0 cl1) cl2) cl3) cl4) cl5) cl6) cl7) cl8) cl9) EB) EC) ED) EE) EF) EG) EH) EI) EJ) EK) EL) EM) EO) EP) ER) ES) ET) EU) EW) EX) EY) EZ)
theorem kL:Rows.fnExactAskedRow.holds Tryz.pinned (OpenSpec.ofChange Rows.fnExactAskedSpec):=
 OpenClaim.holds_of_wide 3 Tryz.f3 rfl rfl rfl rfl rfl rfl rfl ⟨rfl,rfl,rfl,rfl,rfl⟩ rfl rfl rfl rfl rfl (by kernel_rfl) Tryz.func3 DL
  (of_decide_eq_true (by kernel_rfl)) (by unfold Func.isWrapper;first|(rw[if_pos (by decide+kernel)];kernel_rfl)|(rw[if_neg (by decide+kernel)];exact⟨rfl,rfl⟩))
  (fun os started H enc _=>lifted os started H enc)
theorem proved:Rows.FnExactAskedSaid:=kL
end Go.Proofs.YthldeiojlllkdaaGreatDoor.fnExactAsked
namespace Go.Proofs.YthldeiojlllkdaaGreatDoor
open Go in
theorem fnExactAsked_holds:Rows.FnExactAskedCardSaid:=
 Claim7.holds_tied_plain_at .later [] [.data,.data,.data,.data,.handle,.sentinel,.sentinel,.sentinel,.sentinel,.pinned] true (true,"9b3b5ab1b5e433c253f4ccd9c0f6560582e5470cad8109cfd354824b46867495") true
  fnExactAsked.proved (fun _ h=>by cases h) (by kernel_rfl) (fun _ h=>by cases h) fnExactAsked_row_tie rfl ⟨rfl,rfl⟩ (by kernel_rfl) rfl
  (fun f fn hf hfn=>by
   obtain rfl:f=3:=Option.some.inj ((show Tryz.prog.funcNamed Rows.fnExactAskedRow.func=some 3 by kernel_rfl).symm.trans hf) |>.symm
   obtain rfl:fn=Tryz.f3:=(Option.some.inj (Tryz.func3.symm.trans hfn)).symm;exact⟨by kernel_rfl,fun j t ht=>by
    rw[Tryz.params3]at ht;have hm:t∈[34,2,9]:=by simpa using Array.mem_of_getElem? ht
    have hall:([34,2,9].all fun u=> !Tryz.prog.wantsStandIn u)=true:=by kernel_rfl
    exact(show Tryz.prog.wantsStandIn t=false by simpa using List.all_eq_true.1 hall t hm)⟩)
  (by kernel_rfl)
end Go.Proofs.YthldeiojlllkdaaGreatDoor
