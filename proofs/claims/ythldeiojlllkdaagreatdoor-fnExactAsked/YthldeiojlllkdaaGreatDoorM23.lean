/- Blocks by commands, the program: what a command of blocks writes (writtenTo). -/
import Derived.Test.YthldeiojlllkdaaGreatDoorM22
set_option maxRecDepth 20000
set_option maxHeartbeats 2000000
namespace Go.Proofs.YthldeiojlllkdaaGreatDoor
open Go.ChangeShapes Go.WideShapes Go.ChangeAt Go.RowKit
structure Vx (w wx:World) (u v:Value) (t:TypeId) (cs d:Array Value) (x:An):Prop where
 dk:StB wx w.heap.size 36 #[u,v]
 cm:StB wx (w.heap.size+1) t cs
 rd:StB wx (w.heap.size+1+1) 36 d
 ra:StB wx (w.heap.size+1+1+1) 44 (anA x)
 bl:iO w wx
 sz:w.heap.size+4<=wx.heap.size
theorem Vx.start (w:World) (u v:Value) (t:TypeId) (cs:Array Value):Vx w ((((w.alloc (.cells #[u,v] 36)).alloc (.cells cs t)).alloc (.cells zeD 36)).alloc (.cells (anA ⟨0,[]⟩) 44)) u v t cs zeD ⟨0,[]⟩:=by
 have a1:=StB.new w 36 #[u,v];have a2:=StB.new (w.alloc (.cells #[u,v] 36)) t cs;have a3:=StB.new ((w.alloc (.cells #[u,v] 36)).alloc (.cells cs t)) 36 zeD;have a4:=StB.new (((w.alloc (.cells #[u,v] 36)).alloc (.cells cs t)).alloc (.cells zeD 36)) 44 (anA ⟨0,[]⟩);simp only[World.size_alloc]at a2 a3 a4;refine⟨((a1.alloc _).alloc _).alloc _,(a2.alloc _).alloc _,a3.alloc _,a4,?_,by simp⟩;exact((Fc.alloc Fg _).alloc (by simp;omega) _).alloc (by simp;omega) _
theorem Vx.next {w wx wy:World} {u v:Value} {t:TypeId} {cs d:Array Value} {x:An} (h:Vx w wx u v t cs d x) (b:iO wx wy):Vx w wy u v t cs d x:=
 ⟨h.dk.below b,h.cm.below b,h.rd.below b,h.ra.below b,h.bl.trans (b.mono h.bl.size),Nat.le_trans h.sz b.size⟩
theorem Vx.grown {w wx wy:World} {u v:Value} {t:TypeId} {cs d:Array Value} {x:An} {g:Nat} (h:Vx w wx u v t cs d x) (b:wx.grownBy wy (some g)) (hg:w.heap.size+4<=g):Vx w wy u v t cs d x:=
 ⟨h.dk.kept b (by simp;omega),h.cm.kept b (by simp;omega),h.rd.kept b (by simp;omega),h.ra.kept b (by simp;omega),h.bl.grown b h.bl.size (fun k e=>by cases e;omega),Nat.le_trans h.sz b.size⟩
theorem Vx.drew {w wx:World} {u v:Value} {t:TypeId} {cs d:Array Value} {x:An} (h:Vx w wx u v t cs d x):Vx w wx.drew u v t cs d x:=
 ⟨h.dk,h.cm,h.rd,h.ra,h.bl.drew,h.sz⟩
theorem Vx.fin {w wx wy wz:World} {u v:Value} {t:TypeId} {cs d:Array Value} {x:An} {a b:Value} {xs ys:List Int} {base:Nat} (h:Vx w wx u v t cs d x) (oa:Own wx base a xs) (ob:Own wx base b ys) (hb:w.heap.size+4<=base) (ap:apart a b)
  (g5:wx.grownBy wy (some (w.heap.size+1+1))) (g6:wy.grownBy wz (some (w.heap.size+1+1+1))):aV wz w.heap.size a b xs ys/\iO w wz:=by
 refine⟨⟨(((oa.keptLt g5 Ff).keptLt g6 Ff)).mono Ff,(((ob.keptLt g5 Ff).keptLt g6 Ff)).mono Ff,ap⟩,?_⟩;have b5:=h.bl.grown g5 h.bl.size (fun k e=>by cases e;omega);exact b5.grown g6 b5.size (fun k e=>by cases e;omega)
def wrA (b:Bool):An:=if b then⟨0,[]⟩else⟨1,[]⟩
theorem eF (u v:Value) (xs ys:List Int) (p x:Int) (w:World) (h:ag w u xs) (h':ag w v ys) (gx:xs.length<=1099511627776) (gy:ys.length<=1099511627776) (hb:au xs ys=true):
  Calls Tryz.prog 253 #[.agg #[u,v],.agg #[.int .i64 p,.int .i64 x]] w fun e w'=>∃a b,e=.returned (.tuple #[.agg #[a,b],AV (wrA (fy ys p x))])/\aV w' w.heap.size a b xs (eV ys p x)/\iO w w':=by
 obtain⟨w1,hw1⟩:=Fe ((((w.alloc (.cells #[u,v] 36)).alloc (.cells #[.int .i64 p,.int .i64 x] 288)).alloc (.cells #[.slice none 0 0,.slice none 0 0] 36)).alloc (.cells #[.int .i64 0,.string ⟨#[]⟩] 44))
 have HV:Hid (Vx w w1 u v 288 #[.int .i64 p,.int .i64 x] zeD ⟨0,[]⟩):=by rw[hw1];exact Vx.start w u v _ _
 have c1:=tA u v xs ys p x w1 (h.below HV.out.bl (Nat.le_refl _)) (h'.below HV.out.bl (Nat.le_refl _)) gx gy;have e1:wrB xs ys p x=fy ys p x:=by simp[wrB,hb]
 have e2:wrK xs ys=xs:=by simp[wrK,hb]
 have e3:wrN xs ys p x=eV ys p x:=by simp[wrN,hb]
 rw[e1,e2,e3]at c1;obtain⟨zs,hz⟩:=Fe (eV ys p x)
 obtain⟨pb,hpb⟩:=Fe (fy ys p x)
 simp only[<-hz,<-hpb]at c1⊢;have m0:w1.cell? ⟨w.heap.size+1,0,none⟩=some (.int .i64 p):=HV.out.cm.cell 0 rfl;have m1:w1.cell? ⟨w.heap.size+1,1,none⟩=some (.int .i64 x):=HV.out.cm.cell 1 rfl;clear hb e1 e2 e3 hz hpb h h';go_enter Tryz.func253,Tryz.ntmps253;go_upto_region 1 with fail
 rw[<-hw1];clear hw1;go_wp2_with (first|(refine ah GI rfl _ rfl w.heap.size rfl _ rfl HV.out.dk ?_))
 refine c1.mono ?_;rintro e w2 ⟨a,b,rfl,o2,b2⟩;obtain⟨w3,hw3⟩:=Fe (w2.alloc (.cells #[.slice none 0 0,.slice none 0 0] 36))
 have b3:iO w2 w3:=by rw[hw3];exact be w2 _
 have H3:Hid (Vx w w3 u v 288 #[.int .i64 p,.int .i64 x] zeD ⟨0,[]⟩):=(HV.out.next b2).next b3;have hk:Hid (w.heap.size+4<=w2.heap.size):=Nat.le_trans HV.out.sz b2.size;obtain⟨ao,ac,rfl⟩:=o2.1.reads.form;obtain⟨bo,bc,rfl⟩:=o2.2.1.reads.form;have O2:Hid (Own w2 (w.heap.size+4) (.slice ao xs.length ac) xs/\Own w2 (w.heap.size+4) (.slice bo zs.length bc) zs/\apart (.slice ao xs.length ac) (.slice bo zs.length bc)):=⟨o2.1.mono HV.out.sz,o2.2.1.mono HV.out.sz,o2.2.2⟩
 have s3:Hid (StB w3 w2.heap.size 36 zeD):=by rw[hw3];exact StB.new _ _ _
 have O3:Hid (Own w3 (w.heap.size+4) (.slice ao xs.length ac) xs/\Own w3 (w.heap.size+4) (.slice bo zs.length bc) zs/\apart (.slice ao xs.length ac) (.slice bo zs.length bc)):=⟨O2.out.1.below b3,O2.out.2.1.below b3,O2.out.2.2⟩
 have na:Hid ((Value.slice ao xs.length ac).ownBlock≠some w2.heap.size/\(Value.slice bo zs.length bc).ownBlock≠some w2.heap.size):=⟨fun e=>by have:=(O2.out.1.lt _ e).2;omega,fun e=>by have:=(O2.out.2.1.lt _ e).2;omega⟩
 clear c1 o2 b2 HV m0 m1 O2 b3;cases pb;all_goals
  go_wp2_with (first
   |(rw[<-hw3];refine ae GI rfl _ _ rfl w2.heap.size #[.slice ao xs.length ac,.slice bo zs.length bc] zeD rfl rfl rfl rfl (cH rfl rfl) s3.out ?_;intro w4 s4 g4;clear hw3;have H4:Hid (Vx w w4 u v 288 #[.int .i64 p,.int .i64 x] zeD ⟨0,[]⟩):=H3.out.grown g4 hk.out)
   |(refine ah GI rfl _ rfl w2.heap.size rfl _ rfl s4 ?_)
   |(refine ae GI rfl _ _ rfl (w.heap.size+1+1) #[.slice ao xs.length ac,.slice bo zs.length bc] zeD rfl rfl rfl rfl (cH rfl rfl) H4.out.rd ?_;intro w5 s5 g5)
   |(refine ae GC rfl _ _ rfl (w.heap.size+1+1+1) (anA ⟨0,[]⟩) (anA ⟨0,[]⟩) rfl rfl rfl rfl (aC _) (H4.out.ra.kept g5 Fg) ?_;intro w6 s6 g6)
   |(refine ae GC rfl _ _ rfl (w.heap.size+1+1+1) (anA ⟨1,[]⟩) (anA ⟨0,[]⟩) rfl rfl rfl rfl (aC _) (H4.out.ra.kept g5 Fg) ?_;intro w6 s6 g6))
  refine bodyPost_ret (bg rfl _ _ (w.heap.size+1+1) (w.heap.size+1+1+1) _ _ rfl rfl rfl rfl (s5.kept g6 Fg) s6) rfl ?_;exact⟨_,_,rfl,H4.out.fin (O3.out.1.kept g4 (.inr na.out.1)) (O3.out.2.1.kept g4 (.inr na.out.2)) (Nat.le_refl _) O3.out.2.2 g5 g6⟩
theorem ya (ls:List Bs):Lib.join ls [32]=ib 32 ls:=by
 induction ls with
 |nil=>rfl
 |cons a l ih=>
  cases l with
  |nil=>rw[Lib.join_one,ib]
  |cons b l=>
   rw[ib,<-ih];simp[Lib.join,List.intercalate,List.intersperse]
theorem yZ (bk c:Nat) (ls:List Bs) (w:World) (hr:fY w (.slice (some ⟨bk,0,none⟩) ls.length c) ls) (h0:0<ls.length) (hn:ls.length<=1048576) (hlen:(ib 32 ls).length<=1048576):
  Calls Tryz.prog 116 #[.slice (some ⟨bk,0,none⟩) ls.length c,.string ⟨#[32]⟩] w fun e w'=>e=.returned (S (ib 32 ls))/\iO w w':=by
 obtain⟨ao,cap,e,hcap, -,hc⟩:=hr;simp only[Value.slice.injEq]at e;obtain⟨rfl, -,rfl⟩:=e;have hm:(ls.map (fun l=>(⟨l.toArray⟩:ByteArray))).map (·.data.toList)=ls:=by
  rw[List.map_map];conv=>rhs;rw[<-List.map_id ls]
  apply List.map_congr_left;intro x _;rfl
 have hcell:∀j,j<ls.length->w.cell? ⟨bk,0+j,none⟩=some (S (ls.getD j [])):=by
  rcases hc with hc|⟨b,off,e,hc⟩
  ·rw[hc]at h0;simp at h0
  ·simp only[Option.some.injEq,Addr.mk.injEq]at e
   obtain⟨rfl,rfl, -⟩:=e;exact hc
 have c0:=Tryz.strings_Join bk 0 c (ls.map (fun l=>(⟨l.toArray⟩:ByteArray))) ⟨#[32]⟩ w (by
  intro j x hj;rw[List.getElem?_map]at hj;cases hg:ls[j]? with
  |none=>rw[hg]at hj;cases hj
  |some y=>
   rw[hg]at hj;simp only[Option.map_some,Option.some.injEq]at hj;subst hj;have hlt:j<ls.length:=by
    rcases Nat.lt_or_ge j ls.length with h|h
    ·exact h
    ·rw[List.getElem?_eq_none h]at hg;cases hg
   rw[hcell j hlt,List.getD_eq_getElem?_getD,hg];rfl) (World.block_lt_of_cell? w _ (hcell 0 h0)) (by simp;omega) (by simpa using hcap) (by
  rw[hm,show(⟨#[32]⟩:ByteArray).data.toList=[32]from rfl,ya];omega)
 rw[hm,show(⟨#[32]⟩:ByteArray).data.toList=[32]from rfl,ya,List.length_map]at c0;exact c0
theorem A7 (x:Int):Lib.itoa x=ce x:=by
 unfold Lib.itoa ce;by_cases h:x<0
 ·rw[if_pos h,if_pos h,j7]
 ·rw[if_neg h,if_neg h,j7,show x.toNat=x.natAbs by omega]
theorem zm (n:Nat):(madeCells #[Value.string ⟨#[]⟩] n).toList=(List.replicate n ([]:Bs)).map S:=by
 rw[toList_madeCells_one,List.map_replicate];rfl
def ez (xs:List Int) (j:Nat):List Bs:=(xs.take j).map ce++List.replicate (xs.length-j) []
theorem mM (xs:List Int) (j:Nat) (h:j<=xs.length):(ez xs j).length=xs.length:=by simp[ez];omega
theorem tW (xs:List Int) (j:Nat) (h:j<xs.length):(ez xs j).set j (ce (xs.getD j 0))=ez xs (j+1):=by
 unfold ez;have hl:((xs.take j).map ce).length=j:=by simp;omega
 obtain⟨k,hk⟩:∃k,xs.length-j=k+1:=⟨xs.length-j-1,by omega⟩
 rw[List.set_append_right _ _ Ff,hl,Nat.sub_self,hk,List.replicate_succ,List.set_cons_zero,List.take_succ_eq_append_getElem h,List.map_append,List.append_assoc,show xs.length-(j+1)=k by omega];simp[h]
theorem tX (xs:List Int):ez xs xs.length=xs.map ce:=by simp[ez]
theorem gH (v:Value) (xs:List Int) (w:World) (hr:ag w v xs) (h0:0<xs.length) (hn:xs.length<=16) (hx:fu xs) (ht:Tab w):
  Calls Tryz.prog 76 #[v] w fun e w'=>e=.returned (S (eg xs))/\iO w w':=by
 obtain⟨i0,hi,hz0,hz1,hz2⟩:=info_parts GB;obtain⟨ao,cap,rfl⟩:=aa hr;obtain⟨-,la,ma,hcell⟩:=aL hr;obtain⟨b,off,rfl, -⟩:=hcell 0 h0;have HR0:Hid (ag w (.slice (some ⟨b,off,none⟩) xs.length cap) xs):=hr;have HT:Hid (Tab w):=ht;have HX:Hid (fu xs):=hx;clear hr ht hcell hx;obtain⟨n,hn'⟩:=Fe xs.length
 have HN:Hid (n=xs.length):=hn';rw[<-hn']at h0 hn la HR0⊢;clear hn';unfold maxLen at ma;unfold S;go_enter Tryz.func76,Tryz.ntmps76;go_wp2_with (refine wpList_make_full _ rfl _ _ 115 rfl w.heap.size 9 i0 (.string ⟨#[]⟩) 1 Tryz.underlying115 hi hz0 hz1 _ _ _ _ n rfl rfl rfl rfl (by rw[hz2];omega) (by unfold maxLen;omega) (Nat.le_refl _) ?_)
 intro w1 hown1 hgr1;rw[zm]at hown1;have HO:Hid (dl w1 w.heap.size (.slice (some ⟨w.heap.size,0,none⟩) n n) (ez xs 0)/\iO w w1):=by
  refine⟨?_,(Below.refl _ _).grown hgr1 (Nat.le_refl _) (fun k e=>by cases e)⟩;unfold dl;rw[mM xs 0 (Nat.zero_le _),<-HN.out];simpa[ez,<-HN.out]using hown1
 clear hown1 hgr1;go_wp2;go_loopw [11] (fun i wr=>∃j:Nat,(j:Int)<=(n:Int)/\i=.int .i64 j/\Hid (dl wr w.heap.size (.slice (some ⟨w.heap.size,0,none⟩) n n) (ez xs j)/\iO w wr)) (fun i _=>n-(intOf i).toNat)
 case atStart=>exact⟨0,by omega,rfl,HO⟩
 case round=>
  obtain⟨j,hj,rfl,HR⟩:=hrel;clear HO;by_cases hlt:(j:Int)<(n:Int)
  ·have hjx:Hid (j<xs.length):=by have:=HN.out;rw[Hid];omega
   obtain⟨-, -, -,hcell⟩:=aL (HR0.out.below HR.out.2 (Nat.le_refl _));obtain⟨b',off',e,hc1⟩:=hcell j Ff;simp only[Option.some.injEq,Addr.mk.injEq]at e;obtain⟨rfl,rfl, -⟩:=e;clear hcell;have HF:=HX.out (xs.getD j 0) (by have:=hjx.out;simp[this]);have HP:Hid ((ez xs j).set j (ce (xs.getD j 0))=ez xs (j+1)):=tW xs j hjx.out;obtain⟨x,hx⟩:=Fe (xs.getD j 0)
   rw[<-hx]at hc1 HF HP;have c2:=fun wx (h:Tab wx)=>Tryz.strconv_FormatInt_10 x HF.1 HF.2 wx h
   simp only[A7]at c2;obtain⟨d,hd⟩:=Fe (ce x)
   rw[<-hd]at HP;simp only[<-hd]at c2;clear hx hd HF;have HT1:Hid (Tab wr):=HT.out.below HR.out.2;go_wp2_with fail
   refine(c2 _ HT1.out).mono ?_;rintro e w2 ⟨rfl,k2,o2,hw2⟩;have B2:iO wr w2:=by rw[hw2];exact jZ wr k2 o2
   clear hw2 c2 hc1;have HQ:Hid (dl w2 w.heap.size (.slice (some ⟨w.heap.size,0,none⟩) n n) (ez xs j)/\iO w w2):=⟨HR.out.1.below B2,HR.out.2.trans (B2.mono HR.out.2.size)⟩
   clear HR B2;obtain⟨hf,⟨y,hc⟩,ho2⟩:=HQ.out.1.put (by rw[mM xs j (by have:=hjx.out;omega)];exact HN.out) j Ff d;have HS:Hid (dl (w2.setCell ⟨w.heap.size,j,none⟩ (.string ⟨d.toArray⟩)) w.heap.size (.slice (some ⟨w.heap.size,0,none⟩) n n) (ez xs (j+1))/\iO w (w2.setCell ⟨w.heap.size,j,none⟩ (.string ⟨d.toArray⟩))):=by
    rw[HP.out]at ho2;exact⟨ho2,HQ.out.2.setCell (p:=⟨w.heap.size,j,none⟩) (Nat.le_refl _) _⟩
   clear ho2;go_wp2;go_roundw
   case rel=>exact⟨j+1,by omega,by go_num,HS⟩
   case measure=>simp[intOf];omega
  ·have e:j=xs.length:=by have:=HN.out;omega
   have HR2:Hid (dl wr w.heap.size (.slice (some ⟨w.heap.size,0,none⟩) n n) (xs.map ce)):=by
    have:=HR.out.1;rw[e,tX]at this;exact this
   have hml:(xs.map ce).length=n:=by rw[List.length_map];exact HN.out.symm
   have c3:=yZ w.heap.size n (xs.map ce) wr (by rw[hml];exact HR2.out.reads) Ff Ff (by rw[qC];have:=qB xs HX.out;have:=HN.out;omega);rw[qC,hml]at c3;unfold S at c3;clear e hml;go_wp2_with fail
   refine c3.mono ?_;rintro e w2 ⟨rfl,b2⟩;clear c3;go_wp2;go_ret;exact⟨rfl,HR.out.2.trans (b2.mono HR.out.2.size)⟩
theorem oE (x:Int):eg [x]=ce x:=by simp[eg]
theorem pI (u v:Value) (xs ys:List Int) (p:Int) (w:World) (h:ag w u xs) (h':ag w v ys) (hb:au xs ys=true) (hp:(ys.length:Int)<=p):
  Calls Tryz.prog 252 #[.agg #[u,v],.agg #[.int .i64 p]] w fun e w'=>∃a b,e=.returned (.tuple #[.agg #[a,b],AV ⟨1,[]⟩])/\aV w' w.heap.size a b xs ys/\iO w w':=by
 obtain⟨n1,n8,nl⟩:=cI hb;obtain⟨w1,hw1⟩:=Fe ((((w.alloc (.cells #[u,v] 36)).alloc (.cells #[.int .i64 p] 285)).alloc (.cells #[.slice none 0 0,.slice none 0 0] 36)).alloc (.cells #[.int .i64 0,.string ⟨#[]⟩] 44))
 have HV:Hid (Vx w w1 u v 285 #[.int .i64 p] zeD ⟨0,[]⟩):=by rw[hw1];exact Vx.start w u v _ _
 have c1:=dJ u v xs ys w1 (h.below HV.out.bl (Nat.le_refl _)) (h'.below HV.out.bl (Nat.le_refl _)) n1 Ff Ff Ff;obtain⟨uo,uc,rfl⟩:=h.form;obtain⟨vo,vc,rfl⟩:=h'.form;have m0:w1.cell? ⟨w.heap.size+1,0,none⟩=some (.int .i64 p):=HV.out.cm.cell 0 rfl;have m1:w1.cell? ⟨w.heap.size,1,none⟩=some (.slice vo ys.length vc):=HV.out.dk.cell 1 rfl;clear hb h h' n1 n8 nl;go_enter Tryz.func252,Tryz.ntmps252;go_upto_region 1 with fail
 rw[<-hw1];clear hw1;go_wp2_with (first|(refine ah GI rfl _ rfl w.heap.size rfl _ rfl HV.out.dk ?_))
 refine c1.mono ?_;rintro e w2 ⟨a,b,rfl,o2,b2⟩;have H2:Hid (Vx w w2 (.slice uo xs.length uc) (.slice vo ys.length vc) 285 #[.int .i64 p] zeD ⟨0,[]⟩):=HV.out.next b2;obtain⟨ao,ac,rfl⟩:=o2.1.reads.form;obtain⟨bo,bc,rfl⟩:=o2.2.1.reads.form;have O2:Hid (Own w2 (w.heap.size+4) (.slice ao xs.length ac) xs/\Own w2 (w.heap.size+4) (.slice bo ys.length bc) ys/\apart (.slice ao xs.length ac) (.slice bo ys.length bc)):=⟨o2.1.mono HV.out.sz,o2.2.1.mono HV.out.sz,o2.2.2⟩
 clear c1 o2 b2 HV m0 m1;go_wp2_with (first
  |(refine ae GI rfl _ _ rfl (w.heap.size+1+1) #[.slice ao xs.length ac,.slice bo ys.length bc] zeD rfl rfl rfl rfl (cH rfl rfl) H2.out.rd ?_;intro w5 s5 g5)
  |(refine ae GC rfl _ _ rfl (w.heap.size+1+1+1) (anA ⟨1,[]⟩) (anA ⟨0,[]⟩) rfl rfl rfl rfl (aC _) (H2.out.ra.kept g5 Fg) ?_;intro w6 s6 g6))
 refine bodyPost_ret (bg rfl _ _ (w.heap.size+1+1) (w.heap.size+1+1+1) _ _ rfl rfl rfl rfl (s5.kept g6 Fg) s6) rfl ?_;exact⟨_,_,rfl,H2.out.fin O2.out.1 O2.out.2.1 (Nat.le_refl _) O2.out.2.2 g5 g6⟩
theorem oF (w:World) (z:Int) {g:Nat} (h:g=w.heap.size):ag (w.alloc (.cells #[.int .i64 z] 2)) (.slice (some ⟨g,0,none⟩) 1 1) [z]:=by
 subst h;have h:=World.ownsRow_lit (base:=w.heap.size) (e:=2) (size:=1) w #[.int .i64 z] 1 (Nat.le_refl _) Fh rfl;exact Own.reads (base:=w.heap.size) (by unfold Own;simpa using h)
theorem ag.al {w:World} {o:Obj} {v:Value} {xs:List Int} (h:ag w v xs):ag (w.alloc o) v xs:=h.below (be w o) (Nat.le_refl _)
theorem ag.dr {w:World} {v:Value} {xs:List Int} (h:ag w v xs):ag w.drew v xs:=h
theorem ag.bel {w w':World} {v:Value} {xs:List Int} (h:ag w v xs) (b:iO w w'):ag w' v xs:=h.below b (Nat.le_refl _)
def Sq (w w1 w':World):Prop:=∀a x,a.block≠w.heap.size+1+1->a.block≠w.heap.size+1+1+1->w1.cell? a=some x->w'.cell? a=some x
theorem Sq.refl (w w1:World):Sq w w1 w1:=fun _ _ _ _ h=>h
theorem Sq.dr {w w1 wx:World} (h:Sq w w1 wx):Sq w w1 wx.drew:=h
theorem Sq.bel {w w1 wx wy:World} (h:Sq w w1 wx) (b:iO wx wy):Sq w w1 wy:=fun a x h1 h2 h3=>aJ (h a x h1 h2 h3) b
theorem Sq.al {w w1 wx:World} {o:Obj} (h:Sq w w1 wx):Sq w w1 (wx.alloc o):=h.bel (be wx o)
theorem Sq.put2 {w w1 wx wy:World} (h:Sq w w1 wx) (g:wx.grownBy wy (some (w.heap.size+1+1))):Sq w w1 wy:=fun a x h1 h2 h3=>g.cell (h a x h1 h2 h3) (by simpa using h1)
theorem Sq.set3 {w w1 wx:World} {j:Nat} {v:Value} (h:Sq w w1 wx):Sq w w1 (wx.setCell ⟨w.heap.size+1+1+1,j,none⟩ v):=fun a x h1 h2 h3=>(ai wx _ j v).cell (h a x h1 h2 h3) (by simpa using h2)
theorem oG (u v:Value) (xs ys:List Int) (j:Nat) (w:World) (h:ag w u xs) (h':ag w v ys) (hb:au xs ys=true) (hj:(j:Int)<(ys.length:Int)) (ht:Tab w):
  Calls Tryz.prog 252 #[.agg #[u,v],.agg #[.int .i64 (j:Int)]] w fun e w'=>∃a b,e=.returned (.tuple #[.agg #[a,b],AV ⟨0,ce (ys.getD j 0)⟩])/\aV w' w.heap.size a b xs ys/\iO w w':=by
 obtain⟨n1,n8,nl⟩:=cI hb;have hzb:=fx hb j;obtain⟨w1,hw1⟩:=Fe ((((w.alloc (.cells #[u,v] 36)).alloc (.cells #[.int .i64 (j:Int)] 285)).alloc (.cells #[.slice none 0 0,.slice none 0 0] 36)).alloc (.cells #[.int .i64 0,.string ⟨#[]⟩] 44))
 have HV:Hid (Vx w w1 u v 285 #[.int .i64 (j:Int)] zeD ⟨0,[]⟩):=by rw[hw1];exact Vx.start w u v _ _
 have FD:Hid (∀w',iO w1 w'->Calls Tryz.prog 111 #[.agg #[u,v]] w' fun e w''=>∃a b,e=.returned (.agg (dkA a b))/\aV w'' w'.heap.size a b xs ys/\iO w' w''):=fun w' b=>dJ u v xs ys w' ((h.below HV.out.bl (Nat.le_refl _)).below b (Nat.le_refl _)) ((h'.below HV.out.bl (Nat.le_refl _)).below b (Nat.le_refl _)) n1 Ff Ff Ff
 obtain⟨uo,uc,rfl⟩:=h.form;obtain⟨vo,vc,rfl⟩:=h'.form;obtain⟨-,hm1,hm2,hcv⟩:=aL h';obtain⟨vb,vf,rfl,hc0⟩:=hcv j Ff;obtain⟨z,hz⟩:=Fe (ys.getD j 0)
 rw[<-hz]at hc0 hzb⊢;have CN:Hid (∀u' w',ag w' u' [z]->iO w1 w'->Calls Tryz.prog 76 #[u'] w' fun e w''=>e=.returned (S (ce z))/\iO w' w''):=fun u' w' hr b=>by
  have:=gH u' [z] w' hr Fg Fg (by intro x hx;simp at hx;omega) ((ht.below HV.out.bl).below b);rw[oE]at this;exact this
 obtain⟨d,hd⟩:=Fe (ce z)
 rw[<-hd]at CN⊢;have hvb:Hid (vb<w.heap.size):=World.block_lt_of_cell? w _ hc0;have q0:∀w',Sq w w1 w'->w'.cell? ⟨w.heap.size,0,none⟩=some (.slice uo xs.length uc):=fun w' b=>b _ _ (by simp;try omega) (by simp;try omega) (HV.out.dk.cell 0 rfl)
 have q1:∀w',Sq w w1 w'->w'.cell? ⟨w.heap.size,1,none⟩=some (.slice (some ⟨vb,vf,none⟩) ys.length vc):=fun w' b=>b _ _ (by simp;try omega) (by simp;try omega) (HV.out.dk.cell 1 rfl)
 have q2:∀w',Sq w w1 w'->w'.cell? ⟨w.heap.size+1,0,none⟩=some (.int .i64 (j:Int)):=fun w' b=>b _ _ (by simp;try omega) (by simp;try omega) (HV.out.cm.cell 0 rfl)
 have q3:∀w',Sq w w1 w'->w'.cell? ⟨vb,vf+j,none⟩=some (.int .i64 z):=fun w' b=>b _ _ (by have:=hvb.out;dsimp only;omega) (by have:=hvb.out;dsimp only;omega) ((HV.out.bl.cell (p:=⟨vb,vf+j,none⟩) hvb.out).trans hc0)
 have m0:w1.cell? ⟨w.heap.size+1,0,none⟩=some (.int .i64 (j:Int)):=q2 w1 (Sq.refl _ _);have m1:w1.cell? ⟨w.heap.size,1,none⟩=some (.slice (some ⟨vb,vf,none⟩) ys.length vc):=q1 w1 (Sq.refl _ _);clear hb h h' n1 n8 nl hz hd hcv hc0 ht hzb;unfold S at CN;go_enter Tryz.func252,Tryz.ntmps252;go_upto_region 1 with fail
 rw[<-hw1];clear hw1;go_upto_region 3 with fail
 clear m0 m1
 go_region_held3 (fun w'=>Sq w w1 w') ((repeat'(first|with_reducible assumption|with_reducible exact Sq.refl _ _|with_reducible refine Sq.al ?_|with_reducible refine Sq.dr ?_|with_reducible refine Sq.set3 ?_|with_reducible refine Sq.put2 ?_ (by with_reducible assumption)|with_reducible refine Sq.bel ?_ (by with_reducible assumption))))
  (first
   |(go_at_call 111;refine(FD.out _ cC).mono ?_;rintro e w3 ⟨a,b,rfl,o3,b3⟩;obtain⟨ao,ac,rfl⟩:=o3.1.reads.form;obtain⟨bo,bc,rfl⟩:=o3.2.1.reads.form;have O3:Hid (aV w3 _ (.slice ao xs.length ac) (.slice bo ys.length bc) xs ys):=o3;clear o3)
   |(go_at_call 76;refine(CN.out _ _ (by repeat'(first|(with_reducible refine oF _ _ Fg)|(with_reducible refine ag.al ?_)|(with_reducible refine ag.dr ?_)|(with_reducible refine ag.bel ?_ (by with_reducible assumption)))) cC).mono ?_;rintro e w4 ⟨rfl,b4⟩)
   |((with_reducible show Oper.upon _ _ _ _ _ (Result.andThen (Sem.run _ (storeCells _ (dkA _ _).toList) _) _));have H5:Hid (Vx w w4 (.slice uo xs.length uc) (.slice (some ⟨vb,vf,none⟩) ys.length vc) 285 #[.int .i64 (j:Int)] zeD ⟨0,[]⟩/\aV w4 (w.heap.size+4) (.slice ao xs.length ac) (.slice bo ys.length bc) xs ys):=⟨HV.out.next cC,aV.mono' (aV.bel O3.out cC) (Nat.le_trans HV.out.sz (pq cC))⟩;refine gn (w.heap.size+1+1) 36 (dkA (.slice ao xs.length ac) (.slice bo ys.length bc)) zeD rfl (cH rfl rfl) H5.out.1.rd ?_;intro w6 s6 g6;have ra:=H5.out.1.ra.kept g6 Fg;have r0:w6.cell? ⟨w.heap.size+1+1+1,0,none⟩=some (.int .i64 0):=ra.cell 0 rfl;have r1:w6.cell? ⟨w.heap.size+1+1+1,1,none⟩=some (.string ⟨#[]⟩):=ra.cell 1 rfl;have f0:=ra.frozen 0;have f1:=ra.frozen 1))
 all_goals
  go_wp2;have S7:=(ra.put 0 (.int .i64 0) rfl).put 1 (S d) (ds:=anA ⟨0,d⟩) rfl;have G7:=(ai w6 (w.heap.size+1+1+1) 0 (.int .i64 0)).trans (ai _ (w.heap.size+1+1+1) 1 (S d));refine bodyPost_ret (bg rfl _ _ (w.heap.size+1+1) (w.heap.size+1+1+1) _ _ rfl rfl rfl rfl (s6.kept G7 Fg) S7) rfl ?_;exact⟨_,_,rfl,H5.out.1.fin H5.out.2.1 H5.out.2.2.1 (Nat.le_refl _) H5.out.2.2.2 g6 G7⟩
theorem Sq.set2 {w w1 wx:World} {j:Nat} {v:Value} (h:Sq w w1 wx):Sq w w1 (wx.setCell ⟨w.heap.size+1+1,j,none⟩ v):=fun a x h1 h2 h3=>(ai wx _ j v).cell (h a x h1 h2 h3) (by simpa using h1)
theorem Be (u v:Value) (xs ys:List Int) (p x y:Int) (w:World) (h:ag w u xs) (h':ag w v ys) (hb:au xs ys=true) (hp:fy ys p y=false):
  Calls Tryz.prog 254 #[.agg #[u,v],.agg #[.int .i64 p,.int .i64 x,.int .i64 y]] w fun e w'=>∃a b,e=.returned (.tuple #[.agg #[a,b],AV ⟨1,[]⟩])/\aV w' w.heap.size a b xs (eV ys p y)/\iO w w':=by
 obtain⟨n1,n8,nl⟩:=cI hb;obtain⟨w1,hw1⟩:=Fe ((((w.alloc (.cells #[u,v] 36)).alloc (.cells #[.int .i64 p,.int .i64 x,.int .i64 y] 291)).alloc (.cells #[.slice none 0 0,.slice none 0 0] 36)).alloc (.cells #[.int .i64 0,.string ⟨#[]⟩] 44))
 have HV:Hid (Vx w w1 u v 291 #[.int .i64 p,.int .i64 x,.int .i64 y] zeD ⟨0,[]⟩):=by rw[hw1];exact Vx.start w u v _ _
 have c1:=eF u v xs ys p y w1 (h.below HV.out.bl (Nat.le_refl _)) (h'.below HV.out.bl (Nat.le_refl _)) Ff Ff hb;rw[hp,show wrA false=⟨1,[]⟩from rfl]at c1;unfold AV anA S at c1;dsimp only at c1;obtain⟨zs,hz⟩:=Fe (eV ys p y)
 simp only[<-hz]at c1⊢;have HX:Hid (ag w u xs/\ag w v ys/\au xs ys=true):=⟨h,h',hb⟩
 have m0:w1.cell? ⟨w.heap.size+1,0,none⟩=some (.int .i64 p):=HV.out.cm.cell 0 rfl;have m1:w1.cell? ⟨w.heap.size+1,1,none⟩=some (.int .i64 x):=HV.out.cm.cell 1 rfl;have m2:w1.cell? ⟨w.heap.size+1,2,none⟩=some (.int .i64 y):=HV.out.cm.cell 2 rfl;obtain⟨uo,uc,rfl⟩:=h.form;obtain⟨vo,vc,rfl⟩:=h'.form;have HZ:Hid (zs=eV ys p y):=hz;have HP:Hid (fy ys p y=false):=hp;clear hb h h' hz n1 n8 nl hp;go_enter Tryz.func254,Tryz.ntmps254;go_upto_region 1 with fail
 rw[<-hw1];clear hw1;go_wp2_with (first|(refine ah GI rfl _ rfl w.heap.size rfl _ rfl HV.out.dk ?_))
 refine c1.mono ?_;rintro e w2 ⟨a,b,rfl,o2,b2⟩;obtain⟨w3,hw3⟩:=Fe ((w2.alloc (.cells #[.slice none 0 0,.slice none 0 0] 36)).alloc (.cells #[.int .i64 0,.string ⟨#[]⟩] 44))
 have b3:iO w2 w3:=by rw[hw3];exact Fc.alloc Fg _
 have hk:Hid (w.heap.size+4<=w2.heap.size):=Nat.le_trans HV.out.sz b2.size;have H3:Hid (Vx w w3 (.slice uo xs.length uc) (.slice vo ys.length vc) 291 #[.int .i64 p,.int .i64 x,.int .i64 y] zeD ⟨0,[]⟩):=(HV.out.next b2).next b3;obtain⟨ao,ac,rfl⟩:=o2.1.reads.form;obtain⟨bo,bc,rfl⟩:=o2.2.1.reads.form;have O2:Hid (aV w2 (w.heap.size+4) (.slice ao xs.length ac) (.slice bo zs.length bc) xs zs):=o2.mono' HV.out.sz;have O3:Hid (aV w3 (w.heap.size+4) (.slice ao xs.length ac) (.slice bo zs.length bc) xs zs):=aV.bel O2.out b3;have na:Hid (∀k,w2.heap.size<=k->(Value.slice ao xs.length ac).ownBlock≠some k/\(Value.slice bo zs.length bc).ownBlock≠some k):=fun k hk=>⟨fun e=>by have:=(O2.out.1.lt _ e).2;omega,fun e=>by have:=(O2.out.2.1.lt _ e).2;omega⟩
 have s3:Hid (StB w3 w2.heap.size 36 zeD/\StB w3 (w2.heap.size+1) 44 (anA ⟨0,[]⟩)):=by
  rw[hw3];have q:=StB.new (w2.alloc (.cells zeD 36)) 44 (anA ⟨0,[]⟩);simp only[World.size_alloc]at q;exact⟨(StB.new w2 _ zeD).alloc _,q⟩
 clear c1 o2 b2 HV m0 m1 m2 O2 b3;go_upto_region 2 with(first
  |(rw[<-hw3];refine ae GI rfl _ _ rfl w2.heap.size #[.slice ao xs.length ac,.slice bo zs.length bc] zeD rfl rfl rfl rfl (cH rfl rfl) s3.out.1 ?_;intro w4 s4 g4;clear hw3)
  |(refine ae GC rfl _ _ rfl (w2.heap.size+1) (anA ⟨1,[]⟩) (anA ⟨0,[]⟩) rfl rfl rfl rfl (aC _) (s3.out.2.kept g4 Fg) ?_;intro w5 s5 g5))
 obtain⟨k6,hk6⟩:=Fe w2.heap.size
 rw[<-hk6]at hk s4 g4 s5 g5 na⊢;have H5:Hid (Vx w w5 (.slice uo xs.length uc) (.slice vo ys.length vc) 291 #[.int .i64 p,.int .i64 x,.int .i64 y] zeD ⟨0,[]⟩):=(H3.out.grown g4 hk.out).grown g5 (Nat.le_succ_of_le hk.out);have S5:Hid (StB w5 k6 36 #[.slice ao xs.length ac,.slice bo zs.length bc]/\StB w5 (k6+1) 44 (anA ⟨1,[]⟩)):=⟨s4.kept g5 Fg,s5⟩
 have O5:Hid (aV w5 (w.heap.size+4) (.slice ao xs.length ac) (.slice bo zs.length bc) xs zs):=⟨(O3.out.1.kept g4 (.inr (na.out k6 (Nat.le_refl _)).1)).kept g5 (.inr (na.out (k6+1) (Nat.le_succ _)).1),(O3.out.2.1.kept g4 (.inr (na.out k6 (Nat.le_refl _)).2)).kept g5 (.inr (na.out (k6+1) (Nat.le_succ _)).2),O3.out.2.2⟩
 clear hk6 s3 s4 s5 g4 g5 na O3 H3;have t0:w5.cell? ⟨k6+1,0,none⟩=some (.int .i64 (⟨1,[]⟩:An).st):=S5.out.2.cell 0 rfl;have t1:w5.cell? ⟨k6+1,1,none⟩=some (.string ⟨#[]⟩):=S5.out.2.cell 1 rfl;dsimp only at t0;have d0:w5.cell? ⟨w.heap.size,0,none⟩=some (.slice uo xs.length uc):=H5.out.dk.cell 0 rfl;have d1:w5.cell? ⟨w.heap.size,1,none⟩=some (.slice vo ys.length vc):=H5.out.dk.cell 1 rfl;have a0:w5.cell? ⟨w.heap.size+1,0,none⟩=some (.int .i64 p):=H5.out.cm.cell 0 rfl;have a1:w5.cell? ⟨w.heap.size+1,1,none⟩=some (.int .i64 x):=H5.out.cm.cell 1 rfl;simp only[Act.put]
 go_quiet (fail)
 obtain⟨w6,hw6⟩:=Fe (w5.drewN nq)
 rw[<-hw6];have H6:Hid (Vx w w6.drew (.slice uo xs.length uc) (.slice vo ys.length vc) 291 #[.int .i64 p,.int .i64 x,.int .i64 y] zeD ⟨0,[]⟩/\Vx w w6 (.slice uo xs.length uc) (.slice vo ys.length vc) 291 #[.int .i64 p,.int .i64 x,.int .i64 y] zeD ⟨0,[]⟩):=by
  have e:Vx w w6 (.slice uo xs.length uc) (.slice vo ys.length vc) 291 #[.int .i64 p,.int .i64 x,.int .i64 y] zeD ⟨0,[]⟩:=by rw[hw6];exact⟨H5.out.dk,H5.out.cm,H5.out.rd,H5.out.ra,below_drewN H5.out.bl nq,H5.out.sz⟩
  exact⟨e.drew,e⟩
 have S6:Hid (StB w6 k6 36 #[.slice ao xs.length ac,.slice bo zs.length bc]/\StB w6 (k6+1) 44 (anA ⟨1,[]⟩)):=by rw[hw6];exact S5.out
 have O6:Hid (aV w6.drew (w.heap.size+4) (.slice ao xs.length ac) (.slice bo zs.length bc) xs zs):=by rw[hw6];exact O5.out
 clear H5 S5 O5 t0 t1 d0 d1 a0 a1 hw6;have q0:∀w',Sq w w6 w'->w'.cell? ⟨k6,0,none⟩=some (.slice ao xs.length ac):=fun w' b=>b _ _ (by have:=hk.out;dsimp only;omega) (by have:=hk.out;dsimp only;omega) (S6.out.1.cell 0 rfl)
 have q1:∀w',Sq w w6 w'->w'.cell? ⟨k6,1,none⟩=some (.slice bo zs.length bc):=fun w' b=>b _ _ (by have:=hk.out;dsimp only;omega) (by have:=hk.out;dsimp only;omega) (S6.out.1.cell 1 rfl)
 have q2:∀w',Sq w w6 w'->w'.cell? ⟨k6+1,0,none⟩=some (.int .i64 (⟨1,[]⟩:An).st):=fun w' b=>b _ _ (by have:=hk.out;dsimp only;omega) (by have:=hk.out;dsimp only;omega) (S6.out.2.cell 0 rfl)
 have q3:∀w',Sq w w6 w'->w'.cell? ⟨k6+1,1,none⟩=some (.string ⟨#[]⟩):=fun w' b=>b _ _ (by have:=hk.out;dsimp only;omega) (by have:=hk.out;dsimp only;omega) (S6.out.2.cell 1 rfl)
 dsimp only at q2;have rd0:w6.drew.cell? ⟨w.heap.size+1+1,0,none⟩=some (.slice none 0 0):=H6.out.1.rd.cell 0 rfl;have frd0:=H6.out.1.rd.frozen 0;have rd0':w6.cell? ⟨w.heap.size+1+1,0,none⟩=some (.slice none 0 0):=H6.out.2.rd.cell 0 rfl;have frd0':=H6.out.2.rd.frozen 0;have rd1:w6.drew.cell? ⟨w.heap.size+1+1,1,none⟩=some (.slice none 0 0):=H6.out.1.rd.cell 1 rfl;have frd1:=H6.out.1.rd.frozen 1;have rd1':w6.cell? ⟨w.heap.size+1+1,1,none⟩=some (.slice none 0 0):=H6.out.2.rd.cell 1 rfl;have frd1':=H6.out.2.rd.frozen 1;have ra0:w6.drew.cell? ⟨w.heap.size+1+1+1,0,none⟩=some (.int .i64 0):=H6.out.1.ra.cell 0 rfl;have fra0:=H6.out.1.ra.frozen 0;have ra0':w6.cell? ⟨w.heap.size+1+1+1,0,none⟩=some (.int .i64 0):=H6.out.2.ra.cell 0 rfl;have fra0':=H6.out.2.ra.frozen 0;have ra1:w6.drew.cell? ⟨w.heap.size+1+1+1,1,none⟩=some (.string ⟨#[]⟩):=H6.out.1.ra.cell 1 rfl;have fra1:=H6.out.1.ra.frozen 1;have ra1':w6.cell? ⟨w.heap.size+1+1+1,1,none⟩=some (.string ⟨#[]⟩):=H6.out.2.ra.cell 1 rfl;have fra1':=H6.out.2.ra.frozen 1;go_upto_region 3 with fail
 go_region_held3 (fun w'=>Sq w w6 w') ((repeat'(first|with_reducible assumption|with_reducible exact Sq.refl _ _|with_reducible refine Sq.al ?_|with_reducible refine Sq.dr ?_|with_reducible refine Sq.set2 ?_|with_reducible refine Sq.set3 ?_|with_reducible refine Sq.put2 ?_ (by with_reducible assumption)|with_reducible refine Sq.bel ?_ (by with_reducible assumption)))) (fail)
 all_goals
  go_wp2;have T5:=(H6.out.1.rd.put 0 (.slice ao xs.length ac) rfl).put 1 (.slice bo zs.length bc) (ds:=#[.slice ao xs.length ac,.slice bo zs.length bc]) rfl;have G5:=(ai w6.drew (w.heap.size+1+1) 0 (.slice ao xs.length ac)).trans (ai _ (w.heap.size+1+1) 1 (.slice bo zs.length bc));have T6:=((H6.out.1.ra.kept G5 Fg).put 0 (.int .i64 (⟨1,[]⟩:An).st) rfl).put 1 (S []) (ds:=anA ⟨1,[]⟩) rfl;have G6:=(ai ((w6.drew.setCell ⟨w.heap.size+1+1,0,none⟩ (.slice ao xs.length ac)).setCell ⟨w.heap.size+1+1,1,none⟩ (.slice bo zs.length bc)) (w.heap.size+1+1+1) 0 (.int .i64 (⟨1,[]⟩:An).st)).trans (ai _ (w.heap.size+1+1+1) 1 (S []));refine bodyPost_ret (bg rfl _ _ (w.heap.size+1+1) (w.heap.size+1+1+1) _ _ rfl rfl rfl rfl (T5.kept G6 Fg) T6) rfl ?_;exact⟨_,_,rfl,H6.out.1.fin O6.out.1 O6.out.2.1 (Nat.le_refl _) O6.out.2.2 G5 G6⟩
theorem zy (u v:Value) (xs ys:List Int) (j:Nat) (x y:Int) (w:World) (h:ag w u xs) (h':ag w v ys) (hb:au xs ys=true) (hp:fy ys (j:Int) y=true) (hj:(j:Int)<(ys.length:Int)) (hx:ys.getD j 0=x):
  Calls Tryz.prog 254 #[.agg #[u,v],.agg #[.int .i64 (j:Int),.int .i64 x,.int .i64 y]] w fun e w'=>∃a b,e=.returned (.tuple #[.agg #[a,b],AV ⟨0,[]⟩])/\aV w' w.heap.size a b xs (eV ys (j:Int) y)/\iO w w':=by
 obtain⟨n1,n8,nl⟩:=cI hb;obtain⟨w1,hw1⟩:=Fe ((((w.alloc (.cells #[u,v] 36)).alloc (.cells #[.int .i64 (j:Int),.int .i64 x,.int .i64 y] 291)).alloc (.cells #[.slice none 0 0,.slice none 0 0] 36)).alloc (.cells #[.int .i64 0,.string ⟨#[]⟩] 44))
 have HV:Hid (Vx w w1 u v 291 #[.int .i64 (j:Int),.int .i64 x,.int .i64 y] zeD ⟨0,[]⟩):=by rw[hw1];exact Vx.start w u v _ _
 have c1:=eF u v xs ys (j:Int) y w1 (h.below HV.out.bl (Nat.le_refl _)) (h'.below HV.out.bl (Nat.le_refl _)) Ff Ff hb;rw[hp,show wrA true=⟨0,[]⟩from rfl]at c1;unfold AV anA S at c1;dsimp only at c1;obtain⟨zs,hz⟩:=Fe (eV ys (j:Int) y)
 simp only[<-hz]at c1⊢;have HX:Hid (ag w u xs/\ag w v ys/\au xs ys=true):=⟨h,h',hb⟩
 have m0:w1.cell? ⟨w.heap.size+1,0,none⟩=some (.int .i64 (j:Int)):=HV.out.cm.cell 0 rfl;have m1:w1.cell? ⟨w.heap.size+1,1,none⟩=some (.int .i64 x):=HV.out.cm.cell 1 rfl;have m2:w1.cell? ⟨w.heap.size+1,2,none⟩=some (.int .i64 y):=HV.out.cm.cell 2 rfl;obtain⟨uo,uc,rfl⟩:=h.form;obtain⟨vo,vc,rfl⟩:=h'.form;obtain⟨-, -, -,hcv⟩:=aL h';obtain⟨vb,vf,rfl,hc0⟩:=hcv j Ff;have hvb:Hid (vb<w.heap.size):=World.block_lt_of_cell? w _ hc0;rw[hx]at hc0;have HC:Hid (w.cell? ⟨vb,vf+j,none⟩=some (.int .i64 x)):=hc0;have HZ:Hid (zs=eV ys (j:Int) y):=hz;have HP:Hid (fy ys (j:Int) y=true):=hp;clear hx hcv hc0 hb h h' hz n1 n8 nl hp;go_enter Tryz.func254,Tryz.ntmps254;go_upto_region 1 with fail
 rw[<-hw1];clear hw1;go_wp2_with (first|(refine ah GI rfl _ rfl w.heap.size rfl _ rfl HV.out.dk ?_))
 refine c1.mono ?_;rintro e w2 ⟨a,b,rfl,o2,b2⟩;obtain⟨w3,hw3⟩:=Fe ((w2.alloc (.cells #[.slice none 0 0,.slice none 0 0] 36)).alloc (.cells #[.int .i64 0,.string ⟨#[]⟩] 44))
 have b3:iO w2 w3:=by rw[hw3];exact Fc.alloc Fg _
 have hk:Hid (w.heap.size+4<=w2.heap.size):=Nat.le_trans HV.out.sz b2.size;have H3:Hid (Vx w w3 (.slice uo xs.length uc) (.slice (some ⟨vb,vf,none⟩) ys.length vc) 291 #[.int .i64 (j:Int),.int .i64 x,.int .i64 y] zeD ⟨0,[]⟩):=(HV.out.next b2).next b3;obtain⟨ao,ac,rfl⟩:=o2.1.reads.form;obtain⟨bo,bc,rfl⟩:=o2.2.1.reads.form;have O2:Hid (aV w2 (w.heap.size+4) (.slice ao xs.length ac) (.slice bo zs.length bc) xs zs):=o2.mono' HV.out.sz;have O3:Hid (aV w3 (w.heap.size+4) (.slice ao xs.length ac) (.slice bo zs.length bc) xs zs):=aV.bel O2.out b3;have na:Hid (∀k,w2.heap.size<=k->(Value.slice ao xs.length ac).ownBlock≠some k/\(Value.slice bo zs.length bc).ownBlock≠some k):=fun k hk=>⟨fun e=>by have:=(O2.out.1.lt _ e).2;omega,fun e=>by have:=(O2.out.2.1.lt _ e).2;omega⟩
 have s3:Hid (StB w3 w2.heap.size 36 zeD/\StB w3 (w2.heap.size+1) 44 (anA ⟨0,[]⟩)):=by
  rw[hw3];have q:=StB.new (w2.alloc (.cells zeD 36)) 44 (anA ⟨0,[]⟩);simp only[World.size_alloc]at q;exact⟨(StB.new w2 _ zeD).alloc _,q⟩
 clear c1 o2 b2 HV m0 m1 m2 O2 b3;go_upto_region 2 with(first
  |(rw[<-hw3];refine ae GI rfl _ _ rfl w2.heap.size #[.slice ao xs.length ac,.slice bo zs.length bc] zeD rfl rfl rfl rfl (cH rfl rfl) s3.out.1 ?_;intro w4 s4 g4;clear hw3)
  |(refine ae GC rfl _ _ rfl (w2.heap.size+1) (anA ⟨0,[]⟩) (anA ⟨0,[]⟩) rfl rfl rfl rfl (aC _) (s3.out.2.kept g4 Fg) ?_;intro w5 s5 g5))
 obtain⟨k6,hk6⟩:=Fe w2.heap.size
 rw[<-hk6]at hk s4 g4 s5 g5 na⊢;have H5:Hid (Vx w w5 (.slice uo xs.length uc) (.slice (some ⟨vb,vf,none⟩) ys.length vc) 291 #[.int .i64 (j:Int),.int .i64 x,.int .i64 y] zeD ⟨0,[]⟩):=(H3.out.grown g4 hk.out).grown g5 (Nat.le_succ_of_le hk.out);have S5:Hid (StB w5 k6 36 #[.slice ao xs.length ac,.slice bo zs.length bc]/\StB w5 (k6+1) 44 (anA ⟨0,[]⟩)):=⟨s4.kept g5 Fg,s5⟩
 have O5:Hid (aV w5 (w.heap.size+4) (.slice ao xs.length ac) (.slice bo zs.length bc) xs zs):=⟨(O3.out.1.kept g4 (.inr (na.out k6 (Nat.le_refl _)).1)).kept g5 (.inr (na.out (k6+1) (Nat.le_succ _)).1),(O3.out.2.1.kept g4 (.inr (na.out k6 (Nat.le_refl _)).2)).kept g5 (.inr (na.out (k6+1) (Nat.le_succ _)).2),O3.out.2.2⟩
 clear hk6 s3 s4 s5 g4 g5 na O3 H3;have t0:w5.cell? ⟨k6+1,0,none⟩=some (.int .i64 (⟨0,[]⟩:An).st):=S5.out.2.cell 0 rfl;have t1:w5.cell? ⟨k6+1,1,none⟩=some (.string ⟨#[]⟩):=S5.out.2.cell 1 rfl;dsimp only at t0;have d0:w5.cell? ⟨w.heap.size,0,none⟩=some (.slice uo xs.length uc):=H5.out.dk.cell 0 rfl;have d1:w5.cell? ⟨w.heap.size,1,none⟩=some (.slice (some ⟨vb,vf,none⟩) ys.length vc):=H5.out.dk.cell 1 rfl;have a0:w5.cell? ⟨w.heap.size+1,0,none⟩=some (.int .i64 (j:Int)):=H5.out.cm.cell 0 rfl;have a1:w5.cell? ⟨w.heap.size+1,1,none⟩=some (.int .i64 x):=H5.out.cm.cell 1 rfl;simp only[Act.put];have zc:w5.cell? ⟨vb,vf+j,none⟩=some (.int .i64 x):=(H5.out.bl.cell (p:=⟨vb,vf+j,none⟩) hvb.out).trans HC.out
 go_quiet (fail)
 obtain⟨w6,hw6⟩:=Fe (w5.drewN nq)
 rw[<-hw6];have H6:Hid (Vx w w6.drew (.slice uo xs.length uc) (.slice (some ⟨vb,vf,none⟩) ys.length vc) 291 #[.int .i64 (j:Int),.int .i64 x,.int .i64 y] zeD ⟨0,[]⟩/\Vx w w6 (.slice uo xs.length uc) (.slice (some ⟨vb,vf,none⟩) ys.length vc) 291 #[.int .i64 (j:Int),.int .i64 x,.int .i64 y] zeD ⟨0,[]⟩):=by
  have e:Vx w w6 (.slice uo xs.length uc) (.slice (some ⟨vb,vf,none⟩) ys.length vc) 291 #[.int .i64 (j:Int),.int .i64 x,.int .i64 y] zeD ⟨0,[]⟩:=by rw[hw6];exact⟨H5.out.dk,H5.out.cm,H5.out.rd,H5.out.ra,below_drewN H5.out.bl nq,H5.out.sz⟩
  exact⟨e.drew,e⟩
 have S6:Hid (StB w6 k6 36 #[.slice ao xs.length ac,.slice bo zs.length bc]/\StB w6 (k6+1) 44 (anA ⟨0,[]⟩)):=by rw[hw6];exact S5.out
 have O6:Hid (aV w6.drew (w.heap.size+4) (.slice ao xs.length ac) (.slice bo zs.length bc) xs zs):=by rw[hw6];exact O5.out
 clear zc H5 S5 O5 t0 t1 d0 d1 a0 a1 hw6;have q0:∀w',Sq w w6 w'->w'.cell? ⟨k6,0,none⟩=some (.slice ao xs.length ac):=fun w' b=>b _ _ (by have:=hk.out;dsimp only;omega) (by have:=hk.out;dsimp only;omega) (S6.out.1.cell 0 rfl)
 have q1:∀w',Sq w w6 w'->w'.cell? ⟨k6,1,none⟩=some (.slice bo zs.length bc):=fun w' b=>b _ _ (by have:=hk.out;dsimp only;omega) (by have:=hk.out;dsimp only;omega) (S6.out.1.cell 1 rfl)
 have q2:∀w',Sq w w6 w'->w'.cell? ⟨k6+1,0,none⟩=some (.int .i64 (⟨0,[]⟩:An).st):=fun w' b=>b _ _ (by have:=hk.out;dsimp only;omega) (by have:=hk.out;dsimp only;omega) (S6.out.2.cell 0 rfl)
 have q3:∀w',Sq w w6 w'->w'.cell? ⟨k6+1,1,none⟩=some (.string ⟨#[]⟩):=fun w' b=>b _ _ (by have:=hk.out;dsimp only;omega) (by have:=hk.out;dsimp only;omega) (S6.out.2.cell 1 rfl)
 dsimp only at q2;have rd0:w6.drew.cell? ⟨w.heap.size+1+1,0,none⟩=some (.slice none 0 0):=H6.out.1.rd.cell 0 rfl;have frd0:=H6.out.1.rd.frozen 0;have rd0':w6.cell? ⟨w.heap.size+1+1,0,none⟩=some (.slice none 0 0):=H6.out.2.rd.cell 0 rfl;have frd0':=H6.out.2.rd.frozen 0;have rd1:w6.drew.cell? ⟨w.heap.size+1+1,1,none⟩=some (.slice none 0 0):=H6.out.1.rd.cell 1 rfl;have frd1:=H6.out.1.rd.frozen 1;have rd1':w6.cell? ⟨w.heap.size+1+1,1,none⟩=some (.slice none 0 0):=H6.out.2.rd.cell 1 rfl;have frd1':=H6.out.2.rd.frozen 1;have ra0:w6.drew.cell? ⟨w.heap.size+1+1+1,0,none⟩=some (.int .i64 0):=H6.out.1.ra.cell 0 rfl;have fra0:=H6.out.1.ra.frozen 0;have ra0':w6.cell? ⟨w.heap.size+1+1+1,0,none⟩=some (.int .i64 0):=H6.out.2.ra.cell 0 rfl;have fra0':=H6.out.2.ra.frozen 0;have ra1:w6.drew.cell? ⟨w.heap.size+1+1+1,1,none⟩=some (.string ⟨#[]⟩):=H6.out.1.ra.cell 1 rfl;have fra1:=H6.out.1.ra.frozen 1;have ra1':w6.cell? ⟨w.heap.size+1+1+1,1,none⟩=some (.string ⟨#[]⟩):=H6.out.2.ra.cell 1 rfl;have fra1':=H6.out.2.ra.frozen 1;go_upto_region 3 with fail
 go_region_held3 (fun w'=>Sq w w6 w') ((repeat'(first|with_reducible assumption|with_reducible exact Sq.refl _ _|with_reducible refine Sq.al ?_|with_reducible refine Sq.dr ?_|with_reducible refine Sq.set2 ?_|with_reducible refine Sq.set3 ?_|with_reducible refine Sq.put2 ?_ (by with_reducible assumption)|with_reducible refine Sq.bel ?_ (by with_reducible assumption)))) (fail)
 all_goals
  go_wp2;have T5:=(H6.out.1.rd.put 0 (.slice ao xs.length ac) rfl).put 1 (.slice bo zs.length bc) (ds:=#[.slice ao xs.length ac,.slice bo zs.length bc]) rfl;have G5:=(ai w6.drew (w.heap.size+1+1) 0 (.slice ao xs.length ac)).trans (ai _ (w.heap.size+1+1) 1 (.slice bo zs.length bc));have T6:=((H6.out.1.ra.kept G5 Fg).put 0 (.int .i64 (⟨0,[]⟩:An).st) rfl).put 1 (S []) (ds:=anA ⟨0,[]⟩) rfl;have G6:=(ai ((w6.drew.setCell ⟨w.heap.size+1+1,0,none⟩ (.slice ao xs.length ac)).setCell ⟨w.heap.size+1+1,1,none⟩ (.slice bo zs.length bc)) (w.heap.size+1+1+1) 0 (.int .i64 (⟨0,[]⟩:An).st)).trans (ai _ (w.heap.size+1+1+1) 1 (S []));refine bodyPost_ret (bg rfl _ _ (w.heap.size+1+1) (w.heap.size+1+1+1) _ _ rfl rfl rfl rfl (T5.kept G6 Fg) T6) rfl ?_;exact⟨_,_,rfl,H6.out.1.fin O6.out.1 O6.out.2.1 (Nat.le_refl _) O6.out.2.2 G5 G6⟩
theorem r8 (u v:Value) (xs ys:List Int) (j:Nat) (x y:Int) (w:World) (h:ag w u xs) (h':ag w v ys) (hb:au xs ys=true) (hp:fy ys (j:Int) y=true) (hj:(j:Int)<(ys.length:Int)) (hx:ys.getD j 0≠x) (ht:Tab w):
  Calls Tryz.prog 254 #[.agg #[u,v],.agg #[.int .i64 (j:Int),.int .i64 x,.int .i64 y]] w fun e w'=>∃a b,e=.returned (.tuple #[.agg #[a,b],AV ⟨2,ce (ys.getD j 0)⟩])/\aV w' w.heap.size a b xs ys/\iO w w':=by
 obtain⟨n1,n8,nl⟩:=cI hb;obtain⟨w1,hw1⟩:=Fe ((((w.alloc (.cells #[u,v] 36)).alloc (.cells #[.int .i64 (j:Int),.int .i64 x,.int .i64 y] 291)).alloc (.cells #[.slice none 0 0,.slice none 0 0] 36)).alloc (.cells #[.int .i64 0,.string ⟨#[]⟩] 44))
 have HV:Hid (Vx w w1 u v 291 #[.int .i64 (j:Int),.int .i64 x,.int .i64 y] zeD ⟨0,[]⟩):=by rw[hw1];exact Vx.start w u v _ _
 have c1:=eF u v xs ys (j:Int) y w1 (h.below HV.out.bl (Nat.le_refl _)) (h'.below HV.out.bl (Nat.le_refl _)) Ff Ff hb;rw[hp,show wrA true=⟨0,[]⟩from rfl]at c1;unfold AV anA S at c1;dsimp only at c1;have hzb:=fx hb j;obtain⟨z,hz1⟩:=Fe (ys.getD j 0)
 rw[<-hz1]at hx hzb⊢;have HL:Hid (1<=xs.length/\xs.length<=8/\ys.length=xs.length/\0<=z/\z<=9999):=⟨n1,n8,nl,hzb⟩
 have HT:Hid (Tab w):=ht;have he1:(z==x)=false:=by simpa using hx
 have he2:decide (z=x)=false:=by simpa using hx
 obtain⟨zs,hz⟩:=Fe (eV ys (j:Int) y)
 simp only[<-hz]at c1;have HX:Hid (ag w u xs/\ag w v ys/\au xs ys=true):=⟨h,h',hb⟩
 have m0:w1.cell? ⟨w.heap.size+1,0,none⟩=some (.int .i64 (j:Int)):=HV.out.cm.cell 0 rfl;have m1:w1.cell? ⟨w.heap.size+1,1,none⟩=some (.int .i64 x):=HV.out.cm.cell 1 rfl;have m2:w1.cell? ⟨w.heap.size+1,2,none⟩=some (.int .i64 y):=HV.out.cm.cell 2 rfl;obtain⟨uo,uc,rfl⟩:=h.form;obtain⟨vo,vc,rfl⟩:=h'.form;obtain⟨-, -, -,hcv⟩:=aL h';obtain⟨vb,vf,rfl,hc0⟩:=hcv j Ff;have hvb:Hid (vb<w.heap.size):=World.block_lt_of_cell? w _ hc0;rw[<-hz1]at hc0;have HC:Hid (w.cell? ⟨vb,vf+j,none⟩=some (.int .i64 z)):=hc0;have HZ:Hid (zs=eV ys (j:Int) y):=hz;have HP:Hid (fy ys (j:Int) y=true):=hp;clear hz1 hzb ht hcv hc0 hb h h' hz n1 n8 nl hp;go_enter Tryz.func254,Tryz.ntmps254;go_upto_region 1 with fail
 rw[<-hw1];clear hw1;go_wp2_with (first|(refine ah GI rfl _ rfl w.heap.size rfl _ rfl HV.out.dk ?_))
 refine c1.mono ?_;rintro e w2 ⟨a,b,rfl,o2,b2⟩;obtain⟨w3,hw3⟩:=Fe ((w2.alloc (.cells #[.slice none 0 0,.slice none 0 0] 36)).alloc (.cells #[.int .i64 0,.string ⟨#[]⟩] 44))
 have b3:iO w2 w3:=by rw[hw3];exact Fc.alloc Fg _
 have hk:Hid (w.heap.size+4<=w2.heap.size):=Nat.le_trans HV.out.sz b2.size;have H3:Hid (Vx w w3 (.slice uo xs.length uc) (.slice (some ⟨vb,vf,none⟩) ys.length vc) 291 #[.int .i64 (j:Int),.int .i64 x,.int .i64 y] zeD ⟨0,[]⟩):=(HV.out.next b2).next b3;obtain⟨ao,ac,rfl⟩:=o2.1.reads.form;obtain⟨bo,bc,rfl⟩:=o2.2.1.reads.form;have O2:Hid (aV w2 (w.heap.size+4) (.slice ao xs.length ac) (.slice bo zs.length bc) xs zs):=o2.mono' HV.out.sz;have O3:Hid (aV w3 (w.heap.size+4) (.slice ao xs.length ac) (.slice bo zs.length bc) xs zs):=aV.bel O2.out b3;have na:Hid (∀k,w2.heap.size<=k->(Value.slice ao xs.length ac).ownBlock≠some k/\(Value.slice bo zs.length bc).ownBlock≠some k):=fun k hk=>⟨fun e=>by have:=(O2.out.1.lt _ e).2;omega,fun e=>by have:=(O2.out.2.1.lt _ e).2;omega⟩
 have s3:Hid (StB w3 w2.heap.size 36 zeD/\StB w3 (w2.heap.size+1) 44 (anA ⟨0,[]⟩)):=by
  rw[hw3];have q:=StB.new (w2.alloc (.cells zeD 36)) 44 (anA ⟨0,[]⟩);simp only[World.size_alloc]at q;exact⟨(StB.new w2 _ zeD).alloc _,q⟩
 clear c1 o2 b2 HV m0 m1 m2 O2 b3;go_upto_region 2 with(first
  |(rw[<-hw3];refine ae GI rfl _ _ rfl w2.heap.size #[.slice ao xs.length ac,.slice bo zs.length bc] zeD rfl rfl rfl rfl (cH rfl rfl) s3.out.1 ?_;intro w4 s4 g4;clear hw3)
  |(refine ae GC rfl _ _ rfl (w2.heap.size+1) (anA ⟨0,[]⟩) (anA ⟨0,[]⟩) rfl rfl rfl rfl (aC _) (s3.out.2.kept g4 Fg) ?_;intro w5 s5 g5))
 obtain⟨k6,hk6⟩:=Fe w2.heap.size
 rw[<-hk6]at hk s4 g4 s5 g5 na⊢;have H5:Hid (Vx w w5 (.slice uo xs.length uc) (.slice (some ⟨vb,vf,none⟩) ys.length vc) 291 #[.int .i64 (j:Int),.int .i64 x,.int .i64 y] zeD ⟨0,[]⟩):=(H3.out.grown g4 hk.out).grown g5 (Nat.le_succ_of_le hk.out);have S5:Hid (StB w5 k6 36 #[.slice ao xs.length ac,.slice bo zs.length bc]/\StB w5 (k6+1) 44 (anA ⟨0,[]⟩)):=⟨s4.kept g5 Fg,s5⟩
 have O5:Hid (aV w5 (w.heap.size+4) (.slice ao xs.length ac) (.slice bo zs.length bc) xs zs):=⟨(O3.out.1.kept g4 (.inr (na.out k6 (Nat.le_refl _)).1)).kept g5 (.inr (na.out (k6+1) (Nat.le_succ _)).1),(O3.out.2.1.kept g4 (.inr (na.out k6 (Nat.le_refl _)).2)).kept g5 (.inr (na.out (k6+1) (Nat.le_succ _)).2),O3.out.2.2⟩
 clear hk6 s3 s4 s5 g4 g5 na O3 H3;have t0:w5.cell? ⟨k6+1,0,none⟩=some (.int .i64 (⟨0,[]⟩:An).st):=S5.out.2.cell 0 rfl;have t1:w5.cell? ⟨k6+1,1,none⟩=some (.string ⟨#[]⟩):=S5.out.2.cell 1 rfl;dsimp only at t0;have d0:w5.cell? ⟨w.heap.size,0,none⟩=some (.slice uo xs.length uc):=H5.out.dk.cell 0 rfl;have d1:w5.cell? ⟨w.heap.size,1,none⟩=some (.slice (some ⟨vb,vf,none⟩) ys.length vc):=H5.out.dk.cell 1 rfl;have a0:w5.cell? ⟨w.heap.size+1,0,none⟩=some (.int .i64 (j:Int)):=H5.out.cm.cell 0 rfl;have a1:w5.cell? ⟨w.heap.size+1,1,none⟩=some (.int .i64 x):=H5.out.cm.cell 1 rfl;simp only[Act.put];have zc:w5.cell? ⟨vb,vf+j,none⟩=some (.int .i64 z):=(H5.out.bl.cell (p:=⟨vb,vf+j,none⟩) hvb.out).trans HC.out
 go_quiet (fail)
 obtain⟨w6,hw6⟩:=Fe (w5.drewN nq)
 rw[<-hw6];have H6:Hid (Vx w w6.drew (.slice uo xs.length uc) (.slice (some ⟨vb,vf,none⟩) ys.length vc) 291 #[.int .i64 (j:Int),.int .i64 x,.int .i64 y] zeD ⟨0,[]⟩/\Vx w w6 (.slice uo xs.length uc) (.slice (some ⟨vb,vf,none⟩) ys.length vc) 291 #[.int .i64 (j:Int),.int .i64 x,.int .i64 y] zeD ⟨0,[]⟩):=by
  have e:Vx w w6 (.slice uo xs.length uc) (.slice (some ⟨vb,vf,none⟩) ys.length vc) 291 #[.int .i64 (j:Int),.int .i64 x,.int .i64 y] zeD ⟨0,[]⟩:=by rw[hw6];exact⟨H5.out.dk,H5.out.cm,H5.out.rd,H5.out.ra,below_drewN H5.out.bl nq,H5.out.sz⟩
  exact⟨e.drew,e⟩
 have S6:Hid (StB w6 k6 36 #[.slice ao xs.length ac,.slice bo zs.length bc]/\StB w6 (k6+1) 44 (anA ⟨0,[]⟩)):=by rw[hw6];exact S5.out
 have O6:Hid (aV w6.drew (w.heap.size+4) (.slice ao xs.length ac) (.slice bo zs.length bc) xs zs):=by rw[hw6];exact O5.out
 clear zc H5 S5 O5 t0 t1 d0 d1 a0 a1 hw6;have FD:Hid (∀w',iO w6 w'->Calls Tryz.prog 111 #[.agg #[.slice uo xs.length uc,.slice (some ⟨vb,vf,none⟩) ys.length vc]] w' fun e w''=>∃a b,e=.returned (.agg (dkA a b))/\aV w'' w'.heap.size a b xs ys/\iO w' w''):=fun w' b=>dJ _ _ xs ys w' ((HX.out.1.below H6.out.2.bl (Nat.le_refl _)).below b (Nat.le_refl _)) ((HX.out.2.1.below H6.out.2.bl (Nat.le_refl _)).below b (Nat.le_refl _)) HL.out.1 (by have:=HL.out;omega) (by have:=HL.out;omega) (by have:=HL.out;omega)
 have CN:Hid (∀u' w',ag w' u' [z]->iO w6 w'->Calls Tryz.prog 76 #[u'] w' fun e w''=>e=.returned (S (ce z))/\iO w' w''):=fun u' w' hr b=>by
  have:=gH u' [z] w' hr Fg Fg (by have:=HL.out;intro x hx;simp at hx;omega) ((HT.out.below H6.out.2.bl).below b);rw[oE]at this;exact this
 obtain⟨d,hd⟩:=Fe (ce z)
 rw[<-hd]at CN;have HD:Hid (d=ce z):=hd;have q0:∀w',Sq w w6 w'->w'.cell? ⟨w.heap.size,0,none⟩=some (.slice uo xs.length uc):=fun w' b=>b _ _ (by simp;try omega) (by simp;try omega) (H6.out.2.dk.cell 0 rfl)
 have q1:∀w',Sq w w6 w'->w'.cell? ⟨w.heap.size,1,none⟩=some (.slice (some ⟨vb,vf,none⟩) ys.length vc):=fun w' b=>b _ _ (by simp;try omega) (by simp;try omega) (H6.out.2.dk.cell 1 rfl)
 have q2:∀w',Sq w w6 w'->w'.cell? ⟨w.heap.size+1,0,none⟩=some (.int .i64 (j:Int)):=fun w' b=>b _ _ (by simp;try omega) (by simp;try omega) (H6.out.2.cm.cell 0 rfl)
 have q3:∀w',Sq w w6 w'->w'.cell? ⟨vb,vf+j,none⟩=some (.int .i64 z):=fun w' b=>b _ _ (by have:=hvb.out;dsimp only;omega) (by have:=hvb.out;dsimp only;omega) ((H6.out.2.bl.cell (p:=⟨vb,vf+j,none⟩) hvb.out).trans HC.out)
 clear hd O6 S6;unfold S at CN;go_upto_region 4 with fail
 go_region_held3 (fun w'=>Sq w w6 w') ((repeat'(first|with_reducible assumption|with_reducible exact Sq.refl _ _|with_reducible refine Sq.al ?_|with_reducible refine Sq.dr ?_|with_reducible refine Sq.set2 ?_|with_reducible refine Sq.set3 ?_|with_reducible refine Sq.put2 ?_ (by with_reducible assumption)|with_reducible refine Sq.bel ?_ (by with_reducible assumption))))
  (first
   |(go_at_call 111;refine(FD.out _ cC).mono ?_;rintro e w7 ⟨a',b',rfl,o7,b7⟩;obtain⟨ao',ac',rfl⟩:=o7.1.reads.form;obtain⟨bo',bc',rfl⟩:=o7.2.1.reads.form;have O7:Hid (aV w7 _ (.slice ao' xs.length ac') (.slice bo' ys.length bc') xs ys):=o7;clear o7)
   |(go_at_call 76;refine(CN.out _ _ (by repeat'(first|(with_reducible refine oF _ _ Fg)|(with_reducible refine ag.al ?_)|(with_reducible refine ag.dr ?_)|(with_reducible refine ag.bel ?_ (by with_reducible assumption)))) cC).mono ?_;rintro e w8 ⟨rfl,b8⟩)
   |((with_reducible show Oper.upon _ _ _ _ _ (Result.andThen (Sem.run _ (storeCells _ (dkA _ _).toList) _) _));have H8:Hid (Vx w w8 (.slice uo xs.length uc) (.slice (some ⟨vb,vf,none⟩) ys.length vc) 291 #[.int .i64 (j:Int),.int .i64 x,.int .i64 y] zeD ⟨0,[]⟩/\aV w8 (w.heap.size+4) (.slice ao' xs.length ac') (.slice bo' ys.length bc') xs ys):=⟨H6.out.2.next cC,aV.mono' (aV.bel O7.out cC) (Nat.le_trans H6.out.2.sz (pq cC))⟩;refine gn (w.heap.size+1+1) 36 (dkA (.slice ao' xs.length ac') (.slice bo' ys.length bc')) zeD rfl (cH rfl rfl) H8.out.1.rd ?_;intro w9 s9 g9;have ra:=H8.out.1.ra.kept g9 Fg;have r0:w9.cell? ⟨w.heap.size+1+1+1,0,none⟩=some (.int .i64 0):=ra.cell 0 rfl;have r1:w9.cell? ⟨w.heap.size+1+1+1,1,none⟩=some (.string ⟨#[]⟩):=ra.cell 1 rfl;have f0:=ra.frozen 0;have f1:=ra.frozen 1))
 all_goals
  go_wp2;have S7:=(ra.put 0 (.int .i64 2) rfl).put 1 (S d) (ds:=anA ⟨2,d⟩) rfl;have G7:=(ai w9 (w.heap.size+1+1+1) 0 (.int .i64 2)).trans (ai _ (w.heap.size+1+1+1) 1 (S d));refine bodyPost_ret (bg rfl _ _ (w.heap.size+1+1) (w.heap.size+1+1+1) _ _ rfl rfl rfl rfl (s9.kept G7 Fg) S7) rfl ?_;rw[<-HD.out];exact⟨_,_,rfl,H8.out.1.fin H8.out.2.1 H8.out.2.2.1 (Nat.le_refl _) H8.out.2.2.2 g9 G7⟩
end Go.Proofs.YthldeiojlllkdaaGreatDoor
