/- Houses by the model: Asked. -/
import Derived.Test.YthldeiojlllkdaaGreatDoorM20
import Derived.LaidEql
import Derived.Stop.Asserts
import Derived.RowKitTokens
set_option maxRecDepth 20000
set_option maxHeartbeats 8000000
namespace Go.Proofs.YthldeiojlllkdaaGreatDoor
open Go.ChangeShapes Go.WideShapes Go.ChangeAt Go.RowKit
theorem StB.hop {w w':World} {g off r:Nat} {t s:TypeId} {cs cs' ds:Array Value} {a b k q z:Value} {n:Nd} {L':List Nat} (h:StB w r s ds) (H:Hs w g off t cs a b k q z n) (O:Hop w w' g off cs cs' (dE a b k q z) L') (hr:r≠g) (ty:s≠2):StB w' r s ds:=
 h.turned O.tu (fun e=>by
  rcases List.mem_cons.1 e with e|e
  ·exact hr e
  ·rcases nV.1 e with e|e|e|e|e
   ·exact H.ow.oa.ne h ty (by simpa[blk]using e)
   ·exact H.ow.ob.ne h ty (by simpa[blk]using e)
   ·exact H.ow.ok.ne h ty (by simpa[blk]using e)
   ·exact H.ow.oq.ne h ty (by simpa[blk]using e)
   ·exact H.ow.oz.ne h ty (by simpa[blk]using e))
theorem cG.putBy {w w':World} {base g:Nat} {a b k q z:Value} {n:Nd} {t:TypeId} {cs:Array Value} (h:cG w base a b k q z n) (s:StB w g t cs) (ty:t≠2) (G:w.grownBy w' (some g)):cG w' base a b k q z n:=
 ⟨h.oa.putBy s ty G,h.ob.putBy s ty G,h.ok.putBy s ty G,h.oq.putBy s ty G,h.oz.putBy s ty G,h.ap⟩
theorem xq (a b k q z:Value) (n:Nd) (i:Int) (bs:Bs) (w:World) (hr:RdN w a b k q z n) (hl:SmN n) (hb:bs.length<=1048576):
  Calls Tryz.prog 5 #[NdV a b k q z n,.int .i64 i,S bs] w fun e w'=>∃a' b' k' q' z',e=.returned (.tuple #[NdV a' b' k' q' z' (n.Ask i bs).1,AV (n.Ask i bs).2])/\cG w' w.heap.size a' b' k' q' z' (n.Ask i bs).1/\iO w w':=by
 have HR:Hid (∀wx,iO w wx->RdN wx a b k q z n):=fun wx B=>hr.below B
 have CN:Hid (∀wx,iO w wx->Calls Tryz.prog 16 #[NdV a b k q z n] wx fun e w'=>e=.returned (.bool n.ok)/\iO wx w'):=fun wx B=>uQ a b k q z n wx (HR.out wx B) hl
 have CF:Hid (∀wx,iO w wx->Calls Tryz.prog 17 #[NdV a b k q z n] wx fun e w'=>∃a' b' k' q' z',e=.returned (NdV a' b' k' q' z' n)/\cG w' wx.heap.size a' b' k' q' z' n/\iO wx w'):=fun wx B=>xp a b k q z n wx (HR.out wx B) hl
 have HE:Hid (n.Ask i bs=if n.ok then n.ask i bs else(Nd.zero,⟨7,[]⟩)):=rfl;obtain⟨x,hx⟩:=Fe (n.Ask i bs)
 rw[<-hx]at HE⊢;clear hx;obtain⟨ao,ac,rfl⟩:=aa hr.ra;obtain⟨bo,bc,rfl⟩:=aa hr.rb;obtain⟨ko,kc,rfl⟩:=aa hr.rk;obtain⟨qo,qc,rfl⟩:=aa hr.rq;obtain⟨zo,zc,rfl⟩:=aa hr.rz;obtain⟨w1,hw1⟩:=Fe (((w.alloc (.cells (ndA (.slice ao n.xs.length ac) (.slice bo n.ys.length bc) (.slice ko n.h.ks.length kc) (.slice qo n.c.ts.length qc) (.slice zo n.s.ts.length zc) n) 42)).alloc (.cells aA 42)).alloc (.cells (anA ⟨0,[]⟩) 44))
 have HF:Hid (FS w w1 (Fk ao ac bo bc ko kc qo qc zo zc n)/\StB w1 (w.heap.size+1+1) 44 (anA ⟨0,[]⟩)):=by
  have s2:=StB.new ((w.alloc (.cells (ndA (.slice ao n.xs.length ac) (.slice bo n.ys.length bc) (.slice ko n.h.ks.length kc) (.slice qo n.c.ts.length qc) (.slice zo n.s.ts.length zc) n) 42)).alloc (.cells aA 42)) 44 (anA ⟨0,[]⟩);rw[World.size_alloc,World.size_alloc]at s2;rw[hw1];exact⟨(FS.start w _).below Fc,s2⟩
 clear hr HR;unfold ndA aA anA S at hw1;unfold NdV at CN CF;conv in NdV (.slice ao n.xs.length ac) _ _ _ _ _=>unfold NdV ndA S
 conv in S bs=>unfold S
 go_enter Tryz.func5,Tryz.ntmps5;go_upto_region 1 with fail
 rw[<-hw1];clear hw1;go_wp2_with (refine ah GO rfl _ rfl w.heap.size rfl (Fk ao ac bo bc ko kc qo qc zo zc n) rfl HF.out.1.p ?_)
 refine(CN.out w1 HF.out.1.b).mono ?_;rintro e w2 ⟨rfl,b2⟩;replace HF:Hid (FS w w2 (Fk ao ac bo bc ko kc qo qc zo zc n)/\StB w2 (w.heap.size+1+1) 44 (anA ⟨0,[]⟩)):=⟨HF.out.1.below b2,HF.out.2.below b2⟩
 clear b2 CN hl;cases hk:n.ok with
 |false=>
  have HX:Hid (x=(Nd.zero,⟨7,[]⟩)):=by rw[Hid,HE.out,hk];rfl
  clear HE CF hk;go_wp2_with (first|(refine ae GO rfl _ _ rfl (w.heap.size+1) aA aA rfl rfl rfl rfl pd HF.out.1.r ?_;intro w19 s19 g19)|(refine ae GC rfl _ _ rfl (w.heap.size+1+1) (anA ⟨7,[]⟩) (anA ⟨0,[]⟩) rfl rfl rfl rfl (aC _) (HF.out.2.kept g19 Fg) ?_;intro w20 s20 g20))
  refine bodyPost_ret (db rfl _ _ (w.heap.size+1) (w.heap.size+1+1) _ _ rfl rfl rfl rfl (s19.kept g20 Fg) s20) rfl ?_;rw[HX.out];have bb:=HF.out.1.b.grown g19 HF.out.1.b.size (fun k e=>by cases e;omega);exact⟨_,_,_,_,_,rfl,cG.nil _ _,bb.grown g20 bb.size (fun k e=>by cases e;omega)⟩
 |true=>
  have HK:Hid (n.ok=true):=hk;have HX:Hid (x=n.ask i bs):=by rw[Hid,HE.out,hk];rfl
  clear HE hk;go_wp2_with (refine ah GO rfl _ rfl w.heap.size rfl (Fk ao ac bo bc ko kc qo qc zo zc n) rfl HF.out.1.p ?_)
  refine(CF.out w2 HF.out.1.b).mono ?_;rintro e w3 ⟨a',b',k',q',z',rfl,o3,b3⟩;obtain⟨a1,a2,rfl⟩:=aa o3.oa.reads;obtain⟨b1,b2,rfl⟩:=aa o3.ob.reads;obtain⟨k1,k2,rfl⟩:=aa o3.ok.reads;obtain⟨q1,q2,rfl⟩:=aa o3.oq.reads;obtain⟨z1,z2,rfl⟩:=aa o3.oz.reads;have O:Hid (cG w3 (w.heap.size+2) (.slice a1 n.xs.length a2) (.slice b1 n.ys.length b2) (.slice k1 n.h.ks.length k2) (.slice q1 n.c.ts.length q2) (.slice z1 n.s.ts.length z2) n):=o3.mono HF.out.1.lt;replace HF:Hid (FS w w3 (Fk ao ac bo bc ko kc qo qc zo zc n)/\StB w3 (w.heap.size+1+1) 44 (anA ⟨0,[]⟩)):=⟨HF.out.1.below b3,HF.out.2.below b3⟩
  clear o3 b3 CF;have q3:StB (w3.alloc (.cells aA 42)) w3.heap.size 42 aA:=StB.new w3 _ _;go_upto_region 4 with(refine ae GO rfl _ _ rfl w3.heap.size (Fk a1 a2 b1 b2 k1 k2 q1 q2 z1 z2 n) aA rfl rfl rfl rfl (cP n rfl rfl rfl rfl rfl) q3 ?_;intro w4 s4 g4)
  have b4:iO w3 w4:=Fc.grown g4 Fg (fun k e=>by cases e;omega);have HC:Hid (CS w w4 (Fk ao ac bo bc ko kc qo qc zo zc n) w3.heap.size (Fk a1 a2 b1 b2 k1 k2 q1 q2 z1 z2 n) (.slice a1 n.xs.length a2) (.slice b1 n.ys.length b2) (.slice k1 n.h.ks.length k2) (.slice q1 n.c.ts.length q2) (.slice z1 n.s.ts.length z2) n/\StB w4 (w.heap.size+1+1) 44 (anA ⟨0,[]⟩)/\w.heap.size+1+1≠w3.heap.size):=⟨CS.start HF.out.1 O.out s4 g4,HF.out.2.below b4,by have:=HF.out.2.lt;omega⟩
  clear q3 s4 g4 HF O b4;simp only[Act.put];obtain⟨g,hg⟩:=Fe w3.heap.size
  rw[<-hg]at HC⊢;clear hg;have c5:=BD g 0 42 _ _ _ _ _ _ n i bs w4 HC.out.1.hs ((Nd.ok_iff n).1 HK.out) hb;obtain⟨m,hm⟩:=Fe ((n.ask i bs).1)
  obtain⟨yA,hy⟩:=Fe ((n.ask i bs).2)
  rw[<-hy,<-hm]at c5;have HY:Hid (x=(m,yA)):=by rw[Hid,HX.out,hm,hy]
  clear hm hy HX HK hb;unfold S AV anA at c5;go_wp2_with fail
  refine c5.mono ?_;rintro e w5 ⟨rfl,cs5,a5,b5,k5,q5,z5,H5,O5⟩;have HC5:Hid (CS w w5 (Fk ao ac bo bc ko kc qo qc zo zc n) g cs5 a5 b5 k5 q5 z5 m/\StB w5 (w.heap.size+1+1) 44 (anA ⟨0,[]⟩)/\w.heap.size+1+1≠g):=⟨HC.out.1.hop H5 O5,HC.out.2.1.hop HC.out.1.hs O5 HC.out.2.2 Fh,HC.out.2.2⟩
  clear c5 H5 O5 HC;have q5':StB (w5.alloc (.cells (anA ⟨0,[]⟩) 44)) w5.heap.size 44 (anA ⟨0,[]⟩):=StB.new w5 _ _;go_upto_region 5 with(refine ae GC rfl _ _ rfl w5.heap.size (anA yA) (anA ⟨0,[]⟩) rfl rfl rfl rfl (aC yA) q5' ?_;intro w6 s6 g6)
  (try simp only[Act.put])
  have b6:iO w5 w6:=Fc.grown g6 Fg (fun k e=>by cases e;omega);have HC6:Hid (CS w w6 (Fk ao ac bo bc ko kc qo qc zo zc n) g cs5 a5 b5 k5 q5 z5 m/\StB w6 (w.heap.size+1+1) 44 (anA ⟨0,[]⟩)/\StB w6 w5.heap.size 44 (anA yA)/\w.heap.size+1+1<w5.heap.size):=⟨HC5.out.1.below b6,HC5.out.2.1.below b6,s6,HC5.out.2.1.lt⟩
  clear q5' s6 g6 b6 HC5;obtain⟨g9,hg9⟩:=Fe w5.heap.size
  rw[<-hg9]at HC6⊢;clear hg9;obtain⟨C,hCd⟩:=Fe (fun x=>iO w6 x)
  have HQ:Hid (∀x,C x->iO w6 x):=by rw[hCd];exact fun _ h=>h
  have HN:Hid (∀x y,C x->dQ x y->C y):=by rw[hCd];exact fun _ _ h b=>h.trans (b.mono h.size)
  have H0:Hid (C w6.drew):=by rw[hCd];exact(Below.refl _ _).drew
  have hne:Nonempty (Kin C):=⟨⟨_,H0.out⟩⟩
  clear hCd;refine du (fun a=>a.eval (.tmp 9)=.pointer (some ⟨g9,0,none⟩)) (fun x y=>x.grownBy y (some (w.heap.size+1))) (C:=C) (E:=iN fun _=>none) (R:=dQ) HN.out (dY (by intro d s hs;cases hs)) 1 _ _ (dZ _ _) Fi Fi Fi Fi Fg Fg rfl rfl rfl rfl rfl (xY Fi) rfl (fun a x y v ja cx dd hq=>iC GC _ rfl g9 ja (anA yA) rfl (HC6.out.2.2.1.below (HQ.out _ cx)) ((HC6.out.2.2.1.below (HQ.out _ cx)).kept dd (by simp;have:=HC6.out.2.2.2;omega)) hq) (fun _=>rfl) (fun a v=>execOp_put (ops:=#[]) _ (by intro cs b h;cases h) a _ v (by intro d hd;cases hd;decide)) H0.out ?_;refine dz GO rfl Fj _ rfl g rfl (ndA a5 b5 k5 q5 z5 m) rfl (fun y=>HC6.out.1.whole.below (HQ.out _ y.h)) ?_;refine dz GC rfl Fj _ rfl g9 rfl (anA yA) rfl (fun y=>HC6.out.2.2.1.below (HQ.out _ y.h)) ?_;refine i8 (fun w16 hz=>?_);have bz:=HQ.out _ hz.1;refine gC GO _ _ rfl (w.heap.size+1) (ndA a5 b5 k5 q5 z5 m) aA rfl rfl rfl rfl HC6.out.1.own.one (HC6.out.1.f.r.below bz) ?_;intro w17 s17 g17;refine⟨g17,?_⟩;refine fH GC rfl rfl _ _ rfl (w.heap.size+1+1) (anA yA) (anA ⟨0,[]⟩) rfl rfl rfl rfl (aC _) ((HC6.out.2.1.below bz).kept g17 Fg) ?_;intro w18 s18 g18;go_wp2_with fail
  refine bodyPost_ret (db rfl _ _ (w.heap.size+1) (w.heap.size+1+1) _ _ rfl rfl rfl rfl (s17.kept g18 Fg) s18) rfl ?_;rw[HY.out];have bb:=(HC6.out.1.f.below bz).b.grown g17 (HC6.out.1.f.below bz).b.size (fun k e=>by cases e;omega);exact⟨_,_,_,_,_,rfl,(((HC6.out.1.below bz).own.keptLt g17 Ff).putBy ((HC6.out.2.1.below bz).kept g17 Fg) Fh g18).mono Ff,bb.grown g18 bb.size (fun k e=>by cases e;omega)⟩
section
open Go.ChangeShapes Go.WideShapes Go.ChangeAt Go.RowKit Go.Extern
theorem GT (v:Value) (w:World):(Extern.ReflectliteType.typeOf #[.iface 328 v]).run Tryz.prog w=.ok (.iface 256 (.agg #[.pointer (some ⟨11,328,none⟩)])) w:=by kernel_rfl
theorem GG (w:World):((Extern.ReflectliteType.method fun t=>do Rtype.noPackHeld "Comparable" t;pure (.bool (<-typeInfo t).comparable)) #[.agg #[.pointer (some ⟨11,328,none⟩)]]).run Tryz.prog w=.ok (.bool true) w:=by kernel_rfl
theorem GN (v:Value) (w:World):(Go.method 464 256 v "Comparable").run Tryz.prog w=.ok (326,v) w:=by kernel_rfl
theorem Gf (v:Value) (w:World):(callFunc 200 #[.iface 328 v]).run Tryz.prog w=.ok (.value (.iface 256 (.agg #[.pointer (some ⟨11,328,none⟩)]))) w:=by
 rw[@run_callFunc_extern Tryz.prog 200 _ Extern.ReflectliteType.typeOf Tryz.func200 Fi Fi Fi Fi,GT];rfl
theorem Ge (w:World):(callFunc 326 #[.agg #[.pointer (some ⟨11,328,none⟩)]]).run Tryz.prog w=.ok (.value (.bool true)) w:=by
 rw[@run_callFunc_extern Tryz.prog 326 _ (Extern.ReflectliteType.method fun t=>do Rtype.noPackHeld "Comparable" t;pure (.bool (<-typeInfo t).comparable)) Tryz.func326 Fi Fi Fi Fi,GG];rfl
theorem GF:(Tryz.prog.info? 328).map (·.comparable)=some true:=by kernel_rfl
theorem GR:(Tryz.prog.info? 348).map (·.size)=some 1:=by kernel_rfl
theorem Hh (v:Value) (xT:TypeId) (w:World):(Instr.typeAssert (.iface 328 v) xT 258 true).run Tryz.prog w=.ok (.tuple #[.nilIface,.bool false]) w:=run_typeAssert_lacksB Tryz.underlying258 Fi Fi v xT w
theorem Hj (v:Value) (xT:TypeId) (w:World):(Instr.typeAssert (.iface 328 v) xT 261 true).run Tryz.prog w=.ok (.tuple #[.nilIface,.bool false]) w:=run_typeAssert_lacksB Tryz.underlying261 Fi Fi v xT w
theorem Hk (v:Value) (xT:TypeId) (w:World):(Instr.typeAssert (.iface 328 v) xT 263 true).run Tryz.prog w=.ok (.tuple #[.nilIface,.bool false]) w:=run_typeAssert_lacksB Tryz.underlying263 Fi Fi v xT w
theorem Hi (v:Value) (xT:TypeId) (w:World):(Instr.typeAssert (.iface 183 v) xT 258 true).run Tryz.prog w=.ok (.tuple #[.nilIface,.bool false]) w:=run_typeAssert_lacksB Tryz.underlying258 Fi Fi v xT w
theorem Gv (v:Value) (xT:TypeId) (w:World):(Instr.typeAssert (.iface 183 v) xT 261 true).run Tryz.prog w=.ok (.tuple #[.iface 183 v,.bool true]) w:=run_typeAssert_hasB Tryz.underlying261 Fi v xT w
theorem Hb (v:Value) (w:World):(Go.method 464 183 v "Unwrap").run Tryz.prog w=.ok (318,v) w:=by kernel_rfl
theorem mF (x y:Value) (w:World):Calls Tryz.prog 318 #[.agg #[x,y]] w fun e w'=>e=.returned x/\w'=w.alloc (.cells #[x,y] 183):=by
 go_enter Tryz.func318,Tryz.ntmps318;go_wp2;go_ret;exact⟨rfl,rfl⟩
theorem Cq (b:Addr) (y:Value) (w:World):
  Calls Tryz.prog 162 #[.iface 183 (.agg #[.iface 328 (.pointer (some b)),y]),.iface 328 (.pointer (some b))] w fun e w'=>e=.returned (.bool true)/\iO w w':=by
 obtain⟨i,hi,hcmp⟩:=Option.map_eq_some_iff.1 GF;obtain⟨j,hj,hjs⟩:=Option.map_eq_some_iff.1 GR;have tT:=Gf;have cT:=Ge;have mR:=GN;have nE:=Hh;have uE:=Hj;have vE:=Hk;have nW:=Hi;have uW:=Gv;have mU:=Hb;have B1:Hid (iO w (w.alloc (.cells #[.iface 328 (.pointer (some b)),y] 183))):=Fc;have heq:=fun w=>run_eql_iface_ptr_same (P:=Tryz.prog) w b Tryz.underlying135 Tryz.underlying328 hi hcmp hj
 have hty:=run_eql_iface_types (P:=Tryz.prog) 183 328 (.agg #[.iface 328 (.pointer (some b)),y]) (.pointer (some b)) Tryz.underlying135 Fh w;clear hi hcmp hj hjs;go_enter Tryz.func162,Tryz.ntmps162;go_wp2_with (go_at_call 201;go_in)
 refine wp_loop_rounds 2 ?_;rw[rounds_succ];go_wp2_with (go_at_call 318;refine(mF _ _ _).mono ?_;rintro e w' ⟨rfl,rfl⟩)
 rw[rounds_succ];go_wp2;go_ret;exact⟨rfl,B1.out⟩
theorem AL (a b:Addr) (y:Value) (ca cb:Array Value) (ta tb:TypeId) (w:World) (hne:a≠b) (ha:w.heap[a.block]?=some (.cells ca ta (0,0))) (hb:w.heap[b.block]?=some (.cells cb tb (0,0))):
  Calls Tryz.prog 162 #[.iface 183 (.agg #[.iface 328 (.pointer (some a)),y]),.iface 328 (.pointer (some b))] w fun e w'=>e=.returned (.bool false)/\iO w w':=by
 obtain⟨i,hi,hcmp⟩:=Option.map_eq_some_iff.1 GF;obtain⟨j,hj,hjs⟩:=Option.map_eq_some_iff.1 GR;have tT:=Gf;have cT:=Ge;have mR:=GN;have nE:=Hh;have uE:=Hj;have vE:=Hk;have nW:=Hi;have uW:=Gv;have mU:=Hb;have B1:Hid (iO w (w.alloc (.cells #[.iface 328 (.pointer (some a)),y] 183))):=Fc;have la:a.block<w.heap.size:=by
  rcases Nat.lt_or_ge a.block w.heap.size with h|h
  ·exact h
  ·rw[Array.getElem?_eq_none h]at ha;cases ha
 have lb:b.block<w.heap.size:=by
  rcases Nat.lt_or_ge b.block w.heap.size with h|h
  ·exact h
  ·rw[Array.getElem?_eq_none h]at hb;cases hb
 have heq:=run_eql_iface_ptr_other (P:=Tryz.prog) (w.alloc (.cells #[.iface 328 (.pointer (some a)),y] 183)) Tryz.underlying135 Tryz.underlying328 hi hcmp hj (by rw[hjs];decide) hne (by rw[B1.out.block _ la];exact ha) (by rw[B1.out.block _ lb];exact hb);clear ha hb la lb hne;have hty:=run_eql_iface_types (P:=Tryz.prog) 183 328 (.agg #[.iface 328 (.pointer (some a)),y]) (.pointer (some b)) Tryz.underlying135 Fh w;clear hi hcmp hj hjs;go_enter Tryz.func162,Tryz.ntmps162;go_wp2_with (go_at_call 201;go_in)
 refine wp_loop_rounds 2 ?_;rw[rounds_succ];go_wp2_with (go_at_call 318;refine(mF _ _ _).mono ?_;rintro e w' ⟨rfl,rfl⟩)
 rw[rounds_succ];go_wp2;go_ret;exact⟨rfl,B1.out⟩
end
section
open Go.ChangeShapes Go.WideShapes Go.ChangeAt Go.RowKit Go.Extern
theorem FX (t:Addr) (w:World):(callFunc 202 #[.iface 185 (.pointer (some t))]).run Tryz.prog w
  =.ok (.value (.agg #[.pointer (some ⟨11,185,none⟩),.pointer (some ⟨w.heap.size,0,none⟩),.int .u64 150])) (w.alloc (.cells #[.pointer (some t)] 185)):=by
 rw[@run_callFunc_extern Tryz.prog 202 _ (fun args=>ReflectliteValue.unpack (args.getD 0 (.tuple #[]))) Tryz.func202 Fi Fi Fi Fi];rw[show(ReflectliteValue.unpack ((#[.iface 185 (.pointer (some t))]:Array Value).getD 0 (.tuple #[]))).run Tryz.prog w=.ok (.agg #[.pointer (some ⟨11,185,none⟩),.pointer (some ⟨w.heap.size,0,none⟩),.int .u64 150]) (w.alloc (.cells #[.pointer (some t)] 185)) by kernel_rfl];rfl
theorem FV (a:Addr) (w:World):(callFunc 203 #[.agg #[.pointer (some ⟨11,185,none⟩),.pointer (some a),.int .u64 150]]).run Tryz.prog w
  =.ok (.value (.iface 256 (.agg #[.pointer (some ⟨11,185,none⟩)]))) w:=by
 rw[@run_callFunc_extern Tryz.prog 203 _ (ReflectliteValue.methodAny (ReflectliteValue.valueError "reflectlite.Value.Type" 0) (fun t _ _ _=>ReflectliteType.toType t)) Tryz.func203 Fi Fi Fi Fi];rw[show(ReflectliteValue.methodAny (ReflectliteValue.valueError "reflectlite.Value.Type" 0) (fun t _ _ _=>ReflectliteType.toType t) #[.agg #[.pointer (some ⟨11,185,none⟩),.pointer (some a),.int .u64 150]]).run Tryz.prog w=.ok (.iface 256 (.agg #[.pointer (some ⟨11,185,none⟩)])) w by kernel_rfl];rfl
theorem FC (h:Value) (w:World):(Go.method 464 256 (.agg #[h]) "Kind").run Tryz.prog w=.ok (306,h) w:=by kernel_rfl
theorem Fw (w:World):(callFunc 306 #[.pointer (some ⟨11,185,none⟩)]).run Tryz.prog w=.ok (.value (.int .u8 22)) w:=by
 rw[@run_callFunc_extern Tryz.prog 306 _ (ReflectliteType.abiMethod fun t=>do pure (.int .u8 (<-Rtype.kind t))) Tryz.func306 Fi Fi Fi Fi];rw[show((ReflectliteType.abiMethod fun t=>do pure (.int .u8 (<-Rtype.kind t))) #[.pointer (some ⟨11,185,none⟩)]).run Tryz.prog w=.ok (.int .u8 22) w by kernel_rfl];rfl
theorem Fx (w:World):(callFunc 306 #[.pointer (some ⟨11,183,none⟩)]).run Tryz.prog w=.ok (.value (.int .u8 25)) w:=by
 rw[@run_callFunc_extern Tryz.prog 306 _ (ReflectliteType.abiMethod fun t=>do pure (.int .u8 (<-Rtype.kind t))) Tryz.func306 Fi Fi Fi Fi];rw[show((ReflectliteType.abiMethod fun t=>do pure (.int .u8 (<-Rtype.kind t))) #[.pointer (some ⟨11,183,none⟩)]).run Tryz.prog w=.ok (.int .u8 25) w by kernel_rfl];rfl
theorem rlm (z:Sem Value) (f:TypeId->Addr->Nat->Nat->Sem Value) (v:Value):
  ReflectliteValue.method z f #[v]=(do match<-ReflectliteValue.parts v with|none=>z|some (t,a,fl)=>f t a fl (fl%32)):=rfl
theorem FL (a:Addr) (w:World):(ReflectliteValue.parts (.agg #[.pointer (some ⟨11,185,none⟩),.pointer (some a),.int .u64 150])).run Tryz.prog w=.ok (some (185,a,150)) w:=by kernel_rfl
theorem Fv (a p:Addr) (W:World) (ha:W.cell? a=some (.pointer (some p))):
  (callFunc 204 #[.agg #[.pointer (some ⟨11,185,none⟩),.pointer (some a),.int .u64 150]]).run Tryz.prog W=.ok (.value (.bool false)) W:=by
 rw[@run_callFunc_extern Tryz.prog 204 _ (ReflectliteValue.method (ReflectliteValue.valueError "reflectlite.Value.IsNil" 0) ReflectliteValue.isNil) Tryz.func204 Fi Fi Fi Fi];rw[rlm];simp only[Sem.run_bind,FL,Result.andThen];simp[ReflectliteValue.isNil,loadVar,isAgg,underlying,Tryz.underlying185,ha,Result.andThen]
theorem FA (h:Value) (w:World):(Go.method 464 256 (.agg #[h]) "Elem").run Tryz.prog w=.ok (327,.agg #[h]) w:=by kernel_rfl
theorem FB (h:Value) (w:World):(Go.method 464 256 (.agg #[h]) "Implements").run Tryz.prog w=.ok (328,.agg #[h]) w:=by kernel_rfl
theorem Fz (h:Value) (w:World):(Go.method 464 256 (.agg #[h]) "AssignableTo").run Tryz.prog w=.ok (325,.agg #[h]) w:=by kernel_rfl
theorem Fq (w:World):(callFunc 327 #[.agg #[.pointer (some ⟨11,185,none⟩)]]).run Tryz.prog w=.ok (.value (.iface 256 (.agg #[.pointer (some ⟨11,183,none⟩)]))) w:=by
 rw[@run_callFunc_extern Tryz.prog 327 _ (ReflectliteType.method ReflectliteType.elem) Tryz.func327 Fi Fi Fi Fi];rw[show(ReflectliteType.method ReflectliteType.elem #[.agg #[.pointer (some ⟨11,185,none⟩)]]).run Tryz.prog w=.ok (.iface 256 (.agg #[.pointer (some ⟨11,183,none⟩)])) w by kernel_rfl];rfl
theorem Ft (w:World):(callFunc 328 #[.agg #[.pointer (some ⟨11,183,none⟩)],.iface 256 (.agg #[.pointer (some ⟨11,135,none⟩)])]).run Tryz.prog w=.ok (.value (.bool true)) w:=by
 rw[@run_callFunc_extern Tryz.prog 328 _ (ReflectliteType.relation "Implements" ReflectliteType.implements_) Tryz.func328 Fi Fi Fi Fi];rw[show(ReflectliteType.relation "Implements" ReflectliteType.implements_ #[.agg #[.pointer (some ⟨11,183,none⟩)],.iface 256 (.agg #[.pointer (some ⟨11,135,none⟩)])]).run Tryz.prog w=.ok (.bool true) w by kernel_rfl];rfl
theorem FW (v:Value) (w:World):(callFunc 200 #[.iface 183 v]).run Tryz.prog w=.ok (.value (.iface 256 (.agg #[.pointer (some ⟨11,183,none⟩)]))) w:=by
 rw[@run_callFunc_extern Tryz.prog 200 _ Extern.ReflectliteType.typeOf Tryz.func200 Fi Fi Fi Fi];rw[show(Extern.ReflectliteType.typeOf #[.iface 183 v]).run Tryz.prog w=.ok (.iface 256 (.agg #[.pointer (some ⟨11,183,none⟩)])) w by kernel_rfl];rfl
theorem Fm (w:World):(callFunc 325 #[.agg #[.pointer (some ⟨11,183,none⟩)],.iface 256 (.agg #[.pointer (some ⟨11,183,none⟩)])]).run Tryz.prog w=.ok (.value (.bool true)) w:=by
 rw[@run_callFunc_extern Tryz.prog 325 _ (ReflectliteType.relation "AssignableTo" ReflectliteType.assignableTo) Tryz.func325 Fi Fi Fi Fi];rw[show(ReflectliteType.relation "AssignableTo" ReflectliteType.assignableTo #[.agg #[.pointer (some ⟨11,183,none⟩)],.iface 256 (.agg #[.pointer (some ⟨11,183,none⟩)])]).run Tryz.prog w=.ok (.bool true) w by kernel_rfl];rfl
theorem FY (t:TypeId) (p:Value) (s:ByteArray) (w:World):(callFunc 202 #[.iface 183 (.agg #[.iface t p,.string s])]).run Tryz.prog w
  =.ok (.value (.agg #[.pointer (some ⟨11,183,none⟩),.pointer (some ⟨w.heap.size,0,none⟩),.int .u64 153])) (w.alloc (.cells #[.iface t p,.string s] 183)):=by
 rw[@run_callFunc_extern Tryz.prog 202 _ (fun args=>ReflectliteValue.unpack (args.getD 0 (.tuple #[]))) Tryz.func202 Fi Fi Fi Fi];rw[show(ReflectliteValue.unpack ((#[.iface 183 (.agg #[.iface t p,.string s])]:Array Value).getD 0 (.tuple #[]))).run Tryz.prog w=.ok (.agg #[.pointer (some ⟨11,183,none⟩),.pointer (some ⟨w.heap.size,0,none⟩),.int .u64 153]) (w.alloc (.cells #[.iface t p,.string s] 183)) by kernel_rfl];rfl
theorem Fp (w:World):(Rtype.elem? 185).run Tryz.prog w=.ok (some 183) w:=by kernel_rfl
theorem FE (p:Addr) (w:World):(ReflectliteValue.mk 183 p ReflectliteValue.flagAddr).run Tryz.prog w=.ok (.agg #[.pointer (some ⟨11,183,none⟩),.pointer (some p),.int .u64 409]) w:=by kernel_rfl
theorem Fs (a p:Addr) (W:World) (ha:W.cell? a=some (.pointer (some p))):
  (callFunc 239 #[.agg #[.pointer (some ⟨11,185,none⟩),.pointer (some a),.int .u64 150]]).run Tryz.prog W
   =.ok (.value (.agg #[.pointer (some ⟨11,183,none⟩),.pointer (some p),.int .u64 409])) W:=by
 rw[@run_callFunc_extern Tryz.prog 239 _ (ReflectliteValue.method (ReflectliteValue.valueError "reflectlite.Value.Elem" 0) ReflectliteValue.elem) Tryz.func239 Fi Fi Fi Fi];rw[rlm];simp only[Sem.run_bind,FL,Result.andThen];simp[ReflectliteValue.elem,loadVar,isAgg,underlying,Tryz.underlying185,ha,Result.andThen,Fp,FE]
theorem rls (v x:Value):ReflectliteValue.set #[v,x]=(do
  let(some (dst,a,fl),some (src,b,_)):=(<-ReflectliteValue.parts v,<-ReflectliteValue.parts x)
   |unsupported (.noEntry "extern/(internal/reflectlite.Value).Set.zeroValue")
  if fl/ReflectliteValue.flagAddr%2==0 then unsupported (.noEntry "extern/(internal/reflectlite.Value).Set.unaddressable")
  let val<-loadVar src b
  if<-Rtype.directlyAssignable dst src then storeVar dst a val
  else if<-Rtype.implements dst src then
   if(<-Rtype.kind src)==20 then
    match val with
    | .nilIface=>unsupported (.noEntry "extern/reflectlite: a nil value of one interface type handed on as a value of another")
    |_=>storeVar dst a val
   else storeVar dst a (.iface src val)
  else panicString ("reflectlite.Set: value of type "++(<-Rtype.spelt src)++ " is not assignable to type "++(<-Rtype.spelt dst))
  pure (.tuple #[])):=rfl
theorem FJ (a:Addr) (w:World):(ReflectliteValue.parts (.agg #[.pointer (some ⟨11,183,none⟩),.pointer (some a),.int .u64 409])).run Tryz.prog w=.ok (some (183,a,409)) w:=by kernel_rfl
theorem FM (a:Addr) (w:World):(ReflectliteValue.parts (.agg #[.pointer (some ⟨11,183,none⟩),.pointer (some a),.int .u64 153])).run Tryz.prog w=.ok (some (183,a,153)) w:=by kernel_rfl
theorem Fo (w:World):(Rtype.directlyAssignable 183 183).run Tryz.prog w=.ok true w:=by kernel_rfl
theorem FU (w:World):(sizeOf 183).run Tryz.prog w=.ok 2 w:=by kernel_rfl
end
section
open Go.ChangeShapes Go.WideShapes Go.ChangeAt Go.RowKit Go.Extern
theorem k8 (w:World) (o:Obj) (row:Option Nat):w.grownBy (w.alloc o) row:=⟨rfl,rfl,rfl,by simp,fun k hk _=>Below.heap_alloc w o k hk⟩
theorem Fy (b:Nat) (x y:Value) (W:World) (h0:W.cell? ⟨b,0,none⟩=some x) (h1:W.cell? ⟨b,1,none⟩=some y):(loadVar 183 ⟨b,0,none⟩).run Tryz.prog W=.ok (.agg #[x,y]) W:=by
 have hs:=FU;simp[loadVar,isAgg,underlying,Tryz.underlying183,Result.andThen,hs,loadCells,loadCellsFrom,Addr.add,h0,h1]
theorem FR (g b:Nat) (t:TypeId) (p:Value) (s:ByteArray) (o0 o1:Value) (W:World) (h0:W.cell? ⟨b,0,none⟩=some (.iface t p)) (h1:W.cell? ⟨b,1,none⟩=some (.string s)) (S:StB W g 183 #[o0,o1]):
  (callFunc 240 #[.agg #[.pointer (some ⟨11,183,none⟩),.pointer (some ⟨g,0,none⟩),.int .u64 409],.agg #[.pointer (some ⟨11,183,none⟩),.pointer (some ⟨b,0,none⟩),.int .u64 153]]).run Tryz.prog W
   =.ok (.value (.tuple #[])) ((W.setCell ⟨g,0,none⟩ (.iface t p)).setCell ⟨g,1,none⟩ (.string s)):=by
 rw[@run_callFunc_extern Tryz.prog 240 _ ReflectliteValue.set Tryz.func240 Fi Fi Fi Fi];rw[rls];have hs:=FU;have t0:W.cell? ⟨g,0,none⟩=some o0:=S.cell 0 rfl;have f0:=S.frozen 0;have S':StB (W.setCell ⟨g,0,none⟩ (.iface t p)) g 183 #[.iface t p,o1]:=S.put 0 _ rfl;have t1:(W.setCell ⟨g,0,none⟩ (.iface t p)).cell? ⟨g,1,none⟩=some o1:=S'.cell 1 rfl;have f1:=S'.frozen 1;simp only[Sem.run_bind,FJ,FM,Result.andThen];simp[ReflectliteValue.flagAddr,Fy b _ _ W h0 h1,Result.andThen,Fo,storeVar,Value.cells,storeCells,Addr.add,hs];rw[run_store Tryz.prog W ⟨g,0,none⟩ _ _ (by rfl)];simp only[t0,f0,if_neg Bool.false_ne_true];rw[run_store Tryz.prog (W.setCell ⟨g,0,none⟩ (.iface t p)) ⟨g,1,none⟩ _ _ (by rfl)];simp only[t1,f1,if_neg Bool.false_ne_true]
theorem DU (t:TypeId) (p:Value) (s:ByteArray) (g:Nat) (o0 o1:Value) (w:World) (hg:w.cell? ⟨4,0,none⟩=some (.iface 256 (.agg #[.pointer (some ⟨11,135,none⟩)]))) (S:StB w g 183 #[o0,o1]):
  Calls Tryz.prog 163 #[.iface 183 (.agg #[.iface t p,.string s]),.iface 185 (.pointer (some ⟨g,0,none⟩))] w fun e w'=>e=.returned (.bool true)/\StB w' g 183 #[.iface t p,.string s]/\w.grownBy w' (some g):=by
 obtain⟨W4,hW4⟩:=Fe ((((w.alloc (.cells #[.pointer (some ⟨g,0,none⟩)] 185)).alloc (.cells #[.pointer (some ⟨11,185,none⟩),.pointer (some ⟨w.heap.size,0,none⟩),.int .u64 150] 227)).alloc (.cells #[.pointer (some ⟨11,185,none⟩),.pointer (some ⟨w.heap.size,0,none⟩),.int .u64 150] 227)).alloc (.cells #[.iface t p,.string s] 183))
 have b1:iO w (w.alloc (.cells #[.pointer (some ⟨g,0,none⟩)] 185)):=Fc;have b2:=jD (o:=.cells #[.pointer (some ⟨11,185,none⟩),.pointer (some ⟨w.heap.size,0,none⟩),.int .u64 150] 227) b1;have b3:=jD (o:=.cells #[.pointer (some ⟨11,185,none⟩),.pointer (some ⟨w.heap.size,0,none⟩),.int .u64 150] 227) b2;have b4:=jD (o:=.cells #[.iface t p,.string s] 183) b3;rw[<-hW4]at b4;have hg2:=aJ hg b2;have S1:=StB.new w 185 #[.pointer (some ⟨g,0,none⟩)];have S2:=S1.alloc (.cells #[.pointer (some ⟨11,185,none⟩),.pointer (some ⟨w.heap.size,0,none⟩),.int .u64 150] 227);have S3:=S2.alloc (.cells #[.pointer (some ⟨11,185,none⟩),.pointer (some ⟨w.heap.size,0,none⟩),.int .u64 150] 227);have n8:=Fv ⟨w.heap.size,0,none⟩ ⟨g,0,none⟩ _ (S2.cell 0 rfl);have el:=Fs ⟨w.heap.size,0,none⟩ ⟨g,0,none⟩ _ (S3.cell 0 rfl);have S4:StB W4 (w.heap.size+1+1+1) 183 #[.iface t p,.string s]:=by
  have:=StB.new ((((w.alloc (.cells #[.pointer (some ⟨g,0,none⟩)] 185)).alloc (.cells #[.pointer (some ⟨11,185,none⟩),.pointer (some ⟨w.heap.size,0,none⟩),.int .u64 150] 227)).alloc (.cells #[.pointer (some ⟨11,185,none⟩),.pointer (some ⟨w.heap.size,0,none⟩),.int .u64 150] 227))) 183 #[.iface t p,.string s];simp only[World.size_alloc]at this;rw[hW4];exact this
 have SG:=S.below b4;have G4:w.grownBy W4 (some g):=by rw[hW4];exact(((k8 _ _ _).trans (k8 _ _ _)).trans (k8 _ _ _)).trans (k8 _ _ _)
 have st:=FR g (w.heap.size+1+1+1) t p s o0 o1 W4 (S4.cell 0 rfl) (S4.cell 1 rfl) SG;have HF:Hid (StB ((W4.setCell ⟨g,0,none⟩ (.iface t p)).setCell ⟨g,1,none⟩ (.string s)) g 183 #[.iface t p,.string s]/\w.grownBy ((W4.setCell ⟨g,0,none⟩ (.iface t p)).setCell ⟨g,1,none⟩ (.string s)) (some g)):=
  ⟨(SG.put 0 _ rfl).put 1 _ rfl,G4.trans ((ai _ _ _ _).trans (ai _ _ _ _))⟩
 rw[hW4]at st HF;have f6:=FX;have f6':=FY;have f7:=FV;have mK:=FC;have kP:=Fw;have kR:=Fx;have mE:=FA;have mI:=FB;have mA:=Fz;have eT:=Fq;have iR:=Ft;have tO:=FW;have aR:=Fm;clear G4 b1 b2 b3 b4 S1 S2 S3 S4 SG hW4 S hg;go_enter Tryz.func163,Tryz.ntmps163;go_wp2_with (go_at_call 205;go_in)
 refine wp_loop_rounds 1 ?_;rw[rounds_succ];go_wp2;go_ret;exact⟨rfl,HF.out⟩
end
structure eO where
 n:Addr
 r:Addr
 u:Addr
 c:Addr
def eO.at (f:eO) (st:Int):Addr:=if st=1 then f.r else if st=2 then f.u else if st=3 then f.c else f.n
def rfV (f:eO) (st:Int) (tx:Bs):Value:=.iface 183 (.agg #[.iface 328 (.pointer (some (f.at st))),.string ⟨tx.toArray⟩])
def jH (f:eO) (st:Int) (tx:Bs):Value:=if st=0 then .nilIface else rfV f st tx
theorem rU (f:eO) (tx:Bs):jH f 0 tx=.nilIface:=rfl
theorem ua (f:eO) {st:Int} (h:st≠0) (tx:Bs):jH f st tx=rfV f st tx:=by unfold jH;rw[if_neg h]
def kt (w:World) (a:Addr):Prop:=∃c t,w.heap[a.block]?=some (.cells c t (0,0))
theorem kt.below {w w':World} {a:Addr} (h:kt w a) (b:iO w w'):kt w' a:=by
 obtain⟨c,t,h⟩:=h;have hl:a.block<w.heap.size:=by
  rcases Nat.lt_or_ge a.block w.heap.size with e|e
  ·exact e
  ·rw[Array.getElem?_eq_none e]at h;cases h
 exact⟨c,t,by rw[b.block _ hl];exact h⟩
structure Sen (f:eO) (w:World):Prop where
 n:w.cell? ⟨0,0,none⟩=some (.iface 328 (.pointer (some f.n)))
 r:w.cell? ⟨1,0,none⟩=some (.iface 328 (.pointer (some f.r)))
 u:w.cell? ⟨2,0,none⟩=some (.iface 328 (.pointer (some f.u)))
 c:w.cell? ⟨3,0,none⟩=some (.iface 328 (.pointer (some f.c)))
 ty:w.cell? ⟨4,0,none⟩=some (.iface 256 (.agg #[.pointer (some ⟨11,135,none⟩)]))
 hn:kt w f.n
 hr:kt w f.r
 hu:kt w f.u
 hc:kt w f.c
 nr:f.n≠f.r
 nu:f.n≠f.u
 nc:f.n≠f.c
 ur:f.u≠f.r
 cr:f.c≠f.r
 cu:f.c≠f.u
theorem Sen.below {f:eO} {w w':World} (h:Sen f w) (b:iO w w'):Sen f w':=
 ⟨aJ h.n b,aJ h.r b,aJ h.u b,aJ h.c b,aJ h.ty b,h.hn.below b,h.hr.below b,h.hu.below b,h.hc.below b,h.nr,h.nu,h.nc,h.ur,h.cr,h.cu⟩
theorem dc (t:TypeId) (p:Value) (w:World):
  Calls Tryz.prog 155 #[.iface t p] w fun e w'=>e=.returned (.iface 183 (.agg #[.iface t p,.string ⟨#[]⟩]))/\w'=w:=by
 go_enter Tryz.func155,Tryz.ntmps155;go_wp2;go_ret;exact⟨rfl,rfl⟩
def lT (code:Int):Int:=if code=0 then 0 else if code=1 then 3 else 1
theorem ub (f:eO) (code:Int) (w:World) (S:Sen f w):
  Calls Tryz.prog 199 #[.int .i64 code] w fun e w'=>e=.returned (jH f (lT code) [])/\w'=w:=by
 have hr:=S.r;have hc:=S.c;have H0:Hid (code=0->jH f (lT code) []=.nilIface):=fun e=>by subst e;rfl
 have H1:Hid (code=1->jH f (lT code) []=.iface 183 (.agg #[.iface 328 (.pointer (some f.c)),.string ⟨#[]⟩])):=fun e=>by subst e;rfl
 have H2:Hid (code≠0->code≠1->jH f (lT code) []=.iface 183 (.agg #[.iface 328 (.pointer (some f.r)),.string ⟨#[]⟩])):=fun e e'=>by
  unfold lT;rw[if_neg e,if_neg e'];rfl
 obtain⟨V,hV⟩:=Fe (jH f (lT code) [])
 rw[<-hV]at H0 H1 H2⊢;clear hV S;by_cases h0:code=0
 ·rw[H0.out h0]
  clear H0 H1 H2;go_enter Tryz.func199,Tryz.ntmps199;go_wp2;go_ret;exact⟨rfl,rfl⟩
 ·by_cases h1:code=1
  ·rw[H1.out h1]
   clear H0 H1 H2;go_enter Tryz.func199,Tryz.ntmps199;go_wp2_with (go_at_call 155;refine(dc _ _ _).mono ?_;rintro e w' ⟨rfl,hw'⟩;subst w')
   go_ret;exact⟨rfl,rfl⟩
  ·rw[H2.out h0 h1]
   clear H0 H1 H2;go_enter Tryz.func199,Tryz.ntmps199;go_wp2_with (go_at_call 155;refine(dc _ _ _).mono ?_;rintro e w' ⟨rfl,hw'⟩;subst w')
   go_ret;exact⟨rfl,rfl⟩
theorem rV (f:eO) (an:An) (w:World) (S:Sen f w) (hs:an.st=0∨(an.st=1/\an.tx=[])∨an.st=2∨(an.st=7/\an.tx=[])):
  Calls Tryz.prog 196 #[AV an] w fun e w'=>e=.returned (jH f an.st an.tx)/\iO w w':=by
 have b0:iO w (w.alloc (.cells #[.int .i64 an.st,.string ⟨an.tx.toArray⟩] 44)):=Fc;have P0:=StB.new w 44 #[.int .i64 an.st,.string ⟨an.tx.toArray⟩];have k0:(w.alloc (.cells #[.int .i64 an.st,.string ⟨an.tx.toArray⟩] 44)).cell? ⟨w.heap.size,0,none⟩=some (.int .i64 an.st):=P0.cell 0 rfl;have k1:(w.alloc (.cells #[.int .i64 an.st,.string ⟨an.tx.toArray⟩] 44)).cell? ⟨w.heap.size,1,none⟩=some (.string ⟨an.tx.toArray⟩):=P0.cell 1 rfl;have S':=S.below b0;have hr:=S'.r;have hu:=S'.u;have hn:=S'.n;have HB:Hid (iO w (w.alloc (.cells #[.int .i64 an.st,.string ⟨an.tx.toArray⟩] 44))):=b0;clear P0 S' S b0;obtain⟨st,tx⟩:=an;dsimp only at*;unfold AV anA S;dsimp only;rcases hs with rfl|⟨rfl,rfl⟩|rfl|⟨rfl,rfl⟩
 ·rw[rU]
  go_enter Tryz.func196,Tryz.ntmps196;go_wp2;go_ret;exact⟨rfl,HB.out⟩
 ·rw[show jH f 1 []=.iface 183 (.agg #[.iface 328 (.pointer (some f.r)),.string ⟨#[]⟩])from rfl]
  go_enter Tryz.func196,Tryz.ntmps196;go_wp2_with (go_at_call 155;refine(dc _ _ _).mono ?_;rintro e w' ⟨rfl,hw'⟩;subst w')
  go_ret;exact⟨rfl,HB.out⟩
 ·rw[show jH f 2 tx=.iface 183 (.agg #[.iface 328 (.pointer (some f.u)),.string ⟨tx.toArray⟩])from rfl]
  go_enter Tryz.func196,Tryz.ntmps196;go_wp2;go_ret;exact⟨rfl,HB.out⟩
 ·rw[show jH f 7 []=.iface 183 (.agg #[.iface 328 (.pointer (some f.n)),.string ⟨#[]⟩])from rfl]
  go_enter Tryz.func196,Tryz.ntmps196;go_wp2_with (go_at_call 155;refine(dc _ _ _).mono ?_;rintro e w' ⟨rfl,hw'⟩;subst w')
  go_ret;exact⟨rfl,HB.out⟩
theorem CE (a b:Addr) (y:Value) (w:World) (ha:kt w a) (hb:kt w b):
  Calls Tryz.prog 162 #[.iface 183 (.agg #[.iface 328 (.pointer (some a)),y]),.iface 328 (.pointer (some b))] w fun e w'=>e=.returned (.bool (decide (a=b)))/\iO w w':=by
 by_cases h:a=b
 ·subst h
  rw[decide_eq_true rfl];exact Cq a y w
 ·rw[decide_eq_false h]
  obtain⟨ca,ta,ha⟩:=ha;obtain⟨cb,tb,hb⟩:=hb;exact AL a b y ca cb ta tb w h ha hb
theorem ue (f:eO) (st:Int) (tx:Bs) (w:World) (S:Sen f w) (hs:st=1∨st=2∨st=3∨st=7):
  Calls Tryz.prog 118 #[rfV f st tx] w fun e w'=>e=.returned (.int .i64 st)/\iO w w':=by
 have ha:∀wx,Sen f wx->kt wx (f.at st):=by
  intro wx S;unfold eO.at;split
  ·exact S.hr
  ·split
   ·exact S.hu
   ·split
    ·exact S.hc
    ·exact S.hn
 have C:Hid (∀wx b,Sen f wx->kt wx b->Calls Tryz.prog 162 #[rfV f st tx,.iface 328 (.pointer (some b))] wx fun e w'=>e=.returned (.bool (decide (f.at st=b)))/\iO wx w'):=fun wx b S hb=>CE _ _ _ wx (ha wx S) hb
 have E1:Hid (decide (f.at st=f.r)=decide (st=1)/\(st≠1->decide (f.at st=f.u)=decide (st=2))/\(st≠1->st≠2->decide (f.at st=f.c)=decide (st=3))):=by
  rcases hs with rfl|rfl|rfl|rfl
  ·exact⟨by simp[eO.at],fun h=>absurd rfl h,fun h=>absurd rfl h⟩
  ·exact⟨by simp[eO.at,S.ur],fun _=>by simp[eO.at],fun _ h=>absurd rfl h⟩
  ·exact⟨by simp[eO.at,S.cr],fun _=>by simp[eO.at,S.cu],fun _ _=>by simp[eO.at]⟩
  ·exact⟨by simp[eO.at,S.nr],fun _=>by simp[eO.at,S.nu],fun _ _=>by simp[eO.at,S.nc]⟩
 have HS:Hid (Sen f w):=S;have k1:=S.r;obtain⟨V,hV⟩:=Fe (rfV f st tx)
 have hI:∃t p,V=.iface t p:=⟨_,_,hV⟩
 rw[<-hV]at C⊢;obtain⟨t,p,rfl⟩:=hI;clear S hV ha;go_enter Tryz.func118,Tryz.ntmps118;go_wp2_with fail
 refine(C.out _ _ HS.out HS.out.hr).mono ?_;rintro e w1 ⟨rfl,b1⟩;rw[E1.out.1];by_cases h1:st=1
 ·subst h1
  rw[decide_eq_true rfl];go_wp2;go_ret;exact⟨rfl,b1⟩
 ·rw[decide_eq_false h1]
  have HS1:Hid (Sen f w1):=HS.out.below b1;have HB1:Hid (iO w w1):=b1;have k2:=HS1.out.u;clear b1 k1;go_wp2_with fail
  refine(C.out _ _ HS1.out HS1.out.hu).mono ?_;rintro e w2 ⟨rfl,b2⟩;rw[E1.out.2.1 h1];by_cases h2:st=2
  ·subst h2
   have HB2:Hid (iO w w2):=HB1.out.trans (b2.mono HB1.out.size);rw[decide_eq_true rfl];go_wp2;go_ret;exact⟨rfl,HB2.out⟩
  ·rw[decide_eq_false h2]
   have HS2:Hid (Sen f w2):=HS1.out.below b2;have HB2:Hid (iO w w2):=HB1.out.trans (b2.mono HB1.out.size);have k3:=HS2.out.c;clear b2 k2;go_wp2_with fail
   refine(C.out _ _ HS2.out HS2.out.hc).mono ?_;rintro e w3 ⟨rfl,b3⟩;have HB3:Hid (iO w w3):=HB2.out.trans (b3.mono HB2.out.size);rw[E1.out.2.2 h1 h2];clear k3 b3;by_cases h3:st=3
   ·subst h3
    rw[decide_eq_true rfl];go_wp2;go_ret;exact⟨rfl,HB3.out⟩
   ·have h7:st=7:=by omega
    subst h7;rw[decide_eq_false Fh];go_wp2;go_ret;exact⟨rfl,HB3.out⟩
theorem zu (f:eO) (st:Int) (tx:Bs) (w:World) (S:Sen f w):
  Calls Tryz.prog 119 #[rfV f st tx] w fun e w'=>e=.returned (.string ⟨tx.toArray⟩)/\iO w w':=by
 obtain⟨w1,hw1⟩:=Fe (w.alloc (.cells #[.nilIface,.string ⟨#[]⟩] 183))
 have b1:iO w w1:=by rw[hw1];exact Fc
 have P1:StB w1 w.heap.size 183 #[.nilIface,.string ⟨#[]⟩]:=by rw[hw1];exact StB.new _ _ _
 have c:=DU 328 (.pointer (some (f.at st))) ⟨tx.toArray⟩ w.heap.size _ _ w1 (S.below b1).ty P1;have HB:Hid (iO w w1):=b1;unfold rfV;clear b1 P1 S;go_enter Tryz.func119,Tryz.ntmps119;go_upto_region 2 with fail
 rw[<-hw1];clear hw1;go_wp2_with fail
 refine c.mono ?_;rintro e w2 ⟨rfl,s2,g2⟩;have k1:w2.cell? ⟨w.heap.size,1,none⟩=some (.string ⟨tx.toArray⟩):=s2.cell 1 rfl;have HB2:Hid (iO w w2):=HB.out.grown g2 HB.out.size (fun k e=>by cases e;exact Nat.le_refl _);clear s2 g2 c;go_wp2;go_ret;exact⟨rfl,HB2.out⟩
def wiA (i k d:Int):Array Value:=#[.int .i64 i,.int .i64 k,.int .i64 d]
theorem GU:IsS 297 3:=⟨⟨_,Tryz.underlying297⟩,by kernel_rfl⟩
theorem lY {w:World} {g:Nat} {i k d:Int} (h:StB w g 297 (wiA i k d)):
  w.cell? ⟨g,0,none⟩=some (.int .i64 i)/\w.cell? ⟨g,1,none⟩=some (.int .i64 k)/\w.cell? ⟨g,2,none⟩=some (.int .i64 d):=
 ⟨h.cell 0 rfl,h.cell 1 rfl,h.cell 2 rfl⟩
def ev:Array Value:=heA (fun _=>0) 0 0 0
def HW (w w1:World) (f:Nat->Int) (kd ho tu i k d:Int):Prop:=
 StB w1 w.heap.size 165 (heA f kd ho tu)/\StB w1 (w.heap.size+1) 297 (wiA i k d)/\StB w1 (w.heap.size+2) 165 ev/\iO w w1
theorem HW.start (w:World) (f:Nat->Int) (kd ho tu i k d:Int):HW w (((w.alloc (.cells (heA f kd ho tu) 165)).alloc (.cells (wiA i k d) 297)).alloc (.cells ev 165)) f kd ho tu i k d:=by
 refine⟨((StB.new _ _ _).alloc _).alloc _,?_,?_,(Fc.alloc Fg _).alloc (by simp;omega) _⟩
 ·have:=StB.new (w.alloc (.cells (heA f kd ho tu) 165)) 297 (wiA i k d)
  rw[World.size_alloc]at this;exact this.alloc _
 ·have:=StB.new ((w.alloc (.cells (heA f kd ho tu) 165)).alloc (.cells (wiA i k d) 297)) 165 ev
  rw[World.size_alloc,World.size_alloc]at this;exact this
theorem HW.next {w w1 w2:World} {f:Nat->Int} {kd ho tu i k d:Int} (h:HW w w1 f kd ho tu i k d) (b:iO w1 w2):HW w w2 f kd ho tu i k d:=
 ⟨h.1.below b,h.2.1.below b,h.2.2.1.below b,h.2.2.2.trans (b.mono h.2.2.2.size)⟩
theorem HW.drew {w w1:World} {f:Nat->Int} {kd ho tu i k d:Int} (h:HW w w1 f kd ho tu i k d):HW w w1.drew f kd ho tu i k d:=⟨h.1,h.2.1,h.2.2.1,h.2.2.2.drew⟩
theorem HW.lt {w w1:World} {f:Nat->Int} {kd ho tu i k d:Int} (h:HW w w1 f kd ho tu i k d):w.heap.size+2<w1.heap.size:=h.2.2.1.lt
theorem HW.set {w w1 w2:World} {f g:Nat->Int} {kd ho tu i k d kd' ho' tu':Int} (h:HW w w1 f kd ho tu i k d) (s:StB w2 w.heap.size 165 (heA g kd' ho' tu')) (b:w1.grownBy w2 (some w.heap.size)):HW w w2 g kd' ho' tu' i k d:=
 ⟨s,h.2.1.kept b Fg,h.2.2.1.kept b Fg,h.2.2.2.grown b h.2.2.2.size (fun x e=>by cases e;exact Nat.le_refl _)⟩
theorem HW.put {w w1:World} {f g:Nat->Int} {kd ho tu i k d kd' ho' tu':Int} (h:HW w w1 f kd ho tu i k d) (j:Nat) (x:Int) (e:(heA f kd ho tu).setIfInBounds j (.int .i64 x)=heA g kd' ho' tu'):HW w (w1.setCell ⟨w.heap.size,j,none⟩ (.int .i64 x)) g kd' ho' tu' i k d:=
 h.set (h.1.put j _ e) (ai w1 _ j _)
theorem uj (i k d:Int) (w:World):
  Calls Tryz.prog 272 #[.agg (wiA i k d)] w fun e w'=>e=.returned (.bool (inI k 0 9999))/\iO w w':=by
 have b1:iO w (w.alloc (.cells (wiA i k d) 297)):=Fc;have c1:=fun wx=>iI k wx
 unfold wiA at*;go_enter Tryz.func272,Tryz.ntmps272;go_wp2_with (first|(go_at_call 213;refine Fd (c1 _) ?_))
 go_ret;exact⟨rfl,b1⟩
theorem pJ (i k d:Int) (w:World):
  Calls Tryz.prog 275 #[.agg (wiA i k d)] w fun e w'=>e=.returned (.bool (kiI d))/\iO w w':=by
 have b1:iO w (w.alloc (.cells (wiA i k d) 297)):=Fc;have c1:=fun wx=>jw d wx
 unfold wiA at*;go_enter Tryz.func275,Tryz.ntmps275;go_wp2_with (first|(go_at_call 216;refine(c1 _).mono ?_;rintro e w2 ⟨rfl,b2⟩))
 go_ret;exact⟨rfl,b1.trans (b2.mono b1.size)⟩
theorem jU (i k d:Int) (w:World):
  Calls Tryz.prog 278 #[.agg (wiA i k d)] w fun e w'=>e=.returned (.bool true)/\iO w w':=by
 have b1:iO w (w.alloc (.cells (wiA i k d) 297)):=Fc;unfold wiA at*;go_enter Tryz.func278,Tryz.ntmps278;go_wp2;go_ret;exact⟨rfl,b1⟩
theorem Bf (k:Int):(inI k 0 9999&&(k !=0))=inI k 1 9999:=by
 rw[Bool.eq_iff_iff];simp[inI];omega
theorem uk (i k d:Int) (w:World):
  Calls Tryz.prog 282 #[.agg (wiA i k d)] w fun e w'=>e=.returned (.bool (inI k 1 9999&&kiI d))/\iO w w':=by
 have b1:iO w (w.alloc (.cells (wiA i k d) 297)):=Fc;have c1:=fun wx=>iI k wx
 have c2:=fun wx=>jw d wx
 have HE:Hid ((inI k 0 9999&&(k !=0))=inI k 1 9999):=Bf k;obtain⟨x,hx⟩:=Fe (inI k 0 9999)
 obtain⟨y,hy⟩:=Fe (kiI d)
 obtain⟨z,hz⟩:=Fe (inI k 1 9999)
 rw[<-hx,<-hz]at HE;rw[<-hy,<-hz];simp only[<-hx]at c1;simp only[<-hy]at c2;clear hx hy hz;unfold wiA at*;cases x with
 |false=>
  have E:Hid (z=false):=by rw[Hid,<-HE.out];simp
  clear HE;go_enter Tryz.func282,Tryz.ntmps282;go_wp2_with (first|(go_at_call 213;refine Fd (c1 _) ?_))
  go_ret;exact⟨af (by rw[E.out];simp),b1⟩
 |true=>
  by_cases k0:k=0
  ·have E:Hid (z=false):=by rw[Hid,<-HE.out];simp[k0]
   have kn:(k !=0)=false:=by simpa using k0
   clear HE k0;go_enter Tryz.func282,Tryz.ntmps282;go_wp2_with (first|(go_at_call 213;refine Fd (c1 _) ?_))
   go_ret;exact⟨af (by rw[E.out];simp),b1⟩
  ·have E:Hid (z=true):=by rw[Hid,<-HE.out];simp[k0]
   have kn:(k !=0)=true:=by simpa using k0
   clear HE k0;go_enter Tryz.func282,Tryz.ntmps282;go_wp2_with (first|(go_at_call 213;refine Fd (c1 _) ?_)|(go_at_call 216;refine(c2 _).mono ?_;rintro e w2 ⟨rfl,b2⟩))
   go_ret;exact⟨af (by rw[E.out];simp),b1.trans (b2.mono b1.size)⟩
theorem ul (f:Nat->Int) (kd ho tu i k d:Int) (w:World):
  Calls Tryz.prog 273 #[.agg (heA f kd ho tu),.agg (wiA i k d)] w fun e w'=>e=.returned (.bool false)/\iO w w':=by
 have b1:iO w ((w.alloc (.cells (heA f kd ho tu) 165)).alloc (.cells (wiA i k d) 297)):=Fc.alloc Fg _;unfold wiA heA at*;go_enter Tryz.func273,Tryz.ntmps273;go_wp2;go_ret;exact⟨rfl,b1⟩
def HW2 (w w1:World) (f:Nat->Int) (kd ho tu i k d:Int):Prop:=
 StB w1 w.heap.size 165 (heA f kd ho tu)/\StB w1 (w.heap.size+1) 297 (wiA i k d)/\iO w w1
theorem HW2.start (w:World) (f:Nat->Int) (kd ho tu i k d:Int):HW2 w ((w.alloc (.cells (heA f kd ho tu) 165)).alloc (.cells (wiA i k d) 297)) f kd ho tu i k d:=by
 refine⟨(StB.new _ _ _).alloc _,?_,Fc.alloc Fg _⟩;have:=StB.new (w.alloc (.cells (heA f kd ho tu) 165)) 297 (wiA i k d);rw[World.size_alloc]at this;exact this
theorem HW2.next {w w1 w2:World} {f:Nat->Int} {kd ho tu i k d:Int} (h:HW2 w w1 f kd ho tu i k d) (b:iO w1 w2):HW2 w w2 f kd ho tu i k d:=
 ⟨h.1.below b,h.2.1.below b,h.2.2.trans (b.mono h.2.2.size)⟩
theorem HW2.drew {w w1:World} {f:Nat->Int} {kd ho tu i k d:Int} (h:HW2 w w1 f kd ho tu i k d):HW2 w w1.drew f kd ho tu i k d:=⟨h.1,h.2.1,h.2.2.drew⟩
def lr (f:Nat->Int) (i:Int):Bool:= !(inI i 0 3&&decide (f i.toNat≠0))
theorem gl (f:Nat->Int) (kd ho tu i k d:Int) (w:World):
  Calls Tryz.prog 279 #[.agg (heA f kd ho tu),.agg (wiA i k d)] w fun e w'=>e=.returned (.bool (lr f i))/\iO w w':=by
 obtain⟨w1,hw1⟩:=Fe ((w.alloc (.cells (heA f kd ho tu) 165)).alloc (.cells (wiA i k d) 297))
 have HS:Hid (HW2 w w1 f kd ho tu i k d):=by rw[hw1];exact HW2.start _ _ _ _ _ _ _ _
 have c1:=ju f i w1;obtain⟨x,hx⟩:=Fe ((inI i 0 3&&decide (f i.toNat≠0)))
 unfold lr;rw[<-hx]at c1⊢;clear hx;unfold kA at c1;rw[heA,wiA]at hw1⊢;go_enter Tryz.func279,Tryz.ntmps279;go_wp2_with fail
 rw[<-hw1];refine c1.mono ?_;rintro e w2 ⟨rfl,b2⟩;replace HS:=HS.out.next b2;clear hw1 c1 b2;go_wp2;go_ret;exact⟨rfl,HS.2.2⟩
def HR (w w1:World) (f:Nat->Int) (kd ho tu:Int):Prop:=
 StB w1 w.heap.size 165 (heA f kd ho tu)/\StB w1 (w.heap.size+1) 165 ev/\iO w w1
theorem HR.start (w:World) (f:Nat->Int) (kd ho tu:Int):HR w ((w.alloc (.cells (heA f kd ho tu) 165)).alloc (.cells ev 165)) f kd ho tu:=by
 refine⟨(StB.new _ _ _).alloc _,?_,Fc.alloc Fg _⟩;have:=StB.new (w.alloc (.cells (heA f kd ho tu) 165)) 165 ev;rw[World.size_alloc]at this;exact this
theorem HR.put {w w1:World} {f g:Nat->Int} {kd ho tu kd' ho' tu':Int} (h:HR w w1 f kd ho tu) (j:Nat) (x:Int) (e:(heA f kd ho tu).setIfInBounds j (.int .i64 x)=heA g kd' ho' tu'):HR w (w1.setCell ⟨w.heap.size,j,none⟩ (.int .i64 x)) g kd' ho' tu':=
 ⟨h.1.put j _ e,h.2.1.kept (ai w1 _ j _) Fg,h.2.2.grown (ai w1 _ j _) h.2.2.size (fun x e=>by cases e;exact Nat.le_refl _)⟩
theorem jd (f:Nat->Int) (kd ho tu:Int) (w:World):
  Calls Tryz.prog 287 #[.agg (heA f kd ho tu)] w fun e w'=>e=.returned (.agg (heA f 0 (-1) tu))/\iO w w':=by
 obtain⟨w1,hw1⟩:=Fe ((w.alloc (.cells (heA f kd ho tu) 165)).alloc (.cells ev 165))
 have HS:Hid (HR w w1 f kd ho tu):=by rw[hw1];exact HR.start _ _ _ _ _
 obtain⟨w2,hw2⟩:=Fe ((w1.setCell ⟨w.heap.size,4,none⟩ (.int .i64 0)).setCell ⟨w.heap.size,5,none⟩ (.int .i64 (-1)))
 have HS2:Hid (HR w w2 f 0 (-1) tu):=by rw[hw2];exact(HS.out.put 4 0 rfl).put 5 (-1) rfl
 obtain⟨-, -, -, -,m4,m5, -⟩:=aY HS.out.1;have f4:=HS.out.1.frozen 4;have f5:=HS.out.1.frozen 5;clear HS;rw[heA,ev,heA]at hw1;rw[heA];go_enter Tryz.func287,Tryz.ntmps287;go_upto_region 1 with fail
 rw[<-hw1];clear hw1;go_upto_region 2 with fail
 rw[<-hw2];clear hw2 m4 m5 f4 f5;go_wp2_with (first|(refine ah GK rfl _ rfl w.heap.size rfl (heA f 0 (-1) tu) rfl HS2.out.1 ?_)|(refine ae GK rfl _ _ rfl (w.heap.size+1) (heA f 0 (-1) tu) ev rfl rfl rfl rfl (bO _ _ _ _) HS2.out.2.1 ?_;intro w3 h3 g3))
 refine bodyPost_ret (aj GK rfl _ _ (w.heap.size+1) _ rfl rfl h3) rfl ?_;exact⟨rfl,HS2.out.2.2.grown g3 HS2.out.2.2.size (fun k e=>by cases e;omega)⟩
theorem fW (f:Nat->Int) (kd ho tu:Int) (w:World) (t0:0<=tu) (t1:tu<=1000000000):
  Calls Tryz.prog 288 #[.agg (heA f kd ho tu)] w fun e w'=>e=.returned (.agg (heA f kd ho (cM tu)))/\iO w w':=by
 obtain⟨w1,hw1⟩:=Fe ((w.alloc (.cells (heA f kd ho tu) 165)).alloc (.cells ev 165))
 have HS:Hid (HR w w1 f kd ho tu):=by rw[hw1];exact HR.start _ _ _ _ _
 obtain⟨w2,hw2⟩:=Fe (w1.setCell ⟨w.heap.size,6,none⟩ (.int .i64 (cM tu)))
 have HS2:Hid (HR w w2 f kd ho (cM tu)):=by rw[hw2];exact HS.out.put 6 (cM tu) rfl
 obtain⟨-, -, -, -, -, -,m6⟩:=aY HS.out.1;have f6:=HS.out.1.frozen 6;have hwr:IntKind.i64.wrap (tu+1)=tu+1:=by rw[IntKind.wrap_i64];omega
 clear HS;rw[heA,ev,heA]at hw1;rw[heA];by_cases ht:tu=1000000000
 ·have htb:(tu==1000000000)=true:=by simpa using ht
  have e1:cM tu=0:=by unfold cM;rw[if_pos Ff]
  rw[e1]at hw2 HS2⊢;clear ht e1 t0 t1 hwr;go_enter Tryz.func288,Tryz.ntmps288;go_upto_region 1 with fail
  rw[<-hw1];clear hw1;go_upto_region 4 with fail
  rw[<-hw2];clear hw2 m6 f6;go_wp2_with (first|(refine ah GK rfl _ rfl w.heap.size rfl (heA f kd ho 0) rfl HS2.out.1 ?_)|(refine ae GK rfl _ _ rfl (w.heap.size+1) (heA f kd ho 0) ev rfl rfl rfl rfl (bO _ _ _ _) HS2.out.2.1 ?_;intro w3 h3 g3))
  refine bodyPost_ret (aj GK rfl _ _ (w.heap.size+1) _ rfl rfl h3) rfl ?_;exact⟨rfl,HS2.out.2.2.grown g3 HS2.out.2.2.size (fun k e=>by cases e;omega)⟩
 ·have htb:(tu==1000000000)=false:=by simpa using ht
  have e1:cM tu=tu+1:=by unfold cM;rw[if_neg Ff]
  rw[e1]at hw2 HS2⊢;clear ht e1 t0 t1;go_enter Tryz.func288,Tryz.ntmps288;go_upto_region 1 with fail
  rw[<-hw1];clear hw1;go_upto_region 4 with fail
  rw[<-hw2];clear hw2 m6 f6 hwr;go_wp2_with (first|(refine ah GK rfl _ rfl w.heap.size rfl (heA f kd ho (tu+1)) rfl HS2.out.1 ?_)|(refine ae GK rfl _ _ rfl (w.heap.size+1) (heA f kd ho (tu+1)) ev rfl rfl rfl rfl (bO _ _ _ _) HS2.out.2.1 ?_;intro w3 h3 g3))
  refine bodyPost_ret (aj GK rfl _ _ (w.heap.size+1) _ rfl rfl h3) rfl ?_;exact⟨rfl,HS2.out.2.2.grown g3 HS2.out.2.2.size (fun k e=>by cases e;omega)⟩
theorem mP (f:Nat->Int) (kd ho tu i k d:Int) (w:World):
  Calls Tryz.prog 277 #[.agg (heA f kd ho tu),.agg (wiA i k d)] w fun e w'=>e=.returned (.agg (heA f d (if bY d then-1 else i) tu))/\iO w w':=by
 obtain⟨w1,hw1⟩:=Fe (((w.alloc (.cells (heA f kd ho tu) 165)).alloc (.cells (wiA i k d) 297)).alloc (.cells ev 165))
 have HS:Hid (HW w w1 f kd ho tu i k d):=by rw[hw1];exact HW.start _ _ _ _ _ _ _ _
 obtain⟨-, -, -, -,m4,m5, -⟩:=aY HS.out.1;obtain⟨p0,p1,p2⟩:=lY HS.out.2.1;have f4:=HS.out.1.frozen 4;have f5:=HS.out.1.frozen 5;obtain⟨w2,hw2⟩:=Fe (((w1.setCell ⟨w.heap.size,4,none⟩ (.int .i64 d)).setCell ⟨w.heap.size,5,none⟩ (.int .i64 i)).drew)
 have HS2:Hid (HW w w2 f d i tu i k d):=by rw[hw2];exact((HS.out.put 4 d rfl).put 5 i rfl).drew
 have q2:w2.cell? ⟨w.heap.size+1,2,none⟩=some (.int .i64 d):=HS2.out.2.1.cell 2 rfl;have c1:=fun wx=>lp d wx
 obtain⟨x,hx⟩:=Fe (bY d)
 rw[<-hx];simp only[<-hx]at c1;clear hx;rw[heA,wiA,ev,heA]at hw1;rw[heA,wiA];go_enter Tryz.func277,Tryz.ntmps277;go_upto_region 1 with fail
 rw[<-hw1];clear hw1
 go_region
 rw[<-hw2];clear hw2 m4 m5 f4 f5 p0 p1 p2;go_wp2_with fail
 refine(c1 _).mono ?_;rintro e w3 ⟨rfl,b3⟩;have HS3:=HS2.out.next b3;clear b3 c1 HS2 q2;cases x with
 |false=>
  have H3:Hid (HW w w3 f d i tu i k d):=HS3;clear HS3;go_wp2_with (first|(refine ah GK rfl _ rfl w.heap.size rfl (heA f d i tu) rfl H3.out.1 ?_)|(refine ae GK rfl _ _ rfl (w.heap.size+2) (heA f d i tu) ev rfl rfl rfl rfl (bO _ _ _ _) H3.out.2.2.1 ?_;intro w5 h5 g5))
  refine bodyPost_ret (aj GK rfl _ _ (w.heap.size+2) _ rfl rfl h5) rfl ?_;exact⟨rfl,H3.out.2.2.2.grown g5 H3.out.2.2.2.size (fun k e=>by cases e;omega)⟩
 |true=>
  obtain⟨w4,hw4⟩:=Fe (w3.setCell ⟨w.heap.size,5,none⟩ (.int .i64 (-1)))
  have H4:Hid (HW w w4 f d (-1) tu i k d):=by rw[hw4];exact HS3.put 5 (-1) rfl
  obtain⟨-, -, -, -, -,m5, -⟩:=aY HS3.1;have f5:=HS3.1.frozen 5;clear HS3;go_upto_region 4 with fail
  rw[<-hw4];clear hw4 m5 f5;go_wp2_with (first|(refine ah GK rfl _ rfl w.heap.size rfl (heA f d (-1) tu) rfl H4.out.1 ?_)|(refine ae GK rfl _ _ rfl (w.heap.size+2) (heA f d (-1) tu) ev rfl rfl rfl rfl (bO _ _ _ _) H4.out.2.2.1 ?_;intro w5 h5 g5))
  refine bodyPost_ret (aj GK rfl _ _ (w.heap.size+2) _ rfl rfl h5) rfl ?_;exact⟨rfl,H4.out.2.2.2.grown g5 H4.out.2.2.2.size (fun k e=>by cases e;omega)⟩
theorem zA (f:Nat->Int) (kd ho tu i k d:Int) (w:World):
  Calls Tryz.prog 280 #[.agg (heA f kd ho tu),.agg (wiA i k d)] w fun e w'=>e=.returned (.agg (heA f (if d9 f kd ho i then 0 else kd) (if d9 f kd ho i then-1 else ho) tu))/\iO w w':=by
 obtain⟨w1,hw1⟩:=Fe (((w.alloc (.cells (heA f kd ho tu) 165)).alloc (.cells (wiA i k d) 297)).alloc (.cells ev 165))
 have HS:Hid (HW w w1 f kd ho tu i k d):=by rw[hw1];exact HW.start _ _ _ _ _ _ _ _
 have c1:=gE f kd ho tu i w1;have c2:=fun wx=>jd f kd ho tu wx
 obtain⟨x,hx⟩:=Fe (d9 f kd ho i)
 rw[<-hx]at c1⊢;clear hx;rw[heA,wiA,ev,heA]at hw1;rw[heA]at c1;conv in heA f kd ho tu=>unfold heA
 rw[wiA];go_enter Tryz.func280,Tryz.ntmps280;go_wp2_with fail
 rw[<-hw1];refine c1.mono ?_;rintro e w2 ⟨rfl,b2⟩;have HS2:=HS.out.next b2;clear hw1 c1 b2 HS;have H2:Hid (HW w w2 f kd ho tu i k d):=HS2;clear HS2;cases x with
 |false=>
  clear c2;go_wp2_with (first|(refine ah GK rfl _ rfl w.heap.size rfl (heA f kd ho tu) rfl H2.out.1 ?_)|(refine ae GK rfl _ _ rfl (w.heap.size+2) (heA f kd ho tu) ev rfl rfl rfl rfl (bO _ _ _ _) H2.out.2.2.1 ?_;intro w5 h5 g5))
  refine bodyPost_ret (aj GK rfl _ _ (w.heap.size+2) _ rfl rfl h5) rfl ?_;exact⟨rfl,H2.out.2.2.2.grown g5 H2.out.2.2.2.size (fun k e=>by cases e;omega)⟩
 |true=>
  go_wp2_with (first|(refine ah GK rfl _ rfl w.heap.size rfl (heA f kd ho tu) rfl H2.out.1 ?_)|(go_at_call 287;refine(c2 _).mono ?_;rintro e w3 ⟨rfl,b3⟩;have H3:Hid (HW w w3 f kd ho tu i k d):=H2.out.next b3;clear b3)|(refine ae GK rfl _ _ rfl (w.heap.size+2) (heA f 0 (-1) tu) ev rfl rfl rfl rfl (bO _ _ _ _) H3.out.2.2.1 ?_;intro w5 h5 g5))
  refine bodyPost_ret (aj GK rfl _ _ (w.heap.size+2) _ rfl rfl h5) rfl ?_;exact⟨rfl,H3.out.2.2.2.grown g5 H3.out.2.2.2.size (fun k e=>by cases e;omega)⟩
theorem r9 (f:Nat->Int) (kd ho tu i k d:Int) (w:World) (t0:0<=tu) (t1:tu<=1000000000):
  Calls Tryz.prog 281 #[.agg (heA f kd ho tu),.agg (wiA i k d)] w fun e w'=>e=.returned (.agg (heA (fun _=>0) 0 (-1) (cM tu)))/\iO w w':=by
 obtain⟨w1,hw1⟩:=Fe (((w.alloc (.cells (heA f kd ho tu) 165)).alloc (.cells (wiA i k d) 297)).alloc (.cells ev 165))
 have HS:Hid (HW w w1 f kd ho tu i k d):=by rw[hw1];exact HW.start _ _ _ _ _ _ _ _
 have c2:=fun wx=>jd (fun _=>0) kd ho tu wx
 have c3:=fun wx=>fW (fun _=>0) 0 (-1) tu wx t0 t1
 obtain⟨w2,hw2⟩:=Fe ((((w1.setCell ⟨w.heap.size,0,none⟩ (.int .i64 0)).setCell ⟨w.heap.size,1,none⟩ (.int .i64 0)).setCell ⟨w.heap.size,2,none⟩ (.int .i64 0)).setCell ⟨w.heap.size,3,none⟩ (.int .i64 0))
 have H2:Hid (HW w w2 (fun _=>0) kd ho tu i k d):=by
  rw[hw2];exact(((HS.out.put (g:=ec f 0 0) (kd':=kd) (ho':=ho) (tu':=tu) 0 0 rfl).put (g:=ec (ec f 0 0) 1 0) (kd':=kd) (ho':=ho) (tu':=tu) 1 0 rfl).put (g:=ec (ec (ec f 0 0) 1 0) 2 0) (kd':=kd) (ho':=ho) (tu':=tu) 2 0 rfl).put 3 0 rfl
 obtain⟨m0,m1,m2,m3, -, -, -⟩:=aY HS.out.1;have f0:=HS.out.1.frozen 0;have f1:=HS.out.1.frozen 1;have f2:=HS.out.1.frozen 2;have f3:=HS.out.1.frozen 3;clear HS;rw[heA,wiA,ev,heA]at hw1;conv in heA f kd ho tu=>unfold heA
 rw[wiA];go_enter Tryz.func281,Tryz.ntmps281;go_upto_region 1 with fail
 rw[<-hw1];clear hw1;go_upto_region 2 with fail
 rw[<-hw2];clear hw2 m0 m1 m2 m3 f0 f1 f2 f3;go_wp2_with (first|(refine ah GK rfl _ rfl w.heap.size rfl (heA (fun _=>0) kd ho tu) rfl H2.out.1 ?_)|(go_at_call 287;refine(c2 _).mono ?_;rintro e w3 ⟨rfl,b3⟩;have H3:Hid (HW w w3 (fun _=>0) kd ho tu i k d):=H2.out.next b3;clear b3)|(go_at_call 288;refine(c3 _).mono ?_;rintro e w4 ⟨rfl,b4⟩;have H4:Hid (HW w w4 (fun _=>0) kd ho tu i k d):=H3.out.next b4;clear b4)|(refine ae GK rfl _ _ rfl (w.heap.size+2) (heA (fun _=>0) 0 (-1) (cM tu)) ev rfl rfl rfl rfl (bO _ _ _ _) H4.out.2.2.1 ?_;intro w5 h5 g5))
 refine bodyPost_ret (aj GK rfl _ _ (w.heap.size+2) _ rfl rfl h5) rfl ?_;exact⟨rfl,H4.out.2.2.2.grown g5 H4.out.2.2.2.size (fun k e=>by cases e;omega)⟩
end Go.Proofs.YthldeiojlllkdaaGreatDoor
