/- Houses by the model: Asked. -/
import Derived.Test.YthldeiojlllkdaaGreatDoorM1
import Derived.Test.YthldeiojlllkdaaGreatDoorM26
import Derived.Test.YthldeiojlllkdaaGreatDoorM21
import Derived.Test.YthldeiojlllkdaaGreatDoorM17
import Derived.Test.YthldeiojlllkdaaGreatDoorM4
import Derived.WalkKit
import Derived.LaidEql
import Derived.Stop.Asserts
import Derived.RowKitTokens
set_option maxRecDepth 20000
set_option maxHeartbeats 8000000
namespace Go.Proofs.YthldeiojlllkdaaGreatDoor
open Go.ChangeShapes Go.WideShapes Go.ChangeAt Go.RowKit
theorem StB.hop {w w':World} {g off r:Nat} {t s:TypeId} {cs cs' ds:Array Value} {a b k q z:Value} {n:Nd} {L':List Nat} (h:StB w r s ds) (H:Hs w g off t cs a b k q z n) (O:Hop w w' g off cs cs' (dE a b k q z) L') (hr:r≠g) (ty:s≠2):StB w' r s ds:=
 h.turned O.tu (fun e=>by
  rcases List.mem_cons.1 e with e|e
  ·exact hr e
  ·rcases nX.1 e with e|e|e|e|e
   ·exact H.ow.oa.ne h ty (by simpa[blk]using e)
   ·exact H.ow.ob.ne h ty (by simpa[blk]using e)
   ·exact H.ow.ok.ne h ty (by simpa[blk]using e)
   ·exact H.ow.oq.ne h ty (by simpa[blk]using e)
   ·exact H.ow.oz.ne h ty (by simpa[blk]using e))
theorem cF.putBy {w w':World} {base g:Nat} {a b k q z:Value} {n:Nd} {t:TypeId} {cs:Array Value} (h:cF w base a b k q z n) (s:StB w g t cs) (ty:t≠2) (G:w.grownBy w' (some g)):cF w' base a b k q z n:=
 ⟨h.oa.putBy s ty G,h.ob.putBy s ty G,h.ok.putBy s ty G,h.oq.putBy s ty G,h.oz.putBy s ty G,h.ap⟩
theorem xq (a b k q z:Value) (n:Nd) (i:Int) (bs:Bs) (w:World) (hr:RdN w a b k q z n) (hl:SmN n) (hb:bs.length<=1048576):
  Calls Tryz.prog 5 #[NdV a b k q z n,.int .i64 i,S bs] w fun e w'=>∃a' b' k' q' z',e=.returned (.tuple #[NdV a' b' k' q' z' (n.Ask i bs).1,AV (n.Ask i bs).2])/\cF w' w.heap.size a' b' k' q' z' (n.Ask i bs).1/\bB w w':=by
 have HR:Hid (∀wx,bB w wx->RdN wx a b k q z n):=fun wx B=>hr.below B
 have CN:Hid (∀wx,bB w wx->Calls Tryz.prog 16 #[NdV a b k q z n] wx fun e w'=>e=.returned (.bool n.ok)/\bB wx w'):=fun wx B=>uQ a b k q z n wx (HR.out wx B) hl
 have CF:Hid (∀wx,bB w wx->Calls Tryz.prog 17 #[NdV a b k q z n] wx fun e w'=>∃a' b' k' q' z',e=.returned (NdV a' b' k' q' z' n)/\cF w' wx.heap.size a' b' k' q' z' n/\bB wx w'):=fun wx B=>xp a b k q z n wx (HR.out wx B) hl
 have HE:Hid (n.Ask i bs=if n.ok then n.ask i bs else(Nd.zero,⟨7,[]⟩)):=rfl;obtain⟨x,hx⟩:=eX (n.Ask i bs)
 rw[<-hx]at HE⊢;clear hx;obtain⟨ao,ac,rfl⟩:=aa hr.ra;obtain⟨bo,bc,rfl⟩:=aa hr.rb;obtain⟨ko,kc,rfl⟩:=aa hr.rk;obtain⟨qo,qc,rfl⟩:=aa hr.rq;obtain⟨zo,zc,rfl⟩:=aa hr.rz;obtain⟨w1,hw1⟩:=eX (((w.alloc (.cells (ndA (.slice ao n.xs.length ac) (.slice bo n.ys.length bc) (.slice ko n.h.ks.length kc) (.slice qo n.c.ts.length qc) (.slice zo n.s.ts.length zc) n) 42)).alloc (.cells aA 42)).alloc (.cells (anA ⟨0,[]⟩) 44))
 have HF:Hid (FS w w1 (ndA (.slice ao n.xs.length ac) (.slice bo n.ys.length bc) (.slice ko n.h.ks.length kc) (.slice qo n.c.ts.length qc) (.slice zo n.s.ts.length zc) n)/\StB w1 (w.heap.size+1+1) 44 (anA ⟨0,[]⟩)):=by
  have s2:=StB.new ((w.alloc (.cells (ndA (.slice ao n.xs.length ac) (.slice bo n.ys.length bc) (.slice ko n.h.ks.length kc) (.slice qo n.c.ts.length qc) (.slice zo n.s.ts.length zc) n) 42)).alloc (.cells aA 42)) 44 (anA ⟨0,[]⟩);rw[World.size_alloc,World.size_alloc]at s2;rw[hw1];exact⟨(FS.start w _).below bA,s2⟩
 clear hr HR;unfold ndA aA anA S at hw1;unfold NdV at CN CF;conv in NdV (.slice ao n.xs.length ac) _ _ _ _ _=>unfold NdV ndA S
 conv in S bs=>unfold S
 go_enter Tryz.func5,Tryz.ntmps5;go_upto_region 1 with fail
 rw[<-hw1];clear hw1;go_wp2_with (refine ah Tryz.isNd rfl _ rfl w.heap.size rfl (ndA (.slice ao n.xs.length ac) (.slice bo n.ys.length bc) (.slice ko n.h.ks.length kc) (.slice qo n.c.ts.length qc) (.slice zo n.s.ts.length zc) n) rfl HF.out.1.p ?_)
 refine(CN.out w1 HF.out.1.b).mono ?_;rintro e w2 ⟨rfl,b2⟩;replace HF:Hid (FS w w2 (ndA (.slice ao n.xs.length ac) (.slice bo n.ys.length bc) (.slice ko n.h.ks.length kc) (.slice qo n.c.ts.length qc) (.slice zo n.s.ts.length zc) n)/\StB w2 (w.heap.size+1+1) 44 (anA ⟨0,[]⟩)):=⟨HF.out.1.below b2,HF.out.2.below b2⟩
 clear b2 CN hl;cases hk:n.ok with
 |false=>
  have HX:Hid (x=(Nd.zero,⟨7,[]⟩)):=by rw[Hid,HE.out,hk];rfl
  clear HE CF hk;go_wp2_with (first|(refine ae Tryz.isNd rfl _ _ rfl (w.heap.size+1) aA aA rfl rfl rfl rfl pf HF.out.1.r ?_;intro w19 s19 g19)|(refine ae Tryz.isA rfl _ _ rfl (w.heap.size+1+1) (anA ⟨7,[]⟩) (anA ⟨0,[]⟩) rfl rfl rfl rfl (aB _) (HF.out.2.kept g19 (by simp)) ?_;intro w20 s20 g20))
  refine bodyPost_ret (cZ rfl _ _ (w.heap.size+1) (w.heap.size+1+1) _ _ rfl rfl rfl rfl (s19.kept g20 (by simp)) s20) rfl ?_;rw[HX.out];have bb:=HF.out.1.b.grown g19 HF.out.1.b.size (fun k e=>by cases e;omega);exact⟨_,_,_,_,_,rfl,cF.nil _ _,bb.grown g20 bb.size (fun k e=>by cases e;omega)⟩
 |true=>
  have HK:Hid (n.ok=true):=hk;have HX:Hid (x=n.ask i bs):=by rw[Hid,HE.out,hk];rfl
  clear HE hk;go_wp2_with (refine ah Tryz.isNd rfl _ rfl w.heap.size rfl (ndA (.slice ao n.xs.length ac) (.slice bo n.ys.length bc) (.slice ko n.h.ks.length kc) (.slice qo n.c.ts.length qc) (.slice zo n.s.ts.length zc) n) rfl HF.out.1.p ?_)
  refine(CF.out w2 HF.out.1.b).mono ?_;rintro e w3 ⟨a',b',k',q',z',rfl,o3,b3⟩;obtain⟨a1,a2,rfl⟩:=aa o3.oa.reads;obtain⟨b1,b2,rfl⟩:=aa o3.ob.reads;obtain⟨k1,k2,rfl⟩:=aa o3.ok.reads;obtain⟨q1,q2,rfl⟩:=aa o3.oq.reads;obtain⟨z1,z2,rfl⟩:=aa o3.oz.reads;have O:Hid (cF w3 (w.heap.size+2) (.slice a1 n.xs.length a2) (.slice b1 n.ys.length b2) (.slice k1 n.h.ks.length k2) (.slice q1 n.c.ts.length q2) (.slice z1 n.s.ts.length z2) n):=o3.mono HF.out.1.lt;replace HF:Hid (FS w w3 (ndA (.slice ao n.xs.length ac) (.slice bo n.ys.length bc) (.slice ko n.h.ks.length kc) (.slice qo n.c.ts.length qc) (.slice zo n.s.ts.length zc) n)/\StB w3 (w.heap.size+1+1) 44 (anA ⟨0,[]⟩)):=⟨HF.out.1.below b3,HF.out.2.below b3⟩
  clear o3 b3 CF;have q3:StB (w3.alloc (.cells aA 42)) w3.heap.size 42 aA:=StB.new w3 _ _;go_upto_region 4 with(refine ae Tryz.isNd rfl _ _ rfl w3.heap.size (ndA (.slice a1 n.xs.length a2) (.slice b1 n.ys.length b2) (.slice k1 n.h.ks.length k2) (.slice q1 n.c.ts.length q2) (.slice z1 n.s.ts.length z2) n) aA rfl rfl rfl rfl (dj n rfl rfl rfl rfl rfl) q3 ?_;intro w4 s4 g4)
  have b4:bB w3 w4:=bA.grown g4 (by simp) (fun k e=>by cases e;omega);have HC:Hid (CS w w4 (ndA (.slice ao n.xs.length ac) (.slice bo n.ys.length bc) (.slice ko n.h.ks.length kc) (.slice qo n.c.ts.length qc) (.slice zo n.s.ts.length zc) n) w3.heap.size (ndA (.slice a1 n.xs.length a2) (.slice b1 n.ys.length b2) (.slice k1 n.h.ks.length k2) (.slice q1 n.c.ts.length q2) (.slice z1 n.s.ts.length z2) n) (.slice a1 n.xs.length a2) (.slice b1 n.ys.length b2) (.slice k1 n.h.ks.length k2) (.slice q1 n.c.ts.length q2) (.slice z1 n.s.ts.length z2) n/\StB w4 (w.heap.size+1+1) 44 (anA ⟨0,[]⟩)/\w.heap.size+1+1≠w3.heap.size):=⟨CS.start HF.out.1 O.out s4 g4,HF.out.2.below b4,by have:=HF.out.2.lt;omega⟩
  clear q3 s4 g4 HF O b4;simp only[Act.put];obtain⟨g,hg⟩:=eX w3.heap.size
  rw[<-hg]at HC⊢;clear hg;have c5:=BE g 0 42 _ _ _ _ _ _ n i bs w4 HC.out.1.hs ((Nd.ok_iff n).1 HK.out) hb;obtain⟨m,hm⟩:=eX ((n.ask i bs).1)
  obtain⟨yA,hy⟩:=eX ((n.ask i bs).2)
  rw[<-hy,<-hm]at c5;have HY:Hid (x=(m,yA)):=by rw[Hid,HX.out,hm,hy]
  clear hm hy HX HK hb;unfold S AV anA at c5;go_wp2_with fail
  refine c5.mono ?_;rintro e w5 ⟨rfl,cs5,a5,b5,k5,q5,z5,H5,O5⟩;have HC5:Hid (CS w w5 (ndA (.slice ao n.xs.length ac) (.slice bo n.ys.length bc) (.slice ko n.h.ks.length kc) (.slice qo n.c.ts.length qc) (.slice zo n.s.ts.length zc) n) g cs5 a5 b5 k5 q5 z5 m/\StB w5 (w.heap.size+1+1) 44 (anA ⟨0,[]⟩)/\w.heap.size+1+1≠g):=⟨HC.out.1.hop H5 O5,HC.out.2.1.hop HC.out.1.hs O5 HC.out.2.2 (by decide),HC.out.2.2⟩
  clear c5 H5 O5 HC;have q5':StB (w5.alloc (.cells (anA ⟨0,[]⟩) 44)) w5.heap.size 44 (anA ⟨0,[]⟩):=StB.new w5 _ _;go_upto_region 5 with(refine ae Tryz.isA rfl _ _ rfl w5.heap.size (anA yA) (anA ⟨0,[]⟩) rfl rfl rfl rfl (aB yA) q5' ?_;intro w6 s6 g6)
  (try simp only[Act.put])
  have b6:bB w5 w6:=bA.grown g6 (by simp) (fun k e=>by cases e;omega);have HC6:Hid (CS w w6 (ndA (.slice ao n.xs.length ac) (.slice bo n.ys.length bc) (.slice ko n.h.ks.length kc) (.slice qo n.c.ts.length qc) (.slice zo n.s.ts.length zc) n) g cs5 a5 b5 k5 q5 z5 m/\StB w6 (w.heap.size+1+1) 44 (anA ⟨0,[]⟩)/\StB w6 w5.heap.size 44 (anA yA)/\w.heap.size+1+1<w5.heap.size):=⟨HC5.out.1.below b6,HC5.out.2.1.below b6,s6,HC5.out.2.1.lt⟩
  clear q5' s6 g6 b6 HC5;obtain⟨g9,hg9⟩:=eX w5.heap.size
  rw[<-hg9]at HC6⊢;clear hg9;obtain⟨C,hCd⟩:=eX (fun x=>bB w6 x)
  have HQ:Hid (∀x,C x->bB w6 x):=by rw[hCd];exact fun _ h=>h
  have HN:Hid (∀x y,C x->dQ x y->C y):=by rw[hCd];exact fun _ _ h b=>h.trans (b.mono h.size)
  have H0:Hid (C w6.drew):=by rw[hCd];exact(Below.refl _ _).drew
  have hne:Nonempty (Kin C):=⟨⟨_,H0.out⟩⟩
  clear hCd;refine du (fun a=>a.eval (.tmp 9)=.pointer (some ⟨g9,0,none⟩)) (fun x y=>x.grownBy y (some (w.heap.size+1))) (C:=C) (E:=iM fun _=>none) (R:=dQ) HN.out (dY (by intro d s hs;cases hs)) 1 _ _ (dZ _ _) (by kernel_rfl) (by kernel_rfl) (by kernel_rfl) (by kernel_rfl) (by simp) (by simp) rfl rfl rfl rfl rfl (xY (by kernel_rfl)) rfl (fun a x y v ja cx dd hq=>iC Tryz.isA _ rfl g9 ja (anA yA) rfl (HC6.out.2.2.1.below (HQ.out _ cx)) ((HC6.out.2.2.1.below (HQ.out _ cx)).kept dd (by simp;have:=HC6.out.2.2.2;omega)) hq) (fun _=>rfl) (fun a v=>execOp_put (ops:=#[]) _ (by intro cs b h;cases h) a _ v (by intro d hd;cases hd;decide)) H0.out ?_;refine dz Tryz.isNd rfl (by first|rfl|kernel_rfl) _ rfl g rfl (ndA a5 b5 k5 q5 z5 m) rfl (fun y=>HC6.out.1.whole.below (HQ.out _ y.h)) ?_;refine dz Tryz.isA rfl (by first|rfl|kernel_rfl) _ rfl g9 rfl (anA yA) rfl (fun y=>HC6.out.2.2.1.below (HQ.out _ y.h)) ?_;refine i7 (fun w16 hz=>?_);have bz:=HQ.out _ hz.1;refine gD Tryz.isNd _ _ rfl (w.heap.size+1) (ndA a5 b5 k5 q5 z5 m) aA rfl rfl rfl rfl HC6.out.1.own.one (HC6.out.1.f.r.below bz) ?_;intro w17 s17 g17;refine⟨g17,?_⟩;refine fI Tryz.isA rfl rfl _ _ rfl (w.heap.size+1+1) (anA yA) (anA ⟨0,[]⟩) rfl rfl rfl rfl (aB _) ((HC6.out.2.1.below bz).kept g17 (by simp)) ?_;intro w18 s18 g18;go_wp2_with fail
  refine bodyPost_ret (cZ rfl _ _ (w.heap.size+1) (w.heap.size+1+1) _ _ rfl rfl rfl rfl (s17.kept g18 (by simp)) s18) rfl ?_;rw[HY.out];have bb:=(HC6.out.1.f.below bz).b.grown g17 (HC6.out.1.f.below bz).b.size (fun k e=>by cases e;omega);exact⟨_,_,_,_,_,rfl,(((HC6.out.1.below bz).own.keptLt g17 (by omega)).putBy ((HC6.out.2.1.below bz).kept g17 (by simp)) (by decide) g18).mono (by omega),bb.grown g18 bb.size (fun k e=>by cases e;omega)⟩
section
open Go.ChangeShapes Go.WideShapes Go.ChangeAt Go.RowKit Go.Extern
theorem Tryz.isTypeOf (v:Value) (w:World):(Extern.ReflectliteType.typeOf #[.iface 328 v]).run Tryz.prog w=.ok (.iface 256 (.agg #[.pointer (some ⟨11,328,none⟩)])) w:=by kernel_rfl
theorem Tryz.isComparable (w:World):((Extern.ReflectliteType.method fun t=>do Rtype.noPackHeld "Comparable" t;pure (.bool (<-typeInfo t).comparable)) #[.agg #[.pointer (some ⟨11,328,none⟩)]]).run Tryz.prog w=.ok (.bool true) w:=by kernel_rfl
theorem Tryz.isMethodComparable (v:Value) (w:World):(Go.method 464 256 v "Comparable").run Tryz.prog w=.ok (326,v) w:=by kernel_rfl
theorem Tryz.callTypeOf (v:Value) (w:World):(callFunc 200 #[.iface 328 v]).run Tryz.prog w=.ok (.value (.iface 256 (.agg #[.pointer (some ⟨11,328,none⟩)]))) w:=by
 rw[@run_callFunc_extern Tryz.prog 200 _ Extern.ReflectliteType.typeOf Tryz.func200 (by kernel_rfl) (by kernel_rfl) (by kernel_rfl) (by kernel_rfl),Tryz.isTypeOf];rfl
theorem Tryz.callComparable (w:World):(callFunc 326 #[.agg #[.pointer (some ⟨11,328,none⟩)]]).run Tryz.prog w=.ok (.value (.bool true)) w:=by
 rw[@run_callFunc_extern Tryz.prog 326 _ (Extern.ReflectliteType.method fun t=>do Rtype.noPackHeld "Comparable" t;pure (.bool (<-typeInfo t).comparable)) Tryz.func326 (by kernel_rfl) (by kernel_rfl) (by kernel_rfl) (by kernel_rfl),Tryz.isComparable];rfl
theorem Tryz.isComp:(Tryz.prog.info? 328).map (·.comparable)=some true:=by kernel_rfl
theorem Tryz.isSize:(Tryz.prog.info? 348).map (·.size)=some 1:=by kernel_rfl
theorem Tryz.noIsE (v:Value) (xT:TypeId) (w:World):(Instr.typeAssert (.iface 328 v) xT 258 true).run Tryz.prog w=.ok (.tuple #[.nilIface,.bool false]) w:=run_typeAssert_lacksB Tryz.underlying258 (by kernel_rfl) (by kernel_rfl) v xT w
theorem Tryz.noUnwrapE (v:Value) (xT:TypeId) (w:World):(Instr.typeAssert (.iface 328 v) xT 261 true).run Tryz.prog w=.ok (.tuple #[.nilIface,.bool false]) w:=run_typeAssert_lacksB Tryz.underlying261 (by kernel_rfl) (by kernel_rfl) v xT w
theorem Tryz.noUnwrapsE (v:Value) (xT:TypeId) (w:World):(Instr.typeAssert (.iface 328 v) xT 263 true).run Tryz.prog w=.ok (.tuple #[.nilIface,.bool false]) w:=run_typeAssert_lacksB Tryz.underlying263 (by kernel_rfl) (by kernel_rfl) v xT w
theorem Tryz.noIsR (v:Value) (xT:TypeId) (w:World):(Instr.typeAssert (.iface 183 v) xT 258 true).run Tryz.prog w=.ok (.tuple #[.nilIface,.bool false]) w:=run_typeAssert_lacksB Tryz.underlying258 (by kernel_rfl) (by kernel_rfl) v xT w
theorem Tryz.hasUnwrapR (v:Value) (xT:TypeId) (w:World):(Instr.typeAssert (.iface 183 v) xT 261 true).run Tryz.prog w=.ok (.tuple #[.iface 183 v,.bool true]) w:=run_typeAssert_hasB Tryz.underlying261 (by kernel_rfl) v xT w
theorem Tryz.methodUnwrap (v:Value) (w:World):(Go.method 464 183 v "Unwrap").run Tryz.prog w=.ok (318,v) w:=by kernel_rfl
theorem mG (x y:Value) (w:World):Calls Tryz.prog 318 #[.agg #[x,y]] w fun e w'=>e=.returned x/\w'=w.alloc (.cells #[x,y] 183):=by
 go_enter Tryz.func318,Tryz.ntmps318;go_wp2;go_ret;exact⟨rfl,rfl⟩
theorem Cr (b:Addr) (y:Value) (w:World):
  Calls Tryz.prog 162 #[.iface 183 (.agg #[.iface 328 (.pointer (some b)),y]),.iface 328 (.pointer (some b))] w fun e w'=>e=.returned (.bool true)/\bB w w':=by
 obtain⟨i,hi,hcmp⟩:=Option.map_eq_some_iff.1 Tryz.isComp;obtain⟨j,hj,hjs⟩:=Option.map_eq_some_iff.1 Tryz.isSize;have tT:=Tryz.callTypeOf;have cT:=Tryz.callComparable;have mR:=Tryz.isMethodComparable;have nE:=Tryz.noIsE;have uE:=Tryz.noUnwrapE;have vE:=Tryz.noUnwrapsE;have nW:=Tryz.noIsR;have uW:=Tryz.hasUnwrapR;have mU:=Tryz.methodUnwrap;have B1:Hid (bB w (w.alloc (.cells #[.iface 328 (.pointer (some b)),y] 183))):=bA;have heq:=fun w=>run_eql_iface_ptr_same (P:=Tryz.prog) w b Tryz.underlying135 Tryz.underlying328 hi hcmp hj
 have hty:=run_eql_iface_types (P:=Tryz.prog) 183 328 (.agg #[.iface 328 (.pointer (some b)),y]) (.pointer (some b)) Tryz.underlying135 (by decide) w;clear hi hcmp hj hjs;go_enter Tryz.func162,Tryz.ntmps162;go_wp2_with (go_at_call 201;go_in)
 refine wp_loop_rounds 2 ?_;rw[rounds_succ];go_wp2_with (go_at_call 318;refine(mG _ _ _).mono ?_;rintro e w' ⟨rfl,rfl⟩)
 rw[rounds_succ];go_wp2;go_ret;exact⟨rfl,B1.out⟩
theorem AM (a b:Addr) (y:Value) (ca cb:Array Value) (ta tb:TypeId) (w:World) (hne:a≠b) (ha:w.heap[a.block]?=some (.cells ca ta (0,0))) (hb:w.heap[b.block]?=some (.cells cb tb (0,0))):
  Calls Tryz.prog 162 #[.iface 183 (.agg #[.iface 328 (.pointer (some a)),y]),.iface 328 (.pointer (some b))] w fun e w'=>e=.returned (.bool false)/\bB w w':=by
 obtain⟨i,hi,hcmp⟩:=Option.map_eq_some_iff.1 Tryz.isComp;obtain⟨j,hj,hjs⟩:=Option.map_eq_some_iff.1 Tryz.isSize;have tT:=Tryz.callTypeOf;have cT:=Tryz.callComparable;have mR:=Tryz.isMethodComparable;have nE:=Tryz.noIsE;have uE:=Tryz.noUnwrapE;have vE:=Tryz.noUnwrapsE;have nW:=Tryz.noIsR;have uW:=Tryz.hasUnwrapR;have mU:=Tryz.methodUnwrap;have B1:Hid (bB w (w.alloc (.cells #[.iface 328 (.pointer (some a)),y] 183))):=bA;have la:a.block<w.heap.size:=by
  rcases Nat.lt_or_ge a.block w.heap.size with h|h
  ·exact h
  ·rw[Array.getElem?_eq_none h]at ha;cases ha
 have lb:b.block<w.heap.size:=by
  rcases Nat.lt_or_ge b.block w.heap.size with h|h
  ·exact h
  ·rw[Array.getElem?_eq_none h]at hb;cases hb
 have heq:=run_eql_iface_ptr_other (P:=Tryz.prog) (w.alloc (.cells #[.iface 328 (.pointer (some a)),y] 183)) Tryz.underlying135 Tryz.underlying328 hi hcmp hj (by rw[hjs];decide) hne (by rw[B1.out.block _ la];exact ha) (by rw[B1.out.block _ lb];exact hb);clear ha hb la lb hne;have hty:=run_eql_iface_types (P:=Tryz.prog) 183 328 (.agg #[.iface 328 (.pointer (some a)),y]) (.pointer (some b)) Tryz.underlying135 (by decide) w;clear hi hcmp hj hjs;go_enter Tryz.func162,Tryz.ntmps162;go_wp2_with (go_at_call 201;go_in)
 refine wp_loop_rounds 2 ?_;rw[rounds_succ];go_wp2_with (go_at_call 318;refine(mG _ _ _).mono ?_;rintro e w' ⟨rfl,rfl⟩)
 rw[rounds_succ];go_wp2;go_ret;exact⟨rfl,B1.out⟩
end
section
open Go.ChangeShapes Go.WideShapes Go.ChangeAt Go.RowKit Go.Extern
theorem Tryz.asValueOf (t:Addr) (w:World):(callFunc 202 #[.iface 185 (.pointer (some t))]).run Tryz.prog w
  =.ok (.value (.agg #[.pointer (some ⟨11,185,none⟩),.pointer (some ⟨w.heap.size,0,none⟩),.int .u64 150])) (w.alloc (.cells #[.pointer (some t)] 185)):=by
 rw[@run_callFunc_extern Tryz.prog 202 _ (fun args=>ReflectliteValue.unpack (args.getD 0 (.tuple #[]))) Tryz.func202 (by kernel_rfl) (by kernel_rfl) (by kernel_rfl) (by kernel_rfl)];rw[show(ReflectliteValue.unpack ((#[.iface 185 (.pointer (some t))]:Array Value).getD 0 (.tuple #[]))).run Tryz.prog w=.ok (.agg #[.pointer (some ⟨11,185,none⟩),.pointer (some ⟨w.heap.size,0,none⟩),.int .u64 150]) (w.alloc (.cells #[.pointer (some t)] 185)) by kernel_rfl];rfl
theorem Tryz.asType (a:Addr) (w:World):(callFunc 203 #[.agg #[.pointer (some ⟨11,185,none⟩),.pointer (some a),.int .u64 150]]).run Tryz.prog w
  =.ok (.value (.iface 256 (.agg #[.pointer (some ⟨11,185,none⟩)]))) w:=by
 rw[@run_callFunc_extern Tryz.prog 203 _ (ReflectliteValue.methodAny (ReflectliteValue.valueError "reflectlite.Value.Type" 0) (fun t _ _ _=>ReflectliteType.toType t)) Tryz.func203 (by kernel_rfl) (by kernel_rfl) (by kernel_rfl) (by kernel_rfl)];rw[show(ReflectliteValue.methodAny (ReflectliteValue.valueError "reflectlite.Value.Type" 0) (fun t _ _ _=>ReflectliteType.toType t) #[.agg #[.pointer (some ⟨11,185,none⟩),.pointer (some a),.int .u64 150]]).run Tryz.prog w=.ok (.iface 256 (.agg #[.pointer (some ⟨11,185,none⟩)])) w by kernel_rfl];rfl
theorem Tryz.asMethodKind (h:Value) (w:World):(Go.method 464 256 (.agg #[h]) "Kind").run Tryz.prog w=.ok (306,h) w:=by kernel_rfl
theorem Tryz.asKindP (w:World):(callFunc 306 #[.pointer (some ⟨11,185,none⟩)]).run Tryz.prog w=.ok (.value (.int .u8 22)) w:=by
 rw[@run_callFunc_extern Tryz.prog 306 _ (ReflectliteType.abiMethod fun t=>do pure (.int .u8 (<-Rtype.kind t))) Tryz.func306 (by kernel_rfl) (by kernel_rfl) (by kernel_rfl) (by kernel_rfl)];rw[show((ReflectliteType.abiMethod fun t=>do pure (.int .u8 (<-Rtype.kind t))) #[.pointer (some ⟨11,185,none⟩)]).run Tryz.prog w=.ok (.int .u8 22) w by kernel_rfl];rfl
theorem Tryz.asKindR (w:World):(callFunc 306 #[.pointer (some ⟨11,183,none⟩)]).run Tryz.prog w=.ok (.value (.int .u8 25)) w:=by
 rw[@run_callFunc_extern Tryz.prog 306 _ (ReflectliteType.abiMethod fun t=>do pure (.int .u8 (<-Rtype.kind t))) Tryz.func306 (by kernel_rfl) (by kernel_rfl) (by kernel_rfl) (by kernel_rfl)];rw[show((ReflectliteType.abiMethod fun t=>do pure (.int .u8 (<-Rtype.kind t))) #[.pointer (some ⟨11,183,none⟩)]).run Tryz.prog w=.ok (.int .u8 25) w by kernel_rfl];rfl
theorem rlm (z:Sem Value) (f:TypeId->Addr->Nat->Nat->Sem Value) (v:Value):
  ReflectliteValue.method z f #[v]=(do match<-ReflectliteValue.parts v with|none=>z|some (t,a,fl)=>f t a fl (fl%32)):=rfl
theorem Tryz.asPartsP (a:Addr) (w:World):(ReflectliteValue.parts (.agg #[.pointer (some ⟨11,185,none⟩),.pointer (some a),.int .u64 150])).run Tryz.prog w=.ok (some (185,a,150)) w:=by kernel_rfl
theorem Tryz.asIsNil (a p:Addr) (W:World) (ha:W.cell? a=some (.pointer (some p))):
  (callFunc 204 #[.agg #[.pointer (some ⟨11,185,none⟩),.pointer (some a),.int .u64 150]]).run Tryz.prog W=.ok (.value (.bool false)) W:=by
 rw[@run_callFunc_extern Tryz.prog 204 _ (ReflectliteValue.method (ReflectliteValue.valueError "reflectlite.Value.IsNil" 0) ReflectliteValue.isNil) Tryz.func204 (by kernel_rfl) (by kernel_rfl) (by kernel_rfl) (by kernel_rfl)];rw[rlm];simp only[Sem.run_bind,Tryz.asPartsP,Result.andThen];simp[ReflectliteValue.isNil,loadVar,isAgg,underlying,Tryz.underlying185,ha,Result.andThen]
theorem Tryz.asMethodElem (h:Value) (w:World):(Go.method 464 256 (.agg #[h]) "Elem").run Tryz.prog w=.ok (327,.agg #[h]) w:=by kernel_rfl
theorem Tryz.asMethodImplements (h:Value) (w:World):(Go.method 464 256 (.agg #[h]) "Implements").run Tryz.prog w=.ok (328,.agg #[h]) w:=by kernel_rfl
theorem Tryz.asMethodAssignableTo (h:Value) (w:World):(Go.method 464 256 (.agg #[h]) "AssignableTo").run Tryz.prog w=.ok (325,.agg #[h]) w:=by kernel_rfl
theorem Tryz.asElemT (w:World):(callFunc 327 #[.agg #[.pointer (some ⟨11,185,none⟩)]]).run Tryz.prog w=.ok (.value (.iface 256 (.agg #[.pointer (some ⟨11,183,none⟩)]))) w:=by
 rw[@run_callFunc_extern Tryz.prog 327 _ (ReflectliteType.method ReflectliteType.elem) Tryz.func327 (by kernel_rfl) (by kernel_rfl) (by kernel_rfl) (by kernel_rfl)];rw[show(ReflectliteType.method ReflectliteType.elem #[.agg #[.pointer (some ⟨11,185,none⟩)]]).run Tryz.prog w=.ok (.iface 256 (.agg #[.pointer (some ⟨11,183,none⟩)])) w by kernel_rfl];rfl
theorem Tryz.asImplements (w:World):(callFunc 328 #[.agg #[.pointer (some ⟨11,183,none⟩)],.iface 256 (.agg #[.pointer (some ⟨11,135,none⟩)])]).run Tryz.prog w=.ok (.value (.bool true)) w:=by
 rw[@run_callFunc_extern Tryz.prog 328 _ (ReflectliteType.relation "Implements" ReflectliteType.implements_) Tryz.func328 (by kernel_rfl) (by kernel_rfl) (by kernel_rfl) (by kernel_rfl)];rw[show(ReflectliteType.relation "Implements" ReflectliteType.implements_ #[.agg #[.pointer (some ⟨11,183,none⟩)],.iface 256 (.agg #[.pointer (some ⟨11,135,none⟩)])]).run Tryz.prog w=.ok (.bool true) w by kernel_rfl];rfl
theorem Tryz.asTypeOf (v:Value) (w:World):(callFunc 200 #[.iface 183 v]).run Tryz.prog w=.ok (.value (.iface 256 (.agg #[.pointer (some ⟨11,183,none⟩)]))) w:=by
 rw[@run_callFunc_extern Tryz.prog 200 _ Extern.ReflectliteType.typeOf Tryz.func200 (by kernel_rfl) (by kernel_rfl) (by kernel_rfl) (by kernel_rfl)];rw[show(Extern.ReflectliteType.typeOf #[.iface 183 v]).run Tryz.prog w=.ok (.iface 256 (.agg #[.pointer (some ⟨11,183,none⟩)])) w by kernel_rfl];rfl
theorem Tryz.asAssignable (w:World):(callFunc 325 #[.agg #[.pointer (some ⟨11,183,none⟩)],.iface 256 (.agg #[.pointer (some ⟨11,183,none⟩)])]).run Tryz.prog w=.ok (.value (.bool true)) w:=by
 rw[@run_callFunc_extern Tryz.prog 325 _ (ReflectliteType.relation "AssignableTo" ReflectliteType.assignableTo) Tryz.func325 (by kernel_rfl) (by kernel_rfl) (by kernel_rfl) (by kernel_rfl)];rw[show(ReflectliteType.relation "AssignableTo" ReflectliteType.assignableTo #[.agg #[.pointer (some ⟨11,183,none⟩)],.iface 256 (.agg #[.pointer (some ⟨11,183,none⟩)])]).run Tryz.prog w=.ok (.bool true) w by kernel_rfl];rfl
theorem Tryz.asValueOfR (t:TypeId) (p:Value) (s:ByteArray) (w:World):(callFunc 202 #[.iface 183 (.agg #[.iface t p,.string s])]).run Tryz.prog w
  =.ok (.value (.agg #[.pointer (some ⟨11,183,none⟩),.pointer (some ⟨w.heap.size,0,none⟩),.int .u64 153])) (w.alloc (.cells #[.iface t p,.string s] 183)):=by
 rw[@run_callFunc_extern Tryz.prog 202 _ (fun args=>ReflectliteValue.unpack (args.getD 0 (.tuple #[]))) Tryz.func202 (by kernel_rfl) (by kernel_rfl) (by kernel_rfl) (by kernel_rfl)];rw[show(ReflectliteValue.unpack ((#[.iface 183 (.agg #[.iface t p,.string s])]:Array Value).getD 0 (.tuple #[]))).run Tryz.prog w=.ok (.agg #[.pointer (some ⟨11,183,none⟩),.pointer (some ⟨w.heap.size,0,none⟩),.int .u64 153]) (w.alloc (.cells #[.iface t p,.string s] 183)) by kernel_rfl];rfl
theorem Tryz.asElemOf (w:World):(Rtype.elem? 185).run Tryz.prog w=.ok (some 183) w:=by kernel_rfl
theorem Tryz.asMk (p:Addr) (w:World):(ReflectliteValue.mk 183 p ReflectliteValue.flagAddr).run Tryz.prog w=.ok (.agg #[.pointer (some ⟨11,183,none⟩),.pointer (some p),.int .u64 409]) w:=by kernel_rfl
theorem Tryz.asElemV (a p:Addr) (W:World) (ha:W.cell? a=some (.pointer (some p))):
  (callFunc 239 #[.agg #[.pointer (some ⟨11,185,none⟩),.pointer (some a),.int .u64 150]]).run Tryz.prog W
   =.ok (.value (.agg #[.pointer (some ⟨11,183,none⟩),.pointer (some p),.int .u64 409])) W:=by
 rw[@run_callFunc_extern Tryz.prog 239 _ (ReflectliteValue.method (ReflectliteValue.valueError "reflectlite.Value.Elem" 0) ReflectliteValue.elem) Tryz.func239 (by kernel_rfl) (by kernel_rfl) (by kernel_rfl) (by kernel_rfl)];rw[rlm];simp only[Sem.run_bind,Tryz.asPartsP,Result.andThen];simp[ReflectliteValue.elem,loadVar,isAgg,underlying,Tryz.underlying185,ha,Result.andThen,Tryz.asElemOf,Tryz.asMk]
theorem rls (v x:Value):ReflectliteValue.set #[v,x]=(do
  let(some (dst,a,fl),some (src,b,_)):=(<-ReflectliteValue.parts v,<-ReflectliteValue.parts x)
   |unsupported (.noEntry "extern/(internal/reflectlite.Value).Set.zeroValue")
  if fl/ReflectliteValue.flagAddr%2==0 then unsupported (.noEntry "extern/(internal/reflectlite.Value).Set.unaddressable")
  let val<-loadVar src b
  if<-Rtype.directlyAssignable dst src then storeVar dst a val
  else if<-Rtype.implements dst src then
   if(<-Rtype.kind src)==20 then
    match val with
    | .nilIface=>unsupported (.noEntry "extern/reflectlite: a nil value of one interface type handed on as a value of another")
    |_=>storeVar dst a val
   else storeVar dst a (.iface src val)
  else panicString ("reflectlite.Set: value of type "++(<-Rtype.spelt src)++ " is not assignable to type "++(<-Rtype.spelt dst))
  pure (.tuple #[])):=rfl
theorem Tryz.asPartsA (a:Addr) (w:World):(ReflectliteValue.parts (.agg #[.pointer (some ⟨11,183,none⟩),.pointer (some a),.int .u64 409])).run Tryz.prog w=.ok (some (183,a,409)) w:=by kernel_rfl
theorem Tryz.asPartsR (a:Addr) (w:World):(ReflectliteValue.parts (.agg #[.pointer (some ⟨11,183,none⟩),.pointer (some a),.int .u64 153])).run Tryz.prog w=.ok (some (183,a,153)) w:=by kernel_rfl
theorem Tryz.asDirect (w:World):(Rtype.directlyAssignable 183 183).run Tryz.prog w=.ok true w:=by kernel_rfl
theorem Tryz.asSize (w:World):(sizeOf 183).run Tryz.prog w=.ok 2 w:=by kernel_rfl
end
end Go.Proofs.YthldeiojlllkdaaGreatDoor
