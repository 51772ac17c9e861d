/- Copiers by the model: l13Turns, CopierOk, Clean. -/
import Derived.Test.YthldeiojlllkdaaGreatDoorM1
import Derived.Test.YthldeiojlllkdaaGreatDoorM7
import Derived.Test.YthldeiojlllkdaaGreatDoorM4
import Derived.Test.YthldeiojlllkdaaGreatDoorM8
import Derived.Test.YthldeiojlllkdaaGreatDoorM3
import Derived.BigRegion
import Derived.Deep.RegionHeld3
import Derived.Deep.DeepCutAuto
import Derived.Test.YthldeiojlllkdaaGreatDoorM2
set_option maxRecDepth 20000
set_option maxHeartbeats 2000000
namespace Go.Proofs.YthldeiojlllkdaaGreatDoor
open Go.ChangeShapes Go.WideShapes Go.ChangeAt Go.RowKit
def cpA (v:Value) (c:Cp):Array Value:=#[.int .i64 c.tr,.bool c.op,.int .i64 c.di,.int .i64 c.wa,v]
def CpV (v:Value) (c:Cp):Value:=.agg (cpA v c)
def cQ:Array Value:=#[.int .i64 0,.bool false,.int .i64 0,.int .i64 0,.slice none 0 0]
theorem xl:cQ.all (·.oneCell')=true:=by simp[cQ,Value.oneCell']
theorem Tryz.isCp:IsS 39 5:=⟨⟨_,Tryz.underlying39⟩,by kernel_rfl⟩
theorem lD {v:Value} (c:Cp) (hv:v.oneCell'=true):(cpA v c).all (·.oneCell')=true:=by
 unfold cpA;simp[hv,show∀k n,(Value.int k n).oneCell'=true from fun _ _=>rfl,show∀b,(Value.bool b).oneCell'=true from fun _=>rfl]
theorem pa (v:Value) (ts:List Int) (w:World) (hr:ag w v ts) (hl:ts.length<=1099511627776):
  Calls Tryz.prog 89 #[v] w fun e w'=>e=.returned (.bool (bg ts&&inI ts.length 1 8))/\w'=w:=by
 have HE:Hid (∀b:Bool,bg ts=b->(bg ts&&inI ts.length 1 8)=(b&&inI ts.length 1 8)):=fun b h=>by rw[h]
 obtain⟨ao,cap,rfl⟩:=aa hr;obtain⟨-,hc1,hc2,hcell⟩:=aK hr;have ck:=fun x wx=>aL x 0 1000000000 wx
 have cl:=fun wx=>aL (ts.length:Int) 1 8 wx
 obtain⟨x,hx⟩:=eX ((bg ts&&inI ts.length 1 8))
 simp only[<-hx]at HE⊢;obtain⟨y,hy⟩:=eX (inI ts.length 1 8)
 simp only[<-hy]at HE cl;obtain⟨n,hn⟩:=eX ts.length
 rw[<-hn]at hl hc1 hcell;simp only[<-hn]at cl⊢;have HN:Hid (n=ts.length):=hn;unfold maxLen at hc2;clear hr hn hx hy;go_enter Tryz.func89,Tryz.ntmps89;go_wp2;go_loop [3] (fun i=>∃j:Nat,j<=n/\i=.int .i64 j/\Hid (bg (ts.take j)=true)) (fun i=>n-(intOf i).toNat)
 case atStart=>exact⟨0,Nat.zero_le _,rfl,by simp[Hid,bg]⟩
 case round=>
  obtain⟨j,hj,rfl,HT⟩:=hrel;by_cases hlt:(j:Int)<(n:Int)
  ·obtain⟨b,off,rfl,hcj⟩:=hcell j (by omega)
   clear hcell cl;have hjl:j<ts.length:=by have:=HN.out;omega
   have HA:Hid (inI (ts.getD j 0) 0 1000000000=false->bg ts=false):=qa ts j hjl;have HZ:Hid (inI (ts.getD j 0) 0 1000000000=true->bg (ts.take (j+1))=true):=nL ts j hjl HT.out;have ckj:=fun wx=>ck (ts.getD j 0) wx
   obtain⟨z,hz⟩:=eX (ts.getD j 0)
   rw[<-hz]at hcj HA HZ;simp only[<-hz]at ckj;obtain⟨bz,hbz⟩:=eX (inI z 0 1000000000)
   rw[<-hbz]at HA HZ;simp only[<-hbz]at ckj;clear hz hjl hbz ck;go_wp2_with fail
   refine mo (ckj _) ?_;cases bz with
   |true=>
    have HZ2:Hid (bg (ts.take (j+1))=true):=HZ.out rfl;clear HZ HA;go_wp2
    go_round
    case rel=>exact⟨j+1,by omega,by go_num,HZ2.out⟩
    case measure=>simp[intOf];omega
   |false=>
    have HX:Hid (x=false):=by rw[Hid,HE.out false (HA.out rfl)];rfl
    clear HZ HA;go_wp2;go_ret;rw[HX.out];exact⟨rfl,rfl⟩
  ·have HX:Hid (x=y):=by
    have:=HT.out;rw[List.take_of_length_le (by have:=HN.out;omega)]at this;rw[Hid,HE.out true this];rfl
   clear HT ck;go_wp2_with fail
   refine mo (cl _) ?_;go_wp2;go_ret;rw[HX.out];exact⟨rfl,rfl⟩
theorem xm (v:Value) (c:Cp) (w:World) (hr:ag w v c.ts) (hl:c.ts.length<=1099511627776):
  Calls Tryz.prog 48 #[CpV v c] w fun e w'=>e=.returned (.bool c.ok)/\bB w w':=by
 have HE:Hid (c.ok=if c.tr=0 then(!c.op&&decide (c.di=0)&&decide (c.wa=0)&&decide (c.ts.length=0))else(inI c.tr 1 100000&&(bg c.ts&&inI c.ts.length 1 8)&&(inI c.di 0 (cN c.ts.length)&&inI c.wa 0 (cN c.ts.length)))):=rfl;obtain⟨ao,cap,rfl⟩:=aa hr;obtain⟨w1,hw1⟩:=eX (w.alloc (.cells (cpA (.slice ao c.ts.length cap) c) 39))
 have H1:StB w1 w.heap.size 39 (cpA (.slice ao c.ts.length cap) c):=by rw[hw1];exact StB.new _ _ _
 have HB:Hid (bB w w1):=by rw[hw1];exactbA
 have HW:Hid (w1=w.alloc (.cells #[.int .i64 c.tr,.bool c.op,.int .i64 c.di,.int .i64 c.wa,.slice ao c.ts.length cap] 39)):=hw1;have k0:w1.cell? ⟨w.heap.size,0,none⟩=some (.int .i64 c.tr):=H1.cell 0 rfl;have k1:w1.cell? ⟨w.heap.size,1,none⟩=some (.bool c.op):=H1.cell 1 rfl;have k2:w1.cell? ⟨w.heap.size,2,none⟩=some (.int .i64 c.di):=H1.cell 2 rfl;have k3:w1.cell? ⟨w.heap.size,3,none⟩=some (.int .i64 c.wa):=H1.cell 3 rfl;have k4:w1.cell? ⟨w.heap.size,4,none⟩=some (.slice ao c.ts.length cap):=H1.cell 4 rfl;have ct:=fun wx=>aL c.tr 1 100000 wx
 have cs:=pa (.slice ao c.ts.length cap) c.ts w1 (hr.below HB.out (Nat.le_refl _)) hl;have cf:=fun wx=>Af (c.ts.length:Int) wx
 have cd:=fun wx=>aL c.di 0 (cN c.ts.length) wx
 have cw:=fun wx=>aL c.wa 0 (cN c.ts.length) wx
 obtain⟨x,hx⟩:=eX c.ok
 rw[<-hx]at HE⊢;obtain⟨bt,hbt⟩:=eX (inI c.tr 1 100000)
 rw[<-hbt]at HE;simp only[<-hbt]at ct;obtain⟨bs,hbs⟩:=eX ((bg c.ts&&inI c.ts.length 1 8))
 rw[<-hbs]at HE;simp only[<-hbs]at cs;obtain⟨f,hf⟩:=eX (cN c.ts.length)
 rw[<-hf]at HE;simp only[<-hf]at cf cd cw;obtain⟨bd,hbd⟩:=eX (inI c.di 0 f)
 rw[<-hbd]at HE;simp only[<-hbd]at cd;obtain⟨bw,hbw⟩:=eX (inI c.wa 0 f)
 rw[<-hbw]at HE;simp only[<-hbw]at cw;obtain⟨n,hn⟩:=eX c.ts.length
 rw[<-hn]at hl k4 HW HE cs;simp only[<-hn]at cf;unfold CpV cpA;rw[<-hn];clear hw1 H1 hr hn hx hbt hbs hf hbd hbw;by_cases ht:c.tr=0
 ·have HX:Hid (x=(!c.op&&decide (c.di=0)&&decide (c.wa=0)&&decide (n=0))):=by rw[Hid,HE.out,if_pos ht]
  clear HE ct cs cf cd cw;have e1:(c.tr==0)=true:=by simpa using ht
  have HX2:Hid (x=(!c.op&&(c.di==0)&&(c.wa==0)&&((n:Int)==0))):=by
   rw[Hid,HX.out]
   congr 1
   rw[Bool.eq_iff_iff];simp
  clear HX;cases ho:c.op with
  |true=>
   rw[ho]at HX2 HW k1;go_enter Tryz.func48,Tryz.ntmps48;go_wp2;go_ret;exact⟨af (by rw[HX2.out];rfl),bA⟩
  |false=>
   rw[ho]at HX2 HW k1;by_cases hd:c.di=0
   ·by_cases hw:c.wa=0
    ·by_cases hn0:(n:Int)=0
     ·go_enter Tryz.func48,Tryz.ntmps48
      go_wp2;go_ret;exact⟨af (by rw[HX2.out];simp[hd,hw,hn0]),bA⟩
     ·go_enter Tryz.func48,Tryz.ntmps48
      go_wp2;go_ret;exact⟨af (by rw[HX2.out];simp[hd,hw]),bA⟩
    ·go_enter Tryz.func48,Tryz.ntmps48
     go_wp2;go_ret;exact⟨af (by rw[HX2.out];simp[hd,hw]),bA⟩
   ·go_enter Tryz.func48,Tryz.ntmps48
    go_wp2;go_ret;exact⟨af (by rw[HX2.out];simp[hd]),bA⟩
 ·have HX:Hid (x=(bt&&bs&&(bd&&bw))):=by rw[Hid,HE.out,if_neg ht]
  have e1:(c.tr==0)=false:=by simpa using ht
  clear HE;go_enter Tryz.func48,Tryz.ntmps48;go_wp2_with fail
  rw[<-HW.out];refine mo (ct _) ?_;clear ct;cases bt with
  |false=>
   go_wp2;go_ret;exact⟨af (by rw[HX.out];rfl),HB.out⟩
  |true=>
   go_wp2_with fail
   refine mo cs ?_;clear cs;cases bs with
   |false=>
    go_wp2;go_ret;exact⟨af (by rw[HX.out];rfl),HB.out⟩
   |true=>
    go_wp2_with fail
    refine mo (cf _) ?_;clear cf;go_wp2_with fail
    refine mo (cd _) ?_;clear cd;cases bd with
    |false=>
     go_wp2;go_ret;exact⟨af (by rw[HX.out];rfl),HB.out⟩
    |true=>
     go_wp2_with fail
     refine mo (cw _) ?_;clear cw;go_wp2;go_ret;exact⟨af (by rw[HX.out];rfl),HB.out⟩
def snA (v:Value) (c:Sn):Array Value:=#[.int .i64 c.tr,v]
def SnV (v:Value) (c:Sn):Value:=.agg (snA v c)
def fw:Array Value:=#[.int .i64 0,.slice none 0 0]
theorem Tryz.isSn:IsS 40 2:=⟨⟨_,Tryz.underlying40⟩,by kernel_rfl⟩
theorem sx {v:Value} (c:Sn) (hv:v.oneCell'=true):(snA v c).all (·.oneCell')=true:=by
 unfold snA;simp[hv,show∀k n,(Value.int k n).oneCell'=true from fun _ _=>rfl]
theorem uY (v:Value) (c:Sn) (w:World) (hr:ag w v c.ts) (hl:c.ts.length<=1099511627776):
  Calls Tryz.prog 49 #[SnV v c] w fun e w'=>e=.returned (.bool c.ok)/\bB w w':=by
 have HE:Hid (c.ok=if c.tr=0 then decide (c.ts.length=0)else(inI c.tr 1 100000&&(bg c.ts&&inI c.ts.length 1 8))):=rfl;obtain⟨ao,cap,rfl⟩:=aa hr;obtain⟨w1,hw1⟩:=eX (w.alloc (.cells (snA (.slice ao c.ts.length cap) c) 40))
 have H1:StB w1 w.heap.size 40 (snA (.slice ao c.ts.length cap) c):=by rw[hw1];exact StB.new _ _ _
 have HB:Hid (bB w w1):=by rw[hw1];exactbA
 have HW:Hid (w1=w.alloc (.cells #[.int .i64 c.tr,.slice ao c.ts.length cap] 40)):=hw1;have k0:w1.cell? ⟨w.heap.size,0,none⟩=some (.int .i64 c.tr):=H1.cell 0 rfl;have k1:w1.cell? ⟨w.heap.size,1,none⟩=some (.slice ao c.ts.length cap):=H1.cell 1 rfl;have ct:=fun wx=>aL c.tr 1 100000 wx
 have cs:=pa (.slice ao c.ts.length cap) c.ts w1 (hr.below HB.out (Nat.le_refl _)) hl;obtain⟨x,hx⟩:=eX c.ok
 rw[<-hx]at HE⊢;obtain⟨bt,hbt⟩:=eX (inI c.tr 1 100000)
 rw[<-hbt]at HE;simp only[<-hbt]at ct;obtain⟨bs,hbs⟩:=eX ((bg c.ts&&inI c.ts.length 1 8))
 rw[<-hbs]at HE;simp only[<-hbs]at cs;obtain⟨n,hn⟩:=eX c.ts.length
 rw[<-hn]at hl k1 HW HE cs;unfold SnV snA;rw[<-hn];clear hw1 H1 hr hn hx hbt hbs;by_cases ht:c.tr=0
 ·have HX:Hid (x=((n:Int)==0)):=by
   rw[Hid,HE.out,if_pos ht,Bool.eq_iff_iff];simp
  have e1:(c.tr==0)=true:=by simpa using ht
  clear HE ct cs;go_enter Tryz.func49,Tryz.ntmps49;go_wp2;go_ret;exact⟨af (by rw[HX.out]),bA⟩
 ·have HX:Hid (x=(bt&&bs)):=by rw[Hid,HE.out,if_neg ht]
  have e1:(c.tr==0)=false:=by simpa using ht
  clear HE;go_enter Tryz.func49,Tryz.ntmps49;go_wp2_with fail
  rw[<-HW.out];refine mo (ct _) ?_;clear ct;cases bt with
  |false=>
   go_wp2;go_ret;exact⟨af (by rw[HX.out];rfl),HB.out⟩
  |true=>
   go_wp2_with fail
   refine mo cs ?_;clear cs;go_wp2;go_ret;exact⟨af (by rw[HX.out];rfl),HB.out⟩
theorem xv (v:Value) (c:Sn) (w:World) (hr:ag w v c.ts) (hl:c.ts.length<=1099511627776):
  Calls Tryz.prog 54 #[SnV v c] w fun e w'=>∃u,e=.returned (SnV u c)/\Own w' w.heap.size u c.ts/\bB w w':=by
 obtain⟨w1,hw1⟩:=eX ((w.alloc (.cells (snA v c) 40)).alloc (.cells fw 40))
 have p0:StB w1 w.heap.size 40 (snA v c):=by rw[hw1];exact(StB.new w _ _).alloc _
 have q0:StB w1 (w.heap.size+1) 40 fw:=by
  rw[hw1];have:=StB.new (w.alloc (.cells (snA v c) 40)) 40 fw
  rwa[World.size_alloc]at this
 have b1:bB w w1:=by rw[hw1];exactbA.alloc (by simp) _
 have c1:=gL v c.ts w1 (hr.below b1 (Nat.le_refl _)) hl;have hs1:=q0.lt;obtain⟨ao,cap,rfl⟩:=aa hr;have HW:Hid (w1=(w.alloc (.cells #[.int .i64 c.tr,.slice ao c.ts.length cap] 40)).alloc (.cells #[.int .i64 0,.slice none 0 0] 40)):=hw1;have k1:w1.cell? ⟨w.heap.size,1,none⟩=some (.slice ao c.ts.length cap):=p0.cell 1 rfl;clear hw1 hr hl;unfold SnV snA;go_enter Tryz.func54,Tryz.ntmps54;go_wp2_with fail
 rw[<-HW.out];clear HW;refine c1.mono ?_;rintro e w3 ⟨u,rfl,o3,b3⟩;replace p0:=p0.below b3;replace q0:=q0.below b3;have B3:=b1.trans (b3.mono b1.size);obtain⟨ab,cb,rfl⟩:=aa o3.reads;have k0:w3.cell? ⟨w.heap.size,1,none⟩=some (.slice ao c.ts.length cap):=p0.cell 1 rfl;have f0:=p0.frozen 1;have r4:=p0.put 1 (.slice ab c.ts.length cb) (ds:=snA (.slice ab c.ts.length cb) c) rfl;have q4:=q0.other ⟨w.heap.size,1,none⟩ (.slice ab c.ts.length cb) (by simp);have HP:Hid (Own (w3.setCell ⟨w.heap.size,1,none⟩ (.slice ab c.ts.length cb)) w1.heap.size (.slice ab c.ts.length cb) c.ts/\bB w (w3.setCell ⟨w.heap.size,1,none⟩ (.slice ab c.ts.length cb))):=⟨o3.setLt (by omega) 1 _,B3.setCell (Nat.le_refl _) _⟩
 clear k1 p0 q0 c1 o3 b3 b1 B3;go_upto_region 2 with fail
 obtain⟨w4,hw4⟩:=eX (w3.setCell ⟨w.heap.size,1,none⟩ (.slice ab c.ts.length cb))
 rw[<-hw4]at r4 q4 HP⊢;clear hw4 k0 f0;go_wp2_with (first|(refine ah Tryz.isSn rfl _ rfl w.heap.size rfl (snA (.slice ab c.ts.length cb) c) rfl r4 ?_)|(refine ae Tryz.isSn rfl _ _ rfl (w.heap.size+1) (snA (.slice ab c.ts.length cb) c) fw rfl rfl rfl rfl (sx c rfl) q4 ?_;intro w8 s8 g8))
 refine bodyPost_ret (aj Tryz.isSn rfl _ _ (w.heap.size+1) _ rfl rfl s8) rfl ?_;exact⟨_,rfl,(HP.out.1.keptLt g8 (by omega)).mono (by omega),HP.out.2.grown g8 HP.out.2.size (fun k e=>by cases e;omega)⟩
theorem oU (r:Rc) (w:World):
  Calls Tryz.prog 47 #[RV r] w fun e w'=>e=.returned (.bool r.ok)/\bB w w':=by
 have c1:=fun wx=>kx r.e wx
 have c2:=fun wx=>uI r.s 1 3 wx
 have c3:=fun wx=>kx r.t wx
 have c4:=fun wx=>kx r.n wx
 have hst:(decide (1<=r.s)&&decide (r.s<=3))=stI r.s:=rfl;simp only[hst]at c2;have hok:r.ok=(epI r.e&&stI r.s&&epI r.t&&epI r.n):=rfl;rw[hok];have hb:bB w (w.alloc (.cells (db r) 38)):=bA;obtain⟨x1,x2,x3,x4⟩:=r;dsimp only at c1 c2 c3 c4⊢;unfold RV db at*;dsimp only at hb⊢;obtain⟨b1,h1⟩:=eX (epI x1)
 obtain⟨b2,h2⟩:=eX (stI x2)
 obtain⟨b3,h3⟩:=eX (epI x3)
 obtain⟨b4,h4⟩:=eX (epI x4)
 simp only[<-h1,<-h2,<-h3,<-h4]at c1 c2 c3 c4⊢;clear h1 h2 h3 h4 hok hst;go_enter Tryz.func47,Tryz.ntmps47;go_wp2_with fail
 refine mo (c1 _) ?_;cases b1 with
 |false=>
  go_wp2_with fail
  go_ret;exact⟨rfl,hb⟩
 |true=>
  go_wp2_with fail
  refine mo (c2 _) ?_;cases b2 with
  |false=>
   go_wp2_with fail
   go_ret;exact⟨rfl,hb⟩
  |true=>
   go_wp2_with fail
   refine mo (c3 _) ?_;cases b3 with
   |false=>
    go_wp2_with fail
    go_ret;exact⟨rfl,hb⟩
   |true=>
    go_wp2_with fail
    refine mo (c4 _) ?_;go_wp2_with fail
    go_ret;exact⟨rfl,hb⟩
theorem xd (r:Rc) (w:World):
  Calls Tryz.prog 185 #[RV r] w fun e w'=>e=.returned (.bool r.ok)/\bB w w':=by
 have c1:=fun wx=>ky r.e wx
 have c2:=fun wx=>wX r.s wx
 have c3:=fun wx=>ky r.t wx
 have c4:=fun wx=>ky r.n wx
 have hok:r.ok=(epI r.e&&stI r.s&&epI r.t&&epI r.n):=rfl;rw[hok];have hb:bB w (w.alloc (.cells (db r) 38)):=bA;obtain⟨x1,x2,x3,x4⟩:=r;dsimp only at c1 c2 c3 c4⊢;unfold RV db at*;dsimp only at hb⊢;obtain⟨b1,h1⟩:=eX (epI x1)
 obtain⟨b2,h2⟩:=eX (stI x2)
 obtain⟨b3,h3⟩:=eX (epI x3)
 obtain⟨b4,h4⟩:=eX (epI x4)
 simp only[<-h1,<-h2,<-h3,<-h4]at c1 c2 c3 c4⊢;clear h1 h2 h3 h4 hok;go_enter Tryz.func185,Tryz.ntmps185;go_wp2_with fail
 refine mo (c1 _) ?_;cases b1 with
 |false=>
  go_wp2_with fail
  go_ret;exact⟨rfl,hb⟩
 |true=>
  go_wp2_with fail
  refine mo (c2 _) ?_;cases b2 with
  |false=>
   go_wp2_with fail
   go_ret;exact⟨rfl,hb⟩
  |true=>
   go_wp2_with fail
   refine mo (c3 _) ?_;cases b3 with
   |false=>
    go_wp2_with fail
    go_ret;exact⟨rfl,hb⟩
   |true=>
    go_wp2_with fail
    refine mo (c4 _) ?_;go_wp2_with fail
    go_ret;exact⟨rfl,hb⟩
theorem Tryz.infoR:(Tryz.prog.info? 38).map (·.size)=some 4:=by kernel_rfl
theorem Tryz.underR:∃fs,Tryz.prog.underlying 38=some (.struct fs):=⟨_,Tryz.underlying38⟩
theorem Bw (r:Rc):(db r).all (·.oneCell')=true:=by simp[db,Value.oneCell']
def cD (w:World) (g:Nat) (t:TypeId) (r:Rc):Prop:=w.heap[g]?=some (.cells (db r) t (0,0))
theorem cD.lt {w:World} {g:Nat} {t:TypeId} {r:Rc} (h:cD w g t r):g<w.heap.size:=by
 rcases Nat.lt_or_ge g w.heap.size with hlt|hge
 ·exact hlt
 ·rw[cD,Array.getElem?_eq_none hge]at h;cases h
theorem cD.new (w:World) (t:TypeId) (r:Rc):cD (w.alloc (.cells (db r) t)) w.heap.size t r:=heap_alloc_new w _
theorem cD.below {w w':World} {g:Nat} {t:TypeId} {r:Rc} (h:cD w g t r) (hb:bB w w'):cD w' g t r:=(hb.block g h.lt).trans h
theorem cD.kept {w w':World} {g:Nat} {t:TypeId} {r:Rc} {row:Option Nat} (h:cD w g t r) (hg:w.grownBy w' row) (hne:some g≠row):cD w' g t r:=(hg.block g h.lt hne).trans h
theorem cD.alloc {w:World} {g:Nat} {t:TypeId} {r:Rc} (h:cD w g t r) (o:Obj):cD (w.alloc o) g t r:=(Below.heap_alloc w o g h.lt).trans h
theorem cD.cell {w:World} {g:Nat} {t:TypeId} {r:Rc} (h:cD w g t r) (j:Nat) {x:Value} (e:(db r)[j]?=some x):w.cell? ⟨g,j,none⟩=some x:=by rw[cell_of_row w g j _ _ _ h,e]
theorem cD.frozen {w:World} {g:Nat} {t:TypeId} {r:Rc} (h:cD w g t r) (j:Nat):w.frozen? ⟨g,j,none⟩=false:=frozen_of_row w g j _ _ h
theorem zN (w:World) (g:Nat) (cs:Array Value):w.grownBy (w.setRow g cs) (some g):=
 ⟨rfl,rfl,rfl,by simp,fun k _ hne=>_root_.Go.setRow_other w g k cs (fun e=>hne (by rw[e]))⟩
theorem ie {ops:Array Oper} {rest:List Oper} {o:Oper} {a:Act} {w:World} {Q:Exit->Act->World->Prop} (hgd:o.guard=none) (x:Operand) (ho:o.op=.load 38 x)
  (g:Nat) (hx:a.eval x=.pointer (some ⟨g,0,none⟩)) (r:Rc) (hr:cD w g 38 r)
  (h:wpList Tryz.prog ops Q rest (a.put o.dst (RV r)) w):wpList Tryz.prog ops Q (o::rest) a w:=by
 obtain⟨fs,hu⟩:=Tryz.underR;exact wpList_load_row hgd _ x ho g hx _ _ _ _ hr hu rfl Tryz.infoR h
theorem cP {ops:Array Oper} {rest:List Oper} {o:Oper} {a:Act} {w:World} {Q:Exit->Act->World->Prop} (hgd:o.guard=none) (x y:Operand) (ho:o.op=.store 38 x y)
  (g:Nat) (r r':Rc) (hx:a.eval x=.pointer (some ⟨g,0,none⟩)) (hy:a.eval y=RV r) (hr:cD w g 38 r')
  (h:∀w',cD w' g 38 r->w.grownBy w' (some g)->wpList Tryz.prog ops Q rest (a.put o.dst undef) w'):wpList Tryz.prog ops Q (o::rest) a w:=
 wpList_store_row hgd _ x y ho g (db r) hx hy _ _ hr Tryz.infoR rfl (Bw r) (h _ (setRow_heap w g _ _ _ _ hr) (zN w g _))
theorem zO {fn:Func} {p:Tmp} (h:fn.results=#[.cell p 38]) (tmps:Array Value) (w:World) (g:Nat) (r:Rc)
  (hp:tmps.getD p undef=.pointer (some ⟨g,0,none⟩)) (hr:cD w g 38 r):(results fn tmps).run Tryz.prog w=.ok (RV r) w:=by
 obtain⟨fs,hu⟩:=Tryz.underR;exact results_cell_row h tmps w g _ _ _ _ hp hr hu rfl Tryz.infoR
theorem dL {fn:Func} {p q:Tmp} (h:fn.results=#[.cell p 38,.tmp q]) (tmps:Array Value) (w:World) (g:Nat) (r:Rc) (x:Value)
  (hp:tmps.getD p undef=.pointer (some ⟨g,0,none⟩)) (hx:tmps.getD q undef=x) (hr:cD w g 38 r):(results fn tmps).run Tryz.prog w=.ok (.tuple #[RV r,x]) w:=by
 obtain⟨fs,hu⟩:=Tryz.underR;rw[results_cell_tmp h,hp,hx];simp only[asAddr,Sem.run_pure,Result.andThen_ok];rw[run_loadVar_row w g _ _ _ _ _ hr hu rfl Tryz.infoR];rfl
theorem sq (r:Rc) (w:World):
  Calls Tryz.prog 21 #[RV r] w fun e w'=>e=.returned (RV r)/\bB w w':=by
 unfold RV db;go_enter Tryz.func21,Tryz.ntmps21;go_wp2_with fail
 refine bodyPost_ret (zO rfl _ _ (w.heap.size+1) r rfl ?_) rfl ?_
 ·have:=(cD.new (w.alloc (.cells (db r) 28)) 38 r).alloc (.cells (db r) 38)
  rw[World.size_alloc]at this;exact this
 ·exact⟨rfl,(bA.alloc (by simp) _).alloc (by simp;omega) _⟩
theorem sr (r q:Rc) (w:World):
  Calls Tryz.prog 32 #[RV r,RV q] w fun e w'=>e=.returned (.bool (d8 r q))/\bB w w':=by
 have hb:bB w ((w.alloc (.cells (db r) 38)).alloc (.cells (db q) 38)):=bA.alloc (by simp) _;obtain⟨a1,a2,a3,a4⟩:=r;obtain⟨b1,b2,b3,b4⟩:=q;have hd:d8 ⟨a1,a2,a3,a4⟩ ⟨b1,b2,b3,b4⟩=(decide (a1=b1)&&decide (a2=b2)&&decide (a3=b3)&&decide (a4=b4)):=rfl;rw[hd];clear hd;unfold RV db at*;dsimp only at hb⊢;by_cases h1:a1=b1
 ·by_cases h2:a2=b2
  ·by_cases h3:a3=b3
   ·by_cases h4:a4=b4
    ·subst h1 h2 h3 h4
     go_enter Tryz.func32,Tryz.ntmps32;go_wp2;go_ret;exact⟨af (by simp),hb⟩
    ·have hn:(a4 !=b4)=true:=by simpa using h4
     have he:decide (a4=b4)=false:=by simpa using h4
     rw[he];subst h1 h2 h3;go_enter Tryz.func32,Tryz.ntmps32;go_wp2;go_ret;exact⟨af (by simp),hb⟩
   ·have hn:(a3 !=b3)=true:=by simpa using h3
    have he:decide (a3=b3)=false:=by simpa using h3
    rw[he];subst h1 h2;go_enter Tryz.func32,Tryz.ntmps32;go_wp2;go_ret;exact⟨af (by simp),hb⟩
  ·have hn:(a2 !=b2)=true:=by simpa using h2
   have he:decide (a2=b2)=false:=by simpa using h2
   rw[he];subst h1;go_enter Tryz.func32,Tryz.ntmps32;go_wp2;go_ret;exact⟨af (by simp),hb⟩
 ·have hn:(a1 !=b1)=true:=by simpa using h1
  have he:decide (a1=b1)=false:=by simpa using h1
  rw[he];go_enter Tryz.func32,Tryz.ntmps32;go_wp2;go_ret;exact⟨af (by simp),hb⟩
theorem uS (l:Bs) (w:World) (hl:l.length<=1048576):
  Calls Tryz.prog 170 #[S l,.int .i64 9] w fun e w'=>e=.returned (.tuple #[.int .i64 (num l),.bool (okN l)])/\w'=w:=by
 have hsz:(⟨l.toArray⟩:ByteArray).size=l.length:=rfl;unfold S;by_cases h0:l=[]
 ·subst h0
  have HE:Hid (okN []=false/\num []=0):=by
   have:=jz [] (by simp);exact⟨this,cC this⟩
  go_enter Tryz.func170,Tryz.ntmps170;go_wp2
  go_ret2
  rw[HE.out.1,HE.out.2];exact⟨rfl,rfl⟩
 ·have hie:l.isEmpty=false:=by simpa using h0
  have hpos:0<l.length:=List.length_pos_iff.2 h0;have ht:=eN l 0 hpos 45 45 rfl;have hng:=wY l hpos;rw[<-hng]at ht;clear h0;by_cases hneg:neg l=true
  ·rw[hneg]at ht
   clear hng;have hng:=hneg;clear hneg;have ho:dW l=1:=by unfold dW;rw[hng];rfl
   by_cases hs1:(l.length:Int)-1<1
   ·have HE:Hid (okN l=false/\num l=0):=by
     have:=jz l (by omega);exact⟨this,cC this⟩
    clear hng ho;go_enter Tryz.func170,Tryz.ntmps170;go_wp2
    go_ret2
    rw[HE.out.1,HE.out.2];exact⟨rfl,rfl⟩
   ·by_cases hs2:9<(l.length:Int)-1
    ·have HE:Hid (okN l=false/\num l=0):=by
      have:=oR l (by omega);exact⟨this,cC this⟩
     clear hng ho;go_enter Tryz.func170,Tryz.ntmps170;go_wp2
     go_ret2
     rw[HE.out.1,HE.out.2];exact⟨rfl,rfl⟩
    ·have HO:Hid (dW l=1/\neg l=true):=⟨ho,hng⟩
     clear hng ho;go_enter Tryz.func170,Tryz.ntmps170;go_wp2;go_loop [8,9] (fun n k=>∃(j:Nat) (x:Int),(1:Int)<=j/\(j:Int)<=l.length/\k=.int .i64 j/\n=.int .i64 x/\0<=x/\x<1000000000/\Hid (ce l j x)) (fun _ k=>l.length-(intOf k).toNat)
     case atStart=>exact⟨1,0,by omega,by omega,rfl,rfl,by omega,by omega,by rw[Hid,<-HO.out.1];exact ce.start l⟩
     case round=>
      obtain⟨j,x,hj0,hj1,rfl,rfl,hx0,hx1,HI⟩:=hrel;by_cases hlt:(j:Int)<(l.length:Int)
      ·have hj:j<l.length:=by omega
       have hbv:=jf l j hj;by_cases hlo:bI l j hj<48
       ·have HE:Hid (okN l=false/\num l=0):=by
         have:=ce.bad (l:=l) (j:=j) (by rw[HO.out.1];omega) hj (by rw[hbv]at hlo;simp[dm];omega);exact⟨this,cC this⟩
        unfold bI at hlo;clear hbv;go_wp2
        go_ret2
        rw[HE.out.1,HE.out.2];exact⟨rfl,rfl⟩
       ·by_cases hhi:57<bI l j hj
        ·have HE:Hid (okN l=false/\num l=0):=by
          have:=ce.bad (l:=l) (j:=j) (by rw[HO.out.1];omega) hj (by rw[hbv]at hhi;simp[dm];omega);exact⟨this,cC this⟩
         unfold bI at hlo hhi;clear hbv;go_wp2
         go_ret2
         rw[HE.out.1,HE.out.2];exact⟨rfl,rfl⟩
        ·have HN:Hid (ce l (j+1) (x*10+(bI l j hj-48))):=by
          rw[Hid,hbv];exact HI.out.next (by rw[HO.out.1];omega) hj (by rw[hbv]at hlo hhi;simp[dm];omega)
         have HNb:=HN.out.bd (by rw[HO.out.1];omega);have hlo2:48<=bI l j hj:=by omega
         have hhi2:bI l j hj<=57:=by omega
         clear hbv;unfold bI at hlo hhi hlo2 hhi2 HN HNb;go_wp2
         go_round
         case rel=>exact⟨j+1,_,by omega,by omega,by go_num,rfl,HNb.1,HNb.2,HN⟩
         case measure=>simp[intOf];omega
      ·obtain rfl:j=l.length:=by omega
       have h1l:1<l.length:=by omega
       have hh:=jA l (by rw[HO.out.1];exact h1l);have he1:l[dW l]'(by rw[HO.out.1];exact h1l)=l[1]:=by congr 1;exact HO.out.1
       rw[he1]at hh;have hdn:=HI.out.done (by rw[HO.out.1];omega) (by rw[HO.out.1];omega);rw[hh]at hdn;have ht0:=eN l 1 h1l 48 48 rfl;by_cases hz:l[1]=48
       ·have HE:Hid (okN l=false/\num l=0):=by
         have:okN l=false:=by rw[hdn.1];simp[hz,h1l]
         exact⟨this,cC this⟩
        rw[show decide (l[1]=48)=true by simp[hz]]at ht0;clear hdn hh he1 hz;go_wp2
        go_ret2
        rw[HE.out.1,HE.out.2];exact⟨rfl,rfl⟩
       ·have HE:Hid (okN l=true/\num l= -x):=by
         have:okN l=true:=by rw[hdn.1];simp[hz]
         exact⟨this,by rw[num,this,HO.out.2,hdn.2];rfl⟩
        rw[show decide (l[1]=48)=false by simp[hz]]at ht0;clear hdn hh he1 hz;go_wp2
        go_ret2
        rw[HE.out.1,HE.out.2];exact⟨rfl,rfl⟩
  ·have hng':neg l=false:=by simpa using hneg
   rw[hng']at ht;clear hng hneg;have hng:=hng';clear hng';have ho:dW l=0:=by unfold dW;rw[hng];rfl
   by_cases hs1:(l.length:Int)-0<1
   ·exact absurd hs1 (by omega)
   ·by_cases hs2:9<(l.length:Int)-0
    ·have HE:Hid (okN l=false/\num l=0):=by
      have:=oR l (by omega);exact⟨this,cC this⟩
     clear hng ho;go_enter Tryz.func170,Tryz.ntmps170;go_wp2
     go_ret2
     rw[HE.out.1,HE.out.2];exact⟨rfl,rfl⟩
    ·have HO:Hid (dW l=0/\neg l=false):=⟨ho,hng⟩
     clear hng ho;go_enter Tryz.func170,Tryz.ntmps170;go_wp2;go_loop [8,9] (fun n k=>∃(j:Nat) (x:Int),(0:Int)<=j/\(j:Int)<=l.length/\k=.int .i64 j/\n=.int .i64 x/\0<=x/\x<1000000000/\Hid (ce l j x)) (fun _ k=>l.length-(intOf k).toNat)
     case atStart=>exact⟨0,0,by omega,by omega,rfl,rfl,by omega,by omega,by rw[Hid,<-HO.out.1];exact ce.start l⟩
     case round=>
      obtain⟨j,x,hj0,hj1,rfl,rfl,hx0,hx1,HI⟩:=hrel;by_cases hlt:(j:Int)<(l.length:Int)
      ·have hj:j<l.length:=by omega
       have hbv:=jf l j hj;by_cases hlo:bI l j hj<48
       ·have HE:Hid (okN l=false/\num l=0):=by
         have:=ce.bad (l:=l) (j:=j) (by rw[HO.out.1];omega) hj (by rw[hbv]at hlo;simp[dm];omega);exact⟨this,cC this⟩
        unfold bI at hlo;clear hbv;go_wp2
        go_ret2
        rw[HE.out.1,HE.out.2];exact⟨rfl,rfl⟩
       ·by_cases hhi:57<bI l j hj
        ·have HE:Hid (okN l=false/\num l=0):=by
          have:=ce.bad (l:=l) (j:=j) (by rw[HO.out.1];omega) hj (by rw[hbv]at hhi;simp[dm];omega);exact⟨this,cC this⟩
         unfold bI at hlo hhi;clear hbv;go_wp2
         go_ret2
         rw[HE.out.1,HE.out.2];exact⟨rfl,rfl⟩
        ·have HN:Hid (ce l (j+1) (x*10+(bI l j hj-48))):=by
          rw[Hid,hbv];exact HI.out.next (by rw[HO.out.1];omega) hj (by rw[hbv]at hlo hhi;simp[dm];omega)
         have HNb:=HN.out.bd (by rw[HO.out.1];omega);have hlo2:48<=bI l j hj:=by omega
         have hhi2:bI l j hj<=57:=by omega
         clear hbv;unfold bI at hlo hhi hlo2 hhi2 HN HNb;go_wp2
         go_round
         case rel=>exact⟨j+1,_,by omega,by omega,by go_num,rfl,HNb.1,HNb.2,HN⟩
         case measure=>simp[intOf];omega
      ·obtain rfl:j=l.length:=by omega
       have hh:=jA l (by rw[HO.out.1];exact hpos);have he1:l[dW l]'(by rw[HO.out.1];exact hpos)=l[0]:=by congr 1;exact HO.out.1
       rw[he1]at hh;have hdn:=HI.out.done (by rw[HO.out.1];omega) (by rw[HO.out.1];omega);rw[hh]at hdn;have ht0:=eN l 0 hpos 48 48 rfl;by_cases hz:l[0]=48
       ·rw[show decide (l[0]=48)=true by simp[hz]]at ht0
        by_cases h1l:1<(l.length:Int)
        ·have HE:Hid (okN l=false/\num l=0):=by
          have h2:1<l.length:=by omega
          have:okN l=false:=by rw[hdn.1];simp[hz,h2]
          exact⟨this,cC this⟩
         clear hdn hh he1 hz ht;go_wp2
         go_ret2
         rw[HE.out.1,HE.out.2];exact⟨rfl,rfl⟩
        ·have HE:Hid (okN l=true/\num l=x):=by
          have h2:¬1<l.length:=by omega
          have:okN l=true:=by rw[hdn.1];simp[h2]
          exact⟨this,by rw[num,this,HO.out.2,hdn.2];rfl⟩
         clear hdn hh he1 hz ht;go_wp2
         go_ret2
         rw[HE.out.1,HE.out.2];exact⟨rfl,rfl⟩
       ·have HE:Hid (okN l=true/\num l=x):=by
         have:okN l=true:=by rw[hdn.1];simp[hz]
         exact⟨this,by rw[num,this,HO.out.2,hdn.2];rfl⟩
        rw[show decide (l[0]=48)=false by simp[hz]]at ht0;clear hdn hh he1 hz ht;go_wp2
        go_ret2
        rw[HE.out.1,HE.out.2];exact⟨rfl,rfl⟩
theorem zR (l:Bs) (w:World) (hl:l.length<=1048576):
  Calls Tryz.prog 129 #[S l] w fun e w'=>e=.returned (.tuple #[.int .i64 (num l),.bool (okN l)])/\w'=w:=by
 have c1:=uS l w hl;go_enter Tryz.func129,Tryz.ntmps129;go_wp2_with fail
 refine mo c1 ?_;clear c1;go_wp2_with fail
 go_ret2
 exact⟨rfl,rfl⟩
def Lss (v:Value) (xs:List Bs):cU:=⟨v.ownBlock.toList,0,fun w=>dh w 0 v xs,fun _ _ e _ h=>dh.frame h e⟩
theorem Sta.texts {w wx wy:World} {L:List cU} {v:Value} {xs:List Bs} (h:Sta w wx L) (o:dh wy wx.heap.size v xs) (b:bB wx wy):Sta w wy (Lss v xs::L):=
 h.add b (Lss v xs) (o.mono (Nat.zero_le _)) (fun k hk=>o.lt k (by simpa[Lss]using hk))
theorem fZ.take {w:World} {ao:Option Addr} {n cap:Nat} {xs:List Bs} (h:fZ w (.slice ao n cap) xs) (m:Nat) (hm:m<=xs.length):fZ w (.slice ao m cap) (xs.take m):=by
 obtain⟨ao',cap',e,h1,h2,h4⟩:=h;cases e;have hl:(xs.take m).length=m:=by simp[Nat.min_eq_left hm]
 refine⟨ao,cap,by rw[hl],by rw[hl];omega,h2,?_⟩;rcases h4 with rfl|⟨b,off,e,h4⟩
 ·exact .inl (by simp)
 ·refine .inr ⟨b,off,e,fun j hj=>?_⟩
  rw[hl]at hj;rw[h4 j (by omega)];simp[hj]
end Go.Proofs.YthldeiojlllkdaaGreatDoor
