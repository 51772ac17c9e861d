/- A message in memory: eleven cells; l15Msg of the model. -/
import Derived.Test.YthldeiojlllkdaaGreatDoorM6
set_option maxRecDepth 20000
set_option maxHeartbeats 8000000
namespace Go.Proofs.YthldeiojlllkdaaGreatDoor
open Go.ChangeShapes Go.WideShapes Go.ChangeAt Go.RowKit
section
open Go.ChangeShapes Go.WideShapes Go.ChangeAt Go.RowKit
end
theorem xn (v:Value) (c:Cp) (w:World) (hr:ag w v c.ts) (hl:c.ts.length<=1099511627776):
  Calls Tryz.prog 53 #[CpV v c] w fun e w'=>∃u,e=.returned (CpV u c)/\Own w' w.heap.size u c.ts/\iO w w':=by
 obtain⟨w1,hw1⟩:=Fe ((w.alloc (.cells (cpA v c) 39)).alloc (.cells cS 39))
 have p0:StB w1 w.heap.size 39 (cpA v c):=by rw[hw1];exact(StB.new w _ _).alloc _
 have q0:StB w1 (w.heap.size+1) 39 cS:=by
  rw[hw1];have:=StB.new (w.alloc (.cells (cpA v c) 39)) 39 cS
  rwa[World.size_alloc]at this
 have b1:iO w w1:=by rw[hw1];exact Fc.alloc Fg _
 have c1:=gK v c.ts w1 (hr.below b1 (Nat.le_refl _)) hl;have hs1:=q0.lt;obtain⟨ao,cap,rfl⟩:=aa hr;have HW:Hid (w1=(w.alloc (.cells #[.int .i64 c.tr,.bool c.op,.int .i64 c.di,.int .i64 c.wa,.slice ao c.ts.length cap] 39)).alloc (.cells #[.int .i64 0,.bool false,.int .i64 0,.int .i64 0,.slice none 0 0] 39)):=hw1;have k4:w1.cell? ⟨w.heap.size,4,none⟩=some (.slice ao c.ts.length cap):=p0.cell 4 rfl;clear hw1 hr hl;unfold CpV cpA;go_enter Tryz.func53,Tryz.ntmps53;go_wp2_with fail
 rw[<-HW.out];clear HW;refine c1.mono ?_;rintro e w3 ⟨u,rfl,o3,b3⟩;replace p0:=p0.below b3;replace q0:=q0.below b3;have B3:=b1.trans (b3.mono b1.size);obtain⟨ab,cb,rfl⟩:=aa o3.reads;have k0:w3.cell? ⟨w.heap.size,4,none⟩=some (.slice ao c.ts.length cap):=p0.cell 4 rfl;have f0:=p0.frozen 4;have r4:=p0.put 4 (.slice ab c.ts.length cb) (ds:=cpA (.slice ab c.ts.length cb) c) rfl;have q4:=q0.other ⟨w.heap.size,4,none⟩ (.slice ab c.ts.length cb) Fg;have HP:Hid (Own (w3.setCell ⟨w.heap.size,4,none⟩ (.slice ab c.ts.length cb)) w1.heap.size (.slice ab c.ts.length cb) c.ts/\iO w (w3.setCell ⟨w.heap.size,4,none⟩ (.slice ab c.ts.length cb))):=⟨o3.setLt Ff 4 _,B3.setCell (Nat.le_refl _) _⟩
 clear k4 p0 q0 c1 o3 b3 b1 B3;go_upto_region 2 with fail
 obtain⟨w4,hw4⟩:=Fe (w3.setCell ⟨w.heap.size,4,none⟩ (.slice ab c.ts.length cb))
 rw[<-hw4]at r4 q4 HP⊢;clear hw4 k0 f0;go_wp2_with (first|(refine ah GH rfl _ rfl w.heap.size rfl (cpA (.slice ab c.ts.length cb) c) rfl r4 ?_)|(refine ae GH rfl _ _ rfl (w.heap.size+1) (cpA (.slice ab c.ts.length cb) c) cS rfl rfl rfl rfl (lC c rfl) q4 ?_;intro w8 s8 g8))
 refine bodyPost_ret (aj GH rfl _ _ (w.heap.size+1) _ rfl rfl s8) rfl ?_;exact⟨_,rfl,(HP.out.1.keptLt g8 Ff).mono Ff,HP.out.2.grown g8 HP.out.2.size (fun k e=>by cases e;omega)⟩
theorem BB (v:Value) (c:Cp) (i:Int) (w:World) (hr:ag w v c.ts):
  Calls Tryz.prog 101 #[CpV v c,.int .i64 i] w fun e w'=>e=.returned (.bool (c.has i))/\iO w w':=by
 have HE:Hid (c.has i=(decide (0<=i)&&decide (i<(c.ts.length:Int)))):=rfl;obtain⟨ao,cap,rfl⟩:=aa hr;obtain⟨x,hx⟩:=Fe (c.has i)
 rw[<-hx]at HE⊢;unfold CpV cpA;clear hr hx;by_cases h0:0<=i
 ·by_cases h1:i<(c.ts.length:Int)
  ·go_enter Tryz.func101,Tryz.ntmps101
   go_wp2;go_ret;exact⟨af (by rw[HE.out];simp[h0,h1]),Fc⟩
  ·go_enter Tryz.func101,Tryz.ntmps101
   go_wp2;go_ret;exact⟨af (by rw[HE.out];simp[h1]),Fc⟩
 ·have HF:Hid (x=false):=by rw[Hid,HE.out];simp[h0]
  go_enter Tryz.func101,Tryz.ntmps101;go_wp2;go_ret;exact⟨af (by rw[HF.out]),Fc⟩
theorem gq (v:Value) (h:Hd) (i:Int) (w:World) (hr:ag w v h.ks) (h0:0<=i) (hi:i<(h.ks.length:Int)):
  Calls Tryz.prog 140 #[HV v h,.int .i64 i] w fun e w'=>e=.returned (.bool (dT h.ks i))/\iO w w':=by
 have HE:Hid (dT h.ks i=decide (h.ks.getD i.toNat 0≠0)):=rfl;obtain⟨ao,cap,rfl⟩:=aa hr;obtain⟨w1,hw1⟩:=Fe (w.alloc (.cells (hdA (.slice ao h.ks.length cap) h) 37))
 have H1:HdB w1 w.heap.size 37 (.slice ao h.ks.length cap) h:=by rw[hw1];exact HdB.new _ hr
 have HB:Hid (iO w w1):=by rw[hw1];exact Fc
 obtain⟨-,hc1,hc2,hcell⟩:=aL H1.2;obtain⟨b,off,rfl,hcj⟩:=hcell i.toNat Ff;obtain⟨y,hy⟩:=Fe (h.ks.getD i.toNat 0)
 rw[<-hy]at hcj HE;have hic:((i.toNat:Nat):Int)=i:=by omega
 have k0:w1.cell? ⟨w.heap.size,0,none⟩=some (.slice (some ⟨b,off,none⟩) h.ks.length cap):=H1.1.cell 0 rfl;have HW:Hid (w1=w.alloc (.cells #[.slice (some ⟨b,off,none⟩) h.ks.length cap,.int .i64 h.kd,.int .i64 h.ho,.int .i64 h.tu] 37)):=hw1;unfold maxLen at hc2;unfold HV hdA;obtain⟨n,hn⟩:=Fe h.ks.length
 rw[<-hn]at k0 HW hi hc1⊢;clear hcell hy hr hw1 H1 hn;have hw:=HW.out;subst hw;by_cases hy0:y=0
 ·go_enter Tryz.func140,Tryz.ntmps140
  go_wp2;go_ret;exact⟨af (by rw[HE.out];simp[hy0]),HB.out⟩
 ·have hyn:(y !=0)=true:=by simpa using hy0
  go_enter Tryz.func140,Tryz.ntmps140;go_wp2;go_ret;exact⟨af (by rw[HE.out];simp[hy0]),HB.out⟩
theorem mV (v:Value) (h:Hd) (i:Int) (w:World) (hr:ag w v h.ks) (h0:0<=i) (hi:i<(h.ks.length:Int)):
  Calls Tryz.prog 139 #[HV v h,.int .i64 i] w fun e w'=>e=.returned (.bool (h.holds i))/\iO w w':=by
 have HE:Hid (h.holds i=(decide (h.kd≠0)&&(decide (h.ho=i)||(bY h.kd&&dT h.ks i)))):=rfl;have B1:iO w (w.alloc (.cells (hdA v h) 37)):=Fc;have cf:=fun wx=>iA h.kd wx
 have cr:=gq v h i (w.alloc (.cells (hdA v h) 37)) (hr.below B1 (Nat.le_refl _)) h0 hi;obtain⟨x,hx⟩:=Fe (h.holds i)
 obtain⟨bf,hbf⟩:=Fe (bY h.kd)
 obtain⟨br,hbr⟩:=Fe (dT h.ks i)
 rw[<-hx]at HE⊢;rw[<-hbf,<-hbr]at HE;rw[<-hbr]at cr;simp only[<-hbf]at cf;have hone:=aB hr;obtain⟨ao,cap,rfl⟩:=aa hr;clear hx hbf hbr hr hone;unfold HV hdA at*;by_cases hk:h.kd=0
 ·have HX:Hid (x=false):=by rw[Hid,HE.out];simp[hk]
  clear HE cf cr;go_enter Tryz.func139,Tryz.ntmps139;go_wp2;go_ret;exact⟨af (by rw[HX.out]),by first|exact B1|(rw[hk]at B1;exact B1)⟩
 ·have hkn:(h.kd !=0)=true:=by simpa using hk
  by_cases hoi:h.ho=i
  ·have HX:Hid (x=true):=by rw[Hid,HE.out];simp[hk,hoi]
   clear HE cf cr;subst hoi;go_enter Tryz.func139,Tryz.ntmps139;go_wp2;go_ret;exact⟨af (by rw[HX.out]),B1⟩
  ·have HX:Hid (x=(bf&&br)):=by rw[Hid,HE.out];simp[hk,hoi]
   clear HE;have hon:(h.ho==i)=false:=by simpa using hoi
   cases bf with
   |false=>
    clear cr;go_enter Tryz.func139,Tryz.ntmps139;go_wp2_with fail
    refine Fd (cf _) ?_;go_wp2;go_ret;exact⟨af (by rw[HX.out];rfl),B1⟩
   |true=>
    go_enter Tryz.func139,Tryz.ntmps139;go_wp2_with fail
    refine Fd (cf _) ?_;go_wp2_with fail
    refine cr.mono ?_;rintro e w2 ⟨rfl,b2⟩;have B2:=B1.trans (b2.mono B1.size);clear b2 B1 cr cf;go_wp2;go_ret;exact⟨af (by rw[HX.out];simp),B2⟩
theorem qJ (v:Value) (h:Hd) (i:Int) (b:Bool) (w:World) (hr:ag w v h.ks) (h0:0<=i) (hi:i<(h.ks.length:Int)):
  Calls Tryz.prog 99 #[HV v h,.int .i64 i,.bool b] w fun e w'=>e=.returned (.bool (h.may i b))/\iO w w':=by
 have HE:Hid (h.may i b=kC h.kd b (h.holds i) (dT h.ks i)):=rfl;obtain⟨w1,hw1⟩:=Fe (w.alloc (.cells (hdA v h) 37))
 have HH:Hid (HdB w1 w.heap.size 37 v h/\iO w w1):=by rw[hw1];exact⟨HdB.new _ hr,Fc⟩
 have ch:=fun wx (k:ag wx v h.ks)=>mV v h i wx k h0 hi
 have cr:=fun wx (k:ag wx v h.ks)=>gq v h i wx k h0 hi
 have cm:=fun wx=>BE h.kd b (h.holds i) (dT h.ks i) wx
 obtain⟨x,hx⟩:=Fe (h.may i b)
 obtain⟨bh,hbh⟩:=Fe (h.holds i)
 obtain⟨br,hbr⟩:=Fe (dT h.ks i)
 rw[<-hx]at HE⊢;rw[<-hbh,<-hbr]at HE;simp only[<-hbh]at ch;simp only[<-hbr]at cr;simp only[<-hbh,<-hbr]at cm;rw[<-HE.out]at cm;obtain⟨ao,cap,rfl⟩:=aa hr;clear hx hbh hbr hr;unfold HV at*;unfold hdA at*;have HW:Hid _:=hw1;have k0:w1.cell? ⟨w.heap.size,0,none⟩=some (.slice ao h.ks.length cap):=HH.out.1.1.cell 0 rfl;have k1:w1.cell? ⟨w.heap.size,1,none⟩=some (.int .i64 h.kd):=HH.out.1.1.cell 1 rfl;have k2:w1.cell? ⟨w.heap.size,2,none⟩=some (.int .i64 h.ho):=HH.out.1.1.cell 2 rfl;have k3:w1.cell? ⟨w.heap.size,3,none⟩=some (.int .i64 h.tu):=HH.out.1.1.cell 3 rfl;clear hw1;go_enter Tryz.func99,Tryz.ntmps99;go_wp2_with fail
 rw[<-HW.out];clear HW
 go_region_held3 (fun w'=>w'.cell? ⟨w.heap.size,0,none⟩=some (.slice ao h.ks.length cap)/\w'.cell? ⟨w.heap.size,1,none⟩=some (.int .i64 h.kd)/\w'.cell? ⟨w.heap.size,2,none⟩=some (.int .i64 h.ho)/\w'.cell? ⟨w.heap.size,3,none⟩=some (.int .i64 h.tu)) (go_keep)
  (first
  |(go_at_call 139;refine(ch _ (HH.out.1.drewN 1).2).mono ?_;rintro e wA ⟨rfl,bA⟩;have HA:Hid (HdB wA w.heap.size 37 (.slice ao h.ks.length cap) h/\iO w wA):=⟨(HH.out.1.drewN 1).below bA,(below_drewN HH.out.2 1).trans (bA.mono (below_drewN HH.out.2 1).size)⟩;clear bA;have ka0:wA.cell? ⟨w.heap.size,0,none⟩=some (.slice ao h.ks.length cap):=HA.out.1.1.cell 0 rfl;have ka1:wA.cell? ⟨w.heap.size,1,none⟩=some (.int .i64 h.kd):=HA.out.1.1.cell 1 rfl;have ka2:wA.cell? ⟨w.heap.size,2,none⟩=some (.int .i64 h.ho):=HA.out.1.1.cell 2 rfl;have ka3:wA.cell? ⟨w.heap.size,3,none⟩=some (.int .i64 h.tu):=HA.out.1.1.cell 3 rfl)
  |(go_at_call 140;refine(cr _ HA.out.1.2).mono ?_;rintro e wB ⟨rfl,bB⟩;have HB:Hid (HdB wB w.heap.size 37 (.slice ao h.ks.length cap) h/\iO w wB):=⟨HA.out.1.below bB,HA.out.2.trans (bB.mono HA.out.2.size)⟩;clear bB;have kb0:wB.cell? ⟨w.heap.size,0,none⟩=some (.slice ao h.ks.length cap):=HB.out.1.1.cell 0 rfl;have kb1:wB.cell? ⟨w.heap.size,1,none⟩=some (.int .i64 h.kd):=HB.out.1.1.cell 1 rfl;have kb2:wB.cell? ⟨w.heap.size,2,none⟩=some (.int .i64 h.ho):=HB.out.1.1.cell 2 rfl;have kb3:wB.cell? ⟨w.heap.size,3,none⟩=some (.int .i64 h.tu):=HB.out.1.1.cell 3 rfl)
  |(go_at_call 138;refine(cm _).mono ?_;rintro e w' ⟨rfl,hw'⟩;subst w'))
 go_wp2;go_ret;exact⟨rfl,HB.out.2⟩
theorem dB {v:Value} (h:Hd) (hv:v.oneCell'=true):(hdA v h).all (·.oneCell')=true:=by
 unfold hdA;simp[hv,show∀k n,(Value.int k n).oneCell'=true from fun _ _=>rfl]
theorem pL (v:Value) (h:Hd) (k:Int) (w:World) (hr:ag w v h.ks) (h0:0<=k) (h1:k<=1048576):
  Calls Tryz.prog 13 #[HV v h,.int .i64 k] w fun e w'=>e=.returned (.int .i64 (szI k h.ks.length))/\iO w w':=by
 have B1:iO w (w.alloc (.cells (hdA v h) 26)):=Fc;have c1:=po v h.ks k _ (hr.below B1 (Nat.le_refl _)) h0 h1;have hs:szI k h.ks.length= -1∨0<=szI k h.ks.length:=by unfold szI;split<;>omega
 obtain⟨x,hx⟩:=Fe (szI k h.ks.length)
 rw[<-hx]at c1 hs⊢;obtain⟨ao,cap,rfl⟩:=aa hr;clear hx hr;unfold HV hdA at*;rcases hs with hs|hs
 ·subst hs
  go_enter Tryz.func13,Tryz.ntmps13;go_wp2_with fail
  refine Fd c1 ?_;go_wp2;go_ret;exact⟨rfl,B1⟩
 ·go_enter Tryz.func13,Tryz.ntmps13
  go_wp2_with fail
  refine Fd c1 ?_;go_wp2;go_ret;exact⟨rfl,B1⟩
theorem pM (v:Value) (h:Hd) (w:World) (hr:ag w v h.ks) (hl:h.ks.length<=1099511627776):
  Calls Tryz.prog 20 #[HV v h] w fun e w'=>∃u,e=.returned (HV u h)/\Own w' w.heap.size u h.ks/\iO w w':=by
 obtain⟨w1,hw1⟩:=Fe (((w.alloc (.cells (hdA v h) 26)).alloc (.cells #[.slice none 0 0,.int .i64 0,.int .i64 0,.int .i64 0] 37)).alloc (.cells #[.slice none 0 0,.int .i64 0,.int .i64 0,.int .i64 0] 37))
 have hsz:w1.heap.size=w.heap.size+3:=by rw[hw1];simp
 have p0:StB w1 w.heap.size 26 (hdA v h):=by rw[hw1];exact((StB.new w _ _).alloc _).alloc _
 have q0:StB w1 (w.heap.size+1) 37 #[.slice none 0 0,.int .i64 0,.int .i64 0,.int .i64 0]:=by
  rw[hw1];have:=(StB.new (w.alloc (.cells (hdA v h) 26)) 37 #[.slice none 0 0,.int .i64 0,.int .i64 0,.int .i64 0]).alloc (.cells #[.slice none 0 0,.int .i64 0,.int .i64 0,.int .i64 0] 37)
  rwa[World.size_alloc]at this
 have r0:StB w1 (w.heap.size+1+1) 37 #[.slice none 0 0,.int .i64 0,.int .i64 0,.int .i64 0]:=by
  rw[hw1];have:=StB.new ((w.alloc (.cells (hdA v h) 26)).alloc (.cells #[.slice none 0 0,.int .i64 0,.int .i64 0,.int .i64 0] 37)) 37 #[.slice none 0 0,.int .i64 0,.int .i64 0,.int .i64 0]
  rwa[World.size_alloc,World.size_alloc]at this
 have b1:iO w w1:=by rw[hw1];exact(Fc.alloc Fg _).alloc (by simp;omega) _
 have c1:=oK v h.ks w1 (hr.below b1 (Nat.le_refl _)) hl;obtain⟨ao,cap,rfl⟩:=aa hr;have HW:Hid (w1=((w.alloc (.cells #[.slice ao h.ks.length cap,.int .i64 h.kd,.int .i64 h.ho,.int .i64 h.tu] 26)).alloc (.cells #[.slice none 0 0,.int .i64 0,.int .i64 0,.int .i64 0] 37)).alloc (.cells #[.slice none 0 0,.int .i64 0,.int .i64 0,.int .i64 0] 37)):=hw1;have hs1:w.heap.size+1+1<w1.heap.size:=by omega
 clear hw1 hr hl hsz;unfold HV;unfold hdA at p0;conv in hdA=>unfold hdA
 go_enter Tryz.func20,Tryz.ntmps20;go_wp2_with fail
 rw[<-HW.out];clear HW;refine c1.mono ?_;rintro e w3 ⟨u,rfl,o3,b3⟩;replace p0:=p0.below b3;replace q0:=q0.below b3;replace r0:=r0.below b3;have hs3:=b3.size;have B3:=b1.trans (b3.mono b1.size);obtain⟨ab,cb,rfl⟩:=aa o3.reads;have k1:w3.cell? ⟨w.heap.size,1,none⟩=some (.int .i64 h.kd):=p0.cell 1 rfl;have k2:w3.cell? ⟨w.heap.size,2,none⟩=some (.int .i64 h.ho):=p0.cell 2 rfl;have k3:w3.cell? ⟨w.heap.size,3,none⟩=some (.int .i64 h.tu):=p0.cell 3 rfl;have m0:w3.cell? ⟨w.heap.size+1+1,0,none⟩=some (.slice none 0 0):=r0.cell 0 rfl;have m1:w3.cell? ⟨w.heap.size+1+1,1,none⟩=some (.int .i64 0):=r0.cell 1 rfl;have m2:w3.cell? ⟨w.heap.size+1+1,2,none⟩=some (.int .i64 0):=r0.cell 2 rfl;have m3:w3.cell? ⟨w.heap.size+1+1,3,none⟩=some (.int .i64 0):=r0.cell 3 rfl;have f0:=r0.frozen 0;have f1:=r0.frozen 1;have f2:=r0.frozen 2;have f3:=r0.frozen 3;have HP:Hid (StB w3 (w.heap.size+1) 37 #[.slice none 0 0,.int .i64 0,.int .i64 0,.int .i64 0]/\StB w3 (w.heap.size+1+1) 37 #[.slice none 0 0,.int .i64 0,.int .i64 0,.int .i64 0]/\Own w3 w1.heap.size (.slice ab h.ks.length cb) h.ks/\iO w w3):=⟨q0,r0,o3,B3⟩
 clear p0 q0 r0 o3 b3 b1 c1 B3;have hn1:w.heap.size≠w.heap.size+1:=by omega
 have hn2:w.heap.size≠w.heap.size+1+1:=by omega
 have hn3:w.heap.size+1≠w.heap.size+1+1:=by omega
 have hg0:w.heap.size<=w.heap.size+1/\w.heap.size<=w.heap.size+1+1/\w.heap.size+1<w1.heap.size/\w.heap.size<=w1.heap.size:=by omega
 have hlt2:w.heap.size+1+1<w3.heap.size:=HP.out.2.1.lt;have hlt0:w.heap.size<w3.heap.size:=by omega
 obtain⟨g2,hg2⟩:=Fe (w.heap.size+1+1)
 rw[<-hg2]at hn2 hn3 hg0 m0 m1 m2 m3 f0 f1 f2 f3 HP hs1 hlt2⊢;clear hg2;obtain⟨g1,hg1⟩:=Fe (w.heap.size+1)
 rw[<-hg1]at hn1 hn3 hg0 HP⊢;clear hg1;have Q4:StB ((((w3.setCell ⟨g2,0,none⟩ (.slice ab h.ks.length cb)).setCell ⟨g2,1,none⟩ (.int .i64 h.kd)).setCell ⟨g2,2,none⟩ (.int .i64 h.ho)).setCell ⟨g2,3,none⟩ (.int .i64 h.tu)) g2 37 (hdA (.slice ab h.ks.length cb) h):=(((HP.out.2.1.put 0 _ rfl).put 1 _ rfl).put 2 _ rfl).put 3 _ rfl;have R4:StB ((((w3.setCell ⟨g2,0,none⟩ (.slice ab h.ks.length cb)).setCell ⟨g2,1,none⟩ (.int .i64 h.kd)).setCell ⟨g2,2,none⟩ (.int .i64 h.ho)).setCell ⟨g2,3,none⟩ (.int .i64 h.tu)) g1 37 #[.slice none 0 0,.int .i64 0,.int .i64 0,.int .i64 0]:=(((HP.out.1.other _ _ hn3).other _ _ hn3).other _ _ hn3).other _ _ hn3;have O4:Hid (Own ((((w3.setCell ⟨g2,0,none⟩ (.slice ab h.ks.length cb)).setCell ⟨g2,1,none⟩ (.int .i64 h.kd)).setCell ⟨g2,2,none⟩ (.int .i64 h.ho)).setCell ⟨g2,3,none⟩ (.int .i64 h.tu)) w1.heap.size (.slice ab h.ks.length cb) h.ks/\iO w ((((w3.setCell ⟨g2,0,none⟩ (.slice ab h.ks.length cb)).setCell ⟨g2,1,none⟩ (.int .i64 h.kd)).setCell ⟨g2,2,none⟩ (.int .i64 h.ho)).setCell ⟨g2,3,none⟩ (.int .i64 h.tu))):=⟨(((HP.out.2.2.1.setLt hs1 0 _).setLt hs1 1 _).setLt hs1 2 _).setLt hs1 3 _,(((HP.out.2.2.2.setCell (show w.heap.size<=g2 from hg0.2.1) _).setCell (show w.heap.size<=g2 from hg0.2.1) _).setCell (show w.heap.size<=g2 from hg0.2.1) _).setCell (show w.heap.size<=g2 from hg0.2.1) _⟩
 clear HP;go_upto_region 6 with fail
 obtain⟨w4,hw4⟩:=Fe (((((w3.setCell ⟨g2,0,none⟩ (.slice ab h.ks.length cb)).setCell ⟨g2,1,none⟩ (.int .i64 h.kd)).setCell ⟨g2,2,none⟩ (.int .i64 h.ho)).setCell ⟨g2,3,none⟩ (.int .i64 h.tu)))
 rw[<-hw4]at Q4 R4 O4⊢;clear hw4 k1 k2 k3 m0 m1 m2 m3 f0 f1 f2 f3;go_wp2_with (first|(refine ah GJ rfl _ rfl g2 rfl (hdA (.slice ab h.ks.length cb) h) rfl Q4 ?_)|(refine ae GJ rfl _ _ rfl g1 (hdA (.slice ab h.ks.length cb) h) #[.slice none 0 0,.int .i64 0,.int .i64 0,.int .i64 0] rfl rfl rfl rfl (dB h rfl) R4 ?_;intro w8 s8 g8))
 refine bodyPost_ret (aj GJ rfl _ _ g1 _ rfl rfl s8) rfl ?_;exact⟨_,rfl,(O4.out.1.keptLt g8 Ff).mono Ff,O4.out.2.grown g8 O4.out.2.size (fun k e=>by cases e;omega)⟩
theorem pN (u v:Value) (h:Hd) (w:World) (hu:ag w u h.ks) (hv:ag w v h.ks) (hl:h.ks.length<=1099511627776):
  Calls Tryz.prog 31 #[HV u h,HV v h] w fun e w'=>e=.returned (.bool true)/\iO w w':=by
 obtain⟨w1,hw1⟩:=Fe ((w.alloc (.cells (hdA u h) 37)).alloc (.cells (hdA v h) 37))
 have p0:StB w1 w.heap.size 37 (hdA u h):=by rw[hw1];exact(StB.new w _ _).alloc _
 have p1:StB w1 (w.heap.size+1) 37 (hdA v h):=by
  rw[hw1];have:=StB.new (w.alloc (.cells (hdA u h) 37)) 37 (hdA v h)
  rwa[World.size_alloc]at this
 have b1:iO w w1:=by rw[hw1];exact Fc.alloc Fg _
 have c1:=oM u v h.ks h.ks w1 (hu.below b1 (Nat.le_refl _)) (hv.below b1 (Nat.le_refl _)) hl;rw[show decide (h.ks=h.ks)=true by simp]at c1;obtain⟨ao,ca,rfl⟩:=aa hu;obtain⟨bo,cb,rfl⟩:=aa hv;have HW:Hid (w1=(w.alloc (.cells #[.slice ao h.ks.length ca,.int .i64 h.kd,.int .i64 h.ho,.int .i64 h.tu] 37)).alloc (.cells #[.slice bo h.ks.length cb,.int .i64 h.kd,.int .i64 h.ho,.int .i64 h.tu] 37)):=hw1;clear hw1 hu hv hl;unfold HV hdA;go_enter Tryz.func31,Tryz.ntmps31;go_wp2_with fail
 rw[<-HW.out];clear HW;refine c1.mono ?_;rintro e w3 ⟨rfl,n3,hw3⟩;replace p0:StB w3 w.heap.size 37 (hdA (.slice ao h.ks.length ca) h):=by rw[hw3];exact p0
 replace p1:StB w3 (w.heap.size+1) 37 (hdA (.slice bo h.ks.length cb) h):=by rw[hw3];exact p1
 have B3:iO w w3:=by rw[hw3];exact below_drewN b1 n3
 clear hw3 c1 b1;have k1:w3.cell? ⟨w.heap.size,1,none⟩=some (.int .i64 h.kd):=p0.cell 1 rfl;have k2:w3.cell? ⟨w.heap.size,2,none⟩=some (.int .i64 h.ho):=p0.cell 2 rfl;have k3:w3.cell? ⟨w.heap.size,3,none⟩=some (.int .i64 h.tu):=p0.cell 3 rfl;have m1:w3.cell? ⟨w.heap.size+1,1,none⟩=some (.int .i64 h.kd):=p1.cell 1 rfl;have m2:w3.cell? ⟨w.heap.size+1,2,none⟩=some (.int .i64 h.ho):=p1.cell 2 rfl;have m3:w3.cell? ⟨w.heap.size+1,3,none⟩=some (.int .i64 h.tu):=p1.cell 3 rfl;clear p0 p1;go_wp2;go_ret;exact⟨rfl,B3⟩
theorem nj (v:Value) (h:Hd) (k:Int) (w:World) (base:Nat) (ho:Own w base v h.ks) (hl:h.ks.length<=1048576) (h0:0<=k) (h1:k<=4194304):
  Calls Tryz.prog 36 #[HV v h,.int .i64 k] w fun e w'=>e=.returned (.int .i64 (k+h.ks.length))/\Own w' base v (aS k h.ks.length)/\w.grownBy w' v.ownBlock:=by
 have B1:iO w (w.alloc (.cells (hdA v h) 37)):=Fc;have G1:w.grownBy (w.alloc (.cells (hdA v h) 37)) v.ownBlock:=World.grownBy_alloc w _ _;have c1:=je v h.ks k _ base (ho.below B1) Ff h0 Ff;obtain⟨ao,cap,rfl⟩:=aa ho.reads;have hl':(h.ks.length:Int)<=1048576:=by omega
 clear ho hl;unfold HV hdA at*;go_enter Tryz.func36,Tryz.ntmps36;go_wp2_with fail
 refine c1.mono ?_;rintro e w2 ⟨rfl,o2,g2⟩;have HC:Hid (Own w2 base (.slice ao h.ks.length cap) (aS k h.ks.length)/\w.grownBy w2 (Value.slice ao h.ks.length cap).ownBlock):=⟨o2,G1.trans g2⟩
 clear o2 g2 G1 B1 c1;go_wp2;go_ret;exact⟨rfl,HC.out⟩
theorem nk (v:Value) (h:Hd) (n:Nat) (k:Int) (w:World) (hn:n=h.ks.length) (hr:ag w v (aS k n)) (hl:n<=1048576) (h0:0<=k) (h1:k<=4194304):
  Calls Tryz.prog 40 #[HV v h,.int .i64 k] w fun e w'=>e=.returned (.int .i64 (k+n))/\iO w w':=by
 have B1:iO w (w.alloc (.cells (hdA v h) 37)):=Fc;have c1:=gM v n k _ (hr.below B1 (Nat.le_refl _)) Ff h0 Ff;obtain⟨ao,cap,rfl⟩:=aa hr;have hl':(n:Int)<=1048576:=by omega
 clear hr hl hn;unfold HV hdA at*;go_enter Tryz.func40,Tryz.ntmps40;go_wp2_with fail
 refine Fd c1 ?_;go_wp2;go_ret;exact⟨rfl,B1⟩
def PQ (w:World) (base g q cap:Nat) (h:Hd):Prop:=
 StB w g 37 (hdA (.slice (some ⟨q,0,none⟩) 4 cap) h)/\Own w base (.slice (some ⟨q,0,none⟩) 4 cap) h.ks/\(g≠q/\base<=g/\base<=q/\h.ks.length=4)
def PB (w:World) (base g:Nat) (h:Hd):Prop:=∃q cap,PQ w base g q cap h
theorem PQ.put {w:World} {base g q cap:Nat} {h:Hd} (d:PQ w base g q cap h) (j:Nat) (x:Int) (f:Hd) (hk:f.ks=h.ks) (e:(hdA (.slice (some ⟨q,0,none⟩) 4 cap) h).setIfInBounds j (.int .i64 x)=hdA (.slice (some ⟨q,0,none⟩) 4 cap) f):
  PQ (w.setCell ⟨g,j,none⟩ (.int .i64 x)) base g q cap f/\Below base w (w.setCell ⟨g,j,none⟩ (.int .i64 x)):=by
 obtain⟨h1,h2,h3⟩:=d;have G:=ai w g j (.int .i64 x);refine⟨⟨h1.put j _ e,?_,?_⟩,(Below.refl base w).setCell h3.2.1 _⟩
 ·rw[hk];exact h2.kept G (.inr (by intro e;have:q=g:=Option.some.inj e;omega))
 ·rw[hk];exact h3
theorem PQ.key {w:World} {base g q cap:Nat} {h:Hd} (d:PQ w base g q cap h) (j:Nat) (hj:j<4) (x:Int):
  w.frozen? ⟨q,j,none⟩=false/\w.cell? ⟨q,j,none⟩=some (.int .i64 (h.ks.getD j 0))/\PQ (w.setCell ⟨q,j,none⟩ (.int .i64 x)) base g q cap ⟨h.ks.set j x,h.kd,h.ho,h.tu⟩/\Below base w (w.setCell ⟨q,j,none⟩ (.int .i64 x)):=by
 obtain⟨h1,h2,h3⟩:=d;obtain⟨f, -,o⟩:=h2.put h3.2.2.2.symm j hj x;have G:=ai w q j (.int .i64 x);obtain⟨-, -, -,hc⟩:=aL h2.reads;obtain⟨b,off,e,hcell⟩:=hc j hj;simp only[Option.some.injEq,Addr.mk.injEq]at e;obtain⟨rfl,rfl, -⟩:=e;rw[Nat.zero_add]at hcell;refine⟨f,hcell,⟨h1.kept G ?_,o,?_⟩,(Below.refl base w).setCell h3.2.2.1 _⟩
 ·intro e;have:=Option.some.inj e;omega
 ·simpa using h3
theorem PQ.below {w w':World} {base g q cap:Nat} {h:Hd} (d:PQ w base g q cap h) (b:iO w w'):PQ w' base g q cap h:=
 ⟨d.1.below b,d.2.1.below b,d.2.2⟩
theorem PQ.lt {w:World} {base g q cap:Nat} {h:Hd} (d:PQ w base g q cap h):base<=w.heap.size:=by
 have:=d.1.lt;have:=d.2.2.2.1;omega
theorem PB.below {w w':World} {base g:Nat} {h:Hd} (d:PB w base g h) (b:iO w w'):PB w' base g h:=by
 obtain⟨q,cap,d⟩:=d;exact⟨q,cap,d.below b⟩
theorem PB.lt {w:World} {base g:Nat} {h:Hd} (d:PB w base g h):base<=w.heap.size:=by
 obtain⟨q,cap,d⟩:=d;exact d.lt
def Bx (w wx:World) (v:Value) (h:Hd):Prop:=StB wx w.heap.size 37 (hdA v h)/\StB wx (w.heap.size+1) 37 #[.slice none 0 0,.int .i64 0,.int .i64 0,.int .i64 0]/\iO w wx/\w.heap.size+2<=wx.heap.size/\ag wx v h.ks
theorem Bx.start {w:World} {v:Value} {h:Hd} (hr:ag w v h.ks):Bx w ((w.alloc (.cells (hdA v h) 37)).alloc (.cells #[.slice none 0 0,.int .i64 0,.int .i64 0,.int .i64 0] 37)) v h:=by
 have b1:iO w (w.alloc (.cells (hdA v h) 37)):=Fc;have b2:iO w ((w.alloc (.cells (hdA v h) 37)).alloc (.cells #[.slice none 0 0,.int .i64 0,.int .i64 0,.int .i64 0] 37)):=b1.alloc Fg _;refine⟨(StB.new w _ _).alloc _,?_,b2,by simp,hr.below b2 (Nat.le_refl _)⟩;have:=StB.new (w.alloc (.cells (hdA v h) 37)) 37 #[.slice none 0 0,.int .i64 0,.int .i64 0,.int .i64 0]
 rwa[World.size_alloc]at this
theorem Bx.next {w wx wy:World} {v:Value} {h:Hd} (d:Bx w wx v h) (b:iO wx wy):Bx w wy v h:=
 ⟨d.1.below b,d.2.1.below b,d.2.2.1.trans (b.mono d.2.2.1.size),Nat.le_trans d.2.2.2.1 b.size,d.2.2.2.2.below b (Nat.le_refl _)⟩
theorem oV (v:Value) (h:Hd) (w:World) (hr:ag w v h.ks) (hl:h.ks.length<=1099511627776):
  Calls Tryz.prog 52 #[HV v h] w fun e w'=>∃u,e=.returned (HV u h)/\Own w' w.heap.size u h.ks/\iO w w':=by
 obtain⟨ao,cap,rfl⟩:=aa hr;obtain⟨w1,hw1⟩:=Fe ((w.alloc (.cells (hdA (.slice ao h.ks.length cap) h) 37)).alloc (.cells #[.slice none 0 0,.int .i64 0,.int .i64 0,.int .i64 0] 37))
 have HB:Hid (Bx w w1 (.slice ao h.ks.length cap) h):=by rw[hw1];exact Bx.start hr
 have c1:=gK (.slice ao h.ks.length cap) h.ks w1 HB.out.2.2.2.2 hl;have HW:Hid (w1=(w.alloc (.cells #[.slice ao h.ks.length cap,.int .i64 h.kd,.int .i64 h.ho,.int .i64 h.tu] 37)).alloc (.cells #[.slice none 0 0,.int .i64 0,.int .i64 0,.int .i64 0] 37)):=hw1;clear hw1 hr hl;unfold HV;conv in hdA (.slice ao h.ks.length cap) h=>unfold hdA
 go_enter Tryz.func52,Tryz.ntmps52;go_wp2_with fail
 rw[<-HW.out];clear HW;refine c1.mono ?_;rintro e w2 ⟨u,rfl,o2,b2⟩;have D2:Bx w w2 (.slice ao h.ks.length cap) h:=HB.out.next b2;obtain⟨ab,cb,rfl⟩:=aa o2.reads;have k0:w2.cell? ⟨w.heap.size,0,none⟩=some (.slice ao h.ks.length cap):=D2.1.cell 0 rfl;have f0:=D2.1.frozen 0;have G:=ai w2 w.heap.size 0 (.slice ab h.ks.length cb);have zq:StB (w2.setCell ⟨w.heap.size,0,none⟩ (.slice ab h.ks.length cb)) w.heap.size 37 (hdA (.slice ab h.ks.length cb) h):=D2.1.put 0 _ rfl;have zz:StB (w2.setCell ⟨w.heap.size,0,none⟩ (.slice ab h.ks.length cb)) (w.heap.size+1) 37 #[.slice none 0 0,.int .i64 0,.int .i64 0,.int .i64 0]:=D2.2.1.kept G (by intro e;have:=Option.some.inj e;omega);have HF:Hid (Own (w2.setCell ⟨w.heap.size,0,none⟩ (.slice ab h.ks.length cb)) w1.heap.size (.slice ab h.ks.length cb) h.ks/\iO w (w2.setCell ⟨w.heap.size,0,none⟩ (.slice ab h.ks.length cb))/\w.heap.size+2<=w1.heap.size):=by
  refine⟨o2.keptLt G (by have:=HB.out.2.2.2.1;omega),D2.2.2.1.setCell (Nat.le_refl _) _,HB.out.2.2.2.1⟩
 clear D2 G o2 b2 HB c1;go_wp2_with (first|(refine ah GJ rfl _ rfl w.heap.size rfl (hdA (.slice ab h.ks.length cb) h) rfl zq ?_)|(refine ae GJ rfl _ _ rfl (w.heap.size+1) (hdA (.slice ab h.ks.length cb) h) #[.slice none 0 0,.int .i64 0,.int .i64 0,.int .i64 0] rfl rfl rfl rfl (dB _ rfl) zz ?_;intro we se ge))
 refine bodyPost_ret (aj GJ rfl _ _ (w.heap.size+1) _ rfl rfl se) rfl ?_;exact⟨_,rfl,(HF.out.1.keptLt ge (by have:=HF.out.2.2;omega)).mono (by have:=HF.out.2.2;omega),HF.out.2.1.grown ge HF.out.2.1.size (fun x e=>by cases e;omega)⟩
def blk (v:Value):List Nat:=v.ownBlock.toList
theorem aN {w:World} {B:Nat} {v:Value} {xs:List Int} (h:Own w B v xs):∀x∈blk v,B<=x/\x<w.heap.size:=fun x hx=>h.lt x (by simpa[blk]using hx)
theorem dq {u v:Value} {w:World} {B:Nat} {xs:List Int} (hb:∀y∈blk u,y<B) (h:Own w B v xs):apart v u:=by
 have key:∀y,u.ownBlock=some y->v.ownBlock=some y->False:=by
  intro y h1 h2;have a1:=hb y (by unfold blk;rw[h1];simp);have a2:=(h.lt y h2).1;omega
 constructor
 ·cases hv:v.ownBlock with
  |none=>exact .inl rfl
  |some y=>exact .inr (fun e=>key y e.symm hv)
 ·cases hu:u.ownBlock with
  |none=>exact .inl rfl
  |some y=>exact .inr (fun e=>key y hu e.symm)
theorem gu {l:List Value} {v:Value} {w:World} {B:Nat} {xs:List Int} (hl:l.Pairwise apart) (hb:∀x∈l,∀y∈blk x,y<B) (h:Own w B v xs):(v::l).Pairwise apart:=
 List.Pairwise.cons (fun x hx=>dq (hb x hx) h) hl
theorem uR {a b:Value} (h:apart a b):[b,a].Pairwise apart:=List.Pairwise.cons (fun x hx=>by simp only[List.mem_singleton]at hx;subst hx;exact⟨h.2,h.1⟩) (List.Pairwise.cons (fun x hx=>by cases hx) List.Pairwise.nil)
structure cG (w:World) (base:Nat) (a b k q z:Value) (n:Nd):Prop where
 oa:Own w base a n.xs
 ob:Own w base b n.ys
 ok:Own w base k n.h.ks
 oq:Own w base q n.c.ts
 oz:Own w base z n.s.ts
 ap:[z,q,k,b,a].Pairwise apart
theorem cG.reads {w:World} {base:Nat} {a b k q z:Value} {n:Nd} (h:cG w base a b k q z n):RdN w a b k q z n:=⟨h.oa.reads,h.ob.reads,h.ok.reads,h.oq.reads,h.oz.reads⟩
theorem cG.mono {w:World} {base base':Nat} {a b k q z:Value} {n:Nd} (h:cG w base a b k q z n) (hb:base'<=base):cG w base' a b k q z n:=⟨h.oa.mono hb,h.ob.mono hb,h.ok.mono hb,h.oq.mono hb,h.oz.mono hb,h.ap⟩
theorem cG.below {w w':World} {base:Nat} {a b k q z:Value} {n:Nd} (h:cG w base a b k q z n) (B:iO w w'):cG w' base a b k q z n:=⟨h.oa.below B,h.ob.below B,h.ok.below B,h.oq.below B,h.oz.below B,h.ap⟩
theorem cG.keptLt {w w':World} {base g:Nat} {a b k q z:Value} {n:Nd} (h:cG w base a b k q z n) (hg:w.grownBy w' (some g)) (hb:g<base):cG w' base a b k q z n:=⟨h.oa.keptLt hg hb,h.ob.keptLt hg hb,h.ok.keptLt hg hb,h.oq.keptLt hg hb,h.oz.keptLt hg hb,h.ap⟩
def aA:Array Value:=#[.int .i64 0,.bool false,.slice none 0 0,.slice none 0 0,.slice none 0 0,.int .i64 0,.int .i64 0,.int .i64 0,.string ⟨#[]⟩,.int .i64 0,.int .i64 0,.int .i64 0,.int .i64 0,.int .i64 0,.bool false,.int .i64 0,.int .i64 0,.slice none 0 0,.int .i64 0,.slice none 0 0]
theorem pd:aA.all (·.oneCell')=true:=by simp[aA,Value.oneCell']
theorem cP {a b k q z:Value} (n:Nd) (ha:a.oneCell'=true) (hb:b.oneCell'=true) (hk:k.oneCell'=true) (hq:q.oneCell'=true) (hz:z.oneCell'=true):(ndA a b k q z n).all (·.oneCell')=true:=by
 unfold ndA;simp[ha,hb,hk,hq,hz,S,show∀k n,(Value.int k n).oneCell'=true from fun _ _=>rfl,show∀b,(Value.bool b).oneCell'=true from fun _=>rfl,show∀s,(Value.string s).oneCell'=true from fun _=>rfl]
structure NS (w wx:World) (g:Nat) (a b k q z:Value) (n:Nd) (cs:Array Value):Prop where
 p:StB wx w.heap.size 42 (ndA a b k q z n)
 r:StB wx (w.heap.size+1) 42 aA
 o:StB wx g 42 cs
 b:iO w wx
 l:w.heap.size+1<g
theorem NS.below {w wx wy:World} {g:Nat} {a b k q z:Value} {n:Nd} {cs:Array Value} (h:NS w wx g a b k q z n cs) (B:iO wx wy):NS w wy g a b k q z n cs:=
 ⟨h.p.below B,h.r.below B,h.o.below B,h.b.trans (B.mono h.b.size),h.l⟩
theorem NS.put {w wx:World} {g:Nat} {a b k q z:Value} {n:Nd} {cs ds:Array Value} (h:NS w wx g a b k q z n cs) (j:Nat) (x:Value) (e:cs.setIfInBounds j x=ds):NS w (wx.setCell ⟨g,j,none⟩ x) g a b k q z n ds:=
 ⟨h.p.other _ _ (by have:=h.l;show w.heap.size≠g;omega),h.r.other _ _ (by have:=h.l;show w.heap.size+1≠g;omega),h.o.put j x e,h.b.setCell (by have:=h.l;show w.heap.size<=g;omega) _,h.l⟩
theorem NS.start {w w1 w2:World} {a b k q z:Value} {n:Nd} (hw1:w1=(w.alloc (.cells (ndA a b k q z n) 42)).alloc (.cells aA 42)) (s:StB w2 w1.heap.size 42 (ndA a b k q z n)) (G:(w1.alloc (.cells aA 42)).grownBy w2 (some w1.heap.size)):NS w w2 w1.heap.size a b k q z n (ndA a b k q z n):=by
 have p1:StB w1 w.heap.size 42 (ndA a b k q z n):=by rw[hw1];exact(StB.new w _ _).alloc _
 have r1:StB w1 (w.heap.size+1) 42 aA:=by
  rw[hw1];have:=StB.new (w.alloc (.cells (ndA a b k q z n) 42)) 42 aA
  rwa[World.size_alloc]at this
 have b1:iO w w1:=by rw[hw1];exact Fc.alloc Fg _
 have l1:=r1.lt;have l0:=p1.lt;refine⟨(p1.alloc _).kept G (by simp;omega),(r1.alloc _).kept G (by simp;omega),s,?_,l1⟩;exact(b1.alloc b1.size _).grown G (by simp;have:=b1.size;omega) (fun k e=>by cases e;omega)
theorem xp (a b k q z:Value) (n:Nd) (w:World) (hr:RdN w a b k q z n) (hl:SmN n):
  Calls Tryz.prog 17 #[NdV a b k q z n] w fun e w'=>∃a' b' k' q' z',e=.returned (NdV a' b' k' q' z' n)/\cG w' w.heap.size a' b' k' q' z' n/\iO w w':=by
 obtain⟨w1,hw1⟩:=Fe ((w.alloc (.cells (ndA a b k q z n) 42)).alloc (.cells aA 42))
 have HST:Hid (∀w2,StB w2 w1.heap.size 42 (ndA a b k q z n)->(w1.alloc (.cells aA 42)).grownBy w2 (some w1.heap.size)->NS w w2 w1.heap.size a b k q z n (ndA a b k q z n)):=fun w2 s G=>NS.start hw1 s G
 have p1:StB w1 w.heap.size 42 (ndA a b k q z n):=by rw[hw1];exact(StB.new w _ _).alloc _
 have HR:Hid (∀wx,iO w wx->RdN wx a b k q z n):=fun wx B=>hr.below B
 have C1:Hid (∀wx,iO w wx->Calls Tryz.prog 51 #[.agg #[a,b]] wx fun e w'=>∃u v,e=.returned (.agg #[u,v])/\aV w' wx.heap.size u v n.xs n.ys/\iO wx w'):=fun wx B=>dA a b n.xs n.ys wx (HR.out wx B).ra (HR.out wx B).rb (by have:=hl.la;omega) (by have:=hl.lb;omega)
 have C2:Hid (∀wx,iO w wx->Calls Tryz.prog 52 #[HV k n.h] wx fun e w'=>∃u,e=.returned (HV u n.h)/\Own w' wx.heap.size u n.h.ks/\iO wx w'):=fun wx B=>oV k n.h wx (HR.out wx B).rk (by have:=hl.lk;omega)
 have C3:Hid (∀wx,iO w wx->Calls Tryz.prog 53 #[CpV q n.c] wx fun e w'=>∃u,e=.returned (CpV u n.c)/\Own w' wx.heap.size u n.c.ts/\iO wx w'):=fun wx B=>xn q n.c wx (HR.out wx B).rq (by have:=hl.lq;omega)
 have C4:Hid (∀wx,iO w wx->Calls Tryz.prog 54 #[SnV z n.s] wx fun e w'=>∃u,e=.returned (SnV u n.s)/\Own w' wx.heap.size u n.s.ts/\iO wx w'):=fun wx B=>xv z n.s wx (HR.out wx B).rz (by have:=hl.lz;omega)
 obtain⟨a1,a2,rfl⟩:=aa hr.ra;obtain⟨b1,b2,rfl⟩:=aa hr.rb;obtain⟨k1,k2,rfl⟩:=aa hr.rk;obtain⟨q1,q2,rfl⟩:=aa hr.rq;obtain⟨z1,z2,rfl⟩:=aa hr.rz;clear hr HR;have HL:Hid (SmN n):=hl;clear hl;unfold HV hdA at C2;unfold CpV cpA at C3;unfold SnV snA at C4;unfold NdV;conv in ndA (.slice a1 n.xs.length a2) _ _ _ _ _=>unfold ndA
 unfold aA ndA at hw1;go_enter Tryz.func17,Tryz.ntmps17;go_upto_region 1 with fail
 rw[<-hw1];clear hw1;have q1':StB (w1.alloc (.cells aA 42)) w1.heap.size 42 aA:=StB.new w1 _ _;go_upto_region 2 with(first|(refine ah GO rfl _ rfl w.heap.size rfl (Fk a1 a2 b1 b2 k1 k2 q1 q2 z1 z2 n) rfl p1 ?_)|(refine ae GO rfl _ _ rfl w1.heap.size (Fk a1 a2 b1 b2 k1 k2 q1 q2 z1 z2 n) aA rfl rfl rfl rfl (cP n rfl rfl rfl rfl rfl) q1' ?_;intro w2 s2 g2))
 have HN:Hid (NS w w2 w1.heap.size (.slice a1 n.xs.length a2) (.slice b1 n.ys.length b2) (.slice k1 n.h.ks.length k2) (.slice q1 n.c.ts.length q2) (.slice z1 n.s.ts.length z2) n (Fk a1 a2 b1 b2 k1 k2 q1 q2 z1 z2 n)):=HST.out w2 s2 g2;clear HST p1 q1' s2 g2;obtain⟨g,hg⟩:=Fe w1.heap.size
 rw[<-hg]at HN⊢;clear hg;simp only[Act.put];have p2:w2.cell? ⟨w.heap.size,2,none⟩=some (.slice a1 n.xs.length a2):=HN.out.p.cell 2 rfl;have p3:w2.cell? ⟨w.heap.size,3,none⟩=some (.slice b1 n.ys.length b2):=HN.out.p.cell 3 rfl;go_wp2_with fail
 refine(C1.out w2 HN.out.b).mono ?_;rintro e w3 ⟨u,v,rfl,o1,bx⟩;obtain⟨c1,d1,rfl⟩:=aa o1.1.reads;obtain⟨c2,d2,rfl⟩:=aa o1.2.1.reads;have O1:Hid (Own w3 (g+1) (.slice c1 n.xs.length d1) n.xs/\Own w3 (g+1) (.slice c2 n.ys.length d2) n.ys/\[Value.slice c2 n.ys.length d2,Value.slice c1 n.xs.length d1].Pairwise apart):=⟨o1.1.mono HN.out.o.lt,o1.2.1.mono HN.out.o.lt,uR o1.2.2⟩
 clear o1;replace HN:=HN.out.below bx;clear bx C1 p2 p3;have p2:w3.cell? ⟨g,2,none⟩=some (.slice a1 n.xs.length a2):=HN.o.cell 2 rfl;have f2:=HN.o.frozen 2;have p3:w3.cell? ⟨g,3,none⟩=some (.slice b1 n.ys.length b2):=HN.o.cell 3 rfl;have f3:=HN.o.frozen 3;obtain⟨w4,hw4⟩:=Fe (((w3.setCell ⟨g,2,none⟩ (.slice c1 n.xs.length d1)).setCell ⟨g,3,none⟩ (.slice c2 n.ys.length d2)))
 have HN':Hid (NS w w4 g (.slice a1 n.xs.length a2) (.slice b1 n.ys.length b2) (.slice k1 n.h.ks.length k2) (.slice q1 n.c.ts.length q2) (.slice z1 n.s.ts.length z2) n (Fk c1 d1 c2 d2 k1 k2 q1 q2 z1 z2 n)):=by rw[hw4];exact((HN.put 2 (.slice c1 n.xs.length d1) rfl).put 3 (.slice c2 n.ys.length d2) rfl)
 replace O1:Hid (Own w4 (g+1) (.slice c1 n.xs.length d1) n.xs/\Own w4 (g+1) (.slice c2 n.ys.length d2) n.ys/\[Value.slice c2 n.ys.length d2,Value.slice c1 n.xs.length d1].Pairwise apart):=by
  rw[hw4];exact⟨((O1.out.1.setLt (Nat.lt_succ_self g) 2 _).setLt (Nat.lt_succ_self g) 3 _),((O1.out.2.1.setLt (Nat.lt_succ_self g) 2 _).setLt (Nat.lt_succ_self g) 3 _),O1.out.2.2⟩
 go_upto_region 3 with fail
 rw[<-hw4];clear hw4 HN p2 f2 p3 f3;have HN:=HN';clear HN';have p4:w4.cell? ⟨w.heap.size,4,none⟩=some (.slice k1 n.h.ks.length k2):=HN.out.p.cell 4 rfl;have p5:w4.cell? ⟨w.heap.size,5,none⟩=some (.int .i64 n.h.kd):=HN.out.p.cell 5 rfl;have p6:w4.cell? ⟨w.heap.size,6,none⟩=some (.int .i64 n.h.ho):=HN.out.p.cell 6 rfl;have p7:w4.cell? ⟨w.heap.size,7,none⟩=some (.int .i64 n.h.tu):=HN.out.p.cell 7 rfl;go_wp2_with fail
 refine(C2.out w4 HN.out.b).mono ?_;rintro e w5 ⟨u,rfl,o2,bx⟩;obtain⟨c3,d3,rfl⟩:=aa o2.reads;have O2:Hid (Own w5 (g+1) (.slice c1 n.xs.length d1) n.xs/\Own w5 (g+1) (.slice c2 n.ys.length d2) n.ys/\Own w5 (g+1) (.slice c3 n.h.ks.length d3) n.h.ks/\[Value.slice c3 n.h.ks.length d3,Value.slice c2 n.ys.length d2,Value.slice c1 n.xs.length d1].Pairwise apart):=by
  refine⟨(O1.out.1).below bx,(O1.out.2.1).below bx,o2.mono HN.out.o.lt,gu (O1.out.2.2) (fun x hx=>?_) o2⟩;simp only[List.mem_cons,List.not_mem_nil,or_false]at hx;rcases hx with rfl|rfl
  ·exact fun y hy=>(aN (O1.out.2.1) y hy).2
  ·exact fun y hy=>(aN (O1.out.1) y hy).2
 clear O1 o2;replace HN:=HN.out.below bx;clear bx C2 p4 p5 p6 p7;have p4:w5.cell? ⟨g,4,none⟩=some (.slice k1 n.h.ks.length k2):=HN.o.cell 4 rfl;have f4:=HN.o.frozen 4;have p5:w5.cell? ⟨g,5,none⟩=some (.int .i64 n.h.kd):=HN.o.cell 5 rfl;have f5:=HN.o.frozen 5;have p6:w5.cell? ⟨g,6,none⟩=some (.int .i64 n.h.ho):=HN.o.cell 6 rfl;have f6:=HN.o.frozen 6;have p7:w5.cell? ⟨g,7,none⟩=some (.int .i64 n.h.tu):=HN.o.cell 7 rfl;have f7:=HN.o.frozen 7;obtain⟨w6,hw6⟩:=Fe (((((w5.setCell ⟨g,4,none⟩ (.slice c3 n.h.ks.length d3)).setCell ⟨g,5,none⟩ (.int .i64 n.h.kd)).setCell ⟨g,6,none⟩ (.int .i64 n.h.ho)).setCell ⟨g,7,none⟩ (.int .i64 n.h.tu)))
 have HN':Hid (NS w w6 g (.slice a1 n.xs.length a2) (.slice b1 n.ys.length b2) (.slice k1 n.h.ks.length k2) (.slice q1 n.c.ts.length q2) (.slice z1 n.s.ts.length z2) n (Fk c1 d1 c2 d2 c3 d3 q1 q2 z1 z2 n)):=by rw[hw6];exact((((HN.put 4 (.slice c3 n.h.ks.length d3) rfl).put 5 (.int .i64 n.h.kd) rfl).put 6 (.int .i64 n.h.ho) rfl).put 7 (.int .i64 n.h.tu) rfl)
 replace O2:Hid (Own w6 (g+1) (.slice c1 n.xs.length d1) n.xs/\Own w6 (g+1) (.slice c2 n.ys.length d2) n.ys/\Own w6 (g+1) (.slice c3 n.h.ks.length d3) n.h.ks/\[Value.slice c3 n.h.ks.length d3,Value.slice c2 n.ys.length d2,Value.slice c1 n.xs.length d1].Pairwise apart):=by
  rw[hw6];exact⟨((((O2.out.1.setLt (Nat.lt_succ_self g) 4 _).setLt (Nat.lt_succ_self g) 5 _).setLt (Nat.lt_succ_self g) 6 _).setLt (Nat.lt_succ_self g) 7 _),((((O2.out.2.1.setLt (Nat.lt_succ_self g) 4 _).setLt (Nat.lt_succ_self g) 5 _).setLt (Nat.lt_succ_self g) 6 _).setLt (Nat.lt_succ_self g) 7 _),((((O2.out.2.2.1.setLt (Nat.lt_succ_self g) 4 _).setLt (Nat.lt_succ_self g) 5 _).setLt (Nat.lt_succ_self g) 6 _).setLt (Nat.lt_succ_self g) 7 _),O2.out.2.2.2⟩
 go_upto_region 4 with fail
 rw[<-hw6];clear hw6 HN p4 f4 p5 f5 p6 f6 p7 f7;have HN:=HN';clear HN';have p13:w6.cell? ⟨w.heap.size,13,none⟩=some (.int .i64 n.c.tr):=HN.out.p.cell 13 rfl;have p14:w6.cell? ⟨w.heap.size,14,none⟩=some (.bool n.c.op):=HN.out.p.cell 14 rfl;have p15:w6.cell? ⟨w.heap.size,15,none⟩=some (.int .i64 n.c.di):=HN.out.p.cell 15 rfl;have p16:w6.cell? ⟨w.heap.size,16,none⟩=some (.int .i64 n.c.wa):=HN.out.p.cell 16 rfl;have p17:w6.cell? ⟨w.heap.size,17,none⟩=some (.slice q1 n.c.ts.length q2):=HN.out.p.cell 17 rfl;go_wp2_with fail
 refine(C3.out w6 HN.out.b).mono ?_;rintro e w7 ⟨u,rfl,o3,bx⟩;obtain⟨c4,d4,rfl⟩:=aa o3.reads;have O3:Hid (Own w7 (g+1) (.slice c1 n.xs.length d1) n.xs/\Own w7 (g+1) (.slice c2 n.ys.length d2) n.ys/\Own w7 (g+1) (.slice c3 n.h.ks.length d3) n.h.ks/\Own w7 (g+1) (.slice c4 n.c.ts.length d4) n.c.ts/\[Value.slice c4 n.c.ts.length d4,Value.slice c3 n.h.ks.length d3,Value.slice c2 n.ys.length d2,Value.slice c1 n.xs.length d1].Pairwise apart):=by
  refine⟨(O2.out.1).below bx,(O2.out.2.1).below bx,(O2.out.2.2.1).below bx,o3.mono HN.out.o.lt,gu (O2.out.2.2.2) (fun x hx=>?_) o3⟩;simp only[List.mem_cons,List.not_mem_nil,or_false]at hx;rcases hx with rfl|rfl|rfl
  ·exact fun y hy=>(aN (O2.out.2.2.1) y hy).2
  ·exact fun y hy=>(aN (O2.out.2.1) y hy).2
  ·exact fun y hy=>(aN (O2.out.1) y hy).2
 clear O2 o3;replace HN:=HN.out.below bx;clear bx C3 p13 p14 p15 p16 p17;have p13:w7.cell? ⟨g,13,none⟩=some (.int .i64 n.c.tr):=HN.o.cell 13 rfl;have f13:=HN.o.frozen 13;have p14:w7.cell? ⟨g,14,none⟩=some (.bool n.c.op):=HN.o.cell 14 rfl;have f14:=HN.o.frozen 14;have p15:w7.cell? ⟨g,15,none⟩=some (.int .i64 n.c.di):=HN.o.cell 15 rfl;have f15:=HN.o.frozen 15;have p16:w7.cell? ⟨g,16,none⟩=some (.int .i64 n.c.wa):=HN.o.cell 16 rfl;have f16:=HN.o.frozen 16;have p17:w7.cell? ⟨g,17,none⟩=some (.slice q1 n.c.ts.length q2):=HN.o.cell 17 rfl;have f17:=HN.o.frozen 17;obtain⟨w8,hw8⟩:=Fe ((((((w7.setCell ⟨g,13,none⟩ (.int .i64 n.c.tr)).setCell ⟨g,14,none⟩ (.bool n.c.op)).setCell ⟨g,15,none⟩ (.int .i64 n.c.di)).setCell ⟨g,16,none⟩ (.int .i64 n.c.wa)).setCell ⟨g,17,none⟩ (.slice c4 n.c.ts.length d4)))
 have HN':Hid (NS w w8 g (.slice a1 n.xs.length a2) (.slice b1 n.ys.length b2) (.slice k1 n.h.ks.length k2) (.slice q1 n.c.ts.length q2) (.slice z1 n.s.ts.length z2) n (Fk c1 d1 c2 d2 c3 d3 c4 d4 z1 z2 n)):=by rw[hw8];exact(((((HN.put 13 (.int .i64 n.c.tr) rfl).put 14 (.bool n.c.op) rfl).put 15 (.int .i64 n.c.di) rfl).put 16 (.int .i64 n.c.wa) rfl).put 17 (.slice c4 n.c.ts.length d4) rfl)
 replace O3:Hid (Own w8 (g+1) (.slice c1 n.xs.length d1) n.xs/\Own w8 (g+1) (.slice c2 n.ys.length d2) n.ys/\Own w8 (g+1) (.slice c3 n.h.ks.length d3) n.h.ks/\Own w8 (g+1) (.slice c4 n.c.ts.length d4) n.c.ts/\[Value.slice c4 n.c.ts.length d4,Value.slice c3 n.h.ks.length d3,Value.slice c2 n.ys.length d2,Value.slice c1 n.xs.length d1].Pairwise apart):=by
  rw[hw8];exact⟨(((((O3.out.1.setLt (Nat.lt_succ_self g) 13 _).setLt (Nat.lt_succ_self g) 14 _).setLt (Nat.lt_succ_self g) 15 _).setLt (Nat.lt_succ_self g) 16 _).setLt (Nat.lt_succ_self g) 17 _),(((((O3.out.2.1.setLt (Nat.lt_succ_self g) 13 _).setLt (Nat.lt_succ_self g) 14 _).setLt (Nat.lt_succ_self g) 15 _).setLt (Nat.lt_succ_self g) 16 _).setLt (Nat.lt_succ_self g) 17 _),(((((O3.out.2.2.1.setLt (Nat.lt_succ_self g) 13 _).setLt (Nat.lt_succ_self g) 14 _).setLt (Nat.lt_succ_self g) 15 _).setLt (Nat.lt_succ_self g) 16 _).setLt (Nat.lt_succ_self g) 17 _),(((((O3.out.2.2.2.1.setLt (Nat.lt_succ_self g) 13 _).setLt (Nat.lt_succ_self g) 14 _).setLt (Nat.lt_succ_self g) 15 _).setLt (Nat.lt_succ_self g) 16 _).setLt (Nat.lt_succ_self g) 17 _),O3.out.2.2.2.2⟩
 go_upto_region 5 with fail
 rw[<-hw8];clear hw8 HN p13 f13 p14 f14 p15 f15 p16 f16 p17 f17;have HN:=HN';clear HN';have p18:w8.cell? ⟨w.heap.size,18,none⟩=some (.int .i64 n.s.tr):=HN.out.p.cell 18 rfl;have p19:w8.cell? ⟨w.heap.size,19,none⟩=some (.slice z1 n.s.ts.length z2):=HN.out.p.cell 19 rfl;go_wp2_with fail
 refine(C4.out w8 HN.out.b).mono ?_;rintro e w9 ⟨u,rfl,o4,bx⟩;obtain⟨c5,d5,rfl⟩:=aa o4.reads;have O4:Hid (Own w9 (g+1) (.slice c1 n.xs.length d1) n.xs/\Own w9 (g+1) (.slice c2 n.ys.length d2) n.ys/\Own w9 (g+1) (.slice c3 n.h.ks.length d3) n.h.ks/\Own w9 (g+1) (.slice c4 n.c.ts.length d4) n.c.ts/\Own w9 (g+1) (.slice c5 n.s.ts.length d5) n.s.ts/\[Value.slice c5 n.s.ts.length d5,Value.slice c4 n.c.ts.length d4,Value.slice c3 n.h.ks.length d3,Value.slice c2 n.ys.length d2,Value.slice c1 n.xs.length d1].Pairwise apart):=by
  refine⟨(O3.out.1).below bx,(O3.out.2.1).below bx,(O3.out.2.2.1).below bx,(O3.out.2.2.2.1).below bx,o4.mono HN.out.o.lt,gu (O3.out.2.2.2.2) (fun x hx=>?_) o4⟩;simp only[List.mem_cons,List.not_mem_nil,or_false]at hx;rcases hx with rfl|rfl|rfl|rfl
  ·exact fun y hy=>(aN (O3.out.2.2.2.1) y hy).2
  ·exact fun y hy=>(aN (O3.out.2.2.1) y hy).2
  ·exact fun y hy=>(aN (O3.out.2.1) y hy).2
  ·exact fun y hy=>(aN (O3.out.1) y hy).2
 clear O3 o4;replace HN:=HN.out.below bx;clear bx C4 p18 p19;have p18:w9.cell? ⟨g,18,none⟩=some (.int .i64 n.s.tr):=HN.o.cell 18 rfl;have f18:=HN.o.frozen 18;have p19:w9.cell? ⟨g,19,none⟩=some (.slice z1 n.s.ts.length z2):=HN.o.cell 19 rfl;have f19:=HN.o.frozen 19;obtain⟨w10,hw10⟩:=Fe (((w9.setCell ⟨g,18,none⟩ (.int .i64 n.s.tr)).setCell ⟨g,19,none⟩ (.slice c5 n.s.ts.length d5)))
 have HN':Hid (NS w w10 g (.slice a1 n.xs.length a2) (.slice b1 n.ys.length b2) (.slice k1 n.h.ks.length k2) (.slice q1 n.c.ts.length q2) (.slice z1 n.s.ts.length z2) n (Fk c1 d1 c2 d2 c3 d3 c4 d4 c5 d5 n)):=by rw[hw10];exact((HN.put 18 (.int .i64 n.s.tr) rfl).put 19 (.slice c5 n.s.ts.length d5) rfl)
 replace O4:Hid (Own w10 (g+1) (.slice c1 n.xs.length d1) n.xs/\Own w10 (g+1) (.slice c2 n.ys.length d2) n.ys/\Own w10 (g+1) (.slice c3 n.h.ks.length d3) n.h.ks/\Own w10 (g+1) (.slice c4 n.c.ts.length d4) n.c.ts/\Own w10 (g+1) (.slice c5 n.s.ts.length d5) n.s.ts/\[Value.slice c5 n.s.ts.length d5,Value.slice c4 n.c.ts.length d4,Value.slice c3 n.h.ks.length d3,Value.slice c2 n.ys.length d2,Value.slice c1 n.xs.length d1].Pairwise apart):=by
  rw[hw10];exact⟨((O4.out.1.setLt (Nat.lt_succ_self g) 18 _).setLt (Nat.lt_succ_self g) 19 _),((O4.out.2.1.setLt (Nat.lt_succ_self g) 18 _).setLt (Nat.lt_succ_self g) 19 _),((O4.out.2.2.1.setLt (Nat.lt_succ_self g) 18 _).setLt (Nat.lt_succ_self g) 19 _),((O4.out.2.2.2.1.setLt (Nat.lt_succ_self g) 18 _).setLt (Nat.lt_succ_self g) 19 _),((O4.out.2.2.2.2.1.setLt (Nat.lt_succ_self g) 18 _).setLt (Nat.lt_succ_self g) 19 _),O4.out.2.2.2.2.2⟩
 go_upto_region 6 with fail
 rw[<-hw10];clear hw10 HN p18 f18 p19 f19;have HN:=HN';clear HN';go_wp2_with (first|(refine ah GO rfl _ rfl g rfl (Fk c1 d1 c2 d2 c3 d3 c4 d4 c5 d5 n) rfl HN.out.o ?_)|(refine ae GO rfl _ _ rfl (w.heap.size+1) (Fk c1 d1 c2 d2 c3 d3 c4 d4 c5 d5 n) aA rfl rfl rfl rfl (cP n rfl rfl rfl rfl rfl) HN.out.r ?_;intro w19 s19 g19))
 refine bodyPost_ret (aj GO rfl _ _ (w.heap.size+1) _ rfl rfl s19) rfl ?_;refine⟨_,_,_,_,_,rfl,?_,HN.out.b.grown g19 HN.out.b.size (fun k e=>by cases e;omega)⟩;exact(cG.keptLt ⟨O4.out.1,O4.out.2.1,O4.out.2.2.1,O4.out.2.2.2.1,O4.out.2.2.2.2.1,O4.out.2.2.2.2.2⟩ g19 (by have:=HN.out.l;omega)).mono (by have:=HN.out.l;omega)
end Go.Proofs.YthldeiojlllkdaaGreatDoor
