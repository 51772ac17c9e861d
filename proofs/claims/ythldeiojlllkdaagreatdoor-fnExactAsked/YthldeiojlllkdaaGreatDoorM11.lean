/- A message in memory: eleven cells; l15Msg of the model. -/
import Derived.Test.YthldeiojlllkdaaGreatDoorM1
import Derived.Test.YthldeiojlllkdaaGreatDoorSNode
import Derived.Test.YthldeiojlllkdaaGreatDoorM9
import Derived.Test.YthldeiojlllkdaaGreatDoorM5
import Derived.Test.YthldeiojlllkdaaGreatDoorM3
import Derived.Deep.DeepCutAuto
set_option maxRecDepth 20000
set_option maxHeartbeats 2000000
namespace Go.Proofs.YthldeiojlllkdaaGreatDoor
open Go.ChangeShapes Go.WideShapes Go.ChangeAt Go.RowKit
section
open Go.ChangeShapes Go.WideShapes Go.ChangeAt Go.RowKit
end
theorem xn (v:Value) (c:Cp) (w:World) (hr:ag w v c.ts) (hl:c.ts.length<=1099511627776):
  Calls Tryz.prog 53 #[CpV v c] w fun e w'=>∃u,e=.returned (CpV u c)/\Own w' w.heap.size u c.ts/\bB w w':=by
 obtain⟨w1,hw1⟩:=eX ((w.alloc (.cells (cpA v c) 39)).alloc (.cells cQ 39))
 have p0:StB w1 w.heap.size 39 (cpA v c):=by rw[hw1];exact(StB.new w _ _).alloc _
 have q0:StB w1 (w.heap.size+1) 39 cQ:=by
  rw[hw1];have:=StB.new (w.alloc (.cells (cpA v c) 39)) 39 cQ
  rwa[World.size_alloc]at this
 have b1:bB w w1:=by rw[hw1];exactbA.alloc (by simp) _
 have c1:=gL v c.ts w1 (hr.below b1 (Nat.le_refl _)) hl;have hs1:=q0.lt;obtain⟨ao,cap,rfl⟩:=aa hr;have HW:Hid (w1=(w.alloc (.cells #[.int .i64 c.tr,.bool c.op,.int .i64 c.di,.int .i64 c.wa,.slice ao c.ts.length cap] 39)).alloc (.cells #[.int .i64 0,.bool false,.int .i64 0,.int .i64 0,.slice none 0 0] 39)):=hw1;have k4:w1.cell? ⟨w.heap.size,4,none⟩=some (.slice ao c.ts.length cap):=p0.cell 4 rfl;clear hw1 hr hl;unfold CpV cpA;go_enter Tryz.func53,Tryz.ntmps53;go_wp2_with fail
 rw[<-HW.out];clear HW;refine c1.mono ?_;rintro e w3 ⟨u,rfl,o3,b3⟩;replace p0:=p0.below b3;replace q0:=q0.below b3;have B3:=b1.trans (b3.mono b1.size);obtain⟨ab,cb,rfl⟩:=aa o3.reads;have k0:w3.cell? ⟨w.heap.size,4,none⟩=some (.slice ao c.ts.length cap):=p0.cell 4 rfl;have f0:=p0.frozen 4;have r4:=p0.put 4 (.slice ab c.ts.length cb) (ds:=cpA (.slice ab c.ts.length cb) c) rfl;have q4:=q0.other ⟨w.heap.size,4,none⟩ (.slice ab c.ts.length cb) (by simp);have HP:Hid (Own (w3.setCell ⟨w.heap.size,4,none⟩ (.slice ab c.ts.length cb)) w1.heap.size (.slice ab c.ts.length cb) c.ts/\bB w (w3.setCell ⟨w.heap.size,4,none⟩ (.slice ab c.ts.length cb))):=⟨o3.setLt (by omega) 4 _,B3.setCell (Nat.le_refl _) _⟩
 clear k4 p0 q0 c1 o3 b3 b1 B3;go_upto_region 2 with fail
 obtain⟨w4,hw4⟩:=eX (w3.setCell ⟨w.heap.size,4,none⟩ (.slice ab c.ts.length cb))
 rw[<-hw4]at r4 q4 HP⊢;clear hw4 k0 f0;go_wp2_with (first|(refine ah Tryz.isCp rfl _ rfl w.heap.size rfl (cpA (.slice ab c.ts.length cb) c) rfl r4 ?_)|(refine ae Tryz.isCp rfl _ _ rfl (w.heap.size+1) (cpA (.slice ab c.ts.length cb) c) cQ rfl rfl rfl rfl (lD c rfl) q4 ?_;intro w8 s8 g8))
 refine bodyPost_ret (aj Tryz.isCp rfl _ _ (w.heap.size+1) _ rfl rfl s8) rfl ?_;exact⟨_,rfl,(HP.out.1.keptLt g8 (by omega)).mono (by omega),HP.out.2.grown g8 HP.out.2.size (fun k e=>by cases e;omega)⟩
theorem BC (v:Value) (c:Cp) (i:Int) (w:World) (hr:ag w v c.ts):
  Calls Tryz.prog 101 #[CpV v c,.int .i64 i] w fun e w'=>e=.returned (.bool (c.has i))/\bB w w':=by
 have HE:Hid (c.has i=(decide (0<=i)&&decide (i<(c.ts.length:Int)))):=rfl;obtain⟨ao,cap,rfl⟩:=aa hr;obtain⟨x,hx⟩:=eX (c.has i)
 rw[<-hx]at HE⊢;unfold CpV cpA;clear hr hx;by_cases h0:0<=i
 ·by_cases h1:i<(c.ts.length:Int)
  ·go_enter Tryz.func101,Tryz.ntmps101
   go_wp2;go_ret;exact⟨af (by rw[HE.out];simp[h0,h1]),bA⟩
  ·go_enter Tryz.func101,Tryz.ntmps101
   go_wp2;go_ret;exact⟨af (by rw[HE.out];simp[h1]),bA⟩
 ·have HF:Hid (x=false):=by rw[Hid,HE.out];simp[h0]
  go_enter Tryz.func101,Tryz.ntmps101;go_wp2;go_ret;exact⟨af (by rw[HF.out]),bA⟩
theorem gt (v:Value) (h:Hd) (i:Int) (w:World) (hr:ag w v h.ks) (h0:0<=i) (hi:i<(h.ks.length:Int)):
  Calls Tryz.prog 140 #[HV v h,.int .i64 i] w fun e w'=>e=.returned (.bool (dV h.ks i))/\bB w w':=by
 have HE:Hid (dV h.ks i=decide (h.ks.getD i.toNat 0≠0)):=rfl;obtain⟨ao,cap,rfl⟩:=aa hr;obtain⟨w1,hw1⟩:=eX (w.alloc (.cells (hdA (.slice ao h.ks.length cap) h) 37))
 have H1:HdB w1 w.heap.size 37 (.slice ao h.ks.length cap) h:=by rw[hw1];exact HdB.new _ hr
 have HB:Hid (bB w w1):=by rw[hw1];exactbA
 obtain⟨-,hc1,hc2,hcell⟩:=aK H1.2;obtain⟨b,off,rfl,hcj⟩:=hcell i.toNat (by omega);obtain⟨y,hy⟩:=eX (h.ks.getD i.toNat 0)
 rw[<-hy]at hcj HE;have hic:((i.toNat:Nat):Int)=i:=by omega
 have k0:w1.cell? ⟨w.heap.size,0,none⟩=some (.slice (some ⟨b,off,none⟩) h.ks.length cap):=H1.1.cell 0 rfl;have HW:Hid (w1=w.alloc (.cells #[.slice (some ⟨b,off,none⟩) h.ks.length cap,.int .i64 h.kd,.int .i64 h.ho,.int .i64 h.tu] 37)):=hw1;unfold maxLen at hc2;unfold HV hdA;obtain⟨n,hn⟩:=eX h.ks.length
 rw[<-hn]at k0 HW hi hc1⊢;clear hcell hy hr hw1 H1 hn;have hw:=HW.out;subst hw;by_cases hy0:y=0
 ·go_enter Tryz.func140,Tryz.ntmps140
  go_wp2;go_ret;exact⟨af (by rw[HE.out];simp[hy0]),HB.out⟩
 ·have hyn:(y !=0)=true:=by simpa using hy0
  go_enter Tryz.func140,Tryz.ntmps140;go_wp2;go_ret;exact⟨af (by rw[HE.out];simp[hy0]),HB.out⟩
theorem mW (v:Value) (h:Hd) (i:Int) (w:World) (hr:ag w v h.ks) (h0:0<=i) (hi:i<(h.ks.length:Int)):
  Calls Tryz.prog 139 #[HV v h,.int .i64 i] w fun e w'=>e=.returned (.bool (h.holds i))/\bB w w':=by
 have HE:Hid (h.holds i=(decide (h.kd≠0)&&(decide (h.ho=i)||(bY h.kd&&dV h.ks i)))):=rfl;have B1:bB w (w.alloc (.cells (hdA v h) 37)):=bA;have cf:=fun wx=>iA h.kd wx
 have cr:=gt v h i (w.alloc (.cells (hdA v h) 37)) (hr.below B1 (Nat.le_refl _)) h0 hi;obtain⟨x,hx⟩:=eX (h.holds i)
 obtain⟨bf,hbf⟩:=eX (bY h.kd)
 obtain⟨br,hbr⟩:=eX (dV h.ks i)
 rw[<-hx]at HE⊢;rw[<-hbf,<-hbr]at HE;rw[<-hbr]at cr;simp only[<-hbf]at cf;have hone:=dq hr;obtain⟨ao,cap,rfl⟩:=aa hr;clear hx hbf hbr hr hone;unfold HV hdA at*;by_cases hk:h.kd=0
 ·have HX:Hid (x=false):=by rw[Hid,HE.out];simp[hk]
  clear HE cf cr;go_enter Tryz.func139,Tryz.ntmps139;go_wp2;go_ret;exact⟨af (by rw[HX.out]),by first|exact B1|(rw[hk]at B1;exact B1)⟩
 ·have hkn:(h.kd !=0)=true:=by simpa using hk
  by_cases hoi:h.ho=i
  ·have HX:Hid (x=true):=by rw[Hid,HE.out];simp[hk,hoi]
   clear HE cf cr;subst hoi;go_enter Tryz.func139,Tryz.ntmps139;go_wp2;go_ret;exact⟨af (by rw[HX.out]),B1⟩
  ·have HX:Hid (x=(bf&&br)):=by rw[Hid,HE.out];simp[hk,hoi]
   clear HE;have hon:(h.ho==i)=false:=by simpa using hoi
   cases bf with
   |false=>
    clear cr;go_enter Tryz.func139,Tryz.ntmps139;go_wp2_with fail
    refine mo (cf _) ?_;go_wp2;go_ret;exact⟨af (by rw[HX.out];rfl),B1⟩
   |true=>
    go_enter Tryz.func139,Tryz.ntmps139;go_wp2_with fail
    refine mo (cf _) ?_;go_wp2_with fail
    refine cr.mono ?_;rintro e w2 ⟨rfl,b2⟩;have B2:=B1.trans (b2.mono B1.size);clear b2 B1 cr cf;go_wp2;go_ret;exact⟨af (by rw[HX.out];simp),B2⟩
theorem qJ (v:Value) (h:Hd) (i:Int) (b:Bool) (w:World) (hr:ag w v h.ks) (h0:0<=i) (hi:i<(h.ks.length:Int)):
  Calls Tryz.prog 99 #[HV v h,.int .i64 i,.bool b] w fun e w'=>e=.returned (.bool (h.may i b))/\bB w w':=by
 have HE:Hid (h.may i b=kC h.kd b (h.holds i) (dV h.ks i)):=rfl;obtain⟨w1,hw1⟩:=eX (w.alloc (.cells (hdA v h) 37))
 have HH:Hid (HdB w1 w.heap.size 37 v h/\bB w w1):=by rw[hw1];exact⟨HdB.new _ hr,bA⟩
 have ch:=fun wx (k:ag wx v h.ks)=>mW v h i wx k h0 hi
 have cr:=fun wx (k:ag wx v h.ks)=>gt v h i wx k h0 hi
 have cm:=fun wx=>BF h.kd b (h.holds i) (dV h.ks i) wx
 obtain⟨x,hx⟩:=eX (h.may i b)
 obtain⟨bh,hbh⟩:=eX (h.holds i)
 obtain⟨br,hbr⟩:=eX (dV h.ks i)
 rw[<-hx]at HE⊢;rw[<-hbh,<-hbr]at HE;simp only[<-hbh]at ch;simp only[<-hbr]at cr;simp only[<-hbh,<-hbr]at cm;rw[<-HE.out]at cm;obtain⟨ao,cap,rfl⟩:=aa hr;clear hx hbh hbr hr;unfold HV at*;unfold hdA at*;have HW:Hid _:=hw1;have k0:w1.cell? ⟨w.heap.size,0,none⟩=some (.slice ao h.ks.length cap):=HH.out.1.1.cell 0 rfl;have k1:w1.cell? ⟨w.heap.size,1,none⟩=some (.int .i64 h.kd):=HH.out.1.1.cell 1 rfl;have k2:w1.cell? ⟨w.heap.size,2,none⟩=some (.int .i64 h.ho):=HH.out.1.1.cell 2 rfl;have k3:w1.cell? ⟨w.heap.size,3,none⟩=some (.int .i64 h.tu):=HH.out.1.1.cell 3 rfl;clear hw1;go_enter Tryz.func99,Tryz.ntmps99;go_wp2_with fail
 rw[<-HW.out];clear HW
 go_region_held3 (fun w'=>w'.cell? ⟨w.heap.size,0,none⟩=some (.slice ao h.ks.length cap)/\w'.cell? ⟨w.heap.size,1,none⟩=some (.int .i64 h.kd)/\w'.cell? ⟨w.heap.size,2,none⟩=some (.int .i64 h.ho)/\w'.cell? ⟨w.heap.size,3,none⟩=some (.int .i64 h.tu)) (go_keep)
  (first
  |(go_at_call 139;refine(ch _ (HH.out.1.drewN 1).2).mono ?_;rintro e wA ⟨rfl,bA⟩;have HA:Hid (HdB wA w.heap.size 37 (.slice ao h.ks.length cap) h/\bB w wA):=⟨(HH.out.1.drewN 1).below bA,(below_drewN HH.out.2 1).trans (bA.mono (below_drewN HH.out.2 1).size)⟩;clear bA;have ka0:wA.cell? ⟨w.heap.size,0,none⟩=some (.slice ao h.ks.length cap):=HA.out.1.1.cell 0 rfl;have ka1:wA.cell? ⟨w.heap.size,1,none⟩=some (.int .i64 h.kd):=HA.out.1.1.cell 1 rfl;have ka2:wA.cell? ⟨w.heap.size,2,none⟩=some (.int .i64 h.ho):=HA.out.1.1.cell 2 rfl;have ka3:wA.cell? ⟨w.heap.size,3,none⟩=some (.int .i64 h.tu):=HA.out.1.1.cell 3 rfl)
  |(go_at_call 140;refine(cr _ HA.out.1.2).mono ?_;rintro e wB ⟨rfl,bB⟩;have HB:Hid (HdB wB w.heap.size 37 (.slice ao h.ks.length cap) h/\bB w wB):=⟨HA.out.1.below bB,HA.out.2.trans (bB.mono HA.out.2.size)⟩;clear bB;have kb0:wB.cell? ⟨w.heap.size,0,none⟩=some (.slice ao h.ks.length cap):=HB.out.1.1.cell 0 rfl;have kb1:wB.cell? ⟨w.heap.size,1,none⟩=some (.int .i64 h.kd):=HB.out.1.1.cell 1 rfl;have kb2:wB.cell? ⟨w.heap.size,2,none⟩=some (.int .i64 h.ho):=HB.out.1.1.cell 2 rfl;have kb3:wB.cell? ⟨w.heap.size,3,none⟩=some (.int .i64 h.tu):=HB.out.1.1.cell 3 rfl)
  |(go_at_call 138;refine(cm _).mono ?_;rintro e w' ⟨rfl,hw'⟩;subst w'))
 go_wp2;go_ret;exact⟨rfl,HB.out.2⟩
theorem dB {v:Value} (h:Hd) (hv:v.oneCell'=true):(hdA v h).all (·.oneCell')=true:=by
 unfold hdA;simp[hv,show∀k n,(Value.int k n).oneCell'=true from fun _ _=>rfl]
theorem pM (v:Value) (h:Hd) (k:Int) (w:World) (hr:ag w v h.ks) (h0:0<=k) (h1:k<=1048576):
  Calls Tryz.prog 13 #[HV v h,.int .i64 k] w fun e w'=>e=.returned (.int .i64 (szI k h.ks.length))/\bB w w':=by
 have B1:bB w (w.alloc (.cells (hdA v h) 26)):=bA;have c1:=pp v h.ks k _ (hr.below B1 (Nat.le_refl _)) h0 h1;have hs:szI k h.ks.length= -1∨0<=szI k h.ks.length:=by unfold szI;split<;>omega
 obtain⟨x,hx⟩:=eX (szI k h.ks.length)
 rw[<-hx]at c1 hs⊢;obtain⟨ao,cap,rfl⟩:=aa hr;clear hx hr;unfold HV hdA at*;rcases hs with hs|hs
 ·subst hs
  go_enter Tryz.func13,Tryz.ntmps13;go_wp2_with fail
  refine mo c1 ?_;go_wp2;go_ret;exact⟨rfl,B1⟩
 ·go_enter Tryz.func13,Tryz.ntmps13
  go_wp2_with fail
  refine mo c1 ?_;go_wp2;go_ret;exact⟨rfl,B1⟩
theorem pN (v:Value) (h:Hd) (w:World) (hr:ag w v h.ks) (hl:h.ks.length<=1099511627776):
  Calls Tryz.prog 20 #[HV v h] w fun e w'=>∃u,e=.returned (HV u h)/\Own w' w.heap.size u h.ks/\bB w w':=by
 obtain⟨w1,hw1⟩:=eX (((w.alloc (.cells (hdA v h) 26)).alloc (.cells #[.slice none 0 0,.int .i64 0,.int .i64 0,.int .i64 0] 37)).alloc (.cells #[.slice none 0 0,.int .i64 0,.int .i64 0,.int .i64 0] 37))
 have hsz:w1.heap.size=w.heap.size+3:=by rw[hw1];simp
 have p0:StB w1 w.heap.size 26 (hdA v h):=by rw[hw1];exact((StB.new w _ _).alloc _).alloc _
 have q0:StB w1 (w.heap.size+1) 37 #[.slice none 0 0,.int .i64 0,.int .i64 0,.int .i64 0]:=by
  rw[hw1];have:=(StB.new (w.alloc (.cells (hdA v h) 26)) 37 #[.slice none 0 0,.int .i64 0,.int .i64 0,.int .i64 0]).alloc (.cells #[.slice none 0 0,.int .i64 0,.int .i64 0,.int .i64 0] 37)
  rwa[World.size_alloc]at this
 have r0:StB w1 (w.heap.size+1+1) 37 #[.slice none 0 0,.int .i64 0,.int .i64 0,.int .i64 0]:=by
  rw[hw1];have:=StB.new ((w.alloc (.cells (hdA v h) 26)).alloc (.cells #[.slice none 0 0,.int .i64 0,.int .i64 0,.int .i64 0] 37)) 37 #[.slice none 0 0,.int .i64 0,.int .i64 0,.int .i64 0]
  rwa[World.size_alloc,World.size_alloc]at this
 have b1:bB w w1:=by rw[hw1];exact(bA.alloc (by simp) _).alloc (by simp;omega) _
 have c1:=oL v h.ks w1 (hr.below b1 (Nat.le_refl _)) hl;obtain⟨ao,cap,rfl⟩:=aa hr;have HW:Hid (w1=((w.alloc (.cells #[.slice ao h.ks.length cap,.int .i64 h.kd,.int .i64 h.ho,.int .i64 h.tu] 26)).alloc (.cells #[.slice none 0 0,.int .i64 0,.int .i64 0,.int .i64 0] 37)).alloc (.cells #[.slice none 0 0,.int .i64 0,.int .i64 0,.int .i64 0] 37)):=hw1;have hs1:w.heap.size+1+1<w1.heap.size:=by omega
 clear hw1 hr hl hsz;unfold HV;unfold hdA at p0;conv in hdA=>unfold hdA
 go_enter Tryz.func20,Tryz.ntmps20;go_wp2_with fail
 rw[<-HW.out];clear HW;refine c1.mono ?_;rintro e w3 ⟨u,rfl,o3,b3⟩;replace p0:=p0.below b3;replace q0:=q0.below b3;replace r0:=r0.below b3;have hs3:=b3.size;have B3:=b1.trans (b3.mono b1.size);obtain⟨ab,cb,rfl⟩:=aa o3.reads;have k1:w3.cell? ⟨w.heap.size,1,none⟩=some (.int .i64 h.kd):=p0.cell 1 rfl;have k2:w3.cell? ⟨w.heap.size,2,none⟩=some (.int .i64 h.ho):=p0.cell 2 rfl;have k3:w3.cell? ⟨w.heap.size,3,none⟩=some (.int .i64 h.tu):=p0.cell 3 rfl;have m0:w3.cell? ⟨w.heap.size+1+1,0,none⟩=some (.slice none 0 0):=r0.cell 0 rfl;have m1:w3.cell? ⟨w.heap.size+1+1,1,none⟩=some (.int .i64 0):=r0.cell 1 rfl;have m2:w3.cell? ⟨w.heap.size+1+1,2,none⟩=some (.int .i64 0):=r0.cell 2 rfl;have m3:w3.cell? ⟨w.heap.size+1+1,3,none⟩=some (.int .i64 0):=r0.cell 3 rfl;have f0:=r0.frozen 0;have f1:=r0.frozen 1;have f2:=r0.frozen 2;have f3:=r0.frozen 3;have HP:Hid (StB w3 (w.heap.size+1) 37 #[.slice none 0 0,.int .i64 0,.int .i64 0,.int .i64 0]/\StB w3 (w.heap.size+1+1) 37 #[.slice none 0 0,.int .i64 0,.int .i64 0,.int .i64 0]/\Own w3 w1.heap.size (.slice ab h.ks.length cb) h.ks/\bB w w3):=⟨q0,r0,o3,B3⟩
 clear p0 q0 r0 o3 b3 b1 c1 B3;have hn1:w.heap.size≠w.heap.size+1:=by omega
 have hn2:w.heap.size≠w.heap.size+1+1:=by omega
 have hn3:w.heap.size+1≠w.heap.size+1+1:=by omega
 have hg0:w.heap.size<=w.heap.size+1/\w.heap.size<=w.heap.size+1+1/\w.heap.size+1<w1.heap.size/\w.heap.size<=w1.heap.size:=by omega
 have hlt2:w.heap.size+1+1<w3.heap.size:=HP.out.2.1.lt;have hlt0:w.heap.size<w3.heap.size:=by omega
 obtain⟨g2,hg2⟩:=eX (w.heap.size+1+1)
 rw[<-hg2]at hn2 hn3 hg0 m0 m1 m2 m3 f0 f1 f2 f3 HP hs1 hlt2⊢;clear hg2;obtain⟨g1,hg1⟩:=eX (w.heap.size+1)
 rw[<-hg1]at hn1 hn3 hg0 HP⊢;clear hg1;have Q4:StB ((((w3.setCell ⟨g2,0,none⟩ (.slice ab h.ks.length cb)).setCell ⟨g2,1,none⟩ (.int .i64 h.kd)).setCell ⟨g2,2,none⟩ (.int .i64 h.ho)).setCell ⟨g2,3,none⟩ (.int .i64 h.tu)) g2 37 (hdA (.slice ab h.ks.length cb) h):=(((HP.out.2.1.put 0 _ rfl).put 1 _ rfl).put 2 _ rfl).put 3 _ rfl;have R4:StB ((((w3.setCell ⟨g2,0,none⟩ (.slice ab h.ks.length cb)).setCell ⟨g2,1,none⟩ (.int .i64 h.kd)).setCell ⟨g2,2,none⟩ (.int .i64 h.ho)).setCell ⟨g2,3,none⟩ (.int .i64 h.tu)) g1 37 #[.slice none 0 0,.int .i64 0,.int .i64 0,.int .i64 0]:=(((HP.out.1.other _ _ hn3).other _ _ hn3).other _ _ hn3).other _ _ hn3;have O4:Hid (Own ((((w3.setCell ⟨g2,0,none⟩ (.slice ab h.ks.length cb)).setCell ⟨g2,1,none⟩ (.int .i64 h.kd)).setCell ⟨g2,2,none⟩ (.int .i64 h.ho)).setCell ⟨g2,3,none⟩ (.int .i64 h.tu)) w1.heap.size (.slice ab h.ks.length cb) h.ks/\bB w ((((w3.setCell ⟨g2,0,none⟩ (.slice ab h.ks.length cb)).setCell ⟨g2,1,none⟩ (.int .i64 h.kd)).setCell ⟨g2,2,none⟩ (.int .i64 h.ho)).setCell ⟨g2,3,none⟩ (.int .i64 h.tu))):=⟨(((HP.out.2.2.1.setLt hs1 0 _).setLt hs1 1 _).setLt hs1 2 _).setLt hs1 3 _,(((HP.out.2.2.2.setCell (show w.heap.size<=g2 from hg0.2.1) _).setCell (show w.heap.size<=g2 from hg0.2.1) _).setCell (show w.heap.size<=g2 from hg0.2.1) _).setCell (show w.heap.size<=g2 from hg0.2.1) _⟩
 clear HP;go_upto_region 6 with fail
 obtain⟨w4,hw4⟩:=eX (((((w3.setCell ⟨g2,0,none⟩ (.slice ab h.ks.length cb)).setCell ⟨g2,1,none⟩ (.int .i64 h.kd)).setCell ⟨g2,2,none⟩ (.int .i64 h.ho)).setCell ⟨g2,3,none⟩ (.int .i64 h.tu)))
 rw[<-hw4]at Q4 R4 O4⊢;clear hw4 k1 k2 k3 m0 m1 m2 m3 f0 f1 f2 f3;go_wp2_with (first|(refine ah Tryz.isH rfl _ rfl g2 rfl (hdA (.slice ab h.ks.length cb) h) rfl Q4 ?_)|(refine ae Tryz.isH rfl _ _ rfl g1 (hdA (.slice ab h.ks.length cb) h) #[.slice none 0 0,.int .i64 0,.int .i64 0,.int .i64 0] rfl rfl rfl rfl (dB h rfl) R4 ?_;intro w8 s8 g8))
 refine bodyPost_ret (aj Tryz.isH rfl _ _ g1 _ rfl rfl s8) rfl ?_;exact⟨_,rfl,(O4.out.1.keptLt g8 (by omega)).mono (by omega),O4.out.2.grown g8 O4.out.2.size (fun k e=>by cases e;omega)⟩
theorem pO (u v:Value) (h:Hd) (w:World) (hu:ag w u h.ks) (hv:ag w v h.ks) (hl:h.ks.length<=1099511627776):
  Calls Tryz.prog 31 #[HV u h,HV v h] w fun e w'=>e=.returned (.bool true)/\bB w w':=by
 obtain⟨w1,hw1⟩:=eX ((w.alloc (.cells (hdA u h) 37)).alloc (.cells (hdA v h) 37))
 have p0:StB w1 w.heap.size 37 (hdA u h):=by rw[hw1];exact(StB.new w _ _).alloc _
 have p1:StB w1 (w.heap.size+1) 37 (hdA v h):=by
  rw[hw1];have:=StB.new (w.alloc (.cells (hdA u h) 37)) 37 (hdA v h)
  rwa[World.size_alloc]at this
 have b1:bB w w1:=by rw[hw1];exactbA.alloc (by simp) _
 have c1:=oN u v h.ks h.ks w1 (hu.below b1 (Nat.le_refl _)) (hv.below b1 (Nat.le_refl _)) hl;rw[show decide (h.ks=h.ks)=true by simp]at c1;obtain⟨ao,ca,rfl⟩:=aa hu;obtain⟨bo,cb,rfl⟩:=aa hv;have HW:Hid (w1=(w.alloc (.cells #[.slice ao h.ks.length ca,.int .i64 h.kd,.int .i64 h.ho,.int .i64 h.tu] 37)).alloc (.cells #[.slice bo h.ks.length cb,.int .i64 h.kd,.int .i64 h.ho,.int .i64 h.tu] 37)):=hw1;clear hw1 hu hv hl;unfold HV hdA;go_enter Tryz.func31,Tryz.ntmps31;go_wp2_with fail
 rw[<-HW.out];clear HW;refine c1.mono ?_;rintro e w3 ⟨rfl,n3,hw3⟩;replace p0:StB w3 w.heap.size 37 (hdA (.slice ao h.ks.length ca) h):=by rw[hw3];exact p0
 replace p1:StB w3 (w.heap.size+1) 37 (hdA (.slice bo h.ks.length cb) h):=by rw[hw3];exact p1
 have B3:bB w w3:=by rw[hw3];exact below_drewN b1 n3
 clear hw3 c1 b1;have k1:w3.cell? ⟨w.heap.size,1,none⟩=some (.int .i64 h.kd):=p0.cell 1 rfl;have k2:w3.cell? ⟨w.heap.size,2,none⟩=some (.int .i64 h.ho):=p0.cell 2 rfl;have k3:w3.cell? ⟨w.heap.size,3,none⟩=some (.int .i64 h.tu):=p0.cell 3 rfl;have m1:w3.cell? ⟨w.heap.size+1,1,none⟩=some (.int .i64 h.kd):=p1.cell 1 rfl;have m2:w3.cell? ⟨w.heap.size+1,2,none⟩=some (.int .i64 h.ho):=p1.cell 2 rfl;have m3:w3.cell? ⟨w.heap.size+1,3,none⟩=some (.int .i64 h.tu):=p1.cell 3 rfl;clear p0 p1;go_wp2;go_ret;exact⟨rfl,B3⟩
theorem nk (v:Value) (h:Hd) (k:Int) (w:World) (base:Nat) (ho:Own w base v h.ks) (hl:h.ks.length<=1048576) (h0:0<=k) (h1:k<=4194304):
  Calls Tryz.prog 36 #[HV v h,.int .i64 k] w fun e w'=>e=.returned (.int .i64 (k+h.ks.length))/\Own w' base v (aP k h.ks.length)/\w.grownBy w' v.ownBlock:=by
 have B1:bB w (w.alloc (.cells (hdA v h) 37)):=bA;have G1:w.grownBy (w.alloc (.cells (hdA v h) 37)) v.ownBlock:=World.grownBy_alloc w _ _;have c1:=jd v h.ks k _ base (ho.below B1) (by omega) h0 (by omega);obtain⟨ao,cap,rfl⟩:=aa ho.reads;have hl':(h.ks.length:Int)<=1048576:=by omega
 clear ho hl;unfold HV hdA at*;go_enter Tryz.func36,Tryz.ntmps36;go_wp2_with fail
 refine c1.mono ?_;rintro e w2 ⟨rfl,o2,g2⟩;have HC:Hid (Own w2 base (.slice ao h.ks.length cap) (aP k h.ks.length)/\w.grownBy w2 (Value.slice ao h.ks.length cap).ownBlock):=⟨o2,G1.trans g2⟩
 clear o2 g2 G1 B1 c1;go_wp2;go_ret;exact⟨rfl,HC.out⟩
theorem nn (v:Value) (h:Hd) (n:Nat) (k:Int) (w:World) (hn:n=h.ks.length) (hr:ag w v (aP k n)) (hl:n<=1048576) (h0:0<=k) (h1:k<=4194304):
  Calls Tryz.prog 40 #[HV v h,.int .i64 k] w fun e w'=>e=.returned (.int .i64 (k+n))/\bB w w':=by
 have B1:bB w (w.alloc (.cells (hdA v h) 37)):=bA;have c1:=gN v n k _ (hr.below B1 (Nat.le_refl _)) (by omega) h0 (by omega);obtain⟨ao,cap,rfl⟩:=aa hr;have hl':(n:Int)<=1048576:=by omega
 clear hr hl hn;unfold HV hdA at*;go_enter Tryz.func40,Tryz.ntmps40;go_wp2_with fail
 refine mo c1 ?_;go_wp2;go_ret;exact⟨rfl,B1⟩
def PQ (w:World) (base g q cap:Nat) (h:Hd):Prop:=
 StB w g 37 (hdA (.slice (some ⟨q,0,none⟩) 4 cap) h)/\Own w base (.slice (some ⟨q,0,none⟩) 4 cap) h.ks/\(g≠q/\base<=g/\base<=q/\h.ks.length=4)
def PB (w:World) (base g:Nat) (h:Hd):Prop:=∃q cap,PQ w base g q cap h
theorem PQ.put {w:World} {base g q cap:Nat} {h:Hd} (d:PQ w base g q cap h) (j:Nat) (x:Int) (f:Hd) (hk:f.ks=h.ks) (e:(hdA (.slice (some ⟨q,0,none⟩) 4 cap) h).setIfInBounds j (.int .i64 x)=hdA (.slice (some ⟨q,0,none⟩) 4 cap) f):
  PQ (w.setCell ⟨g,j,none⟩ (.int .i64 x)) base g q cap f/\Below base w (w.setCell ⟨g,j,none⟩ (.int .i64 x)):=by
 obtain⟨h1,h2,h3⟩:=d;have G:=ai w g j (.int .i64 x);refine⟨⟨h1.put j _ e,?_,?_⟩,(Below.refl base w).setCell h3.2.1 _⟩
 ·rw[hk];exact h2.kept G (.inr (by intro e;have:q=g:=Option.some.inj e;omega))
 ·rw[hk];exact h3
theorem PQ.key {w:World} {base g q cap:Nat} {h:Hd} (d:PQ w base g q cap h) (j:Nat) (hj:j<4) (x:Int):
  w.frozen? ⟨q,j,none⟩=false/\w.cell? ⟨q,j,none⟩=some (.int .i64 (h.ks.getD j 0))/\PQ (w.setCell ⟨q,j,none⟩ (.int .i64 x)) base g q cap ⟨h.ks.set j x,h.kd,h.ho,h.tu⟩/\Below base w (w.setCell ⟨q,j,none⟩ (.int .i64 x)):=by
 obtain⟨h1,h2,h3⟩:=d;obtain⟨f, -,o⟩:=h2.put h3.2.2.2.symm j hj x;have G:=ai w q j (.int .i64 x);obtain⟨-, -, -,hc⟩:=aK h2.reads;obtain⟨b,off,e,hcell⟩:=hc j hj;simp only[Option.some.injEq,Addr.mk.injEq]at e;obtain⟨rfl,rfl, -⟩:=e;rw[Nat.zero_add]at hcell;refine⟨f,hcell,⟨h1.kept G ?_,o,?_⟩,(Below.refl base w).setCell h3.2.2.1 _⟩
 ·intro e;have:=Option.some.inj e;omega
 ·simpa using h3
theorem PQ.below {w w':World} {base g q cap:Nat} {h:Hd} (d:PQ w base g q cap h) (b:bB w w'):PQ w' base g q cap h:=
 ⟨d.1.below b,d.2.1.below b,d.2.2⟩
theorem PQ.lt {w:World} {base g q cap:Nat} {h:Hd} (d:PQ w base g q cap h):base<=w.heap.size:=by
 have:=d.1.lt;have:=d.2.2.2.1;omega
theorem PB.below {w w':World} {base g:Nat} {h:Hd} (d:PB w base g h) (b:bB w w'):PB w' base g h:=by
 obtain⟨q,cap,d⟩:=d;exact⟨q,cap,d.below b⟩
theorem PB.lt {w:World} {base g:Nat} {h:Hd} (d:PB w base g h):base<=w.heap.size:=by
 obtain⟨q,cap,d⟩:=d;exact d.lt
def Bx (w wx:World) (v:Value) (h:Hd):Prop:=StB wx w.heap.size 37 (hdA v h)/\StB wx (w.heap.size+1) 37 #[.slice none 0 0,.int .i64 0,.int .i64 0,.int .i64 0]/\bB w wx/\w.heap.size+2<=wx.heap.size/\ag wx v h.ks
theorem Bx.start {w:World} {v:Value} {h:Hd} (hr:ag w v h.ks):Bx w ((w.alloc (.cells (hdA v h) 37)).alloc (.cells #[.slice none 0 0,.int .i64 0,.int .i64 0,.int .i64 0] 37)) v h:=by
 have b1:bB w (w.alloc (.cells (hdA v h) 37)):=bA;have b2:bB w ((w.alloc (.cells (hdA v h) 37)).alloc (.cells #[.slice none 0 0,.int .i64 0,.int .i64 0,.int .i64 0] 37)):=b1.alloc (by simp) _;refine⟨(StB.new w _ _).alloc _,?_,b2,by simp,hr.below b2 (Nat.le_refl _)⟩;have:=StB.new (w.alloc (.cells (hdA v h) 37)) 37 #[.slice none 0 0,.int .i64 0,.int .i64 0,.int .i64 0]
 rwa[World.size_alloc]at this
theorem Bx.next {w wx wy:World} {v:Value} {h:Hd} (d:Bx w wx v h) (b:bB wx wy):Bx w wy v h:=
 ⟨d.1.below b,d.2.1.below b,d.2.2.1.trans (b.mono d.2.2.1.size),Nat.le_trans d.2.2.2.1 b.size,d.2.2.2.2.below b (Nat.le_refl _)⟩
theorem oW (v:Value) (h:Hd) (w:World) (hr:ag w v h.ks) (hl:h.ks.length<=1099511627776):
  Calls Tryz.prog 52 #[HV v h] w fun e w'=>∃u,e=.returned (HV u h)/\Own w' w.heap.size u h.ks/\bB w w':=by
 obtain⟨ao,cap,rfl⟩:=aa hr;obtain⟨w1,hw1⟩:=eX ((w.alloc (.cells (hdA (.slice ao h.ks.length cap) h) 37)).alloc (.cells #[.slice none 0 0,.int .i64 0,.int .i64 0,.int .i64 0] 37))
 have HB:Hid (Bx w w1 (.slice ao h.ks.length cap) h):=by rw[hw1];exact Bx.start hr
 have c1:=gL (.slice ao h.ks.length cap) h.ks w1 HB.out.2.2.2.2 hl;have HW:Hid (w1=(w.alloc (.cells #[.slice ao h.ks.length cap,.int .i64 h.kd,.int .i64 h.ho,.int .i64 h.tu] 37)).alloc (.cells #[.slice none 0 0,.int .i64 0,.int .i64 0,.int .i64 0] 37)):=hw1;clear hw1 hr hl;unfold HV;conv in hdA (.slice ao h.ks.length cap) h=>unfold hdA
 go_enter Tryz.func52,Tryz.ntmps52;go_wp2_with fail
 rw[<-HW.out];clear HW;refine c1.mono ?_;rintro e w2 ⟨u,rfl,o2,b2⟩;have D2:Bx w w2 (.slice ao h.ks.length cap) h:=HB.out.next b2;obtain⟨ab,cb,rfl⟩:=aa o2.reads;have k0:w2.cell? ⟨w.heap.size,0,none⟩=some (.slice ao h.ks.length cap):=D2.1.cell 0 rfl;have f0:=D2.1.frozen 0;have G:=ai w2 w.heap.size 0 (.slice ab h.ks.length cb);have zq:StB (w2.setCell ⟨w.heap.size,0,none⟩ (.slice ab h.ks.length cb)) w.heap.size 37 (hdA (.slice ab h.ks.length cb) h):=D2.1.put 0 _ rfl;have zz:StB (w2.setCell ⟨w.heap.size,0,none⟩ (.slice ab h.ks.length cb)) (w.heap.size+1) 37 #[.slice none 0 0,.int .i64 0,.int .i64 0,.int .i64 0]:=D2.2.1.kept G (by intro e;have:=Option.some.inj e;omega);have HF:Hid (Own (w2.setCell ⟨w.heap.size,0,none⟩ (.slice ab h.ks.length cb)) w1.heap.size (.slice ab h.ks.length cb) h.ks/\bB w (w2.setCell ⟨w.heap.size,0,none⟩ (.slice ab h.ks.length cb))/\w.heap.size+2<=w1.heap.size):=by
  refine⟨o2.keptLt G (by have:=HB.out.2.2.2.1;omega),D2.2.2.1.setCell (Nat.le_refl _) _,HB.out.2.2.2.1⟩
 clear D2 G o2 b2 HB c1;go_wp2_with (first|(refine ah Tryz.isH rfl _ rfl w.heap.size rfl (hdA (.slice ab h.ks.length cb) h) rfl zq ?_)|(refine ae Tryz.isH rfl _ _ rfl (w.heap.size+1) (hdA (.slice ab h.ks.length cb) h) #[.slice none 0 0,.int .i64 0,.int .i64 0,.int .i64 0] rfl rfl rfl rfl (dB _ rfl) zz ?_;intro we se ge))
 refine bodyPost_ret (aj Tryz.isH rfl _ _ (w.heap.size+1) _ rfl rfl se) rfl ?_;exact⟨_,rfl,(HF.out.1.keptLt ge (by have:=HF.out.2.2;omega)).mono (by have:=HF.out.2.2;omega),HF.out.2.1.grown ge HF.out.2.1.size (fun x e=>by cases e;omega)⟩
end Go.Proofs.YthldeiojlllkdaaGreatDoor
