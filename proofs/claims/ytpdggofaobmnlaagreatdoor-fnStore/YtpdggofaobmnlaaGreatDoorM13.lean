import Derived.Test.YtpdggofaobmnlaaGreatDoorM6
import Derived.Test.YtpdggofaobmnlaaGreatDoorM11
import Derived.Deep.DeepCutAuto
/- Holdings by the model, on: l8Registered, Registered, l8Holds, Holds, l8May, May. -/
set_option maxRecDepth 20000
set_option maxHeartbeats 2000000
namespace Go.Proofs.YtpdggofaobmnlaaGreatDoor
open Go.ChangeShapes Go.WideShapes Go.ChangeAt Go.RowKit
theorem s8reg_any (v:Value) (h:Hd) (i:Int) (w:World) (hr:Reads w v h.ks) (h0:0≤i) (hi:i<(h.ks.length:Int)):
  Calls Tryz.prog 52 #[HV v h,.int .i64 i] w fun e w'=>e=.returned (.bool (regI h.ks i))∧Below w.heap.size w w':=by
 have HE:Hid (regI h.ks i=decide (h.ks.getD i.toNat 0≠0)):=rfl
 obtain⟨ao,cap,rfl⟩:=reads_form hr
 obtain⟨w1,hw1⟩:∃w1,w1=w.alloc (.cells (hdA (.slice ao h.ks.length cap) h) 28):=⟨_,rfl⟩
 have H1:HdB w1 w.heap.size 28 (.slice ao h.ks.length cap) h:=by rw[hw1];exact HdB.new _ hr
 have HB:Hid (Below w.heap.size w w1):=by rw[hw1];exact(Below.refl _ _).alloc (Nat.le_refl _) _
 obtain⟨-,hc1,hc2,hcell⟩:=reads_cells H1.2
 obtain⟨b,off,rfl,hcj⟩:=hcell i.toNat (by omega)
 obtain⟨y,hy⟩:∃y,y=h.ks.getD i.toNat 0:=⟨_,rfl⟩
 rw[←hy]at hcj HE
 have hic:((i.toNat:Nat):Int)=i:=by omega
 have k0:w1.cell? ⟨w.heap.size,0,none⟩=some (.slice (some ⟨b,off,none⟩) h.ks.length cap):=H1.1.cell 0 rfl
 have HW:Hid (w1=w.alloc (.cells #[.slice (some ⟨b,off,none⟩) h.ks.length cap,.int .i64 h.kd,.int .i64 h.ho,.int .i64 h.tu] 28)):=hw1
 unfold maxLen at hc2
 unfold HV hdA
 obtain⟨n,hn⟩:∃n,n=h.ks.length:=⟨_,rfl⟩
 rw[←hn]at k0 HW hi hc1⊢
 clear hcell hy hr hw1 H1 hn
 have hw:=HW.out
 subst hw
 by_cases hy0:y=0
 ·go_enter Tryz.func52,Tryz.ntmps52
  go_wp2
  go_ret
  exact⟨ret_bool (by rw[HE.out];simp[hy0]),HB.out⟩
 ·have hyn:(y !=0)=true:=by simpa using hy0
  go_enter Tryz.func52,Tryz.ntmps52
  go_wp2
  go_ret
  exact⟨ret_bool (by rw[HE.out];simp[hy0]),HB.out⟩
theorem s8holds_any (v:Value) (h:Hd) (i:Int) (w:World) (hr:Reads w v h.ks) (h0:0≤i) (hi:i<(h.ks.length:Int)):
  Calls Tryz.prog 97 #[HV v h,.int .i64 i] w fun e w'=>e=.returned (.bool (h.holds i))∧Below w.heap.size w w':=by
 have HE:Hid (h.holds i=(decide (h.kd≠0)&&(decide (h.ho=i)||(allI h.kd&&regI h.ks i)))):=rfl
 have B1:Below w.heap.size w (w.alloc (.cells (hdA v h) 28)):=(Below.refl _ _).alloc (Nat.le_refl _) _
 have cf:=fun wx=>sall_any h.kd wx
 have cr:=s8reg_any v h i (w.alloc (.cells (hdA v h) 28)) (hr.below B1 (Nat.le_refl _)) h0 hi
 obtain⟨x,hx⟩:∃x,x=h.holds i:=⟨_,rfl⟩
 obtain⟨bf,hbf⟩:∃bf,bf=allI h.kd:=⟨_,rfl⟩
 obtain⟨br,hbr⟩:∃br,br=regI h.ks i:=⟨_,rfl⟩
 rw[←hx]at HE⊢
 rw[←hbf,←hbr]at HE
 rw[←hbr]at cr
 simp only[←hbf]at cf
 have hone:=reads_one hr
 obtain⟨ao,cap,rfl⟩:=reads_form hr
 clear hx hbf hbr hr hone
 unfold HV hdA at*
 by_cases hk:h.kd=0
 ·have HX:Hid (x=false):=by rw[Hid,HE.out];simp[hk]
  clear HE cf cr
  go_enter Tryz.func97,Tryz.ntmps97
  go_wp2
  go_ret
  exact⟨ret_bool (by rw[HX.out]),by first|exact B1|(rw[hk]at B1;exact B1)⟩
 ·have hkn:(h.kd !=0)=true:=by simpa using hk
  by_cases hoi:h.ho=i
  ·have HX:Hid (x=true):=by rw[Hid,HE.out];simp[hk,hoi]
   clear HE cf cr
   subst hoi
   go_enter Tryz.func97,Tryz.ntmps97
   go_wp2
   go_ret
   exact⟨ret_bool (by rw[HX.out]),B1⟩
  ·have HX:Hid (x=(bf&&br)):=by rw[Hid,HE.out];simp[hk,hoi]
   clear HE
   have hon:(h.ho==i)=false:=by simpa using hoi
   cases bf with
   |false=>
    clear cr
    go_enter Tryz.func97,Tryz.ntmps97
    go_wp2_with fail
    refine(cf _).mono ?_
    rintro e w' ⟨rfl,hw⟩;subst w'
    go_wp2
    go_ret
    exact⟨ret_bool (by rw[HX.out];rfl),B1⟩
   |true=>
    go_enter Tryz.func97,Tryz.ntmps97
    go_wp2_with fail
    refine(cf _).mono ?_
    rintro e w' ⟨rfl,hw⟩;subst w'
    go_wp2_with fail
    refine cr.mono ?_
    rintro e w2 ⟨rfl,b2⟩
    have B2:=B1.trans (b2.mono B1.size)
    clear b2 B1 cr cf
    go_wp2
    go_ret
    exact⟨ret_bool (by rw[HX.out];simp),B2⟩
theorem sReg_any (v:Value) (h:Hd) (i:Int) (w:World) (hr:Reads w v h.ks) (hl:h.ks.length≤1099511627776):
  Calls Tryz.prog 19 #[HV v h,.int .i64 i] w fun e w'=>e=.returned (.bool (h.Reg i))∧Below w.heap.size w w':=by
 have HE:Hid (h.Reg i=(h.ok&&inI i 0 3&&regI h.ks i)):=rfl
 have B1:Below w.heap.size w (w.alloc (.cells (hdA v h) 28)):=(Below.refl _ _).alloc (Nat.le_refl _) _
 have H1:=HdB.new (v:=v) (h:=h) 28 hr
 have co:=sholdok_any v h (w.alloc (.cells (hdA v h) 28)) H1.2 hl
 have cw:=fun wx=>swho_any i wx
 have cr:=fun wx (k:Reads wx v h.ks) (a1:0≤i) (b1:i<(h.ks.length:Int))=>s8reg_any v h i wx k a1 b1
 have HL:Hid (h.ok=true→h.ks.length=4):=Hd.ok_len
 obtain⟨x,hx⟩:∃x,x=h.Reg i:=⟨_,rfl⟩
 obtain⟨bo,hbo⟩:∃bo,bo=h.ok:=⟨_,rfl⟩
 obtain⟨bw,hbw⟩:∃bw,bw=inI i 0 3:=⟨_,rfl⟩
 obtain⟨br,hbr⟩:∃br,br=regI h.ks i:=⟨_,rfl⟩
 have HWR:Hid (bw=true→0≤i∧i≤3):=fun e=>(inI_iff _ _ _).1 (by rw[←hbw,e])
 rw[←hx]at HE⊢
 rw[←hbo,←hbw,←hbr]at HE
 rw[←hbo]at co HL
 simp only[←hbw]at cw
 simp only[←hbr]at cr
 obtain⟨ao,cap,rfl⟩:=reads_form hr
 clear hx hbo hbw hbr hr hl
 have Hcr:Hid _:=cr
 have HH:Hid _:=H1
 clear cr H1
 unfold HV hdA at*
 go_enter Tryz.func19,Tryz.ntmps19
 go_wp2_with fail
 refine co.mono ?_
 rintro e w2 ⟨rfl,b2⟩
 have H2:Hid (HdB w2 w.heap.size 28 (.slice ao h.ks.length cap) h):=HdB.below HH.out b2
 have B2:=B1.trans (b2.mono B1.size)
 clear HH b2 B1 co
 cases bo with
 |false=>
  go_wp2
  go_ret
  exact⟨ret_bool (by rw[HE.out];rfl),B2⟩
 |true=>
  have hlen:=HL.out rfl
  go_wp2_with fail
  refine(cw _).mono ?_
  rintro e w' ⟨rfl,hw⟩;subst w'
  clear cw
  cases bw with
  |false=>
   clear hlen
   go_wp2
   go_ret
   exact⟨ret_bool (by rw[HE.out];rfl),B2⟩
  |true=>
   obtain⟨hi0,hi3⟩:=HWR.out rfl
   have cr:=Hcr.out w2 H2.out.2 hi0 (by omega)
   have k0:w2.cell? ⟨w.heap.size,0,none⟩=some (.slice ao h.ks.length cap):=H2.out.1.cell 0 rfl
   have k1:w2.cell? ⟨w.heap.size,1,none⟩=some (.int .i64 h.kd):=H2.out.1.cell 1 rfl
   have k2:w2.cell? ⟨w.heap.size,2,none⟩=some (.int .i64 h.ho):=H2.out.1.cell 2 rfl
   have k3:w2.cell? ⟨w.heap.size,3,none⟩=some (.int .i64 h.tu):=H2.out.1.cell 3 rfl
   clear hlen Hcr HL
   go_wp2_with fail
   refine cr.mono ?_
   rintro e w3 ⟨rfl,b3⟩
   have B3:=B2.trans (b3.mono B2.size)
   clear k0 k1 k2 k3 b3 cr H2
   go_wp2
   go_ret
   exact⟨ret_bool (by rw[HE.out];simp),B3⟩
theorem s8may_any (v:Value) (h:Hd) (i:Int) (b:Bool) (w:World) (hr:Reads w v h.ks) (h0:0≤i) (hi:i<(h.ks.length:Int)):
  Calls Tryz.prog 51 #[HV v h,.int .i64 i,.bool b] w fun e w'=>e=.returned (.bool (h.may i b))∧Below w.heap.size w w':=by
 have HE:Hid (h.may i b=mayI h.kd b (h.holds i) (regI h.ks i)):=rfl
 obtain⟨w1,hw1⟩:∃w1,w1=w.alloc (.cells (hdA v h) 28):=⟨_,rfl⟩
 have HH:Hid (HdB w1 w.heap.size 28 v h∧Below w.heap.size w w1):=by rw[hw1];exact⟨HdB.new _ hr,(Below.refl _ _).alloc (Nat.le_refl _) _⟩
 have ch:=fun wx (k:Reads wx v h.ks)=>s8holds_any v h i wx k h0 hi
 have cr:=fun wx (k:Reads wx v h.ks)=>s8reg_any v h i wx k h0 hi
 have cm:=fun wx=>smay_any h.kd b (h.holds i) (regI h.ks i) wx
 obtain⟨x,hx⟩:∃x,x=h.may i b:=⟨_,rfl⟩
 obtain⟨bh,hbh⟩:∃bh,bh=h.holds i:=⟨_,rfl⟩
 obtain⟨br,hbr⟩:∃br,br=regI h.ks i:=⟨_,rfl⟩
 rw[←hx]at HE⊢
 rw[←hbh,←hbr]at HE
 simp only[←hbh]at ch
 simp only[←hbr]at cr
 simp only[←hbh,←hbr]at cm
 rw[←HE.out]at cm
 obtain⟨ao,cap,rfl⟩:=reads_form hr
 clear hx hbh hbr hr
 unfold HV at*
 unfold hdA at*
 have HW:Hid _:=hw1
 have k0:w1.cell? ⟨w.heap.size,0,none⟩=some (.slice ao h.ks.length cap):=HH.out.1.1.cell 0 rfl
 have k1:w1.cell? ⟨w.heap.size,1,none⟩=some (.int .i64 h.kd):=HH.out.1.1.cell 1 rfl
 have k2:w1.cell? ⟨w.heap.size,2,none⟩=some (.int .i64 h.ho):=HH.out.1.1.cell 2 rfl
 have k3:w1.cell? ⟨w.heap.size,3,none⟩=some (.int .i64 h.tu):=HH.out.1.1.cell 3 rfl
 clear hw1
 go_enter Tryz.func51,Tryz.ntmps51
 go_wp2_with fail
 rw[←HW.out]
 clear HW
 go_region_held3 (fun w'=>w'.cell? ⟨w.heap.size,0,none⟩=some (.slice ao h.ks.length cap)∧w'.cell? ⟨w.heap.size,1,none⟩=some (.int .i64 h.kd)∧w'.cell? ⟨w.heap.size,2,none⟩=some (.int .i64 h.ho)∧w'.cell? ⟨w.heap.size,3,none⟩=some (.int .i64 h.tu)) (go_keep)
  (first
  |(go_at_call 97;refine(ch _ (HH.out.1.drewN 1).2).mono ?_;rintro e wA ⟨rfl,bA⟩;have HA:Hid (HdB wA w.heap.size 28 (.slice ao h.ks.length cap) h∧Below w.heap.size w wA):=⟨(HH.out.1.drewN 1).below bA,(below_drewN HH.out.2 1).trans (bA.mono (below_drewN HH.out.2 1).size)⟩;clear bA;have ka0:wA.cell? ⟨w.heap.size,0,none⟩=some (.slice ao h.ks.length cap):=HA.out.1.1.cell 0 rfl;have ka1:wA.cell? ⟨w.heap.size,1,none⟩=some (.int .i64 h.kd):=HA.out.1.1.cell 1 rfl;have ka2:wA.cell? ⟨w.heap.size,2,none⟩=some (.int .i64 h.ho):=HA.out.1.1.cell 2 rfl;have ka3:wA.cell? ⟨w.heap.size,3,none⟩=some (.int .i64 h.tu):=HA.out.1.1.cell 3 rfl)
  |(go_at_call 52;refine(cr _ HA.out.1.2).mono ?_;rintro e wB ⟨rfl,bB⟩;have HB:Hid (HdB wB w.heap.size 28 (.slice ao h.ks.length cap) h∧Below w.heap.size w wB):=⟨HA.out.1.below bB,HA.out.2.trans (bB.mono HA.out.2.size)⟩;clear bB;have kb0:wB.cell? ⟨w.heap.size,0,none⟩=some (.slice ao h.ks.length cap):=HB.out.1.1.cell 0 rfl;have kb1:wB.cell? ⟨w.heap.size,1,none⟩=some (.int .i64 h.kd):=HB.out.1.1.cell 1 rfl;have kb2:wB.cell? ⟨w.heap.size,2,none⟩=some (.int .i64 h.ho):=HB.out.1.1.cell 2 rfl;have kb3:wB.cell? ⟨w.heap.size,3,none⟩=some (.int .i64 h.tu):=HB.out.1.1.cell 3 rfl)
  |(go_at_call 96;refine(cm _).mono ?_;rintro e w' ⟨rfl,hw'⟩;subst w'))
 go_wp2
 go_ret
 exact⟨rfl,HB.out.2⟩
theorem sMay_any (v:Value) (h:Hd) (i:Int) (b:Bool) (w:World) (hr:Reads w v h.ks) (hl:h.ks.length≤1099511627776):
  Calls Tryz.prog 17 #[HV v h,.int .i64 i,.bool b] w fun e w'=>e=.returned (.bool (h.May i b))∧Below w.heap.size w w':=by
 have HE:Hid (h.May i b=(h.ok&&inI i 0 3&&h.may i b)):=rfl
 have B1:Below w.heap.size w (w.alloc (.cells (hdA v h) 28)):=(Below.refl _ _).alloc (Nat.le_refl _) _
 have H1:=HdB.new (v:=v) (h:=h) 28 hr
 have co:=sholdok_any v h (w.alloc (.cells (hdA v h) 28)) H1.2 hl
 have cw:=fun wx=>swho_any i wx
 have cr:=fun wx (k:Reads wx v h.ks) (a1:0≤i) (b1:i<(h.ks.length:Int))=>s8may_any v h i b wx k a1 b1
 have HL:Hid (h.ok=true→h.ks.length=4):=Hd.ok_len
 obtain⟨x,hx⟩:∃x,x=h.May i b:=⟨_,rfl⟩
 obtain⟨bo,hbo⟩:∃bo,bo=h.ok:=⟨_,rfl⟩
 obtain⟨bw,hbw⟩:∃bw,bw=inI i 0 3:=⟨_,rfl⟩
 obtain⟨br,hbr⟩:∃br,br=h.may i b:=⟨_,rfl⟩
 have HWR:Hid (bw=true→0≤i∧i≤3):=fun e=>(inI_iff _ _ _).1 (by rw[←hbw,e])
 rw[←hx]at HE⊢
 rw[←hbo,←hbw,←hbr]at HE
 rw[←hbo]at co HL
 simp only[←hbw]at cw
 simp only[←hbr]at cr
 obtain⟨ao,cap,rfl⟩:=reads_form hr
 clear hx hbo hbw hbr hr hl
 have Hcr:Hid _:=cr
 have HH:Hid _:=H1
 clear cr H1
 unfold HV hdA at*
 go_enter Tryz.func17,Tryz.ntmps17
 go_wp2_with fail
 refine co.mono ?_
 rintro e w2 ⟨rfl,b2⟩
 have H2:Hid (HdB w2 w.heap.size 28 (.slice ao h.ks.length cap) h):=HdB.below HH.out b2
 have B2:=B1.trans (b2.mono B1.size)
 clear HH b2 B1 co
 cases bo with
 |false=>
  go_wp2
  go_ret
  exact⟨ret_bool (by rw[HE.out];rfl),B2⟩
 |true=>
  have hlen:=HL.out rfl
  go_wp2_with fail
  refine(cw _).mono ?_
  rintro e w' ⟨rfl,hw⟩;subst w'
  clear cw
  cases bw with
  |false=>
   clear hlen
   go_wp2
   go_ret
   exact⟨ret_bool (by rw[HE.out];rfl),B2⟩
  |true=>
   obtain⟨hi0,hi3⟩:=HWR.out rfl
   have cr:=Hcr.out w2 H2.out.2 hi0 (by omega)
   have k0:w2.cell? ⟨w.heap.size,0,none⟩=some (.slice ao h.ks.length cap):=H2.out.1.cell 0 rfl
   have k1:w2.cell? ⟨w.heap.size,1,none⟩=some (.int .i64 h.kd):=H2.out.1.cell 1 rfl
   have k2:w2.cell? ⟨w.heap.size,2,none⟩=some (.int .i64 h.ho):=H2.out.1.cell 2 rfl
   have k3:w2.cell? ⟨w.heap.size,3,none⟩=some (.int .i64 h.tu):=H2.out.1.cell 3 rfl
   clear hlen Hcr HL
   go_wp2_with fail
   refine cr.mono ?_
   rintro e w3 ⟨rfl,b3⟩
   have B3:=B2.trans (b3.mono B2.size)
   clear k0 k1 k2 k3 b3 cr H2
   go_wp2
   go_ret
   exact⟨ret_bool (by rw[HE.out];simp),B3⟩
end Go.Proofs.YtpdggofaobmnlaaGreatDoor
namespace Go.Proofs.YtpdggofaobmnlaaGreatDoor
open Go.ChangeShapes Go.WideShapes Go.ChangeAt Go.RowKit
def PQ (w:World) (base g q cap:Nat) (h:Hd):Prop:=
 StB w g 28 (hdA (.slice (some ⟨q,0,none⟩) 4 cap) h)∧Own w base (.slice (some ⟨q,0,none⟩) 4 cap) h.ks∧(g≠q∧base≤g∧base≤q∧h.ks.length=4)
def PB (w:World) (base g:Nat) (h:Hd):Prop:=∃q cap,PQ w base g q cap h
theorem PQ.put {w:World} {base g q cap:Nat} {h:Hd} (d:PQ w base g q cap h) (j:Nat) (x:Int) (f:Hd) (hk:f.ks=h.ks) (e:(hdA (.slice (some ⟨q,0,none⟩) 4 cap) h).setIfInBounds j (.int .i64 x)=hdA (.slice (some ⟨q,0,none⟩) 4 cap) f):
  PQ (w.setCell ⟨g,j,none⟩ (.int .i64 x)) base g q cap f∧Below base w (w.setCell ⟨g,j,none⟩ (.int .i64 x)):=by
 obtain⟨h1,h2,h3⟩:=d
 have G:=grownSet w g j (.int .i64 x)
 refine⟨⟨h1.put j _ e,?_,?_⟩,(Below.refl base w).setCell h3.2.1 _⟩
 ·rw[hk];exact h2.kept G (.inr (by intro e;have:q=g:=Option.some.inj e;omega))
 ·rw[hk];exact h3
theorem PQ.key {w:World} {base g q cap:Nat} {h:Hd} (d:PQ w base g q cap h) (j:Nat) (hj:j<4) (x:Int):
  w.frozen? ⟨q,j,none⟩=false∧w.cell? ⟨q,j,none⟩=some (.int .i64 (h.ks.getD j 0))∧PQ (w.setCell ⟨q,j,none⟩ (.int .i64 x)) base g q cap ⟨h.ks.set j x,h.kd,h.ho,h.tu⟩∧Below base w (w.setCell ⟨q,j,none⟩ (.int .i64 x)):=by
 obtain⟨h1,h2,h3⟩:=d
 obtain⟨f, -,o⟩:=h2.put h3.2.2.2.symm j hj x
 have G:=grownSet w q j (.int .i64 x)
 obtain⟨-, -, -,hc⟩:=reads_cells h2.reads
 obtain⟨b,off,e,hcell⟩:=hc j hj
 simp only[Option.some.injEq,Addr.mk.injEq]at e
 obtain⟨rfl,rfl, -⟩:=e
 rw[Nat.zero_add]at hcell
 refine⟨f,hcell,⟨h1.kept G ?_,o,?_⟩,(Below.refl base w).setCell h3.2.2.1 _⟩
 ·intro e;have:=Option.some.inj e;omega
 ·simpa using h3
theorem PQ.below {w w':World} {base g q cap:Nat} {h:Hd} (d:PQ w base g q cap h) (b:Below w.heap.size w w'):PQ w' base g q cap h:=
 ⟨d.1.below b,d.2.1.below b,d.2.2⟩
theorem PQ.lt {w:World} {base g q cap:Nat} {h:Hd} (d:PQ w base g q cap h):base≤w.heap.size:=by
 have:=d.1.lt;have:=d.2.2.2.1;omega
theorem PB.below {w w':World} {base g:Nat} {h:Hd} (d:PB w base g h) (b:Below w.heap.size w w'):PB w' base g h:=by
 obtain⟨q,cap,d⟩:=d
 exact⟨q,cap,d.below b⟩
theorem PB.lt {w:World} {base g:Nat} {h:Hd} (d:PB w base g h):base≤w.heap.size:=by
 obtain⟨q,cap,d⟩:=d
 exact d.lt
theorem s9turn_any (base g:Nat) (h:Hd) (w:World) (d:PB w base g h) (h0:0≤h.tu) (h1:h.tu≤1000000000):
  Calls Tryz.prog 155 #[.pointer (some ⟨g,0,none⟩)] w fun e w'=>e=.returned (.tuple #[])∧PB w' base g h.turn∧Below base w w':=by
 obtain⟨q,cap,d⟩:=d
 have k3:w.cell? ⟨g,3,none⟩=some (.int .i64 h.tu):=d.1.cell 3 rfl
 have f3:=d.1.frozen 3
 have P1:=d.put 3 (h.tu+1) ⟨h.ks,h.kd,h.ho,h.tu+1⟩ rfl rfl
 have hwr:IntKind.i64.wrap (h.tu+1)=h.tu+1:=by rw[IntKind.wrap_i64];omega
 by_cases hb:1000000000<h.tu+1
 ·have P2:=P1.1.put 3 0 ⟨h.ks,h.kd,h.ho,0⟩ rfl rfl
  have HP:Hid (PB ((w.setCell ⟨g,3,none⟩ (.int .i64 (h.tu+1))).setCell ⟨g,3,none⟩ (.int .i64 0)) base g h.turn∧Below base w ((w.setCell ⟨g,3,none⟩ (.int .i64 (h.tu+1))).setCell ⟨g,3,none⟩ (.int .i64 0))):=by
   refine⟨⟨q,cap,?_⟩,P1.2.trans P2.2⟩
   have e:h.turn=⟨h.ks,h.kd,h.ho,0⟩:=by simp[Hd.turn,turnI,hb]
   rw[e];exact P2.1
  have k4:(w.setCell ⟨g,3,none⟩ (.int .i64 (h.tu+1))).cell? ⟨g,3,none⟩=some (.int .i64 (h.tu+1)):=P1.1.1.cell 3 rfl
  clear P1 P2 d
  go_enter Tryz.func155,Tryz.ntmps155
  go_wp2
  go_end0
  exact⟨rfl,HP.out⟩
 ·have HP:Hid (PB (w.setCell ⟨g,3,none⟩ (.int .i64 (h.tu+1))) base g h.turn∧Below base w (w.setCell ⟨g,3,none⟩ (.int .i64 (h.tu+1)))):=by
   refine⟨⟨q,cap,?_⟩,P1.2⟩
   have e:h.turn=⟨h.ks,h.kd,h.ho,h.tu+1⟩:=by simp[Hd.turn,turnI,hb]
   rw[e];exact P1.1
  clear P1 d
  go_enter Tryz.func155,Tryz.ntmps155
  go_wp2
  go_end0
  exact⟨rfl,HP.out⟩
theorem s9free_any (base g:Nat) (h:Hd) (w:World) (d:PB w base g h):
  Calls Tryz.prog 156 #[.pointer (some ⟨g,0,none⟩)] w fun e w'=>e=.returned (.tuple #[])∧PB w' base g h.free∧Below base w w':=by
 obtain⟨q,cap,d⟩:=d
 have k1:w.cell? ⟨g,1,none⟩=some (.int .i64 h.kd):=d.1.cell 1 rfl
 have f1:=d.1.frozen 1
 have k2:w.cell? ⟨g,2,none⟩=some (.int .i64 h.ho):=d.1.cell 2 rfl
 have f2:=d.1.frozen 2
 have P1:=d.put 1 0 ⟨h.ks,0,h.ho,h.tu⟩ rfl rfl
 have P2:=P1.1.put 2 (-1) h.free rfl rfl
 have HP:Hid (PB ((w.setCell ⟨g,1,none⟩ (.int .i64 0)).setCell ⟨g,2,none⟩ (.int .i64 (-1))) base g h.free∧Below base w ((w.setCell ⟨g,1,none⟩ (.int .i64 0)).setCell ⟨g,2,none⟩ (.int .i64 (-1)))):=⟨⟨q,cap,P2.1⟩,P1.2.trans P2.2⟩
 clear P1 P2 d
 go_enter Tryz.func156,Tryz.ntmps156
 go_wp2
 go_end0
 exact⟨rfl,HP.out⟩
theorem s9take_any (base g:Nat) (h:Hd) (i k:Int) (w:World) (d:PB w base g h):
  Calls Tryz.prog 157 #[.pointer (some ⟨g,0,none⟩),.int .i64 i,.int .i64 k] w fun e w'=>e=.returned (.tuple #[])∧PB w' base g (h.take i k)∧Below base w w':=by
 obtain⟨q,cap,d⟩:=d
 have k1:w.cell? ⟨g,1,none⟩=some (.int .i64 h.kd):=d.1.cell 1 rfl
 have f1:=d.1.frozen 1
 have k2:w.cell? ⟨g,2,none⟩=some (.int .i64 h.ho):=d.1.cell 2 rfl
 have f2:=d.1.frozen 2
 have P1:=d.put 1 k ⟨h.ks,k,h.ho,h.tu⟩ rfl rfl
 have P2:=P1.1.put 2 i ⟨h.ks,k,i,h.tu⟩ rfl rfl
 obtain⟨w2,hw2⟩:∃w2,w2=(w.setCell ⟨g,1,none⟩ (.int .i64 k)).setCell ⟨g,2,none⟩ (.int .i64 i):=⟨_,rfl⟩
 rw[←hw2]at P2
 have k3:w2.cell? ⟨g,2,none⟩=some (.int .i64 i):=P2.1.1.cell 2 rfl
 have f3:=P2.1.1.frozen 2
 have P3:=P2.1.put 2 (-1) ⟨h.ks,k, -1,h.tu⟩ rfl rfl
 have c1:=sall_any k w2
 cases ha:allI k with
 |true=>
  have e:h.take i k=⟨h.ks,k, -1,h.tu⟩:=by simp[Hd.take,ha]
  rw[e]
  rw[ha]at c1
  have HP:Hid (PB (w2.setCell ⟨g,2,none⟩ (.int .i64 (-1))) base g ⟨h.ks,k, -1,h.tu⟩∧Below base w (w2.setCell ⟨g,2,none⟩ (.int .i64 (-1)))):=⟨⟨q,cap,P3.1⟩,(P1.2.trans P2.2).trans P3.2⟩
  clear P1 P2 P3 d e ha
  go_enter Tryz.func157,Tryz.ntmps157
  go_wp2_with fail
  rw[←hw2]
  clear hw2 k1 f1 k2 f2
  refine c1.mono ?_
  rintro e w' ⟨rfl,hw'⟩;subst w'
  go_wp2
  go_end0
  exact⟨rfl,HP.out⟩
 |false=>
  have e:h.take i k=⟨h.ks,k,i,h.tu⟩:=by simp[Hd.take,ha]
  rw[e]
  rw[ha]at c1
  have HP:Hid (PB w2 base g ⟨h.ks,k,i,h.tu⟩∧Below base w w2):=⟨⟨q,cap,P2.1⟩,P1.2.trans P2.2⟩
  clear P1 P2 P3 d e ha
  go_enter Tryz.func157,Tryz.ntmps157
  go_wp2_with fail
  rw[←hw2]
  clear hw2 k1 f1 k2 f2
  refine c1.mono ?_
  rintro e w' ⟨rfl,hw'⟩;subst w'
  go_wp2
  go_end0
  exact⟨rfl,HP.out⟩
theorem s9register_any (base g:Nat) (h:Hd) (i key:Int) (w:World) (d:PB w base g h) (t0:0≤h.tu) (t1:h.tu≤1000000000) (i0:0≤i) (i1:i<4):
  Calls Tryz.prog 126 #[.pointer (some ⟨g,0,none⟩),.int .i64 i,.int .i64 key] w fun e w'=>e=.returned (.tuple #[])∧PB w' base g (h.regd i key)∧Below base w w':=by
 obtain⟨q,cap,d⟩:=d
 have k0:w.cell? ⟨g,0,none⟩=some (.slice (some ⟨q,0,none⟩) 4 cap):=d.1.cell 0 rfl
 obtain⟨fk,ck,PK,BK⟩:=d.key i.toNat (by omega) key
 have c1:=s9turn_any base g (h.key i key) _ ⟨q,cap,PK⟩ t0 t1
 have HE:Hid (h.regd i key=if key=0∧(h.ho=i∨anyI (h.ks.set i.toNat key)=false)then((h.key i key).turn).free else(h.key i key).turn):=rfl
 obtain⟨h1,e1⟩:∃h1,h1=(h.key i key).turn:=⟨_,rfl⟩
 rw[←e1]at c1 HE
 have eho:h1.ho=h.ho:=by rw[e1];rfl
 have eks:h1.ks=h.ks.set i.toNat key:=by rw[e1];rfl
 rw[←eho,←eks]at HE
 have HB:Hid (Below base w (w.setCell ⟨q,i.toNat,none⟩ (.int .i64 key))):=BK
 clear PK BK d e1 eho eks t0 t1
 obtain⟨r,hr⟩:∃r,r=h.regd i key:=⟨_,rfl⟩
 rw[←hr]at HE⊢
 clear hr
 go_enter Tryz.func126,Tryz.ntmps126
 go_wp2_with fail
 refine c1.mono ?_
 rintro e w1 ⟨rfl,P1,B1⟩
 replace HB:Hid (Below base w w1):=HB.out.trans B1
 clear c1 B1 k0 fk ck
 have cf:=s9free_any base g h1
 have HP:Hid (PB w1 base g h1):=P1
 obtain⟨q1,cap1,d1⟩:=P1
 have k0:w1.cell? ⟨g,0,none⟩=some (.slice (some ⟨q1,0,none⟩) 4 cap1):=d1.1.cell 0 rfl
 have k1:w1.cell? ⟨g,1,none⟩=some (.int .i64 h1.kd):=d1.1.cell 1 rfl
 have k2:w1.cell? ⟨g,2,none⟩=some (.int .i64 h1.ho):=d1.1.cell 2 rfl
 have k3:w1.cell? ⟨g,3,none⟩=some (.int .i64 h1.tu):=d1.1.cell 3 rfl
 have ca:=s8any_any _ h1 w1 d1.2.1.reads (by have:=d1.2.2.2.2.2;omega)
 unfold HV hdA at ca
 clear d1
 by_cases hk:key=0
 ·by_cases hh:h1.ho=i
  ·have HR:Hid (r=h1.free):=by rw[Hid,HE.out,if_pos ⟨hk,.inl hh⟩]
   clear ca HE
   subst hk
   go_wp2_with fail
   refine(cf _ HP.out).mono ?_
   rintro e w2 ⟨rfl,P2,B2⟩
   go_wp2
   go_end0
   exact⟨rfl,by rw[HR.out];exact P2,HB.out.trans B2⟩
  ·cases hn:anyI h1.ks with
   |false=>
    have HR:Hid (r=h1.free):=by rw[Hid,HE.out,if_pos ⟨hk,.inr hn⟩]
    rw[hn]at ca
    clear HE hn
    subst hk
    go_wp2_with fail
    refine ca.mono ?_
    rintro e w2 ⟨rfl,b2⟩
    replace HB:Hid (Below base w w2):=HB.out.trans (b2.mono HP.out.lt)
    replace HP:Hid (PB w2 base g h1):=HP.out.below b2
    clear b2 k0 k1 k2 k3
    go_wp2_with fail
    refine(cf _ HP.out).mono ?_
    rintro e w3 ⟨rfl,P3,B3⟩
    go_wp2
    go_end0
    exact⟨rfl,by rw[HR.out];exact P3,HB.out.trans B3⟩
   |true=>
    have HR:Hid (r=h1):=by rw[Hid,HE.out,if_neg (by simp[hh,hn])]
    rw[hn]at ca
    clear HE hn cf
    subst hk
    go_wp2_with fail
    refine ca.mono ?_
    rintro e w2 ⟨rfl,b2⟩
    have HQ:Hid (PB w2 base g h1∧Below base w w2):=⟨HP.out.below b2,HB.out.trans (b2.mono HP.out.lt)⟩
    clear b2 k0 k1 k2 k3 HP HB
    go_wp2
    go_end0
    exact⟨rfl,by rw[HR.out];exact HQ.out.1,HQ.out.2⟩
 ·have HR:Hid (r=h1):=by rw[Hid,HE.out,if_neg (fun c=>hk c.1)]
  have HQ:Hid (PB w1 base g h1∧Below base w w1):=⟨HP.out,HB.out⟩
  clear ca HE cf HP HB
  go_wp2
  go_end0
  exact⟨rfl,by rw[HR.out];exact HQ.out.1,HQ.out.2⟩
end Go.Proofs.YtpdggofaobmnlaaGreatDoor
