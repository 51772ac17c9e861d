import Derived.Test.YtpdggofaobmnlaaGreatDoorM23
import Derived.Test.YtpdggofaobmnlaaGreatDoorM22
import Derived.Test.YtpdggofaobmnlaaGreatDoorM6
import Derived.Deep.RegionHeld3
import Derived.Deep.DeepCutAuto
import Derived.Test.YtpdggofaobmnlaaGreatDoorM14
/- Bars and Allowed by the program. -/
set_option maxRecDepth 20000
set_option maxHeartbeats 2000000
namespace Go.Proofs.YtpdggofaobmnlaaGreatDoor
open Go.ChangeShapes Go.WideShapes Go.ChangeAt Go.RowKit
theorem barsI_tab (k:Int) (b:Bool):barsI k b=tabI (heldI k) (whatI k) b false:=by
 rcases kinds k with h|h|h|h|h|h|h|⟨hk,h0,h1,h2,h3,h4,h5,h6⟩
 all_goals first|(subst h;cases b<;>rfl)|(rw[none_bars k b hk,show heldI k=0 by simp[heldI,h1,h2,h3,h4,h5,h6]];rfl)
theorem mayI_tab (k:Int) (b r:Bool) (hk:kiI k=true):mayI k b false r= !tabI (heldI k) (whatI k) b r:=by
 rcases kinds k with h|h|h|h|h|h|h|⟨hn,h0,h1,h2,h3,h4,h5,h6⟩
 all_goals first|(rw[hk]at hn;cases hn)|(subst h;first|(cases b<;>cases r<;>rfl)|(exact absurd hk (by decide)))
theorem imay_any (k:Int) (b h r:Bool) (w:World):
  Calls Tryz.prog 141 #[.int .i64 k,.bool b,.bool h,.bool r] w fun e w'=>e=.returned (.bool (mayI k b h r))∧Below w.heap.size w w':=by
 have c1:=ikind_any k w
 have c2:=fun wx=>ibarred_any k wx
 by_cases h0:k=0
 ·have hx:mayI k b h r=true:=by rw[mayI,if_pos h0]
  rw[hx]
  subst h0
  clear hx c1
  cases h with
  |true=>
   clear c2
   go_enter Tryz.func141,Tryz.ntmps141
   go_wp2
   go_ret
   exact⟨rfl,Below.refl _ _⟩
  |false=>
   go_enter Tryz.func141,Tryz.ntmps141
   go_wp2_with fail
   refine(c2 _).mono ?_
   rintro e w2 ⟨g,rfl,hm⟩
   have hl:=run_lookB w2 g _ b r hm.1
   rw[show tabI (heldI 0) (whatI 0) b r=false from rfl,if_neg (by decide)]at hl
   unfold keyB at hl
   have HB:Hid (Below w.heap.size w w2):=hm.2.1
   clear hm c2
   go_wp2
   go_ret
   exact⟨rfl,HB.out⟩
 ·cases hk:kiI k with
  |false=>
   rw[none_may k b h r h0 hk]
   rw[hk]at c1
   clear c2 hk
   go_enter Tryz.func141,Tryz.ntmps141
   go_wp2_with fail
   refine c1.mono ?_
   rintro e w2 ⟨rfl,b2⟩
   go_wp2
   go_ret
   exact⟨rfl,b2⟩
  |true=>
   rw[hk]at c1
   cases h with
   |true=>
    rw[mayI_holds k b r hk]
    clear c2 hk
    go_enter Tryz.func141,Tryz.ntmps141
    go_wp2_with fail
    refine c1.mono ?_
    rintro e w2 ⟨rfl,b2⟩
    go_wp2
    go_ret
    exact⟨rfl,b2⟩
   |false=>
    rw[mayI_tab k b r hk]
    obtain⟨t,ht⟩:∃t,t=tabI (heldI k) (whatI k):=⟨_,rfl⟩
    simp only[←ht]at c2⊢
    clear ht hk
    go_enter Tryz.func141,Tryz.ntmps141
    go_wp2_with fail
    refine c1.mono ?_
    rintro e w2 ⟨rfl,b2⟩
    have HB2:Hid (Below w.heap.size w w2):=b2
    clear c1 b2
    go_wp2_with fail
    refine(c2 _).mono ?_
    rintro e w3 ⟨g,rfl,hm⟩
    have hl:=run_lookB w3 g t b r hm.1
    unfold keyB at hl
    have HB:Hid (Below w.heap.size w w3):=HB2.out.trans (hm.2.1.mono HB2.out.size)
    clear hm c2 HB2
    cases hx:t b r with
    |false=>
     simp only[hx]at hl
     go_wp2
     go_ret
     exact⟨ret_bool (by rw[hx];rfl),HB.out⟩
    |true=>
     simp only[hx]at hl
     go_wp2
     go_ret
     exact⟨ret_bool (by rw[hx];rfl),HB.out⟩
end Go.Proofs.YtpdggofaobmnlaaGreatDoor
namespace Go.Proofs.YtpdggofaobmnlaaGreatDoor
open Go.ChangeShapes Go.WideShapes Go.ChangeAt Go.RowKit
def heA (f:Nat→Int) (kd ho tu:Int):Array Value:=#[.int .i64 (f 0),.int .i64 (f 1),.int .i64 (f 2),.int .i64 (f 3),.int .i64 kd,.int .i64 ho,.int .i64 tu]
def midF (f:Nat→Int) (kd ho:Int):Bool:=if kd=0 then decide (ho= -1)else if allI kd then decide (ho= -1)&&anyF f else kiI kd&&(inI ho 0 3&&decide (f ho.toNat≠0))
def holdsF (f:Nat→Int) (kd ho i:Int):Bool:=(inI i 0 3&&decide (f i.toNat≠0))&&(allI kd||decide (i=ho))
theorem Tryz.isHeld:IsS 106 7:=⟨⟨_,Tryz.underlying106⟩,by kernel_rfl⟩
theorem heA_cells {w:World} {g:Nat} {f:Nat→Int} {kd ho tu:Int} (h:StB w g 106 (heA f kd ho tu)):
  w.cell? ⟨g,0,none⟩=some (.int .i64 (f 0))∧w.cell? ⟨g,1,none⟩=some (.int .i64 (f 1))∧w.cell? ⟨g,2,none⟩=some (.int .i64 (f 2))∧w.cell? ⟨g,3,none⟩=some (.int .i64 (f 3))∧w.cell? ⟨g,4,none⟩=some (.int .i64 kd)∧w.cell? ⟨g,5,none⟩=some (.int .i64 ho)∧w.cell? ⟨g,6,none⟩=some (.int .i64 tu):=
 ⟨h.cell 0 rfl,h.cell 1 rfl,h.cell 2 rfl,h.cell 3 rfl,h.cell 4 rfl,h.cell 5 rfl,h.cell 6 rfl⟩
theorem iholderok_any (f:Nat→Int) (kd ho tu:Int) (w:World):
  Calls Tryz.prog 138 #[.agg (heA f kd ho tu)] w fun e w'=>e=.returned (.bool (midF f kd ho))∧Below w.heap.size w w':=by
 obtain⟨w1,hw1⟩:∃w1,w1=w.alloc (.cells (heA f kd ho tu) 106):=⟨_,rfl⟩
 have HB:Hid (Below w.heap.size w w1):=by rw[hw1];exact(Below.refl _ _).alloc (Nat.le_refl _) _
 have H1:Hid (StB w1 w.heap.size 106 (heA f kd ho tu)):=by rw[hw1];exact StB.new _ _ _
 have HE:Hid (midF f kd ho=(if kd=0 then decide (ho= -1)else if allI kd then decide (ho= -1)&&anyF f else kiI kd&&(inI ho 0 3&&decide (f ho.toNat≠0)))):=rfl
 obtain⟨x,hx⟩:∃x,x=midF f kd ho:=⟨_,rfl⟩
 rw[←hx]at HE⊢
 clear hx
 have c1:=fun wx=>iall_any kd wx
 have c2:=fun wx=>ikind_any kd wx
 have c3:=fun wx=>ianyreg_any f wx
 have c4:=fun wx=>iregd_any f ho wx
 obtain⟨a1,ha1⟩:∃a1,a1=allI kd:=⟨_,rfl⟩
 obtain⟨a2,ha2⟩:∃a2,a2=kiI kd:=⟨_,rfl⟩
 obtain⟨a3,ha3⟩:∃a3,a3=anyF f:=⟨_,rfl⟩
 obtain⟨a4,ha4⟩:∃a4,a4=(inI ho 0 3&&decide (f ho.toNat≠0)):=⟨_,rfl⟩
 simp only[←ha1,←ha2,←ha3,←ha4]at c1 c2 c3 c4 HE
 clear ha1 ha2 ha3 ha4
 by_cases h0:kd=0
 ·clear c1 c2 c3 c4
  obtain⟨-, -, -, -,k4,k5, -⟩:=heA_cells H1.out
  have HX:Hid (x=decide (ho= -1)):=by rw[Hid,HE.out,if_pos h0]
  clear HE H1
  unfold heA at*
  by_cases ho1:ho= -1
  ·subst hw1
   go_enter Tryz.func138,Tryz.ntmps138
   go_wp2
   go_ret
   exact⟨ret_bool (by rw[HX.out];simp[ho1]),by simpa[h0,ho1]using HB.out⟩
  ·have ho2:(ho== -1)=false:=by simpa using ho1
   subst hw1
   go_enter Tryz.func138,Tryz.ntmps138
   go_wp2
   go_ret
   exact⟨ret_bool (by rw[HX.out];simp[ho1]),by simpa[h0]using HB.out⟩
 ·have h0n:(kd==0)=false:=by simpa using h0
  cases a1 with
  |true=>
   have HX:Hid (x=(decide (ho= -1)&&a3)):=by rw[Hid,HE.out,if_neg h0,if_pos rfl]
   clear HE c2 c4
   unfold kA at*
   rw[heA]at hw1⊢
   go_enter Tryz.func138,Tryz.ntmps138
   go_wp2_with fail
   rw[←hw1]
   refine(c1 _).mono ?_
   rintro e w2 ⟨rfl,b2⟩
   have HB2:Hid (Below w.heap.size w w2):=HB.out.trans (b2.mono HB.out.size)
   obtain⟨k0,k1,k2,k3,k4,k5, -⟩:=heA_cells (H1.out.below b2)
   clear b2 c1 H1 HB hw1
   by_cases ho1:ho= -1
   ·rw[ho1]at k5
    go_wp2_with fail
    refine(c3 _).mono ?_
    rintro e w3 ⟨rfl,b3⟩
    have HB3:Hid (Below w.heap.size w w3):=HB2.out.trans (b3.mono HB2.out.size)
    clear b3 c3 k0 k1 k2 k3 k4 k5
    cases a3<;>
    ·go_wp2
     go_ret
     exact⟨ret_bool (by rw[HX.out];simp[ho1]),HB3.out⟩
   ·have ho2:(ho== -1)=false:=by simpa using ho1
    clear c3
    go_wp2
    go_ret
    exact⟨ret_bool (by rw[HX.out];simp[ho1]),HB2.out⟩
  |false=>
   have HX:Hid (x=(a2&&a4)):=by rw[Hid,HE.out,if_neg h0,if_neg (by decide)]
   clear HE c3
   unfold kA at*
   rw[heA]at hw1⊢
   go_enter Tryz.func138,Tryz.ntmps138
   go_wp2_with fail
   rw[←hw1]
   refine(c1 _).mono ?_
   rintro e w2 ⟨rfl,b2⟩
   have HB2:Hid (Below w.heap.size w w2):=HB.out.trans (b2.mono HB.out.size)
   have H2:=H1.out.below b2
   obtain⟨k0,k1,k2,k3,k4,k5, -⟩:=heA_cells H2
   have HH2:Hid (StB w2 w.heap.size 106 (heA f kd ho tu)):=H2
   clear b2 c1 H1 HB hw1 H2
   go_wp2_with fail
   refine(c2 _).mono ?_
   rintro e w3 ⟨rfl,b3⟩
   have HB3:Hid (Below w.heap.size w w3):=HB2.out.trans (b3.mono HB2.out.size)
   obtain⟨m0,m1,m2,m3,m4,m5, -⟩:=heA_cells (HH2.out.below b3)
   clear b3 c2 k0 k1 k2 k3 k4 k5 HH2 HB2
   cases a2 with
   |false=>
    clear c4
    go_wp2
    go_ret
    exact⟨ret_bool (by rw[HX.out];simp),HB3.out⟩
   |true=>
    go_wp2_with fail
    refine(c4 _).mono ?_
    rintro e w4 ⟨rfl,b4⟩
    have HB4:Hid (Below w.heap.size w w4):=HB3.out.trans (b4.mono HB3.out.size)
    clear b4 c4 m0 m1 m2 m3 m4 m5
    cases a4<;>
    ·go_wp2
     go_ret
     exact⟨ret_bool (by rw[HX.out];simp),HB4.out⟩
theorem iheldholds_any (f:Nat→Int) (kd ho tu i:Int) (w:World):
  Calls Tryz.prog 142 #[.agg (heA f kd ho tu),.int .i64 i] w fun e w'=>e=.returned (.bool (holdsF f kd ho i))∧Below w.heap.size w w':=by
 obtain⟨w1,hw1⟩:∃w1,w1=w.alloc (.cells (heA f kd ho tu) 106):=⟨_,rfl⟩
 have HB:Hid (Below w.heap.size w w1):=by rw[hw1];exact(Below.refl _ _).alloc (Nat.le_refl _) _
 have H1:Hid (StB w1 w.heap.size 106 (heA f kd ho tu)):=by rw[hw1];exact StB.new _ _ _
 have HE:Hid (holdsF f kd ho i=((inI i 0 3&&decide (f i.toNat≠0))&&(allI kd||decide (i=ho)))):=rfl
 obtain⟨x,hx⟩:∃x,x=holdsF f kd ho i:=⟨_,rfl⟩
 rw[←hx]at HE⊢
 clear hx
 have c1:=fun wx=>iall_any kd wx
 have c4:=fun wx=>iregd_any f i wx
 obtain⟨a1,ha1⟩:∃a1,a1=allI kd:=⟨_,rfl⟩
 obtain⟨a4,ha4⟩:∃a4,a4=(inI i 0 3&&decide (f i.toNat≠0)):=⟨_,rfl⟩
 simp only[←ha1,←ha4]at c1 c4 HE
 clear ha1 ha4
 unfold kA at*
 rw[heA]at hw1⊢
 go_enter Tryz.func142,Tryz.ntmps142
 go_wp2_with fail
 rw[←hw1]
 refine(c4 _).mono ?_
 rintro e w2 ⟨rfl,b2⟩
 have HB2:Hid (Below w.heap.size w w2):=HB.out.trans (b2.mono HB.out.size)
 have H2:Hid (StB w2 w.heap.size 106 (heA f kd ho tu)):=H1.out.below b2
 obtain⟨-, -, -, -,k4,k5, -⟩:=heA_cells H2.out
 clear b2 c4 H1 HB hw1
 cases a4 with
 |false=>
  clear c1
  go_wp2
  go_ret
  exact⟨ret_bool (by rw[HE.out];simp),HB2.out⟩
 |true=>
  go_wp2_with fail
  refine(c1 _).mono ?_
  rintro e w3 ⟨rfl,b3⟩
  have HB3:Hid (Below w.heap.size w w3):=HB2.out.trans (b3.mono HB2.out.size)
  obtain⟨-, -, -, -,m4,m5, -⟩:=heA_cells (H2.out.below b3)
  clear b3 c1 k4 k5 H2 HB2
  cases a1 with
  |true=>
   go_wp2
   go_ret
   exact⟨ret_bool (by rw[HE.out];simp),HB3.out⟩
  |false=>
   by_cases hi:i=ho
   ·have hib:(i==ho)=true:=by simpa using hi
    go_wp2
    go_ret
    exact⟨ret_bool (by rw[HE.out];simp[hi]),HB3.out⟩
   ·have hib:(i==ho)=false:=by simpa using hi
    go_wp2
    go_ret
    exact⟨ret_bool (by rw[HE.out];simp[hi]),HB3.out⟩
end Go.Proofs.YtpdggofaobmnlaaGreatDoor
namespace Go.Proofs.YtpdggofaobmnlaaGreatDoor
open Go.ChangeShapes Go.WideShapes Go.ChangeAt Go.RowKit
theorem anyF_KF {ks:List Int} (h:ks.length=4):anyF (KF ks)=anyI ks:=by
 match ks,h with
 |[a,b,c,d],_=>simp[anyF,KF,anyI,Bool.or_assoc,bne,decide_not];rfl
theorem midF_KF {h:Hd} (e:h.ks.length=4):midF (KF h.ks) h.kd h.ho=h.mid:=by
 unfold midF Hd.mid
 rw[anyF_KF e]
 unfold regI KF
 simp only[Bool.and_assoc]
theorem ok_row {h:Hd} (e:rowOk h.ks=true):h.ok=(midF (KF h.ks) h.kd h.ho&&inI h.tu 0 1000000000):=by
 unfold rowOk at e
 simp only[Bool.and_eq_true,decide_eq_true_eq]at e
 rw[midF_KF e.1]
 unfold Hd.ok
 rw[e.2]
 simp[e.1,Bool.and_comm]
theorem ok_norow {h:Hd} (e:rowOk h.ks=false):h.ok=false:=by
 unfold Hd.ok
 unfold rowOk at e
 cases h1:decide (h.ks.length=4)
 ·simp
 ·rw[h1]at e;simp at e;simp[e]
def heldV (h:Hd):Array Value:=if h.ok then heA (KF h.ks) h.kd h.ho h.tu else heA (fun _=>0) 0 0 0
theorem he0:(#[.int .i64 0,.int .i64 0,.int .i64 0,.int .i64 0,.int .i64 0,.int .i64 0,.int .i64 0]:Array Value)=heA (fun _=>0) 0 0 0:=rfl
theorem heA_one (f:Nat→Int) (a b c:Int):(heA f a b c).all (·.oneCell')=true:=by simp[heA,Value.oneCell']
theorem iheldof_any (v:Value) (h:Hd) (w:World) (hr:Reads w v h.ks) (hl:h.ks.length≤1099511627776):
  Calls Tryz.prog 91 #[HV v h] w fun e w'=>e=.returned (.tuple #[.agg (heldV h),.bool h.ok])∧Below w.heap.size w w':=by
 obtain⟨w1,hw1⟩:∃w1,w1=(w.alloc (.cells (hdA v h) 28)).alloc (.cells (heA (fun _=>0) 0 0 0) 106):=⟨_,rfl⟩
 have HB:Hid (Below w.heap.size w w1):=by rw[hw1];exact((Below.refl _ _).alloc (Nat.le_refl _) _).alloc (by simp) _
 have P1:Hid (StB w1 w.heap.size 28 (hdA v h)):=by rw[hw1];exact(StB.new _ _ _).alloc _
 have R1:Hid (StB w1 (w.heap.size+1) 106 (heA (fun _=>0) 0 0 0)):=by
  rw[hw1]
  have:=StB.new (w.alloc (.cells (hdA v h) 28)) 106 (heA (fun _=>0) 0 0 0)
  rwa[World.size_alloc]at this
 have c1:=ikeyrow_any v h.ks w1 (hr.below HB.out (Nat.le_refl _)) hl
 have c2:∀f wx,_:=fun f wx=>iholderok_any f h.kd h.ho h.tu wx
 have c3:=fun wx=>iturnok_any h.tu wx
 have hs1:w.heap.size+1<w1.heap.size:=R1.out.lt
 have F4:Hid (rowOk h.ks=true→h.ok=(midF (rowKF h.ks) h.kd h.ho&&inI h.tu 0 1000000000)):=fun e=>by rw[ok_row e,rowKF_yes e]
 have F5:Hid (rowOk h.ks=true→h.ok=true→heldV h=heA (rowKF h.ks) h.kd h.ho h.tu):=fun e e2=>by rw[heldV,e2,rowKF_yes e];rfl
 have F6:Hid (h.ok=false→heldV h=heA (fun _=>0) 0 0 0):=fun e=>by rw[heldV,e];rfl
 have F3:Hid (rowOk h.ks=false→h.ok=false):=ok_norow
 obtain⟨ao,cap,rfl⟩:=reads_form hr
 obtain⟨rk,hrk⟩:∃rk,rk=rowOk h.ks:=⟨_,rfl⟩
 obtain⟨ok,hok⟩:∃ok,ok=h.ok:=⟨_,rfl⟩
 obtain⟨hv,hhv⟩:∃hv,hv=heldV h:=⟨_,rfl⟩
 rw[←hrk]at c1 F3 F4 F5
 rw[←hok]at F3 F4 F5 F6⊢
 rw[←hhv]at F5 F6⊢
 clear hrk hr hl hok hhv
 unfold HV
 rw[hdA,heA]at hw1
 rw[hdA]
 obtain⟨f,hf⟩:∃f,f=rowKF h.ks:=⟨_,rfl⟩
 rw[←hf]at c1 F4 F5
 clear hf
 have p0:w1.cell? ⟨w.heap.size,0,none⟩=some (.slice ao h.ks.length cap):=P1.out.cell 0 rfl
 have C2:Hid _:=c2
 have C3:Hid _:=c3
 clear c2 c3
 go_enter Tryz.func91,Tryz.ntmps91
 go_wp2_with fail
 rw[←hw1]
 refine c1.mono ?_
 rintro e w2 ⟨rfl,b2⟩
 have HB2:Hid (Below w.heap.size w w2):=HB.out.trans (b2.mono HB.out.size)
 have P2:Hid (StB w2 w.heap.size 28 (hdA (.slice ao h.ks.length cap) h)):=P1.out.below b2
 have R2:Hid (StB w2 (w.heap.size+1) 106 (heA (fun _=>0) 0 0 0)):=R1.out.below b2
 have s2:w.heap.size+1<w2.heap.size:=R2.out.lt
 have z2:StB (w2.alloc (.cells (kA fun _=>0) 104)) w2.heap.size 104 (kA fun _=>0):=StB.new _ _ _
 clear b2 c1 P1 R1 HB hw1 p0 hs1
 go_upto_region 2 with(first|(refine wpList_putK rfl _ _ rfl w2.heap.size f rfl rfl _ z2 ?_;intro w3 h3 g3))
 have HB3:Hid (Below w.heap.size w w3):=HB2.out.trans (((Below.refl _ _).alloc (Nat.le_refl _) _ |>.grown g3 (by simp) (fun k e=>by cases e;exact Nat.le_refl _)).mono HB2.out.size)
 have b23:Below w2.heap.size w2 w3:=(Below.refl _ _).alloc (Nat.le_refl _) _ |>.grown g3 (by simp) (fun k e=>by cases e;exact Nat.le_refl _)
 have P3:Hid (StB w3 w.heap.size 28 (hdA (.slice ao h.ks.length cap) h)):=P2.out.below b23
 have R3:Hid (StB w3 (w.heap.size+1) 106 (heA (fun _=>0) 0 0 0)):=R2.out.below b23
 have K3:=h3
 have z3:StB (w3.alloc (.cells (heA (fun _=>0) 0 0 0) 106)) w3.heap.size 106 (heA (fun _=>0) 0 0 0):=StB.new _ _ _
 have p1:w3.cell? ⟨w.heap.size,1,none⟩=some (.int .i64 h.kd):=P3.out.cell 1 rfl
 have p2:w3.cell? ⟨w.heap.size,2,none⟩=some (.int .i64 h.ho):=P3.out.cell 2 rfl
 have p3:w3.cell? ⟨w.heap.size,3,none⟩=some (.int .i64 h.tu):=P3.out.cell 3 rfl
 have s3:=R3.out.lt
 clear b23 g3 h3 P2 R2 HB2 z2
 have k0:w3.cell? ⟨w2.heap.size,0,none⟩=some (.int .i64 (f 0)):=K3.cell 0 rfl
 have k1:w3.cell? ⟨w2.heap.size,1,none⟩=some (.int .i64 (f 1)):=K3.cell 1 rfl
 have k2:w3.cell? ⟨w2.heap.size,2,none⟩=some (.int .i64 (f 2)):=K3.cell 2 rfl
 have k3:w3.cell? ⟨w2.heap.size,3,none⟩=some (.int .i64 (f 3)):=K3.cell 3 rfl
 have HK3:Hid _:=K3
 have Z3:Hid _:=z3
 clear K3 z3
 go_upto_region 3 with(first|(refine wpList_putS Tryz.isHeld rfl _ _ rfl w3.heap.size (heA f h.kd h.ho h.tu) _ rfl rfl rfl rfl (heA_one _ _ _ _) Z3.out ?_;intro w4 h4 g4))
 have b34:Below w3.heap.size w3 w4:=(Below.refl _ _).alloc (Nat.le_refl _) _ |>.grown g4 (by simp) (fun k e=>by cases e;exact Nat.le_refl _)
 have HB4:Hid (Below w.heap.size w w4):=HB3.out.trans (b34.mono HB3.out.size)
 have R4:Hid (StB w4 (w.heap.size+1) 106 (heA (fun _=>0) 0 0 0)):=R3.out.below b34
 have H4:Hid (StB w4 w3.heap.size 106 (heA f h.kd h.ho h.tu)):=h4
 obtain⟨m0,m1,m2,m3,m4,m5,m6⟩:=heA_cells h4
 obtain⟨g,hg⟩:∃g,g=w3.heap.size:=⟨_,rfl⟩
 have HG:Hid (w.heap.size+1<g):=by rw[hg];exact s3
 rw[←hg]at m0 m1 m2 m3 m4 m5 m6 H4⊢
 clear hg b34 g4 h4 HB3 R3 P3 p1 p2 p3 k0 k1 k2 k3 HK3 Z3 s2 s3
 cases rk with
 |false=>
  have E:=F3.out rfl
  subst E
  have E2:=F6.out rfl
  subst E2
  clear F3 F4 F5 F6 C2 C3 m0 m1 m2 m3 m4 m5 m6
  go_wp2_with (first|(refine wpList_putS Tryz.isHeld rfl _ _ rfl (w.heap.size+1) (heA (fun _=>0) 0 0 0) _ rfl rfl rfl rfl (heA_one _ _ _ _) R4.out ?_;intro w5 h5 g5))
  refine bodyPost_ret (results_S2 Tryz.isHeld rfl _ _ (w.heap.size+1) _ _ rfl rfl rfl h5) rfl ?_
  exact⟨rfl,HB4.out.grown g5 HB4.out.size (fun k e=>by cases e;omega)⟩
 |true=>
  have G4:Hid _:=F4.out rfl
  have G5:Hid _:=F5.out rfl
  obtain⟨a,ha⟩:∃a,a=midF f h.kd h.ho:=⟨_,rfl⟩
  obtain⟨b,hb⟩:∃b,b=inI h.tu 0 1000000000:=⟨_,rfl⟩
  have c2:=C2.out f w4
  have c3:=C3.out
  rw[←ha]at c2 G4
  simp only[←hb]at c3 G4
  clear ha hb F3 F4 F5 C2 C3
  unfold heA at c2
  go_wp2_with fail
  refine c2.mono ?_
  rintro e w5 ⟨rfl,b5⟩
  have HB5:Hid (Below w.heap.size w w5):=HB4.out.trans (b5.mono HB4.out.size)
  have R5:Hid (StB w5 (w.heap.size+1) 106 (heA (fun _=>0) 0 0 0)):=R4.out.below b5
  have H5:Hid (StB w5 g 106 (heA f h.kd h.ho h.tu)):=H4.out.below b5
  obtain⟨-, -, -, -, -, -,n6⟩:=heA_cells H5.out
  clear m0 m1 m2 m3 m4 m5 m6 HB4 R4 H4 b5 c2
  cases a with
  |false=>
   have E:ok=false:=by rw[G4.out];rfl
   subst E
   have E2:=F6.out rfl
   subst E2
   clear G4 G5 F6 c3 n6
   go_wp2_with (first|(refine wpList_putS Tryz.isHeld rfl _ _ rfl (w.heap.size+1) (heA (fun _=>0) 0 0 0) _ rfl rfl rfl rfl (heA_one _ _ _ _) R5.out ?_;intro w6 h6 g6))
   refine bodyPost_ret (results_S2 Tryz.isHeld rfl _ _ (w.heap.size+1) _ _ rfl rfl rfl h6) rfl ?_
   exact⟨rfl,HB5.out.grown g6 HB5.out.size (fun k e=>by cases e;omega)⟩
  |true=>
   cases b with
   |false=>
    have E:ok=false:=by rw[G4.out];rfl
    subst E
    have E2:=F6.out rfl
    subst E2
    clear G4 G5 F6
    go_wp2_with (first|(go_at_call 139;refine(c3 _).mono ?_;rintro e w' ⟨rfl,hw⟩;subst w')|(refine wpList_putS Tryz.isHeld rfl _ _ rfl (w.heap.size+1) (heA (fun _=>0) 0 0 0) _ rfl rfl rfl rfl (heA_one _ _ _ _) R5.out ?_;intro w6 h6 g6))
    refine bodyPost_ret (results_S2 Tryz.isHeld rfl _ _ (w.heap.size+1) _ _ rfl rfl rfl h6) rfl ?_
    exact⟨rfl,HB5.out.grown g6 HB5.out.size (fun k e=>by cases e;omega)⟩
   |true=>
    have E:ok=true:=by rw[G4.out];rfl
    subst E
    have E2:=G5.out rfl
    subst E2
    clear G4 G5 F6
    go_wp2_with (first|(go_at_call 139;refine(c3 _).mono ?_;rintro e w' ⟨rfl,hw⟩;subst w')|(refine wpList_getS Tryz.isHeld rfl _ rfl g rfl _ rfl H5.out ?_)|(refine wpList_putS Tryz.isHeld rfl _ _ rfl (w.heap.size+1) (heA f h.kd h.ho h.tu) _ rfl rfl rfl rfl (heA_one _ _ _ _) R5.out ?_;intro w6 h6 g6))
    refine bodyPost_ret (results_S2 Tryz.isHeld rfl _ _ (w.heap.size+1) _ _ rfl rfl rfl h6) rfl ?_
    exact⟨rfl,HB5.out.grown g6 HB5.out.size (fun k e=>by cases e;omega)⟩
theorem heldV_form (h:Hd):∃f a b c,heldV h=heA f a b c∧(h.ok=true→f=KF h.ks∧a=h.kd∧b=h.ho∧c=h.tu):=by
 unfold heldV
 cases h.ok
 ·exact⟨fun _=>0,0,0,0,rfl,fun e=>by cases e⟩
 ·exact⟨_,_,_,_,rfl,fun _=>⟨rfl,rfl,rfl,rfl⟩⟩
theorem iholdok_any (v:Value) (h:Hd) (w:World) (hr:Reads w v h.ks) (hl:h.ks.length≤1099511627776):
  Calls Tryz.prog 42 #[HV v h] w fun e w'=>e=.returned (.bool h.ok)∧Below w.heap.size w w':=by
 have b1:Below w.heap.size w (w.alloc (.cells (hdA v h) 28)):=(Below.refl _ _).alloc (Nat.le_refl _) _
 have c1:=iheldof_any v h _ (hr.below b1 (Nat.le_refl _)) hl
 obtain⟨ao,cap,rfl⟩:=reads_form hr
 obtain⟨ok,hok⟩:∃ok,ok=h.ok:=⟨_,rfl⟩
 obtain⟨f,x,y,z,hf,hfo⟩:=heldV_form h
 rw[←hok]at c1⊢
 rw[hf]at c1
 clear hok hf hfo hr hl
 unfold HV hdA at*
 go_enter Tryz.func42,Tryz.ntmps42
 go_wp2_with fail
 refine c1.mono ?_
 rintro e w2 ⟨rfl,b2⟩
 have HB2:Hid (Below w.heap.size w w2):=b1.trans (b2.mono b1.size)
 have z2:Hid (StB (w2.alloc (.cells (heA (fun _=>0) 0 0 0) 106)) w2.heap.size 106 (heA (fun _=>0) 0 0 0)):=StB.new _ _ _
 clear c1 b1 b2
 go_wp2_with (first|(refine wpList_putS Tryz.isHeld rfl _ _ rfl w2.heap.size (heA f x y z) _ rfl rfl rfl rfl (heA_one _ _ _ _) z2.out ?_;intro w3 h3 g3))
 go_ret
 exact⟨rfl,HB2.out.trans (((Below.refl _ _).alloc (Nat.le_refl _) _ |>.grown g3 (by simp) (fun k e=>by cases e;exact Nat.le_refl _)).mono HB2.out.size)⟩
end Go.Proofs.YtpdggofaobmnlaaGreatDoor
namespace Go.Proofs.YtpdggofaobmnlaaGreatDoor
open Go.ChangeShapes Go.WideShapes Go.ChangeAt Go.RowKit
theorem ifreshH_any (v:Value) (h:Hd) (w:World) (hr:Reads w v h.ks) (h1:1≤h.ks.length) (hl:h.ks.length≤1099511627776):
  Calls Tryz.prog 80 #[HV v h] w fun e w'=>∃u,e=.returned (HV u h)∧Own w' w.heap.size u h.ks∧Below w.heap.size w w':=by
 obtain⟨ao,cap,rfl⟩:=reads_form hr
 obtain⟨w1,hw1⟩:∃w1,w1=(w.alloc (.cells (hdA (.slice ao h.ks.length cap) h) 28)).alloc (.cells #[.slice none 0 0,.int .i64 0,.int .i64 0,.int .i64 0] 28):=⟨_,rfl⟩
 have HB:Hid (Bx w w1 (.slice ao h.ks.length cap) h):=by rw[hw1];exact Bx.start hr
 have c1:=fresh_any (.slice ao h.ks.length cap) h.ks w1 HB.out.2.2.2.2 h1 hl
 have HW:Hid (w1=(w.alloc (.cells #[.slice ao h.ks.length cap,.int .i64 h.kd,.int .i64 h.ho,.int .i64 h.tu] 28)).alloc (.cells #[.slice none 0 0,.int .i64 0,.int .i64 0,.int .i64 0] 28)):=hw1
 clear hw1 hr hl h1
 unfold HV
 conv in hdA (.slice ao h.ks.length cap) h=>unfold hdA
 go_enter Tryz.func80,Tryz.ntmps80
 go_wp2_with fail
 rw[←HW.out]
 clear HW
 refine c1.mono ?_
 rintro e w2 ⟨u,rfl,o2,b2⟩
 have D2:Bx w w2 (.slice ao h.ks.length cap) h:=HB.out.next b2
 obtain⟨ab,cb,rfl⟩:=reads_form o2.reads
 have k0:w2.cell? ⟨w.heap.size,0,none⟩=some (.slice ao h.ks.length cap):=D2.1.cell 0 rfl
 have f0:=D2.1.frozen 0
 have G:=grownSet w2 w.heap.size 0 (.slice ab h.ks.length cb)
 have zq:StB (w2.setCell ⟨w.heap.size,0,none⟩ (.slice ab h.ks.length cb)) w.heap.size 28 (hdA (.slice ab h.ks.length cb) h):=D2.1.put 0 _ rfl
 have zz:StB (w2.setCell ⟨w.heap.size,0,none⟩ (.slice ab h.ks.length cb)) (w.heap.size+1) 28 #[.slice none 0 0,.int .i64 0,.int .i64 0,.int .i64 0]:=D2.2.1.kept G (by intro e;have:=Option.some.inj e;omega)
 have HF:Hid (Own (w2.setCell ⟨w.heap.size,0,none⟩ (.slice ab h.ks.length cb)) w1.heap.size (.slice ab h.ks.length cb) h.ks∧Below w.heap.size w (w2.setCell ⟨w.heap.size,0,none⟩ (.slice ab h.ks.length cb))∧w.heap.size+2≤w1.heap.size):=by
  refine⟨o2.keptLt G (by have:=HB.out.2.2.2.1;omega),D2.2.2.1.setCell (Nat.le_refl _) _,HB.out.2.2.2.1⟩
 clear D2 G o2 b2 HB c1
 go_wp2_with (first|(refine wpList_getS Tryz.isH rfl _ rfl w.heap.size rfl (hdA (.slice ab h.ks.length cb) h) rfl zq ?_)|(refine wpList_putS Tryz.isH rfl _ _ rfl (w.heap.size+1) (hdA (.slice ab h.ks.length cb) h) #[.slice none 0 0,.int .i64 0,.int .i64 0,.int .i64 0] rfl rfl rfl rfl (hdA_one _ rfl) zz ?_;intro we se ge))
 refine bodyPost_ret (results_S Tryz.isH rfl _ _ (w.heap.size+1) _ rfl rfl se) rfl ?_
 exact⟨_,rfl,(HF.out.1.keptLt ge (by have:=HF.out.2.2;omega)).mono (by have:=HF.out.2.2;omega),HF.out.2.1.grown ge HF.out.2.1.size (fun x e=>by cases e;omega)⟩
theorem istoreok_any (u v q:Value) (xs ys:List Int) (h:Hd) (w:World) (hu:Reads w u xs) (hv:Reads w v ys) (hq:Reads w q h.ks) (gx:xs.length≤1099511627776) (gy:ys.length≤1099511627776) (gk:h.ks.length≤1099511627776):
  Calls Tryz.prog 12 #[SRV u v q h] w fun e w'=>e=.returned (.bool (Sr.ok ⟨xs,ys,h⟩))∧Below w.heap.size w w':=by
 have B1:Hid (Below w.heap.size w (w.alloc (.cells (srA u v q h) 30))):=(Below.refl _ _).alloc (Nat.le_refl _) _
 have P1:Hid (StB (w.alloc (.cells (srA u v q h) 30)) w.heap.size 30 (srA u v q h)):=StB.new _ _ _
 have c1:=diskOk_any u v xs ys _ (hu.below B1.out (Nat.le_refl _)) (hv.below B1.out (Nat.le_refl _)) gx gy
 have c2:Hid (∀wx,Below w.heap.size w wx→Calls Tryz.prog 42 #[HV q h] wx fun e w'=>e=.returned (.bool h.ok)∧Below wx.heap.size wx w'):=fun wx b=>iholdok_any q h wx (hq.below b (Nat.le_refl _)) gk
 have HE:Hid (Sr.ok ⟨xs,ys,h⟩=(bothOk xs ys&&h.ok)):=rfl
 obtain⟨r,hr⟩:∃r,r=Sr.ok ⟨xs,ys,h⟩:=⟨_,rfl⟩
 rw[←hr]at HE⊢
 obtain⟨b,hb⟩:∃b,b=bothOk xs ys:=⟨_,rfl⟩
 obtain⟨o,ho⟩:∃o,o=h.ok:=⟨_,rfl⟩
 rw[←hb,←ho]at HE
 rw[←hb]at c1
 rw[←ho]at c2
 obtain⟨uo,uc,rfl⟩:=reads_form hu
 obtain⟨vo,vc,rfl⟩:=reads_form hv
 obtain⟨qo,qc,rfl⟩:=reads_form hq
 clear hu hv hq gx gy gk hr hb ho
 unfold SRV srA at*
 unfold HV hdA at c2
 go_enter Tryz.func12,Tryz.ntmps12
 go_wp2_with fail
 refine c1.mono ?_
 rintro e w2 ⟨rfl,b2⟩
 have B2:Hid (Below w.heap.size w w2):=B1.out.trans (b2.mono B1.out.size)
 have P2:=P1.out.below b2
 have k2:=P2.cell 2 rfl
 have k3:=P2.cell 3 rfl
 have k4:=P2.cell 4 rfl
 have k5:=P2.cell 5 rfl
 clear b2 c1 B1 P1 P2
 cases b with
 |false=>
  go_wp2
  go_ret
  exact⟨ret_bool (by rw[HE.out];rfl),B2.out⟩
 |true=>
  go_wp2_with fail
  refine(c2.out _ B2.out).mono ?_
  rintro e w3 ⟨rfl,b3⟩
  have B3:Hid (Below w.heap.size w w3):=B2.out.trans (b3.mono B2.out.size)
  clear b3 k2 k3 k4 k5 c2
  go_wp2
  go_ret
  exact⟨ret_bool (by rw[HE.out];simp),B3.out⟩
end Go.Proofs.YtpdggofaobmnlaaGreatDoor
