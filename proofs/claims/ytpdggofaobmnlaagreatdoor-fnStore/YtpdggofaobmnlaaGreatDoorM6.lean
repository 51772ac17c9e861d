import Derived.Test.YtpdggofaobmnlaaGreatDoorM5
import Derived.BigRegion
import Derived.Deep.RegionHeld3
import Derived.Test.YtpdggofaobmnlaaGreatDoorM2
import Derived.Deep.DeepCutAuto
/- Holdings by the model: l8Who, l8Any, HoldingOk, l8Registered, Registered, l8Holds, Holds, l8May, May, NewHolding. -/
set_option maxRecDepth 20000
set_option maxHeartbeats 2000000
namespace Go.Proofs.YtpdggofaobmnlaaGreatDoor
open Go.ChangeShapes Go.WideShapes Go.ChangeAt Go.RowKit
def hdA (v:Value) (h:Hd):Array Value:=#[v,.int .i64 h.kd,.int .i64 h.ho,.int .i64 h.tu]
def HV (v:Value) (h:Hd):Value:=.agg (hdA v h)
theorem Tryz.isH:IsS 28 4:=⟨⟨_,Tryz.underlying28⟩,by kernel_rfl⟩
def HdB (w:World) (g:Nat) (t:TypeId) (v:Value) (h:Hd):Prop:=StB w g t (hdA v h)∧Reads w v h.ks
theorem HdB.new {w:World} {v:Value} {h:Hd} (t:TypeId) (hr:Reads w v h.ks):HdB (w.alloc (.cells (hdA v h) t)) w.heap.size t v h:=
 ⟨StB.new w t _,hr.below ((Below.refl _ _).alloc (Nat.le_refl _) _) (Nat.le_refl _)⟩
theorem HdB.below {w w':World} {g:Nat} {t:TypeId} {v:Value} {h:Hd} (k:HdB w g t v h) (hb:Below w.heap.size w w'):HdB w' g t v h:=⟨k.1.below hb,k.2.below hb (Nat.le_refl _)⟩
theorem HdB.alloc {w:World} {g:Nat} {t:TypeId} {v:Value} {h:Hd} (k:HdB w g t v h) (o:Obj):HdB (w.alloc o) g t v h:=k.below ((Below.refl _ _).alloc (Nat.le_refl _) _)
theorem HdB.drewN {w:World} {g:Nat} {t:TypeId} {v:Value} {h:Hd} (k:HdB w g t v h) (n:Nat):HdB (w.drewN n) g t v h:=k.below (below_drewN (Below.refl _ _) n)
theorem swho_any (k:Int) (w:World):
  Calls Tryz.prog 38 #[.int .i64 k] w fun e w'=>e=.returned (.bool (inI k 0 3))∧w'=w:=by
 have c1:=sin6_any k 0 3 w
 go_enter Tryz.func38,Tryz.ntmps38
 go_wp2_with fail
 refine c1.mono ?_
 rintro e w' ⟨rfl,hw⟩;subst w'
 clear c1
 go_wp2_with fail
 go_ret
 exact⟨rfl,rfl⟩
theorem s8any_any (v:Value) (h:Hd) (w:World) (hr:Reads w v h.ks) (hl:h.ks.length≤1099511627776):
  Calls Tryz.prog 94 #[HV v h] w fun e w'=>e=.returned (.bool (anyI h.ks))∧Below w.heap.size w w':=by
 obtain⟨ao,cap,rfl⟩:=reads_form hr
 obtain⟨w1,hw1⟩:∃w1,w1=w.alloc (.cells (hdA (.slice ao h.ks.length cap) h) 28):=⟨_,rfl⟩
 have H1:HdB w1 w.heap.size 28 (.slice ao h.ks.length cap) h:=by rw[hw1];exact HdB.new _ hr
 have HB:Hid (Below w.heap.size w w1):=by rw[hw1];exact(Below.refl _ _).alloc (Nat.le_refl _) _
 have HW:Hid (w1=w.alloc (.cells #[.slice ao h.ks.length cap,.int .i64 h.kd,.int .i64 h.ho,.int .i64 h.tu] 28)):=hw1
 have k0:w1.cell? ⟨w.heap.size,0,none⟩=some (.slice ao h.ks.length cap):=H1.1.cell 0 rfl
 obtain⟨-,hc1,hc2,hcell⟩:=reads_cells H1.2
 obtain⟨n,hn⟩:∃n,n=h.ks.length:=⟨_,rfl⟩
 rw[←hn]at hl k0 hc1 hcell HW
 unfold HV hdA
 rw[←hn]
 have HN:Hid (n=h.ks.length):=hn
 unfold maxLen at hc2
 clear hw1 H1 hr hn
 go_enter Tryz.func94,Tryz.ntmps94
 go_wp2
 rw[←HW.out]
 go_loop [3] (fun i=>∃j:Nat,j≤n∧i=.int .i64 j∧Hid (anyI (h.ks.take j)=false)) (fun i=>n-(intOf i).toNat)
 case atStart=>exact⟨0,Nat.zero_le _,rfl,by simp[Hid,anyI]⟩
 case round=>
  obtain⟨j,hj,rfl,HT⟩:=hrel
  by_cases hlt:(j:Int)<(n:Int)
  ·obtain⟨b,off,rfl,hcj⟩:=hcell j (by omega)
   clear hcell
   have hjl:j<h.ks.length:=by have:=HN.out;omega
   have HA:Hid (h.ks.getD j 0≠0→anyI h.ks=true):=any_at h.ks j hjl
   have HZ:Hid (h.ks.getD j 0=0→anyI (h.ks.take (j+1))=false):=any_take h.ks j hjl HT.out
   obtain⟨x,hx⟩:∃x,x=h.ks.getD j 0:=⟨_,rfl⟩
   rw[←hx]at hcj HA HZ
   clear hx hjl
   by_cases h0:x=0
   ·go_wp2
    go_round
    case rel=>exact⟨j+1,by omega,by go_num,HZ.out h0⟩
    case measure=>simp[intOf];omega
   ·have hne:(x !=0)=true:=by simpa using h0
    go_wp2
    go_ret
    rw[HA.out h0]
    exact⟨rfl,HB.out⟩
  ·have HE:Hid (anyI h.ks=false):=by
    have:=HT.out
    rwa[List.take_of_length_le (by have:=HN.out;omega)]at this
   go_wp2
   go_ret
   rw[HE.out]
   exact⟨rfl,HB.out⟩
theorem sholdok_any (v:Value) (h:Hd) (w:World) (hr:Reads w v h.ks) (hl:h.ks.length≤1099511627776):
  Calls Tryz.prog 44 #[HV v h] w fun e w'=>e=.returned (.bool h.ok)∧Below w.heap.size w w':=by
 have HE:Hid (h.ok=(decide (h.ks.length=4)&&inI h.tu 0 1000000000&&keysI h.ks&&h.mid)):=rfl
 have HM:Hid (h.mid=if h.kd=0 then decide (h.ho= -1)else if allI h.kd then decide (h.ho= -1)&&anyI h.ks else kiI h.kd&&inI h.ho 0 3&&regI h.ks h.ho):=rfl
 obtain⟨ao,cap,rfl⟩:=reads_form hr
 obtain⟨w1,hw1⟩:∃w1,w1=w.alloc (.cells (hdA (.slice ao h.ks.length cap) h) 28):=⟨_,rfl⟩
 have H1:HdB w1 w.heap.size 28 (.slice ao h.ks.length cap) h:=by rw[hw1];exact HdB.new _ hr
 have HB:Hid (Below w.heap.size w w1):=by rw[hw1];exact(Below.refl _ _).alloc (Nat.le_refl _) _
 have HW:Hid (w1=w.alloc (.cells #[.slice ao h.ks.length cap,.int .i64 h.kd,.int .i64 h.ho,.int .i64 h.tu] 28)):=hw1
 have k0:w1.cell? ⟨w.heap.size,0,none⟩=some (.slice ao h.ks.length cap):=H1.1.cell 0 rfl
 have k1:w1.cell? ⟨w.heap.size,1,none⟩=some (.int .i64 h.kd):=H1.1.cell 1 rfl
 have k2:w1.cell? ⟨w.heap.size,2,none⟩=some (.int .i64 h.ho):=H1.1.cell 2 rfl
 have k3:w1.cell? ⟨w.heap.size,3,none⟩=some (.int .i64 h.tu):=H1.1.cell 3 rfl
 obtain⟨-,hc1,hc2,hcell⟩:=reads_cells H1.2
 have ct:=fun wx=>sin6_any h.tu 0 1000000000 wx
 have ck:=fun x wx=>s6key_any x wx
 have cf:=fun wx=>sall_any h.kd wx
 have ca:=fun wx=>s8any_any (.slice ao h.ks.length cap) h wx
 have ci:=fun wx=>skind_any h.kd wx
 have cw:=fun wx=>swho_any h.ho wx
 have HR:Hid (Reads w1 (.slice ao h.ks.length cap) h.ks):=H1.2
 have HREG:Hid (regI h.ks h.ho=decide (h.ks.getD h.ho.toNat 0≠0)):=rfl
 obtain⟨bt,hbt⟩:∃bt,bt=inI h.tu 0 1000000000:=⟨_,rfl⟩
 obtain⟨bf,hbf⟩:∃bf,bf=allI h.kd:=⟨_,rfl⟩
 obtain⟨bi,hbi⟩:∃bi,bi=kiI h.kd:=⟨_,rfl⟩
 obtain⟨bw,hbw⟩:∃bw,bw=inI h.ho 0 3:=⟨_,rfl⟩
 have HWR:Hid (bw=true→0≤h.ho∧h.ho≤3):=fun e=>(inI_iff _ _ _).1 (by rw[←hbw,e])
 rw[←hbt]at HE
 rw[←hbf,←hbi,←hbw]at HM
 simp only[←hbt]at ct
 simp only[←hbf]at cf
 simp only[←hbi]at ci
 simp only[←hbw]at cw
 obtain⟨x,hx⟩:∃x,x=h.ok:=⟨_,rfl⟩
 rw[←hx]at HE⊢
 obtain⟨n,hn⟩:∃n,n=h.ks.length:=⟨_,rfl⟩
 rw[←hn]at hl k0 hc1 hcell HW HE HR
 simp only[←hn]at ca
 unfold HV hdA at ca
 unfold HV hdA
 rw[←hn]
 have Hca:Hid _:=ca
 have HN:Hid (n=h.ks.length):=hn
 unfold maxLen at hc2
 clear hw1 H1 hr hn hx hbt hbf hbi hbw ca
 by_cases hn4:(n:Int)=4
 case neg=>
  have HX:Hid (x=false):=by rw[Hid,HE.out,show decide (n=4)=false by simp;omega];rfl
  have hne:((n:Int) !=4)=true:=by simpa using hn4
  clear hcell
  go_enter Tryz.func44,Tryz.ntmps44
  go_wp2
  rw[←HW.out]
  go_ret
  rw[HX.out]
  exact⟨rfl,HB.out⟩
 obtain rfl:n=4:=by omega
 cases bt with
 |false=>
  have HX:Hid (x=false):=by rw[Hid,HE.out];rfl
  clear hcell
  go_enter Tryz.func44,Tryz.ntmps44
  go_wp2_with fail
  rw[←HW.out]
  refine(ct _).mono ?_
  rintro e w' ⟨rfl,hw⟩;subst w'
  go_wp2
  go_ret
  rw[HX.out]
  exact⟨rfl,HB.out⟩
 |true=>
  have HY:Hid (x=(keysI h.ks&&h.mid)):=by rw[Hid,HE.out];simp
  clear HE
  go_enter Tryz.func44,Tryz.ntmps44
  go_wp2_with fail
  rw[←HW.out]
  refine(ct _).mono ?_
  rintro e w' ⟨rfl,hw⟩;subst w'
  clear ct HW
  go_wp2
  go_loop [3] (fun i=>∃j:Nat,(j:Int)≤4∧i=.int .i64 j∧Hid (keysI (h.ks.take j)=true)) (fun i=>4-(intOf i).toNat)
  case atStart=>exact⟨0,by omega,rfl,by simp[Hid,keysI]⟩
  case round=>
   obtain⟨j,hj,rfl,HT⟩:=hrel
   by_cases hlt:(j:Int)<4
   ·obtain⟨b,off,rfl,hcj⟩:=hcell j (by omega)
    clear hcell
    have hjl:j<h.ks.length:=by have:=HN.out;omega
    have HA:Hid (inI (h.ks.getD j 0) 0 9999=false→keysI h.ks=false):=keys_not h.ks j hjl
    have HZ:Hid (inI (h.ks.getD j 0) 0 9999=true→keysI (h.ks.take (j+1))=true):=keys_take h.ks j hjl HT.out
    have ckj:=fun wx=>ck (h.ks.getD j 0) wx
    obtain⟨y,hy⟩:∃y,y=h.ks.getD j 0:=⟨_,rfl⟩
    rw[←hy]at hcj HA HZ
    simp only[←hy]at ckj
    obtain⟨by1,hby⟩:∃by1,by1=inI y 0 9999:=⟨_,rfl⟩
    rw[←hby]at HA HZ
    simp only[←hby]at ckj
    clear hy hjl hby ck
    go_wp2_with fail
    refine(ckj _).mono ?_
    rintro e w' ⟨rfl,hw⟩;subst w'
    cases by1 with
    |true=>
     have HZ2:Hid (keysI (h.ks.take (j+1))=true):=HZ.out rfl
     clear HZ HA
     go_wp2
     go_round
     case rel=>exact⟨j+1,by omega,by go_num,HZ2.out⟩
     case measure=>simp[intOf];omega
    |false=>
     have HX:Hid (x=false):=by rw[Hid,HY.out,HA.out rfl];rfl
     clear HZ HA
     go_wp2
     go_ret
     rw[HX.out]
     exact⟨rfl,HB.out⟩
   ·have HK:Hid (x=h.mid):=by
     have:=HT.out
     rw[List.take_of_length_le (by have:=HN.out;omega)]at this
     rw[Hid,HY.out,this];rfl
    clear HY HT ck
    by_cases hk0:h.kd=0
    ·have HX:Hid (x=decide (h.ho= -1)):=by rw[Hid,HK.out,HM.out,if_pos hk0]
     clear HK HM Hca cf ci cw hcell
     by_cases hm1:h.ho= -1
     ·go_wp2
      go_ret
      exact⟨ret_bool (by rw[HX.out];simp[hm1]),HB.out⟩
     ·go_wp2
      go_ret
      exact⟨ret_bool (by rw[HX.out];simp[hm1]),HB.out⟩
    ·cases bf with
     |true=>
      have HX:Hid (x=(decide (h.ho= -1)&&anyI h.ks)):=by rw[Hid,HK.out,HM.out,if_neg hk0,if_pos rfl]
      clear HK HM ci cw hcell
      go_wp2_with fail
      refine(cf _).mono ?_
      rintro e w' ⟨rfl,hw⟩;subst w'
      clear cf
      by_cases hm1:h.ho= -1
      ·have HX2:Hid (x=anyI h.ks):=by rw[Hid,HX.out];simp[hm1]
       have ca:=Hca.out w1 HR.out (by have:=HN.out;omega)
       rw[hm1]at ca
       clear HX Hca
       go_wp2_with fail
       refine ca.mono ?_
       rintro e w2 ⟨rfl,b2⟩
       go_wp2
       go_ret
       rw[HX2.out]
       exact⟨rfl,HB.out.trans (b2.mono HB.out.size)⟩
      ·have HX2:Hid (x=false):=by rw[Hid,HX.out];simp[hm1]
       clear HX Hca
       go_wp2
       go_ret
       exact⟨ret_bool (by rw[HX2.out]),HB.out⟩
     |false=>
      have HX:Hid (x=(bi&&bw&&regI h.ks h.ho)):=by rw[Hid,HK.out,HM.out,if_neg hk0,if_neg (by decide)]
      clear HK HM Hca
      go_wp2_with fail
      refine(cf _).mono ?_
      rintro e w' ⟨rfl,hw⟩;subst w'
      clear cf
      go_wp2_with fail
      refine(ci _).mono ?_
      rintro e w' ⟨rfl,hw⟩;subst w'
      clear ci
      cases bi with
      |false=>
       go_wp2
       go_ret
       exact⟨ret_bool (by rw[HX.out];rfl),HB.out⟩
      |true=>
       go_wp2_with fail
       refine(cw _).mono ?_
       rintro e w' ⟨rfl,hw⟩;subst w'
       clear cw
       cases bw with
       |false=>
        go_wp2
        go_ret
        exact⟨ret_bool (by rw[HX.out];rfl),HB.out⟩
       |true=>
        obtain⟨hw0,hw3⟩:=HWR.out rfl
        obtain⟨b,off,rfl,hcj⟩:=hcell h.ho.toNat (by omega)
        have HX2:Hid (x=decide (h.ks.getD h.ho.toNat 0≠0)):=by rw[Hid,HX.out,HREG.out];rfl
        obtain⟨y,hy⟩:∃y,y=h.ks.getD h.ho.toNat 0:=⟨_,rfl⟩
        rw[←hy]at hcj HX2
        clear hcell hy HX HREG
        have hoc:((h.ho.toNat:Nat):Int)=h.ho:=by omega
        by_cases hy0:y=0
        ·go_wp2
         go_ret
         exact⟨ret_bool (by rw[HX2.out];simp[hy0]),HB.out⟩
        ·have hyn:(y !=0)=true:=by simpa using hy0
         go_wp2
         go_ret
         exact⟨ret_bool (by rw[HX2.out];simp[hy0]),HB.out⟩
end Go.Proofs.YtpdggofaobmnlaaGreatDoor
namespace Go.Proofs.YtpdggofaobmnlaaGreatDoor
open Go.ChangeShapes Go.WideShapes Go.ChangeAt Go.RowKit
theorem Tryz.isLH:IsS 50 4:=⟨⟨_,Tryz.underlying50⟩,by kernel_rfl⟩
theorem hdA_one {v:Value} (h:Hd) (hv:v.oneCell'=true):(hdA v h).all (·.oneCell')=true:=by
 unfold hdA
 simp[hv,show∀k n,(Value.int k n).oneCell'=true from fun _ _=>rfl]
theorem szHolding_any (v:Value) (h:Hd) (k:Int) (w:World) (hr:Reads w v h.ks) (h0:0≤k) (h1:k≤1048576):
  Calls Tryz.prog 54 #[HV v h,.int .i64 k] w fun e w'=>e=.returned (.int .i64 (szI k h.ks.length))∧Below w.heap.size w w':=by
 have B1:Below w.heap.size w (w.alloc (.cells (hdA v h) 50)):=(Below.refl _ _).alloc (Nat.le_refl _) _
 have c1:=sz_any v h.ks k _ (hr.below B1 (Nat.le_refl _)) h0 h1
 have hs:szI k h.ks.length= -1∨0≤szI k h.ks.length:=by unfold szI;split<;>omega
 obtain⟨x,hx⟩:∃x,x=szI k h.ks.length:=⟨_,rfl⟩
 rw[←hx]at c1 hs⊢
 obtain⟨ao,cap,rfl⟩:=reads_form hr
 clear hx hr
 unfold HV hdA at*
 rcases hs with hs|hs
 ·subst hs
  go_enter Tryz.func54,Tryz.ntmps54
  go_wp2_with fail
  refine c1.mono ?_
  rintro e w' ⟨rfl,hw⟩;subst w'
  go_wp2
  go_ret
  exact⟨rfl,B1⟩
 ·go_enter Tryz.func54,Tryz.ntmps54
  go_wp2_with fail
  refine c1.mono ?_
  rintro e w' ⟨rfl,hw⟩;subst w'
  go_wp2
  go_ret
  exact⟨rfl,B1⟩
theorem toHolding_any (v:Value) (h:Hd) (w:World) (hr:Reads w v h.ks) (hl:h.ks.length≤1099511627776):
  Calls Tryz.prog 56 #[HV v h] w fun e w'=>∃u,e=.returned (HV u h)∧Own w' w.heap.size u h.ks∧Below w.heap.size w w':=by
 obtain⟨w1,hw1⟩:∃w1,w1=((w.alloc (.cells (hdA v h) 50)).alloc (.cells #[.slice none 0 0,.int .i64 0,.int .i64 0,.int .i64 0] 28)).alloc (.cells #[.slice none 0 0,.int .i64 0,.int .i64 0,.int .i64 0] 28):=⟨_,rfl⟩
 have hsz:w1.heap.size=w.heap.size+3:=by rw[hw1];simp
 have p0:StB w1 w.heap.size 50 (hdA v h):=by rw[hw1];exact((StB.new w _ _).alloc _).alloc _
 have q0:StB w1 (w.heap.size+1) 28 #[.slice none 0 0,.int .i64 0,.int .i64 0,.int .i64 0]:=by
  rw[hw1]
  have:=(StB.new (w.alloc (.cells (hdA v h) 50)) 28 #[.slice none 0 0,.int .i64 0,.int .i64 0,.int .i64 0]).alloc (.cells #[.slice none 0 0,.int .i64 0,.int .i64 0,.int .i64 0] 28)
  rwa[World.size_alloc]at this
 have r0:StB w1 (w.heap.size+1+1) 28 #[.slice none 0 0,.int .i64 0,.int .i64 0,.int .i64 0]:=by
  rw[hw1]
  have:=StB.new ((w.alloc (.cells (hdA v h) 50)).alloc (.cells #[.slice none 0 0,.int .i64 0,.int .i64 0,.int .i64 0] 28)) 28 #[.slice none 0 0,.int .i64 0,.int .i64 0,.int .i64 0]
  rwa[World.size_alloc,World.size_alloc]at this
 have b1:Below w.heap.size w w1:=by rw[hw1];exact(((Below.refl _ _).alloc (Nat.le_refl _) _).alloc (by simp) _).alloc (by simp;omega) _
 have c1:=to_any v h.ks w1 (hr.below b1 (Nat.le_refl _)) hl
 obtain⟨ao,cap,rfl⟩:=reads_form hr
 have HW:Hid (w1=((w.alloc (.cells #[.slice ao h.ks.length cap,.int .i64 h.kd,.int .i64 h.ho,.int .i64 h.tu] 50)).alloc (.cells #[.slice none 0 0,.int .i64 0,.int .i64 0,.int .i64 0] 28)).alloc (.cells #[.slice none 0 0,.int .i64 0,.int .i64 0,.int .i64 0] 28)):=hw1
 have hs1:w.heap.size+1+1<w1.heap.size:=by omega
 clear hw1 hr hl hsz
 unfold HV
 unfold hdA at p0
 conv in hdA=>unfold hdA
 go_enter Tryz.func56,Tryz.ntmps56
 go_wp2_with fail
 rw[←HW.out]
 clear HW
 refine c1.mono ?_
 rintro e w3 ⟨u,rfl,o3,b3⟩
 replace p0:=p0.below b3
 replace q0:=q0.below b3
 replace r0:=r0.below b3
 have hs3:=b3.size
 have B3:=b1.trans (b3.mono b1.size)
 obtain⟨ab,cb,rfl⟩:=reads_form o3.reads
 have k1:w3.cell? ⟨w.heap.size,1,none⟩=some (.int .i64 h.kd):=p0.cell 1 rfl
 have k2:w3.cell? ⟨w.heap.size,2,none⟩=some (.int .i64 h.ho):=p0.cell 2 rfl
 have k3:w3.cell? ⟨w.heap.size,3,none⟩=some (.int .i64 h.tu):=p0.cell 3 rfl
 have m0:w3.cell? ⟨w.heap.size+1+1,0,none⟩=some (.slice none 0 0):=r0.cell 0 rfl
 have m1:w3.cell? ⟨w.heap.size+1+1,1,none⟩=some (.int .i64 0):=r0.cell 1 rfl
 have m2:w3.cell? ⟨w.heap.size+1+1,2,none⟩=some (.int .i64 0):=r0.cell 2 rfl
 have m3:w3.cell? ⟨w.heap.size+1+1,3,none⟩=some (.int .i64 0):=r0.cell 3 rfl
 have f0:=r0.frozen 0
 have f1:=r0.frozen 1
 have f2:=r0.frozen 2
 have f3:=r0.frozen 3
 have HP:Hid (StB w3 (w.heap.size+1) 28 #[.slice none 0 0,.int .i64 0,.int .i64 0,.int .i64 0]∧StB w3 (w.heap.size+1+1) 28 #[.slice none 0 0,.int .i64 0,.int .i64 0,.int .i64 0]∧Own w3 w1.heap.size (.slice ab h.ks.length cb) h.ks∧Below w.heap.size w w3):=⟨q0,r0,o3,B3⟩
 clear p0 q0 r0 o3 b3 b1 c1 B3
 have hn1:w.heap.size≠w.heap.size+1:=by omega
 have hn2:w.heap.size≠w.heap.size+1+1:=by omega
 have hn3:w.heap.size+1≠w.heap.size+1+1:=by omega
 have hg0:w.heap.size≤w.heap.size+1∧w.heap.size≤w.heap.size+1+1∧w.heap.size+1<w1.heap.size∧w.heap.size≤w1.heap.size:=by omega
 have hlt2:w.heap.size+1+1<w3.heap.size:=HP.out.2.1.lt
 have hlt0:w.heap.size<w3.heap.size:=by omega
 obtain⟨g2,hg2⟩:∃g2,g2=w.heap.size+1+1:=⟨_,rfl⟩
 rw[←hg2]at hn2 hn3 hg0 m0 m1 m2 m3 f0 f1 f2 f3 HP hs1 hlt2⊢
 clear hg2
 obtain⟨g1,hg1⟩:∃g1,g1=w.heap.size+1:=⟨_,rfl⟩
 rw[←hg1]at hn1 hn3 hg0 HP⊢
 clear hg1
 have Q4:StB ((((w3.setCell ⟨g2,0,none⟩ (.slice ab h.ks.length cb)).setCell ⟨g2,1,none⟩ (.int .i64 h.kd)).setCell ⟨g2,2,none⟩ (.int .i64 h.ho)).setCell ⟨g2,3,none⟩ (.int .i64 h.tu)) g2 28 (hdA (.slice ab h.ks.length cb) h):=(((HP.out.2.1.put 0 _ rfl).put 1 _ rfl).put 2 _ rfl).put 3 _ rfl
 have R4:StB ((((w3.setCell ⟨g2,0,none⟩ (.slice ab h.ks.length cb)).setCell ⟨g2,1,none⟩ (.int .i64 h.kd)).setCell ⟨g2,2,none⟩ (.int .i64 h.ho)).setCell ⟨g2,3,none⟩ (.int .i64 h.tu)) g1 28 #[.slice none 0 0,.int .i64 0,.int .i64 0,.int .i64 0]:=(((HP.out.1.other _ _ hn3).other _ _ hn3).other _ _ hn3).other _ _ hn3
 have O4:Hid (Own ((((w3.setCell ⟨g2,0,none⟩ (.slice ab h.ks.length cb)).setCell ⟨g2,1,none⟩ (.int .i64 h.kd)).setCell ⟨g2,2,none⟩ (.int .i64 h.ho)).setCell ⟨g2,3,none⟩ (.int .i64 h.tu)) w1.heap.size (.slice ab h.ks.length cb) h.ks∧Below w.heap.size w ((((w3.setCell ⟨g2,0,none⟩ (.slice ab h.ks.length cb)).setCell ⟨g2,1,none⟩ (.int .i64 h.kd)).setCell ⟨g2,2,none⟩ (.int .i64 h.ho)).setCell ⟨g2,3,none⟩ (.int .i64 h.tu))):=⟨(((HP.out.2.2.1.setLt hs1 0 _).setLt hs1 1 _).setLt hs1 2 _).setLt hs1 3 _,(((HP.out.2.2.2.setCell (show w.heap.size≤g2 from hg0.2.1) _).setCell (show w.heap.size≤g2 from hg0.2.1) _).setCell (show w.heap.size≤g2 from hg0.2.1) _).setCell (show w.heap.size≤g2 from hg0.2.1) _⟩
 clear HP
 go_upto_region 6 with fail
 obtain⟨w4,hw4⟩:∃w4,w4=((((w3.setCell ⟨g2,0,none⟩ (.slice ab h.ks.length cb)).setCell ⟨g2,1,none⟩ (.int .i64 h.kd)).setCell ⟨g2,2,none⟩ (.int .i64 h.ho)).setCell ⟨g2,3,none⟩ (.int .i64 h.tu)):=⟨_,rfl⟩
 rw[←hw4]at Q4 R4 O4⊢
 clear hw4 k1 k2 k3 m0 m1 m2 m3 f0 f1 f2 f3
 go_wp2_with (first|(refine wpList_getS Tryz.isH rfl _ rfl g2 rfl (hdA (.slice ab h.ks.length cb) h) rfl Q4 ?_)|(refine wpList_putS Tryz.isH rfl _ _ rfl g1 (hdA (.slice ab h.ks.length cb) h) #[.slice none 0 0,.int .i64 0,.int .i64 0,.int .i64 0] rfl rfl rfl rfl (hdA_one h rfl) R4 ?_;intro w8 s8 g8))
 refine bodyPost_ret (results_S Tryz.isH rfl _ _ g1 _ rfl rfl s8) rfl ?_
 exact⟨_,rfl,(O4.out.1.keptLt g8 (by omega)).mono (by omega),O4.out.2.grown g8 O4.out.2.size (fun k e=>by cases e;omega)⟩
theorem eqHolding_any (u v:Value) (h:Hd) (w:World) (hu:Reads w u h.ks) (hv:Reads w v h.ks) (hl:h.ks.length≤1099511627776):
  Calls Tryz.prog 58 #[HV u h,HV v h] w fun e w'=>e=.returned (.bool true)∧Below w.heap.size w w':=by
 obtain⟨w1,hw1⟩:∃w1,w1=(w.alloc (.cells (hdA u h) 28)).alloc (.cells (hdA v h) 28):=⟨_,rfl⟩
 have p0:StB w1 w.heap.size 28 (hdA u h):=by rw[hw1];exact(StB.new w _ _).alloc _
 have p1:StB w1 (w.heap.size+1) 28 (hdA v h):=by
  rw[hw1]
  have:=StB.new (w.alloc (.cells (hdA u h) 28)) 28 (hdA v h)
  rwa[World.size_alloc]at this
 have b1:Below w.heap.size w w1:=by rw[hw1];exact((Below.refl _ _).alloc (Nat.le_refl _) _).alloc (by simp) _
 have c1:=eq_any u v h.ks h.ks w1 (hu.below b1 (Nat.le_refl _)) (hv.below b1 (Nat.le_refl _)) hl
 rw[show decide (h.ks=h.ks)=true by simp]at c1
 obtain⟨ao,ca,rfl⟩:=reads_form hu
 obtain⟨bo,cb,rfl⟩:=reads_form hv
 have HW:Hid (w1=(w.alloc (.cells #[.slice ao h.ks.length ca,.int .i64 h.kd,.int .i64 h.ho,.int .i64 h.tu] 28)).alloc (.cells #[.slice bo h.ks.length cb,.int .i64 h.kd,.int .i64 h.ho,.int .i64 h.tu] 28)):=hw1
 clear hw1 hu hv hl
 unfold HV hdA
 go_enter Tryz.func58,Tryz.ntmps58
 go_wp2_with fail
 rw[←HW.out]
 clear HW
 refine c1.mono ?_
 rintro e w3 ⟨rfl,n3,hw3⟩
 replace p0:StB w3 w.heap.size 28 (hdA (.slice ao h.ks.length ca) h):=by rw[hw3];exact p0
 replace p1:StB w3 (w.heap.size+1) 28 (hdA (.slice bo h.ks.length cb) h):=by rw[hw3];exact p1
 have B3:Below w.heap.size w w3:=by rw[hw3];exact below_drewN b1 n3
 clear hw3 c1 b1
 have k1:w3.cell? ⟨w.heap.size,1,none⟩=some (.int .i64 h.kd):=p0.cell 1 rfl
 have k2:w3.cell? ⟨w.heap.size,2,none⟩=some (.int .i64 h.ho):=p0.cell 2 rfl
 have k3:w3.cell? ⟨w.heap.size,3,none⟩=some (.int .i64 h.tu):=p0.cell 3 rfl
 have m1:w3.cell? ⟨w.heap.size+1,1,none⟩=some (.int .i64 h.kd):=p1.cell 1 rfl
 have m2:w3.cell? ⟨w.heap.size+1,2,none⟩=some (.int .i64 h.ho):=p1.cell 2 rfl
 have m3:w3.cell? ⟨w.heap.size+1,3,none⟩=some (.int .i64 h.tu):=p1.cell 3 rfl
 clear p0 p1
 go_wp2
 go_ret
 exact⟨rfl,B3⟩
theorem markHolding_any (v:Value) (h:Hd) (k:Int) (w:World) (base:Nat) (ho:Own w base v h.ks) (hl:h.ks.length≤1048576) (h0:0≤k) (h1:k≤4194304):
  Calls Tryz.prog 60 #[HV v h,.int .i64 k] w fun e w'=>e=.returned (.int .i64 (k+h.ks.length))∧Own w' base v (marks k h.ks.length)∧w.grownBy w' v.ownBlock:=by
 have B1:Below w.heap.size w (w.alloc (.cells (hdA v h) 28)):=(Below.refl _ _).alloc (Nat.le_refl _) _
 have G1:w.grownBy (w.alloc (.cells (hdA v h) 28)) v.ownBlock:=World.grownBy_alloc w _ _
 have c1:=mark_any v h.ks k _ base (ho.below B1) (by omega) h0 (by omega)
 obtain⟨ao,cap,rfl⟩:=reads_form ho.reads
 have hl':(h.ks.length:Int)≤1048576:=by omega
 clear ho hl
 unfold HV hdA at*
 go_enter Tryz.func60,Tryz.ntmps60
 go_wp2_with fail
 refine c1.mono ?_
 rintro e w2 ⟨rfl,o2,g2⟩
 have HC:Hid (Own w2 base (.slice ao h.ks.length cap) (marks k h.ks.length)∧w.grownBy w2 (Value.slice ao h.ks.length cap).ownBlock):=⟨o2,G1.trans g2⟩
 clear o2 g2 G1 B1 c1
 go_wp2
 go_ret
 exact⟨rfl,HC.out⟩
theorem heldHolding_any (v:Value) (h:Hd) (n:Nat) (k:Int) (w:World) (hn:n=h.ks.length) (hr:Reads w v (marks k n)) (hl:n≤1048576) (h0:0≤k) (h1:k≤4194304):
  Calls Tryz.prog 62 #[HV v h,.int .i64 k] w fun e w'=>e=.returned (.int .i64 (k+n))∧Below w.heap.size w w':=by
 have B1:Below w.heap.size w (w.alloc (.cells (hdA v h) 28)):=(Below.refl _ _).alloc (Nat.le_refl _) _
 have c1:=held_marks v n k _ (hr.below B1 (Nat.le_refl _)) (by omega) h0 (by omega)
 obtain⟨ao,cap,rfl⟩:=reads_form hr
 have hl':(n:Int)≤1048576:=by omega
 clear hr hl hn
 unfold HV hdA at*
 go_enter Tryz.func62,Tryz.ntmps62
 go_wp2_with fail
 refine c1.mono ?_
 rintro e w' ⟨rfl,hw⟩;subst w'
 go_wp2
 go_ret
 exact⟨rfl,B1⟩
theorem snewH_any (w:World):
  Calls Tryz.prog 46 #[] w fun e w'=>∃u,e=.returned (HV u Hd.new)∧Own w' w.heap.size u Hd.new.ks∧Below w.heap.size w w':=by
 obtain⟨i0,hi,hz0,hz1,hz2⟩:=info_parts Tryz.infoI
 obtain⟨w1,hw1⟩:∃w1,w1=w.alloc (.cells #[.slice none 0 0,.int .i64 0,.int .i64 0,.int .i64 0] 28):=⟨_,rfl⟩
 have p0:StB w1 w.heap.size 28 #[.slice none 0 0,.int .i64 0,.int .i64 0,.int .i64 0]:=by rw[hw1];exact StB.new w _ _
 have b1:Below w.heap.size w w1:=by rw[hw1];exact(Below.refl _ _).alloc (Nat.le_refl _) _
 have hs1:w.heap.size<w1.heap.size:=p0.lt
 go_enter Tryz.func46,Tryz.ntmps46
 go_upto_region 1 with fail
 rw[←hw1]
 clear hw1
 go_wp2_with (first
  |(refine wpList_make_full _ rfl _ _ 24 rfl w1.heap.size 2 i0 (.int .i64 0) 1 Tryz.underlying24 hi hz0 hz1 _ _ _ _ 4 rfl rfl rfl rfl (by rw[hz2];omega) (by unfold maxLen;omega) (Nat.le_refl _) ?_;intro w2 hown hgr)
  |(refine wpList_putS Tryz.isH rfl _ _ rfl w.heap.size (hdA (.slice (some ⟨w1.heap.size,0,none⟩) 4 4) Hd.new) #[.slice none 0 0,.int .i64 0,.int .i64 0,.int .i64 0] rfl rfl rfl rfl (hdA_one _ rfl) (p0.kept hgr (by simp)) ?_;intro w3 s3 g3))
 refine bodyPost_ret (results_S Tryz.isH rfl _ _ w.heap.size _ rfl rfl s3) rfl ?_
 have e4:(madeCells (Value.int .i64 0).cells (4*1)).toList=([0,0,0,0]:List Int).map (Value.int .i64):=zeros_eq 4
 rw[e4]at hown
 have o2:Own w2 w1.heap.size (.slice (some ⟨w1.heap.size,0,none⟩) 4 4) [0,0,0,0]:=hown
 have b2:Below w.heap.size w w2:=b1.grown hgr b1.size (fun k e=>by cases e)
 exact⟨_,rfl,(o2.keptLt g3 hs1).mono b1.size,b2.grown g3 b2.size (fun k e=>by cases e;exact Nat.le_refl _)⟩
end Go.Proofs.YtpdggofaobmnlaaGreatDoor
