/- Holdings by the model: l8Who, l8Any, HoldingOk, l8Registered, Registered, l8Holds, Holds, l8May, May, NewHolding. -/
import Derived.Test.YthmnmaemnihkeaaGreatDoorM4
import Derived.Test.YthmnmaemnihkeaaGreatDoorM5
import Derived.BigRegion
import Derived.Deep.RegionHeld3
import Derived.Test.YthmnmaemnihkeaaGreatDoorM3
set_option maxRecDepth 20000
set_option maxHeartbeats 2000000
namespace Go.Proofs.YthmnmaemnihkeaaGreatDoor
open Go.ChangeShapes Go.WideShapes Go.ChangeAt Go.RowKit
def hdA (v:Value) (h:Hd):Array Value:=#[v,.int .i64 h.kd,.int .i64 h.ho,.int .i64 h.tu]
def HV (v:Value) (h:Hd):Value:=.agg (hdA v h)
theorem Tryz.isH:IsS 32 4:=⟨⟨_,Tryz.underlying32⟩,by kernel_rfl⟩
def HdB (w:World) (g:Nat) (t:TypeId) (v:Value) (h:Hd):Prop:=StB w g t (hdA v h)∧Reads w v h.ks
theorem HdB.new {w:World} {v:Value} {h:Hd} (t:TypeId) (hr:Reads w v h.ks):HdB (w.alloc (.cells (hdA v h) t)) w.heap.size t v h:=
 ⟨StB.new w t _,hr.below ((Below.refl _ _).alloc (Nat.le_refl _) _) (Nat.le_refl _)⟩
theorem HdB.below {w w':World} {g:Nat} {t:TypeId} {v:Value} {h:Hd} (k:HdB w g t v h) (hb:Below w.heap.size w w'):HdB w' g t v h:=⟨k.1.below hb,k.2.below hb (Nat.le_refl _)⟩
theorem HdB.alloc {w:World} {g:Nat} {t:TypeId} {v:Value} {h:Hd} (k:HdB w g t v h) (o:Obj):HdB (w.alloc o) g t v h:=k.below ((Below.refl _ _).alloc (Nat.le_refl _) _)
theorem swho_any (k:Int) (w:World):
  Calls Tryz.prog 74 #[.int .i64 k] w fun e w'=>e=.returned (.bool (inI k 0 3))∧w'=w:=by
 have c1:=sin6_any k 0 3 w
 go_enter Tryz.func74,Tryz.ntmps74
 go_wp2_with fail
 refine c1.mono ?_
 rintro e w' ⟨rfl,hw⟩;subst w'
 clear c1
 go_wp2_with fail
 go_ret
 exact⟨rfl,rfl⟩
theorem s8any_any (v:Value) (h:Hd) (w:World) (hr:Reads w v h.ks) (hl:h.ks.length≤1099511627776):
  Calls Tryz.prog 96 #[HV v h] w fun e w'=>e=.returned (.bool (anyI h.ks))∧Below w.heap.size w w':=by
 obtain⟨ao,cap,rfl⟩:=reads_form hr
 obtain⟨w1,hw1⟩:∃w1,w1=w.alloc (.cells (hdA (.slice ao h.ks.length cap) h) 32):=⟨_,rfl⟩
 have H1:HdB w1 w.heap.size 32 (.slice ao h.ks.length cap) h:=by rw[hw1];exact HdB.new _ hr
 have HB:Hid (Below w.heap.size w w1):=by rw[hw1];exact(Below.refl _ _).alloc (Nat.le_refl _) _
 have HW:Hid (w1=w.alloc (.cells #[.slice ao h.ks.length cap,.int .i64 h.kd,.int .i64 h.ho,.int .i64 h.tu] 32)):=hw1
 have k0:w1.cell? ⟨w.heap.size,0,none⟩=some (.slice ao h.ks.length cap):=H1.1.cell 0 rfl
 obtain⟨-,hc1,hc2,hcell⟩:=reads_cells H1.2
 obtain⟨n,hn⟩:∃n,n=h.ks.length:=⟨_,rfl⟩
 rw[←hn]at hl k0 hc1 hcell HW
 unfold HV hdA
 rw[←hn]
 have HN:Hid (n=h.ks.length):=hn
 unfold maxLen at hc2
 clear hw1 H1 hr hn
 go_enter Tryz.func96,Tryz.ntmps96
 go_wp2
 rw[←HW.out]
 go_loop [3] (fun i=>∃j:Nat,j≤n∧i=.int .i64 j∧Hid (anyI (h.ks.take j)=false)) (fun i=>n-(intOf i).toNat)
 case atStart=>exact⟨0,Nat.zero_le _,rfl,by simp[Hid,anyI]⟩
 case round=>
  obtain⟨j,hj,rfl,HT⟩:=hrel
  by_cases hlt:(j:Int)<(n:Int)
  ·obtain⟨b,off,rfl,hcj⟩:=hcell j (by omega)
   clear hcell
   have hjl:j<h.ks.length:=by have:=HN.out;omega
   have HA:Hid (h.ks.getD j 0≠0→anyI h.ks=true):=any_at h.ks j hjl
   have HZ:Hid (h.ks.getD j 0=0→anyI (h.ks.take (j+1))=false):=any_take h.ks j hjl HT.out
   obtain⟨x,hx⟩:∃x,x=h.ks.getD j 0:=⟨_,rfl⟩
   rw[←hx]at hcj HA HZ
   clear hx hjl
   by_cases h0:x=0
   ·go_wp2
    go_round
    case rel=>exact⟨j+1,by omega,by go_num,HZ.out h0⟩
    case measure=>simp[intOf];omega
   ·have hne:(x !=0)=true:=by simpa using h0
    go_wp2
    go_ret
    rw[HA.out h0]
    exact⟨rfl,HB.out⟩
  ·have HE:Hid (anyI h.ks=false):=by
    have:=HT.out
    rwa[List.take_of_length_le (by have:=HN.out;omega)]at this
   go_wp2
   go_ret
   rw[HE.out]
   exact⟨rfl,HB.out⟩
theorem sholdok_any (v:Value) (h:Hd) (w:World) (hr:Reads w v h.ks) (hl:h.ks.length≤1099511627776):
  Calls Tryz.prog 68 #[HV v h] w fun e w'=>e=.returned (.bool h.ok)∧Below w.heap.size w w':=by
 have HE:Hid (h.ok=(decide (h.ks.length=4)&&inI h.tu 0 1000000000&&keysI h.ks&&h.mid)):=rfl
 have HM:Hid (h.mid=if h.kd=0 then decide (h.ho= -1)else if allI h.kd then decide (h.ho= -1)&&anyI h.ks else kiI h.kd&&inI h.ho 0 3&&regI h.ks h.ho):=rfl
 obtain⟨ao,cap,rfl⟩:=reads_form hr
 obtain⟨w1,hw1⟩:∃w1,w1=w.alloc (.cells (hdA (.slice ao h.ks.length cap) h) 32):=⟨_,rfl⟩
 have H1:HdB w1 w.heap.size 32 (.slice ao h.ks.length cap) h:=by rw[hw1];exact HdB.new _ hr
 have HB:Hid (Below w.heap.size w w1):=by rw[hw1];exact(Below.refl _ _).alloc (Nat.le_refl _) _
 have HW:Hid (w1=w.alloc (.cells #[.slice ao h.ks.length cap,.int .i64 h.kd,.int .i64 h.ho,.int .i64 h.tu] 32)):=hw1
 have k0:w1.cell? ⟨w.heap.size,0,none⟩=some (.slice ao h.ks.length cap):=H1.1.cell 0 rfl
 have k1:w1.cell? ⟨w.heap.size,1,none⟩=some (.int .i64 h.kd):=H1.1.cell 1 rfl
 have k2:w1.cell? ⟨w.heap.size,2,none⟩=some (.int .i64 h.ho):=H1.1.cell 2 rfl
 have k3:w1.cell? ⟨w.heap.size,3,none⟩=some (.int .i64 h.tu):=H1.1.cell 3 rfl
 obtain⟨-,hc1,hc2,hcell⟩:=reads_cells H1.2
 have ct:=fun wx=>sin6_any h.tu 0 1000000000 wx
 have ck:=fun x wx=>s6key_any x wx
 have cf:=fun wx=>sall_any h.kd wx
 have ca:=fun wx=>s8any_any (.slice ao h.ks.length cap) h wx
 have ci:=fun wx=>skind_any h.kd wx
 have cw:=fun wx=>swho_any h.ho wx
 have HR:Hid (Reads w1 (.slice ao h.ks.length cap) h.ks):=H1.2
 have HREG:Hid (regI h.ks h.ho=decide (h.ks.getD h.ho.toNat 0≠0)):=rfl
 obtain⟨bt,hbt⟩:∃bt,bt=inI h.tu 0 1000000000:=⟨_,rfl⟩
 obtain⟨bf,hbf⟩:∃bf,bf=allI h.kd:=⟨_,rfl⟩
 obtain⟨bi,hbi⟩:∃bi,bi=kiI h.kd:=⟨_,rfl⟩
 obtain⟨bw,hbw⟩:∃bw,bw=inI h.ho 0 3:=⟨_,rfl⟩
 have HWR:Hid (bw=true→0≤h.ho∧h.ho≤3):=fun e=>(inI_iff _ _ _).1 (by rw[←hbw,e])
 rw[←hbt]at HE
 rw[←hbf,←hbi,←hbw]at HM
 simp only[←hbt]at ct
 simp only[←hbf]at cf
 simp only[←hbi]at ci
 simp only[←hbw]at cw
 obtain⟨x,hx⟩:∃x,x=h.ok:=⟨_,rfl⟩
 rw[←hx]at HE⊢
 obtain⟨n,hn⟩:∃n,n=h.ks.length:=⟨_,rfl⟩
 rw[←hn]at hl k0 hc1 hcell HW HE HR
 simp only[←hn]at ca
 unfold HV hdA at ca
 unfold HV hdA
 rw[←hn]
 have Hca:Hid _:=ca
 have HN:Hid (n=h.ks.length):=hn
 unfold maxLen at hc2
 clear hw1 H1 hr hn hx hbt hbf hbi hbw ca
 by_cases hn4:(n:Int)=4
 case neg=>
  have HX:Hid (x=false):=by rw[Hid,HE.out,show decide (n=4)=false by simp;omega];rfl
  have hne:((n:Int) !=4)=true:=by simpa using hn4
  clear hcell
  go_enter Tryz.func68,Tryz.ntmps68
  go_wp2
  rw[←HW.out]
  go_ret
  rw[HX.out]
  exact⟨rfl,HB.out⟩
 obtain rfl:n=4:=by omega
 cases bt with
 |false=>
  have HX:Hid (x=false):=by rw[Hid,HE.out];rfl
  clear hcell
  go_enter Tryz.func68,Tryz.ntmps68
  go_wp2_with fail
  rw[←HW.out]
  refine(ct _).mono ?_
  rintro e w' ⟨rfl,hw⟩;subst w'
  go_wp2
  go_ret
  rw[HX.out]
  exact⟨rfl,HB.out⟩
 |true=>
  have HY:Hid (x=(keysI h.ks&&h.mid)):=by rw[Hid,HE.out];simp
  clear HE
  go_enter Tryz.func68,Tryz.ntmps68
  go_wp2_with fail
  rw[←HW.out]
  refine(ct _).mono ?_
  rintro e w' ⟨rfl,hw⟩;subst w'
  clear ct HW
  go_wp2
  go_loop [3] (fun i=>∃j:Nat,(j:Int)≤4∧i=.int .i64 j∧Hid (keysI (h.ks.take j)=true)) (fun i=>4-(intOf i).toNat)
  case atStart=>exact⟨0,by omega,rfl,by simp[Hid,keysI]⟩
  case round=>
   obtain⟨j,hj,rfl,HT⟩:=hrel
   by_cases hlt:(j:Int)<4
   ·obtain⟨b,off,rfl,hcj⟩:=hcell j (by omega)
    clear hcell
    have hjl:j<h.ks.length:=by have:=HN.out;omega
    have HA:Hid (inI (h.ks.getD j 0) 0 9999=false→keysI h.ks=false):=keys_not h.ks j hjl
    have HZ:Hid (inI (h.ks.getD j 0) 0 9999=true→keysI (h.ks.take (j+1))=true):=keys_take h.ks j hjl HT.out
    have ckj:=fun wx=>ck (h.ks.getD j 0) wx
    obtain⟨y,hy⟩:∃y,y=h.ks.getD j 0:=⟨_,rfl⟩
    rw[←hy]at hcj HA HZ
    simp only[←hy]at ckj
    obtain⟨by1,hby⟩:∃by1,by1=inI y 0 9999:=⟨_,rfl⟩
    rw[←hby]at HA HZ
    simp only[←hby]at ckj
    clear hy hjl hby ck
    go_wp2_with fail
    refine(ckj _).mono ?_
    rintro e w' ⟨rfl,hw⟩;subst w'
    cases by1 with
    |true=>
     have HZ2:Hid (keysI (h.ks.take (j+1))=true):=HZ.out rfl
     clear HZ HA
     go_wp2
     go_round
     case rel=>exact⟨j+1,by omega,by go_num,HZ2.out⟩
     case measure=>simp[intOf];omega
    |false=>
     have HX:Hid (x=false):=by rw[Hid,HY.out,HA.out rfl];rfl
     clear HZ HA
     go_wp2
     go_ret
     rw[HX.out]
     exact⟨rfl,HB.out⟩
   ·have HK:Hid (x=h.mid):=by
     have:=HT.out
     rw[List.take_of_length_le (by have:=HN.out;omega)]at this
     rw[Hid,HY.out,this];rfl
    clear HY HT ck
    by_cases hk0:h.kd=0
    ·have HX:Hid (x=decide (h.ho= -1)):=by rw[Hid,HK.out,HM.out,if_pos hk0]
     clear HK HM Hca cf ci cw hcell
     by_cases hm1:h.ho= -1
     ·go_wp2
      go_ret
      exact⟨ret_bool (by rw[HX.out];simp[hm1]),HB.out⟩
     ·go_wp2
      go_ret
      exact⟨ret_bool (by rw[HX.out];simp[hm1]),HB.out⟩
    ·cases bf with
     |true=>
      have HX:Hid (x=(decide (h.ho= -1)&&anyI h.ks)):=by rw[Hid,HK.out,HM.out,if_neg hk0,if_pos rfl]
      clear HK HM ci cw hcell
      go_wp2_with fail
      refine(cf _).mono ?_
      rintro e w' ⟨rfl,hw⟩;subst w'
      clear cf
      by_cases hm1:h.ho= -1
      ·have HX2:Hid (x=anyI h.ks):=by rw[Hid,HX.out];simp[hm1]
       have ca:=Hca.out w1 HR.out (by have:=HN.out;omega)
       rw[hm1]at ca
       clear HX Hca
       go_wp2_with fail
       refine ca.mono ?_
       rintro e w2 ⟨rfl,b2⟩
       go_wp2
       go_ret
       rw[HX2.out]
       exact⟨rfl,HB.out.trans (b2.mono HB.out.size)⟩
      ·have HX2:Hid (x=false):=by rw[Hid,HX.out];simp[hm1]
       clear HX Hca
       go_wp2
       go_ret
       exact⟨ret_bool (by rw[HX2.out]),HB.out⟩
     |false=>
      have HX:Hid (x=(bi&&bw&&regI h.ks h.ho)):=by rw[Hid,HK.out,HM.out,if_neg hk0,if_neg (by decide)]
      clear HK HM Hca
      go_wp2_with fail
      refine(cf _).mono ?_
      rintro e w' ⟨rfl,hw⟩;subst w'
      clear cf
      go_wp2_with fail
      refine(ci _).mono ?_
      rintro e w' ⟨rfl,hw⟩;subst w'
      clear ci
      cases bi with
      |false=>
       go_wp2
       go_ret
       exact⟨ret_bool (by rw[HX.out];rfl),HB.out⟩
      |true=>
       go_wp2_with fail
       refine(cw _).mono ?_
       rintro e w' ⟨rfl,hw⟩;subst w'
       clear cw
       cases bw with
       |false=>
        go_wp2
        go_ret
        exact⟨ret_bool (by rw[HX.out];rfl),HB.out⟩
       |true=>
        obtain⟨hw0,hw3⟩:=HWR.out rfl
        obtain⟨b,off,rfl,hcj⟩:=hcell h.ho.toNat (by omega)
        have HX2:Hid (x=decide (h.ks.getD h.ho.toNat 0≠0)):=by rw[Hid,HX.out,HREG.out];rfl
        obtain⟨y,hy⟩:∃y,y=h.ks.getD h.ho.toNat 0:=⟨_,rfl⟩
        rw[←hy]at hcj HX2
        clear hcell hy HX HREG
        have hoc:((h.ho.toNat:Nat):Int)=h.ho:=by omega
        by_cases hy0:y=0
        ·go_wp2
         go_ret
         exact⟨ret_bool (by rw[HX2.out];simp[hy0]),HB.out⟩
        ·have hyn:(y !=0)=true:=by simpa using hy0
         go_wp2
         go_ret
         exact⟨ret_bool (by rw[HX2.out];simp[hy0]),HB.out⟩
end Go.Proofs.YthmnmaemnihkeaaGreatDoor
namespace Go.Proofs.YthmnmaemnihkeaaGreatDoor
open Go.ChangeShapes Go.WideShapes Go.ChangeAt Go.RowKit
def srA (a b k:Value) (h:Hd):Array Value:=#[a,b,k,.int .i64 h.kd,.int .i64 h.ho,.int .i64 h.tu]
def SRV (a b k:Value) (h:Hd):Value:=.agg (srA a b k h)
structure Sr where
 xs:List Int
 ys:List Int
 h:Hd
def Sr.zero:Sr:=⟨[],[],Hd.zero⟩
def Sr.ok (s:Sr):Bool:=bothOk s.xs s.ys&&s.h.ok
def conf (r:Hd×Bool):Hd×An:=(r.1,if r.2 then⟨0,[]⟩else⟨3,[]⟩)
def Hd.act (h:Hd) (who:Int) (c:Cm):Hd×An:=
 if c.o=6 then(h.regd who c.a,⟨0,[]⟩)
 else if c.o=7 then conf (h.resd who c.k)
 else if c.o=8 then conf (h.reld who)
 else if c.o=9 then conf (h.clrd who)
 else if c.o=10 then(if c.a=0 then(h,⟨1,[]⟩)else conf (h.pred who c.a c.k))
 else if c.o=11 then(h,⟨0,h.keysT⟩)
 else(h,⟨0,h.holdT⟩)
def Sr.doing (s:Sr) (who:Int) (c:Cm):Sr×An:=
 if 5<c.o then(⟨s.xs,s.ys,(s.h.act who c).1⟩,(s.h.act who c).2)
 else if s.h.may who (decide (c.o≠1))then(⟨(didI s.xs s.ys c).1,(didI s.xs s.ys c).2.1,s.h⟩,(didI s.xs s.ys c).2.2)
 else(s,⟨3,[]⟩)
def Sr.did (s:Sr) (who:Int) (c:Cm):Sr×An:=
 if s.ok then(if inI who 0 3&&c.ok then s.doing who c else(s,⟨7,[]⟩))else(Sr.zero,⟨7,[]⟩)
def Hd.eqB (a b:Hd):Bool:=decide (a.ks=b.ks)&&decide (a.kd=b.kd)&&decide (a.ho=b.ho)&&decide (a.tu=b.tu)
end Go.Proofs.YthmnmaemnihkeaaGreatDoor
namespace Go.Proofs.YthmnmaemnihkeaaGreatDoor
open Go.RowKit
def cnt (p:Int→Bool):Nat→Nat
 |0=>0
 |j+1=>cnt p j+(if p j=true then 1 else 0)
theorem cnt_none (p:Int→Bool) (h:∀i,p i=false) (j:Nat):cnt p j=0:=by
 induction j with
 |zero=>rfl
 |succ j ih=>simp[cnt,ih,h]
theorem cnt_same (p q:Int→Bool) (h:∀i,p i=q i) (j:Nat):cnt p j=cnt q j:=by
 induction j with
 |zero=>rfl
 |succ j ih=>simp[cnt,ih,h]
theorem cnt_some (p:Int→Bool) (k:Nat) (h:p k=true) (j:Nat) (hj:k<j):0<cnt p j:=by
 induction j with
 |zero=>omega
 |succ j ih=>
  unfold cnt
  by_cases e:k=j
  ·subst e;rw[if_pos h];omega
  ·have:=ih (by omega);omega
theorem cnt_at (p:Int→Bool) (k:Nat) (h:∀i:Nat,p i=decide (i=k)) (j:Nat):cnt p j=if k<j then 1 else 0:=by
 induction j with
 |zero=>rfl
 |succ j ih=>
  unfold cnt
  rw[ih,h j]
  by_cases e:j=k
  ·subst e;simp
  ·simp[e];split<;>split<;>omega
theorem Hd.ok_parts {h:Hd} (e:h.ok=true):h.ks.length=4∧h.mid=true:=by
 unfold Hd.ok at e
 simp only[Bool.and_eq_true,decide_eq_true_eq]at e
 exact⟨e.1.1.1,e.2⟩
theorem Hd.hol_none {h:Hd} (e:h.kd=0) (i:Int):h.Hol i=false:=by
 simp[Hd.Hol,Hd.holds,e]
theorem Hd.hol_all {h:Hd} (ok:h.ok=true) (ha:allI h.kd=true) (i:Int):h.Hol i=h.Reg i:=by
 have hm:=(Hd.ok_parts ok).2
 have hk:h.kd≠0:=by intro e;rw[e]at ha;cases ha
 unfold Hd.mid at hm
 rw[if_neg hk,if_pos ha]at hm
 simp only[Bool.and_eq_true,decide_eq_true_eq]at hm
 unfold Hd.Hol Hd.Reg Hd.holds
 cases hi:inI i 0 3 with
 |false=>simp
 |true=>
  have:=(inI_iff i 0 3).1 hi
  have hne:¬h.ho=i:=by omega
  simp[hk,hne,ha]
theorem Hd.hol_one {h:Hd} (ok:h.ok=true) (hk:h.kd≠0) (ha:allI h.kd=false):∃k:Nat,k<4∧h.ho=k∧regI h.ks h.ho=true∧∀i:Int,inI i 0 3=true→h.Hol i=decide (i=k):=by
 have hm:=(Hd.ok_parts ok).2
 unfold Hd.mid at hm
 rw[if_neg hk,if_neg (by rw[ha];decide)]at hm
 simp only[Bool.and_eq_true]at hm
 have hr:=(inI_iff _ _ _).1 hm.1.2
 refine⟨h.ho.toNat,by omega,by omega,hm.2,fun i hi=>?_⟩
 have hi':=(inI_iff _ _ _).1 hi
 unfold Hd.Hol Hd.holds
 rw[ok,hi,ha]
 by_cases e:h.ho=i
 ·have e2:i=((h.ho.toNat:Nat):Int):=by omega
  simp[hk,e]
  omega
 ·have e2:¬i=((h.ho.toNat:Nat):Int):=by omega
  simp[e]
  omega
theorem Hd.count {h:Hd} (ok:h.ok=true):(h.kd=0→cnt h.Hol 4=0)∧(h.kd≠0→allI h.kd=true→cnt h.Hol 4=cnt h.Reg 4∧0<cnt h.Reg 4)∧(h.kd≠0→allI h.kd=false→cnt h.Hol 4=1):=by
 refine⟨fun e=>cnt_none _ (Hd.hol_none e) 4,fun hk ha=>⟨cnt_same _ _ (Hd.hol_all ok ha) 4,?_⟩,fun hk ha=>?_⟩
 ·have hm:=(Hd.ok_parts ok).2
  have hl:=(Hd.ok_parts ok).1
  unfold Hd.mid at hm
  rw[if_neg hk,if_pos ha]at hm
  simp only[Bool.and_eq_true]at hm
  have ha2:=hm.2
  unfold anyI at ha2
  rw[List.any_eq_true]at ha2
  obtain⟨x,hx,hx2⟩:=ha2
  obtain⟨k,hk4,rfl⟩:=List.mem_iff_getElem.1 hx
  refine cnt_some _ k ?_ 4 (by omega)
  unfold Hd.Reg regI
  have h3:inI (k:Int) 0 3=true:=(inI_iff _ _ _).2 (by omega)
  rw[ok,h3]
  simp[hk4]at hx2⊢
  exact hx2
 ·obtain⟨k,hk4,hho,hr,hall⟩:=Hd.hol_one ok hk ha
  have e:cnt h.Hol 4=cnt (fun i=>decide (i=(k:Int))) 4:=by
   have h0:=hall 0 (by decide)
   have h1:=hall 1 (by decide)
   have h2:=hall 2 (by decide)
   have h3:=hall 3 (by decide)
   simp[cnt,h0,h1,h2,h3]
  rw[e,cnt_at _ k (fun i=>by simp;omega) 4,if_pos hk4]
end Go.Proofs.YthmnmaemnihkeaaGreatDoor
namespace Go.Proofs.YthmnmaemnihkeaaGreatDoor
open Go.RowKit
theorem any_iff {ks:List Int}:anyI ks=true↔∃j,j<ks.length∧ks.getD j 0≠0:=by
 constructor
 ·intro h
  unfold anyI at h
  obtain⟨x,hx,h0⟩:=List.any_eq_true.1 h
  obtain⟨j,hj,rfl⟩:=List.getElem_of_mem hx
  exact⟨j,hj,by simpa[hj]using h0⟩
 ·rintro⟨j,hj,h⟩
  exact any_at ks j hj h
theorem keys_iff {ks:List Int}:keysI ks=true↔∀j,j<ks.length→0≤ks.getD j 0∧ks.getD j 0≤9999:=by
 constructor
 ·intro h j hj
  unfold keysI at h
  have:=List.all_eq_true.1 h ks[j] (List.getElem_mem hj)
  rw[inI_iff]at this
  simpa[hj]using this
 ·intro h
  unfold keysI
  rw[List.all_eq_true]
  intro x hx
  obtain⟨j,hj,rfl⟩:=List.getElem_of_mem hx
  have:=h j hj
  rw[inI_iff]
  simpa[hj]using this
theorem mid_iff {h:Hd}:h.mid=true↔(h.kd=0∧h.ho= -1)∨(h.kd≠0∧allI h.kd=true∧h.ho= -1∧anyI h.ks=true)∨(h.kd≠0∧allI h.kd=false∧kiI h.kd=true∧(0≤h.ho∧h.ho≤3)∧h.ks.getD h.ho.toNat 0≠0):=by
 unfold Hd.mid regI
 by_cases h0:h.kd=0
 ·simp[h0]
 ·cases ha:allI h.kd
  ·simp[h0,Bool.and_eq_true,inI_iff,and_assoc]
  ·simp[h0]
theorem ok_iff {h:Hd}:h.ok=true↔h.ks.length=4∧(0≤h.tu∧h.tu≤1000000000)∧keysI h.ks=true∧h.mid=true:=by
 unfold Hd.ok
 simp[Bool.and_eq_true,inI_iff,and_assoc]
theorem getD_setK {ks:List Int} {j m:Nat} {x:Int} (hj:j<ks.length):(ks.set j x).getD m 0=if m=j then x else ks.getD m 0:=by
 by_cases e:m=j
 ·subst e;simp[hj]
 ·rw[if_neg e]
  simp only[List.getD_eq_getElem?_getD]
  rw[List.getElem?_set_ne (Ne.symm e)]
theorem regd_ks (h:Hd) (i key:Int):(h.regd i key).ks=h.ks.set i.toNat key:=by
 unfold Hd.regd;split<;>rfl
theorem regd_tu (h:Hd) (i key:Int):(h.regd i key).tu=turnI h.tu:=by
 unfold Hd.regd;split<;>rfl
theorem regd_ok {h:Hd} (ok:h.ok=true) {i key:Int} (hi:0≤i∧i≤3) (hk:0≤key∧key≤9999):(h.regd i key).ok=true∧((h.regd i key).kd=h.kd∨key=0∧(h.regd i key).kd=0):=by
 obtain⟨hl,ht,hks,hm⟩:=ok_iff.1 ok
 have hi4:i.toNat<h.ks.length:=by omega
 have hany:key≠0→anyI (h.ks.set i.toNat key)=true:=fun hk0=>any_iff.2 ⟨i.toNat,by simpa using hi4,by rw[getD_setK hi4,if_pos rfl];exact hk0⟩
 have hkeys:keysI (h.ks.set i.toNat key)=true:=keys_iff.2 fun j hj=>by
  rw[getD_setK hi4]
  split
  ·exact hk
  ·exact keys_iff.1 hks j (by simpa using hj)
 have htu:=turnI_in h.tu ht.1 ht.2
 constructor
 ·rw[ok_iff,regd_ks,regd_tu]
  refine⟨by simpa using hl,htu,hkeys,?_⟩
  unfold Hd.regd
  split
  ·rw[mid_iff];exact .inl ⟨rfl,rfl⟩
  ·rename_i c
   rw[mid_iff]
   simp only[Hd.turn,Hd.key]
   rcases mid_iff.1 hm with m|m|m
   ·exact .inl m
   ·refine .inr (.inl ⟨m.1,m.2.1,m.2.2.1,?_⟩)
    by_cases hk0:key=0
    ·cases ha:anyI (h.ks.set i.toNat key)
     ·exact absurd ⟨hk0,.inr ha⟩ c
     ·rfl
    ·exact hany hk0
   ·refine .inr (.inr ⟨m.1,m.2.1,m.2.2.1,m.2.2.2.1,?_⟩)
    rw[getD_setK hi4]
    split
    ·rename_i e
     intro hk0
     exact c ⟨hk0,.inl (by have:=m.2.2.2.1;omega)⟩
    ·exact m.2.2.2.2
 ·unfold Hd.regd
  split
  ·rename_i c;exact .inr ⟨c.1,rfl⟩
  ·exact .inl rfl
end Go.Proofs.YthmnmaemnihkeaaGreatDoor
namespace Go.Proofs.YthmnmaemnihkeaaGreatDoor
open Go.RowKit
theorem ki_ne0 {k:Int} (h:kiI k=true):k≠0:=by intro e;subst e;exact absurd h (by decide)
theorem take_ok {h:Hd} (ok:h.ok=true) {i k:Int} (hi:0≤i∧i≤3) (hr:h.ks.getD i.toNat 0≠0) (hk:kiI k=true):(h.take i k).ok=true:=by
 obtain⟨hl,ht,hks,hm⟩:=ok_iff.1 ok
 rw[ok_iff]
 refine⟨hl,ht,hks,?_⟩
 rw[mid_iff]
 unfold Hd.take
 have h0:=ki_ne0 hk
 cases ha:allI k
 ·refine .inr (.inr ⟨h0,rfl,hk,?_,?_⟩)
  ·simpa using hi
  ·simpa using hr
 ·refine .inr (.inl ⟨h0,rfl,by simp,any_iff.2 ⟨i.toNat,by simp;omega,hr⟩⟩)
theorem take_hol {h:Hd} {i k:Int} (ok:(h.take i k).ok=true) (hi:inI i 0 3=true) (hr:regI h.ks i=true) (hk:kiI k=true):(h.take i k).Hol i=true:=by
 unfold Hd.Hol Hd.holds
 rw[ok,hi]
 have h0:=ki_ne0 hk
 cases ha:allI k
 ·simp[Hd.take,h0,ha]
 ·simp[Hd.take,h0,ha,hr]
theorem reg_of {h:Hd} {i:Int}:regI h.ks i=true↔h.ks.getD i.toNat 0≠0:=by simp[regI]
theorem strike_get (ks:List Int) (i:Nat) (key:Int) (n m:Nat) (hn:n≤ks.length) (hm:m<n):(strike ks i key n).getD m 0=if m≠i∧ks.getD m 0=key then 0 else ks.getD m 0:=by
 induction n with
 |zero=>omega
 |succ n ih=>
  by_cases e:m=n
  ·subst e
   unfold strike
   split
   ·rw[getD_setK (by rw[strike_len];omega),if_pos rfl]
   ·exact strike_at _ _ _ _ _ (Nat.le_refl _)
  ·have:=ih (by omega) (by omega)
   unfold strike
   split
   ·rw[getD_setK (by rw[strike_len];omega),if_neg e,this]
   ·exact this
theorem preempt_cases (h:Hd) (i key k:Int):h.preempt i key k=(Hd.zero,2)∨h.preempt i key k=(h,1)∨
  (∃x,h.preempt i key k=(x,0)∧x.ks.length=4∧h.ks.length=4∧(∀m,m<4→x.ks.getD m 0=if(m:Int)≠i∧h.ks.getD m 0=key then 0 else h.ks.getD m 0)∧
   (h.kd≠0→0≤h.ho→h.ho≤3∧(h.ks.getD h.ho.toNat 0=key→x.Hol i=true∧x.kd=k))∧(h.kd=0→x.kd=0)∧(h.kd≠0→x.kd≠0)∧x.ok=true∧x.Reg i=true):=by
 unfold Hd.preempt
 by_cases c:(h.ok&&inI i 0 3&&inI key 1 9999&&kiI k)=true
 ·rw[if_pos c]
  simp only[Bool.and_eq_true]at c
  obtain⟨⟨⟨ok,hin⟩,hkey⟩,hk⟩:=c
  have hi:=(inI_iff _ _ _).1 hin
  have hky:=(inI_iff _ _ _).1 hkey
  have hk0:=ki_ne0 hk
  obtain⟨hl,ht,hks,hm⟩:=ok_iff.1 ok
  by_cases hrf:(regI h.ks i&&has h.ks key 4)=false
  ·refine .inr (.inl ?_)
   unfold Hd.pred
   rw[if_pos hrf];rfl
  ·have hr:regI h.ks i=true:=by
    cases hx:regI h.ks i
    ·rw[hx]at hrf;exact absurd rfl hrf
    ·rfl
   have hri:=reg_of.1 hr
   obtain⟨h4,hh4⟩:∃h4:Hd,h4=Hd.turn ⟨strike h.ks i.toNat key 4,h.kd,h.ho,h.tu⟩:=⟨_,rfl⟩
   have h4ks:h4.ks=strike h.ks i.toNat key 4:=by rw[hh4];rfl
   have h4kd:h4.kd=h.kd:=by rw[hh4];rfl
   have h4ho:h4.ho=h.ho:=by rw[hh4];rfl
   have h4tu:h4.tu=turnI h.tu:=by rw[hh4];rfl
   have hg:∀m,m<4→h4.ks.getD m 0=if m≠i.toNat∧h.ks.getD m 0=key then 0 else h.ks.getD m 0:=fun m hm=>by
    rw[h4ks];exact strike_get _ _ _ _ _ (by omega) hm
   have hl4:h4.ks.length=4:=by rw[h4ks,strike_len];exact hl
   have hr4:h4.ks.getD i.toNat 0≠0:=by
    rw[hg i.toNat (by omega),if_neg (fun e=>e.1 rfl)];exact hri
   have hks4:keysI h4.ks=true:=keys_iff.2 fun j hj=>by
    rw[hg j (by omega)]
    split
    ·omega
    ·exact keys_iff.1 hks j (by omega)
   have htu4:=turnI_in h.tu ht.1 ht.2
   have hgi:∀m,m<4→h4.ks.getD m 0=if(m:Int)≠i∧h.ks.getD m 0=key then 0 else h.ks.getD m 0:=fun m hm=>by
    rw[hg m hm]
    have:m≠i.toNat↔(m:Int)≠i:=by omega
    simp only[this]
   have hany4:anyI h4.ks=true:=any_iff.2 ⟨i.toNat,by omega,hr4⟩
   have ho:h.kd≠0→0≤h.ho→allI h.kd=false∧h.ho≤3:=by
    intro e1 e2
    rcases mid_iff.1 hm with m|m|m
    ·exact absurd m.1 e1
    ·omega
    ·exact⟨m.2.1,m.2.2.2.1.2⟩
   by_cases ht':(h.alone key||(allI h.kd&& !more h.ks i.toNat key 4))=true
   ·have e:h.pred i key k=(h4.take i k,true):=by
     unfold Hd.pred
     rw[if_neg hrf,if_pos ht',hh4]
    rw[e]
    have hkd:h.kd≠0:=by
     intro e0
     rw[Hd.alone,e0]at ht'
     exact absurd ht' (by simp[show allI 0=false from rfl])
    have tok:(h4.take i k).ok=true:=by
     rw[ok_iff]
     refine⟨hl4,by rw[show(h4.take i k).tu=h4.tu from rfl,h4tu];exact htu4,hks4,?_⟩
     rw[mid_iff]
     unfold Hd.take
     cases ha:allI k
     ·exact .inr (.inr ⟨hk0,rfl,hk,by simpa using hi,by simpa using hr4⟩)
     ·exact .inr (.inl ⟨hk0,rfl,by simp,hany4⟩)
    have hr4':regI h4.ks i=true:=(reg_of (h:=h4)).2 hr4
    refine .inr (.inr ⟨h4.take i k,rfl,hl4,hl,hgi,fun e1 e2=>⟨(ho e1 e2).2,fun _=>⟨take_hol tok hin hr4' hk,rfl⟩⟩,fun e0=>absurd e0 hkd,fun _=>hk0,tok,?_⟩)
    unfold Hd.Reg
    rw[tok,hin]
    exact hr4'
   ·have e:h.pred i key k=(h4,true):=by
     unfold Hd.pred
     rw[if_neg hrf,if_neg ht',hh4]
    rw[e]
    have hal:h.alone key=false:=by
     cases hx:h.alone key
     ·rfl
     ·rw[hx]at ht';exact absurd rfl ht'
    have hok4:h4.ok=true:=by
     rw[ok_iff]
     refine⟨hl4,by rw[h4tu];exact htu4,hks4,?_⟩
     rw[mid_iff,h4kd,h4ho]
     rcases mid_iff.1 hm with m|m|m
     ·exact .inl m
     ·exact .inr (.inl ⟨m.1,m.2.1,m.2.2.1,hany4⟩)
     ·refine .inr (.inr ⟨m.1,m.2.1,m.2.2.1,m.2.2.2.1,?_⟩)
      rw[hg h.ho.toNat (by have:=m.2.2.2.1;omega)]
      have:h.ks.getD h.ho.toNat 0≠key:=by
       intro e1
       rw[Hd.alone,e1]at hal
       simp[m.1,m.2.1]at hal
      rw[if_neg (fun e=>this e.2)]
      exact m.2.2.2.2
    refine .inr (.inr ⟨h4,rfl,hl4,hl,hgi,fun e1 e2=>⟨(ho e1 e2).2,fun e3=>?_⟩,fun e0=>by rw[h4kd];exact e0,fun e0=>by rw[h4kd];exact e0,hok4,?_⟩)
    ·rw[Hd.alone,e3,(ho e1 e2).1]at hal
     simp[e1]at hal
    ·unfold Hd.Reg
     rw[hok4,hin]
     exact(reg_of (h:=h4)).2 hr4
 ·rw[if_neg c];exact .inl rfl
end Go.Proofs.YthmnmaemnihkeaaGreatDoor
