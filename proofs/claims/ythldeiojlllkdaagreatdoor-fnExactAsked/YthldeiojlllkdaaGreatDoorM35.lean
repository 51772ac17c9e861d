/- The program's heap of blocks, on: what container/heap makes of it (up, down, Push, Pop). -/
import Derived.Test.YthldeiojlllkdaaGreatDoorM1
import Derived.Test.YthldeiojlllkdaaGreatDoorM34
import Derived.Test.YthldeiojlllkdaaGreatDoorM3
import Derived.Test.YthldeiojlllkdaaGreatDoorM22
import Derived.Test.YthldeiojlllkdaaGreatDoorM23
import Derived.Test.YthldeiojlllkdaaGreatDoorM32
import Derived.Test.YthldeiojlllkdaaGreatDoorM20
import Derived.Test.YthldeiojlllkdaaGreatDoorM21
set_option maxRecDepth 20000
set_option maxHeartbeats 4000000
namespace Go.Proofs.YthldeiojlllkdaaGreatDoor
open Go.ChangeShapes Go.WideShapes Go.ChangeAt Go.RowKit
theorem Cs (v:Value) (l:List Int) (base g j0:Nat) (w:World) (h:HpB w base g v l) (hj:j0<l.length) (hl:l.length<=1000):
  Calls Tryz.prog 210 #[AO g,.int .i64 j0] w fun e w'=>e=.returned (.tuple #[])/\∃m,HpB w' base g v m/\m.Perm l/\((∀y∈l,y<=l.getD j0 0)->m=l)/\Below base w w':=by
 have HH:Hid (HpB w base g v l):=h;obtain⟨n,hn⟩:=eX l.length
 have HN:Hid (n=l.length):=hn;rw[<-hn]at hj hl;clear h hn;unfold AO;go_enter Tryz.func210,Tryz.ntmps210;go_wp2;go_loopw [1] (fun j wr=>∃(k:Nat) (m:List Int),j=.int .i64 k/\k<n/\Hid (HpB wr base g v m/\m.Perm l/\((∀y∈l,y<=l.getD j0 0)->m=l/\k=j0)/\Below base w wr)) (fun j _=>(intOf j).toNat)
 case atStart=>exact⟨j0,l,rfl,hj,HH.out,List.Perm.refl _,fun _=>⟨rfl,rfl⟩,Below.refl _ _⟩
 case round=>
  obtain⟨k,m,rfl,hk,HR⟩:=hrel;have k0:wr.cell? ⟨g,0,none⟩=some v:=HR.out.1.cell;have n1:=Tryz.nilLess ⟨g,0,none⟩;have n2:=Tryz.nilSwap ⟨g,0,none⟩;have m1:=Tryz.methLess k0;have hml:m.length=n:=by rw[HN.out];exact HR.out.2.1.length_eq
  rcases Nat.eq_zero_or_pos k with rfl|hpos
  ·have eq0:((0:Int)==0)=true:=rfl
   go_wp2
   go_end0
   exact⟨rfl,m,HR.out.1,HR.out.2.1,fun hy=>(HR.out.2.2.1 hy).1,HR.out.2.2.2⟩
  ·obtain⟨p,rfl⟩:∃p,k=p+1:=⟨k-1,by omega⟩
   have hq:((((p+1:Nat):Int)-1).tdiv 2)=((p/2:Nat):Int):=by
    rw[show(((p+1:Nat):Int)-1)=(p:Int) by omega];rfl
   clear hq;have e1:((p+1:Nat):Int)=(p:Int)+1:=by omega
   have e2:((p/2:Nat):Int)=(p:Int)/2:=by omega
   have c1:=yW v m (p+1) (p/2) wr HR.out.1.own.reads (by omega) (by omega);rw[e1,e2]at c1;have HB:Hid (decide (m.getD (p+1) 0<m.getD (p/2) 0)=true->¬∀y∈l,y<=l.getD j0 0):=by
    intro hlt hy;obtain⟨em,ek⟩:=HR.out.2.2.1 hy;have hlt':=of_decide_eq_true hlt;rw[em,ek]at hlt';have:=hy (l.getD (p/2) 0) (by
     have hp:p/2<l.length:=by have:=HN.out;omega
     simp only[List.getD_eq_getElem?_getD,List.getElem?_eq_getElem hp,Option.getD_some];exact List.getElem_mem hp)
    omega
   obtain⟨b,hb⟩:=eX (decide (m.getD (p+1) 0<m.getD (p/2) 0))
   rw[<-hb]at c1 HB;clear hb;go_wp2_with fail
   refine c1.mono ?_;rintro e wq ⟨rfl,q,hq⟩;have HQ:Hid (HpB wq base g v m/\Below base wr wq):=⟨HR.out.1.drew hq,by rw[hq];exact below_drewN (Below.refl _ _) q⟩
   clear c1 hq m1 k0;cases b with
   |false=>
    go_wp2
    go_end0
    exact⟨rfl,m,HQ.out.1,HR.out.2.1,fun hy=>(HR.out.2.2.1 hy).1,HR.out.2.2.2.trans HQ.out.2⟩
   |true=>
    have HF:Hid (¬∀y∈l,y<=l.getD j0 0):=HB.out rfl;clear HB;have c2:=yX v m (p/2) (p+1) wq base HQ.out.1.own (by omega) (by omega);rw[e1,e2]at c2;have m2:=Tryz.methSwap HQ.out.1.cell;go_wp2_with fail
    refine c2.mono ?_;rintro e wz ⟨rfl,o2,g2⟩;obtain⟨z1,z2⟩:=HQ.out.1.swap o2 g2;have HZ:Hid (HpB wz base g v (nT m (p/2) (p+1))/\(nT m (p/2) (p+1)).Perm l/\Below base w wz):=⟨z1,(vD m (p/2) (p+1) (by omega) (by omega)).trans HR.out.2.1,(HR.out.2.2.2.trans HQ.out.2).trans z2⟩
    clear c2 o2 g2 z1 z2 m2 HQ;go_wp2;go_roundw
    case rel=>exact⟨p/2,_,by rw[e2],by omega,HZ.out.1,HZ.out.2.1,fun hy=>absurd hy HF.out,HZ.out.2.2⟩
    case measure=>simp[intOf];omega
theorem rS (x:Int) (v:Value) (l:List Int) (base g:Nat) (w:World) (h:HpB w base g v l) (hl:l.length<=900):
  Calls Tryz.prog 166 #[AO g,.iface 2 (.int .i64 x)] w fun e w'=>e=.returned (.tuple #[])/\∃u m,HpB w' base g u m/\m.Perm (l++[x])/\((∀y∈l,y<=x)->m=l++[x])/\Below base w w':=by
 have c1:=yY x v l base g w h (by omega);have n1:=Tryz.nilPush ⟨g,0,none⟩;have n2:=Tryz.nilLen ⟨g,0,none⟩;have m1:=Tryz.methPush ⟨g,0,none⟩;have c3:∀u w',HpB w' base g u (l++[x])->_:=fun u w' h'=>Cs u (l++[x]) base g l.length w' h' (by simp) (by simp;omega)
 have c2:∀u w',HpB w' base g u (l++[x])->_:=fun u w' h'=>AP u (l++[x]) w' h'.own.reads
 have e1:(((l++[x]).length:Nat):Int)=(l.length:Int)+1:=by simp
 rw[e1]at c2;have HC:Hid _:=c3;have HD:Hid _:=c2;clear h c3 c2 e1;unfold AO at HC⊢;have hl':(l.length:Int)<=900:=by omega
 go_enter Tryz.func166,Tryz.ntmps166;go_wp2_with fail
 refine c1.mono ?_;rintro e w1 ⟨rfl,u,h1,b1⟩;have m2:=Tryz.methLen h1.cell;have c2:=HD.out u w1 h1;have c3:=HC.out u w1 h1;have HB:Hid (Below base w w1):=b1;clear HC HD c1 m1 h1 b1;go_wp2_with fail
 refine c2.mono ?_;rintro e w2 ⟨rfl,hw⟩;subst w2;clear c2 m2;have e3:(l.length:Int)+1-1=l.length:=by omega
 go_wp2_with fail
 refine c3.mono ?_;rintro e w3 ⟨rfl,m,h3,p3,s3,b3⟩;have HE:Hid (HpB w3 base g u m/\m.Perm (l++[x])/\((∀y∈l++[x],y<=(l++[x]).getD l.length 0)->m=l++[x])/\Below base w1 w3):=⟨h3,p3,s3,b3⟩
 clear h3 p3 s3 b3 c3;go_wp2
 go_end0
 refine⟨rfl,u,m,HE.out.1,HE.out.2.1,fun hy=>HE.out.2.2.1 ?_,HB.out.trans HE.out.2.2.2⟩;intro y hm;have e4:(l++[x]).getD l.length 0=x:=by simp
 rw[e4];rcases List.mem_append.1 hm with h|h
 ·exact hy y h
 ·simp at h;omega
section
open Go.ChangeShapes Go.WideShapes Go.ChangeAt Go.RowKit
end
theorem pC {l:List Int} {x:Int} {j:Nat} (h:j<l.length) (h0:x∉l.take j) (hx:x≠l.getD j 0):x∉l.take (j+1):=by
 rw[List.take_succ_eq_append_getElem h,List.mem_append];rintro(h1|h1)
 ·exact h0 h1
 ·simp at h1
  apply hx;rw[h1];simp[h]
theorem qk {l:List Int} {j:Nat} (h:j<l.length):l.getD j 0∈l:=by
 simp only[List.getD_eq_getElem?_getD,List.getElem?_eq_getElem h,Option.getD_some];exact List.getElem_mem h
theorem vR (v:Value) (l:List Int) (x:Int) (w:World) (h:ag w v l):
  Calls Tryz.prog 209 #[v,.int .i64 x] w fun e w'=>∃y:Int,e=.returned (.int .i64 y)/\decide (0<=y)=decide (x∈l)/\w'=w:=by
 obtain⟨ao,cap,rfl⟩:=aa h;obtain⟨-,hc1,hc2,hcell⟩:=aK h;unfold maxLen at hc2;obtain⟨n,hn⟩:=eX l.length
 rw[<-hn]at hc1 hcell⊢;have HN:Hid (n=l.length):=hn;clear h hn;go_enter Tryz.func209,Tryz.ntmps209;go_wp2;go_loop [8] (fun i=>∃j:Nat,j<=n/\i=.int .i64 j/\Hid (x∉l.take j)) (fun i=>n-(intOf i).toNat)
 case atStart=>exact⟨0,Nat.zero_le _,rfl,by simp[Hid]⟩
 case round=>
  obtain⟨j,hj,rfl,HT⟩:=hrel;by_cases hlt:(j:Int)<(n:Int)
  ·obtain⟨b,off,rfl,hcj⟩:=hcell j (by omega)
   clear hcell;have hjl:j<l.length:=by have:=HN.out;omega
   have HM:Hid (l.getD j 0∈l):=qk hjl;have HZ:Hid (x≠l.getD j 0->x∉l.take (j+1)):=pC hjl HT.out;obtain⟨z,hz⟩:=eX (l.getD j 0)
   rw[<-hz]at hcj HM HZ;clear hz hjl;by_cases e:x=z
   ·have HU:Hid (decide (x∈l)=true):=by rw[Hid,e];exact decide_eq_true HM.out
    have eb:(x==z)=true:=by simpa using e
    clear e HM HZ;go_wp2;go_ret;exact⟨_,rfl,⟨fun _=>of_decide_eq_true HU.out,fun _=>by omega⟩,rfl⟩
   ·have eb:(x==z)=false:=by simpa using e
    have HU:Hid (x∉l.take (j+1)):=HZ.out e;clear e HM HZ;go_wp2
    go_round
    case rel=>exact⟨j+1,by omega,by go_num,HU⟩
    case measure=>simp[intOf];omega
  ·have HU:Hid (decide (x∈l)=false):=by
    have:=HT.out;rw[List.take_of_length_le (by have:=HN.out;omega)]at this;exact decide_eq_false this
   clear hcell;go_wp2;go_ret;exact⟨_,rfl,⟨fun h=>by omega,fun h=>absurd h (of_decide_eq_false HU.out)⟩,rfl⟩
theorem pD (v:Value) (l:List Int) (x:Int) (w:World) (h:ag w v l):
  Calls Tryz.prog 165 #[v,.int .i64 x] w fun e w'=>e=.returned (.bool (decide (x∈l)))/\w'=w:=by
 have c1:=vR v l x w h;clear h;go_enter Tryz.func165,Tryz.ntmps165;go_wp2_with fail
 refine c1.mono ?_;rintro e w' ⟨y,rfl,hy,hw⟩;subst w';have HY:Hid (decide (0<=y)=decide (x∈l)):=hy;clear hy c1;go_wp2;go_ret;exact⟨af HY.out,rfl⟩
theorem vS (s i:Int) (w:World) (h0:0<=s) (h1:s<256) (h2:0<=i) (h3:i<8):
  Calls Tryz.prog 168 #[.int .i64 s,.int .i64 i] w fun e w'=>e=.returned (.int .i64 (cq s i))/\w'=w:=by
 go_enter Tryz.func168,Tryz.ntmps168;go_wp2;go_ret;exact⟨cX (BI h0 h1 h2 h3),rfl⟩
theorem AQ (v:Value) (l:List Int) (w:World) (h:ag w v l) (hb:∀x∈l,0<=x/\x<8):
  Calls Tryz.prog 124 #[v] w fun e w'=>e=.returned (.int .i64 (iQ l))/\w'=w:=by
 obtain⟨ao,cap,rfl⟩:=aa h;obtain⟨-,hc1,hc2,hcell⟩:=aK h;unfold maxLen at hc2;obtain⟨n,hn⟩:=eX l.length
 rw[<-hn]at hc1 hcell⊢;have HN:Hid (n=l.length):=hn;have HB:Hid (∀x∈l,0<=x/\x<8):=hb;have HD:Hid (∀j,0<=iQ (l.take j)/\iQ (l.take j)<256):=fun j=>by
  have:=xZ (l:=l.take j) (fun x hx=>hb x (List.mem_of_mem_take hx));exact⟨this.1,this.2.1⟩
 clear h hn hb;go_enter Tryz.func124,Tryz.ntmps124;go_wp2;go_loop [3,8] (fun q i=>∃j:Nat,j<=n/\i=.int .i64 j/\∃y:Int,q=.int .i64 y/\Hid (y=iQ (l.take j))) (fun _ i=>n-(intOf i).toNat)
 case atStart=>exact⟨0,Nat.zero_le _,rfl,0,rfl,by simp[Hid,iQ]⟩
 case round=>
  obtain⟨j,hj,rfl,y,rfl,HY⟩:=hrel;by_cases hlt:(j:Int)<(n:Int)
  ·obtain⟨b,off,rfl,hcj⟩:=hcell j (by omega)
   clear hcell;have hjl:j<l.length:=by have:=HN.out;omega
   have hm:=HB.out _ (qk hjl);have hd:=HD.out j;rw[<-HY.out]at hd;have HZ:Hid (cq y (l.getD j 0)=iQ (l.take (j+1))):=by rw[Hid,HY.out];exact(yQ l j hjl).symm
   have c1:=fun wx=>vS y (l.getD j 0) wx hd.1 hd.2 hm.1 hm.2
   obtain⟨z,hz⟩:=eX (l.getD j 0)
   rw[<-hz]at hcj HZ;simp only[<-hz]at c1;obtain⟨q,hq⟩:=eX (cq y z)
   rw[<-hq]at HZ;simp only[<-hq]at c1;clear hz hjl hm hd hq HY;go_wp2_with fail
   refine mo (c1 _) ?_;clear c1;go_wp2
   go_round
   case rel=>exact⟨j+1,by omega,by go_num,q,rfl,HZ⟩
   case measure=>simp[intOf];omega
  ·have HU:Hid (y=iQ l):=by
    have:=HY.out
    rwa[List.take_of_length_le (by have:=HN.out;omega)]at this
   clear hcell HY;go_wp2;go_ret;exact⟨cX HU.out,rfl⟩
theorem tF (v:Value) (l:List Int) (s:Int) (base g:Nat) (w:World) (h:HpB w base g v l) (hd:l.Nodup) (hb:∀x∈l,0<=x/\x<8):
  Calls Tryz.prog 122 #[.pointer (some ⟨g,0,none⟩),.int .i64 s] w fun e w'=>e=.returned (.tuple #[])/\∃u m,HpB w' base g u m/\dT l s 8 m/\Below base w w':=by
 have HH:Hid (HpB w base g v l):=h;have HD:Hid (l.Nodup):=hd;have HB:Hid (∀x∈l,0<=x/\x<8):=hb;clear h hd hb;go_enter Tryz.func122,Tryz.ntmps122;go_wp2;go_loopw [5] (fun i wr=>∃(k:Nat) (u:Value) (m:List Int),i=.int .i64 k/\k<=8/\Hid (HpB wr base g u m/\dT l s k m/\Below base w wr)) (fun i _=>8-(intOf i).toNat)
 case atStart=>exact⟨0,v,l,rfl,by omega,HH.out,dT.start HD.out s,Below.refl _ _⟩
 case round=>
  obtain⟨k,u,m,rfl,hk,HR⟩:=hrel;have k0:wr.cell? ⟨g,0,none⟩=some u:=HR.out.1.cell;by_cases hlt:(k:Int)<8
  ·have c1:=D8 s k wr
   have HS:Hid (inB s k=false->dT l s (k+1) m):=HR.out.2.1.skip;have HT:Hid (inB s k=true->(k:Int)∈m->dT l s (k+1) m):=HR.out.2.1.there;have HP:Hid (∀q:List Int,inB s k=true->(k:Int)∉m->q.Perm (m++[(k:Int)])->((∀y∈m,y<=(k:Int))->q=m++[(k:Int)])->dT l s (k+1) q):=fun q=>HR.out.2.1.push
   have hlm:m.length<=8:=tq HR.out.2.1.nodup (HR.out.2.1.bound HB.out (by omega));have c2:=pD u m k wr HR.out.1.own.reads;have c3:=rS k u m base g wr HR.out.1 (by omega);obtain⟨bi,hbi⟩:=eX (inB s k)
   rw[<-hbi]at c1 HS HT HP;have HC:Hid (decide ((k:Int)∈m)=true->(k:Int)∈m):=of_decide_eq_true;have HC':Hid (decide ((k:Int)∈m)=false->(k:Int)∉m):=of_decide_eq_false;obtain⟨bc,hbc⟩:=eX (decide ((k:Int)∈m))
   rw[<-hbc]at c2 HC HC';unfold AO at c3;clear hbi hbc hlm;go_wp2_with fail
   refine mo c1 ?_;clear c1;cases bi with
   |false=>
    have HA:Hid (dT l s (k+1) m):=HS.out rfl;clear HS HT HP HC HC' c2 c3;go_wp2;go_roundw
    case rel=>exact⟨k+1,u,m,by go_num,by omega,HR.out.1,HA.out,HR.out.2.2⟩
    case measure=>simp[intOf];omega
   |true=>
    have HT':Hid ((k:Int)∈m->dT l s (k+1) m):=HT.out rfl;have HP':Hid (∀q:List Int,(k:Int)∉m->q.Perm (m++[(k:Int)])->((∀y∈m,y<=(k:Int))->q=m++[(k:Int)])->dT l s (k+1) q):=fun q=>HP.out q rfl
    clear HT HP HS;go_wp2_with fail
    refine mo c2 ?_;clear c2;cases bc with
    |true=>
     have HA:Hid (dT l s (k+1) m):=HT'.out (HC.out rfl);clear HT' HP' HC HC' c3;go_wp2;go_roundw
     case rel=>exact⟨k+1,u,m,by go_num,by omega,HR.out.1,HA.out,HR.out.2.2⟩
     case measure=>simp[intOf];omega
    |false=>
     have HA:Hid ((k:Int)∉m):=HC'.out rfl;clear HT' HC HC';go_wp2_with fail
     refine c3.mono ?_;rintro e w3 ⟨rfl,u3,q,h3,p3,s3,b3⟩;have HZ:Hid (HpB w3 base g u3 q/\dT l s (k+1) q/\Below base w w3):=⟨h3,HP'.out q HA.out p3 s3,HR.out.2.2.trans b3⟩
     clear c3 h3 p3 s3 b3 HP' HA;go_wp2;go_roundw
     case rel=>exact⟨k+1,u3,q,by go_num,by omega,HZ.out⟩
     case measure=>simp[intOf];omega
  ·have hk8:k=8:=by omega
   clear k0;go_wp2
   go_end0
   have:=HR.out;rw[hk8]at this;exact⟨rfl,u,m,this⟩
theorem vT (v:Value) (c:Cp) (w:World) (hr:ag w v c.ts):
  Calls Tryz.prog 121 #[CpV v c] w fun e w'=>∃u,e=.returned u/\Own w' w.heap.size u (fh c.di 8)/\bB w w':=by
 obtain⟨ao,cap,rfl⟩:=aa hr;obtain⟨w1,hw1⟩:=eX (w.alloc (.cells (cpA (.slice ao c.ts.length cap) c) 39))
 obtain⟨w2,hw2⟩:=eX (w1.alloc (.cells #[] 2))
 obtain⟨w3,hw3⟩:=eX (w2.alloc (.cells #[.slice (some ⟨w.heap.size+1,0,none⟩) 0 0] 140))
 have z1:w1.heap.size=w.heap.size+1:=by rw[hw1,World.size_alloc]
 have z2:w2.heap.size=w.heap.size+1+1:=by rw[hw2,World.size_alloc,z1]
 have b1:bB w w1:=by rw[hw1];exactbA
 have b2:bB w1 w2:=by rw[hw2];exactbA
 have b3:bB w2 w3:=by rw[hw3];exactbA
 have s1:StB w3 w.heap.size 39 (cpA (.slice ao c.ts.length cap) c):=by
  have:StB w1 w.heap.size 39 (cpA (.slice ao c.ts.length cap) c):=by rw[hw1];exact StB.new _ _ _
  exact(this.below b2).below b3
 have o2:Own w2 w.heap.size (.slice (some ⟨w.heap.size+1,0,none⟩) 0 0) []:=by
  rw[<-z1,hw2];exact Own.mono (World.ownsRow_lit w1 #[] 0 (Nat.le_refl _) (Nat.zero_le _) rfl) (by omega)
 have h3:HpB w3 w.heap.size (w.heap.size+1+1) (.slice (some ⟨w.heap.size+1,0,none⟩) 0 0) []:=by
  refine⟨?_,o2.below b3,by omega⟩;rw[<-z2,hw3];exact StB.new _ _ _
 have B3:Hid (bB w w3):=(b1.trans (b2.mono b1.size)).trans (b3.mono (Nat.le_trans b1.size b2.size));have c1:=tF _ [] c.di w.heap.size (w.heap.size+1+1) w3 h3 List.nodup_nil (by simp);have k2:w3.cell? ⟨w.heap.size,2,none⟩=some (.int .i64 c.di):=s1.cell 2 rfl;have HW:Hid (w3=((w.alloc (.cells #[.int .i64 c.tr,.bool c.op,.int .i64 c.di,.int .i64 c.wa,.slice ao c.ts.length cap] 39)).alloc (.cells #[] 2)).alloc (.cells #[.slice (some ⟨w.heap.size+1,0,none⟩) 0 0] 140)):=by rw[Hid,hw3,hw2,hw1];rfl
 clear hr hw1 hw2 hw3 z1 z2 b1 b2 b3 s1 o2 h3;unfold CpV cpA;go_enter Tryz.func121,Tryz.ntmps121;go_upto_region 2 with fail
 rw[<-HW.out];clear HW;go_wp2_with fail
 refine c1.mono ?_;rintro e w4 ⟨rfl,u,m,h4,a4,b4⟩;have k4:=h4.cell;obtain⟨ao4,cap4,rfl⟩:=aa h4.own.reads;have HE:Hid (Own w4 w.heap.size (.slice ao4 m.length cap4) (fh c.di 8)/\bB w w4):=⟨by rw[<-a4.bag rfl];exact h4.own,B3.out.trans b4⟩
 clear c1 h4 a4 b4 B3 k2;go_wp2;go_ret;exact⟨_,rfl,HE.out⟩
structure CoS (w wx:World) (g:Nat) (v u:Value) (c d:Cp):Prop where
 p:StB wx w.heap.size 39 (cpA v c)
 q:StB wx (w.heap.size+1) 39 cQ
 r:StB wx g 39 (cpA u d)
 o:bO wx w.heap.size u d.ts
 b:bB w wx
 l:w.heap.size+1<g
theorem CoS.start {w w2 w3:World} {v u:Value} {c:Cp} (hp:StB w2 w.heap.size 39 (cpA v c)) (hq:StB w2 (w.heap.size+1) 39 cQ) (hb:bB w w2) (hs:w.heap.size+1<w2.heap.size) (o3:bO w3 w2.heap.size u c.ts) (b3:bB w2 w3):CoS w (w3.alloc (.cells (cpA u c) 39)) w3.heap.size v u c c:=by
 have b4:bB w3 (w3.alloc (.cells (cpA u c) 39)):=bA;exact⟨(hp.below b3).below b4,(hq.below b3).below b4,StB.new _ _ _,(o3.below b4).mono (by omega),(hb.trans (b3.mono hb.size)).trans (b4.mono (Nat.le_trans hb.size b3.size)),Nat.lt_of_lt_of_le hs b3.size⟩
theorem CoS.below {w wx wy:World} {g:Nat} {v u:Value} {c d:Cp} (h:CoS w wx g v u c d) (b:bB wx wy):CoS w wy g v u c d:=
 ⟨h.p.below b,h.q.below b,h.r.below b,h.o.below b,h.b.trans (b.mono h.b.size),h.l⟩
theorem CoS.put {w wx:World} {g:Nat} {v u:Value} {c d e:Cp} (h:CoS w wx g v u c d) (j:Nat) (x:Value) (he:(cpA u d).setIfInBounds j x=cpA u e) (ht:e.ts=d.ts):CoS w (wx.setCell ⟨g,j,none⟩ x) g v u c e:=
 ⟨h.p.other _ _ (by have:=h.l;show w.heap.size≠g;omega),h.q.other _ _ (by have:=h.l;show w.heap.size+1≠g;omega),h.r.put j x he,by rw[ht];exact h.o.set h.r (by decide) x,h.b.setCell (by have:=h.l;show w.heap.size<=g;omega) _,h.l⟩
theorem CoS.fin {w wx wy:World} {g:Nat} {v u:Value} {c d:Cp} (h:CoS w wx g v u c d) (G:wx.grownBy wy (some (w.heap.size+1))):bO wy w.heap.size u d.ts/\bB w wy:=
 ⟨h.o.putBy h.q (by decide) G,h.b.grown G h.b.size (fun k e=>by cases e;omega)⟩
theorem CoS.row {w wx:World} {g r n cap:Nat} {v:Value} {c d:Cp} {j:Nat} {x:Int} (h:CoS w wx g v (.slice (some ⟨r,0,none⟩) n cap) c d) (o:Own wx w.heap.size (.slice (some ⟨r,0,none⟩) n cap) d.ts) (O:Own (wx.setCell ⟨r,j,none⟩ (.int .i64 x)) w.heap.size (.slice (some ⟨r,0,none⟩) n cap) (d.ts.set j x)):CoS w (wx.setCell ⟨r,j,none⟩ (.int .i64 x)) g v (.slice (some ⟨r,0,none⟩) n cap) c {d with ts:=d.ts.set j x}:=by
 have hne:∀(k:Nat) (cs:Array Value),StB wx k 39 cs->k≠r:=fun k cs hk e=>o.ne hk (by decide) (by rw[e];rfl)
 exact⟨h.p.other _ _ (hne _ _ h.p),h.q.other _ _ (hne _ _ h.q),h.r.other _ _ (hne _ _ h.r),.inl O,h.b.setCell (o.lt r rfl).1 _,h.l⟩
theorem CoS.cells {w wx:World} {g:Nat} {v u:Value} {c d:Cp} (h:CoS w wx g v u c d) (j:Nat) {x:Value} (e:(cpA u d)[j]?=some x):wx.cell? ⟨g,j,none⟩=some x/\wx.frozen? ⟨g,j,none⟩=false:=⟨h.r.cell j e,h.r.frozen j⟩
theorem tz (v:Value) (c:Cp) (i:Int) (w:World) (hr:ag w v c.ts) (hl:c.ts.length<=1099511627776):
  Calls Tryz.prog 79 #[CpV v c,.int .i64 i] w fun e w'=>∃u,e=.returned (CpV u (c.Mark i))/\bO w' w.heap.size u (c.Mark i).ts/\bB w w':=by
 obtain⟨w1,hw1⟩:=eX ((w.alloc (.cells (cpA v c) 39)).alloc (.cells cQ 39))
 have p0:StB w1 w.heap.size 39 (cpA v c):=by rw[hw1];exact(StB.new w _ _).alloc _
 have q0:StB w1 (w.heap.size+1) 39 cQ:=by
  rw[hw1];have:=StB.new (w.alloc (.cells (cpA v c) 39)) 39 cQ
  rwa[World.size_alloc]at this
 have b1:bB w w1:=by rw[hw1];exactbA.alloc (by simp) _
 have c1:=nZ v c w1 (hr.below b1 (Nat.le_refl _)) hl;have cf:Hid (∀wx,ag wx v c.ts->_):=fun wx h=>mF v c wx h hl
 obtain⟨ao,cap,rfl⟩:=aa hr;have HW:Hid (w1=(w.alloc (.cells #[.int .i64 c.tr,.bool c.op,.int .i64 c.di,.int .i64 c.wa,.slice ao c.ts.length cap] 39)).alloc (.cells #[.int .i64 0,.bool false,.int .i64 0,.int .i64 0,.slice none 0 0] 39)):=hw1;have hs1:=q0.lt;have HP:Hid (StB w1 w.heap.size 39 (cpA (.slice ao c.ts.length cap) c)/\StB w1 (w.heap.size+1) 39 cQ/\bB w w1/\ag w (.slice ao c.ts.length cap) c.ts):=⟨p0,q0,b1,hr⟩
 clear hw1 hr;have k0:w1.cell? ⟨w.heap.size,0,none⟩=some (.int .i64 c.tr):=p0.cell 0 rfl;have k1:w1.cell? ⟨w.heap.size,1,none⟩=some (.bool c.op):=p0.cell 1 rfl;have k2:w1.cell? ⟨w.heap.size,2,none⟩=some (.int .i64 c.di):=p0.cell 2 rfl;have k3:w1.cell? ⟨w.heap.size,3,none⟩=some (.int .i64 c.wa):=p0.cell 3 rfl;have k4:w1.cell? ⟨w.heap.size,4,none⟩=some (.slice ao c.ts.length cap):=p0.cell 4 rfl;clear p0 q0 b1;cases ok:c.ok with
 |false=>
  have e0:c.Mark i=Cp.zero:=by unfold Cp.Mark;rw[ok];rfl
  rw[e0];rw[ok]at c1;unfold CpV at c1⊢;conv in cpA (.slice ao c.ts.length cap) c=>unfold cpA
  conv at c1 in cpA (.slice ao c.ts.length cap) c=>unfold cpA
  clear e0 cf;go_enter Tryz.func79,Tryz.ntmps79;go_wp2_with fail
  rw[<-HW.out];refine c1.mono ?_;rintro e w2 ⟨rfl,b2⟩;have q2:=HP.out.2.1.below b2;have HB2:Hid (bB w w2):=HP.out.2.2.1.trans (b2.mono HP.out.2.2.1.size);have HS2:=b2.size;clear HW HP c1 k0 k1 k2 k3 k4 b2;go_wp2_with (refine ae Tryz.isCp rfl _ _ rfl (w.heap.size+1) cQ cQ rfl rfl rfl rfl xl q2 ?_;intro w8 s8 g8)
  refine bodyPost_ret (aj Tryz.isCp rfl _ _ (w.heap.size+1) _ rfl rfl s8) rfl ?_;exact⟨.slice none 0 0,rfl,.inl (Own.nil _ _),HB2.out.grown g8 HB2.out.size (fun k e=>by cases e;omega)⟩
 |true=>
  have e0:c.Mark i=c.mark i:=by unfold Cp.Mark;rw[ok];rfl
  rw[e0];have FT:Hid c.Fit:=Cp.fit ok;rw[ok]at c1;unfold CpV at c1 cf⊢;conv in cpA (.slice ao c.ts.length cap) c=>unfold cpA
  conv at c1 in cpA (.slice ao c.ts.length cap) c=>unfold cpA
  conv at cf in cpA (.slice ao c.ts.length cap) c=>unfold cpA
  clear e0;go_enter Tryz.func79,Tryz.ntmps79;go_wp2_with fail
  rw[<-HW.out];refine c1.mono ?_;rintro e w2 ⟨rfl,b2⟩;have p2:=HP.out.1.below b2;have q2:=HP.out.2.1.below b2;have B2:bB w w2:=HP.out.2.2.1.trans (b2.mono HP.out.2.2.1.size);have HR:Hid (ag w (.slice ao c.ts.length cap) c.ts):=HP.out.2.2.2;have c2:=cf.out w2 (HR.out.below B2 (Nat.le_refl _));have HS2:Hid (w.heap.size+1<w2.heap.size):=Nat.lt_of_lt_of_le hs1 b2.size;have HQ:Hid (StB w2 w.heap.size 39 (cpA (.slice ao c.ts.length cap) c)/\StB w2 (w.heap.size+1) 39 cQ/\bB w w2):=⟨p2,q2,B2⟩
  clear HW HP c1 cf k0 k1 k2 k3 k4 b2 q2 B2 hs1;have k0:w2.cell? ⟨w.heap.size,0,none⟩=some (.int .i64 c.tr):=p2.cell 0 rfl;have k1:w2.cell? ⟨w.heap.size,1,none⟩=some (.bool c.op):=p2.cell 1 rfl;have k2:w2.cell? ⟨w.heap.size,2,none⟩=some (.int .i64 c.di):=p2.cell 2 rfl;have k3:w2.cell? ⟨w.heap.size,3,none⟩=some (.int .i64 c.wa):=p2.cell 3 rfl;have k4:w2.cell? ⟨w.heap.size,4,none⟩=some (.slice ao c.ts.length cap):=p2.cell 4 rfl;clear p2;go_wp2_with fail
  refine c2.mono ?_;rintro e w3 ⟨u,rfl,o3,b3⟩;obtain⟨bo,bc,rfl⟩:=aa o3.reads;clear k0 k1 k2 k3 k4 c2;obtain⟨w4,hw4⟩:=eX (w3.alloc (.cells (cpA (.slice bo c.ts.length bc) c) 39))
  obtain⟨g,hg⟩:=eX w3.heap.size
  have HC:Hid (CoS w w4 g (.slice ao c.ts.length cap) (.slice bo c.ts.length bc) c c):=by
   rw[hw4,hg];exact CoS.start HQ.out.1 HQ.out.2.1 HQ.out.2.2 HS2.out o3 b3
  unfold cpA at hw4⊢;clear HQ HS2 o3 b3;go_upto_region 4 with fail
  rw[<-hw4,<-hg];clear hw4 hg;have k0:w4.cell? ⟨w.heap.size,0,none⟩=some (.int .i64 c.tr):=HC.out.p.cell 0 rfl;have k1:w4.cell? ⟨w.heap.size,1,none⟩=some (.bool c.op):=HC.out.p.cell 1 rfl;have k2:w4.cell? ⟨w.heap.size,2,none⟩=some (.int .i64 c.di):=HC.out.p.cell 2 rfl;have k3:w4.cell? ⟨w.heap.size,3,none⟩=some (.int .i64 c.wa):=HC.out.p.cell 3 rfl;have k4:w4.cell? ⟨w.heap.size,4,none⟩=some (.slice ao c.ts.length cap):=HC.out.p.cell 4 rfl;have ch:=AL (.slice ao c.ts.length cap) c i w4 (HR.out.below HC.out.b (Nat.le_refl _));obtain⟨bh,hbh⟩:=eX (c.has i)
  rw[<-hbh]at ch;unfold CpV cpA at ch;have HH:Hid (bh=c.has i):=hbh;clear hbh;go_wp2_with fail
  refine ch.mono ?_;rintro e w5 ⟨rfl,bq⟩;replace HC:Hid (CoS w w5 g (.slice ao c.ts.length cap) (.slice bo c.ts.length bc) c c):=HC.out.below bq;clear ch bq;clear k0 k1 k2 k3 k4;cases bh with
  |false=>
   have HA:Hid (c.mark i=c):=by
    rw[Hid];unfold Cp.mark;rw[<-HH.out];rfl
   clear HH HR FT;go_wp2_with (first|(refine ah Tryz.isCp rfl _ rfl g rfl (cpA (.slice bo c.ts.length bc) (c)) rfl (HC.out).r ?_)|(refine ae Tryz.isCp rfl _ _ rfl (w.heap.size+1) (cpA (.slice bo c.ts.length bc) (c)) cQ rfl rfl rfl rfl (lD _ rfl) (HC.out).q ?_;intro w8 s8 g8))
   refine bodyPost_ret (aj Tryz.isCp rfl _ _ (w.heap.size+1) _ rfl rfl s8) rfl ?_;obtain⟨hm,hb⟩:=(HC.out).fin g8;exact⟨_,by rw[HA.out],by rw[HA.out];exact hm,hb⟩
  |true=>
   have hi:=(xV c i).1 HH.out.symm;obtain⟨j,rfl⟩:=dM hi.1;have h8:j<8:=by have:=FT.out.len;omega
   have HA:Hid (c.mark j={c with di:=cq c.di j}):=by
    rw[Hid];unfold Cp.mark;rw[<-HH.out];rfl
   have HO:Hid (∀m,dT (fh c.di 8) (cq 0 j) 8 m->iQ m=cq c.di j):=by
    intro m hm;have z:=yP j h8;have hd0:=FT.out.di0;have hd:=FT.out.d;rw[yO hd0 hd z.2.1 (by omega) hm];obtain⟨k,hk⟩:=dM hd0;rw[hk]at hd⊢;exact z.2.2 k (by omega)
   clear hi h8 HH;have k0:w5.cell? ⟨w.heap.size,0,none⟩=some (.int .i64 c.tr):=HC.out.p.cell 0 rfl;have k1:w5.cell? ⟨w.heap.size,1,none⟩=some (.bool c.op):=HC.out.p.cell 1 rfl;have k2:w5.cell? ⟨w.heap.size,2,none⟩=some (.int .i64 c.di):=HC.out.p.cell 2 rfl;have k3:w5.cell? ⟨w.heap.size,3,none⟩=some (.int .i64 c.wa):=HC.out.p.cell 3 rfl;have k4:w5.cell? ⟨w.heap.size,4,none⟩=some (.slice ao c.ts.length cap):=HC.out.p.cell 4 rfl;have cd:=vT (.slice ao c.ts.length cap) c w5 (HR.out.below HC.out.b (Nat.le_refl _));unfold CpV cpA at cd;go_wp2_with fail
   refine cd.mono ?_;rintro e w6 ⟨ud,rfl,od,bd⟩;obtain⟨dO,dC,rfl⟩:=aa od.reads;obtain⟨w7,hN⟩:=eX (w6.alloc (.cells #[.slice dO (fh c.di 8).length dC] 140))
   obtain⟨h,hh⟩:=eX w6.heap.size
   have bN:bB w6 w7:=by rw[hN];exactbA
   have HD:Hid (HpB w7 w5.heap.size h (.slice dO (fh c.di 8).length dC) (fh c.di 8)):=⟨by rw[hN,hh];exact StB.new _ _ _,od.below bN,by rw[hh];exact bd.size⟩
   have HX:Hid (bB w5 w7):=bd.trans (bN.mono bd.size);clear cd od bd bN;clear k0 k1 k2 k3 k4;go_upto_region 6 with fail
   rw[<-hN,<-hh];clear hN hh;have cw:=BV 0 j w7;obtain⟨a,ha⟩:=eX (cq 0 j)
   rw[<-ha]at cw HO;clear ha;have ca:=tF _ (fh c.di 8) (a) _ h w7 HD.out (vF _ _) (fun x hx=>by have:=iD hx;omega);go_wp2_with fail
   refine mo cw ?_;clear cw;go_wp2_with fail
   refine ca.mono ?_;rintro e w8 ⟨rfl,um,m,h8,a8,b8⟩;replace HX:Hid (bB w5 w8):=HX.out.trans b8;have HM:Hid (dT (fh c.di 8) (a) 8 m):=a8;replace HD:Hid (HpB w8 w5.heap.size h um m):=h8;clear ca h8 a8 b8;have kh:=HD.out.cell;have cs:=AQ um m w8 HD.out.own.reads (HM.out.bound (fun x hx=>by have:=iD hx;omega) (Nat.le_refl _));obtain⟨z,hz⟩:=eX (iQ m)
   rw[<-hz]at cs;have HZ:Hid (z=iQ m):=hz;obtain⟨mO,mC,rfl⟩:=aa HD.out.own.reads;clear hz;have e9:z=cq c.di j:=by rw[HZ.out];exact HO.out m HM.out
   have HE:Hid (c.mark j={c with di:=z}):=by rw[e9];exact HA.out
   replace HC:Hid (CoS w w8 g (.slice ao c.ts.length cap) (.slice bo c.ts.length bc) c c):=HC.out.below HX.out;have HF:Hid (CoS w (w8.setCell ⟨g,2,none⟩ (.int .i64 z)) g (.slice ao c.ts.length cap) (.slice bo c.ts.length bc) c {c with di:=z}):=HC.out.put 2 (.int .i64 z) rfl rfl;obtain⟨m2,f2⟩:=HC.out.cells 2 (x:=.int .i64 c.di) rfl;clear HA HO HM HZ HX HD HC HR FT e9;go_wp2_with fail
   refine mo cs ?_;go_upto_region 8 with fail
   obtain⟨wz,hwz⟩:=eX (w8.setCell ⟨g,2,none⟩ (.int .i64 z))
   rw[<-hwz]at HF⊢;clear hwz cs kh m2 f2;go_wp2_with (first|(refine ah Tryz.isCp rfl _ rfl g rfl (cpA (.slice bo c.ts.length bc) ({c with di:=z})) rfl (HF.out).r ?_)|(refine ae Tryz.isCp rfl _ _ rfl (w.heap.size+1) (cpA (.slice bo c.ts.length bc) ({c with di:=z})) cQ rfl rfl rfl rfl (lD _ rfl) (HF.out).q ?_;intro w8 s8 g8))
   refine bodyPost_ret (aj Tryz.isCp rfl _ _ (w.heap.size+1) _ rfl rfl s8) rfl ?_;obtain⟨hm,hb⟩:=(HF.out).fin g8;exact⟨_,by rw[HE.out],by rw[HE.out];exact hm,hb⟩
def Nd.cmd (n:Nd) (i:Int) (c:Cm):Nd×An:=
 ({n with xs:=(Sr.did ⟨n.xs,n.ys,n.h⟩ i c).1.xs,ys:=(Sr.did ⟨n.xs,n.ys,n.h⟩ i c).1.ys,h:=(Sr.did ⟨n.xs,n.ys,n.h⟩ i c).1.h,c:=if decide ((Sr.did ⟨n.xs,n.ys,n.h⟩ i c).2.st=0)&&c.chg then n.c.Mark c.p else n.c},(Sr.did ⟨n.xs,n.ys,n.h⟩ i c).2)
theorem aO.did {w w':World} {base:Nat} {a b k q z a' b' k':Value} {n:Nd} {xs ys:List Int} {h':Hd} (h:aO w base a b k q z n) (hb:base<=w.heap.size) (B:bB w w') (o:aY w' w.heap.size a' b' k' xs ys h'.ks):aO w' base a' b' k' q z {n with xs:=xs,ys:=ys,h:=h'}:=by
 have ha:=fun x hx=>(aM o.1.1 x hx).1
 have hb':=fun x hx=>(aM o.1.2.1 x hx).1
 have hk:=fun x hx=>(aM o.2.1 x hx).1
 have hq:=fun{x:Nat} (hx:x∈bm q n.c.ts)=>(eL h.oq hx).2
 have hz:=fun{x:Nat} (hx:x∈bm z n.s.ts)=>(eL h.oz hx).2
 exact⟨o.1.1.mono hb,o.1.2.1.mono hb,o.2.1.mono hb,h.oq.below B,h.oz.below B,⟨eK.1 o.1.2.2,eK.1 o.2.2.1,fun x h1 h2=>by have:=ha x h1;have:=hq h2;omega,fun x h1 h2=>by have:=ha x h1;have:=hz h2;omega,eK.1 o.2.2.2,
  fun x h1 h2=>by have:=hb' x h1;have:=hq h2;omega,fun x h1 h2=>by have:=hb' x h1;have:=hz h2;omega,fun x h1 h2=>by have:=hk x h1;have:=hq h2;omega,fun x h1 h2=>by have:=hk x h1;have:=hz h2;omega,h.ap.h45⟩⟩
theorem aO.marked {w w':World} {base:Nat} {a b k q z u:Value} {n:Nd} {c':Cp} (h:aO w base a b k q z n) (hb:base<=w.heap.size) (B:bB w w') (o:bO w' w.heap.size u c'.ts):aO w' base a b k u z {n with c:=c'}:=by
 have ha:=fun x hx=>(aM h.oa x hx).2
 have hb':=fun x hx=>(aM h.ob x hx).2
 have hk:=fun x hx=>(aM h.ok x hx).2
 have hq:=fun{x:Nat} (hx:x∈bm u c'.ts)=>(eL o hx).1
 have hz:=fun{x:Nat} (hx:x∈bm z n.s.ts)=>(eL h.oz hx).2
 exact⟨h.oa.below B,h.ob.below B,h.ok.below B,o.mono hb,h.oz.below B,⟨h.ap.h12,h.ap.h13,fun x h1 h2=>by have:=ha x h1;have:=hq h2;omega,h.ap.h15,h.ap.h23,fun x h1 h2=>by have:=hb' x h1;have:=hq h2;omega,h.ap.h25,fun x h1 h2=>by have:=hk x h1;have:=hq h2;omega,h.ap.h35,fun x h1 h2=>by have:=hq h1;have:=hz h2;omega⟩⟩
structure fW (w wx:World) (cs:Array Value) (c:Cm):Prop where
 p:StB wx w.heap.size 42 cs
 c:StB wx (w.heap.size+1) 66 (cmA c)
 r:StB wx (w.heap.size+1+1) 42 aA
 ra:StB wx (w.heap.size+1+1+1) 44 (anA ⟨0,[]⟩)
 b:bB w wx
theorem fW.start (w:World) (cs:Array Value) (c:Cm):fW w ((((w.alloc (.cells cs 42)).alloc (.cells (cmA c) 66)).alloc (.cells aA 42)).alloc (.cells (anA ⟨0,[]⟩) 44)) cs c:=by
 have r1:=StB.new (w.alloc (.cells cs 42)) 66 (cmA c);rw[World.size_alloc]at r1;have r2:=StB.new ((w.alloc (.cells cs 42)).alloc (.cells (cmA c) 66)) 42 aA;rw[World.size_alloc,World.size_alloc]at r2;have r3:=StB.new (((w.alloc (.cells cs 42)).alloc (.cells (cmA c) 66)).alloc (.cells aA 42)) 44 (anA ⟨0,[]⟩);rw[World.size_alloc,World.size_alloc,World.size_alloc]at r3;exact⟨(((StB.new w _ _).alloc _).alloc _).alloc _,(r1.alloc _).alloc _,r2.alloc _,r3,((bA.alloc (by simp) _).alloc (by simp;omega) _).alloc (by simp;omega) _⟩
theorem fW.below {w wx wy:World} {cs:Array Value} {c:Cm} (h:fW w wx cs c) (B:bB wx wy):fW w wy cs c:=⟨h.p.below B,h.c.below B,h.r.below B,h.ra.below B,h.b.trans (B.mono h.b.size)⟩
theorem fW.put {w wx:World} {cs ds:Array Value} {c:Cm} (h:fW w wx cs c) (j:Nat) (x:Value) (e:cs.setIfInBounds j x=ds):fW w (wx.setCell ⟨w.heap.size,j,none⟩ x) ds c:=
 ⟨h.p.put j x e,h.c.other _ _ (by show w.heap.size+1≠w.heap.size;omega),h.r.other _ _ (by show w.heap.size+1+1≠w.heap.size;omega),h.ra.other _ _ (by show w.heap.size+1+1+1≠w.heap.size;omega),h.b.setCell (Nat.le_refl _) _⟩
theorem fW.kept {w wx wy:World} {cs:Array Value} {c:Cm} {g:Nat} (h:fW w wx cs c) (G:wx.grownBy wy (some g)) (hg:w.heap.size+4<=g):fW w wy cs c:=
 ⟨h.p.kept G (by simp;omega),h.c.kept G (by simp;omega),h.r.kept G (by simp;omega),h.ra.kept G (by simp;omega),h.b.grown G h.b.size (fun k e=>by cases e;omega)⟩
theorem fW.lt {w wx:World} {cs:Array Value} {c:Cm} (h:fW w wx cs c):w.heap.size+4<=wx.heap.size:=h.ra.lt
theorem Cy (w:World) (g:Nat) (j1 j2 j3 j4 j5 j6:Nat) (x1 x2 x3 x4 x5 x6:Value):aw w ((((((w.setCell ⟨g,j1,none⟩ x1).setCell ⟨g,j2,none⟩ x2).setCell ⟨g,j3,none⟩ x3).setCell ⟨g,j4,none⟩ x4).setCell ⟨g,j5,none⟩ x5).setCell ⟨g,j6,none⟩ x6).drew [g]:=
 (((((((aw.of_grown (ai w g j1 _)).sub (by simp)).then ((aw.of_grown (ai _ g j2 _)).sub (by simp))).then ((aw.of_grown (ai _ g j3 _)).sub (by simp))).then ((aw.of_grown (ai _ g j4 _)).sub (by simp))).then ((aw.of_grown (ai _ g j5 _)).sub (by simp))).then ((aw.of_grown (ai _ g j6 _)).sub (by simp))).then (aw.below _ (Below.refl _ _).drew)
theorem Cz (w:World) (g:Nat) (j1 j2 j3 j4 j5:Nat) (x1 x2 x3 x4 x5:Value):aw w (((((w.setCell ⟨g,j1,none⟩ x1).setCell ⟨g,j2,none⟩ x2).setCell ⟨g,j3,none⟩ x3).setCell ⟨g,j4,none⟩ x4).setCell ⟨g,j5,none⟩ x5) [g]:=
 (((((aw.of_grown (ai w g j1 _)).sub (by simp)).then ((aw.of_grown (ai _ g j2 _)).sub (by simp))).then ((aw.of_grown (ai _ g j3 _)).sub (by simp))).then ((aw.of_grown (ai _ g j4 _)).sub (by simp))).then ((aw.of_grown (ai _ g j5 _)).sub (by simp))
theorem aO.turned {w w':World} {base g:Nat} {a b k q z:Value} {n:Nd} {t:TypeId} {cs:Array Value} (h:aO w base a b k q z n) (T:aw w w' [g]) (s:StB w g t cs) (ty:t≠2):aO w' base a b k q z n:=by
 have ne:∀x∈mf a b k q z n,x≠g:=fun x hx e=>by
  subst e;have hq:∀v xs,bO w base v xs->x∈bm v xs->False:=fun v xs hm hx=>by
   have hx':xs≠[]:=fun e=>by rw[e]at hx;simp[bm]at hx
   exact(hm.own hx').ne s ty (by have:=dK hx;simpa[blk]using this)
  have hb:∀v xs,Own w base v xs->x∈blk v->False:=fun v xs ho hx=>ho.ne s ty (by simpa[blk]using hx)
  rcases eU.1 hx with hx|hx|hx|hx|hx
  ·exact hb _ _ h.oa hx
  ·exact hb _ _ h.ob hx
  ·exact hb _ _ h.ok hx
  ·exact hq _ _ h.oq hx
  ·exact hq _ _ h.oz hx
 exact h.frame fun x hx=>T.block x (h.lt hx).2 (by simpa using ne x hx)
end Go.Proofs.YthldeiojlllkdaaGreatDoor
