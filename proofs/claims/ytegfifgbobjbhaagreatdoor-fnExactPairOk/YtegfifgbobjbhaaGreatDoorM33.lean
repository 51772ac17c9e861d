/- Pairs by the program: Event.ok, eventsOk, nodesOk, PairOk, owns, Owners. -/
import Derived.Test.YtegfifgbobjbhaaGreatDoorM32
import Derived.Test.YtegfifgbobjbhaaGreatDoorM22
import Derived.Test.YtegfifgbobjbhaaGreatDoorM30
import Derived.Test.YtegfifgbobjbhaaGreatDoorM19
set_option maxRecDepth 20000
set_option maxHeartbeats 4000000
namespace Go.Proofs.YtegfifgbobjbhaaGreatDoor
open Go.ChangeShapes Go.WideShapes Go.ChangeAt Go.RowKit
theorem ibytes_any (s:Bs) (w:World):
  Calls Tryz.prog 110 #[S s] w fun r w'=>r=.returned (.bool (decide (s.length≤20)))∧w'=w:=by
 have hsz:(⟨s.toArray⟩:ByteArray).size=s.length:=rfl
 unfold S
 by_cases h:s.length≤20
 ·have h':(s.length:Int)≤20:=by omega
  have e:decide (s.length≤20)=true:=by simp[h]
  rw[e]
  clear e
  go_enter Tryz.func110,Tryz.ntmps110
  go_wp2
  go_ret
  exact⟨rfl,rfl⟩
 ·have h':¬(s.length:Int)≤20:=by omega
  have e:decide (s.length≤20)=false:=by simp[h]
  rw[e]
  clear e
  go_enter Tryz.func110,Tryz.ntmps110
  go_wp2
  go_ret
  exact⟨rfl,rfl⟩
theorem istatus_any (x:Int) (w:World):
  Calls Tryz.prog 111 #[.int .i64 x] w fun r w'=>r=.returned (.bool (inI x 0 7))∧w'=w:=by
 by_cases h0:0≤x
 ·by_cases h1:x≤7
  ·have he:inI x 0 7=true:=by simp[inI,h0,h1]
   rw[he]
   clear he
   go_enter Tryz.func111,Tryz.ntmps111
   go_wp2
   go_ret
   exact⟨rfl,rfl⟩
  ·have he:inI x 0 7=false:=by simp[inI,h1]
   rw[he]
   clear he
   go_enter Tryz.func111,Tryz.ntmps111
   go_wp2
   go_ret
   exact⟨rfl,rfl⟩
 ·have he:inI x 0 7=false:=by simp[inI,h0]
  rw[he]
  clear he
  go_enter Tryz.func111,Tryz.ntmps111
  go_wp2
  go_ret
  exact⟨rfl,rfl⟩
theorem ieventok_any (e:Ev) (w:World):
  Calls Tryz.prog 83 #[.agg (evA e)] w fun r w'=>r=.returned (.bool e.ok)∧Below w.heap.size w w':=by
 have CW:Hid (∀wx,Calls Tryz.prog 109 #[.int .i64 e.who] wx fun r w'=>r=.returned (.bool (inI e.who 0 3))∧w'=wx):=fun wx=>iperson_any e.who wx
 have CB:Hid (∀wx,Calls Tryz.prog 110 #[S e.bs] wx fun r w'=>r=.returned (.bool (decide (e.bs.length≤20)))∧w'=wx):=fun wx=>ibytes_any e.bs wx
 have CI:Hid (∀wx,Calls Tryz.prog 111 #[.int .i64 e.an.st] wx fun r w'=>r=.returned (.bool (inI e.an.st 0 7))∧w'=wx):=fun wx=>istatus_any e.an.st wx
 have CS:Hid (∀wx,Calls Tryz.prog 112 #[.int .i64 e.set] wx fun r w'=>r=.returned (.bool (setOk e.set))∧w'=wx):=fun wx=>bsok_any e.set wx
 obtain⟨kd,who,bs,⟨st,tx⟩,set⟩:=e
 have hb:Hid (Below w.heap.size w (w.alloc (.cells (evA ⟨kd,who,bs,⟨st,tx⟩,set⟩) 60))):=(Below.refl _ _).alloc (Nat.le_refl _) _
 have hsz:(⟨bs.toArray⟩:ByteArray).size=bs.length:=rfl
 unfold evA S at*
 dsimp only at*
 by_cases h1:kd=1
 ·subst h1
  obtain⟨b1,hb1⟩:∃b,b=inI who 0 3:=⟨_,rfl⟩
  obtain⟨b2,hb2⟩:∃b,b=inI st 0 7:=⟨_,rfl⟩
  have HE:Hid (Ev.ok ⟨1,who,bs,⟨st,tx⟩,set⟩=(b1&&decide (bs.length≤20)&&decide (set=0)&&b2)):=by rw[hb1,hb2];rfl
  rw[←hb1]at CW
  rw[←hb2]at CI
  clear hb1 hb2 CS
  go_enter Tryz.func83,Tryz.ntmps83
  go_wp2_with fail
  refine(CW.out _).mono ?_
  rintro r w' ⟨rfl,hw⟩;subst w'
  clear CW
  cases b1 with
  |false=>
   go_wp2
   go_ret
   rw[HE.out]
   exact⟨rfl,hb.out⟩
  |true=>
   go_wp2_with fail
   refine(CB.out _).mono ?_
   rintro r w' ⟨rfl,hw⟩;subst w'
   clear CB
   obtain⟨b3,hb3⟩:∃b,b=decide (bs.length≤20):=⟨_,rfl⟩
   rw[←hb3]
   have HE3:Hid (decide (bs.length≤20)=b3):=hb3.symm
   clear hb3
   cases b3 with
   |false=>
    have HX:Hid (Ev.ok ⟨1,who,bs,⟨st,tx⟩,set⟩=false):=by rw[Hid,HE.out,HE3.out];rfl
    clear HE CI
    go_wp2
    go_ret
    rw[HX.out]
    exact⟨rfl,hb.out⟩
   |true=>
    go_wp2_with fail
    refine(CI.out _).mono ?_
    rintro r w' ⟨rfl,hw⟩;subst w'
    clear CI
    cases b2 with
    |false=>
     have HX:Hid (Ev.ok ⟨1,who,bs,⟨st,tx⟩,set⟩=false):=by rw[Hid,HE.out];simp
     clear HE
     go_wp2
     go_ret
     rw[HX.out]
     exact⟨rfl,hb.out⟩
    |true=>
     by_cases hs0:set=0
     ·have HX:Hid (Ev.ok ⟨1,who,bs,⟨st,tx⟩,set⟩=true):=by rw[Hid,HE.out,HE3.out];simp[hs0]
      clear HE
      subst hs0
      go_wp2
      go_ret
      rw[HX.out]
      exact⟨rfl,hb.out⟩
     ·have HX:Hid (Ev.ok ⟨1,who,bs,⟨st,tx⟩,set⟩=false):=by rw[Hid,HE.out];simp[hs0]
      have hs0b:(set==0)=false:=by simp[hs0]
      clear HE hs0
      go_wp2
      go_ret
      rw[HX.out]
      exact⟨by simp,hb.out⟩
 ·by_cases h2:kd=2
  ·subst h2
   obtain⟨b1,hb1⟩:∃b,b=setOk set:=⟨_,rfl⟩
   have HE:Hid (Ev.ok ⟨2,who,bs,⟨st,tx⟩,set⟩=(b1&&decide (who=0)&&decide (bs=[])&&decide (st=0)&&decide (tx=[]))):=by rw[hb1];rfl
   rw[←hb1]at CS
   clear hb1 CW CI CB h1
   go_enter Tryz.func83,Tryz.ntmps83
   go_wp2_with fail
   refine(CS.out _).mono ?_
   rintro r w' ⟨rfl,hw⟩;subst w'
   clear CS
   cases b1 with
   |false=>
    go_wp2
    go_ret
    rw[HE.out]
    exact⟨rfl,hb.out⟩
   |true=>
    by_cases hw0:who=0
    ·by_cases hbs:bs=[]
     ·by_cases hst:st=0
      ·by_cases htx:tx=[]
       ·have HX:Hid (Ev.ok ⟨2,who,bs,⟨st,tx⟩,set⟩=true):=by rw[Hid,HE.out];simp[hw0,hbs,hst,htx]
        clear HE
        subst hw0 hbs hst htx
        go_wp2
        go_ret
        rw[HX.out]
        exact⟨rfl,hb.out⟩
       ·have HX:Hid (Ev.ok ⟨2,who,bs,⟨st,tx⟩,set⟩=false):=by rw[Hid,HE.out];simp[htx]
        clear HE
        subst hw0 hbs hst
        go_wp2
        go_ret
        rw[HX.out]
        exact⟨rfl,hb.out⟩
      ·have HX:Hid (Ev.ok ⟨2,who,bs,⟨st,tx⟩,set⟩=false):=by rw[Hid,HE.out];simp[hst]
       clear HE
       subst hw0 hbs
       go_wp2
       go_ret
       rw[HX.out]
       exact⟨rfl,hb.out⟩
     ·have HX:Hid (Ev.ok ⟨2,who,bs,⟨st,tx⟩,set⟩=false):=by rw[Hid,HE.out];simp[hbs]
      clear HE
      subst hw0
      go_wp2
      go_ret
      rw[HX.out]
      exact⟨rfl,hb.out⟩
    ·have HX:Hid (Ev.ok ⟨2,who,bs,⟨st,tx⟩,set⟩=false):=by rw[Hid,HE.out];simp[hw0]
     clear HE
     go_wp2
     go_ret
     rw[HX.out]
     exact⟨rfl,hb.out⟩
  ·clear CW CI CS CB
   by_cases h3:kd=3
   ·subst h3
    have HE:Hid (Ev.ok ⟨3,who,bs,⟨st,tx⟩,set⟩=(decide (who=0)&&decide (bs=[])&&decide (st=0)&&decide (tx=[])&&decide (set=0))):=rfl
    clear h1 h2
    go_enter Tryz.func83,Tryz.ntmps83
    by_cases hw0:who=0
    ·by_cases hbs:bs=[]
     ·by_cases hst:st=0
      ·by_cases htx:tx=[]
       ·by_cases hs0:set=0
        ·have HX:Hid (Ev.ok ⟨3,who,bs,⟨st,tx⟩,set⟩=true):=by rw[Hid,HE.out];simp[hw0,hbs,hst,htx,hs0]
         clear HE
         subst hw0 hbs hst htx hs0
         go_wp2
         go_ret
         rw[HX.out]
         exact⟨rfl,hb.out⟩
        ·have HX:Hid (Ev.ok ⟨3,who,bs,⟨st,tx⟩,set⟩=false):=by rw[Hid,HE.out];simp[hs0]
         clear HE
         subst hw0 hbs hst htx
         go_wp2
         go_ret
         rw[HX.out]
         exact⟨rfl,hb.out⟩
       ·have HX:Hid (Ev.ok ⟨3,who,bs,⟨st,tx⟩,set⟩=false):=by rw[Hid,HE.out];simp[htx]
        clear HE
        subst hw0 hbs hst
        go_wp2
        go_ret
        rw[HX.out]
        exact⟨rfl,hb.out⟩
      ·have HX:Hid (Ev.ok ⟨3,who,bs,⟨st,tx⟩,set⟩=false):=by rw[Hid,HE.out];simp[hst]
       clear HE
       subst hw0 hbs
       go_wp2
       go_ret
       rw[HX.out]
       exact⟨rfl,hb.out⟩
     ·have HX:Hid (Ev.ok ⟨3,who,bs,⟨st,tx⟩,set⟩=false):=by rw[Hid,HE.out];simp[hbs]
      clear HE
      subst hw0
      go_wp2
      go_ret
      rw[HX.out]
      exact⟨rfl,hb.out⟩
    ·have HX:Hid (Ev.ok ⟨3,who,bs,⟨st,tx⟩,set⟩=false):=by rw[Hid,HE.out];simp[hw0]
     clear HE
     go_wp2
     go_ret
     rw[HX.out]
     exact⟨rfl,hb.out⟩
   ·have HX:Hid (Ev.ok ⟨kd,who,bs,⟨st,tx⟩,set⟩=false):=by rw[Hid];simp[Ev.ok,h1,h2,h3]
    go_enter Tryz.func83,Tryz.ntmps83
    go_wp2
    go_ret
    rw[HX.out]
    exact⟨rfl,hb.out⟩
theorem take_all_evI (es:List Ev) (j:Nat) (e:Ev) (he:es[j]?=some e) (h0:(es.take j).all Ev.ok=true) (hx:e.ok=true):(es.take (j+1)).all Ev.ok=true:=by
 obtain⟨hj,rfl⟩:=List.getElem?_eq_some_iff.1 he
 rw[List.take_succ_eq_append_getElem hj,List.all_append,h0]
 simp[hx]
theorem not_all_evI (es:List Ev) (j:Nat) (e:Ev) (he:es[j]?=some e) (hx:e.ok=false):es.all Ev.ok=false:=by
 rw[List.all_eq_false]
 exact⟨e,List.mem_of_getElem? he,by simp[hx]⟩
theorem iallEventsOk_any (v:Value) (es:List Ev) (w:World) (hr:RdE w v es):
  Calls Tryz.prog 48 #[v] w fun r w'=>r=.returned (.bool (es.all Ev.ok))∧Below w.heap.size w w':=by
 obtain⟨ao,cap,rfl⟩:=hr.form
 have HR:Hid (∀wx,Below w.heap.size w wx→RdE wx (.slice ao es.length cap) es):=fun wx b=>hr.below b
 obtain⟨-,hnc,hcm, -⟩:=hr.el
 unfold maxLen at hcm
 obtain⟨t,ht⟩:∃t,t=es.all Ev.ok:=⟨_,rfl⟩
 have HX:Hid (t=es.all Ev.ok):=ht
 rw[←ht]
 clear hr ht
 obtain⟨n,hn⟩:∃n,n=es.length:=⟨_,rfl⟩
 rw[←hn]at HR hnc⊢
 have HN:Hid (n=es.length):=hn
 clear hn
 go_enter Tryz.func48,Tryz.ntmps48
 go_wp2
 go_loopw [7] (fun i wr=>∃j:Nat,j≤n∧i=.int .i64 j∧Hid ((es.take j).all Ev.ok=true∧Below w.heap.size w wr)) (fun i _=>n-(intOf i).toNat)
 case atStart=>exact⟨0,Nat.zero_le _,rfl,by simp,Below.refl _ _⟩
 case round=>
  obtain⟨j,hj,rfl,HI⟩:=hrel
  by_cases hlt:(j:Int)<(n:Int)
  ·obtain⟨be,offe,y,he,rfl,hc⟩:=(HR.out wr HI.out.2).el.2.2.2 j (by omega)
   have CE:Hid (∀wx,Calls Tryz.prog 83 #[.agg (evA y)] wx fun r w'=>r=.returned (.bool y.ok)∧Below wx.heap.size wx w'):=fun wx=>ieventok_any y wx
   have HC:Hid (∀i,i<6→wr.cell? ⟨be,offe+j*6+i,none⟩=(evA y)[i]?):=hc
   have HY:Hid (es[j]?=some y):=he
   clear hc he
   have q5:StB (wr.alloc (.cells zeroEv 60)) wr.heap.size 60 zeroEv:=StB.new wr _ _
   go_upto_region 4 with(first|(refine wpList_getO Tryz.isEv rfl _ rfl be (offe+j*6) rfl (evA y) rfl HC.out ?_)|(refine wpList_putS Tryz.isEv rfl _ _ rfl wr.heap.size (evA y) zeroEv rfl rfl rfl rfl (evA_one y) q5 ?_;intro w2 s2 g2))
   (try simp only[Act.put])
   have HB:Hid (Below w.heap.size w w2):=HI.out.2.trans ((((Below.refl _ _).alloc (Nat.le_refl _) _).grown g2 (by simp) (fun k e=>by cases e;omega)).mono HI.out.2.size)
   clear q5 g2
   go_wp2_with (refine wpList_getS Tryz.isEv rfl _ rfl wr.heap.size rfl (evA y) rfl s2 ?_)
   refine(CE.out _).mono ?_
   rintro e w3 ⟨rfl,b3⟩
   have HB3:Hid (Below w.heap.size w w3):=HB.out.trans (b3.mono HB.out.size)
   clear b3 CE HC s2 HB
   obtain⟨o,ho⟩:∃o,o=y.ok:=⟨_,rfl⟩
   rw[←ho]
   have HO:Hid (y.ok=o):=ho.symm
   clear ho
   cases o with
   |false=>
    have HZ:Hid (t=false):=by rw[Hid,HX.out];exact not_all_evI es j y HY.out HO.out
    go_wp2
    go_ret
    rw[HZ.out]
    exact⟨rfl,HB3.out⟩
   |true=>
    have HZ:Hid ((es.take (j+1)).all Ev.ok=true):=take_all_evI es j y HY.out HI.out.1 HO.out
    go_wp2
    go_roundw
    case rel=>exact⟨j+1,by omega,by go_num,HZ.out,HB3.out⟩
    case measure=>simp[intOf];omega
  ·have HZ:Hid (t=true):=by
    have h1:=HI.out.1
    rw[List.take_of_length_le (by have:=HN.out;omega)]at h1
    rw[Hid,HX.out,h1]
   go_wp2
   go_ret
   rw[HZ.out]
   exact⟨rfl,HI.out.2⟩
theorem ieventsok_any (v:Value) (es:List Ev) (w:World) (hr:RdE w v es):
  Calls Tryz.prog 23 #[v] w fun r w'=>r=.returned (.bool (evsOk es))∧Below w.heap.size w w':=by
 have CA:Hid (Calls Tryz.prog 48 #[v] w fun r w'=>r=.returned (.bool (es.all Ev.ok))∧Below w.heap.size w w'):=iallEventsOk_any v es w hr
 obtain⟨ao,cap,rfl⟩:=hr.form
 obtain⟨-,hnc,hcm, -⟩:=hr.el
 unfold maxLen at hcm
 have HE:Hid (evsOk es=(decide (es.length≤300)&&es.all Ev.ok)):=rfl
 obtain⟨t,ht⟩:∃t,t=evsOk es:=⟨_,rfl⟩
 obtain⟨o,ho⟩:∃o,o=es.all Ev.ok:=⟨_,rfl⟩
 rw[←ht]at HE⊢
 rw[←ho]at HE CA
 clear hr ht ho
 obtain⟨n,hn⟩:∃n,n=es.length:=⟨_,rfl⟩
 rw[←hn]at hnc HE CA⊢
 clear hn
 by_cases h300:n≤300
 case neg=>
  have h':¬(n:Int)≤300:=by omega
  have HX:Hid (t=false):=by rw[Hid,HE.out];simp[h300]
  clear HE CA
  go_enter Tryz.func23,Tryz.ntmps23
  go_wp2
  go_ret
  rw[HX.out]
  exact⟨rfl,Below.refl _ _⟩
 case pos=>
  have h':(n:Int)≤300:=by omega
  have HX:Hid (t=o):=by rw[Hid,HE.out];simp[h300]
  clear HE h300
  go_enter Tryz.func23,Tryz.ntmps23
  go_wp2_with fail
  refine CA.out.mono ?_
  rintro e w2 ⟨rfl,b⟩
  have HB:Hid (Below w.heap.size w w2):=b
  clear b CA
  go_wp2
  go_ret
  rw[HX.out]
  exact⟨rfl,HB.out⟩
end Go.Proofs.YtegfifgbobjbhaaGreatDoor
namespace Go.Proofs.YtegfifgbobjbhaaGreatDoor
open Go.RowKit
theorem nodesP_no2 {ns:List Nv} (h:ns.length≠2):nodesP (nsOf ns)=false:=by
 match ns,h with
 |[],_=>rfl
 |[_],_=>rfl
 |[_,_],h=>exact absurd rfl h
 |_::_::_::_,_=>rfl
end Go.Proofs.YtegfifgbobjbhaaGreatDoor
