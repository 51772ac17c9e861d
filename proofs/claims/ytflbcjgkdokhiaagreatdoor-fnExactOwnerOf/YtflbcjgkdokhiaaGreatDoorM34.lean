/- How many of a pair's houses own, plainly. -/
import Derived.Test.YtflbcjgkdokhiaaGreatDoorM33
import Derived.Test.YtflbcjgkdokhiaaGreatDoorSPair2
import Derived.Test.YtflbcjgkdokhiaaGreatDoorM22
import Derived.Test.YtflbcjgkdokhiaaGreatDoorM31
import Derived.Test.YtflbcjgkdokhiaaGreatDoorM19
namespace Go.Proofs.YtflbcjgkdokhiaaGreatDoor
open Go.RowKit
theorem nodesP_no2 {ns:List Nv} (h:ns.length≠2):nodesP (nsOf ns)=false:=by
 match ns,h with
 |[],_=>rfl
 |[_],_=>rfl
 |[_,_],h=>exact absurd rfl h
 |_::_::_::_,_=>rfl
theorem paOk_two {ns:List Nv} {ms:List Mg} {es:List Ev} (h:paOk (nsOf ns) ms es=true):ns.length=2:=by
 by_cases h2:ns.length=2
 ·exact h2
 ·unfold paOk at h
  rw[nodesP_no2 h2]at h
  simp at h
end Go.Proofs.YtflbcjgkdokhiaaGreatDoor
namespace Go.Proofs.YtflbcjgkdokhiaaGreatDoor
open Go.RowKit
def ownAt (k:Int):List Nd→Int
 |[]=> -1
 |n::l=>if n.r.s=1 then k else ownAt (k+1) l
def ownA (ns:List Nd):Int:=ownAt 0 ns
def ownerP (ns:List Nd) (ms:List Mg) (es:List Ev):Int:=if paOk ns ms es then ownA ns else-1
def noA (ns:List Nd):Prop:=∀y∈ns,y.r.s≠1
theorem ownAt_no:∀{ns:List Nd} (k:Int),noA ns→ownAt k ns= -1
 |[],_,_=>rfl
 |n::l,k,h=>by
  unfold ownAt
  rw[if_neg (h n (List.mem_cons_self ..))]
  exact ownAt_no (k+1) fun y hy=>h y (List.mem_cons_of_mem _ hy)
theorem ownA_no {ns:List Nd} (h:noA ns):ownA ns= -1:=ownAt_no 0 h
theorem ownAt_at:∀(ns:List Nd) (k:Int) (j:Nat) (y:Nd),ns[j]?=some y→y.r.s=1→noA (ns.take j)→ownAt k ns=k+j
 |[],_,_,_,e,_,_=>by simp at e
 |n::l,k,0,y,e,h,_=>by
  simp at e
  subst e
  unfold ownAt
  rw[if_pos h]
  simp
 |n::l,k,j+1,y,e,h,hn=>by
  unfold ownAt
  rw[if_neg (hn n (by simp))]
  rw[ownAt_at l (k+1) j y (by simpa using e) h (fun z hz=>hn z (by simp[hz]))]
  simp
  omega
theorem ownA_at (ns:List Nv) (j:Nat) (y:Nv) (e:ns[j]?=some y) (h:y.n.r.s=1) (hn:noA (nsOf (ns.take j))):ownA (nsOf ns)=(j:Int):=by
 have h1:=ownAt_at (nsOf ns) 0 j y.n (by unfold nsOf;rw[List.getElem?_map,e];rfl) h (by unfold nsOf at*;rw[←List.map_take];exact hn)
 unfold ownA
 omega
theorem noA_snoc (ns:List Nv) (j:Nat) (y:Nv) (e:ns[j]?=some y) (h:y.n.r.s≠1) (hn:noA (nsOf (ns.take j))):noA (nsOf (ns.take (j+1))):=by
 obtain⟨hj,rfl⟩:=List.getElem?_eq_some_iff.1 e
 rw[List.take_succ_eq_append_getElem hj]
 unfold nsOf at*
 intro z hz
 rw[List.map_append,List.mem_append]at hz
 rcases hz with hz|hz
 ·exact hn z hz
 ·simp at hz
  rw[hz]
  exact h
end Go.Proofs.YtflbcjgkdokhiaaGreatDoor
set_option maxRecDepth 20000
set_option maxHeartbeats 4000000
namespace Go.Proofs.YtflbcjgkdokhiaaGreatDoor
open Go.ChangeShapes Go.WideShapes Go.ChangeAt Go.RowKit
theorem sl19Owner_any (u v x:Value) (ns:List Nv) (ps:List (Value×Mg)) (es:List Ev) (w:World) (hr:RdPr w u v x ns ps es) (h2:ns.length=2):
  Calls Tryz.prog 13 #[PrV u v x] w fun r w'=>r=.returned (.int .i64 (ownA (nsOf ns)))∧Below w.heap.size w w':=by
 have HR:Hid (∀wx,Below w.heap.size w wx→RdNs wx u ns):=fun wx b=>(hr.below b).rn
 obtain⟨uo,uc,rfl⟩:=hr.rn.form
 obtain⟨vo,vc,rfl⟩:=hr.rp.form
 obtain⟨xo,xc,rfl⟩:=hr.re.form
 obtain⟨-,hnc,hcm, -⟩:=hr.rn.el
 unfold maxLen at hcm
 obtain⟨t,hte⟩:∃t,t=ownA (nsOf ns):=⟨_,rfl⟩
 have HT:Hid (t=ownA (nsOf ns)):=hte
 rw[←hte]
 clear hte
 obtain⟨n,hn⟩:∃n,n=ns.length:=⟨_,rfl⟩
 rw[←hn]at HR hnc h2⊢
 have HN:Hid (n=ns.length):=hn
 clear hn hr
 subst h2
 obtain⟨w1,hw1⟩:∃w1,w1=w.alloc (.cells (prA (.slice uo 2 uc) (.slice vo ps.length vc) (.slice xo es.length xc)) 33):=⟨_,rfl⟩
 have HB:Hid (StB w1 w.heap.size 33 (prA (.slice uo 2 uc) (.slice vo ps.length vc) (.slice xo es.length xc))∧Below w.heap.size w w1):=by rw[hw1];exact⟨StB.new _ _ _,(Below.refl _ _).alloc (Nat.le_refl _) _⟩
 unfold prA at hw1
 unfold PrV prA
 go_enter Tryz.func13,Tryz.ntmps13
 go_upto_region 1 with fail
 rw[←hw1]
 clear hw1
 go_wp2
 go_loopw [3] (fun i wr=>∃j:Nat,j≤2∧i=.int .i64 j∧Hid (noA (nsOf (ns.take j))∧wr=w1)) (fun i _=>2-(intOf i).toNat)
 case atStart=>exact⟨0,by decide,rfl,by intro y hy;simp[nsOf]at hy,rfl⟩
 case round=>
  obtain⟨j,hj,rfl,HI⟩:=hrel
  have hwr:=HI.out.2
  subst hwr
  by_cases hlt:(j:Int)<2
  ·obtain⟨be,offe,y,he,rfl,hrk,hc⟩:=(HR.out wr HB.out.2).el.2.2.2 j (by omega)
   have p0:wr.cell? ⟨w.heap.size,0,none⟩=some (.slice (some ⟨be,offe,none⟩) 2 uc):=HB.out.1.cell 0 rfl
   have H1:Hid (y.n.r.s=1→t=(j:Int)):=fun h=>HT.out.trans (ownA_at ns j y he h HI.out.1)
   have H0:Hid (y.n.r.s≠1→noA (nsOf (ns.take (j+1)))):=fun h=>noA_snoc ns j y he h HI.out.1
   obtain⟨s,hs⟩:∃s,s=y.n.r.s:=⟨_,rfl⟩
   have c10:wr.cell? ⟨be,offe+j*20+10,none⟩=some (.int .i64 s):=by rw[hs];exact hc 10 (by decide)
   rw[←hs]at H1 H0
   have hjn:(0:Int)≤(j:Int):=by omega
   clear hc hrk he hs
   by_cases h1:s=1
   ·have HZ:Hid (t=(j:Int)):=H1.out h1
    rw[h1]at c10
    clear h1 H1 H0
    go_wp2
    go_ret
    rw[HZ.out]
    exact⟨rfl,HB.out.2⟩
   ·have HZ:Hid (noA (nsOf (ns.take (j+1)))):=H0.out h1
    clear H1 H0
    go_wp2
    go_roundw
    case rel=>exact⟨j+1,by omega,by go_num,HZ.out,trivial⟩
    case measure=>simp[intOf];omega
  ·have HZ:Hid (t= -1):=by
    have h1:=HI.out.1
    rw[List.take_of_length_le (by have:=HN.out;omega)]at h1
    exact HT.out.trans (ownA_no h1)
   go_wp2
   go_ret
   rw[HZ.out]
   exact⟨rfl,HB.out.2⟩
theorem sOwnerOf_any (u v x:Value) (ns:List Nv) (ps:List (Value×Mg)) (es:List Ev) (w:World) (hr:RdPr w u v x ns ps es) (hn:SmNs ns) (hp:SmP ps):
  Calls Tryz.prog 5 #[PrV u v x] w fun r w'=>r=.returned (.int .i64 (ownerP (nsOf ns) (msOf ps) es))∧Below w.heap.size w w':=by
 have CK:Hid (∀wx,Below w.heap.size w wx→Calls Tryz.prog 12 #[PrV u v x] wx fun r w'=>r=.returned (.bool (paOk (nsOf ns) (msOf ps) es))∧Below wx.heap.size wx w'):=fun wx b=>spairok_any u v x ns ps es wx (hr.below b) hn hp
 have CO:Hid (∀wx,Below w.heap.size w wx→paOk (nsOf ns) (msOf ps) es=true→Calls Tryz.prog 13 #[PrV u v x] wx fun r w'=>r=.returned (.int .i64 (ownA (nsOf ns)))∧Below wx.heap.size wx w'):=fun wx b h=>sl19Owner_any u v x ns ps es wx (hr.below b) (paOk_two h)
 obtain⟨uo,uc,rfl⟩:=hr.rn.form
 obtain⟨vo,vc,rfl⟩:=hr.rp.form
 obtain⟨xo,xc,rfl⟩:=hr.re.form
 have HE:Hid (ownerP (nsOf ns) (msOf ps) es=if paOk (nsOf ns) (msOf ps) es then ownA (nsOf ns)else-1):=rfl
 obtain⟨t,hte⟩:∃t,t=ownerP (nsOf ns) (msOf ps) es:=⟨_,rfl⟩
 rw[←hte]at HE⊢
 obtain⟨o,ho⟩:∃o,o=paOk (nsOf ns) (msOf ps) es:=⟨_,rfl⟩
 rw[←ho]at HE CK CO
 clear hte ho hr hn hp
 obtain⟨w1,hw1⟩:∃w1,w1=w.alloc (.cells (prA (.slice uo ns.length uc) (.slice vo ps.length vc) (.slice xo es.length xc)) 33):=⟨_,rfl⟩
 have HB:Hid (StB w1 w.heap.size 33 (prA (.slice uo ns.length uc) (.slice vo ps.length vc) (.slice xo es.length xc))∧Below w.heap.size w w1):=by rw[hw1];exact⟨StB.new _ _ _,(Below.refl _ _).alloc (Nat.le_refl _) _⟩
 unfold prA at hw1
 unfold PrV prA at CK CO⊢
 go_enter Tryz.func5,Tryz.ntmps5
 go_upto_region 1 with fail
 rw[←hw1]
 clear hw1
 go_wp2_with (refine wpList_getS Tryz.isPr rfl _ rfl w.heap.size rfl (prA (.slice uo ns.length uc) (.slice vo ps.length vc) (.slice xo es.length xc)) rfl HB.out.1 ?_)
 refine(CK.out w1 HB.out.2).mono ?_
 rintro e w2 ⟨rfl,b⟩
 replace HB:Hid (StB w2 w.heap.size 33 (prA (.slice uo ns.length uc) (.slice vo ps.length vc) (.slice xo es.length xc))∧Below w.heap.size w w2):=⟨HB.out.1.below b,HB.out.2.trans (b.mono HB.out.2.size)⟩
 clear b CK
 cases o with
 |false=>
  have HX:Hid (t= -1):=by rw[Hid,HE.out];rfl
  go_wp2
  go_ret
  rw[HX.out]
  exact⟨rfl,HB.out.2⟩
 |true=>
  have HX:Hid (t=ownA (nsOf ns)):=by rw[Hid,HE.out];rfl
  clear HE
  go_wp2_with (refine wpList_getS Tryz.isPr rfl _ rfl w.heap.size rfl (prA (.slice uo ns.length uc) (.slice vo ps.length vc) (.slice xo es.length xc)) rfl HB.out.1 ?_)
  refine(CO.out w2 HB.out.2 trivial).mono ?_
  rintro e w3 ⟨rfl,b⟩
  have HB3:Hid (Below w.heap.size w w3):=HB.out.2.trans (b.mono HB.out.2.size)
  clear b CO HB
  go_wp2
  go_ret
  rw[HX.out]
  exact⟨rfl,HB3.out⟩
end Go.Proofs.YtflbcjgkdokhiaaGreatDoor
set_option maxRecDepth 20000
set_option maxHeartbeats 4000000
namespace Go.Proofs.YtflbcjgkdokhiaaGreatDoor
open Go.ChangeShapes Go.WideShapes Go.ChangeAt Go.RowKit
theorem ibytes_any (s:Bs) (w:World):
  Calls Tryz.prog 110 #[S s] w fun r w'=>r=.returned (.bool (decide (s.length≤20)))∧w'=w:=by
 have hsz:(⟨s.toArray⟩:ByteArray).size=s.length:=rfl
 unfold S
 by_cases h:s.length≤20
 ·have h':(s.length:Int)≤20:=by omega
  have e:decide (s.length≤20)=true:=by simp[h]
  rw[e]
  clear e
  go_enter Tryz.func110,Tryz.ntmps110
  go_wp2
  go_ret
  exact⟨rfl,rfl⟩
 ·have h':¬(s.length:Int)≤20:=by omega
  have e:decide (s.length≤20)=false:=by simp[h]
  rw[e]
  clear e
  go_enter Tryz.func110,Tryz.ntmps110
  go_wp2
  go_ret
  exact⟨rfl,rfl⟩
theorem istatus_any (x:Int) (w:World):
  Calls Tryz.prog 111 #[.int .i64 x] w fun r w'=>r=.returned (.bool (inI x 0 7))∧w'=w:=by
 by_cases h0:0≤x
 ·by_cases h1:x≤7
  ·have he:inI x 0 7=true:=by simp[inI,h0,h1]
   rw[he]
   clear he
   go_enter Tryz.func111,Tryz.ntmps111
   go_wp2
   go_ret
   exact⟨rfl,rfl⟩
  ·have he:inI x 0 7=false:=by simp[inI,h1]
   rw[he]
   clear he
   go_enter Tryz.func111,Tryz.ntmps111
   go_wp2
   go_ret
   exact⟨rfl,rfl⟩
 ·have he:inI x 0 7=false:=by simp[inI,h0]
  rw[he]
  clear he
  go_enter Tryz.func111,Tryz.ntmps111
  go_wp2
  go_ret
  exact⟨rfl,rfl⟩
theorem ieventok_any (e:Ev) (w:World):
  Calls Tryz.prog 90 #[.agg (evA e)] w fun r w'=>r=.returned (.bool e.ok)∧Below w.heap.size w w':=by
 have CW:Hid (∀wx,Calls Tryz.prog 109 #[.int .i64 e.who] wx fun r w'=>r=.returned (.bool (inI e.who 0 3))∧w'=wx):=fun wx=>iperson_any e.who wx
 have CB:Hid (∀wx,Calls Tryz.prog 110 #[S e.bs] wx fun r w'=>r=.returned (.bool (decide (e.bs.length≤20)))∧w'=wx):=fun wx=>ibytes_any e.bs wx
 have CI:Hid (∀wx,Calls Tryz.prog 111 #[.int .i64 e.an.st] wx fun r w'=>r=.returned (.bool (inI e.an.st 0 7))∧w'=wx):=fun wx=>istatus_any e.an.st wx
 have CS:Hid (∀wx,Calls Tryz.prog 112 #[.int .i64 e.set] wx fun r w'=>r=.returned (.bool (setOk e.set))∧w'=wx):=fun wx=>bsok_any e.set wx
 obtain⟨kd,who,bs,⟨st,tx⟩,set⟩:=e
 have hb:Hid (Below w.heap.size w (w.alloc (.cells (evA ⟨kd,who,bs,⟨st,tx⟩,set⟩) 82))):=(Below.refl _ _).alloc (Nat.le_refl _) _
 have hsz:(⟨bs.toArray⟩:ByteArray).size=bs.length:=rfl
 unfold evA S at*
 dsimp only at*
 by_cases h1:kd=1
 ·subst h1
  obtain⟨b1,hb1⟩:∃b,b=inI who 0 3:=⟨_,rfl⟩
  obtain⟨b2,hb2⟩:∃b,b=inI st 0 7:=⟨_,rfl⟩
  have HE:Hid (Ev.ok ⟨1,who,bs,⟨st,tx⟩,set⟩=(b1&&decide (bs.length≤20)&&decide (set=0)&&b2)):=by rw[hb1,hb2];rfl
  rw[←hb1]at CW
  rw[←hb2]at CI
  clear hb1 hb2 CS
  go_enter Tryz.func90,Tryz.ntmps90
  go_wp2_with fail
  refine(CW.out _).mono ?_
  rintro r w' ⟨rfl,hw⟩;subst w'
  clear CW
  cases b1 with
  |false=>
   go_wp2
   go_ret
   rw[HE.out]
   exact⟨rfl,hb.out⟩
  |true=>
   go_wp2_with fail
   refine(CB.out _).mono ?_
   rintro r w' ⟨rfl,hw⟩;subst w'
   clear CB
   obtain⟨b3,hb3⟩:∃b,b=decide (bs.length≤20):=⟨_,rfl⟩
   rw[←hb3]
   have HE3:Hid (decide (bs.length≤20)=b3):=hb3.symm
   clear hb3
   cases b3 with
   |false=>
    have HX:Hid (Ev.ok ⟨1,who,bs,⟨st,tx⟩,set⟩=false):=by rw[Hid,HE.out,HE3.out];rfl
    clear HE CI
    go_wp2
    go_ret
    rw[HX.out]
    exact⟨rfl,hb.out⟩
   |true=>
    go_wp2_with fail
    refine(CI.out _).mono ?_
    rintro r w' ⟨rfl,hw⟩;subst w'
    clear CI
    cases b2 with
    |false=>
     have HX:Hid (Ev.ok ⟨1,who,bs,⟨st,tx⟩,set⟩=false):=by rw[Hid,HE.out];simp
     clear HE
     go_wp2
     go_ret
     rw[HX.out]
     exact⟨rfl,hb.out⟩
    |true=>
     by_cases hs0:set=0
     ·have HX:Hid (Ev.ok ⟨1,who,bs,⟨st,tx⟩,set⟩=true):=by rw[Hid,HE.out,HE3.out];simp[hs0]
      clear HE
      subst hs0
      go_wp2
      go_ret
      rw[HX.out]
      exact⟨rfl,hb.out⟩
     ·have HX:Hid (Ev.ok ⟨1,who,bs,⟨st,tx⟩,set⟩=false):=by rw[Hid,HE.out];simp[hs0]
      have hs0b:(set==0)=false:=by simp[hs0]
      clear HE hs0
      go_wp2
      go_ret
      rw[HX.out]
      exact⟨by simp,hb.out⟩
 ·by_cases h2:kd=2
  ·subst h2
   obtain⟨b1,hb1⟩:∃b,b=setOk set:=⟨_,rfl⟩
   have HE:Hid (Ev.ok ⟨2,who,bs,⟨st,tx⟩,set⟩=(b1&&decide (who=0)&&decide (bs=[])&&decide (st=0)&&decide (tx=[]))):=by rw[hb1];rfl
   rw[←hb1]at CS
   clear hb1 CW CI CB h1
   go_enter Tryz.func90,Tryz.ntmps90
   go_wp2_with fail
   refine(CS.out _).mono ?_
   rintro r w' ⟨rfl,hw⟩;subst w'
   clear CS
   cases b1 with
   |false=>
    go_wp2
    go_ret
    rw[HE.out]
    exact⟨rfl,hb.out⟩
   |true=>
    by_cases hw0:who=0
    ·by_cases hbs:bs=[]
     ·by_cases hst:st=0
      ·by_cases htx:tx=[]
       ·have HX:Hid (Ev.ok ⟨2,who,bs,⟨st,tx⟩,set⟩=true):=by rw[Hid,HE.out];simp[hw0,hbs,hst,htx]
        clear HE
        subst hw0 hbs hst htx
        go_wp2
        go_ret
        rw[HX.out]
        exact⟨rfl,hb.out⟩
       ·have HX:Hid (Ev.ok ⟨2,who,bs,⟨st,tx⟩,set⟩=false):=by rw[Hid,HE.out];simp[htx]
        clear HE
        subst hw0 hbs hst
        go_wp2
        go_ret
        rw[HX.out]
        exact⟨rfl,hb.out⟩
      ·have HX:Hid (Ev.ok ⟨2,who,bs,⟨st,tx⟩,set⟩=false):=by rw[Hid,HE.out];simp[hst]
       clear HE
       subst hw0 hbs
       go_wp2
       go_ret
       rw[HX.out]
       exact⟨rfl,hb.out⟩
     ·have HX:Hid (Ev.ok ⟨2,who,bs,⟨st,tx⟩,set⟩=false):=by rw[Hid,HE.out];simp[hbs]
      clear HE
      subst hw0
      go_wp2
      go_ret
      rw[HX.out]
      exact⟨rfl,hb.out⟩
    ·have HX:Hid (Ev.ok ⟨2,who,bs,⟨st,tx⟩,set⟩=false):=by rw[Hid,HE.out];simp[hw0]
     clear HE
     go_wp2
     go_ret
     rw[HX.out]
     exact⟨rfl,hb.out⟩
  ·clear CW CI CS CB
   by_cases h3:kd=3
   ·subst h3
    have HE:Hid (Ev.ok ⟨3,who,bs,⟨st,tx⟩,set⟩=(decide (who=0)&&decide (bs=[])&&decide (st=0)&&decide (tx=[])&&decide (set=0))):=rfl
    clear h1 h2
    go_enter Tryz.func90,Tryz.ntmps90
    by_cases hw0:who=0
    ·by_cases hbs:bs=[]
     ·by_cases hst:st=0
      ·by_cases htx:tx=[]
       ·by_cases hs0:set=0
        ·have HX:Hid (Ev.ok ⟨3,who,bs,⟨st,tx⟩,set⟩=true):=by rw[Hid,HE.out];simp[hw0,hbs,hst,htx,hs0]
         clear HE
         subst hw0 hbs hst htx hs0
         go_wp2
         go_ret
         rw[HX.out]
         exact⟨rfl,hb.out⟩
        ·have HX:Hid (Ev.ok ⟨3,who,bs,⟨st,tx⟩,set⟩=false):=by rw[Hid,HE.out];simp[hs0]
         clear HE
         subst hw0 hbs hst htx
         go_wp2
         go_ret
         rw[HX.out]
         exact⟨rfl,hb.out⟩
       ·have HX:Hid (Ev.ok ⟨3,who,bs,⟨st,tx⟩,set⟩=false):=by rw[Hid,HE.out];simp[htx]
        clear HE
        subst hw0 hbs hst
        go_wp2
        go_ret
        rw[HX.out]
        exact⟨rfl,hb.out⟩
      ·have HX:Hid (Ev.ok ⟨3,who,bs,⟨st,tx⟩,set⟩=false):=by rw[Hid,HE.out];simp[hst]
       clear HE
       subst hw0 hbs
       go_wp2
       go_ret
       rw[HX.out]
       exact⟨rfl,hb.out⟩
     ·have HX:Hid (Ev.ok ⟨3,who,bs,⟨st,tx⟩,set⟩=false):=by rw[Hid,HE.out];simp[hbs]
      clear HE
      subst hw0
      go_wp2
      go_ret
      rw[HX.out]
      exact⟨rfl,hb.out⟩
    ·have HX:Hid (Ev.ok ⟨3,who,bs,⟨st,tx⟩,set⟩=false):=by rw[Hid,HE.out];simp[hw0]
     clear HE
     go_wp2
     go_ret
     rw[HX.out]
     exact⟨rfl,hb.out⟩
   ·have HX:Hid (Ev.ok ⟨kd,who,bs,⟨st,tx⟩,set⟩=false):=by rw[Hid];simp[Ev.ok,h1,h2,h3]
    go_enter Tryz.func90,Tryz.ntmps90
    go_wp2
    go_ret
    rw[HX.out]
    exact⟨rfl,hb.out⟩
theorem take_all_evI (es:List Ev) (j:Nat) (e:Ev) (he:es[j]?=some e) (h0:(es.take j).all Ev.ok=true) (hx:e.ok=true):(es.take (j+1)).all Ev.ok=true:=by
 obtain⟨hj,rfl⟩:=List.getElem?_eq_some_iff.1 he
 rw[List.take_succ_eq_append_getElem hj,List.all_append,h0]
 simp[hx]
theorem not_all_evI (es:List Ev) (j:Nat) (e:Ev) (he:es[j]?=some e) (hx:e.ok=false):es.all Ev.ok=false:=by
 rw[List.all_eq_false]
 exact⟨e,List.mem_of_getElem? he,by simp[hx]⟩
theorem iallEventsOk_any (v:Value) (es:List Ev) (w:World) (hr:RdE w v es):
  Calls Tryz.prog 61 #[v] w fun r w'=>r=.returned (.bool (es.all Ev.ok))∧Below w.heap.size w w':=by
 obtain⟨ao,cap,rfl⟩:=hr.form
 have HR:Hid (∀wx,Below w.heap.size w wx→RdE wx (.slice ao es.length cap) es):=fun wx b=>hr.below b
 obtain⟨-,hnc,hcm, -⟩:=hr.el
 unfold maxLen at hcm
 obtain⟨t,ht⟩:∃t,t=es.all Ev.ok:=⟨_,rfl⟩
 have HX:Hid (t=es.all Ev.ok):=ht
 rw[←ht]
 clear hr ht
 obtain⟨n,hn⟩:∃n,n=es.length:=⟨_,rfl⟩
 rw[←hn]at HR hnc⊢
 have HN:Hid (n=es.length):=hn
 clear hn
 go_enter Tryz.func61,Tryz.ntmps61
 go_wp2
 go_loopw [7] (fun i wr=>∃j:Nat,j≤n∧i=.int .i64 j∧Hid ((es.take j).all Ev.ok=true∧Below w.heap.size w wr)) (fun i _=>n-(intOf i).toNat)
 case atStart=>exact⟨0,Nat.zero_le _,rfl,by simp,Below.refl _ _⟩
 case round=>
  obtain⟨j,hj,rfl,HI⟩:=hrel
  by_cases hlt:(j:Int)<(n:Int)
  ·obtain⟨be,offe,y,he,rfl,hc⟩:=(HR.out wr HI.out.2).el.2.2.2 j (by omega)
   have CE:Hid (∀wx,Calls Tryz.prog 90 #[.agg (evA y)] wx fun r w'=>r=.returned (.bool y.ok)∧Below wx.heap.size wx w'):=fun wx=>ieventok_any y wx
   have HC:Hid (∀i,i<6→wr.cell? ⟨be,offe+j*6+i,none⟩=(evA y)[i]?):=hc
   have HY:Hid (es[j]?=some y):=he
   clear hc he
   have q5:StB (wr.alloc (.cells zeroEv 82)) wr.heap.size 82 zeroEv:=StB.new wr _ _
   go_upto_region 4 with(first|(refine wpList_getO Tryz.isEv rfl _ rfl be (offe+j*6) rfl (evA y) rfl HC.out ?_)|(refine wpList_putS Tryz.isEv rfl _ _ rfl wr.heap.size (evA y) zeroEv rfl rfl rfl rfl (evA_one y) q5 ?_;intro w2 s2 g2))
   (try simp only[Act.put])
   have HB:Hid (Below w.heap.size w w2):=HI.out.2.trans ((((Below.refl _ _).alloc (Nat.le_refl _) _).grown g2 (by simp) (fun k e=>by cases e;omega)).mono HI.out.2.size)
   clear q5 g2
   go_wp2_with (refine wpList_getS Tryz.isEv rfl _ rfl wr.heap.size rfl (evA y) rfl s2 ?_)
   refine(CE.out _).mono ?_
   rintro e w3 ⟨rfl,b3⟩
   have HB3:Hid (Below w.heap.size w w3):=HB.out.trans (b3.mono HB.out.size)
   clear b3 CE HC s2 HB
   obtain⟨o,ho⟩:∃o,o=y.ok:=⟨_,rfl⟩
   rw[←ho]
   have HO:Hid (y.ok=o):=ho.symm
   clear ho
   cases o with
   |false=>
    have HZ:Hid (t=false):=by rw[Hid,HX.out];exact not_all_evI es j y HY.out HO.out
    go_wp2
    go_ret
    rw[HZ.out]
    exact⟨rfl,HB3.out⟩
   |true=>
    have HZ:Hid ((es.take (j+1)).all Ev.ok=true):=take_all_evI es j y HY.out HI.out.1 HO.out
    go_wp2
    go_roundw
    case rel=>exact⟨j+1,by omega,by go_num,HZ.out,HB3.out⟩
    case measure=>simp[intOf];omega
  ·have HZ:Hid (t=true):=by
    have h1:=HI.out.1
    rw[List.take_of_length_le (by have:=HN.out;omega)]at h1
    rw[Hid,HX.out,h1]
   go_wp2
   go_ret
   rw[HZ.out]
   exact⟨rfl,HI.out.2⟩
theorem ieventsok_any (v:Value) (es:List Ev) (w:World) (hr:RdE w v es):
  Calls Tryz.prog 33 #[v] w fun r w'=>r=.returned (.bool (evsOk es))∧Below w.heap.size w w':=by
 have CA:Hid (Calls Tryz.prog 61 #[v] w fun r w'=>r=.returned (.bool (es.all Ev.ok))∧Below w.heap.size w w'):=iallEventsOk_any v es w hr
 obtain⟨ao,cap,rfl⟩:=hr.form
 obtain⟨-,hnc,hcm, -⟩:=hr.el
 unfold maxLen at hcm
 have HE:Hid (evsOk es=(decide (es.length≤300)&&es.all Ev.ok)):=rfl
 obtain⟨t,ht⟩:∃t,t=evsOk es:=⟨_,rfl⟩
 obtain⟨o,ho⟩:∃o,o=es.all Ev.ok:=⟨_,rfl⟩
 rw[←ht]at HE⊢
 rw[←ho]at HE CA
 clear hr ht ho
 obtain⟨n,hn⟩:∃n,n=es.length:=⟨_,rfl⟩
 rw[←hn]at hnc HE CA⊢
 clear hn
 by_cases h300:n≤300
 case neg=>
  have h':¬(n:Int)≤300:=by omega
  have HX:Hid (t=false):=by rw[Hid,HE.out];simp[h300]
  clear HE CA
  go_enter Tryz.func33,Tryz.ntmps33
  go_wp2
  go_ret
  rw[HX.out]
  exact⟨rfl,Below.refl _ _⟩
 case pos=>
  have h':(n:Int)≤300:=by omega
  have HX:Hid (t=o):=by rw[Hid,HE.out];simp[h300]
  clear HE h300
  go_enter Tryz.func33,Tryz.ntmps33
  go_wp2_with fail
  refine CA.out.mono ?_
  rintro e w2 ⟨rfl,b⟩
  have HB:Hid (Below w.heap.size w w2):=b
  clear b CA
  go_wp2
  go_ret
  rw[HX.out]
  exact⟨rfl,HB.out⟩
end Go.Proofs.YtflbcjgkdokhiaaGreatDoor
