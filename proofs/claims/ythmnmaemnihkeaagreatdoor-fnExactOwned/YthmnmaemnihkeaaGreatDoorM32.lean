/- A pair as a thing of the state, marked. -/
import Derived.Test.YthmnmaemnihkeaaGreatDoorM31
import Derived.Test.YthmnmaemnihkeaaGreatDoorM30
import Derived.Test.YthmnmaemnihkeaaGreatDoorLPair2
import Derived.Test.YthmnmaemnihkeaaGreatDoorM16
import Derived.Test.YthmnmaemnihkeaaGreatDoorM6
import Derived.Test.YthmnmaemnihkeaaGreatDoorM5
namespace Go.Proofs.YthmnmaemnihkeaaGreatDoor
open Go.ChangeShapes Go.WideShapes Go.ChangeAt Go.RowKit
theorem totV_len:∀ns:List Nv,(ns.map fun y=>y.n.len).sum≤totV ns
 |[]=>Nat.le_refl _
 |y::r=>by
  have h:=totV_len r
  unfold totV at h⊢
  simp only[List.map_cons,List.sum_cons]
  omega
theorem len_totV:∀(ns:List Nv) (y:Nv),y∈ns→y.n.len≤totV ns
 |[],y,h=>by cases h
 |x::r,y,h=>by
  unfold totV
  simp only[List.map_cons,List.sum_cons]
  rcases List.mem_cons.1 h with rfl|h
  ·omega
  ·have h2:=len_totV r y h
   unfold totV at h2
   omega
theorem BdPr.of {ns:List Nv} {ps:List (Value×Mg)} {es:List Ev} (h:SmPr ns ps es):BdPr ns ps es:=by
 have h1:=totV_len ns
 have h2:=h.tn
 have h3:=h.ln
 have h4:=h.lp
 have h5:=h.tk
 have h6:=h.le
 exact⟨by omega,by omega,by omega,fun y hy=>Nat.le_trans (len_totV ns y hy) h2,h.sp⟩
theorem Sta.markPr {w wx wy:World} {L:List Item} {u v x:Value} {ns:List Nv} {ps:List (Value×Mg)} {es:List Ev} {a b c:Int} (h:Sta w wx L) (n:Nat) (e:L[n]?=some (PrI u v x ns ps es)) (o:OwnPr wy 0 u v x (inkNL a ns) (inkL b ps) (inkEL c es)) (m:Turned wx wy (nvB u ns++(psB v ps++blk x))):Sta w wy (L.set n (PrI u v x (inkNL a ns) (inkL b ps) (inkEL c es))):=
 h.turn n e m (PrI u v x (inkNL a ns) (inkL b ps) (inkEL c es)) (by show nvB u (inkNL a ns)++(psB v (inkL b ps)++blk x)=nvB u ns++(psB v ps++blk x);rw[nvB_ink,psB_ink]) o
theorem inkPE_pos (ns:List Nv) (ps:List (Value×Mg)) (es:List Ev):0≤inkPE 1 ns ps es:=by
 unfold inkPE inkE inkNE
 omega
end Go.Proofs.YthmnmaemnihkeaaGreatDoor
set_option maxRecDepth 20000
set_option maxHeartbeats 4000000
namespace Go.Proofs.YthmnmaemnihkeaaGreatDoor
open Go.ChangeShapes Go.WideShapes Go.ChangeAt Go.RowKit
def evsOk (es:List Ev):Bool:=decide (es.length≤300)&&es.all Ev.ok
def nodesP (ns:List Nd):Bool:=match ns with
 |[a,b]=>a.ok&&b.ok&&decide (a.id=0)&&decide (b.id=1)&&decide (a.ys.length=b.ys.length)
 |_=>false
def paOk (ns:List Nd) (ms:List Mg) (es:List Ev):Bool:=nodesP ns&&postOk ms&&evsOk es
theorem sevent_any (e:Ev) (w:World):
  Calls Tryz.prog 43 #[.agg (evA e)] w fun r w'=>r=.returned (.bool e.ok)∧Below w.heap.size w w':=by
 have CW:Hid (∀wx,Calls Tryz.prog 74 #[.int .i64 e.who] wx fun r w'=>r=.returned (.bool (inI e.who 0 3))∧w'=wx):=fun wx=>swho_any e.who wx
 have CI:Hid (∀wx,Calls Tryz.prog 66 #[.int .i64 e.an.st,.int .i64 0,.int .i64 7] wx fun r w'=>r=.returned (.bool (inI e.an.st 0 7))∧w'=wx):=fun wx=>sin6_any e.an.st 0 7 wx
 have CS:Hid (∀wx,Calls Tryz.prog 75 #[.int .i64 e.set] wx fun r w'=>r=.returned (.bool (setOk e.set))∧w'=wx):=fun wx=>sset_any e.set wx
 obtain⟨kd,who,bs,⟨st,tx⟩,set⟩:=e
 have hb:Hid (Below w.heap.size w (w.alloc (.cells (evA ⟨kd,who,bs,⟨st,tx⟩,set⟩) 98))):=(Below.refl _ _).alloc (Nat.le_refl _) _
 have hsz:(⟨bs.toArray⟩:ByteArray).size=bs.length:=rfl
 unfold evA S at*
 dsimp only at*
 by_cases h1:kd=1
 ·subst h1
  obtain⟨b1,hb1⟩:∃b,b=inI who 0 3:=⟨_,rfl⟩
  obtain⟨b2,hb2⟩:∃b,b=inI st 0 7:=⟨_,rfl⟩
  have HE:Hid (Ev.ok ⟨1,who,bs,⟨st,tx⟩,set⟩=(b1&&decide (bs.length≤20)&&decide (set=0)&&b2)):=by rw[hb1,hb2];rfl
  rw[←hb1]at CW
  rw[←hb2]at CI
  clear hb1 hb2 CS
  go_enter Tryz.func43,Tryz.ntmps43
  go_wp2_with fail
  refine(CW.out _).mono ?_
  rintro r w' ⟨rfl,hw⟩;subst w'
  clear CW
  cases b1 with
  |false=>
   go_wp2
   go_ret
   rw[HE.out]
   exact⟨rfl,hb.out⟩
  |true=>
   by_cases h20:bs.length≤20
   ·by_cases hs0:set=0
    ·have HX:Hid (Ev.ok ⟨1,who,bs,⟨st,tx⟩,set⟩=b2):=by rw[Hid,HE.out];simp[h20,hs0]
     clear HE
     subst hs0
     have h20':(bs.length:Int)≤20:=by omega
     go_wp2_with fail
     refine(CI.out _).mono ?_
     rintro r w' ⟨rfl,hw⟩;subst w'
     clear CI
     go_wp2
     go_ret
     rw[HX.out]
     exact⟨rfl,hb.out⟩
    ·have HX:Hid (Ev.ok ⟨1,who,bs,⟨st,tx⟩,set⟩=false):=by rw[Hid,HE.out];simp[hs0]
     clear HE CI
     have h20':(bs.length:Int)≤20:=by omega
     go_wp2
     go_ret
     rw[HX.out]
     exact⟨rfl,hb.out⟩
   ·have HX:Hid (Ev.ok ⟨1,who,bs,⟨st,tx⟩,set⟩=false):=by rw[Hid,HE.out];simp[h20]
    clear HE CI
    have h20':¬(bs.length:Int)≤20:=by omega
    go_wp2
    go_ret
    rw[HX.out]
    exact⟨rfl,hb.out⟩
 ·by_cases h2:kd=2
  ·subst h2
   obtain⟨b1,hb1⟩:∃b,b=setOk set:=⟨_,rfl⟩
   have HE:Hid (Ev.ok ⟨2,who,bs,⟨st,tx⟩,set⟩=(b1&&decide (who=0)&&decide (bs=[])&&decide (st=0)&&decide (tx=[]))):=by rw[hb1];rfl
   rw[←hb1]at CS
   clear hb1 CW CI h1
   go_enter Tryz.func43,Tryz.ntmps43
   go_wp2_with fail
   refine(CS.out _).mono ?_
   rintro r w' ⟨rfl,hw⟩;subst w'
   clear CS
   cases b1 with
   |false=>
    go_wp2
    go_ret
    rw[HE.out]
    exact⟨rfl,hb.out⟩
   |true=>
    by_cases hw0:who=0
    ·by_cases hbs:bs=[]
     ·by_cases hst:st=0
      ·by_cases htx:tx=[]
       ·have HX:Hid (Ev.ok ⟨2,who,bs,⟨st,tx⟩,set⟩=true):=by rw[Hid,HE.out];simp[hw0,hbs,hst,htx]
        clear HE
        subst hw0 hbs hst htx
        go_wp2
        go_ret
        rw[HX.out]
        exact⟨rfl,hb.out⟩
       ·have HX:Hid (Ev.ok ⟨2,who,bs,⟨st,tx⟩,set⟩=false):=by rw[Hid,HE.out];simp[htx]
        clear HE
        subst hw0 hbs hst
        go_wp2
        go_ret
        rw[HX.out]
        exact⟨rfl,hb.out⟩
      ·have HX:Hid (Ev.ok ⟨2,who,bs,⟨st,tx⟩,set⟩=false):=by rw[Hid,HE.out];simp[hst]
       clear HE
       subst hw0 hbs
       go_wp2
       go_ret
       rw[HX.out]
       exact⟨rfl,hb.out⟩
     ·have HX:Hid (Ev.ok ⟨2,who,bs,⟨st,tx⟩,set⟩=false):=by rw[Hid,HE.out];simp[hbs]
      clear HE
      subst hw0
      go_wp2
      go_ret
      rw[HX.out]
      exact⟨rfl,hb.out⟩
    ·have HX:Hid (Ev.ok ⟨2,who,bs,⟨st,tx⟩,set⟩=false):=by rw[Hid,HE.out];simp[hw0]
     clear HE
     go_wp2
     go_ret
     rw[HX.out]
     exact⟨rfl,hb.out⟩
  ·clear CW CI CS
   by_cases h3:kd=3
   ·subst h3
    have HE:Hid (Ev.ok ⟨3,who,bs,⟨st,tx⟩,set⟩=(decide (who=0)&&decide (bs=[])&&decide (st=0)&&decide (tx=[])&&decide (set=0))):=rfl
    clear h1 h2
    go_enter Tryz.func43,Tryz.ntmps43
    by_cases hw0:who=0
    ·by_cases hbs:bs=[]
     ·by_cases hst:st=0
      ·by_cases htx:tx=[]
       ·by_cases hs0:set=0
        ·have HX:Hid (Ev.ok ⟨3,who,bs,⟨st,tx⟩,set⟩=true):=by rw[Hid,HE.out];simp[hw0,hbs,hst,htx,hs0]
         clear HE
         subst hw0 hbs hst htx hs0
         go_wp2
         go_ret
         rw[HX.out]
         exact⟨rfl,hb.out⟩
        ·have HX:Hid (Ev.ok ⟨3,who,bs,⟨st,tx⟩,set⟩=false):=by rw[Hid,HE.out];simp[hs0]
         clear HE
         subst hw0 hbs hst htx
         go_wp2
         go_ret
         rw[HX.out]
         exact⟨rfl,hb.out⟩
       ·have HX:Hid (Ev.ok ⟨3,who,bs,⟨st,tx⟩,set⟩=false):=by rw[Hid,HE.out];simp[htx]
        clear HE
        subst hw0 hbs hst
        go_wp2
        go_ret
        rw[HX.out]
        exact⟨rfl,hb.out⟩
      ·have HX:Hid (Ev.ok ⟨3,who,bs,⟨st,tx⟩,set⟩=false):=by rw[Hid,HE.out];simp[hst]
       clear HE
       subst hw0 hbs
       go_wp2
       go_ret
       rw[HX.out]
       exact⟨rfl,hb.out⟩
     ·have HX:Hid (Ev.ok ⟨3,who,bs,⟨st,tx⟩,set⟩=false):=by rw[Hid,HE.out];simp[hbs]
      clear HE
      subst hw0
      go_wp2
      go_ret
      rw[HX.out]
      exact⟨rfl,hb.out⟩
    ·have HX:Hid (Ev.ok ⟨3,who,bs,⟨st,tx⟩,set⟩=false):=by rw[Hid,HE.out];simp[hw0]
     clear HE
     go_wp2
     go_ret
     rw[HX.out]
     exact⟨rfl,hb.out⟩
   ·have HX:Hid (Ev.ok ⟨kd,who,bs,⟨st,tx⟩,set⟩=false):=by rw[Hid];simp[Ev.ok,h1,h2,h3]
    go_enter Tryz.func43,Tryz.ntmps43
    go_wp2
    go_ret
    rw[HX.out]
    exact⟨rfl,hb.out⟩
end Go.Proofs.YthmnmaemnihkeaaGreatDoor
