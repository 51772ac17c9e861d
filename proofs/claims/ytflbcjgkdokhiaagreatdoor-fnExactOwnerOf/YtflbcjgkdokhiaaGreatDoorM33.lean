/- Pairs in regions that draw their order: one that is answered in new memory. -/
import Derived.Test.YtflbcjgkdokhiaaGreatDoorM32
import Derived.Test.YtflbcjgkdokhiaaGreatDoorM26
import Derived.Test.YtflbcjgkdokhiaaGreatDoorM31
import Derived.Test.YtflbcjgkdokhiaaGreatDoorLPair2
import Derived.Test.YtflbcjgkdokhiaaGreatDoorM18
import Derived.Test.YtflbcjgkdokhiaaGreatDoorM6
namespace Go.Proofs.YtflbcjgkdokhiaaGreatDoor
open Go.ChangeShapes Go.WideShapes Go.ChangeAt Go.RowKit
def prG (NS:List Nd) (MS:List Mg) (es:List Ev):GSpec:=⟨fun u=>∃a b x,u=.agg (prA a b x),fun u w=>∃ns ps a b x,u=.agg (prA a b x)∧RdPr w a b x ns ps es∧nsOf ns=NS∧msOf ps=MS⟩
theorem prG_later {NS:List Nd} {MS:List Mg} {es:List Ev} {u:Value} {x y:World} (hx:(prG NS MS es).F u x) (hl:Later x y):(prG NS MS es).F u y:=by
 obtain⟨ns,ps,a,b,v,e,h,e1,e2⟩:=hx
 exact⟨ns,ps,a,b,v,e,h.below hl,e1,e2⟩
theorem prG_rd {NS:List Nd} {MS:List Mg} {es:List Ev} {a b x:Value} {w:World} (h:(prG NS MS es).F (.agg (prA a b x)) w):∃ns ps,RdPr w a b x ns ps es∧nsOf ns=NS∧msOf ps=MS:=by
 obtain⟨ns,ps,a',b',x',e,h,e1,e2⟩:=h
 have e':=congrArg (fun v=>match v with| .agg cs=>cs|_=>#[]) e
 simp only[prA]at e'
 have g:∀j:Nat,_:=fun j=>congrArg (fun cs:Array Value=>cs[j]?) e'
 have h0:=g 0
 have h1:=g 1
 have h2:=g 2
 simp at h0 h1 h2
 subst h0 h1 h2
 exact⟨ns,ps,h,e1,e2⟩
theorem prG_of {P:Program} {f:FuncId} {args:Array Value} {w:World} {NS:List Nd} {MS:List Mg} {es:List Ev} (h:Calls P f args w fun e w'=>∃a b x ns ps,e=.returned (.agg (prA a b x))∧nsOf ns=NS∧msOf ps=MS∧OwnPr w' w.heap.size a b x ns ps es∧Below w.heap.size w w'):Calls P f args w (fun e w''=>∃u,e=.returned u∧(prG NS MS es).V u∧(prG NS MS es).F u w''∧Later w w''):=
 h.mono fun _ _ ⟨a,b,x,ns,ps,he,e1,e2,o,hb⟩=>⟨_,he,⟨a,b,x,rfl⟩,⟨ns,ps,a,b,x,rfl,o.rd,e1,e2⟩,hb⟩
theorem SmPr.of {ns ns2:List Nv} {ps ps2:List (Value×Mg)} {es:List Ev} (h:SmPr ns ps es) (e1:nsOf ns2=nsOf ns) (e2:msOf ps2=msOf ps):SmPr ns2 ps2 es:=by
 have l1:ns2.length=ns.length:=by rw[←nsOf_len,←nsOf_len,e1]
 have l2:ps2.length=ps.length:=len_of e2
 refine⟨fun x hx=>?_,by rw[l1];exact h.ln,smp_of e2 h.sp,by rw[l2];exact h.lp,h.le,?_,?_,h.te⟩
 ·have h1:x.n∈nsOf ns2:=List.mem_map.2 ⟨x,hx,rfl⟩
  rw[e1]at h1
  obtain⟨y,hy,e⟩:=List.mem_map.1 h1
  rw[←e]
  exact h.sn y hy
 ·have:=h.tn
  have e:totV ns2=totV ns:=by
   have:=congrArg (fun l:List Nd=>(l.map fun n=>n.len+n.log.length).sum) e1
   simpa[nsOf,totV,List.map_map,Function.comp_def]using this
  rw[e];exact this
 ·have:=h.tk
  have e:totK ps2=totK ps:=by
   have:=congrArg (fun l:List Mg=>(l.map fun m=>m.h.ks.length).sum) e2
   simpa[msOf,totK,List.map_map,Function.comp_def]using this
  rw[e];exact this
end Go.Proofs.YtflbcjgkdokhiaaGreatDoor
set_option maxRecDepth 20000
set_option maxHeartbeats 4000000
namespace Go.Proofs.YtflbcjgkdokhiaaGreatDoor
open Go.ChangeShapes Go.WideShapes Go.ChangeAt Go.RowKit
def evsOk (es:List Ev):Bool:=decide (es.length≤300)&&es.all Ev.ok
def nodesP (ns:List Nd):Bool:=match ns with
 |[a,b]=>a.ok&&b.ok&&decide (a.id=0)&&decide (b.id=1)&&decide (a.ys.length=b.ys.length)
 |_=>false
def paOk (ns:List Nd) (ms:List Mg) (es:List Ev):Bool:=nodesP ns&&postOk ms&&evsOk es
theorem sevent_any (e:Ev) (w:World):
  Calls Tryz.prog 27 #[.agg (evA e)] w fun r w'=>r=.returned (.bool e.ok)∧Below w.heap.size w w':=by
 have CW:Hid (∀wx,Calls Tryz.prog 50 #[.int .i64 e.who] wx fun r w'=>r=.returned (.bool (inI e.who 0 3))∧w'=wx):=fun wx=>swho_any e.who wx
 have CI:Hid (∀wx,Calls Tryz.prog 42 #[.int .i64 e.an.st,.int .i64 0,.int .i64 7] wx fun r w'=>r=.returned (.bool (inI e.an.st 0 7))∧w'=wx):=fun wx=>sin6_any e.an.st 0 7 wx
 have CS:Hid (∀wx,Calls Tryz.prog 51 #[.int .i64 e.set] wx fun r w'=>r=.returned (.bool (setOk e.set))∧w'=wx):=fun wx=>sset_any e.set wx
 obtain⟨kd,who,bs,⟨st,tx⟩,set⟩:=e
 have hb:Hid (Below w.heap.size w (w.alloc (.cells (evA ⟨kd,who,bs,⟨st,tx⟩,set⟩) 82))):=(Below.refl _ _).alloc (Nat.le_refl _) _
 have hsz:(⟨bs.toArray⟩:ByteArray).size=bs.length:=rfl
 unfold evA S at*
 dsimp only at*
 by_cases h1:kd=1
 ·subst h1
  obtain⟨b1,hb1⟩:∃b,b=inI who 0 3:=⟨_,rfl⟩
  obtain⟨b2,hb2⟩:∃b,b=inI st 0 7:=⟨_,rfl⟩
  have HE:Hid (Ev.ok ⟨1,who,bs,⟨st,tx⟩,set⟩=(b1&&decide (bs.length≤20)&&decide (set=0)&&b2)):=by rw[hb1,hb2];rfl
  rw[←hb1]at CW
  rw[←hb2]at CI
  clear hb1 hb2 CS
  go_enter Tryz.func27,Tryz.ntmps27
  go_wp2_with fail
  refine(CW.out _).mono ?_
  rintro r w' ⟨rfl,hw⟩;subst w'
  clear CW
  cases b1 with
  |false=>
   go_wp2
   go_ret
   rw[HE.out]
   exact⟨rfl,hb.out⟩
  |true=>
   by_cases h20:bs.length≤20
   ·by_cases hs0:set=0
    ·have HX:Hid (Ev.ok ⟨1,who,bs,⟨st,tx⟩,set⟩=b2):=by rw[Hid,HE.out];simp[h20,hs0]
     clear HE
     subst hs0
     have h20':(bs.length:Int)≤20:=by omega
     go_wp2_with fail
     refine(CI.out _).mono ?_
     rintro r w' ⟨rfl,hw⟩;subst w'
     clear CI
     go_wp2
     go_ret
     rw[HX.out]
     exact⟨rfl,hb.out⟩
    ·have HX:Hid (Ev.ok ⟨1,who,bs,⟨st,tx⟩,set⟩=false):=by rw[Hid,HE.out];simp[hs0]
     clear HE CI
     have h20':(bs.length:Int)≤20:=by omega
     go_wp2
     go_ret
     rw[HX.out]
     exact⟨rfl,hb.out⟩
   ·have HX:Hid (Ev.ok ⟨1,who,bs,⟨st,tx⟩,set⟩=false):=by rw[Hid,HE.out];simp[h20]
    clear HE CI
    have h20':¬(bs.length:Int)≤20:=by omega
    go_wp2
    go_ret
    rw[HX.out]
    exact⟨rfl,hb.out⟩
 ·by_cases h2:kd=2
  ·subst h2
   obtain⟨b1,hb1⟩:∃b,b=setOk set:=⟨_,rfl⟩
   have HE:Hid (Ev.ok ⟨2,who,bs,⟨st,tx⟩,set⟩=(b1&&decide (who=0)&&decide (bs=[])&&decide (st=0)&&decide (tx=[]))):=by rw[hb1];rfl
   rw[←hb1]at CS
   clear hb1 CW CI h1
   go_enter Tryz.func27,Tryz.ntmps27
   go_wp2_with fail
   refine(CS.out _).mono ?_
   rintro r w' ⟨rfl,hw⟩;subst w'
   clear CS
   cases b1 with
   |false=>
    go_wp2
    go_ret
    rw[HE.out]
    exact⟨rfl,hb.out⟩
   |true=>
    by_cases hw0:who=0
    ·by_cases hbs:bs=[]
     ·by_cases hst:st=0
      ·by_cases htx:tx=[]
       ·have HX:Hid (Ev.ok ⟨2,who,bs,⟨st,tx⟩,set⟩=true):=by rw[Hid,HE.out];simp[hw0,hbs,hst,htx]
        clear HE
        subst hw0 hbs hst htx
        go_wp2
        go_ret
        rw[HX.out]
        exact⟨rfl,hb.out⟩
       ·have HX:Hid (Ev.ok ⟨2,who,bs,⟨st,tx⟩,set⟩=false):=by rw[Hid,HE.out];simp[htx]
        clear HE
        subst hw0 hbs hst
        go_wp2
        go_ret
        rw[HX.out]
        exact⟨rfl,hb.out⟩
      ·have HX:Hid (Ev.ok ⟨2,who,bs,⟨st,tx⟩,set⟩=false):=by rw[Hid,HE.out];simp[hst]
       clear HE
       subst hw0 hbs
       go_wp2
       go_ret
       rw[HX.out]
       exact⟨rfl,hb.out⟩
     ·have HX:Hid (Ev.ok ⟨2,who,bs,⟨st,tx⟩,set⟩=false):=by rw[Hid,HE.out];simp[hbs]
      clear HE
      subst hw0
      go_wp2
      go_ret
      rw[HX.out]
      exact⟨rfl,hb.out⟩
    ·have HX:Hid (Ev.ok ⟨2,who,bs,⟨st,tx⟩,set⟩=false):=by rw[Hid,HE.out];simp[hw0]
     clear HE
     go_wp2
     go_ret
     rw[HX.out]
     exact⟨rfl,hb.out⟩
  ·clear CW CI CS
   by_cases h3:kd=3
   ·subst h3
    have HE:Hid (Ev.ok ⟨3,who,bs,⟨st,tx⟩,set⟩=(decide (who=0)&&decide (bs=[])&&decide (st=0)&&decide (tx=[])&&decide (set=0))):=rfl
    clear h1 h2
    go_enter Tryz.func27,Tryz.ntmps27
    by_cases hw0:who=0
    ·by_cases hbs:bs=[]
     ·by_cases hst:st=0
      ·by_cases htx:tx=[]
       ·by_cases hs0:set=0
        ·have HX:Hid (Ev.ok ⟨3,who,bs,⟨st,tx⟩,set⟩=true):=by rw[Hid,HE.out];simp[hw0,hbs,hst,htx,hs0]
         clear HE
         subst hw0 hbs hst htx hs0
         go_wp2
         go_ret
         rw[HX.out]
         exact⟨rfl,hb.out⟩
        ·have HX:Hid (Ev.ok ⟨3,who,bs,⟨st,tx⟩,set⟩=false):=by rw[Hid,HE.out];simp[hs0]
         clear HE
         subst hw0 hbs hst htx
         go_wp2
         go_ret
         rw[HX.out]
         exact⟨rfl,hb.out⟩
       ·have HX:Hid (Ev.ok ⟨3,who,bs,⟨st,tx⟩,set⟩=false):=by rw[Hid,HE.out];simp[htx]
        clear HE
        subst hw0 hbs hst
        go_wp2
        go_ret
        rw[HX.out]
        exact⟨rfl,hb.out⟩
      ·have HX:Hid (Ev.ok ⟨3,who,bs,⟨st,tx⟩,set⟩=false):=by rw[Hid,HE.out];simp[hst]
       clear HE
       subst hw0 hbs
       go_wp2
       go_ret
       rw[HX.out]
       exact⟨rfl,hb.out⟩
     ·have HX:Hid (Ev.ok ⟨3,who,bs,⟨st,tx⟩,set⟩=false):=by rw[Hid,HE.out];simp[hbs]
      clear HE
      subst hw0
      go_wp2
      go_ret
      rw[HX.out]
      exact⟨rfl,hb.out⟩
    ·have HX:Hid (Ev.ok ⟨3,who,bs,⟨st,tx⟩,set⟩=false):=by rw[Hid,HE.out];simp[hw0]
     clear HE
     go_wp2
     go_ret
     rw[HX.out]
     exact⟨rfl,hb.out⟩
   ·have HX:Hid (Ev.ok ⟨kd,who,bs,⟨st,tx⟩,set⟩=false):=by rw[Hid];simp[Ev.ok,h1,h2,h3]
    go_enter Tryz.func27,Tryz.ntmps27
    go_wp2
    go_ret
    rw[HX.out]
    exact⟨rfl,hb.out⟩
end Go.Proofs.YtflbcjgkdokhiaaGreatDoor
