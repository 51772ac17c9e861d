/- A region that draws its order, whose operations only read and whose callees read and may make memory of their own: walked once, in a class of worlds. -/
import Derived.Test.YtflbcjgkdokhiaaGreatDoorM2
import Derived.Deep.QuietTactic
namespace Go.Proofs.YtflbcjgkdokhiaaGreatDoor
open Go.ChangeShapes Go.WideShapes Go.ChangeAt Go.RowKit
structure Kin (p:World→Prop) where
 x:World
 h:p x
theorem Kin.call {p:World→Prop} {q:Kin p} {fn:FuncId} {args:Array Value} {v:Value}
  (h:Calls Tryz.prog fn args q.x fun e w'=>e=.returned v∧Below q.x.heap.size q.x w') (hb:∀x w',p x→Below x.heap.size x w'→p w'):Calls Tryz.prog fn args q.x fun e w''=>e=.returned v∧∃q:Kin p,w''=q.x:=
 h.mono fun _ w' ⟨he,b⟩=>⟨he,⟨w',hb _ _ q.h b⟩,rfl⟩
theorem Kin.same {p:World→Prop} {q:Kin p} {fn:FuncId} {args:Array Value} {v:Value}
  (h:Calls Tryz.prog fn args q.x fun e w'=>e=.returned v∧w'=q.x):Calls Tryz.prog fn args q.x fun e w''=>e=.returned v∧∃q:Kin p,w''=q.x:=
 h.mono fun _ _ ⟨he,b⟩=>⟨he,q,b⟩
end Go.Proofs.YtflbcjgkdokhiaaGreatDoor
namespace Go.Proofs.YtflbcjgkdokhiaaGreatDoor
open Go.ChangeShapes Go.WideShapes Go.ChangeAt Go.RowKit
structure GSpec where
 V:Value→Prop
 F:Value→World→Prop
abbrev Known:=List (Oper×(World→Prop))
section
variable (P:Program) (md:Region.Mode) (ops:Array Oper) (C:World→Prop) (E:Oper→Act→Option GSpec) (R:World→World→Prop)
def Later (x y:World):Prop:=Below x.heap.size x y
def Base (o:Oper) (G:Known) (w:World):Prop:=C w∧∀g∈G,g.1.apart ops o=false→g.2 w
def Has (G:Known) (w:World):Prop:=C w∧∀g∈G,g.2 w
def givesUpon (V:Value→Prop) (F:Value→World→Prop) (w:World):Result Next→Prop
 | .ok (.value u) w'=>V u∧F u w'∧R w w'
 | .ok .skip w'=>V undef∧F undef w'∧R w w'
 | .ok (.enter f args) w'=>w'=w∧Calls P f args w (fun e w''=>∃u,e=.returned u∧V u∧F u w''∧R w w'')
 |_=>False
def gives (o:Oper) (a:Act) (B:World→Prop) (s:GSpec):Prop:=∀w,B w→givesUpon P R s.V s.F w ((execOp a.eval o).run P w)
def plainly (o:Oper) (a:Act) (B:World→Prop) (v:Value):Prop:=∀w,B w→Oper.quietUpon P (fun _=>False) w v ((execOp a.eval o).run P w)
def one (o:Oper) (K:Act→Known→Prop) (a:Act) (G:Known):Prop:=
 match E o a with
 |some s=>gives P R o a (Base ops C o G) s∧∀u,s.V u→K (a.put o.dst u) ((o,s.F u)::G)
 |none=>∃v,plainly P o a (Base ops C o G) v∧K (a.put o.dst v) G
def wpGiv (Q:Act→Known→Prop):List Oper→Act→Known→Prop
 |[],a,G=>Q a G
 |o::rest,a,G=>if Region.wanted o (yielded ops a.tmps)then one P ops C E R o (wpGiv Q rest) a G else wpGiv Q rest (a.put o.dst undef) G
def oneOp (i:Nat) (K:Act→Known→Prop) (a:Act) (G:Known):Prop:=
 match ops[i]? with
 |none=>K a G
 |some o=>if Region.wanted o (yielded ops a.tmps)then one P ops C E R o K a G else K (a.put o.dst undef) G
def anyGiv (z:Nat) (T:Nat→Array Bool→Act→World→Prop):Nat→Array Bool→Act→Known→Prop
 |0,listed,a,G=>(∃w,Has C G w)→(∀j∈Region.ready md ops listed,j=z)∧∀w,Has C G w→T 0 listed a w
 |fuel+1,listed,a,G=>(∃w,Has C G w)→((∀j∈Region.ready md ops listed,j=z)→∀w,Has C G w→T (fuel+1) listed a w)∧∀i∈Region.ready md ops listed,i≠z→oneOp P ops C E R i (anyGiv z T fuel (listed.setIfInBounds i true)) a G
end
section
variable {P:Program} {md:Region.Mode} {ops:Array Oper} {C:World→Prop} {E:Oper→Act→Option GSpec} {R:World→World→Prop}
theorem gives_mono {o:Oper} {a:Act} {B B':World→Prop} {s:GSpec} (h:∀w,B' w→B w) (k:gives P R o a B s):gives P R o a B' s:=fun w hw=>k w (h w hw)
theorem plainly_mono {o:Oper} {a:Act} {B B':World→Prop} {v:Value} (h:∀w,B' w→B w) (k:plainly P o a B v):plainly P o a B' v:=fun w hw=>k w (h w hw)
theorem Base.less {o:Oper} {G G':Known} (h:∀g∈G,g∈G') (w:World) (k:Base ops C o G' w):Base ops C o G w:=⟨k.1,fun g hg=>k.2 g (h g hg)⟩
theorem Has.base {o:Oper} {G:Known} {w:World} (h:Has C G w):Base ops C o G w:=⟨h.1,fun g hg _=>h.2 g hg⟩
theorem Has.less {G G':Known} (h:∀g∈G,g∈G') {w:World} (k:Has C G' w):Has C G w:=⟨k.1,fun g hg=>k.2 g (h g hg)⟩
theorem anyGiv_set {z:Nat} {T:Nat→Array Bool→Act→World→Prop}:∀(fuel:Nat) (listed:Array Bool) (a:Act) (G G':Known),(∀g,g∈G↔g∈G')→anyGiv P md ops C E R z T fuel listed a G→anyGiv P md ops C E R z T fuel listed a G'
 |0,listed,a,G,G',h,k=>fun⟨w,hw⟩=>by
  obtain⟨k1,k2⟩:=k ⟨w,hw.less (fun g hg=>(h g).1 hg)⟩
  exact⟨k1,fun w hw=>k2 w (hw.less (fun g hg=>(h g).1 hg))⟩
 |fuel+1,listed,a,G,G',h,k=>fun⟨w,hw⟩=>by
  obtain⟨k1,k2⟩:=k ⟨w,hw.less (fun g hg=>(h g).1 hg)⟩
  refine⟨fun e w hw=>k1 e w (hw.less (fun g hg=>(h g).1 hg)),fun i hi hz=>?_⟩
  have:=k2 i hi hz
  unfold oneOp at*
  split
  ·rename_i ho;rw[ho]at this;exact anyGiv_set fuel _ a G G' h this
  ·rename_i o ho
   rw[ho]at this
   dsimp only at this
   split
   ·rename_i hw;rw[if_pos hw]at this
    unfold one at*
    split
    ·rename_i s hs
     rw[hs]at this
     exact⟨gives_mono (fun w=>Base.less (fun g hg=>(h g).1 hg) w) this.1,fun u hu=>anyGiv_set fuel _ _ _ _ (fun g=>by simp[h g]) (this.2 u hu)⟩
    ·rename_i hs
     rw[hs]at this
     obtain⟨v,h1,h2⟩:=this
     exact⟨v,plainly_mono (fun w=>Base.less (fun g hg=>(h g).1 hg) w) h1,anyGiv_set fuel _ _ _ _ h h2⟩
   ·rename_i hw;rw[if_neg hw]at this;exact anyGiv_set fuel _ _ _ _ h this
theorem noCall {f:FuncId} {args:Array Value} {w:World} {v:Value} (h:Calls P f args w (fun e _=>e=.returned v∧False)):False:=by
 obtain⟨e,w'',fr,⟨-,h⟩, -⟩:=h []
 exact h
theorem plain_one {w:World} {v v':Value} {r:Result Next} (h:Oper.quietUpon P (fun _=>False) w v r) (h':Oper.quietUpon P (fun _=>False) w v' r):v=v':=by
 cases r with
 |halt x w'=>simp only[Oper.quietUpon]at h
 |ok n w'=>
  cases n<;>simp only[Oper.quietUpon]at h h'
  ·exact h.2.symm.trans h'.2
  ·exact h.2.trans h'.2.symm
  ·exact absurd h.2 noCall
theorem givesUpon_end {V:Value→Prop} {F:Value→World→Prop} {w:World} {r:Result Next} (h:givesUpon P R V F w r):∃u w'',V u∧F u w''∧R w w'':=by
 cases r with
 |halt x w'=>simp only[givesUpon]at h
 |ok n w'=>
  cases n<;>simp only[givesUpon]at h
  ·exact⟨_,_,h⟩
  ·exact⟨_,_,h⟩
  ·obtain⟨-,hc⟩:=h
   obtain⟨e,w'',fr,⟨u, -,hV,hF,hL⟩, -⟩:=hc []
   exact⟨u,w'',hV,hF,hL⟩
def Good (E:Oper→Act→Option GSpec) (G:Known):Prop:=∀g∈G,∃s u a,E g.1 a=some s∧g.2=s.F u
theorem Has.later (hC:∀x y,C x→R x y→C y) (hE:∀o a s,E o a=some s→∀u x y,s.F u x→R x y→s.F u y) {G:Known} (hg:Good E G) {x y:World} (h:Has C G x) (hl:R x y):Has C G y:=by
 refine⟨hC _ _ h.1 hl,fun g hG=>?_⟩
 obtain⟨s,u,a,hs,hF⟩:=hg g hG
 have:=h.2 g hG
 rw[hF]at this⊢
 exact hE _ _ _ hs _ _ _ this hl
theorem Good.cons {o:Oper} {a:Act} {s:GSpec} {G:Known} (hg:Good E G) (h:E o a=some s) (u:Value):Good E ((o,s.F u)::G):=by
 intro g hG
 rw[List.mem_cons]at hG
 rcases hG with rfl|hG
 ·exact⟨s,u,a,h,rfl⟩
 ·exact hg g hG
theorem any_of_giv (hC:∀x y,C x→R x y→C y) (hE:∀o a s,E o a=some s→∀u x y,s.F u x→R x y→s.F u y) {z x:Nat} {Q':Exit→Act→World→Prop} (hz:∀listed,z∈Region.ready md ops listed→∀j∈Region.ready md ops listed,j=z):∀(fuel:Nat) (listed:Array Bool) (a:Act) (G:Known) (w:World),Good E G→Has C G w→anyGiv P md ops C E R z (fun k=>wpAny P md ops Q' (x+k)) fuel listed a G→wpAny P md ops Q' (x+fuel) listed a w
 |0,listed,a,G,w,_,hw,k=>(k ⟨w,hw⟩).2 w hw
 |fuel+1,listed,a,G,w,hg,hw,k=>by
  obtain⟨k1,k2⟩:=k ⟨w,hw⟩
  by_cases hall:∀j∈Region.ready md ops listed,j=z
  ·exact k1 hall w hw
  refine⟨fun e=>absurd (fun j hj=>by rw[e]at hj;cases hj) hall,fun i hi=>?_⟩
  have hiz:i≠z:=fun e=>hall (hz listed (by rw[←e];exact hi))
  have:=k2 i hi hiz
  unfold oneOp at this
  unfold wpOp
  split
  ·rename_i ho;rw[ho]at this;exact any_of_giv hC hE hz fuel _ a G w hg hw this
  ·rename_i o ho
   rw[ho]at this
   dsimp only at this
   split
   ·rename_i hwant
    rw[if_pos hwant]at this
    refine .inl ?_
    unfold one at this
    unfold Oper.wp
    split at this
    ·rename_i s hs
     have hr:=this.1 w hw.base
     generalize (execOp a.eval o).run P w=r at hr
     cases r with
     |halt x w'=>simp only[givesUpon]at hr
     |ok n w'=>
      have go:∀u w'',s.V u→s.F u w''→R w w''→wpAny P md ops Q' (x+fuel) (listed.setIfInBounds i true) (a.put o.dst u) w'':=by
       intro u w'' hV hF hL
       refine any_of_giv hC hE hz fuel _ _ _ w'' (hg.cons hs u) ?_ (this.2 u hV)
       have hh:=hw.later hC hE hg hL
       refine⟨hh.1,fun g hG=>?_⟩
       rw[List.mem_cons]at hG
       rcases hG with rfl|hG
       ·exact hF
       ·exact hh.2 g hG
      cases n<;>simp only[givesUpon]at hr
      ·simp only[Oper.upon];exact go _ _ hr.1 hr.2.1 hr.2.2
      ·simp only[Oper.upon];exact go _ _ hr.1 hr.2.1 hr.2.2
      ·obtain⟨rfl,hc⟩:=hr
       simp only[Oper.upon]
       refine hc.mono ?_
       rintro e w'' ⟨u,rfl,hV,hF,hL⟩
       exact go u w'' hV hF hL
    ·rename_i hs
     obtain⟨v,h1,h2⟩:=this
     have hr:=h1 w hw.base
     generalize (execOp a.eval o).run P w=r at hr
     cases r with
     |halt x w'=>simp only[Oper.quietUpon]at hr
     |ok n w'=>
      cases n<;>simp only[Oper.quietUpon]at hr
      ·obtain⟨rfl,rfl⟩:=hr;simp only[Oper.upon];exact any_of_giv hC hE hz fuel _ _ _ _ hg hw h2
      ·obtain⟨rfl,rfl⟩:=hr;simp only[Oper.upon];exact any_of_giv hC hE hz fuel _ _ _ _ hg hw h2
      ·exact absurd hr.2 noCall
   ·rename_i hwant;rw[if_neg hwant]at this;exact any_of_giv hC hE hz fuel _ _ _ _ hg hw this
theorem base_apart {oi oj:Oper} {F:World→Prop} {G:Known} (hap:oi.apart ops oj=true) (w:World) (h:Base ops C oj G w):Base ops C oj ((oi,F)::G) w:=by
 refine⟨h.1,fun g hg hn=>?_⟩
 rw[List.mem_cons]at hg
 rcases hg with rfl|hg
 ·rw[hap]at hn;cases hn
 ·exact h.2 g hg hn
theorem giv_first (hC:∀x y,C x→R x y→C y) (hE:∀o a s,E o a=some s→∀u x y,s.F u x→R x y→s.F u y) (hA:∀o a dst v,(∀d,dst=some d→d∉o.looksAt ops)→E o (Act.put a dst v)=E o a) {z:Nat} {T:Nat→Array Bool→Act→World→Prop} {i:Nat} {oi:Oper} (hiz:i≠z) (hi:ops[i]?=some oi) (hsel:∀(j:Nat) (o:Oper) cs b,ops[j]?=some o→o.op≠.select cs b):
  ∀(fuel:Nat) (listed:Array Bool) (a:Act) (G:Known),Good E G→
   (∀j oj,ops[j]?=some oj→j≠i→listed.getD j true=false→(∀e∈oj.after,Region.binds md e=true→e.on≠i)→oi.apart ops oj=true)→
   i∈Region.ready md ops listed→oneOp P ops C E R i (anyGiv P md ops C E R z T fuel (listed.setIfInBounds i true)) a G→anyGiv P md ops C E R z T (fuel+1) listed a G:=by
 intro fuel
 induction fuel with
 |zero=>
  intro listed a G hg hfree hr H hin
  refine⟨fun h=>absurd (h i hr) hiz,fun j hj hjz=>?_⟩
  by_cases hji:j=i
  ·subst hji;exact H
  ·exfalso
   have hj':=ready_mono hj hji
   obtain⟨w,hw⟩:=hin
   unfold oneOp at H
   rw[hi]at H
   dsimp only at H
   split at H
   ·unfold one at H
    split at H
    ·rename_i s hs
     obtain⟨u,w'',hV,hF,hL⟩:=givesUpon_end (H.1 w hw.base)
     have hh:=hw.later hC hE hg hL
     have:=(H.2 u hV ⟨w'',hh.1,fun g hG=>by rw[List.mem_cons]at hG;rcases hG with rfl|hG;exact hF;exact hh.2 g hG⟩).1
     exact hjz (this j hj')
    ·obtain⟨v, -,h2⟩:=H
     have:=(h2 ⟨w,hw⟩).1
     exact hjz (this j hj')
   ·have:=(H ⟨w,hw⟩).1
    exact hjz (this j hj')
 |succ fuel ih=>
  intro listed a G hg hfree hr H hin
  refine⟨fun h=>absurd (h i hr) hiz,fun j hj hjz=>?_⟩
  by_cases hji:j=i
  ·subst hji;exact H
  obtain⟨hjun,oj,hoj,hall⟩:=mem_ready.1 hj
  have hj':=ready_mono hj hji
  have hnot:∀e∈oj.after,Region.binds md e=true→e.on≠i:=fun e he hb heq=>by
   have h1:=hall e he hb
   have h0:=(mem_ready.1 hr).1
   rw[heq]at h1
   rcases Nat.lt_or_ge i listed.size with h'|h'
   ·simp[h']at h0 h1;rw[h0]at h1;cases h1
   ·simp[Array.getElem?_eq_none h']at h1
  have hap:=hfree j oj hoj hji hjun hnot
  obtain⟨p1,p2,p3⟩:=Oper.apart_spec hap
  have hfree':∀k ok,ops[k]?=some ok→k≠i→(listed.setIfInBounds j true).getD k true=false→(∀e∈ok.after,Region.binds md e=true→e.on≠i)→oi.apart ops ok=true:=fun k ok hk hki hun hno=>by
   refine hfree k ok hk hki ?_ hno
   by_cases hjk:j=k
   ·subst hjk;exact hjun
   ·rw[getD_set_ne true hjk]at hun;exact hun
  have hri:=ready_mono hr (Ne.symm hji)
  have wj:∀v,Region.wanted oj (yielded ops (a.put oi.dst v).tmps)=Region.wanted oj (yielded ops a.tmps):=fun v=>wanted_put oj a oi.dst v p1
  have xj:∀v,execOp (a.put oi.dst v).eval oj=execOp a.eval oj:=fun v=>execOp_put oj (fun cs b=>hsel j oj cs b hoj) a oi.dst v p1
  have wi:∀v,Region.wanted oi (yielded ops (a.put oj.dst v).tmps)=Region.wanted oi (yielded ops a.tmps):=fun v=>wanted_put oi a oj.dst v p3
  have xi:∀v,execOp (a.put oj.dst v).eval oi=execOp a.eval oi:=fun v=>execOp_put oi (fun cs b=>hsel i oi cs b hi) a oj.dst v p3
  have ej:∀v,E oj (a.put oi.dst v)=E oj a:=fun v=>hA oj a oi.dst v p1
  have ei:∀v,E oi (a.put oj.dst v)=E oi a:=fun v=>hA oi a oj.dst v p3
  have cm:∀u v,(a.put oi.dst u).put oj.dst v=(a.put oj.dst v).put oi.dst u:=fun u v=>Act.put_comm a u v p2
  obtain⟨w,hw⟩:=hin
  unfold oneOp at H
  rw[hi]at H
  dsimp only at H
  have hlist:∀(x:Array Bool),(x.setIfInBounds i true).setIfInBounds j true=(x.setIfInBounds j true).setIfInBounds i true:=fun x=>Array.setIfInBounds_comm _ _ (Ne.symm hji)
  unfold oneOp
  rw[hoj]
  dsimp only
  by_cases hwi:Region.wanted oi (yielded ops a.tmps)=true
  ·rw[if_pos hwi]at H
   unfold one at H
   split at H
   ·
    rename_i s hs
    have hinj:∀u,s.V u→(∃w,Has C ((oi,s.F u)::G) w)→oneOp P ops C E R j (anyGiv P md ops C E R z T fuel ((listed.setIfInBounds i true).setIfInBounds j true)) (a.put oi.dst u) ((oi,s.F u)::G):=fun u hu hin=>((H.2 u hu) hin).2 j hj' hjz
    obtain⟨u0,w0,hV0,hF0,hL0⟩:=givesUpon_end (H.1 w hw.base)
    have in0:∃w,Has C ((oi,s.F u0)::G) w:=by
     have hh:=hw.later hC hE hg hL0
     exact⟨w0,hh.1,fun g hG=>by rw[List.mem_cons]at hG;rcases hG with rfl|hG;exact hF0;exact hh.2 g hG⟩
    have less:∀u G',(∀g∈G,g∈G')→(∃w,Has C ((oi,s.F u)::G') w)→∃w,Has C ((oi,s.F u)::G) w:=fun u G' hsub ⟨w,hw⟩=>⟨w,hw.less (fun g hG=>by rw[List.mem_cons]at hG⊢;rcases hG with h|h;exact .inl h;exact .inr (hsub g h))⟩
    by_cases hwj:Region.wanted oj (yielded ops a.tmps)=true
    ·rw[if_pos hwj]
     unfold one
     split
     ·rename_i sj hsj
      have H0:=hinj u0 hV0 in0
      unfold oneOp at H0
      rw[hoj]at H0
      dsimp only at H0
      rw[if_pos (by rw[wj];exact hwj)]at H0
      unfold one at H0
      rw[ej,hsj]at H0
      refine⟨?_,fun v hv=>?_⟩
      ·have:=gives_mono (fun w=>base_apart (F:=s.F u0) hap w) H0.1
       unfold gives at this⊢
       rw[xj]at this
       exact this
      ·refine ih (listed.setIfInBounds j true) (a.put oj.dst v) _ (hg.cons hsj v) hfree' hri ?_
       unfold oneOp
       rw[hi]
       dsimp only
       rw[if_pos (by rw[wi];exact hwi)]
       unfold one
       rw[ei,hs]
       refine⟨?_,fun u hu=>?_⟩
       ·have:=gives_mono (fun w=>Base.less (ops:=ops) (C:=C) (o:=oi) (fun g hG=>List.mem_cons_of_mem (oj,sj.F v) hG) w) H.1
        unfold gives at this⊢
        rw[xi]
        exact this
       ·rw[←hlist,←cm]
        refine anyGiv_set _ _ _ ((oj,sj.F v)::(oi,s.F u)::G) _ (fun g=>by simp[or_left_comm]) ?_
        by_cases hin:∃w,Has C ((oj,sj.F v)::(oi,s.F u)::G) w
        ·have hin':∃w,Has C ((oi,s.F u)::G) w:=by
          obtain⟨w,hw⟩:=hin
          exact⟨w,hw.less (fun g hG=>List.mem_cons_of_mem _ hG)⟩
         have H1:=hinj u hu hin'
         unfold oneOp at H1
         rw[hoj]at H1
         dsimp only at H1
         rw[if_pos (by rw[wj];exact hwj)]at H1
         unfold one at H1
         rw[ej,hsj]at H1
         exact H1.2 v hv
        ·cases fuel<;>exact fun h=>absurd h hin
     ·rename_i hsj
      have H0:=hinj u0 hV0 in0
      unfold oneOp at H0
      rw[hoj]at H0
      dsimp only at H0
      rw[if_pos (by rw[wj];exact hwj)]at H0
      unfold one at H0
      rw[ej,hsj]at H0
      obtain⟨v,hv, -⟩:=H0
      have hv':plainly P oj a (Base ops C oj G) v:=by
       have:=plainly_mono (fun w=>base_apart (F:=s.F u0) hap w) hv
       unfold plainly at this⊢
       rw[xj]at this
       exact this
      refine⟨v,hv',ih (listed.setIfInBounds j true) (a.put oj.dst v) G hg hfree' hri ?_⟩
      unfold oneOp
      rw[hi]
      dsimp only
      rw[if_pos (by rw[wi];exact hwi)]
      unfold one
      rw[ei,hs]
      refine⟨?_,fun u hu=>?_⟩
      ·have:=H.1
       unfold gives at this⊢
       rw[xi]
       exact this
      ·rw[←hlist,←cm]
       by_cases hin:∃w,Has C ((oi,s.F u)::G) w
       ·have H1:=hinj u hu hin
        unfold oneOp at H1
        rw[hoj]at H1
        dsimp only at H1
        rw[if_pos (by rw[wj];exact hwj)]at H1
        unfold one at H1
        rw[ej,hsj]at H1
        obtain⟨v',hv2,hk⟩:=H1
        have e:v=v':=by
         have:=plainly_mono (fun w=>base_apart (F:=s.F u) hap w) hv2
         have t1:=this w hw.base
         rw[xj]at t1
         exact plain_one (hv' w hw.base) t1
        rw[e]
        exact hk
       ·cases fuel<;>exact fun h=>absurd h hin
    ·rw[if_neg hwj]
     refine ih (listed.setIfInBounds j true) (a.put oj.dst undef) G hg hfree' hri ?_
     unfold oneOp
     rw[hi]
     dsimp only
     rw[if_pos (by rw[wi];exact hwi)]
     unfold one
     rw[ei,hs]
     refine⟨?_,fun u hu=>?_⟩
     ·have:=H.1
      unfold gives at this⊢
      rw[xi]
      exact this
     ·rw[←hlist,←cm]
      by_cases hin:∃w,Has C ((oi,s.F u)::G) w
      ·have H1:=hinj u hu hin
       unfold oneOp at H1
       rw[hoj]at H1
       dsimp only at H1
       rw[if_neg (by rw[wj];exact hwj)]at H1
       exact H1
      ·cases fuel<;>exact fun h=>absurd h hin
   ·
    rename_i hs
    obtain⟨vi,hpi,hk⟩:=H
    have H1:=(hk ⟨w,hw⟩).2 j hj' hjz
    unfold oneOp at H1
    rw[hoj]at H1
    dsimp only at H1
    have done:∀v G',(∀g∈G,g∈G')→Good E G'→anyGiv P md ops C E R z T fuel ((listed.setIfInBounds i true).setIfInBounds j true) ((a.put oi.dst vi).put oj.dst v) G'→anyGiv P md ops C E R z T (fuel+1) (listed.setIfInBounds j true) (a.put oj.dst v) G':=by
     intro v G' hsub hg' hh
     refine ih (listed.setIfInBounds j true) (a.put oj.dst v) G' hg' hfree' hri ?_
     unfold oneOp
     rw[hi]
     dsimp only
     rw[if_pos (by rw[wi];exact hwi)]
     unfold one
     rw[ei,hs]
     refine⟨vi,?_,?_⟩
     ·have:=plainly_mono (fun w=>Base.less (ops:=ops) (C:=C) (o:=oi) hsub w) hpi
      unfold plainly at this⊢
      rw[xi]
      exact this
     ·rw[←hlist,←cm]
      exact hh
    by_cases hwj:Region.wanted oj (yielded ops a.tmps)=true
    ·rw[if_pos hwj]
     rw[if_pos (by rw[wj];exact hwj)]at H1
     unfold one at H1⊢
     split
     ·rename_i sj hsj
      rw[ej,hsj]at H1
      refine⟨?_,fun v hv=>done v _ (fun g hG=>List.mem_cons_of_mem _ hG) (hg.cons hsj v) (H1.2 v hv)⟩
      have:=H1.1
      unfold gives at this⊢
      rw[xj]at this
      exact this
     ·rename_i hsj
      rw[ej,hsj]at H1
      obtain⟨v,h1,h2⟩:=H1
      refine⟨v,?_,done v G (fun _ h=>h) hg h2⟩
      unfold plainly at h1⊢
      rw[xj]at h1
      exact h1
    ·rw[if_neg hwj]
     rw[if_neg (by rw[wj];exact hwj)]at H1
     exact done undef G (fun _ h=>h) hg H1
  ·rw[if_neg hwi]at H
   have H1:=(H ⟨w,hw⟩).2 j hj' hjz
   unfold oneOp at H1
   rw[hoj]at H1
   dsimp only at H1
   have done:∀v G',Good E G'→anyGiv P md ops C E R z T fuel ((listed.setIfInBounds i true).setIfInBounds j true) ((a.put oi.dst undef).put oj.dst v) G'→anyGiv P md ops C E R z T (fuel+1) (listed.setIfInBounds j true) (a.put oj.dst v) G':=by
    intro v G' hg' hh
    refine ih (listed.setIfInBounds j true) (a.put oj.dst v) G' hg' hfree' hri ?_
    unfold oneOp
    rw[hi]
    dsimp only
    rw[if_neg (by rw[wi];exact hwi),←hlist,←cm]
    exact hh
   by_cases hwj:Region.wanted oj (yielded ops a.tmps)=true
   ·rw[if_pos hwj]
    rw[if_pos (by rw[wj];exact hwj)]at H1
    unfold one at H1⊢
    split
    ·rename_i sj hsj
     rw[ej,hsj]at H1
     refine⟨?_,fun v hv=>done v _ (hg.cons hsj v) (H1.2 v hv)⟩
     have:=H1.1
     unfold gives at this⊢
     rw[xj]at this
     exact this
    ·rename_i hsj
     rw[ej,hsj]at H1
     obtain⟨v,h1,h2⟩:=H1
     refine⟨v,?_,done v G hg h2⟩
     unfold plainly at h1⊢
     rw[xj]at h1
     exact h1
   ·rw[if_neg hwj]
    rw[if_neg (by rw[wj];exact hwj)]at H1
    exact done undef G hg H1
theorem giv_lex (hC:∀x y,C x→R x y→C y) (hE:∀o a s,E o a=some s→∀u x y,s.F u x→R x y→s.F u y) (hA:∀o a dst v,(∀d,dst=some d→d∉o.looksAt ops)→E o (Act.put a dst v)=E o a) {z x:Nat} {T:Nat→Array Bool→Act→World→Prop} {F:Act→World→Prop} (hs:Region.noSelect ops=true)
  (hend:∀listed a w,Region.lexFrom md ops x z listed=true→F a w→(∀j∈Region.ready md ops listed,j=z)∧T 0 listed a w) (hemp:∀listed,Region.lexFrom md ops x z listed=true→∀j∈Region.ready md ops listed,j=z):
  ∀(l:List Oper) (k:Nat) (listed:Array Bool) (a:Act) (G:Known),Good E G→k+l.length=z→(∀j,j<l.length→l[j]?=ops[k+j]?)→
  Region.lexFrom md ops (x+l.length) k listed=true→wpGiv P ops C E R (fun a G=>∀w,Has C G w→F a w) l a G→anyGiv P md ops C E R z T l.length listed a G
 |[],k,listed,a,G,_,hk,_,hB,h=>fun _=>by
  have hk':k=z:=by simpa using hk
  subst hk'
  exact⟨hemp listed hB,fun w hw=>(hend listed a w hB (h w hw)).2⟩
 |o::l,k,listed,a,G,hg,hk,hl,hB,h=>by
  have h0:ops[k]?=some o:=by simpa using(hl 0 (by simp)).symm
  have hB1:((Region.ready md ops listed).contains k&&Region.free md ops listed k&&Region.lexFrom md ops (x+l.length) (k+1) (listed.setIfInBounds k true))=true:=hB
  simp only[Bool.and_eq_true]at hB1
  obtain⟨⟨hr,hf⟩,hB'⟩:=hB1
  have hk':k+1+l.length=z:=by simp only[List.length_cons]at hk;omega
  have hkz:k≠z:=by omega
  have hl':∀j,j<l.length→l[j]?=ops[k+1+j]?:=fun j hj=>by have:=hl (j+1) (by simp;omega);simpa[Nat.add_assoc,Nat.add_comm 1 j]using this
  refine giv_first hC hE hA hkz h0 (Region.noSelect_spec hs) l.length listed a G hg (Region.free_spec h0 hf) (by simpa using hr) ?_
  unfold oneOp
  rw[h0]
  dsimp only
  unfold wpGiv at h
  split
  ·rename_i hw
   rw[if_pos hw]at h
   unfold one at h⊢
   split
   ·rename_i s hsp
    rw[hsp]at h
    exact⟨h.1,fun u hu=>giv_lex hC hE hA hs hend hemp l (k+1) _ _ _ (hg.cons hsp u) hk' hl' hB' (h.2 u hu)⟩
   ·rename_i hsp
    rw[hsp]at h
    obtain⟨v,h1,h2⟩:=h
    exact⟨v,h1,giv_lex hC hE hA hs hend hemp l (k+1) _ _ _ hg hk' hl' hB' h2⟩
  ·rename_i hw
   rw[if_neg hw]at h
   exact giv_lex hC hE hA hs hend hemp l (k+1) _ _ _ hg hk' hl' hB' h
theorem wp_region_giv (hC:∀x y,C x→R x y→C y) (hE:∀o a s,E o a=some s→∀u x y,s.F u x→R x y→s.F u y) {id:Nat} {Q:Exit→Act→World→Prop} {a:Act} {w:World} {l:List Oper} (hA:∀o a dst v,(∀d,dst=some d→d∉o.looksAt l.toArray)→E o (Act.put a dst v)=E o a) (hm:P.follows .mixedOrders=true) (hB:Region.lexB .any l.toArray=true) (h0:C w.drew)
  (h:wpGiv P l.toArray C E R (fun a' G=>∀w',Has C G w'→Q .normal a' w') l a []):(Code.region id l.toArray true).wp P Q a w:=by
 simp only[Region.lexB,Bool.and_eq_true]at hB
 have hg:Good E []:=fun g hG=>by cases hG
 have hno:∀listed,l.length∈Region.ready .any l.toArray listed→∀j∈Region.ready .any l.toArray listed,j=l.length:=fun listed hj=>by
  obtain⟨-,o,ho, -⟩:=mem_ready.1 hj
  simp at ho
 have:=giv_lex (P:=P) (md:=.any) (ops:=l.toArray) (z:=l.length) (x:=0) (T:=fun k=>wpAny P .any l.toArray Q (0+k)) (F:=fun a w=>Q .normal a w) hC hE hA hB.1
  (fun listed a w hl hf=>by
   have e:Region.ready .any l.toArray listed=[]:=by simpa[Region.lexFrom]using hl
   exact⟨fun j hj=>(by rw[e]at hj;cases hj),e,hf⟩)
  (fun listed hl j hj=>by
   have e:Region.ready .any l.toArray listed=[]:=by simpa[Region.lexFrom]using hl
   rw[e]at hj;cases hj) l 0 (Array.replicate l.toArray.size false) a [] hg (by simp) (by simp) (by simpa using hB.2) h
 exact wp_region_any hm (by simpa using any_of_giv hC hE (x:=0) hno _ _ _ [] _ hg ⟨h0,fun g hG=>by cases hG⟩ this)
theorem giv_plain {Q:Act→Known→Prop} {o:Oper} {rest:List Oper} {a:Act} {G:Known} (hs:E o a=none)
  (h:∀K:Act→Prop,(∀a,wpGiv P ops C E R Q rest a G→K a)→if Region.wanted o (yielded ops a.tmps)then(∃v,(∀w,(∃q:Kin C,w=q.x)→o.quietAt P a (fun _=>False) w v)∧K (a.put o.dst v))else K (a.put o.dst undef)):wpGiv P ops C E R Q (o::rest) a G:=by
 have h1:=h (fun a=>wpGiv P ops C E R Q rest a G) (fun _ h=>h)
 unfold wpGiv
 split
 ·rename_i hw
  rw[if_pos hw]at h1
  obtain⟨v,h2,h3⟩:=h1
  unfold one
  rw[hs]
  exact⟨v,fun w hw=>h2 w ⟨⟨w,hw.1⟩,rfl⟩,h3⟩
 ·rename_i hw
  rw[if_neg hw]at h1
  exact h1
theorem giv_skip {Q:Act→Known→Prop} {o:Oper} {rest:List Oper} {a:Act} {G:Known} (hw:Region.wanted o (yielded ops a.tmps)=false) (h:wpGiv P ops C E R Q rest (a.put o.dst undef) G):wpGiv P ops C E R Q (o::rest) a G:=by
 unfold wpGiv
 rw[if_neg (by rw[hw];decide)]
 exact h
theorem giv_call {Q:Act→Known→Prop} {o:Oper} {rest:List Oper} {a:Act} {G:Known} (s:GSpec) (hs:E o a=some s) (hw:Region.wanted o (yielded ops a.tmps)=true)
  (h:∀w,Base ops C o G w→givesUpon P R s.V s.F w ((execOp a.eval o).run P w))
  (k:∀u,s.V u→wpGiv P ops C E R Q rest (a.put o.dst u) ((o,s.F u)::G)):wpGiv P ops C E R Q (o::rest) a G:=by
 unfold wpGiv
 rw[if_pos hw]
 unfold one
 rw[hs]
 exact⟨h,k⟩
theorem giv_end {Q:Act→World→Prop} {a:Act} {G:Known} (h:∀w',Has C G w'→Q a w'):wpGiv P ops C E R (fun a' G=>∀w',Has C G w'→Q a' w') [] a G:=h
theorem Base.at0 {o o':Oper} {F:World→Prop} {G:Known} {w:World} (h:Base ops C o ((o',F)::G) w) (hn:o'.apart ops o=false):F w:=h.2 _ (List.mem_cons_self ..) hn
theorem Base.tail {o:Oper} {g:Oper×(World→Prop)} {G:Known} {w:World} (h:Base ops C o (g::G) w):Base ops C o G w:=⟨h.1,fun g hg=>h.2 g (List.mem_cons_of_mem _ hg)⟩
def byDst (T:Tmp→Option GSpec):Oper→Act→Option GSpec:=fun o _=>o.dst.bind T
theorem byDst_later {T:Tmp→Option GSpec} (h:∀d s,T d=some s→∀u x y,s.F u x→R x y→s.F u y):∀o a s,byDst T o a=some s→∀u x y,s.F u x→R x y→s.F u y:=by
 intro o a s hs
 unfold byDst at hs
 cases hd:o.dst with
 |none=>rw[hd]at hs;cases hs
 |some d=>rw[hd]at hs;exact h d s hs
theorem byDst_looks (T:Tmp→Option GSpec) (ops:Array Oper):∀o a dst v,(∀d,dst=some d→d∉Oper.looksAt ops o)→byDst T o (Act.put a dst v)=byDst T o a:=fun _ _ _ _ _=>rfl
def truth (b:Bool):GSpec:=⟨fun u=>u=.bool b,fun _ _=>True⟩
theorem truth_of {P:Program} {f:FuncId} {args:Array Value} {w:World} {b:Bool} (hR:∀y,Below w.heap.size w y→R w y) (h:Calls P f args w fun e w'=>e=.returned (.bool b)∧Below w.heap.size w w'):Calls P f args w (fun e w''=>∃u,e=.returned u∧(truth b).V u∧(truth b).F u w''∧R w w''):=
 h.mono fun _ _ ⟨he,hb⟩=>⟨_,he,rfl,trivial,hR _ hb⟩
end
end Go.Proofs.YtflbcjgkdokhiaaGreatDoor
