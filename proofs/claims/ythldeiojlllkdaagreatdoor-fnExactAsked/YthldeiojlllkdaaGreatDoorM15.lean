/- A region that draws its order, whose operations only read and whose callees read, make memory of their own and may answer what lies in it: walked once, in the order of the text. What a call answers is a letter with what is known of it; an operation may lean on what is known of an answer only if it looks at that answer. -/
import Derived.Test.YthldeiojlllkdaaGreatDoorM14
set_option maxRecDepth 20000
set_option maxHeartbeats 200000
namespace Go.Proofs.YthldeiojlllkdaaGreatDoor
open Go.ChangeShapes Go.WideShapes Go.ChangeAt Go.RowKit
section
structure dP where
 V:Value->Prop
 F:Value->World->Prop
abbrev cK:=List (Oper×(World->Prop))
section
variable (P:Program) (md:Region.Mode) (ops:Array Oper) (C:World->Prop) (E:Oper->Act->Option dP) (R:World->World->Prop)
def dQ (x y:World):Prop:=iO x y
def iu (o:Oper) (G:cK) (w:World):Prop:=C w/\∀g∈G,g.1.apart ops o=false->g.2 w
def Has (G:cK) (w:World):Prop:=C w/\∀g∈G,g.2 w
def dS (V:Value->Prop) (F:Value->World->Prop) (w:World):Result Next->Prop
 | .ok (.value u) w'=>V u/\F u w'/\R w w'
 | .ok .skip w'=>V undef/\F undef w'/\R w w'
 | .ok (.enter f args) w'=>w'=w/\Calls P f args w (fun e w''=>∃u,e=.returned u/\V u/\F u w''/\R w w'')
 |_=>False
def jO (o:Oper) (a:Act) (B:World->Prop) (s:dP):Prop:=∀w,B w->dS P R s.V s.F w ((execOp a.eval o).run P w)
def plainly (o:Oper) (a:Act) (B:World->Prop) (v:Value):Prop:=∀w,B w->Oper.quietUpon P (fun _=>False) w v ((execOp a.eval o).run P w)
def one (o:Oper) (K:Act->cK->Prop) (a:Act) (G:cK):Prop:=
 match E o a with
 |some s=>jO P R o a (iu ops C o G) s/\∀u,s.V u->K (a.put o.dst u) ((o,s.F u)::G)
 |none=>∃v,plainly P o a (iu ops C o G) v/\K (a.put o.dst v) G
def hP (Q:Act->cK->Prop):List Oper->Act->cK->Prop
 |[],a,G=>Q a G
 |o::rest,a,G=>if Region.wanted o (yielded ops a.tmps)then one P ops C E R o (hP Q rest) a G else hP Q rest (a.put o.dst undef) G
def eD (i:Nat) (K:Act->cK->Prop) (a:Act) (G:cK):Prop:=
 match ops[i]? with
 |none=>K a G
 |some o=>if Region.wanted o (yielded ops a.tmps)then one P ops C E R o K a G else K (a.put o.dst undef) G
def fF (z:Nat) (T:Nat->Array Bool->Act->World->Prop):Nat->Array Bool->Act->cK->Prop
 |0,listed,a,G=>(∃w,Has C G w)->(∀j∈Region.ready md ops listed,j=z)/\∀w,Has C G w->T 0 listed a w
 |fuel+1,listed,a,G=>(∃w,Has C G w)->((∀j∈Region.ready md ops listed,j=z)->∀w,Has C G w->T (fuel+1) listed a w)/\∀i∈Region.ready md ops listed,i≠z->eD P ops C E R i (fF z T fuel (listed.setIfInBounds i true)) a G
end
section
variable {P:Program} {md:Region.Mode} {ops:Array Oper} {C:World->Prop} {E:Oper->Act->Option dP} {R:World->World->Prop}
theorem ke {o:Oper} {a:Act} {B B':World->Prop} {s:dP} (h:∀w,B' w->B w) (k:jO P R o a B s):jO P R o a B' s:=fun w hw=>k w (h w hw)
theorem gh {o:Oper} {a:Act} {B B':World->Prop} {v:Value} (h:∀w,B' w->B w) (k:plainly P o a B v):plainly P o a B' v:=fun w hw=>k w (h w hw)
theorem iu.less {o:Oper} {G G':cK} (h:∀g∈G,g∈G') (w:World) (k:iu ops C o G' w):iu ops C o G w:=⟨k.1,fun g hg=>k.2 g (h g hg)⟩
theorem Has.base {o:Oper} {G:cK} {w:World} (h:Has C G w):iu ops C o G w:=⟨h.1,fun g hg _=>h.2 g hg⟩
theorem Has.less {G G':cK} (h:∀g∈G,g∈G') {w:World} (k:Has C G' w):Has C G w:=⟨k.1,fun g hg=>k.2 g (h g hg)⟩
theorem gB {z:Nat} {T:Nat->Array Bool->Act->World->Prop}:∀(fuel:Nat) (listed:Array Bool) (a:Act) (G G':cK),(∀g,g∈G↔g∈G')->fF P md ops C E R z T fuel listed a G->fF P md ops C E R z T fuel listed a G'
 |0,listed,a,G,G',h,k=>fun⟨w,hw⟩=>by
  obtain⟨k1,k2⟩:=k ⟨w,hw.less (fun g hg=>(h g).1 hg)⟩;exact⟨k1,fun w hw=>k2 w (hw.less (fun g hg=>(h g).1 hg))⟩
 |fuel+1,listed,a,G,G',h,k=>fun⟨w,hw⟩=>by
  obtain⟨k1,k2⟩:=k ⟨w,hw.less (fun g hg=>(h g).1 hg)⟩;refine⟨fun e w hw=>k1 e w (hw.less (fun g hg=>(h g).1 hg)),fun i hi hz=>?_⟩;have:=k2 i hi hz;unfold eD at*;split
  ·rename_i ho;rw[ho]at this;exact gB fuel _ a G G' h this
  ·rename_i o ho
   rw[ho]at this;dsimp only at this;split
   ·rename_i hw;rw[if_pos hw]at this
    unfold one at*;split
    ·rename_i s hs
     rw[hs]at this;exact⟨ke (fun w=>iu.less (fun g hg=>(h g).1 hg) w) this.1,fun u hu=>gB fuel _ _ _ _ (fun g=>by simp[h g]) (this.2 u hu)⟩
    ·rename_i hs
     rw[hs]at this;obtain⟨v,h1,h2⟩:=this;exact⟨v,gh (fun w=>iu.less (fun g hg=>(h g).1 hg) w) h1,gB fuel _ _ _ _ h h2⟩
   ·rename_i hw;rw[if_neg hw]at this;exact gB fuel _ _ _ _ h this
theorem rE {f:FuncId} {args:Array Value} {w:World} {v:Value} (h:Calls P f args w (fun e _=>e=.returned v/\False)):False:=by
 obtain⟨e,w'',fr,⟨-,h⟩, -⟩:=h [];exact h
theorem yK {w:World} {v v':Value} {r:Result Next} (h:Oper.quietUpon P (fun _=>False) w v r) (h':Oper.quietUpon P (fun _=>False) w v' r):v=v':=by
 cases r with
 |halt x w'=>simp only[Oper.quietUpon]at h
 |ok n w'=>
  cases n<;>simp only[Oper.quietUpon]at h h'
  ·exact h.2.symm.trans h'.2
  ·exact h.2.trans h'.2.symm
  ·exact absurd h.2 rE
theorem jP {V:Value->Prop} {F:Value->World->Prop} {w:World} {r:Result Next} (h:dS P R V F w r):∃u w'',V u/\F u w''/\R w w'':=by
 cases r with
 |halt x w'=>simp only[dS]at h
 |ok n w'=>
  cases n<;>simp only[dS]at h
  ·exact⟨_,_,h⟩
  ·exact⟨_,_,h⟩
  ·obtain⟨-,hc⟩:=h
   obtain⟨e,w'',fr,⟨u, -,hV,hF,hL⟩, -⟩:=hc [];exact⟨u,w'',hV,hF,hL⟩
def m8 (E:Oper->Act->Option dP) (G:cK):Prop:=∀g∈G,∃s u a,E g.1 a=some s/\g.2=s.F u
theorem Has.later (hC:∀x y,C x->R x y->C y) (hE:∀o a s,E o a=some s->∀u x y,s.F u x->R x y->s.F u y) {G:cK} (hg:m8 E G) {x y:World} (h:Has C G x) (hl:R x y):Has C G y:=by
 refine⟨hC _ _ h.1 hl,fun g hG=>?_⟩;obtain⟨s,u,a,hs,hF⟩:=hg g hG;have:=h.2 g hG;rw[hF]at this⊢;exact hE _ _ _ hs _ _ _ this hl
theorem m8.cons {o:Oper} {a:Act} {s:dP} {G:cK} (hg:m8 E G) (h:E o a=some s) (u:Value):m8 E ((o,s.F u)::G):=by
 intro g hG;rw[List.mem_cons]at hG;rcases hG with rfl|hG
 ·exact⟨s,u,a,h,rfl⟩
 ·exact hg g hG
theorem fG (hC:∀x y,C x->R x y->C y) (hE:∀o a s,E o a=some s->∀u x y,s.F u x->R x y->s.F u y) {z x:Nat} {Q':Exit->Act->World->Prop} (hz:∀listed,z∈Region.ready md ops listed->∀j∈Region.ready md ops listed,j=z):∀(fuel:Nat) (listed:Array Bool) (a:Act) (G:cK) (w:World),m8 E G->Has C G w->fF P md ops C E R z (fun k=>wpAny P md ops Q' (x+k)) fuel listed a G->wpAny P md ops Q' (x+fuel) listed a w
 |0,listed,a,G,w,_,hw,k=>(k ⟨w,hw⟩).2 w hw
 |fuel+1,listed,a,G,w,hg,hw,k=>by
  obtain⟨k1,k2⟩:=k ⟨w,hw⟩;by_cases hall:∀j∈Region.ready md ops listed,j=z
  ·exact k1 hall w hw
  refine⟨fun e=>absurd (fun j hj=>by rw[e]at hj;cases hj) hall,fun i hi=>?_⟩;have hiz:i≠z:=fun e=>hall (hz listed (by rw[<-e];exact hi))
  have:=k2 i hi hiz;unfold eD at this;unfold wpOp;split
  ·rename_i ho;rw[ho]at this;exact fG hC hE hz fuel _ a G w hg hw this
  ·rename_i o ho
   rw[ho]at this;dsimp only at this;split
   ·rename_i hwant
    rw[if_pos hwant]at this;refine .inl ?_;unfold one at this;unfold Oper.wp;split at this
    ·rename_i s hs
     have hr:=this.1 w hw.base;generalize (execOp a.eval o).run P w=r at hr;cases r with
     |halt x w'=>simp only[dS]at hr
     |ok n w'=>
      have go:∀u w'',s.V u->s.F u w''->R w w''->wpAny P md ops Q' (x+fuel) (listed.setIfInBounds i true) (a.put o.dst u) w'':=by
       intro u w'' hV hF hL;refine fG hC hE hz fuel _ _ _ w'' (hg.cons hs u) ?_ (this.2 u hV);have hh:=hw.later hC hE hg hL;refine⟨hh.1,fun g hG=>?_⟩;rw[List.mem_cons]at hG;rcases hG with rfl|hG
       ·exact hF
       ·exact hh.2 g hG
      cases n<;>simp only[dS]at hr
      ·simp only[Oper.upon];exact go _ _ hr.1 hr.2.1 hr.2.2
      ·simp only[Oper.upon];exact go _ _ hr.1 hr.2.1 hr.2.2
      ·obtain⟨rfl,hc⟩:=hr
       simp only[Oper.upon];refine hc.mono ?_;rintro e w'' ⟨u,rfl,hV,hF,hL⟩;exact go u w'' hV hF hL
    ·rename_i hs
     obtain⟨v,h1,h2⟩:=this;have hr:=h1 w hw.base;generalize (execOp a.eval o).run P w=r at hr;cases r with
     |halt x w'=>simp only[Oper.quietUpon]at hr
     |ok n w'=>
      cases n<;>simp only[Oper.quietUpon]at hr
      ·obtain⟨rfl,rfl⟩:=hr;simp only[Oper.upon];exact fG hC hE hz fuel _ _ _ _ hg hw h2
      ·obtain⟨rfl,rfl⟩:=hr;simp only[Oper.upon];exact fG hC hE hz fuel _ _ _ _ hg hw h2
      ·exact absurd hr.2 rE
   ·rename_i hwant;rw[if_neg hwant]at this;exact fG hC hE hz fuel _ _ _ _ hg hw this
theorem kg {oi oj:Oper} {F:World->Prop} {G:cK} (hap:oi.apart ops oj=true) (w:World) (h:iu ops C oj G w):iu ops C oj ((oi,F)::G) w:=by
 refine⟨h.1,fun g hg hn=>?_⟩;rw[List.mem_cons]at hg;rcases hg with rfl|hg
 ·rw[hap]at hn;cases hn
 ·exact h.2 g hg hn
theorem yL (hC:∀x y,C x->R x y->C y) (hE:∀o a s,E o a=some s->∀u x y,s.F u x->R x y->s.F u y) (hA:∀o a dst v,(∀d,dst=some d->d∉o.looksAt ops)->E o (Act.put a dst v)=E o a) {z:Nat} {T:Nat->Array Bool->Act->World->Prop} {i:Nat} {oi:Oper} (hiz:i≠z) (hi:ops[i]?=some oi) (hsel:∀(j:Nat) (o:Oper) cs b,ops[j]?=some o->o.op≠.select cs b):
  ∀(fuel:Nat) (listed:Array Bool) (a:Act) (G:cK),m8 E G->
   (∀j oj,ops[j]?=some oj->j≠i->listed.getD j true=false->(∀e∈oj.after,Region.binds md e=true->e.on≠i)->oi.apart ops oj=true)->
   i∈Region.ready md ops listed->eD P ops C E R i (fF P md ops C E R z T fuel (listed.setIfInBounds i true)) a G->fF P md ops C E R z T (fuel+1) listed a G:=by
 intro fuel
 induction fuel with
 |zero=>
  intro listed a G hg hfree hr H hin;refine⟨fun h=>absurd (h i hr) hiz,fun j hj hjz=>?_⟩;by_cases hji:j=i
  ·subst hji;exact H
  ·exfalso
   have hj':=ready_mono hj hji;obtain⟨w,hw⟩:=hin;unfold eD at H;rw[hi]at H;dsimp only at H;split at H
   ·unfold one at H
    split at H
    ·rename_i s hs
     obtain⟨u,w'',hV,hF,hL⟩:=jP (H.1 w hw.base);have hh:=hw.later hC hE hg hL;have:=(H.2 u hV ⟨w'',hh.1,fun g hG=>by rw[List.mem_cons]at hG;rcases hG with rfl|hG;exact hF;exact hh.2 g hG⟩).1;exact hjz (this j hj')
    ·obtain⟨v, -,h2⟩:=H
     have:=(h2 ⟨w,hw⟩).1;exact hjz (this j hj')
   ·have:=(H ⟨w,hw⟩).1
    exact hjz (this j hj')
 |succ fuel ih=>
  intro listed a G hg hfree hr H hin;refine⟨fun h=>absurd (h i hr) hiz,fun j hj hjz=>?_⟩;by_cases hji:j=i
  ·subst hji;exact H
  obtain⟨hjun,oj,hoj,hall⟩:=mem_ready.1 hj;have hj':=ready_mono hj hji;have hnot:∀e∈oj.after,Region.binds md e=true->e.on≠i:=fun e he hb heq=>by
   have h1:=hall e he hb;have h0:=(mem_ready.1 hr).1;rw[heq]at h1;rcases Nat.lt_or_ge i listed.size with h'|h'
   ·simp[h']at h0 h1;rw[h0]at h1;cases h1
   ·simp[Array.getElem?_eq_none h']at h1
  have hap:=hfree j oj hoj hji hjun hnot;obtain⟨p1,p2,p3⟩:=Oper.apart_spec hap;have hfree':∀k ok,ops[k]?=some ok->k≠i->(listed.setIfInBounds j true).getD k true=false->(∀e∈ok.after,Region.binds md e=true->e.on≠i)->oi.apart ops ok=true:=fun k ok hk hki hun hno=>by
   refine hfree k ok hk hki ?_ hno;by_cases hjk:j=k
   ·subst hjk;exact hjun
   ·rw[getD_set_ne true hjk]at hun;exact hun
  have hri:=ready_mono hr (Ne.symm hji);have wj:∀v,Region.wanted oj (yielded ops (a.put oi.dst v).tmps)=Region.wanted oj (yielded ops a.tmps):=fun v=>wanted_put oj a oi.dst v p1
  have xj:∀v,execOp (a.put oi.dst v).eval oj=execOp a.eval oj:=fun v=>execOp_put oj (fun cs b=>hsel j oj cs b hoj) a oi.dst v p1
  have wi:∀v,Region.wanted oi (yielded ops (a.put oj.dst v).tmps)=Region.wanted oi (yielded ops a.tmps):=fun v=>wanted_put oi a oj.dst v p3
  have xi:∀v,execOp (a.put oj.dst v).eval oi=execOp a.eval oi:=fun v=>execOp_put oi (fun cs b=>hsel i oi cs b hi) a oj.dst v p3
  have ej:∀v,E oj (a.put oi.dst v)=E oj a:=fun v=>hA oj a oi.dst v p1
  have ei:∀v,E oi (a.put oj.dst v)=E oi a:=fun v=>hA oi a oj.dst v p3
  have cm:∀u v,(a.put oi.dst u).put oj.dst v=(a.put oj.dst v).put oi.dst u:=fun u v=>Act.put_comm a u v p2
  obtain⟨w,hw⟩:=hin;unfold eD at H;rw[hi]at H;dsimp only at H;have hlist:∀(x:Array Bool),(x.setIfInBounds i true).setIfInBounds j true=(x.setIfInBounds j true).setIfInBounds i true:=fun x=>Array.setIfInBounds_comm _ _ (Ne.symm hji)
  unfold eD;rw[hoj];dsimp only;by_cases hwi:Region.wanted oi (yielded ops a.tmps)=true
  ·rw[if_pos hwi]at H
   unfold one at H;split at H
   ·
    rename_i s hs;have hinj:∀u,s.V u->(∃w,Has C ((oi,s.F u)::G) w)->eD P ops C E R j (fF P md ops C E R z T fuel ((listed.setIfInBounds i true).setIfInBounds j true)) (a.put oi.dst u) ((oi,s.F u)::G):=fun u hu hin=>((H.2 u hu) hin).2 j hj' hjz
    obtain⟨u0,w0,hV0,hF0,hL0⟩:=jP (H.1 w hw.base);have in0:∃w,Has C ((oi,s.F u0)::G) w:=by
     have hh:=hw.later hC hE hg hL0;exact⟨w0,hh.1,fun g hG=>by rw[List.mem_cons]at hG;rcases hG with rfl|hG;exact hF0;exact hh.2 g hG⟩
    have less:∀u G',(∀g∈G,g∈G')->(∃w,Has C ((oi,s.F u)::G') w)->∃w,Has C ((oi,s.F u)::G) w:=fun u G' hsub ⟨w,hw⟩=>⟨w,hw.less (fun g hG=>by rw[List.mem_cons]at hG⊢;rcases hG with h|h;exact .inl h;exact .inr (hsub g h))⟩
    by_cases hwj:Region.wanted oj (yielded ops a.tmps)=true
    ·rw[if_pos hwj]
     unfold one;split
     ·rename_i sj hsj
      have H0:=hinj u0 hV0 in0;unfold eD at H0;rw[hoj]at H0;dsimp only at H0;rw[if_pos (by rw[wj];exact hwj)]at H0;unfold one at H0;rw[ej,hsj]at H0;refine⟨?_,fun v hv=>?_⟩
      ·have:=ke (fun w=>kg (F:=s.F u0) hap w) H0.1
       unfold jO at this⊢;rw[xj]at this;exact this
      ·refine ih (listed.setIfInBounds j true) (a.put oj.dst v) _ (hg.cons hsj v) hfree' hri ?_
       unfold eD;rw[hi];dsimp only;rw[if_pos (by rw[wi];exact hwi)];unfold one;rw[ei,hs];refine⟨?_,fun u hu=>?_⟩
       ·have:=ke (fun w=>iu.less (ops:=ops) (C:=C) (o:=oi) (fun g hG=>List.mem_cons_of_mem (oj,sj.F v) hG) w) H.1
        unfold jO at this⊢;rw[xi];exact this
       ·rw[<-hlist,<-cm]
        refine gB _ _ _ ((oj,sj.F v)::(oi,s.F u)::G) _ (fun g=>by simp[or_left_comm]) ?_;by_cases hin:∃w,Has C ((oj,sj.F v)::(oi,s.F u)::G) w
        ·have hin':∃w,Has C ((oi,s.F u)::G) w:=by
          obtain⟨w,hw⟩:=hin;exact⟨w,hw.less (fun g hG=>List.mem_cons_of_mem _ hG)⟩
         have H1:=hinj u hu hin';unfold eD at H1;rw[hoj]at H1;dsimp only at H1;rw[if_pos (by rw[wj];exact hwj)]at H1;unfold one at H1;rw[ej,hsj]at H1;exact H1.2 v hv
        ·cases fuel<;>exact fun h=>absurd h hin
     ·rename_i hsj
      have H0:=hinj u0 hV0 in0;unfold eD at H0;rw[hoj]at H0;dsimp only at H0;rw[if_pos (by rw[wj];exact hwj)]at H0;unfold one at H0;rw[ej,hsj]at H0;obtain⟨v,hv, -⟩:=H0;have hv':plainly P oj a (iu ops C oj G) v:=by
       have:=gh (fun w=>kg (F:=s.F u0) hap w) hv;unfold plainly at this⊢;rw[xj]at this;exact this
      refine⟨v,hv',ih (listed.setIfInBounds j true) (a.put oj.dst v) G hg hfree' hri ?_⟩;unfold eD;rw[hi];dsimp only;rw[if_pos (by rw[wi];exact hwi)];unfold one;rw[ei,hs];refine⟨?_,fun u hu=>?_⟩
      ·have:=H.1
       unfold jO at this⊢;rw[xi];exact this
      ·rw[<-hlist,<-cm]
       by_cases hin:∃w,Has C ((oi,s.F u)::G) w
       ·have H1:=hinj u hu hin
        unfold eD at H1;rw[hoj]at H1;dsimp only at H1;rw[if_pos (by rw[wj];exact hwj)]at H1;unfold one at H1;rw[ej,hsj]at H1;obtain⟨v',hv2,hk⟩:=H1;have e:v=v':=by
         have:=gh (fun w=>kg (F:=s.F u) hap w) hv2;have t1:=this w hw.base;rw[xj]at t1;exact yK (hv' w hw.base) t1
        rw[e];exact hk
       ·cases fuel<;>exact fun h=>absurd h hin
    ·rw[if_neg hwj]
     refine ih (listed.setIfInBounds j true) (a.put oj.dst undef) G hg hfree' hri ?_;unfold eD;rw[hi];dsimp only;rw[if_pos (by rw[wi];exact hwi)];unfold one;rw[ei,hs];refine⟨?_,fun u hu=>?_⟩
     ·have:=H.1
      unfold jO at this⊢;rw[xi];exact this
     ·rw[<-hlist,<-cm]
      by_cases hin:∃w,Has C ((oi,s.F u)::G) w
      ·have H1:=hinj u hu hin
       unfold eD at H1;rw[hoj]at H1;dsimp only at H1;rw[if_neg (by rw[wj];exact hwj)]at H1;exact H1
      ·cases fuel<;>exact fun h=>absurd h hin
   ·
    rename_i hs;obtain⟨vi,hpi,hk⟩:=H;have H1:=(hk ⟨w,hw⟩).2 j hj' hjz;unfold eD at H1;rw[hoj]at H1;dsimp only at H1;have done:∀v G',(∀g∈G,g∈G')->m8 E G'->fF P md ops C E R z T fuel ((listed.setIfInBounds i true).setIfInBounds j true) ((a.put oi.dst vi).put oj.dst v) G'->fF P md ops C E R z T (fuel+1) (listed.setIfInBounds j true) (a.put oj.dst v) G':=by
     intro v G' hsub hg' hh;refine ih (listed.setIfInBounds j true) (a.put oj.dst v) G' hg' hfree' hri ?_;unfold eD;rw[hi];dsimp only;rw[if_pos (by rw[wi];exact hwi)];unfold one;rw[ei,hs];refine⟨vi,?_,?_⟩
     ·have:=gh (fun w=>iu.less (ops:=ops) (C:=C) (o:=oi) hsub w) hpi
      unfold plainly at this⊢;rw[xi];exact this
     ·rw[<-hlist,<-cm]
      exact hh
    by_cases hwj:Region.wanted oj (yielded ops a.tmps)=true
    ·rw[if_pos hwj]
     rw[if_pos (by rw[wj];exact hwj)]at H1;unfold one at H1⊢;split
     ·rename_i sj hsj
      rw[ej,hsj]at H1;refine⟨?_,fun v hv=>done v _ (fun g hG=>List.mem_cons_of_mem _ hG) (hg.cons hsj v) (H1.2 v hv)⟩;have:=H1.1;unfold jO at this⊢;rw[xj]at this;exact this
     ·rename_i hsj
      rw[ej,hsj]at H1;obtain⟨v,h1,h2⟩:=H1;refine⟨v,?_,done v G (fun _ h=>h) hg h2⟩;unfold plainly at h1⊢;rw[xj]at h1;exact h1
    ·rw[if_neg hwj]
     rw[if_neg (by rw[wj];exact hwj)]at H1;exact done undef G (fun _ h=>h) hg H1
  ·rw[if_neg hwi]at H
   have H1:=(H ⟨w,hw⟩).2 j hj' hjz;unfold eD at H1;rw[hoj]at H1;dsimp only at H1;have done:∀v G',m8 E G'->fF P md ops C E R z T fuel ((listed.setIfInBounds i true).setIfInBounds j true) ((a.put oi.dst undef).put oj.dst v) G'->fF P md ops C E R z T (fuel+1) (listed.setIfInBounds j true) (a.put oj.dst v) G':=by
    intro v G' hg' hh;refine ih (listed.setIfInBounds j true) (a.put oj.dst v) G' hg' hfree' hri ?_;unfold eD;rw[hi];dsimp only;rw[if_neg (by rw[wi];exact hwi),<-hlist,<-cm];exact hh
   by_cases hwj:Region.wanted oj (yielded ops a.tmps)=true
   ·rw[if_pos hwj]
    rw[if_pos (by rw[wj];exact hwj)]at H1;unfold one at H1⊢;split
    ·rename_i sj hsj
     rw[ej,hsj]at H1;refine⟨?_,fun v hv=>done v _ (hg.cons hsj v) (H1.2 v hv)⟩;have:=H1.1;unfold jO at this⊢;rw[xj]at this;exact this
    ·rename_i hsj
     rw[ej,hsj]at H1;obtain⟨v,h1,h2⟩:=H1;refine⟨v,?_,done v G hg h2⟩;unfold plainly at h1⊢;rw[xj]at h1;exact h1
   ·rw[if_neg hwj]
    rw[if_neg (by rw[wj];exact hwj)]at H1;exact done undef G hg H1
theorem kS (hC:∀x y,C x->R x y->C y) (hE:∀o a s,E o a=some s->∀u x y,s.F u x->R x y->s.F u y) (hA:∀o a dst v,(∀d,dst=some d->d∉o.looksAt ops)->E o (Act.put a dst v)=E o a) {z x:Nat} {T:Nat->Array Bool->Act->World->Prop} {F:Act->World->Prop} (hs:Region.noSelect ops=true)
  (hend:∀listed a w,Region.lexFrom md ops x z listed=true->F a w->(∀j∈Region.ready md ops listed,j=z)/\T 0 listed a w) (hemp:∀listed,Region.lexFrom md ops x z listed=true->∀j∈Region.ready md ops listed,j=z):
  ∀(l:List Oper) (k:Nat) (listed:Array Bool) (a:Act) (G:cK),m8 E G->k+l.length=z->(∀j,j<l.length->l[j]?=ops[k+j]?)->
  Region.lexFrom md ops (x+l.length) k listed=true->hP P ops C E R (fun a G=>∀w,Has C G w->F a w) l a G->fF P md ops C E R z T l.length listed a G
 |[],k,listed,a,G,_,hk,_,hB,h=>fun _=>by
  have hk':k=z:=by simpa using hk
  subst hk';exact⟨hemp listed hB,fun w hw=>(hend listed a w hB (h w hw)).2⟩
 |o::l,k,listed,a,G,hg,hk,hl,hB,h=>by
  have h0:ops[k]?=some o:=by simpa using(hl 0 Fg).symm
  have hB1:((Region.ready md ops listed).contains k&&Region.free md ops listed k&&Region.lexFrom md ops (x+l.length) (k+1) (listed.setIfInBounds k true))=true:=hB;simp only[Bool.and_eq_true]at hB1;obtain⟨⟨hr,hf⟩,hB'⟩:=hB1;have hk':k+1+l.length=z:=by simp only[List.length_cons]at hk;omega
  have hkz:k≠z:=by omega
  have hl':∀j,j<l.length->l[j]?=ops[k+1+j]?:=fun j hj=>by have:=hl (j+1) (by simp;omega);simpa[Nat.add_assoc,Nat.add_comm 1 j]using this
  refine yL hC hE hA hkz h0 (Region.noSelect_spec hs) l.length listed a G hg (Region.free_spec h0 hf) (by simpa using hr) ?_;unfold eD;rw[h0];dsimp only;unfold hP at h;split
  ·rename_i hw
   rw[if_pos hw]at h;unfold one at h⊢;split
   ·rename_i s hsp
    rw[hsp]at h;exact⟨h.1,fun u hu=>kS hC hE hA hs hend hemp l (k+1) _ _ _ (hg.cons hsp u) hk' hl' hB' (h.2 u hu)⟩
   ·rename_i hsp
    rw[hsp]at h;obtain⟨v,h1,h2⟩:=h;exact⟨v,h1,kS hC hE hA hs hend hemp l (k+1) _ _ _ hg hk' hl' hB' h2⟩
  ·rename_i hw
   rw[if_neg hw]at h;exact kS hC hE hA hs hend hemp l (k+1) _ _ _ hg hk' hl' hB' h
theorem pw (hC:∀x y,C x->R x y->C y) (hE:∀o a s,E o a=some s->∀u x y,s.F u x->R x y->s.F u y) {id:Nat} {Q:Exit->Act->World->Prop} {a:Act} {w:World} {l:List Oper} (hA:∀o a dst v,(∀d,dst=some d->d∉o.looksAt l.toArray)->E o (Act.put a dst v)=E o a) (hm:P.follows .mixedOrders=true) (hB:Region.lexB .any l.toArray=true) (h0:C w.drew)
  (h:hP P l.toArray C E R (fun a' G=>∀w',Has C G w'->Q .normal a' w') l a []):(Code.region id l.toArray true).wp P Q a w:=by
 simp only[Region.lexB,Bool.and_eq_true]at hB;have hg:m8 E []:=fun g hG=>by cases hG
 have hno:∀listed,l.length∈Region.ready .any l.toArray listed->∀j∈Region.ready .any l.toArray listed,j=l.length:=fun listed hj=>by
  obtain⟨-,o,ho, -⟩:=mem_ready.1 hj;simp at ho
 have:=kS (P:=P) (md:=.any) (ops:=l.toArray) (z:=l.length) (x:=0) (T:=fun k=>wpAny P .any l.toArray Q (0+k)) (F:=fun a w=>Q .normal a w) hC hE hA hB.1
  (fun listed a w hl hf=>by
   have e:Region.ready .any l.toArray listed=[]:=by simpa[Region.lexFrom]using hl
   exact⟨fun j hj=>(by rw[e]at hj;cases hj),e,hf⟩)
  (fun listed hl j hj=>by
   have e:Region.ready .any l.toArray listed=[]:=by simpa[Region.lexFrom]using hl
   rw[e]at hj;cases hj) l 0 (Array.replicate l.toArray.size false) a [] hg Fg Fg (by simpa using hB.2) h
 exact wp_region_any hm (by simpa using fG hC hE (x:=0) hno _ _ _ [] _ hg ⟨h0,fun g hG=>by cases hG⟩ this)
theorem yM {Q:Act->cK->Prop} {o:Oper} {rest:List Oper} {a:Act} {G:cK} (hs:E o a=none)
  (h:∀K:Act->Prop,(∀a,hP P ops C E R Q rest a G->K a)->if Region.wanted o (yielded ops a.tmps)then(∃v,(∀w,(∃q:Kin C,w=q.x)->o.quietAt P a (fun _=>False) w v)/\K (a.put o.dst v))else K (a.put o.dst undef)):hP P ops C E R Q (o::rest) a G:=by
 have h1:=h (fun a=>hP P ops C E R Q rest a G) (fun _ h=>h);unfold hP;split
 ·rename_i hw
  rw[if_pos hw]at h1;obtain⟨v,h2,h3⟩:=h1;unfold one;rw[hs];exact⟨v,fun w hw=>h2 w ⟨⟨w,hw.1⟩,rfl⟩,h3⟩
 ·rename_i hw
  rw[if_neg hw]at h1;exact h1
theorem AB {Q:Act->cK->Prop} {o:Oper} {rest:List Oper} {a:Act} {G:cK} (s:dP) (hs:E o a=some s) (hw:Region.wanted o (yielded ops a.tmps)=true)
  (h:∀w,iu ops C o G w->dS P R s.V s.F w ((execOp a.eval o).run P w))
  (k:∀u,s.V u->hP P ops C E R Q rest (a.put o.dst u) ((o,s.F u)::G)):hP P ops C E R Q (o::rest) a G:=by
 unfold hP;rw[if_pos hw];unfold one;rw[hs];exact⟨h,k⟩
theorem Ci {Q:Act->World->Prop} {a:Act} {G:cK} (h:∀w',Has C G w'->Q a w'):hP P ops C E R (fun a' G=>∀w',Has C G w'->Q a' w') [] a G:=h
theorem iu.at0 {o o':Oper} {F:World->Prop} {G:cK} {w:World} (h:iu ops C o ((o',F)::G) w) (hn:o'.apart ops o=false):F w:=h.2 _ (List.mem_cons_self ..) hn
theorem iu.tail {o:Oper} {g:Oper×(World->Prop)} {G:cK} {w:World} (h:iu ops C o (g::G) w):iu ops C o G w:=⟨h.1,fun g hg=>h.2 g (List.mem_cons_of_mem _ hg)⟩
def iN (T:Tmp->Option dP):Oper->Act->Option dP:=fun o _=>o.dst.bind T
theorem dY {T:Tmp->Option dP} (h:∀d s,T d=some s->∀u x y,s.F u x->R x y->s.F u y):∀o a s,iN T o a=some s->∀u x y,s.F u x->R x y->s.F u y:=by
 intro o a s hs;unfold iN at hs;cases hd:o.dst with
 |none=>rw[hd]at hs;cases hs
 |some d=>rw[hd]at hs;exact h d s hs
theorem dZ (T:Tmp->Option dP) (ops:Array Oper):∀o a dst v,(∀d,dst=some d->d∉Oper.looksAt ops o)->iN T o (Act.put a dst v)=iN T o a:=fun _ _ _ _ _=>rfl
def qf (b:Bool):dP:=⟨fun u=>u=.bool b,fun _ _=>True⟩
theorem AC {P:Program} {f:FuncId} {args:Array Value} {w:World} {b:Bool} (hR:∀y,iO w y->R w y) (h:Calls P f args w fun e w'=>e=.returned (.bool b)/\iO w w'):Calls P f args w (fun e w''=>∃u,e=.returned u/\(qf b).V u/\(qf b).F u w''/\R w w''):=
 h.mono fun _ _ ⟨he,hb⟩=>⟨_,he,rfl,trivial,hR _ hb⟩
end
end
section
open Go.ChangeShapes Go.WideShapes Go.ChangeAt Go.RowKit
end
def alG (n:Nat) (t:TypeId) (cs:Array Value):dP:=⟨fun u=>∃g,u=.pointer (some ⟨g,0,none⟩),fun u x=>∀g,u=.pointer (some ⟨g,0,none⟩)->StB x g t cs/\n<=g⟩
theorem jq {n:Nat} {t:TypeId} {cs:Array Value} {u:Value} {x y:World} (hx:(alG n t cs).F u x) (b:dQ x y):(alG n t cs).F u y:=fun g e=>⟨(hx g e).1.below b,(hx g e).2⟩
theorem rI {P:Program} {n:Nat} {t:TypeId} {cs:Array Value} {w:World} (hn:n<=w.heap.size):dS P dQ (alG n t cs).V (alG n t cs).F w (.ok (.value (.pointer (some ⟨w.heap.size,0,none⟩))) (w.alloc (.cells cs t))):=
 ⟨⟨_,rfl⟩,fun g e=>by cases e;exact⟨StB.new _ _ _,hn⟩,Fc⟩
theorem tg (a b k n1 n2 n3:Value):Tryz.prog.built 96 [(0,.agg #[a,b]),(1,.agg #[k,n1,n2,n3])]=some #[a,b,k,n1,n2,n3]:=by kernel_rfl
section
structure m9 (P:Program) (ops:Array Oper) (C:World->Prop) (E:Oper->Act->Option dP) (R:World->World->Prop) (Q:Act->cK->Prop) (l:List Oper) (a:Act) (G:cK):Prop where
 out:hP P ops C E R Q l a G
section
variable {P:Program} {ops:Array Oper} {C:World->Prop} {E:Oper->Act->Option dP} {R:World->World->Prop} {Q:Act->cK->Prop} {o:Oper} {rest:List Oper} {a:Act} {G:cK}
theorem eP (hs:E o a=none)
  (h:∀K:Act->Prop,(∀a,m9 P ops C E R Q rest a G->K a)->if Region.wanted o (yielded ops a.tmps)then(∃v,(∀w,(∃q:Kin C,w=q.x)->o.quietAt P a (fun _=>False) w v)/\K (a.put o.dst v))else K (a.put o.dst undef)):m9 P ops C E R Q (o::rest) a G:=
 ⟨yM hs (fun K hK=>h K (fun a g=>hK a g.out))⟩
theorem fp (s:dP) (hs:E o a=some s) (hw:Region.wanted o (yielded ops a.tmps)=true)
  (h:∀w,iu ops C o G w->dS P R s.V s.F w ((execOp a.eval o).run P w))
  (k:∀u,s.V u->m9 P ops C E R Q rest (a.put o.dst u) ((o,s.F u)::G)):m9 P ops C E R Q (o::rest) a G:=⟨AB s hs hw h (fun u hu=>(k u hu).out)⟩
end
theorem i8 {P:Program} {ops:Array Oper} {C:World->Prop} {E:Oper->Act->Option dP} {R:World->World->Prop} {Q:Act->World->Prop} {a:Act} {G:cK} (h:∀w',Has C G w'->Q a w'):m9 P ops C E R (fun a' G=>∀w',Has C G w'->Q a' w') [] a G:=⟨Ci h⟩
theorem rH {P:Program} {C:World->Prop} {E:Oper->Act->Option dP} {R:World->World->Prop} (hC:∀x y,C x->R x y->C y) (hE:∀o a s,E o a=some s->∀u x y,s.F u x->R x y->s.F u y)
  {id:Nat} {Q:Exit->Act->World->Prop} {a:Act} {w:World} {l:List Oper} (hA:∀o a dst v,(∀d,dst=some d->d∉o.looksAt l.toArray)->E o (Act.put a dst v)=E o a) (hm:P.follows .mixedOrders=true) (hB:Region.lexB .any l.toArray=true) (h0:C w.drew)
  (h:m9 P l.toArray C E R (fun a' G=>∀w',Has C G w'->Q .normal a' w') l a []):(Code.region id l.toArray true).wp P Q a w:=pw hC hE hA hm hB h0 h.out
end
theorem rG {b:Bool} {u:Value} {x y:World} (hx:(qf b).F u x) (_:dQ x y):(qf b).F u y:=hx
def CpI (w:World) (g:Nat) (v:Value) (c:Cp):Prop:=StB w g 39 (cpA v c)/\bP w 0 v c.ts
theorem CpI.below {w w':World} {g:Nat} {v:Value} {c:Cp} (h:CpI w g v c) (b:iO w w'):CpI w' g v c:=⟨h.1.below b,h.2.below b⟩
theorem CpI.reads {w:World} {g:Nat} {v:Value} {c:Cp} (h:CpI w g v c):ag w v c.ts:=h.2.reads
theorem CpI.new {w:World} {base:Nat} {v:Value} {c:Cp} (h:bP w base v c.ts):CpI (w.alloc (.cells (cpA v c) 39)) w.heap.size v c:=
 ⟨StB.new w _ _,(h.mono (Nat.zero_le _)).below Fc⟩
theorem CpI.kept {w w':World} {g k:Nat} {v:Value} {c:Cp} {ds:Array Value} (h:CpI w g v c) (hk:StB w k 39 ds) (G:w.grownBy w' (some k)) (hne:g≠k):CpI w' g v c:=
 ⟨h.1.kept G (fun e=>hne (Option.some.inj e)),h.2.putBy hk Fh G⟩
theorem CpI.cell {w:World} {g:Nat} {v:Value} {c:Cp} (h:CpI w g v c) (j:Nat) {x:Value} (e:(cpA v c)[j]?=some x):w.cell? ⟨g,j,none⟩=some x:=h.1.cell j e
theorem CpI.at {w:World} {g:Nat} {a:Option Addr} {n cap:Nat} {c:Cp} (h:CpI w g (.slice a n cap) c) (j:Nat) (hj:j<n):∃b off,a=some ⟨b,off,none⟩/\n<=cap/\cap<=maxLen/\w.cell? ⟨b,off+j,none⟩=some (.int .i64 (c.ts.getD j 0)):=by
 obtain⟨-,h1,h2,h3⟩:=aL h.2.reads;obtain⟨b,off,e,h4⟩:=h3 j hj;exact⟨b,off,e,h1,h2,h4⟩
theorem fH {t:TypeId} {n:Nat} (hS:IsS t n) {ops:Array Oper} {i:Nat} {o:Oper} {a:Act} {w:World} {K:Act->World->Prop} {Q:Exit->Act->World->Prop} (hi:ops[i]?=some o) (hgd:o.guard=none) (x y:Operand) (ho:o.op=.store t x y)
  (g:Nat) (cs ds:Array Value) (hx:a.eval x=.pointer (some ⟨g,0,none⟩)) (hy:a.eval y=.agg cs) (hn:cs.size=n) (hd:ds.size=n) (h1:cs.all (·.oneCell')=true) (hr:StB w g t ds)
  (h:∀w',StB w' g t cs->w.grownBy w' (some g)->K (a.put o.dst undef) w'):wpOp Tryz.prog ops Q i K a w:=by
 unfold wpOp;rw[hi];dsimp only;have hw:Region.wanted o (yielded ops a.tmps)=true:=by simp[Region.wanted,hgd]
 rw[if_pos hw];refine .inl ?_;have:=zO (ops:=ops) (Q:=Q) (E:=False) hS hgd x y ho g cs ds hx hy hn hd h1 hr h;rw[if_pos hw]at this;exact this
def vB (l:List Oper) (i:Nat):Bool:=(List.range i).all fun j=>(l[i]?).any fun o=>o.after.any fun e=>Region.binds .any e&&e.on==j
theorem AE {l:List Oper} {i:Nat} (hL:vB l i=true) {listed:Array Bool} (hz:i∈Region.ready .any l.toArray listed) {j:Nat} (hj:j∈Region.ready .any l.toArray listed):¬j<i:=fun hlt=>by
 obtain⟨-,o,ho,hall⟩:=mem_ready.1 hz;obtain⟨hun,oj,hoj, -⟩:=mem_ready.1 hj;have:=List.all_eq_true.1 hL j (List.mem_range.2 hlt);have ho':l[i]?=some o:=by simpa using ho
 rw[ho']at this;simp only[Option.any_some,Array.any_eq_true']at this;obtain⟨ed,hed,hb⟩:=this;simp only[Bool.and_eq_true,beq_iff_eq]at hb;have h3:=hall ed hed hb.1;rw[hb.2]at h3;rcases Nat.lt_or_ge j listed.size with h'|h'
 ·simp[h']at hun h3;rw[hun]at h3;cases h3
 ·simp[Array.getElem?_eq_none h']at h3
section
def kV (P:Program) (o:Oper) (a:Act) (w:World) (K:World->Prop):Prop:=∃w',(execOp a.eval o).run P w=.ok .skip w'/\K w'
theorem kV.mono {P:Program} {o:Oper} {a:Act} {w:World} {K K':World->Prop} (h:kV P o a w K) (k:∀w,K w->K' w):kV P o a w K':=by
 obtain⟨w',e,h⟩:=h;exact⟨w',e,k _ h⟩
theorem gC {t:TypeId} {n:Nat} (hS:IsS t n) {o:Oper} {a:Act} {w:World} {K:World->Prop} (x y:Operand) (ho:o.op=.store t x y)
  (g:Nat) (cs ds:Array Value) (hx:a.eval x=.pointer (some ⟨g,0,none⟩)) (hy:a.eval y=.agg cs) (hn:cs.size=n) (hd:ds.size=n) (h1:cs.all (·.oneCell')=true) (hr:StB w g t ds)
  (h:∀w',StB w' g t cs->w.grownBy w' (some g)->K w'):kV Tryz.prog o a w K:=by
 refine⟨w.setRow g cs,?_,h _ (setRow_heap w g _ _ _ _ hr) (gw w g _)⟩;unfold execOp;simp only[ho,hx,hy,Instr.storeAt,Instr.sureAddr,Sem.run_bind,Sem.run_pure,Result.andThen_ok,run_storeVar_row w g t t ds cs hr (by rw[hS.2,hn]) (by rw[hd,hn]) h1]
theorem kV.op {P:Program} {ops:Array Oper} {Q:Exit->Act->World->Prop} {i:Nat} {o:Oper} {a:Act} {w:World} {K:Act->World->Prop} (hi:ops[i]?=some o) (hg:o.guard=none) (hd:o.dst=none) (h:kV P o a w (K a)):wpOp P ops Q i K a w:=by
 obtain⟨w',e,h⟩:=h;have hw:Region.wanted o (yielded ops a.tmps)=true:=by simp[Region.wanted,hg]
 unfold wpOp;rw[hi];dsimp only;rw[if_pos hw];refine .inl ?_;unfold Oper.wp;rw[e];simp only[Oper.upon,hd,Act.put];exact h
section
variable {P:Program} {md:Region.Mode} {ops:Array Oper} {C:World->Prop} {E:Oper->Act->Option dP} {R:World->World->Prop}
theorem my {J:Act->Prop} {D:World->World->Prop} (hJ:∀(i:Nat) (o:Oper) a v,ops[i]?=some o->J a->J (Act.put a o.dst v)) (hC:∀x y,C x->R x y->C y) (hE:∀o a s,E o a=some s->∀u x y,s.F u x->R x y->s.F u y) {z p:Nat} {oz op:Oper} {Q':Exit->Act->World->Prop}
  (hoz:ops[z]?=some oz) (hop:ops[p]?=some op) (hpz:p≠z) (hgz:oz.guard=none) (hdz:oz.dst=none) (hgp:op.guard=none) (hEp:∀a,E op a=none)
  (hev:∀a v,execOp (Act.put a op.dst v).eval oz=execOp a.eval oz)
  (hpure:∀(a:Act) w w' v,J a->C w->D w w'->Oper.quietUpon P (fun _=>False) w v ((execOp a.eval op).run P w)->Oper.quietUpon P (fun _=>False) w' v ((execOp a.eval op).run P w'))
  (hz:∀listed,z∈Region.ready md ops listed->∀j∈Region.ready md ops listed,j=z∨j=p)
  (hzp:∀listed,z∈Region.ready md ops listed->p∈Region.ready md ops listed->∀j∈Region.ready md ops (listed.setIfInBounds z true),j=p):
  ∀(fuel:Nat) (listed:Array Bool) (a:Act) (G:cK) (w:World),J a->m8 E G->Has C G w->fF P md ops C E R z (fun k listed a w=>z∈Region.ready md ops listed/\kV P oz a w (fun w1=>D w w1/\wpAny P md ops Q' (1+k) (listed.setIfInBounds z true) a w1)) fuel listed a G->wpAny P md ops Q' (2+fuel) listed a w
 |fuel,listed,a,G,w,ja,hg,hw,k=>by
  have fin:∀k,(∀j∈Region.ready md ops listed,j=z)->(z∈Region.ready md ops listed/\kV P oz a w (fun w1=>D w w1/\wpAny P md ops Q' (1+k) (listed.setIfInBounds z true) a w1))->wpAny P md ops Q' (2+k) listed a w:=by
   intro k hall hT;have e:2+k=(1+k)+1:=by omega
   rw[e];refine⟨fun e=>absurd hT.1 (by rw[e];simp),fun i hi=>?_⟩;obtain rfl:=hall i hi;exact(hT.2.mono fun _ h=>h.2).op hoz hgz hdz
  cases fuel with
  |zero=>
   obtain⟨k1,k2⟩:=k ⟨w,hw⟩;exact fin 0 k1 (k2 w hw)
  |succ fuel=>
   obtain⟨k1,k2⟩:=k ⟨w,hw⟩;by_cases hall:∀j∈Region.ready md ops listed,j=z
   ·exact fin (fuel+1) hall (k1 hall w hw)
   have e2:2+(fuel+1)=(2+fuel)+1:=by omega
   rw[e2];refine⟨fun e=>absurd (fun j hj=>by rw[e]at hj;cases hj) hall,fun i hi=>?_⟩;by_cases hiz:i=z
   ·subst hiz
    have hp:p∈Region.ready md ops listed:=by
     have:∃j∈Region.ready md ops listed,j≠i:=by
      by_cases hh:∃j∈Region.ready md ops listed,j≠i
      ·exact hh
      ·exact absurd (fun j hj=>by by_cases e:j=i;exact e;exact absurd ⟨j,hj,e⟩ hh) hall
     obtain⟨j,hj,hji⟩:=this;rcases hz listed hi j hj with e|e
     ·exact absurd e hji
     ·subst e;exact hj
    have h1:=k2 p hp hpz;unfold eD at h1;rw[hop]at h1;dsimp only at h1;have hwp:Region.wanted op (yielded ops a.tmps)=true:=by simp[Region.wanted,hgp]
    rw[if_pos hwp]at h1;unfold one at h1;rw[hEp]at h1;dsimp only at h1;obtain⟨v,q1,q2⟩:=h1;have hq:=q1 w hw.base;have hzr:=ready_mono hi (Ne.symm hpz);have hall':∀j∈Region.ready md ops (listed.setIfInBounds p true),j=i:=fun j hj=>by
     rcases hz _ hzr j hj with e|e
     ·exact e
     ·subst e
      have h0:=(mem_ready.1 hp).1;have h2:=(mem_ready.1 hj).1;rcases Nat.lt_or_ge j listed.size with h'|h'
      ·simp[h']at h2
      ·simp[Array.getElem?_eq_none h']at h0
    have hT:kV P oz (a.put op.dst v) w (fun w1=>D w w1/\wpAny P md ops Q' (1+fuel) ((listed.setIfInBounds p true).setIfInBounds i true) (a.put op.dst v) w1):=by
     cases fuel with
     |zero=>exact((q2 ⟨w,hw⟩).2 w hw).2
     |succ f=>exact((q2 ⟨w,hw⟩).1 hall' w hw).2
    obtain⟨w',er,hD,hT⟩:=hT;rw[hev]at er;refine kV.op hoz hgz hdz ⟨w',er,?_⟩;have e3:2+fuel=(1+fuel)+1:=by omega
    rw[e3];have hpr:=ready_mono hp hpz;refine⟨fun e=>absurd hpr (by rw[e];simp),fun j hj=>?_⟩;obtain rfl:=hzp listed hi hp j hj;unfold wpOp;rw[hop];dsimp only;rw[if_pos hwp];refine .inl ?_;unfold Oper.wp;have hq':=hpure a w w' v ja hw.1 hD hq;rw[Array.setIfInBounds_comm _ _ hpz]at hT;generalize (execOp a.eval op).run P w'=r at hq';cases r with
    |halt x w'=>simp only[Oper.quietUpon]at hq'
    |ok n w'=>
     cases n<;>simp only[Oper.quietUpon]at hq'
     ·obtain⟨rfl,rfl⟩:=hq';simp only[Oper.upon];exact hT
     ·obtain⟨rfl,rfl⟩:=hq';simp only[Oper.upon];exact hT
     ·exact absurd hq'.2 rE
   have ih:=my hJ hC hE hoz hop hpz hgz hdz hgp hEp hev hpure hz hzp fuel (Q':=Q');have:=k2 i hi hiz;unfold eD at this;unfold wpOp;split
   ·rename_i ho;rw[ho]at this;exact ih _ a G w ja hg hw this
   ·rename_i o ho
    rw[ho]at this;dsimp only at this;split
    ·rename_i hwant
     rw[if_pos hwant]at this;refine .inl ?_;unfold one at this;unfold Oper.wp;split at this
     ·rename_i s hs
      have hr:=this.1 w hw.base;generalize (execOp a.eval o).run P w=r at hr;cases r with
      |halt x w'=>simp only[dS]at hr
      |ok n w'=>
       have go:∀u w'',s.V u->s.F u w''->R w w''->wpAny P md ops Q' (2+fuel) (listed.setIfInBounds i true) (a.put o.dst u) w'':=by
        intro u w'' hV hF hL;refine ih _ _ _ w'' (hJ _ _ _ _ ho ja) (hg.cons hs u) ?_ (this.2 u hV);have hh:=hw.later hC hE hg hL;refine⟨hh.1,fun g hG=>?_⟩;rw[List.mem_cons]at hG;rcases hG with rfl|hG
        ·exact hF
        ·exact hh.2 g hG
       cases n<;>simp only[dS]at hr
       ·simp only[Oper.upon];exact go _ _ hr.1 hr.2.1 hr.2.2
       ·simp only[Oper.upon];exact go _ _ hr.1 hr.2.1 hr.2.2
       ·obtain⟨rfl,hc⟩:=hr
        simp only[Oper.upon];refine hc.mono ?_;rintro e w'' ⟨u,rfl,hV,hF,hL⟩;exact go u w'' hV hF hL
     ·rename_i hs
      obtain⟨v,h1,h2⟩:=this;have hr:=h1 w hw.base;generalize (execOp a.eval o).run P w=r at hr;cases r with
      |halt x w'=>simp only[Oper.quietUpon]at hr
      |ok n w'=>
       cases n<;>simp only[Oper.quietUpon]at hr
       ·obtain⟨rfl,rfl⟩:=hr;simp only[Oper.upon];exact ih _ _ _ _ (hJ _ _ _ _ ho ja) hg hw h2
       ·obtain⟨rfl,rfl⟩:=hr;simp only[Oper.upon];exact ih _ _ _ _ (hJ _ _ _ _ ho ja) hg hw h2
       ·exact absurd hr.2 rE
    ·rename_i hwant;rw[if_neg hwant]at this;exact ih _ _ _ _ (hJ _ _ _ _ ho ja) hg hw this
end
def nR (l:List Oper) (i p:Nat):Bool:=(List.range i).all fun j=>j==p||(l[i]?).any fun o=>o.after.any fun e=>Region.binds .any e&&e.on==j
theorem qg {l:List Oper} {i p:Nat} (hL:nR l i p=true) {listed:Array Bool} (hz:i∈Region.ready .any l.toArray listed) {j:Nat} (hlt:j<i) (hp:j≠p):listed.getD j true=true:=by
 obtain⟨-,o,ho,hall⟩:=mem_ready.1 hz;have:=List.all_eq_true.1 hL j (List.mem_range.2 hlt);have ho':l[i]?=some o:=by simpa using ho
 rw[ho']at this;simp only[Option.any_some,Array.any_eq_true',Bool.or_eq_true,beq_iff_eq]at this;obtain⟨ed,hed,hb⟩:=this.resolve_left hp;simp only[Bool.and_eq_true,beq_iff_eq]at hb;have h3:=hall ed hed hb.1;rw[hb.2]at h3;rcases Nat.lt_or_ge j listed.size with h'|h'
 ·simpa[h']using h3
 ·simp[Array.getElem?_eq_none h']
def vC:Op->Bool
 | .extract _ _=>true
 |_=>false
theorem rF {P:Program} {o:Oper} (h:vC o.op=true) (a:Act) (w w':World) (v:Value) (hq:Oper.quietUpon P (fun _=>False) w v ((execOp a.eval o).run P w)):Oper.quietUpon P (fun _=>False) w' v ((execOp a.eval o).run P w'):=by
 unfold vC at h;split at h
 ·rename_i x j e
  unfold execOp at hq⊢;simp only[e]at hq⊢;unfold Instr.extract at hq⊢;generalize a.eval x=y at hq⊢;cases y<;>simp[Oper.quietUpon]at hq⊢
  rename_i vs;cases hv:vs[j]?<;>simp[hv]at hq⊢
  exact hq
 ·cases h
theorem du {P:Program} {C:World->Prop} {E:Oper->Act->Option dP} {R:World->World->Prop} (J:Act->Prop) (D:World->World->Prop) (hC:∀x y,C x->R x y->C y) (hE:∀o a s,E o a=some s->∀u x y,s.F u x->R x y->s.F u y)
  {id:Nat} {Q:Exit->Act->World->Prop} {a:Act} {w:World} {l:List Oper} (p:Nat) (oz op:Oper) (hA:∀o a dst v,(∀d,dst=some d->d∉o.looksAt l.toArray)->E o (Act.put a dst v)=E o a) (hm:P.follows .mixedOrders=true) (hB:Region.lexB .any l.toArray=true) (hL1:nR l (l.length-2) p=true) (hL2:vB l (l.length-1)=true) (h2:2<=l.length) (hp:p<l.length-2)
  (hoz:l[l.length-2]?=some oz) (hop:l[p]?=some op) (hgz:oz.guard=none) (hdz:oz.dst=none) (hgp:op.guard=none) (hJ:∀(i:Nat) (o:Oper) a v,l.toArray[i]?=some o->J a->J (Act.put a o.dst v)) (ja:J a) (hqp:∀(a:Act) w w' v,J a->C w->D w w'->Oper.quietUpon P (fun _=>False) w v ((execOp a.eval op).run P w)->Oper.quietUpon P (fun _=>False) w' v ((execOp a.eval op).run P w')) (hEp:∀a,E op a=none) (hev:∀a v,execOp (Act.put a op.dst v).eval oz=execOp a.eval oz) (h0:C w.drew)
  (h:m9 P l.toArray C E R (fun a' G=>∀w',Has C G w'->kV P oz a' w' (fun w1=>D w' w1/\wpOp P l.toArray Q (l.length-1) (fun a'' w''=>Q .normal a'' w'') a' w1)) l.dropLast.dropLast a []):(Code.region id l.toArray true).wp P Q a w:=by
 simp only[Region.lexB,Bool.and_eq_true]at hB;have hg:m8 E []:=fun g hG=>by cases hG
 have hlt:∀listed,∀j∈Region.ready .any l.toArray listed,j<l.length:=fun listed j hj=>by
  obtain⟨-,oj,hoj, -⟩:=mem_ready.1 hj;simpa using(Array.getElem?_eq_some_iff.1 hoj).1
 have hno2:∀listed,l.length-1∈Region.ready .any l.toArray listed->∀j∈Region.ready .any l.toArray listed,j=l.length-1:=fun listed hz j hj=>by
  have:=AE hL2 hz hj;have:=hlt listed j hj;omega
 have hno:∀listed,l.length-2∈Region.ready .any l.toArray listed->∀j∈Region.ready .any l.toArray listed,j=l.length-2∨j=p:=fun listed hz j hj=>by
  have h3:=hlt listed j hj;by_cases e:j=l.length-1
  ·subst e
   have:=hno2 listed hj _ hz;omega
  ·by_cases e':j=l.length-2
   ·exact .inl e'
   ·by_cases ep:j=p
    ·exact .inr ep
    ·have:=qg hL1 hz (j:=j) Ff ep
     rw[(mem_ready.1 hj).1]at this;cases this
 have hzp:∀listed,l.length-2∈Region.ready .any l.toArray listed->p∈Region.ready .any l.toArray listed->∀j∈Region.ready .any l.toArray (listed.setIfInBounds (l.length-2) true),j=p:=fun listed hz hpr j hj=>by
  have hpr':=ready_mono hpr (i:=l.length-2) Ff;by_cases ep:j=p
  ·exact ep
  have h3:=hlt _ j hj;by_cases e:j=l.length-1
  ·subst e
   have:=hno2 _ hj _ hpr';omega
  by_cases e':j=l.length-2
  ·subst e'
   have h0:=(mem_ready.1 hz).1;have h2:=(mem_ready.1 hj).1;rcases Nat.lt_or_ge (l.length-2) listed.size with h'|h'
   ·simp[h']at h2
   ·simp[Array.getElem?_eq_none h']at h0
  ·have:=qg hL1 hz (j:=j) Ff ep
   have h4:=(mem_ready.1 hj).1;rw[getD_set_ne true Ff]at h4;rw[h4]at this;cases this
 have step:∀listed,Region.lexFrom .any l.toArray 2 (l.length-2) listed=true->l.length-2∈Region.ready .any l.toArray listed/\l.length-1∈Region.ready .any l.toArray (listed.setIfInBounds (l.length-2) true)/\Region.ready .any l.toArray ((listed.setIfInBounds (l.length-2) true).setIfInBounds (l.length-1) true)=[]:=fun listed hl=>by
  simp only[Region.lexFrom,Bool.and_eq_true]at hl;have e:l.length-2+1=l.length-1:=by omega
  rw[e]at hl;exact⟨by simpa using hl.1.1,by simpa using hl.2.1.1,by simpa using hl.2.2⟩
 have only:∀listed,Region.lexFrom .any l.toArray 2 (l.length-2) listed=true->∀j∈Region.ready .any l.toArray listed,j=l.length-2:=fun listed hl j hj=>by
  obtain⟨hr,hr2, -⟩:=step listed hl;rcases hno listed hr j hj with e|e
  ·exact e
  ·subst e
   have:=hno2 _ hr2 _ (ready_mono hj (i:=l.length-2) Ff);omega
 have hsz:l.dropLast.dropLast.length=l.length-2:=by simp;omega
 have:=kS (P:=P) (md:=.any) (ops:=l.toArray) (z:=l.length-2) (x:=2) (T:=fun k listed a w=>l.length-2∈Region.ready .any l.toArray listed/\kV P oz a w (fun w1=>D w w1/\wpAny P .any l.toArray Q (1+k) (listed.setIfInBounds (l.length-2) true) a w1)) (F:=fun a w=>kV P oz a w (fun w1=>D w w1/\wpOp P l.toArray Q (l.length-1) (fun a'' w''=>Q .normal a'' w'') a w1)) hC hE hA hB.1
  (fun listed a w hl hf=>by
   obtain⟨hr,hr2,he⟩:=step listed hl;refine⟨only listed hl,hr,hf.mono fun w1 hq=>⟨hq.1,?_⟩⟩;refine⟨fun e=>(by rw[e]at hr2;cases hr2),fun i hi=>?_⟩;obtain rfl:=hno2 _ hr2 i hi;exact wpOp_mono (fun a w hq=>⟨he,hq⟩) hq.2)
  (fun listed hl=>only listed hl) l.dropLast.dropLast 0 (Array.replicate l.toArray.size false) a [] hg (by rw[hsz];omega) (fun j hj=>by
   rw[hsz]at hj;rw[Nat.zero_add,List.getElem?_toArray,List.getElem?_dropLast,List.getElem?_dropLast,if_pos (by simp;omega),if_pos Ff])
  (by
   have e:2+l.dropLast.dropLast.length=l.length:=by rw[hsz];omega
   rw[e];simpa using hB.2) h.out
 refine wp_region_any hm ?_;have e:l.toArray.size=2+l.dropLast.dropLast.length:=by rw[hsz];simp;omega
 have k:=my (J:=J) (D:=D) hJ hC hE (z:=l.length-2) (p:=p) (oz:=oz) (op:=op) (by simpa using hoz) (by simpa using hop) Ff hgz hdz hgp hEp hev hqp hno hzp _ _ _ [] _ ja hg ⟨h0,fun g hG=>by cases hG⟩ this;rw[<-e]at k;exact k
theorem eY {P:Program} {C:World->Prop} {E:Oper->Act->Option dP} {R:World->World->Prop} (hC:∀x y,C x->R x y->C y) (hE:∀o a s,E o a=some s->∀u x y,s.F u x->R x y->s.F u y)
  {id:Nat} {Q:Exit->Act->World->Prop} {a:Act} {w:World} {l:List Oper} (p:Nat) (oz op:Oper) (hA:∀o a dst v,(∀d,dst=some d->d∉o.looksAt l.toArray)->E o (Act.put a dst v)=E o a) (hm:P.follows .mixedOrders=true) (hB:Region.lexB .any l.toArray=true) (hL1:nR l (l.length-2) p=true) (hL2:vB l (l.length-1)=true) (h2:2<=l.length) (hp:p<l.length-2)
  (hoz:l[l.length-2]?=some oz) (hop:l[p]?=some op) (hgz:oz.guard=none) (hdz:oz.dst=none) (hgp:op.guard=none) (hqp:vC op.op=true) (hEp:∀a,E op a=none) (hev:∀a v,execOp (Act.put a op.dst v).eval oz=execOp a.eval oz) (h0:C w.drew)
  (h:m9 P l.toArray C E R (fun a' G=>∀w',Has C G w'->kV P oz a' w' (fun w1=>True/\wpOp P l.toArray Q (l.length-1) (fun a'' w''=>Q .normal a'' w'') a' w1)) l.dropLast.dropLast a []):(Code.region id l.toArray true).wp P Q a w:=
 du (fun _=>True) (fun _ _=>True) hC hE p oz op hA hm hB hL1 hL2 h2 hp hoz hop hgz hdz hgp (fun _ _ _ _ _ _=>trivial) trivial (fun a w w' v _ _ _ hq=>rF hqp a w w' v hq) hEp hev h0 h
theorem xY {l:List Oper} {t:Tmp} {x:Value} (h:l.all (fun o=>o.dst !=some t)=true) (i:Nat) (o:Oper) (a:Act) (v:Value) (ho:l.toArray[i]?=some o) (ha:a.eval (.tmp t)=x):(a.put o.dst v).eval (.tmp t)=x:=by
 have hm:o∈l:=by
  have:l[i]?=some o:=by simpa using ho
  exact List.mem_of_getElem? this
 have hd:=List.all_eq_true.1 h o hm;rw[Act.eval_put (fun d hd' e=>by cases e;rw[hd']at hd;simp at hd)];exact ha
theorem iC {t:TypeId} {n:Nat} (hS:IsS t n) {o:Oper} (x:Operand) (ho:o.op=.load t x) {a:Act} {w w':World} {v:Value} (g:Nat) (hx:a.eval x=.pointer (some ⟨g,0,none⟩)) (cs:Array Value) (hn:cs.size=n) (h1:StB w g t cs) (h2:StB w' g t cs)
  (hq:Oper.quietUpon Tryz.prog (fun _=>False) w v ((execOp a.eval o).run Tryz.prog w)):Oper.quietUpon Tryz.prog (fun _=>False) w' v ((execOp a.eval o).run Tryz.prog w'):=by
 unfold execOp at hq⊢;simp only[ho,hx,Instr.loadAt,Instr.sureAddr,Sem.run_bind,Sem.run_pure,Result.andThen_ok,gV hS w g cs hn h1]at hq;simp only[ho,hx,Instr.loadAt,Instr.sureAddr,Sem.run_bind,Sem.run_pure,Result.andThen_ok,gV hS w' g cs hn h2];simp[Oper.quietUpon]at hq⊢;exact hq
end
end Go.Proofs.YthldeiojlllkdaaGreatDoor
