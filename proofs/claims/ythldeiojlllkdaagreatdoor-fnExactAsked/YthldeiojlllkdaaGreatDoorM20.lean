/- How the laws take a store kL, on: toStore, eqStore, markStore, heldStore. -/
import Derived.Test.YthldeiojlllkdaaGreatDoorM1
import Derived.Test.YthldeiojlllkdaaGreatDoorM14
import Derived.Test.YthldeiojlllkdaaGreatDoorGiv
import Derived.Test.YthldeiojlllkdaaGreatDoorM12
import Derived.Test.YthldeiojlllkdaaGreatDoorM9
set_option maxRecDepth 20000
set_option maxHeartbeats 200000
namespace Go.Proofs.YthldeiojlllkdaaGreatDoor
open Go.ChangeShapes Go.WideShapes Go.ChangeAt Go.RowKit
section
open Go.ChangeShapes Go.WideShapes Go.ChangeAt Go.RowKit
end
def alG (n:Nat) (t:TypeId) (cs:Array Value):dP:=⟨fun u=>∃g,u=.pointer (some ⟨g,0,none⟩),fun u x=>∀g,u=.pointer (some ⟨g,0,none⟩)->StB x g t cs/\n<=g⟩
theorem jp {n:Nat} {t:TypeId} {cs:Array Value} {u:Value} {x y:World} (hx:(alG n t cs).F u x) (b:dQ x y):(alG n t cs).F u y:=fun g e=>⟨(hx g e).1.below b,(hx g e).2⟩
theorem rI {P:Program} {n:Nat} {t:TypeId} {cs:Array Value} {w:World} (hn:n<=w.heap.size):dS P dQ (alG n t cs).V (alG n t cs).F w (.ok (.value (.pointer (some ⟨w.heap.size,0,none⟩))) (w.alloc (.cells cs t))):=
 ⟨⟨_,rfl⟩,fun g e=>by cases e;exact⟨StB.new _ _ _,hn⟩,bA⟩
theorem tg (a b k n1 n2 n3:Value):Tryz.prog.built 96 [(0,.agg #[a,b]),(1,.agg #[k,n1,n2,n3])]=some #[a,b,k,n1,n2,n3]:=by kernel_rfl
section
structure nd (P:Program) (ops:Array Oper) (C:World->Prop) (E:Oper->Act->Option dP) (R:World->World->Prop) (Q:Act->cJ->Prop) (l:List Oper) (a:Act) (G:cJ):Prop where
 out:hQ P ops C E R Q l a G
section
variable {P:Program} {ops:Array Oper} {C:World->Prop} {E:Oper->Act->Option dP} {R:World->World->Prop} {Q:Act->cJ->Prop} {o:Oper} {rest:List Oper} {a:Act} {G:cJ}
theorem eP (hs:E o a=none)
  (h:∀K:Act->Prop,(∀a,nd P ops C E R Q rest a G->K a)->if Region.wanted o (yielded ops a.tmps)then(∃v,(∀w,(∃q:Kin C,w=q.x)->o.quietAt P a (fun _=>False) w v)/\K (a.put o.dst v))else K (a.put o.dst undef)):nd P ops C E R Q (o::rest) a G:=
 ⟨yN hs (fun K hK=>h K (fun a g=>hK a g.out))⟩
theorem fp (s:dP) (hs:E o a=some s) (hw:Region.wanted o (yielded ops a.tmps)=true)
  (h:∀w,iu ops C o G w->dS P R s.V s.F w ((execOp a.eval o).run P w))
  (k:∀u,s.V u->nd P ops C E R Q rest (a.put o.dst u) ((o,s.F u)::G)):nd P ops C E R Q (o::rest) a G:=⟨AC s hs hw h (fun u hu=>(k u hu).out)⟩
end
theorem i7 {P:Program} {ops:Array Oper} {C:World->Prop} {E:Oper->Act->Option dP} {R:World->World->Prop} {Q:Act->World->Prop} {a:Act} {G:cJ} (h:∀w',Has C G w'->Q a w'):nd P ops C E R (fun a' G=>∀w',Has C G w'->Q a' w') [] a G:=⟨Cj h⟩
theorem rH {P:Program} {C:World->Prop} {E:Oper->Act->Option dP} {R:World->World->Prop} (hC:∀x y,C x->R x y->C y) (hE:∀o a s,E o a=some s->∀u x y,s.F u x->R x y->s.F u y)
  {id:Nat} {Q:Exit->Act->World->Prop} {a:Act} {w:World} {l:List Oper} (hA:∀o a dst v,(∀d,dst=some d->d∉o.looksAt l.toArray)->E o (Act.put a dst v)=E o a) (hm:P.follows .mixedOrders=true) (hB:Region.lexB .any l.toArray=true) (h0:C w.drew)
  (h:nd P l.toArray C E R (fun a' G=>∀w',Has C G w'->Q .normal a' w') l a []):(Code.region id l.toArray true).wp P Q a w:=px hC hE hA hm hB h0 h.out
end
theorem rG {b:Bool} {u:Value} {x y:World} (hx:(qg b).F u x) (_:dQ x y):(qg b).F u y:=hx
def CpI (w:World) (g:Nat) (v:Value) (c:Cp):Prop:=StB w g 39 (cpA v c)/\bO w 0 v c.ts
theorem CpI.below {w w':World} {g:Nat} {v:Value} {c:Cp} (h:CpI w g v c) (b:bB w w'):CpI w' g v c:=⟨h.1.below b,h.2.below b⟩
theorem CpI.reads {w:World} {g:Nat} {v:Value} {c:Cp} (h:CpI w g v c):ag w v c.ts:=h.2.reads
theorem CpI.new {w:World} {base:Nat} {v:Value} {c:Cp} (h:bO w base v c.ts):CpI (w.alloc (.cells (cpA v c) 39)) w.heap.size v c:=
 ⟨StB.new w _ _,(h.mono (Nat.zero_le _)).below bA⟩
theorem CpI.kept {w w':World} {g k:Nat} {v:Value} {c:Cp} {ds:Array Value} (h:CpI w g v c) (hk:StB w k 39 ds) (G:w.grownBy w' (some k)) (hne:g≠k):CpI w' g v c:=
 ⟨h.1.kept G (fun e=>hne (Option.some.inj e)),h.2.putBy hk (by decide) G⟩
theorem CpI.cell {w:World} {g:Nat} {v:Value} {c:Cp} (h:CpI w g v c) (j:Nat) {x:Value} (e:(cpA v c)[j]?=some x):w.cell? ⟨g,j,none⟩=some x:=h.1.cell j e
theorem CpI.at {w:World} {g:Nat} {a:Option Addr} {n cap:Nat} {c:Cp} (h:CpI w g (.slice a n cap) c) (j:Nat) (hj:j<n):∃b off,a=some ⟨b,off,none⟩/\n<=cap/\cap<=maxLen/\w.cell? ⟨b,off+j,none⟩=some (.int .i64 (c.ts.getD j 0)):=by
 obtain⟨-,h1,h2,h3⟩:=aK h.2.reads;obtain⟨b,off,e,h4⟩:=h3 j hj;exact⟨b,off,e,h1,h2,h4⟩
theorem fI {t:TypeId} {n:Nat} (hS:IsS t n) {ops:Array Oper} {i:Nat} {o:Oper} {a:Act} {w:World} {K:Act->World->Prop} {Q:Exit->Act->World->Prop} (hi:ops[i]?=some o) (hgd:o.guard=none) (x y:Operand) (ho:o.op=.store t x y)
  (g:Nat) (cs ds:Array Value) (hx:a.eval x=.pointer (some ⟨g,0,none⟩)) (hy:a.eval y=.agg cs) (hn:cs.size=n) (hd:ds.size=n) (h1:cs.all (·.oneCell')=true) (hr:StB w g t ds)
  (h:∀w',StB w' g t cs->w.grownBy w' (some g)->K (a.put o.dst undef) w'):wpOp Tryz.prog ops Q i K a w:=by
 unfold wpOp;rw[hi];dsimp only;have hw:Region.wanted o (yielded ops a.tmps)=true:=by simp[Region.wanted,hgd]
 rw[if_pos hw];refine .inl ?_;have:=zP (ops:=ops) (Q:=Q) (E:=False) hS hgd x y ho g cs ds hx hy hn hd h1 hr h;rw[if_pos hw]at this;exact this
def vB (l:List Oper) (i:Nat):Bool:=(List.range i).all fun j=>(l[i]?).any fun o=>o.after.any fun e=>Region.binds .any e&&e.on==j
theorem AF {l:List Oper} {i:Nat} (hL:vB l i=true) {listed:Array Bool} (hz:i∈Region.ready .any l.toArray listed) {j:Nat} (hj:j∈Region.ready .any l.toArray listed):¬j<i:=fun hlt=>by
 obtain⟨-,o,ho,hall⟩:=mem_ready.1 hz;obtain⟨hun,oj,hoj, -⟩:=mem_ready.1 hj;have:=List.all_eq_true.1 hL j (List.mem_range.2 hlt);have ho':l[i]?=some o:=by simpa using ho
 rw[ho']at this;simp only[Option.any_some,Array.any_eq_true']at this;obtain⟨ed,hed,hb⟩:=this;simp only[Bool.and_eq_true,beq_iff_eq]at hb;have h3:=hall ed hed hb.1;rw[hb.2]at h3;rcases Nat.lt_or_ge j listed.size with h'|h'
 ·simp[h']at hun h3;rw[hun]at h3;cases h3
 ·simp[Array.getElem?_eq_none h']at h3
section
def kV (P:Program) (o:Oper) (a:Act) (w:World) (K:World->Prop):Prop:=∃w',(execOp a.eval o).run P w=.ok .skip w'/\K w'
theorem kV.mono {P:Program} {o:Oper} {a:Act} {w:World} {K K':World->Prop} (h:kV P o a w K) (k:∀w,K w->K' w):kV P o a w K':=by
 obtain⟨w',e,h⟩:=h;exact⟨w',e,k _ h⟩
theorem gD {t:TypeId} {n:Nat} (hS:IsS t n) {o:Oper} {a:Act} {w:World} {K:World->Prop} (x y:Operand) (ho:o.op=.store t x y)
  (g:Nat) (cs ds:Array Value) (hx:a.eval x=.pointer (some ⟨g,0,none⟩)) (hy:a.eval y=.agg cs) (hn:cs.size=n) (hd:ds.size=n) (h1:cs.all (·.oneCell')=true) (hr:StB w g t ds)
  (h:∀w',StB w' g t cs->w.grownBy w' (some g)->K w'):kV Tryz.prog o a w K:=by
 refine⟨w.setRow g cs,?_,h _ (setRow_heap w g _ _ _ _ hr) (gz w g _)⟩;unfold execOp;simp only[ho,hx,hy,Instr.storeAt,Instr.sureAddr,Sem.run_bind,Sem.run_pure,Result.andThen_ok,run_storeVar_row w g t t ds cs hr (by rw[hS.2,hn]) (by rw[hd,hn]) h1]
theorem kV.op {P:Program} {ops:Array Oper} {Q:Exit->Act->World->Prop} {i:Nat} {o:Oper} {a:Act} {w:World} {K:Act->World->Prop} (hi:ops[i]?=some o) (hg:o.guard=none) (hd:o.dst=none) (h:kV P o a w (K a)):wpOp P ops Q i K a w:=by
 obtain⟨w',e,h⟩:=h;have hw:Region.wanted o (yielded ops a.tmps)=true:=by simp[Region.wanted,hg]
 unfold wpOp;rw[hi];dsimp only;rw[if_pos hw];refine .inl ?_;unfold Oper.wp;rw[e];simp only[Oper.upon,hd,Act.put];exact h
section
variable {P:Program} {md:Region.Mode} {ops:Array Oper} {C:World->Prop} {E:Oper->Act->Option dP} {R:World->World->Prop}
theorem mz {J:Act->Prop} {D:World->World->Prop} (hJ:∀(i:Nat) (o:Oper) a v,ops[i]?=some o->J a->J (Act.put a o.dst v)) (hC:∀x y,C x->R x y->C y) (hE:∀o a s,E o a=some s->∀u x y,s.F u x->R x y->s.F u y) {z p:Nat} {oz op:Oper} {Q':Exit->Act->World->Prop}
  (hoz:ops[z]?=some oz) (hop:ops[p]?=some op) (hpz:p≠z) (hgz:oz.guard=none) (hdz:oz.dst=none) (hgp:op.guard=none) (hEp:∀a,E op a=none)
  (hev:∀a v,execOp (Act.put a op.dst v).eval oz=execOp a.eval oz)
  (hpure:∀(a:Act) w w' v,J a->C w->D w w'->Oper.quietUpon P (fun _=>False) w v ((execOp a.eval op).run P w)->Oper.quietUpon P (fun _=>False) w' v ((execOp a.eval op).run P w'))
  (hz:∀listed,z∈Region.ready md ops listed->∀j∈Region.ready md ops listed,j=z∨j=p)
  (hzp:∀listed,z∈Region.ready md ops listed->p∈Region.ready md ops listed->∀j∈Region.ready md ops (listed.setIfInBounds z true),j=p):
  ∀(fuel:Nat) (listed:Array Bool) (a:Act) (G:cJ) (w:World),J a->m9 E G->Has C G w->fG P md ops C E R z (fun k listed a w=>z∈Region.ready md ops listed/\kV P oz a w (fun w1=>D w w1/\wpAny P md ops Q' (1+k) (listed.setIfInBounds z true) a w1)) fuel listed a G->wpAny P md ops Q' (2+fuel) listed a w
 |fuel,listed,a,G,w,ja,hg,hw,k=>by
  have fin:∀k,(∀j∈Region.ready md ops listed,j=z)->(z∈Region.ready md ops listed/\kV P oz a w (fun w1=>D w w1/\wpAny P md ops Q' (1+k) (listed.setIfInBounds z true) a w1))->wpAny P md ops Q' (2+k) listed a w:=by
   intro k hall hT;have e:2+k=(1+k)+1:=by omega
   rw[e];refine⟨fun e=>absurd hT.1 (by rw[e];simp),fun i hi=>?_⟩;obtain rfl:=hall i hi;exact(hT.2.mono fun _ h=>h.2).op hoz hgz hdz
  cases fuel with
  |zero=>
   obtain⟨k1,k2⟩:=k ⟨w,hw⟩;exact fin 0 k1 (k2 w hw)
  |succ fuel=>
   obtain⟨k1,k2⟩:=k ⟨w,hw⟩;by_cases hall:∀j∈Region.ready md ops listed,j=z
   ·exact fin (fuel+1) hall (k1 hall w hw)
   have e2:2+(fuel+1)=(2+fuel)+1:=by omega
   rw[e2];refine⟨fun e=>absurd (fun j hj=>by rw[e]at hj;cases hj) hall,fun i hi=>?_⟩;by_cases hiz:i=z
   ·subst hiz
    have hp:p∈Region.ready md ops listed:=by
     have:∃j∈Region.ready md ops listed,j≠i:=by
      by_cases hh:∃j∈Region.ready md ops listed,j≠i
      ·exact hh
      ·exact absurd (fun j hj=>by by_cases e:j=i;exact e;exact absurd ⟨j,hj,e⟩ hh) hall
     obtain⟨j,hj,hji⟩:=this;rcases hz listed hi j hj with e|e
     ·exact absurd e hji
     ·subst e;exact hj
    have h1:=k2 p hp hpz;unfold eC at h1;rw[hop]at h1;dsimp only at h1;have hwp:Region.wanted op (yielded ops a.tmps)=true:=by simp[Region.wanted,hgp]
    rw[if_pos hwp]at h1;unfold one at h1;rw[hEp]at h1;dsimp only at h1;obtain⟨v,q1,q2⟩:=h1;have hq:=q1 w hw.base;have hzr:=ready_mono hi (Ne.symm hpz);have hall':∀j∈Region.ready md ops (listed.setIfInBounds p true),j=i:=fun j hj=>by
     rcases hz _ hzr j hj with e|e
     ·exact e
     ·subst e
      have h0:=(mem_ready.1 hp).1;have h2:=(mem_ready.1 hj).1;rcases Nat.lt_or_ge j listed.size with h'|h'
      ·simp[h']at h2
      ·simp[Array.getElem?_eq_none h']at h0
    have hT:kV P oz (a.put op.dst v) w (fun w1=>D w w1/\wpAny P md ops Q' (1+fuel) ((listed.setIfInBounds p true).setIfInBounds i true) (a.put op.dst v) w1):=by
     cases fuel with
     |zero=>exact((q2 ⟨w,hw⟩).2 w hw).2
     |succ f=>exact((q2 ⟨w,hw⟩).1 hall' w hw).2
    obtain⟨w',er,hD,hT⟩:=hT;rw[hev]at er;refine kV.op hoz hgz hdz ⟨w',er,?_⟩;have e3:2+fuel=(1+fuel)+1:=by omega
    rw[e3];have hpr:=ready_mono hp hpz;refine⟨fun e=>absurd hpr (by rw[e];simp),fun j hj=>?_⟩;obtain rfl:=hzp listed hi hp j hj;unfold wpOp;rw[hop];dsimp only;rw[if_pos hwp];refine .inl ?_;unfold Oper.wp;have hq':=hpure a w w' v ja hw.1 hD hq;rw[Array.setIfInBounds_comm _ _ hpz]at hT;generalize (execOp a.eval op).run P w'=r at hq';cases r with
    |halt x w'=>simp only[Oper.quietUpon]at hq'
    |ok n w'=>
     cases n<;>simp only[Oper.quietUpon]at hq'
     ·obtain⟨rfl,rfl⟩:=hq';simp only[Oper.upon];exact hT
     ·obtain⟨rfl,rfl⟩:=hq';simp only[Oper.upon];exact hT
     ·exact absurd hq'.2 rE
   have ih:=mz hJ hC hE hoz hop hpz hgz hdz hgp hEp hev hpure hz hzp fuel (Q':=Q');have:=k2 i hi hiz;unfold eC at this;unfold wpOp;split
   ·rename_i ho;rw[ho]at this;exact ih _ a G w ja hg hw this
   ·rename_i o ho
    rw[ho]at this;dsimp only at this;split
    ·rename_i hwant
     rw[if_pos hwant]at this;refine .inl ?_;unfold one at this;unfold Oper.wp;split at this
     ·rename_i s hs
      have hr:=this.1 w hw.base;generalize (execOp a.eval o).run P w=r at hr;cases r with
      |halt x w'=>simp only[dS]at hr
      |ok n w'=>
       have go:∀u w'',s.V u->s.F u w''->R w w''->wpAny P md ops Q' (2+fuel) (listed.setIfInBounds i true) (a.put o.dst u) w'':=by
        intro u w'' hV hF hL;refine ih _ _ _ w'' (hJ _ _ _ _ ho ja) (hg.cons hs u) ?_ (this.2 u hV);have hh:=hw.later hC hE hg hL;refine⟨hh.1,fun g hG=>?_⟩;rw[List.mem_cons]at hG;rcases hG with rfl|hG
        ·exact hF
        ·exact hh.2 g hG
       cases n<;>simp only[dS]at hr
       ·simp only[Oper.upon];exact go _ _ hr.1 hr.2.1 hr.2.2
       ·simp only[Oper.upon];exact go _ _ hr.1 hr.2.1 hr.2.2
       ·obtain⟨rfl,hc⟩:=hr
        simp only[Oper.upon];refine hc.mono ?_;rintro e w'' ⟨u,rfl,hV,hF,hL⟩;exact go u w'' hV hF hL
     ·rename_i hs
      obtain⟨v,h1,h2⟩:=this;have hr:=h1 w hw.base;generalize (execOp a.eval o).run P w=r at hr;cases r with
      |halt x w'=>simp only[Oper.quietUpon]at hr
      |ok n w'=>
       cases n<;>simp only[Oper.quietUpon]at hr
       ·obtain⟨rfl,rfl⟩:=hr;simp only[Oper.upon];exact ih _ _ _ _ (hJ _ _ _ _ ho ja) hg hw h2
       ·obtain⟨rfl,rfl⟩:=hr;simp only[Oper.upon];exact ih _ _ _ _ (hJ _ _ _ _ ho ja) hg hw h2
       ·exact absurd hr.2 rE
    ·rename_i hwant;rw[if_neg hwant]at this;exact ih _ _ _ _ (hJ _ _ _ _ ho ja) hg hw this
end
def nS (l:List Oper) (i p:Nat):Bool:=(List.range i).all fun j=>j==p||(l[i]?).any fun o=>o.after.any fun e=>Region.binds .any e&&e.on==j
theorem qh {l:List Oper} {i p:Nat} (hL:nS l i p=true) {listed:Array Bool} (hz:i∈Region.ready .any l.toArray listed) {j:Nat} (hlt:j<i) (hp:j≠p):listed.getD j true=true:=by
 obtain⟨-,o,ho,hall⟩:=mem_ready.1 hz;have:=List.all_eq_true.1 hL j (List.mem_range.2 hlt);have ho':l[i]?=some o:=by simpa using ho
 rw[ho']at this;simp only[Option.any_some,Array.any_eq_true',Bool.or_eq_true,beq_iff_eq]at this;obtain⟨ed,hed,hb⟩:=this.resolve_left hp;simp only[Bool.and_eq_true,beq_iff_eq]at hb;have h3:=hall ed hed hb.1;rw[hb.2]at h3;rcases Nat.lt_or_ge j listed.size with h'|h'
 ·simpa[h']using h3
 ·simp[Array.getElem?_eq_none h']
def vC:Op->Bool
 | .extract _ _=>true
 |_=>false
theorem rF {P:Program} {o:Oper} (h:vC o.op=true) (a:Act) (w w':World) (v:Value) (hq:Oper.quietUpon P (fun _=>False) w v ((execOp a.eval o).run P w)):Oper.quietUpon P (fun _=>False) w' v ((execOp a.eval o).run P w'):=by
 unfold vC at h;split at h
 ·rename_i x j e
  unfold execOp at hq⊢;simp only[e]at hq⊢;unfold Instr.extract at hq⊢;generalize a.eval x=y at hq⊢;cases y<;>simp[Oper.quietUpon]at hq⊢
  rename_i vs;cases hv:vs[j]?<;>simp[hv]at hq⊢
  exact hq
 ·cases h
theorem du {P:Program} {C:World->Prop} {E:Oper->Act->Option dP} {R:World->World->Prop} (J:Act->Prop) (D:World->World->Prop) (hC:∀x y,C x->R x y->C y) (hE:∀o a s,E o a=some s->∀u x y,s.F u x->R x y->s.F u y)
  {id:Nat} {Q:Exit->Act->World->Prop} {a:Act} {w:World} {l:List Oper} (p:Nat) (oz op:Oper) (hA:∀o a dst v,(∀d,dst=some d->d∉o.looksAt l.toArray)->E o (Act.put a dst v)=E o a) (hm:P.follows .mixedOrders=true) (hB:Region.lexB .any l.toArray=true) (hL1:nS l (l.length-2) p=true) (hL2:vB l (l.length-1)=true) (h2:2<=l.length) (hp:p<l.length-2)
  (hoz:l[l.length-2]?=some oz) (hop:l[p]?=some op) (hgz:oz.guard=none) (hdz:oz.dst=none) (hgp:op.guard=none) (hJ:∀(i:Nat) (o:Oper) a v,l.toArray[i]?=some o->J a->J (Act.put a o.dst v)) (ja:J a) (hqp:∀(a:Act) w w' v,J a->C w->D w w'->Oper.quietUpon P (fun _=>False) w v ((execOp a.eval op).run P w)->Oper.quietUpon P (fun _=>False) w' v ((execOp a.eval op).run P w')) (hEp:∀a,E op a=none) (hev:∀a v,execOp (Act.put a op.dst v).eval oz=execOp a.eval oz) (h0:C w.drew)
  (h:nd P l.toArray C E R (fun a' G=>∀w',Has C G w'->kV P oz a' w' (fun w1=>D w' w1/\wpOp P l.toArray Q (l.length-1) (fun a'' w''=>Q .normal a'' w'') a' w1)) l.dropLast.dropLast a []):(Code.region id l.toArray true).wp P Q a w:=by
 simp only[Region.lexB,Bool.and_eq_true]at hB;have hg:m9 E []:=fun g hG=>by cases hG
 have hlt:∀listed,∀j∈Region.ready .any l.toArray listed,j<l.length:=fun listed j hj=>by
  obtain⟨-,oj,hoj, -⟩:=mem_ready.1 hj;simpa using(Array.getElem?_eq_some_iff.1 hoj).1
 have hno2:∀listed,l.length-1∈Region.ready .any l.toArray listed->∀j∈Region.ready .any l.toArray listed,j=l.length-1:=fun listed hz j hj=>by
  have:=AF hL2 hz hj;have:=hlt listed j hj;omega
 have hno:∀listed,l.length-2∈Region.ready .any l.toArray listed->∀j∈Region.ready .any l.toArray listed,j=l.length-2∨j=p:=fun listed hz j hj=>by
  have h3:=hlt listed j hj;by_cases e:j=l.length-1
  ·subst e
   have:=hno2 listed hj _ hz;omega
  ·by_cases e':j=l.length-2
   ·exact .inl e'
   ·by_cases ep:j=p
    ·exact .inr ep
    ·have:=qh hL1 hz (j:=j) (by omega) ep
     rw[(mem_ready.1 hj).1]at this;cases this
 have hzp:∀listed,l.length-2∈Region.ready .any l.toArray listed->p∈Region.ready .any l.toArray listed->∀j∈Region.ready .any l.toArray (listed.setIfInBounds (l.length-2) true),j=p:=fun listed hz hpr j hj=>by
  have hpr':=ready_mono hpr (i:=l.length-2) (by omega);by_cases ep:j=p
  ·exact ep
  have h3:=hlt _ j hj;by_cases e:j=l.length-1
  ·subst e
   have:=hno2 _ hj _ hpr';omega
  by_cases e':j=l.length-2
  ·subst e'
   have h0:=(mem_ready.1 hz).1;have h2:=(mem_ready.1 hj).1;rcases Nat.lt_or_ge (l.length-2) listed.size with h'|h'
   ·simp[h']at h2
   ·simp[Array.getElem?_eq_none h']at h0
  ·have:=qh hL1 hz (j:=j) (by omega) ep
   have h4:=(mem_ready.1 hj).1;rw[getD_set_ne true (by omega)]at h4;rw[h4]at this;cases this
 have step:∀listed,Region.lexFrom .any l.toArray 2 (l.length-2) listed=true->l.length-2∈Region.ready .any l.toArray listed/\l.length-1∈Region.ready .any l.toArray (listed.setIfInBounds (l.length-2) true)/\Region.ready .any l.toArray ((listed.setIfInBounds (l.length-2) true).setIfInBounds (l.length-1) true)=[]:=fun listed hl=>by
  simp only[Region.lexFrom,Bool.and_eq_true]at hl;have e:l.length-2+1=l.length-1:=by omega
  rw[e]at hl;exact⟨by simpa using hl.1.1,by simpa using hl.2.1.1,by simpa using hl.2.2⟩
 have only:∀listed,Region.lexFrom .any l.toArray 2 (l.length-2) listed=true->∀j∈Region.ready .any l.toArray listed,j=l.length-2:=fun listed hl j hj=>by
  obtain⟨hr,hr2, -⟩:=step listed hl;rcases hno listed hr j hj with e|e
  ·exact e
  ·subst e
   have:=hno2 _ hr2 _ (ready_mono hj (i:=l.length-2) (by omega));omega
 have hsz:l.dropLast.dropLast.length=l.length-2:=by simp;omega
 have:=kS (P:=P) (md:=.any) (ops:=l.toArray) (z:=l.length-2) (x:=2) (T:=fun k listed a w=>l.length-2∈Region.ready .any l.toArray listed/\kV P oz a w (fun w1=>D w w1/\wpAny P .any l.toArray Q (1+k) (listed.setIfInBounds (l.length-2) true) a w1)) (F:=fun a w=>kV P oz a w (fun w1=>D w w1/\wpOp P l.toArray Q (l.length-1) (fun a'' w''=>Q .normal a'' w'') a w1)) hC hE hA hB.1
  (fun listed a w hl hf=>by
   obtain⟨hr,hr2,he⟩:=step listed hl;refine⟨only listed hl,hr,hf.mono fun w1 hq=>⟨hq.1,?_⟩⟩;refine⟨fun e=>(by rw[e]at hr2;cases hr2),fun i hi=>?_⟩;obtain rfl:=hno2 _ hr2 i hi;exact wpOp_mono (fun a w hq=>⟨he,hq⟩) hq.2)
  (fun listed hl=>only listed hl) l.dropLast.dropLast 0 (Array.replicate l.toArray.size false) a [] hg (by rw[hsz];omega) (fun j hj=>by
   rw[hsz]at hj;rw[Nat.zero_add,List.getElem?_toArray,List.getElem?_dropLast,List.getElem?_dropLast,if_pos (by simp;omega),if_pos (by omega)])
  (by
   have e:2+l.dropLast.dropLast.length=l.length:=by rw[hsz];omega
   rw[e];simpa using hB.2) h.out
 refine wp_region_any hm ?_;have e:l.toArray.size=2+l.dropLast.dropLast.length:=by rw[hsz];simp;omega
 have k:=mz (J:=J) (D:=D) hJ hC hE (z:=l.length-2) (p:=p) (oz:=oz) (op:=op) (by simpa using hoz) (by simpa using hop) (by omega) hgz hdz hgp hEp hev hqp hno hzp _ _ _ [] _ ja hg ⟨h0,fun g hG=>by cases hG⟩ this;rw[<-e]at k;exact k
theorem eY {P:Program} {C:World->Prop} {E:Oper->Act->Option dP} {R:World->World->Prop} (hC:∀x y,C x->R x y->C y) (hE:∀o a s,E o a=some s->∀u x y,s.F u x->R x y->s.F u y)
  {id:Nat} {Q:Exit->Act->World->Prop} {a:Act} {w:World} {l:List Oper} (p:Nat) (oz op:Oper) (hA:∀o a dst v,(∀d,dst=some d->d∉o.looksAt l.toArray)->E o (Act.put a dst v)=E o a) (hm:P.follows .mixedOrders=true) (hB:Region.lexB .any l.toArray=true) (hL1:nS l (l.length-2) p=true) (hL2:vB l (l.length-1)=true) (h2:2<=l.length) (hp:p<l.length-2)
  (hoz:l[l.length-2]?=some oz) (hop:l[p]?=some op) (hgz:oz.guard=none) (hdz:oz.dst=none) (hgp:op.guard=none) (hqp:vC op.op=true) (hEp:∀a,E op a=none) (hev:∀a v,execOp (Act.put a op.dst v).eval oz=execOp a.eval oz) (h0:C w.drew)
  (h:nd P l.toArray C E R (fun a' G=>∀w',Has C G w'->kV P oz a' w' (fun w1=>True/\wpOp P l.toArray Q (l.length-1) (fun a'' w''=>Q .normal a'' w'') a' w1)) l.dropLast.dropLast a []):(Code.region id l.toArray true).wp P Q a w:=
 du (fun _=>True) (fun _ _=>True) hC hE p oz op hA hm hB hL1 hL2 h2 hp hoz hop hgz hdz hgp (fun _ _ _ _ _ _=>trivial) trivial (fun a w w' v _ _ _ hq=>rF hqp a w w' v hq) hEp hev h0 h
theorem xY {l:List Oper} {t:Tmp} {x:Value} (h:l.all (fun o=>o.dst !=some t)=true) (i:Nat) (o:Oper) (a:Act) (v:Value) (ho:l.toArray[i]?=some o) (ha:a.eval (.tmp t)=x):(a.put o.dst v).eval (.tmp t)=x:=by
 have hm:o∈l:=by
  have:l[i]?=some o:=by simpa using ho
  exact List.mem_of_getElem? this
 have hd:=List.all_eq_true.1 h o hm;rw[Act.eval_put (fun d hd' e=>by cases e;rw[hd']at hd;simp at hd)];exact ha
theorem iC {t:TypeId} {n:Nat} (hS:IsS t n) {o:Oper} (x:Operand) (ho:o.op=.load t x) {a:Act} {w w':World} {v:Value} (g:Nat) (hx:a.eval x=.pointer (some ⟨g,0,none⟩)) (cs:Array Value) (hn:cs.size=n) (h1:StB w g t cs) (h2:StB w' g t cs)
  (hq:Oper.quietUpon Tryz.prog (fun _=>False) w v ((execOp a.eval o).run Tryz.prog w)):Oper.quietUpon Tryz.prog (fun _=>False) w' v ((execOp a.eval o).run Tryz.prog w'):=by
 unfold execOp at hq⊢;simp only[ho,hx,Instr.loadAt,Instr.sureAddr,Sem.run_bind,Sem.run_pure,Result.andThen_ok,gW hS w g cs hn h1]at hq;simp only[ho,hx,Instr.loadAt,Instr.sureAddr,Sem.run_bind,Sem.run_pure,Result.andThen_ok,gW hS w' g cs hn h2];simp[Oper.quietUpon]at hq⊢;exact hq
end
end Go.Proofs.YthldeiojlllkdaaGreatDoor
