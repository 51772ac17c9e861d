/- What of right houses is right, plainly: a house stays right, whatever it is asked, told, hears, and however it falls and rises. -/
import Derived.Test.YthmnmaemnihkeaaDoorM11
import Derived.Test.YthmnmaemnihkeaaDoorRows
import Derived.Test.YthmnmaemnihkeaaDoorM1
import Derived.WalkKit
import Derived.ProofKit
import Derived.OpenShut
namespace Go.Proofs.YthmnmaemnihkeaaDoor
open Go.RowKit
theorem sameR_iff (a b:Rc):sameR a b=true↔a=b:=by
 obtain⟨a1,a2,a3,a4⟩:=a
 obtain⟨b1,b2,b3,b4⟩:=b
 simp[sameR,and_assoc]
structure NdR (n:Nd):Prop where
 id:inI n.id 0 1=true
 dk:bothOk n.xs n.ys=true
 h:n.h.ok=true
 r:n.r.ok=true
 ll:n.log.length≤40000
 c:n.c.ok=true
 s:n.s.ok=true
 lg:LogR n.log n.r n.up
 dn:n.up=false→n.c.tr=0∧n.s.tr=0
 cp:n.c.tr≠0→n.r.s≠3∧n.c.tr=n.r.t∧n.c.ts.length=n.ys.length
 sk:n.s.tr≠0→n.r.s=3∧n.s.tr=n.r.n∧n.s.ts.length=n.ys.length
theorem take_all (s:Bs) (k:Nat) (h:k≤s.length):s.take k=s↔k=s.length:=by
 constructor
 ·intro e
  have:=congrArg List.length e
  rw[List.length_take]at this
  omega
 ·rintro rfl
  exact List.take_length
theorem Nd.ok_iff (n:Nd):n.ok=true↔NdR n:=by
 have hl:=recall_le n.log
 have e1:n.logB=true↔LogR n.log n.r n.up∧(n.up=false→n.c.tr=0∧n.s.tr=0):=by
  unfold Nd.logB
  simp only[Bool.and_eq_true,sameR_iff]
  constructor
  ·rintro⟨⟨⟨a,b⟩,c⟩,d⟩
   refine⟨⟨a,b,fun hu=>?_⟩,fun hu=>?_⟩
   ·rw[hu]at c
    simp only[Bool.not_true,Bool.false_or,decide_eq_true_eq]at c
    exact(take_all _ _ hl).1 c
   ·rw[hu]at d
    simpa using d
  ·rintro⟨⟨a,b,c⟩,d⟩
   refine⟨⟨⟨a,b⟩,?_⟩,?_⟩
   ·cases hu:n.up with
    |false=>rfl
    |true=>
     simp only[Bool.not_true,Bool.false_or,decide_eq_true_eq]
     exact(take_all _ _ hl).2 (c hu)
   ·cases hu:n.up with
    |true=>rfl
    |false=>simpa using d hu
 have e2:n.copB=true↔(n.c.tr≠0→n.r.s≠3∧n.c.tr=n.r.t∧n.c.ts.length=n.ys.length):=by
  unfold Nd.copB
  by_cases h0:n.c.tr=0
  ·simp[h0]
  ·simp[h0,and_assoc]
 have e3:n.snkB=true↔(n.s.tr≠0→n.r.s=3∧n.s.tr=n.r.n∧n.s.ts.length=n.ys.length):=by
  unfold Nd.snkB
  by_cases h0:n.s.tr=0
  ·simp[h0]
  ·simp[h0,and_assoc]
 unfold Nd.ok
 simp only[Bool.and_eq_true,e1,e2,e3,decide_eq_true_eq]
 constructor
 ·rintro⟨⟨⟨⟨⟨⟨⟨⟨⟨a,b⟩,c⟩,d⟩,e⟩,f⟩,g⟩,h1,h2⟩,i⟩,j⟩
  exact⟨a,b,c,d,e,f,g,h1,h2,i,j⟩
 ·rintro⟨a,b,c,d,e,f,g,h1,h2,i,j⟩
  exact⟨⟨⟨⟨⟨⟨⟨⟨⟨a,b⟩,c⟩,d⟩,e⟩,f⟩,g⟩,h1,h2⟩,i⟩,j⟩
theorem chosen_val {xs ys:List Int} (h:bothOk xs ys=true) (set:Int):bothOk (chosenUp xs ys set 8 xs.length) (chosenUp xs ys set 8 xs.length)=true∧(chosenUp xs ys set 8 xs.length).length=ys.length:=by
 unfold bothOk at h
 simp only[Bool.and_eq_true,decide_eq_true_eq]at h
 obtain⟨hx,hy,hl⟩:=h
 have hlen:(chosenUp xs ys set 8 xs.length).length=xs.length:=by simp[chosenUp]
 unfold blocksOk at hx hy
 simp only[Bool.and_eq_true,List.all_eq_true]at hx hy
 have hv:∀(l:List Int),(∀x∈l,valOk x=true)→∀j,valOk (l.getD j 0)=true:=by
  intro l hl j
  rcases Nat.lt_or_ge j l.length with hj|hj
  ·have:=hl _ (List.getElem_mem hj)
   simpa[List.getD,hj]using this
  ·simp[List.getD,List.getElem?_eq_none hj,valOk]
 refine⟨?_,by rw[hlen,hl]⟩
 have hb:blocksOk (chosenUp xs ys set 8 xs.length)=true:=by
  unfold blocksOk
  rw[Bool.and_eq_true,List.all_eq_true,hlen]
  refine⟨fun x hx'=>?_,hx.2⟩
  unfold chosenUp at hx'
  simp only[List.mem_map,List.mem_range]at hx'
  obtain⟨j, -,rfl⟩:=hx'
  split
  ·exact hv ys hy.1 j
  ·exact hv xs hx.1 j
 unfold bothOk
 rw[hb]
 simp
theorem Sn.zero_ok:Sn.zero.ok=true:=by decide
theorem NdR.down {n:Nd} (h:NdR n) (set:Int):NdR (n.down set):=
 ⟨h.id,(chosen_val h.dk set).1,h.h,h.r,h.ll,Cp.zero_ok,Sn.zero_ok,h.lg.down,fun _=>⟨rfl,rfl⟩,fun e=>absurd rfl e,fun e=>absurd rfl e⟩
theorem NdR.note {n:Nd} (h:NdR n) (hu:n.up=true) {q:Rc} (hq:q.ok=true) (hf:(framesB n.log).1.length<2000) {torn:Int} (p:Nd×Bool) (hp:p=n.note q torn):
  (p.2=false∧NdR p.1∧p.1.up=false∧p.1.r=n.r∧p.1.h=n.h∧p.1.id=n.id∧p.1.ys.length=n.ys.length∧p.1.c=Cp.zero∧p.1.s=Sn.zero∧(framesB p.1.log).1.length=(framesB n.log).1.length)∨
  (p.2=true∧p.1={n with log:=n.log++framed (showR q),r:=q}∧LogR p.1.log q true∧p.1.log.length≤40000∧(framesB p.1.log).1.length=(framesB n.log).1.length+1):=by
 have hlg:LogR n.log n.r true:=by have:=h.lg;rwa[hu]at this
 have hlen:=(chosen_val h.dk 0).2
 unfold Nd.note at hp
 split at hp
 ·subst hp
  exact .inl ⟨rfl,h.down 0,rfl,rfl,rfl,rfl,hlen,rfl,rfl,rfl⟩
 ·rename_i hroom
  split at hp
  ·rename_i ht
   subst hp
   have hpos:=framed_pos (showR q)
   have hlt:(framed (showR q)).length-min torn.toNat (framed (showR q)).length<(framed (showR q)).length:=by omega
   obtain⟨l1,l2, -⟩:=hlg.torn hq _ hlt
   have hN:NdR ((n.torn q torn.toNat).down 0):=by
    refine⟨h.id,(chosen_val h.dk 0).1,h.h,h.r,?_,Cp.zero_ok,Sn.zero_ok,l1,fun _=>⟨rfl,rfl⟩,fun e=>absurd rfl e,fun e=>absurd rfl e⟩
    show(n.log++_).length≤40000
    rw[List.length_append,List.length_take]
    omega
   refine .inl ⟨rfl,hN,rfl,rfl,rfl,rfl,hlen,rfl,rfl,?_⟩
   exact congrArg List.length l2
  ·subst hp
   obtain⟨l1,l2⟩:=hlg.noted hq hf
   refine .inr ⟨rfl,rfl,l1,?_,l2⟩
   show(n.log++framed (showR q)).length≤40000
   rw[List.length_append]
   omega
theorem NdR.rise {n:Nd} (h:NdR n):NdR n.rise.1∧n.rise.1.r=n.r∧n.rise.1.h=n.h∧n.rise.1.ys=n.ys∧(framesB n.rise.1.log).1.length≤(framesB n.log).1.length:=by
 unfold Nd.rise
 split
 ·exact⟨h,rfl,rfl,rfl,Nat.le_refl _⟩
 ·rename_i hu
  have hu':n.up=false:=by simpa using hu
  obtain⟨l1,l2⟩:=h.lg.rise
  have hd:=h.dn hu'
  refine⟨⟨h.id,h.dk,h.h,h.r,?_,h.c,h.s,l1,(fun e=>by cases e),h.cp,h.sk⟩,rfl,rfl,rfl,l2⟩
  show(n.log.take _).length≤40000
  rw[List.length_take]
  have:=h.ll
  omega
theorem didI_same (xs ys:List Int) (c:Cm):(didI xs ys c).2.1.length=ys.length:=by
 unfold didI
 split
 ·rfl
 ·split
  ·rfl
  ·split
   ·rfl
   ·split
    ·simp
    ·split
     ·split<;>simp
     ·simp
theorem doing_len (s:Sr) (i:Int) (c:Cm):(s.doing i c).1.ys.length=s.ys.length:=by
 unfold Sr.doing
 split
 ·rfl
 ·split
  ·exact didI_same _ _ _
  ·rfl
theorem doing_ok {s:Sr} {i:Int} {c:Cm} (ok:s.ok=true) (hi:inI i 0 3=true) (hc:c.ok=true):(s.doing i c).1.ok=true:=by
 have:=did_ok (i:=i) (c:=c) ok
 unfold Sr.did at this
 rwa[if_pos ok,hi,hc,if_pos (by rfl)]at this
theorem mark_tr (c:Cp) (i:Int):(c.mark i).tr=c.tr∧(c.mark i).ts=c.ts:=by unfold Cp.mark;split<;>exact⟨rfl,rfl⟩
theorem NdR.ask {n:Nd} (h:NdR n) (who:Int) (b:Bs) (hb:codeC b=0→(readC b).ok=true):
  NdR (n.ask who b).1∧(n.ask who b).1.r=n.r∧(n.ask who b).1.log=n.log∧(n.ask who b).1.up=n.up∧(n.ask who b).1.id=n.id∧(n.ask who b).1.ys.length=n.ys.length:=by
 unfold Nd.ask
 split
 ·exact⟨h,rfl,rfl,rfl,rfl,rfl⟩
 ·rename_i hu
  split
  ·exact⟨h,rfl,rfl,rfl,rfl,rfl⟩
  ·rename_i hcode
   split
   ·exact⟨h,rfl,rfl,rfl,rfl,rfl⟩
   ·split
    ·exact⟨h,rfl,rfl,rfl,rfl,rfl⟩
    ·have hw:inI who 0 3=true:=by
      cases e:inI who 0 3 with
      |true=>rfl
      |false=>rw[e]at hu;simp at hu
     have hup:n.up=true:=by
      cases e:n.up with
      |true=>rfl
      |false=>rw[e]at hu;simp at hu
     have hok:(Sr.mk n.xs n.ys n.h).ok=true:=by unfold Sr.ok;rw[h.dk,h.h];rfl
     have hd:=doing_ok hok hw (hb (by simpa using hcode))
     have hln:=doing_len (Sr.mk n.xs n.ys n.h) who (readC b)
     obtain⟨q,hq⟩:∃q,q=(Sr.mk n.xs n.ys n.h).doing who (readC b):=⟨_,rfl⟩
     rw[←hq]at hd hln
     unfold Sr.ok at hd
     rw[Bool.and_eq_true]at hd
     simp only[←hq]
     have hc:∀v:Bool,(if v then n.c.mark (readC b).p else n.c).ok=true∧(if v then n.c.mark (readC b).p else n.c).tr=n.c.tr∧(if v then n.c.mark (readC b).p else n.c).ts=n.c.ts:=by
      intro v
      cases v with
      |false=>exact⟨h.c,rfl,rfl⟩
      |true=>exact⟨Cp.mark_ok h.c _,mark_tr _ _⟩
     obtain⟨c1,c2,c3⟩:=hc (decide (q.2.st=0)&&(readC b).chg)
     refine⟨⟨h.id,hd.1,hd.2,h.r,h.ll,c1,h.s,h.lg,fun e=>?_,fun e=>?_,fun e=>?_⟩,trivial,trivial,trivial,trivial,hln⟩
     ·rw[hup]at e;cases e
     ·simp only[c2]at e⊢
      have:=h.cp e
      exact⟨this.1,this.2.1,by rw[c3,this.2.2];exact hln.symm⟩
     ·have:=h.sk e
      exact⟨this.1,this.2.1,by rw[this.2.2];exact hln.symm⟩
end Go.Proofs.YthmnmaemnihkeaaDoor
namespace Go.Proofs.YthmnmaemnihkeaaDoor
open Go.ChangeShapes Go.WideShapes Go.ChangeAt Go.RowKit
end Go.Proofs.YthmnmaemnihkeaaDoor
