/- Sinks as plain numbers and lists: when one is right, what fits it, what it is when something was received. -/
import Derived.Test.YtflbcjgkdokhiaaGreatDoorM10
import Derived.Test.YtflbcjgkdokhiaaGreatDoorM7
import Derived.Test.YtflbcjgkdokhiaaGreatDoorRows
import Derived.Test.YtflbcjgkdokhiaaGreatDoorM1
import Derived.WalkKit
import Derived.ProofKit
import Derived.OpenShut
namespace Go.Proofs.YtflbcjgkdokhiaaGreatDoor
open Go.RowKit
structure Sn where
 tr:Int
 ts:List Int
def Sn.zero:Sn:=⟨0,[]⟩
def Sn.ok (s:Sn):Bool:=if s.tr=0 then decide (s.ts.length=0)else inI s.tr 1 100000&&(turnsI s.ts&&inI s.ts.length 1 8)
def Sn.fits (s:Sn) (t i n:Int):Bool:=decide (0<s.tr)&&decide (s.tr=t)&&decide (0≤i)&&decide (i<(s.ts.length:Int))&&decide (s.ts.getD i.toNat 0<n)
def Sn.Fits (s:Sn) (t i n:Int):Bool:=s.ok&&s.fits t i n
def Sn.takes (s:Sn) (t i n:Int):Bool:=s.fits t i n&&decide (n≤1000000000)
def Sn.got (s:Sn) (t i n:Int):Sn:=if s.takes t i n then{s with ts:=s.ts.set i.toNat n}else s
def Sn.new (n t:Int):Sn:=if Cp.made n t then⟨t,List.replicate n.toNat 0⟩else Sn.zero
theorem Sn.takes_iff (s:Sn) (t i n:Int):s.takes t i n=true↔0<s.tr∧s.tr=t∧0≤i∧i<(s.ts.length:Int)∧s.ts.getD i.toNat 0<n∧n≤1000000000:=by
 unfold Sn.takes Sn.fits
 simp only[Bool.and_eq_true,decide_eq_true_eq,and_assoc]
theorem Sn.ok_turns {s:Sn} (h:s.ok=true):turnsI s.ts=true:=by
 unfold Sn.ok at h
 split at h
 ·simp only[decide_eq_true_eq]at h
  rw[List.eq_nil_of_length_eq_zero h];rfl
 ·simp only[Bool.and_eq_true]at h
  exact h.2.1
theorem Sn.got_ok {s:Sn} (h:s.ok=true) (t i n:Int):(s.got t i n).ok=true:=by
 unfold Sn.got
 split
 ·rename_i hi
  rw[Sn.takes_iff]at hi
  have ht:=turns_at (Sn.ok_turns h) i.toNat
  unfold Sn.ok at h⊢
  simp only at h⊢
  split
  ·rename_i e;omega
  ·rename_i e
   rw[if_neg e]at h
   simp only[Bool.and_eq_true,List.length_set]at h⊢
   exact⟨h.1,turns_set h.2.1 _ ((inI_iff _ _ _).2 (by omega)),h.2.2⟩
 ·exact h
end Go.Proofs.YtflbcjgkdokhiaaGreatDoor
namespace Go.Proofs.YtflbcjgkdokhiaaGreatDoor
open Go.RowKit
structure Mg where
 dst:Int
 kd:Int
 tr:Int
 pl:Int
 tn:Int
 va:Int
 ep:Int
 h:Hd
def Mg.zero:Mg:=⟨0,0,0,0,0,0,0,Hd.zero⟩
def Hd.none (h:Hd):Bool:=decide (h.ks.length=0)&&decide (h.kd=0)&&decide (h.ho=0)&&decide (h.tu=0)
def Mg.ok (m:Mg):Bool:=inI m.dst 0 1&&inI m.kd 1 8&&epI m.tr&&itemOk m.pl&&inI m.tn 0 1000000000&&valOk m.va&&epI m.ep&&(m.h.ok||m.h.none)
structure Nd where
 id:Int
 up:Bool
 xs:List Int
 ys:List Int
 h:Hd
 log:Bs
 r:Rc
 c:Cp
 s:Sn
def Nd.zero:Nd:=⟨0,false,[],[],Hd.zero,[],Rc.zero,Cp.zero,Sn.zero⟩
def Nd.logB (n:Nd):Bool:=(recallB n.log).isSome&&sameR (recR (recallB n.log)) n.r&&(!n.up||decide (n.log.take (recAt (recallB n.log))=n.log))&&(n.up||(decide (n.c.tr=0)&&decide (n.s.tr=0)))
def Nd.copB (n:Nd):Bool:=decide (n.c.tr=0)||(decide (n.r.s≠3)&&decide (n.c.tr=n.r.t)&&decide (n.c.ts.length=n.ys.length))
def Nd.snkB (n:Nd):Bool:=decide (n.s.tr=0)||(decide (n.r.s=3)&&decide (n.s.tr=n.r.n)&&decide (n.s.ts.length=n.ys.length))
def Nd.ok (n:Nd):Bool:=(inI n.id 0 1&&bothOk n.xs n.ys&&n.h.ok&&n.r.ok&&decide (n.log.length≤40000)&&n.c.ok&&n.s.ok)&&n.logB&&n.copB&&n.snkB
def Nd.new (id blocks:Int) (owns:Bool):Nd:=
 if cntOk blocks&&inI id 0 1 then
  ⟨id,true,zerosI blocks,zerosI blocks,Hd.new,framed (showR (if owns then⟨1,1,0,0⟩else⟨0,3,0,0⟩)),if owns then⟨1,1,0,0⟩else⟨0,3,0,0⟩,Cp.zero,Sn.zero⟩
 else Nd.zero
def Nd.made (id blocks:Int):Bool:=cntOk blocks&&inI id 0 1
def Nd.down (n:Nd) (set:Int):Nd:={n with up:=false,xs:=chosenUp n.xs n.ys set 8 n.xs.length,ys:=chosenUp n.xs n.ys set 8 n.xs.length,c:=Cp.zero,s:=Sn.zero}
def Nd.torn (n:Nd) (q:Rc) (t:Nat):Nd:={n with log:=n.log++(framed (showR q)).take ((framed (showR q)).length-min t (framed (showR q)).length)}
def Nd.note (n:Nd) (q:Rc) (torn:Int):Nd×Bool:=
 if 40000<n.log.length+(framed (showR q)).length then(n.down 0,false)
 else if 0<torn then((n.torn q torn.toNat).down 0,false)
 else({n with log:=n.log++framed (showR q),r:=q},true)
def Nd.ask (n:Nd) (who:Int) (b:Bs):Nd×An:=
 if !n.up|| !inI who 0 3 then(n,⟨7,[]⟩)
 else if codeC b≠0 then(n,⟨4,decI (codeC b)⟩)
 else if n.r.s=2 then(n,⟨5,[]⟩)
 else if n.r.s=3 then(n,⟨6,[]⟩)
 else
  let q:=(Sr.mk n.xs n.ys n.h).doing who (readC b)
  ({n with xs:=q.1.xs,ys:=q.1.ys,h:=q.1.h,c:=if decide (q.2.st=0)&&(readC b).chg then n.c.mark (readC b).p else n.c},q.2)
def Nd.msg (n:Nd) (k:Int):Mg:=⟨1-n.id,k,n.r.t,0,0,0,0,Hd.zero⟩
def Nd.hand (n:Nd):Mg:={n.msg 5 with ep:=n.r.e,h:=n.h}
def Nd.move (n:Nd) (torn:Int):Nd×List Mg×Bool:=
 let p:=n.note {n.r with t:=n.r.t+1} torn
 if p.2 then({p.1 with c:=Cp.new n.ys.length (n.r.t+1)},[p.1.msg 1],true)else(p.1,[],true)
def Nd.give (n:Nd) (torn:Int):Nd×List Mg×Bool:=
 let p:=({n with xs:=n.ys}:Nd).note {n.r with s:=2} torn
 if p.2 then(p.1,[p.1.hand],true)else(p.1,[],true)
def Nd.copy (n:Nd):Nd×List Mg×Bool:=
 if n.c.nx<0 then(n,[],false)
 else({n with c:=n.c.next},[{n.msg 3 with pl:=n.c.nx,tn:=n.c.next.ts.getD n.c.nx.toNat 0,va:=n.ys.getD n.c.nx.toNat 0}],true)
def Nd.tell (n:Nd) (k torn:Int):Nd×List Mg×Bool:=
 if !n.up then(n,[],false)
 else if k=1∧n.r.s=1∧n.c.tr=0∧n.r.t<100000 then n.move torn
 else if k=2∧n.c.tr≠0 then(if n.c.op then({n with c:=n.c.again},[],true)else(n,[n.msg 1],true))
 else if k=3∧n.c.tr≠0 then n.copy
 else if k=4∧n.r.s=1∧n.c.tr≠0∧n.c.clean=true then n.give torn
 else if k=5∧n.r.s=2 then(n,[n.hand],true)
 else if k=6∧n.r.s=2 then(n,[{n.msg 7 with ep:=n.r.e}],true)
 else if k=6∧n.r.s=1∧n.c.tr≠0 then({n with c:=Cp.zero},[],true)
 else(n,[],false)
def Nd.back (n:Nd) (m:Mg) (k:Int):Mg:=⟨1-n.id,k,m.tr,0,0,0,0,Hd.zero⟩
def Nd.taken (n:Nd) (m:Mg):Mg:={n.back m 6 with ep:=m.ep+1}
def Nd.ready (n:Nd) (m:Mg):Nd×List Mg×Bool:=if m.tr=0∨m.tr≠n.s.tr then(n,[],false)else(n,[n.back m 2],true)
def Nd.begun (n:Nd) (m:Mg) (torn:Int):Nd×List Mg×Bool:=
 if n.r.s≠3 then(n,[],false)
 else if n.r.n<m.tr then
  let p:=n.note {n.r with n:=m.tr} torn
  if p.2 then({p.1 with s:=Sn.new n.ys.length m.tr}:Nd).ready m else(p.1,[],true)
 else n.ready m
def Nd.opened (n:Nd) (m:Mg):Nd×List Mg×Bool:=if n.c.tr=0∨n.c.tr≠m.tr∨n.c.op=true then(n,[],false)else({n with c:={n.c with op:=true}},[],true)
def Nd.copied (n:Nd) (m:Mg):Nd×List Mg×Bool:=
 let is:=n.s.takes m.tr m.pl m.tn
 let q:Nd:=if is then{n with s:=n.s.got m.tr m.pl m.tn,ys:=n.ys.set m.pl.toNat m.va}else n
 if q.s.tr=0∨q.s.tr≠m.tr∨(q.s.ts.length:Int)≤m.pl∨q.s.ts.getD m.pl.toNat 0<m.tn then(q,[],is)
 else(q,[{n.back m 4 with pl:=m.pl,tn:=m.tn}],true)
def Nd.acked (n:Nd) (m:Mg):Nd×List Mg×Bool:=if n.c.tr≠0∧n.c.tr=m.tr then({n with c:=n.c.ack m.pl m.tn},[],n.c.acks m.pl m.tn)else(n,[],false)
def Nd.handed (n:Nd) (m:Mg) (torn:Int):Nd×List Mg×Bool:=
 if m.h.ok=false∨m.ep=100000 then(n,[],false)
 else if n.s.tr≠0∧n.s.tr=m.tr∧n.r.e≤m.ep then
  let p:=({n with xs:=n.ys,h:=m.h}:Nd).note {n.r with e:=m.ep+1,s:=1} torn
  if p.2 then({p.1 with s:=Sn.zero},[n.taken m],true)else(p.1,[],true)
 else if m.ep<n.r.e then(n,[n.taken m],true)
 else(n,[],false)
def Nd.mine (n:Nd) (m:Mg):Bool:=decide (n.r.s=2)&&decide (n.r.t=m.tr)
def Nd.gone (n:Nd) (m:Mg) (torn:Int):Nd×List Mg×Bool:=
 if n.mine m=true∧n.r.e<m.ep then
  let p:=n.note {n.r with e:=m.ep,s:=3} torn
  (if p.2 then{p.1 with c:=Cp.zero}else p.1,[],true)
 else(n,[],false)
def Nd.cancelled (n:Nd) (m:Mg) (torn:Int):Nd×List Mg×Bool:=
 if m.ep<n.r.e then(n,[n.taken m],true)
 else if n.r.s≠3 then(n,[],false)
 else if n.r.n<m.tr then
  let p:=({n with s:=Sn.zero}:Nd).note {n.r with n:=m.tr} torn
  if p.2 then(p.1,[n.back m 8],true)else(p.1,[],true)
 else(if n.s.tr=m.tr then{n with s:=Sn.zero}else n,[n.back m 8],true)
def Nd.kept (n:Nd) (m:Mg) (torn:Int):Nd×List Mg×Bool:=
 if n.mine m=true then
  let p:=n.note {n.r with s:=1} torn
  (if p.2 then{p.1 with c:=Cp.zero}else p.1,[],true)
 else(n,[],false)
def Nd.hear (n:Nd) (m:Mg) (torn:Int):Nd×List Mg×Bool:=
 if n.up=false∨m.ok=false∨m.dst≠n.id then(n,[],false)
 else if m.kd=1 then n.begun m torn
 else if m.kd=2 then n.opened m
 else if m.kd=3 then n.copied m
 else if m.kd=4 then n.acked m
 else if m.kd=5 then n.handed m torn
 else if m.kd=6 then n.gone m torn
 else if m.kd=7 then n.cancelled m torn
 else n.kept m torn
def Nd.rise (n:Nd):Nd×Bool:=if n.up then(n,false)else({n with up:=true,log:=n.log.take (recAt (recallB n.log))},true)
def Nd.Rise (n:Nd):Nd×Bool:=if n.ok then n.rise else(Nd.zero,false)
end Go.Proofs.YtflbcjgkdokhiaaGreatDoor
namespace Go.Proofs.YtflbcjgkdokhiaaGreatDoor
open Go.RowKit
theorem sameR_iff (a b:Rc):sameR a b=true↔a=b:=by
 obtain⟨a1,a2,a3,a4⟩:=a
 obtain⟨b1,b2,b3,b4⟩:=b
 simp[sameR,and_assoc]
structure NdR (n:Nd):Prop where
 id:inI n.id 0 1=true
 dk:bothOk n.xs n.ys=true
 h:n.h.ok=true
 r:n.r.ok=true
 ll:n.log.length≤40000
 c:n.c.ok=true
 s:n.s.ok=true
 lg:LogR n.log n.r n.up
 dn:n.up=false→n.c.tr=0∧n.s.tr=0
 cp:n.c.tr≠0→n.r.s≠3∧n.c.tr=n.r.t∧n.c.ts.length=n.ys.length
 sk:n.s.tr≠0→n.r.s=3∧n.s.tr=n.r.n∧n.s.ts.length=n.ys.length
theorem take_all (s:Bs) (k:Nat) (h:k≤s.length):s.take k=s↔k=s.length:=by
 constructor
 ·intro e
  have:=congrArg List.length e
  rw[List.length_take]at this
  omega
 ·rintro rfl
  exact List.take_length
theorem Nd.ok_iff (n:Nd):n.ok=true↔NdR n:=by
 have hl:=recall_le n.log
 have e1:n.logB=true↔LogR n.log n.r n.up∧(n.up=false→n.c.tr=0∧n.s.tr=0):=by
  unfold Nd.logB
  simp only[Bool.and_eq_true,sameR_iff]
  constructor
  ·rintro⟨⟨⟨a,b⟩,c⟩,d⟩
   refine⟨⟨a,b,fun hu=>?_⟩,fun hu=>?_⟩
   ·rw[hu]at c
    simp only[Bool.not_true,Bool.false_or,decide_eq_true_eq]at c
    exact(take_all _ _ hl).1 c
   ·rw[hu]at d
    simpa using d
  ·rintro⟨⟨a,b,c⟩,d⟩
   refine⟨⟨⟨a,b⟩,?_⟩,?_⟩
   ·cases hu:n.up with
    |false=>rfl
    |true=>
     simp only[Bool.not_true,Bool.false_or,decide_eq_true_eq]
     exact(take_all _ _ hl).2 (c hu)
   ·cases hu:n.up with
    |true=>rfl
    |false=>simpa using d hu
 have e2:n.copB=true↔(n.c.tr≠0→n.r.s≠3∧n.c.tr=n.r.t∧n.c.ts.length=n.ys.length):=by
  unfold Nd.copB
  by_cases h0:n.c.tr=0
  ·simp[h0]
  ·simp[h0,and_assoc]
 have e3:n.snkB=true↔(n.s.tr≠0→n.r.s=3∧n.s.tr=n.r.n∧n.s.ts.length=n.ys.length):=by
  unfold Nd.snkB
  by_cases h0:n.s.tr=0
  ·simp[h0]
  ·simp[h0,and_assoc]
 unfold Nd.ok
 simp only[Bool.and_eq_true,e1,e2,e3,decide_eq_true_eq]
 constructor
 ·rintro⟨⟨⟨⟨⟨⟨⟨⟨⟨a,b⟩,c⟩,d⟩,e⟩,f⟩,g⟩,h1,h2⟩,i⟩,j⟩
  exact⟨a,b,c,d,e,f,g,h1,h2,i,j⟩
 ·rintro⟨a,b,c,d,e,f,g,h1,h2,i,j⟩
  exact⟨⟨⟨⟨⟨⟨⟨⟨⟨a,b⟩,c⟩,d⟩,e⟩,f⟩,g⟩,h1,h2⟩,i⟩,j⟩
theorem chosen_val {xs ys:List Int} (h:bothOk xs ys=true) (set:Int):bothOk (chosenUp xs ys set 8 xs.length) (chosenUp xs ys set 8 xs.length)=true∧(chosenUp xs ys set 8 xs.length).length=ys.length:=by
 unfold bothOk at h
 simp only[Bool.and_eq_true,decide_eq_true_eq]at h
 obtain⟨hx,hy,hl⟩:=h
 have hlen:(chosenUp xs ys set 8 xs.length).length=xs.length:=by simp[chosenUp]
 unfold blocksOk at hx hy
 simp only[Bool.and_eq_true,List.all_eq_true]at hx hy
 have hv:∀(l:List Int),(∀x∈l,valOk x=true)→∀j,valOk (l.getD j 0)=true:=by
  intro l hl j
  rcases Nat.lt_or_ge j l.length with hj|hj
  ·have:=hl _ (List.getElem_mem hj)
   simpa[List.getD,hj]using this
  ·simp[List.getD,List.getElem?_eq_none hj,valOk]
 refine⟨?_,by rw[hlen,hl]⟩
 have hb:blocksOk (chosenUp xs ys set 8 xs.length)=true:=by
  unfold blocksOk
  rw[Bool.and_eq_true,List.all_eq_true,hlen]
  refine⟨fun x hx'=>?_,hx.2⟩
  unfold chosenUp at hx'
  simp only[List.mem_map,List.mem_range]at hx'
  obtain⟨j, -,rfl⟩:=hx'
  split
  ·exact hv ys hy.1 j
  ·exact hv xs hx.1 j
 unfold bothOk
 rw[hb]
 simp
theorem Sn.zero_ok:Sn.zero.ok=true:=by decide
theorem NdR.down {n:Nd} (h:NdR n) (set:Int):NdR (n.down set):=
 ⟨h.id,(chosen_val h.dk set).1,h.h,h.r,h.ll,Cp.zero_ok,Sn.zero_ok,h.lg.down,fun _=>⟨rfl,rfl⟩,fun e=>absurd rfl e,fun e=>absurd rfl e⟩
theorem NdR.note {n:Nd} (h:NdR n) (hu:n.up=true) {q:Rc} (hq:q.ok=true) (hf:(framesB n.log).1.length<2000) {torn:Int} (p:Nd×Bool) (hp:p=n.note q torn):
  (p.2=false∧NdR p.1∧p.1.up=false∧p.1.r=n.r∧p.1.h=n.h∧p.1.id=n.id∧p.1.ys.length=n.ys.length∧p.1.c=Cp.zero∧p.1.s=Sn.zero∧(framesB p.1.log).1.length=(framesB n.log).1.length)∨
  (p.2=true∧p.1={n with log:=n.log++framed (showR q),r:=q}∧LogR p.1.log q true∧p.1.log.length≤40000∧(framesB p.1.log).1.length=(framesB n.log).1.length+1):=by
 have hlg:LogR n.log n.r true:=by have:=h.lg;rwa[hu]at this
 have hlen:=(chosen_val h.dk 0).2
 unfold Nd.note at hp
 split at hp
 ·subst hp
  exact .inl ⟨rfl,h.down 0,rfl,rfl,rfl,rfl,hlen,rfl,rfl,rfl⟩
 ·rename_i hroom
  split at hp
  ·rename_i ht
   subst hp
   have hpos:=framed_pos (showR q)
   have hlt:(framed (showR q)).length-min torn.toNat (framed (showR q)).length<(framed (showR q)).length:=by omega
   obtain⟨l1,l2, -⟩:=hlg.torn hq _ hlt
   have hN:NdR ((n.torn q torn.toNat).down 0):=by
    refine⟨h.id,(chosen_val h.dk 0).1,h.h,h.r,?_,Cp.zero_ok,Sn.zero_ok,l1,fun _=>⟨rfl,rfl⟩,fun e=>absurd rfl e,fun e=>absurd rfl e⟩
    show(n.log++_).length≤40000
    rw[List.length_append,List.length_take]
    omega
   refine .inl ⟨rfl,hN,rfl,rfl,rfl,rfl,hlen,rfl,rfl,?_⟩
   exact congrArg List.length l2
  ·subst hp
   obtain⟨l1,l2⟩:=hlg.noted hq hf
   refine .inr ⟨rfl,rfl,l1,?_,l2⟩
   show(n.log++framed (showR q)).length≤40000
   rw[List.length_append]
   omega
theorem NdR.rise {n:Nd} (h:NdR n):NdR n.rise.1∧n.rise.1.r=n.r∧n.rise.1.h=n.h∧n.rise.1.ys=n.ys∧(framesB n.rise.1.log).1.length≤(framesB n.log).1.length:=by
 unfold Nd.rise
 split
 ·exact⟨h,rfl,rfl,rfl,Nat.le_refl _⟩
 ·rename_i hu
  have hu':n.up=false:=by simpa using hu
  obtain⟨l1,l2⟩:=h.lg.rise
  have hd:=h.dn hu'
  refine⟨⟨h.id,h.dk,h.h,h.r,?_,h.c,h.s,l1,(fun e=>by cases e),h.cp,h.sk⟩,rfl,rfl,rfl,l2⟩
  show(n.log.take _).length≤40000
  rw[List.length_take]
  have:=h.ll
  omega
theorem didI_same (xs ys:List Int) (c:Cm):(didI xs ys c).2.1.length=ys.length:=by
 unfold didI
 split
 ·rfl
 ·split
  ·rfl
  ·split
   ·rfl
   ·split
    ·simp
    ·split
     ·split<;>simp
     ·simp
theorem doing_len (s:Sr) (i:Int) (c:Cm):(s.doing i c).1.ys.length=s.ys.length:=by
 unfold Sr.doing
 split
 ·rfl
 ·split
  ·exact didI_same _ _ _
  ·rfl
theorem doing_ok {s:Sr} {i:Int} {c:Cm} (ok:s.ok=true) (hi:inI i 0 3=true) (hc:c.ok=true):(s.doing i c).1.ok=true:=by
 have:=did_ok (i:=i) (c:=c) ok
 unfold Sr.did at this
 rwa[if_pos ok,hi,hc,if_pos (by rfl)]at this
theorem mark_tr (c:Cp) (i:Int):(c.mark i).tr=c.tr∧(c.mark i).ts=c.ts:=by unfold Cp.mark;split<;>exact⟨rfl,rfl⟩
theorem NdR.ask {n:Nd} (h:NdR n) (who:Int) (b:Bs) (hb:codeC b=0→(readC b).ok=true):
  NdR (n.ask who b).1∧(n.ask who b).1.r=n.r∧(n.ask who b).1.log=n.log∧(n.ask who b).1.up=n.up∧(n.ask who b).1.id=n.id∧(n.ask who b).1.ys.length=n.ys.length:=by
 unfold Nd.ask
 split
 ·exact⟨h,rfl,rfl,rfl,rfl,rfl⟩
 ·rename_i hu
  split
  ·exact⟨h,rfl,rfl,rfl,rfl,rfl⟩
  ·rename_i hcode
   split
   ·exact⟨h,rfl,rfl,rfl,rfl,rfl⟩
   ·split
    ·exact⟨h,rfl,rfl,rfl,rfl,rfl⟩
    ·have hw:inI who 0 3=true:=by
      cases e:inI who 0 3 with
      |true=>rfl
      |false=>rw[e]at hu;simp at hu
     have hup:n.up=true:=by
      cases e:n.up with
      |true=>rfl
      |false=>rw[e]at hu;simp at hu
     have hok:(Sr.mk n.xs n.ys n.h).ok=true:=by unfold Sr.ok;rw[h.dk,h.h];rfl
     have hd:=doing_ok hok hw (hb (by simpa using hcode))
     have hln:=doing_len (Sr.mk n.xs n.ys n.h) who (readC b)
     obtain⟨q,hq⟩:∃q,q=(Sr.mk n.xs n.ys n.h).doing who (readC b):=⟨_,rfl⟩
     rw[←hq]at hd hln
     unfold Sr.ok at hd
     rw[Bool.and_eq_true]at hd
     simp only[←hq]
     have hc:∀v:Bool,(if v then n.c.mark (readC b).p else n.c).ok=true∧(if v then n.c.mark (readC b).p else n.c).tr=n.c.tr∧(if v then n.c.mark (readC b).p else n.c).ts=n.c.ts:=by
      intro v
      cases v with
      |false=>exact⟨h.c,rfl,rfl⟩
      |true=>exact⟨Cp.mark_ok h.c _,mark_tr _ _⟩
     obtain⟨c1,c2,c3⟩:=hc (decide (q.2.st=0)&&(readC b).chg)
     refine⟨⟨h.id,hd.1,hd.2,h.r,h.ll,c1,h.s,h.lg,fun e=>?_,fun e=>?_,fun e=>?_⟩,trivial,trivial,trivial,trivial,hln⟩
     ·rw[hup]at e;cases e
     ·simp only[c2]at e⊢
      have:=h.cp e
      exact⟨this.1,this.2.1,by rw[c3,this.2.2];exact hln.symm⟩
     ·have:=h.sk e
      exact⟨this.1,this.2.1,by rw[this.2.2];exact hln.symm⟩
end Go.Proofs.YtflbcjgkdokhiaaGreatDoor
set_option maxRecDepth 20000
set_option maxHeartbeats 400000
namespace Go.Proofs.YtflbcjgkdokhiaaGreatDoor
open Go.ChangeShapes Go.WideShapes Go.ChangeAt Go.RowKit
theorem full_wrap (n:Int) (h0:0≤n) (h1:n≤8):wrap64 (wrap64 (2^n.toNat)-1)=fullI n:=by
 have a:∀k:Nat,k<9→wrap64 (wrap64 (2^k)-1)=2^k-1:=by decide+kernel
 simp only[fullI,h0,h1,and_self,if_true]
 exact a n.toNat (by omega)
theorem fullI_no (n:Int) (h:n<0∨8<n):fullI n= -1:=by
 unfold fullI;rw[if_neg (by omega)]
theorem full_any (n:Int) (w:World):
  Calls Tryz.prog 135 #[.int .i64 n] w fun e w'=>e=.returned (.int .i64 (fullI n))∧w'=w:=by
 by_cases h0:0≤n
 ·by_cases h1:n≤8
  ·go_enter Tryz.func135,Tryz.ntmps135
   go_wp2
   go_ret
   exact⟨ret_int (full_wrap n h0 h1),rfl⟩
  ·rw[fullI_no n (by omega)]
   go_enter Tryz.func135,Tryz.ntmps135
   go_wp2
   go_ret
   exact⟨rfl,rfl⟩
 ·rw[fullI_no n (by omega)]
  go_enter Tryz.func135,Tryz.ntmps135
  go_wp2
  go_ret
  exact⟨rfl,rfl⟩
theorem sfull_any (n:Int) (w:World):
  Calls Tryz.prog 76 #[.int .i64 n] w fun e w'=>e=.returned (.int .i64 (fullI n))∧w'=w:=by
 by_cases h0:0≤n
 ·by_cases h1:n≤8
  ·go_enter Tryz.func76,Tryz.ntmps76
   go_wp2
   go_ret
   exact⟨ret_int (full_wrap n h0 h1),rfl⟩
  ·rw[fullI_no n (by omega)]
   go_enter Tryz.func76,Tryz.ntmps76
   go_wp2
   go_ret
   exact⟨rfl,rfl⟩
 ·rw[fullI_no n (by omega)]
  go_enter Tryz.func76,Tryz.ntmps76
  go_wp2
  go_ret
  exact⟨rfl,rfl⟩
end Go.Proofs.YtflbcjgkdokhiaaGreatDoor
