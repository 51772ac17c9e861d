/- Copiers as plain numbers and lists: when one is right, what is marked, what goes next, what is acknowledged, what goes once more, what is clean. -/
import Derived.Test.YthmnmaemnihkeaaDoorM7
import Derived.Test.YthmnmaemnihkeaaDoorM1
import Derived.Test.YthmnmaemnihkeaaDoorM10
namespace Go.Proofs.YthmnmaemnihkeaaDoor
open Go.RowKit
structure Cp where
 tr:Int
 op:Bool
 di:Int
 wa:Int
 ts:List Int
def turnsI (ts:List Int):Bool:=ts.all (fun t=>inI t 0 1000000000)
def Cp.zero:Cp:=⟨0,false,0,0,[]⟩
def Cp.mid (c:Cp):Bool:=inI c.tr 1 100000&&(turnsI c.ts&&inI c.ts.length 1 8)&&(inI c.di 0 (fullI c.ts.length)&&inI c.wa 0 (fullI c.ts.length))
def Cp.ok (c:Cp):Bool:=if c.tr=0 then(!c.op&&decide (c.di=0)&&decide (c.wa=0)&&decide (c.ts.length=0))else c.mid
def Cp.has (c:Cp) (i:Int):Bool:=decide (0≤i)&&decide (i<(c.ts.length:Int))
def Cp.mark (c:Cp) (i:Int):Cp:=if c.has i then{c with di:=withI c.di i}else c
def Cp.goes (c:Cp):Bool:=c.op&&decide (0≤firstI c.di)&&decide (c.ts.getD (firstI c.di).toNat 0≠1000000000)
def Cp.nx (c:Cp):Int:=if c.goes then firstI c.di else-1
def Cp.next (c:Cp):Cp:=if c.goes then{c with di:=withoutI c.di (firstI c.di),wa:=withI c.wa (firstI c.di),ts:=c.ts.set (firstI c.di).toNat (c.ts.getD (firstI c.di).toNat 0+1)}else c
def Cp.acks (c:Cp) (i t:Int):Bool:=c.has i&&decide (c.ts.getD i.toNat 0=t)&&inB c.wa i
def Cp.ack (c:Cp) (i t:Int):Cp:=if c.acks i t then{c with wa:=withoutI c.wa i}else c
def orI (a b:Int):Int:=((a.toNat|||b.toNat:Nat):Int)
def Cp.again (c:Cp):Cp:={c with di:=orI c.di c.wa,wa:=0}
def Cp.clean (c:Cp):Bool:=c.ok&&c.op&&decide (c.di=0)&&decide (c.wa=0)
def Cp.made (n t:Int):Bool:=inI n 1 8&&inI t 1 100000
def Cp.new (n t:Int):Cp:=if Cp.made n t then⟨t,false,fullI n,0,List.replicate n.toNat 0⟩else Cp.zero
def Cp.Next (c:Cp):Cp:=if c.ok then c.next else Cp.zero
def Cp.Again (c:Cp):Cp:=if c.ok then c.again else Cp.zero
theorem first_sub:∀n:Nat,n<9→∀s:Nat,s<256→(s:Int)≤fullI n→firstI s<n:=by decide+kernel
theorem with_sub:∀n:Nat,n<9→∀s:Nat,s<256→(s:Int)≤fullI n→∀i:Nat,i<n→withI s i≤fullI n∧0≤withI s i:=by decide+kernel
theorem without_sub:∀s:Nat,s<256→∀i:Nat,i<8→withoutI s i≤s∧0≤withoutI s i:=by decide+kernel
theorem full_lt:∀n:Nat,n<9→fullI n<256∧fullI n=((2^n-1:Nat):Int):=by decide+kernel
theorem turns_set {ts:List Int} (h:turnsI ts=true) (j:Nat) {x:Int} (hx:inI x 0 1000000000=true):turnsI (ts.set j x)=true:=by
 unfold turnsI at*
 rw[List.all_eq_true]at*
 intro y hy
 rcases List.mem_or_eq_of_mem_set hy with hy|rfl
 ·exact h y hy
 ·exact hx
theorem turns_at {ts:List Int} (h:turnsI ts=true) (j:Nat):0≤ts.getD j 0∧ts.getD j 0≤1000000000:=by
 rcases Nat.lt_or_ge j ts.length with hj|hj
 ·unfold turnsI at h
  rw[List.all_eq_true]at h
  have:=(inI_iff _ _ _).1 (h _ (List.getElem_mem hj))
  simpa[hj]using this
 ·simp[List.getD_eq_getElem?_getD,List.getElem?_eq_none hj]
structure Cp.Fit (c:Cp):Prop where
 len:c.ts.length≤8
 di0:0≤c.di
 di1:c.di≤fullI c.ts.length
 wa0:0≤c.wa
 wa1:c.wa≤fullI c.ts.length
 turns:turnsI c.ts=true
theorem Cp.fit {c:Cp} (h:c.ok=true):c.Fit:=by
 unfold Cp.ok Cp.mid at h
 by_cases h0:c.tr=0
 ·rw[if_pos h0]at h
  simp only[Bool.and_eq_true,decide_eq_true_eq]at h
  obtain⟨⟨⟨-,h1⟩,h2⟩,h3⟩:=h
  have e:c.ts=[]:=List.length_eq_zero_iff.1 h3
  exact⟨by omega,by omega,by rw[h1,h3];decide,by omega,by rw[h2,h3];decide,by rw[e];rfl⟩
 ·rw[if_neg h0]at h
  simp only[Bool.and_eq_true,inI_iff]at h
  obtain⟨⟨-,h1,h2⟩,⟨h3,h4⟩,h5,h6⟩:=h
  exact⟨by omega,h3,h4,h5,h6,h1⟩
theorem Cp.Fit.d {c:Cp} (h:c.Fit):c.di<256:=by
 have:=(full_lt c.ts.length (by have:=h.len;omega)).1;have:=h.di1;omega
theorem Cp.Fit.w {c:Cp} (h:c.Fit):c.wa<256:=by
 have:=(full_lt c.ts.length (by have:=h.len;omega)).1;have:=h.wa1;omega
theorem Cp.Fit.first {c:Cp} (h:c.Fit):firstI c.di<(c.ts.length:Int):=by
 have h1:=h.di0;have h2:=h.d;have h3:=h.di1;have h4:=h.len
 obtain⟨n,e⟩:=nat_of h1
 rw[e]at h2 h3⊢
 exact first_sub _ (by omega) n (by omega) h3
theorem Cp.ok_of {c d:Cp} (h:c.ok=true) (ht:d.tr=c.tr) (ho:d.op=c.op) (hl:d.ts.length=c.ts.length) (hts:turnsI d.ts=true) (h0:0≤d.di) (h1:d.di≤fullI c.ts.length) (h2:0≤d.wa) (h3:d.wa≤fullI c.ts.length):d.ok=true:=by
 unfold Cp.ok Cp.mid at*
 rw[ht,ho,hl,hts]
 by_cases e:c.tr=0
 ·rw[if_pos e]at h⊢
  simp only[Bool.and_eq_true,decide_eq_true_eq]at h⊢
  rw[h.2]at h1 h3
  have:fullI ((0:Nat):Int)=0:=by decide
  rw[this]at h1 h3
  exact⟨⟨⟨h.1.1.1,by omega⟩,by omega⟩,h.2⟩
 ·rw[if_neg e]at h⊢
  simp only[Bool.and_eq_true,inI_iff]at h⊢
  exact⟨⟨h.1.1,trivial,h.1.2.2⟩,⟨h0,h1⟩,h2,h3⟩
theorem has_iff (c:Cp) (i:Int):c.has i=true↔0≤i∧i<(c.ts.length:Int):=by simp[Cp.has]
theorem Cp.with_fit {c:Cp} (h:c.Fit) {s i:Int} (hs0:0≤s) (hs:s≤fullI c.ts.length) (h0:0≤i) (h1:i<(c.ts.length:Int)):withI s i≤fullI c.ts.length∧0≤withI s i:=by
 have h4:=h.len
 have h5:=(full_lt c.ts.length (by omega)).1
 obtain⟨n,rfl⟩:=nat_of hs0
 obtain⟨k,rfl⟩:=nat_of h0
 exact with_sub _ (by omega) n (by omega) hs k (by omega)
theorem without_fit {s i:Int} (hs0:0≤s) (hs:s<256) (h0:0≤i) (h1:i<8):withoutI s i≤s∧0≤withoutI s i:=by
 obtain⟨n,rfl⟩:=nat_of hs0
 obtain⟨k,rfl⟩:=nat_of h0
 exact without_sub n (by omega) k (by omega)
theorem Cp.mark_ok {c:Cp} (h:c.ok=true) (i:Int):(c.mark i).ok=true:=by
 unfold Cp.mark
 split
 ·rename_i hi
  rw[has_iff]at hi
  have f:=Cp.fit h
  have:=Cp.with_fit f f.di0 f.di1 hi.1 hi.2
  exact Cp.ok_of h rfl rfl rfl f.turns this.2 this.1 f.wa0 f.wa1
 ·exact h
theorem Cp.goes_iff (c:Cp):c.goes=true↔c.op=true∧0≤firstI c.di∧c.ts.getD (firstI c.di).toNat 0≠1000000000:=by simp[Cp.goes,and_assoc]
theorem Cp.next_ok {c:Cp} (h:c.ok=true):c.next.ok=true:=by
 unfold Cp.next
 split
 ·rename_i hi
  rw[Cp.goes_iff]at hi
  have f:=Cp.fit h
  have f1:=f.first
  have f2:=f.len
  have h1:=Cp.with_fit f f.wa0 f.wa1 hi.2.1 f1
  have h2:=without_fit f.di0 f.d hi.2.1 (by omega)
  have h3:=f.di1
  have h4:=turns_at f.turns (firstI c.di).toNat
  have h5:=hi.2.2
  exact Cp.ok_of h rfl rfl (by simp) (turns_set f.turns _ ((inI_iff _ _ _).2 (by omega))) h2.2 (by simp only;omega) h1.2 h1.1
 ·exact h
theorem Cp.zero_ok:Cp.zero.ok=true:=by decide
end Go.Proofs.YthmnmaemnihkeaaDoor
namespace Go.Proofs.YthmnmaemnihkeaaDoor
open Go.RowKit
structure Sn where
 tr:Int
 ts:List Int
def Sn.zero:Sn:=⟨0,[]⟩
def Sn.ok (s:Sn):Bool:=if s.tr=0 then decide (s.ts.length=0)else inI s.tr 1 100000&&(turnsI s.ts&&inI s.ts.length 1 8)
def Sn.fits (s:Sn) (t i n:Int):Bool:=decide (0<s.tr)&&decide (s.tr=t)&&decide (0≤i)&&decide (i<(s.ts.length:Int))&&decide (s.ts.getD i.toNat 0<n)
def Sn.Fits (s:Sn) (t i n:Int):Bool:=s.ok&&s.fits t i n
def Sn.takes (s:Sn) (t i n:Int):Bool:=s.fits t i n&&decide (n≤1000000000)
def Sn.got (s:Sn) (t i n:Int):Sn:=if s.takes t i n then{s with ts:=s.ts.set i.toNat n}else s
def Sn.new (n t:Int):Sn:=if Cp.made n t then⟨t,List.replicate n.toNat 0⟩else Sn.zero
theorem Sn.takes_iff (s:Sn) (t i n:Int):s.takes t i n=true↔0<s.tr∧s.tr=t∧0≤i∧i<(s.ts.length:Int)∧s.ts.getD i.toNat 0<n∧n≤1000000000:=by
 unfold Sn.takes Sn.fits
 simp only[Bool.and_eq_true,decide_eq_true_eq,and_assoc]
theorem Sn.ok_turns {s:Sn} (h:s.ok=true):turnsI s.ts=true:=by
 unfold Sn.ok at h
 split at h
 ·simp only[decide_eq_true_eq]at h
  rw[List.eq_nil_of_length_eq_zero h];rfl
 ·simp only[Bool.and_eq_true]at h
  exact h.2.1
theorem Sn.got_ok {s:Sn} (h:s.ok=true) (t i n:Int):(s.got t i n).ok=true:=by
 unfold Sn.got
 split
 ·rename_i hi
  rw[Sn.takes_iff]at hi
  have ht:=turns_at (Sn.ok_turns h) i.toNat
  unfold Sn.ok at h⊢
  simp only at h⊢
  split
  ·rename_i e;omega
  ·rename_i e
   rw[if_neg e]at h
   simp only[Bool.and_eq_true,List.length_set]at h⊢
   exact⟨h.1,turns_set h.2.1 _ ((inI_iff _ _ _).2 (by omega)),h.2.2⟩
 ·exact h
end Go.Proofs.YthmnmaemnihkeaaDoor
namespace Go.Proofs.YthmnmaemnihkeaaDoor
open Go.RowKit
structure Mg where
 dst:Int
 kd:Int
 tr:Int
 pl:Int
 tn:Int
 va:Int
 ep:Int
 h:Hd
def Mg.zero:Mg:=⟨0,0,0,0,0,0,0,Hd.zero⟩
def Hd.none (h:Hd):Bool:=decide (h.ks.length=0)&&decide (h.kd=0)&&decide (h.ho=0)&&decide (h.tu=0)
def Mg.ok (m:Mg):Bool:=inI m.dst 0 1&&inI m.kd 1 8&&epI m.tr&&itemOk m.pl&&inI m.tn 0 1000000000&&valOk m.va&&epI m.ep&&(m.h.ok||m.h.none)
structure Nd where
 id:Int
 up:Bool
 xs:List Int
 ys:List Int
 h:Hd
 log:Bs
 r:Rc
 c:Cp
 s:Sn
def Nd.zero:Nd:=⟨0,false,[],[],Hd.zero,[],Rc.zero,Cp.zero,Sn.zero⟩
def Nd.logB (n:Nd):Bool:=(recallB n.log).isSome&&sameR (recR (recallB n.log)) n.r&&(!n.up||decide (n.log.take (recAt (recallB n.log))=n.log))&&(n.up||(decide (n.c.tr=0)&&decide (n.s.tr=0)))
def Nd.copB (n:Nd):Bool:=decide (n.c.tr=0)||(decide (n.r.s≠3)&&decide (n.c.tr=n.r.t)&&decide (n.c.ts.length=n.ys.length))
def Nd.snkB (n:Nd):Bool:=decide (n.s.tr=0)||(decide (n.r.s=3)&&decide (n.s.tr=n.r.n)&&decide (n.s.ts.length=n.ys.length))
def Nd.ok (n:Nd):Bool:=(inI n.id 0 1&&bothOk n.xs n.ys&&n.h.ok&&n.r.ok&&decide (n.log.length≤40000)&&n.c.ok&&n.s.ok)&&n.logB&&n.copB&&n.snkB
def Nd.new (id blocks:Int) (owns:Bool):Nd:=
 if cntOk blocks&&inI id 0 1 then
  ⟨id,true,zerosI blocks,zerosI blocks,Hd.new,framed (showR (if owns then⟨1,1,0,0⟩else⟨0,3,0,0⟩)),if owns then⟨1,1,0,0⟩else⟨0,3,0,0⟩,Cp.zero,Sn.zero⟩
 else Nd.zero
def Nd.made (id blocks:Int):Bool:=cntOk blocks&&inI id 0 1
def Nd.down (n:Nd) (set:Int):Nd:={n with up:=false,xs:=chosenUp n.xs n.ys set 8 n.xs.length,ys:=chosenUp n.xs n.ys set 8 n.xs.length,c:=Cp.zero,s:=Sn.zero}
def Nd.torn (n:Nd) (q:Rc) (t:Nat):Nd:={n with log:=n.log++(framed (showR q)).take ((framed (showR q)).length-min t (framed (showR q)).length)}
def Nd.note (n:Nd) (q:Rc) (torn:Int):Nd×Bool:=
 if 40000<n.log.length+(framed (showR q)).length then(n.down 0,false)
 else if 0<torn then((n.torn q torn.toNat).down 0,false)
 else({n with log:=n.log++framed (showR q),r:=q},true)
def Nd.ask (n:Nd) (who:Int) (b:Bs):Nd×An:=
 if !n.up|| !inI who 0 3 then(n,⟨7,[]⟩)
 else if codeC b≠0 then(n,⟨4,decI (codeC b)⟩)
 else if n.r.s=2 then(n,⟨5,[]⟩)
 else if n.r.s=3 then(n,⟨6,[]⟩)
 else
  let q:=(Sr.mk n.xs n.ys n.h).doing who (readC b)
  ({n with xs:=q.1.xs,ys:=q.1.ys,h:=q.1.h,c:=if decide (q.2.st=0)&&(readC b).chg then n.c.mark (readC b).p else n.c},q.2)
def Nd.msg (n:Nd) (k:Int):Mg:=⟨1-n.id,k,n.r.t,0,0,0,0,Hd.zero⟩
def Nd.hand (n:Nd):Mg:={n.msg 5 with ep:=n.r.e,h:=n.h}
def Nd.move (n:Nd) (torn:Int):Nd×List Mg×Bool:=
 let p:=n.note {n.r with t:=n.r.t+1} torn
 if p.2 then({p.1 with c:=Cp.new n.ys.length (n.r.t+1)},[p.1.msg 1],true)else(p.1,[],true)
def Nd.give (n:Nd) (torn:Int):Nd×List Mg×Bool:=
 let p:=({n with xs:=n.ys}:Nd).note {n.r with s:=2} torn
 if p.2 then(p.1,[p.1.hand],true)else(p.1,[],true)
def Nd.copy (n:Nd):Nd×List Mg×Bool:=
 if n.c.nx<0 then(n,[],false)
 else({n with c:=n.c.next},[{n.msg 3 with pl:=n.c.nx,tn:=n.c.next.ts.getD n.c.nx.toNat 0,va:=n.ys.getD n.c.nx.toNat 0}],true)
def Nd.tell (n:Nd) (k torn:Int):Nd×List Mg×Bool:=
 if !n.up then(n,[],false)
 else if k=1∧n.r.s=1∧n.c.tr=0∧n.r.t<100000 then n.move torn
 else if k=2∧n.c.tr≠0 then(if n.c.op then({n with c:=n.c.again},[],true)else(n,[n.msg 1],true))
 else if k=3∧n.c.tr≠0 then n.copy
 else if k=4∧n.r.s=1∧n.c.tr≠0∧n.c.clean=true then n.give torn
 else if k=5∧n.r.s=2 then(n,[n.hand],true)
 else if k=6∧n.r.s=2 then(n,[{n.msg 7 with ep:=n.r.e}],true)
 else if k=6∧n.r.s=1∧n.c.tr≠0 then({n with c:=Cp.zero},[],true)
 else(n,[],false)
def Nd.back (n:Nd) (m:Mg) (k:Int):Mg:=⟨1-n.id,k,m.tr,0,0,0,0,Hd.zero⟩
def Nd.taken (n:Nd) (m:Mg):Mg:={n.back m 6 with ep:=m.ep+1}
def Nd.ready (n:Nd) (m:Mg):Nd×List Mg×Bool:=if m.tr=0∨m.tr≠n.s.tr then(n,[],false)else(n,[n.back m 2],true)
def Nd.begun (n:Nd) (m:Mg) (torn:Int):Nd×List Mg×Bool:=
 if n.r.s≠3 then(n,[],false)
 else if n.r.n<m.tr then
  let p:=n.note {n.r with n:=m.tr} torn
  if p.2 then({p.1 with s:=Sn.new n.ys.length m.tr}:Nd).ready m else(p.1,[],true)
 else n.ready m
def Nd.opened (n:Nd) (m:Mg):Nd×List Mg×Bool:=if n.c.tr=0∨n.c.tr≠m.tr∨n.c.op=true then(n,[],false)else({n with c:={n.c with op:=true}},[],true)
def Nd.copied (n:Nd) (m:Mg):Nd×List Mg×Bool:=
 let is:=n.s.takes m.tr m.pl m.tn
 let q:Nd:=if is then{n with s:=n.s.got m.tr m.pl m.tn,ys:=n.ys.set m.pl.toNat m.va}else n
 if q.s.tr=0∨q.s.tr≠m.tr∨(q.s.ts.length:Int)≤m.pl∨q.s.ts.getD m.pl.toNat 0<m.tn then(q,[],is)
 else(q,[{n.back m 4 with pl:=m.pl,tn:=m.tn}],true)
def Nd.acked (n:Nd) (m:Mg):Nd×List Mg×Bool:=if n.c.tr≠0∧n.c.tr=m.tr then({n with c:=n.c.ack m.pl m.tn},[],n.c.acks m.pl m.tn)else(n,[],false)
def Nd.handed (n:Nd) (m:Mg) (torn:Int):Nd×List Mg×Bool:=
 if m.h.ok=false∨m.ep=100000 then(n,[],false)
 else if n.s.tr≠0∧n.s.tr=m.tr∧n.r.e≤m.ep then
  let p:=({n with xs:=n.ys,h:=m.h}:Nd).note {n.r with e:=m.ep+1,s:=1} torn
  if p.2 then({p.1 with s:=Sn.zero},[n.taken m],true)else(p.1,[],true)
 else if m.ep<n.r.e then(n,[n.taken m],true)
 else(n,[],false)
def Nd.mine (n:Nd) (m:Mg):Bool:=decide (n.r.s=2)&&decide (n.r.t=m.tr)
def Nd.gone (n:Nd) (m:Mg) (torn:Int):Nd×List Mg×Bool:=
 if n.mine m=true∧n.r.e<m.ep then
  let p:=n.note {n.r with e:=m.ep,s:=3} torn
  (if p.2 then{p.1 with c:=Cp.zero}else p.1,[],true)
 else(n,[],false)
def Nd.cancelled (n:Nd) (m:Mg) (torn:Int):Nd×List Mg×Bool:=
 if m.ep<n.r.e then(n,[n.taken m],true)
 else if n.r.s≠3 then(n,[],false)
 else if n.r.n<m.tr then
  let p:=({n with s:=Sn.zero}:Nd).note {n.r with n:=m.tr} torn
  if p.2 then(p.1,[n.back m 8],true)else(p.1,[],true)
 else(if n.s.tr=m.tr then{n with s:=Sn.zero}else n,[n.back m 8],true)
def Nd.kept (n:Nd) (m:Mg) (torn:Int):Nd×List Mg×Bool:=
 if n.mine m=true then
  let p:=n.note {n.r with s:=1} torn
  (if p.2 then{p.1 with c:=Cp.zero}else p.1,[],true)
 else(n,[],false)
def Nd.hear (n:Nd) (m:Mg) (torn:Int):Nd×List Mg×Bool:=
 if n.up=false∨m.ok=false∨m.dst≠n.id then(n,[],false)
 else if m.kd=1 then n.begun m torn
 else if m.kd=2 then n.opened m
 else if m.kd=3 then n.copied m
 else if m.kd=4 then n.acked m
 else if m.kd=5 then n.handed m torn
 else if m.kd=6 then n.gone m torn
 else if m.kd=7 then n.cancelled m torn
 else n.kept m torn
def Nd.rise (n:Nd):Nd×Bool:=if n.up then(n,false)else({n with up:=true,log:=n.log.take (recAt (recallB n.log))},true)
def Nd.Rise (n:Nd):Nd×Bool:=if n.ok then n.rise else(Nd.zero,false)
end Go.Proofs.YthmnmaemnihkeaaDoor
