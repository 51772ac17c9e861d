/- What of right houses is right, plainly: a house stays right, whatever it is asked, told, hears, and however it falls and rises. -/
import Derived.Test.YthldeiojlllkdaaGreatDoorM1
import Derived.Test.YthldeiojlllkdaaGreatDoorM7
import Derived.Test.YthldeiojlllkdaaGreatDoorRows
import Derived.WalkKit
import Derived.ProofKit
import Derived.OpenShut
import Derived.Laws.Tables
import Derived.Laws.ResultCell
set_option maxRecDepth 20000
set_option maxHeartbeats 400000
namespace Go.Proofs.YthldeiojlllkdaaGreatDoor
open Go.ChangeShapes Go.WideShapes Go.ChangeAt Go.RowKit
section
open Go.RowKit
theorem mg (a b:Rc):d8 a b=true↔a=b:=by
 obtain⟨a1,a2,a3,a4⟩:=a;obtain⟨b1,b2,b3,b4⟩:=b;simp[d8,and_assoc]
structure NdR (n:Nd):Prop where
 id:inI n.id 0 1=true
 dk:au n.xs n.ys=true
 h:n.h.ok=true
 r:n.r.ok=true
 ll:n.log.length<=40000
 c:n.c.ok=true
 s:n.s.ok=true
 lg:iw n.log n.r n.up
 dn:n.up=false->n.c.tr=0/\n.s.tr=0
 cp:n.c.tr≠0->n.r.s≠3/\n.c.tr=n.r.t/\n.c.ts.length=n.ys.length
 sk:n.s.tr≠0->n.r.s=3/\n.s.tr=n.r.n/\n.s.ts.length=n.ys.length
theorem lx (s:Bs) (k:Nat) (h:k<=s.length):s.take k=s↔k=s.length:=by
 constructor
 ·intro e
  have:=congrArg List.length e;rw[List.length_take]at this;omega
 ·rintro rfl
  exact List.take_length
theorem Nd.ok_iff (n:Nd):n.ok=true↔NdR n:=by
 have hl:=jB n.log;have e1:n.logB=true↔iw n.log n.r n.up/\(n.up=false->n.c.tr=0/\n.s.tr=0):=by
  unfold Nd.logB;simp only[Bool.and_eq_true,mg];constructor
  ·rintro⟨⟨⟨a,b⟩,c⟩,d⟩
   refine⟨⟨a,b,fun hu=>?_⟩,fun hu=>?_⟩
   ·rw[hu]at c
    simp only[Bool.not_true,Bool.false_or,decide_eq_true_eq]at c;exact(lx _ _ hl).1 c
   ·rw[hu]at d
    simpa using d
  ·rintro⟨⟨a,b,c⟩,d⟩
   refine⟨⟨⟨a,b⟩,?_⟩,?_⟩
   ·cases hu:n.up with
    |false=>rfl
    |true=>
     simp only[Bool.not_true,Bool.false_or,decide_eq_true_eq];exact(lx _ _ hl).2 (c hu)
   ·cases hu:n.up with
    |true=>rfl
    |false=>simpa using d hu
 have e2:n.copB=true↔(n.c.tr≠0->n.r.s≠3/\n.c.tr=n.r.t/\n.c.ts.length=n.ys.length):=by
  unfold Nd.copB;by_cases h0:n.c.tr=0
  ·simp[h0]
  ·simp[h0,and_assoc]
 have e3:n.snkB=true↔(n.s.tr≠0->n.r.s=3/\n.s.tr=n.r.n/\n.s.ts.length=n.ys.length):=by
  unfold Nd.snkB;by_cases h0:n.s.tr=0
  ·simp[h0]
  ·simp[h0,and_assoc]
 unfold Nd.ok;simp only[Bool.and_eq_true,e1,e2,e3,decide_eq_true_eq];constructor
 ·rintro⟨⟨⟨⟨⟨⟨⟨⟨⟨a,b⟩,c⟩,d⟩,e⟩,f⟩,g⟩,h1,h2⟩,i⟩,j⟩
  exact⟨a,b,c,d,e,f,g,h1,h2,i,j⟩
 ·rintro⟨a,b,c,d,e,f,g,h1,h2,i,j⟩
  exact⟨⟨⟨⟨⟨⟨⟨⟨⟨a,b⟩,c⟩,d⟩,e⟩,f⟩,g⟩,h1,h2⟩,i⟩,j⟩
theorem kv {xs ys:List Int} (h:au xs ys=true) (set:Int):au (fi xs ys set 8 xs.length) (fi xs ys set 8 xs.length)=true/\(fi xs ys set 8 xs.length).length=ys.length:=by
 unfold au at h;simp only[Bool.and_eq_true,decide_eq_true_eq]at h;obtain⟨hx,hy,hl⟩:=h;have hlen:(fi xs ys set 8 xs.length).length=xs.length:=by simp[fi]
 unfold aJ at hx hy;simp only[Bool.and_eq_true,List.all_eq_true]at hx hy;have hv:∀(l:List Int),(∀x∈l,bM x=true)->∀j,bM (l.getD j 0)=true:=by
  intro l hl j;rcases Nat.lt_or_ge j l.length with hj|hj
  ·have:=hl _ (List.getElem_mem hj)
   simpa[List.getD,hj]using this
  ·simp[List.getD,List.getElem?_eq_none hj,bM]
 refine⟨?_,by rw[hlen,hl]⟩;have hb:aJ (fi xs ys set 8 xs.length)=true:=by
  unfold aJ;rw[Bool.and_eq_true,List.all_eq_true,hlen];refine⟨fun x hx'=>?_,hx.2⟩;unfold fi at hx';simp only[List.mem_map,List.mem_range]at hx';obtain⟨j, -,rfl⟩:=hx';split
  ·exact hv ys hy.1 j
  ·exact hv xs hx.1 j
 unfold au;rw[hb];simp
theorem Sn.zero_ok:Sn.zero.ok=true:=by decide
theorem NdR.down {n:Nd} (h:NdR n) (set:Int):NdR (n.down set):=
 ⟨h.id,(kv h.dk set).1,h.h,h.r,h.ll,Cp.zero_ok,Sn.zero_ok,h.lg.down,fun _=>⟨rfl,rfl⟩,fun e=>absurd rfl e,fun e=>absurd rfl e⟩
theorem NdR.note {n:Nd} (h:NdR n) (hu:n.up=true) {q:Rc} (hq:q.ok=true) (hf:(ar n.log).1.length<2000) {torn:Int} (p:Nd×Bool) (hp:p=n.note q torn):
  (p.2=false/\NdR p.1/\p.1.up=false/\p.1.r=n.r/\p.1.h=n.h/\p.1.id=n.id/\p.1.ys.length=n.ys.length/\p.1.c=Cp.zero/\p.1.s=Sn.zero/\(ar p.1.log).1.length=(ar n.log).1.length)∨
  (p.2=true/\p.1={n with log:=n.log++aF (cy q),r:=q}/\iw p.1.log q true/\p.1.log.length<=40000/\(ar p.1.log).1.length=(ar n.log).1.length+1):=by
 have hlg:iw n.log n.r true:=by have:=h.lg;rwa[hu]at this
 have hlen:=(kv h.dk 0).2;unfold Nd.note at hp;split at hp
 ·subst hp
  exact .inl ⟨rfl,h.down 0,rfl,rfl,rfl,rfl,hlen,rfl,rfl,rfl⟩
 ·rename_i hroom
  split at hp
  ·rename_i ht
   subst hp;have hpos:=nP (cy q);have hlt:(aF (cy q)).length-min torn.toNat (aF (cy q)).length<(aF (cy q)).length:=by omega
   obtain⟨l1,l2, -⟩:=hlg.torn hq _ hlt;have hN:NdR ((n.torn q torn.toNat).down 0):=by
    refine⟨h.id,(kv h.dk 0).1,h.h,h.r,?_,Cp.zero_ok,Sn.zero_ok,l1,fun _=>⟨rfl,rfl⟩,fun e=>absurd rfl e,fun e=>absurd rfl e⟩;show(n.log++_).length<=40000;rw[List.length_append,List.length_take];omega
   refine .inl ⟨rfl,hN,rfl,rfl,rfl,rfl,hlen,rfl,rfl,?_⟩;exact congrArg List.length l2
  ·subst hp
   obtain⟨l1,l2⟩:=hlg.noted hq hf;refine .inr ⟨rfl,rfl,l1,?_,l2⟩;show(n.log++aF (cy q)).length<=40000;rw[List.length_append];omega
theorem zI (xs ys:List Int) (c:Cm):(bn xs ys c).2.1.length=ys.length:=by
 unfold bn;split
 ·rfl
 ·split
  ·rfl
  ·split
   ·rfl
   ·split
    ·simp
    ·split
     ·split<;>simp
     ·simp
theorem zJ (s:Sr) (i:Int) (c:Cm):(s.doing i c).1.ys.length=s.ys.length:=by
 unfold Sr.doing;split
 ·rfl
 ·split
  ·exact zI _ _ _
  ·rfl
theorem Bm {s:Sr} {i:Int} {c:Cm} (ok:s.ok=true) (hi:inI i 0 3=true) (hc:c.ok=true):(s.doing i c).1.ok=true:=by
 have:=Eg (i:=i) (c:=c) ok;unfold Sr.did at this
 rwa[if_pos ok,hi,hc,if_pos (by rfl)]at this
theorem C9 (c:Cp) (i:Int):(c.mark i).tr=c.tr/\(c.mark i).ts=c.ts:=by unfold Cp.mark;split<;>exact⟨rfl,rfl⟩
theorem NdR.ask {n:Nd} (h:NdR n) (who:Int) (b:Bs) (hb:aN b=0->(ax b).ok=true):
  NdR (n.ask who b).1/\(n.ask who b).1.r=n.r/\(n.ask who b).1.log=n.log/\(n.ask who b).1.up=n.up/\(n.ask who b).1.id=n.id/\(n.ask who b).1.ys.length=n.ys.length:=by
 unfold Nd.ask;split
 ·exact⟨h,rfl,rfl,rfl,rfl,rfl⟩
 ·rename_i hu
  split
  ·exact⟨h,rfl,rfl,rfl,rfl,rfl⟩
  ·rename_i hcode
   split
   ·exact⟨h,rfl,rfl,rfl,rfl,rfl⟩
   ·split
    ·exact⟨h,rfl,rfl,rfl,rfl,rfl⟩
    ·have hw:inI who 0 3=true:=by
      cases e:inI who 0 3 with
      |true=>rfl
      |false=>rw[e]at hu;simp at hu
     have hup:n.up=true:=by
      cases e:n.up with
      |true=>rfl
      |false=>rw[e]at hu;simp at hu
     have hok:(Sr.mk n.xs n.ys n.h).ok=true:=by unfold Sr.ok;rw[h.dk,h.h];rfl
     have hd:=Bm hok hw (hb (by simpa using hcode));have hln:=zJ (Sr.mk n.xs n.ys n.h) who (ax b);obtain⟨q,hq⟩:=eX ((Sr.mk n.xs n.ys n.h).doing who (ax b))
     rw[<-hq]at hd hln;unfold Sr.ok at hd;rw[Bool.and_eq_true]at hd;simp only[<-hq];have hc:∀v:Bool,(if v then n.c.mark (ax b).p else n.c).ok=true/\(if v then n.c.mark (ax b).p else n.c).tr=n.c.tr/\(if v then n.c.mark (ax b).p else n.c).ts=n.c.ts:=by
      intro v;cases v with
      |false=>exact⟨h.c,rfl,rfl⟩
      |true=>exact⟨Cp.mark_ok h.c _,C9 _ _⟩
     obtain⟨c1,c2,c3⟩:=hc (decide (q.2.st=0)&&(ax b).chg);refine⟨⟨h.id,hd.1,hd.2,h.r,h.ll,c1,h.s,h.lg,fun e=>?_,fun e=>?_,fun e=>?_⟩,trivial,trivial,trivial,trivial,hln⟩
     ·rw[hup]at e;cases e
     ·simp only[c2]at e⊢
      have:=h.cp e;exact⟨this.1,this.2.1,by rw[c3,this.2.2];exact hln.symm⟩
     ·have:=h.sk e
      exact⟨this.1,this.2.1,by rw[this.2.2];exact hln.symm⟩
end
theorem rj (n:Int) (h0:0<=n) (h1:n<=8):wrap64 (wrap64 (2^n.toNat)-1)=cN n:=by
 have a:∀k:Nat,k<9->wrap64 (wrap64 (2^k)-1)=2^k-1:=by decide+kernel
 simp only[cN,h0,h1,and_self,if_true];exact a n.toNat (by omega)
theorem lE (n:Int) (h:n<0∨8<n):cN n= -1:=by
 unfold cN;rw[if_neg (by omega)]
theorem BV (s i:Int) (w:World):
  Calls Tryz.prog 123 #[.int .i64 s,.int .i64 i] w fun e w'=>e=.returned (.int .i64 (cq s i))/\w'=w:=by
 by_cases h0:0<=s
 ·by_cases h1:s<256
  ·by_cases h2:0<=i
   ·by_cases h3:i<8
    ·go_enter Tryz.func123,Tryz.ntmps123
     go_wp2;go_ret;exact⟨cX (BI h0 h1 h2 h3),rfl⟩
    ·rw[eM h0 h1 (by omega)]
     go_enter Tryz.func123,Tryz.ntmps123;go_wp2;go_ret;exact⟨rfl,rfl⟩
   ·rw[eM h0 h1 (by omega)]
    go_enter Tryz.func123,Tryz.ntmps123;go_wp2;go_ret;exact⟨rfl,rfl⟩
  ·rw[ii (by omega)]
   go_enter Tryz.func123,Tryz.ntmps123;go_wp2;go_ret;exact⟨rfl,rfl⟩
 ·rw[ii (by omega)]
  go_enter Tryz.func123,Tryz.ntmps123;go_wp2;go_ret;exact⟨rfl,rfl⟩
theorem Ae (s i:Int) (w:World):
  Calls Tryz.prog 102 #[.int .i64 s,.int .i64 i] w fun e w'=>e=.returned (.int .i64 (cq s i))/\w'=w:=by
 by_cases h0:0<=s
 ·by_cases h1:s<=255
  ·by_cases h2:0<=i
   ·by_cases h3:i<=7
    ·go_enter Tryz.func102,Tryz.ntmps102
     go_wp2;go_ret;exact⟨cX (BI h0 (by omega) h2 (by omega)),rfl⟩
    ·rw[eM h0 (by omega) (by omega)]
     go_enter Tryz.func102,Tryz.ntmps102;go_wp2;go_ret;exact⟨rfl,rfl⟩
   ·rw[eM h0 (by omega) (by omega)]
    go_enter Tryz.func102,Tryz.ntmps102;go_wp2;go_ret;exact⟨rfl,rfl⟩
  ·rw[ii (by omega)]
   go_enter Tryz.func102,Tryz.ntmps102;go_wp2;go_ret;exact⟨rfl,rfl⟩
 ·rw[ii (by omega)]
  go_enter Tryz.func102,Tryz.ntmps102;go_wp2;go_ret;exact⟨rfl,rfl⟩
theorem BW (n:Int) (w:World):
  Calls Tryz.prog 187 #[.int .i64 n] w fun e w'=>e=.returned (.int .i64 (cN n))/\w'=w:=by
 by_cases h0:0<=n
 ·by_cases h1:n<=8
  ·go_enter Tryz.func187,Tryz.ntmps187
   go_wp2;go_ret;exact⟨cX (rj n h0 h1),rfl⟩
  ·rw[lE n (by omega)]
   go_enter Tryz.func187,Tryz.ntmps187;go_wp2;go_ret;exact⟨rfl,rfl⟩
 ·rw[lE n (by omega)]
  go_enter Tryz.func187,Tryz.ntmps187;go_wp2;go_ret;exact⟨rfl,rfl⟩
theorem Af (n:Int) (w:World):
  Calls Tryz.prog 90 #[.int .i64 n] w fun e w'=>e=.returned (.int .i64 (cN n))/\w'=w:=by
 by_cases h0:0<=n
 ·by_cases h1:n<=8
  ·go_enter Tryz.func90,Tryz.ntmps90
   go_wp2;go_ret;exact⟨cX (rj n h0 h1),rfl⟩
  ·rw[lE n (by omega)]
   go_enter Tryz.func90,Tryz.ntmps90;go_wp2;go_ret;exact⟨rfl,rfl⟩
 ·rw[lE n (by omega)]
  go_enter Tryz.func90,Tryz.ntmps90;go_wp2;go_ret;exact⟨rfl,rfl⟩
structure cU where
 blocks:List Nat
 old:Nat
 holds:World->Prop
 frame:∀w w':World,(∀b∈blocks,w'.heap[b]?=w.heap[b]?)->Below old w w'->holds w->holds w'
structure aw (w w':World) (bs:List Nat):Prop where
 os:w'.os=w.os
 tape:w'.tape=w.tape
 output:w'.output=w.output
 size:w.heap.size<=w'.heap.size
 block:∀k,k<w.heap.size->k∉bs->w'.heap[k]?=w.heap[k]?
theorem aw.of_grown {w w':World} {row:Option Nat} (h:w.grownBy w' row):aw w w' row.toList:=
 ⟨h.os,h.tape,h.output,h.size,fun k hk hn=>h.block k hk (fun e=>hn (by rw[<-e];simp))⟩
theorem aw.trans {w w' w'':World} {bs cs:List Nat} (h:aw w w' bs) (h':aw w' w'' cs):aw w w'' (bs++cs):=
 ⟨h'.os.trans h.os,h'.tape.trans h.tape,h'.output.trans h.output,Nat.le_trans h.size h'.size,fun k hk hn=>by
  simp at hn;exact(h'.block k (Nat.lt_of_lt_of_le hk h.size) hn.2).trans (h.block k hk hn.1)⟩
theorem aw.of_below {w w':World} (h:bB w w'):aw w w' []:=
 ⟨h.os,h.tape,h.output,h.size,fun k hk _=>h.block k hk⟩
def ij:List cU->Prop
 |[]=>True
 |i::l=>(∀j∈l,∀b∈i.blocks,b∉j.blocks)/\ij l
structure Sta (w wx:World) (L:List cU):Prop where
 below:bB w wx
 olds:∀i∈L,i.old<=w.heap.size
 holds:∀i∈L,i.holds wx
 bound:∀i∈L,∀b∈i.blocks,w.heap.size<=b/\b<wx.heap.size
 apart:ij L
theorem Sta.start (w:World):Sta w w []:=⟨Below.refl _ _,by simp,by simp,by simp,trivial⟩
theorem Sta.next {w wx wy:World} {L:List cU} (h:Sta w wx L) (b:bB wx wy):Sta w wy L:=
 ⟨h.below.trans (b.mono h.below.size),h.olds,fun i hi=>i.frame wx wy (fun k hk=>b.block k (h.bound i hi k hk).2) (b.mono (Nat.le_trans (h.olds i hi) h.below.size)) (h.holds i hi),fun i hi k hk=>⟨(h.bound i hi k hk).1,Nat.lt_of_lt_of_le (h.bound i hi k hk).2 b.size⟩,h.apart⟩
theorem Sta.drew {w wx wy:World} {L:List cU} {n:Nat} (h:Sta w wx L) (e:wy=wx.drewN n):Sta w wy L:=by
 subst e;exact⟨below_drewN h.below n,h.olds,fun i hi=>i.frame wx _ (fun _ _=>rfl) (below_drewN (Below.refl _ _) n) (h.holds i hi),h.bound,h.apart⟩
theorem Sta.drew1 {w wx:World} {L:List cU} (h:Sta w wx L):Sta w wx.drew L:=h.drew (n:=1) rfl
theorem Sta.add {w wx wy:World} {L:List cU} (h:Sta w wx L) (b:bB wx wy) (i:cU) (hi:i.holds wy) (hb:∀k∈i.blocks,wx.heap.size<=k/\k<wy.heap.size) (ho:i.old<=w.heap.size:=by exact Nat.zero_le _):Sta w wy (i::L):=by
 have h':=h.next b;refine⟨h'.below,?_,?_,?_,?_,h'.apart⟩
 ·intro j hj
  rcases List.mem_cons.1 hj with rfl|hj
  ·exact ho
  ·exact h'.olds j hj
 ·intro j hj
  rcases List.mem_cons.1 hj with rfl|hj
  ·exact hi
  ·exact h'.holds j hj
 ·intro j hj k hk
  rcases List.mem_cons.1 hj with rfl|hj
  ·exact⟨Nat.le_trans h.below.size (hb k hk).1,(hb k hk).2⟩
  ·exact h'.bound j hj k hk
 ·intro j hj k hk hk'
  have:=(hb k hk).1;have:=(h.bound j hj k hk').2;omega
theorem Sta.get {w wx:World} {L:List cU} (h:Sta w wx L) (n:Nat) {i:cU} (e:L[n]?=some i):i.holds wx:=h.holds i (List.mem_of_getElem? e)
theorem Sta.lt {w wx:World} {L:List cU} (h:Sta w wx L) (n:Nat) {i:cU} (e:L[n]?=some i):∀b∈i.blocks,w.heap.size<=b/\b<wx.heap.size:=h.bound i (List.mem_of_getElem? e)
theorem ij.set {L:List cU} {n:Nat} {i j:cU} (h:ij L) (e:L[n]?=some i) (hb:j.blocks=i.blocks):ij (L.set n j):=by
 induction L generalizing n with
 |nil=>simp at e
 |cons a l ih=>
  cases n with
  |zero=>
   simp at e;subst e;refine⟨?_,h.2⟩;rw[hb];exact h.1
  |succ n=>
   simp at e;refine⟨?_,ih h.2 e⟩;intro x hx b hba;rcases List.mem_or_eq_of_mem_set hx with hx|rfl
   ·exact h.1 x hx b hba
   ·rw[hb]
    exact h.1 i (List.mem_of_getElem? e) b hba
theorem ij.ne {L:List cU} {n m:Nat} {i j:cU} (h:ij L) (e:L[n]?=some i) (e':L[m]?=some j) (hne:n≠m):∀b∈i.blocks,b∉j.blocks:=by
 induction L generalizing n m with
 |nil=>simp at e
 |cons a l ih=>
  cases n with
  |zero=>
   cases m with
   |zero=>exact absurd rfl hne
   |succ m=>
    simp at e e';subst e;exact h.1 j (List.mem_of_getElem? e')
  |succ n=>
   cases m with
   |zero=>
    simp at e e';subst e';intro b hb hb';exact h.1 i (List.mem_of_getElem? e) b hb' hb
   |succ m=>
    simp at e e';exact ih h.2 e e' (by omega)
theorem Sta.turn {w wx wy:World} {L:List cU} (h:Sta w wx L) (n:Nat) {i:cU} (e:L[n]?=some i) (t:aw wx wy i.blocks) (j:cU) (hb:j.blocks=i.blocks) (hj:j.holds wy) (ho:j.old<=w.heap.size:=by exact Nat.zero_le _):Sta w wy (L.set n j):=by
 have hold:Below w.heap.size wx wy:=⟨t.os,t.tape,t.output,t.size,fun k hk=>t.block k (Nat.lt_of_lt_of_le hk h.below.size) (fun hc=>by have:=(h.lt n e k hc).1;omega)⟩
 refine⟨h.below.trans hold,?_,?_,?_,h.apart.set e hb⟩
 ·intro x hx
  rcases List.mem_or_eq_of_mem_set hx with hx|rfl
  ·exact h.olds x hx
  ·exact ho
 ·intro x hx
  obtain⟨m,hm,rfl⟩:=List.mem_iff_getElem.1 hx;rw[List.getElem_set];split
  ·exact hj
  ·rename_i hne
   have hm':m<L.length:=by simpa using hm
   have hx':L[m]?=some L[m]:=List.getElem?_eq_getElem hm';refine L[m].frame wx wy (fun k hk=>t.block k (h.lt m hx' k hk).2 (fun hc=>?_)) (hold.mono (h.olds _ (List.mem_of_getElem? hx'))) (h.get m hx');exact h.apart.ne hx' e (fun e2=>hne e2.symm) k hk hc
 ·intro x hx k hk
  rcases List.mem_or_eq_of_mem_set hx with hx|rfl
  ·exact⟨(h.bound x hx k hk).1,Nat.lt_of_lt_of_le (h.bound x hx k hk).2 t.size⟩
  ·rw[hb]at hk
   exact⟨(h.lt n e k hk).1,Nat.lt_of_lt_of_le (h.lt n e k hk).2 t.size⟩
theorem Sta.tail {w wx:World} {i:cU} {L:List cU} (h:Sta w wx (i::L)):Sta w wx L:=
 ⟨h.below,fun j hj=>h.olds j (List.mem_cons_of_mem _ hj),fun j hj=>h.holds j (List.mem_cons_of_mem _ hj),fun j hj=>h.bound j (List.mem_cons_of_mem _ hj),h.apart.2⟩
theorem Sta.second {w wx:World} {i j:cU} {L:List cU} (h:Sta w wx (i::j::L)):Sta w wx (i::L):=
 ⟨h.below,fun x hx=>h.olds x (by rcases List.mem_cons.1 hx with rfl|hx<;>simp[*]),fun x hx=>h.holds x (by rcases List.mem_cons.1 hx with rfl|hx<;>simp[*]),fun x hx=>h.bound x (by rcases List.mem_cons.1 hx with rfl|hx<;>simp[*]),fun x hx=>h.apart.1 x (List.mem_cons_of_mem _ hx),h.apart.2.2⟩
theorem ij.iff {L:List cU}:ij L↔L.Pairwise (fun i j=>∀b∈i.blocks,b∉j.blocks):=by
 induction L with
 |nil=>simp[ij]
 |cons a l ih=>rw[List.pairwise_cons,<-ih];exact Iff.rfl
theorem Sta.perm {w wx:World} {L M:List cU} (h:Sta w wx L) (p:L.Perm M):Sta w wx M:=
 ⟨h.below,fun i hi=>h.olds i (p.mem_iff.2 hi),fun i hi=>h.holds i (p.mem_iff.2 hi),fun i hi=>h.bound i (p.mem_iff.2 hi),
  ij.iff.2 ((p.pairwise_iff (fun hxy b hb hb'=>hxy b hb' hb)).1 (ij.iff.1 h.apart))⟩
theorem Sta.sub {w wx:World} {L M:List cU} (h:Sta w wx L) (p:M.Sublist L):Sta w wx M:=
 ⟨h.below,fun i hi=>h.olds i (p.mem hi),fun i hi=>h.holds i (p.mem hi),fun i hi=>h.bound i (p.mem hi),ij.iff.2 ((ij.iff.1 h.apart).sublist p)⟩
theorem xK (L:List cU):∀(n:Nat) (i:cU),L[n]?=some i->(i::L.eraseIdx n).Perm L:=by
 induction L with
 |nil=>intro n i e;simp at e
 |cons a l ih=>
  intro n i e;cases n with
  |zero=>simp at e;subst e;exact List.Perm.refl _
  |succ n=>
   simp at e;exact(List.Perm.swap a i _).trans ((ih n i e).cons a)
theorem Sta.front {w wx:World} {L:List cU} (h:Sta w wx L) (n:Nat) {i:cU} (e:L[n]?=some i):Sta w wx (i::L.eraseIdx n):=
 h.perm (xK L n i e).symm
theorem Sta.drop {w wx:World} {L:List cU} (h:Sta w wx L) (n:Nat):Sta w wx (L.eraseIdx n):=h.sub (List.eraseIdx_sublist ..)
theorem Sta.join {w wx:World} {L:List cU} {i j:cU} (h:Sta w wx (i::j::L)) (k:cU) (hb:k.blocks=i.blocks++j.blocks) (hk:k.holds wx) (ho:k.old<=w.heap.size:=by exact Nat.zero_le _):Sta w wx (k::L):=by
 refine⟨h.below,?_,?_,?_,?_,h.apart.2.2⟩
 ·intro x hx
  rcases List.mem_cons.1 hx with rfl|hx
  ·exact ho
  ·exact h.olds x (by simp[hx])
 ·intro x hx
  rcases List.mem_cons.1 hx with rfl|hx
  ·exact hk
  ·exact h.holds x (by simp[hx])
 ·intro x hx b hbb
  rcases List.mem_cons.1 hx with rfl|hx
  ·rw[hb,List.mem_append]at hbb
   rcases hbb with hbb|hbb
   ·exact h.bound i (by simp) b hbb
   ·exact h.bound j (by simp) b hbb
  ·exact h.bound x (by simp[hx]) b hbb
 ·intro x hx b hbb
  rw[hb,List.mem_append]at hbb;rcases hbb with hbb|hbb
  ·exact h.apart.1 x (by simp[hx]) b hbb
  ·exact h.apart.2.1 x hx b hbb
def Blk (g:Nat) (t:TypeId) (cs:Array Value):cU:=⟨[g],0,fun w=>w.heap[g]?=some (.cells cs t (0,0)),fun w w' e _ h=>(e g (by simp)).trans h⟩
theorem Sta.box {w wx:World} {L:List cU} (h:Sta w wx L) (t:TypeId) (cs:Array Value):Sta w (wx.alloc (.cells cs t)) (Blk wx.heap.size t cs::L):=
 h.add bA (Blk _ _ _) (heap_alloc_new wx _) (by simp[Blk])
theorem Blk.cell {w:World} {g:Nat} {t:TypeId} {cs:Array Value} (h:(Blk g t cs).holds w) (j:Nat) {x:Value} (e:cs[j]?=some x):w.cell? ⟨g,j,none⟩=some x:=by
 rw[cell_of_row w g j _ _ _ h,e]
theorem Blk.frozen {w:World} {g:Nat} {t:TypeId} {cs:Array Value} (h:(Blk g t cs).holds w) (j:Nat):w.frozen? ⟨g,j,none⟩=false:=frozen_of_row w g j _ _ h
theorem Own.frame {w w':World} {base:Nat} {v:Value} {xs:List Int} (h:Own w base v xs) (e:∀b∈v.ownBlock.toList,w'.heap[b]?=w.heap[b]?):Own w' base v xs:=by
 refine⟨h.1,?_⟩;rcases h.2 with h'|⟨g,cap,cur,rfl,hb,hg,r⟩
 ·exact .inl h'
 ·exact .inr ⟨g,cap,cur,rfl,hb,(e g (by simp[Value.ownBlock])).trans hg,r⟩
def Lst (v:Value) (xs:List Int):cU:=⟨v.ownBlock.toList,0,fun w=>Own w 0 v xs,fun _ _ e _ h=>Own.frame h e⟩
theorem Sta.list {w wx wy:World} {L:List cU} {v:Value} {xs:List Int} (h:Sta w wx L) (o:Own wy wx.heap.size v xs) (b:bB wx wy):Sta w wy (Lst v xs::L):=
 h.add b (Lst v xs) (o.mono (Nat.zero_le _)) (fun k hk=>o.lt k (by simpa[Lst]using hk))
end Go.Proofs.YthldeiojlllkdaaGreatDoor
