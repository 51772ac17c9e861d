/- What of right houses is right, plainly: a house stays right, whatever it is asked, told, hears, and however it falls and rises. -/
import Derived.Test.YthldeiojlllkdaaGreatDoorM4
import Derived.Deep.DeepCutAuto
set_option maxRecDepth 20000
set_option maxHeartbeats 2000000
namespace Go.Proofs.YthldeiojlllkdaaGreatDoor
open Go.ChangeShapes Go.WideShapes Go.ChangeAt Go.RowKit
section
open Go.RowKit
theorem mf (a b:Rc):d8 a b=true↔a=b:=by
 obtain⟨a1,a2,a3,a4⟩:=a;obtain⟨b1,b2,b3,b4⟩:=b;simp[d8,and_assoc]
structure NdR (n:Nd):Prop where
 id:inI n.id 0 1=true
 dk:au n.xs n.ys=true
 h:n.h.ok=true
 r:n.r.ok=true
 ll:n.log.length<=40000
 c:n.c.ok=true
 s:n.s.ok=true
 lg:iw n.log n.r n.up
 dn:n.up=false->n.c.tr=0/\n.s.tr=0
 cp:n.c.tr≠0->n.r.s≠3/\n.c.tr=n.r.t/\n.c.ts.length=n.ys.length
 sk:n.s.tr≠0->n.r.s=3/\n.s.tr=n.r.n/\n.s.ts.length=n.ys.length
theorem lw (s:Bs) (k:Nat) (h:k<=s.length):s.take k=s↔k=s.length:=by
 constructor
 ·intro e
  have:=congrArg List.length e;rw[List.length_take]at this;omega
 ·rintro rfl
  exact List.take_length
theorem Nd.ok_iff (n:Nd):n.ok=true↔NdR n:=by
 have hl:=jC n.log;have e1:n.logB=true↔iw n.log n.r n.up/\(n.up=false->n.c.tr=0/\n.s.tr=0):=by
  unfold Nd.logB;simp only[Bool.and_eq_true,mf];constructor
  ·rintro⟨⟨⟨a,b⟩,c⟩,d⟩
   refine⟨⟨a,b,fun hu=>?_⟩,fun hu=>?_⟩
   ·rw[hu]at c
    simp only[Bool.not_true,Bool.false_or,decide_eq_true_eq]at c;exact(lw _ _ hl).1 c
   ·rw[hu]at d
    simpa using d
  ·rintro⟨⟨a,b,c⟩,d⟩
   refine⟨⟨⟨a,b⟩,?_⟩,?_⟩
   ·cases hu:n.up with
    |false=>rfl
    |true=>
     simp only[Bool.not_true,Bool.false_or,decide_eq_true_eq];exact(lw _ _ hl).2 (c hu)
   ·cases hu:n.up with
    |true=>rfl
    |false=>simpa using d hu
 have e2:n.copB=true↔(n.c.tr≠0->n.r.s≠3/\n.c.tr=n.r.t/\n.c.ts.length=n.ys.length):=by
  unfold Nd.copB;by_cases h0:n.c.tr=0
  ·simp[h0]
  ·simp[h0,and_assoc]
 have e3:n.snkB=true↔(n.s.tr≠0->n.r.s=3/\n.s.tr=n.r.n/\n.s.ts.length=n.ys.length):=by
  unfold Nd.snkB;by_cases h0:n.s.tr=0
  ·simp[h0]
  ·simp[h0,and_assoc]
 unfold Nd.ok;simp only[Bool.and_eq_true,e1,e2,e3,decide_eq_true_eq];constructor
 ·rintro⟨⟨⟨⟨⟨⟨⟨⟨⟨a,b⟩,c⟩,d⟩,e⟩,f⟩,g⟩,h1,h2⟩,i⟩,j⟩
  exact⟨a,b,c,d,e,f,g,h1,h2,i,j⟩
 ·rintro⟨a,b,c,d,e,f,g,h1,h2,i,j⟩
  exact⟨⟨⟨⟨⟨⟨⟨⟨⟨a,b⟩,c⟩,d⟩,e⟩,f⟩,g⟩,h1,h2⟩,i⟩,j⟩
theorem kv {xs ys:List Int} (h:au xs ys=true) (set:Int):au (fi xs ys set 8 xs.length) (fi xs ys set 8 xs.length)=true/\(fi xs ys set 8 xs.length).length=ys.length:=by
 unfold au at h;simp only[Bool.and_eq_true,decide_eq_true_eq]at h;obtain⟨hx,hy,hl⟩:=h;have hlen:(fi xs ys set 8 xs.length).length=xs.length:=by simp[fi]
 unfold aK at hx hy;simp only[Bool.and_eq_true,List.all_eq_true]at hx hy;have hv:∀(l:List Int),(∀x∈l,bJ x=true)->∀j,bJ (l.getD j 0)=true:=by
  intro l hl j;rcases Nat.lt_or_ge j l.length with hj|hj
  ·have:=hl _ (List.getElem_mem hj)
   simpa[List.getD,hj]using this
  ·simp[List.getD,List.getElem?_eq_none hj,bJ]
 refine⟨?_,by rw[hlen,hl]⟩;have hb:aK (fi xs ys set 8 xs.length)=true:=by
  unfold aK;rw[Bool.and_eq_true,List.all_eq_true,hlen];refine⟨fun x hx'=>?_,hx.2⟩;unfold fi at hx';simp only[List.mem_map,List.mem_range]at hx';obtain⟨j, -,rfl⟩:=hx';split
  ·exact hv ys hy.1 j
  ·exact hv xs hx.1 j
 unfold au;rw[hb];simp
theorem Sn.zero_ok:Sn.zero.ok=true:=by decide
theorem NdR.down {n:Nd} (h:NdR n) (set:Int):NdR (n.down set):=
 ⟨h.id,(kv h.dk set).1,h.h,h.r,h.ll,Cp.zero_ok,Sn.zero_ok,h.lg.down,fun _=>⟨rfl,rfl⟩,fun e=>absurd rfl e,fun e=>absurd rfl e⟩
theorem NdR.note {n:Nd} (h:NdR n) (hu:n.up=true) {q:Rc} (hq:q.ok=true) (hf:(ar n.log).1.length<2000) {torn:Int} (p:Nd×Bool) (hp:p=n.note q torn):
  (p.2=false/\NdR p.1/\p.1.up=false/\p.1.r=n.r/\p.1.h=n.h/\p.1.id=n.id/\p.1.ys.length=n.ys.length/\p.1.c=Cp.zero/\p.1.s=Sn.zero/\(ar p.1.log).1.length=(ar n.log).1.length)∨
  (p.2=true/\p.1={n with log:=n.log++aI (cz q),r:=q}/\iw p.1.log q true/\p.1.log.length<=40000/\(ar p.1.log).1.length=(ar n.log).1.length+1):=by
 have hlg:iw n.log n.r true:=by have:=h.lg;rwa[hu]at this
 have hlen:=(kv h.dk 0).2;unfold Nd.note at hp;split at hp
 ·subst hp
  exact .inl ⟨rfl,h.down 0,rfl,rfl,rfl,rfl,hlen,rfl,rfl,rfl⟩
 ·rename_i hroom
  split at hp
  ·rename_i ht
   subst hp;have hpos:=nO (cz q);have hlt:(aI (cz q)).length-min torn.toNat (aI (cz q)).length<(aI (cz q)).length:=by omega
   obtain⟨l1,l2, -⟩:=hlg.torn hq _ hlt;have hN:NdR ((n.torn q torn.toNat).down 0):=by
    refine⟨h.id,(kv h.dk 0).1,h.h,h.r,?_,Cp.zero_ok,Sn.zero_ok,l1,fun _=>⟨rfl,rfl⟩,fun e=>absurd rfl e,fun e=>absurd rfl e⟩;show(n.log++_).length<=40000;rw[List.length_append,List.length_take];omega
   refine .inl ⟨rfl,hN,rfl,rfl,rfl,rfl,hlen,rfl,rfl,?_⟩;exact congrArg List.length l2
  ·subst hp
   obtain⟨l1,l2⟩:=hlg.noted hq hf;refine .inr ⟨rfl,rfl,l1,?_,l2⟩;show(n.log++aI (cz q)).length<=40000;rw[List.length_append];omega
theorem zF (xs ys:List Int) (c:Cm):(bC xs ys c).2.1.length=ys.length:=by
 unfold bC;split
 ·rfl
 ·split
  ·rfl
  ·split
   ·rfl
   ·split
    ·simp
    ·split
     ·split<;>simp
     ·simp
theorem zI (s:Sr) (i:Int) (c:Cm):(s.doing i c).1.ys.length=s.ys.length:=by
 unfold Sr.doing;split
 ·rfl
 ·split
  ·exact zF _ _ _
  ·rfl
theorem Bl {s:Sr} {i:Int} {c:Cm} (ok:s.ok=true) (hi:inI i 0 3=true) (hc:c.ok=true):(s.doing i c).1.ok=true:=by
 have:=Ef (i:=i) (c:=c) ok;unfold Sr.did at this
 rwa[if_pos ok,hi,hc,if_pos (by rfl)]at this
theorem C9 (c:Cp) (i:Int):(c.mark i).tr=c.tr/\(c.mark i).ts=c.ts:=by unfold Cp.mark;split<;>exact⟨rfl,rfl⟩
theorem NdR.ask {n:Nd} (h:NdR n) (who:Int) (b:Bs) (hb:aO b=0->(ax b).ok=true):
  NdR (n.ask who b).1/\(n.ask who b).1.r=n.r/\(n.ask who b).1.log=n.log/\(n.ask who b).1.up=n.up/\(n.ask who b).1.id=n.id/\(n.ask who b).1.ys.length=n.ys.length:=by
 unfold Nd.ask;split
 ·exact⟨h,rfl,rfl,rfl,rfl,rfl⟩
 ·rename_i hu
  split
  ·exact⟨h,rfl,rfl,rfl,rfl,rfl⟩
  ·rename_i hcode
   split
   ·exact⟨h,rfl,rfl,rfl,rfl,rfl⟩
   ·split
    ·exact⟨h,rfl,rfl,rfl,rfl,rfl⟩
    ·have hw:inI who 0 3=true:=by
      cases e:inI who 0 3 with
      |true=>rfl
      |false=>rw[e]at hu;simp at hu
     have hup:n.up=true:=by
      cases e:n.up with
      |true=>rfl
      |false=>rw[e]at hu;simp at hu
     have hok:(Sr.mk n.xs n.ys n.h).ok=true:=by unfold Sr.ok;rw[h.dk,h.h];rfl
     have hd:=Bl hok hw (hb (by simpa using hcode));have hln:=zI (Sr.mk n.xs n.ys n.h) who (ax b);obtain⟨q,hq⟩:=Fe ((Sr.mk n.xs n.ys n.h).doing who (ax b))
     rw[<-hq]at hd hln;unfold Sr.ok at hd;rw[Bool.and_eq_true]at hd;simp only[<-hq];have hc:∀v:Bool,(if v then n.c.mark (ax b).p else n.c).ok=true/\(if v then n.c.mark (ax b).p else n.c).tr=n.c.tr/\(if v then n.c.mark (ax b).p else n.c).ts=n.c.ts:=by
      intro v;cases v with
      |false=>exact⟨h.c,rfl,rfl⟩
      |true=>exact⟨Cp.mark_ok h.c _,C9 _ _⟩
     obtain⟨c1,c2,c3⟩:=hc (decide (q.2.st=0)&&(ax b).chg);refine⟨⟨h.id,hd.1,hd.2,h.r,h.ll,c1,h.s,h.lg,fun e=>?_,fun e=>?_,fun e=>?_⟩,trivial,trivial,trivial,trivial,hln⟩
     ·rw[hup]at e;cases e
     ·simp only[c2]at e⊢
      have:=h.cp e;exact⟨this.1,this.2.1,by rw[c3,this.2.2];exact hln.symm⟩
     ·have:=h.sk e
      exact⟨this.1,this.2.1,by rw[this.2.2];exact hln.symm⟩
end
theorem rj (n:Int) (h0:0<=n) (h1:n<=8):wrap64 (wrap64 (2^n.toNat)-1)=cO n:=by
 have a:∀k:Nat,k<9->wrap64 (wrap64 (2^k)-1)=2^k-1:=by decide+kernel
 simp only[cO,h0,h1,and_self,if_true];exact a n.toNat Ff
theorem lD (n:Int) (h:n<0∨8<n):cO n= -1:=by
 unfold cO;rw[if_neg Ff]
theorem BU (s i:Int) (w:World):
  Calls Tryz.prog 123 #[.int .i64 s,.int .i64 i] w fun e w'=>e=.returned (.int .i64 (cv s i))/\w'=w:=by
 by_cases h0:0<=s
 ·by_cases h1:s<256
  ·by_cases h2:0<=i
   ·by_cases h3:i<8
    ·go_enter Tryz.func123,Tryz.ntmps123
     go_wp2;go_ret;exact⟨cZ (BH h0 h1 h2 h3),rfl⟩
    ·rw[eM h0 h1 Ff]
     go_enter Tryz.func123,Tryz.ntmps123;go_wp2;go_ret;exact⟨rfl,rfl⟩
   ·rw[eM h0 h1 Ff]
    go_enter Tryz.func123,Tryz.ntmps123;go_wp2;go_ret;exact⟨rfl,rfl⟩
  ·rw[ig Ff]
   go_enter Tryz.func123,Tryz.ntmps123;go_wp2;go_ret;exact⟨rfl,rfl⟩
 ·rw[ig Ff]
  go_enter Tryz.func123,Tryz.ntmps123;go_wp2;go_ret;exact⟨rfl,rfl⟩
theorem Ad (s i:Int) (w:World):
  Calls Tryz.prog 102 #[.int .i64 s,.int .i64 i] w fun e w'=>e=.returned (.int .i64 (cv s i))/\w'=w:=by
 by_cases h0:0<=s
 ·by_cases h1:s<=255
  ·by_cases h2:0<=i
   ·by_cases h3:i<=7
    ·go_enter Tryz.func102,Tryz.ntmps102
     go_wp2;go_ret;exact⟨cZ (BH h0 Ff h2 Ff),rfl⟩
    ·rw[eM h0 Ff Ff]
     go_enter Tryz.func102,Tryz.ntmps102;go_wp2;go_ret;exact⟨rfl,rfl⟩
   ·rw[eM h0 Ff Ff]
    go_enter Tryz.func102,Tryz.ntmps102;go_wp2;go_ret;exact⟨rfl,rfl⟩
  ·rw[ig Ff]
   go_enter Tryz.func102,Tryz.ntmps102;go_wp2;go_ret;exact⟨rfl,rfl⟩
 ·rw[ig Ff]
  go_enter Tryz.func102,Tryz.ntmps102;go_wp2;go_ret;exact⟨rfl,rfl⟩
theorem BV (n:Int) (w:World):
  Calls Tryz.prog 187 #[.int .i64 n] w fun e w'=>e=.returned (.int .i64 (cO n))/\w'=w:=by
 by_cases h0:0<=n
 ·by_cases h1:n<=8
  ·go_enter Tryz.func187,Tryz.ntmps187
   go_wp2;go_ret;exact⟨cZ (rj n h0 h1),rfl⟩
  ·rw[lD n Ff]
   go_enter Tryz.func187,Tryz.ntmps187;go_wp2;go_ret;exact⟨rfl,rfl⟩
 ·rw[lD n Ff]
  go_enter Tryz.func187,Tryz.ntmps187;go_wp2;go_ret;exact⟨rfl,rfl⟩
theorem Ae (n:Int) (w:World):
  Calls Tryz.prog 90 #[.int .i64 n] w fun e w'=>e=.returned (.int .i64 (cO n))/\w'=w:=by
 by_cases h0:0<=n
 ·by_cases h1:n<=8
  ·go_enter Tryz.func90,Tryz.ntmps90
   go_wp2;go_ret;exact⟨cZ (rj n h0 h1),rfl⟩
  ·rw[lD n Ff]
   go_enter Tryz.func90,Tryz.ntmps90;go_wp2;go_ret;exact⟨rfl,rfl⟩
 ·rw[lD n Ff]
  go_enter Tryz.func90,Tryz.ntmps90;go_wp2;go_ret;exact⟨rfl,rfl⟩
structure cW where
 blocks:List Nat
 old:Nat
 holds:World->Prop
 frame:∀w w':World,(∀b∈blocks,w'.heap[b]?=w.heap[b]?)->Below old w w'->holds w->holds w'
structure aw (w w':World) (bs:List Nat):Prop where
 os:w'.os=w.os
 tape:w'.tape=w.tape
 output:w'.output=w.output
 size:w.heap.size<=w'.heap.size
 block:∀k,k<w.heap.size->k∉bs->w'.heap[k]?=w.heap[k]?
theorem aw.of_grown {w w':World} {row:Option Nat} (h:w.grownBy w' row):aw w w' row.toList:=
 ⟨h.os,h.tape,h.output,h.size,fun k hk hn=>h.block k hk (fun e=>hn (by rw[<-e];simp))⟩
theorem aw.trans {w w' w'':World} {bs cs:List Nat} (h:aw w w' bs) (h':aw w' w'' cs):aw w w'' (bs++cs):=
 ⟨h'.os.trans h.os,h'.tape.trans h.tape,h'.output.trans h.output,Nat.le_trans h.size h'.size,fun k hk hn=>by
  simp at hn;exact(h'.block k (Nat.lt_of_lt_of_le hk h.size) hn.2).trans (h.block k hk hn.1)⟩
theorem aw.of_below {w w':World} (h:iO w w'):aw w w' []:=
 ⟨h.os,h.tape,h.output,h.size,fun k hk _=>h.block k hk⟩
def ii:List cW->Prop
 |[]=>True
 |i::l=>(∀j∈l,∀b∈i.blocks,b∉j.blocks)/\ii l
structure Sta (w wx:World) (L:List cW):Prop where
 below:iO w wx
 olds:∀i∈L,i.old<=w.heap.size
 holds:∀i∈L,i.holds wx
 bound:∀i∈L,∀b∈i.blocks,w.heap.size<=b/\b<wx.heap.size
 apart:ii L
theorem Sta.start (w:World):Sta w w []:=⟨Below.refl _ _,by simp,by simp,by simp,trivial⟩
theorem Sta.next {w wx wy:World} {L:List cW} (h:Sta w wx L) (b:iO wx wy):Sta w wy L:=
 ⟨h.below.trans (b.mono h.below.size),h.olds,fun i hi=>i.frame wx wy (fun k hk=>b.block k (h.bound i hi k hk).2) (b.mono (Nat.le_trans (h.olds i hi) h.below.size)) (h.holds i hi),fun i hi k hk=>⟨(h.bound i hi k hk).1,Nat.lt_of_lt_of_le (h.bound i hi k hk).2 b.size⟩,h.apart⟩
theorem Sta.drew {w wx wy:World} {L:List cW} {n:Nat} (h:Sta w wx L) (e:wy=wx.drewN n):Sta w wy L:=by
 subst e;exact⟨below_drewN h.below n,h.olds,fun i hi=>i.frame wx _ (fun _ _=>rfl) (below_drewN (Below.refl _ _) n) (h.holds i hi),h.bound,h.apart⟩
theorem Sta.drew1 {w wx:World} {L:List cW} (h:Sta w wx L):Sta w wx.drew L:=h.drew (n:=1) rfl
theorem Sta.add {w wx wy:World} {L:List cW} (h:Sta w wx L) (b:iO wx wy) (i:cW) (hi:i.holds wy) (hb:∀k∈i.blocks,wx.heap.size<=k/\k<wy.heap.size) (ho:i.old<=w.heap.size:=by exact Nat.zero_le _):Sta w wy (i::L):=by
 have h':=h.next b;refine⟨h'.below,?_,?_,?_,?_,h'.apart⟩
 ·intro j hj
  rcases List.mem_cons.1 hj with rfl|hj
  ·exact ho
  ·exact h'.olds j hj
 ·intro j hj
  rcases List.mem_cons.1 hj with rfl|hj
  ·exact hi
  ·exact h'.holds j hj
 ·intro j hj k hk
  rcases List.mem_cons.1 hj with rfl|hj
  ·exact⟨Nat.le_trans h.below.size (hb k hk).1,(hb k hk).2⟩
  ·exact h'.bound j hj k hk
 ·intro j hj k hk hk'
  have:=(hb k hk).1;have:=(h.bound j hj k hk').2;omega
theorem Sta.get {w wx:World} {L:List cW} (h:Sta w wx L) (n:Nat) {i:cW} (e:L[n]?=some i):i.holds wx:=h.holds i (List.mem_of_getElem? e)
theorem Sta.lt {w wx:World} {L:List cW} (h:Sta w wx L) (n:Nat) {i:cW} (e:L[n]?=some i):∀b∈i.blocks,w.heap.size<=b/\b<wx.heap.size:=h.bound i (List.mem_of_getElem? e)
theorem ii.set {L:List cW} {n:Nat} {i j:cW} (h:ii L) (e:L[n]?=some i) (hb:j.blocks=i.blocks):ii (L.set n j):=by
 induction L generalizing n with
 |nil=>simp at e
 |cons a l ih=>
  cases n with
  |zero=>
   simp at e;subst e;refine⟨?_,h.2⟩;rw[hb];exact h.1
  |succ n=>
   simp at e;refine⟨?_,ih h.2 e⟩;intro x hx b hba;rcases List.mem_or_eq_of_mem_set hx with hx|rfl
   ·exact h.1 x hx b hba
   ·rw[hb]
    exact h.1 i (List.mem_of_getElem? e) b hba
theorem ii.ne {L:List cW} {n m:Nat} {i j:cW} (h:ii L) (e:L[n]?=some i) (e':L[m]?=some j) (hne:n≠m):∀b∈i.blocks,b∉j.blocks:=by
 induction L generalizing n m with
 |nil=>simp at e
 |cons a l ih=>
  cases n with
  |zero=>
   cases m with
   |zero=>exact absurd rfl hne
   |succ m=>
    simp at e e';subst e;exact h.1 j (List.mem_of_getElem? e')
  |succ n=>
   cases m with
   |zero=>
    simp at e e';subst e';intro b hb hb';exact h.1 i (List.mem_of_getElem? e) b hb' hb
   |succ m=>
    simp at e e';exact ih h.2 e e' Ff
theorem Sta.turn {w wx wy:World} {L:List cW} (h:Sta w wx L) (n:Nat) {i:cW} (e:L[n]?=some i) (t:aw wx wy i.blocks) (j:cW) (hb:j.blocks=i.blocks) (hj:j.holds wy) (ho:j.old<=w.heap.size:=by exact Nat.zero_le _):Sta w wy (L.set n j):=by
 have hold:Below w.heap.size wx wy:=⟨t.os,t.tape,t.output,t.size,fun k hk=>t.block k (Nat.lt_of_lt_of_le hk h.below.size) (fun hc=>by have:=(h.lt n e k hc).1;omega)⟩
 refine⟨h.below.trans hold,?_,?_,?_,h.apart.set e hb⟩
 ·intro x hx
  rcases List.mem_or_eq_of_mem_set hx with hx|rfl
  ·exact h.olds x hx
  ·exact ho
 ·intro x hx
  obtain⟨m,hm,rfl⟩:=List.mem_iff_getElem.1 hx;rw[List.getElem_set];split
  ·exact hj
  ·rename_i hne
   have hm':m<L.length:=by simpa using hm
   have hx':L[m]?=some L[m]:=List.getElem?_eq_getElem hm';refine L[m].frame wx wy (fun k hk=>t.block k (h.lt m hx' k hk).2 (fun hc=>?_)) (hold.mono (h.olds _ (List.mem_of_getElem? hx'))) (h.get m hx');exact h.apart.ne hx' e (fun e2=>hne e2.symm) k hk hc
 ·intro x hx k hk
  rcases List.mem_or_eq_of_mem_set hx with hx|rfl
  ·exact⟨(h.bound x hx k hk).1,Nat.lt_of_lt_of_le (h.bound x hx k hk).2 t.size⟩
  ·rw[hb]at hk
   exact⟨(h.lt n e k hk).1,Nat.lt_of_lt_of_le (h.lt n e k hk).2 t.size⟩
theorem Sta.tail {w wx:World} {i:cW} {L:List cW} (h:Sta w wx (i::L)):Sta w wx L:=
 ⟨h.below,fun j hj=>h.olds j (List.mem_cons_of_mem _ hj),fun j hj=>h.holds j (List.mem_cons_of_mem _ hj),fun j hj=>h.bound j (List.mem_cons_of_mem _ hj),h.apart.2⟩
theorem Sta.second {w wx:World} {i j:cW} {L:List cW} (h:Sta w wx (i::j::L)):Sta w wx (i::L):=
 ⟨h.below,fun x hx=>h.olds x (by rcases List.mem_cons.1 hx with rfl|hx<;>simp[*]),fun x hx=>h.holds x (by rcases List.mem_cons.1 hx with rfl|hx<;>simp[*]),fun x hx=>h.bound x (by rcases List.mem_cons.1 hx with rfl|hx<;>simp[*]),fun x hx=>h.apart.1 x (List.mem_cons_of_mem _ hx),h.apart.2.2⟩
theorem ii.iff {L:List cW}:ii L↔L.Pairwise (fun i j=>∀b∈i.blocks,b∉j.blocks):=by
 induction L with
 |nil=>simp[ii]
 |cons a l ih=>rw[List.pairwise_cons,<-ih];exact Iff.rfl
theorem Sta.perm {w wx:World} {L M:List cW} (h:Sta w wx L) (p:L.Perm M):Sta w wx M:=
 ⟨h.below,fun i hi=>h.olds i (p.mem_iff.2 hi),fun i hi=>h.holds i (p.mem_iff.2 hi),fun i hi=>h.bound i (p.mem_iff.2 hi),
  ii.iff.2 ((p.pairwise_iff (fun hxy b hb hb'=>hxy b hb' hb)).1 (ii.iff.1 h.apart))⟩
theorem Sta.sub {w wx:World} {L M:List cW} (h:Sta w wx L) (p:M.Sublist L):Sta w wx M:=
 ⟨h.below,fun i hi=>h.olds i (p.mem hi),fun i hi=>h.holds i (p.mem hi),fun i hi=>h.bound i (p.mem hi),ii.iff.2 ((ii.iff.1 h.apart).sublist p)⟩
theorem xK (L:List cW):∀(n:Nat) (i:cW),L[n]?=some i->(i::L.eraseIdx n).Perm L:=by
 induction L with
 |nil=>intro n i e;simp at e
 |cons a l ih=>
  intro n i e;cases n with
  |zero=>simp at e;subst e;exact List.Perm.refl _
  |succ n=>
   simp at e;exact(List.Perm.swap a i _).trans ((ih n i e).cons a)
theorem Sta.front {w wx:World} {L:List cW} (h:Sta w wx L) (n:Nat) {i:cW} (e:L[n]?=some i):Sta w wx (i::L.eraseIdx n):=
 h.perm (xK L n i e).symm
theorem Sta.drop {w wx:World} {L:List cW} (h:Sta w wx L) (n:Nat):Sta w wx (L.eraseIdx n):=h.sub (List.eraseIdx_sublist ..)
theorem Sta.join {w wx:World} {L:List cW} {i j:cW} (h:Sta w wx (i::j::L)) (k:cW) (hb:k.blocks=i.blocks++j.blocks) (hk:k.holds wx) (ho:k.old<=w.heap.size:=by exact Nat.zero_le _):Sta w wx (k::L):=by
 refine⟨h.below,?_,?_,?_,?_,h.apart.2.2⟩
 ·intro x hx
  rcases List.mem_cons.1 hx with rfl|hx
  ·exact ho
  ·exact h.olds x (by simp[hx])
 ·intro x hx
  rcases List.mem_cons.1 hx with rfl|hx
  ·exact hk
  ·exact h.holds x (by simp[hx])
 ·intro x hx b hbb
  rcases List.mem_cons.1 hx with rfl|hx
  ·rw[hb,List.mem_append]at hbb
   rcases hbb with hbb|hbb
   ·exact h.bound i Fg b hbb
   ·exact h.bound j Fg b hbb
  ·exact h.bound x (by simp[hx]) b hbb
 ·intro x hx b hbb
  rw[hb,List.mem_append]at hbb;rcases hbb with hbb|hbb
  ·exact h.apart.1 x (by simp[hx]) b hbb
  ·exact h.apart.2.1 x hx b hbb
def Blk (g:Nat) (t:TypeId) (cs:Array Value):cW:=⟨[g],0,fun w=>w.heap[g]?=some (.cells cs t (0,0)),fun w w' e _ h=>(e g Fg).trans h⟩
theorem Sta.box {w wx:World} {L:List cW} (h:Sta w wx L) (t:TypeId) (cs:Array Value):Sta w (wx.alloc (.cells cs t)) (Blk wx.heap.size t cs::L):=
 h.add Fc (Blk _ _ _) (heap_alloc_new wx _) (by simp[Blk])
theorem Blk.cell {w:World} {g:Nat} {t:TypeId} {cs:Array Value} (h:(Blk g t cs).holds w) (j:Nat) {x:Value} (e:cs[j]?=some x):w.cell? ⟨g,j,none⟩=some x:=by
 rw[cell_of_row w g j _ _ _ h,e]
theorem Blk.frozen {w:World} {g:Nat} {t:TypeId} {cs:Array Value} (h:(Blk g t cs).holds w) (j:Nat):w.frozen? ⟨g,j,none⟩=false:=frozen_of_row w g j _ _ h
theorem Own.frame {w w':World} {base:Nat} {v:Value} {xs:List Int} (h:Own w base v xs) (e:∀b∈v.ownBlock.toList,w'.heap[b]?=w.heap[b]?):Own w' base v xs:=by
 refine⟨h.1,?_⟩;rcases h.2 with h'|⟨g,cap,cur,rfl,hb,hg,r⟩
 ·exact .inl h'
 ·exact .inr ⟨g,cap,cur,rfl,hb,(e g (by simp[Value.ownBlock])).trans hg,r⟩
def Lst (v:Value) (xs:List Int):cW:=⟨v.ownBlock.toList,0,fun w=>Own w 0 v xs,fun _ _ e _ h=>Own.frame h e⟩
theorem Sta.list {w wx wy:World} {L:List cW} {v:Value} {xs:List Int} (h:Sta w wx L) (o:Own wy wx.heap.size v xs) (b:iO wx wy):Sta w wy (Lst v xs::L):=
 h.add b (Lst v xs) (o.mono (Nat.zero_le _)) (fun k hk=>o.lt k (by simpa[Lst]using hk))
def cpA (v:Value) (c:Cp):Array Value:=#[.int .i64 c.tr,.bool c.op,.int .i64 c.di,.int .i64 c.wa,v]
def CpV (v:Value) (c:Cp):Value:=.agg (cpA v c)
def cS:Array Value:=#[.int .i64 0,.bool false,.int .i64 0,.int .i64 0,.slice none 0 0]
theorem xl:cS.all (·.oneCell')=true:=by simp[cS,Value.oneCell']
theorem GH:IsS 39 5:=⟨⟨_,Tryz.underlying39⟩,by kernel_rfl⟩
theorem lC {v:Value} (c:Cp) (hv:v.oneCell'=true):(cpA v c).all (·.oneCell')=true:=by
 unfold cpA;simp[hv,show∀k n,(Value.int k n).oneCell'=true from fun _ _=>rfl,show∀b,(Value.bool b).oneCell'=true from fun _=>rfl]
theorem oZ (v:Value) (ts:List Int) (w:World) (hr:ag w v ts) (hl:ts.length<=1099511627776):
  Calls Tryz.prog 89 #[v] w fun e w'=>e=.returned (.bool (bj ts&&inI ts.length 1 8))/\w'=w:=by
 have HE:Hid (∀b:Bool,bj ts=b->(bj ts&&inI ts.length 1 8)=(b&&inI ts.length 1 8)):=fun b h=>by rw[h]
 obtain⟨ao,cap,rfl⟩:=aa hr;obtain⟨-,hc1,hc2,hcell⟩:=aL hr;have ck:=fun x wx=>aM x 0 1000000000 wx
 have cl:=fun wx=>aM (ts.length:Int) 1 8 wx
 obtain⟨x,hx⟩:=Fe ((bj ts&&inI ts.length 1 8))
 simp only[<-hx]at HE⊢;obtain⟨y,hy⟩:=Fe (inI ts.length 1 8)
 simp only[<-hy]at HE cl;obtain⟨n,hn⟩:=Fe ts.length
 rw[<-hn]at hl hc1 hcell;simp only[<-hn]at cl⊢;have HN:Hid (n=ts.length):=hn;unfold maxLen at hc2;clear hr hn hx hy;go_enter Tryz.func89,Tryz.ntmps89;go_wp2;go_loop [3] (fun i=>∃j:Nat,j<=n/\i=.int .i64 j/\Hid (bj (ts.take j)=true)) (fun i=>n-(intOf i).toNat)
 case atStart=>exact⟨0,Nat.zero_le _,rfl,by simp[Hid,bj]⟩
 case round=>
  obtain⟨j,hj,rfl,HT⟩:=hrel;by_cases hlt:(j:Int)<(n:Int)
  ·obtain⟨b,off,rfl,hcj⟩:=hcell j Ff
   clear hcell cl;have hjl:j<ts.length:=by have:=HN.out;omega
   have HA:Hid (inI (ts.getD j 0) 0 1000000000=false->bj ts=false):=pZ ts j hjl;have HZ:Hid (inI (ts.getD j 0) 0 1000000000=true->bj (ts.take (j+1))=true):=nK ts j hjl HT.out;have ckj:=fun wx=>ck (ts.getD j 0) wx
   obtain⟨z,hz⟩:=Fe (ts.getD j 0)
   rw[<-hz]at hcj HA HZ;simp only[<-hz]at ckj;obtain⟨bz,hbz⟩:=Fe (inI z 0 1000000000)
   rw[<-hbz]at HA HZ;simp only[<-hbz]at ckj;clear hz hjl hbz ck;go_wp2_with fail
   refine Fd (ckj _) ?_;cases bz with
   |true=>
    have HZ2:Hid (bj (ts.take (j+1))=true):=HZ.out rfl;clear HZ HA;go_wp2
    go_round
    case rel=>exact⟨j+1,by omega,by go_num,HZ2.out⟩
    case measure=>simp[intOf];omega
   |false=>
    have HX:Hid (x=false):=by rw[Hid,HE.out false (HA.out rfl)];rfl
    clear HZ HA;go_wp2;go_ret;rw[HX.out];exact⟨rfl,rfl⟩
  ·have HX:Hid (x=y):=by
    have:=HT.out;rw[List.take_of_length_le (by have:=HN.out;omega)]at this;rw[Hid,HE.out true this];rfl
   clear HT ck;go_wp2_with fail
   refine Fd (cl _) ?_;go_wp2;go_ret;rw[HX.out];exact⟨rfl,rfl⟩
theorem xm (v:Value) (c:Cp) (w:World) (hr:ag w v c.ts) (hl:c.ts.length<=1099511627776):
  Calls Tryz.prog 48 #[CpV v c] w fun e w'=>e=.returned (.bool c.ok)/\iO w w':=by
 have HE:Hid (c.ok=if c.tr=0 then(!c.op&&decide (c.di=0)&&decide (c.wa=0)&&decide (c.ts.length=0))else(inI c.tr 1 100000&&(bj c.ts&&inI c.ts.length 1 8)&&(inI c.di 0 (cO c.ts.length)&&inI c.wa 0 (cO c.ts.length)))):=rfl;obtain⟨ao,cap,rfl⟩:=aa hr;obtain⟨w1,hw1⟩:=Fe (w.alloc (.cells (cpA (.slice ao c.ts.length cap) c) 39))
 have H1:StB w1 w.heap.size 39 (cpA (.slice ao c.ts.length cap) c):=by rw[hw1];exact StB.new _ _ _
 have HB:Hid (iO w w1):=by rw[hw1];exact Fc
 have HW:Hid (w1=w.alloc (.cells #[.int .i64 c.tr,.bool c.op,.int .i64 c.di,.int .i64 c.wa,.slice ao c.ts.length cap] 39)):=hw1;have k0:w1.cell? ⟨w.heap.size,0,none⟩=some (.int .i64 c.tr):=H1.cell 0 rfl;have k1:w1.cell? ⟨w.heap.size,1,none⟩=some (.bool c.op):=H1.cell 1 rfl;have k2:w1.cell? ⟨w.heap.size,2,none⟩=some (.int .i64 c.di):=H1.cell 2 rfl;have k3:w1.cell? ⟨w.heap.size,3,none⟩=some (.int .i64 c.wa):=H1.cell 3 rfl;have k4:w1.cell? ⟨w.heap.size,4,none⟩=some (.slice ao c.ts.length cap):=H1.cell 4 rfl;have ct:=fun wx=>aM c.tr 1 100000 wx
 have cs:=oZ (.slice ao c.ts.length cap) c.ts w1 (hr.below HB.out (Nat.le_refl _)) hl;have cf:=fun wx=>Ae (c.ts.length:Int) wx
 have cd:=fun wx=>aM c.di 0 (cO c.ts.length) wx
 have cw:=fun wx=>aM c.wa 0 (cO c.ts.length) wx
 obtain⟨x,hx⟩:=Fe c.ok
 rw[<-hx]at HE⊢;obtain⟨bt,hbt⟩:=Fe (inI c.tr 1 100000)
 rw[<-hbt]at HE;simp only[<-hbt]at ct;obtain⟨bs,hbs⟩:=Fe ((bj c.ts&&inI c.ts.length 1 8))
 rw[<-hbs]at HE;simp only[<-hbs]at cs;obtain⟨f,hf⟩:=Fe (cO c.ts.length)
 rw[<-hf]at HE;simp only[<-hf]at cf cd cw;obtain⟨bd,hbd⟩:=Fe (inI c.di 0 f)
 rw[<-hbd]at HE;simp only[<-hbd]at cd;obtain⟨bw,hbw⟩:=Fe (inI c.wa 0 f)
 rw[<-hbw]at HE;simp only[<-hbw]at cw;obtain⟨n,hn⟩:=Fe c.ts.length
 rw[<-hn]at hl k4 HW HE cs;simp only[<-hn]at cf;unfold CpV cpA;rw[<-hn];clear hw1 H1 hr hn hx hbt hbs hf hbd hbw;by_cases ht:c.tr=0
 ·have HX:Hid (x=(!c.op&&decide (c.di=0)&&decide (c.wa=0)&&decide (n=0))):=by rw[Hid,HE.out,if_pos ht]
  clear HE ct cs cf cd cw;have e1:(c.tr==0)=true:=by simpa using ht
  have HX2:Hid (x=(!c.op&&(c.di==0)&&(c.wa==0)&&((n:Int)==0))):=by
   rw[Hid,HX.out]
   congr 1
   rw[Bool.eq_iff_iff];simp
  clear HX;cases ho:c.op with
  |true=>
   rw[ho]at HX2 HW k1;go_enter Tryz.func48,Tryz.ntmps48;go_wp2;go_ret;exact⟨af (by rw[HX2.out];rfl),Fc⟩
  |false=>
   rw[ho]at HX2 HW k1;by_cases hd:c.di=0
   ·by_cases hw:c.wa=0
    ·by_cases hn0:(n:Int)=0
     ·go_enter Tryz.func48,Tryz.ntmps48
      go_wp2;go_ret;exact⟨af (by rw[HX2.out];simp[hd,hw,hn0]),Fc⟩
     ·go_enter Tryz.func48,Tryz.ntmps48
      go_wp2;go_ret;exact⟨af (by rw[HX2.out];simp[hd,hw]),Fc⟩
    ·go_enter Tryz.func48,Tryz.ntmps48
     go_wp2;go_ret;exact⟨af (by rw[HX2.out];simp[hd,hw]),Fc⟩
   ·go_enter Tryz.func48,Tryz.ntmps48
    go_wp2;go_ret;exact⟨af (by rw[HX2.out];simp[hd]),Fc⟩
 ·have HX:Hid (x=(bt&&bs&&(bd&&bw))):=by rw[Hid,HE.out,if_neg ht]
  have e1:(c.tr==0)=false:=by simpa using ht
  clear HE;go_enter Tryz.func48,Tryz.ntmps48;go_wp2_with fail
  rw[<-HW.out];refine Fd (ct _) ?_;clear ct;cases bt with
  |false=>
   go_wp2;go_ret;exact⟨af (by rw[HX.out];rfl),HB.out⟩
  |true=>
   go_wp2_with fail
   refine Fd cs ?_;clear cs;cases bs with
   |false=>
    go_wp2;go_ret;exact⟨af (by rw[HX.out];rfl),HB.out⟩
   |true=>
    go_wp2_with fail
    refine Fd (cf _) ?_;clear cf;go_wp2_with fail
    refine Fd (cd _) ?_;clear cd;cases bd with
    |false=>
     go_wp2;go_ret;exact⟨af (by rw[HX.out];rfl),HB.out⟩
    |true=>
     go_wp2_with fail
     refine Fd (cw _) ?_;clear cw;go_wp2;go_ret;exact⟨af (by rw[HX.out];rfl),HB.out⟩
def snA (v:Value) (c:Sn):Array Value:=#[.int .i64 c.tr,v]
def SnV (v:Value) (c:Sn):Value:=.agg (snA v c)
def fw:Array Value:=#[.int .i64 0,.slice none 0 0]
theorem GS:IsS 40 2:=⟨⟨_,Tryz.underlying40⟩,by kernel_rfl⟩
theorem sx {v:Value} (c:Sn) (hv:v.oneCell'=true):(snA v c).all (·.oneCell')=true:=by
 unfold snA;simp[hv,show∀k n,(Value.int k n).oneCell'=true from fun _ _=>rfl]
theorem uY (v:Value) (c:Sn) (w:World) (hr:ag w v c.ts) (hl:c.ts.length<=1099511627776):
  Calls Tryz.prog 49 #[SnV v c] w fun e w'=>e=.returned (.bool c.ok)/\iO w w':=by
 have HE:Hid (c.ok=if c.tr=0 then decide (c.ts.length=0)else(inI c.tr 1 100000&&(bj c.ts&&inI c.ts.length 1 8))):=rfl;obtain⟨ao,cap,rfl⟩:=aa hr;obtain⟨w1,hw1⟩:=Fe (w.alloc (.cells (snA (.slice ao c.ts.length cap) c) 40))
 have H1:StB w1 w.heap.size 40 (snA (.slice ao c.ts.length cap) c):=by rw[hw1];exact StB.new _ _ _
 have HB:Hid (iO w w1):=by rw[hw1];exact Fc
 have HW:Hid (w1=w.alloc (.cells #[.int .i64 c.tr,.slice ao c.ts.length cap] 40)):=hw1;have k0:w1.cell? ⟨w.heap.size,0,none⟩=some (.int .i64 c.tr):=H1.cell 0 rfl;have k1:w1.cell? ⟨w.heap.size,1,none⟩=some (.slice ao c.ts.length cap):=H1.cell 1 rfl;have ct:=fun wx=>aM c.tr 1 100000 wx
 have cs:=oZ (.slice ao c.ts.length cap) c.ts w1 (hr.below HB.out (Nat.le_refl _)) hl;obtain⟨x,hx⟩:=Fe c.ok
 rw[<-hx]at HE⊢;obtain⟨bt,hbt⟩:=Fe (inI c.tr 1 100000)
 rw[<-hbt]at HE;simp only[<-hbt]at ct;obtain⟨bs,hbs⟩:=Fe ((bj c.ts&&inI c.ts.length 1 8))
 rw[<-hbs]at HE;simp only[<-hbs]at cs;obtain⟨n,hn⟩:=Fe c.ts.length
 rw[<-hn]at hl k1 HW HE cs;unfold SnV snA;rw[<-hn];clear hw1 H1 hr hn hx hbt hbs;by_cases ht:c.tr=0
 ·have HX:Hid (x=((n:Int)==0)):=by
   rw[Hid,HE.out,if_pos ht,Bool.eq_iff_iff];simp
  have e1:(c.tr==0)=true:=by simpa using ht
  clear HE ct cs;go_enter Tryz.func49,Tryz.ntmps49;go_wp2;go_ret;exact⟨af (by rw[HX.out]),Fc⟩
 ·have HX:Hid (x=(bt&&bs)):=by rw[Hid,HE.out,if_neg ht]
  have e1:(c.tr==0)=false:=by simpa using ht
  clear HE;go_enter Tryz.func49,Tryz.ntmps49;go_wp2_with fail
  rw[<-HW.out];refine Fd (ct _) ?_;clear ct;cases bt with
  |false=>
   go_wp2;go_ret;exact⟨af (by rw[HX.out];rfl),HB.out⟩
  |true=>
   go_wp2_with fail
   refine Fd cs ?_;clear cs;go_wp2;go_ret;exact⟨af (by rw[HX.out];rfl),HB.out⟩
theorem xv (v:Value) (c:Sn) (w:World) (hr:ag w v c.ts) (hl:c.ts.length<=1099511627776):
  Calls Tryz.prog 54 #[SnV v c] w fun e w'=>∃u,e=.returned (SnV u c)/\Own w' w.heap.size u c.ts/\iO w w':=by
 obtain⟨w1,hw1⟩:=Fe ((w.alloc (.cells (snA v c) 40)).alloc (.cells fw 40))
 have p0:StB w1 w.heap.size 40 (snA v c):=by rw[hw1];exact(StB.new w _ _).alloc _
 have q0:StB w1 (w.heap.size+1) 40 fw:=by
  rw[hw1];have:=StB.new (w.alloc (.cells (snA v c) 40)) 40 fw
  rwa[World.size_alloc]at this
 have b1:iO w w1:=by rw[hw1];exact Fc.alloc Fg _
 have c1:=gK v c.ts w1 (hr.below b1 (Nat.le_refl _)) hl;have hs1:=q0.lt;obtain⟨ao,cap,rfl⟩:=aa hr;have HW:Hid (w1=(w.alloc (.cells #[.int .i64 c.tr,.slice ao c.ts.length cap] 40)).alloc (.cells #[.int .i64 0,.slice none 0 0] 40)):=hw1;have k1:w1.cell? ⟨w.heap.size,1,none⟩=some (.slice ao c.ts.length cap):=p0.cell 1 rfl;clear hw1 hr hl;unfold SnV snA;go_enter Tryz.func54,Tryz.ntmps54;go_wp2_with fail
 rw[<-HW.out];clear HW;refine c1.mono ?_;rintro e w3 ⟨u,rfl,o3,b3⟩;replace p0:=p0.below b3;replace q0:=q0.below b3;have B3:=b1.trans (b3.mono b1.size);obtain⟨ab,cb,rfl⟩:=aa o3.reads;have k0:w3.cell? ⟨w.heap.size,1,none⟩=some (.slice ao c.ts.length cap):=p0.cell 1 rfl;have f0:=p0.frozen 1;have r4:=p0.put 1 (.slice ab c.ts.length cb) (ds:=snA (.slice ab c.ts.length cb) c) rfl;have q4:=q0.other ⟨w.heap.size,1,none⟩ (.slice ab c.ts.length cb) Fg;have HP:Hid (Own (w3.setCell ⟨w.heap.size,1,none⟩ (.slice ab c.ts.length cb)) w1.heap.size (.slice ab c.ts.length cb) c.ts/\iO w (w3.setCell ⟨w.heap.size,1,none⟩ (.slice ab c.ts.length cb))):=⟨o3.setLt Ff 1 _,B3.setCell (Nat.le_refl _) _⟩
 clear k1 p0 q0 c1 o3 b3 b1 B3;go_upto_region 2 with fail
 obtain⟨w4,hw4⟩:=Fe (w3.setCell ⟨w.heap.size,1,none⟩ (.slice ab c.ts.length cb))
 rw[<-hw4]at r4 q4 HP⊢;clear hw4 k0 f0;go_wp2_with (first|(refine ah GS rfl _ rfl w.heap.size rfl (snA (.slice ab c.ts.length cb) c) rfl r4 ?_)|(refine ae GS rfl _ _ rfl (w.heap.size+1) (snA (.slice ab c.ts.length cb) c) fw rfl rfl rfl rfl (sx c rfl) q4 ?_;intro w8 s8 g8))
 refine bodyPost_ret (aj GS rfl _ _ (w.heap.size+1) _ rfl rfl s8) rfl ?_;exact⟨_,rfl,(HP.out.1.keptLt g8 Ff).mono Ff,HP.out.2.grown g8 HP.out.2.size (fun k e=>by cases e;omega)⟩
theorem oT (r:Rc) (w:World):
  Calls Tryz.prog 47 #[RV r] w fun e w'=>e=.returned (.bool r.ok)/\iO w w':=by
 have c1:=fun wx=>kx r.e wx
 have c2:=fun wx=>uI r.s 1 3 wx
 have c3:=fun wx=>kx r.t wx
 have c4:=fun wx=>kx r.n wx
 have hst:(decide (1<=r.s)&&decide (r.s<=3))=stI r.s:=rfl;simp only[hst]at c2;have hok:r.ok=(epI r.e&&stI r.s&&epI r.t&&epI r.n):=rfl;rw[hok];have hb:iO w (w.alloc (.cells (de r) 38)):=Fc;obtain⟨x1,x2,x3,x4⟩:=r;dsimp only at c1 c2 c3 c4⊢;unfold RV de at*;dsimp only at hb⊢;obtain⟨b1,h1⟩:=Fe (epI x1)
 obtain⟨b2,h2⟩:=Fe (stI x2)
 obtain⟨b3,h3⟩:=Fe (epI x3)
 obtain⟨b4,h4⟩:=Fe (epI x4)
 simp only[<-h1,<-h2,<-h3,<-h4]at c1 c2 c3 c4⊢;clear h1 h2 h3 h4 hok hst;go_enter Tryz.func47,Tryz.ntmps47;go_wp2_with fail
 refine Fd (c1 _) ?_;cases b1 with
 |false=>
  go_wp2_with fail
  go_ret;exact⟨rfl,hb⟩
 |true=>
  go_wp2_with fail
  refine Fd (c2 _) ?_;cases b2 with
  |false=>
   go_wp2_with fail
   go_ret;exact⟨rfl,hb⟩
  |true=>
   go_wp2_with fail
   refine Fd (c3 _) ?_;cases b3 with
   |false=>
    go_wp2_with fail
    go_ret;exact⟨rfl,hb⟩
   |true=>
    go_wp2_with fail
    refine Fd (c4 _) ?_;go_wp2_with fail
    go_ret;exact⟨rfl,hb⟩
theorem xd (r:Rc) (w:World):
  Calls Tryz.prog 185 #[RV r] w fun e w'=>e=.returned (.bool r.ok)/\iO w w':=by
 have c1:=fun wx=>ky r.e wx
 have c2:=fun wx=>wX r.s wx
 have c3:=fun wx=>ky r.t wx
 have c4:=fun wx=>ky r.n wx
 have hok:r.ok=(epI r.e&&stI r.s&&epI r.t&&epI r.n):=rfl;rw[hok];have hb:iO w (w.alloc (.cells (de r) 38)):=Fc;obtain⟨x1,x2,x3,x4⟩:=r;dsimp only at c1 c2 c3 c4⊢;unfold RV de at*;dsimp only at hb⊢;obtain⟨b1,h1⟩:=Fe (epI x1)
 obtain⟨b2,h2⟩:=Fe (stI x2)
 obtain⟨b3,h3⟩:=Fe (epI x3)
 obtain⟨b4,h4⟩:=Fe (epI x4)
 simp only[<-h1,<-h2,<-h3,<-h4]at c1 c2 c3 c4⊢;clear h1 h2 h3 h4 hok;go_enter Tryz.func185,Tryz.ntmps185;go_wp2_with fail
 refine Fd (c1 _) ?_;cases b1 with
 |false=>
  go_wp2_with fail
  go_ret;exact⟨rfl,hb⟩
 |true=>
  go_wp2_with fail
  refine Fd (c2 _) ?_;cases b2 with
  |false=>
   go_wp2_with fail
   go_ret;exact⟨rfl,hb⟩
  |true=>
   go_wp2_with fail
   refine Fd (c3 _) ?_;cases b3 with
   |false=>
    go_wp2_with fail
    go_ret;exact⟨rfl,hb⟩
   |true=>
    go_wp2_with fail
    refine Fd (c4 _) ?_;go_wp2_with fail
    go_ret;exact⟨rfl,hb⟩
theorem GA:(Tryz.prog.info? 38).map (·.size)=some 4:=by kernel_rfl
theorem Hz:∃fs,Tryz.prog.underlying 38=some (.struct fs):=⟨_,Tryz.underlying38⟩
theorem Bv (r:Rc):(de r).all (·.oneCell')=true:=by simp[de,Value.oneCell']
def cE (w:World) (g:Nat) (t:TypeId) (r:Rc):Prop:=w.heap[g]?=some (.cells (de r) t (0,0))
theorem cE.lt {w:World} {g:Nat} {t:TypeId} {r:Rc} (h:cE w g t r):g<w.heap.size:=by
 rcases Nat.lt_or_ge g w.heap.size with hlt|hge
 ·exact hlt
 ·rw[cE,Array.getElem?_eq_none hge]at h;cases h
theorem cE.new (w:World) (t:TypeId) (r:Rc):cE (w.alloc (.cells (de r) t)) w.heap.size t r:=heap_alloc_new w _
theorem cE.below {w w':World} {g:Nat} {t:TypeId} {r:Rc} (h:cE w g t r) (hb:iO w w'):cE w' g t r:=(hb.block g h.lt).trans h
theorem cE.kept {w w':World} {g:Nat} {t:TypeId} {r:Rc} {row:Option Nat} (h:cE w g t r) (hg:w.grownBy w' row) (hne:some g≠row):cE w' g t r:=(hg.block g h.lt hne).trans h
theorem cE.alloc {w:World} {g:Nat} {t:TypeId} {r:Rc} (h:cE w g t r) (o:Obj):cE (w.alloc o) g t r:=(Below.heap_alloc w o g h.lt).trans h
theorem cE.cell {w:World} {g:Nat} {t:TypeId} {r:Rc} (h:cE w g t r) (j:Nat) {x:Value} (e:(de r)[j]?=some x):w.cell? ⟨g,j,none⟩=some x:=by rw[cell_of_row w g j _ _ _ h,e]
theorem cE.frozen {w:World} {g:Nat} {t:TypeId} {r:Rc} (h:cE w g t r) (j:Nat):w.frozen? ⟨g,j,none⟩=false:=frozen_of_row w g j _ _ h
theorem zM (w:World) (g:Nat) (cs:Array Value):w.grownBy (w.setRow g cs) (some g):=
 ⟨rfl,rfl,rfl,by simp,fun k _ hne=>_root_.Go.setRow_other w g k cs (fun e=>hne (by rw[e]))⟩
theorem ic {ops:Array Oper} {rest:List Oper} {o:Oper} {a:Act} {w:World} {Q:Exit->Act->World->Prop} (hgd:o.guard=none) (x:Operand) (ho:o.op=.load 38 x)
  (g:Nat) (hx:a.eval x=.pointer (some ⟨g,0,none⟩)) (r:Rc) (hr:cE w g 38 r)
  (h:wpList Tryz.prog ops Q rest (a.put o.dst (RV r)) w):wpList Tryz.prog ops Q (o::rest) a w:=by
 obtain⟨fs,hu⟩:=Hz;exact wpList_load_row hgd _ x ho g hx _ _ _ _ hr hu rfl GA h
theorem cR {ops:Array Oper} {rest:List Oper} {o:Oper} {a:Act} {w:World} {Q:Exit->Act->World->Prop} (hgd:o.guard=none) (x y:Operand) (ho:o.op=.store 38 x y)
  (g:Nat) (r r':Rc) (hx:a.eval x=.pointer (some ⟨g,0,none⟩)) (hy:a.eval y=RV r) (hr:cE w g 38 r')
  (h:∀w',cE w' g 38 r->w.grownBy w' (some g)->wpList Tryz.prog ops Q rest (a.put o.dst undef) w'):wpList Tryz.prog ops Q (o::rest) a w:=
 wpList_store_row hgd _ x y ho g (de r) hx hy _ _ hr GA rfl (Bv r) (h _ (setRow_heap w g _ _ _ _ hr) (zM w g _))
theorem zN {fn:Func} {p:Tmp} (h:fn.results=#[.cell p 38]) (tmps:Array Value) (w:World) (g:Nat) (r:Rc)
  (hp:tmps.getD p undef=.pointer (some ⟨g,0,none⟩)) (hr:cE w g 38 r):(results fn tmps).run Tryz.prog w=.ok (RV r) w:=by
 obtain⟨fs,hu⟩:=Hz;exact results_cell_row h tmps w g _ _ _ _ hp hr hu rfl GA
theorem dL {fn:Func} {p q:Tmp} (h:fn.results=#[.cell p 38,.tmp q]) (tmps:Array Value) (w:World) (g:Nat) (r:Rc) (x:Value)
  (hp:tmps.getD p undef=.pointer (some ⟨g,0,none⟩)) (hx:tmps.getD q undef=x) (hr:cE w g 38 r):(results fn tmps).run Tryz.prog w=.ok (.tuple #[RV r,x]) w:=by
 obtain⟨fs,hu⟩:=Hz;rw[results_cell_tmp h,hp,hx];simp only[asAddr,Sem.run_pure,Result.andThen_ok];rw[run_loadVar_row w g _ _ _ _ _ hr hu rfl GA];rfl
theorem sq (r:Rc) (w:World):
  Calls Tryz.prog 21 #[RV r] w fun e w'=>e=.returned (RV r)/\iO w w':=by
 unfold RV de;go_enter Tryz.func21,Tryz.ntmps21;go_wp2_with fail
 refine bodyPost_ret (zN rfl _ _ (w.heap.size+1) r rfl ?_) rfl ?_
 ·have:=(cE.new (w.alloc (.cells (de r) 28)) 38 r).alloc (.cells (de r) 38)
  rw[World.size_alloc]at this;exact this
 ·exact⟨rfl,(Fc.alloc Fg _).alloc (by simp;omega) _⟩
theorem sr (r q:Rc) (w:World):
  Calls Tryz.prog 32 #[RV r,RV q] w fun e w'=>e=.returned (.bool (d8 r q))/\iO w w':=by
 have hb:iO w ((w.alloc (.cells (de r) 38)).alloc (.cells (de q) 38)):=Fc.alloc Fg _;obtain⟨a1,a2,a3,a4⟩:=r;obtain⟨b1,b2,b3,b4⟩:=q;have hd:d8 ⟨a1,a2,a3,a4⟩ ⟨b1,b2,b3,b4⟩=(decide (a1=b1)&&decide (a2=b2)&&decide (a3=b3)&&decide (a4=b4)):=rfl;rw[hd];clear hd;unfold RV de at*;dsimp only at hb⊢;by_cases h1:a1=b1
 ·by_cases h2:a2=b2
  ·by_cases h3:a3=b3
   ·by_cases h4:a4=b4
    ·subst h1 h2 h3 h4
     go_enter Tryz.func32,Tryz.ntmps32;go_wp2;go_ret;exact⟨af Fg,hb⟩
    ·have hn:(a4 !=b4)=true:=by simpa using h4
     have he:decide (a4=b4)=false:=by simpa using h4
     rw[he];subst h1 h2 h3;go_enter Tryz.func32,Tryz.ntmps32;go_wp2;go_ret;exact⟨af Fg,hb⟩
   ·have hn:(a3 !=b3)=true:=by simpa using h3
    have he:decide (a3=b3)=false:=by simpa using h3
    rw[he];subst h1 h2;go_enter Tryz.func32,Tryz.ntmps32;go_wp2;go_ret;exact⟨af Fg,hb⟩
  ·have hn:(a2 !=b2)=true:=by simpa using h2
   have he:decide (a2=b2)=false:=by simpa using h2
   rw[he];subst h1;go_enter Tryz.func32,Tryz.ntmps32;go_wp2;go_ret;exact⟨af Fg,hb⟩
 ·have hn:(a1 !=b1)=true:=by simpa using h1
  have he:decide (a1=b1)=false:=by simpa using h1
  rw[he];go_enter Tryz.func32,Tryz.ntmps32;go_wp2;go_ret;exact⟨af Fg,hb⟩
theorem uS (l:Bs) (w:World) (hl:l.length<=1048576):
  Calls Tryz.prog 170 #[S l,.int .i64 9] w fun e w'=>e=.returned (.tuple #[.int .i64 (num l),.bool (okN l)])/\w'=w:=by
 have hsz:(⟨l.toArray⟩:ByteArray).size=l.length:=rfl;unfold S;by_cases h0:l=[]
 ·subst h0
  have HE:Hid (okN []=false/\num []=0):=by
   have:=jA [] Fg;exact⟨this,cD this⟩
  go_enter Tryz.func170,Tryz.ntmps170;go_wp2
  go_ret2
  rw[HE.out.1,HE.out.2];exact⟨rfl,rfl⟩
 ·have hie:l.isEmpty=false:=by simpa using h0
  have hpos:0<l.length:=List.length_pos_iff.2 h0;have ht:=eN l 0 hpos 45 45 rfl;have hng:=wY l hpos;rw[<-hng]at ht;clear h0;by_cases hneg:neg l=true
  ·rw[hneg]at ht
   clear hng;have hng:=hneg;clear hneg;have ho:dW l=1:=by unfold dW;rw[hng];rfl
   by_cases hs1:(l.length:Int)-1<1
   ·have HE:Hid (okN l=false/\num l=0):=by
     have:=jA l Ff;exact⟨this,cD this⟩
    clear hng ho;go_enter Tryz.func170,Tryz.ntmps170;go_wp2
    go_ret2
    rw[HE.out.1,HE.out.2];exact⟨rfl,rfl⟩
   ·by_cases hs2:9<(l.length:Int)-1
    ·have HE:Hid (okN l=false/\num l=0):=by
      have:=oQ l Ff;exact⟨this,cD this⟩
     clear hng ho;go_enter Tryz.func170,Tryz.ntmps170;go_wp2
     go_ret2
     rw[HE.out.1,HE.out.2];exact⟨rfl,rfl⟩
    ·have HO:Hid (dW l=1/\neg l=true):=⟨ho,hng⟩
     clear hng ho;go_enter Tryz.func170,Tryz.ntmps170;go_wp2;go_loop [8,9] (fun n k=>∃(j:Nat) (x:Int),(1:Int)<=j/\(j:Int)<=l.length/\k=.int .i64 j/\n=.int .i64 x/\0<=x/\x<1000000000/\Hid (cg l j x)) (fun _ k=>l.length-(intOf k).toNat)
     case atStart=>exact⟨1,0,by omega,by omega,rfl,rfl,by omega,by omega,by rw[Hid,<-HO.out.1];exact cg.start l⟩
     case round=>
      obtain⟨j,x,hj0,hj1,rfl,rfl,hx0,hx1,HI⟩:=hrel;by_cases hlt:(j:Int)<(l.length:Int)
      ·have hj:j<l.length:=by omega
       have hbv:=jg l j hj;by_cases hlo:bK l j hj<48
       ·have HE:Hid (okN l=false/\num l=0):=by
         have:=cg.bad (l:=l) (j:=j) (by rw[HO.out.1];omega) hj (by rw[hbv]at hlo;simp[dp];omega);exact⟨this,cD this⟩
        unfold bK at hlo;clear hbv;go_wp2
        go_ret2
        rw[HE.out.1,HE.out.2];exact⟨rfl,rfl⟩
       ·by_cases hhi:57<bK l j hj
        ·have HE:Hid (okN l=false/\num l=0):=by
          have:=cg.bad (l:=l) (j:=j) (by rw[HO.out.1];omega) hj (by rw[hbv]at hhi;simp[dp];omega);exact⟨this,cD this⟩
         unfold bK at hlo hhi;clear hbv;go_wp2
         go_ret2
         rw[HE.out.1,HE.out.2];exact⟨rfl,rfl⟩
        ·have HN:Hid (cg l (j+1) (x*10+(bK l j hj-48))):=by
          rw[Hid,hbv];exact HI.out.next (by rw[HO.out.1];omega) hj (by rw[hbv]at hlo hhi;simp[dp];omega)
         have HNb:=HN.out.bd (by rw[HO.out.1];omega);have hlo2:48<=bK l j hj:=by omega
         have hhi2:bK l j hj<=57:=by omega
         clear hbv;unfold bK at hlo hhi hlo2 hhi2 HN HNb;go_wp2
         go_round
         case rel=>exact⟨j+1,_,by omega,by omega,by go_num,rfl,HNb.1,HNb.2,HN⟩
         case measure=>simp[intOf];omega
      ·obtain rfl:j=l.length:=by omega
       have h1l:1<l.length:=by omega
       have hh:=jB l (by rw[HO.out.1];exact h1l);have he1:l[dW l]'(by rw[HO.out.1];exact h1l)=l[1]:=by congr 1;exact HO.out.1
       rw[he1]at hh;have hdn:=HI.out.done (by rw[HO.out.1];omega) (by rw[HO.out.1];omega);rw[hh]at hdn;have ht0:=eN l 1 h1l 48 48 rfl;by_cases hz:l[1]=48
       ·have HE:Hid (okN l=false/\num l=0):=by
         have:okN l=false:=by rw[hdn.1];simp[hz,h1l]
         exact⟨this,cD this⟩
        rw[show decide (l[1]=48)=true by simp[hz]]at ht0;clear hdn hh he1 hz;go_wp2
        go_ret2
        rw[HE.out.1,HE.out.2];exact⟨rfl,rfl⟩
       ·have HE:Hid (okN l=true/\num l= -x):=by
         have:okN l=true:=by rw[hdn.1];simp[hz]
         exact⟨this,by rw[num,this,HO.out.2,hdn.2];rfl⟩
        rw[show decide (l[1]=48)=false by simp[hz]]at ht0;clear hdn hh he1 hz;go_wp2
        go_ret2
        rw[HE.out.1,HE.out.2];exact⟨rfl,rfl⟩
  ·have hng':neg l=false:=by simpa using hneg
   rw[hng']at ht;clear hng hneg;have hng:=hng';clear hng';have ho:dW l=0:=by unfold dW;rw[hng];rfl
   by_cases hs1:(l.length:Int)-0<1
   ·exact absurd hs1 Ff
   ·by_cases hs2:9<(l.length:Int)-0
    ·have HE:Hid (okN l=false/\num l=0):=by
      have:=oQ l Ff;exact⟨this,cD this⟩
     clear hng ho;go_enter Tryz.func170,Tryz.ntmps170;go_wp2
     go_ret2
     rw[HE.out.1,HE.out.2];exact⟨rfl,rfl⟩
    ·have HO:Hid (dW l=0/\neg l=false):=⟨ho,hng⟩
     clear hng ho;go_enter Tryz.func170,Tryz.ntmps170;go_wp2;go_loop [8,9] (fun n k=>∃(j:Nat) (x:Int),(0:Int)<=j/\(j:Int)<=l.length/\k=.int .i64 j/\n=.int .i64 x/\0<=x/\x<1000000000/\Hid (cg l j x)) (fun _ k=>l.length-(intOf k).toNat)
     case atStart=>exact⟨0,0,by omega,by omega,rfl,rfl,by omega,by omega,by rw[Hid,<-HO.out.1];exact cg.start l⟩
     case round=>
      obtain⟨j,x,hj0,hj1,rfl,rfl,hx0,hx1,HI⟩:=hrel;by_cases hlt:(j:Int)<(l.length:Int)
      ·have hj:j<l.length:=by omega
       have hbv:=jg l j hj;by_cases hlo:bK l j hj<48
       ·have HE:Hid (okN l=false/\num l=0):=by
         have:=cg.bad (l:=l) (j:=j) (by rw[HO.out.1];omega) hj (by rw[hbv]at hlo;simp[dp];omega);exact⟨this,cD this⟩
        unfold bK at hlo;clear hbv;go_wp2
        go_ret2
        rw[HE.out.1,HE.out.2];exact⟨rfl,rfl⟩
       ·by_cases hhi:57<bK l j hj
        ·have HE:Hid (okN l=false/\num l=0):=by
          have:=cg.bad (l:=l) (j:=j) (by rw[HO.out.1];omega) hj (by rw[hbv]at hhi;simp[dp];omega);exact⟨this,cD this⟩
         unfold bK at hlo hhi;clear hbv;go_wp2
         go_ret2
         rw[HE.out.1,HE.out.2];exact⟨rfl,rfl⟩
        ·have HN:Hid (cg l (j+1) (x*10+(bK l j hj-48))):=by
          rw[Hid,hbv];exact HI.out.next (by rw[HO.out.1];omega) hj (by rw[hbv]at hlo hhi;simp[dp];omega)
         have HNb:=HN.out.bd (by rw[HO.out.1];omega);have hlo2:48<=bK l j hj:=by omega
         have hhi2:bK l j hj<=57:=by omega
         clear hbv;unfold bK at hlo hhi hlo2 hhi2 HN HNb;go_wp2
         go_round
         case rel=>exact⟨j+1,_,by omega,by omega,by go_num,rfl,HNb.1,HNb.2,HN⟩
         case measure=>simp[intOf];omega
      ·obtain rfl:j=l.length:=by omega
       have hh:=jB l (by rw[HO.out.1];exact hpos);have he1:l[dW l]'(by rw[HO.out.1];exact hpos)=l[0]:=by congr 1;exact HO.out.1
       rw[he1]at hh;have hdn:=HI.out.done (by rw[HO.out.1];omega) (by rw[HO.out.1];omega);rw[hh]at hdn;have ht0:=eN l 0 hpos 48 48 rfl;by_cases hz:l[0]=48
       ·rw[show decide (l[0]=48)=true by simp[hz]]at ht0
        by_cases h1l:1<(l.length:Int)
        ·have HE:Hid (okN l=false/\num l=0):=by
          have h2:1<l.length:=by omega
          have:okN l=false:=by rw[hdn.1];simp[hz,h2]
          exact⟨this,cD this⟩
         clear hdn hh he1 hz ht;go_wp2
         go_ret2
         rw[HE.out.1,HE.out.2];exact⟨rfl,rfl⟩
        ·have HE:Hid (okN l=true/\num l=x):=by
          have h2:¬1<l.length:=by omega
          have:okN l=true:=by rw[hdn.1];simp[h2]
          exact⟨this,by rw[num,this,HO.out.2,hdn.2];rfl⟩
         clear hdn hh he1 hz ht;go_wp2
         go_ret2
         rw[HE.out.1,HE.out.2];exact⟨rfl,rfl⟩
       ·have HE:Hid (okN l=true/\num l=x):=by
         have:okN l=true:=by rw[hdn.1];simp[hz]
         exact⟨this,by rw[num,this,HO.out.2,hdn.2];rfl⟩
        rw[show decide (l[0]=48)=false by simp[hz]]at ht0;clear hdn hh he1 hz ht;go_wp2
        go_ret2
        rw[HE.out.1,HE.out.2];exact⟨rfl,rfl⟩
theorem zP (l:Bs) (w:World) (hl:l.length<=1048576):
  Calls Tryz.prog 129 #[S l] w fun e w'=>e=.returned (.tuple #[.int .i64 (num l),.bool (okN l)])/\w'=w:=by
 have c1:=uS l w hl;go_enter Tryz.func129,Tryz.ntmps129;go_wp2_with fail
 refine Fd c1 ?_;clear c1;go_wp2_with fail
 go_ret2
 exact⟨rfl,rfl⟩
def Lss (v:Value) (xs:List Bs):cW:=⟨v.ownBlock.toList,0,fun w=>dl w 0 v xs,fun _ _ e _ h=>dl.frame h e⟩
theorem Sta.texts {w wx wy:World} {L:List cW} {v:Value} {xs:List Bs} (h:Sta w wx L) (o:dl wy wx.heap.size v xs) (b:iO wx wy):Sta w wy (Lss v xs::L):=
 h.add b (Lss v xs) (o.mono (Nat.zero_le _)) (fun k hk=>o.lt k (by simpa[Lss]using hk))
theorem fY.take {w:World} {ao:Option Addr} {n cap:Nat} {xs:List Bs} (h:fY w (.slice ao n cap) xs) (m:Nat) (hm:m<=xs.length):fY w (.slice ao m cap) (xs.take m):=by
 obtain⟨ao',cap',e,h1,h2,h4⟩:=h;cases e;have hl:(xs.take m).length=m:=by simp[Nat.min_eq_left hm]
 refine⟨ao,cap,by rw[hl],by rw[hl];omega,h2,?_⟩;rcases h4 with rfl|⟨b,off,e,h4⟩
 ·exact .inl Fg
 ·refine .inr ⟨b,off,e,fun j hj=>?_⟩
  rw[hl]at hj;rw[h4 j Ff];simp[hj]
end Go.Proofs.YthldeiojlllkdaaGreatDoor
