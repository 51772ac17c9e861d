/- What the laws on stores ask, of plain lists and numbers. -/
import Derived.Test.YthldeiojlllkdaaGreatDoorM3
set_option maxRecDepth 20000
set_option maxHeartbeats 2000000
namespace Go.Proofs.YthldeiojlllkdaaGreatDoor
open Go.ChangeShapes Go.WideShapes Go.ChangeAt Go.RowKit
section
open Go.RowKit
theorem Df (h:Hd) (i k:Int):(h.resd i k).2=false->(h.resd i k).1=h:=by
 unfold Hd.resd;split
 ·intro;rfl
 ·split
  ·intro e;cases e
  ·intro;rfl
theorem Dg (h:Hd) (i:Int):(h.reld i).2=false->(h.reld i).1=h:=by
 unfold Hd.reld;split
 ·intro;rfl
 ·split
  ·intro e;cases e
  ·intro;rfl
theorem Dh (h:Hd) (i:Int):(h.clrd i).2=false->(h.clrd i).1=h:=by
 unfold Hd.clrd;split
 ·intro;rfl
 ·intro e;cases e
theorem Di (h:Hd) (i key k:Int):(h.pred i key k).2=false->(h.pred i key k).1=h:=by
 unfold Hd.pred;split
 ·intro;rfl
 ·split
  ·intro e;cases e
  ·intro e;cases e
theorem nC {r:Hd×Bool} {h:Hd} (hr:r.2=false->r.1=h) (hs:(iV r).2.st≠0):(iV r).1=h:=by
 obtain⟨a,b⟩:=r;cases b with
 |false=>exact hr rfl
 |true=>exact absurd rfl hs
theorem yk {h:Hd} {i:Int} {c:Cm}:(h.act i c).2.st≠0->(h.act i c).1=h:=by
 unfold Hd.act;split
 ·intro e;exact absurd rfl e
 ·split
  ·exact nC (Df h i c.k)
  ·split
   ·exact nC (Dg h i)
   ·split
    ·exact nC (Dh h i)
    ·split
     ·split
      ·intro;rfl
      ·exact nC (Di h i c.a c.k)
     ·split
      ·intro;rfl
      ·intro;rfl
theorem BN {xs ys:List Int} {c:Cm}:(bC xs ys c).2.2.st≠0->(bC xs ys c).1=xs/\(bC xs ys c).2.1=ys:=by
 unfold bC;split
 ·intro e;exact absurd rfl e
 ·split
  ·intro;exact⟨rfl,rfl⟩
  ·split
   ·intro e;exact absurd rfl e
   ·split
    ·intro e;exact absurd rfl e
    ·split
     ·split
      ·intro e;exact absurd rfl e
      ·intro;exact⟨rfl,rfl⟩
     ·intro e;exact absurd rfl e
theorem Dj {s:Sr} {i:Int} {c:Cm} (ok:s.ok=true) (hs:(s.did i c).2.st≠0):(s.did i c).1=s:=by
 unfold Sr.did at hs⊢;rw[if_pos ok]at hs⊢;split at hs
 ·rename_i q
  rw[if_pos q];unfold Sr.doing at hs⊢;split at hs
  ·rename_i q5
   rw[if_pos q5];dsimp only;rw[yk hs]
  ·rename_i q5
   rw[if_neg q5];split at hs
   ·rename_i qm
    rw[if_pos qm];dsimp only;obtain⟨e1,e2⟩:=BN hs;rw[e1,e2]
   ·rename_i qm
    rw[if_neg qm]
 ·rename_i q
  rw[if_neg q]
theorem Dk {h:Hd} (ok:h.ok=true):h.free.ok=true:=by
 obtain⟨hl,ht,hk, -⟩:=ok_iff.1 ok;exact ok_iff.2 ⟨hl,ht,hk,fP.2 (.inl ⟨rfl,rfl⟩)⟩
theorem Dl {h:Hd} (ok:h.ok=true) (i:Int):(h.clrd i).1.ok=true:=by
 obtain⟨hl,ht,hk,hm⟩:=ok_iff.1 ok;unfold Hd.clrd;split
 ·exact ok
 ·refine ok_iff.2 ⟨rfl,?_,(show ey [0,0,0,0]=true by decide),fP.2 (.inl ⟨rfl,rfl⟩)⟩
  dsimp only;unfold cM;split<;>omega
theorem Dm {h:Hd} (ok:h.ok=true) {i k:Int} (hi:0<=i/\i<=3) (hk:kiI k=true):(h.resd i k).1.ok=true:=by
 unfold Hd.resd;split
 ·exact ok
 ·rename_i hr
  split
  ·exact BZ ok hi (rm.1 (by simpa using hr)) hk
  ·exact ok
theorem Dn {h:Hd} (ok:h.ok=true) (i:Int):(h.reld i).1.ok=true:=by
 unfold Hd.reld;split
 ·exact ok
 ·split
  ·exact Dk ok
  ·exact ok
theorem Do {h:Hd} (ok:h.ok=true) {i key k:Int} (hi:inI i 0 3=true) (hy:inI key 1 9999=true) (hk:kiI k=true):(h.pred i key k).1.ok=true:=by
 have e:h.preempt i key k=told (h.pred i key k):=by simp[Hd.preempt,ok,hi,hy,hk]
 have c:=pr h i key k;rw[e]at c;unfold told at c;rcases c with c|c|⟨x,c, -, -, -, -, -, -,hx, -⟩
 ·have:=congrArg Prod.snd c
  dsimp only at this;split at this<;>cases this
 ·have:=congrArg Prod.fst c
  dsimp only at this;rw[this];exact ok
 ·have:=congrArg Prod.fst c
  dsimp only at this;rw[this];exact hx
theorem Ee {h:Hd} (ok:h.ok=true) {i:Int} {c:Cm} (hi:inI i 0 3=true) (hc:c.ok=true):(h.act i c).1.ok=true:=by
 have hi':=(aE _ _ _).1 hi;unfold Cm.ok Cm.fits at hc;rw[Bool.and_eq_true]at hc;have hf:=hc.2;unfold Hd.act;split
 ·rename_i h6
  rw[if_pos h6]at hf;exact(BY ok hi' ((aE _ _ _).1 hf)).1
 ·rename_i h6
  rw[if_neg h6]at hf;split
  ·rename_i h7
   rw[if_neg Ff,if_pos h7]at hf;exact Dm ok hi' hf
  ·split
   ·exact Dn ok i
   ·split
    ·exact Dl ok i
    ·split
     ·rename_i h10
      rw[if_pos h10]at hf;simp only[Bool.and_eq_true]at hf;split
      ·exact ok
      ·rename_i ha
       have h1:=(aE _ _ _).1 hf.1.1;exact Do ok hi ((aE _ _ _).2 Ff) hf.2
     ·split
      ·exact ok
      ·exact ok
theorem Dq {xs ys:List Int} {c:Cm} (hb:au xs ys=true) (hc:(c.ok&&decide (c.o<=5))=true):au (bC xs ys c).1 (bC xs ys c).2.1=true:=by
 have d:=Ac c hb;rw[BR hb hc]at d;rcases d with⟨-,e1,e2⟩|⟨-, -, -,e1,e2⟩|⟨-, -, -,j,z, -,hj,hz,e1,e2, -⟩
 ·rw[e1,e2];exact hb
 ·rw[e1,e2];exact ut hb
 ·rw[e1,e2];exact BT hb hj hz
theorem Ef {s:Sr} {i:Int} {c:Cm} (ok:s.ok=true):(s.did i c).1.ok=true:=by
 have o:=ok;unfold Sr.ok at o;rw[Bool.and_eq_true]at o;unfold Sr.did;rw[if_pos ok];split
 ·rename_i q
  rw[Bool.and_eq_true]at q;unfold Sr.doing;split
  ·unfold Sr.ok
   dsimp only;rw[o.1,Ee o.2 q.1 q.2];rfl
  ·rename_i h5
   split
   ·unfold Sr.ok
    dsimp only;rw[Dq o.1 (by rw[q.2];simp;omega),o.2];rfl
   ·exact ok
 ·exact ok
end
def aI (l:Bs):Bs:=dec l.length++[32]++dec (chk l).toNat++[32]++l++[10]
def dR (l:Bs):Bs:=if bR l then aI l else[]
theorem sX (n:Nat):ce n=dec n:=by simp[ce]
theorem sY (l:Bs):((chk l).toNat:Int)=chk l:=by have:=(kD l).1;omega
theorem app (a b:Bs):(({data:=a.toArray}:ByteArray)++{data:=b.toArray})={data:=(a++b).toArray}:=ByteArray.mk_append_mk a b
theorem jN (l:Bs) (w:World) (hl:l.length<=1099511627776):
  Calls Tryz.prog 92 #[S l] w fun e w'=>e=.returned (S (aI l))/\iO w w':=by
 have c1:∀w',_:=fun w'=>ir (l.length:Nat) w' Ff Ff
 have hb:=kD l;have c2:∀w',_:=fun w'=>xL l w' hl
 have c3:∀w',_:=fun w'=>ir (chk l) w' Ff Ff
 have e3:ce (chk l)=dec (chk l).toNat:=by have h:=sX (chk l).toNat;rwa[sY]at h
 simp only[sX]at c1;simp only[e3]at c3;have d1:=eI 13 l.length Ff;have d2:=eI 5 (chk l).toNat Ff;have HF:Hid (aI l=dec l.length++[32]++dec (chk l).toNat++[32]++l++[10]):=rfl;obtain⟨x,hx⟩:=Fe (chk l)
 obtain⟨p,hp⟩:=Fe (dec l.length)
 obtain⟨q,hq⟩:=Fe (dec (chk l).toNat)
 simp only[<-hp]at c1 d1 HF;simp only[<-hq]at c3 d2 HF;simp only[<-hx]at c2 c3;clear hp hq hx e3 hb;unfold S at c1 c2 c3⊢;go_enter Tryz.func92,Tryz.ntmps92;go_wp2_with fail
 refine(c1 w).mono ?_;rintro e w1 ⟨rfl,b1⟩;have HB:Hid (iO w w1):=b1;clear b1 c1;go_wp2_with fail
 refine Fd (c2 w1) ?_;go_wp2_with fail
 refine(c3 w1).mono ?_;rintro e w2 ⟨rfl,b2⟩;have HC:Hid (iO w w2):=HB.out.trans (b2.mono HB.out.size);clear b2 c2 c3;go_wp2_with fail
 go_ret;refine⟨congrArg (fun x=>Ending.returned (Value.string x)) ?_,HC.out⟩;rw[HF.out,app,app,app,app,app]
def fZ (s:Bs):Nat:=(s.takeWhile (fun b=>b !=10)).length
theorem sV (s:Bs):fZ s<=s.length:=by
 unfold fZ;exact(List.takeWhile_prefix _).length_le
theorem j8 (b:UInt8) (s:Bs):fZ (b::s)=if b=10 then 0 else fZ s+1:=by
 unfold fZ;by_cases h:b=10
 ·simp[h]
 ·simp[h]
theorem lI (t r:Bs) (h:t.all (fun b=>b !=10)=true):fZ (t++r)=t.length+fZ r:=by
 induction t with
 |nil=>simp
 |cons b t ih=>
  simp at h;rw[List.cons_append,j8,if_neg h.1,ih (by simpa using h.2)];simp;omega
theorem yJ (s:Bs) (j:Nat) (h:(s.take j).all (fun b=>b !=10)=true) (hj:j<s.length) (e:s[j]=10):fZ s=j:=by
 have:s=s.take j++(10::s.drop (j+1)):=by
  rw[<-e,<-List.drop_eq_getElem_cons hj,List.take_append_drop]
 rw[this,lI _ _ h,j8,if_pos rfl];simp;omega
theorem qb (s:Bs) (h:(s.take s.length).all (fun b=>b !=10)=true):fZ s=s.length:=by
 rw[List.take_length]at h;have:=lI s [] h;simpa[fZ]using this
def av (s:Bs):Bs×Nat:=
 let e:=fZ s
 if e=s.length∨330<e then([],0)
 else match ay 32 (s.take e)with
  |a::b::_::_=>
   let t:=cV s (a.length+b.length+2) e
   if bR t&&decide (aI t=s.take (e+1))then(t,e+1)else([],0)
  |_=>([],0)
theorem Ax {ps:List Bs} (h:¬ps.length<3):∃a b c rest,ps=a::b::c::rest:=by
 match ps,h with
 |[],h=>simp at h
 |[_],h=>simp at h
 |[_,_],h=>simp at h
 |a::b::c::rest,_=>exact⟨a,b,c,rest,rfl⟩
theorem vz (c:UInt8) (l:Bs):((ay c l).map List.length).sum+(ay c l).length=l.length+1:=by
 induction l with
 |nil=>simp[ay]
 |cons b t ih=>
  rw[ay];split
  ·simp;omega
  ·cases h:ay c t with
   |nil=>exact absurd h (dV c t)
   |cons p ps=>rw[h]at ih;simp[eR]at ih⊢;omega
theorem sW (s:Bs) (w:World) (hl:s.length<=1048576):
  Calls Tryz.prog 126 #[S s] w fun e w'=>e=.returned (.tuple #[S (av s).1,.int .i64 (av s).2])/\iO w w':=by
 have hsz:(⟨s.toArray⟩:ByteArray).size=s.length:=rfl;have csp:∀(t:Bs) (w':World),t.length<=1048576->_:=fun t w' h=>pm t 32 w' h
 have cpl:∀(t:Bs) (w':World),t.length<=1099511627776->_:=fun t w' h=>pn t w' h
 have cfr:∀(t:Bs) (w':World),t.length<=1099511627776->_:=fun t w' h=>jN t w' h
 unfold S at csp cpl cfr⊢;go_enter Tryz.func126,Tryz.ntmps126;go_wp2;go_loop [4] (fun i=>∃j:Nat,j<=s.length/\i=.int .i64 j/\Hid ((s.take j).all (fun b=>b !=10)=true)) (fun i=>s.length-(intOf i).toNat)
 case atStart=>exact⟨0,Nat.zero_le _,rfl,by simp[Hid]⟩
 case round=>
  obtain⟨j,hj,rfl,HX⟩:=hrel;by_cases hlt:(j:Int)<(s.length:Int)
  ·have h1:j<s.length:=by omega
   have ht:=eN s j h1 10 10 rfl;by_cases hb:s[j]=10
   ·rw[show decide (s[j]=10)=true by simp[hb]]at ht
    have HL:Hid (fZ s=j):=yJ s j HX.out h1 hb;clear hb HX;have htn:(((((⟨s.toArray⟩:ByteArray)[j]'(show j<(⟨s.toArray⟩:ByteArray).size from h1)).toNat:Nat):Int) !=10)=false:=by simp only[bne,ht,Bool.not_true]
    have hjs:((j:Int)==(s.length:Int))=false:=by simp;omega
    by_cases h330:330<(j:Int)
    ·have HF:Hid (av s=([],0)):=by
      have:330<j:=by omega
      simp[Hid,av,HL.out,this]
     go_wp2
     go_ret2
     rw[HF.out];exact⟨rfl,Below.refl _ _⟩
    ·have hex:=cB s 0 j
     have e0:cV s 0 j=s.take j:=by simp[cV]
     rw[e0]at hex;have hF:av s=match ay 32 (s.take j)with
      |a::b::_::_=>if bR (cV s (a.length+b.length+2) j)&&decide (aI (cV s (a.length+b.length+2) j)=s.take (j+1))then(cV s (a.length+b.length+2) j,j+1)else([],0)
      |_=>([],0):=by
      have h2:¬(j=s.length∨330<j):=by omega
      unfold av;rw[HL.out];simp only[h2,if_false]
     have hsum:=vz 32 (s.take j);have htl:(s.take j).length=j:=by simp;omega
     obtain⟨ps,hps⟩:=Fe (ay 32 (s.take j))
     have cs:=csp (s.take j) w Ff;rw[<-hps]at hF hsum cs;obtain⟨q,hq⟩:=Fe (s.take j)
     rw[<-hq]at hex cs htl hsum;have HQ:Hid (q=s.take j):=hq;clear e0 csp hps hq HL;have HF:Hid (av s=_):=hF;clear hF;go_wp2_with fail
     refine cs.mono ?_;rintro e w1 ⟨u,rfl,o1,b1⟩;have HB:Hid (iO w w1):=b1;clear b1 cs;by_cases h3:ps.length<3
     ·have HE:Hid (av s=([],0)):=by
       rw[Hid,HF.out]
       match ps,h3 with
       |[],_=>rfl
       |[_],_=>rfl
       |[_,_],_=>rfl
      obtain⟨ao,cap,rfl, -⟩:=o1.reads;have h3':(ps.length:Int)<3:=by omega
      clear o1 hsum HF;go_wp2_with fail
      go_ret2
      rw[HE.out];exact⟨rfl,HB.out⟩
     ·obtain⟨a,b,c,rest,rfl⟩:∃a b c rest,ps=a::b::c::rest:=by
       exact Ax h3
      obtain⟨g,cap,rfl, -⟩:=World.ownsRow.form o1 Fg;have c0:w1.cell? ⟨g,0,none⟩=some (S a):=by
       have:=World.ownsRow.cellAt (w:=w1) o1 0 Fg;simpa using this
      have c1:w1.cell? ⟨g,1,none⟩=some (S b):=by
       have:=World.ownsRow.cellAt (w:=w1) o1 1 Fg;simpa using this
      unfold S at c0 c1;have hab:a.length+b.length+2<=j:=by simp at hsum;omega
      have za:(⟨a.toArray⟩:ByteArray).size=a.length:=rfl;have zb:(⟨b.toArray⟩:ByteArray).size=b.length:=rfl;obtain⟨n,hn⟩:=Fe ((a::b::c::rest).length)
      have hn3:(3:Int)<=n:=by simp at hn;omega
      rw[<-hn];clear hn o1 hsum h3;go_wp2_with fail
      go_quiet (fail)
      obtain⟨w2,hw2⟩:=Fe (w1.drewN nq)
      rw[<-hw2];have HB1:Hid (iO w w2):=by rw[hw2];exact below_drewN HB.out nq
      clear hw2 c0 c1 HB;have hex2:=cB s (a.length+b.length+2) j;have hex3:=cB s 0 (j+1);have e3:cV s 0 (j+1)=s.take (j+1):=by simp[cV]
      rw[e3]at hex3;have hlt2:(cV s (a.length+b.length+2) j).length<=1099511627776:=by rw[BJ s _ _ hj];omega
      obtain⟨t,ht2⟩:=Fe (cV s (a.length+b.length+2) j)
      obtain⟨z,hz2⟩:=Fe (s.take (j+1))
      rw[<-ht2]at hex2 hlt2;rw[<-hz2]at hex3;have HT:Hid (av s=if bR t&&decide (aI t=z)then(t,j+1)else([],0)):=by rw[Hid,HF.out,<-ht2,<-hz2]
      have c5:=cpl t (w2.drew) hlt2;have c6:=cfr t (w2.drew) hlt2;have HB2:Hid (iO w (w2.drew)):=below_drewN HB1.out 1;have hj1:(j:Int)+1<=(s.length:Int):=by omega
      have hj0:(0:Int)<=(j:Int)+1:=by omega
      have hwr:IntKind.i64.wrap ((j:Int)+1)=(j:Int)+1:=by rw[IntKind.wrap_i64];omega
      clear e3 ht2 hz2 HF cpl cfr;by_cases hp:bR t=true
      ·rw[hp]at c5
       by_cases hf:aI t=z
       ·have HE:Hid (av s=(t,j+1)):=by rw[Hid,HT.out];simp[hp,hf]
        go_wp2_with fail
        go_region_held3 (fun w'=>True) (trivial)
         (first
          |(go_at_call 169;refine c5.mono ?_;rintro e w' ⟨rfl,hw'⟩;subst w')
          |(go_at_call 92;refine c6.mono ?_;rintro e w3 ⟨rfl,b3⟩))
        have HB3:Hid (iO w w3):=HB2.out.trans (b3.mono HB2.out.size);go_wp2_with fail
        go_ret2
        rw[HE.out];exact⟨rfl,HB3.out⟩
       ·have HE:Hid (av s=([],0)):=by rw[Hid,HT.out];simp[hf]
        have hbeq:(aI t==z)=false:=by simpa using hf
        go_wp2_with fail
        go_region_held3 (fun w'=>True) (trivial)
         (first
          |(go_at_call 169;refine c5.mono ?_;rintro e w' ⟨rfl,hw'⟩;subst w')
          |(go_at_call 92;refine c6.mono ?_;rintro e w3 ⟨rfl,b3⟩))
        have HB3:Hid (iO w w3):=HB2.out.trans (b3.mono HB2.out.size);go_wp2_with fail
        go_ret2
        rw[HE.out];exact⟨rfl,HB3.out⟩
      ·have hp':bR t=false:=by simpa using hp
       have c7:∀w',_:=fun w'=>pn t w' hlt2
       unfold S at c7;simp only[hp']at c7;have HE:Hid (av s=([],0)):=by rw[Hid,HT.out];simp[hp']
       clear c5 c6;go_wp2_with fail
       go_quiet ((go_at_call 169;exact Calls.quiet_of_same (c7 _)))
       go_wp2_with fail
       go_ret2
       rw[HE.out];exact⟨rfl,below_drewN HB1.out _⟩
   ·rw[show decide (s[j]=10)=false by simp[hb]]at ht
    have HS:Hid ((s.take (j+1)).all (fun b=>b !=10)=true):=by
     rw[Hid,fO s j h1,List.all_append,HX.out];simp[hb]
    clear hb HX;go_wp2
    go_round
    case rel=>exact⟨j+1,by omega,by go_num,HS⟩
    case measure=>simp[intOf];omega
  ·have HL:Hid (fZ s=s.length):=qb s (by rw[show s.length=j by omega];exact HX.out)
   have HF:Hid (av s=([],0)):=by simp[Hid,av,HL.out]
   have hjs:((j:Int)==(s.length:Int))=true:=by simp;omega
   go_wp2
   go_ret2
   rw[HF.out];exact⟨rfl,Below.refl _ _⟩
def cy:Nat->Bs->List Bs×Nat
 |0,_=>([],0)
 |k+1,s=>if(av s).2=0 then([],0)else((av s).1::(cy k (s.drop (av s).2)).1,(av s).2+(cy k (s.drop (av s).2)).2)
def ar (s:Bs):List Bs×Nat:=cy 2000 s
def iM (s:Bs) (out:List Bs) (a:Nat):Prop:=ar s=(out++(cy (2000-out.length) (s.drop a)).1,a+(cy (2000-out.length) (s.drop a)).2)
theorem lJ (s:Bs):(av s).2<=s.length:=by
 have h:=sV s;unfold av;dsimp only;split
 ·simp
 ·rename_i hc
  split
  ·split
   ·simp;omega
   ·simp
  ·simp
theorem iM.start (s:Bs):iM s [] 0:=by simp[iM,ar]
theorem iM.next {s:Bs} {out:List Bs} {a:Nat} (h:iM s out a) (hl:out.length<2000) (hn:(av (s.drop a)).2≠0):iM s (out++[(av (s.drop a)).1]) (a+(av (s.drop a)).2):=by
 unfold iM at h⊢;rw[h];obtain⟨k,hk⟩:∃k,2000-out.length=k+1:=⟨2000-out.length-1,by omega⟩
 have hk2:2000-(out++[(av (s.drop a)).1]).length=k:=by simp;omega
 rw[hk,hk2,cy,if_neg hn,List.drop_drop];simp[Nat.add_assoc]
theorem iM.stop {s:Bs} {out:List Bs} {a:Nat} (h:iM s out a) (hn:(av (s.drop a)).2=0∨2000<=out.length):ar s=(out,a):=by
 rw[h];rcases hn with hn|hn
 ·cases hk:2000-out.length with
  |zero=>simp[cy]
  |succ k=>rw[cy,if_pos hn];simp
 ·rw[show 2000-out.length=0 by omega];simp[cy]
theorem tc (s:Bs) (w:World) (hl:s.length<=1048576):
  Calls Tryz.prog 91 #[S s] w fun e w'=>∃u,e=.returned (.tuple #[u,.int .i64 (ar s).2])/\dl w' w.heap.size u (ar s).1/\iO w w':=by
 obtain⟨i0,hi,hz0,hz1,hz2⟩:=info_parts GB;have hsz:(⟨s.toArray⟩:ByteArray).size=s.length:=rfl;unfold S;go_enter Tryz.func91,Tryz.ntmps91;go_wp2;go_loopw [4,5] (fun o u wr=>∃(out:List Bs) (a:Nat) (ao:Option Addr) (cap:Nat),o=.slice ao out.length cap/\u=.int .i64 a/\(a:Int)<=s.length/\(out.length:Int)<=2000/\Hid (dl wr w.heap.size (.slice ao out.length cap) out/\iO w wr/\iM s out a)) (fun o _ _=>2000-(match o with| .slice _ n _=>n|_=>0))
 case atStart=>exact⟨[],0,_,_,rfl,rfl,by omega,by simp,World.ownsRow_lit w #[] 0 (Nat.le_refl _) (Nat.zero_le _) rfl,Fc,iM.start s⟩
 case round=>
  obtain⟨out,a,ao,cap,rfl,rfl,ha,ho,HR⟩:=hrel;by_cases hlt:(out.length:Int)<2000
  ·have hex:=cB s a s.length
   have e0:cV s a s.length=s.drop a:=by simp[cV]
   rw[e0]at hex;have c1:=sW (s.drop a) wr (by simp;omega);have hfl:=lJ (s.drop a);have hdl:(s.drop a).length=s.length-a:=by simp
   obtain⟨q,hq⟩:=Fe (s.drop a)
   rw[<-hq]at hex c1 hfl hdl;obtain⟨t,ht⟩:=Fe ((av q).1)
   obtain⟨n,hn⟩:=Fe ((av q).2)
   rw[<-ht,<-hn]at c1;rw[<-hn]at hfl;unfold S at c1;have HN:Hid (n≠0->iM s (out++[t]) (a+n)):=fun h=>by
    rw[ht,hn,hq];exact HR.out.2.2.next Ff (by rw[<-hq,<-hn];exact h)
   have HZ:Hid (n=0->ar s=(out,a)):=fun h=>HR.out.2.2.stop (.inl (by rw[<-hq,<-hn];exact h))
   clear e0 hq ht hn;go_wp2_with fail
   refine c1.mono ?_;rintro e w1 ⟨rfl,b1⟩;clear c1;have HR1:Hid (dl w1 w.heap.size (.slice ao out.length cap) out/\iO w w1):=⟨HR.out.1.below b1,HR.out.2.1.trans (b1.mono HR.out.2.1.size)⟩
   clear b1 HR;by_cases h0:n=0
   ·subst h0
    have HF:=HZ.out rfl;go_wp2_with fail
    go_ret2
    rw[HF];exact⟨_,rfl,HR1.out.1,HR1.out.2⟩
   ·have h0':((n:Int)==0)=false:=by simpa using h0
    have hown:=HR1.out.1;have hbs:=HR1.out.2.size;unfold dl at hown;go_wp2_with (at_builtin;refine wpList_append_own _ rfl _ _ 115 rfl w.heap.size 9 i0 (.string ⟨#[]⟩) 1 16 Tryz.underlying115 hi hz0 hz1 hz2 rfl Fh _ _ _ rfl (hown.alloc _) _ 1 1 [S t] rfl rfl (BL w1 t) (by simp[Value.oneCell',S]) (by unfold maxLen;omega) Ff (by simp;omega) ?_)
    intro v' w2 hown' hgrow _;have HO:Hid (dl w2 w.heap.size v' (out++[t])/\iO w w2):=sE HR1.out.1 HR1.out.2 hown' hgrow;clear hown hown' hgrow HR1;obtain⟨ao2,cap2,hev, -⟩:=HO.out.1.reads;subst hev;go_wp2;go_roundw
    case rel=>exact⟨out++[t],a+n,ao2,cap2,rfl,by go_num,by omega,by simp;omega,HO.out.1,HO.out.2,HN.out h0⟩
    case measure=>simp;omega
  ·have HF:Hid (ar s=(out,a)):=HR.out.2.2.stop (.inr Ff)
   go_wp2
   go_ret2
   rw[HF.out];exact⟨_,rfl,HR.out.1,HR.out.2.1⟩
section
open Go.RowKit
theorem sZ (n:Nat):digit n≠10/\digit n≠32:=by
 have h:=Nat.mod_lt n (show 0<10 by omega);unfold digit;have:∀d,d<10->UInt8.ofNat (48+d)≠10/\UInt8.ofNat (48+d)≠32:=by decide
 exact this _ h
theorem iZ (n:Nat):∀b∈dec n,b≠10/\b≠32:=by
 induction n using Nat.strongRecOn with
 |ind n ih=>
  intro b hb;rw[dec]at hb;split at hb
  ·simp at hb;subst hb;exact sZ n
  ·rcases List.mem_append.1 hb with h|h
   ·exact ih (n/10) Ff b h
   ·simp at h;subst h;exact sZ n
theorem fE (c:UInt8) (a r:Bs) (h:∀b∈a,b≠c):ay c (a++c::r)=a::ay c r:=by
 induction a with
 |nil=>simp[ay]
 |cons b a ih=>
  rw[List.cons_append,ay,if_neg (h b Fg),ih (fun x hx=>h x (by simp[hx]))];rfl
def body (t:Bs):Bs:=dec t.length++32::(dec (chk t).toNat++32::t)
theorem fc (t:Bs):aI t=body t++[10]:=by simp[aI,body]
theorem Ay {t:Bs} (h:bR t=true):∀b∈t,b≠10:=by
 simp[bR]at h;exact h.1
theorem qe {t:Bs} (h:bR t=true):t.length<=300:=by
 simp[bR]at h;exact h.2
theorem nz {t:Bs} (h:bR t=true):(body t).all (fun b=>b !=10)=true:=by
 rw[List.all_eq_true];intro b hb;simp only[bne_iff_ne,ne_eq];unfold body at hb;rcases List.mem_append.1 hb with hb|hb
 ·exact(iZ _ b hb).1
 ·rcases List.mem_cons.1 hb with rfl|hb
  ·decide
  ·rcases List.mem_append.1 hb with hb|hb
   ·exact(iZ _ b hb).1
   ·rcases List.mem_cons.1 hb with rfl|hb
    ·decide
    ·exact Ay h b hb
theorem Az {t:Bs} (h:bR t=true):(body t).length<=330:=by
 have h1:=eI 2 t.length (by have:=qe h;omega);have h2:=eI 5 (chk t).toNat (by have:=kD t;omega);have h3:=qe h;simp[body];omega
theorem gA (t:Bs):(aI t).length=(body t).length+1:=by simp[fc]
theorem Ch (a b:Bs) (n:Nat) (h:n=a.length) (m:Nat) (hm:m=(a++b).length) (r:Bs):cV (a++b++r) n m=b:=by
 subst h hm;unfold cV;rw[List.take_left,List.drop_left]
theorem nN {t:Bs} (h:bR t=true) (r:Bs):av (aI t++r)=(t,(aI t).length):=by
 have hl:fZ (aI t++r)=(body t).length:=by
  rw[fc,List.append_assoc,lI _ _ (nz h)];simp[j8]
 have hb:=Az h;have hf:=gA t;have htake:(aI t++r).take (body t).length=body t:=by
  rw[fc,List.append_assoc,List.take_left]
 have htake1:(aI t++r).take ((body t).length+1)=aI t:=by
  rw[<-hf,List.take_left]
 have hsp:ay 32 (body t)=dec t.length::dec (chk t).toNat::ay 32 t:=by
  unfold body;rw[fE 32 _ _ (fun b hb=>(iZ _ b hb).2),fE 32 _ _ (fun b hb=>(iZ _ b hb).2)]
 have hcut:cV (aI t++r) ((dec t.length).length+(dec (chk t).toNat).length+2) (body t).length=t:=by
  have e:aI t++r=(dec t.length++32::(dec (chk t).toNat++[32]))++t++(10::r):=by simp[aI]
  rw[e];refine Ch _ _ _ (by simp;omega) _ ?_ _;simp[body]
 unfold av;rw[hl];have hno:¬((body t).length=(aI t++r).length∨330<(body t).length):=by
  rw[List.length_append,hf];omega
 simp only[hno,if_false,htake,htake1,hsp];cases hs:ay 32 t with
 |nil=>exact absurd hs (dV 32 t)
 |cons p ps=>
  simp only[hcut];simp[h,hf]
theorem gg (s:Bs) (h:(av s).2≠0):bR (av s).1=true/\aI (av s).1=s.take (av s).2/\(av s).2=(aI (av s).1).length:=by
 have hl:=sV s;unfold av at h⊢;dsimp only at h⊢;split at h
 ·exact absurd rfl h
 ·rename_i hno
  rw[if_neg hno]at⊢;split at h
  ·rename_i a b c rest heq
   split at h
   ·rename_i hc
    simp only[Bool.and_eq_true,decide_eq_true_eq]at hc;simp only[hc,decide_true,Bool.and_self,if_true];refine⟨trivial,trivial,?_⟩;simp;omega
   ·exact absurd rfl h
  ·exact absurd rfl h
theorem mv (s:Bs) (h:(av s).2=0):av s=([],0):=by
 unfold av at h⊢;dsimp only at h⊢;split
 ·rfl
 ·rename_i hno
  rw[if_neg hno]at h;split
  ·rename_i a b c rest heq
   simp only[heq]at h;split
   ·rename_i hc
    rw[if_pos hc]at h;simp at h
   ·rfl
  ·rfl
def cat (ts:List Bs):Bs:=(ts.map aI).flatten
theorem i6 (t:Bs) (ts:List Bs):cat (t::ts)=aI t++cat ts:=by simp[cat]
theorem kM (ts:List Bs) (t:Bs):cat (ts++[t])=cat ts++aI t:=by simp[cat]
theorem nO (t:Bs):0<(aI t).length:=by rw[gA];omega
theorem i7 (ts:List Bs) (r:Bs) (hp:∀t∈ts,bR t=true) (k:Nat) (hk:ts.length<=k) (hr:k=ts.length∨(av r).2=0):cy k (cat ts++r)=(ts,(cat ts).length):=by
 induction ts generalizing k with
 |nil=>
  cases k with
  |zero=>simp[cy,cat]
  |succ k=>
   have h0:(av r).2=0:=by
    rcases hr with h|h
    ·simp at h
    ·exact h
   rw[cy];simp[cat,h0]
 |cons t ts ih=>
  cases k with
  |zero=>simp at hk
  |succ k=>
   have ht:=nN (hp t Fg) (cat ts++r);have hpos:=nO t;rw[cy,i6,List.append_assoc,ht];have hne:¬(aI t).length=0:=by omega
   simp only[hne,if_false,List.drop_left];rw[ih (fun x hx=>hp x (by simp[hx])) k (by simpa using hk) (by rcases hr with h|h;exact .inl (by simpa using h);exact .inr h)];simp
theorem pv (k:Nat):∀s:Bs,(∀t∈(cy k s).1,bR t=true)/\s.take (cy k s).2=cat (cy k s).1/\(cy k s).2=(cat (cy k s).1).length/\(cy k s).1.length<=k:=by
 induction k with
 |zero=>intro s;simp[cy,cat]
 |succ k ih=>
  intro s;rw[cy];by_cases h:(av s).2=0
  ·simp[h,cat]
  ·obtain⟨h1,h2,h3⟩:=gg s h
   obtain⟨i1,i2,i3,i4⟩:=ih (s.drop (av s).2);simp only[h,if_false];refine⟨fun t ht=>?_,?_,?_,?_⟩
   ·rcases List.mem_cons.1 ht with rfl|ht
    ·exact h1
    ·exact i1 t ht
   ·rw[i6,List.take_add,i2,<-h2]
   ·rw[i6,List.length_append,<-i3,<-h3]
   ·simp;omega
theorem dI (s:Bs):(∀t∈(ar s).1,bR t=true)/\s.take (ar s).2=cat (ar s).1/\(ar s).2=(cat (ar s).1).length/\(ar s).1.length<=2000:=pv 2000 s
theorem j9 (s:Bs):(ar s).2<=s.length:=by
 obtain⟨_,h2,h3,_⟩:=dI s;have:=congrArg List.length h2;rw[List.length_take]at this;omega
theorem mw {q:Bs} (h:q.all (fun b=>b !=10)=true):(av q).2=0:=by
 have:fZ q=q.length:=qb q (by rw[List.take_length];exact h);simp[av,this]
end
section
open Go.RowKit
theorem AA (xs:List Bs) (j:Nat) (h:j<xs.length):cat (xs.take (j+1))=cat (xs.take j)++aI (xs.getD j []):=by
 rw[List.take_succ_eq_append_getElem h,kM];simp[h]
theorem kN (xs:List Bs) (j:Nat):(cat (xs.take j)).length<=(cat xs).length:=by
 have h2:cat xs=cat (xs.take j)++cat (xs.drop j):=by rw[cat,cat,cat,<-List.flatten_append,<-List.map_append,List.take_append_drop]
 rw[h2,List.length_append];omega
theorem vA {l:Bs} (h:bR l=true):l.length<=300:=by
 simp only[bR,Bool.and_eq_true,decide_eq_true_eq]at h;exact h.2
theorem mx {l:Bs} (h:bR l=true):dR l=aI l:=by simp[dR,h]
theorem kO (xs:List Bs) (j:Nat) (h:j<xs.length):xs.getD j []∈xs:=by simp[h]
end
structure Rc where
 e:Int
 s:Int
 t:Int
 n:Int
def d8 (r q:Rc):Bool:=decide (r.e=q.e)&&decide (r.s=q.s)&&decide (r.t=q.t)&&decide (r.n=q.n)
def Rc.zero:Rc:=⟨0,0,0,0⟩
def epI (n:Int):Bool:=decide (0<=n)&&decide (n<=100000)
def stI (n:Int):Bool:=decide (1<=n)&&decide (n<=3)
def Rc.ok (r:Rc):Bool:=epI r.e&&stI r.s&&epI r.t&&epI r.n
def Rc.Fit (r:Rc):Prop:=(-9223372036854775808<=r.e/\r.e<=9223372036854775807)/\(-9223372036854775808<=r.s/\r.s<=9223372036854775807)/\(-9223372036854775808<=r.t/\r.t<=9223372036854775807)/\(-9223372036854775808<=r.n/\r.n<=9223372036854775807)
theorem Rc.ok_iff (r:Rc):r.ok=true↔(0<=r.e/\r.e<=100000)/\(1<=r.s/\r.s<=3)/\(0<=r.t/\r.t<=100000)/\(0<=r.n/\r.n<=100000):=by
 simp[Rc.ok,epI,stI,and_assoc]
def de (r:Rc):Array Value:=#[.int .i64 r.e,.int .i64 r.s,.int .i64 r.t,.int .i64 r.n]
def RV (r:Rc):Value:=.agg (de r)
theorem uI (x lo hi:Int) (w:World):
  Calls Tryz.prog 44 #[.int .i64 x,.int .i64 lo,.int .i64 hi] w fun e w'=>e=.returned (.bool (decide (lo<=x)&&decide (x<=hi)))/\w'=w:=by
 by_cases h0:lo<=x
 ·by_cases h1:x<=hi
  ·have he:(decide (lo<=x)&&decide (x<=hi))=true:=by simp[h0,h1]
   rw[he];clear he;go_enter Tryz.func44,Tryz.ntmps44;go_wp2;go_ret;exact⟨af Fg,rfl⟩
  ·have he:(decide (lo<=x)&&decide (x<=hi))=false:=by simp[h1]
   rw[he];clear he;go_enter Tryz.func44,Tryz.ntmps44;go_wp2;go_ret;exact⟨af Fg,rfl⟩
 ·have he:(decide (lo<=x)&&decide (x<=hi))=false:=by simp[h0]
  rw[he];clear he;go_enter Tryz.func44,Tryz.ntmps44;go_wp2;go_ret;exact⟨af Fg,rfl⟩
theorem kx (x:Int) (w:World):
  Calls Tryz.prog 88 #[.int .i64 x] w fun e w'=>e=.returned (.bool (epI x))/\w'=w:=by
 have c1:=uI x 0 100000 w;unfold epI;go_enter Tryz.func88,Tryz.ntmps88;go_wp2_with fail
 refine Fd c1 ?_;clear c1;go_wp2_with fail
 go_ret;exact⟨rfl,rfl⟩
theorem ky (x:Int) (w:World):
  Calls Tryz.prog 221 #[.int .i64 x] w fun e w'=>e=.returned (.bool (epI x))/\w'=w:=by
 by_cases h0:0<=x
 ·by_cases h1:x<=100000
  ·have he:epI x=true:=by simp[epI,h0,h1]
   rw[he];clear he;go_enter Tryz.func221,Tryz.ntmps221;go_wp2;go_ret;exact⟨af Fg,rfl⟩
  ·have he:epI x=false:=by simp[epI,h1]
   rw[he];clear he;go_enter Tryz.func221,Tryz.ntmps221;go_wp2;go_ret;exact⟨af Fg,rfl⟩
 ·have he:epI x=false:=by simp[epI,h0]
  rw[he];clear he;go_enter Tryz.func221,Tryz.ntmps221;go_wp2;go_ret;exact⟨af Fg,rfl⟩
theorem wX (x:Int) (w:World):
  Calls Tryz.prog 222 #[.int .i64 x] w fun e w'=>e=.returned (.bool (stI x))/\w'=w:=by
 by_cases h0:1<=x
 ·by_cases h1:x<=3
  ·have he:stI x=true:=by simp[stI,h0,h1]
   rw[he];clear he;go_enter Tryz.func222,Tryz.ntmps222;go_wp2;go_ret;exact⟨af Fg,rfl⟩
  ·have he:stI x=false:=by simp[stI,h1]
   rw[he];clear he;go_enter Tryz.func222,Tryz.ntmps222;go_wp2;go_ret;exact⟨af Fg,rfl⟩
 ·have he:stI x=false:=by simp[stI,h0]
  rw[he];clear he;go_enter Tryz.func222,Tryz.ntmps222;go_wp2;go_ret;exact⟨af Fg,rfl⟩
section
open Go.RowKit
def gO:Bs:=[114,101,99,111,114,100]
def cz (r:Rc):Bs:=gO++32::(ce r.e++32::(ce r.s++32::(ce r.t++32::ce r.n)))
def df (ws:List Bs):Rc:=⟨num (ws.getD 0 []),num (ws.getD 1 []),num (ws.getD 2 []),num (ws.getD 3 [])⟩
def mS (ws:List Bs):Bool:=decide (ws.length=4)&&ws.all okN&&(df ws).ok
def cF (s:Bs):Option Rc:=if(ay 32 s).head? =some gO/\mS (ay 32 s).tail=true then some (df (ay 32 s).tail)else none
theorem uJ (r:Rc) (h:r.ok=true):ay 32 (cz r)=[gO,dec r.e.toNat,dec r.s.toNat,dec r.t.toNat,dec r.n.toNat]:=by
 rw[Rc.ok_iff]at h;unfold cz;rw[eh h.1.1,eh (by omega:0<=r.s),eh h.2.2.1.1,eh h.2.2.2.1];have hr:∀b∈gO,b≠32:=by decide
 have hd:∀n,∀b∈dec n,b≠32:=fun n b hb=>(iZ n b hb).2
 rw[fE 32 _ _ hr,fE 32 _ _ (hd _),fE 32 _ _ (hd _),fE 32 _ _ (hd _),uD 32 _ (hd _)]
theorem wZ (r:Rc) (h:r.ok=true):cF (cz r)=some r:=by
 have hs:=uJ r h;have hk:=(Rc.ok_iff r).1 h;obtain⟨a1,a2⟩:=lx r.e.toNat Ff;obtain⟨b1,b2⟩:=lx r.s.toNat Ff;obtain⟨c1,c2⟩:=lx r.t.toNat Ff;obtain⟨d1,d2⟩:=lx r.n.toNat Ff;have hr:df [dec r.e.toNat,dec r.s.toNat,dec r.t.toNat,dec r.n.toNat]=r:=by
  unfold df;simp only[List.getD_cons_zero,List.getD_cons_succ,a2,b2,c2,d2];obtain⟨e,s,t,n⟩:=r;dsimp only at hk⊢;simp only[Rc.mk.injEq];omega
 unfold cF;rw[hs];simp only[List.head?_cons,List.tail_cons,hr];have hg:mS [dec r.e.toNat,dec r.s.toNat,dec r.t.toNat,dec r.n.toNat]=true:=by
  unfold mS;rw[hr,h];simp[a1,b1,c1,d1]
 simp[hg]
theorem xa (s:Bs) (r:Rc) (h:cF s=some r):r.ok=true/\cz r=s:=by
 unfold cF at h;split at h
 ·rename_i hc
  obtain⟨h1,h2⟩:=hc;simp only[Option.some.injEq]at h;have hj:=uG 32 s;cases hs:ay 32 s with
  |nil=>exact absurd hs (dV 32 s)
  |cons w0 ws=>
   rw[hs]at h1 h2 h hj;simp only[List.head?_cons,Option.some.injEq,List.tail_cons]at h1 h2 h;unfold mS at h2;simp only[Bool.and_eq_true,decide_eq_true_eq]at h2;obtain⟨⟨h4,ha⟩,hk⟩:=h2;rw[h]at hk
   match ws,h4 with
   |[a,b,c,d],_=>
    have hk':=(Rc.ok_iff r).1 hk;refine⟨hk,?_⟩;simp only[List.all_cons,List.all_nil,Bool.and_true,Bool.and_eq_true]at ha;subst h h1;simp only[df,List.getD_cons_zero,List.getD_cons_succ]at hk'⊢;unfold cz;simp only;rw[eh hk'.1.1,eh (by omega:0<=num b),eh hk'.2.2.1.1,eh hk'.2.2.2.1];rw[jz a ha.1 hk'.1.1,jz b ha.2.1 Ff,jz c ha.2.2.1 hk'.2.2.1.1,jz d ha.2.2.2 hk'.2.2.2.1];rw[<-hj];simp[ib]
 ·simp at h
theorem Bt (s:Bs) (r:Rc) (h:cF s=some r):r.ok=true:=(xa s r h).1
end
section
open Go.RowKit
def posB (c:UInt8) (l:Bs):Nat:=(l.takeWhile (fun b=>b !=c)).length
theorem ny (c:UInt8) (l:Bs):posB c l<=l.length:=(List.takeWhile_prefix _).length_le
theorem lG (c b:UInt8) (l:Bs):posB c (b::l)=if b=c then 0 else posB c l+1:=by
 unfold posB;by_cases h:b=c
 ·simp[h]
 ·simp[h]
theorem sP (c:UInt8) (l:Bs):posB c l=l.length↔l.all (fun b=>b !=c)=true:=by
 induction l with
 |nil=>simp[posB]
 |cons b l ih=>
  rw[lG];by_cases h:b=c
  ·simp[h]
  ·simp[h,ih]
def behind (c:UInt8) (l:Bs):Bs:=l.drop (posB c l+1)
def co (c:UInt8) (l:Bs):Bs:=l.take (posB c l)
theorem jL (c:UInt8) (l:Bs):(behind c l).length<=l.length:=by simp[behind]
def iX (c:UInt8) (l:Bs):Nat:=(l.takeWhile (fun b=>b !=c)).length
def dh (c:UInt8):Nat->Bs->List Bs
 |0,l=>[l]
 |k+1,l=>if iX c l=l.length then[l]else l.take (iX c l)::dh c k (l.drop (iX c l+1))
theorem fm (c:UInt8) (l:Bs):ay c l=if iX c l=l.length then[l]else l.take (iX c l)::ay c (l.drop (iX c l+1)):=by
 induction l with
 |nil=>simp[ay,iX]
 |cons b l ih=>
  by_cases h:b=c
  ·subst h
   simp[ay,iX]
  ·have hp:iX c (b::l)=iX c l+1:=by simp[iX,h]
   rw[ay,if_neg h,ih,hp];by_cases h2:iX c l=l.length
   ·simp[h2,eR]
   ·simp[h2,eR]
theorem vu (c:UInt8) (l:Bs):(ay c l).length<=l.length+1:=by
 induction l with
 |nil=>simp[ay]
 |cons b l ih=>
  rw[ay];split
  ·simp;omega
  ·cases hs:ay c l with
   |nil=>simp[eR]
   |cons p ps=>rw[hs]at ih;simp[eR]at ih⊢;omega
theorem yE (c:UInt8) (k:Nat):∀l:Bs,dh c k l=ay c l∨((dh c k l).length=k+1/\k+1<(ay c l).length):=by
 induction k with
 |zero=>
  intro l;rw[dh,fm];by_cases h:iX c l=l.length
  ·simp[h]
  ·right
   have:=dV c (l.drop (iX c l+1));have:=List.length_pos_iff.2 this;simp[h];omega
 |succ k ih=>
  intro l;rw[dh,fm];by_cases h:iX c l=l.length
  ·simp[h]
  ·simp only[h,if_false]
   rcases ih (l.drop (iX c l+1))with e|⟨e1,e2⟩
   ·left;rw[e]
   ·right;simp only[List.length_cons];omega
theorem kI (c:UInt8) (l:Bs):iX c l=posB c l:=rfl
end
section
open Go.RowKit
def cJ:Nat->Nat->Bs->List (Bs×Nat)
 |0,_,_=>[]
 |k+1,a,s=>if(av (s.drop a)).2=0 then[]else((av (s.drop a)).1,a+(av (s.drop a)).2)::cJ k (a+(av (s.drop a)).2) s
def yn (a:Nat) (l:List (Bs×Nat)):Nat:=l.foldl (fun _ x=>x.2) a
theorem xM (s:Bs):∀(k a:Nat),(cJ k a s).map Prod.fst=(cy k (s.drop a)).1/\yn a (cJ k a s)=a+(cy k (s.drop a)).2:=by
 intro k
 induction k with
 |zero=>intro a;simp[cJ,cy,yn]
 |succ k ih=>
  intro a;rw[cJ,cy];by_cases h:(av (s.drop a)).2=0
  ·simp[h,yn]
  ·have:=ih (a+(av (s.drop a)).2)
   rw[<-List.drop_drop]at this;rw[if_neg h,if_neg h];refine⟨by simp[this.1],?_⟩;show yn (a+(av (s.drop a)).2) (cJ k (a+(av (s.drop a)).2) s)=_;rw[this.2];simp only;omega
def bV (s:Bs):List (Bs×Nat):=cJ 2000 0 s
theorem im (s:Bs):(bV s).map Prod.fst=(ar s).1:=by have:=(xM s 2000 0).1;simpa[ar,bV]using this
def mt (s:Bs) (pre:List (Bs×Nat)) (a:Nat):Prop:=bV s=pre++cJ (2000-pre.length) a s
theorem mt.start (s:Bs):mt s [] 0:=by simp[mt,bV]
theorem mt.next {s:Bs} {pre:List (Bs×Nat)} {a:Nat} (h:mt s pre a) (hl:pre.length<2000) (hn:(av (s.drop a)).2≠0):
  mt s (pre++[((av (s.drop a)).1,a+(av (s.drop a)).2)]) (a+(av (s.drop a)).2)/\pre.length<(bV s).length:=by
 unfold mt at h⊢;obtain⟨k,hk⟩:∃k,2000-pre.length=k+1:=⟨2000-pre.length-1,by omega⟩
 rw[hk,cJ,if_neg hn]at h;refine⟨?_,by rw[h];simp⟩;have hk2:2000-(pre++[((av (s.drop a)).1,a+(av (s.drop a)).2)]).length=k:=by simp;omega
 rw[hk2,h];simp
theorem mt.stop {s:Bs} {pre:List (Bs×Nat)} {a:Nat} (h:mt s pre a) (hn:(av (s.drop a)).2=0∨2000<=pre.length):pre=bV s:=by
 rw[h];rcases hn with hn|hn
 ·cases hk:2000-pre.length with
  |zero=>simp[cJ]
  |succ k=>rw[cJ,if_pos hn];simp
 ·rw[show 2000-pre.length=0 by omega];simp[cJ]
theorem nt (s:Bs):(av s).1.length<=s.length:=by
 by_cases h:(av s).2=0
 ·rw[mv s h];simp
 ·obtain⟨_,hf,_⟩:=gg s h
  have h1:=congrArg List.length hf;have h2:=lJ s;rw[gA,List.length_take,Nat.min_eq_left h2]at h1;have h3:(av s).1.length<=(body (av s).1).length:=by simp[body];omega
  omega
end
section
open Go.RowKit
def gd (a:Option (Rc×Nat)) (x:Bs×Nat):Option (Rc×Nat):=match cF x.1 with
 |some r=>some (r,x.2)
 |none=>a
def dj (l:List (Bs×Nat)):Option (Rc×Nat):=l.foldl gd none
def aF (s:Bs):Option (Rc×Nat):=dj (bV s)
theorem lA (l:List (Bs×Nat)) (x:Bs×Nat):dj (l++[x])=gd (dj l) x:=by simp[dj]
def gP (a:Option (Rc×Nat)):Rc:=(a.map Prod.fst).getD Rc.zero
def recAt (a:Option (Rc×Nat)):Nat:=(a.map Prod.snd).getD 0
theorem sl (s:Bs):∀(k a i:Nat) (h:i<(cJ k a s).length),((cJ k a s)[i]).2=a+(cat (((cJ k a s).map Prod.fst).take (i+1))).length:=by
 intro k
 induction k with
 |zero=>intro a i h;simp[cJ]at h
 |succ k ih=>
  intro a i h;by_cases h0:(av (s.drop a)).2=0
  ·exfalso
   rw[cJ,if_pos h0]at h;simp at h
  ·obtain⟨_,_,h3⟩:=gg (s.drop a) h0
   have e:cJ (k+1) a s=((av (s.drop a)).1,a+(av (s.drop a)).2)::cJ k (a+(av (s.drop a)).2) s:=by rw[cJ,if_neg h0]
   simp only[e];cases i with
   |zero=>
    simp only[List.getElem_cons_zero,List.map_cons,Nat.zero_add,List.take_succ_cons,List.take_zero];rw[i6,List.length_append,<-h3];simp[cat]
   |succ i=>
    have hi:i<(cJ k (a+(av (s.drop a)).2) s).length:=by rw[e]at h;simpa using h
    have:=ih (a+(av (s.drop a)).2) i hi;simp only[List.getElem_cons_succ,List.map_cons,List.take_succ_cons];rw[this,i6,List.length_append,<-h3];omega
theorem mg (s:Bs) (i:Nat) (h:i<(ar s).1.length):∃h':i<(bV s).length,(bV s)[i]=((ar s).1.getD i [],(cat ((ar s).1.take (i+1))).length):=by
 have ht:=im s;have hl:(bV s).length=(ar s).1.length:=by rw[<-ht,List.length_map]
 refine⟨by omega,?_⟩;have h2:=sl s 2000 0 i (show i<(bV s).length by omega);have e:cJ 2000 0 s=bV s:=rfl;simp only[e]at h2;rw[ht,Nat.zero_add]at h2;have h3:((bV s)[i]' Ff).1=(ar s).1.getD i []:=by
  have:(ar s).1.getD i []=((bV s).map Prod.fst).getD i []:=by rw[ht]
  rw[this];simp[List.getD,show i<(bV s).length by omega]
 exact Prod.ext h3 h2
theorem jh (s:Bs) (i:Nat) (h:i<(ar s).1.length):dj ((bV s).take (i+1))=gd (dj ((bV s).take i)) ((ar s).1.getD i [],(cat ((ar s).1.take (i+1))).length):=by
 obtain⟨h1,h2⟩:=mg s i h;rw[List.take_succ_eq_append_getElem h1,lA,h2]
theorem kB (s:Bs):dj ((bV s).take (ar s).1.length)=aF s:=by
 have hl:(bV s).length=(ar s).1.length:=by rw[<-im,List.length_map]
 rw[<-hl,List.take_length];rfl
theorem Bu (a:Option (Rc×Nat)) (x:Bs×Nat) (m:Nat) (ha:recAt a<=m) (hx:x.2<=m):recAt (gd a x)<=m:=by
 unfold gd;split
 ·exact hx
 ·exact ha
theorem ji (s:Bs) (i:Nat) (h:i<=(ar s).1.length):recAt (dj ((bV s).take i))<=s.length:=by
 induction i with
 |zero=>simp[dj,recAt]
 |succ i ih=>
  rw[jh s i Ff];refine Bu _ _ _ (ih Ff) ?_;have h1:=kN (ar s).1 (i+1);have h2:=(dI s).2.2.1;have h3:=j9 s;dsimp only;omega
theorem jC (s:Bs):recAt (aF s)<=s.length:=by rw[<-kB];exact ji s _ (Nat.le_refl _)
theorem oR (r:Rc) (h:r.ok=true):bR (cz r)=true/\(cz r).length<=40:=by
 have hk:=(Rc.ok_iff r).1 h;have e:cz r=gO++32::(dec r.e.toNat++32::(dec r.s.toNat++32::(dec r.t.toNat++32::dec r.n.toNat))):=by
  unfold cz;rw[eh hk.1.1,eh (by omega:0<=r.s),eh hk.2.2.1.1,eh hk.2.2.2.1]
 have l1:=eI 5 r.e.toNat Ff;have l2:=eI 5 r.s.toNat Ff;have l3:=eI 5 r.t.toNat Ff;have l4:=eI 5 r.n.toNat Ff;have hl:(cz r).length<=40:=by rw[e];simp[gO];omega
 refine⟨?_,hl⟩;have hd:∀n,(dec n).all (fun b=>b !=10)=true:=fun n=>by
  rw[List.all_eq_true];intro b hb;simpa using(iZ n b hb).1
 unfold bR;rw[e]at hl⊢;have hw:gO.all (fun b=>b !=10)=true:=by decide
 simp only[List.all_append,List.all_cons,hd,hw];simp only[Bool.and_eq_true,decide_eq_true_eq];refine⟨by decide,by omega⟩
theorem zL (r:Rc) (p:Nat) (h:r.ok=true) (hp:p<(aI (cz r)).length):(av ((aI (cz r)).take p)).2=0:=by
 apply mw;have hb:=nz (oR r h).1;rw[gA]at hp;rw[fc,List.take_append_of_le_length Ff,List.all_eq_true];intro b hm;exact List.all_eq_true.1 hb b (List.mem_of_mem_take hm)
theorem uK:(av ([]:Bs)).2=0:=mw rfl
theorem oS (l:Bs):(dh 32 (min 5 (l.length+1)-1) l=ay 32 l)∨((dh 32 (min 5 (l.length+1)-1) l).length≠4/\(ay 32 l).length≠4):=by
 rcases yE 32 (min 5 (l.length+1)-1) l with e|⟨e1,e2⟩
 ·exact .inl e
 ·right
  have:=vu 32 l;omega
end
section
open Go.RowKit
theorem fQ (s:Bs):(bV s).length=(ar s).1.length:=by
 rw[<-im,List.length_map]
theorem Bg {s t:Bs} (h:(ar s).1=(ar t).1):bV s=bV t:=by
 apply List.ext_getElem (by rw[fQ,fQ,h]);intro i h1 h2;obtain⟨_,e1⟩:=mg s i (by rw[<-fQ];exact h1);obtain⟨_,e2⟩:=mg t i (by rw[<-fQ];exact h2);rw[e1,e2,h]
theorem qr {s t:Bs} (h:(ar s).1=(ar t).1):aF s=aF t:=by
 unfold aF;rw[Bg h]
theorem wO (s:Bs):recAt (aF s)<=(ar s).2:=by
 obtain⟨h1,h2,h3,h4⟩:=dI s;have e:(ar s).1=(ar (s.take (ar s).2)).1:=by
  rw[h2];have:=i7 (ar s).1 [] h1 2000 h4 (.inr uK);rw[List.append_nil]at this;exact(congrArg Prod.fst this).symm
 rw[qr e];have:=jC (s.take (ar s).2);rw[List.length_take]at this;omega
structure iw (log:Bs) (r:Rc) (up:Bool):Prop where
 is:(aF log).isSome=true
 rc:gP (aF log)=r
 al:up=true->recAt (aF log)=log.length
theorem iw.frames {log:Bs} {r:Rc} (h:iw log r true):(ar log).2=log.length:=by
 have h1:=wO log;have h2:=j9 log;rw[h.al rfl]at h1;omega
theorem iw.isCat {log:Bs} {r:Rc} (h:iw log r true):log=cat (ar log).1:=by
 obtain⟨-,h2, -, -⟩:=dI log;rw[h.frames,List.take_length]at h2;exact h2
theorem uv {log:Bs} (hc:log=cat (ar log).1) (t rest:Bs) (hp:bR t=true) (hl:(ar log).1.length<2000) (hr:(av rest).2=0):
  ar (log++aI t++rest)=((ar log).1++[t],(log++aI t).length):=by
 obtain⟨h1, -, -, -⟩:=dI log;obtain⟨ts,hts⟩:=Fe ((ar log).1)
 rw[<-hts]at h1 hc hl⊢;have hcat:log++aI t++rest=cat (ts++[t])++rest:=by rw[kM,<-hc]
 have hsl:(log++aI t).length=(cat (ts++[t])).length:=by rw[kM,<-hc]
 rw[hcat,hsl];refine i7 (ts++[t]) rest (fun x hx=>?_) 2000 (by simp;omega) (.inr hr);rcases List.mem_append.1 hx with hx|hx
 ·exact h1 x hx
 ·simp at hx;subst hx;exact hp
theorem uw {log:Bs} (hc:log=cat (ar log).1) (rest:Bs) (hr:(av rest).2=0):ar (log++rest)=((ar log).1,log.length):=by
 obtain⟨h1, -, -,h4⟩:=dI log;obtain⟨ts,hts⟩:=Fe ((ar log).1)
 rw[<-hts]at h1 hc h4⊢;have:=i7 ts rest h1 2000 h4 (.inr hr);rw[<-hc]at this;exact this
theorem iw.noted {log:Bs} {r q:Rc} (h:iw log r true) (hq:q.ok=true) (hl:(ar log).1.length<2000):
  iw (log++aI (cz q)) q true/\(ar (log++aI (cz q))).1.length=(ar log).1.length+1:=by
 have hp:=(oR q hq).1;have f:=uv h.isCat (cz q) [] hp hl uK;rw[List.append_nil]at f;obtain⟨ts,hts⟩:=Fe ((ar log).1)
 have hst:=jh (log++aI (cz q)) ts.length (by rw[f,<-hts];simp);have hall:=kB (log++aI (cz q));rw[f,<-hts]at hst hall;simp only[List.length_append,List.length_cons,List.length_nil,Nat.zero_add]at hall;rw[hst]at hall;have e1:(ts++[cz q]).getD ts.length []=cz q:=by simp
 have e2:(ts++[cz q]).take (ts.length+1)=ts++[cz q]:=List.take_of_length_le Fg;have hsl:(log++aI (cz q)).length=(cat (ts++[cz q])).length:=by rw[kM,hts,<-h.isCat]
 simp only[e1,e2,gd,wZ q hq,<-hsl]at hall;refine⟨⟨by rw[<-hall];rfl,by rw[<-hall];rfl,fun _=>by rw[<-hall];rfl⟩,?_⟩;rw[f];simp
theorem iw.torn {log:Bs} {r q:Rc} (h:iw log r true) (hq:q.ok=true) (p:Nat) (hp:p<(aI (cz q)).length):
  iw (log++(aI (cz q)).take p) r false/\(ar (log++(aI (cz q)).take p)).1=(ar log).1/\(log++(aI (cz q)).take p).take (recAt (aF (log++(aI (cz q)).take p)))=log:=by
 have f:=uw h.isCat ((aI (cz q)).take p) (zL q p hq hp);have e:(ar (log++(aI (cz q)).take p)).1=(ar log).1:=by rw[f]
 have er:=qr e;refine⟨⟨by rw[er];exact h.is,by rw[er];exact h.rc,fun h=>by cases h⟩,e,?_⟩;rw[er,h.al rfl,List.take_left]
theorem iw.down {log:Bs} {r:Rc} {up:Bool} (h:iw log r up):iw log r false:=⟨h.is,h.rc,fun h=>by cases h⟩
end
section
open Go.RowKit
structure Cp where
 tr:Int
 op:Bool
 di:Int
 wa:Int
 ts:List Int
def bj (ts:List Int):Bool:=ts.all (fun t=>inI t 0 1000000000)
def Cp.zero:Cp:=⟨0,false,0,0,[]⟩
def Cp.mid (c:Cp):Bool:=inI c.tr 1 100000&&(bj c.ts&&inI c.ts.length 1 8)&&(inI c.di 0 (cO c.ts.length)&&inI c.wa 0 (cO c.ts.length))
def Cp.ok (c:Cp):Bool:=if c.tr=0 then(!c.op&&decide (c.di=0)&&decide (c.wa=0)&&decide (c.ts.length=0))else c.mid
def Cp.has (c:Cp) (i:Int):Bool:=decide (0<=i)&&decide (i<(c.ts.length:Int))
def Cp.mark (c:Cp) (i:Int):Cp:=if c.has i then{c with di:=cv c.di i}else c
def Cp.goes (c:Cp):Bool:=c.op&&decide (0<=fM c.di)&&decide (c.ts.getD (fM c.di).toNat 0≠1000000000)
def Cp.nx (c:Cp):Int:=if c.goes then fM c.di else-1
def Cp.next (c:Cp):Cp:=if c.goes then{c with di:=jo c.di (fM c.di),wa:=cv c.wa (fM c.di),ts:=c.ts.set (fM c.di).toNat (c.ts.getD (fM c.di).toNat 0+1)}else c
def orI (a b:Int):Int:=((a.toNat|||b.toNat:Nat):Int)
def Cp.again (c:Cp):Cp:={c with di:=orI c.di c.wa,wa:=0}
def Cp.clean (c:Cp):Bool:=c.ok&&c.op&&decide (c.di=0)&&decide (c.wa=0)
def Cp.made (n t:Int):Bool:=inI n 1 8&&inI t 1 100000
def Cp.new (n t:Int):Cp:=if Cp.made n t then⟨t,false,cO n,0,List.replicate n.toNat 0⟩else Cp.zero
def Cp.Mark (c:Cp) (i:Int):Cp:=if c.ok then c.mark i else Cp.zero
def Cp.Next (c:Cp):Cp:=if c.ok then c.next else Cp.zero
def Cp.Again (c:Cp):Cp:=if c.ok then c.again else Cp.zero
theorem yC:∀n:Nat,n<9->∀s:Nat,s<256->(s:Int)<=cO n->fM s<n:=by decide+kernel
theorem Au:∀n:Nat,n<9->∀s:Nat,s<256->(s:Int)<=cO n->∀i:Nat,i<n->cv s i<=cO n/\0<=cv s i:=by decide+kernel
theorem sM:∀s:Nat,s<256->∀i:Nat,i<8->jo s i<=s/\0<=jo s i:=by decide+kernel
theorem rA:∀n:Nat,n<9->cO n<256/\cO n=((2^n-1:Nat):Int):=by decide+kernel
theorem pY {ts:List Int} (h:bj ts=true) (j:Nat) {x:Int} (hx:inI x 0 1000000000=true):bj (ts.set j x)=true:=by
 unfold bj at*;rw[List.all_eq_true]at*;intro y hy;rcases List.mem_or_eq_of_mem_set hy with hy|rfl
 ·exact h y hy
 ·exact hx
theorem sN {ts:List Int} (h:bj ts=true) (j:Nat):0<=ts.getD j 0/\ts.getD j 0<=1000000000:=by
 rcases Nat.lt_or_ge j ts.length with hj|hj
 ·unfold bj at h
  rw[List.all_eq_true]at h;have:=(aE _ _ _).1 (h _ (List.getElem_mem hj));simpa[hj]using this
 ·simp[List.getD_eq_getElem?_getD,List.getElem?_eq_none hj]
theorem nK (ts:List Int) (j:Nat) (h:j<ts.length) (h0:bj (ts.take j)=true) (hx:inI (ts.getD j 0) 0 1000000000=true):bj (ts.take (j+1))=true:=by
 unfold bj at*;rw[List.take_succ_eq_append_getElem h,List.all_append,h0];have:inI ts[j] 0 1000000000=true:=by simpa[h]using hx
 simp[this]
theorem pZ (ts:List Int) (j:Nat) (h:j<ts.length) (hx:inI (ts.getD j 0) 0 1000000000=false):bj ts=false:=by
 unfold bj;rw[List.all_eq_false];exact⟨ts[j],List.getElem_mem h,by have:inI ts[j] 0 1000000000=false:=by{simpa[h]using hx};simp[this]⟩
structure Cp.Fit (c:Cp):Prop where
 len:c.ts.length<=8
 di0:0<=c.di
 di1:c.di<=cO c.ts.length
 wa0:0<=c.wa
 wa1:c.wa<=cO c.ts.length
 turns:bj c.ts=true
theorem Cp.fit {c:Cp} (h:c.ok=true):c.Fit:=by
 unfold Cp.ok Cp.mid at h;by_cases h0:c.tr=0
 ·rw[if_pos h0]at h
  simp only[Bool.and_eq_true,decide_eq_true_eq]at h;obtain⟨⟨⟨-,h1⟩,h2⟩,h3⟩:=h;have e:c.ts=[]:=List.length_eq_zero_iff.1 h3;exact⟨by omega,by omega,by rw[h1,h3];decide,by omega,by rw[h2,h3];decide,by rw[e];rfl⟩
 ·rw[if_neg h0]at h
  simp only[Bool.and_eq_true,aE]at h;obtain⟨⟨-,h1,h2⟩,⟨h3,h4⟩,h5,h6⟩:=h;exact⟨by omega,h3,h4,h5,h6,h1⟩
theorem Cp.Fit.d {c:Cp} (h:c.Fit):c.di<256:=by
 have:=(rA c.ts.length (by have:=h.len;omega)).1;have:=h.di1;omega
theorem Cp.Fit.w {c:Cp} (h:c.Fit):c.wa<256:=by
 have:=(rA c.ts.length (by have:=h.len;omega)).1;have:=h.wa1;omega
theorem Cp.Fit.first {c:Cp} (h:c.Fit):fM c.di<(c.ts.length:Int):=by
 have h1:=h.di0;have h2:=h.d;have h3:=h.di1;have h4:=h.len;obtain⟨n,e⟩:=dM h1;rw[e]at h2 h3⊢;exact yC _ Ff n Ff h3
theorem Cp.ok_of {c d:Cp} (h:c.ok=true) (ht:d.tr=c.tr) (ho:d.op=c.op) (hl:d.ts.length=c.ts.length) (hts:bj d.ts=true) (h0:0<=d.di) (h1:d.di<=cO c.ts.length) (h2:0<=d.wa) (h3:d.wa<=cO c.ts.length):d.ok=true:=by
 unfold Cp.ok Cp.mid at*;rw[ht,ho,hl,hts];by_cases e:c.tr=0
 ·rw[if_pos e]at h⊢
  simp only[Bool.and_eq_true,decide_eq_true_eq]at h⊢;rw[h.2]at h1 h3;have:cO ((0:Nat):Int)=0:=by decide
  rw[this]at h1 h3;exact⟨⟨⟨h.1.1.1,by omega⟩,by omega⟩,h.2⟩
 ·rw[if_neg e]at h⊢
  simp only[Bool.and_eq_true,aE]at h⊢;exact⟨⟨h.1.1,trivial,h.1.2.2⟩,⟨h0,h1⟩,h2,h3⟩
theorem xV (c:Cp) (i:Int):c.has i=true↔0<=i/\i<(c.ts.length:Int):=by simp[Cp.has]
theorem Cp.with_fit {c:Cp} (h:c.Fit) {s i:Int} (hs0:0<=s) (hs:s<=cO c.ts.length) (h0:0<=i) (h1:i<(c.ts.length:Int)):cv s i<=cO c.ts.length/\0<=cv s i:=by
 have h4:=h.len;have h5:=(rA c.ts.length Ff).1;obtain⟨n,rfl⟩:=dM hs0;obtain⟨k,rfl⟩:=dM h0;exact Au _ Ff n Ff hs k Ff
theorem sO {s i:Int} (hs0:0<=s) (hs:s<256) (h0:0<=i) (h1:i<8):jo s i<=s/\0<=jo s i:=by
 obtain⟨n,rfl⟩:=dM hs0;obtain⟨k,rfl⟩:=dM h0;exact sM n Ff k Ff
theorem Cp.mark_ok {c:Cp} (h:c.ok=true) (i:Int):(c.mark i).ok=true:=by
 unfold Cp.mark;split
 ·rename_i hi
  rw[xV]at hi;have f:=Cp.fit h;have:=Cp.with_fit f f.di0 f.di1 hi.1 hi.2;exact Cp.ok_of h rfl rfl rfl f.turns this.2 this.1 f.wa0 f.wa1
 ·exact h
theorem Cp.goes_iff (c:Cp):c.goes=true↔c.op=true/\0<=fM c.di/\c.ts.getD (fM c.di).toNat 0≠1000000000:=by simp[Cp.goes,and_assoc]
theorem Cp.next_ok {c:Cp} (h:c.ok=true):c.next.ok=true:=by
 unfold Cp.next;split
 ·rename_i hi
  rw[Cp.goes_iff]at hi;have f:=Cp.fit h;have f1:=f.first;have f2:=f.len;have h1:=Cp.with_fit f f.wa0 f.wa1 hi.2.1 f1;have h2:=sO f.di0 f.d hi.2.1 Ff;have h3:=f.di1;have h4:=sN f.turns (fM c.di).toNat;have h5:=hi.2.2;exact Cp.ok_of h rfl rfl Fg (pY f.turns _ ((aE _ _ _).2 Ff)) h2.2 (by simp only;omega) h1.2 h1.1
 ·exact h
theorem Cp.zero_ok:Cp.zero.ok=true:=by decide
end
section
open Go.RowKit
structure Sn where
 tr:Int
 ts:List Int
def Sn.zero:Sn:=⟨0,[]⟩
def Sn.ok (s:Sn):Bool:=if s.tr=0 then decide (s.ts.length=0)else inI s.tr 1 100000&&(bj s.ts&&inI s.ts.length 1 8)
def Sn.fits (s:Sn) (t i n:Int):Bool:=decide (0<s.tr)&&decide (s.tr=t)&&decide (0<=i)&&decide (i<(s.ts.length:Int))&&decide (s.ts.getD i.toNat 0<n)
def Sn.Fits (s:Sn) (t i n:Int):Bool:=s.ok&&s.fits t i n
def Sn.takes (s:Sn) (t i n:Int):Bool:=s.fits t i n&&decide (n<=1000000000)
def Sn.got (s:Sn) (t i n:Int):Sn:=if s.takes t i n then{s with ts:=s.ts.set i.toNat n}else s
def Sn.Is (s:Sn) (t i n:Int):Bool:=s.ok&&s.takes t i n
def Sn.new (n t:Int):Sn:=if Cp.made n t then⟨t,List.replicate n.toNat 0⟩else Sn.zero
theorem Sn.takes_iff (s:Sn) (t i n:Int):s.takes t i n=true↔0<s.tr/\s.tr=t/\0<=i/\i<(s.ts.length:Int)/\s.ts.getD i.toNat 0<n/\n<=1000000000:=by
 unfold Sn.takes Sn.fits;simp only[Bool.and_eq_true,decide_eq_true_eq,and_assoc]
theorem Sn.ok_turns {s:Sn} (h:s.ok=true):bj s.ts=true:=by
 unfold Sn.ok at h;split at h
 ·simp only[decide_eq_true_eq]at h
  rw[List.eq_nil_of_length_eq_zero h];rfl
 ·simp only[Bool.and_eq_true]at h
  exact h.2.1
theorem Sn.got_ok {s:Sn} (h:s.ok=true) (t i n:Int):(s.got t i n).ok=true:=by
 unfold Sn.got;split
 ·rename_i hi
  rw[Sn.takes_iff]at hi;have ht:=sN (Sn.ok_turns h) i.toNat;unfold Sn.ok at h⊢;simp only at h⊢;split
  ·rename_i e;omega
  ·rename_i e
   rw[if_neg e]at h;simp only[Bool.and_eq_true,List.length_set]at h⊢;exact⟨h.1,pY h.2.1 _ ((aE _ _ _).2 Ff),h.2.2⟩
 ·exact h
end
section
open Go.RowKit
structure Mg where
 dst:Int
 kd:Int
 tr:Int
 pl:Int
 tn:Int
 va:Int
 ep:Int
 h:Hd
def Mg.zero:Mg:=⟨0,0,0,0,0,0,0,Hd.zero⟩
def Hd.none (h:Hd):Bool:=decide (h.ks.length=0)&&decide (h.kd=0)&&decide (h.ho=0)&&decide (h.tu=0)
def Mg.ok (m:Mg):Bool:=inI m.dst 0 1&&inI m.kd 1 8&&epI m.tr&&il m.pl&&inI m.tn 0 1000000000&&bJ m.va&&epI m.ep&&(m.h.ok||m.h.none)
structure Nd where
 id:Int
 up:Bool
 xs:List Int
 ys:List Int
 h:Hd
 log:Bs
 r:Rc
 c:Cp
 s:Sn
def Nd.zero:Nd:=⟨0,false,[],[],Hd.zero,[],Rc.zero,Cp.zero,Sn.zero⟩
def Nd.logB (n:Nd):Bool:=(aF n.log).isSome&&d8 (gP (aF n.log)) n.r&&(!n.up||decide (n.log.take (recAt (aF n.log))=n.log))&&(n.up||(decide (n.c.tr=0)&&decide (n.s.tr=0)))
def Nd.copB (n:Nd):Bool:=decide (n.c.tr=0)||(decide (n.r.s≠3)&&decide (n.c.tr=n.r.t)&&decide (n.c.ts.length=n.ys.length))
def Nd.snkB (n:Nd):Bool:=decide (n.s.tr=0)||(decide (n.r.s=3)&&decide (n.s.tr=n.r.n)&&decide (n.s.ts.length=n.ys.length))
def Nd.ok (n:Nd):Bool:=(inI n.id 0 1&&au n.xs n.ys&&n.h.ok&&n.r.ok&&decide (n.log.length<=40000)&&n.c.ok&&n.s.ok)&&n.logB&&n.copB&&n.snkB
def Nd.new (id blocks:Int) (owns:Bool):Nd:=
 if iW blocks&&inI id 0 1 then
  ⟨id,true,Al blocks,Al blocks,Hd.new,aI (cz (if owns then⟨1,1,0,0⟩else⟨0,3,0,0⟩)),if owns then⟨1,1,0,0⟩else⟨0,3,0,0⟩,Cp.zero,Sn.zero⟩
 else Nd.zero
def Nd.made (id blocks:Int):Bool:=iW blocks&&inI id 0 1
def Nd.down (n:Nd) (set:Int):Nd:={n with up:=false,xs:=fi n.xs n.ys set 8 n.xs.length,ys:=fi n.xs n.ys set 8 n.xs.length,c:=Cp.zero,s:=Sn.zero}
def Nd.torn (n:Nd) (q:Rc) (t:Nat):Nd:={n with log:=n.log++(aI (cz q)).take ((aI (cz q)).length-min t (aI (cz q)).length)}
def Nd.note (n:Nd) (q:Rc) (torn:Int):Nd×Bool:=
 if 40000<n.log.length+(aI (cz q)).length then(n.down 0,false)
 else if 0<torn then((n.torn q torn.toNat).down 0,false)
 else({n with log:=n.log++aI (cz q),r:=q},true)
def Nd.ask (n:Nd) (who:Int) (b:Bs):Nd×An:=
 if !n.up|| !inI who 0 3 then(n,⟨7,[]⟩)
 else if aO b≠0 then(n,⟨4,ce (aO b)⟩)
 else if n.r.s=2 then(n,⟨5,[]⟩)
 else if n.r.s=3 then(n,⟨6,[]⟩)
 else
  let q:=(Sr.mk n.xs n.ys n.h).doing who (ax b)
  ({n with xs:=q.1.xs,ys:=q.1.ys,h:=q.1.h,c:=if decide (q.2.st=0)&&(ax b).chg then n.c.mark (ax b).p else n.c},q.2)
def Nd.msg (n:Nd) (k:Int):Mg:=⟨1-n.id,k,n.r.t,0,0,0,0,Hd.zero⟩
def Nd.hand (n:Nd):Mg:={n.msg 5 with ep:=n.r.e,h:=n.h}
def Nd.copy (n:Nd):Nd×List Mg×Bool:=
 if n.c.nx<0 then(n,[],false)
 else({n with c:=n.c.next},[{n.msg 3 with pl:=n.c.nx,tn:=n.c.next.ts.getD n.c.nx.toNat 0,va:=n.ys.getD n.c.nx.toNat 0}],true)
def Nd.back (n:Nd) (m:Mg) (k:Int):Mg:=⟨1-n.id,k,m.tr,0,0,0,0,Hd.zero⟩
def Nd.taken (n:Nd) (m:Mg):Mg:={n.back m 6 with ep:=m.ep+1}
def Nd.opened (n:Nd) (m:Mg):Nd×List Mg×Bool:=if n.c.tr=0∨n.c.tr≠m.tr∨n.c.op=true then(n,[],false)else({n with c:={n.c with op:=true}},[],true)
def Nd.copied (n:Nd) (m:Mg):Nd×List Mg×Bool:=
 let is:=n.s.takes m.tr m.pl m.tn
 let q:Nd:=if is then{n with s:=n.s.got m.tr m.pl m.tn,ys:=n.ys.set m.pl.toNat m.va}else n
 if q.s.tr=0∨q.s.tr≠m.tr∨(q.s.ts.length:Int)<=m.pl∨q.s.ts.getD m.pl.toNat 0<m.tn then(q,[],is)
 else(q,[{n.back m 4 with pl:=m.pl,tn:=m.tn}],true)
def Nd.handed (n:Nd) (m:Mg) (torn:Int):Nd×List Mg×Bool:=
 if m.h.ok=false∨m.ep=100000 then(n,[],false)
 else if n.s.tr≠0/\n.s.tr=m.tr/\n.r.e<=m.ep then
  let p:=({n with xs:=n.ys,h:=m.h}:Nd).note {n.r with e:=m.ep+1,s:=1} torn
  if p.2 then({p.1 with s:=Sn.zero},[n.taken m],true)else(p.1,[],true)
 else if m.ep<n.r.e then(n,[n.taken m],true)
 else(n,[],false)
def Nd.mine (n:Nd) (m:Mg):Bool:=decide (n.r.s=2)&&decide (n.r.t=m.tr)
def Nd.gone (n:Nd) (m:Mg) (torn:Int):Nd×List Mg×Bool:=
 if n.mine m=true/\n.r.e<m.ep then
  let p:=n.note {n.r with e:=m.ep,s:=3} torn
  (if p.2 then{p.1 with c:=Cp.zero}else p.1,[],true)
 else(n,[],false)
def Nd.kept (n:Nd) (m:Mg) (torn:Int):Nd×List Mg×Bool:=
 if n.mine m=true then
  let p:=n.note {n.r with s:=1} torn
  (if p.2 then{p.1 with c:=Cp.zero}else p.1,[],true)
 else(n,[],false)
def Nd.Ask (n:Nd) (who:Int) (b:Bs):Nd×An:=if n.ok then n.ask who b else(Nd.zero,⟨7,[]⟩)
end
end Go.Proofs.YthldeiojlllkdaaGreatDoor
