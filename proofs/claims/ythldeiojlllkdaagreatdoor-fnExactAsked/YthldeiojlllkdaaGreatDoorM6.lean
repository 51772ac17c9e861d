/- What the laws on stores ask, of plain lists and numbers. -/
import Derived.Test.YthldeiojlllkdaaGreatDoorM1
import Derived.Test.YthldeiojlllkdaaGreatDoorM5
import Derived.Test.YthldeiojlllkdaaGreatDoorM2
set_option maxRecDepth 20000
set_option maxHeartbeats 2000000
namespace Go.Proofs.YthldeiojlllkdaaGreatDoor
open Go.ChangeShapes Go.WideShapes Go.ChangeAt Go.RowKit
section
open Go.RowKit
theorem Df (h:Hd) (i k:Int):(h.resd i k).2=false->(h.resd i k).1=h:=by
 unfold Hd.resd;split
 ·intro;rfl
 ·split
  ·intro e;cases e
  ·intro;rfl
theorem Dg (h:Hd) (i:Int):(h.reld i).2=false->(h.reld i).1=h:=by
 unfold Hd.reld;split
 ·intro;rfl
 ·split
  ·intro e;cases e
  ·intro;rfl
theorem Dh (h:Hd) (i:Int):(h.clrd i).2=false->(h.clrd i).1=h:=by
 unfold Hd.clrd;split
 ·intro;rfl
 ·intro e;cases e
theorem Di (h:Hd) (i key k:Int):(h.pred i key k).2=false->(h.pred i key k).1=h:=by
 unfold Hd.pred;split
 ·intro;rfl
 ·split
  ·intro e;cases e
  ·intro e;cases e
theorem nD {r:Hd×Bool} {h:Hd} (hr:r.2=false->r.1=h) (hs:(iU r).2.st≠0):(iU r).1=h:=by
 obtain⟨a,b⟩:=r;cases b with
 |false=>exact hr rfl
 |true=>exact absurd rfl hs
theorem yl {h:Hd} {i:Int} {c:Cm}:(h.act i c).2.st≠0->(h.act i c).1=h:=by
 unfold Hd.act;split
 ·intro e;exact absurd rfl e
 ·split
  ·exact nD (Df h i c.k)
  ·split
   ·exact nD (Dg h i)
   ·split
    ·exact nD (Dh h i)
    ·split
     ·split
      ·intro;rfl
      ·exact nD (Di h i c.a c.k)
     ·split
      ·intro;rfl
      ·intro;rfl
theorem BO {xs ys:List Int} {c:Cm}:(bn xs ys c).2.2.st≠0->(bn xs ys c).1=xs/\(bn xs ys c).2.1=ys:=by
 unfold bn;split
 ·intro e;exact absurd rfl e
 ·split
  ·intro;exact⟨rfl,rfl⟩
  ·split
   ·intro e;exact absurd rfl e
   ·split
    ·intro e;exact absurd rfl e
    ·split
     ·split
      ·intro e;exact absurd rfl e
      ·intro;exact⟨rfl,rfl⟩
     ·intro e;exact absurd rfl e
theorem Dj {s:Sr} {i:Int} {c:Cm} (ok:s.ok=true) (hs:(s.did i c).2.st≠0):(s.did i c).1=s:=by
 unfold Sr.did at hs⊢;rw[if_pos ok]at hs⊢;split at hs
 ·rename_i q
  rw[if_pos q];unfold Sr.doing at hs⊢;split at hs
  ·rename_i q5
   rw[if_pos q5];dsimp only;rw[yl hs]
  ·rename_i q5
   rw[if_neg q5];split at hs
   ·rename_i qm
    rw[if_pos qm];dsimp only;obtain⟨e1,e2⟩:=BO hs;rw[e1,e2]
   ·rename_i qm
    rw[if_neg qm]
 ·rename_i q
  rw[if_neg q]
theorem Dk {h:Hd} (ok:h.ok=true):h.free.ok=true:=by
 obtain⟨hl,ht,hk, -⟩:=ok_iff.1 ok;exact ok_iff.2 ⟨hl,ht,hk,fQ.2 (.inl ⟨rfl,rfl⟩)⟩
theorem Dl {h:Hd} (ok:h.ok=true) (i:Int):(h.clrd i).1.ok=true:=by
 obtain⟨hl,ht,hk,hm⟩:=ok_iff.1 ok;unfold Hd.clrd;split
 ·exact ok
 ·refine ok_iff.2 ⟨rfl,?_,(show ex [0,0,0,0]=true by decide),fQ.2 (.inl ⟨rfl,rfl⟩)⟩
  dsimp only;unfold cL;split<;>omega
theorem Dm {h:Hd} (ok:h.ok=true) {i k:Int} (hi:0<=i/\i<=3) (hk:kiI k=true):(h.resd i k).1.ok=true:=by
 unfold Hd.resd;split
 ·exact ok
 ·rename_i hr
  split
  ·exact B8 ok hi (rm.1 (by simpa using hr)) hk
  ·exact ok
theorem Dn {h:Hd} (ok:h.ok=true) (i:Int):(h.reld i).1.ok=true:=by
 unfold Hd.reld;split
 ·exact ok
 ·split
  ·exact Dk ok
  ·exact ok
theorem Do {h:Hd} (ok:h.ok=true) {i key k:Int} (hi:inI i 0 3=true) (hy:inI key 1 9999=true) (hk:kiI k=true):(h.pred i key k).1.ok=true:=by
 have e:h.preempt i key k=told (h.pred i key k):=by simp[Hd.preempt,ok,hi,hy,hk]
 have c:=pt h i key k;rw[e]at c;unfold told at c;rcases c with c|c|⟨x,c, -, -, -, -, -, -,hx, -⟩
 ·have:=congrArg Prod.snd c
  dsimp only at this;split at this<;>cases this
 ·have:=congrArg Prod.fst c
  dsimp only at this;rw[this];exact ok
 ·have:=congrArg Prod.fst c
  dsimp only at this;rw[this];exact hx
theorem Ef {h:Hd} (ok:h.ok=true) {i:Int} {c:Cm} (hi:inI i 0 3=true) (hc:c.ok=true):(h.act i c).1.ok=true:=by
 have hi':=(aD _ _ _).1 hi;unfold Cm.ok Cm.fits at hc;rw[Bool.and_eq_true]at hc;have hf:=hc.2;unfold Hd.act;split
 ·rename_i h6
  rw[if_pos h6]at hf;exact(BZ ok hi' ((aD _ _ _).1 hf)).1
 ·rename_i h6
  rw[if_neg h6]at hf;split
  ·rename_i h7
   rw[if_neg (by omega),if_pos h7]at hf;exact Dm ok hi' hf
  ·split
   ·exact Dn ok i
   ·split
    ·exact Dl ok i
    ·split
     ·rename_i h10
      rw[if_pos h10]at hf;simp only[Bool.and_eq_true]at hf;split
      ·exact ok
      ·rename_i ha
       have h1:=(aD _ _ _).1 hf.1.1;exact Do ok hi ((aD _ _ _).2 (by omega)) hf.2
     ·split
      ·exact ok
      ·exact ok
theorem Dq {xs ys:List Int} {c:Cm} (hb:au xs ys=true) (hc:(c.ok&&decide (c.o<=5))=true):au (bn xs ys c).1 (bn xs ys c).2.1=true:=by
 have d:=Ad c hb;rw[BT hb hc]at d;rcases d with⟨-,e1,e2⟩|⟨-, -, -,e1,e2⟩|⟨-, -, -,j,z, -,hj,hz,e1,e2, -⟩
 ·rw[e1,e2];exact hb
 ·rw[e1,e2];exact ut hb
 ·rw[e1,e2];exact BU hb hj hz
theorem Eg {s:Sr} {i:Int} {c:Cm} (ok:s.ok=true):(s.did i c).1.ok=true:=by
 have o:=ok;unfold Sr.ok at o;rw[Bool.and_eq_true]at o;unfold Sr.did;rw[if_pos ok];split
 ·rename_i q
  rw[Bool.and_eq_true]at q;unfold Sr.doing;split
  ·unfold Sr.ok
   dsimp only;rw[o.1,Ef o.2 q.1 q.2];rfl
  ·rename_i h5
   split
   ·unfold Sr.ok
    dsimp only;rw[Dq o.1 (by rw[q.2];simp;omega),o.2];rfl
   ·exact ok
 ·exact ok
end
def aF (l:Bs):Bs:=dec l.length++[32]++dec (chk l).toNat++[32]++l++[10]
def dR (l:Bs):Bs:=if bP l then aF l else[]
theorem sX (n:Nat):bV n=dec n:=by simp[bV]
theorem sY (l:Bs):((chk l).toNat:Int)=chk l:=by have:=(kD l).1;omega
theorem app (a b:Bs):(({data:=a.toArray}:ByteArray)++{data:=b.toArray})={data:=(a++b).toArray}:=ByteArray.mk_append_mk a b
theorem jM (l:Bs) (w:World) (hl:l.length<=1099511627776):
  Calls Tryz.prog 92 #[S l] w fun e w'=>e=.returned (S (aF l))/\bB w w':=by
 have c1:∀w',_:=fun w'=>ir (l.length:Nat) w' (by omega) (by omega)
 have hb:=kD l;have c2:∀w',_:=fun w'=>xL l w' hl
 have c3:∀w',_:=fun w'=>ir (chk l) w' (by omega) (by omega)
 have e3:bV (chk l)=dec (chk l).toNat:=by have h:=sX (chk l).toNat;rwa[sY]at h
 simp only[sX]at c1;simp only[e3]at c3;have d1:=eI 13 l.length (by omega);have d2:=eI 5 (chk l).toNat (by omega);have HF:Hid (aF l=dec l.length++[32]++dec (chk l).toNat++[32]++l++[10]):=rfl;obtain⟨x,hx⟩:=eX (chk l)
 obtain⟨p,hp⟩:=eX (dec l.length)
 obtain⟨q,hq⟩:=eX (dec (chk l).toNat)
 simp only[<-hp]at c1 d1 HF;simp only[<-hq]at c3 d2 HF;simp only[<-hx]at c2 c3;clear hp hq hx e3 hb;unfold S at c1 c2 c3⊢;go_enter Tryz.func92,Tryz.ntmps92;go_wp2_with fail
 refine(c1 w).mono ?_;rintro e w1 ⟨rfl,b1⟩;have HB:Hid (bB w w1):=b1;clear b1 c1;go_wp2_with fail
 refine mo (c2 w1) ?_;go_wp2_with fail
 refine(c3 w1).mono ?_;rintro e w2 ⟨rfl,b2⟩;have HC:Hid (bB w w2):=HB.out.trans (b2.mono HB.out.size);clear b2 c2 c3;go_wp2_with fail
 go_ret;refine⟨congrArg (fun x=>Ending.returned (Value.string x)) ?_,HC.out⟩;rw[HF.out,app,app,app,app,app]
def gc (s:Bs):Nat:=(s.takeWhile (fun b=>b !=10)).length
theorem sV (s:Bs):gc s<=s.length:=by
 unfold gc;exact(List.takeWhile_prefix _).length_le
theorem j8 (b:UInt8) (s:Bs):gc (b::s)=if b=10 then 0 else gc s+1:=by
 unfold gc;by_cases h:b=10
 ·simp[h]
 ·simp[h]
theorem lJ (t r:Bs) (h:t.all (fun b=>b !=10)=true):gc (t++r)=t.length+gc r:=by
 induction t with
 |nil=>simp
 |cons b t ih=>
  simp at h;rw[List.cons_append,j8,if_neg h.1,ih (by simpa using h.2)];simp;omega
theorem yK (s:Bs) (j:Nat) (h:(s.take j).all (fun b=>b !=10)=true) (hj:j<s.length) (e:s[j]=10):gc s=j:=by
 have:s=s.take j++(10::s.drop (j+1)):=by
  rw[<-e,<-List.drop_eq_getElem_cons hj,List.take_append_drop]
 rw[this,lJ _ _ h,j8,if_pos rfl];simp;omega
theorem qe (s:Bs) (h:(s.take s.length).all (fun b=>b !=10)=true):gc s=s.length:=by
 rw[List.take_length]at h;have:=lJ s [] h;simpa[gc]using this
def av (s:Bs):Bs×Nat:=
 let e:=gc s
 if e=s.length∨330<e then([],0)
 else match ay 32 (s.take e)with
  |a::b::_::_=>
   let t:=cS s (a.length+b.length+2) e
   if bP t&&decide (aF t=s.take (e+1))then(t,e+1)else([],0)
  |_=>([],0)
theorem Ay {ps:List Bs} (h:¬ps.length<3):∃a b c rest,ps=a::b::c::rest:=by
 match ps,h with
 |[],h=>simp at h
 |[_],h=>simp at h
 |[_,_],h=>simp at h
 |a::b::c::rest,_=>exact⟨a,b,c,rest,rfl⟩
theorem vz (c:UInt8) (l:Bs):((ay c l).map List.length).sum+(ay c l).length=l.length+1:=by
 induction l with
 |nil=>simp[ay]
 |cons b t ih=>
  rw[ay];split
  ·simp;omega
  ·cases h:ay c t with
   |nil=>exact absurd h (dU c t)
   |cons p ps=>rw[h]at ih;simp[eR]at ih⊢;omega
theorem sW (s:Bs) (w:World) (hl:s.length<=1048576):
  Calls Tryz.prog 126 #[S s] w fun e w'=>e=.returned (.tuple #[S (av s).1,.int .i64 (av s).2])/\bB w w':=by
 have hsz:(⟨s.toArray⟩:ByteArray).size=s.length:=rfl;have csp:∀(t:Bs) (w':World),t.length<=1048576->_:=fun t w' h=>pn t 32 w' h
 have cpl:∀(t:Bs) (w':World),t.length<=1099511627776->_:=fun t w' h=>po t w' h
 have cfr:∀(t:Bs) (w':World),t.length<=1099511627776->_:=fun t w' h=>jM t w' h
 unfold S at csp cpl cfr⊢;go_enter Tryz.func126,Tryz.ntmps126;go_wp2;go_loop [4] (fun i=>∃j:Nat,j<=s.length/\i=.int .i64 j/\Hid ((s.take j).all (fun b=>b !=10)=true)) (fun i=>s.length-(intOf i).toNat)
 case atStart=>exact⟨0,Nat.zero_le _,rfl,by simp[Hid]⟩
 case round=>
  obtain⟨j,hj,rfl,HX⟩:=hrel;by_cases hlt:(j:Int)<(s.length:Int)
  ·have h1:j<s.length:=by omega
   have ht:=eN s j h1 10 10 rfl;by_cases hb:s[j]=10
   ·rw[show decide (s[j]=10)=true by simp[hb]]at ht
    have HL:Hid (gc s=j):=yK s j HX.out h1 hb;clear hb HX;have htn:(((((⟨s.toArray⟩:ByteArray)[j]'(show j<(⟨s.toArray⟩:ByteArray).size from h1)).toNat:Nat):Int) !=10)=false:=by simp only[bne,ht,Bool.not_true]
    have hjs:((j:Int)==(s.length:Int))=false:=by simp;omega
    by_cases h330:330<(j:Int)
    ·have HF:Hid (av s=([],0)):=by
      have:330<j:=by omega
      simp[Hid,av,HL.out,this]
     go_wp2
     go_ret2
     rw[HF.out];exact⟨rfl,Below.refl _ _⟩
    ·have hex:=cA s 0 j
     have e0:cS s 0 j=s.take j:=by simp[cS]
     rw[e0]at hex;have hF:av s=match ay 32 (s.take j)with
      |a::b::_::_=>if bP (cS s (a.length+b.length+2) j)&&decide (aF (cS s (a.length+b.length+2) j)=s.take (j+1))then(cS s (a.length+b.length+2) j,j+1)else([],0)
      |_=>([],0):=by
      have h2:¬(j=s.length∨330<j):=by omega
      unfold av;rw[HL.out];simp only[h2,if_false]
     have hsum:=vz 32 (s.take j);have htl:(s.take j).length=j:=by simp;omega
     obtain⟨ps,hps⟩:=eX (ay 32 (s.take j))
     have cs:=csp (s.take j) w (by omega);rw[<-hps]at hF hsum cs;obtain⟨q,hq⟩:=eX (s.take j)
     rw[<-hq]at hex cs htl hsum;have HQ:Hid (q=s.take j):=hq;clear e0 csp hps hq HL;have HF:Hid (av s=_):=hF;clear hF;go_wp2_with fail
     refine cs.mono ?_;rintro e w1 ⟨u,rfl,o1,b1⟩;have HB:Hid (bB w w1):=b1;clear b1 cs;by_cases h3:ps.length<3
     ·have HE:Hid (av s=([],0)):=by
       rw[Hid,HF.out]
       match ps,h3 with
       |[],_=>rfl
       |[_],_=>rfl
       |[_,_],_=>rfl
      obtain⟨ao,cap,rfl, -⟩:=o1.reads;have h3':(ps.length:Int)<3:=by omega
      clear o1 hsum HF;go_wp2_with fail
      go_ret2
      rw[HE.out];exact⟨rfl,HB.out⟩
     ·obtain⟨a,b,c,rest,rfl⟩:∃a b c rest,ps=a::b::c::rest:=by
       exact Ay h3
      obtain⟨g,cap,rfl, -⟩:=World.ownsRow.form o1 (by simp);have c0:w1.cell? ⟨g,0,none⟩=some (S a):=by
       have:=World.ownsRow.cellAt (w:=w1) o1 0 (by simp);simpa using this
      have c1:w1.cell? ⟨g,1,none⟩=some (S b):=by
       have:=World.ownsRow.cellAt (w:=w1) o1 1 (by simp);simpa using this
      unfold S at c0 c1;have hab:a.length+b.length+2<=j:=by simp at hsum;omega
      have za:(⟨a.toArray⟩:ByteArray).size=a.length:=rfl;have zb:(⟨b.toArray⟩:ByteArray).size=b.length:=rfl;obtain⟨n,hn⟩:=eX ((a::b::c::rest).length)
      have hn3:(3:Int)<=n:=by simp at hn;omega
      rw[<-hn];clear hn o1 hsum h3;go_wp2_with fail
      go_quiet (fail)
      obtain⟨w2,hw2⟩:=eX (w1.drewN nq)
      rw[<-hw2];have HB1:Hid (bB w w2):=by rw[hw2];exact below_drewN HB.out nq
      clear hw2 c0 c1 HB;have hex2:=cA s (a.length+b.length+2) j;have hex3:=cA s 0 (j+1);have e3:cS s 0 (j+1)=s.take (j+1):=by simp[cS]
      rw[e3]at hex3;have hlt2:(cS s (a.length+b.length+2) j).length<=1099511627776:=by rw[BL s _ _ hj];omega
      obtain⟨t,ht2⟩:=eX (cS s (a.length+b.length+2) j)
      obtain⟨z,hz2⟩:=eX (s.take (j+1))
      rw[<-ht2]at hex2 hlt2;rw[<-hz2]at hex3;have HT:Hid (av s=if bP t&&decide (aF t=z)then(t,j+1)else([],0)):=by rw[Hid,HF.out,<-ht2,<-hz2]
      have c5:=cpl t (w2.drew) hlt2;have c6:=cfr t (w2.drew) hlt2;have HB2:Hid (bB w (w2.drew)):=below_drewN HB1.out 1;have hj1:(j:Int)+1<=(s.length:Int):=by omega
      have hj0:(0:Int)<=(j:Int)+1:=by omega
      have hwr:IntKind.i64.wrap ((j:Int)+1)=(j:Int)+1:=by rw[IntKind.wrap_i64];omega
      clear e3 ht2 hz2 HF cpl cfr;by_cases hp:bP t=true
      ·rw[hp]at c5
       by_cases hf:aF t=z
       ·have HE:Hid (av s=(t,j+1)):=by rw[Hid,HT.out];simp[hp,hf]
        go_wp2_with fail
        go_region_held3 (fun w'=>True) (trivial)
         (first
          |(go_at_call 169;refine c5.mono ?_;rintro e w' ⟨rfl,hw'⟩;subst w')
          |(go_at_call 92;refine c6.mono ?_;rintro e w3 ⟨rfl,b3⟩))
        have HB3:Hid (bB w w3):=HB2.out.trans (b3.mono HB2.out.size);go_wp2_with fail
        go_ret2
        rw[HE.out];exact⟨rfl,HB3.out⟩
       ·have HE:Hid (av s=([],0)):=by rw[Hid,HT.out];simp[hf]
        have hbeq:(aF t==z)=false:=by simpa using hf
        go_wp2_with fail
        go_region_held3 (fun w'=>True) (trivial)
         (first
          |(go_at_call 169;refine c5.mono ?_;rintro e w' ⟨rfl,hw'⟩;subst w')
          |(go_at_call 92;refine c6.mono ?_;rintro e w3 ⟨rfl,b3⟩))
        have HB3:Hid (bB w w3):=HB2.out.trans (b3.mono HB2.out.size);go_wp2_with fail
        go_ret2
        rw[HE.out];exact⟨rfl,HB3.out⟩
      ·have hp':bP t=false:=by simpa using hp
       have c7:∀w',_:=fun w'=>po t w' hlt2
       unfold S at c7;simp only[hp']at c7;have HE:Hid (av s=([],0)):=by rw[Hid,HT.out];simp[hp']
       clear c5 c6;go_wp2_with fail
       go_quiet ((go_at_call 169;exact Calls.quiet_of_same (c7 _)))
       go_wp2_with fail
       go_ret2
       rw[HE.out];exact⟨rfl,below_drewN HB1.out _⟩
   ·rw[show decide (s[j]=10)=false by simp[hb]]at ht
    have HS:Hid ((s.take (j+1)).all (fun b=>b !=10)=true):=by
     rw[Hid,fP s j h1,List.all_append,HX.out];simp[hb]
    clear hb HX;go_wp2
    go_round
    case rel=>exact⟨j+1,by omega,by go_num,HS⟩
    case measure=>simp[intOf];omega
  ·have HL:Hid (gc s=s.length):=qe s (by rw[show s.length=j by omega];exact HX.out)
   have HF:Hid (av s=([],0)):=by simp[Hid,av,HL.out]
   have hjs:((j:Int)==(s.length:Int))=true:=by simp;omega
   go_wp2
   go_ret2
   rw[HF.out];exact⟨rfl,Below.refl _ _⟩
def cv:Nat->Bs->List Bs×Nat
 |0,_=>([],0)
 |k+1,s=>if(av s).2=0 then([],0)else((av s).1::(cv k (s.drop (av s).2)).1,(av s).2+(cv k (s.drop (av s).2)).2)
def ar (s:Bs):List Bs×Nat:=cv 2000 s
def iL (s:Bs) (out:List Bs) (a:Nat):Prop:=ar s=(out++(cv (2000-out.length) (s.drop a)).1,a+(cv (2000-out.length) (s.drop a)).2)
theorem lK (s:Bs):(av s).2<=s.length:=by
 have h:=sV s;unfold av;dsimp only;split
 ·simp
 ·rename_i hc
  split
  ·split
   ·simp;omega
   ·simp
  ·simp
theorem iL.start (s:Bs):iL s [] 0:=by simp[iL,ar]
theorem iL.next {s:Bs} {out:List Bs} {a:Nat} (h:iL s out a) (hl:out.length<2000) (hn:(av (s.drop a)).2≠0):iL s (out++[(av (s.drop a)).1]) (a+(av (s.drop a)).2):=by
 unfold iL at h⊢;rw[h];obtain⟨k,hk⟩:∃k,2000-out.length=k+1:=⟨2000-out.length-1,by omega⟩
 have hk2:2000-(out++[(av (s.drop a)).1]).length=k:=by simp;omega
 rw[hk,hk2,cv,if_neg hn,List.drop_drop];simp[Nat.add_assoc]
theorem iL.stop {s:Bs} {out:List Bs} {a:Nat} (h:iL s out a) (hn:(av (s.drop a)).2=0∨2000<=out.length):ar s=(out,a):=by
 rw[h];rcases hn with hn|hn
 ·cases hk:2000-out.length with
  |zero=>simp[cv]
  |succ k=>rw[cv,if_pos hn];simp
 ·rw[show 2000-out.length=0 by omega];simp[cv]
theorem tc (s:Bs) (w:World) (hl:s.length<=1048576):
  Calls Tryz.prog 91 #[S s] w fun e w'=>∃u,e=.returned (.tuple #[u,.int .i64 (ar s).2])/\dh w' w.heap.size u (ar s).1/\bB w w':=by
 obtain⟨i0,hi,hz0,hz1,hz2⟩:=info_parts Tryz.infoS;have hsz:(⟨s.toArray⟩:ByteArray).size=s.length:=rfl;unfold S;go_enter Tryz.func91,Tryz.ntmps91;go_wp2;go_loopw [4,5] (fun o u wr=>∃(out:List Bs) (a:Nat) (ao:Option Addr) (cap:Nat),o=.slice ao out.length cap/\u=.int .i64 a/\(a:Int)<=s.length/\(out.length:Int)<=2000/\Hid (dh wr w.heap.size (.slice ao out.length cap) out/\bB w wr/\iL s out a)) (fun o _ _=>2000-(match o with| .slice _ n _=>n|_=>0))
 case atStart=>exact⟨[],0,_,_,rfl,rfl,by omega,by simp,World.ownsRow_lit w #[] 0 (Nat.le_refl _) (Nat.zero_le _) rfl,bA,iL.start s⟩
 case round=>
  obtain⟨out,a,ao,cap,rfl,rfl,ha,ho,HR⟩:=hrel;by_cases hlt:(out.length:Int)<2000
  ·have hex:=cA s a s.length
   have e0:cS s a s.length=s.drop a:=by simp[cS]
   rw[e0]at hex;have c1:=sW (s.drop a) wr (by simp;omega);have hfl:=lK (s.drop a);have hdl:(s.drop a).length=s.length-a:=by simp
   obtain⟨q,hq⟩:=eX (s.drop a)
   rw[<-hq]at hex c1 hfl hdl;obtain⟨t,ht⟩:=eX ((av q).1)
   obtain⟨n,hn⟩:=eX ((av q).2)
   rw[<-ht,<-hn]at c1;rw[<-hn]at hfl;unfold S at c1;have HN:Hid (n≠0->iL s (out++[t]) (a+n)):=fun h=>by
    rw[ht,hn,hq];exact HR.out.2.2.next (by omega) (by rw[<-hq,<-hn];exact h)
   have HZ:Hid (n=0->ar s=(out,a)):=fun h=>HR.out.2.2.stop (.inl (by rw[<-hq,<-hn];exact h))
   clear e0 hq ht hn;go_wp2_with fail
   refine c1.mono ?_;rintro e w1 ⟨rfl,b1⟩;clear c1;have HR1:Hid (dh w1 w.heap.size (.slice ao out.length cap) out/\bB w w1):=⟨HR.out.1.below b1,HR.out.2.1.trans (b1.mono HR.out.2.1.size)⟩
   clear b1 HR;by_cases h0:n=0
   ·subst h0
    have HF:=HZ.out rfl;go_wp2_with fail
    go_ret2
    rw[HF];exact⟨_,rfl,HR1.out.1,HR1.out.2⟩
   ·have h0':((n:Int)==0)=false:=by simpa using h0
    have hown:=HR1.out.1;have hbs:=HR1.out.2.size;unfold dh at hown;go_wp2_with (at_builtin;refine wpList_append_own _ rfl _ _ 115 rfl w.heap.size 9 i0 (.string ⟨#[]⟩) 1 16 Tryz.underlying115 hi hz0 hz1 hz2 rfl (by decide) _ _ _ rfl (hown.alloc _) _ 1 1 [S t] rfl rfl (BM w1 t) (by simp[Value.oneCell',S]) (by unfold maxLen;omega) (by omega) (by simp;omega) ?_)
    intro v' w2 hown' hgrow _;have HO:Hid (dh w2 w.heap.size v' (out++[t])/\bB w w2):=sE HR1.out.1 HR1.out.2 hown' hgrow;clear hown hown' hgrow HR1;obtain⟨ao2,cap2,hev, -⟩:=HO.out.1.reads;subst hev;go_wp2;go_roundw
    case rel=>exact⟨out++[t],a+n,ao2,cap2,rfl,by go_num,by omega,by simp;omega,HO.out.1,HO.out.2,HN.out h0⟩
    case measure=>simp;omega
  ·have HF:Hid (ar s=(out,a)):=HR.out.2.2.stop (.inr (by omega))
   go_wp2
   go_ret2
   rw[HF.out];exact⟨_,rfl,HR.out.1,HR.out.2.1⟩
section
open Go.RowKit
theorem sZ (n:Nat):digit n≠10/\digit n≠32:=by
 have h:=Nat.mod_lt n (show 0<10 by omega);unfold digit;have:∀d,d<10->UInt8.ofNat (48+d)≠10/\UInt8.ofNat (48+d)≠32:=by decide
 exact this _ h
theorem iY (n:Nat):∀b∈dec n,b≠10/\b≠32:=by
 induction n using Nat.strongRecOn with
 |ind n ih=>
  intro b hb;rw[dec]at hb;split at hb
  ·simp at hb;subst hb;exact sZ n
  ·rcases List.mem_append.1 hb with h|h
   ·exact ih (n/10) (by omega) b h
   ·simp at h;subst h;exact sZ n
theorem fF (c:UInt8) (a r:Bs) (h:∀b∈a,b≠c):ay c (a++c::r)=a::ay c r:=by
 induction a with
 |nil=>simp[ay]
 |cons b a ih=>
  rw[List.cons_append,ay,if_neg (h b (by simp)),ih (fun x hx=>h x (by simp[hx]))];rfl
def fB (t:Bs):Bs:=dec t.length++32::(dec (chk t).toNat++32::t)
theorem fc (t:Bs):aF t=fB t++[10]:=by simp[aF,fB]
theorem Az {t:Bs} (h:bP t=true):∀b∈t,b≠10:=by
 simp[bP]at h;exact h.1
theorem qf {t:Bs} (h:bP t=true):t.length<=300:=by
 simp[bP]at h;exact h.2
theorem nA {t:Bs} (h:bP t=true):(fB t).all (fun b=>b !=10)=true:=by
 rw[List.all_eq_true];intro b hb;simp only[bne_iff_ne,ne_eq];unfold fB at hb;rcases List.mem_append.1 hb with hb|hb
 ·exact(iY _ b hb).1
 ·rcases List.mem_cons.1 hb with rfl|hb
  ·decide
  ·rcases List.mem_append.1 hb with hb|hb
   ·exact(iY _ b hb).1
   ·rcases List.mem_cons.1 hb with rfl|hb
    ·decide
    ·exact Az h b hb
theorem AA {t:Bs} (h:bP t=true):(fB t).length<=330:=by
 have h1:=eI 2 t.length (by have:=qf h;omega);have h2:=eI 5 (chk t).toNat (by have:=kD t;omega);have h3:=qf h;simp[fB];omega
theorem gB (t:Bs):(aF t).length=(fB t).length+1:=by simp[fc]
theorem Ci (a b:Bs) (n:Nat) (h:n=a.length) (m:Nat) (hm:m=(a++b).length) (r:Bs):cS (a++b++r) n m=b:=by
 subst h hm;unfold cS;rw[List.take_left,List.drop_left]
theorem nO {t:Bs} (h:bP t=true) (r:Bs):av (aF t++r)=(t,(aF t).length):=by
 have hl:gc (aF t++r)=(fB t).length:=by
  rw[fc,List.append_assoc,lJ _ _ (nA h)];simp[j8]
 have hb:=AA h;have hf:=gB t;have htake:(aF t++r).take (fB t).length=fB t:=by
  rw[fc,List.append_assoc,List.take_left]
 have htake1:(aF t++r).take ((fB t).length+1)=aF t:=by
  rw[<-hf,List.take_left]
 have hsp:ay 32 (fB t)=dec t.length::dec (chk t).toNat::ay 32 t:=by
  unfold fB;rw[fF 32 _ _ (fun b hb=>(iY _ b hb).2),fF 32 _ _ (fun b hb=>(iY _ b hb).2)]
 have hcut:cS (aF t++r) ((dec t.length).length+(dec (chk t).toNat).length+2) (fB t).length=t:=by
  have e:aF t++r=(dec t.length++32::(dec (chk t).toNat++[32]))++t++(10::r):=by simp[aF]
  rw[e];refine Ci _ _ _ (by simp;omega) _ ?_ _;simp[fB]
 unfold av;rw[hl];have hno:¬((fB t).length=(aF t++r).length∨330<(fB t).length):=by
  rw[List.length_append,hf];omega
 simp only[hno,if_false,htake,htake1,hsp];cases hs:ay 32 t with
 |nil=>exact absurd hs (dU 32 t)
 |cons p ps=>
  simp only[hcut];simp[h,hf]
theorem gh (s:Bs) (h:(av s).2≠0):bP (av s).1=true/\aF (av s).1=s.take (av s).2/\(av s).2=(aF (av s).1).length:=by
 have hl:=sV s;unfold av at h⊢;dsimp only at h⊢;split at h
 ·exact absurd rfl h
 ·rename_i hno
  rw[if_neg hno]at⊢;split at h
  ·rename_i a b c rest heq
   split at h
   ·rename_i hc
    simp only[Bool.and_eq_true,decide_eq_true_eq]at hc;simp only[hc,decide_true,Bool.and_self,if_true];refine⟨trivial,trivial,?_⟩;simp;omega
   ·exact absurd rfl h
  ·exact absurd rfl h
theorem mw (s:Bs) (h:(av s).2=0):av s=([],0):=by
 unfold av at h⊢;dsimp only at h⊢;split
 ·rfl
 ·rename_i hno
  rw[if_neg hno]at h;split
  ·rename_i a b c rest heq
   simp only[heq]at h;split
   ·rename_i hc
    rw[if_pos hc]at h;simp at h
   ·rfl
  ·rfl
def cat (ts:List Bs):Bs:=(ts.map aF).flatten
theorem iZ (t:Bs) (ts:List Bs):cat (t::ts)=aF t++cat ts:=by simp[cat]
theorem kM (ts:List Bs) (t:Bs):cat (ts++[t])=cat ts++aF t:=by simp[cat]
theorem nP (t:Bs):0<(aF t).length:=by rw[gB];omega
theorem i6 (ts:List Bs) (r:Bs) (hp:∀t∈ts,bP t=true) (k:Nat) (hk:ts.length<=k) (hr:k=ts.length∨(av r).2=0):cv k (cat ts++r)=(ts,(cat ts).length):=by
 induction ts generalizing k with
 |nil=>
  cases k with
  |zero=>simp[cv,cat]
  |succ k=>
   have h0:(av r).2=0:=by
    rcases hr with h|h
    ·simp at h
    ·exact h
   rw[cv];simp[cat,h0]
 |cons t ts ih=>
  cases k with
  |zero=>simp at hk
  |succ k=>
   have ht:=nO (hp t (by simp)) (cat ts++r);have hpos:=nP t;rw[cv,iZ,List.append_assoc,ht];have hne:¬(aF t).length=0:=by omega
   simp only[hne,if_false,List.drop_left];rw[ih (fun x hx=>hp x (by simp[hx])) k (by simpa using hk) (by rcases hr with h|h;exact .inl (by simpa using h);exact .inr h)];simp
theorem pw (k:Nat):∀s:Bs,(∀t∈(cv k s).1,bP t=true)/\s.take (cv k s).2=cat (cv k s).1/\(cv k s).2=(cat (cv k s).1).length/\(cv k s).1.length<=k:=by
 induction k with
 |zero=>intro s;simp[cv,cat]
 |succ k ih=>
  intro s;rw[cv];by_cases h:(av s).2=0
  ·simp[h,cat]
  ·obtain⟨h1,h2,h3⟩:=gh s h
   obtain⟨i1,i2,i3,i4⟩:=ih (s.drop (av s).2);simp only[h,if_false];refine⟨fun t ht=>?_,?_,?_,?_⟩
   ·rcases List.mem_cons.1 ht with rfl|ht
    ·exact h1
    ·exact i1 t ht
   ·rw[iZ,List.take_add,i2,<-h2]
   ·rw[iZ,List.length_append,<-i3,<-h3]
   ·simp;omega
theorem dI (s:Bs):(∀t∈(ar s).1,bP t=true)/\s.take (ar s).2=cat (ar s).1/\(ar s).2=(cat (ar s).1).length/\(ar s).1.length<=2000:=pw 2000 s
theorem j9 (s:Bs):(ar s).2<=s.length:=by
 obtain⟨_,h2,h3,_⟩:=dI s;have:=congrArg List.length h2;rw[List.length_take]at this;omega
theorem mx {q:Bs} (h:q.all (fun b=>b !=10)=true):(av q).2=0:=by
 have:gc q=q.length:=qe q (by rw[List.take_length];exact h);simp[av,this]
end
end Go.Proofs.YthldeiojlllkdaaGreatDoor
