/- The model's hands on a holding that lies lR a store, behind a pointer into it. -/
import Derived.Test.YthldeiojlllkdaaGreatDoorM1
import Derived.Test.YthldeiojlllkdaaGreatDoorM24
import Derived.Test.YthldeiojlllkdaaGreatDoorM5
set_option maxRecDepth 20000
set_option maxHeartbeats 4000000
namespace Go.Proofs.YthldeiojlllkdaaGreatDoor
open Go.ChangeShapes Go.WideShapes Go.ChangeAt Go.RowKit
structure Bo where
 b:Nat
 t:TypeId
 cs:Array Value
def DX (L:List Bo) (w:World) (base g q:Nat) (a b:Value) (xs ys:List Int):Prop:=
 aS w base a b xs ys/\(∀k,k=g∨k=q->a.ownBlock≠some k/\b.ownBlock≠some k)/\∀x∈L,StB w x.b x.t x.cs/\x.b≠g/\x.b≠q
theorem DX.kept {L:List Bo} {w w':World} {base g q k:Nat} {a b:Value} {xs ys:List Int} (d:DX L w base g q a b xs ys) (G:w.grownBy w' (some k)) (hk:k=g∨k=q):DX L w' base g q a b xs ys:=
 ⟨⟨d.1.1.kept G (.inr (d.2.1 k hk).1),d.1.2.1.kept G (.inr (d.2.1 k hk).2),d.1.2.2⟩,d.2.1,fun x hx=>⟨(d.2.2 x hx).1.kept G (by intro e;have:=Option.some.inj e;have:=(d.2.2 x hx).2;omega),(d.2.2 x hx).2⟩⟩
theorem DX.below {L:List Bo} {w w':World} {base g q:Nat} {a b:Value} {xs ys:List Int} (d:DX L w base g q a b xs ys) (h:bB w w'):DX L w' base g q a b xs ys:=
 ⟨⟨d.1.1.below h,d.1.2.1.below h,d.1.2.2⟩,d.2.1,fun x hx=>⟨(d.2.2 x hx).1.below h,(d.2.2 x hx).2⟩⟩
theorem DX.put {L:List Bo} {w w':World} {base g q:Nat} {a b:Value} {xs ys:List Int} (d:DX L w base g q a b xs ys) (G:w.grownBy w' (some g)):DX L w' base g q a b xs ys:=d.kept G (.inl rfl)
theorem DX.make {L:List Bo} {w w':World} {base g q:Nat} {a b:Value} {xs ys:List Int} (d:DX L w base g q a b xs ys) (G:w.grownBy w' none) (hg:g<w.heap.size):DX L w' base g w.heap.size a b xs ys:=by
 refine⟨⟨d.1.1.kept G (Classical.em _),d.1.2.1.kept G (Classical.em _),d.1.2.2⟩,?_,fun x hx=>?_⟩
 ·intro k hk
  rcases hk with rfl|rfl
  ·exact d.2.1 k (.inl rfl)
  ·exact⟨fun e=>by have:=(d.1.1.lt _ e).2;omega,fun e=>by have:=(d.1.2.1.lt _ e).2;omega⟩
 ·have h1:=(d.2.2 x hx).1
  have h2:=h1.lt;exact⟨h1.kept G (by simp),(d.2.2 x hx).2.1,by omega⟩
def PT (L:List Bo) (a b:Value) (xs ys:List Int) (w:World) (base g q cap:Nat) (h:Hd):Prop:=
 StB w g 96 (srA a b (.slice (some ⟨q,0,none⟩) 4 cap) h)/\Own w base (.slice (some ⟨q,0,none⟩) 4 cap) h.ks/\(g≠q/\base<=g/\base<=q/\h.ks.length=4/\DX L w base g q a b xs ys)
def PS (L:List Bo) (a b:Value) (xs ys:List Int) (w:World) (base g:Nat) (h:Hd):Prop:=∃q cap,PT L a b xs ys w base g q cap h
theorem PT.put {L:List Bo} {a b:Value} {xs ys:List Int} {w:World} {base g q cap:Nat} {h:Hd} (d:PT L a b xs ys w base g q cap h) (j:Nat) (x:Int) (f:Hd) (hk:f.ks=h.ks) (e:(srA a b (.slice (some ⟨q,0,none⟩) 4 cap) h).setIfInBounds j (.int .i64 x)=srA a b (.slice (some ⟨q,0,none⟩) 4 cap) f):
  PT L a b xs ys (w.setCell ⟨g,j,none⟩ (.int .i64 x)) base g q cap f/\Below base w (w.setCell ⟨g,j,none⟩ (.int .i64 x)):=by
 obtain⟨h1,h2,h3⟩:=d;have G:=ai w g j (.int .i64 x);refine⟨⟨h1.put j _ e,?_,?_⟩,(Below.refl base w).setCell h3.2.1 _⟩
 ·rw[hk];exact h2.kept G (.inr (by intro e;have:q=g:=Option.some.inj e;omega))
 ·rw[hk];exact⟨h3.1,h3.2.1,h3.2.2.1,h3.2.2.2.1,h3.2.2.2.2.put G⟩
theorem PT.key {L:List Bo} {a b:Value} {xs ys:List Int} {w:World} {base g q cap:Nat} {h:Hd} (d:PT L a b xs ys w base g q cap h) (j:Nat) (hj:j<4) (x:Int):
  w.frozen? ⟨q,j,none⟩=false/\w.cell? ⟨q,j,none⟩=some (.int .i64 (h.ks.getD j 0))/\PT L a b xs ys (w.setCell ⟨q,j,none⟩ (.int .i64 x)) base g q cap ⟨h.ks.set j x,h.kd,h.ho,h.tu⟩/\Below base w (w.setCell ⟨q,j,none⟩ (.int .i64 x)):=by
 obtain⟨h1,h2,h3⟩:=d;obtain⟨f, -,o⟩:=h2.put h3.2.2.2.1.symm j hj x;have G:=ai w q j (.int .i64 x);obtain⟨-, -, -,hc⟩:=aK h2.reads;obtain⟨b,off,e,hcell⟩:=hc j hj;simp only[Option.some.injEq,Addr.mk.injEq]at e;obtain⟨rfl,rfl, -⟩:=e;rw[Nat.zero_add]at hcell;refine⟨f,hcell,⟨h1.kept G ?_,o,?_⟩,(Below.refl base w).setCell h3.2.2.1 _⟩
 ·intro e;have:=Option.some.inj e;omega
 ·exact⟨h3.1,h3.2.1,h3.2.2.1,by simpa using h3.2.2.2.1,h3.2.2.2.2.kept G (.inr rfl)⟩
theorem PT.below {L:List Bo} {a b:Value} {xs ys:List Int} {w w':World} {base g q cap:Nat} {h:Hd} (d:PT L a b xs ys w base g q cap h) (b':bB w w'):PT L a b xs ys w' base g q cap h:=
 ⟨d.1.below b',d.2.1.below b',d.2.2.1,d.2.2.2.1,d.2.2.2.2.1,d.2.2.2.2.2.1,d.2.2.2.2.2.2.below b'⟩
theorem PT.lt {L:List Bo} {a b:Value} {xs ys:List Int} {w:World} {base g q cap:Nat} {h:Hd} (d:PT L a b xs ys w base g q cap h):base<=w.heap.size:=by
 have:=d.1.lt;have:=d.2.2.2.1;omega
theorem PS.below {L:List Bo} {a b:Value} {xs ys:List Int} {w w':World} {base g:Nat} {h:Hd} (d:PS L a b xs ys w base g h) (b':bB w w'):PS L a b xs ys w' base g h:=by
 obtain⟨q,cap,d⟩:=d;exact⟨q,cap,d.below b'⟩
theorem PS.lt {L:List Bo} {a b:Value} {xs ys:List Int} {w:World} {base g:Nat} {h:Hd} (d:PS L a b xs ys w base g h):base<=w.heap.size:=by
 obtain⟨q,cap,d⟩:=d;exact d.lt
theorem PS.boxes {L:List Bo} {a b:Value} {xs ys:List Int} {w w':World} {base g:Nat} {h:Hd} (d:PS [] a b xs ys w base g h) (b':bB w w') (hL:∀x∈L,StB w' x.b x.t x.cs/\w.heap.size<=x.b):PS L a b xs ys w' base g h:=by
 obtain⟨q,cap,d⟩:=d;have hg:=d.1.lt;have hq:=(d.2.1.lt q rfl).2;have e:=d.below b';exact⟨q,cap,e.1,e.2.1,e.2.2.1,e.2.2.2.1,e.2.2.2.2.1,e.2.2.2.2.2.1,e.2.2.2.2.2.2.1,e.2.2.2.2.2.2.2.1,fun x hx=>⟨(hL x hx).1,by have:=(hL x hx).2;omega,by have:=(hL x hx).2;omega⟩⟩
theorem PS.box {L:List Bo} {a b:Value} {xs ys:List Int} {w:World} {base g:Nat} {h:Hd} (d:PS L a b xs ys w base g h) (x:Bo) (hx:x∈L):StB w x.b x.t x.cs:=by
 obtain⟨q,cap,d⟩:=d;exact(d.2.2.2.2.2.2.2.2 x hx).1
theorem jj {L:List Bo} {a b:Value} {xs ys:List Int} (base g:Nat) (h:Hd) (w:World) (d:PS L a b xs ys w base g h) (h0:0<=h.tu) (h1:h.tu<=1000000000):
  Calls Tryz.prog 171 #[.pointer (some ⟨g,2,none⟩)] w fun e w'=>e=.returned (.tuple #[])/\PS L a b xs ys w' base g h.turn/\Below base w w':=by
 obtain⟨q,cap,d⟩:=d;have k3:w.cell? ⟨g,5,none⟩=some (.int .i64 h.tu):=d.1.cell 5 rfl;have f3:=d.1.frozen 5;have P1:=d.put 5 (h.tu+1) ⟨h.ks,h.kd,h.ho,h.tu+1⟩ rfl rfl;have hwr:IntKind.i64.wrap (h.tu+1)=h.tu+1:=by rw[IntKind.wrap_i64];omega
 by_cases hb:1000000000<h.tu+1
 ·have P2:=P1.1.put 5 0 ⟨h.ks,h.kd,h.ho,0⟩ rfl rfl
  have HP:Hid (PS L a b xs ys ((w.setCell ⟨g,5,none⟩ (.int .i64 (h.tu+1))).setCell ⟨g,5,none⟩ (.int .i64 0)) base g h.turn/\Below base w ((w.setCell ⟨g,5,none⟩ (.int .i64 (h.tu+1))).setCell ⟨g,5,none⟩ (.int .i64 0))):=by
   refine⟨⟨q,cap,?_⟩,P1.2.trans P2.2⟩;have e:h.turn=⟨h.ks,h.kd,h.ho,0⟩:=by simp[Hd.turn,cL,hb]
   rw[e];exact P2.1
  have k4:(w.setCell ⟨g,5,none⟩ (.int .i64 (h.tu+1))).cell? ⟨g,5,none⟩=some (.int .i64 (h.tu+1)):=P1.1.1.cell 5 rfl;clear P1 P2 d;go_enter Tryz.func171,Tryz.ntmps171;go_wp2
  go_end0
  exact⟨rfl,HP.out⟩
 ·have HP:Hid (PS L a b xs ys (w.setCell ⟨g,5,none⟩ (.int .i64 (h.tu+1))) base g h.turn/\Below base w (w.setCell ⟨g,5,none⟩ (.int .i64 (h.tu+1)))):=by
   refine⟨⟨q,cap,?_⟩,P1.2⟩;have e:h.turn=⟨h.ks,h.kd,h.ho,h.tu+1⟩:=by simp[Hd.turn,cL,hb]
   rw[e];exact P1.1
  clear P1 d;go_enter Tryz.func171,Tryz.ntmps171;go_wp2
  go_end0
  exact⟨rfl,HP.out⟩
theorem jk {L:List Bo} {a b:Value} {xs ys:List Int} (base g:Nat) (h:Hd) (w:World) (d:PS L a b xs ys w base g h):
  Calls Tryz.prog 172 #[.pointer (some ⟨g,2,none⟩)] w fun e w'=>e=.returned (.tuple #[])/\PS L a b xs ys w' base g h.free/\Below base w w':=by
 obtain⟨q,cap,d⟩:=d;have k1:w.cell? ⟨g,3,none⟩=some (.int .i64 h.kd):=d.1.cell 3 rfl;have f1:=d.1.frozen 3;have k2:w.cell? ⟨g,4,none⟩=some (.int .i64 h.ho):=d.1.cell 4 rfl;have f2:=d.1.frozen 4;have P1:=d.put 3 0 ⟨h.ks,0,h.ho,h.tu⟩ rfl rfl;have P2:=P1.1.put 4 (-1) h.free rfl rfl;have HP:Hid (PS L a b xs ys ((w.setCell ⟨g,3,none⟩ (.int .i64 0)).setCell ⟨g,4,none⟩ (.int .i64 (-1))) base g h.free/\Below base w ((w.setCell ⟨g,3,none⟩ (.int .i64 0)).setCell ⟨g,4,none⟩ (.int .i64 (-1)))):=⟨⟨q,cap,P2.1⟩,P1.2.trans P2.2⟩
 clear P1 P2 d;go_enter Tryz.func172,Tryz.ntmps172;go_wp2
 go_end0
 exact⟨rfl,HP.out⟩
theorem mV {L:List Bo} {a b:Value} {xs ys:List Int} (base g:Nat) (h:Hd) (i k:Int) (w:World) (d:PS L a b xs ys w base g h):
  Calls Tryz.prog 173 #[.pointer (some ⟨g,2,none⟩),.int .i64 i,.int .i64 k] w fun e w'=>e=.returned (.tuple #[])/\PS L a b xs ys w' base g (h.take i k)/\Below base w w':=by
 obtain⟨q,cap,d⟩:=d;have k1:w.cell? ⟨g,3,none⟩=some (.int .i64 h.kd):=d.1.cell 3 rfl;have f1:=d.1.frozen 3;have k2:w.cell? ⟨g,4,none⟩=some (.int .i64 h.ho):=d.1.cell 4 rfl;have f2:=d.1.frozen 4;have P1:=d.put 3 k ⟨h.ks,k,h.ho,h.tu⟩ rfl rfl;have P2:=P1.1.put 4 i ⟨h.ks,k,i,h.tu⟩ rfl rfl;obtain⟨w2,hw2⟩:=eX ((w.setCell ⟨g,3,none⟩ (.int .i64 k)).setCell ⟨g,4,none⟩ (.int .i64 i))
 rw[<-hw2]at P2;have k3:w2.cell? ⟨g,4,none⟩=some (.int .i64 i):=P2.1.1.cell 4 rfl;have f3:=P2.1.1.frozen 4;have P3:=P2.1.put 4 (-1) ⟨h.ks,k, -1,h.tu⟩ rfl rfl;have c1:=iA k w2;cases ha:bY k with
 |true=>
  have e:h.take i k=⟨h.ks,k, -1,h.tu⟩:=by simp[Hd.take,ha]
  rw[e];rw[ha]at c1;have HP:Hid (PS L a b xs ys (w2.setCell ⟨g,4,none⟩ (.int .i64 (-1))) base g ⟨h.ks,k, -1,h.tu⟩/\Below base w (w2.setCell ⟨g,4,none⟩ (.int .i64 (-1)))):=⟨⟨q,cap,P3.1⟩,(P1.2.trans P2.2).trans P3.2⟩
  clear P1 P2 P3 d e ha;go_enter Tryz.func173,Tryz.ntmps173;go_wp2_with fail
  rw[<-hw2];clear hw2 k1 f1 k2 f2;refine c1.mono ?_;rintro e w' ⟨rfl,hw'⟩;subst w';go_wp2
  go_end0
  exact⟨rfl,HP.out⟩
 |false=>
  have e:h.take i k=⟨h.ks,k,i,h.tu⟩:=by simp[Hd.take,ha]
  rw[e];rw[ha]at c1;have HP:Hid (PS L a b xs ys w2 base g ⟨h.ks,k,i,h.tu⟩/\Below base w w2):=⟨⟨q,cap,P2.1⟩,P1.2.trans P2.2⟩
  clear P1 P2 P3 d e ha;go_enter Tryz.func173,Tryz.ntmps173;go_wp2_with fail
  rw[<-hw2];clear hw2 k1 f1 k2 f2;refine c1.mono ?_;rintro e w' ⟨rfl,hw'⟩;subst w';go_wp2
  go_end0
  exact⟨rfl,HP.out⟩
theorem nt {L:List Bo} {a b:Value} {xs ys:List Int} (base g:Nat) (h:Hd) (i key:Int) (w:World) (d:PS L a b xs ys w base g h) (t0:0<=h.tu) (t1:h.tu<=1000000000) (i0:0<=i) (i1:i<4):
  Calls Tryz.prog 131 #[.pointer (some ⟨g,2,none⟩),.int .i64 i,.int .i64 key] w fun e w'=>e=.returned (.tuple #[])/\PS L a b xs ys w' base g (h.regd i key)/\Below base w w':=by
 obtain⟨q,cap,d⟩:=d;have k0:w.cell? ⟨g,2,none⟩=some (.slice (some ⟨q,0,none⟩) 4 cap):=d.1.cell 2 rfl;obtain⟨fk,ck,PK,BK⟩:=d.key i.toNat (by omega) key;have c1:=jj (L:=L) (a:=a) (b:=b) (xs:=xs) (ys:=ys) base g (h.key i key) _ ⟨q,cap,PK⟩ t0 t1;have HE:Hid (h.regd i key=if key=0/\(h.ho=i∨eD (h.ks.set i.toNat key)=false)then((h.key i key).turn).free else(h.key i key).turn):=rfl;obtain⟨h1,e1⟩:=eX ((h.key i key).turn)
 rw[<-e1]at c1 HE;have eho:h1.ho=h.ho:=by rw[e1];rfl
 have eks:h1.ks=h.ks.set i.toNat key:=by rw[e1];rfl
 rw[<-eho,<-eks]at HE;have HB:Hid (Below base w (w.setCell ⟨q,i.toNat,none⟩ (.int .i64 key))):=BK;clear PK BK d e1 eho eks t0 t1;obtain⟨r,hr⟩:=eX (h.regd i key)
 rw[<-hr]at HE⊢;clear hr;go_enter Tryz.func131,Tryz.ntmps131;go_wp2_with fail
 refine c1.mono ?_;rintro e w1 ⟨rfl,P1,B1⟩;replace HB:Hid (Below base w w1):=HB.out.trans B1;clear c1 B1 k0 fk ck;have cf:=jk (L:=L) (a:=a) (b:=b) (xs:=xs) (ys:=ys) base g h1;have HP:Hid (PS L a b xs ys w1 base g h1):=P1;obtain⟨q1,cap1,d1⟩:=P1;have k0:w1.cell? ⟨g,2,none⟩=some (.slice (some ⟨q1,0,none⟩) 4 cap1):=d1.1.cell 2 rfl;have k1:w1.cell? ⟨g,3,none⟩=some (.int .i64 h1.kd):=d1.1.cell 3 rfl;have k2:w1.cell? ⟨g,4,none⟩=some (.int .i64 h1.ho):=d1.1.cell 4 rfl;have k3:w1.cell? ⟨g,5,none⟩=some (.int .i64 h1.tu):=d1.1.cell 5 rfl;have ca:=qI _ h1 w1 d1.2.1.reads (by have:=d1.2.2.2.2.2;omega);unfold HV hdA at ca;clear d1;by_cases hk:key=0
 ·by_cases hh:h1.ho=i
  ·have HR:Hid (r=h1.free):=by rw[Hid,HE.out,if_pos ⟨hk,.inl hh⟩]
   clear ca HE;subst hk;go_wp2_with fail
   refine(cf _ HP.out).mono ?_;rintro e w2 ⟨rfl,P2,B2⟩;go_wp2
   go_end0
   exact⟨rfl,by rw[HR.out];exact P2,HB.out.trans B2⟩
  ·cases hn:eD h1.ks with
   |false=>
    have HR:Hid (r=h1.free):=by rw[Hid,HE.out,if_pos ⟨hk,.inr hn⟩]
    rw[hn]at ca;clear HE hn;subst hk;go_wp2_with fail
    refine ca.mono ?_;rintro e w2 ⟨rfl,b2⟩;replace HB:Hid (Below base w w2):=HB.out.trans (b2.mono HP.out.lt);replace HP:Hid (PS L a b xs ys w2 base g h1):=HP.out.below b2;clear b2 k0 k1 k2 k3;go_wp2_with fail
    refine(cf _ HP.out).mono ?_;rintro e w3 ⟨rfl,P3,B3⟩;go_wp2
    go_end0
    exact⟨rfl,by rw[HR.out];exact P3,HB.out.trans B3⟩
   |true=>
    have HR:Hid (r=h1):=by rw[Hid,HE.out,if_neg (by simp[hh,hn])]
    rw[hn]at ca;clear HE hn cf;subst hk;go_wp2_with fail
    refine ca.mono ?_;rintro e w2 ⟨rfl,b2⟩;have HQ:Hid (PS L a b xs ys w2 base g h1/\Below base w w2):=⟨HP.out.below b2,HB.out.trans (b2.mono HP.out.lt)⟩
    clear b2 k0 k1 k2 k3 HP HB;go_wp2
    go_end0
    exact⟨rfl,by rw[HR.out];exact HQ.out.1,HQ.out.2⟩
 ·have HR:Hid (r=h1):=by rw[Hid,HE.out,if_neg (fun c=>hk c.1)]
  have HQ:Hid (PS L a b xs ys w1 base g h1/\Below base w w1):=⟨HP.out,HB.out⟩
  clear ca HE cf HP HB;go_wp2
  go_end0
  exact⟨rfl,by rw[HR.out];exact HQ.out.1,HQ.out.2⟩
theorem oX {L:List Bo} {a b:Value} {xs ys:List Int} (base g:Nat) (h:Hd) (i k:Int) (w:World) (d:PS L a b xs ys w base g h) (i0:0<=i) (i1:i<4):
  Calls Tryz.prog 132 #[.pointer (some ⟨g,2,none⟩),.int .i64 i,.int .i64 k] w fun e w'=>e=.returned (.bool (h.resd i k).2)/\PS L a b xs ys w' base g (h.resd i k).1/\Below base w w':=by
 have HP:Hid (PS L a b xs ys w base g h):=d;obtain⟨q1,cap1,d1⟩:=d;have k0:w.cell? ⟨g,2,none⟩=some (.slice (some ⟨q1,0,none⟩) 4 cap1):=d1.1.cell 2 rfl;have k1:w.cell? ⟨g,3,none⟩=some (.int .i64 h.kd):=d1.1.cell 3 rfl;have k2:w.cell? ⟨g,4,none⟩=some (.int .i64 h.ho):=d1.1.cell 4 rfl;have k3:w.cell? ⟨g,5,none⟩=some (.int .i64 h.tu):=d1.1.cell 5 rfl;have cr:=gt _ h i w d1.2.1.reads i0 (by have:=d1.2.2.2.2.2;omega);obtain⟨r,HE⟩:∃r,Hid (r=h.resd i k):=⟨_,rfl⟩
 rw[<-HE.out];unfold HV hdA at cr;clear d1;cases hg:dV h.ks i with
 |false=>
  have HR:Hid (r=(h,false)):=by rw[Hid,HE.out,Hd.resd,if_pos hg]
  rw[hg]at cr;clear HE hg;go_enter Tryz.func132,Tryz.ntmps132;go_wp2_with fail
  refine cr.mono ?_;rintro e w2 ⟨rfl,b2⟩;have HQ:Hid (PS L a b xs ys w2 base g h/\Below base w w2):=⟨HP.out.below b2,b2.mono HP.out.lt⟩
  clear b2 HP k0 k1 k2 k3 cr;go_wp2;go_ret;exact⟨by rw[HR.out];rfl,by rw[HR.out];exact HQ.out.1,HQ.out.2⟩
 |true=>
  have H1:Hid (r=if h.kd=0 then(h.take i k,true)else(h,decide (h.kd=k)&&(bY k||decide (h.ho=i)))):=by rw[Hid,HE.out,Hd.resd,if_neg (by rw[hg];decide)]
  rw[hg]at cr;have ct:=mV (L:=L) (a:=a) (b:=b) (xs:=xs) (ys:=ys) base g h i k;have cf:=fun wx=>iA k wx
  obtain⟨bf,hbf⟩:=eX (bY k)
  rw[<-hbf]at H1;simp only[<-hbf]at cf;clear HE hg hbf;go_enter Tryz.func132,Tryz.ntmps132;go_wp2_with fail
  refine cr.mono ?_;rintro e w2 ⟨rfl,b2⟩;have HB:Hid (Below base w w2):=b2.mono HP.out.lt;replace HP:Hid (PS L a b xs ys w2 base g h):=HP.out.below b2;clear b2 k0 k1 k2 k3 cr;obtain⟨q2,cap2,d2⟩:=HP.out;have k0:w2.cell? ⟨g,2,none⟩=some (.slice (some ⟨q2,0,none⟩) 4 cap2):=d2.1.cell 2 rfl;have k1:w2.cell? ⟨g,3,none⟩=some (.int .i64 h.kd):=d2.1.cell 3 rfl;have k2:w2.cell? ⟨g,4,none⟩=some (.int .i64 h.ho):=d2.1.cell 4 rfl;have k3:w2.cell? ⟨g,5,none⟩=some (.int .i64 h.tu):=d2.1.cell 5 rfl;clear d2;by_cases hk:h.kd=0
  ·have HR:Hid (r=(h.take i k,true)):=by rw[Hid,H1.out,if_pos hk]
   clear H1 cf;rw[hk]at k1;go_wp2_with fail
   refine(ct _ HP.out).mono ?_;rintro e w3 ⟨rfl,P3,B3⟩;have HQ:Hid (PS L a b xs ys w3 base g (h.take i k)/\Below base w w3):=⟨P3,HB.out.trans B3⟩
   clear P3 B3 HP HB k0 k1 k2 k3 ct hk;go_wp2;go_ret;exact⟨by rw[HR.out];rfl,by rw[HR.out];exact HQ.out.1,HQ.out.2⟩
  ·have HR:Hid (r=(h,decide (h.kd=k)&&(bf||decide (h.ho=i)))):=by rw[Hid,H1.out,if_neg hk]
   have HQ:Hid (PS L a b xs ys w2 base g h/\Below base w w2):=⟨HP.out,HB.out⟩
   clear H1 ct HP HB;by_cases hkk:h.kd=k
   ·have hkb:(h.kd==k)=true:=by simp[hkk]
    cases bf with
    |true=>
     have HS:Hid (r=(h,true)):=by rw[Hid,HR.out];simp[hkk]
     clear HR;go_wp2_with fail
     refine(cf _).mono ?_;rintro e w' ⟨rfl,hw'⟩;subst w';go_wp2;go_ret;exact⟨by rw[HS.out];rfl,by rw[HS.out];exact HQ.out.1,HQ.out.2⟩
    |false=>
     have HS:Hid (r=(h,decide (h.ho=i))):=by rw[Hid,HR.out];simp[hkk]
     clear HR;go_wp2_with fail
     refine(cf _).mono ?_;rintro e w' ⟨rfl,hw'⟩;subst w';go_wp2;go_ret;exact⟨af (by rw[HS.out];by_cases hh:h.ho=i<;>simp[hh]),by rw[HS.out];exact HQ.out.1,HQ.out.2⟩
   ·have HS:Hid (r=(h,false)):=by rw[Hid,HR.out];simp[hkk]
    clear HR cf;go_wp2;go_ret;exact⟨af (by rw[HS.out]),by rw[HS.out];exact HQ.out.1,HQ.out.2⟩
theorem oY {L:List Bo} {a b:Value} {xs ys:List Int} (base g:Nat) (h:Hd) (i:Int) (w:World) (d:PS L a b xs ys w base g h) (i0:0<=i) (i1:i<4):
  Calls Tryz.prog 133 #[.pointer (some ⟨g,2,none⟩),.int .i64 i] w fun e w'=>e=.returned (.bool (h.reld i).2)/\PS L a b xs ys w' base g (h.reld i).1/\Below base w w':=by
 have HP:Hid (PS L a b xs ys w base g h):=d;obtain⟨q1,cap1,d1⟩:=d;have k0:w.cell? ⟨g,2,none⟩=some (.slice (some ⟨q1,0,none⟩) 4 cap1):=d1.1.cell 2 rfl;have k1:w.cell? ⟨g,3,none⟩=some (.int .i64 h.kd):=d1.1.cell 3 rfl;have k2:w.cell? ⟨g,4,none⟩=some (.int .i64 h.ho):=d1.1.cell 4 rfl;have k3:w.cell? ⟨g,5,none⟩=some (.int .i64 h.tu):=d1.1.cell 5 rfl;have cr:=gt _ h i w d1.2.1.reads i0 (by have:=d1.2.2.2.2.2;omega);obtain⟨r,HE⟩:∃r,Hid (r=h.reld i):=⟨_,rfl⟩
 rw[<-HE.out];unfold HV hdA at cr;clear d1;cases hg:dV h.ks i with
 |false=>
  have HR:Hid (r=(h,false)):=by rw[Hid,HE.out,Hd.reld,if_pos hg]
  rw[hg]at cr;clear HE hg;go_enter Tryz.func133,Tryz.ntmps133;go_wp2_with fail
  refine cr.mono ?_;rintro e w2 ⟨rfl,b2⟩;have HQ:Hid (PS L a b xs ys w2 base g h/\Below base w w2):=⟨HP.out.below b2,b2.mono HP.out.lt⟩
  clear b2 HP k0 k1 k2 k3 cr;go_wp2;go_ret;exact⟨by rw[HR.out];rfl,by rw[HR.out];exact HQ.out.1,HQ.out.2⟩
 |true=>
  have H1:Hid (r=if h.holds i then(h.free,true)else(h,true)):=by rw[Hid,HE.out,Hd.reld,if_neg (by rw[hg];decide)]
  rw[hg]at cr;have ct:=jk (L:=L) (a:=a) (b:=b) (xs:=xs) (ys:=ys) base g h;clear HE hg;go_enter Tryz.func133,Tryz.ntmps133;go_wp2_with fail
  refine cr.mono ?_;rintro e w2 ⟨rfl,b2⟩;have HB:Hid (Below base w w2):=b2.mono HP.out.lt;replace HP:Hid (PS L a b xs ys w2 base g h):=HP.out.below b2;clear b2 k0 k1 k2 k3 cr;obtain⟨q2,cap2,d2⟩:=HP.out;have k0:w2.cell? ⟨g,2,none⟩=some (.slice (some ⟨q2,0,none⟩) 4 cap2):=d2.1.cell 2 rfl;have k1:w2.cell? ⟨g,3,none⟩=some (.int .i64 h.kd):=d2.1.cell 3 rfl;have k2:w2.cell? ⟨g,4,none⟩=some (.int .i64 h.ho):=d2.1.cell 4 rfl;have k3:w2.cell? ⟨g,5,none⟩=some (.int .i64 h.tu):=d2.1.cell 5 rfl;have ch:=mW _ h i w2 d2.2.1.reads i0 (by have:=d2.2.2.2.2.2;omega);unfold HV hdA at ch;clear d2;cases hh:h.holds i with
  |true=>
   have HR:Hid (r=(h.free,true)):=by rw[Hid,H1.out,if_pos hh]
   rw[hh]at ch;clear H1 hh;go_wp2_with fail
   refine ch.mono ?_;rintro e w3 ⟨rfl,b3⟩;replace HB:Hid (Below base w w3):=HB.out.trans (b3.mono HP.out.lt);replace HP:Hid (PS L a b xs ys w3 base g h):=HP.out.below b3;clear b3 k0 k1 k2 k3 ch;go_wp2_with fail
   refine(ct _ HP.out).mono ?_;rintro e w4 ⟨rfl,P4,B4⟩;have HQ:Hid (PS L a b xs ys w4 base g h.free/\Below base w w4):=⟨P4,HB.out.trans B4⟩
   clear P4 B4 HP HB ct;go_wp2;go_ret;exact⟨by rw[HR.out];rfl,by rw[HR.out];exact HQ.out.1,HQ.out.2⟩
  |false=>
   have HR:Hid (r=(h,true)):=by rw[Hid,H1.out,if_neg (by rw[hh];decide)]
   rw[hh]at ch;clear H1 hh ct;go_wp2_with fail
   refine ch.mono ?_;rintro e w3 ⟨rfl,b3⟩;have HQ:Hid (PS L a b xs ys w3 base g h/\Below base w w3):=⟨HP.out.below b3,HB.out.trans (b3.mono HP.out.lt)⟩
   clear b3 k0 k1 k2 k3 ch HP HB;go_wp2;go_ret;exact⟨by rw[HR.out];rfl,by rw[HR.out];exact HQ.out.1,HQ.out.2⟩
theorem sv {L:List Bo} {a b:Value} {xs ys:List Int} (base g:Nat) (h:Hd) (i:Int) (w:World) (d:PS L a b xs ys w base g h) (i0:0<=i) (i1:i<4) (t0:0<=h.tu) (t1:h.tu<=1000000000):
  Calls Tryz.prog 134 #[.pointer (some ⟨g,2,none⟩),.int .i64 i] w fun e w'=>e=.returned (.bool (h.clrd i).2)/\PS L a b xs ys w' base g (h.clrd i).1/\Below base w w':=by
 have HP:Hid (PS L a b xs ys w base g h):=d;obtain⟨q1,cap1,d1⟩:=d;have k0:w.cell? ⟨g,2,none⟩=some (.slice (some ⟨q1,0,none⟩) 4 cap1):=d1.1.cell 2 rfl;have k1:w.cell? ⟨g,3,none⟩=some (.int .i64 h.kd):=d1.1.cell 3 rfl;have k2:w.cell? ⟨g,4,none⟩=some (.int .i64 h.ho):=d1.1.cell 4 rfl;have k3:w.cell? ⟨g,5,none⟩=some (.int .i64 h.tu):=d1.1.cell 5 rfl;have cr:=gt _ h i w d1.2.1.reads i0 (by have:=d1.2.2.2.2.2;omega);obtain⟨r,HE⟩:∃r,Hid (r=h.clrd i):=⟨_,rfl⟩
 rw[<-HE.out];unfold HV hdA at cr;clear d1;cases hg:dV h.ks i with
 |false=>
  have HR:Hid (r=(h,false)):=by rw[Hid,HE.out,Hd.clrd,if_pos hg]
  rw[hg]at cr;clear HE hg;go_enter Tryz.func134,Tryz.ntmps134;go_wp2_with fail
  refine cr.mono ?_;rintro e w2 ⟨rfl,b2⟩;have HQ:Hid (PS L a b xs ys w2 base g h/\Below base w w2):=⟨HP.out.below b2,b2.mono HP.out.lt⟩
  clear b2 HP k0 k1 k2 k3 cr;go_wp2;go_ret;exact⟨by rw[HR.out];rfl,by rw[HR.out];exact HQ.out.1,HQ.out.2⟩
 |true=>
  have HR:Hid (r=((Hd.free ⟨[0,0,0,0],h.kd,h.ho,h.tu⟩).turn,true)):=by rw[Hid,HE.out,Hd.clrd,if_neg (by rw[hg];decide)];rfl
  rw[hg]at cr;obtain⟨j0,hi,hz0,hz1,hz2⟩:=info_parts Tryz.infoI;clear HE hg;go_enter Tryz.func134,Tryz.ntmps134;go_wp2_with fail
  refine cr.mono ?_;rintro e w2 ⟨rfl,b2⟩;have HB:Hid (Below base w w2):=b2.mono HP.out.lt;replace HP:Hid (PS L a b xs ys w2 base g h):=HP.out.below b2;clear b2 k0 k1 k2 k3 cr;obtain⟨q2,cap2,d2⟩:=HP.out;have k0:w2.cell? ⟨g,2,none⟩=some (.slice (some ⟨q2,0,none⟩) 4 cap2):=d2.1.cell 2 rfl;have k1:w2.cell? ⟨g,3,none⟩=some (.int .i64 h.kd):=d2.1.cell 3 rfl;have k2:w2.cell? ⟨g,4,none⟩=some (.int .i64 h.ho):=d2.1.cell 4 rfl;have k3:w2.cell? ⟨g,5,none⟩=some (.int .i64 h.tu):=d2.1.cell 5 rfl;have hg2:=d2.1.lt;have HD:Hid (PT L a b xs ys w2 base g q2 cap2 h):=d2;clear d2 HP;go_wp2_with (first
   |(refine wpList_make_full _ rfl _ _ 22 rfl w2.heap.size 2 j0 (.int .i64 0) 1 Tryz.underlying22 hi hz0 hz1 _ _ _ _ 4 rfl rfl rfl rfl (by rw[hz2];omega) (by unfold maxLen;omega) (Nat.le_refl _) ?_;intro w3 hown hgr;have S3:=HD.out.1.kept hgr (by simp);have m0:=S3.cell 2 (x:=.slice (some ⟨q2,0,none⟩) 4 cap2) rfl;have m1:=S3.frozen 2))
  have e4:(madeCells (Value.int .i64 0).cells (4*1)).toList=([0,0,0,0]:List Int).map (Value.int .i64):=uu 4;rw[e4]at hown;have o3:Own w3 w2.heap.size (.slice (some ⟨w2.heap.size,0,none⟩) 4 4) [0,0,0,0]:=hown;have G3:=ai w3 g 2 (.slice (some ⟨w2.heap.size,0,none⟩) 4 4);have lb:=HD.out.lt;have P3:PT L a b xs ys (w3.setCell ⟨g,2,none⟩ (.slice (some ⟨w2.heap.size,0,none⟩) 4 4)) base g w2.heap.size 4 ⟨[0,0,0,0],h.kd,h.ho,h.tu⟩:=
   ⟨S3.put 2 _ rfl,(o3.kept G3 (.inr (by intro e;have:w2.heap.size=g:=Option.some.inj e;omega))).mono lb,by omega,HD.out.2.2.2.1,lb,rfl,(HD.out.2.2.2.2.2.2.make hgr hg2).put G3⟩
  have HB3:Hid (Below base w (w3.setCell ⟨g,2,none⟩ (.slice (some ⟨w2.heap.size,0,none⟩) 4 4))):=(HB.out.trans ((Below.refl base w2).grown hgr lb (by simp))).setCell HD.out.2.2.2.1 _;clear S3 m0 m1 hown e4 o3 G3 HD HB k0 k1 k2 k3;refine(jk base g _ _ ⟨_,_,P3⟩).mono ?_;rintro e w4 ⟨rfl,P4,B4⟩;replace HB3:Hid (Below base w w4):=HB3.out.trans B4;clear P3 B4;go_wp2_with fail
  refine(jj base g _ _ P4 t0 t1).mono ?_;rintro e w5 ⟨rfl,P5,B5⟩;have HQ:Hid (PS L a b xs ys w5 base g _/\Below base w w5):=⟨P5,HB3.out.trans B5⟩
  clear P5 B5 HB3 P4;go_wp2;go_ret;exact⟨by rw[HR.out];rfl,by rw[HR.out];exact HQ.out.1,HQ.out.2⟩
theorem oZ {L:List Bo} {a b:Value} {xs ys:List Int} (base g:Nat) (h:Hd) (i key k:Int) (w:World) (d:PS L a b xs ys w base g h) (i0:0<=i) (i1:i<4) (t0:0<=h.tu) (t1:h.tu<=1000000000) (hm:h.kd≠0->bY h.kd=false->0<=h.ho/\h.ho<=3):
  Calls Tryz.prog 135 #[.pointer (some ⟨g,2,none⟩),.int .i64 i,.int .i64 key,.int .i64 k] w fun e w'=>e=.returned (.bool (h.pred i key k).2)/\PS L a b xs ys w' base g (h.pred i key k).1/\Below base w w':=by
 obtain⟨q,cap,d⟩:=d;have HP:Hid (PT L a b xs ys w base g q cap h):=d;have k0:w.cell? ⟨g,2,none⟩=some (.slice (some ⟨q,0,none⟩) 4 cap):=d.1.cell 2 rfl;have k1:w.cell? ⟨g,3,none⟩=some (.int .i64 h.kd):=d.1.cell 3 rfl;have k2:w.cell? ⟨g,4,none⟩=some (.int .i64 h.ho):=d.1.cell 4 rfl;have k3:w.cell? ⟨g,5,none⟩=some (.int .i64 h.tu):=d.1.cell 5 rfl;have cr:=gt _ h i w d.2.1.reads i0 (by have:=d.2.2.2.2.2;omega);unfold HV hdA at cr;obtain⟨r,HE⟩:∃r,Hid (r=h.pred i key k):=⟨_,rfl⟩
 rw[<-HE.out];have HM:Hid (h.kd≠0->bY h.kd=false->0<=h.ho/\h.ho<=3):=hm;clear d hm;go_enter Tryz.func135,Tryz.ntmps135;go_wp2;go_loopw [9,10] (fun f n wr=>∃j:Nat,(j:Int)<=4/\n=.int .i64 j/\f=.bool (has h.ks key j)/\wr=w) (fun _ n _=>4-(intOf n).toNat)
 case atStart=>exact⟨0,by omega,rfl,rfl,rfl⟩
 case round=>
  obtain⟨j,hj,rfl,rfl,hw⟩:=hrel;subst wr;by_cases hlt:(j:Int)<4
  ·have kj:=(HP.out.key j (by omega) 0).2.1
   have HH:Hid (has h.ks key (j+1)=(has h.ks key j||decide (h.ks.getD j 0=key))):=rfl;obtain⟨y,hy⟩:=eX (h.ks.getD j 0)
   obtain⟨b,hb⟩:=eX (has h.ks key j)
   rw[<-hy]at kj HH;rw[<-hb]at HH⊢;clear hy hb;cases b with
   |true=>
    go_wp2;go_roundw
    case rel=>exact⟨j+1,by omega,by go_num,by rw[HH.out];rfl,trivial⟩
    case measure=>simp[intOf];omega
   |false=>
    go_wp2;go_roundw
    case rel=>exact⟨j+1,by omega,by go_num,by rw[HH.out];by_cases e:y=key<;>simp[e],trivial⟩
    case measure=>simp[intOf];omega
  ·obtain rfl:j=4:=by omega
   have HE2:Hid (r=if(dV h.ks i&&has h.ks key 4)=false then(h,false)else if(h.alone key||(bY h.kd&& !more h.ks i.toNat key 4))=true then((Hd.turn ⟨cz h.ks i.toNat key 4,h.kd,h.ho,h.tu⟩).take i k,true)else(Hd.turn ⟨cz h.ks i.toNat key 4,h.kd,h.ho,h.tu⟩,true)):=HE.out;clear HE;obtain⟨bh,hbh⟩:=eX (has h.ks key 4)
   obtain⟨br,hbr⟩:=eX (dV h.ks i)
   rw[<-hbh,<-hbr]at HE2;rw[<-hbh];rw[<-hbr]at cr;clear hbh hbr;go_wp2_with fail
   refine cr.mono ?_;rintro e w2 ⟨rfl,b2⟩;have HB:Hid (Below base w w2):=b2.mono HP.out.lt;replace HP:Hid (PT L a b xs ys w2 base g q cap h):=HP.out.below b2;clear b2 k0 k1 k2 k3 cr;by_cases hrb:(br&&bh)=false
   ·have HR:Hid (r=(h,false)):=by rw[Hid,HE2.out,if_pos hrb]
    have HQ:Hid (PS L a b xs ys w2 base g h/\Below base w w2):=⟨⟨q,cap,HP.out⟩,HB.out⟩
    clear HE2 HP HB HM;cases br with
    |false=>
     clear hrb;go_wp2;go_ret;exact⟨by rw[HR.out];rfl,by rw[HR.out];exact HQ.out.1,HQ.out.2⟩
    |true=>
     obtain rfl:bh=false:=by simpa using hrb
     clear hrb;go_wp2;go_ret;exact⟨by rw[HR.out];rfl,by rw[HR.out];exact HQ.out.1,HQ.out.2⟩
   ·have hrb2:br=true/\bh=true:=by simpa using hrb
    obtain⟨rfl,rfl⟩:=hrb2;have H3:Hid (r=if(h.alone key||(bY h.kd&& !more h.ks i.toNat key 4))=true then((Hd.turn ⟨cz h.ks i.toNat key 4,h.kd,h.ho,h.tu⟩).take i k,true)else(Hd.turn ⟨cz h.ks i.toNat key 4,h.kd,h.ho,h.tu⟩,true)):=by rw[Hid,HE2.out,if_neg (by decide)]
    clear hrb HE2;have k0:w2.cell? ⟨g,2,none⟩=some (.slice (some ⟨q,0,none⟩) 4 cap):=HP.out.1.cell 2 rfl;have k1:w2.cell? ⟨g,3,none⟩=some (.int .i64 h.kd):=HP.out.1.cell 3 rfl;have k2:w2.cell? ⟨g,4,none⟩=some (.int .i64 h.ho):=HP.out.1.cell 4 rfl;have cf:=fun wx=>iA h.kd wx
    go_upto_region 8 with fail
    go_cut [11] (fun t wx=>t=.bool (h.alone key)/\Hid (∃n,wx=w2.drewN n))
    case first=>
     by_cases hk:h.kd=0
     ·have ea:Hid (h.alone key=false):=by simp[Hid,Hd.alone,hk]
      rw[hk]at k1;clear cf HM H3 HB
      go_quiet (fail)
      all_goals (go_wp2_with fail;go_meet;exact⟨by rw[ea.out],⟨_,rfl⟩⟩)
     ·have hkb:(h.kd !=0)=true:=by simpa using hk
      cases hf:bY h.kd with
      |true=>
       have ea:Hid (h.alone key=false):=by simp[Hid,Hd.alone,hf]
       simp only[hf]at cf;clear HM H3 HB hf
       go_quiet ((go_at_call 85;exact Calls.quiet_of_same (cf _)))
       all_goals (go_wp2_with fail;go_meet;exact⟨by rw[ea.out],⟨_,rfl⟩⟩)
      |false=>
       have hb:=HM.out hk hf;have kq:=(HP.out.key h.ho.toNat (by omega) 0).2.1;have ea:Hid (h.alone key=decide (h.ks.getD h.ho.toNat 0=key)):=by simp[Hid,Hd.alone,hk,hf]
       obtain⟨y,hy⟩:=eX (h.ks.getD h.ho.toNat 0)
       rw[<-hy]at kq ea;simp only[hf]at cf;obtain⟨l1,l2⟩:=hb;clear HM H3 HB hf hy
       go_quiet ((go_at_call 85;exact Calls.quiet_of_same (cf _)))
       all_goals (go_wp2_with fail;go_meet;exact⟨by rw[ea.out];by_cases e:y=key<;>simp[e],⟨_,rfl⟩⟩)
    case rest=>
     obtain⟨rfl,HN⟩:=hcut;obtain⟨n,hn⟩:=HN.out;have H5:Hid (PT L a b xs ys wc base g q cap ⟨cz h.ks i.toNat key 0,h.kd,h.ho,h.tu⟩/\Below base w wc):=by
      rw[hn];exact⟨HP.out.below (below_drewN (Below.refl _ _) n),below_drewN HB.out n⟩
     have HI:Hid (i.toNat<4/\(i.toNat:Int)=i):=⟨by omega,by omega⟩
     have HT:Hid ((0<=h.tu/\h.tu<=1000000000)/\h.ks.length=4):=⟨⟨t0,t1⟩,HP.out.2.2.2.2.2.1⟩
     obtain⟨ba,hba⟩:=eX (h.alone key)
     rw[<-hba]at H3⊢;clear hn HN HP HB HM hba cf k0 k1 k2 t0 t1;go_wp2_with fail
     go_loopw [12,13] (fun m n wz=>∃j:Nat,(j:Int)<=4/\n=.int .i64 j/\m=.bool (jV h.ks i.toNat key j)/\Hid (PT L a b xs ys wz base g q cap ⟨cz h.ks i.toNat key j,h.kd,h.ho,h.tu⟩/\Below base w wz)) (fun _ n _=>4-(intOf n).toNat)
     case atStart=>exact⟨0,by omega,rfl,rfl,H5⟩
     case round=>
      obtain⟨j,hj,rfl,rfl,HR⟩:=hrel;by_cases hlt:(j:Int)<4
      ·have HM1:Hid (jV h.ks i.toNat key (j+1)=(jV h.ks i.toNat key j||(decide (j≠i.toNat)&&(decide (h.ks.getD j 0≠key)&&decide (h.ks.getD j 0≠0))))):=rfl
       have HS1:Hid (cz h.ks i.toNat key (j+1)=if j≠i.toNat/\h.ks.getD j 0=key then(cz h.ks i.toNat key j).set j 0 else cz h.ks i.toNat key j):=rfl;have HA:Hid ((cz h.ks i.toNat key j).getD j 0=h.ks.getD j 0):=pV _ _ _ _ _ (Nat.le_refl _);obtain⟨s1,hs1⟩:=eX (cz h.ks i.toNat key (j+1))
       obtain⟨m1,hm1⟩:=eX (jV h.ks i.toNat key (j+1))
       have HQ:Hid (s1=cz h.ks i.toNat key (j+1)/\m1=jV h.ks i.toNat key (j+1)):=⟨hs1,hm1⟩
       rw[<-hs1]at HS1;rw[<-hm1]at HM1;clear hs1 hm1;obtain⟨m0,hm0⟩:=eX (jV h.ks i.toNat key j)
       rw[<-hm0]at HM1⊢;clear hm0;by_cases hji:(j:Int)=i
       ·have e1:j=i.toNat:=by omega
        have HS2:Hid (s1=cz h.ks i.toNat key j):=by rw[Hid,HS1.out,if_neg (by simp[e1])]
        have HM2:Hid (m1=m0):=by rw[Hid,HM1.out];simp[e1]
        have hjb:((j:Int)==i)=true:=by simpa using hji
        clear HS1 HM1 HA hji e1;go_wp2;go_roundw
        case rel=>exact⟨j+1,by omega,by go_num,by rw[<-HQ.out.2,HM2.out],by rw[<-HQ.out.1,HS2.out];exact HR⟩
        case measure=>simp[intOf];omega
       ·have e1:j≠i.toNat:=by omega
        have hjb:((j:Int)==i)=false:=by simpa using hji
        obtain⟨ff,kj,PK⟩:=HR.out.1.key j (by omega) 0;rw[HA.out]at kj;have k0:wr.cell? ⟨g,2,none⟩=some (.slice (some ⟨q,0,none⟩) 4 cap):=HR.out.1.1.cell 2 rfl;have hgq:g≠q:=HR.out.1.2.2.1;obtain⟨y,hy⟩:=eX (h.ks.getD j 0)
        rw[<-hy]at kj HS1 HM1;clear hy HA;by_cases hyk:y=key
        ·have HS2:Hid (s1=(cz h.ks i.toNat key j).set j 0):=by rw[Hid,HS1.out,if_pos ⟨e1,hyk⟩]
         have HM2:Hid (m1=m0):=by rw[Hid,HM1.out];simp[hyk]
         have HP2:Hid (PT L a b xs ys (wr.setCell ⟨q,j,none⟩ (.int .i64 0)) base g q cap ⟨s1,h.kd,h.ho,h.tu⟩/\Below base w (wr.setCell ⟨q,j,none⟩ (.int .i64 0))):=by
          rw[HS2.out];exact⟨PK.1,HR.out.2.trans PK.2⟩
         have l0:(wr.setCell ⟨q,j,none⟩ (.int .i64 0)).cell? ⟨g,2,none⟩=some (.slice (some ⟨q,0,none⟩) 4 cap):=PK.1.1.cell 2 rfl;have lj:(wr.setCell ⟨q,j,none⟩ (.int .i64 0)).cell? ⟨q,j,none⟩=some (.int .i64 0):=World.cell?_setCell_same _ _ _ kj;have hykb:(y==key)=true:=by simpa using hyk
         clear HS1 HM1 HS2 HR PK hyk;cases m0 with
         |true=>
          go_wp2;go_roundw
          case rel=>exact⟨j+1,by omega,by go_num,by rw[<-HQ.out.2,HM2.out],by rw[<-HQ.out.1];exact HP2⟩
          case measure=>simp[intOf];omega
         |false=>
          go_wp2;go_roundw
          case rel=>exact⟨j+1,by omega,by go_num,by rw[<-HQ.out.2,HM2.out],by rw[<-HQ.out.1];exact HP2⟩
          case measure=>simp[intOf];omega
        ·have HS2:Hid (s1=cz h.ks i.toNat key j):=by rw[Hid,HS1.out,if_neg (fun e=>hyk e.2)]
         have HM2:Hid (m1=(m0||decide (y≠0))):=by rw[Hid,HM1.out];simp[hyk,e1]
         have HP2:Hid (PT L a b xs ys wr base g q cap ⟨s1,h.kd,h.ho,h.tu⟩/\Below base w wr):=by
          rw[HS2.out];exact HR.out
         have hykb:(y==key)=false:=by simpa using hyk
         clear HS1 HM1 HS2 HR PK hyk ff;cases m0 with
         |true=>
          go_wp2;go_roundw
          case rel=>exact⟨j+1,by omega,by go_num,by rw[<-HQ.out.2,HM2.out];rfl,by rw[<-HQ.out.1];exact HP2⟩
          case measure=>simp[intOf];omega
         |false=>
          by_cases hy0:y=0
          ·have hyb:(y !=0)=false:=by simp[hy0]
           go_wp2;go_roundw
           case rel=>exact⟨j+1,by omega,by go_num,by rw[<-HQ.out.2,HM2.out];simp[hy0],by rw[<-HQ.out.1];exact HP2⟩
           case measure=>simp[intOf];omega
          ·have hyb:(y !=0)=true:=by simpa using hy0
           go_wp2;go_roundw
           case rel=>exact⟨j+1,by omega,by go_num,by rw[<-HQ.out.2,HM2.out];simp[hy0],by rw[<-HQ.out.1];exact HP2⟩
           case measure=>simp[intOf];omega
      ·obtain rfl:j=4:=by omega
       obtain⟨h4,hh4⟩:∃h4:Hd,h4=⟨cz h.ks i.toNat key 4,h.kd,h.ho,h.tu⟩:=⟨_,rfl⟩
       obtain⟨m4,hm4⟩:=eX (jV h.ks i.toNat key 4)
       rw[<-hh4,<-hm4]at H3;rw[<-hh4]at HR;rw[<-hm4];have HK:Hid (h4.kd=h.kd):=by rw[hh4];rfl
       have t2:0<=h4.tu/\h4.tu<=1000000000:=by rw[hh4];exact HT.out.1
       have ct:=jj (L:=L) (a:=a) (b:=b) (xs:=xs) (ys:=ys) base g h4 wr ⟨q,cap,HR.out.1⟩ t2.1 t2.2;have HB2:Hid (Below base w wr):=HR.out.2;clear HR hh4 hm4 t2 H5;go_wp2_with fail
       refine ct.mono ?_;rintro e w6 ⟨rfl,P6,B6⟩;have HB6:Hid (Below base w w6):=HB2.out.trans B6;have HP6:Hid (PS L a b xs ys w6 base g h4.turn):=P6;have k1:w6.cell? ⟨g,3,none⟩=some (.int .i64 h4.kd):=by obtain⟨q6,c6,d6⟩:=P6;exact d6.1.cell 3 rfl
       have cf:=fun wx=>iA h4.kd wx
       have HA4:Hid (bY h.kd=bY h4.kd):=by rw[Hid,HK.out]
       rw[HA4.out]at H3;obtain⟨a4,ha4⟩:=eX (bY h4.kd)
       rw[<-ha4]at H3;simp only[<-ha4]at cf;clear P6 B6 ct HB2 ha4 HA4;have take:∀wx,PS L a b xs ys wx base g h4.turn->_:=fun wx d=>mV base g h4.turn i k wx d
       cases ba with
       |true=>
        have HR:Hid (r=((h4.turn).take i k,true)):=by rw[Hid,H3.out];rfl
        clear H3 cf k1;go_wp2_with fail
        refine(take _ HP6.out).mono ?_;rintro e w7 ⟨rfl,P7,B7⟩;have HQ:Hid (PS L a b xs ys w7 base g ((h4.turn).take i k)/\Below base w w7):=⟨P7,HB6.out.trans B7⟩
        clear P7 B7 take;go_wp2;go_ret;exact⟨by rw[HR.out];rfl,by rw[HR.out];exact HQ.out.1,HQ.out.2⟩
       |false=>
        cases a4 with
        |false=>
         have HR:Hid (r=(h4.turn,true)):=by rw[Hid,H3.out];rfl
         have HQ:Hid (PS L a b xs ys w6 base g h4.turn/\Below base w w6):=⟨HP6.out,HB6.out⟩
         clear H3 take HB6 HP6;go_wp2_with (first|(go_at_call 85;refine(cf _).mono ?_;rintro e w' ⟨rfl,hw'⟩;subst w'))
         go_ret;exact⟨by rw[HR.out];rfl,by rw[HR.out];exact HQ.out.1,HQ.out.2⟩
        |true=>
         cases m4 with
         |true=>
          have HR:Hid (r=(h4.turn,true)):=by rw[Hid,H3.out];rfl
          have HQ:Hid (PS L a b xs ys w6 base g h4.turn/\Below base w w6):=⟨HP6.out,HB6.out⟩
          clear H3 take HB6 HP6;go_wp2_with (first|(go_at_call 85;refine(cf _).mono ?_;rintro e w' ⟨rfl,hw'⟩;subst w'))
          go_ret;exact⟨by rw[HR.out];rfl,by rw[HR.out];exact HQ.out.1,HQ.out.2⟩
         |false=>
          have HR:Hid (r=((h4.turn).take i k,true)):=by rw[Hid,H3.out];rfl
          clear H3;go_wp2_with fail
          refine(cf _).mono ?_;rintro e w' ⟨rfl,hw'⟩;subst w';clear cf k1;go_wp2_with fail
          refine(take _ HP6.out).mono ?_;rintro e w7 ⟨rfl,P7,B7⟩;have HQ:Hid (PS L a b xs ys w7 base g ((h4.turn).take i k)/\Below base w w7):=⟨P7,HB6.out.trans B7⟩
          clear P7 B7 take;go_wp2;go_ret;exact⟨by rw[HR.out];rfl,by rw[HR.out];exact HQ.out.1,HQ.out.2⟩
end Go.Proofs.YthldeiojlllkdaaGreatDoor
