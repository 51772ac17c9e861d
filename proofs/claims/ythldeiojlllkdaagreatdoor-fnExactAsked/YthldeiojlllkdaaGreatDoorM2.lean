/- Blocks by commands, as plain lists: what one command does to a disk, and its answer. -/
import Derived.Test.YthldeiojlllkdaaGreatDoorM1
import Derived.Deep.RegionHeld3
import Derived.Laws.Tables
import Derived.Laws.ResultCell
set_option maxRecDepth 20000
set_option maxHeartbeats 1000000
namespace Go.Proofs.YthldeiojlllkdaaGreatDoor
open Go.ChangeShapes Go.WideShapes Go.ChangeAt Go.RowKit
section
open Go.RowKit
structure An where
 st:Int
 tx:Bs
def anA (x:An):Array Value:=#[.int .i64 x.st,S x.tx]
def AV (x:An):Value:=.agg (anA x)
def cX (ys:List Int) (c:Cm):Bool:=decide ((ys.length:Int)<=c.p)||(decide (c.o=2)&& !bJ c.a)||(decide (c.o=3)&& !bJ c.b)
def atI (ys:List Int) (c:Cm):Int:=ys.getD c.p.toNat 0
def bC (xs ys:List Int) (c:Cm):List Int×List Int×An:=
 if c.o=5 then(ys,ys,⟨0,[]⟩)
 else if cX ys c then(xs,ys,⟨1,[]⟩)
 else if c.o=1 then(xs,ys,⟨0,ce (atI ys c)⟩)
 else if c.o=2 then(xs,ys.set c.p.toNat c.a,⟨0,[]⟩)
 else if c.o=3 then(if atI ys c=c.a then(xs,ys.set c.p.toNat c.b,⟨0,[]⟩)else(xs,ys,⟨2,ce (atI ys c)⟩))
 else(xs,ys.set c.p.toNat 0,⟨0,[]⟩)
def dD (xs ys:List Int) (c:Cm):List Int×List Int×An:=
 if au xs ys then(if c.ok&&decide (c.o<=5)then bC xs ys c else(xs,ys,⟨7,[]⟩))else([],[],⟨7,[]⟩)
theorem Cm.ok_vol {c:Cm} (h:c.ok=true) (h5:c.o<=5):(c.o=1∨c.o=2∨c.o=3∨c.o=4∨c.o=5)/\0<=c.p:=by
 obtain⟨o,p,a,b,k⟩:=c;have hb:=Cm.ok_byt h;unfold Cm.ok Cm.told at h;dsimp only at h h5;simp only[Bool.and_eq_true,aE]at h;unfold Cm.Byt at hb;dsimp only at hb;dsimp only;omega
end
def fY (w:World) (v:Value) (xs:List Bs):Prop:=
 ∃ao cap,v=.slice ao xs.length cap/\xs.length<=cap/\(cap<=maxLen/\(ao=none->cap=0))/\
  (xs=[]∨∃b off,ao=some ⟨b,off,none⟩/\∀j,j<xs.length->w.cell? ⟨b,off+j,none⟩=some (S (xs.getD j [])))
def dl (w:World) (base:Nat) (v:Value) (xs:List Bs):Prop:=
 w.ownsRow base 9 1 v xs.length (xs.map S)
theorem dl.nil (w:World) (base:Nat):dl w base (.slice none 0 0) []:=World.ownsRow_nil w base _ _
theorem dl.reads {w:World} {base:Nat} {v:Value} {xs:List Bs} (h:dl w base v xs):fY w v xs:=by
 rcases h.2 with⟨rfl,h0⟩|⟨g,cap,cur,rfl,hb,hg,hnc,hcm,hcs,ht⟩
 ·have e:xs=[]:=List.eq_nil_of_length_eq_zero h0
  subst e;exact⟨none,0,rfl,Nat.le_refl _,⟨Nat.zero_le _,fun _=>rfl⟩,.inl rfl⟩
 ·refine⟨_,cap,rfl,hnc,⟨hcm,fun e=>by cases e⟩,.inr ⟨g,0,rfl,fun j hj=>?_⟩⟩
  have:=World.ownsRow.cellAt (w:=w) h j Ff;rw[Nat.zero_add,this];simp[List.getD,hj]
theorem dl.mono {w:World} {base base':Nat} {v:Value} {xs:List Bs} (h:dl w base v xs) (hb:base'<=base):dl w base' v xs:=by
 refine⟨h.1,?_⟩;rcases h.2 with h'|⟨g,cap,cur,e,hg,r⟩
 ·exact .inl h'
 ·exact .inr ⟨g,cap,cur,e,Nat.le_trans hb hg,r⟩
theorem dl.lt {w:World} {base:Nat} {v:Value} {xs:List Bs} (h:dl w base v xs):∀k,v.ownBlock=some k->base<=k/\k<w.heap.size:=World.ownsRow.lt h
theorem dl.frame {w w':World} {base:Nat} {v:Value} {xs:List Bs} (h:dl w base v xs) (e:∀b∈v.ownBlock.toList,w'.heap[b]?=w.heap[b]?):dl w' base v xs:=by
 refine⟨h.1,?_⟩;rcases h.2 with h'|⟨g,cap,cur,rfl,hb,hg,r⟩
 ·exact .inl h'
 ·exact .inr ⟨g,cap,cur,rfl,hb,(e g (by simp[Value.ownBlock])).trans hg,r⟩
theorem dl.below {w w':World} {base:Nat} {v:Value} {xs:List Bs} (h:dl w base v xs) (hb:iO w w'):dl w' base v xs:=
 h.frame (fun b hm=>hb.block b (h.lt b (by simpa using hm)).2)
theorem dl.kept {w w':World} {base:Nat} {v:Value} {row:Option Nat} {xs:List Bs} (h:dl w base v xs) (hg:w.grownBy w' row) (hne:v.ownBlock=none∨v.ownBlock≠row):dl w' base v xs:=
 World.ownsRow.kept h hg hne
theorem fY.below {w w':World} {B:Nat} {v:Value} {xs:List Bs} (h:fY w v xs) (hb:Below B w w') (hB:w.heap.size<=B):fY w' v xs:=by
 obtain⟨ao,cap,rfl,h1,h2,h3⟩:=h;refine⟨ao,cap,rfl,h1,h2,?_⟩;rcases h3 with h3|⟨b,off,rfl,h4⟩
 ·exact .inl h3
 ·refine .inr ⟨b,off,rfl,fun j hj=>?_⟩
  have h5:=h4 j hj;have h6:=World.block_lt_of_cell? w _ h5;rw[hb.cell (p:=⟨b,off+j,none⟩) (Nat.lt_of_lt_of_le h6 hB)];exact h5
theorem pc (xs:List Bs) (j:Nat) (h:j<xs.length):xs.take (j+1)=xs.take j++[xs.getD j []]:=by
 rw[List.take_succ_eq_append_getElem h];simp[List.getD,h]
theorem dl.put {w:World} {base g n cap:Nat} {xs:List Bs} (h:dl w base (.slice (some ⟨g,0,none⟩) n cap) xs) (hn:n=xs.length) (j:Nat) (hj:j<n) (x:Bs):
  w.frozen? ⟨g,j,none⟩=false/\(∃y,w.cell? ⟨g,j,none⟩=some y)/\dl (w.setCell ⟨g,j,none⟩ (S x)) base (.slice (some ⟨g,0,none⟩) n cap) (xs.set j x):=by
 subst hn;have hown:w.ownsRow base 9 1 (.slice (some ⟨g,0,none⟩) xs.length cap) xs.length (xs.map S):=h;refine⟨World.ownsRow.frozenAt hown j,?_,?_⟩
 ·rw[World.ownsRow.cellAt hown j Ff]
  exact⟨_,List.getElem?_eq_getElem (by simpa using hj)⟩
 ·have:=(World.ownsRow.stored hown j (S x)).1
  rw[<-List.map_set]at this;unfold dl
  rwa[List.length_set]
theorem gt (w:World) (g j:Nat) (x:Value):w.grownBy (w.setCell ⟨g,j,none⟩ x) (some g):=
 ⟨rfl,rfl,rfl,by simp,fun k _ hk=>heap_setCell_other w ⟨g,j,none⟩ k x (fun e=>hk (by simp[e]))⟩
def eR (a:Bs):List Bs->List Bs
 |[]=>[a]
 |p::ps=>(a++p)::ps
def ay (c:UInt8):Bs->List Bs
 |[]=>[[]]
 |b::t=>if b=c then[]::ay c t else eR [b] (ay c t)
theorem vk (a b:Bs) (l:List Bs) (h:l≠[]):eR a (eR b l)=eR (a++b) l:=by
 cases l with
 |nil=>exact absurd rfl h
 |cons p ps=>simp[eR]
theorem qY (l:List Bs) (h:l≠[]):eR [] l=l:=by
 cases l with
 |nil=>exact absurd rfl h
 |cons p ps=>rfl
theorem BI (a:Bs) (l:List Bs):eR a l≠[]:=by cases l<;>simp[eR]
theorem dV (c:UInt8) (l:Bs):ay c l≠[]:=by
 cases l with
 |nil=>simp[ay]
 |cons b t=>rw[ay];split;simp;exact BI _ _
def cV (l:Bs) (a b:Nat):Bs:=(l.take b).drop a
theorem BJ (l:Bs) (a b:Nat) (h:b<=l.length):(cV l a b).length=b-a:=by simp[cV];omega
theorem z6 (l:Bs) (a b:Nat) (h:a<=b) (hb:b<l.length):cV l a (b+1)=cV l a b++[l[b]]:=by
 unfold cV;rw[fO l b hb,List.drop_append_of_le_length (by simp;omega)]
theorem qZ (l:Bs) (a:Nat):cV l a a=[]:=by
 unfold cV;rw[List.drop_eq_nil_of_le (by simp;omega)]
theorem cB (l:Bs) (a b:Nat):(⟨l.toArray⟩:ByteArray).extract a b=⟨(cV l a b).toArray⟩:=by
 apply ByteArray.ext;rw[ByteArray.data_extract];simp[cV,List.extract_toArray,List.drop_take]
def dH (c:UInt8) (l:Bs) (out:List Bs) (a i:Nat):Prop:=a<=i/\ay c l=out++eR (cV l a i) (ay c (l.drop i))
theorem dH.start (c:UInt8) (l:Bs):dH c l [] 0 0:=⟨Nat.le_refl _,by rw[qZ,List.drop_zero,qY _ (dV _ _)];rfl⟩
theorem dH.hit {c:UInt8} {l:Bs} {out:List Bs} {a i:Nat} (h:dH c l out a i) (hi:i<l.length) (hc:l[i]=c):dH c l (out++[cV l a i]) (i+1) (i+1):=by
 refine⟨Nat.le_refl _,?_⟩;rw[h.2,List.drop_eq_getElem_cons hi,ay,if_pos hc,qZ,qY _ (dV _ _)];simp[eR]
theorem dH.miss {c:UInt8} {l:Bs} {out:List Bs} {a i:Nat} (h:dH c l out a i) (hi:i<l.length) (hc:l[i]≠c):dH c l out a (i+1):=by
 refine⟨by have:=h.1;omega,?_⟩;rw[h.2,List.drop_eq_getElem_cons hi,ay,if_neg hc,vk _ _ _ (dV _ _),z6 l a i h.1 hi]
theorem dH.done {c:UInt8} {l:Bs} {out:List Bs} {a:Nat} (h:dH c l out a l.length):ay c l=out++[cV l a l.length]:=by
 rw[h.2];simp[ay,eR]
theorem GB:(Tryz.prog.info? 9).map (fun i=>(i.zero,i.size,i.bytes))=some (some (.string ⟨#[]⟩),1,16):=by kernel_rfl
theorem BL (w:World) (x:Bs):∀j u,([S x])[j]?=some u->(w.alloc (.cells #[S x] 9)).cell? ((⟨w.heap.size,0,none⟩:Addr).add j)=some u:=by
 intro j u hj
 match j,hj with
 |0,hj=>simp at hj;subst hj;simp[Addr.add]
theorem BM (xs:List Bs) (a:Bs):xs.map S++[S a]=(xs++[a]).map S:=by simp
theorem sE {w wr w':World} {o v':Value} {out:List Bs} {x:Bs} {ob:Obj} (hO:dl wr w.heap.size o out) (hB:iO w wr)
  (hown:w'.ownsRow w.heap.size 9 1 v' (out.length+1) (out.map S++[S x])) (hg:(wr.alloc ob).grownBy w' o.ownBlock):dl w' w.heap.size v' (out++[x])/\iO w w':=by
 refine⟨?_,(hB.alloc hB.size ob).grown hg (by simp;have:=hB.size;omega) (fun k e=>(hO.lt k e).1)⟩;unfold dl;rw[<-BM];simpa using hown
theorem pm (l:Bs) (c:UInt8) (w:World) (hl:l.length<=1048576):
  Calls Tryz.prog 128 #[S l,.int .u8 (am c)] w fun e w'=>∃u,e=.returned u/\dl w' w.heap.size u (ay c l)/\iO w w':=by
 obtain⟨i0,hi,hz0,hz1,hz2⟩:=info_parts GB;unfold S;go_enter Tryz.func128,Tryz.ntmps128;go_wp2;go_loopw [5,6,7] (fun o f i wr=>∃(j a:Nat) (out:List Bs),i=.int .i64 j/\f=.int .i64 a/\(a:Int)<=j/\(j:Int)<=l.length+1/\out.length<=j/\Hid (dl wr w.heap.size o out/\iO w wr/\((j<=l.length->dH c l out a j)/\(j=l.length+1->out=ay c l)))) (fun _ _ i _=>l.length+1-(intOf i).toNat)
 case atStart=>exact⟨0,0,[],rfl,rfl,by omega,by omega,by simp,World.ownsRow_lit w #[] 0 (Nat.le_refl _) (Nat.zero_le _) rfl,Fc,fun _=>dH.start c l,fun h=>by omega⟩
 case round=>
  obtain⟨j,a,out,rfl,rfl,haj,hj,hol,HR⟩:=hrel;have hsz:(⟨l.toArray⟩:ByteArray).size=l.length:=rfl;by_cases hend:(j:Int)<=(l.length:Int)
  ·have hinv:=HR.out.2.2.1 Ff
   have hown:=HR.out.1;have hbs:=HR.out.2.1.size;unfold dl at hown;have hex:=cB l a j;by_cases hl2:(j:Int)=(l.length:Int)
   ·obtain rfl:j=l.length:=by omega
    have HI:Hid (ay c l=out++[cV l a l.length]):=hinv.done;clear hinv hl2;go_wp2_with (at_builtin;refine wpList_append_own _ rfl _ _ 115 rfl w.heap.size 9 i0 (.string ⟨#[]⟩) 1 16 Tryz.underlying115 hi hz0 hz1 hz2 rfl Fh _ _ _ rfl (hown.alloc _) _ 1 1 [S (cV l a l.length)] rfl rfl (BL wr (cV l a l.length)) (by simp[Value.oneCell',S]) (by unfold maxLen;omega) Ff (by simp;omega) ?_)
    intro v' w2 hown' hgrow _;have HO:Hid (dl w2 w.heap.size v' (out++[cV l a l.length])/\iO w w2):=sE HR.out.1 HR.out.2.1 hown' hgrow;clear hown hown' hgrow HR;go_wp2;go_roundw
    case rel=>exact⟨l.length+1,l.length+1,out++[cV l a l.length],by go_num,by go_num,by omega,by omega,by simp;omega,HO.out.1,HO.out.2,fun h=>by omega,fun _=>HI.out.symm⟩
    case measure=>simp[intOf]
   ·have h1:j<l.length:=by omega
    have hjl:((j:Int)==(l.length:Int))=false:=by simpa using hl2
    have ht:=eN l j h1 c (am c) rfl;by_cases hc:l[j]=c
    ·rw[show decide (l[j]=c)=true by simp[hc]]at ht
     have HI:Hid (dH c l (out++[cV l a j]) (j+1) (j+1)):=hinv.hit h1 hc;clear hinv hc;go_wp2_with (at_builtin;refine wpList_append_own _ rfl _ _ 115 rfl w.heap.size 9 i0 (.string ⟨#[]⟩) 1 16 Tryz.underlying115 hi hz0 hz1 hz2 rfl Fh _ _ _ rfl (hown.alloc _) _ 1 1 [S (cV l a j)] rfl rfl (BL wr (cV l a j)) (by simp[Value.oneCell',S]) (by unfold maxLen;omega) Ff (by simp;omega) ?_)
     intro v' w2 hown' hgrow _;have HO:Hid (dl w2 w.heap.size v' (out++[cV l a j])/\iO w w2):=sE HR.out.1 HR.out.2.1 hown' hgrow;clear hown hown' hgrow HR;go_wp2;go_roundw
     case rel=>exact⟨j+1,j+1,out++[cV l a j],by go_num,by go_num,by omega,by omega,by simp;omega,HO.out.1,HO.out.2,fun _=>HI.out,fun h=>by omega⟩
     case measure=>simp[intOf];omega
    ·rw[show decide (l[j]=c)=false by simp[hc]]at ht
     have HI:Hid (dH c l out a (j+1)):=hinv.miss h1 hc;clear hinv hc hown;go_wp2;go_roundw
     case rel=>exact⟨j+1,a,out,by go_num,rfl,by omega,by omega,by omega,HR.out.1,HR.out.2.1,fun _=>HI.out,fun h=>by omega⟩
     case measure=>simp[intOf];omega
  ·go_wp2
   go_ret;have e:j=l.length+1:=by omega
   have h2:=HR.out.2.2.2 e;rw[<-h2];exact⟨_,rfl,HR.out.1,HR.out.2.1⟩
section
open Go.RowKit
theorem D9 (a b:Bs):(({data:=a.toArray}:ByteArray)++{data:=b.toArray})={data:=(a++b).toArray}:=ByteArray.mk_append_mk a b
theorem Ea (a:Bs):({data:=a.toArray}:ByteArray).size=a.length:=rfl
def dp (b:UInt8):Bool:=decide (48<=am b)&&decide (am b<=57)
def val (l:Bs):Int:=l.foldl (fun n b=>n*10+(am b-48)) 0
def neg (l:Bs):Bool:=l.head? ==some 45
def dW (l:Bs):Nat:=if neg l then 1 else 0
def ew (l:Bs):Bs:=l.drop (dW l)
def okN (l:Bs):Bool:=decide (1<=(ew l).length)&&decide ((ew l).length<=9)&&(ew l).all dp&& !(decide ((ew l).head? =some 48)&&decide (1<l.length))
def num (l:Bs):Int:=if okN l then(if neg l then-(val (ew l))else val (ew l))else 0
theorem iy (l:Bs) (b:UInt8):val (l++[b])=val l*10+(am b-48):=by simp[val]
theorem jy (b:UInt8):dp b=true↔48<=am b/\am b<=57:=by simp[dp]
theorem wU (l:Bs) (h:l.all dp=true):0<=val l/\val l<10^l.length:=by
 induction hn:l.length generalizing l with
 |zero=>
  have:l=[]:=List.eq_nil_of_length_eq_zero hn;subst this;simp[val]
 |succ n ih=>
  rcases List.eq_nil_or_concat l with rfl|⟨m,b,rfl⟩
  ·simp at hn
  ·rw[List.concat_eq_append]at h hn⊢
   rw[List.all_append,Bool.and_eq_true]at h;have hb:dp b=true:=by simpa using h.2
   rw[jy]at hb;have h1:=ih m h.1 (by simpa using hn);rw[iy,Int.pow_succ];omega
theorem qA (l:Bs) (h:l.all dp=true) (hl:l.length<=9):0<=val l/\val l<1000000000:=by
 have h1:=wU l h;have h2:(10:Int)^l.length<=10^9:=by
  have:(10:Nat)^l.length<=10^9:=Nat.pow_le_pow_right Ff hl
  exact_mod_cast this
 have e:(10:Int)^9=1000000000:=by decide
 omega
theorem ia (l:Bs):okN l=true↔1<=(ew l).length/\(ew l).length<=9/\(ew l).all dp=true/\¬((ew l).head? =some 48/\1<l.length):=by
 simp only[okN,Bool.and_eq_true,decide_eq_true_eq,Bool.not_eq_true',Bool.and_eq_false_iff,decide_eq_false_iff_not];constructor
 ·rintro⟨⟨⟨h1,h2⟩,h3⟩,h4⟩
  exact⟨h1,h2,h3,fun⟨a,b⟩=>by rcases h4 with h|h;exact h a;exact h b⟩
 ·rintro⟨h1,h2,h3,h4⟩
  refine⟨⟨⟨h1,h2⟩,h3⟩,?_⟩;by_cases h:(ew l).head? =some 48
  ·exact .inr (fun h'=>h4 ⟨h,h'⟩)
  ·exact .inl h
theorem Eb (l:Bs): -1000000000<num l/\num l<1000000000:=by
 unfold num;split
 ·rename_i h
  rw[ia]at h;have:=qA _ h.2.2.1 h.2.1;split<;>omega
 ·omega
theorem jf (l:Bs):(ew l).length=l.length-dW l:=by simp[ew]
theorem gN (n:Nat):am (digit n)=48+(n%10:Nat):=by
 have:(digit n).toNat=48+n%10:=by unfold digit;rw[UInt8.toNat_ofNat'];omega
 unfold am;rw[this];omega
theorem mQ (n:Nat):dp (digit n)=true:=by
 rw[jy,gN];omega
theorem oO (n:Nat):(dec n).all dp=true/\val (dec n)=n:=by
 induction n using Nat.strongRecOn with
 |ind n ih=>
  rw[dec];split
  ·refine⟨by simp[mQ],?_⟩
   have:=iy [] (digit n);rw[List.nil_append]at this;rw[this,gN];simp[val];omega
  ·obtain⟨h1,h2⟩:=ih (n/10) Ff
   refine⟨by rw[List.all_append,h1];simp[mQ],?_⟩;rw[iy,h2,gN];omega
theorem uB {b:UInt8} (n:Nat) (hn:((n%10:Nat):Int)=am b-48):digit n=b:=by
 apply UInt8.toNat_inj.1;have:=gN n;unfold am at this hn;omega
theorem yh (l:Bs) (h:l.all dp=true) (h0:l≠[]) (hz:l.head? =some 48->l.length=1):dec (val l).toNat=l:=by
 induction hn:l.length generalizing l with
 |zero=>exact absurd (List.eq_nil_of_length_eq_zero hn) h0
 |succ n ih=>
  rcases List.eq_nil_or_concat l with rfl|⟨m,b,rfl⟩
  ·simp at hn
  ·rw[List.concat_eq_append]at h hn h0 hz⊢
   rw[List.all_append,Bool.and_eq_true]at h;have hb:dp b=true:=by simpa using h.2
   have hb':=(jy b).1 hb;by_cases hm:m=[]
   ·subst hm
    have hv:val ([]++[b])=am b-48:=by rw[iy];simp[val]
    rw[hv,dec,if_pos Ff,uB (b:=b) _ Ff];rfl
   ·have hz':m.head? =some 48->m.length=1:=by
     intro e;cases m with
     |nil=>exact absurd rfl hm
     |cons c m=>
      have:=hz (by simpa using e);simp at this
    have hpos:m.head? ≠some 48:=by
     intro e;cases m with
     |nil=>exact absurd rfl hm
     |cons c m=>
      have:=hz (by simpa using e);simp at this
    have h1:=ih m h.1 hm hz' (by simpa using hn);have h2:=wU m h.1;have h3:val m≠0:=by
     intro e;rw[e]at h1;have:dec (0:Int).toNat=[48]:=kJ;rw[this]at h1;rw[<-h1]at hpos;exact hpos rfl
    rw[iy,dec,if_neg Ff];have e1:(val m*10+(am b-48)).toNat/10=(val m).toNat:=by omega
    rw[e1,h1,uB (b:=b) _ Ff]
theorem kw (n:Nat):dec n≠[]:=by
 rw[dec];split<;>simp
theorem si (n:Nat) (h:0<n):(dec n).head? ≠some 48:=by
 induction n using Nat.strongRecOn with
 |ind n ih=>
  rw[dec];split
  ·intro e
   have e2:digit n=48:=by simpa using e
   have:=gN n;rw[e2]at this;have h48:am 48=48:=rfl;omega
  ·have:=ih (n/10) Ff Ff
   cases hd:dec (n/10)with
   |nil=>exact absurd hd (kw _)
   |cons c l=>rw[hd]at this;simpa using this
theorem Da (n:Nat):neg (dec n)=false:=by
 cases hd:dec n with
 |nil=>exact absurd hd (kw _)
 |cons c l=>
  have h:=(oO n).1;rw[hd,List.all_cons,Bool.and_eq_true]at h;have h1:=(jy c).1 h.1;unfold neg;by_cases e:c=45
  ·subst e
   have:am 45=45:=rfl;omega
  ·simpa using e
theorem lx (n:Nat) (h:n<1000000000):okN (dec n)=true/\num (dec n)=n:=by
 have hn:=Da n;have hd:ew (dec n)=dec n:=by simp[ew,dW,hn]
 have hl:=eI 8 n Ff;have ok:okN (dec n)=true:=by
  rw[ia,hd];refine⟨?_,hl,(oO n).1,?_⟩
  ·have:=kw n
   have:=List.length_pos_iff.2 this;omega
  ·rintro⟨e1,e2⟩
   by_cases h0:n=0
   ·subst h0
    rw[kJ]at e2;simp at e2
   ·exact si n Ff e1
 refine⟨ok,?_⟩;unfold num;rw[ok,hn,hd,(oO n).2];simp
theorem jz (l:Bs) (h:okN l=true) (h0:0<=num l):dec (num l).toNat=l:=by
 rw[ia]at h;have ok:okN l=true:=(ia l).2 h;obtain⟨h1,h2,h3,h4⟩:=h;have hne:ew l≠[]:=by intro e;rw[e]at h1;simp at h1
 unfold num at h0⊢;rw[if_pos ok]at h0⊢;cases hng:neg l with
 |true=>
  exfalso;rw[hng,if_pos rfl]at h0;have hlen:1<l.length:=by
   have:=jf l;simp only[dW,hng,if_true]at this;omega
  have hz:(ew l).head? ≠some 48:=fun e=>h4 ⟨e,hlen⟩
  have hb:=wU _ h3;have hv:val (ew l)=0:=by omega
  have:=yh (ew l) h3 hne (fun e=>absurd e hz);rw[hv]at this;have e0:dec (0:Int).toNat=[48]:=kJ;rw[e0]at this;rw[<-this]at hz;exact hz rfl
 |false=>
  have hd:ew l=l:=by simp[ew,dW,hng]
  rw[hd]at h3 h4 hne⊢;simp only[Bool.false_eq_true,if_false];exact yh l h3 hne (fun e=>by
   have:¬1<l.length:=fun h=>h4 ⟨e,h⟩
   have:=List.length_pos_iff.2 hne;omega)
def eg:List Int->Bs
 |[]=>[]
 |[x]=>ce x
 |x::y::l=>ce x++32::eg (y::l)
theorem uC (n:Int) (h0: -9223372036854775808<=n) (h1:n<=9223372036854775807):(ce n).length<=21:=by
 have:=eI 19 n.natAbs Ff;unfold ce;split<;>simp<;>omega
theorem eh {n:Int} (h:0<=n):ce n=dec n.toNat:=by
 unfold ce;rw[if_neg Ff]
 congr 1
 omega
theorem uD (c:UInt8) (a:Bs) (h:∀b∈a,b≠c):ay c a=[a]:=by
 induction a with
 |nil=>rfl
 |cons b a ih=>rw[ay,if_neg (h b Fg),ih (fun x hx=>h x (by simp[hx]))];rfl
def ib (c:UInt8):List Bs->Bs
 |[]=>[]
 |[x]=>x
 |x::y::l=>x++c::ib c (y::l)
theorem uF (c:UInt8) (a:Bs) (l:List Bs) (h:l≠[]):ib c (eR a l)=a++ib c l:=by
 cases l with
 |nil=>exact absurd rfl h
 |cons p ps=>cases ps<;>simp[eR,ib]
theorem uG (c:UInt8) (s:Bs):ib c (ay c s)=s:=by
 induction s with
 |nil=>rfl
 |cons b t ih=>
  rw[ay];split
  ·rename_i h
   cases hs:ay c t with
   |nil=>exact absurd hs (dV c t)
   |cons p ps=>rw[ib,<-hs,ih,h];rfl
  ·rw[uF c [b] _ (dV c t),ih];rfl
def iQ (xs:List Int) (j:Nat):Bs:=if j=0 then[]else eg (xs.take j)
theorem wV (xs:List Int) (x:Int) (h:xs≠[]):eg (xs++[x])=eg xs++32::ce x:=by
 induction xs with
 |nil=>exact absurd rfl h
 |cons a l ih=>
  cases l with
  |nil=>rfl
  |cons b l=>
   have:=ih Fg;simp only[List.cons_append]at this⊢;rw[eg,this,eg];simp
theorem wW (xs:List Int) (j:Nat) (h:j<xs.length):iQ xs (j+1)=(if j=0 then[]else iQ xs j++[32])++ce (xs.getD j 0):=by
 unfold iQ;rw[if_neg Ff,List.take_succ_eq_append_getElem h];have e:xs.getD j 0=xs[j]:=by simp[h]
 rw[e];by_cases h0:j=0
 ·subst h0
  simp[eg]
 ·rw[if_neg h0,if_neg h0,wV _ _ (by intro e;have:=congrArg List.length e;rw[List.length_take,Nat.min_eq_left Ff]at this;exact h0 this)]
  simp
theorem qB (xs:List Int) (h:∀x∈xs, -9223372036854775808<=x/\x<=9223372036854775807):(eg xs).length<=22*xs.length:=by
 induction xs with
 |nil=>simp[eg]
 |cons a l ih=>
  have ha:=h a Fg;have hl:=uC a ha.1 ha.2;cases l with
  |nil=>simp[eg];omega
  |cons b l=>
   have:=ih (fun x hx=>h x (by simp[hx]));rw[eg];simp at this⊢;omega
theorem qC (xs:List Int):ib 32 (xs.map ce)=eg xs:=by
 induction xs with
 |nil=>rfl
 |cons x l ih=>
  cases l with
  |nil=>rfl
  |cons y l=>
   rw[List.map_cons,List.map_cons,ib,<-List.map_cons,ih];rfl
def fu (xs:List Int):Prop:=∀x∈xs, -9223372036854775808<=x/\x<=9223372036854775807
end
def bK (l:Bs) (j:Nat) (h:j<l.length):Int:=((((⟨l.toArray⟩:ByteArray)[j]'(show j<(⟨l.toArray⟩:ByteArray).size from h)).toNat:Nat):Int)
theorem jg (l:Bs) (j:Nat) (h:j<l.length):bK l j h=am l[j]:=rfl
theorem Br (b:UInt8) (t:Bs):neg (b::t)=decide (b=45):=by unfold neg;by_cases h:b=45<;>simp[h]
theorem wY (l:Bs) (h:0<l.length):neg l=decide (l[0]=45):=by
 cases l with
 |nil=>simp at h
 |cons b t=>exact Br b t
theorem jA (l:Bs) (h:l.length-dW l<1):okN l=false:=by
 rw[<-Bool.not_eq_true,ia,jf];omega
theorem oQ (l:Bs) (h:9<l.length-dW l):okN l=false:=by
 rw[<-Bool.not_eq_true,ia,jf];omega
theorem cD {l:Bs} (h:okN l=false):num l=0:=by simp[num,h]
theorem yi (l:Bs) (j:Nat) (h0:dW l<=j) (h:j<l.length):∃h':j-dW l<(ew l).length,(ew l)[j-dW l]=l[j]:=by
 have hl:=jf l;refine⟨by omega,?_⟩;unfold ew;rw[List.getElem_drop]
 congr 1
 omega
def cg (l:Bs) (j:Nat) (x:Int):Prop:=x=val ((ew l).take (j-dW l))/\((ew l).take (j-dW l)).all dp=true
theorem cg.start (l:Bs):cg l (dW l) 0:=by simp[cg,val]
theorem cg.next {l:Bs} {j:Nat} {x:Int} (h:cg l j x) (h0:dW l<=j) (hj:j<l.length) (hd:dp l[j]=true):cg l (j+1) (x*10+(am l[j]-48)):=by
 obtain⟨h1,h2⟩:=yi l j h0 hj;unfold cg at h⊢;rw[show j+1-dW l=j-dW l+1 by omega,fO _ _ h1,iy,List.all_append,h.2,h2,h.1];simp[hd]
theorem cg.bd {l:Bs} {j:Nat} {x:Int} (h:cg l j x) (hj:j-dW l<=9):0<=x/\x<1000000000:=by
 rw[h.1];exact qA _ h.2 (by simp;omega)
theorem cg.bad {l:Bs} {j:Nat} (h0:dW l<=j) (hj:j<l.length) (hd:dp l[j]=false):okN l=false:=by
 obtain⟨h1,h2⟩:=yi l j h0 hj;rw[<-Bool.not_eq_true,ia];rintro⟨_,_,h3,_⟩;have:=List.all_eq_true.1 h3 _ (List.getElem_mem h1);rw[h2,hd]at this;cases this
theorem jB (l:Bs) (h:dW l<l.length):(ew l).head? =some l[dW l]:=by
 unfold ew;rw[List.head?_drop];simp[h]
theorem cg.done {l:Bs} {x:Int} (h:cg l l.length x) (h1:1<=l.length-dW l) (h2:l.length-dW l<=9):okN l= !(decide ((ew l).head? =some 48)&&decide (1<l.length))/\x=val (ew l):=by
 have hl:=jf l;unfold cg at h;rw[<-hl,List.take_length]at h;refine⟨?_,h.1⟩;unfold okN;rw[h.2,hl];simp[h1,h2]
section
open Go.RowKit
end
section
open Go.RowKit
def kiI (k:Int):Bool:=inI k 1 6
def qE (k:Int) (w:Bool):Bool:=kiI k&&(w||decide (k%2=0))
def bY (k:Int):Bool:=decide (k=5)||decide (k=6)
def kC (k:Int) (w h r:Bool):Bool:=if k=0 then true else if kiI k=false then false else if h then true else if decide (3<=k)&&r then true else !qE k w
theorem kinds (k:Int):k=0∨k=1∨k=2∨k=3∨k=4∨k=5∨k=6∨(kiI k=false/\k≠0/\k≠1/\k≠2/\k≠3/\k≠4/\k≠5/\k≠6):=by
 by_cases h:kiI k=true
 ·have:=(aE k 1 6).1 h
  omega
 ·have h':kiI k=false:=by simpa using h
  have:¬(1<=k/\k<=6):=fun e=>h ((aE k 1 6).2 e)
  by_cases h0:k=0
  ·exact .inl h0
  ·exact .inr (.inr (.inr (.inr (.inr (.inr (.inr ⟨h',by omega⟩))))))
theorem mayI_holds (k:Int) (w r:Bool) (h:kiI k=true):kC k w true r=true:=by
 unfold kC;by_cases h0:k=0
 ·rw[if_pos h0]
 ·rw[if_neg h0,if_neg (by rw[h];decide),if_pos rfl]
theorem Bw (k:Int) (hk:kiI k=false):bY k=false:=by
 rcases kinds k with h|h|h|h|h|h|h|⟨_,h0,h1,h2,h3,h4,h5,h6⟩
 ·subst h;rfl
 all_goals first|(subst h;exact absurd hk Fh)|simp[bY,h5,h6]
theorem Bz (k:Int) (w h r:Bool) (h0:k≠0) (hk:kiI k=false):kC k w h r=false:=by simp[kC,h0,hk]
end
section
open Go.RowKit
structure Hd where
 ks:List Int
 kd:Int
 ho:Int
 tu:Int
def eE (ks:List Int):Bool:=ks.any (fun k=>decide (k≠0))
def ey (ks:List Int):Bool:=ks.all (fun k=>inI k 0 9999)
def dT (ks:List Int) (i:Int):Bool:=decide (ks.getD i.toNat 0≠0)
def Hd.mid (h:Hd):Bool:=if h.kd=0 then decide (h.ho= -1)else if bY h.kd then decide (h.ho= -1)&&eE h.ks else kiI h.kd&&inI h.ho 0 3&&dT h.ks h.ho
def Hd.ok (h:Hd):Bool:=decide (h.ks.length=4)&&inI h.tu 0 1000000000&&ey h.ks&&h.mid
def Hd.holds (h:Hd) (i:Int):Bool:=decide (h.kd≠0)&&(decide (h.ho=i)||(bY h.kd&&dT h.ks i))
def Hd.may (h:Hd) (i:Int) (w:Bool):Bool:=kC h.kd w (h.holds i) (dT h.ks i)
def Hd.Reg (h:Hd) (i:Int):Bool:=h.ok&&inI i 0 3&&dT h.ks i
def Hd.Hol (h:Hd) (i:Int):Bool:=h.ok&&inI i 0 3&&h.holds i
def Hd.May (h:Hd) (i:Int) (w:Bool):Bool:=h.ok&&inI i 0 3&&h.may i w
def Hd.new:Hd:=⟨[0,0,0,0],0, -1,0⟩
theorem Hd.ok_len {h:Hd} (e:h.ok=true):h.ks.length=4:=by
 unfold Hd.ok at e;simp only[Bool.and_eq_true,decide_eq_true_eq]at e;exact e.1.1.1
theorem AF (ks:List Int) (j:Nat) (h:j<ks.length) (h0:eE (ks.take j)=false) (hx:ks.getD j 0=0):eE (ks.take (j+1))=false:=by
 unfold eE at*;rw[List.take_succ_eq_append_getElem h,List.any_append,h0];have:ks[j]=0:=by simpa[h]using hx
 simp[this]
theorem rJ (ks:List Int) (j:Nat) (h:j<ks.length) (hx:ks.getD j 0≠0):eE ks=true:=by
 unfold eE;rw[List.any_eq_true];exact⟨ks[j],List.getElem_mem h,by simpa[h]using hx⟩
theorem qh (ks:List Int) (j:Nat) (h:j<ks.length) (h0:ey (ks.take j)=true) (hx:inI (ks.getD j 0) 0 9999=true):ey (ks.take (j+1))=true:=by
 unfold ey at*;rw[List.take_succ_eq_append_getElem h,List.all_append,h0];have:inI ks[j] 0 9999=true:=by simpa[h]using hx
 simp[this]
theorem tj (ks:List Int) (j:Nat) (h:j<ks.length) (hx:inI (ks.getD j 0) 0 9999=false):ey ks=false:=by
 unfold ey;rw[List.all_eq_false];exact⟨ks[j],List.getElem_mem h,by have:inI ks[j] 0 9999=false:=by{simpa[h]using hx};simp[this]⟩
end
section
open Go.RowKit
def cM (t:Int):Int:=if 1000000000<t+1 then 0 else t+1
def Hd.zero:Hd:=⟨[],0,0,0⟩
def Hd.free (h:Hd):Hd:=⟨h.ks,0, -1,h.tu⟩
def Hd.take (h:Hd) (i k:Int):Hd:=⟨h.ks,k,if bY k then-1 else i,h.tu⟩
def Hd.turn (h:Hd):Hd:=⟨h.ks,h.kd,h.ho,cM h.tu⟩
def Hd.key (h:Hd) (i key:Int):Hd:=⟨h.ks.set i.toNat key,h.kd,h.ho,h.tu⟩
def Hd.regd (h:Hd) (i key:Int):Hd:=if key=0/\(h.ho=i∨eE (h.ks.set i.toNat key)=false)then((h.key i key).turn).free else(h.key i key).turn
def Hd.register (h:Hd) (i key:Int):Hd×Int:=if h.ok&&inI i 0 3&&inI key 0 9999 then(h.regd i key,0)else(Hd.zero,2)
def Hd.resd (h:Hd) (i k:Int):Hd×Bool:=if dT h.ks i=false then(h,false)else if h.kd=0 then(h.take i k,true)else(h,decide (h.kd=k)&&(bY k||decide (h.ho=i)))
def told (r:Hd×Bool):Hd×Int:=(r.1,if r.2 then 0 else 1)
def Hd.reserve (h:Hd) (i k:Int):Hd×Int:=if h.ok&&inI i 0 3&&kiI k then told (h.resd i k)else(Hd.zero,2)
def Hd.reld (h:Hd) (i:Int):Hd×Bool:=if dT h.ks i=false then(h,false)else if h.holds i then(h.free,true)else(h,true)
def Hd.release (h:Hd) (i:Int):Hd×Int:=if h.ok&&inI i 0 3 then told (h.reld i)else(Hd.zero,2)
def Hd.clrd (h:Hd) (i:Int):Hd×Bool:=if dT h.ks i=false then(h,false)else(⟨[0,0,0,0],0, -1,cM h.tu⟩,true)
def Hd.clear (h:Hd) (i:Int):Hd×Int:=if h.ok&&inI i 0 3 then told (h.clrd i)else(Hd.zero,2)
def cA (ks:List Int) (i:Nat) (key:Int):Nat->List Int
 |0=>ks
 |j+1=>if j≠i/\ks.getD j 0=key then(cA ks i key j).set j 0 else cA ks i key j
def ip (ks:List Int) (i:Nat) (key:Int):Nat->Bool
 |0=>false
 |j+1=>ip ks i key j||(decide (j≠i)&&(decide (ks.getD j 0≠key)&&decide (ks.getD j 0≠0)))
def has (ks:List Int) (key:Int):Nat->Bool
 |0=>false
 |j+1=>has ks key j||decide (ks.getD j 0=key)
def Hd.alone (h:Hd) (key:Int):Bool:=decide (h.kd≠0)&&(!bY h.kd&&decide (h.ks.getD h.ho.toNat 0=key))
def Hd.pred (h:Hd) (i key k:Int):Hd×Bool:=
 if(dT h.ks i&&has h.ks key 4)=false then(h,false)else
 if(h.alone key||(bY h.kd&& !ip h.ks i.toNat key 4))=true then((Hd.turn ⟨cA h.ks i.toNat key 4,h.kd,h.ho,h.tu⟩).take i k,true)
 else(Hd.turn ⟨cA h.ks i.toNat key 4,h.kd,h.ho,h.tu⟩,true)
theorem jW (ks:List Int) (i:Nat) (key:Int) (j:Nat):(cA ks i key j).length=ks.length:=by
 induction j with
 |zero=>rfl
 |succ j ih=>unfold cA;split<;>simp[ih]
theorem pU (ks:List Int) (i:Nat) (key:Int) (j m:Nat) (hm:j<=m):(cA ks i key j).getD m 0=ks.getD m 0:=by
 induction j with
 |zero=>rfl
 |succ j ih=>
  have:=ih Ff;unfold cA;split
  ·rw[<-this]
   simp only[List.getD_eq_getElem?_getD];rw[List.getElem?_set_ne Ff]
  ·exact this
def Hd.preempt (h:Hd) (i key k:Int):Hd×Int:=if h.ok&&inI i 0 3&&inI key 1 9999&&kiI k then told (h.pred i key k)else(Hd.zero,2)
theorem Hd.ok_all {h:Hd} (e:h.ok=true):h.ks.length=4/\(0<=h.tu/\h.tu<=1000000000)/\ey h.ks=true/\h.mid=true:=by
 unfold Hd.ok at e;simp only[Bool.and_eq_true,decide_eq_true_eq]at e;exact⟨e.1.1.1,(aE _ _ _).1 e.1.1.2,e.1.2,e.2⟩
theorem sF (t:Int) (h0:0<=t) (h1:t<=1000000000):0<=cM t/\cM t<=1000000000:=by
 unfold cM;split<;>omega
end
section
open Go.RowKit
def Hd.keysN (h:Hd):List Int:=h.tu::h.ks.filter (fun k=>decide (k≠0))
def Hd.holdN (h:Hd):List Int:=[h.tu,h.kd,if 0<=h.ho then h.ks.getD h.ho.toNat 0 else 0]
def Hd.showN (h:Hd):List Int:=h.ks++[h.kd,h.ho,h.tu]
def Hd.keysT (h:Hd):Bs:=if h.ok then eg h.keysN else[]
def Hd.holdT (h:Hd):Bs:=if h.ok then eg h.holdN else[]
theorem Hd.ok_nums {h:Hd} (e:h.ok=true):∀x∈h.showN, -10000000000<x/\x<10000000000:=by
 obtain⟨hl,ht,hk,hm⟩:=Hd.ok_all e;intro x hx;unfold Hd.showN at hx;rcases List.mem_append.1 hx with hx|hx
 ·have:=List.all_eq_true.1 hk x hx
  have:=(aE _ _ _).1 this;omega
 ·have hkd: -1<=h.kd/\h.kd<=100/\-1<=h.ho/\h.ho<=3:=by
   unfold Hd.mid at hm;split at hm
   ·rename_i c
    have:h.ho= -1:=by simpa using hm
    omega
   ·split at hm
    ·rename_i c
     have h1:h.ho= -1:=by simp only[Bool.and_eq_true,decide_eq_true_eq]at hm;exact hm.1
     have:h.kd=5∨h.kd=6:=by simpa[bY]using c
     omega
    ·simp only[Bool.and_eq_true]at hm
     have:=(aE _ _ _).1 (show inI h.kd 1 6=true from hm.1.1);have:=(aE _ _ _).1 hm.1.2;omega
  simp only[List.mem_cons,List.mem_nil_iff,or_false]at hx;rcases hx with rfl|rfl|rfl<;>omega
end
theorem ai (w:World) (g j:Nat) (x:Value):w.grownBy (w.setCell ⟨g,j,none⟩ x) (some g):=
 ⟨rfl,rfl,rfl,by simp,fun k _ hk=>heap_setCell_other w ⟨g,j,none⟩ k x (fun e=>hk (by simp[e]))⟩
theorem Own.keptLt {w w':World} {base g:Nat} {v:Value} {xs:List Int} (h:Own w base v xs) (hg:w.grownBy w' (some g)) (hb:g<base):Own w' base v xs:=
 h.kept hg (by
  by_cases e:v.ownBlock=none
  ·exact .inl e
  ·refine .inr fun e2=>?_
   have:=h.lt g e2;omega)
theorem Own.setLt {w:World} {base g:Nat} {v:Value} {xs:List Int} (h:Own w base v xs) (hb:g<base) (j:Nat) (x:Value):Own (w.setCell ⟨g,j,none⟩ x) base v xs:=h.keptLt (ai w g j x) hb
def szI (k:Int) (n:Nat):Int:=if(n:Int)<=k then k-n else-1
theorem po (v:Value) (xs:List Int) (k:Int) (w:World) (h:ag w v xs) (h0:0<=k) (h1:k<=1048576):
  Calls Tryz.prog 43 #[v,.int .i64 k] w fun e w'=>e=.returned (.int .i64 (szI k xs.length))/\w'=w:=by
 obtain⟨ao,cap,rfl,hl,⟨hm, -⟩, -⟩:=h;unfold maxLen at hm;obtain⟨n,hn⟩:=Fe xs.length
 rw[<-hn]at hl⊢;clear hn;by_cases hk:(n:Int)<=k
 ·have e:szI k n=k-n:=by simp[szI,hk]
  rw[e];clear e;go_enter Tryz.func43,Tryz.ntmps43;go_wp2;go_ret;exact⟨rfl,rfl⟩
 ·have e:szI k n= -1:=by simp[szI,hk]
  rw[e];clear e;go_enter Tryz.func43,Tryz.ntmps43;go_wp2;go_ret;exact⟨rfl,rfl⟩
theorem D7 (s i:Int) (w:World):
  Calls Tryz.prog 164 #[.int .i64 s,.int .i64 i] w fun e w'=>e=.returned (.bool (inB s i))/\w'=w:=by
 by_cases h0:0<=s
 ·by_cases h1:s<256
  ·by_cases h2:0<=i
   ·by_cases h3:i<8
    ·go_enter Tryz.func164,Tryz.ntmps164
     go_wp2;go_ret;exact⟨af (Ed h0 h1 h2 h3),rfl⟩
    ·have e:=gU (s:=s) (i:=i) Ff
     rw[e];clear e;go_enter Tryz.func164,Tryz.ntmps164;go_wp2;go_ret;exact⟨rfl,rfl⟩
   ·have e:=gU (s:=s) (i:=i) Ff
    rw[e];clear e;go_enter Tryz.func164,Tryz.ntmps164;go_wp2;go_ret;exact⟨rfl,rfl⟩
  ·have e:=qV (s:=s) (i:=i) Ff
   rw[e];clear e;go_enter Tryz.func164,Tryz.ntmps164;go_wp2;go_ret;exact⟨rfl,rfl⟩
 ·have e:=qV (s:=s) (i:=i) Ff
  rw[e];clear e;go_enter Tryz.func164,Tryz.ntmps164;go_wp2;go_ret;exact⟨rfl,rfl⟩
theorem qF {x:Int} (h0:0<=x) (h1:x<=9999):bJ x=true:=by simp[bJ,h0,h1]
theorem lB {x:Int} (h:x<0∨9999<x):bJ x=false:=by simp[bJ];omega
theorem jm (x:Int) (w:World):
  Calls Tryz.prog 125 #[.int .i64 x] w fun e w'=>e=.returned (.bool (bJ x))/\w'=w:=by
 by_cases h0:0<=x
 ·by_cases h1:x<=9999
  ·rw[qF h0 h1]
   go_enter Tryz.func125,Tryz.ntmps125;go_wp2;go_ret;exact⟨af Fg,rfl⟩
  ·rw[lB Ff]
   go_enter Tryz.func125,Tryz.ntmps125;go_wp2;go_ret;exact⟨af Fg,rfl⟩
 ·rw[lB Ff]
  go_enter Tryz.func125,Tryz.ntmps125;go_wp2;go_ret;exact⟨af Fg,rfl⟩
theorem ag.cellOf {w:World} {ao:Option Addr} {n cap:Nat} {xs:List Int} (h:ag w (.slice ao n cap) xs):n=xs.length/\n<=cap/\cap<=maxLen/\∀j,j<n->∃b off,ao=some ⟨b,off,none⟩/\b<w.heap.size/\w.cell? ⟨b,off+j,none⟩=some (.int .i64 (xs.getD j 0)):=by
 obtain⟨ao',cap',e,hl,⟨hm, -⟩,hc⟩:=h;simp only[Value.slice.injEq]at e;obtain⟨rfl,rfl,rfl⟩:=e;refine⟨rfl,hl,hm,fun j hj=>?_⟩;rcases hc with e|⟨b,off,e,h4⟩
 ·rw[e]at hj;simp at hj
 ·exact⟨b,off,e,World.block_lt_of_cell? w _ (h4 j hj),h4 j hj⟩
theorem ag.form {w:World} {v:Value} {xs:List Int} (h:ag w v xs):∃ao cap,v=.slice ao xs.length cap:=by
 obtain⟨ao,cap,e,_⟩:=h;exact⟨ao,cap,e⟩
theorem eH {a b:List Int} (h:au a b=true):aK a=true/\aK b=true/\a.length=b.length:=by
 simpa[au]using h
def apart (u v:Value):Prop:=(u.ownBlock=none∨u.ownBlock≠v.ownBlock)/\(v.ownBlock=none∨v.ownBlock≠u.ownBlock)
def aV (w:World) (base:Nat) (u v:Value) (xs ys:List Int):Prop:=Own w base u xs/\Own w base v ys/\apart u v
def cL (w:World) (g:Nat) (t:TypeId) (u v:Value):Prop:=w.heap[g]?=some (.cells #[u,v] t (0,0))
theorem cL.lt {w:World} {g:Nat} {t:TypeId} {u v:Value} (h:cL w g t u v):g<w.heap.size:=by
 rcases Nat.lt_or_ge g w.heap.size with hlt|hge
 ·exact hlt
 ·rw[cL,Array.getElem?_eq_none hge]at h;cases h
theorem cL.new (w:World) (t:TypeId) (u v:Value):cL (w.alloc (.cells #[u,v] t)) w.heap.size t u v:=heap_alloc_new w _
theorem cL.below {w w':World} {g:Nat} {t:TypeId} {u v:Value} (h:cL w g t u v) (hb:iO w w'):cL w' g t u v:=(hb.block g h.lt).trans h
theorem cL.kept {w w':World} {g:Nat} {t:TypeId} {u v:Value} {row:Option Nat} (h:cL w g t u v) (hg:w.grownBy w' row) (hne:some g≠row):cL w' g t u v:=(hg.block g h.lt hne).trans h
theorem cL.alloc {w:World} {g:Nat} {t:TypeId} {u v:Value} (h:cL w g t u v) (o:Obj):cL (w.alloc o) g t u v:=(Below.heap_alloc w o g h.lt).trans h
theorem cL.cell0 {w:World} {g:Nat} {t:TypeId} {u v:Value} (h:cL w g t u v):w.cell? ⟨g,0,none⟩=some u:=by rw[cell_of_row w g 0 _ _ _ h];rfl
theorem cL.cell1 {w:World} {g:Nat} {t:TypeId} {u v:Value} (h:cL w g t u v):w.cell? ⟨g,1,none⟩=some v:=by rw[cell_of_row w g 1 _ _ _ h];rfl
theorem cL.frozen {w:World} {g:Nat} {t:TypeId} {u v:Value} (h:cL w g t u v) (j:Nat):w.frozen? ⟨g,j,none⟩=false:=frozen_of_row w g j _ _ h
theorem mu (w:World) (o:Obj) (row:Option Nat):w.grownBy (w.alloc o) row:=⟨rfl,rfl,rfl,by simp,fun k hk _=>Below.heap_alloc w o k hk⟩
theorem be (w:World) (o:Obj):iO w (w.alloc o):=Fc
theorem vw (u v:Value) (xs ys:List Int) (k:Int) (w:World) (h:ag w u xs) (h':ag w v ys) (h0:0<=k) (h1:k<=1048576):
  Calls Tryz.prog 12 #[.agg #[u,v],.int .i64 k] w fun e w'=>e=.returned (.int .i64 (szI k (xs.length+ys.length)))/\iO w w':=by
 have hb:=be w (.cells #[u,v] 24);have c1:=po u xs k _ (h.below hb (Nat.le_refl _)) h0 h1;by_cases hx:(xs.length:Int)<=k
 ·have e1:szI k xs.length=k-xs.length:=by simp[szI,hx]
  have c2:=po v ys (k-xs.length) _ (h'.below hb (Nat.le_refl _)) Ff Ff;rw[e1]at c1;by_cases hy:(ys.length:Int)<=k-xs.length
  ·have e2:szI (k-xs.length) ys.length=k-xs.length-ys.length:=by simp[szI,hy]
   have e3:Hid (szI k (xs.length+ys.length)=k-xs.length-ys.length):=by simp only[Hid,szI];rw[if_pos Ff];omega
   rw[e2]at c2;clear e1 e2;go_enter Tryz.func12,Tryz.ntmps12;go_wp2_with fail
   refine Fd c1 ?_;go_wp2_with fail
   refine Fd c2 ?_;go_wp2_with fail
   go_ret;exact⟨cZ e3.out.symm,hb⟩
  ·have e2:szI (k-xs.length) ys.length= -1:=by simp[szI,hy]
   have e3:Hid (szI k (xs.length+ys.length)= -1):=by simp only[Hid,szI];rw[if_neg Ff]
   rw[e2]at c2;clear e1 e2;go_enter Tryz.func12,Tryz.ntmps12;go_wp2_with fail
   refine Fd c1 ?_;go_wp2_with fail
   refine Fd c2 ?_;go_wp2_with fail
   go_ret;exact⟨cZ e3.out.symm,hb⟩
 ·have e1:szI k xs.length= -1:=by simp[szI,hx]
  have e3:Hid (szI k (xs.length+ys.length)= -1):=by simp only[Hid,szI];rw[if_neg Ff]
  rw[e1]at c1;clear e1;go_enter Tryz.func12,Tryz.ntmps12;go_wp2_with fail
  refine Fd c1 ?_;go_wp2_with fail
  go_ret;exact⟨cZ e3.out.symm,hb⟩
theorem Gy:(Tryz.prog.info? 36).map (·.size)=some 2:=by kernel_rfl
theorem dt {w1 w2:World} {b1 b2:Nat} {v0 v1:Value} {xs ys:List Int} (h:Own w1 b1 v0 xs) (k:Own w2 b2 v1 ys) (hb:w1.heap.size<=b2):apart v0 v1:=⟨h.apart k hb,h.apart' k hb⟩
theorem Hw:∃fs,Tryz.prog.underlying 36=some (.struct fs):=⟨_,Tryz.underlying36⟩
theorem ag.one {w:World} {v:Value} {xs:List Int} (h:ag w v xs):v.oneCell'=true:=by
 obtain⟨ao,cap,rfl,_⟩:=h;rfl
theorem sQ {u v:Value} (hu:u.oneCell'=true) (hv:v.oneCell'=true):(#[u,v]:Array Value).all (·.oneCell')=true:=by simp[hu,hv]
theorem cL.set0 {w:World} {g:Nat} {t:TypeId} {u v:Value} (h:cL w g t u v) (x:Value):cL (w.setCell ⟨g,0,none⟩ x) g t x v:=heap_setCell_same w g 0 _ _ x h
theorem cL.set1 {w:World} {g:Nat} {t:TypeId} {u v:Value} (h:cL w g t u v) (x:Value):cL (w.setCell ⟨g,1,none⟩ x) g t u x:=heap_setCell_same w g 1 _ _ x h
theorem cL.other {w:World} {g:Nat} {t:TypeId} {u v:Value} (h:cL w g t u v) (a:Addr) (x:Value) (hne:g≠a.block):cL (w.setCell a x) g t u v:=(heap_setCell_other w a g x hne).trans h
theorem sR (w:World) (g:Nat) (cs:Array Value):w.grownBy (w.setRow g cs) (some g):=
 ⟨rfl,rfl,rfl,by simp,fun k _ hne=>_root_.Go.setRow_other w g k cs (fun e=>hne (by rw[e]))⟩
theorem iY {ops:Array Oper} {rest:List Oper} {o:Oper} {a:Act} {w:World} {Q:Exit->Act->World->Prop} (hgd:o.guard=none) (x:Operand) (ho:o.op=.load 36 x)
  (g:Nat) (hx:a.eval x=.pointer (some ⟨g,0,none⟩)) (u v:Value) (hr:cL w g 36 u v)
  (h:wpList Tryz.prog ops Q rest (a.put o.dst (.agg #[u,v])) w):wpList Tryz.prog ops Q (o::rest) a w:=by
 obtain⟨fs,hu⟩:=Hw;exact wpList_load_row hgd _ x ho g hx _ _ _ _ hr hu rfl Gy h
theorem eZ {ops:Array Oper} {rest:List Oper} {o:Oper} {a:Act} {w:World} {Q:Exit->Act->World->Prop} (hgd:o.guard=none) (x y:Operand) (ho:o.op=.store 36 x y)
  (g:Nat) (u v u' v':Value) (hx:a.eval x=.pointer (some ⟨g,0,none⟩)) (hy:a.eval y=.agg #[u,v]) (hu:u.oneCell'=true) (hv:v.oneCell'=true) (hr:cL w g 36 u' v')
  (h:∀w',cL w' g 36 u v->w.grownBy w' (some g)->wpList Tryz.prog ops Q rest (a.put o.dst undef) w'):wpList Tryz.prog ops Q (o::rest) a w:=
 wpList_store_row hgd _ x y ho g #[u,v] hx hy _ _ hr Gy rfl (sQ hu hv) (h _ (setRow_heap w g _ _ _ _ hr) (sR w g _))
theorem eJ {fn:Func} {p:Tmp} (h:fn.results=#[.cell p 36]) (tmps:Array Value) (w:World) (g:Nat) (u v:Value)
  (hp:tmps.getD p undef=.pointer (some ⟨g,0,none⟩)) (hr:cL w g 36 u v):(results fn tmps).run Tryz.prog w=.ok (.agg #[u,v]) w:=by
 obtain⟨fs,hu⟩:=Hw;exact results_cell_row h tmps w g _ _ _ _ hp hr hu rfl Gy
theorem jM {fn:Func} {p q:Tmp} (h:fn.results=#[.cell p 36,.tmp q]) (tmps:Array Value) (w:World) (g:Nat) (u v x:Value)
  (hp:tmps.getD p undef=.pointer (some ⟨g,0,none⟩)) (hx:tmps.getD q undef=x) (hr:cL w g 36 u v):(results fn tmps).run Tryz.prog w=.ok (.tuple #[.agg #[u,v],x]) w:=by
 obtain⟨fs,hu⟩:=Hw;rw[results_cell_tmp h,hp,hx];simp only[asAddr,Sem.run_pure,Result.andThen_ok];rw[run_loadVar_row w g _ _ _ _ _ hr hu rfl Gy];rfl
theorem vx (u v:Value) (xs ys:List Int) (w:World) (h:ag w u xs) (h':ag w v ys) (gx:xs.length<=1099511627776) (gy:ys.length<=1099511627776):
  Calls Tryz.prog 19 #[.agg #[u,v]] w fun e w'=>∃a b,e=.returned (.agg #[a,b])/\aV w' w.heap.size a b xs ys/\iO w w':=by
 have HR:Hid (ag w u xs/\ag w v ys):=⟨h,h'⟩
 clear h h';obtain⟨w3,hw3⟩:=Fe (((w.alloc (.cells #[u,v] 24)).alloc (.cells #[.slice none 0 0,.slice none 0 0] 36)).alloc (.cells #[.slice none 0 0,.slice none 0 0] 36))
 have p0:cL w3 w.heap.size 24 u v:=by rw[hw3];exact((cL.new w _ u v).alloc _).alloc _
 have p1:cL w3 (w.heap.size+1) 36 (.slice none 0 0) (.slice none 0 0):=by rw[hw3];have:=(cL.new (w.alloc (.cells #[u,v] 24)) 36 (.slice none 0 0) (.slice none 0 0)).alloc (.cells #[.slice none 0 0,.slice none 0 0] 36);simpa using this
 have p2:cL w3 (w.heap.size+1+1) 36 (.slice none 0 0) (.slice none 0 0):=by rw[hw3];have:=cL.new ((w.alloc (.cells #[u,v] 24)).alloc (.cells #[.slice none 0 0,.slice none 0 0] 36)) 36 (.slice none 0 0) (.slice none 0 0);simpa using this
 have b3:iO w w3:=by rw[hw3];exact(Fc.alloc Fg _).alloc (by simp;omega) _
 have hs3:w3.heap.size=w.heap.size+3:=by rw[hw3];simp
 go_enter Tryz.func19,Tryz.ntmps19;go_wp2_with fail
 rw[<-hw3];clear hw3;refine(oK u xs _ (HR.out.1.below b3 (Nat.le_refl _)) gx).mono ?_;rintro e w4 ⟨a,rfl,o4,b4⟩;have hs4:=b4.size;replace p0:=p0.below b4;replace p1:=p1.below b4;replace p2:=p2.below b4;replace b4:=b3.trans (b4.mono b3.size);obtain⟨ao,ca,hea⟩:=o4.reads.form;have c2:=p2.cell0;have f2:=p2.frozen 0;have c1:=p0.cell1;have q0:=p0.other ⟨w.heap.size+1+1,0,none⟩ a (by simp;omega);have q1:=p1.other ⟨w.heap.size+1+1,0,none⟩ a Fg;have q2:=p2.set0 a;have b5:iO w (w4.setCell ⟨w.heap.size+1+1,0,none⟩ a):=b4.setCell (by simp;omega) _;have o5:=o4.setLt (g:=w.heap.size+1+1) Ff 0 a;subst hea;obtain⟨w5,hw5⟩:=Fe (w4.setCell ⟨w.heap.size+1+1,0,none⟩ (.slice ao xs.length ca))
 have hs45:w5.heap.size=w4.heap.size:=by rw[hw5];simp
 rw[<-hw5]at q0 q1 q2 b5 o5;clear p0 p1 p2 o4 b3;have hne:w.heap.size≠w.heap.size+1+1:=by omega
 go_wp2_with fail
 rw[<-hw5];clear hw5 c1 c2 f2;refine(oK v ys _ (HR.out.2.below b5 (Nat.le_refl _)) gy).mono ?_;rintro e w6 ⟨b,rfl,o6,b6⟩;have hap:apart (.slice ao xs.length ca) b:=dt o5 o6 (Nat.le_refl _);replace q0:=q0.below b6;replace q1:=q1.below b6;replace q2:=q2.below b6;replace o5:=o5.below b6;have hs5:=b5.size;replace b6:=b5.trans (b6.mono b5.size);replace o6:=o6.mono (show w3.heap.size<=w5.heap.size by omega);obtain⟨bo,cb,heb⟩:=o6.reads.form;have c2:=q2.cell1;have f2:=q2.frozen 1;have r1:=q1.other ⟨w.heap.size+1+1,1,none⟩ b Fg;have r2:=q2.set1 b;have b7:iO w (w6.setCell ⟨w.heap.size+1+1,1,none⟩ b):=b6.setCell (by simp;omega) _;replace o5:=o5.setLt (g:=w.heap.size+1+1) Ff 1 b;have o7:=o6.setLt (g:=w.heap.size+1+1) Ff 1 b;subst heb;obtain⟨w7,hw7⟩:=Fe (w6.setCell ⟨w.heap.size+1+1,1,none⟩ (.slice bo ys.length cb))
 rw[<-hw7]at r1 r2 b7 o5 o7;clear q0 q1 q2 o6 b5 b6;go_wp2_with (first
  |(refine iY rfl _ rfl (w.heap.size+1+1) rfl _ _ (by rw[<-hw7];exact r2) ?_)
  |(refine eZ rfl _ _ rfl (w.heap.size+1) _ _ _ _ rfl rfl rfl rfl (by rw[<-hw7];exact r1) ?_;rw[<-hw7];intro w8 s1 g8))
 refine bodyPost_ret (eJ rfl _ _ (w.heap.size+1) _ _ rfl s1) rfl ?_;refine⟨_,_,rfl,⟨(o5.keptLt g8 Ff).mono Ff,(o7.keptLt g8 Ff).mono Ff,hap⟩,b7.grown g8 b7.size (fun k e=>by cases e;omega)⟩
theorem vy (u v a b:Value) (xs ys:List Int) (w:World) (hu:ag w u xs) (hv:ag w v ys) (ha:ag w a xs) (hb:ag w b ys) (gx:xs.length<=1099511627776) (gy:ys.length<=1099511627776):
  Calls Tryz.prog 30 #[.agg #[u,v],.agg #[a,b]] w fun e w'=>e=.returned (.bool true)/\iO w w':=by
 obtain⟨w2,hw2⟩:=Fe ((w.alloc (.cells #[u,v] 36)).alloc (.cells #[a,b] 36))
 have p0:cL w2 w.heap.size 36 u v:=by rw[hw2];exact(cL.new w _ u v).alloc _
 have p1:cL w2 (w.heap.size+1) 36 a b:=by rw[hw2];have:=cL.new (w.alloc (.cells #[u,v] 36)) 36 a b;simpa using this
 have b2:iO w w2:=by rw[hw2];exact Fc.alloc Fg _
 have c1:=oM u a xs xs w2 (hu.below b2 (Nat.le_refl _)) (ha.below b2 (Nat.le_refl _)) gx;rw[show decide (xs=xs)=true by simp]at c1;have c2:∀n,_:=fun n=>oM v b ys ys (w2.drewN n) (hv.below (below_drewN b2 n) (Nat.le_refl _)) (hb.below (below_drewN b2 n) (Nat.le_refl _)) gy
 rw[show decide (ys=ys)=true by simp]at c2;clear hu hv ha hb gx gy;go_enter Tryz.func30,Tryz.ntmps30;go_wp2_with fail
 rw[<-hw2];clear hw2;refine c1.mono ?_;rintro e w3 ⟨rfl,n3,hw3⟩;have d0:=p0.cell1;have d1:=p1.cell1;have e0:w3.cell? ⟨w.heap.size,1,none⟩=some v:=by rw[hw3];exact d0
 have e1:w3.cell? ⟨w.heap.size+1,1,none⟩=some b:=by rw[hw3];exact d1
 replace c2:=c2 n3;have HB:Hid (iO w w3):=by rw[hw3];exact below_drewN b2 n3
 rw[<-hw3]at c2;clear hw3 d0 d1 p0 p1 c1 b2;go_wp2_with fail
 refine c2.mono ?_;rintro e w4 ⟨rfl,n4,hw4⟩;have HC:Hid (iO w w4):=by rw[hw4];exact below_drewN HB.out n4
 clear hw4 HB e0 e1 c2;go_wp2_with fail
 go_ret;exact⟨rfl,HC.out⟩
def iB (w w':World) (u v:Value):Prop:=∃w1,w.grownBy w1 u.ownBlock/\w1.grownBy w' v.ownBlock
theorem Own.marked {w w':World} {base:Nat} {u v z:Value} {zs:List Int} (h:Own w base z zs) (m:iB w w' u v) (hu:z.ownBlock=none∨z.ownBlock≠u.ownBlock) (hv:z.ownBlock=none∨z.ownBlock≠v.ownBlock):Own w' base z zs:=by
 obtain⟨w1,g1,g2⟩:=m;exact(h.kept g1 hu).kept g2 hv
theorem rB (u v:Value) (xs ys:List Int) (k:Int) (w:World) (base:Nat) (ho:aV w base u v xs ys) (gx:xs.length<=1048576) (gy:ys.length<=1048576) (h0:0<=k) (h1:k<=1048576):
  Calls Tryz.prog 35 #[.agg #[u,v],.int .i64 k] w fun e w'=>e=.returned (.int .i64 (k+xs.length+ys.length))/\aV w' base u v (aS k xs.length) (aS (k+xs.length) ys.length)/\iB w w' u v:=by
 obtain⟨ou,ov,ha⟩:=ho;obtain⟨w1,hw1⟩:=Fe (w.alloc (.cells #[u,v] 36))
 have p0:cL w1 w.heap.size 36 u v:=by rw[hw1];exact cL.new w _ u v
 have b1:iO w w1:=by rw[hw1];exact be w _
 have g1:w.grownBy w1 u.ownBlock:=by rw[hw1];exact mu w _ _
 have hnu:some w.heap.size≠u.ownBlock:=by
  intro e;have:=ou.lt _ e.symm;omega
 replace ou:=ou.below b1;replace ov:=ov.below b1;go_enter Tryz.func35,Tryz.ntmps35;go_wp2_with fail
 rw[<-hw1];clear hw1 b1;refine(je u xs k w1 base ou Ff Ff Ff).mono ?_;rintro e w2 ⟨rfl,ou2,g2⟩;have e0:=(p0.kept g2 hnu).cell1;have ov2:=ov.kept g2 ha.2;have g12:=g1.trans g2;clear p0 ou ov g1 g2;go_wp2_with fail
 refine(je v ys (k+xs.length) w2 base ov2 Ff Ff Ff).mono ?_;rintro e w3 ⟨rfl,ov3,g3⟩;have HC:Hid (aV w3 base u v (aS k xs.length) (aS (k+xs.length) ys.length)/\iB w w3 u v):=⟨⟨ou2.kept g3 ha.1,ov3,ha⟩,_,g12,g3⟩
 clear ou2 ov2 ov3 g12 g3 e0;go_wp2_with fail
 go_ret;exact⟨rfl,HC.out⟩
theorem rC (u v:Value) (n m:Nat) (k:Int) (w:World) (hu:ag w u (aS k n)) (hv:ag w v (aS (k+n) m)) (gx:n<=1048576) (gy:m<=1048576) (h0:0<=k) (h1:k<=1048576):
  Calls Tryz.prog 39 #[.agg #[u,v],.int .i64 k] w fun e w'=>e=.returned (.int .i64 (k+n+m))/\iO w w':=by
 have b1:iO w (w.alloc (.cells #[u,v] 36)):=be w _;have c1:=gM u n k _ (hu.below b1 (Nat.le_refl _)) Ff Ff Ff;have c2:=gM v m (k+n) _ (hv.below b1 (Nat.le_refl _)) Ff Ff Ff;clear hu hv;go_enter Tryz.func39,Tryz.ntmps39;go_wp2_with fail
 refine Fd c1 ?_;go_wp2_with fail
 refine Fd c2 ?_;go_wp2_with fail
 go_ret;exact⟨rfl,b1⟩
end Go.Proofs.YthldeiojlllkdaaGreatDoor
