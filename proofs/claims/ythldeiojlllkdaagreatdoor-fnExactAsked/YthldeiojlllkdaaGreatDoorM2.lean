/- Blocks by commands, as plain lists: what one command does to a disk, and its answer. -/
import Derived.Test.YthldeiojlllkdaaGreatDoorM1
import Derived.Laws.OwnMore
import Derived.Deep.AppendLies
import Derived.Deep.QuietTactic
import Derived.OwnWalk
import Derived.Deep.RegionHeld3
set_option maxRecDepth 20000
set_option maxHeartbeats 1000000
namespace Go.Proofs.YthldeiojlllkdaaGreatDoor
open Go.ChangeShapes Go.WideShapes Go.ChangeAt Go.RowKit
section
open Go.RowKit
structure An where
 st:Int
 tx:Bs
def anA (x:An):Array Value:=#[.int .i64 x.st,S x.tx]
def AV (x:An):Value:=.agg (anA x)
def cV (ys:List Int) (c:Cm):Bool:=decide ((ys.length:Int)<=c.p)||(decide (c.o=2)&& !valOk c.a)||(decide (c.o=3)&& !valOk c.b)
def atI (ys:List Int) (c:Cm):Int:=ys.getD c.p.toNat 0
def bn (xs ys:List Int) (c:Cm):List Int×List Int×An:=
 if c.o=5 then(ys,ys,⟨0,[]⟩)
 else if cV ys c then(xs,ys,⟨1,[]⟩)
 else if c.o=1 then(xs,ys,⟨0,bV (atI ys c)⟩)
 else if c.o=2 then(xs,ys.set c.p.toNat c.a,⟨0,[]⟩)
 else if c.o=3 then(if atI ys c=c.a then(xs,ys.set c.p.toNat c.b,⟨0,[]⟩)else(xs,ys,⟨2,bV (atI ys c)⟩))
 else(xs,ys.set c.p.toNat 0,⟨0,[]⟩)
def dD (xs ys:List Int) (c:Cm):List Int×List Int×An:=
 if au xs ys then(if c.ok&&decide (c.o<=5)then bn xs ys c else(xs,ys,⟨7,[]⟩))else([],[],⟨7,[]⟩)
theorem Cm.ok_vol {c:Cm} (h:c.ok=true) (h5:c.o<=5):(c.o=1∨c.o=2∨c.o=3∨c.o=4∨c.o=5)/\0<=c.p:=by
 obtain⟨o,p,a,b,k⟩:=c;have hb:=Cm.ok_byt h;unfold Cm.ok Cm.told at h;dsimp only at h h5;simp only[Bool.and_eq_true,aD]at h;unfold Cm.Byt at hb;dsimp only at hb;dsimp only;omega
end
def fZ (w:World) (v:Value) (xs:List Bs):Prop:=
 ∃ao cap,v=.slice ao xs.length cap/\xs.length<=cap/\(cap<=maxLen/\(ao=none->cap=0))/\
  (xs=[]∨∃b off,ao=some ⟨b,off,none⟩/\∀j,j<xs.length->w.cell? ⟨b,off+j,none⟩=some (S (xs.getD j [])))
def dh (w:World) (base:Nat) (v:Value) (xs:List Bs):Prop:=
 w.ownsRow base 9 1 v xs.length (xs.map S)
theorem dh.nil (w:World) (base:Nat):dh w base (.slice none 0 0) []:=World.ownsRow_nil w base _ _
theorem dh.reads {w:World} {base:Nat} {v:Value} {xs:List Bs} (h:dh w base v xs):fZ w v xs:=by
 rcases h.2 with⟨rfl,h0⟩|⟨g,cap,cur,rfl,hb,hg,hnc,hcm,hcs,ht⟩
 ·have e:xs=[]:=List.eq_nil_of_length_eq_zero h0
  subst e;exact⟨none,0,rfl,Nat.le_refl _,⟨Nat.zero_le _,fun _=>rfl⟩,.inl rfl⟩
 ·refine⟨_,cap,rfl,hnc,⟨hcm,fun e=>by cases e⟩,.inr ⟨g,0,rfl,fun j hj=>?_⟩⟩
  have:=World.ownsRow.cellAt (w:=w) h j (by omega);rw[Nat.zero_add,this];simp[List.getD,hj]
theorem dh.mono {w:World} {base base':Nat} {v:Value} {xs:List Bs} (h:dh w base v xs) (hb:base'<=base):dh w base' v xs:=by
 refine⟨h.1,?_⟩;rcases h.2 with h'|⟨g,cap,cur,e,hg,r⟩
 ·exact .inl h'
 ·exact .inr ⟨g,cap,cur,e,Nat.le_trans hb hg,r⟩
theorem dh.lt {w:World} {base:Nat} {v:Value} {xs:List Bs} (h:dh w base v xs):∀k,v.ownBlock=some k->base<=k/\k<w.heap.size:=World.ownsRow.lt h
theorem dh.frame {w w':World} {base:Nat} {v:Value} {xs:List Bs} (h:dh w base v xs) (e:∀b∈v.ownBlock.toList,w'.heap[b]?=w.heap[b]?):dh w' base v xs:=by
 refine⟨h.1,?_⟩;rcases h.2 with h'|⟨g,cap,cur,rfl,hb,hg,r⟩
 ·exact .inl h'
 ·exact .inr ⟨g,cap,cur,rfl,hb,(e g (by simp[Value.ownBlock])).trans hg,r⟩
theorem dh.below {w w':World} {base:Nat} {v:Value} {xs:List Bs} (h:dh w base v xs) (hb:bB w w'):dh w' base v xs:=
 h.frame (fun b hm=>hb.block b (h.lt b (by simpa using hm)).2)
theorem dh.kept {w w':World} {base:Nat} {v:Value} {row:Option Nat} {xs:List Bs} (h:dh w base v xs) (hg:w.grownBy w' row) (hne:v.ownBlock=none∨v.ownBlock≠row):dh w' base v xs:=
 World.ownsRow.kept h hg hne
theorem fZ.below {w w':World} {B:Nat} {v:Value} {xs:List Bs} (h:fZ w v xs) (hb:Below B w w') (hB:w.heap.size<=B):fZ w' v xs:=by
 obtain⟨ao,cap,rfl,h1,h2,h3⟩:=h;refine⟨ao,cap,rfl,h1,h2,?_⟩;rcases h3 with h3|⟨b,off,rfl,h4⟩
 ·exact .inl h3
 ·refine .inr ⟨b,off,rfl,fun j hj=>?_⟩
  have h5:=h4 j hj;have h6:=World.block_lt_of_cell? w _ h5;rw[hb.cell (p:=⟨b,off+j,none⟩) (Nat.lt_of_lt_of_le h6 hB)];exact h5
theorem pd (xs:List Bs) (j:Nat) (h:j<xs.length):xs.take (j+1)=xs.take j++[xs.getD j []]:=by
 rw[List.take_succ_eq_append_getElem h];simp[List.getD,h]
theorem dh.put {w:World} {base g n cap:Nat} {xs:List Bs} (h:dh w base (.slice (some ⟨g,0,none⟩) n cap) xs) (hn:n=xs.length) (j:Nat) (hj:j<n) (x:Bs):
  w.frozen? ⟨g,j,none⟩=false/\(∃y,w.cell? ⟨g,j,none⟩=some y)/\dh (w.setCell ⟨g,j,none⟩ (S x)) base (.slice (some ⟨g,0,none⟩) n cap) (xs.set j x):=by
 subst hn;have hown:w.ownsRow base 9 1 (.slice (some ⟨g,0,none⟩) xs.length cap) xs.length (xs.map S):=h;refine⟨World.ownsRow.frozenAt hown j,?_,?_⟩
 ·rw[World.ownsRow.cellAt hown j (by omega)]
  exact⟨_,List.getElem?_eq_getElem (by simpa using hj)⟩
 ·have:=(World.ownsRow.stored hown j (S x)).1
  rw[<-List.map_set]at this;unfold dh
  rwa[List.length_set]
theorem gu (w:World) (g j:Nat) (x:Value):w.grownBy (w.setCell ⟨g,j,none⟩ x) (some g):=
 ⟨rfl,rfl,rfl,by simp,fun k _ hk=>heap_setCell_other w ⟨g,j,none⟩ k x (fun e=>hk (by simp[e]))⟩
def eR (a:Bs):List Bs->List Bs
 |[]=>[a]
 |p::ps=>(a++p)::ps
def ay (c:UInt8):Bs->List Bs
 |[]=>[[]]
 |b::t=>if b=c then[]::ay c t else eR [b] (ay c t)
theorem vk (a b:Bs) (l:List Bs) (h:l≠[]):eR a (eR b l)=eR (a++b) l:=by
 cases l with
 |nil=>exact absurd rfl h
 |cons p ps=>simp[eR]
theorem qY (l:List Bs) (h:l≠[]):eR [] l=l:=by
 cases l with
 |nil=>exact absurd rfl h
 |cons p ps=>rfl
theorem BJ (a:Bs) (l:List Bs):eR a l≠[]:=by cases l<;>simp[eR]
theorem dU (c:UInt8) (l:Bs):ay c l≠[]:=by
 cases l with
 |nil=>simp[ay]
 |cons b t=>rw[ay];split;simp;exact BJ _ _
def cS (l:Bs) (a b:Nat):Bs:=(l.take b).drop a
theorem BL (l:Bs) (a b:Nat) (h:b<=l.length):(cS l a b).length=b-a:=by simp[cS];omega
theorem z7 (l:Bs) (a b:Nat) (h:a<=b) (hb:b<l.length):cS l a (b+1)=cS l a b++[l[b]]:=by
 unfold cS;rw[fP l b hb,List.drop_append_of_le_length (by simp;omega)]
theorem qZ (l:Bs) (a:Nat):cS l a a=[]:=by
 unfold cS;rw[List.drop_eq_nil_of_le (by simp;omega)]
theorem cA (l:Bs) (a b:Nat):(⟨l.toArray⟩:ByteArray).extract a b=⟨(cS l a b).toArray⟩:=by
 apply ByteArray.ext;rw[ByteArray.data_extract];simp[cS,List.extract_toArray,List.drop_take]
def dH (c:UInt8) (l:Bs) (out:List Bs) (a i:Nat):Prop:=a<=i/\ay c l=out++eR (cS l a i) (ay c (l.drop i))
theorem dH.start (c:UInt8) (l:Bs):dH c l [] 0 0:=⟨Nat.le_refl _,by rw[qZ,List.drop_zero,qY _ (dU _ _)];rfl⟩
theorem dH.hit {c:UInt8} {l:Bs} {out:List Bs} {a i:Nat} (h:dH c l out a i) (hi:i<l.length) (hc:l[i]=c):dH c l (out++[cS l a i]) (i+1) (i+1):=by
 refine⟨Nat.le_refl _,?_⟩;rw[h.2,List.drop_eq_getElem_cons hi,ay,if_pos hc,qZ,qY _ (dU _ _)];simp[eR]
theorem dH.miss {c:UInt8} {l:Bs} {out:List Bs} {a i:Nat} (h:dH c l out a i) (hi:i<l.length) (hc:l[i]≠c):dH c l out a (i+1):=by
 refine⟨by have:=h.1;omega,?_⟩;rw[h.2,List.drop_eq_getElem_cons hi,ay,if_neg hc,vk _ _ _ (dU _ _),z7 l a i h.1 hi]
theorem dH.done {c:UInt8} {l:Bs} {out:List Bs} {a:Nat} (h:dH c l out a l.length):ay c l=out++[cS l a l.length]:=by
 rw[h.2];simp[ay,eR]
theorem Tryz.infoS:(Tryz.prog.info? 9).map (fun i=>(i.zero,i.size,i.bytes))=some (some (.string ⟨#[]⟩),1,16):=by kernel_rfl
theorem BM (w:World) (x:Bs):∀j u,([S x])[j]?=some u->(w.alloc (.cells #[S x] 9)).cell? ((⟨w.heap.size,0,none⟩:Addr).add j)=some u:=by
 intro j u hj
 match j,hj with
 |0,hj=>simp at hj;subst hj;simp[Addr.add]
theorem BN (xs:List Bs) (a:Bs):xs.map S++[S a]=(xs++[a]).map S:=by simp
theorem sE {w wr w':World} {o v':Value} {out:List Bs} {x:Bs} {ob:Obj} (hO:dh wr w.heap.size o out) (hB:bB w wr)
  (hown:w'.ownsRow w.heap.size 9 1 v' (out.length+1) (out.map S++[S x])) (hg:(wr.alloc ob).grownBy w' o.ownBlock):dh w' w.heap.size v' (out++[x])/\bB w w':=by
 refine⟨?_,(hB.alloc hB.size ob).grown hg (by simp;have:=hB.size;omega) (fun k e=>(hO.lt k e).1)⟩;unfold dh;rw[<-BN];simpa using hown
theorem pn (l:Bs) (c:UInt8) (w:World) (hl:l.length<=1048576):
  Calls Tryz.prog 128 #[S l,.int .u8 (am c)] w fun e w'=>∃u,e=.returned u/\dh w' w.heap.size u (ay c l)/\bB w w':=by
 obtain⟨i0,hi,hz0,hz1,hz2⟩:=info_parts Tryz.infoS;unfold S;go_enter Tryz.func128,Tryz.ntmps128;go_wp2;go_loopw [5,6,7] (fun o f i wr=>∃(j a:Nat) (out:List Bs),i=.int .i64 j/\f=.int .i64 a/\(a:Int)<=j/\(j:Int)<=l.length+1/\out.length<=j/\Hid (dh wr w.heap.size o out/\bB w wr/\((j<=l.length->dH c l out a j)/\(j=l.length+1->out=ay c l)))) (fun _ _ i _=>l.length+1-(intOf i).toNat)
 case atStart=>exact⟨0,0,[],rfl,rfl,by omega,by omega,by simp,World.ownsRow_lit w #[] 0 (Nat.le_refl _) (Nat.zero_le _) rfl,bA,fun _=>dH.start c l,fun h=>by omega⟩
 case round=>
  obtain⟨j,a,out,rfl,rfl,haj,hj,hol,HR⟩:=hrel;have hsz:(⟨l.toArray⟩:ByteArray).size=l.length:=rfl;by_cases hend:(j:Int)<=(l.length:Int)
  ·have hinv:=HR.out.2.2.1 (by omega)
   have hown:=HR.out.1;have hbs:=HR.out.2.1.size;unfold dh at hown;have hex:=cA l a j;by_cases hl2:(j:Int)=(l.length:Int)
   ·obtain rfl:j=l.length:=by omega
    have HI:Hid (ay c l=out++[cS l a l.length]):=hinv.done;clear hinv hl2;go_wp2_with (at_builtin;refine wpList_append_own _ rfl _ _ 115 rfl w.heap.size 9 i0 (.string ⟨#[]⟩) 1 16 Tryz.underlying115 hi hz0 hz1 hz2 rfl (by decide) _ _ _ rfl (hown.alloc _) _ 1 1 [S (cS l a l.length)] rfl rfl (BM wr (cS l a l.length)) (by simp[Value.oneCell',S]) (by unfold maxLen;omega) (by omega) (by simp;omega) ?_)
    intro v' w2 hown' hgrow _;have HO:Hid (dh w2 w.heap.size v' (out++[cS l a l.length])/\bB w w2):=sE HR.out.1 HR.out.2.1 hown' hgrow;clear hown hown' hgrow HR;go_wp2;go_roundw
    case rel=>exact⟨l.length+1,l.length+1,out++[cS l a l.length],by go_num,by go_num,by omega,by omega,by simp;omega,HO.out.1,HO.out.2,fun h=>by omega,fun _=>HI.out.symm⟩
    case measure=>simp[intOf]
   ·have h1:j<l.length:=by omega
    have hjl:((j:Int)==(l.length:Int))=false:=by simpa using hl2
    have ht:=eN l j h1 c (am c) rfl;by_cases hc:l[j]=c
    ·rw[show decide (l[j]=c)=true by simp[hc]]at ht
     have HI:Hid (dH c l (out++[cS l a j]) (j+1) (j+1)):=hinv.hit h1 hc;clear hinv hc;go_wp2_with (at_builtin;refine wpList_append_own _ rfl _ _ 115 rfl w.heap.size 9 i0 (.string ⟨#[]⟩) 1 16 Tryz.underlying115 hi hz0 hz1 hz2 rfl (by decide) _ _ _ rfl (hown.alloc _) _ 1 1 [S (cS l a j)] rfl rfl (BM wr (cS l a j)) (by simp[Value.oneCell',S]) (by unfold maxLen;omega) (by omega) (by simp;omega) ?_)
     intro v' w2 hown' hgrow _;have HO:Hid (dh w2 w.heap.size v' (out++[cS l a j])/\bB w w2):=sE HR.out.1 HR.out.2.1 hown' hgrow;clear hown hown' hgrow HR;go_wp2;go_roundw
     case rel=>exact⟨j+1,j+1,out++[cS l a j],by go_num,by go_num,by omega,by omega,by simp;omega,HO.out.1,HO.out.2,fun _=>HI.out,fun h=>by omega⟩
     case measure=>simp[intOf];omega
    ·rw[show decide (l[j]=c)=false by simp[hc]]at ht
     have HI:Hid (dH c l out a (j+1)):=hinv.miss h1 hc;clear hinv hc hown;go_wp2;go_roundw
     case rel=>exact⟨j+1,a,out,by go_num,rfl,by omega,by omega,by omega,HR.out.1,HR.out.2.1,fun _=>HI.out,fun h=>by omega⟩
     case measure=>simp[intOf];omega
  ·go_wp2
   go_ret;have e:j=l.length+1:=by omega
   have h2:=HR.out.2.2.2 e;rw[<-h2];exact⟨_,rfl,HR.out.1,HR.out.2.1⟩
section
open Go.RowKit
theorem Ea (a b:Bs):(({data:=a.toArray}:ByteArray)++{data:=b.toArray})={data:=(a++b).toArray}:=ByteArray.mk_append_mk a b
theorem Eb (a:Bs):({data:=a.toArray}:ByteArray).size=a.length:=rfl
def dm (b:UInt8):Bool:=decide (48<=am b)&&decide (am b<=57)
def val (l:Bs):Int:=l.foldl (fun n b=>n*10+(am b-48)) 0
def neg (l:Bs):Bool:=l.head? ==some 45
def dW (l:Bs):Nat:=if neg l then 1 else 0
def ev (l:Bs):Bs:=l.drop (dW l)
def okN (l:Bs):Bool:=decide (1<=(ev l).length)&&decide ((ev l).length<=9)&&(ev l).all dm&& !(decide ((ev l).head? =some 48)&&decide (1<l.length))
def num (l:Bs):Int:=if okN l then(if neg l then-(val (ev l))else val (ev l))else 0
theorem iy (l:Bs) (b:UInt8):val (l++[b])=val l*10+(am b-48):=by simp[val]
theorem jx (b:UInt8):dm b=true↔48<=am b/\am b<=57:=by simp[dm]
theorem wU (l:Bs) (h:l.all dm=true):0<=val l/\val l<10^l.length:=by
 induction hn:l.length generalizing l with
 |zero=>
  have:l=[]:=List.eq_nil_of_length_eq_zero hn;subst this;simp[val]
 |succ n ih=>
  rcases List.eq_nil_or_concat l with rfl|⟨m,b,rfl⟩
  ·simp at hn
  ·rw[List.concat_eq_append]at h hn⊢
   rw[List.all_append,Bool.and_eq_true]at h;have hb:dm b=true:=by simpa using h.2
   rw[jx]at hb;have h1:=ih m h.1 (by simpa using hn);rw[iy,Int.pow_succ];omega
theorem qB (l:Bs) (h:l.all dm=true) (hl:l.length<=9):0<=val l/\val l<1000000000:=by
 have h1:=wU l h;have h2:(10:Int)^l.length<=10^9:=by
  have:(10:Nat)^l.length<=10^9:=Nat.pow_le_pow_right (by omega) hl
  exact_mod_cast this
 have e:(10:Int)^9=1000000000:=by decide
 omega
theorem ib (l:Bs):okN l=true↔1<=(ev l).length/\(ev l).length<=9/\(ev l).all dm=true/\¬((ev l).head? =some 48/\1<l.length):=by
 simp only[okN,Bool.and_eq_true,decide_eq_true_eq,Bool.not_eq_true',Bool.and_eq_false_iff,decide_eq_false_iff_not];constructor
 ·rintro⟨⟨⟨h1,h2⟩,h3⟩,h4⟩
  exact⟨h1,h2,h3,fun⟨a,b⟩=>by rcases h4 with h|h;exact h a;exact h b⟩
 ·rintro⟨h1,h2,h3,h4⟩
  refine⟨⟨⟨h1,h2⟩,h3⟩,?_⟩;by_cases h:(ev l).head? =some 48
  ·exact .inr (fun h'=>h4 ⟨h,h'⟩)
  ·exact .inl h
theorem Ec (l:Bs): -1000000000<num l/\num l<1000000000:=by
 unfold num;split
 ·rename_i h
  rw[ib]at h;have:=qB _ h.2.2.1 h.2.1;split<;>omega
 ·omega
theorem je (l:Bs):(ev l).length=l.length-dW l:=by simp[ev]
theorem gO (n:Nat):am (digit n)=48+(n%10:Nat):=by
 have:(digit n).toNat=48+n%10:=by unfold digit;rw[UInt8.toNat_ofNat'];omega
 unfold am;rw[this];omega
theorem mS (n:Nat):dm (digit n)=true:=by
 rw[jx,gO];omega
theorem oP (n:Nat):(dec n).all dm=true/\val (dec n)=n:=by
 induction n using Nat.strongRecOn with
 |ind n ih=>
  rw[dec];split
  ·refine⟨by simp[mS],?_⟩
   have:=iy [] (digit n);rw[List.nil_append]at this;rw[this,gO];simp[val];omega
  ·obtain⟨h1,h2⟩:=ih (n/10) (by omega)
   refine⟨by rw[List.all_append,h1];simp[mS],?_⟩;rw[iy,h2,gO];omega
theorem uB {b:UInt8} (n:Nat) (hn:((n%10:Nat):Int)=am b-48):digit n=b:=by
 apply UInt8.toNat_inj.1;have:=gO n;unfold am at this hn;omega
theorem yh (l:Bs) (h:l.all dm=true) (h0:l≠[]) (hz:l.head? =some 48->l.length=1):dec (val l).toNat=l:=by
 induction hn:l.length generalizing l with
 |zero=>exact absurd (List.eq_nil_of_length_eq_zero hn) h0
 |succ n ih=>
  rcases List.eq_nil_or_concat l with rfl|⟨m,b,rfl⟩
  ·simp at hn
  ·rw[List.concat_eq_append]at h hn h0 hz⊢
   rw[List.all_append,Bool.and_eq_true]at h;have hb:dm b=true:=by simpa using h.2
   have hb':=(jx b).1 hb;by_cases hm:m=[]
   ·subst hm
    have hv:val ([]++[b])=am b-48:=by rw[iy];simp[val]
    rw[hv,dec,if_pos (by omega),uB (b:=b) _ (by omega)];rfl
   ·have hz':m.head? =some 48->m.length=1:=by
     intro e;cases m with
     |nil=>exact absurd rfl hm
     |cons c m=>
      have:=hz (by simpa using e);simp at this
    have hpos:m.head? ≠some 48:=by
     intro e;cases m with
     |nil=>exact absurd rfl hm
     |cons c m=>
      have:=hz (by simpa using e);simp at this
    have h1:=ih m h.1 hm hz' (by simpa using hn);have h2:=wU m h.1;have h3:val m≠0:=by
     intro e;rw[e]at h1;have:dec (0:Int).toNat=[48]:=kJ;rw[this]at h1;rw[<-h1]at hpos;exact hpos rfl
    rw[iy,dec,if_neg (by omega)];have e1:(val m*10+(am b-48)).toNat/10=(val m).toNat:=by omega
    rw[e1,h1,uB (b:=b) _ (by omega)]
theorem kw (n:Nat):dec n≠[]:=by
 rw[dec];split<;>simp
theorem si (n:Nat) (h:0<n):(dec n).head? ≠some 48:=by
 induction n using Nat.strongRecOn with
 |ind n ih=>
  rw[dec];split
  ·intro e
   have e2:digit n=48:=by simpa using e
   have:=gO n;rw[e2]at this;have h48:am 48=48:=rfl;omega
  ·have:=ih (n/10) (by omega) (by omega)
   cases hd:dec (n/10)with
   |nil=>exact absurd hd (kw _)
   |cons c l=>rw[hd]at this;simpa using this
theorem Da (n:Nat):neg (dec n)=false:=by
 cases hd:dec n with
 |nil=>exact absurd hd (kw _)
 |cons c l=>
  have h:=(oP n).1;rw[hd,List.all_cons,Bool.and_eq_true]at h;have h1:=(jx c).1 h.1;unfold neg;by_cases e:c=45
  ·subst e
   have:am 45=45:=rfl;omega
  ·simpa using e
theorem ly (n:Nat) (h:n<1000000000):okN (dec n)=true/\num (dec n)=n:=by
 have hn:=Da n;have hd:ev (dec n)=dec n:=by simp[ev,dW,hn]
 have hl:=eI 8 n (by omega);have ok:okN (dec n)=true:=by
  rw[ib,hd];refine⟨?_,hl,(oP n).1,?_⟩
  ·have:=kw n
   have:=List.length_pos_iff.2 this;omega
  ·rintro⟨e1,e2⟩
   by_cases h0:n=0
   ·subst h0
    rw[kJ]at e2;simp at e2
   ·exact si n (by omega) e1
 refine⟨ok,?_⟩;unfold num;rw[ok,hn,hd,(oP n).2];simp
theorem jy (l:Bs) (h:okN l=true) (h0:0<=num l):dec (num l).toNat=l:=by
 rw[ib]at h;have ok:okN l=true:=(ib l).2 h;obtain⟨h1,h2,h3,h4⟩:=h;have hne:ev l≠[]:=by intro e;rw[e]at h1;simp at h1
 unfold num at h0⊢;rw[if_pos ok]at h0⊢;cases hng:neg l with
 |true=>
  exfalso;rw[hng,if_pos rfl]at h0;have hlen:1<l.length:=by
   have:=je l;simp only[dW,hng,if_true]at this;omega
  have hz:(ev l).head? ≠some 48:=fun e=>h4 ⟨e,hlen⟩
  have hb:=wU _ h3;have hv:val (ev l)=0:=by omega
  have:=yh (ev l) h3 hne (fun e=>absurd e hz);rw[hv]at this;have e0:dec (0:Int).toNat=[48]:=kJ;rw[e0]at this;rw[<-this]at hz;exact hz rfl
 |false=>
  have hd:ev l=l:=by simp[ev,dW,hng]
  rw[hd]at h3 h4 hne⊢;simp only[Bool.false_eq_true,if_false];exact yh l h3 hne (fun e=>by
   have:¬1<l.length:=fun h=>h4 ⟨e,h⟩
   have:=List.length_pos_iff.2 hne;omega)
def ef:List Int->Bs
 |[]=>[]
 |[x]=>bV x
 |x::y::l=>bV x++32::ef (y::l)
theorem uC (n:Int) (h0: -9223372036854775808<=n) (h1:n<=9223372036854775807):(bV n).length<=21:=by
 have:=eI 19 n.natAbs (by omega);unfold bV;split<;>simp<;>omega
theorem eg {n:Int} (h:0<=n):bV n=dec n.toNat:=by
 unfold bV;rw[if_neg (by omega)]
 congr 1
 omega
theorem uD (c:UInt8) (a:Bs) (h:∀b∈a,b≠c):ay c a=[a]:=by
 induction a with
 |nil=>rfl
 |cons b a ih=>rw[ay,if_neg (h b (by simp)),ih (fun x hx=>h x (by simp[hx]))];rfl
def ic (c:UInt8):List Bs->Bs
 |[]=>[]
 |[x]=>x
 |x::y::l=>x++c::ic c (y::l)
theorem uF (c:UInt8) (a:Bs) (l:List Bs) (h:l≠[]):ic c (eR a l)=a++ic c l:=by
 cases l with
 |nil=>exact absurd rfl h
 |cons p ps=>cases ps<;>simp[eR,ic]
theorem uG (c:UInt8) (s:Bs):ic c (ay c s)=s:=by
 induction s with
 |nil=>rfl
 |cons b t ih=>
  rw[ay];split
  ·rename_i h
   cases hs:ay c t with
   |nil=>exact absurd hs (dU c t)
   |cons p ps=>rw[ic,<-hs,ih,h];rfl
  ·rw[uF c [b] _ (dU c t),ih];rfl
def iP (xs:List Int) (j:Nat):Bs:=if j=0 then[]else ef (xs.take j)
theorem wV (xs:List Int) (x:Int) (h:xs≠[]):ef (xs++[x])=ef xs++32::bV x:=by
 induction xs with
 |nil=>exact absurd rfl h
 |cons a l ih=>
  cases l with
  |nil=>rfl
  |cons b l=>
   have:=ih (by simp);simp only[List.cons_append]at this⊢;rw[ef,this,ef];simp
theorem wW (xs:List Int) (j:Nat) (h:j<xs.length):iP xs (j+1)=(if j=0 then[]else iP xs j++[32])++bV (xs.getD j 0):=by
 unfold iP;rw[if_neg (by omega),List.take_succ_eq_append_getElem h];have e:xs.getD j 0=xs[j]:=by simp[h]
 rw[e];by_cases h0:j=0
 ·subst h0
  simp[ef]
 ·rw[if_neg h0,if_neg h0,wV _ _ (by intro e;have:=congrArg List.length e;rw[List.length_take,Nat.min_eq_left (by omega)]at this;exact h0 this)]
  simp
theorem qC (xs:List Int) (h:∀x∈xs, -9223372036854775808<=x/\x<=9223372036854775807):(ef xs).length<=22*xs.length:=by
 induction xs with
 |nil=>simp[ef]
 |cons a l ih=>
  have ha:=h a (by simp);have hl:=uC a ha.1 ha.2;cases l with
  |nil=>simp[ef];omega
  |cons b l=>
   have:=ih (fun x hx=>h x (by simp[hx]));rw[ef];simp at this⊢;omega
theorem qD (xs:List Int):ic 32 (xs.map bV)=ef xs:=by
 induction xs with
 |nil=>rfl
 |cons x l ih=>
  cases l with
  |nil=>rfl
  |cons y l=>
   rw[List.map_cons,List.map_cons,ic,<-List.map_cons,ih];rfl
def fu (xs:List Int):Prop:=∀x∈xs, -9223372036854775808<=x/\x<=9223372036854775807
end
end Go.Proofs.YthldeiojlllkdaaGreatDoor
