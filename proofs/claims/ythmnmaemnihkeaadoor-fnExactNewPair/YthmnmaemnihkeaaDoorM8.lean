/- Frames as lists of bytes; what l4Framed and Framed of the model answer. -/
import Derived.Test.YthmnmaemnihkeaaDoorM2
import Derived.Test.YthmnmaemnihkeaaDoorM3
set_option maxRecDepth 20000
set_option maxHeartbeats 1000000
namespace Go.Proofs.YthmnmaemnihkeaaDoor
open Go.ChangeShapes Go.WideShapes Go.ChangeAt Go.RowKit
def framed (l:Bs):Bs:=dec l.length++[32]++dec (chk l).toNat++[32]++l++[10]
def framedS (l:Bs):Bs:=if plainB l then framed l else[]
theorem decI_nat (n:Nat):decI n=dec n:=by simp[decI]
theorem chk_cast (l:Bs):((chk l).toNat:Int)=chk l:=by have:=(chk_bd l).1;omega
theorem app (a b:Bs):(({data:=a.toArray}:ByteArray)++{data:=b.toArray})={data:=(a++b).toArray}:=ByteArray.mk_append_mk a b
theorem bsize (a:Bs):({data:=a.toArray}:ByteArray).size=a.length:=rfl
theorem sl4Framed_any (l:Bs) (w:World) (hl:l.length≤1099511627776):
  Calls Tryd.prog 34 #[S l] w fun e w'=>e=.returned (S (framed l))∧Below w.heap.size w w':=by
 have c1:∀w',_:=fun w'=>sint_any (l.length:Nat) w' (by omega) (by omega)
 have hb:=chk_bd l
 have c2:∀w',_:=fun w'=>scheck_any l w' hl
 have c3:∀w',_:=fun w'=>sint_any (chk l) w' (by omega) (by omega)
 have e3:decI (chk l)=dec (chk l).toNat:=by have h:=decI_nat (chk l).toNat;rwa[chk_cast]at h
 simp only[decI_nat]at c1
 simp only[e3]at c3
 have d1:=dec_len 13 l.length (by omega)
 have d2:=dec_len 5 (chk l).toNat (by omega)
 have HF:Hid (framed l=dec l.length++[32]++dec (chk l).toNat++[32]++l++[10]):=rfl
 obtain⟨x,hx⟩:∃x,x=chk l:=⟨_,rfl⟩
 obtain⟨p,hp⟩:∃p,p=dec l.length:=⟨_,rfl⟩
 obtain⟨q,hq⟩:∃q,q=dec (chk l).toNat:=⟨_,rfl⟩
 simp only[←hp]at c1 d1 HF
 simp only[←hq]at c3 d2 HF
 simp only[←hx]at c2 c3
 clear hp hq hx e3 hb
 unfold S at c1 c2 c3⊢
 go_enter Tryd.func34,Tryd.ntmps34
 go_wp2_with fail
 refine(c1 w).mono ?_
 rintro e w1 ⟨rfl,b1⟩
 have HB:Hid (Below w.heap.size w w1):=b1
 clear b1 c1
 go_wp2_with fail
 refine(c2 w1).mono ?_
 rintro e w' ⟨rfl,hw⟩;subst w'
 go_wp2_with fail
 refine(c3 w1).mono ?_
 rintro e w2 ⟨rfl,b2⟩
 have HC:Hid (Below w.heap.size w w2):=HB.out.trans (b2.mono HB.out.size)
 clear b2 c2 c3
 go_wp2_with fail
 go_ret
 refine⟨congrArg (fun x=>Ending.returned (Value.string x)) ?_,HC.out⟩
 rw[HF.out,app,app,app,app,app]
end Go.Proofs.YthmnmaemnihkeaaDoor
namespace Go.Proofs.YthmnmaemnihkeaaDoor
open Go.ChangeShapes Go.WideShapes Go.ChangeAt Go.RowKit
def lineN (s:Bs):Nat:=(s.takeWhile (fun b=>b !=10)).length
theorem lineN_le (s:Bs):lineN s≤s.length:=by
 unfold lineN
 exact(List.takeWhile_prefix _).length_le
theorem lineN_cons (b:UInt8) (s:Bs):lineN (b::s)=if b=10 then 0 else lineN s+1:=by
 unfold lineN
 by_cases h:b=10
 ·simp[h]
 ·simp[h]
theorem lineN_app (t r:Bs) (h:t.all (fun b=>b !=10)=true):lineN (t++r)=t.length+lineN r:=by
 induction t with
 |nil=>simp
 |cons b t ih=>
  simp at h
  rw[List.cons_append,lineN_cons,if_neg h.1,ih (by simpa using h.2)]
  simp;omega
theorem lineN_end (s:Bs) (h:(s.take s.length).all (fun b=>b !=10)=true):lineN s=s.length:=by
 rw[List.take_length]at h
 have:=lineN_app s [] h
 simpa[lineN]using this
def firstB (s:Bs):Bs×Nat:=
 let e:=lineN s
 if e=s.length∨330<e then([],0)
 else match splitB 32 (s.take e)with
  |a::b::_::_=>
   let t:=cutB s (a.length+b.length+2) e
   if plainB t&&decide (framed t=s.take (e+1))then(t,e+1)else([],0)
  |_=>([],0)
end Go.Proofs.YthmnmaemnihkeaaDoor
namespace Go.Proofs.YthmnmaemnihkeaaDoor
open Go.ChangeShapes Go.WideShapes Go.ChangeAt Go.RowKit
def framesN:Nat→Bs→List Bs×Nat
 |0,_=>([],0)
 |k+1,s=>if(firstB s).2=0 then([],0)else((firstB s).1::(framesN k (s.drop (firstB s).2)).1,(firstB s).2+(framesN k (s.drop (firstB s).2)).2)
def framesB (s:Bs):List Bs×Nat:=framesN 2000 s
def FrInv (s:Bs) (out:List Bs) (a:Nat):Prop:=framesB s=(out++(framesN (2000-out.length) (s.drop a)).1,a+(framesN (2000-out.length) (s.drop a)).2)
theorem FrInv.next {s:Bs} {out:List Bs} {a:Nat} (h:FrInv s out a) (hl:out.length<2000) (hn:(firstB (s.drop a)).2≠0):FrInv s (out++[(firstB (s.drop a)).1]) (a+(firstB (s.drop a)).2):=by
 unfold FrInv at h⊢
 rw[h]
 obtain⟨k,hk⟩:∃k,2000-out.length=k+1:=⟨2000-out.length-1,by omega⟩
 have hk2:2000-(out++[(firstB (s.drop a)).1]).length=k:=by simp;omega
 rw[hk,hk2,framesN,if_neg hn,List.drop_drop]
 simp[Nat.add_assoc]
end Go.Proofs.YthmnmaemnihkeaaDoor
namespace Go.Proofs.YthmnmaemnihkeaaDoor
open Go.RowKit
theorem digit_ne (n:Nat):digit n≠10∧digit n≠32:=by
 have h:=Nat.mod_lt n (show 0<10 by omega)
 unfold digit
 have:∀d,d<10→UInt8.ofNat (48+d)≠10∧UInt8.ofNat (48+d)≠32:=by decide
 exact this _ h
theorem dec_ne (n:Nat):∀b∈dec n,b≠10∧b≠32:=by
 induction n using Nat.strongRecOn with
 |ind n ih=>
  intro b hb
  rw[dec]at hb
  split at hb
  ·simp at hb;subst hb;exact digit_ne n
  ·rcases List.mem_append.1 hb with h|h
   ·exact ih (n/10) (by omega) b h
   ·simp at h;subst h;exact digit_ne n
theorem splitB_app (c:UInt8) (a r:Bs) (h:∀b∈a,b≠c):splitB c (a++c::r)=a::splitB c r:=by
 induction a with
 |nil=>simp[splitB]
 |cons b a ih=>
  rw[List.cons_append,splitB,if_neg (h b (by simp)),ih (fun x hx=>h x (by simp[hx]))]
  rfl
def body (t:Bs):Bs:=dec t.length++32::(dec (chk t).toNat++32::t)
theorem framed_body (t:Bs):framed t=body t++[10]:=by simp[framed,body]
theorem plain_ne {t:Bs} (h:plainB t=true):∀b∈t,b≠10:=by
 simp[plainB]at h;exact h.1
theorem plain_len {t:Bs} (h:plainB t=true):t.length≤300:=by
 simp[plainB]at h;exact h.2
theorem body_ne {t:Bs} (h:plainB t=true):(body t).all (fun b=>b !=10)=true:=by
 rw[List.all_eq_true]
 intro b hb
 simp only[bne_iff_ne,ne_eq]
 unfold body at hb
 rcases List.mem_append.1 hb with hb|hb
 ·exact(dec_ne _ b hb).1
 ·rcases List.mem_cons.1 hb with rfl|hb
  ·decide
  ·rcases List.mem_append.1 hb with hb|hb
   ·exact(dec_ne _ b hb).1
   ·rcases List.mem_cons.1 hb with rfl|hb
    ·decide
    ·exact plain_ne h b hb
theorem body_len {t:Bs} (h:plainB t=true):(body t).length≤330:=by
 have h1:=dec_len 2 t.length (by have:=plain_len h;omega)
 have h2:=dec_len 5 (chk t).toNat (by have:=chk_bd t;omega)
 have h3:=plain_len h
 simp[body];omega
theorem framed_len (t:Bs):(framed t).length=(body t).length+1:=by simp[framed_body]
theorem cut_mid (a b:Bs) (n:Nat) (h:n=a.length) (m:Nat) (hm:m=(a++b).length) (r:Bs):cutB (a++b++r) n m=b:=by
 subst h hm
 unfold cutB
 rw[List.take_left,List.drop_left]
theorem firstB_yes {t:Bs} (h:plainB t=true) (r:Bs):firstB (framed t++r)=(t,(framed t).length):=by
 have hl:lineN (framed t++r)=(body t).length:=by
  rw[framed_body,List.append_assoc,lineN_app _ _ (body_ne h)]
  simp[lineN_cons]
 have hb:=body_len h
 have hf:=framed_len t
 have htake:(framed t++r).take (body t).length=body t:=by
  rw[framed_body,List.append_assoc,List.take_left]
 have htake1:(framed t++r).take ((body t).length+1)=framed t:=by
  rw[←hf,List.take_left]
 have hsp:splitB 32 (body t)=dec t.length::dec (chk t).toNat::splitB 32 t:=by
  unfold body
  rw[splitB_app 32 _ _ (fun b hb=>(dec_ne _ b hb).2),splitB_app 32 _ _ (fun b hb=>(dec_ne _ b hb).2)]
 have hcut:cutB (framed t++r) ((dec t.length).length+(dec (chk t).toNat).length+2) (body t).length=t:=by
  have e:framed t++r=(dec t.length++32::(dec (chk t).toNat++[32]))++t++(10::r):=by simp[framed]
  rw[e]
  refine cut_mid _ _ _ (by simp;omega) _ ?_ _
  simp[body]
 unfold firstB
 rw[hl]
 have hno:¬((body t).length=(framed t++r).length∨330<(body t).length):=by
  rw[List.length_append,hf];omega
 simp only[hno,if_false,htake,htake1,hsp]
 cases hs:splitB 32 t with
 |nil=>exact absurd hs (splitB_ne 32 t)
 |cons p ps=>
  simp only[hcut]
  simp[h,hf]
theorem firstB_sound (s:Bs) (h:(firstB s).2≠0):plainB (firstB s).1=true∧framed (firstB s).1=s.take (firstB s).2∧(firstB s).2=(framed (firstB s).1).length:=by
 have hl:=lineN_le s
 unfold firstB at h⊢
 dsimp only at h⊢
 split at h
 ·exact absurd rfl h
 ·rename_i hno
  rw[if_neg hno]at⊢
  split at h
  ·rename_i a b c rest heq
   split at h
   ·rename_i hc
    simp only[Bool.and_eq_true,decide_eq_true_eq]at hc
    simp only[hc,decide_true,Bool.and_self,if_true]
    refine⟨trivial,trivial,?_⟩
    simp;omega
   ·exact absurd rfl h
  ·exact absurd rfl h
def cat (ts:List Bs):Bs:=(ts.map framed).flatten
theorem cat_cons (t:Bs) (ts:List Bs):cat (t::ts)=framed t++cat ts:=by simp[cat]
theorem cat_snoc (ts:List Bs) (t:Bs):cat (ts++[t])=cat ts++framed t:=by simp[cat]
theorem framed_pos (t:Bs):0<(framed t).length:=by rw[framed_len];omega
theorem framesN_cat (ts:List Bs) (r:Bs) (hp:∀t∈ts,plainB t=true) (k:Nat) (hk:ts.length≤k) (hr:k=ts.length∨(firstB r).2=0):framesN k (cat ts++r)=(ts,(cat ts).length):=by
 induction ts generalizing k with
 |nil=>
  cases k with
  |zero=>simp[framesN,cat]
  |succ k=>
   have h0:(firstB r).2=0:=by
    rcases hr with h|h
    ·simp at h
    ·exact h
   rw[framesN]
   simp[cat,h0]
 |cons t ts ih=>
  cases k with
  |zero=>simp at hk
  |succ k=>
   have ht:=firstB_yes (hp t (by simp)) (cat ts++r)
   have hpos:=framed_pos t
   rw[framesN,cat_cons,List.append_assoc,ht]
   have hne:¬(framed t).length=0:=by omega
   simp only[hne,if_false,List.drop_left]
   rw[ih (fun x hx=>hp x (by simp[hx])) k (by simpa using hk) (by rcases hr with h|h;exact .inl (by simpa using h);exact .inr h)]
   simp
theorem framesN_sound (k:Nat):∀s:Bs,(∀t∈(framesN k s).1,plainB t=true)∧s.take (framesN k s).2=cat (framesN k s).1∧(framesN k s).2=(cat (framesN k s).1).length∧(framesN k s).1.length≤k:=by
 induction k with
 |zero=>intro s;simp[framesN,cat]
 |succ k ih=>
  intro s
  rw[framesN]
  by_cases h:(firstB s).2=0
  ·simp[h,cat]
  ·obtain⟨h1,h2,h3⟩:=firstB_sound s h
   obtain⟨i1,i2,i3,i4⟩:=ih (s.drop (firstB s).2)
   simp only[h,if_false]
   refine⟨fun t ht=>?_,?_,?_,?_⟩
   ·rcases List.mem_cons.1 ht with rfl|ht
    ·exact h1
    ·exact i1 t ht
   ·rw[cat_cons,List.take_add,i2,←h2]
   ·rw[cat_cons,List.length_append,←i3,←h3]
   ·simp;omega
theorem framesB_sound (s:Bs):(∀t∈(framesB s).1,plainB t=true)∧s.take (framesB s).2=cat (framesB s).1∧(framesB s).2=(cat (framesB s).1).length∧(framesB s).1.length≤2000:=framesN_sound 2000 s
theorem framesB_le (s:Bs):(framesB s).2≤s.length:=by
 obtain⟨_,h2,h3,_⟩:=framesB_sound s
 have:=congrArg List.length h2
 rw[List.length_take]at this
 omega
theorem firstB_line {q:Bs} (h:q.all (fun b=>b !=10)=true):(firstB q).2=0:=by
 have:lineN q=q.length:=lineN_end q (by rw[List.take_length];exact h)
 simp[firstB,this]
end Go.Proofs.YthmnmaemnihkeaaDoor
