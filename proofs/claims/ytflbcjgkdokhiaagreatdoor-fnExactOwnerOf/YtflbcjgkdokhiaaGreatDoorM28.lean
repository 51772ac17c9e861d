/- What Go's library lays and answers: its table of powers of ten, numbers written, a byte looked for. -/
import Derived.Test.YtflbcjgkdokhiaaGreatDoorM9
import Derived.Test.YtflbcjgkdokhiaaGreatDoorM27
import Derived.Lib.AppendIntMem
import Derived.Test.YtflbcjgkdokhiaaGreatDoorM7
import Derived.Deep.RegionHeld3
namespace Go.Proofs.YtflbcjgkdokhiaaGreatDoor
open Go.ChangeShapes Go.WideShapes Go.ChangeAt Go.RowKit
abbrev Tab (w:World):Prop:=Lib.TabIs Tryz.prog w "internal/strconv.uint64pow10" .u64 Lib.pow10Tab
theorem Tab.below {w w':World} (h:Tab w) (b:Below w.heap.size w w'):Tab w':=Lib.tabBelow_of_tabIs h w' b
theorem below_grow (w:World) (k:Nat) (os:Array Obj):Below w.heap.size w (Sort.grow (w.drewN k) os):=
 ⟨rfl,rfl,rfl,by simp[Sort.grow],fun j hj=>by
  show(w.heap++os)[j]?=w.heap[j]?
  rw[Array.getElem?_append_left hj]⟩
theorem digits_dec (n:Nat):Lib.decDigits n=dec n:=by
 induction n using Nat.strongRecOn with
 |ind n ih=>
  rw[Lib.decDigits,dec]
  by_cases h:n<10
  ·simp[h,digit,Nat.mod_eq_of_lt h]
  ·simp only[h,dite_false,if_false]
   rw[ih (n/10) (by omega)]
   rfl
theorem itoa_dec (n:Nat):Lib.itoa (n:Int)=dec n:=by
 unfold Lib.itoa
 rw[if_neg (by omega),digits_dec]
 rfl
theorem index_pos (c:UInt8) (l:Bs):Lib.indexByte l c=if posB c l=l.length then-1 else(posB c l:Int):=by
 induction l with
 |nil=>simp[Lib.indexByte,posB]
 |cons b l ih=>
  rw[Lib.indexByte,posB_cons,ih]
  by_cases h:b=c
  ·simp[h]
  ·have h1:(b==c)=false:=by simpa using h
   rw[h1,if_neg h]
   by_cases h2:posB c l=l.length
   ·simp[h2]
   ·have h3:((posB c l:Int)== -1)=false:=by simp
    simp[h2,h3]
theorem contains_is (c:UInt8) (l:Bs):decide (0≤Lib.indexByte l c)= !(l.all (fun b=>b !=c)):=by
 rw[index_pos]
 by_cases h:posB c l=l.length
 ·rw[if_pos h,(posB_all c l).1 h];rfl
 ·have h2:l.all (fun b=>b !=c)=false:=by
   cases e:l.all (fun b=>b !=c)with
   |true=>exact absurd ((posB_all c l).2 e) h
   |false=>rfl
  rw[if_neg h,h2]
  simp
end Go.Proofs.YtflbcjgkdokhiaaGreatDoor
set_option maxRecDepth 20000
set_option maxHeartbeats 1000000
namespace Go.Proofs.YtflbcjgkdokhiaaGreatDoor
open Go.ChangeShapes Go.WideShapes Go.ChangeAt Go.RowKit
theorem iframed_any (l:Bs) (w:World) (hl:l.length≤1048576) (ht:Tab w):
  Calls Tryz.prog 141 #[S l] w fun e w'=>e=.returned (S (framedS l))∧Below w.heap.size w w':=by
 have hsz:(⟨l.toArray⟩:ByteArray).size=l.length:=rfl
 by_cases h300:(300:Int)<(l.length:Int)
 ·have HF:Hid (framedS l=[]):=by
   have:¬l.length≤300:=by omega
   simp[Hid,framedS,plainB,this]
  unfold S
  go_enter Tryz.func141,Tryz.ntmps141
  go_wp2_with fail
  go_ret
  rw[HF.out]
  exact⟨rfl,Below.refl _ _⟩
 ·have c0:Calls Tryz.prog 147 #[.string ⟨l.toArray⟩,.string ⟨#[10]⟩] w fun e w'=>e=.returned (.bool (!(l.all (fun b=>b !=10))))∧w'=w:=by
   have:=Tryz.strings_Contains_one ⟨l.toArray⟩ 10 w
   rwa[show(⟨l.toArray⟩:ByteArray).data.toList=l from rfl,contains_is]at this
  by_cases hp:l.all (fun b=>b !=10)=true
  ·rw[hp]at c0
   have HF:Hid (framedS l=dec l.length++[32]++dec (chk l).toNat++[32]++l++[10]):=by
    have:l.length≤300:=by omega
    simp[Hid,framedS,plainB,hp,this,framed]
   have hb:=chk_bd l
   have c1:=fun wx (h:Tab wx)=>Tryz.strconv_Itoa (l.length:Nat) (by omega) (by omega) wx h
   have c2:=fun wx=>icheck_any l wx hl
   have c3:=fun wx (h:Tab wx)=>Tryz.strconv_FormatInt_10 (chk l) (by omega) (by omega) wx h
   have e3:Lib.itoa (chk l)=dec (chk l).toNat:=by have h:=itoa_dec (chk l).toNat;rwa[chk_cast]at h
   simp only[itoa_dec]at c1
   simp only[e3]at c3
   have d1:=dec_len 13 l.length (by omega)
   have d2:=dec_len 5 (chk l).toNat (by omega)
   obtain⟨x,hx⟩:∃x,x=chk l:=⟨_,rfl⟩
   obtain⟨p,hpp⟩:∃p,p=dec l.length:=⟨_,rfl⟩
   obtain⟨q,hq⟩:∃q,q=dec (chk l).toNat:=⟨_,rfl⟩
   simp only[←hpp]at c1 d1 HF
   simp only[←hq]at c3 d2 HF
   simp only[←hx]at c2 c3
   have HT:Hid (Tab w):=ht
   clear hpp hq hx e3 hb hp ht
   unfold S at c2⊢
   go_enter Tryz.func141,Tryz.ntmps141
   go_wp2_with fail
   refine c0.mono ?_
   rintro e w' ⟨rfl,hw⟩;subst w'
   clear c0
   go_wp2_with fail
   refine(c1 w HT.out).mono ?_
   rintro e w1 ⟨rfl,k1,o1,hw1⟩
   have HB:Hid (Below w.heap.size w w1):=by rw[hw1];exact below_grow w k1 o1
   clear hw1 c1
   go_wp2_with fail
   refine(c2 w1).mono ?_
   rintro e w' ⟨rfl,hw⟩;subst w'
   clear c2
   go_wp2_with fail
   refine(c3 w1 (HT.out.below HB.out)).mono ?_
   rintro e w2 ⟨rfl,k2,o2,hw2⟩
   have HC:Hid (Below w.heap.size w w2):=HB.out.trans (by rw[hw2];exact(below_grow w1 k2 o2).mono HB.out.size)
   clear hw2 c3 HB
   go_wp2_with fail
   go_ret
   refine⟨congrArg (fun x=>Ending.returned (Value.string x)) ?_,HC.out⟩
   rw[HF.out,app,app,app,app,app]
  ·have hp':l.all (fun b=>b !=10)=false:=by simpa using hp
   rw[hp']at c0
   have HF:Hid (framedS l=[]):=by simp[Hid,framedS,plainB,hp']
   clear hp hp' ht
   unfold S
   go_enter Tryz.func141,Tryz.ntmps141
   go_wp2_with fail
   refine c0.mono ?_
   rintro e w' ⟨rfl,hw⟩;subst w'
   clear c0
   go_wp2_with fail
   go_ret
   rw[HF.out]
   exact⟨rfl,Below.refl _ _⟩
end Go.Proofs.YtflbcjgkdokhiaaGreatDoor
set_option maxRecDepth 20000
set_option maxHeartbeats 2000000
namespace Go.Proofs.YtflbcjgkdokhiaaGreatDoor
open Go.ChangeShapes Go.WideShapes Go.ChangeAt Go.RowKit
def hasC (c:UInt8) (l:Bs):Bool:=decide (posB c l<l.length)
theorem behind_miss {c:UInt8} {l:Bs} (h:posB c l=l.length):behind c l=[]∧before c l=l∧hasC c l=false:=by
 simp[behind,before,hasC,h]
theorem posB_app (c:UInt8) (a r:Bs) (h:∀b∈a,b≠c):posB c (a++c::r)=a.length:=by
 induction a with
 |nil=>simp[posB]
 |cons b a ih=>
  rw[List.cons_append,posB_cons,if_neg (h b (by simp)),ih (fun x hx=>h x (by simp[hx]))]
  rfl
theorem behind_app (c:UInt8) (a r:Bs) (h:∀b∈a,b≠c):behind c (a++c::r)=r:=by
 unfold behind
 rw[posB_app c a r h,←List.drop_drop,List.drop_left]
 rfl
theorem lcut_any (c:UInt8) (l:Bs) (w:World) (hl:l.length≤1048576):
  Calls Tryz.prog 142 #[S l,.string ⟨#[c]⟩] w fun e w'=>e=.returned (.tuple #[S (before c l),S (behind c l),.bool (hasC c l)])∧∃n,w'=w.drewN n:=by
 have hsz:(⟨l.toArray⟩:ByteArray).size=l.length:=rfl
 have hs1:(⟨#[c]⟩:ByteArray).size=1:=rfl
 have hle:=posB_le c l
 have c0:=Tryz.stringslite_Index_one ⟨l.toArray⟩ c w
 rw[show(⟨l.toArray⟩:ByteArray).data.toList=l from rfl,index_pos]at c0
 by_cases h:posB c l=l.length
 ·obtain⟨h1,h2,h3⟩:=behind_miss h
  rw[if_pos h]at c0
  rw[h1,h2,h3]
  unfold S
  clear h1 h2 h3
  go_enter Tryz.func142,Tryz.ntmps142
  go_wp2_with fail
  refine c0.mono ?_
  rintro e w' ⟨rfl,hw⟩;subst w'
  clear c0
  go_wp2_with fail
  go_ret3
  exact⟨rfl,0,rfl⟩
 ·rw[if_neg h]at c0
  have h3:hasC c l=true:=by simp[hasC];omega
  have hex1:=extract_cut l 0 (posB c l)
  have hex2:=extract_cut l (posB c l+1) l.length
  have e1:cutB l 0 (posB c l)=before c l:=by simp[cutB,before]
  have e2:cutB l (posB c l+1) l.length=behind c l:=by simp[cutB,behind]
  rw[e1]at hex1
  rw[e2]at hex2
  rw[h3]
  obtain⟨p,hp⟩:∃p,p=posB c l:=⟨_,rfl⟩
  obtain⟨x,hx⟩:∃x,x=before c l:=⟨_,rfl⟩
  obtain⟨y,hy⟩:∃y,y=behind c l:=⟨_,rfl⟩
  rw[←hx]at hex1⊢
  rw[←hy]at hex2⊢
  rw[←hp]at c0 hex1 hex2 h hle
  have hlt:(p:Int)+1≤(l.length:Int):=by omega
  clear hp hx hy e1 e2 h3
  unfold S
  go_enter Tryz.func142,Tryz.ntmps142
  go_wp2_with fail
  refine c0.mono ?_
  rintro e w' ⟨rfl,hw⟩;subst w'
  clear c0
  go_wp2_with fail
  go_quiet (fail)
  go_wp2_with fail
  go_ret3
  exact⟨rfl,nq,rfl⟩
theorem icut_any (c:UInt8) (l:Bs) (w:World) (hl:l.length≤1048576):
  Calls Tryz.prog 129 #[S l,.string ⟨#[c]⟩] w fun e w'=>e=.returned (.tuple #[S (before c l),S (behind c l),.bool (hasC c l)])∧∃n,w'=w.drewN n:=by
 have c0:=lcut_any c l w hl
 go_enter Tryz.func129,Tryz.ntmps129
 go_wp2_with fail
 refine c0.mono ?_
 rintro e w1 ⟨rfl,hw⟩
 clear c0
 go_wp2_with fail
 go_ret3
 exact⟨rfl,hw⟩
def textB (s:Bs):Bs:=behind 32 (behind 32 (before 10 s))
theorem before_len {c:UInt8} {l:Bs}:(before c l).length=posB c l:=by
 have:=posB_le c l
 simp[before];omega
theorem behind_len (c:UInt8) (l:Bs):(behind c l).length≤l.length:=by simp[behind]
theorem textB_framed {t:Bs} (h:plainB t=true) (r:Bs):textB (framed t++r)=t:=by
 have h1:before 10 (framed t++r)=body t:=by
  have hb:∀b∈body t,b≠10:=by
   intro b hb
   have:=body_ne h
   rw[List.all_eq_true]at this
   simpa using this b hb
  unfold before
  rw[framed_body,List.append_assoc,List.singleton_append,posB_app 10 _ _ hb,List.take_left]
 unfold textB
 rw[h1]
 unfold body
 rw[behind_app 32 _ _ (fun b hb=>(dec_ne _ b hb).2),behind_app 32 _ _ (fun b hb=>(dec_ne _ b hb).2)]
theorem firstB_end {s:Bs} (h:posB 10 s=s.length):firstB s=([],0):=by
 have:lineN s=s.length:=h
 simp[firstB,this]
theorem firstB_hit {s:Bs} (h:posB 10 s<s.length) (e:framedS (textB s)=s.take (posB 10 s+1)):firstB s=(textB s,posB 10 s+1):=by
 have hp:plainB (textB s)=true:=by
  by_cases hp:plainB (textB s)=true
  ·exact hp
  ·have hn:framedS (textB s)=[]:=by simp[framedS,hp]
   rw[hn]at e
   have:=congrArg List.length e
   simp at this
   omega
 rw[framedS_yes hp]at e
 have hs:s=framed (textB s)++s.drop (posB 10 s+1):=by rw[e,List.take_append_drop]
 have hl:=congrArg List.length e
 rw[List.length_take,Nat.min_eq_left (by omega)]at hl
 have:=firstB_yes hp (s.drop (posB 10 s+1))
 rw[←hs,hl]at this
 exact this
theorem firstB_not {s:Bs} (e:framedS (textB s)≠s.take (posB 10 s+1)):firstB s=([],0):=by
 by_cases h0:(firstB s).2=0
 ·exact firstB_zero s h0
 ·obtain⟨hp,hf,hn⟩:=firstB_sound s h0
  exfalso
  have hs:s=framed (firstB s).1++s.drop (firstB s).2:=by rw[hf,List.take_append_drop]
  have ht:textB s=(firstB s).1:=by
   have:=textB_framed hp (s.drop (firstB s).2)
   rwa[←hs]at this
  apply e
  rw[ht,framedS_yes hp,hf]
  congr 1
  have hb:∀b∈body (firstB s).1,b≠10:=by
   intro b hb
   have:=body_ne hp
   rw[List.all_eq_true]at this
   simpa using this b hb
  have:posB 10 s=(body (firstB s).1).length:=by
   have:=posB_app 10 _ (s.drop (firstB s).2) hb
   rw[←this]
   congr 1
   rw[hs]
   conv=>rhs;rw[←hs]
   rw[framed_body]
   simp
  rw[this,hn,framed_len]
theorem ifirst_any (s:Bs) (w:World) (hl:s.length≤1048576) (ht:Tab w):
  Calls Tryz.prog 128 #[S s] w fun e w'=>e=.returned (.tuple #[S (firstB s).1,.int .i64 (firstB s).2])∧Below w.heap.size w w':=by
 have hsz:(⟨s.toArray⟩:ByteArray).size=s.length:=rfl
 have hle:=posB_le 10 s
 have hbl:(before 10 s).length=posB 10 s:=before_len
 have c1:=fun wx=>icut_any 10 s wx hl
 have c2:=fun wx=>icut_any 32 (before 10 s) wx (by omega)
 have hb2:=behind_len 32 (before 10 s)
 have c3:=fun wx=>icut_any 32 (behind 32 (before 10 s)) wx (by omega)
 have hb3:=behind_len 32 (behind 32 (before 10 s))
 have HT:Hid (Tab w):=ht
 clear ht
 by_cases h:posB 10 s=s.length
 ·have HE:Hid (firstB s=([],0)):=firstB_end h
  have hh:hasC 10 s=false:=(behind_miss h).2.2
  simp only[hh]at c1
  unfold S at c1⊢
  clear hh c2 c3
  go_enter Tryz.func128,Tryz.ntmps128
  go_wp2_with fail
  refine(c1 w).mono ?_
  rintro e w1 ⟨rfl,n1,hw1⟩
  have HB:Hid (Below w.heap.size w w1):=by rw[hw1];exact below_drewN (Below.refl _ _) _
  clear c1 hw1
  go_wp2_with fail
  go_ret2
  rw[HE.out]
  exact⟨rfl,HB.out⟩
 ·have hh:hasC 10 s=true:=by simp[hasC];omega
  simp only[hh]at c1
  have c4:=fun wx (hx:Tab wx)=>iframed_any (textB s) wx (by unfold textB;omega) hx
  have e4:behind 32 (behind 32 (before 10 s))=textB s:=rfl
  simp only[e4]at c3
  have hex:=extract_cut s 0 (posB 10 s+1)
  have e5:cutB s 0 (posB 10 s+1)=s.take (posB 10 s+1):=by simp[cutB]
  rw[e5]at hex
  have H1:Hid (framedS (textB s)=s.take (posB 10 s+1)→firstB s=(textB s,posB 10 s+1)):=fun e=>firstB_hit (by omega) e
  have H2:Hid (framedS (textB s)≠s.take (posB 10 s+1)→firstB s=([],0)):=fun e=>firstB_not e
  obtain⟨p,hp⟩:∃p,p=posB 10 s:=⟨_,rfl⟩
  obtain⟨t,hte⟩:∃t,t=textB s:=⟨_,rfl⟩
  obtain⟨f,hf⟩:∃f,f=framedS t:=⟨_,rfl⟩
  obtain⟨z,hz⟩:∃z,z=s.take (posB 10 s+1):=⟨_,rfl⟩
  obtain⟨ln,hln⟩:∃ln,ln=before 10 s:=⟨_,rfl⟩
  rw[←hz]at hex H1 H2
  simp only[←hln]at c1 c2 hbl c3
  simp only[←hte]at c3 c4 H1 H2
  simp only[←hf]at c4 H1 H2
  rw[←hp]at hex H1 hbl hle h
  have hzl:(⟨ln.toArray⟩:ByteArray).size=p:=hbl
  have hlt:(p:Int)+1≤(s.length:Int):=by omega
  have hj0:(0:Int)≤(p:Int)+1:=by omega
  have hwr:IntKind.i64.wrap ((p:Int)+1)=(p:Int)+1:=by rw[IntKind.wrap_i64];omega
  unfold S at c1 c2 c3 c4⊢
  clear hh e4 e5 hp hte hf hz hln hb2 hb3 hbl
  go_enter Tryz.func128,Tryz.ntmps128
  go_wp2_with fail
  refine(c1 w).mono ?_
  rintro e w1 ⟨rfl,n1,hw1⟩
  have HB:Hid (Below w.heap.size w w1):=by rw[hw1];exact below_drewN (Below.refl _ _) _
  clear c1 hw1
  go_wp2_with fail
  refine(c2 w1).mono ?_
  rintro e w2 ⟨rfl,n2,hw2⟩
  replace HB:Hid (Below w.heap.size w w2):=by rw[hw2];exact below_drewN HB.out _
  clear c2 hw2
  go_wp2_with fail
  refine(c3 w2).mono ?_
  rintro e w3 ⟨rfl,n3,hw3⟩
  replace HB:Hid (Below w.heap.size w w3):=by rw[hw3];exact below_drewN HB.out _
  clear c3 hw3
  have c5:=c4 (w3.drew) (HT.out.below (below_drewN HB.out 1))
  have HB1:Hid (Below w.heap.size w w3.drew):=below_drewN HB.out 1
  clear c4
  by_cases hf:f=z
  ·have HE:=H1.out hf
   subst hf
   clear H1 H2
   go_wp2_with fail
   go_region_held3 (fun w'=>True) (trivial)
    ((go_at_call 141;refine c5.mono ?_;rintro e w4 ⟨rfl,b4⟩))
   have HB3:Hid (Below w.heap.size w w4):=HB1.out.trans (b4.mono HB1.out.size)
   go_wp2_with fail
   go_ret2
   rw[HE]
   exact⟨rfl,HB3.out⟩
  ·have HE:=H2.out hf
   have hbeq:(f==z)=false:=by simpa using hf
   clear H1 H2
   go_wp2_with fail
   go_region_held3 (fun w'=>True) (trivial)
    ((go_at_call 141;refine c5.mono ?_;rintro e w4 ⟨rfl,b4⟩))
   have HB3:Hid (Below w.heap.size w w4):=HB1.out.trans (b4.mono HB1.out.size)
   go_wp2_with fail
   go_ret2
   rw[HE]
   exact⟨rfl,HB3.out⟩
end Go.Proofs.YtflbcjgkdokhiaaGreatDoor
