/- What Go's library lays and answers: its table of powers of ten, numbers written, a byte looked for. -/
import Derived.Test.YthmnmaemnihkeaaGreatDoorM8
import Derived.Test.YthmnmaemnihkeaaGreatDoorM26
import Derived.Lib.AppendIntMem
import Derived.Test.YthmnmaemnihkeaaGreatDoorM7
import Derived.Deep.RegionHeld3
import Derived.RangeFuncNested
import Derived.RangeFuncBox
import Derived.RangeFuncCalls
import Derived.RangeFuncLeaves
import Derived.Shelf.Abstract
import Derived.OwnWalkIn
import Derived.TacticsInMore
import Derived.LoopNIn
import Derived.LoopIn
import Derived.Maps.OwnIn
import Derived.RegionIn
import Derived.Test.YthmnmaemnihkeaaGreatDoorM11
namespace Go.Proofs.YthmnmaemnihkeaaGreatDoor
open Go.ChangeShapes Go.WideShapes Go.ChangeAt Go.RowKit
abbrev Tab (w:World):Prop:=Lib.TabIs Tryz.prog w "internal/strconv.uint64pow10" .u64 Lib.pow10Tab
theorem Tab.below {w w':World} (h:Tab w) (b:Below w.heap.size w w'):Tab w':=Lib.tabBelow_of_tabIs h w' b
theorem below_grow (w:World) (k:Nat) (os:Array Obj):Below w.heap.size w (Sort.grow (w.drewN k) os):=
 ⟨rfl,rfl,rfl,by simp[Sort.grow],fun j hj=>by
  show(w.heap++os)[j]?=w.heap[j]?
  rw[Array.getElem?_append_left hj]⟩
theorem digits_dec (n:Nat):Lib.decDigits n=dec n:=by
 induction n using Nat.strongRecOn with
 |ind n ih=>
  rw[Lib.decDigits,dec]
  by_cases h:n<10
  ·simp[h,digit,Nat.mod_eq_of_lt h]
  ·simp only[h,dite_false,if_false]
   rw[ih (n/10) (by omega)]
   rfl
theorem itoa_dec (n:Nat):Lib.itoa (n:Int)=dec n:=by
 unfold Lib.itoa
 rw[if_neg (by omega),digits_dec]
 rfl
theorem index_pos (c:UInt8) (l:Bs):Lib.indexByte l c=if posB c l=l.length then-1 else(posB c l:Int):=by
 induction l with
 |nil=>simp[Lib.indexByte,posB]
 |cons b l ih=>
  rw[Lib.indexByte,posB_cons,ih]
  by_cases h:b=c
  ·simp[h]
  ·have h1:(b==c)=false:=by simpa using h
   rw[h1,if_neg h]
   by_cases h2:posB c l=l.length
   ·simp[h2]
   ·have h3:((posB c l:Int)== -1)=false:=by simp
    simp[h2,h3]
theorem contains_is (c:UInt8) (l:Bs):decide (0≤Lib.indexByte l c)= !(l.all (fun b=>b !=c)):=by
 rw[index_pos]
 by_cases h:posB c l=l.length
 ·rw[if_pos h,(posB_all c l).1 h];rfl
 ·have h2:l.all (fun b=>b !=c)=false:=by
   cases e:l.all (fun b=>b !=c)with
   |true=>exact absurd ((posB_all c l).2 e) h
   |false=>rfl
  rw[if_neg h,h2]
  simp
end Go.Proofs.YthmnmaemnihkeaaGreatDoor
set_option maxRecDepth 20000
set_option maxHeartbeats 1000000
namespace Go.Proofs.YthmnmaemnihkeaaGreatDoor
open Go.ChangeShapes Go.WideShapes Go.ChangeAt Go.RowKit
theorem iframed_any (l:Bs) (w:World) (hl:l.length≤1048576) (ht:Tab w):
  Calls Tryz.prog 163 #[S l] w fun e w'=>e=.returned (S (framedS l))∧Below w.heap.size w w':=by
 have hsz:(⟨l.toArray⟩:ByteArray).size=l.length:=rfl
 by_cases h300:(300:Int)<(l.length:Int)
 ·have HF:Hid (framedS l=[]):=by
   have:¬l.length≤300:=by omega
   simp[Hid,framedS,plainB,this]
  unfold S
  go_enter Tryz.func163,Tryz.ntmps163
  go_wp2_with fail
  go_ret
  rw[HF.out]
  exact⟨rfl,Below.refl _ _⟩
 ·have c0:Calls Tryz.prog 169 #[.string ⟨l.toArray⟩,.string ⟨#[10]⟩] w fun e w'=>e=.returned (.bool (!(l.all (fun b=>b !=10))))∧w'=w:=by
   have:=Tryz.strings_Contains_one ⟨l.toArray⟩ 10 w
   rwa[show(⟨l.toArray⟩:ByteArray).data.toList=l from rfl,contains_is]at this
  by_cases hp:l.all (fun b=>b !=10)=true
  ·rw[hp]at c0
   have HF:Hid (framedS l=dec l.length++[32]++dec (chk l).toNat++[32]++l++[10]):=by
    have:l.length≤300:=by omega
    simp[Hid,framedS,plainB,hp,this,framed]
   have hb:=chk_bd l
   have c1:=fun wx (h:Tab wx)=>Tryz.strconv_Itoa (l.length:Nat) (by omega) (by omega) wx h
   have c2:=fun wx=>icheck_any l wx hl
   have c3:=fun wx (h:Tab wx)=>Tryz.strconv_FormatInt_10 (chk l) (by omega) (by omega) wx h
   have e3:Lib.itoa (chk l)=dec (chk l).toNat:=by have h:=itoa_dec (chk l).toNat;rwa[chk_cast]at h
   simp only[itoa_dec]at c1
   simp only[e3]at c3
   have d1:=dec_len 13 l.length (by omega)
   have d2:=dec_len 5 (chk l).toNat (by omega)
   obtain⟨x,hx⟩:∃x,x=chk l:=⟨_,rfl⟩
   obtain⟨p,hpp⟩:∃p,p=dec l.length:=⟨_,rfl⟩
   obtain⟨q,hq⟩:∃q,q=dec (chk l).toNat:=⟨_,rfl⟩
   simp only[←hpp]at c1 d1 HF
   simp only[←hq]at c3 d2 HF
   simp only[←hx]at c2 c3
   have HT:Hid (Tab w):=ht
   clear hpp hq hx e3 hb hp ht
   unfold S at c2⊢
   go_enter Tryz.func163,Tryz.ntmps163
   go_wp2_with fail
   refine c0.mono ?_
   rintro e w' ⟨rfl,hw⟩;subst w'
   clear c0
   go_wp2_with fail
   refine(c1 w HT.out).mono ?_
   rintro e w1 ⟨rfl,k1,o1,hw1⟩
   have HB:Hid (Below w.heap.size w w1):=by rw[hw1];exact below_grow w k1 o1
   clear hw1 c1
   go_wp2_with fail
   refine(c2 w1).mono ?_
   rintro e w' ⟨rfl,hw⟩;subst w'
   clear c2
   go_wp2_with fail
   refine(c3 w1 (HT.out.below HB.out)).mono ?_
   rintro e w2 ⟨rfl,k2,o2,hw2⟩
   have HC:Hid (Below w.heap.size w w2):=HB.out.trans (by rw[hw2];exact(below_grow w1 k2 o2).mono HB.out.size)
   clear hw2 c3 HB
   go_wp2_with fail
   go_ret
   refine⟨congrArg (fun x=>Ending.returned (Value.string x)) ?_,HC.out⟩
   rw[HF.out,app,app,app,app,app]
  ·have hp':l.all (fun b=>b !=10)=false:=by simpa using hp
   rw[hp']at c0
   have HF:Hid (framedS l=[]):=by simp[Hid,framedS,plainB,hp']
   clear hp hp' ht
   unfold S
   go_enter Tryz.func163,Tryz.ntmps163
   go_wp2_with fail
   refine c0.mono ?_
   rintro e w' ⟨rfl,hw⟩;subst w'
   clear c0
   go_wp2_with fail
   go_ret
   rw[HF.out]
   exact⟨rfl,Below.refl _ _⟩
end Go.Proofs.YthmnmaemnihkeaaGreatDoor
set_option maxRecDepth 20000
set_option maxHeartbeats 2000000
namespace Go.Proofs.YthmnmaemnihkeaaGreatDoor
open Go.ChangeShapes Go.WideShapes Go.ChangeAt Go.RowKit
def hasC (c:UInt8) (l:Bs):Bool:=decide (posB c l<l.length)
theorem behind_miss {c:UInt8} {l:Bs} (h:posB c l=l.length):behind c l=[]∧before c l=l∧hasC c l=false:=by
 simp[behind,before,hasC,h]
theorem posB_app (c:UInt8) (a r:Bs) (h:∀b∈a,b≠c):posB c (a++c::r)=a.length:=by
 induction a with
 |nil=>simp[posB]
 |cons b a ih=>
  rw[List.cons_append,posB_cons,if_neg (h b (by simp)),ih (fun x hx=>h x (by simp[hx]))]
  rfl
theorem behind_app (c:UInt8) (a r:Bs) (h:∀b∈a,b≠c):behind c (a++c::r)=r:=by
 unfold behind
 rw[posB_app c a r h,←List.drop_drop,List.drop_left]
 rfl
theorem lcut_any (c:UInt8) (l:Bs) (w:World) (hl:l.length≤1048576):
  Calls Tryz.prog 164 #[S l,.string ⟨#[c]⟩] w fun e w'=>e=.returned (.tuple #[S (before c l),S (behind c l),.bool (hasC c l)])∧∃n,w'=w.drewN n:=by
 have hsz:(⟨l.toArray⟩:ByteArray).size=l.length:=rfl
 have hs1:(⟨#[c]⟩:ByteArray).size=1:=rfl
 have hle:=posB_le c l
 have c0:=Tryz.stringslite_Index_one ⟨l.toArray⟩ c w
 rw[show(⟨l.toArray⟩:ByteArray).data.toList=l from rfl,index_pos]at c0
 by_cases h:posB c l=l.length
 ·obtain⟨h1,h2,h3⟩:=behind_miss h
  rw[if_pos h]at c0
  rw[h1,h2,h3]
  unfold S
  clear h1 h2 h3
  go_enter Tryz.func164,Tryz.ntmps164
  go_wp2_with fail
  refine c0.mono ?_
  rintro e w' ⟨rfl,hw⟩;subst w'
  clear c0
  go_wp2_with fail
  go_ret3
  exact⟨rfl,0,rfl⟩
 ·rw[if_neg h]at c0
  have h3:hasC c l=true:=by simp[hasC];omega
  have hex1:=extract_cut l 0 (posB c l)
  have hex2:=extract_cut l (posB c l+1) l.length
  have e1:cutB l 0 (posB c l)=before c l:=by simp[cutB,before]
  have e2:cutB l (posB c l+1) l.length=behind c l:=by simp[cutB,behind]
  rw[e1]at hex1
  rw[e2]at hex2
  rw[h3]
  obtain⟨p,hp⟩:∃p,p=posB c l:=⟨_,rfl⟩
  obtain⟨x,hx⟩:∃x,x=before c l:=⟨_,rfl⟩
  obtain⟨y,hy⟩:∃y,y=behind c l:=⟨_,rfl⟩
  rw[←hx]at hex1⊢
  rw[←hy]at hex2⊢
  rw[←hp]at c0 hex1 hex2 h hle
  have hlt:(p:Int)+1≤(l.length:Int):=by omega
  clear hp hx hy e1 e2 h3
  unfold S
  go_enter Tryz.func164,Tryz.ntmps164
  go_wp2_with fail
  refine c0.mono ?_
  rintro e w' ⟨rfl,hw⟩;subst w'
  clear c0
  go_wp2_with fail
  go_quiet (fail)
  go_wp2_with fail
  go_ret3
  exact⟨rfl,nq,rfl⟩
theorem icut_any (c:UInt8) (l:Bs) (w:World) (hl:l.length≤1048576):
  Calls Tryz.prog 151 #[S l,.string ⟨#[c]⟩] w fun e w'=>e=.returned (.tuple #[S (before c l),S (behind c l),.bool (hasC c l)])∧∃n,w'=w.drewN n:=by
 have c0:=lcut_any c l w hl
 go_enter Tryz.func151,Tryz.ntmps151
 go_wp2_with fail
 refine c0.mono ?_
 rintro e w1 ⟨rfl,hw⟩
 clear c0
 go_wp2_with fail
 go_ret3
 exact⟨rfl,hw⟩
def textB (s:Bs):Bs:=behind 32 (behind 32 (before 10 s))
theorem before_len {c:UInt8} {l:Bs}:(before c l).length=posB c l:=by
 have:=posB_le c l
 simp[before];omega
theorem behind_len (c:UInt8) (l:Bs):(behind c l).length≤l.length:=by simp[behind]
theorem textB_framed {t:Bs} (h:plainB t=true) (r:Bs):textB (framed t++r)=t:=by
 have h1:before 10 (framed t++r)=body t:=by
  have hb:∀b∈body t,b≠10:=by
   intro b hb
   have:=body_ne h
   rw[List.all_eq_true]at this
   simpa using this b hb
  unfold before
  rw[framed_body,List.append_assoc,List.singleton_append,posB_app 10 _ _ hb,List.take_left]
 unfold textB
 rw[h1]
 unfold body
 rw[behind_app 32 _ _ (fun b hb=>(dec_ne _ b hb).2),behind_app 32 _ _ (fun b hb=>(dec_ne _ b hb).2)]
theorem firstB_end {s:Bs} (h:posB 10 s=s.length):firstB s=([],0):=by
 have:lineN s=s.length:=h
 simp[firstB,this]
theorem firstB_hit {s:Bs} (h:posB 10 s<s.length) (e:framedS (textB s)=s.take (posB 10 s+1)):firstB s=(textB s,posB 10 s+1):=by
 have hp:plainB (textB s)=true:=by
  by_cases hp:plainB (textB s)=true
  ·exact hp
  ·have hn:framedS (textB s)=[]:=by simp[framedS,hp]
   rw[hn]at e
   have:=congrArg List.length e
   simp at this
   omega
 rw[framedS_yes hp]at e
 have hs:s=framed (textB s)++s.drop (posB 10 s+1):=by rw[e,List.take_append_drop]
 have hl:=congrArg List.length e
 rw[List.length_take,Nat.min_eq_left (by omega)]at hl
 have:=firstB_yes hp (s.drop (posB 10 s+1))
 rw[←hs,hl]at this
 exact this
theorem firstB_not {s:Bs} (e:framedS (textB s)≠s.take (posB 10 s+1)):firstB s=([],0):=by
 by_cases h0:(firstB s).2=0
 ·exact firstB_zero s h0
 ·obtain⟨hp,hf,hn⟩:=firstB_sound s h0
  exfalso
  have hs:s=framed (firstB s).1++s.drop (firstB s).2:=by rw[hf,List.take_append_drop]
  have ht:textB s=(firstB s).1:=by
   have:=textB_framed hp (s.drop (firstB s).2)
   rwa[←hs]at this
  apply e
  rw[ht,framedS_yes hp,hf]
  congr 1
  have hb:∀b∈body (firstB s).1,b≠10:=by
   intro b hb
   have:=body_ne hp
   rw[List.all_eq_true]at this
   simpa using this b hb
  have:posB 10 s=(body (firstB s).1).length:=by
   have:=posB_app 10 _ (s.drop (firstB s).2) hb
   rw[←this]
   congr 1
   rw[hs]
   conv=>rhs;rw[←hs]
   rw[framed_body]
   simp
  rw[this,hn,framed_len]
theorem ifirst_any (s:Bs) (w:World) (hl:s.length≤1048576) (ht:Tab w):
  Calls Tryz.prog 150 #[S s] w fun e w'=>e=.returned (.tuple #[S (firstB s).1,.int .i64 (firstB s).2])∧Below w.heap.size w w':=by
 have hsz:(⟨s.toArray⟩:ByteArray).size=s.length:=rfl
 have hle:=posB_le 10 s
 have hbl:(before 10 s).length=posB 10 s:=before_len
 have c1:=fun wx=>icut_any 10 s wx hl
 have c2:=fun wx=>icut_any 32 (before 10 s) wx (by omega)
 have hb2:=behind_len 32 (before 10 s)
 have c3:=fun wx=>icut_any 32 (behind 32 (before 10 s)) wx (by omega)
 have hb3:=behind_len 32 (behind 32 (before 10 s))
 have HT:Hid (Tab w):=ht
 clear ht
 by_cases h:posB 10 s=s.length
 ·have HE:Hid (firstB s=([],0)):=firstB_end h
  have hh:hasC 10 s=false:=(behind_miss h).2.2
  simp only[hh]at c1
  unfold S at c1⊢
  clear hh c2 c3
  go_enter Tryz.func150,Tryz.ntmps150
  go_wp2_with fail
  refine(c1 w).mono ?_
  rintro e w1 ⟨rfl,n1,hw1⟩
  have HB:Hid (Below w.heap.size w w1):=by rw[hw1];exact below_drewN (Below.refl _ _) _
  clear c1 hw1
  go_wp2_with fail
  go_ret2
  rw[HE.out]
  exact⟨rfl,HB.out⟩
 ·have hh:hasC 10 s=true:=by simp[hasC];omega
  simp only[hh]at c1
  have c4:=fun wx (hx:Tab wx)=>iframed_any (textB s) wx (by unfold textB;omega) hx
  have e4:behind 32 (behind 32 (before 10 s))=textB s:=rfl
  simp only[e4]at c3
  have hex:=extract_cut s 0 (posB 10 s+1)
  have e5:cutB s 0 (posB 10 s+1)=s.take (posB 10 s+1):=by simp[cutB]
  rw[e5]at hex
  have H1:Hid (framedS (textB s)=s.take (posB 10 s+1)→firstB s=(textB s,posB 10 s+1)):=fun e=>firstB_hit (by omega) e
  have H2:Hid (framedS (textB s)≠s.take (posB 10 s+1)→firstB s=([],0)):=fun e=>firstB_not e
  obtain⟨p,hp⟩:∃p,p=posB 10 s:=⟨_,rfl⟩
  obtain⟨t,hte⟩:∃t,t=textB s:=⟨_,rfl⟩
  obtain⟨f,hf⟩:∃f,f=framedS t:=⟨_,rfl⟩
  obtain⟨z,hz⟩:∃z,z=s.take (posB 10 s+1):=⟨_,rfl⟩
  obtain⟨ln,hln⟩:∃ln,ln=before 10 s:=⟨_,rfl⟩
  rw[←hz]at hex H1 H2
  simp only[←hln]at c1 c2 hbl c3
  simp only[←hte]at c3 c4 H1 H2
  simp only[←hf]at c4 H1 H2
  rw[←hp]at hex H1 hbl hle h
  have hzl:(⟨ln.toArray⟩:ByteArray).size=p:=hbl
  have hlt:(p:Int)+1≤(s.length:Int):=by omega
  have hj0:(0:Int)≤(p:Int)+1:=by omega
  have hwr:IntKind.i64.wrap ((p:Int)+1)=(p:Int)+1:=by rw[IntKind.wrap_i64];omega
  unfold S at c1 c2 c3 c4⊢
  clear hh e4 e5 hp hte hf hz hln hb2 hb3 hbl
  go_enter Tryz.func150,Tryz.ntmps150
  go_wp2_with fail
  refine(c1 w).mono ?_
  rintro e w1 ⟨rfl,n1,hw1⟩
  have HB:Hid (Below w.heap.size w w1):=by rw[hw1];exact below_drewN (Below.refl _ _) _
  clear c1 hw1
  go_wp2_with fail
  refine(c2 w1).mono ?_
  rintro e w2 ⟨rfl,n2,hw2⟩
  replace HB:Hid (Below w.heap.size w w2):=by rw[hw2];exact below_drewN HB.out _
  clear c2 hw2
  go_wp2_with fail
  refine(c3 w2).mono ?_
  rintro e w3 ⟨rfl,n3,hw3⟩
  replace HB:Hid (Below w.heap.size w w3):=by rw[hw3];exact below_drewN HB.out _
  clear c3 hw3
  have c5:=c4 (w3.drew) (HT.out.below (below_drewN HB.out 1))
  have HB1:Hid (Below w.heap.size w w3.drew):=below_drewN HB.out 1
  clear c4
  by_cases hf:f=z
  ·have HE:=H1.out hf
   subst hf
   clear H1 H2
   go_wp2_with fail
   go_region_held3 (fun w'=>True) (trivial)
    ((go_at_call 163;refine c5.mono ?_;rintro e w4 ⟨rfl,b4⟩))
   have HB3:Hid (Below w.heap.size w w4):=HB1.out.trans (b4.mono HB1.out.size)
   go_wp2_with fail
   go_ret2
   rw[HE]
   exact⟨rfl,HB3.out⟩
  ·have HE:=H2.out hf
   have hbeq:(f==z)=false:=by simpa using hf
   clear H1 H2
   go_wp2_with fail
   go_region_held3 (fun w'=>True) (trivial)
    ((go_at_call 163;refine c5.mono ?_;rintro e w4 ⟨rfl,b4⟩))
   have HB3:Hid (Below w.heap.size w w4):=HB1.out.trans (b4.mono HB1.out.size)
   go_wp2_with fail
   go_ret2
   rw[HE]
   exact⟨rfl,HB3.out⟩
end Go.Proofs.YthmnmaemnihkeaaGreatDoor
set_option maxRecDepth 100000
set_option maxHeartbeats 2000000
namespace Go.Proofs.YthmnmaemnihkeaaGreatDoor
open Go.ChangeShapes Go.WideShapes Go.ChangeAt Go.RowKit
attribute [local go_sem] Oper.semAt_some
def Keep (Bn n0:Nat) (W W':World):Prop:=(∀v,W.cell? ⟨Bn,0,none⟩=some v→W'.cell? ⟨Bn,0,none⟩=some v)∧Below n0 W W'
theorem Keep.trans {Bn n0:Nat} {A B C:World} (h:Keep Bn n0 A B) (k:Keep Bn n0 B C):Keep Bn n0 A C:=⟨fun v hv=>k.1 v (h.1 v hv),h.2.trans k.2⟩
theorem Keep.book {Bn n0:Nat} {w:World} (hn:n0≤w.heap.size) (W:World) (l:Nat) (o o':Obj) (hl:w.heap.size≤l) (h:W.heap[l]?=some o) (h1:o.isCells=false) (h2:o.isWalk=false):Keep Bn n0 W (W.putObj l o'):=
 ⟨fun v hv=>cell_kept hv (grownBy_putObj' W l o') (fun r e=>by cases e;exact⟨o,h,h1⟩),belowK_b hn W l o o' hl h h1 h2⟩
theorem grown_of_below {w w':World} (h:Below w.heap.size w w') (row:Option Nat):w.grownBy w' row:=⟨h.os,h.tape,h.output,h.size,fun k hk _=>h.block k hk⟩
theorem iclone_any (l:Bs) (w:World) (hl:l.length≤1048576):
  Calls Tryz.prog 141 #[S l] w fun e w'=>e=.returned (S l)∧Below w.heap.size w w':=by
 have hsz:(⟨l.toArray⟩:ByteArray).size=l.length:=rfl
 have c0:=Tryz.stringslite_Clone ⟨l.toArray⟩ w (by omega)
 unfold S
 go_enter Tryz.func141,Tryz.ntmps141
 go_wp2_with fail
 refine c0.mono ?_
 rintro e w1 ⟨rfl,b1⟩
 clear c0
 go_wp2_with fail
 go_ret
 exact⟨rfl,b1⟩
theorem iter_in (n:Nat) (hn:1≤n) (l Bn n0:Nat) (s:Bs) (hl:s.length≤1048576) (J Jx:List (Bs×Nat)→World→Prop)
  (W:World) (hJ:AbidesFrom W.heap.size J) (hBn:W.cell? ⟨Bn,0,none⟩=some (S s)) (ht:∀W',Below n0 W W'→Tab W') (hn0:n0≤W.heap.size)
  (hY:∀pre x W1,J pre W1→pre.length<(wholeE s).length→x.1.length≤1048576→x.2≤1048576→YieldAt Fence.wide (n-1) Tryz.prog l #[S x.1,.int .i64 (x.2:Nat)] W1 fun e W'=>
   (e=.returned (.bool true)∧J (pre++[x]) W'∧Keep Bn n0 W1 W')∨(e=.returned (.bool false)∧Jx (pre++[x]) W')) (h0:J [] W):
  CallsIn Fence.wide n Tryz.prog 149 #[.func (.yield l) #[] #[],.pointer (some ⟨Bn,0,none⟩)] W fun e W'=>(∃v,e=.returned v)∧
   ((∃ys,ys=wholeE s∧J ys W')∨(∃pre:List (Bs×Nat),True∧Jx pre W')):=by
 have hsz:(⟨s.toArray⟩:ByteArray).size=s.length:=rfl
 refine callsIn_of_wp Tryz.func149 rfl trivial ?_ rfl
 simp only[Tryz.ntmps149,List.size_toArray,List.length_cons,List.length_nil,Nat.reduceAdd,Nat.reduceSub,Array.replicate_succ,Array.replicate_zero,List.push_toArray,List.append_toArray,List.nil_append,List.cons_append]
 gi_wp2
 gi_loopw [3,6] (fun e k wr=>∃(a:Nat) (pre:List (Bs×Nat)),e=.int .i64 a∧k=.int .i64 pre.length∧(a:Int)≤s.length∧(pre.length:Int)≤2000∧Hid (J pre wr∧wr.cell? ⟨Bn,0,none⟩=some (S s)∧Below n0 W wr∧EInv s pre a)) (fun _ k _=>2000-(intOf k).toNat)
 case atStart=>exact⟨0,[],rfl,rfl,by omega,by simp,h0,hBn,Below.refl _ _,EInv.start s⟩
 case round=>
  obtain⟨a,pre,rfl,rfl,ha,hp,HR⟩:=hrel
  by_cases hlt:(pre.length:Int)<2000
  ·have hex:=extract_cut s a s.length
   have e0:cutB s a s.length=s.drop a:=by simp[cutB]
   rw[e0]at hex
   have hc:=HR.out.2.1
   have c1:=ifirst_any (s.drop a) wr (by simp;omega) (ht wr HR.out.2.2.1)
   have hfl:=firstB_le (s.drop a)
   have hdl:(s.drop a).length=s.length-a:=by simp
   have HN:Hid ((firstB (s.drop a)).2≠0→_):=fun h=>HR.out.2.2.2.next (by omega) h
   have HZ:Hid ((firstB (s.drop a)).2=0→_):=fun h=>HR.out.2.2.2.stop (.inl h)
   obtain⟨q,hq⟩:∃q,q=s.drop a:=⟨_,rfl⟩
   rw[←hq]at hex c1 hfl hdl HN HZ
   obtain⟨t,hte⟩:∃t,t=(firstB q).1:=⟨_,rfl⟩
   obtain⟨m,hm⟩:∃m,m=(firstB q).2:=⟨_,rfl⟩
   rw[←hte,←hm]at c1 HN
   rw[←hm]at hfl HZ
   unfold S at c1 hc
   clear e0 hq hm
   gi_wp2_with fail
   refine⟨trivial,(callsIn_wide.2 c1).mono ?_⟩
   rintro e w1 ⟨rfl,b1⟩
   have HR1:Hid (J pre w1∧w1.cell? ⟨Bn,0,none⟩=some (S s)∧Below n0 W w1):=⟨hJ pre wr w1 none HR.out.1 (grown_of_below b1 none) (fun r h=>by cases h),(grown_of_below b1 none).cell HR.out.2.1 (by simp),HR.out.2.2.1.trans (b1.mono (Nat.le_trans hn0 HR.out.2.2.1.size))⟩
   clear b1 c1 hc HR
   by_cases hm0:m=0
   ·subst hm0
    have HF:=HZ.out rfl
    gi_wp2_with fail
    refine bodyPost_ret (results_none rfl _ _ _) rfl ?_
    exact⟨⟨_,rfl⟩,.inl ⟨pre,HF,HR1.out.1⟩⟩
   ·have h0':((m:Int)==0)=false:=by simpa using hm0
    have htl:t.length≤1048576:=by
     have:=firstB_text_len q
     rw[hte];omega
    have c2:=iclone_any t w1 htl
    unfold S at c2
    obtain⟨HI,hlen⟩:=HN.out hm0
    have HI':Hid (EInv s (pre++[(t,a+m)]) (a+m)):=HI
    clear HI HN HZ hte hex
    gi_wp2_with fail
    refine⟨trivial,(callsIn_wide.2 c2).mono ?_⟩
    rintro e w2 ⟨rfl,b2⟩
    have HR2:Hid (J pre w2∧w2.cell? ⟨Bn,0,none⟩=some (S s)∧Below n0 W w2):=⟨hJ pre w1 w2 none HR1.out.1 (grown_of_below b2 none) (fun r h=>by cases h),(grown_of_below b2 none).cell HR1.out.2.1 (by simp),HR1.out.2.2.trans (b2.mono (Nat.le_trans hn0 HR1.out.2.2.size))⟩
    clear b2 c2 HR1
    obtain⟨fn,tmps,assign,body,hy,hR⟩:=hY pre (t,a+m) w2 HR2.out.1 hlen htl (by dsimp only;omega)
    dsimp only at hy
    unfold S at hy
    have hcast:((a+m:Nat):Int)=(a:Int)+(m:Int):=by omega
    rw[hcast]at hy
    gi_wp2
    refine hR.mono ?_
    rintro e W3 (⟨rfl,hJ3,hk3⟩|⟨rfl,hJx3⟩)
    ·have HR3:Hid (J (pre++[(t,a+m)]) W3∧W3.cell? ⟨Bn,0,none⟩=some (S s)∧Below n0 W W3∧EInv s (pre++[(t,a+m)]) (a+m)):=⟨hJ3,hk3.1 _ HR2.out.2.1,HR2.out.2.2.trans hk3.2,HI'.out⟩
     clear hJ3 hk3 HR2 hy hR
     gi_wp2
     go_roundw
     case rel=>exact⟨a+m,pre++[(t,a+m)],by go_num,by simp,by omega,by simp;omega,HR3⟩
     case measure=>simp[intOf];omega
    ·gi_wp2
     refine bodyPost_ret (results_none rfl _ _ _) rfl ?_
     exact⟨⟨_,rfl⟩,.inr ⟨_,trivial,hJx3⟩⟩
  ·have HF:Hid (pre=wholeE s):=HR.out.2.2.2.stop (.inr (by omega))
   gi_wp2
   go_end0
   exact⟨⟨_,rfl⟩,.inl (by have h:=HR.out.1;rwa[HF.out]at h)⟩
end Go.Proofs.YthmnmaemnihkeaaGreatDoor
set_option maxRecDepth 20000
set_option maxHeartbeats 1000000
namespace Go.Proofs.YthmnmaemnihkeaaGreatDoor
open Go.ChangeShapes Go.WideShapes Go.ChangeAt Go.RowKit
attribute [local go_sem] Oper.semAt_some
theorem whole_any (s:Bs) (w:World):
  Calls Tryz.prog 139 #[.string ⟨s.toArray⟩] w fun e w'=>e=.returned (.func (.func 149) #[] #[.pointer (some ⟨w.heap.size,0,none⟩)])∧w'=w.alloc (.cells #[.string ⟨s.toArray⟩] 9):=by
 go_enter Tryz.func139,Tryz.ntmps139
 go_wp2
 go_ret
 exact⟨rfl,rfl⟩
end Go.Proofs.YthmnmaemnihkeaaGreatDoor
set_option maxRecDepth 20000
set_option maxHeartbeats 4000000
namespace Go.Proofs.YthmnmaemnihkeaaGreatDoor
open Go.ChangeShapes Go.WideShapes Go.ChangeAt Go.RowKit
theorem nozero {l:Bs} {k:Nat} (ho:offN l=k) (hk:k<l.length) (h:l[k]≠48∨l.length≤1):¬((digs l).head? =some 48∧1<l.length):=by
 rintro⟨h1,h2⟩
 subst ho
 rw[head_digs l hk]at h1
 rcases h with h|h
 ·exact h (by simpa using h1)
 ·omega
theorem leadzero {l:Bs} {k:Nat} (ho:offN l=k) (hk:k<l.length) (h:l[k]=48) (h1:1<l.length):okN l=false:=by
 subst ho
 rw[←Bool.not_eq_true,okN_iff]
 rintro⟨_,_,_,h4⟩
 exact h4 ⟨by rw[head_digs l hk,h],h1⟩
theorem iread_any (l:Bs) (w:World) (hl:l.length≤1048576):
  Calls Tryz.prog 153 #[S l] w fun e w'=>e=.returned (.tuple #[.int .i64 (num l),.bool (okN l)])∧w'=w:=by
 have hsz:(⟨l.toArray⟩:ByteArray).size=l.length:=rfl
 unfold S
 go_enter Tryz.func153,Tryz.ntmps153
 go_wp2
 go_loop [4,5,6,7,12] (fun st sg v dg i=>∃j:Nat,(j:Int)≤l.length∧i=.int .i64 j∧
  ((j=0∧st=.int .i64 0∧sg=.int .i64 1∧v=.int .i64 0∧dg=.int .i64 0)∨
   (j=1∧st=.int .i64 1∧sg=.int .i64 (-1)∧v=.int .i64 0∧dg=.int .i64 0∧Hid (neg l=true))∨
   (∃(x d:Int) (k:Nat) (s:Int),st=.int .i64 2∧sg=.int .i64 s∧v=.int .i64 x∧dg=.int .i64 d∧(j:Int)=offN l+d∧1≤d∧d≤9∧0≤x∧x<1000000000∧s=(if neg l then-1 else 1)∧RdInv l j x∧¬((digs l).head? =some 48∧1<l.length)))) (fun _ _ _ _ i=>l.length-(intOf i).toNat)
 case atStart=>exact⟨0,by omega,rfl,.inl ⟨rfl,rfl,rfl,rfl,rfl⟩⟩
 case round=>
  obtain⟨j,hj1,rfl,hcase⟩:=hrel
  rcases hcase with⟨rfl,rfl,rfl,rfl,rfl⟩|⟨rfl,rfl,rfl,rfl,rfl,HG⟩|⟨x,d,k,sg,rfl,rfl,rfl,rfl,hjd,hd1,hd9,hx0,hx1,hsg,hI,hZ⟩
  ·by_cases hlt:(0:Int)<(l.length:Int)
   ·have hj:0<l.length:=by omega
    have ht:=byteAt_is l 0 hj 45 45 rfl
    by_cases hb:l[0]=45
    ·have HG:Hid (neg l=true):=by rw[Hid,neg_at l hj];simp[hb]
     rw[show decide (l[0]=45)=true by simp[hb]]at ht
     clear hb
     go_wp2
     go_round
     case rel=>exact⟨1,by omega,by go_num,.inr (.inl ⟨rfl,rfl,rfl,rfl,rfl,HG⟩)⟩
     case measure=>simp[intOf];omega
    ·have hng:neg l=false:=by rw[neg_at l hj];simp[hb]
     have HO:Hid (offN l=0∧neg l=false):=⟨by unfold offN;rw[hng];rfl,hng⟩
     rw[show decide (l[0]=45)=false by simp[hb]]at ht
     have ht0:=byteAt_is l 0 hj 48 48 rfl
     clear hng hb
     have hbv:=byteV_is l 0 hj
     by_cases hz:l[0]=48
     ·rw[show decide (l[0]=48)=true by simp[hz]]at ht0
      by_cases h1l:1<(l.length:Int)
      ·have HE:Hid (okN l=false∧num l=0):=by
        have:=leadzero HO.out.1 hj hz (by omega)
        exact⟨this,num_not this⟩
       clear hz hbv
       go_wp2
       go_ret2
       rw[HE.out.1,HE.out.2]
       exact⟨rfl,rfl⟩
      ·have HZ:Hid (¬((digs l).head? =some 48∧1<l.length)):=nozero HO.out.1 hj (.inr (by omega))
       clear hz
       by_cases hlo:byteV l 0 hj<48
       ·have HE:Hid (okN l=false∧num l=0):=by
         have:=RdInv.bad (l:=l) (j:=0) (by rw[HO.out.1];omega) hj (by rw[hbv]at hlo;simp[isDig];omega)
         exact⟨this,num_not this⟩
        unfold byteV at*
        clear hbv
        go_wp2
        go_ret2
        rw[HE.out.1,HE.out.2]
        exact⟨rfl,rfl⟩
       ·by_cases hhi:57<byteV l 0 hj
        ·have HE:Hid (okN l=false∧num l=0):=by
          have:=RdInv.bad (l:=l) (j:=0) (by rw[HO.out.1];omega) hj (by rw[hbv]at hhi;simp[isDig];omega)
          exact⟨this,num_not this⟩
         unfold byteV at*
         clear hbv
         go_wp2
         go_ret2
         rw[HE.out.1,HE.out.2]
         exact⟨rfl,rfl⟩
        ·have HN:Hid (∀y,y=0*10+(byteV l 0 hj-48)→RdInv l (0+1) y):=by
          intro y hy
          rw[hy,hbv]
          exact RdInv.next (by have:=RdInv.start l;rwa[HO.out.1]at this) (by rw[HO.out.1];omega) hj (by rw[hbv]at hlo hhi;simp[isDig];omega)
         have hlo2:48≤byteV l 0 hj:=by omega
         have hhi2:byteV l 0 hj≤57:=by omega
         clear hbv
         unfold byteV at*
         go_wp2
         go_round
         case rel=>exact⟨0+1,by omega,by go_num,.inr (.inr ⟨_,_,1,1,rfl,rfl,rfl,rfl,by rw[HO.out.1];omega,by omega,by omega,by omega,by omega,by simp[HO.out.2],HN.out _ (by omega),HZ.out⟩)⟩
         case measure=>simp[intOf];omega
     ·rw[show decide (l[0]=48)=false by simp[hz]]at ht0
      have HZ:Hid (¬((digs l).head? =some 48∧1<l.length)):=nozero HO.out.1 hj (.inl hz)
      clear hz
      by_cases hlo:byteV l 0 hj<48
      ·have HE:Hid (okN l=false∧num l=0):=by
        have:=RdInv.bad (l:=l) (j:=0) (by rw[HO.out.1];omega) hj (by rw[hbv]at hlo;simp[isDig];omega)
        exact⟨this,num_not this⟩
       unfold byteV at*
       clear hbv
       go_wp2
       go_ret2
       rw[HE.out.1,HE.out.2]
       exact⟨rfl,rfl⟩
      ·by_cases hhi:57<byteV l 0 hj
       ·have HE:Hid (okN l=false∧num l=0):=by
         have:=RdInv.bad (l:=l) (j:=0) (by rw[HO.out.1];omega) hj (by rw[hbv]at hhi;simp[isDig];omega)
         exact⟨this,num_not this⟩
        unfold byteV at*
        clear hbv
        go_wp2
        go_ret2
        rw[HE.out.1,HE.out.2]
        exact⟨rfl,rfl⟩
       ·have HN:Hid (∀y,y=0*10+(byteV l 0 hj-48)→RdInv l (0+1) y):=by
         intro y hy
         rw[hy,hbv]
         exact RdInv.next (by have:=RdInv.start l;rwa[HO.out.1]at this) (by rw[HO.out.1];omega) hj (by rw[hbv]at hlo hhi;simp[isDig];omega)
        have hlo2:48≤byteV l 0 hj:=by omega
        have hhi2:byteV l 0 hj≤57:=by omega
        clear hbv
        unfold byteV at*
        go_wp2
        go_round
        case rel=>exact⟨0+1,by omega,by go_num,.inr (.inr ⟨_,_,1,1,rfl,rfl,rfl,rfl,by rw[HO.out.1];omega,by omega,by omega,by omega,by omega,by simp[HO.out.2],HN.out _ (by omega),HZ.out⟩)⟩
        case measure=>simp[intOf];omega
   ·have HE:Hid (okN l=false∧num l=0):=by
     have:=okN_short l (by omega)
     exact⟨this,num_not this⟩
    go_wp2
    go_ret2
    rw[HE.out.1,HE.out.2]
    exact⟨rfl,rfl⟩
  ·have HO:Hid (offN l=1∧neg l=true):=⟨by unfold offN;rw[HG.out];rfl,HG.out⟩
   clear HG
   by_cases hlt:(1:Int)<(l.length:Int)
   ·have hj:1<l.length:=by omega
    have ht0:=byteAt_is l 1 hj 48 48 rfl
    have hbv:=byteV_is l 1 hj
    by_cases hz:l[1]=48
    ·rw[show decide (l[1]=48)=true by simp[hz]]at ht0
     have HE:Hid (okN l=false∧num l=0):=by
      have:=leadzero HO.out.1 hj hz (by omega)
      exact⟨this,num_not this⟩
     clear hz hbv
     go_wp2
     go_ret2
     rw[HE.out.1,HE.out.2]
     exact⟨rfl,rfl⟩
    ·rw[show decide (l[1]=48)=false by simp[hz]]at ht0
     have HZ:Hid (¬((digs l).head? =some 48∧1<l.length)):=nozero HO.out.1 hj (.inl hz)
     clear hz
     by_cases hlo:byteV l 1 hj<48
     ·have HE:Hid (okN l=false∧num l=0):=by
       have:=RdInv.bad (l:=l) (j:=1) (by rw[HO.out.1];omega) hj (by rw[hbv]at hlo;simp[isDig];omega)
       exact⟨this,num_not this⟩
      unfold byteV at*
      clear hbv
      go_wp2
      go_ret2
      rw[HE.out.1,HE.out.2]
      exact⟨rfl,rfl⟩
     ·by_cases hhi:57<byteV l 1 hj
      ·have HE:Hid (okN l=false∧num l=0):=by
        have:=RdInv.bad (l:=l) (j:=1) (by rw[HO.out.1];omega) hj (by rw[hbv]at hhi;simp[isDig];omega)
        exact⟨this,num_not this⟩
       unfold byteV at*
       clear hbv
       go_wp2
       go_ret2
       rw[HE.out.1,HE.out.2]
       exact⟨rfl,rfl⟩
      ·have HN:Hid (∀y,y=0*10+(byteV l 1 hj-48)→RdInv l (1+1) y):=by
        intro y hy
        rw[hy,hbv]
        exact RdInv.next (by have:=RdInv.start l;rwa[HO.out.1]at this) (by rw[HO.out.1];omega) hj (by rw[hbv]at hlo hhi;simp[isDig];omega)
       have hlo2:48≤byteV l 1 hj:=by omega
       have hhi2:byteV l 1 hj≤57:=by omega
       clear hbv
       unfold byteV at*
       go_wp2
       go_round
       case rel=>exact⟨1+1,by omega,by go_num,.inr (.inr ⟨_,_,1,(-1),rfl,rfl,rfl,rfl,by rw[HO.out.1];omega,by omega,by omega,by omega,by omega,by simp[HO.out.2],HN.out _ (by omega),HZ.out⟩)⟩
       case measure=>simp[intOf];omega
   ·have HE:Hid (okN l=false∧num l=0):=by
     have:=okN_short l (by have:=HO.out.1;omega)
     exact⟨this,num_not this⟩
    go_wp2
    go_ret2
    rw[HE.out.1,HE.out.2]
    exact⟨rfl,rfl⟩
  ·have HI:Hid (RdInv l j x∧¬((digs l).head? =some 48∧1<l.length)∧(j:Int)=offN l+d∧sg=(if neg l then-1 else 1)):=⟨hI,hZ,hjd,hsg⟩
   have hoj:offN l≤j:=by omega
   have HJ:Hid (offN l≤j):=hoj
   clear hI hZ hsg hjd hoj
   by_cases hlt:(j:Int)<(l.length:Int)
   ·have hj:j<l.length:=by omega
    have hbv:=byteV_is l j hj
    by_cases hlo:byteV l j hj<48
    ·have HE:Hid (okN l=false∧num l=0):=by
      have:=RdInv.bad (l:=l) (j:=j) HJ.out hj (by rw[hbv]at hlo;simp[isDig];omega)
      exact⟨this,num_not this⟩
     unfold byteV at*
     clear hbv
     go_wp2
     go_ret2
     rw[HE.out.1,HE.out.2]
     exact⟨rfl,rfl⟩
    ·by_cases hhi:57<byteV l j hj
     ·have HE:Hid (okN l=false∧num l=0):=by
       have:=RdInv.bad (l:=l) (j:=j) HJ.out hj (by rw[hbv]at hhi;simp[isDig];omega)
       exact⟨this,num_not this⟩
      unfold byteV at*
      clear hbv
      go_wp2
      go_ret2
      rw[HE.out.1,HE.out.2]
      exact⟨rfl,rfl⟩
     ·by_cases hd:d=9
      ·have HE:Hid (okN l=false∧num l=0):=by
        have:=okN_long l (by have:=HI.out.2.2.1;omega)
        exact⟨this,num_not this⟩
       unfold byteV at*
       clear hbv
       subst hd
       go_wp2
       go_ret2
       rw[HE.out.1,HE.out.2]
       exact⟨rfl,rfl⟩
      ·have hdn:(d==9)=false:=by simpa using hd
       have HN:Hid (∀y,y=x*10+(byteV l j hj-48)→RdInv l (j+1) y∧0≤y∧y<1000000000):=by
        intro y hy
        have h1:RdInv l (j+1) y:=by
         rw[hy,hbv]
         exact HI.out.1.next HJ.out hj (by rw[hbv]at hlo hhi;simp[isDig];omega)
        exact⟨h1,h1.bd (by have:=HI.out.2.2.1;omega)⟩
       have hlo2:48≤byteV l j hj:=by omega
       have hhi2:byteV l j hj≤57:=by omega
       clear hbv
       unfold byteV at*
       go_wp2
       go_round
       case rel=>
        refine⟨j+1,by omega,by go_num,.inr (.inr ⟨_,_,1,sg,rfl,rfl,rfl,rfl,by have:=HI.out.2.2.1;omega,by omega,by omega,?_,?_,HI.out.2.2.2,?_,HI.out.2.1⟩)⟩
        ·exact(HN.out _ (by omega)).2.1
        ·exact(HN.out _ (by omega)).2.2
        ·exact(HN.out _ (by omega)).1
       case measure=>simp[intOf];omega
   ·obtain rfl:j=l.length:=by omega
    have hdn:=HI.out.1.done (by have:=HI.out.2.2.1;omega) (by have:=HI.out.2.2.1;omega)
    have hok:okN l=true:=by
     rw[hdn.1]
     have:=HI.out.2.1
     simp only[Bool.not_eq_true',Bool.and_eq_false_iff,decide_eq_false_iff_not]
     by_cases h:(digs l).head? =some 48
     ·exact .inr (fun h'=>this ⟨h,h'⟩)
     ·exact .inl h
    have HE:Hid (okN l=true∧num l=sg*x):=by
     refine⟨hok,?_⟩
     rw[num,hok,HI.out.2.2.2,hdn.2]
     cases neg l<;>simp
    have hs2:sg=1∨sg= -1:=by rw[HI.out.2.2.2];cases neg l<;>simp
    clear hdn hok
    rcases hs2 with rfl|rfl
    all_goals
     go_wp2
     go_ret2
     rw[HE.out.1,HE.out.2]
     exact⟨by simp,rfl⟩
end Go.Proofs.YthmnmaemnihkeaaGreatDoor
