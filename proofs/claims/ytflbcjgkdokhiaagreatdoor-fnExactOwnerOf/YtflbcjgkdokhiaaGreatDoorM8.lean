/- The first frame of a text, as plain lists; what l4First of the model answers. -/
import Derived.Test.YtflbcjgkdokhiaaGreatDoorM3
import Derived.Test.YtflbcjgkdokhiaaGreatDoorM7
set_option maxRecDepth 20000
set_option maxHeartbeats 2000000
namespace Go.Proofs.YtflbcjgkdokhiaaGreatDoor
open Go.ChangeShapes Go.WideShapes Go.ChangeAt Go.RowKit
def lineN (s:Bs):Nat:=(s.takeWhile (fun b=>b !=10)).length
theorem lineN_le (s:Bs):lineN s≤s.length:=by
 unfold lineN
 exact(List.takeWhile_prefix _).length_le
theorem lineN_cons (b:UInt8) (s:Bs):lineN (b::s)=if b=10 then 0 else lineN s+1:=by
 unfold lineN
 by_cases h:b=10
 ·simp[h]
 ·simp[h]
theorem lineN_app (t r:Bs) (h:t.all (fun b=>b !=10)=true):lineN (t++r)=t.length+lineN r:=by
 induction t with
 |nil=>simp
 |cons b t ih=>
  simp at h
  rw[List.cons_append,lineN_cons,if_neg h.1,ih (by simpa using h.2)]
  simp;omega
theorem lineN_hit (s:Bs) (j:Nat) (h:(s.take j).all (fun b=>b !=10)=true) (hj:j<s.length) (e:s[j]=10):lineN s=j:=by
 have:s=s.take j++(10::s.drop (j+1)):=by
  rw[←e,←List.drop_eq_getElem_cons hj,List.take_append_drop]
 rw[this,lineN_app _ _ h,lineN_cons,if_pos rfl]
 simp;omega
theorem lineN_end (s:Bs) (h:(s.take s.length).all (fun b=>b !=10)=true):lineN s=s.length:=by
 rw[List.take_length]at h
 have:=lineN_app s [] h
 simpa[lineN]using this
def firstB (s:Bs):Bs×Nat:=
 let e:=lineN s
 if e=s.length∨330<e then([],0)
 else match splitB 32 (s.take e)with
  |a::b::_::_=>
   let t:=cutB s (a.length+b.length+2) e
   if plainB t&&decide (framed t=s.take (e+1))then(t,e+1)else([],0)
  |_=>([],0)
theorem three_of {ps:List Bs} (h:¬ps.length<3):∃a b c rest,ps=a::b::c::rest:=by
 match ps,h with
 |[],h=>simp at h
 |[_],h=>simp at h
 |[_,_],h=>simp at h
 |a::b::c::rest,_=>exact⟨a,b,c,rest,rfl⟩
theorem splitB_sum (c:UInt8) (l:Bs):((splitB c l).map List.length).sum+(splitB c l).length=l.length+1:=by
 induction l with
 |nil=>simp[splitB]
 |cons b t ih=>
  rw[splitB]
  split
  ·simp;omega
  ·cases h:splitB c t with
   |nil=>exact absurd h (splitB_ne c t)
   |cons p ps=>rw[h]at ih;simp[ahead]at ih⊢;omega
theorem sfirstF_any (s:Bs) (w:World) (hl:s.length≤1048576):
  Calls Tryz.prog 92 #[S s] w fun e w'=>e=.returned (.tuple #[S (firstB s).1,.int .i64 (firstB s).2])∧Below w.heap.size w w':=by
 have hsz:(⟨s.toArray⟩:ByteArray).size=s.length:=rfl
 have csp:∀(t:Bs) (w':World),t.length≤1048576→_:=fun t w' h=>ssplit_any t 32 w' h
 have cpl:∀(t:Bs) (w':World),t.length≤1099511627776→_:=fun t w' h=>splain_any t w' h
 have cfr:∀(t:Bs) (w':World),t.length≤1099511627776→_:=fun t w' h=>sl4Framed_any t w' h
 unfold S at csp cpl cfr⊢
 go_enter Tryz.func92,Tryz.ntmps92
 go_wp2
 go_loop [4] (fun i=>∃j:Nat,j≤s.length∧i=.int .i64 j∧Hid ((s.take j).all (fun b=>b !=10)=true)) (fun i=>s.length-(intOf i).toNat)
 case atStart=>exact⟨0,Nat.zero_le _,rfl,by simp[Hid]⟩
 case round=>
  obtain⟨j,hj,rfl,HX⟩:=hrel
  by_cases hlt:(j:Int)<(s.length:Int)
  ·have h1:j<s.length:=by omega
   have ht:=byteAt_is s j h1 10 10 rfl
   by_cases hb:s[j]=10
   ·rw[show decide (s[j]=10)=true by simp[hb]]at ht
    have HL:Hid (lineN s=j):=lineN_hit s j HX.out h1 hb
    clear hb HX
    have htn:(((((⟨s.toArray⟩:ByteArray)[j]'(show j<(⟨s.toArray⟩:ByteArray).size from h1)).toNat:Nat):Int) !=10)=false:=by simp only[bne,ht,Bool.not_true]
    have hjs:((j:Int)==(s.length:Int))=false:=by simp;omega
    by_cases h330:330<(j:Int)
    ·have HF:Hid (firstB s=([],0)):=by
      have:330<j:=by omega
      simp[Hid,firstB,HL.out,this]
     go_wp2
     go_ret2
     rw[HF.out]
     exact⟨rfl,Below.refl _ _⟩
    ·have hex:=extract_cut s 0 j
     have e0:cutB s 0 j=s.take j:=by simp[cutB]
     rw[e0]at hex
     have hF:firstB s=match splitB 32 (s.take j)with
      |a::b::_::_=>if plainB (cutB s (a.length+b.length+2) j)&&decide (framed (cutB s (a.length+b.length+2) j)=s.take (j+1))then(cutB s (a.length+b.length+2) j,j+1)else([],0)
      |_=>([],0):=by
      have h2:¬(j=s.length∨330<j):=by omega
      unfold firstB
      rw[HL.out]
      simp only[h2,if_false]
     have hsum:=splitB_sum 32 (s.take j)
     have htl:(s.take j).length=j:=by simp;omega
     obtain⟨ps,hps⟩:∃ps,ps=splitB 32 (s.take j):=⟨_,rfl⟩
     have cs:=csp (s.take j) w (by omega)
     rw[←hps]at hF hsum cs
     obtain⟨q,hq⟩:∃q,q=s.take j:=⟨_,rfl⟩
     rw[←hq]at hex cs htl hsum
     have HQ:Hid (q=s.take j):=hq
     clear e0 csp hps hq HL
     have HF:Hid (firstB s=_):=hF
     clear hF
     go_wp2_with fail
     refine cs.mono ?_
     rintro e w1 ⟨u,rfl,o1,b1⟩
     have HB:Hid (Below w.heap.size w w1):=b1
     clear b1 cs
     by_cases h3:ps.length<3
     ·have HE:Hid (firstB s=([],0)):=by
       rw[Hid,HF.out]
       match ps,h3 with
       |[],_=>rfl
       |[_],_=>rfl
       |[_,_],_=>rfl
      obtain⟨ao,cap,rfl, -⟩:=o1.reads
      have h3':(ps.length:Int)<3:=by omega
      clear o1 hsum HF
      go_wp2_with fail
      go_ret2
      rw[HE.out]
      exact⟨rfl,HB.out⟩
     ·obtain⟨a,b,c,rest,rfl⟩:∃a b c rest,ps=a::b::c::rest:=by
       exact three_of h3
      obtain⟨g,cap,rfl, -⟩:=World.ownsRow.form o1 (by simp)
      have c0:w1.cell? ⟨g,0,none⟩=some (S a):=by
       have:=World.ownsRow.cellAt (w:=w1) o1 0 (by simp);simpa using this
      have c1:w1.cell? ⟨g,1,none⟩=some (S b):=by
       have:=World.ownsRow.cellAt (w:=w1) o1 1 (by simp);simpa using this
      unfold S at c0 c1
      have hab:a.length+b.length+2≤j:=by simp at hsum;omega
      have za:(⟨a.toArray⟩:ByteArray).size=a.length:=rfl
      have zb:(⟨b.toArray⟩:ByteArray).size=b.length:=rfl
      obtain⟨n,hn⟩:∃n,n=(a::b::c::rest).length:=⟨_,rfl⟩
      have hn3:(3:Int)≤n:=by simp at hn;omega
      rw[←hn]
      clear hn o1 hsum h3
      go_wp2_with fail
      go_quiet (fail)
      obtain⟨w2,hw2⟩:∃w2,w2=w1.drewN nq:=⟨_,rfl⟩
      rw[←hw2]
      have HB1:Hid (Below w.heap.size w w2):=by rw[hw2];exact below_drewN HB.out nq
      clear hw2 c0 c1 HB
      have hex2:=extract_cut s (a.length+b.length+2) j
      have hex3:=extract_cut s 0 (j+1)
      have e3:cutB s 0 (j+1)=s.take (j+1):=by simp[cutB]
      rw[e3]at hex3
      have hlt2:(cutB s (a.length+b.length+2) j).length≤1099511627776:=by rw[cutB_len s _ _ hj];omega
      obtain⟨t,ht2⟩:∃t,t=cutB s (a.length+b.length+2) j:=⟨_,rfl⟩
      obtain⟨z,hz2⟩:∃z,z=s.take (j+1):=⟨_,rfl⟩
      rw[←ht2]at hex2 hlt2
      rw[←hz2]at hex3
      have HT:Hid (firstB s=if plainB t&&decide (framed t=z)then(t,j+1)else([],0)):=by rw[Hid,HF.out,←ht2,←hz2]
      have c5:=cpl t (w2.drew) hlt2
      have c6:=cfr t (w2.drew) hlt2
      have HB2:Hid (Below w.heap.size w (w2.drew)):=below_drewN HB1.out 1
      have hj1:(j:Int)+1≤(s.length:Int):=by omega
      have hj0:(0:Int)≤(j:Int)+1:=by omega
      have hwr:IntKind.i64.wrap ((j:Int)+1)=(j:Int)+1:=by rw[IntKind.wrap_i64];omega
      clear e3 ht2 hz2 HF cpl cfr
      by_cases hp:plainB t=true
      ·rw[hp]at c5
       by_cases hf:framed t=z
       ·have HE:Hid (firstB s=(t,j+1)):=by rw[Hid,HT.out];simp[hp,hf]
        go_wp2_with fail
        go_region_held3 (fun w'=>True) (trivial)
         (first
          |(go_at_call 113;refine c5.mono ?_;rintro e w' ⟨rfl,hw'⟩;subst w')
          |(go_at_call 78;refine c6.mono ?_;rintro e w3 ⟨rfl,b3⟩))
        have HB3:Hid (Below w.heap.size w w3):=HB2.out.trans (b3.mono HB2.out.size)
        go_wp2_with fail
        go_ret2
        rw[HE.out]
        exact⟨rfl,HB3.out⟩
       ·have HE:Hid (firstB s=([],0)):=by rw[Hid,HT.out];simp[hf]
        have hbeq:(framed t==z)=false:=by simpa using hf
        go_wp2_with fail
        go_region_held3 (fun w'=>True) (trivial)
         (first
          |(go_at_call 113;refine c5.mono ?_;rintro e w' ⟨rfl,hw'⟩;subst w')
          |(go_at_call 78;refine c6.mono ?_;rintro e w3 ⟨rfl,b3⟩))
        have HB3:Hid (Below w.heap.size w w3):=HB2.out.trans (b3.mono HB2.out.size)
        go_wp2_with fail
        go_ret2
        rw[HE.out]
        exact⟨rfl,HB3.out⟩
      ·have hp':plainB t=false:=by simpa using hp
       have c7:∀w',_:=fun w'=>splain_any t w' hlt2
       unfold S at c7
       simp only[hp']at c7
       have HE:Hid (firstB s=([],0)):=by rw[Hid,HT.out];simp[hp']
       clear c5 c6
       go_wp2_with fail
       go_quiet ((go_at_call 113;exact Calls.quiet_of_same (c7 _)))
       go_wp2_with fail
       go_ret2
       rw[HE.out]
       exact⟨rfl,below_drewN HB1.out _⟩
   ·rw[show decide (s[j]=10)=false by simp[hb]]at ht
    have HS:Hid ((s.take (j+1)).all (fun b=>b !=10)=true):=by
     rw[Hid,take_snocB s j h1,List.all_append,HX.out];simp[hb]
    clear hb HX
    go_wp2
    go_round
    case rel=>exact⟨j+1,by omega,by go_num,HS⟩
    case measure=>simp[intOf];omega
  ·have HL:Hid (lineN s=s.length):=lineN_end s (by rw[show s.length=j by omega];exact HX.out)
   have HF:Hid (firstB s=([],0)):=by simp[Hid,firstB,HL.out]
   have hjs:((j:Int)==(s.length:Int))=true:=by simp;omega
   go_wp2
   go_ret2
   rw[HF.out]
   exact⟨rfl,Below.refl _ _⟩
end Go.Proofs.YtflbcjgkdokhiaaGreatDoor
set_option maxRecDepth 20000
set_option maxHeartbeats 2000000
namespace Go.Proofs.YtflbcjgkdokhiaaGreatDoor
open Go.ChangeShapes Go.WideShapes Go.ChangeAt Go.RowKit
def framesN:Nat→Bs→List Bs×Nat
 |0,_=>([],0)
 |k+1,s=>if(firstB s).2=0 then([],0)else((firstB s).1::(framesN k (s.drop (firstB s).2)).1,(firstB s).2+(framesN k (s.drop (firstB s).2)).2)
def framesB (s:Bs):List Bs×Nat:=framesN 2000 s
def FrInv (s:Bs) (out:List Bs) (a:Nat):Prop:=framesB s=(out++(framesN (2000-out.length) (s.drop a)).1,a+(framesN (2000-out.length) (s.drop a)).2)
theorem firstB_le (s:Bs):(firstB s).2≤s.length:=by
 have h:=lineN_le s
 unfold firstB
 dsimp only
 split
 ·simp
 ·rename_i hc
  split
  ·split
   ·simp;omega
   ·simp
  ·simp
theorem FrInv.start (s:Bs):FrInv s [] 0:=by simp[FrInv,framesB]
theorem FrInv.next {s:Bs} {out:List Bs} {a:Nat} (h:FrInv s out a) (hl:out.length<2000) (hn:(firstB (s.drop a)).2≠0):FrInv s (out++[(firstB (s.drop a)).1]) (a+(firstB (s.drop a)).2):=by
 unfold FrInv at h⊢
 rw[h]
 obtain⟨k,hk⟩:∃k,2000-out.length=k+1:=⟨2000-out.length-1,by omega⟩
 have hk2:2000-(out++[(firstB (s.drop a)).1]).length=k:=by simp;omega
 rw[hk,hk2,framesN,if_neg hn,List.drop_drop]
 simp[Nat.add_assoc]
theorem FrInv.stop {s:Bs} {out:List Bs} {a:Nat} (h:FrInv s out a) (hn:(firstB (s.drop a)).2=0∨2000≤out.length):framesB s=(out,a):=by
 rw[h]
 rcases hn with hn|hn
 ·cases hk:2000-out.length with
  |zero=>simp[framesN]
  |succ k=>rw[framesN,if_pos hn];simp
 ·rw[show 2000-out.length=0 by omega];simp[framesN]
theorem sframes_any (s:Bs) (w:World) (hl:s.length≤1048576):
  Calls Tryz.prog 77 #[S s] w fun e w'=>∃u,e=.returned (.tuple #[u,.int .i64 (framesB s).2])∧OwnS w' w.heap.size u (framesB s).1∧Below w.heap.size w w':=by
 obtain⟨i0,hi,hz0,hz1,hz2⟩:=info_parts Tryz.infoS
 have hsz:(⟨s.toArray⟩:ByteArray).size=s.length:=rfl
 unfold S
 go_enter Tryz.func77,Tryz.ntmps77
 go_wp2
 go_loopw [4,5] (fun o u wr=>∃(out:List Bs) (a:Nat) (ao:Option Addr) (cap:Nat),o=.slice ao out.length cap∧u=.int .i64 a∧(a:Int)≤s.length∧(out.length:Int)≤2000∧Hid (OwnS wr w.heap.size (.slice ao out.length cap) out∧Below w.heap.size w wr∧FrInv s out a)) (fun o _ _=>2000-(match o with| .slice _ n _=>n|_=>0))
 case atStart=>exact⟨[],0,_,_,rfl,rfl,by omega,by simp,World.ownsRow_lit w #[] 0 (Nat.le_refl _) (Nat.zero_le _) rfl,(Below.refl _ _).alloc (Nat.le_refl _) _,FrInv.start s⟩
 case round=>
  obtain⟨out,a,ao,cap,rfl,rfl,ha,ho,HR⟩:=hrel
  by_cases hlt:(out.length:Int)<2000
  ·have hex:=extract_cut s a s.length
   have e0:cutB s a s.length=s.drop a:=by simp[cutB]
   rw[e0]at hex
   have c1:=sfirstF_any (s.drop a) wr (by simp;omega)
   have hfl:=firstB_le (s.drop a)
   have hdl:(s.drop a).length=s.length-a:=by simp
   obtain⟨q,hq⟩:∃q,q=s.drop a:=⟨_,rfl⟩
   rw[←hq]at hex c1 hfl hdl
   obtain⟨t,ht⟩:∃t,t=(firstB q).1:=⟨_,rfl⟩
   obtain⟨n,hn⟩:∃n,n=(firstB q).2:=⟨_,rfl⟩
   rw[←ht,←hn]at c1
   rw[←hn]at hfl
   unfold S at c1
   have HN:Hid (n≠0→FrInv s (out++[t]) (a+n)):=fun h=>by
    rw[ht,hn,hq];exact HR.out.2.2.next (by omega) (by rw[←hq,←hn];exact h)
   have HZ:Hid (n=0→framesB s=(out,a)):=fun h=>HR.out.2.2.stop (.inl (by rw[←hq,←hn];exact h))
   clear e0 hq ht hn
   go_wp2_with fail
   refine c1.mono ?_
   rintro e w1 ⟨rfl,b1⟩
   clear c1
   have HR1:Hid (OwnS w1 w.heap.size (.slice ao out.length cap) out∧Below w.heap.size w w1):=⟨HR.out.1.below b1,HR.out.2.1.trans (b1.mono HR.out.2.1.size)⟩
   clear b1 HR
   by_cases h0:n=0
   ·subst h0
    have HF:=HZ.out rfl
    go_wp2_with fail
    go_ret2
    rw[HF]
    exact⟨_,rfl,HR1.out.1,HR1.out.2⟩
   ·have h0':((n:Int)==0)=false:=by simpa using h0
    have hown:=HR1.out.1
    have hbs:=HR1.out.2.size
    unfold OwnS at hown
    go_wp2_with (at_builtin;refine wpList_append_own _ rfl _ _ 124 rfl w.heap.size 9 i0 (.string ⟨#[]⟩) 1 16 Tryz.underlying124 hi hz0 hz1 hz2 rfl (by decide) _ _ _ rfl (hown.alloc _) _ 1 1 [S t] rfl rfl (litS1 w1 t) (by simp[Value.oneCell',S]) (by unfold maxLen;omega) (by omega) (by simp;omega) ?_)
    intro v' w2 hown' hgrow _
    have HO:Hid (OwnS w2 w.heap.size v' (out++[t])∧Below w.heap.size w w2):=appendS HR1.out.1 HR1.out.2 hown' hgrow
    clear hown hown' hgrow HR1
    obtain⟨ao2,cap2,hev, -⟩:=HO.out.1.reads
    subst hev
    go_wp2
    go_roundw
    case rel=>exact⟨out++[t],a+n,ao2,cap2,rfl,by go_num,by omega,by simp;omega,HO.out.1,HO.out.2,HN.out h0⟩
    case measure=>simp;omega
  ·have HF:Hid (framesB s=(out,a)):=HR.out.2.2.stop (.inr (by omega))
   go_wp2
   go_ret2
   rw[HF.out]
   exact⟨_,rfl,HR.out.1,HR.out.2.1⟩
end Go.Proofs.YtflbcjgkdokhiaaGreatDoor
namespace Go.Proofs.YtflbcjgkdokhiaaGreatDoor
open Go.RowKit
theorem digit_ne (n:Nat):digit n≠10∧digit n≠32:=by
 have h:=Nat.mod_lt n (show 0<10 by omega)
 unfold digit
 have:∀d,d<10→UInt8.ofNat (48+d)≠10∧UInt8.ofNat (48+d)≠32:=by decide
 exact this _ h
theorem dec_ne (n:Nat):∀b∈dec n,b≠10∧b≠32:=by
 induction n using Nat.strongRecOn with
 |ind n ih=>
  intro b hb
  rw[dec]at hb
  split at hb
  ·simp at hb;subst hb;exact digit_ne n
  ·rcases List.mem_append.1 hb with h|h
   ·exact ih (n/10) (by omega) b h
   ·simp at h;subst h;exact digit_ne n
theorem splitB_app (c:UInt8) (a r:Bs) (h:∀b∈a,b≠c):splitB c (a++c::r)=a::splitB c r:=by
 induction a with
 |nil=>simp[splitB]
 |cons b a ih=>
  rw[List.cons_append,splitB,if_neg (h b (by simp)),ih (fun x hx=>h x (by simp[hx]))]
  rfl
def body (t:Bs):Bs:=dec t.length++32::(dec (chk t).toNat++32::t)
theorem framed_body (t:Bs):framed t=body t++[10]:=by simp[framed,body]
theorem plain_ne {t:Bs} (h:plainB t=true):∀b∈t,b≠10:=by
 simp[plainB]at h;exact h.1
theorem plain_len {t:Bs} (h:plainB t=true):t.length≤300:=by
 simp[plainB]at h;exact h.2
theorem body_ne {t:Bs} (h:plainB t=true):(body t).all (fun b=>b !=10)=true:=by
 rw[List.all_eq_true]
 intro b hb
 simp only[bne_iff_ne,ne_eq]
 unfold body at hb
 rcases List.mem_append.1 hb with hb|hb
 ·exact(dec_ne _ b hb).1
 ·rcases List.mem_cons.1 hb with rfl|hb
  ·decide
  ·rcases List.mem_append.1 hb with hb|hb
   ·exact(dec_ne _ b hb).1
   ·rcases List.mem_cons.1 hb with rfl|hb
    ·decide
    ·exact plain_ne h b hb
theorem body_len {t:Bs} (h:plainB t=true):(body t).length≤330:=by
 have h1:=dec_len 2 t.length (by have:=plain_len h;omega)
 have h2:=dec_len 5 (chk t).toNat (by have:=chk_bd t;omega)
 have h3:=plain_len h
 simp[body];omega
theorem framed_len (t:Bs):(framed t).length=(body t).length+1:=by simp[framed_body]
theorem cut_mid (a b:Bs) (n:Nat) (h:n=a.length) (m:Nat) (hm:m=(a++b).length) (r:Bs):cutB (a++b++r) n m=b:=by
 subst h hm
 unfold cutB
 rw[List.take_left,List.drop_left]
theorem firstB_yes {t:Bs} (h:plainB t=true) (r:Bs):firstB (framed t++r)=(t,(framed t).length):=by
 have hl:lineN (framed t++r)=(body t).length:=by
  rw[framed_body,List.append_assoc,lineN_app _ _ (body_ne h)]
  simp[lineN_cons]
 have hb:=body_len h
 have hf:=framed_len t
 have htake:(framed t++r).take (body t).length=body t:=by
  rw[framed_body,List.append_assoc,List.take_left]
 have htake1:(framed t++r).take ((body t).length+1)=framed t:=by
  rw[←hf,List.take_left]
 have hsp:splitB 32 (body t)=dec t.length::dec (chk t).toNat::splitB 32 t:=by
  unfold body
  rw[splitB_app 32 _ _ (fun b hb=>(dec_ne _ b hb).2),splitB_app 32 _ _ (fun b hb=>(dec_ne _ b hb).2)]
 have hcut:cutB (framed t++r) ((dec t.length).length+(dec (chk t).toNat).length+2) (body t).length=t:=by
  have e:framed t++r=(dec t.length++32::(dec (chk t).toNat++[32]))++t++(10::r):=by simp[framed]
  rw[e]
  refine cut_mid _ _ _ (by simp;omega) _ ?_ _
  simp[body]
 unfold firstB
 rw[hl]
 have hno:¬((body t).length=(framed t++r).length∨330<(body t).length):=by
  rw[List.length_append,hf];omega
 simp only[hno,if_false,htake,htake1,hsp]
 cases hs:splitB 32 t with
 |nil=>exact absurd hs (splitB_ne 32 t)
 |cons p ps=>
  simp only[hcut]
  simp[h,hf]
theorem firstB_sound (s:Bs) (h:(firstB s).2≠0):plainB (firstB s).1=true∧framed (firstB s).1=s.take (firstB s).2∧(firstB s).2=(framed (firstB s).1).length:=by
 have hl:=lineN_le s
 unfold firstB at h⊢
 dsimp only at h⊢
 split at h
 ·exact absurd rfl h
 ·rename_i hno
  rw[if_neg hno]at⊢
  split at h
  ·rename_i a b c rest heq
   split at h
   ·rename_i hc
    simp only[Bool.and_eq_true,decide_eq_true_eq]at hc
    simp only[hc,decide_true,Bool.and_self,if_true]
    refine⟨trivial,trivial,?_⟩
    simp;omega
   ·exact absurd rfl h
  ·exact absurd rfl h
theorem firstB_zero (s:Bs) (h:(firstB s).2=0):firstB s=([],0):=by
 unfold firstB at h⊢
 dsimp only at h⊢
 split
 ·rfl
 ·rename_i hno
  rw[if_neg hno]at h
  split
  ·rename_i a b c rest heq
   simp only[heq]at h
   split
   ·rename_i hc
    rw[if_pos hc]at h
    simp at h
   ·rfl
  ·rfl
def cat (ts:List Bs):Bs:=(ts.map framed).flatten
theorem cat_cons (t:Bs) (ts:List Bs):cat (t::ts)=framed t++cat ts:=by simp[cat]
theorem cat_snoc (ts:List Bs) (t:Bs):cat (ts++[t])=cat ts++framed t:=by simp[cat]
theorem framed_pos (t:Bs):0<(framed t).length:=by rw[framed_len];omega
theorem framesN_cat (ts:List Bs) (r:Bs) (hp:∀t∈ts,plainB t=true) (k:Nat) (hk:ts.length≤k) (hr:k=ts.length∨(firstB r).2=0):framesN k (cat ts++r)=(ts,(cat ts).length):=by
 induction ts generalizing k with
 |nil=>
  cases k with
  |zero=>simp[framesN,cat]
  |succ k=>
   have h0:(firstB r).2=0:=by
    rcases hr with h|h
    ·simp at h
    ·exact h
   rw[framesN]
   simp[cat,h0]
 |cons t ts ih=>
  cases k with
  |zero=>simp at hk
  |succ k=>
   have ht:=firstB_yes (hp t (by simp)) (cat ts++r)
   have hpos:=framed_pos t
   rw[framesN,cat_cons,List.append_assoc,ht]
   have hne:¬(framed t).length=0:=by omega
   simp only[hne,if_false,List.drop_left]
   rw[ih (fun x hx=>hp x (by simp[hx])) k (by simpa using hk) (by rcases hr with h|h;exact .inl (by simpa using h);exact .inr h)]
   simp
theorem framesN_sound (k:Nat):∀s:Bs,(∀t∈(framesN k s).1,plainB t=true)∧s.take (framesN k s).2=cat (framesN k s).1∧(framesN k s).2=(cat (framesN k s).1).length∧(framesN k s).1.length≤k:=by
 induction k with
 |zero=>intro s;simp[framesN,cat]
 |succ k ih=>
  intro s
  rw[framesN]
  by_cases h:(firstB s).2=0
  ·simp[h,cat]
  ·obtain⟨h1,h2,h3⟩:=firstB_sound s h
   obtain⟨i1,i2,i3,i4⟩:=ih (s.drop (firstB s).2)
   simp only[h,if_false]
   refine⟨fun t ht=>?_,?_,?_,?_⟩
   ·rcases List.mem_cons.1 ht with rfl|ht
    ·exact h1
    ·exact i1 t ht
   ·rw[cat_cons,List.take_add,i2,←h2]
   ·rw[cat_cons,List.length_append,←i3,←h3]
   ·simp;omega
theorem framesB_sound (s:Bs):(∀t∈(framesB s).1,plainB t=true)∧s.take (framesB s).2=cat (framesB s).1∧(framesB s).2=(cat (framesB s).1).length∧(framesB s).1.length≤2000:=framesN_sound 2000 s
theorem framesB_le (s:Bs):(framesB s).2≤s.length:=by
 obtain⟨_,h2,h3,_⟩:=framesB_sound s
 have:=congrArg List.length h2
 rw[List.length_take]at this
 omega
theorem firstB_line {q:Bs} (h:q.all (fun b=>b !=10)=true):(firstB q).2=0:=by
 have:lineN q=q.length:=lineN_end q (by rw[List.take_length];exact h)
 simp[firstB,this]
end Go.Proofs.YtflbcjgkdokhiaaGreatDoor
