/- How the laws take a post over, count and compare it. -/
import Derived.Test.YtflbcjgkdokhiaaGreatDoorM22
set_option maxRecDepth 20000
set_option maxHeartbeats 4000000
namespace Go.Proofs.YtflbcjgkdokhiaaGreatDoor
open Go.ChangeShapes Go.WideShapes Go.ChangeAt Go.RowKit
def totK (ps:List (Value×Mg)):Nat:=(ps.map fun p=>p.2.h.ks.length).sum
theorem take_snocP (ps:List (Value×Mg)) (j:Nat) (p:Value×Mg) (e:ps[j]?=some p):ps.take (j+1)=ps.take j++[p]:=by
 obtain⟨hj,rfl⟩:=List.getElem?_eq_some_iff.1 e
 exact List.take_succ_eq_append_getElem hj
theorem totK_snoc (ps:List (Value×Mg)) (j:Nat) (u:Value) (m:Mg) (e:ps[j]?=some (u,m)):totK (ps.take (j+1))=totK (ps.take j)+m.h.ks.length:=by
 rw[take_snocP ps j _ e]
 simp[totK]
theorem szI_part (k:Int) (n:Nat) (_h0:0≤k):szI k n= -1∨(0≤szI k n∧szI k n+(n:Int)=k∧(n:Int)≤k):=by
 unfold szI
 by_cases h:(n:Int)≤k
 ·rw[if_pos h];omega
 ·rw[if_neg h];omega
theorem szMsgS_any (v:Value) (ps:List (Value×Mg)) (k:Int) (w:World) (hr:RdP w v ps) (h0:0≤k) (h1:k≤1048576):
  Calls Tryz.prog 10 #[v,.int .i64 k] w fun e w'=>∃x:Int,e=.returned (.int .i64 x)∧(x= -1∨(0≤x∧x+(ps.length:Int)+(totK ps:Int)≤k∧SmP ps∧ps.length≤1048576))∧Below w.heap.size w w':=by
 obtain⟨ao,cap,rfl⟩:=hr.form
 have HR:Hid (∀wx,Below w.heap.size w wx→RdP wx (.slice ao ps.length cap) ps):=fun wx b=>hr.below b
 obtain⟨-,hnc,hcm, -⟩:=hr.el
 unfold maxLen at hcm
 clear hr
 obtain⟨n,hn⟩:∃n,n=ps.length:=⟨_,rfl⟩
 rw[←hn]at HR hnc⊢
 have HN:Hid (n=ps.length):=hn
 clear hn
 by_cases hk:(n:Int)≤k
 ·go_enter Tryz.func10,Tryz.ntmps10
  go_wp2
  go_loopw [1,5] (fun l i wr=>∃j:Nat,∃x:Int,j≤n∧i=.int .i64 j∧l=.int .i64 x∧0≤x∧x≤k∧Hid (SmP (ps.take j)∧Below w.heap.size w wr∧x+(n:Int)+(totK (ps.take j):Int)≤k)) (fun _ i _=>n-(intOf i).toNat)
  case atStart=>exact⟨0,_,Nat.zero_le _,rfl,rfl,by omega,by omega,by simp[SmP],Below.refl _ _,by simp[totK]⟩
  case round=>
   obtain⟨j,x,hj,rfl,rfl,hx0,hxk,HI⟩:=hrel
   by_cases hlt:(j:Int)<(n:Int)
   ·obtain⟨b,off,u,m,he,rfl,hrk,hc⟩:=(HR.out wr HI.out.2.1).el.2.2.2 j (by omega)
    have C:=szMsg_any u m x wr hrk hx0 (by omega)
    have HC:Hid (∀i,i<11→wr.cell? ⟨b,off+j*11+i,none⟩=(mgA u m)[i]?):=hc
    have hp:=szI_part x m.h.ks.length hx0
    obtain⟨y,hy⟩:∃y,y=szI x m.h.ks.length:=⟨_,rfl⟩
    rw[←hy]at C hp
    have HT:Hid ((m.h.ks.length:Int)≤x→SmP (ps.take (j+1))):=fun hle p hp=>by
     obtain⟨hj',ee⟩:=List.getElem?_eq_some_iff.1 he
     rw[List.take_succ_eq_append_getElem hj']at hp
     rcases List.mem_append.1 hp with hp|hp
     ·exact HI.out.1 p hp
     ·rw[List.mem_singleton,ee]at hp
      subst hp
      show m.h.ks.length≤1048576
      omega
    have HW:Hid (totK (ps.take (j+1))=totK (ps.take j)+m.h.ks.length):=totK_snoc ps j u m he
    clear hc hrk he hy
    go_wp2_with (refine wpList_getO Tryz.isLM rfl _ rfl b (off+j*11) rfl (mgA u m) rfl HC.out ?_)
    refine C.mono ?_
    rintro e w2 ⟨rfl,b2⟩
    have HB:Hid (Below w.heap.size w w2):=HI.out.2.1.trans (b2.mono HI.out.2.1.size)
    clear b2 C HC
    rcases hp with rfl|⟨hy0,hyx,hle⟩
    ·go_wp2
     go_ret
     exact⟨_,rfl,.inl rfl,HB.out⟩
    ·have HS:Hid (SmP (ps.take (j+1))∧y+(n:Int)+(totK (ps.take (j+1)):Int)≤k):=⟨HT.out hle,by rw[HW.out];have:=HI.out.2.2;omega⟩
     have hyk:y≤k:=by omega
     clear hyx
     go_wp2
     go_roundw
     case rel=>exact⟨j+1,y,by omega,by go_num,rfl,hy0,hyk,HS.out.1,HB.out,HS.out.2⟩
     case measure=>simp[intOf];omega
   ·have HS:Hid (SmP ps∧x+(n:Int)+(totK ps:Int)≤k):=by
     have h1:=HI.out.1
     have h2:=HI.out.2.2
     rw[List.take_of_length_le (by have:=HN.out;omega)]at h1 h2
     exact⟨h1,h2⟩
    go_wp2
    go_ret
    exact⟨_,rfl,.inr ⟨hx0,HS.out.2,HS.out.1,by omega⟩,HI.out.2.1⟩
 ·have hk2:k-(n:Int)<0:=by omega
  go_enter Tryz.func10,Tryz.ntmps10
  go_wp2
  go_ret
  exact⟨_,rfl,.inl rfl,Below.refl _ _⟩
theorem pairwise_set {α:Type} {R:α→α→Prop}:∀(l:List α) (j:Nat) (a:α),l.Pairwise R→(∀q∈l,R q a)→(∀q∈l,R a q)→(l.set j a).Pairwise R
 |[],_,_,_,_,_=>by simp
 |x::l,0,a,h,_,h2=>by
  rw[List.set_cons_zero]
  rw[List.pairwise_cons]at h⊢
  exact⟨fun q hq=>h2 q (by simp[hq]),h.2⟩
 |x::l,j+1,a,h,h1,h2=>by
  rw[List.set_cons_succ]
  rw[List.pairwise_cons]at h⊢
  refine⟨fun q hq=>?_,pairwise_set l j a h.2 (fun q hq=>h1 q (by simp[hq])) (fun q hq=>h2 q (by simp[hq]))⟩
  rcases List.mem_or_eq_of_mem_set hq with hq|rfl
  ·exact h.1 q hq
  ·exact h1 x (by simp)
theorem OwnP.setAt {w1 w2 w4:World} {base j:Nat} {v u:Value} {m:Mg} {ps:List (Value×Mg)} (h:OwnP w1 base v ps) (hu:Mine w2 w1.heap.size u m.h.ks) (b:Below w1.heap.size w1 w2) (hb:base≤w1.heap.size)
  (hrow:OwnRow w4 base 85 11 v ((msC ps).set j (mgA u m))) (hg:w2.grownBy w4 v.ownBlock):OwnP w4 base v (ps.set j (u,m)):=by
 have h2:=h.below b
 refine⟨?_,fun p hp=>?_,?_⟩
 ·rw[show msC (ps.set j (u,m))=(msC ps).set j (mgA u m) by simp[msC,List.map_set]]
  exact hrow
 ·rcases List.mem_or_eq_of_mem_set hp with hp|rfl
  ·exact(h2.key p hp).keptRow h2.row (by decide) hg
  ·exact(hu.keptRow h2.row (by decide) hg).mono hb
 ·refine pairwise_set ps j (u,m) h.ap (fun q hq x hx hy=>?_) (fun q hq x hx hy=>?_)
  ·have h1:=(mineOf_lt (h.key q hq) hx).2
   have h3:=(mineOf_lt hu hy).1
   omega
  ·have h1:=(mineOf_lt (h.key q hq) hy).2
   have h3:=(mineOf_lt hu hx).1
   omega
def nilM:Value×Mg:=(.slice none 0 0,Mg.zero)
theorem made_flat (n:Nat):(madeCells zeroMg (n*11)).toList=flatC (msC (List.replicate n nilM)):=by
 have hz:zeroMg.size=11:=rfl
 apply List.ext_getElem?
 intro i
 by_cases hi:i<n*11
 ·have e:i=i/11*11+i%11:=by omega
  have h2:=flatC_at (msC (List.replicate n nilM)) (msC_sz _) (i/11) (i%11) (by rw[msC_len,List.length_replicate];omega) (by omega)
  rw[←e]at h2
  have h3:(msC (List.replicate n nilM)).getD (i/11) #[]=zeroMg:=by
   have:i/11<n:=by omega
   simp[msC,List.getD,this]
   rfl
  rw[h2,h3]
  have hlt:i%11<zeroMg.size:=by rw[hz];omega
  have h4:(madeCells zeroMg (n*11)).toList[i]?=some zeroMg[i%11]!:=by simp[madeCells,hi,hz]
  rw[h4,getElem!_pos zeroMg (i%11) hlt,Array.getElem?_eq_getElem hlt]
 ·rw[List.getElem?_eq_none (by rw[Array.length_toList,size_madeCells];omega),List.getElem?_eq_none (by rw[flatC_len _ (msC_sz _),msC_len,List.length_replicate];omega)]
theorem OwnP.made {w w1:World} {n:Nat} {g:Nat} (h:w1.ownsRow w.heap.size 85 11 (.slice (some ⟨g,0,none⟩) n n) n (madeCells zeroMg (n*11)).toList):OwnP w1 w.heap.size (.slice (some ⟨g,0,none⟩) n n) (List.replicate n nilM):=by
 refine⟨⟨msC_sz _,?_⟩,fun p hp=>?_,?_⟩
 ·rw[←made_flat,msC_len,List.length_replicate]
  exact h
 ·rw[List.eq_of_mem_replicate hp]
  exact mine_nil _ _
 ·refine List.pairwise_replicate.2 (.inr ?_)
  intro x hx
  rw[show mineOf nilM.1 nilM.2.h.ks=[]from mineOf_nil _]at hx
  simp at hx
theorem fill_post (ms:List Mg) (n j:Nat) (m:Mg) (e:ms[j]?=some m) (hn:n=ms.length):(ms.take j++List.replicate (n-j) Mg.zero).set j m=ms.take (j+1)++List.replicate (n-(j+1)) Mg.zero:=by
 obtain⟨hj,he⟩:=List.getElem?_eq_some_iff.1 e
 have hl:(ms.take j).length=j:=by rw[List.length_take];omega
 rw[List.set_append_right _ _ (by omega),hl,Nat.sub_self,take_snocM ms j m e,show n-j=(n-(j+1))+1 by omega,List.replicate_succ,List.set_cons_zero]
 simp
theorem toMsgS_any (v:Value) (ps:List (Value×Mg)) (w:World) (hr:RdP w v ps) (hs:SmP ps) (hl:ps.length≤1048576):
  Calls Tryz.prog 15 #[v] w fun e w'=>∃u qs,e=.returned u∧msOf qs=msOf ps∧OwnP w' w.heap.size u qs∧Below w.heap.size w w':=by
 obtain⟨i0,hi,hz0,hz1,hz2⟩:=info_parts Tryz.infoM
 obtain⟨ao,cap,rfl⟩:=hr.form
 have HR:Hid (∀wx,Below w.heap.size w wx→RdP wx (.slice ao ps.length cap) ps):=fun wx b=>hr.below b
 obtain⟨-,hnc,hcm, -⟩:=hr.el
 unfold maxLen at hcm
 clear hr
 obtain⟨n,hn⟩:∃n,n=ps.length:=⟨_,rfl⟩
 rw[←hn]at HR hnc hl⊢
 have HN:Hid (n=(msOf ps).length):=by rw[msOf_len];exact hn
 have HSm:Hid (SmP ps):=hs
 clear hn hs
 go_enter Tryz.func15,Tryz.ntmps15
 go_wp2_with (refine wpList_make_full _ rfl _ _ 30 rfl w.heap.size 85 i0 (.agg zeroMg) 11 Tryz.underlying30 hi hz0 hz1 _ _ _ _ n rfl rfl rfl rfl (by rw[hz2];omega) (by unfold maxLen;omega) (Nat.le_refl _) ?_)
 intro w1 hown hgr
 have HO:Hid (OwnP w1 w.heap.size (.slice (some ⟨w.heap.size,0,none⟩) n n) (List.replicate n nilM)∧Below w.heap.size w w1):=⟨OwnP.made hown,(Below.refl _ _).grown hgr (Nat.le_refl _) (fun k e=>by cases e)⟩
 clear hown hgr
 go_wp2
 go_loopw [4] (fun i wr=>∃j:Nat,∃qs,j≤n∧i=.int .i64 j∧Hid (msOf qs=(msOf ps).take j++List.replicate (n-j) Mg.zero∧OwnP wr w.heap.size (.slice (some ⟨w.heap.size,0,none⟩) n n) qs∧Below w.heap.size w wr)) (fun i _=>n-(intOf i).toNat)
 case atStart=>exact⟨0,_,Nat.zero_le _,rfl,by simp[msOf,nilM],HO.out.1,HO.out.2⟩
 case round=>
  obtain⟨j,qs,hj,rfl,HI⟩:=hrel
  by_cases hlt:(j:Int)<(n:Int)
  ·obtain⟨b,off,u,m,he,rfl,hrk,hc⟩:=(HR.out wr HI.out.2.2).el.2.2.2 j (by omega)
   have C:=toMsg_any u m wr hrk (HSm.out.at he)
   have HC:Hid (∀i,i<11→wr.cell? ⟨b,off+j*11+i,none⟩=(mgA u m)[i]?):=hc
   have HE:Hid ((msOf ps)[j]?=some m):=msOf_at he
   have hlq:n=(msC qs).length:=by
    have h1:=congrArg List.length HI.out.1
    have h2:=HN.out
    rw[msOf_len,List.length_append,List.length_take,List.length_replicate]at h1
    rw[msC_len];omega
   have HLQ:Hid (n=(msC qs).length):=hlq
   clear hc hrk he hlq
   go_wp2_with (refine wpList_getO Tryz.isLM rfl _ rfl b (off+j*11) rfl (mgA u m) rfl HC.out ?_)
   refine C.mono ?_
   rintro e w2 ⟨u2,rfl,o2,b2⟩
   have hu:u2.oneCell'=true:=reads_one o2.reads
   have HP:Hid (OwnP wr w.heap.size (.slice (some ⟨w.heap.size,0,none⟩) n n) qs∧Mine w2 wr.heap.size u2 m.h.ks∧Below wr.heap.size wr w2∧Below w.heap.size w w2):=⟨HI.out.2.1,.inl o2,b2,HI.out.2.2.trans (b2.mono HI.out.2.2.size)⟩
   have hrow:=HI.out.2.1.row.below b2
   clear C HC o2 b2
   unfold MgV
   go_wp2_with (refine wpList_putRow Tryz.isMg rfl _ _ rfl w.heap.size w.heap.size n n j (msC qs) (mgA u2 m) hrow HLQ.out (by omega) rfl rfl rfl (mgA_one m hu) ?_;intro w4 s4 g4)
   have HQ:Hid (msOf (qs.set j (u2,m))=(msOf ps).take (j+1)++List.replicate (n-(j+1)) Mg.zero∧OwnP w4 w.heap.size (.slice (some ⟨w.heap.size,0,none⟩) n n) (qs.set j (u2,m))∧Below w.heap.size w w4):=by
    refine⟨?_,HP.out.1.setAt HP.out.2.1 HP.out.2.2.1 HI.out.2.2.size s4 g4,HP.out.2.2.2.grown g4 HP.out.2.2.2.size (fun x e=>by cases e;exact Nat.le_refl _)⟩
    rw[show msOf (qs.set j (u2,m))=(msOf qs).set j m by simp[msOf,List.map_set],HI.out.1,fill_post _ n j m HE.out HN.out]
   clear hrow s4 g4
   go_wp2
   go_roundw
   case rel=>exact⟨j+1,_,by omega,by go_num,HQ.out.1,HQ.out.2.1,HQ.out.2.2⟩
   case measure=>simp[intOf];omega
  ·go_wp2
   go_ret
   have h1:=HI.out.1
   rw[List.take_of_length_le (by have:=HN.out;omega),show n-j=0 by omega]at h1
   exact⟨_,rfl,_,by simpa using h1,HI.out.2.1,HI.out.2.2⟩
theorem bel_cell {w w':World} {a:Addr} {v:Value} (b:Below w.heap.size w w') (h:w.cell? a=some v):w'.cell? a=some v:=by
 rw[b.cell (p:=a) (World.block_lt_of_cell? w _ h)]
 exact h
theorem eqMsgS_any (v v2:Value) (ps qs:List (Value×Mg)) (w:World) (hr:RdP w v ps) (hr2:RdP w v2 qs) (he:msOf ps=msOf qs) (hs:SmP ps) (hl:ps.length≤1048576):
  Calls Tryz.prog 20 #[v,v2] w fun e w'=>e=.returned (.bool true)∧Below w.heap.size w w':=by
 have hlen:qs.length=ps.length:=by rw[←msOf_len,←msOf_len,he]
 obtain⟨ao,cap,rfl⟩:=hr.form
 obtain⟨ao2,cap2,rfl⟩:=hr2.form
 have HR:Hid (∀wx,Below w.heap.size w wx→RdP wx (.slice ao ps.length cap) ps):=fun wx b=>hr.below b
 have HR2:Hid (∀wx,Below w.heap.size w wx→RdP wx (.slice ao2 qs.length cap2) qs):=fun wx b=>hr2.below b
 obtain⟨-,hnc,hcm, -⟩:=hr.el
 obtain⟨-,hnc2,hcm2, -⟩:=hr2.el
 unfold maxLen at hcm hcm2
 rw[hlen]at HR2 hnc2⊢
 clear hr hr2
 obtain⟨n,hn⟩:∃n,n=ps.length:=⟨_,rfl⟩
 rw[←hn]at HR HR2 hnc hnc2 hl⊢
 have HN:Hid (n=ps.length):=hn
 have HSm:Hid (SmP ps∧msOf ps=msOf qs):=⟨hs,he⟩
 clear hn hs he hlen
 go_enter Tryz.func20,Tryz.ntmps20
 go_wp2
 go_loopw [5] (fun i wr=>∃j:Nat,j≤n∧i=.int .i64 j∧Hid (Below w.heap.size w wr)) (fun i _=>n-(intOf i).toNat)
 case atStart=>exact⟨0,Nat.zero_le _,rfl,Below.refl _ _⟩
 case round=>
  obtain⟨j,hj,rfl,HI⟩:=hrel
  by_cases hlt:(j:Int)<(n:Int)
  ·obtain⟨b,off,u,m,he,rfl,hrk,hc⟩:=(HR.out wr HI.out).el.2.2.2 j (by omega)
   obtain⟨b2,off2,u2,m2,he2,rfl,hrk2,hc2⟩:=(HR2.out wr HI.out).el.2.2.2 j (by omega)
   have hm:m=m2:=by
    have h1:=msOf_at he
    have h2:=msOf_at he2
    rw[HSm.out.2,h2]at h1
    exact(Option.some.inj h1).symm
   subst hm
   have C:Hid (∀wx,Below wr.heap.size wr wx→Calls Tryz.prog 35 #[MgV u m,MgV u2 m] wx fun e w'=>e=.returned (.bool true)∧Below wx.heap.size wx w'):=fun wx bb=>eqMsg_any u u2 m wx (hrk.below bb (Nat.le_refl _)) (hrk2.below bb (Nat.le_refl _)) (HSm.out.1.at he)
   have q0:∀w',Below wr.heap.size wr w'→w'.cell? ⟨b,off+j*11,none⟩=some (.int .i64 m.dst):=fun w' bb=>bel_cell bb (hc 0 (by decide))
   have q1:∀w',Below wr.heap.size wr w'→w'.cell? ⟨b,off+j*11+1,none⟩=some (.int .i64 m.kd):=fun w' bb=>bel_cell bb (hc 1 (by decide))
   have q2:∀w',Below wr.heap.size wr w'→w'.cell? ⟨b,off+j*11+2,none⟩=some (.int .i64 m.tr):=fun w' bb=>bel_cell bb (hc 2 (by decide))
   have q3:∀w',Below wr.heap.size wr w'→w'.cell? ⟨b,off+j*11+3,none⟩=some (.int .i64 m.pl):=fun w' bb=>bel_cell bb (hc 3 (by decide))
   have q4:∀w',Below wr.heap.size wr w'→w'.cell? ⟨b,off+j*11+4,none⟩=some (.int .i64 m.tn):=fun w' bb=>bel_cell bb (hc 4 (by decide))
   have q5:∀w',Below wr.heap.size wr w'→w'.cell? ⟨b,off+j*11+5,none⟩=some (.int .i64 m.va):=fun w' bb=>bel_cell bb (hc 5 (by decide))
   have q6:∀w',Below wr.heap.size wr w'→w'.cell? ⟨b,off+j*11+6,none⟩=some (.int .i64 m.ep):=fun w' bb=>bel_cell bb (hc 6 (by decide))
   have q7:∀w',Below wr.heap.size wr w'→w'.cell? ⟨b,off+j*11+7,none⟩=some (u):=fun w' bb=>bel_cell bb (hc 7 (by decide))
   have q8:∀w',Below wr.heap.size wr w'→w'.cell? ⟨b,off+j*11+8,none⟩=some (.int .i64 m.h.kd):=fun w' bb=>bel_cell bb (hc 8 (by decide))
   have q9:∀w',Below wr.heap.size wr w'→w'.cell? ⟨b,off+j*11+9,none⟩=some (.int .i64 m.h.ho):=fun w' bb=>bel_cell bb (hc 9 (by decide))
   have q10:∀w',Below wr.heap.size wr w'→w'.cell? ⟨b,off+j*11+10,none⟩=some (.int .i64 m.h.tu):=fun w' bb=>bel_cell bb (hc 10 (by decide))
   have r0:∀w',Below wr.heap.size wr w'→w'.cell? ⟨b2,off2+j*11,none⟩=some (.int .i64 m.dst):=fun w' bb=>bel_cell bb (hc2 0 (by decide))
   have r1:∀w',Below wr.heap.size wr w'→w'.cell? ⟨b2,off2+j*11+1,none⟩=some (.int .i64 m.kd):=fun w' bb=>bel_cell bb (hc2 1 (by decide))
   have r2:∀w',Below wr.heap.size wr w'→w'.cell? ⟨b2,off2+j*11+2,none⟩=some (.int .i64 m.tr):=fun w' bb=>bel_cell bb (hc2 2 (by decide))
   have r3:∀w',Below wr.heap.size wr w'→w'.cell? ⟨b2,off2+j*11+3,none⟩=some (.int .i64 m.pl):=fun w' bb=>bel_cell bb (hc2 3 (by decide))
   have r4:∀w',Below wr.heap.size wr w'→w'.cell? ⟨b2,off2+j*11+4,none⟩=some (.int .i64 m.tn):=fun w' bb=>bel_cell bb (hc2 4 (by decide))
   have r5:∀w',Below wr.heap.size wr w'→w'.cell? ⟨b2,off2+j*11+5,none⟩=some (.int .i64 m.va):=fun w' bb=>bel_cell bb (hc2 5 (by decide))
   have r6:∀w',Below wr.heap.size wr w'→w'.cell? ⟨b2,off2+j*11+6,none⟩=some (.int .i64 m.ep):=fun w' bb=>bel_cell bb (hc2 6 (by decide))
   have r7:∀w',Below wr.heap.size wr w'→w'.cell? ⟨b2,off2+j*11+7,none⟩=some (u2):=fun w' bb=>bel_cell bb (hc2 7 (by decide))
   have r8:∀w',Below wr.heap.size wr w'→w'.cell? ⟨b2,off2+j*11+8,none⟩=some (.int .i64 m.h.kd):=fun w' bb=>bel_cell bb (hc2 8 (by decide))
   have r9:∀w',Below wr.heap.size wr w'→w'.cell? ⟨b2,off2+j*11+9,none⟩=some (.int .i64 m.h.ho):=fun w' bb=>bel_cell bb (hc2 9 (by decide))
   have r10:∀w',Below wr.heap.size wr w'→w'.cell? ⟨b2,off2+j*11+10,none⟩=some (.int .i64 m.h.tu):=fun w' bb=>bel_cell bb (hc2 10 (by decide))
   have z0:(0:Int)≤(j:Int):=by omega
   clear hc hc2 hrk hrk2 he he2
   unfold MgV mgA at C
   go_upto_region 6 with fail
   go_region_held3 (fun w'=>Below wr.heap.size wr w') (repeat'(first|with_reducible assumption|with_reducible exact Below.refl _ _|with_reducible refine bel_alloc ?_|with_reducible refine bel_drew ?_|with_reducible refine bel_trans ?_ (by with_reducible assumption)))
    (first|(go_at_call 35;refine(C.out _ bels).mono ?_;rintro e w3 ⟨rfl,b3⟩;have B3:Hid (Below wr.heap.size wr w3):=(show Below wr.heap.size wr w3 from by repeat'(first|with_reducible assumption|with_reducible exact Below.refl _ _|with_reducible refine bel_alloc ?_|with_reducible refine bel_drew ?_|with_reducible refine bel_trans ?_ (by with_reducible assumption)))))
   all_goals
    have HB:Hid (Below w.heap.size w _):=HI.out.trans (B3.out.mono HI.out.size)
    go_wp2
    go_roundw
    case rel=>exact⟨j+1,by omega,by go_num,HB.out⟩
    case measure=>simp[intOf];omega
  ·go_wp2
   go_ret
   exact⟨rfl,HI.out⟩
end Go.Proofs.YtflbcjgkdokhiaaGreatDoor
