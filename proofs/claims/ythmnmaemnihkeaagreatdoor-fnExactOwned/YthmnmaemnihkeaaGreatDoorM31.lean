/- Posts in the state of a long walk: marked; what is answered isn't great. -/
import Derived.Test.YthmnmaemnihkeaaGreatDoorLPost2
import Derived.Test.YthmnmaemnihkeaaGreatDoorLNodeS
namespace Go.Proofs.YthmnmaemnihkeaaGreatDoor
open Go.ChangeShapes Go.WideShapes Go.ChangeAt Go.RowKit
theorem kcs_ink:∀(k:Int) (ps:List (Value×Mg)),kcs (inkL k ps)=kcs ps
 |_,[]=>rfl
 |k,p::ps=>by
  have h:mineOf p.1 (p.2.inked k).h.ks=mineOf p.1 p.2.h.ks:=mineOf_len p.1 (by simp[Mg.inked,marks_length])
  have e:=kcs_ink (k+10+p.2.h.ks.length) ps
  unfold kcs at e⊢
  simp only[inkL,List.flatMap_cons]
  rw[h,e]
theorem psB_ink (v:Value) (k:Int) (ps:List (Value×Mg)):psB v (inkL k ps)=psB v ps:=by unfold psB;rw[kcs_ink]
def totM (ms:List Mg):Nat:=(ms.map fun m=>m.h.ks.length).sum
theorem totK_is (ps:List (Value×Mg)):totK ps=totM (msOf ps):=by simp[totK,totM,msOf,Function.comp_def]
structure FewM (ms:List Mg) (n t:Nat):Prop where
 len:ms.length≤n
 tot:totM ms≤t
 each:∀m∈ms,m.h.ks.length≤1048576
theorem FewM.of {ps:List (Value×Mg)} (hs:SmP ps) (hl:ps.length≤1048576) (ht:totK ps≤1048576):FewM (msOf ps) 1048576 1048576:=
 ⟨by rw[msOf_len];exact hl,by rw[←totK_is];exact ht,fun m hm=>by
  obtain⟨p,hp,rfl⟩:=List.mem_map.1 hm
  exact hs p hp⟩
theorem FewM.lenP {ps:List (Value×Mg)} {ms:List Mg} {n t:Nat} (h:FewM ms n t) (e:msOf ps=ms):ps.length≤n:=by rw[←msOf_len,e];exact h.len
theorem FewM.bound {ps:List (Value×Mg)} {ms:List Mg} {n t:Nat} (h:FewM ms n t) (e:msOf ps=ms):10*ps.length+totK ps≤10*n+t:=by
 have h1:=h.lenP e
 have h2:=h.tot
 rw[totK_is,e]
 omega
theorem FewM.nil (n t:Nat):FewM [] n t:=⟨Nat.zero_le _,Nat.zero_le _,by simp⟩
theorem FewM.mono {ms:List Mg} {n t n' t':Nat} (h:FewM ms n t) (hn:ms.length≤n') (ht:t≤t'):FewM ms n' t':=⟨hn,Nat.le_trans h.tot ht,h.each⟩
theorem FewM.app {a b:List Mg} {n t n' t':Nat} (h:FewM a n t) (h':FewM b n' t'):FewM (a++b) (n+n') (t+t'):=
 ⟨by have:=h.len;have:=h'.len;simp;omega,by have:=h.tot;have:=h'.tot;simp[totM]at*;omega,fun m hm=>(List.mem_append.1 hm).elim (h.each m) (h'.each m)⟩
theorem totM_erase:∀(ms:List Mg) (j:Nat),totM (ms.eraseIdx j)≤totM ms
 |[],_=>by simp
 |m::ms,0=>by simp[totM]
 |m::ms,j+1=>by
  have:=totM_erase ms j
  simp[totM]at*
  omega
theorem FewM.erase {a:List Mg} {n t:Nat} (h:FewM a n t) (j:Nat):FewM (a.eraseIdx j) n t:=
 ⟨Nat.le_trans (List.length_eraseIdx_le ..) h.len,Nat.le_trans (totM_erase a j) h.tot,fun m hm=>h.each m (List.mem_of_mem_eraseIdx hm)⟩
theorem FewM.at {a:List Mg} {n t:Nat} (h:FewM a n t) (j:Nat):(a.getD j Mg.zero).h.ks.length≤1048576∧FewM [a.getD j Mg.zero] 1 1048576:=by
 have h1:(a.getD j Mg.zero).h.ks.length≤1048576:=by
  rw[List.getD_eq_getElem?_getD]
  rcases hj:a[j]? with _|m
  ·exact Nat.zero_le _
  ·exact h.each m (List.mem_of_getElem? hj)
 exact⟨h1,Nat.le_refl _,by simpa[totM]using h1,fun m hm=>by rw[List.mem_singleton]at hm;rw[hm];exact h1⟩
theorem FewM.taken {a:List Mg} (ha:FewM a 1048576 1048576) (i:Int):FewM (takeP a i).1 40 1048576∧(takeP a i).2.1.h.ks.length≤1048576:=by
 unfold takeP
 split
 ·rename_i h0
  have ha':=ha.mono (postOk_len h0) (Nat.le_refl _)
  split
  ·exact⟨ha'.erase _,(ha'.at _).1⟩
  ·exact⟨ha',Nat.zero_le _⟩
 ·exact⟨FewM.nil _ _,Nat.zero_le _⟩
def TkI (u:Value) (rs:List (Value×Mg)) (k:Value) (xs:List Int):Item:=
 ⟨psB u rs++mineOf k xs,0,fun w=>OwnP w 0 u rs∧Mine w 0 k xs∧(∀x∈mineOf k xs,x∉psB u rs),fun _ _ e _ h=>⟨h.1.frame (fun x hx=>e x (List.mem_append_left _ hx)),h.2.1.frame (fun x hx=>e x (List.mem_append_right _ hx)),h.2.2⟩⟩
theorem lt_both {wy:World} {u k:Value} {rs:List (Value×Mg)} {xs:List Int} {base:Nat} (o:OwnP wy base u rs) (m:Mine wy base k xs):∀x∈psB u rs++mineOf k xs,base≤x∧x<wy.heap.size:=fun x hx=>
 (List.mem_append.1 hx).elim (o.lt x) (mineOf_lt m)
theorem Sta.taken {w wx wy:World} {L:List Item} {u k:Value} {rs:List (Value×Mg)} {xs:List Int} (h:Sta w wx L) (o:OwnP wy wx.heap.size u rs) (m:Mine wy wx.heap.size k xs) (a:∀x∈mineOf k xs,x∉psB u rs) (b:Below wx.heap.size wx wy):Sta w wy (TkI u rs k xs::L):=
 h.add b (TkI u rs k xs) ⟨o.mono (Nat.zero_le _),m.mono (Nat.zero_le _),a⟩ (lt_both o m)
end Go.Proofs.YthmnmaemnihkeaaGreatDoor
set_option maxRecDepth 20000
set_option maxHeartbeats 8000000
namespace Go.Proofs.YthmnmaemnihkeaaGreatDoor
open Go.ChangeShapes Go.WideShapes Go.ChangeAt Go.RowKit
def inkEv (k:Int):Ev:=⟨k,k+1,mtext (k+1+1).toNat,⟨k+1+1+1,mtext (k+1+1+1+1).toNat⟩,k+1+1+1+1+1⟩
def inkEL:Int→List Ev→List Ev
 |_,[]=>[]
 |k,_::r=>inkEv k::inkEL (k+6) r
theorem inkEL_len:∀(k:Int) (es:List Ev),(inkEL k es).length=es.length
 |_,[]=>rfl
 |k,_::r=>by simp[inkEL,inkEL_len _ r]
theorem inkEL_snoc:∀(k:Int) (es:List Ev) (y:Ev),inkEL k (es++[y])=inkEL k es++[inkEv (k+6*es.length)]
 |k,[],y=>by simp[inkEL]
 |k,x::r,y=>by
  rw[List.cons_append,inkEL,inkEL_snoc,inkEL,List.cons_append,show k+6+6*(r.length:Int)=k+6*((x::r).length:Int) by simp only[List.length_cons];omega]
theorem inkEL_step (k:Int) (es:List Ev) (j:Nat) (y:Ev) (e:es[j]?=some y):(inkEL k (es.take j)++es.drop j).set j (inkEv (k+6*j))=inkEL k (es.take (j+1))++es.drop (j+1):=by
 obtain⟨hj,rfl⟩:=List.getElem?_eq_some_iff.1 e
 have hl:(inkEL k (es.take j)).length=j:=by rw[inkEL_len,List.length_take];omega
 have hl2:(es.take j).length=j:=by rw[List.length_take];omega
 rw[List.take_succ_eq_append_getElem hj,inkEL_snoc,List.set_append_right _ _ (by omega),hl,hl2,Nat.sub_self,List.drop_eq_getElem_cons hj,List.set_cons_zero,List.append_assoc]
 rfl
theorem inkEL_at (k:Int) (es:List Ev) (j:Nat) (y:Ev) (e:es[j]?=some y):(inkEL k (es.take j)++es.drop j)[j]?=some y:=by
 obtain⟨hj,rfl⟩:=List.getElem?_eq_some_iff.1 e
 have hl:(inkEL k (es.take j)).length=j:=by rw[inkEL_len,List.length_take];omega
 rw[List.getElem?_append_right (by omega),hl,Nat.sub_self,List.drop_eq_getElem_cons hj]
 rfl
theorem OwnE.put1 {w:World} {base g n cap:Nat} {es:List Ev} (h:OwnE w base (.slice (some ⟨g,0,none⟩) n cap) es) (j i:Nat) {y y':Ev} (e:es[j]?=some y) (hi:i<6) (x:Value) (hA:(evA y).setIfInBounds i x=evA y'):
  OwnE (w.setCell ⟨g,j*6+i,none⟩ x) base (.slice (some ⟨g,0,none⟩) n cap) (es.set j y'):=by
 have hn:n=es.length:=(RdE.el (OwnE.rd h)).1
 obtain⟨hj,he⟩:=List.getElem?_eq_some_iff.1 e
 have hrow:=(OwnRow.put h (by rw[hn];simp[evC]) j i (by omega) hi (evA y) (by simp[evC,e]) x).2.2
 exact OwnE.setAt (by rw[←hA];exact hrow)
theorem OwnE.cellAt {w:World} {base g n cap:Nat} {es:List Ev} (h:OwnE w base (.slice (some ⟨g,0,none⟩) n cap) es) (j i:Nat) {y:Ev} (e:es[j]?=some y) (hi:i<6):w.cell? ⟨g,j*6+i,none⟩=(evA y)[i]?∧w.frozen? ⟨g,j*6+i,none⟩=false:=by
 have hn:n=es.length:=(RdE.el (OwnE.rd h)).1
 obtain⟨hj,he⟩:=List.getElem?_eq_some_iff.1 e
 obtain⟨b,off,y',e',hb,hc⟩:=(RdE.el (OwnE.rd h)).2.2.2 j (by omega)
 cases hb
 rw[e]at e'
 cases e'
 refine⟨?_,(OwnRow.put h (by rw[hn];simp[evC]) j i (by omega) hi (evA y) (by simp[evC,e]) undef).1⟩
 rw[←hc i hi,Nat.zero_add]
theorem markEventS_any (v:Value) (es:List Ev) (k:Int) (w:World) (base:Nat) (ho:OwnE w base v es) (hb:6*es.length≤268435456) (h0:1≤k) (h1:k≤536870912):
  Calls Tryz.prog 33 #[v,.int .i64 k] w fun e w'=>e=.returned (.int .i64 (k+6*es.length))∧OwnE w' base v (inkEL k es)∧Turned w w' (blk v):=by
 obtain⟨ao,cap,rfl⟩:=RdE.form (OwnE.rd ho)
 obtain⟨-,hnc,hcm, -⟩:=RdE.el (OwnE.rd ho)
 unfold maxLen at hcm
 have HG:Hid (0<es.length→∃g,ao=some ⟨g,0,none⟩):=fun hp=>by
  rcases OwnRow.ow ho |>.2 with⟨e,_⟩|⟨g,cap',cur,e,_⟩
  ·simp at e;have:=e.2.1;simp[this]at hp
  ·simp at e;exact⟨g,e.1⟩
 obtain⟨n,hn⟩:∃n,n=es.length:=⟨_,rfl⟩
 rw[←hn]at HG hnc ho hb⊢
 have HN:Hid (n=es.length):=hn
 have HO:Hid (OwnE w base (.slice ao n cap) es):=ho
 clear hn ho
 go_enter Tryz.func33,Tryz.ntmps33
 go_wp2
 go_loopw [1,5] (fun l i wr=>∃j:Nat,∃x:Int,j≤n∧i=.int .i64 j∧l=.int .i64 x∧1≤x∧x≤805306368∧Hid (x=k+6*j∧OwnE wr base (.slice ao n cap) (inkEL k (es.take j)++es.drop j)∧Turned w wr (blk (.slice ao n cap)))) (fun _ i _=>n-(intOf i).toNat)
 case atStart=>exact⟨0,k,Nat.zero_le _,rfl,rfl,h0,by omega,by simp,by simpa[inkEL]using HO.out,Turned.refl' _ _⟩
 case round=>
  obtain⟨j,x,hj,rfl,rfl,hx0,hx1,HI⟩:=hrel
  by_cases hlt:(j:Int)<(n:Int)
  ·obtain⟨g,rfl⟩:=HG.out (by have:=HN.out;omega)
   obtain⟨m0,hp⟩:∃p,es[j]?=some p:=⟨_,List.getElem?_eq_getElem (by have:=HN.out;omega)⟩
   obtain⟨qs,hqs⟩:∃qs,qs=inkEL k (es.take j)++es.drop j:=⟨_,rfl⟩
   have hj0:qs[j]?=some m0:=by rw[hqs];exact inkEL_at k es j m0 hp
   have HX:Hid (qs.set j (inkEv x)=inkEL k (es.take (j+1))++es.drop (j+1)∧x+6=k+6*((j+1:Nat):Int)∧x+6≤805306368∧g∈blk (.slice (some ⟨g,0,none⟩) n cap)):=
    ⟨by rw[hqs,HI.out.1];exact inkEL_step k es j m0 hp,by rw[HI.out.1];push_cast;omega,by have h5:=HI.out.1;have:(6*j:Int)+6≤6*n:=(by omega); omega,by simp[blk,Value.ownBlock]⟩
   have HQ:Hid (OwnE wr base (.slice (some ⟨g,0,none⟩) n cap) (qs.set j m0)∧Turned w wr (blk (.slice (some ⟨g,0,none⟩) n cap))∧j<qs.length):=by
    have hjl:=(List.getElem?_eq_some_iff.1 hj0).1
    have e:qs.set j m0=qs:=by
     obtain⟨hj',he⟩:=List.getElem?_eq_some_iff.1 hj0
     rw[←he]
     exact List.set_getElem_self hj'
    rw[e,hqs]
    exact⟨HI.out.2.1,HI.out.2.2,by rw[←hqs];exact hjl⟩
   have HXb:x+6≤805306368:=HX.out.2.2.1
   have HJ:Hid (j+1≤n):=by have:=hlt;rw[Hid];omega
   clear hqs HI hp hj0
   have E0:Hid (m0=⟨m0.kd,m0.who,m0.bs,⟨m0.an.st,m0.an.tx⟩,m0.set⟩):=rfl
   have cc:wr.cell? ⟨g,j*6,none⟩=some (.int .i64 m0.kd):=(OwnE.cellAt HQ.out.1 j 0 (show(qs.set j m0)[j]?=some m0 by rw[List.getElem?_set,if_pos rfl,if_pos HQ.out.2.2]) (by decide)).1
   have ff:wr.frozen? ⟨g,j*6,none⟩=false:=(OwnE.cellAt HQ.out.1 j 0 (show(qs.set j m0)[j]?=some m0 by rw[List.getElem?_set,if_pos rfl,if_pos HQ.out.2.2]) (by decide)).2
   obtain⟨m1,hm1⟩:∃m:Ev,m={m0 with kd:=x}:=⟨_,rfl⟩
   obtain⟨wa0,hwa0⟩:∃wn,wn=wr.setCell ⟨g,j*6,none⟩ (.int .i64 (x)):=⟨_,rfl⟩
   have HQn:Hid (OwnE wa0 base (.slice (some ⟨g,0,none⟩) n cap) (qs.set j m1)∧Turned w wa0 (blk (.slice (some ⟨g,0,none⟩) n cap))∧j<qs.length):=by
    rw[hwa0]
    have y0:=OwnE.put1 HQ.out.1 j 0 (y':=m1) (show(qs.set j m0)[j]?=some m0 by rw[List.getElem?_set,if_pos rfl,if_pos HQ.out.2.2]) (by decide) (.int .i64 (x)) (by rw[hm1];rfl)
    rw[List.set_set]at y0
    exact⟨y0,HQ.out.2.1.set1 HX.out.2.2.2 _ _,HQ.out.2.2⟩
   have En:Hid (m1=⟨x,m0.who,m0.bs,⟨m0.an.st,m0.an.tx⟩,m0.set⟩):=by rw[Hid,hm1,E0.out]
   clear hm1 E0
   go_upto_region 6 with fail
   rw[←hwa0]
   clear hwa0 cc ff
   replace HQ:Hid (OwnE wa0 base (.slice (some ⟨g,0,none⟩) n cap) (qs.set j m1)∧Turned w wa0 (blk (.slice (some ⟨g,0,none⟩) n cap))∧j<qs.length):=HQn.out
   have E0:Hid (m1=⟨x,m0.who,m0.bs,⟨m0.an.st,m0.an.tx⟩,m0.set⟩):=En.out
   clear HQn En
   have cc:wa0.cell? ⟨g,j*6+1,none⟩=some (.int .i64 m1.who):=(OwnE.cellAt HQ.out.1 j 1 (show(qs.set j m1)[j]?=some m1 by rw[List.getElem?_set,if_pos rfl,if_pos HQ.out.2.2]) (by decide)).1
   have ff:wa0.frozen? ⟨g,j*6+1,none⟩=false:=(OwnE.cellAt HQ.out.1 j 1 (show(qs.set j m1)[j]?=some m1 by rw[List.getElem?_set,if_pos rfl,if_pos HQ.out.2.2]) (by decide)).2
   obtain⟨m2,hm2⟩:∃m:Ev,m={m1 with who:=x+1}:=⟨_,rfl⟩
   obtain⟨wa1,hwa1⟩:∃wn,wn=wa0.setCell ⟨g,j*6+1,none⟩ (.int .i64 (x+1)):=⟨_,rfl⟩
   have HQn:Hid (OwnE wa1 base (.slice (some ⟨g,0,none⟩) n cap) (qs.set j m2)∧Turned w wa1 (blk (.slice (some ⟨g,0,none⟩) n cap))∧j<qs.length):=by
    rw[hwa1]
    have y0:=OwnE.put1 HQ.out.1 j 1 (y':=m2) (show(qs.set j m1)[j]?=some m1 by rw[List.getElem?_set,if_pos rfl,if_pos HQ.out.2.2]) (by decide) (.int .i64 (x+1)) (by rw[hm2];rfl)
    rw[List.set_set]at y0
    exact⟨y0,HQ.out.2.1.set1 HX.out.2.2.2 _ _,HQ.out.2.2⟩
   have En:Hid (m2=⟨x,x+1,m0.bs,⟨m0.an.st,m0.an.tx⟩,m0.set⟩):=by rw[Hid,hm2,E0.out]
   clear hm2 E0
   go_upto_region 8 with fail
   rw[←hwa1]
   clear hwa1 cc ff
   replace HQ:Hid (OwnE wa1 base (.slice (some ⟨g,0,none⟩) n cap) (qs.set j m2)∧Turned w wa1 (blk (.slice (some ⟨g,0,none⟩) n cap))∧j<qs.length):=HQn.out
   have E0:Hid (m2=⟨x,x+1,m0.bs,⟨m0.an.st,m0.an.tx⟩,m0.set⟩):=En.out
   clear HQn En
   have CT:=mtext_any (x+1+1) wa1 (by omega) (by omega)
   unfold S at CT
   go_wp2_with fail
   refine CT.mono ?_
   rintro e wt2 ⟨rfl,bt⟩
   replace HQ:Hid (OwnE wt2 base (.slice (some ⟨g,0,none⟩) n cap) (qs.set j m2)∧Turned w wt2 (blk (.slice (some ⟨g,0,none⟩) n cap))∧j<qs.length):=⟨HQ.out.1.below bt,HQ.out.2.1.both (Turned.below _ bt),HQ.out.2.2⟩
   clear bt CT
   have cc:wt2.cell? ⟨g,j*6+2,none⟩=some (.string ⟨m2.bs.toArray⟩):=(OwnE.cellAt HQ.out.1 j 2 (show(qs.set j m2)[j]?=some m2 by rw[List.getElem?_set,if_pos rfl,if_pos HQ.out.2.2]) (by decide)).1
   have ff:wt2.frozen? ⟨g,j*6+2,none⟩=false:=(OwnE.cellAt HQ.out.1 j 2 (show(qs.set j m2)[j]?=some m2 by rw[List.getElem?_set,if_pos rfl,if_pos HQ.out.2.2]) (by decide)).2
   obtain⟨m3,hm3⟩:∃m:Ev,m={m2 with bs:=mtext (x+1+1).toNat}:=⟨_,rfl⟩
   obtain⟨wa2,hwa2⟩:∃wn,wn=wt2.setCell ⟨g,j*6+2,none⟩ (.string ⟨(mtext (x+1+1).toNat).toArray⟩):=⟨_,rfl⟩
   have HQn:Hid (OwnE wa2 base (.slice (some ⟨g,0,none⟩) n cap) (qs.set j m3)∧Turned w wa2 (blk (.slice (some ⟨g,0,none⟩) n cap))∧j<qs.length):=by
    rw[hwa2]
    have y0:=OwnE.put1 HQ.out.1 j 2 (y':=m3) (show(qs.set j m2)[j]?=some m2 by rw[List.getElem?_set,if_pos rfl,if_pos HQ.out.2.2]) (by decide) (.string ⟨(mtext (x+1+1).toNat).toArray⟩) (by rw[hm3];rfl)
    rw[List.set_set]at y0
    exact⟨y0,HQ.out.2.1.set1 HX.out.2.2.2 _ _,HQ.out.2.2⟩
   have En:Hid (m3=⟨x,x+1,mtext (x+1+1).toNat,⟨m0.an.st,m0.an.tx⟩,m0.set⟩):=by rw[Hid,hm3,E0.out]
   clear hm3 E0
   go_upto_region 10 with fail
   rw[←hwa2]
   clear hwa2 cc ff
   replace HQ:Hid (OwnE wa2 base (.slice (some ⟨g,0,none⟩) n cap) (qs.set j m3)∧Turned w wa2 (blk (.slice (some ⟨g,0,none⟩) n cap))∧j<qs.length):=HQn.out
   have E0:Hid (m3=⟨x,x+1,mtext (x+1+1).toNat,⟨m0.an.st,m0.an.tx⟩,m0.set⟩):=En.out
   clear HQn En
   have cc:wa2.cell? ⟨g,j*6+3,none⟩=some (.int .i64 m3.an.st):=(OwnE.cellAt HQ.out.1 j 3 (show(qs.set j m3)[j]?=some m3 by rw[List.getElem?_set,if_pos rfl,if_pos HQ.out.2.2]) (by decide)).1
   have ff:wa2.frozen? ⟨g,j*6+3,none⟩=false:=(OwnE.cellAt HQ.out.1 j 3 (show(qs.set j m3)[j]?=some m3 by rw[List.getElem?_set,if_pos rfl,if_pos HQ.out.2.2]) (by decide)).2
   obtain⟨m4,hm4⟩:∃m:Ev,m={m3 with an:={m3.an with st:=x+1+1+1}}:=⟨_,rfl⟩
   obtain⟨wa3,hwa3⟩:∃wn,wn=wa2.setCell ⟨g,j*6+3,none⟩ (.int .i64 (x+1+1+1)):=⟨_,rfl⟩
   have HQn:Hid (OwnE wa3 base (.slice (some ⟨g,0,none⟩) n cap) (qs.set j m4)∧Turned w wa3 (blk (.slice (some ⟨g,0,none⟩) n cap))∧j<qs.length):=by
    rw[hwa3]
    have y0:=OwnE.put1 HQ.out.1 j 3 (y':=m4) (show(qs.set j m3)[j]?=some m3 by rw[List.getElem?_set,if_pos rfl,if_pos HQ.out.2.2]) (by decide) (.int .i64 (x+1+1+1)) (by rw[hm4];rfl)
    rw[List.set_set]at y0
    exact⟨y0,HQ.out.2.1.set1 HX.out.2.2.2 _ _,HQ.out.2.2⟩
   have En:Hid (m4=⟨x,x+1,mtext (x+1+1).toNat,⟨x+1+1+1,m0.an.tx⟩,m0.set⟩):=by rw[Hid,hm4,E0.out]
   clear hm4 E0
   go_upto_region 12 with fail
   rw[←hwa3]
   clear hwa3 cc ff
   replace HQ:Hid (OwnE wa3 base (.slice (some ⟨g,0,none⟩) n cap) (qs.set j m4)∧Turned w wa3 (blk (.slice (some ⟨g,0,none⟩) n cap))∧j<qs.length):=HQn.out
   have E0:Hid (m4=⟨x,x+1,mtext (x+1+1).toNat,⟨x+1+1+1,m0.an.tx⟩,m0.set⟩):=En.out
   clear HQn En
   have CT:=mtext_any (x+1+1+1+1) wa3 (by omega) (by omega)
   unfold S at CT
   go_wp2_with fail
   refine CT.mono ?_
   rintro e wt4 ⟨rfl,bt⟩
   replace HQ:Hid (OwnE wt4 base (.slice (some ⟨g,0,none⟩) n cap) (qs.set j m4)∧Turned w wt4 (blk (.slice (some ⟨g,0,none⟩) n cap))∧j<qs.length):=⟨HQ.out.1.below bt,HQ.out.2.1.both (Turned.below _ bt),HQ.out.2.2⟩
   clear bt CT
   have cc:wt4.cell? ⟨g,j*6+4,none⟩=some (.string ⟨m4.an.tx.toArray⟩):=(OwnE.cellAt HQ.out.1 j 4 (show(qs.set j m4)[j]?=some m4 by rw[List.getElem?_set,if_pos rfl,if_pos HQ.out.2.2]) (by decide)).1
   have ff:wt4.frozen? ⟨g,j*6+4,none⟩=false:=(OwnE.cellAt HQ.out.1 j 4 (show(qs.set j m4)[j]?=some m4 by rw[List.getElem?_set,if_pos rfl,if_pos HQ.out.2.2]) (by decide)).2
   obtain⟨m5,hm5⟩:∃m:Ev,m={m4 with an:={m4.an with tx:=mtext (x+1+1+1+1).toNat}}:=⟨_,rfl⟩
   obtain⟨wa4,hwa4⟩:∃wn,wn=wt4.setCell ⟨g,j*6+4,none⟩ (.string ⟨(mtext (x+1+1+1+1).toNat).toArray⟩):=⟨_,rfl⟩
   have HQn:Hid (OwnE wa4 base (.slice (some ⟨g,0,none⟩) n cap) (qs.set j m5)∧Turned w wa4 (blk (.slice (some ⟨g,0,none⟩) n cap))∧j<qs.length):=by
    rw[hwa4]
    have y0:=OwnE.put1 HQ.out.1 j 4 (y':=m5) (show(qs.set j m4)[j]?=some m4 by rw[List.getElem?_set,if_pos rfl,if_pos HQ.out.2.2]) (by decide) (.string ⟨(mtext (x+1+1+1+1).toNat).toArray⟩) (by rw[hm5];rfl)
    rw[List.set_set]at y0
    exact⟨y0,HQ.out.2.1.set1 HX.out.2.2.2 _ _,HQ.out.2.2⟩
   have En:Hid (m5=⟨x,x+1,mtext (x+1+1).toNat,⟨x+1+1+1,mtext (x+1+1+1+1).toNat⟩,m0.set⟩):=by rw[Hid,hm5,E0.out]
   clear hm5 E0
   go_upto_region 14 with fail
   rw[←hwa4]
   clear hwa4 cc ff
   replace HQ:Hid (OwnE wa4 base (.slice (some ⟨g,0,none⟩) n cap) (qs.set j m5)∧Turned w wa4 (blk (.slice (some ⟨g,0,none⟩) n cap))∧j<qs.length):=HQn.out
   have E0:Hid (m5=⟨x,x+1,mtext (x+1+1).toNat,⟨x+1+1+1,mtext (x+1+1+1+1).toNat⟩,m0.set⟩):=En.out
   clear HQn En
   have cc:wa4.cell? ⟨g,j*6+5,none⟩=some (.int .i64 m5.set):=(OwnE.cellAt HQ.out.1 j 5 (show(qs.set j m5)[j]?=some m5 by rw[List.getElem?_set,if_pos rfl,if_pos HQ.out.2.2]) (by decide)).1
   have ff:wa4.frozen? ⟨g,j*6+5,none⟩=false:=(OwnE.cellAt HQ.out.1 j 5 (show(qs.set j m5)[j]?=some m5 by rw[List.getElem?_set,if_pos rfl,if_pos HQ.out.2.2]) (by decide)).2
   obtain⟨m6,hm6⟩:∃m:Ev,m={m5 with set:=x+1+1+1+1+1}:=⟨_,rfl⟩
   obtain⟨wa5,hwa5⟩:∃wn,wn=wa4.setCell ⟨g,j*6+5,none⟩ (.int .i64 (x+1+1+1+1+1)):=⟨_,rfl⟩
   have HQn:Hid (OwnE wa5 base (.slice (some ⟨g,0,none⟩) n cap) (qs.set j m6)∧Turned w wa5 (blk (.slice (some ⟨g,0,none⟩) n cap))∧j<qs.length):=by
    rw[hwa5]
    have y0:=OwnE.put1 HQ.out.1 j 5 (y':=m6) (show(qs.set j m5)[j]?=some m5 by rw[List.getElem?_set,if_pos rfl,if_pos HQ.out.2.2]) (by decide) (.int .i64 (x+1+1+1+1+1)) (by rw[hm6];rfl)
    rw[List.set_set]at y0
    exact⟨y0,HQ.out.2.1.set1 HX.out.2.2.2 _ _,HQ.out.2.2⟩
   have En:Hid (m6=⟨x,x+1,mtext (x+1+1).toNat,⟨x+1+1+1,mtext (x+1+1+1+1).toNat⟩,x+1+1+1+1+1⟩):=by rw[Hid,hm6,E0.out]
   clear hm6 E0
   go_upto_region 3 with fail
   rw[←hwa5]
   clear hwa5 cc ff
   replace HQ:Hid (OwnE wa5 base (.slice (some ⟨g,0,none⟩) n cap) (qs.set j m6)∧Turned w wa5 (blk (.slice (some ⟨g,0,none⟩) n cap))∧j<qs.length):=HQn.out
   have E0:Hid (m6=⟨x,x+1,mtext (x+1+1).toNat,⟨x+1+1+1,mtext (x+1+1+1+1).toNat⟩,x+1+1+1+1+1⟩):=En.out
   clear HQn En
   have HG2:Hid (x+1+1+1+1+1+1=k+6*((j+1:Nat):Int)∧OwnE wa5 base (.slice (some ⟨g,0,none⟩) n cap) (inkEL k (es.take (j+1))++es.drop (j+1))∧Turned w wa5 (blk (.slice (some ⟨g,0,none⟩) n cap))):=by
    refine⟨by have:=HX.out.2.1;omega,?_,HQ.out.2.1⟩
    rw[←HX.out.1,show inkEv x=m6 from E0.out.symm]
    exact HQ.out.1
   have hjn:=HJ.out
   go_wp2
   go_roundw
   case rel=>exact⟨j+1,x+1+1+1+1+1+1,hjn,by go_num,by go_num,by omega,by omega,HG2.out⟩
   case measure=>simp[intOf];omega
  ·have HE:Hid (x=k+6*n∧OwnE wr base (.slice ao n cap) (inkEL k es)):=by
    have h1:=HI.out.1
    have h2:=HI.out.2.1
    rw[List.take_of_length_le (by have:=HN.out;omega),List.drop_eq_nil_of_le (by have:=HN.out;omega),List.append_nil]at h2
    exact⟨by rw[h1];omega,h2⟩
   go_wp2
   go_ret
   exact⟨by rw[HE.out.1];rfl,HE.out.2,HI.out.2.2⟩
theorem StB.same {w w':World} {g:Nat} {t:TypeId} {cs:Array Value} (h:StB w g t cs) (e:w'.heap[g]?=w.heap[g]?):StB w' g t cs:=e.trans h
theorem Turned.kept {w w':World} {bs cs:List Nat} (h:Turned w w' bs) (hl:∀x∈cs,x<w.heap.size) (hn:∀x∈cs,x∉bs):∀x∈cs,w'.heap[x]?=w.heap[x]?:=fun x hx=>h.block x (hl x hx) (hn x hx)
theorem Nd.inkS_len (n:Nd) (k:Int):LenN n (n.inkS k):=⟨marks_length _ _,marks_length _ _,marks_length _ _,marks_length _ _,marks_length _ _⟩
theorem nsB_ink:∀(k:Int) (ns:List Nv),nsB (inkNL k ns)=nsB ns
 |_,[]=>rfl
 |k,y::r=>by
  have h:=nsB_ink (k+15+y.n.len) r
  unfold nsB at h⊢
  rw[inkNL,List.flatMap_cons,List.flatMap_cons,h,(Nd.inkS_len y.n k).bl]
theorem nvB_ink (v:Value) (k:Int) (ns:List Nv):nvB v (inkNL k ns)=nvB v ns:=by unfold nvB;rw[nsB_ink]
structure BdPr (ns:List Nv) (ps:List (Value×Mg)) (es:List Ev):Prop where
 bn:15*ns.length+(ns.map fun y=>y.n.len).sum≤67108864
 bp:10*ps.length+totK ps≤67108864
 be:6*es.length≤67108864
 sn:∀y∈ns,y.n.len≤1048576
 sp:SmP ps
def inkPE (k:Int) (ns:List Nv) (ps:List (Value×Mg)) (es:List Ev):Int:=inkE (inkNE k ns) ps+6*es.length
theorem markPair_any (u v x:Value) (ns:List Nv) (ps:List (Value×Mg)) (es:List Ev) (w:World) (base:Nat) (ho:OwnPr w base u v x ns ps es) (hb:BdPr ns ps es):
  Calls Tryz.prog 10 #[PrV u v x,.int .i64 1] w fun e w'=>e=.returned (.int .i64 (inkPE 1 ns ps es))∧OwnPr w' base u v x (inkNL 1 ns) (inkL (inkNE 1 ns) ps) (inkEL (inkE (inkNE 1 ns) ps) es)∧Turned w w' (nvB u ns++(psB v ps++blk x)):=by
 obtain⟨w1,hw1⟩:∃w1,w1=w.alloc (.cells (prA u v x) 40):=⟨_,rfl⟩
 have b1:Below w.heap.size w w1:=by rw[hw1];exact(Below.refl _ _).alloc (Nat.le_refl _) _
 have HO:Hid (OwnPr w1 base u v x ns ps es∧Turned w w1 (nvB u ns++(psB v ps++blk x))∧StB w1 w.heap.size 40 (prA u v x)):=⟨ho.below b1,Turned.below _ b1,by rw[hw1];exact StB.new _ _ _⟩
 have HLT:Hid (∀y∈nvB u ns++(psB v ps++blk x),y<w.heap.size):=fun y hy=>(ho.lt y hy).2
 have HB:Hid (BdPr ns ps es):=hb
 have HAP:Hid (OwnPr w base u v x ns ps es):=ho
 obtain⟨uo,uc,eu⟩:=ho.on.rd.form
 obtain⟨vo,vc,ev⟩:=ho.op.rd.form
 obtain⟨xo,xc,ex⟩:=RdE.form (OwnE.rd ho.oe)
 obtain⟨k1,hk1⟩:∃k1,k1=inkNE 1 ns:=⟨_,rfl⟩
 obtain⟨k2,hk2⟩:∃k2,k2=inkE k1 ps:=⟨_,rfl⟩
 have B1:1≤k1∧k1≤67108865:=by have:=hb.bn;rw[hk1];unfold inkNE;omega
 have B2:1≤k2∧k2≤134217729:=by have:=hb.bp;rw[hk2];unfold inkE;omega
 have HK:Hid (k1=inkNE 1 ns∧k2=inkE k1 ps):=⟨hk1,hk2⟩
 rw[show inkPE 1 ns ps es=k2+6*es.length by unfold inkPE;rw[←hk1,←hk2],←hk1,←hk2]
 obtain⟨b11,b12⟩:=B1
 obtain⟨b21,b22⟩:=B2
 clear ho hb b1 hk1 hk2
 subst eu
 subst ev
 subst ex
 unfold prA at hw1
 unfold PrV prA
 go_enter Tryz.func10,Tryz.ntmps10
 go_upto_region 1 with fail
 rw[←hw1]
 clear hw1
 have p0:w1.cell? ⟨w.heap.size,0,none⟩=some (.slice uo ns.length uc):=HO.out.2.2.cell 0 rfl
 go_wp2_with fail
 refine(markNodeS_any _ ns 1 w1 base HO.out.1.on (by have:=HB.out.bn;omega) HB.out.sn (by decide) (by decide)).mono ?_
 rintro e w2 ⟨rfl,o2,t2⟩
 have H2:Hid (OwnNs w2 base (.slice uo ns.length uc) (inkNL 1 ns)∧OwnP w2 base (.slice vo ps.length vc) ps∧OwnE w2 base (.slice xo es.length xc) es∧Turned w w2 (nvB (.slice uo ns.length uc) ns++(psB (.slice vo ps.length vc) ps++blk (.slice xo es.length xc)))∧StB w2 w.heap.size 40 (prA (.slice uo ns.length uc) (.slice vo ps.length vc) (.slice xo es.length xc))):=by
  have hl1:∀y∈nvB (.slice uo ns.length uc) ns++(psB (.slice vo ps.length vc) ps++blk (.slice xo es.length xc)),y<w1.heap.size:=fun y hy=>(HO.out.1.lt y hy).2
  have hn:w.heap.size∉nvB (.slice uo ns.length uc) ns:=fun hy=>Nat.lt_irrefl _ (HLT.out _ (List.mem_append_left _ hy))
  exact⟨o2,HO.out.1.op.frame (t2.kept (fun y hy=>hl1 y (List.mem_append_right _ (List.mem_append_left _ hy))) (fun y hy h=>HAP.out.np y h hy)),OwnE.frame HO.out.1.oe (t2.kept (fun y hy=>hl1 y (List.mem_append_right _ (List.mem_append_right _ hy))) (fun y hy h=>HAP.out.ne y h hy)),HO.out.2.1.both (t2.into (fun y hy=>List.mem_append_left _ hy)),HO.out.2.2.same (t2.block _ HO.out.2.2.lt hn)⟩
 clear o2 t2 p0 HO
 rw[←HK.out.1]
 have p1:w2.cell? ⟨w.heap.size,1,none⟩=some (.slice vo ps.length vc):=H2.out.2.2.2.2.cell 1 rfl
 go_wp2_with fail
 refine(markMsgS_any _ ps k1 w2 base H2.out.2.1 (by have:=HB.out.bp;omega) HB.out.sp (by omega) (by omega)).mono ?_
 rintro e w3 ⟨rfl,o3,t3⟩
 have H3:Hid (OwnNs w3 base (.slice uo ns.length uc) (inkNL 1 ns)∧OwnP w3 base (.slice vo ps.length vc) (inkL k1 ps)∧OwnE w3 base (.slice xo es.length xc) es∧Turned w w3 (nvB (.slice uo ns.length uc) ns++(psB (.slice vo ps.length vc) ps++blk (.slice xo es.length xc)))∧StB w3 w.heap.size 40 (prA (.slice uo ns.length uc) (.slice vo ps.length vc) (.slice xo es.length xc))):=by
  have hn:w.heap.size∉psB (.slice vo ps.length vc) ps:=fun hy=>Nat.lt_irrefl _ (HLT.out _ (List.mem_append_right _ (List.mem_append_left _ hy)))
  refine⟨H2.out.1.frame (t3.kept (fun y hy=>(H2.out.1.lt y hy).2) (fun y hy h=>HAP.out.np y (by rwa[nvB_ink]at hy) h)),o3,OwnE.frame H2.out.2.2.1 (t3.kept (fun y hy=>(OwnE.lt H2.out.2.2.1 y hy).2) (fun y hy h=>HAP.out.pe y h hy)),H2.out.2.2.2.1.both (t3.into (fun y hy=>List.mem_append_right _ (List.mem_append_left _ hy))),H2.out.2.2.2.2.same (t3.block _ H2.out.2.2.2.2.lt hn)⟩
 clear o3 t3 p1 H2
 rw[←HK.out.2]
 have p2:w3.cell? ⟨w.heap.size,2,none⟩=some (.slice xo es.length xc):=H3.out.2.2.2.2.cell 2 rfl
 go_wp2_with fail
 refine(markEventS_any _ es k2 w3 base H3.out.2.2.1 (by have:=HB.out.be;omega) (by omega) (by omega)).mono ?_
 rintro e w4 ⟨rfl,o4,t4⟩
 have H4:Hid (OwnPr w4 base (.slice uo ns.length uc) (.slice vo ps.length vc) (.slice xo es.length xc) (inkNL 1 ns) (inkL k1 ps) (inkEL k2 es)∧Turned w w4 (nvB (.slice uo ns.length uc) ns++(psB (.slice vo ps.length vc) ps++blk (.slice xo es.length xc)))):=by
  refine⟨⟨H3.out.1.frame (t4.kept (fun y hy=>(H3.out.1.lt y hy).2) (fun y hy h=>HAP.out.ne y (by rwa[nvB_ink]at hy) h)),H3.out.2.1.frame (t4.kept (fun y hy=>(H3.out.2.1.lt y hy).2) (fun y hy h=>HAP.out.pe y (by rwa[psB_ink]at hy) h)),o4,?_,?_,?_⟩,H3.out.2.2.2.1.both (t4.into (fun y hy=>List.mem_append_right _ (List.mem_append_right _ hy)))⟩
  ·rw[nvB_ink,psB_ink]
   exact HAP.out.np
  ·rw[nvB_ink]
   exact HAP.out.ne
  ·rw[psB_ink]
   exact HAP.out.pe
 clear o4 t4 p2 H3
 go_wp2
 go_ret
 exact⟨rfl,H4.out.1,H4.out.2⟩
end Go.Proofs.YthmnmaemnihkeaaGreatDoor
