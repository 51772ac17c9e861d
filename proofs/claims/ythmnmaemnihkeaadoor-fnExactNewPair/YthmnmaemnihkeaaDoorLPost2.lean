/- How the laws mark a post and look at the marks. -/
import Derived.Test.YthmnmaemnihkeaaDoorM19
import Derived.Test.YthmnmaemnihkeaaDoorM22
set_option maxRecDepth 20000
set_option maxHeartbeats 8000000
namespace Go.Proofs.YthmnmaemnihkeaaDoor
open Go.ChangeShapes Go.WideShapes Go.ChangeAt Go.RowKit
def Mg.inked (m:Mg) (k:Int):Mg:=⟨k,k+1,k+1+1,k+1+1+1,k+1+1+1+1,k+1+1+1+1+1,k+1+1+1+1+1+1,⟨marks (k+1+1+1+1+1+1+1) m.h.ks.length,k+1+1+1+1+1+1+1+m.h.ks.length,k+1+1+1+1+1+1+1+m.h.ks.length+1,k+1+1+1+1+1+1+1+m.h.ks.length+1+1⟩⟩
def inkL:Int→List (Value×Mg)→List (Value×Mg)
 |_,[]=>[]
 |k,p::ps=>(p.1,p.2.inked k)::inkL (k+10+p.2.h.ks.length) ps
def inkE (k:Int) (ps:List (Value×Mg)):Int:=k+((10*ps.length+totK ps:Nat):Int)
theorem inkL_len:∀(k:Int) (ps:List (Value×Mg)),(inkL k ps).length=ps.length
 |_,[]=>rfl
 |k,p::ps=>by simp[inkL,inkL_len]
theorem inkE_cons (k:Int) (p:Value×Mg) (ps:List (Value×Mg)):inkE k (p::ps)=inkE (k+10+p.2.h.ks.length) ps:=by
 simp only[inkE,totK,List.length_cons,List.map_cons,List.sum_cons]
 omega
theorem inkE_snoc (k:Int) (ps:List (Value×Mg)) (p:Value×Mg):inkE k (ps++[p])=inkE k ps+10+p.2.h.ks.length:=by
 simp only[inkE,totK,List.length_append,List.map_append,List.sum_append,List.length_singleton,List.map_cons,List.map_nil,List.sum_cons,List.sum_nil]
 omega
theorem inkL_snoc:∀(k:Int) (ps:List (Value×Mg)) (p:Value×Mg),inkL k (ps++[p])=inkL k ps++[(p.1,p.2.inked (inkE k ps))]
 |k,[],p=>by simp[inkL,inkE,totK]
 |k,q::ps,p=>by
  rw[List.cons_append]
  simp only[inkL]
  rw[inkL_snoc,inkE_cons]
  rfl
theorem inkL_step (k:Int) (ps:List (Value×Mg)) (j:Nat) (u:Value) (m:Mg) (e:ps[j]?=some (u,m)):(inkL k (ps.take j)++ps.drop j).set j (u,m.inked (inkE k (ps.take j)))=inkL k (ps.take (j+1))++ps.drop (j+1):=by
 obtain⟨hj,he⟩:=List.getElem?_eq_some_iff.1 e
 have hl:(inkL k (ps.take j)).length=j:=by rw[inkL_len,List.length_take];omega
 rw[List.set_append_right _ _ (by omega),hl,Nat.sub_self,List.drop_eq_getElem_cons hj,List.set_cons_zero,take_snocP ps j _ e,inkL_snoc]
 simp
theorem inkL_at (k:Int) (ps:List (Value×Mg)) (j:Nat) (u:Value) (m:Mg) (e:ps[j]?=some (u,m)):(inkL k (ps.take j)++ps.drop j)[j]?=some (u,m):=by
 obtain⟨hj,he⟩:=List.getElem?_eq_some_iff.1 e
 have hl:(inkL k (ps.take j)).length=j:=by rw[inkL_len,List.length_take];omega
 rw[List.getElem?_append_right (by omega),hl,Nat.sub_self,List.drop_eq_getElem_cons hj]
 simp[he]
theorem inkL_get:∀(k:Int) (ps:List (Value×Mg)) (j:Nat) (u:Value) (m:Mg),ps[j]?=some (u,m)→(inkL k ps)[j]?=some (u,m.inked (inkE k (ps.take j)))
 |k,[],j,u,m,e=>by simp at e
 |k,p::ps,0,u,m,e=>by
  simp only[List.getElem?_cons_zero,Option.some.injEq]at e
  subst e
  simp[inkL,inkE,totK]
 |k,p::ps,j+1,u,m,e=>by
  simp only[List.getElem?_cons_succ]at e
  simp only[inkL,List.getElem?_cons_succ,List.take_succ_cons]
  rw[inkL_get _ ps j u m e,inkE_cons]
theorem totK_take (ps:List (Value×Mg)) (j:Nat):totK (ps.take j)≤totK ps:=by
 have h:totK ps=totK (ps.take j)+totK (ps.drop j):=by
  conv=>lhs;rw[←List.take_append_drop j ps]
  simp only[totK,List.map_append,List.sum_append]
 omega
theorem inkE_le (k:Int) (ps:List (Value×Mg)) (j:Nat):k≤inkE k (ps.take j)∧inkE k (ps.take j)≤inkE k ps:=by
 have h:=totK_take ps j
 have h2:(ps.take j).length≤ps.length:=List.length_take_le' j ps
 unfold inkE
 omega
theorem mineOf_len (u:Value) {xs ys:List Int} (h:xs.length=ys.length):mineOf u xs=mineOf u ys:=by unfold mineOf;rw[h]
theorem mem_set_ne {α:Type} {l:List α} {j:Nat} {a p:α} (h:p∈l.set j a):p=a∨∃i,i≠j∧l[i]?=some p:=by
 obtain⟨i,hi,e⟩:=List.getElem_of_mem h
 rw[List.getElem_set]at e
 split at e
 ·exact .inl e.symm
 ·rename_i hne
  exact .inr ⟨i,fun e=>hne e.symm,by rw[List.length_set]at hi;rw[List.getElem?_eq_getElem hi,e]⟩
theorem OwnP.apart_at {w:World} {base:Nat} {v:Value} {ps:List (Value×Mg)} (h:OwnP w base v ps) {i j:Nat} {p q:Value×Mg} (hi:ps[i]?=some p) (hj:ps[j]?=some q) (hne:i≠j):∀x∈mineOf p.1 p.2.h.ks,x∉mineOf q.1 q.2.h.ks:=by
 obtain⟨hi',rfl⟩:=List.getElem?_eq_some_iff.1 hi
 obtain⟨hj',rfl⟩:=List.getElem?_eq_some_iff.1 hj
 have hp:=List.pairwise_iff_getElem.1 h.ap
 rcases Nat.lt_or_gt_of_ne hne with hlt|hlt
 ·exact hp i j hi' hj' hlt
 ·intro x hx hy
  exact hp j i hj' hi' hlt x hy hx
theorem ap_set {ps:List (Value×Mg)} {j:Nat} {u:Value} {m m':Mg} (e:ps[j]?=some (u,m)) (hl:m'.h.ks.length=m.h.ks.length) (h:ps.Pairwise fun p q=>∀x∈mineOf p.1 p.2.h.ks,x∉mineOf q.1 q.2.h.ks):
  (ps.set j (u,m')).Pairwise fun p q=>∀x∈mineOf p.1 p.2.h.ks,x∉mineOf q.1 q.2.h.ks:=by
 have key:∀qs:List (Value×Mg),qs.Pairwise (fun p q=>∀x∈mineOf p.1 p.2.h.ks,x∉mineOf q.1 q.2.h.ks)↔(qs.map fun p=>mineOf p.1 p.2.h.ks).Pairwise (fun a b=>∀x∈a,x∉b):=fun qs=>by rw[List.pairwise_map]
 rw[key]at h⊢
 rw[List.map_set]
 obtain⟨hj,he⟩:=List.getElem?_eq_some_iff.1 e
 have:(ps.map fun p=>mineOf p.1 p.2.h.ks).set j (mineOf u m'.h.ks)=ps.map fun p=>mineOf p.1 p.2.h.ks:=by
  apply List.ext_getElem?
  intro i
  rw[List.getElem?_set]
  split
  ·rename_i hij
   subst hij
   rw[if_pos (by simpa using hj)]
   simp[e,mineOf_len u hl]
  ·rfl
 rw[this]
 exact h
theorem OwnP.put1 {w:World} {base g n cap:Nat} {ps:List (Value×Mg)} (h:OwnP w base (.slice (some ⟨g,0,none⟩) n cap) ps) (j i:Nat) {u:Value} {m m':Mg} (e:ps[j]?=some (u,m)) (hi:i<11) (x:Value) (hm:(mgA u m).setIfInBounds i x=mgA u m') (hk:m'.h.ks=m.h.ks):
  OwnP (w.setCell ⟨g,j*11+i,none⟩ x) base (.slice (some ⟨g,0,none⟩) n cap) (ps.set j (u,m')):=by
 have hn:n=ps.length:=h.rd.el.1
 obtain⟨hj,he⟩:=List.getElem?_eq_some_iff.1 e
 have hrow:=(h.row.put (by rw[msC_len];exact hn) j i (by omega) hi (mgA u m) (by simp[msC,e]) x).2.2
 have G:w.grownBy (w.setCell ⟨g,j*11+i,none⟩ x) (Value.slice (some ⟨g,0,none⟩) n cap).ownBlock:=grownSet w g _ x
 refine⟨?_,fun p hp=>?_,ap_set e (by rw[hk]) h.ap⟩
 ·rw[show msC (ps.set j (u,m'))=(msC ps).set j (mgA u m') by simp[msC,List.map_set],←hm]
  exact hrow
 ·rcases mem_set_ne hp with rfl|⟨q,_,hq⟩
  ·have h1:=(h.key (u,m) (List.mem_of_getElem? e)).keptRow h.row (by decide) G
   rw[hk]
   exact h1
  ·exact(h.key p (List.mem_of_getElem? hq)).keptRow h.row (by decide) G
theorem OwnP.cellAt {w:World} {base g n cap:Nat} {ps:List (Value×Mg)} (h:OwnP w base (.slice (some ⟨g,0,none⟩) n cap) ps) (j i:Nat) {u:Value} {m:Mg} (e:ps[j]?=some (u,m)) (hi:i<11):w.cell? ⟨g,j*11+i,none⟩=(mgA u m)[i]?∧w.frozen? ⟨g,j*11+i,none⟩=false:=by
 have hn:n=ps.length:=h.rd.el.1
 obtain⟨hj,he⟩:=List.getElem?_eq_some_iff.1 e
 obtain⟨b,off,u',m',e',hb, -,hc⟩:=h.rd.el.2.2.2 j (by omega)
 cases hb
 rw[e]at e'
 cases e'
 refine⟨?_,(h.row.put (by rw[msC_len];exact hn) j i (by omega) hi (mgA u m) (by simp[msC,e]) undef).1⟩
 rw[←hc i hi,Nat.zero_add]
theorem OwnP.turnKey {w w':World} {base:Nat} {v:Value} {ps:List (Value×Mg)} (h:OwnP w base v ps) (j:Nat) {u:Value} {m m':Mg} (e:ps[j]?=some (u,m)) (hl:m'.h.ks.length=m.h.ks.length) (hm:mgA u m'=mgA u m) (hu:Mine w' base u m'.h.ks) (t:Turned w w' (mineOf u m.h.ks)):OwnP w' base v (ps.set j (u,m')):=by
 obtain⟨hj,he⟩:=List.getElem?_eq_some_iff.1 e
 have hkey:=h.key (u,m) (List.mem_of_getElem? e)
 refine⟨?_,fun p hp=>?_,ap_set e hl h.ap⟩
 ·have e2:msC (ps.set j (u,m'))=msC ps:=by
   rw[show msC (ps.set j (u,m'))=(msC ps).set j (mgA u m') by simp[msC,List.map_set],hm]
   apply List.ext_getElem?
   intro i
   rw[List.getElem?_set]
   split
   ·rename_i hij
    subst hij
    rw[if_pos (by rw[msC_len];exact hj)]
    simp[msC,e]
   ·rfl
  rw[e2]
  exact h.row.frame (fun x hx=>t.block x (h.row.lt x hx).2 (fun hx'=>hkey.besides h.row (by decide) x hx' hx))
 ·rcases mem_set_ne hp with rfl|⟨q,hq,hpq⟩
  ·exact hu
  ·exact(h.key p (List.mem_of_getElem? hpq)).frame (fun x hx=>t.block x (mineOf_lt (h.key p (List.mem_of_getElem? hpq)) hx).2 (h.apart_at hpq e hq x hx))
theorem Turned.into {w w':World} {bs cs:List Nat} (h:Turned w w' bs) (hs:∀x∈bs,x∈cs):Turned w w' cs:=⟨h.os,h.tape,h.output,h.size,fun k hk hn=>h.block k hk (fun hx=>hn (hs k hx))⟩
theorem Turned.refl' (w:World) (bs:List Nat):Turned w w bs:=⟨rfl,rfl,rfl,Nat.le_refl _,fun _ _ _=>rfl⟩
theorem Turned.both {w w' w'':World} {bs:List Nat} (h:Turned w w' bs) (h':Turned w' w'' bs):Turned w w'' bs:=(h.trans h').into (fun x hx=>by simpa using hx)
theorem Turned.set1 {w w':World} {bs:List Nat} (h:Turned w w' bs) {g:Nat} (hg:g∈bs) (j:Nat) (x:Value):Turned w (w'.setCell ⟨g,j,none⟩ x) bs:=by
 refine h.both ((Turned.of_grown (grownSet w' g j x)).into (fun y hy=>?_))
 have e:y=g:=by simpa using hy
 rw[e]
 exact hg
theorem markMine_any (v:Value) (xs:List Int) (k:Int) (w:World) (base:Nat) (ho:Mine w base v xs) (hl:xs.length≤1048576) (h0:0≤k) (h1:k≤1099511627776):
  Calls Tryd.prog 30 #[v,.int .i64 k] w fun e w'=>e=.returned (.int .i64 (k+xs.length))∧Mine w' base v (marks k xs.length)∧Turned w w' (mineOf v xs):=by
 by_cases hx:xs=[]
 ·subst hx
  refine(mark0_any v k w ho.reads).mono ?_
  rintro e w' ⟨rfl,rfl⟩
  exact⟨by simp,by simpa[marks]using ho,Turned.refl' _ _⟩
 ·refine(mark_any v xs k w base (ho.own hx) (by omega) h0 h1).mono ?_
  rintro e w' ⟨rfl,o,g⟩
  refine⟨rfl,.inl o,?_⟩
  have hne:xs.length≠0:=fun h=>hx (List.eq_nil_of_length_eq_zero h)
  unfold mineOf
  rw[if_neg hne]
  exact Turned.of_grown g
theorem markMsgS_any (v:Value) (ps:List (Value×Mg)) (k:Int) (w:World) (base:Nat) (ho:OwnP w base v ps) (hb:10*ps.length+totK ps≤268435456) (hs:SmP ps) (h0:0≤k) (h1:k≤268435456):
  Calls Tryd.prog 15 #[v,.int .i64 k] w fun e w'=>e=.returned (.int .i64 (inkE k ps))∧OwnP w' base v (inkL k ps)∧Turned w w' (psB v ps):=by
 obtain⟨ao,cap,rfl⟩:=ho.rd.form
 obtain⟨-,hnc,hcm, -⟩:=ho.rd.el
 unfold maxLen at hcm
 have HG:Hid (0<ps.length→∃g,ao=some ⟨g,0,none⟩):=fun hp=>by
  rcases ho.row.ow.2 with⟨e,_⟩|⟨g,cap',cur,e,_⟩
  ·simp at e;have:=e.2.1;simp[this]at hp
  ·simp at e;exact⟨g,e.1⟩
 obtain⟨n,hn⟩:∃n,n=ps.length:=⟨_,rfl⟩
 rw[←hn]at HG hnc ho⊢
 have HN:Hid (n=ps.length):=hn
 have HO:Hid (OwnP w base (.slice ao n cap) ps):=ho
 have HSm:Hid (SmP ps):=hs
 have HBd:Hid (inkE k ps≤536870912):=by rw[Hid];unfold inkE;omega
 clear hn ho hs hb
 go_enter Tryd.func15,Tryd.ntmps15
 go_wp2
 go_loopw [1,5] (fun l i wr=>∃j:Nat,∃x:Int,j≤n∧i=.int .i64 j∧l=.int .i64 x∧0≤x∧x≤536870912∧Hid (x=inkE k (ps.take j)∧OwnP wr base (.slice ao n cap) (inkL k (ps.take j)++ps.drop j)∧Turned w wr (psB (.slice ao n cap) ps))) (fun _ i _=>n-(intOf i).toNat)
 case atStart=>exact⟨0,k,Nat.zero_le _,rfl,rfl,h0,by omega,by simp[inkE,totK],by simpa[inkL]using HO.out,Turned.refl' _ _⟩
 case round=>
  obtain⟨j,x,hj,rfl,rfl,hx0,hx1,HI⟩:=hrel
  by_cases hlt:(j:Int)<(n:Int)
  ·obtain⟨g,rfl⟩:=HG.out (by have:=HN.out;omega)
   obtain⟨p,hp⟩:∃p,ps[j]?=some p:=⟨_,List.getElem?_eq_getElem (by have:=HN.out;omega)⟩
   obtain⟨u,m⟩:=p
   have hj0:((inkL k (ps.take j)++ps.drop j))[j]?=some (u,m):=inkL_at k ps j u m hp
   obtain⟨qs,hqs⟩:∃qs,qs=inkL k (ps.take j)++ps.drop j:=⟨_,rfl⟩
   have hlk:m.h.ks.length≤1048576:=HSm.out.at hp
   have HX:Hid (qs.set j (u,m.inked x)=inkL k (ps.take (j+1))++ps.drop (j+1)∧x+10+m.h.ks.length=inkE k (ps.take (j+1))∧x+10+m.h.ks.length≤536870912∧(∀y∈mineOf u m.h.ks,y∈psB (.slice (some ⟨g,0,none⟩) n cap) ps)∧g∈psB (.slice (some ⟨g,0,none⟩) n cap) ps):=by
    have e1:x+10+m.h.ks.length=inkE k (ps.take (j+1)):=by rw[take_snocP ps j _ hp,inkE_snoc,←HI.out.1]
    refine⟨by rw[hqs,HI.out.1];exact inkL_step k ps j u m hp,e1,?_,fun y hy=>List.mem_append_right _ (kcs_in (List.mem_of_getElem? hp) hy),by simp[psB,blk,Value.ownBlock]⟩
    have h2:=(inkE_le k ps (j+1)).2
    have h3:=HBd.out
    omega
   rw[←hqs]at HI hj0
   have HQ:Hid (OwnP wr base (.slice (some ⟨g,0,none⟩) n cap) qs∧Turned w wr (psB (.slice (some ⟨g,0,none⟩) n cap) ps)∧qs[j]?=some (u,m)):=⟨HI.out.2.1,HI.out.2.2,hj0⟩
   have hxb:=HX.out.2.2.1
   clear hqs HI hp hj0
   have c0:wr.cell? ⟨g,j*11,none⟩=some (.int .i64 m.dst):=(HQ.out.1.cellAt j 0 HQ.out.2.2 (by decide)).1
   have f0:wr.frozen? ⟨g,j*11,none⟩=false:=(HQ.out.1.cellAt j 0 HQ.out.2.2 (by decide)).2
   have c1:wr.cell? ⟨g,j*11+1,none⟩=some (.int .i64 m.kd):=(HQ.out.1.cellAt j 1 HQ.out.2.2 (by decide)).1
   have f1:wr.frozen? ⟨g,j*11+1,none⟩=false:=(HQ.out.1.cellAt j 1 HQ.out.2.2 (by decide)).2
   have c2:wr.cell? ⟨g,j*11+2,none⟩=some (.int .i64 m.tr):=(HQ.out.1.cellAt j 2 HQ.out.2.2 (by decide)).1
   have f2:wr.frozen? ⟨g,j*11+2,none⟩=false:=(HQ.out.1.cellAt j 2 HQ.out.2.2 (by decide)).2
   have c3:wr.cell? ⟨g,j*11+3,none⟩=some (.int .i64 m.pl):=(HQ.out.1.cellAt j 3 HQ.out.2.2 (by decide)).1
   have f3:wr.frozen? ⟨g,j*11+3,none⟩=false:=(HQ.out.1.cellAt j 3 HQ.out.2.2 (by decide)).2
   have c4:wr.cell? ⟨g,j*11+4,none⟩=some (.int .i64 m.tn):=(HQ.out.1.cellAt j 4 HQ.out.2.2 (by decide)).1
   have f4:wr.frozen? ⟨g,j*11+4,none⟩=false:=(HQ.out.1.cellAt j 4 HQ.out.2.2 (by decide)).2
   have c5:wr.cell? ⟨g,j*11+5,none⟩=some (.int .i64 m.va):=(HQ.out.1.cellAt j 5 HQ.out.2.2 (by decide)).1
   have f5:wr.frozen? ⟨g,j*11+5,none⟩=false:=(HQ.out.1.cellAt j 5 HQ.out.2.2 (by decide)).2
   have c6:wr.cell? ⟨g,j*11+6,none⟩=some (.int .i64 m.ep):=(HQ.out.1.cellAt j 6 HQ.out.2.2 (by decide)).1
   have f6:wr.frozen? ⟨g,j*11+6,none⟩=false:=(HQ.out.1.cellAt j 6 HQ.out.2.2 (by decide)).2
   obtain⟨w2,hw2⟩:∃w2,w2=(((((((wr.setCell ⟨g,j*11,none⟩ (.int .i64 (x))).setCell ⟨g,j*11+1,none⟩ (.int .i64 (x+1))).setCell ⟨g,j*11+2,none⟩ (.int .i64 (x+1+1))).setCell ⟨g,j*11+3,none⟩ (.int .i64 (x+1+1+1))).setCell ⟨g,j*11+4,none⟩ (.int .i64 (x+1+1+1+1))).setCell ⟨g,j*11+5,none⟩ (.int .i64 (x+1+1+1+1+1))).setCell ⟨g,j*11+6,none⟩ (.int .i64 (x+1+1+1+1+1+1))):=⟨_,rfl⟩
   have H7:Hid (OwnP w2 base (.slice (some ⟨g,0,none⟩) n cap) (qs.set j (u,⟨x,x+1,x+1+1,x+1+1+1,x+1+1+1+1,x+1+1+1+1+1,x+1+1+1+1+1+1,m.h⟩))∧Turned w w2 (psB (.slice (some ⟨g,0,none⟩) n cap) ps)):=by
    rw[hw2]
    have hjl:j<qs.length:=(List.getElem?_eq_some_iff.1 HQ.out.2.2).1
    have y0:=OwnP.put1 (HQ.out.1) j 0 (HQ.out.2.2) (by decide) (.int .i64 (x)) (m':=⟨x,m.kd,m.tr,m.pl,m.tn,m.va,m.ep,m.h⟩) rfl rfl
    have y1:=OwnP.put1 (y0) j 1 (show(qs.set j (u,⟨x,m.kd,m.tr,m.pl,m.tn,m.va,m.ep,m.h⟩))[j]?=some (u,⟨x,m.kd,m.tr,m.pl,m.tn,m.va,m.ep,m.h⟩) by rw[List.getElem?_set,if_pos rfl,if_pos hjl]) (by decide) (.int .i64 (x+1)) (m':=⟨x,x+1,m.tr,m.pl,m.tn,m.va,m.ep,m.h⟩) rfl rfl
    rw[List.set_set]at y1
    have y2:=OwnP.put1 (y1) j 2 (show(qs.set j (u,⟨x,x+1,m.tr,m.pl,m.tn,m.va,m.ep,m.h⟩))[j]?=some (u,⟨x,x+1,m.tr,m.pl,m.tn,m.va,m.ep,m.h⟩) by rw[List.getElem?_set,if_pos rfl,if_pos hjl]) (by decide) (.int .i64 (x+1+1)) (m':=⟨x,x+1,x+1+1,m.pl,m.tn,m.va,m.ep,m.h⟩) rfl rfl
    rw[List.set_set]at y2
    have y3:=OwnP.put1 (y2) j 3 (show(qs.set j (u,⟨x,x+1,x+1+1,m.pl,m.tn,m.va,m.ep,m.h⟩))[j]?=some (u,⟨x,x+1,x+1+1,m.pl,m.tn,m.va,m.ep,m.h⟩) by rw[List.getElem?_set,if_pos rfl,if_pos hjl]) (by decide) (.int .i64 (x+1+1+1)) (m':=⟨x,x+1,x+1+1,x+1+1+1,m.tn,m.va,m.ep,m.h⟩) rfl rfl
    rw[List.set_set]at y3
    have y4:=OwnP.put1 (y3) j 4 (show(qs.set j (u,⟨x,x+1,x+1+1,x+1+1+1,m.tn,m.va,m.ep,m.h⟩))[j]?=some (u,⟨x,x+1,x+1+1,x+1+1+1,m.tn,m.va,m.ep,m.h⟩) by rw[List.getElem?_set,if_pos rfl,if_pos hjl]) (by decide) (.int .i64 (x+1+1+1+1)) (m':=⟨x,x+1,x+1+1,x+1+1+1,x+1+1+1+1,m.va,m.ep,m.h⟩) rfl rfl
    rw[List.set_set]at y4
    have y5:=OwnP.put1 (y4) j 5 (show(qs.set j (u,⟨x,x+1,x+1+1,x+1+1+1,x+1+1+1+1,m.va,m.ep,m.h⟩))[j]?=some (u,⟨x,x+1,x+1+1,x+1+1+1,x+1+1+1+1,m.va,m.ep,m.h⟩) by rw[List.getElem?_set,if_pos rfl,if_pos hjl]) (by decide) (.int .i64 (x+1+1+1+1+1)) (m':=⟨x,x+1,x+1+1,x+1+1+1,x+1+1+1+1,x+1+1+1+1+1,m.ep,m.h⟩) rfl rfl
    rw[List.set_set]at y5
    have y6:=OwnP.put1 (y5) j 6 (show(qs.set j (u,⟨x,x+1,x+1+1,x+1+1+1,x+1+1+1+1,x+1+1+1+1+1,m.ep,m.h⟩))[j]?=some (u,⟨x,x+1,x+1+1,x+1+1+1,x+1+1+1+1,x+1+1+1+1+1,m.ep,m.h⟩) by rw[List.getElem?_set,if_pos rfl,if_pos hjl]) (by decide) (.int .i64 (x+1+1+1+1+1+1)) (m':=⟨x,x+1,x+1+1,x+1+1+1,x+1+1+1+1,x+1+1+1+1+1,x+1+1+1+1+1+1,m.h⟩) rfl rfl
    rw[List.set_set]at y6
    exact⟨y6,(((((((HQ.out.2.1.set1 HX.out.2.2.2.2 _ _).set1 HX.out.2.2.2.2 _ _).set1 HX.out.2.2.2.2 _ _).set1 HX.out.2.2.2.2 _ _).set1 HX.out.2.2.2.2 _ _).set1 HX.out.2.2.2.2 _ _).set1 HX.out.2.2.2.2 _ _)⟩
   go_upto_region 18 with fail
   rw[←hw2]
   clear hw2 c0 f0 c1 f1 c2 f2 c3 f3 c4 f4 c5 f5 c6 f6
   have hE7:Hid ((qs.set j (u,⟨x,x+1,x+1+1,x+1+1+1,x+1+1+1+1,x+1+1+1+1+1,x+1+1+1+1+1+1,m.h⟩))[j]?=some (u,⟨x,x+1,x+1+1,x+1+1+1,x+1+1+1+1,x+1+1+1+1+1,x+1+1+1+1+1+1,m.h⟩)):=by rw[Hid,List.getElem?_set,if_pos rfl,if_pos (List.getElem?_eq_some_iff.1 HQ.out.2.2).1]
   have c7:w2.cell? ⟨g,j*11+7,none⟩=some u:=(H7.out.1.cellAt j 7 hE7.out (by decide)).1
   have C:=markMine_any u m.h.ks (x+1+1+1+1+1+1+1) w2 base (H7.out.1.key _ (List.mem_of_getElem? hE7.out)) hlk (by omega) (by omega)
   go_wp2_with fail
   refine C.mono ?_
   rintro e w3 ⟨rfl,o3,t3⟩
   have H8:Hid (OwnP w3 base (.slice (some ⟨g,0,none⟩) n cap) (qs.set j (u,⟨x,x+1,x+1+1,x+1+1+1,x+1+1+1+1,x+1+1+1+1+1,x+1+1+1+1+1+1,{m.h with ks:=marks (x+1+1+1+1+1+1+1) m.h.ks.length}⟩))∧Turned w w3 (psB (.slice (some ⟨g,0,none⟩) n cap) ps)):=by
    have y:=H7.out.1.turnKey (m':=⟨x,x+1,x+1+1,x+1+1+1,x+1+1+1+1,x+1+1+1+1+1,x+1+1+1+1+1+1,{m.h with ks:=marks (x+1+1+1+1+1+1+1) m.h.ks.length}⟩) j hE7.out (by simp[marks_length]) rfl o3 t3
    rw[List.set_set]at y
    exact⟨y,H7.out.2.both (t3.into HX.out.2.2.2.1)⟩
   clear C o3 t3 c7 H7 hE7
   have hE8:Hid ((qs.set j (u,⟨x,x+1,x+1+1,x+1+1+1,x+1+1+1+1,x+1+1+1+1+1,x+1+1+1+1+1+1,{m.h with ks:=marks (x+1+1+1+1+1+1+1) m.h.ks.length}⟩))[j]?=some (u,⟨x,x+1,x+1+1,x+1+1+1,x+1+1+1+1,x+1+1+1+1+1,x+1+1+1+1+1+1,{m.h with ks:=marks (x+1+1+1+1+1+1+1) m.h.ks.length}⟩)):=by rw[Hid,List.getElem?_set,if_pos rfl,if_pos (List.getElem?_eq_some_iff.1 HQ.out.2.2).1]
   have c8:w3.cell? ⟨g,j*11+8,none⟩=some (.int .i64 m.h.kd):=(H8.out.1.cellAt j 8 hE8.out (by decide)).1
   have f8:w3.frozen? ⟨g,j*11+8,none⟩=false:=(H8.out.1.cellAt j 8 hE8.out (by decide)).2
   have c9:w3.cell? ⟨g,j*11+9,none⟩=some (.int .i64 m.h.ho):=(H8.out.1.cellAt j 9 hE8.out (by decide)).1
   have f9:w3.frozen? ⟨g,j*11+9,none⟩=false:=(H8.out.1.cellAt j 9 hE8.out (by decide)).2
   have c10:w3.cell? ⟨g,j*11+10,none⟩=some (.int .i64 m.h.tu):=(H8.out.1.cellAt j 10 hE8.out (by decide)).1
   have f10:w3.frozen? ⟨g,j*11+10,none⟩=false:=(H8.out.1.cellAt j 10 hE8.out (by decide)).2
   have hjl:Hid (j<qs.length):=(List.getElem?_eq_some_iff.1 HQ.out.2.2).1
   obtain⟨z,hz⟩:∃z:Int,z=x+1+1+1+1+1+1+1+m.h.ks.length:=⟨_,rfl⟩
   have hz0:0≤z∧z≤536870912:=by omega
   have HZ:Hid (z=x+1+1+1+1+1+1+1+m.h.ks.length):=hz
   rw[←hz]
   obtain⟨hza,hzb⟩:=hz0
   clear hz
   obtain⟨w4,hw4⟩:∃w4,w4=((w3.setCell ⟨g,j*11+8,none⟩ (.int .i64 z)).setCell ⟨g,j*11+9,none⟩ (.int .i64 (z+1))).setCell ⟨g,j*11+10,none⟩ (.int .i64 (z+1+1)):=⟨_,rfl⟩
   have H9:Hid (OwnP w4 base (.slice (some ⟨g,0,none⟩) n cap) (qs.set j (u,m.inked x))∧Turned w w4 (psB (.slice (some ⟨g,0,none⟩) n cap) ps)):=by
    rw[hw4]
    have y0:=OwnP.put1 H8.out.1 j 8 hE8.out (by decide) (.int .i64 z) (m':=⟨x,x+1,x+1+1,x+1+1+1,x+1+1+1+1,x+1+1+1+1+1,x+1+1+1+1+1+1,⟨marks (x+1+1+1+1+1+1+1) m.h.ks.length,z,m.h.ho,m.h.tu⟩⟩) rfl rfl
    rw[List.set_set]at y0
    have y1:=OwnP.put1 y0 j 9 (show(qs.set j (u,⟨x,x+1,x+1+1,x+1+1+1,x+1+1+1+1,x+1+1+1+1+1,x+1+1+1+1+1+1,⟨marks (x+1+1+1+1+1+1+1) m.h.ks.length,z,m.h.ho,m.h.tu⟩⟩))[j]?=some (u,⟨x,x+1,x+1+1,x+1+1+1,x+1+1+1+1,x+1+1+1+1+1,x+1+1+1+1+1+1,⟨marks (x+1+1+1+1+1+1+1) m.h.ks.length,z,m.h.ho,m.h.tu⟩⟩) by rw[List.getElem?_set,if_pos rfl,if_pos hjl.out]) (by decide) (.int .i64 (z+1)) (m':=⟨x,x+1,x+1+1,x+1+1+1,x+1+1+1+1,x+1+1+1+1+1,x+1+1+1+1+1+1,⟨marks (x+1+1+1+1+1+1+1) m.h.ks.length,z,z+1,m.h.tu⟩⟩) rfl rfl
    rw[List.set_set]at y1
    have y2:=OwnP.put1 y1 j 10 (show(qs.set j (u,⟨x,x+1,x+1+1,x+1+1+1,x+1+1+1+1,x+1+1+1+1+1,x+1+1+1+1+1+1,⟨marks (x+1+1+1+1+1+1+1) m.h.ks.length,z,z+1,m.h.tu⟩⟩))[j]?=some (u,⟨x,x+1,x+1+1,x+1+1+1,x+1+1+1+1,x+1+1+1+1+1,x+1+1+1+1+1+1,⟨marks (x+1+1+1+1+1+1+1) m.h.ks.length,z,z+1,m.h.tu⟩⟩) by rw[List.getElem?_set,if_pos rfl,if_pos hjl.out]) (by decide) (.int .i64 (z+1+1)) (m':=m.inked x) (by unfold Mg.inked;rw[←HZ.out];rfl) rfl
    rw[List.set_set]at y2
    exact⟨y2,((H8.out.2.set1 HX.out.2.2.2.2 _ _).set1 HX.out.2.2.2.2 _ _).set1 HX.out.2.2.2.2 _ _⟩
   clear H8 hE8
   have HF:Hid (z+1+1+1=inkE k (ps.take (j+1))∧0≤z+1+1+1∧z+1+1+1≤536870912):=by
    have h1:=HX.out.2.1
    have h2:=HZ.out
    rw[Hid]
    omega
   go_wp2
   rw[←hw4]
   go_roundw
   case rel=>exact⟨j+1,z+1+1+1,by omega,by go_num,by go_num,HF.out.2.1,HF.out.2.2,HF.out.1,by rw[←HX.out.1];exact H9.out.1,H9.out.2⟩
   case measure=>simp[intOf];omega
  ·have HE:Hid (x=inkE k ps∧OwnP wr base (.slice ao n cap) (inkL k ps)):=by
    have h1:=HI.out.1
    have h2:=HI.out.2.1
    rw[List.take_of_length_le (by have:=HN.out;omega)]at h1 h2
    rw[List.drop_eq_nil_of_le (by have:=HN.out;omega),List.append_nil]at h2
    exact⟨h1,h2⟩
   go_wp2
   go_ret
   exact⟨by rw[HE.out.1];rfl,HE.out.2,HI.out.2.2⟩
theorem heldMsgS_any (v:Value) (ps:List (Value×Mg)) (k:Int) (w:World) (hr:RdP w v (inkL k ps)) (hb:10*ps.length+totK ps≤268435456) (hs:SmP ps) (h0:0≤k) (h1:k≤268435456):
  Calls Tryd.prog 18 #[v,.int .i64 k] w fun e w'=>e=.returned (.int .i64 (inkE k ps))∧w'=w:=by
 obtain⟨ao,cap,rfl⟩:=hr.form
 obtain⟨-,hnc,hcm, -⟩:=hr.el
 unfold maxLen at hcm
 rw[inkL_len]at hr hnc⊢
 obtain⟨n,hn⟩:∃n,n=ps.length:=⟨_,rfl⟩
 rw[←hn]at hnc hr⊢
 have HN:Hid (n=ps.length):=hn
 have HO:Hid (RdP w (.slice ao n cap) (inkL k ps)):=hr
 have HSm:Hid (SmP ps):=hs
 have HBd:Hid (inkE k ps≤536870912):=by rw[Hid];unfold inkE;omega
 clear hn hr hs hb
 go_enter Tryd.func18,Tryd.ntmps18
 go_wp2
 go_loop [1,5] (fun l i=>∃j:Nat,∃x:Int,j≤n∧i=.int .i64 j∧l=.int .i64 x∧0≤x∧x≤536870912∧Hid (x=inkE k (ps.take j))) (fun _ i=>n-(intOf i).toNat)
 case atStart=>exact⟨0,k,Nat.zero_le _,rfl,rfl,h0,by omega,by simp[inkE,totK,Hid]⟩
 case round=>
  obtain⟨j,x,hj,rfl,rfl,hx0,hx1,HI⟩:=hrel
  by_cases hlt:(j:Int)<(n:Int)
  ·obtain⟨b,off,u,m1,he,rfl,hrk,hc⟩:=HO.out.el.2.2.2 j (by omega)
   obtain⟨p,hp⟩:∃p,ps[j]?=some p:=⟨_,List.getElem?_eq_getElem (by have:=HN.out;omega)⟩
   obtain⟨u',m⟩:=p
   have e1:=inkL_get k ps j u' m hp
   rw[e1]at he
   obtain⟨rfl,rfl⟩:=Prod.mk.inj (Option.some.inj he)
   rw[←HI.out]at hc hrk
   have hlk:m.h.ks.length≤1048576:=HSm.out.at hp
   have HX:Hid (x+10+m.h.ks.length=inkE k (ps.take (j+1))∧x+10+m.h.ks.length≤536870912):=by
    have e1:x+10+m.h.ks.length=inkE k (ps.take (j+1)):=by rw[take_snocP ps j _ hp,inkE_snoc,←HI.out]
    refine⟨e1,?_⟩
    have h2:=(inkE_le k ps (j+1)).2
    have h3:=HBd.out
    omega
   have hxb:=HX.out.2
   have C:=held_marks u' m.h.ks.length (x+1+1+1+1+1+1+1) w hrk (by omega) (by omega) (by omega)
   have c0:w.cell? ⟨b,off+j*11,none⟩=some (.int .i64 (x)):=hc 0 (by decide)
   have c1:w.cell? ⟨b,off+j*11+1,none⟩=some (.int .i64 (x+1)):=hc 1 (by decide)
   have c2:w.cell? ⟨b,off+j*11+2,none⟩=some (.int .i64 (x+1+1)):=hc 2 (by decide)
   have c3:w.cell? ⟨b,off+j*11+3,none⟩=some (.int .i64 (x+1+1+1)):=hc 3 (by decide)
   have c4:w.cell? ⟨b,off+j*11+4,none⟩=some (.int .i64 (x+1+1+1+1)):=hc 4 (by decide)
   have c5:w.cell? ⟨b,off+j*11+5,none⟩=some (.int .i64 (x+1+1+1+1+1)):=hc 5 (by decide)
   have c6:w.cell? ⟨b,off+j*11+6,none⟩=some (.int .i64 (x+1+1+1+1+1+1)):=hc 6 (by decide)
   have c7:w.cell? ⟨b,off+j*11+7,none⟩=some u':=hc 7 (by decide)
   obtain⟨z,hz⟩:∃z:Int,z=x+1+1+1+1+1+1+1+m.h.ks.length:=⟨_,rfl⟩
   have c8:w.cell? ⟨b,off+j*11+8,none⟩=some (.int .i64 z):=by rw[hz];exact hc 8 (by decide)
   have c9:w.cell? ⟨b,off+j*11+9,none⟩=some (.int .i64 (z+1)):=by rw[hz];exact hc 9 (by decide)
   have c10:w.cell? ⟨b,off+j*11+10,none⟩=some (.int .i64 (z+1+1)):=by rw[hz];exact hc 10 (by decide)
   have hz0:0≤z∧z+1+1+1≤536870912:=by omega
   rw[←hz]at C
   have HF:Hid (z+1+1+1=inkE k (ps.take (j+1))):=by
    have h1:=HX.out.1
    rw[Hid]
    omega
   obtain⟨hza,hzb⟩:=hz0
   clear hc hrk hz he e1 hp
   go_wp2_with fail
   refine C.mono ?_
   rintro e w3 ⟨rfl,hw3⟩
   subst w3
   go_wp2
   go_round
   case rel=>exact⟨j+1,z+1+1+1,by omega,by go_num,by go_num,by omega,by omega,HF.out⟩
   case measure=>simp[intOf];omega
  ·have HE:Hid (x=inkE k ps):=by
    have h1:=HI.out
    rw[List.take_of_length_le (by have:=HN.out;omega)]at h1
    exact h1
   go_wp2
   go_ret
   exact⟨by rw[HE.out];rfl,rfl⟩
end Go.Proofs.YthmnmaemnihkeaaDoor
