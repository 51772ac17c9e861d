/- How the laws mark a row of houses and look at the marks. -/
import Derived.Test.YthmnmaemnihkeaaDoorM27
import Derived.Test.YthmnmaemnihkeaaDoorLPost2
import Derived.Test.YthmnmaemnihkeaaDoorM23
import Derived.Test.YthmnmaemnihkeaaDoorM3
set_option maxRecDepth 20000
set_option maxHeartbeats 8000000
namespace Go.Proofs.YthmnmaemnihkeaaDoor
open Go.ChangeShapes Go.WideShapes Go.ChangeAt Go.RowKit
structure LenN (n n':Nd):Prop where
 l1:n'.xs.length=n.xs.length
 l2:n'.ys.length=n.ys.length
 l3:n'.h.ks.length=n.h.ks.length
 l4:n'.c.ts.length=n.c.ts.length
 l5:n'.s.ts.length=n.s.ts.length
theorem LenN.bl {y:Nv} {n':Nd} (h:LenN y.n n'):Nv.bl {y with n:=n'}=y.bl:=by
 unfold Nv.bl own5
 rw[mineOf_len y.q h.l4,mineOf_len y.z h.l5]
theorem ns_set_ap {ns:List Nv} {j:Nat} {y y':Nv} (e:ns[j]?=some y) (hb:y'.bl=y.bl) (h:ns.Pairwise fun p q=>∀x∈p.bl,x∉q.bl):(ns.set j y').Pairwise fun p q=>∀x∈p.bl,x∉q.bl:=by
 have key:∀qs:List Nv,qs.Pairwise (fun p q=>∀x∈p.bl,x∉q.bl)↔(qs.map Nv.bl).Pairwise (fun a b=>∀x∈a,x∉b):=fun qs=>by rw[List.pairwise_map]
 rw[key]at h⊢
 rw[List.map_set]
 obtain⟨hj,he⟩:=List.getElem?_eq_some_iff.1 e
 have:(ns.map Nv.bl).set j y'.bl=ns.map Nv.bl:=by
  apply List.ext_getElem?
  intro i
  rw[List.getElem?_set]
  split
  ·rename_i hij
   subst hij
   rw[if_pos (by simpa using hj)]
   simp[e,hb]
  ·rfl
 rw[this]
 exact h
theorem OwnNs.apart_at {w:World} {base:Nat} {v:Value} {ns:List Nv} (h:OwnNs w base v ns) {i j:Nat} {p q:Nv} (hi:ns[i]?=some p) (hj:ns[j]?=some q) (hne:i≠j):∀x∈p.bl,x∉q.bl:=by
 obtain⟨hi',rfl⟩:=List.getElem?_eq_some_iff.1 hi
 obtain⟨hj',rfl⟩:=List.getElem?_eq_some_iff.1 hj
 have hp:=List.pairwise_iff_getElem.1 h.ap
 rcases Nat.lt_or_gt_of_ne hne with hlt|hlt
 ·exact hp i j hi' hj' hlt
 ·intro x hx hy
  exact hp j i hj' hi' hlt x hy hx
theorem OwnNs.put1 {w:World} {base g n cap:Nat} {ns:List Nv} (h:OwnNs w base (.slice (some ⟨g,0,none⟩) n cap) ns) (j i:Nat) {y:Nv} (e:ns[j]?=some y) (hi:i<20) (x:Value) (n':Nd) (hA:y.A.setIfInBounds i x=Nv.A {y with n:=n'}) (h1:n'.xs=y.n.xs) (h2:n'.ys=y.n.ys) (h3:n'.h.ks=y.n.h.ks) (h4:n'.c.ts=y.n.c.ts) (h5:n'.s.ts=y.n.s.ts):
  OwnNs (w.setCell ⟨g,j*20+i,none⟩ x) base (.slice (some ⟨g,0,none⟩) n cap) (ns.set j {y with n:=n'}):=by
 have hn:n=ns.length:=h.rd.el.1
 obtain⟨hj,he⟩:=List.getElem?_eq_some_iff.1 e
 have hrow:=(h.row.put (by rw[nsC_len];exact hn) j i (by omega) hi y.A (by simp[nsC,e]) x).2.2
 have G:w.grownBy (w.setCell ⟨g,j*20+i,none⟩ x) (Value.slice (some ⟨g,0,none⟩) n cap).ownBlock:=grownSet w g _ x
 have hl:LenN y.n n':=⟨by rw[h1],by rw[h2],by rw[h3],by rw[h4],by rw[h5]⟩
 refine⟨?_,fun p hp=>?_,ns_set_ap e hl.bl h.ap⟩
 ·rw[show nsC (ns.set j {y with n:=n'})=(nsC ns).set j (Nv.A {y with n:=n'}) by simp[nsC,List.map_set],←hA]
  exact hrow
 ·rcases mem_set_ne hp with rfl|⟨q,_,hq⟩
  ·have h6:y.mine _ base:=MineN.keptRow (h.key y (List.mem_of_getElem? e)) h.row (by decide) G
   unfold Nv.mine at h6⊢
   exact⟨by rw[h1];exact h6.oa,by rw[h2];exact h6.ob,by rw[h3];exact h6.ok,by rw[h4];exact h6.oq,by rw[h5];exact h6.oz,by show Five _ _ _ (mineOf y.q n'.c.ts) (mineOf y.z n'.s.ts);rw[h4,h5];exact h6.ap⟩
  ·exact MineN.keptRow (h.key p (List.mem_of_getElem? hq)) h.row (by decide) G
theorem OwnNs.cellAt {w:World} {base g n cap:Nat} {ns:List Nv} (h:OwnNs w base (.slice (some ⟨g,0,none⟩) n cap) ns) (j i:Nat) {y:Nv} (e:ns[j]?=some y) (hi:i<20):w.cell? ⟨g,j*20+i,none⟩=y.A[i]?∧w.frozen? ⟨g,j*20+i,none⟩=false:=by
 have hn:n=ns.length:=h.rd.el.1
 obtain⟨hj,he⟩:=List.getElem?_eq_some_iff.1 e
 obtain⟨b,off,y',e',hb, -,hc⟩:=h.rd.el.2.2.2 j (by omega)
 cases hb
 rw[e]at e'
 cases e'
 refine⟨?_,(h.row.put (by rw[nsC_len];exact hn) j i (by omega) hi y.A (by simp[nsC,e]) undef).1⟩
 rw[←hc i hi,Nat.zero_add]
theorem OwnNs.turn1 {w w':World} {base:Nat} {v:Value} {ns:List Nv} (h:OwnNs w base v ns) (j:Nat) {y:Nv} (e:ns[j]?=some y) {bs:List Nat} (n':Nd) (hl:LenN y.n n') (hA:Nv.A {y with n:=n'}=y.A) (hm:Nv.mine w' base {y with n:=n'}) (hs:∀x∈bs,x∈y.bl) (t:Turned w w' bs):OwnNs w' base v (ns.set j {y with n:=n'}):=by
 obtain⟨hj,he⟩:=List.getElem?_eq_some_iff.1 e
 have hkey:=h.key y (List.mem_of_getElem? e)
 refine⟨?_,fun p hp=>?_,ns_set_ap e hl.bl h.ap⟩
 ·have e2:nsC (ns.set j {y with n:=n'})=nsC ns:=by
   rw[show nsC (ns.set j {y with n:=n'})=(nsC ns).set j (Nv.A {y with n:=n'}) by simp[nsC,List.map_set],hA]
   apply List.ext_getElem?
   intro i
   rw[List.getElem?_set]
   split
   ·rename_i hij
    subst hij
    rw[if_pos (by rw[nsC_len];exact hj)]
    simp[nsC,e]
   ·rfl
  rw[e2]
  exact h.row.frame (fun x hx=>t.block x (h.row.lt x hx).2 (fun hx'=>MineN.besides hkey h.row (by decide) x (hs x hx') hx))
 ·rcases mem_set_ne hp with rfl|⟨q,hq,hpq⟩
  ·exact hm
  ·have hk:=h.key p (List.mem_of_getElem? hpq)
   exact MineN.frame hk (fun x hx=>t.block x (MineN.lt hk hx).2 (fun hb=>h.apart_at hpq e hq x hx (hs x hb)))
theorem mem_a {y:Nv}:∀x∈mineOf y.a y.n.xs,x∈y.bl:=fun _ hx=>own5_in.2 (.inl (mineOf_sub hx))
theorem mem_b {y:Nv}:∀x∈mineOf y.b y.n.ys,x∈y.bl:=fun _ hx=>own5_in.2 (.inr (.inl (mineOf_sub hx)))
theorem mem_k {y:Nv}:∀x∈mineOf y.k y.n.h.ks,x∈y.bl:=fun _ hx=>own5_in.2 (.inr (.inr (.inl (mineOf_sub hx))))
theorem mem_q {y:Nv}:∀x∈mineOf y.q y.n.c.ts,x∈y.bl:=fun _ hx=>own5_in.2 (.inr (.inr (.inr (.inl hx))))
theorem mem_z {y:Nv}:∀x∈mineOf y.z y.n.s.ts,x∈y.bl:=fun _ hx=>own5_in.2 (.inr (.inr (.inr (.inr hx))))
theorem MineN.turn_a {w w':World} {base:Nat} {a b k q z:Value} {n:Nd} {l:List Int} (h:MineN w base a b k q z n) (_hl:l.length=n.xs.length) (hm:Own w' base a l) (T:Turned w w' (mineOf a n.xs)):MineN w' base a b k q z {n with xs:=l}:=
 ⟨hm,h.ob.frame (fun e hx=>T.block e (blk_new h.ob e (by simpa[blk]using hx)).2 (fun t'=>h.ap.h12 e (mineOf_sub t') (by simpa[blk]using hx))),h.ok.frame (fun e hx=>T.block e (blk_new h.ok e (by simpa[blk]using hx)).2 (fun t'=>h.ap.h13 e (mineOf_sub t') (by simpa[blk]using hx))),Mine.frame h.oq (fun e hx=>T.block e (mineOf_lt h.oq hx).2 (fun t'=>h.ap.h14 e (mineOf_sub t') hx)),Mine.frame h.oz (fun e hx=>T.block e (mineOf_lt h.oz hx).2 (fun t'=>h.ap.h15 e (mineOf_sub t') hx)),h.ap⟩
theorem MineN.turn_b {w w':World} {base:Nat} {a b k q z:Value} {n:Nd} {l:List Int} (h:MineN w base a b k q z n) (_hl:l.length=n.ys.length) (hm:Own w' base b l) (T:Turned w w' (mineOf b n.ys)):MineN w' base a b k q z {n with ys:=l}:=
 ⟨h.oa.frame (fun e hx=>T.block e (blk_new h.oa e (by simpa[blk]using hx)).2 (fun t'=>h.ap.h12 e (by simpa[blk]using hx) (mineOf_sub t'))),hm,h.ok.frame (fun e hx=>T.block e (blk_new h.ok e (by simpa[blk]using hx)).2 (fun t'=>h.ap.h23 e (mineOf_sub t') (by simpa[blk]using hx))),Mine.frame h.oq (fun e hx=>T.block e (mineOf_lt h.oq hx).2 (fun t'=>h.ap.h24 e (mineOf_sub t') hx)),Mine.frame h.oz (fun e hx=>T.block e (mineOf_lt h.oz hx).2 (fun t'=>h.ap.h25 e (mineOf_sub t') hx)),h.ap⟩
theorem MineN.turn_k {w w':World} {base:Nat} {a b k q z:Value} {n:Nd} {l:List Int} (h:MineN w base a b k q z n) (_hl:l.length=n.h.ks.length) (hm:Own w' base k l) (T:Turned w w' (mineOf k n.h.ks)):MineN w' base a b k q z {n with h:={n.h with ks:=l}}:=
 ⟨h.oa.frame (fun e hx=>T.block e (blk_new h.oa e (by simpa[blk]using hx)).2 (fun t'=>h.ap.h13 e (by simpa[blk]using hx) (mineOf_sub t'))),h.ob.frame (fun e hx=>T.block e (blk_new h.ob e (by simpa[blk]using hx)).2 (fun t'=>h.ap.h23 e (by simpa[blk]using hx) (mineOf_sub t'))),hm,Mine.frame h.oq (fun e hx=>T.block e (mineOf_lt h.oq hx).2 (fun t'=>h.ap.h34 e (mineOf_sub t') hx)),Mine.frame h.oz (fun e hx=>T.block e (mineOf_lt h.oz hx).2 (fun t'=>h.ap.h35 e (mineOf_sub t') hx)),h.ap⟩
theorem MineN.turn_q {w w':World} {base:Nat} {a b k q z:Value} {n:Nd} {l:List Int} (h:MineN w base a b k q z n) (hl:l.length=n.c.ts.length) (hm:Mine w' base q l) (T:Turned w w' (mineOf q n.c.ts)):MineN w' base a b k q z {n with c:={n.c with ts:=l}}:=
 ⟨h.oa.frame (fun e hx=>T.block e (blk_new h.oa e (by simpa[blk]using hx)).2 (fun t'=>h.ap.h14 e (by simpa[blk]using hx) (t'))),h.ob.frame (fun e hx=>T.block e (blk_new h.ob e (by simpa[blk]using hx)).2 (fun t'=>h.ap.h24 e (by simpa[blk]using hx) (t'))),h.ok.frame (fun e hx=>T.block e (blk_new h.ok e (by simpa[blk]using hx)).2 (fun t'=>h.ap.h34 e (by simpa[blk]using hx) (t'))),hm,Mine.frame h.oz (fun e hx=>T.block e (mineOf_lt h.oz hx).2 (fun t'=>h.ap.h45 e (t') hx)),by show Five _ _ _ (mineOf q l) (mineOf z n.s.ts);rw[mineOf_len q hl];exact h.ap⟩
theorem MineN.turn_z {w w':World} {base:Nat} {a b k q z:Value} {n:Nd} {l:List Int} (h:MineN w base a b k q z n) (hl:l.length=n.s.ts.length) (hm:Mine w' base z l) (T:Turned w w' (mineOf z n.s.ts)):MineN w' base a b k q z {n with s:={n.s with ts:=l}}:=
 ⟨h.oa.frame (fun e hx=>T.block e (blk_new h.oa e (by simpa[blk]using hx)).2 (fun t'=>h.ap.h15 e (by simpa[blk]using hx) (t'))),h.ob.frame (fun e hx=>T.block e (blk_new h.ob e (by simpa[blk]using hx)).2 (fun t'=>h.ap.h25 e (by simpa[blk]using hx) (t'))),h.ok.frame (fun e hx=>T.block e (blk_new h.ok e (by simpa[blk]using hx)).2 (fun t'=>h.ap.h35 e (by simpa[blk]using hx) (t'))),Mine.frame h.oq (fun e hx=>T.block e (mineOf_lt h.oq hx).2 (fun t'=>h.ap.h45 e hx (t'))),hm,by show Five _ _ _ (mineOf q n.c.ts) (mineOf z l);rw[mineOf_len z hl];exact h.ap⟩
theorem markOwn_any (v:Value) (xs:List Int) (k:Int) (w:World) (base:Nat) (ho:Own w base v xs) (hl:xs.length≤1048576) (h0:0≤k) (h1:k≤1099511627776):
  Calls Tryd.prog 30 #[v,.int .i64 k] w fun e w'=>e=.returned (.int .i64 (k+xs.length))∧Own w' base v (marks k xs.length)∧Turned w w' (mineOf v xs):=by
 by_cases hx:xs=[]
 ·subst hx
  refine(mark0_any v k w ho.reads).mono ?_
  rintro e w' ⟨rfl,rfl⟩
  exact⟨by simp,by simpa[marks]using ho,Turned.refl' _ _⟩
 ·refine(mark_any v xs k w base ho (by omega) h0 h1).mono ?_
  rintro e w' ⟨rfl,o,g⟩
  refine⟨rfl,o,?_⟩
  have hne:xs.length≠0:=fun h=>hx (List.eq_nil_of_length_eq_zero h)
  unfold mineOf
  rw[if_neg hne]
  exact Turned.of_grown g
def Nd.inkS (n:Nd) (k:Int):Nd:=
 let z:=k+1+1+n.xs.length+n.ys.length+n.h.ks.length
 ⟨k,(k+1)%3==0,marks (k+1+1) n.xs.length,marks (k+1+1+n.xs.length) n.ys.length,⟨marks (k+1+1+n.xs.length+n.ys.length) n.h.ks.length,z,z+1,z+1+1⟩,mtext (z+1+1+1).toNat,
  ⟨z+1+1+1+1,z+1+1+1+1+1,z+1+1+1+1+1+1,z+1+1+1+1+1+1+1⟩,
  ⟨z+1+1+1+1+1+1+1+1,(z+1+1+1+1+1+1+1+1+1)%3==0,z+1+1+1+1+1+1+1+1+1+1,z+1+1+1+1+1+1+1+1+1+1+1,marks (z+1+1+1+1+1+1+1+1+1+1+1+1) n.c.ts.length⟩,
  ⟨z+1+1+1+1+1+1+1+1+1+1+1+1+n.c.ts.length,marks (z+1+1+1+1+1+1+1+1+1+1+1+1+n.c.ts.length+1) n.s.ts.length⟩⟩
def inkNE (k:Int) (ns:List Nv):Int:=k+15*ns.length+((ns.map fun y=>y.n.len).sum:Nat)
def inkNL:Int→List Nv→List Nv
 |_,[]=>[]
 |k,y::r=>{y with n:=y.n.inkS k}::inkNL (k+15+y.n.len) r
theorem inkNL_len:∀(k:Int) (ns:List Nv),(inkNL k ns).length=ns.length
 |_,[]=>rfl
 |k,y::r=>by simp[inkNL,inkNL_len _ r]
theorem inkNE_cons (k:Int) (y:Nv) (ns:List Nv):inkNE k (y::ns)=inkNE (k+15+y.n.len) ns:=by
 simp only[inkNE,List.length_cons,List.map_cons,List.sum_cons]
 omega
theorem inkNE_snoc (k:Int) (ns:List Nv) (y:Nv):inkNE k (ns++[y])=inkNE k ns+15+y.n.len:=by
 simp only[inkNE,List.length_append,List.map_append,List.sum_append,List.length_cons,List.length_nil,List.map_cons,List.map_nil,List.sum_cons,List.sum_nil]
 omega
theorem inkNL_snoc:∀(k:Int) (ns:List Nv) (y:Nv),inkNL k (ns++[y])=inkNL k ns++[{y with n:=y.n.inkS (inkNE k ns)}]
 |k,[],y=>by simp[inkNL,inkNE]
 |k,x::r,y=>by rw[List.cons_append,inkNL,inkNL_snoc,inkNL,List.cons_append,inkNE_cons]
theorem inkNL_step (k:Int) (ns:List Nv) (j:Nat) (y:Nv) (e:ns[j]?=some y):(inkNL k (ns.take j)++ns.drop j).set j {y with n:=y.n.inkS (inkNE k (ns.take j))}=inkNL k (ns.take (j+1))++ns.drop (j+1):=by
 obtain⟨hj,rfl⟩:=List.getElem?_eq_some_iff.1 e
 have hl:(inkNL k (ns.take j)).length=j:=by rw[inkNL_len,List.length_take];omega
 rw[List.take_succ_eq_append_getElem hj,inkNL_snoc,List.set_append_right _ _ (by omega),hl,Nat.sub_self,List.drop_eq_getElem_cons hj,List.set_cons_zero,List.append_assoc]
 rfl
theorem inkNL_at (k:Int) (ns:List Nv) (j:Nat) (y:Nv) (e:ns[j]?=some y):(inkNL k (ns.take j)++ns.drop j)[j]?=some y:=by
 obtain⟨hj,rfl⟩:=List.getElem?_eq_some_iff.1 e
 have hl:(inkNL k (ns.take j)).length=j:=by rw[inkNL_len,List.length_take];omega
 rw[List.getElem?_append_right (by omega),hl,Nat.sub_self,List.drop_eq_getElem_cons hj]
 rfl
theorem sum_le_take (ns:List Nv) (j:Nat):((ns.take j).map fun y=>y.n.len).sum≤(ns.map fun y=>y.n.len).sum:=by
 conv=>rhs;rw[←List.take_append_drop j ns]
 rw[List.map_append,List.sum_append]
 omega
theorem markNodeS_any (v:Value) (ns:List Nv) (k:Int) (w:World) (base:Nat) (ho:OwnNs w base v ns) (hb:15*ns.length+(ns.map fun y=>y.n.len).sum≤268435456) (hs:∀y∈ns,y.n.len≤1048576) (h0:1≤k) (h1:k≤268435456):
  Calls Tryd.prog 14 #[v,.int .i64 k] w fun e w'=>e=.returned (.int .i64 (inkNE k ns))∧OwnNs w' base v (inkNL k ns)∧Turned w w' (nvB v ns):=by
 obtain⟨ao,cap,rfl⟩:=ho.rd.form
 obtain⟨-,hnc,hcm, -⟩:=ho.rd.el
 unfold maxLen at hcm
 have HG:Hid (0<ns.length→∃g,ao=some ⟨g,0,none⟩):=fun hp=>by
  rcases ho.row.ow.2 with⟨e,_⟩|⟨g,cap',cur,e,_⟩
  ·simp at e;have:=e.2.1;simp[this]at hp
  ·simp at e;exact⟨g,e.1⟩
 obtain⟨n,hn⟩:∃n,n=ns.length:=⟨_,rfl⟩
 rw[←hn]at HG hnc ho⊢
 have HN:Hid (n=ns.length):=hn
 have HO:Hid (OwnNs w base (.slice ao n cap) ns):=ho
 have HSm:Hid (∀y∈ns,y.n.len≤1048576):=hs
 have HBd:Hid (∀j,inkNE k (ns.take j)≤536870912):=fun j=>by
  have e1:=sum_le_take ns j
  have e2:(ns.take j).length≤ns.length:=List.length_take_le' j ns
  unfold inkNE
  omega
 clear hn ho hs hb
 go_enter Tryd.func14,Tryd.ntmps14
 go_wp2
 go_loopw [1,5] (fun l i wr=>∃j:Nat,∃x:Int,j≤n∧i=.int .i64 j∧l=.int .i64 x∧1≤x∧x≤536870912∧Hid (x=inkNE k (ns.take j)∧OwnNs wr base (.slice ao n cap) (inkNL k (ns.take j)++ns.drop j)∧Turned w wr (nvB (.slice ao n cap) ns))) (fun _ i _=>n-(intOf i).toNat)
 case atStart=>exact⟨0,k,Nat.zero_le _,rfl,rfl,h0,by omega,by simp[inkNE],by simpa[inkNL]using HO.out,Turned.refl' _ _⟩
 case round=>
  obtain⟨j,x,hj,rfl,rfl,hx0,hx1,HI⟩:=hrel
  by_cases hlt:(j:Int)<(n:Int)
  ·obtain⟨g,rfl⟩:=HG.out (by have:=HN.out;omega)
   obtain⟨y,hp⟩:∃p,ns[j]?=some p:=⟨_,List.getElem?_eq_getElem (by have:=HN.out;omega)⟩
   obtain⟨qs,hqs⟩:∃qs,qs=inkNL k (ns.take j)++ns.drop j:=⟨_,rfl⟩
   have hj0:qs[j]?=some y:=by rw[hqs];exact inkNL_at k ns j y hp
   have hlk:y.n.len≤1048576:=HSm.out y (List.mem_of_getElem? hp)
   have HX:Hid (qs.set j {y with n:=y.n.inkS x}=inkNL k (ns.take (j+1))++ns.drop (j+1)∧x+15+y.n.len=inkNE k (ns.take (j+1))∧x+15+y.n.len≤536870912∧(∀b∈y.bl,b∈nvB (.slice (some ⟨g,0,none⟩) n cap) ns)∧g∈nvB (.slice (some ⟨g,0,none⟩) n cap) ns):=by
    have e1:x+15+y.n.len=inkNE k (ns.take (j+1)):=by
     obtain⟨hjl,he⟩:=List.getElem?_eq_some_iff.1 hp
     rw[List.take_succ_eq_append_getElem hjl,inkNE_snoc,←HI.out.1,he]
    refine⟨by rw[hqs,HI.out.1];exact inkNL_step k ns j y hp,e1,?_,fun b hb=>List.mem_append_right _ (nsB_in (List.mem_of_getElem? hp) hb),by simp[nvB,blk,Value.ownBlock]⟩
    rw[e1]
    exact HBd.out (j+1)
   have HQ:Hid (OwnNs wr base (.slice (some ⟨g,0,none⟩) n cap) (qs.set j y)∧Turned w wr (nvB (.slice (some ⟨g,0,none⟩) n cap) ns)∧j<qs.length):=by
    have hjl:=(List.getElem?_eq_some_iff.1 hj0).1
    have e:qs.set j y=qs:=by
     obtain⟨hj',he⟩:=List.getElem?_eq_some_iff.1 hj0
     rw[←he]
     exact List.set_getElem_self hj'
    rw[e,hqs]
    exact⟨HI.out.2.1,HI.out.2.2,by rw[←hqs];exact hjl⟩
   have HXb:x+15+y.n.len≤536870912:=HX.out.2.2.1
   clear hqs HI hp hj0
   obtain⟨a,b,k',q,z,m0⟩:=y
   dsimp only at HX HXb hlk
   have hme:(⟨a,b,k',q,z,m0⟩:Nv).mine wr base:=HQ.out.1.key _ (List.mem_of_getElem? (show(qs.set j ⟨a,b,k',q,z,m0⟩)[j]?=some ⟨a,b,k',q,z,m0⟩ by rw[List.getElem?_set,if_pos rfl,if_pos HQ.out.2.2]))
   have hme2:MineN wr base a b k' q z m0:=hme
   clear hme
   obtain⟨ao',ac,rfl⟩:∃o c,a=.slice o m0.xs.length c:=reads_form hme2.oa.reads
   obtain⟨bo',bc,rfl⟩:∃o c,b=.slice o m0.ys.length c:=reads_form hme2.ob.reads
   obtain⟨ko',kc,rfl⟩:∃o c,k'=.slice o m0.h.ks.length c:=reads_form hme2.ok.reads
   obtain⟨qo',qc,rfl⟩:∃o c,q=.slice o m0.c.ts.length c:=reads_form hme2.oq.reads
   obtain⟨zo',zc,rfl⟩:∃o c,z=.slice o m0.s.ts.length c:=reads_form hme2.oz.reads
   clear hme2
   have hle:m0.xs.length+m0.ys.length+m0.h.ks.length+m0.c.ts.length+m0.s.ts.length=m0.len:=rfl
   obtain⟨lx,hlx⟩:∃l,l=m0.xs.length:=⟨_,rfl⟩
   obtain⟨ly,hly⟩:∃l,l=m0.ys.length:=⟨_,rfl⟩
   obtain⟨lk,hlk'⟩:∃l,l=m0.h.ks.length:=⟨_,rfl⟩
   obtain⟨lq,hlq⟩:∃l,l=m0.c.ts.length:=⟨_,rfl⟩
   obtain⟨lz,hlz⟩:∃l,l=m0.s.ts.length:=⟨_,rfl⟩
   obtain⟨le,hle'⟩:∃l,l=m0.len:=⟨_,rfl⟩
   have HM0:Hid (m0.xs.length=lx∧m0.ys.length=ly∧m0.h.ks.length=lk∧m0.c.ts.length=lq∧m0.s.ts.length=lz∧m0.len=le):=⟨hlx.symm,hly.symm,hlk'.symm,hlq.symm,hlz.symm,hle'.symm⟩
   rw[←hlx,←hly,←hlk',←hlq,←hlz,←hle']at hle
   rw[←hle']at HXb hlk
   have hbx:lx≤1048576∧ly≤1048576∧lk≤1048576∧lq≤1048576∧lz≤1048576:=by omega
   have HLE:Hid (lx+ly+lk+lq+lz=le∧lx≤1048576∧ly≤1048576∧lk≤1048576∧lq≤1048576∧lz≤1048576∧x+15+le≤536870912):=⟨hle,hbx.1,hbx.2.1,hbx.2.2.1,hbx.2.2.2.1,hbx.2.2.2.2,HXb⟩
   have HJ:Hid (j≤n∧(0:Int)≤j):=⟨hj,by omega⟩
   rw[←hlx,←hly,←hlk',←hlq,←hlz]at HQ HX
   clear hlx hly hlk' hlq hlz hle' hle hbx HXb hlk
   have HZ:Hid (x=x+0+((0:Nat):Int)):=by show x=x+0+((0:Nat):Int);omega
   have E0:Hid (m0=⟨m0.id,m0.up,m0.xs,m0.ys,⟨m0.h.ks,m0.h.kd,m0.h.ho,m0.h.tu⟩,m0.log,⟨m0.r.e,m0.r.s,m0.r.t,m0.r.n⟩,⟨m0.c.tr,m0.c.op,m0.c.di,m0.c.wa,m0.c.ts⟩,⟨m0.s.tr,m0.s.ts⟩⟩):=rfl
   replace HM0:Hid (m0.xs.length=lx∧m0.ys.length=ly∧m0.h.ks.length=lk∧m0.c.ts.length=lq∧m0.s.ts.length=lz∧m0.len=le):=HM0.out
   have HM:Hid (m0.xs.length=lx∧m0.ys.length=ly∧m0.h.ks.length=lk∧m0.c.ts.length=lq∧m0.s.ts.length=lz):=⟨HM0.out.1,HM0.out.2.1,HM0.out.2.2.1,HM0.out.2.2.2.1,HM0.out.2.2.2.2.1⟩
   have cc:wr.cell? ⟨g,j*20,none⟩=some (.int .i64 m0.id):=(HQ.out.1.cellAt j 0 (show(qs.set j ⟨.slice ao' lx ac,.slice bo' ly bc,.slice ko' lk kc,.slice qo' lq qc,.slice zo' lz zc,m0⟩)[j]?=some ⟨.slice ao' lx ac,.slice bo' ly bc,.slice ko' lk kc,.slice qo' lq qc,.slice zo' lz zc,m0⟩ by rw[List.getElem?_set,if_pos rfl,if_pos HQ.out.2.2]) (by decide)).1
   have ff:wr.frozen? ⟨g,j*20,none⟩=false:=(HQ.out.1.cellAt j 0 (show(qs.set j ⟨.slice ao' lx ac,.slice bo' ly bc,.slice ko' lk kc,.slice qo' lq qc,.slice zo' lz zc,m0⟩)[j]?=some ⟨.slice ao' lx ac,.slice bo' ly bc,.slice ko' lk kc,.slice qo' lq qc,.slice zo' lz zc,m0⟩ by rw[List.getElem?_set,if_pos rfl,if_pos HQ.out.2.2]) (by decide)).2
   obtain⟨m1,hm1⟩:∃m:Nd,m={m0 with id:=x}:=⟨_,rfl⟩
   obtain⟨wa0,hwa0⟩:∃wn,wn=wr.setCell ⟨g,j*20,none⟩ (.int .i64 (x)):=⟨_,rfl⟩
   have HQn:Hid (OwnNs wa0 base (.slice (some ⟨g,0,none⟩) n cap) (qs.set j ⟨.slice ao' lx ac,.slice bo' ly bc,.slice ko' lk kc,.slice qo' lq qc,.slice zo' lz zc,m1⟩)∧Turned w wa0 (nvB (.slice (some ⟨g,0,none⟩) n cap) ns)∧j<qs.length):=by
    rw[hwa0]
    have y0:=HQ.out.1.put1 j 0 (show(qs.set j ⟨.slice ao' lx ac,.slice bo' ly bc,.slice ko' lk kc,.slice qo' lq qc,.slice zo' lz zc,m0⟩)[j]?=some ⟨.slice ao' lx ac,.slice bo' ly bc,.slice ko' lk kc,.slice qo' lq qc,.slice zo' lz zc,m0⟩ by rw[List.getElem?_set,if_pos rfl,if_pos HQ.out.2.2]) (by decide) (.int .i64 (x)) m1 (by rw[hm1];rfl) (by rw[hm1]) (by rw[hm1]) (by rw[hm1]) (by rw[hm1]) (by rw[hm1])
    rw[List.set_set]at y0
    exact⟨y0,HQ.out.2.1.set1 HX.out.2.2.2.2 _ _,HQ.out.2.2⟩
   have HMn:Hid (m1.xs.length=lx∧m1.ys.length=ly∧m1.h.ks.length=lk∧m1.c.ts.length=lq∧m1.s.ts.length=lz):=by rw[hm1];exact HM.out
   have En:Hid (m1=⟨x,m0.up,m0.xs,m0.ys,⟨m0.h.ks,m0.h.kd,m0.h.ho,m0.h.tu⟩,m0.log,⟨m0.r.e,m0.r.s,m0.r.t,m0.r.n⟩,⟨m0.c.tr,m0.c.op,m0.c.di,m0.c.wa,m0.c.ts⟩,⟨m0.s.tr,m0.s.ts⟩⟩):=by rw[Hid,hm1,E0.out]
   clear hm1 E0 HM
   replace HQ:Hid (OwnNs wa0 base (.slice (some ⟨g,0,none⟩) n cap) (qs.set j ⟨.slice ao' lx ac,.slice bo' ly bc,.slice ko' lk kc,.slice qo' lq qc,.slice zo' lz zc,m1⟩)∧Turned w wa0 (nvB (.slice (some ⟨g,0,none⟩) n cap) ns)∧j<qs.length):=HQn.out
   have HM:Hid (m1.xs.length=lx∧m1.ys.length=ly∧m1.h.ks.length=lk∧m1.c.ts.length=lq∧m1.s.ts.length=lz):=HMn.out
   have E0:Hid (m1=⟨x,m0.up,m0.xs,m0.ys,⟨m0.h.ks,m0.h.kd,m0.h.ho,m0.h.tu⟩,m0.log,⟨m0.r.e,m0.r.s,m0.r.t,m0.r.n⟩,⟨m0.c.tr,m0.c.op,m0.c.di,m0.c.wa,m0.c.ts⟩,⟨m0.s.tr,m0.s.ts⟩⟩):=En.out
   clear HQn HMn En
   go_upto_region 6 with fail
   rw[←hwa0]
   clear hwa0 cc ff
   have cc:wa0.cell? ⟨g,j*20+1,none⟩=some (.bool m1.up):=(HQ.out.1.cellAt j 1 (show(qs.set j ⟨.slice ao' lx ac,.slice bo' ly bc,.slice ko' lk kc,.slice qo' lq qc,.slice zo' lz zc,m1⟩)[j]?=some ⟨.slice ao' lx ac,.slice bo' ly bc,.slice ko' lk kc,.slice qo' lq qc,.slice zo' lz zc,m1⟩ by rw[List.getElem?_set,if_pos rfl,if_pos HQ.out.2.2]) (by decide)).1
   have ff:wa0.frozen? ⟨g,j*20+1,none⟩=false:=(HQ.out.1.cellAt j 1 (show(qs.set j ⟨.slice ao' lx ac,.slice bo' ly bc,.slice ko' lk kc,.slice qo' lq qc,.slice zo' lz zc,m1⟩)[j]?=some ⟨.slice ao' lx ac,.slice bo' ly bc,.slice ko' lk kc,.slice qo' lq qc,.slice zo' lz zc,m1⟩ by rw[List.getElem?_set,if_pos rfl,if_pos HQ.out.2.2]) (by decide)).2
   obtain⟨m2,hm2⟩:∃m:Nd,m={m1 with up:=(x+1)%3==0}:=⟨_,rfl⟩
   obtain⟨wa1,hwa1⟩:∃wn,wn=wa0.setCell ⟨g,j*20+1,none⟩ (.bool ((x+1)%3==0)):=⟨_,rfl⟩
   have HQn:Hid (OwnNs wa1 base (.slice (some ⟨g,0,none⟩) n cap) (qs.set j ⟨.slice ao' lx ac,.slice bo' ly bc,.slice ko' lk kc,.slice qo' lq qc,.slice zo' lz zc,m2⟩)∧Turned w wa1 (nvB (.slice (some ⟨g,0,none⟩) n cap) ns)∧j<qs.length):=by
    rw[hwa1]
    have y0:=HQ.out.1.put1 j 1 (show(qs.set j ⟨.slice ao' lx ac,.slice bo' ly bc,.slice ko' lk kc,.slice qo' lq qc,.slice zo' lz zc,m1⟩)[j]?=some ⟨.slice ao' lx ac,.slice bo' ly bc,.slice ko' lk kc,.slice qo' lq qc,.slice zo' lz zc,m1⟩ by rw[List.getElem?_set,if_pos rfl,if_pos HQ.out.2.2]) (by decide) (.bool ((x+1)%3==0)) m2 (by rw[hm2];rfl) (by rw[hm2]) (by rw[hm2]) (by rw[hm2]) (by rw[hm2]) (by rw[hm2])
    rw[List.set_set]at y0
    exact⟨y0,HQ.out.2.1.set1 HX.out.2.2.2.2 _ _,HQ.out.2.2⟩
   have HMn:Hid (m2.xs.length=lx∧m2.ys.length=ly∧m2.h.ks.length=lk∧m2.c.ts.length=lq∧m2.s.ts.length=lz):=by rw[hm2];exact HM.out
   have En:Hid (m2=⟨x,(x+1)%3==0,m0.xs,m0.ys,⟨m0.h.ks,m0.h.kd,m0.h.ho,m0.h.tu⟩,m0.log,⟨m0.r.e,m0.r.s,m0.r.t,m0.r.n⟩,⟨m0.c.tr,m0.c.op,m0.c.di,m0.c.wa,m0.c.ts⟩,⟨m0.s.tr,m0.s.ts⟩⟩):=by rw[Hid,hm2,E0.out]
   clear hm2 E0 HM
   replace HQ:Hid (OwnNs wa1 base (.slice (some ⟨g,0,none⟩) n cap) (qs.set j ⟨.slice ao' lx ac,.slice bo' ly bc,.slice ko' lk kc,.slice qo' lq qc,.slice zo' lz zc,m2⟩)∧Turned w wa1 (nvB (.slice (some ⟨g,0,none⟩) n cap) ns)∧j<qs.length):=HQn.out
   have HM:Hid (m2.xs.length=lx∧m2.ys.length=ly∧m2.h.ks.length=lk∧m2.c.ts.length=lq∧m2.s.ts.length=lz):=HMn.out
   have E0:Hid (m2=⟨x,(x+1)%3==0,m0.xs,m0.ys,⟨m0.h.ks,m0.h.kd,m0.h.ho,m0.h.tu⟩,m0.log,⟨m0.r.e,m0.r.s,m0.r.t,m0.r.n⟩,⟨m0.c.tr,m0.c.op,m0.c.di,m0.c.wa,m0.c.ts⟩,⟨m0.s.tr,m0.s.ts⟩⟩):=En.out
   clear HQn HMn En
   go_upto_region 8 with fail
   rw[←hwa1]
   clear hwa1 cc ff
   go_cut [1] (fun l wx=>∃z:Int,∃m:Nd,l=.int .i64 z∧1≤z∧z≤536870912∧Hid (m=⟨x,(x+1)%3==0,marks (x+1+1) lx,m0.ys,⟨m0.h.ks,m0.h.kd,m0.h.ho,m0.h.tu⟩,m0.log,⟨m0.r.e,m0.r.s,m0.r.t,m0.r.n⟩,⟨m0.c.tr,m0.c.op,m0.c.di,m0.c.wa,m0.c.ts⟩,⟨m0.s.tr,m0.s.ts⟩⟩∧(OwnNs wx base (.slice (some ⟨g,0,none⟩) n cap) (qs.set j ⟨.slice ao' lx ac,.slice bo' ly bc,.slice ko' lk kc,.slice qo' lq qc,.slice zo' lz zc,m⟩)∧Turned w wx (nvB (.slice (some ⟨g,0,none⟩) n cap) ns)∧j<qs.length)∧(m.xs.length=lx∧m.ys.length=ly∧m.h.ks.length=lk∧m.c.ts.length=lq∧m.s.ts.length=lz)∧z=x+1+1+((lx:Nat):Int)∧z=x+2+(lx:Nat)))
   case first=>
    as_aux_lemma=>
     have cc:wa1.cell? ⟨g,j*20+2,none⟩=some (.slice ao' lx ac):=(HQ.out.1.cellAt j 2 (show(qs.set j ⟨.slice ao' lx ac,.slice bo' ly bc,.slice ko' lk kc,.slice qo' lq qc,.slice zo' lz zc,m2⟩)[j]?=some ⟨.slice ao' lx ac,.slice bo' ly bc,.slice ko' lk kc,.slice qo' lq qc,.slice zo' lz zc,m2⟩ by rw[List.getElem?_set,if_pos rfl,if_pos HQ.out.2.2]) (by decide)).1
     have hme:Nv.mine wa1 base ⟨.slice ao' lx ac,.slice bo' ly bc,.slice ko' lk kc,.slice qo' lq qc,.slice zo' lz zc,m2⟩:=HQ.out.1.key _ (List.mem_of_getElem? (show(qs.set j ⟨.slice ao' lx ac,.slice bo' ly bc,.slice ko' lk kc,.slice qo' lq qc,.slice zo' lz zc,m2⟩)[j]?=some ⟨.slice ao' lx ac,.slice bo' ly bc,.slice ko' lk kc,.slice qo' lq qc,.slice zo' lz zc,m2⟩ by rw[List.getElem?_set,if_pos rfl,if_pos HQ.out.2.2]))
     have hbl:=HLE.out
     have hzs:=HZ.out
     have CL:=markOwn_any (.slice ao' lx ac) m2.xs (x+1+1) wa1 base (MineN.oa hme) (by rw[HM.out.1];omega) (by omega) (by omega)
     rw[HM.out.1]at CL
     have hz1:1≤x+1+1+((lx:Nat):Int)∧x+1+1+((lx:Nat):Int)≤536870912:=by omega
     have hz2:x+1+1+((lx:Nat):Int)=x+2+(lx:Nat):=by omega
     have HZ1:Hid ((1≤x+1+1+((lx:Nat):Int)∧x+1+1+((lx:Nat):Int)≤536870912)∧x+1+1+((lx:Nat):Int)=x+2+(lx:Nat)):=⟨hz1,hz2⟩
     clear hbl hzs hz1 hz2
     have HME:Hid (Nv.mine wa1 base ⟨.slice ao' lx ac,.slice bo' ly bc,.slice ko' lk kc,.slice qo' lq qc,.slice zo' lz zc,m2⟩):=hme
     clear hme
     go_wp2_with fail
     refine CL.mono ?_
     rintro e wa2 ⟨rfl,ol,tl⟩
     obtain⟨m3,hm3⟩:∃m:Nd,m={m2 with xs:=marks (x+1+1) lx}:=⟨_,rfl⟩
     have HQn:Hid (OwnNs wa2 base (.slice (some ⟨g,0,none⟩) n cap) (qs.set j ⟨.slice ao' lx ac,.slice bo' ly bc,.slice ko' lk kc,.slice qo' lq qc,.slice zo' lz zc,m3⟩)∧Turned w wa2 (nvB (.slice (some ⟨g,0,none⟩) n cap) ns)∧j<qs.length):=by
      have hm':Nv.mine wa2 base ⟨.slice ao' lx ac,.slice bo' ly bc,.slice ko' lk kc,.slice qo' lq qc,.slice zo' lz zc,m3⟩:=by rw[hm3];exact MineN.turn_a HME.out (by rw[marks_length,HM.out.1]) ol tl
      have y0:=HQ.out.1.turn1 j (show(qs.set j ⟨.slice ao' lx ac,.slice bo' ly bc,.slice ko' lk kc,.slice qo' lq qc,.slice zo' lz zc,m2⟩)[j]?=some ⟨.slice ao' lx ac,.slice bo' ly bc,.slice ko' lk kc,.slice qo' lq qc,.slice zo' lz zc,m2⟩ by rw[List.getElem?_set,if_pos rfl,if_pos HQ.out.2.2]) m3 (by rw[hm3];exact⟨by simp[marks_length,HM.out.1],rfl,rfl,rfl,rfl⟩) (by rw[hm3];rfl) hm' mem_a tl
      rw[List.set_set]at y0
      exact⟨y0,HQ.out.2.1.both (tl.into (fun e he=>HX.out.2.2.2.1 e (by have hb:=LenN.bl (y:=⟨.slice ao' lx ac,.slice bo' ly bc,.slice ko' lk kc,.slice qo' lq qc,.slice zo' lz zc,m0⟩) (n':=m2) ⟨HM.out.1.trans HM0.out.1.symm,HM.out.2.1.trans HM0.out.2.1.symm,HM.out.2.2.1.trans HM0.out.2.2.1.symm,HM.out.2.2.2.1.trans HM0.out.2.2.2.1.symm,HM.out.2.2.2.2.trans HM0.out.2.2.2.2.1.symm⟩;rw[←hb];exact mem_a e he))),HQ.out.2.2⟩
     have HMn:Hid (m3.xs.length=lx∧m3.ys.length=ly∧m3.h.ks.length=lk∧m3.c.ts.length=lq∧m3.s.ts.length=lz):=by rw[hm3];exact⟨by simp[marks_length],HM.out.2.1,HM.out.2.2.1,HM.out.2.2.2.1,HM.out.2.2.2.2⟩
     have En:Hid (m3=⟨x,(x+1)%3==0,marks (x+1+1) lx,m0.ys,⟨m0.h.ks,m0.h.kd,m0.h.ho,m0.h.tu⟩,m0.log,⟨m0.r.e,m0.r.s,m0.r.t,m0.r.n⟩,⟨m0.c.tr,m0.c.op,m0.c.di,m0.c.wa,m0.c.ts⟩,⟨m0.s.tr,m0.s.ts⟩⟩):=by rw[Hid,hm3,E0.out]
     clear hm3 E0 HM HME CL ol tl cc HQ
     go_wp2_with fail
     go_meet
     exact⟨_,m3,rfl,HZ1.out.1.1,HZ1.out.1.2,En.out,HQn.out,HMn.out,rfl,HZ1.out.2⟩
   case rest=>
    as_aux_lemma=>
     obtain⟨z2,m3,rfl,bz20,bz21,HC⟩:=hcut
     clear HQ HM E0 HZ
     obtain⟨wa2,hwa2⟩:∃v,v=wc:=⟨_,rfl⟩
     rw[←hwa2]at HC⊢
     clear hwa2
     have E0:Hid (m3=⟨x,(x+1)%3==0,marks (x+1+1) lx,m0.ys,⟨m0.h.ks,m0.h.kd,m0.h.ho,m0.h.tu⟩,m0.log,⟨m0.r.e,m0.r.s,m0.r.t,m0.r.n⟩,⟨m0.c.tr,m0.c.op,m0.c.di,m0.c.wa,m0.c.ts⟩,⟨m0.s.tr,m0.s.ts⟩⟩):=HC.out.1
     have HQ:Hid (OwnNs wa2 base (.slice (some ⟨g,0,none⟩) n cap) (qs.set j ⟨.slice ao' lx ac,.slice bo' ly bc,.slice ko' lk kc,.slice qo' lq qc,.slice zo' lz zc,m3⟩)∧Turned w wa2 (nvB (.slice (some ⟨g,0,none⟩) n cap) ns)∧j<qs.length):=HC.out.2.1
     have HM:Hid (m3.xs.length=lx∧m3.ys.length=ly∧m3.h.ks.length=lk∧m3.c.ts.length=lq∧m3.s.ts.length=lz):=HC.out.2.2.1
     have Ez2:Hid (z2=x+1+1+((lx:Nat):Int)):=HC.out.2.2.2.1
     have HZ:Hid (z2=x+2+(lx:Nat)):=HC.out.2.2.2.2
     clear HC
     go_upto_region 9 with fail
     go_cut [1] (fun l wx=>∃z:Int,∃m:Nd,l=.int .i64 z∧1≤z∧z≤536870912∧Hid (m=⟨x,(x+1)%3==0,marks (x+1+1) lx,marks (z2) ly,⟨m0.h.ks,m0.h.kd,m0.h.ho,m0.h.tu⟩,m0.log,⟨m0.r.e,m0.r.s,m0.r.t,m0.r.n⟩,⟨m0.c.tr,m0.c.op,m0.c.di,m0.c.wa,m0.c.ts⟩,⟨m0.s.tr,m0.s.ts⟩⟩∧(OwnNs wx base (.slice (some ⟨g,0,none⟩) n cap) (qs.set j ⟨.slice ao' lx ac,.slice bo' ly bc,.slice ko' lk kc,.slice qo' lq qc,.slice zo' lz zc,m⟩)∧Turned w wx (nvB (.slice (some ⟨g,0,none⟩) n cap) ns)∧j<qs.length)∧(m.xs.length=lx∧m.ys.length=ly∧m.h.ks.length=lk∧m.c.ts.length=lq∧m.s.ts.length=lz)∧z=z2+((ly:Nat):Int)∧z=x+2+(lx+ly:Nat)))
     case first=>
      as_aux_lemma=>
       have cc:wa2.cell? ⟨g,j*20+3,none⟩=some (.slice bo' ly bc):=(HQ.out.1.cellAt j 3 (show(qs.set j ⟨.slice ao' lx ac,.slice bo' ly bc,.slice ko' lk kc,.slice qo' lq qc,.slice zo' lz zc,m3⟩)[j]?=some ⟨.slice ao' lx ac,.slice bo' ly bc,.slice ko' lk kc,.slice qo' lq qc,.slice zo' lz zc,m3⟩ by rw[List.getElem?_set,if_pos rfl,if_pos HQ.out.2.2]) (by decide)).1
       have hme:Nv.mine wa2 base ⟨.slice ao' lx ac,.slice bo' ly bc,.slice ko' lk kc,.slice qo' lq qc,.slice zo' lz zc,m3⟩:=HQ.out.1.key _ (List.mem_of_getElem? (show(qs.set j ⟨.slice ao' lx ac,.slice bo' ly bc,.slice ko' lk kc,.slice qo' lq qc,.slice zo' lz zc,m3⟩)[j]?=some ⟨.slice ao' lx ac,.slice bo' ly bc,.slice ko' lk kc,.slice qo' lq qc,.slice zo' lz zc,m3⟩ by rw[List.getElem?_set,if_pos rfl,if_pos HQ.out.2.2]))
       have hbl:=HLE.out
       have hzs:=HZ.out
       have CL:=markOwn_any (.slice bo' ly bc) m3.ys (z2) wa2 base (MineN.ob hme) (by rw[HM.out.2.1];omega) (by omega) (by omega)
       rw[HM.out.2.1]at CL
       have hz1:1≤z2+((ly:Nat):Int)∧z2+((ly:Nat):Int)≤536870912:=by omega
       have hz2:z2+((ly:Nat):Int)=x+2+(lx+ly:Nat):=by omega
       have HZ1:Hid ((1≤z2+((ly:Nat):Int)∧z2+((ly:Nat):Int)≤536870912)∧z2+((ly:Nat):Int)=x+2+(lx+ly:Nat)):=⟨hz1,hz2⟩
       clear hbl hzs hz1 hz2
       have HME:Hid (Nv.mine wa2 base ⟨.slice ao' lx ac,.slice bo' ly bc,.slice ko' lk kc,.slice qo' lq qc,.slice zo' lz zc,m3⟩):=hme
       clear hme
       go_wp2_with fail
       refine CL.mono ?_
       rintro e wa3 ⟨rfl,ol,tl⟩
       obtain⟨m4,hm4⟩:∃m:Nd,m={m3 with ys:=marks (z2) ly}:=⟨_,rfl⟩
       have HQn:Hid (OwnNs wa3 base (.slice (some ⟨g,0,none⟩) n cap) (qs.set j ⟨.slice ao' lx ac,.slice bo' ly bc,.slice ko' lk kc,.slice qo' lq qc,.slice zo' lz zc,m4⟩)∧Turned w wa3 (nvB (.slice (some ⟨g,0,none⟩) n cap) ns)∧j<qs.length):=by
        have hm':Nv.mine wa3 base ⟨.slice ao' lx ac,.slice bo' ly bc,.slice ko' lk kc,.slice qo' lq qc,.slice zo' lz zc,m4⟩:=by rw[hm4];exact MineN.turn_b HME.out (by rw[marks_length,HM.out.2.1]) ol tl
        have y0:=HQ.out.1.turn1 j (show(qs.set j ⟨.slice ao' lx ac,.slice bo' ly bc,.slice ko' lk kc,.slice qo' lq qc,.slice zo' lz zc,m3⟩)[j]?=some ⟨.slice ao' lx ac,.slice bo' ly bc,.slice ko' lk kc,.slice qo' lq qc,.slice zo' lz zc,m3⟩ by rw[List.getElem?_set,if_pos rfl,if_pos HQ.out.2.2]) m4 (by rw[hm4];exact⟨rfl,by simp[marks_length,HM.out.2.1],rfl,rfl,rfl⟩) (by rw[hm4];rfl) hm' mem_b tl
        rw[List.set_set]at y0
        exact⟨y0,HQ.out.2.1.both (tl.into (fun e he=>HX.out.2.2.2.1 e (by have hb:=LenN.bl (y:=⟨.slice ao' lx ac,.slice bo' ly bc,.slice ko' lk kc,.slice qo' lq qc,.slice zo' lz zc,m0⟩) (n':=m3) ⟨HM.out.1.trans HM0.out.1.symm,HM.out.2.1.trans HM0.out.2.1.symm,HM.out.2.2.1.trans HM0.out.2.2.1.symm,HM.out.2.2.2.1.trans HM0.out.2.2.2.1.symm,HM.out.2.2.2.2.trans HM0.out.2.2.2.2.1.symm⟩;rw[←hb];exact mem_b e he))),HQ.out.2.2⟩
       have HMn:Hid (m4.xs.length=lx∧m4.ys.length=ly∧m4.h.ks.length=lk∧m4.c.ts.length=lq∧m4.s.ts.length=lz):=by rw[hm4];exact⟨HM.out.1,by simp[marks_length],HM.out.2.2.1,HM.out.2.2.2.1,HM.out.2.2.2.2⟩
       have En:Hid (m4=⟨x,(x+1)%3==0,marks (x+1+1) lx,marks (z2) ly,⟨m0.h.ks,m0.h.kd,m0.h.ho,m0.h.tu⟩,m0.log,⟨m0.r.e,m0.r.s,m0.r.t,m0.r.n⟩,⟨m0.c.tr,m0.c.op,m0.c.di,m0.c.wa,m0.c.ts⟩,⟨m0.s.tr,m0.s.ts⟩⟩):=by rw[Hid,hm4,E0.out]
       clear hm4 E0 HM HME CL ol tl cc HQ
       go_wp2_with fail
       go_meet
       exact⟨_,m4,rfl,HZ1.out.1.1,HZ1.out.1.2,En.out,HQn.out,HMn.out,rfl,HZ1.out.2⟩
     case rest=>
      as_aux_lemma=>
       obtain⟨z3,m4,rfl,bz30,bz31,HC⟩:=hcut
       clear HQ HM E0 HZ
       obtain⟨wa3,hwa3⟩:∃v,v=wc:=⟨_,rfl⟩
       rw[←hwa3]at HC⊢
       clear hwa3
       have E0:Hid (m4=⟨x,(x+1)%3==0,marks (x+1+1) lx,marks (z2) ly,⟨m0.h.ks,m0.h.kd,m0.h.ho,m0.h.tu⟩,m0.log,⟨m0.r.e,m0.r.s,m0.r.t,m0.r.n⟩,⟨m0.c.tr,m0.c.op,m0.c.di,m0.c.wa,m0.c.ts⟩,⟨m0.s.tr,m0.s.ts⟩⟩):=HC.out.1
       have HQ:Hid (OwnNs wa3 base (.slice (some ⟨g,0,none⟩) n cap) (qs.set j ⟨.slice ao' lx ac,.slice bo' ly bc,.slice ko' lk kc,.slice qo' lq qc,.slice zo' lz zc,m4⟩)∧Turned w wa3 (nvB (.slice (some ⟨g,0,none⟩) n cap) ns)∧j<qs.length):=HC.out.2.1
       have HM:Hid (m4.xs.length=lx∧m4.ys.length=ly∧m4.h.ks.length=lk∧m4.c.ts.length=lq∧m4.s.ts.length=lz):=HC.out.2.2.1
       have Ez3:Hid (z3=z2+((ly:Nat):Int)):=HC.out.2.2.2.1
       have HZ:Hid (z3=x+2+(lx+ly:Nat)):=HC.out.2.2.2.2
       clear HC
       go_upto_region 10 with fail
       go_cut [1] (fun l wx=>∃z:Int,∃m:Nd,l=.int .i64 z∧1≤z∧z≤536870912∧Hid (m=⟨x,(x+1)%3==0,marks (x+1+1) lx,marks (z2) ly,⟨marks (z3) lk,m0.h.kd,m0.h.ho,m0.h.tu⟩,m0.log,⟨m0.r.e,m0.r.s,m0.r.t,m0.r.n⟩,⟨m0.c.tr,m0.c.op,m0.c.di,m0.c.wa,m0.c.ts⟩,⟨m0.s.tr,m0.s.ts⟩⟩∧(OwnNs wx base (.slice (some ⟨g,0,none⟩) n cap) (qs.set j ⟨.slice ao' lx ac,.slice bo' ly bc,.slice ko' lk kc,.slice qo' lq qc,.slice zo' lz zc,m⟩)∧Turned w wx (nvB (.slice (some ⟨g,0,none⟩) n cap) ns)∧j<qs.length)∧(m.xs.length=lx∧m.ys.length=ly∧m.h.ks.length=lk∧m.c.ts.length=lq∧m.s.ts.length=lz)∧z=z3+((lk:Nat):Int)∧z=x+2+(lx+ly+lk:Nat)))
       case first=>
        as_aux_lemma=>
         have cc:wa3.cell? ⟨g,j*20+4,none⟩=some (.slice ko' lk kc):=(HQ.out.1.cellAt j 4 (show(qs.set j ⟨.slice ao' lx ac,.slice bo' ly bc,.slice ko' lk kc,.slice qo' lq qc,.slice zo' lz zc,m4⟩)[j]?=some ⟨.slice ao' lx ac,.slice bo' ly bc,.slice ko' lk kc,.slice qo' lq qc,.slice zo' lz zc,m4⟩ by rw[List.getElem?_set,if_pos rfl,if_pos HQ.out.2.2]) (by decide)).1
         have hme:Nv.mine wa3 base ⟨.slice ao' lx ac,.slice bo' ly bc,.slice ko' lk kc,.slice qo' lq qc,.slice zo' lz zc,m4⟩:=HQ.out.1.key _ (List.mem_of_getElem? (show(qs.set j ⟨.slice ao' lx ac,.slice bo' ly bc,.slice ko' lk kc,.slice qo' lq qc,.slice zo' lz zc,m4⟩)[j]?=some ⟨.slice ao' lx ac,.slice bo' ly bc,.slice ko' lk kc,.slice qo' lq qc,.slice zo' lz zc,m4⟩ by rw[List.getElem?_set,if_pos rfl,if_pos HQ.out.2.2]))
         have hbl:=HLE.out
         have hzs:=HZ.out
         have CL:=markOwn_any (.slice ko' lk kc) m4.h.ks (z3) wa3 base (MineN.ok hme) (by rw[HM.out.2.2.1];omega) (by omega) (by omega)
         rw[HM.out.2.2.1]at CL
         have hz1:1≤z3+((lk:Nat):Int)∧z3+((lk:Nat):Int)≤536870912:=by omega
         have hz2:z3+((lk:Nat):Int)=x+2+(lx+ly+lk:Nat):=by omega
         have HZ1:Hid ((1≤z3+((lk:Nat):Int)∧z3+((lk:Nat):Int)≤536870912)∧z3+((lk:Nat):Int)=x+2+(lx+ly+lk:Nat)):=⟨hz1,hz2⟩
         clear hbl hzs hz1 hz2
         have HME:Hid (Nv.mine wa3 base ⟨.slice ao' lx ac,.slice bo' ly bc,.slice ko' lk kc,.slice qo' lq qc,.slice zo' lz zc,m4⟩):=hme
         clear hme
         go_wp2_with fail
         refine CL.mono ?_
         rintro e wa4 ⟨rfl,ol,tl⟩
         obtain⟨m5,hm5⟩:∃m:Nd,m={m4 with h:={m4.h with ks:=marks (z3) lk}}:=⟨_,rfl⟩
         have HQn:Hid (OwnNs wa4 base (.slice (some ⟨g,0,none⟩) n cap) (qs.set j ⟨.slice ao' lx ac,.slice bo' ly bc,.slice ko' lk kc,.slice qo' lq qc,.slice zo' lz zc,m5⟩)∧Turned w wa4 (nvB (.slice (some ⟨g,0,none⟩) n cap) ns)∧j<qs.length):=by
          have hm':Nv.mine wa4 base ⟨.slice ao' lx ac,.slice bo' ly bc,.slice ko' lk kc,.slice qo' lq qc,.slice zo' lz zc,m5⟩:=by rw[hm5];exact MineN.turn_k HME.out (by rw[marks_length,HM.out.2.2.1]) ol tl
          have y0:=HQ.out.1.turn1 j (show(qs.set j ⟨.slice ao' lx ac,.slice bo' ly bc,.slice ko' lk kc,.slice qo' lq qc,.slice zo' lz zc,m4⟩)[j]?=some ⟨.slice ao' lx ac,.slice bo' ly bc,.slice ko' lk kc,.slice qo' lq qc,.slice zo' lz zc,m4⟩ by rw[List.getElem?_set,if_pos rfl,if_pos HQ.out.2.2]) m5 (by rw[hm5];exact⟨rfl,rfl,by simp[marks_length,HM.out.2.2.1],rfl,rfl⟩) (by rw[hm5];rfl) hm' mem_k tl
          rw[List.set_set]at y0
          exact⟨y0,HQ.out.2.1.both (tl.into (fun e he=>HX.out.2.2.2.1 e (by have hb:=LenN.bl (y:=⟨.slice ao' lx ac,.slice bo' ly bc,.slice ko' lk kc,.slice qo' lq qc,.slice zo' lz zc,m0⟩) (n':=m4) ⟨HM.out.1.trans HM0.out.1.symm,HM.out.2.1.trans HM0.out.2.1.symm,HM.out.2.2.1.trans HM0.out.2.2.1.symm,HM.out.2.2.2.1.trans HM0.out.2.2.2.1.symm,HM.out.2.2.2.2.trans HM0.out.2.2.2.2.1.symm⟩;rw[←hb];exact mem_k e he))),HQ.out.2.2⟩
         have HMn:Hid (m5.xs.length=lx∧m5.ys.length=ly∧m5.h.ks.length=lk∧m5.c.ts.length=lq∧m5.s.ts.length=lz):=by rw[hm5];exact⟨HM.out.1,HM.out.2.1,by simp[marks_length],HM.out.2.2.2.1,HM.out.2.2.2.2⟩
         have En:Hid (m5=⟨x,(x+1)%3==0,marks (x+1+1) lx,marks (z2) ly,⟨marks (z3) lk,m0.h.kd,m0.h.ho,m0.h.tu⟩,m0.log,⟨m0.r.e,m0.r.s,m0.r.t,m0.r.n⟩,⟨m0.c.tr,m0.c.op,m0.c.di,m0.c.wa,m0.c.ts⟩,⟨m0.s.tr,m0.s.ts⟩⟩):=by rw[Hid,hm5,E0.out]
         clear hm5 E0 HM HME CL ol tl cc HQ
         go_wp2_with fail
         go_meet
         exact⟨_,m5,rfl,HZ1.out.1.1,HZ1.out.1.2,En.out,HQn.out,HMn.out,rfl,HZ1.out.2⟩
       case rest=>
        as_aux_lemma=>
         obtain⟨z4,m5,rfl,bz40,bz41,HC⟩:=hcut
         clear HQ HM E0 HZ
         obtain⟨wa4,hwa4⟩:∃v,v=wc:=⟨_,rfl⟩
         rw[←hwa4]at HC⊢
         clear hwa4
         have E0:Hid (m5=⟨x,(x+1)%3==0,marks (x+1+1) lx,marks (z2) ly,⟨marks (z3) lk,m0.h.kd,m0.h.ho,m0.h.tu⟩,m0.log,⟨m0.r.e,m0.r.s,m0.r.t,m0.r.n⟩,⟨m0.c.tr,m0.c.op,m0.c.di,m0.c.wa,m0.c.ts⟩,⟨m0.s.tr,m0.s.ts⟩⟩):=HC.out.1
         have HQ:Hid (OwnNs wa4 base (.slice (some ⟨g,0,none⟩) n cap) (qs.set j ⟨.slice ao' lx ac,.slice bo' ly bc,.slice ko' lk kc,.slice qo' lq qc,.slice zo' lz zc,m5⟩)∧Turned w wa4 (nvB (.slice (some ⟨g,0,none⟩) n cap) ns)∧j<qs.length):=HC.out.2.1
         have HM:Hid (m5.xs.length=lx∧m5.ys.length=ly∧m5.h.ks.length=lk∧m5.c.ts.length=lq∧m5.s.ts.length=lz):=HC.out.2.2.1
         have Ez4:Hid (z4=z3+((lk:Nat):Int)):=HC.out.2.2.2.1
         have HZ:Hid (z4=x+2+(lx+ly+lk:Nat)):=HC.out.2.2.2.2
         clear HC
         go_upto_region 11 with fail
         have cc:wa4.cell? ⟨g,j*20+5,none⟩=some (.int .i64 m5.h.kd):=(HQ.out.1.cellAt j 5 (show(qs.set j ⟨.slice ao' lx ac,.slice bo' ly bc,.slice ko' lk kc,.slice qo' lq qc,.slice zo' lz zc,m5⟩)[j]?=some ⟨.slice ao' lx ac,.slice bo' ly bc,.slice ko' lk kc,.slice qo' lq qc,.slice zo' lz zc,m5⟩ by rw[List.getElem?_set,if_pos rfl,if_pos HQ.out.2.2]) (by decide)).1
         have ff:wa4.frozen? ⟨g,j*20+5,none⟩=false:=(HQ.out.1.cellAt j 5 (show(qs.set j ⟨.slice ao' lx ac,.slice bo' ly bc,.slice ko' lk kc,.slice qo' lq qc,.slice zo' lz zc,m5⟩)[j]?=some ⟨.slice ao' lx ac,.slice bo' ly bc,.slice ko' lk kc,.slice qo' lq qc,.slice zo' lz zc,m5⟩ by rw[List.getElem?_set,if_pos rfl,if_pos HQ.out.2.2]) (by decide)).2
         obtain⟨m6,hm6⟩:∃m:Nd,m={m5 with h:={m5.h with kd:=z4}}:=⟨_,rfl⟩
         obtain⟨wa5,hwa5⟩:∃wn,wn=wa4.setCell ⟨g,j*20+5,none⟩ (.int .i64 (z4)):=⟨_,rfl⟩
         have HQn:Hid (OwnNs wa5 base (.slice (some ⟨g,0,none⟩) n cap) (qs.set j ⟨.slice ao' lx ac,.slice bo' ly bc,.slice ko' lk kc,.slice qo' lq qc,.slice zo' lz zc,m6⟩)∧Turned w wa5 (nvB (.slice (some ⟨g,0,none⟩) n cap) ns)∧j<qs.length):=by
          rw[hwa5]
          have y0:=HQ.out.1.put1 j 5 (show(qs.set j ⟨.slice ao' lx ac,.slice bo' ly bc,.slice ko' lk kc,.slice qo' lq qc,.slice zo' lz zc,m5⟩)[j]?=some ⟨.slice ao' lx ac,.slice bo' ly bc,.slice ko' lk kc,.slice qo' lq qc,.slice zo' lz zc,m5⟩ by rw[List.getElem?_set,if_pos rfl,if_pos HQ.out.2.2]) (by decide) (.int .i64 (z4)) m6 (by rw[hm6];rfl) (by rw[hm6]) (by rw[hm6]) (by rw[hm6]) (by rw[hm6]) (by rw[hm6])
          rw[List.set_set]at y0
          exact⟨y0,HQ.out.2.1.set1 HX.out.2.2.2.2 _ _,HQ.out.2.2⟩
         have HMn:Hid (m6.xs.length=lx∧m6.ys.length=ly∧m6.h.ks.length=lk∧m6.c.ts.length=lq∧m6.s.ts.length=lz):=by rw[hm6];exact HM.out
         have En:Hid (m6=⟨x,(x+1)%3==0,marks (x+1+1) lx,marks (z2) ly,⟨marks (z3) lk,z4,m0.h.ho,m0.h.tu⟩,m0.log,⟨m0.r.e,m0.r.s,m0.r.t,m0.r.n⟩,⟨m0.c.tr,m0.c.op,m0.c.di,m0.c.wa,m0.c.ts⟩,⟨m0.s.tr,m0.s.ts⟩⟩):=by rw[Hid,hm6,E0.out]
         clear hm6 E0 HM
         replace HQ:Hid (OwnNs wa5 base (.slice (some ⟨g,0,none⟩) n cap) (qs.set j ⟨.slice ao' lx ac,.slice bo' ly bc,.slice ko' lk kc,.slice qo' lq qc,.slice zo' lz zc,m6⟩)∧Turned w wa5 (nvB (.slice (some ⟨g,0,none⟩) n cap) ns)∧j<qs.length):=HQn.out
         have HM:Hid (m6.xs.length=lx∧m6.ys.length=ly∧m6.h.ks.length=lk∧m6.c.ts.length=lq∧m6.s.ts.length=lz):=HMn.out
         have E0:Hid (m6=⟨x,(x+1)%3==0,marks (x+1+1) lx,marks (z2) ly,⟨marks (z3) lk,z4,m0.h.ho,m0.h.tu⟩,m0.log,⟨m0.r.e,m0.r.s,m0.r.t,m0.r.n⟩,⟨m0.c.tr,m0.c.op,m0.c.di,m0.c.wa,m0.c.ts⟩,⟨m0.s.tr,m0.s.ts⟩⟩):=En.out
         clear HQn HMn En
         go_upto_region 13 with fail
         rw[←hwa5]
         clear hwa5 cc ff
         have cc:wa5.cell? ⟨g,j*20+6,none⟩=some (.int .i64 m6.h.ho):=(HQ.out.1.cellAt j 6 (show(qs.set j ⟨.slice ao' lx ac,.slice bo' ly bc,.slice ko' lk kc,.slice qo' lq qc,.slice zo' lz zc,m6⟩)[j]?=some ⟨.slice ao' lx ac,.slice bo' ly bc,.slice ko' lk kc,.slice qo' lq qc,.slice zo' lz zc,m6⟩ by rw[List.getElem?_set,if_pos rfl,if_pos HQ.out.2.2]) (by decide)).1
         have ff:wa5.frozen? ⟨g,j*20+6,none⟩=false:=(HQ.out.1.cellAt j 6 (show(qs.set j ⟨.slice ao' lx ac,.slice bo' ly bc,.slice ko' lk kc,.slice qo' lq qc,.slice zo' lz zc,m6⟩)[j]?=some ⟨.slice ao' lx ac,.slice bo' ly bc,.slice ko' lk kc,.slice qo' lq qc,.slice zo' lz zc,m6⟩ by rw[List.getElem?_set,if_pos rfl,if_pos HQ.out.2.2]) (by decide)).2
         obtain⟨m7,hm7⟩:∃m:Nd,m={m6 with h:={m6.h with ho:=z4+1}}:=⟨_,rfl⟩
         obtain⟨wa6,hwa6⟩:∃wn,wn=wa5.setCell ⟨g,j*20+6,none⟩ (.int .i64 (z4+1)):=⟨_,rfl⟩
         have HQn:Hid (OwnNs wa6 base (.slice (some ⟨g,0,none⟩) n cap) (qs.set j ⟨.slice ao' lx ac,.slice bo' ly bc,.slice ko' lk kc,.slice qo' lq qc,.slice zo' lz zc,m7⟩)∧Turned w wa6 (nvB (.slice (some ⟨g,0,none⟩) n cap) ns)∧j<qs.length):=by
          rw[hwa6]
          have y0:=HQ.out.1.put1 j 6 (show(qs.set j ⟨.slice ao' lx ac,.slice bo' ly bc,.slice ko' lk kc,.slice qo' lq qc,.slice zo' lz zc,m6⟩)[j]?=some ⟨.slice ao' lx ac,.slice bo' ly bc,.slice ko' lk kc,.slice qo' lq qc,.slice zo' lz zc,m6⟩ by rw[List.getElem?_set,if_pos rfl,if_pos HQ.out.2.2]) (by decide) (.int .i64 (z4+1)) m7 (by rw[hm7];rfl) (by rw[hm7]) (by rw[hm7]) (by rw[hm7]) (by rw[hm7]) (by rw[hm7])
          rw[List.set_set]at y0
          exact⟨y0,HQ.out.2.1.set1 HX.out.2.2.2.2 _ _,HQ.out.2.2⟩
         have HMn:Hid (m7.xs.length=lx∧m7.ys.length=ly∧m7.h.ks.length=lk∧m7.c.ts.length=lq∧m7.s.ts.length=lz):=by rw[hm7];exact HM.out
         have En:Hid (m7=⟨x,(x+1)%3==0,marks (x+1+1) lx,marks (z2) ly,⟨marks (z3) lk,z4,z4+1,m0.h.tu⟩,m0.log,⟨m0.r.e,m0.r.s,m0.r.t,m0.r.n⟩,⟨m0.c.tr,m0.c.op,m0.c.di,m0.c.wa,m0.c.ts⟩,⟨m0.s.tr,m0.s.ts⟩⟩):=by rw[Hid,hm7,E0.out]
         clear hm7 E0 HM
         replace HQ:Hid (OwnNs wa6 base (.slice (some ⟨g,0,none⟩) n cap) (qs.set j ⟨.slice ao' lx ac,.slice bo' ly bc,.slice ko' lk kc,.slice qo' lq qc,.slice zo' lz zc,m7⟩)∧Turned w wa6 (nvB (.slice (some ⟨g,0,none⟩) n cap) ns)∧j<qs.length):=HQn.out
         have HM:Hid (m7.xs.length=lx∧m7.ys.length=ly∧m7.h.ks.length=lk∧m7.c.ts.length=lq∧m7.s.ts.length=lz):=HMn.out
         have E0:Hid (m7=⟨x,(x+1)%3==0,marks (x+1+1) lx,marks (z2) ly,⟨marks (z3) lk,z4,z4+1,m0.h.tu⟩,m0.log,⟨m0.r.e,m0.r.s,m0.r.t,m0.r.n⟩,⟨m0.c.tr,m0.c.op,m0.c.di,m0.c.wa,m0.c.ts⟩,⟨m0.s.tr,m0.s.ts⟩⟩):=En.out
         clear HQn HMn En
         go_upto_region 15 with fail
         rw[←hwa6]
         clear hwa6 cc ff
         have cc:wa6.cell? ⟨g,j*20+7,none⟩=some (.int .i64 m7.h.tu):=(HQ.out.1.cellAt j 7 (show(qs.set j ⟨.slice ao' lx ac,.slice bo' ly bc,.slice ko' lk kc,.slice qo' lq qc,.slice zo' lz zc,m7⟩)[j]?=some ⟨.slice ao' lx ac,.slice bo' ly bc,.slice ko' lk kc,.slice qo' lq qc,.slice zo' lz zc,m7⟩ by rw[List.getElem?_set,if_pos rfl,if_pos HQ.out.2.2]) (by decide)).1
         have ff:wa6.frozen? ⟨g,j*20+7,none⟩=false:=(HQ.out.1.cellAt j 7 (show(qs.set j ⟨.slice ao' lx ac,.slice bo' ly bc,.slice ko' lk kc,.slice qo' lq qc,.slice zo' lz zc,m7⟩)[j]?=some ⟨.slice ao' lx ac,.slice bo' ly bc,.slice ko' lk kc,.slice qo' lq qc,.slice zo' lz zc,m7⟩ by rw[List.getElem?_set,if_pos rfl,if_pos HQ.out.2.2]) (by decide)).2
         obtain⟨m8,hm8⟩:∃m:Nd,m={m7 with h:={m7.h with tu:=z4+1+1}}:=⟨_,rfl⟩
         obtain⟨wa7,hwa7⟩:∃wn,wn=wa6.setCell ⟨g,j*20+7,none⟩ (.int .i64 (z4+1+1)):=⟨_,rfl⟩
         have HQn:Hid (OwnNs wa7 base (.slice (some ⟨g,0,none⟩) n cap) (qs.set j ⟨.slice ao' lx ac,.slice bo' ly bc,.slice ko' lk kc,.slice qo' lq qc,.slice zo' lz zc,m8⟩)∧Turned w wa7 (nvB (.slice (some ⟨g,0,none⟩) n cap) ns)∧j<qs.length):=by
          rw[hwa7]
          have y0:=HQ.out.1.put1 j 7 (show(qs.set j ⟨.slice ao' lx ac,.slice bo' ly bc,.slice ko' lk kc,.slice qo' lq qc,.slice zo' lz zc,m7⟩)[j]?=some ⟨.slice ao' lx ac,.slice bo' ly bc,.slice ko' lk kc,.slice qo' lq qc,.slice zo' lz zc,m7⟩ by rw[List.getElem?_set,if_pos rfl,if_pos HQ.out.2.2]) (by decide) (.int .i64 (z4+1+1)) m8 (by rw[hm8];rfl) (by rw[hm8]) (by rw[hm8]) (by rw[hm8]) (by rw[hm8]) (by rw[hm8])
          rw[List.set_set]at y0
          exact⟨y0,HQ.out.2.1.set1 HX.out.2.2.2.2 _ _,HQ.out.2.2⟩
         have HMn:Hid (m8.xs.length=lx∧m8.ys.length=ly∧m8.h.ks.length=lk∧m8.c.ts.length=lq∧m8.s.ts.length=lz):=by rw[hm8];exact HM.out
         have En:Hid (m8=⟨x,(x+1)%3==0,marks (x+1+1) lx,marks (z2) ly,⟨marks (z3) lk,z4,z4+1,z4+1+1⟩,m0.log,⟨m0.r.e,m0.r.s,m0.r.t,m0.r.n⟩,⟨m0.c.tr,m0.c.op,m0.c.di,m0.c.wa,m0.c.ts⟩,⟨m0.s.tr,m0.s.ts⟩⟩):=by rw[Hid,hm8,E0.out]
         clear hm8 E0 HM
         replace HQ:Hid (OwnNs wa7 base (.slice (some ⟨g,0,none⟩) n cap) (qs.set j ⟨.slice ao' lx ac,.slice bo' ly bc,.slice ko' lk kc,.slice qo' lq qc,.slice zo' lz zc,m8⟩)∧Turned w wa7 (nvB (.slice (some ⟨g,0,none⟩) n cap) ns)∧j<qs.length):=HQn.out
         have HM:Hid (m8.xs.length=lx∧m8.ys.length=ly∧m8.h.ks.length=lk∧m8.c.ts.length=lq∧m8.s.ts.length=lz):=HMn.out
         have E0:Hid (m8=⟨x,(x+1)%3==0,marks (x+1+1) lx,marks (z2) ly,⟨marks (z3) lk,z4,z4+1,z4+1+1⟩,m0.log,⟨m0.r.e,m0.r.s,m0.r.t,m0.r.n⟩,⟨m0.c.tr,m0.c.op,m0.c.di,m0.c.wa,m0.c.ts⟩,⟨m0.s.tr,m0.s.ts⟩⟩):=En.out
         clear HQn HMn En
         go_upto_region 17 with fail
         rw[←hwa7]
         clear hwa7 cc ff
         go_cut [] (fun wx=>∃m:Nd,Hid (m=⟨x,(x+1)%3==0,marks (x+1+1) lx,marks (z2) ly,⟨marks (z3) lk,z4,z4+1,z4+1+1⟩,mtext (z4+1+1+1).toNat,⟨m0.r.e,m0.r.s,m0.r.t,m0.r.n⟩,⟨m0.c.tr,m0.c.op,m0.c.di,m0.c.wa,m0.c.ts⟩,⟨m0.s.tr,m0.s.ts⟩⟩∧(OwnNs wx base (.slice (some ⟨g,0,none⟩) n cap) (qs.set j ⟨.slice ao' lx ac,.slice bo' ly bc,.slice ko' lk kc,.slice qo' lq qc,.slice zo' lz zc,m⟩)∧Turned w wx (nvB (.slice (some ⟨g,0,none⟩) n cap) ns)∧j<qs.length)∧m.xs.length=lx∧m.ys.length=ly∧m.h.ks.length=lk∧m.c.ts.length=lq∧m.s.ts.length=lz))
         case first=>
          as_aux_lemma=>
           have CT:=mtext_any (z4+1+1+1) wa7 (by omega) (by omega)
           unfold S at CT
           go_wp2_with fail
           refine CT.mono ?_
           rintro e wt ⟨rfl,bt⟩
           replace HQ:Hid (OwnNs wt base (.slice (some ⟨g,0,none⟩) n cap) (qs.set j ⟨.slice ao' lx ac,.slice bo' ly bc,.slice ko' lk kc,.slice qo' lq qc,.slice zo' lz zc,m8⟩)∧Turned w wt (nvB (.slice (some ⟨g,0,none⟩) n cap) ns)∧j<qs.length):=⟨HQ.out.1.below bt,HQ.out.2.1.both (Turned.below _ bt),HQ.out.2.2⟩
           clear bt CT
           have cc:wt.cell? ⟨g,j*20+8,none⟩=some (.string ⟨m8.log.toArray⟩):=(HQ.out.1.cellAt j 8 (show(qs.set j ⟨.slice ao' lx ac,.slice bo' ly bc,.slice ko' lk kc,.slice qo' lq qc,.slice zo' lz zc,m8⟩)[j]?=some ⟨.slice ao' lx ac,.slice bo' ly bc,.slice ko' lk kc,.slice qo' lq qc,.slice zo' lz zc,m8⟩ by rw[List.getElem?_set,if_pos rfl,if_pos HQ.out.2.2]) (by decide)).1
           have ff:wt.frozen? ⟨g,j*20+8,none⟩=false:=(HQ.out.1.cellAt j 8 (show(qs.set j ⟨.slice ao' lx ac,.slice bo' ly bc,.slice ko' lk kc,.slice qo' lq qc,.slice zo' lz zc,m8⟩)[j]?=some ⟨.slice ao' lx ac,.slice bo' ly bc,.slice ko' lk kc,.slice qo' lq qc,.slice zo' lz zc,m8⟩ by rw[List.getElem?_set,if_pos rfl,if_pos HQ.out.2.2]) (by decide)).2
           obtain⟨m9,hm9⟩:∃m:Nd,m={m8 with log:=mtext (z4+1+1+1).toNat}:=⟨_,rfl⟩
           obtain⟨wa8,hwa8⟩:∃wn,wn=wt.setCell ⟨g,j*20+8,none⟩ (.string ⟨(mtext (z4+1+1+1).toNat).toArray⟩):=⟨_,rfl⟩
           have HQn:Hid (OwnNs wa8 base (.slice (some ⟨g,0,none⟩) n cap) (qs.set j ⟨.slice ao' lx ac,.slice bo' ly bc,.slice ko' lk kc,.slice qo' lq qc,.slice zo' lz zc,m9⟩)∧Turned w wa8 (nvB (.slice (some ⟨g,0,none⟩) n cap) ns)∧j<qs.length):=by
            rw[hwa8]
            have y0:=HQ.out.1.put1 j 8 (show(qs.set j ⟨.slice ao' lx ac,.slice bo' ly bc,.slice ko' lk kc,.slice qo' lq qc,.slice zo' lz zc,m8⟩)[j]?=some ⟨.slice ao' lx ac,.slice bo' ly bc,.slice ko' lk kc,.slice qo' lq qc,.slice zo' lz zc,m8⟩ by rw[List.getElem?_set,if_pos rfl,if_pos HQ.out.2.2]) (by decide) (.string ⟨(mtext (z4+1+1+1).toNat).toArray⟩) m9 (by rw[hm9];rfl) (by rw[hm9]) (by rw[hm9]) (by rw[hm9]) (by rw[hm9]) (by rw[hm9])
            rw[List.set_set]at y0
            exact⟨y0,HQ.out.2.1.set1 HX.out.2.2.2.2 _ _,HQ.out.2.2⟩
           have HMn:Hid (m9.xs.length=lx∧m9.ys.length=ly∧m9.h.ks.length=lk∧m9.c.ts.length=lq∧m9.s.ts.length=lz):=by rw[hm9];exact HM.out
           have En:Hid (m9=⟨x,(x+1)%3==0,marks (x+1+1) lx,marks (z2) ly,⟨marks (z3) lk,z4,z4+1,z4+1+1⟩,mtext (z4+1+1+1).toNat,⟨m0.r.e,m0.r.s,m0.r.t,m0.r.n⟩,⟨m0.c.tr,m0.c.op,m0.c.di,m0.c.wa,m0.c.ts⟩,⟨m0.s.tr,m0.s.ts⟩⟩):=by rw[Hid,hm9,E0.out]
           clear hm9 E0 HM
           replace HQ:Hid (OwnNs wa8 base (.slice (some ⟨g,0,none⟩) n cap) (qs.set j ⟨.slice ao' lx ac,.slice bo' ly bc,.slice ko' lk kc,.slice qo' lq qc,.slice zo' lz zc,m9⟩)∧Turned w wa8 (nvB (.slice (some ⟨g,0,none⟩) n cap) ns)∧j<qs.length):=HQn.out
           have HM:Hid (m9.xs.length=lx∧m9.ys.length=ly∧m9.h.ks.length=lk∧m9.c.ts.length=lq∧m9.s.ts.length=lz):=HMn.out
           have E0:Hid (m9=⟨x,(x+1)%3==0,marks (x+1+1) lx,marks (z2) ly,⟨marks (z3) lk,z4,z4+1,z4+1+1⟩,mtext (z4+1+1+1).toNat,⟨m0.r.e,m0.r.s,m0.r.t,m0.r.n⟩,⟨m0.c.tr,m0.c.op,m0.c.di,m0.c.wa,m0.c.ts⟩,⟨m0.s.tr,m0.s.ts⟩⟩):=En.out
           clear HQn HMn En
           go_wp2_with fail
           rw[←hwa8]
           clear hwa8 cc ff
           go_meet
           exact⟨m9,E0.out,HQ.out,HM.out⟩
         case rest=>
          as_aux_lemma=>
           obtain⟨m9,HC⟩:=hcut
           clear HQ HM E0
           obtain⟨wa8,hwa8⟩:∃v,v=wc:=⟨_,rfl⟩
           rw[←hwa8]at HC⊢
           clear hwa8
           have E0:Hid (m9=⟨x,(x+1)%3==0,marks (x+1+1) lx,marks (z2) ly,⟨marks (z3) lk,z4,z4+1,z4+1+1⟩,mtext (z4+1+1+1).toNat,⟨m0.r.e,m0.r.s,m0.r.t,m0.r.n⟩,⟨m0.c.tr,m0.c.op,m0.c.di,m0.c.wa,m0.c.ts⟩,⟨m0.s.tr,m0.s.ts⟩⟩):=HC.out.1
           have HQ:Hid (OwnNs wa8 base (.slice (some ⟨g,0,none⟩) n cap) (qs.set j ⟨.slice ao' lx ac,.slice bo' ly bc,.slice ko' lk kc,.slice qo' lq qc,.slice zo' lz zc,m9⟩)∧Turned w wa8 (nvB (.slice (some ⟨g,0,none⟩) n cap) ns)∧j<qs.length):=HC.out.2.1
           have HM:Hid (m9.xs.length=lx∧m9.ys.length=ly∧m9.h.ks.length=lk∧m9.c.ts.length=lq∧m9.s.ts.length=lz):=HC.out.2.2
           clear HC
           go_upto_region 19 with fail
           have cc:wa8.cell? ⟨g,j*20+9,none⟩=some (.int .i64 m9.r.e):=(HQ.out.1.cellAt j 9 (show(qs.set j ⟨.slice ao' lx ac,.slice bo' ly bc,.slice ko' lk kc,.slice qo' lq qc,.slice zo' lz zc,m9⟩)[j]?=some ⟨.slice ao' lx ac,.slice bo' ly bc,.slice ko' lk kc,.slice qo' lq qc,.slice zo' lz zc,m9⟩ by rw[List.getElem?_set,if_pos rfl,if_pos HQ.out.2.2]) (by decide)).1
           have ff:wa8.frozen? ⟨g,j*20+9,none⟩=false:=(HQ.out.1.cellAt j 9 (show(qs.set j ⟨.slice ao' lx ac,.slice bo' ly bc,.slice ko' lk kc,.slice qo' lq qc,.slice zo' lz zc,m9⟩)[j]?=some ⟨.slice ao' lx ac,.slice bo' ly bc,.slice ko' lk kc,.slice qo' lq qc,.slice zo' lz zc,m9⟩ by rw[List.getElem?_set,if_pos rfl,if_pos HQ.out.2.2]) (by decide)).2
           obtain⟨m10,hm10⟩:∃m:Nd,m={m9 with r:={m9.r with e:=z4+1+1+1+1}}:=⟨_,rfl⟩
           obtain⟨wa9,hwa9⟩:∃wn,wn=wa8.setCell ⟨g,j*20+9,none⟩ (.int .i64 (z4+1+1+1+1)):=⟨_,rfl⟩
           have HQn:Hid (OwnNs wa9 base (.slice (some ⟨g,0,none⟩) n cap) (qs.set j ⟨.slice ao' lx ac,.slice bo' ly bc,.slice ko' lk kc,.slice qo' lq qc,.slice zo' lz zc,m10⟩)∧Turned w wa9 (nvB (.slice (some ⟨g,0,none⟩) n cap) ns)∧j<qs.length):=by
            rw[hwa9]
            have y0:=HQ.out.1.put1 j 9 (show(qs.set j ⟨.slice ao' lx ac,.slice bo' ly bc,.slice ko' lk kc,.slice qo' lq qc,.slice zo' lz zc,m9⟩)[j]?=some ⟨.slice ao' lx ac,.slice bo' ly bc,.slice ko' lk kc,.slice qo' lq qc,.slice zo' lz zc,m9⟩ by rw[List.getElem?_set,if_pos rfl,if_pos HQ.out.2.2]) (by decide) (.int .i64 (z4+1+1+1+1)) m10 (by rw[hm10];rfl) (by rw[hm10]) (by rw[hm10]) (by rw[hm10]) (by rw[hm10]) (by rw[hm10])
            rw[List.set_set]at y0
            exact⟨y0,HQ.out.2.1.set1 HX.out.2.2.2.2 _ _,HQ.out.2.2⟩
           have HMn:Hid (m10.xs.length=lx∧m10.ys.length=ly∧m10.h.ks.length=lk∧m10.c.ts.length=lq∧m10.s.ts.length=lz):=by rw[hm10];exact HM.out
           have En:Hid (m10=⟨x,(x+1)%3==0,marks (x+1+1) lx,marks (z2) ly,⟨marks (z3) lk,z4,z4+1,z4+1+1⟩,mtext (z4+1+1+1).toNat,⟨z4+1+1+1+1,m0.r.s,m0.r.t,m0.r.n⟩,⟨m0.c.tr,m0.c.op,m0.c.di,m0.c.wa,m0.c.ts⟩,⟨m0.s.tr,m0.s.ts⟩⟩):=by rw[Hid,hm10,E0.out]
           clear hm10 E0 HM
           replace HQ:Hid (OwnNs wa9 base (.slice (some ⟨g,0,none⟩) n cap) (qs.set j ⟨.slice ao' lx ac,.slice bo' ly bc,.slice ko' lk kc,.slice qo' lq qc,.slice zo' lz zc,m10⟩)∧Turned w wa9 (nvB (.slice (some ⟨g,0,none⟩) n cap) ns)∧j<qs.length):=HQn.out
           have HM:Hid (m10.xs.length=lx∧m10.ys.length=ly∧m10.h.ks.length=lk∧m10.c.ts.length=lq∧m10.s.ts.length=lz):=HMn.out
           have E0:Hid (m10=⟨x,(x+1)%3==0,marks (x+1+1) lx,marks (z2) ly,⟨marks (z3) lk,z4,z4+1,z4+1+1⟩,mtext (z4+1+1+1).toNat,⟨z4+1+1+1+1,m0.r.s,m0.r.t,m0.r.n⟩,⟨m0.c.tr,m0.c.op,m0.c.di,m0.c.wa,m0.c.ts⟩,⟨m0.s.tr,m0.s.ts⟩⟩):=En.out
           clear HQn HMn En
           go_upto_region 21 with fail
           rw[←hwa9]
           clear hwa9 cc ff
           have cc:wa9.cell? ⟨g,j*20+10,none⟩=some (.int .i64 m10.r.s):=(HQ.out.1.cellAt j 10 (show(qs.set j ⟨.slice ao' lx ac,.slice bo' ly bc,.slice ko' lk kc,.slice qo' lq qc,.slice zo' lz zc,m10⟩)[j]?=some ⟨.slice ao' lx ac,.slice bo' ly bc,.slice ko' lk kc,.slice qo' lq qc,.slice zo' lz zc,m10⟩ by rw[List.getElem?_set,if_pos rfl,if_pos HQ.out.2.2]) (by decide)).1
           have ff:wa9.frozen? ⟨g,j*20+10,none⟩=false:=(HQ.out.1.cellAt j 10 (show(qs.set j ⟨.slice ao' lx ac,.slice bo' ly bc,.slice ko' lk kc,.slice qo' lq qc,.slice zo' lz zc,m10⟩)[j]?=some ⟨.slice ao' lx ac,.slice bo' ly bc,.slice ko' lk kc,.slice qo' lq qc,.slice zo' lz zc,m10⟩ by rw[List.getElem?_set,if_pos rfl,if_pos HQ.out.2.2]) (by decide)).2
           obtain⟨m11,hm11⟩:∃m:Nd,m={m10 with r:={m10.r with s:=z4+1+1+1+1+1}}:=⟨_,rfl⟩
           obtain⟨wa10,hwa10⟩:∃wn,wn=wa9.setCell ⟨g,j*20+10,none⟩ (.int .i64 (z4+1+1+1+1+1)):=⟨_,rfl⟩
           have HQn:Hid (OwnNs wa10 base (.slice (some ⟨g,0,none⟩) n cap) (qs.set j ⟨.slice ao' lx ac,.slice bo' ly bc,.slice ko' lk kc,.slice qo' lq qc,.slice zo' lz zc,m11⟩)∧Turned w wa10 (nvB (.slice (some ⟨g,0,none⟩) n cap) ns)∧j<qs.length):=by
            rw[hwa10]
            have y0:=HQ.out.1.put1 j 10 (show(qs.set j ⟨.slice ao' lx ac,.slice bo' ly bc,.slice ko' lk kc,.slice qo' lq qc,.slice zo' lz zc,m10⟩)[j]?=some ⟨.slice ao' lx ac,.slice bo' ly bc,.slice ko' lk kc,.slice qo' lq qc,.slice zo' lz zc,m10⟩ by rw[List.getElem?_set,if_pos rfl,if_pos HQ.out.2.2]) (by decide) (.int .i64 (z4+1+1+1+1+1)) m11 (by rw[hm11];rfl) (by rw[hm11]) (by rw[hm11]) (by rw[hm11]) (by rw[hm11]) (by rw[hm11])
            rw[List.set_set]at y0
            exact⟨y0,HQ.out.2.1.set1 HX.out.2.2.2.2 _ _,HQ.out.2.2⟩
           have HMn:Hid (m11.xs.length=lx∧m11.ys.length=ly∧m11.h.ks.length=lk∧m11.c.ts.length=lq∧m11.s.ts.length=lz):=by rw[hm11];exact HM.out
           have En:Hid (m11=⟨x,(x+1)%3==0,marks (x+1+1) lx,marks (z2) ly,⟨marks (z3) lk,z4,z4+1,z4+1+1⟩,mtext (z4+1+1+1).toNat,⟨z4+1+1+1+1,z4+1+1+1+1+1,m0.r.t,m0.r.n⟩,⟨m0.c.tr,m0.c.op,m0.c.di,m0.c.wa,m0.c.ts⟩,⟨m0.s.tr,m0.s.ts⟩⟩):=by rw[Hid,hm11,E0.out]
           clear hm11 E0 HM
           replace HQ:Hid (OwnNs wa10 base (.slice (some ⟨g,0,none⟩) n cap) (qs.set j ⟨.slice ao' lx ac,.slice bo' ly bc,.slice ko' lk kc,.slice qo' lq qc,.slice zo' lz zc,m11⟩)∧Turned w wa10 (nvB (.slice (some ⟨g,0,none⟩) n cap) ns)∧j<qs.length):=HQn.out
           have HM:Hid (m11.xs.length=lx∧m11.ys.length=ly∧m11.h.ks.length=lk∧m11.c.ts.length=lq∧m11.s.ts.length=lz):=HMn.out
           have E0:Hid (m11=⟨x,(x+1)%3==0,marks (x+1+1) lx,marks (z2) ly,⟨marks (z3) lk,z4,z4+1,z4+1+1⟩,mtext (z4+1+1+1).toNat,⟨z4+1+1+1+1,z4+1+1+1+1+1,m0.r.t,m0.r.n⟩,⟨m0.c.tr,m0.c.op,m0.c.di,m0.c.wa,m0.c.ts⟩,⟨m0.s.tr,m0.s.ts⟩⟩):=En.out
           clear HQn HMn En
           go_upto_region 23 with fail
           rw[←hwa10]
           clear hwa10 cc ff
           have cc:wa10.cell? ⟨g,j*20+11,none⟩=some (.int .i64 m11.r.t):=(HQ.out.1.cellAt j 11 (show(qs.set j ⟨.slice ao' lx ac,.slice bo' ly bc,.slice ko' lk kc,.slice qo' lq qc,.slice zo' lz zc,m11⟩)[j]?=some ⟨.slice ao' lx ac,.slice bo' ly bc,.slice ko' lk kc,.slice qo' lq qc,.slice zo' lz zc,m11⟩ by rw[List.getElem?_set,if_pos rfl,if_pos HQ.out.2.2]) (by decide)).1
           have ff:wa10.frozen? ⟨g,j*20+11,none⟩=false:=(HQ.out.1.cellAt j 11 (show(qs.set j ⟨.slice ao' lx ac,.slice bo' ly bc,.slice ko' lk kc,.slice qo' lq qc,.slice zo' lz zc,m11⟩)[j]?=some ⟨.slice ao' lx ac,.slice bo' ly bc,.slice ko' lk kc,.slice qo' lq qc,.slice zo' lz zc,m11⟩ by rw[List.getElem?_set,if_pos rfl,if_pos HQ.out.2.2]) (by decide)).2
           obtain⟨m12,hm12⟩:∃m:Nd,m={m11 with r:={m11.r with t:=z4+1+1+1+1+1+1}}:=⟨_,rfl⟩
           obtain⟨wa11,hwa11⟩:∃wn,wn=wa10.setCell ⟨g,j*20+11,none⟩ (.int .i64 (z4+1+1+1+1+1+1)):=⟨_,rfl⟩
           have HQn:Hid (OwnNs wa11 base (.slice (some ⟨g,0,none⟩) n cap) (qs.set j ⟨.slice ao' lx ac,.slice bo' ly bc,.slice ko' lk kc,.slice qo' lq qc,.slice zo' lz zc,m12⟩)∧Turned w wa11 (nvB (.slice (some ⟨g,0,none⟩) n cap) ns)∧j<qs.length):=by
            rw[hwa11]
            have y0:=HQ.out.1.put1 j 11 (show(qs.set j ⟨.slice ao' lx ac,.slice bo' ly bc,.slice ko' lk kc,.slice qo' lq qc,.slice zo' lz zc,m11⟩)[j]?=some ⟨.slice ao' lx ac,.slice bo' ly bc,.slice ko' lk kc,.slice qo' lq qc,.slice zo' lz zc,m11⟩ by rw[List.getElem?_set,if_pos rfl,if_pos HQ.out.2.2]) (by decide) (.int .i64 (z4+1+1+1+1+1+1)) m12 (by rw[hm12];rfl) (by rw[hm12]) (by rw[hm12]) (by rw[hm12]) (by rw[hm12]) (by rw[hm12])
            rw[List.set_set]at y0
            exact⟨y0,HQ.out.2.1.set1 HX.out.2.2.2.2 _ _,HQ.out.2.2⟩
           have HMn:Hid (m12.xs.length=lx∧m12.ys.length=ly∧m12.h.ks.length=lk∧m12.c.ts.length=lq∧m12.s.ts.length=lz):=by rw[hm12];exact HM.out
           have En:Hid (m12=⟨x,(x+1)%3==0,marks (x+1+1) lx,marks (z2) ly,⟨marks (z3) lk,z4,z4+1,z4+1+1⟩,mtext (z4+1+1+1).toNat,⟨z4+1+1+1+1,z4+1+1+1+1+1,z4+1+1+1+1+1+1,m0.r.n⟩,⟨m0.c.tr,m0.c.op,m0.c.di,m0.c.wa,m0.c.ts⟩,⟨m0.s.tr,m0.s.ts⟩⟩):=by rw[Hid,hm12,E0.out]
           clear hm12 E0 HM
           replace HQ:Hid (OwnNs wa11 base (.slice (some ⟨g,0,none⟩) n cap) (qs.set j ⟨.slice ao' lx ac,.slice bo' ly bc,.slice ko' lk kc,.slice qo' lq qc,.slice zo' lz zc,m12⟩)∧Turned w wa11 (nvB (.slice (some ⟨g,0,none⟩) n cap) ns)∧j<qs.length):=HQn.out
           have HM:Hid (m12.xs.length=lx∧m12.ys.length=ly∧m12.h.ks.length=lk∧m12.c.ts.length=lq∧m12.s.ts.length=lz):=HMn.out
           have E0:Hid (m12=⟨x,(x+1)%3==0,marks (x+1+1) lx,marks (z2) ly,⟨marks (z3) lk,z4,z4+1,z4+1+1⟩,mtext (z4+1+1+1).toNat,⟨z4+1+1+1+1,z4+1+1+1+1+1,z4+1+1+1+1+1+1,m0.r.n⟩,⟨m0.c.tr,m0.c.op,m0.c.di,m0.c.wa,m0.c.ts⟩,⟨m0.s.tr,m0.s.ts⟩⟩):=En.out
           clear HQn HMn En
           go_upto_region 25 with fail
           rw[←hwa11]
           clear hwa11 cc ff
           go_cut [] (fun wx=>∃m:Nd,Hid (m=⟨x,(x+1)%3==0,marks (x+1+1) lx,marks (z2) ly,⟨marks (z3) lk,z4,z4+1,z4+1+1⟩,mtext (z4+1+1+1).toNat,⟨z4+1+1+1+1,z4+1+1+1+1+1,z4+1+1+1+1+1+1,z4+1+1+1+1+1+1+1⟩,⟨m0.c.tr,m0.c.op,m0.c.di,m0.c.wa,m0.c.ts⟩,⟨m0.s.tr,m0.s.ts⟩⟩∧(OwnNs wx base (.slice (some ⟨g,0,none⟩) n cap) (qs.set j ⟨.slice ao' lx ac,.slice bo' ly bc,.slice ko' lk kc,.slice qo' lq qc,.slice zo' lz zc,m⟩)∧Turned w wx (nvB (.slice (some ⟨g,0,none⟩) n cap) ns)∧j<qs.length)∧m.xs.length=lx∧m.ys.length=ly∧m.h.ks.length=lk∧m.c.ts.length=lq∧m.s.ts.length=lz))
           case first=>
            as_aux_lemma=>
             have cc:wa11.cell? ⟨g,j*20+12,none⟩=some (.int .i64 m12.r.n):=(HQ.out.1.cellAt j 12 (show(qs.set j ⟨.slice ao' lx ac,.slice bo' ly bc,.slice ko' lk kc,.slice qo' lq qc,.slice zo' lz zc,m12⟩)[j]?=some ⟨.slice ao' lx ac,.slice bo' ly bc,.slice ko' lk kc,.slice qo' lq qc,.slice zo' lz zc,m12⟩ by rw[List.getElem?_set,if_pos rfl,if_pos HQ.out.2.2]) (by decide)).1
             have ff:wa11.frozen? ⟨g,j*20+12,none⟩=false:=(HQ.out.1.cellAt j 12 (show(qs.set j ⟨.slice ao' lx ac,.slice bo' ly bc,.slice ko' lk kc,.slice qo' lq qc,.slice zo' lz zc,m12⟩)[j]?=some ⟨.slice ao' lx ac,.slice bo' ly bc,.slice ko' lk kc,.slice qo' lq qc,.slice zo' lz zc,m12⟩ by rw[List.getElem?_set,if_pos rfl,if_pos HQ.out.2.2]) (by decide)).2
             obtain⟨m13,hm13⟩:∃m:Nd,m={m12 with r:={m12.r with n:=z4+1+1+1+1+1+1+1}}:=⟨_,rfl⟩
             obtain⟨wa12,hwa12⟩:∃wn,wn=wa11.setCell ⟨g,j*20+12,none⟩ (.int .i64 (z4+1+1+1+1+1+1+1)):=⟨_,rfl⟩
             have HQn:Hid (OwnNs wa12 base (.slice (some ⟨g,0,none⟩) n cap) (qs.set j ⟨.slice ao' lx ac,.slice bo' ly bc,.slice ko' lk kc,.slice qo' lq qc,.slice zo' lz zc,m13⟩)∧Turned w wa12 (nvB (.slice (some ⟨g,0,none⟩) n cap) ns)∧j<qs.length):=by
              rw[hwa12]
              have y0:=HQ.out.1.put1 j 12 (show(qs.set j ⟨.slice ao' lx ac,.slice bo' ly bc,.slice ko' lk kc,.slice qo' lq qc,.slice zo' lz zc,m12⟩)[j]?=some ⟨.slice ao' lx ac,.slice bo' ly bc,.slice ko' lk kc,.slice qo' lq qc,.slice zo' lz zc,m12⟩ by rw[List.getElem?_set,if_pos rfl,if_pos HQ.out.2.2]) (by decide) (.int .i64 (z4+1+1+1+1+1+1+1)) m13 (by rw[hm13];rfl) (by rw[hm13]) (by rw[hm13]) (by rw[hm13]) (by rw[hm13]) (by rw[hm13])
              rw[List.set_set]at y0
              exact⟨y0,HQ.out.2.1.set1 HX.out.2.2.2.2 _ _,HQ.out.2.2⟩
             have HMn:Hid (m13.xs.length=lx∧m13.ys.length=ly∧m13.h.ks.length=lk∧m13.c.ts.length=lq∧m13.s.ts.length=lz):=by rw[hm13];exact HM.out
             have En:Hid (m13=⟨x,(x+1)%3==0,marks (x+1+1) lx,marks (z2) ly,⟨marks (z3) lk,z4,z4+1,z4+1+1⟩,mtext (z4+1+1+1).toNat,⟨z4+1+1+1+1,z4+1+1+1+1+1,z4+1+1+1+1+1+1,z4+1+1+1+1+1+1+1⟩,⟨m0.c.tr,m0.c.op,m0.c.di,m0.c.wa,m0.c.ts⟩,⟨m0.s.tr,m0.s.ts⟩⟩):=by rw[Hid,hm13,E0.out]
             clear hm13 E0 HM
             replace HQ:Hid (OwnNs wa12 base (.slice (some ⟨g,0,none⟩) n cap) (qs.set j ⟨.slice ao' lx ac,.slice bo' ly bc,.slice ko' lk kc,.slice qo' lq qc,.slice zo' lz zc,m13⟩)∧Turned w wa12 (nvB (.slice (some ⟨g,0,none⟩) n cap) ns)∧j<qs.length):=HQn.out
             have HM:Hid (m13.xs.length=lx∧m13.ys.length=ly∧m13.h.ks.length=lk∧m13.c.ts.length=lq∧m13.s.ts.length=lz):=HMn.out
             have E0:Hid (m13=⟨x,(x+1)%3==0,marks (x+1+1) lx,marks (z2) ly,⟨marks (z3) lk,z4,z4+1,z4+1+1⟩,mtext (z4+1+1+1).toNat,⟨z4+1+1+1+1,z4+1+1+1+1+1,z4+1+1+1+1+1+1,z4+1+1+1+1+1+1+1⟩,⟨m0.c.tr,m0.c.op,m0.c.di,m0.c.wa,m0.c.ts⟩,⟨m0.s.tr,m0.s.ts⟩⟩):=En.out
             clear HQn HMn En
             go_wp2_with fail
             rw[←hwa12]
             clear hwa12 cc ff
             go_meet
             exact⟨m13,E0.out,HQ.out,HM.out⟩
           case rest=>
            as_aux_lemma=>
             obtain⟨m13,HC⟩:=hcut
             clear HQ HM E0
             obtain⟨wa12,hwa12⟩:∃v,v=wc:=⟨_,rfl⟩
             rw[←hwa12]at HC⊢
             clear hwa12
             have E0:Hid (m13=⟨x,(x+1)%3==0,marks (x+1+1) lx,marks (z2) ly,⟨marks (z3) lk,z4,z4+1,z4+1+1⟩,mtext (z4+1+1+1).toNat,⟨z4+1+1+1+1,z4+1+1+1+1+1,z4+1+1+1+1+1+1,z4+1+1+1+1+1+1+1⟩,⟨m0.c.tr,m0.c.op,m0.c.di,m0.c.wa,m0.c.ts⟩,⟨m0.s.tr,m0.s.ts⟩⟩):=HC.out.1
             have HQ:Hid (OwnNs wa12 base (.slice (some ⟨g,0,none⟩) n cap) (qs.set j ⟨.slice ao' lx ac,.slice bo' ly bc,.slice ko' lk kc,.slice qo' lq qc,.slice zo' lz zc,m13⟩)∧Turned w wa12 (nvB (.slice (some ⟨g,0,none⟩) n cap) ns)∧j<qs.length):=HC.out.2.1
             have HM:Hid (m13.xs.length=lx∧m13.ys.length=ly∧m13.h.ks.length=lk∧m13.c.ts.length=lq∧m13.s.ts.length=lz):=HC.out.2.2
             clear HC
             go_upto_region 27 with fail
             have cc:wa12.cell? ⟨g,j*20+13,none⟩=some (.int .i64 m13.c.tr):=(HQ.out.1.cellAt j 13 (show(qs.set j ⟨.slice ao' lx ac,.slice bo' ly bc,.slice ko' lk kc,.slice qo' lq qc,.slice zo' lz zc,m13⟩)[j]?=some ⟨.slice ao' lx ac,.slice bo' ly bc,.slice ko' lk kc,.slice qo' lq qc,.slice zo' lz zc,m13⟩ by rw[List.getElem?_set,if_pos rfl,if_pos HQ.out.2.2]) (by decide)).1
             have ff:wa12.frozen? ⟨g,j*20+13,none⟩=false:=(HQ.out.1.cellAt j 13 (show(qs.set j ⟨.slice ao' lx ac,.slice bo' ly bc,.slice ko' lk kc,.slice qo' lq qc,.slice zo' lz zc,m13⟩)[j]?=some ⟨.slice ao' lx ac,.slice bo' ly bc,.slice ko' lk kc,.slice qo' lq qc,.slice zo' lz zc,m13⟩ by rw[List.getElem?_set,if_pos rfl,if_pos HQ.out.2.2]) (by decide)).2
             obtain⟨m14,hm14⟩:∃m:Nd,m={m13 with c:={m13.c with tr:=z4+1+1+1+1+1+1+1+1}}:=⟨_,rfl⟩
             obtain⟨wa13,hwa13⟩:∃wn,wn=wa12.setCell ⟨g,j*20+13,none⟩ (.int .i64 (z4+1+1+1+1+1+1+1+1)):=⟨_,rfl⟩
             have HQn:Hid (OwnNs wa13 base (.slice (some ⟨g,0,none⟩) n cap) (qs.set j ⟨.slice ao' lx ac,.slice bo' ly bc,.slice ko' lk kc,.slice qo' lq qc,.slice zo' lz zc,m14⟩)∧Turned w wa13 (nvB (.slice (some ⟨g,0,none⟩) n cap) ns)∧j<qs.length):=by
              rw[hwa13]
              have y0:=HQ.out.1.put1 j 13 (show(qs.set j ⟨.slice ao' lx ac,.slice bo' ly bc,.slice ko' lk kc,.slice qo' lq qc,.slice zo' lz zc,m13⟩)[j]?=some ⟨.slice ao' lx ac,.slice bo' ly bc,.slice ko' lk kc,.slice qo' lq qc,.slice zo' lz zc,m13⟩ by rw[List.getElem?_set,if_pos rfl,if_pos HQ.out.2.2]) (by decide) (.int .i64 (z4+1+1+1+1+1+1+1+1)) m14 (by rw[hm14];rfl) (by rw[hm14]) (by rw[hm14]) (by rw[hm14]) (by rw[hm14]) (by rw[hm14])
              rw[List.set_set]at y0
              exact⟨y0,HQ.out.2.1.set1 HX.out.2.2.2.2 _ _,HQ.out.2.2⟩
             have HMn:Hid (m14.xs.length=lx∧m14.ys.length=ly∧m14.h.ks.length=lk∧m14.c.ts.length=lq∧m14.s.ts.length=lz):=by rw[hm14];exact HM.out
             have En:Hid (m14=⟨x,(x+1)%3==0,marks (x+1+1) lx,marks (z2) ly,⟨marks (z3) lk,z4,z4+1,z4+1+1⟩,mtext (z4+1+1+1).toNat,⟨z4+1+1+1+1,z4+1+1+1+1+1,z4+1+1+1+1+1+1,z4+1+1+1+1+1+1+1⟩,⟨z4+1+1+1+1+1+1+1+1,m0.c.op,m0.c.di,m0.c.wa,m0.c.ts⟩,⟨m0.s.tr,m0.s.ts⟩⟩):=by rw[Hid,hm14,E0.out]
             clear hm14 E0 HM
             replace HQ:Hid (OwnNs wa13 base (.slice (some ⟨g,0,none⟩) n cap) (qs.set j ⟨.slice ao' lx ac,.slice bo' ly bc,.slice ko' lk kc,.slice qo' lq qc,.slice zo' lz zc,m14⟩)∧Turned w wa13 (nvB (.slice (some ⟨g,0,none⟩) n cap) ns)∧j<qs.length):=HQn.out
             have HM:Hid (m14.xs.length=lx∧m14.ys.length=ly∧m14.h.ks.length=lk∧m14.c.ts.length=lq∧m14.s.ts.length=lz):=HMn.out
             have E0:Hid (m14=⟨x,(x+1)%3==0,marks (x+1+1) lx,marks (z2) ly,⟨marks (z3) lk,z4,z4+1,z4+1+1⟩,mtext (z4+1+1+1).toNat,⟨z4+1+1+1+1,z4+1+1+1+1+1,z4+1+1+1+1+1+1,z4+1+1+1+1+1+1+1⟩,⟨z4+1+1+1+1+1+1+1+1,m0.c.op,m0.c.di,m0.c.wa,m0.c.ts⟩,⟨m0.s.tr,m0.s.ts⟩⟩):=En.out
             clear HQn HMn En
             go_upto_region 29 with fail
             rw[←hwa13]
             clear hwa13 cc ff
             have cc:wa13.cell? ⟨g,j*20+14,none⟩=some (.bool m14.c.op):=(HQ.out.1.cellAt j 14 (show(qs.set j ⟨.slice ao' lx ac,.slice bo' ly bc,.slice ko' lk kc,.slice qo' lq qc,.slice zo' lz zc,m14⟩)[j]?=some ⟨.slice ao' lx ac,.slice bo' ly bc,.slice ko' lk kc,.slice qo' lq qc,.slice zo' lz zc,m14⟩ by rw[List.getElem?_set,if_pos rfl,if_pos HQ.out.2.2]) (by decide)).1
             have ff:wa13.frozen? ⟨g,j*20+14,none⟩=false:=(HQ.out.1.cellAt j 14 (show(qs.set j ⟨.slice ao' lx ac,.slice bo' ly bc,.slice ko' lk kc,.slice qo' lq qc,.slice zo' lz zc,m14⟩)[j]?=some ⟨.slice ao' lx ac,.slice bo' ly bc,.slice ko' lk kc,.slice qo' lq qc,.slice zo' lz zc,m14⟩ by rw[List.getElem?_set,if_pos rfl,if_pos HQ.out.2.2]) (by decide)).2
             obtain⟨m15,hm15⟩:∃m:Nd,m={m14 with c:={m14.c with op:=(z4+1+1+1+1+1+1+1+1+1)%3==0}}:=⟨_,rfl⟩
             obtain⟨wa14,hwa14⟩:∃wn,wn=wa13.setCell ⟨g,j*20+14,none⟩ (.bool ((z4+1+1+1+1+1+1+1+1+1)%3==0)):=⟨_,rfl⟩
             have HQn:Hid (OwnNs wa14 base (.slice (some ⟨g,0,none⟩) n cap) (qs.set j ⟨.slice ao' lx ac,.slice bo' ly bc,.slice ko' lk kc,.slice qo' lq qc,.slice zo' lz zc,m15⟩)∧Turned w wa14 (nvB (.slice (some ⟨g,0,none⟩) n cap) ns)∧j<qs.length):=by
              rw[hwa14]
              have y0:=HQ.out.1.put1 j 14 (show(qs.set j ⟨.slice ao' lx ac,.slice bo' ly bc,.slice ko' lk kc,.slice qo' lq qc,.slice zo' lz zc,m14⟩)[j]?=some ⟨.slice ao' lx ac,.slice bo' ly bc,.slice ko' lk kc,.slice qo' lq qc,.slice zo' lz zc,m14⟩ by rw[List.getElem?_set,if_pos rfl,if_pos HQ.out.2.2]) (by decide) (.bool ((z4+1+1+1+1+1+1+1+1+1)%3==0)) m15 (by rw[hm15];rfl) (by rw[hm15]) (by rw[hm15]) (by rw[hm15]) (by rw[hm15]) (by rw[hm15])
              rw[List.set_set]at y0
              exact⟨y0,HQ.out.2.1.set1 HX.out.2.2.2.2 _ _,HQ.out.2.2⟩
             have HMn:Hid (m15.xs.length=lx∧m15.ys.length=ly∧m15.h.ks.length=lk∧m15.c.ts.length=lq∧m15.s.ts.length=lz):=by rw[hm15];exact HM.out
             have En:Hid (m15=⟨x,(x+1)%3==0,marks (x+1+1) lx,marks (z2) ly,⟨marks (z3) lk,z4,z4+1,z4+1+1⟩,mtext (z4+1+1+1).toNat,⟨z4+1+1+1+1,z4+1+1+1+1+1,z4+1+1+1+1+1+1,z4+1+1+1+1+1+1+1⟩,⟨z4+1+1+1+1+1+1+1+1,(z4+1+1+1+1+1+1+1+1+1)%3==0,m0.c.di,m0.c.wa,m0.c.ts⟩,⟨m0.s.tr,m0.s.ts⟩⟩):=by rw[Hid,hm15,E0.out]
             clear hm15 E0 HM
             replace HQ:Hid (OwnNs wa14 base (.slice (some ⟨g,0,none⟩) n cap) (qs.set j ⟨.slice ao' lx ac,.slice bo' ly bc,.slice ko' lk kc,.slice qo' lq qc,.slice zo' lz zc,m15⟩)∧Turned w wa14 (nvB (.slice (some ⟨g,0,none⟩) n cap) ns)∧j<qs.length):=HQn.out
             have HM:Hid (m15.xs.length=lx∧m15.ys.length=ly∧m15.h.ks.length=lk∧m15.c.ts.length=lq∧m15.s.ts.length=lz):=HMn.out
             have E0:Hid (m15=⟨x,(x+1)%3==0,marks (x+1+1) lx,marks (z2) ly,⟨marks (z3) lk,z4,z4+1,z4+1+1⟩,mtext (z4+1+1+1).toNat,⟨z4+1+1+1+1,z4+1+1+1+1+1,z4+1+1+1+1+1+1,z4+1+1+1+1+1+1+1⟩,⟨z4+1+1+1+1+1+1+1+1,(z4+1+1+1+1+1+1+1+1+1)%3==0,m0.c.di,m0.c.wa,m0.c.ts⟩,⟨m0.s.tr,m0.s.ts⟩⟩):=En.out
             clear HQn HMn En
             go_upto_region 31 with fail
             rw[←hwa14]
             clear hwa14 cc ff
             have cc:wa14.cell? ⟨g,j*20+15,none⟩=some (.int .i64 m15.c.di):=(HQ.out.1.cellAt j 15 (show(qs.set j ⟨.slice ao' lx ac,.slice bo' ly bc,.slice ko' lk kc,.slice qo' lq qc,.slice zo' lz zc,m15⟩)[j]?=some ⟨.slice ao' lx ac,.slice bo' ly bc,.slice ko' lk kc,.slice qo' lq qc,.slice zo' lz zc,m15⟩ by rw[List.getElem?_set,if_pos rfl,if_pos HQ.out.2.2]) (by decide)).1
             have ff:wa14.frozen? ⟨g,j*20+15,none⟩=false:=(HQ.out.1.cellAt j 15 (show(qs.set j ⟨.slice ao' lx ac,.slice bo' ly bc,.slice ko' lk kc,.slice qo' lq qc,.slice zo' lz zc,m15⟩)[j]?=some ⟨.slice ao' lx ac,.slice bo' ly bc,.slice ko' lk kc,.slice qo' lq qc,.slice zo' lz zc,m15⟩ by rw[List.getElem?_set,if_pos rfl,if_pos HQ.out.2.2]) (by decide)).2
             obtain⟨m16,hm16⟩:∃m:Nd,m={m15 with c:={m15.c with di:=z4+1+1+1+1+1+1+1+1+1+1}}:=⟨_,rfl⟩
             obtain⟨wa15,hwa15⟩:∃wn,wn=wa14.setCell ⟨g,j*20+15,none⟩ (.int .i64 (z4+1+1+1+1+1+1+1+1+1+1)):=⟨_,rfl⟩
             have HQn:Hid (OwnNs wa15 base (.slice (some ⟨g,0,none⟩) n cap) (qs.set j ⟨.slice ao' lx ac,.slice bo' ly bc,.slice ko' lk kc,.slice qo' lq qc,.slice zo' lz zc,m16⟩)∧Turned w wa15 (nvB (.slice (some ⟨g,0,none⟩) n cap) ns)∧j<qs.length):=by
              rw[hwa15]
              have y0:=HQ.out.1.put1 j 15 (show(qs.set j ⟨.slice ao' lx ac,.slice bo' ly bc,.slice ko' lk kc,.slice qo' lq qc,.slice zo' lz zc,m15⟩)[j]?=some ⟨.slice ao' lx ac,.slice bo' ly bc,.slice ko' lk kc,.slice qo' lq qc,.slice zo' lz zc,m15⟩ by rw[List.getElem?_set,if_pos rfl,if_pos HQ.out.2.2]) (by decide) (.int .i64 (z4+1+1+1+1+1+1+1+1+1+1)) m16 (by rw[hm16];rfl) (by rw[hm16]) (by rw[hm16]) (by rw[hm16]) (by rw[hm16]) (by rw[hm16])
              rw[List.set_set]at y0
              exact⟨y0,HQ.out.2.1.set1 HX.out.2.2.2.2 _ _,HQ.out.2.2⟩
             have HMn:Hid (m16.xs.length=lx∧m16.ys.length=ly∧m16.h.ks.length=lk∧m16.c.ts.length=lq∧m16.s.ts.length=lz):=by rw[hm16];exact HM.out
             have En:Hid (m16=⟨x,(x+1)%3==0,marks (x+1+1) lx,marks (z2) ly,⟨marks (z3) lk,z4,z4+1,z4+1+1⟩,mtext (z4+1+1+1).toNat,⟨z4+1+1+1+1,z4+1+1+1+1+1,z4+1+1+1+1+1+1,z4+1+1+1+1+1+1+1⟩,⟨z4+1+1+1+1+1+1+1+1,(z4+1+1+1+1+1+1+1+1+1)%3==0,z4+1+1+1+1+1+1+1+1+1+1,m0.c.wa,m0.c.ts⟩,⟨m0.s.tr,m0.s.ts⟩⟩):=by rw[Hid,hm16,E0.out]
             clear hm16 E0 HM
             replace HQ:Hid (OwnNs wa15 base (.slice (some ⟨g,0,none⟩) n cap) (qs.set j ⟨.slice ao' lx ac,.slice bo' ly bc,.slice ko' lk kc,.slice qo' lq qc,.slice zo' lz zc,m16⟩)∧Turned w wa15 (nvB (.slice (some ⟨g,0,none⟩) n cap) ns)∧j<qs.length):=HQn.out
             have HM:Hid (m16.xs.length=lx∧m16.ys.length=ly∧m16.h.ks.length=lk∧m16.c.ts.length=lq∧m16.s.ts.length=lz):=HMn.out
             have E0:Hid (m16=⟨x,(x+1)%3==0,marks (x+1+1) lx,marks (z2) ly,⟨marks (z3) lk,z4,z4+1,z4+1+1⟩,mtext (z4+1+1+1).toNat,⟨z4+1+1+1+1,z4+1+1+1+1+1,z4+1+1+1+1+1+1,z4+1+1+1+1+1+1+1⟩,⟨z4+1+1+1+1+1+1+1+1,(z4+1+1+1+1+1+1+1+1+1)%3==0,z4+1+1+1+1+1+1+1+1+1+1,m0.c.wa,m0.c.ts⟩,⟨m0.s.tr,m0.s.ts⟩⟩):=En.out
             clear HQn HMn En
             go_upto_region 33 with fail
             rw[←hwa15]
             clear hwa15 cc ff
             have cc:wa15.cell? ⟨g,j*20+16,none⟩=some (.int .i64 m16.c.wa):=(HQ.out.1.cellAt j 16 (show(qs.set j ⟨.slice ao' lx ac,.slice bo' ly bc,.slice ko' lk kc,.slice qo' lq qc,.slice zo' lz zc,m16⟩)[j]?=some ⟨.slice ao' lx ac,.slice bo' ly bc,.slice ko' lk kc,.slice qo' lq qc,.slice zo' lz zc,m16⟩ by rw[List.getElem?_set,if_pos rfl,if_pos HQ.out.2.2]) (by decide)).1
             have ff:wa15.frozen? ⟨g,j*20+16,none⟩=false:=(HQ.out.1.cellAt j 16 (show(qs.set j ⟨.slice ao' lx ac,.slice bo' ly bc,.slice ko' lk kc,.slice qo' lq qc,.slice zo' lz zc,m16⟩)[j]?=some ⟨.slice ao' lx ac,.slice bo' ly bc,.slice ko' lk kc,.slice qo' lq qc,.slice zo' lz zc,m16⟩ by rw[List.getElem?_set,if_pos rfl,if_pos HQ.out.2.2]) (by decide)).2
             obtain⟨m17,hm17⟩:∃m:Nd,m={m16 with c:={m16.c with wa:=z4+1+1+1+1+1+1+1+1+1+1+1}}:=⟨_,rfl⟩
             obtain⟨wa16,hwa16⟩:∃wn,wn=wa15.setCell ⟨g,j*20+16,none⟩ (.int .i64 (z4+1+1+1+1+1+1+1+1+1+1+1)):=⟨_,rfl⟩
             have HQn:Hid (OwnNs wa16 base (.slice (some ⟨g,0,none⟩) n cap) (qs.set j ⟨.slice ao' lx ac,.slice bo' ly bc,.slice ko' lk kc,.slice qo' lq qc,.slice zo' lz zc,m17⟩)∧Turned w wa16 (nvB (.slice (some ⟨g,0,none⟩) n cap) ns)∧j<qs.length):=by
              rw[hwa16]
              have y0:=HQ.out.1.put1 j 16 (show(qs.set j ⟨.slice ao' lx ac,.slice bo' ly bc,.slice ko' lk kc,.slice qo' lq qc,.slice zo' lz zc,m16⟩)[j]?=some ⟨.slice ao' lx ac,.slice bo' ly bc,.slice ko' lk kc,.slice qo' lq qc,.slice zo' lz zc,m16⟩ by rw[List.getElem?_set,if_pos rfl,if_pos HQ.out.2.2]) (by decide) (.int .i64 (z4+1+1+1+1+1+1+1+1+1+1+1)) m17 (by rw[hm17];rfl) (by rw[hm17]) (by rw[hm17]) (by rw[hm17]) (by rw[hm17]) (by rw[hm17])
              rw[List.set_set]at y0
              exact⟨y0,HQ.out.2.1.set1 HX.out.2.2.2.2 _ _,HQ.out.2.2⟩
             have HMn:Hid (m17.xs.length=lx∧m17.ys.length=ly∧m17.h.ks.length=lk∧m17.c.ts.length=lq∧m17.s.ts.length=lz):=by rw[hm17];exact HM.out
             have En:Hid (m17=⟨x,(x+1)%3==0,marks (x+1+1) lx,marks (z2) ly,⟨marks (z3) lk,z4,z4+1,z4+1+1⟩,mtext (z4+1+1+1).toNat,⟨z4+1+1+1+1,z4+1+1+1+1+1,z4+1+1+1+1+1+1,z4+1+1+1+1+1+1+1⟩,⟨z4+1+1+1+1+1+1+1+1,(z4+1+1+1+1+1+1+1+1+1)%3==0,z4+1+1+1+1+1+1+1+1+1+1,z4+1+1+1+1+1+1+1+1+1+1+1,m0.c.ts⟩,⟨m0.s.tr,m0.s.ts⟩⟩):=by rw[Hid,hm17,E0.out]
             clear hm17 E0 HM
             replace HQ:Hid (OwnNs wa16 base (.slice (some ⟨g,0,none⟩) n cap) (qs.set j ⟨.slice ao' lx ac,.slice bo' ly bc,.slice ko' lk kc,.slice qo' lq qc,.slice zo' lz zc,m17⟩)∧Turned w wa16 (nvB (.slice (some ⟨g,0,none⟩) n cap) ns)∧j<qs.length):=HQn.out
             have HM:Hid (m17.xs.length=lx∧m17.ys.length=ly∧m17.h.ks.length=lk∧m17.c.ts.length=lq∧m17.s.ts.length=lz):=HMn.out
             have E0:Hid (m17=⟨x,(x+1)%3==0,marks (x+1+1) lx,marks (z2) ly,⟨marks (z3) lk,z4,z4+1,z4+1+1⟩,mtext (z4+1+1+1).toNat,⟨z4+1+1+1+1,z4+1+1+1+1+1,z4+1+1+1+1+1+1,z4+1+1+1+1+1+1+1⟩,⟨z4+1+1+1+1+1+1+1+1,(z4+1+1+1+1+1+1+1+1+1)%3==0,z4+1+1+1+1+1+1+1+1+1+1,z4+1+1+1+1+1+1+1+1+1+1+1,m0.c.ts⟩,⟨m0.s.tr,m0.s.ts⟩⟩):=En.out
             clear HQn HMn En
             go_upto_region 35 with fail
             rw[←hwa16]
             clear hwa16 cc ff
             go_cut [1] (fun l wx=>∃z:Int,∃m:Nd,l=.int .i64 z∧1≤z∧z≤536870912∧Hid (m=⟨x,(x+1)%3==0,marks (x+1+1) lx,marks (z2) ly,⟨marks (z3) lk,z4,z4+1,z4+1+1⟩,mtext (z4+1+1+1).toNat,⟨z4+1+1+1+1,z4+1+1+1+1+1,z4+1+1+1+1+1+1,z4+1+1+1+1+1+1+1⟩,⟨z4+1+1+1+1+1+1+1+1,(z4+1+1+1+1+1+1+1+1+1)%3==0,z4+1+1+1+1+1+1+1+1+1+1,z4+1+1+1+1+1+1+1+1+1+1+1,marks (z4+1+1+1+1+1+1+1+1+1+1+1+1) lq⟩,⟨m0.s.tr,m0.s.ts⟩⟩∧(OwnNs wx base (.slice (some ⟨g,0,none⟩) n cap) (qs.set j ⟨.slice ao' lx ac,.slice bo' ly bc,.slice ko' lk kc,.slice qo' lq qc,.slice zo' lz zc,m⟩)∧Turned w wx (nvB (.slice (some ⟨g,0,none⟩) n cap) ns)∧j<qs.length)∧(m.xs.length=lx∧m.ys.length=ly∧m.h.ks.length=lk∧m.c.ts.length=lq∧m.s.ts.length=lz)∧z=z4+1+1+1+1+1+1+1+1+1+1+1+1+((lq:Nat):Int)∧z=x+14+(lx+ly+lk+lq:Nat)))
             case first=>
              as_aux_lemma=>
               have cc:wa16.cell? ⟨g,j*20+17,none⟩=some (.slice qo' lq qc):=(HQ.out.1.cellAt j 17 (show(qs.set j ⟨.slice ao' lx ac,.slice bo' ly bc,.slice ko' lk kc,.slice qo' lq qc,.slice zo' lz zc,m17⟩)[j]?=some ⟨.slice ao' lx ac,.slice bo' ly bc,.slice ko' lk kc,.slice qo' lq qc,.slice zo' lz zc,m17⟩ by rw[List.getElem?_set,if_pos rfl,if_pos HQ.out.2.2]) (by decide)).1
               have hme:Nv.mine wa16 base ⟨.slice ao' lx ac,.slice bo' ly bc,.slice ko' lk kc,.slice qo' lq qc,.slice zo' lz zc,m17⟩:=HQ.out.1.key _ (List.mem_of_getElem? (show(qs.set j ⟨.slice ao' lx ac,.slice bo' ly bc,.slice ko' lk kc,.slice qo' lq qc,.slice zo' lz zc,m17⟩)[j]?=some ⟨.slice ao' lx ac,.slice bo' ly bc,.slice ko' lk kc,.slice qo' lq qc,.slice zo' lz zc,m17⟩ by rw[List.getElem?_set,if_pos rfl,if_pos HQ.out.2.2]))
               have hbl:=HLE.out
               have hzs:=HZ.out
               have CL:=markMine_any (.slice qo' lq qc) m17.c.ts (z4+1+1+1+1+1+1+1+1+1+1+1+1) wa16 base (MineN.oq hme) (by rw[HM.out.2.2.2.1];omega) (by omega) (by omega)
               rw[HM.out.2.2.2.1]at CL
               have hz1:1≤z4+1+1+1+1+1+1+1+1+1+1+1+1+((lq:Nat):Int)∧z4+1+1+1+1+1+1+1+1+1+1+1+1+((lq:Nat):Int)≤536870912:=by omega
               have hz2:z4+1+1+1+1+1+1+1+1+1+1+1+1+((lq:Nat):Int)=x+14+(lx+ly+lk+lq:Nat):=by omega
               have HZ1:Hid ((1≤z4+1+1+1+1+1+1+1+1+1+1+1+1+((lq:Nat):Int)∧z4+1+1+1+1+1+1+1+1+1+1+1+1+((lq:Nat):Int)≤536870912)∧z4+1+1+1+1+1+1+1+1+1+1+1+1+((lq:Nat):Int)=x+14+(lx+ly+lk+lq:Nat)):=⟨hz1,hz2⟩
               clear hbl hzs hz1 hz2
               have HME:Hid (Nv.mine wa16 base ⟨.slice ao' lx ac,.slice bo' ly bc,.slice ko' lk kc,.slice qo' lq qc,.slice zo' lz zc,m17⟩):=hme
               clear hme
               go_wp2_with fail
               refine CL.mono ?_
               rintro e wa17 ⟨rfl,ol,tl⟩
               obtain⟨m18,hm18⟩:∃m:Nd,m={m17 with c:={m17.c with ts:=marks (z4+1+1+1+1+1+1+1+1+1+1+1+1) lq}}:=⟨_,rfl⟩
               have HQn:Hid (OwnNs wa17 base (.slice (some ⟨g,0,none⟩) n cap) (qs.set j ⟨.slice ao' lx ac,.slice bo' ly bc,.slice ko' lk kc,.slice qo' lq qc,.slice zo' lz zc,m18⟩)∧Turned w wa17 (nvB (.slice (some ⟨g,0,none⟩) n cap) ns)∧j<qs.length):=by
                have hm':Nv.mine wa17 base ⟨.slice ao' lx ac,.slice bo' ly bc,.slice ko' lk kc,.slice qo' lq qc,.slice zo' lz zc,m18⟩:=by rw[hm18];exact MineN.turn_q HME.out (by rw[marks_length,HM.out.2.2.2.1]) ol tl
                have y0:=HQ.out.1.turn1 j (show(qs.set j ⟨.slice ao' lx ac,.slice bo' ly bc,.slice ko' lk kc,.slice qo' lq qc,.slice zo' lz zc,m17⟩)[j]?=some ⟨.slice ao' lx ac,.slice bo' ly bc,.slice ko' lk kc,.slice qo' lq qc,.slice zo' lz zc,m17⟩ by rw[List.getElem?_set,if_pos rfl,if_pos HQ.out.2.2]) m18 (by rw[hm18];exact⟨rfl,rfl,rfl,by simp[marks_length,HM.out.2.2.2.1],rfl⟩) (by rw[hm18];rfl) hm' mem_q tl
                rw[List.set_set]at y0
                exact⟨y0,HQ.out.2.1.both (tl.into (fun e he=>HX.out.2.2.2.1 e (by have hb:=LenN.bl (y:=⟨.slice ao' lx ac,.slice bo' ly bc,.slice ko' lk kc,.slice qo' lq qc,.slice zo' lz zc,m0⟩) (n':=m17) ⟨HM.out.1.trans HM0.out.1.symm,HM.out.2.1.trans HM0.out.2.1.symm,HM.out.2.2.1.trans HM0.out.2.2.1.symm,HM.out.2.2.2.1.trans HM0.out.2.2.2.1.symm,HM.out.2.2.2.2.trans HM0.out.2.2.2.2.1.symm⟩;rw[←hb];exact mem_q e he))),HQ.out.2.2⟩
               have HMn:Hid (m18.xs.length=lx∧m18.ys.length=ly∧m18.h.ks.length=lk∧m18.c.ts.length=lq∧m18.s.ts.length=lz):=by rw[hm18];exact⟨HM.out.1,HM.out.2.1,HM.out.2.2.1,by simp[marks_length],HM.out.2.2.2.2⟩
               have En:Hid (m18=⟨x,(x+1)%3==0,marks (x+1+1) lx,marks (z2) ly,⟨marks (z3) lk,z4,z4+1,z4+1+1⟩,mtext (z4+1+1+1).toNat,⟨z4+1+1+1+1,z4+1+1+1+1+1,z4+1+1+1+1+1+1,z4+1+1+1+1+1+1+1⟩,⟨z4+1+1+1+1+1+1+1+1,(z4+1+1+1+1+1+1+1+1+1)%3==0,z4+1+1+1+1+1+1+1+1+1+1,z4+1+1+1+1+1+1+1+1+1+1+1,marks (z4+1+1+1+1+1+1+1+1+1+1+1+1) lq⟩,⟨m0.s.tr,m0.s.ts⟩⟩):=by rw[Hid,hm18,E0.out]
               clear hm18 E0 HM HME CL ol tl cc HQ
               go_wp2_with fail
               go_meet
               exact⟨_,m18,rfl,HZ1.out.1.1,HZ1.out.1.2,En.out,HQn.out,HMn.out,rfl,HZ1.out.2⟩
             case rest=>
              as_aux_lemma=>
               obtain⟨z17,m18,rfl,bz170,bz171,HC⟩:=hcut
               clear HQ HM E0 HZ
               obtain⟨wa17,hwa17⟩:∃v,v=wc:=⟨_,rfl⟩
               rw[←hwa17]at HC⊢
               clear hwa17
               have E0:Hid (m18=⟨x,(x+1)%3==0,marks (x+1+1) lx,marks (z2) ly,⟨marks (z3) lk,z4,z4+1,z4+1+1⟩,mtext (z4+1+1+1).toNat,⟨z4+1+1+1+1,z4+1+1+1+1+1,z4+1+1+1+1+1+1,z4+1+1+1+1+1+1+1⟩,⟨z4+1+1+1+1+1+1+1+1,(z4+1+1+1+1+1+1+1+1+1)%3==0,z4+1+1+1+1+1+1+1+1+1+1,z4+1+1+1+1+1+1+1+1+1+1+1,marks (z4+1+1+1+1+1+1+1+1+1+1+1+1) lq⟩,⟨m0.s.tr,m0.s.ts⟩⟩):=HC.out.1
               have HQ:Hid (OwnNs wa17 base (.slice (some ⟨g,0,none⟩) n cap) (qs.set j ⟨.slice ao' lx ac,.slice bo' ly bc,.slice ko' lk kc,.slice qo' lq qc,.slice zo' lz zc,m18⟩)∧Turned w wa17 (nvB (.slice (some ⟨g,0,none⟩) n cap) ns)∧j<qs.length):=HC.out.2.1
               have HM:Hid (m18.xs.length=lx∧m18.ys.length=ly∧m18.h.ks.length=lk∧m18.c.ts.length=lq∧m18.s.ts.length=lz):=HC.out.2.2.1
               have Ez17:Hid (z17=z4+1+1+1+1+1+1+1+1+1+1+1+1+((lq:Nat):Int)):=HC.out.2.2.2.1
               have HZ:Hid (z17=x+14+(lx+ly+lk+lq:Nat)):=HC.out.2.2.2.2
               clear HC
               go_upto_region 36 with fail
               have cc:wa17.cell? ⟨g,j*20+18,none⟩=some (.int .i64 m18.s.tr):=(HQ.out.1.cellAt j 18 (show(qs.set j ⟨.slice ao' lx ac,.slice bo' ly bc,.slice ko' lk kc,.slice qo' lq qc,.slice zo' lz zc,m18⟩)[j]?=some ⟨.slice ao' lx ac,.slice bo' ly bc,.slice ko' lk kc,.slice qo' lq qc,.slice zo' lz zc,m18⟩ by rw[List.getElem?_set,if_pos rfl,if_pos HQ.out.2.2]) (by decide)).1
               have ff:wa17.frozen? ⟨g,j*20+18,none⟩=false:=(HQ.out.1.cellAt j 18 (show(qs.set j ⟨.slice ao' lx ac,.slice bo' ly bc,.slice ko' lk kc,.slice qo' lq qc,.slice zo' lz zc,m18⟩)[j]?=some ⟨.slice ao' lx ac,.slice bo' ly bc,.slice ko' lk kc,.slice qo' lq qc,.slice zo' lz zc,m18⟩ by rw[List.getElem?_set,if_pos rfl,if_pos HQ.out.2.2]) (by decide)).2
               obtain⟨m19,hm19⟩:∃m:Nd,m={m18 with s:={m18.s with tr:=z17}}:=⟨_,rfl⟩
               obtain⟨wa18,hwa18⟩:∃wn,wn=wa17.setCell ⟨g,j*20+18,none⟩ (.int .i64 (z17)):=⟨_,rfl⟩
               have HQn:Hid (OwnNs wa18 base (.slice (some ⟨g,0,none⟩) n cap) (qs.set j ⟨.slice ao' lx ac,.slice bo' ly bc,.slice ko' lk kc,.slice qo' lq qc,.slice zo' lz zc,m19⟩)∧Turned w wa18 (nvB (.slice (some ⟨g,0,none⟩) n cap) ns)∧j<qs.length):=by
                rw[hwa18]
                have y0:=HQ.out.1.put1 j 18 (show(qs.set j ⟨.slice ao' lx ac,.slice bo' ly bc,.slice ko' lk kc,.slice qo' lq qc,.slice zo' lz zc,m18⟩)[j]?=some ⟨.slice ao' lx ac,.slice bo' ly bc,.slice ko' lk kc,.slice qo' lq qc,.slice zo' lz zc,m18⟩ by rw[List.getElem?_set,if_pos rfl,if_pos HQ.out.2.2]) (by decide) (.int .i64 (z17)) m19 (by rw[hm19];rfl) (by rw[hm19]) (by rw[hm19]) (by rw[hm19]) (by rw[hm19]) (by rw[hm19])
                rw[List.set_set]at y0
                exact⟨y0,HQ.out.2.1.set1 HX.out.2.2.2.2 _ _,HQ.out.2.2⟩
               have HMn:Hid (m19.xs.length=lx∧m19.ys.length=ly∧m19.h.ks.length=lk∧m19.c.ts.length=lq∧m19.s.ts.length=lz):=by rw[hm19];exact HM.out
               have En:Hid (m19=⟨x,(x+1)%3==0,marks (x+1+1) lx,marks (z2) ly,⟨marks (z3) lk,z4,z4+1,z4+1+1⟩,mtext (z4+1+1+1).toNat,⟨z4+1+1+1+1,z4+1+1+1+1+1,z4+1+1+1+1+1+1,z4+1+1+1+1+1+1+1⟩,⟨z4+1+1+1+1+1+1+1+1,(z4+1+1+1+1+1+1+1+1+1)%3==0,z4+1+1+1+1+1+1+1+1+1+1,z4+1+1+1+1+1+1+1+1+1+1+1,marks (z4+1+1+1+1+1+1+1+1+1+1+1+1) lq⟩,⟨z17,m0.s.ts⟩⟩):=by rw[Hid,hm19,E0.out]
               clear hm19 E0 HM
               replace HQ:Hid (OwnNs wa18 base (.slice (some ⟨g,0,none⟩) n cap) (qs.set j ⟨.slice ao' lx ac,.slice bo' ly bc,.slice ko' lk kc,.slice qo' lq qc,.slice zo' lz zc,m19⟩)∧Turned w wa18 (nvB (.slice (some ⟨g,0,none⟩) n cap) ns)∧j<qs.length):=HQn.out
               have HM:Hid (m19.xs.length=lx∧m19.ys.length=ly∧m19.h.ks.length=lk∧m19.c.ts.length=lq∧m19.s.ts.length=lz):=HMn.out
               have E0:Hid (m19=⟨x,(x+1)%3==0,marks (x+1+1) lx,marks (z2) ly,⟨marks (z3) lk,z4,z4+1,z4+1+1⟩,mtext (z4+1+1+1).toNat,⟨z4+1+1+1+1,z4+1+1+1+1+1,z4+1+1+1+1+1+1,z4+1+1+1+1+1+1+1⟩,⟨z4+1+1+1+1+1+1+1+1,(z4+1+1+1+1+1+1+1+1+1)%3==0,z4+1+1+1+1+1+1+1+1+1+1,z4+1+1+1+1+1+1+1+1+1+1+1,marks (z4+1+1+1+1+1+1+1+1+1+1+1+1) lq⟩,⟨z17,m0.s.ts⟩⟩):=En.out
               clear HQn HMn En
               go_upto_region 38 with fail
               rw[←hwa18]
               clear hwa18 cc ff
               have cc:wa18.cell? ⟨g,j*20+19,none⟩=some (.slice zo' lz zc):=(HQ.out.1.cellAt j 19 (show(qs.set j ⟨.slice ao' lx ac,.slice bo' ly bc,.slice ko' lk kc,.slice qo' lq qc,.slice zo' lz zc,m19⟩)[j]?=some ⟨.slice ao' lx ac,.slice bo' ly bc,.slice ko' lk kc,.slice qo' lq qc,.slice zo' lz zc,m19⟩ by rw[List.getElem?_set,if_pos rfl,if_pos HQ.out.2.2]) (by decide)).1
               have hme:Nv.mine wa18 base ⟨.slice ao' lx ac,.slice bo' ly bc,.slice ko' lk kc,.slice qo' lq qc,.slice zo' lz zc,m19⟩:=HQ.out.1.key _ (List.mem_of_getElem? (show(qs.set j ⟨.slice ao' lx ac,.slice bo' ly bc,.slice ko' lk kc,.slice qo' lq qc,.slice zo' lz zc,m19⟩)[j]?=some ⟨.slice ao' lx ac,.slice bo' ly bc,.slice ko' lk kc,.slice qo' lq qc,.slice zo' lz zc,m19⟩ by rw[List.getElem?_set,if_pos rfl,if_pos HQ.out.2.2]))
               have hbl:=HLE.out
               have hzs:=HZ.out
               have CL:=markMine_any (.slice zo' lz zc) m19.s.ts (z17+1) wa18 base (MineN.oz hme) (by rw[HM.out.2.2.2.2];omega) (by omega) (by omega)
               rw[HM.out.2.2.2.2]at CL
               have hz1:1≤z17+1+((lz:Nat):Int)∧z17+1+((lz:Nat):Int)≤536870912:=by omega
               have hz2:z17+1+((lz:Nat):Int)=x+15+(lx+ly+lk+lq+lz:Nat):=by omega
               have HZ1:Hid ((1≤z17+1+((lz:Nat):Int)∧z17+1+((lz:Nat):Int)≤536870912)∧z17+1+((lz:Nat):Int)=x+15+(lx+ly+lk+lq+lz:Nat)):=⟨hz1,hz2⟩
               clear hbl hzs hz1 hz2
               have HME:Hid (Nv.mine wa18 base ⟨.slice ao' lx ac,.slice bo' ly bc,.slice ko' lk kc,.slice qo' lq qc,.slice zo' lz zc,m19⟩):=hme
               clear hme
               go_wp2_with fail
               refine CL.mono ?_
               rintro e wa19 ⟨rfl,ol,tl⟩
               obtain⟨m20,hm20⟩:∃m:Nd,m={m19 with s:={m19.s with ts:=marks (z17+1) lz}}:=⟨_,rfl⟩
               have HQn:Hid (OwnNs wa19 base (.slice (some ⟨g,0,none⟩) n cap) (qs.set j ⟨.slice ao' lx ac,.slice bo' ly bc,.slice ko' lk kc,.slice qo' lq qc,.slice zo' lz zc,m20⟩)∧Turned w wa19 (nvB (.slice (some ⟨g,0,none⟩) n cap) ns)∧j<qs.length):=by
                have hm':Nv.mine wa19 base ⟨.slice ao' lx ac,.slice bo' ly bc,.slice ko' lk kc,.slice qo' lq qc,.slice zo' lz zc,m20⟩:=by rw[hm20];exact MineN.turn_z HME.out (by rw[marks_length,HM.out.2.2.2.2]) ol tl
                have y0:=HQ.out.1.turn1 j (show(qs.set j ⟨.slice ao' lx ac,.slice bo' ly bc,.slice ko' lk kc,.slice qo' lq qc,.slice zo' lz zc,m19⟩)[j]?=some ⟨.slice ao' lx ac,.slice bo' ly bc,.slice ko' lk kc,.slice qo' lq qc,.slice zo' lz zc,m19⟩ by rw[List.getElem?_set,if_pos rfl,if_pos HQ.out.2.2]) m20 (by rw[hm20];exact⟨rfl,rfl,rfl,rfl,by simp[marks_length,HM.out.2.2.2.2]⟩) (by rw[hm20];rfl) hm' mem_z tl
                rw[List.set_set]at y0
                exact⟨y0,HQ.out.2.1.both (tl.into (fun e he=>HX.out.2.2.2.1 e (by have hb:=LenN.bl (y:=⟨.slice ao' lx ac,.slice bo' ly bc,.slice ko' lk kc,.slice qo' lq qc,.slice zo' lz zc,m0⟩) (n':=m19) ⟨HM.out.1.trans HM0.out.1.symm,HM.out.2.1.trans HM0.out.2.1.symm,HM.out.2.2.1.trans HM0.out.2.2.1.symm,HM.out.2.2.2.1.trans HM0.out.2.2.2.1.symm,HM.out.2.2.2.2.trans HM0.out.2.2.2.2.1.symm⟩;rw[←hb];exact mem_z e he))),HQ.out.2.2⟩
               have HMn:Hid (m20.xs.length=lx∧m20.ys.length=ly∧m20.h.ks.length=lk∧m20.c.ts.length=lq∧m20.s.ts.length=lz):=by rw[hm20];exact⟨HM.out.1,HM.out.2.1,HM.out.2.2.1,HM.out.2.2.2.1,by simp[marks_length]⟩
               have En:Hid (m20=⟨x,(x+1)%3==0,marks (x+1+1) lx,marks (z2) ly,⟨marks (z3) lk,z4,z4+1,z4+1+1⟩,mtext (z4+1+1+1).toNat,⟨z4+1+1+1+1,z4+1+1+1+1+1,z4+1+1+1+1+1+1,z4+1+1+1+1+1+1+1⟩,⟨z4+1+1+1+1+1+1+1+1,(z4+1+1+1+1+1+1+1+1+1)%3==0,z4+1+1+1+1+1+1+1+1+1+1,z4+1+1+1+1+1+1+1+1+1+1+1,marks (z4+1+1+1+1+1+1+1+1+1+1+1+1) lq⟩,⟨z17,marks (z17+1) lz⟩⟩):=by rw[Hid,hm20,E0.out]
               clear hm20 E0 HM HME CL ol tl cc HQ
               have bz190:=HZ1.out.1.1
               have bz191:=HZ1.out.1.2
               obtain⟨z19,hz19⟩:∃z:Int,z=z17+1+((lz:Nat):Int):=⟨_,rfl⟩
               have Ez19:Hid (z19=z17+1+((lz:Nat):Int)):=hz19
               replace HZ:Hid (z19=x+15+(lx+ly+lk+lq+lz:Nat)):=by rw[hz19];exact HZ1.out.2
               rw[←hz19]at bz190 bz191⊢
               clear hz19 HZ1
               have E0:Hid (m20=⟨x,(x+1)%3==0,marks (x+1+1) lx,marks (z2) ly,⟨marks (z3) lk,z4,z4+1,z4+1+1⟩,mtext (z4+1+1+1).toNat,⟨z4+1+1+1+1,z4+1+1+1+1+1,z4+1+1+1+1+1+1,z4+1+1+1+1+1+1+1⟩,⟨z4+1+1+1+1+1+1+1+1,(z4+1+1+1+1+1+1+1+1+1)%3==0,z4+1+1+1+1+1+1+1+1+1+1,z4+1+1+1+1+1+1+1+1+1+1+1,marks (z4+1+1+1+1+1+1+1+1+1+1+1+1) lq⟩,⟨z17,marks (z17+1) lz⟩⟩):=En.out
               have HQ:Hid (OwnNs wa19 base (.slice (some ⟨g,0,none⟩) n cap) (qs.set j ⟨.slice ao' lx ac,.slice bo' ly bc,.slice ko' lk kc,.slice qo' lq qc,.slice zo' lz zc,m20⟩)∧Turned w wa19 (nvB (.slice (some ⟨g,0,none⟩) n cap) ns)∧j<qs.length):=HQn.out
               have HM:Hid (m20.xs.length=lx∧m20.ys.length=ly∧m20.h.ks.length=lk∧m20.c.ts.length=lq∧m20.s.ts.length=lz):=HMn.out
               clear En HQn HMn
               have HF:Hid (m20=m0.inkS x∧z19=x+15+le):=by
                refine⟨?_,by have h1:=HZ.out;have:=HLE.out;omega⟩
                rw[E0.out,Ez17.out,Ez4.out,Ez3.out,Ez2.out]
                unfold Nd.inkS
                rw[HM0.out.1,HM0.out.2.1,HM0.out.2.2.1,HM0.out.2.2.2.1,HM0.out.2.2.2.2.1]
               have HG2:Hid (z19=inkNE k (ns.take (j+1))∧OwnNs wa19 base (.slice (some ⟨g,0,none⟩) n cap) (inkNL k (ns.take (j+1))++ns.drop (j+1))∧Turned w wa19 (nvB (.slice (some ⟨g,0,none⟩) n cap) ns)):=by
                refine⟨?_,?_,HQ.out.2.1⟩
                ·have h1:=HX.out.2.1
                 rw[HF.out.2]
                 rw[show((⟨.slice ao' lx ac,.slice bo' ly bc,.slice ko' lk kc,.slice qo' lq qc,.slice zo' lz zc,m0⟩:Nv).n.len)=le from HM0.out.2.2.2.2.2]at h1
                 exact h1
                ·rw[←HX.out.1,←HF.out.1]
                 exact HQ.out.1
               have hjn:j+1≤n:=by have:=HJ.out;omega
               go_wp2
               go_roundw
               case rel=>exact⟨j+1,z19,hjn,by go_num,rfl,bz190,bz191,HG2.out⟩
               case measure=>simp[intOf];omega
  ·have HE:Hid (x=inkNE k ns∧OwnNs wr base (.slice ao n cap) (inkNL k ns)):=by
    have h1:=HI.out.1
    have h2:=HI.out.2.1
    rw[List.take_of_length_le (by have:=HN.out;omega)]at h1 h2
    rw[List.drop_eq_nil_of_le (by have:=HN.out;omega),List.append_nil]at h2
    exact⟨h1,h2⟩
   go_wp2
   go_ret
   exact⟨by rw[HE.out.1];rfl,HE.out.2,HI.out.2.2⟩
end Go.Proofs.YthmnmaemnihkeaaDoor
