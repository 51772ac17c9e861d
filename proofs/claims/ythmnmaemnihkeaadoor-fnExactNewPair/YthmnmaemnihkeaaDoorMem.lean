/- Lists of int64 in memory: 'Reads' (whoever's it is), 'Own' (new memory of the call), how they stay behind other calls, and what eqInt64S, markInt64S, heldInt64S answer. -/
import Derived.Test.YthmnmaemnihkeaaDoorRows
import Derived.Test.YthmnmaemnihkeaaDoorM1
import Derived.WalkKit
import Derived.ProofKit
import Derived.OpenShut
import Derived.Laws.OwnMore
import Derived.Deep.AppendLies
import Derived.Deep.QuietTactic
import Derived.BigQuiet
import Derived.WalkSmall
set_option maxRecDepth 20000
set_option maxHeartbeats 400000
namespace Go.Proofs.YthmnmaemnihkeaaDoor
open Go.ChangeShapes Go.WideShapes Go.ChangeAt Go.RowKit
def Reads (w:World) (v:Value) (xs:List Int):Prop:=
 ∃ao cap,v=.slice ao xs.length cap∧xs.length≤cap∧(cap≤maxLen∧(ao=none→cap=0))∧
  (xs=[]∨∃b off,ao=some ⟨b,off,none⟩∧∀j,j<xs.length→w.cell? ⟨b,off+j,none⟩=some (.int .i64 (xs.getD j 0)))
def Own (w:World) (base:Nat) (v:Value) (xs:List Int):Prop:=
 w.ownsRow base 2 1 v xs.length (xs.map (Value.int .i64))
theorem Own.nil (w:World) (base:Nat):Own w base (.slice none 0 0) []:=World.ownsRow_nil w base _ _
theorem Own.reads {w:World} {base:Nat} {v:Value} {xs:List Int} (h:Own w base v xs):Reads w v xs:=by
 rcases h.2 with⟨rfl,h0⟩|⟨g,cap,cur,rfl,hb,hg,hnc,hcm,hcs,ht⟩
 ·have e:xs=[]:=List.eq_nil_of_length_eq_zero h0
  subst e
  exact⟨none,0,rfl,Nat.le_refl _,⟨Nat.zero_le _,fun _=>rfl⟩,.inl rfl⟩
 ·refine⟨_,cap,rfl,hnc,⟨hcm,fun e=>by cases e⟩,.inr ⟨g,0,rfl,fun j hj=>?_⟩⟩
  have:=World.ownsRow.cellAt (w:=w) h j (by omega)
  rw[Nat.zero_add,this]
  simp[List.getD,hj]
theorem Own.le {w:World} {base:Nat} {v:Value} {xs:List Int} (h:Own w base v xs):xs.length≤maxLen:=by
 obtain⟨_,cap,_,h1,h2,_⟩:=h.reads
 omega
theorem Own.mono {w:World} {base base':Nat} {v:Value} {xs:List Int} (h:Own w base v xs) (hb:base'≤base):Own w base' v xs:=by
 refine⟨h.1,?_⟩
 rcases h.2 with h'|⟨g,cap,cur,e,hg,r⟩
 ·exact .inl h'
 ·exact .inr ⟨g,cap,cur,e,Nat.le_trans hb hg,r⟩
theorem Own.lt {w:World} {base:Nat} {v:Value} {xs:List Int} (h:Own w base v xs):∀k,v.ownBlock=some k→base≤k∧k<w.heap.size:=World.ownsRow.lt h
theorem Own.below {w w':World} {base:Nat} {v:Value} {xs:List Int} (h:Own w base v xs) (hb:Below w.heap.size w w'):Own w' base v xs:=by
 refine⟨h.1,?_⟩
 rcases h.2 with h'|⟨g,cap,cur,e,hg,hh,r⟩
 ·exact .inl h'
 ·have hlt:g<w.heap.size:=by
   rcases Nat.lt_or_ge g w.heap.size with hlt|hge
   ·exact hlt
   ·rw[Array.getElem?_eq_none hge]at hh;cases hh
  exact .inr ⟨g,cap,cur,e,hg,(hb.block g hlt).trans hh,r⟩
theorem Own.drew_eq {w w':World} {base:Nat} {v:Value} {xs:List Int} {n:Nat} (h:Own w base v xs) (e:w'=w.drewN n):Own w' base v xs:=by subst e;exact h
theorem Own.apart {w1 w2:World} {b1 b2:Nat} {v0 v1:Value} {xs ys:List Int} (h:Own w1 b1 v0 xs) (k:Own w2 b2 v1 ys) (hb:w1.heap.size≤b2):v0.ownBlock=none∨v0.ownBlock≠v1.ownBlock:=by
 by_cases e:v0.ownBlock=none
 ·exact .inl e
 ·refine .inr fun e2=>?_
  obtain⟨g,hg⟩:=Option.ne_none_iff_exists'.1 e
  have a:=h.lt g hg
  have b:=k.lt g (e2▸hg)
  omega
theorem Own.apart' {w1 w2:World} {b1 b2:Nat} {v0 v1:Value} {xs ys:List Int} (h:Own w1 b1 v0 xs) (k:Own w2 b2 v1 ys) (hb:w1.heap.size≤b2):v1.ownBlock=none∨v1.ownBlock≠v0.ownBlock:=by
 by_cases e:v1.ownBlock=none
 ·exact .inl e
 ·refine .inr fun e2=>?_
  obtain⟨g,hg⟩:=Option.ne_none_iff_exists'.1 e
  have a:=k.lt g hg
  have b:=h.lt g (e2▸hg)
  omega
theorem Own.kept {w w':World} {base:Nat} {v:Value} {row:Option Nat} {xs:List Int} (h:Own w base v xs) (hg:w.grownBy w' row) (hne:v.ownBlock=none∨v.ownBlock≠row):Own w' base v xs:=
 World.ownsRow.kept h hg hne
theorem Reads.below {w w':World} {B:Nat} {v:Value} {xs:List Int} (h:Reads w v xs) (hb:Below B w w') (hB:w.heap.size≤B):Reads w' v xs:=by
 obtain⟨ao,cap,rfl,h1,h2,h3⟩:=h
 refine⟨ao,cap,rfl,h1,h2,?_⟩
 rcases h3 with h3|⟨b,off,rfl,h4⟩
 ·exact .inl h3
 ·refine .inr ⟨b,off,rfl,fun j hj=>?_⟩
  have h5:=h4 j hj
  have h6:=World.block_lt_of_cell? w _ h5
  rw[hb.cell (p:=⟨b,off+j,none⟩) (Nat.lt_of_lt_of_le h6 hB)]
  exact h5
def marks (k:Int) (n:Nat):List Int:=(List.range n).map fun j=>k+(j:Nat)
theorem marks_length (k:Int) (n:Nat):(marks k n).length=n:=by simp[marks]
theorem marks_getD (k:Int) (n j:Nat) (h:j<n):(marks k n).getD j 0=k+j:=by
 simp[marks,List.getD,h]
theorem marks_step (k:Int) (xs:List Int) (j:Nat) (h:j<xs.length):((marks k j++xs.drop j).set j (k+j))=marks k (j+1)++xs.drop (j+1):=by
 rw[List.set_append_right _ _ (by simp[marks_length]),marks_length,Nat.sub_self]
 rw[List.drop_eq_getElem_cons h,List.set_cons_zero]
 simp[marks,List.range_succ]
theorem marks_all (k:Int) (xs:List Int):marks k xs.length++xs.drop xs.length=marks k xs.length:=by simp
theorem held_any (v:Value) (xs:List Int) (k:Int) (w:World) (h:Reads w v xs) (hx:xs=marks k xs.length) (hbig:xs.length≤1099511627776) (h0:0≤k) (h1:k≤1099511627776):
  Calls Tryd.prog 32 #[v,.int .i64 k] w fun e w'=>e=.returned (.int .i64 (k+xs.length))∧w'=w:=by
 obtain⟨ao,cap,rfl,hl,⟨hm, -⟩,hc⟩:=h
 obtain⟨n,hn⟩:∃n,n=xs.length:=⟨_,rfl⟩
 rw[←hn]at hl hx hc hbig⊢
 unfold maxLen at hm
 have HN:Hid (n=xs.length):=hn
 clear hn
 have hcell:∀j,j<n→∃b off,ao=some ⟨b,off,none⟩∧w.cell? ⟨b,off+j,none⟩=some (.int .i64 (k+j)):=by
  intro j hj
  rcases hc with e|⟨b,off,e,h4⟩
  ·rw[e]at HN;simp[Hid]at HN;omega
  ·refine⟨b,off,e,?_⟩
   rw[h4 j hj]
   rw[hx,marks_getD k n j hj]
 clear hc hx
 go_enter Tryd.func32,Tryd.ntmps32
 go_wp2
 go_loop [1,5] (fun q i=>∃j:Nat,j≤n∧i=.int .i64 j∧q=.int .i64 (k+j)) (fun _ i=>n-(intOf i).toNat)
 case atStart=>exact⟨0,Nat.zero_le _,rfl,by simp⟩
 case round=>
  obtain⟨j,hj,rfl,rfl⟩:=hrel
  by_cases hlt:(j:Int)<(n:Int)
  ·obtain⟨b,off,rfl,hc1⟩:=hcell j (by omega)
   clear hcell
   go_wp2
   go_round
   case rel=>exact⟨j+1,by omega,by go_num,by go_num⟩
   case measure=>simp[intOf];omega
  ·go_wp2
   go_ret
   exact⟨ret_int (by omega),rfl⟩
theorem held_marks (v:Value) (n:Nat) (k:Int) (w:World) (h:Reads w v (marks k n)) (hbig:n≤1099511627776) (h0:0≤k) (h1:k≤1099511627776):
  Calls Tryd.prog 32 #[v,.int .i64 k] w fun e w'=>e=.returned (.int .i64 (k+n))∧w'=w:=by
 have:=held_any v (marks k n) k w h (by rw[marks_length]) (by rw[marks_length];exact hbig) h0 h1
 rwa[marks_length]at this
theorem take_snoc (xs:List Int) (j:Nat) (h:j<xs.length):xs.take (j+1)=xs.take j++[xs.getD j 0]:=by
 rw[List.take_succ_eq_append_getElem h];simp[List.getD,h]
theorem take_step {xs ys:List Int} {j:Nat} (h:xs.take j=ys.take j) (hx:j<xs.length) (hy:j<ys.length) (e:xs.getD j 0=ys.getD j 0):xs.take (j+1)=ys.take (j+1):=by
 rw[take_snoc xs j hx,take_snoc ys j hy,h,e]
theorem ne_of_getD {xs ys:List Int} {j:Nat} (e:xs.getD j 0≠ys.getD j 0):xs≠ys:=fun h=>e (by rw[h])
theorem eq_any (va vb:Value) (xs ys:List Int) (w:World) (ha:Reads w va xs) (hb:Reads w vb ys) (hbig:xs.length≤1099511627776):
  Calls Tryd.prog 62 #[va,vb] w fun e w'=>e=.returned (.bool (decide (xs=ys)))∧∃n,w'=w.drewN n:=by
 obtain⟨ao,ca,rfl,hla,⟨hma, -⟩,hca⟩:=ha
 obtain⟨bo,cb,rfl,hlb,⟨hmb, -⟩,hcb⟩:=hb
 by_cases hlen:xs.length=ys.length
 ·obtain⟨n,hn⟩:∃n,n=xs.length:=⟨_,rfl⟩
  rw[←hlen]at hlb hcb⊢
  rw[←hn]at hla hlb hca hcb hbig⊢
  have HN:Hid (n=xs.length∧n=ys.length):=⟨hn,hn.trans hlen⟩
  clear hn hlen hma hmb
  have hcell:∀j,j<n→∃b off b' off',ao=some ⟨b,off,none⟩∧bo=some ⟨b',off',none⟩∧w.cell? ⟨b,off+j,none⟩=some (.int .i64 (xs.getD j 0))∧w.cell? ⟨b',off'+j,none⟩=some (.int .i64 (ys.getD j 0)):=by
   intro j hj
   rcases hca with e|⟨b,off,e,h4⟩
   ·have:=HN.out.1;rw[e]at this;simp at this;omega
   ·rcases hcb with e'|⟨b',off',e',h4'⟩
    ·have:=HN.out.2;rw[e']at this;simp at this;omega
    ·exact⟨b,off,b',off',e,e',h4 j hj,h4' j hj⟩
  clear hca hcb
  go_enter Tryd.func62,Tryd.ntmps62
  go_wp2
  go_loopw [5] (fun i wr=>∃j q:Nat,j≤n∧i=.int .i64 j∧Hid (xs.take j=ys.take j)∧wr=w.drewN q) (fun i _=>n-(intOf i).toNat)
  case atStart=>exact⟨0,0,Nat.zero_le _,rfl,by simp[Hid],rfl⟩
  case round=>
   obtain⟨j,q,hj,rfl,ht,rfl⟩:=hrel
   by_cases hlt:(j:Int)<(n:Int)
   ·obtain⟨b,off,b',off',rfl,rfl,hc1,hc2⟩:=hcell j (by omega)
    clear hcell
    obtain⟨x,hx⟩:∃x,x=xs.getD j 0:=⟨_,rfl⟩
    obtain⟨y,hy⟩:∃y,y=ys.getD j 0:=⟨_,rfl⟩
    rw[←hx]at hc1
    rw[←hy]at hc2
    have HX:Hid (x=xs.getD j 0∧y=ys.getD j 0):=⟨hx,hy⟩
    clear hx hy
    by_cases hxy:(x !=y)=true
    ·go_wp2
     go_quiet (fail)
     go_wp2
     go_ret
     exact⟨ret_bool (by
      have h1:x≠y:=by simpa using hxy
      have h2:xs≠ys:=ne_of_getD (j:=j) (by rw[←HX.out.1,←HX.out.2];exact h1)
      simp[h2]),⟨_,World.drewN_drewN ..⟩⟩
    ·go_wp2
     go_quiet (fail)
     go_wp2
     go_roundw
     case rel=>
      have h1:x=y:=by simpa using hxy
      exact⟨j+1,_,by omega,by go_num,take_step ht (by have:=HN.out.1;omega) (by have:=HN.out.2;omega) (by rw[←HX.out.1,←HX.out.2];exact h1),rfl⟩
     case measure=>simp[intOf];omega
   ·go_wp2
    go_ret
    exact⟨ret_bool (by
     have h1:xs=ys:=by
      have h2:=ht.out
      rw[List.take_of_length_le (by have:=HN.out.1;omega),List.take_of_length_le (by have:=HN.out.2;omega)]at h2
      exact h2
     simp[h1]),⟨_,rfl⟩⟩
 ·have hne:((xs.length:Int) !=(ys.length:Int))=true:=by simp;omega
  have he:decide (xs=ys)=false:=by
   have:xs≠ys:=fun h=>hlen (by rw[h])
   simp[this]
  rw[he]
  clear he hlen hca hcb
  go_enter Tryd.func62,Tryd.ntmps62
  go_wp2
  go_ret
  exact⟨rfl,0,rfl⟩
theorem mark_any (v:Value) (xs:List Int) (k:Int) (w:World) (base:Nat) (h:Own w base v xs) (hbig:xs.length≤1099511627776) (h0:0≤k) (h1:k≤1099511627776):
  Calls Tryd.prog 30 #[v,.int .i64 k] w fun e w'=>e=.returned (.int .i64 (k+xs.length))∧Own w' base v (marks k xs.length)∧w.grownBy w' v.ownBlock:=by
 by_cases hz:0<xs.length
 ·obtain⟨g,cap,rfl,hbg,hgl⟩:=World.ownsRow.form h hz
  have HO:Hid (Own w base (.slice (some ⟨g,0,none⟩) xs.length cap) xs):=h
  clear h
  obtain⟨n,hn⟩:∃n,n=xs.length:=⟨_,rfl⟩
  rw[←hn]at hz hbig HO⊢
  have HN:Hid (n=xs.length):=hn
  clear hn
  go_enter Tryd.func30,Tryd.ntmps30
  go_wp2
  go_loopw [1,5] (fun q i wr=>∃j:Nat,j≤n∧i=.int .i64 j∧q=.int .i64 (k+j)∧Hid (Own wr base (.slice (some ⟨g,0,none⟩) n cap) (marks k j++xs.drop j)∧w.grownBy wr (some g))) (fun _ i _=>n-(intOf i).toNat)
  case atStart=>exact⟨0,Nat.zero_le _,rfl,by simp,by simpa[marks]using HO.out,World.grownBy.refl _ _⟩
  case round=>
   obtain⟨j,hj,rfl,rfl,HR⟩:=hrel
   have hn':=HN.out
   have hlen:(marks k j++xs.drop j).length=n:=by simp[marks_length];omega
   by_cases hlt:(j:Int)<(n:Int)
   ·have hown:wr.ownsRow base 2 1 (.slice (some ⟨g,0,none⟩) n cap) n ((marks k j++xs.drop j).map (Value.int .i64)):=by
     have:=HR.out.1
     unfold Own at this
     rwa[hlen]at this
    have hfr:=World.ownsRow.frozenAt hown j
    obtain⟨x,hc⟩:∃x,wr.cell? ⟨g,j,none⟩=some x:=by
     have:=World.ownsRow.cellAt hown j (by omega)
     rw[this]
     exact⟨_,List.getElem?_eq_getElem (by simp[marks_length];omega)⟩
    have hst:=World.ownsRow.stored hown j (.int .i64 (k+j))
    have HS:Hid (Own (wr.setCell ⟨g,j,none⟩ (.int .i64 (k+j))) base (.slice (some ⟨g,0,none⟩) n cap) (marks k (j+1)++xs.drop (j+1))∧w.grownBy (wr.setCell ⟨g,j,none⟩ (.int .i64 (k+j))) (some g)):=by
     refine⟨?_,HR.out.2.trans hst.2⟩
     have:=hst.1
     rw[←List.map_set,marks_step k xs j (by omega)]at this
     unfold Own
     rwa[show(marks k (j+1)++xs.drop (j+1)).length=n by simp[marks_length];omega]
    clear hst hown HR hlen hn'
    go_wp2
    go_roundw
    case rel=>exact⟨j+1,by omega,by go_num,by go_num,HS⟩
    case measure=>simp[intOf];omega
   ·clear hn' hlen
    go_wp2
    go_ret
    have hjn:j=n:=by omega
    have hn':=HN.out
    have this:=HR.out
    rw[hjn,hn',marks_all,←hn']at this
    exact⟨ret_int (by omega),this.1,this.2⟩
 ·have hx:xs=[]:=List.eq_nil_of_length_eq_zero (by omega)
  subst hx
  obtain⟨ao,cap,rfl,_,_,_⟩:=h.reads
  have HO:Hid (Own w base (.slice ao 0 cap) []):=h
  clear h
  simp only[List.length_nil]at hz hbig⊢
  go_enter Tryd.func30,Tryd.ntmps30
  go_wp2
  go_loop [1,5] (fun q i=>i=.int .i64 0∧q=.int .i64 k) (fun _ _=>0)
  case atStart=>exact⟨rfl,rfl⟩
  case round=>
   obtain⟨rfl,rfl⟩:=hrel
   go_wp2
   go_ret
   exact⟨ret_int (by simp),by simpa[marks]using HO.out,World.grownBy.refl _ _⟩
theorem Tryd.infoI:(Tryd.prog.info? 2).map (fun i=>(i.zero,i.size,i.bytes))=some (some (.int .i64 0),1,8):=by kernel_rfl
end Go.Proofs.YthmnmaemnihkeaaDoor
