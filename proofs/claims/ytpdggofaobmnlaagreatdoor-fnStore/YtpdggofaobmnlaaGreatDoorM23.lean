import Derived.Test.YtpdggofaobmnlaaGreatDoorM5
import Derived.MapKept
import Derived.Carry
import Derived.OwnWalk
import Derived.Deep.RegionHeld3
import Derived.Deep.DeepCutAuto
/- A table keyed by two truths, in a block: what it holds, and the runs of Go's operations on it. -/
set_option maxRecDepth 20000
set_option maxHeartbeats 1000000
namespace Go.Proofs.YtpdggofaobmnlaaGreatDoor
open Go.ChangeShapes Go.WideShapes Go.ChangeAt Go.RowKit
def keyB (x y:Bool):Value:=.agg #[.bool x,.bool y]
def entB (p:Bool×Bool×Nat):MapEntry:=⟨keyB p.1 p.2.1,.int .i64 1,p.2.2⟩
theorem run_eqK (x y x' y':Bool) (w:World):(Op.equal 188 (keyB x y) (keyB x' y')).run Tryz.prog w=.ok (x==x'&&y==y') w:=by
 cases x<;>cases y<;>cases x'<;>cases y'<;>kernel_rfl
theorem run_checkK (e:Bool) (x y:Bool) (w:World):(Instr.checkKey e 10000 188 (keyB x y)).run Tryz.prog w=.ok () w:=by
 cases x<;>cases y<;>cases e<;>kernel_rfl
def findB (x y:Bool):List (Bool×Bool×Nat)→Nat→Option (Nat×Value)
 |[],_=>none
 |p::l,i=>if(x==p.1&&y==p.2.1)=true then some (i,.int .i64 1)else findB x y l (i+1)
def delB (x y:Bool):List (Bool×Bool×Nat)→List (Bool×Bool×Nat)
 |[]=>[]
 |p::l=>if(x==p.1&&y==p.2.1)=true then l else p::delB x y l
def hasB (l:List (Bool×Bool×Nat)) (x y:Bool):Bool:=l.any fun p=>x==p.1&&y==p.2.1
def ApartB (l:List (Bool×Bool×Nat)):Prop:=l.Pairwise fun p q=>(p.1==q.1&&p.2.1==q.2.1)=false
theorem run_findA (x y:Bool) (w:World):∀(l:List (Bool×Bool×Nat)) (i:Nat),(Instr.findAsking 188 (keyB x y) (l.map entB) i).run Tryz.prog w=.ok (findB x y l i) w
 |[],i=>by simp[Instr.findAsking,findB]
 |p::l,i=>by
  have h1:=run_eqK x y p.1 p.2.1 w
  have h2:=run_findA x y w l (i+1)
  rw[List.map_cons]
  by_cases hb:(x==p.1&&y==p.2.1)=true
  ·simp only[hb]at h1
   simp[Instr.findAsking,entB,h1,findB,hb]
  ·have hb':(x==p.1&&y==p.2.1)=false:=by simpa using hb
   simp only[hb']at h1
   simp[Instr.findAsking,entB,h1,findB,hb',h2]
theorem findB_nil (x y:Bool) (l:List (Bool×Bool×Nat)):∀i,hasB l x y=false→findB x y l i=none∧delB x y l=l:=by
 induction l with
 |nil=>intro i _;exact⟨rfl,rfl⟩
 |cons p l ih=>
  intro i h
  simp only[hasB,List.any_cons,Bool.or_eq_false_iff]at h
  obtain⟨h1,h2⟩:=ih (i+1) h.2
  simp[findB,delB,h.1,h1,h2]
theorem findB_some (x y:Bool) (l:List (Bool×Bool×Nat)):∀i,hasB l x y=true→∃j,findB x y l i=some (i+j,.int .i64 1)∧l.eraseIdx j=delB x y l:=by
 induction l with
 |nil=>intro i h;cases h
 |cons p l ih=>
  intro i h
  by_cases hb:(x==p.1&&y==p.2.1)=true
  ·exact⟨0,by simp[findB,hb],by simp[delB,hb]⟩
  ·have h':hasB l x y=true:=by
    simp only[hasB,List.any_cons,Bool.or_eq_true]at h
    rcases h with h|h
    ·exact absurd h hb
    ·exact h
   obtain⟨j,h1,h2⟩:=ih (i+1) h'
   refine⟨j+1,?_,?_⟩
   ·unfold findB
    rw[if_neg hb,h1]
    simp[Nat.add_assoc,Nat.add_comm 1 j]
   ·unfold delB
    rw[if_neg hb,←h2]
    rfl
theorem del_sub (x y:Bool) (l:List (Bool×Bool×Nat)):(delB x y l).Sublist l:=by
 induction l with
 |nil=>exact List.Sublist.refl _
 |cons p l ih=>
  unfold delB
  split
  ·exact List.sublist_cons_self _ _
  ·exact ih.cons_cons _
theorem has_del (x y a b:Bool) (l:List (Bool×Bool×Nat)) (h:ApartB l):hasB (delB x y l) a b=(hasB l a b&& !(a==x&&b==y)):=by
 induction l with
 |nil=>rfl
 |cons p l ih=>
  have h2:=List.pairwise_cons.1 h
  have ih:=ih h2.2
  obtain⟨p1,p2,n⟩:=p
  unfold delB
  by_cases hb:(x==p1&&y==p2)=true
  ·rw[if_pos hb]
   have hno:hasB l p1 p2=false:=by
    unfold hasB
    rw[List.any_eq_false]
    intro q hq
    simpa using h2.1 q hq
   simp only[Bool.and_eq_true,beq_iff_eq]at hb
   obtain⟨rfl,rfl⟩:=hb
   by_cases ha:(a==x&&b==y)=true
   ·simp only[Bool.and_eq_true,beq_iff_eq]at ha
    obtain⟨rfl,rfl⟩:=ha
    rw[hno];simp
   ·have ha':(a==x&&b==y)=false:=by simpa using ha
    simp only[hasB,List.any_cons,ha',Bool.false_or,Bool.not_false,Bool.and_true]
  ·rw[if_neg hb]
   simp only[hasB,List.any_cons]at ih⊢
   rw[ih]
   have hb':(x==p1&&y==p2)=false:=by simpa using hb
   revert hb'
   cases a<;>cases b<;>cases x<;>cases y<;>cases p1<;>cases p2<;>simp
def MB (w:World) (b:Nat) (t:Bool→Bool→Bool):Prop:=
 ∃l clock,w.heap[b]?=some (.map (l.map entB).toArray clock)∧ApartB l∧∀x y,hasB l x y=t x y
theorem MB.of (w w':World) (b:Nat) (t:Bool→Bool→Bool) (h:MB w b t) (e:w'.heap[b]?=w.heap[b]?):MB w' b t:=by
 obtain⟨l,c,hb,ha,ht⟩:=h
 exact⟨l,c,e.trans hb,ha,ht⟩
theorem MB.eq {w:World} {b:Nat} {t s:Bool→Bool→Bool} (h:MB w b t) (e:∀x y,t x y=s x y):MB w b s:=by
 obtain⟨l,c,hb,ha,ht⟩:=h
 exact⟨l,c,hb,ha,fun x y=>(ht x y).trans (e x y)⟩
theorem MB.lt {w:World} {b:Nat} {t:Bool→Bool→Bool} (h:MB w b t):b<w.heap.size:=by
 obtain⟨l,c,hb,_,_⟩:=h
 exact(Array.getElem?_eq_some_iff.1 hb).1
def putT (t:Bool→Bool→Bool) (x y:Bool):Bool→Bool→Bool:=fun a b=>t a b||(a==x&&b==y)
def delT (t:Bool→Bool→Bool) (x y:Bool):Bool→Bool→Bool:=fun a b=>t a b&& !(a==x&&b==y)
theorem run_findK (x y:Bool) (w:World) (l:List (Bool×Bool×Nat)):(Instr.findKey 188 (keyB x y) (l.map entB)).run Tryz.prog w=.ok (findB x y l 0) w:=by
 have hu:∃fs,Tryz.prog.underlying 188=some (.struct fs):=⟨_,Tryz.underlying188⟩
 obtain⟨fs,hu⟩:=hu
 have h:=run_findA x y w l 0
 cases l with
 |nil=>simp[Instr.findKey,run_underlying hu,Result.andThen,Instr.findNow,findB]
 |cons p l=>
  have hn:Instr.findNow (.struct fs) (keyB x y) ((p::l).map entB) 0=none:=by
   simp[Instr.findNow,Instr.sameNow,keyB,entB]
  simp only[Instr.findKey,Sem.run_bind,run_underlying hu,Result.andThen,hn]
  exact h
theorem run_insertB (w:World) (b:Nat) (t:Bool→Bool→Bool) (x y:Bool) (h:MB w b t) (ht:t x y=false):
  ∃w',(Instr.mapUpdate 185 (.map (some b)) (keyB x y) (.int .i64 1)).run Tryz.prog w=.ok () w'∧MB w' b (putT t x y)∧w.grownBy w' (some b):=by
 obtain⟨l,c,hb,ha,hl⟩:=h
 have hf:=run_findK x y w l
 have hno:hasB l x y=false:=(hl x y).trans ht
 rw[(findB_nil x y l 0 hno).1]at hf
 refine⟨{w with heap:=w.heap.setIfInBounds b (.map ((l.map entB).toArray.push ⟨keyB x y,.int .i64 1,c⟩) (c+1))},?_,?_,?_⟩
 ·simp[Instr.mapUpdate,run_underlying Tryz.underlying185,MapKept.run_getObj_map hb,run_checkK,hf,MapKept.run_setObj_map _ hb,Result.andThen]
 ·refine⟨l++[(x,y,c)],c+1,?_,?_,?_⟩
  ·rw[(MapKept.heap_set hb).1]
   simp[entB]
  ·refine List.pairwise_append.2 ⟨ha,by simp,?_⟩
   intro p hp q hq
   simp only[List.mem_singleton]at hq
   subst hq
   have:=List.any_eq_false.1 hno p hp
   cases hx:x<;>cases hy:y<;>cases h1:p.1<;>cases h2:p.2.1<;>simp_all
  ·intro a d
   simp only[hasB,List.any_append,List.any_cons,List.any_nil,Bool.or_false,putT]
   rw[←hl a d]
   rfl
 ·exact⟨rfl,rfl,rfl,by simp,fun k hk hne=>(MapKept.heap_set hb).2 k (fun e=>hne (by rw[e]))⟩
theorem map_erase (f:Bool×Bool×Nat→MapEntry):∀(l:List (Bool×Bool×Nat)) (j:Nat),(l.map f).eraseIdx j=(l.eraseIdx j).map f
 |[],_=>rfl
 |_::_,0=>rfl
 |p::l,j+1=>by simp[map_erase f l j]
theorem run_deleteB (w:World) (ty:TypeId) (b:Nat) (t:Bool→Bool→Bool) (x y:Bool) (h:MB w b t):
  ∃w',(Builtin.delete_ #[185,188] ty #[.map (some b),keyB x y]).run Tryz.prog w=.ok (.tuple #[]) w'∧MB w' b (delT t x y)∧w.grownBy w' (some b):=by
 obtain⟨l,c,hb,ha,hl⟩:=h
 have hf:=run_findK x y w l
 refine⟨{w with heap:=w.heap.setIfInBounds b (.map ((delB x y l).map entB).toArray c)},?_,⟨delB x y l,c,(MapKept.heap_set hb).1,List.Pairwise.sublist (del_sub x y l) ha,?_⟩,?_⟩
 ·cases hh:hasB l x y with
  |false=>
   obtain⟨h1,h2⟩:=findB_nil x y l 0 hh
   rw[h1]at hf
   rw[h2]
   simp[Builtin.delete_,run_underlying Tryz.underlying185,MapKept.run_getObj_map hb,run_checkK,hf,MapKept.run_setObj_map _ hb,Result.andThen]
  |true=>
   obtain⟨j,h1,h2⟩:=findB_some x y l 0 hh
   rw[h1,Nat.zero_add]at hf
   have he:(l.map entB).toArray.eraseIdxIfInBounds j=((delB x y l).map entB).toArray:=by
    rw[←h2]
    apply Array.ext'
    simp only[Array.eraseIdxIfInBounds]
    split
    ·simp[map_erase]
    ·rename_i hlt
     have:l.length≤j:=by simpa using hlt
     rw[List.eraseIdx_of_length_le this]
   rw[←he]
   simp[Builtin.delete_,run_underlying Tryz.underlying185,MapKept.run_getObj_map hb,run_checkK,hf,MapKept.run_setObj_map _ hb,Result.andThen]
 ·intro a d
  rw[has_del x y a d l ha,hl a d]
  rfl
 ·exact⟨rfl,rfl,rfl,by simp,fun k hk hne=>(MapKept.heap_set hb).2 k (fun e=>hne (by rw[e]))⟩
theorem run_clearB (w:World) (ty:TypeId) (b:Nat) (t:Bool→Bool→Bool) (h:MB w b t):
  ∃w',(Builtin.clear_ #[185] ty #[.map (some b)]).run Tryz.prog w=.ok (.tuple #[]) w'∧MB w' b (fun _ _=>false)∧w.grownBy w' (some b):=by
 obtain⟨l,c,hb,ha,hl⟩:=h
 refine⟨{w with heap:=w.heap.setIfInBounds b (.map #[] c)},?_,⟨[],c,(MapKept.heap_set hb).1,List.Pairwise.nil,fun _ _=>rfl⟩,?_⟩
 ·simp[Builtin.clear_,run_underlying Tryz.underlying185,MapKept.run_getObj_map hb,MapKept.run_setObj_map _ hb,Result.andThen]
 ·exact⟨rfl,rfl,rfl,by simp,fun k hk hne=>(MapKept.heap_set hb).2 k (fun e=>hne (by rw[e]))⟩
theorem run_lookB (w:World) (b:Nat) (t:Bool→Bool→Bool) (x y:Bool) (h:MB w b t):
  (Instr.lookup 185 (.map (some b)) (keyB x y) false).run Tryz.prog w=.ok (.int .i64 (if t x y=true then 1 else 0)) w:=by
 obtain⟨l,c,hb,ha,hl⟩:=h
 have hf:=run_findK x y w l
 have hz:(zeroValue 2).run Tryz.prog w=.ok (.int .i64 0) w:=by kernel_rfl
 cases hh:hasB l x y with
 |false=>
  rw[(findB_nil x y l 0 hh).1]at hf
  rw[←hl x y,hh]
  simp[Instr.lookup,run_underlying Tryz.underlying185,MapKept.run_getObj_map hb,run_checkK,hf,hz,Result.andThen]
 |true=>
  obtain⟨j,h1,h2⟩:=findB_some x y l 0 hh
  rw[h1]at hf
  rw[←hl x y,hh]
  simp[Instr.lookup,run_underlying Tryz.underlying185,MapKept.run_getObj_map hb,run_checkK,hf,Result.andThen]
end Go.Proofs.YtpdggofaobmnlaaGreatDoor
namespace Go.Proofs.YtpdggofaobmnlaaGreatDoor
open Go.ChangeShapes Go.WideShapes Go.ChangeAt Go.RowKit
def heldI (k:Int):Int:=if k=1 then 1 else if k=2 then 1 else if k=3 then 2 else if k=4 then 2 else if k=5 then 3 else if k=6 then 3 else 0
def whatI (k:Int):Int:=if k=1 then 1 else if k=2 then 2 else if k=3 then 1 else if k=4 then 2 else if k=5 then 1 else if k=6 then 2 else 0
theorem Tryz.isShape:IsS 211 2:=⟨⟨_,Tryz.underlying211⟩,by kernel_rfl⟩
theorem ishape_any (k:Int) (w:World):
  Calls Tryz.prog 174 #[.int .i64 k] w fun e w'=>e=.returned (.agg #[.int .i64 (heldI k),.int .i64 (whatI k)])∧Below w.heap.size w w':=by
 have b1:=(Below.refl w.heap.size w).alloc (Nat.le_refl _)
 rcases kinds k with h|h|h|h|h|h|h|⟨_,h0,h1,h2,h3,h4,h5,h6⟩
 ·subst h
  go_enter Tryz.func174,Tryz.ntmps174
  go_wp2
  refine bodyPost_ret (results_S Tryz.isShape rfl _ _ w.heap.size _ rfl rfl (StB.new w _ _)) rfl ?_
  exact⟨rfl,b1 _⟩
 ·subst h
  go_enter Tryz.func174,Tryz.ntmps174
  go_wp2
  refine bodyPost_ret (results_S Tryz.isShape rfl _ _ w.heap.size _ rfl rfl (StB.new w _ _)) rfl ?_
  exact⟨rfl,b1 _⟩
 ·subst h
  go_enter Tryz.func174,Tryz.ntmps174
  go_wp2
  refine bodyPost_ret (results_S Tryz.isShape rfl _ _ w.heap.size _ rfl rfl (StB.new w _ _)) rfl ?_
  exact⟨rfl,b1 _⟩
 ·subst h
  go_enter Tryz.func174,Tryz.ntmps174
  go_wp2
  refine bodyPost_ret (results_S Tryz.isShape rfl _ _ w.heap.size _ rfl rfl (StB.new w _ _)) rfl ?_
  exact⟨rfl,b1 _⟩
 ·subst h
  go_enter Tryz.func174,Tryz.ntmps174
  go_wp2
  refine bodyPost_ret (results_S Tryz.isShape rfl _ _ w.heap.size _ rfl rfl (StB.new w _ _)) rfl ?_
  exact⟨rfl,b1 _⟩
 ·subst h
  go_enter Tryz.func174,Tryz.ntmps174
  go_wp2
  refine bodyPost_ret (results_S Tryz.isShape rfl _ _ w.heap.size _ rfl rfl (StB.new w _ _)) rfl ?_
  exact⟨rfl,b1 _⟩
 ·subst h
  go_enter Tryz.func174,Tryz.ntmps174
  go_wp2
  refine bodyPost_ret (results_S Tryz.isShape rfl _ _ w.heap.size _ rfl rfl (StB.new w _ _)) rfl ?_
  exact⟨rfl,b1 _⟩
 ·have he:heldI k=0:=by simp[heldI,h1,h2,h3,h4,h5,h6]
  have hf:whatI k=0:=by simp[whatI,h1,h2,h3,h4,h5,h6]
  rw[he,hf]
  clear he hf
  go_enter Tryz.func174,Tryz.ntmps174
  go_wp2
  refine bodyPost_ret (results_S Tryz.isShape rfl _ _ w.heap.size _ rfl rfl (StB.new w _ _)) rfl ?_
  exact⟨rfl,b1 _⟩
theorem ikind_any (k:Int) (w:World):
  Calls Tryz.prog 163 #[.int .i64 k] w fun e w'=>e=.returned (.bool (kiI k))∧Below w.heap.size w w':=by
 have c1:=ishape_any k w
 rcases kinds k with h|h|h|h|h|h|h|⟨hk,h0,h1,h2,h3,h4,h5,h6⟩
 all_goals first
  |(subst h
    go_enter Tryz.func163,Tryz.ntmps163
    go_wp2_with fail
    refine c1.mono ?_
    rintro e w2 ⟨rfl,b2⟩
    go_wp2
    go_ret
    exact⟨rfl,b2⟩)
  |(have he:heldI k=0:=by simp[heldI,h1,h2,h3,h4,h5,h6]
    have hf:whatI k=0:=by simp[whatI,h1,h2,h3,h4,h5,h6]
    rw[he,hf]at c1
    rw[hk]
    clear he hf
    go_enter Tryz.func163,Tryz.ntmps163
    go_wp2_with fail
    refine c1.mono ?_
    rintro e w2 ⟨rfl,b2⟩
    go_wp2
    go_ret
    exact⟨rfl,b2⟩)
theorem allI_held (k:Int):allI k=decide (heldI k=3):=by
 rcases kinds k with h|h|h|h|h|h|h|⟨hk,h0,h1,h2,h3,h4,h5,h6⟩
 all_goals first|(subst h;rfl)|(rw[none_all k hk,show heldI k=0 by simp[heldI,h1,h2,h3,h4,h5,h6]];rfl)
theorem iall_any (k:Int) (w:World):
  Calls Tryz.prog 161 #[.int .i64 k] w fun e w'=>e=.returned (.bool (allI k))∧Below w.heap.size w w':=by
 have c1:=ishape_any k w
 rw[allI_held]
 obtain⟨p,hp⟩:∃p,p=heldI k:=⟨_,rfl⟩
 obtain⟨q,hq⟩:∃q,q=whatI k:=⟨_,rfl⟩
 rw[←hp,←hq]at c1
 rw[←hp]
 clear hp hq
 go_enter Tryz.func161,Tryz.ntmps161
 go_wp2_with fail
 refine c1.mono ?_
 rintro e w2 ⟨rfl,b2⟩
 have hf:∀wx,(Instr.field 211 (.agg #[.int .i64 p,.int .i64 q]) 0).run Tryz.prog wx=.ok (.int .i64 p) wx:=fun wx=>by kernel_rfl
 go_wp2
 go_ret
 exact⟨ret_bool (by by_cases h:p=3<;>simp[h]),b2⟩
def MBB (w0 w:World) (b:Nat) (t:Bool→Bool→Bool):Prop:=MB w b t∧Below w0.heap.size w0 w∧w0.heap.size≤b
theorem MBB.start (w:World):MBB w (w.alloc (.map #[] 0)).drew w.heap.size (fun _ _=>false):=
 ⟨⟨[],0,(MapKept.heap_alloc w _).1,List.Pairwise.nil,fun _ _=>rfl⟩,((Below.refl w.heap.size w).alloc (Nat.le_refl _) _).drew,Nat.le_refl _⟩
theorem MBB.grown {w0 w w':World} {b:Nat} {t s:Bool→Bool→Bool} (h:MBB w0 w b t) (hm:MB w' b s) (hg:w.grownBy w' (some b)):MBB w0 w' b s:=
 ⟨hm,h.2.1.grown hg h.2.1.size (fun k e=>by cases e;exact h.2.2),h.2.2⟩
theorem MBB.below {w0 w w':World} {b:Nat} {t:Bool→Bool→Bool} (h:MBB w0 w b t) (hb:Below w.heap.size w w'):MBB w0 w' b t:=
 ⟨MB.of w w' b t h.1 (hb.block b h.1.lt),h.2.1.trans (hb.mono h.2.1.size),h.2.2⟩
theorem MBB.eq {w0 w:World} {b:Nat} {t s:Bool→Bool→Bool} (h:MBB w0 w b t) (e:∀x y,t x y=s x y):MBB w0 w b s:=⟨h.1.eq e,h.2⟩
theorem upon_insertB {o:Oper} {a:Act} {w:World} {K:Act→World→Prop} {Q:Exit→Act→World→Prop} (w0:World) (b:Nat) (t:Bool→Bool→Bool) (x y:Bool) (h1:MBB w0 w b t) (ht:t x y=false)
  (h:∀w',MBB w0 w' b (putT t x y)→Oper.upon Tryz.prog o a K Q (.ok .skip w')):
  Oper.upon Tryz.prog o a K Q (((Instr.mapUpdate 185 (.map (some b)) (.agg #[.bool x,.bool y]) (.int .i64 1)).run Tryz.prog w).andThen fun _ w'=>.ok .skip w'):=by
 obtain⟨w',hrun,h2,h3⟩:=run_insertB w b t x y h1.1 ht
 unfold keyB at hrun
 rw[hrun]
 exact h w' (h1.grown h2 h3)
theorem wpList_deleteB {ops:Array Oper} {rest:List Oper} {o:Oper} {a:Act} {w:World} {Q:Exit→Act→World→Prop} (hgd:o.guard=none) (m k:Operand)
  (ho:o.op=.call {callee:=.builtin .delete,args:=#[m,k],argTypes:=#[185,188]}) (w0:World) (b:Nat) (t:Bool→Bool→Bool) (x y:Bool) (hm:a.eval m=.map (some b)) (hk:a.eval k=.agg #[.bool x,.bool y])
  (h1:MBB w0 w b t) (h:∀w',MBB w0 w' b (delT t x y)→w.grownBy w' (some b)→wpList Tryz.prog ops Q rest (a.put o.dst (.tuple #[])) w'):wpList Tryz.prog ops Q (o::rest) a w:=by
 refine wpList_plain hgd fun K hK=>?_
 obtain⟨w',hrun,h2,h3⟩:=run_deleteB w o.type b t x y h1.1
 unfold keyB at hrun
 unfold Oper.wp
 simp[execOp,ho,resolve,invoke,builtin,hm,hk,hrun,Result.andThen]
 exact hK _ _ (h w' (h1.grown h2 h3) h3)
theorem wpList_clearB {ops:Array Oper} {rest:List Oper} {o:Oper} {a:Act} {w:World} {Q:Exit→Act→World→Prop} (hgd:o.guard=none) (m:Operand)
  (ho:o.op=.call {callee:=.builtin .clear,args:=#[m],argTypes:=#[185]}) (w0:World) (b:Nat) (t:Bool→Bool→Bool) (hm:a.eval m=.map (some b))
  (h1:MBB w0 w b t) (h:∀w',MBB w0 w' b (fun _ _=>false)→w.grownBy w' (some b)→wpList Tryz.prog ops Q rest (a.put o.dst (.tuple #[])) w'):wpList Tryz.prog ops Q (o::rest) a w:=by
 refine wpList_plain hgd fun K hK=>?_
 obtain⟨w',hrun,h2,h3⟩:=run_clearB w o.type b t h1.1
 unfold Oper.wp
 simp[execOp,ho,resolve,invoke,builtin,hm,hrun,Result.andThen]
 exact hK _ _ (h w' (h1.grown h2 h3) h3)
def SB (w0 w:World) (b:Nat) (t:Bool→Bool→Bool) (g:Nat) (p q:Int):Prop:=MBB w0 w b t∧StB w g 211 #[.int .i64 p,.int .i64 q]∧b≠g
theorem SB.start {w0 w:World} {b:Nat} {t:Bool→Bool→Bool} (h:MBB w0 w b t) (p q:Int):SB w0 (w.alloc (.cells #[.int .i64 p,.int .i64 q] 211)) b t w.heap.size p q:=
 ⟨h.below ((Below.refl w.heap.size w).alloc (Nat.le_refl _) _),StB.new w _ _,Nat.ne_of_lt h.1.lt⟩
theorem SB.grown {w0 w w':World} {b g:Nat} {t s:Bool→Bool→Bool} {p q:Int} (h:SB w0 w b t g p q) (hm:MBB w0 w' b s) (hg:w.grownBy w' (some b)):Hid (SB w0 w' b s g p q):=
 ⟨hm,h.2.1.kept hg (fun e=>h.2.2 (by cases e;rfl)),h.2.2⟩
theorem SB.cell0 {w0 w:World} {b g:Nat} {t:Bool→Bool→Bool} {p q:Int} (h:SB w0 w b t g p q):w.cell? ⟨g,0,none⟩=some (.int .i64 p):=h.2.1.cell 0 rfl
theorem SB.cell1 {w0 w:World} {b g:Nat} {t:Bool→Bool→Bool} {p q:Int} (h:SB w0 w b t g p q):w.cell? ⟨g,1,none⟩=some (.int .i64 q):=h.2.1.cell 1 rfl
def tabI (p q:Int) (x y:Bool):Bool:= !decide (p=0)&&(!(decide (q=1)&& !x)&& !(!decide (p=1)&&y))
theorem ibarred_any (k:Int) (w:World):
  Calls Tryz.prog 164 #[.int .i64 k] w fun e w'=>∃b,e=.returned (.map (some b))∧MBB w w' b (tabI (heldI k) (whatI k)):=by
 have c1:=fun wx=>ishape_any k wx
 have hPQ:Hid ((heldI k=0∧whatI k=0)∨((heldI k=1∨heldI k=2∨heldI k=3)∧(whatI k=1∨whatI k=2))):=by
  rcases kinds k with h|h|h|h|h|h|h|⟨hk,h0,h1,h2,h3,h4,h5,h6⟩
  all_goals first|(subst h;rw[Hid];decide)|(rw[Hid];simp[heldI,whatI,h1,h2,h3,h4,h5,h6])
 obtain⟨p,hp⟩:∃p,p=heldI k:=⟨_,rfl⟩
 obtain⟨q,hq⟩:∃q,q=whatI k:=⟨_,rfl⟩
 simp only[←hp,←hq]at c1 hPQ⊢
 clear hp hq
 have HC:Hid (∀wx,Calls Tryz.prog 174 #[.int .i64 k] wx fun e w'=>e=.returned (.agg #[.int .i64 p,.int .i64 q])∧Below wx.heap.size wx w'):=c1
 clear c1
 go_enter Tryz.func164,Tryz.ntmps164
 go_upto_region 1 with fail
 go_cut [3] (fun t wx=>t=.map (some w.heap.size)∧Hid (MBB w wx w.heap.size (fun _ _=>true)))
 case first=>
  have hs:=MBB.start w
  have hmm:= @run_makeMap Tryz.prog
  go_region_held3 (fun _=>True) (trivial)
   (first
    |(refine upon_insertB w w.heap.size _ _ _ (by assumption) (by rfl) ?_;intro w1 h1))
  all_goals (go_wp2_with fail;go_meet)
  all_goals exact⟨rfl,MBB.eq (by assumption) (by intro x y;cases x<;>cases y<;>rfl)⟩
 case rest=>
  obtain⟨rfl,HM⟩:=hcut
  go_wp2_with fail
  refine(HC.out _).mono ?_
  rintro e w2 ⟨rfl,b2⟩
  have HS:Hid (SB w (w2.alloc (.cells #[.int .i64 p,.int .i64 q] 211)) w.heap.size (fun _ _=>true) w2.heap.size p q):=SB.start (HM.out.below b2) p q
  clear HM b2 HC
  have hPQ':=hPQ.out
  clear hPQ
  rcases hPQ' with⟨rfl,rfl⟩|⟨rfl|rfl|rfl,rfl|rfl⟩
  all_goals
   (go_wp2_with (first
    |(refine wpList_deleteB rfl _ _ rfl w w.heap.size _ _ _ rfl rfl HS.out.1 ?_;intro w4 h4 g4;replace HS:=HS.out.grown h4 g4;have q0:=HS.out.cell0;have q1:=HS.out.cell1;clear h4 g4)
    |(refine wpList_clearB rfl _ rfl w w.heap.size _ rfl HS.out.1 ?_;intro w4 h4 g4;replace HS:=HS.out.grown h4 g4;have q0:=HS.out.cell0;have q1:=HS.out.cell1;clear h4 g4))
    go_ret
    exact⟨_,rfl,HS.out.1.eq (by intro x y;cases x<;>cases y<;>rfl)⟩)
end Go.Proofs.YtpdggofaobmnlaaGreatDoor
