/- What one may change of a holding, as plain lists and numbers. -/
import Derived.Test.YtflbcjgkdokhiaaGreatDoorM4
import Derived.Test.YtflbcjgkdokhiaaGreatDoorM2
import Derived.Test.YtflbcjgkdokhiaaGreatDoorRows
import Derived.Test.YtflbcjgkdokhiaaGreatDoorM1
import Derived.WalkKit
import Derived.ProofKit
import Derived.OpenShut
import Derived.Laws.Tables
import Derived.Laws.ResultCell
namespace Go.Proofs.YtflbcjgkdokhiaaGreatDoor
open Go.RowKit
def turnI (t:Int):Int:=if 1000000000<t+1 then 0 else t+1
def Hd.zero:Hd:=⟨[],0,0,0⟩
def Hd.free (h:Hd):Hd:=⟨h.ks,0, -1,h.tu⟩
def Hd.take (h:Hd) (i k:Int):Hd:=⟨h.ks,k,if allI k then-1 else i,h.tu⟩
def Hd.turn (h:Hd):Hd:=⟨h.ks,h.kd,h.ho,turnI h.tu⟩
def Hd.key (h:Hd) (i key:Int):Hd:=⟨h.ks.set i.toNat key,h.kd,h.ho,h.tu⟩
def Hd.regd (h:Hd) (i key:Int):Hd:=if key=0∧(h.ho=i∨anyI (h.ks.set i.toNat key)=false)then((h.key i key).turn).free else(h.key i key).turn
def Hd.resd (h:Hd) (i k:Int):Hd×Bool:=if regI h.ks i=false then(h,false)else if h.kd=0 then(h.take i k,true)else(h,decide (h.kd=k)&&(allI k||decide (h.ho=i)))
def told (r:Hd×Bool):Hd×Int:=(r.1,if r.2 then 0 else 1)
def Hd.reld (h:Hd) (i:Int):Hd×Bool:=if regI h.ks i=false then(h,false)else if h.holds i then(h.free,true)else(h,true)
def Hd.clrd (h:Hd) (i:Int):Hd×Bool:=if regI h.ks i=false then(h,false)else(⟨[0,0,0,0],0, -1,turnI h.tu⟩,true)
def Hd.clear (h:Hd) (i:Int):Hd×Int:=if h.ok&&inI i 0 3 then told (h.clrd i)else(Hd.zero,2)
def strike (ks:List Int) (i:Nat) (key:Int):Nat→List Int
 |0=>ks
 |j+1=>if j≠i∧ks.getD j 0=key then(strike ks i key j).set j 0 else strike ks i key j
def more (ks:List Int) (i:Nat) (key:Int):Nat→Bool
 |0=>false
 |j+1=>more ks i key j||(decide (j≠i)&&(decide (ks.getD j 0≠key)&&decide (ks.getD j 0≠0)))
def has (ks:List Int) (key:Int):Nat→Bool
 |0=>false
 |j+1=>has ks key j||decide (ks.getD j 0=key)
def Hd.alone (h:Hd) (key:Int):Bool:=decide (h.kd≠0)&&(!allI h.kd&&decide (h.ks.getD h.ho.toNat 0=key))
def Hd.pred (h:Hd) (i key k:Int):Hd×Bool:=
 if(regI h.ks i&&has h.ks key 4)=false then(h,false)else
 if(h.alone key||(allI h.kd&& !more h.ks i.toNat key 4))=true then((Hd.turn ⟨strike h.ks i.toNat key 4,h.kd,h.ho,h.tu⟩).take i k,true)
 else(Hd.turn ⟨strike h.ks i.toNat key 4,h.kd,h.ho,h.tu⟩,true)
theorem strike_len (ks:List Int) (i:Nat) (key:Int) (j:Nat):(strike ks i key j).length=ks.length:=by
 induction j with
 |zero=>rfl
 |succ j ih=>unfold strike;split<;>simp[ih]
theorem strike_at (ks:List Int) (i:Nat) (key:Int) (j m:Nat) (hm:j≤m):(strike ks i key j).getD m 0=ks.getD m 0:=by
 induction j with
 |zero=>rfl
 |succ j ih=>
  have:=ih (by omega)
  unfold strike
  split
  ·rw[←this]
   simp only[List.getD_eq_getElem?_getD]
   rw[List.getElem?_set_ne (by omega)]
  ·exact this
def Hd.preempt (h:Hd) (i key k:Int):Hd×Int:=if h.ok&&inI i 0 3&&inI key 1 9999&&kiI k then told (h.pred i key k)else(Hd.zero,2)
theorem turnI_in (t:Int) (h0:0≤t) (h1:t≤1000000000):0≤turnI t∧turnI t≤1000000000:=by
 unfold turnI;split<;>omega
end Go.Proofs.YtflbcjgkdokhiaaGreatDoor
namespace Go.Proofs.YtflbcjgkdokhiaaGreatDoor
open Go.RowKit
def Hd.keysN (h:Hd):List Int:=h.tu::h.ks.filter (fun k=>decide (k≠0))
def Hd.holdN (h:Hd):List Int:=[h.tu,h.kd,if 0≤h.ho then h.ks.getD h.ho.toNat 0 else 0]
def Hd.keysT (h:Hd):Bs:=if h.ok then intsB h.keysN else[]
def Hd.holdT (h:Hd):Bs:=if h.ok then intsB h.holdN else[]
end Go.Proofs.YtflbcjgkdokhiaaGreatDoor
set_option maxRecDepth 20000
set_option maxHeartbeats 400000
namespace Go.Proofs.YtflbcjgkdokhiaaGreatDoor
open Go.ChangeShapes Go.WideShapes Go.ChangeAt Go.RowKit
theorem grownSet (w:World) (g j:Nat) (x:Value):w.grownBy (w.setCell ⟨g,j,none⟩ x) (some g):=
 ⟨rfl,rfl,rfl,by simp,fun k _ hk=>heap_setCell_other w ⟨g,j,none⟩ k x (fun e=>hk (by simp[e]))⟩
theorem Own.keptLt {w w':World} {base g:Nat} {v:Value} {xs:List Int} (h:Own w base v xs) (hg:w.grownBy w' (some g)) (hb:g<base):Own w' base v xs:=
 h.kept hg (by
  by_cases e:v.ownBlock=none
  ·exact .inl e
  ·refine .inr fun e2=>?_
   have:=h.lt g e2
   omega)
theorem Own.setLt {w:World} {base g:Nat} {v:Value} {xs:List Int} (h:Own w base v xs) (hb:g<base) (j:Nat) (x:Value):Own (w.setCell ⟨g,j,none⟩ x) base v xs:=h.keptLt (grownSet w g j x) hb
def szI (k:Int) (n:Nat):Int:=if(n:Int)≤k then k-n else-1
theorem sz_any (v:Value) (xs:List Int) (k:Int) (w:World) (h:Reads w v xs) (h0:0≤k) (h1:k≤1048576):
  Calls Tryz.prog 68 #[v,.int .i64 k] w fun e w'=>e=.returned (.int .i64 (szI k xs.length))∧w'=w:=by
 obtain⟨ao,cap,rfl,hl,⟨hm, -⟩, -⟩:=h
 unfold maxLen at hm
 obtain⟨n,hn⟩:∃n,n=xs.length:=⟨_,rfl⟩
 rw[←hn]at hl⊢
 clear hn
 by_cases hk:(n:Int)≤k
 ·have e:szI k n=k-n:=by simp[szI,hk]
  rw[e]
  clear e
  go_enter Tryz.func68,Tryz.ntmps68
  go_wp2
  go_ret
  exact⟨rfl,rfl⟩
 ·have e:szI k n= -1:=by simp[szI,hk]
  rw[e]
  clear e
  go_enter Tryz.func68,Tryz.ntmps68
  go_wp2
  go_ret
  exact⟨rfl,rfl⟩
end Go.Proofs.YtflbcjgkdokhiaaGreatDoor
namespace Go.Proofs.YtflbcjgkdokhiaaGreatDoor
open Go.ChangeShapes Go.WideShapes Go.ChangeAt Go.RowKit
end Go.Proofs.YtflbcjgkdokhiaaGreatDoor
set_option maxRecDepth 20000
set_option maxHeartbeats 400000
namespace Go.Proofs.YtflbcjgkdokhiaaGreatDoor
open Go.ChangeShapes Go.WideShapes Go.ChangeAt Go.RowKit
theorem valOk_yes {x:Int} (h0:0≤x) (h1:x≤9999):valOk x=true:=by simp[valOk,h0,h1]
theorem valOk_no {x:Int} (h:x<0∨9999<x):valOk x=false:=by simp[valOk];omega
theorem sval_any (x:Int) (w:World):
  Calls Tryz.prog 81 #[.int .i64 x] w fun e w'=>e=.returned (.bool (valOk x))∧w'=w:=by
 by_cases h0:0≤x
 ·by_cases h1:x≤9999
  ·rw[valOk_yes h0 h1]
   go_enter Tryz.func81,Tryz.ntmps81
   go_wp2
   go_ret
   exact⟨ret_bool (by simp),rfl⟩
  ·rw[valOk_no (by omega)]
   go_enter Tryz.func81,Tryz.ntmps81
   go_wp2
   go_ret
   exact⟨ret_bool (by simp),rfl⟩
 ·rw[valOk_no (by omega)]
  go_enter Tryz.func81,Tryz.ntmps81
  go_wp2
  go_ret
  exact⟨ret_bool (by simp),rfl⟩
theorem Reads.cellOf {w:World} {ao:Option Addr} {n cap:Nat} {xs:List Int} (h:Reads w (.slice ao n cap) xs):n=xs.length∧n≤cap∧cap≤maxLen∧∀j,j<n→∃b off,ao=some ⟨b,off,none⟩∧b<w.heap.size∧w.cell? ⟨b,off+j,none⟩=some (.int .i64 (xs.getD j 0)):=by
 obtain⟨ao',cap',e,hl,⟨hm, -⟩,hc⟩:=h
 simp only[Value.slice.injEq]at e
 obtain⟨rfl,rfl,rfl⟩:=e
 refine⟨rfl,hl,hm,fun j hj=>?_⟩
 rcases hc with e|⟨b,off,e,h4⟩
 ·rw[e]at hj;simp at hj
 ·exact⟨b,off,e,World.block_lt_of_cell? w _ (h4 j hj),h4 j hj⟩
theorem Reads.form {w:World} {v:Value} {xs:List Int} (h:Reads w v xs):∃ao cap,v=.slice ao xs.length cap:=by
 obtain⟨ao,cap,e,_⟩:=h
 exact⟨ao,cap,e⟩
theorem bothOk_yes {a b:List Int} (h:bothOk a b=true):blocksOk a=true∧blocksOk b=true∧a.length=b.length:=by
 simpa[bothOk]using h
theorem sset_any (s:Int) (w:World):
  Calls Tryz.prog 51 #[.int .i64 s] w fun e w'=>e=.returned (.bool (setOk s))∧w'=w:=by
 by_cases h0:0≤s
 ·by_cases h1:s≤255
  ·rw[setOk_pos h0 (by omega)]
   go_enter Tryz.func51,Tryz.ntmps51
   go_wp2
   go_ret
   exact⟨ret_bool (by simp),rfl⟩
  ·rw[setOk_neg (by omega)]
   go_enter Tryz.func51,Tryz.ntmps51
   go_wp2
   go_ret
   exact⟨ret_bool (by simp),rfl⟩
 ·rw[setOk_neg (by omega)]
  go_enter Tryz.func51,Tryz.ntmps51
  go_wp2
  go_ret
  exact⟨ret_bool (by simp),rfl⟩
end Go.Proofs.YtflbcjgkdokhiaaGreatDoor
set_option maxRecDepth 20000
set_option maxHeartbeats 1000000
namespace Go.Proofs.YtflbcjgkdokhiaaGreatDoor
open Go.ChangeShapes Go.WideShapes Go.ChangeAt Go.RowKit
def apart (u v:Value):Prop:=(u.ownBlock=none∨u.ownBlock≠v.ownBlock)∧(v.ownBlock=none∨v.ownBlock≠u.ownBlock)
def OwnD (w:World) (base:Nat) (u v:Value) (xs ys:List Int):Prop:=Own w base u xs∧Own w base v ys∧apart u v
def Pair (w:World) (g:Nat) (t:TypeId) (u v:Value):Prop:=w.heap[g]?=some (.cells #[u,v] t (0,0))
theorem Pair.lt {w:World} {g:Nat} {t:TypeId} {u v:Value} (h:Pair w g t u v):g<w.heap.size:=by
 rcases Nat.lt_or_ge g w.heap.size with hlt|hge
 ·exact hlt
 ·rw[Pair,Array.getElem?_eq_none hge]at h;cases h
theorem Pair.new (w:World) (t:TypeId) (u v:Value):Pair (w.alloc (.cells #[u,v] t)) w.heap.size t u v:=heap_alloc_new w _
theorem Pair.below {w w':World} {g:Nat} {t:TypeId} {u v:Value} (h:Pair w g t u v) (hb:Below w.heap.size w w'):Pair w' g t u v:=(hb.block g h.lt).trans h
theorem Pair.kept {w w':World} {g:Nat} {t:TypeId} {u v:Value} {row:Option Nat} (h:Pair w g t u v) (hg:w.grownBy w' row) (hne:some g≠row):Pair w' g t u v:=(hg.block g h.lt hne).trans h
theorem Pair.alloc {w:World} {g:Nat} {t:TypeId} {u v:Value} (h:Pair w g t u v) (o:Obj):Pair (w.alloc o) g t u v:=(Below.heap_alloc w o g h.lt).trans h
theorem Pair.cell0 {w:World} {g:Nat} {t:TypeId} {u v:Value} (h:Pair w g t u v):w.cell? ⟨g,0,none⟩=some u:=by rw[cell_of_row w g 0 _ _ _ h];rfl
theorem Pair.cell1 {w:World} {g:Nat} {t:TypeId} {u v:Value} (h:Pair w g t u v):w.cell? ⟨g,1,none⟩=some v:=by rw[cell_of_row w g 1 _ _ _ h];rfl
theorem Pair.frozen {w:World} {g:Nat} {t:TypeId} {u v:Value} (h:Pair w g t u v) (j:Nat):w.frozen? ⟨g,j,none⟩=false:=frozen_of_row w g j _ _ h
theorem belowAlloc (w:World) (o:Obj):Below w.heap.size w (w.alloc o):=(Below.refl _ _).alloc (Nat.le_refl _) _
theorem szDisk_any (u v:Value) (xs ys:List Int) (k:Int) (w:World) (h:Reads w u xs) (h':Reads w v ys) (h0:0≤k) (h1:k≤1048576):
  Calls Tryz.prog 37 #[.agg #[u,v],.int .i64 k] w fun e w'=>e=.returned (.int .i64 (szI k (xs.length+ys.length)))∧Below w.heap.size w w':=by
 have hb:=belowAlloc w (.cells #[u,v] 62)
 have c1:=sz_any u xs k _ (h.below hb (Nat.le_refl _)) h0 h1
 by_cases hx:(xs.length:Int)≤k
 ·have e1:szI k xs.length=k-xs.length:=by simp[szI,hx]
  have c2:=sz_any v ys (k-xs.length) _ (h'.below hb (Nat.le_refl _)) (by omega) (by omega)
  rw[e1]at c1
  by_cases hy:(ys.length:Int)≤k-xs.length
  ·have e2:szI (k-xs.length) ys.length=k-xs.length-ys.length:=by simp[szI,hy]
   have e3:Hid (szI k (xs.length+ys.length)=k-xs.length-ys.length):=by simp only[Hid,szI];rw[if_pos (by omega)];omega
   rw[e2]at c2
   clear e1 e2
   go_enter Tryz.func37,Tryz.ntmps37
   go_wp2_with fail
   refine c1.mono ?_
   rintro e w' ⟨rfl,hw⟩;subst w'
   go_wp2_with fail
   refine c2.mono ?_
   rintro e w' ⟨rfl,hw⟩;subst w'
   go_wp2_with fail
   go_ret
   exact⟨ret_int e3.out.symm,hb⟩
  ·have e2:szI (k-xs.length) ys.length= -1:=by simp[szI,hy]
   have e3:Hid (szI k (xs.length+ys.length)= -1):=by simp only[Hid,szI];rw[if_neg (by omega)]
   rw[e2]at c2
   clear e1 e2
   go_enter Tryz.func37,Tryz.ntmps37
   go_wp2_with fail
   refine c1.mono ?_
   rintro e w' ⟨rfl,hw⟩;subst w'
   go_wp2_with fail
   refine c2.mono ?_
   rintro e w' ⟨rfl,hw⟩;subst w'
   go_wp2_with fail
   go_ret
   exact⟨ret_int e3.out.symm,hb⟩
 ·have e1:szI k xs.length= -1:=by simp[szI,hx]
  have e3:Hid (szI k (xs.length+ys.length)= -1):=by simp only[Hid,szI];rw[if_neg (by omega)]
  rw[e1]at c1
  clear e1
  go_enter Tryz.func37,Tryz.ntmps37
  go_wp2_with fail
  refine c1.mono ?_
  rintro e w' ⟨rfl,hw⟩;subst w'
  go_wp2_with fail
  go_ret
  exact⟨ret_int e3.out.symm,hb⟩
theorem Tryz.infoD:(Tryz.prog.info? 46).map (·.size)=some 2:=by kernel_rfl
theorem apart_of {w1 w2:World} {b1 b2:Nat} {v0 v1:Value} {xs ys:List Int} (h:Own w1 b1 v0 xs) (k:Own w2 b2 v1 ys) (hb:w1.heap.size≤b2):apart v0 v1:=⟨h.apart k hb,h.apart' k hb⟩
theorem Tryz.underD:∃fs,Tryz.prog.underlying 46=some (.struct fs):=⟨_,Tryz.underlying46⟩
theorem Reads.one {w:World} {v:Value} {xs:List Int} (h:Reads w v xs):v.oneCell'=true:=by
 obtain⟨ao,cap,rfl,_⟩:=h;rfl
theorem pair_one {u v:Value} (hu:u.oneCell'=true) (hv:v.oneCell'=true):(#[u,v]:Array Value).all (·.oneCell')=true:=by simp[hu,hv]
theorem Pair.set0 {w:World} {g:Nat} {t:TypeId} {u v:Value} (h:Pair w g t u v) (x:Value):Pair (w.setCell ⟨g,0,none⟩ x) g t x v:=heap_setCell_same w g 0 _ _ x h
theorem Pair.set1 {w:World} {g:Nat} {t:TypeId} {u v:Value} (h:Pair w g t u v) (x:Value):Pair (w.setCell ⟨g,1,none⟩ x) g t u x:=heap_setCell_same w g 1 _ _ x h
theorem Pair.other {w:World} {g:Nat} {t:TypeId} {u v:Value} (h:Pair w g t u v) (a:Addr) (x:Value) (hne:g≠a.block):Pair (w.setCell a x) g t u v:=(heap_setCell_other w a g x hne).trans h
theorem grownRow (w:World) (g:Nat) (cs:Array Value):w.grownBy (w.setRow g cs) (some g):=
 ⟨rfl,rfl,rfl,by simp,fun k _ hne=>_root_.Go.setRow_other w g k cs (fun e=>hne (by rw[e]))⟩
theorem wpList_getP {ops:Array Oper} {rest:List Oper} {o:Oper} {a:Act} {w:World} {Q:Exit→Act→World→Prop} (hgd:o.guard=none) (x:Operand) (ho:o.op=.load 46 x)
  (g:Nat) (hx:a.eval x=.pointer (some ⟨g,0,none⟩)) (u v:Value) (hr:Pair w g 46 u v)
  (h:wpList Tryz.prog ops Q rest (a.put o.dst (.agg #[u,v])) w):wpList Tryz.prog ops Q (o::rest) a w:=by
 obtain⟨fs,hu⟩:=Tryz.underD
 exact wpList_load_row hgd _ x ho g hx _ _ _ _ hr hu rfl Tryz.infoD h
theorem wpList_putP {ops:Array Oper} {rest:List Oper} {o:Oper} {a:Act} {w:World} {Q:Exit→Act→World→Prop} (hgd:o.guard=none) (x y:Operand) (ho:o.op=.store 46 x y)
  (g:Nat) (u v u' v':Value) (hx:a.eval x=.pointer (some ⟨g,0,none⟩)) (hy:a.eval y=.agg #[u,v]) (hu:u.oneCell'=true) (hv:v.oneCell'=true) (hr:Pair w g 46 u' v')
  (h:∀w',Pair w' g 46 u v→w.grownBy w' (some g)→wpList Tryz.prog ops Q rest (a.put o.dst undef) w'):wpList Tryz.prog ops Q (o::rest) a w:=
 wpList_store_row hgd _ x y ho g #[u,v] hx hy _ _ hr Tryz.infoD rfl (pair_one hu hv) (h _ (setRow_heap w g _ _ _ _ hr) (grownRow w g _))
theorem results_pair {fn:Func} {p:Tmp} (h:fn.results=#[.cell p 46]) (tmps:Array Value) (w:World) (g:Nat) (u v:Value)
  (hp:tmps.getD p undef=.pointer (some ⟨g,0,none⟩)) (hr:Pair w g 46 u v):(results fn tmps).run Tryz.prog w=.ok (.agg #[u,v]) w:=by
 obtain⟨fs,hu⟩:=Tryz.underD
 exact results_cell_row h tmps w g _ _ _ _ hp hr hu rfl Tryz.infoD
theorem toDisk_any (u v:Value) (xs ys:List Int) (w:World) (h:Reads w u xs) (h':Reads w v ys) (gx:xs.length≤1099511627776) (gy:ys.length≤1099511627776):
  Calls Tryz.prog 52 #[.agg #[u,v]] w fun e w'=>∃a b,e=.returned (.agg #[a,b])∧OwnD w' w.heap.size a b xs ys∧Below w.heap.size w w':=by
 have HR:Hid (Reads w u xs∧Reads w v ys):=⟨h,h'⟩
 clear h h'
 obtain⟨w3,hw3⟩:∃w3,w3=((w.alloc (.cells #[u,v] 62)).alloc (.cells #[.slice none 0 0,.slice none 0 0] 46)).alloc (.cells #[.slice none 0 0,.slice none 0 0] 46):=⟨_,rfl⟩
 have p0:Pair w3 w.heap.size 62 u v:=by rw[hw3];exact((Pair.new w _ u v).alloc _).alloc _
 have p1:Pair w3 (w.heap.size+1) 46 (.slice none 0 0) (.slice none 0 0):=by rw[hw3];have:=(Pair.new (w.alloc (.cells #[u,v] 62)) 46 (.slice none 0 0) (.slice none 0 0)).alloc (.cells #[.slice none 0 0,.slice none 0 0] 46);simpa using this
 have p2:Pair w3 (w.heap.size+1+1) 46 (.slice none 0 0) (.slice none 0 0):=by rw[hw3];have:=Pair.new ((w.alloc (.cells #[u,v] 62)).alloc (.cells #[.slice none 0 0,.slice none 0 0] 46)) 46 (.slice none 0 0) (.slice none 0 0);simpa using this
 have b3:Below w.heap.size w w3:=by rw[hw3];exact(((Below.refl _ _).alloc (Nat.le_refl _) _).alloc (by simp) _).alloc (by simp;omega) _
 have hs3:w3.heap.size=w.heap.size+3:=by rw[hw3];simp
 go_enter Tryz.func52,Tryz.ntmps52
 go_wp2_with fail
 rw[←hw3]
 clear hw3
 refine(to_any u xs _ (HR.out.1.below b3 (Nat.le_refl _)) gx).mono ?_
 rintro e w4 ⟨a,rfl,o4,b4⟩
 have hs4:=b4.size
 replace p0:=p0.below b4
 replace p1:=p1.below b4
 replace p2:=p2.below b4
 replace b4:=b3.trans (b4.mono b3.size)
 obtain⟨ao,ca,hea⟩:=o4.reads.form
 have c2:=p2.cell0
 have f2:=p2.frozen 0
 have c1:=p0.cell1
 have q0:=p0.other ⟨w.heap.size+1+1,0,none⟩ a (by simp;omega)
 have q1:=p1.other ⟨w.heap.size+1+1,0,none⟩ a (by simp)
 have q2:=p2.set0 a
 have b5:Below w.heap.size w (w4.setCell ⟨w.heap.size+1+1,0,none⟩ a):=b4.setCell (by simp;omega) _
 have o5:=o4.setLt (g:=w.heap.size+1+1) (by omega) 0 a
 subst hea
 obtain⟨w5,hw5⟩:∃w5,w5=w4.setCell ⟨w.heap.size+1+1,0,none⟩ (.slice ao xs.length ca):=⟨_,rfl⟩
 have hs45:w5.heap.size=w4.heap.size:=by rw[hw5];simp
 rw[←hw5]at q0 q1 q2 b5 o5
 clear p0 p1 p2 o4 b3
 have hne:w.heap.size≠w.heap.size+1+1:=by omega
 go_wp2_with fail
 rw[←hw5]
 clear hw5 c1 c2 f2
 refine(to_any v ys _ (HR.out.2.below b5 (Nat.le_refl _)) gy).mono ?_
 rintro e w6 ⟨b,rfl,o6,b6⟩
 have hap:apart (.slice ao xs.length ca) b:=apart_of o5 o6 (Nat.le_refl _)
 replace q0:=q0.below b6
 replace q1:=q1.below b6
 replace q2:=q2.below b6
 replace o5:=o5.below b6
 have hs5:=b5.size
 replace b6:=b5.trans (b6.mono b5.size)
 replace o6:=o6.mono (show w3.heap.size≤w5.heap.size by omega)
 obtain⟨bo,cb,heb⟩:=o6.reads.form
 have c2:=q2.cell1
 have f2:=q2.frozen 1
 have r1:=q1.other ⟨w.heap.size+1+1,1,none⟩ b (by simp)
 have r2:=q2.set1 b
 have b7:Below w.heap.size w (w6.setCell ⟨w.heap.size+1+1,1,none⟩ b):=b6.setCell (by simp;omega) _
 replace o5:=o5.setLt (g:=w.heap.size+1+1) (by omega) 1 b
 have o7:=o6.setLt (g:=w.heap.size+1+1) (by omega) 1 b
 subst heb
 obtain⟨w7,hw7⟩:∃w7,w7=w6.setCell ⟨w.heap.size+1+1,1,none⟩ (.slice bo ys.length cb):=⟨_,rfl⟩
 rw[←hw7]at r1 r2 b7 o5 o7
 clear q0 q1 q2 o6 b5 b6
 go_wp2_with (first
  |(refine wpList_getP rfl _ rfl (w.heap.size+1+1) rfl _ _ (by rw[←hw7];exact r2) ?_)
  |(refine wpList_putP rfl _ _ rfl (w.heap.size+1) _ _ _ _ rfl rfl rfl rfl (by rw[←hw7];exact r1) ?_;rw[←hw7];intro w8 s1 g8))
 refine bodyPost_ret (results_pair rfl _ _ (w.heap.size+1) _ _ rfl s1) rfl ?_
 refine⟨_,_,rfl,⟨(o5.keptLt g8 (by omega)).mono (by omega),(o7.keptLt g8 (by omega)).mono (by omega),hap⟩,b7.grown g8 b7.size (fun k e=>by cases e;omega)⟩
theorem eqDisk_any (u v a b:Value) (xs ys:List Int) (w:World) (hu:Reads w u xs) (hv:Reads w v ys) (ha:Reads w a xs) (hb:Reads w b ys) (gx:xs.length≤1099511627776) (gy:ys.length≤1099511627776):
  Calls Tryz.prog 62 #[.agg #[u,v],.agg #[a,b]] w fun e w'=>e=.returned (.bool true)∧Below w.heap.size w w':=by
 obtain⟨w2,hw2⟩:∃w2,w2=(w.alloc (.cells #[u,v] 46)).alloc (.cells #[a,b] 46):=⟨_,rfl⟩
 have p0:Pair w2 w.heap.size 46 u v:=by rw[hw2];exact(Pair.new w _ u v).alloc _
 have p1:Pair w2 (w.heap.size+1) 46 a b:=by rw[hw2];have:=Pair.new (w.alloc (.cells #[u,v] 46)) 46 a b;simpa using this
 have b2:Below w.heap.size w w2:=by rw[hw2];exact((Below.refl _ _).alloc (Nat.le_refl _) _).alloc (by simp) _
 have c1:=eq_any u a xs xs w2 (hu.below b2 (Nat.le_refl _)) (ha.below b2 (Nat.le_refl _)) gx
 rw[show decide (xs=xs)=true by simp]at c1
 have c2:∀n,_:=fun n=>eq_any v b ys ys (w2.drewN n) (hv.below (below_drewN b2 n) (Nat.le_refl _)) (hb.below (below_drewN b2 n) (Nat.le_refl _)) gy
 rw[show decide (ys=ys)=true by simp]at c2
 clear hu hv ha hb gx gy
 go_enter Tryz.func62,Tryz.ntmps62
 go_wp2_with fail
 rw[←hw2]
 clear hw2
 refine c1.mono ?_
 rintro e w3 ⟨rfl,n3,hw3⟩
 have d0:=p0.cell1
 have d1:=p1.cell1
 have e0:w3.cell? ⟨w.heap.size,1,none⟩=some v:=by rw[hw3];exact d0
 have e1:w3.cell? ⟨w.heap.size+1,1,none⟩=some b:=by rw[hw3];exact d1
 replace c2:=c2 n3
 have HB:Hid (Below w.heap.size w w3):=by rw[hw3];exact below_drewN b2 n3
 rw[←hw3]at c2
 clear hw3 d0 d1 p0 p1 c1 b2
 go_wp2_with fail
 refine c2.mono ?_
 rintro e w4 ⟨rfl,n4,hw4⟩
 have HC:Hid (Below w.heap.size w w4):=by rw[hw4];exact below_drewN HB.out n4
 clear hw4 HB e0 e1 c2
 go_wp2_with fail
 go_ret
 exact⟨rfl,HC.out⟩
def Marked (w w':World) (u v:Value):Prop:=∃w1,w.grownBy w1 u.ownBlock∧w1.grownBy w' v.ownBlock
theorem Own.marked {w w':World} {base:Nat} {u v z:Value} {zs:List Int} (h:Own w base z zs) (m:Marked w w' u v) (hu:z.ownBlock=none∨z.ownBlock≠u.ownBlock) (hv:z.ownBlock=none∨z.ownBlock≠v.ownBlock):Own w' base z zs:=by
 obtain⟨w1,g1,g2⟩:=m
 exact(h.kept g1 hu).kept g2 hv
end Go.Proofs.YtflbcjgkdokhiaaGreatDoor
