import Derived.Test.YtpdggofaobmnlaaGreatDoorM1
import Derived.Test.YtpdggofaobmnlaaGreatDoorM15
import Derived.Test.YtpdggofaobmnlaaGreatDoorM2
import Derived.Test.YtpdggofaobmnlaaGreatDoorM8
import Derived.Test.YtpdggofaobmnlaaGreatDoorDisk
/- What the law on sets asks, of plain numbers: one that is put in or taken out changes no other, and the first is the least. -/
set_option maxRecDepth 20000
set_option maxHeartbeats 1000000
namespace Go.Proofs.YtpdggofaobmnlaaGreatDoor
open Go.RowKit
theorem with_all:∀n:Nat,n<256→∀i:Nat,i<8→(withI n i).toNat<256∧0≤withI n i∧∀k:Nat,k<8→inN (withI n i).toNat k=(inN n k||k==i):=by decide+kernel
theorem without_all:∀n:Nat,n<256→∀i:Nat,i<8→(withoutI n i).toNat<256∧0≤withoutI n i∧∀k:Nat,k<8→inN (withoutI n i).toNat k=(inN n k&&k !=i):=by decide+kernel
theorem full_all:∀n:Nat,n<9→(fullI n).toNat<256∧0≤fullI n∧∀k:Nat,k<8→inN (fullI n).toNat k=decide (k<n):=by decide+kernel
theorem zero_all:∀n:Nat,n<256→(∀k:Nat,k<8→inN n k=false)→n=0:=by decide+kernel
theorem inB_big {s k:Int} (h:inB s k=true):0≤s∧s<256∧0≤k∧k<8:=by
 simp[inB,setOk,itemOk]at h
 omega
theorem withI_ok {s i:Int} (h:0≤withI s i):0≤s∧s<256:=by
 by_cases hs:0≤s∧s<256
 ·exact hs
 ·rw[withI_noset (by omega)]at h;omega
theorem with_nonneg {s i:Int} (h0:0≤s) (h1:s<256):0≤withI s i:=by
 by_cases hi:0≤i∧i<8
 ·obtain⟨n,rfl⟩:=nat_of h0
  obtain⟨j,rfl⟩:=nat_of hi.1
  exact(with_all n (by omega) j (by omega)).2.1
 ·rw[withI_noitem h0 h1 (by omega)];exact h0
theorem with_in {s i:Int} (h0:0≤s) (h1:s<256) (k:Int):inB (withI s i) k=(inB s k||(k==i&&decide (0≤i)&&decide (i<8))):=by
 by_cases hi:0≤i∧i<8
 ·obtain⟨n,rfl⟩:=nat_of h0
  obtain⟨j,rfl⟩:=nat_of hi.1
  have a:=with_all n (by omega) j (by omega)
  by_cases hk:0≤k∧k<8
  ·obtain⟨m,rfl⟩:=nat_of hk.1
   rw[inB_pos a.2.1 (by omega) hk.1 hk.2,inB_pos h0 h1 hk.1 hk.2]
   have:=a.2.2 m (by omega)
   simp only[Int.toNat_natCast]at this⊢
   rw[this]
   have e:((m:Int)==(j:Int))=(m==j):=by
    rw[Bool.eq_iff_iff];simp;omega
   rw[e]
   simp[hi.2]
  ·rw[inB_noitem (by omega),inB_noitem (by omega)]
   have:(k==(j:Int))=false:=by simp;omega
   simp[this]
 ·rw[withI_noitem h0 h1 (by omega)]
  have:(decide (0≤i)&&decide (i<8))=false:=by simp;omega
  rw[Bool.and_assoc,this]
  simp
theorem without_in {s i:Int} (h0:0≤s) (h1:s<256) (k:Int):inB (withoutI s i) k=(inB s k&&(k !=i)):=by
 by_cases hi:0≤i∧i<8
 ·obtain⟨n,rfl⟩:=nat_of h0
  obtain⟨j,rfl⟩:=nat_of hi.1
  have a:=without_all n (by omega) j (by omega)
  by_cases hk:0≤k∧k<8
  ·obtain⟨m,rfl⟩:=nat_of hk.1
   rw[inB_pos a.2.1 (by omega) hk.1 hk.2,inB_pos h0 h1 hk.1 hk.2]
   have:=a.2.2 m (by omega)
   simp only[Int.toNat_natCast]at this⊢
   rw[this]
   have e:((m:Int) !=(j:Int))=(m !=j):=by
    rw[Bool.eq_iff_iff];simp;omega
   rw[e]
  ·rw[inB_noitem (by omega),inB_noitem (by omega)]
   rfl
 ·rw[withoutI_noitem h0 h1 (by omega)]
  cases hb:inB s k with
  |false=>rfl
  |true=>
   have:=inB_big hb
   have:(k !=i)=true:=by simp;omega
   simp[this]
theorem full_in {n:Int} (h:0≤fullI n) (k:Int):inB (fullI n) k=(decide (0≤k)&&decide (k<n)):=by
 by_cases hn:0≤n∧n≤8
 ·obtain⟨m,rfl⟩:=nat_of hn.1
  have a:=full_all m (by omega)
  by_cases hk:0≤k∧k<8
  ·obtain⟨j,rfl⟩:=nat_of hk.1
   rw[inB_pos a.2.1 (by omega) hk.1 hk.2]
   have:=a.2.2 j (by omega)
   simp only[Int.toNat_natCast]at this⊢
   rw[this]
   simp
  ·rw[inB_noitem (by omega)]
   simp
   omega
 ·have:fullI n= -1:=by unfold fullI;rw[if_neg hn]
  omega
theorem first_least {s k:Int} (h:inB s k=true):0≤firstI s∧¬k<firstI s:=by
 have b:=inB_big h
 obtain⟨m,rfl⟩:=nat_of b.2.2.1
 have hb:=seekI_bd (hasP s) 0 (by omega)
 have hle:seekI (hasP s) 0≤m:=by
  rcases Nat.lt_or_ge m (seekI (hasP s) 0)with hlt|hge
  ·have:=seekI_before (hasP s) 0 (by omega) m (by omega) hlt
   simp[hasP,h]at this
  ·exact hge
 unfold firstI
 rw[if_neg (by omega)]
 omega
theorem first_in {s:Int} (h:0≤firstI s):inB s (firstI s)=true:=by
 unfold firstI at h⊢
 by_cases e:seekI (hasP s) 0=8
 ·rw[if_pos e]at h;omega
 ·rw[if_neg e]
  have hb:=seekI_bd (hasP s) 0 (by omega)
  exact seekI_at (hasP s) 0 (by omega) (by omega)
theorem first_none {s:Int} (h:firstI s<0) (h0:0≤s) (h1:s<256):s=0:=by
 obtain⟨n,rfl⟩:=nat_of h0
 have e:seekI (hasP n) 0=8:=by
  unfold firstI at h
  by_cases e:seekI (hasP n) 0=8
  ·exact e
  ·rw[if_neg e]at h;omega
 have:=zero_all n (by omega) (fun k hk=>by
  have:=seekI_before (hasP n) 0 (by omega) k (by omega) (by omega)
  simp only[hasP]at this
  rw[inB_pos h0 h1 (by omega) (by omega)]at this
  simpa using this)
 omega
end Go.Proofs.YtpdggofaobmnlaaGreatDoor
namespace Go.Proofs.YtpdggofaobmnlaaGreatDoor
open Go.RowKit
theorem differUp_in (a b:List Int):∀k,k≤8→∀j:Nat,inB (differUp a b k) j=decide (j<k∧a.getD j 0≠b.getD j 0)
 |0,_,j=>by
  rw[differUp]
  by_cases h:(j:Int)<8
  ·have:∀j:Nat,j<8→inB 0 j=false:=by decide+kernel
   simpa using this j (by omega)
  ·simpa using inB_noitem (s:=0) (i:=(j:Int)) (by omega)
 |k+1,hk,j=>by
  have ih:=differUp_in a b k (by omega) j
  have bd:=differUp_bd a b k (by omega)
  rw[differUp]
  split
  ·rename_i e
   rw[ih]
   by_cases hj:j=k
   ·subst hj;simp[-List.getD_eq_getElem?_getD,e]
   ·have:j<k+1↔j<k:=by omega
    simp[this]
  ·rename_i e
   rw[with_in bd.1 bd.2 (j:Int),ih]
   by_cases hj:j=k
   ·subst hj
    have h8:(j:Int)<8:=by omega
    simp[-List.getD_eq_getElem?_getD,e,h8]
   ·have h1:j<k+1↔j<k:=by omega
    have h2:((j:Int)==(k:Int))=false:=by simp;omega
    simp[h1,h2]
theorem list_eq_getD {a b:List Int} (hl:a.length=b.length) (h:∀j,j<a.length→a.getD j 0=b.getD j 0):a=b:=by
 apply List.ext_getElem hl
 intro j h1 h2
 have:=h j h1
 simpa[List.getD,h1,h2]using this
theorem differI_ok {a b:List Int} (h:0≤differI a b):bothOk a b=true∧differI a b=differUp a b 8:=by
 unfold differI at h⊢
 by_cases e:bothOk a b=true
 ·simp[e]
 ·simp[e]at h
theorem chosenI_differ {a b:List Int} (h:0≤differI a b):chosenI a b (differI a b)=b:=by
 obtain⟨h1,h2⟩:=differI_ok h
 obtain⟨o1,o2,o3⟩:=bothOk_yes' h1
 have bd:=differUp_bd a b 8 (by omega)
 have hl:=blocksOk_len o1
 rw[h2]
 unfold chosenI
 rw[if_pos (by simp[h1,setOk_pos bd.1 bd.2])]
 refine list_eq_getD (by rw[chosenUp_len];exact o3) (fun j hj=>?_)
 rw[chosenUp_len]at hj
 rw[chosenUp_getD a b _ 8 _ j hj,differUp_in a b 8 (by omega) j]
 by_cases e:a.getD j 0=b.getD j 0
 ·simp[-List.getD_eq_getElem?_getD,e]
 ·have h8:j<8:=by omega
  rw[if_pos]
  exact⟨h8,by simp only[decide_eq_true_eq];exact⟨h8,e⟩⟩
theorem chosenI_zero {a b:List Int} (h:0≤differI a b):chosenI a b 0=a:=by
 obtain⟨h1,h2⟩:=differI_ok h
 obtain⟨o1,o2,o3⟩:=bothOk_yes' h1
 unfold chosenI
 rw[if_pos (by simp[h1,setOk])]
 refine list_eq_getD (by rw[chosenUp_len]) (fun j hj=>?_)
 rw[chosenUp_len]at hj
 rw[chosenUp_getD a b _ 8 _ j hj,if_neg]
 have hl:=blocksOk_len o1
 have:∀j:Nat,j<8→inB 0 j=false:=by decide+kernel
 rintro⟨h8,e⟩
 rw[this j h8]at e;cases e
theorem differUp_symm (a b:List Int):∀k,differUp b a k=differUp a b k
 |0=>rfl
 |k+1=>by
  rw[differUp,differUp,differUp_symm a b k]
  by_cases e:a.getD k 0=b.getD k 0
  ·rw[if_pos e,if_pos e.symm]
  ·rw[if_neg e,if_neg (fun h=>e h.symm)]
theorem differI_symm (a b:List Int):differI b a=differI a b:=by
 have:bothOk b a=bothOk a b:=by
  unfold bothOk
  rw[Bool.eq_iff_iff]
  simp
  constructor
  ·rintro⟨h1,h2,h3⟩;exact⟨h2,h1,h3.symm⟩
  ·rintro⟨h1,h2,h3⟩;exact⟨h2,h1,h3.symm⟩
 unfold differI
 rw[this,differUp_symm]
theorem putB_ok {xs:List Int} {i v:Int} (h:putB xs i v=true):blocksOk xs=true∧0≤i∧i<(xs.length:Int)∧valOk v=true∧putI xs i v=xs.set i.toNat v:=by
 simp[putB,placeOk]at h
 obtain⟨h1,h2,h3,h4⟩:=h
 refine⟨h1,h2,h3,h4,?_⟩
 simp[putI,h1,placeOk,h2,h3,h4]
theorem putI_at {xs:List Int} {i v:Int} (h:putB xs i v=true):(putI xs i v).length=xs.length∧(putI xs i v).getD i.toNat 0=v:=by
 obtain⟨h1,h2,h3,h4,h5⟩:=putB_ok h
 have:i.toNat<xs.length:=by omega
 rw[h5]
 simp[List.getD,this]
theorem differ_put {xs:List Int} {i v:Int} (h:putB xs i v=true):differI xs (putI xs i v)=0∨differI xs (putI xs i v)=withI 0 i:=by
 obtain⟨h1,h2,h3,h4,h5⟩:=putB_ok h
 have hl:=blocksOk_len h1
 obtain⟨k,rfl⟩:∃k:Nat,i=k:=⟨i.toNat,by omega⟩
 rw[h5]
 simp only[Int.toNat_natCast]
 have hb:bothOk xs (xs.set k v)=true:=by
  have hv:blocksOk (xs.set k v)=true:=by
   simp only[blocksOk,List.length_set,Bool.and_eq_true,List.all_eq_true]at h1⊢
   refine⟨fun x hx=>?_,h1.2⟩
   rcases List.mem_or_eq_of_mem_set hx with hx|rfl
   ·exact h1.1 x hx
   ·exact h4
  simp[bothOk,h1,hv]
 have key:∀m,m≤8→differUp xs (xs.set k v) m=0∨(k<m∧differUp xs (xs.set k v) m=withI 0 k):=by
  intro m
  induction m with
  |zero=>intro _;exact .inl rfl
  |succ m ih=>
   intro hm
   rw[differUp]
   by_cases e:m=k
   ·subst e
    rcases ih (by omega)with h0|⟨h0,_⟩
    ·split
     ·exact .inl h0
     ·rw[h0];exact .inr ⟨by omega,rfl⟩
    ·omega
   ·have e':xs.getD m 0=(xs.set k v).getD m 0:=by
     have e2:¬k=m:=fun h=>e h.symm
     simp[List.getD,e2]
    rw[if_pos e']
    rcases ih (by omega)with h0|⟨h0,h6⟩
    ·exact .inl h0
    ·exact .inr ⟨by omega,h6⟩
 have hd:differI xs (xs.set k v)=differUp xs (xs.set k v) 8:=by simp[differI,hb]
 rw[hd]
 rcases key 8 (by omega)with h0|⟨_,h0⟩
 ·exact .inl h0
 ·exact .inr h0
theorem chosenI_get (p q:List Int) (s:Int):(chosenI p q s).length=0∨((chosenI p q s).length=p.length∧(chosenI p q s).length=q.length∧(chosenI p q s).length≤8∧∀j:Nat,j<p.length→(chosenI p q s).getD j 0=if inB s j=true then q.getD j 0 else p.getD j 0):=by
 unfold chosenI
 by_cases e:(bothOk p q&&setOk s)=true
 ·rw[if_pos e]
  simp at e
  obtain⟨o1,o2,o3⟩:=bothOk_yes' e.1
  have hl:=blocksOk_len o1
  rw[chosenUp_len]
  refine .inr ⟨rfl,o3,hl.2,fun j hj=>?_⟩
  rw[chosenUp_getD p q s 8 _ j hj]
  have:j<8:=by omega
  simp[this]
 ·rw[if_neg e];exact .inl rfl
end Go.Proofs.YtpdggofaobmnlaaGreatDoor
namespace Go.Proofs.YtpdggofaobmnlaaGreatDoor
open Go.ChangeShapes Go.WideShapes Go.ChangeAt Go.RowKit
def wrK (xs ys:List Int):List Int:=if bothOk xs ys then xs else[]
def wrN (xs ys:List Int) (i x:Int):List Int:=if bothOk xs ys then putI ys i x else[]
def wrB (xs ys:List Int) (i x:Int):Bool:=bothOk xs ys&&putB ys i x
def flN (xs ys:List Int):List Int:=if bothOk xs ys then ys else[]
def loK (xs ys:List Int) (s:Int):List Int:=if bothOk xs ys then(if setOk s then chosenUp xs ys s 8 xs.length else xs)else[]
def loN (xs ys:List Int) (s:Int):List Int:=if bothOk xs ys then(if setOk s then chosenUp xs ys s 8 xs.length else ys)else[]
theorem wrK_len (xs ys:List Int) {n:Nat} (h:xs.length≤n):(wrK xs ys).length≤n:=by unfold wrK;split<;>simp[h]
theorem wrN_len (xs ys:List Int) (i x:Int) {n:Nat} (h:ys.length≤n):(wrN xs ys i x).length≤n:=by
 unfold wrN;split
 ·exact putI_len ys i x h
 ·simp
theorem loK_len (xs ys:List Int) (s:Int) {n:Nat} (h:xs.length≤n):(loK xs ys s).length≤n:=by
 unfold loK;split
 ·split
  ·rw[chosenUp_len];exact h
  ·exact h
 ·simp
theorem loN_len (xs ys:List Int) (s:Int) {n:Nat} (h:xs.length≤n) (h':ys.length≤n):(loN xs ys s).length≤n:=by
 unfold loN;split
 ·split
  ·rw[chosenUp_len];exact h
  ·exact h'
 ·simp
theorem ownNil2 (w:World) (base:Nat):OwnD w base (.slice none 0 0) (.slice none 0 0) [] []:=⟨Own.nil w base,Own.nil w base,.inl rfl,.inl rfl⟩
theorem Boxes.kept {w wx wy:World} {u v:Value} {h:Nat} (H:Boxes w wx u v) (g:wx.grownBy wy (some h)) (hh:w.heap.size+2≤h):Boxes w wy u v:=
 ⟨H.1.kept g (by simp;omega),H.2.1.kept g (by simp;omega),H.2.2.1.grown g H.2.2.1.size (fun k e=>by cases e;omega),Nat.le_trans H.2.2.2 g.size⟩
theorem Own.keptNew {w w':World} {base:Nat} {v:Value} {xs:List Int} (h:Own w base v xs) (g:w.grownBy w' (some w.heap.size)):Own w' base v xs:=
 h.kept g (by
  by_cases e:v.ownBlock=none
  ·exact .inl e
  ·refine .inr fun e2=>?_
   have:=h.lt _ e2
   omega)
theorem Boxes.alloc {w wx:World} {u v:Value} (H:Boxes w wx u v) (o:Obj):Boxes w (wx.alloc o) u v:=H.below (belowAlloc wx o)
theorem Own.ltBlock {w:World} {base:Nat} {v:Value} {xs:List Int} {g n cap:Nat} (h:Own w base v xs) (e:v=.slice (some ⟨g,0,none⟩) n cap):base≤g∧g<w.heap.size:=h.lt g (by rw[e];rfl)
theorem Own.setApart {w:World} {base g j:Nat} {v u:Value} {xs:List Int} {n cap:Nat} (h:Own w base v xs) (x:Value) (e:u=.slice (some ⟨g,0,none⟩) n cap) (ha:v.ownBlock=none∨v.ownBlock≠u.ownBlock):Own (w.setCell ⟨g,j,none⟩ x) base v xs:=
 h.kept (grownSet w g j x) (by rw[e]at ha;exact ha)
end Go.Proofs.YtpdggofaobmnlaaGreatDoor
namespace Go.Proofs.YtpdggofaobmnlaaGreatDoor
open Go.ChangeShapes Go.WideShapes Go.ChangeAt Go.RowKit
theorem likeDisk_any (u v a b:Value) (xs ys:List Int) (w:World) (hu:Reads w u xs) (hv:Reads w v ys) (ha:Reads w a xs) (hb:Reads w b ys) (gx:xs.length≤1099511627776) (gy:ys.length≤1099511627776):
  Calls Tryz.prog 18 #[.agg #[u,v],.agg #[a,b]] w fun e w'=>e=.returned (.bool true)∧Below w.heap.size w w':=by
 obtain⟨w2,hw2⟩:∃w2,w2=(w.alloc (.cells #[u,v] 26)).alloc (.cells #[a,b] 26):=⟨_,rfl⟩
 have p0:Pair w2 w.heap.size 26 u v:=by rw[hw2];exact(Pair.new w _ u v).alloc _
 have p1:Pair w2 (w.heap.size+1) 26 a b:=by rw[hw2];have:=Pair.new (w.alloc (.cells #[u,v] 26)) 26 a b;simpa using this
 have b2:Below w.heap.size w w2:=by rw[hw2];exact((Below.refl _ _).alloc (Nat.le_refl _) _).alloc (by simp) _
 have c1:=like_any u a xs xs w2 (hu.below b2 (Nat.le_refl _)) (ha.below b2 (Nat.le_refl _)) gx
 rw[show decide (xs=xs)=true by simp]at c1
 have c2:∀n,_:=fun n=>like_any v b ys ys (w2.drewN n) (hv.below (below_drewN b2 n) (Nat.le_refl _)) (hb.below (below_drewN b2 n) (Nat.le_refl _)) gy
 rw[show decide (ys=ys)=true by simp]at c2
 clear hu hv ha hb gx gy
 go_enter Tryz.func18,Tryz.ntmps18
 go_wp2_with fail
 rw[←hw2]
 clear hw2
 refine c1.mono ?_
 rintro e w3 ⟨rfl,n3,hw3⟩
 have d0:=p0.cell1
 have d1:=p1.cell1
 have e0:w3.cell? ⟨w.heap.size,1,none⟩=some v:=by rw[hw3];exact d0
 have e1:w3.cell? ⟨w.heap.size+1,1,none⟩=some b:=by rw[hw3];exact d1
 replace c2:=c2 n3
 have HB:Hid (Below w.heap.size w w3):=by rw[hw3];exact below_drewN b2 n3
 rw[←hw3]at c2
 clear hw3 d0 d1 p0 p1 c1 b2
 go_wp2_with fail
 refine c2.mono ?_
 rintro e w4 ⟨rfl,n4,hw4⟩
 have HC:Hid (Below w.heap.size w w4):=by rw[hw4];exact below_drewN HB.out n4
 clear hw4 HB e0 e1 c2
 go_wp2_with fail
 go_ret
 exact⟨rfl,HC.out⟩
theorem chosenUp_same (ys:List Int) (s:Int) (k:Nat):chosenUp ys ys s k ys.length=ys:=by
 refine list_eq_getD (by rw[chosenUp_len]) (fun j hj=>?_)
 rw[chosenUp_len]at hj
 rw[chosenUp_getD ys ys s k _ j hj]
 simp
theorem differUp_same (ys:List Int):∀k,differUp ys ys k=0
 |0=>rfl
 |k+1=>by rw[differUp,if_pos rfl,differUp_same ys k]
theorem bothOk_same {xs ys:List Int} (h:bothOk xs ys=true):bothOk ys ys=true:=by
 have:=(bothOk_yes' h).2.1
 simp[bothOk,this]
theorem differI_same {ys:List Int} (h:bothOk ys ys=true):differI ys ys=0:=by simp[differI,h,differUp_same]
theorem lost_same {ys:List Int} (s:Int) (h:bothOk ys ys=true):loK ys ys s=ys∧loN ys ys s=ys:=by
 simp[loK,loN,h,chosenUp_same]
theorem zeros_ok {n:Int} (h:cntOk n=true):bothOk (zerosI n) (zerosI n)=true∧differI (zerosI n) (zerosI n)=0:=by
 have hb:blocksOk (zerosI n)=true:=by
  have h2:1≤n∧n≤8:=by simpa[cntOk]using h
  simp only[zerosI,h2,and_self,if_true,blocksOk,lenOk,List.length_replicate]
  simp[valOk]
  omega
 have h1:bothOk (zerosI n) (zerosI n)=true:=by simp[bothOk,hb]
 exact⟨h1,differI_same h1⟩
theorem getD_set (ys:List Int) (i:Nat) (x:Int) (h:i<ys.length):(ys.set i x).getD i 0=x:=by simp[List.getD,h]
theorem set_ok {xs ys:List Int} {i x:Int} (h:bothOk xs ys=true) (hp:placeOk ys i x=true):bothOk xs (ys.set i.toNat x)=true:=by
 obtain⟨h1,h2,h3⟩:=bothOk_yes' h
 have hv:valOk x=true:=by simp[placeOk]at hp;exact hp.2.2
 have hb:blocksOk (ys.set i.toNat x)=true:=by
  simp only[blocksOk,Bool.and_eq_true,List.all_eq_true,List.length_set]at h2⊢
  refine⟨fun z hz=>?_,h2.2⟩
  rcases List.mem_or_eq_of_mem_set hz with hz|rfl
  ·exact h2.1 z hz
  ·exact hv
 simp[bothOk,h1,hb,h3]
theorem loose_set {xs ys:List Int} {i x:Int} (h:bothOk xs ys=true) (hp:placeOk ys i x=true):inB (differI xs (ys.set i.toNat x)) i=(xs.getD i.toNat 0 !=x):=by
 have hl:=blocksOk_len (bothOk_yes' h).2.1
 have hi:0≤i∧i<(ys.length:Int):=by simp[placeOk]at hp;exact⟨hp.1,hp.2.1⟩
 have e:differI xs (ys.set i.toNat x)=differUp xs (ys.set i.toNat x) 8:=by simp[differI,set_ok h hp]
 rw[e]
 have:=differUp_in xs (ys.set i.toNat x) 8 (by omega) i.toNat
 rw[show((i.toNat:Nat):Int)=i by omega]at this
 rw[this,getD_set ys i.toNat x (by omega)]
 have h8:i.toNat<8:=by omega
 by_cases hx:xs.getD i.toNat 0=x
 ·simp only[hx,ne_eq,not_true_eq_false,and_false,decide_false,bne_self_eq_false]
 ·simp only[h8,ne_eq,hx,not_false_eq_true,and_self,decide_true]
  exact(bne_iff_ne.2 hx).symm
end Go.Proofs.YtpdggofaobmnlaaGreatDoor
namespace Go.Proofs.YtpdggofaobmnlaaGreatDoor
open Go.ChangeShapes Go.WideShapes Go.ChangeAt Go.RowKit
theorem rd_wr (c:Cm):(c.rd&&c.wr)=false:=by
 unfold Cm.rd Cm.wr inI
 by_cases h:c.o=1
 ·simp[h]
 ·simp[h]
theorem did_none {xs ys:List Int} (c:Cm) (h:bothOk xs ys=false):didD xs ys c=([],[],⟨7,[]⟩):=by simp[didD,h]
theorem did_other {xs ys:List Int} {c:Cm} (hb:bothOk xs ys=true) (h:(c.ok&&decide (c.o≤5))=false):didD xs ys c=(xs,ys,⟨7,[]⟩):=by
 unfold didD
 rw[hb,h]
 simp
theorem did_in {xs ys:List Int} {c:Cm} (hb:bothOk xs ys=true) (h:(c.ok&&decide (c.o≤5))=true):didD xs ys c=didI xs ys c:=by
 unfold didD
 rw[hb,h]
 simp
theorem did_cases {xs ys:List Int} (c:Cm) (hb:bothOk xs ys=true):
  (((didD xs ys c).2.2.st≠0∨c.rd=true)∧(didD xs ys c).1=xs∧(didD xs ys c).2.1=ys)∨
  ((didD xs ys c).2.2.st=0∧c.rd=false∧c.o=5∧(didD xs ys c).1=ys∧(didD xs ys c).2.1=ys)∨
  ((didD xs ys c).2.2.st=0∧c.rd=false∧c.o≠5∧∃(j:Nat) (z:Int),c.p=j∧j<ys.length∧valOk z=true∧(didD xs ys c).1=xs∧(didD xs ys c).2.1=ys.set j z∧(c.o=3→z=c.b∧ys.getD j 0=c.a)∧(c.o≠3→z=c.a)):=by
 cases h:(c.ok&&decide (c.o≤5))with
 |false=>
  left
  rw[did_other hb h]
  exact⟨.inl (by simp),rfl,rfl⟩
 |true=>
  rw[did_in hb h]
  obtain⟨hk,h5⟩:c.ok=true∧c.o≤5:=by simpa using h
  obtain⟨ho,hp⟩:=Cm.ok_vol hk h5
  obtain⟨o,p,x,y,k0⟩:=c
  dsimp only at ho hp h5⊢
  unfold didI
  dsimp only
  by_cases e5:o=5
  ·subst e5
   right;left
   rw[if_pos rfl]
   exact⟨rfl,by simp[Cm.rd],rfl,rfl,rfl⟩
  ·rw[if_neg e5]
   by_cases hr:rangeI ys ⟨o,p,x,y,k0⟩=true
   ·rw[if_pos hr]
    left
    exact⟨.inl (by simp),rfl,rfl⟩
   ·rw[if_neg hr]
    simp only[rangeI,Bool.or_eq_true,Bool.and_eq_true,decide_eq_true_eq,Bool.not_eq_true',not_or,not_and,Bool.not_eq_false]at hr
    obtain⟨⟨r1,r2⟩,r3⟩:=hr
    by_cases e1:o=1
    ·subst e1
     left
     rw[if_pos rfl]
     refine⟨.inr ?_,rfl,rfl⟩
     unfold Cm.rd
     rw[hk]
     rfl
    ·rw[if_neg e1]
     have hrd:(⟨o,p,x,y,k0⟩:Cm).rd=false:=by simp[Cm.rd,e1]
     have hj:p=(p.toNat:Int):=by omega
     have hjl:p.toNat<ys.length:=by omega
     by_cases e2:o=2
     ·subst e2
      right;right
      rw[if_pos rfl]
      exact⟨rfl,hrd,e5,p.toNat,x,hj,hjl,r2 rfl,rfl,rfl,by simp,by simp⟩
     ·rw[if_neg e2]
      by_cases e3:o=3
      ·subst e3
       rw[if_pos rfl]
       by_cases ha:atI ys ⟨3,p,x,y,k0⟩=x
       ·rw[if_pos ha]
        right;right
        exact⟨rfl,hrd,e5,p.toNat,y,hj,hjl,r3 rfl,rfl,rfl,fun _=>⟨rfl,ha⟩,by simp⟩
       ·rw[if_neg ha]
        left
        exact⟨.inl (by simp),rfl,rfl⟩
      ·rw[if_neg e3]
       right;right
       have hx:x=0:=by
        have hk':=hk
        unfold Cm.ok Cm.told at hk'
        dsimp only at hk'
        simp only[Bool.and_eq_true,Bool.or_eq_true,decide_eq_true_eq,inI_iff]at hk'
        omega
       refine⟨rfl,hrd,e5,p.toNat,0,hj,hjl,rfl,rfl,rfl,fun e=>absurd e e3,fun _=>hx.symm⟩
theorem put_ok {xs ys:List Int} {j:Nat} {z:Int} (hb:bothOk xs ys=true) (hj:j<ys.length) (hz:valOk z=true):bothOk xs (ys.set j z)=true:=by
 have hp:placeOk ys (j:Int) z=true:=by simp[placeOk,hz];omega
 have:=set_ok hb hp
 simpa using this
theorem read_put {xs ys:List Int} {j:Nat} {z:Int} (hb:bothOk xs ys=true) (hj:j<ys.length) (hz:valOk z=true):didD xs (ys.set j z) ⟨1,j,0,0,0⟩=(xs,ys.set j z,⟨0,decI z⟩):=by
 obtain⟨h1,h2,h3⟩:=bothOk_yes' hb
 have h8:=blocksOk_len h2
 have hk:(⟨1,j,0,0,0⟩:Cm).ok=true:=by
  simp[Cm.ok,Cm.told,Cm.fits,inI]
  omega
 rw[did_in (put_ok hb hj hz) (by rw[hk];rfl)]
 have hr:rangeI (ys.set j z) ⟨1,j,0,0,0⟩=false:=by simp[rangeI];omega
 have ha:atI (ys.set j z) ⟨1,j,0,0,0⟩=z:=by simp[atI,List.getD,hj]
 unfold didI
 rw[if_neg (by simp),hr,ha]
 simp
theorem without_put {xs ys:List Int} {j:Nat} {z:Int} (hb:bothOk xs ys=true) (hj:j<ys.length) (hz:valOk z=true):withoutI (differI (ys.set j z) ys) (j:Int)=0:=by
 obtain⟨h1,h2,h3⟩:=bothOk_yes' hb
 have h8:=blocksOk_len h2
 have hp:putB ys (j:Int) z=true:=by simp[putB,h2,placeOk,hz];omega
 have he:putI ys (j:Int) z=ys.set j z:=by
  have:=(putB_ok hp).2.2.2.2
  simpa using this
 have hd:=differ_put hp
 rw[he]at hd
 rw[←differI_symm]
 have h7:j<8:=by omega
 rcases hd with e|e
 ·rw[e]
  have:∀i:Fin 8,withoutI 0 (i.val:Int)=0:=by decide+kernel
  exact this ⟨j,h7⟩
 ·rw[e]
  have:∀i:Fin 8,withoutI (withI 0 (i.val:Int)) (i.val:Int)=0:=by decide+kernel
  exact this ⟨j,h7⟩
theorem like_same (va vb:Value) (xs:List Int) (w:World) (ha:Reads w va xs) (hb:Reads w vb xs) (hbig:xs.length≤1099511627776):
  Calls Tryz.prog 50 #[va,vb] w fun e w'=>e=.returned (.bool true)∧Below w.heap.size w w':=by
 refine(like_any va vb xs xs w ha hb hbig).mono ?_
 rintro e w' ⟨rfl,n,rfl⟩
 exact⟨by simp,below_drewN (Below.refl _ _) n⟩
end Go.Proofs.YtpdggofaobmnlaaGreatDoor
