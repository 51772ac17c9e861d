import Derived.Test.YtpdggofaobmnlaaGreatDoorM5
import Derived.Test.YtpdggofaobmnlaaGreatDoorM10
import Derived.Test.YtpdggofaobmnlaaGreatDoorM8
import Derived.Test.YtpdggofaobmnlaaGreatDoorM6
import Derived.Deep.DeepCutAuto
/- What one may change of a holding, as plain lists and numbers. -/
set_option maxRecDepth 20000
set_option maxHeartbeats 2000000
namespace Go.Proofs.YtpdggofaobmnlaaGreatDoor
open Go.RowKit
def turnI (t:Int):Int:=if 1000000000<t+1 then 0 else t+1
def Hd.zero:Hd:=⟨[],0,0,0⟩
def Hd.free (h:Hd):Hd:=⟨h.ks,0, -1,h.tu⟩
def Hd.take (h:Hd) (i k:Int):Hd:=⟨h.ks,k,if allI k then-1 else i,h.tu⟩
def Hd.turn (h:Hd):Hd:=⟨h.ks,h.kd,h.ho,turnI h.tu⟩
def Hd.key (h:Hd) (i key:Int):Hd:=⟨h.ks.set i.toNat key,h.kd,h.ho,h.tu⟩
def Hd.regd (h:Hd) (i key:Int):Hd:=if key=0∧(h.ho=i∨anyI (h.ks.set i.toNat key)=false)then((h.key i key).turn).free else(h.key i key).turn
def Hd.register (h:Hd) (i key:Int):Hd×Int:=if h.ok&&inI i 0 3&&inI key 0 9999 then(h.regd i key,0)else(Hd.zero,2)
def Hd.resd (h:Hd) (i k:Int):Hd×Bool:=if regI h.ks i=false then(h,false)else if h.kd=0 then(h.take i k,true)else(h,decide (h.kd=k)&&(allI k||decide (h.ho=i)))
def told (r:Hd×Bool):Hd×Int:=(r.1,if r.2 then 0 else 1)
def Hd.reserve (h:Hd) (i k:Int):Hd×Int:=if h.ok&&inI i 0 3&&kiI k then told (h.resd i k)else(Hd.zero,2)
def Hd.reld (h:Hd) (i:Int):Hd×Bool:=if regI h.ks i=false then(h,false)else if h.holds i then(h.free,true)else(h,true)
def Hd.release (h:Hd) (i:Int):Hd×Int:=if h.ok&&inI i 0 3 then told (h.reld i)else(Hd.zero,2)
def Hd.clrd (h:Hd) (i:Int):Hd×Bool:=if regI h.ks i=false then(h,false)else(⟨[0,0,0,0],0, -1,turnI h.tu⟩,true)
def Hd.clear (h:Hd) (i:Int):Hd×Int:=if h.ok&&inI i 0 3 then told (h.clrd i)else(Hd.zero,2)
def strike (ks:List Int) (i:Nat) (key:Int):Nat→List Int
 |0=>ks
 |j+1=>if j≠i∧ks.getD j 0=key then(strike ks i key j).set j 0 else strike ks i key j
def more (ks:List Int) (i:Nat) (key:Int):Nat→Bool
 |0=>false
 |j+1=>more ks i key j||(decide (j≠i)&&(decide (ks.getD j 0≠key)&&decide (ks.getD j 0≠0)))
def has (ks:List Int) (key:Int):Nat→Bool
 |0=>false
 |j+1=>has ks key j||decide (ks.getD j 0=key)
def Hd.alone (h:Hd) (key:Int):Bool:=decide (h.kd≠0)&&(!allI h.kd&&decide (h.ks.getD h.ho.toNat 0=key))
def Hd.pred (h:Hd) (i key k:Int):Hd×Bool:=
 if(regI h.ks i&&has h.ks key 4)=false then(h,false)else
 if(h.alone key||(allI h.kd&& !more h.ks i.toNat key 4))=true then((Hd.turn ⟨strike h.ks i.toNat key 4,h.kd,h.ho,h.tu⟩).take i k,true)
 else(Hd.turn ⟨strike h.ks i.toNat key 4,h.kd,h.ho,h.tu⟩,true)
theorem strike_len (ks:List Int) (i:Nat) (key:Int) (j:Nat):(strike ks i key j).length=ks.length:=by
 induction j with
 |zero=>rfl
 |succ j ih=>unfold strike;split<;>simp[ih]
theorem strike_at (ks:List Int) (i:Nat) (key:Int) (j m:Nat) (hm:j≤m):(strike ks i key j).getD m 0=ks.getD m 0:=by
 induction j with
 |zero=>rfl
 |succ j ih=>
  have:=ih (by omega)
  unfold strike
  split
  ·rw[←this]
   simp only[List.getD_eq_getElem?_getD]
   rw[List.getElem?_set_ne (by omega)]
  ·exact this
def Hd.preempt (h:Hd) (i key k:Int):Hd×Int:=if h.ok&&inI i 0 3&&inI key 1 9999&&kiI k then told (h.pred i key k)else(Hd.zero,2)
theorem Hd.ok_all {h:Hd} (e:h.ok=true):h.ks.length=4∧(0≤h.tu∧h.tu≤1000000000)∧keysI h.ks=true∧h.mid=true:=by
 unfold Hd.ok at e
 simp only[Bool.and_eq_true,decide_eq_true_eq]at e
 exact⟨e.1.1.1,(inI_iff _ _ _).1 e.1.1.2,e.1.2,e.2⟩
theorem turnI_in (t:Int) (h0:0≤t) (h1:t≤1000000000):0≤turnI t∧turnI t≤1000000000:=by
 unfold turnI;split<;>omega
theorem register_len (h:Hd) (i key:Int):(h.register i key).1.ks.length≤4:=by
 unfold Hd.register
 split
 ·rename_i c
  simp only[Bool.and_eq_true]at c
  have:=(Hd.ok_all c.1.1).1
  unfold Hd.regd
  split<;>simp[Hd.free,Hd.turn,Hd.key,this]
 ·simp[Hd.zero]
theorem told_fst (r:Hd×Bool):(told r).1=r.1:=rfl
theorem reserve_len (h:Hd) (i k:Int):(h.reserve i k).1.ks.length≤4:=by
 unfold Hd.reserve
 split
 ·rename_i c
  simp only[Bool.and_eq_true]at c
  have:=(Hd.ok_all c.1.1).1
  rw[told_fst]
  unfold Hd.resd
  split
  ·simp[this]
  ·split<;>simp[Hd.take,this]
 ·simp[Hd.zero]
theorem release_len (h:Hd) (i:Int):(h.release i).1.ks.length≤4:=by
 unfold Hd.release
 split
 ·rename_i c
  simp only[Bool.and_eq_true]at c
  have:=(Hd.ok_all c.1).1
  rw[told_fst]
  unfold Hd.reld
  split
  ·simp[this]
  ·split<;>simp[Hd.free,this]
 ·simp[Hd.zero]
theorem clear_len (h:Hd) (i:Int):(h.clear i).1.ks.length≤4:=by
 unfold Hd.clear
 split
 ·rename_i c
  simp only[Bool.and_eq_true]at c
  have:=(Hd.ok_all c.1).1
  rw[told_fst]
  unfold Hd.clrd
  split<;>simp[this]
 ·simp[Hd.zero]
theorem preempt_len (h:Hd) (i key k:Int):(h.preempt i key k).1.ks.length≤4:=by
 unfold Hd.preempt
 split
 ·rename_i c
  simp only[Bool.and_eq_true]at c
  have:=(Hd.ok_all c.1.1.1).1
  rw[told_fst]
  unfold Hd.pred
  split
  ·simp[this]
  ·split<;>simp[Hd.take,Hd.turn,strike_len,this]
 ·simp[Hd.zero]
end Go.Proofs.YtpdggofaobmnlaaGreatDoor
namespace Go.Proofs.YtpdggofaobmnlaaGreatDoor
open Go.RowKit
def Hd.keysN (h:Hd):List Int:=h.tu::h.ks.filter (fun k=>decide (k≠0))
def Hd.holdN (h:Hd):List Int:=[h.tu,h.kd,if 0≤h.ho then h.ks.getD h.ho.toNat 0 else 0]
def Hd.showN (h:Hd):List Int:=h.ks++[h.kd,h.ho,h.tu]
def Hd.keysT (h:Hd):Bs:=if h.ok then intsB h.keysN else[]
def Hd.holdT (h:Hd):Bs:=if h.ok then intsB h.holdN else[]
def Hd.showT (h:Hd):Bs:=if h.ok then intsB h.showN else[]
def hdOf (ns:List Int):Hd:=⟨ns.take 4,ns.getD 4 0,ns.getD 5 0,ns.getD 6 0⟩
def readH (s:Bs):Option Hd:=if((splitB 32 s).length=7∧(splitB 32 s).all okT=true)∧(hdOf ((splitB 32 s).map numT)).ok=true then some (hdOf ((splitB 32 s).map numT))else none
def readD (s:Bs):Hd:=(readH s).getD Hd.zero
def readY (s:Bs):Bool:=(readH s).isSome
theorem splitB_appN (c:UInt8) (a r:Bs) (h:∀b∈a,b≠c):splitB c (a++c::r)=a::splitB c r:=by
 induction a with
 |nil=>simp[splitB]
 |cons b a ih=>
  rw[List.cons_append,splitB,if_neg (h b (by simp)),ih (fun x hx=>h x (by simp[hx]))]
  rfl
theorem decI_no32 (x:Int):∀b∈decI x,b≠32:=by
 have hd:∀n,∀b∈dec n,b≠32:=by
  intro n b hb e
  have:=List.all_eq_true.1 (dec_digs n).1 b hb
  rw[e]at this
  exact absurd this (by decide)
 intro b hb
 unfold decI at hb
 split at hb
 ·rcases List.mem_cons.1 hb with rfl|hb
  ·decide
  ·exact hd _ b hb
 ·exact hd _ b hb
theorem splitB_ints (xs:List Int) (h:xs≠[]):splitB 32 (intsB xs)=xs.map decI:=by
 induction xs with
 |nil=>exact absurd rfl h
 |cons x l ih=>
  cases l with
  |nil=>rw[intsB,splitB_word 32 _ (decI_no32 x)];rfl
  |cons y l=>
   rw[intsB,splitB_appN 32 _ _ (decI_no32 x),ih (by simp)]
   rfl
theorem Hd.ok_nums {h:Hd} (e:h.ok=true):∀x∈h.showN, -10000000000<x∧x<10000000000:=by
 obtain⟨hl,ht,hk,hm⟩:=Hd.ok_all e
 intro x hx
 unfold Hd.showN at hx
 rcases List.mem_append.1 hx with hx|hx
 ·have:=List.all_eq_true.1 hk x hx
  have:=(inI_iff _ _ _).1 this
  omega
 ·have hkd: -1≤h.kd∧h.kd≤100∧-1≤h.ho∧h.ho≤3:=by
   unfold Hd.mid at hm
   split at hm
   ·rename_i c
    have:h.ho= -1:=by simpa using hm
    omega
   ·split at hm
    ·rename_i c
     have h1:h.ho= -1:=by simp only[Bool.and_eq_true,decide_eq_true_eq]at hm;exact hm.1
     have:h.kd=5∨h.kd=6:=by simpa[allI]using c
     omega
    ·simp only[Bool.and_eq_true]at hm
     have:=(inI_iff _ _ _).1 (show inI h.kd 1 6=true from hm.1.1)
     have:=(inI_iff _ _ _).1 hm.1.2
     omega
  simp only[List.mem_cons,List.mem_nil_iff,or_false]at hx
  rcases hx with rfl|rfl|rfl<;>omega
theorem hdOf_show {h:Hd} (hl:h.ks.length=4):hdOf h.showN=h:=by
 obtain⟨ks,kd,ho,tu⟩:=h
 dsimp only at hl
 match ks,hl with
 |[a,b,c,d],_=>rfl
theorem map_read (xs:List Int) (h:∀x∈xs, -10000000000<x∧x<10000000000):(xs.map decI).map numT=xs∧(xs.map decI).all okT=true:=by
 constructor
 ·rw[List.map_map]
  conv=>rhs;rw[←List.map_id xs]
  apply List.map_congr_left
  intro x hx
  exact(readT_decI x (h x hx).1 (h x hx).2).2
 ·rw[List.all_eq_true]
  intro b hb
  obtain⟨x,hx,rfl⟩:=List.mem_map.1 hb
  exact(readT_decI x (h x hx).1 (h x hx).2).1
theorem readH_show {h:Hd} (e:h.ok=true):readH (intsB h.showN)=some h:=by
 have hl:=(Hd.ok_all e).1
 have hs:splitB 32 (intsB h.showN)=h.showN.map decI:=splitB_ints _ (by simp[Hd.showN])
 obtain⟨m1,m2⟩:=map_read _ (Hd.ok_nums e)
 unfold readH
 rw[hs,m1,hdOf_show hl]
 rw[if_pos]
 refine⟨⟨?_,m2⟩,e⟩
 rw[List.length_map]
 simp[Hd.showN,hl]
theorem showH_read {s:Bs} {h:Hd} (e:readH s=some h):h.ok=true∧intsB h.showN=s:=by
 unfold readH at e
 split at e
 ·rename_i c
  obtain⟨⟨c1,c2⟩,c3⟩:=c
  simp only[Option.some.injEq]at e
  rw[e]at c3
  refine⟨c3,?_⟩
  have hj:=joinB_split 32 s
  obtain⟨ws,hws⟩:∃ws,ws=splitB 32 s:=⟨_,rfl⟩
  rw[←hws]at c1 c2 e hj
  have hm:h.showN=ws.map numT:=by
   rw[←e]
   match ws,c1 with
   |[a,b,c,d,x,y,z],_=>rfl
  rw[hm,←join_ints,List.map_map]
  have:ws.map (decI∘numT)=ws:=by
   conv=>rhs;rw[←List.map_id ws]
   apply List.map_congr_left
   intro b hb
   exact readT_back b (List.all_eq_true.1 c2 b hb)
  rw[this,hj]
 ·cases e
theorem readD_len (s:Bs):(readD s).ks.length≤4:=by
 unfold readD
 cases h:readH s with
 |none=>simp[Hd.zero]
 |some g=>
  have:=(Hd.ok_all (showH_read h).1).1
  simp;omega
end Go.Proofs.YtpdggofaobmnlaaGreatDoor
namespace Go.Proofs.YtpdggofaobmnlaaGreatDoor
open Go.ChangeShapes Go.WideShapes Go.ChangeAt Go.RowKit
def srA (a b k:Value) (h:Hd):Array Value:=#[a,b,k,.int .i64 h.kd,.int .i64 h.ho,.int .i64 h.tu]
def SRV (a b k:Value) (h:Hd):Value:=.agg (srA a b k h)
structure Sr where
 xs:List Int
 ys:List Int
 h:Hd
def Sr.zero:Sr:=⟨[],[],Hd.zero⟩
def Sr.ok (s:Sr):Bool:=bothOk s.xs s.ys&&s.h.ok
def newS (n:Int):Sr:=if decide (1≤n)&&decide (n≤8)then⟨zerosI n,zerosI n,Hd.new⟩else Sr.zero
def conf (r:Hd×Bool):Hd×An:=(r.1,if r.2 then⟨0,[]⟩else⟨3,[]⟩)
def Hd.act (h:Hd) (who:Int) (c:Cm):Hd×An:=
 if c.o=6 then(h.regd who c.a,⟨0,[]⟩)
 else if c.o=7 then conf (h.resd who c.k)
 else if c.o=8 then conf (h.reld who)
 else if c.o=9 then conf (h.clrd who)
 else if c.o=10 then(if c.a=0 then(h,⟨1,[]⟩)else conf (h.pred who c.a c.k))
 else if c.o=11 then(h,⟨0,h.keysT⟩)
 else(h,⟨0,h.holdT⟩)
def Sr.doing (s:Sr) (who:Int) (c:Cm):Sr×An:=
 if 5<c.o then(⟨s.xs,s.ys,(s.h.act who c).1⟩,(s.h.act who c).2)
 else if s.h.may who (decide (c.o≠1))then(⟨(didI s.xs s.ys c).1,(didI s.xs s.ys c).2.1,s.h⟩,(didI s.xs s.ys c).2.2)
 else(s,⟨3,[]⟩)
def Sr.did (s:Sr) (who:Int) (c:Cm):Sr×An:=
 if s.ok then(if inI who 0 3&&c.ok then s.doing who c else(s,⟨7,[]⟩))else(Sr.zero,⟨7,[]⟩)
def Sr.power (s:Sr) (set:Int):Sr:=
 if s.ok then(if setOk set then⟨chosenUp s.xs s.ys set 8 s.xs.length,chosenUp s.xs s.ys set 8 s.xs.length,s.h⟩else s)else Sr.zero
def Hd.eqB (a b:Hd):Bool:=decide (a.ks=b.ks)&&decide (a.kd=b.kd)&&decide (a.ho=b.ho)&&decide (a.tu=b.tu)
def Sr.alike (s t:Sr):Bool:=s.ok&&t.ok&&(decide (s.xs=t.xs)&&decide (s.ys=t.ys)&&s.h.eqB t.h)
end Go.Proofs.YtpdggofaobmnlaaGreatDoor
namespace Go.Proofs.YtpdggofaobmnlaaGreatDoor
open Go.ChangeShapes Go.WideShapes Go.ChangeAt Go.RowKit
theorem Tryz.isR:IsS 30 6:=⟨⟨_,Tryz.underlying30⟩,by kernel_rfl⟩
def OwnR (w:World) (base:Nat) (a b k:Value) (xs ys ks:List Int):Prop:=OwnD w base a b xs ys∧Own w base k ks∧apart a k∧apart b k
def zeR:Array Value:=#[.slice none 0 0,.slice none 0 0,.slice none 0 0,.int .i64 0,.int .i64 0,.int .i64 0]
theorem srA_one {a b k:Value} (h:Hd) (ha:a.oneCell'=true) (hb:b.oneCell'=true) (hk:k.oneCell'=true):(srA a b k h).all (·.oneCell')=true:=by
 unfold srA
 simp[ha,hb,hk,show∀k n,(Value.int k n).oneCell'=true from fun _ _=>rfl]
theorem OwnR.below {w w':World} {base:Nat} {a b k:Value} {xs ys ks:List Int} (h:OwnR w base a b k xs ys ks) (e:Below w.heap.size w w'):OwnR w' base a b k xs ys ks:=
 ⟨⟨h.1.1.below e,h.1.2.1.below e,h.1.2.2⟩,h.2.1.below e,h.2.2⟩
theorem OwnR.mono {w:World} {base base':Nat} {a b k:Value} {xs ys ks:List Int} (h:OwnR w base a b k xs ys ks) (e:base'≤base):OwnR w base' a b k xs ys ks:=
 ⟨⟨h.1.1.mono e,h.1.2.1.mono e,h.1.2.2⟩,h.2.1.mono e,h.2.2⟩
theorem OwnR.keptLt {w w':World} {base g:Nat} {a b k:Value} {xs ys ks:List Int} (h:OwnR w base a b k xs ys ks) (e:w.grownBy w' (some g)) (hg:g<base):OwnR w' base a b k xs ys ks:=
 ⟨⟨h.1.1.keptLt e hg,h.1.2.1.keptLt e hg,h.1.2.2⟩,h.2.1.keptLt e hg,h.2.2⟩
theorem OwnR.nil (w:World) (base:Nat):OwnR w base (.slice none 0 0) (.slice none 0 0) (.slice none 0 0) [] [] []:=
 ⟨⟨Own.nil w base,Own.nil w base,⟨.inl rfl,.inl rfl⟩⟩,Own.nil w base,⟨.inl rfl,.inl rfl⟩,⟨.inl rfl,.inl rfl⟩⟩
theorem szStore_any (u v q:Value) (xs ys:List Int) (h:Hd) (k:Int) (w:World) (hu:Reads w u xs) (hv:Reads w v ys) (hq:Reads w q h.ks) (h0:0≤k) (h1:k≤1048576):
  Calls Tryz.prog 20 #[SRV u v q h,.int .i64 k] w fun e w'=>e=.returned (.int .i64 (szI k (xs.length+ys.length+h.ks.length)))∧Below w.heap.size w w':=by
 have B1:Hid (Below w.heap.size w (w.alloc (.cells (srA u v q h) 52))):=(Below.refl _ _).alloc (Nat.le_refl _) _
 have P1:Hid (StB (w.alloc (.cells (srA u v q h) 52)) w.heap.size 52 (srA u v q h)):=StB.new _ _ _
 have c1:=szDisk_any u v xs ys k _ (hu.below B1.out (Nat.le_refl _)) (hv.below B1.out (Nat.le_refl _)) h0 h1
 by_cases hx:((xs.length+ys.length:Nat):Int)≤k
 ·have e1:szI k (xs.length+ys.length)=k-(xs.length+ys.length:Nat):=by simp only[szI];rw[if_pos hx]
  have c2:=fun wx (b:Below w.heap.size w wx)=>szHolding_any q h (k-(xs.length+ys.length:Nat)) wx (hq.below b (Nat.le_refl _)) (by omega) (by omega)
  have e2:szI (k-(xs.length+ys.length:Nat)) h.ks.length=szI k (xs.length+ys.length+h.ks.length):=by
   simp only[szI]
   by_cases hk:(h.ks.length:Int)≤k-(xs.length+ys.length:Nat)
   ·rw[if_pos hk,if_pos (by omega)];omega
   ·rw[if_neg hk,if_neg (by omega)]
  rw[e1]at c1
  rw[e2]at c2
  have hs:szI k (xs.length+ys.length+h.ks.length)= -1∨0≤szI k (xs.length+ys.length+h.ks.length):=by unfold szI;split<;>omega
  obtain⟨x,hx'⟩:∃x,x=szI k (xs.length+ys.length+h.ks.length):=⟨_,rfl⟩
  rw[←hx']at c2 hs⊢
  obtain⟨m,hm⟩:∃m:Int,m=k-(xs.length+ys.length:Nat):=⟨_,rfl⟩
  rw[←hm]at c1 c2
  have m0:0≤m:=by omega
  obtain⟨uo,uc,rfl⟩:=reads_form hu
  obtain⟨vo,vc,rfl⟩:=reads_form hv
  obtain⟨qo,qc,rfl⟩:=reads_form hq
  have C2:Hid _:=c2
  clear c2 hx' hm hu hv hq e1 e2 hx
  unfold SRV srA at*
  unfold HV hdA at C2
  rcases hs with hs|hs
  ·subst hs
   go_enter Tryz.func20,Tryz.ntmps20
   go_wp2_with fail
   refine c1.mono ?_
   rintro e w2 ⟨rfl,b2⟩
   have B2:Hid (Below w.heap.size w w2):=B1.out.trans (b2.mono B1.out.size)
   have P2:=P1.out.below b2
   have k2:=P2.cell 2 rfl
   have k3:=P2.cell 3 rfl
   have k4:=P2.cell 4 rfl
   have k5:=P2.cell 5 rfl
   clear b2 c1 B1 P1 P2
   go_wp2_with fail
   refine(C2.out _ B2.out).mono ?_
   rintro e w3 ⟨rfl,b3⟩
   have B3:Hid (Below w.heap.size w w3):=B2.out.trans (b3.mono B2.out.size)
   clear b3 k2 k3 k4 k5
   go_wp2
   go_ret
   exact⟨rfl,B3.out⟩
  ·go_enter Tryz.func20,Tryz.ntmps20
   go_wp2_with fail
   refine c1.mono ?_
   rintro e w2 ⟨rfl,b2⟩
   have B2:Hid (Below w.heap.size w w2):=B1.out.trans (b2.mono B1.out.size)
   have P2:=P1.out.below b2
   have k2:=P2.cell 2 rfl
   have k3:=P2.cell 3 rfl
   have k4:=P2.cell 4 rfl
   have k5:=P2.cell 5 rfl
   clear b2 c1 B1 P1 P2
   go_wp2_with fail
   refine(C2.out _ B2.out).mono ?_
   rintro e w3 ⟨rfl,b3⟩
   have B3:Hid (Below w.heap.size w w3):=B2.out.trans (b3.mono B2.out.size)
   clear b3 k2 k3 k4 k5
   go_wp2
   go_ret
   exact⟨rfl,B3.out⟩
 ·have e1:szI k (xs.length+ys.length)= -1:=by simp only[szI];rw[if_neg hx]
  have e2:szI k (xs.length+ys.length+h.ks.length)= -1:=by simp only[szI];rw[if_neg (by omega)]
  rw[e1]at c1
  rw[e2]
  obtain⟨uo,uc,rfl⟩:=reads_form hu
  obtain⟨vo,vc,rfl⟩:=reads_form hv
  obtain⟨qo,qc,rfl⟩:=reads_form hq
  clear hu hv hq e1 e2 hx
  unfold SRV srA at*
  go_enter Tryz.func20,Tryz.ntmps20
  go_wp2_with fail
  refine c1.mono ?_
  rintro e w2 ⟨rfl,b2⟩
  have B2:Hid (Below w.heap.size w w2):=B1.out.trans (b2.mono B1.out.size)
  clear b2 c1 B1 P1
  go_wp2
  go_ret
  exact⟨rfl,B2.out⟩
end Go.Proofs.YtpdggofaobmnlaaGreatDoor
namespace Go.Proofs.YtpdggofaobmnlaaGreatDoor
open Go.ChangeShapes Go.WideShapes Go.ChangeAt Go.RowKit
theorem toStore_any (u v q:Value) (xs ys:List Int) (h:Hd) (w:World) (hu:Reads w u xs) (hv:Reads w v ys) (hq:Reads w q h.ks) (gx:xs.length≤1099511627776) (gy:ys.length≤1099511627776) (gk:h.ks.length≤1099511627776):
  Calls Tryz.prog 21 #[SRV u v q h] w fun e w'=>∃a b k,e=.returned (SRV a b k h)∧OwnR w' w.heap.size a b k xs ys h.ks∧Below w.heap.size w w':=by
 obtain⟨w1,hw1⟩:∃w1,w1=((w.alloc (.cells (srA u v q h) 52)).alloc (.cells zeR 30)).alloc (.cells zeR 30):=⟨_,rfl⟩
 have b1:Below w.heap.size w w1:=by rw[hw1];exact(((Below.refl _ _).alloc (Nat.le_refl _) _).alloc (by simp) _).alloc (by simp;omega) _
 have S1:Hid (StB w1 w.heap.size 52 (srA u v q h)∧StB w1 (w.heap.size+1) 30 zeR∧StB w1 (w.heap.size+1+1) 30 zeR∧Below w.heap.size w w1∧w.heap.size+3≤w1.heap.size):=by
  have a2:=StB.new (w.alloc (.cells (srA u v q h) 52)) 30 zeR
  have a3:=StB.new ((w.alloc (.cells (srA u v q h) 52)).alloc (.cells zeR 30)) 30 zeR
  simp only[World.size_alloc]at a2 a3
  refine⟨?_,?_,?_,b1,by rw[hw1];simp⟩
  ·rw[hw1];exact((StB.new w _ _).alloc _).alloc _
  ·rw[hw1];exact a2.alloc _
  ·rw[hw1];exact a3
 have c1:=toDisk_any u v xs ys w1 (hu.below b1 (Nat.le_refl _)) (hv.below b1 (Nat.le_refl _)) gx gy
 have c2:Hid (∀wx,Below w.heap.size w wx→Calls Tryz.prog 56 #[HV q h] wx fun e w'=>∃u,e=.returned (HV u h)∧Own w' wx.heap.size u h.ks∧Below wx.heap.size wx w'):=fun wx b=>toHolding_any q h wx (hq.below b (Nat.le_refl _)) gk
 obtain⟨uo,uc,rfl⟩:=reads_form hu
 obtain⟨vo,vc,rfl⟩:=reads_form hv
 obtain⟨qo,qc,rfl⟩:=reads_form hq
 clear b1 hu hv hq gx gy gk
 unfold SRV srA zeR at*
 unfold HV hdA at c2
 go_enter Tryz.func21,Tryz.ntmps21
 go_upto_region 2 with fail
 rw[←hw1]
 clear hw1
 have k0:=S1.out.1.cell 0 rfl
 have k1:=S1.out.1.cell 1 rfl
 go_wp2_with fail
 refine c1.mono ?_
 rintro e w2 ⟨a,b,rfl,o2,b2⟩
 obtain⟨ao,ac,rfl⟩:=o2.1.reads.form
 obtain⟨bo,bc,rfl⟩:=o2.2.1.reads.form
 have S2:Hid (StB w2 w.heap.size 52 _∧StB w2 (w.heap.size+1) 30 _∧StB w2 (w.heap.size+1+1) 30 _∧Below w.heap.size w w2∧w.heap.size+3≤w2.heap.size):=⟨S1.out.1.below b2,S1.out.2.1.below b2,S1.out.2.2.1.below b2,S1.out.2.2.2.1.trans (b2.mono S1.out.2.2.2.1.size),Nat.le_trans S1.out.2.2.2.2 b2.size⟩
 have O2:Hid (OwnD w2 (w.heap.size+3) _ _ xs ys):=⟨o2.1.mono S1.out.2.2.2.2,o2.2.1.mono S1.out.2.2.2.2,o2.2.2⟩
 have m0:=S2.out.2.2.1.cell 0 rfl
 have m1:=S2.out.2.2.1.cell 1 rfl
 have f0:=S2.out.2.2.1.frozen 0
 have f1:=S2.out.2.2.1.frozen 1
 clear S1 o2 b2 c1 k0 k1
 go_upto_region 3 with fail
 obtain⟨w3,hw3⟩:∃w3,w3=(w2.setCell ⟨w.heap.size+1+1,0,none⟩ (.slice ao xs.length ac)).setCell ⟨w.heap.size+1+1,1,none⟩ (.slice bo ys.length bc):=⟨_,rfl⟩
 rw[←hw3]
 have G3:w2.grownBy w3 (some (w.heap.size+1+1)):=by rw[hw3];exact(grownSet _ _ _ _).trans (grownSet _ _ _ _)
 have S3:Hid (StB w3 w.heap.size 52 _∧StB w3 (w.heap.size+1) 30 _∧StB w3 (w.heap.size+1+1) 30 #[.slice ao xs.length ac,.slice bo ys.length bc,.slice none 0 0,.int .i64 0,.int .i64 0,.int .i64 0]∧Below w.heap.size w w3∧w.heap.size+3≤w3.heap.size):=
  ⟨S2.out.1.kept G3 (by simp;omega),S2.out.2.1.kept G3 (by simp),by rw[hw3];exact(S2.out.2.2.1.put 0 _ rfl).put 1 _ rfl,S2.out.2.2.2.1.grown G3 S2.out.2.2.2.1.size (fun k e=>by cases e;omega),Nat.le_trans S2.out.2.2.2.2 G3.size⟩
 have O3:Hid (OwnD w3 (w.heap.size+3) _ _ xs ys):=⟨O2.out.1.keptLt G3 (by omega),O2.out.2.1.keptLt G3 (by omega),O2.out.2.2⟩
 clear S2 O2 G3 hw3 m0 m1 f0 f1
 have k2:=S3.out.1.cell 2 rfl
 have k3:=S3.out.1.cell 3 rfl
 have k4:=S3.out.1.cell 4 rfl
 have k5:=S3.out.1.cell 5 rfl
 go_wp2_with fail
 refine(c2.out w3 S3.out.2.2.2.1).mono ?_
 rintro e w4 ⟨z,rfl,o4,b4⟩
 have hap:Hid (apart (.slice ao xs.length ac) z∧apart (.slice bo ys.length bc) z):=⟨apart_of O3.out.1 o4 (Nat.le_refl _),apart_of O3.out.2.1 o4 (Nat.le_refl _)⟩
 obtain⟨zo,zc,rfl⟩:=o4.reads.form
 have S4:Hid (StB w4 (w.heap.size+1) 30 _∧StB w4 (w.heap.size+1+1) 30 #[.slice ao xs.length ac,.slice bo ys.length bc,.slice none 0 0,.int .i64 0,.int .i64 0,.int .i64 0]∧Below w.heap.size w w4∧w.heap.size+3≤w4.heap.size):=⟨S3.out.2.1.below b4,S3.out.2.2.1.below b4,S3.out.2.2.2.1.trans (b4.mono S3.out.2.2.2.1.size),Nat.le_trans S3.out.2.2.2.2 b4.size⟩
 have O4:Hid (OwnR w4 (w.heap.size+3) (.slice ao xs.length ac) (.slice bo ys.length bc) (.slice zo h.ks.length zc) xs ys h.ks):=⟨⟨O3.out.1.below b4,O3.out.2.1.below b4,O3.out.2.2⟩,o4.mono S3.out.2.2.2.2,hap.out⟩
 have m2:=S4.out.2.1.cell 2 rfl
 have m3:=S4.out.2.1.cell 3 rfl
 have m4:=S4.out.2.1.cell 4 rfl
 have m5:=S4.out.2.1.cell 5 rfl
 have f2:=S4.out.2.1.frozen 2
 have f3:=S4.out.2.1.frozen 3
 have f4:=S4.out.2.1.frozen 4
 have f5:=S4.out.2.1.frozen 5
 clear S3 O3 o4 b4 c2 k2 k3 k4 k5 hap
 go_upto_region 4 with fail
 obtain⟨w5,hw5⟩:∃w5,w5=(((w4.setCell ⟨w.heap.size+1+1,2,none⟩ (.slice zo h.ks.length zc)).setCell ⟨w.heap.size+1+1,3,none⟩ (.int .i64 h.kd)).setCell ⟨w.heap.size+1+1,4,none⟩ (.int .i64 h.ho)).setCell ⟨w.heap.size+1+1,5,none⟩ (.int .i64 h.tu):=⟨_,rfl⟩
 rw[←hw5]
 have G5:w4.grownBy w5 (some (w.heap.size+1+1)):=by rw[hw5];exact(((grownSet _ _ _ _).trans (grownSet _ _ _ _)).trans (grownSet _ _ _ _)).trans (grownSet _ _ _ _)
 have S5:Hid (StB w5 (w.heap.size+1) 30 zeR∧StB w5 (w.heap.size+1+1) 30 (srA (.slice ao xs.length ac) (.slice bo ys.length bc) (.slice zo h.ks.length zc) h)∧Below w.heap.size w w5∧w.heap.size+3≤w5.heap.size):=
  ⟨S4.out.1.kept G5 (by simp),by rw[hw5];exact(((S4.out.2.1.put 2 _ rfl).put 3 _ rfl).put 4 _ rfl).put 5 _ rfl,S4.out.2.2.1.grown G5 S4.out.2.2.1.size (fun k e=>by cases e;omega),Nat.le_trans S4.out.2.2.2 G5.size⟩
 have O5:Hid (OwnR w5 (w.heap.size+3) (.slice ao xs.length ac) (.slice bo ys.length bc) (.slice zo h.ks.length zc) xs ys h.ks):=O4.out.keptLt G5 (by omega)
 clear S4 O4 G5 hw5 m2 m3 m4 m5 f2 f3 f4 f5
 go_wp2_with (first|(refine wpList_getS Tryz.isR rfl _ rfl (w.heap.size+1+1) rfl _ rfl S5.out.2.1 ?_)|(refine wpList_putS Tryz.isR rfl _ _ rfl (w.heap.size+1) _ zeR rfl rfl rfl rfl (srA_one h rfl rfl rfl) S5.out.1 ?_;intro w6 s6 g6))
 refine bodyPost_ret (results_S Tryz.isR rfl _ _ (w.heap.size+1) _ rfl rfl s6) rfl ?_
 exact⟨_,_,_,rfl,(O5.out.keptLt g6 (by omega)).mono (by omega),S5.out.2.2.1.grown g6 S5.out.2.2.1.size (fun k e=>by cases e;omega)⟩
theorem eqStore_any (u v q a b k:Value) (xs ys:List Int) (h:Hd) (w:World) (hu:Reads w u xs) (hv:Reads w v ys) (hq:Reads w q h.ks) (ha:Reads w a xs) (hb:Reads w b ys) (hk:Reads w k h.ks) (gx:xs.length≤1099511627776) (gy:ys.length≤1099511627776) (gk:h.ks.length≤1099511627776):
  Calls Tryz.prog 23 #[SRV u v q h,SRV a b k h] w fun e w'=>e=.returned (.bool true)∧Below w.heap.size w w':=by
 obtain⟨w1,hw1⟩:∃w1,w1=(w.alloc (.cells (srA u v q h) 30)).alloc (.cells (srA a b k h) 30):=⟨_,rfl⟩
 have b1:Below w.heap.size w w1:=by rw[hw1];exact((Below.refl _ _).alloc (Nat.le_refl _) _).alloc (by simp) _
 have S1:Hid (StB w1 w.heap.size 30 (srA u v q h)∧StB w1 (w.heap.size+1) 30 (srA a b k h)∧Below w.heap.size w w1):=by
  have a2:=StB.new (w.alloc (.cells (srA u v q h) 30)) 30 (srA a b k h)
  simp only[World.size_alloc]at a2
  exact⟨by rw[hw1];exact(StB.new w _ _).alloc _,by rw[hw1];exact a2,b1⟩
 have c1:=eqDisk_any u v a b xs ys w1 (hu.below b1 (Nat.le_refl _)) (hv.below b1 (Nat.le_refl _)) (ha.below b1 (Nat.le_refl _)) (hb.below b1 (Nat.le_refl _)) gx gy
 have c2:Hid (∀wx,Below w.heap.size w wx→Calls Tryz.prog 58 #[HV q h,HV k h] wx fun e w'=>e=.returned (.bool true)∧Below wx.heap.size wx w'):=fun wx e=>eqHolding_any q k h wx (hq.below e (Nat.le_refl _)) (hk.below e (Nat.le_refl _)) gk
 obtain⟨uo,uc,rfl⟩:=reads_form hu
 obtain⟨vo,vc,rfl⟩:=reads_form hv
 obtain⟨qo,qc,rfl⟩:=reads_form hq
 obtain⟨ao,ac,rfl⟩:=reads_form ha
 obtain⟨bo,bc,rfl⟩:=reads_form hb
 obtain⟨ko,kc,rfl⟩:=reads_form hk
 clear b1 hu hv hq ha hb hk gx gy gk
 unfold SRV srA at*
 unfold HV hdA at c2
 go_enter Tryz.func23,Tryz.ntmps23
 go_upto_region 1 with fail
 rw[←hw1]
 clear hw1
 have k0:=S1.out.1.cell 0 rfl
 have k1:=S1.out.1.cell 1 rfl
 have l0:=S1.out.2.1.cell 0 rfl
 have l1:=S1.out.2.1.cell 1 rfl
 go_wp2_with fail
 refine c1.mono ?_
 rintro e w2 ⟨rfl,b2⟩
 have S2:Hid (StB w2 w.heap.size 30 _∧StB w2 (w.heap.size+1) 30 _∧Below w.heap.size w w2):=⟨S1.out.1.below b2,S1.out.2.1.below b2,S1.out.2.2.trans (b2.mono S1.out.2.2.size)⟩
 clear S1 c1 b2 k0 k1 l0 l1
 have k2:=S2.out.1.cell 2 rfl
 have k3:=S2.out.1.cell 3 rfl
 have k4:=S2.out.1.cell 4 rfl
 have k5:=S2.out.1.cell 5 rfl
 have l2:=S2.out.2.1.cell 2 rfl
 have l3:=S2.out.2.1.cell 3 rfl
 have l4:=S2.out.2.1.cell 4 rfl
 have l5:=S2.out.2.1.cell 5 rfl
 go_wp2_with fail
 refine(c2.out w2 S2.out.2.2).mono ?_
 rintro e w3 ⟨rfl,b3⟩
 have B3:Hid (Below w.heap.size w w3):=S2.out.2.2.trans (b3.mono S2.out.2.2.size)
 clear S2 c2 b3 k2 k3 k4 k5 l2 l3 l4 l5
 go_wp2
 go_ret
 exact⟨rfl,B3.out⟩
def Marked3 (w w':World) (u v q:Value):Prop:=∃w1,Marked w w1 u v∧w1.grownBy w' q.ownBlock
theorem markStore_any (u v q:Value) (xs ys:List Int) (h:Hd) (k:Int) (w:World) (base:Nat) (ho:OwnR w base u v q xs ys h.ks) (gx:xs.length≤1048576) (gy:ys.length≤1048576) (gk:h.ks.length≤1048576) (h0:0≤k) (h1:k+xs.length+ys.length≤4194304) (h2:k≤1048576):
  Calls Tryz.prog 25 #[SRV u v q h,.int .i64 k] w fun e w'=>e=.returned (.int .i64 (k+xs.length+ys.length+h.ks.length))∧OwnR w' base u v q (marks k xs.length) (marks (k+xs.length) ys.length) (marks (k+xs.length+ys.length) h.ks.length)∧Marked3 w w' u v q:=by
 obtain⟨w1,hw1⟩:∃w1,w1=w.alloc (.cells (srA u v q h) 30):=⟨_,rfl⟩
 have b1:Below w.heap.size w w1:=by rw[hw1];exact(Below.refl _ _).alloc (Nat.le_refl _) _
 have S1:Hid (StB w1 w.heap.size 30 (srA u v q h)):=by rw[hw1];exact StB.new _ _ _
 have O1:Hid (OwnR w1 base u v q xs ys h.ks∧(∀row,w.grownBy w1 row)∧(∀j,(u.ownBlock=some j→j<w.heap.size)∧(v.ownBlock=some j→j<w.heap.size)∧(q.ownBlock=some j→j<w.heap.size))):=
  ⟨ho.below b1,fun row=>by rw[hw1];exact grown_alloc w _ _,fun j=>⟨fun e=>(ho.1.1.lt _ e).2,fun e=>(ho.1.2.1.lt _ e).2,fun e=>(ho.2.1.lt _ e).2⟩⟩
 have c1:=markDisk_any u v xs ys k w1 base O1.out.1.1 gx gy h0 (by omega)
 obtain⟨uo,uc,rfl⟩:=reads_form ho.1.1.reads
 obtain⟨vo,vc,rfl⟩:=reads_form ho.1.2.1.reads
 obtain⟨qo,qc,rfl⟩:=reads_form ho.2.1.reads
 have hm:Hid (k+xs.length+ys.length≤4194304∧0≤k∧h.ks.length≤1048576):=⟨h1,h0,gk⟩
 clear ho b1 gx gy gk h0 h1 h2
 unfold SRV srA at*
 go_enter Tryz.func25,Tryz.ntmps25
 go_upto_region 1 with fail
 rw[←hw1]
 clear hw1
 have k0:=S1.out.cell 0 rfl
 have k1:=S1.out.cell 1 rfl
 go_wp2_with fail
 refine c1.mono ?_
 rintro e w2 ⟨rfl,o2,g2⟩
 have S2:Hid (StB w2 w.heap.size 30 #[.slice uo xs.length uc,.slice vo ys.length vc,.slice qo h.ks.length qc,.int .i64 h.kd,.int .i64 h.ho,.int .i64 h.tu]):=by
  obtain⟨wa,ga,gb⟩:=g2
  exact(S1.out.kept ga (by intro e;have:=(O1.out.2.2 _).1 e.symm;omega)).kept gb (by intro e;have:=(O1.out.2.2 _).2.1 e.symm;omega)
 have q2:Hid (Own w2 base (.slice qo h.ks.length qc) h.ks):=O1.out.1.2.1.marked g2 O1.out.1.2.2.1.2 O1.out.1.2.2.2.2
 have M2:Hid (Marked w w2 (.slice uo xs.length uc) (.slice vo ys.length vc)):=by
  obtain⟨wa,ga,gb⟩:=g2
  exact⟨wa,(O1.out.2.1 _).trans ga,gb⟩
 have O2:Hid (OwnD w2 base (.slice uo xs.length uc) (.slice vo ys.length vc) (marks k xs.length) (marks (k+xs.length) ys.length)):=o2
 have A2:Hid (apart (.slice uo xs.length uc) (.slice qo h.ks.length qc)∧apart (.slice vo ys.length vc) (.slice qo h.ks.length qc)):=O1.out.1.2.2
 have c2:=markHolding_any (.slice qo h.ks.length qc) h (k+xs.length+ys.length) w2 base q2.out hm.out.2.2 (by have:=hm.out;omega) (by have:=hm.out;omega)
 unfold HV hdA at c2
 clear o2 g2 c1 k0 k1 S1 O1 q2
 have k2:=S2.out.cell 2 rfl
 have k3:=S2.out.cell 3 rfl
 have k4:=S2.out.cell 4 rfl
 have k5:=S2.out.cell 5 rfl
 clear S2
 go_wp2_with fail
 refine c2.mono ?_
 rintro e w3 ⟨rfl,o3,g3⟩
 have HC:Hid (OwnR w3 base (.slice uo xs.length uc) (.slice vo ys.length vc) (.slice qo h.ks.length qc) (marks k xs.length) (marks (k+xs.length) ys.length) (marks (k+xs.length+ys.length) h.ks.length)∧Marked3 w w3 (.slice uo xs.length uc) (.slice vo ys.length vc) (.slice qo h.ks.length qc)):=
  ⟨⟨⟨O2.out.1.kept g3 A2.out.1.1,O2.out.2.1.kept g3 A2.out.2.1,O2.out.2.2⟩,o3,A2.out⟩,w2,M2.out,g3⟩
 clear o3 g3 M2 O2 A2 c2 k2 k3 k4 k5
 go_wp2
 go_ret
 exact⟨rfl,HC.out⟩
theorem heldStore_any (u v q:Value) (h:Hd) (n m r:Nat) (k:Int) (w:World) (hr:r=h.ks.length) (hu:Reads w u (marks k n)) (hv:Reads w v (marks (k+n) m)) (hq:Reads w q (marks (k+n+m) r)) (gx:n≤1048576) (gy:m≤1048576) (gk:r≤1048576) (h0:0≤k) (h1:k+n+m≤4194304) (h2:k≤1048576):
  Calls Tryz.prog 26 #[SRV u v q h,.int .i64 k] w fun e w'=>e=.returned (.int .i64 (k+n+m+r))∧Below w.heap.size w w':=by
 have b1:Hid (Below w.heap.size w (w.alloc (.cells (srA u v q h) 30))):=(Below.refl _ _).alloc (Nat.le_refl _) _
 have S1:Hid (StB (w.alloc (.cells (srA u v q h) 30)) w.heap.size 30 (srA u v q h)):=StB.new _ _ _
 have c1:=heldDisk_any u v n m k _ (hu.below b1.out (Nat.le_refl _)) (hv.below b1.out (Nat.le_refl _)) gx gy h0 (by omega)
 have c2:Hid (∀wx,Below w.heap.size w wx→Calls Tryz.prog 62 #[HV q h,.int .i64 (k+n+m)] wx fun e w'=>e=.returned (.int .i64 (k+n+m+r))∧Below wx.heap.size wx w'):=fun wx b=>heldHolding_any q h r (k+n+m) wx hr (hq.below b (Nat.le_refl _)) gk (by omega) (by omega)
 have hp:(0:Int)≤k+n+m:=by omega
 have hp2:(0:Int)≤k+n+m+r:=by omega
 obtain⟨uo,uc,rfl⟩:=reads_form hu
 obtain⟨vo,vc,rfl⟩:=reads_form hv
 obtain⟨qo,qc,rfl⟩:=reads_form hq
 obtain⟨K,hK⟩:∃K:Int,K=k+n+m:=⟨_,rfl⟩
 rw[←hK]at b1 S1 c1 c2 hp hp2⊢
 obtain⟨R,hR⟩:∃R:Int,R=K+r:=⟨_,rfl⟩
 rw[←hR]at c2 hp2⊢
 clear hu hv hq hr gx gy gk h0 h1 h2 hK hR
 unfold SRV srA at*
 unfold HV hdA at c2
 go_enter Tryz.func26,Tryz.ntmps26
 go_wp2_with fail
 refine c1.mono ?_
 rintro e w2 ⟨rfl,b2⟩
 have B2:Hid (Below w.heap.size w w2):=b1.out.trans (b2.mono b1.out.size)
 have S2:=S1.out.below b2
 have k2:=S2.cell 2 rfl
 have k3:=S2.cell 3 rfl
 have k4:=S2.cell 4 rfl
 have k5:=S2.cell 5 rfl
 clear b2 c1 b1 S1 S2
 go_wp2_with fail
 refine(c2.out _ B2.out).mono ?_
 rintro e w3 ⟨rfl,b3⟩
 have B3:Hid (Below w.heap.size w w3):=B2.out.trans (b3.mono B2.out.size)
 clear b3 k2 k3 k4 k5 c2
 go_wp2
 go_ret
 exact⟨rfl,B3.out⟩
end Go.Proofs.YtpdggofaobmnlaaGreatDoor
