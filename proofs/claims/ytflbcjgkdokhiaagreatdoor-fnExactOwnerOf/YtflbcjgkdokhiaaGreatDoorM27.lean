/- What stands while a sink is answered. -/
import Derived.Test.YtflbcjgkdokhiaaGreatDoorM12
import Derived.Test.YtflbcjgkdokhiaaGreatDoorM16
import Derived.OwnWalk
import Derived.Test.YtflbcjgkdokhiaaGreatDoorM26
import Derived.Test.YtflbcjgkdokhiaaGreatDoorM21
import Derived.Test.YtflbcjgkdokhiaaGreatDoorM11
import Derived.Test.YtflbcjgkdokhiaaGreatDoorM1
import Derived.Shelf.Strconv.Itoa0
import Derived.Shelf.Strconv.Itoa1
import Derived.Shelf.LaysM
import Derived.Shelf.Strconv.Itoa2
import Derived.Shelf.Strconv.Itoa3
import Derived.Shelf.Strconv.Itoa4
import Derived.Shelf.Strconv.Clone
import Derived.Shelf.Strings.Search1
import Derived.Shelf.Strings.Search2
import Derived.Shelf.Strings.Search3
import Derived.Shelf.Strings.Cut
import Derived.Shelf.Strings.Count
import Derived.Shelf.Strings.Shaped
import Derived.Shelf.Unicode.DecodeSlow
import Derived.Test.YtflbcjgkdokhiaaGreatDoorProg
namespace Go.Proofs.YtflbcjgkdokhiaaGreatDoor
open Go.ChangeShapes Go.WideShapes Go.ChangeAt Go.RowKit
structure SoS (w wx:World) (g:Nat) (v u:Value) (c d:Sn):Prop where
 p:StB wx w.heap.size 54 (snA v c)
 q:StB wx (w.heap.size+1) 54 zeroSn
 r:StB wx g 54 (snA u d)
 o:Mine wx w.heap.size u d.ts
 b:Below w.heap.size w wx
 l:w.heap.size+1<g
theorem SoS.below {w wx wy:World} {g:Nat} {v u:Value} {c d:Sn} (h:SoS w wx g v u c d) (b:Below wx.heap.size wx wy):SoS w wy g v u c d:=
 ⟨h.p.below b,h.q.below b,h.r.below b,h.o.below b,h.b.trans (b.mono h.b.size),h.l⟩
theorem SoS.put {w wx:World} {g:Nat} {v u:Value} {c d e:Sn} (h:SoS w wx g v u c d) (j:Nat) (x:Value) (he:(snA u d).setIfInBounds j x=snA u e) (ht:e.ts=d.ts):SoS w (wx.setCell ⟨g,j,none⟩ x) g v u c e:=
 ⟨h.p.other _ _ (by have:=h.l;show w.heap.size≠g;omega),h.q.other _ _ (by have:=h.l;show w.heap.size+1≠g;omega),h.r.put j x he,by rw[ht];exact h.o.set h.r (by decide) x,h.b.setCell (by have:=h.l;show w.heap.size≤g;omega) _,h.l⟩
theorem SoS.row {w wx:World} {g r n cap:Nat} {v:Value} {c d:Sn} {j:Nat} {x:Int} (h:SoS w wx g v (.slice (some ⟨r,0,none⟩) n cap) c d) (o:Own wx w.heap.size (.slice (some ⟨r,0,none⟩) n cap) d.ts) (O:Own (wx.setCell ⟨r,j,none⟩ (.int .i64 x)) w.heap.size (.slice (some ⟨r,0,none⟩) n cap) (d.ts.set j x)):SoS w (wx.setCell ⟨r,j,none⟩ (.int .i64 x)) g v (.slice (some ⟨r,0,none⟩) n cap) c {d with ts:=d.ts.set j x}:=by
 have hne:∀(k:Nat) (cs:Array Value),StB wx k 54 cs→k≠r:=fun k cs hk e=>o.ne hk (by decide) (by rw[e];rfl)
 exact⟨h.p.other _ _ (hne _ _ h.p),h.q.other _ _ (hne _ _ h.q),h.r.other _ _ (hne _ _ h.r),.inl O,h.b.setCell (o.lt r rfl).1 _,h.l⟩
theorem SoS.cells {w wx:World} {g:Nat} {v u:Value} {c d:Sn} (h:SoS w wx g v u c d) (j:Nat) {x:Value} (e:(snA u d)[j]?=some x):wx.cell? ⟨g,j,none⟩=some x∧wx.frozen? ⟨g,j,none⟩=false:=⟨h.r.cell j e,h.r.frozen j⟩
end Go.Proofs.YtflbcjgkdokhiaaGreatDoor
namespace Go.Proofs.YtflbcjgkdokhiaaGreatDoor
open Go.ChangeShapes Go.WideShapes Go.ChangeAt Go.RowKit
end Go.Proofs.YtflbcjgkdokhiaaGreatDoor
namespace Go.Proofs.YtflbcjgkdokhiaaGreatDoor
open Go.ChangeShapes Go.WideShapes Go.ChangeAt Go.RowKit
end Go.Proofs.YtflbcjgkdokhiaaGreatDoor
set_option maxRecDepth 20000
set_option maxHeartbeats 2000000
namespace Go.Proofs.YtflbcjgkdokhiaaGreatDoor
open Go.ChangeShapes Go.WideShapes Go.ChangeAt Go.RowKit
def Sn.unused (c:Sn):Bool:=decide (c.tr=0)&&decide (c.ts.length=0)
theorem Sn.ok_unused {c:Sn} (h:c.unused=true):c.ok=true:=by
 unfold Sn.unused at h
 simp only[Bool.and_eq_true,decide_eq_true_eq]at h
 unfold Sn.ok
 rw[if_pos h.1]
 simpa using h.2
theorem Sn.ok_used {c:Sn} (h:c.unused=false):c.ok=(inI c.tr 1 100000&&(turnsI c.ts&&inI c.ts.length 1 8)):=by
 unfold Sn.unused at h
 unfold Sn.ok
 by_cases e:c.tr=0
 ·rw[if_pos e]
  rw[decide_eq_true e,Bool.true_and]at h
  rw[h]
  have:inI c.tr 1 100000=false:=by rw[e];decide
  rw[this]
  rfl
 ·rw[if_neg e]
theorem iunusedS_any (v:Value) (c:Sn) (w:World) (hr:Reads w v c.ts):
  Calls Tryz.prog 102 #[SnV v c] w fun e w'=>e=.returned (.bool c.unused)∧Below w.heap.size w w':=by
 have HE:Hid (c.unused=(decide (c.tr=0)&&decide (c.ts.length=0))):=rfl
 obtain⟨ao,cap,rfl⟩:=reads_form hr
 obtain⟨x,hx⟩:∃x,x=c.unused:=⟨_,rfl⟩
 rw[←hx]at HE⊢
 obtain⟨n,hn⟩:∃n,n=c.ts.length:=⟨_,rfl⟩
 unfold SnV snA
 rw[←hn]at HE⊢
 clear hr hx hn
 by_cases ht:c.tr=0
 ·have e1:(c.tr==0)=true:=by simpa using ht
  by_cases hn0:(n:Int)=0
  ·have e4:((n:Int)==0)=true:=by simpa using hn0
   go_enter Tryz.func102,Tryz.ntmps102
   go_wp2
   go_ret
   exact⟨ret_bool (by rw[HE.out];simp[ht,(by omega:n=0)]),(Below.refl _ _).alloc (Nat.le_refl _) _⟩
  ·have e4:((n:Int)==0)=false:=by simpa using hn0
   go_enter Tryz.func102,Tryz.ntmps102
   go_wp2
   go_ret
   exact⟨ret_bool (by rw[HE.out,show decide (n=0)=false from decide_eq_false (by omega),Bool.and_false]),(Below.refl _ _).alloc (Nat.le_refl _) _⟩
 ·have e1:(c.tr==0)=false:=by simpa using ht
  go_enter Tryz.func102,Tryz.ntmps102
  go_wp2
  go_ret
  exact⟨ret_bool (by rw[HE.out];simp[ht]),(Below.refl _ _).alloc (Nat.le_refl _) _⟩
theorem isinkok_any (v:Value) (c:Sn) (w:World) (hr:Reads w v c.ts) (hl:c.ts.length≤1099511627776):
  Calls Tryz.prog 103 #[SnV v c] w fun e w'=>e=.returned (.bool c.ok)∧Below w.heap.size w w':=by
 have HU:Hid (c.unused=true→c.ok=true):=Sn.ok_unused
 have HE:Hid (c.unused=false→c.ok=(inI c.tr 1 100000&&(turnsI c.ts&&inI c.ts.length 1 8))):=Sn.ok_used
 obtain⟨w1,hw1⟩:∃w1,w1=w.alloc (.cells (snA v c) 54):=⟨_,rfl⟩
 have H1:StB w1 w.heap.size 54 (snA v c):=by rw[hw1];exact StB.new _ _ _
 have B1:Below w.heap.size w w1:=by rw[hw1];exact(Below.refl _ _).alloc (Nat.le_refl _) _
 have cu:=iunusedS_any v c w1 (hr.below B1 (Nat.le_refl _))
 have HR:Hid (∀w2,Below w1.heap.size w1 w2→Reads w2 v c.ts):=fun w2 b=>(hr.below B1 (Nat.le_refl _)).below b (Nat.le_refl _)
 have HS:Hid (∀w2,Below w1.heap.size w1 w2→StB w2 w.heap.size 54 (snA v c)∧Below w.heap.size w w2):=fun w2 b=>⟨H1.below b,B1.trans (b.mono B1.size)⟩
 obtain⟨ao,cap,rfl⟩:=reads_form hr
 have HW:Hid (w1=w.alloc (.cells #[.int .i64 c.tr,.slice ao c.ts.length cap] 54)):=hw1
 have k0:w1.cell? ⟨w.heap.size,0,none⟩=some (.int .i64 c.tr):=H1.cell 0 rfl
 have k1:w1.cell? ⟨w.heap.size,1,none⟩=some (.slice ao c.ts.length cap):=H1.cell 1 rfl
 have ct:=fun wx=>itry_any c.tr wx
 have cs:=fun wx h=>iturns_any (.slice ao c.ts.length cap) c.ts wx h hl
 obtain⟨x,hx⟩:∃x,x=c.ok:=⟨_,rfl⟩
 rw[←hx]at HE HU⊢
 obtain⟨bu,hbu⟩:∃bu,bu=c.unused:=⟨_,rfl⟩
 rw[←hbu]at HE HU cu
 obtain⟨bt,hbt⟩:∃bt,bt=inI c.tr 1 100000:=⟨_,rfl⟩
 rw[←hbt]at HE
 simp only[←hbt]at ct
 obtain⟨bs,hbs⟩:∃bs,bs=(turnsI c.ts&&inI c.ts.length 1 8):=⟨_,rfl⟩
 rw[←hbs]at HE
 simp only[←hbs]at cs
 have HCS:Hid _:=cs
 unfold SnV snA at cu⊢
 clear hw1 H1 hr hx hbu hbt hbs B1 cs
 go_enter Tryz.func103,Tryz.ntmps103
 go_wp2_with fail
 rw[←HW.out]
 refine cu.mono ?_
 rintro e w2 ⟨rfl,b2⟩
 clear HW cu k0 k1
 have HB:Hid (Below w.heap.size w w2):=(HS.out w2 b2).2
 have H2:=(HS.out w2 b2).1
 have cs:=HCS.out w2 (HR.out w2 b2)
 have k0:w2.cell? ⟨w.heap.size,0,none⟩=some (.int .i64 c.tr):=H2.cell 0 rfl
 have k1:w2.cell? ⟨w.heap.size,1,none⟩=some (.slice ao c.ts.length cap):=H2.cell 1 rfl
 clear HCS HS HR H2 b2
 cases bu with
 |true=>
  have HX:Hid (x=true):=HU.out rfl
  clear HU HE
  go_wp2
  go_ret
  exact⟨ret_bool (by rw[HX.out]),HB.out⟩
 |false=>
  have HX:Hid (x=(bt&&bs)):=HE.out rfl
  clear HU HE
  go_wp2_with fail
  refine(ct _).mono ?_
  rintro e w' ⟨rfl,hw⟩;subst w'
  clear ct
  cases bt with
  |false=>
   go_wp2
   go_ret
   exact⟨ret_bool (by rw[HX.out];rfl),HB.out⟩
  |true=>
   go_wp2_with fail
   refine cs.mono ?_
   rintro e w' ⟨rfl,hw⟩;subst w'
   clear cs
   go_wp2
   go_ret
   exact⟨ret_bool (by rw[HX.out];rfl),HB.out⟩
end Go.Proofs.YtflbcjgkdokhiaaGreatDoor
namespace Go.Proofs.YtflbcjgkdokhiaaGreatDoor
open Go.RowKit
theorem stepE_ok (l:List (Bs×Nat)):∀a:Option (Rc×Nat),(∀x,a=some x→x.1.ok=true)→∀x,l.foldl stepE a=some x→x.1.ok=true:=by
 induction l with
 |nil=>intro a h x e;exact h x e
 |cons y l ih=>
  intro a h x e
  refine ih (stepE a y) (fun z hz=>?_) x e
  unfold stepE at hz
  split at hz
  ·rename_i r hr
   simp only[Option.some.injEq]at hz
   rw[←hz]
   exact readR_ok _ _ hr
  ·exact h z hz
theorem recall_ok (s:Bs) (h:(recallB s).isSome=true):(recR (recallB s)).ok=true:=by
 cases e:recallB s with
 |none=>rw[e]at h;cases h
 |some x=>exact stepE_ok (wholeE s) none (fun _ h=>by cases h) x e
def Nd.logP (n:Nd):Bool:=decide (n.log.length≤40000)&&((recallB n.log).isSome&&sameR (recR (recallB n.log)) n.r&&(!n.up||decide (n.log.take (recAt (recallB n.log))=n.log)))
def Nd.copP (n:Nd):Bool:=n.c.unused||(n.up&&decide (n.r.s≠3)&&decide (n.c.tr=n.r.t)&&n.c.ok&&decide (n.c.ts.length=n.ys.length))
def Nd.snkP (n:Nd):Bool:=n.s.unused||(n.up&&decide (n.r.s=3)&&decide (n.s.tr=n.r.n)&&n.s.ok&&decide (n.s.ts.length=n.ys.length))
theorem Cp.unused_tr {c:Cp} (h:c.unused=true):c.tr=0:=by
 unfold Cp.unused at h
 simp only[Bool.and_eq_true,decide_eq_true_eq]at h
 exact h.1.1.1.1
theorem Cp.used_tr {c:Cp} (h:c.unused=false) (ho:c.ok=true):c.tr≠0:=by
 rw[Cp.ok_used h]at ho
 simp only[Bool.and_eq_true,inI,decide_eq_true_eq]at ho
 intro e
 have:=ho.1.1.1
 omega
theorem Sn.unused_tr {c:Sn} (h:c.unused=true):c.tr=0:=by
 unfold Sn.unused at h
 simp only[Bool.and_eq_true,decide_eq_true_eq]at h
 exact h.1
theorem Sn.used_tr {c:Sn} (h:c.unused=false) (ho:c.ok=true):c.tr≠0:=by
 rw[Sn.ok_used h]at ho
 simp only[Bool.and_eq_true,inI,decide_eq_true_eq]at ho
 intro e
 have:=ho.1
 omega
theorem Nd.ok_prog (n:Nd):n.ok=(inI n.id 0 1&&(Sr.ok ⟨n.xs,n.ys,n.h⟩&&(n.logP&&(n.copP&&n.snkP)))):=by
 have hl:=recall_le n.log
 rw[Bool.eq_iff_iff,Nd.ok_iff]
 unfold Sr.ok Nd.logP
 simp only[Bool.and_eq_true,decide_eq_true_eq,sameR_iff]
 constructor
 ·intro h
  refine⟨h.id,⟨h.dk,h.h⟩,⟨h.ll,⟨h.lg.is,h.lg.rc⟩,?_⟩,?_,?_⟩
  ·cases hu:n.up with
   |false=>rfl
   |true=>
    simp only[Bool.not_true,Bool.false_or,decide_eq_true_eq]
    exact(take_all _ _ hl).2 (h.lg.al hu)
  ·unfold Nd.copP
   cases hc:n.c.unused with
   |true=>rfl
   |false=>
    have ht:=Cp.used_tr hc h.c
    obtain⟨q1,q2,q3⟩:=h.cp ht
    have hu:n.up=true:=by
     cases hu:n.up with
     |true=>rfl
     |false=>exact absurd (h.dn hu).1 ht
    simp[hu,q1,h.c,q3,←q2]
  ·unfold Nd.snkP
   cases hc:n.s.unused with
   |true=>rfl
   |false=>
    have ht:=Sn.used_tr hc h.s
    obtain⟨q1,q2,q3⟩:=h.sk ht
    have hu:n.up=true:=by
     cases hu:n.up with
     |true=>rfl
     |false=>exact absurd (h.dn hu).2 ht
    simp[hu,q1,h.s,q3,←q2]
 ·rintro⟨h1,⟨h2,h3⟩,⟨h4,⟨h5,h6⟩,h7⟩,h8,h9⟩
  have hc:n.c.ok=true∧(n.up=false→n.c.tr=0)∧(n.c.tr≠0→n.r.s≠3∧n.c.tr=n.r.t∧n.c.ts.length=n.ys.length):=by
   unfold Nd.copP at h8
   cases hc:n.c.unused with
   |true=>exact⟨Cp.ok_unused hc,fun _=>Cp.unused_tr hc,fun e=>absurd (Cp.unused_tr hc) e⟩
   |false=>
    rw[hc]at h8
    simp only[Bool.false_or,Bool.and_eq_true,decide_eq_true_eq]at h8
    obtain⟨⟨⟨⟨a1,a2⟩,a3⟩,a4⟩,a5⟩:=h8
    exact⟨a4,fun e=>by rw[a1]at e;(cases e),fun _=>⟨a2,a3,a5⟩⟩
  have hs:n.s.ok=true∧(n.up=false→n.s.tr=0)∧(n.s.tr≠0→n.r.s=3∧n.s.tr=n.r.n∧n.s.ts.length=n.ys.length):=by
   unfold Nd.snkP at h9
   cases hc:n.s.unused with
   |true=>exact⟨Sn.ok_unused hc,fun _=>Sn.unused_tr hc,fun e=>absurd (Sn.unused_tr hc) e⟩
   |false=>
    rw[hc]at h9
    simp only[Bool.false_or,Bool.and_eq_true,decide_eq_true_eq]at h9
    obtain⟨⟨⟨⟨a1,a2⟩,a3⟩,a4⟩,a5⟩:=h9
    exact⟨a4,fun e=>by rw[a1]at e;(cases e),fun _=>⟨a2,a3,a5⟩⟩
  have hr:n.r.ok=true:=by rw[←h6];exact recall_ok n.log h5
  refine⟨h1,h2,h3,hr,h4,hc.1,hs.1,⟨h5,h6,fun hu=>?_⟩,fun hu=>⟨hc.2.1 hu,hs.2.1 hu⟩,hc.2.2,hs.2.2⟩
  rw[hu]at h7
  simp only[Bool.not_true,Bool.false_or,decide_eq_true_eq]at h7
  exact(take_all _ _ hl).1 h7
end Go.Proofs.YtflbcjgkdokhiaaGreatDoor
set_option maxRecDepth 20000
set_option maxHeartbeats 1000000
namespace Go.Proofs.YtflbcjgkdokhiaaGreatDoor
open Go.ChangeShapes Go.WideShapes Go.ChangeAt Go.RowKit
theorem icheck_any (l:Bs) (w:World) (hl:l.length≤1048576):
  Calls Tryz.prog 150 #[S l] w fun e w'=>e=.returned (.int .i64 (chk l))∧w'=w:=by
 have hsz:(⟨l.toArray⟩:ByteArray).size=l.length:=rfl
 unfold S
 go_enter Tryz.func150,Tryz.ntmps150
 go_wp2
 go_loop [3,7] (fun h i=>∃j:Nat,j≤l.length∧i=.int .i64 j∧∃x:Int,h=.int .i64 x∧0≤x∧x<999983∧Hid (x=chk (l.take j))) (fun _ i=>l.length-(intOf i).toNat)
 case atStart=>exact⟨0,Nat.zero_le _,rfl,19,rfl,by omega,by omega,by simp[Hid,chk]⟩
 case round=>
  obtain⟨j,hj,rfl,x,rfl,hx0,hx1,HX⟩:=hrel
  by_cases hlt:(j:Int)<(l.length:Int)
  ·go_wp2
   go_round
   case rel=>
    have h1:j<l.length:=by omega
    have h2:=chk_bd (l.take (j+1))
    have h3:=chk_step l j h1
    rw[←HX.out]at h3
    exact⟨j+1,by omega,by go_num,_,congrArg (Value.int .i64) h3,h2.1,h2.2,rfl⟩
   case measure=>simp[intOf];omega
  ·go_wp2
   go_ret
   have e:j=l.length:=by omega
   have:=HX.out
   rw[e,List.take_length]at this
   exact⟨ret_int this,rfl⟩
end Go.Proofs.YtflbcjgkdokhiaaGreatDoor
namespace Go.Proofs
open Go.Shelf
def Tryz.laysM171_ren:Go.Shelf.Ren:=⟨fun|171=>148|243=>155|246=>156|283=>164|284=>165|285=>166|286=>167|129=>172|317=>171|318=>173|319=>174|320=>175|337=>176|338=>177|n=>n,fun|3=>3|9=>9|2=>2|4=>4|171=>188|0=>0|53=>189|37=>146|5=>5|173=>192|212=>198|51=>194|20=>20|213=>199|46=>136|232=>207|233=>208|n=>n,fun|17=>1|18=>4|19=>5|n=>n⟩
theorem Tryz.laysM171:Go.Proofs.LaysM.n171 Tryz.prog Tryz.laysM171_ren:={
 mixed:=by kernel_rfl
 f129:=Tryz.func172.trans (congrArg some (by kernel_rfl))
 f171:=Tryz.func148.trans (congrArg some (by kernel_rfl))
 f243:=Tryz.func155.trans (congrArg some (by kernel_rfl))
 f246:=Tryz.func156.trans (congrArg some (by kernel_rfl))
 f283:=Tryz.func164.trans (congrArg some (by kernel_rfl))
 f284:=Tryz.func165.trans (congrArg some (by kernel_rfl))
 f285:=Tryz.func166.trans (congrArg some (by kernel_rfl))
 f286:=Tryz.func167.trans (congrArg some (by kernel_rfl))
 f317:=Tryz.func171.trans (congrArg some (by kernel_rfl))
 f318:=Tryz.func173.trans (congrArg some (by kernel_rfl))
 f319:=Tryz.func174.trans (congrArg some (by kernel_rfl))
 f320:=Tryz.func175.trans (congrArg some (by kernel_rfl))
 f337:=Tryz.func176.trans (congrArg some (by kernel_rfl))
 f338:=Tryz.func177.trans (congrArg some (by kernel_rfl))
 t0:=Tryz.underlying0
 a0:=Tryz.isAgg0
 z0:=Tryz.sizeOf0
 v0:=Tryz.zeroValue0
 t2:=Tryz.underlying2
 a2:=Tryz.isAgg2
 z2:=Tryz.sizeOf2
 v2:=Tryz.zeroValue2
 t3:=Tryz.underlying3
 a3:=Tryz.isAgg3
 z3:=Tryz.sizeOf3
 v3:=Tryz.zeroValue3
 t4:=Tryz.underlying4
 a4:=Tryz.isAgg4
 z4:=Tryz.sizeOf4
 v4:=Tryz.zeroValue4
 t5:=Tryz.underlying5
 a5:=Tryz.isAgg5
 z5:=Tryz.sizeOf5
 v5:=Tryz.zeroValue5
 t9:=Tryz.underlying9
 a9:=Tryz.isAgg9
 z9:=Tryz.sizeOf9
 v9:=Tryz.zeroValue9
 t20:=Tryz.underlying20
 a20:=Tryz.isAgg20
 z20:=Tryz.sizeOf20
 v20:=Tryz.zeroValue20
 t37:=Tryz.underlying146
 a37:=Tryz.isAgg146
 z37:=Tryz.sizeOf146
 v37:=Tryz.zeroValue146
 t46:=Tryz.underlying136
 a46:=Tryz.isAgg136
 z46:=Tryz.sizeOf136
 v46:=Tryz.zeroValue136
 t51:=Tryz.underlying194
 a51:=Tryz.isAgg194
 z51:=Tryz.sizeOf194
 v51:=Tryz.zeroValue194
 t53:=Tryz.underlying189
 a53:=Tryz.isAgg189
 z53:=Tryz.sizeOf189
 v53:=Tryz.zeroValue189
 t171:=Tryz.underlying188
 a171:=Tryz.isAgg188
 z171:=Tryz.sizeOf188
 v171:=Tryz.zeroValue188
 t173:=Tryz.underlying192
 a173:=Tryz.isAgg192
 z173:=Tryz.sizeOf192
 v173:=Tryz.zeroValue192
 t212:=Tryz.underlying198
 a212:=Tryz.isAgg198
 z212:=Tryz.sizeOf198
 v212:=Tryz.zeroValue198
 t213:=Tryz.underlying199
 a213:=Tryz.isAgg199
 z213:=Tryz.sizeOf199
 t232:=Tryz.underlying207
 a232:=Tryz.isAgg207
 z232:=Tryz.sizeOf207
 v232:=Tryz.zeroValue207
 t233:=Tryz.underlying208
 a233:=Tryz.isAgg208
 z233:=Tryz.sizeOf208
 v233:=Tryz.zeroValue208
 g17:=by kernel_rfl
 g18:=by kernel_rfl
 g19:=by kernel_rfl
 i0:=by kernel_rfl
 i2:=by kernel_rfl
 i3:=by kernel_rfl
 i4:=by kernel_rfl
 i5:=by kernel_rfl
 i9:=by kernel_rfl
 i20:=by kernel_rfl
 i37:=by kernel_rfl
 i46:=by kernel_rfl
 i51:=by kernel_rfl
 i53:=by kernel_rfl
 i171:=by kernel_rfl
 i173:=by kernel_rfl
 i212:=by kernel_rfl
 i232:=by kernel_rfl
 i233:=by kernel_rfl
 m17:=by kernel_rfl
 m18:=by kernel_rfl
 m19:=by kernel_rfl}
open Go.RowKit Go.Sort Go.Lib in
theorem Tryz.strconv_Itoa (n:Int) (h0: -9223372036854775808≤n) (h1:n≤9223372036854775807) (w:World) (htab:Lib.TabIs Tryz.prog w "internal/strconv.uint64pow10" .u64 Lib.pow10Tab):
  Calls Tryz.prog 148 #[.int .i64 n] w fun e w'=>e=.returned (.string ⟨(Lib.itoa n).toArray⟩)∧∃k os,w'=grow (w.drewN k) os:=Any.strconv_Itoa Tryz.laysM171 n h0 h1 w htab
def Tryz.laysM173_ren:Go.Shelf.Ren:=⟨fun|173=>149|246=>156|283=>164|284=>165|285=>166|286=>167|129=>172|317=>171|318=>173|319=>174|320=>175|337=>176|338=>177|n=>n,fun|2=>2|3=>3|9=>9|4=>4|171=>188|0=>0|53=>189|37=>146|5=>5|173=>192|212=>198|51=>194|20=>20|213=>199|46=>136|232=>207|233=>208|n=>n,fun|17=>1|18=>4|19=>5|n=>n⟩
theorem Tryz.laysM173:Go.Proofs.LaysM.n173 Tryz.prog Tryz.laysM173_ren:={
 mixed:=by kernel_rfl
 f129:=Tryz.func172.trans (congrArg some (by kernel_rfl))
 f173:=Tryz.func149.trans (congrArg some (by kernel_rfl))
 f246:=Tryz.func156.trans (congrArg some (by kernel_rfl))
 f283:=Tryz.func164.trans (congrArg some (by kernel_rfl))
 f284:=Tryz.func165.trans (congrArg some (by kernel_rfl))
 f285:=Tryz.func166.trans (congrArg some (by kernel_rfl))
 f286:=Tryz.func167.trans (congrArg some (by kernel_rfl))
 f317:=Tryz.func171.trans (congrArg some (by kernel_rfl))
 f318:=Tryz.func173.trans (congrArg some (by kernel_rfl))
 f319:=Tryz.func174.trans (congrArg some (by kernel_rfl))
 f320:=Tryz.func175.trans (congrArg some (by kernel_rfl))
 f337:=Tryz.func176.trans (congrArg some (by kernel_rfl))
 f338:=Tryz.func177.trans (congrArg some (by kernel_rfl))
 t0:=Tryz.underlying0
 a0:=Tryz.isAgg0
 z0:=Tryz.sizeOf0
 v0:=Tryz.zeroValue0
 t2:=Tryz.underlying2
 a2:=Tryz.isAgg2
 z2:=Tryz.sizeOf2
 v2:=Tryz.zeroValue2
 t3:=Tryz.underlying3
 a3:=Tryz.isAgg3
 z3:=Tryz.sizeOf3
 v3:=Tryz.zeroValue3
 t4:=Tryz.underlying4
 a4:=Tryz.isAgg4
 z4:=Tryz.sizeOf4
 v4:=Tryz.zeroValue4
 t5:=Tryz.underlying5
 a5:=Tryz.isAgg5
 z5:=Tryz.sizeOf5
 v5:=Tryz.zeroValue5
 t9:=Tryz.underlying9
 a9:=Tryz.isAgg9
 z9:=Tryz.sizeOf9
 v9:=Tryz.zeroValue9
 t20:=Tryz.underlying20
 a20:=Tryz.isAgg20
 z20:=Tryz.sizeOf20
 v20:=Tryz.zeroValue20
 t37:=Tryz.underlying146
 a37:=Tryz.isAgg146
 z37:=Tryz.sizeOf146
 v37:=Tryz.zeroValue146
 t46:=Tryz.underlying136
 a46:=Tryz.isAgg136
 z46:=Tryz.sizeOf136
 v46:=Tryz.zeroValue136
 t51:=Tryz.underlying194
 a51:=Tryz.isAgg194
 z51:=Tryz.sizeOf194
 v51:=Tryz.zeroValue194
 t53:=Tryz.underlying189
 a53:=Tryz.isAgg189
 z53:=Tryz.sizeOf189
 v53:=Tryz.zeroValue189
 t171:=Tryz.underlying188
 a171:=Tryz.isAgg188
 z171:=Tryz.sizeOf188
 v171:=Tryz.zeroValue188
 t173:=Tryz.underlying192
 a173:=Tryz.isAgg192
 z173:=Tryz.sizeOf192
 v173:=Tryz.zeroValue192
 t212:=Tryz.underlying198
 a212:=Tryz.isAgg198
 z212:=Tryz.sizeOf198
 v212:=Tryz.zeroValue198
 t213:=Tryz.underlying199
 a213:=Tryz.isAgg199
 z213:=Tryz.sizeOf199
 t232:=Tryz.underlying207
 a232:=Tryz.isAgg207
 z232:=Tryz.sizeOf207
 v232:=Tryz.zeroValue207
 t233:=Tryz.underlying208
 a233:=Tryz.isAgg208
 z233:=Tryz.sizeOf208
 v233:=Tryz.zeroValue208
 g17:=by kernel_rfl
 g18:=by kernel_rfl
 g19:=by kernel_rfl
 i0:=by kernel_rfl
 i2:=by kernel_rfl
 i3:=by kernel_rfl
 i4:=by kernel_rfl
 i5:=by kernel_rfl
 i9:=by kernel_rfl
 i20:=by kernel_rfl
 i37:=by kernel_rfl
 i46:=by kernel_rfl
 i51:=by kernel_rfl
 i53:=by kernel_rfl
 i171:=by kernel_rfl
 i173:=by kernel_rfl
 i212:=by kernel_rfl
 i232:=by kernel_rfl
 i233:=by kernel_rfl
 m17:=by kernel_rfl
 m18:=by kernel_rfl
 m19:=by kernel_rfl}
open Go.RowKit Go.Sort Go.Lib in
theorem Tryz.strconv_FormatInt_10 (n:Int) (h0: -9223372036854775808≤n) (h1:n≤9223372036854775807) (w:World) (htab:Lib.TabIs Tryz.prog w "internal/strconv.uint64pow10" .u64 Lib.pow10Tab):
  Calls Tryz.prog 149 #[.int .i64 n,.int .i64 10] w fun e w'=>e=.returned (.string ⟨(Lib.itoa n).toArray⟩)∧∃k os,w'=grow (w.drewN k) os:=Any.strconv_FormatInt_10 Tryz.laysM173 n h0 h1 w htab
def Tryz.laysM316_ren:Go.Shelf.Ren:=⟨fun|316=>133|n=>n,fun|9=>9|3=>3|4=>4|37=>146|0=>0|127=>173|5=>5|n=>n,fun|n=>n⟩
theorem Tryz.laysM316:Go.Proofs.LaysM.n316 Tryz.prog Tryz.laysM316_ren:={
 mixed:=by kernel_rfl
 f316:=Tryz.func133.trans (congrArg some (by kernel_rfl))
 t0:=Tryz.underlying0
 a0:=Tryz.isAgg0
 z0:=Tryz.sizeOf0
 v0:=Tryz.zeroValue0
 t3:=Tryz.underlying3
 a3:=Tryz.isAgg3
 z3:=Tryz.sizeOf3
 v3:=Tryz.zeroValue3
 t4:=Tryz.underlying4
 a4:=Tryz.isAgg4
 z4:=Tryz.sizeOf4
 v4:=Tryz.zeroValue4
 t9:=Tryz.underlying9
 a9:=Tryz.isAgg9
 z9:=Tryz.sizeOf9
 v9:=Tryz.zeroValue9
 t37:=Tryz.underlying146
 a37:=Tryz.isAgg146
 z37:=Tryz.sizeOf146
 v37:=Tryz.zeroValue146
 t127:=Tryz.underlying173
 a127:=Tryz.isAgg173
 z127:=Tryz.sizeOf173
 v127:=Tryz.zeroValue173
 t5:=Tryz.underlying5
 a5:=Tryz.isAgg5
 z5:=Tryz.sizeOf5
 v5:=Tryz.zeroValue5
 i0:=by kernel_rfl
 i3:=by kernel_rfl
 i4:=by kernel_rfl
 i5:=by kernel_rfl
 i9:=by kernel_rfl
 i37:=by kernel_rfl
 i127:=by kernel_rfl}
open Go.RowKit in
theorem Tryz.stringslite_Clone (s:ByteArray) (w:World) (hlim:s.size≤281474976710656):
  Calls Tryz.prog 133 #[.string s] w fun e w'=>e=.returned (.string s)∧Below w.heap.size w w':=Any.stringslite_Clone Tryz.laysM316 s w hlim
def Tryz.lays219_ren:Go.Shelf.Ren:=⟨fun|219=>151|217=>157|225=>158|224=>159|267=>160|266=>168|314=>169|n=>n,fun|9=>9|3=>3|4=>4|5=>5|46=>136|146=>195|51=>194|n=>n,fun|1=>0|n=>n⟩
theorem Tryz.lays219:Go.Proofs.Lays.n219 Tryz.prog Tryz.lays219_ren:={
 mixed:=by kernel_rfl
 f217:=Tryz.func157.trans (congrArg some (by kernel_rfl))
 f219:=Tryz.func151.trans (congrArg some (by kernel_rfl))
 f224:=Tryz.func159.trans (congrArg some (by kernel_rfl))
 f225:=Tryz.func158.trans (congrArg some (by kernel_rfl))
 f266:=Tryz.func168.trans (congrArg some (by kernel_rfl))
 f267:=Tryz.func160.trans (congrArg some (by kernel_rfl))
 f314:=Tryz.func169.trans (congrArg some (by kernel_rfl))
 t3:=Tryz.underlying3
 a3:=Tryz.isAgg3
 z3:=Tryz.sizeOf3
 v3:=Tryz.zeroValue3
 t4:=Tryz.underlying4
 a4:=Tryz.isAgg4
 z4:=Tryz.sizeOf4
 v4:=Tryz.zeroValue4
 t5:=Tryz.underlying5
 a5:=Tryz.isAgg5
 z5:=Tryz.sizeOf5
 v5:=Tryz.zeroValue5
 t9:=Tryz.underlying9
 a9:=Tryz.isAgg9
 z9:=Tryz.sizeOf9
 v9:=Tryz.zeroValue9
 t46:=Tryz.underlying136
 a46:=Tryz.isAgg136
 z46:=Tryz.sizeOf136
 v46:=Tryz.zeroValue136
 t51:=Tryz.underlying194
 a51:=Tryz.isAgg194
 z51:=Tryz.sizeOf194
 v51:=Tryz.zeroValue194
 t146:=Tryz.underlying195
 a146:=Tryz.isAgg195
 z146:=Tryz.sizeOf195
 v146:=Tryz.zeroValue195
 g1:=by kernel_rfl}
open Go.RowKit Go.Lib in
theorem Tryz.stringslite_Index_one (s:ByteArray) (c:UInt8) (w:World):
  Calls Tryz.prog 151 #[.string s,.string ⟨#[c]⟩] w fun e w'=>e=.returned (.int .i64 (Lib.indexByte s.data.toList c))∧w'=w:=Any.stringslite_Index_one Tryz.lays219 s c w
def Tryz.lays144_ren:Go.Shelf.Ren:=⟨fun|144=>147|143=>154|219=>151|217=>157|225=>158|224=>159|267=>160|266=>168|314=>169|n=>n,fun|9=>9|4=>4|3=>3|5=>5|46=>136|146=>195|51=>194|n=>n,fun|1=>0|n=>n⟩
theorem Tryz.lays144:Go.Proofs.Lays.n144 Tryz.prog Tryz.lays144_ren:={
 mixed:=by kernel_rfl
 f143:=Tryz.func154.trans (congrArg some (by kernel_rfl))
 f144:=Tryz.func147.trans (congrArg some (by kernel_rfl))
 f217:=Tryz.func157.trans (congrArg some (by kernel_rfl))
 f219:=Tryz.func151.trans (congrArg some (by kernel_rfl))
 f224:=Tryz.func159.trans (congrArg some (by kernel_rfl))
 f225:=Tryz.func158.trans (congrArg some (by kernel_rfl))
 f266:=Tryz.func168.trans (congrArg some (by kernel_rfl))
 f267:=Tryz.func160.trans (congrArg some (by kernel_rfl))
 f314:=Tryz.func169.trans (congrArg some (by kernel_rfl))
 t3:=Tryz.underlying3
 a3:=Tryz.isAgg3
 z3:=Tryz.sizeOf3
 v3:=Tryz.zeroValue3
 t4:=Tryz.underlying4
 a4:=Tryz.isAgg4
 z4:=Tryz.sizeOf4
 v4:=Tryz.zeroValue4
 t5:=Tryz.underlying5
 a5:=Tryz.isAgg5
 z5:=Tryz.sizeOf5
 v5:=Tryz.zeroValue5
 t9:=Tryz.underlying9
 a9:=Tryz.isAgg9
 z9:=Tryz.sizeOf9
 v9:=Tryz.zeroValue9
 t46:=Tryz.underlying136
 a46:=Tryz.isAgg136
 z46:=Tryz.sizeOf136
 v46:=Tryz.zeroValue136
 t51:=Tryz.underlying194
 a51:=Tryz.isAgg194
 z51:=Tryz.sizeOf194
 v51:=Tryz.zeroValue194
 t146:=Tryz.underlying195
 a146:=Tryz.isAgg195
 z146:=Tryz.sizeOf195
 v146:=Tryz.zeroValue195
 g1:=by kernel_rfl}
open Go.RowKit Go.Lib in
theorem Tryz.strings_Contains_one (s:ByteArray) (c:UInt8) (w:World):
  Calls Tryz.prog 147 #[.string s,.string ⟨#[c]⟩] w fun e w'=>e=.returned (.bool (decide (0≤Lib.indexByte s.data.toList c)))∧w'=w:=Any.strings_Contains_one Tryz.lays144 s c w
end Go.Proofs
