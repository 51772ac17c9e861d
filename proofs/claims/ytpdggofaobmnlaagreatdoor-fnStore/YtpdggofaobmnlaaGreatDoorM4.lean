import Derived.Test.YtpdggofaobmnlaaGreatDoorM3
import Derived.Deep.RegionWith
import Derived.Deep.DrawnRows
import Derived.Test.YtpdggofaobmnlaaGreatDoorRows
import Derived.Test.YtpdggofaobmnlaaGreatDoorM1
import Derived.WalkKit
import Derived.ProofKit
import Derived.OpenShut
import Derived.WalkSmall
import Derived.WalkSpells
import Derived.BigQuiet
/- DrawPut, DrawDiffer, DrawChosen, DrawNewBlocks. -/
set_option maxRecDepth 20000
set_option maxHeartbeats 2000000
namespace Go.Proofs.YtpdggofaobmnlaaGreatDoor
open Go.ChangeShapes Go.WideShapes Go.ChangeAt Go.RowKit
theorem Drawn.own {w w1 w2:World} {B c:Nat} {v:Value} {xs:List Int} (h:Drawn w1 w2 B c v xs) (g:w.grownBy w1 none) (hc:w.heap.size≤c):Own w2 w.heap.size v xs∧Below w.heap.size w w2:=
 ⟨h.1.mono g.size,below_of_cur g hc h.2.2.1⟩
theorem drawNew8_any (B:Nat) (v:Value) (w:World) (h:CodeOk w B v) (hB:B≤w.heap.size):
  Calls Tryz.prog 35 #[v] w fun e w'=>∃n,e=.returned (.int .i64 n)∧Below w.heap.size w w':=by
 go_enter Tryz.func35,Tryz.ntmps35
 go_wp2_with fail
 refine(new_code B v _ h hB).mono ?_
 rintro e w1 ⟨c,rfl,hc,C1,G1⟩
 go_wp2_with fail
 refine(from_any B c _ _ _ C1 (by omega) (by omega) (by omega)).mono ?_
 rintro e w2 ⟨x,rfl,_,_,C2,G2⟩
 have hb:=below_of_cur G1 hc G2
 clear C1 C2 G1 G2 h
 go_wp2
 go_ret
 exact⟨_,rfl,hb⟩
theorem drew_grown {w w':World} {row:Option Nat} (h:w.drew.grownBy w' row):w.grownBy w' row:=⟨h.os,h.tape,h.output,h.size,h.block⟩
theorem lit5 (x:Int) (h0:0≤x) (h1:x<5):∃y,(#[.int .i64 0,.int .i64 7,.int .i64 9999,.int .i64 10000,.int .i64 (-1)]:Array Value)[x.toNat]?=some (.int .i64 y):=by
 obtain rfl|rfl|rfl|rfl|rfl:x=0∨x=1∨x=2∨x=3∨x=4:=by omega
 all_goals exact⟨_,rfl⟩
end Go.Proofs.YtpdggofaobmnlaaGreatDoor
namespace Go.Proofs.YtpdggofaobmnlaaGreatDoor
open Go.ChangeShapes Go.WideShapes Go.ChangeAt Go.RowKit
theorem Sta.curList {w wx wy:World} {L:List Item} {B c:Nat} {u:Value} {xs:List Int} (h:Sta w wx L) (n:Nat) (e:L[n]?=some (CurI B c)) (D:Drawn wx wy B c u xs):Sta w wy (Lst u xs::L):=
 h.turnAdd n e (Turned.of_grown D.2.2.1) D.2.1 (Lst u xs) (D.1.mono (Nat.zero_le _)) (fun b hb=>D.1.lt b (by simpa[Lst]using hb))
theorem Sta.set1 {w wx:World} {L:List Item} {g:Nat} {t:TypeId} {u v:Value} (h:Sta w wx L) (n:Nat) (e:L[n]?=some (Blk g t #[u,v])) (x:Value):Sta w (wx.setCell ⟨g,1,none⟩ x) (L.set n (Blk g t #[u,x])):=
 h.turn n e (turned_set wx g 1 x) (Blk g t #[u,x]) rfl (Pair.set1 (h.get n e) x)
theorem Sta.set0 {w wx:World} {L:List Item} {g:Nat} {t:TypeId} {u v:Value} (h:Sta w wx L) (n:Nat) (e:L[n]?=some (Blk g t #[u,v])) (x:Value):Sta w (wx.setCell ⟨g,0,none⟩ x) (L.set n (Blk g t #[x,v])):=
 h.turn n e (turned_set wx g 0 x) (Blk g t #[x,v]) rfl (Pair.set0 (h.get n e) x)
theorem Lst.form {w:World} {v:Value} {xs:List Int} (h:(Lst v xs).holds w):∃ao cap,v=.slice ao xs.length cap:=h.reads.form
theorem l3Draw_any {w0 w:World} {L:List Item} {B c:Nat} (hS:Sta w0 w (CurI B c::L)):
  Calls Tryz.prog 63 #[.pointer (some ⟨c,0,none⟩)] w fun e w'=>∃u v,e=.returned (.agg #[u,v])∧∃xs ys:List Int,xs.length≤65∧ys.length≤65∧Sta w0 w' (Dsk u v xs ys::CurI B c::L):=by
 obtain⟨w1,hw1⟩:∃w1,w1=w.alloc (.cells #[.slice none 0 0,.slice none 0 0] 26):=⟨_,rfl⟩
 have HS:Hid (Sta w0 w1 (Blk w.heap.size 26 #[.slice none 0 0,.slice none 0 0]::CurI B c::L)):=by rw[hw1];exact hS.box _ _
 clear hS
 go_enter Tryz.func63,Tryz.ntmps63
 go_wp2_with fail
 rw[←hw1]
 clear hw1
 refine(below_any B c 5 w1 (HS.out.get 1 rfl) (by omega)).mono ?_
 rintro e w2 ⟨k,rfl,hk0,hk1,hk2,C2,G2⟩
 have hk3:=hk1 (by omega)
 replace HS:Hid (Sta w0 w2 _):=HS.out.cur 1 rfl C2 G2
 clear hk1 hk2 C2 G2
 go_wp2_with fail
 refine(draw_any B c _ w2 (HS.out.get 1 rfl) (by omega)).mono ?_
 rintro e w3 ⟨u,rfl,xs,hx,D3⟩
 replace HS:Hid (Sta w0 w3 (Lst u xs::_)):=HS.out.curList 1 rfl D3
 clear D3
 obtain⟨uo,uc,heu⟩:=Lst.form (HS.out.get 0 rfl)
 subst heu
 go_wp2_with (refine wpList_putB rfl 26 _ _ rfl w3.heap.size #[.slice uo xs.length uc,.slice none 0 0] #[.slice none 0 0,.slice none 0 0] rfl rfl (by simp[Value.oneCell']) (heap_alloc_new _ _) Tryz.infoB.1 rfl ?_;intro w4 q4 g4;replace HS:Hid (Sta w0 w4 (Blk w3.heap.size 26 #[.slice uo xs.length uc,.slice none 0 0]::_)):=HS.out.var 26 _ _ q4 g4;clear q4 g4)
 refine(draw_any B c _ w4 (HS.out.get 3 rfl) (by omega)).mono ?_
 rintro e w5 ⟨v,rfl,ys,hy,D5⟩
 replace HS:Hid (Sta w0 w5 (Lst v ys::_)):=HS.out.curList 3 rfl D5
 clear D5
 obtain⟨vo,vc,hev⟩:=Lst.form (HS.out.get 0 rfl)
 subst hev
 have e0:=Blk.cell (HS.out.get 1 rfl) 1 (x:=.slice none 0 0) rfl
 have f0:=Blk.frozen (HS.out.get 1 rfl) 1
 obtain⟨w6,hw6⟩:∃w6,w6=w5.setCell ⟨w3.heap.size,1,none⟩ (.slice vo ys.length vc):=⟨_,rfl⟩
 have HS6:=HS.out.set1 1 rfl (.slice vo ys.length vc)
 rw[←hw6]at HS6
 replace HS6:Hid (Sta w0 w6 _):=HS6
 go_wp2_with fail
 rw[←hw6]
 clear hw6 HS e0 f0
 refine(once_any B c 10 w6 (HS6.out.get 4 rfl) (by omega)).mono ?_
 rintro e w7 ⟨b,rfl,C7,G7⟩
 replace HS6:Hid (Sta w0 w7 _):=HS6.out.cur 4 rfl C7 G7
 clear C7 G7
 cases b with
 |false=>
  have p0:=Blk.cell (HS6.out.get 1 rfl) 0 (x:=.slice uo xs.length uc) rfl
  have p1:=Blk.cell (HS6.out.get 1 rfl) 1 (x:=.slice vo ys.length vc) rfl
  go_wp2_with (refine wpList_putB rfl 26 _ _ rfl w.heap.size #[.slice uo xs.length uc,.slice vo ys.length vc] #[.slice none 0 0,.slice none 0 0] rfl rfl (by simp[Value.oneCell']) (HS6.out.get 3 rfl) Tryz.infoB.1 rfl ?_;intro w8 q8 g8;replace HS6:Hid (Sta w0 w8 _):=HS6.out.turn 3 rfl g8 (Blk w.heap.size 26 #[.slice uo xs.length uc,.slice vo ys.length vc]) rfl q8)
  refine bodyPost_ret (results_pair rfl _ _ w.heap.size _ _ rfl q8) rfl ?_
  exact⟨_,_,rfl,xs,ys,by omega,by omega,((((HS6.out.drop 1).drop 2).front 1 rfl)).two⟩
 |true=>
  go_wp2_with fail
  refine(drawAny_any B c _ w7 (HS6.out.get 4 rfl) (by omega)).mono ?_
  rintro e w8 ⟨z,rfl,zs,hz,D8⟩
  replace HS6:Hid (Sta w0 w8 (Lst z zs::_)):=HS6.out.curList 4 rfl D8
  clear D8
  obtain⟨zo,zc,hez⟩:=Lst.form (HS6.out.get 0 rfl)
  subst hez
  have e0:=Blk.cell (HS6.out.get 2 rfl) 1 (x:=.slice vo ys.length vc) rfl
  have f0:=Blk.frozen (HS6.out.get 2 rfl) 1
  obtain⟨w9,hw9⟩:∃w9,w9=w8.setCell ⟨w3.heap.size,1,none⟩ (.slice zo zs.length zc):=⟨_,rfl⟩
  have HS9:=HS6.out.set1 2 rfl (.slice zo zs.length zc)
  have p0:=Blk.cell (HS9.get 2 rfl) 0 (x:=.slice uo xs.length uc) rfl
  have p1:=Blk.cell (HS9.get 2 rfl) 1 (x:=.slice zo zs.length zc) rfl
  rw[←hw9]at HS9
  replace HS9:Hid (Sta w0 w9 _):=HS9
  have HW:Hid (w9=w8.setCell ⟨w3.heap.size,1,none⟩ (.slice zo zs.length zc)):=hw9
  clear hw9
  go_wp2_with (refine wpList_putB rfl 26 _ _ rfl w.heap.size #[.slice uo xs.length uc,.slice zo zs.length zc] #[.slice none 0 0,.slice none 0 0] rfl rfl (by simp[Value.oneCell']) (by rw[←HW.out];exact HS9.out.get 4 rfl) Tryz.infoB.1 rfl ?_;rw[←HW.out];intro w10 q10 g10;replace HS9:Hid (Sta w0 w10 _):=HS9.out.turn 4 rfl g10 (Blk w.heap.size 26 #[.slice uo xs.length uc,.slice zo zs.length zc]) rfl q10)
  refine bodyPost_ret (results_pair rfl _ _ w.heap.size _ _ rfl q10) rfl ?_
  exact⟨_,_,rfl,xs,zs,by omega,by omega,((((HS9.out.drop 1).drop 1).drop 2).front 1 rfl).two⟩
theorem Own.raise {w:World} {base base':Nat} {v:Value} {xs:List Int} (h:Own w base v xs) (hb:∀k,v.ownBlock=some k→base'≤k):Own w base' v xs:=by
 refine⟨h.1,?_⟩
 rcases h.2 with h'|⟨g,cap,cur,rfl,_,r⟩
 ·exact .inl h'
 ·exact .inr ⟨g,cap,cur,rfl,hb g rfl,r⟩
theorem Sta.ownD {w wx:World} {L:List Item} {u v:Value} {xs ys:List Int} (h:Sta w wx L) (n:Nat) (e:L[n]?=some (Dsk u v xs ys)):OwnD wx w.heap.size u v xs ys:=
 ⟨(h.get n e).1.raise (fun k hk=>(h.lt n e k (by simp[Dsk,hk])).1),(h.get n e).2.1.raise (fun k hk=>(h.lt n e k (by simp[Dsk,hk])).1),(h.get n e).2.2⟩
theorem results_pair3 {fn:Func} {p q r:Tmp} (h:fn.results=#[.cell p 26,.tmp q,.tmp r]) (tmps:Array Value) (w:World) (g:Nat) (u v x y:Value)
  (hp:tmps.getD p undef=.pointer (some ⟨g,0,none⟩)) (hx:tmps.getD q undef=x) (hy:tmps.getD r undef=y) (hr:Pair w g 26 u v):(results fn tmps).run Tryz.prog w=.ok (.tuple #[.agg #[u,v],x,y]) w:=by
 obtain⟨fs,hu⟩:=Tryz.underD
 have hl:=run_loadVar_row w g _ _ _ _ _ hr hu rfl Tryz.infoD
 have hp':tmps[p]?.getD undef=.pointer (some ⟨g,0,none⟩):=by simpa using hp
 have hx':tmps[q]?.getD undef=x:=by simpa using hx
 have hy':tmps[r]?.getD undef=y:=by simpa using hy
 simp[results,h,hp',hx',hy',asAddr,hl]
end Go.Proofs.YtpdggofaobmnlaaGreatDoor
namespace Go.Proofs.YtpdggofaobmnlaaGreatDoor
open Go.ChangeShapes Go.WideShapes Go.ChangeAt Go.RowKit
abbrev Bs:=List UInt8
def S (l:Bs):Value:=.string ⟨l.toArray⟩
def byteI (b:UInt8):Int:=(b.toNat:Int)
def chk:Bs→Int:=fun l=>l.foldl (fun h b=>(31*h+byteI b+1)%999983) 19
theorem byteAt_is (l:Bs) (j:Nat) (h:j<l.length) (c:UInt8) (n:Int) (hc:byteI c=n):(((((⟨l.toArray⟩:ByteArray)[j]'(show j<(⟨l.toArray⟩:ByteArray).size from h)).toNat:Nat):Int)==n)=decide (l[j]=c):=by
 have e:((((⟨l.toArray⟩:ByteArray)[j]'(show j<(⟨l.toArray⟩:ByteArray).size from h)).toNat:Nat):Int)=byteI l[j]:=rfl
 rw[e,←hc]
 by_cases hb:l[j]=c
 ·simp[hb]
 ·have:byteI l[j]≠byteI c:=fun h=>hb (by
   unfold byteI at h
   exact UInt8.toNat_inj.1 (by omega))
  simp[hb,this]
theorem byteI_bd (b:UInt8):0≤byteI b∧byteI b<256:=by
 have:=b.toNat_lt
 unfold byteI;omega
theorem wrap_small {x:Int} (h0:0≤x) (h1:x<9223372036854775808):wrap64 x=x:=by
 unfold wrap64;omega
theorem chk_snoc (l:Bs) (b:UInt8):chk (l++[b])=(31*chk l+byteI b+1)%999983:=by
 simp[chk]
theorem chk_bd (l:Bs):0≤chk l∧chk l<999983:=by
 rcases List.eq_nil_or_concat l with rfl|⟨m,b,rfl⟩
 ·simp[chk]
 ·rw[List.concat_eq_append,chk_snoc];omega
theorem take_snocB (l:Bs) (j:Nat) (h:j<l.length):l.take (j+1)=l.take j++[l[j]]:=List.take_succ_eq_append_getElem h
theorem chk_step (l:Bs) (j:Nat) (h:j<l.length):(wrap64 (wrap64 (31*chk (l.take j)+wrap64 (byteI l[j]))+1)).tmod 999983=chk (l.take (j+1)):=by
 have h1:=chk_bd (l.take j)
 have h2:=byteI_bd l[j]
 rw[take_snocB l j h,chk_snoc]
 rw[wrap_small (x:=byteI l[j]) h2.1 (by omega),wrap_small (x:=31*chk (l.take j)+byteI l[j]) (by omega) (by omega),wrap_small (by omega) (by omega)]
 exact Int.tmod_eq_emod_of_nonneg (by omega)
def plainB (l:Bs):Bool:=l.all (fun b=>b !=10)&&decide (l.length≤300)
theorem plain_not {l:Bs} {j:Nat} (h:j<l.length) (e:l[j]=10):plainB l=false:=by
 have:l.all (fun b=>b !=10)=false:=by
  rw[List.all_eq_false]
  exact⟨l[j],List.getElem_mem h,by simp[e]⟩
 simp[plainB,this]
end Go.Proofs.YtpdggofaobmnlaaGreatDoor
namespace Go.Proofs.YtpdggofaobmnlaaGreatDoor
open Go.RowKit
structure Cm where
 o:Int
 p:Int
 a:Int
 b:Int
 k:Int
def Cm.zero:Cm:=⟨0,0,0,0,0⟩
def inI (x lo hi:Int):Bool:=decide (lo≤x)&&decide (x≤hi)
theorem inI_iff (x lo hi:Int):inI x lo hi=true↔lo≤x∧x≤hi:=by simp[inI]
def Cm.told (c:Cm):Bool:=inI c.o 1 12&&(decide (c.o≤4)||decide (c.p=0))&&(decide (c.o=2)||decide (c.o=3)||decide (c.o=6)||decide (c.o=10)||decide (c.a=0))&&(decide (c.o=3)||decide (c.o=10)||decide (c.b=0))&&(decide (c.o=7)||decide (c.o=10)||decide (c.k=0))
def Cm.fits (c:Cm):Bool:=
 if c.o=6 then inI c.a 0 9999
 else if c.o=10 then inI c.a 0 9999&&inI c.b 1 9999&&inI c.k 1 6
 else if c.o=7 then inI c.k 1 6
 else inI c.p 0 255&&inI c.a 0 65535&&inI c.b 0 65535
def Cm.ok (c:Cm):Bool:=c.told&&c.fits
def Cm.chg (c:Cm):Bool:=c.ok&&inI c.o 2 4
def Cm.Byt (c:Cm):Prop:=(0≤c.o∧c.o≤255)∧(0≤c.p∧c.p≤255)∧(0≤c.a∧c.a≤65535)∧(0≤c.b∧c.b≤65535)∧(0≤c.k∧c.k≤255)
theorem Cm.ok_byt {c:Cm} (h:c.ok=true):c.Byt:=by
 obtain⟨o,p,a,b,k⟩:=c
 unfold Cm.ok Cm.told Cm.fits at h
 dsimp only at h
 unfold Cm.Byt
 dsimp only
 simp only[Bool.and_eq_true,Bool.or_eq_true,decide_eq_true_eq,inI_iff]at h
 obtain⟨⟨⟨⟨⟨h1,h2⟩,h3⟩,h4⟩,h5⟩,h6⟩:=h
 split at h6
 ·rw[inI_iff]at h6;omega
 ·split at h6
  ·simp only[Bool.and_eq_true,inI_iff]at h6;omega
  ·split at h6
   ·rw[inI_iff]at h6;omega
   ·simp only[Bool.and_eq_true,inI_iff]at h6;omega
def bt (x:Int):UInt8:=UInt8.ofNat x.toNat
theorem byteI_bt {x:Int} (h0:0≤x) (h1:x≤255):byteI (bt x)=x:=by
 unfold byteI bt
 rw[UInt8.toNat_ofNat']
 omega
theorem bt_byteI (b:UInt8):bt (byteI b)=b:=by
 apply UInt8.toNat_inj.1
 unfold bt byteI
 rw[UInt8.toNat_ofNat']
 have:=b.toNat_lt
 omega
def sumI (l:Bs):Int:=255-(l.foldl (fun n b=>n+byteI b) 0)%256
def front (c:Cm):Bs:=[bt c.o,bt c.p,bt (c.a/256),bt (c.a%256),bt (c.b/256),bt (c.b%256),bt c.k]
def showC (c:Cm):Bs:=front c++[bt (sumI (front c))]
def showCS (c:Cm):Bs:=if c.ok then showC c else[]
theorem sumI_bd (l:Bs):0≤sumI l∧sumI l≤255:=by unfold sumI;omega
def cmOf (l:Bs):Cm:=⟨byteI (l.getD 0 0),byteI (l.getD 1 0),byteI (l.getD 2 0)*256+byteI (l.getD 3 0),byteI (l.getD 4 0)*256+byteI (l.getD 5 0),byteI (l.getD 6 0)⟩
def codeC (l:Bs):Int:=
 if l.length<8 then 1
 else if 8<l.length then 2
 else if byteI (l.getD 7 0)≠sumI (l.take 7)then 3
 else if inI (cmOf l).o 1 12=false then 4
 else if(cmOf l).ok=false then 5
 else 0
def readC (l:Bs):Cm:=if codeC l=0 then cmOf l else Cm.zero
theorem eight_of {l:Bs} (h:l.length=8):∃a b c d e f g i,l=[a,b,c,d,e,f,g,i]:=by
 match l,h with
 |[a,b,c,d,e,f,g,i],_=>exact⟨a,b,c,d,e,f,g,i,rfl⟩
theorem codeC_zero {l:Bs} (h:codeC l=0):l.length=8∧byteI (l.getD 7 0)=sumI (l.take 7)∧(cmOf l).ok=true:=by
 unfold codeC at h
 split at h
 ·omega
 ·split at h
  ·omega
  ·split at h
   ·omega
   ·split at h
    ·omega
    ·split at h
     ·omega
     ·rename_i h1 h2 h3 h4 h5
      refine⟨by omega,by simpa using h3,by simpa using h5⟩
theorem cmOf_show {c:Cm} (h:c.Byt):cmOf (showC c)=c:=by
 obtain⟨o,p,a,b,k⟩:=c
 obtain⟨h1,h2,h3,h4,h5⟩:=h
 dsimp only at h1 h2 h3 h4 h5
 have e1:=byteI_bt h1.1 h1.2
 have e2:=byteI_bt h2.1 h2.2
 have e3:=byteI_bt (x:=a/256) (by omega) (by omega)
 have e4:=byteI_bt (x:=a%256) (by omega) (by omega)
 have e5:=byteI_bt (x:=b/256) (by omega) (by omega)
 have e6:=byteI_bt (x:=b%256) (by omega) (by omega)
 have e7:=byteI_bt h5.1 h5.2
 show(⟨byteI (bt o),byteI (bt p),byteI (bt (a/256))*256+byteI (bt (a%256)),byteI (bt (b/256))*256+byteI (bt (b%256)),byteI (bt k)⟩:Cm)=⟨o,p,a,b,k⟩
 rw[e1,e2,e3,e4,e5,e6,e7,show a/256*256+a%256=a by omega,show b/256*256+b%256=b by omega]
theorem told_op {c:Cm} (h:c.ok=true):inI c.o 1 12=true:=by
 unfold Cm.ok Cm.told at h
 simp only[Bool.and_eq_true]at h
 exact h.1.1.1.1.1
theorem readC_show {c:Cm} (h:c.ok=true):codeC (showC c)=0∧readC (showC c)=c∧(showC c).length=8:=by
 have hb:=Cm.ok_byt h
 have hc:=cmOf_show hb
 have hl:(showC c).length=8:=rfl
 have hs:byteI ((showC c).getD 7 0)=sumI ((showC c).take 7):=by
  have:=sumI_bd (front c)
  exact byteI_bt this.1 this.2
 have h0:codeC (showC c)=0:=by
  unfold codeC
  rw[hl,hc,h,told_op h]
  simp only[hs]
  simp
 exact⟨h0,by unfold readC;rw[if_pos h0,hc],hl⟩
theorem showC_read {l:Bs} (h:codeC l=0):(readC l).ok=true∧showC (readC l)=l:=by
 obtain⟨h1,h2,h3⟩:=codeC_zero h
 unfold readC
 rw[if_pos h]
 refine⟨h3,?_⟩
 obtain⟨a,b,c,d,e,f,g,i,rfl⟩:=eight_of h1
 have ha:=byteI_bd a
 have hb:=byteI_bd b
 have hc:=byteI_bd c
 have hd:=byteI_bd d
 have he:=byteI_bd e
 have hf:=byteI_bd f
 have hfr:front (cmOf [a,b,c,d,e,f,g,i])=[a,b,c,d,e,f,g]:=by
  simp only[front,cmOf,List.getD_cons_zero,List.getD_cons_succ,bt_byteI]
  rw[show(byteI c*256+byteI d)/256=byteI c by omega,show(byteI c*256+byteI d)%256=byteI d by omega,show(byteI e*256+byteI f)/256=byteI e by omega,show(byteI e*256+byteI f)%256=byteI f by omega]
  simp only[bt_byteI]
 have h2':byteI i=sumI [a,b,c,d,e,f,g]:=h2
 unfold showC
 rw[hfr,←h2',bt_byteI]
 rfl
theorem readC_not {l:Bs} (h:codeC l≠0):readC l=Cm.zero:=by unfold readC;rw[if_neg h]
theorem sum_set (l:Bs) (j:Nat) (h:j<l.length) (x:UInt8):∀n:Int,(l.set j x).foldl (fun n b=>n+byteI b) n=l.foldl (fun n b=>n+byteI b) n+byteI x-byteI l[j]:=by
 induction l generalizing j with
 |nil=>simp at h
 |cons b l ih=>
  intro n
  cases j with
  |zero=>
   simp only[List.set_cons_zero,List.foldl_cons,List.getElem_cons_zero]
   have hs:∀(l:Bs) (m d:Int),l.foldl (fun n b=>n+byteI b) (m+d)=l.foldl (fun n b=>n+byteI b) m+d:=by
    intro l
    induction l with
    |nil=>intro m d;rfl
    |cons c l ih2=>intro m d;simp only[List.foldl_cons];rw[show m+d+byteI c=m+byteI c+d by omega,ih2]
   rw[show n+byteI x=n+byteI b+(byteI x-byteI b) by omega,hs]
   omega
  |succ j=>
   simp only[List.set_cons_succ,List.foldl_cons,List.getElem_cons_succ]
   exact ih j (by simpa using h) _
theorem byteI_inj {a b:UInt8} (h:byteI a=byteI b):a=b:=by
 unfold byteI at h
 exact UInt8.toNat_inj.1 (by omega)
theorem sumI_set (l:Bs) (j:Nat) (h:j<l.length) (x:UInt8) (hne:x≠l[j]):sumI (l.set j x)≠sumI l:=by
 have h1:=sum_set l j h x 0
 have h2:=byteI_bd x
 have h3:=byteI_bd l[j]
 have h4:byteI x≠byteI l[j]:=fun e=>hne (byteI_inj e)
 unfold sumI
 omega
theorem turned (c:Cm) (j:Nat) (hj:j<8) (x:UInt8) (hne:(showC c).set j x≠showC c):codeC ((showC c).set j x)=3:=by
 have hl:(showC c).length=8:=rfl
 have hl2:((showC c).set j x).length=8:=by rw[List.length_set,hl]
 have hx:x≠(showC c)[j]'(by omega):=fun e=>hne (by rw[e,List.set_getElem_self])
 have hlen:(front c).length=7:=rfl
 have key:byteI (((showC c).set j x).getD 7 0)≠sumI (((showC c).set j x).take 7):=by
  have hb:=sumI_bd (front c)
  by_cases h7:j=7
  ·subst h7
   have e1:((showC c).set 7 x).getD 7 0=x:=rfl
   have e2:((showC c).set 7 x).take 7=front c:=rfl
   rw[e1,e2]
   intro e
   apply hx
   apply byteI_inj
   rw[e]
   exact(byteI_bt hb.1 hb.2).symm
  ·have hj7:j<(front c).length:=by omega
   have e1:((showC c).set j x).getD 7 0=bt (sumI (front c)):=by
    rw[List.getD_eq_getElem?_getD,List.getElem?_set_ne h7]
    rfl
   have e2:((showC c).set j x).take 7=(front c).set j x:=by
    unfold showC
    rw[List.set_append_left _ _ hj7,List.take_append_of_le_length (by rw[List.length_set];omega),List.take_of_length_le (by rw[List.length_set];omega)]
   have e3:(showC c)[j]'(by omega)=(front c)[j]:=by
    unfold showC
    rw[List.getElem_append_left hj7]
   rw[e1,e2,byteI_bt hb.1 hb.2]
   exact fun e=>sumI_set (front c) j hj7 x (by rw[←e3];exact hx) e.symm
 unfold codeC
 rw[hl2,if_neg (by omega),if_neg (by omega),if_pos key]
end Go.Proofs.YtpdggofaobmnlaaGreatDoor
