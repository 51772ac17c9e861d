import Derived.Test.YtpdggofaobmnlaaGreatDoorRows
import Derived.WalkKit
import Derived.ProofKit
import Derived.OpenShut
import Derived.ShutString
import Derived.ChangeOld
import Derived.Below
import Derived.Test.YtpdggofaobmnlaaGreatDoorM15
import Derived.Test.YtpdggofaobmnlaaGreatDoorM12
import Derived.Test.YtpdggofaobmnlaaGreatDoorM17
import Derived.Test.YtpdggofaobmnlaaGreatDoorSStore6
import Derived.Test.YtpdggofaobmnlaaGreatDoorM20
import Derived.Test.YtpdggofaobmnlaaGreatDoorM35
import Derived.Lay
import Derived.LaidOnce
import Derived.Test.YtpdggofaobmnlaaGreatDoorCards
import Derived.Test.YtpdggofaobmnlaaGreatDoorTie
import Derived.SevenTiedAt
/- At every list of bytes the law FnStore returns true: nothing is changed by who may not, blocks by no action, and no holding by what is done to blocks; and the program answers as the model. -/
set_option maxRecDepth 100000
set_option maxHeartbeats 20000000
namespace Go.Proofs.YtpdggofaobmnlaaGreatDoor.fnStore
open Go.ChangeShapes Go.WideShapes Go.ChangeAt Go.RowKit
open Go.ChangeMaps (open_string shut_string)
set_option linter.unusedVariables false
theorem own:ownKnob Tryz.prog.godebug=none:=by kernel_rfl
theorem laidOut:laidOutB Tryz.prog=true:=by kernel_rfl
def IsRow (k:IntKind) (w:World) (a:Option Addr) (len cap:Nat) (zs:List Int):Prop:=
 (a=none∧len=0∧cap=0∧zs=[])∨
 ∃x,a=some x∧len≤cap∧cap≤maxLen∧zs.length=cap∧(∀i,i<zs.length→w.cell? (x.add i)=some (.int k (zs.getD i 0)))∧∀n∈zs,(Lit.int k n).wf=true
theorem walk (a0:Option Addr) (len0 cap0:Nat) (z0:List Int) (w:World) (w0:IsRow .u8 w a0 len0 cap0 z0) (hT:TabS w):
  Calls Tryz.prog 3 #[.slice a0 len0 cap0] w fun e w'=>e=.returned (.bool true)∧Below w.heap.size w w':=by
 have HP:Hid (TabS w):=hT
 clear hT
 by_cases hbig:(4096:Int)<(len0:Int)
 ·go_enter Tryz.func3,Tryz.ntmps3
  go_wp2_with (go_at_call 5;refine(big_any _ _ _ _).mono ?_;rintro e w' ⟨rfl,hw'⟩;subst w')
  go_ret
  exact⟨rfl,Below.refl _ _⟩
 ·have HC:Hid (CodeOk w w.heap.size (.slice a0 len0 cap0)):=codeOk_row w0 (by omega)
  clear w0
  go_enter Tryz.func3,Tryz.ntmps3
  go_wp2_with fail
  refine(big_any _ _ _ _).mono ?_
  rintro e w' ⟨rfl,hw'⟩;subst w'
  go_wp2_with fail
  refine(drawDidStore_any w.heap.size _ _ HC.out (Nat.le_refl _)).mono ?_
  rintro e wb ⟨a,b,k,xs,ys,h,i,c,rfl,hx,hy,hk,ra,rb,rk,b3⟩
  have HB0:Hid (Below w.heap.size w wb):=b3
  obtain⟨ao,ac,rfl⟩:=ra.form
  obtain⟨bo,bc,rfl⟩:=rb.form
  obtain⟨ko,kc,rfl⟩:=rk.form
  have RA:Hid (Reads wb (.slice ao xs.length ac) xs):=ra
  have RB:Hid (Reads wb (.slice bo ys.length bc) ys):=rb
  have RK:Hid (Reads wb (.slice ko h.ks.length kc) h.ks):=rk
  have HS:Hid (Sta wb wb []):=Sta.start wb
  clear b3 ra rb rk
  unfold SRV srA CV cmA
  have HPb:Hid (TabS wb):=HP.out.below HB0.out
  obtain⟨y1,hy1⟩:∃y1,y1=(wb.alloc (.cells #[.slice ao xs.length ac,.slice bo ys.length bc,.slice ko h.ks.length kc,.int .i64 h.kd,.int .i64 h.ho,.int .i64 h.tu] 30)).alloc (.cells #[.int .i64 c.o,.int .i64 c.p,.int .i64 c.a,.int .i64 c.b,.int .i64 c.k] 32):=⟨_,rfl⟩
  have hsy1:=(HS.out.box 30 #[.slice ao xs.length ac,.slice bo ys.length bc,.slice ko h.ks.length kc,.int .i64 h.kd,.int .i64 h.ho,.int .i64 h.tu]).box 32 #[.int .i64 c.o,.int .i64 c.p,.int .i64 c.a,.int .i64 c.b,.int .i64 c.k]
  rw[World.size_alloc,←hy1]at hsy1
  replace HS:Hid (Sta wb y1 [Blk (wb.heap.size+1) 32 #[.int .i64 c.o,.int .i64 c.p,.int .i64 c.a,.int .i64 c.b,.int .i64 c.k],Blk wb.heap.size 30 #[.slice ao xs.length ac,.slice bo ys.length bc,.slice ko h.ks.length kc,.int .i64 h.kd,.int .i64 h.ho,.int .i64 h.tu]]):=hsy1
  go_upto_region 4 with fail
  rw[←hy1]
  clear hy1 hsy1
  obtain⟨D,hD⟩:∃D,D=Sr.did ⟨xs,ys,h⟩ i c:=⟨_,rfl⟩
  have gx:xs.length≤1099511627776:=by omega
  have gy:ys.length≤1099511627776:=by omega
  have gz:h.ks.length≤1099511627776:=by omega
  have sK:Hid (D.1.xs.length≤1048576∧D.1.ys.length≤1048576∧D.1.h.ks.length≤1048576):=by rw[hD];exact did_len ⟨xs,ys,h⟩ i c (by simp only;omega) (by simp only;omega) (by simp only;omega)
  have SD':=fun wx a b k h1 h2 h3=>sDidStore_any a b k xs ys h i c wx h1 h2 h3 gx gy gz
  have ID':=fun wx a b k h1 h2 h3 t=>iDidStore_any a b k xs ys h i c wx h1 h2 h3 gx gy gz t
  have HD:Hid (D=Sr.did ⟨xs,ys,h⟩ i c):=hD
  rw[←hD]at SD' ID'
  clear hD
  obtain⟨⟨ks,ns,hh⟩,an⟩:=D
  dsimp only at SD' ID' sK
  have SD:Hid (∀wx a b k,Reads wx a xs→Reads wx b ys→Reads wx k h.ks→Calls Tryz.prog 10 #[.agg #[a,b,k,.int .i64 h.kd,.int .i64 h.ho,.int .i64 h.tu],.int .i64 i,.agg #[.int .i64 c.o,.int .i64 c.p,.int .i64 c.a,.int .i64 c.b,.int .i64 c.k]] wx fun e w'=>∃a' b' k',e=.returned (.tuple #[.agg #[a',b',k',.int .i64 hh.kd,.int .i64 hh.ho,.int .i64 hh.tu],.agg #[.int .i64 an.st,.string ⟨an.tx.toArray⟩]])∧OwnR w' wx.heap.size a' b' k' ks ns hh.ks∧Below wx.heap.size wx w'):=SD'
  have ID:Hid (∀wx a b k,Reads wx a xs→Reads wx b ys→Reads wx k h.ks→TabS wx→Calls Tryz.prog 7 #[.agg #[a,b,k,.int .i64 h.kd,.int .i64 h.ho,.int .i64 h.tu],.int .i64 i,.agg #[.int .i64 c.o,.int .i64 c.p,.int .i64 c.a,.int .i64 c.b,.int .i64 c.k]] wx fun e w'=>∃a' b' k',e=.returned (.tuple #[.agg #[a',b',k',.int .i64 hh.kd,.int .i64 hh.ho,.int .i64 hh.tu],.agg #[.int .i64 an.st,.string ⟨an.tx.toArray⟩]])∧OwnR w' wx.heap.size a' b' k' ks ns hh.ks∧Below wx.heap.size wx w'):=ID'
  have sk:=sK.out.1
  have sn:=sK.out.2.1
  have sh:=sK.out.2.2
  have gk:ks.length≤1099511627776:=by omega
  have gn:ns.length≤1099511627776:=by omega
  have gh:hh.ks.length≤1099511627776:=by omega
  clear sK SD' ID'
  obtain⟨ok,hok⟩:∃ok,ok=Sr.ok ⟨xs,ys,h⟩:=⟨_,rfl⟩
  have HOK:Hid (ok=Sr.ok ⟨xs,ys,h⟩):=hok
  have CS':=fun wx a b k h1 h2 h3=>sstoreok_any a b k xs ys h wx h1 h2 h3 gx gy gz
  have CI':=fun wx a b k h1 h2 h3=>istoreok_any a b k xs ys h wx h1 h2 h3 gx gy gz
  rw[←hok]at CS' CI'
  unfold SRV srA at CS' CI'
  clear hok
  have p_vS_0:y1.cell? ⟨wb.heap.size,0,none⟩=some (.slice ao xs.length ac):=Blk.cell (HS.out.get 1 rfl) 0 rfl
  have p_vS_1:y1.cell? ⟨wb.heap.size,1,none⟩=some (.slice bo ys.length bc):=Blk.cell (HS.out.get 1 rfl) 1 rfl
  have p_vS_2:y1.cell? ⟨wb.heap.size,2,none⟩=some (.slice ko h.ks.length kc):=Blk.cell (HS.out.get 1 rfl) 2 rfl
  have p_vS_3:y1.cell? ⟨wb.heap.size,3,none⟩=some (.int .i64 h.kd):=Blk.cell (HS.out.get 1 rfl) 3 rfl
  have p_vS_4:y1.cell? ⟨wb.heap.size,4,none⟩=some (.int .i64 h.ho):=Blk.cell (HS.out.get 1 rfl) 4 rfl
  have p_vS_5:y1.cell? ⟨wb.heap.size,5,none⟩=some (.int .i64 h.tu):=Blk.cell (HS.out.get 1 rfl) 5 rfl
  have p_vC_0:y1.cell? ⟨wb.heap.size+1,0,none⟩=some (.int .i64 c.o):=Blk.cell (HS.out.get 0 rfl) 0 rfl
  have p_vC_1:y1.cell? ⟨wb.heap.size+1,1,none⟩=some (.int .i64 c.p):=Blk.cell (HS.out.get 0 rfl) 1 rfl
  have p_vC_2:y1.cell? ⟨wb.heap.size+1,2,none⟩=some (.int .i64 c.a):=Blk.cell (HS.out.get 0 rfl) 2 rfl
  have p_vC_3:y1.cell? ⟨wb.heap.size+1,3,none⟩=some (.int .i64 c.b):=Blk.cell (HS.out.get 0 rfl) 3 rfl
  have p_vC_4:y1.cell? ⟨wb.heap.size+1,4,none⟩=some (.int .i64 c.k):=Blk.cell (HS.out.get 0 rfl) 4 rfl
  go_wp2_with fail
  clear p_vS_0 p_vS_1 p_vS_2 p_vS_3 p_vS_4 p_vS_5 p_vC_0 p_vC_1 p_vC_2 p_vC_3 p_vC_4
  refine(ID.out _ _ _ _ (RA.out.below HS.out.below (Nat.le_refl _)) (RB.out.below HS.out.below (Nat.le_refl _)) (RK.out.below HS.out.below (Nat.le_refl _)) (HPb.out.below HS.out.below)).mono ?_
  rintro e y2 ⟨aG,bG,kG,rfl,oy2,by2⟩
  obtain⟨aoG,acG,rfl⟩:=oy2.1.1.reads.form
  obtain⟨boG,bcG,rfl⟩:=oy2.1.2.1.reads.form
  obtain⟨koG,kcG,rfl⟩:=oy2.2.1.reads.form
  replace HS:Hid (Sta wb y2 [Sto (.slice aoG ks.length acG) (.slice boG ns.length bcG) (.slice koG hh.ks.length kcG) ks ns hh.ks,Blk (wb.heap.size+1) 32 #[.int .i64 c.o,.int .i64 c.p,.int .i64 c.a,.int .i64 c.b,.int .i64 c.k],Blk wb.heap.size 30 #[.slice ao xs.length ac,.slice bo ys.length bc,.slice ko h.ks.length kc,.int .i64 h.kd,.int .i64 h.ho,.int .i64 h.tu]]):=HS.out.store oy2 by2
  clear oy2 by2
  obtain⟨y3,hy3⟩:∃y3,y3=(y2.alloc (.cells #[.slice aoG ks.length acG,.slice boG ns.length bcG,.slice koG hh.ks.length kcG,.int .i64 hh.kd,.int .i64 hh.ho,.int .i64 hh.tu] 30)).alloc (.cells #[.int .i64 an.st,.string ⟨an.tx.toArray⟩] 36):=⟨_,rfl⟩
  have hsy3:=(HS.out.box 30 #[.slice aoG ks.length acG,.slice boG ns.length bcG,.slice koG hh.ks.length kcG,.int .i64 hh.kd,.int .i64 hh.ho,.int .i64 hh.tu]).box 36 #[.int .i64 an.st,.string ⟨an.tx.toArray⟩]
  rw[World.size_alloc,←hy3]at hsy3
  replace HS:Hid (Sta wb y3 [Blk (y2.heap.size+1) 36 #[.int .i64 an.st,.string ⟨an.tx.toArray⟩],Blk y2.heap.size 30 #[.slice aoG ks.length acG,.slice boG ns.length bcG,.slice koG hh.ks.length kcG,.int .i64 hh.kd,.int .i64 hh.ho,.int .i64 hh.tu],Sto (.slice aoG ks.length acG) (.slice boG ns.length bcG) (.slice koG hh.ks.length kcG) ks ns hh.ks,Blk (wb.heap.size+1) 32 #[.int .i64 c.o,.int .i64 c.p,.int .i64 c.a,.int .i64 c.b,.int .i64 c.k],Blk wb.heap.size 30 #[.slice ao xs.length ac,.slice bo ys.length bc,.slice ko h.ks.length kc,.int .i64 h.kd,.int .i64 h.ho,.int .i64 h.tu]]):=hsy3
  go_upto_region 5 with fail
  rw[←hy3]
  clear hy3 hsy3
  go_wp2_with fail
  refine(drawNewStore_any w.heap.size _ _ (HC.out.below (HB0.out.trans (HS.out.below.mono HB0.out.size))) (Nat.le_trans HB0.out.size HS.out.below.size)).mono ?_
  rintro e y4 ⟨n,rfl,by4⟩
  replace HS:Hid (Sta wb y4 [Blk (y2.heap.size+1) 36 #[.int .i64 an.st,.string ⟨an.tx.toArray⟩],Blk y2.heap.size 30 #[.slice aoG ks.length acG,.slice boG ns.length bcG,.slice koG hh.ks.length kcG,.int .i64 hh.kd,.int .i64 hh.ho,.int .i64 hh.tu],Sto (.slice aoG ks.length acG) (.slice boG ns.length bcG) (.slice koG hh.ks.length kcG) ks ns hh.ks,Blk (wb.heap.size+1) 32 #[.int .i64 c.o,.int .i64 c.p,.int .i64 c.a,.int .i64 c.b,.int .i64 c.k],Blk wb.heap.size 30 #[.slice ao xs.length ac,.slice bo ys.length bc,.slice ko h.ks.length kc,.int .i64 h.kd,.int .i64 h.ho,.int .i64 h.tu]]):=HS.out.next by4
  clear by4 HC
  obtain⟨E,hE⟩:∃E,E=newS n:=⟨_,rfl⟩
  obtain⟨is,his⟩:∃is,is=cntOk n:=⟨_,rfl⟩
  have eK:Hid (E.xs.length≤1048576∧E.ys.length≤1048576∧E.h.ks.length≤1048576):=by rw[hE];exact new_len n
  have HNS:Hid (is=true→E.ok=true):=by rw[Hid,hE,his];exact fun e=>newS_ok e
  have SN':=fun wx=>snewStore_any n wx
  have IN':=fun wx=>inewStore_any n wx
  rw[←hE,←his]at SN' IN'
  clear hE his
  obtain⟨kn,nn,hn⟩:=E
  dsimp only at SN' IN' eK
  have SN:Hid (∀wx,Calls Tryz.prog 14 #[.int .i64 n] wx fun e w'=>∃a' b' k',e=.returned (.tuple #[.agg #[a',b',k',.int .i64 hn.kd,.int .i64 hn.ho,.int .i64 hn.tu],.bool is])∧OwnR w' wx.heap.size a' b' k' kn nn hn.ks∧Below wx.heap.size wx w'):=SN'
  have IN:Hid (∀wx,Calls Tryz.prog 9 #[.int .i64 n] wx fun e w'=>∃a' b' k',e=.returned (.tuple #[.agg #[a',b',k',.int .i64 hn.kd,.int .i64 hn.ho,.int .i64 hn.tu],.bool is])∧OwnR w' wx.heap.size a' b' k' kn nn hn.ks∧Below wx.heap.size wx w'):=IN'
  have tk:=eK.out.1
  have tn:=eK.out.2.1
  have th:=eK.out.2.2
  have lk:kn.length≤1099511627776:=by omega
  have ln:nn.length≤1099511627776:=by omega
  have lh:hn.ks.length≤1099511627776:=by omega
  clear eK SN' IN'
  go_wp2_with fail
  refine(IN.out _).mono ?_
  rintro e y5 ⟨aZ,bZ,kZ,rfl,oy5,by5⟩
  obtain⟨aoZ,acZ,rfl⟩:=oy5.1.1.reads.form
  obtain⟨boZ,bcZ,rfl⟩:=oy5.1.2.1.reads.form
  obtain⟨koZ,kcZ,rfl⟩:=oy5.2.1.reads.form
  replace HS:Hid (Sta wb y5 [Sto (.slice aoZ kn.length acZ) (.slice boZ nn.length bcZ) (.slice koZ hn.ks.length kcZ) kn nn hn.ks,Blk (y2.heap.size+1) 36 #[.int .i64 an.st,.string ⟨an.tx.toArray⟩],Blk y2.heap.size 30 #[.slice aoG ks.length acG,.slice boG ns.length bcG,.slice koG hh.ks.length kcG,.int .i64 hh.kd,.int .i64 hh.ho,.int .i64 hh.tu],Sto (.slice aoG ks.length acG) (.slice boG ns.length bcG) (.slice koG hh.ks.length kcG) ks ns hh.ks,Blk (wb.heap.size+1) 32 #[.int .i64 c.o,.int .i64 c.p,.int .i64 c.a,.int .i64 c.b,.int .i64 c.k],Blk wb.heap.size 30 #[.slice ao xs.length ac,.slice bo ys.length bc,.slice ko h.ks.length kc,.int .i64 h.kd,.int .i64 h.ho,.int .i64 h.tu]]):=HS.out.store oy5 by5
  clear oy5 by5
  obtain⟨y6,hy6⟩:∃y6,y6=y5.alloc (.cells #[.slice aoZ kn.length acZ,.slice boZ nn.length bcZ,.slice koZ hn.ks.length kcZ,.int .i64 hn.kd,.int .i64 hn.ho,.int .i64 hn.tu] 30):=⟨_,rfl⟩
  replace HS:Hid (Sta wb y6 [Blk y5.heap.size 30 #[.slice aoZ kn.length acZ,.slice boZ nn.length bcZ,.slice koZ hn.ks.length kcZ,.int .i64 hn.kd,.int .i64 hn.ho,.int .i64 hn.tu],Sto (.slice aoZ kn.length acZ) (.slice boZ nn.length bcZ) (.slice koZ hn.ks.length kcZ) kn nn hn.ks,Blk (y2.heap.size+1) 36 #[.int .i64 an.st,.string ⟨an.tx.toArray⟩],Blk y2.heap.size 30 #[.slice aoG ks.length acG,.slice boG ns.length bcG,.slice koG hh.ks.length kcG,.int .i64 hh.kd,.int .i64 hh.ho,.int .i64 hh.tu],Sto (.slice aoG ks.length acG) (.slice boG ns.length bcG) (.slice koG hh.ks.length kcG) ks ns hh.ks,Blk (wb.heap.size+1) 32 #[.int .i64 c.o,.int .i64 c.p,.int .i64 c.a,.int .i64 c.b,.int .i64 c.k],Blk wb.heap.size 30 #[.slice ao xs.length ac,.slice bo ys.length bc,.slice ko h.ks.length kc,.int .i64 h.kd,.int .i64 h.ho,.int .i64 h.tu]]):=by rw[hy6];exact HS.out.box _ _
  go_upto_region 7 with fail
  rw[←hy6]
  clear hy6
  have p_vS_0:y6.cell? ⟨wb.heap.size,0,none⟩=some (.slice ao xs.length ac):=Blk.cell (HS.out.get 6 rfl) 0 rfl
  have p_vS_1:y6.cell? ⟨wb.heap.size,1,none⟩=some (.slice bo ys.length bc):=Blk.cell (HS.out.get 6 rfl) 1 rfl
  have p_vS_2:y6.cell? ⟨wb.heap.size,2,none⟩=some (.slice ko h.ks.length kc):=Blk.cell (HS.out.get 6 rfl) 2 rfl
  have p_vS_3:y6.cell? ⟨wb.heap.size,3,none⟩=some (.int .i64 h.kd):=Blk.cell (HS.out.get 6 rfl) 3 rfl
  have p_vS_4:y6.cell? ⟨wb.heap.size,4,none⟩=some (.int .i64 h.ho):=Blk.cell (HS.out.get 6 rfl) 4 rfl
  have p_vS_5:y6.cell? ⟨wb.heap.size,5,none⟩=some (.int .i64 h.tu):=Blk.cell (HS.out.get 6 rfl) 5 rfl
  have p_vC_0:y6.cell? ⟨wb.heap.size+1,0,none⟩=some (.int .i64 c.o):=Blk.cell (HS.out.get 5 rfl) 0 rfl
  have p_vC_1:y6.cell? ⟨wb.heap.size+1,1,none⟩=some (.int .i64 c.p):=Blk.cell (HS.out.get 5 rfl) 1 rfl
  have p_vC_2:y6.cell? ⟨wb.heap.size+1,2,none⟩=some (.int .i64 c.a):=Blk.cell (HS.out.get 5 rfl) 2 rfl
  have p_vC_3:y6.cell? ⟨wb.heap.size+1,3,none⟩=some (.int .i64 c.b):=Blk.cell (HS.out.get 5 rfl) 3 rfl
  have p_vC_4:y6.cell? ⟨wb.heap.size+1,4,none⟩=some (.int .i64 c.k):=Blk.cell (HS.out.get 5 rfl) 4 rfl
  go_wp2_with fail
  clear p_vS_0 p_vS_1 p_vS_2 p_vS_3 p_vS_4 p_vS_5 p_vC_0 p_vC_1 p_vC_2 p_vC_3 p_vC_4
  refine(SD.out _ _ _ _ (RA.out.below HS.out.below (Nat.le_refl _)) (RB.out.below HS.out.below (Nat.le_refl _)) (RK.out.below HS.out.below (Nat.le_refl _))).mono ?_
  rintro e y7 ⟨aW,bW,kW,rfl,oy7,by7⟩
  obtain⟨aoW,acW,rfl⟩:=oy7.1.1.reads.form
  obtain⟨boW,bcW,rfl⟩:=oy7.1.2.1.reads.form
  obtain⟨koW,kcW,rfl⟩:=oy7.2.1.reads.form
  replace HS:Hid (Sta wb y7 [Sto (.slice aoW ks.length acW) (.slice boW ns.length bcW) (.slice koW hh.ks.length kcW) ks ns hh.ks,Blk y5.heap.size 30 #[.slice aoZ kn.length acZ,.slice boZ nn.length bcZ,.slice koZ hn.ks.length kcZ,.int .i64 hn.kd,.int .i64 hn.ho,.int .i64 hn.tu],Sto (.slice aoZ kn.length acZ) (.slice boZ nn.length bcZ) (.slice koZ hn.ks.length kcZ) kn nn hn.ks,Blk (y2.heap.size+1) 36 #[.int .i64 an.st,.string ⟨an.tx.toArray⟩],Blk y2.heap.size 30 #[.slice aoG ks.length acG,.slice boG ns.length bcG,.slice koG hh.ks.length kcG,.int .i64 hh.kd,.int .i64 hh.ho,.int .i64 hh.tu],Sto (.slice aoG ks.length acG) (.slice boG ns.length bcG) (.slice koG hh.ks.length kcG) ks ns hh.ks,Blk (wb.heap.size+1) 32 #[.int .i64 c.o,.int .i64 c.p,.int .i64 c.a,.int .i64 c.b,.int .i64 c.k],Blk wb.heap.size 30 #[.slice ao xs.length ac,.slice bo ys.length bc,.slice ko h.ks.length kc,.int .i64 h.kd,.int .i64 h.ho,.int .i64 h.tu]]):=HS.out.store oy7 by7
  clear oy7 by7
  obtain⟨y8,hy8⟩:∃y8,y8=(y7.alloc (.cells #[.slice aoW ks.length acW,.slice boW ns.length bcW,.slice koW hh.ks.length kcW,.int .i64 hh.kd,.int .i64 hh.ho,.int .i64 hh.tu] 30)).alloc (.cells #[.int .i64 an.st,.string ⟨an.tx.toArray⟩] 36):=⟨_,rfl⟩
  have hsy8:=(HS.out.box 30 #[.slice aoW ks.length acW,.slice boW ns.length bcW,.slice koW hh.ks.length kcW,.int .i64 hh.kd,.int .i64 hh.ho,.int .i64 hh.tu]).box 36 #[.int .i64 an.st,.string ⟨an.tx.toArray⟩]
  rw[World.size_alloc,←hy8]at hsy8
  replace HS:Hid (Sta wb y8 [Blk (y7.heap.size+1) 36 #[.int .i64 an.st,.string ⟨an.tx.toArray⟩],Blk y7.heap.size 30 #[.slice aoW ks.length acW,.slice boW ns.length bcW,.slice koW hh.ks.length kcW,.int .i64 hh.kd,.int .i64 hh.ho,.int .i64 hh.tu],Sto (.slice aoW ks.length acW) (.slice boW ns.length bcW) (.slice koW hh.ks.length kcW) ks ns hh.ks,Blk y5.heap.size 30 #[.slice aoZ kn.length acZ,.slice boZ nn.length bcZ,.slice koZ hn.ks.length kcZ,.int .i64 hn.kd,.int .i64 hn.ho,.int .i64 hn.tu],Sto (.slice aoZ kn.length acZ) (.slice boZ nn.length bcZ) (.slice koZ hn.ks.length kcZ) kn nn hn.ks,Blk (y2.heap.size+1) 36 #[.int .i64 an.st,.string ⟨an.tx.toArray⟩],Blk y2.heap.size 30 #[.slice aoG ks.length acG,.slice boG ns.length bcG,.slice koG hh.ks.length kcG,.int .i64 hh.kd,.int .i64 hh.ho,.int .i64 hh.tu],Sto (.slice aoG ks.length acG) (.slice boG ns.length bcG) (.slice koG hh.ks.length kcG) ks ns hh.ks,Blk (wb.heap.size+1) 32 #[.int .i64 c.o,.int .i64 c.p,.int .i64 c.a,.int .i64 c.b,.int .i64 c.k],Blk wb.heap.size 30 #[.slice ao xs.length ac,.slice bo ys.length bc,.slice ko h.ks.length kc,.int .i64 h.kd,.int .i64 h.ho,.int .i64 h.tu]]):=hsy8
  go_upto_region 8 with fail
  rw[←hy8]
  clear hy8 hsy8
  clear SD ID IN
  have e_a:(an.st==an.st)=true:=by simp
  have e_t:(an.tx==an.tx)=true:=by simp
  have e_k:(ok !=ok)=false:=by simp
  have LK':=fun u v q a b k w' (h1:Reads w' u ks) (h2:Reads w' v ns) (h3:Reads w' q hh.ks) (h4:Reads w' a ks) (h5:Reads w' b ns) (h6:Reads w' k hh.ks)=>likeStore_any u v q a b k ks ns hh w' h1 h2 h3 h4 h5 h6 gk gn gh
  unfold SRV srA at LK'
  go_upto_region 8 with fail
  obtain⟨p,hp⟩:∃p,p=fun x=>Sta wb x [Blk (y7.heap.size+1) 36 #[.int .i64 an.st,.string ⟨an.tx.toArray⟩],Blk y7.heap.size 30 #[.slice aoW ks.length acW,.slice boW ns.length bcW,.slice koW hh.ks.length kcW,.int .i64 hh.kd,.int .i64 hh.ho,.int .i64 hh.tu],Sto (.slice aoW ks.length acW) (.slice boW ns.length bcW) (.slice koW hh.ks.length kcW) ks ns hh.ks,Blk y5.heap.size 30 #[.slice aoZ kn.length acZ,.slice boZ nn.length bcZ,.slice koZ hn.ks.length kcZ,.int .i64 hn.kd,.int .i64 hn.ho,.int .i64 hn.tu],Sto (.slice aoZ kn.length acZ) (.slice boZ nn.length bcZ) (.slice koZ hn.ks.length kcZ) kn nn hn.ks,Blk (y2.heap.size+1) 36 #[.int .i64 an.st,.string ⟨an.tx.toArray⟩],Blk y2.heap.size 30 #[.slice aoG ks.length acG,.slice boG ns.length bcG,.slice koG hh.ks.length kcG,.int .i64 hh.kd,.int .i64 hh.ho,.int .i64 hh.tu],Sto (.slice aoG ks.length acG) (.slice boG ns.length bcG) (.slice koG hh.ks.length kcG) ks ns hh.ks,Blk (wb.heap.size+1) 32 #[.int .i64 c.o,.int .i64 c.p,.int .i64 c.a,.int .i64 c.b,.int .i64 c.k],Blk wb.heap.size 30 #[.slice ao xs.length ac,.slice bo ys.length bc,.slice ko h.ks.length kc,.int .i64 h.kd,.int .i64 h.ho,.int .i64 h.tu]]:=⟨_,rfl⟩
  have HQ:Hid (∀x,p x→Sta wb x [Blk (y7.heap.size+1) 36 #[.int .i64 an.st,.string ⟨an.tx.toArray⟩],Blk y7.heap.size 30 #[.slice aoW ks.length acW,.slice boW ns.length bcW,.slice koW hh.ks.length kcW,.int .i64 hh.kd,.int .i64 hh.ho,.int .i64 hh.tu],Sto (.slice aoW ks.length acW) (.slice boW ns.length bcW) (.slice koW hh.ks.length kcW) ks ns hh.ks,Blk y5.heap.size 30 #[.slice aoZ kn.length acZ,.slice boZ nn.length bcZ,.slice koZ hn.ks.length kcZ,.int .i64 hn.kd,.int .i64 hn.ho,.int .i64 hn.tu],Sto (.slice aoZ kn.length acZ) (.slice boZ nn.length bcZ) (.slice koZ hn.ks.length kcZ) kn nn hn.ks,Blk (y2.heap.size+1) 36 #[.int .i64 an.st,.string ⟨an.tx.toArray⟩],Blk y2.heap.size 30 #[.slice aoG ks.length acG,.slice boG ns.length bcG,.slice koG hh.ks.length kcG,.int .i64 hh.kd,.int .i64 hh.ho,.int .i64 hh.tu],Sto (.slice aoG ks.length acG) (.slice boG ns.length bcG) (.slice koG hh.ks.length kcG) ks ns hh.ks,Blk (wb.heap.size+1) 32 #[.int .i64 c.o,.int .i64 c.p,.int .i64 c.a,.int .i64 c.b,.int .i64 c.k],Blk wb.heap.size 30 #[.slice ao xs.length ac,.slice bo ys.length bc,.slice ko h.ks.length kc,.int .i64 h.kd,.int .i64 h.ho,.int .i64 h.tu]]):=by rw[hp];exact fun _ h=>h
  have HN:Hid (∀x w',p x→Below x.heap.size x w'→p w'):=by rw[hp];exact fun _ _ h b=>h.next b
  have H0:Hid (p y8.drew):=by rw[hp];exact HS.out.drew1
  have hne:Nonempty (Kin p):=⟨⟨_,H0.out⟩⟩
  have m_vG_0:∀q:Kin p,q.x.cell? ⟨y2.heap.size,0,none⟩=some (.slice aoG ks.length acG):=fun q=>Blk.cell ((HQ.out _ q.h).get 6 rfl) 0 rfl
  have m_vG_1:∀q:Kin p,q.x.cell? ⟨y2.heap.size,1,none⟩=some (.slice boG ns.length bcG):=fun q=>Blk.cell ((HQ.out _ q.h).get 6 rfl) 1 rfl
  have m_vG_2:∀q:Kin p,q.x.cell? ⟨y2.heap.size,2,none⟩=some (.slice koG hh.ks.length kcG):=fun q=>Blk.cell ((HQ.out _ q.h).get 6 rfl) 2 rfl
  have m_vG_3:∀q:Kin p,q.x.cell? ⟨y2.heap.size,3,none⟩=some (.int .i64 hh.kd):=fun q=>Blk.cell ((HQ.out _ q.h).get 6 rfl) 3 rfl
  have m_vG_4:∀q:Kin p,q.x.cell? ⟨y2.heap.size,4,none⟩=some (.int .i64 hh.ho):=fun q=>Blk.cell ((HQ.out _ q.h).get 6 rfl) 4 rfl
  have m_vG_5:∀q:Kin p,q.x.cell? ⟨y2.heap.size,5,none⟩=some (.int .i64 hh.tu):=fun q=>Blk.cell ((HQ.out _ q.h).get 6 rfl) 5 rfl
  have m_vW_0:∀q:Kin p,q.x.cell? ⟨y7.heap.size,0,none⟩=some (.slice aoW ks.length acW):=fun q=>Blk.cell ((HQ.out _ q.h).get 1 rfl) 0 rfl
  have m_vW_1:∀q:Kin p,q.x.cell? ⟨y7.heap.size,1,none⟩=some (.slice boW ns.length bcW):=fun q=>Blk.cell ((HQ.out _ q.h).get 1 rfl) 1 rfl
  have m_vW_2:∀q:Kin p,q.x.cell? ⟨y7.heap.size,2,none⟩=some (.slice koW hh.ks.length kcW):=fun q=>Blk.cell ((HQ.out _ q.h).get 1 rfl) 2 rfl
  have m_vW_3:∀q:Kin p,q.x.cell? ⟨y7.heap.size,3,none⟩=some (.int .i64 hh.kd):=fun q=>Blk.cell ((HQ.out _ q.h).get 1 rfl) 3 rfl
  have m_vW_4:∀q:Kin p,q.x.cell? ⟨y7.heap.size,4,none⟩=some (.int .i64 hh.ho):=fun q=>Blk.cell ((HQ.out _ q.h).get 1 rfl) 4 rfl
  have m_vW_5:∀q:Kin p,q.x.cell? ⟨y7.heap.size,5,none⟩=some (.int .i64 hh.tu):=fun q=>Blk.cell ((HQ.out _ q.h).get 1 rfl) 5 rfl
  have m_aG_0:∀q:Kin p,q.x.cell? ⟨y2.heap.size+1,0,none⟩=some (.int .i64 an.st):=fun q=>Blk.cell ((HQ.out _ q.h).get 5 rfl) 0 rfl
  have m_aG_1:∀q:Kin p,q.x.cell? ⟨y2.heap.size+1,1,none⟩=some (.string ⟨an.tx.toArray⟩):=fun q=>Blk.cell ((HQ.out _ q.h).get 5 rfl) 1 rfl
  have m_aW_0:∀q:Kin p,q.x.cell? ⟨y7.heap.size+1,0,none⟩=some (.int .i64 an.st):=fun q=>Blk.cell ((HQ.out _ q.h).get 0 rfl) 0 rfl
  have m_aW_1:∀q:Kin p,q.x.cell? ⟨y7.heap.size+1,1,none⟩=some (.string ⟨an.tx.toArray⟩):=fun q=>Blk.cell ((HQ.out _ q.h).get 0 rfl) 1 rfl
  have m_vS_0:∀q:Kin p,q.x.cell? ⟨wb.heap.size,0,none⟩=some (.slice ao xs.length ac):=fun q=>Blk.cell ((HQ.out _ q.h).get 9 rfl) 0 rfl
  have m_vS_1:∀q:Kin p,q.x.cell? ⟨wb.heap.size,1,none⟩=some (.slice bo ys.length bc):=fun q=>Blk.cell ((HQ.out _ q.h).get 9 rfl) 1 rfl
  have m_vS_2:∀q:Kin p,q.x.cell? ⟨wb.heap.size,2,none⟩=some (.slice ko h.ks.length kc):=fun q=>Blk.cell ((HQ.out _ q.h).get 9 rfl) 2 rfl
  have m_vS_3:∀q:Kin p,q.x.cell? ⟨wb.heap.size,3,none⟩=some (.int .i64 h.kd):=fun q=>Blk.cell ((HQ.out _ q.h).get 9 rfl) 3 rfl
  have m_vS_4:∀q:Kin p,q.x.cell? ⟨wb.heap.size,4,none⟩=some (.int .i64 h.ho):=fun q=>Blk.cell ((HQ.out _ q.h).get 9 rfl) 4 rfl
  have m_vS_5:∀q:Kin p,q.x.cell? ⟨wb.heap.size,5,none⟩=some (.int .i64 h.tu):=fun q=>Blk.cell ((HQ.out _ q.h).get 9 rfl) 5 rfl
  clear hp HS
  refine wp_region_kin p (by kernel_rfl) (by kernel_rfl) H0.out ?_
  repeat(quiet_step (first
   |(go_at_call 11;exact Kin.call (LK' _ _ _ _ _ _ _ ((HQ.out _ (Kin.h _)).rA 7 rfl) ((HQ.out _ (Kin.h _)).rB 7 rfl) ((HQ.out _ (Kin.h _)).rK 7 rfl) ((HQ.out _ (Kin.h _)).rA 2 rfl) ((HQ.out _ (Kin.h _)).rB 2 rfl) ((HQ.out _ (Kin.h _)).rK 2 rfl)) HN.out)
   |(go_at_call 12;exact Kin.call (CI' _ _ _ _ (RA.out.below (HQ.out _ (Kin.h _)).below (Nat.le_refl _)) (RB.out.below (HQ.out _ (Kin.h _)).below (Nat.le_refl _)) (RK.out.below (HQ.out _ (Kin.h _)).below (Nat.le_refl _))) HN.out)
   |(go_at_call 13;exact Kin.call (CS' _ _ _ _ (RA.out.below (HQ.out _ (Kin.h _)).below (Nat.le_refl _)) (RB.out.below (HQ.out _ (Kin.h _)).below (Nat.le_refl _)) (RK.out.below (HQ.out _ (Kin.h _)).below (Nat.le_refl _))) HN.out)))
  refine wpQuiet_nil ?_
  intro ak hk'
  have HS:Hid (Sta wb ak [Blk (y7.heap.size+1) 36 #[.int .i64 an.st,.string ⟨an.tx.toArray⟩],Blk y7.heap.size 30 #[.slice aoW ks.length acW,.slice boW ns.length bcW,.slice koW hh.ks.length kcW,.int .i64 hh.kd,.int .i64 hh.ho,.int .i64 hh.tu],Sto (.slice aoW ks.length acW) (.slice boW ns.length bcW) (.slice koW hh.ks.length kcW) ks ns hh.ks,Blk y5.heap.size 30 #[.slice aoZ kn.length acZ,.slice boZ nn.length bcZ,.slice koZ hn.ks.length kcZ,.int .i64 hn.kd,.int .i64 hn.ho,.int .i64 hn.tu],Sto (.slice aoZ kn.length acZ) (.slice boZ nn.length bcZ) (.slice koZ hn.ks.length kcZ) kn nn hn.ks,Blk (y2.heap.size+1) 36 #[.int .i64 an.st,.string ⟨an.tx.toArray⟩],Blk y2.heap.size 30 #[.slice aoG ks.length acG,.slice boG ns.length bcG,.slice koG hh.ks.length kcG,.int .i64 hh.kd,.int .i64 hh.ho,.int .i64 hh.tu],Sto (.slice aoG ks.length acG) (.slice boG ns.length bcG) (.slice koG hh.ks.length kcG) ks ns hh.ks,Blk (wb.heap.size+1) 32 #[.int .i64 c.o,.int .i64 c.p,.int .i64 c.a,.int .i64 c.b,.int .i64 c.k],Blk wb.heap.size 30 #[.slice ao xs.length ac,.slice bo ys.length bc,.slice ko h.ks.length kc,.int .i64 h.kd,.int .i64 h.ho,.int .i64 h.tu]]):=by{obtain⟨q,rfl⟩:=hk';exact HQ.out _ q.h}
  clear hk' HQ HN H0 hne m_vG_0 m_vG_1 m_vG_2 m_vG_3 m_vG_4 m_vG_5 m_vW_0 m_vW_1 m_vW_2 m_vW_3 m_vW_4 m_vW_5 m_aG_0 m_aG_1 m_aW_0 m_aW_1 m_vS_0 m_vS_1 m_vS_2 m_vS_3 m_vS_4 m_vS_5
  obtain⟨y9,hy9⟩:∃y9,y9=ak:=⟨_,rfl⟩
  rw[←hy9]at HS⊢
  clear hy9
  clear LK' CI' e_a e_t e_k
  go_wp2_with fail
  refine(SN.out _).mono ?_
  rintro e y10 ⟨aY,bY,kY,rfl,oy10,by10⟩
  obtain⟨aoY,acY,rfl⟩:=oy10.1.1.reads.form
  obtain⟨boY,bcY,rfl⟩:=oy10.1.2.1.reads.form
  obtain⟨koY,kcY,rfl⟩:=oy10.2.1.reads.form
  replace HS:Hid (Sta wb y10 [Sto (.slice aoY kn.length acY) (.slice boY nn.length bcY) (.slice koY hn.ks.length kcY) kn nn hn.ks,Blk (y7.heap.size+1) 36 #[.int .i64 an.st,.string ⟨an.tx.toArray⟩],Blk y7.heap.size 30 #[.slice aoW ks.length acW,.slice boW ns.length bcW,.slice koW hh.ks.length kcW,.int .i64 hh.kd,.int .i64 hh.ho,.int .i64 hh.tu],Sto (.slice aoW ks.length acW) (.slice boW ns.length bcW) (.slice koW hh.ks.length kcW) ks ns hh.ks,Blk y5.heap.size 30 #[.slice aoZ kn.length acZ,.slice boZ nn.length bcZ,.slice koZ hn.ks.length kcZ,.int .i64 hn.kd,.int .i64 hn.ho,.int .i64 hn.tu],Sto (.slice aoZ kn.length acZ) (.slice boZ nn.length bcZ) (.slice koZ hn.ks.length kcZ) kn nn hn.ks,Blk (y2.heap.size+1) 36 #[.int .i64 an.st,.string ⟨an.tx.toArray⟩],Blk y2.heap.size 30 #[.slice aoG ks.length acG,.slice boG ns.length bcG,.slice koG hh.ks.length kcG,.int .i64 hh.kd,.int .i64 hh.ho,.int .i64 hh.tu],Sto (.slice aoG ks.length acG) (.slice boG ns.length bcG) (.slice koG hh.ks.length kcG) ks ns hh.ks,Blk (wb.heap.size+1) 32 #[.int .i64 c.o,.int .i64 c.p,.int .i64 c.a,.int .i64 c.b,.int .i64 c.k],Blk wb.heap.size 30 #[.slice ao xs.length ac,.slice bo ys.length bc,.slice ko h.ks.length kc,.int .i64 h.kd,.int .i64 h.ho,.int .i64 h.tu]]):=HS.out.store oy10 by10
  clear oy10 by10
  obtain⟨y11,hy11⟩:∃y11,y11=y10.alloc (.cells #[.slice aoY kn.length acY,.slice boY nn.length bcY,.slice koY hn.ks.length kcY,.int .i64 hn.kd,.int .i64 hn.ho,.int .i64 hn.tu] 30):=⟨_,rfl⟩
  replace HS:Hid (Sta wb y11 [Blk y10.heap.size 30 #[.slice aoY kn.length acY,.slice boY nn.length bcY,.slice koY hn.ks.length kcY,.int .i64 hn.kd,.int .i64 hn.ho,.int .i64 hn.tu],Sto (.slice aoY kn.length acY) (.slice boY nn.length bcY) (.slice koY hn.ks.length kcY) kn nn hn.ks,Blk (y7.heap.size+1) 36 #[.int .i64 an.st,.string ⟨an.tx.toArray⟩],Blk y7.heap.size 30 #[.slice aoW ks.length acW,.slice boW ns.length bcW,.slice koW hh.ks.length kcW,.int .i64 hh.kd,.int .i64 hh.ho,.int .i64 hh.tu],Sto (.slice aoW ks.length acW) (.slice boW ns.length bcW) (.slice koW hh.ks.length kcW) ks ns hh.ks,Blk y5.heap.size 30 #[.slice aoZ kn.length acZ,.slice boZ nn.length bcZ,.slice koZ hn.ks.length kcZ,.int .i64 hn.kd,.int .i64 hn.ho,.int .i64 hn.tu],Sto (.slice aoZ kn.length acZ) (.slice boZ nn.length bcZ) (.slice koZ hn.ks.length kcZ) kn nn hn.ks,Blk (y2.heap.size+1) 36 #[.int .i64 an.st,.string ⟨an.tx.toArray⟩],Blk y2.heap.size 30 #[.slice aoG ks.length acG,.slice boG ns.length bcG,.slice koG hh.ks.length kcG,.int .i64 hh.kd,.int .i64 hh.ho,.int .i64 hh.tu],Sto (.slice aoG ks.length acG) (.slice boG ns.length bcG) (.slice koG hh.ks.length kcG) ks ns hh.ks,Blk (wb.heap.size+1) 32 #[.int .i64 c.o,.int .i64 c.p,.int .i64 c.a,.int .i64 c.b,.int .i64 c.k],Blk wb.heap.size 30 #[.slice ao xs.length ac,.slice bo ys.length bc,.slice ko h.ks.length kc,.int .i64 h.kd,.int .i64 h.ho,.int .i64 h.tu]]):=by rw[hy11];exact HS.out.box _ _
  go_upto_region 11 with fail
  rw[←hy11]
  clear hy11
  go_cut [81] (fun t wx=>t=.bool false∧Hid (Sta wb wx [Blk y10.heap.size 30 #[.slice aoY kn.length acY,.slice boY nn.length bcY,.slice koY hn.ks.length kcY,.int .i64 hn.kd,.int .i64 hn.ho,.int .i64 hn.tu],Sto (.slice aoY kn.length acY) (.slice boY nn.length bcY) (.slice koY hn.ks.length kcY) kn nn hn.ks,Blk (y7.heap.size+1) 36 #[.int .i64 an.st,.string ⟨an.tx.toArray⟩],Blk y7.heap.size 30 #[.slice aoW ks.length acW,.slice boW ns.length bcW,.slice koW hh.ks.length kcW,.int .i64 hh.kd,.int .i64 hh.ho,.int .i64 hh.tu],Sto (.slice aoW ks.length acW) (.slice boW ns.length bcW) (.slice koW hh.ks.length kcW) ks ns hh.ks,Blk y5.heap.size 30 #[.slice aoZ kn.length acZ,.slice boZ nn.length bcZ,.slice koZ hn.ks.length kcZ,.int .i64 hn.kd,.int .i64 hn.ho,.int .i64 hn.tu],Sto (.slice aoZ kn.length acZ) (.slice boZ nn.length bcZ) (.slice koZ hn.ks.length kcZ) kn nn hn.ks,Blk (y2.heap.size+1) 36 #[.int .i64 an.st,.string ⟨an.tx.toArray⟩],Blk y2.heap.size 30 #[.slice aoG ks.length acG,.slice boG ns.length bcG,.slice koG hh.ks.length kcG,.int .i64 hh.kd,.int .i64 hh.ho,.int .i64 hh.tu],Sto (.slice aoG ks.length acG) (.slice boG ns.length bcG) (.slice koG hh.ks.length kcG) ks ns hh.ks,Blk (wb.heap.size+1) 32 #[.int .i64 c.o,.int .i64 c.p,.int .i64 c.a,.int .i64 c.b,.int .i64 c.k],Blk wb.heap.size 30 #[.slice ao xs.length ac,.slice bo ys.length bc,.slice ko h.ks.length kc,.int .i64 h.kd,.int .i64 h.ho,.int .i64 h.tu]]))
  case first=>
   have e_i:(is !=is)=false:=by simp
   have LN':=fun u v q a b k w' (h1:Reads w' u kn) (h2:Reads w' v nn) (h3:Reads w' q hn.ks) (h4:Reads w' a kn) (h5:Reads w' b nn) (h6:Reads w' k hn.ks)=>likeStore_any u v q a b k kn nn hn w' h1 h2 h3 h4 h5 h6 lk ln lh
   have IZ':=fun wx a b k h1 h2 h3=>istoreok_any a b k kn nn hn wx h1 h2 h3 lk ln lh
   unfold SRV srA at LN' IZ'
   have p_vZ_0:y11.cell? ⟨y5.heap.size,0,none⟩=some (.slice aoZ kn.length acZ):=Blk.cell (HS.out.get 5 rfl) 0 rfl
   have p_vZ_1:y11.cell? ⟨y5.heap.size,1,none⟩=some (.slice boZ nn.length bcZ):=Blk.cell (HS.out.get 5 rfl) 1 rfl
   have p_vZ_2:y11.cell? ⟨y5.heap.size,2,none⟩=some (.slice koZ hn.ks.length kcZ):=Blk.cell (HS.out.get 5 rfl) 2 rfl
   have p_vZ_3:y11.cell? ⟨y5.heap.size,3,none⟩=some (.int .i64 hn.kd):=Blk.cell (HS.out.get 5 rfl) 3 rfl
   have p_vZ_4:y11.cell? ⟨y5.heap.size,4,none⟩=some (.int .i64 hn.ho):=Blk.cell (HS.out.get 5 rfl) 4 rfl
   have p_vZ_5:y11.cell? ⟨y5.heap.size,5,none⟩=some (.int .i64 hn.tu):=Blk.cell (HS.out.get 5 rfl) 5 rfl
   have p_vY_0:y11.cell? ⟨y10.heap.size,0,none⟩=some (.slice aoY kn.length acY):=Blk.cell (HS.out.get 0 rfl) 0 rfl
   have p_vY_1:y11.cell? ⟨y10.heap.size,1,none⟩=some (.slice boY nn.length bcY):=Blk.cell (HS.out.get 0 rfl) 1 rfl
   have p_vY_2:y11.cell? ⟨y10.heap.size,2,none⟩=some (.slice koY hn.ks.length kcY):=Blk.cell (HS.out.get 0 rfl) 2 rfl
   have p_vY_3:y11.cell? ⟨y10.heap.size,3,none⟩=some (.int .i64 hn.kd):=Blk.cell (HS.out.get 0 rfl) 3 rfl
   have p_vY_4:y11.cell? ⟨y10.heap.size,4,none⟩=some (.int .i64 hn.ho):=Blk.cell (HS.out.get 0 rfl) 4 rfl
   have p_vY_5:y11.cell? ⟨y10.heap.size,5,none⟩=some (.int .i64 hn.tu):=Blk.cell (HS.out.get 0 rfl) 5 rfl
   go_wp2_with fail
   clear p_vZ_0 p_vZ_1 p_vZ_2 p_vZ_3 p_vZ_4 p_vZ_5 p_vY_0 p_vY_1 p_vY_2 p_vY_3 p_vY_4 p_vY_5
   refine(LN' _ _ _ _ _ _ _ (HS.out.rA 6 rfl) (HS.out.rB 6 rfl) (HS.out.rK 6 rfl) (HS.out.rA 1 rfl) (HS.out.rB 1 rfl) (HS.out.rK 1 rfl)).mono ?_
   rintro e y12 ⟨rfl,by12⟩
   replace HS:Hid (Sta wb y12 [Blk y10.heap.size 30 #[.slice aoY kn.length acY,.slice boY nn.length bcY,.slice koY hn.ks.length kcY,.int .i64 hn.kd,.int .i64 hn.ho,.int .i64 hn.tu],Sto (.slice aoY kn.length acY) (.slice boY nn.length bcY) (.slice koY hn.ks.length kcY) kn nn hn.ks,Blk (y7.heap.size+1) 36 #[.int .i64 an.st,.string ⟨an.tx.toArray⟩],Blk y7.heap.size 30 #[.slice aoW ks.length acW,.slice boW ns.length bcW,.slice koW hh.ks.length kcW,.int .i64 hh.kd,.int .i64 hh.ho,.int .i64 hh.tu],Sto (.slice aoW ks.length acW) (.slice boW ns.length bcW) (.slice koW hh.ks.length kcW) ks ns hh.ks,Blk y5.heap.size 30 #[.slice aoZ kn.length acZ,.slice boZ nn.length bcZ,.slice koZ hn.ks.length kcZ,.int .i64 hn.kd,.int .i64 hn.ho,.int .i64 hn.tu],Sto (.slice aoZ kn.length acZ) (.slice boZ nn.length bcZ) (.slice koZ hn.ks.length kcZ) kn nn hn.ks,Blk (y2.heap.size+1) 36 #[.int .i64 an.st,.string ⟨an.tx.toArray⟩],Blk y2.heap.size 30 #[.slice aoG ks.length acG,.slice boG ns.length bcG,.slice koG hh.ks.length kcG,.int .i64 hh.kd,.int .i64 hh.ho,.int .i64 hh.tu],Sto (.slice aoG ks.length acG) (.slice boG ns.length bcG) (.slice koG hh.ks.length kcG) ks ns hh.ks,Blk (wb.heap.size+1) 32 #[.int .i64 c.o,.int .i64 c.p,.int .i64 c.a,.int .i64 c.b,.int .i64 c.k],Blk wb.heap.size 30 #[.slice ao xs.length ac,.slice bo ys.length bc,.slice ko h.ks.length kc,.int .i64 h.kd,.int .i64 h.ho,.int .i64 h.tu]]):=HS.out.next by12
   clear by12
   cases is with
   |false=>
    go_wp2_with fail
    go_meet
    exact⟨rfl,HS⟩
   |true=>
    rw[HNS.out rfl]at IZ'
    have p_vZ_0:y12.cell? ⟨y5.heap.size,0,none⟩=some (.slice aoZ kn.length acZ):=Blk.cell (HS.out.get 5 rfl) 0 rfl
    have p_vZ_1:y12.cell? ⟨y5.heap.size,1,none⟩=some (.slice boZ nn.length bcZ):=Blk.cell (HS.out.get 5 rfl) 1 rfl
    have p_vZ_2:y12.cell? ⟨y5.heap.size,2,none⟩=some (.slice koZ hn.ks.length kcZ):=Blk.cell (HS.out.get 5 rfl) 2 rfl
    have p_vZ_3:y12.cell? ⟨y5.heap.size,3,none⟩=some (.int .i64 hn.kd):=Blk.cell (HS.out.get 5 rfl) 3 rfl
    have p_vZ_4:y12.cell? ⟨y5.heap.size,4,none⟩=some (.int .i64 hn.ho):=Blk.cell (HS.out.get 5 rfl) 4 rfl
    have p_vZ_5:y12.cell? ⟨y5.heap.size,5,none⟩=some (.int .i64 hn.tu):=Blk.cell (HS.out.get 5 rfl) 5 rfl
    go_wp2_with fail
    clear p_vZ_0 p_vZ_1 p_vZ_2 p_vZ_3 p_vZ_4 p_vZ_5
    refine(IZ' _ _ _ _ (HS.out.rA 6 rfl) (HS.out.rB 6 rfl) (HS.out.rK 6 rfl)).mono ?_
    rintro e y113 ⟨rfl,by113⟩
    replace HS:Hid (Sta wb y113 [Blk y10.heap.size 30 #[.slice aoY kn.length acY,.slice boY nn.length bcY,.slice koY hn.ks.length kcY,.int .i64 hn.kd,.int .i64 hn.ho,.int .i64 hn.tu],Sto (.slice aoY kn.length acY) (.slice boY nn.length bcY) (.slice koY hn.ks.length kcY) kn nn hn.ks,Blk (y7.heap.size+1) 36 #[.int .i64 an.st,.string ⟨an.tx.toArray⟩],Blk y7.heap.size 30 #[.slice aoW ks.length acW,.slice boW ns.length bcW,.slice koW hh.ks.length kcW,.int .i64 hh.kd,.int .i64 hh.ho,.int .i64 hh.tu],Sto (.slice aoW ks.length acW) (.slice boW ns.length bcW) (.slice koW hh.ks.length kcW) ks ns hh.ks,Blk y5.heap.size 30 #[.slice aoZ kn.length acZ,.slice boZ nn.length bcZ,.slice koZ hn.ks.length kcZ,.int .i64 hn.kd,.int .i64 hn.ho,.int .i64 hn.tu],Sto (.slice aoZ kn.length acZ) (.slice boZ nn.length bcZ) (.slice koZ hn.ks.length kcZ) kn nn hn.ks,Blk (y2.heap.size+1) 36 #[.int .i64 an.st,.string ⟨an.tx.toArray⟩],Blk y2.heap.size 30 #[.slice aoG ks.length acG,.slice boG ns.length bcG,.slice koG hh.ks.length kcG,.int .i64 hh.kd,.int .i64 hh.ho,.int .i64 hh.tu],Sto (.slice aoG ks.length acG) (.slice boG ns.length bcG) (.slice koG hh.ks.length kcG) ks ns hh.ks,Blk (wb.heap.size+1) 32 #[.int .i64 c.o,.int .i64 c.p,.int .i64 c.a,.int .i64 c.b,.int .i64 c.k],Blk wb.heap.size 30 #[.slice ao xs.length ac,.slice bo ys.length bc,.slice ko h.ks.length kc,.int .i64 h.kd,.int .i64 h.ho,.int .i64 h.tu]]):=HS.out.next by113
    clear by113
    go_wp2_with fail
    go_meet
    exact⟨rfl,HS⟩
  case rest=>
   clear HS
   obtain⟨rfl,HS⟩:=hcut
   obtain⟨y112,hy112⟩:∃y112,y112=wc:=⟨_,rfl⟩
   rw[←hy112]at HS⊢
   clear hy112 SN HNS
   have p_vS_0:y112.cell? ⟨wb.heap.size,0,none⟩=some (.slice ao xs.length ac):=Blk.cell (HS.out.get 11 rfl) 0 rfl
   have p_vS_1:y112.cell? ⟨wb.heap.size,1,none⟩=some (.slice bo ys.length bc):=Blk.cell (HS.out.get 11 rfl) 1 rfl
   have p_vS_2:y112.cell? ⟨wb.heap.size,2,none⟩=some (.slice ko h.ks.length kc):=Blk.cell (HS.out.get 11 rfl) 2 rfl
   have p_vS_3:y112.cell? ⟨wb.heap.size,3,none⟩=some (.int .i64 h.kd):=Blk.cell (HS.out.get 11 rfl) 3 rfl
   have p_vS_4:y112.cell? ⟨wb.heap.size,4,none⟩=some (.int .i64 h.ho):=Blk.cell (HS.out.get 11 rfl) 4 rfl
   have p_vS_5:y112.cell? ⟨wb.heap.size,5,none⟩=some (.int .i64 h.tu):=Blk.cell (HS.out.get 11 rfl) 5 rfl
   go_wp2_with fail
   clear p_vS_0 p_vS_1 p_vS_2 p_vS_3 p_vS_4 p_vS_5
   refine(CS' _ _ _ _ (RA.out.below HS.out.below (Nat.le_refl _)) (RB.out.below HS.out.below (Nat.le_refl _)) (RK.out.below HS.out.below (Nat.le_refl _))).mono ?_
   rintro e y113 ⟨rfl,by113⟩
   replace HS:Hid (Sta wb y113 [Blk y10.heap.size 30 #[.slice aoY kn.length acY,.slice boY nn.length bcY,.slice koY hn.ks.length kcY,.int .i64 hn.kd,.int .i64 hn.ho,.int .i64 hn.tu],Sto (.slice aoY kn.length acY) (.slice boY nn.length bcY) (.slice koY hn.ks.length kcY) kn nn hn.ks,Blk (y7.heap.size+1) 36 #[.int .i64 an.st,.string ⟨an.tx.toArray⟩],Blk y7.heap.size 30 #[.slice aoW ks.length acW,.slice boW ns.length bcW,.slice koW hh.ks.length kcW,.int .i64 hh.kd,.int .i64 hh.ho,.int .i64 hh.tu],Sto (.slice aoW ks.length acW) (.slice boW ns.length bcW) (.slice koW hh.ks.length kcW) ks ns hh.ks,Blk y5.heap.size 30 #[.slice aoZ kn.length acZ,.slice boZ nn.length bcZ,.slice koZ hn.ks.length kcZ,.int .i64 hn.kd,.int .i64 hn.ho,.int .i64 hn.tu],Sto (.slice aoZ kn.length acZ) (.slice boZ nn.length bcZ) (.slice koZ hn.ks.length kcZ) kn nn hn.ks,Blk (y2.heap.size+1) 36 #[.int .i64 an.st,.string ⟨an.tx.toArray⟩],Blk y2.heap.size 30 #[.slice aoG ks.length acG,.slice boG ns.length bcG,.slice koG hh.ks.length kcG,.int .i64 hh.kd,.int .i64 hh.ho,.int .i64 hh.tu],Sto (.slice aoG ks.length acG) (.slice boG ns.length bcG) (.slice koG hh.ks.length kcG) ks ns hh.ks,Blk (wb.heap.size+1) 32 #[.int .i64 c.o,.int .i64 c.p,.int .i64 c.a,.int .i64 c.b,.int .i64 c.k],Blk wb.heap.size 30 #[.slice ao xs.length ac,.slice bo ys.length bc,.slice ko h.ks.length kc,.int .i64 h.kd,.int .i64 h.ho,.int .i64 h.tu]]):=HS.out.next by113
   clear by113
   cases ok with
   |false=>
    have e:=did_zero (s:=⟨xs,ys,h⟩) (i:=i) (c:=c) HOK.out.symm
    rw[←HD.out]at e
    have E0:(ks=[]∧ns=[]∧hh=Hd.zero)∧an=⟨7,[]⟩:=by simpa[Sr.zero]using e
    have LZ':∀u v q w',Reads w' u ks→Reads w' v ns→Reads w' q hh.ks→Calls Tryz.prog 11 #[.agg #[u,v,q,.int .i64 hh.kd,.int .i64 hh.ho,.int .i64 hh.tu],.agg #[.slice none 0 0,.slice none 0 0,.slice none 0 0,.int .i64 0,.int .i64 0,.int .i64 0]] w' fun e w''=>e=.returned (.bool true)∧Below w'.heap.size w' w'':=by
     obtain⟨⟨rfl,rfl,rfl⟩, -⟩:=E0
     exact fun u v q w' h1 h2 h3=>likeStore_any u v q (.slice none 0 0) (.slice none 0 0) (.slice none 0 0) [] [] Hd.zero w' h1 h2 h3 (Own.nil w' 0).reads (Own.nil w' 0).reads (Own.nil w' 0).reads gk gn gh
    have h7:an.st=7:=by rw[E0.2]
    clear E0
    clear e HD HOK
    have p_vG_0:y113.cell? ⟨y2.heap.size,0,none⟩=some (.slice aoG ks.length acG):=Blk.cell (HS.out.get 8 rfl) 0 rfl
    have p_vG_1:y113.cell? ⟨y2.heap.size,1,none⟩=some (.slice boG ns.length bcG):=Blk.cell (HS.out.get 8 rfl) 1 rfl
    have p_vG_2:y113.cell? ⟨y2.heap.size,2,none⟩=some (.slice koG hh.ks.length kcG):=Blk.cell (HS.out.get 8 rfl) 2 rfl
    have p_vG_3:y113.cell? ⟨y2.heap.size,3,none⟩=some (.int .i64 hh.kd):=Blk.cell (HS.out.get 8 rfl) 3 rfl
    have p_vG_4:y113.cell? ⟨y2.heap.size,4,none⟩=some (.int .i64 hh.ho):=Blk.cell (HS.out.get 8 rfl) 4 rfl
    have p_vG_5:y113.cell? ⟨y2.heap.size,5,none⟩=some (.int .i64 hh.tu):=Blk.cell (HS.out.get 8 rfl) 5 rfl
    have p_aG_0:y113.cell? ⟨y2.heap.size+1,0,none⟩=some (.int .i64 an.st):=Blk.cell (HS.out.get 7 rfl) 0 rfl
    have p_aG_1:y113.cell? ⟨y2.heap.size+1,1,none⟩=some (.string ⟨an.tx.toArray⟩):=Blk.cell (HS.out.get 7 rfl) 1 rfl
    go_wp2_with fail
    clear p_vG_0 p_vG_1 p_vG_2 p_vG_3 p_vG_4 p_vG_5 p_aG_0 p_aG_1
    refine(LZ' _ _ _ _ (HS.out.rA 9 rfl) (HS.out.rB 9 rfl) (HS.out.rK 9 rfl)).mono ?_
    rintro e y114 ⟨rfl,by114⟩
    replace HS:Hid (Sta wb y114 [Blk y10.heap.size 30 #[.slice aoY kn.length acY,.slice boY nn.length bcY,.slice koY hn.ks.length kcY,.int .i64 hn.kd,.int .i64 hn.ho,.int .i64 hn.tu],Sto (.slice aoY kn.length acY) (.slice boY nn.length bcY) (.slice koY hn.ks.length kcY) kn nn hn.ks,Blk (y7.heap.size+1) 36 #[.int .i64 an.st,.string ⟨an.tx.toArray⟩],Blk y7.heap.size 30 #[.slice aoW ks.length acW,.slice boW ns.length bcW,.slice koW hh.ks.length kcW,.int .i64 hh.kd,.int .i64 hh.ho,.int .i64 hh.tu],Sto (.slice aoW ks.length acW) (.slice boW ns.length bcW) (.slice koW hh.ks.length kcW) ks ns hh.ks,Blk y5.heap.size 30 #[.slice aoZ kn.length acZ,.slice boZ nn.length bcZ,.slice koZ hn.ks.length kcZ,.int .i64 hn.kd,.int .i64 hn.ho,.int .i64 hn.tu],Sto (.slice aoZ kn.length acZ) (.slice boZ nn.length bcZ) (.slice koZ hn.ks.length kcZ) kn nn hn.ks,Blk (y2.heap.size+1) 36 #[.int .i64 an.st,.string ⟨an.tx.toArray⟩],Blk y2.heap.size 30 #[.slice aoG ks.length acG,.slice boG ns.length bcG,.slice koG hh.ks.length kcG,.int .i64 hh.kd,.int .i64 hh.ho,.int .i64 hh.tu],Sto (.slice aoG ks.length acG) (.slice boG ns.length bcG) (.slice koG hh.ks.length kcG) ks ns hh.ks,Blk (wb.heap.size+1) 32 #[.int .i64 c.o,.int .i64 c.p,.int .i64 c.a,.int .i64 c.b,.int .i64 c.k],Blk wb.heap.size 30 #[.slice ao xs.length ac,.slice bo ys.length bc,.slice ko h.ks.length kc,.int .i64 h.kd,.int .i64 h.ho,.int .i64 h.tu]]):=HS.out.next by114
    clear by114
    have HB:Hid (Below w.heap.size w _):=HB0.out.trans (HS.out.below.mono HB0.out.size)
    clear HS
    go_wp2
    go_ret
    exact⟨rfl,HB.out⟩
   |true=>
    have hok:Sr.ok ⟨xs,ys,h⟩=true:=HOK.out.symm
    have F1:Sr.ok ⟨ks,ns,hh⟩=true:=by have:=did_ok (s:=⟨xs,ys,h⟩) (i:=i) (c:=c) hok;rw[←HD.out]at this;exact this
    have F2:Hid (an.st≠0→ks=xs∧ns=ys∧hh=h):=by
     have:=did_bad (s:=⟨xs,ys,h⟩) (i:=i) (c:=c) hok
     rw[←HD.out]at this
     intro e
     simpa using this e
    have F3:Hid (an.st=7→(inI i 0 3&&c.ok)=false):=by have:=did_seven (s:=⟨xs,ys,h⟩) (i:=i) (c:=c) hok;rw[←HD.out]at this;exact this
    have F6:Hid ((inI i 0 3&&c.ok)=false→an.st=7):=by
     intro e
     have d:Sr.did ⟨xs,ys,h⟩ i c=(⟨xs,ys,h⟩,⟨7,[]⟩):=by unfold Sr.did;rw[if_pos hok,e];rfl
     have:=HD.out
     rw[d]at this
     have e2:an=⟨7,[]⟩:=congrArg Prod.snd this
     rw[e2]
    have F4:Hid ((inI i 0 3&&c.ok)=true→c.o≤5→hh=h∧decide (an.st=3)= !h.may i (decide (c.o≠1))):=by have:=did_low (s:=⟨xs,ys,h⟩) (i:=i) (c:=c) hok;rw[←HD.out]at this;exact this
    have F5:Hid ((inI i 0 3&&c.ok)=true→5<c.o→ks=xs∧ns=ys∧(regI h.ks i=false→c.o≠6→hh=h)):=by have:=did_high (s:=⟨xs,ys,h⟩) (i:=i) (c:=c) hok;rw[←HD.out]at this;exact this
    have HH:Hid (h.ok=true):=by
     have e:(bothOk xs ys&&h.ok)=true:=hok
     rw[Hid]
     exact(Bool.and_eq_true_iff.1 e).2
    clear hok HOK HD
    go_upto_region 15 with fail
    go_cut [106] (fun t wx=>t=.bool false∧Hid (Sta wb wx [Blk y10.heap.size 30 #[.slice aoY kn.length acY,.slice boY nn.length bcY,.slice koY hn.ks.length kcY,.int .i64 hn.kd,.int .i64 hn.ho,.int .i64 hn.tu],Sto (.slice aoY kn.length acY) (.slice boY nn.length bcY) (.slice koY hn.ks.length kcY) kn nn hn.ks,Blk (y7.heap.size+1) 36 #[.int .i64 an.st,.string ⟨an.tx.toArray⟩],Blk y7.heap.size 30 #[.slice aoW ks.length acW,.slice boW ns.length bcW,.slice koW hh.ks.length kcW,.int .i64 hh.kd,.int .i64 hh.ho,.int .i64 hh.tu],Sto (.slice aoW ks.length acW) (.slice boW ns.length bcW) (.slice koW hh.ks.length kcW) ks ns hh.ks,Blk y5.heap.size 30 #[.slice aoZ kn.length acZ,.slice boZ nn.length bcZ,.slice koZ hn.ks.length kcZ,.int .i64 hn.kd,.int .i64 hn.ho,.int .i64 hn.tu],Sto (.slice aoZ kn.length acZ) (.slice boZ nn.length bcZ) (.slice koZ hn.ks.length kcZ) kn nn hn.ks,Blk (y2.heap.size+1) 36 #[.int .i64 an.st,.string ⟨an.tx.toArray⟩],Blk y2.heap.size 30 #[.slice aoG ks.length acG,.slice boG ns.length bcG,.slice koG hh.ks.length kcG,.int .i64 hh.kd,.int .i64 hh.ho,.int .i64 hh.tu],Sto (.slice aoG ks.length acG) (.slice boG ns.length bcG) (.slice koG hh.ks.length kcG) ks ns hh.ks,Blk (wb.heap.size+1) 32 #[.int .i64 c.o,.int .i64 c.p,.int .i64 c.a,.int .i64 c.b,.int .i64 c.k],Blk wb.heap.size 30 #[.slice ao xs.length ac,.slice bo ys.length bc,.slice ko h.ks.length kc,.int .i64 h.kd,.int .i64 h.ho,.int .i64 h.tu]]))
    case first=>
     have IG':=fun wx a b k h1 h2 h3=>istoreok_any a b k ks ns hh wx h1 h2 h3 gk gn gh
     rw[F1]at IG'
     unfold SRV srA at IG'
     have p_vG_0:y113.cell? ⟨y2.heap.size,0,none⟩=some (.slice aoG ks.length acG):=Blk.cell (HS.out.get 8 rfl) 0 rfl
     have p_vG_1:y113.cell? ⟨y2.heap.size,1,none⟩=some (.slice boG ns.length bcG):=Blk.cell (HS.out.get 8 rfl) 1 rfl
     have p_vG_2:y113.cell? ⟨y2.heap.size,2,none⟩=some (.slice koG hh.ks.length kcG):=Blk.cell (HS.out.get 8 rfl) 2 rfl
     have p_vG_3:y113.cell? ⟨y2.heap.size,3,none⟩=some (.int .i64 hh.kd):=Blk.cell (HS.out.get 8 rfl) 3 rfl
     have p_vG_4:y113.cell? ⟨y2.heap.size,4,none⟩=some (.int .i64 hh.ho):=Blk.cell (HS.out.get 8 rfl) 4 rfl
     have p_vG_5:y113.cell? ⟨y2.heap.size,5,none⟩=some (.int .i64 hh.tu):=Blk.cell (HS.out.get 8 rfl) 5 rfl
     go_wp2_with fail
     clear p_vG_0 p_vG_1 p_vG_2 p_vG_3 p_vG_4 p_vG_5
     refine(IG' _ _ _ _ (HS.out.rA 9 rfl) (HS.out.rB 9 rfl) (HS.out.rK 9 rfl)).mono ?_
     rintro e y214 ⟨rfl,by214⟩
     replace HS:Hid (Sta wb y214 [Blk y10.heap.size 30 #[.slice aoY kn.length acY,.slice boY nn.length bcY,.slice koY hn.ks.length kcY,.int .i64 hn.kd,.int .i64 hn.ho,.int .i64 hn.tu],Sto (.slice aoY kn.length acY) (.slice boY nn.length bcY) (.slice koY hn.ks.length kcY) kn nn hn.ks,Blk (y7.heap.size+1) 36 #[.int .i64 an.st,.string ⟨an.tx.toArray⟩],Blk y7.heap.size 30 #[.slice aoW ks.length acW,.slice boW ns.length bcW,.slice koW hh.ks.length kcW,.int .i64 hh.kd,.int .i64 hh.ho,.int .i64 hh.tu],Sto (.slice aoW ks.length acW) (.slice boW ns.length bcW) (.slice koW hh.ks.length kcW) ks ns hh.ks,Blk y5.heap.size 30 #[.slice aoZ kn.length acZ,.slice boZ nn.length bcZ,.slice koZ hn.ks.length kcZ,.int .i64 hn.kd,.int .i64 hn.ho,.int .i64 hn.tu],Sto (.slice aoZ kn.length acZ) (.slice boZ nn.length bcZ) (.slice koZ hn.ks.length kcZ) kn nn hn.ks,Blk (y2.heap.size+1) 36 #[.int .i64 an.st,.string ⟨an.tx.toArray⟩],Blk y2.heap.size 30 #[.slice aoG ks.length acG,.slice boG ns.length bcG,.slice koG hh.ks.length kcG,.int .i64 hh.kd,.int .i64 hh.ho,.int .i64 hh.tu],Sto (.slice aoG ks.length acG) (.slice boG ns.length bcG) (.slice koG hh.ks.length kcG) ks ns hh.ks,Blk (wb.heap.size+1) 32 #[.int .i64 c.o,.int .i64 c.p,.int .i64 c.a,.int .i64 c.b,.int .i64 c.k],Blk wb.heap.size 30 #[.slice ao xs.length ac,.slice bo ys.length bc,.slice ko h.ks.length kc,.int .i64 h.kd,.int .i64 h.ho,.int .i64 h.tu]]):=HS.out.next by214
     clear by214
     clear IG'
     by_cases h0:an.st=0
     ·skip
      have p_aG_0:y214.cell? ⟨y2.heap.size+1,0,none⟩=some (.int .i64 an.st):=Blk.cell (HS.out.get 7 rfl) 0 rfl
      have p_aG_1:y214.cell? ⟨y2.heap.size+1,1,none⟩=some (.string ⟨an.tx.toArray⟩):=Blk.cell (HS.out.get 7 rfl) 1 rfl
      go_wp2_with fail
      clear p_aG_0 p_aG_1
      go_meet
      exact⟨rfl,HS⟩
     ·skip
      have LG':∀u v q a b k w',Reads w' u ks→Reads w' v ns→Reads w' q hh.ks→Reads w' a xs→Reads w' b ys→Reads w' k h.ks→Calls Tryz.prog 11 #[.agg #[u,v,q,.int .i64 hh.kd,.int .i64 hh.ho,.int .i64 hh.tu],.agg #[a,b,k,.int .i64 h.kd,.int .i64 h.ho,.int .i64 h.tu]] w' fun e w''=>e=.returned (.bool true)∧Below w'.heap.size w' w'':=by
       obtain⟨e1,e2,e3⟩:=F2.out h0
       subst e1 e2 e3
       exact fun u v q a b k w' h1 h2 h3 h4 h5 h6=>likeStore_any u v q a b k ks ns hh w' h1 h2 h3 h4 h5 h6 gk gn gh
      have p_aG_0:y214.cell? ⟨y2.heap.size+1,0,none⟩=some (.int .i64 an.st):=Blk.cell (HS.out.get 7 rfl) 0 rfl
      have p_aG_1:y214.cell? ⟨y2.heap.size+1,1,none⟩=some (.string ⟨an.tx.toArray⟩):=Blk.cell (HS.out.get 7 rfl) 1 rfl
      have p_vG_0:y214.cell? ⟨y2.heap.size,0,none⟩=some (.slice aoG ks.length acG):=Blk.cell (HS.out.get 8 rfl) 0 rfl
      have p_vG_1:y214.cell? ⟨y2.heap.size,1,none⟩=some (.slice boG ns.length bcG):=Blk.cell (HS.out.get 8 rfl) 1 rfl
      have p_vG_2:y214.cell? ⟨y2.heap.size,2,none⟩=some (.slice koG hh.ks.length kcG):=Blk.cell (HS.out.get 8 rfl) 2 rfl
      have p_vG_3:y214.cell? ⟨y2.heap.size,3,none⟩=some (.int .i64 hh.kd):=Blk.cell (HS.out.get 8 rfl) 3 rfl
      have p_vG_4:y214.cell? ⟨y2.heap.size,4,none⟩=some (.int .i64 hh.ho):=Blk.cell (HS.out.get 8 rfl) 4 rfl
      have p_vG_5:y214.cell? ⟨y2.heap.size,5,none⟩=some (.int .i64 hh.tu):=Blk.cell (HS.out.get 8 rfl) 5 rfl
      have p_vS_0:y214.cell? ⟨wb.heap.size,0,none⟩=some (.slice ao xs.length ac):=Blk.cell (HS.out.get 11 rfl) 0 rfl
      have p_vS_1:y214.cell? ⟨wb.heap.size,1,none⟩=some (.slice bo ys.length bc):=Blk.cell (HS.out.get 11 rfl) 1 rfl
      have p_vS_2:y214.cell? ⟨wb.heap.size,2,none⟩=some (.slice ko h.ks.length kc):=Blk.cell (HS.out.get 11 rfl) 2 rfl
      have p_vS_3:y214.cell? ⟨wb.heap.size,3,none⟩=some (.int .i64 h.kd):=Blk.cell (HS.out.get 11 rfl) 3 rfl
      have p_vS_4:y214.cell? ⟨wb.heap.size,4,none⟩=some (.int .i64 h.ho):=Blk.cell (HS.out.get 11 rfl) 4 rfl
      have p_vS_5:y214.cell? ⟨wb.heap.size,5,none⟩=some (.int .i64 h.tu):=Blk.cell (HS.out.get 11 rfl) 5 rfl
      go_wp2_with fail
      clear p_aG_0 p_aG_1 p_vG_0 p_vG_1 p_vG_2 p_vG_3 p_vG_4 p_vG_5 p_vS_0 p_vS_1 p_vS_2 p_vS_3 p_vS_4 p_vS_5
      refine(LG' _ _ _ _ _ _ _ (HS.out.rA 9 rfl) (HS.out.rB 9 rfl) (HS.out.rK 9 rfl) (RA.out.below HS.out.below (Nat.le_refl _)) (RB.out.below HS.out.below (Nat.le_refl _)) (RK.out.below HS.out.below (Nat.le_refl _))).mono ?_
      rintro e y315 ⟨rfl,by315⟩
      have HS9:=HS.out.next by315
      go_wp2_with fail
      go_meet
      exact⟨rfl,HS9⟩
    case rest=>
     clear HS F1 F2
     obtain⟨rfl,HS⟩:=hcut
     obtain⟨y314,hy314⟩:∃y314,y314=wc:=⟨_,rfl⟩
     rw[←hy314]at HS⊢
     clear hy314
     by_cases h7:an.st=7
     ·have hv:=F3.out h7
      clear F3 F4 F5 F6 HH
      by_cases hi0:i<0
      ·clear hv
       have p_aG_0:y314.cell? ⟨y2.heap.size+1,0,none⟩=some (.int .i64 an.st):=Blk.cell (HS.out.get 7 rfl) 0 rfl
       have p_aG_1:y314.cell? ⟨y2.heap.size+1,1,none⟩=some (.string ⟨an.tx.toArray⟩):=Blk.cell (HS.out.get 7 rfl) 1 rfl
       go_wp2_with fail
       clear p_aG_0 p_aG_1
       have HB:Hid (Below w.heap.size w _):=HB0.out.trans (HS.out.below.mono HB0.out.size)
       clear HS
       go_wp2
       go_ret
       exact⟨rfl,HB.out⟩
      ·by_cases hi3:3<i
       ·clear hv
        have p_aG_0:y314.cell? ⟨y2.heap.size+1,0,none⟩=some (.int .i64 an.st):=Blk.cell (HS.out.get 7 rfl) 0 rfl
        have p_aG_1:y314.cell? ⟨y2.heap.size+1,1,none⟩=some (.string ⟨an.tx.toArray⟩):=Blk.cell (HS.out.get 7 rfl) 1 rfl
        go_wp2_with fail
        clear p_aG_0 p_aG_1
        have HB:Hid (Below w.heap.size w _):=HB0.out.trans (HS.out.below.mono HB0.out.size)
        clear HS
        go_wp2
        go_ret
        exact⟨rfl,HB.out⟩
       ·have hck:c.ok=false:=by rw[show inI i 0 3=true from(inI_iff _ _ _).2 (by omega),Bool.true_and]at hv;exact hv
        have cc:=fun wx=>scmdok_any c wx
        rw[hck]at cc
        unfold CV cmA at cc
        clear hv hck
        have p_aG_0:y314.cell? ⟨y2.heap.size+1,0,none⟩=some (.int .i64 an.st):=Blk.cell (HS.out.get 7 rfl) 0 rfl
        have p_aG_1:y314.cell? ⟨y2.heap.size+1,1,none⟩=some (.string ⟨an.tx.toArray⟩):=Blk.cell (HS.out.get 7 rfl) 1 rfl
        have p_vC_0:y314.cell? ⟨wb.heap.size+1,0,none⟩=some (.int .i64 c.o):=Blk.cell (HS.out.get 10 rfl) 0 rfl
        have p_vC_1:y314.cell? ⟨wb.heap.size+1,1,none⟩=some (.int .i64 c.p):=Blk.cell (HS.out.get 10 rfl) 1 rfl
        have p_vC_2:y314.cell? ⟨wb.heap.size+1,2,none⟩=some (.int .i64 c.a):=Blk.cell (HS.out.get 10 rfl) 2 rfl
        have p_vC_3:y314.cell? ⟨wb.heap.size+1,3,none⟩=some (.int .i64 c.b):=Blk.cell (HS.out.get 10 rfl) 3 rfl
        have p_vC_4:y314.cell? ⟨wb.heap.size+1,4,none⟩=some (.int .i64 c.k):=Blk.cell (HS.out.get 10 rfl) 4 rfl
        go_wp2_with fail
        clear p_aG_0 p_aG_1 p_vC_0 p_vC_1 p_vC_2 p_vC_3 p_vC_4
        refine(cc _).mono ?_
        rintro e y515 ⟨rfl,by515⟩
        replace HS:Hid (Sta wb y515 [Blk y10.heap.size 30 #[.slice aoY kn.length acY,.slice boY nn.length bcY,.slice koY hn.ks.length kcY,.int .i64 hn.kd,.int .i64 hn.ho,.int .i64 hn.tu],Sto (.slice aoY kn.length acY) (.slice boY nn.length bcY) (.slice koY hn.ks.length kcY) kn nn hn.ks,Blk (y7.heap.size+1) 36 #[.int .i64 an.st,.string ⟨an.tx.toArray⟩],Blk y7.heap.size 30 #[.slice aoW ks.length acW,.slice boW ns.length bcW,.slice koW hh.ks.length kcW,.int .i64 hh.kd,.int .i64 hh.ho,.int .i64 hh.tu],Sto (.slice aoW ks.length acW) (.slice boW ns.length bcW) (.slice koW hh.ks.length kcW) ks ns hh.ks,Blk y5.heap.size 30 #[.slice aoZ kn.length acZ,.slice boZ nn.length bcZ,.slice koZ hn.ks.length kcZ,.int .i64 hn.kd,.int .i64 hn.ho,.int .i64 hn.tu],Sto (.slice aoZ kn.length acZ) (.slice boZ nn.length bcZ) (.slice koZ hn.ks.length kcZ) kn nn hn.ks,Blk (y2.heap.size+1) 36 #[.int .i64 an.st,.string ⟨an.tx.toArray⟩],Blk y2.heap.size 30 #[.slice aoG ks.length acG,.slice boG ns.length bcG,.slice koG hh.ks.length kcG,.int .i64 hh.kd,.int .i64 hh.ho,.int .i64 hh.tu],Sto (.slice aoG ks.length acG) (.slice boG ns.length bcG) (.slice koG hh.ks.length kcG) ks ns hh.ks,Blk (wb.heap.size+1) 32 #[.int .i64 c.o,.int .i64 c.p,.int .i64 c.a,.int .i64 c.b,.int .i64 c.k],Blk wb.heap.size 30 #[.slice ao xs.length ac,.slice bo ys.length bc,.slice ko h.ks.length kc,.int .i64 h.kd,.int .i64 h.ho,.int .i64 h.tu]]):=HS.out.next by515
        clear by515
        have HB:Hid (Below w.heap.size w _):=HB0.out.trans (HS.out.below.mono HB0.out.size)
        clear HS
        go_wp2
        go_ret
        exact⟨rfl,HB.out⟩
     ·have hin:(inI i 0 3&&c.ok)=true:=by
       cases e:(inI i 0 3&&c.ok)with
       |true=>rfl
       |false=>exact absurd (F6.out e) h7
      have hii:Hid (inI i 0 3=true):=(Bool.and_eq_true_iff.1 hin).1
      by_cases h5:c.o≤5
      ·obtain⟨e3,e4⟩:=F4.out hin h5
       have cl:∀wx u v,Reads wx u hh.ks→Reads wx v h.ks→Calls Tryz.prog 16 #[.agg #[u,.int .i64 hh.kd,.int .i64 hh.ho,.int .i64 hh.tu],.agg #[v,.int .i64 h.kd,.int .i64 h.ho,.int .i64 h.tu]] wx fun e w'=>e=.returned (.bool true)∧Below wx.heap.size wx w':=by
        subst e3
        intro wx u v h1 h2
        have:=likeH_any u v hh hh wx h1 h2 gh
        rw[show likeH hh hh=true from likeH_same hh]at this
        exact this
       obtain⟨bo1,hbo1⟩:∃bo1,bo1=decide (c.o≠1):=⟨_,rfl⟩
       have hneq:(c.o !=1)=bo1:=by rw[hbo1];by_cases e:c.o=1<;>simp[e]
       have cm:=fun wx q (h1:Reads wx q h.ks)=>sMay_any q h i bo1 wx h1 gz
       have em:h.May i bo1=h.may i bo1:=by simp[Hd.May,HH.out,hii.out]
       rw[em]at cm
       rw[←hbo1]at e4
       obtain⟨mm,hmm⟩:∃mm,mm=h.may i bo1:=⟨_,rfl⟩
       rw[←hmm]at cm e4
       unfold HV hdA at cm
       clear e3 hbo1 em hmm F3 F4 F5 F6 HH hin hii
       by_cases h3:an.st=3
       ·have hmf:mm=false:=by rw[h3]at e4;simpa using e4.symm
        subst hmf
        clear e4
        have p_aG_0:y314.cell? ⟨y2.heap.size+1,0,none⟩=some (.int .i64 an.st):=Blk.cell (HS.out.get 7 rfl) 0 rfl
        have p_aG_1:y314.cell? ⟨y2.heap.size+1,1,none⟩=some (.string ⟨an.tx.toArray⟩):=Blk.cell (HS.out.get 7 rfl) 1 rfl
        have p_vC_0:y314.cell? ⟨wb.heap.size+1,0,none⟩=some (.int .i64 c.o):=Blk.cell (HS.out.get 10 rfl) 0 rfl
        have p_vC_1:y314.cell? ⟨wb.heap.size+1,1,none⟩=some (.int .i64 c.p):=Blk.cell (HS.out.get 10 rfl) 1 rfl
        have p_vC_2:y314.cell? ⟨wb.heap.size+1,2,none⟩=some (.int .i64 c.a):=Blk.cell (HS.out.get 10 rfl) 2 rfl
        have p_vC_3:y314.cell? ⟨wb.heap.size+1,3,none⟩=some (.int .i64 c.b):=Blk.cell (HS.out.get 10 rfl) 3 rfl
        have p_vC_4:y314.cell? ⟨wb.heap.size+1,4,none⟩=some (.int .i64 c.k):=Blk.cell (HS.out.get 10 rfl) 4 rfl
        go_upto_region 20 with fail
        clear p_aG_0 p_aG_1 p_vC_0 p_vC_1 p_vC_2 p_vC_3 p_vC_4
        go_upto_region 20 with fail
        obtain⟨p,hp⟩:∃p,p=fun x=>Sta wb x [Blk y10.heap.size 30 #[.slice aoY kn.length acY,.slice boY nn.length bcY,.slice koY hn.ks.length kcY,.int .i64 hn.kd,.int .i64 hn.ho,.int .i64 hn.tu],Sto (.slice aoY kn.length acY) (.slice boY nn.length bcY) (.slice koY hn.ks.length kcY) kn nn hn.ks,Blk (y7.heap.size+1) 36 #[.int .i64 an.st,.string ⟨an.tx.toArray⟩],Blk y7.heap.size 30 #[.slice aoW ks.length acW,.slice boW ns.length bcW,.slice koW hh.ks.length kcW,.int .i64 hh.kd,.int .i64 hh.ho,.int .i64 hh.tu],Sto (.slice aoW ks.length acW) (.slice boW ns.length bcW) (.slice koW hh.ks.length kcW) ks ns hh.ks,Blk y5.heap.size 30 #[.slice aoZ kn.length acZ,.slice boZ nn.length bcZ,.slice koZ hn.ks.length kcZ,.int .i64 hn.kd,.int .i64 hn.ho,.int .i64 hn.tu],Sto (.slice aoZ kn.length acZ) (.slice boZ nn.length bcZ) (.slice koZ hn.ks.length kcZ) kn nn hn.ks,Blk (y2.heap.size+1) 36 #[.int .i64 an.st,.string ⟨an.tx.toArray⟩],Blk y2.heap.size 30 #[.slice aoG ks.length acG,.slice boG ns.length bcG,.slice koG hh.ks.length kcG,.int .i64 hh.kd,.int .i64 hh.ho,.int .i64 hh.tu],Sto (.slice aoG ks.length acG) (.slice boG ns.length bcG) (.slice koG hh.ks.length kcG) ks ns hh.ks,Blk (wb.heap.size+1) 32 #[.int .i64 c.o,.int .i64 c.p,.int .i64 c.a,.int .i64 c.b,.int .i64 c.k],Blk wb.heap.size 30 #[.slice ao xs.length ac,.slice bo ys.length bc,.slice ko h.ks.length kc,.int .i64 h.kd,.int .i64 h.ho,.int .i64 h.tu]]:=⟨_,rfl⟩
        have HQ:Hid (∀x,p x→Sta wb x [Blk y10.heap.size 30 #[.slice aoY kn.length acY,.slice boY nn.length bcY,.slice koY hn.ks.length kcY,.int .i64 hn.kd,.int .i64 hn.ho,.int .i64 hn.tu],Sto (.slice aoY kn.length acY) (.slice boY nn.length bcY) (.slice koY hn.ks.length kcY) kn nn hn.ks,Blk (y7.heap.size+1) 36 #[.int .i64 an.st,.string ⟨an.tx.toArray⟩],Blk y7.heap.size 30 #[.slice aoW ks.length acW,.slice boW ns.length bcW,.slice koW hh.ks.length kcW,.int .i64 hh.kd,.int .i64 hh.ho,.int .i64 hh.tu],Sto (.slice aoW ks.length acW) (.slice boW ns.length bcW) (.slice koW hh.ks.length kcW) ks ns hh.ks,Blk y5.heap.size 30 #[.slice aoZ kn.length acZ,.slice boZ nn.length bcZ,.slice koZ hn.ks.length kcZ,.int .i64 hn.kd,.int .i64 hn.ho,.int .i64 hn.tu],Sto (.slice aoZ kn.length acZ) (.slice boZ nn.length bcZ) (.slice koZ hn.ks.length kcZ) kn nn hn.ks,Blk (y2.heap.size+1) 36 #[.int .i64 an.st,.string ⟨an.tx.toArray⟩],Blk y2.heap.size 30 #[.slice aoG ks.length acG,.slice boG ns.length bcG,.slice koG hh.ks.length kcG,.int .i64 hh.kd,.int .i64 hh.ho,.int .i64 hh.tu],Sto (.slice aoG ks.length acG) (.slice boG ns.length bcG) (.slice koG hh.ks.length kcG) ks ns hh.ks,Blk (wb.heap.size+1) 32 #[.int .i64 c.o,.int .i64 c.p,.int .i64 c.a,.int .i64 c.b,.int .i64 c.k],Blk wb.heap.size 30 #[.slice ao xs.length ac,.slice bo ys.length bc,.slice ko h.ks.length kc,.int .i64 h.kd,.int .i64 h.ho,.int .i64 h.tu]]):=by rw[hp];exact fun _ h=>h
        have HN:Hid (∀x w',p x→Below x.heap.size x w'→p w'):=by rw[hp];exact fun _ _ h b=>h.next b
        have H0:Hid (p y314.drew):=by rw[hp];exact HS.out.drew1
        have hne:Nonempty (Kin p):=⟨⟨_,H0.out⟩⟩
        have m_vG_0:∀q:Kin p,q.x.cell? ⟨y2.heap.size,0,none⟩=some (.slice aoG ks.length acG):=fun q=>Blk.cell ((HQ.out _ q.h).get 8 rfl) 0 rfl
        have m_vG_1:∀q:Kin p,q.x.cell? ⟨y2.heap.size,1,none⟩=some (.slice boG ns.length bcG):=fun q=>Blk.cell ((HQ.out _ q.h).get 8 rfl) 1 rfl
        have m_vG_2:∀q:Kin p,q.x.cell? ⟨y2.heap.size,2,none⟩=some (.slice koG hh.ks.length kcG):=fun q=>Blk.cell ((HQ.out _ q.h).get 8 rfl) 2 rfl
        have m_vG_3:∀q:Kin p,q.x.cell? ⟨y2.heap.size,3,none⟩=some (.int .i64 hh.kd):=fun q=>Blk.cell ((HQ.out _ q.h).get 8 rfl) 3 rfl
        have m_vG_4:∀q:Kin p,q.x.cell? ⟨y2.heap.size,4,none⟩=some (.int .i64 hh.ho):=fun q=>Blk.cell ((HQ.out _ q.h).get 8 rfl) 4 rfl
        have m_vG_5:∀q:Kin p,q.x.cell? ⟨y2.heap.size,5,none⟩=some (.int .i64 hh.tu):=fun q=>Blk.cell ((HQ.out _ q.h).get 8 rfl) 5 rfl
        have m_vS_0:∀q:Kin p,q.x.cell? ⟨wb.heap.size,0,none⟩=some (.slice ao xs.length ac):=fun q=>Blk.cell ((HQ.out _ q.h).get 11 rfl) 0 rfl
        have m_vS_1:∀q:Kin p,q.x.cell? ⟨wb.heap.size,1,none⟩=some (.slice bo ys.length bc):=fun q=>Blk.cell ((HQ.out _ q.h).get 11 rfl) 1 rfl
        have m_vS_2:∀q:Kin p,q.x.cell? ⟨wb.heap.size,2,none⟩=some (.slice ko h.ks.length kc):=fun q=>Blk.cell ((HQ.out _ q.h).get 11 rfl) 2 rfl
        have m_vS_3:∀q:Kin p,q.x.cell? ⟨wb.heap.size,3,none⟩=some (.int .i64 h.kd):=fun q=>Blk.cell ((HQ.out _ q.h).get 11 rfl) 3 rfl
        have m_vS_4:∀q:Kin p,q.x.cell? ⟨wb.heap.size,4,none⟩=some (.int .i64 h.ho):=fun q=>Blk.cell ((HQ.out _ q.h).get 11 rfl) 4 rfl
        have m_vS_5:∀q:Kin p,q.x.cell? ⟨wb.heap.size,5,none⟩=some (.int .i64 h.tu):=fun q=>Blk.cell ((HQ.out _ q.h).get 11 rfl) 5 rfl
        have m_aG_0:∀q:Kin p,q.x.cell? ⟨y2.heap.size+1,0,none⟩=some (.int .i64 an.st):=fun q=>Blk.cell ((HQ.out _ q.h).get 7 rfl) 0 rfl
        have m_aG_1:∀q:Kin p,q.x.cell? ⟨y2.heap.size+1,1,none⟩=some (.string ⟨an.tx.toArray⟩):=fun q=>Blk.cell ((HQ.out _ q.h).get 7 rfl) 1 rfl
        have m_vC_0:∀q:Kin p,q.x.cell? ⟨wb.heap.size+1,0,none⟩=some (.int .i64 c.o):=fun q=>Blk.cell ((HQ.out _ q.h).get 10 rfl) 0 rfl
        have m_vC_1:∀q:Kin p,q.x.cell? ⟨wb.heap.size+1,1,none⟩=some (.int .i64 c.p):=fun q=>Blk.cell ((HQ.out _ q.h).get 10 rfl) 1 rfl
        have m_vC_2:∀q:Kin p,q.x.cell? ⟨wb.heap.size+1,2,none⟩=some (.int .i64 c.a):=fun q=>Blk.cell ((HQ.out _ q.h).get 10 rfl) 2 rfl
        have m_vC_3:∀q:Kin p,q.x.cell? ⟨wb.heap.size+1,3,none⟩=some (.int .i64 c.b):=fun q=>Blk.cell ((HQ.out _ q.h).get 10 rfl) 3 rfl
        have m_vC_4:∀q:Kin p,q.x.cell? ⟨wb.heap.size+1,4,none⟩=some (.int .i64 c.k):=fun q=>Blk.cell ((HQ.out _ q.h).get 10 rfl) 4 rfl
        clear hp HS
        refine wp_region_kin p (by kernel_rfl) (by kernel_rfl) H0.out ?_
        repeat(quiet_step (first
         |(go_at_call 16;exact Kin.call (cl _ _ _ ((HQ.out _ (Kin.h _)).rK 9 rfl) (RK.out.below (HQ.out _ (Kin.h _)).below (Nat.le_refl _))) HN.out)
         |(go_at_call 17;exact Kin.call (cm _ _ (RK.out.below (HQ.out _ (Kin.h _)).below (Nat.le_refl _))) HN.out)))
        refine wpQuiet_nil ?_
        intro ak hk'
        have HS:Hid (Sta wb ak [Blk y10.heap.size 30 #[.slice aoY kn.length acY,.slice boY nn.length bcY,.slice koY hn.ks.length kcY,.int .i64 hn.kd,.int .i64 hn.ho,.int .i64 hn.tu],Sto (.slice aoY kn.length acY) (.slice boY nn.length bcY) (.slice koY hn.ks.length kcY) kn nn hn.ks,Blk (y7.heap.size+1) 36 #[.int .i64 an.st,.string ⟨an.tx.toArray⟩],Blk y7.heap.size 30 #[.slice aoW ks.length acW,.slice boW ns.length bcW,.slice koW hh.ks.length kcW,.int .i64 hh.kd,.int .i64 hh.ho,.int .i64 hh.tu],Sto (.slice aoW ks.length acW) (.slice boW ns.length bcW) (.slice koW hh.ks.length kcW) ks ns hh.ks,Blk y5.heap.size 30 #[.slice aoZ kn.length acZ,.slice boZ nn.length bcZ,.slice koZ hn.ks.length kcZ,.int .i64 hn.kd,.int .i64 hn.ho,.int .i64 hn.tu],Sto (.slice aoZ kn.length acZ) (.slice boZ nn.length bcZ) (.slice koZ hn.ks.length kcZ) kn nn hn.ks,Blk (y2.heap.size+1) 36 #[.int .i64 an.st,.string ⟨an.tx.toArray⟩],Blk y2.heap.size 30 #[.slice aoG ks.length acG,.slice boG ns.length bcG,.slice koG hh.ks.length kcG,.int .i64 hh.kd,.int .i64 hh.ho,.int .i64 hh.tu],Sto (.slice aoG ks.length acG) (.slice boG ns.length bcG) (.slice koG hh.ks.length kcG) ks ns hh.ks,Blk (wb.heap.size+1) 32 #[.int .i64 c.o,.int .i64 c.p,.int .i64 c.a,.int .i64 c.b,.int .i64 c.k],Blk wb.heap.size 30 #[.slice ao xs.length ac,.slice bo ys.length bc,.slice ko h.ks.length kc,.int .i64 h.kd,.int .i64 h.ho,.int .i64 h.tu]]):=by{obtain⟨q,rfl⟩:=hk';exact HQ.out _ q.h}
        clear hk' HQ HN H0 hne m_vG_0 m_vG_1 m_vG_2 m_vG_3 m_vG_4 m_vG_5 m_vS_0 m_vS_1 m_vS_2 m_vS_3 m_vS_4 m_vS_5 m_aG_0 m_aG_1 m_vC_0 m_vC_1 m_vC_2 m_vC_3 m_vC_4
        obtain⟨y415,hy415⟩:∃y415,y415=ak:=⟨_,rfl⟩
        rw[←hy415]at HS⊢
        clear hy415
        have HB:Hid (Below w.heap.size w _):=HB0.out.trans (HS.out.below.mono HB0.out.size)
        clear HS
        go_wp2
        go_ret
        exact⟨rfl,HB.out⟩
       ·have hmf:mm=true:=by rw[show decide (an.st=3)=false by simpa using h3]at e4;simpa using e4.symm
        have hs3:Hid ((an.st==3)=false):=by simpa[Hid]using h3
        subst hmf
        clear e4
        have p_aG_0:y314.cell? ⟨y2.heap.size+1,0,none⟩=some (.int .i64 an.st):=Blk.cell (HS.out.get 7 rfl) 0 rfl
        have p_aG_1:y314.cell? ⟨y2.heap.size+1,1,none⟩=some (.string ⟨an.tx.toArray⟩):=Blk.cell (HS.out.get 7 rfl) 1 rfl
        have p_vC_0:y314.cell? ⟨wb.heap.size+1,0,none⟩=some (.int .i64 c.o):=Blk.cell (HS.out.get 10 rfl) 0 rfl
        have p_vC_1:y314.cell? ⟨wb.heap.size+1,1,none⟩=some (.int .i64 c.p):=Blk.cell (HS.out.get 10 rfl) 1 rfl
        have p_vC_2:y314.cell? ⟨wb.heap.size+1,2,none⟩=some (.int .i64 c.a):=Blk.cell (HS.out.get 10 rfl) 2 rfl
        have p_vC_3:y314.cell? ⟨wb.heap.size+1,3,none⟩=some (.int .i64 c.b):=Blk.cell (HS.out.get 10 rfl) 3 rfl
        have p_vC_4:y314.cell? ⟨wb.heap.size+1,4,none⟩=some (.int .i64 c.k):=Blk.cell (HS.out.get 10 rfl) 4 rfl
        go_upto_region 20 with fail
        clear p_aG_0 p_aG_1 p_vC_0 p_vC_1 p_vC_2 p_vC_3 p_vC_4
        go_upto_region 20 with fail
        obtain⟨p,hp⟩:∃p,p=fun x=>Sta wb x [Blk y10.heap.size 30 #[.slice aoY kn.length acY,.slice boY nn.length bcY,.slice koY hn.ks.length kcY,.int .i64 hn.kd,.int .i64 hn.ho,.int .i64 hn.tu],Sto (.slice aoY kn.length acY) (.slice boY nn.length bcY) (.slice koY hn.ks.length kcY) kn nn hn.ks,Blk (y7.heap.size+1) 36 #[.int .i64 an.st,.string ⟨an.tx.toArray⟩],Blk y7.heap.size 30 #[.slice aoW ks.length acW,.slice boW ns.length bcW,.slice koW hh.ks.length kcW,.int .i64 hh.kd,.int .i64 hh.ho,.int .i64 hh.tu],Sto (.slice aoW ks.length acW) (.slice boW ns.length bcW) (.slice koW hh.ks.length kcW) ks ns hh.ks,Blk y5.heap.size 30 #[.slice aoZ kn.length acZ,.slice boZ nn.length bcZ,.slice koZ hn.ks.length kcZ,.int .i64 hn.kd,.int .i64 hn.ho,.int .i64 hn.tu],Sto (.slice aoZ kn.length acZ) (.slice boZ nn.length bcZ) (.slice koZ hn.ks.length kcZ) kn nn hn.ks,Blk (y2.heap.size+1) 36 #[.int .i64 an.st,.string ⟨an.tx.toArray⟩],Blk y2.heap.size 30 #[.slice aoG ks.length acG,.slice boG ns.length bcG,.slice koG hh.ks.length kcG,.int .i64 hh.kd,.int .i64 hh.ho,.int .i64 hh.tu],Sto (.slice aoG ks.length acG) (.slice boG ns.length bcG) (.slice koG hh.ks.length kcG) ks ns hh.ks,Blk (wb.heap.size+1) 32 #[.int .i64 c.o,.int .i64 c.p,.int .i64 c.a,.int .i64 c.b,.int .i64 c.k],Blk wb.heap.size 30 #[.slice ao xs.length ac,.slice bo ys.length bc,.slice ko h.ks.length kc,.int .i64 h.kd,.int .i64 h.ho,.int .i64 h.tu]]:=⟨_,rfl⟩
        have HQ:Hid (∀x,p x→Sta wb x [Blk y10.heap.size 30 #[.slice aoY kn.length acY,.slice boY nn.length bcY,.slice koY hn.ks.length kcY,.int .i64 hn.kd,.int .i64 hn.ho,.int .i64 hn.tu],Sto (.slice aoY kn.length acY) (.slice boY nn.length bcY) (.slice koY hn.ks.length kcY) kn nn hn.ks,Blk (y7.heap.size+1) 36 #[.int .i64 an.st,.string ⟨an.tx.toArray⟩],Blk y7.heap.size 30 #[.slice aoW ks.length acW,.slice boW ns.length bcW,.slice koW hh.ks.length kcW,.int .i64 hh.kd,.int .i64 hh.ho,.int .i64 hh.tu],Sto (.slice aoW ks.length acW) (.slice boW ns.length bcW) (.slice koW hh.ks.length kcW) ks ns hh.ks,Blk y5.heap.size 30 #[.slice aoZ kn.length acZ,.slice boZ nn.length bcZ,.slice koZ hn.ks.length kcZ,.int .i64 hn.kd,.int .i64 hn.ho,.int .i64 hn.tu],Sto (.slice aoZ kn.length acZ) (.slice boZ nn.length bcZ) (.slice koZ hn.ks.length kcZ) kn nn hn.ks,Blk (y2.heap.size+1) 36 #[.int .i64 an.st,.string ⟨an.tx.toArray⟩],Blk y2.heap.size 30 #[.slice aoG ks.length acG,.slice boG ns.length bcG,.slice koG hh.ks.length kcG,.int .i64 hh.kd,.int .i64 hh.ho,.int .i64 hh.tu],Sto (.slice aoG ks.length acG) (.slice boG ns.length bcG) (.slice koG hh.ks.length kcG) ks ns hh.ks,Blk (wb.heap.size+1) 32 #[.int .i64 c.o,.int .i64 c.p,.int .i64 c.a,.int .i64 c.b,.int .i64 c.k],Blk wb.heap.size 30 #[.slice ao xs.length ac,.slice bo ys.length bc,.slice ko h.ks.length kc,.int .i64 h.kd,.int .i64 h.ho,.int .i64 h.tu]]):=by rw[hp];exact fun _ h=>h
        have HN:Hid (∀x w',p x→Below x.heap.size x w'→p w'):=by rw[hp];exact fun _ _ h b=>h.next b
        have H0:Hid (p y314.drew):=by rw[hp];exact HS.out.drew1
        have hne:Nonempty (Kin p):=⟨⟨_,H0.out⟩⟩
        have m_vG_0:∀q:Kin p,q.x.cell? ⟨y2.heap.size,0,none⟩=some (.slice aoG ks.length acG):=fun q=>Blk.cell ((HQ.out _ q.h).get 8 rfl) 0 rfl
        have m_vG_1:∀q:Kin p,q.x.cell? ⟨y2.heap.size,1,none⟩=some (.slice boG ns.length bcG):=fun q=>Blk.cell ((HQ.out _ q.h).get 8 rfl) 1 rfl
        have m_vG_2:∀q:Kin p,q.x.cell? ⟨y2.heap.size,2,none⟩=some (.slice koG hh.ks.length kcG):=fun q=>Blk.cell ((HQ.out _ q.h).get 8 rfl) 2 rfl
        have m_vG_3:∀q:Kin p,q.x.cell? ⟨y2.heap.size,3,none⟩=some (.int .i64 hh.kd):=fun q=>Blk.cell ((HQ.out _ q.h).get 8 rfl) 3 rfl
        have m_vG_4:∀q:Kin p,q.x.cell? ⟨y2.heap.size,4,none⟩=some (.int .i64 hh.ho):=fun q=>Blk.cell ((HQ.out _ q.h).get 8 rfl) 4 rfl
        have m_vG_5:∀q:Kin p,q.x.cell? ⟨y2.heap.size,5,none⟩=some (.int .i64 hh.tu):=fun q=>Blk.cell ((HQ.out _ q.h).get 8 rfl) 5 rfl
        have m_vS_0:∀q:Kin p,q.x.cell? ⟨wb.heap.size,0,none⟩=some (.slice ao xs.length ac):=fun q=>Blk.cell ((HQ.out _ q.h).get 11 rfl) 0 rfl
        have m_vS_1:∀q:Kin p,q.x.cell? ⟨wb.heap.size,1,none⟩=some (.slice bo ys.length bc):=fun q=>Blk.cell ((HQ.out _ q.h).get 11 rfl) 1 rfl
        have m_vS_2:∀q:Kin p,q.x.cell? ⟨wb.heap.size,2,none⟩=some (.slice ko h.ks.length kc):=fun q=>Blk.cell ((HQ.out _ q.h).get 11 rfl) 2 rfl
        have m_vS_3:∀q:Kin p,q.x.cell? ⟨wb.heap.size,3,none⟩=some (.int .i64 h.kd):=fun q=>Blk.cell ((HQ.out _ q.h).get 11 rfl) 3 rfl
        have m_vS_4:∀q:Kin p,q.x.cell? ⟨wb.heap.size,4,none⟩=some (.int .i64 h.ho):=fun q=>Blk.cell ((HQ.out _ q.h).get 11 rfl) 4 rfl
        have m_vS_5:∀q:Kin p,q.x.cell? ⟨wb.heap.size,5,none⟩=some (.int .i64 h.tu):=fun q=>Blk.cell ((HQ.out _ q.h).get 11 rfl) 5 rfl
        have m_aG_0:∀q:Kin p,q.x.cell? ⟨y2.heap.size+1,0,none⟩=some (.int .i64 an.st):=fun q=>Blk.cell ((HQ.out _ q.h).get 7 rfl) 0 rfl
        have m_aG_1:∀q:Kin p,q.x.cell? ⟨y2.heap.size+1,1,none⟩=some (.string ⟨an.tx.toArray⟩):=fun q=>Blk.cell ((HQ.out _ q.h).get 7 rfl) 1 rfl
        have m_vC_0:∀q:Kin p,q.x.cell? ⟨wb.heap.size+1,0,none⟩=some (.int .i64 c.o):=fun q=>Blk.cell ((HQ.out _ q.h).get 10 rfl) 0 rfl
        have m_vC_1:∀q:Kin p,q.x.cell? ⟨wb.heap.size+1,1,none⟩=some (.int .i64 c.p):=fun q=>Blk.cell ((HQ.out _ q.h).get 10 rfl) 1 rfl
        have m_vC_2:∀q:Kin p,q.x.cell? ⟨wb.heap.size+1,2,none⟩=some (.int .i64 c.a):=fun q=>Blk.cell ((HQ.out _ q.h).get 10 rfl) 2 rfl
        have m_vC_3:∀q:Kin p,q.x.cell? ⟨wb.heap.size+1,3,none⟩=some (.int .i64 c.b):=fun q=>Blk.cell ((HQ.out _ q.h).get 10 rfl) 3 rfl
        have m_vC_4:∀q:Kin p,q.x.cell? ⟨wb.heap.size+1,4,none⟩=some (.int .i64 c.k):=fun q=>Blk.cell ((HQ.out _ q.h).get 10 rfl) 4 rfl
        clear hp HS
        refine wp_region_kin p (by kernel_rfl) (by kernel_rfl) H0.out ?_
        repeat(quiet_step (first
         |(go_at_call 16;exact Kin.call (cl _ _ _ ((HQ.out _ (Kin.h _)).rK 9 rfl) (RK.out.below (HQ.out _ (Kin.h _)).below (Nat.le_refl _))) HN.out)
         |(go_at_call 17;exact Kin.call (cm _ _ (RK.out.below (HQ.out _ (Kin.h _)).below (Nat.le_refl _))) HN.out)))
        refine wpQuiet_nil ?_
        intro ak hk'
        have HS:Hid (Sta wb ak [Blk y10.heap.size 30 #[.slice aoY kn.length acY,.slice boY nn.length bcY,.slice koY hn.ks.length kcY,.int .i64 hn.kd,.int .i64 hn.ho,.int .i64 hn.tu],Sto (.slice aoY kn.length acY) (.slice boY nn.length bcY) (.slice koY hn.ks.length kcY) kn nn hn.ks,Blk (y7.heap.size+1) 36 #[.int .i64 an.st,.string ⟨an.tx.toArray⟩],Blk y7.heap.size 30 #[.slice aoW ks.length acW,.slice boW ns.length bcW,.slice koW hh.ks.length kcW,.int .i64 hh.kd,.int .i64 hh.ho,.int .i64 hh.tu],Sto (.slice aoW ks.length acW) (.slice boW ns.length bcW) (.slice koW hh.ks.length kcW) ks ns hh.ks,Blk y5.heap.size 30 #[.slice aoZ kn.length acZ,.slice boZ nn.length bcZ,.slice koZ hn.ks.length kcZ,.int .i64 hn.kd,.int .i64 hn.ho,.int .i64 hn.tu],Sto (.slice aoZ kn.length acZ) (.slice boZ nn.length bcZ) (.slice koZ hn.ks.length kcZ) kn nn hn.ks,Blk (y2.heap.size+1) 36 #[.int .i64 an.st,.string ⟨an.tx.toArray⟩],Blk y2.heap.size 30 #[.slice aoG ks.length acG,.slice boG ns.length bcG,.slice koG hh.ks.length kcG,.int .i64 hh.kd,.int .i64 hh.ho,.int .i64 hh.tu],Sto (.slice aoG ks.length acG) (.slice boG ns.length bcG) (.slice koG hh.ks.length kcG) ks ns hh.ks,Blk (wb.heap.size+1) 32 #[.int .i64 c.o,.int .i64 c.p,.int .i64 c.a,.int .i64 c.b,.int .i64 c.k],Blk wb.heap.size 30 #[.slice ao xs.length ac,.slice bo ys.length bc,.slice ko h.ks.length kc,.int .i64 h.kd,.int .i64 h.ho,.int .i64 h.tu]]):=by{obtain⟨q,rfl⟩:=hk';exact HQ.out _ q.h}
        clear hk' HQ HN H0 hne m_vG_0 m_vG_1 m_vG_2 m_vG_3 m_vG_4 m_vG_5 m_vS_0 m_vS_1 m_vS_2 m_vS_3 m_vS_4 m_vS_5 m_aG_0 m_aG_1 m_vC_0 m_vC_1 m_vC_2 m_vC_3 m_vC_4
        obtain⟨y515,hy515⟩:∃y515,y515=ak:=⟨_,rfl⟩
        rw[←hy515]at HS⊢
        clear hy515
        have HB:Hid (Below w.heap.size w _):=HB0.out.trans (HS.out.below.mono HB0.out.size)
        clear HS
        go_wp2
        go_ret
        exact⟨ret_bool (by rw[hs3.out];rfl),HB.out⟩
      ·obtain⟨e1,e2,e3⟩:=F5.out hin (by omega)
       have HE3:Hid (regI h.ks i=false→c.o≠6→hh=h):=e3
       have er:h.Reg i=regI h.ks i:=by simp[Hd.Reg,HH.out,hii.out]
       have cr:=fun wx q (h1:Reads wx q h.ks)=>sReg_any q h i wx h1 gz
       rw[er]at cr
       unfold HV hdA at cr
       have LD:∀u v a b w',Reads w' u ks→Reads w' v ns→Reads w' a xs→Reads w' b ys→Calls Tryz.prog 18 #[.agg #[u,v],.agg #[a,b]] w' fun e w''=>e=.returned (.bool true)∧Below w'.heap.size w' w'':=by
        subst e1 e2
        exact fun u v a b w' h1 h2 h3 h4=>likeDisk_any u v a b ks ns w' h1 h2 h3 h4 gk gn
       clear e1 e2 e3 er F3 F4 F5 F6 HH hin hii
       have p_aG_0:y314.cell? ⟨y2.heap.size+1,0,none⟩=some (.int .i64 an.st):=Blk.cell (HS.out.get 7 rfl) 0 rfl
       have p_aG_1:y314.cell? ⟨y2.heap.size+1,1,none⟩=some (.string ⟨an.tx.toArray⟩):=Blk.cell (HS.out.get 7 rfl) 1 rfl
       have p_vC_0:y314.cell? ⟨wb.heap.size+1,0,none⟩=some (.int .i64 c.o):=Blk.cell (HS.out.get 10 rfl) 0 rfl
       have p_vC_1:y314.cell? ⟨wb.heap.size+1,1,none⟩=some (.int .i64 c.p):=Blk.cell (HS.out.get 10 rfl) 1 rfl
       have p_vC_2:y314.cell? ⟨wb.heap.size+1,2,none⟩=some (.int .i64 c.a):=Blk.cell (HS.out.get 10 rfl) 2 rfl
       have p_vC_3:y314.cell? ⟨wb.heap.size+1,3,none⟩=some (.int .i64 c.b):=Blk.cell (HS.out.get 10 rfl) 3 rfl
       have p_vC_4:y314.cell? ⟨wb.heap.size+1,4,none⟩=some (.int .i64 c.k):=Blk.cell (HS.out.get 10 rfl) 4 rfl
       have p_vG_0:y314.cell? ⟨y2.heap.size,0,none⟩=some (.slice aoG ks.length acG):=Blk.cell (HS.out.get 8 rfl) 0 rfl
       have p_vG_1:y314.cell? ⟨y2.heap.size,1,none⟩=some (.slice boG ns.length bcG):=Blk.cell (HS.out.get 8 rfl) 1 rfl
       have p_vG_2:y314.cell? ⟨y2.heap.size,2,none⟩=some (.slice koG hh.ks.length kcG):=Blk.cell (HS.out.get 8 rfl) 2 rfl
       have p_vG_3:y314.cell? ⟨y2.heap.size,3,none⟩=some (.int .i64 hh.kd):=Blk.cell (HS.out.get 8 rfl) 3 rfl
       have p_vG_4:y314.cell? ⟨y2.heap.size,4,none⟩=some (.int .i64 hh.ho):=Blk.cell (HS.out.get 8 rfl) 4 rfl
       have p_vG_5:y314.cell? ⟨y2.heap.size,5,none⟩=some (.int .i64 hh.tu):=Blk.cell (HS.out.get 8 rfl) 5 rfl
       have p_vS_0:y314.cell? ⟨wb.heap.size,0,none⟩=some (.slice ao xs.length ac):=Blk.cell (HS.out.get 11 rfl) 0 rfl
       have p_vS_1:y314.cell? ⟨wb.heap.size,1,none⟩=some (.slice bo ys.length bc):=Blk.cell (HS.out.get 11 rfl) 1 rfl
       have p_vS_2:y314.cell? ⟨wb.heap.size,2,none⟩=some (.slice ko h.ks.length kc):=Blk.cell (HS.out.get 11 rfl) 2 rfl
       have p_vS_3:y314.cell? ⟨wb.heap.size,3,none⟩=some (.int .i64 h.kd):=Blk.cell (HS.out.get 11 rfl) 3 rfl
       have p_vS_4:y314.cell? ⟨wb.heap.size,4,none⟩=some (.int .i64 h.ho):=Blk.cell (HS.out.get 11 rfl) 4 rfl
       have p_vS_5:y314.cell? ⟨wb.heap.size,5,none⟩=some (.int .i64 h.tu):=Blk.cell (HS.out.get 11 rfl) 5 rfl
       go_wp2_with fail
       clear p_aG_0 p_aG_1 p_vC_0 p_vC_1 p_vC_2 p_vC_3 p_vC_4 p_vG_0 p_vG_1 p_vG_2 p_vG_3 p_vG_4 p_vG_5 p_vS_0 p_vS_1 p_vS_2 p_vS_3 p_vS_4 p_vS_5
       refine(LD _ _ _ _ _ (HS.out.rA 9 rfl) (HS.out.rB 9 rfl) (RA.out.below HS.out.below (Nat.le_refl _)) (RB.out.below HS.out.below (Nat.le_refl _))).mono ?_
       rintro e y515 ⟨rfl,by515⟩
       replace HS:Hid (Sta wb y515 [Blk y10.heap.size 30 #[.slice aoY kn.length acY,.slice boY nn.length bcY,.slice koY hn.ks.length kcY,.int .i64 hn.kd,.int .i64 hn.ho,.int .i64 hn.tu],Sto (.slice aoY kn.length acY) (.slice boY nn.length bcY) (.slice koY hn.ks.length kcY) kn nn hn.ks,Blk (y7.heap.size+1) 36 #[.int .i64 an.st,.string ⟨an.tx.toArray⟩],Blk y7.heap.size 30 #[.slice aoW ks.length acW,.slice boW ns.length bcW,.slice koW hh.ks.length kcW,.int .i64 hh.kd,.int .i64 hh.ho,.int .i64 hh.tu],Sto (.slice aoW ks.length acW) (.slice boW ns.length bcW) (.slice koW hh.ks.length kcW) ks ns hh.ks,Blk y5.heap.size 30 #[.slice aoZ kn.length acZ,.slice boZ nn.length bcZ,.slice koZ hn.ks.length kcZ,.int .i64 hn.kd,.int .i64 hn.ho,.int .i64 hn.tu],Sto (.slice aoZ kn.length acZ) (.slice boZ nn.length bcZ) (.slice koZ hn.ks.length kcZ) kn nn hn.ks,Blk (y2.heap.size+1) 36 #[.int .i64 an.st,.string ⟨an.tx.toArray⟩],Blk y2.heap.size 30 #[.slice aoG ks.length acG,.slice boG ns.length bcG,.slice koG hh.ks.length kcG,.int .i64 hh.kd,.int .i64 hh.ho,.int .i64 hh.tu],Sto (.slice aoG ks.length acG) (.slice boG ns.length bcG) (.slice koG hh.ks.length kcG) ks ns hh.ks,Blk (wb.heap.size+1) 32 #[.int .i64 c.o,.int .i64 c.p,.int .i64 c.a,.int .i64 c.b,.int .i64 c.k],Blk wb.heap.size 30 #[.slice ao xs.length ac,.slice bo ys.length bc,.slice ko h.ks.length kc,.int .i64 h.kd,.int .i64 h.ho,.int .i64 h.tu]]):=HS.out.next by515
       clear by515
       have p_vS_0:y515.cell? ⟨wb.heap.size,0,none⟩=some (.slice ao xs.length ac):=Blk.cell (HS.out.get 11 rfl) 0 rfl
       have p_vS_1:y515.cell? ⟨wb.heap.size,1,none⟩=some (.slice bo ys.length bc):=Blk.cell (HS.out.get 11 rfl) 1 rfl
       have p_vS_2:y515.cell? ⟨wb.heap.size,2,none⟩=some (.slice ko h.ks.length kc):=Blk.cell (HS.out.get 11 rfl) 2 rfl
       have p_vS_3:y515.cell? ⟨wb.heap.size,3,none⟩=some (.int .i64 h.kd):=Blk.cell (HS.out.get 11 rfl) 3 rfl
       have p_vS_4:y515.cell? ⟨wb.heap.size,4,none⟩=some (.int .i64 h.ho):=Blk.cell (HS.out.get 11 rfl) 4 rfl
       have p_vS_5:y515.cell? ⟨wb.heap.size,5,none⟩=some (.int .i64 h.tu):=Blk.cell (HS.out.get 11 rfl) 5 rfl
       go_wp2_with fail
       clear p_vS_0 p_vS_1 p_vS_2 p_vS_3 p_vS_4 p_vS_5
       cases hr:regI h.ks i with
       |true=>
        rw[hr]at cr
        refine(cr _ _ (RK.out.below HS.out.below (Nat.le_refl _))).mono ?_
        rintro e y516 ⟨rfl,by516⟩
        replace HS:Hid (Sta wb y516 [Blk y10.heap.size 30 #[.slice aoY kn.length acY,.slice boY nn.length bcY,.slice koY hn.ks.length kcY,.int .i64 hn.kd,.int .i64 hn.ho,.int .i64 hn.tu],Sto (.slice aoY kn.length acY) (.slice boY nn.length bcY) (.slice koY hn.ks.length kcY) kn nn hn.ks,Blk (y7.heap.size+1) 36 #[.int .i64 an.st,.string ⟨an.tx.toArray⟩],Blk y7.heap.size 30 #[.slice aoW ks.length acW,.slice boW ns.length bcW,.slice koW hh.ks.length kcW,.int .i64 hh.kd,.int .i64 hh.ho,.int .i64 hh.tu],Sto (.slice aoW ks.length acW) (.slice boW ns.length bcW) (.slice koW hh.ks.length kcW) ks ns hh.ks,Blk y5.heap.size 30 #[.slice aoZ kn.length acZ,.slice boZ nn.length bcZ,.slice koZ hn.ks.length kcZ,.int .i64 hn.kd,.int .i64 hn.ho,.int .i64 hn.tu],Sto (.slice aoZ kn.length acZ) (.slice boZ nn.length bcZ) (.slice koZ hn.ks.length kcZ) kn nn hn.ks,Blk (y2.heap.size+1) 36 #[.int .i64 an.st,.string ⟨an.tx.toArray⟩],Blk y2.heap.size 30 #[.slice aoG ks.length acG,.slice boG ns.length bcG,.slice koG hh.ks.length kcG,.int .i64 hh.kd,.int .i64 hh.ho,.int .i64 hh.tu],Sto (.slice aoG ks.length acG) (.slice boG ns.length bcG) (.slice koG hh.ks.length kcG) ks ns hh.ks,Blk (wb.heap.size+1) 32 #[.int .i64 c.o,.int .i64 c.p,.int .i64 c.a,.int .i64 c.b,.int .i64 c.k],Blk wb.heap.size 30 #[.slice ao xs.length ac,.slice bo ys.length bc,.slice ko h.ks.length kc,.int .i64 h.kd,.int .i64 h.ho,.int .i64 h.tu]]):=HS.out.next by516
        clear by516
        have HB:Hid (Below w.heap.size w _):=HB0.out.trans (HS.out.below.mono HB0.out.size)
        clear HS
        go_wp2
        go_ret
        exact⟨rfl,HB.out⟩
       |false=>
        rw[hr]at cr
        have HE4:Hid (c.o≠6→hh=h):=HE3.out hr
        refine(cr _ _ (RK.out.below HS.out.below (Nat.le_refl _))).mono ?_
        rintro e y616 ⟨rfl,by616⟩
        replace HS:Hid (Sta wb y616 [Blk y10.heap.size 30 #[.slice aoY kn.length acY,.slice boY nn.length bcY,.slice koY hn.ks.length kcY,.int .i64 hn.kd,.int .i64 hn.ho,.int .i64 hn.tu],Sto (.slice aoY kn.length acY) (.slice boY nn.length bcY) (.slice koY hn.ks.length kcY) kn nn hn.ks,Blk (y7.heap.size+1) 36 #[.int .i64 an.st,.string ⟨an.tx.toArray⟩],Blk y7.heap.size 30 #[.slice aoW ks.length acW,.slice boW ns.length bcW,.slice koW hh.ks.length kcW,.int .i64 hh.kd,.int .i64 hh.ho,.int .i64 hh.tu],Sto (.slice aoW ks.length acW) (.slice boW ns.length bcW) (.slice koW hh.ks.length kcW) ks ns hh.ks,Blk y5.heap.size 30 #[.slice aoZ kn.length acZ,.slice boZ nn.length bcZ,.slice koZ hn.ks.length kcZ,.int .i64 hn.kd,.int .i64 hn.ho,.int .i64 hn.tu],Sto (.slice aoZ kn.length acZ) (.slice boZ nn.length bcZ) (.slice koZ hn.ks.length kcZ) kn nn hn.ks,Blk (y2.heap.size+1) 36 #[.int .i64 an.st,.string ⟨an.tx.toArray⟩],Blk y2.heap.size 30 #[.slice aoG ks.length acG,.slice boG ns.length bcG,.slice koG hh.ks.length kcG,.int .i64 hh.kd,.int .i64 hh.ho,.int .i64 hh.tu],Sto (.slice aoG ks.length acG) (.slice boG ns.length bcG) (.slice koG hh.ks.length kcG) ks ns hh.ks,Blk (wb.heap.size+1) 32 #[.int .i64 c.o,.int .i64 c.p,.int .i64 c.a,.int .i64 c.b,.int .i64 c.k],Blk wb.heap.size 30 #[.slice ao xs.length ac,.slice bo ys.length bc,.slice ko h.ks.length kc,.int .i64 h.kd,.int .i64 h.ho,.int .i64 h.tu]]):=HS.out.next by616
        clear by616
        by_cases h6:c.o=6
        ·clear HE3 HE4 cr
         have p_vC_0:y616.cell? ⟨wb.heap.size+1,0,none⟩=some (.int .i64 c.o):=Blk.cell (HS.out.get 10 rfl) 0 rfl
         have p_vC_1:y616.cell? ⟨wb.heap.size+1,1,none⟩=some (.int .i64 c.p):=Blk.cell (HS.out.get 10 rfl) 1 rfl
         have p_vC_2:y616.cell? ⟨wb.heap.size+1,2,none⟩=some (.int .i64 c.a):=Blk.cell (HS.out.get 10 rfl) 2 rfl
         have p_vC_3:y616.cell? ⟨wb.heap.size+1,3,none⟩=some (.int .i64 c.b):=Blk.cell (HS.out.get 10 rfl) 3 rfl
         have p_vC_4:y616.cell? ⟨wb.heap.size+1,4,none⟩=some (.int .i64 c.k):=Blk.cell (HS.out.get 10 rfl) 4 rfl
         go_wp2_with fail
         clear p_vC_0 p_vC_1 p_vC_2 p_vC_3 p_vC_4
         have HB:Hid (Below w.heap.size w _):=HB0.out.trans (HS.out.below.mono HB0.out.size)
         clear HS
         go_wp2
         go_ret
         exact⟨rfl,HB.out⟩
        ·have e3:=HE4.out h6
         have cl:∀wx u v,Reads wx u hh.ks→Reads wx v h.ks→Calls Tryz.prog 16 #[.agg #[u,.int .i64 hh.kd,.int .i64 hh.ho,.int .i64 hh.tu],.agg #[v,.int .i64 h.kd,.int .i64 h.ho,.int .i64 h.tu]] wx fun e w'=>e=.returned (.bool true)∧Below wx.heap.size wx w':=by
          subst e3
          intro wx u v h1 h2
          have:=likeH_any u v hh hh wx h1 h2 gh
          rw[show likeH hh hh=true from likeH_same hh]at this
          exact this
         clear e3 HE3 HE4 cr
         have p_vC_0:y616.cell? ⟨wb.heap.size+1,0,none⟩=some (.int .i64 c.o):=Blk.cell (HS.out.get 10 rfl) 0 rfl
         have p_vC_1:y616.cell? ⟨wb.heap.size+1,1,none⟩=some (.int .i64 c.p):=Blk.cell (HS.out.get 10 rfl) 1 rfl
         have p_vC_2:y616.cell? ⟨wb.heap.size+1,2,none⟩=some (.int .i64 c.a):=Blk.cell (HS.out.get 10 rfl) 2 rfl
         have p_vC_3:y616.cell? ⟨wb.heap.size+1,3,none⟩=some (.int .i64 c.b):=Blk.cell (HS.out.get 10 rfl) 3 rfl
         have p_vC_4:y616.cell? ⟨wb.heap.size+1,4,none⟩=some (.int .i64 c.k):=Blk.cell (HS.out.get 10 rfl) 4 rfl
         have p_vG_0:y616.cell? ⟨y2.heap.size,0,none⟩=some (.slice aoG ks.length acG):=Blk.cell (HS.out.get 8 rfl) 0 rfl
         have p_vG_1:y616.cell? ⟨y2.heap.size,1,none⟩=some (.slice boG ns.length bcG):=Blk.cell (HS.out.get 8 rfl) 1 rfl
         have p_vG_2:y616.cell? ⟨y2.heap.size,2,none⟩=some (.slice koG hh.ks.length kcG):=Blk.cell (HS.out.get 8 rfl) 2 rfl
         have p_vG_3:y616.cell? ⟨y2.heap.size,3,none⟩=some (.int .i64 hh.kd):=Blk.cell (HS.out.get 8 rfl) 3 rfl
         have p_vG_4:y616.cell? ⟨y2.heap.size,4,none⟩=some (.int .i64 hh.ho):=Blk.cell (HS.out.get 8 rfl) 4 rfl
         have p_vG_5:y616.cell? ⟨y2.heap.size,5,none⟩=some (.int .i64 hh.tu):=Blk.cell (HS.out.get 8 rfl) 5 rfl
         have p_vS_0:y616.cell? ⟨wb.heap.size,0,none⟩=some (.slice ao xs.length ac):=Blk.cell (HS.out.get 11 rfl) 0 rfl
         have p_vS_1:y616.cell? ⟨wb.heap.size,1,none⟩=some (.slice bo ys.length bc):=Blk.cell (HS.out.get 11 rfl) 1 rfl
         have p_vS_2:y616.cell? ⟨wb.heap.size,2,none⟩=some (.slice ko h.ks.length kc):=Blk.cell (HS.out.get 11 rfl) 2 rfl
         have p_vS_3:y616.cell? ⟨wb.heap.size,3,none⟩=some (.int .i64 h.kd):=Blk.cell (HS.out.get 11 rfl) 3 rfl
         have p_vS_4:y616.cell? ⟨wb.heap.size,4,none⟩=some (.int .i64 h.ho):=Blk.cell (HS.out.get 11 rfl) 4 rfl
         have p_vS_5:y616.cell? ⟨wb.heap.size,5,none⟩=some (.int .i64 h.tu):=Blk.cell (HS.out.get 11 rfl) 5 rfl
         go_wp2_with fail
         clear p_vC_0 p_vC_1 p_vC_2 p_vC_3 p_vC_4 p_vG_0 p_vG_1 p_vG_2 p_vG_3 p_vG_4 p_vG_5 p_vS_0 p_vS_1 p_vS_2 p_vS_3 p_vS_4 p_vS_5
         refine(cl _ _ _ (HS.out.rK 9 rfl) (RK.out.below HS.out.below (Nat.le_refl _))).mono ?_
         rintro e y717 ⟨rfl,by717⟩
         replace HS:Hid (Sta wb y717 [Blk y10.heap.size 30 #[.slice aoY kn.length acY,.slice boY nn.length bcY,.slice koY hn.ks.length kcY,.int .i64 hn.kd,.int .i64 hn.ho,.int .i64 hn.tu],Sto (.slice aoY kn.length acY) (.slice boY nn.length bcY) (.slice koY hn.ks.length kcY) kn nn hn.ks,Blk (y7.heap.size+1) 36 #[.int .i64 an.st,.string ⟨an.tx.toArray⟩],Blk y7.heap.size 30 #[.slice aoW ks.length acW,.slice boW ns.length bcW,.slice koW hh.ks.length kcW,.int .i64 hh.kd,.int .i64 hh.ho,.int .i64 hh.tu],Sto (.slice aoW ks.length acW) (.slice boW ns.length bcW) (.slice koW hh.ks.length kcW) ks ns hh.ks,Blk y5.heap.size 30 #[.slice aoZ kn.length acZ,.slice boZ nn.length bcZ,.slice koZ hn.ks.length kcZ,.int .i64 hn.kd,.int .i64 hn.ho,.int .i64 hn.tu],Sto (.slice aoZ kn.length acZ) (.slice boZ nn.length bcZ) (.slice koZ hn.ks.length kcZ) kn nn hn.ks,Blk (y2.heap.size+1) 36 #[.int .i64 an.st,.string ⟨an.tx.toArray⟩],Blk y2.heap.size 30 #[.slice aoG ks.length acG,.slice boG ns.length bcG,.slice koG hh.ks.length kcG,.int .i64 hh.kd,.int .i64 hh.ho,.int .i64 hh.tu],Sto (.slice aoG ks.length acG) (.slice boG ns.length bcG) (.slice koG hh.ks.length kcG) ks ns hh.ks,Blk (wb.heap.size+1) 32 #[.int .i64 c.o,.int .i64 c.p,.int .i64 c.a,.int .i64 c.b,.int .i64 c.k],Blk wb.heap.size 30 #[.slice ao xs.length ac,.slice bo ys.length bc,.slice ko h.ks.length kc,.int .i64 h.kd,.int .i64 h.ho,.int .i64 h.tu]]):=HS.out.next by717
         clear by717
         have HB:Hid (Below w.heap.size w _):=HB0.out.trans (HS.out.below.mono HB0.out.size)
         clear HS
         go_wp2
         go_ret
         exact⟨rfl,HB.out⟩
theorem lifted (os:Os) (started:os.Started) (H:Type) (enc:TypeId×Value→H):
  ReturnsInHanded {} Tryz.checked os 3 .any (fun w args=>(Rows.fnStoreSpec.pre enc Tryz.prog Tryz.f3 [] false w args∧laidMetH Tryz.prog Rows.fnStoreRow.laid w)∧sizedMet enc Tryz.prog Tryz.f3 (OpenSpec.ofChange Rows.fnStoreSpec) false w args) (Rows.fnStoreSpec.post enc Tryz.prog Tryz.f3 false true false false):=by
 refine returnsInHanded_of_change_and (C:=Tryz.checked) (X:=fun w _=>laidMetH Tryz.prog Rows.fnStoreRow.laid w) (fun _ _ _ hh h=>h.of_heap hh) own started (by kernel_rfl) Tryz.func3
  (ChangeSpec.witness_shaped (enc:=enc) (C:=Tryz.checked) (os:=os) (X:=fun w _=>laidMetH Tryz.prog Rows.fnStoreRow.laid w) false (World.doorLaid Tryz.prog 1000 os) #[.slice none 0 0] 8 rfl (World.shaped_of_RefB (by kernel_rfl) (by kernel_rfl)) (by kernel_rfl) (by kernel_rfl) (by kernel_rfl) (met_fnStore os _)) ?_
 intro W base args ds gs before hval0 hW hcnd _ hL _
 have hval:∀(j:Nat) t v,Tryz.f3.params[j]?=some t→args[j]?=some v→Value.okWide Tryz.prog W .any base t v:=hval0
 have hW':=hW
 obtain⟨p,q,hA0,hV,rfl,hfz,hnd⟩:=hW
 have hA:DataW.TrodAll enc Tryz.prog W 0 (fun _=>true) true Tryz.f3.params.toList args.toList ds p:=hA0
 rw[Tryz.params3]at hA hval
 obtain⟨v0,vs0,d0,ds0,p0,q0,hargs,rfl,rfl,h0,r0⟩:=trodAll_cons hA
 obtain⟨rfl,rfl,rfl⟩:=trodAll_nil r0
 obtain rfl:args=#[v0]:=by cases args;simp_all
 obtain⟨g1,g2,g3,g4,rfl⟩:=vars4 hV
 obtain⟨a0,len0,cap0,rfl⟩:=okWide_slice Tryz.underlying22 (hval 0 22 v0 rfl rfl)
 have k0:=h0
 have lt0:∀x∈p0,x.block<W.heap.size:=by obtain⟨m,hm⟩:=k0;exact DataW.trod_lt m _ _ _ hm
 obtain⟨z0,w0⟩:∃zs,IsRow .u8 W a0 len0 cap0 zs:=by
  obtain⟨fuel,hf⟩:=h0
  rcases open_ints Tryz.underlying22 Tryz.underlying5 (by kernel_rfl) hf with⟨hcs,_⟩|⟨x,l,c,zs,hcs,_,hl,hm,hz,_,hcell,hwz⟩
  ·simp[Value.cells]at hcs
   obtain⟨rfl,rfl,rfl⟩:=hcs
   exact⟨[],.inl ⟨rfl,rfl,rfl,rfl⟩⟩
  ·simp[Value.cells]at hcs
   obtain⟨rfl,rfl,rfl⟩:=hcs
   exact⟨zs,.inr ⟨_,rfl,hl,hm,by simpa using hz,hcell,hwz⟩⟩
 clear hA0 hval0
 refine(walk a0 len0 cap0 z0 W w0 (tab_fnStore hL)).mono fun e W' ⟨he,bel⟩=>?_
 subst he
 exact⟨_,rfl,_,_,_,[],_,q,hW',trodAll_mk1 (shut_bool Tryz.underlying4 _),(trodAll_cons_mk (Below.trod laidOut (by kernel_rfl) (of_decide_eq_true (by kernel_rfl)) k0 bel lt0) trodAll_mk0),Below.trodVars laidOut bel (by kernel_rfl) hV,bel.frame _,fun h=>by cases h⟩
theorem over:Rows.fnStoreRow.holds Tryz.pinned (OpenSpec.ofChange Rows.fnStoreSpec):=
 OpenClaim.holds_of_wide 3 Tryz.f3 rfl rfl rfl rfl rfl rfl rfl ⟨rfl,rfl,rfl,rfl,rfl⟩ rfl rfl rfl rfl rfl (by kernel_rfl) Tryz.func3 (by kernel_rfl)
  (of_decide_eq_true (by kernel_rfl)) (by unfold Func.isWrapper;first|(rw[if_pos (by decide+kernel)];kernel_rfl)|(rw[if_neg (by decide+kernel)];exact⟨rfl,rfl⟩))
  (fun os started H enc _=>lifted os started H enc)
theorem proved:Rows.FnStoreSaid:=over
end Go.Proofs.YtpdggofaobmnlaaGreatDoor.fnStore
namespace Go.Proofs.YtpdggofaobmnlaaGreatDoor
open Go in
theorem fnStore_holds:Rows.FnStoreCardSaid:=
 Claim7.holds_tied_plain_at .later [] [.data,.data,.data,.handle,.sentinel,.sentinel,.sentinel,.sentinel] true (true,"4a440d2871d80348b1cb61fa3d172301230baecffe46b6455138045bae7eae3b") true
  fnStore.proved (fun _ h=>by cases h) (by kernel_rfl) (fun _ h=>by cases h) fnStore_row_tie rfl ⟨rfl,rfl⟩ (by kernel_rfl) rfl
  (fun f fn hf hfn=>by
   obtain rfl:f=3:=Option.some.inj ((show Tryz.prog.funcNamed Rows.fnStoreRow.func=some 3 by kernel_rfl).symm.trans hf) |>.symm
   obtain rfl:fn=Tryz.f3:=(Option.some.inj (Tryz.func3.symm.trans hfn)).symm
   exact⟨by kernel_rfl,fun j t ht=>by
    rw[Tryz.params3]at ht
    have hm:t∈[22]:=by simpa using Array.mem_of_getElem? ht
    have hall:([22].all fun u=> !Tryz.prog.wantsStandIn u)=true:=by kernel_rfl
    exact(show Tryz.prog.wantsStandIn t=false by simpa using List.all_eq_true.1 hall t hm)⟩)
  (by kernel_rfl)
end Go.Proofs.YtpdggofaobmnlaaGreatDoor
