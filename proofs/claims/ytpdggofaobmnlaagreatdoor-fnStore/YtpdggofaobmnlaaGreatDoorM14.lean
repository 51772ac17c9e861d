import Derived.Test.YtpdggofaobmnlaaGreatDoorM13
import Derived.Test.YtpdggofaobmnlaaGreatDoorM11
import Derived.Test.YtpdggofaobmnlaaGreatDoorM8
import Derived.Test.YtpdggofaobmnlaaGreatDoorM2
import Derived.Test.YtpdggofaobmnlaaGreatDoorM12
import Derived.Test.YtpdggofaobmnlaaGreatDoorDrawCm
/- The model's Register, Reserve, Release and Clear. -/
set_option maxRecDepth 20000
set_option maxHeartbeats 2000000
namespace Go.Proofs.YtpdggofaobmnlaaGreatDoor
open Go.ChangeShapes Go.WideShapes Go.ChangeAt Go.RowKit
def Bx (w wx:World) (v:Value) (h:Hd):Prop:=StB wx w.heap.size 28 (hdA v h)∧StB wx (w.heap.size+1) 28 #[.slice none 0 0,.int .i64 0,.int .i64 0,.int .i64 0]∧Below w.heap.size w wx∧w.heap.size+2≤wx.heap.size∧Reads wx v h.ks
theorem Bx.start {w:World} {v:Value} {h:Hd} (hr:Reads w v h.ks):Bx w ((w.alloc (.cells (hdA v h) 28)).alloc (.cells #[.slice none 0 0,.int .i64 0,.int .i64 0,.int .i64 0] 28)) v h:=by
 have b1:Below w.heap.size w (w.alloc (.cells (hdA v h) 28)):=(Below.refl _ _).alloc (Nat.le_refl _) _
 have b2:Below w.heap.size w ((w.alloc (.cells (hdA v h) 28)).alloc (.cells #[.slice none 0 0,.int .i64 0,.int .i64 0,.int .i64 0] 28)):=b1.alloc (by simp) _
 refine⟨(StB.new w _ _).alloc _,?_,b2,by simp,hr.below b2 (Nat.le_refl _)⟩
 have:=StB.new (w.alloc (.cells (hdA v h) 28)) 28 #[.slice none 0 0,.int .i64 0,.int .i64 0,.int .i64 0]
 rwa[World.size_alloc]at this
theorem Bx.next {w wx wy:World} {v:Value} {h:Hd} (d:Bx w wx v h) (b:Below wx.heap.size wx wy):Bx w wy v h:=
 ⟨d.1.below b,d.2.1.below b,d.2.2.1.trans (b.mono d.2.2.1.size),Nat.le_trans d.2.2.2.1 b.size,d.2.2.2.2.below b (Nat.le_refl _)⟩
theorem s8copy_any (v:Value) (h:Hd) (w:World) (hr:Reads w v h.ks) (hl:h.ks.length≤1099511627776):
  Calls Tryz.prog 87 #[HV v h] w fun e w'=>∃u,e=.returned (HV u h)∧Own w' w.heap.size u h.ks∧Below w.heap.size w w':=by
 obtain⟨ao,cap,rfl⟩:=reads_form hr
 obtain⟨w1,hw1⟩:∃w1,w1=(w.alloc (.cells (hdA (.slice ao h.ks.length cap) h) 28)).alloc (.cells #[.slice none 0 0,.int .i64 0,.int .i64 0,.int .i64 0] 28):=⟨_,rfl⟩
 have HB:Hid (Bx w w1 (.slice ao h.ks.length cap) h):=by rw[hw1];exact Bx.start hr
 have c1:=copy_any (.slice ao h.ks.length cap) h.ks w1 HB.out.2.2.2.2 hl
 have HW:Hid (w1=(w.alloc (.cells #[.slice ao h.ks.length cap,.int .i64 h.kd,.int .i64 h.ho,.int .i64 h.tu] 28)).alloc (.cells #[.slice none 0 0,.int .i64 0,.int .i64 0,.int .i64 0] 28)):=hw1
 clear hw1 hr hl
 unfold HV
 conv in hdA (.slice ao h.ks.length cap) h=>unfold hdA
 go_enter Tryz.func87,Tryz.ntmps87
 go_wp2_with fail
 rw[←HW.out]
 clear HW
 refine c1.mono ?_
 rintro e w2 ⟨u,rfl,o2,b2⟩
 have D2:Bx w w2 (.slice ao h.ks.length cap) h:=HB.out.next b2
 obtain⟨ab,cb,rfl⟩:=reads_form o2.reads
 have k0:w2.cell? ⟨w.heap.size,0,none⟩=some (.slice ao h.ks.length cap):=D2.1.cell 0 rfl
 have f0:=D2.1.frozen 0
 have G:=grownSet w2 w.heap.size 0 (.slice ab h.ks.length cb)
 have zq:StB (w2.setCell ⟨w.heap.size,0,none⟩ (.slice ab h.ks.length cb)) w.heap.size 28 (hdA (.slice ab h.ks.length cb) h):=D2.1.put 0 _ rfl
 have zz:StB (w2.setCell ⟨w.heap.size,0,none⟩ (.slice ab h.ks.length cb)) (w.heap.size+1) 28 #[.slice none 0 0,.int .i64 0,.int .i64 0,.int .i64 0]:=D2.2.1.kept G (by intro e;have:=Option.some.inj e;omega)
 have HF:Hid (Own (w2.setCell ⟨w.heap.size,0,none⟩ (.slice ab h.ks.length cb)) w1.heap.size (.slice ab h.ks.length cb) h.ks∧Below w.heap.size w (w2.setCell ⟨w.heap.size,0,none⟩ (.slice ab h.ks.length cb))∧w.heap.size+2≤w1.heap.size):=by
  refine⟨o2.keptLt G (by have:=HB.out.2.2.2.1;omega),D2.2.2.1.setCell (Nat.le_refl _) _,HB.out.2.2.2.1⟩
 clear D2 G o2 b2 HB c1
 go_wp2_with (first|(refine wpList_getS Tryz.isH rfl _ rfl w.heap.size rfl (hdA (.slice ab h.ks.length cb) h) rfl zq ?_)|(refine wpList_putS Tryz.isH rfl _ _ rfl (w.heap.size+1) (hdA (.slice ab h.ks.length cb) h) #[.slice none 0 0,.int .i64 0,.int .i64 0,.int .i64 0] rfl rfl rfl rfl (hdA_one _ rfl) zz ?_;intro we se ge))
 refine bodyPost_ret (results_S Tryz.isH rfl _ _ (w.heap.size+1) _ rfl rfl se) rfl ?_
 exact⟨_,rfl,(HF.out.1.keptLt ge (by have:=HF.out.2.2;omega)).mono (by have:=HF.out.2.2;omega),HF.out.2.1.grown ge HF.out.2.1.size (fun x e=>by cases e;omega)⟩
theorem s9reserve_any (base g:Nat) (h:Hd) (i k:Int) (w:World) (d:PB w base g h) (i0:0≤i) (i1:i<4):
  Calls Tryz.prog 127 #[.pointer (some ⟨g,0,none⟩),.int .i64 i,.int .i64 k] w fun e w'=>e=.returned (.bool (h.resd i k).2)∧PB w' base g (h.resd i k).1∧Below base w w':=by
 have HP:Hid (PB w base g h):=d
 obtain⟨q1,cap1,d1⟩:=d
 have k0:w.cell? ⟨g,0,none⟩=some (.slice (some ⟨q1,0,none⟩) 4 cap1):=d1.1.cell 0 rfl
 have k1:w.cell? ⟨g,1,none⟩=some (.int .i64 h.kd):=d1.1.cell 1 rfl
 have k2:w.cell? ⟨g,2,none⟩=some (.int .i64 h.ho):=d1.1.cell 2 rfl
 have k3:w.cell? ⟨g,3,none⟩=some (.int .i64 h.tu):=d1.1.cell 3 rfl
 have cr:=s8reg_any _ h i w d1.2.1.reads i0 (by have:=d1.2.2.2.2.2;omega)
 obtain⟨r,HE⟩:∃r,Hid (r=h.resd i k):=⟨_,rfl⟩
 rw[←HE.out]
 unfold HV hdA at cr
 clear d1
 cases hg:regI h.ks i with
 |false=>
  have HR:Hid (r=(h,false)):=by rw[Hid,HE.out,Hd.resd,if_pos hg]
  rw[hg]at cr
  clear HE hg
  go_enter Tryz.func127,Tryz.ntmps127
  go_wp2_with fail
  refine cr.mono ?_
  rintro e w2 ⟨rfl,b2⟩
  have HQ:Hid (PB w2 base g h∧Below base w w2):=⟨HP.out.below b2,b2.mono HP.out.lt⟩
  clear b2 HP k0 k1 k2 k3 cr
  go_wp2
  go_ret
  exact⟨by rw[HR.out];rfl,by rw[HR.out];exact HQ.out.1,HQ.out.2⟩
 |true=>
  have H1:Hid (r=if h.kd=0 then(h.take i k,true)else(h,decide (h.kd=k)&&(allI k||decide (h.ho=i)))):=by rw[Hid,HE.out,Hd.resd,if_neg (by rw[hg];decide)]
  rw[hg]at cr
  have ct:=s9take_any base g h i k
  have cf:=fun wx=>sall_any k wx
  obtain⟨bf,hbf⟩:∃bf,bf=allI k:=⟨_,rfl⟩
  rw[←hbf]at H1
  simp only[←hbf]at cf
  clear HE hg hbf
  go_enter Tryz.func127,Tryz.ntmps127
  go_wp2_with fail
  refine cr.mono ?_
  rintro e w2 ⟨rfl,b2⟩
  have HB:Hid (Below base w w2):=b2.mono HP.out.lt
  replace HP:Hid (PB w2 base g h):=HP.out.below b2
  clear b2 k0 k1 k2 k3 cr
  obtain⟨q2,cap2,d2⟩:=HP.out
  have k0:w2.cell? ⟨g,0,none⟩=some (.slice (some ⟨q2,0,none⟩) 4 cap2):=d2.1.cell 0 rfl
  have k1:w2.cell? ⟨g,1,none⟩=some (.int .i64 h.kd):=d2.1.cell 1 rfl
  have k2:w2.cell? ⟨g,2,none⟩=some (.int .i64 h.ho):=d2.1.cell 2 rfl
  have k3:w2.cell? ⟨g,3,none⟩=some (.int .i64 h.tu):=d2.1.cell 3 rfl
  clear d2
  by_cases hk:h.kd=0
  ·have HR:Hid (r=(h.take i k,true)):=by rw[Hid,H1.out,if_pos hk]
   clear H1 cf
   rw[hk]at k1
   go_wp2_with fail
   refine(ct _ HP.out).mono ?_
   rintro e w3 ⟨rfl,P3,B3⟩
   have HQ:Hid (PB w3 base g (h.take i k)∧Below base w w3):=⟨P3,HB.out.trans B3⟩
   clear P3 B3 HP HB k0 k1 k2 k3 ct hk
   go_wp2
   go_ret
   exact⟨by rw[HR.out];rfl,by rw[HR.out];exact HQ.out.1,HQ.out.2⟩
  ·have HR:Hid (r=(h,decide (h.kd=k)&&(bf||decide (h.ho=i)))):=by rw[Hid,H1.out,if_neg hk]
   have HQ:Hid (PB w2 base g h∧Below base w w2):=⟨HP.out,HB.out⟩
   clear H1 ct HP HB
   by_cases hkk:h.kd=k
   ·have hkb:(h.kd==k)=true:=by simp[hkk]
    cases bf with
    |true=>
     have HS:Hid (r=(h,true)):=by rw[Hid,HR.out];simp[hkk]
     clear HR
     go_wp2_with fail
     refine(cf _).mono ?_
     rintro e w' ⟨rfl,hw'⟩;subst w'
     go_wp2
     go_ret
     exact⟨by rw[HS.out];rfl,by rw[HS.out];exact HQ.out.1,HQ.out.2⟩
    |false=>
     have HS:Hid (r=(h,decide (h.ho=i))):=by rw[Hid,HR.out];simp[hkk]
     clear HR
     go_wp2_with fail
     refine(cf _).mono ?_
     rintro e w' ⟨rfl,hw'⟩;subst w'
     go_wp2
     go_ret
     exact⟨ret_bool (by rw[HS.out];by_cases hh:h.ho=i<;>simp[hh]),by rw[HS.out];exact HQ.out.1,HQ.out.2⟩
   ·have HS:Hid (r=(h,false)):=by rw[Hid,HR.out];simp[hkk]
    clear HR cf
    go_wp2
    go_ret
    exact⟨ret_bool (by rw[HS.out]),by rw[HS.out];exact HQ.out.1,HQ.out.2⟩
theorem s9release_any (base g:Nat) (h:Hd) (i:Int) (w:World) (d:PB w base g h) (i0:0≤i) (i1:i<4):
  Calls Tryz.prog 128 #[.pointer (some ⟨g,0,none⟩),.int .i64 i] w fun e w'=>e=.returned (.bool (h.reld i).2)∧PB w' base g (h.reld i).1∧Below base w w':=by
 have HP:Hid (PB w base g h):=d
 obtain⟨q1,cap1,d1⟩:=d
 have k0:w.cell? ⟨g,0,none⟩=some (.slice (some ⟨q1,0,none⟩) 4 cap1):=d1.1.cell 0 rfl
 have k1:w.cell? ⟨g,1,none⟩=some (.int .i64 h.kd):=d1.1.cell 1 rfl
 have k2:w.cell? ⟨g,2,none⟩=some (.int .i64 h.ho):=d1.1.cell 2 rfl
 have k3:w.cell? ⟨g,3,none⟩=some (.int .i64 h.tu):=d1.1.cell 3 rfl
 have cr:=s8reg_any _ h i w d1.2.1.reads i0 (by have:=d1.2.2.2.2.2;omega)
 obtain⟨r,HE⟩:∃r,Hid (r=h.reld i):=⟨_,rfl⟩
 rw[←HE.out]
 unfold HV hdA at cr
 clear d1
 cases hg:regI h.ks i with
 |false=>
  have HR:Hid (r=(h,false)):=by rw[Hid,HE.out,Hd.reld,if_pos hg]
  rw[hg]at cr
  clear HE hg
  go_enter Tryz.func128,Tryz.ntmps128
  go_wp2_with fail
  refine cr.mono ?_
  rintro e w2 ⟨rfl,b2⟩
  have HQ:Hid (PB w2 base g h∧Below base w w2):=⟨HP.out.below b2,b2.mono HP.out.lt⟩
  clear b2 HP k0 k1 k2 k3 cr
  go_wp2
  go_ret
  exact⟨by rw[HR.out];rfl,by rw[HR.out];exact HQ.out.1,HQ.out.2⟩
 |true=>
  have H1:Hid (r=if h.holds i then(h.free,true)else(h,true)):=by rw[Hid,HE.out,Hd.reld,if_neg (by rw[hg];decide)]
  rw[hg]at cr
  have ct:=s9free_any base g h
  clear HE hg
  go_enter Tryz.func128,Tryz.ntmps128
  go_wp2_with fail
  refine cr.mono ?_
  rintro e w2 ⟨rfl,b2⟩
  have HB:Hid (Below base w w2):=b2.mono HP.out.lt
  replace HP:Hid (PB w2 base g h):=HP.out.below b2
  clear b2 k0 k1 k2 k3 cr
  obtain⟨q2,cap2,d2⟩:=HP.out
  have k0:w2.cell? ⟨g,0,none⟩=some (.slice (some ⟨q2,0,none⟩) 4 cap2):=d2.1.cell 0 rfl
  have k1:w2.cell? ⟨g,1,none⟩=some (.int .i64 h.kd):=d2.1.cell 1 rfl
  have k2:w2.cell? ⟨g,2,none⟩=some (.int .i64 h.ho):=d2.1.cell 2 rfl
  have k3:w2.cell? ⟨g,3,none⟩=some (.int .i64 h.tu):=d2.1.cell 3 rfl
  have ch:=s8holds_any _ h i w2 d2.2.1.reads i0 (by have:=d2.2.2.2.2.2;omega)
  unfold HV hdA at ch
  clear d2
  cases hh:h.holds i with
  |true=>
   have HR:Hid (r=(h.free,true)):=by rw[Hid,H1.out,if_pos hh]
   rw[hh]at ch
   clear H1 hh
   go_wp2_with fail
   refine ch.mono ?_
   rintro e w3 ⟨rfl,b3⟩
   replace HB:Hid (Below base w w3):=HB.out.trans (b3.mono HP.out.lt)
   replace HP:Hid (PB w3 base g h):=HP.out.below b3
   clear b3 k0 k1 k2 k3 ch
   go_wp2_with fail
   refine(ct _ HP.out).mono ?_
   rintro e w4 ⟨rfl,P4,B4⟩
   have HQ:Hid (PB w4 base g h.free∧Below base w w4):=⟨P4,HB.out.trans B4⟩
   clear P4 B4 HP HB ct
   go_wp2
   go_ret
   exact⟨by rw[HR.out];rfl,by rw[HR.out];exact HQ.out.1,HQ.out.2⟩
  |false=>
   have HR:Hid (r=(h,true)):=by rw[Hid,H1.out,if_neg (by rw[hh];decide)]
   rw[hh]at ch
   clear H1 hh ct
   go_wp2_with fail
   refine ch.mono ?_
   rintro e w3 ⟨rfl,b3⟩
   have HQ:Hid (PB w3 base g h∧Below base w w3):=⟨HP.out.below b3,HB.out.trans (b3.mono HP.out.lt)⟩
   clear b3 k0 k1 k2 k3 ch HP HB
   go_wp2
   go_ret
   exact⟨by rw[HR.out];rfl,by rw[HR.out];exact HQ.out.1,HQ.out.2⟩
theorem s9clear_any (base g:Nat) (h:Hd) (i:Int) (w:World) (d:PB w base g h) (i0:0≤i) (i1:i<4) (t0:0≤h.tu) (t1:h.tu≤1000000000):
  Calls Tryz.prog 129 #[.pointer (some ⟨g,0,none⟩),.int .i64 i] w fun e w'=>e=.returned (.bool (h.clrd i).2)∧PB w' base g (h.clrd i).1∧Below base w w':=by
 have HP:Hid (PB w base g h):=d
 obtain⟨q1,cap1,d1⟩:=d
 have k0:w.cell? ⟨g,0,none⟩=some (.slice (some ⟨q1,0,none⟩) 4 cap1):=d1.1.cell 0 rfl
 have k1:w.cell? ⟨g,1,none⟩=some (.int .i64 h.kd):=d1.1.cell 1 rfl
 have k2:w.cell? ⟨g,2,none⟩=some (.int .i64 h.ho):=d1.1.cell 2 rfl
 have k3:w.cell? ⟨g,3,none⟩=some (.int .i64 h.tu):=d1.1.cell 3 rfl
 have cr:=s8reg_any _ h i w d1.2.1.reads i0 (by have:=d1.2.2.2.2.2;omega)
 obtain⟨r,HE⟩:∃r,Hid (r=h.clrd i):=⟨_,rfl⟩
 rw[←HE.out]
 unfold HV hdA at cr
 clear d1
 cases hg:regI h.ks i with
 |false=>
  have HR:Hid (r=(h,false)):=by rw[Hid,HE.out,Hd.clrd,if_pos hg]
  rw[hg]at cr
  clear HE hg
  go_enter Tryz.func129,Tryz.ntmps129
  go_wp2_with fail
  refine cr.mono ?_
  rintro e w2 ⟨rfl,b2⟩
  have HQ:Hid (PB w2 base g h∧Below base w w2):=⟨HP.out.below b2,b2.mono HP.out.lt⟩
  clear b2 HP k0 k1 k2 k3 cr
  go_wp2
  go_ret
  exact⟨by rw[HR.out];rfl,by rw[HR.out];exact HQ.out.1,HQ.out.2⟩
 |true=>
  have HR:Hid (r=((Hd.free ⟨[0,0,0,0],h.kd,h.ho,h.tu⟩).turn,true)):=by rw[Hid,HE.out,Hd.clrd,if_neg (by rw[hg];decide)];rfl
  rw[hg]at cr
  obtain⟨j0,hi,hz0,hz1,hz2⟩:=info_parts Tryz.infoI
  clear HE hg
  go_enter Tryz.func129,Tryz.ntmps129
  go_wp2_with fail
  refine cr.mono ?_
  rintro e w2 ⟨rfl,b2⟩
  have HB:Hid (Below base w w2):=b2.mono HP.out.lt
  replace HP:Hid (PB w2 base g h):=HP.out.below b2
  clear b2 k0 k1 k2 k3 cr
  obtain⟨q2,cap2,d2⟩:=HP.out
  have k0:w2.cell? ⟨g,0,none⟩=some (.slice (some ⟨q2,0,none⟩) 4 cap2):=d2.1.cell 0 rfl
  have k1:w2.cell? ⟨g,1,none⟩=some (.int .i64 h.kd):=d2.1.cell 1 rfl
  have k2:w2.cell? ⟨g,2,none⟩=some (.int .i64 h.ho):=d2.1.cell 2 rfl
  have k3:w2.cell? ⟨g,3,none⟩=some (.int .i64 h.tu):=d2.1.cell 3 rfl
  have hg2:=d2.1.lt
  have HD:Hid (PQ w2 base g q2 cap2 h):=d2
  clear d2 HP
  go_wp2_with (first
   |(refine wpList_make_full _ rfl _ _ 24 rfl w2.heap.size 2 j0 (.int .i64 0) 1 Tryz.underlying24 hi hz0 hz1 _ _ _ _ 4 rfl rfl rfl rfl (by rw[hz2];omega) (by unfold maxLen;omega) (Nat.le_refl _) ?_;intro w3 hown hgr;have S3:=HD.out.1.kept hgr (by simp);have m0:=S3.cell 0 (x:=.slice (some ⟨q2,0,none⟩) 4 cap2) rfl;have m1:=S3.frozen 0))
  have e4:(madeCells (Value.int .i64 0).cells (4*1)).toList=([0,0,0,0]:List Int).map (Value.int .i64):=zeros_eq 4
  rw[e4]at hown
  have o3:Own w3 w2.heap.size (.slice (some ⟨w2.heap.size,0,none⟩) 4 4) [0,0,0,0]:=hown
  have G3:=grownSet w3 g 0 (.slice (some ⟨w2.heap.size,0,none⟩) 4 4)
  have lb:=HD.out.lt
  have P3:PQ (w3.setCell ⟨g,0,none⟩ (.slice (some ⟨w2.heap.size,0,none⟩) 4 4)) base g w2.heap.size 4 ⟨[0,0,0,0],h.kd,h.ho,h.tu⟩:=
   ⟨S3.put 0 _ rfl,(o3.kept G3 (.inr (by intro e;have:w2.heap.size=g:=Option.some.inj e;omega))).mono lb,by omega,HD.out.2.2.2.1,lb,rfl⟩
  have HB3:Hid (Below base w (w3.setCell ⟨g,0,none⟩ (.slice (some ⟨w2.heap.size,0,none⟩) 4 4))):=(HB.out.trans ((Below.refl base w2).grown hgr lb (by simp))).setCell HD.out.2.2.2.1 _
  clear S3 m0 m1 hown e4 o3 G3 HD HB k0 k1 k2 k3
  refine(s9free_any base g _ _ ⟨_,_,P3⟩).mono ?_
  rintro e w4 ⟨rfl,P4,B4⟩
  replace HB3:Hid (Below base w w4):=HB3.out.trans B4
  clear P3 B4
  go_wp2_with fail
  refine(s9turn_any base g _ _ P4 t0 t1).mono ?_
  rintro e w5 ⟨rfl,P5,B5⟩
  have HQ:Hid (PB w5 base g _∧Below base w w5):=⟨P5,HB3.out.trans B5⟩
  clear P5 B5 HB3 P4
  go_wp2
  go_ret
  exact⟨by rw[HR.out];rfl,by rw[HR.out];exact HQ.out.1,HQ.out.2⟩
end Go.Proofs.YtpdggofaobmnlaaGreatDoor
namespace Go.Proofs.YtpdggofaobmnlaaGreatDoor
open Go.ChangeShapes Go.WideShapes Go.ChangeAt Go.RowKit
theorem sstoreok_any (u v q:Value) (xs ys:List Int) (h:Hd) (w:World) (hu:Reads w u xs) (hv:Reads w v ys) (hq:Reads w q h.ks) (gx:xs.length≤1099511627776) (gy:ys.length≤1099511627776) (gk:h.ks.length≤1099511627776):
  Calls Tryz.prog 13 #[SRV u v q h] w fun e w'=>e=.returned (.bool (Sr.ok ⟨xs,ys,h⟩))∧Below w.heap.size w w':=by
 have B1:Hid (Below w.heap.size w (w.alloc (.cells (srA u v q h) 30))):=(Below.refl _ _).alloc (Nat.le_refl _) _
 have P1:Hid (StB (w.alloc (.cells (srA u v q h) 30)) w.heap.size 30 (srA u v q h)):=StB.new _ _ _
 have c1:=sdiskOk_any u v xs ys _ (hu.below B1.out (Nat.le_refl _)) (hv.below B1.out (Nat.le_refl _)) gx gy
 have c2:Hid (∀wx,Below w.heap.size w wx→Calls Tryz.prog 44 #[HV q h] wx fun e w'=>e=.returned (.bool h.ok)∧Below wx.heap.size wx w'):=fun wx b=>sholdok_any q h wx (hq.below b (Nat.le_refl _)) gk
 have HE:Hid (Sr.ok ⟨xs,ys,h⟩=(bothOk xs ys&&h.ok)):=rfl
 obtain⟨r,hr⟩:∃r,r=Sr.ok ⟨xs,ys,h⟩:=⟨_,rfl⟩
 rw[←hr]at HE⊢
 obtain⟨b,hb⟩:∃b,b=bothOk xs ys:=⟨_,rfl⟩
 obtain⟨o,ho⟩:∃o,o=h.ok:=⟨_,rfl⟩
 rw[←hb,←ho]at HE
 rw[←hb]at c1
 rw[←ho]at c2
 obtain⟨uo,uc,rfl⟩:=reads_form hu
 obtain⟨vo,vc,rfl⟩:=reads_form hv
 obtain⟨qo,qc,rfl⟩:=reads_form hq
 clear hu hv hq gx gy gk hr hb ho
 unfold SRV srA at*
 unfold HV hdA at c2
 go_enter Tryz.func13,Tryz.ntmps13
 go_wp2_with fail
 refine c1.mono ?_
 rintro e w2 ⟨rfl,b2⟩
 have B2:Hid (Below w.heap.size w w2):=B1.out.trans (b2.mono B1.out.size)
 have P2:=P1.out.below b2
 have k2:=P2.cell 2 rfl
 have k3:=P2.cell 3 rfl
 have k4:=P2.cell 4 rfl
 have k5:=P2.cell 5 rfl
 clear b2 c1 B1 P1 P2
 cases b with
 |false=>
  go_wp2
  go_ret
  exact⟨ret_bool (by rw[HE.out];rfl),B2.out⟩
 |true=>
  go_wp2_with fail
  refine(c2.out _ B2.out).mono ?_
  rintro e w3 ⟨rfl,b3⟩
  have B3:Hid (Below w.heap.size w w3):=B2.out.trans (b3.mono B2.out.size)
  clear b3 k2 k3 k4 k5 c2
  go_wp2
  go_ret
  exact⟨ret_bool (by rw[HE.out];simp),B3.out⟩
end Go.Proofs.YtpdggofaobmnlaaGreatDoor
namespace Go.Proofs.YtpdggofaobmnlaaGreatDoor
open Go.ChangeShapes Go.WideShapes Go.ChangeAt Go.RowKit
theorem bl_size {w wx:World} (h:Below w.heap.size w wx):w.heap.size≤wx.heap.size:=h.size
def Sp (g:Nat) (w1 w':World):Prop:=∀a x,a.block≠g→w1.cell? a=some x→w'.cell? a=some x
theorem Sp.refl (g:Nat) (w1:World):Sp g w1 w1:=fun _ _ _ h=>h
theorem Sp.dr {g:Nat} {w1 wx:World} (h:Sp g w1 wx):Sp g w1 wx.drew:=h
theorem Sp.bel {g:Nat} {w1 wx wy:World} (h:Sp g w1 wx) (b:Below wx.heap.size wx wy):Sp g w1 wy:=fun a x h1 h3=>later_cell (h a x h1 h3) b
theorem Sp.al {g:Nat} {w1 wx:World} {o:Obj} (h:Sp g w1 wx):Sp g w1 (wx.alloc o):=h.bel ((Below.refl _ _).alloc (Nat.le_refl _) _)
theorem Sp.put {g:Nat} {w1 wx wy:World} (h:Sp g w1 wx) (e:wx.grownBy wy (some g)):Sp g w1 wy:=fun a x h1 h3=>e.cell (h a x h1 h3) (by simpa using h1)
theorem Sp.set {g:Nat} {w1 wx:World} {j:Nat} {v:Value} (h:Sp g w1 wx):Sp g w1 (wx.setCell ⟨g,j,none⟩ v):=h.put (grownSet wx g j v)
def Sd (g k:Nat) (w1 w':World):Prop:=∀a x,a.block≠g→a.block≠k→w1.cell? a=some x→w'.cell? a=some x
theorem Sd.refl (g k:Nat) (w1:World):Sd g k w1 w1:=fun _ _ _ _ h=>h
theorem Sd.dr {g k:Nat} {w1 wx:World} (h:Sd g k w1 wx):Sd g k w1 wx.drew:=h
theorem Sd.bel {g k:Nat} {w1 wx wy:World} (h:Sd g k w1 wx) (b:Below wx.heap.size wx wy):Sd g k w1 wy:=fun a x h1 h2 h3=>later_cell (h a x h1 h2 h3) b
theorem Sd.al {g k:Nat} {w1 wx:World} {o:Obj} (h:Sd g k w1 wx):Sd g k w1 (wx.alloc o):=h.bel ((Below.refl _ _).alloc (Nat.le_refl _) _)
theorem Sd.put1 {g k:Nat} {w1 wx wy:World} (h:Sd g k w1 wx) (e:wx.grownBy wy (some g)):Sd g k w1 wy:=fun a x h1 h2 h3=>e.cell (h a x h1 h2 h3) (by simpa using h1)
theorem Sd.put2 {g k:Nat} {w1 wx wy:World} (h:Sd g k w1 wx) (e:wx.grownBy wy (some k)):Sd g k w1 wy:=fun a x h1 h2 h3=>e.cell (h a x h1 h2 h3) (by simpa using h2)
theorem Sd.set1 {g k:Nat} {w1 wx:World} {j:Nat} {v:Value} (h:Sd g k w1 wx):Sd g k w1 (wx.setCell ⟨g,j,none⟩ v):=h.put1 (grownSet wx g j v)
theorem Sd.set2 {g k:Nat} {w1 wx:World} {j:Nat} {v:Value} (h:Sd g k w1 wx):Sd g k w1 (wx.setCell ⟨k,j,none⟩ v):=h.put2 (grownSet wx k j v)
end Go.Proofs.YtpdggofaobmnlaaGreatDoor
namespace Go.Proofs.YtpdggofaobmnlaaGreatDoor
open Go.ChangeShapes Go.WideShapes Go.ChangeAt Go.RowKit
def put6 (w:World) (g:Nat) (a b k:Value) (h:Hd):World:=
 (((((w.setCell ⟨g,0,none⟩ a).setCell ⟨g,1,none⟩ b).setCell ⟨g,2,none⟩ k).setCell ⟨g,3,none⟩ (.int .i64 h.kd)).setCell ⟨g,4,none⟩ (.int .i64 h.ho)).setCell ⟨g,5,none⟩ (.int .i64 h.tu)
theorem put6_st {w:World} {g:Nat} {t:TypeId} {c0 c1 c2 c3 c4 c5:Value} (a b k:Value) (h:Hd) (s:StB w g t #[c0,c1,c2,c3,c4,c5]):StB (put6 w g a b k h) g t (srA a b k h):=
 (((((s.put 0 _ rfl).put 1 _ rfl).put 2 _ rfl).put 3 _ rfl).put 4 _ rfl).put 5 _ rfl
theorem put6_grown (w:World) (g:Nat) (a b k:Value) (h:Hd):w.grownBy (put6 w g a b k h) (some g):=
 (((((grownSet _ _ _ _).trans (grownSet _ _ _ _)).trans (grownSet _ _ _ _)).trans (grownSet _ _ _ _)).trans (grownSet _ _ _ _)).trans (grownSet _ _ _ _)
theorem s12copy_any (u v q:Value) (xs ys:List Int) (h:Hd) (w:World) (hu:Reads w u xs) (hv:Reads w v ys) (hq:Reads w q h.ks) (gx:xs.length≤1099511627776) (gy:ys.length≤1099511627776) (gk:h.ks.length≤1099511627776):
  Calls Tryz.prog 39 #[SRV u v q h] w fun e w'=>∃a b k,e=.returned (SRV a b k h)∧OwnR w' w.heap.size a b k xs ys h.ks∧Below w.heap.size w w':=by
 obtain⟨w1,hw1⟩:∃w1,w1=(w.alloc (.cells (srA u v q h) 30)).alloc (.cells zeR 30):=⟨_,rfl⟩
 have b1:Below w.heap.size w w1:=by rw[hw1];exact((Below.refl _ _).alloc (Nat.le_refl _) _).alloc (by simp) _
 have S1:Hid (StB w1 w.heap.size 30 (srA u v q h)∧StB w1 (w.heap.size+1) 30 zeR∧Below w.heap.size w w1∧w.heap.size+2≤w1.heap.size):=by
  have a2:=StB.new (w.alloc (.cells (srA u v q h) 30)) 30 zeR
  simp only[World.size_alloc]at a2
  exact⟨by rw[hw1];exact(StB.new w _ _).alloc _,by rw[hw1];exact a2,b1,by rw[hw1];simp⟩
 have C1:Hid (∀wx,Below w1.heap.size w1 wx→Calls Tryz.prog 86 #[.agg #[u,v]] wx fun e w'=>∃a b,e=.returned (.agg #[a,b])∧OwnD w' wx.heap.size a b xs ys∧Below wx.heap.size wx w'):=fun wx e=>l3Copy_any u v xs ys wx ((hu.below b1 (Nat.le_refl _)).below e (Nat.le_refl _)) ((hv.below b1 (Nat.le_refl _)).below e (Nat.le_refl _)) gx gy
 have C2:Hid (∀wx,Below w1.heap.size w1 wx→Calls Tryz.prog 87 #[HV q h] wx fun e w'=>∃u,e=.returned (HV u h)∧Own w' wx.heap.size u h.ks∧Below wx.heap.size wx w'):=fun wx e=>s8copy_any q h wx ((hq.below b1 (Nat.le_refl _)).below e (Nat.le_refl _)) gk
 obtain⟨uo,uc,rfl⟩:=reads_form hu
 obtain⟨vo,vc,rfl⟩:=reads_form hv
 obtain⟨qo,qc,rfl⟩:=reads_form hq
 clear b1 hu hv hq gx gy gk
 have q0:∀w',Sp (w.heap.size+1) w1 w'→w'.cell? ⟨w.heap.size,0,none⟩=some (.slice uo xs.length uc):=fun w' b=>b _ _ (by simp) (S1.out.1.cell 0 rfl)
 have q1:∀w',Sp (w.heap.size+1) w1 w'→w'.cell? ⟨w.heap.size,1,none⟩=some (.slice vo ys.length vc):=fun w' b=>b _ _ (by simp) (S1.out.1.cell 1 rfl)
 have q2:∀w',Sp (w.heap.size+1) w1 w'→w'.cell? ⟨w.heap.size,2,none⟩=some (.slice qo h.ks.length qc):=fun w' b=>b _ _ (by simp) (S1.out.1.cell 2 rfl)
 have q3:∀w',Sp (w.heap.size+1) w1 w'→w'.cell? ⟨w.heap.size,3,none⟩=some (.int .i64 h.kd):=fun w' b=>b _ _ (by simp) (S1.out.1.cell 3 rfl)
 have q4:∀w',Sp (w.heap.size+1) w1 w'→w'.cell? ⟨w.heap.size,4,none⟩=some (.int .i64 h.ho):=fun w' b=>b _ _ (by simp) (S1.out.1.cell 4 rfl)
 have q5:∀w',Sp (w.heap.size+1) w1 w'→w'.cell? ⟨w.heap.size,5,none⟩=some (.int .i64 h.tu):=fun w' b=>b _ _ (by simp) (S1.out.1.cell 5 rfl)
 unfold SRV
 conv in srA=>unfold srA
 unfold HV hdA at C2
 unfold srA zeR at hw1
 go_enter Tryz.func39,Tryz.ntmps39
 go_upto_region 1 with fail
 rw[←hw1]
 clear hw1
 go_region_held3 (fun w'=>Sp (w.heap.size+1) w1 w') ((repeat'(first|with_reducible assumption|with_reducible exact Sp.refl _ _|with_reducible refine Sp.al ?_|with_reducible refine Sp.dr ?_|with_reducible refine Sp.set ?_|with_reducible refine Sp.put ?_ (by with_reducible assumption)|with_reducible refine Sp.bel ?_ (by with_reducible assumption))))
  (first
   |(go_at_call 86;refine(C1.out _ (by repeat'(first|with_reducible assumption|with_reducible exact Below.refl _ _|with_reducible refine bel_alloc ?_|with_reducible refine bel_drew ?_|with_reducible refine bel_trans ?_ (by with_reducible assumption)))).mono ?_;rintro e w3 ⟨a,b,rfl,o3,b3⟩;obtain⟨ao,ac,rfl⟩:=o3.1.reads.form;obtain⟨bo,bc,rfl⟩:=o3.2.1.reads.form;have O3:Hid (OwnD w3 _ (.slice ao xs.length ac) (.slice bo ys.length bc) xs ys):=o3;clear o3)
   |(go_at_call 87;refine(C2.out _ (by repeat'(first|with_reducible assumption|with_reducible exact Below.refl _ _|with_reducible refine bel_alloc ?_|with_reducible refine bel_drew ?_|with_reducible refine bel_trans ?_ (by with_reducible assumption)))).mono ?_;rintro e w4 ⟨z,rfl,o4,b4⟩;have hap:Hid (apart (.slice ao xs.length ac) z∧apart (.slice bo ys.length bc) z):=⟨apart_of O3.out.1 o4 (bl_size (by repeat'(first|with_reducible assumption|with_reducible exact Below.refl _ _|with_reducible refine bel_alloc ?_|with_reducible refine bel_drew ?_|with_reducible refine bel_trans ?_ (by with_reducible assumption)))),apart_of O3.out.2.1 o4 (bl_size (by repeat'(first|with_reducible assumption|with_reducible exact Below.refl _ _|with_reducible refine bel_alloc ?_|with_reducible refine bel_drew ?_|with_reducible refine bel_trans ?_ (by with_reducible assumption))))⟩;obtain⟨zo,zc,rfl⟩:=o4.reads.form;have B4:Hid (Below w1.heap.size w1 w4):=(show Below w1.heap.size w1 w4 from(by repeat'(first|with_reducible assumption|with_reducible exact Below.refl _ _|with_reducible refine bel_alloc ?_|with_reducible refine bel_drew ?_|with_reducible refine bel_trans ?_ (by with_reducible assumption))));have O4:Hid (OwnR w4 (w.heap.size+2) (.slice ao xs.length ac) (.slice bo ys.length bc) (.slice zo h.ks.length zc) xs ys h.ks):=⟨⟨(O3.out.1.mono (Nat.le_trans S1.out.2.2.2 (bl_size (by repeat'(first|with_reducible assumption|with_reducible exact Below.refl _ _|with_reducible refine bel_alloc ?_|with_reducible refine bel_drew ?_|with_reducible refine bel_trans ?_ (by with_reducible assumption)))))).below (by repeat'(first|with_reducible assumption|with_reducible exact Below.refl _ _|with_reducible refine bel_alloc ?_|with_reducible refine bel_drew ?_|with_reducible refine bel_trans ?_ (by with_reducible assumption))),(O3.out.2.1.mono (Nat.le_trans S1.out.2.2.2 (bl_size (by repeat'(first|with_reducible assumption|with_reducible exact Below.refl _ _|with_reducible refine bel_alloc ?_|with_reducible refine bel_drew ?_|with_reducible refine bel_trans ?_ (by with_reducible assumption)))))).below (by repeat'(first|with_reducible assumption|with_reducible exact Below.refl _ _|with_reducible refine bel_alloc ?_|with_reducible refine bel_drew ?_|with_reducible refine bel_trans ?_ (by with_reducible assumption))),O3.out.2.2⟩,o4.mono (Nat.le_trans S1.out.2.2.2 (bl_size (by repeat'(first|with_reducible assumption|with_reducible exact Below.refl _ _|with_reducible refine bel_alloc ?_|with_reducible refine bel_drew ?_|with_reducible refine bel_trans ?_ (by with_reducible assumption))))),hap.out⟩;have R4:=S1.out.2.1.below B4.out;have r0:w4.cell? ⟨w.heap.size+1,0,none⟩=some (.slice none 0 0):=R4.cell 0 rfl;have r1:w4.cell? ⟨w.heap.size+1,1,none⟩=some (.slice none 0 0):=R4.cell 1 rfl;have r2:w4.cell? ⟨w.heap.size+1,2,none⟩=some (.slice none 0 0):=R4.cell 2 rfl;have r3:w4.cell? ⟨w.heap.size+1,3,none⟩=some (.int .i64 0):=R4.cell 3 rfl;have r4:w4.cell? ⟨w.heap.size+1,4,none⟩=some (.int .i64 0):=R4.cell 4 rfl;have r5:w4.cell? ⟨w.heap.size+1,5,none⟩=some (.int .i64 0):=R4.cell 5 rfl;have f0:=R4.frozen 0;have f1:=R4.frozen 1;have f2:=R4.frozen 2;have f3:=R4.frozen 3;have f4:=R4.frozen 4;have f5:=R4.frozen 5;clear o4))
 all_goals
  go_wp2
  have R4:StB w4 (w.heap.size+1) 30 _:=S1.out.2.1.below B4.out
  have G6:=put6_grown w4 (w.heap.size+1) (.slice ao xs.length ac) (.slice bo ys.length bc) (.slice zo h.ks.length zc) h
  refine bodyPost_ret (results_S Tryz.isR rfl _ _ (w.heap.size+1) (srA (.slice ao xs.length ac) (.slice bo ys.length bc) (.slice zo h.ks.length zc) h) rfl rfl (put6_st (.slice ao xs.length ac) (.slice bo ys.length bc) (.slice zo h.ks.length zc) h R4)) rfl ?_
  have B5:=S1.out.2.2.1.trans (B4.out.mono S1.out.2.2.1.size)
  exact⟨_,_,_,rfl,(O4.out.keptLt G6 (by omega)).mono (by omega),B5.grown G6 B5.size (fun k e=>by cases e;omega)⟩
end Go.Proofs.YtpdggofaobmnlaaGreatDoor
namespace Go.Proofs.YtpdggofaobmnlaaGreatDoor
open Go.ChangeShapes Go.WideShapes Go.ChangeAt Go.RowKit
theorem StB.set {w:World} {g k j:Nat} {t:TypeId} {cs:Array Value} {v:Value} (h:StB w g t cs) (ne:g≠k):StB (w.setCell ⟨k,j,none⟩ v) g t cs:=h.other _ _ ne
theorem StB.keptN {w w':World} {g k:Nat} {t:TypeId} {cs:Array Value} (h:StB w g t cs) (b:w.grownBy w' (some k)) (ne:g≠k):StB w' g t cs:=h.kept b (by simpa using ne)
theorem Tryz.isCm:IsS 32 5:=⟨⟨_,Tryz.underlying32⟩,by kernel_rfl⟩
def put5 (w:World) (g:Nat) (r:Cm):World:=
 ((((w.setCell ⟨g,0,none⟩ (.int .i64 r.o)).setCell ⟨g,1,none⟩ (.int .i64 r.p)).setCell ⟨g,2,none⟩ (.int .i64 r.a)).setCell ⟨g,3,none⟩ (.int .i64 r.b)).setCell ⟨g,4,none⟩ (.int .i64 r.k)
theorem put5_st {w:World} {g:Nat} {t:TypeId} {c0 c1 c2 c3 c4:Value} (r:Cm) (s:StB w g t #[c0,c1,c2,c3,c4]):StB (put5 w g r) g t (cmA r):=
 ((((s.put 0 _ rfl).put 1 _ rfl).put 2 _ rfl).put 3 _ rfl).put 4 _ rfl
theorem put5_grown (w:World) (g:Nat) (r:Cm):w.grownBy (put5 w g r) (some g):=
 ((((grownSet _ _ _ _).trans (grownSet _ _ _ _)).trans (grownSet _ _ _ _)).trans (grownSet _ _ _ _)).trans (grownSet _ _ _ _)
def Sg (g:Nat) (w1 w':World):Prop:=∀j x,w1.cell? ⟨g,j,none⟩=some x→w'.cell? ⟨g,j,none⟩=some x
theorem Sg.refl (g:Nat) (w1:World):Sg g w1 w1:=fun _ _ h=>h
theorem Sg.dr {g:Nat} {w1 wx:World} (h:Sg g w1 wx):Sg g w1 wx.drew:=h
theorem Sg.put {g k:Nat} {w1 wx wy:World} (h:Sg g w1 wx) (e:wx.grownBy wy (some k)) (ne:g≠k):Sg g w1 wy:=fun j x h1=>e.cell (h j x h1) (by simpa using ne)
theorem Sg.set {g k i:Nat} {w1 wx:World} {v:Value} (h:Sg g w1 wx) (ne:g≠k):Sg g w1 (wx.setCell ⟨k,i,none⟩ v):=h.put (grownSet wx k i v) ne
theorem Sg.of {g:Nat} {w1 wx:World} {t:TypeId} {cs:Array Value} (h:StB w1 g t cs) (h':StB wx g t cs):Sg g w1 wx:=fun j x e=>by
 rw[cell_of_row w1 g j _ _ _ h]at e
 rw[cell_of_row wx g j _ _ _ h',e]
theorem results_SIC {fn:Func} {p q r:Tmp} (h:fn.results=#[.cell p 30,.tmp q,.cell r 32]) (tmps:Array Value) (w:World) (g k:Nat) (cs:Array Value) (x:Value) (c:Cm) (hc:cs.size=6)
  (hp:tmps.getD p undef=.pointer (some ⟨g,0,none⟩)) (hx:tmps.getD q undef=x) (hq:tmps.getD r undef=.pointer (some ⟨k,0,none⟩)) (h1:StB w g 30 cs) (h2:CmB w k 32 c):(results fn tmps).run Tryz.prog w=.ok (.tuple #[.agg cs,x,CV c]) w:=by
 obtain⟨fs,hu⟩:=Tryz.underC
 have l1:=load_S Tryz.isR w g cs hc h1
 have l2:=run_loadVar_row w k _ _ _ _ _ h2 hu rfl Tryz.infoC
 have hp':tmps[p]?.getD undef=.pointer (some ⟨g,0,none⟩):=by simpa using hp
 have hx':tmps[q]?.getD undef=x:=by simpa using hx
 have hq':tmps[r]?.getD undef=.pointer (some ⟨k,0,none⟩):=by simpa using hq
 simp[results,h,hp',hx',hq',asAddr,l1,l2,CV]
theorem results_SS {fn:Func} {p q:Tmp} (h:fn.results=#[.cell p 30,.cell q 30]) (tmps:Array Value) (w:World) (g k:Nat) (cs ds:Array Value) (hc:cs.size=6) (hd:ds.size=6)
  (hp:tmps.getD p undef=.pointer (some ⟨g,0,none⟩)) (hq:tmps.getD q undef=.pointer (some ⟨k,0,none⟩)) (h1:StB w g 30 cs) (h2:StB w k 30 ds):(results fn tmps).run Tryz.prog w=.ok (.tuple #[.agg cs,.agg ds]) w:=by
 have l1:=load_S Tryz.isR w g cs hc h1
 have l2:=load_S Tryz.isR w k ds hd h2
 have hp':tmps[p]?.getD undef=.pointer (some ⟨g,0,none⟩):=by simpa using hp
 have hq':tmps[q]?.getD undef=.pointer (some ⟨k,0,none⟩):=by simpa using hq
 simp[results,h,hp',hq',asAddr,l1,l2]
end Go.Proofs.YtpdggofaobmnlaaGreatDoor
