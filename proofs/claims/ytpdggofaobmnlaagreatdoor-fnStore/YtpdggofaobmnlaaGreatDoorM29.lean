import Derived.Test.YtpdggofaobmnlaaGreatDoorM28
import Derived.Test.YtpdggofaobmnlaaGreatDoorM18
/- Preempted, by the program. -/
set_option maxRecDepth 20000
set_option maxHeartbeats 4000000
namespace Go.Proofs.YtpdggofaobmnlaaGreatDoor
open Go.ChangeShapes Go.WideShapes Go.ChangeAt Go.RowKit
def strF (f:Nat→Int) (i:Nat) (k:Int) (j:Nat):Nat→Int:=fun m=>if m<j∧f m=k∧m≠i then 0 else f m
theorem strF_zero (f:Nat→Int) (i:Nat) (k:Int):strF f i k 0=f:=by funext m;simp[strF]
theorem strF_yes (f:Nat→Int) (i:Nat) (k:Int) (j:Nat) (h:f j=k) (hn:j≠i):updF (strF f i k j) j 0=strF f i k (j+1):=by
 funext m
 unfold updF strF
 by_cases e:m=j
 ·subst e;simp[h,hn]
 ·have:m<j+1↔m<j:=by omega
  simp[e,this]
theorem strF_no (f:Nat→Int) (i:Nat) (k:Int) (j:Nat) (h:¬(f j=k∧j≠i)):strF f i k j=strF f i k (j+1):=by
 funext m
 unfold strF
 by_cases e:m=j
 ·subst e
  rw[if_neg (by intro c;exact h c.2),if_neg (by intro c;exact h c.2)]
 ·have:m<j+1↔m<j:=by omega
  simp[this]
theorem idxK (f:Nat→Int) (j:Nat) (hj:j<4) (w:World):(Instr.index 104 (.agg (kA f)) (.int .i64 (j:Int))).run Tryz.prog w=.ok (.int .i64 (f j)) w:=by
 obtain⟨i0,hi,hz0,hz1,hz2⟩:=info_parts Tryz.infoI
 have h1:(0:Int)≤(j:Int)∧(j:Int)<((4:Nat):Int):=by omega
 have h2:((j:Int)).toNat*1=j:=by omega
 have hcells:Tryz.prog.cellsOf 2=1:=by kernel_rfl
 have hplain:Tryz.prog.plainKey 2=true:=by kernel_rfl
 simp only[Instr.index,asIntOf,run_underlying Tryz.underK,Sem.run_bind,Sem.run_pure,Result.andThen_ok,h1,and_self,if_true,run_sizeOf w hi,hcells,h2]
 exact run_part_plain w hplain (kA_at f j hj)
def fallsI (f:Nat→Int) (kd ho i k:Int):Bool:=(keyF f ho==k)||(allI kd&& !anyF (updF (strF f i.toNat k 4) i.toNat 0))
theorem ipreempted_any (f:Nat→Int) (kd ho tu i k d:Int) (w:World) (t0:0≤tu) (t1:tu≤1000000000) (i0:0≤i) (i1:i<4):
  Calls Tryz.prog 203 #[.agg (heA f kd ho tu),.agg (wiA i k d)] w fun e w'=>e=.returned (.agg (heA (strF f i.toNat k 4) (if fallsI f kd ho i k then d else kd) (if fallsI f kd ho i k then(if allI d then-1 else i)else ho) (turnI tu)))∧Below w.heap.size w w':=by
 obtain⟨n,hn,hn4⟩:∃n:Nat,i=(n:Int)∧n<4:=⟨i.toNat,by omega,by omega⟩
 subst hn
 rw[Int.toNat_natCast]
 obtain⟨w1,hw1⟩:∃w1,w1=((w.alloc (.cells (heA f kd ho tu) 106)).alloc (.cells (wiA n k d) 209)).alloc (.cells he0A 106):=⟨_,rfl⟩
 have HS:Hid (HW w w1 f kd ho tu n k d):=by rw[hw1];exact HW.start _ _ _ _ _ _ _ _
 have HD:Hid (HW w w1.drew f kd ho tu n k d):=HS.out.drew
 have c1:=fun wx=>ikeyof_any f ho wx
 have HE:Hid (fallsI f kd ho n k=((keyF f ho==k)||(allI kd&& !anyF (updF (strF f n k 4) n 0)))):=rfl
 obtain⟨y,hy⟩:∃y,y=keyF f ho:=⟨_,rfl⟩
 obtain⟨r,hr⟩:∃r,r=fallsI f kd ho n k:=⟨_,rfl⟩
 obtain⟨A,hA⟩:∃A,A=heA (strF f n k 4) (if fallsI f kd ho n k then d else kd) (if fallsI f kd ho n k then(if allI d then-1 else(n:Int))else ho) (turnI tu):=⟨_,rfl⟩
 rw[←hA]
 have HA:Hid (A=heA (strF f n k 4) (if r then d else kd) (if r then(if allI d then-1 else(n:Int))else ho) (turnI tu)):=by rw[Hid,hr];exact hA
 clear hA
 rw[←hr,←hy]at HE
 simp only[←hy]at c1
 clear hy hr
 obtain⟨p,hp⟩:∃p,p=fun x=>HW w x f kd ho tu n k d:=⟨_,rfl⟩
 have HP:Hid (∀x,p x→HW w x f kd ho tu n k d):=by rw[hp];exact fun _ h=>h
 have HN:Hid (∀x w',p x→Below x.heap.size x w'→p w'):=by rw[hp];exact fun _ _ h b=>h.next b
 have H0:Hid (p w1.drew):=by rw[hp];exact HD.out
 have hne:Nonempty (Kin p):=⟨⟨_,H0.out⟩⟩
 have m0:∀q:Kin p,q.x.cell? ⟨w.heap.size,0,none⟩=some (.int .i64 (f 0)):=fun q=>(HP.out _ q.h).1.cell 0 rfl
 have m1:∀q:Kin p,q.x.cell? ⟨w.heap.size,1,none⟩=some (.int .i64 (f 1)):=fun q=>(HP.out _ q.h).1.cell 1 rfl
 have m2:∀q:Kin p,q.x.cell? ⟨w.heap.size,2,none⟩=some (.int .i64 (f 2)):=fun q=>(HP.out _ q.h).1.cell 2 rfl
 have m3:∀q:Kin p,q.x.cell? ⟨w.heap.size,3,none⟩=some (.int .i64 (f 3)):=fun q=>(HP.out _ q.h).1.cell 3 rfl
 have m5:∀q:Kin p,q.x.cell? ⟨w.heap.size,5,none⟩=some (.int .i64 ho):=fun q=>(HP.out _ q.h).1.cell 5 rfl
 have p1:∀q:Kin p,q.x.cell? ⟨w.heap.size+1,1,none⟩=some (.int .i64 k):=fun q=>(HP.out _ q.h).2.1.cell 1 rfl
 unfold kA at c1
 rw[heA,wiA,he0A,heA]at hw1
 conv in heA f kd ho tu=>unfold heA
 rw[wiA]
 go_enter Tryz.func203,Tryz.ntmps203
 go_upto_region 1 with fail
 rw[←hw1]
 clear hw1 HS HD hp
 refine wp_region_kin p (by kernel_rfl) (by kernel_rfl) H0.out ?_
 repeat(quiet_step (first|(go_at_call 113;exact Kin.call (c1 _) HN.out)))
 refine wpQuiet_nil ?_
 intro w2 hw'
 have H2:p w2:=by{obtain⟨q,rfl⟩:=hw';exact q.h}
 clear hw'
 have HS:Hid (HW w w2 f kd ho tu n k d):=HP.out _ H2
 clear H2 HP HN H0 hne m0 m1 m2 m3 m5 p1 c1
 obtain⟨m0,m1,m2,m3, -, -, -⟩:=heA_cells HS.out.1
 have hix:=fun j hj wx=>idxK f j hj wx
 unfold kA at hix
 have HX:Hid _:=hix
 clear hix
 go_wp2_with fail
 clear m0 m1 m2 m3
 go_loopw [18] (fun v wr=>∃j:Nat,j≤4∧v=.int .i64 j∧Hid (HW w wr (strF f n k j) kd ho tu n k d)) (fun v _=>4-(intOf v).toNat)
 case atStart=>exact⟨0,by omega,rfl,by rw[strF_zero];exact HS⟩
 case round=>
  obtain⟨j,hj,rfl,HR⟩:=hrel
  clear HS
  by_cases hlt:(j:Int)<4
  ·have ix:=HX.out j (by omega) wr
   obtain⟨z,hz⟩:∃z,z=f j:=⟨_,rfl⟩
   rw[←hz]at ix
   have p0:wr.cell? ⟨w.heap.size+1,0,none⟩=some (.int .i64 n):=HR.out.2.1.cell 0 rfl
   have p1:wr.cell? ⟨w.heap.size+1,1,none⟩=some (.int .i64 k):=HR.out.2.1.cell 1 rfl
   by_cases ek:z=k
   ·have ekb:(z==k)=true:=by simpa using ek
    by_cases en:(j:Int)=n
    ·have enb:((j:Int) !=(n:Int))=false:=by simpa using en
     have HR2:Hid (HW w wr (strF f n k (j+1)) kd ho tu n k d):=by rw[Hid,←strF_no f n k j (by omega)];exact HR.out
     clear hz ek en HR
     go_wp2
     go_roundw
     case rel=>exact⟨j+1,by omega,by go_num,HR2⟩
     case measure=>simp[intOf];omega
    ·have enb:((j:Int) !=(n:Int))=true:=by simpa using en
     have hcj:=heA_at HR.out.1 j (by omega)
     have hfj:=HR.out.1.frozen j
     have HR2:Hid (HW w (wr.setCell ⟨w.heap.size,j,none⟩ (.int .i64 0)) (strF f n k (j+1)) kd ho tu n k d):=by
      rw[Hid,←strF_yes f n k j (by rw[←hz,ek]) (by omega)]
      exact HR.out.put j 0 (heA_set _ kd ho tu 0 j (by omega))
     clear hz ek en HR
     go_wp2
     go_roundw
     case rel=>exact⟨j+1,by omega,by go_num,HR2⟩
     case measure=>simp[intOf];omega
   ·have ekb:(z==k)=false:=by simpa using ek
    have HR2:Hid (HW w wr (strF f n k (j+1)) kd ho tu n k d):=by rw[Hid,←strF_no f n k j (by rw[←hz];omega)];exact HR.out
    clear hz ek HR p0
    go_wp2
    go_roundw
    case rel=>exact⟨j+1,by omega,by go_num,HR2⟩
    case measure=>simp[intOf];omega
  ·have e4:j=4:=by omega
   subst e4
   obtain⟨g,hg⟩:∃g,g=strF f n k 4:=⟨_,rfl⟩
   have c2:=fun wx=>iall_any kd wx
   have c3:=fun wx=>ibeside_any g n wx i0 i1
   have c4:=fun wx=>iheldby_any g kd ho tu n k d wx
   obtain⟨h2,hh2⟩:∃h2,h2=if allI d then-1 else(n:Int):=⟨_,rfl⟩
   have c5:=fun wx=>iturned_any g d h2 tu wx t0 t1
   have c6:=fun wx=>iturned_any g kd ho tu wx t0 t1
   rw[Int.toNat_natCast]at c3
   simp only[←hh2]at c4
   rw[←hg]at HE HR
   have HG:Hid (g=strF f n k 4):=hg
   have HH2:Hid (h2=if allI d then-1 else(n:Int)):=hh2
   obtain⟨a1,ha1⟩:∃a1,a1=allI kd:=⟨_,rfl⟩
   obtain⟨a2,ha2⟩:∃a2,a2=anyF (updF g n 0):=⟨_,rfl⟩
   obtain⟨b0,hb0⟩:∃b0,b0=(y==k):=⟨_,rfl⟩
   rw[←ha1,←ha2,←hb0]at HE
   simp only[←ha1]at c2
   simp only[←ha2]at c3
   clear ha1 ha2 hg hh2 t0 t1 i0 i1 HX
   unfold kA at c3
   cases b0 with
   |true=>
    have hb:(y==k)=true:=hb0.symm
    clear hb0 c2 c3
    clear c6
    go_upto_region 9 with fail
    go_upto_region 10 with(first|(refine wpList_getS Tryz.isHeld rfl _ rfl w.heap.size rfl (heA g kd ho tu) rfl HR.out.1 ?_)|(refine wpList_getS Tryz.isWish rfl _ rfl (w.heap.size+1) rfl (wiA n k d) rfl HR.out.2.1 ?_)|(go_at_call 196;refine(c4 _).mono ?_;rintro e w6 ⟨rfl,b6⟩;have H6:Hid (HW w w6 g kd ho tu n k d):=HR.out.next b6;clear b6)|(refine wpList_putS Tryz.isHeld rfl _ _ rfl w.heap.size (heA g d h2 tu) (heA g kd ho tu) rfl rfl rfl rfl (heA_one _ _ _ _) H6.out.1 ?_;intro w7 h7 g7;have H7:Hid (HW w w7 g d h2 tu n k d):=H6.out.set h7 g7;clear h7 g7))
    clear c4
    go_wp2_with (first|(refine wpList_getS Tryz.isHeld rfl _ rfl w.heap.size rfl (heA g d h2 tu) rfl H7.out.1 ?_)|(go_at_call 207;refine(c5 _).mono ?_;rintro e w8 ⟨rfl,b8⟩;have H8:Hid (HW w w8 g d h2 tu n k d):=H7.out.next b8;clear b8)|(refine wpList_putS Tryz.isHeld rfl _ _ rfl (w.heap.size+2) (heA g d h2 (turnI tu)) he0A rfl rfl rfl rfl (heA_one _ _ _ _) H8.out.2.2.1 ?_;intro w9 h9 g9))
    refine bodyPost_ret (results_S Tryz.isHeld rfl _ _ (w.heap.size+2) _ rfl rfl h9) rfl ?_
    exact⟨by rw[HA.out,HE.out,←HG.out,←HH2.out];rfl,H8.out.2.2.2.grown g9 H8.out.2.2.2.size (fun k e=>by cases e;omega)⟩
   |false=>
    have hb:(y==k)=false:=hb0.symm
    clear hb0
    have q4:wr.cell? ⟨w.heap.size,4,none⟩=some (.int .i64 kd):=HR.out.1.cell 4 rfl
    go_wp2_with fail
    refine(c2 _).mono ?_
    rintro e w3 ⟨rfl,b3⟩
    have H3:Hid (HW w w3 g kd ho tu n k d):=HR.out.next b3
    clear b3 HR q4 c2
    cases a1 with
    |false=>
     clear c3
     clear c4 c5
     go_upto_region 10 with fail
     go_wp2_with (first|(refine wpList_getS Tryz.isHeld rfl _ rfl w.heap.size rfl (heA g kd ho tu) rfl H3.out.1 ?_)|(go_at_call 207;refine(c6 _).mono ?_;rintro e w8 ⟨rfl,b8⟩;have H8:Hid (HW w w8 g kd ho tu n k d):=H3.out.next b8;clear b8)|(refine wpList_putS Tryz.isHeld rfl _ _ rfl (w.heap.size+2) (heA g kd ho (turnI tu)) he0A rfl rfl rfl rfl (heA_one _ _ _ _) H8.out.2.2.1 ?_;intro w9 h9 g9))
     refine bodyPost_ret (results_S Tryz.isHeld rfl _ _ (w.heap.size+2) _ rfl rfl h9) rfl ?_
     exact⟨by rw[HA.out,HE.out,←HG.out,←HH2.out];rfl,H8.out.2.2.2.grown g9 H8.out.2.2.2.size (fun k e=>by cases e;omega)⟩
    |true=>
     obtain⟨m0,m1,m2,m3, -, -, -⟩:=heA_cells H3.out.1
     have p0:w3.cell? ⟨w.heap.size+1,0,none⟩=some (.int .i64 n):=H3.out.2.1.cell 0 rfl
     go_wp2_with fail
     refine(c3 _).mono ?_
     rintro e w4 ⟨rfl,b4⟩
     have H4:Hid (HW w w4 g kd ho tu n k d):=H3.out.next b4
     clear b4 H3 c3 m0 m1 m2 m3 p0
     cases a2 with
     |true=>
      clear c4 c5
      go_upto_region 10 with fail
      go_wp2_with (first|(refine wpList_getS Tryz.isHeld rfl _ rfl w.heap.size rfl (heA g kd ho tu) rfl H4.out.1 ?_)|(go_at_call 207;refine(c6 _).mono ?_;rintro e w8 ⟨rfl,b8⟩;have H8:Hid (HW w w8 g kd ho tu n k d):=H4.out.next b8;clear b8)|(refine wpList_putS Tryz.isHeld rfl _ _ rfl (w.heap.size+2) (heA g kd ho (turnI tu)) he0A rfl rfl rfl rfl (heA_one _ _ _ _) H8.out.2.2.1 ?_;intro w9 h9 g9))
      refine bodyPost_ret (results_S Tryz.isHeld rfl _ _ (w.heap.size+2) _ rfl rfl h9) rfl ?_
      exact⟨by rw[HA.out,HE.out,←HG.out,←HH2.out];rfl,H8.out.2.2.2.grown g9 H8.out.2.2.2.size (fun k e=>by cases e;omega)⟩
     |false=>
      clear c6
      go_upto_region 9 with fail
      go_upto_region 10 with(first|(refine wpList_getS Tryz.isHeld rfl _ rfl w.heap.size rfl (heA g kd ho tu) rfl H4.out.1 ?_)|(refine wpList_getS Tryz.isWish rfl _ rfl (w.heap.size+1) rfl (wiA n k d) rfl H4.out.2.1 ?_)|(go_at_call 196;refine(c4 _).mono ?_;rintro e w6 ⟨rfl,b6⟩;have H6:Hid (HW w w6 g kd ho tu n k d):=H4.out.next b6;clear b6)|(refine wpList_putS Tryz.isHeld rfl _ _ rfl w.heap.size (heA g d h2 tu) (heA g kd ho tu) rfl rfl rfl rfl (heA_one _ _ _ _) H6.out.1 ?_;intro w7 h7 g7;have H7:Hid (HW w w7 g d h2 tu n k d):=H6.out.set h7 g7;clear h7 g7))
      clear c4
      go_wp2_with (first|(refine wpList_getS Tryz.isHeld rfl _ rfl w.heap.size rfl (heA g d h2 tu) rfl H7.out.1 ?_)|(go_at_call 207;refine(c5 _).mono ?_;rintro e w8 ⟨rfl,b8⟩;have H8:Hid (HW w w8 g d h2 tu n k d):=H7.out.next b8;clear b8)|(refine wpList_putS Tryz.isHeld rfl _ _ rfl (w.heap.size+2) (heA g d h2 (turnI tu)) he0A rfl rfl rfl rfl (heA_one _ _ _ _) H8.out.2.2.1 ?_;intro w9 h9 g9))
      refine bodyPost_ret (results_S Tryz.isHeld rfl _ _ (w.heap.size+2) _ rfl rfl h9) rfl ?_
      exact⟨by rw[HA.out,HE.out,←HG.out,←HH2.out];rfl,H8.out.2.2.2.grown g9 H8.out.2.2.2.size (fun k e=>by cases e;omega)⟩
end Go.Proofs.YtpdggofaobmnlaaGreatDoor
namespace Go.Proofs.YtpdggofaobmnlaaGreatDoor
open Go.ChangeShapes Go.WideShapes Go.ChangeAt Go.RowKit
def fv (n:FuncId):Value:=.func (Fn.func n) #[] #[]
def acA:Array Value:=#[fv 191,fv 192,fv 193,fv 194,fv 195,fv 196,fv 197,fv 198,fv 199,fv 197,fv 198,fv 200,fv 201,fv 202,fv 203]
def nilA (n:Nat):Array Value:=Array.replicate n .nilFunc
theorem Tryz.isAction:IsS 226 3:=⟨⟨_,Tryz.underlying226⟩,by kernel_rfl⟩
theorem Tryz.sizeAcs:(Tryz.prog.info? 227).map (·.size)=some 15:=by kernel_rfl
theorem Tryz.underAcs:Tryz.prog.underlying 227=some (.array 5 226):=by kernel_rfl
theorem iactions_any (w:World):
  Calls Tryz.prog 182 #[] w fun e w'=>e=.returned (.agg acA)∧Below w.heap.size w w':=by
 have z0:StB (w.alloc (.cells (nilA 15) 227)) w.heap.size 227 (nilA 15):=StB.new _ _ _
 have b0:Below w.heap.size w (w.alloc (.cells (nilA 15) 227)):=(Below.refl _ _).alloc (Nat.le_refl _) _
 have Z0:Hid _:=z0
 have B0:Hid _:=b0
 clear z0 b0
 go_enter Tryz.func182,Tryz.ntmps182
 go_wp2_with (first|(refine wpList_store_row rfl _ _ _ rfl w.heap.size acA rfl rfl _ _ Z0.out Tryz.sizeAcs rfl (by simp[acA,fv,Value.oneCell']) ?_))
 have h2:=setRow_heap _ w.heap.size _ acA _ _ Z0.out
 have g2:=grownRowS (w.alloc (.cells (nilA 15) 227)) w.heap.size acA
 refine bodyPost_ret (results_cell_row rfl _ _ w.heap.size _ _ _ _ rfl h2 Tryz.underAcs rfl Tryz.sizeAcs) rfl ?_
 exact⟨rfl,B0.out.grown g2 B0.out.size (fun k e=>by cases e;exact Nat.le_refl _)⟩
def rowOf (r:Nat):Array Value:=#[acA.getD (3*r) undef,acA.getD (3*r+1) undef,acA.getD (3*r+2) undef]
theorem idxA0 (w:World):(Instr.index 227 (.agg acA) (.int .i64 0)).run Tryz.prog w=.ok (.agg (rowOf 0)) w:=by kernel_rfl
theorem idxA1 (w:World):(Instr.index 227 (.agg acA) (.int .i64 1)).run Tryz.prog w=.ok (.agg (rowOf 1)) w:=by kernel_rfl
theorem idxA2 (w:World):(Instr.index 227 (.agg acA) (.int .i64 2)).run Tryz.prog w=.ok (.agg (rowOf 2)) w:=by kernel_rfl
theorem idxA3 (w:World):(Instr.index 227 (.agg acA) (.int .i64 3)).run Tryz.prog w=.ok (.agg (rowOf 3)) w:=by kernel_rfl
theorem idxA4 (w:World):(Instr.index 227 (.agg acA) (.int .i64 4)).run Tryz.prog w=.ok (.agg (rowOf 4)) w:=by kernel_rfl
end Go.Proofs.YtpdggofaobmnlaaGreatDoor
namespace Go.Proofs.YtpdggofaobmnlaaGreatDoor
open Go.ChangeShapes Go.WideShapes Go.ChangeAt Go.RowKit
def zeHA:Array Value:=#[.slice none 0 0,.int .i64 0,.int .i64 0,.int .i64 0]
def AW (w w1:World) (v:Value) (h:Hd) (i k d:Int):Prop:=
 StB w1 w.heap.size 28 (hdA v h)∧StB w1 (w.heap.size+1) 209 (wiA i k d)∧StB w1 (w.heap.size+2) 28 zeHA∧Below w.heap.size w w1
theorem AW.start (w:World) (v:Value) (h:Hd) (i k d:Int):AW w (((w.alloc (.cells (hdA v h) 28)).alloc (.cells (wiA i k d) 209)).alloc (.cells zeHA 28)) v h i k d:=by
 refine⟨((StB.new _ _ _).alloc _).alloc _,?_,?_,(((Below.refl _ _).alloc (Nat.le_refl _) _).alloc (by simp) _).alloc (by simp;omega) _⟩
 ·have:=StB.new (w.alloc (.cells (hdA v h) 28)) 209 (wiA i k d)
  rw[World.size_alloc]at this
  exact this.alloc _
 ·have:=StB.new ((w.alloc (.cells (hdA v h) 28)).alloc (.cells (wiA i k d) 209)) 28 zeHA
  rw[World.size_alloc,World.size_alloc]at this
  exact this
theorem AW.next {w w1 w2:World} {v:Value} {h:Hd} {i k d:Int} (a:AW w w1 v h i k d) (b:Below w1.heap.size w1 w2):AW w w2 v h i k d:=
 ⟨a.1.below b,a.2.1.below b,a.2.2.1.below b,a.2.2.2.trans (b.mono a.2.2.2.size)⟩
theorem AW.lt {w w1:World} {v:Value} {h:Hd} {i k d:Int} (a:AW w w1 v h i k d):w.heap.size+2<w1.heap.size:=a.2.2.1.lt
theorem below_new {w w2:World} {t:TypeId} {cs:Array Value} (g:(w.alloc (.cells cs t)).grownBy w2 (some w.heap.size)):Below w.heap.size w w2:=
 (Below.refl _ _).alloc (Nat.le_refl _) _ |>.grown g (by simp) (fun k e=>by cases e;exact Nat.le_refl _)
def ansA (ok fits refuses:Bool) (h g:Hd):Hd×Int:=if ok&&fits then(if refuses then(h,1)else(g,0))else(Hd.zero,2)
theorem iacted_any (row:Int) (F1 F2 F3:FuncId) (hx:∀wx,(Instr.index 227 (.agg acA) (.int .i64 row)).run Tryz.prog wx=.ok (.agg #[fv F1,fv F2,fv F3]) wx)
  (v:Value) (h:Hd) (i k d:Int) (w:World) (hr:Reads w v h.ks) (hl:h.ks.length≤1099511627776) (b1 b2:Bool) (f:Nat→Int) (kd ho tu:Int)
  (e1:∀args wx,(callFunc F1 args).run Tryz.prog wx=.ok (.enter F1 args) wx) (e2:∀args wx,(callFunc F2 args).run Tryz.prog wx=.ok (.enter F2 args) wx) (e3:∀args wx,(callFunc F3 args).run Tryz.prog wx=.ok (.enter F3 args) wx)
  (c1:∀wx,Calls Tryz.prog F1 #[.agg (wiA i k d)] wx fun e w'=>e=.returned (.bool b1)∧Below wx.heap.size wx w')
  (c2:h.ok=true→inI i 0 3=true→b1=true→∀wx,Calls Tryz.prog F2 #[.agg (heA (KF h.ks) h.kd h.ho h.tu),.agg (wiA i k d)] wx fun e w'=>e=.returned (.bool b2)∧Below wx.heap.size wx w')
  (c3:h.ok=true→inI i 0 3=true→b1=true→b2=false→∀wx,Calls Tryz.prog F3 #[.agg (heA (KF h.ks) h.kd h.ho h.tu),.agg (wiA i k d)] wx fun e w'=>e=.returned (.agg (heA f kd ho tu))∧Below wx.heap.size wx w'):
  Calls Tryz.prog 173 #[.int .i64 row,HV v h,.agg (wiA i k d)] w (Ans w (ansA h.ok (inI i 0 3&&b1) b2 h ⟨listK f,kd,ho,tu⟩)):=by
 obtain⟨ao,cap,rfl⟩:=reads_form hr
 obtain⟨w1,hw1⟩:∃w1,w1=((w.alloc (.cells (hdA (.slice ao h.ks.length cap) h) 28)).alloc (.cells (wiA i k d) 209)).alloc (.cells zeHA 28):=⟨_,rfl⟩
 have HS:Hid (AW w w1 (.slice ao h.ks.length cap) h i k d):=by rw[hw1];exact AW.start _ _ _ _ _ _
 have ch:=iheldof_any (.slice ao h.ks.length cap) h w1 (hr.below HS.out.2.2.2 (Nat.le_refl _)) hl
 have ct:=fun wx=>iactions_any wx
 have cp:=fun wx=>iperson_any i wx
 have C2:Hid _:=c2
 have C3:Hid _:=c3
 have HK:Hid (h.ok=true→h.ks.length=4):=Hd.ok_len
 obtain⟨A,hA⟩:∃A,A=ansA h.ok (inI i 0 3&&b1) b2 h ⟨listK f,kd,ho,tu⟩:=⟨_,rfl⟩
 rw[←hA]
 have HA:Hid (A=ansA h.ok (inI i 0 3&&b1) b2 h ⟨listK f,kd,ho,tu⟩):=hA
 clear c2 c3 hA hr hl
 have HV2:Hid (h.ok=true→heldV h=heA (KF h.ks) h.kd h.ho h.tu):=fun e=>by rw[heldV,e];rfl
 obtain⟨f0,x0,y0,z0,hf, -⟩:=heldV_form h
 rw[hf]at ch HV2
 clear hf
 unfold hdA wiA zeHA at hw1
 unfold HV
 conv in hdA (.slice ao h.ks.length cap) h=>unfold hdA
 conv in wiA i k d=>unfold wiA
 go_enter Tryz.func173,Tryz.ntmps173
 go_upto_region 1 with fail
 rw[←hw1]
 clear hw1
 unfold HV at ch
 go_upto_region 2 with(first|(refine wpList_getS Tryz.isH rfl _ rfl w.heap.size rfl (hdA (.slice ao h.ks.length cap) h) rfl HS.out.1 ?_)|(go_at_call 91;refine ch.mono ?_;rintro e w2 ⟨rfl,b2'⟩;have H2:Hid (AW w w2 (.slice ao h.ks.length cap) h i k d):=HS.out.next b2';clear b2';have Z2:Hid (StB (w2.alloc (.cells he0A 106)) w2.heap.size 106 he0A):=StB.new _ _ _)|(refine wpList_putS Tryz.isHeld rfl _ _ rfl w2.heap.size (heA f0 x0 y0 z0) he0A rfl rfl rfl rfl (heA_one _ _ _ _) Z2.out ?_;intro w3 h3 g3;have H3:Hid (AW w w3 (.slice ao h.ks.length cap) h i k d):=H2.out.next (below_new g3);have E3:Hid (StB w3 w2.heap.size 106 (heA f0 x0 y0 z0)):=h3;clear h3 g3))
 clear ch HS H2 Z2
 obtain⟨g8,hg8⟩:∃g8,g8=w2.heap.size:=⟨_,rfl⟩
 rw[←hg8]at E3⊢
 clear hg8
 unfold fv at hx
 go_upto_region 3 with(first|(go_at_call 182;refine(ct _).mono ?_;rintro e w4 ⟨rfl,b4⟩;have H4:Hid (AW w w4 (.slice ao h.ks.length cap) h i k d):=H3.out.next b4;have E4:Hid (StB w4 g8 106 (heA f0 x0 y0 z0)):=E3.out.below b4;clear b4;have Z4:Hid (StB (w4.alloc (.cells (nilA 3) 226)) w4.heap.size 226 (nilA 3)):=StB.new _ _ _)|(refine wpList_putS Tryz.isAction rfl _ _ rfl w4.heap.size #[.func (Fn.func F1) #[] #[],.func (Fn.func F2) #[] #[],.func (Fn.func F3) #[] #[]] (nilA 3) rfl rfl rfl rfl (by simp[Value.oneCell']) Z4.out ?_;intro w5 h5 g5;have H5:Hid (AW w w5 (.slice ao h.ks.length cap) h i k d):=H4.out.next (below_new g5);have E5:Hid (StB w5 g8 106 (heA f0 x0 y0 z0)):=E4.out.below (below_new g5);have T5:Hid (StB w5 w4.heap.size 226 #[.func (Fn.func F1) #[] #[],.func (Fn.func F2) #[] #[],.func (Fn.func F3) #[] #[]]):=h5;clear h5 g5))
 clear ct hx H3 H4 E3 E4 Z4
 obtain⟨ga,hga⟩:∃ga,ga=w4.heap.size:=⟨_,rfl⟩
 rw[←hga]at T5⊢
 clear hga
 obtain⟨ok,hok⟩:∃ok,ok=h.ok:=⟨_,rfl⟩
 rw[←hok]at C2 C3 HK HA HV2⊢
 obtain⟨pe,hpe⟩:∃pe,pe=inI i 0 3:=⟨_,rfl⟩
 rw[←hpe]at C2 C3 HA
 simp only[←hpe]at cp
 clear hok hpe
 unfold wiA at c1
 cases ok with
 |false=>
  clear c1 cp C2 C3 HK HV2
  go_upto_region 4 with fail
  go_wp2_with (first|(refine wpList_putS Tryz.isH rfl _ _ rfl (w.heap.size+2) (hdA (.slice none 0 0) Hd.zero) zeHA rfl rfl rfl rfl (hdA_one _ rfl) H5.out.2.2.1 ?_;intro w9 h9 g9))
  refine bodyPost_ret (results_S2 Tryz.isH rfl _ _ (w.heap.size+2) _ _ rfl rfl rfl h9) rfl ?_
  exact⟨.slice none 0 0,by rw[HA.out];rfl,by rw[HA.out];exact zeroH_own _ _,H5.out.2.2.2.grown g9 H5.out.2.2.2.size (fun x e=>by cases e;omega)⟩
 |true=>
  have HF:Hid (heA f0 x0 y0 z0=heA (KF h.ks) h.kd h.ho h.tu):=HV2.out rfl
  have hk4:Hid (h.ks.length=4):=HK.out rfl
  have D2:Hid _:=C2.out rfl
  have D3:Hid _:=C3.out rfl
  clear HV2 HK C2 C3
  have q0:w5.cell? ⟨w.heap.size+1,0,none⟩=some (.int .i64 i):=H5.out.2.1.cell 0 rfl
  cases pe with
  |false=>
   clear c1 D2 D3
   go_wp2_with fail
   refine(cp _).mono ?_
   rintro e w' ⟨rfl,hw⟩
   subst w'
   go_upto_region 4 with fail
   go_wp2_with (first|(refine wpList_putS Tryz.isH rfl _ _ rfl (w.heap.size+2) (hdA (.slice none 0 0) Hd.zero) zeHA rfl rfl rfl rfl (hdA_one _ rfl) H5.out.2.2.1 ?_;intro w9 h9 g9))
   refine bodyPost_ret (results_S2 Tryz.isH rfl _ _ (w.heap.size+2) _ _ rfl rfl rfl h9) rfl ?_
   exact⟨.slice none 0 0,by rw[HA.out];rfl,by rw[HA.out];exact zeroH_own _ _,H5.out.2.2.2.grown g9 H5.out.2.2.2.size (fun x e=>by cases e;omega)⟩
  |true=>
   have B2:Hid _:=D2.out rfl
   have B3:Hid _:=D3.out rfl
   clear D2 D3
   have q1:w5.cell? ⟨w.heap.size+1,1,none⟩=some (.int .i64 k):=H5.out.2.1.cell 1 rfl
   have q2:w5.cell? ⟨w.heap.size+1,2,none⟩=some (.int .i64 d):=H5.out.2.1.cell 2 rfl
   have a0:w5.cell? ⟨ga,0,none⟩=some (.func (Fn.func F1) #[] #[]):=T5.out.cell 0 rfl
   go_wp2_with fail
   refine(cp _).mono ?_
   rintro e w' ⟨rfl,hw⟩
   subst w'
   go_wp2_with fail
   refine(c1 _).mono ?_
   rintro e w6 ⟨rfl,b6⟩
   have H6:Hid (AW w w6 (.slice ao h.ks.length cap) h i k d):=H5.out.next b6
   have T6:Hid (StB w6 ga 226 #[.func (Fn.func F1) #[] #[],.func (Fn.func F2) #[] #[],.func (Fn.func F3) #[] #[]]):=T5.out.below b6
   have E6:Hid (StB w6 g8 106 (heA f0 x0 y0 z0)):=E5.out.below b6
   clear b6 c1 cp H5 T5 E5 q0 q1 q2 a0 e1
   cases b1 with
   |false=>
    clear B2 B3
    go_upto_region 4 with fail
    go_wp2_with (first|(refine wpList_putS Tryz.isH rfl _ _ rfl (w.heap.size+2) (hdA (.slice none 0 0) Hd.zero) zeHA rfl rfl rfl rfl (hdA_one _ rfl) H6.out.2.2.1 ?_;intro w9 h9 g9))
    refine bodyPost_ret (results_S2 Tryz.isH rfl _ _ (w.heap.size+2) _ _ rfl rfl rfl h9) rfl ?_
    exact⟨.slice none 0 0,by rw[HA.out];rfl,by rw[HA.out];exact zeroH_own _ _,H6.out.2.2.2.grown g9 H6.out.2.2.2.size (fun x e=>by cases e;omega)⟩
   |true=>
    have c2:=B2.out rfl
    have D3:Hid _:=B3.out rfl
    clear B2 B3
    rw[HF.out]at E6
    have a1:w6.cell? ⟨ga,1,none⟩=some (.func (Fn.func F2) #[] #[]):=T6.out.cell 1 rfl
    go_upto_region 5 with fail
    go_wp2_with (first|(refine wpList_getS Tryz.isHeld rfl _ rfl g8 rfl (heA (KF h.ks) h.kd h.ho h.tu) rfl E6.out ?_)|(refine wpList_getS Tryz.isWish rfl _ rfl (w.heap.size+1) rfl (wiA i k d) rfl H6.out.2.1 ?_))
    refine(c2 _).mono ?_
    rintro e w7 ⟨rfl,b7⟩
    have H7:Hid (AW w w7 (.slice ao h.ks.length cap) h i k d):=H6.out.next b7
    have T7:Hid (StB w7 ga 226 #[.func (Fn.func F1) #[] #[],.func (Fn.func F2) #[] #[],.func (Fn.func F3) #[] #[]]):=T6.out.below b7
    have E7:Hid (StB w7 g8 106 (heA (KF h.ks) h.kd h.ho h.tu)):=E6.out.below b7
    clear b7 c2 H6 T6 E6 a1 e2
    have ci:=fun wx=>iholding_any (KF h.ks) h.kd h.ho h.tu wx
    rw[listK_KF hk4.out]at ci
    unfold HV at ci
    cases b2 with
    |true=>
     clear D3
     go_upto_region 6 with fail
     go_wp2_with (first|(refine wpList_getS Tryz.isHeld rfl _ rfl g8 rfl (heA (KF h.ks) h.kd h.ho h.tu) rfl E7.out ?_)|(go_at_call 85;refine(ci _).mono ?_;rintro e w8 ⟨u,rfl,o8,b8⟩;have H8:Hid (AW w w8 (.slice ao h.ks.length cap) h i k d):=H7.out.next b8;have O8:Hid (Own w8 w7.heap.size u h.ks):=o8;have ho1:=reads_one o8.reads;clear b8 o8)|(refine wpList_putS Tryz.isH rfl _ _ rfl (w.heap.size+2) (hdA u h) zeHA rfl rfl rfl rfl (hdA_one _ ho1) H8.out.2.2.1 ?_;intro w9 h9 g9))
     refine bodyPost_ret (results_S2 Tryz.isH rfl _ _ (w.heap.size+2) _ _ rfl rfl rfl h9) rfl ?_
     have l7:=H7.out.lt
     exact⟨u,by rw[HA.out];rfl,by rw[HA.out];exact(O8.out.keptLt g9 l7).mono (by omega),H8.out.2.2.2.grown g9 H8.out.2.2.2.size (fun x e=>by cases e;omega)⟩
    |false=>
     have c3:=D3.out rfl
     have cj:=fun wx=>iholding_any f kd ho tu wx
     unfold HV at cj
     clear D3 ci
     have a2:w7.cell? ⟨ga,2,none⟩=some (.func (Fn.func F3) #[] #[]):=T7.out.cell 2 rfl
     go_upto_region 7 with fail
     go_wp2_with (first|(refine wpList_getS Tryz.isHeld rfl _ rfl g8 rfl (heA (KF h.ks) h.kd h.ho h.tu) rfl E7.out ?_)|(refine wpList_getS Tryz.isWish rfl _ rfl (w.heap.size+1) rfl (wiA i k d) rfl H7.out.2.1 ?_))
     refine(c3 _).mono ?_
     rintro e w8 ⟨rfl,b8⟩
     have H8:Hid (AW w w8 (.slice ao h.ks.length cap) h i k d):=H7.out.next b8
     clear b8 c3 H7 T7 E7 a2 e3
     go_wp2_with (first|(go_at_call 85;refine(cj _).mono ?_;rintro e w9 ⟨u,rfl,o9,b9⟩;have H9:Hid (AW w w9 (.slice ao h.ks.length cap) h i k d):=H8.out.next b9;have O9:Hid (Own w9 w8.heap.size u (listK f)):=o9;have ho1:=reads_one o9.reads;clear b9 o9)|(refine wpList_putS Tryz.isH rfl _ _ rfl (w.heap.size+2) (hdA u ⟨listK f,kd,ho,tu⟩) zeHA rfl rfl rfl rfl (hdA_one _ ho1) H9.out.2.2.1 ?_;intro wa ha ga'))
     refine bodyPost_ret (results_S2 Tryz.isH rfl _ _ (w.heap.size+2) _ _ rfl rfl rfl ha) rfl ?_
     have l8:=H8.out.lt
     exact⟨u,by rw[HA.out];rfl,by rw[HA.out];exact(O9.out.keptLt ga' l8).mono (by omega),H9.out.2.2.2.grown ga' H9.out.2.2.2.size (fun x e=>by cases e;omega)⟩
end Go.Proofs.YtpdggofaobmnlaaGreatDoor
