import Derived.Test.YtpdggofaobmnlaaGreatDoorM10
import Derived.Test.YtpdggofaobmnlaaGreatDoorM5
import Derived.Test.YtpdggofaobmnlaaGreatDoorM11
import Derived.Test.YtpdggofaobmnlaaGreatDoorM6
import Derived.Deep.RegionHeld3
import Derived.Deep.DeepCutAuto
import Derived.Test.YtpdggofaobmnlaaGreatDoorM14
import Derived.Test.YtpdggofaobmnlaaGreatDoorM17
/- What the model shows of a list of numbers: l1Ints. -/
set_option maxRecDepth 20000
set_option maxHeartbeats 2000000
namespace Go.Proofs.YtpdggofaobmnlaaGreatDoor
open Go.ChangeShapes Go.WideShapes Go.ChangeAt Go.RowKit
theorem sintsR_any (v:Value) (xs:List Int) (w:World) (hl:xs.length≤64) (hx:Fits64 xs) (hr:Reads w v xs):
  Calls Tryz.prog 158 #[v] w fun e w'=>e=.returned (S (intsB xs))∧Below w.heap.size w w':=by
 obtain⟨ao,cap,rfl⟩:=reads_form hr
 obtain⟨-,la,ma, -⟩:=reads_cells hr
 have HX:Hid (Fits64 xs):=hx
 have HC:Hid (Reads w (.slice ao xs.length cap) xs):=hr
 obtain⟨n,hn⟩:∃n,n=xs.length:=⟨_,rfl⟩
 have HN:Hid (n=xs.length):=hn
 rw[←hn]at HC hl la⊢
 unfold maxLen at ma
 clear hx hr hn
 unfold S
 go_enter Tryz.func158,Tryz.ntmps158
 go_wp2
 go_loopw [3,4] (fun s i wr=>∃j:Nat,(j:Int)≤n∧i=.int .i64 j∧s=.string ⟨(fourB xs j).toArray⟩∧Hid (Below w.heap.size w wr)) (fun _ i _=>n-(intOf i).toNat)
 case atStart=>exact⟨0,by omega,rfl,rfl,Below.refl _ _⟩
 case round=>
  obtain⟨j,hj,rfl,rfl,HB⟩:=hrel
  by_cases hlt:(j:Int)<(n:Int)
  ·have hj4:j<xs.length:=by have:=HN.out;omega
   have hmem:xs.getD j 0∈xs:=by simp[hj4]
   have hb:=HX.out _ hmem
   obtain⟨-, -, -,hcell'⟩:=reads_cells (HC.out.below HB.out (Nat.le_refl _))
   obtain⟨b,off,rfl,hcell⟩:=hcell' j (by omega)
   have c1:=fun wx=>sint_any (xs.getD j 0) wx hb.1 hb.2
   have hdl:=decI_len _ hb.1 hb.2
   have HS:Hid (fourB xs (j+1)=_):=fourB_step xs j hj4
   have hfl:(fourB xs j).length≤1408:=by
    unfold fourB
    split
    ·simp
    ·have:=intsB_len (xs.take j) (fun x hx=>HX.out x (List.mem_of_mem_take hx))
     simp at this
     omega
   obtain⟨x,hxe⟩:∃x,x=xs.getD j 0:=⟨_,rfl⟩
   rw[←hxe]at hcell hdl HS
   simp only[←hxe]at c1
   obtain⟨d,hde⟩:∃d,d=decI x:=⟨_,rfl⟩
   rw[←hde]at hdl HS
   simp only[←hde]at c1
   obtain⟨f,hfe⟩:∃f,f=fourB xs j:=⟨_,rfl⟩
   have HF0:Hid (j=0→f=[]):=fun h=>by rw[hfe,h];rfl
   rw[←hfe]at hfl HS⊢
   unfold S at c1
   have hsz:(⟨f.toArray⟩:ByteArray).size=f.length:=rfl
   have hdz:(⟨d.toArray⟩:ByteArray).size=d.length:=rfl
   clear hxe hde hfe hmem hb hcell' hj4
   by_cases h0:0<(j:Int)
   ·have HE:Hid (fourB xs (j+1)=f++[32]++d):=by rw[Hid,HS.out,if_neg (by omega)]
    have ha:=app' f [32]
    have ha2:=app' (f++[32]) d
    have hz2:(⟨(f++[32]).toArray⟩:ByteArray).size=f.length+1:=by rw[bsize'];simp
    clear HS
    go_wp2_with fail
    refine(c1 _).mono ?_
    rintro e w1 ⟨rfl,b1⟩
    replace HB:Hid (Below w.heap.size w w1):=HB.out.trans (b1.mono HB.out.size)
    clear b1 c1
    go_wp2
    go_roundw
    case rel=>exact⟨j+1,by omega,by go_num,by simp[HE.out],HB⟩
    case measure=>simp[intOf];omega
   ·obtain rfl:j=0:=by omega
    have HE:Hid (fourB xs (0+1)=f++d):=by rw[Hid,HS.out,if_pos rfl,HF0.out rfl]
    have ha:=app' f d
    rw[Nat.add_zero]at hcell
    clear HS
    go_wp2_with fail
    refine(c1 _).mono ?_
    rintro e w1 ⟨rfl,b1⟩
    replace HB:Hid (Below w.heap.size w w1):=HB.out.trans (b1.mono HB.out.size)
    clear b1 c1
    go_wp2
    go_roundw
    case rel=>exact⟨0+1,by omega,by go_num,by simp[HE.out],HB⟩
    case measure=>simp[intOf];omega
  ·have HE:Hid (fourB xs j=intsB xs):=by
    have:j=xs.length:=by have:=HN.out;omega
    subst this
    unfold Hid fourB
    split
    ·rename_i e
     rw[List.eq_nil_of_length_eq_zero e];rfl
    ·rw[List.take_length]
   rw[HE.out]
   go_wp2
   go_ret
   exact⟨rfl,HB.out⟩
end Go.Proofs.YtpdggofaobmnlaaGreatDoor
namespace Go.Proofs.YtpdggofaobmnlaaGreatDoor
open Go.ChangeShapes Go.WideShapes Go.ChangeAt Go.RowKit
theorem litOne (w:World) (x:Int):∀j u,([Value.int .i64 x])[j]?=some u→(w.alloc (.cells #[.int .i64 x] 2)).cell? ((⟨w.heap.size,0,none⟩:Addr).add j)=some u:=by
 intro j u hj
 match j,hj with
 |0,hj=>simp at hj;subst hj;simp[Addr.add]
theorem appendOne {w wr w':World} {o v':Value} {out:List Int} {x:Int} {ob:Obj} (hO:Own wr w.heap.size o out) (hB:Below w.heap.size w wr)
  (hown:w'.ownsRow w.heap.size 2 1 v' (out.length+1) (out.map (Value.int .i64)++[.int .i64 x])) (hg:(wr.alloc ob).grownBy w' o.ownBlock):Own w' w.heap.size v' (out++[x])∧Below w.heap.size w w':=by
 refine⟨?_,(hB.alloc hB.size ob).grown hg (by simp;have:=hB.size;omega) (fun k e=>(hO.lt k e).1)⟩
 unfold Own
 rw[List.map_append]
 simpa using hown
theorem own_one (w:World) (x:Int):Own (w.alloc (.cells #[.int .i64 x] 2)) w.heap.size (.slice (some ⟨w.heap.size,0,none⟩) 1 1) [x]:=by
 have:=World.ownsRow_lit (base:=w.heap.size) (e:=2) (size:=1) w #[.int .i64 x] 1 (Nat.le_refl _) (by unfold maxLen;omega) rfl
 simpa[Own]using this
theorem own_three (w:World) (x y z:Int):Own (w.alloc (.cells #[.int .i64 x,.int .i64 y,.int .i64 z] 2)) w.heap.size (.slice (some ⟨w.heap.size,0,none⟩) 3 3) [x,y,z]:=by
 have:=World.ownsRow_lit (base:=w.heap.size) (e:=2) (size:=1) w #[.int .i64 x,.int .i64 y,.int .i64 z] 3 (Nat.le_refl _) (by unfold maxLen;omega) rfl
 simpa[Own]using this
theorem Hd.ok_fits {h:Hd} (e:h.ok=true):Fits64 h.showN:=by
 intro x hx
 have:=Hd.ok_nums e x hx
 omega
theorem Hd.ok_fitsK {h:Hd} (e:h.ok=true):Fits64 h.keysN:=by
 have hf:=Hd.ok_fits e
 intro x hx
 unfold Hd.keysN at hx
 rcases List.mem_cons.1 hx with rfl|hx
 ·exact hf h.tu (by simp[Hd.showN])
 ·exact hf x (by have:=(List.mem_filter.1 hx).1;simp[Hd.showN,this])
theorem Hd.ok_fitsH {h:Hd} (e:h.ok=true):Fits64 h.holdN:=by
 have hf:=Hd.ok_fits e
 intro x hx
 unfold Hd.holdN at hx
 simp only[List.mem_cons,List.mem_nil_iff,or_false]at hx
 rcases hx with rfl|rfl|rfl
 ·exact hf h.tu (by simp[Hd.showN])
 ·exact hf h.kd (by simp[Hd.showN])
 ·split
  ·rw[List.getD_eq_getElem?_getD]
   cases hg:h.ks[h.ho.toNat]? with
   |none=>simp
   |some y=>exact hf y (by have:=List.mem_of_getElem? hg;simp[Hd.showN,this])
  ·omega
theorem keysN_len {h:Hd} (hl:h.ks.length=4) (j:Nat):(h.tu::(h.ks.take j).filter (fun k=>decide (k≠0))).length≤5:=by
 have:=List.length_filter_le (fun k=>decide (k≠0)) (h.ks.take j)
 simp at this⊢
 omega
theorem s10keys_any (v:Value) (h:Hd) (w:World) (hr:Reads w v h.ks) (ok:h.ok=true):
  Calls Tryz.prog 131 #[HV v h] w fun e w'=>e=.returned (S (intsB h.keysN))∧Below w.heap.size w w':=by
 obtain⟨i0,hi,hz0,hz1,hz2⟩:=info_parts Tryz.infoI
 obtain⟨hl, -, -, -⟩:=Hd.ok_all ok
 have FK:Hid (Fits64 h.keysN):=Hd.ok_fitsK ok
 obtain⟨w1,hw1⟩:∃w1,w1=w.alloc (.cells (hdA v h) 28):=⟨_,rfl⟩
 have B1:Hid (Below w.heap.size w w1):=by rw[hw1];exact(Below.refl _ _).alloc (Nat.le_refl _) _
 have P1:Hid (StB w1 w.heap.size 28 (hdA v h)):=by rw[hw1];exact StB.new _ _ _
 have R1:Hid (Reads w1 v h.ks):=hr.below B1.out (Nat.le_refl _)
 obtain⟨ao0,cap0,rfl⟩:=reads_form hr
 rw[hl]at hw1 P1 R1⊢
 have HL:Hid (h.ks.length=4):=hl
 have k3:w1.cell? ⟨w.heap.size,3,none⟩=some (.int .i64 h.tu):=P1.out.cell 3 rfl
 have ks1:w.heap.size<w1.heap.size:=P1.out.lt
 clear hr hl ok
 unfold HV S
 unfold hdA at hw1⊢
 go_enter Tryz.func131,Tryz.ntmps131
 go_upto_region 1 with fail
 rw[←hw1]
 clear hw1
 go_wp2_with fail
 clear k3
 go_loopw [3,4] (fun o i wr=>∃(xs:List Int) (ao:Option Addr) (oc j:Nat),o=.slice ao xs.length oc∧i=.int .i64 (j:Int)∧(j:Int)≤4∧(xs.length:Int)≤5∧Hid (Own wr w1.heap.size (.slice ao xs.length oc) xs∧Below w1.heap.size w1 wr∧xs=h.tu::(h.ks.take j).filter (fun k=>decide (k≠0)))) (fun _ i _=>4-(intOf i).toNat)
 case atStart=>exact⟨[h.tu],_,_,0,rfl,rfl,by omega,by simp,own_one w1 h.tu,(Below.refl _ _).alloc (Nat.le_refl _) _,by simp⟩
 case round=>
  obtain⟨xs,ao,oc,j,rfl,rfl,hj,hxl,HR⟩:=hrel
  have P2:Hid (StB wr w.heap.size 28 (hdA (.slice ao0 4 cap0) h)):=P1.out.below HR.out.2.1
  have k0:wr.cell? ⟨w.heap.size,0,none⟩=some (.slice ao0 4 cap0):=P2.out.cell 0 rfl
  by_cases hlt:(j:Int)<4
  ·have hj4:j<h.ks.length:=by have:=HL.out;omega
   obtain⟨-, -, -,hcell'⟩:=reads_cells (R1.out.below HR.out.2.1 (Nat.le_refl _))
   obtain⟨b,off,rfl,hcell⟩:=hcell' j (by omega)
   have HT:Hid (h.ks.take (j+1)=h.ks.take j++[h.ks.getD j 0]):=by
    rw[Hid,List.take_succ_eq_append_getElem hj4]
    simp[hj4]
   have HLn:=keysN_len HL.out (j+1)
   obtain⟨x,hx⟩:∃x,x=h.ks.getD j 0:=⟨_,rfl⟩
   rw[←hx]at hcell HT
   clear hx hcell'
   by_cases x0:x=0
   ·have xb:(x !=0)=false:=by simpa using x0
    have HR2:Hid (xs=h.tu::(h.ks.take (j+1)).filter (fun k=>decide (k≠0))):=by
     rw[Hid,HT.out,List.filter_append]
     simp only[x0,List.filter_cons,List.filter_nil,ne_eq,not_true_eq_false,decide_false,Bool.false_eq_true,if_false,List.append_nil]
     exact HR.out.2.2
    clear x0
    go_wp2
    go_roundw
    case rel=>exact⟨xs,ao,oc,j+1,rfl,by go_num,by omega,hxl,HR.out.1,HR.out.2.1,HR2.out⟩
    case measure=>simp[intOf];omega
   ·have xb:(x !=0)=true:=by simpa using x0
    have HR2:Hid (xs++[x]=h.tu::(h.ks.take (j+1)).filter (fun k=>decide (k≠0))):=by
     rw[Hid,HT.out,List.filter_append]
     simp only[x0,List.filter_cons,List.filter_nil,ne_eq,not_false_eq_true,decide_true,if_true]
     rw[←List.cons_append]
     exact congrArg (·++[x]) HR.out.2.2
    have hxl2:(xs++[x]).length≤5:=by rw[HR2.out];exact HLn
    rw[List.length_append,List.length_singleton]at hxl2
    have hown:=HR.out.1
    have hbs:=HR.out.2.1.size
    unfold Own at hown
    clear x0 HLn
    go_wp2_with (at_builtin;refine wpList_append_own _ rfl _ _ 24 rfl w1.heap.size 2 i0 (.int .i64 0) 1 8 Tryz.underlying24 hi hz0 hz1 hz2 rfl (by decide) _ _ _ rfl (hown.alloc _) _ 1 1 [.int .i64 x] rfl rfl (litOne wr x) (by simp[Value.oneCell']) (by unfold maxLen;omega) (by omega) (by simp;omega) ?_)
    intro v' w2 hown' hgrow _
    have HO:Hid (Own w2 w1.heap.size v' (xs++[x])∧Below w1.heap.size w1 w2):=appendOne HR.out.1 HR.out.2.1 hown' hgrow
    clear hown hown' hgrow HR
    obtain⟨ao2,cap2,hev, -⟩:=HO.out.1.reads
    subst hev
    go_wp2
    go_roundw
    case rel=>exact⟨xs++[x],ao2,cap2,j+1,rfl,by go_num,by omega,by simp;omega,HO.out.1,HO.out.2,HR2.out⟩
    case measure=>simp[intOf];omega
  ·have HK:Hid (xs=h.keysN):=by
    have:=HR.out.2.2
    rw[List.take_of_length_le (by have:=HL.out;omega)]at this
    exact this
   have c1:=sintsR_any (.slice ao xs.length oc) xs wr (by omega) (by rw[HK.out];exact FK.out) HR.out.1.reads
   rw[HK.out]at c1
   rw[←HK.out]at c1
   go_wp2_with fail
   refine c1.mono ?_
   rintro e w2 ⟨rfl,b2⟩
   clear c1
   go_wp2
   go_ret
   refine⟨?_,(B1.out.trans (HR.out.2.1.mono B1.out.size)).trans (b2.mono ?_)⟩
   ·rw[HK.out];rfl
   ·have:=HR.out.2.1.size;omega
end Go.Proofs.YtpdggofaobmnlaaGreatDoor
namespace Go.Proofs.YtpdggofaobmnlaaGreatDoor
open Go.ChangeShapes Go.WideShapes Go.ChangeAt Go.RowKit
theorem s10holder_any (v:Value) (h:Hd) (w:World) (hr:Reads w v h.ks) (ok:h.ok=true):
  Calls Tryz.prog 132 #[HV v h] w fun e w'=>e=.returned (S (intsB h.holdN))∧Below w.heap.size w w':=by
 obtain⟨hl, -, -,hm⟩:=Hd.ok_all ok
 have FK:Hid (Fits64 h.holdN):=Hd.ok_fitsH ok
 have hho:h.ho<4:=by
  unfold Hd.mid at hm
  split at hm
  ·have:h.ho= -1:=by simpa using hm
   omega
  ·split at hm
   ·simp only[Bool.and_eq_true,decide_eq_true_eq]at hm;omega
   ·simp only[Bool.and_eq_true]at hm
    have:=(inI_iff _ _ _).1 hm.1.2
    omega
 obtain⟨w1,hw1⟩:∃w1,w1=w.alloc (.cells (hdA v h) 28):=⟨_,rfl⟩
 have B1:Hid (Below w.heap.size w w1):=by rw[hw1];exact(Below.refl _ _).alloc (Nat.le_refl _) _
 have P1:Hid (StB w1 w.heap.size 28 (hdA v h)):=by rw[hw1];exact StB.new _ _ _
 have R1:Hid (Reads w1 v h.ks):=hr.below B1.out (Nat.le_refl _)
 obtain⟨ao0,cap0,rfl⟩:=reads_form hr
 rw[hl]at hw1 P1 R1⊢
 have k0:w1.cell? ⟨w.heap.size,0,none⟩=some (.slice ao0 4 cap0):=P1.out.cell 0 rfl
 have k1:w1.cell? ⟨w.heap.size,1,none⟩=some (.int .i64 h.kd):=P1.out.cell 1 rfl
 have k2:w1.cell? ⟨w.heap.size,2,none⟩=some (.int .i64 h.ho):=P1.out.cell 2 rfl
 have k3:w1.cell? ⟨w.heap.size,3,none⟩=some (.int .i64 h.tu):=P1.out.cell 3 rfl
 have c1:∀x,Fits64 [h.tu,h.kd,x]→_:=fun x hf=>sintsR_any (.slice (some ⟨w1.heap.size,0,none⟩) 3 3) [h.tu,h.kd,x] (w1.alloc (.cells #[.int .i64 h.tu,.int .i64 h.kd,.int .i64 x] 2)) (by simp) hf (own_three w1 h.tu h.kd x).reads
 have HH:Hid (h.holdN=[h.tu,h.kd,if 0≤h.ho then h.ks.getD h.ho.toNat 0 else 0]):=rfl
 rw[HH.out]at FK
 have C1:Hid _:=c1
 clear hr ok hm c1
 unfold HV S
 unfold hdA at hw1⊢
 by_cases h0:0≤h.ho
 ·rw[if_pos h0]at FK HH
  obtain⟨-, -, -,hcell'⟩:=reads_cells R1.out
  obtain⟨b,off,rfl,hcell⟩:=hcell' h.ho.toNat (by omega)
  obtain⟨x,hx⟩:∃x,x=h.ks.getD h.ho.toNat 0:=⟨_,rfl⟩
  rw[←hx]at hcell FK HH
  have c2:=C1.out x FK.out
  unfold S at c2
  rw[HH.out]
  clear hx hcell' C1 FK HH hl
  go_enter Tryz.func132,Tryz.ntmps132
  go_upto_region 1 with fail
  rw[←hw1]
  clear hw1
  go_wp2_with fail
  refine c2.mono ?_
  rintro e w2 ⟨rfl,b2⟩
  clear c2
  go_wp2
  go_ret
  refine⟨rfl,(B1.out.alloc B1.out.size _).trans (b2.mono ?_)⟩
  have:=B1.out.size
  simp
  omega
 ·rw[if_neg h0]at FK HH
  have h0b:(decide (0≤h.ho))=false:=by simpa using h0
  have c2:=C1.out 0 FK.out
  unfold S at c2
  rw[HH.out]
  clear C1 FK HH hl
  go_enter Tryz.func132,Tryz.ntmps132
  go_upto_region 1 with fail
  rw[←hw1]
  clear hw1
  go_wp2_with fail
  refine c2.mono ?_
  rintro e w2 ⟨rfl,b2⟩
  clear c2
  go_wp2
  go_ret
  refine⟨rfl,(B1.out.alloc B1.out.size _).trans (b2.mono ?_)⟩
  have:=B1.out.size
  simp
  omega
theorem cell_later {w:World} {o:Obj} {a:Addr} {v:Value} (h:w.cell? a=some v):(w.alloc o).cell? a=some v:=by
 rw[←h];exact((Below.refl w.heap.size w).alloc (Nat.le_refl _) o).cell (World.block_lt_of_cell? w _ h)
theorem news3 (w:World) (x y z:Int):∀j,j<[x,y,z].length→(w.alloc (.cells #[.int .i64 x,.int .i64 y,.int .i64 z] 2)).cell? ⟨w.heap.size,j,none⟩=some (.int .i64 ([x,y,z].getD j 0)):=by
 intro j hj
 have H:StB (w.alloc (.cells #[.int .i64 x,.int .i64 y,.int .i64 z] 2)) w.heap.size 2 #[.int .i64 x,.int .i64 y,.int .i64 z]:=StB.new _ _ _
 match j,hj with
 |0,_=>exact H.cell 0 rfl
 |1,_=>exact H.cell 1 rfl
 |2,_=>exact H.cell 2 rfl
theorem step_appendI {ops:Array Oper} {o:Oper} {a:Act} {w:World} {K:Act→World→Prop} {Q:Exit→Act→World→Prop} {E:Prop} (hgd:o.guard=none) (s x:Operand)
  (ho:o.op=.call {callee:=.builtin .append,args:=#[s,x],argTypes:=#[24,24]}) (base:Nat) (v:Value) (l:List Int) (hs:a.eval s=v) (hown:Own w base v l)
  (g m c:Nat) (l2:List Int) (hx:a.eval x=.slice (some ⟨g,0,none⟩) m c) (hm:m=l2.length) (hnews:∀j,j<l2.length→w.cell? ⟨g,j,none⟩=some (.int .i64 (l2.getD j 0))) (hsm:l.length+l2.length≤10000000) (hbase:base≤w.heap.size)
  (h:∀v' w',Own w' base v' (l++l2)→w.grownBy w' v.ownBlock→K (a.put o.dst v') w'):if Region.wanted o (yielded ops a.tmps)=true then Oper.wp Tryz.prog o a w K Q else E:=by
 have hw:Region.wanted o (yielded ops a.tmps)=true:=by simp[Region.wanted,hgd]
 rw[if_pos hw]
 obtain⟨i0,hi,hz0,hz1,hz2⟩:=info_parts Tryz.infoI
 subst hm
 have hnews':∀j u,(l2.map (Value.int .i64))[j]?=some u→w.cell? ((⟨g,0,none⟩:Addr).add j)=some u:=by
  intro j u hj
  have hlt:j<l2.length:=by
   rcases Nat.lt_or_ge j l2.length with h|h
   ·exact h
   ·rw[List.getElem?_eq_none (by simpa using h)]at hj;cases hj
  rw[show(⟨g,0,none⟩:Addr).add j=⟨g,j,none⟩ by unfold Addr.add;split<;>simp_all]
  rw[hnews j hlt]
  simpa[hlt]using hj
 have hone:∀u∈l2.map (Value.int .i64),u.oneCell'=true:=by
  intro u hu
  obtain⟨b,_,rfl⟩:=List.mem_map.1 hu
  rfl
 obtain⟨v',w',hrun,r1,r2, -⟩:=run_append_own (P:=Tryz.prog) w base 24 o.type 2 i0 (.int .i64 0) 1 8 Tryz.underlying24 hi hz0 hz1 hz2 rfl (by decide) _ l.length (l.map (Value.int .i64)) hown ⟨g,0,none⟩ l2.length c (l2.map (Value.int .i64)) (by simp) hnews' hone (by unfold maxLen;omega) (by omega) hbase
 rw[←List.map_append]at r1
 unfold Oper.wp
 simp[execOp,ho,resolve,invoke,builtin,hs,hx,hrun,Result.andThen]
 refine h v' w' ?_ r2
 unfold Own
 rw[List.length_append]
 exact r1
end Go.Proofs.YtpdggofaobmnlaaGreatDoor
namespace Go.Proofs.YtpdggofaobmnlaaGreatDoor
open Go.ChangeShapes Go.WideShapes Go.ChangeAt Go.RowKit
def Ans (w:World) (r:Hd×Int) (e:Ending) (w':World):Prop:=∃u,e=.returned (.tuple #[HV u r.1,.int .i64 r.2])∧Own w' w.heap.size u r.1.ks∧Below w.heap.size w w'
theorem zeroH_own (w:World) (base:Nat):Own w base (.slice none 0 0) Hd.zero.ks:=Own.nil w base
end Go.Proofs.YtpdggofaobmnlaaGreatDoor
namespace Go.Proofs.YtpdggofaobmnlaaGreatDoor
open Go.ChangeShapes Go.WideShapes Go.ChangeAt Go.RowKit
theorem mid_holder {h:Hd} (e:h.mid=true):h.kd≠0→allI h.kd=false→0≤h.ho∧h.ho≤3:=by
 intro h0 ha
 unfold Hd.mid at e
 rw[if_neg h0,ha]at e
 simp only[Bool.false_eq_true,if_false,Bool.and_eq_true]at e
 exact(inI_iff _ _ _).1 e.1.2
end Go.Proofs.YtpdggofaobmnlaaGreatDoor
