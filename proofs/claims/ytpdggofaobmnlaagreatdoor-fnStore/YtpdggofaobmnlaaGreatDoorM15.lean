import Derived.Test.YtpdggofaobmnlaaGreatDoorM14
import Derived.Test.YtpdggofaobmnlaaGreatDoorM4
import Derived.Test.YtpdggofaobmnlaaGreatDoorM5
import Derived.Test.YtpdggofaobmnlaaGreatDoorM11
import Derived.Test.YtpdggofaobmnlaaGreatDoorM1
import Derived.Test.YtpdggofaobmnlaaGreatDoorRows
import Derived.Test.YtpdggofaobmnlaaGreatDoorM2
import Derived.WalkKit
import Derived.ProofKit
import Derived.OpenShut
/- What the model draws for a store and a command: DrawDidStore. -/
set_option maxRecDepth 20000
set_option maxHeartbeats 40000000
namespace Go.Proofs.YtpdggofaobmnlaaGreatDoor
open Go.ChangeShapes Go.WideShapes Go.ChangeAt Go.RowKit
theorem drawDidStore_any (B:Nat) (v:Value) (w:World) (h0:CodeOk w B v) (hB:B≤w.heap.size):
  Calls Tryz.prog 6 #[v] w fun e w'=>∃a b k xs ys h i c,e=.returned (.tuple #[SRV a b k h,.int .i64 i,CV c])∧xs.length≤65∧ys.length≤65∧h.ks.length≤4∧Reads w' a xs∧Reads w' b ys∧Reads w' k h.ks∧Below w.heap.size w w':=by
 obtain⟨w1,hw1⟩:∃w1,w1=(w.alloc (.cells #[.slice none 0 0,.slice none 0 0,.slice none 0 0,.int .i64 0,.int .i64 0,.int .i64 0] 30)).alloc (.cells #[.int .i64 0,.int .i64 0,.int .i64 0,.int .i64 0,.int .i64 0] 32):=⟨_,rfl⟩
 have hs1:=((Sta.start w).box 30 #[.slice none 0 0,.slice none 0 0,.slice none 0 0,.int .i64 0,.int .i64 0,.int .i64 0]).box 32 #[.int .i64 0,.int .i64 0,.int .i64 0,.int .i64 0,.int .i64 0]
 rw[World.size_alloc,←hw1]at hs1
 have HS:Hid (Sta w w1 (Blk (w.heap.size+1) 32 #[.int .i64 0,.int .i64 0,.int .i64 0,.int .i64 0,.int .i64 0]::Blk w.heap.size 30 #[.slice none 0 0,.slice none 0 0,.slice none 0 0,.int .i64 0,.int .i64 0,.int .i64 0]::[])):=hs1
 clear hs1
 have HC:Hid (CodeOk w B v):=h0
 clear h0
 go_enter Tryz.func6,Tryz.ntmps6
 go_wp2_with fail
 rw[←hw1]
 clear hw1
 refine(new_code B v _ (HC.out.below (HS.out.below.mono hB)) (Nat.le_trans hB HS.out.below.size)).mono ?_
 rintro e w2 ⟨c,rfl,hc,C2,G2⟩
 replace HS:Hid (Sta w w2 (CurI B c::Blk (w.heap.size+1) 32 #[.int .i64 0,.int .i64 0,.int .i64 0,.int .i64 0,.int .i64 0]::Blk w.heap.size 30 #[.slice none 0 0,.slice none 0 0,.slice none 0 0,.int .i64 0,.int .i64 0,.int .i64 0]::[])):=HS.out.newCur hB hc C2 G2
 clear C2 G2 hc HC
 go_wp2_with fail
 refine(l12Draw_any HS.out).mono ?_
 rintro e w3 ⟨a,b,q,off,n,cap,xs,ys,h,rfl,hx,hy,hk,S3⟩
 replace HS:Hid (Sta w w3 _):=S3
 clear S3
 obtain⟨ao,ac,rfl⟩:=(HS.out.readsU 1 rfl).form
 obtain⟨bo,bc,rfl⟩:=(HS.out.readsV 1 rfl).form
 unfold SRV srA
 obtain⟨w4,hw4⟩:∃w4,w4=w3.alloc (.cells #[.slice ao xs.length ac,.slice bo ys.length bc,.slice (some ⟨q,off,none⟩) n cap,.int .i64 h.kd,.int .i64 h.ho,.int .i64 h.tu] 30):=⟨_,rfl⟩
 replace HS:=HS.out.box 30 #[.slice ao xs.length ac,.slice bo ys.length bc,.slice (some ⟨q,off,none⟩) n cap,.int .i64 h.kd,.int .i64 h.ho,.int .i64 h.tu]
 rw[←hw4]at HS
 replace HS:Hid (Sta w w4 _):=HS
 go_upto_region 3 with fail
 rw[←hw4]
 clear hw4
 obtain⟨gd,hgd⟩:∃gd,gd=w3.heap.size:=⟨_,rfl⟩
 have hn0:gd≠w.heap.size:=by
  have h3:=HS.out.apart.1 (Blk w.heap.size 30 #[.slice none 0 0,.slice none 0 0,.slice none 0 0,.int .i64 0,.int .i64 0,.int .i64 0]) (by simp) w3.heap.size (by simp[Blk])
  rw[hgd]
  intro e
  exact h3 (by simp[Blk,e])
 have hn1:gd≠w.heap.size+1:=by
  have h3:=HS.out.apart.1 (Blk (w.heap.size+1) 32 #[.int .i64 0,.int .i64 0,.int .i64 0,.int .i64 0,.int .i64 0]) (by simp) w3.heap.size (by simp[Blk])
  rw[hgd]
  intro e
  exact h3 (by simp[Blk,e])
 rw[←hgd]at HS⊢
 clear hgd
 go_wp2_with fail
 refine(l8who_any B c w4 (HS.out.get 3 rfl)).mono ?_
 rintro e w5 ⟨i,rfl,C5,G5⟩
 replace HS:Hid (Sta w w5 _):=HS.out.cur 3 rfl C5 G5
 clear C5 G5
 go_upto_region 4 with fail
 have Z0:Hid (StB w5 gd 30 #[.slice ao xs.length ac,.slice bo ys.length bc,.slice (some ⟨q,off,none⟩) n cap,.int .i64 h.kd,.int .i64 h.ho,.int .i64 h.tu]):=HS.out.get 0 rfl
 have qq0:∀w',Sg gd w5 w'→w'.cell? ⟨gd,0,none⟩=some (.slice ao xs.length ac):=fun w' e=>e _ _ (Z0.out.cell 0 rfl)
 have qq1:∀w',Sg gd w5 w'→w'.cell? ⟨gd,1,none⟩=some (.slice bo ys.length bc):=fun w' e=>e _ _ (Z0.out.cell 1 rfl)
 have qq2:∀w',Sg gd w5 w'→w'.cell? ⟨gd,2,none⟩=some (.slice (some ⟨q,off,none⟩) n cap):=fun w' e=>e _ _ (Z0.out.cell 2 rfl)
 have qq3:∀w',Sg gd w5 w'→w'.cell? ⟨gd,3,none⟩=some (.int .i64 h.kd):=fun w' e=>e _ _ (Z0.out.cell 3 rfl)
 have qq4:∀w',Sg gd w5 w'→w'.cell? ⟨gd,4,none⟩=some (.int .i64 h.ho):=fun w' e=>e _ _ (Z0.out.cell 4 rfl)
 have qq5:∀w',Sg gd w5 w'→w'.cell? ⟨gd,5,none⟩=some (.int .i64 h.tu):=fun w' e=>e _ _ (Z0.out.cell 5 rfl)
 have HD:Hid (Sta w w5.drew _):=HS.out.drew1
 have hz:w.heap.size+1≠w.heap.size:=by omega
 go_region_held3 (fun w'=>Sg gd w5 w') ((repeat'(first|with_reducible assumption|with_reducible exact Sg.refl _ _|with_reducible refine Sg.dr ?_|with_reducible refine Sg.set ?_ hn0|with_reducible refine Sg.set ?_ hn1|with_reducible refine Sg.put ?_ (by with_reducible assumption) hn1|with_reducible refine Sg.put ?_ (by with_reducible assumption) hn0)))
  (first
   |(go_at_call 30;refine(l6any_any B c _ (HD.out.get 3 rfl)).mono ?_;rintro e w6 ⟨r,rfl,C6,G6⟩;have H6:Hid (Sta w w6 _):=HD.out.cur 3 rfl C6 G6;have Y6:Sg gd w5 w6:=Sg.of Z0.out (H6.out.get 0 rfl);have Z6:Hid (StB w6 (w.heap.size+1) 32 #[.int .i64 0,.int .i64 0,.int .i64 0,.int .i64 0,.int .i64 0]):=H6.out.get 4 rfl;clear C6 G6;unfold CV cmA;have s0:w6.cell? ⟨w.heap.size+1,0,none⟩=some (.int .i64 0):=Blk.cell (H6.out.get 4 rfl) 0 rfl;have e0:w6.frozen? ⟨w.heap.size+1,0,none⟩=false:=StB.frozen (H6.out.get 4 rfl) 0;have s1:w6.cell? ⟨w.heap.size+1,1,none⟩=some (.int .i64 0):=Blk.cell (H6.out.get 4 rfl) 1 rfl;have e1:w6.frozen? ⟨w.heap.size+1,1,none⟩=false:=StB.frozen (H6.out.get 4 rfl) 1;have s2:w6.cell? ⟨w.heap.size+1,2,none⟩=some (.int .i64 0):=Blk.cell (H6.out.get 4 rfl) 2 rfl;have e2:w6.frozen? ⟨w.heap.size+1,2,none⟩=false:=StB.frozen (H6.out.get 4 rfl) 2;have s3:w6.cell? ⟨w.heap.size+1,3,none⟩=some (.int .i64 0):=Blk.cell (H6.out.get 4 rfl) 3 rfl;have e3:w6.frozen? ⟨w.heap.size+1,3,none⟩=false:=StB.frozen (H6.out.get 4 rfl) 3;have s4:w6.cell? ⟨w.heap.size+1,4,none⟩=some (.int .i64 0):=Blk.cell (H6.out.get 4 rfl) 4 rfl;have e4:w6.frozen? ⟨w.heap.size+1,4,none⟩=false:=StB.frozen (H6.out.get 4 rfl) 4;have r0:w6.cell? ⟨w.heap.size,0,none⟩=some (.slice none 0 0):=Blk.cell (H6.out.get 5 rfl) 0 rfl;have f0:w6.frozen? ⟨w.heap.size,0,none⟩=false:=StB.frozen (H6.out.get 5 rfl) 0;have r1:w6.cell? ⟨w.heap.size,1,none⟩=some (.slice none 0 0):=Blk.cell (H6.out.get 5 rfl) 1 rfl;have f1:w6.frozen? ⟨w.heap.size,1,none⟩=false:=StB.frozen (H6.out.get 5 rfl) 1;have r2:w6.cell? ⟨w.heap.size,2,none⟩=some (.slice none 0 0):=Blk.cell (H6.out.get 5 rfl) 2 rfl;have f2:w6.frozen? ⟨w.heap.size,2,none⟩=false:=StB.frozen (H6.out.get 5 rfl) 2;have r3:w6.cell? ⟨w.heap.size,3,none⟩=some (.int .i64 0):=Blk.cell (H6.out.get 5 rfl) 3 rfl;have f3:w6.frozen? ⟨w.heap.size,3,none⟩=false:=StB.frozen (H6.out.get 5 rfl) 3;have r4:w6.cell? ⟨w.heap.size,4,none⟩=some (.int .i64 0):=Blk.cell (H6.out.get 5 rfl) 4 rfl;have f4:w6.frozen? ⟨w.heap.size,4,none⟩=false:=StB.frozen (H6.out.get 5 rfl) 4;have r5:w6.cell? ⟨w.heap.size,5,none⟩=some (.int .i64 0):=Blk.cell (H6.out.get 5 rfl) 5 rfl;have f5:w6.frozen? ⟨w.heap.size,5,none⟩=false:=StB.frozen (H6.out.get 5 rfl) 5))
 all_goals
  have q6:StB w6 w.heap.size 30 #[.slice none 0 0,.slice none 0 0,.slice none 0 0,.int .i64 0,.int .i64 0,.int .i64 0]:=H6.out.get 5 rfl
  have z6:StB w6 (w.heap.size+1) 32 #[.int .i64 0,.int .i64 0,.int .i64 0,.int .i64 0,.int .i64 0]:=H6.out.get 4 rfl
  have S6:=put6_st (.slice ao xs.length ac) (.slice bo ys.length bc) (.slice (some ⟨q,off,none⟩) n cap) h q6
  have G6:=put6_grown w6 w.heap.size (.slice ao xs.length ac) (.slice bo ys.length bc) (.slice (some ⟨q,off,none⟩) n cap) h
  have H7:=H6.out.turn 5 rfl (Turned.of_grown G6) (Blk w.heap.size 30 (srA (.slice ao xs.length ac) (.slice bo ys.length bc) (.slice (some ⟨q,off,none⟩) n cap) h)) rfl S6
  have S7:=put5_st r (z6.kept G6 (by simp))
  have G7:=put5_grown (put6 w6 w.heap.size (.slice ao xs.length ac) (.slice bo ys.length bc) (.slice (some ⟨q,off,none⟩) n cap) h) (w.heap.size+1) r
  have H8:=H7.turn 4 rfl (Turned.of_grown G7) (Blk (w.heap.size+1) 32 (cmA r)) rfl S7
  have HZ:Hid (StB (put5 (put6 w6 w.heap.size (.slice ao xs.length ac) (.slice bo ys.length bc) (.slice (some ⟨q,off,none⟩) n cap) h) (w.heap.size+1) r) w.heap.size 30 (srA (.slice ao xs.length ac) (.slice bo ys.length bc) (.slice (some ⟨q,off,none⟩) n cap) h)∧StB (put5 (put6 w6 w.heap.size (.slice ao xs.length ac) (.slice bo ys.length bc) (.slice (some ⟨q,off,none⟩) n cap) h) (w.heap.size+1) r) (w.heap.size+1) 32 (cmA r)∧Reads (put5 (put6 w6 w.heap.size (.slice ao xs.length ac) (.slice bo ys.length bc) (.slice (some ⟨q,off,none⟩) n cap) h) (w.heap.size+1) r) (.slice ao xs.length ac) xs∧Reads (put5 (put6 w6 w.heap.size (.slice ao xs.length ac) (.slice bo ys.length bc) (.slice (some ⟨q,off,none⟩) n cap) h) (w.heap.size+1) r) (.slice bo ys.length bc) ys∧Reads (put5 (put6 w6 w.heap.size (.slice ao xs.length ac) (.slice bo ys.length bc) (.slice (some ⟨q,off,none⟩) n cap) h) (w.heap.size+1) r) (.slice (some ⟨q,off,none⟩) n cap) h.ks∧Below w.heap.size w (put5 (put6 w6 w.heap.size (.slice ao xs.length ac) (.slice bo ys.length bc) (.slice (some ⟨q,off,none⟩) n cap) h) (w.heap.size+1) r)):=⟨S6.kept G7 (by simp),S7,H8.readsU 2 rfl,H8.readsV 2 rfl,H8.get 1 rfl,H8.below⟩
  obtain⟨wz,hwz⟩:∃wz,wz=put5 (put6 w6 w.heap.size (.slice ao xs.length ac) (.slice bo ys.length bc) (.slice (some ⟨q,off,none⟩) n cap) h) (w.heap.size+1) r:=⟨_,rfl⟩
  rw[←hwz]at HZ
  unfold put5 put6 at hwz
  rw[←hwz]
  clear hwz q6 z6 S6 G6 H7 S7 G7 H8
  go_wp2
  refine bodyPost_ret (results_SIC rfl _ _ w.heap.size (w.heap.size+1) (srA (.slice ao xs.length ac) (.slice bo ys.length bc) (.slice (some ⟨q,off,none⟩) n cap) h) _ r rfl rfl rfl rfl HZ.out.1 HZ.out.2.1) rfl ?_
  exact⟨_,_,_,xs,ys,h,_,r,rfl,hx,hy,hk,HZ.out.2.2⟩
end Go.Proofs.YtpdggofaobmnlaaGreatDoor
namespace Go.Proofs.YtpdggofaobmnlaaGreatDoor
open Go.ChangeShapes Go.WideShapes Go.ChangeAt Go.RowKit
theorem drawNewStore_any (B:Nat) (v:Value) (w:World) (h:CodeOk w B v) (hB:B≤w.heap.size):
  Calls Tryz.prog 8 #[v] w fun e w'=>∃n,e=.returned (.int .i64 n)∧Below w.heap.size w w':=by
 go_enter Tryz.func8,Tryz.ntmps8
 go_wp2_with fail
 refine(drawNew8_any B v w h hB).mono ?_
 rintro e w' ⟨n,rfl,b⟩
 go_wp2_with fail
 go_ret
 exact⟨_,rfl,b⟩
end Go.Proofs.YtpdggofaobmnlaaGreatDoor
namespace Go.Proofs.YtpdggofaobmnlaaGreatDoor
open Go.RowKit
def cnt (p:Int→Bool):Nat→Nat
 |0=>0
 |j+1=>cnt p j+(if p j=true then 1 else 0)
theorem cnt_le (p:Int→Bool) (j:Nat):cnt p j≤j:=by
 induction j with
 |zero=>exact Nat.le_refl _
 |succ j ih=>unfold cnt;split<;>omega
theorem cnt_none (p:Int→Bool) (h:∀i,p i=false) (j:Nat):cnt p j=0:=by
 induction j with
 |zero=>rfl
 |succ j ih=>simp[cnt,ih,h]
theorem cnt_same (p q:Int→Bool) (h:∀i,p i=q i) (j:Nat):cnt p j=cnt q j:=by
 induction j with
 |zero=>rfl
 |succ j ih=>simp[cnt,ih,h]
theorem cnt_some (p:Int→Bool) (k:Nat) (h:p k=true) (j:Nat) (hj:k<j):0<cnt p j:=by
 induction j with
 |zero=>omega
 |succ j ih=>
  unfold cnt
  by_cases e:k=j
  ·subst e;rw[if_pos h];omega
  ·have:=ih (by omega);omega
theorem cnt_at (p:Int→Bool) (k:Nat) (h:∀i:Nat,p i=decide (i=k)) (j:Nat):cnt p j=if k<j then 1 else 0:=by
 induction j with
 |zero=>rfl
 |succ j ih=>
  unfold cnt
  rw[ih,h j]
  by_cases e:j=k
  ·subst e;simp
  ·simp[e];split<;>split<;>omega
theorem Hd.ok_parts {h:Hd} (e:h.ok=true):h.ks.length=4∧h.mid=true:=by
 unfold Hd.ok at e
 simp only[Bool.and_eq_true,decide_eq_true_eq]at e
 exact⟨e.1.1.1,e.2⟩
theorem Hd.not_ok {h:Hd} (e:h.ok=false) (i:Int) (w:Bool):h.Reg i=false∧h.Hol i=false∧h.May i w=false:=by
 simp[Hd.Reg,Hd.Hol,Hd.May,e]
theorem Hd.hol_none {h:Hd} (e:h.kd=0) (i:Int):h.Hol i=false:=by
 simp[Hd.Hol,Hd.holds,e]
theorem Hd.hol_all {h:Hd} (ok:h.ok=true) (ha:allI h.kd=true) (i:Int):h.Hol i=h.Reg i:=by
 have hm:=(Hd.ok_parts ok).2
 have hk:h.kd≠0:=by intro e;rw[e]at ha;cases ha
 unfold Hd.mid at hm
 rw[if_neg hk,if_pos ha]at hm
 simp only[Bool.and_eq_true,decide_eq_true_eq]at hm
 unfold Hd.Hol Hd.Reg Hd.holds
 cases hi:inI i 0 3 with
 |false=>simp
 |true=>
  have:=(inI_iff i 0 3).1 hi
  have hne:¬h.ho=i:=by omega
  simp[hk,hne,ha]
theorem Hd.hol_one {h:Hd} (ok:h.ok=true) (hk:h.kd≠0) (ha:allI h.kd=false):∃k:Nat,k<4∧h.ho=k∧regI h.ks h.ho=true∧∀i:Int,inI i 0 3=true→h.Hol i=decide (i=k):=by
 have hm:=(Hd.ok_parts ok).2
 unfold Hd.mid at hm
 rw[if_neg hk,if_neg (by rw[ha];decide)]at hm
 simp only[Bool.and_eq_true]at hm
 have hr:=(inI_iff _ _ _).1 hm.1.2
 refine⟨h.ho.toNat,by omega,by omega,hm.2,fun i hi=>?_⟩
 have hi':=(inI_iff _ _ _).1 hi
 unfold Hd.Hol Hd.holds
 rw[ok,hi,ha]
 by_cases e:h.ho=i
 ·have e2:i=((h.ho.toNat:Nat):Int):=by omega
  simp[hk,e]
  omega
 ·have e2:¬i=((h.ho.toNat:Nat):Int):=by omega
  simp[e]
  omega
theorem Hd.hol_reg {h:Hd} (i:Int) (e:h.Hol i=true):h.Reg i=true:=by
 have e':=e
 unfold Hd.Hol at e'
 simp only[Bool.and_eq_true]at e'
 obtain⟨⟨ok,hi⟩,hh⟩:=e'
 by_cases hk:h.kd=0
 ·rw[Hd.hol_none hk i]at e;cases e
 ·cases ha:allI h.kd with
  |true=>rw[←Hd.hol_all ok ha i];exact e
  |false=>
   obtain⟨k,hk4,hho,hr,hall⟩:=Hd.hol_one ok hk ha
   rw[hall i hi]at e
   have:i=h.ho:=by rw[hho];exact of_decide_eq_true e
   unfold Hd.Reg
   rw[ok,hi,this,hr];rfl
theorem Hd.hol_may {h:Hd} (i:Int) (w:Bool) (e:h.Hol i=true):h.May i w=true:=by
 unfold Hd.Hol at e
 simp only[Bool.and_eq_true]at e
 obtain⟨⟨ok,hi⟩,hh⟩:=e
 have hk:h.kd≠0:=by intro hk;simp[Hd.holds,hk]at hh
 have hm:=(Hd.ok_parts ok).2
 have hkind:kiI h.kd=true:=by
  unfold Hd.mid at hm
  rw[if_neg hk]at hm
  cases ha:allI h.kd with
  |true=>
   rcases kinds h.kd with h'|h'|h'|h'|h'|h'|h'|⟨hn, -⟩
   all_goals first|exact absurd h' hk|(rw[h'];rfl)|(rw[none_all _ hn]at ha;cases ha)
  |false=>
   rw[if_neg (by rw[ha];decide)]at hm
   simp only[Bool.and_eq_true]at hm
   exact hm.1.1
 unfold Hd.May Hd.may
 rw[ok,hi,hh,mayI_holds h.kd w _ hkind];rfl
theorem Hd.count {h:Hd} (ok:h.ok=true):(h.kd=0→cnt h.Hol 4=0)∧(h.kd≠0→allI h.kd=true→cnt h.Hol 4=cnt h.Reg 4∧0<cnt h.Reg 4)∧(h.kd≠0→allI h.kd=false→cnt h.Hol 4=1):=by
 refine⟨fun e=>cnt_none _ (Hd.hol_none e) 4,fun hk ha=>⟨cnt_same _ _ (Hd.hol_all ok ha) 4,?_⟩,fun hk ha=>?_⟩
 ·have hm:=(Hd.ok_parts ok).2
  have hl:=(Hd.ok_parts ok).1
  unfold Hd.mid at hm
  rw[if_neg hk,if_pos ha]at hm
  simp only[Bool.and_eq_true]at hm
  have ha2:=hm.2
  unfold anyI at ha2
  rw[List.any_eq_true]at ha2
  obtain⟨x,hx,hx2⟩:=ha2
  obtain⟨k,hk4,rfl⟩:=List.mem_iff_getElem.1 hx
  refine cnt_some _ k ?_ 4 (by omega)
  unfold Hd.Reg regI
  have h3:inI (k:Int) 0 3=true:=(inI_iff _ _ _).2 (by omega)
  rw[ok,h3]
  simp[hk4]at hx2⊢
  exact hx2
 ·obtain⟨k,hk4,hho,hr,hall⟩:=Hd.hol_one ok hk ha
  have e:cnt h.Hol 4=cnt (fun i=>decide (i=(k:Int))) 4:=by
   have h0:=hall 0 (by decide)
   have h1:=hall 1 (by decide)
   have h2:=hall 2 (by decide)
   have h3:=hall 3 (by decide)
   simp[cnt,h0,h1,h2,h3]
  rw[e,cnt_at _ k (fun i=>by simp;omega) 4,if_pos hk4]
end Go.Proofs.YtpdggofaobmnlaaGreatDoor
namespace Go.Proofs.YtpdggofaobmnlaaGreatDoor
open Go.RowKit
theorem any_iff {ks:List Int}:anyI ks=true↔∃j,j<ks.length∧ks.getD j 0≠0:=by
 constructor
 ·intro h
  unfold anyI at h
  obtain⟨x,hx,h0⟩:=List.any_eq_true.1 h
  obtain⟨j,hj,rfl⟩:=List.getElem_of_mem hx
  exact⟨j,hj,by simpa[hj]using h0⟩
 ·rintro⟨j,hj,h⟩
  exact any_at ks j hj h
theorem keys_iff {ks:List Int}:keysI ks=true↔∀j,j<ks.length→0≤ks.getD j 0∧ks.getD j 0≤9999:=by
 constructor
 ·intro h j hj
  unfold keysI at h
  have:=List.all_eq_true.1 h ks[j] (List.getElem_mem hj)
  rw[inI_iff]at this
  simpa[hj]using this
 ·intro h
  unfold keysI
  rw[List.all_eq_true]
  intro x hx
  obtain⟨j,hj,rfl⟩:=List.getElem_of_mem hx
  have:=h j hj
  rw[inI_iff]
  simpa[hj]using this
theorem mid_iff {h:Hd}:h.mid=true↔(h.kd=0∧h.ho= -1)∨(h.kd≠0∧allI h.kd=true∧h.ho= -1∧anyI h.ks=true)∨(h.kd≠0∧allI h.kd=false∧kiI h.kd=true∧(0≤h.ho∧h.ho≤3)∧h.ks.getD h.ho.toNat 0≠0):=by
 unfold Hd.mid regI
 by_cases h0:h.kd=0
 ·simp[h0]
 ·cases ha:allI h.kd
  ·simp[h0,Bool.and_eq_true,inI_iff,and_assoc]
  ·simp[h0]
theorem ok_iff {h:Hd}:h.ok=true↔h.ks.length=4∧(0≤h.tu∧h.tu≤1000000000)∧keysI h.ks=true∧h.mid=true:=by
 unfold Hd.ok
 simp[Bool.and_eq_true,inI_iff,and_assoc]
theorem getD_setK {ks:List Int} {j m:Nat} {x:Int} (hj:j<ks.length):(ks.set j x).getD m 0=if m=j then x else ks.getD m 0:=by
 by_cases e:m=j
 ·subst e;simp[hj]
 ·rw[if_neg e]
  simp only[List.getD_eq_getElem?_getD]
  rw[List.getElem?_set_ne (Ne.symm e)]
theorem list_ext {xs ys:List Int} (hl:xs.length=ys.length) (h:∀j,j<xs.length→xs.getD j 0=ys.getD j 0):xs=ys:=by
 apply List.ext_getElem hl
 intro j h1 h2
 have:=h j h1
 simpa[h1,h2]using this
theorem turn_mod (t:Int) (h0:0≤t) (h1:t≤1000000000):turnI t=(t+1)%1000000001:=by
 unfold turnI;split<;>omega
theorem regd_ks (h:Hd) (i key:Int):(h.regd i key).ks=h.ks.set i.toNat key:=by
 unfold Hd.regd;split<;>rfl
theorem regd_tu (h:Hd) (i key:Int):(h.regd i key).tu=turnI h.tu:=by
 unfold Hd.regd;split<;>rfl
theorem regd_ok {h:Hd} (ok:h.ok=true) {i key:Int} (hi:0≤i∧i≤3) (hk:0≤key∧key≤9999):(h.regd i key).ok=true∧((h.regd i key).kd=h.kd∨key=0∧(h.regd i key).kd=0):=by
 obtain⟨hl,ht,hks,hm⟩:=ok_iff.1 ok
 have hi4:i.toNat<h.ks.length:=by omega
 have hany:key≠0→anyI (h.ks.set i.toNat key)=true:=fun hk0=>any_iff.2 ⟨i.toNat,by simpa using hi4,by rw[getD_setK hi4,if_pos rfl];exact hk0⟩
 have hkeys:keysI (h.ks.set i.toNat key)=true:=keys_iff.2 fun j hj=>by
  rw[getD_setK hi4]
  split
  ·exact hk
  ·exact keys_iff.1 hks j (by simpa using hj)
 have htu:=turnI_in h.tu ht.1 ht.2
 constructor
 ·rw[ok_iff,regd_ks,regd_tu]
  refine⟨by simpa using hl,htu,hkeys,?_⟩
  unfold Hd.regd
  split
  ·rw[mid_iff];exact .inl ⟨rfl,rfl⟩
  ·rename_i c
   rw[mid_iff]
   simp only[Hd.turn,Hd.key]
   rcases mid_iff.1 hm with m|m|m
   ·exact .inl m
   ·refine .inr (.inl ⟨m.1,m.2.1,m.2.2.1,?_⟩)
    by_cases hk0:key=0
    ·cases ha:anyI (h.ks.set i.toNat key)
     ·exact absurd ⟨hk0,.inr ha⟩ c
     ·rfl
    ·exact hany hk0
   ·refine .inr (.inr ⟨m.1,m.2.1,m.2.2.1,m.2.2.2.1,?_⟩)
    rw[getD_setK hi4]
    split
    ·rename_i e
     intro hk0
     exact c ⟨hk0,.inl (by have:=m.2.2.2.1;omega)⟩
    ·exact m.2.2.2.2
 ·unfold Hd.regd
  split
  ·rename_i c;exact .inr ⟨c.1,rfl⟩
  ·exact .inl rfl
theorem register_cases (h:Hd) (i key:Int):h.register i key=(Hd.zero,2)∨(h.ok=true∧(0≤i∧i≤3)∧(0≤key∧key≤9999)∧h.register i key=(h.regd i key,0)):=by
 unfold Hd.register
 by_cases c:(h.ok&&inI i 0 3&&inI key 0 9999)=true
 ·rw[if_pos c]
  simp only[Bool.and_eq_true,inI_iff]at c
  exact .inr ⟨c.1.1,c.1.2,c.2,rfl⟩
 ·rw[if_neg c];exact .inl rfl
theorem clear_cases (h:Hd) (i:Int):(∃t,h.clear i=(⟨[0,0,0,0],0, -1,t⟩,0))∨(h.clear i=(h,1)∧h.Reg i=false)∨h.clear i=(Hd.zero,2):=by
 unfold Hd.clear
 by_cases c:(h.ok&&inI i 0 3)=true
 ·rw[if_pos c]
  unfold Hd.clrd
  cases hr:regI h.ks i
  ·rw[if_pos rfl];exact .inr (.inl ⟨rfl,by simp[Hd.Reg,hr]⟩)
  ·rw[if_neg (by decide)];exact .inl ⟨_,rfl⟩
 ·rw[if_neg c];exact .inr (.inr rfl)
theorem acts_none {h:Hd} (ok:h.ok=true) {i:Int} (hr:h.Reg i=false) (hi:inI i 0 3=true) (k key kind:Int) (h1:inI key 1 9999=true) (h2:kiI kind=true):
  h.reserve i k=(if kiI k=true then(h,1)else(Hd.zero,2))∧h.release i=(h,1)∧h.clear i=(h,1)∧h.preempt i key kind=(h,1):=by
 have hg:regI h.ks i=false:=by simpa[Hd.Reg,ok,hi]using hr
 refine⟨?_,?_,?_,?_⟩
 ·cases hk:kiI k<;>simp[Hd.reserve,ok,hi,hk,Hd.resd,hg,told]
 ·simp[Hd.release,ok,hi,Hd.reld,hg,told]
 ·simp[Hd.clear,ok,hi,Hd.clrd,hg,told]
 ·simp[Hd.preempt,ok,hi,h1,h2,Hd.pred,hg,told]
theorem acts_out {h:Hd} {i:Int} (hi:inI i 0 3=false) (k key kind:Int):h.reserve i k=(Hd.zero,2)∧h.release i=(Hd.zero,2)∧h.clear i=(Hd.zero,2)∧h.preempt i key kind=(Hd.zero,2):=by
 simp[Hd.reserve,Hd.release,Hd.clear,Hd.preempt,hi]
end Go.Proofs.YtpdggofaobmnlaaGreatDoor
namespace Go.Proofs.YtpdggofaobmnlaaGreatDoor
open Go.RowKit
theorem ki_ne0 {k:Int} (h:kiI k=true):k≠0:=by intro e;subst e;exact absurd h (by decide)
theorem take_ok {h:Hd} (ok:h.ok=true) {i k:Int} (hi:0≤i∧i≤3) (hr:h.ks.getD i.toNat 0≠0) (hk:kiI k=true):(h.take i k).ok=true:=by
 obtain⟨hl,ht,hks,hm⟩:=ok_iff.1 ok
 rw[ok_iff]
 refine⟨hl,ht,hks,?_⟩
 rw[mid_iff]
 unfold Hd.take
 have h0:=ki_ne0 hk
 cases ha:allI k
 ·refine .inr (.inr ⟨h0,rfl,hk,?_,?_⟩)
  ·simpa using hi
  ·simpa using hr
 ·refine .inr (.inl ⟨h0,rfl,by simp,any_iff.2 ⟨i.toNat,by simp;omega,hr⟩⟩)
theorem take_hol {h:Hd} {i k:Int} (ok:(h.take i k).ok=true) (hi:inI i 0 3=true) (hr:regI h.ks i=true) (hk:kiI k=true):(h.take i k).Hol i=true:=by
 unfold Hd.Hol Hd.holds
 rw[ok,hi]
 have h0:=ki_ne0 hk
 cases ha:allI k
 ·simp[Hd.take,h0,ha]
 ·simp[Hd.take,h0,ha,hr]
theorem reg_of {h:Hd} {i:Int}:regI h.ks i=true↔h.ks.getD i.toNat 0≠0:=by simp[regI]
theorem reserve_cases (h:Hd) (i k:Int):h.reserve i k=(Hd.zero,2)∨
  (h.reserve i k=(h,1)∧(h.Reg i=false∨(h.kd≠0∧(h.kd≠k∨h.Hol i=false))))∨
  (∃x,h.reserve i k=(x,0)∧x.Hol i=true∧x.kd=k∧(h.kd=0∨x=h)∧x.reserve i k=(x,0)∧x.ks.length=4):=by
 unfold Hd.reserve
 by_cases c:(h.ok&&inI i 0 3&&kiI k)=true
 ·rw[if_pos c]
  simp only[Bool.and_eq_true]at c
  obtain⟨⟨ok,hin⟩,hk⟩:=c
  have hi:=(inI_iff _ _ _).1 hin
  have hk0:=ki_ne0 hk
  have hl:=(ok_iff.1 ok).1
  cases hr:regI h.ks i
  ·refine .inr (.inl ⟨?_,.inl ?_⟩)
   ·simp[Hd.resd,hr,told]
   ·simp[Hd.Reg,hr]
  ·by_cases h0:h.kd=0
   ·have e:h.resd i k=(h.take i k,true):=by simp[Hd.resd,hr,h0]
    have tok:=take_ok ok hi (reg_of.1 hr) hk
    refine .inr (.inr ⟨h.take i k,by rw[e];rfl,take_hol tok hin hr hk,rfl,.inl h0,?_,hl⟩)
    have e2:(h.take i k).resd i k=(h.take i k,true):=by
     unfold Hd.resd
     rw[if_neg (by rw[show(h.take i k).ks=h.ks from rfl,hr];decide),if_neg (show(h.take i k).kd≠0 from hk0)]
     cases ha:allI k<;>simp[Hd.take,ha]
    rw[tok,hin,hk,e2];rfl
   ·have e:h.resd i k=(h,decide (h.kd=k)&&(allI k||decide (h.ho=i))):=by simp[Hd.resd,hr,h0]
    by_cases hh:(decide (h.kd=k)&&(allI k||decide (h.ho=i)))=true
    ·rw[hh]at e
     simp only[Bool.and_eq_true,Bool.or_eq_true,decide_eq_true_eq]at hh
     refine .inr (.inr ⟨h,by rw[e];rfl,?_,hh.1,.inr rfl,by rw[ok,hin,hk,e];rfl,hl⟩)
     unfold Hd.Hol Hd.holds
     rw[ok,hin]
     rcases hh with⟨hkk,ha|ho⟩
     ·simp[hkk,ha,hr,hk0]
     ·simp[h0,ho]
    ·have hh':(decide (h.kd=k)&&(allI k||decide (h.ho=i)))=false:=by simpa using hh
     rw[hh']at e
     refine .inr (.inl ⟨by rw[e];rfl,.inr ⟨h0,?_⟩⟩)
     by_cases hkk:h.kd=k
     ·right
      subst hkk
      simp at hh'
      simp[Hd.Hol,Hd.holds,hh'.1,hh'.2]
     ·exact .inl hkk
 ·rw[if_neg c];exact .inl rfl
theorem release_cases (a:Hd) (b:Int):(∃y,a.release b=(y,0)∧y.Hol b=false∧y.ks=a.ks∧y.tu=a.tu∧(a.Hol b=true∨y=a))∨a.release b=(a,1)∨a.release b=(Hd.zero,2):=by
 unfold Hd.release
 by_cases c:(a.ok&&inI b 0 3)=true
 ·rw[if_pos c]
  simp only[Bool.and_eq_true]at c
  unfold Hd.reld
  cases hr:regI a.ks b
  ·rw[if_pos rfl];exact .inr (.inl rfl)
  ·rw[if_neg (by decide)]
   cases hh:a.holds b
   ·rw[if_neg (by decide)]
    exact .inl ⟨a,rfl,by simp[Hd.Hol,hh],rfl,rfl,.inr rfl⟩
   ·rw[if_pos rfl]
    exact .inl ⟨a.free,rfl,Hd.hol_none rfl b,rfl,rfl,.inl (by simp[Hd.Hol,c.1,c.2,hh])⟩
 ·rw[if_neg c];exact .inr (.inr rfl)
theorem strike_get (ks:List Int) (i:Nat) (key:Int) (n m:Nat) (hn:n≤ks.length) (hm:m<n):(strike ks i key n).getD m 0=if m≠i∧ks.getD m 0=key then 0 else ks.getD m 0:=by
 induction n with
 |zero=>omega
 |succ n ih=>
  by_cases e:m=n
  ·subst e
   unfold strike
   split
   ·rw[getD_setK (by rw[strike_len];omega),if_pos rfl]
   ·exact strike_at _ _ _ _ _ (Nat.le_refl _)
  ·have:=ih (by omega) (by omega)
   unfold strike
   split
   ·rw[getD_setK (by rw[strike_len];omega),if_neg e,this]
   ·exact this
theorem preempt_cases (h:Hd) (i key k:Int):h.preempt i key k=(Hd.zero,2)∨h.preempt i key k=(h,1)∨
  (∃x,h.preempt i key k=(x,0)∧x.ks.length=4∧h.ks.length=4∧(∀m,m<4→x.ks.getD m 0=if(m:Int)≠i∧h.ks.getD m 0=key then 0 else h.ks.getD m 0)∧
   (h.kd≠0→0≤h.ho→h.ho≤3∧(h.ks.getD h.ho.toNat 0=key→x.Hol i=true∧x.kd=k))∧(h.kd=0→x.kd=0)∧(h.kd≠0→x.kd≠0)∧x.ok=true∧x.Reg i=true):=by
 unfold Hd.preempt
 by_cases c:(h.ok&&inI i 0 3&&inI key 1 9999&&kiI k)=true
 ·rw[if_pos c]
  simp only[Bool.and_eq_true]at c
  obtain⟨⟨⟨ok,hin⟩,hkey⟩,hk⟩:=c
  have hi:=(inI_iff _ _ _).1 hin
  have hky:=(inI_iff _ _ _).1 hkey
  have hk0:=ki_ne0 hk
  obtain⟨hl,ht,hks,hm⟩:=ok_iff.1 ok
  by_cases hrf:(regI h.ks i&&has h.ks key 4)=false
  ·refine .inr (.inl ?_)
   unfold Hd.pred
   rw[if_pos hrf];rfl
  ·have hr:regI h.ks i=true:=by
    cases hx:regI h.ks i
    ·rw[hx]at hrf;exact absurd rfl hrf
    ·rfl
   have hri:=reg_of.1 hr
   obtain⟨h4,hh4⟩:∃h4:Hd,h4=Hd.turn ⟨strike h.ks i.toNat key 4,h.kd,h.ho,h.tu⟩:=⟨_,rfl⟩
   have h4ks:h4.ks=strike h.ks i.toNat key 4:=by rw[hh4];rfl
   have h4kd:h4.kd=h.kd:=by rw[hh4];rfl
   have h4ho:h4.ho=h.ho:=by rw[hh4];rfl
   have h4tu:h4.tu=turnI h.tu:=by rw[hh4];rfl
   have hg:∀m,m<4→h4.ks.getD m 0=if m≠i.toNat∧h.ks.getD m 0=key then 0 else h.ks.getD m 0:=fun m hm=>by
    rw[h4ks];exact strike_get _ _ _ _ _ (by omega) hm
   have hl4:h4.ks.length=4:=by rw[h4ks,strike_len];exact hl
   have hr4:h4.ks.getD i.toNat 0≠0:=by
    rw[hg i.toNat (by omega),if_neg (fun e=>e.1 rfl)];exact hri
   have hks4:keysI h4.ks=true:=keys_iff.2 fun j hj=>by
    rw[hg j (by omega)]
    split
    ·omega
    ·exact keys_iff.1 hks j (by omega)
   have htu4:=turnI_in h.tu ht.1 ht.2
   have hgi:∀m,m<4→h4.ks.getD m 0=if(m:Int)≠i∧h.ks.getD m 0=key then 0 else h.ks.getD m 0:=fun m hm=>by
    rw[hg m hm]
    have:m≠i.toNat↔(m:Int)≠i:=by omega
    simp only[this]
   have hany4:anyI h4.ks=true:=any_iff.2 ⟨i.toNat,by omega,hr4⟩
   have ho:h.kd≠0→0≤h.ho→allI h.kd=false∧h.ho≤3:=by
    intro e1 e2
    rcases mid_iff.1 hm with m|m|m
    ·exact absurd m.1 e1
    ·omega
    ·exact⟨m.2.1,m.2.2.2.1.2⟩
   by_cases ht':(h.alone key||(allI h.kd&& !more h.ks i.toNat key 4))=true
   ·have e:h.pred i key k=(h4.take i k,true):=by
     unfold Hd.pred
     rw[if_neg hrf,if_pos ht',hh4]
    rw[e]
    have hkd:h.kd≠0:=by
     intro e0
     rw[Hd.alone,e0]at ht'
     exact absurd ht' (by simp[show allI 0=false from rfl])
    have tok:(h4.take i k).ok=true:=by
     rw[ok_iff]
     refine⟨hl4,by rw[show(h4.take i k).tu=h4.tu from rfl,h4tu];exact htu4,hks4,?_⟩
     rw[mid_iff]
     unfold Hd.take
     cases ha:allI k
     ·exact .inr (.inr ⟨hk0,rfl,hk,by simpa using hi,by simpa using hr4⟩)
     ·exact .inr (.inl ⟨hk0,rfl,by simp,hany4⟩)
    have hr4':regI h4.ks i=true:=(reg_of (h:=h4)).2 hr4
    refine .inr (.inr ⟨h4.take i k,rfl,hl4,hl,hgi,fun e1 e2=>⟨(ho e1 e2).2,fun _=>⟨take_hol tok hin hr4' hk,rfl⟩⟩,fun e0=>absurd e0 hkd,fun _=>hk0,tok,?_⟩)
    unfold Hd.Reg
    rw[tok,hin]
    exact hr4'
   ·have e:h.pred i key k=(h4,true):=by
     unfold Hd.pred
     rw[if_neg hrf,if_neg ht',hh4]
    rw[e]
    have hal:h.alone key=false:=by
     cases hx:h.alone key
     ·rfl
     ·rw[hx]at ht';exact absurd rfl ht'
    have hok4:h4.ok=true:=by
     rw[ok_iff]
     refine⟨hl4,by rw[h4tu];exact htu4,hks4,?_⟩
     rw[mid_iff,h4kd,h4ho]
     rcases mid_iff.1 hm with m|m|m
     ·exact .inl m
     ·exact .inr (.inl ⟨m.1,m.2.1,m.2.2.1,hany4⟩)
     ·refine .inr (.inr ⟨m.1,m.2.1,m.2.2.1,m.2.2.2.1,?_⟩)
      rw[hg h.ho.toNat (by have:=m.2.2.2.1;omega)]
      have:h.ks.getD h.ho.toNat 0≠key:=by
       intro e1
       rw[Hd.alone,e1]at hal
       simp[m.1,m.2.1]at hal
      rw[if_neg (fun e=>this e.2)]
      exact m.2.2.2.2
    refine .inr (.inr ⟨h4,rfl,hl4,hl,hgi,fun e1 e2=>⟨(ho e1 e2).2,fun e3=>?_⟩,fun e0=>by rw[h4kd];exact e0,fun e0=>by rw[h4kd];exact e0,hok4,?_⟩)
    ·rw[Hd.alone,e3,(ho e1 e2).1]at hal
     simp[e1]at hal
    ·unfold Hd.Reg
     rw[hok4,hin]
     exact(reg_of (h:=h4)).2 hr4
 ·rw[if_neg c];exact .inl rfl
end Go.Proofs.YtpdggofaobmnlaaGreatDoor
namespace Go.Proofs.YtpdggofaobmnlaaGreatDoor
open Go.ChangeShapes Go.WideShapes Go.ChangeAt Go.RowKit
theorem like_any (va vb:Value) (xs ys:List Int) (w:World) (ha:Reads w va xs) (hb:Reads w vb ys) (hbig:xs.length≤1099511627776):
  Calls Tryz.prog 50 #[va,vb] w fun e w'=>e=.returned (.bool (decide (xs=ys)))∧∃n,w'=w.drewN n:=by
 obtain⟨ao,ca,rfl,hla,⟨hma, -⟩,hca⟩:=ha
 obtain⟨bo,cb,rfl,hlb,⟨hmb, -⟩,hcb⟩:=hb
 by_cases hlen:xs.length=ys.length
 ·obtain⟨n,hn⟩:∃n,n=xs.length:=⟨_,rfl⟩
  rw[←hlen]at hlb hcb⊢
  rw[←hn]at hla hlb hca hcb hbig⊢
  have HN:Hid (n=xs.length∧n=ys.length):=⟨hn,hn.trans hlen⟩
  clear hn hlen hma hmb
  have hcell:∀j,j<n→∃b off b' off',ao=some ⟨b,off,none⟩∧bo=some ⟨b',off',none⟩∧w.cell? ⟨b,off+j,none⟩=some (.int .i64 (xs.getD j 0))∧w.cell? ⟨b',off'+j,none⟩=some (.int .i64 (ys.getD j 0)):=by
   intro j hj
   rcases hca with e|⟨b,off,e,h4⟩
   ·have:=HN.out.1;rw[e]at this;simp at this;omega
   ·rcases hcb with e'|⟨b',off',e',h4'⟩
    ·have:=HN.out.2;rw[e']at this;simp at this;omega
    ·exact⟨b,off,b',off',e,e',h4 j hj,h4' j hj⟩
  clear hca hcb
  go_enter Tryz.func50,Tryz.ntmps50
  go_wp2
  go_loopw [5] (fun i wr=>∃j q:Nat,j≤n∧i=.int .i64 j∧Hid (xs.take j=ys.take j)∧wr=w.drewN q) (fun i _=>n-(intOf i).toNat)
  case atStart=>exact⟨0,0,Nat.zero_le _,rfl,by simp[Hid],rfl⟩
  case round=>
   obtain⟨j,q,hj,rfl,ht,rfl⟩:=hrel
   by_cases hlt:(j:Int)<(n:Int)
   ·obtain⟨b,off,b',off',rfl,rfl,hc1,hc2⟩:=hcell j (by omega)
    clear hcell
    obtain⟨x,hx⟩:∃x,x=xs.getD j 0:=⟨_,rfl⟩
    obtain⟨y,hy⟩:∃y,y=ys.getD j 0:=⟨_,rfl⟩
    rw[←hx]at hc1
    rw[←hy]at hc2
    have HX:Hid (x=xs.getD j 0∧y=ys.getD j 0):=⟨hx,hy⟩
    clear hx hy
    by_cases hxy:(x !=y)=true
    ·go_wp2
     go_quiet (fail)
     go_wp2
     go_ret
     exact⟨ret_bool (by
      have h1:x≠y:=by simpa using hxy
      have h2:xs≠ys:=ne_of_getD (j:=j) (by rw[←HX.out.1,←HX.out.2];exact h1)
      simp[h2]),⟨_,World.drewN_drewN ..⟩⟩
    ·go_wp2
     go_quiet (fail)
     go_wp2
     go_roundw
     case rel=>
      have h1:x=y:=by simpa using hxy
      exact⟨j+1,_,by omega,by go_num,take_step ht (by have:=HN.out.1;omega) (by have:=HN.out.2;omega) (by rw[←HX.out.1,←HX.out.2];exact h1),rfl⟩
     case measure=>simp[intOf];omega
   ·go_wp2
    go_ret
    exact⟨ret_bool (by
     have h1:xs=ys:=by
      have h2:=ht.out
      rw[List.take_of_length_le (by have:=HN.out.1;omega),List.take_of_length_le (by have:=HN.out.2;omega)]at h2
      exact h2
     simp[h1]),⟨_,rfl⟩⟩
 ·have hne:((xs.length:Int) !=(ys.length:Int))=true:=by simp;omega
  have he:decide (xs=ys)=false:=by
   have:xs≠ys:=fun h=>hlen (by rw[h])
   simp[this]
  rw[he]
  clear he hlen hca hcb
  go_enter Tryz.func50,Tryz.ntmps50
  go_wp2
  go_ret
  exact⟨rfl,0,rfl⟩
end Go.Proofs.YtpdggofaobmnlaaGreatDoor
namespace Go.Proofs.YtpdggofaobmnlaaGreatDoor
open Go.ChangeShapes Go.WideShapes Go.ChangeAt Go.RowKit
def seekF (p:Nat→Bool):Nat→Nat→Nat
 |0,k=>k
 |f+1,k=>if p k then k else seekF p f (k+1)
def seekI (p:Nat→Bool) (k:Nat):Nat:=seekF p (8-k) k
theorem seekI_yes {p:Nat→Bool} {k:Nat} (h:k<8) (hp:p k=true):seekI p k=k:=by
 unfold seekI
 obtain⟨f,hf⟩:∃f,8-k=f+1:=⟨7-k,by omega⟩
 rw[hf];simp[seekF,hp]
theorem seekI_no {p:Nat→Bool} {k:Nat} (h:k<8) (hp:p k=false):seekI p k=seekI p (k+1):=by
 unfold seekI
 obtain⟨f,hf⟩:∃f,8-k=f+1:=⟨7-k,by omega⟩
 rw[hf];simp[seekF,hp]
 rw[show 7-k=f by omega]
theorem seekI_end {p:Nat→Bool} {k:Nat} (h:8≤k):seekI p k=k:=by
 unfold seekI
 rw[show 8-k=0 by omega];rfl
theorem seekI_bd (p:Nat→Bool) (k:Nat) (h:k≤8):k≤seekI p k∧seekI p k≤8:=by
 obtain⟨m,hm⟩:∃m,m=8-k:=⟨_,rfl⟩
 induction m generalizing k with
 |zero=>
  obtain rfl:k=8:=by omega
  rw[seekI_end (Nat.le_refl _)];omega
 |succ m ih=>
  by_cases hp:p k=true
  ·rw[seekI_yes (by omega) hp];omega
  ·have:=ih (k+1) (by omega) (by omega)
   rw[seekI_no (by omega) (by simpa using hp)];omega
theorem seekI_at (p:Nat→Bool) (k:Nat) (h:k≤8) (h8:seekI p k<8):p (seekI p k)=true:=by
 obtain⟨m,hm⟩:∃m,m=8-k:=⟨_,rfl⟩
 induction m generalizing k with
 |zero=>
  obtain rfl:k=8:=by omega
  rw[seekI_end (Nat.le_refl _)]at h8;omega
 |succ m ih=>
  by_cases hp:p k=true
  ·rw[seekI_yes (by omega) hp];exact hp
  ·have hn:=seekI_no (p:=p) (k:=k) (by omega) (by simpa using hp)
   rw[hn]at h8⊢
   exact ih (k+1) (by omega) h8 (by omega)
theorem seekI_before (p:Nat→Bool) (k:Nat) (h:k≤8) (j:Nat) (h1:k≤j) (h2:j<seekI p k):p j=false:=by
 obtain⟨m,hm⟩:∃m,m=8-k:=⟨_,rfl⟩
 induction m generalizing k with
 |zero=>
  obtain rfl:k=8:=by omega
  rw[seekI_end (Nat.le_refl _)]at h2;omega
 |succ m ih=>
  by_cases hp:p k=true
  ·rw[seekI_yes (by omega) hp]at h2;omega
  ·have hn:=seekI_no (p:=p) (k:=k) (by omega) (by simpa using hp)
   rw[hn]at h2
   by_cases ej:j=k
   ·subst ej;simpa using hp
   ·exact ih (k+1) (by omega) (by omega) h2 (by omega)
theorem seekI_none (p:Nat→Bool) (k:Nat) (h:k≤8) (hp:∀j,p j=false):seekI p k=8:=by
 have b:=seekI_bd p k h
 by_cases e:seekI p k<8
 ·have:=seekI_at p k h e;rw[hp]at this;cases this
 ·omega
def hasP (s:Int):Nat→Bool:=fun j=>inB s j
def lackP (s:Int):Nat→Bool:=fun j=> !inB s j
def firstI (s:Int):Int:=if seekI (hasP s) 0=8 then-1 else seekI (hasP s) 0
theorem firstI_noset {s:Int} (h:s<0∨256≤s):firstI s= -1:=by
 unfold firstI
 rw[if_pos (seekI_none _ _ (by omega) (fun j=>by simp[hasP,inB_noset h]))]
end Go.Proofs.YtpdggofaobmnlaaGreatDoor
