/- What the model draws for a store and a command: DrawDidStore. -/
import Derived.Test.YtfngkbogcjodaaaGreatDoorM13
import Derived.Test.YtfngkbogcjodaaaGreatDoorM4
import Derived.Test.YtfngkbogcjodaaaGreatDoorM5
import Derived.Test.YtfngkbogcjodaaaGreatDoorM10
set_option maxRecDepth 20000
set_option maxHeartbeats 40000000
namespace Go.Proofs.YtfngkbogcjodaaaGreatDoor
open Go.ChangeShapes Go.WideShapes Go.ChangeAt Go.RowKit
theorem drawDidStore_any (B:Nat) (v:Value) (w:World) (h0:CodeOk w B v) (hB:B≤w.heap.size):
  Calls Tryz.prog 5 #[v] w fun e w'=>∃a b k xs ys h i c,e=.returned (.tuple #[SRV a b k h,.int .i64 i,CV c])∧xs.length≤65∧ys.length≤65∧h.ks.length≤4∧Reads w' a xs∧Reads w' b ys∧Reads w' k h.ks∧Below w.heap.size w w':=by
 obtain⟨w1,hw1⟩:∃w1,w1=(w.alloc (.cells #[.slice none 0 0,.slice none 0 0,.slice none 0 0,.int .i64 0,.int .i64 0,.int .i64 0] 30)).alloc (.cells #[.int .i64 0,.int .i64 0,.int .i64 0,.int .i64 0,.int .i64 0] 32):=⟨_,rfl⟩
 have hs1:=((Sta.start w).box 30 #[.slice none 0 0,.slice none 0 0,.slice none 0 0,.int .i64 0,.int .i64 0,.int .i64 0]).box 32 #[.int .i64 0,.int .i64 0,.int .i64 0,.int .i64 0,.int .i64 0]
 rw[World.size_alloc,←hw1]at hs1
 have HS:Hid (Sta w w1 (Blk (w.heap.size+1) 32 #[.int .i64 0,.int .i64 0,.int .i64 0,.int .i64 0,.int .i64 0]::Blk w.heap.size 30 #[.slice none 0 0,.slice none 0 0,.slice none 0 0,.int .i64 0,.int .i64 0,.int .i64 0]::[])):=hs1
 clear hs1
 have HC:Hid (CodeOk w B v):=h0
 clear h0
 go_enter Tryz.func5,Tryz.ntmps5
 go_wp2_with fail
 rw[←hw1]
 clear hw1
 refine(new_code B v _ (HC.out.below (HS.out.below.mono hB)) (Nat.le_trans hB HS.out.below.size)).mono ?_
 rintro e w2 ⟨c,rfl,hc,C2,G2⟩
 replace HS:Hid (Sta w w2 (CurI B c::Blk (w.heap.size+1) 32 #[.int .i64 0,.int .i64 0,.int .i64 0,.int .i64 0,.int .i64 0]::Blk w.heap.size 30 #[.slice none 0 0,.slice none 0 0,.slice none 0 0,.int .i64 0,.int .i64 0,.int .i64 0]::[])):=HS.out.newCur hB hc C2 G2
 clear C2 G2 hc HC
 go_wp2_with fail
 refine(l12Draw_any HS.out).mono ?_
 rintro e w3 ⟨a,b,q,off,n,cap,xs,ys,h,rfl,hx,hy,hk,S3⟩
 replace HS:Hid (Sta w w3 _):=S3
 clear S3
 obtain⟨ao,ac,rfl⟩:=(HS.out.readsU 1 rfl).form
 obtain⟨bo,bc,rfl⟩:=(HS.out.readsV 1 rfl).form
 unfold SRV srA
 obtain⟨w4,hw4⟩:∃w4,w4=w3.alloc (.cells #[.slice ao xs.length ac,.slice bo ys.length bc,.slice (some ⟨q,off,none⟩) n cap,.int .i64 h.kd,.int .i64 h.ho,.int .i64 h.tu] 30):=⟨_,rfl⟩
 replace HS:=HS.out.box 30 #[.slice ao xs.length ac,.slice bo ys.length bc,.slice (some ⟨q,off,none⟩) n cap,.int .i64 h.kd,.int .i64 h.ho,.int .i64 h.tu]
 rw[←hw4]at HS
 replace HS:Hid (Sta w w4 _):=HS
 go_upto_region 3 with fail
 rw[←hw4]
 clear hw4
 obtain⟨gd,hgd⟩:∃gd,gd=w3.heap.size:=⟨_,rfl⟩
 have hn0:gd≠w.heap.size:=by
  have h3:=HS.out.apart.1 (Blk w.heap.size 30 #[.slice none 0 0,.slice none 0 0,.slice none 0 0,.int .i64 0,.int .i64 0,.int .i64 0]) (by simp) w3.heap.size (by simp[Blk])
  rw[hgd]
  intro e
  exact h3 (by simp[Blk,e])
 have hn1:gd≠w.heap.size+1:=by
  have h3:=HS.out.apart.1 (Blk (w.heap.size+1) 32 #[.int .i64 0,.int .i64 0,.int .i64 0,.int .i64 0,.int .i64 0]) (by simp) w3.heap.size (by simp[Blk])
  rw[hgd]
  intro e
  exact h3 (by simp[Blk,e])
 rw[←hgd]at HS⊢
 clear hgd
 go_wp2_with fail
 refine(l8who_any B c w4 (HS.out.get 3 rfl)).mono ?_
 rintro e w5 ⟨i,rfl,C5,G5⟩
 replace HS:Hid (Sta w w5 _):=HS.out.cur 3 rfl C5 G5
 clear C5 G5
 go_upto_region 4 with fail
 have Z0:Hid (StB w5 gd 30 #[.slice ao xs.length ac,.slice bo ys.length bc,.slice (some ⟨q,off,none⟩) n cap,.int .i64 h.kd,.int .i64 h.ho,.int .i64 h.tu]):=HS.out.get 0 rfl
 have qq0:∀w',Sg gd w5 w'→w'.cell? ⟨gd,0,none⟩=some (.slice ao xs.length ac):=fun w' e=>e _ _ (Z0.out.cell 0 rfl)
 have qq1:∀w',Sg gd w5 w'→w'.cell? ⟨gd,1,none⟩=some (.slice bo ys.length bc):=fun w' e=>e _ _ (Z0.out.cell 1 rfl)
 have qq2:∀w',Sg gd w5 w'→w'.cell? ⟨gd,2,none⟩=some (.slice (some ⟨q,off,none⟩) n cap):=fun w' e=>e _ _ (Z0.out.cell 2 rfl)
 have qq3:∀w',Sg gd w5 w'→w'.cell? ⟨gd,3,none⟩=some (.int .i64 h.kd):=fun w' e=>e _ _ (Z0.out.cell 3 rfl)
 have qq4:∀w',Sg gd w5 w'→w'.cell? ⟨gd,4,none⟩=some (.int .i64 h.ho):=fun w' e=>e _ _ (Z0.out.cell 4 rfl)
 have qq5:∀w',Sg gd w5 w'→w'.cell? ⟨gd,5,none⟩=some (.int .i64 h.tu):=fun w' e=>e _ _ (Z0.out.cell 5 rfl)
 have HD:Hid (Sta w w5.drew _):=HS.out.drew1
 have hz:w.heap.size+1≠w.heap.size:=by omega
 go_region_held3 (fun w'=>Sg gd w5 w') ((repeat'(first|with_reducible assumption|with_reducible exact Sg.refl _ _|with_reducible refine Sg.dr ?_|with_reducible refine Sg.set ?_ hn0|with_reducible refine Sg.set ?_ hn1|with_reducible refine Sg.put ?_ (by with_reducible assumption) hn1|with_reducible refine Sg.put ?_ (by with_reducible assumption) hn0)))
  (first
   |(go_at_call 22;refine(l6any_any B c _ (HD.out.get 3 rfl)).mono ?_;rintro e w6 ⟨r,rfl,C6,G6⟩;have H6:Hid (Sta w w6 _):=HD.out.cur 3 rfl C6 G6;have Y6:Sg gd w5 w6:=Sg.of Z0.out (H6.out.get 0 rfl);have Z6:Hid (StB w6 (w.heap.size+1) 32 #[.int .i64 0,.int .i64 0,.int .i64 0,.int .i64 0,.int .i64 0]):=H6.out.get 4 rfl;clear C6 G6;unfold CV cmA;have s0:w6.cell? ⟨w.heap.size+1,0,none⟩=some (.int .i64 0):=Blk.cell (H6.out.get 4 rfl) 0 rfl;have e0:w6.frozen? ⟨w.heap.size+1,0,none⟩=false:=StB.frozen (H6.out.get 4 rfl) 0;have s1:w6.cell? ⟨w.heap.size+1,1,none⟩=some (.int .i64 0):=Blk.cell (H6.out.get 4 rfl) 1 rfl;have e1:w6.frozen? ⟨w.heap.size+1,1,none⟩=false:=StB.frozen (H6.out.get 4 rfl) 1;have s2:w6.cell? ⟨w.heap.size+1,2,none⟩=some (.int .i64 0):=Blk.cell (H6.out.get 4 rfl) 2 rfl;have e2:w6.frozen? ⟨w.heap.size+1,2,none⟩=false:=StB.frozen (H6.out.get 4 rfl) 2;have s3:w6.cell? ⟨w.heap.size+1,3,none⟩=some (.int .i64 0):=Blk.cell (H6.out.get 4 rfl) 3 rfl;have e3:w6.frozen? ⟨w.heap.size+1,3,none⟩=false:=StB.frozen (H6.out.get 4 rfl) 3;have s4:w6.cell? ⟨w.heap.size+1,4,none⟩=some (.int .i64 0):=Blk.cell (H6.out.get 4 rfl) 4 rfl;have e4:w6.frozen? ⟨w.heap.size+1,4,none⟩=false:=StB.frozen (H6.out.get 4 rfl) 4;have r0:w6.cell? ⟨w.heap.size,0,none⟩=some (.slice none 0 0):=Blk.cell (H6.out.get 5 rfl) 0 rfl;have f0:w6.frozen? ⟨w.heap.size,0,none⟩=false:=StB.frozen (H6.out.get 5 rfl) 0;have r1:w6.cell? ⟨w.heap.size,1,none⟩=some (.slice none 0 0):=Blk.cell (H6.out.get 5 rfl) 1 rfl;have f1:w6.frozen? ⟨w.heap.size,1,none⟩=false:=StB.frozen (H6.out.get 5 rfl) 1;have r2:w6.cell? ⟨w.heap.size,2,none⟩=some (.slice none 0 0):=Blk.cell (H6.out.get 5 rfl) 2 rfl;have f2:w6.frozen? ⟨w.heap.size,2,none⟩=false:=StB.frozen (H6.out.get 5 rfl) 2;have r3:w6.cell? ⟨w.heap.size,3,none⟩=some (.int .i64 0):=Blk.cell (H6.out.get 5 rfl) 3 rfl;have f3:w6.frozen? ⟨w.heap.size,3,none⟩=false:=StB.frozen (H6.out.get 5 rfl) 3;have r4:w6.cell? ⟨w.heap.size,4,none⟩=some (.int .i64 0):=Blk.cell (H6.out.get 5 rfl) 4 rfl;have f4:w6.frozen? ⟨w.heap.size,4,none⟩=false:=StB.frozen (H6.out.get 5 rfl) 4;have r5:w6.cell? ⟨w.heap.size,5,none⟩=some (.int .i64 0):=Blk.cell (H6.out.get 5 rfl) 5 rfl;have f5:w6.frozen? ⟨w.heap.size,5,none⟩=false:=StB.frozen (H6.out.get 5 rfl) 5))
 all_goals
  have q6:StB w6 w.heap.size 30 #[.slice none 0 0,.slice none 0 0,.slice none 0 0,.int .i64 0,.int .i64 0,.int .i64 0]:=H6.out.get 5 rfl
  have z6:StB w6 (w.heap.size+1) 32 #[.int .i64 0,.int .i64 0,.int .i64 0,.int .i64 0,.int .i64 0]:=H6.out.get 4 rfl
  have S6:=put6_st (.slice ao xs.length ac) (.slice bo ys.length bc) (.slice (some ⟨q,off,none⟩) n cap) h q6
  have G6:=put6_grown w6 w.heap.size (.slice ao xs.length ac) (.slice bo ys.length bc) (.slice (some ⟨q,off,none⟩) n cap) h
  have H7:=H6.out.turn 5 rfl (Turned.of_grown G6) (Blk w.heap.size 30 (srA (.slice ao xs.length ac) (.slice bo ys.length bc) (.slice (some ⟨q,off,none⟩) n cap) h)) rfl S6
  have S7:=put5_st r (z6.kept G6 (by simp))
  have G7:=put5_grown (put6 w6 w.heap.size (.slice ao xs.length ac) (.slice bo ys.length bc) (.slice (some ⟨q,off,none⟩) n cap) h) (w.heap.size+1) r
  have H8:=H7.turn 4 rfl (Turned.of_grown G7) (Blk (w.heap.size+1) 32 (cmA r)) rfl S7
  have HZ:Hid (StB (put5 (put6 w6 w.heap.size (.slice ao xs.length ac) (.slice bo ys.length bc) (.slice (some ⟨q,off,none⟩) n cap) h) (w.heap.size+1) r) w.heap.size 30 (srA (.slice ao xs.length ac) (.slice bo ys.length bc) (.slice (some ⟨q,off,none⟩) n cap) h)∧StB (put5 (put6 w6 w.heap.size (.slice ao xs.length ac) (.slice bo ys.length bc) (.slice (some ⟨q,off,none⟩) n cap) h) (w.heap.size+1) r) (w.heap.size+1) 32 (cmA r)∧Reads (put5 (put6 w6 w.heap.size (.slice ao xs.length ac) (.slice bo ys.length bc) (.slice (some ⟨q,off,none⟩) n cap) h) (w.heap.size+1) r) (.slice ao xs.length ac) xs∧Reads (put5 (put6 w6 w.heap.size (.slice ao xs.length ac) (.slice bo ys.length bc) (.slice (some ⟨q,off,none⟩) n cap) h) (w.heap.size+1) r) (.slice bo ys.length bc) ys∧Reads (put5 (put6 w6 w.heap.size (.slice ao xs.length ac) (.slice bo ys.length bc) (.slice (some ⟨q,off,none⟩) n cap) h) (w.heap.size+1) r) (.slice (some ⟨q,off,none⟩) n cap) h.ks∧Below w.heap.size w (put5 (put6 w6 w.heap.size (.slice ao xs.length ac) (.slice bo ys.length bc) (.slice (some ⟨q,off,none⟩) n cap) h) (w.heap.size+1) r)):=⟨S6.kept G7 (by simp),S7,H8.readsU 2 rfl,H8.readsV 2 rfl,H8.get 1 rfl,H8.below⟩
  obtain⟨wz,hwz⟩:∃wz,wz=put5 (put6 w6 w.heap.size (.slice ao xs.length ac) (.slice bo ys.length bc) (.slice (some ⟨q,off,none⟩) n cap) h) (w.heap.size+1) r:=⟨_,rfl⟩
  rw[←hwz]at HZ
  unfold put5 put6 at hwz
  rw[←hwz]
  clear hwz q6 z6 S6 G6 H7 S7 G7 H8
  go_wp2
  refine bodyPost_ret (results_SIC rfl _ _ w.heap.size (w.heap.size+1) (srA (.slice ao xs.length ac) (.slice bo ys.length bc) (.slice (some ⟨q,off,none⟩) n cap) h) _ r rfl rfl rfl rfl HZ.out.1 HZ.out.2.1) rfl ?_
  exact⟨_,_,_,xs,ys,h,_,r,rfl,hx,hy,hk,HZ.out.2.2⟩
end Go.Proofs.YtfngkbogcjodaaaGreatDoor
set_option maxRecDepth 20000
set_option maxHeartbeats 400000
namespace Go.Proofs.YtfngkbogcjodaaaGreatDoor
open Go.ChangeShapes Go.WideShapes Go.ChangeAt Go.RowKit
theorem drawNewStore_any (B:Nat) (v:Value) (w:World) (h:CodeOk w B v) (hB:B≤w.heap.size):
  Calls Tryz.prog 7 #[v] w fun e w'=>∃n,e=.returned (.int .i64 n)∧Below w.heap.size w w':=by
 go_enter Tryz.func7,Tryz.ntmps7
 go_wp2_with fail
 refine(drawNew8_any B v w h hB).mono ?_
 rintro e w' ⟨n,rfl,b⟩
 go_wp2_with fail
 go_ret
 exact⟨_,rfl,b⟩
end Go.Proofs.YtfngkbogcjodaaaGreatDoor
namespace Go.Proofs.YtfngkbogcjodaaaGreatDoor
open Go.RowKit
def cnt (p:Int→Bool):Nat→Nat
 |0=>0
 |j+1=>cnt p j+(if p j=true then 1 else 0)
theorem cnt_le (p:Int→Bool) (j:Nat):cnt p j≤j:=by
 induction j with
 |zero=>exact Nat.le_refl _
 |succ j ih=>unfold cnt;split<;>omega
theorem cnt_none (p:Int→Bool) (h:∀i,p i=false) (j:Nat):cnt p j=0:=by
 induction j with
 |zero=>rfl
 |succ j ih=>simp[cnt,ih,h]
theorem cnt_same (p q:Int→Bool) (h:∀i,p i=q i) (j:Nat):cnt p j=cnt q j:=by
 induction j with
 |zero=>rfl
 |succ j ih=>simp[cnt,ih,h]
theorem cnt_some (p:Int→Bool) (k:Nat) (h:p k=true) (j:Nat) (hj:k<j):0<cnt p j:=by
 induction j with
 |zero=>omega
 |succ j ih=>
  unfold cnt
  by_cases e:k=j
  ·subst e;rw[if_pos h];omega
  ·have:=ih (by omega);omega
theorem cnt_at (p:Int→Bool) (k:Nat) (h:∀i:Nat,p i=decide (i=k)) (j:Nat):cnt p j=if k<j then 1 else 0:=by
 induction j with
 |zero=>rfl
 |succ j ih=>
  unfold cnt
  rw[ih,h j]
  by_cases e:j=k
  ·subst e;simp
  ·simp[e];split<;>split<;>omega
theorem Hd.ok_parts {h:Hd} (e:h.ok=true):h.ks.length=4∧h.mid=true:=by
 unfold Hd.ok at e
 simp only[Bool.and_eq_true,decide_eq_true_eq]at e
 exact⟨e.1.1.1,e.2⟩
theorem Hd.not_ok {h:Hd} (e:h.ok=false) (i:Int) (w:Bool):h.Reg i=false∧h.Hol i=false∧h.May i w=false:=by
 simp[Hd.Reg,Hd.Hol,Hd.May,e]
theorem Hd.hol_none {h:Hd} (e:h.kd=0) (i:Int):h.Hol i=false:=by
 simp[Hd.Hol,Hd.holds,e]
theorem Hd.hol_all {h:Hd} (ok:h.ok=true) (ha:allI h.kd=true) (i:Int):h.Hol i=h.Reg i:=by
 have hm:=(Hd.ok_parts ok).2
 have hk:h.kd≠0:=by intro e;rw[e]at ha;cases ha
 unfold Hd.mid at hm
 rw[if_neg hk,if_pos ha]at hm
 simp only[Bool.and_eq_true,decide_eq_true_eq]at hm
 unfold Hd.Hol Hd.Reg Hd.holds
 cases hi:inI i 0 3 with
 |false=>simp
 |true=>
  have:=(inI_iff i 0 3).1 hi
  have hne:¬h.ho=i:=by omega
  simp[hk,hne,ha]
theorem Hd.hol_one {h:Hd} (ok:h.ok=true) (hk:h.kd≠0) (ha:allI h.kd=false):∃k:Nat,k<4∧h.ho=k∧regI h.ks h.ho=true∧∀i:Int,inI i 0 3=true→h.Hol i=decide (i=k):=by
 have hm:=(Hd.ok_parts ok).2
 unfold Hd.mid at hm
 rw[if_neg hk,if_neg (by rw[ha];decide)]at hm
 simp only[Bool.and_eq_true]at hm
 have hr:=(inI_iff _ _ _).1 hm.1.2
 refine⟨h.ho.toNat,by omega,by omega,hm.2,fun i hi=>?_⟩
 have hi':=(inI_iff _ _ _).1 hi
 unfold Hd.Hol Hd.holds
 rw[ok,hi,ha]
 by_cases e:h.ho=i
 ·have e2:i=((h.ho.toNat:Nat):Int):=by omega
  simp[hk,e]
  omega
 ·have e2:¬i=((h.ho.toNat:Nat):Int):=by omega
  simp[e]
  omega
theorem Hd.hol_reg {h:Hd} (i:Int) (e:h.Hol i=true):h.Reg i=true:=by
 have e':=e
 unfold Hd.Hol at e'
 simp only[Bool.and_eq_true]at e'
 obtain⟨⟨ok,hi⟩,hh⟩:=e'
 by_cases hk:h.kd=0
 ·rw[Hd.hol_none hk i]at e;cases e
 ·cases ha:allI h.kd with
  |true=>rw[←Hd.hol_all ok ha i];exact e
  |false=>
   obtain⟨k,hk4,hho,hr,hall⟩:=Hd.hol_one ok hk ha
   rw[hall i hi]at e
   have:i=h.ho:=by rw[hho];exact of_decide_eq_true e
   unfold Hd.Reg
   rw[ok,hi,this,hr];rfl
theorem Hd.hol_may {h:Hd} (i:Int) (w:Bool) (e:h.Hol i=true):h.May i w=true:=by
 unfold Hd.Hol at e
 simp only[Bool.and_eq_true]at e
 obtain⟨⟨ok,hi⟩,hh⟩:=e
 have hk:h.kd≠0:=by intro hk;simp[Hd.holds,hk]at hh
 have hm:=(Hd.ok_parts ok).2
 have hkind:kiI h.kd=true:=by
  unfold Hd.mid at hm
  rw[if_neg hk]at hm
  cases ha:allI h.kd with
  |true=>
   rcases kinds h.kd with h'|h'|h'|h'|h'|h'|h'|⟨hn, -⟩
   all_goals first|exact absurd h' hk|(rw[h'];rfl)|(rw[none_all _ hn]at ha;cases ha)
  |false=>
   rw[if_neg (by rw[ha];decide)]at hm
   simp only[Bool.and_eq_true]at hm
   exact hm.1.1
 unfold Hd.May Hd.may
 rw[ok,hi,hh,mayI_holds h.kd w _ hkind];rfl
theorem Hd.count {h:Hd} (ok:h.ok=true):(h.kd=0→cnt h.Hol 4=0)∧(h.kd≠0→allI h.kd=true→cnt h.Hol 4=cnt h.Reg 4∧0<cnt h.Reg 4)∧(h.kd≠0→allI h.kd=false→cnt h.Hol 4=1):=by
 refine⟨fun e=>cnt_none _ (Hd.hol_none e) 4,fun hk ha=>⟨cnt_same _ _ (Hd.hol_all ok ha) 4,?_⟩,fun hk ha=>?_⟩
 ·have hm:=(Hd.ok_parts ok).2
  have hl:=(Hd.ok_parts ok).1
  unfold Hd.mid at hm
  rw[if_neg hk,if_pos ha]at hm
  simp only[Bool.and_eq_true]at hm
  have ha2:=hm.2
  unfold anyI at ha2
  rw[List.any_eq_true]at ha2
  obtain⟨x,hx,hx2⟩:=ha2
  obtain⟨k,hk4,rfl⟩:=List.mem_iff_getElem.1 hx
  refine cnt_some _ k ?_ 4 (by omega)
  unfold Hd.Reg regI
  have h3:inI (k:Int) 0 3=true:=(inI_iff _ _ _).2 (by omega)
  rw[ok,h3]
  simp[hk4]at hx2⊢
  exact hx2
 ·obtain⟨k,hk4,hho,hr,hall⟩:=Hd.hol_one ok hk ha
  have e:cnt h.Hol 4=cnt (fun i=>decide (i=(k:Int))) 4:=by
   have h0:=hall 0 (by decide)
   have h1:=hall 1 (by decide)
   have h2:=hall 2 (by decide)
   have h3:=hall 3 (by decide)
   simp[cnt,h0,h1,h2,h3]
  rw[e,cnt_at _ k (fun i=>by simp;omega) 4,if_pos hk4]
end Go.Proofs.YtfngkbogcjodaaaGreatDoor
namespace Go.Proofs.YtfngkbogcjodaaaGreatDoor
open Go.RowKit
theorem any_iff {ks:List Int}:anyI ks=true↔∃j,j<ks.length∧ks.getD j 0≠0:=by
 constructor
 ·intro h
  unfold anyI at h
  obtain⟨x,hx,h0⟩:=List.any_eq_true.1 h
  obtain⟨j,hj,rfl⟩:=List.getElem_of_mem hx
  exact⟨j,hj,by simpa[hj]using h0⟩
 ·rintro⟨j,hj,h⟩
  exact any_at ks j hj h
theorem keys_iff {ks:List Int}:keysI ks=true↔∀j,j<ks.length→0≤ks.getD j 0∧ks.getD j 0≤9999:=by
 constructor
 ·intro h j hj
  unfold keysI at h
  have:=List.all_eq_true.1 h ks[j] (List.getElem_mem hj)
  rw[inI_iff]at this
  simpa[hj]using this
 ·intro h
  unfold keysI
  rw[List.all_eq_true]
  intro x hx
  obtain⟨j,hj,rfl⟩:=List.getElem_of_mem hx
  have:=h j hj
  rw[inI_iff]
  simpa[hj]using this
theorem mid_iff {h:Hd}:h.mid=true↔(h.kd=0∧h.ho= -1)∨(h.kd≠0∧allI h.kd=true∧h.ho= -1∧anyI h.ks=true)∨(h.kd≠0∧allI h.kd=false∧kiI h.kd=true∧(0≤h.ho∧h.ho≤3)∧h.ks.getD h.ho.toNat 0≠0):=by
 unfold Hd.mid regI
 by_cases h0:h.kd=0
 ·simp[h0]
 ·cases ha:allI h.kd
  ·simp[h0,Bool.and_eq_true,inI_iff,and_assoc]
  ·simp[h0]
theorem ok_iff {h:Hd}:h.ok=true↔h.ks.length=4∧(0≤h.tu∧h.tu≤1000000000)∧keysI h.ks=true∧h.mid=true:=by
 unfold Hd.ok
 simp[Bool.and_eq_true,inI_iff,and_assoc]
theorem getD_setK {ks:List Int} {j m:Nat} {x:Int} (hj:j<ks.length):(ks.set j x).getD m 0=if m=j then x else ks.getD m 0:=by
 by_cases e:m=j
 ·subst e;simp[hj]
 ·rw[if_neg e]
  simp only[List.getD_eq_getElem?_getD]
  rw[List.getElem?_set_ne (Ne.symm e)]
theorem list_ext {xs ys:List Int} (hl:xs.length=ys.length) (h:∀j,j<xs.length→xs.getD j 0=ys.getD j 0):xs=ys:=by
 apply List.ext_getElem hl
 intro j h1 h2
 have:=h j h1
 simpa[h1,h2]using this
theorem turn_mod (t:Int) (h0:0≤t) (h1:t≤1000000000):turnI t=(t+1)%1000000001:=by
 unfold turnI;split<;>omega
theorem regd_ks (h:Hd) (i key:Int):(h.regd i key).ks=h.ks.set i.toNat key:=by
 unfold Hd.regd;split<;>rfl
theorem regd_tu (h:Hd) (i key:Int):(h.regd i key).tu=turnI h.tu:=by
 unfold Hd.regd;split<;>rfl
theorem regd_ok {h:Hd} (ok:h.ok=true) {i key:Int} (hi:0≤i∧i≤3) (hk:0≤key∧key≤9999):(h.regd i key).ok=true∧((h.regd i key).kd=h.kd∨key=0∧(h.regd i key).kd=0):=by
 obtain⟨hl,ht,hks,hm⟩:=ok_iff.1 ok
 have hi4:i.toNat<h.ks.length:=by omega
 have hany:key≠0→anyI (h.ks.set i.toNat key)=true:=fun hk0=>any_iff.2 ⟨i.toNat,by simpa using hi4,by rw[getD_setK hi4,if_pos rfl];exact hk0⟩
 have hkeys:keysI (h.ks.set i.toNat key)=true:=keys_iff.2 fun j hj=>by
  rw[getD_setK hi4]
  split
  ·exact hk
  ·exact keys_iff.1 hks j (by simpa using hj)
 have htu:=turnI_in h.tu ht.1 ht.2
 constructor
 ·rw[ok_iff,regd_ks,regd_tu]
  refine⟨by simpa using hl,htu,hkeys,?_⟩
  unfold Hd.regd
  split
  ·rw[mid_iff];exact .inl ⟨rfl,rfl⟩
  ·rename_i c
   rw[mid_iff]
   simp only[Hd.turn,Hd.key]
   rcases mid_iff.1 hm with m|m|m
   ·exact .inl m
   ·refine .inr (.inl ⟨m.1,m.2.1,m.2.2.1,?_⟩)
    by_cases hk0:key=0
    ·cases ha:anyI (h.ks.set i.toNat key)
     ·exact absurd ⟨hk0,.inr ha⟩ c
     ·rfl
    ·exact hany hk0
   ·refine .inr (.inr ⟨m.1,m.2.1,m.2.2.1,m.2.2.2.1,?_⟩)
    rw[getD_setK hi4]
    split
    ·rename_i e
     intro hk0
     exact c ⟨hk0,.inl (by have:=m.2.2.2.1;omega)⟩
    ·exact m.2.2.2.2
 ·unfold Hd.regd
  split
  ·rename_i c;exact .inr ⟨c.1,rfl⟩
  ·exact .inl rfl
theorem register_cases (h:Hd) (i key:Int):h.register i key=(Hd.zero,2)∨(h.ok=true∧(0≤i∧i≤3)∧(0≤key∧key≤9999)∧h.register i key=(h.regd i key,0)):=by
 unfold Hd.register
 by_cases c:(h.ok&&inI i 0 3&&inI key 0 9999)=true
 ·rw[if_pos c]
  simp only[Bool.and_eq_true,inI_iff]at c
  exact .inr ⟨c.1.1,c.1.2,c.2,rfl⟩
 ·rw[if_neg c];exact .inl rfl
theorem clear_cases (h:Hd) (i:Int):(∃t,h.clear i=(⟨[0,0,0,0],0, -1,t⟩,0))∨(h.clear i=(h,1)∧h.Reg i=false)∨h.clear i=(Hd.zero,2):=by
 unfold Hd.clear
 by_cases c:(h.ok&&inI i 0 3)=true
 ·rw[if_pos c]
  unfold Hd.clrd
  cases hr:regI h.ks i
  ·rw[if_pos rfl];exact .inr (.inl ⟨rfl,by simp[Hd.Reg,hr]⟩)
  ·rw[if_neg (by decide)];exact .inl ⟨_,rfl⟩
 ·rw[if_neg c];exact .inr (.inr rfl)
theorem acts_none {h:Hd} (ok:h.ok=true) {i:Int} (hr:h.Reg i=false) (hi:inI i 0 3=true) (k key kind:Int) (h1:inI key 1 9999=true) (h2:kiI kind=true):
  h.reserve i k=(if kiI k=true then(h,1)else(Hd.zero,2))∧h.release i=(h,1)∧h.clear i=(h,1)∧h.preempt i key kind=(h,1):=by
 have hg:regI h.ks i=false:=by simpa[Hd.Reg,ok,hi]using hr
 refine⟨?_,?_,?_,?_⟩
 ·cases hk:kiI k<;>simp[Hd.reserve,ok,hi,hk,Hd.resd,hg,told]
 ·simp[Hd.release,ok,hi,Hd.reld,hg,told]
 ·simp[Hd.clear,ok,hi,Hd.clrd,hg,told]
 ·simp[Hd.preempt,ok,hi,h1,h2,Hd.pred,hg,told]
theorem acts_out {h:Hd} {i:Int} (hi:inI i 0 3=false) (k key kind:Int):h.reserve i k=(Hd.zero,2)∧h.release i=(Hd.zero,2)∧h.clear i=(Hd.zero,2)∧h.preempt i key kind=(Hd.zero,2):=by
 simp[Hd.reserve,Hd.release,Hd.clear,Hd.preempt,hi]
end Go.Proofs.YtfngkbogcjodaaaGreatDoor
