import Derived.Test.YtpdggofaobmnlaaGreatDoorIStoG
import Derived.Test.YtpdggofaobmnlaaGreatDoorM10
import Derived.Test.YtpdggofaobmnlaaGreatDoorM18
import Derived.Test.YtpdggofaobmnlaaGreatDoorM26
import Derived.Lib.ParseIntBTie
import Derived.Test.YtpdggofaobmnlaaGreatDoorM31
import Derived.Test.YtpdggofaobmnlaaGreatDoorM22
import Derived.Test.YtpdggofaobmnlaaGreatDoorM25
import Derived.Test.YtpdggofaobmnlaaGreatDoorM28
import Derived.ChangeKeysEq
/- What the program's store answers by commands is what the model says, as plain lists and numbers. -/
set_option maxRecDepth 20000
set_option maxHeartbeats 2000000
namespace Go.Proofs.YtpdggofaobmnlaaGreatDoor
open Go.ChangeShapes Go.WideShapes Go.ChangeAt Go.RowKit
theorem Cm.ok_six {c:Cm} (h:c.ok=true) (h6:5<c.o):(c.o=6∧inI c.a 0 9999=true)∨(c.o=7∧kiI c.k=true)∨c.o=8∨c.o=9∨(c.o=10∧inI c.a 0 9999=true∧kiI c.k=true)∨c.o=11∨c.o=12:=by
 obtain⟨o,p,a,b,k⟩:=c
 unfold Cm.ok Cm.told Cm.fits at h
 dsimp only at h h6
 dsimp only
 simp only[kiI,Bool.and_eq_true,Bool.or_eq_true,decide_eq_true_eq,inI_iff]at h⊢
 obtain⟨⟨⟨⟨⟨h1,h2⟩,h3⟩,h4⟩,h5⟩,h7⟩:=h
 by_cases e6:o=6
 ·subst e6;simp[inI_iff]at*;omega
 by_cases e7:o=7
 ·subst e7;simp[inI_iff]at*;omega
 by_cases e10:o=10
 ·subst e10;simp[inI_iff]at*;omega
 omega
theorem didD_low {xs ys:List Int} {c:Cm} (hb:bothOk xs ys=true) (hc:c.ok=true) (h5:c.o≤5):didD xs ys c=didI xs ys c:=by simp[didD,hb,hc,h5]
theorem didI_sts (xs ys:List Int) (c:Cm):(didI xs ys c).2.2.st=0∨((didI xs ys c).2.2.st=1∧(didI xs ys c).2.2.tx=[])∨(didI xs ys c).2.2.st=2∨((didI xs ys c).2.2.st=7∧(didI xs ys c).2.2.tx=[]):=by
 unfold didI
 split
 ·exact .inl rfl
 ·split
  ·exact .inr (.inl ⟨rfl,rfl⟩)
  ·split
   ·exact .inl rfl
   ·split
    ·exact .inl rfl
    ·split
     ·split
      ·exact .inl rfl
      ·exact .inr (.inr (.inl rfl))
     ·exact .inl rfl
theorem conf_told (r:Hd×Bool):acSt (told r).2=(conf r).2.st∧(conf r).2.tx=[]∧(told r).1=(conf r).1∧((conf r).2.st=0∨(conf r).2.st=1∨(conf r).2.st=3):=by
 obtain⟨a,b⟩:=r
 cases b<;>simp[told,conf,acSt]
theorem after_act {h:Hd} {i:Int} {c:Cm} (ok:h.ok=true) (hi:inI i 0 3=true) (hc:c.ok=true) (h6:5<c.o) (h11:c.o≠11) (h12:c.o≠12):
  acSt (h.after i c).2=(h.act i c).2.st∧(h.act i c).2.tx=[]∧((h.act i c).2.st=0→(h.after i c).1=(h.act i c).1)∧((h.act i c).2.st=0∨(h.act i c).2.st=1∨(h.act i c).2.st=3):=by
 rcases Cm.ok_six hc h6 with⟨e,k⟩|⟨e,k⟩|e|e|⟨e,k,k'⟩|e|e
 ·simp[Hd.after,Hd.act,e,Hd.register,ok,hi,k,acSt]
 ·have:=conf_told (h.resd i c.k)
  simp only[Hd.after,Hd.act,e,Hd.reserve,ok,hi,k]
  exact⟨this.1,this.2.1,fun _=>this.2.2.1,this.2.2.2⟩
 ·have:=conf_told (h.reld i)
  simp only[Hd.after,Hd.act,e,Hd.release,ok,hi]
  exact⟨this.1,this.2.1,fun _=>this.2.2.1,this.2.2.2⟩
 ·have:=conf_told (h.clrd i)
  simp only[Hd.after,Hd.act,e,Hd.clear,ok,hi]
  exact⟨this.1,this.2.1,fun _=>this.2.2.1,this.2.2.2⟩
 ·by_cases h0:c.a=0
  ·simp[Hd.after,Hd.act,e,Hd.preempt,ok,h0,acSt,inI]
  ·have k1:inI c.a 1 9999=true:=by
    have:=(inI_iff _ _ _).1 k
    exact(inI_iff _ _ _).2 (by omega)
   have:=conf_told (h.pred i c.a c.k)
   simp only[Hd.after,Hd.act,e,Hd.preempt,ok,hi,k',k1,h0]
   exact⟨this.1,this.2.1,fun _=>this.2.2.1,this.2.2.2⟩
 ·exact absurd e h11
 ·exact absurd e h12
theorem may_May {h:Hd} {i:Int} (ok:h.ok=true) (hi:inI i 0 3=true) (b:Bool):h.May i b=h.may i b:=by simp[Hd.May,ok,hi]
theorem wr_ne {c:Cm} (hc:c.ok=true) (h5:c.o≤5):c.wr=decide (c.o≠1):=by
 obtain⟨ho, -⟩:=Cm.ok_vol hc h5
 unfold Cm.wr
 rw[hc]
 rcases ho with e|e|e|e|e<;>rw[e]<;>rfl
theorem rdwr {c:Cm} (hc:c.ok=true):(c.rd||c.wr)=decide (c.o≤5):=by
 unfold Cm.rd Cm.wr
 rw[hc]
 by_cases h5:c.o≤5
 ·obtain⟨ho, -⟩:=Cm.ok_vol hc h5
  rw[decide_eq_true h5]
  rcases ho with e|e|e|e|e<;>rw[e]<;>rfl
 ·rw[decide_eq_false h5]
  have e1:decide (c.o=1)=false:=by simp;omega
  have e2:inI c.o 2 5=false:=by
   cases e:inI c.o 2 5 with
   |false=>rfl
   |true=>have:=(inI_iff _ _ _).1 e;omega
  rw[e1,e2]
  rfl
end Go.Proofs.YtpdggofaobmnlaaGreatDoor
namespace Go.Proofs.YtpdggofaobmnlaaGreatDoor
open Go.ChangeShapes Go.WideShapes Go.ChangeAt Go.RowKit
end Go.Proofs.YtpdggofaobmnlaaGreatDoor
namespace Go.Proofs.YtpdggofaobmnlaaGreatDoor
open Go.ChangeShapes Go.WideShapes Go.ChangeAt Go.RowKit
theorem readH_len {s:Bs} (h:(splitB 32 s).length≠7):readH s=none:=by
 unfold readH;rw[if_neg (fun c=>h c.1.1)]
theorem readH_num {s:Bs} {j:Nat} (hj:j<(splitB 32 s).length) (h:okT ((splitB 32 s).getD j [])=false):readH s=none:=by
 unfold readH
 rw[if_neg]
 rintro⟨⟨-,c⟩, -⟩
 have:=List.all_eq_true.1 c _ (List.getElem_mem hj)
 have e:(splitB 32 s).getD j []=(splitB 32 s)[j]:=by simp[hj]
 rw[e,this]at h
 cases h
theorem readH_bad {s:Bs} (h:(hdOf ((splitB 32 s).map numT)).ok=false):readH s=none:=by
 unfold readH;rw[if_neg (fun c=>by rw[c.2]at h;cases h)]
theorem readH_good {s:Bs} (h1:(splitB 32 s).length=7) (h2:(splitB 32 s).all okT=true) (h3:(hdOf ((splitB 32 s).map numT)).ok=true):readH s=some (hdOf ((splitB 32 s).map numT)):=by
 unfold readH;rw[if_pos ⟨⟨h1,h2⟩,h3⟩]
theorem readH_not {s:Bs} (h:readH s=none):readD s=Hd.zero∧readY s=false:=by simp[readD,readY,h]
theorem readH_yes {s:Bs} {g:Hd} (h:readH s=some g):readD s=g∧readY s=true:=by simp[readD,readY,h]
theorem allT_take {ws:List Bs} {j:Nat} (h:(ws.take j).all okT=true) (hj:j<ws.length) (h2:okT (ws.getD j [])=true):(ws.take (j+1)).all okT=true:=by
 rw[List.take_succ_eq_append_getElem hj,List.all_append,h]
 have:ws.getD j []=ws[j]:=by simp[hj]
 rw[this]at h2
 simp[h2]
theorem numsT_take {ws:List Bs} {j:Nat} (hj:j<ws.length):(ws.take (j+1)).map numT=(ws.take j).map numT++[numT (ws.getD j [])]:=by
 rw[List.take_succ_eq_append_getElem hj,List.map_append]
 simp[hj]
theorem splitB_partN (c:UInt8) (s:Bs):∀p∈splitB c s,p.length≤s.length:=by
 induction s with
 |nil=>intro p hp;simp[splitB]at hp;subst hp;simp
 |cons b t ih=>
  intro p hp
  rw[splitB]at hp
  split at hp
  ·rcases List.mem_cons.1 hp with rfl|hp
   ·simp
   ·have:=ih p hp;simp;omega
  ·cases hs:splitB c t with
   |nil=>exact absurd hs (splitB_ne c t)
   |cons q qs=>
    rw[hs]at hp ih
    simp only[ahead]at hp
    rcases List.mem_cons.1 hp with rfl|hp
    ·have:=ih q (by simp);simp;omega
    ·have:=ih p (by simp[hp]);simp;omega
def zeH:Array Value:=#[.slice none 0 0,.int .i64 0,.int .i64 0,.int .i64 0]
theorem cell_put4' {w:World} {g k:Nat} (hne:g≠k) {j:Nat} {a b c d x:Value} (h:w.cell? ⟨g,j,none⟩=some x):
  ((((w.setCell ⟨k,0,none⟩ a).setCell ⟨k,1,none⟩ b).setCell ⟨k,2,none⟩ c).setCell ⟨k,3,none⟩ d).cell? ⟨g,j,none⟩=some x:=by
 rw[World.cell?_setCell_far _ _ _ _ (Ne.symm hne),World.cell?_setCell_far _ _ _ _ (Ne.symm hne),World.cell?_setCell_far _ _ _ _ (Ne.symm hne),World.cell?_setCell_far _ _ _ _ (Ne.symm hne),h]
end Go.Proofs.YtpdggofaobmnlaaGreatDoor
namespace Go.Proofs.YtpdggofaobmnlaaGreatDoor
open Go.RowKit
def valN (acc:Nat) (l:Bs):Nat:=l.foldl (fun n b=>n*10+(b.toNat-48)) acc
theorem isDig_nat {b:UInt8} (h:isDig b=true):48≤b.toNat∧b.toNat≤57:=by
 have:=(isDig_iff b).1 h
 unfold byteI at this
 omega
theorem val_nat (l:Bs) (h:l.all isDig=true):∀acc:Nat,l.foldl (fun n b=>n*10+(byteI b-48)) (acc:Int)=(valN acc l:Int):=by
 induction l with
 |nil=>intro acc;rfl
 |cons b l ih=>
  intro acc
  rw[List.all_cons,Bool.and_eq_true]at h
  have hb:=isDig_nat h.1
  have e:(acc:Int)*10+(byteI b-48)=((acc*10+(b.toNat-48):Nat):Int):=by unfold byteI;omega
  rw[List.foldl_cons,e,ih h.2]
  rfl
theorem parseM_digs (l:Bs) (h:l.all isDig=true):∀acc:Nat,(acc+1)*10^l.length≤100000000000→Lib.parseUintM (2^64-1) acc l=.ok (valN acc l):=by
 induction l with
 |nil=>intro acc _;rfl
 |cons b l ih=>
  intro acc hb
  rw[List.all_cons,Bool.and_eq_true]at h
  have hd:=isDig_nat h.1
  rw[List.length_cons,Nat.pow_succ]at hb
  have hp:1≤10^l.length:=Nat.pow_pos (by omega)
  have h1:(acc+1)*10≤(acc+1)*(10^l.length*10):=Nat.mul_le_mul_left _ (by omega)
  have h2:(acc*10+(b.toNat-48)+1)*10^l.length≤(acc+1)*(10^l.length*10):=by
   rw[show(acc+1)*(10^l.length*10)=((acc+1)*10)*10^l.length by rw[Nat.mul_comm (10^l.length) 10,Nat.mul_assoc]]
   exact Nat.mul_le_mul_right _ (by omega)
  have e64:(2:Nat)^64-1=18446744073709551615:=by decide
  rw[Lib.parseUintM,if_pos hd,if_neg (by omega),if_neg (by rw[e64];omega),ih h.2 _ (by omega)]
  rfl
theorem parseB_digs (l:Bs) (h:l.all isDig=true) (h0:l≠[]) (hl:l.length≤10):∃u:Nat,Lib.parseUintB 64 l=.ok u∧(u:Int)=val l∧u<10000000000:=by
 have hb:(0+1)*10^l.length≤100000000000:=by
  have:=Nat.pow_le_pow_right (show 0<10 by omega) hl
  omega
 refine⟨valN 0 l,?_,(val_nat l h 0).symm,?_⟩
 ·rw[Lib.parseUintB,if_neg h0,parseM_digs l h 0 hb]
 ·have h1:=val_ten l h hl
  have h2:=val_nat l h 0
  unfold val at h1
  rw[show((0:Nat):Int)=0 from rfl]at h2
  rw[h2]at h1
  omega
theorem parse_okT (l:Bs) (h:okT l=true):Lib.parseIntB 64 l=.ok (numT l):=by
 have ok:=h
 rw[okT_iff]at h
 obtain⟨h1,h2,h3, -⟩:=h
 have hne:digs l≠[]:=by intro e;rw[e]at h1;simp at h1
 obtain⟨u,hu,hv,hlt⟩:=parseB_digs (digs l) h3 hne h2
 have e63:(2:Nat)^(64-1)=9223372036854775808:=by decide
 unfold numT
 rw[if_pos ok]
 cases hng:neg l with
 |true=>
  cases l with
  |nil=>simp[neg]at hng
  |cons b t=>
   have hb:b=45:=by simpa[neg]using hng
   subst hb
   have hd:digs (45::t)=t:=by simp[digs,offN,neg]
   rw[hd]at hu hv
   rw[Lib.parseIntB_minus,hu,hd,←hv]
   simp only[Lib.signedC,e63]
   rw[if_neg (by omega)]
   simp
 |false=>
  have hd:digs l=l:=by simp[digs,offN,hng]
  rw[hd]at hu hv h3 hne
  cases l with
  |nil=>exact absurd rfl hne
  |cons b t=>
   rw[List.all_cons,Bool.and_eq_true]at h3
   have hb:=isDig_nat h3.1
   rw[Lib.parseIntB_plain 64 b t (by omega) (by omega),hu,hd,←hv]
   simp only[Lib.signlessC,e63]
   rw[if_neg (by omega)]
   simp
def pOk (l:Bs):Bool:=match Lib.parseIntB 64 l with| .ok _=>true|_=>false
def pNum (l:Bs):Int:=match Lib.parseIntB 64 l with| .ok v=>v|_=>0
theorem pOk_okT {l:Bs} (h:okT l=true):pOk l=true∧pNum l=numT l:=by simp[pOk,pNum,parse_okT l h]
theorem okT_pOk {l:Bs} (h:pOk l=false):okT l=false:=by
 cases e:okT l with
 |false=>rfl
 |true=>rw[(pOk_okT e).1]at h;cases h
theorem pNum_fits (l:Bs): -9223372036854775808≤pNum l∧pNum l≤9223372036854775807:=by
 unfold pNum
 split
 ·rename_i v h
  have:=Lib.parseIntB_bounds h
  have e63:(2:Nat)^(64-1)=9223372036854775808:=by decide
  rw[e63]at this
  omega
 ·omega
def words7 (s:Bs):List Bs:=splitN 32 (min 8 (s.length+1)-1) s
theorem words7_or (s:Bs):words7 s=splitB 32 s∨((words7 s).length≠7∧(splitB 32 s).length≠7):=by
 unfold words7
 rcases splitN_or 32 (min 8 (s.length+1)-1) s with e|⟨e1,e2⟩
 ·exact .inl e
 ·right
  have:=splitB_len 32 s
  omega
theorem words7_len {s:Bs} (h:(words7 s).length≠7):readH s=none:=by
 rcases words7_or s with e|e
 ·rw[e]at h;exact readH_len h
 ·exact readH_len e.2
theorem words7_eq {s:Bs} (h:(words7 s).length=7):words7 s=splitB 32 s:=by
 rcases words7_or s with e|e
 ·exact e
 ·exact absurd h e.1
theorem words7_bad {s:Bs} {j:Nat} (h:(words7 s).length=7) (hj:j<7) (hp:pOk ((words7 s).getD j [])=false):readH s=none:=by
 rw[words7_eq h]at hp h
 exact readH_num (j:=j) (by omega) (okT_pOk hp)
def seven (s:Bs):Hd:=hdOf ((words7 s).map pNum)
theorem seven_yes {s:Bs} (h:(words7 s).length=7) (hs:(seven s).showT=s):readH s=some (seven s):=by
 have hne:s≠[]:=by rintro rfl;exact absurd h (by decide)
 unfold Hd.showT at hs
 cases e:(seven s).ok with
 |false=>rw[e]at hs;exact absurd hs.symm hne
 |true=>
  rw[e,if_pos rfl]at hs
  have:=readH_show e
  rwa[hs]at this
theorem seven_no {s:Bs} (h:(words7 s).length=7) (hs:(seven s).showT≠s):readH s=none:=by
 cases e:readH s with
 |none=>rfl
 |some g=>
  exfalso
  obtain⟨hok,hsh⟩:=showH_read e
  have e2:=e
  unfold readH at e2
  split at e2
  ·rename_i c
   simp only[Option.some.injEq]at e2
   have hg:seven s=g:=by
    rw[←e2]
    unfold seven
    rw[words7_eq h]
    congr 1
    apply List.map_congr_left
    intro b hb
    exact(pOk_okT (List.all_eq_true.1 c.1.2 b hb)).2
   apply hs
   rw[hg]
   unfold Hd.showT
   rw[hok,if_pos rfl,hsh]
  ·cases e2
end Go.Proofs.YtpdggofaobmnlaaGreatDoor
namespace Go.Proofs.YtpdggofaobmnlaaGreatDoor
open Go.ChangeShapes Go.WideShapes Go.ChangeAt Go.RowKit
def ErrAt (w:World) (g:Nat):Prop:=∃t p,w.cell? ⟨g,0,none⟩=some (.iface t p)
theorem ErrAt.below {w w':World} {g:Nat} (h:ErrAt w g) (b:Below w.heap.size w w'):ErrAt w' g:=by
 obtain⟨t,p,h⟩:=h
 exact⟨t,p,by rw[b.cell (p:=⟨g,0,none⟩) (World.block_lt_of_cell? w _ h)];exact h⟩
end Go.Proofs.YtpdggofaobmnlaaGreatDoor
namespace Go.Proofs.YtpdggofaobmnlaaGreatDoor
open Go.ChangeShapes Go.WideShapes Go.ChangeAt Go.RowKit
theorem Tryz.cellsI1:Tryz.prog.cellsOf 2=1:=by kernel_rfl
theorem Tryz.plainI1:Tryz.prog.plainKey 2=true:=by kernel_rfl
theorem idxKt (f:Nat→Int) (j:Nat) (hj:j<4) (w:World):(Instr.index 104 (.agg #[.int .i64 (f 0),.int .i64 (f 1),.int .i64 (f 2),.int .i64 (f 3)]) (.int .i64 (j:Int))).run Tryz.prog w=.ok (.int .i64 (f j)) w:=by
 obtain⟨i0,hi,hz0,hz1,hz2⟩:=info_parts Tryz.infoI
 have h1:(0:Int)≤(j:Int)∧(j:Int)<((4:Nat):Int):=by omega
 have h2:((j:Int)).toNat*1=j:=by omega
 simp only[Instr.index,asIntOf,run_underlying Tryz.underlying104,Sem.run_bind,Sem.run_pure,Result.andThen_ok,h1,and_self,if_true,run_sizeOf w hi,Tryz.cellsI1,h2]
 exact run_part_plain w Tryz.plainI1 (kA_at f j hj)
theorem keys_first (ks:List Int) (tu x:Int) (j:Nat) (hj:j<ks.length) (hx:x=ks.getD j 0) (h0:x=0) (xs:List Int) (h:xs=tu::(ks.take j).filter (fun k=>decide (k≠0))):xs=tu::(ks.take (j+1)).filter (fun k=>decide (k≠0)):=by
 have e:ks[j]=0:=by rw[←h0,hx];simp[hj]
 rw[h,List.take_succ_eq_append_getElem hj,List.filter_append,e]
 simp
theorem keys_next (ks:List Int) (tu x:Int) (j:Nat) (hj:j<ks.length) (hx:x=ks.getD j 0) (h0:¬x=0) (xs:List Int) (h:xs=tu::(ks.take j).filter (fun k=>decide (k≠0))):xs++[x]=tu::(ks.take (j+1)).filter (fun k=>decide (k≠0)):=by
 have e:ks[j]=x:=by rw[hx];simp[hj]
 rw[h,List.take_succ_eq_append_getElem hj,List.filter_append,e]
 simp[h0]
theorem ikeysof_any (v:Value) (h:Hd) (w:World) (hr:Reads w v h.ks) (hl:h.ks.length≤1099511627776) (ht:Tab w):
  Calls Tryz.prog 76 #[HV v h] w fun e w'=>e=.returned (S h.keysT)∧Below w.heap.size w w':=by
 obtain⟨i0,hi,hz0,hz1,hz2⟩:=info_parts Tryz.infoI
 have b1:Below w.heap.size w (w.alloc (.cells (hdA v h) 28)):=(Below.refl _ _).alloc (Nat.le_refl _) _
 have c1:=iheldof_any v h _ (hr.below b1 (Nat.le_refl _)) hl
 obtain⟨ao,cap,rfl⟩:=reads_form hr
 obtain⟨ok,hok⟩:∃ok,ok=h.ok:=⟨_,rfl⟩
 obtain⟨f,x,y,z,hf,hfo⟩:=heldV_form h
 have HE:Hid (h.keysT=if ok then intsB h.keysN else[]):=by rw[Hid,hok];rfl
 have HF:Hid (ok=true→f=KF h.ks∧z=h.tu∧h.ks.length=4∧Fits64 h.keysN):=fun e=>by
  rw[hok]at e
  exact⟨(hfo e).1,(hfo e).2.2.2,(Hd.ok_all e).1,Hd.ok_fitsK e⟩
 rw[←hok]at c1
 rw[hf]at c1
 have HT:Hid (Tab w):=ht
 clear hok hf hfo hr hl ht
 unfold HV hdA at*
 unfold S
 go_enter Tryz.func76,Tryz.ntmps76
 go_wp2_with fail
 refine c1.mono ?_
 rintro e w2 ⟨rfl,b2⟩
 have HB2:Hid (Below w.heap.size w w2):=b1.trans (b2.mono b1.size)
 have z2:Hid (StB (w2.alloc (.cells (heA (fun _=>0) 0 0 0) 106)) w2.heap.size 106 (heA (fun _=>0) 0 0 0)):=StB.new _ _ _
 clear c1 b1 b2
 cases ok with
 |false=>
  go_wp2_with (first|(refine wpList_putS Tryz.isHeld rfl _ _ rfl w2.heap.size (heA f x y z) _ rfl rfl rfl rfl (heA_one _ _ _ _) z2.out ?_;intro w3 h3 g3))
  go_ret
  rw[HE.out]
  exact⟨rfl,HB2.out.trans (((Below.refl _ _).alloc (Nat.le_refl _) _ |>.grown g3 (by simp) (fun k e=>by cases e;exact Nat.le_refl _)).mono HB2.out.size)⟩
 |true=>
  obtain⟨hf,hz,hl,fk⟩:=HF.out rfl
  rw[if_pos rfl]at HE
  have HFF:Hid (f=KF h.ks):=hf
  have HL:Hid (h.ks.length=4):=hl
  have FK:Hid (Fits64 h.keysN):=fk
  subst hz
  clear HF hf hl fk
  go_upto_region 4 with(first|(refine wpList_putS Tryz.isHeld rfl _ _ rfl w2.heap.size (heA f x y h.tu) _ rfl rfl rfl rfl (heA_one _ _ _ _) z2.out ?_;intro w3 h3 g3))
  have HB3:Hid (Below w.heap.size w w3):=HB2.out.trans (((Below.refl _ _).alloc (Nat.le_refl _) _ |>.grown g3 (by simp) (fun k e=>by cases e;exact Nat.le_refl _)).mono HB2.out.size)
  have H3:Hid (StB w3 w2.heap.size 106 (heA f x y h.tu)):=h3
  obtain⟨w4,hw4⟩:∃w4,w4=w3.alloc (.cells #[.int .i64 h.tu] 2):=⟨_,rfl⟩
  have H4:Hid (StB w4 w2.heap.size 106 (heA f x y h.tu)):=by rw[hw4];exact h3.alloc _
  have O4:Hid (Own w4 w3.heap.size (.slice (some ⟨w3.heap.size,0,none⟩) 1 1) [h.tu]):=by rw[hw4];exact own_one w3 h.tu
  have B4:Hid (Below w3.heap.size w3 w4):=by rw[hw4];exact(Below.refl _ _).alloc (Nat.le_refl _) _
  have m6:=(heA_cells h3).2.2.2.2.2.2
  clear h3 g3 z2
  go_upto_region 5 with fail
  rw[←hw4]
  clear hw4 m6
  obtain⟨m0,m1,m2,m3,m4,m5,m6⟩:=heA_cells H4.out
  go_wp2_with fail
  clear m0 m1 m2 m3 m4 m5 m6
  go_loopw [5,20] (fun o i wr=>∃(xs:List Int) (ao:Option Addr) (oc j:Nat),o=.slice ao xs.length oc∧i=.int .i64 (j:Int)∧(j:Int)≤4∧(xs.length:Int)≤5∧Hid (Own wr w3.heap.size (.slice ao xs.length oc) xs∧Below w3.heap.size w3 wr∧xs=h.tu::(h.ks.take j).filter (fun k=>decide (k≠0)))) (fun _ i _=>4-(intOf i).toNat)
  case atStart=>exact⟨[h.tu],_,_,0,rfl,rfl,by omega,by simp,O4.out,B4.out,by simp⟩
  case round=>
   obtain⟨xs,ao,oc,j,rfl,rfl,hj,hxl,HR⟩:=hrel
   by_cases hlt:(j:Int)<4
   ·have hj4:Hid (j<h.ks.length):=by have:=HL.out;rw[Hid];omega
    have i5:=idxKt f j (by omega) wr
    have HX:Hid (f j=h.ks.getD j 0):=by rw[Hid,HFF.out];rfl
    have HLn:=keysN_len HL.out (j+1)
    obtain⟨x,hx⟩:∃x,x=f j:=⟨_,rfl⟩
    rw[←hx]at i5 HX
    clear hx
    by_cases x0:x=0
    ·have xb:(x !=0)=false:=by simpa using x0
     have HR2:Hid (xs=h.tu::(h.ks.take (j+1)).filter (fun k=>decide (k≠0))):=keys_first _ _ x j hj4.out HX.out x0 _ HR.out.2.2
     clear x0
     go_wp2
     go_roundw
     case rel=>exact⟨xs,ao,oc,j+1,rfl,by go_num,by omega,hxl,HR.out.1,HR.out.2.1,HR2.out⟩
     case measure=>simp[intOf];omega
    ·have xb:(x !=0)=true:=by simpa using x0
     have HR2:Hid (xs++[x]=h.tu::(h.ks.take (j+1)).filter (fun k=>decide (k≠0))):=keys_next _ _ x j hj4.out HX.out x0 _ HR.out.2.2
     have hxl2:(xs++[x]).length≤5:=by rw[HR2.out];exact HLn
     rw[List.length_append,List.length_singleton]at hxl2
     have hown:=HR.out.1
     have hbs:=HR.out.2.1.size
     unfold Own at hown
     clear x0 HLn
     go_wp2_with (at_builtin;refine wpList_append_own _ rfl _ _ 24 rfl w3.heap.size 2 i0 (.int .i64 0) 1 8 Tryz.underlying24 hi hz0 hz1 hz2 rfl (by decide) _ _ _ rfl (hown.alloc _) _ 1 1 [.int .i64 x] rfl rfl (litOne wr x) (by simp[Value.oneCell']) (by unfold maxLen;omega) (by omega) (by simp;omega) ?_)
     intro v' w5 hown' hgrow _
     have HO:Hid (Own w5 w3.heap.size v' (xs++[x])∧Below w3.heap.size w3 w5):=appendOne HR.out.1 HR.out.2.1 hown' hgrow
     clear hown hown' hgrow HR
     obtain⟨ao2,cap2,hev, -⟩:=HO.out.1.reads
     subst hev
     go_wp2
     go_roundw
     case rel=>exact⟨xs++[x],ao2,cap2,j+1,rfl,by go_num,by omega,by simp;omega,HO.out.1,HO.out.2,HR2.out⟩
     case measure=>simp[intOf];omega
   ·have HK:Hid (xs=h.keysN):=by
     have:=HR.out.2.2
     rw[List.take_of_length_le (by have:=HL.out;omega)]at this
     exact this
    have hx0:0<xs.length:=by rw[HK.out];simp[Hd.keysN]
    have B5:Hid (Below w.heap.size w wr):=HB3.out.trans (HR.out.2.1.mono HB3.out.size)
    have c2:=ishowN_any (.slice ao xs.length oc) xs wr HR.out.1.reads hx0 (by omega) (by rw[HK.out];exact FK.out) (HT.out.below B5.out)
    unfold S at c2
    go_wp2_with fail
    refine c2.mono ?_
    rintro e w6 ⟨rfl,b6⟩
    clear c2
    go_wp2
    go_ret
    rw[HE.out,←HK.out]
    exact⟨rfl,B5.out.trans (b6.mono B5.out.size)⟩
end Go.Proofs.YtpdggofaobmnlaaGreatDoor
namespace Go.Proofs.YtpdggofaobmnlaaGreatDoor
open Go.ChangeShapes Go.WideShapes Go.ChangeAt Go.RowKit
theorem hold_key {h:Hd} (ok:h.ok=true):h.holdN=[h.tu,h.kd,keyF (KF h.ks) h.ho]:=by
 obtain⟨hl, -, -,hm⟩:=Hd.ok_all ok
 have hho:h.ho<4:=by
  unfold Hd.mid at hm
  split at hm
  ·have:h.ho= -1:=by simpa using hm
   omega
  ·split at hm
   ·simp only[Bool.and_eq_true,decide_eq_true_eq]at hm;omega
   ·simp only[Bool.and_eq_true]at hm
    have:=(inI_iff _ _ _).1 hm.1.2
    omega
 unfold Hd.holdN keyF
 by_cases h0:0≤h.ho
 ·rw[if_pos h0,if_pos ((inI_iff _ _ _).2 (by omega))];rfl
 ·rw[if_neg h0,if_neg (by rw[inI_iff];omega)]
theorem iholderof_any (v:Value) (h:Hd) (w:World) (hr:Reads w v h.ks) (hl:h.ks.length≤1099511627776) (ht:Tab w):
  Calls Tryz.prog 77 #[HV v h] w fun e w'=>e=.returned (S h.holdT)∧Below w.heap.size w w':=by
 have b1:Below w.heap.size w (w.alloc (.cells (hdA v h) 28)):=(Below.refl _ _).alloc (Nat.le_refl _) _
 have c1:=iheldof_any v h _ (hr.below b1 (Nat.le_refl _)) hl
 obtain⟨ao,cap,rfl⟩:=reads_form hr
 obtain⟨ok,hok⟩:∃ok,ok=h.ok:=⟨_,rfl⟩
 obtain⟨f,x,y,z,hf,hfo⟩:=heldV_form h
 have HE:Hid (h.holdT=if ok then intsB h.holdN else[]):=by rw[Hid,hok];rfl
 have HF:Hid (ok=true→Fits64 [z,x,keyF f y]∧h.holdN=[z,x,keyF f y]):=fun e=>by
  rw[hok]at e
  obtain⟨rfl,rfl,rfl,rfl⟩:=hfo e
  have h1:=hold_key e
  have h2:=Hd.ok_fitsH e
  rw[h1]at h2
  exact⟨h2,h1⟩
 rw[←hok]at c1
 rw[hf]at c1
 have HT:Hid (Tab w):=ht
 clear hok hf hfo hr hl ht
 unfold HV hdA at*
 unfold S
 go_enter Tryz.func77,Tryz.ntmps77
 go_wp2_with fail
 refine c1.mono ?_
 rintro e w2 ⟨rfl,b2⟩
 have HB2:Hid (Below w.heap.size w w2):=b1.trans (b2.mono b1.size)
 have z2:Hid (StB (w2.alloc (.cells (heA (fun _=>0) 0 0 0) 106)) w2.heap.size 106 (heA (fun _=>0) 0 0 0)):=StB.new _ _ _
 clear c1 b1 b2
 cases ok with
 |false=>
  go_wp2_with (first|(refine wpList_putS Tryz.isHeld rfl _ _ rfl w2.heap.size (heA f x y z) _ rfl rfl rfl rfl (heA_one _ _ _ _) z2.out ?_;intro w3 h3 g3))
  go_ret
  rw[HE.out]
  exact⟨rfl,HB2.out.trans (((Below.refl _ _).alloc (Nat.le_refl _) _ |>.grown g3 (by simp) (fun k e=>by cases e;exact Nat.le_refl _)).mono HB2.out.size)⟩
 |true=>
  obtain⟨fk,hn⟩:=HF.out rfl
  rw[if_pos rfl,hn]at HE
  have FK:Hid (Fits64 [z,x,keyF f y]):=fk
  clear HF fk hn
  go_upto_region 4 with(first|(refine wpList_putS Tryz.isHeld rfl _ _ rfl w2.heap.size (heA f x y z) _ rfl rfl rfl rfl (heA_one _ _ _ _) z2.out ?_;intro w3 h3 g3))
  have HB3:Hid (Below w.heap.size w w3.drew):=(HB2.out.trans (((Below.refl _ _).alloc (Nat.le_refl _) _ |>.grown g3 (by simp) (fun k e=>by cases e;exact Nat.le_refl _)).mono HB2.out.size)).drew
  have D3:Hid (StB w3.drew w2.heap.size 106 (heA f x y z)):=h3
  have ck:=fun wx=>ikeyof_any f y wx
  have cn:∀u w',Reads w' u [z,x,keyF f y]→Tab w'→_:=fun u w' hr ht=>ishowN_any u [z,x,keyF f y] w' hr (by simp) (by simp) FK.out ht
  obtain⟨k,hk⟩:∃k,k=keyF f y:=⟨_,rfl⟩
  simp only[←hk]at ck cn HE
  have CN:Hid _:=cn
  obtain⟨g,hg⟩:∃g,g=w2.heap.size:=⟨_,rfl⟩
  rw[←hg]at D3 h3⊢
  obtain⟨m0,m1,m2,m3,m4,m5,m6⟩:=heA_cells h3
  obtain⟨d0,d1,d2,d3,d4,d5,d6⟩:=heA_cells D3.out
  clear h3 g3 z2 hk FK cn hg HB2
  unfold kA at ck
  go_region_held3 (fun w'=>w'.cell? ⟨g,0,none⟩=some (.int .i64 (f 0))∧w'.cell? ⟨g,1,none⟩=some (.int .i64 (f 1))∧w'.cell? ⟨g,2,none⟩=some (.int .i64 (f 2))∧w'.cell? ⟨g,3,none⟩=some (.int .i64 (f 3))∧w'.cell? ⟨g,4,none⟩=some (.int .i64 x)∧w'.cell? ⟨g,5,none⟩=some (.int .i64 y)∧w'.cell? ⟨g,6,none⟩=some (.int .i64 z)) (refine⟨?_,?_,?_,?_,?_,?_,?_⟩<;>first|with_reducible assumption|(with_reducible refine cell_later ?_;with_reducible assumption))
   (first
    |(go_at_call 113;refine(ck _).mono ?_;rintro e w4 ⟨rfl,b4⟩;have B4:Hid (Below w.heap.size w w4):=HB3.out.trans (b4.mono HB3.out.size);have H4:Hid (StB w4 g 106 (heA f x y z)):=D3.out.below b4;obtain⟨n0,n1,n2,n3,n4,n5,n6⟩:=heA_cells H4.out;clear b4)
    |(go_at_call 112;refine(CN.out _ _ (own_three w4 z x k).reads (HT.out.below (B4.out.alloc B4.out.size _))).mono ?_;rintro e w5 ⟨rfl,b5⟩;have B5:Hid (Below w.heap.size w w5):=(B4.out.alloc B4.out.size _).trans (b5.mono (B4.out.alloc B4.out.size _).size);have H5:Hid (StB w5 g 106 (heA f x y z)):=(H4.out.alloc _).below b5;obtain⟨o0,o1,o2,o3,o4,o5,o6⟩:=heA_cells H5.out;clear b5;unfold S))
  all_goals
   go_wp2
   go_ret
   exact⟨by rw[HE.out];rfl,B5.out⟩
end Go.Proofs.YtpdggofaobmnlaaGreatDoor
