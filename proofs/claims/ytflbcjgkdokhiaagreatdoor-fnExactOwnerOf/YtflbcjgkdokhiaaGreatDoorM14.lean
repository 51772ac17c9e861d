/- What ReadRecord of the model answers. -/
import Derived.Test.YtflbcjgkdokhiaaGreatDoorM13
import Derived.Test.YtflbcjgkdokhiaaGreatDoorM9
import Derived.BigRegion
set_option maxRecDepth 20000
set_option maxHeartbeats 4000000
namespace Go.Proofs.YtflbcjgkdokhiaaGreatDoor
open Go.ChangeShapes Go.WideShapes Go.ChangeAt Go.RowKit
def recO (s:Bs):Rc:=(readR s).getD Rc.zero
def isR (s:Bs):Bool:=(readR s).isSome
theorem readR_not {s:Bs} (h:readR s=none):recO s=Rc.zero∧isR s=false:=by simp[recO,isR,h]
theorem readR_yes {s:Bs} {r:Rc} (h:readR s=some r):recO s=r∧isR s=true:=by simp[recO,isR,h]
theorem readR_len {s:Bs} (h:(splitB 32 s).length≠5):readR s=none:=by
 unfold readR
 rw[if_neg]
 rintro⟨_,h2⟩
 have hne:=List.length_pos_iff.2 (splitB_ne 32 s)
 unfold goodW at h2
 simp only[Bool.and_eq_true,decide_eq_true_eq,List.length_tail]at h2
 omega
theorem readR_word {s:Bs} (h:(splitB 32 s).head? ≠some recW):readR s=none:=by
 unfold readR
 rw[if_neg]
 rintro⟨h1,_⟩
 exact h h1
theorem readR_num {s:Bs} {j:Nat} (hj:j<(splitB 32 s).tail.length) (h:okN ((splitB 32 s).tail.getD j [])=false):readR s=none:=by
 unfold readR
 rw[if_neg]
 rintro⟨_,h2⟩
 unfold goodW at h2
 simp only[Bool.and_eq_true,decide_eq_true_eq]at h2
 have:=List.all_eq_true.1 h2.1.2 _ (getD_mem _ j hj)
 rw[h]at this
 cases this
theorem readR_bad {s:Bs} (h:(recOf (splitB 32 s).tail).ok=false):readR s=none:=by
 unfold readR
 rw[if_neg]
 rintro⟨_,h2⟩
 unfold goodW at h2
 rw[h]at h2
 simp at h2
theorem readR_good {s:Bs} (h1:(splitB 32 s).head? =some recW) (h2:(splitB 32 s).tail.length=4) (h3:(splitB 32 s).tail.all okN=true) (h4:(recOf (splitB 32 s).tail).ok=true):readR s=some (recOf (splitB 32 s).tail):=by
 unfold readR
 rw[if_pos]
 refine⟨h1,?_⟩
 unfold goodW
 rw[h3,h4,h2]
 rfl
theorem all_take {ws:List Bs} {j:Nat} (h:(ws.take j).all okN=true) (hj:j<ws.length) (h2:okN (ws.getD j [])=true):(ws.take (j+1)).all okN=true:=by
 rw[takeS_snoc ws j hj,List.all_append,h]
 simpa using h2
theorem nums_take {ws:List Bs} {j:Nat} (hj:j<ws.length):(ws.take (j+1)).map num=(ws.take j).map num++[num (ws.getD j [])]:=by
 rw[takeS_snoc ws j hj,List.map_append]
 rfl
theorem recOf_four {ws:List Bs} (h:ws.length=4):ws.map num=[(recOf ws).e,(recOf ws).s,(recOf ws).t,(recOf ws).n]:=by
 match ws,h with
 |[a,b,c,d],_=>rfl
theorem recOf_fit (ws:List Bs):(recOf ws).Fit:=by
 have h:=fun l=>num_bd l
 have h0:=h (ws.getD 0 [])
 have h1:=h (ws.getD 1 [])
 have h2:=h (ws.getD 2 [])
 have h3:=h (ws.getD 3 [])
 unfold Rc.Fit recOf
 dsimp only
 omega
theorem lit1I (w:World) (x:Int):∀j u,([Value.int .i64 x])[j]?=some u→(w.alloc (.cells #[.int .i64 x] 2)).cell? ((⟨w.heap.size,0,none⟩:Addr).add j)=some u:=by
 intro j u hj
 match j,hj with
 |0,hj=>simp at hj;subst hj;simp[Addr.add]
theorem appendI {w wr w':World} {o v':Value} {out:List Int} {x:Int} {ob:Obj} (hO:Own wr w.heap.size o out) (hB:Below w.heap.size w wr)
  (hown:w'.ownsRow w.heap.size 2 1 v' (out.length+1) (out.map (Value.int .i64)++[.int .i64 x])) (hg:(wr.alloc ob).grownBy w' o.ownBlock):Own w' w.heap.size v' (out++[x])∧Below w.heap.size w w':=by
 refine⟨?_,(hB.alloc hB.size ob).grown hg (by simp;have:=hB.size;omega) (fun k e=>(hO.lt k e).1)⟩
 unfold Own
 rw[List.map_append]
 simpa using hown
theorem splitB_part (c:UInt8) (s:Bs):∀p∈splitB c s,p.length≤s.length:=by
 induction s with
 |nil=>simp[splitB]
 |cons b t ih=>
  intro p hp
  rw[splitB]at hp
  split at hp
  ·rcases List.mem_cons.1 hp with rfl|hp
   ·simp
   ·have:=ih p hp;simp;omega
  ·cases hs:splitB c t with
   |nil=>exact absurd hs (splitB_ne c t)
   |cons q qs=>
    rw[hs]at hp ih
    simp only[ahead,List.mem_cons]at hp
    rcases hp with rfl|hp
    ·have:=ih q (by simp);simp;omega
    ·have:=ih p (by simp[hp]);simp;omega
theorem sreadR_any (s:Bs) (w:World) (hl:s.length≤1048576):
  Calls Tryz.prog 79 #[S s] w fun e w'=>e=.returned (.tuple #[RV (recO s),.bool (isR s)])∧Below w.heap.size w w':=by
 obtain⟨i0,hi,hz0,hz1,hz2⟩:=info_parts Tryz.infoI
 have R0:=RecB.new w 50 Rc.zero
 have B0:Below w.heap.size w (w.alloc (.cells (recA Rc.zero) 50)):=(Below.refl _ _).alloc (Nat.le_refl _) _
 have c1:∀wx,Calls Tryz.prog 95 #[S s,.int .u8 32] wx _:=fun wx=>ssplit_any s 32 wx hl
 have hpt:=splitB_part 32 s
 have E1:Hid ((splitB 32 s).length≠5→readR s=none):=readR_len
 have E2:Hid ((splitB 32 s).head? ≠some recW→readR s=none):=readR_word
 have E3:Hid (∀j,j<(splitB 32 s).tail.length→okN ((splitB 32 s).tail.getD j [])=false→readR s=none):=fun j=>readR_num
 have E4:Hid ((recOf (splitB 32 s).tail).ok=false→readR s=none):=readR_bad
 have E5:Hid ((splitB 32 s).head? =some recW→(splitB 32 s).tail.length=4→(splitB 32 s).tail.all okN=true→(recOf (splitB 32 s).tail).ok=true→readR s=some (recOf (splitB 32 s).tail)):=readR_good
 obtain⟨ws,hws⟩:∃ws,ws=splitB 32 s:=⟨_,rfl⟩
 rw[←hws]at E1 E2 E3 E4 E5 hpt
 simp only[←hws]at c1
 have HPT:Hid (∀p∈ws,p.length≤1048576):=fun p hp=>by have:=hpt p hp;omega
 clear hws hpt hl
 unfold S at*
 go_enter Tryz.func79,Tryz.ntmps79
 go_wp2_with fail
 refine(c1 _).mono ?_
 rintro e wS ⟨u,rfl,o1,b1⟩
 clear c1
 have RS:=R0.below b1
 have BS:=B0.trans (b1.mono B0.size)
 have hsS:w.heap.size<wS.heap.size:=RS.lt
 by_cases h5:ws.length=5
 ·obtain⟨g,cap,rfl, -⟩:=World.ownsRow.form o1 (by omega)
  have HC:Hid (∀j,j<5→wS.cell? ⟨g,j,none⟩=some (.string ⟨(ws.getD j []).toArray⟩)):=by
   intro j hj
   have hjw:j<ws.length:=by omega
   have:=World.ownsRow.cellAt (w:=wS) o1 j (by omega)
   rw[this]
   simp[hjw,S]
  have hcap:5≤cap:=by obtain⟨_,_,he,hle, -⟩:=o1.reads;cases he;omega
  have c0:=HC.out 0 (by omega)
  have hhd:ws.head? =some (ws.getD 0 []):=by cases ws with|nil=>simp at h5|cons x t=>rfl
  rw[h5]
  clear o1 E1 R0 B0 b1
  by_cases hw0:ws.getD 0 []=recW
  ·rw[hw0]at hhd c0
   replace E2:Hid (ws.head? =some recW):=hhd
   unfold recW at c0
   clear hhd hw0
   have HV:Hid (ws.length=5):=h5
   have htl:ws.tail.length=4:=by rw[List.length_tail];omega
   have HT:Hid (∀j,j<4→ws.getD (j+1) []=ws.tail.getD j []):=by
    intro j hj
    cases ws with
    |nil=>simp at h5
    |cons x t=>rfl
   clear h5
   obtain⟨vs,hvs⟩:∃vs,vs=ws.tail:=⟨_,rfl⟩
   rw[←hvs]at htl HT E3 E4 E5
   clear hvs
   go_wp2
   go_loopw [5,6] (fun o i wr=>∃(xs:List Int) (ao:Option Addr) (oc:Nat),o=.slice ao xs.length oc∧i=.int .i64 ((xs.length:Int)+1)∧(xs.length:Int)≤4∧Hid (Own wr wS.heap.size (.slice ao xs.length oc) xs∧Below wS.heap.size wS wr∧xs=(vs.take xs.length).map num∧(vs.take xs.length).all okN=true)) (fun _ i _=>5-(intOf i).toNat)
   case atStart=>exact⟨[],_,_,rfl,rfl,by simp,World.ownsRow_lit wS #[] 0 (Nat.le_refl _) (Nat.zero_le _) rfl,(Below.refl _ _).alloc (Nat.le_refl _) _,rfl,rfl⟩
   case round=>
    obtain⟨xs,ao,oc,rfl,rfl,hj,HR⟩:=hrel
    by_cases hlt:(xs.length:Int)+1<5
    ·have hjv:xs.length<vs.length:=by omega
     have hcw:=HC.out (xs.length+1) (by omega)
     rw[HT.out xs.length (by omega)]at hcw
     have hcell:wr.cell? ⟨g,xs.length+1,none⟩=some (.string ⟨(vs.getD xs.length []).toArray⟩):=by
      rw[HR.out.2.1.cell (p:=⟨g,xs.length+1,none⟩) (World.block_lt_of_cell? wS _ hcw)]
      exact hcw
     have hpl:(vs.getD xs.length []).length≤1048576:=by
      have:=HPT.out (ws.getD (xs.length+1) []) (getD_mem ws (xs.length+1) (by have:=HV.out;omega))
      rwa[HT.out xs.length (by omega)]at this
     have c2:=fun wx=>sread_any (vs.getD xs.length []) wx hpl
     have E3j:Hid (okN (vs.getD xs.length [])=false→readR s=none):=E3.out xs.length (by omega)
     have HA:Hid (okN (vs.getD xs.length [])=true→(vs.take (xs.length+1)).all okN=true):=fun h=>all_take HR.out.2.2.2 hjv h
     have HM:Hid (xs++[num (vs.getD xs.length [])]=(vs.take (xs.length+1)).map num):=by rw[Hid,nums_take hjv];exact congrArg (·++[num (vs.getD xs.length [])]) HR.out.2.2.1
     obtain⟨p,hp⟩:∃p,p=vs.getD xs.length []:=⟨_,rfl⟩
     rw[←hp]at hcell hpl E3j HA HM
     simp only[←hp]at c2
     obtain⟨b,hb⟩:∃b,b=okN p:=⟨_,rfl⟩
     obtain⟨x,hx⟩:∃x,x=num p:=⟨_,rfl⟩
     rw[←hb]at E3j HA
     rw[←hx]at HM
     simp only[←hb,←hx]at c2
     unfold S at c2
     clear hp hb hx hcw c0
     have hij:((xs.length:Int)+1).toNat=xs.length+1:=by omega
     go_wp2_with fail
     refine(c2 _).mono ?_
     rintro e w' ⟨rfl,hw⟩;subst w'
     clear c2
     cases b with
     |false=>
      have HE:Hid (recO s=Rc.zero∧isR s=false):=readR_not (E3j.out rfl)
      have R1:=RS.below (HR.out.2.1)
      have B1:=BS.trans (HR.out.2.1.mono BS.size)
      have hs1:=HR.out.2.1.size
      go_wp2_with (refine wpList_putR rfl _ _ rfl w.heap.size Rc.zero Rc.zero rfl rfl R1 ?_;intro w2 R2 G2)
      refine bodyPost_ret (results_R2 rfl _ _ w.heap.size _ _ rfl rfl R2) rfl ?_
      rw[HE.out.1,HE.out.2]
      exact⟨rfl,B1.grown G2 (by omega) (fun k e=>by cases e;exact Nat.le_refl _)⟩
     |true=>
      have HA2:Hid ((vs.take (xs.length+1)).all okN=true):=HA.out rfl
      clear HA
      have hown:=HR.out.1
      have hbs:=HR.out.2.1.size
      unfold Own at hown
      go_wp2_with (at_builtin;refine wpList_append_own _ rfl _ _ 44 rfl wS.heap.size 2 i0 (.int .i64 0) 1 8 Tryz.underlying44 hi hz0 hz1 hz2 rfl (by decide) _ _ _ rfl (hown.alloc _) _ 1 1 [.int .i64 x] rfl rfl (lit1I wr x) (by simp[Value.oneCell']) (by unfold maxLen;omega) (by omega) (by simp;omega) ?_)
      intro v' w2 hown' hgrow _
      have HO:Hid (Own w2 wS.heap.size v' (xs++[x])∧Below wS.heap.size wS w2):=appendI HR.out.1 HR.out.2.1 hown' hgrow
      clear hown hown' hgrow HR
      obtain⟨ao2,cap2,hev, -⟩:=HO.out.1.reads
      subst hev
      go_wp2
      go_roundw
      case rel=>exact⟨xs++[x],ao2,cap2,rfl,by simp,by simp;omega,HO.out.1,HO.out.2,by rw[List.length_append];exact HM.out,by rw[List.length_append];exact HA2.out⟩
      case measure=>simp[intOf];omega
    ·have hx4:xs.length=4:=by omega
     have hxs:xs=[(recOf vs).e,(recOf vs).s,(recOf vs).t,(recOf vs).n]:=by
      have:=HR.out.2.2.1;rwa[List.take_of_length_le (by omega),recOf_four htl]at this
     have hall:vs.all okN=true:=by have:=HR.out.2.2.2;rwa[List.take_of_length_le (by omega)]at this
     obtain⟨r,hr⟩:∃r,r=recOf vs:=⟨_,rfl⟩
     rw[←hr]at hxs E4 E5
     have hrf:r.Fit:=by rw[hr];exact recOf_fit vs
     subst hxs
     obtain⟨og,oc',heo, -⟩:=World.ownsRow.form HR.out.1 (by simp)
     cases heo
     have k0:wr.cell? ⟨og,0,none⟩=some (.int .i64 r.e):=by have:=World.ownsRow.cellAt (w:=wr) HR.out.1 0 (by simp);simpa using this
     have k1:wr.cell? ⟨og,1,none⟩=some (.int .i64 r.s):=by have:=World.ownsRow.cellAt (w:=wr) HR.out.1 1 (by simp);simpa using this
     have k2:wr.cell? ⟨og,2,none⟩=some (.int .i64 r.t):=by have:=World.ownsRow.cellAt (w:=wr) HR.out.1 2 (by simp);simpa using this
     have k3:wr.cell? ⟨og,3,none⟩=some (.int .i64 r.n):=by have:=World.ownsRow.cellAt (w:=wr) HR.out.1 3 (by simp);simpa using this
     have hoc:4≤oc:=by obtain⟨_,_,he,hle, -⟩:=HR.out.1.reads;cases he;simpa using hle
     have hog:og<wr.heap.size:=(HR.out.1.lt og rfl).2
     have hne:og≠wr.heap.size:=by omega
     have R1:=RS.below (HR.out.2.1)
     have B1:=BS.trans (HR.out.2.1.mono BS.size)
     have hs1:=HR.out.2.1.size
     have c3:=fun wx=>srecok_any r wx
     have HF:Hid (r.ok=false→recO s=Rc.zero∧isR s=false):=fun h=>readR_not (E4.out h)
     have HG:Hid (r.ok=true→recO s=r∧isR s=true):=fun h=>readR_yes (E5.out E2.out htl hall h)
     obtain⟨b,hb⟩:∃b,b=r.ok:=⟨_,rfl⟩
     rw[←hb]at HF HG
     simp only[←hb]at c3
     clear hb hr hall hrf hx4 HR E2 E3 E4 E5 HC HT HPT HV c0
     simp only[List.length_cons,List.length_nil,Nat.zero_add,Nat.reduceAdd]
     go_wp2
     go_region
     obtain⟨w3,hw3⟩:∃w3,w3=(wr.alloc (.cells (recA r) 50)).drew:=⟨_,rfl⟩
     have R3:RecB w3 w.heap.size 50 Rc.zero:=by rw[hw3];exact R1.alloc _
     have Q3:RecB w3 wr.heap.size 50 r:=by rw[hw3];exact RecB.new wr _ r
     have B3:Below w.heap.size w w3:=by rw[hw3];exact below_drewN (B1.alloc B1.size _) 1
     unfold recA at hw3
     rw[←hw3]
     clear hw3 k0 k1 k2 k3 R1 B1
     have hrr:w.heap.size≠wr.heap.size:=by omega
     unfold RV at c3
     go_wp2_with (refine wpList_getR rfl _ rfl wr.heap.size rfl r Q3 ?_;unfold RV)
     refine(c3 _).mono ?_
     rintro e w4 ⟨rfl,b4⟩
     have R4:=R3.below b4
     have Q4:=Q3.below b4
     have B4:=B3.trans (b4.mono B3.size)
     have hs4:=R4.lt
     clear c3 b4 R3 Q3 B3
     cases b with
     |false=>
      have HE:=HF.out rfl
      go_wp2_with (refine wpList_putR rfl _ _ rfl w.heap.size Rc.zero Rc.zero rfl rfl R4 ?_;intro w5 R5 G5)
      refine bodyPost_ret (results_R2 rfl _ _ w.heap.size _ _ rfl rfl R5) rfl ?_
      rw[HE.1,HE.2]
      exact⟨rfl,B4.grown G5 (by omega) (fun k e=>by cases e;exact Nat.le_refl _)⟩
     |true=>
      have HE:=HG.out rfl
      go_wp2_with (first|(refine wpList_getR rfl _ rfl wr.heap.size rfl r Q4 ?_)|(refine wpList_putR rfl _ _ rfl w.heap.size r Rc.zero rfl rfl R4 ?_;intro w5 R5 G5))
      refine bodyPost_ret (results_R2 rfl _ _ w.heap.size _ _ rfl rfl R5) rfl ?_
      rw[HE.1,HE.2]
      exact⟨rfl,B4.grown G5 (by omega) (fun k e=>by cases e;exact Nat.le_refl _)⟩
  ·have HE:Hid (recO s=Rc.zero∧isR s=false):=readR_not (E2.out (by rw[hhd];intro h;exact hw0 (Option.some.inj h)))
   have hbeq:(ws.getD 0 []==recW)=false:=by simpa using hw0
   obtain⟨x0,hx0⟩:∃x0,x0=ws.getD 0 []:=⟨_,rfl⟩
   rw[←hx0]at c0 hbeq
   unfold recW at hbeq
   clear hx0 hw0 hhd E2 E3 E4 E5 HPT HC h5
   go_wp2_with (refine wpList_putR rfl _ _ rfl w.heap.size Rc.zero Rc.zero rfl rfl RS ?_;intro w2 R2 G2)
   refine bodyPost_ret (results_R2 rfl _ _ w.heap.size _ _ rfl rfl R2) rfl ?_
   rw[HE.out.1,HE.out.2]
   exact⟨rfl,BS.grown G2 (by omega) (fun k e=>by cases e;exact Nat.le_refl _)⟩
 ·have HE:Hid (recO s=Rc.zero∧isR s=false):=readR_not (E1.out h5)
  obtain⟨ao,cap,rfl, -⟩:=o1.reads
  have h5':((ws.length:Int) !=5)=true:=by simp;omega
  clear o1 h5 E1 E2 E3 E4 E5 HPT R0 B0 b1
  go_wp2_with (refine wpList_putR rfl _ _ rfl w.heap.size Rc.zero Rc.zero rfl rfl RS ?_;intro w2 R2 G2)
  refine bodyPost_ret (results_R2 rfl _ _ w.heap.size _ _ rfl rfl R2) rfl ?_
  rw[HE.out.1,HE.out.2]
  exact⟨rfl,BS.grown G2 (by omega) (fun k e=>by cases e;exact Nat.le_refl _)⟩
end Go.Proofs.YtflbcjgkdokhiaaGreatDoor
set_option maxRecDepth 20000
set_option maxHeartbeats 4000000
namespace Go.Proofs.YtflbcjgkdokhiaaGreatDoor
open Go.ChangeShapes Go.WideShapes Go.ChangeAt Go.RowKit
theorem step_yes {x:Bs} (a:Option (Rc×Nat)) (n:Nat) (h:isR x=true):stepE a (x,n)=some (recO x,n):=by
 unfold isR recO at*
 unfold stepE
 cases hr:readR x with
 |none=>rw[hr]at h;cases h
 |some r=>rfl
theorem step_no {x:Bs} (a:Option (Rc×Nat)) (n:Nat) (h:isR x=false):stepE a (x,n)=a:=by
 unfold isR at h
 unfold stepE
 cases hr:readR x with
 |none=>rfl
 |some r=>rw[hr]at h;cases h
theorem results_R3 {fn:Func} {p q u:Tmp} (h:fn.results=#[.cell p 50,.tmp q,.tmp u]) (tmps:Array Value) (w:World) (g:Nat) (r:Rc) (x y:Value)
  (hp:tmps.getD p undef=.pointer (some ⟨g,0,none⟩)) (hx:tmps.getD q undef=x) (hy:tmps.getD u undef=y) (hr:RecB w g 50 r):(results fn tmps).run Tryz.prog w=.ok (.tuple #[RV r,x,y]) w:=by
 obtain⟨fs,hu⟩:=Tryz.underR
 have hl:=run_loadVar_row w g _ _ _ _ _ hr hu rfl Tryz.infoR
 have hp':tmps[p]?.getD undef=.pointer (some ⟨g,0,none⟩):=by simpa using hp
 have hx':tmps[q]?.getD undef=x:=by simpa using hx
 have hy':tmps[u]?.getD undef=y:=by simpa using hy
 simp[results,h,hp',hx',hy',asAddr,hl]
 rfl
theorem RecB.set4 {w:World} {g:Nat} {t:TypeId} {q:Rc} (h:RecB w g t q) (r:Rc):RecB ((((w.setCell ⟨g,0,none⟩ (.int .i64 r.e)).setCell ⟨g,1,none⟩ (.int .i64 r.s)).setCell ⟨g,2,none⟩ (.int .i64 r.t)).setCell ⟨g,3,none⟩ (.int .i64 r.n)) g t r:=by
 have h0:=heap_setCell_same w g 0 _ _ (.int .i64 r.e) h
 have h1:=heap_setCell_same _ g 1 _ _ (.int .i64 r.s) h0
 have h2:=heap_setCell_same _ g 2 _ _ (.int .i64 r.t) h1
 exact heap_setCell_same _ g 3 _ _ (.int .i64 r.n) h2
theorem below_set4 {w0 w:World} {g:Nat} (B:Below w0.heap.size w0 w) (hg:w0.heap.size≤g) (a b c d:Value):Below w0.heap.size w0 ((((w.setCell ⟨g,0,none⟩ a).setCell ⟨g,1,none⟩ b).setCell ⟨g,2,none⟩ c).setCell ⟨g,3,none⟩ d):=
 (((B.setCell (p:=⟨g,0,none⟩) hg a).setCell (p:=⟨g,1,none⟩) hg b).setCell (p:=⟨g,2,none⟩) hg c).setCell (p:=⟨g,3,none⟩) hg d
theorem srecall_any (s:Bs) (w:World) (hl:s.length≤1048576):
  Calls Tryz.prog 48 #[S s] w fun e w'=>e=.returned (.tuple #[RV (recR (recallB s)),S (s.take (recAt (recallB s))),.bool (recallB s).isSome])∧Below w.heap.size w w':=by
 have hsz:(⟨s.toArray⟩:ByteArray).size=s.length:=rfl
 have R0:=RecB.new w 50 Rc.zero
 have B0:Below w.heap.size w (w.alloc (.cells (recA Rc.zero) 50)):=(Below.refl _ _).alloc (Nat.le_refl _) _
 have c1:=fun wx=>sframes_any s wx hl
 obtain⟨hpl, -,hcl,hxl⟩:=framesB_sound s
 have hle:=framesB_le s
 have HST:Hid (∀i,i<(framesB s).1.length→recallE ((wholeE s).take (i+1))=stepE (recallE ((wholeE s).take i)) ((framesB s).1.getD i [],(cat ((framesB s).1.take (i+1))).length)):=recall_step s
 have HAL:Hid (recallE ((wholeE s).take (framesB s).1.length)=recallB s):=recall_all s
 have HLE:Hid (∀i,i≤(framesB s).1.length→recAt (recallE ((wholeE s).take i))≤s.length):=recall_le_take s
 have HCL:Hid (∀i,(cat ((framesB s).1.take i)).length≤s.length):=fun i=>by have:=cat_take_len (framesB s).1 i;omega
 obtain⟨xs,hxs⟩:∃xs,xs=(framesB s).1:=⟨_,rfl⟩
 obtain⟨n0,hn0⟩:∃n0,n0=(framesB s).2:=⟨_,rfl⟩
 rw[←hxs]at hpl hcl hxl HST HAL HLE HCL
 simp only[←hxs,←hn0]at c1
 have HPL:Hid (∀t∈xs,plainB t=true):=hpl
 obtain⟨ws,hws⟩:∃ws,ws=wholeE s:=⟨_,rfl⟩
 rw[←hws]at HST HAL HLE
 clear hxs hn0 hws hpl hcl hle
 unfold S at*
 go_enter Tryz.func48,Tryz.ntmps48
 go_wp2_with fail
 refine(c1 _).mono ?_
 rintro e wS ⟨u,rfl,o1,b1⟩
 have RS:=R0.below b1
 have BS:=B0.trans (b1.mono B0.size)
 have hsS:w.heap.size<wS.heap.size:=RS.lt
 obtain⟨ao,cap,rfl,hcap, -, -⟩:=o1.reads
 have HR0:Hid (ReadsS wS (.slice ao xs.length cap) xs):=o1.reads
 have QS:=RecB.new wS 50 Rc.zero
 clear c1 b1 R0 B0 o1
 go_wp2
 go_loopw [7,9,10,11] (fun us at' fo i wr=>∃(j n:Nat) (a:Option (Rc×Nat)),i=.int .i64 j∧(j:Int)≤xs.length∧us=.int .i64 n∧(n:Int)≤s.length∧at'=.int .i64 (recAt a:Nat)∧fo=.bool a.isSome∧Hid (n=(cat (xs.take j)).length∧a=recallE (ws.take j)∧RecB wr wS.heap.size 50 (recR a)∧Below wS.heap.size wS wr)) (fun _ _ _ i _=>xs.length-(intOf i).toNat)
 case atStart=>
  refine⟨0,0,none,rfl,by omega,rfl,by omega,rfl,rfl,by simp[cat],rfl,QS,(Below.refl _ _).alloc (Nat.le_refl _) _⟩
 case round=>
  obtain⟨j,n,a,rfl,hj,rfl,hn,rfl,rfl,HR⟩:=hrel
  by_cases hlt:(j:Int)<(xs.length:Int)
  ·have hjx:j<xs.length:=by omega
   have hpx:=HPL.out _ (getD_mem xs j hjx)
   have hx3:(xs.getD j []).length≤300:=plainB_len hpx
   have c2:=fun wx=>sl4Framed_any (xs.getD j []) wx (by omega)
   have c3:=fun wx=>sreadR_any (xs.getD j []) wx (by omega)
   obtain⟨ao',cap',he,_,_,hcells⟩:=HR0.out.below HR.out.2.2.2 (Nat.le_refl _)
   cases he
   have hce:∃b off,ao=some ⟨b,off,none⟩∧wr.cell? ⟨b,off+j,none⟩=some (.string ⟨(xs.getD j []).toArray⟩):=by
    rcases hcells with e|⟨b,off,e,h4⟩
    ·rw[e]at hjx;simp at hjx
    ·exact⟨b,off,e,h4 j hjx⟩
   obtain⟨vb,vo,rfl,hcell⟩:=hce
   have hvlt:vb<wr.heap.size:=World.block_lt_of_cell? wr _ hcell
   have hcat:=cat_take xs j hjx
   have HN:Hid ((cat (xs.take (j+1))).length=n+(framed (xs.getD j [])).length):=by rw[Hid,hcat,List.length_append,←HR.out.1]
   have hnl:n+(framed (xs.getD j [])).length≤s.length:=by rw[←HN.out];exact HCL.out _
   have HS:Hid (recallE (ws.take (j+1))=stepE a (xs.getD j [],n+(framed (xs.getD j [])).length)):=by
    rw[Hid,HST.out j hjx,←HR.out.2.1,HN.out]
   have HLJ:Hid (recAt (recallE (ws.take (j+1)))≤s.length):=HLE.out _ (by omega)
   have HY:Hid (isR (xs.getD j [])=true→recallE (ws.take (j+1))=some (recO (xs.getD j []),n+(framed (xs.getD j [])).length)):=fun h=>by rw[HS.out,step_yes _ _ h]
   have HNo:Hid (isR (xs.getD j [])=false→recallE (ws.take (j+1))=a):=fun h=>by rw[HS.out,step_no _ _ h]
   obtain⟨x,hx⟩:∃x,x=xs.getD j []:=⟨_,rfl⟩
   obtain⟨f,hf⟩:∃f,f=framed (xs.getD j []):=⟨_,rfl⟩
   obtain⟨r,hr⟩:∃r,r=recO (xs.getD j []):=⟨_,rfl⟩
   obtain⟨b,hb⟩:∃b,b=isR (xs.getD j []):=⟨_,rfl⟩
   rw[←hb]at HY HNo
   rw[←hf,←hr]at HY
   rw[←hf]at HN hnl
   simp only[←hf]at c2
   simp only[←hr,←hb]at c3
   rw[←hx]at hcell
   simp only[←hx]at c2 c3
   have hfz:(⟨f.toArray⟩:ByteArray).size=f.length:=rfl
   unfold S at c2 c3
   clear hx hf hr hb hcat hpx hcells HS
   go_wp2_with fail
   refine(c2 _).mono ?_
   rintro e w1 ⟨rfl,b1⟩
   have HR1:Hid (RecB w1 wS.heap.size 50 (recR a)∧Below wS.heap.size wS w1):=⟨HR.out.2.2.1.below b1,HR.out.2.2.2.trans (b1.mono HR.out.2.2.2.size)⟩
   have hcell1:w1.cell? ⟨vb,vo+j,none⟩=some (.string ⟨x.toArray⟩):=by
    rw[b1.cell (p:=⟨vb,vo+j,none⟩) hvlt]
    exact hcell
   clear b1 c2 hcell HR
   go_wp2_with fail
   refine(c3 _).mono ?_
   rintro e w2 ⟨rfl,b2⟩
   have HR2:Hid (RecB w2 wS.heap.size 50 (recR a)∧Below wS.heap.size wS w2):=⟨HR1.out.1.below b2,HR1.out.2.trans (b2.mono HR1.out.2.size)⟩
   clear b2 c3 hcell1 HR1
   obtain⟨w3,hw3⟩:∃w3,w3=w2.alloc (.cells (recA r) 50):=⟨_,rfl⟩
   have hba:Below w2.heap.size w2 w3:=by rw[hw3];exact(Below.refl _ _).alloc (Nat.le_refl _) _
   have HR3:Hid (RecB w3 wS.heap.size 50 (recR a)∧Below wS.heap.size wS w3):=⟨HR2.out.1.below hba,HR2.out.2.trans (hba.mono HR2.out.2.size)⟩
   have Q3:RecB w3 w2.heap.size 50 r:=by rw[hw3];exact RecB.new w2 _ r
   have hs3:w3.heap.size=w2.heap.size+1:=by rw[hw3];simp
   have hg2:=HR2.out.1.lt
   have hwb:=HR2.out.2.size
   clear HR2 hba
   unfold RV
   cases b with
   |false=>
    have HE:=HNo.out rfl
    unfold recA at hw3⊢
    go_wp2
    rw[←hw3]
    go_roundw
    case rel=>exact⟨j+1,n+f.length,a,by go_num,by omega,by go_num,by omega,rfl,rfl,HN.out.symm,HE.symm,HR3.out.1,HR3.out.2⟩
    case measure=>simp[intOf];omega
   |true=>
    have HE:=HY.out rfl
    have e1:recR (some (r,n+f.length))=r:=rfl
    have hne:wS.heap.size≠w2.heap.size:=by omega
    unfold recA at hw3⊢
    go_wp2_with (first|(refine wpList_getR rfl _ rfl w2.heap.size rfl r (by rw[←hw3];exact Q3) ?_;unfold RV recA)|(refine wpList_putR rfl _ _ rfl wS.heap.size r (recR a) rfl rfl (by rw[←hw3];exact HR3.out.1) ?_;rw[←hw3];intro w4 R4 G4))
    have HB4:Hid (Below wS.heap.size wS w4):=HR3.out.2.grown G4 (by omega) (fun k e=>by cases e;exact Nat.le_refl _)
    go_roundw
    case rel=>exact⟨j+1,n+f.length,some (r,n+f.length),by go_num,by omega,by go_num,by omega,by simp[recAt],rfl,HN.out.symm,HE.symm,R4,HB4.out⟩
    case measure=>simp[intOf];omega
  ·obtain rfl:j=xs.length:=by omega
   have hae:a=recallB s:=by rw[HR.out.2.1];exact HAL.out
   have HLA:Hid (recAt (recallB s)≤s.length):=by have:=HLE.out xs.length (Nat.le_refl _);rwa[HAL.out]at this
   rw[←hae]at HLA
   have hla:((recAt a:Nat):Int)≤s.length:=by have:=HLA.out;omega
   have R1:=HR.out.2.2.1
   have Z1:=RS.below HR.out.2.2.2
   have B1:=BS.trans (HR.out.2.2.2.mono BS.size)
   have hex:=extract_cut s 0 (recAt a)
   have e0:cutB s 0 (recAt a)=s.take (recAt a):=by simp[cutB]
   rw[e0]at hex
   obtain⟨r,hr⟩:∃r,r=recR a:=⟨_,rfl⟩
   obtain⟨m,hm⟩:∃m,m=recAt a:=⟨_,rfl⟩
   obtain⟨b,hb⟩:∃b,b=a.isSome:=⟨_,rfl⟩
   obtain⟨t,ht⟩:∃t,t=s.take (recAt a):=⟨_,rfl⟩
   have HE:Hid (recR (recallB s)=r∧s.take (recAt (recallB s))=t∧(recallB s).isSome=b):=by rw[←hae];exact⟨hr.symm,ht.symm,hb.symm⟩
   rw[←hr]at R1
   rw[←ht]at hex
   rw[←hm]at hex hla⊢
   rw[←hb]
   have k0:wr.cell? ⟨wS.heap.size,0,none⟩=some (.int .i64 r.e):=R1.cell 0 rfl
   have k1:wr.cell? ⟨wS.heap.size,1,none⟩=some (.int .i64 r.s):=R1.cell 1 rfl
   have k2:wr.cell? ⟨wS.heap.size,2,none⟩=some (.int .i64 r.t):=R1.cell 2 rfl
   have k3:wr.cell? ⟨wS.heap.size,3,none⟩=some (.int .i64 r.n):=R1.cell 3 rfl
   have z0:wr.cell? ⟨w.heap.size,0,none⟩=some (.int .i64 0):=Z1.cell 0 rfl
   have z1:wr.cell? ⟨w.heap.size,1,none⟩=some (.int .i64 0):=Z1.cell 1 rfl
   have z2:wr.cell? ⟨w.heap.size,2,none⟩=some (.int .i64 0):=Z1.cell 2 rfl
   have z3:wr.cell? ⟨w.heap.size,3,none⟩=some (.int .i64 0):=Z1.cell 3 rfl
   have f0:=Z1.frozen 0
   have f1:=Z1.frozen 1
   have f2:=Z1.frozen 2
   have f3:=Z1.frozen 3
   clear HR HR0 HST HAL HLE HCL HPL hr hm hb ht e0 HLA hae
   have R4:=Z1.set4 r
   have B4:Below w.heap.size w _:=below_drewN (below_set4 B1 (Nat.le_refl _) (.int .i64 r.e) (.int .i64 r.s) (.int .i64 r.t) (.int .i64 r.n)) 1
   clear Z1 B1 R1
   go_wp2
   go_region
   go_wp2
   refine bodyPost_ret (results_R3 rfl _ _ w.heap.size r _ _ rfl rfl rfl R4) rfl ?_
   rw[HE.out.1,HE.out.2.1,HE.out.2.2]
   exact⟨rfl,B4⟩
end Go.Proofs.YtflbcjgkdokhiaaGreatDoor
