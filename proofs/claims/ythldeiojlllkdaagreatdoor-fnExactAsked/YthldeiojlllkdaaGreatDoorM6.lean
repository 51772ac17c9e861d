/- What ReadRecord of the model answers. -/
import Derived.Test.YthldeiojlllkdaaGreatDoorM5
set_option maxRecDepth 20000
set_option maxHeartbeats 8000000
namespace Go.Proofs.YthldeiojlllkdaaGreatDoor
open Go.ChangeShapes Go.WideShapes Go.ChangeAt Go.RowKit
def gX (s:Bs):Rc:=(cF s).getD Rc.zero
def isR (s:Bs):Bool:=(cF s).isSome
theorem fg {s:Bs} (h:cF s=none):gX s=Rc.zero/\isR s=false:=by simp[gX,isR,h]
theorem qK {s:Bs} {r:Rc} (h:cF s=some r):gX s=r/\isR s=true:=by simp[gX,isR,h]
theorem qL {s:Bs} (h:(ay 32 s).length≠5):cF s=none:=by
 unfold cF;rw[if_neg];rintro⟨_,h2⟩;have hne:=List.length_pos_iff.2 (dV 32 s);unfold mS at h2;simp only[Bool.and_eq_true,decide_eq_true_eq,List.length_tail]at h2;omega
theorem pf {s:Bs} (h:(ay 32 s).head? ≠some gO):cF s=none:=by
 unfold cF;rw[if_neg];rintro⟨h1,_⟩;exact h h1
theorem qM {s:Bs} {j:Nat} (hj:j<(ay 32 s).tail.length) (h:okN ((ay 32 s).tail.getD j [])=false):cF s=none:=by
 unfold cF;rw[if_neg];rintro⟨_,h2⟩;unfold mS at h2;simp only[Bool.and_eq_true,decide_eq_true_eq]at h2;have:=List.all_eq_true.1 h2.1.2 _ (kO _ j hj);rw[h]at this;cases this
theorem qN {s:Bs} (h:(df (ay 32 s).tail).ok=false):cF s=none:=by
 unfold cF;rw[if_neg];rintro⟨_,h2⟩;unfold mS at h2;rw[h]at h2;simp at h2
theorem pg {s:Bs} (h1:(ay 32 s).head? =some gO) (h2:(ay 32 s).tail.length=4) (h3:(ay 32 s).tail.all okN=true) (h4:(df (ay 32 s).tail).ok=true):cF s=some (df (ay 32 s).tail):=by
 unfold cF;rw[if_pos];refine⟨h1,?_⟩;unfold mS;rw[h3,h4,h2];rfl
theorem uT {ws:List Bs} {j:Nat} (h:(ws.take j).all okN=true) (hj:j<ws.length) (h2:okN (ws.getD j [])=true):(ws.take (j+1)).all okN=true:=by
 rw[pc ws j hj,List.all_append,h];simpa using h2
theorem zR {ws:List Bs} {j:Nat} (hj:j<ws.length):(ws.take (j+1)).map num=(ws.take j).map num++[num (ws.getD j [])]:=by
 rw[pc ws j hj,List.map_append];rfl
theorem xr {ws:List Bs} (h:ws.length=4):ws.map num=[(df ws).e,(df ws).s,(df ws).t,(df ws).n]:=by
 match ws,h with
 |[a,b,c,d],_=>rfl
theorem zS (ws:List Bs):(df ws).Fit:=by
 have h:=fun l=>Eb l
 have h0:=h (ws.getD 0 []);have h1:=h (ws.getD 1 []);have h2:=h (ws.getD 2 []);have h3:=h (ws.getD 3 []);unfold Rc.Fit df;dsimp only;omega
theorem Ev (w:World) (x:Int):∀j u,([Value.int .i64 x])[j]?=some u->(w.alloc (.cells #[.int .i64 x] 2)).cell? ((⟨w.heap.size,0,none⟩:Addr).add j)=some u:=by
 intro j u hj
 match j,hj with
 |0,hj=>simp at hj;subst hj;simp[Addr.add]
theorem Db {w wr w':World} {o v':Value} {out:List Int} {x:Int} {ob:Obj} (hO:Own wr w.heap.size o out) (hB:iO w wr)
  (hown:w'.ownsRow w.heap.size 2 1 v' (out.length+1) (out.map (Value.int .i64)++[.int .i64 x])) (hg:(wr.alloc ob).grownBy w' o.ownBlock):Own w' w.heap.size v' (out++[x])/\iO w w':=by
 refine⟨?_,(hB.alloc hB.size ob).grown hg (by simp;have:=hB.size;omega) (fun k e=>(hO.lt k e).1)⟩;unfold Own;rw[List.map_append];simpa using hown
theorem uU (c:UInt8) (s:Bs):∀p∈ay c s,p.length<=s.length:=by
 induction s with
 |nil=>simp[ay]
 |cons b t ih=>
  intro p hp;rw[ay]at hp;split at hp
  ·rcases List.mem_cons.1 hp with rfl|hp
   ·simp
   ·have:=ih p hp;simp;omega
  ·cases hs:ay c t with
   |nil=>exact absurd hs (dV c t)
   |cons q qs=>
    rw[hs]at hp ih;simp only[eR,List.mem_cons]at hp;rcases hp with rfl|hp
    ·have:=ih q Fg;simp;omega
    ·have:=ih p (by simp[hp]);simp;omega
theorem xt (s:Bs) (w:World) (hl:s.length<=1048576):
  Calls Tryz.prog 93 #[S s] w fun e w'=>e=.returned (.tuple #[RV (gX s),.bool (isR s)])/\iO w w':=by
 obtain⟨i0,hi,hz0,hz1,hz2⟩:=info_parts Gz;have R0:=cE.new w 38 Rc.zero;have B0:iO w (w.alloc (.cells (de Rc.zero) 38)):=Fc;have c1:∀wx,Calls Tryz.prog 128 #[S s,.int .u8 32] wx _:=fun wx=>pm s 32 wx hl
 have hpt:=uU 32 s;have E1:Hid ((ay 32 s).length≠5->cF s=none):=qL;have E2:Hid ((ay 32 s).head? ≠some gO->cF s=none):=pf;have E3:Hid (∀j,j<(ay 32 s).tail.length->okN ((ay 32 s).tail.getD j [])=false->cF s=none):=fun j=>qM
 have E4:Hid ((df (ay 32 s).tail).ok=false->cF s=none):=qN;have E5:Hid ((ay 32 s).head? =some gO->(ay 32 s).tail.length=4->(ay 32 s).tail.all okN=true->(df (ay 32 s).tail).ok=true->cF s=some (df (ay 32 s).tail)):=pg;obtain⟨ws,hws⟩:=Fe (ay 32 s)
 rw[<-hws]at E1 E2 E3 E4 E5 hpt;simp only[<-hws]at c1;have HPT:Hid (∀p∈ws,p.length<=1048576):=fun p hp=>by have:=hpt p hp;omega
 clear hws hpt hl;unfold S at*;go_enter Tryz.func93,Tryz.ntmps93;go_wp2_with fail
 refine(c1 _).mono ?_;rintro e wS ⟨u,rfl,o1,b1⟩;clear c1;have RS:=R0.below b1;have BS:=B0.trans (b1.mono B0.size);have hsS:w.heap.size<wS.heap.size:=RS.lt;by_cases h5:ws.length=5
 ·obtain⟨g,cap,rfl, -⟩:=World.ownsRow.form o1 Ff
  have HC:Hid (∀j,j<5->wS.cell? ⟨g,j,none⟩=some (.string ⟨(ws.getD j []).toArray⟩)):=by
   intro j hj;have hjw:j<ws.length:=by omega
   have:=World.ownsRow.cellAt (w:=wS) o1 j Ff;rw[this];simp[hjw,S]
  have hcap:5<=cap:=by obtain⟨_,_,he,hle, -⟩:=o1.reads;cases he;omega
  have c0:=HC.out 0 Ff;have hhd:ws.head? =some (ws.getD 0 []):=by cases ws with|nil=>simp at h5|cons x t=>rfl
  rw[h5];clear o1 E1 R0 B0 b1;by_cases hw0:ws.getD 0 []=gO
  ·rw[hw0]at hhd c0
   replace E2:Hid (ws.head? =some gO):=hhd;unfold gO at c0;clear hhd hw0;have HV:Hid (ws.length=5):=h5;have htl:ws.tail.length=4:=by rw[List.length_tail];omega
   have HT:Hid (∀j,j<4->ws.getD (j+1) []=ws.tail.getD j []):=by
    intro j hj;cases ws with
    |nil=>simp at h5
    |cons x t=>rfl
   clear h5;obtain⟨vs,hvs⟩:=Fe ws.tail
   rw[<-hvs]at htl HT E3 E4 E5;clear hvs;go_wp2;go_loopw [5,6] (fun o i wr=>∃(xs:List Int) (ao:Option Addr) (oc:Nat),o=.slice ao xs.length oc/\i=.int .i64 ((xs.length:Int)+1)/\(xs.length:Int)<=4/\Hid (Own wr wS.heap.size (.slice ao xs.length oc) xs/\iO wS wr/\xs=(vs.take xs.length).map num/\(vs.take xs.length).all okN=true)) (fun _ i _=>5-(intOf i).toNat)
   case atStart=>exact⟨[],_,_,rfl,rfl,by simp,World.ownsRow_lit wS #[] 0 (Nat.le_refl _) (Nat.zero_le _) rfl,Fc,rfl,rfl⟩
   case round=>
    obtain⟨xs,ao,oc,rfl,rfl,hj,HR⟩:=hrel;by_cases hlt:(xs.length:Int)+1<5
    ·have hjv:xs.length<vs.length:=by omega
     have hcw:=HC.out (xs.length+1) Ff;rw[HT.out xs.length Ff]at hcw;have hcell:wr.cell? ⟨g,xs.length+1,none⟩=some (.string ⟨(vs.getD xs.length []).toArray⟩):=by
      rw[HR.out.2.1.cell (p:=⟨g,xs.length+1,none⟩) (World.block_lt_of_cell? wS _ hcw)];exact hcw
     have hpl:(vs.getD xs.length []).length<=1048576:=by
      have:=HPT.out (ws.getD (xs.length+1) []) (kO ws (xs.length+1) (by have:=HV.out;omega))
      rwa[HT.out xs.length Ff]at this
     have c2:=fun wx=>zP (vs.getD xs.length []) wx hpl
     have E3j:Hid (okN (vs.getD xs.length [])=false->cF s=none):=E3.out xs.length Ff;have HA:Hid (okN (vs.getD xs.length [])=true->(vs.take (xs.length+1)).all okN=true):=fun h=>uT HR.out.2.2.2 hjv h
     have HM:Hid (xs++[num (vs.getD xs.length [])]=(vs.take (xs.length+1)).map num):=by rw[Hid,zR hjv];exact congrArg (·++[num (vs.getD xs.length [])]) HR.out.2.2.1
     obtain⟨p,hp⟩:=Fe (vs.getD xs.length [])
     rw[<-hp]at hcell hpl E3j HA HM;simp only[<-hp]at c2;obtain⟨b,hb⟩:=Fe (okN p)
     obtain⟨x,hx⟩:=Fe (num p)
     rw[<-hb]at E3j HA;rw[<-hx]at HM;simp only[<-hb,<-hx]at c2;unfold S at c2;clear hp hb hx hcw c0;have hij:((xs.length:Int)+1).toNat=xs.length+1:=by omega
     go_wp2_with fail
     refine Fd (c2 _) ?_;clear c2;cases b with
     |false=>
      have HE:Hid (gX s=Rc.zero/\isR s=false):=fg (E3j.out rfl);have R1:=RS.below (HR.out.2.1);have B1:=BS.trans (HR.out.2.1.mono BS.size);have hs1:=HR.out.2.1.size;go_wp2_with (refine cR rfl _ _ rfl w.heap.size Rc.zero Rc.zero rfl rfl R1 ?_;intro w2 R2 G2)
      refine bodyPost_ret (dL rfl _ _ w.heap.size _ _ rfl rfl R2) rfl ?_;rw[HE.out.1,HE.out.2];exact⟨rfl,B1.grown G2 Ff (fun k e=>by cases e;exact Nat.le_refl _)⟩
     |true=>
      have HA2:Hid ((vs.take (xs.length+1)).all okN=true):=HA.out rfl;clear HA;have hown:=HR.out.1;have hbs:=HR.out.2.1.size;unfold Own at hown;go_wp2_with (at_builtin;refine wpList_append_own _ rfl _ _ 22 rfl wS.heap.size 2 i0 (.int .i64 0) 1 8 Tryz.underlying22 hi hz0 hz1 hz2 rfl Fh _ _ _ rfl (hown.alloc _) _ 1 1 [.int .i64 x] rfl rfl (Ev wr x) (by simp[Value.oneCell']) (by unfold maxLen;omega) Ff (by simp;omega) ?_)
      intro v' w2 hown' hgrow _;have HO:Hid (Own w2 wS.heap.size v' (xs++[x])/\iO wS w2):=Db HR.out.1 HR.out.2.1 hown' hgrow;clear hown hown' hgrow HR;obtain⟨ao2,cap2,hev, -⟩:=HO.out.1.reads;subst hev;go_wp2;go_roundw
      case rel=>exact⟨xs++[x],ao2,cap2,rfl,by simp,by simp;omega,HO.out.1,HO.out.2,by rw[List.length_append];exact HM.out,by rw[List.length_append];exact HA2.out⟩
      case measure=>simp[intOf];omega
    ·have hx4:xs.length=4:=by omega
     have hxs:xs=[(df vs).e,(df vs).s,(df vs).t,(df vs).n]:=by
      have:=HR.out.2.2.1;rwa[List.take_of_length_le Ff,xr htl]at this
     have hall:vs.all okN=true:=by have:=HR.out.2.2.2;rwa[List.take_of_length_le Ff]at this
     obtain⟨r,hr⟩:=Fe (df vs)
     rw[<-hr]at hxs E4 E5;have hrf:r.Fit:=by rw[hr];exact zS vs
     subst hxs;obtain⟨og,oc',heo, -⟩:=World.ownsRow.form HR.out.1 Fg;cases heo;have k0:wr.cell? ⟨og,0,none⟩=some (.int .i64 r.e):=by have:=World.ownsRow.cellAt (w:=wr) HR.out.1 0 Fg;simpa using this
     have k1:wr.cell? ⟨og,1,none⟩=some (.int .i64 r.s):=by have:=World.ownsRow.cellAt (w:=wr) HR.out.1 1 Fg;simpa using this
     have k2:wr.cell? ⟨og,2,none⟩=some (.int .i64 r.t):=by have:=World.ownsRow.cellAt (w:=wr) HR.out.1 2 Fg;simpa using this
     have k3:wr.cell? ⟨og,3,none⟩=some (.int .i64 r.n):=by have:=World.ownsRow.cellAt (w:=wr) HR.out.1 3 Fg;simpa using this
     have hoc:4<=oc:=by obtain⟨_,_,he,hle, -⟩:=HR.out.1.reads;cases he;simpa using hle
     have hog:og<wr.heap.size:=(HR.out.1.lt og rfl).2;have hne:og≠wr.heap.size:=by omega
     have R1:=RS.below (HR.out.2.1);have B1:=BS.trans (HR.out.2.1.mono BS.size);have hs1:=HR.out.2.1.size;have c3:=fun wx=>oT r wx
     have HF:Hid (r.ok=false->gX s=Rc.zero/\isR s=false):=fun h=>fg (E4.out h)
     have HG:Hid (r.ok=true->gX s=r/\isR s=true):=fun h=>qK (E5.out E2.out htl hall h)
     obtain⟨b,hb⟩:=Fe r.ok
     rw[<-hb]at HF HG;simp only[<-hb]at c3;clear hb hr hall hrf hx4 HR E2 E3 E4 E5 HC HT HPT HV c0;simp only[List.length_cons,List.length_nil,Nat.zero_add,Nat.reduceAdd];go_wp2
     go_region
     obtain⟨w3,hw3⟩:=Fe ((wr.alloc (.cells (de r) 38)).drew)
     have R3:cE w3 w.heap.size 38 Rc.zero:=by rw[hw3];exact R1.alloc _
     have Q3:cE w3 wr.heap.size 38 r:=by rw[hw3];exact cE.new wr _ r
     have B3:iO w w3:=by rw[hw3];exact below_drewN (B1.alloc B1.size _) 1
     unfold de at hw3;rw[<-hw3];clear hw3 k0 k1 k2 k3 R1 B1;have hrr:w.heap.size≠wr.heap.size:=by omega
     unfold RV at c3;go_wp2_with (refine ic rfl _ rfl wr.heap.size rfl r Q3 ?_;unfold RV)
     refine(c3 _).mono ?_;rintro e w4 ⟨rfl,b4⟩;have R4:=R3.below b4;have Q4:=Q3.below b4;have B4:=B3.trans (b4.mono B3.size);have hs4:=R4.lt;clear c3 b4 R3 Q3 B3;cases b with
     |false=>
      have HE:=HF.out rfl;go_wp2_with (refine cR rfl _ _ rfl w.heap.size Rc.zero Rc.zero rfl rfl R4 ?_;intro w5 R5 G5)
      refine bodyPost_ret (dL rfl _ _ w.heap.size _ _ rfl rfl R5) rfl ?_;rw[HE.1,HE.2];exact⟨rfl,B4.grown G5 Ff (fun k e=>by cases e;exact Nat.le_refl _)⟩
     |true=>
      have HE:=HG.out rfl;go_wp2_with (first|(refine ic rfl _ rfl wr.heap.size rfl r Q4 ?_)|(refine cR rfl _ _ rfl w.heap.size r Rc.zero rfl rfl R4 ?_;intro w5 R5 G5))
      refine bodyPost_ret (dL rfl _ _ w.heap.size _ _ rfl rfl R5) rfl ?_;rw[HE.1,HE.2];exact⟨rfl,B4.grown G5 Ff (fun k e=>by cases e;exact Nat.le_refl _)⟩
  ·have HE:Hid (gX s=Rc.zero/\isR s=false):=fg (E2.out (by rw[hhd];intro h;exact hw0 (Option.some.inj h)))
   have hbeq:(ws.getD 0 []==gO)=false:=by simpa using hw0
   obtain⟨x0,hx0⟩:=Fe (ws.getD 0 [])
   rw[<-hx0]at c0 hbeq;unfold gO at hbeq;clear hx0 hw0 hhd E2 E3 E4 E5 HPT HC h5;go_wp2_with (refine cR rfl _ _ rfl w.heap.size Rc.zero Rc.zero rfl rfl RS ?_;intro w2 R2 G2)
   refine bodyPost_ret (dL rfl _ _ w.heap.size _ _ rfl rfl R2) rfl ?_;rw[HE.out.1,HE.out.2];exact⟨rfl,BS.grown G2 Ff (fun k e=>by cases e;exact Nat.le_refl _)⟩
 ·have HE:Hid (gX s=Rc.zero/\isR s=false):=fg (E1.out h5)
  obtain⟨ao,cap,rfl, -⟩:=o1.reads;have h5':((ws.length:Int) !=5)=true:=by simp;omega
  clear o1 h5 E1 E2 E3 E4 E5 HPT R0 B0 b1;go_wp2_with (refine cR rfl _ _ rfl w.heap.size Rc.zero Rc.zero rfl rfl RS ?_;intro w2 R2 G2)
  refine bodyPost_ret (dL rfl _ _ w.heap.size _ _ rfl rfl R2) rfl ?_;rw[HE.out.1,HE.out.2];exact⟨rfl,BS.grown G2 Ff (fun k e=>by cases e;exact Nat.le_refl _)⟩
theorem uV {x:Bs} (a:Option (Rc×Nat)) (n:Nat) (h:isR x=true):gd a (x,n)=some (gX x,n):=by
 unfold isR gX at*;unfold gd;cases hr:cF x with
 |none=>rw[hr]at h;cases h
 |some r=>rfl
theorem yj {x:Bs} (a:Option (Rc×Nat)) (n:Nat) (h:isR x=false):gd a (x,n)=a:=by
 unfold isR at h;unfold gd;cases hr:cF x with
 |none=>rfl
 |some r=>rw[hr]at h;cases h
theorem ph {fn:Func} {p q u:Tmp} (h:fn.results=#[.cell p 38,.tmp q,.tmp u]) (tmps:Array Value) (w:World) (g:Nat) (r:Rc) (x y:Value)
  (hp:tmps.getD p undef=.pointer (some ⟨g,0,none⟩)) (hx:tmps.getD q undef=x) (hy:tmps.getD u undef=y) (hr:cE w g 38 r):(results fn tmps).run Tryz.prog w=.ok (.tuple #[RV r,x,y]) w:=by
 obtain⟨fs,hu⟩:=Hz;have hl:=run_loadVar_row w g _ _ _ _ _ hr hu rfl GA;have hp':tmps[p]?.getD undef=.pointer (some ⟨g,0,none⟩):=by simpa using hp
 have hx':tmps[q]?.getD undef=x:=by simpa using hx
 have hy':tmps[u]?.getD undef=y:=by simpa using hy
 simp[results,h,hp',hx',hy',asAddr,hl];rfl
theorem cE.set4 {w:World} {g:Nat} {t:TypeId} {q:Rc} (h:cE w g t q) (r:Rc):cE ((((w.setCell ⟨g,0,none⟩ (.int .i64 r.e)).setCell ⟨g,1,none⟩ (.int .i64 r.s)).setCell ⟨g,2,none⟩ (.int .i64 r.t)).setCell ⟨g,3,none⟩ (.int .i64 r.n)) g t r:=by
 have h0:=heap_setCell_same w g 0 _ _ (.int .i64 r.e) h;have h1:=heap_setCell_same _ g 1 _ _ (.int .i64 r.s) h0;have h2:=heap_setCell_same _ g 2 _ _ (.int .i64 r.t) h1;exact heap_setCell_same _ g 3 _ _ (.int .i64 r.n) h2
theorem xu {w0 w:World} {g:Nat} (B:iO w0 w) (hg:w0.heap.size<=g) (a b c d:Value):iO w0 ((((w.setCell ⟨g,0,none⟩ a).setCell ⟨g,1,none⟩ b).setCell ⟨g,2,none⟩ c).setCell ⟨g,3,none⟩ d):=
 (((B.setCell (p:=⟨g,0,none⟩) hg a).setCell (p:=⟨g,1,none⟩) hg b).setCell (p:=⟨g,2,none⟩) hg c).setCell (p:=⟨g,3,none⟩) hg d
theorem uX (s:Bs) (w:World) (hl:s.length<=1048576):
  Calls Tryz.prog 50 #[S s] w fun e w'=>e=.returned (.tuple #[RV (gP (aF s)),S (s.take (recAt (aF s))),.bool (aF s).isSome])/\iO w w':=by
 have hsz:(⟨s.toArray⟩:ByteArray).size=s.length:=rfl;have R0:=cE.new w 38 Rc.zero;have B0:iO w (w.alloc (.cells (de Rc.zero) 38)):=Fc;have c1:=fun wx=>tc s wx hl
 obtain⟨hpl, -,hcl,hxl⟩:=dI s;have hle:=j9 s;have HST:Hid (∀i,i<(ar s).1.length->dj ((bV s).take (i+1))=gd (dj ((bV s).take i)) ((ar s).1.getD i [],(cat ((ar s).1.take (i+1))).length)):=jh s;have HAL:Hid (dj ((bV s).take (ar s).1.length)=aF s):=kB s;have HLE:Hid (∀i,i<=(ar s).1.length->recAt (dj ((bV s).take i))<=s.length):=ji s;have HCL:Hid (∀i,(cat ((ar s).1.take i)).length<=s.length):=fun i=>by have:=kN (ar s).1 i;omega
 obtain⟨xs,hxs⟩:=Fe ((ar s).1)
 obtain⟨n0,hn0⟩:=Fe ((ar s).2)
 rw[<-hxs]at hpl hcl hxl HST HAL HLE HCL;simp only[<-hxs,<-hn0]at c1;have HPL:Hid (∀t∈xs,bR t=true):=hpl;obtain⟨ws,hws⟩:=Fe (bV s)
 rw[<-hws]at HST HAL HLE;clear hxs hn0 hws hpl hcl hle;unfold S at*;go_enter Tryz.func50,Tryz.ntmps50;go_wp2_with fail
 refine(c1 _).mono ?_;rintro e wS ⟨u,rfl,o1,b1⟩;have RS:=R0.below b1;have BS:=B0.trans (b1.mono B0.size);have hsS:w.heap.size<wS.heap.size:=RS.lt;obtain⟨ao,cap,rfl,hcap, -, -⟩:=o1.reads;have HR0:Hid (fY wS (.slice ao xs.length cap) xs):=o1.reads;have QS:=cE.new wS 38 Rc.zero;clear c1 b1 R0 B0 o1;go_wp2;go_loopw [7,9,10,11] (fun us at' fo i wr=>∃(j n:Nat) (a:Option (Rc×Nat)),i=.int .i64 j/\(j:Int)<=xs.length/\us=.int .i64 n/\(n:Int)<=s.length/\at'=.int .i64 (recAt a:Nat)/\fo=.bool a.isSome/\Hid (n=(cat (xs.take j)).length/\a=dj (ws.take j)/\cE wr wS.heap.size 38 (gP a)/\iO wS wr)) (fun _ _ _ i _=>xs.length-(intOf i).toNat)
 case atStart=>
  refine⟨0,0,none,rfl,by omega,rfl,by omega,rfl,rfl,by simp[cat],rfl,QS,Fc⟩
 case round=>
  obtain⟨j,n,a,rfl,hj,rfl,hn,rfl,rfl,HR⟩:=hrel;by_cases hlt:(j:Int)<(xs.length:Int)
  ·have hjx:j<xs.length:=by omega
   have hpx:=HPL.out _ (kO xs j hjx);have hx3:(xs.getD j []).length<=300:=vA hpx;have c2:=fun wx=>jN (xs.getD j []) wx Ff
   have c3:=fun wx=>xt (xs.getD j []) wx Ff
   obtain⟨ao',cap',he,_,_,hcells⟩:=HR0.out.below HR.out.2.2.2 (Nat.le_refl _);cases he;have hce:∃b off,ao=some ⟨b,off,none⟩/\wr.cell? ⟨b,off+j,none⟩=some (.string ⟨(xs.getD j []).toArray⟩):=by
    rcases hcells with e|⟨b,off,e,h4⟩
    ·rw[e]at hjx;simp at hjx
    ·exact⟨b,off,e,h4 j hjx⟩
   obtain⟨vb,vo,rfl,hcell⟩:=hce;have hvlt:vb<wr.heap.size:=World.block_lt_of_cell? wr _ hcell;have hcat:=AA xs j hjx;have HN:Hid ((cat (xs.take (j+1))).length=n+(aI (xs.getD j [])).length):=by rw[Hid,hcat,List.length_append,<-HR.out.1]
   have hnl:n+(aI (xs.getD j [])).length<=s.length:=by rw[<-HN.out];exact HCL.out _
   have HS:Hid (dj (ws.take (j+1))=gd a (xs.getD j [],n+(aI (xs.getD j [])).length)):=by
    rw[Hid,HST.out j hjx,<-HR.out.2.1,HN.out]
   have HLJ:Hid (recAt (dj (ws.take (j+1)))<=s.length):=HLE.out _ Ff;have HY:Hid (isR (xs.getD j [])=true->dj (ws.take (j+1))=some (gX (xs.getD j []),n+(aI (xs.getD j [])).length)):=fun h=>by rw[HS.out,uV _ _ h]
   have HNo:Hid (isR (xs.getD j [])=false->dj (ws.take (j+1))=a):=fun h=>by rw[HS.out,yj _ _ h]
   obtain⟨x,hx⟩:=Fe (xs.getD j [])
   obtain⟨f,hf⟩:=Fe (aI (xs.getD j []))
   obtain⟨r,hr⟩:=Fe (gX (xs.getD j []))
   obtain⟨b,hb⟩:=Fe (isR (xs.getD j []))
   rw[<-hb]at HY HNo;rw[<-hf,<-hr]at HY;rw[<-hf]at HN hnl;simp only[<-hf]at c2;simp only[<-hr,<-hb]at c3;rw[<-hx]at hcell;simp only[<-hx]at c2 c3;have hfz:(⟨f.toArray⟩:ByteArray).size=f.length:=rfl;unfold S at c2 c3;clear hx hf hr hb hcat hpx hcells HS;go_wp2_with fail
   refine(c2 _).mono ?_;rintro e w1 ⟨rfl,b1⟩;have HR1:Hid (cE w1 wS.heap.size 38 (gP a)/\iO wS w1):=⟨HR.out.2.2.1.below b1,HR.out.2.2.2.trans (b1.mono HR.out.2.2.2.size)⟩
   have hcell1:w1.cell? ⟨vb,vo+j,none⟩=some (.string ⟨x.toArray⟩):=by
    rw[b1.cell (p:=⟨vb,vo+j,none⟩) hvlt];exact hcell
   clear b1 c2 hcell HR;go_wp2_with fail
   refine(c3 _).mono ?_;rintro e w2 ⟨rfl,b2⟩;have HR2:Hid (cE w2 wS.heap.size 38 (gP a)/\iO wS w2):=⟨HR1.out.1.below b2,HR1.out.2.trans (b2.mono HR1.out.2.size)⟩
   clear b2 c3 hcell1 HR1;obtain⟨w3,hw3⟩:=Fe (w2.alloc (.cells (de r) 38))
   have hba:iO w2 w3:=by rw[hw3];exact Fc
   have HR3:Hid (cE w3 wS.heap.size 38 (gP a)/\iO wS w3):=⟨HR2.out.1.below hba,HR2.out.2.trans (hba.mono HR2.out.2.size)⟩
   have Q3:cE w3 w2.heap.size 38 r:=by rw[hw3];exact cE.new w2 _ r
   have hs3:w3.heap.size=w2.heap.size+1:=by rw[hw3];simp
   have hg2:=HR2.out.1.lt;have hwb:=HR2.out.2.size;clear HR2 hba;unfold RV;cases b with
   |false=>
    have HE:=HNo.out rfl;unfold de at hw3⊢;go_wp2;rw[<-hw3];go_roundw
    case rel=>exact⟨j+1,n+f.length,a,by go_num,by omega,by go_num,by omega,rfl,rfl,HN.out.symm,HE.symm,HR3.out.1,HR3.out.2⟩
    case measure=>simp[intOf];omega
   |true=>
    have HE:=HY.out rfl;have e1:gP (some (r,n+f.length))=r:=rfl;have hne:wS.heap.size≠w2.heap.size:=by omega
    unfold de at hw3⊢;go_wp2_with (first|(refine ic rfl _ rfl w2.heap.size rfl r (by rw[<-hw3];exact Q3) ?_;unfold RV de)|(refine cR rfl _ _ rfl wS.heap.size r (gP a) rfl rfl (by rw[<-hw3];exact HR3.out.1) ?_;rw[<-hw3];intro w4 R4 G4))
    have HB4:Hid (iO wS w4):=HR3.out.2.grown G4 Ff (fun k e=>by cases e;exact Nat.le_refl _);go_roundw
    case rel=>exact⟨j+1,n+f.length,some (r,n+f.length),by go_num,by omega,by go_num,by omega,by simp[recAt],rfl,HN.out.symm,HE.symm,R4,HB4.out⟩
    case measure=>simp[intOf];omega
  ·obtain rfl:j=xs.length:=by omega
   have hae:a=aF s:=by rw[HR.out.2.1];exact HAL.out
   have HLA:Hid (recAt (aF s)<=s.length):=by have:=HLE.out xs.length (Nat.le_refl _);rwa[HAL.out]at this
   rw[<-hae]at HLA;have hla:((recAt a:Nat):Int)<=s.length:=by have:=HLA.out;omega
   have R1:=HR.out.2.2.1;have Z1:=RS.below HR.out.2.2.2;have B1:=BS.trans (HR.out.2.2.2.mono BS.size);have hex:=cB s 0 (recAt a);have e0:cV s 0 (recAt a)=s.take (recAt a):=by simp[cV]
   rw[e0]at hex;obtain⟨r,hr⟩:=Fe (gP a)
   obtain⟨m,hm⟩:=Fe (recAt a)
   obtain⟨b,hb⟩:=Fe a.isSome
   obtain⟨t,ht⟩:=Fe (s.take (recAt a))
   have HE:Hid (gP (aF s)=r/\s.take (recAt (aF s))=t/\(aF s).isSome=b):=by rw[<-hae];exact⟨hr.symm,ht.symm,hb.symm⟩
   rw[<-hr]at R1;rw[<-ht]at hex;rw[<-hm]at hex hla⊢;rw[<-hb];have k0:wr.cell? ⟨wS.heap.size,0,none⟩=some (.int .i64 r.e):=R1.cell 0 rfl;have k1:wr.cell? ⟨wS.heap.size,1,none⟩=some (.int .i64 r.s):=R1.cell 1 rfl;have k2:wr.cell? ⟨wS.heap.size,2,none⟩=some (.int .i64 r.t):=R1.cell 2 rfl;have k3:wr.cell? ⟨wS.heap.size,3,none⟩=some (.int .i64 r.n):=R1.cell 3 rfl;have z0:wr.cell? ⟨w.heap.size,0,none⟩=some (.int .i64 0):=Z1.cell 0 rfl;have z1:wr.cell? ⟨w.heap.size,1,none⟩=some (.int .i64 0):=Z1.cell 1 rfl;have z2:wr.cell? ⟨w.heap.size,2,none⟩=some (.int .i64 0):=Z1.cell 2 rfl;have z3:wr.cell? ⟨w.heap.size,3,none⟩=some (.int .i64 0):=Z1.cell 3 rfl;have f0:=Z1.frozen 0;have f1:=Z1.frozen 1;have f2:=Z1.frozen 2;have f3:=Z1.frozen 3;clear HR HR0 HST HAL HLE HCL HPL hr hm hb ht e0 HLA hae;have R4:=Z1.set4 r;have B4:iO w _:=below_drewN (xu B1 (Nat.le_refl _) (.int .i64 r.e) (.int .i64 r.s) (.int .i64 r.t) (.int .i64 r.n)) 1;clear Z1 B1 R1;go_wp2
   go_region
   go_wp2;refine bodyPost_ret (ph rfl _ _ w.heap.size r _ _ rfl rfl rfl R4) rfl ?_;rw[HE.out.1,HE.out.2.1,HE.out.2.2];exact⟨rfl,B4⟩
def ndA (a b k q z:Value) (n:Nd):Array Value:=#[.int .i64 n.id,.bool n.up,a,b,k,.int .i64 n.h.kd,.int .i64 n.h.ho,.int .i64 n.h.tu,S n.log,.int .i64 n.r.e,.int .i64 n.r.s,.int .i64 n.r.t,.int .i64 n.r.n,.int .i64 n.c.tr,.bool n.c.op,.int .i64 n.c.di,.int .i64 n.c.wa,q,.int .i64 n.s.tr,z]
def NdV (a b k q z:Value) (n:Nd):Value:=.agg (ndA a b k q z n)
theorem GO:IsS 42 20:=⟨⟨_,Tryz.underlying42⟩,by kernel_rfl⟩
structure RdN (w:World) (a b k q z:Value) (n:Nd):Prop where
 ra:ag w a n.xs
 rb:ag w b n.ys
 rk:ag w k n.h.ks
 rq:ag w q n.c.ts
 rz:ag w z n.s.ts
structure SmN (n:Nd):Prop where
 la:n.xs.length<=1048576
 lb:n.ys.length<=1048576
 lk:n.h.ks.length<=1048576
 lq:n.c.ts.length<=1048576
 lz:n.s.ts.length<=1048576
 ll:n.log.length<=1048576
theorem RdN.below {w w':World} {a b k q z:Value} {n:Nd} (h:RdN w a b k q z n) (B:iO w w'):RdN w' a b k q z n:=⟨h.ra.below B (Nat.le_refl _),h.rb.below B (Nat.le_refl _),h.rk.below B (Nat.le_refl _),h.rq.below B (Nat.le_refl _),h.rz.below B (Nat.le_refl _)⟩
theorem gQ {α:Type} [BEq α] [LawfulBEq α] {a b:α} (h:(a==b)=true):a=b:=eq_of_beq h
theorem gR {α:Type} [BEq α] [LawfulBEq α] {a b:α} (h:(a==b)=false):¬a=b:=fun e=>by rw[e,beq_self_eq_true]at h;cases h
theorem gS {α:Type} [BEq α] [LawfulBEq α] {a b:α} (h:(a !=b)=true):¬a=b:=fun e=>by rw[e]at h;simp at h
theorem gT {α:Type} [BEq α] [LawfulBEq α] {a b:α} (h:(a !=b)=false):a=b:=by simpa using h
theorem iL {P:Prop} (h:P:=by(try first|have e0:=gQ f0|have e0:=gR f0|have e0:=gS f0|have e0:=gT f0);(try first|have e1:=gQ f1|have e1:=gR f1|have e1:=gS f1|have e1:=gT f1);(try first|have e2:=gQ f2|have e2:=gR f2|have e2:=gS f2|have e2:=gT f2);(try first|have e3:=gQ f3|have e3:=gR f3|have e3:=gS f3|have e3:=gT f3);(try first|have r0:=gQ u0|have r0:=gR u0|have r0:=gS u0|have r0:=gT u0);(try first|have r1:=gQ u1|have r1:=gR u1|have r1:=gS u1|have r1:=gT u1);(try first|have r2:=gQ u2|have r2:=gR u2|have r2:=gS u2|have r2:=gT u2);(try first|have r3:=gQ u3|have r3:=gR u3|have r3:=gS u3|have r3:=gT u3);(try first|have s0:=gQ t0|have s0:=gR t0|have s0:=gS t0|have s0:=gT t0);(try first|have s1:=gQ t1|have s1:=gR t1|have s1:=gS t1|have s1:=gT t1);(try first|have s2:=gQ t2|have s2:=gR t2|have s2:=gS t2|have s2:=gT t2);(try first|have s3:=gQ t3|have s3:=gR t3|have s3:=gS t3|have s3:=gT t3);(try first|have hT:=gQ hTb|have hT:=gR hTb|have hT:=gS hTb|have hT:=gT hTb);(try first|have hC:=gQ hCn|have hC:=gR hCn|have hC:=gS hCn|have hC:=gT hCn);(try first|have hK:=gQ hKn|have hK:=gR hKn|have hK:=gS hKn|have hK:=gT hKn);first|(rw[HE2.out];rw[HLB.out];unfold d8;simp[e0];done)|(rw[HE2.out];rw[HLB.out];unfold d8;simp[e1];done)|(rw[HE2.out];rw[HLB.out];unfold d8;simp[e2];done)|(rw[HE2.out];rw[HLB.out];unfold d8;simp[e3];done)|(rw[HE2.out];rw[HLB.out];simp[hT];done)|(rw[HE2.out];rw[HLT.out,HCB.out,HSB.out];simp[s0];done)|(rw[HE2.out];rw[HLT.out,HCB.out,HSB.out];rw[e1]at s1;rw[e3]at s2;simp[s1,s2,show n.s.ts.length=n.ys.length by omega];done)|(rw[HE2.out];rw[HLT.out,HCB.out,HSB.out];simp[s0,show¬n.s.ts.length=n.ys.length by omega];done)|(rw[HE2.out];rw[HLT.out,HCB.out,HSB.out];rw[e3]at s2;simp[s0,s2];done)|(rw[HE2.out];rw[HLT.out,HCB.out,HSB.out];rw[e1]at s1;simp[s0,s1];done)|(rw[HE2.out];rw[HLT.out];unfold Nd.copB;rw[e1]at r1;simp[r0,r1];done)|(rw[HE2.out];rw[HLT.out];unfold Nd.copB;rw[e2]at r2;simp[r0,r2];done)|(rw[HE2.out];rw[HLT.out];unfold Nd.copB;simp[r0,show¬n.c.ts.length=n.ys.length by omega];done)|(rw[HE2.out];rw[HLT.out,HCB.out,HSB.out];rw[e1]at r1;simp[s0,r1];done)|(rw[HE2.out];rw[HLB.out];simp[hC];done)|(rw[HE2.out];rw[HLB.out];simp[hK];done)|(rw[HE2.out];rw[HLB.out];rfl;done)|(rw[HE2.out];rw[HLT.out,HCB.out,HSB.out];rfl;done)):P:=h
theorem uQ (a b k q z:Value) (n:Nd) (w:World) (hr:RdN w a b k q z n) (hl:SmN n):
  Calls Tryz.prog 16 #[NdV a b k q z n] w fun e w'=>e=.returned (.bool n.ok)/\iO w w':=by
 have HE:Hid (n.ok=((inI n.id 0 1&&au n.xs n.ys&&n.h.ok&&n.r.ok&&decide (n.log.length<=40000)&&n.c.ok&&n.s.ok)&&n.logB&&n.copB&&n.snkB)):=rfl;obtain⟨w1,hw1⟩:=Fe (w.alloc (.cells (ndA a b k q z n) 42))
 have b1:iO w w1:=by rw[hw1];exact Fc
 have HS:Hid (StB w1 w.heap.size 42 (ndA a b k q z n)/\RdN w1 a b k q z n/\iO w w1):=⟨by rw[hw1];exact StB.new _ _ _,hr.below b1,b1⟩
 have HL:Hid (SmN n):=hl;obtain⟨a1,a2,rfl⟩:=aa hr.ra;obtain⟨b1',b2,rfl⟩:=aa hr.rb;obtain⟨k1,k2,rfl⟩:=aa hr.rk;obtain⟨q1,q2,rfl⟩:=aa hr.rq;obtain⟨z1,z2,rfl⟩:=aa hr.rz;obtain⟨x,hx⟩:=Fe n.ok
 rw[<-hx]at HE⊢;clear hx hr hl b1;have HW:Hid (w1=w.alloc (.cells #[.int .i64 n.id,.bool n.up,.slice a1 n.xs.length a2,.slice b1' n.ys.length b2,.slice k1 n.h.ks.length k2,.int .i64 n.h.kd,.int .i64 n.h.ho,.int .i64 n.h.tu,S n.log,.int .i64 n.r.e,.int .i64 n.r.s,.int .i64 n.r.t,.int .i64 n.r.n,.int .i64 n.c.tr,.bool n.c.op,.int .i64 n.c.di,.int .i64 n.c.wa,.slice q1 n.c.ts.length q2,.int .i64 n.s.tr,.slice z1 n.s.ts.length z2] 42)):=hw1;clear hw1;have ci:=fun wx=>aM n.id 0 1 wx
 obtain⟨v1,hv1⟩:=Fe (inI n.id 0 1)
 rw[<-hv1]at HE;simp only[<-hv1]at ci;obtain⟨v2,hv2⟩:=Fe (au n.xs n.ys)
 rw[<-hv2]at HE;obtain⟨v3,hv3⟩:=Fe n.h.ok
 rw[<-hv3]at HE;obtain⟨v4,hv4⟩:=Fe n.r.ok
 rw[<-hv4]at HE;obtain⟨v6,hv6⟩:=Fe n.c.ok
 rw[<-hv6]at HE;obtain⟨v7,hv7⟩:=Fe n.s.ok
 rw[<-hv7]at HE;have H2:Hid (v2=au n.xs n.ys):=hv2;have H3:Hid (v3=n.h.ok):=hv3;have H4:Hid (v4=n.r.ok):=hv4;have H6:Hid (v6=n.c.ok):=hv6;have H7:Hid (v7=n.s.ok):=hv7;clear hv1 hv2 hv3 hv4 hv6 hv7;unfold NdV ndA;have c0:w1.cell? ⟨w.heap.size,0,none⟩=some (.int .i64 n.id):=HS.out.1.cell 0 rfl;go_enter Tryz.func16,Tryz.ntmps16;go_upto_region 1 with fail
 rw[<-HW.out];clear HW;go_wp2_with fail
 refine Fd (ci _) ?_;clear ci c0;cases v1 with
 |false=>
  go_wp2;go_ret;exact⟨af (by rw[HE.out];simp),HS.out.2.2⟩
 |true=>
  have cc:=uN _ _ n.xs n.ys w1 HS.out.2.1.ra HS.out.2.1.rb (by have:=HL.out.la;omega) (by have:=HL.out.lb;omega);rw[<-H2.out]at cc
  try unfold HV hdA at cc
  try unfold RV de at cc
  try unfold CpV cpA at cc
  try unfold SnV snA at cc
  have c2:w1.cell? ⟨w.heap.size,2,none⟩=some (.slice a1 n.xs.length a2):=HS.out.1.cell 2 rfl;have c3:w1.cell? ⟨w.heap.size,3,none⟩=some (.slice b1' n.ys.length b2):=HS.out.1.cell 3 rfl;go_wp2_with fail
  refine cc.mono ?_;rintro e w2 ⟨rfl,bq⟩;replace HS:Hid (StB w2 w.heap.size 42 (ndA (.slice a1 n.xs.length a2) (.slice b1' n.ys.length b2) (.slice k1 n.h.ks.length k2) (.slice q1 n.c.ts.length q2) (.slice z1 n.s.ts.length z2) n)/\RdN w2 (.slice a1 n.xs.length a2) (.slice b1' n.ys.length b2) (.slice k1 n.h.ks.length k2) (.slice q1 n.c.ts.length q2) (.slice z1 n.s.ts.length z2) n/\iO w w2):=⟨HS.out.1.below bq,HS.out.2.1.below bq,HS.out.2.2.trans (bq.mono HS.out.2.2.size)⟩
  clear cc bq;clear c2 c3;cases v2 with
  |false=>
   go_wp2;go_ret;exact⟨af (by rw[HE.out];simp),HS.out.2.2⟩
  |true=>
   have cc:=uP _ n.h w2 HS.out.2.1.rk (by have:=HL.out.lk;omega);rw[<-H3.out]at cc
   try unfold HV hdA at cc
   try unfold RV de at cc
   try unfold CpV cpA at cc
   try unfold SnV snA at cc
   have c4:w2.cell? ⟨w.heap.size,4,none⟩=some (.slice k1 n.h.ks.length k2):=HS.out.1.cell 4 rfl;have c5:w2.cell? ⟨w.heap.size,5,none⟩=some (.int .i64 n.h.kd):=HS.out.1.cell 5 rfl;have c6:w2.cell? ⟨w.heap.size,6,none⟩=some (.int .i64 n.h.ho):=HS.out.1.cell 6 rfl;have c7:w2.cell? ⟨w.heap.size,7,none⟩=some (.int .i64 n.h.tu):=HS.out.1.cell 7 rfl;go_wp2_with fail
   refine cc.mono ?_;rintro e w3 ⟨rfl,bq⟩;replace HS:Hid (StB w3 w.heap.size 42 (ndA (.slice a1 n.xs.length a2) (.slice b1' n.ys.length b2) (.slice k1 n.h.ks.length k2) (.slice q1 n.c.ts.length q2) (.slice z1 n.s.ts.length z2) n)/\RdN w3 (.slice a1 n.xs.length a2) (.slice b1' n.ys.length b2) (.slice k1 n.h.ks.length k2) (.slice q1 n.c.ts.length q2) (.slice z1 n.s.ts.length z2) n/\iO w w3):=⟨HS.out.1.below bq,HS.out.2.1.below bq,HS.out.2.2.trans (bq.mono HS.out.2.2.size)⟩
   clear cc bq;clear c4 c5 c6 c7;cases v3 with
   |false=>
    go_wp2;go_ret;exact⟨af (by rw[HE.out];simp),HS.out.2.2⟩
   |true=>
    have cc:=oT n.r w3;rw[<-H4.out]at cc
    try unfold HV hdA at cc
    try unfold RV de at cc
    try unfold CpV cpA at cc
    try unfold SnV snA at cc
    have c9:w3.cell? ⟨w.heap.size,9,none⟩=some (.int .i64 n.r.e):=HS.out.1.cell 9 rfl;have c10:w3.cell? ⟨w.heap.size,10,none⟩=some (.int .i64 n.r.s):=HS.out.1.cell 10 rfl;have c11:w3.cell? ⟨w.heap.size,11,none⟩=some (.int .i64 n.r.t):=HS.out.1.cell 11 rfl;have c12:w3.cell? ⟨w.heap.size,12,none⟩=some (.int .i64 n.r.n):=HS.out.1.cell 12 rfl;go_wp2_with fail
    refine cc.mono ?_;rintro e w4 ⟨rfl,bq⟩;replace HS:Hid (StB w4 w.heap.size 42 (ndA (.slice a1 n.xs.length a2) (.slice b1' n.ys.length b2) (.slice k1 n.h.ks.length k2) (.slice q1 n.c.ts.length q2) (.slice z1 n.s.ts.length z2) n)/\RdN w4 (.slice a1 n.xs.length a2) (.slice b1' n.ys.length b2) (.slice k1 n.h.ks.length k2) (.slice q1 n.c.ts.length q2) (.slice z1 n.s.ts.length z2) n/\iO w w4):=⟨HS.out.1.below bq,HS.out.2.1.below bq,HS.out.2.2.trans (bq.mono HS.out.2.2.size)⟩
    clear cc bq;clear c9 c10 c11 c12;cases v4 with
    |false=>
     go_wp2;go_ret;exact⟨af (by rw[HE.out];simp),HS.out.2.2⟩
    |true=>
     have hll:(n.log.length:Int)<=1048576:=by have:=HL.out.ll;omega
     by_cases h5:(40000:Int)<(n.log.length:Int)
     ·skip
      have c8:w4.cell? ⟨w.heap.size,8,none⟩=some (S n.log):=HS.out.1.cell 8 rfl;unfold S at c8;go_wp2;go_ret;exact⟨af (by rw[HE.out,show decide (n.log.length<=40000)=false from decide_eq_false Ff];simp),HS.out.2.2⟩
     ·have H5:Hid (decide (n.log.length<=40000)=true):=decide_eq_true Ff
      have c8:w4.cell? ⟨w.heap.size,8,none⟩=some (S n.log):=HS.out.1.cell 8 rfl;unfold S at c8;have cc:=xm _ n.c w4 HS.out.2.1.rq (by have:=HL.out.lq;omega);rw[<-H6.out]at cc
      try unfold HV hdA at cc
      try unfold RV de at cc
      try unfold CpV cpA at cc
      try unfold SnV snA at cc
      have c13:w4.cell? ⟨w.heap.size,13,none⟩=some (.int .i64 n.c.tr):=HS.out.1.cell 13 rfl;have c14:w4.cell? ⟨w.heap.size,14,none⟩=some (.bool n.c.op):=HS.out.1.cell 14 rfl;have c15:w4.cell? ⟨w.heap.size,15,none⟩=some (.int .i64 n.c.di):=HS.out.1.cell 15 rfl;have c16:w4.cell? ⟨w.heap.size,16,none⟩=some (.int .i64 n.c.wa):=HS.out.1.cell 16 rfl;have c17:w4.cell? ⟨w.heap.size,17,none⟩=some (.slice q1 n.c.ts.length q2):=HS.out.1.cell 17 rfl;go_wp2_with fail
      refine cc.mono ?_;rintro e w5 ⟨rfl,bq⟩;replace HS:Hid (StB w5 w.heap.size 42 (ndA (.slice a1 n.xs.length a2) (.slice b1' n.ys.length b2) (.slice k1 n.h.ks.length k2) (.slice q1 n.c.ts.length q2) (.slice z1 n.s.ts.length z2) n)/\RdN w5 (.slice a1 n.xs.length a2) (.slice b1' n.ys.length b2) (.slice k1 n.h.ks.length k2) (.slice q1 n.c.ts.length q2) (.slice z1 n.s.ts.length z2) n/\iO w w5):=⟨HS.out.1.below bq,HS.out.2.1.below bq,HS.out.2.2.trans (bq.mono HS.out.2.2.size)⟩
      clear cc bq;clear c13 c14 c15 c16 c17;cases v6 with
      |false=>
       go_wp2;go_ret;exact⟨af (by rw[HE.out];simp),HS.out.2.2⟩
      |true=>
       have cc:=uY _ n.s w5 HS.out.2.1.rz (by have:=HL.out.lz;omega);rw[<-H7.out]at cc
       try unfold HV hdA at cc
       try unfold RV de at cc
       try unfold CpV cpA at cc
       try unfold SnV snA at cc
       have c18:w5.cell? ⟨w.heap.size,18,none⟩=some (.int .i64 n.s.tr):=HS.out.1.cell 18 rfl;have c19:w5.cell? ⟨w.heap.size,19,none⟩=some (.slice z1 n.s.ts.length z2):=HS.out.1.cell 19 rfl;go_wp2_with fail
       refine cc.mono ?_;rintro e w6 ⟨rfl,bq⟩;replace HS:Hid (StB w6 w.heap.size 42 (ndA (.slice a1 n.xs.length a2) (.slice b1' n.ys.length b2) (.slice k1 n.h.ks.length k2) (.slice q1 n.c.ts.length q2) (.slice z1 n.s.ts.length z2) n)/\RdN w6 (.slice a1 n.xs.length a2) (.slice b1' n.ys.length b2) (.slice k1 n.h.ks.length k2) (.slice q1 n.c.ts.length q2) (.slice z1 n.s.ts.length z2) n/\iO w w6):=⟨HS.out.1.below bq,HS.out.2.1.below bq,HS.out.2.2.trans (bq.mono HS.out.2.2.size)⟩
       clear cc bq;clear c18 c19;cases v7 with
       |false=>
        go_wp2;go_ret;exact⟨af (by rw[HE.out];simp),HS.out.2.2⟩
       |true=>
        have HE2:Hid (x=(n.logB&&n.copB&&n.snkB)):=by rw[Hid,HE.out,H5.out];rfl
        clear HE H2 H3 H4 H6 H7 H5;have HLB:Hid (n.logB=((aF n.log).isSome&&d8 (gP (aF n.log)) n.r&&(!n.up||decide (n.log.take (recAt (aF n.log))=n.log))&&(n.up||(decide (n.c.tr=0)&&decide (n.s.tr=0))))):=rfl;have cc:=uX n.log w6 HL.out.ll;obtain⟨rr,hrr⟩:=Fe (gP (aF n.log))
        obtain⟨tk,htk⟩:=Fe (n.log.take (recAt (aF n.log)))
        obtain⟨bs,hbs⟩:=Fe ((aF n.log).isSome)
        rw[<-hrr,<-htk,<-hbs]at cc HLB;obtain⟨re,rs,rt,rn⟩:=rr;unfold RV de S at cc;clear hrr htk hbs c8;have c8:w6.cell? ⟨w.heap.size,8,none⟩=some (S n.log):=HS.out.1.cell 8 rfl;unfold S at c8;go_wp2_with fail
        refine cc.mono ?_;rintro e wr ⟨rfl,bq⟩;replace HS:Hid (StB wr w.heap.size 42 (ndA (.slice a1 n.xs.length a2) (.slice b1' n.ys.length b2) (.slice k1 n.h.ks.length k2) (.slice q1 n.c.ts.length q2) (.slice z1 n.s.ts.length z2) n)/\RdN wr (.slice a1 n.xs.length a2) (.slice b1' n.ys.length b2) (.slice k1 n.h.ks.length k2) (.slice q1 n.c.ts.length q2) (.slice z1 n.s.ts.length z2) n/\iO w wr):=⟨HS.out.1.below bq,HS.out.2.1.below bq,HS.out.2.2.trans (bq.mono HS.out.2.2.size)⟩
        clear cc bq c8;obtain⟨wx,hwx⟩:=Fe (wr.alloc (.cells #[.int .i64 re,.int .i64 rs,.int .i64 rt,.int .i64 rn] 38))
        obtain⟨g,hg⟩:=Fe wr.heap.size
        have HG:Hid (StB wx g 38 #[.int .i64 re,.int .i64 rs,.int .i64 rt,.int .i64 rn]):=by rw[hwx,hg];exact StB.new _ _ _
        have bx:iO wr wx:=by rw[hwx];exact Fc
        replace HS:Hid (StB wx w.heap.size 42 (ndA (.slice a1 n.xs.length a2) (.slice b1' n.ys.length b2) (.slice k1 n.h.ks.length k2) (.slice q1 n.c.ts.length q2) (.slice z1 n.s.ts.length z2) n)/\RdN wx (.slice a1 n.xs.length a2) (.slice b1' n.ys.length b2) (.slice k1 n.h.ks.length k2) (.slice q1 n.c.ts.length q2) (.slice z1 n.s.ts.length z2) n/\iO w wx):=⟨HS.out.1.below bx,HS.out.2.1.below bx,HS.out.2.2.trans (bx.mono HS.out.2.2.size)⟩
        go_upto_region 4 with fail
        rw[<-hwx,<-hg];clear hwx hg bx;have hself:∀y:Int,(y==y)=true:=by simp
        have hselfn:∀y:Int,(y !=y)=false:=by simp
        cases bs with
        |false=>
         try clear e0
         try clear e1
         try clear e2
         try clear e3
         try clear r0
         try clear r1
         try clear r2
         try clear r3
         try clear s0
         try clear s1
         try clear s2
         try clear s3
         try clear hT
         try clear hC
         try clear hK
         go_wp2;go_ret;exact⟨af iL,HS.out.2.2⟩
        |true=>
         have c1:wx.cell? ⟨w.heap.size,1,none⟩=some (.bool n.up):=HS.out.1.cell 1 rfl;have c8:wx.cell? ⟨w.heap.size,8,none⟩=some (S n.log):=HS.out.1.cell 8 rfl;have c9:wx.cell? ⟨w.heap.size,9,none⟩=some (.int .i64 n.r.e):=HS.out.1.cell 9 rfl;have c10:wx.cell? ⟨w.heap.size,10,none⟩=some (.int .i64 n.r.s):=HS.out.1.cell 10 rfl;have c11:wx.cell? ⟨w.heap.size,11,none⟩=some (.int .i64 n.r.t):=HS.out.1.cell 11 rfl;have c12:wx.cell? ⟨w.heap.size,12,none⟩=some (.int .i64 n.r.n):=HS.out.1.cell 12 rfl;have c13:wx.cell? ⟨w.heap.size,13,none⟩=some (.int .i64 n.c.tr):=HS.out.1.cell 13 rfl;have c18:wx.cell? ⟨w.heap.size,18,none⟩=some (.int .i64 n.s.tr):=HS.out.1.cell 18 rfl;unfold S at c8;have d0:wx.cell? ⟨g,0,none⟩=some (.int .i64 re):=HG.out.cell 0 rfl;have d1:wx.cell? ⟨g,1,none⟩=some (.int .i64 rs):=HG.out.cell 1 rfl;have d2:wx.cell? ⟨g,2,none⟩=some (.int .i64 rt):=HG.out.cell 2 rfl;have d3:wx.cell? ⟨g,3,none⟩=some (.int .i64 rn):=HG.out.cell 3 rfl;by_cases e0:re=n.r.e
         case neg=>
          have f0:(re==n.r.e)=false:=by simpa using e0
          try clear e0
          try clear e1
          try clear e2
          try clear e3
          try clear r0
          try clear r1
          try clear r2
          try clear r3
          try clear s0
          try clear s1
          try clear s2
          try clear s3
          try clear hT
          try clear hC
          try clear hK
          go_wp2;go_ret;exact⟨af iL,HS.out.2.2⟩
         case pos=>
          have f0:(re==n.r.e)=true:=by simpa using e0
          by_cases e1:rs=n.r.s
          case neg=>
           have f1:(rs==n.r.s)=false:=by simpa using e1
           try clear e0
           try clear e1
           try clear e2
           try clear e3
           try clear r0
           try clear r1
           try clear r2
           try clear r3
           try clear s0
           try clear s1
           try clear s2
           try clear s3
           try clear hT
           try clear hC
           try clear hK
           go_wp2;go_ret;exact⟨af iL,HS.out.2.2⟩
          case pos=>
           have f1:(rs==n.r.s)=true:=by simpa using e1
           by_cases e2:rt=n.r.t
           case neg=>
            have f2:(rt==n.r.t)=false:=by simpa using e2
            try clear e0
            try clear e1
            try clear e2
            try clear e3
            try clear r0
            try clear r1
            try clear r2
            try clear r3
            try clear s0
            try clear s1
            try clear s2
            try clear s3
            try clear hT
            try clear hC
            try clear hK
            go_wp2;go_ret;exact⟨af iL,HS.out.2.2⟩
           case pos=>
            have f2:(rt==n.r.t)=true:=by simpa using e2
            by_cases e3:rn=n.r.n
            case neg=>
             have f3:(rn==n.r.n)=false:=by simpa using e3
             try clear e0
             try clear e1
             try clear e2
             try clear e3
             try clear r0
             try clear r1
             try clear r2
             try clear r3
             try clear s0
             try clear s1
             try clear s2
             try clear s3
             try clear hT
             try clear hC
             try clear hK
             go_wp2;go_ret;exact⟨af iL,HS.out.2.2⟩
            case pos=>
             have f3:(rn==n.r.n)=true:=by simpa using e3
             have HSR:Hid (d8 ⟨re,rs,rt,rn⟩ n.r=true):=by rw[Hid,mf,e0,e1,e2,e3]
             rw[HSR.out]at HLB;cases hup:n.up with
             |true=>
              rw[hup]at c1 HLB;by_cases hT:tk=n.log
              case neg=>
               have hTb:(tk==n.log)=false:=by simpa using hT
               have hTn:(tk !=n.log)=true:=by simpa using hT
               try clear e0
               try clear e1
               try clear e2
               try clear e3
               try clear r0
               try clear r1
               try clear r2
               try clear r3
               try clear s0
               try clear s1
               try clear s2
               try clear s3
               try clear hT
               try clear hC
               try clear hK
               go_wp2;go_ret;exact⟨af iL,HS.out.2.2⟩
              case pos=>
               have hTb:(tk==n.log)=true:=by simpa using hT
               have hTn:(tk !=n.log)=false:=by simpa using hT
               have HLT:Hid (n.logB=true):=by rw[Hid,HLB.out];simp[hT]
               have c3:wx.cell? ⟨w.heap.size,3,none⟩=some (.slice b1' n.ys.length b2):=HS.out.1.cell 3 rfl;have c17:wx.cell? ⟨w.heap.size,17,none⟩=some (.slice q1 n.c.ts.length q2):=HS.out.1.cell 17 rfl;have c19:wx.cell? ⟨w.heap.size,19,none⟩=some (.slice z1 n.s.ts.length z2):=HS.out.1.cell 19 rfl;by_cases r0:n.c.tr=0
               ·have u0:(n.c.tr !=0)=false:=by simpa using r0
                have HCB:Hid (n.copB=true):=by rw[Hid];unfold Nd.copB;simp[r0]
                have HSB:Hid (n.snkB=(decide (n.s.tr=0)||(decide (n.r.s=3)&&decide (n.s.tr=n.r.n)&&decide (n.s.ts.length=n.ys.length)))):=rfl;by_cases s0:n.s.tr=0
                ·have t0:(n.s.tr==0)=true:=by simpa using s0
                 try clear e0
                 try clear e1
                 try clear e2
                 try clear e3
                 try clear r0
                 try clear r1
                 try clear r2
                 try clear r3
                 try clear s0
                 try clear s1
                 try clear s2
                 try clear s3
                 try clear hT
                 try clear hC
                 try clear hK
                 go_wp2;go_ret;exact⟨af iL,HS.out.2.2⟩
                ·have t0:(n.s.tr==0)=false:=by simpa using s0
                 by_cases s1:rs=3
                 ·have t1:(rs==3)=true:=by simpa using s1
                  by_cases s2:n.s.tr=rn
                  ·have t2:(n.s.tr==rn)=true:=by simpa using s2
                   by_cases s3:(n.s.ts.length:Int)=(n.ys.length:Int)
                   ·have t3:((n.s.ts.length:Int)==(n.ys.length:Int))=true:=by simpa using s3
                    try clear e0
                    try clear e1
                    try clear e2
                    try clear e3
                    try clear r0
                    try clear r1
                    try clear r2
                    try clear r3
                    try clear s0
                    try clear s1
                    try clear s2
                    try clear s3
                    try clear hT
                    try clear hC
                    try clear hK
                    go_wp2;go_ret;exact⟨af iL,HS.out.2.2⟩
                   ·have t3:((n.s.ts.length:Int)==(n.ys.length:Int))=false:=by simpa using s3
                    try clear e0
                    try clear e1
                    try clear e2
                    try clear e3
                    try clear r0
                    try clear r1
                    try clear r2
                    try clear r3
                    try clear s0
                    try clear s1
                    try clear s2
                    try clear s3
                    try clear hT
                    try clear hC
                    try clear hK
                    go_wp2;go_ret;exact⟨af iL,HS.out.2.2⟩
                  ·have t2:(n.s.tr==rn)=false:=by simpa using s2
                   try clear e0
                   try clear e1
                   try clear e2
                   try clear e3
                   try clear r0
                   try clear r1
                   try clear r2
                   try clear r3
                   try clear s0
                   try clear s1
                   try clear s2
                   try clear s3
                   try clear hT
                   try clear hC
                   try clear hK
                   go_wp2;go_ret;exact⟨af iL,HS.out.2.2⟩
                 ·have t1:(rs==3)=false:=by simpa using s1
                  try clear e0
                  try clear e1
                  try clear e2
                  try clear e3
                  try clear r0
                  try clear r1
                  try clear r2
                  try clear r3
                  try clear s0
                  try clear s1
                  try clear s2
                  try clear s3
                  try clear hT
                  try clear hC
                  try clear hK
                  go_wp2;go_ret;exact⟨af iL,HS.out.2.2⟩
               ·have u0:(n.c.tr !=0)=true:=by simpa using r0
                by_cases r1:rs=3
                ·have u1:(rs==3)=true:=by simpa using r1
                 try clear e0
                 try clear e1
                 try clear e2
                 try clear e3
                 try clear r0
                 try clear r1
                 try clear r2
                 try clear r3
                 try clear s0
                 try clear s1
                 try clear s2
                 try clear s3
                 try clear hT
                 try clear hC
                 try clear hK
                 go_wp2;go_ret;exact⟨af iL,HS.out.2.2⟩
                ·have u1:(rs==3)=false:=by simpa using r1
                 by_cases r2:n.c.tr=rt
                 case neg=>
                  have u2:(n.c.tr !=rt)=true:=by simpa using r2
                  try clear e0
                  try clear e1
                  try clear e2
                  try clear e3
                  try clear r0
                  try clear r1
                  try clear r2
                  try clear r3
                  try clear s0
                  try clear s1
                  try clear s2
                  try clear s3
                  try clear hT
                  try clear hC
                  try clear hK
                  go_wp2;go_ret;exact⟨af iL,HS.out.2.2⟩
                 case pos=>
                  have u2:(n.c.tr !=rt)=false:=by simpa using r2
                  by_cases r3:(n.c.ts.length:Int)=(n.ys.length:Int)
                  case neg=>
                   have u3:((n.c.ts.length:Int) !=(n.ys.length:Int))=true:=by simpa using r3
                   try clear e0
                   try clear e1
                   try clear e2
                   try clear e3
                   try clear r0
                   try clear r1
                   try clear r2
                   try clear r3
                   try clear s0
                   try clear s1
                   try clear s2
                   try clear s3
                   try clear hT
                   try clear hC
                   try clear hK
                   go_wp2;go_ret;exact⟨af iL,HS.out.2.2⟩
                  case pos=>
                   have u3:((n.c.ts.length:Int) !=(n.ys.length:Int))=false:=by simpa using r3
                   have HCB:Hid (n.copB=true):=by rw[Hid];unfold Nd.copB;rw[e1]at r1;rw[e2]at r2;simp[r1,r2,show n.c.ts.length=n.ys.length by omega]
                   have HSB:Hid (n.snkB=(decide (n.s.tr=0)||(decide (n.r.s=3)&&decide (n.s.tr=n.r.n)&&decide (n.s.ts.length=n.ys.length)))):=rfl;by_cases s0:n.s.tr=0
                   ·have t0:(n.s.tr==0)=true:=by simpa using s0
                    try clear e0
                    try clear e1
                    try clear e2
                    try clear e3
                    try clear r0
                    try clear r1
                    try clear r2
                    try clear r3
                    try clear s0
                    try clear s1
                    try clear s2
                    try clear s3
                    try clear hT
                    try clear hC
                    try clear hK
                    go_wp2;go_ret;exact⟨af iL,HS.out.2.2⟩
                   ·have t0:(n.s.tr==0)=false:=by simpa using s0
                    try clear e0
                    try clear e1
                    try clear e2
                    try clear e3
                    try clear r0
                    try clear r1
                    try clear r2
                    try clear r3
                    try clear s0
                    try clear s1
                    try clear s2
                    try clear s3
                    try clear hT
                    try clear hC
                    try clear hK
                    go_wp2;go_ret;exact⟨af iL,HS.out.2.2⟩
             |false=>
              rw[hup]at c1 HLB;by_cases hC:n.c.tr=0
              case neg=>
               have hCn:(n.c.tr !=0)=true:=by simpa using hC
               try clear e0
               try clear e1
               try clear e2
               try clear e3
               try clear r0
               try clear r1
               try clear r2
               try clear r3
               try clear s0
               try clear s1
               try clear s2
               try clear s3
               try clear hT
               try clear hC
               try clear hK
               go_wp2;go_ret;exact⟨af iL,HS.out.2.2⟩
              case pos=>
               have hCn:(n.c.tr !=0)=false:=by simpa using hC
               by_cases hK:n.s.tr=0
               case neg=>
                have hKn:(n.s.tr !=0)=true:=by simpa using hK
                try clear e0
                try clear e1
                try clear e2
                try clear e3
                try clear r0
                try clear r1
                try clear r2
                try clear r3
                try clear s0
                try clear s1
                try clear s2
                try clear s3
                try clear hT
                try clear hC
                try clear hK
                go_wp2;go_ret;exact⟨af iL,HS.out.2.2⟩
               case pos=>
                have hKn:(n.s.tr !=0)=false:=by simpa using hK
                have HLT:Hid (n.logB=true):=by rw[Hid,HLB.out];simp[hC,hK]
                have t0:(n.s.tr==0)=true:=by simpa using hK
                have HCB:Hid (n.copB=true):=by rw[Hid];unfold Nd.copB;simp[hC]
                have HSB:Hid (n.snkB=true):=by rw[Hid];unfold Nd.snkB;simp[hK]
                try clear e0
                try clear e1
                try clear e2
                try clear e3
                try clear r0
                try clear r1
                try clear r2
                try clear r3
                try clear s0
                try clear s1
                try clear s2
                try clear s3
                try clear hT
                try clear hC
                try clear hK
                go_wp2;go_ret;exact⟨af iL,HS.out.2.2⟩
abbrev Fk (ao:Option Addr) (ac:Nat) (bo:Option Addr) (bc:Nat) (ko:Option Addr) (kc:Nat) (qo:Option Addr) (qc:Nat) (zo:Option Addr) (zc:Nat) (n:Nd):Array Value:=ndA (.slice ao n.xs.length ac) (.slice bo n.ys.length bc) (.slice ko n.h.ks.length kc) (.slice qo n.c.ts.length qc) (.slice zo n.s.ts.length zc) n
end Go.Proofs.YthldeiojlllkdaaGreatDoor
