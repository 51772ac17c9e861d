/- What the model shows of a list of numbers: l1Ints. -/
import Derived.Test.YthldeiojlllkdaaGreatDoorM18
set_option maxRecDepth 20000
set_option maxHeartbeats 2000000
namespace Go.Proofs.YthldeiojlllkdaaGreatDoor
open Go.ChangeShapes Go.WideShapes Go.ChangeAt Go.RowKit
theorem pa (v:Value) (xs:List Int) (w:World) (hl:xs.length<=64) (hx:fu xs) (hr:ag w v xs):
  Calls Tryz.prog 174 #[v] w fun e w'=>e=.returned (S (eg xs))/\iO w w':=by
 obtain⟨ao,cap,rfl⟩:=aa hr;obtain⟨-,la,ma, -⟩:=aL hr;have HX:Hid (fu xs):=hx;have HC:Hid (ag w (.slice ao xs.length cap) xs):=hr;obtain⟨n,hn⟩:=Fe xs.length
 have HN:Hid (n=xs.length):=hn;rw[<-hn]at HC hl la⊢;unfold maxLen at ma;clear hx hr hn;unfold S;go_enter Tryz.func174,Tryz.ntmps174;go_wp2;go_loopw [3,4] (fun s i wr=>∃j:Nat,(j:Int)<=n/\i=.int .i64 j/\s=.string ⟨(iQ xs j).toArray⟩/\Hid (iO w wr)) (fun _ i _=>n-(intOf i).toNat)
 case atStart=>exact⟨0,by omega,rfl,rfl,Below.refl _ _⟩
 case round=>
  obtain⟨j,hj,rfl,rfl,HB⟩:=hrel;by_cases hlt:(j:Int)<(n:Int)
  ·have hj4:j<xs.length:=by have:=HN.out;omega
   have hmem:xs.getD j 0∈xs:=by simp[hj4]
   have hb:=HX.out _ hmem;obtain⟨-, -, -,hcell'⟩:=aL (HC.out.below HB.out (Nat.le_refl _));obtain⟨b,off,rfl,hcell⟩:=hcell' j Ff;have c1:=fun wx=>ir (xs.getD j 0) wx hb.1 hb.2
   have hdl:=uC _ hb.1 hb.2;have HS:Hid (iQ xs (j+1)=_):=wW xs j hj4;have hfl:(iQ xs j).length<=1408:=by
    unfold iQ;split
    ·simp
    ·have:=qB (xs.take j) (fun x hx=>HX.out x (List.mem_of_mem_take hx))
     simp at this;omega
   obtain⟨x,hxe⟩:=Fe (xs.getD j 0)
   rw[<-hxe]at hcell hdl HS;simp only[<-hxe]at c1;obtain⟨d,hde⟩:=Fe (ce x)
   rw[<-hde]at hdl HS;simp only[<-hde]at c1;obtain⟨f,hfe⟩:=Fe (iQ xs j)
   have HF0:Hid (j=0->f=[]):=fun h=>by rw[hfe,h];rfl
   rw[<-hfe]at hfl HS⊢;unfold S at c1;have hsz:(⟨f.toArray⟩:ByteArray).size=f.length:=rfl;have hdz:(⟨d.toArray⟩:ByteArray).size=d.length:=rfl;clear hxe hde hfe hmem hb hcell' hj4;by_cases h0:0<(j:Int)
   ·have HE:Hid (iQ xs (j+1)=f++[32]++d):=by rw[Hid,HS.out,if_neg Ff]
    have ha:=D9 f [32];have ha2:=D9 (f++[32]) d;have hz2:(⟨(f++[32]).toArray⟩:ByteArray).size=f.length+1:=by rw[Ea];simp
    clear HS;go_wp2_with fail
    refine(c1 _).mono ?_;rintro e w1 ⟨rfl,b1⟩;replace HB:Hid (iO w w1):=HB.out.trans (b1.mono HB.out.size);clear b1 c1;go_wp2;go_roundw
    case rel=>exact⟨j+1,by omega,by go_num,by simp[HE.out],HB⟩
    case measure=>simp[intOf];omega
   ·obtain rfl:j=0:=by omega
    have HE:Hid (iQ xs (0+1)=f++d):=by rw[Hid,HS.out,if_pos rfl,HF0.out rfl]
    have ha:=D9 f d;rw[Nat.add_zero]at hcell;clear HS;go_wp2_with fail
    refine(c1 _).mono ?_;rintro e w1 ⟨rfl,b1⟩;replace HB:Hid (iO w w1):=HB.out.trans (b1.mono HB.out.size);clear b1 c1;go_wp2;go_roundw
    case rel=>exact⟨0+1,by omega,by go_num,by simp[HE.out],HB⟩
    case measure=>simp[intOf];omega
  ·have HE:Hid (iQ xs j=eg xs):=by
    have:j=xs.length:=by have:=HN.out;omega
    subst this;unfold Hid iQ;split
    ·rename_i e
     rw[List.eq_nil_of_length_eq_zero e];rfl
    ·rw[List.take_length]
   rw[HE.out];go_wp2;go_ret;exact⟨rfl,HB.out⟩
theorem BF (w:World) (x:Int):∀j u,([Value.int .i64 x])[j]?=some u->(w.alloc (.cells #[.int .i64 x] 2)).cell? ((⟨w.heap.size,0,none⟩:Addr).add j)=some u:=by
 intro j u hj
 match j,hj with
 |0,hj=>simp at hj;subst hj;simp[Addr.add]
theorem qO {w wr w':World} {o v':Value} {out:List Int} {x:Int} {ob:Obj} (hO:Own wr w.heap.size o out) (hB:iO w wr)
  (hown:w'.ownsRow w.heap.size 2 1 v' (out.length+1) (out.map (Value.int .i64)++[.int .i64 x])) (hg:(wr.alloc ob).grownBy w' o.ownBlock):Own w' w.heap.size v' (out++[x])/\iO w w':=by
 refine⟨?_,(hB.alloc hB.size ob).grown hg (by simp;have:=hB.size;omega) (fun k e=>(hO.lt k e).1)⟩;unfold Own;rw[List.map_append];simpa using hown
theorem sy (w:World) (x:Int):Own (w.alloc (.cells #[.int .i64 x] 2)) w.heap.size (.slice (some ⟨w.heap.size,0,none⟩) 1 1) [x]:=by
 have:=World.ownsRow_lit (base:=w.heap.size) (e:=2) (size:=1) w #[.int .i64 x] 1 (Nat.le_refl _) (by unfold maxLen;omega) rfl;simpa[Own]using this
theorem qP (w:World) (x y z:Int):Own (w.alloc (.cells #[.int .i64 x,.int .i64 y,.int .i64 z] 2)) w.heap.size (.slice (some ⟨w.heap.size,0,none⟩) 3 3) [x,y,z]:=by
 have:=World.ownsRow_lit (base:=w.heap.size) (e:=2) (size:=1) w #[.int .i64 x,.int .i64 y,.int .i64 z] 3 (Nat.le_refl _) (by unfold maxLen;omega) rfl;simpa[Own]using this
theorem Hd.ok_fits {h:Hd} (e:h.ok=true):fu h.showN:=by
 intro x hx;have:=Hd.ok_nums e x hx;omega
theorem Hd.ok_fitsK {h:Hd} (e:h.ok=true):fu h.keysN:=by
 have hf:=Hd.ok_fits e;intro x hx;unfold Hd.keysN at hx;rcases List.mem_cons.1 hx with rfl|hx
 ·exact hf h.tu (by simp[Hd.showN])
 ·exact hf x (by have:=(List.mem_filter.1 hx).1;simp[Hd.showN,this])
theorem Hd.ok_fitsH {h:Hd} (e:h.ok=true):fu h.holdN:=by
 have hf:=Hd.ok_fits e;intro x hx;unfold Hd.holdN at hx;simp only[List.mem_cons,List.mem_nil_iff,or_false]at hx;rcases hx with rfl|rfl|rfl
 ·exact hf h.tu (by simp[Hd.showN])
 ·exact hf h.kd (by simp[Hd.showN])
 ·split
  ·rw[List.getD_eq_getElem?_getD]
   cases hg:h.ks[h.ho.toNat]? with
   |none=>simp
   |some y=>exact hf y (by have:=List.mem_of_getElem? hg;simp[Hd.showN,this])
  ·omega
theorem qR {h:Hd} (hl:h.ks.length=4) (j:Nat):(h.tu::(h.ks.take j).filter (fun k=>decide (k≠0))).length<=5:=by
 have:=List.length_filter_le (fun k=>decide (k≠0)) (h.ks.take j);simp at this⊢;omega
theorem vd (v:Value) (h:Hd) (w:World) (hr:ag w v h.ks) (ok:h.ok=true):
  Calls Tryz.prog 136 #[HV v h] w fun e w'=>e=.returned (S (eg h.keysN))/\iO w w':=by
 obtain⟨i0,hi,hz0,hz1,hz2⟩:=info_parts Gz;obtain⟨hl, -, -, -⟩:=Hd.ok_all ok;have FK:Hid (fu h.keysN):=Hd.ok_fitsK ok;obtain⟨w1,hw1⟩:=Fe (w.alloc (.cells (hdA v h) 37))
 have B1:Hid (iO w w1):=by rw[hw1];exact Fc
 have P1:Hid (StB w1 w.heap.size 37 (hdA v h)):=by rw[hw1];exact StB.new _ _ _
 have R1:Hid (ag w1 v h.ks):=hr.below B1.out (Nat.le_refl _);obtain⟨ao0,cap0,rfl⟩:=aa hr;rw[hl]at hw1 P1 R1⊢;have HL:Hid (h.ks.length=4):=hl;have k3:w1.cell? ⟨w.heap.size,3,none⟩=some (.int .i64 h.tu):=P1.out.cell 3 rfl;have ks1:w.heap.size<w1.heap.size:=P1.out.lt;clear hr hl ok;unfold HV S;unfold hdA at hw1⊢;go_enter Tryz.func136,Tryz.ntmps136;go_upto_region 1 with fail
 rw[<-hw1];clear hw1;go_wp2_with fail
 clear k3;go_loopw [3,4] (fun o i wr=>∃(xs:List Int) (ao:Option Addr) (oc j:Nat),o=.slice ao xs.length oc/\i=.int .i64 (j:Int)/\(j:Int)<=4/\(xs.length:Int)<=5/\Hid (Own wr w1.heap.size (.slice ao xs.length oc) xs/\iO w1 wr/\xs=h.tu::(h.ks.take j).filter (fun k=>decide (k≠0)))) (fun _ i _=>4-(intOf i).toNat)
 case atStart=>exact⟨[h.tu],_,_,0,rfl,rfl,by omega,by simp,sy w1 h.tu,Fc,by simp⟩
 case round=>
  obtain⟨xs,ao,oc,j,rfl,rfl,hj,hxl,HR⟩:=hrel;have P2:Hid (StB wr w.heap.size 37 (hdA (.slice ao0 4 cap0) h)):=P1.out.below HR.out.2.1;have k0:wr.cell? ⟨w.heap.size,0,none⟩=some (.slice ao0 4 cap0):=P2.out.cell 0 rfl;by_cases hlt:(j:Int)<4
  ·have hj4:j<h.ks.length:=by have:=HL.out;omega
   obtain⟨-, -, -,hcell'⟩:=aL (R1.out.below HR.out.2.1 (Nat.le_refl _));obtain⟨b,off,rfl,hcell⟩:=hcell' j Ff;have HT:Hid (h.ks.take (j+1)=h.ks.take j++[h.ks.getD j 0]):=by
    rw[Hid,List.take_succ_eq_append_getElem hj4];simp[hj4]
   have HLn:=qR HL.out (j+1);obtain⟨x,hx⟩:=Fe (h.ks.getD j 0)
   rw[<-hx]at hcell HT;clear hx hcell';by_cases x0:x=0
   ·have xb:(x !=0)=false:=by simpa using x0
    have HR2:Hid (xs=h.tu::(h.ks.take (j+1)).filter (fun k=>decide (k≠0))):=by
     rw[Hid,HT.out,List.filter_append];simp only[x0,List.filter_cons,List.filter_nil,ne_eq,not_true_eq_false,decide_false,Bool.false_eq_true,if_false,List.append_nil];exact HR.out.2.2
    clear x0;go_wp2;go_roundw
    case rel=>exact⟨xs,ao,oc,j+1,rfl,by go_num,by omega,hxl,HR.out.1,HR.out.2.1,HR2.out⟩
    case measure=>simp[intOf];omega
   ·have xb:(x !=0)=true:=by simpa using x0
    have HR2:Hid (xs++[x]=h.tu::(h.ks.take (j+1)).filter (fun k=>decide (k≠0))):=by
     rw[Hid,HT.out,List.filter_append];simp only[x0,List.filter_cons,List.filter_nil,ne_eq,not_false_eq_true,decide_true,if_true];rw[<-List.cons_append];exact congrArg (·++[x]) HR.out.2.2
    have hxl2:(xs++[x]).length<=5:=by rw[HR2.out];exact HLn
    rw[List.length_append,List.length_singleton]at hxl2;have hown:=HR.out.1;have hbs:=HR.out.2.1.size;unfold Own at hown;clear x0 HLn;go_wp2_with (at_builtin;refine wpList_append_own _ rfl _ _ 22 rfl w1.heap.size 2 i0 (.int .i64 0) 1 8 Tryz.underlying22 hi hz0 hz1 hz2 rfl Fh _ _ _ rfl (hown.alloc _) _ 1 1 [.int .i64 x] rfl rfl (BF wr x) (by simp[Value.oneCell']) (by unfold maxLen;omega) Ff (by simp;omega) ?_)
    intro v' w2 hown' hgrow _;have HO:Hid (Own w2 w1.heap.size v' (xs++[x])/\iO w1 w2):=qO HR.out.1 HR.out.2.1 hown' hgrow;clear hown hown' hgrow HR;obtain⟨ao2,cap2,hev, -⟩:=HO.out.1.reads;subst hev;go_wp2;go_roundw
    case rel=>exact⟨xs++[x],ao2,cap2,j+1,rfl,by go_num,by omega,by simp;omega,HO.out.1,HO.out.2,HR2.out⟩
    case measure=>simp[intOf];omega
  ·have HK:Hid (xs=h.keysN):=by
    have:=HR.out.2.2;rw[List.take_of_length_le (by have:=HL.out;omega)]at this;exact this
   have c1:=pa (.slice ao xs.length oc) xs wr Ff (by rw[HK.out];exact FK.out) HR.out.1.reads;rw[HK.out]at c1;rw[<-HK.out]at c1;go_wp2_with fail
   refine c1.mono ?_;rintro e w2 ⟨rfl,b2⟩;clear c1;go_wp2;go_ret;refine⟨?_,(B1.out.trans (HR.out.2.1.mono B1.out.size)).trans (b2.mono ?_)⟩
   ·rw[HK.out];rfl
   ·have:=HR.out.2.1.size;omega
theorem pQ (v:Value) (h:Hd) (w:World) (hr:ag w v h.ks) (ok:h.ok=true):
  Calls Tryz.prog 137 #[HV v h] w fun e w'=>e=.returned (S (eg h.holdN))/\iO w w':=by
 obtain⟨hl, -, -,hm⟩:=Hd.ok_all ok;have FK:Hid (fu h.holdN):=Hd.ok_fitsH ok;have hho:h.ho<4:=by
  unfold Hd.mid at hm;split at hm
  ·have:h.ho= -1:=by simpa using hm
   omega
  ·split at hm
   ·simp only[Bool.and_eq_true,decide_eq_true_eq]at hm;omega
   ·simp only[Bool.and_eq_true]at hm
    have:=(aE _ _ _).1 hm.1.2;omega
 obtain⟨w1,hw1⟩:=Fe (w.alloc (.cells (hdA v h) 37))
 have B1:Hid (iO w w1):=by rw[hw1];exact Fc
 have P1:Hid (StB w1 w.heap.size 37 (hdA v h)):=by rw[hw1];exact StB.new _ _ _
 have R1:Hid (ag w1 v h.ks):=hr.below B1.out (Nat.le_refl _);obtain⟨ao0,cap0,rfl⟩:=aa hr;rw[hl]at hw1 P1 R1⊢;have k0:w1.cell? ⟨w.heap.size,0,none⟩=some (.slice ao0 4 cap0):=P1.out.cell 0 rfl;have k1:w1.cell? ⟨w.heap.size,1,none⟩=some (.int .i64 h.kd):=P1.out.cell 1 rfl;have k2:w1.cell? ⟨w.heap.size,2,none⟩=some (.int .i64 h.ho):=P1.out.cell 2 rfl;have k3:w1.cell? ⟨w.heap.size,3,none⟩=some (.int .i64 h.tu):=P1.out.cell 3 rfl;have c1:∀x,fu [h.tu,h.kd,x]->_:=fun x hf=>pa (.slice (some ⟨w1.heap.size,0,none⟩) 3 3) [h.tu,h.kd,x] (w1.alloc (.cells #[.int .i64 h.tu,.int .i64 h.kd,.int .i64 x] 2)) Fg hf (qP w1 h.tu h.kd x).reads
 have HH:Hid (h.holdN=[h.tu,h.kd,if 0<=h.ho then h.ks.getD h.ho.toNat 0 else 0]):=rfl;rw[HH.out]at FK;have C1:Hid _:=c1;clear hr ok hm c1;unfold HV S;unfold hdA at hw1⊢;by_cases h0:0<=h.ho
 ·rw[if_pos h0]at FK HH
  obtain⟨-, -, -,hcell'⟩:=aL R1.out;obtain⟨b,off,rfl,hcell⟩:=hcell' h.ho.toNat Ff;obtain⟨x,hx⟩:=Fe (h.ks.getD h.ho.toNat 0)
  rw[<-hx]at hcell FK HH;have c2:=C1.out x FK.out;unfold S at c2;rw[HH.out];clear hx hcell' C1 FK HH hl;go_enter Tryz.func137,Tryz.ntmps137;go_upto_region 1 with fail
  rw[<-hw1];clear hw1;go_wp2_with fail
  refine c2.mono ?_;rintro e w2 ⟨rfl,b2⟩;clear c2;go_wp2;go_ret;refine⟨rfl,(B1.out.alloc B1.out.size _).trans (b2.mono ?_)⟩;have:=B1.out.size;simp;omega
 ·rw[if_neg h0]at FK HH
  have h0b:(decide (0<=h.ho))=false:=by simpa using h0
  have c2:=C1.out 0 FK.out;unfold S at c2;rw[HH.out];clear C1 FK HH hl;go_enter Tryz.func137,Tryz.ntmps137;go_upto_region 1 with fail
  rw[<-hw1];clear hw1;go_wp2_with fail
  refine c2.mono ?_;rintro e w2 ⟨rfl,b2⟩;clear c2;go_wp2;go_ret;refine⟨rfl,(B1.out.alloc B1.out.size _).trans (b2.mono ?_)⟩;have:=B1.out.size;simp;omega
theorem xG {w:World} {o:Obj} {a:Addr} {v:Value} (h:w.cell? a=some v):(w.alloc o).cell? a=some v:=by
 rw[<-h];exact((Below.refl w.heap.size w).alloc (Nat.le_refl _) o).cell (World.block_lt_of_cell? w _ h)
def Ans (w:World) (r:Hd×Int) (e:Ending) (w':World):Prop:=∃u,e=.returned (.tuple #[HV u r.1,.int .i64 r.2])/\Own w' w.heap.size u r.1.ks/\iO w w'
theorem mj (w:World) (base:Nat):Own w base (.slice none 0 0) Hd.zero.ks:=Own.nil w base
theorem xh {h:Hd} (e:h.mid=true):h.kd≠0->bY h.kd=false->0<=h.ho/\h.ho<=3:=by
 intro h0 ha;unfold Hd.mid at e;rw[if_neg h0,ha]at e;simp only[Bool.false_eq_true,if_false,Bool.and_eq_true]at e;exact(aE _ _ _).1 e.1.2
theorem PS.other {L:List Bo} {a b:Value} {xs ys:List Int} {w w':World} {base g:Nat} {h:Hd} (d:PS L a b xs ys w base g h) (x:Bo) (hx:x∈L) (ht:x.t≠2) (G:w.grownBy w' (some x.b)):PS [] a b xs ys w' base g h:=by
 obtain⟨q,cap,d⟩:=d;obtain⟨s,h1,h2⟩:=d.2.2.2.2.2.2.2.2 x hx;have na:=Own.ne d.2.2.2.2.2.2.1.1 s ht;have nb:=Own.ne d.2.2.2.2.2.2.1.2.1 s ht;refine⟨q,cap,d.1.kept G (by simp;omega),d.2.1.kept G (.inr (by intro e;exact h2 (Option.some.inj e).symm)),d.2.2.1,d.2.2.2.1,d.2.2.2.2.1,d.2.2.2.2.2.1,⟨d.2.2.2.2.2.2.1.1.kept G (.inr na),d.2.2.2.2.2.2.1.2.1.kept G (.inr nb),d.2.2.2.2.2.2.1.2.2⟩,d.2.2.2.2.2.2.2.1,fun x hx=>by cases hx⟩
theorem xw {a b:Value} {xs ys:List Int} (base g:Nat) (h:Hd) (i p x y k0:Int) (w:World) (d:PS [] a b xs ys w base g h) (i0:0<=i) (i1:i<4) (t0:0<=h.tu) (t1:h.tu<=1000000000):
  Calls Tryz.prog 98 #[.pointer (some ⟨g,0,none⟩),.int .i64 i,CV ⟨6,p,x,y,k0⟩] w fun e w'=>e=.returned (AV ⟨0,[]⟩)/\PS [] a b xs ys w' base g (h.regd i x)/\Below base w w':=by
 obtain⟨w1,hw1⟩:=Fe ((w.alloc (.cells #[.int .i64 6,.int .i64 p,.int .i64 x,.int .i64 y,.int .i64 k0] 66)).alloc (.cells #[.int .i64 0,.string ⟨#[]⟩] 44))
 have b1:iO w w1:=by rw[hw1];exact Fc.alloc Fg _
 have lt:=d.lt;have s0:StB w1 w.heap.size 66 #[.int .i64 6,.int .i64 p,.int .i64 x,.int .i64 y,.int .i64 k0]:=by rw[hw1];exact(StB.new w _ _).alloc _
 have s1:StB w1 (w.heap.size+1) 44 (anA ⟨0,[]⟩):=by
  rw[hw1];have a2:=StB.new (w.alloc (.cells #[.int .i64 6,.int .i64 p,.int .i64 x,.int .i64 y,.int .i64 k0] 66)) 44 (anA ⟨0,[]⟩);simp only[World.size_alloc]at a2;exact a2
 have D1:Hid (PS [⟨w.heap.size,66,#[.int .i64 6,.int .i64 p,.int .i64 x,.int .i64 y,.int .i64 k0]⟩,⟨w.heap.size+1,44,anA ⟨0,[]⟩⟩] a b xs ys w1 base g h):=by
  refine d.boxes b1 (fun z hz=>?_);simp only[List.mem_cons,List.not_mem_nil,or_false]at hz;rcases hz with rfl|rfl
  ·exact⟨s0,Nat.le_refl _⟩
  ·exact⟨s1,Nat.le_succ _⟩
 have B1:Hid (Below base w w1/\base<=w.heap.size):=⟨b1.mono lt,lt⟩
 have m0:w1.cell? ⟨w.heap.size,0,none⟩=some (.int .i64 6):=s0.cell 0 rfl;have m2:w1.cell? ⟨w.heap.size,2,none⟩=some (.int .i64 x):=s0.cell 2 rfl;have m4:w1.cell? ⟨w.heap.size,4,none⟩=some (.int .i64 k0):=s0.cell 4 rfl;clear s0 s1 b1 d lt;unfold CV cmA;dsimp only;go_enter Tryz.func98,Tryz.ntmps98;go_upto_region 1 with fail
 rw[<-hw1];clear hw1;go_wp2_with fail
 refine(np base g h i x w1 D1.out t0 t1 i0 i1).mono ?_;rintro e w2 ⟨rfl,D2,B2⟩;have HD:Hid (PS [⟨w.heap.size,66,#[.int .i64 6,.int .i64 p,.int .i64 x,.int .i64 y,.int .i64 k0]⟩,⟨w.heap.size+1,44,anA ⟨0,[]⟩⟩] a b xs ys w2 base g (h.regd i x)):=D2;have HB:Hid (Below base w w2):=B1.out.1.trans B2;clear D2 B2 m0 m2 m4 D1;go_wp2_with (refine ae GC rfl _ _ rfl (w.heap.size+1) (anA ⟨0,[]⟩) (anA ⟨0,[]⟩) rfl rfl rfl rfl (aC _) (HD.out.box ⟨w.heap.size+1,44,anA ⟨0,[]⟩⟩ Fg) ?_;intro w9 s9 g9)
 refine bodyPost_ret (aj GC rfl _ _ (w.heap.size+1) _ rfl rfl s9) rfl ?_;exact⟨rfl,HD.out.other ⟨w.heap.size+1,44,anA ⟨0,[]⟩⟩ Fg (show(44:Nat)≠2 by decide) g9,HB.out.grown g9 (Nat.le_trans B1.out.2 (Nat.le_of_lt (Nat.lt_of_lt_of_le (Nat.lt_succ_self _) (Nat.le_of_lt (HD.out.box ⟨w.heap.size+1,44,anA ⟨0,[]⟩⟩ Fg).lt)))) (fun k e=>by cases e;have:=B1.out.2;omega)⟩
theorem xx {a b:Value} {xs ys:List Int} (base g:Nat) (h:Hd) (i p x y k0:Int) (w:World) (d:PS [] a b xs ys w base g h) (i0:0<=i) (i1:i<4):
  Calls Tryz.prog 98 #[.pointer (some ⟨g,0,none⟩),.int .i64 i,CV ⟨7,p,x,y,k0⟩] w fun e w'=>e=.returned (AV (iV (h.resd i k0)).2)/\PS [] a b xs ys w' base g (h.resd i k0).1/\Below base w w':=by
 obtain⟨r,HR⟩:∃r,Hid (r=h.resd i k0):=⟨_,rfl⟩
 rw[<-HR.out];obtain⟨r1,r2⟩:=r;obtain⟨w1,hw1⟩:=Fe ((w.alloc (.cells #[.int .i64 7,.int .i64 p,.int .i64 x,.int .i64 y,.int .i64 k0] 66)).alloc (.cells #[.int .i64 0,.string ⟨#[]⟩] 44))
 have b1:iO w w1:=by rw[hw1];exact Fc.alloc Fg _
 have lt:=d.lt;have s0:StB w1 w.heap.size 66 #[.int .i64 7,.int .i64 p,.int .i64 x,.int .i64 y,.int .i64 k0]:=by rw[hw1];exact(StB.new w _ _).alloc _
 have s1:StB w1 (w.heap.size+1) 44 (anA ⟨0,[]⟩):=by
  rw[hw1];have a2:=StB.new (w.alloc (.cells #[.int .i64 7,.int .i64 p,.int .i64 x,.int .i64 y,.int .i64 k0] 66)) 44 (anA ⟨0,[]⟩);simp only[World.size_alloc]at a2;exact a2
 have D1:Hid (PS [⟨w.heap.size,66,#[.int .i64 7,.int .i64 p,.int .i64 x,.int .i64 y,.int .i64 k0]⟩,⟨w.heap.size+1,44,anA ⟨0,[]⟩⟩] a b xs ys w1 base g h):=by
  refine d.boxes b1 (fun z hz=>?_);simp only[List.mem_cons,List.not_mem_nil,or_false]at hz;rcases hz with rfl|rfl
  ·exact⟨s0,Nat.le_refl _⟩
  ·exact⟨s1,Nat.le_succ _⟩
 have B1:Hid (Below base w w1/\base<=w.heap.size):=⟨b1.mono lt,lt⟩
 have m0:w1.cell? ⟨w.heap.size,0,none⟩=some (.int .i64 7):=s0.cell 0 rfl;have m2:w1.cell? ⟨w.heap.size,2,none⟩=some (.int .i64 x):=s0.cell 2 rfl;have m4:w1.cell? ⟨w.heap.size,4,none⟩=some (.int .i64 k0):=s0.cell 4 rfl;clear s0 s1 b1 d lt;unfold CV cmA;dsimp only;go_enter Tryz.func98,Tryz.ntmps98;go_upto_region 1 with fail
 rw[<-hw1];clear hw1;go_wp2_with fail
 refine(oW base g h i k0 w1 D1.out i0 i1).mono ?_;rw[<-HR.out];dsimp only;rintro e w2 ⟨rfl,D2,B2⟩;have HD:Hid (PS [⟨w.heap.size,66,#[.int .i64 7,.int .i64 p,.int .i64 x,.int .i64 y,.int .i64 k0]⟩,⟨w.heap.size+1,44,anA ⟨0,[]⟩⟩] a b xs ys w2 base g r1):=D2;have HB:Hid (Below base w w2):=B1.out.1.trans B2;clear D2 B2 m0 m2 m4 D1;cases r2 with
 |false=>
  go_wp2_with (refine ae GC rfl _ _ rfl (w.heap.size+1) (anA ⟨3,[]⟩) (anA ⟨0,[]⟩) rfl rfl rfl rfl (aC _) (HD.out.box ⟨w.heap.size+1,44,anA ⟨0,[]⟩⟩ Fg) ?_;intro w9 s9 g9)
  refine bodyPost_ret (aj GC rfl _ _ (w.heap.size+1) _ rfl rfl s9) rfl ?_;exact⟨rfl,HD.out.other ⟨w.heap.size+1,44,anA ⟨0,[]⟩⟩ Fg (show(44:Nat)≠2 by decide) g9,HB.out.grown g9 (Nat.le_trans B1.out.2 (Nat.le_of_lt (Nat.lt_of_lt_of_le (Nat.lt_succ_self _) (Nat.le_of_lt (HD.out.box ⟨w.heap.size+1,44,anA ⟨0,[]⟩⟩ Fg).lt)))) (fun k e=>by cases e;have:=B1.out.2;omega)⟩
 |true=>
  go_wp2_with (refine ae GC rfl _ _ rfl (w.heap.size+1) (anA ⟨0,[]⟩) (anA ⟨0,[]⟩) rfl rfl rfl rfl (aC _) (HD.out.box ⟨w.heap.size+1,44,anA ⟨0,[]⟩⟩ Fg) ?_;intro w9 s9 g9)
  refine bodyPost_ret (aj GC rfl _ _ (w.heap.size+1) _ rfl rfl s9) rfl ?_;exact⟨rfl,HD.out.other ⟨w.heap.size+1,44,anA ⟨0,[]⟩⟩ Fg (show(44:Nat)≠2 by decide) g9,HB.out.grown g9 (Nat.le_trans B1.out.2 (Nat.le_of_lt (Nat.lt_of_lt_of_le (Nat.lt_succ_self _) (Nat.le_of_lt (HD.out.box ⟨w.heap.size+1,44,anA ⟨0,[]⟩⟩ Fg).lt)))) (fun k e=>by cases e;have:=B1.out.2;omega)⟩
theorem xy {a b:Value} {xs ys:List Int} (base g:Nat) (h:Hd) (i p x y k0:Int) (w:World) (d:PS [] a b xs ys w base g h) (i0:0<=i) (i1:i<4):
  Calls Tryz.prog 98 #[.pointer (some ⟨g,0,none⟩),.int .i64 i,CV ⟨8,p,x,y,k0⟩] w fun e w'=>e=.returned (AV (iV (h.reld i)).2)/\PS [] a b xs ys w' base g (h.reld i).1/\Below base w w':=by
 obtain⟨r,HR⟩:∃r,Hid (r=h.reld i):=⟨_,rfl⟩
 rw[<-HR.out];obtain⟨r1,r2⟩:=r;obtain⟨w1,hw1⟩:=Fe ((w.alloc (.cells #[.int .i64 8,.int .i64 p,.int .i64 x,.int .i64 y,.int .i64 k0] 66)).alloc (.cells #[.int .i64 0,.string ⟨#[]⟩] 44))
 have b1:iO w w1:=by rw[hw1];exact Fc.alloc Fg _
 have lt:=d.lt;have s0:StB w1 w.heap.size 66 #[.int .i64 8,.int .i64 p,.int .i64 x,.int .i64 y,.int .i64 k0]:=by rw[hw1];exact(StB.new w _ _).alloc _
 have s1:StB w1 (w.heap.size+1) 44 (anA ⟨0,[]⟩):=by
  rw[hw1];have a2:=StB.new (w.alloc (.cells #[.int .i64 8,.int .i64 p,.int .i64 x,.int .i64 y,.int .i64 k0] 66)) 44 (anA ⟨0,[]⟩);simp only[World.size_alloc]at a2;exact a2
 have D1:Hid (PS [⟨w.heap.size,66,#[.int .i64 8,.int .i64 p,.int .i64 x,.int .i64 y,.int .i64 k0]⟩,⟨w.heap.size+1,44,anA ⟨0,[]⟩⟩] a b xs ys w1 base g h):=by
  refine d.boxes b1 (fun z hz=>?_);simp only[List.mem_cons,List.not_mem_nil,or_false]at hz;rcases hz with rfl|rfl
  ·exact⟨s0,Nat.le_refl _⟩
  ·exact⟨s1,Nat.le_succ _⟩
 have B1:Hid (Below base w w1/\base<=w.heap.size):=⟨b1.mono lt,lt⟩
 have m0:w1.cell? ⟨w.heap.size,0,none⟩=some (.int .i64 8):=s0.cell 0 rfl;have m2:w1.cell? ⟨w.heap.size,2,none⟩=some (.int .i64 x):=s0.cell 2 rfl;have m4:w1.cell? ⟨w.heap.size,4,none⟩=some (.int .i64 k0):=s0.cell 4 rfl;clear s0 s1 b1 d lt;unfold CV cmA;dsimp only;go_enter Tryz.func98,Tryz.ntmps98;go_upto_region 1 with fail
 rw[<-hw1];clear hw1;go_wp2_with fail
 refine(oX base g h i w1 D1.out i0 i1).mono ?_;rw[<-HR.out];dsimp only;rintro e w2 ⟨rfl,D2,B2⟩;have HD:Hid (PS [⟨w.heap.size,66,#[.int .i64 8,.int .i64 p,.int .i64 x,.int .i64 y,.int .i64 k0]⟩,⟨w.heap.size+1,44,anA ⟨0,[]⟩⟩] a b xs ys w2 base g r1):=D2;have HB:Hid (Below base w w2):=B1.out.1.trans B2;clear D2 B2 m0 m2 m4 D1;cases r2 with
 |false=>
  go_wp2_with (refine ae GC rfl _ _ rfl (w.heap.size+1) (anA ⟨3,[]⟩) (anA ⟨0,[]⟩) rfl rfl rfl rfl (aC _) (HD.out.box ⟨w.heap.size+1,44,anA ⟨0,[]⟩⟩ Fg) ?_;intro w9 s9 g9)
  refine bodyPost_ret (aj GC rfl _ _ (w.heap.size+1) _ rfl rfl s9) rfl ?_;exact⟨rfl,HD.out.other ⟨w.heap.size+1,44,anA ⟨0,[]⟩⟩ Fg (show(44:Nat)≠2 by decide) g9,HB.out.grown g9 (Nat.le_trans B1.out.2 (Nat.le_of_lt (Nat.lt_of_lt_of_le (Nat.lt_succ_self _) (Nat.le_of_lt (HD.out.box ⟨w.heap.size+1,44,anA ⟨0,[]⟩⟩ Fg).lt)))) (fun k e=>by cases e;have:=B1.out.2;omega)⟩
 |true=>
  go_wp2_with (refine ae GC rfl _ _ rfl (w.heap.size+1) (anA ⟨0,[]⟩) (anA ⟨0,[]⟩) rfl rfl rfl rfl (aC _) (HD.out.box ⟨w.heap.size+1,44,anA ⟨0,[]⟩⟩ Fg) ?_;intro w9 s9 g9)
  refine bodyPost_ret (aj GC rfl _ _ (w.heap.size+1) _ rfl rfl s9) rfl ?_;exact⟨rfl,HD.out.other ⟨w.heap.size+1,44,anA ⟨0,[]⟩⟩ Fg (show(44:Nat)≠2 by decide) g9,HB.out.grown g9 (Nat.le_trans B1.out.2 (Nat.le_of_lt (Nat.lt_of_lt_of_le (Nat.lt_succ_self _) (Nat.le_of_lt (HD.out.box ⟨w.heap.size+1,44,anA ⟨0,[]⟩⟩ Fg).lt)))) (fun k e=>by cases e;have:=B1.out.2;omega)⟩
theorem xz {a b:Value} {xs ys:List Int} (base g:Nat) (h:Hd) (i p x y k0:Int) (w:World) (d:PS [] a b xs ys w base g h) (i0:0<=i) (i1:i<4) (t0:0<=h.tu) (t1:h.tu<=1000000000):
  Calls Tryz.prog 98 #[.pointer (some ⟨g,0,none⟩),.int .i64 i,CV ⟨9,p,x,y,k0⟩] w fun e w'=>e=.returned (AV (iV (h.clrd i)).2)/\PS [] a b xs ys w' base g (h.clrd i).1/\Below base w w':=by
 obtain⟨r,HR⟩:∃r,Hid (r=h.clrd i):=⟨_,rfl⟩
 rw[<-HR.out];obtain⟨r1,r2⟩:=r;obtain⟨w1,hw1⟩:=Fe ((w.alloc (.cells #[.int .i64 9,.int .i64 p,.int .i64 x,.int .i64 y,.int .i64 k0] 66)).alloc (.cells #[.int .i64 0,.string ⟨#[]⟩] 44))
 have b1:iO w w1:=by rw[hw1];exact Fc.alloc Fg _
 have lt:=d.lt;have s0:StB w1 w.heap.size 66 #[.int .i64 9,.int .i64 p,.int .i64 x,.int .i64 y,.int .i64 k0]:=by rw[hw1];exact(StB.new w _ _).alloc _
 have s1:StB w1 (w.heap.size+1) 44 (anA ⟨0,[]⟩):=by
  rw[hw1];have a2:=StB.new (w.alloc (.cells #[.int .i64 9,.int .i64 p,.int .i64 x,.int .i64 y,.int .i64 k0] 66)) 44 (anA ⟨0,[]⟩);simp only[World.size_alloc]at a2;exact a2
 have D1:Hid (PS [⟨w.heap.size,66,#[.int .i64 9,.int .i64 p,.int .i64 x,.int .i64 y,.int .i64 k0]⟩,⟨w.heap.size+1,44,anA ⟨0,[]⟩⟩] a b xs ys w1 base g h):=by
  refine d.boxes b1 (fun z hz=>?_);simp only[List.mem_cons,List.not_mem_nil,or_false]at hz;rcases hz with rfl|rfl
  ·exact⟨s0,Nat.le_refl _⟩
  ·exact⟨s1,Nat.le_succ _⟩
 have B1:Hid (Below base w w1/\base<=w.heap.size):=⟨b1.mono lt,lt⟩
 have m0:w1.cell? ⟨w.heap.size,0,none⟩=some (.int .i64 9):=s0.cell 0 rfl;have m2:w1.cell? ⟨w.heap.size,2,none⟩=some (.int .i64 x):=s0.cell 2 rfl;have m4:w1.cell? ⟨w.heap.size,4,none⟩=some (.int .i64 k0):=s0.cell 4 rfl;clear s0 s1 b1 d lt;unfold CV cmA;dsimp only;go_enter Tryz.func98,Tryz.ntmps98;go_upto_region 1 with fail
 rw[<-hw1];clear hw1;go_wp2_with fail
 refine(sv base g h i w1 D1.out i0 i1 t0 t1).mono ?_;rw[<-HR.out];dsimp only;rintro e w2 ⟨rfl,D2,B2⟩;have HD:Hid (PS [⟨w.heap.size,66,#[.int .i64 9,.int .i64 p,.int .i64 x,.int .i64 y,.int .i64 k0]⟩,⟨w.heap.size+1,44,anA ⟨0,[]⟩⟩] a b xs ys w2 base g r1):=D2;have HB:Hid (Below base w w2):=B1.out.1.trans B2;clear D2 B2 m0 m2 m4 D1;cases r2 with
 |false=>
  go_wp2_with (refine ae GC rfl _ _ rfl (w.heap.size+1) (anA ⟨3,[]⟩) (anA ⟨0,[]⟩) rfl rfl rfl rfl (aC _) (HD.out.box ⟨w.heap.size+1,44,anA ⟨0,[]⟩⟩ Fg) ?_;intro w9 s9 g9)
  refine bodyPost_ret (aj GC rfl _ _ (w.heap.size+1) _ rfl rfl s9) rfl ?_;exact⟨rfl,HD.out.other ⟨w.heap.size+1,44,anA ⟨0,[]⟩⟩ Fg (show(44:Nat)≠2 by decide) g9,HB.out.grown g9 (Nat.le_trans B1.out.2 (Nat.le_of_lt (Nat.lt_of_lt_of_le (Nat.lt_succ_self _) (Nat.le_of_lt (HD.out.box ⟨w.heap.size+1,44,anA ⟨0,[]⟩⟩ Fg).lt)))) (fun k e=>by cases e;have:=B1.out.2;omega)⟩
 |true=>
  go_wp2_with (refine ae GC rfl _ _ rfl (w.heap.size+1) (anA ⟨0,[]⟩) (anA ⟨0,[]⟩) rfl rfl rfl rfl (aC _) (HD.out.box ⟨w.heap.size+1,44,anA ⟨0,[]⟩⟩ Fg) ?_;intro w9 s9 g9)
  refine bodyPost_ret (aj GC rfl _ _ (w.heap.size+1) _ rfl rfl s9) rfl ?_;exact⟨rfl,HD.out.other ⟨w.heap.size+1,44,anA ⟨0,[]⟩⟩ Fg (show(44:Nat)≠2 by decide) g9,HB.out.grown g9 (Nat.le_trans B1.out.2 (Nat.le_of_lt (Nat.lt_of_lt_of_le (Nat.lt_succ_self _) (Nat.le_of_lt (HD.out.box ⟨w.heap.size+1,44,anA ⟨0,[]⟩⟩ Fg).lt)))) (fun k e=>by cases e;have:=B1.out.2;omega)⟩
theorem xA {a b:Value} {xs ys:List Int} (base g:Nat) (h:Hd) (i p x y k0:Int) (w:World) (d:PS [] a b xs ys w base g h) (i0:0<=i) (i1:i<4) (hx:x≠0) (t0:0<=h.tu) (t1:h.tu<=1000000000) (hm:h.kd≠0->bY h.kd=false->0<=h.ho/\h.ho<=3):
  Calls Tryz.prog 98 #[.pointer (some ⟨g,0,none⟩),.int .i64 i,CV ⟨10,p,x,y,k0⟩] w fun e w'=>e=.returned (AV (iV (h.pred i x k0)).2)/\PS [] a b xs ys w' base g (h.pred i x k0).1/\Below base w w':=by
 obtain⟨r,HR⟩:∃r,Hid (r=h.pred i x k0):=⟨_,rfl⟩
 rw[<-HR.out];obtain⟨r1,r2⟩:=r;obtain⟨w1,hw1⟩:=Fe ((w.alloc (.cells #[.int .i64 10,.int .i64 p,.int .i64 x,.int .i64 y,.int .i64 k0] 66)).alloc (.cells #[.int .i64 0,.string ⟨#[]⟩] 44))
 have b1:iO w w1:=by rw[hw1];exact Fc.alloc Fg _
 have lt:=d.lt;have s0:StB w1 w.heap.size 66 #[.int .i64 10,.int .i64 p,.int .i64 x,.int .i64 y,.int .i64 k0]:=by rw[hw1];exact(StB.new w _ _).alloc _
 have s1:StB w1 (w.heap.size+1) 44 (anA ⟨0,[]⟩):=by
  rw[hw1];have a2:=StB.new (w.alloc (.cells #[.int .i64 10,.int .i64 p,.int .i64 x,.int .i64 y,.int .i64 k0] 66)) 44 (anA ⟨0,[]⟩);simp only[World.size_alloc]at a2;exact a2
 have D1:Hid (PS [⟨w.heap.size,66,#[.int .i64 10,.int .i64 p,.int .i64 x,.int .i64 y,.int .i64 k0]⟩,⟨w.heap.size+1,44,anA ⟨0,[]⟩⟩] a b xs ys w1 base g h):=by
  refine d.boxes b1 (fun z hz=>?_);simp only[List.mem_cons,List.not_mem_nil,or_false]at hz;rcases hz with rfl|rfl
  ·exact⟨s0,Nat.le_refl _⟩
  ·exact⟨s1,Nat.le_succ _⟩
 have B1:Hid (Below base w w1/\base<=w.heap.size):=⟨b1.mono lt,lt⟩
 have m0:w1.cell? ⟨w.heap.size,0,none⟩=some (.int .i64 10):=s0.cell 0 rfl;have m2:w1.cell? ⟨w.heap.size,2,none⟩=some (.int .i64 x):=s0.cell 2 rfl;have m4:w1.cell? ⟨w.heap.size,4,none⟩=some (.int .i64 k0):=s0.cell 4 rfl;clear s0 s1 b1 d lt;unfold CV cmA;dsimp only;go_enter Tryz.func98,Tryz.ntmps98;go_upto_region 1 with fail
 rw[<-hw1];clear hw1;go_wp2_with fail
 refine(oY base g h i x k0 w1 D1.out i0 i1 t0 t1 hm).mono ?_;rw[<-HR.out];dsimp only;rintro e w2 ⟨rfl,D2,B2⟩;have HD:Hid (PS [⟨w.heap.size,66,#[.int .i64 10,.int .i64 p,.int .i64 x,.int .i64 y,.int .i64 k0]⟩,⟨w.heap.size+1,44,anA ⟨0,[]⟩⟩] a b xs ys w2 base g r1):=D2;have HB:Hid (Below base w w2):=B1.out.1.trans B2;clear D2 B2 m0 m2 m4 D1;cases r2 with
 |false=>
  go_wp2_with (refine ae GC rfl _ _ rfl (w.heap.size+1) (anA ⟨3,[]⟩) (anA ⟨0,[]⟩) rfl rfl rfl rfl (aC _) (HD.out.box ⟨w.heap.size+1,44,anA ⟨0,[]⟩⟩ Fg) ?_;intro w9 s9 g9)
  refine bodyPost_ret (aj GC rfl _ _ (w.heap.size+1) _ rfl rfl s9) rfl ?_;exact⟨rfl,HD.out.other ⟨w.heap.size+1,44,anA ⟨0,[]⟩⟩ Fg (show(44:Nat)≠2 by decide) g9,HB.out.grown g9 (Nat.le_trans B1.out.2 (Nat.le_of_lt (Nat.lt_of_lt_of_le (Nat.lt_succ_self _) (Nat.le_of_lt (HD.out.box ⟨w.heap.size+1,44,anA ⟨0,[]⟩⟩ Fg).lt)))) (fun k e=>by cases e;have:=B1.out.2;omega)⟩
 |true=>
  go_wp2_with (refine ae GC rfl _ _ rfl (w.heap.size+1) (anA ⟨0,[]⟩) (anA ⟨0,[]⟩) rfl rfl rfl rfl (aC _) (HD.out.box ⟨w.heap.size+1,44,anA ⟨0,[]⟩⟩ Fg) ?_;intro w9 s9 g9)
  refine bodyPost_ret (aj GC rfl _ _ (w.heap.size+1) _ rfl rfl s9) rfl ?_;exact⟨rfl,HD.out.other ⟨w.heap.size+1,44,anA ⟨0,[]⟩⟩ Fg (show(44:Nat)≠2 by decide) g9,HB.out.grown g9 (Nat.le_trans B1.out.2 (Nat.le_of_lt (Nat.lt_of_lt_of_le (Nat.lt_succ_self _) (Nat.le_of_lt (HD.out.box ⟨w.heap.size+1,44,anA ⟨0,[]⟩⟩ Fg).lt)))) (fun k e=>by cases e;have:=B1.out.2;omega)⟩
theorem xB {a b:Value} {xs ys:List Int} (base g:Nat) (h:Hd) (i p y k0:Int) (w:World) (d:PS [] a b xs ys w base g h):
  Calls Tryz.prog 98 #[.pointer (some ⟨g,0,none⟩),.int .i64 i,CV ⟨10,p,0,y,k0⟩] w fun e w'=>e=.returned (AV ⟨1,[]⟩)/\PS [] a b xs ys w' base g h/\Below base w w':=by
 obtain⟨w1,hw1⟩:=Fe ((w.alloc (.cells #[.int .i64 10,.int .i64 p,.int .i64 0,.int .i64 y,.int .i64 k0] 66)).alloc (.cells #[.int .i64 0,.string ⟨#[]⟩] 44))
 have b1:iO w w1:=by rw[hw1];exact Fc.alloc Fg _
 have lt:=d.lt;have s0:StB w1 w.heap.size 66 #[.int .i64 10,.int .i64 p,.int .i64 0,.int .i64 y,.int .i64 k0]:=by rw[hw1];exact(StB.new w _ _).alloc _
 have s1:StB w1 (w.heap.size+1) 44 (anA ⟨0,[]⟩):=by
  rw[hw1];have a2:=StB.new (w.alloc (.cells #[.int .i64 10,.int .i64 p,.int .i64 0,.int .i64 y,.int .i64 k0] 66)) 44 (anA ⟨0,[]⟩);simp only[World.size_alloc]at a2;exact a2
 have D1:Hid (PS [⟨w.heap.size,66,#[.int .i64 10,.int .i64 p,.int .i64 0,.int .i64 y,.int .i64 k0]⟩,⟨w.heap.size+1,44,anA ⟨0,[]⟩⟩] a b xs ys w1 base g h):=by
  refine d.boxes b1 (fun z hz=>?_);simp only[List.mem_cons,List.not_mem_nil,or_false]at hz;rcases hz with rfl|rfl
  ·exact⟨s0,Nat.le_refl _⟩
  ·exact⟨s1,Nat.le_succ _⟩
 have B1:Hid (Below base w w1/\base<=w.heap.size):=⟨b1.mono lt,lt⟩
 have m0:w1.cell? ⟨w.heap.size,0,none⟩=some (.int .i64 10):=s0.cell 0 rfl;have m2:w1.cell? ⟨w.heap.size,2,none⟩=some (.int .i64 0):=s0.cell 2 rfl;have m4:w1.cell? ⟨w.heap.size,4,none⟩=some (.int .i64 k0):=s0.cell 4 rfl;clear s0 s1 b1 d lt;unfold CV cmA;dsimp only;go_enter Tryz.func98,Tryz.ntmps98;go_upto_region 1 with fail
 rw[<-hw1];clear hw1;have HD:=D1;have HB:Hid (Below base w w1):=B1.out.1;go_wp2_with (refine ae GC rfl _ _ rfl (w.heap.size+1) (anA ⟨1,[]⟩) (anA ⟨0,[]⟩) rfl rfl rfl rfl (aC _) (HD.out.box ⟨w.heap.size+1,44,anA ⟨0,[]⟩⟩ Fg) ?_;intro w9 s9 g9)
 refine bodyPost_ret (aj GC rfl _ _ (w.heap.size+1) _ rfl rfl s9) rfl ?_;exact⟨rfl,HD.out.other ⟨w.heap.size+1,44,anA ⟨0,[]⟩⟩ Fg (show(44:Nat)≠2 by decide) g9,HB.out.grown g9 (Nat.le_trans B1.out.2 (Nat.le_of_lt (Nat.lt_of_lt_of_le (Nat.lt_succ_self _) (Nat.le_of_lt (HD.out.box ⟨w.heap.size+1,44,anA ⟨0,[]⟩⟩ Fg).lt)))) (fun k e=>by cases e;have:=B1.out.2;omega)⟩
theorem uZ {a b:Value} {xs ys:List Int} (base g:Nat) (h:Hd) (i p x y k0:Int) (w:World) (d:PS [] a b xs ys w base g h) (ok:h.ok=true):
  Calls Tryz.prog 98 #[.pointer (some ⟨g,0,none⟩),.int .i64 i,CV ⟨11,p,x,y,k0⟩] w fun e w'=>e=.returned (AV ⟨0,h.keysT⟩)/\PS [] a b xs ys w' base g h/\Below base w w':=by
 obtain⟨w1,hw1⟩:=Fe ((w.alloc (.cells #[.int .i64 11,.int .i64 p,.int .i64 x,.int .i64 y,.int .i64 k0] 66)).alloc (.cells #[.int .i64 0,.string ⟨#[]⟩] 44))
 have b1:iO w w1:=by rw[hw1];exact Fc.alloc Fg _
 have lt:=d.lt;have s0:StB w1 w.heap.size 66 #[.int .i64 11,.int .i64 p,.int .i64 x,.int .i64 y,.int .i64 k0]:=by rw[hw1];exact(StB.new w _ _).alloc _
 have s1:StB w1 (w.heap.size+1) 44 (anA ⟨0,[]⟩):=by
  rw[hw1];have a2:=StB.new (w.alloc (.cells #[.int .i64 11,.int .i64 p,.int .i64 x,.int .i64 y,.int .i64 k0] 66)) 44 (anA ⟨0,[]⟩);simp only[World.size_alloc]at a2;exact a2
 have D1:Hid (PS [⟨w.heap.size,66,#[.int .i64 11,.int .i64 p,.int .i64 x,.int .i64 y,.int .i64 k0]⟩,⟨w.heap.size+1,44,anA ⟨0,[]⟩⟩] a b xs ys w1 base g h):=by
  refine d.boxes b1 (fun z hz=>?_);simp only[List.mem_cons,List.not_mem_nil,or_false]at hz;rcases hz with rfl|rfl
  ·exact⟨s0,Nat.le_refl _⟩
  ·exact⟨s1,Nat.le_succ _⟩
 have B1:Hid (Below base w w1/\base<=w.heap.size):=⟨b1.mono lt,lt⟩
 have m0:w1.cell? ⟨w.heap.size,0,none⟩=some (.int .i64 11):=s0.cell 0 rfl;have m2:w1.cell? ⟨w.heap.size,2,none⟩=some (.int .i64 x):=s0.cell 2 rfl;have m4:w1.cell? ⟨w.heap.size,4,none⟩=some (.int .i64 k0):=s0.cell 4 rfl;clear s0 s1 b1 d lt;unfold CV cmA;dsimp only;go_enter Tryz.func98,Tryz.ntmps98;go_upto_region 1 with fail
 rw[<-hw1];clear hw1;have HD:=D1;obtain⟨q1,cap1,d1⟩:=D1.out;have k2:w1.cell? ⟨g,2,none⟩=some (.slice (some ⟨q1,0,none⟩) 4 cap1):=d1.1.cell 2 rfl;have k3:w1.cell? ⟨g,3,none⟩=some (.int .i64 h.kd):=d1.1.cell 3 rfl;have k4:w1.cell? ⟨g,4,none⟩=some (.int .i64 h.ho):=d1.1.cell 4 rfl;have k5:w1.cell? ⟨g,5,none⟩=some (.int .i64 h.tu):=d1.1.cell 5 rfl;have c1:=vd _ h w1 d1.2.1.reads ok;unfold HV hdA at c1;have HE:Hid (eg h.keysN=h.keysT):=by simp[Hid,Hd.keysT,ok]
 obtain⟨tx,htx⟩:=Fe h.keysT
 rw[HE.out,<-htx]at c1;have HT:Hid (tx=h.keysT):=htx;clear d1 D1 htx;go_wp2_with fail
 refine c1.mono ?_;rintro e w2 ⟨rfl,b2⟩;have HD2:Hid (PS [⟨w.heap.size,66,#[.int .i64 11,.int .i64 p,.int .i64 x,.int .i64 y,.int .i64 k0]⟩,⟨w.heap.size+1,44,anA ⟨0,[]⟩⟩] a b xs ys w2 base g h):=HD.out.below b2;have HB:Hid (Below base w w2):=B1.out.1.trans (b2.mono HD.out.lt);clear b2 m0 m2 m4 HD c1 k2 k3 k4 k5;unfold S;go_wp2_with (refine ae GC rfl _ _ rfl (w.heap.size+1) (anA ⟨0,tx⟩) (anA ⟨0,[]⟩) rfl rfl rfl rfl (aC _) (HD2.out.box ⟨w.heap.size+1,44,anA ⟨0,[]⟩⟩ Fg) ?_;intro w9 s9 g9)
 refine bodyPost_ret (aj GC rfl _ _ (w.heap.size+1) _ rfl rfl s9) rfl ?_;rw[<-HT.out];exact⟨rfl,HD2.out.other ⟨w.heap.size+1,44,anA ⟨0,[]⟩⟩ Fg (show(44:Nat)≠2 by decide) g9,HB.out.grown g9 (Nat.le_trans B1.out.2 (Nat.le_of_lt (Nat.lt_of_lt_of_le (Nat.lt_succ_self _) (Nat.le_of_lt (HD2.out.box ⟨w.heap.size+1,44,anA ⟨0,[]⟩⟩ Fg).lt)))) (fun k e=>by cases e;have:=B1.out.2;omega)⟩
theorem u9 {a b:Value} {xs ys:List Int} (base g:Nat) (h:Hd) (i p x y k0:Int) (w:World) (d:PS [] a b xs ys w base g h) (ok:h.ok=true):
  Calls Tryz.prog 98 #[.pointer (some ⟨g,0,none⟩),.int .i64 i,CV ⟨12,p,x,y,k0⟩] w fun e w'=>e=.returned (AV ⟨0,h.holdT⟩)/\PS [] a b xs ys w' base g h/\Below base w w':=by
 obtain⟨w1,hw1⟩:=Fe ((w.alloc (.cells #[.int .i64 12,.int .i64 p,.int .i64 x,.int .i64 y,.int .i64 k0] 66)).alloc (.cells #[.int .i64 0,.string ⟨#[]⟩] 44))
 have b1:iO w w1:=by rw[hw1];exact Fc.alloc Fg _
 have lt:=d.lt;have s0:StB w1 w.heap.size 66 #[.int .i64 12,.int .i64 p,.int .i64 x,.int .i64 y,.int .i64 k0]:=by rw[hw1];exact(StB.new w _ _).alloc _
 have s1:StB w1 (w.heap.size+1) 44 (anA ⟨0,[]⟩):=by
  rw[hw1];have a2:=StB.new (w.alloc (.cells #[.int .i64 12,.int .i64 p,.int .i64 x,.int .i64 y,.int .i64 k0] 66)) 44 (anA ⟨0,[]⟩);simp only[World.size_alloc]at a2;exact a2
 have D1:Hid (PS [⟨w.heap.size,66,#[.int .i64 12,.int .i64 p,.int .i64 x,.int .i64 y,.int .i64 k0]⟩,⟨w.heap.size+1,44,anA ⟨0,[]⟩⟩] a b xs ys w1 base g h):=by
  refine d.boxes b1 (fun z hz=>?_);simp only[List.mem_cons,List.not_mem_nil,or_false]at hz;rcases hz with rfl|rfl
  ·exact⟨s0,Nat.le_refl _⟩
  ·exact⟨s1,Nat.le_succ _⟩
 have B1:Hid (Below base w w1/\base<=w.heap.size):=⟨b1.mono lt,lt⟩
 have m0:w1.cell? ⟨w.heap.size,0,none⟩=some (.int .i64 12):=s0.cell 0 rfl;have m2:w1.cell? ⟨w.heap.size,2,none⟩=some (.int .i64 x):=s0.cell 2 rfl;have m4:w1.cell? ⟨w.heap.size,4,none⟩=some (.int .i64 k0):=s0.cell 4 rfl;clear s0 s1 b1 d lt;unfold CV cmA;dsimp only;go_enter Tryz.func98,Tryz.ntmps98;go_upto_region 1 with fail
 rw[<-hw1];clear hw1;have HD:=D1;obtain⟨q1,cap1,d1⟩:=D1.out;have k2:w1.cell? ⟨g,2,none⟩=some (.slice (some ⟨q1,0,none⟩) 4 cap1):=d1.1.cell 2 rfl;have k3:w1.cell? ⟨g,3,none⟩=some (.int .i64 h.kd):=d1.1.cell 3 rfl;have k4:w1.cell? ⟨g,4,none⟩=some (.int .i64 h.ho):=d1.1.cell 4 rfl;have k5:w1.cell? ⟨g,5,none⟩=some (.int .i64 h.tu):=d1.1.cell 5 rfl;have c1:=pQ _ h w1 d1.2.1.reads ok;unfold HV hdA at c1;have HE:Hid (eg h.holdN=h.holdT):=by simp[Hid,Hd.holdT,ok]
 obtain⟨tx,htx⟩:=Fe h.holdT
 rw[HE.out,<-htx]at c1;have HT:Hid (tx=h.holdT):=htx;clear d1 D1 htx;go_wp2_with fail
 refine c1.mono ?_;rintro e w2 ⟨rfl,b2⟩;have HD2:Hid (PS [⟨w.heap.size,66,#[.int .i64 12,.int .i64 p,.int .i64 x,.int .i64 y,.int .i64 k0]⟩,⟨w.heap.size+1,44,anA ⟨0,[]⟩⟩] a b xs ys w2 base g h):=HD.out.below b2;have HB:Hid (Below base w w2):=B1.out.1.trans (b2.mono HD.out.lt);clear b2 m0 m2 m4 HD c1 k2 k3 k4 k5;unfold S;go_wp2_with (refine ae GC rfl _ _ rfl (w.heap.size+1) (anA ⟨0,tx⟩) (anA ⟨0,[]⟩) rfl rfl rfl rfl (aC _) (HD2.out.box ⟨w.heap.size+1,44,anA ⟨0,[]⟩⟩ Fg) ?_;intro w9 s9 g9)
 refine bodyPost_ret (aj GC rfl _ _ (w.heap.size+1) _ rfl rfl s9) rfl ?_;rw[<-HT.out];exact⟨rfl,HD2.out.other ⟨w.heap.size+1,44,anA ⟨0,[]⟩⟩ Fg (show(44:Nat)≠2 by decide) g9,HB.out.grown g9 (Nat.le_trans B1.out.2 (Nat.le_of_lt (Nat.lt_of_lt_of_le (Nat.lt_succ_self _) (Nat.le_of_lt (HD2.out.box ⟨w.heap.size+1,44,anA ⟨0,[]⟩⟩ Fg).lt)))) (fun k e=>by cases e;have:=B1.out.2;omega)⟩
theorem xC {a b:Value} {xs ys:List Int} (base g:Nat) (h:Hd) (i:Int) (c:Cm) (w:World) (d:PS [] a b xs ys w base g h) (i0:0<=i) (i1:i<4) (ok:h.ok=true) (hc:c.ok=true) (h5:5<c.o):
  Calls Tryz.prog 98 #[.pointer (some ⟨g,0,none⟩),.int .i64 i,CV c] w fun e w'=>e=.returned (AV (h.act i c).2)/\PS [] a b xs ys w' base g (h.act i c).1/\Below base w w':=by
 have ho:c.o<=12:=by
  unfold Cm.ok Cm.told at hc;simp only[Bool.and_eq_true,aE]at hc;omega
 obtain⟨hl,ht, -,hm⟩:=Hd.ok_all ok;obtain⟨o,p,x,y,k0⟩:=c;dsimp only at h5 ho;clear hc;have h6:o=6∨o=7∨o=8∨o=9∨o=10∨o=11∨o=12:=by omega
 clear h5 ho;rcases h6 with rfl|rfl|rfl|rfl|rfl|rfl|rfl
 ·exact xw base g h i p x y k0 w d i0 i1 ht.1 ht.2
 ·exact xx base g h i p x y k0 w d i0 i1
 ·exact xy base g h i p x y k0 w d i0 i1
 ·exact xz base g h i p x y k0 w d i0 i1 ht.1 ht.2
 ·by_cases hx:x=0
  ·subst hx
   exact xB base g h i p y k0 w d
  ·have e:h.act i ⟨10,p,x,y,k0⟩=iV (h.pred i x k0):=by simp[Hd.act,hx]
   rw[e];exact xA base g h i p x y k0 w d i0 i1 hx ht.1 ht.2 (xh hm)
 ·exact uZ base g h i p x y k0 w d ok
 ·exact u9 base g h i p x y k0 w d ok
structure Ds (w wx:World) (u v q:Value) (h:Hd) (c:Cm):Prop where
 st:StB wx w.heap.size 96 (srA u v q h)
 cm:StB wx (w.heap.size+1) 66 (cmA c)
 rs:StB wx (w.heap.size+1+1) 96 zeR
 ra:StB wx (w.heap.size+1+1+1) 44 (anA ⟨0,[]⟩)
 bl:iO w wx
 sz:w.heap.size+4<=wx.heap.size
theorem Ds.start (w:World) (u v q:Value) (h:Hd) (c:Cm):Ds w ((((w.alloc (.cells (srA u v q h) 96)).alloc (.cells (cmA c) 66)).alloc (.cells zeR 96)).alloc (.cells (anA ⟨0,[]⟩) 44)) u v q h c:=by
 have a1:=StB.new w 96 (srA u v q h);have a2:=StB.new (w.alloc (.cells (srA u v q h) 96)) 66 (cmA c);have a3:=StB.new ((w.alloc (.cells (srA u v q h) 96)).alloc (.cells (cmA c) 66)) 96 zeR;have a4:=StB.new (((w.alloc (.cells (srA u v q h) 96)).alloc (.cells (cmA c) 66)).alloc (.cells zeR 96)) 44 (anA ⟨0,[]⟩);simp only[World.size_alloc]at a2 a3 a4;refine⟨((a1.alloc _).alloc _).alloc _,(a2.alloc _).alloc _,a3.alloc _,a4,?_,by simp⟩;exact((Fc.alloc Fg _).alloc (by simp;omega) _).alloc (by simp;omega) _
theorem Ds.next {w wx wy:World} {u v q:Value} {h:Hd} {c:Cm} (d:Ds w wx u v q h c) (b:iO wx wy):Ds w wy u v q h c:=
 ⟨d.st.below b,d.cm.below b,d.rs.below b,d.ra.below b,d.bl.trans (b.mono d.bl.size),Nat.le_trans d.sz b.size⟩
theorem Ds.back {w wx wy:World} {u v q:Value} {h:Hd} {c:Cm} (d:Ds w wx u v q h c) (b:Below (w.heap.size+4) wx wy):Ds w wy u v q h c:=
 ⟨(b.block _ Ff).trans d.st,(b.block _ Ff).trans d.cm,(b.block _ Ff).trans d.rs,(b.block _ Ff).trans d.ra,d.bl.trans (b.mono Ff),Nat.le_trans d.sz b.size⟩
theorem Ds.grown {w wx wy:World} {u v q:Value} {h:Hd} {c:Cm} {g:Nat} (d:Ds w wx u v q h c) (b:wx.grownBy wy (some g)) (hg:w.heap.size+4<=g):Ds w wy u v q h c:=
 ⟨d.st.kept b (by simp;omega),d.cm.kept b (by simp;omega),d.rs.kept b (by simp;omega),d.ra.kept b (by simp;omega),d.bl.grown b d.bl.size (fun k e=>by cases e;omega),Nat.le_trans d.sz b.size⟩
theorem Ds.drew {w wx:World} {u v q:Value} {h:Hd} {c:Cm} (d:Ds w wx u v q h c):Ds w wx.drew u v q h c:=⟨d.st,d.cm,d.rs,d.ra,d.bl.drew,d.sz⟩
theorem Ds.fin {w wx wy wz:World} {u v q:Value} {h:Hd} {c:Cm} {a b k:Value} {xs ys ks:List Int} {base:Nat} (d:Ds w wx u v q h c) (o:aZ wx base a b k xs ys ks) (hb:w.heap.size+4<=base)
  (g5:wx.grownBy wy (some (w.heap.size+1+1))) (g6:wy.grownBy wz (some (w.heap.size+1+1+1))):aZ wz w.heap.size a b k xs ys ks/\iO w wz:=by
 refine⟨((o.keptLt g5 Ff).keptLt g6 Ff).mono Ff,?_⟩;have b5:=d.bl.grown g5 d.bl.size (fun k e=>by cases e;omega);exact b5.grown g6 b5.size (fun k e=>by cases e;omega)
theorem fK {fn:Func} {p q:Tmp} (h:fn.results=#[.cell p 96,.cell q 44]) (tmps:Array Value) (w:World) (g k:Nat) (cs ds:Array Value) (hc:cs.size=6) (hd:ds.size=2)
  (hp:tmps.getD p undef=.pointer (some ⟨g,0,none⟩)) (hq:tmps.getD q undef=.pointer (some ⟨k,0,none⟩)) (h1:StB w g 96 cs) (h2:StB w k 44 ds):(results fn tmps).run Tryz.prog w=.ok (.tuple #[.agg cs,.agg ds]) w:=by
 have l1:=gV GP w g cs hc h1;have l2:=gV GC w k ds hd h2;have hp':tmps[p]?.getD undef=.pointer (some ⟨g,0,none⟩):=by simpa using hp
 have hq':tmps[q]?.getD undef=.pointer (some ⟨k,0,none⟩):=by simpa using hq
 simp[results,h,hp',hq',asAddr,l1,l2]
theorem aZ.kept {w w':World} {base g:Nat} {a b k:Value} {xs ys ks:List Int} (h:aZ w base a b k xs ys ks) (e:w.grownBy w' (some g)) (ha:a.ownBlock≠some g) (hb:b.ownBlock≠some g) (hk:k.ownBlock≠some g):aZ w' base a b k xs ys ks:=
 ⟨⟨h.1.1.kept e (.inr ha),h.1.2.1.kept e (.inr hb),h.1.2.2⟩,h.2.1.kept e (.inr hk),h.2.2⟩
theorem aZ.ne {w:World} {base g:Nat} {a b k:Value} {xs ys ks:List Int} (h:aZ w base a b k xs ys ks) (hg:w.heap.size<=g):a.ownBlock≠some g/\b.ownBlock≠some g/\k.ownBlock≠some g:=
 ⟨fun e=>by have:=(h.1.1.lt _ e).2;omega,fun e=>by have:=(h.1.2.1.lt _ e).2;omega,fun e=>by have:=(h.2.1.lt _ e).2;omega⟩
theorem PS.of {a b k:Value} {xs ys:List Int} {h:Hd} {w:World} {base g:Nat} (s:StB w g 96 (srA a b k h)) (o:aZ w base a b k xs ys h.ks) (hl:h.ks.length=4) (hg:base<=g) (ne:a.ownBlock≠some g/\b.ownBlock≠some g/\k.ownBlock≠some g):PS [] a b xs ys w base g h:=by
 obtain⟨q,cap,rfl,hq⟩:=World.ownsRow.form o.2.1 Ff;rw[hl]at s o ne;have hb:=(o.2.1.lt q rfl).1;refine⟨q,cap,s,o.2.1,?_,hg,hb,hl,o.1,?_,fun x hx=>by cases hx⟩
 ·intro e;exact ne.2.2 (by rw[e];rfl)
 ·intro j hj
  rcases hj with rfl|rfl
  ·exact⟨ne.1,ne.2.1⟩
  ·refine⟨fun e=>?_,fun e=>?_⟩
   ·rcases o.2.2.1.1 with n|n
    ·rw[n]at e;cases e
    ·exact n (by rw[e];rfl)
   ·rcases o.2.2.2.1 with n|n
    ·rw[n]at e;cases e
    ·exact n (by rw[e];rfl)
theorem PS.out {a b:Value} {xs ys:List Int} {h:Hd} {w:World} {base g:Nat} (d:PS [] a b xs ys w base g h):∃q cap,StB w g 96 (srA a b (.slice (some ⟨q,0,none⟩) 4 cap) h)/\aZ w base a b (.slice (some ⟨q,0,none⟩) 4 cap) xs ys h.ks/\h.ks.length=4:=by
 obtain⟨q,cap,d⟩:=d;have n:=d.2.2.2.2.2.2.2.1 q (.inr rfl);exact⟨q,cap,d.1,⟨d.2.2.2.2.2.2.1,d.2.1,⟨.inr n.1,.inr fun e=>n.1 e.symm⟩,⟨.inr n.2,.inr fun e=>n.2 e.symm⟩⟩,d.2.2.2.2.2.1⟩
theorem xD (u v q:Value) (xs ys:List Int) (h:Hd) (i:Int) (c:Cm) (w:World) (hu:ag w u xs) (hv:ag w v ys) (hq:ag w q h.ks) (hb:au xs ys=true) (ok:h.ok=true) (i0:0<=i) (i1:i<4) (hc:c.ok=true) (h5:5<c.o):
  Calls Tryz.prog 58 #[SRV u v q h,.int .i64 i,CV c] w fun e w'=>∃a b k,e=.returned (.tuple #[SRV a b k (h.act i c).1,AV (h.act i c).2])/\aZ w' w.heap.size a b k xs ys ((h.act i c).1).ks/\iO w w':=by
 have nx:xs.length<=8/\ys.length<=8:=by
  obtain⟨k1,k2, -⟩:=fR hb;exact⟨(bE k1).2,(bE k2).2⟩
 have hl:=(Hd.ok_all ok).1;obtain⟨w1,hw1⟩:=Fe ((((w.alloc (.cells (srA u v q h) 96)).alloc (.cells #[.int .i64 c.o,.int .i64 c.p,.int .i64 c.a,.int .i64 c.b,.int .i64 c.k] 66)).alloc (.cells #[.slice none 0 0,.slice none 0 0,.slice none 0 0,.int .i64 0,.int .i64 0,.int .i64 0] 96)).alloc (.cells #[.int .i64 0,.string ⟨#[]⟩] 44))
 have HV:Hid (Ds w w1 u v q h c):=by rw[hw1];exact Ds.start w u v q h c
 have c1:=jn u v q xs ys h w1 (hu.below HV.out.bl (Nat.le_refl _)) (hv.below HV.out.bl (Nat.le_refl _)) (hq.below HV.out.bl (Nat.le_refl _)) Ff Ff Ff;have HX:Hid (ag w u xs/\ag w v ys/\ag w q h.ks/\au xs ys=true/\h.ok=true/\h.ks.length=4):=⟨hu,hv,hq,hb,ok,hl⟩
 obtain⟨uo,uc,rfl⟩:=aa hu;obtain⟨vo,vc,rfl⟩:=aa hv;obtain⟨qo,qc,rfl⟩:=aa hq;clear hu hv hq hb ok hl nx;unfold srA at hw1;unfold SRV at c1;unfold SRV CV cmA;conv in srA (.slice uo xs.length uc) (.slice vo ys.length vc) (.slice qo h.ks.length qc) _=>unfold srA
 go_enter Tryz.func58,Tryz.ntmps58;go_upto_region 1 with fail
 rw[<-hw1];clear hw1;go_wp2_with (refine ah GP rfl _ rfl w.heap.size rfl _ rfl HV.out.st ?_)
 refine c1.mono ?_;rintro e w2 ⟨a,b,k,rfl,o2,b2⟩;obtain⟨ao,ac,rfl⟩:=o2.1.1.reads.form;obtain⟨bo,bc,rfl⟩:=o2.1.2.1.reads.form;obtain⟨ko,kc,rfl⟩:=o2.2.1.reads.form;have H2:Hid (Ds w w2 (.slice uo xs.length uc) (.slice vo ys.length vc) (.slice qo h.ks.length qc) h c/\aZ w2 (w.heap.size+4) (.slice ao xs.length ac) (.slice bo ys.length bc) (.slice ko h.ks.length kc) xs ys h.ks):=⟨HV.out.next b2,o2.mono HV.out.sz⟩
 clear c1 o2 b2 HV;obtain⟨w3,hw3⟩:=Fe (w2.alloc (.cells #[.slice ao xs.length ac,.slice bo ys.length bc,.slice ko h.ks.length kc,.int .i64 h.kd,.int .i64 h.ho,.int .i64 h.tu] 96))
 have H3:Hid (Ds w w3 (.slice uo xs.length uc) (.slice vo ys.length vc) (.slice qo h.ks.length qc) h c/\aZ w3 (w.heap.size+4) (.slice ao xs.length ac) (.slice bo ys.length bc) (.slice ko h.ks.length kc) xs ys h.ks/\StB w3 w2.heap.size 96 (srA (.slice ao xs.length ac) (.slice bo ys.length bc) (.slice ko h.ks.length kc) h)/\w.heap.size+4<=w2.heap.size):=by
  have b3:iO w2 w3:=by rw[hw3];exact Fc
  exact⟨H2.out.1.next b3,H2.out.2.below b3,by rw[hw3];exact StB.new _ _ _,H2.out.1.sz⟩
 have NE:Hid ((Value.slice ao xs.length ac).ownBlock≠some w2.heap.size/\(Value.slice bo ys.length bc).ownBlock≠some w2.heap.size/\(Value.slice ko h.ks.length kc).ownBlock≠some w2.heap.size):=H2.out.2.ne (Nat.le_refl _);conv in srA _ _ (.slice ko _ _) _=>unfold srA
 go_upto_region 2 with fail
 rw[<-hw3];clear hw3 H2;obtain⟨g,hg⟩:=Fe w2.heap.size
 rw[<-hg]at H3 NE⊢;clear hg;have m0:w3.cell? ⟨w.heap.size+1,0,none⟩=some (.int .i64 c.o):=H3.out.1.cm.cell 0 rfl;have m1:w3.cell? ⟨w.heap.size+1,1,none⟩=some (.int .i64 c.p):=H3.out.1.cm.cell 1 rfl;have m2:w3.cell? ⟨w.heap.size+1,2,none⟩=some (.int .i64 c.a):=H3.out.1.cm.cell 2 rfl;have m3:w3.cell? ⟨w.heap.size+1,3,none⟩=some (.int .i64 c.b):=H3.out.1.cm.cell 3 rfl;have m4:w3.cell? ⟨w.heap.size+1,4,none⟩=some (.int .i64 c.k):=H3.out.1.cm.cell 4 rfl;have D3:=PS.of H3.out.2.2.1 H3.out.2.1 HX.out.2.2.2.2.2 H3.out.2.2.2 NE.out;have c2:=xC (w.heap.size+4) g h i c w3 D3 i0 i1 HX.out.2.2.2.2.1 hc h5;obtain⟨h1,e1⟩:=Fe ((h.act i c).1)
 obtain⟨an,e2⟩:=Fe ((h.act i c).2)
 rw[<-e1,<-e2]at c2;have HE:Hid (h1=(h.act i c).1/\an=(h.act i c).2):=⟨e1,e2⟩
 unfold CV cmA at c2;clear D3 e1 e2 hc i0 i1;go_wp2_with fail
 refine c2.mono ?_;rintro e w4 ⟨rfl,D4,B4⟩;clear m0 m1 m2 m3 m4 c2;have H4:Hid (Ds w w4 (.slice uo xs.length uc) (.slice vo ys.length vc) (.slice qo h.ks.length qc) h c):=H3.out.1.back B4;obtain⟨q4,cap4,s4,o4,l4⟩:=D4.out;obtain⟨w5,hw5⟩:=Fe (w4.alloc (.cells (anA an) 44))
 have b5:iO w4 w5:=by rw[hw5];exact Fc
 have S5:Hid (StB w5 g 96 (srA (.slice ao xs.length ac) (.slice bo ys.length bc) (.slice (some ⟨q4,0,none⟩) 4 cap4) h1)/\StB w5 w4.heap.size 44 (anA an)/\w.heap.size+4<=g/\w.heap.size+4<=w4.heap.size):=⟨s4.below b5,by rw[hw5];exact StB.new _ _ _,H3.out.2.2.2,H4.out.sz⟩
 have O5:Hid (aZ w5 (w.heap.size+4) (.slice ao xs.length ac) (.slice bo ys.length bc) (.slice (some ⟨q4,0,none⟩) 4 cap4) xs ys h1.ks/\h1.ks.length=4):=⟨o4.below b5,l4⟩
 have H5:Hid (Ds w w5 (.slice uo xs.length uc) (.slice vo ys.length vc) (.slice qo h.ks.length qc) h c):=H4.out.next b5;clear D4 B4 s4 o4 l4 b5 H4 H3 NE;obtain⟨st,tx⟩:=an;unfold AV anA S at*;dsimp only at*;go_upto_region 4 with fail
 rw[<-hw5];clear hw5;obtain⟨k9,hk9⟩:=Fe w4.heap.size
 rw[<-hk9]at S5⊢;clear hk9;have qq0:∀w',Sd (w.heap.size+1+1) (w.heap.size+1+1+1) w5 w'->w'.cell? ⟨g,0,none⟩=some (.slice ao xs.length ac):=fun w' b=>b _ _ (by have:=S5.out.2.2.1;dsimp only;omega) (by have:=S5.out.2.2.1;dsimp only;omega) (S5.out.1.cell 0 rfl)
 have qq1:∀w',Sd (w.heap.size+1+1) (w.heap.size+1+1+1) w5 w'->w'.cell? ⟨g,1,none⟩=some (.slice bo ys.length bc):=fun w' b=>b _ _ (by have:=S5.out.2.2.1;dsimp only;omega) (by have:=S5.out.2.2.1;dsimp only;omega) (S5.out.1.cell 1 rfl)
 have qq2:∀w',Sd (w.heap.size+1+1) (w.heap.size+1+1+1) w5 w'->w'.cell? ⟨g,2,none⟩=some (.slice (some ⟨q4,0,none⟩) 4 cap4):=fun w' b=>b _ _ (by have:=S5.out.2.2.1;dsimp only;omega) (by have:=S5.out.2.2.1;dsimp only;omega) (S5.out.1.cell 2 rfl)
 have qq3:∀w',Sd (w.heap.size+1+1) (w.heap.size+1+1+1) w5 w'->w'.cell? ⟨g,3,none⟩=some (.int .i64 h1.kd):=fun w' b=>b _ _ (by have:=S5.out.2.2.1;dsimp only;omega) (by have:=S5.out.2.2.1;dsimp only;omega) (S5.out.1.cell 3 rfl)
 have qq4:∀w',Sd (w.heap.size+1+1) (w.heap.size+1+1+1) w5 w'->w'.cell? ⟨g,4,none⟩=some (.int .i64 h1.ho):=fun w' b=>b _ _ (by have:=S5.out.2.2.1;dsimp only;omega) (by have:=S5.out.2.2.1;dsimp only;omega) (S5.out.1.cell 4 rfl)
 have qq5:∀w',Sd (w.heap.size+1+1) (w.heap.size+1+1+1) w5 w'->w'.cell? ⟨g,5,none⟩=some (.int .i64 h1.tu):=fun w' b=>b _ _ (by have:=S5.out.2.2.1;dsimp only;omega) (by have:=S5.out.2.2.1;dsimp only;omega) (S5.out.1.cell 5 rfl)
 have t0:∀w',Sd (w.heap.size+1+1) (w.heap.size+1+1+1) w5 w'->w'.cell? ⟨k9,0,none⟩=some (.int .i64 st):=fun w' b=>b _ _ (by have:=S5.out.2.2.2;dsimp only;omega) (by have:=S5.out.2.2.2;dsimp only;omega) (S5.out.2.1.cell 0 rfl)
 have t1:∀w',Sd (w.heap.size+1+1) (w.heap.size+1+1+1) w5 w'->w'.cell? ⟨k9,1,none⟩=some (.string ⟨tx.toArray⟩):=fun w' b=>b _ _ (by have:=S5.out.2.2.2;dsimp only;omega) (by have:=S5.out.2.2.2;dsimp only;omega) (S5.out.2.1.cell 1 rfl)
 have r0:w5.cell? ⟨w.heap.size+1+1,0,none⟩=some (.slice none 0 0):=(H5.out).rs.cell 0 rfl;have f0:=(H5.out).rs.frozen 0;have r1:w5.cell? ⟨w.heap.size+1+1,1,none⟩=some (.slice none 0 0):=(H5.out).rs.cell 1 rfl;have f1:=(H5.out).rs.frozen 1;have r2:w5.cell? ⟨w.heap.size+1+1,2,none⟩=some (.slice none 0 0):=(H5.out).rs.cell 2 rfl;have f2:=(H5.out).rs.frozen 2;have r3:w5.cell? ⟨w.heap.size+1+1,3,none⟩=some (.int .i64 0):=(H5.out).rs.cell 3 rfl;have f3:=(H5.out).rs.frozen 3;have r4:w5.cell? ⟨w.heap.size+1+1,4,none⟩=some (.int .i64 0):=(H5.out).rs.cell 4 rfl;have f4:=(H5.out).rs.frozen 4;have r5:w5.cell? ⟨w.heap.size+1+1,5,none⟩=some (.int .i64 0):=(H5.out).rs.cell 5 rfl;have f5:=(H5.out).rs.frozen 5;have ra0:w5.cell? ⟨w.heap.size+1+1+1,0,none⟩=some (.int .i64 0):=(H5.out).ra.cell 0 rfl;have fa0:=(H5.out).ra.frozen 0;have ra1:w5.cell? ⟨w.heap.size+1+1+1,1,none⟩=some (.string ⟨#[]⟩):=(H5.out).ra.cell 1 rfl;have fa1:=(H5.out).ra.frozen 1;have r0':w5.drew.cell? ⟨w.heap.size+1+1,0,none⟩=some (.slice none 0 0):=(H5.out.drew).rs.cell 0 rfl;have f0':=(H5.out.drew).rs.frozen 0;have r1':w5.drew.cell? ⟨w.heap.size+1+1,1,none⟩=some (.slice none 0 0):=(H5.out.drew).rs.cell 1 rfl;have f1':=(H5.out.drew).rs.frozen 1;have r2':w5.drew.cell? ⟨w.heap.size+1+1,2,none⟩=some (.slice none 0 0):=(H5.out.drew).rs.cell 2 rfl;have f2':=(H5.out.drew).rs.frozen 2;have r3':w5.drew.cell? ⟨w.heap.size+1+1,3,none⟩=some (.int .i64 0):=(H5.out.drew).rs.cell 3 rfl;have f3':=(H5.out.drew).rs.frozen 3;have r4':w5.drew.cell? ⟨w.heap.size+1+1,4,none⟩=some (.int .i64 0):=(H5.out.drew).rs.cell 4 rfl;have f4':=(H5.out.drew).rs.frozen 4;have r5':w5.drew.cell? ⟨w.heap.size+1+1,5,none⟩=some (.int .i64 0):=(H5.out.drew).rs.cell 5 rfl;have f5':=(H5.out.drew).rs.frozen 5;have ra0':w5.drew.cell? ⟨w.heap.size+1+1+1,0,none⟩=some (.int .i64 0):=(H5.out.drew).ra.cell 0 rfl;have fa0':=(H5.out.drew).ra.frozen 0;have ra1':w5.drew.cell? ⟨w.heap.size+1+1+1,1,none⟩=some (.string ⟨#[]⟩):=(H5.out.drew).ra.cell 1 rfl;have fa1':=(H5.out.drew).ra.frozen 1
 go_region_held3 (fun w'=>Sd (w.heap.size+1+1) (w.heap.size+1+1+1) w5 w') ((repeat'(first|with_reducible assumption|with_reducible exact Sd.refl _ _ _|with_reducible refine Sd.al ?_|with_reducible refine Sd.dr ?_|with_reducible refine Sd.set1 ?_|with_reducible refine Sd.set2 ?_|with_reducible refine Sd.put1 ?_ (by with_reducible assumption)|with_reducible refine Sd.put2 ?_ (by with_reducible assumption)|with_reducible refine Sd.bel ?_ (by with_reducible assumption)))) (fail)
 all_goals
  obtain⟨wz,hwz⟩:=Fe ((((pP w5 (w.heap.size+1+1) (.slice ao xs.length ac) (.slice bo ys.length bc) (.slice (some ⟨q4,0,none⟩) 4 cap4) h1).setCell ⟨w.heap.size+1+1+1,0,none⟩ (.int .i64 st)).setCell ⟨w.heap.size+1+1+1,1,none⟩ (.string ⟨tx.toArray⟩)).drew)
  have T5:=jE (.slice ao xs.length ac) (.slice bo ys.length bc) (.slice (some ⟨q4,0,none⟩) 4 cap4) h1 H5.out.rs;have G5:=fJ w5 (w.heap.size+1+1) (.slice ao xs.length ac) (.slice bo ys.length bc) (.slice (some ⟨q4,0,none⟩) 4 cap4) h1;have T6:=((H5.out.ra.kept G5 Fg).put 0 (.int .i64 st) rfl).put 1 (S tx) (ds:=anA ⟨st,tx⟩) rfl;have G6:=(ai (pP w5 (w.heap.size+1+1) (.slice ao xs.length ac) (.slice bo ys.length bc) (.slice (some ⟨q4,0,none⟩) 4 cap4) h1) (w.heap.size+1+1+1) 0 (.int .i64 st)).trans (ai _ (w.heap.size+1+1+1) 1 (S tx));have HZ:Hid (StB wz (w.heap.size+1+1) 96 (srA (.slice ao xs.length ac) (.slice bo ys.length bc) (.slice (some ⟨q4,0,none⟩) 4 cap4) h1)/\StB wz (w.heap.size+1+1+1) 44 (anA ⟨st,tx⟩)/\aZ wz w.heap.size (.slice ao xs.length ac) (.slice bo ys.length bc) (.slice (some ⟨q4,0,none⟩) 4 cap4) xs ys h1.ks/\iO w wz):=by
   obtain⟨of,bf⟩:=H5.out.fin O5.out.1 (Nat.le_refl _) G5 G6;have k5:=T5.kept G6 Fg;obtain⟨wq,hwq⟩:=Fe (((pP w5 (w.heap.size+1+1) (.slice ao xs.length ac) (.slice bo ys.length bc) (.slice (some ⟨q4,0,none⟩) 4 cap4) h1).setCell ⟨w.heap.size+1+1+1,0,none⟩ (.int .i64 st)).setCell ⟨w.heap.size+1+1+1,1,none⟩ (S tx))
   rw[<-hwq]at of bf k5 T6;have hz:wz=wq.drew:=by rw[hwz,hwq];rfl
   rw[hz];exact⟨k5.dr,T6.dr,of.below ((Below.refl _ _).drew),bf.drew⟩
  unfold pP at hwz;rw[<-hwz];clear hwz T5 G5 T6 G6;go_wp2;refine bodyPost_ret (fK rfl _ _ (w.heap.size+1+1) (w.heap.size+1+1+1) _ _ rfl rfl rfl rfl HZ.out.1 HZ.out.2.1) rfl ?_;rw[<-HE.out.1,<-HE.out.2];exact⟨_,_,_,rfl,HZ.out.2.2⟩
theorem zY (u v q:Value) (xs ys:List Int) (h:Hd) (i:Int) (c:Cm) (w:World) (hu:ag w u xs) (hv:ag w v ys) (hq:ag w q h.ks) (hb:au xs ys=true) (ok:h.ok=true) (i0:0<=i) (i1:i<4) (h5:c.o<=5) (hm:h.may i (decide (c.o≠1))=false):
  Calls Tryz.prog 58 #[SRV u v q h,.int .i64 i,CV c] w fun e w'=>∃a b k,e=.returned (.tuple #[SRV a b k h,AV ⟨3,[]⟩])/\aZ w' w.heap.size a b k xs ys (h).ks/\iO w w':=by
 have nx:xs.length<=8/\ys.length<=8:=by
  obtain⟨k1,k2, -⟩:=fR hb;exact⟨(bE k1).2,(bE k2).2⟩
 have hl:=(Hd.ok_all ok).1;obtain⟨w1,hw1⟩:=Fe ((((w.alloc (.cells (srA u v q h) 96)).alloc (.cells #[.int .i64 c.o,.int .i64 c.p,.int .i64 c.a,.int .i64 c.b,.int .i64 c.k] 66)).alloc (.cells #[.slice none 0 0,.slice none 0 0,.slice none 0 0,.int .i64 0,.int .i64 0,.int .i64 0] 96)).alloc (.cells #[.int .i64 0,.string ⟨#[]⟩] 44))
 have HV:Hid (Ds w w1 u v q h c):=by rw[hw1];exact Ds.start w u v q h c
 have c1:=jn u v q xs ys h w1 (hu.below HV.out.bl (Nat.le_refl _)) (hv.below HV.out.bl (Nat.le_refl _)) (hq.below HV.out.bl (Nat.le_refl _)) Ff Ff Ff;have HX:Hid (ag w u xs/\ag w v ys/\ag w q h.ks/\au xs ys=true/\h.ok=true/\h.ks.length=4):=⟨hu,hv,hq,hb,ok,hl⟩
 obtain⟨uo,uc,rfl⟩:=aa hu;obtain⟨vo,vc,rfl⟩:=aa hv;obtain⟨qo,qc,rfl⟩:=aa hq;clear hu hv hq hb ok hl nx;unfold srA at hw1;unfold SRV at c1;unfold SRV CV cmA;conv in srA (.slice uo xs.length uc) (.slice vo ys.length vc) (.slice qo h.ks.length qc) _=>unfold srA
 go_enter Tryz.func58,Tryz.ntmps58;go_upto_region 1 with fail
 rw[<-hw1];clear hw1;go_wp2_with (refine ah GP rfl _ rfl w.heap.size rfl _ rfl HV.out.st ?_)
 refine c1.mono ?_;rintro e w2 ⟨a,b,k,rfl,o2,b2⟩;obtain⟨ao,ac,rfl⟩:=o2.1.1.reads.form;obtain⟨bo,bc,rfl⟩:=o2.1.2.1.reads.form;obtain⟨ko,kc,rfl⟩:=o2.2.1.reads.form;have H2:Hid (Ds w w2 (.slice uo xs.length uc) (.slice vo ys.length vc) (.slice qo h.ks.length qc) h c/\aZ w2 (w.heap.size+4) (.slice ao xs.length ac) (.slice bo ys.length bc) (.slice ko h.ks.length kc) xs ys h.ks):=⟨HV.out.next b2,o2.mono HV.out.sz⟩
 clear c1 o2 b2 HV;obtain⟨w3,hw3⟩:=Fe (w2.alloc (.cells #[.slice ao xs.length ac,.slice bo ys.length bc,.slice ko h.ks.length kc,.int .i64 h.kd,.int .i64 h.ho,.int .i64 h.tu] 96))
 have H3:Hid (Ds w w3 (.slice uo xs.length uc) (.slice vo ys.length vc) (.slice qo h.ks.length qc) h c/\aZ w3 (w.heap.size+4) (.slice ao xs.length ac) (.slice bo ys.length bc) (.slice ko h.ks.length kc) xs ys h.ks/\StB w3 w2.heap.size 96 (srA (.slice ao xs.length ac) (.slice bo ys.length bc) (.slice ko h.ks.length kc) h)/\w.heap.size+4<=w2.heap.size):=by
  have b3:iO w2 w3:=by rw[hw3];exact Fc
  exact⟨H2.out.1.next b3,H2.out.2.below b3,by rw[hw3];exact StB.new _ _ _,H2.out.1.sz⟩
 have NE:Hid ((Value.slice ao xs.length ac).ownBlock≠some w2.heap.size/\(Value.slice bo ys.length bc).ownBlock≠some w2.heap.size/\(Value.slice ko h.ks.length kc).ownBlock≠some w2.heap.size):=H2.out.2.ne (Nat.le_refl _);conv in srA _ _ (.slice ko _ _) _=>unfold srA
 go_upto_region 2 with fail
 rw[<-hw3];clear hw3 H2;obtain⟨g,hg⟩:=Fe w2.heap.size
 rw[<-hg]at H3 NE⊢;clear hg;have m0:w3.cell? ⟨w.heap.size+1,0,none⟩=some (.int .i64 c.o):=H3.out.1.cm.cell 0 rfl;have hc0:w3.cell? ⟨w.heap.size,2,none⟩=some (.slice qo h.ks.length qc):=H3.out.1.st.cell 2 rfl;have hc1:w3.cell? ⟨w.heap.size,3,none⟩=some (.int .i64 h.kd):=H3.out.1.st.cell 3 rfl;have hc2:w3.cell? ⟨w.heap.size,4,none⟩=some (.int .i64 h.ho):=H3.out.1.st.cell 4 rfl;have hc3:w3.cell? ⟨w.heap.size,5,none⟩=some (.int .i64 h.tu):=H3.out.1.st.cell 5 rfl;have c2:=qJ (.slice qo h.ks.length qc) h i (decide (c.o≠1)) w3 (HX.out.2.2.1.below H3.out.1.bl (Nat.le_refl _)) i0 (by have:=HX.out.2.2.2.2.2;omega);rw[hm]at c2;unfold HV hdA at c2;obtain⟨bo1,hbo1⟩:=Fe (decide (c.o≠1))
 rw[<-hbo1]at c2;have hneq:(c.o !=1)=bo1:=by rw[hbo1];by_cases e:c.o=1<;>simp[e]
 clear hbo1 hm i0 i1;go_wp2_with fail
 refine c2.mono ?_;rintro e w4 ⟨rfl,b4⟩;have H4:Hid (Ds w w4 (.slice uo xs.length uc) (.slice vo ys.length vc) (.slice qo h.ks.length qc) h c/\aZ w4 (w.heap.size+4) (.slice ao xs.length ac) (.slice bo ys.length bc) (.slice ko h.ks.length kc) xs ys h.ks/\StB w4 g 96 (srA (.slice ao xs.length ac) (.slice bo ys.length bc) (.slice ko h.ks.length kc) h)/\w.heap.size+4<=g):=⟨H3.out.1.next b4,H3.out.2.1.below b4,H3.out.2.2.1.below b4,H3.out.2.2.2⟩
 clear H3 b4 c2 m0 hc0 hc1 hc2 hc3 hneq;go_wp2_with (first
  |(refine ah GP rfl _ rfl g rfl _ rfl H4.out.2.2.1 ?_)
  |(refine ae GP rfl _ _ rfl (w.heap.size+1+1) (srA (.slice ao xs.length ac) (.slice bo ys.length bc) (.slice ko h.ks.length kc) h) zeR rfl rfl rfl rfl (ee h rfl rfl rfl) H4.out.1.rs ?_;intro w5 s5 g5)
  |(refine ae GC rfl _ _ rfl (w.heap.size+1+1+1) (anA ⟨3,[]⟩) (anA ⟨0,[]⟩) rfl rfl rfl rfl (aC _) (H4.out.1.ra.kept g5 Fg) ?_;intro w6 s6 g6))
 refine bodyPost_ret (fK rfl _ _ (w.heap.size+1+1) (w.heap.size+1+1+1) _ _ rfl rfl rfl rfl (s5.kept g6 Fg) s6) rfl ?_;exact⟨_,_,_,rfl,H4.out.1.fin H4.out.2.1 (Nat.le_refl _) g5 g6⟩
end Go.Proofs.YthldeiojlllkdaaGreatDoor
