/- A message in memory: eleven cells; l15Msg of the model. -/
import Derived.Test.YtflbcjgkdokhiaaGreatDoorSNode
import Derived.Test.YtflbcjgkdokhiaaGreatDoorM6
import Derived.Test.YtflbcjgkdokhiaaGreatDoorM12
import Derived.Laws.CopyRow
import Derived.OwnWalk
import Derived.Laws.AppendOwnNone
set_option maxRecDepth 20000
set_option maxHeartbeats 4000000
namespace Go.Proofs.YtflbcjgkdokhiaaGreatDoor
open Go.ChangeShapes Go.WideShapes Go.ChangeAt Go.RowKit
def mgA (v:Value) (m:Mg):Array Value:=#[.int .i64 m.dst,.int .i64 m.kd,.int .i64 m.tr,.int .i64 m.pl,.int .i64 m.tn,.int .i64 m.va,.int .i64 m.ep,v,.int .i64 m.h.kd,.int .i64 m.h.ho,.int .i64 m.h.tu]
def MgV (v:Value) (m:Mg):Value:=.agg (mgA v m)
theorem Tryz.isMg:IsS 85 11:=⟨⟨_,Tryz.underlying85⟩,by kernel_rfl⟩
def zeroMg:Array Value:=#[.int .i64 0,.int .i64 0,.int .i64 0,.int .i64 0,.int .i64 0,.int .i64 0,.int .i64 0,.slice none 0 0,.int .i64 0,.int .i64 0,.int .i64 0]
theorem mgA_one {v:Value} (m:Mg) (hv:v.oneCell'=true):(mgA v m).all (·.oneCell')=true:=by
 unfold mgA
 simp[hv,show∀k n,(Value.int k n).oneCell'=true from fun _ _=>rfl]
theorem sitem_any (x:Int) (w:World):
  Calls Tryz.prog 80 #[.int .i64 x] w fun e w'=>e=.returned (.bool (itemOk x))∧w'=w:=by
 by_cases h0:0≤x
 ·by_cases h1:x<8
  ·rw[show itemOk x=true by simp[itemOk,h0,h1]]
   go_enter Tryz.func80,Tryz.ntmps80
   go_wp2
   go_ret
   exact⟨ret_bool (by simp<;>omega),rfl⟩
  ·rw[show itemOk x=false by simp[itemOk];omega]
   go_enter Tryz.func80,Tryz.ntmps80
   go_wp2
   go_ret
   exact⟨ret_bool (by simp<;>omega),rfl⟩
 ·rw[show itemOk x=false by simp[itemOk];omega]
  go_enter Tryz.func80,Tryz.ntmps80
  go_wp2
  go_ret
  exact⟨ret_bool (by simp<;>omega),rfl⟩
theorem smsg_any (v:Value) (m:Mg) (w:World) (hr:Reads w v m.h.ks) (hl:m.h.ks.length≤1099511627776):
  Calls Tryz.prog 49 #[MgV v m] w fun e w'=>e=.returned (.bool m.ok)∧Below w.heap.size w w':=by
 have HE:Hid (m.ok=(inI m.dst 0 1&&inI m.kd 1 8&&epI m.tr&&itemOk m.pl&&inI m.tn 0 1000000000&&valOk m.va&&epI m.ep&&(m.h.ok||m.h.none))):=rfl
 obtain⟨w1,hw1⟩:∃w1,w1=w.alloc (.cells (mgA v m) 85):=⟨_,rfl⟩
 have b1:Below w.heap.size w w1:=by rw[hw1];exact(Below.refl _ _).alloc (Nat.le_refl _) _
 have S1:StB w1 w.heap.size 85 (mgA v m):=by rw[hw1];exact StB.new _ _ _
 have HB:Hid (Below w.heap.size w w1):=b1
 have HR:Hid (Reads w1 v m.h.ks):=hr.below b1 (Nat.le_refl _)
 obtain⟨ao,cap,rfl⟩:=reads_form hr
 have HCH:Hid (∀wx,Reads wx (.slice ao m.h.ks.length cap) m.h.ks→Calls Tryz.prog 44 #[HV (.slice ao m.h.ks.length cap) m.h] wx fun e w'=>e=.returned (.bool m.h.ok)∧Below wx.heap.size wx w'):=fun wx h=>sholdok_any _ m.h wx h hl
 have HN:Hid (m.h.none=(decide (m.h.ks.length=0)&&decide (m.h.kd=0)&&decide (m.h.ho=0)&&decide (m.h.tu=0))):=rfl
 have HW:Hid (w1=w.alloc (.cells #[.int .i64 m.dst,.int .i64 m.kd,.int .i64 m.tr,.int .i64 m.pl,.int .i64 m.tn,.int .i64 m.va,.int .i64 m.ep,.slice ao m.h.ks.length cap,.int .i64 m.h.kd,.int .i64 m.h.ho,.int .i64 m.h.tu] 85)):=hw1
 have k0:w1.cell? ⟨w.heap.size,0,none⟩=some (.int .i64 m.dst):=S1.cell 0 rfl
 have k1:w1.cell? ⟨w.heap.size,1,none⟩=some (.int .i64 m.kd):=S1.cell 1 rfl
 have k2:w1.cell? ⟨w.heap.size,2,none⟩=some (.int .i64 m.tr):=S1.cell 2 rfl
 have k3:w1.cell? ⟨w.heap.size,3,none⟩=some (.int .i64 m.pl):=S1.cell 3 rfl
 have k4:w1.cell? ⟨w.heap.size,4,none⟩=some (.int .i64 m.tn):=S1.cell 4 rfl
 have k5:w1.cell? ⟨w.heap.size,5,none⟩=some (.int .i64 m.va):=S1.cell 5 rfl
 have k6:w1.cell? ⟨w.heap.size,6,none⟩=some (.int .i64 m.ep):=S1.cell 6 rfl
 have k7:w1.cell? ⟨w.heap.size,7,none⟩=some (.slice ao m.h.ks.length cap):=S1.cell 7 rfl
 have k8:w1.cell? ⟨w.heap.size,8,none⟩=some (.int .i64 m.h.kd):=S1.cell 8 rfl
 have k9:w1.cell? ⟨w.heap.size,9,none⟩=some (.int .i64 m.h.ho):=S1.cell 9 rfl
 have k10:w1.cell? ⟨w.heap.size,10,none⟩=some (.int .i64 m.h.tu):=S1.cell 10 rfl
 obtain⟨x,hx⟩:∃x,x=m.ok:=⟨_,rfl⟩
 rw[←hx]at HE⊢
 have c0:=fun wx=>sin6_any m.dst 0 1 wx
 obtain⟨v0,hv0⟩:∃v0,v0=inI m.dst 0 1:=⟨_,rfl⟩
 rw[←hv0]at HE
 simp only[←hv0]at c0
 have c1:=fun wx=>sin6_any m.kd 1 8 wx
 obtain⟨v1,hv1⟩:∃v1,v1=inI m.kd 1 8:=⟨_,rfl⟩
 rw[←hv1]at HE
 simp only[←hv1]at c1
 have c2:=fun wx=>sepoch_any m.tr wx
 obtain⟨v2,hv2⟩:∃v2,v2=epI m.tr:=⟨_,rfl⟩
 rw[←hv2]at HE
 simp only[←hv2]at c2
 have c3:=fun wx=>sitem_any m.pl wx
 obtain⟨v3,hv3⟩:∃v3,v3=itemOk m.pl:=⟨_,rfl⟩
 rw[←hv3]at HE
 simp only[←hv3]at c3
 have c4:=fun wx=>sin6_any m.tn 0 1000000000 wx
 obtain⟨v4,hv4⟩:∃v4,v4=inI m.tn 0 1000000000:=⟨_,rfl⟩
 rw[←hv4]at HE
 simp only[←hv4]at c4
 have c5:=fun wx=>sval_any m.va wx
 obtain⟨v5,hv5⟩:∃v5,v5=valOk m.va:=⟨_,rfl⟩
 rw[←hv5]at HE
 simp only[←hv5]at c5
 have c6:=fun wx=>sepoch_any m.ep wx
 obtain⟨v6,hv6⟩:∃v6,v6=epI m.ep:=⟨_,rfl⟩
 rw[←hv6]at HE
 simp only[←hv6]at c6
 unfold MgV mgA
 obtain⟨l,hl0⟩:∃l,l=m.h.ks.length:=⟨_,rfl⟩
 rw[←hl0]at HN HW HR HCH k7⊢
 clear hl0 hl hw1 S1 hr hx b1 hv0 hv1 hv2 hv3 hv4 hv5 hv6
 go_enter Tryz.func49,Tryz.ntmps49
 go_upto_region 1 with fail
 rw[←HW.out]
 clear HW
 go_wp2_with fail
 refine(c0 _).mono ?_
 rintro e w' ⟨rfl,hw⟩;subst w'
 clear c0
 cases v0 with
 |false=>
  have HX:Hid (x=false):=by rw[Hid,HE.out];simp
  clear HE c1 c2 c3 c4 c5 c6
  go_wp2
  go_ret
  exact⟨ret_bool (by rw[HX.out]),HB.out⟩
 |true=>
  go_wp2_with fail
  refine(c1 _).mono ?_
  rintro e w' ⟨rfl,hw⟩;subst w'
  clear c1
  cases v1 with
  |false=>
   have HX:Hid (x=false):=by rw[Hid,HE.out];simp
   clear HE c2 c3 c4 c5 c6
   go_wp2
   go_ret
   exact⟨ret_bool (by rw[HX.out]),HB.out⟩
  |true=>
   go_wp2_with fail
   refine(c2 _).mono ?_
   rintro e w' ⟨rfl,hw⟩;subst w'
   clear c2
   cases v2 with
   |false=>
    have HX:Hid (x=false):=by rw[Hid,HE.out];simp
    clear HE c3 c4 c5 c6
    go_wp2
    go_ret
    exact⟨ret_bool (by rw[HX.out]),HB.out⟩
   |true=>
    go_wp2_with fail
    refine(c3 _).mono ?_
    rintro e w' ⟨rfl,hw⟩;subst w'
    clear c3
    cases v3 with
    |false=>
     have HX:Hid (x=false):=by rw[Hid,HE.out];simp
     clear HE c4 c5 c6
     go_wp2
     go_ret
     exact⟨ret_bool (by rw[HX.out]),HB.out⟩
    |true=>
     go_wp2_with fail
     refine(c4 _).mono ?_
     rintro e w' ⟨rfl,hw⟩;subst w'
     clear c4
     cases v4 with
     |false=>
      have HX:Hid (x=false):=by rw[Hid,HE.out];simp
      clear HE c5 c6
      go_wp2
      go_ret
      exact⟨ret_bool (by rw[HX.out]),HB.out⟩
     |true=>
      go_wp2_with fail
      refine(c5 _).mono ?_
      rintro e w' ⟨rfl,hw⟩;subst w'
      clear c5
      cases v5 with
      |false=>
       have HX:Hid (x=false):=by rw[Hid,HE.out];simp
       clear HE c6
       go_wp2
       go_ret
       exact⟨ret_bool (by rw[HX.out]),HB.out⟩
      |true=>
       go_wp2_with fail
       refine(c6 _).mono ?_
       rintro e w' ⟨rfl,hw⟩;subst w'
       clear c6
       cases v6 with
       |false=>
        have HX:Hid (x=false):=by rw[Hid,HE.out];simp
        clear HE
        go_wp2
        go_ret
        exact⟨ret_bool (by rw[HX.out]),HB.out⟩
       |true=>
        have HX:Hid (x=(m.h.ok||m.h.none)):=by rw[Hid,HE.out];rfl
        clear HE
        obtain⟨w2,hw2⟩:∃w2,w2=w1.alloc (.cells (hdA (.slice ao l cap) m.h) 48):=⟨_,rfl⟩
        have b2:Below w1.heap.size w1 w2:=by rw[hw2];exact(Below.refl _ _).alloc (Nat.le_refl _) _
        have S2:StB w2 w1.heap.size 48 (hdA (.slice ao l cap) m.h):=by rw[hw2];exact StB.new _ _ _
        have HB2:Hid (Below w.heap.size w w2):=HB.out.trans (b2.mono HB.out.size)
        have ch:=HCH.out w2 (HR.out.below b2 (Nat.le_refl _))
        clear HCH
        obtain⟨bh,hbh⟩:∃bh,bh=m.h.ok:=⟨_,rfl⟩
        rw[←hbh]at ch HX
        obtain⟨bn,hbn⟩:∃bn,bn=m.h.none:=⟨_,rfl⟩
        rw[←hbn]at HN HX
        obtain⟨g,hg⟩:∃g,g=w1.heap.size:=⟨_,rfl⟩
        rw[←hg]at S2
        have HS2:Hid (∀w3,Below w2.heap.size w2 w3→StB w3 g 48 (hdA (.slice ao l cap) m.h)):=fun w3 b=>S2.below b
        unfold hdA at hw2
        unfold HV hdA at ch
        go_upto_region 4 with fail
        rw[←hw2,←hg]
        have j0:w2.cell? ⟨g,0,none⟩=some (.slice ao l cap):=S2.cell 0 rfl
        have j1:w2.cell? ⟨g,1,none⟩=some (.int .i64 m.h.kd):=S2.cell 1 rfl
        have j2:w2.cell? ⟨g,2,none⟩=some (.int .i64 m.h.ho):=S2.cell 2 rfl
        have j3:w2.cell? ⟨g,3,none⟩=some (.int .i64 m.h.tu):=S2.cell 3 rfl
        clear hw2 hg hbh hbn k0 k1 k2 k3 k4 k5 k6 k7 k8 k9 k10 HR S2 b2
        go_wp2_with fail
        refine ch.mono ?_
        rintro e w3 ⟨rfl,b3⟩
        have S3:=HS2.out w3 b3
        have HB3:Hid (Below w.heap.size w w3):=HB2.out.trans (b3.mono HB2.out.size)
        clear ch j0 j1 j2 j3 HS2 b3
        have j0:w3.cell? ⟨g,0,none⟩=some (.slice ao l cap):=S3.cell 0 rfl
        have j1:w3.cell? ⟨g,1,none⟩=some (.int .i64 m.h.kd):=S3.cell 1 rfl
        have j2:w3.cell? ⟨g,2,none⟩=some (.int .i64 m.h.ho):=S3.cell 2 rfl
        have j3:w3.cell? ⟨g,3,none⟩=some (.int .i64 m.h.tu):=S3.cell 3 rfl
        clear S3
        cases bh with
        |true=>
         go_wp2
         go_ret
         exact⟨ret_bool (by rw[HX.out];rfl),HB3.out⟩
        |false=>
         by_cases q0:(l:Int)=0
         ·have e0:((l:Int)==0)=true:=by simpa using q0
          by_cases q1:m.h.kd=0
          ·have e1:(m.h.kd==0)=true:=by simpa using q1
           by_cases q2:m.h.ho=0
           ·have e2:(m.h.ho==0)=true:=by simpa using q2
            by_cases q3:m.h.tu=0
            ·have e3:(m.h.tu==0)=true:=by simpa using q3
             have HY:Hid (x=true):=by rw[Hid,HX.out,HN.out];simp[q1,q2,q3,(by omega:l=0)]
             clear HX HN
             clear q0 q1 q2 q3
             go_wp2
             go_ret
             exact⟨ret_bool (by rw[HY.out]),HB3.out⟩
            ·have e3:(m.h.tu==0)=false:=by simpa using q3
             have HY:Hid (x=false):=by rw[Hid,HX.out,HN.out];simp[q3]
             clear HX HN
             clear q0 q1 q2 q3
             go_wp2
             go_ret
             exact⟨ret_bool (by rw[HY.out]),HB3.out⟩
           ·have e2:(m.h.ho==0)=false:=by simpa using q2
            have HY:Hid (x=false):=by rw[Hid,HX.out,HN.out];simp[q2]
            clear HX HN
            clear q0 q1 q2
            go_wp2
            go_ret
            exact⟨ret_bool (by rw[HY.out]),HB3.out⟩
          ·have e1:(m.h.kd==0)=false:=by simpa using q1
           have HY:Hid (x=false):=by rw[Hid,HX.out,HN.out];simp[q1]
           clear HX HN
           clear q0 q1
           go_wp2
           go_ret
           exact⟨ret_bool (by rw[HY.out]),HB3.out⟩
         ·have e0:((l:Int)==0)=false:=by simpa using q0
          have HY:Hid (x=false):=by rw[Hid,HX.out,HN.out];rw[show decide (l=0)=false from decide_eq_false (by omega)];rfl
          clear HX HN
          clear q0
          go_wp2
          go_ret
          exact⟨ret_bool (by rw[HY.out]),HB3.out⟩
end Go.Proofs.YtflbcjgkdokhiaaGreatDoor
namespace Go.Proofs.YtflbcjgkdokhiaaGreatDoor
open Go.ChangeShapes Go.WideShapes Go.ChangeAt Go.RowKit
def flatC (css:List (Array Value)):List Value:=(css.map Array.toList).flatten
theorem flatC_cons (c:Array Value) (l:List (Array Value)):flatC (c::l)=c.toList++flatC l:=by simp[flatC]
theorem flatC_len {k:Nat}:∀(css:List (Array Value)),(∀cs∈css,cs.size=k)→(flatC css).length=css.length*k
 |[],_=>by simp[flatC]
 |c::l,h=>by
  have hc:c.size=k:=h c (by simp)
  rw[flatC_cons,List.length_append,flatC_len l (fun cs hcs=>h cs (by simp[hcs])),Array.length_toList,hc,List.length_cons,Nat.add_mul]
  omega
theorem flatC_at {k:Nat}:∀(css:List (Array Value)),(∀cs∈css,cs.size=k)→∀j i,j<css.length→i<k→(flatC css)[j*k+i]?=(css.getD j #[])[i]?
 |[],_,_,_,hj,_=>by simp at hj
 |c::l,h,j,i,hj,hi=>by
  have hc:c.size=k:=h c (by simp)
  rw[flatC_cons]
  cases j with
  |zero=>
   rw[List.getElem?_append_left (by rw[Array.length_toList,hc];omega)]
   simp
  |succ j=>
   have e:(j+1)*k+i-c.toList.length=j*k+i:=by
    rw[Array.length_toList,hc,Nat.add_mul]
    omega
   rw[List.getElem?_append_right (by rw[Array.length_toList,hc,Nat.add_mul];omega),e,flatC_at l (fun cs hcs=>h cs (by simp[hcs])) j i (by simpa using hj) hi]
   simp
theorem flatC_set {k:Nat} (css:List (Array Value)) (h:∀cs∈css,cs.size=k) (j:Nat) (hj:j<css.length) (cs:Array Value):
  (flatC css).take (j*k)++cs.toList++(flatC css).drop (j*k+k)=flatC (css.set j cs):=by
 induction css generalizing j with
 |nil=>simp at hj
 |cons c l ih=>
  have h0:c.size=k:=h c (by simp)
  cases j with
  |zero=>
   rw[flatC_cons,List.set_cons_zero,flatC_cons]
   simp only[Nat.zero_mul,List.take_zero,List.nil_append,Nat.zero_add]
   rw[List.drop_append_of_le_length (by rw[Array.length_toList,h0];exact Nat.le_refl _),←h0,←Array.length_toList,List.drop_length]
   simp
  |succ j=>
   rw[List.set_cons_succ,flatC_cons,flatC_cons,←ih (fun cs hcs=>h cs (by simp[hcs])) j (by simpa using hj)]
   have e:(j+1)*k=c.toList.length+j*k:=by rw[Array.length_toList,h0,Nat.add_mul];omega
   rw[e,List.take_length_add_append,Nat.add_assoc,List.drop_length_add_append]
   simp[List.append_assoc]
structure RdRow (w:World) (k:Nat) (v:Value) (css:List (Array Value)):Prop where
 sz:∀cs∈css,cs.size=k
 ex:∃ao cap,v=.slice ao css.length cap∧css.length≤cap∧(cap≤maxLen∧(ao=none→cap=0))∧
  (css=[]∨∃b off,ao=some ⟨b,off,none⟩∧∀j i,j<css.length→i<k→w.cell? ⟨b,off+(j*k+i),none⟩=(css.getD j #[])[i]?)
structure OwnRow (w:World) (base:Nat) (t:TypeId) (k:Nat) (v:Value) (css:List (Array Value)):Prop where
 sz:∀cs∈css,cs.size=k
 ow:w.ownsRow base t k v css.length (flatC css)
theorem OwnRow.nil (w:World) (base:Nat) (t:TypeId) (k:Nat):OwnRow w base t k (.slice none 0 0) []:=⟨by simp,World.ownsRow_nil ..⟩
theorem OwnRow.rd {w:World} {base:Nat} {t:TypeId} {k:Nat} {v:Value} {css:List (Array Value)} (h:OwnRow w base t k v css):RdRow w k v css:=by
 refine⟨h.sz,?_⟩
 rcases h.ow.2 with⟨rfl,h0⟩|⟨g,cap,cur,rfl,hb,hg,hnc,hcm,hcs,ht⟩
 ·have e:css=[]:=List.eq_nil_of_length_eq_zero h0
  subst e
  exact⟨none,0,rfl,Nat.le_refl _,⟨Nat.zero_le _,fun _=>rfl⟩,.inl rfl⟩
 ·refine⟨_,cap,rfl,hnc,⟨hcm,fun e=>by cases e⟩,.inr ⟨g,0,rfl,fun j i hj hi=>?_⟩⟩
  have hlt:j*k+i<css.length*k:=by
   have:(j+1)*k≤css.length*k:=Nat.mul_le_mul_right k hj
   rw[Nat.add_mul]at this
   omega
  rw[Nat.zero_add,World.ownsRow.cellAt (w:=w) h.ow (j*k+i) hlt,flatC_at css h.sz j i hj hi]
theorem OwnRow.mono {w:World} {base base':Nat} {t:TypeId} {k:Nat} {v:Value} {css:List (Array Value)} (h:OwnRow w base t k v css) (hb:base'≤base):OwnRow w base' t k v css:=by
 refine⟨h.sz,h.ow.1,?_⟩
 rcases h.ow.2 with h'|⟨g,cap,cur,e,hg,r⟩
 ·exact .inl h'
 ·exact .inr ⟨g,cap,cur,e,Nat.le_trans hb hg,r⟩
theorem OwnRow.frame {w w':World} {base:Nat} {t:TypeId} {k:Nat} {v:Value} {css:List (Array Value)} (h:OwnRow w base t k v css) (e:∀b∈v.ownBlock.toList,w'.heap[b]?=w.heap[b]?):OwnRow w' base t k v css:=by
 refine⟨h.sz,h.ow.1,?_⟩
 rcases h.ow.2 with h'|⟨g,cap,cur,rfl,hb,hg,r⟩
 ·exact .inl h'
 ·exact .inr ⟨g,cap,cur,rfl,hb,(e g (by simp[Value.ownBlock])).trans hg,r⟩
theorem OwnRow.lt {w:World} {base:Nat} {t:TypeId} {k:Nat} {v:Value} {css:List (Array Value)} (h:OwnRow w base t k v css):∀x∈v.ownBlock.toList,base≤x∧x<w.heap.size:=by
 intro x hx
 exact World.ownsRow.lt h.ow x (by simpa using hx)
theorem OwnRow.below {w w':World} {base:Nat} {t:TypeId} {k:Nat} {v:Value} {css:List (Array Value)} (h:OwnRow w base t k v css) (hb:Below w.heap.size w w'):OwnRow w' base t k v css:=
 h.frame (fun x hx=>hb.block x (h.lt x hx).2)
theorem OwnRow.kept {w w':World} {base:Nat} {t:TypeId} {k:Nat} {v:Value} {css:List (Array Value)} {row:Option Nat} (h:OwnRow w base t k v css) (hg:w.grownBy w' row) (hne:v.ownBlock=none∨v.ownBlock≠row):OwnRow w' base t k v css:=
 ⟨h.sz,World.ownsRow.kept h.ow hg hne⟩
theorem RdRow.below {w w':World} {B k:Nat} {v:Value} {css:List (Array Value)} (h:RdRow w k v css) (hb:Below B w w') (hB:w.heap.size≤B):RdRow w' k v css:=by
 obtain⟨hs,ao,cap,rfl,h1,h2,h3⟩:=h
 refine⟨hs,ao,cap,rfl,h1,h2,?_⟩
 rcases h3 with h3|⟨b,off,rfl,h4⟩
 ·exact .inl h3
 ·refine .inr ⟨b,off,rfl,fun j i hj hi=>?_⟩
  have h5:=h4 j i hj hi
  have hz:(css.getD j #[]).size=k:=by simp[List.getD,hj];exact hs _ (List.getElem_mem hj)
  have h6:∃y,(css.getD j #[])[i]?=some y:=⟨_,Array.getElem?_eq_getElem (by omega)⟩
  obtain⟨y,hy⟩:=h6
  rw[hy]at h5⊢
  have h7:=World.block_lt_of_cell? w _ h5
  rw[hb.cell (p:=⟨b,off+(j*k+i),none⟩) (Nat.lt_of_lt_of_le h7 hB)]
  exact h5
theorem RdRow.form {w:World} {k:Nat} {v:Value} {css:List (Array Value)} (h:RdRow w k v css):∃ao cap,v=.slice ao css.length cap:=by
 obtain⟨hs,ao,cap,e,_⟩:=h
 exact⟨ao,cap,e⟩
theorem RdRow.el {w:World} {k:Nat} {ao:Option Addr} {n cap:Nat} {css:List (Array Value)} (h:RdRow w k (.slice ao n cap) css):n=css.length∧n≤cap∧cap≤maxLen∧
  ∀j,j<n→∃b off,ao=some ⟨b,off,none⟩∧(css.getD j #[]).size=k∧∀i,i<k→w.cell? ⟨b,off+(j*k+i),none⟩=(css.getD j #[])[i]?:=by
 obtain⟨hs,ao',cap',e,h1,⟨h2, -⟩,h3⟩:=h
 simp only[Value.slice.injEq]at e
 obtain⟨rfl,rfl,rfl⟩:=e
 refine⟨rfl,h1,h2,fun j hj=>?_⟩
 rcases h3 with rfl|⟨b,off,rfl,h4⟩
 ·simp at hj
 ·exact⟨b,off,rfl,by simp[List.getD,hj];exact hs _ (List.getElem_mem hj),fun i hi=>h4 j i hj hi⟩
theorem RdRow.one {w:World} {k:Nat} {b off:Nat} {cs:Array Value} (hs:cs.size=k) (h:∀i,i<k→w.cell? ⟨b,off+i,none⟩=cs[i]?):RdRow w k (.slice (some ⟨b,off,none⟩) 1 1) [cs]:=
 ⟨by simpa using hs,some ⟨b,off,none⟩,1,rfl,Nat.le_refl _,⟨by decide,fun e=>by cases e⟩,.inr ⟨b,off,rfl,fun j i hj hi=>by
  have:j=0:=by simpa using hj
  subst this
  simpa using h i hi⟩⟩
theorem load_at {t:TypeId} {n:Nat} (hS:IsS t n) (w:World) (b off:Nat) (cs:Array Value) (hn:cs.size=n) (hc:∀i,i<n→w.cell? ⟨b,off+i,none⟩=cs[i]?):(loadVar t ⟨b,off,none⟩).run Tryz.prog w=.ok (.agg cs) w:=by
 obtain⟨⟨fs,hu⟩,hi⟩:=hS
 have hl:(loadCells ⟨b,off,none⟩ cs.toList.length).run Tryz.prog w=.ok cs.toList.toArray w:=
  run_loadCells_list (P:=Tryz.prog) w ⟨b,off,none⟩ cs.toList (fun j v hv=>by
   have hadd:(⟨b,off,none⟩:Addr).add j=⟨b,off+j,none⟩:=by unfold Addr.add;split<;>simp_all
   have hj:j<n:=by
    have:j<cs.toList.length:=(List.getElem?_eq_some_iff.1 hv).1
    rw[Array.length_toList]at this
    omega
   rw[hadd,hc j hj]
   simpa using hv)
 cases hq:Tryz.prog.info? t with
 |none=>simp[hq]at hi
 |some i=>
  have hs:i.size=cs.size:=by simp[hq]at hi;omega
  have hagg:(isAgg t).run Tryz.prog w=.ok true w:=by
   unfold isAgg
   rw[Sem.run_bind,run_underlying hu w]
   simp
  simp only[Array.length_toList,Array.toArray_toList]at hl
  simp[loadVar,Sem.run_bind,hagg,sizeOf,typeInfo,hq,hs,hl]
theorem wpList_getO {t:TypeId} {n:Nat} (hS:IsS t n) {ops:Array Oper} {rest:List Oper} {o:Oper} {a:Act} {w:World} {Q:Exit→Act→World→Prop} (hw:Region.wanted o (yielded ops a.tmps)=true) (x:Operand) (ho:o.op=.load t x)
  (b off:Nat) (hx:a.eval x=.pointer (some ⟨b,off,none⟩)) (cs:Array Value) (hn:cs.size=n) (hc:∀i,i<n→w.cell? ⟨b,off+i,none⟩=cs[i]?)
  (h:wpList Tryz.prog ops Q rest (a.put o.dst (.agg cs)) w):wpList Tryz.prog ops Q (o::rest) a w:=by
 refine wpList_step fun K hK=>?_
 rw[if_pos hw]
 unfold Oper.wp execOp
 simp only[ho,hx,Instr.loadAt,Instr.sureAddr,Sem.run_bind,Sem.run_pure,Result.andThen_ok,load_at hS w b off cs hn hc]
 exact hK _ _ h
theorem wpList_putO {t:TypeId} {n:Nat} (hS:IsS t n) {ops:Array Oper} {rest:List Oper} {o:Oper} {a:Act} {w:World} {Q:Exit→Act→World→Prop} (hgd:o.guard=none) (x y:Operand) (ho:o.op=.store t x y)
  (g off:Nat) (e:TypeId) (cur cs:Array Value) (hx:a.eval x=.pointer (some ⟨g,off,none⟩)) (hy:a.eval y=.agg cs) (hn:cs.size=n) (hg:w.heap[g]?=some (.cells cur e (0,0))) (hfit:off+n≤cur.size) (h1:cs.all (·.oneCell')=true)
  (h:wpList Tryz.prog ops Q rest (a.put o.dst undef) (w.setRow g (cur.toList.take off++cs.toList++cur.toList.drop (off+n)).toArray)):wpList Tryz.prog ops Q (o::rest) a w:=by
 refine wpList_plain hgd fun K hK=>?_
 have hst:=run_storeCells_at Tryz.prog g off e cs.toList 0 cur w hg (by simp;omega) (fun v hv=>(Array.all_eq_true_iff_forall_mem.1 h1) v (by simpa using hv))
 obtain⟨-,hi⟩:=hS
 have hrun:(storeVar t ⟨g,off,none⟩ (.agg cs)).run Tryz.prog w=.ok () (w.setRow g (cur.toList.take off++cs.toList++cur.toList.drop (off+n)).toArray):=by
  cases hq:Tryz.prog.info? t with
  |none=>simp[hq]at hi
  |some i=>
   have hs:i.size=n:=by simpa[hq]using hi
   simp only[Nat.add_zero,Array.length_toList,hn]at hst
   simp[storeVar,sizeOf,typeInfo,hq,Value.cells,hs,hn,hst]
 unfold Oper.wp execOp
 simp only[ho,hx,hy,Instr.storeAt,Instr.sureAddr,Sem.run_bind,Sem.run_pure,Result.andThen_ok,hrun]
 exact hK _ _ h
theorem wpList_putPart {t:TypeId} {n:Nat} (hS:IsS t n) {ops:Array Oper} {rest:List Oper} {o:Oper} {a:Act} {w:World} {Q:Exit→Act→World→Prop} (hgd:o.guard=none) (x y:Operand) (ho:o.op=.store t x y)
  (g off:Nat) (e:TypeId) (cur cs new:Array Value) (hx:a.eval x=.pointer (some ⟨g,off,none⟩)) (hy:a.eval y=.agg cs) (hn:cs.size=n) (hr:StB w g e cur) (hfit:off+n≤cur.size) (h1:cs.all (·.oneCell')=true)
  (hnew:(cur.toList.take off++cs.toList++cur.toList.drop (off+n)).toArray=new)
  (h:∀w',StB w' g e new→w.grownBy w' (some g)→wpList Tryz.prog ops Q rest (a.put o.dst undef) w'):wpList Tryz.prog ops Q (o::rest) a w:=
 wpList_putO hS hgd x y ho g off e cur cs hx hy hn hr hfit h1 (by rw[hnew];exact h _ (setRow_heap w g _ _ _ _ hr) (grownRowS w g _))
theorem wpList_putRow {t:TypeId} {k:Nat} (hS:IsS t k) {ops:Array Oper} {rest:List Oper} {o:Oper} {a:Act} {w:World} {Q:Exit→Act→World→Prop} (hgd:o.guard=none) (x y:Operand) (ho:o.op=.store t x y)
  (base g cap n j:Nat) (css:List (Array Value)) (cs:Array Value) (hr:OwnRow w base t k (.slice (some ⟨g,0,none⟩) n cap) css) (hl:n=css.length) (hj:j<n) (hx:a.eval x=.pointer (some ⟨g,j*k,none⟩)) (hy:a.eval y=.agg cs) (hn:cs.size=k) (h1:cs.all (·.oneCell')=true)
  (h:∀w',OwnRow w' base t k (.slice (some ⟨g,0,none⟩) n cap) (css.set j cs)→w.grownBy w' (some g)→wpList Tryz.prog ops Q rest (a.put o.dst undef) w'):wpList Tryz.prog ops Q (o::rest) a w:=by
 subst hl
 rcases hr.ow.2 with⟨h',_⟩|⟨g',cap',cur,h',hb,hg,hnc,hcm,hcs,htake⟩
 ·simp at h'
 ·simp only[Value.slice.injEq,Option.some.injEq,Addr.mk.injEq,and_true,true_and]at h'
  obtain⟨rfl,rfl⟩:=h'
  have hle:(j+1)*k≤css.length*k:=Nat.mul_le_mul_right k hj
  have hle2:css.length*k≤cap*k:=Nat.mul_le_mul_right k hnc
  rw[Nat.add_mul,Nat.one_mul]at hle
  refine wpList_putO hS hgd x y ho g (j*k) t cur cs hx hy hn hg (by omega) h1 (h _ ?_ (grownRowS w g _))
  have hsz:∀c∈css.set j cs,c.size=k:=fun c hc=>by
   rcases List.mem_or_eq_of_mem_set hc with hc|rfl
   ·exact hr.sz c hc
   ·exact hn
  have ecur:cur.toList=flatC css++cur.toList.drop (css.length*k):=by rw[←htake,List.take_append_drop]
  have hfl:=flatC_len css hr.sz
  refine⟨hsz,by rw[flatC_len _ hsz],.inr ⟨g,cap,_,by rw[List.length_set],hb,setRow_heap w g _ _ _ _ hg,by rw[List.length_set];exact hnc,hcm,?_,?_⟩⟩
  ·simp only[List.size_toArray,List.length_append,List.length_take,List.length_drop,Array.length_toList,hn]
   omega
  ·rw[List.length_set,List.toList_toArray,←flatC_set css hr.sz j hj cs]
   have hlen:(cur.toList.take (j*k)++cs.toList).length=j*k+k:=by
    simp only[List.length_append,List.length_take,Array.length_toList,hn];omega
   have e1:cur.toList.take (j*k)=(flatC css).take (j*k):=by
    rw[ecur,List.take_append_of_le_length (by omega)]
   have e2:(cur.toList.drop (j*k+k)).take (css.length*k-(j*k+k))=(flatC css).drop (j*k+k):=by
    rw[←htake,List.drop_take]
   rw[List.take_append,hlen,List.take_of_length_le (by omega),e2,e1]
theorem OwnRow.put {w:World} {base:Nat} {t:TypeId} {k g cap n:Nat} {css:List (Array Value)} (hr:OwnRow w base t k (.slice (some ⟨g,0,none⟩) n cap) css) (hl:n=css.length) (j i:Nat) (hj:j<n) (hi:i<k) (cs:Array Value) (hc:css[j]?=some cs) (x:Value):
  w.frozen? ⟨g,j*k+i,none⟩=false∧(∃y,w.cell? ⟨g,j*k+i,none⟩=some y)∧OwnRow (w.setCell ⟨g,j*k+i,none⟩ x) base t k (.slice (some ⟨g,0,none⟩) n cap) (css.set j (cs.setIfInBounds i x)):=by
 subst hl
 have hle:(j+1)*k≤css.length*k:=Nat.mul_le_mul_right k hj
 rw[Nat.add_mul,Nat.one_mul]at hle
 have hfl:=flatC_len css hr.sz
 have hcs:cs.size=k:=hr.sz cs (List.mem_of_getElem? hc)
 refine⟨World.ownsRow.frozenAt hr.ow _,?_,?_⟩
 ·rw[World.ownsRow.cellAt hr.ow (j*k+i) (by omega)]
  exact⟨_,List.getElem?_eq_getElem (by omega)⟩
 ·have h0:=(World.ownsRow.stored hr.ow (j*k+i) x).1
  have hsz:∀c∈css.set j (cs.setIfInBounds i x),c.size=k:=fun c hc=>by
   rcases List.mem_or_eq_of_mem_set hc with hc|rfl
   ·exact hr.sz c hc
   ·rw[Array.size_setIfInBounds];exact hcs
  refine⟨hsz,?_⟩
  have e:(flatC css).set (j*k+i) x=flatC (css.set j (cs.setIfInBounds i x)):=by
   rw[←flatC_set css hr.sz j hj _]
   have ecs:cs.toList=((flatC css).drop (j*k)).take k:=by
    apply List.ext_getElem?
    intro m
    rw[List.getElem?_take,List.getElem?_drop]
    by_cases hm:m<k
    ·rw[if_pos hm,flatC_at css hr.sz j m hj hm]
     simp[List.getD,hc]
    ·rw[if_neg hm,List.getElem?_eq_none (by rw[Array.length_toList];omega)]
   have ef:flatC css=(flatC css).take (j*k)++cs.toList++(flatC css).drop (j*k+k):=by
    rw[ecs,List.append_assoc,←List.drop_drop,List.take_append_drop,List.take_append_drop]
   have hlt:((flatC css).take (j*k)).length=j*k:=by rw[List.length_take];omega
   conv=>lhs;rw[ef]
   rw[List.append_assoc,List.set_append_right _ _ (by omega),hlt,Nat.add_sub_cancel_left,List.set_append_left _ _ (by rw[Array.length_toList];omega),Array.toList_setIfInBounds,List.append_assoc]
  rw[e]at h0
  rwa[List.length_set]
end Go.Proofs.YtflbcjgkdokhiaaGreatDoor
