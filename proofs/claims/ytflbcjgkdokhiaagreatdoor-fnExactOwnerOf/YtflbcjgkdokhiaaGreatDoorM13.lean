/- Whether a record is right; how the laws take one over and compare two. -/
import Derived.Test.YtflbcjgkdokhiaaGreatDoorM9
import Derived.Test.YtflbcjgkdokhiaaGreatDoorM4
import Derived.Test.YtflbcjgkdokhiaaGreatDoorM12
import Derived.Test.YtflbcjgkdokhiaaGreatDoorM3
set_option maxRecDepth 20000
set_option maxHeartbeats 1000000
namespace Go.Proofs.YtflbcjgkdokhiaaGreatDoor
open Go.ChangeShapes Go.WideShapes Go.ChangeAt Go.RowKit
theorem srecok_any (r:Rc) (w:World):
  Calls Tryz.prog 45 #[RV r] w fun e w'=>e=.returned (.bool r.ok)∧Below w.heap.size w w':=by
 have c1:=fun wx=>sepoch_any r.e wx
 have c2:=fun wx=>sinN_any r.s 1 3 wx
 have c3:=fun wx=>sepoch_any r.t wx
 have c4:=fun wx=>sepoch_any r.n wx
 have hst:(decide (1≤r.s)&&decide (r.s≤3))=stI r.s:=rfl
 simp only[hst]at c2
 have hok:r.ok=(epI r.e&&stI r.s&&epI r.t&&epI r.n):=rfl
 rw[hok]
 have hb:Below w.heap.size w (w.alloc (.cells (recA r) 50)):=(Below.refl _ _).alloc (Nat.le_refl _) _
 obtain⟨x1,x2,x3,x4⟩:=r
 dsimp only at c1 c2 c3 c4⊢
 unfold RV recA at*
 dsimp only at hb⊢
 obtain⟨b1,h1⟩:∃b,b=epI x1:=⟨_,rfl⟩
 obtain⟨b2,h2⟩:∃b,b=stI x2:=⟨_,rfl⟩
 obtain⟨b3,h3⟩:∃b,b=epI x3:=⟨_,rfl⟩
 obtain⟨b4,h4⟩:∃b,b=epI x4:=⟨_,rfl⟩
 simp only[←h1,←h2,←h3,←h4]at c1 c2 c3 c4⊢
 clear h1 h2 h3 h4 hok hst
 go_enter Tryz.func45,Tryz.ntmps45
 go_wp2_with fail
 refine(c1 _).mono ?_
 rintro e w' ⟨rfl,hw⟩;subst w'
 cases b1 with
 |false=>
  go_wp2_with fail
  go_ret
  exact⟨rfl,hb⟩
 |true=>
  go_wp2_with fail
  refine(c2 _).mono ?_
  rintro e w' ⟨rfl,hw⟩;subst w'
  cases b2 with
  |false=>
   go_wp2_with fail
   go_ret
   exact⟨rfl,hb⟩
  |true=>
   go_wp2_with fail
   refine(c3 _).mono ?_
   rintro e w' ⟨rfl,hw⟩;subst w'
   cases b3 with
   |false=>
    go_wp2_with fail
    go_ret
    exact⟨rfl,hb⟩
   |true=>
    go_wp2_with fail
    refine(c4 _).mono ?_
    rintro e w' ⟨rfl,hw⟩;subst w'
    go_wp2_with fail
    go_ret
    exact⟨rfl,hb⟩
theorem irecok_any (r:Rc) (w:World):
  Calls Tryz.prog 132 #[RV r] w fun e w'=>e=.returned (.bool r.ok)∧Below w.heap.size w w':=by
 have c1:=fun wx=>iepoch_any r.e wx
 have c2:=fun wx=>istate_any r.s wx
 have c3:=fun wx=>iepoch_any r.t wx
 have c4:=fun wx=>iepoch_any r.n wx
 have hok:r.ok=(epI r.e&&stI r.s&&epI r.t&&epI r.n):=rfl
 rw[hok]
 have hb:Below w.heap.size w (w.alloc (.cells (recA r) 50)):=(Below.refl _ _).alloc (Nat.le_refl _) _
 obtain⟨x1,x2,x3,x4⟩:=r
 dsimp only at c1 c2 c3 c4⊢
 unfold RV recA at*
 dsimp only at hb⊢
 obtain⟨b1,h1⟩:∃b,b=epI x1:=⟨_,rfl⟩
 obtain⟨b2,h2⟩:∃b,b=stI x2:=⟨_,rfl⟩
 obtain⟨b3,h3⟩:∃b,b=epI x3:=⟨_,rfl⟩
 obtain⟨b4,h4⟩:∃b,b=epI x4:=⟨_,rfl⟩
 simp only[←h1,←h2,←h3,←h4]at c1 c2 c3 c4⊢
 clear h1 h2 h3 h4 hok
 go_enter Tryz.func132,Tryz.ntmps132
 go_wp2_with fail
 refine(c1 _).mono ?_
 rintro e w' ⟨rfl,hw⟩;subst w'
 cases b1 with
 |false=>
  go_wp2_with fail
  go_ret
  exact⟨rfl,hb⟩
 |true=>
  go_wp2_with fail
  refine(c2 _).mono ?_
  rintro e w' ⟨rfl,hw⟩;subst w'
  cases b2 with
  |false=>
   go_wp2_with fail
   go_ret
   exact⟨rfl,hb⟩
  |true=>
   go_wp2_with fail
   refine(c3 _).mono ?_
   rintro e w' ⟨rfl,hw⟩;subst w'
   cases b3 with
   |false=>
    go_wp2_with fail
    go_ret
    exact⟨rfl,hb⟩
   |true=>
    go_wp2_with fail
    refine(c4 _).mono ?_
    rintro e w' ⟨rfl,hw⟩;subst w'
    go_wp2_with fail
    go_ret
    exact⟨rfl,hb⟩
theorem Tryz.infoR:(Tryz.prog.info? 50).map (·.size)=some 4:=by kernel_rfl
theorem Tryz.underR:∃fs,Tryz.prog.underlying 50=some (.struct fs):=⟨_,Tryz.underlying50⟩
theorem recA_one (r:Rc):(recA r).all (·.oneCell')=true:=by simp[recA,Value.oneCell']
def RecB (w:World) (g:Nat) (t:TypeId) (r:Rc):Prop:=w.heap[g]?=some (.cells (recA r) t (0,0))
theorem RecB.lt {w:World} {g:Nat} {t:TypeId} {r:Rc} (h:RecB w g t r):g<w.heap.size:=by
 rcases Nat.lt_or_ge g w.heap.size with hlt|hge
 ·exact hlt
 ·rw[RecB,Array.getElem?_eq_none hge]at h;cases h
theorem RecB.new (w:World) (t:TypeId) (r:Rc):RecB (w.alloc (.cells (recA r) t)) w.heap.size t r:=heap_alloc_new w _
theorem RecB.below {w w':World} {g:Nat} {t:TypeId} {r:Rc} (h:RecB w g t r) (hb:Below w.heap.size w w'):RecB w' g t r:=(hb.block g h.lt).trans h
theorem RecB.kept {w w':World} {g:Nat} {t:TypeId} {r:Rc} {row:Option Nat} (h:RecB w g t r) (hg:w.grownBy w' row) (hne:some g≠row):RecB w' g t r:=(hg.block g h.lt hne).trans h
theorem RecB.alloc {w:World} {g:Nat} {t:TypeId} {r:Rc} (h:RecB w g t r) (o:Obj):RecB (w.alloc o) g t r:=(Below.heap_alloc w o g h.lt).trans h
theorem RecB.cell {w:World} {g:Nat} {t:TypeId} {r:Rc} (h:RecB w g t r) (j:Nat) {x:Value} (e:(recA r)[j]?=some x):w.cell? ⟨g,j,none⟩=some x:=by rw[cell_of_row w g j _ _ _ h,e]
theorem RecB.frozen {w:World} {g:Nat} {t:TypeId} {r:Rc} (h:RecB w g t r) (j:Nat):w.frozen? ⟨g,j,none⟩=false:=frozen_of_row w g j _ _ h
theorem grownRowR (w:World) (g:Nat) (cs:Array Value):w.grownBy (w.setRow g cs) (some g):=
 ⟨rfl,rfl,rfl,by simp,fun k _ hne=>_root_.Go.setRow_other w g k cs (fun e=>hne (by rw[e]))⟩
theorem wpList_getR {ops:Array Oper} {rest:List Oper} {o:Oper} {a:Act} {w:World} {Q:Exit→Act→World→Prop} (hgd:o.guard=none) (x:Operand) (ho:o.op=.load 50 x)
  (g:Nat) (hx:a.eval x=.pointer (some ⟨g,0,none⟩)) (r:Rc) (hr:RecB w g 50 r)
  (h:wpList Tryz.prog ops Q rest (a.put o.dst (RV r)) w):wpList Tryz.prog ops Q (o::rest) a w:=by
 obtain⟨fs,hu⟩:=Tryz.underR
 exact wpList_load_row hgd _ x ho g hx _ _ _ _ hr hu rfl Tryz.infoR h
theorem wpList_putR {ops:Array Oper} {rest:List Oper} {o:Oper} {a:Act} {w:World} {Q:Exit→Act→World→Prop} (hgd:o.guard=none) (x y:Operand) (ho:o.op=.store 50 x y)
  (g:Nat) (r r':Rc) (hx:a.eval x=.pointer (some ⟨g,0,none⟩)) (hy:a.eval y=RV r) (hr:RecB w g 50 r')
  (h:∀w',RecB w' g 50 r→w.grownBy w' (some g)→wpList Tryz.prog ops Q rest (a.put o.dst undef) w'):wpList Tryz.prog ops Q (o::rest) a w:=
 wpList_store_row hgd _ x y ho g (recA r) hx hy _ _ hr Tryz.infoR rfl (recA_one r) (h _ (setRow_heap w g _ _ _ _ hr) (grownRowR w g _))
theorem results_R {fn:Func} {p:Tmp} (h:fn.results=#[.cell p 50]) (tmps:Array Value) (w:World) (g:Nat) (r:Rc)
  (hp:tmps.getD p undef=.pointer (some ⟨g,0,none⟩)) (hr:RecB w g 50 r):(results fn tmps).run Tryz.prog w=.ok (RV r) w:=by
 obtain⟨fs,hu⟩:=Tryz.underR
 exact results_cell_row h tmps w g _ _ _ _ hp hr hu rfl Tryz.infoR
theorem results_R2 {fn:Func} {p q:Tmp} (h:fn.results=#[.cell p 50,.tmp q]) (tmps:Array Value) (w:World) (g:Nat) (r:Rc) (x:Value)
  (hp:tmps.getD p undef=.pointer (some ⟨g,0,none⟩)) (hx:tmps.getD q undef=x) (hr:RecB w g 50 r):(results fn tmps).run Tryz.prog w=.ok (.tuple #[RV r,x]) w:=by
 obtain⟨fs,hu⟩:=Tryz.underR
 rw[results_cell_tmp h,hp,hx]
 simp only[asAddr,Sem.run_pure,Result.andThen_ok]
 rw[run_loadVar_row w g _ _ _ _ _ hr hu rfl Tryz.infoR]
 rfl
theorem toRecord_any (r:Rc) (w:World):
  Calls Tryz.prog 54 #[RV r] w fun e w'=>e=.returned (RV r)∧Below w.heap.size w w':=by
 unfold RV recA
 go_enter Tryz.func54,Tryz.ntmps54
 go_wp2_with fail
 refine bodyPost_ret (results_R rfl _ _ (w.heap.size+1) r rfl ?_) rfl ?_
 ·have:=(RecB.new (w.alloc (.cells (recA r) 64)) 50 r).alloc (.cells (recA r) 50)
  rw[World.size_alloc]at this
  exact this
 ·exact⟨rfl,(((Below.refl _ _).alloc (Nat.le_refl _) _).alloc (by simp) _).alloc (by simp;omega) _⟩
theorem eqRecord_any (r q:Rc) (w:World):
  Calls Tryz.prog 64 #[RV r,RV q] w fun e w'=>e=.returned (.bool (sameR r q))∧Below w.heap.size w w':=by
 have hb:Below w.heap.size w ((w.alloc (.cells (recA r) 50)).alloc (.cells (recA q) 50)):=((Below.refl _ _).alloc (Nat.le_refl _) _).alloc (by simp) _
 obtain⟨a1,a2,a3,a4⟩:=r
 obtain⟨b1,b2,b3,b4⟩:=q
 have hd:sameR ⟨a1,a2,a3,a4⟩ ⟨b1,b2,b3,b4⟩=(decide (a1=b1)&&decide (a2=b2)&&decide (a3=b3)&&decide (a4=b4)):=rfl
 rw[hd]
 clear hd
 unfold RV recA at*
 dsimp only at hb⊢
 by_cases h1:a1=b1
 ·by_cases h2:a2=b2
  ·by_cases h3:a3=b3
   ·by_cases h4:a4=b4
    ·subst h1 h2 h3 h4
     go_enter Tryz.func64,Tryz.ntmps64
     go_wp2
     go_ret
     exact⟨ret_bool (by simp),hb⟩
    ·have hn:(a4 !=b4)=true:=by simpa using h4
     have he:decide (a4=b4)=false:=by simpa using h4
     rw[he]
     subst h1 h2 h3
     go_enter Tryz.func64,Tryz.ntmps64
     go_wp2
     go_ret
     exact⟨ret_bool (by simp),hb⟩
   ·have hn:(a3 !=b3)=true:=by simpa using h3
    have he:decide (a3=b3)=false:=by simpa using h3
    rw[he]
    subst h1 h2
    go_enter Tryz.func64,Tryz.ntmps64
    go_wp2
    go_ret
    exact⟨ret_bool (by simp),hb⟩
  ·have hn:(a2 !=b2)=true:=by simpa using h2
   have he:decide (a2=b2)=false:=by simpa using h2
   rw[he]
   subst h1
   go_enter Tryz.func64,Tryz.ntmps64
   go_wp2
   go_ret
   exact⟨ret_bool (by simp),hb⟩
 ·have hn:(a1 !=b1)=true:=by simpa using h1
  have he:decide (a1=b1)=false:=by simpa using h1
  rw[he]
  go_enter Tryz.func64,Tryz.ntmps64
  go_wp2
  go_ret
  exact⟨ret_bool (by simp),hb⟩
end Go.Proofs.YtflbcjgkdokhiaaGreatDoor
set_option maxRecDepth 20000
set_option maxHeartbeats 2000000
namespace Go.Proofs.YtflbcjgkdokhiaaGreatDoor
open Go.ChangeShapes Go.WideShapes Go.ChangeAt Go.RowKit
theorem sdigits_any (l:Bs) (w:World) (hl:l.length≤1048576):
  Calls Tryz.prog 114 #[S l,.int .i64 9] w fun e w'=>e=.returned (.tuple #[.int .i64 (num l),.bool (okN l)])∧w'=w:=by
 have hsz:(⟨l.toArray⟩:ByteArray).size=l.length:=rfl
 unfold S
 by_cases h0:l=[]
 ·subst h0
  have HE:Hid (okN []=false∧num []=0):=by
   have:=okN_short [] (by simp)
   exact⟨this,num_not this⟩
  go_enter Tryz.func114,Tryz.ntmps114
  go_wp2
  go_ret2
  rw[HE.out.1,HE.out.2]
  exact⟨rfl,rfl⟩
 ·have hie:l.isEmpty=false:=by simpa using h0
  have hpos:0<l.length:=List.length_pos_iff.2 h0
  have ht:=byteAt_is l 0 hpos 45 45 rfl
  have hng:=neg_at l hpos
  rw[←hng]at ht
  clear h0
  by_cases hneg:neg l=true
  ·rw[hneg]at ht
   clear hng
   have hng:=hneg
   clear hneg
   have ho:offN l=1:=by unfold offN;rw[hng];rfl
   by_cases hs1:(l.length:Int)-1<1
   ·have HE:Hid (okN l=false∧num l=0):=by
     have:=okN_short l (by omega)
     exact⟨this,num_not this⟩
    clear hng ho
    go_enter Tryz.func114,Tryz.ntmps114
    go_wp2
    go_ret2
    rw[HE.out.1,HE.out.2]
    exact⟨rfl,rfl⟩
   ·by_cases hs2:9<(l.length:Int)-1
    ·have HE:Hid (okN l=false∧num l=0):=by
      have:=okN_long l (by omega)
      exact⟨this,num_not this⟩
     clear hng ho
     go_enter Tryz.func114,Tryz.ntmps114
     go_wp2
     go_ret2
     rw[HE.out.1,HE.out.2]
     exact⟨rfl,rfl⟩
    ·have HO:Hid (offN l=1∧neg l=true):=⟨ho,hng⟩
     clear hng ho
     go_enter Tryz.func114,Tryz.ntmps114
     go_wp2
     go_loop [8,9] (fun n k=>∃(j:Nat) (x:Int),(1:Int)≤j∧(j:Int)≤l.length∧k=.int .i64 j∧n=.int .i64 x∧0≤x∧x<1000000000∧Hid (RdInv l j x)) (fun _ k=>l.length-(intOf k).toNat)
     case atStart=>exact⟨1,0,by omega,by omega,rfl,rfl,by omega,by omega,by rw[Hid,←HO.out.1];exact RdInv.start l⟩
     case round=>
      obtain⟨j,x,hj0,hj1,rfl,rfl,hx0,hx1,HI⟩:=hrel
      by_cases hlt:(j:Int)<(l.length:Int)
      ·have hj:j<l.length:=by omega
       have hbv:=byteV_is l j hj
       by_cases hlo:byteV l j hj<48
       ·have HE:Hid (okN l=false∧num l=0):=by
         have:=RdInv.bad (l:=l) (j:=j) (by rw[HO.out.1];omega) hj (by rw[hbv]at hlo;simp[isDig];omega)
         exact⟨this,num_not this⟩
        unfold byteV at hlo
        clear hbv
        go_wp2
        go_ret2
        rw[HE.out.1,HE.out.2]
        exact⟨rfl,rfl⟩
       ·by_cases hhi:57<byteV l j hj
        ·have HE:Hid (okN l=false∧num l=0):=by
          have:=RdInv.bad (l:=l) (j:=j) (by rw[HO.out.1];omega) hj (by rw[hbv]at hhi;simp[isDig];omega)
          exact⟨this,num_not this⟩
         unfold byteV at hlo hhi
         clear hbv
         go_wp2
         go_ret2
         rw[HE.out.1,HE.out.2]
         exact⟨rfl,rfl⟩
        ·have HN:Hid (RdInv l (j+1) (x*10+(byteV l j hj-48))):=by
          rw[Hid,hbv]
          exact HI.out.next (by rw[HO.out.1];omega) hj (by rw[hbv]at hlo hhi;simp[isDig];omega)
         have HNb:=HN.out.bd (by rw[HO.out.1];omega)
         have hlo2:48≤byteV l j hj:=by omega
         have hhi2:byteV l j hj≤57:=by omega
         clear hbv
         unfold byteV at hlo hhi hlo2 hhi2 HN HNb
         go_wp2
         go_round
         case rel=>exact⟨j+1,_,by omega,by omega,by go_num,rfl,HNb.1,HNb.2,HN⟩
         case measure=>simp[intOf];omega
      ·obtain rfl:j=l.length:=by omega
       have h1l:1<l.length:=by omega
       have hh:=head_digs l (by rw[HO.out.1];exact h1l)
       have he1:l[offN l]'(by rw[HO.out.1];exact h1l)=l[1]:=by congr 1;exact HO.out.1
       rw[he1]at hh
       have hdn:=HI.out.done (by rw[HO.out.1];omega) (by rw[HO.out.1];omega)
       rw[hh]at hdn
       have ht0:=byteAt_is l 1 h1l 48 48 rfl
       by_cases hz:l[1]=48
       ·have HE:Hid (okN l=false∧num l=0):=by
         have:okN l=false:=by rw[hdn.1];simp[hz,h1l]
         exact⟨this,num_not this⟩
        rw[show decide (l[1]=48)=true by simp[hz]]at ht0
        clear hdn hh he1 hz
        go_wp2
        go_ret2
        rw[HE.out.1,HE.out.2]
        exact⟨rfl,rfl⟩
       ·have HE:Hid (okN l=true∧num l= -x):=by
         have:okN l=true:=by rw[hdn.1];simp[hz]
         exact⟨this,by rw[num,this,HO.out.2,hdn.2];rfl⟩
        rw[show decide (l[1]=48)=false by simp[hz]]at ht0
        clear hdn hh he1 hz
        go_wp2
        go_ret2
        rw[HE.out.1,HE.out.2]
        exact⟨rfl,rfl⟩
  ·have hng':neg l=false:=by simpa using hneg
   rw[hng']at ht
   clear hng hneg
   have hng:=hng'
   clear hng'
   have ho:offN l=0:=by unfold offN;rw[hng];rfl
   by_cases hs1:(l.length:Int)-0<1
   ·exact absurd hs1 (by omega)
   ·by_cases hs2:9<(l.length:Int)-0
    ·have HE:Hid (okN l=false∧num l=0):=by
      have:=okN_long l (by omega)
      exact⟨this,num_not this⟩
     clear hng ho
     go_enter Tryz.func114,Tryz.ntmps114
     go_wp2
     go_ret2
     rw[HE.out.1,HE.out.2]
     exact⟨rfl,rfl⟩
    ·have HO:Hid (offN l=0∧neg l=false):=⟨ho,hng⟩
     clear hng ho
     go_enter Tryz.func114,Tryz.ntmps114
     go_wp2
     go_loop [8,9] (fun n k=>∃(j:Nat) (x:Int),(0:Int)≤j∧(j:Int)≤l.length∧k=.int .i64 j∧n=.int .i64 x∧0≤x∧x<1000000000∧Hid (RdInv l j x)) (fun _ k=>l.length-(intOf k).toNat)
     case atStart=>exact⟨0,0,by omega,by omega,rfl,rfl,by omega,by omega,by rw[Hid,←HO.out.1];exact RdInv.start l⟩
     case round=>
      obtain⟨j,x,hj0,hj1,rfl,rfl,hx0,hx1,HI⟩:=hrel
      by_cases hlt:(j:Int)<(l.length:Int)
      ·have hj:j<l.length:=by omega
       have hbv:=byteV_is l j hj
       by_cases hlo:byteV l j hj<48
       ·have HE:Hid (okN l=false∧num l=0):=by
         have:=RdInv.bad (l:=l) (j:=j) (by rw[HO.out.1];omega) hj (by rw[hbv]at hlo;simp[isDig];omega)
         exact⟨this,num_not this⟩
        unfold byteV at hlo
        clear hbv
        go_wp2
        go_ret2
        rw[HE.out.1,HE.out.2]
        exact⟨rfl,rfl⟩
       ·by_cases hhi:57<byteV l j hj
        ·have HE:Hid (okN l=false∧num l=0):=by
          have:=RdInv.bad (l:=l) (j:=j) (by rw[HO.out.1];omega) hj (by rw[hbv]at hhi;simp[isDig];omega)
          exact⟨this,num_not this⟩
         unfold byteV at hlo hhi
         clear hbv
         go_wp2
         go_ret2
         rw[HE.out.1,HE.out.2]
         exact⟨rfl,rfl⟩
        ·have HN:Hid (RdInv l (j+1) (x*10+(byteV l j hj-48))):=by
          rw[Hid,hbv]
          exact HI.out.next (by rw[HO.out.1];omega) hj (by rw[hbv]at hlo hhi;simp[isDig];omega)
         have HNb:=HN.out.bd (by rw[HO.out.1];omega)
         have hlo2:48≤byteV l j hj:=by omega
         have hhi2:byteV l j hj≤57:=by omega
         clear hbv
         unfold byteV at hlo hhi hlo2 hhi2 HN HNb
         go_wp2
         go_round
         case rel=>exact⟨j+1,_,by omega,by omega,by go_num,rfl,HNb.1,HNb.2,HN⟩
         case measure=>simp[intOf];omega
      ·obtain rfl:j=l.length:=by omega
       have hh:=head_digs l (by rw[HO.out.1];exact hpos)
       have he1:l[offN l]'(by rw[HO.out.1];exact hpos)=l[0]:=by congr 1;exact HO.out.1
       rw[he1]at hh
       have hdn:=HI.out.done (by rw[HO.out.1];omega) (by rw[HO.out.1];omega)
       rw[hh]at hdn
       have ht0:=byteAt_is l 0 hpos 48 48 rfl
       by_cases hz:l[0]=48
       ·rw[show decide (l[0]=48)=true by simp[hz]]at ht0
        by_cases h1l:1<(l.length:Int)
        ·have HE:Hid (okN l=false∧num l=0):=by
          have h2:1<l.length:=by omega
          have:okN l=false:=by rw[hdn.1];simp[hz,h2]
          exact⟨this,num_not this⟩
         clear hdn hh he1 hz ht
         go_wp2
         go_ret2
         rw[HE.out.1,HE.out.2]
         exact⟨rfl,rfl⟩
        ·have HE:Hid (okN l=true∧num l=x):=by
          have h2:¬1<l.length:=by omega
          have:okN l=true:=by rw[hdn.1];simp[h2]
          exact⟨this,by rw[num,this,HO.out.2,hdn.2];rfl⟩
         clear hdn hh he1 hz ht
         go_wp2
         go_ret2
         rw[HE.out.1,HE.out.2]
         exact⟨rfl,rfl⟩
       ·have HE:Hid (okN l=true∧num l=x):=by
         have:okN l=true:=by rw[hdn.1];simp[hz]
         exact⟨this,by rw[num,this,HO.out.2,hdn.2];rfl⟩
        rw[show decide (l[0]=48)=false by simp[hz]]at ht0
        clear hdn hh he1 hz ht
        go_wp2
        go_ret2
        rw[HE.out.1,HE.out.2]
        exact⟨rfl,rfl⟩
theorem sread_any (l:Bs) (w:World) (hl:l.length≤1048576):
  Calls Tryz.prog 96 #[S l] w fun e w'=>e=.returned (.tuple #[.int .i64 (num l),.bool (okN l)])∧w'=w:=by
 have c1:=sdigits_any l w hl
 go_enter Tryz.func96,Tryz.ntmps96
 go_wp2_with fail
 refine c1.mono ?_
 rintro e w' ⟨rfl,hw⟩;subst w'
 clear c1
 go_wp2_with fail
 go_ret2
 exact⟨rfl,rfl⟩
end Go.Proofs.YtflbcjgkdokhiaaGreatDoor
namespace Go.Proofs.YtflbcjgkdokhiaaGreatDoor
open Go.ChangeShapes Go.WideShapes Go.ChangeAt Go.RowKit
def Lss (v:Value) (xs:List Bs):Item:=⟨v.ownBlock.toList,0,fun w=>OwnS w 0 v xs,fun _ _ e _ h=>OwnS.frame h e⟩
theorem Sta.texts {w wx wy:World} {L:List Item} {v:Value} {xs:List Bs} (h:Sta w wx L) (o:OwnS wy wx.heap.size v xs) (b:Below wx.heap.size wx wy):Sta w wy (Lss v xs::L):=
 h.add b (Lss v xs) (o.mono (Nat.zero_le _)) (fun k hk=>o.lt k (by simpa[Lss]using hk))
theorem ReadsS.take {w:World} {ao:Option Addr} {n cap:Nat} {xs:List Bs} (h:ReadsS w (.slice ao n cap) xs) (m:Nat) (hm:m≤xs.length):ReadsS w (.slice ao m cap) (xs.take m):=by
 obtain⟨ao',cap',e,h1,h2,h4⟩:=h
 cases e
 have hl:(xs.take m).length=m:=by simp[Nat.min_eq_left hm]
 refine⟨ao,cap,by rw[hl],by rw[hl];omega,h2,?_⟩
 rcases h4 with rfl|⟨b,off,e,h4⟩
 ·exact .inl (by simp)
 ·refine .inr ⟨b,off,e,fun j hj=>?_⟩
  rw[hl]at hj
  rw[h4 j (by omega)]
  simp[hj]
end Go.Proofs.YtflbcjgkdokhiaaGreatDoor
