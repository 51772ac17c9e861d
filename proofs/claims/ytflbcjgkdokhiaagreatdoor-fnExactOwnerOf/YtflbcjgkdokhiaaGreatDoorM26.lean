/- The walk of a region that draws its order (Giv), behind a structure: what is left of the walk is not unfolded by whoever looks at the goal. -/
import Derived.Test.YtflbcjgkdokhiaaGreatDoorM25
import Derived.Test.YtflbcjgkdokhiaaGreatDoorM16
import Derived.Test.YtflbcjgkdokhiaaGreatDoorM17
import Derived.Test.YtflbcjgkdokhiaaGreatDoorM24
import Derived.Test.YtflbcjgkdokhiaaGreatDoorM7
import Derived.Test.YtflbcjgkdokhiaaGreatDoorM5
import Derived.Test.YtflbcjgkdokhiaaGreatDoorM12
namespace Go.Proofs.YtflbcjgkdokhiaaGreatDoor
open Go.ChangeShapes Go.WideShapes Go.ChangeAt Go.RowKit
structure GivS (P:Program) (ops:Array Oper) (C:World→Prop) (E:Oper→Act→Option GSpec) (R:World→World→Prop) (Q:Act→Known→Prop) (l:List Oper) (a:Act) (G:Known):Prop where
 out:wpGiv P ops C E R Q l a G
section
variable {P:Program} {ops:Array Oper} {C:World→Prop} {E:Oper→Act→Option GSpec} {R:World→World→Prop} {Q:Act→Known→Prop} {o:Oper} {rest:List Oper} {a:Act} {G:Known}
theorem gs_plain (hs:E o a=none)
  (h:∀K:Act→Prop,(∀a,GivS P ops C E R Q rest a G→K a)→if Region.wanted o (yielded ops a.tmps)then(∃v,(∀w,(∃q:Kin C,w=q.x)→o.quietAt P a (fun _=>False) w v)∧K (a.put o.dst v))else K (a.put o.dst undef)):GivS P ops C E R Q (o::rest) a G:=
 ⟨giv_plain hs (fun K hK=>h K (fun a g=>hK a g.out))⟩
theorem gs_skip (hw:Region.wanted o (yielded ops a.tmps)=false) (h:GivS P ops C E R Q rest (a.put o.dst undef) G):GivS P ops C E R Q (o::rest) a G:=⟨giv_skip hw h.out⟩
theorem gs_call (s:GSpec) (hs:E o a=some s) (hw:Region.wanted o (yielded ops a.tmps)=true)
  (h:∀w,Base ops C o G w→givesUpon P R s.V s.F w ((execOp a.eval o).run P w))
  (k:∀u,s.V u→GivS P ops C E R Q rest (a.put o.dst u) ((o,s.F u)::G)):GivS P ops C E R Q (o::rest) a G:=⟨giv_call s hs hw h (fun u hu=>(k u hu).out)⟩
end
theorem gs_end {P:Program} {ops:Array Oper} {C:World→Prop} {E:Oper→Act→Option GSpec} {R:World→World→Prop} {Q:Act→World→Prop} {a:Act} {G:Known} (h:∀w',Has C G w'→Q a w'):GivS P ops C E R (fun a' G=>∀w',Has C G w'→Q a' w') [] a G:=⟨giv_end h⟩
theorem wp_region_gs {P:Program} {C:World→Prop} {E:Oper→Act→Option GSpec} {R:World→World→Prop} (hC:∀x y,C x→R x y→C y) (hE:∀o a s,E o a=some s→∀u x y,s.F u x→R x y→s.F u y)
  {id:Nat} {Q:Exit→Act→World→Prop} {a:Act} {w:World} {l:List Oper} (hA:∀o a dst v,(∀d,dst=some d→d∉o.looksAt l.toArray)→E o (Act.put a dst v)=E o a) (hm:P.follows .mixedOrders=true) (hB:Region.lexB .any l.toArray=true) (h0:C w.drew)
  (h:GivS P l.toArray C E R (fun a' G=>∀w',Has C G w'→Q .normal a' w') l a []):(Code.region id l.toArray true).wp P Q a w:=wp_region_giv hC hE hA hm hB h0 h.out
end Go.Proofs.YtflbcjgkdokhiaaGreatDoor
namespace Go.Proofs.YtflbcjgkdokhiaaGreatDoor
open Go.ChangeShapes Go.WideShapes Go.ChangeAt Go.RowKit
theorem truthC_later {b:Bool} {u:Value} {x y:World} (hx:(truth b).F u x) (_:Later x y):(truth b).F u y:=hx
end Go.Proofs.YtflbcjgkdokhiaaGreatDoor
namespace Go.Proofs.YtflbcjgkdokhiaaGreatDoor
open Go.ChangeShapes Go.WideShapes Go.ChangeAt Go.RowKit
theorem gs_loadS {t:TypeId} {n:Nat} (hS:IsS t n) {ops:Array Oper} {C:World→Prop} {E:Oper→Act→Option GSpec} {R:World→World→Prop} {Q:Act→Known→Prop} {o:Oper} {rest:List Oper} {a:Act} {G:Known} (hs:E o a=none)
  (hw:Region.wanted o (yielded ops a.tmps)=true) (x:Operand) (ho:o.op=.load t x) (g:Nat) (hx:a.eval x=.pointer (some ⟨g,0,none⟩)) (cs:Array Value) (hn:cs.size=n) (hr:∀q:Kin C,StB q.x g t cs)
  (k:GivS Tryz.prog ops C E R Q rest (a.put o.dst (.agg cs)) G):GivS Tryz.prog ops C E R Q (o::rest) a G:=by
 refine gs_plain hs (fun K hK=>?_)
 rw[if_pos hw]
 refine⟨.agg cs,fun w hq=>?_,hK _ k⟩
 obtain⟨q,rfl⟩:=hq
 unfold Oper.quietAt execOp
 simp only[ho,hx,Instr.loadAt,Instr.sureAddr,Sem.run_bind,Sem.run_pure,Result.andThen_ok,load_S hS q.x g cs hn (hr q)]
 simp[Oper.quietUpon]
end Go.Proofs.YtflbcjgkdokhiaaGreatDoor
namespace Go.Proofs.YtflbcjgkdokhiaaGreatDoor
open Go.ChangeShapes Go.WideShapes Go.ChangeAt Go.RowKit
theorem Turned.drew {w w':World} {bs:List Nat} (h:Turned w w' bs):Turned w w'.drew bs:=h.then (Turned.below _ (Below.refl _ _).drew)
theorem CpB.drew {w:World} {g off:Nat} {t:TypeId} {cs:Array Value} {v:Value} {c:Cp} (h:CpB w g off t cs v c):CpB w.drew g off t cs v c:=h.below (Below.refl _ _).drew
theorem CpB.turn {w:World} {g off:Nat} {t:TypeId} {cs:Array Value} {v:Value} {c:Cp} (h:CpB w g off t cs v c) (j:Nat) (hj:j<c.ts.length):
  ∃q cap,v=.slice (some ⟨q,0,none⟩) c.ts.length cap∧q≠g∧c.ts.length≤cap∧cap≤maxLen∧w.cell? ⟨q,j,none⟩=some (.int .i64 (c.ts.getD j 0))∧w.frozen? ⟨q,j,none⟩=false∧
   ∀x:Int,CpB (w.setCell ⟨q,j,none⟩ (.int .i64 x)) g off t cs v {c with ts:=c.ts.set j x}∧Turned w (w.setCell ⟨q,j,none⟩ (.int .i64 x)) (g::v.ownBlock.toList):=by
 obtain⟨ao,cap,rfl⟩:=reads_form h.own.reads
 obtain⟨-,hc1,hc2,hcell⟩:=reads_cells h.own.reads
 obtain⟨q,rfl⟩:∃q,ao=some ⟨q,0,none⟩:=by
  rcases h.own.2 with e|⟨q,cap',cur,e,_⟩
  ·have e1:c.ts.length=0:=e.2
   omega
  ·simp only[Value.slice.injEq]at e
   exact⟨q,e.1⟩
 obtain⟨b,o,e,hx⟩:=hcell j hj
 simp only[Option.some.injEq,Addr.mk.injEq]at e
 obtain⟨rfl,rfl, -⟩:=e
 rw[Nat.zero_add]at hx
 have hne:q≠g:=fun e=>h.ne (by rw[←e];rfl)
 refine⟨q,cap,rfl,hne,hc1,hc2,hx,(h.own.put rfl j hj 0).1,fun x=>?_⟩
 have o:=(h.own.put rfl j hj x).2.2
 exact⟨⟨h.st.other _ _ (fun e=>hne e.symm),h.i0,h.i1,h.i2,h.i3,h.i4,o,h.ne⟩,(Turned.of_grown (grownSet w q j _)).sub (by simp[Value.ownBlock])⟩
end Go.Proofs.YtflbcjgkdokhiaaGreatDoor
namespace Go.Proofs.YtflbcjgkdokhiaaGreatDoor
open Go.ChangeShapes Go.WideShapes Go.ChangeAt Go.RowKit
end Go.Proofs.YtflbcjgkdokhiaaGreatDoor
namespace Go.Proofs.YtflbcjgkdokhiaaGreatDoor
open Go.ChangeShapes Go.WideShapes Go.ChangeAt Go.RowKit
end Go.Proofs.YtflbcjgkdokhiaaGreatDoor
set_option maxRecDepth 20000
set_option maxHeartbeats 1000000
namespace Go.Proofs.YtflbcjgkdokhiaaGreatDoor
open Go.ChangeShapes Go.WideShapes Go.ChangeAt Go.RowKit
theorem icount_any (x:Int) (w:World):
  Calls Tryz.prog 134 #[.int .i64 x] w fun e w'=>e=.returned (.bool (inI x 1 8))∧w'=w:=by
 by_cases h0:1≤x
 ·by_cases h1:x≤8
  ·rw[show inI x 1 8=true by simp[inI,h0,h1]]
   go_enter Tryz.func134,Tryz.ntmps134
   go_wp2
   go_ret
   exact⟨ret_bool (by simp),rfl⟩
  ·rw[show inI x 1 8=false by simp[inI];omega]
   go_enter Tryz.func134,Tryz.ntmps134
   go_wp2
   go_ret
   exact⟨ret_bool (by simp),rfl⟩
 ·rw[show inI x 1 8=false by simp[inI];omega]
  go_enter Tryz.func134,Tryz.ntmps134
  go_wp2
  go_ret
  exact⟨ret_bool (by simp),rfl⟩
theorem itry_any (x:Int) (w:World):
  Calls Tryz.prog 120 #[.int .i64 x] w fun e w'=>e=.returned (.bool (inI x 1 100000))∧w'=w:=by
 by_cases h0:1≤x
 ·by_cases h1:x≤100000
  ·rw[show inI x 1 100000=true by simp[inI,h0,h1]]
   go_enter Tryz.func120,Tryz.ntmps120
   go_wp2
   go_ret
   exact⟨ret_bool (by simp),rfl⟩
  ·rw[show inI x 1 100000=false by simp[inI];omega]
   go_enter Tryz.func120,Tryz.ntmps120
   go_wp2
   go_ret
   exact⟨ret_bool (by simp),rfl⟩
 ·rw[show inI x 1 100000=false by simp[inI];omega]
  go_enter Tryz.func120,Tryz.ntmps120
  go_wp2
  go_ret
  exact⟨ret_bool (by simp),rfl⟩
theorem iturnC_any (x:Int) (w:World):
  Calls Tryz.prog 106 #[.int .i64 x] w fun e w'=>e=.returned (.bool (inI x 0 1000000000))∧w'=w:=by
 by_cases h0:0≤x
 ·by_cases h1:x≤1000000000
  ·rw[show inI x 0 1000000000=true by simp[inI,h0,h1]]
   go_enter Tryz.func106,Tryz.ntmps106
   go_wp2
   go_ret
   exact⟨ret_bool (by simp),rfl⟩
  ·rw[show inI x 0 1000000000=false by simp[inI];omega]
   go_enter Tryz.func106,Tryz.ntmps106
   go_wp2
   go_ret
   exact⟨ret_bool (by simp),rfl⟩
 ·rw[show inI x 0 1000000000=false by simp[inI];omega]
  go_enter Tryz.func106,Tryz.ntmps106
  go_wp2
  go_ret
  exact⟨ret_bool (by simp),rfl⟩
theorem iturns_any (v:Value) (ts:List Int) (w:World) (hr:Reads w v ts) (hl:ts.length≤1099511627776):
  Calls Tryz.prog 121 #[v] w fun e w'=>e=.returned (.bool (turnsI ts&&inI ts.length 1 8))∧w'=w:=by
 have HE:Hid (∀b:Bool,turnsI ts=b→(turnsI ts&&inI ts.length 1 8)=(b&&inI ts.length 1 8)):=fun b h=>by rw[h]
 have HF:Hid (inI ts.length 1 8=false→(turnsI ts&&inI ts.length 1 8)=false):=fun h=>by rw[h,Bool.and_false]
 obtain⟨ao,cap,rfl⟩:=reads_form hr
 obtain⟨-,hc1,hc2,hcell⟩:=reads_cells hr
 have ck:=fun x wx=>iturnC_any x wx
 have cl:=fun wx=>icount_any (ts.length:Int) wx
 obtain⟨x,hx⟩:∃x,x=(turnsI ts&&inI ts.length 1 8):=⟨_,rfl⟩
 simp only[←hx]at HE HF⊢
 obtain⟨y,hy⟩:∃y,y=inI ts.length 1 8:=⟨_,rfl⟩
 simp only[←hy]at HE HF cl
 obtain⟨n,hn⟩:∃n,n=ts.length:=⟨_,rfl⟩
 rw[←hn]at hl hc1 hcell
 simp only[←hn]at cl⊢
 have HN:Hid (n=ts.length):=hn
 unfold maxLen at hc2
 clear hr hn hx hy
 go_enter Tryz.func121,Tryz.ntmps121
 go_wp2_with fail
 refine(cl _).mono ?_
 rintro e w' ⟨rfl,hw⟩;subst w'
 clear cl
 cases y with
 |false=>
  have HX:Hid (x=false):=HF.out rfl
  clear HE HF
  go_wp2
  go_ret
  rw[HX.out]
  exact⟨rfl,rfl⟩
 |true=>
  clear HF
  go_wp2
  go_loop [11] (fun i=>∃j:Nat,j≤n∧i=.int .i64 j∧Hid (turnsI (ts.take j)=true)) (fun i=>n-(intOf i).toNat)
  case atStart=>exact⟨0,Nat.zero_le _,rfl,by simp[Hid,turnsI]⟩
  case round=>
   obtain⟨j,hj,rfl,HT⟩:=hrel
   by_cases hlt:(j:Int)<(n:Int)
   ·obtain⟨b,off,rfl,hcj⟩:=hcell j (by omega)
    clear hcell
    have hjl:j<ts.length:=by have:=HN.out;omega
    have HA:Hid (inI (ts.getD j 0) 0 1000000000=false→turnsI ts=false):=turns_not ts j hjl
    have HZ:Hid (inI (ts.getD j 0) 0 1000000000=true→turnsI (ts.take (j+1))=true):=turns_take ts j hjl HT.out
    have ckj:=fun wx=>ck (ts.getD j 0) wx
    obtain⟨z,hz⟩:∃z,z=ts.getD j 0:=⟨_,rfl⟩
    rw[←hz]at hcj HA HZ
    simp only[←hz]at ckj
    obtain⟨bz,hbz⟩:∃bz,bz=inI z 0 1000000000:=⟨_,rfl⟩
    rw[←hbz]at HA HZ
    simp only[←hbz]at ckj
    clear hz hjl hbz ck
    go_wp2_with fail
    refine(ckj _).mono ?_
    rintro e w' ⟨rfl,hw⟩;subst w'
    cases bz with
    |true=>
     have HZ2:Hid (turnsI (ts.take (j+1))=true):=HZ.out rfl
     clear HZ HA
     go_wp2
     go_round
     case rel=>exact⟨j+1,by omega,by go_num,HZ2.out⟩
     case measure=>simp[intOf];omega
    |false=>
     have HX:Hid (x=false):=by rw[Hid,HE.out false (HA.out rfl)];rfl
     clear HZ HA
     go_wp2
     go_ret
     rw[HX.out]
     exact⟨rfl,rfl⟩
   ·have HX:Hid (x=true):=by
     have:=HT.out
     rw[List.take_of_length_le (by have:=HN.out;omega)]at this
     rw[Hid,HE.out true this];rfl
    clear HT ck
    go_wp2
    go_ret
    rw[HX.out]
    exact⟨rfl,rfl⟩
end Go.Proofs.YtflbcjgkdokhiaaGreatDoor
set_option maxRecDepth 20000
set_option maxHeartbeats 2000000
namespace Go.Proofs.YtflbcjgkdokhiaaGreatDoor
open Go.ChangeShapes Go.WideShapes Go.ChangeAt Go.RowKit
theorem isomany_any (s:Int) (n:Nat) (w:World):
  Calls Tryz.prog 122 #[.int .i64 s,.int .i64 n] w fun e w'=>e=.returned (.bool (inI s 0 (fullI n)))∧w'=w:=by
 have c1:=full_any n w
 have HI:Hid (inI s 0 (fullI n)=(decide (0≤s)&&decide (s≤fullI n))):=rfl
 obtain⟨f,hf⟩:∃f,f=fullI n:=⟨_,rfl⟩
 rw[←hf]at c1 HI⊢
 obtain⟨x,hx⟩:∃x,x=inI s 0 f:=⟨_,rfl⟩
 rw[←hx]at HI⊢
 clear hf hx
 by_cases h0:0≤s
 ·go_enter Tryz.func122,Tryz.ntmps122
  go_wp2_with fail
  refine c1.mono ?_
  rintro e w' ⟨rfl,hw⟩;subst w'
  clear c1
  go_wp2
  go_ret
  exact⟨ret_bool (by rw[HI.out];simp[h0]),rfl⟩
 ·clear c1
  go_enter Tryz.func122,Tryz.ntmps122
  go_wp2
  go_ret
  exact⟨ret_bool (by rw[HI.out,show decide (0≤s)=false from decide_eq_false (by omega),Bool.false_and]),rfl⟩
def Cp.unused (c:Cp):Bool:=decide (c.tr=0)&& !c.op&&decide (c.di=0)&&decide (c.wa=0)&&decide (c.ts.length=0)
theorem Cp.ok_unused {c:Cp} (h:c.unused=true):c.ok=true:=by
 unfold Cp.unused at h
 unfold Cp.ok
 simp only[Bool.and_eq_true,decide_eq_true_eq]at h
 obtain⟨⟨⟨⟨h1,h2⟩,h3⟩,h4⟩,h5⟩:=h
 rw[if_pos h1,h2]
 simp[h3,h4,h5]
theorem Cp.ok_used {c:Cp} (h:c.unused=false):c.ok=(inI c.tr 1 100000&&(turnsI c.ts&&inI c.ts.length 1 8)&&inI c.di 0 (fullI c.ts.length)&&inI c.wa 0 (fullI c.ts.length)):=by
 unfold Cp.ok Cp.mid
 by_cases e:c.tr=0
 ·rw[if_pos e]
  unfold Cp.unused at h
  rw[decide_eq_true e,Bool.true_and]at h
  rw[h]
  have:inI c.tr 1 100000=false:=by rw[e];decide
  rw[this]
  rfl
 ·rw[if_neg e]
  simp only[Bool.and_assoc]
theorem iunused_any (v:Value) (c:Cp) (w:World) (hr:Reads w v c.ts):
  Calls Tryz.prog 100 #[CpV v c] w fun e w'=>e=.returned (.bool c.unused)∧Below w.heap.size w w':=by
 have HE:Hid (c.unused=(decide (c.tr=0)&& !c.op&&decide (c.di=0)&&decide (c.wa=0)&&decide (c.ts.length=0))):=rfl
 obtain⟨ao,cap,rfl⟩:=reads_form hr
 obtain⟨x,hx⟩:∃x,x=c.unused:=⟨_,rfl⟩
 rw[←hx]at HE⊢
 obtain⟨n,hn⟩:∃n,n=c.ts.length:=⟨_,rfl⟩
 unfold CpV cpA
 rw[←hn]at HE⊢
 clear hr hx hn
 by_cases ht:c.tr=0
 ·have e1:(c.tr==0)=true:=by simpa using ht
  cases ho:c.op with
  |true=>
   rw[ho]at HE
   go_enter Tryz.func100,Tryz.ntmps100
   go_wp2
   go_ret
   exact⟨ret_bool (by rw[HE.out];simp),(Below.refl _ _).alloc (Nat.le_refl _) _⟩
  |false=>
   rw[ho]at HE
   by_cases hd:c.di=0
   ·have e2:(c.di==0)=true:=by simpa using hd
    by_cases hw:c.wa=0
    ·have e3:(c.wa==0)=true:=by simpa using hw
     by_cases hn0:(n:Int)=0
     ·have e4:((n:Int)==0)=true:=by simpa using hn0
      go_enter Tryz.func100,Tryz.ntmps100
      go_wp2
      go_ret
      exact⟨ret_bool (by rw[HE.out];simp[ht,hd,hw,(by omega:n=0)]),(Below.refl _ _).alloc (Nat.le_refl _) _⟩
     ·have e4:((n:Int)==0)=false:=by simpa using hn0
      go_enter Tryz.func100,Tryz.ntmps100
      go_wp2
      go_ret
      exact⟨ret_bool (by rw[HE.out,show decide (n=0)=false from decide_eq_false (by omega),Bool.and_false]),(Below.refl _ _).alloc (Nat.le_refl _) _⟩
    ·have e3:(c.wa==0)=false:=by simpa using hw
     go_enter Tryz.func100,Tryz.ntmps100
     go_wp2
     go_ret
     exact⟨ret_bool (by rw[HE.out];simp[hw]),(Below.refl _ _).alloc (Nat.le_refl _) _⟩
   ·have e2:(c.di==0)=false:=by simpa using hd
    go_enter Tryz.func100,Tryz.ntmps100
    go_wp2
    go_ret
    exact⟨ret_bool (by rw[HE.out];simp[hd]),(Below.refl _ _).alloc (Nat.le_refl _) _⟩
 ·have e1:(c.tr==0)=false:=by simpa using ht
  go_enter Tryz.func100,Tryz.ntmps100
  go_wp2
  go_ret
  exact⟨ret_bool (by rw[HE.out];simp[ht]),(Below.refl _ _).alloc (Nat.le_refl _) _⟩
theorem icopok_any (v:Value) (c:Cp) (w:World) (hr:Reads w v c.ts) (hl:c.ts.length≤1099511627776):
  Calls Tryz.prog 101 #[CpV v c] w fun e w'=>e=.returned (.bool c.ok)∧Below w.heap.size w w':=by
 have HU:Hid (c.unused=true→c.ok=true):=Cp.ok_unused
 have HE:Hid (c.unused=false→c.ok=(inI c.tr 1 100000&&(turnsI c.ts&&inI c.ts.length 1 8)&&inI c.di 0 (fullI c.ts.length)&&inI c.wa 0 (fullI c.ts.length))):=Cp.ok_used
 obtain⟨w1,hw1⟩:∃w1,w1=w.alloc (.cells (cpA v c) 52):=⟨_,rfl⟩
 have H1:StB w1 w.heap.size 52 (cpA v c):=by rw[hw1];exact StB.new _ _ _
 have B1:Below w.heap.size w w1:=by rw[hw1];exact(Below.refl _ _).alloc (Nat.le_refl _) _
 have cu:=iunused_any v c w1 (hr.below B1 (Nat.le_refl _))
 have HR:Hid (∀w2,Below w1.heap.size w1 w2→Reads w2 v c.ts):=fun w2 b=>(hr.below B1 (Nat.le_refl _)).below b (Nat.le_refl _)
 have HS:Hid (∀w2,Below w1.heap.size w1 w2→StB w2 w.heap.size 52 (cpA v c)∧Below w.heap.size w w2):=fun w2 b=>⟨H1.below b,B1.trans (b.mono B1.size)⟩
 obtain⟨ao,cap,rfl⟩:=reads_form hr
 have HW:Hid (w1=w.alloc (.cells #[.int .i64 c.tr,.bool c.op,.int .i64 c.di,.int .i64 c.wa,.slice ao c.ts.length cap] 52)):=hw1
 have k0:w1.cell? ⟨w.heap.size,0,none⟩=some (.int .i64 c.tr):=H1.cell 0 rfl
 have k1:w1.cell? ⟨w.heap.size,1,none⟩=some (.bool c.op):=H1.cell 1 rfl
 have k2:w1.cell? ⟨w.heap.size,2,none⟩=some (.int .i64 c.di):=H1.cell 2 rfl
 have k3:w1.cell? ⟨w.heap.size,3,none⟩=some (.int .i64 c.wa):=H1.cell 3 rfl
 have k4:w1.cell? ⟨w.heap.size,4,none⟩=some (.slice ao c.ts.length cap):=H1.cell 4 rfl
 have ct:=fun wx=>itry_any c.tr wx
 have cs:=fun wx h=>iturns_any (.slice ao c.ts.length cap) c.ts wx h hl
 have cd:=fun wx=>isomany_any c.di c.ts.length wx
 have cw:=fun wx=>isomany_any c.wa c.ts.length wx
 obtain⟨x,hx⟩:∃x,x=c.ok:=⟨_,rfl⟩
 rw[←hx]at HE HU⊢
 obtain⟨bu,hbu⟩:∃bu,bu=c.unused:=⟨_,rfl⟩
 rw[←hbu]at HE HU cu
 obtain⟨bt,hbt⟩:∃bt,bt=inI c.tr 1 100000:=⟨_,rfl⟩
 rw[←hbt]at HE
 simp only[←hbt]at ct
 obtain⟨bs,hbs⟩:∃bs,bs=(turnsI c.ts&&inI c.ts.length 1 8):=⟨_,rfl⟩
 rw[←hbs]at HE
 simp only[←hbs]at cs
 obtain⟨bd,hbd⟩:∃bd,bd=inI c.di 0 (fullI c.ts.length):=⟨_,rfl⟩
 rw[←hbd]at HE
 simp only[←hbd]at cd
 obtain⟨bw,hbw⟩:∃bw,bw=inI c.wa 0 (fullI c.ts.length):=⟨_,rfl⟩
 rw[←hbw]at HE
 simp only[←hbw]at cw
 have HCS:Hid _:=cs
 unfold CpV cpA at cu⊢
 clear hw1 H1 hr hx hbu hbt hbs hbd hbw B1 cs
 go_enter Tryz.func101,Tryz.ntmps101
 go_wp2_with fail
 rw[←HW.out]
 refine cu.mono ?_
 rintro e w2 ⟨rfl,b2⟩
 clear HW cu k0 k1 k2 k3 k4
 have HB:Hid (Below w.heap.size w w2):=(HS.out w2 b2).2
 have H2:=(HS.out w2 b2).1
 have cs:=HCS.out w2 (HR.out w2 b2)
 have k0:w2.cell? ⟨w.heap.size,0,none⟩=some (.int .i64 c.tr):=H2.cell 0 rfl
 have k2:w2.cell? ⟨w.heap.size,2,none⟩=some (.int .i64 c.di):=H2.cell 2 rfl
 have k3:w2.cell? ⟨w.heap.size,3,none⟩=some (.int .i64 c.wa):=H2.cell 3 rfl
 have k4:w2.cell? ⟨w.heap.size,4,none⟩=some (.slice ao c.ts.length cap):=H2.cell 4 rfl
 clear HCS HS HR H2 b2
 cases bu with
 |true=>
  have HX:Hid (x=true):=HU.out rfl
  clear HU HE
  go_wp2
  go_ret
  exact⟨ret_bool (by rw[HX.out]),HB.out⟩
 |false=>
  have HX:Hid (x=(bt&&bs&&bd&&bw)):=HE.out rfl
  clear HU HE
  go_wp2_with fail
  refine(ct _).mono ?_
  rintro e w' ⟨rfl,hw⟩;subst w'
  clear ct
  cases bt with
  |false=>
   go_wp2
   go_ret
   exact⟨ret_bool (by rw[HX.out];rfl),HB.out⟩
  |true=>
   go_wp2_with fail
   refine cs.mono ?_
   rintro e w' ⟨rfl,hw⟩;subst w'
   clear cs
   cases bs with
   |false=>
    go_wp2
    go_ret
    exact⟨ret_bool (by rw[HX.out];rfl),HB.out⟩
   |true=>
    go_wp2_with fail
    refine(cd _).mono ?_
    rintro e w' ⟨rfl,hw⟩;subst w'
    clear cd
    cases bd with
    |false=>
     go_wp2
     go_ret
     exact⟨ret_bool (by rw[HX.out];rfl),HB.out⟩
    |true=>
     go_wp2_with fail
     refine(cw _).mono ?_
     rintro e w' ⟨rfl,hw⟩;subst w'
     clear cw
     go_wp2
     go_ret
     exact⟨ret_bool (by rw[HX.out];rfl),HB.out⟩
end Go.Proofs.YtflbcjgkdokhiaaGreatDoor
