/- Houses by the program: NodeOk. -/
import Derived.Test.YtflbcjgkdokhiaaGreatDoorINodeA
import Derived.Test.YtflbcjgkdokhiaaGreatDoorM23
import Derived.Test.YtflbcjgkdokhiaaGreatDoorLNode2
import Derived.Test.YtflbcjgkdokhiaaGreatDoorM1
import Derived.Below
import Derived.Laws.Tables
import Derived.Laws.ResultCell
import Derived.Test.YtflbcjgkdokhiaaGreatDoorM3
import Derived.Test.YtflbcjgkdokhiaaGreatDoorM6
import Derived.Deep.DeepCutAuto
set_option maxRecDepth 20000
set_option maxHeartbeats 4000000
namespace Go.Proofs.YtflbcjgkdokhiaaGreatDoor
open Go.ChangeShapes Go.WideShapes Go.ChangeAt Go.RowKit
theorem wpList_getSG {t:TypeId} {n:Nat} (hS:IsS t n) {ops:Array Oper} {rest:List Oper} {o:Oper} {a:Act} {w:World} {Q:Exit→Act→World→Prop} (hw:Region.wanted o (yielded ops a.tmps)=true) (x:Operand) (ho:o.op=.load t x)
  (g:Nat) (hx:a.eval x=.pointer (some ⟨g,0,none⟩)) (cs:Array Value) (hn:cs.size=n) (hr:StB w g t cs)
  (h:wpList Tryz.prog ops Q rest (a.put o.dst (.agg cs)) w):wpList Tryz.prog ops Q (o::rest) a w:=by
 obtain⟨⟨fs,hu⟩,hi⟩:=hS
 exact wpList_step fun K hK=>by rw[if_pos hw];exact wp_load_row _ x ho g hx _ _ _ _ hr hu rfl (by rw[hi,hn]) (hK _ _ h)
theorem inodeok_any (a b k q z:Value) (n:Nd) (w:World) (hr:RdN w a b k q z n) (hl:SmN n) (ht:Tab w):
  Calls Tryz.prog 59 #[NdV a b k q z n] w fun e w'=>e=.returned (.bool n.ok)∧Below w.heap.size w w':=by
 have HE:Hid (n.ok=(inI n.id 0 1&&(Sr.ok ⟨n.xs,n.ys,n.h⟩&&(n.logP&&(n.copP&&n.snkP))))):=Nd.ok_prog n
 obtain⟨w1,hw1⟩:∃w1,w1=w.alloc (.cells (ndA a b k q z n) 56):=⟨_,rfl⟩
 have S1:Hid (StB w1 w.heap.size 56 (ndA a b k q z n)):=by rw[hw1];exact StB.new _ _ _
 have HB:Hid (Below w.heap.size w w1):=by rw[hw1];exact(Below.refl _ _).alloc (Nat.le_refl _) _
 have HR:Hid (∀wx,Below w.heap.size w wx→RdN wx a b k q z n):=fun wx B=>hr.below B
 have HT:Hid (∀wx,Below w.heap.size w wx→Tab wx):=fun wx B=>ht.below B
 have C0:Hid (∀wx,Calls Tryz.prog 83 #[.int .i64 n.id] wx fun e w'=>e=.returned (.bool (inI n.id 0 1))∧w'=wx):=fun wx=>iidok_any n.id wx
 have C1:Hid (∀wx,Below w.heap.size w wx→Calls Tryz.prog 85 #[NdV a b k q z n] wx fun e w'=>e=.returned (SRV a b k n.h)∧Below wx.heap.size wx w'):=fun wx B=>istoreof_any a b k q z n wx (HR.out wx B)
 have C2:Hid (∀wx,Below w.heap.size w wx→Calls Tryz.prog 84 #[SRV a b k n.h] wx fun e w'=>e=.returned (.bool (Sr.ok ⟨n.xs,n.ys,n.h⟩))∧Below wx.heap.size wx w'):=fun wx B=>istoreok_any a b k n.xs n.ys n.h wx (HR.out wx B).ra (HR.out wx B).rb (HR.out wx B).rk (by have:=hl.la;omega) (by have:=hl.lb;omega) (by have:=hl.lk;omega)
 have C3:Hid (∀wx,Below w.heap.size w wx→Calls Tryz.prog 86 #[NdV a b k q z n] wx fun e w'=>e=.returned (.bool n.logP)∧Below wx.heap.size wx w'):=fun wx B=>ilogok_any a b k q z n wx (HR.out wx B) hl.ll (HT.out wx B)
 have C4:Hid (∀wx,Below w.heap.size w wx→Calls Tryz.prog 87 #[NdV a b k q z n] wx fun e w'=>e=.returned (.bool n.copP)∧Below wx.heap.size wx w'):=fun wx B=>incopok_any a b k q z n wx (HR.out wx B) hl
 have C5:Hid (∀wx,Below w.heap.size w wx→Calls Tryz.prog 88 #[NdV a b k q z n] wx fun e w'=>e=.returned (.bool n.snkP)∧Below wx.heap.size wx w'):=fun wx B=>insnkok_any a b k q z n wx (HR.out wx B) hl
 obtain⟨y0,hy0⟩:∃y0,y0=inI n.id 0 1:=⟨_,rfl⟩
 rw[←hy0]at HE
 simp only[←hy0]at C0
 clear hy0
 obtain⟨y1,hy1⟩:∃y1,y1=Sr.ok ⟨n.xs,n.ys,n.h⟩:=⟨_,rfl⟩
 rw[←hy1]at HE
 simp only[←hy1]at C2
 clear hy1
 obtain⟨y2,hy2⟩:∃y2,y2=n.logP:=⟨_,rfl⟩
 rw[←hy2]at HE
 simp only[←hy2]at C3
 clear hy2
 obtain⟨y3,hy3⟩:∃y3,y3=n.copP:=⟨_,rfl⟩
 rw[←hy3]at HE
 simp only[←hy3]at C4
 clear hy3
 obtain⟨y4,hy4⟩:∃y4,y4=n.snkP:=⟨_,rfl⟩
 rw[←hy4]at HE
 simp only[←hy4]at C5
 clear hy4
 obtain⟨y,hy⟩:∃y,y=n.ok:=⟨_,rfl⟩
 rw[←hy]at HE⊢
 clear hy hl ht HT
 obtain⟨ao,ac,rfl⟩:=reads_form hr.ra
 obtain⟨bo,bc,rfl⟩:=reads_form hr.rb
 obtain⟨ko,kc,rfl⟩:=reads_form hr.rk
 obtain⟨qo,qc,rfl⟩:=reads_form hr.rq
 obtain⟨zo,zc,rfl⟩:=reads_form hr.rz
 clear hr HR
 unfold SRV srA at C1 C2
 unfold NdV at C1 C3 C4 C5
 unfold ndA S at hw1
 unfold NdV
 conv in ndA (.slice ao n.xs.length ac) _ _ _ _ _=>unfold ndA S
 go_enter Tryz.func59,Tryz.ntmps59
 go_upto_region 1 with fail
 rw[←hw1]
 clear hw1
 have p0:w1.cell? ⟨w.heap.size,0,none⟩=some (.int .i64 n.id):=S1.out.cell 0 rfl
 go_wp2_with fail
 refine(C0.out w1).mono ?_
 rintro e w' ⟨rfl,hw⟩;subst w'
 clear C0 p0
 cases y0 with
 |false=>
  go_wp2
  go_ret
  exact⟨ret_bool (by rw[HE.out];simp),HB.out⟩
 |true=>
  go_wp2_with (refine wpList_getSG Tryz.isNd rfl _ rfl w.heap.size rfl (ndA (.slice ao n.xs.length ac) (.slice bo n.ys.length bc) (.slice ko n.h.ks.length kc) (.slice qo n.c.ts.length qc) (.slice zo n.s.ts.length zc) n) rfl S1.out ?_)
  refine(C1.out w1 HB.out).mono ?_
  rintro e w2 ⟨rfl,bx⟩
  replace S1:Hid (StB w2 w.heap.size 56 (ndA (.slice ao n.xs.length ac) (.slice bo n.ys.length bc) (.slice ko n.h.ks.length kc) (.slice qo n.c.ts.length qc) (.slice zo n.s.ts.length zc) n)):=S1.out.below bx
  replace HB:Hid (Below w.heap.size w w2):=HB.out.trans (bx.mono HB.out.size)
  clear bx C1
  go_wp2_with fail
  refine(C2.out w2 HB.out).mono ?_
  rintro e w3 ⟨rfl,bx⟩
  replace S1:Hid (StB w3 w.heap.size 56 (ndA (.slice ao n.xs.length ac) (.slice bo n.ys.length bc) (.slice ko n.h.ks.length kc) (.slice qo n.c.ts.length qc) (.slice zo n.s.ts.length zc) n)):=S1.out.below bx
  replace HB:Hid (Below w.heap.size w w3):=HB.out.trans (bx.mono HB.out.size)
  clear bx C2
  cases y1 with
  |false=>
   go_wp2
   go_ret
   exact⟨ret_bool (by rw[HE.out];simp),HB.out⟩
  |true=>
   go_wp2_with (refine wpList_getSG Tryz.isNd rfl _ rfl w.heap.size rfl (ndA (.slice ao n.xs.length ac) (.slice bo n.ys.length bc) (.slice ko n.h.ks.length kc) (.slice qo n.c.ts.length qc) (.slice zo n.s.ts.length zc) n) rfl S1.out ?_)
   refine(C3.out w3 HB.out).mono ?_
   rintro e w4 ⟨rfl,bx⟩
   replace S1:Hid (StB w4 w.heap.size 56 (ndA (.slice ao n.xs.length ac) (.slice bo n.ys.length bc) (.slice ko n.h.ks.length kc) (.slice qo n.c.ts.length qc) (.slice zo n.s.ts.length zc) n)):=S1.out.below bx
   replace HB:Hid (Below w.heap.size w w4):=HB.out.trans (bx.mono HB.out.size)
   clear bx C3
   cases y2 with
   |false=>
    go_wp2
    go_ret
    exact⟨ret_bool (by rw[HE.out];simp),HB.out⟩
   |true=>
    go_wp2_with (refine wpList_getSG Tryz.isNd rfl _ rfl w.heap.size rfl (ndA (.slice ao n.xs.length ac) (.slice bo n.ys.length bc) (.slice ko n.h.ks.length kc) (.slice qo n.c.ts.length qc) (.slice zo n.s.ts.length zc) n) rfl S1.out ?_)
    refine(C4.out w4 HB.out).mono ?_
    rintro e w5 ⟨rfl,bx⟩
    replace S1:Hid (StB w5 w.heap.size 56 (ndA (.slice ao n.xs.length ac) (.slice bo n.ys.length bc) (.slice ko n.h.ks.length kc) (.slice qo n.c.ts.length qc) (.slice zo n.s.ts.length zc) n)):=S1.out.below bx
    replace HB:Hid (Below w.heap.size w w5):=HB.out.trans (bx.mono HB.out.size)
    clear bx C4
    cases y3 with
    |false=>
     go_wp2
     go_ret
     exact⟨ret_bool (by rw[HE.out];simp),HB.out⟩
    |true=>
     go_wp2_with (refine wpList_getSG Tryz.isNd rfl _ rfl w.heap.size rfl (ndA (.slice ao n.xs.length ac) (.slice bo n.ys.length bc) (.slice ko n.h.ks.length kc) (.slice qo n.c.ts.length qc) (.slice zo n.s.ts.length zc) n) rfl S1.out ?_)
     refine(C5.out w5 HB.out).mono ?_
     rintro e w6 ⟨rfl,bx⟩
     replace S1:Hid (StB w6 w.heap.size 56 (ndA (.slice ao n.xs.length ac) (.slice bo n.ys.length bc) (.slice ko n.h.ks.length kc) (.slice qo n.c.ts.length qc) (.slice zo n.s.ts.length zc) n)):=S1.out.below bx
     replace HB:Hid (Below w.heap.size w w6):=HB.out.trans (bx.mono HB.out.size)
     clear bx C5
     go_wp2
     go_ret
     exact⟨ret_bool (by rw[HE.out];simp),HB.out⟩
end Go.Proofs.YtflbcjgkdokhiaaGreatDoor
namespace Go.Proofs.YtflbcjgkdokhiaaGreatDoor
open Go.ChangeShapes Go.WideShapes Go.ChangeAt Go.RowKit
def Fine (m:Nd):Prop:=m=Nd.zero∨NdR m
theorem NdR.lens {n:Nd} (h:NdR n):n.xs.length≤8∧n.ys.length≤8∧n.h.ks.length=4∧n.c.ts.length≤8∧n.s.ts.length≤8∧n.log.length≤40000:=by
 obtain⟨k1,k2,k3⟩:=bothOk_yes h.dk
 refine⟨(blocksOk_len k1).2,(blocksOk_len k2).2,Hd.ok_len h.h,?_,?_,h.ll⟩
 ·cases hc:n.c.unused with
  |true=>
   unfold Cp.unused at hc
   simp only[Bool.and_eq_true,decide_eq_true_eq]at hc
   omega
  |false=>
   have:=h.c
   rw[Cp.ok_used hc]at this
   simp only[Bool.and_eq_true,inI,decide_eq_true_eq]at this
   omega
 ·cases hc:n.s.unused with
  |true=>
   unfold Sn.unused at hc
   simp only[Bool.and_eq_true,decide_eq_true_eq]at hc
   omega
  |false=>
   have:=h.s
   rw[Sn.ok_used hc]at this
   simp only[Bool.and_eq_true,inI,decide_eq_true_eq]at this
   omega
theorem Fine.len {m:Nd} (h:Fine m):m.len≤1048576:=by
 rcases h with rfl|h
 ·decide
 ·have:=h.lens
  unfold Nd.len
  omega
theorem Fine.rise (n:Nd):Fine n.Rise.1:=by
 unfold Nd.Rise
 split
 ·rename_i ok
  exact .inr ((Nd.ok_iff n).1 ok).rise.1
 ·exact .inl rfl
theorem Tryz.isLNd:IsS 68 20:=⟨⟨_,Tryz.underlying68⟩,by kernel_rfl⟩
theorem SmN.of {n:Nd} (h:n.len+n.log.length≤1048576):SmN n:=by
 unfold Nd.len at h
 exact⟨by omega,by omega,by omega,by omega,by omega,by omega⟩
theorem Sta.varS {w wx wy:World} {L:List Item} {t:TypeId} {cs ds:Array Value} (h:Sta w wx L) (s:StB wy wx.heap.size t cs) (G:(wx.alloc (.cells ds t)).grownBy wy (some wx.heap.size)):Sta w wy (Blk wx.heap.size t cs::L):=by
 have b:Below wx.heap.size wx wy:=((Below.refl _ _).alloc (Nat.le_refl _) _).grown G (by simp) (fun k e=>by cases e;omega)
 refine h.add b (Blk wx.heap.size t cs) s (fun k hk=>?_)
 simp only[Blk,List.mem_singleton]at hk
 subst hk
 exact⟨Nat.le_refl _,s.lt⟩
end Go.Proofs.YtflbcjgkdokhiaaGreatDoor
namespace Go.Proofs.YtflbcjgkdokhiaaGreatDoor
open Go.ChangeShapes Go.WideShapes Go.ChangeAt Go.RowKit
def cmA (c:Cm):Array Value:=#[.int .i64 c.o,.int .i64 c.p,.int .i64 c.a,.int .i64 c.b,.int .i64 c.k]
def CmB (w:World) (g:Nat) (t:TypeId) (c:Cm):Prop:=w.heap[g]?=some (.cells (cmA c) t (0,0))
theorem CmB.lt {w:World} {g:Nat} {t:TypeId} {c:Cm} (h:CmB w g t c):g<w.heap.size:=by
 rcases Nat.lt_or_ge g w.heap.size with hlt|hge
 ·exact hlt
 ·rw[CmB,Array.getElem?_eq_none hge]at h;cases h
theorem CmB.new (w:World) (t:TypeId) (c:Cm):CmB (w.alloc (.cells (cmA c) t)) w.heap.size t c:=heap_alloc_new w _
theorem CmB.below {w w':World} {g:Nat} {t:TypeId} {c:Cm} (h:CmB w g t c) (hb:Below w.heap.size w w'):CmB w' g t c:=(hb.block g h.lt).trans h
theorem CmB.kept {w w':World} {g:Nat} {t:TypeId} {c:Cm} {row:Option Nat} (h:CmB w g t c) (hg:w.grownBy w' row) (hne:some g≠row):CmB w' g t c:=(hg.block g h.lt hne).trans h
theorem CmB.alloc {w:World} {g:Nat} {t:TypeId} {c:Cm} (h:CmB w g t c) (o:Obj):CmB (w.alloc o) g t c:=(Below.heap_alloc w o g h.lt).trans h
theorem CmB.cell {w:World} {g:Nat} {t:TypeId} {c:Cm} (h:CmB w g t c) (j:Nat) {x:Value} (e:(cmA c)[j]?=some x):w.cell? ⟨g,j,none⟩=some x:=by rw[cell_of_row w g j _ _ _ h,e]
end Go.Proofs.YtflbcjgkdokhiaaGreatDoor
namespace Go.Proofs.YtflbcjgkdokhiaaGreatDoor
open Go.ChangeShapes Go.WideShapes Go.ChangeAt Go.RowKit
theorem Tryz.isA:IsS 80 2:=⟨⟨_,Tryz.underlying80⟩,by kernel_rfl⟩
theorem anA_one (x:An):(anA x).all (·.oneCell')=true:=by simp[anA,S,Value.oneCell']
structure Vl (w wx:World) (u v:Value) (c:Cm) (d:Array Value) (x:An):Prop where
 dk:StB wx w.heap.size 46 #[u,v]
 cm:CmB wx (w.heap.size+1) 227 c
 rd:StB wx (w.heap.size+1+1) 46 d
 ra:StB wx (w.heap.size+1+1+1) 80 (anA x)
 bl:Below w.heap.size w wx
 sz:w.heap.size+4≤wx.heap.size
theorem Vl.next {w wx wy:World} {u v:Value} {c:Cm} {d:Array Value} {x:An} (h:Vl w wx u v c d x) (b:Below wx.heap.size wx wy):Vl w wy u v c d x:=
 ⟨h.dk.below b,h.cm.below b,h.rd.below b,h.ra.below b,h.bl.trans (b.mono h.bl.size),Nat.le_trans h.sz b.size⟩
theorem Vl.grown {w wx wy:World} {u v:Value} {c:Cm} {d:Array Value} {x:An} {g:Nat} (h:Vl w wx u v c d x) (b:wx.grownBy wy (some g)) (hg:w.heap.size+4≤g):Vl w wy u v c d x:=
 ⟨h.dk.kept b (by simp;omega),h.cm.kept b (by simp;omega),h.rd.kept b (by simp;omega),h.ra.kept b (by simp;omega),h.bl.grown b h.bl.size (fun k e=>by cases e;omega),Nat.le_trans h.sz b.size⟩
theorem Vl.drew {w wx:World} {u v:Value} {c:Cm} {d:Array Value} {x:An} (h:Vl w wx u v c d x):Vl w wx.drew u v c d x:=
 ⟨h.dk,h.cm,h.rd,h.ra,h.bl.drew,h.sz⟩
end Go.Proofs.YtflbcjgkdokhiaaGreatDoor
set_option maxRecDepth 20000
set_option maxHeartbeats 1000000
namespace Go.Proofs.YtflbcjgkdokhiaaGreatDoor
open Go.ChangeShapes Go.WideShapes Go.ChangeAt Go.RowKit
theorem eqAnswer_self (x:An) (w:World):
  Calls Tryz.prog 67 #[AV x,AV x] w fun e w'=>e=.returned (.bool true)∧Below w.heap.size w w':=by
 obtain⟨st,tx⟩:=x
 have hb:Hid (Below w.heap.size w ((w.alloc (.cells (anA ⟨st,tx⟩) 80)).alloc (.cells (anA ⟨st,tx⟩) 80))):=((Below.refl _ _).alloc (Nat.le_refl _) _).alloc (by simp) _
 have e1:(st !=st)=false:=by simp
 have e2:(tx==tx)=true:=by simp
 unfold AV anA S at*
 dsimp only at*
 go_enter Tryz.func67,Tryz.ntmps67
 go_wp2
 go_ret
 exact⟨rfl,hb.out⟩
end Go.Proofs.YtflbcjgkdokhiaaGreatDoor
