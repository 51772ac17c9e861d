/- At every pair Owned of the program answers as Owned of the model, in memory of its own that a second call leaves alone, and leaves what it was given as it was: the law FnExactOwned returns true, whatever it is given. -/
import Derived.Test.YthmnmaemnihkeaaGreatDoorRows
import Derived.WalkKit
import Derived.ProofKit
import Derived.OpenShut
import Derived.ShutString
import Derived.ChangeOld
import Derived.Below
import Derived.Test.YthmnmaemnihkeaaGreatDoorM30
import Derived.Test.YthmnmaemnihkeaaGreatDoorM32
import Derived.Test.YthmnmaemnihkeaaGreatDoorM35
import Derived.Test.YthmnmaemnihkeaaGreatDoorM37
import Derived.Test.YthmnmaemnihkeaaGreatDoorM33
import Derived.Test.YthmnmaemnihkeaaGreatDoorCards
import Derived.Test.YthmnmaemnihkeaaGreatDoorTie
import Derived.SevenTiedAt
import Derived.Lay
import Derived.LaidOnce
set_option maxRecDepth 100000
set_option maxHeartbeats 20000000
namespace Go.Proofs.YthmnmaemnihkeaaGreatDoor.fnExactOwned
open Go.ChangeShapes Go.WideShapes Go.ChangeAt Go.RowKit
open Go.ChangeMaps (open_string shut_string)
set_option linter.unusedVariables false
theorem own:ownKnob Tryz.prog.godebug=none:=by kernel_rfl
theorem laidOut:laidOutB Tryz.prog=true:=by kernel_rfl
theorem walk (ns0:List Nv) (ps0:List (Value×Mg)) (es0:List Ev) (u0 v0 x0:Value) (w:World) (f0:OpPr w u0 v0 x0 ns0 ps0 es0) (hT:Tab w):
  Calls Tryz.prog 3 #[PrV u0 v0 x0] w fun e w'=>e=.returned (.bool true)∧Below w.heap.size w w':=by
 have HTab:Hid (Tab w):=hT
 clear hT
 have HR:Hid (∀wx,Below w.heap.size w wx→RdPr wx u0 v0 x0 ns0 ps0 es0):=fun wx b=>f0.rd.below b
 have CZ:Hid (∀wx,Below w.heap.size w wx→Calls Tryz.prog 4 #[.agg (prA u0 v0 x0),.int .i64 1048576] wx fun e w'=>∃y:Int,e=.returned (.int .i64 y)∧(y= -1∨(0≤y∧SmPr ns0 ps0 es0))∧Below wx.heap.size wx w'):=fun wx b=>szPair_any u0 v0 x0 ns0 ps0 es0 wx (HR.out wx b) (fun y hy=>by have:=f0.ln y hy;unfold maxLen at this;omega) (fun e he=>by have:=f0.le e he;unfold maxLen at this;omega)
 have TP:Hid (SmPr ns0 ps0 es0→∀wx,Below w.heap.size w wx→Calls Tryz.prog 6 #[.agg (prA u0 v0 x0)] wx fun e w'=>∃a b x ns ps,e=.returned (.agg (prA a b x))∧nsOf ns=nsOf ns0∧msOf ps=msOf ps0∧OwnPr w' wx.heap.size a b x ns ps es0∧Below wx.heap.size wx w'):=fun hs wx b=>toPair_any u0 v0 x0 ns0 ps0 es0 wx (HR.out wx b) hs
 obtain⟨D,hD⟩:∃D,D=ownedP (nsOf ns0) (msOf ps0) es0:=⟨_,rfl⟩
 have HD:Hid (D=ownedP (nsOf ns0) (msOf ps0) es0):=hD
 clear hD
 obtain⟨ks,zs,hh⟩:=D
 have sK:Hid (SmPr ns0 ps0 es0→ks.length≤1048576∧zs.length≤1048576∧hh.ks.length≤1048576):=fun hs=>by
  have h:=ownedP_len (ps:=ps0) (es:=es0) hs.sn
  rw[←HD.out]at h
  exact h
 have SP:Hid (SmPr ns0 ps0 es0→∀a b x ns ps wx,RdPr wx a b x ns ps es0→nsOf ns=nsOf ns0→msOf ps=msOf ps0→Calls Tryz.prog 5 #[.agg (prA a b x)] wx fun e w'=>∃a b k,e=.returned (.agg #[a,b,k,.int .i64 hh.kd,.int .i64 hh.ho,.int .i64 hh.tu])∧OwnR w' wx.heap.size a b k ks zs hh.ks∧Below wx.heap.size wx w'):=fun hs a b x ns ps wx h e1 e2=>by
  have h':=sOwned_any a b x ns ps es0 wx h (hs.of e1 e2).sn (hs.of e1 e2).sp
  rw[e1,e2,←HD.out]at h'
  exact h'
 have IP:Hid (SmPr ns0 ps0 es0→∀a b x ns ps wx,Below w.heap.size w wx→RdPr wx a b x ns ps es0→nsOf ns=nsOf ns0→msOf ps=msOf ps0→Calls Tryz.prog 7 #[.agg (prA a b x)] wx fun e w'=>∃a b k,e=.returned (.agg #[a,b,k,.int .i64 hh.kd,.int .i64 hh.ho,.int .i64 hh.tu])∧OwnR w' wx.heap.size a b k ks zs hh.ks∧Below wx.heap.size wx w'):=fun hs a b x ns ps wx hb h e1 e2=>by
  have h':=iOwned_any a b x ns ps es0 wx h (hs.of e1 e2).sn (hs.of e1 e2).sp (HTab.out.below hb)
  rw[e1,e2,←HD.out]at h'
  exact h'
 have EQ:Hid (SmPr ns0 ps0 es0→∀a b x ns ps a2 b2 x2 ns2 ps2 wx,RdPr wx a b x ns ps es0→RdPr wx a2 b2 x2 ns2 ps2 es0→nsOf ns=nsOf ns0→msOf ps=msOf ps0→nsOf ns2=nsOf ns0→msOf ps2=msOf ps0→Calls Tryz.prog 9 #[.agg (prA a b x),.agg (prA a2 b2 x2)] wx fun e w'=>e=.returned (.bool true)∧Below wx.heap.size wx w'):=fun hs a b x ns ps a2 b2 x2 ns2 ps2 wx h h2 e1 e2 e3 e4=>eqPair_any a b x a2 b2 x2 ns ns2 ps ps2 es0 wx h h2 (e1.trans e3.symm) (e2.trans e4.symm) (hs.of e1 e2)
 have MK:Hid (SmPr ns0 ps0 es0→∀a b x ns ps wx,OwnPr wx 0 a b x ns ps es0→nsOf ns=nsOf ns0→msOf ps=msOf ps0→Calls Tryz.prog 10 #[.agg (prA a b x),.int .i64 1] wx fun e w'=>∃y:Int,e=.returned (.int .i64 y)∧0≤y∧(∃m n,OwnPr w' 0 a b x (inkNL 1 ns) (inkL m ps) (inkEL n es0))∧Turned wx w' (nvB a ns++(psB b ps++blk x))):=fun hs a b x ns ps wx h e1 e2=>
  (markPair_any a b x ns ps es0 wx 0 h (BdPr.of (hs.of e1 e2))).mono fun _ _ ⟨he,ho,ht⟩=>⟨_,he,inkPE_pos _ _ _,⟨_,_,ho⟩,ht⟩
 clear HD
 obtain⟨uo,uc,rfl⟩:=f0.rd.rn.form
 obtain⟨vo,vc,rfl⟩:=f0.rd.rp.form
 obtain⟨xo,xc,rfl⟩:=f0.rd.re.form
 obtain⟨w1,hw1⟩:∃w1,w1=w.alloc (.cells (prA (.slice uo ns0.length uc) (.slice vo ps0.length vc) (.slice xo es0.length xc)) 26):=⟨_,rfl⟩
 have HS:Hid (Sta w w1 [Blk w.heap.size 26 (prA (.slice uo ns0.length uc) (.slice vo ps0.length vc) (.slice xo es0.length xc))]):=by rw[hw1];exact(Sta.start w).box _ _
 clear f0 HR
 unfold prA at hw1
 unfold PrV
 conv in prA (.slice uo _ uc) _ _=>unfold prA
 go_enter Tryz.func3,Tryz.ntmps3
 go_upto_region 1 with fail
 rw[←hw1]
 clear hw1
 go_wp2_with (refine wpList_getS Tryz.isLPr rfl _ rfl w.heap.size rfl (prA (.slice uo ns0.length uc) (.slice vo ps0.length vc) (.slice xo es0.length xc)) rfl (HS.out.get 0 rfl) ?_)
 refine(CZ.out w1 HS.out.below).mono ?_
 rintro e w2 ⟨y,rfl,hy,b⟩
 replace HS:Hid (Sta w w2 [Blk w.heap.size 26 (prA (.slice uo ns0.length uc) (.slice vo ps0.length vc) (.slice xo es0.length xc))]):=HS.out.next b
 clear b CZ
 rcases hy with rfl|⟨hy0,hsm⟩
 ·have HB:Hid (Below w.heap.size w w2):=HS.out.below
  clear HS SP IP EQ TP MK sK
  go_wp2
  go_ret
  exact⟨rfl,HB.out⟩
 have HM:Hid (SmPr ns0 ps0 es0):=hsm
 have sk:=(sK.out hsm).1
 have sn:=(sK.out hsm).2.1
 have sh:=(sK.out hsm).2.2
 have gk:ks.length≤1099511627776:=by omega
 have gn:zs.length≤1099511627776:=by omega
 have gh:hh.ks.length≤1099511627776:=by omega
 clear hsm sK
 go_wp2_with (refine wpList_getS Tryz.isLPr rfl _ rfl w.heap.size rfl (prA (.slice uo ns0.length uc) (.slice vo ps0.length vc) (.slice xo es0.length xc)) rfl (HS.out.get 0 rfl) ?_)
 refine(TP.out HM.out w2 HS.out.below).mono ?_
 rintro e w3 ⟨a1,b1,x1,ns1,ps1,rfl,e1,m1,o,b⟩
 replace HS:Hid (Sta w w3 [PrI a1 b1 x1 ns1 ps1 es0,Blk w.heap.size 26 (prA (.slice uo ns0.length uc) (.slice vo ps0.length vc) (.slice xo es0.length xc))]):=HS.out.pr o b
 have E1:Hid (nsOf ns1=nsOf ns0∧msOf ps1=msOf ps0):=⟨e1,m1⟩
 have O1:Hid ((prA a1 b1 x1).all (·.oneCell')=true):=by
  obtain⟨_,_,q1⟩:=o.rd.rn.form
  obtain⟨_,_,q2⟩:=o.rd.rp.form
  obtain⟨_,_,q3⟩:=o.rd.re.form
  rw[q1,q2,q3]
  exact prA_one rfl rfl rfl
 clear o b e1 m1
 go_wp2_with fail
 refine(SP.out HM.out a1 b1 x1 ns1 ps1 w3 (HS.out.rdPr 0 rfl) E1.out.1 E1.out.2).mono ?_
 rintro e w4 ⟨pW,qW,kW,rfl,ow4,bw4⟩
 obtain⟨poW,pcW,rfl⟩:=ow4.1.1.reads.form
 obtain⟨qoW,qcW,rfl⟩:=ow4.1.2.1.reads.form
 obtain⟨koW,kcW,rfl⟩:=ow4.2.1.reads.form
 replace HS:Hid (Sta w w4 [Sto (.slice poW ks.length pcW) (.slice qoW zs.length qcW) (.slice koW hh.ks.length kcW) ks zs hh.ks,PrI a1 b1 x1 ns1 ps1 es0,Blk w.heap.size 26 (prA (.slice uo ns0.length uc) (.slice vo ps0.length vc) (.slice xo es0.length xc))]):=HS.out.store ow4 bw4
 clear ow4 bw4
 replace HS:Hid (Sta w w4 [Sto (.slice poW ks.length pcW) (.slice qoW zs.length qcW) (.slice koW hh.ks.length kcW) ks zs hh.ks,Blk w.heap.size 26 (prA (.slice uo ns0.length uc) (.slice vo ps0.length vc) (.slice xo es0.length xc))]):=HS.out.drop 1
 clear E1 O1
 obtain⟨w5,hw5⟩:∃w5,w5=w4.alloc (.cells #[.slice poW ks.length pcW,.slice qoW zs.length qcW,.slice koW hh.ks.length kcW,.int .i64 hh.kd,.int .i64 hh.ho,.int .i64 hh.tu] 34):=⟨_,rfl⟩
 replace HS:Hid (Sta w w5 [Blk w4.heap.size 34 #[.slice poW ks.length pcW,.slice qoW zs.length qcW,.slice koW hh.ks.length kcW,.int .i64 hh.kd,.int .i64 hh.ho,.int .i64 hh.tu],Sto (.slice poW ks.length pcW) (.slice qoW zs.length qcW) (.slice koW hh.ks.length kcW) ks zs hh.ks,Blk w.heap.size 26 (prA (.slice uo ns0.length uc) (.slice vo ps0.length vc) (.slice xo es0.length xc))]):=by rw[hw5];exact HS.out.box _ _
 go_upto_region 6 with fail
 rw[←hw5]
 clear hw5
 clear SP
 go_wp2_with (refine wpList_getS Tryz.isLPr rfl _ rfl w.heap.size rfl (prA (.slice uo ns0.length uc) (.slice vo ps0.length vc) (.slice xo es0.length xc)) rfl (HS.out.get 2 rfl) ?_)
 refine(TP.out HM.out w5 HS.out.below).mono ?_
 rintro e w6 ⟨a2,b2,x2,ns2,ps2,rfl,e1,m1,o,b⟩
 replace HS:Hid (Sta w w6 [PrI a2 b2 x2 ns2 ps2 es0,Blk w4.heap.size 34 #[.slice poW ks.length pcW,.slice qoW zs.length qcW,.slice koW hh.ks.length kcW,.int .i64 hh.kd,.int .i64 hh.ho,.int .i64 hh.tu],Sto (.slice poW ks.length pcW) (.slice qoW zs.length qcW) (.slice koW hh.ks.length kcW) ks zs hh.ks,Blk w.heap.size 26 (prA (.slice uo ns0.length uc) (.slice vo ps0.length vc) (.slice xo es0.length xc))]):=HS.out.pr o b
 have E2:Hid (nsOf ns2=nsOf ns0∧msOf ps2=msOf ps0):=⟨e1,m1⟩
 have O2:Hid ((prA a2 b2 x2).all (·.oneCell')=true):=by
  obtain⟨_,_,q1⟩:=o.rd.rn.form
  obtain⟨_,_,q2⟩:=o.rd.rp.form
  obtain⟨_,_,q3⟩:=o.rd.re.form
  rw[q1,q2,q3]
  exact prA_one rfl rfl rfl
 clear o b e1 m1
 have q5:StB (w6.alloc (.cells zeroPr 40)) w6.heap.size 40 zeroPr:=StB.new w6 _ _
 go_upto_region 7 with(refine wpList_putS Tryz.isPr rfl _ _ rfl w6.heap.size (prA a2 b2 x2) zeroPr rfl rfl rfl rfl O2.out q5 ?_;intro w7 s6 g6)
 (try simp only[Act.put])
 replace HS:Hid (Sta w w7 [Blk w6.heap.size 40 (prA a2 b2 x2),PrI a2 b2 x2 ns2 ps2 es0,Blk w4.heap.size 34 #[.slice poW ks.length pcW,.slice qoW zs.length qcW,.slice koW hh.ks.length kcW,.int .i64 hh.kd,.int .i64 hh.ho,.int .i64 hh.tu],Sto (.slice poW ks.length pcW) (.slice qoW zs.length qcW) (.slice koW hh.ks.length kcW) ks zs hh.ks,Blk w.heap.size 26 (prA (.slice uo ns0.length uc) (.slice vo ps0.length vc) (.slice xo es0.length xc))]):=HS.out.varS s6 g6
 clear q5 s6 g6
 go_wp2_with (refine wpList_getS Tryz.isPr rfl _ rfl w6.heap.size rfl (prA a2 b2 x2) rfl (HS.out.get 0 rfl) ?_)
 refine(IP.out HM.out a2 b2 x2 ns2 ps2 w7 HS.out.below (HS.out.rdPr 1 rfl) E2.out.1 E2.out.2).mono ?_
 rintro e w8 ⟨pG,qG,kG,rfl,ow8,bw8⟩
 obtain⟨poG,pcG,rfl⟩:=ow8.1.1.reads.form
 obtain⟨qoG,qcG,rfl⟩:=ow8.1.2.1.reads.form
 obtain⟨koG,kcG,rfl⟩:=ow8.2.1.reads.form
 replace HS:Hid (Sta w w8 [Sto (.slice poG ks.length pcG) (.slice qoG zs.length qcG) (.slice koG hh.ks.length kcG) ks zs hh.ks,Blk w6.heap.size 40 (prA a2 b2 x2),PrI a2 b2 x2 ns2 ps2 es0,Blk w4.heap.size 34 #[.slice poW ks.length pcW,.slice qoW zs.length qcW,.slice koW hh.ks.length kcW,.int .i64 hh.kd,.int .i64 hh.ho,.int .i64 hh.tu],Sto (.slice poW ks.length pcW) (.slice qoW zs.length qcW) (.slice koW hh.ks.length kcW) ks zs hh.ks,Blk w.heap.size 26 (prA (.slice uo ns0.length uc) (.slice vo ps0.length vc) (.slice xo es0.length xc))]):=HS.out.store ow8 bw8
 clear ow8 bw8
 obtain⟨w9,hw9⟩:∃w9,w9=w8.alloc (.cells #[.slice poG ks.length pcG,.slice qoG zs.length qcG,.slice koG hh.ks.length kcG,.int .i64 hh.kd,.int .i64 hh.ho,.int .i64 hh.tu] 34):=⟨_,rfl⟩
 replace HS:Hid (Sta w w9 [Blk w8.heap.size 34 #[.slice poG ks.length pcG,.slice qoG zs.length qcG,.slice koG hh.ks.length kcG,.int .i64 hh.kd,.int .i64 hh.ho,.int .i64 hh.tu],Sto (.slice poG ks.length pcG) (.slice qoG zs.length qcG) (.slice koG hh.ks.length kcG) ks zs hh.ks,Blk w6.heap.size 40 (prA a2 b2 x2),PrI a2 b2 x2 ns2 ps2 es0,Blk w4.heap.size 34 #[.slice poW ks.length pcW,.slice qoW zs.length qcW,.slice koW hh.ks.length kcW,.int .i64 hh.kd,.int .i64 hh.ho,.int .i64 hh.tu],Sto (.slice poW ks.length pcW) (.slice qoW zs.length qcW) (.slice koW hh.ks.length kcW) ks zs hh.ks,Blk w.heap.size 26 (prA (.slice uo ns0.length uc) (.slice vo ps0.length vc) (.slice xo es0.length xc))]):=by rw[hw9];exact HS.out.box _ _
 go_upto_region 8 with fail
 rw[←hw9]
 clear hw9
 have fG0:w9.cell? ⟨w8.heap.size,0,none⟩=some (.slice poG ks.length pcG):=Blk.cell (HS.out.get 0 rfl) 0 rfl
 have fG1:w9.cell? ⟨w8.heap.size,1,none⟩=some (.slice qoG zs.length qcG):=Blk.cell (HS.out.get 0 rfl) 1 rfl
 have fG2:w9.cell? ⟨w8.heap.size,2,none⟩=some (.slice koG hh.ks.length kcG):=Blk.cell (HS.out.get 0 rfl) 2 rfl
 have fG3:w9.cell? ⟨w8.heap.size,3,none⟩=some (.int .i64 hh.kd):=Blk.cell (HS.out.get 0 rfl) 3 rfl
 have fG4:w9.cell? ⟨w8.heap.size,4,none⟩=some (.int .i64 hh.ho):=Blk.cell (HS.out.get 0 rfl) 4 rfl
 have fG5:w9.cell? ⟨w8.heap.size,5,none⟩=some (.int .i64 hh.tu):=Blk.cell (HS.out.get 0 rfl) 5 rfl
 have fW0:w9.cell? ⟨w4.heap.size,0,none⟩=some (.slice poW ks.length pcW):=Blk.cell (HS.out.get 4 rfl) 0 rfl
 have fW1:w9.cell? ⟨w4.heap.size,1,none⟩=some (.slice qoW zs.length qcW):=Blk.cell (HS.out.get 4 rfl) 1 rfl
 have fW2:w9.cell? ⟨w4.heap.size,2,none⟩=some (.slice koW hh.ks.length kcW):=Blk.cell (HS.out.get 4 rfl) 2 rfl
 have fW3:w9.cell? ⟨w4.heap.size,3,none⟩=some (.int .i64 hh.kd):=Blk.cell (HS.out.get 4 rfl) 3 rfl
 have fW4:w9.cell? ⟨w4.heap.size,4,none⟩=some (.int .i64 hh.ho):=Blk.cell (HS.out.get 4 rfl) 4 rfl
 have fW5:w9.cell? ⟨w4.heap.size,5,none⟩=some (.int .i64 hh.tu):=Blk.cell (HS.out.get 4 rfl) 5 rfl
 go_wp2_with fail
 clear fG0 fG1 fG2 fG3 fG4 fG5 fW0 fW1 fW2 fW3 fW4 fW5
 refine(eqStore_any _ _ _ _ _ _ _ _ hh _ (HS.out.rA 1 rfl) (HS.out.rB 1 rfl) (HS.out.rK 1 rfl) (HS.out.rA 5 rfl) (HS.out.rB 5 rfl) (HS.out.rK 5 rfl) gk gn gh).mono ?_
 rintro e w10 ⟨rfl,bw10⟩
 replace HS:Hid (Sta w w10 [Blk w8.heap.size 34 #[.slice poG ks.length pcG,.slice qoG zs.length qcG,.slice koG hh.ks.length kcG,.int .i64 hh.kd,.int .i64 hh.ho,.int .i64 hh.tu],Sto (.slice poG ks.length pcG) (.slice qoG zs.length qcG) (.slice koG hh.ks.length kcG) ks zs hh.ks,Blk w6.heap.size 40 (prA a2 b2 x2),PrI a2 b2 x2 ns2 ps2 es0,Blk w4.heap.size 34 #[.slice poW ks.length pcW,.slice qoW zs.length qcW,.slice koW hh.ks.length kcW,.int .i64 hh.kd,.int .i64 hh.ho,.int .i64 hh.tu],Sto (.slice poW ks.length pcW) (.slice qoW zs.length qcW) (.slice koW hh.ks.length kcW) ks zs hh.ks,Blk w.heap.size 26 (prA (.slice uo ns0.length uc) (.slice vo ps0.length vc) (.slice xo es0.length xc))]):=HS.out.next bw10
 clear bw10
 go_upto_region 10 with fail
 obtain⟨C,hCd⟩:∃C,C=fun x=>Sta w x [Blk w8.heap.size 34 #[.slice poG ks.length pcG,.slice qoG zs.length qcG,.slice koG hh.ks.length kcG,.int .i64 hh.kd,.int .i64 hh.ho,.int .i64 hh.tu],Sto (.slice poG ks.length pcG) (.slice qoG zs.length qcG) (.slice koG hh.ks.length kcG) ks zs hh.ks,Blk w6.heap.size 40 (prA a2 b2 x2),PrI a2 b2 x2 ns2 ps2 es0,Blk w4.heap.size 34 #[.slice poW ks.length pcW,.slice qoW zs.length qcW,.slice koW hh.ks.length kcW,.int .i64 hh.kd,.int .i64 hh.ho,.int .i64 hh.tu],Sto (.slice poW ks.length pcW) (.slice qoW zs.length qcW) (.slice koW hh.ks.length kcW) ks zs hh.ks,Blk w.heap.size 26 (prA (.slice uo ns0.length uc) (.slice vo ps0.length vc) (.slice xo es0.length xc))]:=⟨_,rfl⟩
 have HQ:Hid (∀x,C x→Sta w x [Blk w8.heap.size 34 #[.slice poG ks.length pcG,.slice qoG zs.length qcG,.slice koG hh.ks.length kcG,.int .i64 hh.kd,.int .i64 hh.ho,.int .i64 hh.tu],Sto (.slice poG ks.length pcG) (.slice qoG zs.length qcG) (.slice koG hh.ks.length kcG) ks zs hh.ks,Blk w6.heap.size 40 (prA a2 b2 x2),PrI a2 b2 x2 ns2 ps2 es0,Blk w4.heap.size 34 #[.slice poW ks.length pcW,.slice qoW zs.length qcW,.slice koW hh.ks.length kcW,.int .i64 hh.kd,.int .i64 hh.ho,.int .i64 hh.tu],Sto (.slice poW ks.length pcW) (.slice qoW zs.length qcW) (.slice koW hh.ks.length kcW) ks zs hh.ks,Blk w.heap.size 26 (prA (.slice uo ns0.length uc) (.slice vo ps0.length vc) (.slice xo es0.length xc))]):=by rw[hCd];exact fun _ h=>h
 have HN:Hid (∀x y,C x→Later x y→C y):=by rw[hCd];exact fun _ _ h b=>h.next b
 have H0:Hid (C w10.drew):=by rw[hCd];exact HS.out.drew1
 have hne:Nonempty (Kin C):=⟨⟨_,H0.out⟩⟩
 clear hCd
 refine wp_region_gs (C:=C) (E:=byDst fun d=>if d=29 then some (prG (nsOf ns0) (msOf ps0) es0)else if d=30 then some (truth true)else none) (R:=Later) HN.out (byDst_later (by intro d s hs u x y hx hl;split at hs;(cases hs;exact prG_later hx hl);split at hs;(cases hs;exact truthC_later hx hl);cases hs)) (byDst_looks _ _) (by kernel_rfl) (by kernel_rfl) H0.out ?_
 refine gs_loadS Tryz.isPr rfl rfl _ rfl w6.heap.size rfl (prA a2 b2 x2) rfl (fun q=>(HQ.out _ q.h).get 2 rfl) ?_
 refine gs_loadS Tryz.isLPr rfl rfl _ rfl w.heap.size rfl (prA (.slice uo ns0.length uc) (.slice vo ps0.length vc) (.slice xo es0.length xc)) rfl (fun q=>(HQ.out _ q.h).get 6 rfl) ?_
 refine gs_call (prG (nsOf ns0) (msOf ps0) es0) rfl (by first|rfl|kernel_rfl) (fun wq hB=>?_) (fun uq hu=>?_)
 ·go_simp
  refine⟨rfl,?_⟩
  exact prG_of (TP.out HM.out _ (HQ.out _ hB.1).below)
 obtain⟨a5,b5,x5,rfl⟩:=hu
 refine gs_call (truth true) rfl (by first|rfl|kernel_rfl) (fun wq hB=>?_) (fun uq hu=>?_)
 ·obtain⟨ns5,ps5,hA,e3,e4⟩:=prG_rd (hB.at0 rfl)
  go_simp
  refine⟨rfl,?_⟩
  exact truth_of (fun _ h=>h) (EQ.out HM.out _ _ _ _ _ _ _ _ _ _ _ ((HQ.out _ hB.1).rdPr 3 rfl) hA E2.out.1 E2.out.2 e3 e4)
 obtain rfl:=hu
 repeat(refine gs_plain rfl (fun K hK=>?_);go_simp;refine hK _ ?_;clear hK K)
 refine gs_end (fun w11 hz=>?_)
 replace HS:Hid (Sta w w11 [Blk w8.heap.size 34 #[.slice poG ks.length pcG,.slice qoG zs.length qcG,.slice koG hh.ks.length kcG,.int .i64 hh.kd,.int .i64 hh.ho,.int .i64 hh.tu],Sto (.slice poG ks.length pcG) (.slice qoG zs.length qcG) (.slice koG hh.ks.length kcG) ks zs hh.ks,Blk w6.heap.size 40 (prA a2 b2 x2),PrI a2 b2 x2 ns2 ps2 es0,Blk w4.heap.size 34 #[.slice poW ks.length pcW,.slice qoW zs.length qcW,.slice koW hh.ks.length kcW,.int .i64 hh.kd,.int .i64 hh.ho,.int .i64 hh.tu],Sto (.slice poW ks.length pcW) (.slice qoW zs.length qcW) (.slice koW hh.ks.length kcW) ks zs hh.ks,Blk w.heap.size 26 (prA (.slice uo ns0.length uc) (.slice vo ps0.length vc) (.slice xo es0.length xc))]):=HQ.out _ hz.1
 clear hz HQ H0 hne HN EQ
 go_wp2_with (refine wpList_getS Tryz.isPr rfl _ rfl w6.heap.size rfl (prA a2 b2 x2) rfl (HS.out.get 2 rfl) ?_)
 refine(MK.out HM.out a2 b2 x2 ns2 ps2 w11 (HS.out.get 3 rfl) E2.out.1 E2.out.2).mono ?_
 rintro e w12 ⟨mk,rfl,hmk,⟨m5,n5,o5⟩,t5⟩
 replace HS:Hid (Sta w w12 [Blk w8.heap.size 34 #[.slice poG ks.length pcG,.slice qoG zs.length qcG,.slice koG hh.ks.length kcG,.int .i64 hh.kd,.int .i64 hh.ho,.int .i64 hh.tu],Sto (.slice poG ks.length pcG) (.slice qoG zs.length qcG) (.slice koG hh.ks.length kcG) ks zs hh.ks,Blk w6.heap.size 40 (prA a2 b2 x2),PrI a2 b2 x2 (inkNL 1 ns2) (inkL m5 ps2) (inkEL n5 es0),Blk w4.heap.size 34 #[.slice poW ks.length pcW,.slice qoW zs.length qcW,.slice koW hh.ks.length kcW,.int .i64 hh.kd,.int .i64 hh.ho,.int .i64 hh.tu],Sto (.slice poW ks.length pcW) (.slice qoW zs.length qcW) (.slice koW hh.ks.length kcW) ks zs hh.ks,Blk w.heap.size 26 (prA (.slice uo ns0.length uc) (.slice vo ps0.length vc) (.slice xo es0.length xc))]):=HS.out.markPr 3 rfl o5 t5
 clear o5 t5 MK
 have fG0:w12.cell? ⟨w8.heap.size,0,none⟩=some (.slice poG ks.length pcG):=Blk.cell (HS.out.get 0 rfl) 0 rfl
 have fG1:w12.cell? ⟨w8.heap.size,1,none⟩=some (.slice qoG zs.length qcG):=Blk.cell (HS.out.get 0 rfl) 1 rfl
 have fG2:w12.cell? ⟨w8.heap.size,2,none⟩=some (.slice koG hh.ks.length kcG):=Blk.cell (HS.out.get 0 rfl) 2 rfl
 have fG3:w12.cell? ⟨w8.heap.size,3,none⟩=some (.int .i64 hh.kd):=Blk.cell (HS.out.get 0 rfl) 3 rfl
 have fG4:w12.cell? ⟨w8.heap.size,4,none⟩=some (.int .i64 hh.ho):=Blk.cell (HS.out.get 0 rfl) 4 rfl
 have fG5:w12.cell? ⟨w8.heap.size,5,none⟩=some (.int .i64 hh.tu):=Blk.cell (HS.out.get 0 rfl) 5 rfl
 have fW0:w12.cell? ⟨w4.heap.size,0,none⟩=some (.slice poW ks.length pcW):=Blk.cell (HS.out.get 4 rfl) 0 rfl
 have fW1:w12.cell? ⟨w4.heap.size,1,none⟩=some (.slice qoW zs.length qcW):=Blk.cell (HS.out.get 4 rfl) 1 rfl
 have fW2:w12.cell? ⟨w4.heap.size,2,none⟩=some (.slice koW hh.ks.length kcW):=Blk.cell (HS.out.get 4 rfl) 2 rfl
 have fW3:w12.cell? ⟨w4.heap.size,3,none⟩=some (.int .i64 hh.kd):=Blk.cell (HS.out.get 4 rfl) 3 rfl
 have fW4:w12.cell? ⟨w4.heap.size,4,none⟩=some (.int .i64 hh.ho):=Blk.cell (HS.out.get 4 rfl) 4 rfl
 have fW5:w12.cell? ⟨w4.heap.size,5,none⟩=some (.int .i64 hh.tu):=Blk.cell (HS.out.get 4 rfl) 5 rfl
 go_wp2_with fail
 clear fG0 fG1 fG2 fG3 fG4 fG5 fW0 fW1 fW2 fW3 fW4 fW5
 refine(eqStore_any _ _ _ _ _ _ _ _ hh _ (HS.out.rA 1 rfl) (HS.out.rB 1 rfl) (HS.out.rK 1 rfl) (HS.out.rA 5 rfl) (HS.out.rB 5 rfl) (HS.out.rK 5 rfl) gk gn gh).mono ?_
 rintro e w13 ⟨rfl,bw13⟩
 replace HS:Hid (Sta w w13 [Blk w8.heap.size 34 #[.slice poG ks.length pcG,.slice qoG zs.length qcG,.slice koG hh.ks.length kcG,.int .i64 hh.kd,.int .i64 hh.ho,.int .i64 hh.tu],Sto (.slice poG ks.length pcG) (.slice qoG zs.length qcG) (.slice koG hh.ks.length kcG) ks zs hh.ks,Blk w6.heap.size 40 (prA a2 b2 x2),PrI a2 b2 x2 (inkNL 1 ns2) (inkL m5 ps2) (inkEL n5 es0),Blk w4.heap.size 34 #[.slice poW ks.length pcW,.slice qoW zs.length qcW,.slice koW hh.ks.length kcW,.int .i64 hh.kd,.int .i64 hh.ho,.int .i64 hh.tu],Sto (.slice poW ks.length pcW) (.slice qoW zs.length qcW) (.slice koW hh.ks.length kcW) ks zs hh.ks,Blk w.heap.size 26 (prA (.slice uo ns0.length uc) (.slice vo ps0.length vc) (.slice xo es0.length xc))]):=HS.out.next bw13
 clear bw13
 have fG0:w13.cell? ⟨w8.heap.size,0,none⟩=some (.slice poG ks.length pcG):=Blk.cell (HS.out.get 0 rfl) 0 rfl
 have fG1:w13.cell? ⟨w8.heap.size,1,none⟩=some (.slice qoG zs.length qcG):=Blk.cell (HS.out.get 0 rfl) 1 rfl
 have fG2:w13.cell? ⟨w8.heap.size,2,none⟩=some (.slice koG hh.ks.length kcG):=Blk.cell (HS.out.get 0 rfl) 2 rfl
 have fG3:w13.cell? ⟨w8.heap.size,3,none⟩=some (.int .i64 hh.kd):=Blk.cell (HS.out.get 0 rfl) 3 rfl
 have fG4:w13.cell? ⟨w8.heap.size,4,none⟩=some (.int .i64 hh.ho):=Blk.cell (HS.out.get 0 rfl) 4 rfl
 have fG5:w13.cell? ⟨w8.heap.size,5,none⟩=some (.int .i64 hh.tu):=Blk.cell (HS.out.get 0 rfl) 5 rfl
 go_wp2_with fail
 clear fG0 fG1 fG2 fG3 fG4 fG5
 refine(markStore_any _ _ _ ks zs hh 1 _ 0 (HS.out.get 1 rfl) sk sn sh (by omega) (by omega) (by omega)).mono ?_
 rintro e w14 ⟨rfl,ow14,mw14⟩
 replace HS:Hid (Sta w w14 [Blk w8.heap.size 34 #[.slice poG ks.length pcG,.slice qoG zs.length qcG,.slice koG hh.ks.length kcG,.int .i64 hh.kd,.int .i64 hh.ho,.int .i64 hh.tu],Sto (.slice poG ks.length pcG) (.slice qoG zs.length qcG) (.slice koG hh.ks.length kcG) (marks 1 ks.length) (marks (1+ks.length) zs.length) (marks (1+ks.length+zs.length) hh.ks.length),Blk w6.heap.size 40 (prA a2 b2 x2),PrI a2 b2 x2 (inkNL 1 ns2) (inkL m5 ps2) (inkEL n5 es0),Blk w4.heap.size 34 #[.slice poW ks.length pcW,.slice qoW zs.length qcW,.slice koW hh.ks.length kcW,.int .i64 hh.kd,.int .i64 hh.ho,.int .i64 hh.tu],Sto (.slice poW ks.length pcW) (.slice qoW zs.length qcW) (.slice koW hh.ks.length kcW) ks zs hh.ks,Blk w.heap.size 26 (prA (.slice uo ns0.length uc) (.slice vo ps0.length vc) (.slice xo es0.length xc))]):=HS.out.marked3 1 rfl ow14 mw14
 clear ow14 mw14
 have fG0:w14.cell? ⟨w8.heap.size,0,none⟩=some (.slice poG ks.length pcG):=Blk.cell (HS.out.get 0 rfl) 0 rfl
 have fG1:w14.cell? ⟨w8.heap.size,1,none⟩=some (.slice qoG zs.length qcG):=Blk.cell (HS.out.get 0 rfl) 1 rfl
 have fG2:w14.cell? ⟨w8.heap.size,2,none⟩=some (.slice koG hh.ks.length kcG):=Blk.cell (HS.out.get 0 rfl) 2 rfl
 have fG3:w14.cell? ⟨w8.heap.size,3,none⟩=some (.int .i64 hh.kd):=Blk.cell (HS.out.get 0 rfl) 3 rfl
 have fG4:w14.cell? ⟨w8.heap.size,4,none⟩=some (.int .i64 hh.ho):=Blk.cell (HS.out.get 0 rfl) 4 rfl
 have fG5:w14.cell? ⟨w8.heap.size,5,none⟩=some (.int .i64 hh.tu):=Blk.cell (HS.out.get 0 rfl) 5 rfl
 go_wp2_with fail
 clear fG0 fG1 fG2 fG3 fG4 fG5
 refine(heldStore_any _ _ _ hh ks.length zs.length hh.ks.length 1 _ rfl (HS.out.rA 1 rfl) (HS.out.rB 1 rfl) (HS.out.rK 1 rfl) sk sn sh (by omega) (by omega) (by omega)).mono ?_
 rintro e w15 ⟨rfl,bw15⟩
 replace HS:Hid (Sta w w15 [Blk w8.heap.size 34 #[.slice poG ks.length pcG,.slice qoG zs.length qcG,.slice koG hh.ks.length kcG,.int .i64 hh.kd,.int .i64 hh.ho,.int .i64 hh.tu],Sto (.slice poG ks.length pcG) (.slice qoG zs.length qcG) (.slice koG hh.ks.length kcG) (marks 1 ks.length) (marks (1+ks.length) zs.length) (marks (1+ks.length+zs.length) hh.ks.length),Blk w6.heap.size 40 (prA a2 b2 x2),PrI a2 b2 x2 (inkNL 1 ns2) (inkL m5 ps2) (inkEL n5 es0),Blk w4.heap.size 34 #[.slice poW ks.length pcW,.slice qoW zs.length qcW,.slice koW hh.ks.length kcW,.int .i64 hh.kd,.int .i64 hh.ho,.int .i64 hh.tu],Sto (.slice poW ks.length pcW) (.slice qoW zs.length qcW) (.slice koW hh.ks.length kcW) ks zs hh.ks,Blk w.heap.size 26 (prA (.slice uo ns0.length uc) (.slice vo ps0.length vc) (.slice xo es0.length xc))]):=HS.out.next bw15
 clear bw15
 go_wp2_with (refine wpList_getS Tryz.isLPr rfl _ rfl w.heap.size rfl (prA (.slice uo ns0.length uc) (.slice vo ps0.length vc) (.slice xo es0.length xc)) rfl (HS.out.get 6 rfl) ?_)
 refine(TP.out HM.out w15 HS.out.below).mono ?_
 rintro e w16 ⟨a3,b3,x3,ns3,ps3,rfl,e1,m1,o,b⟩
 replace HS:Hid (Sta w w16 [PrI a3 b3 x3 ns3 ps3 es0,Blk w8.heap.size 34 #[.slice poG ks.length pcG,.slice qoG zs.length qcG,.slice koG hh.ks.length kcG,.int .i64 hh.kd,.int .i64 hh.ho,.int .i64 hh.tu],Sto (.slice poG ks.length pcG) (.slice qoG zs.length qcG) (.slice koG hh.ks.length kcG) (marks 1 ks.length) (marks (1+ks.length) zs.length) (marks (1+ks.length+zs.length) hh.ks.length),Blk w6.heap.size 40 (prA a2 b2 x2),PrI a2 b2 x2 (inkNL 1 ns2) (inkL m5 ps2) (inkEL n5 es0),Blk w4.heap.size 34 #[.slice poW ks.length pcW,.slice qoW zs.length qcW,.slice koW hh.ks.length kcW,.int .i64 hh.kd,.int .i64 hh.ho,.int .i64 hh.tu],Sto (.slice poW ks.length pcW) (.slice qoW zs.length qcW) (.slice koW hh.ks.length kcW) ks zs hh.ks,Blk w.heap.size 26 (prA (.slice uo ns0.length uc) (.slice vo ps0.length vc) (.slice xo es0.length xc))]):=HS.out.pr o b
 have E3:Hid (nsOf ns3=nsOf ns0∧msOf ps3=msOf ps0):=⟨e1,m1⟩
 have O3:Hid ((prA a3 b3 x3).all (·.oneCell')=true):=by
  obtain⟨_,_,q1⟩:=o.rd.rn.form
  obtain⟨_,_,q2⟩:=o.rd.rp.form
  obtain⟨_,_,q3⟩:=o.rd.re.form
  rw[q1,q2,q3]
  exact prA_one rfl rfl rfl
 clear o b e1 m1
 go_wp2_with fail
 refine(IP.out HM.out a3 b3 x3 ns3 ps3 w16 HS.out.below (HS.out.rdPr 0 rfl) E3.out.1 E3.out.2).mono ?_
 rintro e w17 ⟨pH,qH,kH,rfl,ow17,bw17⟩
 obtain⟨poH,pcH,rfl⟩:=ow17.1.1.reads.form
 obtain⟨qoH,qcH,rfl⟩:=ow17.1.2.1.reads.form
 obtain⟨koH,kcH,rfl⟩:=ow17.2.1.reads.form
 replace HS:Hid (Sta w w17 [Sto (.slice poH ks.length pcH) (.slice qoH zs.length qcH) (.slice koH hh.ks.length kcH) ks zs hh.ks,PrI a3 b3 x3 ns3 ps3 es0,Blk w8.heap.size 34 #[.slice poG ks.length pcG,.slice qoG zs.length qcG,.slice koG hh.ks.length kcG,.int .i64 hh.kd,.int .i64 hh.ho,.int .i64 hh.tu],Sto (.slice poG ks.length pcG) (.slice qoG zs.length qcG) (.slice koG hh.ks.length kcG) (marks 1 ks.length) (marks (1+ks.length) zs.length) (marks (1+ks.length+zs.length) hh.ks.length),Blk w6.heap.size 40 (prA a2 b2 x2),PrI a2 b2 x2 (inkNL 1 ns2) (inkL m5 ps2) (inkEL n5 es0),Blk w4.heap.size 34 #[.slice poW ks.length pcW,.slice qoW zs.length qcW,.slice koW hh.ks.length kcW,.int .i64 hh.kd,.int .i64 hh.ho,.int .i64 hh.tu],Sto (.slice poW ks.length pcW) (.slice qoW zs.length qcW) (.slice koW hh.ks.length kcW) ks zs hh.ks,Blk w.heap.size 26 (prA (.slice uo ns0.length uc) (.slice vo ps0.length vc) (.slice xo es0.length xc))]):=HS.out.store ow17 bw17
 clear ow17 bw17
 replace HS:Hid (Sta w w17 [Sto (.slice poH ks.length pcH) (.slice qoH zs.length qcH) (.slice koH hh.ks.length kcH) ks zs hh.ks,Blk w8.heap.size 34 #[.slice poG ks.length pcG,.slice qoG zs.length qcG,.slice koG hh.ks.length kcG,.int .i64 hh.kd,.int .i64 hh.ho,.int .i64 hh.tu],Sto (.slice poG ks.length pcG) (.slice qoG zs.length qcG) (.slice koG hh.ks.length kcG) (marks 1 ks.length) (marks (1+ks.length) zs.length) (marks (1+ks.length+zs.length) hh.ks.length),Blk w6.heap.size 40 (prA a2 b2 x2),PrI a2 b2 x2 (inkNL 1 ns2) (inkL m5 ps2) (inkEL n5 es0),Blk w4.heap.size 34 #[.slice poW ks.length pcW,.slice qoW zs.length qcW,.slice koW hh.ks.length kcW,.int .i64 hh.kd,.int .i64 hh.ho,.int .i64 hh.tu],Sto (.slice poW ks.length pcW) (.slice qoW zs.length qcW) (.slice koW hh.ks.length kcW) ks zs hh.ks,Blk w.heap.size 26 (prA (.slice uo ns0.length uc) (.slice vo ps0.length vc) (.slice xo es0.length xc))]):=HS.out.drop 1
 clear E3 O3
 obtain⟨w18,hw18⟩:∃w18,w18=w17.alloc (.cells #[.slice poH ks.length pcH,.slice qoH zs.length qcH,.slice koH hh.ks.length kcH,.int .i64 hh.kd,.int .i64 hh.ho,.int .i64 hh.tu] 34):=⟨_,rfl⟩
 replace HS:Hid (Sta w w18 [Blk w17.heap.size 34 #[.slice poH ks.length pcH,.slice qoH zs.length qcH,.slice koH hh.ks.length kcH,.int .i64 hh.kd,.int .i64 hh.ho,.int .i64 hh.tu],Sto (.slice poH ks.length pcH) (.slice qoH zs.length qcH) (.slice koH hh.ks.length kcH) ks zs hh.ks,Blk w8.heap.size 34 #[.slice poG ks.length pcG,.slice qoG zs.length qcG,.slice koG hh.ks.length kcG,.int .i64 hh.kd,.int .i64 hh.ho,.int .i64 hh.tu],Sto (.slice poG ks.length pcG) (.slice qoG zs.length qcG) (.slice koG hh.ks.length kcG) (marks 1 ks.length) (marks (1+ks.length) zs.length) (marks (1+ks.length+zs.length) hh.ks.length),Blk w6.heap.size 40 (prA a2 b2 x2),PrI a2 b2 x2 (inkNL 1 ns2) (inkL m5 ps2) (inkEL n5 es0),Blk w4.heap.size 34 #[.slice poW ks.length pcW,.slice qoW zs.length qcW,.slice koW hh.ks.length kcW,.int .i64 hh.kd,.int .i64 hh.ho,.int .i64 hh.tu],Sto (.slice poW ks.length pcW) (.slice qoW zs.length qcW) (.slice koW hh.ks.length kcW) ks zs hh.ks,Blk w.heap.size 26 (prA (.slice uo ns0.length uc) (.slice vo ps0.length vc) (.slice xo es0.length xc))]):=by rw[hw18];exact HS.out.box _ _
 go_upto_region 25 with fail
 rw[←hw18]
 clear hw18
 have fH0:w18.cell? ⟨w17.heap.size,0,none⟩=some (.slice poH ks.length pcH):=Blk.cell (HS.out.get 0 rfl) 0 rfl
 have fH1:w18.cell? ⟨w17.heap.size,1,none⟩=some (.slice qoH zs.length qcH):=Blk.cell (HS.out.get 0 rfl) 1 rfl
 have fH2:w18.cell? ⟨w17.heap.size,2,none⟩=some (.slice koH hh.ks.length kcH):=Blk.cell (HS.out.get 0 rfl) 2 rfl
 have fH3:w18.cell? ⟨w17.heap.size,3,none⟩=some (.int .i64 hh.kd):=Blk.cell (HS.out.get 0 rfl) 3 rfl
 have fH4:w18.cell? ⟨w17.heap.size,4,none⟩=some (.int .i64 hh.ho):=Blk.cell (HS.out.get 0 rfl) 4 rfl
 have fH5:w18.cell? ⟨w17.heap.size,5,none⟩=some (.int .i64 hh.tu):=Blk.cell (HS.out.get 0 rfl) 5 rfl
 have fW0:w18.cell? ⟨w4.heap.size,0,none⟩=some (.slice poW ks.length pcW):=Blk.cell (HS.out.get 6 rfl) 0 rfl
 have fW1:w18.cell? ⟨w4.heap.size,1,none⟩=some (.slice qoW zs.length qcW):=Blk.cell (HS.out.get 6 rfl) 1 rfl
 have fW2:w18.cell? ⟨w4.heap.size,2,none⟩=some (.slice koW hh.ks.length kcW):=Blk.cell (HS.out.get 6 rfl) 2 rfl
 have fW3:w18.cell? ⟨w4.heap.size,3,none⟩=some (.int .i64 hh.kd):=Blk.cell (HS.out.get 6 rfl) 3 rfl
 have fW4:w18.cell? ⟨w4.heap.size,4,none⟩=some (.int .i64 hh.ho):=Blk.cell (HS.out.get 6 rfl) 4 rfl
 have fW5:w18.cell? ⟨w4.heap.size,5,none⟩=some (.int .i64 hh.tu):=Blk.cell (HS.out.get 6 rfl) 5 rfl
 go_wp2_with fail
 clear fH0 fH1 fH2 fH3 fH4 fH5 fW0 fW1 fW2 fW3 fW4 fW5
 refine(eqStore_any _ _ _ _ _ _ _ _ hh _ (HS.out.rA 1 rfl) (HS.out.rB 1 rfl) (HS.out.rK 1 rfl) (HS.out.rA 7 rfl) (HS.out.rB 7 rfl) (HS.out.rK 7 rfl) gk gn gh).mono ?_
 rintro e w19 ⟨rfl,bw19⟩
 replace HS:Hid (Sta w w19 [Blk w17.heap.size 34 #[.slice poH ks.length pcH,.slice qoH zs.length qcH,.slice koH hh.ks.length kcH,.int .i64 hh.kd,.int .i64 hh.ho,.int .i64 hh.tu],Sto (.slice poH ks.length pcH) (.slice qoH zs.length qcH) (.slice koH hh.ks.length kcH) ks zs hh.ks,Blk w8.heap.size 34 #[.slice poG ks.length pcG,.slice qoG zs.length qcG,.slice koG hh.ks.length kcG,.int .i64 hh.kd,.int .i64 hh.ho,.int .i64 hh.tu],Sto (.slice poG ks.length pcG) (.slice qoG zs.length qcG) (.slice koG hh.ks.length kcG) (marks 1 ks.length) (marks (1+ks.length) zs.length) (marks (1+ks.length+zs.length) hh.ks.length),Blk w6.heap.size 40 (prA a2 b2 x2),PrI a2 b2 x2 (inkNL 1 ns2) (inkL m5 ps2) (inkEL n5 es0),Blk w4.heap.size 34 #[.slice poW ks.length pcW,.slice qoW zs.length qcW,.slice koW hh.ks.length kcW,.int .i64 hh.kd,.int .i64 hh.ho,.int .i64 hh.tu],Sto (.slice poW ks.length pcW) (.slice qoW zs.length qcW) (.slice koW hh.ks.length kcW) ks zs hh.ks,Blk w.heap.size 26 (prA (.slice uo ns0.length uc) (.slice vo ps0.length vc) (.slice xo es0.length xc))]):=HS.out.next bw19
 clear bw19
 have fG0:w19.cell? ⟨w8.heap.size,0,none⟩=some (.slice poG ks.length pcG):=Blk.cell (HS.out.get 2 rfl) 0 rfl
 have fG1:w19.cell? ⟨w8.heap.size,1,none⟩=some (.slice qoG zs.length qcG):=Blk.cell (HS.out.get 2 rfl) 1 rfl
 have fG2:w19.cell? ⟨w8.heap.size,2,none⟩=some (.slice koG hh.ks.length kcG):=Blk.cell (HS.out.get 2 rfl) 2 rfl
 have fG3:w19.cell? ⟨w8.heap.size,3,none⟩=some (.int .i64 hh.kd):=Blk.cell (HS.out.get 2 rfl) 3 rfl
 have fG4:w19.cell? ⟨w8.heap.size,4,none⟩=some (.int .i64 hh.ho):=Blk.cell (HS.out.get 2 rfl) 4 rfl
 have fG5:w19.cell? ⟨w8.heap.size,5,none⟩=some (.int .i64 hh.tu):=Blk.cell (HS.out.get 2 rfl) 5 rfl
 go_wp2_with fail
 clear fG0 fG1 fG2 fG3 fG4 fG5
 refine(heldStore_any _ _ _ hh ks.length zs.length hh.ks.length 1 _ rfl (HS.out.rA 3 rfl) (HS.out.rB 3 rfl) (HS.out.rK 3 rfl) sk sn sh (by omega) (by omega) (by omega)).mono ?_
 rintro e w20 ⟨rfl,bw20⟩
 replace HS:Hid (Sta w w20 [Blk w17.heap.size 34 #[.slice poH ks.length pcH,.slice qoH zs.length qcH,.slice koH hh.ks.length kcH,.int .i64 hh.kd,.int .i64 hh.ho,.int .i64 hh.tu],Sto (.slice poH ks.length pcH) (.slice qoH zs.length qcH) (.slice koH hh.ks.length kcH) ks zs hh.ks,Blk w8.heap.size 34 #[.slice poG ks.length pcG,.slice qoG zs.length qcG,.slice koG hh.ks.length kcG,.int .i64 hh.kd,.int .i64 hh.ho,.int .i64 hh.tu],Sto (.slice poG ks.length pcG) (.slice qoG zs.length qcG) (.slice koG hh.ks.length kcG) (marks 1 ks.length) (marks (1+ks.length) zs.length) (marks (1+ks.length+zs.length) hh.ks.length),Blk w6.heap.size 40 (prA a2 b2 x2),PrI a2 b2 x2 (inkNL 1 ns2) (inkL m5 ps2) (inkEL n5 es0),Blk w4.heap.size 34 #[.slice poW ks.length pcW,.slice qoW zs.length qcW,.slice koW hh.ks.length kcW,.int .i64 hh.kd,.int .i64 hh.ho,.int .i64 hh.tu],Sto (.slice poW ks.length pcW) (.slice qoW zs.length qcW) (.slice koW hh.ks.length kcW) ks zs hh.ks,Blk w.heap.size 26 (prA (.slice uo ns0.length uc) (.slice vo ps0.length vc) (.slice xo es0.length xc))]):=HS.out.next bw20
 clear bw20
 have HB:Hid (Below w.heap.size w _):=HS.out.below
 clear HS IP TP
 go_wp2_with fail
 go_ret
 exact⟨rfl,HB.out⟩
theorem lifted (os:Os) (started:os.Started) (H:Type) (enc:TypeId×Value→H):
  ReturnsInHanded {} Tryz.checked os 3 .any (fun w args=>(Rows.fnExactOwnedSpec.pre enc Tryz.prog Tryz.f3 [] false w args∧laidMetH Tryz.prog Rows.fnExactOwnedRow.laid w)∧sizedMet enc Tryz.prog Tryz.f3 (OpenSpec.ofChange Rows.fnExactOwnedSpec) false w args) (Rows.fnExactOwnedSpec.post enc Tryz.prog Tryz.f3 false true false false):=by
 refine returnsInHanded_of_change_and (C:=Tryz.checked) (X:=fun w _=>laidMetH Tryz.prog Rows.fnExactOwnedRow.laid w) (fun _ _ _ hh h=>h.of_heap hh) own started (by kernel_rfl) Tryz.func3
  (ChangeSpec.witness_shaped (enc:=enc) (C:=Tryz.checked) (os:=os) (X:=fun w _=>laidMetH Tryz.prog Rows.fnExactOwnedRow.laid w) false (World.laidAll Tryz.prog os Rows.fnExactOwnedRow.laid) #[.agg #[.slice none 0 0,.slice none 0 0,.slice none 0 0]] 8 (World.laidAll_os _ _ _)
   (World.shaped_of_ZipB (by kernel_rfl) (by kernel_rfl)) (by kernel_rfl) (by kernel_rfl) (by kernel_rfl)
   (by rw[MakeChecks.laidMetH_plain _ _ _ (by kernel_rfl)];exact laidMet_laidAll _ (by kernel_rfl) (by kernel_rfl))) ?_
 intro W base args ds gs before hval0 hW hcnd _ hL _
 have hval:∀(j:Nat) t v,Tryz.f3.params[j]?=some t→args[j]?=some v→Value.okWide Tryz.prog W .any base t v:=hval0
 have hW':=hW
 obtain⟨p,q,hA0,hV,rfl,hfz,hnd⟩:=hW
 have hA:DataW.TrodAll enc Tryz.prog W 0 (fun _=>true) true Tryz.f3.params.toList args.toList ds p:=hA0
 rw[Tryz.params3]at hA hval
 obtain⟨v0,vs0,d0,ds0,p0,q0,hargs,rfl,rfl,h0,s0⟩:=trodAll_cons hA
 obtain⟨rfl,rfl,rfl⟩:=trodAll_nil s0
 obtain rfl:args=#[v0]:=by cases args;simp_all
 obtain⟨rfl,rfl⟩:=trodVars_none hV
 have k0:=h0
 have lt0:∀x∈p0,x.block<W.heap.size:=by obtain⟨m,hm⟩:=k0;exact DataW.trod_lt m _ _ _ hm
 obtain⟨ns0,ps0,es0,u0,y0,x0,rfl,f0⟩:=open_pair (hval 0 26 v0 rfl rfl) h0
 clear hA0 hval0
 refine(walk ns0 ps0 es0 u0 y0 x0 W f0 (tab_fnExactOwned hL)).mono fun e W' ⟨he,bel⟩=>?_
 subst he
 exact⟨_,rfl,_,_,_,[],_,[],hW',trodAll_mk1 (shut_bool Tryz.underlying4 _),(trodAll_cons_mk (Below.trod laidOut (by kernel_rfl) (of_decide_eq_true (by kernel_rfl)) k0 bel lt0) trodAll_mk0),rfl,bel.frame _,fun h=>by cases h⟩
theorem over:Rows.fnExactOwnedRow.holds Tryz.pinned (OpenSpec.ofChange Rows.fnExactOwnedSpec):=
 OpenClaim.holds_of_wide 3 Tryz.f3 rfl rfl rfl rfl rfl rfl rfl ⟨rfl,rfl,rfl,rfl,rfl⟩ rfl rfl rfl rfl rfl (by kernel_rfl) Tryz.func3 (by kernel_rfl)
  (of_decide_eq_true (by kernel_rfl)) (by unfold Func.isWrapper;first|(rw[if_pos (by decide+kernel)];kernel_rfl)|(rw[if_neg (by decide+kernel)];exact⟨rfl,rfl⟩))
  (fun os started H enc _=>lifted os started H enc)
theorem proved:Rows.FnExactOwnedSaid:=over
end Go.Proofs.YthmnmaemnihkeaaGreatDoor.fnExactOwned
namespace Go.Proofs.YthmnmaemnihkeaaGreatDoor
open Go in
theorem fnExactOwned_holds:Rows.FnExactOwnedCardSaid:=
 Claim7.holds_tied_plain_at .later [] [.data,.data,.data,.data,.pinned] true (true,"bc4a0059ed5a49440bbac41ce56e861985850a742241711d1fba84dda6d2bb28") false
  fnExactOwned.proved (fun _ h=>by cases h) (by kernel_rfl) (fun _ h=>by cases h) fnExactOwned_row_tie rfl ⟨rfl,rfl⟩ (by kernel_rfl) rfl
  (fun f fn hf hfn=>by
   obtain rfl:f=3:=Option.some.inj ((show Tryz.prog.funcNamed Rows.fnExactOwnedRow.func=some 3 by kernel_rfl).symm.trans hf) |>.symm
   obtain rfl:fn=Tryz.f3:=(Option.some.inj (Tryz.func3.symm.trans hfn)).symm
   exact⟨by kernel_rfl,fun j t ht=>by
    rw[Tryz.params3]at ht
    have hm:t∈[26]:=by simpa using Array.mem_of_getElem? ht
    have hall:([26].all fun u=> !Tryz.prog.wantsStandIn u)=true:=by kernel_rfl
    exact(show Tryz.prog.wantsStandIn t=false by simpa using List.all_eq_true.1 hall t hm)⟩)
  (by kernel_rfl)
end Go.Proofs.YthmnmaemnihkeaaGreatDoor
