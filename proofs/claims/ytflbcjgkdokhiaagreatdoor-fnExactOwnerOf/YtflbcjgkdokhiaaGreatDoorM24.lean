/- A copier inside a block, behind a pointer to its first cell: what a hand on it leaves. -/
import Derived.Test.YtflbcjgkdokhiaaGreatDoorM16
import Derived.Test.YtflbcjgkdokhiaaGreatDoorM12
import Derived.Test.YtflbcjgkdokhiaaGreatDoorM7
import Derived.Test.YtflbcjgkdokhiaaGreatDoorM6
import Derived.Test.YtflbcjgkdokhiaaGreatDoorM5
namespace Go.Proofs.YtflbcjgkdokhiaaGreatDoor
open Go.ChangeShapes Go.WideShapes Go.ChangeAt Go.RowKit
theorem Turned.sub {w w':World} {bs cs:List Nat} (h:Turned w w' bs) (hs:∀b∈bs,b∈cs):Turned w w' cs:=
 ⟨h.os,h.tape,h.output,h.size,fun k hk hn=>h.block k hk (fun e=>hn (hs k e))⟩
theorem Turned.then {w w' w'':World} {bs:List Nat} (h:Turned w w' bs) (h':Turned w' w'' bs):Turned w w'' bs:=(h.trans h').sub (by simp)
theorem Turned.below {w w':World} (bs:List Nat) (h:Below w.heap.size w w'):Turned w w' bs:=(Turned.of_below h).sub (by simp)
theorem Own.up {w:World} {base base':Nat} {v:Value} {xs:List Int} (h:Own w base v xs) (hb:∀k,v.ownBlock=some k→base'≤k):Own w base' v xs:=by
 refine⟨h.1,?_⟩
 rcases h.2 with h'|⟨g,cap,cur,rfl,hg,r⟩
 ·exact .inl h'
 ·exact .inr ⟨g,cap,cur,rfl,hb g rfl,r⟩
theorem StB.turned {w w':World} {g:Nat} {t:TypeId} {cs:Array Value} {bs:List Nat} (h:StB w g t cs) (ht:Turned w w' bs) (hn:g∉bs):StB w' g t cs:=(ht.block g h.lt hn).trans h
structure CpB (w:World) (g off:Nat) (t:TypeId) (cs:Array Value) (v:Value) (c:Cp):Prop where
 st:StB w g t cs
 i0:cs[off]?=some (.int .i64 c.tr)
 i1:cs[off+1]?=some (.bool c.op)
 i2:cs[off+2]?=some (.int .i64 c.di)
 i3:cs[off+3]?=some (.int .i64 c.wa)
 i4:cs[off+4]?=some v
 own:Own w 0 v c.ts
 ne:v.ownBlock≠some g
def cpPut (cs:Array Value) (off:Nat) (d w:Int):Array Value:=(cs.setIfInBounds (off+2) (.int .i64 d)).setIfInBounds (off+3) (.int .i64 w)
theorem put_same {cs:Array Value} {j:Nat} {x:Value} (h:cs[j]?=some x):cs.setIfInBounds j x=cs:=by
 apply Array.ext_getElem?
 intro i
 rw[Array.getElem?_setIfInBounds]
 split
 ·rename_i e;subst e
  have hlt:j<cs.size:=by
   rcases Nat.lt_or_ge j cs.size with hlt|hge
   ·exact hlt
   ·rw[Array.getElem?_eq_none hge]at h;cases h
  simp[hlt]at h⊢
  exact h.symm
 ·rfl
theorem cpPut_same {cs:Array Value} {off:Nat} {d w:Int} (h2:cs[off+2]?=some (.int .i64 d)) (h3:cs[off+3]?=some (.int .i64 w)):cpPut cs off d w=cs:=by
 unfold cpPut
 rw[put_same h2,put_same h3]
theorem CpB.below {w w':World} {g off:Nat} {t:TypeId} {cs:Array Value} {v:Value} {c:Cp} (h:CpB w g off t cs v c) (b:Below w.heap.size w w'):CpB w' g off t cs v c:=
 ⟨h.st.below b,h.i0,h.i1,h.i2,h.i3,h.i4,h.own.below b,h.ne⟩
theorem CpB.same {w:World} {g off:Nat} {t:TypeId} {cs:Array Value} {v:Value} {c:Cp} (h:CpB w g off t cs v c):CpB w g off t (cpPut cs off c.di c.wa) v c:=by
 rw[cpPut_same h.i2 h.i3];exact h
theorem CpB.cell {w:World} {g off:Nat} {t:TypeId} {cs:Array Value} {v:Value} {c:Cp} (h:CpB w g off t cs v c):
  w.cell? ⟨g,off,none⟩=some (.int .i64 c.tr)∧w.cell? ⟨g,off+1,none⟩=some (.bool c.op)∧w.cell? ⟨g,off+2,none⟩=some (.int .i64 c.di)∧w.cell? ⟨g,off+3,none⟩=some (.int .i64 c.wa)∧w.cell? ⟨g,off+4,none⟩=some v:=
 ⟨h.st.cell off h.i0,h.st.cell _ h.i1,h.st.cell _ h.i2,h.st.cell _ h.i3,h.st.cell _ h.i4⟩
end Go.Proofs.YtflbcjgkdokhiaaGreatDoor
set_option maxRecDepth 20000
set_option maxHeartbeats 2000000
namespace Go.Proofs.YtflbcjgkdokhiaaGreatDoor
open Go.ChangeShapes Go.WideShapes Go.ChangeAt Go.RowKit
theorem szCopier_any (v:Value) (c:Cp) (k:Int) (w:World) (hr:Reads w v c.ts) (h0:0≤k) (h1:k≤1048576):
  Calls Tryz.prog 39 #[CpV v c,.int .i64 k] w fun e w'=>e=.returned (.int .i64 (szI k c.ts.length))∧Below w.heap.size w w':=by
 have B1:Below w.heap.size w (w.alloc (.cells (cpA v c) 65)):=(Below.refl _ _).alloc (Nat.le_refl _) _
 have c1:=sz_any v c.ts k _ (hr.below B1 (Nat.le_refl _)) h0 h1
 have hs:szI k c.ts.length= -1∨0≤szI k c.ts.length:=by unfold szI;split<;>omega
 obtain⟨x,hx⟩:∃x,x=szI k c.ts.length:=⟨_,rfl⟩
 rw[←hx]at c1 hs⊢
 obtain⟨ao,cap,rfl⟩:=reads_form hr
 clear hx hr
 unfold CpV cpA at*
 rcases hs with hs|hs
 ·subst hs
  go_enter Tryz.func39,Tryz.ntmps39
  go_wp2_with fail
  refine c1.mono ?_
  rintro e w' ⟨rfl,hw⟩;subst w'
  go_wp2
  go_ret
  exact⟨rfl,B1⟩
 ·go_enter Tryz.func39,Tryz.ntmps39
  go_wp2_with fail
  refine c1.mono ?_
  rintro e w' ⟨rfl,hw⟩;subst w'
  go_wp2
  go_ret
  exact⟨rfl,B1⟩
theorem toCopier_any (v:Value) (c:Cp) (w:World) (hr:Reads w v c.ts) (hl:c.ts.length≤1099511627776):
  Calls Tryz.prog 55 #[CpV v c] w fun e w'=>∃u,e=.returned (CpV u c)∧Own w' w.heap.size u c.ts∧Below w.heap.size w w':=by
 obtain⟨w1,hw1⟩:∃w1,w1=((w.alloc (.cells (cpA v c) 65)).alloc (.cells zeroCp 52)).alloc (.cells #[.int .i64 c.tr,.bool c.op,.int .i64 c.di,.int .i64 c.wa,.slice none 0 0] 52):=⟨_,rfl⟩
 have q0:StB w1 (w.heap.size+1) 52 zeroCp:=by
  rw[hw1]
  have:=(StB.new (w.alloc (.cells (cpA v c) 65)) 52 zeroCp).alloc (.cells #[.int .i64 c.tr,.bool c.op,.int .i64 c.di,.int .i64 c.wa,.slice none 0 0] 52)
  rwa[World.size_alloc]at this
 have r0:StB w1 (w.heap.size+1+1) 52 #[.int .i64 c.tr,.bool c.op,.int .i64 c.di,.int .i64 c.wa,.slice none 0 0]:=by
  rw[hw1]
  have:=StB.new ((w.alloc (.cells (cpA v c) 65)).alloc (.cells zeroCp 52)) 52 #[.int .i64 c.tr,.bool c.op,.int .i64 c.di,.int .i64 c.wa,.slice none 0 0]
  rwa[World.size_alloc,World.size_alloc]at this
 have b1:Below w.heap.size w w1:=by rw[hw1];exact(((Below.refl _ _).alloc (Nat.le_refl _) _).alloc (by simp) _).alloc (by simp;omega) _
 have c1:=to_any v c.ts w1 (hr.below b1 (Nat.le_refl _)) hl
 have hs1:=r0.lt
 obtain⟨ao,cap,rfl⟩:=reads_form hr
 have HW:Hid (w1=((w.alloc (.cells #[.int .i64 c.tr,.bool c.op,.int .i64 c.di,.int .i64 c.wa,.slice ao c.ts.length cap] 65)).alloc (.cells #[.int .i64 0,.bool false,.int .i64 0,.int .i64 0,.slice none 0 0] 52)).alloc (.cells #[.int .i64 c.tr,.bool c.op,.int .i64 c.di,.int .i64 c.wa,.slice none 0 0] 52)):=hw1
 clear hw1 hr hl
 unfold CpV
 conv in cpA (.slice ao c.ts.length cap) c=>unfold cpA
 go_enter Tryz.func55,Tryz.ntmps55
 go_wp2_with fail
 rw[←HW.out]
 clear HW
 refine c1.mono ?_
 rintro e w3 ⟨u,rfl,o3,b3⟩
 replace q0:=q0.below b3
 replace r0:=r0.below b3
 have B3:=b1.trans (b3.mono b1.size)
 obtain⟨ab,cb,rfl⟩:=reads_form o3.reads
 have m4:w3.cell? ⟨w.heap.size+1+1,4,none⟩=some (.slice none 0 0):=r0.cell 4 rfl
 have f4:=r0.frozen 4
 have R4:=r0.put 4 (.slice ab c.ts.length cb) (ds:=cpA (.slice ab c.ts.length cb) c) rfl
 have Q4:=q0.other ⟨w.heap.size+1+1,4,none⟩ (.slice ab c.ts.length cb) (by simp)
 have HP:Hid (Own (w3.setCell ⟨w.heap.size+1+1,4,none⟩ (.slice ab c.ts.length cb)) w1.heap.size (.slice ab c.ts.length cb) c.ts∧Below w.heap.size w (w3.setCell ⟨w.heap.size+1+1,4,none⟩ (.slice ab c.ts.length cb))):=⟨o3.setLt (by omega) 4 _,B3.setCell (by simp;omega) _⟩
 clear q0 r0 c1 o3 b3 b1 B3
 go_upto_region 7 with fail
 obtain⟨w4,hw4⟩:∃w4,w4=w3.setCell ⟨w.heap.size+1+1,4,none⟩ (.slice ab c.ts.length cb):=⟨_,rfl⟩
 rw[←hw4]at R4 Q4 HP⊢
 clear hw4 m4 f4
 go_wp2_with (first|(refine wpList_getS Tryz.isCp rfl _ rfl (w.heap.size+1+1) rfl (cpA (.slice ab c.ts.length cb) c) rfl R4 ?_)|(refine wpList_putS Tryz.isCp rfl _ _ rfl (w.heap.size+1) (cpA (.slice ab c.ts.length cb) c) zeroCp rfl rfl rfl rfl (cpA_one c rfl) Q4 ?_;intro w8 s8 g8))
 refine bodyPost_ret (results_S Tryz.isCp rfl _ _ (w.heap.size+1) _ rfl rfl s8) rfl ?_
 exact⟨_,rfl,(HP.out.1.keptLt g8 (by omega)).mono (by omega),HP.out.2.grown g8 HP.out.2.size (fun k e=>by cases e;omega)⟩
theorem eqCopier_any (u v:Value) (c:Cp) (w:World) (hu:Reads w u c.ts) (hv:Reads w v c.ts) (hl:c.ts.length≤1099511627776):
  Calls Tryz.prog 65 #[CpV u c,CpV v c] w fun e w'=>e=.returned (.bool true)∧Below w.heap.size w w':=by
 obtain⟨w1,hw1⟩:∃w1,w1=(w.alloc (.cells (cpA u c) 52)).alloc (.cells (cpA v c) 52):=⟨_,rfl⟩
 have HB:Hid (Below w.heap.size w w1):=by rw[hw1];exact((Below.refl _ _).alloc (Nat.le_refl _) _).alloc (by simp) _
 have c1:=eq_any u v c.ts c.ts w1 (hu.below HB.out (Nat.le_refl _)) (hv.below HB.out (Nat.le_refl _)) hl
 rw[show decide (c.ts=c.ts)=true by simp]at c1
 obtain⟨ao,ca,rfl⟩:=reads_form hu
 obtain⟨bo,cb,rfl⟩:=reads_form hv
 have HW:Hid (w1=(w.alloc (.cells #[.int .i64 c.tr,.bool c.op,.int .i64 c.di,.int .i64 c.wa,.slice ao c.ts.length ca] 52)).alloc (.cells #[.int .i64 c.tr,.bool c.op,.int .i64 c.di,.int .i64 c.wa,.slice bo c.ts.length cb] 52)):=hw1
 clear hw1 hu hv hl
 unfold CpV cpA
 go_enter Tryz.func65,Tryz.ntmps65
 go_wp2_with fail
 rw[←HW.out]
 clear HW
 refine c1.mono ?_
 rintro e w3 ⟨rfl,n3,hw3⟩
 have B3:Hid (Below w.heap.size w w3):=by rw[hw3];exact below_drewN HB.out n3
 clear hw3 c1 HB
 go_wp2
 go_ret
 exact⟨rfl,B3.out⟩
end Go.Proofs.YtflbcjgkdokhiaaGreatDoor
namespace Go.Proofs.YtflbcjgkdokhiaaGreatDoor
open Go.ChangeShapes Go.WideShapes Go.ChangeAt Go.RowKit
end Go.Proofs.YtflbcjgkdokhiaaGreatDoor
namespace Go.Proofs.YtflbcjgkdokhiaaGreatDoor
open Go.ChangeShapes Go.WideShapes Go.ChangeAt Go.RowKit
end Go.Proofs.YtflbcjgkdokhiaaGreatDoor
set_option maxRecDepth 20000
set_option maxHeartbeats 2000000
namespace Go.Proofs.YtflbcjgkdokhiaaGreatDoor
open Go.ChangeShapes Go.WideShapes Go.ChangeAt Go.RowKit
theorem szSink_any (v:Value) (c:Sn) (k:Int) (w:World) (hr:Reads w v c.ts) (h0:0≤k) (h1:k≤1048576):
  Calls Tryz.prog 40 #[SnV v c,.int .i64 k] w fun e w'=>e=.returned (.int .i64 (szI k c.ts.length))∧Below w.heap.size w w':=by
 have B1:Below w.heap.size w (w.alloc (.cells (snA v c) 66)):=(Below.refl _ _).alloc (Nat.le_refl _) _
 have c1:=sz_any v c.ts k _ (hr.below B1 (Nat.le_refl _)) h0 h1
 have hs:szI k c.ts.length= -1∨0≤szI k c.ts.length:=by unfold szI;split<;>omega
 obtain⟨x,hx⟩:∃x,x=szI k c.ts.length:=⟨_,rfl⟩
 rw[←hx]at c1 hs⊢
 obtain⟨ao,cap,rfl⟩:=reads_form hr
 clear hx hr
 unfold SnV snA at*
 rcases hs with hs|hs
 ·subst hs
  go_enter Tryz.func40,Tryz.ntmps40
  go_wp2_with fail
  refine c1.mono ?_
  rintro e w' ⟨rfl,hw⟩;subst w'
  go_wp2
  go_ret
  exact⟨rfl,B1⟩
 ·go_enter Tryz.func40,Tryz.ntmps40
  go_wp2_with fail
  refine c1.mono ?_
  rintro e w' ⟨rfl,hw⟩;subst w'
  go_wp2
  go_ret
  exact⟨rfl,B1⟩
theorem toSink_any (v:Value) (c:Sn) (w:World) (hr:Reads w v c.ts) (hl:c.ts.length≤1099511627776):
  Calls Tryz.prog 56 #[SnV v c] w fun e w'=>∃u,e=.returned (SnV u c)∧Own w' w.heap.size u c.ts∧Below w.heap.size w w':=by
 obtain⟨w1,hw1⟩:∃w1,w1=((w.alloc (.cells (snA v c) 66)).alloc (.cells zeroSn 54)).alloc (.cells #[.int .i64 c.tr,.slice none 0 0] 54):=⟨_,rfl⟩
 have q0:StB w1 (w.heap.size+1) 54 zeroSn:=by
  rw[hw1]
  have:=(StB.new (w.alloc (.cells (snA v c) 66)) 54 zeroSn).alloc (.cells #[.int .i64 c.tr,.slice none 0 0] 54)
  rwa[World.size_alloc]at this
 have r0:StB w1 (w.heap.size+1+1) 54 #[.int .i64 c.tr,.slice none 0 0]:=by
  rw[hw1]
  have:=StB.new ((w.alloc (.cells (snA v c) 66)).alloc (.cells zeroSn 54)) 54 #[.int .i64 c.tr,.slice none 0 0]
  rwa[World.size_alloc,World.size_alloc]at this
 have b1:Below w.heap.size w w1:=by rw[hw1];exact(((Below.refl _ _).alloc (Nat.le_refl _) _).alloc (by simp) _).alloc (by simp;omega) _
 have c1:=to_any v c.ts w1 (hr.below b1 (Nat.le_refl _)) hl
 have hs1:=r0.lt
 obtain⟨ao,cap,rfl⟩:=reads_form hr
 have HW:Hid (w1=((w.alloc (.cells #[.int .i64 c.tr,.slice ao c.ts.length cap] 66)).alloc (.cells #[.int .i64 0,.slice none 0 0] 54)).alloc (.cells #[.int .i64 c.tr,.slice none 0 0] 54)):=hw1
 clear hw1 hr hl
 unfold SnV
 conv in snA (.slice ao c.ts.length cap) c=>unfold snA
 go_enter Tryz.func56,Tryz.ntmps56
 go_wp2_with fail
 rw[←HW.out]
 clear HW
 refine c1.mono ?_
 rintro e w3 ⟨u,rfl,o3,b3⟩
 replace q0:=q0.below b3
 replace r0:=r0.below b3
 have B3:=b1.trans (b3.mono b1.size)
 obtain⟨ab,cb,rfl⟩:=reads_form o3.reads
 have m4:w3.cell? ⟨w.heap.size+1+1,1,none⟩=some (.slice none 0 0):=r0.cell 1 rfl
 have f4:=r0.frozen 1
 have R4:=r0.put 1 (.slice ab c.ts.length cb) (ds:=snA (.slice ab c.ts.length cb) c) rfl
 have Q4:=q0.other ⟨w.heap.size+1+1,1,none⟩ (.slice ab c.ts.length cb) (by simp)
 have HP:Hid (Own (w3.setCell ⟨w.heap.size+1+1,1,none⟩ (.slice ab c.ts.length cb)) w1.heap.size (.slice ab c.ts.length cb) c.ts∧Below w.heap.size w (w3.setCell ⟨w.heap.size+1+1,1,none⟩ (.slice ab c.ts.length cb))):=⟨o3.setLt (by omega) 1 _,B3.setCell (by simp;omega) _⟩
 clear q0 r0 c1 o3 b3 b1 B3
 go_upto_region 4 with fail
 obtain⟨w4,hw4⟩:∃w4,w4=w3.setCell ⟨w.heap.size+1+1,1,none⟩ (.slice ab c.ts.length cb):=⟨_,rfl⟩
 rw[←hw4]at R4 Q4 HP⊢
 clear hw4 m4 f4
 go_wp2_with (first|(refine wpList_getS Tryz.isSn rfl _ rfl (w.heap.size+1+1) rfl (snA (.slice ab c.ts.length cb) c) rfl R4 ?_)|(refine wpList_putS Tryz.isSn rfl _ _ rfl (w.heap.size+1) (snA (.slice ab c.ts.length cb) c) zeroSn rfl rfl rfl rfl (snA_one c rfl) Q4 ?_;intro w8 s8 g8))
 refine bodyPost_ret (results_S Tryz.isSn rfl _ _ (w.heap.size+1) _ rfl rfl s8) rfl ?_
 exact⟨_,rfl,(HP.out.1.keptLt g8 (by omega)).mono (by omega),HP.out.2.grown g8 HP.out.2.size (fun k e=>by cases e;omega)⟩
theorem eqSink_any (u v:Value) (c:Sn) (w:World) (hu:Reads w u c.ts) (hv:Reads w v c.ts) (hl:c.ts.length≤1099511627776):
  Calls Tryz.prog 66 #[SnV u c,SnV v c] w fun e w'=>e=.returned (.bool true)∧Below w.heap.size w w':=by
 obtain⟨w1,hw1⟩:∃w1,w1=(w.alloc (.cells (snA u c) 54)).alloc (.cells (snA v c) 54):=⟨_,rfl⟩
 have HB:Hid (Below w.heap.size w w1):=by rw[hw1];exact((Below.refl _ _).alloc (Nat.le_refl _) _).alloc (by simp) _
 have c1:=eq_any u v c.ts c.ts w1 (hu.below HB.out (Nat.le_refl _)) (hv.below HB.out (Nat.le_refl _)) hl
 rw[show decide (c.ts=c.ts)=true by simp]at c1
 obtain⟨ao,ca,rfl⟩:=reads_form hu
 obtain⟨bo,cb,rfl⟩:=reads_form hv
 have HW:Hid (w1=(w.alloc (.cells #[.int .i64 c.tr,.slice ao c.ts.length ca] 54)).alloc (.cells #[.int .i64 c.tr,.slice bo c.ts.length cb] 54)):=hw1
 clear hw1 hu hv hl
 unfold SnV snA
 go_enter Tryz.func66,Tryz.ntmps66
 go_wp2_with fail
 rw[←HW.out]
 clear HW
 refine c1.mono ?_
 rintro e w3 ⟨rfl,n3,hw3⟩
 have B3:Hid (Below w.heap.size w w3):=by rw[hw3];exact below_drewN HB.out n3
 clear hw3 c1 HB
 go_wp2
 go_ret
 exact⟨rfl,B3.out⟩
end Go.Proofs.YtflbcjgkdokhiaaGreatDoor
namespace Go.Proofs.YtflbcjgkdokhiaaGreatDoor
open Go.ChangeShapes Go.WideShapes Go.ChangeAt Go.RowKit
end Go.Proofs.YtflbcjgkdokhiaaGreatDoor
namespace Go.Proofs.YtflbcjgkdokhiaaGreatDoor
open Go.ChangeShapes Go.WideShapes Go.ChangeAt Go.RowKit
def Dsk (u v:Value) (xs ys:List Int):Item:=⟨u.ownBlock.toList++v.ownBlock.toList,0,fun w=>OwnD w 0 u v xs ys,fun _ _ e _ h=>⟨h.1.frame (fun b hb=>e b (List.mem_append_left _ hb)),h.2.1.frame (fun b hb=>e b (List.mem_append_right _ hb)),h.2.2⟩⟩
theorem Sta.disk {w wx wy:World} {L:List Item} {u v:Value} {xs ys:List Int} (h:Sta w wx L) (o:OwnD wy wx.heap.size u v xs ys) (b:Below wx.heap.size wx wy):Sta w wy (Dsk u v xs ys::L):=
 h.add b (Dsk u v xs ys) ⟨o.1.mono (Nat.zero_le _),o.2.1.mono (Nat.zero_le _),o.2.2⟩ (fun k hk=>by
  simp only[Dsk,List.mem_append,Option.mem_toList]at hk
  rcases hk with hk|hk
  ·exact o.1.lt k hk
  ·exact o.2.1.lt k hk)
theorem Marked.turned {w w':World} {u v:Value} (h:Marked w w' u v):Turned w w' (u.ownBlock.toList++v.ownBlock.toList):=by
 obtain⟨w1,g1,g2⟩:=h
 exact(Turned.of_grown g1).trans (Turned.of_grown g2)
theorem Sta.marked {w wx wy:World} {L:List Item} {u v:Value} {xs ys zs ts:List Int} (h:Sta w wx L) (n:Nat) (e:L[n]?=some (Dsk u v xs ys)) (o:OwnD wy 0 u v zs ts) (m:Marked wx wy u v):Sta w wy (L.set n (Dsk u v zs ts)):=
 h.turn n e m.turned (Dsk u v zs ts) rfl o
theorem Sta.readsU {w wx:World} {L:List Item} {u v:Value} {xs ys:List Int} (h:Sta w wx L) (n:Nat) (e:L[n]?=some (Dsk u v xs ys)):Reads wx u xs:=(h.get n e).1.reads
theorem Sta.readsV {w wx:World} {L:List Item} {u v:Value} {xs ys:List Int} (h:Sta w wx L) (n:Nat) (e:L[n]?=some (Dsk u v xs ys)):Reads wx v ys:=(h.get n e).2.1.reads
theorem Sta.ones {w wx:World} {L:List Item} {u v:Value} {xs ys:List Int} (h:Sta w wx L) (n:Nat) (e:L[n]?=some (Dsk u v xs ys)):(#[u,v]:Array Value).all (·.oneCell')=true:=pair_one (h.readsU n e).one (h.readsV n e).one
theorem apart_blocks {i j:List Nat} {u v:Value} (hi:i=u.ownBlock.toList) (hj:j=v.ownBlock.toList) (h:∀b∈i,b∉j):apart u v:=by
 subst hi hj
 refine⟨?_,?_⟩
 ·by_cases e:u.ownBlock=none
  ·exact .inl e
  ·refine .inr fun e2=>?_
   obtain⟨g,hg⟩:=Option.ne_none_iff_exists'.1 e
   exact h g (by simp[hg]) (by simp[←e2,hg])
 ·by_cases e:v.ownBlock=none
  ·exact .inl e
  ·refine .inr fun e2=>?_
   obtain⟨g,hg⟩:=Option.ne_none_iff_exists'.1 e
   exact h g (by simp[←e2,hg]) (by simp[hg])
theorem Sta.two {w wx:World} {L:List Item} {u v:Value} {xs ys:List Int} (h:Sta w wx (Lst u xs::Lst v ys::L)):Sta w wx (Dsk u v xs ys::L):=
 h.join (Dsk u v xs ys) rfl ⟨h.get 0 rfl,h.get 1 rfl,apart_blocks rfl rfl (h.apart.1 (Lst v ys) (by simp))⟩
end Go.Proofs.YtflbcjgkdokhiaaGreatDoor
