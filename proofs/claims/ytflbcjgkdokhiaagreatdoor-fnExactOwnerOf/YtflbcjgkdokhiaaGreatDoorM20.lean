/- A table keyed by two truths, in a block: what it holds, and the runs of Go's operations on it. -/
import Derived.Test.YtflbcjgkdokhiaaGreatDoorM4
import Derived.MapKept
import Derived.Carry
import Derived.OwnWalk
import Derived.Test.YtflbcjgkdokhiaaGreatDoorM6
import Derived.Deep.RegionHeld3
import Derived.Deep.DeepCutAuto
import Derived.Test.YtflbcjgkdokhiaaGreatDoorM19
import Derived.Test.YtflbcjgkdokhiaaGreatDoorM16
namespace Go.Proofs.YtflbcjgkdokhiaaGreatDoor
open Go.ChangeShapes Go.WideShapes Go.ChangeAt Go.RowKit
def keyB (x y:Bool):Value:=.agg #[.bool x,.bool y]
def entB (p:Bool×Bool×Nat):MapEntry:=⟨keyB p.1 p.2.1,.int .i64 1,p.2.2⟩
def hasBK (l:List (Bool×Bool×Nat)) (x y:Bool):Bool:=l.any fun p=>x==p.1&&y==p.2.1
def ApartB (l:List (Bool×Bool×Nat)):Prop:=l.Pairwise fun p q=>(p.1==q.1&&p.2.1==q.2.1)=false
def MB (w:World) (b:Nat) (t:Bool→Bool→Bool):Prop:=
 ∃l clock,w.heap[b]?=some (.map (l.map entB).toArray clock)∧ApartB l∧∀x y,hasBK l x y=t x y
theorem MB.of (w w':World) (b:Nat) (t:Bool→Bool→Bool) (h:MB w b t) (e:w'.heap[b]?=w.heap[b]?):MB w' b t:=by
 obtain⟨l,c,hb,ha,ht⟩:=h
 exact⟨l,c,e.trans hb,ha,ht⟩
theorem MB.lt {w:World} {b:Nat} {t:Bool→Bool→Bool} (h:MB w b t):b<w.heap.size:=by
 obtain⟨l,c,hb,_,_⟩:=h
 exact(Array.getElem?_eq_some_iff.1 hb).1
end Go.Proofs.YtflbcjgkdokhiaaGreatDoor
set_option maxRecDepth 20000
set_option maxHeartbeats 400000
namespace Go.Proofs.YtflbcjgkdokhiaaGreatDoor
open Go.ChangeShapes Go.WideShapes Go.ChangeAt Go.RowKit
def heldI (k:Int):Int:=if k=1 then 1 else if k=2 then 1 else if k=3 then 2 else if k=4 then 2 else if k=5 then 3 else if k=6 then 3 else 0
def whatI (k:Int):Int:=if k=1 then 1 else if k=2 then 2 else if k=3 then 1 else if k=4 then 2 else if k=5 then 1 else if k=6 then 2 else 0
theorem Tryz.isShape:IsS 176 2:=⟨⟨_,Tryz.underlying176⟩,by kernel_rfl⟩
theorem ishape_any (k:Int) (w:World):
  Calls Tryz.prog 146 #[.int .i64 k] w fun e w'=>e=.returned (.agg #[.int .i64 (heldI k),.int .i64 (whatI k)])∧Below w.heap.size w w':=by
 have b1:=(Below.refl w.heap.size w).alloc (Nat.le_refl _)
 rcases kinds k with h|h|h|h|h|h|h|⟨_,h0,h1,h2,h3,h4,h5,h6⟩
 ·subst h
  go_enter Tryz.func146,Tryz.ntmps146
  go_wp2
  refine bodyPost_ret (results_S Tryz.isShape rfl _ _ w.heap.size _ rfl rfl (StB.new w _ _)) rfl ?_
  exact⟨rfl,b1 _⟩
 ·subst h
  go_enter Tryz.func146,Tryz.ntmps146
  go_wp2
  refine bodyPost_ret (results_S Tryz.isShape rfl _ _ w.heap.size _ rfl rfl (StB.new w _ _)) rfl ?_
  exact⟨rfl,b1 _⟩
 ·subst h
  go_enter Tryz.func146,Tryz.ntmps146
  go_wp2
  refine bodyPost_ret (results_S Tryz.isShape rfl _ _ w.heap.size _ rfl rfl (StB.new w _ _)) rfl ?_
  exact⟨rfl,b1 _⟩
 ·subst h
  go_enter Tryz.func146,Tryz.ntmps146
  go_wp2
  refine bodyPost_ret (results_S Tryz.isShape rfl _ _ w.heap.size _ rfl rfl (StB.new w _ _)) rfl ?_
  exact⟨rfl,b1 _⟩
 ·subst h
  go_enter Tryz.func146,Tryz.ntmps146
  go_wp2
  refine bodyPost_ret (results_S Tryz.isShape rfl _ _ w.heap.size _ rfl rfl (StB.new w _ _)) rfl ?_
  exact⟨rfl,b1 _⟩
 ·subst h
  go_enter Tryz.func146,Tryz.ntmps146
  go_wp2
  refine bodyPost_ret (results_S Tryz.isShape rfl _ _ w.heap.size _ rfl rfl (StB.new w _ _)) rfl ?_
  exact⟨rfl,b1 _⟩
 ·subst h
  go_enter Tryz.func146,Tryz.ntmps146
  go_wp2
  refine bodyPost_ret (results_S Tryz.isShape rfl _ _ w.heap.size _ rfl rfl (StB.new w _ _)) rfl ?_
  exact⟨rfl,b1 _⟩
 ·have he:heldI k=0:=by simp[heldI,h1,h2,h3,h4,h5,h6]
  have hf:whatI k=0:=by simp[whatI,h1,h2,h3,h4,h5,h6]
  rw[he,hf]
  clear he hf
  go_enter Tryz.func146,Tryz.ntmps146
  go_wp2
  refine bodyPost_ret (results_S Tryz.isShape rfl _ _ w.heap.size _ rfl rfl (StB.new w _ _)) rfl ?_
  exact⟨rfl,b1 _⟩
theorem ikind_any (k:Int) (w:World):
  Calls Tryz.prog 139 #[.int .i64 k] w fun e w'=>e=.returned (.bool (kiI k))∧Below w.heap.size w w':=by
 have c1:=ishape_any k w
 rcases kinds k with h|h|h|h|h|h|h|⟨hk,h0,h1,h2,h3,h4,h5,h6⟩
 all_goals first
  |(subst h
    go_enter Tryz.func139,Tryz.ntmps139
    go_wp2_with fail
    refine c1.mono ?_
    rintro e w2 ⟨rfl,b2⟩
    go_wp2
    go_ret
    exact⟨rfl,b2⟩)
  |(have he:heldI k=0:=by simp[heldI,h1,h2,h3,h4,h5,h6]
    have hf:whatI k=0:=by simp[whatI,h1,h2,h3,h4,h5,h6]
    rw[he,hf]at c1
    rw[hk]
    clear he hf
    go_enter Tryz.func139,Tryz.ntmps139
    go_wp2_with fail
    refine c1.mono ?_
    rintro e w2 ⟨rfl,b2⟩
    go_wp2
    go_ret
    exact⟨rfl,b2⟩)
theorem allI_held (k:Int):allI k=decide (heldI k=3):=by
 rcases kinds k with h|h|h|h|h|h|h|⟨hk,h0,h1,h2,h3,h4,h5,h6⟩
 all_goals first|(subst h;rfl)|(rw[none_all k hk,show heldI k=0 by simp[heldI,h1,h2,h3,h4,h5,h6]];rfl)
theorem iall_any (k:Int) (w:World):
  Calls Tryz.prog 137 #[.int .i64 k] w fun e w'=>e=.returned (.bool (allI k))∧Below w.heap.size w w':=by
 have c1:=ishape_any k w
 rw[allI_held]
 obtain⟨p,hp⟩:∃p,p=heldI k:=⟨_,rfl⟩
 obtain⟨q,hq⟩:∃q,q=whatI k:=⟨_,rfl⟩
 rw[←hp,←hq]at c1
 rw[←hp]
 clear hp hq
 go_enter Tryz.func137,Tryz.ntmps137
 go_wp2_with fail
 refine c1.mono ?_
 rintro e w2 ⟨rfl,b2⟩
 have hf:∀wx,(Instr.field 176 (.agg #[.int .i64 p,.int .i64 q]) 0).run Tryz.prog wx=.ok (.int .i64 p) wx:=fun wx=>by kernel_rfl
 go_wp2
 go_ret
 exact⟨ret_bool (by by_cases h:p=3<;>simp[h]),b2⟩
def MBB (w0 w:World) (b:Nat) (t:Bool→Bool→Bool):Prop:=MB w b t∧Below w0.heap.size w0 w∧w0.heap.size≤b
theorem MBB.grown {w0 w w':World} {b:Nat} {t s:Bool→Bool→Bool} (h:MBB w0 w b t) (hm:MB w' b s) (hg:w.grownBy w' (some b)):MBB w0 w' b s:=
 ⟨hm,h.2.1.grown hg h.2.1.size (fun k e=>by cases e;exact h.2.2),h.2.2⟩
theorem MBB.below {w0 w w':World} {b:Nat} {t:Bool→Bool→Bool} (h:MBB w0 w b t) (hb:Below w.heap.size w w'):MBB w0 w' b t:=
 ⟨MB.of w w' b t h.1 (hb.block b h.1.lt),h.2.1.trans (hb.mono h.2.1.size),h.2.2⟩
def SB (w0 w:World) (b:Nat) (t:Bool→Bool→Bool) (g:Nat) (p q:Int):Prop:=MBB w0 w b t∧StB w g 176 #[.int .i64 p,.int .i64 q]∧b≠g
theorem SB.grown {w0 w w':World} {b g:Nat} {t s:Bool→Bool→Bool} {p q:Int} (h:SB w0 w b t g p q) (hm:MBB w0 w' b s) (hg:w.grownBy w' (some b)):Hid (SB w0 w' b s g p q):=
 ⟨hm,h.2.1.kept hg (fun e=>h.2.2 (by cases e;rfl)),h.2.2⟩
end Go.Proofs.YtflbcjgkdokhiaaGreatDoor
namespace Go.Proofs.YtflbcjgkdokhiaaGreatDoor
open Go.ChangeShapes Go.WideShapes Go.ChangeAt Go.RowKit
end Go.Proofs.YtflbcjgkdokhiaaGreatDoor
set_option maxRecDepth 20000
set_option maxHeartbeats 2000000
namespace Go.Proofs.YtflbcjgkdokhiaaGreatDoor
open Go.ChangeShapes Go.WideShapes Go.ChangeAt Go.RowKit
def heA (f:Nat→Int) (kd ho tu:Int):Array Value:=#[.int .i64 (f 0),.int .i64 (f 1),.int .i64 (f 2),.int .i64 (f 3),.int .i64 kd,.int .i64 ho,.int .i64 tu]
def midF (f:Nat→Int) (kd ho:Int):Bool:=if kd=0 then decide (ho= -1)else if allI kd then decide (ho= -1)&&anyF f else kiI kd&&(inI ho 0 3&&decide (f ho.toNat≠0))
theorem Tryz.isHeld:IsS 155 7:=⟨⟨_,Tryz.underlying155⟩,by kernel_rfl⟩
theorem heA_cells {w:World} {g:Nat} {f:Nat→Int} {kd ho tu:Int} (h:StB w g 155 (heA f kd ho tu)):
  w.cell? ⟨g,0,none⟩=some (.int .i64 (f 0))∧w.cell? ⟨g,1,none⟩=some (.int .i64 (f 1))∧w.cell? ⟨g,2,none⟩=some (.int .i64 (f 2))∧w.cell? ⟨g,3,none⟩=some (.int .i64 (f 3))∧w.cell? ⟨g,4,none⟩=some (.int .i64 kd)∧w.cell? ⟨g,5,none⟩=some (.int .i64 ho)∧w.cell? ⟨g,6,none⟩=some (.int .i64 tu):=
 ⟨h.cell 0 rfl,h.cell 1 rfl,h.cell 2 rfl,h.cell 3 rfl,h.cell 4 rfl,h.cell 5 rfl,h.cell 6 rfl⟩
theorem iholderok_any (f:Nat→Int) (kd ho tu:Int) (w:World):
  Calls Tryz.prog 126 #[.agg (heA f kd ho tu)] w fun e w'=>e=.returned (.bool (midF f kd ho))∧Below w.heap.size w w':=by
 obtain⟨w1,hw1⟩:∃w1,w1=w.alloc (.cells (heA f kd ho tu) 155):=⟨_,rfl⟩
 have HB:Hid (Below w.heap.size w w1):=by rw[hw1];exact(Below.refl _ _).alloc (Nat.le_refl _) _
 have H1:Hid (StB w1 w.heap.size 155 (heA f kd ho tu)):=by rw[hw1];exact StB.new _ _ _
 have HE:Hid (midF f kd ho=(if kd=0 then decide (ho= -1)else if allI kd then decide (ho= -1)&&anyF f else kiI kd&&(inI ho 0 3&&decide (f ho.toNat≠0)))):=rfl
 obtain⟨x,hx⟩:∃x,x=midF f kd ho:=⟨_,rfl⟩
 rw[←hx]at HE⊢
 clear hx
 have c1:=fun wx=>iall_any kd wx
 have c2:=fun wx=>ikind_any kd wx
 have c3:=fun wx=>ianyreg_any f wx
 have c4:=fun wx=>iregd_any f ho wx
 obtain⟨a1,ha1⟩:∃a1,a1=allI kd:=⟨_,rfl⟩
 obtain⟨a2,ha2⟩:∃a2,a2=kiI kd:=⟨_,rfl⟩
 obtain⟨a3,ha3⟩:∃a3,a3=anyF f:=⟨_,rfl⟩
 obtain⟨a4,ha4⟩:∃a4,a4=(inI ho 0 3&&decide (f ho.toNat≠0)):=⟨_,rfl⟩
 simp only[←ha1,←ha2,←ha3,←ha4]at c1 c2 c3 c4 HE
 clear ha1 ha2 ha3 ha4
 by_cases h0:kd=0
 ·clear c1 c2 c3 c4
  obtain⟨-, -, -, -,k4,k5, -⟩:=heA_cells H1.out
  have HX:Hid (x=decide (ho= -1)):=by rw[Hid,HE.out,if_pos h0]
  clear HE H1
  unfold heA at*
  by_cases ho1:ho= -1
  ·subst hw1
   go_enter Tryz.func126,Tryz.ntmps126
   go_wp2
   go_ret
   exact⟨ret_bool (by rw[HX.out];simp[ho1]),by simpa[h0,ho1]using HB.out⟩
  ·have ho2:(ho== -1)=false:=by simpa using ho1
   subst hw1
   go_enter Tryz.func126,Tryz.ntmps126
   go_wp2
   go_ret
   exact⟨ret_bool (by rw[HX.out];simp[ho1]),by simpa[h0]using HB.out⟩
 ·have h0n:(kd==0)=false:=by simpa using h0
  cases a1 with
  |true=>
   have HX:Hid (x=(decide (ho= -1)&&a3)):=by rw[Hid,HE.out,if_neg h0,if_pos rfl]
   clear HE c2 c4
   unfold kA at*
   rw[heA]at hw1⊢
   go_enter Tryz.func126,Tryz.ntmps126
   go_wp2_with fail
   rw[←hw1]
   refine(c1 _).mono ?_
   rintro e w2 ⟨rfl,b2⟩
   have HB2:Hid (Below w.heap.size w w2):=HB.out.trans (b2.mono HB.out.size)
   obtain⟨k0,k1,k2,k3,k4,k5, -⟩:=heA_cells (H1.out.below b2)
   clear b2 c1 H1 HB hw1
   by_cases ho1:ho= -1
   ·rw[ho1]at k5
    go_wp2_with fail
    refine(c3 _).mono ?_
    rintro e w3 ⟨rfl,b3⟩
    have HB3:Hid (Below w.heap.size w w3):=HB2.out.trans (b3.mono HB2.out.size)
    clear b3 c3 k0 k1 k2 k3 k4 k5
    cases a3<;>
    ·go_wp2
     go_ret
     exact⟨ret_bool (by rw[HX.out];simp[ho1]),HB3.out⟩
   ·have ho2:(ho== -1)=false:=by simpa using ho1
    clear c3
    go_wp2
    go_ret
    exact⟨ret_bool (by rw[HX.out];simp[ho1]),HB2.out⟩
  |false=>
   have HX:Hid (x=(a2&&a4)):=by rw[Hid,HE.out,if_neg h0,if_neg (by decide)]
   clear HE c3
   unfold kA at*
   rw[heA]at hw1⊢
   go_enter Tryz.func126,Tryz.ntmps126
   go_wp2_with fail
   rw[←hw1]
   refine(c1 _).mono ?_
   rintro e w2 ⟨rfl,b2⟩
   have HB2:Hid (Below w.heap.size w w2):=HB.out.trans (b2.mono HB.out.size)
   have H2:=H1.out.below b2
   obtain⟨k0,k1,k2,k3,k4,k5, -⟩:=heA_cells H2
   have HH2:Hid (StB w2 w.heap.size 155 (heA f kd ho tu)):=H2
   clear b2 c1 H1 HB hw1 H2
   go_wp2_with fail
   refine(c2 _).mono ?_
   rintro e w3 ⟨rfl,b3⟩
   have HB3:Hid (Below w.heap.size w w3):=HB2.out.trans (b3.mono HB2.out.size)
   obtain⟨m0,m1,m2,m3,m4,m5, -⟩:=heA_cells (HH2.out.below b3)
   clear b3 c2 k0 k1 k2 k3 k4 k5 HH2 HB2
   cases a2 with
   |false=>
    clear c4
    go_wp2
    go_ret
    exact⟨ret_bool (by rw[HX.out];simp),HB3.out⟩
   |true=>
    go_wp2_with fail
    refine(c4 _).mono ?_
    rintro e w4 ⟨rfl,b4⟩
    have HB4:Hid (Below w.heap.size w w4):=HB3.out.trans (b4.mono HB3.out.size)
    clear b4 c4 m0 m1 m2 m3 m4 m5
    cases a4<;>
    ·go_wp2
     go_ret
     exact⟨ret_bool (by rw[HX.out];simp),HB4.out⟩
end Go.Proofs.YtflbcjgkdokhiaaGreatDoor
set_option maxRecDepth 20000
set_option maxHeartbeats 2000000
namespace Go.Proofs.YtflbcjgkdokhiaaGreatDoor
open Go.ChangeShapes Go.WideShapes Go.ChangeAt Go.RowKit
theorem anyF_KF {ks:List Int} (h:ks.length=4):anyF (KF ks)=anyI ks:=by
 match ks,h with
 |[a,b,c,d],_=>simp[anyF,KF,anyI,Bool.or_assoc,bne,decide_not];rfl
theorem midF_KF {h:Hd} (e:h.ks.length=4):midF (KF h.ks) h.kd h.ho=h.mid:=by
 unfold midF Hd.mid
 rw[anyF_KF e]
 unfold regI KF
 simp only[Bool.and_assoc]
theorem ok_row {h:Hd} (e:rowOk h.ks=true):h.ok=(midF (KF h.ks) h.kd h.ho&&inI h.tu 0 1000000000):=by
 unfold rowOk at e
 simp only[Bool.and_eq_true,decide_eq_true_eq]at e
 rw[midF_KF e.1]
 unfold Hd.ok
 rw[e.2]
 simp[e.1,Bool.and_comm]
theorem ok_norow {h:Hd} (e:rowOk h.ks=false):h.ok=false:=by
 unfold Hd.ok
 unfold rowOk at e
 cases h1:decide (h.ks.length=4)
 ·simp
 ·rw[h1]at e;simp at e;simp[e]
def heldV (h:Hd):Array Value:=if h.ok then heA (KF h.ks) h.kd h.ho h.tu else heA (fun _=>0) 0 0 0
theorem heA_one (f:Nat→Int) (a b c:Int):(heA f a b c).all (·.oneCell')=true:=by simp[heA,Value.oneCell']
theorem iheldof_any (v:Value) (h:Hd) (w:World) (hr:Reads w v h.ks) (hl:h.ks.length≤1099511627776):
  Calls Tryz.prog 116 #[HV v h] w fun e w'=>e=.returned (.tuple #[.agg (heldV h),.bool h.ok])∧Below w.heap.size w w':=by
 obtain⟨w1,hw1⟩:∃w1,w1=(w.alloc (.cells (hdA v h) 48)).alloc (.cells (heA (fun _=>0) 0 0 0) 155):=⟨_,rfl⟩
 have HB:Hid (Below w.heap.size w w1):=by rw[hw1];exact((Below.refl _ _).alloc (Nat.le_refl _) _).alloc (by simp) _
 have P1:Hid (StB w1 w.heap.size 48 (hdA v h)):=by rw[hw1];exact(StB.new _ _ _).alloc _
 have R1:Hid (StB w1 (w.heap.size+1) 155 (heA (fun _=>0) 0 0 0)):=by
  rw[hw1]
  have:=StB.new (w.alloc (.cells (hdA v h) 48)) 155 (heA (fun _=>0) 0 0 0)
  rwa[World.size_alloc]at this
 have c1:=ikeyrow_any v h.ks w1 (hr.below HB.out (Nat.le_refl _)) hl
 have c2:∀f wx,_:=fun f wx=>iholderok_any f h.kd h.ho h.tu wx
 have c3:=fun wx=>iturnok_any h.tu wx
 have hs1:w.heap.size+1<w1.heap.size:=R1.out.lt
 have F4:Hid (rowOk h.ks=true→h.ok=(midF (rowKF h.ks) h.kd h.ho&&inI h.tu 0 1000000000)):=fun e=>by rw[ok_row e,rowKF_yes e]
 have F5:Hid (rowOk h.ks=true→h.ok=true→heldV h=heA (rowKF h.ks) h.kd h.ho h.tu):=fun e e2=>by rw[heldV,e2,rowKF_yes e];rfl
 have F6:Hid (h.ok=false→heldV h=heA (fun _=>0) 0 0 0):=fun e=>by rw[heldV,e];rfl
 have F3:Hid (rowOk h.ks=false→h.ok=false):=ok_norow
 obtain⟨ao,cap,rfl⟩:=reads_form hr
 obtain⟨rk,hrk⟩:∃rk,rk=rowOk h.ks:=⟨_,rfl⟩
 obtain⟨ok,hok⟩:∃ok,ok=h.ok:=⟨_,rfl⟩
 obtain⟨hv,hhv⟩:∃hv,hv=heldV h:=⟨_,rfl⟩
 rw[←hrk]at c1 F3 F4 F5
 rw[←hok]at F3 F4 F5 F6⊢
 rw[←hhv]at F5 F6⊢
 clear hrk hr hl hok hhv
 unfold HV
 rw[hdA,heA]at hw1
 rw[hdA]
 obtain⟨f,hf⟩:∃f,f=rowKF h.ks:=⟨_,rfl⟩
 rw[←hf]at c1 F4 F5
 clear hf
 have p0:w1.cell? ⟨w.heap.size,0,none⟩=some (.slice ao h.ks.length cap):=P1.out.cell 0 rfl
 have C2:Hid _:=c2
 have C3:Hid _:=c3
 clear c2 c3
 go_enter Tryz.func116,Tryz.ntmps116
 go_wp2_with fail
 rw[←hw1]
 refine c1.mono ?_
 rintro e w2 ⟨rfl,b2⟩
 have HB2:Hid (Below w.heap.size w w2):=HB.out.trans (b2.mono HB.out.size)
 have P2:Hid (StB w2 w.heap.size 48 (hdA (.slice ao h.ks.length cap) h)):=P1.out.below b2
 have R2:Hid (StB w2 (w.heap.size+1) 155 (heA (fun _=>0) 0 0 0)):=R1.out.below b2
 have s2:w.heap.size+1<w2.heap.size:=R2.out.lt
 have z2:StB (w2.alloc (.cells (kA fun _=>0) 153)) w2.heap.size 153 (kA fun _=>0):=StB.new _ _ _
 clear b2 c1 P1 R1 HB hw1 p0 hs1
 go_upto_region 2 with(first|(refine wpList_putK rfl _ _ rfl w2.heap.size f rfl rfl _ z2 ?_;intro w3 h3 g3))
 have HB3:Hid (Below w.heap.size w w3):=HB2.out.trans (((Below.refl _ _).alloc (Nat.le_refl _) _ |>.grown g3 (by simp) (fun k e=>by cases e;exact Nat.le_refl _)).mono HB2.out.size)
 have b23:Below w2.heap.size w2 w3:=(Below.refl _ _).alloc (Nat.le_refl _) _ |>.grown g3 (by simp) (fun k e=>by cases e;exact Nat.le_refl _)
 have P3:Hid (StB w3 w.heap.size 48 (hdA (.slice ao h.ks.length cap) h)):=P2.out.below b23
 have R3:Hid (StB w3 (w.heap.size+1) 155 (heA (fun _=>0) 0 0 0)):=R2.out.below b23
 have K3:=h3
 have z3:StB (w3.alloc (.cells (heA (fun _=>0) 0 0 0) 155)) w3.heap.size 155 (heA (fun _=>0) 0 0 0):=StB.new _ _ _
 have p1:w3.cell? ⟨w.heap.size,1,none⟩=some (.int .i64 h.kd):=P3.out.cell 1 rfl
 have p2:w3.cell? ⟨w.heap.size,2,none⟩=some (.int .i64 h.ho):=P3.out.cell 2 rfl
 have p3:w3.cell? ⟨w.heap.size,3,none⟩=some (.int .i64 h.tu):=P3.out.cell 3 rfl
 have s3:=R3.out.lt
 clear b23 g3 h3 P2 R2 HB2 z2
 have k0:w3.cell? ⟨w2.heap.size,0,none⟩=some (.int .i64 (f 0)):=K3.cell 0 rfl
 have k1:w3.cell? ⟨w2.heap.size,1,none⟩=some (.int .i64 (f 1)):=K3.cell 1 rfl
 have k2:w3.cell? ⟨w2.heap.size,2,none⟩=some (.int .i64 (f 2)):=K3.cell 2 rfl
 have k3:w3.cell? ⟨w2.heap.size,3,none⟩=some (.int .i64 (f 3)):=K3.cell 3 rfl
 have HK3:Hid _:=K3
 have Z3:Hid _:=z3
 clear K3 z3
 go_upto_region 3 with(first|(refine wpList_putS Tryz.isHeld rfl _ _ rfl w3.heap.size (heA f h.kd h.ho h.tu) _ rfl rfl rfl rfl (heA_one _ _ _ _) Z3.out ?_;intro w4 h4 g4))
 have b34:Below w3.heap.size w3 w4:=(Below.refl _ _).alloc (Nat.le_refl _) _ |>.grown g4 (by simp) (fun k e=>by cases e;exact Nat.le_refl _)
 have HB4:Hid (Below w.heap.size w w4):=HB3.out.trans (b34.mono HB3.out.size)
 have R4:Hid (StB w4 (w.heap.size+1) 155 (heA (fun _=>0) 0 0 0)):=R3.out.below b34
 have H4:Hid (StB w4 w3.heap.size 155 (heA f h.kd h.ho h.tu)):=h4
 obtain⟨m0,m1,m2,m3,m4,m5,m6⟩:=heA_cells h4
 obtain⟨g,hg⟩:∃g,g=w3.heap.size:=⟨_,rfl⟩
 have HG:Hid (w.heap.size+1<g):=by rw[hg];exact s3
 rw[←hg]at m0 m1 m2 m3 m4 m5 m6 H4⊢
 clear hg b34 g4 h4 HB3 R3 P3 p1 p2 p3 k0 k1 k2 k3 HK3 Z3 s2 s3
 cases rk with
 |false=>
  have E:=F3.out rfl
  subst E
  have E2:=F6.out rfl
  subst E2
  clear F3 F4 F5 F6 C2 C3 m0 m1 m2 m3 m4 m5 m6
  go_wp2_with (first|(refine wpList_putS Tryz.isHeld rfl _ _ rfl (w.heap.size+1) (heA (fun _=>0) 0 0 0) _ rfl rfl rfl rfl (heA_one _ _ _ _) R4.out ?_;intro w5 h5 g5))
  refine bodyPost_ret (results_S2 Tryz.isHeld rfl _ _ (w.heap.size+1) _ _ rfl rfl rfl h5) rfl ?_
  exact⟨rfl,HB4.out.grown g5 HB4.out.size (fun k e=>by cases e;omega)⟩
 |true=>
  have G4:Hid _:=F4.out rfl
  have G5:Hid _:=F5.out rfl
  obtain⟨a,ha⟩:∃a,a=midF f h.kd h.ho:=⟨_,rfl⟩
  obtain⟨b,hb⟩:∃b,b=inI h.tu 0 1000000000:=⟨_,rfl⟩
  have c2:=C2.out f w4
  have c3:=C3.out
  rw[←ha]at c2 G4
  simp only[←hb]at c3 G4
  clear ha hb F3 F4 F5 C2 C3
  unfold heA at c2
  go_wp2_with fail
  refine c2.mono ?_
  rintro e w5 ⟨rfl,b5⟩
  have HB5:Hid (Below w.heap.size w w5):=HB4.out.trans (b5.mono HB4.out.size)
  have R5:Hid (StB w5 (w.heap.size+1) 155 (heA (fun _=>0) 0 0 0)):=R4.out.below b5
  have H5:Hid (StB w5 g 155 (heA f h.kd h.ho h.tu)):=H4.out.below b5
  obtain⟨-, -, -, -, -, -,n6⟩:=heA_cells H5.out
  clear m0 m1 m2 m3 m4 m5 m6 HB4 R4 H4 b5 c2
  cases a with
  |false=>
   have E:ok=false:=by rw[G4.out];rfl
   subst E
   have E2:=F6.out rfl
   subst E2
   clear G4 G5 F6 c3 n6
   go_wp2_with (first|(refine wpList_putS Tryz.isHeld rfl _ _ rfl (w.heap.size+1) (heA (fun _=>0) 0 0 0) _ rfl rfl rfl rfl (heA_one _ _ _ _) R5.out ?_;intro w6 h6 g6))
   refine bodyPost_ret (results_S2 Tryz.isHeld rfl _ _ (w.heap.size+1) _ _ rfl rfl rfl h6) rfl ?_
   exact⟨rfl,HB5.out.grown g6 HB5.out.size (fun k e=>by cases e;omega)⟩
  |true=>
   cases b with
   |false=>
    have E:ok=false:=by rw[G4.out];rfl
    subst E
    have E2:=F6.out rfl
    subst E2
    clear G4 G5 F6
    go_wp2_with (first|(go_at_call 106;refine(c3 _).mono ?_;rintro e w' ⟨rfl,hw⟩;subst w')|(refine wpList_putS Tryz.isHeld rfl _ _ rfl (w.heap.size+1) (heA (fun _=>0) 0 0 0) _ rfl rfl rfl rfl (heA_one _ _ _ _) R5.out ?_;intro w6 h6 g6))
    refine bodyPost_ret (results_S2 Tryz.isHeld rfl _ _ (w.heap.size+1) _ _ rfl rfl rfl h6) rfl ?_
    exact⟨rfl,HB5.out.grown g6 HB5.out.size (fun k e=>by cases e;omega)⟩
   |true=>
    have E:ok=true:=by rw[G4.out];rfl
    subst E
    have E2:=G5.out rfl
    subst E2
    clear G4 G5 F6
    go_wp2_with (first|(go_at_call 106;refine(c3 _).mono ?_;rintro e w' ⟨rfl,hw⟩;subst w')|(refine wpList_getS Tryz.isHeld rfl _ rfl g rfl _ rfl H5.out ?_)|(refine wpList_putS Tryz.isHeld rfl _ _ rfl (w.heap.size+1) (heA f h.kd h.ho h.tu) _ rfl rfl rfl rfl (heA_one _ _ _ _) R5.out ?_;intro w6 h6 g6))
    refine bodyPost_ret (results_S2 Tryz.isHeld rfl _ _ (w.heap.size+1) _ _ rfl rfl rfl h6) rfl ?_
    exact⟨rfl,HB5.out.grown g6 HB5.out.size (fun k e=>by cases e;omega)⟩
theorem heldV_form (h:Hd):∃f a b c,heldV h=heA f a b c∧(h.ok=true→f=KF h.ks∧a=h.kd∧b=h.ho∧c=h.tu):=by
 unfold heldV
 cases h.ok
 ·exact⟨fun _=>0,0,0,0,rfl,fun e=>by cases e⟩
 ·exact⟨_,_,_,_,rfl,fun _=>⟨rfl,rfl,rfl,rfl⟩⟩
theorem iholdok_any (v:Value) (h:Hd) (w:World) (hr:Reads w v h.ks) (hl:h.ks.length≤1099511627776):
  Calls Tryz.prog 98 #[HV v h] w fun e w'=>e=.returned (.bool h.ok)∧Below w.heap.size w w':=by
 have b1:Below w.heap.size w (w.alloc (.cells (hdA v h) 48)):=(Below.refl _ _).alloc (Nat.le_refl _) _
 have c1:=iheldof_any v h _ (hr.below b1 (Nat.le_refl _)) hl
 obtain⟨ao,cap,rfl⟩:=reads_form hr
 obtain⟨ok,hok⟩:∃ok,ok=h.ok:=⟨_,rfl⟩
 obtain⟨f,x,y,z,hf,hfo⟩:=heldV_form h
 rw[←hok]at c1⊢
 rw[hf]at c1
 clear hok hf hfo hr hl
 unfold HV hdA at*
 go_enter Tryz.func98,Tryz.ntmps98
 go_wp2_with fail
 refine c1.mono ?_
 rintro e w2 ⟨rfl,b2⟩
 have HB2:Hid (Below w.heap.size w w2):=b1.trans (b2.mono b1.size)
 have z2:Hid (StB (w2.alloc (.cells (heA (fun _=>0) 0 0 0) 155)) w2.heap.size 155 (heA (fun _=>0) 0 0 0)):=StB.new _ _ _
 clear c1 b1 b2
 go_wp2_with (first|(refine wpList_putS Tryz.isHeld rfl _ _ rfl w2.heap.size (heA f x y z) _ rfl rfl rfl rfl (heA_one _ _ _ _) z2.out ?_;intro w3 h3 g3))
 go_ret
 exact⟨rfl,HB2.out.trans (((Below.refl _ _).alloc (Nat.le_refl _) _ |>.grown g3 (by simp) (fun k e=>by cases e;exact Nat.le_refl _)).mono HB2.out.size)⟩
end Go.Proofs.YtflbcjgkdokhiaaGreatDoor
