import Derived.Test.YtpdggofaobmnlaaGreatDoorM9
import Derived.Test.YtpdggofaobmnlaaGreatDoorM5
/- Whether a command is right (the model's CmdOk, Changes); how the laws take one over and compare two. -/
set_option maxRecDepth 20000
set_option maxHeartbeats 1000000
namespace Go.Proofs.YtpdggofaobmnlaaGreatDoor
open Go.ChangeShapes Go.WideShapes Go.ChangeAt Go.RowKit
theorem ok_out {c:Cm} (h:inI c.o 1 12=false):c.ok=false:=by simp[Cm.ok,Cm.told,h]
theorem scmd_1 (p a b k:Int) (w:World):
  Calls Tryz.prog 15 #[CV ⟨1,p,a,b,k⟩] w fun e w'=>e=.returned (.bool (Cm.ok ⟨1,p,a,b,k⟩))∧Below w.heap.size w w':=by
 have hB:Below w.heap.size w (w.alloc (.cells #[.int .i64 1,.int .i64 p,.int .i64 a,.int .i64 b,.int .i64 k] 32)):=(Below.refl _ _).alloc (Nat.le_refl _) _
 have c0:∀wx,_:=fun wx=>sin6_any 1 1 12 wx
 have e0:inI 1 1 12=true:=rfl
 simp only[e0]at c0
 clear e0
 unfold CV cmA
 by_cases ha:a=0
 ·subst ha
  by_cases hb:b=0
  ·subst hb
   by_cases hk:k=0
   ·subst hk
    have he:Cm.ok ⟨1,p,0,0,0⟩=(inI p 0 255&&true&&true):=by simp[Cm.ok,Cm.told,Cm.fits,inI]
    rw[he]
    clear he
    have c1:=fun wx=>sin6_any p 0 255 wx
    have c2:=fun wx=>s6word_any 0 wx
    have c3:=fun wx=>s6word_any 0 wx
    obtain⟨b1,hb1⟩:∃b1,b1=inI p 0 255:=⟨_,rfl⟩
    simp only[←hb1]at c1⊢
    clear hb1
    have e2:inI 0 0 65535=true:=rfl
    simp only[e2]at c2
    clear e2
    have e3:inI 0 0 65535=true:=rfl
    simp only[e3]at c3
    clear e3
    go_enter Tryz.func15,Tryz.ntmps15
    go_wp2_with fail
    refine(c0 _).mono ?_
    rintro e w' ⟨rfl,hw⟩;subst w'
    clear c0
    go_wp2_with fail
    refine(c1 _).mono ?_
    rintro e w' ⟨rfl,hw⟩;subst w'
    cases b1 with
    |false=>
     go_wp2_with fail
     go_ret
     exact⟨rfl,hB⟩
    |true=>
     go_wp2_with fail
     refine(c2 _).mono ?_
     rintro e w' ⟨rfl,hw⟩;subst w'
     go_wp2_with fail
     refine(c3 _).mono ?_
     rintro e w' ⟨rfl,hw⟩;subst w'
     go_wp2_with fail
     go_ret
     exact⟨rfl,hB⟩
   ·have hne:(k !=0)=true:=by simpa using hk
    have he:Cm.ok ⟨1,p,0,0,k⟩=false:=by simp[Cm.ok,Cm.told,hk]
    rw[he]
    clear he
    go_enter Tryz.func15,Tryz.ntmps15
    go_wp2_with fail
    refine(c0 _).mono ?_
    rintro e w' ⟨rfl,hw⟩;subst w'
    clear c0
    go_wp2_with fail
    go_ret
    exact⟨rfl,hB⟩
  ·have hne:(b !=0)=true:=by simpa using hb
   have he:Cm.ok ⟨1,p,0,b,k⟩=false:=by simp[Cm.ok,Cm.told,hb]
   rw[he]
   clear he
   go_enter Tryz.func15,Tryz.ntmps15
   go_wp2_with fail
   refine(c0 _).mono ?_
   rintro e w' ⟨rfl,hw⟩;subst w'
   clear c0
   go_wp2_with fail
   go_ret
   exact⟨rfl,hB⟩
 ·have hne:(a !=0)=true:=by simpa using ha
  have he:Cm.ok ⟨1,p,a,b,k⟩=false:=by simp[Cm.ok,Cm.told,ha]
  rw[he]
  clear he
  go_enter Tryz.func15,Tryz.ntmps15
  go_wp2_with fail
  refine(c0 _).mono ?_
  rintro e w' ⟨rfl,hw⟩;subst w'
  clear c0
  go_wp2_with fail
  go_ret
  exact⟨rfl,hB⟩
theorem scmd_2 (p a b k:Int) (w:World):
  Calls Tryz.prog 15 #[CV ⟨2,p,a,b,k⟩] w fun e w'=>e=.returned (.bool (Cm.ok ⟨2,p,a,b,k⟩))∧Below w.heap.size w w':=by
 have hB:Below w.heap.size w (w.alloc (.cells #[.int .i64 2,.int .i64 p,.int .i64 a,.int .i64 b,.int .i64 k] 32)):=(Below.refl _ _).alloc (Nat.le_refl _) _
 have c0:∀wx,_:=fun wx=>sin6_any 2 1 12 wx
 have e0:inI 2 1 12=true:=rfl
 simp only[e0]at c0
 clear e0
 unfold CV cmA
 by_cases hb:b=0
 ·subst hb
  by_cases hk:k=0
  ·subst hk
   have he:Cm.ok ⟨2,p,a,0,0⟩=(inI p 0 255&&inI a 0 65535&&true):=by simp[Cm.ok,Cm.told,Cm.fits,inI]
   rw[he]
   clear he
   have c1:=fun wx=>sin6_any p 0 255 wx
   have c2:=fun wx=>s6word_any a wx
   have c3:=fun wx=>s6word_any 0 wx
   obtain⟨b1,hb1⟩:∃b1,b1=inI p 0 255:=⟨_,rfl⟩
   simp only[←hb1]at c1⊢
   clear hb1
   obtain⟨b2,hb2⟩:∃b2,b2=inI a 0 65535:=⟨_,rfl⟩
   simp only[←hb2]at c2⊢
   clear hb2
   have e3:inI 0 0 65535=true:=rfl
   simp only[e3]at c3
   clear e3
   go_enter Tryz.func15,Tryz.ntmps15
   go_wp2_with fail
   refine(c0 _).mono ?_
   rintro e w' ⟨rfl,hw⟩;subst w'
   clear c0
   go_wp2_with fail
   refine(c1 _).mono ?_
   rintro e w' ⟨rfl,hw⟩;subst w'
   cases b1 with
   |false=>
    go_wp2_with fail
    go_ret
    exact⟨rfl,hB⟩
   |true=>
    go_wp2_with fail
    refine(c2 _).mono ?_
    rintro e w' ⟨rfl,hw⟩;subst w'
    cases b2 with
    |false=>
     go_wp2_with fail
     go_ret
     exact⟨rfl,hB⟩
    |true=>
     go_wp2_with fail
     refine(c3 _).mono ?_
     rintro e w' ⟨rfl,hw⟩;subst w'
     go_wp2_with fail
     go_ret
     exact⟨rfl,hB⟩
  ·have hne:(k !=0)=true:=by simpa using hk
   have he:Cm.ok ⟨2,p,a,0,k⟩=false:=by simp[Cm.ok,Cm.told,hk]
   rw[he]
   clear he
   go_enter Tryz.func15,Tryz.ntmps15
   go_wp2_with fail
   refine(c0 _).mono ?_
   rintro e w' ⟨rfl,hw⟩;subst w'
   clear c0
   go_wp2_with fail
   go_ret
   exact⟨rfl,hB⟩
 ·have hne:(b !=0)=true:=by simpa using hb
  have he:Cm.ok ⟨2,p,a,b,k⟩=false:=by simp[Cm.ok,Cm.told,hb]
  rw[he]
  clear he
  go_enter Tryz.func15,Tryz.ntmps15
  go_wp2_with fail
  refine(c0 _).mono ?_
  rintro e w' ⟨rfl,hw⟩;subst w'
  clear c0
  go_wp2_with fail
  go_ret
  exact⟨rfl,hB⟩
theorem scmd_3 (p a b k:Int) (w:World):
  Calls Tryz.prog 15 #[CV ⟨3,p,a,b,k⟩] w fun e w'=>e=.returned (.bool (Cm.ok ⟨3,p,a,b,k⟩))∧Below w.heap.size w w':=by
 have hB:Below w.heap.size w (w.alloc (.cells #[.int .i64 3,.int .i64 p,.int .i64 a,.int .i64 b,.int .i64 k] 32)):=(Below.refl _ _).alloc (Nat.le_refl _) _
 have c0:∀wx,_:=fun wx=>sin6_any 3 1 12 wx
 have e0:inI 3 1 12=true:=rfl
 simp only[e0]at c0
 clear e0
 unfold CV cmA
 by_cases hk:k=0
 ·subst hk
  have he:Cm.ok ⟨3,p,a,b,0⟩=(inI p 0 255&&inI a 0 65535&&inI b 0 65535):=by simp[Cm.ok,Cm.told,Cm.fits,inI]
  rw[he]
  clear he
  have c1:=fun wx=>sin6_any p 0 255 wx
  have c2:=fun wx=>s6word_any a wx
  have c3:=fun wx=>s6word_any b wx
  obtain⟨b1,hb1⟩:∃b1,b1=inI p 0 255:=⟨_,rfl⟩
  simp only[←hb1]at c1⊢
  clear hb1
  obtain⟨b2,hb2⟩:∃b2,b2=inI a 0 65535:=⟨_,rfl⟩
  simp only[←hb2]at c2⊢
  clear hb2
  obtain⟨b3,hb3⟩:∃b3,b3=inI b 0 65535:=⟨_,rfl⟩
  simp only[←hb3]at c3⊢
  clear hb3
  go_enter Tryz.func15,Tryz.ntmps15
  go_wp2_with fail
  refine(c0 _).mono ?_
  rintro e w' ⟨rfl,hw⟩;subst w'
  clear c0
  go_wp2_with fail
  refine(c1 _).mono ?_
  rintro e w' ⟨rfl,hw⟩;subst w'
  cases b1 with
  |false=>
   go_wp2_with fail
   go_ret
   exact⟨rfl,hB⟩
  |true=>
   go_wp2_with fail
   refine(c2 _).mono ?_
   rintro e w' ⟨rfl,hw⟩;subst w'
   cases b2 with
   |false=>
    go_wp2_with fail
    go_ret
    exact⟨rfl,hB⟩
   |true=>
    go_wp2_with fail
    refine(c3 _).mono ?_
    rintro e w' ⟨rfl,hw⟩;subst w'
    go_wp2_with fail
    go_ret
    exact⟨rfl,hB⟩
 ·have hne:(k !=0)=true:=by simpa using hk
  have he:Cm.ok ⟨3,p,a,b,k⟩=false:=by simp[Cm.ok,Cm.told,hk]
  rw[he]
  clear he
  go_enter Tryz.func15,Tryz.ntmps15
  go_wp2_with fail
  refine(c0 _).mono ?_
  rintro e w' ⟨rfl,hw⟩;subst w'
  clear c0
  go_wp2_with fail
  go_ret
  exact⟨rfl,hB⟩
theorem scmd_4 (p a b k:Int) (w:World):
  Calls Tryz.prog 15 #[CV ⟨4,p,a,b,k⟩] w fun e w'=>e=.returned (.bool (Cm.ok ⟨4,p,a,b,k⟩))∧Below w.heap.size w w':=by
 have hB:Below w.heap.size w (w.alloc (.cells #[.int .i64 4,.int .i64 p,.int .i64 a,.int .i64 b,.int .i64 k] 32)):=(Below.refl _ _).alloc (Nat.le_refl _) _
 have c0:∀wx,_:=fun wx=>sin6_any 4 1 12 wx
 have e0:inI 4 1 12=true:=rfl
 simp only[e0]at c0
 clear e0
 unfold CV cmA
 by_cases ha:a=0
 ·subst ha
  by_cases hb:b=0
  ·subst hb
   by_cases hk:k=0
   ·subst hk
    have he:Cm.ok ⟨4,p,0,0,0⟩=(inI p 0 255&&true&&true):=by simp[Cm.ok,Cm.told,Cm.fits,inI]
    rw[he]
    clear he
    have c1:=fun wx=>sin6_any p 0 255 wx
    have c2:=fun wx=>s6word_any 0 wx
    have c3:=fun wx=>s6word_any 0 wx
    obtain⟨b1,hb1⟩:∃b1,b1=inI p 0 255:=⟨_,rfl⟩
    simp only[←hb1]at c1⊢
    clear hb1
    have e2:inI 0 0 65535=true:=rfl
    simp only[e2]at c2
    clear e2
    have e3:inI 0 0 65535=true:=rfl
    simp only[e3]at c3
    clear e3
    go_enter Tryz.func15,Tryz.ntmps15
    go_wp2_with fail
    refine(c0 _).mono ?_
    rintro e w' ⟨rfl,hw⟩;subst w'
    clear c0
    go_wp2_with fail
    refine(c1 _).mono ?_
    rintro e w' ⟨rfl,hw⟩;subst w'
    cases b1 with
    |false=>
     go_wp2_with fail
     go_ret
     exact⟨rfl,hB⟩
    |true=>
     go_wp2_with fail
     refine(c2 _).mono ?_
     rintro e w' ⟨rfl,hw⟩;subst w'
     go_wp2_with fail
     refine(c3 _).mono ?_
     rintro e w' ⟨rfl,hw⟩;subst w'
     go_wp2_with fail
     go_ret
     exact⟨rfl,hB⟩
   ·have hne:(k !=0)=true:=by simpa using hk
    have he:Cm.ok ⟨4,p,0,0,k⟩=false:=by simp[Cm.ok,Cm.told,hk]
    rw[he]
    clear he
    go_enter Tryz.func15,Tryz.ntmps15
    go_wp2_with fail
    refine(c0 _).mono ?_
    rintro e w' ⟨rfl,hw⟩;subst w'
    clear c0
    go_wp2_with fail
    go_ret
    exact⟨rfl,hB⟩
  ·have hne:(b !=0)=true:=by simpa using hb
   have he:Cm.ok ⟨4,p,0,b,k⟩=false:=by simp[Cm.ok,Cm.told,hb]
   rw[he]
   clear he
   go_enter Tryz.func15,Tryz.ntmps15
   go_wp2_with fail
   refine(c0 _).mono ?_
   rintro e w' ⟨rfl,hw⟩;subst w'
   clear c0
   go_wp2_with fail
   go_ret
   exact⟨rfl,hB⟩
 ·have hne:(a !=0)=true:=by simpa using ha
  have he:Cm.ok ⟨4,p,a,b,k⟩=false:=by simp[Cm.ok,Cm.told,ha]
  rw[he]
  clear he
  go_enter Tryz.func15,Tryz.ntmps15
  go_wp2_with fail
  refine(c0 _).mono ?_
  rintro e w' ⟨rfl,hw⟩;subst w'
  clear c0
  go_wp2_with fail
  go_ret
  exact⟨rfl,hB⟩
theorem scmd_5 (p a b k:Int) (w:World):
  Calls Tryz.prog 15 #[CV ⟨5,p,a,b,k⟩] w fun e w'=>e=.returned (.bool (Cm.ok ⟨5,p,a,b,k⟩))∧Below w.heap.size w w':=by
 have hB:Below w.heap.size w (w.alloc (.cells #[.int .i64 5,.int .i64 p,.int .i64 a,.int .i64 b,.int .i64 k] 32)):=(Below.refl _ _).alloc (Nat.le_refl _) _
 have c0:∀wx,_:=fun wx=>sin6_any 5 1 12 wx
 have e0:inI 5 1 12=true:=rfl
 simp only[e0]at c0
 clear e0
 unfold CV cmA
 by_cases hp:p=0
 ·subst hp
  by_cases ha:a=0
  ·subst ha
   by_cases hb:b=0
   ·subst hb
    by_cases hk:k=0
    ·subst hk
     have he:Cm.ok ⟨5,0,0,0,0⟩=(true&&true&&true):=by simp[Cm.ok,Cm.told,Cm.fits,inI]
     rw[he]
     clear he
     have c1:=fun wx=>sin6_any 0 0 255 wx
     have c2:=fun wx=>s6word_any 0 wx
     have c3:=fun wx=>s6word_any 0 wx
     have e1:inI 0 0 255=true:=rfl
     simp only[e1]at c1
     clear e1
     have e2:inI 0 0 65535=true:=rfl
     simp only[e2]at c2
     clear e2
     have e3:inI 0 0 65535=true:=rfl
     simp only[e3]at c3
     clear e3
     go_enter Tryz.func15,Tryz.ntmps15
     go_wp2_with fail
     refine(c0 _).mono ?_
     rintro e w' ⟨rfl,hw⟩;subst w'
     clear c0
     go_wp2_with fail
     refine(c1 _).mono ?_
     rintro e w' ⟨rfl,hw⟩;subst w'
     go_wp2_with fail
     refine(c2 _).mono ?_
     rintro e w' ⟨rfl,hw⟩;subst w'
     go_wp2_with fail
     refine(c3 _).mono ?_
     rintro e w' ⟨rfl,hw⟩;subst w'
     go_wp2_with fail
     go_ret
     exact⟨rfl,hB⟩
    ·have hne:(k !=0)=true:=by simpa using hk
     have he:Cm.ok ⟨5,0,0,0,k⟩=false:=by simp[Cm.ok,Cm.told,hk]
     rw[he]
     clear he
     go_enter Tryz.func15,Tryz.ntmps15
     go_wp2_with fail
     refine(c0 _).mono ?_
     rintro e w' ⟨rfl,hw⟩;subst w'
     clear c0
     go_wp2_with fail
     go_ret
     exact⟨rfl,hB⟩
   ·have hne:(b !=0)=true:=by simpa using hb
    have he:Cm.ok ⟨5,0,0,b,k⟩=false:=by simp[Cm.ok,Cm.told,hb]
    rw[he]
    clear he
    go_enter Tryz.func15,Tryz.ntmps15
    go_wp2_with fail
    refine(c0 _).mono ?_
    rintro e w' ⟨rfl,hw⟩;subst w'
    clear c0
    go_wp2_with fail
    go_ret
    exact⟨rfl,hB⟩
  ·have hne:(a !=0)=true:=by simpa using ha
   have he:Cm.ok ⟨5,0,a,b,k⟩=false:=by simp[Cm.ok,Cm.told,ha]
   rw[he]
   clear he
   go_enter Tryz.func15,Tryz.ntmps15
   go_wp2_with fail
   refine(c0 _).mono ?_
   rintro e w' ⟨rfl,hw⟩;subst w'
   clear c0
   go_wp2_with fail
   go_ret
   exact⟨rfl,hB⟩
 ·have hne:(p !=0)=true:=by simpa using hp
  have he:Cm.ok ⟨5,p,a,b,k⟩=false:=by simp[Cm.ok,Cm.told,hp]
  rw[he]
  clear he
  go_enter Tryz.func15,Tryz.ntmps15
  go_wp2_with fail
  refine(c0 _).mono ?_
  rintro e w' ⟨rfl,hw⟩;subst w'
  clear c0
  go_wp2_with fail
  go_ret
  exact⟨rfl,hB⟩
theorem scmd_6 (p a b k:Int) (w:World):
  Calls Tryz.prog 15 #[CV ⟨6,p,a,b,k⟩] w fun e w'=>e=.returned (.bool (Cm.ok ⟨6,p,a,b,k⟩))∧Below w.heap.size w w':=by
 have hB:Below w.heap.size w (w.alloc (.cells #[.int .i64 6,.int .i64 p,.int .i64 a,.int .i64 b,.int .i64 k] 32)):=(Below.refl _ _).alloc (Nat.le_refl _) _
 have c0:∀wx,_:=fun wx=>sin6_any 6 1 12 wx
 have e0:inI 6 1 12=true:=rfl
 simp only[e0]at c0
 clear e0
 unfold CV cmA
 by_cases hp:p=0
 ·subst hp
  by_cases hb:b=0
  ·subst hb
   by_cases hk:k=0
   ·subst hk
    have he:Cm.ok ⟨6,0,a,0,0⟩=(inI a 0 9999):=by simp[Cm.ok,Cm.told,Cm.fits,inI]
    rw[he]
    clear he
    have c1:=fun wx=>s6key_any a wx
    obtain⟨b1,hb1⟩:∃b1,b1=inI a 0 9999:=⟨_,rfl⟩
    simp only[←hb1]at c1⊢
    clear hb1
    go_enter Tryz.func15,Tryz.ntmps15
    go_wp2_with fail
    refine(c0 _).mono ?_
    rintro e w' ⟨rfl,hw⟩;subst w'
    clear c0
    go_wp2_with fail
    refine(c1 _).mono ?_
    rintro e w' ⟨rfl,hw⟩;subst w'
    go_wp2_with fail
    go_ret
    exact⟨rfl,hB⟩
   ·have hne:(k !=0)=true:=by simpa using hk
    have he:Cm.ok ⟨6,0,a,0,k⟩=false:=by simp[Cm.ok,Cm.told,hk]
    rw[he]
    clear he
    go_enter Tryz.func15,Tryz.ntmps15
    go_wp2_with fail
    refine(c0 _).mono ?_
    rintro e w' ⟨rfl,hw⟩;subst w'
    clear c0
    go_wp2_with fail
    go_ret
    exact⟨rfl,hB⟩
  ·have hne:(b !=0)=true:=by simpa using hb
   have he:Cm.ok ⟨6,0,a,b,k⟩=false:=by simp[Cm.ok,Cm.told,hb]
   rw[he]
   clear he
   go_enter Tryz.func15,Tryz.ntmps15
   go_wp2_with fail
   refine(c0 _).mono ?_
   rintro e w' ⟨rfl,hw⟩;subst w'
   clear c0
   go_wp2_with fail
   go_ret
   exact⟨rfl,hB⟩
 ·have hne:(p !=0)=true:=by simpa using hp
  have he:Cm.ok ⟨6,p,a,b,k⟩=false:=by simp[Cm.ok,Cm.told,hp]
  rw[he]
  clear he
  go_enter Tryz.func15,Tryz.ntmps15
  go_wp2_with fail
  refine(c0 _).mono ?_
  rintro e w' ⟨rfl,hw⟩;subst w'
  clear c0
  go_wp2_with fail
  go_ret
  exact⟨rfl,hB⟩
theorem scmd_7 (p a b k:Int) (w:World):
  Calls Tryz.prog 15 #[CV ⟨7,p,a,b,k⟩] w fun e w'=>e=.returned (.bool (Cm.ok ⟨7,p,a,b,k⟩))∧Below w.heap.size w w':=by
 have hB:Below w.heap.size w (w.alloc (.cells #[.int .i64 7,.int .i64 p,.int .i64 a,.int .i64 b,.int .i64 k] 32)):=(Below.refl _ _).alloc (Nat.le_refl _) _
 have c0:∀wx,_:=fun wx=>sin6_any 7 1 12 wx
 have e0:inI 7 1 12=true:=rfl
 simp only[e0]at c0
 clear e0
 unfold CV cmA
 by_cases hp:p=0
 ·subst hp
  by_cases ha:a=0
  ·subst ha
   by_cases hb:b=0
   ·subst hb
    have he:Cm.ok ⟨7,0,0,0,k⟩=(inI k 1 6):=by simp[Cm.ok,Cm.told,Cm.fits,inI]
    rw[he]
    clear he
    have c1:=fun wx=>sin6_any k 1 6 wx
    obtain⟨b1,hb1⟩:∃b1,b1=inI k 1 6:=⟨_,rfl⟩
    simp only[←hb1]at c1⊢
    clear hb1
    go_enter Tryz.func15,Tryz.ntmps15
    go_wp2_with fail
    refine(c0 _).mono ?_
    rintro e w' ⟨rfl,hw⟩;subst w'
    clear c0
    go_wp2_with fail
    refine(c1 _).mono ?_
    rintro e w' ⟨rfl,hw⟩;subst w'
    go_wp2_with fail
    go_ret
    exact⟨rfl,hB⟩
   ·have hne:(b !=0)=true:=by simpa using hb
    have he:Cm.ok ⟨7,0,0,b,k⟩=false:=by simp[Cm.ok,Cm.told,hb]
    rw[he]
    clear he
    go_enter Tryz.func15,Tryz.ntmps15
    go_wp2_with fail
    refine(c0 _).mono ?_
    rintro e w' ⟨rfl,hw⟩;subst w'
    clear c0
    go_wp2_with fail
    go_ret
    exact⟨rfl,hB⟩
  ·have hne:(a !=0)=true:=by simpa using ha
   have he:Cm.ok ⟨7,0,a,b,k⟩=false:=by simp[Cm.ok,Cm.told,ha]
   rw[he]
   clear he
   go_enter Tryz.func15,Tryz.ntmps15
   go_wp2_with fail
   refine(c0 _).mono ?_
   rintro e w' ⟨rfl,hw⟩;subst w'
   clear c0
   go_wp2_with fail
   go_ret
   exact⟨rfl,hB⟩
 ·have hne:(p !=0)=true:=by simpa using hp
  have he:Cm.ok ⟨7,p,a,b,k⟩=false:=by simp[Cm.ok,Cm.told,hp]
  rw[he]
  clear he
  go_enter Tryz.func15,Tryz.ntmps15
  go_wp2_with fail
  refine(c0 _).mono ?_
  rintro e w' ⟨rfl,hw⟩;subst w'
  clear c0
  go_wp2_with fail
  go_ret
  exact⟨rfl,hB⟩
theorem scmd_8 (p a b k:Int) (w:World):
  Calls Tryz.prog 15 #[CV ⟨8,p,a,b,k⟩] w fun e w'=>e=.returned (.bool (Cm.ok ⟨8,p,a,b,k⟩))∧Below w.heap.size w w':=by
 have hB:Below w.heap.size w (w.alloc (.cells #[.int .i64 8,.int .i64 p,.int .i64 a,.int .i64 b,.int .i64 k] 32)):=(Below.refl _ _).alloc (Nat.le_refl _) _
 have c0:∀wx,_:=fun wx=>sin6_any 8 1 12 wx
 have e0:inI 8 1 12=true:=rfl
 simp only[e0]at c0
 clear e0
 unfold CV cmA
 by_cases hp:p=0
 ·subst hp
  by_cases ha:a=0
  ·subst ha
   by_cases hb:b=0
   ·subst hb
    by_cases hk:k=0
    ·subst hk
     have he:Cm.ok ⟨8,0,0,0,0⟩=(true&&true&&true):=by simp[Cm.ok,Cm.told,Cm.fits,inI]
     rw[he]
     clear he
     have c1:=fun wx=>sin6_any 0 0 255 wx
     have c2:=fun wx=>s6word_any 0 wx
     have c3:=fun wx=>s6word_any 0 wx
     have e1:inI 0 0 255=true:=rfl
     simp only[e1]at c1
     clear e1
     have e2:inI 0 0 65535=true:=rfl
     simp only[e2]at c2
     clear e2
     have e3:inI 0 0 65535=true:=rfl
     simp only[e3]at c3
     clear e3
     go_enter Tryz.func15,Tryz.ntmps15
     go_wp2_with fail
     refine(c0 _).mono ?_
     rintro e w' ⟨rfl,hw⟩;subst w'
     clear c0
     go_wp2_with fail
     refine(c1 _).mono ?_
     rintro e w' ⟨rfl,hw⟩;subst w'
     go_wp2_with fail
     refine(c2 _).mono ?_
     rintro e w' ⟨rfl,hw⟩;subst w'
     go_wp2_with fail
     refine(c3 _).mono ?_
     rintro e w' ⟨rfl,hw⟩;subst w'
     go_wp2_with fail
     go_ret
     exact⟨rfl,hB⟩
    ·have hne:(k !=0)=true:=by simpa using hk
     have he:Cm.ok ⟨8,0,0,0,k⟩=false:=by simp[Cm.ok,Cm.told,hk]
     rw[he]
     clear he
     go_enter Tryz.func15,Tryz.ntmps15
     go_wp2_with fail
     refine(c0 _).mono ?_
     rintro e w' ⟨rfl,hw⟩;subst w'
     clear c0
     go_wp2_with fail
     go_ret
     exact⟨rfl,hB⟩
   ·have hne:(b !=0)=true:=by simpa using hb
    have he:Cm.ok ⟨8,0,0,b,k⟩=false:=by simp[Cm.ok,Cm.told,hb]
    rw[he]
    clear he
    go_enter Tryz.func15,Tryz.ntmps15
    go_wp2_with fail
    refine(c0 _).mono ?_
    rintro e w' ⟨rfl,hw⟩;subst w'
    clear c0
    go_wp2_with fail
    go_ret
    exact⟨rfl,hB⟩
  ·have hne:(a !=0)=true:=by simpa using ha
   have he:Cm.ok ⟨8,0,a,b,k⟩=false:=by simp[Cm.ok,Cm.told,ha]
   rw[he]
   clear he
   go_enter Tryz.func15,Tryz.ntmps15
   go_wp2_with fail
   refine(c0 _).mono ?_
   rintro e w' ⟨rfl,hw⟩;subst w'
   clear c0
   go_wp2_with fail
   go_ret
   exact⟨rfl,hB⟩
 ·have hne:(p !=0)=true:=by simpa using hp
  have he:Cm.ok ⟨8,p,a,b,k⟩=false:=by simp[Cm.ok,Cm.told,hp]
  rw[he]
  clear he
  go_enter Tryz.func15,Tryz.ntmps15
  go_wp2_with fail
  refine(c0 _).mono ?_
  rintro e w' ⟨rfl,hw⟩;subst w'
  clear c0
  go_wp2_with fail
  go_ret
  exact⟨rfl,hB⟩
theorem scmd_9 (p a b k:Int) (w:World):
  Calls Tryz.prog 15 #[CV ⟨9,p,a,b,k⟩] w fun e w'=>e=.returned (.bool (Cm.ok ⟨9,p,a,b,k⟩))∧Below w.heap.size w w':=by
 have hB:Below w.heap.size w (w.alloc (.cells #[.int .i64 9,.int .i64 p,.int .i64 a,.int .i64 b,.int .i64 k] 32)):=(Below.refl _ _).alloc (Nat.le_refl _) _
 have c0:∀wx,_:=fun wx=>sin6_any 9 1 12 wx
 have e0:inI 9 1 12=true:=rfl
 simp only[e0]at c0
 clear e0
 unfold CV cmA
 by_cases hp:p=0
 ·subst hp
  by_cases ha:a=0
  ·subst ha
   by_cases hb:b=0
   ·subst hb
    by_cases hk:k=0
    ·subst hk
     have he:Cm.ok ⟨9,0,0,0,0⟩=(true&&true&&true):=by simp[Cm.ok,Cm.told,Cm.fits,inI]
     rw[he]
     clear he
     have c1:=fun wx=>sin6_any 0 0 255 wx
     have c2:=fun wx=>s6word_any 0 wx
     have c3:=fun wx=>s6word_any 0 wx
     have e1:inI 0 0 255=true:=rfl
     simp only[e1]at c1
     clear e1
     have e2:inI 0 0 65535=true:=rfl
     simp only[e2]at c2
     clear e2
     have e3:inI 0 0 65535=true:=rfl
     simp only[e3]at c3
     clear e3
     go_enter Tryz.func15,Tryz.ntmps15
     go_wp2_with fail
     refine(c0 _).mono ?_
     rintro e w' ⟨rfl,hw⟩;subst w'
     clear c0
     go_wp2_with fail
     refine(c1 _).mono ?_
     rintro e w' ⟨rfl,hw⟩;subst w'
     go_wp2_with fail
     refine(c2 _).mono ?_
     rintro e w' ⟨rfl,hw⟩;subst w'
     go_wp2_with fail
     refine(c3 _).mono ?_
     rintro e w' ⟨rfl,hw⟩;subst w'
     go_wp2_with fail
     go_ret
     exact⟨rfl,hB⟩
    ·have hne:(k !=0)=true:=by simpa using hk
     have he:Cm.ok ⟨9,0,0,0,k⟩=false:=by simp[Cm.ok,Cm.told,hk]
     rw[he]
     clear he
     go_enter Tryz.func15,Tryz.ntmps15
     go_wp2_with fail
     refine(c0 _).mono ?_
     rintro e w' ⟨rfl,hw⟩;subst w'
     clear c0
     go_wp2_with fail
     go_ret
     exact⟨rfl,hB⟩
   ·have hne:(b !=0)=true:=by simpa using hb
    have he:Cm.ok ⟨9,0,0,b,k⟩=false:=by simp[Cm.ok,Cm.told,hb]
    rw[he]
    clear he
    go_enter Tryz.func15,Tryz.ntmps15
    go_wp2_with fail
    refine(c0 _).mono ?_
    rintro e w' ⟨rfl,hw⟩;subst w'
    clear c0
    go_wp2_with fail
    go_ret
    exact⟨rfl,hB⟩
  ·have hne:(a !=0)=true:=by simpa using ha
   have he:Cm.ok ⟨9,0,a,b,k⟩=false:=by simp[Cm.ok,Cm.told,ha]
   rw[he]
   clear he
   go_enter Tryz.func15,Tryz.ntmps15
   go_wp2_with fail
   refine(c0 _).mono ?_
   rintro e w' ⟨rfl,hw⟩;subst w'
   clear c0
   go_wp2_with fail
   go_ret
   exact⟨rfl,hB⟩
 ·have hne:(p !=0)=true:=by simpa using hp
  have he:Cm.ok ⟨9,p,a,b,k⟩=false:=by simp[Cm.ok,Cm.told,hp]
  rw[he]
  clear he
  go_enter Tryz.func15,Tryz.ntmps15
  go_wp2_with fail
  refine(c0 _).mono ?_
  rintro e w' ⟨rfl,hw⟩;subst w'
  clear c0
  go_wp2_with fail
  go_ret
  exact⟨rfl,hB⟩
theorem scmd_10 (p a b k:Int) (w:World):
  Calls Tryz.prog 15 #[CV ⟨10,p,a,b,k⟩] w fun e w'=>e=.returned (.bool (Cm.ok ⟨10,p,a,b,k⟩))∧Below w.heap.size w w':=by
 have hB:Below w.heap.size w (w.alloc (.cells #[.int .i64 10,.int .i64 p,.int .i64 a,.int .i64 b,.int .i64 k] 32)):=(Below.refl _ _).alloc (Nat.le_refl _) _
 have c0:∀wx,_:=fun wx=>sin6_any 10 1 12 wx
 have e0:inI 10 1 12=true:=rfl
 simp only[e0]at c0
 clear e0
 unfold CV cmA
 by_cases hp:p=0
 ·subst hp
  have he:Cm.ok ⟨10,0,a,b,k⟩=(inI a 0 9999&&inI b 1 9999&&inI k 1 6):=by simp[Cm.ok,Cm.told,Cm.fits,inI]
  rw[he]
  clear he
  have c1:=fun wx=>s6key_any a wx
  have c2:=fun wx=>sin6_any b 1 9999 wx
  have c3:=fun wx=>sin6_any k 1 6 wx
  obtain⟨b1,hb1⟩:∃b1,b1=inI a 0 9999:=⟨_,rfl⟩
  simp only[←hb1]at c1⊢
  clear hb1
  obtain⟨b2,hb2⟩:∃b2,b2=inI b 1 9999:=⟨_,rfl⟩
  simp only[←hb2]at c2⊢
  clear hb2
  obtain⟨b3,hb3⟩:∃b3,b3=inI k 1 6:=⟨_,rfl⟩
  simp only[←hb3]at c3⊢
  clear hb3
  go_enter Tryz.func15,Tryz.ntmps15
  go_wp2_with fail
  refine(c0 _).mono ?_
  rintro e w' ⟨rfl,hw⟩;subst w'
  clear c0
  go_wp2_with fail
  refine(c1 _).mono ?_
  rintro e w' ⟨rfl,hw⟩;subst w'
  cases b1 with
  |false=>
   go_wp2_with fail
   go_ret
   exact⟨rfl,hB⟩
  |true=>
   go_wp2_with fail
   refine(c2 _).mono ?_
   rintro e w' ⟨rfl,hw⟩;subst w'
   cases b2 with
   |false=>
    go_wp2_with fail
    go_ret
    exact⟨rfl,hB⟩
   |true=>
    go_wp2_with fail
    refine(c3 _).mono ?_
    rintro e w' ⟨rfl,hw⟩;subst w'
    go_wp2_with fail
    go_ret
    exact⟨rfl,hB⟩
 ·have hne:(p !=0)=true:=by simpa using hp
  have he:Cm.ok ⟨10,p,a,b,k⟩=false:=by simp[Cm.ok,Cm.told,hp]
  rw[he]
  clear he
  go_enter Tryz.func15,Tryz.ntmps15
  go_wp2_with fail
  refine(c0 _).mono ?_
  rintro e w' ⟨rfl,hw⟩;subst w'
  clear c0
  go_wp2_with fail
  go_ret
  exact⟨rfl,hB⟩
theorem scmd_11 (p a b k:Int) (w:World):
  Calls Tryz.prog 15 #[CV ⟨11,p,a,b,k⟩] w fun e w'=>e=.returned (.bool (Cm.ok ⟨11,p,a,b,k⟩))∧Below w.heap.size w w':=by
 have hB:Below w.heap.size w (w.alloc (.cells #[.int .i64 11,.int .i64 p,.int .i64 a,.int .i64 b,.int .i64 k] 32)):=(Below.refl _ _).alloc (Nat.le_refl _) _
 have c0:∀wx,_:=fun wx=>sin6_any 11 1 12 wx
 have e0:inI 11 1 12=true:=rfl
 simp only[e0]at c0
 clear e0
 unfold CV cmA
 by_cases hp:p=0
 ·subst hp
  by_cases ha:a=0
  ·subst ha
   by_cases hb:b=0
   ·subst hb
    by_cases hk:k=0
    ·subst hk
     have he:Cm.ok ⟨11,0,0,0,0⟩=(true&&true&&true):=by simp[Cm.ok,Cm.told,Cm.fits,inI]
     rw[he]
     clear he
     have c1:=fun wx=>sin6_any 0 0 255 wx
     have c2:=fun wx=>s6word_any 0 wx
     have c3:=fun wx=>s6word_any 0 wx
     have e1:inI 0 0 255=true:=rfl
     simp only[e1]at c1
     clear e1
     have e2:inI 0 0 65535=true:=rfl
     simp only[e2]at c2
     clear e2
     have e3:inI 0 0 65535=true:=rfl
     simp only[e3]at c3
     clear e3
     go_enter Tryz.func15,Tryz.ntmps15
     go_wp2_with fail
     refine(c0 _).mono ?_
     rintro e w' ⟨rfl,hw⟩;subst w'
     clear c0
     go_wp2_with fail
     refine(c1 _).mono ?_
     rintro e w' ⟨rfl,hw⟩;subst w'
     go_wp2_with fail
     refine(c2 _).mono ?_
     rintro e w' ⟨rfl,hw⟩;subst w'
     go_wp2_with fail
     refine(c3 _).mono ?_
     rintro e w' ⟨rfl,hw⟩;subst w'
     go_wp2_with fail
     go_ret
     exact⟨rfl,hB⟩
    ·have hne:(k !=0)=true:=by simpa using hk
     have he:Cm.ok ⟨11,0,0,0,k⟩=false:=by simp[Cm.ok,Cm.told,hk]
     rw[he]
     clear he
     go_enter Tryz.func15,Tryz.ntmps15
     go_wp2_with fail
     refine(c0 _).mono ?_
     rintro e w' ⟨rfl,hw⟩;subst w'
     clear c0
     go_wp2_with fail
     go_ret
     exact⟨rfl,hB⟩
   ·have hne:(b !=0)=true:=by simpa using hb
    have he:Cm.ok ⟨11,0,0,b,k⟩=false:=by simp[Cm.ok,Cm.told,hb]
    rw[he]
    clear he
    go_enter Tryz.func15,Tryz.ntmps15
    go_wp2_with fail
    refine(c0 _).mono ?_
    rintro e w' ⟨rfl,hw⟩;subst w'
    clear c0
    go_wp2_with fail
    go_ret
    exact⟨rfl,hB⟩
  ·have hne:(a !=0)=true:=by simpa using ha
   have he:Cm.ok ⟨11,0,a,b,k⟩=false:=by simp[Cm.ok,Cm.told,ha]
   rw[he]
   clear he
   go_enter Tryz.func15,Tryz.ntmps15
   go_wp2_with fail
   refine(c0 _).mono ?_
   rintro e w' ⟨rfl,hw⟩;subst w'
   clear c0
   go_wp2_with fail
   go_ret
   exact⟨rfl,hB⟩
 ·have hne:(p !=0)=true:=by simpa using hp
  have he:Cm.ok ⟨11,p,a,b,k⟩=false:=by simp[Cm.ok,Cm.told,hp]
  rw[he]
  clear he
  go_enter Tryz.func15,Tryz.ntmps15
  go_wp2_with fail
  refine(c0 _).mono ?_
  rintro e w' ⟨rfl,hw⟩;subst w'
  clear c0
  go_wp2_with fail
  go_ret
  exact⟨rfl,hB⟩
theorem scmd_12 (p a b k:Int) (w:World):
  Calls Tryz.prog 15 #[CV ⟨12,p,a,b,k⟩] w fun e w'=>e=.returned (.bool (Cm.ok ⟨12,p,a,b,k⟩))∧Below w.heap.size w w':=by
 have hB:Below w.heap.size w (w.alloc (.cells #[.int .i64 12,.int .i64 p,.int .i64 a,.int .i64 b,.int .i64 k] 32)):=(Below.refl _ _).alloc (Nat.le_refl _) _
 have c0:∀wx,_:=fun wx=>sin6_any 12 1 12 wx
 have e0:inI 12 1 12=true:=rfl
 simp only[e0]at c0
 clear e0
 unfold CV cmA
 by_cases hp:p=0
 ·subst hp
  by_cases ha:a=0
  ·subst ha
   by_cases hb:b=0
   ·subst hb
    by_cases hk:k=0
    ·subst hk
     have he:Cm.ok ⟨12,0,0,0,0⟩=(true&&true&&true):=by simp[Cm.ok,Cm.told,Cm.fits,inI]
     rw[he]
     clear he
     have c1:=fun wx=>sin6_any 0 0 255 wx
     have c2:=fun wx=>s6word_any 0 wx
     have c3:=fun wx=>s6word_any 0 wx
     have e1:inI 0 0 255=true:=rfl
     simp only[e1]at c1
     clear e1
     have e2:inI 0 0 65535=true:=rfl
     simp only[e2]at c2
     clear e2
     have e3:inI 0 0 65535=true:=rfl
     simp only[e3]at c3
     clear e3
     go_enter Tryz.func15,Tryz.ntmps15
     go_wp2_with fail
     refine(c0 _).mono ?_
     rintro e w' ⟨rfl,hw⟩;subst w'
     clear c0
     go_wp2_with fail
     refine(c1 _).mono ?_
     rintro e w' ⟨rfl,hw⟩;subst w'
     go_wp2_with fail
     refine(c2 _).mono ?_
     rintro e w' ⟨rfl,hw⟩;subst w'
     go_wp2_with fail
     refine(c3 _).mono ?_
     rintro e w' ⟨rfl,hw⟩;subst w'
     go_wp2_with fail
     go_ret
     exact⟨rfl,hB⟩
    ·have hne:(k !=0)=true:=by simpa using hk
     have he:Cm.ok ⟨12,0,0,0,k⟩=false:=by simp[Cm.ok,Cm.told,hk]
     rw[he]
     clear he
     go_enter Tryz.func15,Tryz.ntmps15
     go_wp2_with fail
     refine(c0 _).mono ?_
     rintro e w' ⟨rfl,hw⟩;subst w'
     clear c0
     go_wp2_with fail
     go_ret
     exact⟨rfl,hB⟩
   ·have hne:(b !=0)=true:=by simpa using hb
    have he:Cm.ok ⟨12,0,0,b,k⟩=false:=by simp[Cm.ok,Cm.told,hb]
    rw[he]
    clear he
    go_enter Tryz.func15,Tryz.ntmps15
    go_wp2_with fail
    refine(c0 _).mono ?_
    rintro e w' ⟨rfl,hw⟩;subst w'
    clear c0
    go_wp2_with fail
    go_ret
    exact⟨rfl,hB⟩
  ·have hne:(a !=0)=true:=by simpa using ha
   have he:Cm.ok ⟨12,0,a,b,k⟩=false:=by simp[Cm.ok,Cm.told,ha]
   rw[he]
   clear he
   go_enter Tryz.func15,Tryz.ntmps15
   go_wp2_with fail
   refine(c0 _).mono ?_
   rintro e w' ⟨rfl,hw⟩;subst w'
   clear c0
   go_wp2_with fail
   go_ret
   exact⟨rfl,hB⟩
 ·have hne:(p !=0)=true:=by simpa using hp
  have he:Cm.ok ⟨12,p,a,b,k⟩=false:=by simp[Cm.ok,Cm.told,hp]
  rw[he]
  clear he
  go_enter Tryz.func15,Tryz.ntmps15
  go_wp2_with fail
  refine(c0 _).mono ?_
  rintro e w' ⟨rfl,hw⟩;subst w'
  clear c0
  go_wp2_with fail
  go_ret
  exact⟨rfl,hB⟩
theorem scmdok_any (c:Cm) (w:World):
  Calls Tryz.prog 15 #[CV c] w fun e w'=>e=.returned (.bool c.ok)∧Below w.heap.size w w':=by
 obtain⟨o,p,a,b,k⟩:=c
 by_cases h:inI o 1 12=true
 ·rw[inI_iff]at h
  obtain rfl|rfl|rfl|rfl|rfl|rfl|rfl|rfl|rfl|rfl|rfl|rfl:o=1∨o=2∨o=3∨o=4∨o=5∨o=6∨o=7∨o=8∨o=9∨o=10∨o=11∨o=12:=by omega
  ·exact scmd_1 p a b k w
  ·exact scmd_2 p a b k w
  ·exact scmd_3 p a b k w
  ·exact scmd_4 p a b k w
  ·exact scmd_5 p a b k w
  ·exact scmd_6 p a b k w
  ·exact scmd_7 p a b k w
  ·exact scmd_8 p a b k w
  ·exact scmd_9 p a b k w
  ·exact scmd_10 p a b k w
  ·exact scmd_11 p a b k w
  ·exact scmd_12 p a b k w
 ·have h':inI o 1 12=false:=by simpa using h
  have hok:Cm.ok ⟨o,p,a,b,k⟩=false:=ok_out h'
  rw[hok]
  have hb:Below w.heap.size w (w.alloc (.cells #[.int .i64 o,.int .i64 p,.int .i64 a,.int .i64 b,.int .i64 k] 32)):=(Below.refl _ _).alloc (Nat.le_refl _) _
  have c0:∀wx,_:=fun wx=>sin6_any o 1 12 wx
  simp only[h']at c0
  have h2:o≤0∨13≤o:=by
   simp only[inI,Bool.and_eq_false_iff,decide_eq_false_iff_not]at h'
   omega
  clear h h' hok
  have n2:(o==2)=false:=by simp;omega
  have n3:(o==3)=false:=by simp;omega
  have n6:(o==6)=false:=by simp;omega
  have n7:(o==7)=false:=by simp;omega
  have n10:(o==10)=false:=by simp;omega
  unfold CV cmA
  go_enter Tryz.func15,Tryz.ntmps15
  go_wp2_with fail
  refine(c0 _).mono ?_
  rintro e w' ⟨rfl,hw⟩;subst w'
  clear c0
  go_wp2_with fail
  go_ret
  exact⟨rfl,hb⟩
end Go.Proofs.YtpdggofaobmnlaaGreatDoor
