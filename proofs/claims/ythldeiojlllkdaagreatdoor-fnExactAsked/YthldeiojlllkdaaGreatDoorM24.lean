/- Whether a command is right (the model's CmdOk, Changes); how the laws take one kL and compare two. -/
import Derived.Test.YthldeiojlllkdaaGreatDoorM1
import Derived.Test.YthldeiojlllkdaaGreatDoorM21
import Derived.Test.YthldeiojlllkdaaGreatDoorM4
import Derived.Test.YthldeiojlllkdaaGreatDoorM6
import Derived.Test.YthldeiojlllkdaaGreatDoorM8
import Derived.Laws.OwnMore
import Derived.OwnWalk
import Derived.Laws.IdiomStrings
import Derived.Deep.RegionHeld3
import Derived.BigRegion
import Derived.Test.YthldeiojlllkdaaGreatDoorM11
import Derived.BigQuiet
set_option maxRecDepth 20000
set_option maxHeartbeats 4000000
namespace Go.Proofs.YthldeiojlllkdaaGreatDoor
open Go.ChangeShapes Go.WideShapes Go.ChangeAt Go.RowKit
theorem Dz {c:Cm} (h:inI c.o 1 12=false):c.ok=false:=by simp[Cm.ok,Cm.told,h]
theorem DA (p a b k:Int) (w:World):
  Calls Tryz.prog 96 #[CV ⟨1,p,a,b,k⟩] w fun e w'=>e=.returned (.bool (Cm.ok ⟨1,p,a,b,k⟩))/\bB w w':=by
 have hB:bB w (w.alloc (.cells #[.int .i64 1,.int .i64 p,.int .i64 a,.int .i64 b,.int .i64 k] 66)):=bA;have c0:∀wx,_:=fun wx=>aL 1 1 12 wx
 have e0:inI 1 1 12=true:=rfl;simp only[e0]at c0;clear e0;unfold CV cmA;by_cases ha:a=0
 ·subst ha
  by_cases hb:b=0
  ·subst hb
   by_cases hk:k=0
   ·subst hk
    have he:Cm.ok ⟨1,p,0,0,0⟩=(inI p 0 255&&true&&true):=by simp[Cm.ok,Cm.told,Cm.fits,inI]
    rw[he];clear he;have c1:=fun wx=>aL p 0 255 wx
    have c2:=fun wx=>bJ 0 wx
    have c3:=fun wx=>bJ 0 wx
    obtain⟨b1,hb1⟩:=eX (inI p 0 255)
    simp only[<-hb1]at c1⊢;clear hb1;have e2:inI 0 0 65535=true:=rfl;simp only[e2]at c2;clear e2;have e3:inI 0 0 65535=true:=rfl;simp only[e3]at c3;clear e3;go_enter Tryz.func96,Tryz.ntmps96;go_wp2_with fail
    refine mo (c0 _) ?_;clear c0;go_wp2_with fail
    refine mo (c1 _) ?_;cases b1 with
    |false=>
     go_wp2_with fail
     go_ret;exact⟨rfl,hB⟩
    |true=>
     go_wp2_with fail
     refine mo (c2 _) ?_;go_wp2_with fail
     refine mo (c3 _) ?_;go_wp2_with fail
     go_ret;exact⟨rfl,hB⟩
   ·have hne:(k !=0)=true:=by simpa using hk
    have he:Cm.ok ⟨1,p,0,0,k⟩=false:=by simp[Cm.ok,Cm.told,hk]
    rw[he];clear he;go_enter Tryz.func96,Tryz.ntmps96;go_wp2_with fail
    refine mo (c0 _) ?_;clear c0;go_wp2_with fail
    go_ret;exact⟨rfl,hB⟩
  ·have hne:(b !=0)=true:=by simpa using hb
   have he:Cm.ok ⟨1,p,0,b,k⟩=false:=by simp[Cm.ok,Cm.told,hb]
   rw[he];clear he;go_enter Tryz.func96,Tryz.ntmps96;go_wp2_with fail
   refine mo (c0 _) ?_;clear c0;go_wp2_with fail
   go_ret;exact⟨rfl,hB⟩
 ·have hne:(a !=0)=true:=by simpa using ha
  have he:Cm.ok ⟨1,p,a,b,k⟩=false:=by simp[Cm.ok,Cm.told,ha]
  rw[he];clear he;go_enter Tryz.func96,Tryz.ntmps96;go_wp2_with fail
  refine mo (c0 _) ?_;clear c0;go_wp2_with fail
  go_ret;exact⟨rfl,hB⟩
theorem DB (p a b k:Int) (w:World):
  Calls Tryz.prog 96 #[CV ⟨2,p,a,b,k⟩] w fun e w'=>e=.returned (.bool (Cm.ok ⟨2,p,a,b,k⟩))/\bB w w':=by
 have hB:bB w (w.alloc (.cells #[.int .i64 2,.int .i64 p,.int .i64 a,.int .i64 b,.int .i64 k] 66)):=bA;have c0:∀wx,_:=fun wx=>aL 2 1 12 wx
 have e0:inI 2 1 12=true:=rfl;simp only[e0]at c0;clear e0;unfold CV cmA;by_cases hb:b=0
 ·subst hb
  by_cases hk:k=0
  ·subst hk
   have he:Cm.ok ⟨2,p,a,0,0⟩=(inI p 0 255&&inI a 0 65535&&true):=by simp[Cm.ok,Cm.told,Cm.fits,inI]
   rw[he];clear he;have c1:=fun wx=>aL p 0 255 wx
   have c2:=fun wx=>bJ a wx
   have c3:=fun wx=>bJ 0 wx
   obtain⟨b1,hb1⟩:=eX (inI p 0 255)
   simp only[<-hb1]at c1⊢;clear hb1;obtain⟨b2,hb2⟩:=eX (inI a 0 65535)
   simp only[<-hb2]at c2⊢;clear hb2;have e3:inI 0 0 65535=true:=rfl;simp only[e3]at c3;clear e3;go_enter Tryz.func96,Tryz.ntmps96;go_wp2_with fail
   refine mo (c0 _) ?_;clear c0;go_wp2_with fail
   refine mo (c1 _) ?_;cases b1 with
   |false=>
    go_wp2_with fail
    go_ret;exact⟨rfl,hB⟩
   |true=>
    go_wp2_with fail
    refine mo (c2 _) ?_;cases b2 with
    |false=>
     go_wp2_with fail
     go_ret;exact⟨rfl,hB⟩
    |true=>
     go_wp2_with fail
     refine mo (c3 _) ?_;go_wp2_with fail
     go_ret;exact⟨rfl,hB⟩
  ·have hne:(k !=0)=true:=by simpa using hk
   have he:Cm.ok ⟨2,p,a,0,k⟩=false:=by simp[Cm.ok,Cm.told,hk]
   rw[he];clear he;go_enter Tryz.func96,Tryz.ntmps96;go_wp2_with fail
   refine mo (c0 _) ?_;clear c0;go_wp2_with fail
   go_ret;exact⟨rfl,hB⟩
 ·have hne:(b !=0)=true:=by simpa using hb
  have he:Cm.ok ⟨2,p,a,b,k⟩=false:=by simp[Cm.ok,Cm.told,hb]
  rw[he];clear he;go_enter Tryz.func96,Tryz.ntmps96;go_wp2_with fail
  refine mo (c0 _) ?_;clear c0;go_wp2_with fail
  go_ret;exact⟨rfl,hB⟩
theorem DC (p a b k:Int) (w:World):
  Calls Tryz.prog 96 #[CV ⟨3,p,a,b,k⟩] w fun e w'=>e=.returned (.bool (Cm.ok ⟨3,p,a,b,k⟩))/\bB w w':=by
 have hB:bB w (w.alloc (.cells #[.int .i64 3,.int .i64 p,.int .i64 a,.int .i64 b,.int .i64 k] 66)):=bA;have c0:∀wx,_:=fun wx=>aL 3 1 12 wx
 have e0:inI 3 1 12=true:=rfl;simp only[e0]at c0;clear e0;unfold CV cmA;by_cases hk:k=0
 ·subst hk
  have he:Cm.ok ⟨3,p,a,b,0⟩=(inI p 0 255&&inI a 0 65535&&inI b 0 65535):=by simp[Cm.ok,Cm.told,Cm.fits,inI]
  rw[he];clear he;have c1:=fun wx=>aL p 0 255 wx
  have c2:=fun wx=>bJ a wx
  have c3:=fun wx=>bJ b wx
  obtain⟨b1,hb1⟩:=eX (inI p 0 255)
  simp only[<-hb1]at c1⊢;clear hb1;obtain⟨b2,hb2⟩:=eX (inI a 0 65535)
  simp only[<-hb2]at c2⊢;clear hb2;obtain⟨b3,hb3⟩:=eX (inI b 0 65535)
  simp only[<-hb3]at c3⊢;clear hb3;go_enter Tryz.func96,Tryz.ntmps96;go_wp2_with fail
  refine mo (c0 _) ?_;clear c0;go_wp2_with fail
  refine mo (c1 _) ?_;cases b1 with
  |false=>
   go_wp2_with fail
   go_ret;exact⟨rfl,hB⟩
  |true=>
   go_wp2_with fail
   refine mo (c2 _) ?_;cases b2 with
   |false=>
    go_wp2_with fail
    go_ret;exact⟨rfl,hB⟩
   |true=>
    go_wp2_with fail
    refine mo (c3 _) ?_;go_wp2_with fail
    go_ret;exact⟨rfl,hB⟩
 ·have hne:(k !=0)=true:=by simpa using hk
  have he:Cm.ok ⟨3,p,a,b,k⟩=false:=by simp[Cm.ok,Cm.told,hk]
  rw[he];clear he;go_enter Tryz.func96,Tryz.ntmps96;go_wp2_with fail
  refine mo (c0 _) ?_;clear c0;go_wp2_with fail
  go_ret;exact⟨rfl,hB⟩
theorem DD (p a b k:Int) (w:World):
  Calls Tryz.prog 96 #[CV ⟨4,p,a,b,k⟩] w fun e w'=>e=.returned (.bool (Cm.ok ⟨4,p,a,b,k⟩))/\bB w w':=by
 have hB:bB w (w.alloc (.cells #[.int .i64 4,.int .i64 p,.int .i64 a,.int .i64 b,.int .i64 k] 66)):=bA;have c0:∀wx,_:=fun wx=>aL 4 1 12 wx
 have e0:inI 4 1 12=true:=rfl;simp only[e0]at c0;clear e0;unfold CV cmA;by_cases ha:a=0
 ·subst ha
  by_cases hb:b=0
  ·subst hb
   by_cases hk:k=0
   ·subst hk
    have he:Cm.ok ⟨4,p,0,0,0⟩=(inI p 0 255&&true&&true):=by simp[Cm.ok,Cm.told,Cm.fits,inI]
    rw[he];clear he;have c1:=fun wx=>aL p 0 255 wx
    have c2:=fun wx=>bJ 0 wx
    have c3:=fun wx=>bJ 0 wx
    obtain⟨b1,hb1⟩:=eX (inI p 0 255)
    simp only[<-hb1]at c1⊢;clear hb1;have e2:inI 0 0 65535=true:=rfl;simp only[e2]at c2;clear e2;have e3:inI 0 0 65535=true:=rfl;simp only[e3]at c3;clear e3;go_enter Tryz.func96,Tryz.ntmps96;go_wp2_with fail
    refine mo (c0 _) ?_;clear c0;go_wp2_with fail
    refine mo (c1 _) ?_;cases b1 with
    |false=>
     go_wp2_with fail
     go_ret;exact⟨rfl,hB⟩
    |true=>
     go_wp2_with fail
     refine mo (c2 _) ?_;go_wp2_with fail
     refine mo (c3 _) ?_;go_wp2_with fail
     go_ret;exact⟨rfl,hB⟩
   ·have hne:(k !=0)=true:=by simpa using hk
    have he:Cm.ok ⟨4,p,0,0,k⟩=false:=by simp[Cm.ok,Cm.told,hk]
    rw[he];clear he;go_enter Tryz.func96,Tryz.ntmps96;go_wp2_with fail
    refine mo (c0 _) ?_;clear c0;go_wp2_with fail
    go_ret;exact⟨rfl,hB⟩
  ·have hne:(b !=0)=true:=by simpa using hb
   have he:Cm.ok ⟨4,p,0,b,k⟩=false:=by simp[Cm.ok,Cm.told,hb]
   rw[he];clear he;go_enter Tryz.func96,Tryz.ntmps96;go_wp2_with fail
   refine mo (c0 _) ?_;clear c0;go_wp2_with fail
   go_ret;exact⟨rfl,hB⟩
 ·have hne:(a !=0)=true:=by simpa using ha
  have he:Cm.ok ⟨4,p,a,b,k⟩=false:=by simp[Cm.ok,Cm.told,ha]
  rw[he];clear he;go_enter Tryz.func96,Tryz.ntmps96;go_wp2_with fail
  refine mo (c0 _) ?_;clear c0;go_wp2_with fail
  go_ret;exact⟨rfl,hB⟩
theorem DE (p a b k:Int) (w:World):
  Calls Tryz.prog 96 #[CV ⟨5,p,a,b,k⟩] w fun e w'=>e=.returned (.bool (Cm.ok ⟨5,p,a,b,k⟩))/\bB w w':=by
 have hB:bB w (w.alloc (.cells #[.int .i64 5,.int .i64 p,.int .i64 a,.int .i64 b,.int .i64 k] 66)):=bA;have c0:∀wx,_:=fun wx=>aL 5 1 12 wx
 have e0:inI 5 1 12=true:=rfl;simp only[e0]at c0;clear e0;unfold CV cmA;by_cases hp:p=0
 ·subst hp
  by_cases ha:a=0
  ·subst ha
   by_cases hb:b=0
   ·subst hb
    by_cases hk:k=0
    ·subst hk
     have he:Cm.ok ⟨5,0,0,0,0⟩=(true&&true&&true):=by simp[Cm.ok,Cm.told,Cm.fits,inI]
     rw[he];clear he;have c1:=fun wx=>aL 0 0 255 wx
     have c2:=fun wx=>bJ 0 wx
     have c3:=fun wx=>bJ 0 wx
     have e1:inI 0 0 255=true:=rfl;simp only[e1]at c1;clear e1;have e2:inI 0 0 65535=true:=rfl;simp only[e2]at c2;clear e2;have e3:inI 0 0 65535=true:=rfl;simp only[e3]at c3;clear e3;go_enter Tryz.func96,Tryz.ntmps96;go_wp2_with fail
     refine mo (c0 _) ?_;clear c0;go_wp2_with fail
     refine mo (c1 _) ?_;go_wp2_with fail
     refine mo (c2 _) ?_;go_wp2_with fail
     refine mo (c3 _) ?_;go_wp2_with fail
     go_ret;exact⟨rfl,hB⟩
    ·have hne:(k !=0)=true:=by simpa using hk
     have he:Cm.ok ⟨5,0,0,0,k⟩=false:=by simp[Cm.ok,Cm.told,hk]
     rw[he];clear he;go_enter Tryz.func96,Tryz.ntmps96;go_wp2_with fail
     refine mo (c0 _) ?_;clear c0;go_wp2_with fail
     go_ret;exact⟨rfl,hB⟩
   ·have hne:(b !=0)=true:=by simpa using hb
    have he:Cm.ok ⟨5,0,0,b,k⟩=false:=by simp[Cm.ok,Cm.told,hb]
    rw[he];clear he;go_enter Tryz.func96,Tryz.ntmps96;go_wp2_with fail
    refine mo (c0 _) ?_;clear c0;go_wp2_with fail
    go_ret;exact⟨rfl,hB⟩
  ·have hne:(a !=0)=true:=by simpa using ha
   have he:Cm.ok ⟨5,0,a,b,k⟩=false:=by simp[Cm.ok,Cm.told,ha]
   rw[he];clear he;go_enter Tryz.func96,Tryz.ntmps96;go_wp2_with fail
   refine mo (c0 _) ?_;clear c0;go_wp2_with fail
   go_ret;exact⟨rfl,hB⟩
 ·have hne:(p !=0)=true:=by simpa using hp
  have he:Cm.ok ⟨5,p,a,b,k⟩=false:=by simp[Cm.ok,Cm.told,hp]
  rw[he];clear he;go_enter Tryz.func96,Tryz.ntmps96;go_wp2_with fail
  refine mo (c0 _) ?_;clear c0;go_wp2_with fail
  go_ret;exact⟨rfl,hB⟩
theorem DF (p a b k:Int) (w:World):
  Calls Tryz.prog 96 #[CV ⟨6,p,a,b,k⟩] w fun e w'=>e=.returned (.bool (Cm.ok ⟨6,p,a,b,k⟩))/\bB w w':=by
 have hB:bB w (w.alloc (.cells #[.int .i64 6,.int .i64 p,.int .i64 a,.int .i64 b,.int .i64 k] 66)):=bA;have c0:∀wx,_:=fun wx=>aL 6 1 12 wx
 have e0:inI 6 1 12=true:=rfl;simp only[e0]at c0;clear e0;unfold CV cmA;by_cases hp:p=0
 ·subst hp
  by_cases hb:b=0
  ·subst hb
   by_cases hk:k=0
   ·subst hk
    have he:Cm.ok ⟨6,0,a,0,0⟩=(inI a 0 9999):=by simp[Cm.ok,Cm.told,Cm.fits,inI]
    rw[he];clear he;have c1:=fun wx=>mn a wx
    obtain⟨b1,hb1⟩:=eX (inI a 0 9999)
    simp only[<-hb1]at c1⊢;clear hb1;go_enter Tryz.func96,Tryz.ntmps96;go_wp2_with fail
    refine mo (c0 _) ?_;clear c0;go_wp2_with fail
    refine mo (c1 _) ?_;go_wp2_with fail
    go_ret;exact⟨rfl,hB⟩
   ·have hne:(k !=0)=true:=by simpa using hk
    have he:Cm.ok ⟨6,0,a,0,k⟩=false:=by simp[Cm.ok,Cm.told,hk]
    rw[he];clear he;go_enter Tryz.func96,Tryz.ntmps96;go_wp2_with fail
    refine mo (c0 _) ?_;clear c0;go_wp2_with fail
    go_ret;exact⟨rfl,hB⟩
  ·have hne:(b !=0)=true:=by simpa using hb
   have he:Cm.ok ⟨6,0,a,b,k⟩=false:=by simp[Cm.ok,Cm.told,hb]
   rw[he];clear he;go_enter Tryz.func96,Tryz.ntmps96;go_wp2_with fail
   refine mo (c0 _) ?_;clear c0;go_wp2_with fail
   go_ret;exact⟨rfl,hB⟩
 ·have hne:(p !=0)=true:=by simpa using hp
  have he:Cm.ok ⟨6,p,a,b,k⟩=false:=by simp[Cm.ok,Cm.told,hp]
  rw[he];clear he;go_enter Tryz.func96,Tryz.ntmps96;go_wp2_with fail
  refine mo (c0 _) ?_;clear c0;go_wp2_with fail
  go_ret;exact⟨rfl,hB⟩
theorem DG (p a b k:Int) (w:World):
  Calls Tryz.prog 96 #[CV ⟨7,p,a,b,k⟩] w fun e w'=>e=.returned (.bool (Cm.ok ⟨7,p,a,b,k⟩))/\bB w w':=by
 have hB:bB w (w.alloc (.cells #[.int .i64 7,.int .i64 p,.int .i64 a,.int .i64 b,.int .i64 k] 66)):=bA;have c0:∀wx,_:=fun wx=>aL 7 1 12 wx
 have e0:inI 7 1 12=true:=rfl;simp only[e0]at c0;clear e0;unfold CV cmA;by_cases hp:p=0
 ·subst hp
  by_cases ha:a=0
  ·subst ha
   by_cases hb:b=0
   ·subst hb
    have he:Cm.ok ⟨7,0,0,0,k⟩=(inI k 1 6):=by simp[Cm.ok,Cm.told,Cm.fits,inI]
    rw[he];clear he;have c1:=fun wx=>aL k 1 6 wx
    obtain⟨b1,hb1⟩:=eX (inI k 1 6)
    simp only[<-hb1]at c1⊢;clear hb1;go_enter Tryz.func96,Tryz.ntmps96;go_wp2_with fail
    refine mo (c0 _) ?_;clear c0;go_wp2_with fail
    refine mo (c1 _) ?_;go_wp2_with fail
    go_ret;exact⟨rfl,hB⟩
   ·have hne:(b !=0)=true:=by simpa using hb
    have he:Cm.ok ⟨7,0,0,b,k⟩=false:=by simp[Cm.ok,Cm.told,hb]
    rw[he];clear he;go_enter Tryz.func96,Tryz.ntmps96;go_wp2_with fail
    refine mo (c0 _) ?_;clear c0;go_wp2_with fail
    go_ret;exact⟨rfl,hB⟩
  ·have hne:(a !=0)=true:=by simpa using ha
   have he:Cm.ok ⟨7,0,a,b,k⟩=false:=by simp[Cm.ok,Cm.told,ha]
   rw[he];clear he;go_enter Tryz.func96,Tryz.ntmps96;go_wp2_with fail
   refine mo (c0 _) ?_;clear c0;go_wp2_with fail
   go_ret;exact⟨rfl,hB⟩
 ·have hne:(p !=0)=true:=by simpa using hp
  have he:Cm.ok ⟨7,p,a,b,k⟩=false:=by simp[Cm.ok,Cm.told,hp]
  rw[he];clear he;go_enter Tryz.func96,Tryz.ntmps96;go_wp2_with fail
  refine mo (c0 _) ?_;clear c0;go_wp2_with fail
  go_ret;exact⟨rfl,hB⟩
theorem DH (p a b k:Int) (w:World):
  Calls Tryz.prog 96 #[CV ⟨8,p,a,b,k⟩] w fun e w'=>e=.returned (.bool (Cm.ok ⟨8,p,a,b,k⟩))/\bB w w':=by
 have hB:bB w (w.alloc (.cells #[.int .i64 8,.int .i64 p,.int .i64 a,.int .i64 b,.int .i64 k] 66)):=bA;have c0:∀wx,_:=fun wx=>aL 8 1 12 wx
 have e0:inI 8 1 12=true:=rfl;simp only[e0]at c0;clear e0;unfold CV cmA;by_cases hp:p=0
 ·subst hp
  by_cases ha:a=0
  ·subst ha
   by_cases hb:b=0
   ·subst hb
    by_cases hk:k=0
    ·subst hk
     have he:Cm.ok ⟨8,0,0,0,0⟩=(true&&true&&true):=by simp[Cm.ok,Cm.told,Cm.fits,inI]
     rw[he];clear he;have c1:=fun wx=>aL 0 0 255 wx
     have c2:=fun wx=>bJ 0 wx
     have c3:=fun wx=>bJ 0 wx
     have e1:inI 0 0 255=true:=rfl;simp only[e1]at c1;clear e1;have e2:inI 0 0 65535=true:=rfl;simp only[e2]at c2;clear e2;have e3:inI 0 0 65535=true:=rfl;simp only[e3]at c3;clear e3;go_enter Tryz.func96,Tryz.ntmps96;go_wp2_with fail
     refine mo (c0 _) ?_;clear c0;go_wp2_with fail
     refine mo (c1 _) ?_;go_wp2_with fail
     refine mo (c2 _) ?_;go_wp2_with fail
     refine mo (c3 _) ?_;go_wp2_with fail
     go_ret;exact⟨rfl,hB⟩
    ·have hne:(k !=0)=true:=by simpa using hk
     have he:Cm.ok ⟨8,0,0,0,k⟩=false:=by simp[Cm.ok,Cm.told,hk]
     rw[he];clear he;go_enter Tryz.func96,Tryz.ntmps96;go_wp2_with fail
     refine mo (c0 _) ?_;clear c0;go_wp2_with fail
     go_ret;exact⟨rfl,hB⟩
   ·have hne:(b !=0)=true:=by simpa using hb
    have he:Cm.ok ⟨8,0,0,b,k⟩=false:=by simp[Cm.ok,Cm.told,hb]
    rw[he];clear he;go_enter Tryz.func96,Tryz.ntmps96;go_wp2_with fail
    refine mo (c0 _) ?_;clear c0;go_wp2_with fail
    go_ret;exact⟨rfl,hB⟩
  ·have hne:(a !=0)=true:=by simpa using ha
   have he:Cm.ok ⟨8,0,a,b,k⟩=false:=by simp[Cm.ok,Cm.told,ha]
   rw[he];clear he;go_enter Tryz.func96,Tryz.ntmps96;go_wp2_with fail
   refine mo (c0 _) ?_;clear c0;go_wp2_with fail
   go_ret;exact⟨rfl,hB⟩
 ·have hne:(p !=0)=true:=by simpa using hp
  have he:Cm.ok ⟨8,p,a,b,k⟩=false:=by simp[Cm.ok,Cm.told,hp]
  rw[he];clear he;go_enter Tryz.func96,Tryz.ntmps96;go_wp2_with fail
  refine mo (c0 _) ?_;clear c0;go_wp2_with fail
  go_ret;exact⟨rfl,hB⟩
theorem DI (p a b k:Int) (w:World):
  Calls Tryz.prog 96 #[CV ⟨9,p,a,b,k⟩] w fun e w'=>e=.returned (.bool (Cm.ok ⟨9,p,a,b,k⟩))/\bB w w':=by
 have hB:bB w (w.alloc (.cells #[.int .i64 9,.int .i64 p,.int .i64 a,.int .i64 b,.int .i64 k] 66)):=bA;have c0:∀wx,_:=fun wx=>aL 9 1 12 wx
 have e0:inI 9 1 12=true:=rfl;simp only[e0]at c0;clear e0;unfold CV cmA;by_cases hp:p=0
 ·subst hp
  by_cases ha:a=0
  ·subst ha
   by_cases hb:b=0
   ·subst hb
    by_cases hk:k=0
    ·subst hk
     have he:Cm.ok ⟨9,0,0,0,0⟩=(true&&true&&true):=by simp[Cm.ok,Cm.told,Cm.fits,inI]
     rw[he];clear he;have c1:=fun wx=>aL 0 0 255 wx
     have c2:=fun wx=>bJ 0 wx
     have c3:=fun wx=>bJ 0 wx
     have e1:inI 0 0 255=true:=rfl;simp only[e1]at c1;clear e1;have e2:inI 0 0 65535=true:=rfl;simp only[e2]at c2;clear e2;have e3:inI 0 0 65535=true:=rfl;simp only[e3]at c3;clear e3;go_enter Tryz.func96,Tryz.ntmps96;go_wp2_with fail
     refine mo (c0 _) ?_;clear c0;go_wp2_with fail
     refine mo (c1 _) ?_;go_wp2_with fail
     refine mo (c2 _) ?_;go_wp2_with fail
     refine mo (c3 _) ?_;go_wp2_with fail
     go_ret;exact⟨rfl,hB⟩
    ·have hne:(k !=0)=true:=by simpa using hk
     have he:Cm.ok ⟨9,0,0,0,k⟩=false:=by simp[Cm.ok,Cm.told,hk]
     rw[he];clear he;go_enter Tryz.func96,Tryz.ntmps96;go_wp2_with fail
     refine mo (c0 _) ?_;clear c0;go_wp2_with fail
     go_ret;exact⟨rfl,hB⟩
   ·have hne:(b !=0)=true:=by simpa using hb
    have he:Cm.ok ⟨9,0,0,b,k⟩=false:=by simp[Cm.ok,Cm.told,hb]
    rw[he];clear he;go_enter Tryz.func96,Tryz.ntmps96;go_wp2_with fail
    refine mo (c0 _) ?_;clear c0;go_wp2_with fail
    go_ret;exact⟨rfl,hB⟩
  ·have hne:(a !=0)=true:=by simpa using ha
   have he:Cm.ok ⟨9,0,a,b,k⟩=false:=by simp[Cm.ok,Cm.told,ha]
   rw[he];clear he;go_enter Tryz.func96,Tryz.ntmps96;go_wp2_with fail
   refine mo (c0 _) ?_;clear c0;go_wp2_with fail
   go_ret;exact⟨rfl,hB⟩
 ·have hne:(p !=0)=true:=by simpa using hp
  have he:Cm.ok ⟨9,p,a,b,k⟩=false:=by simp[Cm.ok,Cm.told,hp]
  rw[he];clear he;go_enter Tryz.func96,Tryz.ntmps96;go_wp2_with fail
  refine mo (c0 _) ?_;clear c0;go_wp2_with fail
  go_ret;exact⟨rfl,hB⟩
theorem Cf (p a b k:Int) (w:World):
  Calls Tryz.prog 96 #[CV ⟨10,p,a,b,k⟩] w fun e w'=>e=.returned (.bool (Cm.ok ⟨10,p,a,b,k⟩))/\bB w w':=by
 have hB:bB w (w.alloc (.cells #[.int .i64 10,.int .i64 p,.int .i64 a,.int .i64 b,.int .i64 k] 66)):=bA;have c0:∀wx,_:=fun wx=>aL 10 1 12 wx
 have e0:inI 10 1 12=true:=rfl;simp only[e0]at c0;clear e0;unfold CV cmA;by_cases hp:p=0
 ·subst hp
  have he:Cm.ok ⟨10,0,a,b,k⟩=(inI a 0 9999&&inI b 1 9999&&inI k 1 6):=by simp[Cm.ok,Cm.told,Cm.fits,inI]
  rw[he];clear he;have c1:=fun wx=>mn a wx
  have c2:=fun wx=>aL b 1 9999 wx
  have c3:=fun wx=>aL k 1 6 wx
  obtain⟨b1,hb1⟩:=eX (inI a 0 9999)
  simp only[<-hb1]at c1⊢;clear hb1;obtain⟨b2,hb2⟩:=eX (inI b 1 9999)
  simp only[<-hb2]at c2⊢;clear hb2;obtain⟨b3,hb3⟩:=eX (inI k 1 6)
  simp only[<-hb3]at c3⊢;clear hb3;go_enter Tryz.func96,Tryz.ntmps96;go_wp2_with fail
  refine mo (c0 _) ?_;clear c0;go_wp2_with fail
  refine mo (c1 _) ?_;cases b1 with
  |false=>
   go_wp2_with fail
   go_ret;exact⟨rfl,hB⟩
  |true=>
   go_wp2_with fail
   refine mo (c2 _) ?_;cases b2 with
   |false=>
    go_wp2_with fail
    go_ret;exact⟨rfl,hB⟩
   |true=>
    go_wp2_with fail
    refine mo (c3 _) ?_;go_wp2_with fail
    go_ret;exact⟨rfl,hB⟩
 ·have hne:(p !=0)=true:=by simpa using hp
  have he:Cm.ok ⟨10,p,a,b,k⟩=false:=by simp[Cm.ok,Cm.told,hp]
  rw[he];clear he;go_enter Tryz.func96,Tryz.ntmps96;go_wp2_with fail
  refine mo (c0 _) ?_;clear c0;go_wp2_with fail
  go_ret;exact⟨rfl,hB⟩
theorem Cg (p a b k:Int) (w:World):
  Calls Tryz.prog 96 #[CV ⟨11,p,a,b,k⟩] w fun e w'=>e=.returned (.bool (Cm.ok ⟨11,p,a,b,k⟩))/\bB w w':=by
 have hB:bB w (w.alloc (.cells #[.int .i64 11,.int .i64 p,.int .i64 a,.int .i64 b,.int .i64 k] 66)):=bA;have c0:∀wx,_:=fun wx=>aL 11 1 12 wx
 have e0:inI 11 1 12=true:=rfl;simp only[e0]at c0;clear e0;unfold CV cmA;by_cases hp:p=0
 ·subst hp
  by_cases ha:a=0
  ·subst ha
   by_cases hb:b=0
   ·subst hb
    by_cases hk:k=0
    ·subst hk
     have he:Cm.ok ⟨11,0,0,0,0⟩=(true&&true&&true):=by simp[Cm.ok,Cm.told,Cm.fits,inI]
     rw[he];clear he;have c1:=fun wx=>aL 0 0 255 wx
     have c2:=fun wx=>bJ 0 wx
     have c3:=fun wx=>bJ 0 wx
     have e1:inI 0 0 255=true:=rfl;simp only[e1]at c1;clear e1;have e2:inI 0 0 65535=true:=rfl;simp only[e2]at c2;clear e2;have e3:inI 0 0 65535=true:=rfl;simp only[e3]at c3;clear e3;go_enter Tryz.func96,Tryz.ntmps96;go_wp2_with fail
     refine mo (c0 _) ?_;clear c0;go_wp2_with fail
     refine mo (c1 _) ?_;go_wp2_with fail
     refine mo (c2 _) ?_;go_wp2_with fail
     refine mo (c3 _) ?_;go_wp2_with fail
     go_ret;exact⟨rfl,hB⟩
    ·have hne:(k !=0)=true:=by simpa using hk
     have he:Cm.ok ⟨11,0,0,0,k⟩=false:=by simp[Cm.ok,Cm.told,hk]
     rw[he];clear he;go_enter Tryz.func96,Tryz.ntmps96;go_wp2_with fail
     refine mo (c0 _) ?_;clear c0;go_wp2_with fail
     go_ret;exact⟨rfl,hB⟩
   ·have hne:(b !=0)=true:=by simpa using hb
    have he:Cm.ok ⟨11,0,0,b,k⟩=false:=by simp[Cm.ok,Cm.told,hb]
    rw[he];clear he;go_enter Tryz.func96,Tryz.ntmps96;go_wp2_with fail
    refine mo (c0 _) ?_;clear c0;go_wp2_with fail
    go_ret;exact⟨rfl,hB⟩
  ·have hne:(a !=0)=true:=by simpa using ha
   have he:Cm.ok ⟨11,0,a,b,k⟩=false:=by simp[Cm.ok,Cm.told,ha]
   rw[he];clear he;go_enter Tryz.func96,Tryz.ntmps96;go_wp2_with fail
   refine mo (c0 _) ?_;clear c0;go_wp2_with fail
   go_ret;exact⟨rfl,hB⟩
 ·have hne:(p !=0)=true:=by simpa using hp
  have he:Cm.ok ⟨11,p,a,b,k⟩=false:=by simp[Cm.ok,Cm.told,hp]
  rw[he];clear he;go_enter Tryz.func96,Tryz.ntmps96;go_wp2_with fail
  refine mo (c0 _) ?_;clear c0;go_wp2_with fail
  go_ret;exact⟨rfl,hB⟩
theorem Ch (p a b k:Int) (w:World):
  Calls Tryz.prog 96 #[CV ⟨12,p,a,b,k⟩] w fun e w'=>e=.returned (.bool (Cm.ok ⟨12,p,a,b,k⟩))/\bB w w':=by
 have hB:bB w (w.alloc (.cells #[.int .i64 12,.int .i64 p,.int .i64 a,.int .i64 b,.int .i64 k] 66)):=bA;have c0:∀wx,_:=fun wx=>aL 12 1 12 wx
 have e0:inI 12 1 12=true:=rfl;simp only[e0]at c0;clear e0;unfold CV cmA;by_cases hp:p=0
 ·subst hp
  by_cases ha:a=0
  ·subst ha
   by_cases hb:b=0
   ·subst hb
    by_cases hk:k=0
    ·subst hk
     have he:Cm.ok ⟨12,0,0,0,0⟩=(true&&true&&true):=by simp[Cm.ok,Cm.told,Cm.fits,inI]
     rw[he];clear he;have c1:=fun wx=>aL 0 0 255 wx
     have c2:=fun wx=>bJ 0 wx
     have c3:=fun wx=>bJ 0 wx
     have e1:inI 0 0 255=true:=rfl;simp only[e1]at c1;clear e1;have e2:inI 0 0 65535=true:=rfl;simp only[e2]at c2;clear e2;have e3:inI 0 0 65535=true:=rfl;simp only[e3]at c3;clear e3;go_enter Tryz.func96,Tryz.ntmps96;go_wp2_with fail
     refine mo (c0 _) ?_;clear c0;go_wp2_with fail
     refine mo (c1 _) ?_;go_wp2_with fail
     refine mo (c2 _) ?_;go_wp2_with fail
     refine mo (c3 _) ?_;go_wp2_with fail
     go_ret;exact⟨rfl,hB⟩
    ·have hne:(k !=0)=true:=by simpa using hk
     have he:Cm.ok ⟨12,0,0,0,k⟩=false:=by simp[Cm.ok,Cm.told,hk]
     rw[he];clear he;go_enter Tryz.func96,Tryz.ntmps96;go_wp2_with fail
     refine mo (c0 _) ?_;clear c0;go_wp2_with fail
     go_ret;exact⟨rfl,hB⟩
   ·have hne:(b !=0)=true:=by simpa using hb
    have he:Cm.ok ⟨12,0,0,b,k⟩=false:=by simp[Cm.ok,Cm.told,hb]
    rw[he];clear he;go_enter Tryz.func96,Tryz.ntmps96;go_wp2_with fail
    refine mo (c0 _) ?_;clear c0;go_wp2_with fail
    go_ret;exact⟨rfl,hB⟩
  ·have hne:(a !=0)=true:=by simpa using ha
   have he:Cm.ok ⟨12,0,a,b,k⟩=false:=by simp[Cm.ok,Cm.told,ha]
   rw[he];clear he;go_enter Tryz.func96,Tryz.ntmps96;go_wp2_with fail
   refine mo (c0 _) ?_;clear c0;go_wp2_with fail
   go_ret;exact⟨rfl,hB⟩
 ·have hne:(p !=0)=true:=by simpa using hp
  have he:Cm.ok ⟨12,p,a,b,k⟩=false:=by simp[Cm.ok,Cm.told,hp]
  rw[he];clear he;go_enter Tryz.func96,Tryz.ntmps96;go_wp2_with fail
  refine mo (c0 _) ?_;clear c0;go_wp2_with fail
  go_ret;exact⟨rfl,hB⟩
theorem nK (c:Cm) (w:World):
  Calls Tryz.prog 96 #[CV c] w fun e w'=>e=.returned (.bool c.ok)/\bB w w':=by
 obtain⟨o,p,a,b,k⟩:=c;by_cases h:inI o 1 12=true
 ·rw[aD]at h
  obtain rfl|rfl|rfl|rfl|rfl|rfl|rfl|rfl|rfl|rfl|rfl|rfl:o=1∨o=2∨o=3∨o=4∨o=5∨o=6∨o=7∨o=8∨o=9∨o=10∨o=11∨o=12:=by omega
  ·exact DA p a b k w
  ·exact DB p a b k w
  ·exact DC p a b k w
  ·exact DD p a b k w
  ·exact DE p a b k w
  ·exact DF p a b k w
  ·exact DG p a b k w
  ·exact DH p a b k w
  ·exact DI p a b k w
  ·exact Cf p a b k w
  ·exact Cg p a b k w
  ·exact Ch p a b k w
 ·have h':inI o 1 12=false:=by simpa using h
  have hok:Cm.ok ⟨o,p,a,b,k⟩=false:=Dz h';rw[hok];have hb:bB w (w.alloc (.cells #[.int .i64 o,.int .i64 p,.int .i64 a,.int .i64 b,.int .i64 k] 66)):=bA;have c0:∀wx,_:=fun wx=>aL o 1 12 wx
  simp only[h']at c0;have h2:o<=0∨13<=o:=by
   simp only[inI,Bool.and_eq_false_iff,decide_eq_false_iff_not]at h';omega
  clear h h' hok;have n2:(o==2)=false:=by simp;omega
  have n3:(o==3)=false:=by simp;omega
  have n6:(o==6)=false:=by simp;omega
  have n7:(o==7)=false:=by simp;omega
  have n10:(o==10)=false:=by simp;omega
  unfold CV cmA;go_enter Tryz.func96,Tryz.ntmps96;go_wp2_with fail
  refine mo (c0 _) ?_;clear c0;go_wp2_with fail
  go_ret;exact⟨rfl,hb⟩
theorem Au (c:Cm) (w:World):
  Calls Tryz.prog 59 #[CV c] w fun e w'=>e=.returned (.bool c.chg)/\bB w w':=by
 have c1:=fun wx=>nK c wx
 have c2:=fun wx=>aL c.o 2 4 wx
 have hch:c.chg=(c.ok&&inI c.o 2 4):=rfl;rw[hch];clear hch;obtain⟨b1,h1⟩:=eX c.ok
 obtain⟨b2,h2⟩:=eX (inI c.o 2 4)
 simp only[<-h1]at c1⊢;simp only[<-h2]at c2⊢;clear h1 h2;have hb:bB w (w.alloc (.cells (cmA c) 66)):=bA;have hblk:(w.alloc (.cells (cmA c) 66)).heap[w.heap.size]?=some (.cells (cmA c) 66 (0,0)):=heap_alloc_new w _;unfold CV cmA at*;go_enter Tryz.func59,Tryz.ntmps59;go_wp2_with fail
 refine(c1 _).mono ?_;rintro e w1 ⟨rfl,b3⟩;have hc0:w1.cell? ⟨w.heap.size,0,none⟩=some (.int .i64 c.o):=by
  have:w1.heap[w.heap.size]?=_:=(b3.block w.heap.size (by simp)).trans hblk;rw[cell_of_row w1 w.heap.size 0 _ _ _ this];rfl
 have B1:=hb.trans (b3.mono hb.size);clear b3 hblk hb c1;cases b1 with
 |false=>
  go_wp2_with fail
  go_ret;exact⟨rfl,B1⟩
 |true=>
  go_wp2_with fail
  refine mo (c2 _) ?_;go_wp2_with fail
  go_ret;exact⟨rfl,B1⟩
def U (b:UInt8):Value:=.int .u8 (am b)
def nG (w:World) (base:Nat) (v:Value) (l:Bs):Prop:=w.ownsRow base 5 1 v l.length (l.map U)
theorem nG.lt {w:World} {base:Nat} {v:Value} {xs:Bs} (h:nG w base v xs):∀k,v.ownBlock=some k->base<=k/\k<w.heap.size:=World.ownsRow.lt h
theorem nG.frame {w w':World} {base:Nat} {v:Value} {xs:Bs} (h:nG w base v xs) (e:∀b∈v.ownBlock.toList,w'.heap[b]?=w.heap[b]?):nG w' base v xs:=by
 refine⟨h.1,?_⟩;rcases h.2 with h'|⟨g,cap,cur,rfl,hb,hg,r⟩
 ·exact .inl h'
 ·exact .inr ⟨g,cap,cur,rfl,hb,(e g (by simp[Value.ownBlock])).trans hg,r⟩
theorem nG.kept {w w':World} {base:Nat} {v:Value} {row:Option Nat} {xs:Bs} (h:nG w base v xs) (hg:w.grownBy w' row) (hne:v.ownBlock=none∨v.ownBlock≠row):nG w' base v xs:=
 World.ownsRow.kept h hg hne
def Buf (w:World) (base g n cap:Nat) (l:Bs):Prop:=
 base<=g/\g<w.heap.size/\n=l.length/\n<=cap/\cap<=maxLen/\∀j (h:j<l.length),w.cell? ⟨g,j,none⟩=some (U l[j])/\w.frozen? ⟨g,j,none⟩=false
theorem Buf.kept {w w':World} {base g n cap:Nat} {l:Bs} {row:Option Nat} (h:Buf w base g n cap l) (hg:w.grownBy w' row) (hne:some g≠row):Buf w' base g n cap l:=by
 obtain⟨h1,h2,h3,h4,h5,h6⟩:=h;have hb:=hg.block g h2 hne;exact⟨h1,Nat.lt_of_lt_of_le h2 hg.size,h3,h4,h5,fun j hj=>⟨(World.cell?_of_block (a:=⟨g,j,none⟩) hb).trans (h6 j hj).1,(World.frozen?_of_block (a:=⟨g,j,none⟩) hb).trans (h6 j hj).2⟩⟩
theorem yz (w:World) (s:Bs) (hs:s.length<=1000000):∃cap w1,(convert 9 120 (.string ⟨s.toArray⟩)).run Tryz.prog w=.ok (.slice (some ⟨w.heap.size,0,none⟩) s.length cap) w1/\Buf w1 w.heap.size w.heap.size s.length cap s/\w.grownBy w1 none:=by
 have hr:=run_bytes_of_string (P:=Tryz.prog) w 9 120 5 ⟨s.toArray⟩ Tryz.underlying9 Tryz.underlying120 Tryz.underlying5;have hsz:(⟨s.toArray⟩:ByteArray).size=s.length:=rfl;rw[hsz]at hr;refine⟨_,_,hr,?_,⟨rfl,rfl,rfl,by simp,fun k hk _=>Below.heap_alloc w.drew _ k hk⟩⟩;have hge:=grownCap_ge w s.length 0 5;have hcm:=grownCap_le_maxLen w s.length 0 5 (by unfold maxLen;omega);generalize grownCap w s.length 0 5=cap at hge hcm;have hh:(w.drew.alloc (.cells (bytesRow ⟨s.toArray⟩ cap) 5 ((bytesRow ⟨s.toArray⟩ cap).size,(bytesRow ⟨s.toArray⟩ cap).size+1))).heap[w.heap.size]?=some (.cells (bytesRow ⟨s.toArray⟩ cap) 5 ((bytesRow ⟨s.toArray⟩ cap).size,(bytesRow ⟨s.toArray⟩ cap).size+1)):=heap_alloc_new w.drew _;have hrs:s.length<=(bytesRow ⟨s.toArray⟩ cap).size:=by simp[bytesRow,ByteArray.size]
 refine⟨Nat.le_refl _,by simp,rfl,hge,hcm,fun j hj=>⟨?_,?_⟩⟩
 ·rw[cell_of_row _ w.heap.size j _ _ _ hh]
  unfold bytesRow;rw[Array.getElem?_append_left (by simpa using hj)];simp[hj,U,am]
 ·have h1:¬(bytesRow ⟨s.toArray⟩ cap).size<=j:=by omega
  simp only[World.frozen?,hh];simp[h1]
theorem nG.alloc {w:World} {base:Nat} {v:Value} {l:Bs} (h:nG w base v l) (o:Obj):nG (w.alloc o) base v l:=World.ownsRow.alloc h o
theorem BB (g n cap:Nat) (l:Bs) (w:World) (hl:7<=l.length) (hn:7<=n) (hc:∀j,j<7->w.cell? ⟨g,j,none⟩=some (U (l.getD j 0))):
  Calls Tryz.prog 95 #[.slice (some ⟨g,0,none⟩) n cap] w fun e w'=>e=.returned (.int .u8 (eW (l.take 7)))/\w'=w:=by
 have HC:Hid (∀j,j<7->w.cell? ⟨g,j,none⟩=some (U (l.getD j 0))):=hc;clear hc;go_enter Tryz.func95,Tryz.ntmps95;go_wp2;go_loop [3,4] (fun s i=>∃(j:Nat) (x:Int),(j:Int)<=7/\i=.int .i64 j/\s=.int .i64 x/\0<=x/\x<=2000/\Hid (x=kF l j)) (fun _ i=>7-(intOf i).toNat)
 case atStart=>exact⟨0,0,by omega,rfl,rfl,by omega,by omega,rfl⟩
 case round=>
  obtain⟨j,x,hj,rfl,rfl,hx0,hx1,HX⟩:=hrel;by_cases hlt:(j:Int)<7
  ·have hcell:=HC.out j (by omega)
   have hbd:=bj (l.getD j 0);have HS:Hid (kF l (j+1)=x+am (l.getD j 0)):=by rw[Hid,lF l j (by omega),<-HX.out]
   have hs2:=Cd l (j+1);rw[HS.out]at hs2;unfold U at hcell;obtain⟨y,hy⟩:=eX (am (l.getD j 0))
   rw[<-hy]at hcell hbd HS hs2;clear hy;go_wp2
   go_round
   case rel=>exact⟨j+1,x+y,by omega,by go_num,by go_num,by omega,by omega,HS.out.symm⟩
   case measure=>simp[intOf];omega
  ·have HE:Hid (eW (l.take 7)=255-x%256):=by
    obtain rfl:j=7:=by omega
    rw[Hid,HX.out];rfl
   have hm:x.tmod 256=x%256:=Int.tmod_eq_emod_of_nonneg hx0;go_wp2;go_ret;rw[HE.out];exact⟨rfl,rfl⟩
theorem xk (s:Bs) (w:World) (hl:s.length<=1048576):
  Calls Tryz.prog 56 #[S s] w fun e w'=>e=.returned (.tuple #[CV (ax s),.int .i64 (aN s)])/\bB w w':=by
 have hsz:(⟨s.toArray⟩:ByteArray).size=s.length:=rfl;obtain⟨w2,hw2⟩:=eX ((w.alloc (.cells (cmA Cm.zero) 66)).alloc (.cells (cmA Cm.zero) 66))
 have Z2:CmB w2 w.heap.size 66 Cm.zero:=by rw[hw2];exact(CmB.new w _ _).alloc _
 have N2:CmB w2 (w.heap.size+1) 66 Cm.zero:=by rw[hw2];have:=CmB.new (w.alloc (.cells (cmA Cm.zero) 66)) 66 Cm.zero;rwa[World.size_alloc]at this
 have B2:bB w w2:=by rw[hw2];exactbA.alloc (by simp) _
 unfold cmA Cm.zero at hw2;dsimp only at hw2;unfold S;by_cases h8:(s.length:Int)<8
 ·have HE:Hid (aN s=1/\ax s=Cm.zero):=jY (by omega)
  go_enter Tryz.func56,Tryz.ntmps56;go_wp2;rw[<-hw2];refine bodyPost_ret (cY rfl _ _ w.heap.size _ _ rfl rfl Z2) rfl ?_;rw[HE.out.1,HE.out.2];exact⟨rfl,B2⟩
 ·by_cases h9:8<(s.length:Int)
  ·have HE:Hid (aN s=2/\ax s=Cm.zero):=lG (by omega)
   go_enter Tryz.func56,Tryz.ntmps56;go_wp2;rw[<-hw2];refine bodyPost_ret (cY rfl _ _ w.heap.size _ _ rfl rfl Z2) rfl ?_;rw[HE.out.1,HE.out.2];exact⟨rfl,B2⟩
  ·have hl8:s.length=8:=by omega
   obtain⟨cap,w3,hr,hbuf,hg3⟩:=yz w2 s (by omega);have hb8:∀j,j<8->w3.cell? ⟨w2.heap.size,j,none⟩=some (.int .u8 (am (s.getD j 0))):=fun j hj=>by
    have h:=(hbuf.2.2.2.2.2 j (by omega)).1;rw[h];simp[U,show j<s.length by omega]
   have hcap:8<=cap:=by have:=hbuf.2.2.2.1;omega
   have hgl:w2.heap.size<w3.heap.size:=hbuf.2.1;have Z3:=Z2.kept hg3 (by simp);have N3:=N2.kept hg3 (by simp);have B3:bB w w3:=B2.grown hg3 B2.size (fun k e=>by cases e);have hr':(convert 9 120 (.string ⟨s.toArray⟩)).run Tryz.prog ((w.alloc (.cells #[.int .i64 0,.int .i64 0,.int .i64 0,.int .i64 0,.int .i64 0] 66)).alloc (.cells #[.int .i64 0,.int .i64 0,.int .i64 0,.int .i64 0,.int .i64 0] 66))=.ok (.slice (some ⟨w2.heap.size,0,none⟩) 8 cap) w3:=by rw[<-hw2,hr,hl8]
   have H1:Hid (am (s.getD 7 0)≠eW (s.take 7)->aN s=3/\ax s=Cm.zero):=sL hl8;have H2:Hid (am (s.getD 7 0)=eW (s.take 7)->inI (fA s).o 1 12=false->aN s=4/\ax s=Cm.zero):=xS hl8;have H3:Hid (am (s.getD 7 0)=eW (s.take 7)->inI (fA s).o 1 12=true->(fA s).ok=false->aN s=5/\ax s=Cm.zero):=nJ hl8;have H4:Hid (am (s.getD 7 0)=eW (s.take 7)->(fA s).ok=true->aN s=0/\ax s=fA s):=xU hl8;have cs:=fun wx hc=>BB w2.heap.size 8 cap s wx (by omega) (by omega) hc
   have hsb:=xR (s.take 7);have hcm:fA s=⟨am (s.getD 0 0),am (s.getD 1 0),am (s.getD 2 0)*256+am (s.getD 3 0),am (s.getD 4 0)*256+am (s.getD 5 0),am (s.getD 6 0)⟩:=rfl;have hw3b:=hgl;have HB:Hid (∀j,j<8->w3.cell? ⟨w2.heap.size,j,none⟩=some (.int .u8 (am (s.getD j 0)))):=hb8;have k0:=hb8 0 (by omega);have d0:=bj (s.getD 0 0);have k1:=hb8 1 (by omega);have d1:=bj (s.getD 1 0);have k2:=hb8 2 (by omega);have d2:=bj (s.getD 2 0);have k3:=hb8 3 (by omega);have d3:=bj (s.getD 3 0);have k4:=hb8 4 (by omega);have d4:=bj (s.getD 4 0);have k5:=hb8 5 (by omega);have d5:=bj (s.getD 5 0);have k6:=hb8 6 (by omega);have d6:=bj (s.getD 6 0);have k7:=hb8 7 (by omega);have d7:=bj (s.getD 7 0);obtain⟨x0,hx0⟩:=eX (am (s.getD 0 0))
   rw[<-hx0]at k0 d0 hcm;obtain⟨x1,hx1⟩:=eX (am (s.getD 1 0))
   rw[<-hx1]at k1 d1 hcm;obtain⟨x2,hx2⟩:=eX (am (s.getD 2 0))
   rw[<-hx2]at k2 d2 hcm;obtain⟨x3,hx3⟩:=eX (am (s.getD 3 0))
   rw[<-hx3]at k3 d3 hcm;obtain⟨x4,hx4⟩:=eX (am (s.getD 4 0))
   rw[<-hx4]at k4 d4 hcm;obtain⟨x5,hx5⟩:=eX (am (s.getD 5 0))
   rw[<-hx5]at k5 d5 hcm;obtain⟨x6,hx6⟩:=eX (am (s.getD 6 0))
   rw[<-hx6]at k6 d6 hcm;obtain⟨x7,hx7⟩:=eX (am (s.getD 7 0))
   rw[<-hx7]at k7 d7;rw[<-hx7]at H1 H2 H3 H4;obtain⟨z,hz⟩:=eX (eW (s.take 7))
   rw[<-hz]at hsb H1 H2 H3 H4;simp only[<-hz]at cs;obtain⟨c,hc⟩:=eX (fA s)
   rw[<-hc]at hcm H2 H3 H4;have HCM:Hid (c=⟨x0,x1,x2*256+x3,x4*256+x5,x6⟩):=hcm;have hne:w2.heap.size≠w3.heap.size:=by omega
   have hs2:w.heap.size+1<w3.heap.size:=N3.lt;clear hx0 hx1 hx2 hx3 hx4 hx5 hx6 hx7 hz hc hb8 hr hbuf hg3 hw2 Z2 N2 B2 hcm;go_enter Tryz.func56,Tryz.ntmps56;go_wp2
   go_region_held3 (fun w'=>w'.cell? ⟨w2.heap.size,0,none⟩=some (.int .u8 x0)/\w'.cell? ⟨w2.heap.size,1,none⟩=some (.int .u8 x1)/\w'.cell? ⟨w2.heap.size,2,none⟩=some (.int .u8 x2)/\w'.cell? ⟨w2.heap.size,3,none⟩=some (.int .u8 x3)/\w'.cell? ⟨w2.heap.size,4,none⟩=some (.int .u8 x4)/\w'.cell? ⟨w2.heap.size,5,none⟩=some (.int .u8 x5)/\w'.cell? ⟨w2.heap.size,6,none⟩=some (.int .u8 x6)) (go_keep) (fail)
   have q0:IntKind.i64.wrap x0=x0:=by rw[IntKind.wrap_i64];omega
   have q1:IntKind.i64.wrap x1=x1:=by rw[IntKind.wrap_i64];omega
   have q2:IntKind.i64.wrap x2=x2:=by rw[IntKind.wrap_i64];omega
   have q3:IntKind.i64.wrap x3=x3:=by rw[IntKind.wrap_i64];omega
   have q4:IntKind.i64.wrap x4=x4:=by rw[IntKind.wrap_i64];omega
   have q5:IntKind.i64.wrap x5=x5:=by rw[IntKind.wrap_i64];omega
   have q6:IntKind.i64.wrap x6=x6:=by rw[IntKind.wrap_i64];omega
   have r2:IntKind.i64.wrap (x2*256)=x2*256:=by rw[IntKind.wrap_i64];omega
   have s2:IntKind.i64.wrap (x2*256+x3)=x2*256+x3:=by rw[IntKind.wrap_i64];omega
   have r4:IntKind.i64.wrap (x4*256)=x4*256:=by rw[IntKind.wrap_i64];omega
   have s4:IntKind.i64.wrap (x4*256+x5)=x4*256+x5:=by rw[IntKind.wrap_i64];omega
   simp only[q0,q1,q2,q3,q4,q5,q6,r2,s2,r4,s4];clear q0 q1 q2 q3 q4 q5 q6 r2 s2 r4 s4;obtain⟨w4,hw4⟩:=eX ((w3.alloc (.cells (cmA c) 66)).drew)
   have Z4:CmB w4 w.heap.size 66 Cm.zero:=by rw[hw4];exact Z3.alloc _
   have N4:CmB w4 (w.heap.size+1) 66 Cm.zero:=by rw[hw4];exact N3.alloc _
   have M4:CmB w4 w3.heap.size 66 c:=by rw[hw4];exact CmB.new w3 _ c
   have B4:bB w w4:=by rw[hw4];exact below_drewN (B3.alloc B3.size _) 1
   have hb4:∀j,j<8->w4.cell? ⟨w2.heap.size,j,none⟩=some (U (s.getD j 0)):=fun j hj=>by
    have hba:bB w3 w4:=by rw[hw4];exact below_drewN bA 1
    rw[hba.cell (p:=⟨w2.heap.size,j,none⟩) hgl];exact HB.out j hj
   have k7':w4.cell? ⟨w2.heap.size,7,none⟩=some (.int .u8 x7):=by
    have hba:bB w3 w4:=by rw[hw4];exact below_drewN bA 1
    rw[hba.cell (p:=⟨w2.heap.size,7,none⟩) hgl];exact k7
   have c1:=cs w4.drew (fun j hj=>hb4 j (by omega));rw[show cmA c=#[.int .i64 x0,.int .i64 x1,.int .i64 (x2*256+x3),.int .i64 (x4*256+x5),.int .i64 x6] by rw[HCM.out];rfl]at hw4;rw[<-hw4];have hs4:w3.heap.size<w4.heap.size:=M4.lt;clear hw4 k0 k1 k2 k3 k4 k5 k6 k7 cs Z3 N3 B3 hb4 HB;go_wp2
   go_region_held3 (fun w'=>w'.cell? ⟨w2.heap.size,7,none⟩=some (.int .u8 x7)) (go_keep)
    (first
    |(go_at_call 95;refine c1.mono ?_;rintro e w' ⟨rfl,hw'⟩;subst w'))
   have Z5:CmB w4.drew w.heap.size 66 Cm.zero:=Z4;have N5:CmB w4.drew (w.heap.size+1) 66 Cm.zero:=N4;have M5:CmB w4.drew w3.heap.size 66 c:=M4;have B5:bB w w4.drew:=below_drewN B4 1;obtain⟨w5,hw5⟩:=eX w4.drew
   rw[<-hw5]at Z5 N5 M5 B5⊢;have hs5:w3.heap.size<w5.heap.size:=M5.lt;have hsz5:w.heap.size<w5.heap.size:=Z5.lt;clear hw5 Z4 N4 M4 B4 c1 k7' hs4;by_cases h7:x7=z
   ·subst h7
    have c2:=fun wx=>aL c.o 1 12 wx
    have c3:=fun wx=>nK c wx
    have kc:w5.cell? ⟨w3.heap.size,0,none⟩=some (.int .i64 c.o):=M5.cell 0 rfl;have H2':=H2.out rfl;have H3':=H3.out rfl;have H4':=H4.out rfl;have HA:Hid (inI c.o 1 12=false->aN s=4/\ax s=Cm.zero):=H2';have HB:Hid (inI c.o 1 12=true->c.ok=false->aN s=5/\ax s=Cm.zero):=H3';have HD:Hid (c.ok=true->aN s=0/\ax s=c):=H4';clear H1 H2 H3 H4 H2' H3' H4';obtain⟨b1,hb1⟩:=eX (inI c.o 1 12)
    obtain⟨b2,hb2⟩:=eX c.ok
    rw[<-hb1]at HA HB;rw[<-hb2]at HB HD;simp only[<-hb1]at c2;simp only[<-hb2]at c3;clear hb1 hb2 HCM;go_wp2_with fail
    refine(c2 _).mono ?_;rintro e w' ⟨rfl,hw'⟩;subst w';clear c2;cases b1 with
    |false=>
     have HE:=HA.out rfl;go_wp2_with (first|(refine eA rfl _ rfl (w.heap.size+1) rfl Cm.zero N5 ?_)|(refine dX rfl _ _ rfl w.heap.size Cm.zero Cm.zero rfl rfl Z5 ?_;intro w6 R6 G6))
     refine bodyPost_ret (cY rfl _ _ w.heap.size _ _ rfl rfl R6) rfl ?_;rw[HE.1,HE.2];exact⟨rfl,B5.grown G6 (by omega) (fun k e=>by cases e;exact Nat.le_refl _)⟩
    |true=>
     have HB2:Hid (b2=false->aN s=5/\ax s=Cm.zero):=HB.out rfl;clear HB;unfold CV at c3;go_wp2_with (refine eA rfl _ rfl w3.heap.size rfl c M5 ?_;unfold CV)
     refine(c3 _).mono ?_;rintro e w6 ⟨rfl,b6⟩;have Z6:=Z5.below b6;have N6:=N5.below b6;have M6:=M5.below b6;have B6:=B5.trans (b6.mono B5.size);have hs6:=Z6.lt;clear c3 b6 Z5 N5 M5 B5 kc;cases b2 with
     |false=>
      have HE:=HB2.out rfl;go_wp2_with (first|(refine eA rfl _ rfl (w.heap.size+1) rfl Cm.zero N6 ?_)|(refine dX rfl _ _ rfl w.heap.size Cm.zero Cm.zero rfl rfl Z6 ?_;intro w7 R7 G7))
      refine bodyPost_ret (cY rfl _ _ w.heap.size _ _ rfl rfl R7) rfl ?_;rw[HE.1,HE.2];exact⟨rfl,B6.grown G7 (by omega) (fun k e=>by cases e;exact Nat.le_refl _)⟩
     |true=>
      have HE:=HD.out rfl;go_wp2_with (first|(refine eA rfl _ rfl w3.heap.size rfl c M6 ?_)|(refine dX rfl _ _ rfl w.heap.size c Cm.zero rfl rfl Z6 ?_;intro w7 R7 G7))
      refine bodyPost_ret (cY rfl _ _ w.heap.size _ _ rfl rfl R7) rfl ?_;rw[HE.1,HE.2];exact⟨rfl,B6.grown G7 (by omega) (fun k e=>by cases e;exact Nat.le_refl _)⟩
   ·have HE:=H1.out h7
    have hne7:(x7 !=z)=true:=by simpa using h7
    clear H1 H2 H3 H4;go_wp2_with (first|(refine eA rfl _ rfl (w.heap.size+1) rfl Cm.zero N5 ?_)|(refine dX rfl _ _ rfl w.heap.size Cm.zero Cm.zero rfl rfl Z5 ?_;intro w6 R6 G6))
    refine bodyPost_ret (cY rfl _ _ w.heap.size _ _ rfl rfl R6) rfl ?_;rw[HE.1,HE.2];exact⟨rfl,B5.grown G6 (by omega) (fun k e=>by cases e;exact Nat.le_refl _)⟩
theorem hP (l:Bs):(l.length<8/\aN l=1/\ax l=Cm.zero)∨(8<l.length/\aN l=2/\ax l=Cm.zero)∨(l.length=8/\aN l=0/\Aq (ax l)=l)∨(l.length=8/\3<=aN l/\aN l<=5/\ax l=Cm.zero):=by
 by_cases h1:l.length<8
 ·exact .inl ⟨h1,jY h1⟩
 ·by_cases h2:8<l.length
  ·exact .inr (.inl ⟨h2,lG h2⟩)
  ·have h8:l.length=8:=by omega
   by_cases h0:aN l=0
   ·refine .inr (.inr (.inl ⟨h8,h0,?_⟩))
    obtain⟨a,b⟩:=jX h0;unfold Aq;rw[if_pos a,b]
   ·refine .inr (.inr (.inr ⟨h8,?_,?_,gn h0⟩))
    all_goals
     unfold aN at h0⊢;rw[if_neg h1,if_neg h2]at h0⊢;split
     ·omega
     ·split
      ·omega
      ·split
       ·omega
       ·simp_all
section
open Go.ChangeShapes Go.WideShapes Go.ChangeAt Go.RowKit
end
end Go.Proofs.YthldeiojlllkdaaGreatDoor
