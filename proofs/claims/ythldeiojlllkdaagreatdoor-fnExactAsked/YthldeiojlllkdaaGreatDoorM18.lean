/- Whether a command is right (the model's CmdOk, Changes); how the laws take one kL and compare two. -/
import Derived.Test.YthldeiojlllkdaaGreatDoorM17
import Derived.Laws.IdiomStrings
set_option maxRecDepth 20000
set_option maxHeartbeats 4000000
namespace Go.Proofs.YthldeiojlllkdaaGreatDoor
open Go.ChangeShapes Go.WideShapes Go.ChangeAt Go.RowKit
theorem Dz {c:Cm} (h:inI c.o 1 12=false):c.ok=false:=by simp[Cm.ok,Cm.told,h]
theorem DA (p a b k:Int) (w:World):
  Calls Tryz.prog 96 #[CV ⟨1,p,a,b,k⟩] w fun e w'=>e=.returned (.bool (Cm.ok ⟨1,p,a,b,k⟩))/\iO w w':=by
 have hB:iO w (w.alloc (.cells #[.int .i64 1,.int .i64 p,.int .i64 a,.int .i64 b,.int .i64 k] 66)):=Fc;have c0:∀wx,_:=fun wx=>aM 1 1 12 wx
 have e0:inI 1 1 12=true:=rfl;simp only[e0]at c0;clear e0;unfold CV cmA;by_cases ha:a=0
 ·subst ha
  by_cases hb:b=0
  ·subst hb
   by_cases hk:k=0
   ·subst hk
    have he:Cm.ok ⟨1,p,0,0,0⟩=(inI p 0 255&&true&&true):=by simp[Cm.ok,Cm.told,Cm.fits,inI]
    rw[he];clear he;have c1:=fun wx=>aM p 0 255 wx
    have c2:=fun wx=>bM 0 wx
    have c3:=fun wx=>bM 0 wx
    obtain⟨b1,hb1⟩:=Fe (inI p 0 255)
    simp only[<-hb1]at c1⊢;clear hb1;have e2:inI 0 0 65535=true:=rfl;simp only[e2]at c2;clear e2;have e3:inI 0 0 65535=true:=rfl;simp only[e3]at c3;clear e3;go_enter Tryz.func96,Tryz.ntmps96;go_wp2_with fail
    refine Fd (c0 _) ?_;clear c0;go_wp2_with fail
    refine Fd (c1 _) ?_;cases b1 with
    |false=>
     go_wp2_with fail
     go_ret;exact⟨rfl,hB⟩
    |true=>
     go_wp2_with fail
     refine Fd (c2 _) ?_;go_wp2_with fail
     refine Fd (c3 _) ?_;go_wp2_with fail
     go_ret;exact⟨rfl,hB⟩
   ·have hne:(k !=0)=true:=by simpa using hk
    have he:Cm.ok ⟨1,p,0,0,k⟩=false:=by simp[Cm.ok,Cm.told,hk]
    rw[he];clear he;go_enter Tryz.func96,Tryz.ntmps96;go_wp2_with fail
    refine Fd (c0 _) ?_;clear c0;go_wp2_with fail
    go_ret;exact⟨rfl,hB⟩
  ·have hne:(b !=0)=true:=by simpa using hb
   have he:Cm.ok ⟨1,p,0,b,k⟩=false:=by simp[Cm.ok,Cm.told,hb]
   rw[he];clear he;go_enter Tryz.func96,Tryz.ntmps96;go_wp2_with fail
   refine Fd (c0 _) ?_;clear c0;go_wp2_with fail
   go_ret;exact⟨rfl,hB⟩
 ·have hne:(a !=0)=true:=by simpa using ha
  have he:Cm.ok ⟨1,p,a,b,k⟩=false:=by simp[Cm.ok,Cm.told,ha]
  rw[he];clear he;go_enter Tryz.func96,Tryz.ntmps96;go_wp2_with fail
  refine Fd (c0 _) ?_;clear c0;go_wp2_with fail
  go_ret;exact⟨rfl,hB⟩
theorem DB (p a b k:Int) (w:World):
  Calls Tryz.prog 96 #[CV ⟨2,p,a,b,k⟩] w fun e w'=>e=.returned (.bool (Cm.ok ⟨2,p,a,b,k⟩))/\iO w w':=by
 have hB:iO w (w.alloc (.cells #[.int .i64 2,.int .i64 p,.int .i64 a,.int .i64 b,.int .i64 k] 66)):=Fc;have c0:∀wx,_:=fun wx=>aM 2 1 12 wx
 have e0:inI 2 1 12=true:=rfl;simp only[e0]at c0;clear e0;unfold CV cmA;by_cases hb:b=0
 ·subst hb
  by_cases hk:k=0
  ·subst hk
   have he:Cm.ok ⟨2,p,a,0,0⟩=(inI p 0 255&&inI a 0 65535&&true):=by simp[Cm.ok,Cm.told,Cm.fits,inI]
   rw[he];clear he;have c1:=fun wx=>aM p 0 255 wx
   have c2:=fun wx=>bM a wx
   have c3:=fun wx=>bM 0 wx
   obtain⟨b1,hb1⟩:=Fe (inI p 0 255)
   simp only[<-hb1]at c1⊢;clear hb1;obtain⟨b2,hb2⟩:=Fe (inI a 0 65535)
   simp only[<-hb2]at c2⊢;clear hb2;have e3:inI 0 0 65535=true:=rfl;simp only[e3]at c3;clear e3;go_enter Tryz.func96,Tryz.ntmps96;go_wp2_with fail
   refine Fd (c0 _) ?_;clear c0;go_wp2_with fail
   refine Fd (c1 _) ?_;cases b1 with
   |false=>
    go_wp2_with fail
    go_ret;exact⟨rfl,hB⟩
   |true=>
    go_wp2_with fail
    refine Fd (c2 _) ?_;cases b2 with
    |false=>
     go_wp2_with fail
     go_ret;exact⟨rfl,hB⟩
    |true=>
     go_wp2_with fail
     refine Fd (c3 _) ?_;go_wp2_with fail
     go_ret;exact⟨rfl,hB⟩
  ·have hne:(k !=0)=true:=by simpa using hk
   have he:Cm.ok ⟨2,p,a,0,k⟩=false:=by simp[Cm.ok,Cm.told,hk]
   rw[he];clear he;go_enter Tryz.func96,Tryz.ntmps96;go_wp2_with fail
   refine Fd (c0 _) ?_;clear c0;go_wp2_with fail
   go_ret;exact⟨rfl,hB⟩
 ·have hne:(b !=0)=true:=by simpa using hb
  have he:Cm.ok ⟨2,p,a,b,k⟩=false:=by simp[Cm.ok,Cm.told,hb]
  rw[he];clear he;go_enter Tryz.func96,Tryz.ntmps96;go_wp2_with fail
  refine Fd (c0 _) ?_;clear c0;go_wp2_with fail
  go_ret;exact⟨rfl,hB⟩
theorem DC (p a b k:Int) (w:World):
  Calls Tryz.prog 96 #[CV ⟨3,p,a,b,k⟩] w fun e w'=>e=.returned (.bool (Cm.ok ⟨3,p,a,b,k⟩))/\iO w w':=by
 have hB:iO w (w.alloc (.cells #[.int .i64 3,.int .i64 p,.int .i64 a,.int .i64 b,.int .i64 k] 66)):=Fc;have c0:∀wx,_:=fun wx=>aM 3 1 12 wx
 have e0:inI 3 1 12=true:=rfl;simp only[e0]at c0;clear e0;unfold CV cmA;by_cases hk:k=0
 ·subst hk
  have he:Cm.ok ⟨3,p,a,b,0⟩=(inI p 0 255&&inI a 0 65535&&inI b 0 65535):=by simp[Cm.ok,Cm.told,Cm.fits,inI]
  rw[he];clear he;have c1:=fun wx=>aM p 0 255 wx
  have c2:=fun wx=>bM a wx
  have c3:=fun wx=>bM b wx
  obtain⟨b1,hb1⟩:=Fe (inI p 0 255)
  simp only[<-hb1]at c1⊢;clear hb1;obtain⟨b2,hb2⟩:=Fe (inI a 0 65535)
  simp only[<-hb2]at c2⊢;clear hb2;obtain⟨b3,hb3⟩:=Fe (inI b 0 65535)
  simp only[<-hb3]at c3⊢;clear hb3;go_enter Tryz.func96,Tryz.ntmps96;go_wp2_with fail
  refine Fd (c0 _) ?_;clear c0;go_wp2_with fail
  refine Fd (c1 _) ?_;cases b1 with
  |false=>
   go_wp2_with fail
   go_ret;exact⟨rfl,hB⟩
  |true=>
   go_wp2_with fail
   refine Fd (c2 _) ?_;cases b2 with
   |false=>
    go_wp2_with fail
    go_ret;exact⟨rfl,hB⟩
   |true=>
    go_wp2_with fail
    refine Fd (c3 _) ?_;go_wp2_with fail
    go_ret;exact⟨rfl,hB⟩
 ·have hne:(k !=0)=true:=by simpa using hk
  have he:Cm.ok ⟨3,p,a,b,k⟩=false:=by simp[Cm.ok,Cm.told,hk]
  rw[he];clear he;go_enter Tryz.func96,Tryz.ntmps96;go_wp2_with fail
  refine Fd (c0 _) ?_;clear c0;go_wp2_with fail
  go_ret;exact⟨rfl,hB⟩
theorem DD (p a b k:Int) (w:World):
  Calls Tryz.prog 96 #[CV ⟨4,p,a,b,k⟩] w fun e w'=>e=.returned (.bool (Cm.ok ⟨4,p,a,b,k⟩))/\iO w w':=by
 have hB:iO w (w.alloc (.cells #[.int .i64 4,.int .i64 p,.int .i64 a,.int .i64 b,.int .i64 k] 66)):=Fc;have c0:∀wx,_:=fun wx=>aM 4 1 12 wx
 have e0:inI 4 1 12=true:=rfl;simp only[e0]at c0;clear e0;unfold CV cmA;by_cases ha:a=0
 ·subst ha
  by_cases hb:b=0
  ·subst hb
   by_cases hk:k=0
   ·subst hk
    have he:Cm.ok ⟨4,p,0,0,0⟩=(inI p 0 255&&true&&true):=by simp[Cm.ok,Cm.told,Cm.fits,inI]
    rw[he];clear he;have c1:=fun wx=>aM p 0 255 wx
    have c2:=fun wx=>bM 0 wx
    have c3:=fun wx=>bM 0 wx
    obtain⟨b1,hb1⟩:=Fe (inI p 0 255)
    simp only[<-hb1]at c1⊢;clear hb1;have e2:inI 0 0 65535=true:=rfl;simp only[e2]at c2;clear e2;have e3:inI 0 0 65535=true:=rfl;simp only[e3]at c3;clear e3;go_enter Tryz.func96,Tryz.ntmps96;go_wp2_with fail
    refine Fd (c0 _) ?_;clear c0;go_wp2_with fail
    refine Fd (c1 _) ?_;cases b1 with
    |false=>
     go_wp2_with fail
     go_ret;exact⟨rfl,hB⟩
    |true=>
     go_wp2_with fail
     refine Fd (c2 _) ?_;go_wp2_with fail
     refine Fd (c3 _) ?_;go_wp2_with fail
     go_ret;exact⟨rfl,hB⟩
   ·have hne:(k !=0)=true:=by simpa using hk
    have he:Cm.ok ⟨4,p,0,0,k⟩=false:=by simp[Cm.ok,Cm.told,hk]
    rw[he];clear he;go_enter Tryz.func96,Tryz.ntmps96;go_wp2_with fail
    refine Fd (c0 _) ?_;clear c0;go_wp2_with fail
    go_ret;exact⟨rfl,hB⟩
  ·have hne:(b !=0)=true:=by simpa using hb
   have he:Cm.ok ⟨4,p,0,b,k⟩=false:=by simp[Cm.ok,Cm.told,hb]
   rw[he];clear he;go_enter Tryz.func96,Tryz.ntmps96;go_wp2_with fail
   refine Fd (c0 _) ?_;clear c0;go_wp2_with fail
   go_ret;exact⟨rfl,hB⟩
 ·have hne:(a !=0)=true:=by simpa using ha
  have he:Cm.ok ⟨4,p,a,b,k⟩=false:=by simp[Cm.ok,Cm.told,ha]
  rw[he];clear he;go_enter Tryz.func96,Tryz.ntmps96;go_wp2_with fail
  refine Fd (c0 _) ?_;clear c0;go_wp2_with fail
  go_ret;exact⟨rfl,hB⟩
theorem DE (p a b k:Int) (w:World):
  Calls Tryz.prog 96 #[CV ⟨5,p,a,b,k⟩] w fun e w'=>e=.returned (.bool (Cm.ok ⟨5,p,a,b,k⟩))/\iO w w':=by
 have hB:iO w (w.alloc (.cells #[.int .i64 5,.int .i64 p,.int .i64 a,.int .i64 b,.int .i64 k] 66)):=Fc;have c0:∀wx,_:=fun wx=>aM 5 1 12 wx
 have e0:inI 5 1 12=true:=rfl;simp only[e0]at c0;clear e0;unfold CV cmA;by_cases hp:p=0
 ·subst hp
  by_cases ha:a=0
  ·subst ha
   by_cases hb:b=0
   ·subst hb
    by_cases hk:k=0
    ·subst hk
     have he:Cm.ok ⟨5,0,0,0,0⟩=(true&&true&&true):=by simp[Cm.ok,Cm.told,Cm.fits,inI]
     rw[he];clear he;have c1:=fun wx=>aM 0 0 255 wx
     have c2:=fun wx=>bM 0 wx
     have c3:=fun wx=>bM 0 wx
     have e1:inI 0 0 255=true:=rfl;simp only[e1]at c1;clear e1;have e2:inI 0 0 65535=true:=rfl;simp only[e2]at c2;clear e2;have e3:inI 0 0 65535=true:=rfl;simp only[e3]at c3;clear e3;go_enter Tryz.func96,Tryz.ntmps96;go_wp2_with fail
     refine Fd (c0 _) ?_;clear c0;go_wp2_with fail
     refine Fd (c1 _) ?_;go_wp2_with fail
     refine Fd (c2 _) ?_;go_wp2_with fail
     refine Fd (c3 _) ?_;go_wp2_with fail
     go_ret;exact⟨rfl,hB⟩
    ·have hne:(k !=0)=true:=by simpa using hk
     have he:Cm.ok ⟨5,0,0,0,k⟩=false:=by simp[Cm.ok,Cm.told,hk]
     rw[he];clear he;go_enter Tryz.func96,Tryz.ntmps96;go_wp2_with fail
     refine Fd (c0 _) ?_;clear c0;go_wp2_with fail
     go_ret;exact⟨rfl,hB⟩
   ·have hne:(b !=0)=true:=by simpa using hb
    have he:Cm.ok ⟨5,0,0,b,k⟩=false:=by simp[Cm.ok,Cm.told,hb]
    rw[he];clear he;go_enter Tryz.func96,Tryz.ntmps96;go_wp2_with fail
    refine Fd (c0 _) ?_;clear c0;go_wp2_with fail
    go_ret;exact⟨rfl,hB⟩
  ·have hne:(a !=0)=true:=by simpa using ha
   have he:Cm.ok ⟨5,0,a,b,k⟩=false:=by simp[Cm.ok,Cm.told,ha]
   rw[he];clear he;go_enter Tryz.func96,Tryz.ntmps96;go_wp2_with fail
   refine Fd (c0 _) ?_;clear c0;go_wp2_with fail
   go_ret;exact⟨rfl,hB⟩
 ·have hne:(p !=0)=true:=by simpa using hp
  have he:Cm.ok ⟨5,p,a,b,k⟩=false:=by simp[Cm.ok,Cm.told,hp]
  rw[he];clear he;go_enter Tryz.func96,Tryz.ntmps96;go_wp2_with fail
  refine Fd (c0 _) ?_;clear c0;go_wp2_with fail
  go_ret;exact⟨rfl,hB⟩
theorem DF (p a b k:Int) (w:World):
  Calls Tryz.prog 96 #[CV ⟨6,p,a,b,k⟩] w fun e w'=>e=.returned (.bool (Cm.ok ⟨6,p,a,b,k⟩))/\iO w w':=by
 have hB:iO w (w.alloc (.cells #[.int .i64 6,.int .i64 p,.int .i64 a,.int .i64 b,.int .i64 k] 66)):=Fc;have c0:∀wx,_:=fun wx=>aM 6 1 12 wx
 have e0:inI 6 1 12=true:=rfl;simp only[e0]at c0;clear e0;unfold CV cmA;by_cases hp:p=0
 ·subst hp
  by_cases hb:b=0
  ·subst hb
   by_cases hk:k=0
   ·subst hk
    have he:Cm.ok ⟨6,0,a,0,0⟩=(inI a 0 9999):=by simp[Cm.ok,Cm.told,Cm.fits,inI]
    rw[he];clear he;have c1:=fun wx=>mm a wx
    obtain⟨b1,hb1⟩:=Fe (inI a 0 9999)
    simp only[<-hb1]at c1⊢;clear hb1;go_enter Tryz.func96,Tryz.ntmps96;go_wp2_with fail
    refine Fd (c0 _) ?_;clear c0;go_wp2_with fail
    refine Fd (c1 _) ?_;go_wp2_with fail
    go_ret;exact⟨rfl,hB⟩
   ·have hne:(k !=0)=true:=by simpa using hk
    have he:Cm.ok ⟨6,0,a,0,k⟩=false:=by simp[Cm.ok,Cm.told,hk]
    rw[he];clear he;go_enter Tryz.func96,Tryz.ntmps96;go_wp2_with fail
    refine Fd (c0 _) ?_;clear c0;go_wp2_with fail
    go_ret;exact⟨rfl,hB⟩
  ·have hne:(b !=0)=true:=by simpa using hb
   have he:Cm.ok ⟨6,0,a,b,k⟩=false:=by simp[Cm.ok,Cm.told,hb]
   rw[he];clear he;go_enter Tryz.func96,Tryz.ntmps96;go_wp2_with fail
   refine Fd (c0 _) ?_;clear c0;go_wp2_with fail
   go_ret;exact⟨rfl,hB⟩
 ·have hne:(p !=0)=true:=by simpa using hp
  have he:Cm.ok ⟨6,p,a,b,k⟩=false:=by simp[Cm.ok,Cm.told,hp]
  rw[he];clear he;go_enter Tryz.func96,Tryz.ntmps96;go_wp2_with fail
  refine Fd (c0 _) ?_;clear c0;go_wp2_with fail
  go_ret;exact⟨rfl,hB⟩
theorem DG (p a b k:Int) (w:World):
  Calls Tryz.prog 96 #[CV ⟨7,p,a,b,k⟩] w fun e w'=>e=.returned (.bool (Cm.ok ⟨7,p,a,b,k⟩))/\iO w w':=by
 have hB:iO w (w.alloc (.cells #[.int .i64 7,.int .i64 p,.int .i64 a,.int .i64 b,.int .i64 k] 66)):=Fc;have c0:∀wx,_:=fun wx=>aM 7 1 12 wx
 have e0:inI 7 1 12=true:=rfl;simp only[e0]at c0;clear e0;unfold CV cmA;by_cases hp:p=0
 ·subst hp
  by_cases ha:a=0
  ·subst ha
   by_cases hb:b=0
   ·subst hb
    have he:Cm.ok ⟨7,0,0,0,k⟩=(inI k 1 6):=by simp[Cm.ok,Cm.told,Cm.fits,inI]
    rw[he];clear he;have c1:=fun wx=>aM k 1 6 wx
    obtain⟨b1,hb1⟩:=Fe (inI k 1 6)
    simp only[<-hb1]at c1⊢;clear hb1;go_enter Tryz.func96,Tryz.ntmps96;go_wp2_with fail
    refine Fd (c0 _) ?_;clear c0;go_wp2_with fail
    refine Fd (c1 _) ?_;go_wp2_with fail
    go_ret;exact⟨rfl,hB⟩
   ·have hne:(b !=0)=true:=by simpa using hb
    have he:Cm.ok ⟨7,0,0,b,k⟩=false:=by simp[Cm.ok,Cm.told,hb]
    rw[he];clear he;go_enter Tryz.func96,Tryz.ntmps96;go_wp2_with fail
    refine Fd (c0 _) ?_;clear c0;go_wp2_with fail
    go_ret;exact⟨rfl,hB⟩
  ·have hne:(a !=0)=true:=by simpa using ha
   have he:Cm.ok ⟨7,0,a,b,k⟩=false:=by simp[Cm.ok,Cm.told,ha]
   rw[he];clear he;go_enter Tryz.func96,Tryz.ntmps96;go_wp2_with fail
   refine Fd (c0 _) ?_;clear c0;go_wp2_with fail
   go_ret;exact⟨rfl,hB⟩
 ·have hne:(p !=0)=true:=by simpa using hp
  have he:Cm.ok ⟨7,p,a,b,k⟩=false:=by simp[Cm.ok,Cm.told,hp]
  rw[he];clear he;go_enter Tryz.func96,Tryz.ntmps96;go_wp2_with fail
  refine Fd (c0 _) ?_;clear c0;go_wp2_with fail
  go_ret;exact⟨rfl,hB⟩
theorem DH (p a b k:Int) (w:World):
  Calls Tryz.prog 96 #[CV ⟨8,p,a,b,k⟩] w fun e w'=>e=.returned (.bool (Cm.ok ⟨8,p,a,b,k⟩))/\iO w w':=by
 have hB:iO w (w.alloc (.cells #[.int .i64 8,.int .i64 p,.int .i64 a,.int .i64 b,.int .i64 k] 66)):=Fc;have c0:∀wx,_:=fun wx=>aM 8 1 12 wx
 have e0:inI 8 1 12=true:=rfl;simp only[e0]at c0;clear e0;unfold CV cmA;by_cases hp:p=0
 ·subst hp
  by_cases ha:a=0
  ·subst ha
   by_cases hb:b=0
   ·subst hb
    by_cases hk:k=0
    ·subst hk
     have he:Cm.ok ⟨8,0,0,0,0⟩=(true&&true&&true):=by simp[Cm.ok,Cm.told,Cm.fits,inI]
     rw[he];clear he;have c1:=fun wx=>aM 0 0 255 wx
     have c2:=fun wx=>bM 0 wx
     have c3:=fun wx=>bM 0 wx
     have e1:inI 0 0 255=true:=rfl;simp only[e1]at c1;clear e1;have e2:inI 0 0 65535=true:=rfl;simp only[e2]at c2;clear e2;have e3:inI 0 0 65535=true:=rfl;simp only[e3]at c3;clear e3;go_enter Tryz.func96,Tryz.ntmps96;go_wp2_with fail
     refine Fd (c0 _) ?_;clear c0;go_wp2_with fail
     refine Fd (c1 _) ?_;go_wp2_with fail
     refine Fd (c2 _) ?_;go_wp2_with fail
     refine Fd (c3 _) ?_;go_wp2_with fail
     go_ret;exact⟨rfl,hB⟩
    ·have hne:(k !=0)=true:=by simpa using hk
     have he:Cm.ok ⟨8,0,0,0,k⟩=false:=by simp[Cm.ok,Cm.told,hk]
     rw[he];clear he;go_enter Tryz.func96,Tryz.ntmps96;go_wp2_with fail
     refine Fd (c0 _) ?_;clear c0;go_wp2_with fail
     go_ret;exact⟨rfl,hB⟩
   ·have hne:(b !=0)=true:=by simpa using hb
    have he:Cm.ok ⟨8,0,0,b,k⟩=false:=by simp[Cm.ok,Cm.told,hb]
    rw[he];clear he;go_enter Tryz.func96,Tryz.ntmps96;go_wp2_with fail
    refine Fd (c0 _) ?_;clear c0;go_wp2_with fail
    go_ret;exact⟨rfl,hB⟩
  ·have hne:(a !=0)=true:=by simpa using ha
   have he:Cm.ok ⟨8,0,a,b,k⟩=false:=by simp[Cm.ok,Cm.told,ha]
   rw[he];clear he;go_enter Tryz.func96,Tryz.ntmps96;go_wp2_with fail
   refine Fd (c0 _) ?_;clear c0;go_wp2_with fail
   go_ret;exact⟨rfl,hB⟩
 ·have hne:(p !=0)=true:=by simpa using hp
  have he:Cm.ok ⟨8,p,a,b,k⟩=false:=by simp[Cm.ok,Cm.told,hp]
  rw[he];clear he;go_enter Tryz.func96,Tryz.ntmps96;go_wp2_with fail
  refine Fd (c0 _) ?_;clear c0;go_wp2_with fail
  go_ret;exact⟨rfl,hB⟩
theorem DI (p a b k:Int) (w:World):
  Calls Tryz.prog 96 #[CV ⟨9,p,a,b,k⟩] w fun e w'=>e=.returned (.bool (Cm.ok ⟨9,p,a,b,k⟩))/\iO w w':=by
 have hB:iO w (w.alloc (.cells #[.int .i64 9,.int .i64 p,.int .i64 a,.int .i64 b,.int .i64 k] 66)):=Fc;have c0:∀wx,_:=fun wx=>aM 9 1 12 wx
 have e0:inI 9 1 12=true:=rfl;simp only[e0]at c0;clear e0;unfold CV cmA;by_cases hp:p=0
 ·subst hp
  by_cases ha:a=0
  ·subst ha
   by_cases hb:b=0
   ·subst hb
    by_cases hk:k=0
    ·subst hk
     have he:Cm.ok ⟨9,0,0,0,0⟩=(true&&true&&true):=by simp[Cm.ok,Cm.told,Cm.fits,inI]
     rw[he];clear he;have c1:=fun wx=>aM 0 0 255 wx
     have c2:=fun wx=>bM 0 wx
     have c3:=fun wx=>bM 0 wx
     have e1:inI 0 0 255=true:=rfl;simp only[e1]at c1;clear e1;have e2:inI 0 0 65535=true:=rfl;simp only[e2]at c2;clear e2;have e3:inI 0 0 65535=true:=rfl;simp only[e3]at c3;clear e3;go_enter Tryz.func96,Tryz.ntmps96;go_wp2_with fail
     refine Fd (c0 _) ?_;clear c0;go_wp2_with fail
     refine Fd (c1 _) ?_;go_wp2_with fail
     refine Fd (c2 _) ?_;go_wp2_with fail
     refine Fd (c3 _) ?_;go_wp2_with fail
     go_ret;exact⟨rfl,hB⟩
    ·have hne:(k !=0)=true:=by simpa using hk
     have he:Cm.ok ⟨9,0,0,0,k⟩=false:=by simp[Cm.ok,Cm.told,hk]
     rw[he];clear he;go_enter Tryz.func96,Tryz.ntmps96;go_wp2_with fail
     refine Fd (c0 _) ?_;clear c0;go_wp2_with fail
     go_ret;exact⟨rfl,hB⟩
   ·have hne:(b !=0)=true:=by simpa using hb
    have he:Cm.ok ⟨9,0,0,b,k⟩=false:=by simp[Cm.ok,Cm.told,hb]
    rw[he];clear he;go_enter Tryz.func96,Tryz.ntmps96;go_wp2_with fail
    refine Fd (c0 _) ?_;clear c0;go_wp2_with fail
    go_ret;exact⟨rfl,hB⟩
  ·have hne:(a !=0)=true:=by simpa using ha
   have he:Cm.ok ⟨9,0,a,b,k⟩=false:=by simp[Cm.ok,Cm.told,ha]
   rw[he];clear he;go_enter Tryz.func96,Tryz.ntmps96;go_wp2_with fail
   refine Fd (c0 _) ?_;clear c0;go_wp2_with fail
   go_ret;exact⟨rfl,hB⟩
 ·have hne:(p !=0)=true:=by simpa using hp
  have he:Cm.ok ⟨9,p,a,b,k⟩=false:=by simp[Cm.ok,Cm.told,hp]
  rw[he];clear he;go_enter Tryz.func96,Tryz.ntmps96;go_wp2_with fail
  refine Fd (c0 _) ?_;clear c0;go_wp2_with fail
  go_ret;exact⟨rfl,hB⟩
theorem Ce (p a b k:Int) (w:World):
  Calls Tryz.prog 96 #[CV ⟨10,p,a,b,k⟩] w fun e w'=>e=.returned (.bool (Cm.ok ⟨10,p,a,b,k⟩))/\iO w w':=by
 have hB:iO w (w.alloc (.cells #[.int .i64 10,.int .i64 p,.int .i64 a,.int .i64 b,.int .i64 k] 66)):=Fc;have c0:∀wx,_:=fun wx=>aM 10 1 12 wx
 have e0:inI 10 1 12=true:=rfl;simp only[e0]at c0;clear e0;unfold CV cmA;by_cases hp:p=0
 ·subst hp
  have he:Cm.ok ⟨10,0,a,b,k⟩=(inI a 0 9999&&inI b 1 9999&&inI k 1 6):=by simp[Cm.ok,Cm.told,Cm.fits,inI]
  rw[he];clear he;have c1:=fun wx=>mm a wx
  have c2:=fun wx=>aM b 1 9999 wx
  have c3:=fun wx=>aM k 1 6 wx
  obtain⟨b1,hb1⟩:=Fe (inI a 0 9999)
  simp only[<-hb1]at c1⊢;clear hb1;obtain⟨b2,hb2⟩:=Fe (inI b 1 9999)
  simp only[<-hb2]at c2⊢;clear hb2;obtain⟨b3,hb3⟩:=Fe (inI k 1 6)
  simp only[<-hb3]at c3⊢;clear hb3;go_enter Tryz.func96,Tryz.ntmps96;go_wp2_with fail
  refine Fd (c0 _) ?_;clear c0;go_wp2_with fail
  refine Fd (c1 _) ?_;cases b1 with
  |false=>
   go_wp2_with fail
   go_ret;exact⟨rfl,hB⟩
  |true=>
   go_wp2_with fail
   refine Fd (c2 _) ?_;cases b2 with
   |false=>
    go_wp2_with fail
    go_ret;exact⟨rfl,hB⟩
   |true=>
    go_wp2_with fail
    refine Fd (c3 _) ?_;go_wp2_with fail
    go_ret;exact⟨rfl,hB⟩
 ·have hne:(p !=0)=true:=by simpa using hp
  have he:Cm.ok ⟨10,p,a,b,k⟩=false:=by simp[Cm.ok,Cm.told,hp]
  rw[he];clear he;go_enter Tryz.func96,Tryz.ntmps96;go_wp2_with fail
  refine Fd (c0 _) ?_;clear c0;go_wp2_with fail
  go_ret;exact⟨rfl,hB⟩
theorem Cf (p a b k:Int) (w:World):
  Calls Tryz.prog 96 #[CV ⟨11,p,a,b,k⟩] w fun e w'=>e=.returned (.bool (Cm.ok ⟨11,p,a,b,k⟩))/\iO w w':=by
 have hB:iO w (w.alloc (.cells #[.int .i64 11,.int .i64 p,.int .i64 a,.int .i64 b,.int .i64 k] 66)):=Fc;have c0:∀wx,_:=fun wx=>aM 11 1 12 wx
 have e0:inI 11 1 12=true:=rfl;simp only[e0]at c0;clear e0;unfold CV cmA;by_cases hp:p=0
 ·subst hp
  by_cases ha:a=0
  ·subst ha
   by_cases hb:b=0
   ·subst hb
    by_cases hk:k=0
    ·subst hk
     have he:Cm.ok ⟨11,0,0,0,0⟩=(true&&true&&true):=by simp[Cm.ok,Cm.told,Cm.fits,inI]
     rw[he];clear he;have c1:=fun wx=>aM 0 0 255 wx
     have c2:=fun wx=>bM 0 wx
     have c3:=fun wx=>bM 0 wx
     have e1:inI 0 0 255=true:=rfl;simp only[e1]at c1;clear e1;have e2:inI 0 0 65535=true:=rfl;simp only[e2]at c2;clear e2;have e3:inI 0 0 65535=true:=rfl;simp only[e3]at c3;clear e3;go_enter Tryz.func96,Tryz.ntmps96;go_wp2_with fail
     refine Fd (c0 _) ?_;clear c0;go_wp2_with fail
     refine Fd (c1 _) ?_;go_wp2_with fail
     refine Fd (c2 _) ?_;go_wp2_with fail
     refine Fd (c3 _) ?_;go_wp2_with fail
     go_ret;exact⟨rfl,hB⟩
    ·have hne:(k !=0)=true:=by simpa using hk
     have he:Cm.ok ⟨11,0,0,0,k⟩=false:=by simp[Cm.ok,Cm.told,hk]
     rw[he];clear he;go_enter Tryz.func96,Tryz.ntmps96;go_wp2_with fail
     refine Fd (c0 _) ?_;clear c0;go_wp2_with fail
     go_ret;exact⟨rfl,hB⟩
   ·have hne:(b !=0)=true:=by simpa using hb
    have he:Cm.ok ⟨11,0,0,b,k⟩=false:=by simp[Cm.ok,Cm.told,hb]
    rw[he];clear he;go_enter Tryz.func96,Tryz.ntmps96;go_wp2_with fail
    refine Fd (c0 _) ?_;clear c0;go_wp2_with fail
    go_ret;exact⟨rfl,hB⟩
  ·have hne:(a !=0)=true:=by simpa using ha
   have he:Cm.ok ⟨11,0,a,b,k⟩=false:=by simp[Cm.ok,Cm.told,ha]
   rw[he];clear he;go_enter Tryz.func96,Tryz.ntmps96;go_wp2_with fail
   refine Fd (c0 _) ?_;clear c0;go_wp2_with fail
   go_ret;exact⟨rfl,hB⟩
 ·have hne:(p !=0)=true:=by simpa using hp
  have he:Cm.ok ⟨11,p,a,b,k⟩=false:=by simp[Cm.ok,Cm.told,hp]
  rw[he];clear he;go_enter Tryz.func96,Tryz.ntmps96;go_wp2_with fail
  refine Fd (c0 _) ?_;clear c0;go_wp2_with fail
  go_ret;exact⟨rfl,hB⟩
theorem Cg (p a b k:Int) (w:World):
  Calls Tryz.prog 96 #[CV ⟨12,p,a,b,k⟩] w fun e w'=>e=.returned (.bool (Cm.ok ⟨12,p,a,b,k⟩))/\iO w w':=by
 have hB:iO w (w.alloc (.cells #[.int .i64 12,.int .i64 p,.int .i64 a,.int .i64 b,.int .i64 k] 66)):=Fc;have c0:∀wx,_:=fun wx=>aM 12 1 12 wx
 have e0:inI 12 1 12=true:=rfl;simp only[e0]at c0;clear e0;unfold CV cmA;by_cases hp:p=0
 ·subst hp
  by_cases ha:a=0
  ·subst ha
   by_cases hb:b=0
   ·subst hb
    by_cases hk:k=0
    ·subst hk
     have he:Cm.ok ⟨12,0,0,0,0⟩=(true&&true&&true):=by simp[Cm.ok,Cm.told,Cm.fits,inI]
     rw[he];clear he;have c1:=fun wx=>aM 0 0 255 wx
     have c2:=fun wx=>bM 0 wx
     have c3:=fun wx=>bM 0 wx
     have e1:inI 0 0 255=true:=rfl;simp only[e1]at c1;clear e1;have e2:inI 0 0 65535=true:=rfl;simp only[e2]at c2;clear e2;have e3:inI 0 0 65535=true:=rfl;simp only[e3]at c3;clear e3;go_enter Tryz.func96,Tryz.ntmps96;go_wp2_with fail
     refine Fd (c0 _) ?_;clear c0;go_wp2_with fail
     refine Fd (c1 _) ?_;go_wp2_with fail
     refine Fd (c2 _) ?_;go_wp2_with fail
     refine Fd (c3 _) ?_;go_wp2_with fail
     go_ret;exact⟨rfl,hB⟩
    ·have hne:(k !=0)=true:=by simpa using hk
     have he:Cm.ok ⟨12,0,0,0,k⟩=false:=by simp[Cm.ok,Cm.told,hk]
     rw[he];clear he;go_enter Tryz.func96,Tryz.ntmps96;go_wp2_with fail
     refine Fd (c0 _) ?_;clear c0;go_wp2_with fail
     go_ret;exact⟨rfl,hB⟩
   ·have hne:(b !=0)=true:=by simpa using hb
    have he:Cm.ok ⟨12,0,0,b,k⟩=false:=by simp[Cm.ok,Cm.told,hb]
    rw[he];clear he;go_enter Tryz.func96,Tryz.ntmps96;go_wp2_with fail
    refine Fd (c0 _) ?_;clear c0;go_wp2_with fail
    go_ret;exact⟨rfl,hB⟩
  ·have hne:(a !=0)=true:=by simpa using ha
   have he:Cm.ok ⟨12,0,a,b,k⟩=false:=by simp[Cm.ok,Cm.told,ha]
   rw[he];clear he;go_enter Tryz.func96,Tryz.ntmps96;go_wp2_with fail
   refine Fd (c0 _) ?_;clear c0;go_wp2_with fail
   go_ret;exact⟨rfl,hB⟩
 ·have hne:(p !=0)=true:=by simpa using hp
  have he:Cm.ok ⟨12,p,a,b,k⟩=false:=by simp[Cm.ok,Cm.told,hp]
  rw[he];clear he;go_enter Tryz.func96,Tryz.ntmps96;go_wp2_with fail
  refine Fd (c0 _) ?_;clear c0;go_wp2_with fail
  go_ret;exact⟨rfl,hB⟩
theorem nJ (c:Cm) (w:World):
  Calls Tryz.prog 96 #[CV c] w fun e w'=>e=.returned (.bool c.ok)/\iO w w':=by
 obtain⟨o,p,a,b,k⟩:=c;by_cases h:inI o 1 12=true
 ·rw[aE]at h
  obtain rfl|rfl|rfl|rfl|rfl|rfl|rfl|rfl|rfl|rfl|rfl|rfl:o=1∨o=2∨o=3∨o=4∨o=5∨o=6∨o=7∨o=8∨o=9∨o=10∨o=11∨o=12:=by omega
  ·exact DA p a b k w
  ·exact DB p a b k w
  ·exact DC p a b k w
  ·exact DD p a b k w
  ·exact DE p a b k w
  ·exact DF p a b k w
  ·exact DG p a b k w
  ·exact DH p a b k w
  ·exact DI p a b k w
  ·exact Ce p a b k w
  ·exact Cf p a b k w
  ·exact Cg p a b k w
 ·have h':inI o 1 12=false:=by simpa using h
  have hok:Cm.ok ⟨o,p,a,b,k⟩=false:=Dz h';rw[hok];have hb:iO w (w.alloc (.cells #[.int .i64 o,.int .i64 p,.int .i64 a,.int .i64 b,.int .i64 k] 66)):=Fc;have c0:∀wx,_:=fun wx=>aM o 1 12 wx
  simp only[h']at c0;have h2:o<=0∨13<=o:=by
   simp only[inI,Bool.and_eq_false_iff,decide_eq_false_iff_not]at h';omega
  clear h h' hok;have n2:(o==2)=false:=by simp;omega
  have n3:(o==3)=false:=by simp;omega
  have n6:(o==6)=false:=by simp;omega
  have n7:(o==7)=false:=by simp;omega
  have n10:(o==10)=false:=by simp;omega
  unfold CV cmA;go_enter Tryz.func96,Tryz.ntmps96;go_wp2_with fail
  refine Fd (c0 _) ?_;clear c0;go_wp2_with fail
  go_ret;exact⟨rfl,hb⟩
theorem Ar (c:Cm) (w:World):
  Calls Tryz.prog 59 #[CV c] w fun e w'=>e=.returned (.bool c.chg)/\iO w w':=by
 have c1:=fun wx=>nJ c wx
 have c2:=fun wx=>aM c.o 2 4 wx
 have hch:c.chg=(c.ok&&inI c.o 2 4):=rfl;rw[hch];clear hch;obtain⟨b1,h1⟩:=Fe c.ok
 obtain⟨b2,h2⟩:=Fe (inI c.o 2 4)
 simp only[<-h1]at c1⊢;simp only[<-h2]at c2⊢;clear h1 h2;have hb:iO w (w.alloc (.cells (cmA c) 66)):=Fc;have hblk:(w.alloc (.cells (cmA c) 66)).heap[w.heap.size]?=some (.cells (cmA c) 66 (0,0)):=heap_alloc_new w _;unfold CV cmA at*;go_enter Tryz.func59,Tryz.ntmps59;go_wp2_with fail
 refine(c1 _).mono ?_;rintro e w1 ⟨rfl,b3⟩;have hc0:w1.cell? ⟨w.heap.size,0,none⟩=some (.int .i64 c.o):=by
  have:w1.heap[w.heap.size]?=_:=(b3.block w.heap.size Fg).trans hblk;rw[cell_of_row w1 w.heap.size 0 _ _ _ this];rfl
 have B1:=hb.trans (b3.mono hb.size);clear b3 hblk hb c1;cases b1 with
 |false=>
  go_wp2_with fail
  go_ret;exact⟨rfl,B1⟩
 |true=>
  go_wp2_with fail
  refine Fd (c2 _) ?_;go_wp2_with fail
  go_ret;exact⟨rfl,B1⟩
def U (b:UInt8):Value:=.int .u8 (am b)
def nF (w:World) (base:Nat) (v:Value) (l:Bs):Prop:=w.ownsRow base 5 1 v l.length (l.map U)
theorem nF.lt {w:World} {base:Nat} {v:Value} {xs:Bs} (h:nF w base v xs):∀k,v.ownBlock=some k->base<=k/\k<w.heap.size:=World.ownsRow.lt h
theorem nF.frame {w w':World} {base:Nat} {v:Value} {xs:Bs} (h:nF w base v xs) (e:∀b∈v.ownBlock.toList,w'.heap[b]?=w.heap[b]?):nF w' base v xs:=by
 refine⟨h.1,?_⟩;rcases h.2 with h'|⟨g,cap,cur,rfl,hb,hg,r⟩
 ·exact .inl h'
 ·exact .inr ⟨g,cap,cur,rfl,hb,(e g (by simp[Value.ownBlock])).trans hg,r⟩
theorem nF.kept {w w':World} {base:Nat} {v:Value} {row:Option Nat} {xs:Bs} (h:nF w base v xs) (hg:w.grownBy w' row) (hne:v.ownBlock=none∨v.ownBlock≠row):nF w' base v xs:=
 World.ownsRow.kept h hg hne
def Buf (w:World) (base g n cap:Nat) (l:Bs):Prop:=
 base<=g/\g<w.heap.size/\n=l.length/\n<=cap/\cap<=maxLen/\∀j (h:j<l.length),w.cell? ⟨g,j,none⟩=some (U l[j])/\w.frozen? ⟨g,j,none⟩=false
theorem Buf.kept {w w':World} {base g n cap:Nat} {l:Bs} {row:Option Nat} (h:Buf w base g n cap l) (hg:w.grownBy w' row) (hne:some g≠row):Buf w' base g n cap l:=by
 obtain⟨h1,h2,h3,h4,h5,h6⟩:=h;have hb:=hg.block g h2 hne;exact⟨h1,Nat.lt_of_lt_of_le h2 hg.size,h3,h4,h5,fun j hj=>⟨(World.cell?_of_block (a:=⟨g,j,none⟩) hb).trans (h6 j hj).1,(World.frozen?_of_block (a:=⟨g,j,none⟩) hb).trans (h6 j hj).2⟩⟩
theorem yy (w:World) (s:Bs) (hs:s.length<=1000000):∃cap w1,(convert 9 120 (.string ⟨s.toArray⟩)).run Tryz.prog w=.ok (.slice (some ⟨w.heap.size,0,none⟩) s.length cap) w1/\Buf w1 w.heap.size w.heap.size s.length cap s/\w.grownBy w1 none:=by
 have hr:=run_bytes_of_string (P:=Tryz.prog) w 9 120 5 ⟨s.toArray⟩ Tryz.underlying9 Tryz.underlying120 Tryz.underlying5;have hsz:(⟨s.toArray⟩:ByteArray).size=s.length:=rfl;rw[hsz]at hr;refine⟨_,_,hr,?_,⟨rfl,rfl,rfl,by simp,fun k hk _=>Below.heap_alloc w.drew _ k hk⟩⟩;have hge:=grownCap_ge w s.length 0 5;have hcm:=grownCap_le_maxLen w s.length 0 5 (by unfold maxLen;omega);generalize grownCap w s.length 0 5=cap at hge hcm;have hh:(w.drew.alloc (.cells (bytesRow ⟨s.toArray⟩ cap) 5 ((bytesRow ⟨s.toArray⟩ cap).size,(bytesRow ⟨s.toArray⟩ cap).size+1))).heap[w.heap.size]?=some (.cells (bytesRow ⟨s.toArray⟩ cap) 5 ((bytesRow ⟨s.toArray⟩ cap).size,(bytesRow ⟨s.toArray⟩ cap).size+1)):=heap_alloc_new w.drew _;have hrs:s.length<=(bytesRow ⟨s.toArray⟩ cap).size:=by simp[bytesRow,ByteArray.size]
 refine⟨Nat.le_refl _,by simp,rfl,hge,hcm,fun j hj=>⟨?_,?_⟩⟩
 ·rw[cell_of_row _ w.heap.size j _ _ _ hh]
  unfold bytesRow;rw[Array.getElem?_append_left (by simpa using hj)];simp[hj,U,am]
 ·have h1:¬(bytesRow ⟨s.toArray⟩ cap).size<=j:=by omega
  simp only[World.frozen?,hh];simp[h1]
theorem nF.alloc {w:World} {base:Nat} {v:Value} {l:Bs} (h:nF w base v l) (o:Obj):nF (w.alloc o) base v l:=World.ownsRow.alloc h o
theorem BA (g n cap:Nat) (l:Bs) (w:World) (hl:7<=l.length) (hn:7<=n) (hc:∀j,j<7->w.cell? ⟨g,j,none⟩=some (U (l.getD j 0))):
  Calls Tryz.prog 95 #[.slice (some ⟨g,0,none⟩) n cap] w fun e w'=>e=.returned (.int .u8 (eW (l.take 7)))/\w'=w:=by
 have HC:Hid (∀j,j<7->w.cell? ⟨g,j,none⟩=some (U (l.getD j 0))):=hc;clear hc;go_enter Tryz.func95,Tryz.ntmps95;go_wp2;go_loop [3,4] (fun s i=>∃(j:Nat) (x:Int),(j:Int)<=7/\i=.int .i64 j/\s=.int .i64 x/\0<=x/\x<=2000/\Hid (x=kF l j)) (fun _ i=>7-(intOf i).toNat)
 case atStart=>exact⟨0,0,by omega,rfl,rfl,by omega,by omega,rfl⟩
 case round=>
  obtain⟨j,x,hj,rfl,rfl,hx0,hx1,HX⟩:=hrel;by_cases hlt:(j:Int)<7
  ·have hcell:=HC.out j Ff
   have hbd:=bm (l.getD j 0);have HS:Hid (kF l (j+1)=x+am (l.getD j 0)):=by rw[Hid,lE l j Ff,<-HX.out]
   have hs2:=Cc l (j+1);rw[HS.out]at hs2;unfold U at hcell;obtain⟨y,hy⟩:=Fe (am (l.getD j 0))
   rw[<-hy]at hcell hbd HS hs2;clear hy;go_wp2
   go_round
   case rel=>exact⟨j+1,x+y,by omega,by go_num,by go_num,by omega,by omega,HS.out.symm⟩
   case measure=>simp[intOf];omega
  ·have HE:Hid (eW (l.take 7)=255-x%256):=by
    obtain rfl:j=7:=by omega
    rw[Hid,HX.out];rfl
   have hm:x.tmod 256=x%256:=Int.tmod_eq_emod_of_nonneg hx0;go_wp2;go_ret;rw[HE.out];exact⟨rfl,rfl⟩
theorem xk (s:Bs) (w:World) (hl:s.length<=1048576):
  Calls Tryz.prog 56 #[S s] w fun e w'=>e=.returned (.tuple #[CV (ax s),.int .i64 (aO s)])/\iO w w':=by
 have hsz:(⟨s.toArray⟩:ByteArray).size=s.length:=rfl;obtain⟨w2,hw2⟩:=Fe ((w.alloc (.cells (cmA Cm.zero) 66)).alloc (.cells (cmA Cm.zero) 66))
 have Z2:CmB w2 w.heap.size 66 Cm.zero:=by rw[hw2];exact(CmB.new w _ _).alloc _
 have N2:CmB w2 (w.heap.size+1) 66 Cm.zero:=by rw[hw2];have:=CmB.new (w.alloc (.cells (cmA Cm.zero) 66)) 66 Cm.zero;rwa[World.size_alloc]at this
 have B2:iO w w2:=by rw[hw2];exact Fc.alloc Fg _
 unfold cmA Cm.zero at hw2;dsimp only at hw2;unfold S;by_cases h8:(s.length:Int)<8
 ·have HE:Hid (aO s=1/\ax s=Cm.zero):=jY Ff
  go_enter Tryz.func56,Tryz.ntmps56;go_wp2;rw[<-hw2];refine bodyPost_ret (da rfl _ _ w.heap.size _ _ rfl rfl Z2) rfl ?_;rw[HE.out.1,HE.out.2];exact⟨rfl,B2⟩
 ·by_cases h9:8<(s.length:Int)
  ·have HE:Hid (aO s=2/\ax s=Cm.zero):=lF Ff
   go_enter Tryz.func56,Tryz.ntmps56;go_wp2;rw[<-hw2];refine bodyPost_ret (da rfl _ _ w.heap.size _ _ rfl rfl Z2) rfl ?_;rw[HE.out.1,HE.out.2];exact⟨rfl,B2⟩
  ·have hl8:s.length=8:=by omega
   obtain⟨cap,w3,hr,hbuf,hg3⟩:=yy w2 s Ff;have hb8:∀j,j<8->w3.cell? ⟨w2.heap.size,j,none⟩=some (.int .u8 (am (s.getD j 0))):=fun j hj=>by
    have h:=(hbuf.2.2.2.2.2 j Ff).1;rw[h];simp[U,show j<s.length by omega]
   have hcap:8<=cap:=by have:=hbuf.2.2.2.1;omega
   have hgl:w2.heap.size<w3.heap.size:=hbuf.2.1;have Z3:=Z2.kept hg3 Fg;have N3:=N2.kept hg3 Fg;have B3:iO w w3:=B2.grown hg3 B2.size (fun k e=>by cases e);have hr':(convert 9 120 (.string ⟨s.toArray⟩)).run Tryz.prog ((w.alloc (.cells #[.int .i64 0,.int .i64 0,.int .i64 0,.int .i64 0,.int .i64 0] 66)).alloc (.cells #[.int .i64 0,.int .i64 0,.int .i64 0,.int .i64 0,.int .i64 0] 66))=.ok (.slice (some ⟨w2.heap.size,0,none⟩) 8 cap) w3:=by rw[<-hw2,hr,hl8]
   have H1:Hid (am (s.getD 7 0)≠eW (s.take 7)->aO s=3/\ax s=Cm.zero):=sL hl8;have H2:Hid (am (s.getD 7 0)=eW (s.take 7)->inI (fA s).o 1 12=false->aO s=4/\ax s=Cm.zero):=xS hl8;have H3:Hid (am (s.getD 7 0)=eW (s.take 7)->inI (fA s).o 1 12=true->(fA s).ok=false->aO s=5/\ax s=Cm.zero):=nI hl8;have H4:Hid (am (s.getD 7 0)=eW (s.take 7)->(fA s).ok=true->aO s=0/\ax s=fA s):=xU hl8;have cs:=fun wx hc=>BA w2.heap.size 8 cap s wx Ff Ff hc
   have hsb:=xR (s.take 7);have hcm:fA s=⟨am (s.getD 0 0),am (s.getD 1 0),am (s.getD 2 0)*256+am (s.getD 3 0),am (s.getD 4 0)*256+am (s.getD 5 0),am (s.getD 6 0)⟩:=rfl;have hw3b:=hgl;have HB:Hid (∀j,j<8->w3.cell? ⟨w2.heap.size,j,none⟩=some (.int .u8 (am (s.getD j 0)))):=hb8;have k0:=hb8 0 Ff;have d0:=bm (s.getD 0 0);have k1:=hb8 1 Ff;have d1:=bm (s.getD 1 0);have k2:=hb8 2 Ff;have d2:=bm (s.getD 2 0);have k3:=hb8 3 Ff;have d3:=bm (s.getD 3 0);have k4:=hb8 4 Ff;have d4:=bm (s.getD 4 0);have k5:=hb8 5 Ff;have d5:=bm (s.getD 5 0);have k6:=hb8 6 Ff;have d6:=bm (s.getD 6 0);have k7:=hb8 7 Ff;have d7:=bm (s.getD 7 0);obtain⟨x0,hx0⟩:=Fe (am (s.getD 0 0))
   rw[<-hx0]at k0 d0 hcm;obtain⟨x1,hx1⟩:=Fe (am (s.getD 1 0))
   rw[<-hx1]at k1 d1 hcm;obtain⟨x2,hx2⟩:=Fe (am (s.getD 2 0))
   rw[<-hx2]at k2 d2 hcm;obtain⟨x3,hx3⟩:=Fe (am (s.getD 3 0))
   rw[<-hx3]at k3 d3 hcm;obtain⟨x4,hx4⟩:=Fe (am (s.getD 4 0))
   rw[<-hx4]at k4 d4 hcm;obtain⟨x5,hx5⟩:=Fe (am (s.getD 5 0))
   rw[<-hx5]at k5 d5 hcm;obtain⟨x6,hx6⟩:=Fe (am (s.getD 6 0))
   rw[<-hx6]at k6 d6 hcm;obtain⟨x7,hx7⟩:=Fe (am (s.getD 7 0))
   rw[<-hx7]at k7 d7;rw[<-hx7]at H1 H2 H3 H4;obtain⟨z,hz⟩:=Fe (eW (s.take 7))
   rw[<-hz]at hsb H1 H2 H3 H4;simp only[<-hz]at cs;obtain⟨c,hc⟩:=Fe (fA s)
   rw[<-hc]at hcm H2 H3 H4;have HCM:Hid (c=⟨x0,x1,x2*256+x3,x4*256+x5,x6⟩):=hcm;have hne:w2.heap.size≠w3.heap.size:=by omega
   have hs2:w.heap.size+1<w3.heap.size:=N3.lt;clear hx0 hx1 hx2 hx3 hx4 hx5 hx6 hx7 hz hc hb8 hr hbuf hg3 hw2 Z2 N2 B2 hcm;go_enter Tryz.func56,Tryz.ntmps56;go_wp2
   go_region_held3 (fun w'=>w'.cell? ⟨w2.heap.size,0,none⟩=some (.int .u8 x0)/\w'.cell? ⟨w2.heap.size,1,none⟩=some (.int .u8 x1)/\w'.cell? ⟨w2.heap.size,2,none⟩=some (.int .u8 x2)/\w'.cell? ⟨w2.heap.size,3,none⟩=some (.int .u8 x3)/\w'.cell? ⟨w2.heap.size,4,none⟩=some (.int .u8 x4)/\w'.cell? ⟨w2.heap.size,5,none⟩=some (.int .u8 x5)/\w'.cell? ⟨w2.heap.size,6,none⟩=some (.int .u8 x6)) (go_keep) (fail)
   have q0:IntKind.i64.wrap x0=x0:=by rw[IntKind.wrap_i64];omega
   have q1:IntKind.i64.wrap x1=x1:=by rw[IntKind.wrap_i64];omega
   have q2:IntKind.i64.wrap x2=x2:=by rw[IntKind.wrap_i64];omega
   have q3:IntKind.i64.wrap x3=x3:=by rw[IntKind.wrap_i64];omega
   have q4:IntKind.i64.wrap x4=x4:=by rw[IntKind.wrap_i64];omega
   have q5:IntKind.i64.wrap x5=x5:=by rw[IntKind.wrap_i64];omega
   have q6:IntKind.i64.wrap x6=x6:=by rw[IntKind.wrap_i64];omega
   have r2:IntKind.i64.wrap (x2*256)=x2*256:=by rw[IntKind.wrap_i64];omega
   have s2:IntKind.i64.wrap (x2*256+x3)=x2*256+x3:=by rw[IntKind.wrap_i64];omega
   have r4:IntKind.i64.wrap (x4*256)=x4*256:=by rw[IntKind.wrap_i64];omega
   have s4:IntKind.i64.wrap (x4*256+x5)=x4*256+x5:=by rw[IntKind.wrap_i64];omega
   simp only[q0,q1,q2,q3,q4,q5,q6,r2,s2,r4,s4];clear q0 q1 q2 q3 q4 q5 q6 r2 s2 r4 s4;obtain⟨w4,hw4⟩:=Fe ((w3.alloc (.cells (cmA c) 66)).drew)
   have Z4:CmB w4 w.heap.size 66 Cm.zero:=by rw[hw4];exact Z3.alloc _
   have N4:CmB w4 (w.heap.size+1) 66 Cm.zero:=by rw[hw4];exact N3.alloc _
   have M4:CmB w4 w3.heap.size 66 c:=by rw[hw4];exact CmB.new w3 _ c
   have B4:iO w w4:=by rw[hw4];exact below_drewN (B3.alloc B3.size _) 1
   have hb4:∀j,j<8->w4.cell? ⟨w2.heap.size,j,none⟩=some (U (s.getD j 0)):=fun j hj=>by
    have hba:iO w3 w4:=by rw[hw4];exact below_drewN Fc 1
    rw[hba.cell (p:=⟨w2.heap.size,j,none⟩) hgl];exact HB.out j hj
   have k7':w4.cell? ⟨w2.heap.size,7,none⟩=some (.int .u8 x7):=by
    have hba:iO w3 w4:=by rw[hw4];exact below_drewN Fc 1
    rw[hba.cell (p:=⟨w2.heap.size,7,none⟩) hgl];exact k7
   have c1:=cs w4.drew (fun j hj=>hb4 j Ff);rw[show cmA c=#[.int .i64 x0,.int .i64 x1,.int .i64 (x2*256+x3),.int .i64 (x4*256+x5),.int .i64 x6] by rw[HCM.out];rfl]at hw4;rw[<-hw4];have hs4:w3.heap.size<w4.heap.size:=M4.lt;clear hw4 k0 k1 k2 k3 k4 k5 k6 k7 cs Z3 N3 B3 hb4 HB;go_wp2
   go_region_held3 (fun w'=>w'.cell? ⟨w2.heap.size,7,none⟩=some (.int .u8 x7)) (go_keep)
    (first
    |(go_at_call 95;refine c1.mono ?_;rintro e w' ⟨rfl,hw'⟩;subst w'))
   have Z5:CmB w4.drew w.heap.size 66 Cm.zero:=Z4;have N5:CmB w4.drew (w.heap.size+1) 66 Cm.zero:=N4;have M5:CmB w4.drew w3.heap.size 66 c:=M4;have B5:iO w w4.drew:=below_drewN B4 1;obtain⟨w5,hw5⟩:=Fe w4.drew
   rw[<-hw5]at Z5 N5 M5 B5⊢;have hs5:w3.heap.size<w5.heap.size:=M5.lt;have hsz5:w.heap.size<w5.heap.size:=Z5.lt;clear hw5 Z4 N4 M4 B4 c1 k7' hs4;by_cases h7:x7=z
   ·subst h7
    have c2:=fun wx=>aM c.o 1 12 wx
    have c3:=fun wx=>nJ c wx
    have kc:w5.cell? ⟨w3.heap.size,0,none⟩=some (.int .i64 c.o):=M5.cell 0 rfl;have H2':=H2.out rfl;have H3':=H3.out rfl;have H4':=H4.out rfl;have HA:Hid (inI c.o 1 12=false->aO s=4/\ax s=Cm.zero):=H2';have HB:Hid (inI c.o 1 12=true->c.ok=false->aO s=5/\ax s=Cm.zero):=H3';have HD:Hid (c.ok=true->aO s=0/\ax s=c):=H4';clear H1 H2 H3 H4 H2' H3' H4';obtain⟨b1,hb1⟩:=Fe (inI c.o 1 12)
    obtain⟨b2,hb2⟩:=Fe c.ok
    rw[<-hb1]at HA HB;rw[<-hb2]at HB HD;simp only[<-hb1]at c2;simp only[<-hb2]at c3;clear hb1 hb2 HCM;go_wp2_with fail
    refine(c2 _).mono ?_;rintro e w' ⟨rfl,hw'⟩;subst w';clear c2;cases b1 with
    |false=>
     have HE:=HA.out rfl;go_wp2_with (first|(refine eB rfl _ rfl (w.heap.size+1) rfl Cm.zero N5 ?_)|(refine dX rfl _ _ rfl w.heap.size Cm.zero Cm.zero rfl rfl Z5 ?_;intro w6 R6 G6))
     refine bodyPost_ret (da rfl _ _ w.heap.size _ _ rfl rfl R6) rfl ?_;rw[HE.1,HE.2];exact⟨rfl,B5.grown G6 Ff (fun k e=>by cases e;exact Nat.le_refl _)⟩
    |true=>
     have HB2:Hid (b2=false->aO s=5/\ax s=Cm.zero):=HB.out rfl;clear HB;unfold CV at c3;go_wp2_with (refine eB rfl _ rfl w3.heap.size rfl c M5 ?_;unfold CV)
     refine(c3 _).mono ?_;rintro e w6 ⟨rfl,b6⟩;have Z6:=Z5.below b6;have N6:=N5.below b6;have M6:=M5.below b6;have B6:=B5.trans (b6.mono B5.size);have hs6:=Z6.lt;clear c3 b6 Z5 N5 M5 B5 kc;cases b2 with
     |false=>
      have HE:=HB2.out rfl;go_wp2_with (first|(refine eB rfl _ rfl (w.heap.size+1) rfl Cm.zero N6 ?_)|(refine dX rfl _ _ rfl w.heap.size Cm.zero Cm.zero rfl rfl Z6 ?_;intro w7 R7 G7))
      refine bodyPost_ret (da rfl _ _ w.heap.size _ _ rfl rfl R7) rfl ?_;rw[HE.1,HE.2];exact⟨rfl,B6.grown G7 Ff (fun k e=>by cases e;exact Nat.le_refl _)⟩
     |true=>
      have HE:=HD.out rfl;go_wp2_with (first|(refine eB rfl _ rfl w3.heap.size rfl c M6 ?_)|(refine dX rfl _ _ rfl w.heap.size c Cm.zero rfl rfl Z6 ?_;intro w7 R7 G7))
      refine bodyPost_ret (da rfl _ _ w.heap.size _ _ rfl rfl R7) rfl ?_;rw[HE.1,HE.2];exact⟨rfl,B6.grown G7 Ff (fun k e=>by cases e;exact Nat.le_refl _)⟩
   ·have HE:=H1.out h7
    have hne7:(x7 !=z)=true:=by simpa using h7
    clear H1 H2 H3 H4;go_wp2_with (first|(refine eB rfl _ rfl (w.heap.size+1) rfl Cm.zero N5 ?_)|(refine dX rfl _ _ rfl w.heap.size Cm.zero Cm.zero rfl rfl Z5 ?_;intro w6 R6 G6))
    refine bodyPost_ret (da rfl _ _ w.heap.size _ _ rfl rfl R6) rfl ?_;rw[HE.1,HE.2];exact⟨rfl,B5.grown G6 Ff (fun k e=>by cases e;exact Nat.le_refl _)⟩
theorem gZ (l:Bs):(l.length<8/\aO l=1/\ax l=Cm.zero)∨(8<l.length/\aO l=2/\ax l=Cm.zero)∨(l.length=8/\aO l=0/\Ap (ax l)=l)∨(l.length=8/\3<=aO l/\aO l<=5/\ax l=Cm.zero):=by
 by_cases h1:l.length<8
 ·exact .inl ⟨h1,jY h1⟩
 ·by_cases h2:8<l.length
  ·exact .inr (.inl ⟨h2,lF h2⟩)
  ·have h8:l.length=8:=by omega
   by_cases h0:aO l=0
   ·refine .inr (.inr (.inl ⟨h8,h0,?_⟩))
    obtain⟨a,b⟩:=jX h0;unfold Ap;rw[if_pos a,b]
   ·refine .inr (.inr (.inr ⟨h8,?_,?_,gm h0⟩))
    all_goals
     unfold aO at h0⊢;rw[if_neg h1,if_neg h2]at h0⊢;split
     ·omega
     ·split
      ·omega
      ·split
       ·omega
       ·simp_all
section
open Go.ChangeShapes Go.WideShapes Go.ChangeAt Go.RowKit
end
structure Bo where
 b:Nat
 t:TypeId
 cs:Array Value
def DX (L:List Bo) (w:World) (base g q:Nat) (a b:Value) (xs ys:List Int):Prop:=
 aV w base a b xs ys/\(∀k,k=g∨k=q->a.ownBlock≠some k/\b.ownBlock≠some k)/\∀x∈L,StB w x.b x.t x.cs/\x.b≠g/\x.b≠q
theorem DX.kept {L:List Bo} {w w':World} {base g q k:Nat} {a b:Value} {xs ys:List Int} (d:DX L w base g q a b xs ys) (G:w.grownBy w' (some k)) (hk:k=g∨k=q):DX L w' base g q a b xs ys:=
 ⟨⟨d.1.1.kept G (.inr (d.2.1 k hk).1),d.1.2.1.kept G (.inr (d.2.1 k hk).2),d.1.2.2⟩,d.2.1,fun x hx=>⟨(d.2.2 x hx).1.kept G (by intro e;have:=Option.some.inj e;have:=(d.2.2 x hx).2;omega),(d.2.2 x hx).2⟩⟩
theorem DX.below {L:List Bo} {w w':World} {base g q:Nat} {a b:Value} {xs ys:List Int} (d:DX L w base g q a b xs ys) (h:iO w w'):DX L w' base g q a b xs ys:=
 ⟨⟨d.1.1.below h,d.1.2.1.below h,d.1.2.2⟩,d.2.1,fun x hx=>⟨(d.2.2 x hx).1.below h,(d.2.2 x hx).2⟩⟩
theorem DX.put {L:List Bo} {w w':World} {base g q:Nat} {a b:Value} {xs ys:List Int} (d:DX L w base g q a b xs ys) (G:w.grownBy w' (some g)):DX L w' base g q a b xs ys:=d.kept G (.inl rfl)
theorem DX.make {L:List Bo} {w w':World} {base g q:Nat} {a b:Value} {xs ys:List Int} (d:DX L w base g q a b xs ys) (G:w.grownBy w' none) (hg:g<w.heap.size):DX L w' base g w.heap.size a b xs ys:=by
 refine⟨⟨d.1.1.kept G (Classical.em _),d.1.2.1.kept G (Classical.em _),d.1.2.2⟩,?_,fun x hx=>?_⟩
 ·intro k hk
  rcases hk with rfl|rfl
  ·exact d.2.1 k (.inl rfl)
  ·exact⟨fun e=>by have:=(d.1.1.lt _ e).2;omega,fun e=>by have:=(d.1.2.1.lt _ e).2;omega⟩
 ·have h1:=(d.2.2 x hx).1
  have h2:=h1.lt;exact⟨h1.kept G Fg,(d.2.2 x hx).2.1,by omega⟩
def PT (L:List Bo) (a b:Value) (xs ys:List Int) (w:World) (base g q cap:Nat) (h:Hd):Prop:=
 StB w g 96 (srA a b (.slice (some ⟨q,0,none⟩) 4 cap) h)/\Own w base (.slice (some ⟨q,0,none⟩) 4 cap) h.ks/\(g≠q/\base<=g/\base<=q/\h.ks.length=4/\DX L w base g q a b xs ys)
def PS (L:List Bo) (a b:Value) (xs ys:List Int) (w:World) (base g:Nat) (h:Hd):Prop:=∃q cap,PT L a b xs ys w base g q cap h
theorem PT.put {L:List Bo} {a b:Value} {xs ys:List Int} {w:World} {base g q cap:Nat} {h:Hd} (d:PT L a b xs ys w base g q cap h) (j:Nat) (x:Int) (f:Hd) (hk:f.ks=h.ks) (e:(srA a b (.slice (some ⟨q,0,none⟩) 4 cap) h).setIfInBounds j (.int .i64 x)=srA a b (.slice (some ⟨q,0,none⟩) 4 cap) f):
  PT L a b xs ys (w.setCell ⟨g,j,none⟩ (.int .i64 x)) base g q cap f/\Below base w (w.setCell ⟨g,j,none⟩ (.int .i64 x)):=by
 obtain⟨h1,h2,h3⟩:=d;have G:=ai w g j (.int .i64 x);refine⟨⟨h1.put j _ e,?_,?_⟩,(Below.refl base w).setCell h3.2.1 _⟩
 ·rw[hk];exact h2.kept G (.inr (by intro e;have:q=g:=Option.some.inj e;omega))
 ·rw[hk];exact⟨h3.1,h3.2.1,h3.2.2.1,h3.2.2.2.1,h3.2.2.2.2.put G⟩
theorem PT.key {L:List Bo} {a b:Value} {xs ys:List Int} {w:World} {base g q cap:Nat} {h:Hd} (d:PT L a b xs ys w base g q cap h) (j:Nat) (hj:j<4) (x:Int):
  w.frozen? ⟨q,j,none⟩=false/\w.cell? ⟨q,j,none⟩=some (.int .i64 (h.ks.getD j 0))/\PT L a b xs ys (w.setCell ⟨q,j,none⟩ (.int .i64 x)) base g q cap ⟨h.ks.set j x,h.kd,h.ho,h.tu⟩/\Below base w (w.setCell ⟨q,j,none⟩ (.int .i64 x)):=by
 obtain⟨h1,h2,h3⟩:=d;obtain⟨f, -,o⟩:=h2.put h3.2.2.2.1.symm j hj x;have G:=ai w q j (.int .i64 x);obtain⟨-, -, -,hc⟩:=aL h2.reads;obtain⟨b,off,e,hcell⟩:=hc j hj;simp only[Option.some.injEq,Addr.mk.injEq]at e;obtain⟨rfl,rfl, -⟩:=e;rw[Nat.zero_add]at hcell;refine⟨f,hcell,⟨h1.kept G ?_,o,?_⟩,(Below.refl base w).setCell h3.2.2.1 _⟩
 ·intro e;have:=Option.some.inj e;omega
 ·exact⟨h3.1,h3.2.1,h3.2.2.1,by simpa using h3.2.2.2.1,h3.2.2.2.2.kept G (.inr rfl)⟩
theorem PT.below {L:List Bo} {a b:Value} {xs ys:List Int} {w w':World} {base g q cap:Nat} {h:Hd} (d:PT L a b xs ys w base g q cap h) (b':iO w w'):PT L a b xs ys w' base g q cap h:=
 ⟨d.1.below b',d.2.1.below b',d.2.2.1,d.2.2.2.1,d.2.2.2.2.1,d.2.2.2.2.2.1,d.2.2.2.2.2.2.below b'⟩
theorem PT.lt {L:List Bo} {a b:Value} {xs ys:List Int} {w:World} {base g q cap:Nat} {h:Hd} (d:PT L a b xs ys w base g q cap h):base<=w.heap.size:=by
 have:=d.1.lt;have:=d.2.2.2.1;omega
theorem PS.below {L:List Bo} {a b:Value} {xs ys:List Int} {w w':World} {base g:Nat} {h:Hd} (d:PS L a b xs ys w base g h) (b':iO w w'):PS L a b xs ys w' base g h:=by
 obtain⟨q,cap,d⟩:=d;exact⟨q,cap,d.below b'⟩
theorem PS.lt {L:List Bo} {a b:Value} {xs ys:List Int} {w:World} {base g:Nat} {h:Hd} (d:PS L a b xs ys w base g h):base<=w.heap.size:=by
 obtain⟨q,cap,d⟩:=d;exact d.lt
theorem PS.boxes {L:List Bo} {a b:Value} {xs ys:List Int} {w w':World} {base g:Nat} {h:Hd} (d:PS [] a b xs ys w base g h) (b':iO w w') (hL:∀x∈L,StB w' x.b x.t x.cs/\w.heap.size<=x.b):PS L a b xs ys w' base g h:=by
 obtain⟨q,cap,d⟩:=d;have hg:=d.1.lt;have hq:=(d.2.1.lt q rfl).2;have e:=d.below b';exact⟨q,cap,e.1,e.2.1,e.2.2.1,e.2.2.2.1,e.2.2.2.2.1,e.2.2.2.2.2.1,e.2.2.2.2.2.2.1,e.2.2.2.2.2.2.2.1,fun x hx=>⟨(hL x hx).1,by have:=(hL x hx).2;omega,by have:=(hL x hx).2;omega⟩⟩
theorem PS.box {L:List Bo} {a b:Value} {xs ys:List Int} {w:World} {base g:Nat} {h:Hd} (d:PS L a b xs ys w base g h) (x:Bo) (hx:x∈L):StB w x.b x.t x.cs:=by
 obtain⟨q,cap,d⟩:=d;exact(d.2.2.2.2.2.2.2.2 x hx).1
theorem jk {L:List Bo} {a b:Value} {xs ys:List Int} (base g:Nat) (h:Hd) (w:World) (d:PS L a b xs ys w base g h) (h0:0<=h.tu) (h1:h.tu<=1000000000):
  Calls Tryz.prog 171 #[.pointer (some ⟨g,2,none⟩)] w fun e w'=>e=.returned (.tuple #[])/\PS L a b xs ys w' base g h.turn/\Below base w w':=by
 obtain⟨q,cap,d⟩:=d;have k3:w.cell? ⟨g,5,none⟩=some (.int .i64 h.tu):=d.1.cell 5 rfl;have f3:=d.1.frozen 5;have P1:=d.put 5 (h.tu+1) ⟨h.ks,h.kd,h.ho,h.tu+1⟩ rfl rfl;have hwr:IntKind.i64.wrap (h.tu+1)=h.tu+1:=by rw[IntKind.wrap_i64];omega
 by_cases hb:1000000000<h.tu+1
 ·have P2:=P1.1.put 5 0 ⟨h.ks,h.kd,h.ho,0⟩ rfl rfl
  have HP:Hid (PS L a b xs ys ((w.setCell ⟨g,5,none⟩ (.int .i64 (h.tu+1))).setCell ⟨g,5,none⟩ (.int .i64 0)) base g h.turn/\Below base w ((w.setCell ⟨g,5,none⟩ (.int .i64 (h.tu+1))).setCell ⟨g,5,none⟩ (.int .i64 0))):=by
   refine⟨⟨q,cap,?_⟩,P1.2.trans P2.2⟩;have e:h.turn=⟨h.ks,h.kd,h.ho,0⟩:=by simp[Hd.turn,cM,hb]
   rw[e];exact P2.1
  have k4:(w.setCell ⟨g,5,none⟩ (.int .i64 (h.tu+1))).cell? ⟨g,5,none⟩=some (.int .i64 (h.tu+1)):=P1.1.1.cell 5 rfl;clear P1 P2 d;go_enter Tryz.func171,Tryz.ntmps171;go_wp2
  go_end0
  exact⟨rfl,HP.out⟩
 ·have HP:Hid (PS L a b xs ys (w.setCell ⟨g,5,none⟩ (.int .i64 (h.tu+1))) base g h.turn/\Below base w (w.setCell ⟨g,5,none⟩ (.int .i64 (h.tu+1)))):=by
   refine⟨⟨q,cap,?_⟩,P1.2⟩;have e:h.turn=⟨h.ks,h.kd,h.ho,h.tu+1⟩:=by simp[Hd.turn,cM,hb]
   rw[e];exact P1.1
  clear P1 d;go_enter Tryz.func171,Tryz.ntmps171;go_wp2
  go_end0
  exact⟨rfl,HP.out⟩
theorem jl {L:List Bo} {a b:Value} {xs ys:List Int} (base g:Nat) (h:Hd) (w:World) (d:PS L a b xs ys w base g h):
  Calls Tryz.prog 172 #[.pointer (some ⟨g,2,none⟩)] w fun e w'=>e=.returned (.tuple #[])/\PS L a b xs ys w' base g h.free/\Below base w w':=by
 obtain⟨q,cap,d⟩:=d;have k1:w.cell? ⟨g,3,none⟩=some (.int .i64 h.kd):=d.1.cell 3 rfl;have f1:=d.1.frozen 3;have k2:w.cell? ⟨g,4,none⟩=some (.int .i64 h.ho):=d.1.cell 4 rfl;have f2:=d.1.frozen 4;have P1:=d.put 3 0 ⟨h.ks,0,h.ho,h.tu⟩ rfl rfl;have P2:=P1.1.put 4 (-1) h.free rfl rfl;have HP:Hid (PS L a b xs ys ((w.setCell ⟨g,3,none⟩ (.int .i64 0)).setCell ⟨g,4,none⟩ (.int .i64 (-1))) base g h.free/\Below base w ((w.setCell ⟨g,3,none⟩ (.int .i64 0)).setCell ⟨g,4,none⟩ (.int .i64 (-1)))):=⟨⟨q,cap,P2.1⟩,P1.2.trans P2.2⟩
 clear P1 P2 d;go_enter Tryz.func172,Tryz.ntmps172;go_wp2
 go_end0
 exact⟨rfl,HP.out⟩
theorem mT {L:List Bo} {a b:Value} {xs ys:List Int} (base g:Nat) (h:Hd) (i k:Int) (w:World) (d:PS L a b xs ys w base g h):
  Calls Tryz.prog 173 #[.pointer (some ⟨g,2,none⟩),.int .i64 i,.int .i64 k] w fun e w'=>e=.returned (.tuple #[])/\PS L a b xs ys w' base g (h.take i k)/\Below base w w':=by
 obtain⟨q,cap,d⟩:=d;have k1:w.cell? ⟨g,3,none⟩=some (.int .i64 h.kd):=d.1.cell 3 rfl;have f1:=d.1.frozen 3;have k2:w.cell? ⟨g,4,none⟩=some (.int .i64 h.ho):=d.1.cell 4 rfl;have f2:=d.1.frozen 4;have P1:=d.put 3 k ⟨h.ks,k,h.ho,h.tu⟩ rfl rfl;have P2:=P1.1.put 4 i ⟨h.ks,k,i,h.tu⟩ rfl rfl;obtain⟨w2,hw2⟩:=Fe ((w.setCell ⟨g,3,none⟩ (.int .i64 k)).setCell ⟨g,4,none⟩ (.int .i64 i))
 rw[<-hw2]at P2;have k3:w2.cell? ⟨g,4,none⟩=some (.int .i64 i):=P2.1.1.cell 4 rfl;have f3:=P2.1.1.frozen 4;have P3:=P2.1.put 4 (-1) ⟨h.ks,k, -1,h.tu⟩ rfl rfl;have c1:=iA k w2;cases ha:bY k with
 |true=>
  have e:h.take i k=⟨h.ks,k, -1,h.tu⟩:=by simp[Hd.take,ha]
  rw[e];rw[ha]at c1;have HP:Hid (PS L a b xs ys (w2.setCell ⟨g,4,none⟩ (.int .i64 (-1))) base g ⟨h.ks,k, -1,h.tu⟩/\Below base w (w2.setCell ⟨g,4,none⟩ (.int .i64 (-1)))):=⟨⟨q,cap,P3.1⟩,(P1.2.trans P2.2).trans P3.2⟩
  clear P1 P2 P3 d e ha;go_enter Tryz.func173,Tryz.ntmps173;go_wp2_with fail
  rw[<-hw2];clear hw2 k1 f1 k2 f2;refine c1.mono ?_;rintro e w' ⟨rfl,hw'⟩;subst w';go_wp2
  go_end0
  exact⟨rfl,HP.out⟩
 |false=>
  have e:h.take i k=⟨h.ks,k,i,h.tu⟩:=by simp[Hd.take,ha]
  rw[e];rw[ha]at c1;have HP:Hid (PS L a b xs ys w2 base g ⟨h.ks,k,i,h.tu⟩/\Below base w w2):=⟨⟨q,cap,P2.1⟩,P1.2.trans P2.2⟩
  clear P1 P2 P3 d e ha;go_enter Tryz.func173,Tryz.ntmps173;go_wp2_with fail
  rw[<-hw2];clear hw2 k1 f1 k2 f2;refine c1.mono ?_;rintro e w' ⟨rfl,hw'⟩;subst w';go_wp2
  go_end0
  exact⟨rfl,HP.out⟩
theorem np {L:List Bo} {a b:Value} {xs ys:List Int} (base g:Nat) (h:Hd) (i key:Int) (w:World) (d:PS L a b xs ys w base g h) (t0:0<=h.tu) (t1:h.tu<=1000000000) (i0:0<=i) (i1:i<4):
  Calls Tryz.prog 131 #[.pointer (some ⟨g,2,none⟩),.int .i64 i,.int .i64 key] w fun e w'=>e=.returned (.tuple #[])/\PS L a b xs ys w' base g (h.regd i key)/\Below base w w':=by
 obtain⟨q,cap,d⟩:=d;have k0:w.cell? ⟨g,2,none⟩=some (.slice (some ⟨q,0,none⟩) 4 cap):=d.1.cell 2 rfl;obtain⟨fk,ck,PK,BK⟩:=d.key i.toNat Ff key;have c1:=jk (L:=L) (a:=a) (b:=b) (xs:=xs) (ys:=ys) base g (h.key i key) _ ⟨q,cap,PK⟩ t0 t1;have HE:Hid (h.regd i key=if key=0/\(h.ho=i∨eE (h.ks.set i.toNat key)=false)then((h.key i key).turn).free else(h.key i key).turn):=rfl;obtain⟨h1,e1⟩:=Fe ((h.key i key).turn)
 rw[<-e1]at c1 HE;have eho:h1.ho=h.ho:=by rw[e1];rfl
 have eks:h1.ks=h.ks.set i.toNat key:=by rw[e1];rfl
 rw[<-eho,<-eks]at HE;have HB:Hid (Below base w (w.setCell ⟨q,i.toNat,none⟩ (.int .i64 key))):=BK;clear PK BK d e1 eho eks t0 t1;obtain⟨r,hr⟩:=Fe (h.regd i key)
 rw[<-hr]at HE⊢;clear hr;go_enter Tryz.func131,Tryz.ntmps131;go_wp2_with fail
 refine c1.mono ?_;rintro e w1 ⟨rfl,P1,B1⟩;replace HB:Hid (Below base w w1):=HB.out.trans B1;clear c1 B1 k0 fk ck;have cf:=jl (L:=L) (a:=a) (b:=b) (xs:=xs) (ys:=ys) base g h1;have HP:Hid (PS L a b xs ys w1 base g h1):=P1;obtain⟨q1,cap1,d1⟩:=P1;have k0:w1.cell? ⟨g,2,none⟩=some (.slice (some ⟨q1,0,none⟩) 4 cap1):=d1.1.cell 2 rfl;have k1:w1.cell? ⟨g,3,none⟩=some (.int .i64 h1.kd):=d1.1.cell 3 rfl;have k2:w1.cell? ⟨g,4,none⟩=some (.int .i64 h1.ho):=d1.1.cell 4 rfl;have k3:w1.cell? ⟨g,5,none⟩=some (.int .i64 h1.tu):=d1.1.cell 5 rfl;have ca:=qI _ h1 w1 d1.2.1.reads (by have:=d1.2.2.2.2.2;omega);unfold HV hdA at ca;clear d1;by_cases hk:key=0
 ·by_cases hh:h1.ho=i
  ·have HR:Hid (r=h1.free):=by rw[Hid,HE.out,if_pos ⟨hk,.inl hh⟩]
   clear ca HE;subst hk;go_wp2_with fail
   refine(cf _ HP.out).mono ?_;rintro e w2 ⟨rfl,P2,B2⟩;go_wp2
   go_end0
   exact⟨rfl,by rw[HR.out];exact P2,HB.out.trans B2⟩
  ·cases hn:eE h1.ks with
   |false=>
    have HR:Hid (r=h1.free):=by rw[Hid,HE.out,if_pos ⟨hk,.inr hn⟩]
    rw[hn]at ca;clear HE hn;subst hk;go_wp2_with fail
    refine ca.mono ?_;rintro e w2 ⟨rfl,b2⟩;replace HB:Hid (Below base w w2):=HB.out.trans (b2.mono HP.out.lt);replace HP:Hid (PS L a b xs ys w2 base g h1):=HP.out.below b2;clear b2 k0 k1 k2 k3;go_wp2_with fail
    refine(cf _ HP.out).mono ?_;rintro e w3 ⟨rfl,P3,B3⟩;go_wp2
    go_end0
    exact⟨rfl,by rw[HR.out];exact P3,HB.out.trans B3⟩
   |true=>
    have HR:Hid (r=h1):=by rw[Hid,HE.out,if_neg (by simp[hh,hn])]
    rw[hn]at ca;clear HE hn cf;subst hk;go_wp2_with fail
    refine ca.mono ?_;rintro e w2 ⟨rfl,b2⟩;have HQ:Hid (PS L a b xs ys w2 base g h1/\Below base w w2):=⟨HP.out.below b2,HB.out.trans (b2.mono HP.out.lt)⟩
    clear b2 k0 k1 k2 k3 HP HB;go_wp2
    go_end0
    exact⟨rfl,by rw[HR.out];exact HQ.out.1,HQ.out.2⟩
 ·have HR:Hid (r=h1):=by rw[Hid,HE.out,if_neg (fun c=>hk c.1)]
  have HQ:Hid (PS L a b xs ys w1 base g h1/\Below base w w1):=⟨HP.out,HB.out⟩
  clear ca HE cf HP HB;go_wp2
  go_end0
  exact⟨rfl,by rw[HR.out];exact HQ.out.1,HQ.out.2⟩
theorem oW {L:List Bo} {a b:Value} {xs ys:List Int} (base g:Nat) (h:Hd) (i k:Int) (w:World) (d:PS L a b xs ys w base g h) (i0:0<=i) (i1:i<4):
  Calls Tryz.prog 132 #[.pointer (some ⟨g,2,none⟩),.int .i64 i,.int .i64 k] w fun e w'=>e=.returned (.bool (h.resd i k).2)/\PS L a b xs ys w' base g (h.resd i k).1/\Below base w w':=by
 have HP:Hid (PS L a b xs ys w base g h):=d;obtain⟨q1,cap1,d1⟩:=d;have k0:w.cell? ⟨g,2,none⟩=some (.slice (some ⟨q1,0,none⟩) 4 cap1):=d1.1.cell 2 rfl;have k1:w.cell? ⟨g,3,none⟩=some (.int .i64 h.kd):=d1.1.cell 3 rfl;have k2:w.cell? ⟨g,4,none⟩=some (.int .i64 h.ho):=d1.1.cell 4 rfl;have k3:w.cell? ⟨g,5,none⟩=some (.int .i64 h.tu):=d1.1.cell 5 rfl;have cr:=gq _ h i w d1.2.1.reads i0 (by have:=d1.2.2.2.2.2;omega);obtain⟨r,HE⟩:∃r,Hid (r=h.resd i k):=⟨_,rfl⟩
 rw[<-HE.out];unfold HV hdA at cr;clear d1;cases hg:dT h.ks i with
 |false=>
  have HR:Hid (r=(h,false)):=by rw[Hid,HE.out,Hd.resd,if_pos hg]
  rw[hg]at cr;clear HE hg;go_enter Tryz.func132,Tryz.ntmps132;go_wp2_with fail
  refine cr.mono ?_;rintro e w2 ⟨rfl,b2⟩;have HQ:Hid (PS L a b xs ys w2 base g h/\Below base w w2):=⟨HP.out.below b2,b2.mono HP.out.lt⟩
  clear b2 HP k0 k1 k2 k3 cr;go_wp2;go_ret;exact⟨by rw[HR.out];rfl,by rw[HR.out];exact HQ.out.1,HQ.out.2⟩
 |true=>
  have H1:Hid (r=if h.kd=0 then(h.take i k,true)else(h,decide (h.kd=k)&&(bY k||decide (h.ho=i)))):=by rw[Hid,HE.out,Hd.resd,if_neg (by rw[hg];decide)]
  rw[hg]at cr;have ct:=mT (L:=L) (a:=a) (b:=b) (xs:=xs) (ys:=ys) base g h i k;have cf:=fun wx=>iA k wx
  obtain⟨bf,hbf⟩:=Fe (bY k)
  rw[<-hbf]at H1;simp only[<-hbf]at cf;clear HE hg hbf;go_enter Tryz.func132,Tryz.ntmps132;go_wp2_with fail
  refine cr.mono ?_;rintro e w2 ⟨rfl,b2⟩;have HB:Hid (Below base w w2):=b2.mono HP.out.lt;replace HP:Hid (PS L a b xs ys w2 base g h):=HP.out.below b2;clear b2 k0 k1 k2 k3 cr;obtain⟨q2,cap2,d2⟩:=HP.out;have k0:w2.cell? ⟨g,2,none⟩=some (.slice (some ⟨q2,0,none⟩) 4 cap2):=d2.1.cell 2 rfl;have k1:w2.cell? ⟨g,3,none⟩=some (.int .i64 h.kd):=d2.1.cell 3 rfl;have k2:w2.cell? ⟨g,4,none⟩=some (.int .i64 h.ho):=d2.1.cell 4 rfl;have k3:w2.cell? ⟨g,5,none⟩=some (.int .i64 h.tu):=d2.1.cell 5 rfl;clear d2;by_cases hk:h.kd=0
  ·have HR:Hid (r=(h.take i k,true)):=by rw[Hid,H1.out,if_pos hk]
   clear H1 cf;rw[hk]at k1;go_wp2_with fail
   refine(ct _ HP.out).mono ?_;rintro e w3 ⟨rfl,P3,B3⟩;have HQ:Hid (PS L a b xs ys w3 base g (h.take i k)/\Below base w w3):=⟨P3,HB.out.trans B3⟩
   clear P3 B3 HP HB k0 k1 k2 k3 ct hk;go_wp2;go_ret;exact⟨by rw[HR.out];rfl,by rw[HR.out];exact HQ.out.1,HQ.out.2⟩
  ·have HR:Hid (r=(h,decide (h.kd=k)&&(bf||decide (h.ho=i)))):=by rw[Hid,H1.out,if_neg hk]
   have HQ:Hid (PS L a b xs ys w2 base g h/\Below base w w2):=⟨HP.out,HB.out⟩
   clear H1 ct HP HB;by_cases hkk:h.kd=k
   ·have hkb:(h.kd==k)=true:=by simp[hkk]
    cases bf with
    |true=>
     have HS:Hid (r=(h,true)):=by rw[Hid,HR.out];simp[hkk]
     clear HR;go_wp2_with fail
     refine(cf _).mono ?_;rintro e w' ⟨rfl,hw'⟩;subst w';go_wp2;go_ret;exact⟨by rw[HS.out];rfl,by rw[HS.out];exact HQ.out.1,HQ.out.2⟩
    |false=>
     have HS:Hid (r=(h,decide (h.ho=i))):=by rw[Hid,HR.out];simp[hkk]
     clear HR;go_wp2_with fail
     refine(cf _).mono ?_;rintro e w' ⟨rfl,hw'⟩;subst w';go_wp2;go_ret;exact⟨af (by rw[HS.out];by_cases hh:h.ho=i<;>simp[hh]),by rw[HS.out];exact HQ.out.1,HQ.out.2⟩
   ·have HS:Hid (r=(h,false)):=by rw[Hid,HR.out];simp[hkk]
    clear HR cf;go_wp2;go_ret;exact⟨af (by rw[HS.out]),by rw[HS.out];exact HQ.out.1,HQ.out.2⟩
theorem oX {L:List Bo} {a b:Value} {xs ys:List Int} (base g:Nat) (h:Hd) (i:Int) (w:World) (d:PS L a b xs ys w base g h) (i0:0<=i) (i1:i<4):
  Calls Tryz.prog 133 #[.pointer (some ⟨g,2,none⟩),.int .i64 i] w fun e w'=>e=.returned (.bool (h.reld i).2)/\PS L a b xs ys w' base g (h.reld i).1/\Below base w w':=by
 have HP:Hid (PS L a b xs ys w base g h):=d;obtain⟨q1,cap1,d1⟩:=d;have k0:w.cell? ⟨g,2,none⟩=some (.slice (some ⟨q1,0,none⟩) 4 cap1):=d1.1.cell 2 rfl;have k1:w.cell? ⟨g,3,none⟩=some (.int .i64 h.kd):=d1.1.cell 3 rfl;have k2:w.cell? ⟨g,4,none⟩=some (.int .i64 h.ho):=d1.1.cell 4 rfl;have k3:w.cell? ⟨g,5,none⟩=some (.int .i64 h.tu):=d1.1.cell 5 rfl;have cr:=gq _ h i w d1.2.1.reads i0 (by have:=d1.2.2.2.2.2;omega);obtain⟨r,HE⟩:∃r,Hid (r=h.reld i):=⟨_,rfl⟩
 rw[<-HE.out];unfold HV hdA at cr;clear d1;cases hg:dT h.ks i with
 |false=>
  have HR:Hid (r=(h,false)):=by rw[Hid,HE.out,Hd.reld,if_pos hg]
  rw[hg]at cr;clear HE hg;go_enter Tryz.func133,Tryz.ntmps133;go_wp2_with fail
  refine cr.mono ?_;rintro e w2 ⟨rfl,b2⟩;have HQ:Hid (PS L a b xs ys w2 base g h/\Below base w w2):=⟨HP.out.below b2,b2.mono HP.out.lt⟩
  clear b2 HP k0 k1 k2 k3 cr;go_wp2;go_ret;exact⟨by rw[HR.out];rfl,by rw[HR.out];exact HQ.out.1,HQ.out.2⟩
 |true=>
  have H1:Hid (r=if h.holds i then(h.free,true)else(h,true)):=by rw[Hid,HE.out,Hd.reld,if_neg (by rw[hg];decide)]
  rw[hg]at cr;have ct:=jl (L:=L) (a:=a) (b:=b) (xs:=xs) (ys:=ys) base g h;clear HE hg;go_enter Tryz.func133,Tryz.ntmps133;go_wp2_with fail
  refine cr.mono ?_;rintro e w2 ⟨rfl,b2⟩;have HB:Hid (Below base w w2):=b2.mono HP.out.lt;replace HP:Hid (PS L a b xs ys w2 base g h):=HP.out.below b2;clear b2 k0 k1 k2 k3 cr;obtain⟨q2,cap2,d2⟩:=HP.out;have k0:w2.cell? ⟨g,2,none⟩=some (.slice (some ⟨q2,0,none⟩) 4 cap2):=d2.1.cell 2 rfl;have k1:w2.cell? ⟨g,3,none⟩=some (.int .i64 h.kd):=d2.1.cell 3 rfl;have k2:w2.cell? ⟨g,4,none⟩=some (.int .i64 h.ho):=d2.1.cell 4 rfl;have k3:w2.cell? ⟨g,5,none⟩=some (.int .i64 h.tu):=d2.1.cell 5 rfl;have ch:=mV _ h i w2 d2.2.1.reads i0 (by have:=d2.2.2.2.2.2;omega);unfold HV hdA at ch;clear d2;cases hh:h.holds i with
  |true=>
   have HR:Hid (r=(h.free,true)):=by rw[Hid,H1.out,if_pos hh]
   rw[hh]at ch;clear H1 hh;go_wp2_with fail
   refine ch.mono ?_;rintro e w3 ⟨rfl,b3⟩;replace HB:Hid (Below base w w3):=HB.out.trans (b3.mono HP.out.lt);replace HP:Hid (PS L a b xs ys w3 base g h):=HP.out.below b3;clear b3 k0 k1 k2 k3 ch;go_wp2_with fail
   refine(ct _ HP.out).mono ?_;rintro e w4 ⟨rfl,P4,B4⟩;have HQ:Hid (PS L a b xs ys w4 base g h.free/\Below base w w4):=⟨P4,HB.out.trans B4⟩
   clear P4 B4 HP HB ct;go_wp2;go_ret;exact⟨by rw[HR.out];rfl,by rw[HR.out];exact HQ.out.1,HQ.out.2⟩
  |false=>
   have HR:Hid (r=(h,true)):=by rw[Hid,H1.out,if_neg (by rw[hh];decide)]
   rw[hh]at ch;clear H1 hh ct;go_wp2_with fail
   refine ch.mono ?_;rintro e w3 ⟨rfl,b3⟩;have HQ:Hid (PS L a b xs ys w3 base g h/\Below base w w3):=⟨HP.out.below b3,HB.out.trans (b3.mono HP.out.lt)⟩
   clear b3 k0 k1 k2 k3 ch HP HB;go_wp2;go_ret;exact⟨by rw[HR.out];rfl,by rw[HR.out];exact HQ.out.1,HQ.out.2⟩
theorem sv {L:List Bo} {a b:Value} {xs ys:List Int} (base g:Nat) (h:Hd) (i:Int) (w:World) (d:PS L a b xs ys w base g h) (i0:0<=i) (i1:i<4) (t0:0<=h.tu) (t1:h.tu<=1000000000):
  Calls Tryz.prog 134 #[.pointer (some ⟨g,2,none⟩),.int .i64 i] w fun e w'=>e=.returned (.bool (h.clrd i).2)/\PS L a b xs ys w' base g (h.clrd i).1/\Below base w w':=by
 have HP:Hid (PS L a b xs ys w base g h):=d;obtain⟨q1,cap1,d1⟩:=d;have k0:w.cell? ⟨g,2,none⟩=some (.slice (some ⟨q1,0,none⟩) 4 cap1):=d1.1.cell 2 rfl;have k1:w.cell? ⟨g,3,none⟩=some (.int .i64 h.kd):=d1.1.cell 3 rfl;have k2:w.cell? ⟨g,4,none⟩=some (.int .i64 h.ho):=d1.1.cell 4 rfl;have k3:w.cell? ⟨g,5,none⟩=some (.int .i64 h.tu):=d1.1.cell 5 rfl;have cr:=gq _ h i w d1.2.1.reads i0 (by have:=d1.2.2.2.2.2;omega);obtain⟨r,HE⟩:∃r,Hid (r=h.clrd i):=⟨_,rfl⟩
 rw[<-HE.out];unfold HV hdA at cr;clear d1;cases hg:dT h.ks i with
 |false=>
  have HR:Hid (r=(h,false)):=by rw[Hid,HE.out,Hd.clrd,if_pos hg]
  rw[hg]at cr;clear HE hg;go_enter Tryz.func134,Tryz.ntmps134;go_wp2_with fail
  refine cr.mono ?_;rintro e w2 ⟨rfl,b2⟩;have HQ:Hid (PS L a b xs ys w2 base g h/\Below base w w2):=⟨HP.out.below b2,b2.mono HP.out.lt⟩
  clear b2 HP k0 k1 k2 k3 cr;go_wp2;go_ret;exact⟨by rw[HR.out];rfl,by rw[HR.out];exact HQ.out.1,HQ.out.2⟩
 |true=>
  have HR:Hid (r=((Hd.free ⟨[0,0,0,0],h.kd,h.ho,h.tu⟩).turn,true)):=by rw[Hid,HE.out,Hd.clrd,if_neg (by rw[hg];decide)];rfl
  rw[hg]at cr;obtain⟨j0,hi,hz0,hz1,hz2⟩:=info_parts Gz;clear HE hg;go_enter Tryz.func134,Tryz.ntmps134;go_wp2_with fail
  refine cr.mono ?_;rintro e w2 ⟨rfl,b2⟩;have HB:Hid (Below base w w2):=b2.mono HP.out.lt;replace HP:Hid (PS L a b xs ys w2 base g h):=HP.out.below b2;clear b2 k0 k1 k2 k3 cr;obtain⟨q2,cap2,d2⟩:=HP.out;have k0:w2.cell? ⟨g,2,none⟩=some (.slice (some ⟨q2,0,none⟩) 4 cap2):=d2.1.cell 2 rfl;have k1:w2.cell? ⟨g,3,none⟩=some (.int .i64 h.kd):=d2.1.cell 3 rfl;have k2:w2.cell? ⟨g,4,none⟩=some (.int .i64 h.ho):=d2.1.cell 4 rfl;have k3:w2.cell? ⟨g,5,none⟩=some (.int .i64 h.tu):=d2.1.cell 5 rfl;have hg2:=d2.1.lt;have HD:Hid (PT L a b xs ys w2 base g q2 cap2 h):=d2;clear d2 HP;go_wp2_with (first
   |(refine wpList_make_full _ rfl _ _ 22 rfl w2.heap.size 2 j0 (.int .i64 0) 1 Tryz.underlying22 hi hz0 hz1 _ _ _ _ 4 rfl rfl rfl rfl (by rw[hz2];omega) (by unfold maxLen;omega) (Nat.le_refl _) ?_;intro w3 hown hgr;have S3:=HD.out.1.kept hgr Fg;have m0:=S3.cell 2 (x:=.slice (some ⟨q2,0,none⟩) 4 cap2) rfl;have m1:=S3.frozen 2))
  have e4:(madeCells (Value.int .i64 0).cells (4*1)).toList=([0,0,0,0]:List Int).map (Value.int .i64):=uu 4;rw[e4]at hown;have o3:Own w3 w2.heap.size (.slice (some ⟨w2.heap.size,0,none⟩) 4 4) [0,0,0,0]:=hown;have G3:=ai w3 g 2 (.slice (some ⟨w2.heap.size,0,none⟩) 4 4);have lb:=HD.out.lt;have P3:PT L a b xs ys (w3.setCell ⟨g,2,none⟩ (.slice (some ⟨w2.heap.size,0,none⟩) 4 4)) base g w2.heap.size 4 ⟨[0,0,0,0],h.kd,h.ho,h.tu⟩:=
   ⟨S3.put 2 _ rfl,(o3.kept G3 (.inr (by intro e;have:w2.heap.size=g:=Option.some.inj e;omega))).mono lb,by omega,HD.out.2.2.2.1,lb,rfl,(HD.out.2.2.2.2.2.2.make hgr hg2).put G3⟩
  have HB3:Hid (Below base w (w3.setCell ⟨g,2,none⟩ (.slice (some ⟨w2.heap.size,0,none⟩) 4 4))):=(HB.out.trans ((Below.refl base w2).grown hgr lb Fg)).setCell HD.out.2.2.2.1 _;clear S3 m0 m1 hown e4 o3 G3 HD HB k0 k1 k2 k3;refine(jl base g _ _ ⟨_,_,P3⟩).mono ?_;rintro e w4 ⟨rfl,P4,B4⟩;replace HB3:Hid (Below base w w4):=HB3.out.trans B4;clear P3 B4;go_wp2_with fail
  refine(jk base g _ _ P4 t0 t1).mono ?_;rintro e w5 ⟨rfl,P5,B5⟩;have HQ:Hid (PS L a b xs ys w5 base g _/\Below base w w5):=⟨P5,HB3.out.trans B5⟩
  clear P5 B5 HB3 P4;go_wp2;go_ret;exact⟨by rw[HR.out];rfl,by rw[HR.out];exact HQ.out.1,HQ.out.2⟩
theorem oY {L:List Bo} {a b:Value} {xs ys:List Int} (base g:Nat) (h:Hd) (i key k:Int) (w:World) (d:PS L a b xs ys w base g h) (i0:0<=i) (i1:i<4) (t0:0<=h.tu) (t1:h.tu<=1000000000) (hm:h.kd≠0->bY h.kd=false->0<=h.ho/\h.ho<=3):
  Calls Tryz.prog 135 #[.pointer (some ⟨g,2,none⟩),.int .i64 i,.int .i64 key,.int .i64 k] w fun e w'=>e=.returned (.bool (h.pred i key k).2)/\PS L a b xs ys w' base g (h.pred i key k).1/\Below base w w':=by
 obtain⟨q,cap,d⟩:=d;have HP:Hid (PT L a b xs ys w base g q cap h):=d;have k0:w.cell? ⟨g,2,none⟩=some (.slice (some ⟨q,0,none⟩) 4 cap):=d.1.cell 2 rfl;have k1:w.cell? ⟨g,3,none⟩=some (.int .i64 h.kd):=d.1.cell 3 rfl;have k2:w.cell? ⟨g,4,none⟩=some (.int .i64 h.ho):=d.1.cell 4 rfl;have k3:w.cell? ⟨g,5,none⟩=some (.int .i64 h.tu):=d.1.cell 5 rfl;have cr:=gq _ h i w d.2.1.reads i0 (by have:=d.2.2.2.2.2;omega);unfold HV hdA at cr;obtain⟨r,HE⟩:∃r,Hid (r=h.pred i key k):=⟨_,rfl⟩
 rw[<-HE.out];have HM:Hid (h.kd≠0->bY h.kd=false->0<=h.ho/\h.ho<=3):=hm;clear d hm;go_enter Tryz.func135,Tryz.ntmps135;go_wp2;go_loopw [9,10] (fun f n wr=>∃j:Nat,(j:Int)<=4/\n=.int .i64 j/\f=.bool (has h.ks key j)/\wr=w) (fun _ n _=>4-(intOf n).toNat)
 case atStart=>exact⟨0,by omega,rfl,rfl,rfl⟩
 case round=>
  obtain⟨j,hj,rfl,rfl,hw⟩:=hrel;subst wr;by_cases hlt:(j:Int)<4
  ·have kj:=(HP.out.key j Ff 0).2.1
   have HH:Hid (has h.ks key (j+1)=(has h.ks key j||decide (h.ks.getD j 0=key))):=rfl;obtain⟨y,hy⟩:=Fe (h.ks.getD j 0)
   obtain⟨b,hb⟩:=Fe (has h.ks key j)
   rw[<-hy]at kj HH;rw[<-hb]at HH⊢;clear hy hb;cases b with
   |true=>
    go_wp2;go_roundw
    case rel=>exact⟨j+1,by omega,by go_num,by rw[HH.out];rfl,trivial⟩
    case measure=>simp[intOf];omega
   |false=>
    go_wp2;go_roundw
    case rel=>exact⟨j+1,by omega,by go_num,by rw[HH.out];by_cases e:y=key<;>simp[e],trivial⟩
    case measure=>simp[intOf];omega
  ·obtain rfl:j=4:=by omega
   have HE2:Hid (r=if(dT h.ks i&&has h.ks key 4)=false then(h,false)else if(h.alone key||(bY h.kd&& !ip h.ks i.toNat key 4))=true then((Hd.turn ⟨cA h.ks i.toNat key 4,h.kd,h.ho,h.tu⟩).take i k,true)else(Hd.turn ⟨cA h.ks i.toNat key 4,h.kd,h.ho,h.tu⟩,true)):=HE.out;clear HE;obtain⟨bh,hbh⟩:=Fe (has h.ks key 4)
   obtain⟨br,hbr⟩:=Fe (dT h.ks i)
   rw[<-hbh,<-hbr]at HE2;rw[<-hbh];rw[<-hbr]at cr;clear hbh hbr;go_wp2_with fail
   refine cr.mono ?_;rintro e w2 ⟨rfl,b2⟩;have HB:Hid (Below base w w2):=b2.mono HP.out.lt;replace HP:Hid (PT L a b xs ys w2 base g q cap h):=HP.out.below b2;clear b2 k0 k1 k2 k3 cr;by_cases hrb:(br&&bh)=false
   ·have HR:Hid (r=(h,false)):=by rw[Hid,HE2.out,if_pos hrb]
    have HQ:Hid (PS L a b xs ys w2 base g h/\Below base w w2):=⟨⟨q,cap,HP.out⟩,HB.out⟩
    clear HE2 HP HB HM;cases br with
    |false=>
     clear hrb;go_wp2;go_ret;exact⟨by rw[HR.out];rfl,by rw[HR.out];exact HQ.out.1,HQ.out.2⟩
    |true=>
     obtain rfl:bh=false:=by simpa using hrb
     clear hrb;go_wp2;go_ret;exact⟨by rw[HR.out];rfl,by rw[HR.out];exact HQ.out.1,HQ.out.2⟩
   ·have hrb2:br=true/\bh=true:=by simpa using hrb
    obtain⟨rfl,rfl⟩:=hrb2;have H3:Hid (r=if(h.alone key||(bY h.kd&& !ip h.ks i.toNat key 4))=true then((Hd.turn ⟨cA h.ks i.toNat key 4,h.kd,h.ho,h.tu⟩).take i k,true)else(Hd.turn ⟨cA h.ks i.toNat key 4,h.kd,h.ho,h.tu⟩,true)):=by rw[Hid,HE2.out,if_neg Fh]
    clear hrb HE2;have k0:w2.cell? ⟨g,2,none⟩=some (.slice (some ⟨q,0,none⟩) 4 cap):=HP.out.1.cell 2 rfl;have k1:w2.cell? ⟨g,3,none⟩=some (.int .i64 h.kd):=HP.out.1.cell 3 rfl;have k2:w2.cell? ⟨g,4,none⟩=some (.int .i64 h.ho):=HP.out.1.cell 4 rfl;have cf:=fun wx=>iA h.kd wx
    go_upto_region 8 with fail
    go_cut [11] (fun t wx=>t=.bool (h.alone key)/\Hid (∃n,wx=w2.drewN n))
    case first=>
     by_cases hk:h.kd=0
     ·have ea:Hid (h.alone key=false):=by simp[Hid,Hd.alone,hk]
      rw[hk]at k1;clear cf HM H3 HB
      go_quiet (fail)
      all_goals (go_wp2_with fail;go_meet;exact⟨by rw[ea.out],⟨_,rfl⟩⟩)
     ·have hkb:(h.kd !=0)=true:=by simpa using hk
      cases hf:bY h.kd with
      |true=>
       have ea:Hid (h.alone key=false):=by simp[Hid,Hd.alone,hf]
       simp only[hf]at cf;clear HM H3 HB hf
       go_quiet ((go_at_call 85;exact Calls.quiet_of_same (cf _)))
       all_goals (go_wp2_with fail;go_meet;exact⟨by rw[ea.out],⟨_,rfl⟩⟩)
      |false=>
       have hb:=HM.out hk hf;have kq:=(HP.out.key h.ho.toNat Ff 0).2.1;have ea:Hid (h.alone key=decide (h.ks.getD h.ho.toNat 0=key)):=by simp[Hid,Hd.alone,hk,hf]
       obtain⟨y,hy⟩:=Fe (h.ks.getD h.ho.toNat 0)
       rw[<-hy]at kq ea;simp only[hf]at cf;obtain⟨l1,l2⟩:=hb;clear HM H3 HB hf hy
       go_quiet ((go_at_call 85;exact Calls.quiet_of_same (cf _)))
       all_goals (go_wp2_with fail;go_meet;exact⟨by rw[ea.out];by_cases e:y=key<;>simp[e],⟨_,rfl⟩⟩)
    case rest=>
     obtain⟨rfl,HN⟩:=hcut;obtain⟨n,hn⟩:=HN.out;have H5:Hid (PT L a b xs ys wc base g q cap ⟨cA h.ks i.toNat key 0,h.kd,h.ho,h.tu⟩/\Below base w wc):=by
      rw[hn];exact⟨HP.out.below (below_drewN (Below.refl _ _) n),below_drewN HB.out n⟩
     have HI:Hid (i.toNat<4/\(i.toNat:Int)=i):=⟨by omega,by omega⟩
     have HT:Hid ((0<=h.tu/\h.tu<=1000000000)/\h.ks.length=4):=⟨⟨t0,t1⟩,HP.out.2.2.2.2.2.1⟩
     obtain⟨ba,hba⟩:=Fe (h.alone key)
     rw[<-hba]at H3⊢;clear hn HN HP HB HM hba cf k0 k1 k2 t0 t1;go_wp2_with fail
     go_loopw [12,13] (fun m n wz=>∃j:Nat,(j:Int)<=4/\n=.int .i64 j/\m=.bool (ip h.ks i.toNat key j)/\Hid (PT L a b xs ys wz base g q cap ⟨cA h.ks i.toNat key j,h.kd,h.ho,h.tu⟩/\Below base w wz)) (fun _ n _=>4-(intOf n).toNat)
     case atStart=>exact⟨0,by omega,rfl,rfl,H5⟩
     case round=>
      obtain⟨j,hj,rfl,rfl,HR⟩:=hrel;by_cases hlt:(j:Int)<4
      ·have HM1:Hid (ip h.ks i.toNat key (j+1)=(ip h.ks i.toNat key j||(decide (j≠i.toNat)&&(decide (h.ks.getD j 0≠key)&&decide (h.ks.getD j 0≠0))))):=rfl
       have HS1:Hid (cA h.ks i.toNat key (j+1)=if j≠i.toNat/\h.ks.getD j 0=key then(cA h.ks i.toNat key j).set j 0 else cA h.ks i.toNat key j):=rfl;have HA:Hid ((cA h.ks i.toNat key j).getD j 0=h.ks.getD j 0):=pU _ _ _ _ _ (Nat.le_refl _);obtain⟨s1,hs1⟩:=Fe (cA h.ks i.toNat key (j+1))
       obtain⟨m1,hm1⟩:=Fe (ip h.ks i.toNat key (j+1))
       have HQ:Hid (s1=cA h.ks i.toNat key (j+1)/\m1=ip h.ks i.toNat key (j+1)):=⟨hs1,hm1⟩
       rw[<-hs1]at HS1;rw[<-hm1]at HM1;clear hs1 hm1;obtain⟨m0,hm0⟩:=Fe (ip h.ks i.toNat key j)
       rw[<-hm0]at HM1⊢;clear hm0;by_cases hji:(j:Int)=i
       ·have e1:j=i.toNat:=by omega
        have HS2:Hid (s1=cA h.ks i.toNat key j):=by rw[Hid,HS1.out,if_neg (by simp[e1])]
        have HM2:Hid (m1=m0):=by rw[Hid,HM1.out];simp[e1]
        have hjb:((j:Int)==i)=true:=by simpa using hji
        clear HS1 HM1 HA hji e1;go_wp2;go_roundw
        case rel=>exact⟨j+1,by omega,by go_num,by rw[<-HQ.out.2,HM2.out],by rw[<-HQ.out.1,HS2.out];exact HR⟩
        case measure=>simp[intOf];omega
       ·have e1:j≠i.toNat:=by omega
        have hjb:((j:Int)==i)=false:=by simpa using hji
        obtain⟨ff,kj,PK⟩:=HR.out.1.key j Ff 0;rw[HA.out]at kj;have k0:wr.cell? ⟨g,2,none⟩=some (.slice (some ⟨q,0,none⟩) 4 cap):=HR.out.1.1.cell 2 rfl;have hgq:g≠q:=HR.out.1.2.2.1;obtain⟨y,hy⟩:=Fe (h.ks.getD j 0)
        rw[<-hy]at kj HS1 HM1;clear hy HA;by_cases hyk:y=key
        ·have HS2:Hid (s1=(cA h.ks i.toNat key j).set j 0):=by rw[Hid,HS1.out,if_pos ⟨e1,hyk⟩]
         have HM2:Hid (m1=m0):=by rw[Hid,HM1.out];simp[hyk]
         have HP2:Hid (PT L a b xs ys (wr.setCell ⟨q,j,none⟩ (.int .i64 0)) base g q cap ⟨s1,h.kd,h.ho,h.tu⟩/\Below base w (wr.setCell ⟨q,j,none⟩ (.int .i64 0))):=by
          rw[HS2.out];exact⟨PK.1,HR.out.2.trans PK.2⟩
         have l0:(wr.setCell ⟨q,j,none⟩ (.int .i64 0)).cell? ⟨g,2,none⟩=some (.slice (some ⟨q,0,none⟩) 4 cap):=PK.1.1.cell 2 rfl;have lj:(wr.setCell ⟨q,j,none⟩ (.int .i64 0)).cell? ⟨q,j,none⟩=some (.int .i64 0):=World.cell?_setCell_same _ _ _ kj;have hykb:(y==key)=true:=by simpa using hyk
         clear HS1 HM1 HS2 HR PK hyk;cases m0 with
         |true=>
          go_wp2;go_roundw
          case rel=>exact⟨j+1,by omega,by go_num,by rw[<-HQ.out.2,HM2.out],by rw[<-HQ.out.1];exact HP2⟩
          case measure=>simp[intOf];omega
         |false=>
          go_wp2;go_roundw
          case rel=>exact⟨j+1,by omega,by go_num,by rw[<-HQ.out.2,HM2.out],by rw[<-HQ.out.1];exact HP2⟩
          case measure=>simp[intOf];omega
        ·have HS2:Hid (s1=cA h.ks i.toNat key j):=by rw[Hid,HS1.out,if_neg (fun e=>hyk e.2)]
         have HM2:Hid (m1=(m0||decide (y≠0))):=by rw[Hid,HM1.out];simp[hyk,e1]
         have HP2:Hid (PT L a b xs ys wr base g q cap ⟨s1,h.kd,h.ho,h.tu⟩/\Below base w wr):=by
          rw[HS2.out];exact HR.out
         have hykb:(y==key)=false:=by simpa using hyk
         clear HS1 HM1 HS2 HR PK hyk ff;cases m0 with
         |true=>
          go_wp2;go_roundw
          case rel=>exact⟨j+1,by omega,by go_num,by rw[<-HQ.out.2,HM2.out];rfl,by rw[<-HQ.out.1];exact HP2⟩
          case measure=>simp[intOf];omega
         |false=>
          by_cases hy0:y=0
          ·have hyb:(y !=0)=false:=by simp[hy0]
           go_wp2;go_roundw
           case rel=>exact⟨j+1,by omega,by go_num,by rw[<-HQ.out.2,HM2.out];simp[hy0],by rw[<-HQ.out.1];exact HP2⟩
           case measure=>simp[intOf];omega
          ·have hyb:(y !=0)=true:=by simpa using hy0
           go_wp2;go_roundw
           case rel=>exact⟨j+1,by omega,by go_num,by rw[<-HQ.out.2,HM2.out];simp[hy0],by rw[<-HQ.out.1];exact HP2⟩
           case measure=>simp[intOf];omega
      ·obtain rfl:j=4:=by omega
       obtain⟨h4,hh4⟩:∃h4:Hd,h4=⟨cA h.ks i.toNat key 4,h.kd,h.ho,h.tu⟩:=⟨_,rfl⟩
       obtain⟨m4,hm4⟩:=Fe (ip h.ks i.toNat key 4)
       rw[<-hh4,<-hm4]at H3;rw[<-hh4]at HR;rw[<-hm4];have HK:Hid (h4.kd=h.kd):=by rw[hh4];rfl
       have t2:0<=h4.tu/\h4.tu<=1000000000:=by rw[hh4];exact HT.out.1
       have ct:=jk (L:=L) (a:=a) (b:=b) (xs:=xs) (ys:=ys) base g h4 wr ⟨q,cap,HR.out.1⟩ t2.1 t2.2;have HB2:Hid (Below base w wr):=HR.out.2;clear HR hh4 hm4 t2 H5;go_wp2_with fail
       refine ct.mono ?_;rintro e w6 ⟨rfl,P6,B6⟩;have HB6:Hid (Below base w w6):=HB2.out.trans B6;have HP6:Hid (PS L a b xs ys w6 base g h4.turn):=P6;have k1:w6.cell? ⟨g,3,none⟩=some (.int .i64 h4.kd):=by obtain⟨q6,c6,d6⟩:=P6;exact d6.1.cell 3 rfl
       have cf:=fun wx=>iA h4.kd wx
       have HA4:Hid (bY h.kd=bY h4.kd):=by rw[Hid,HK.out]
       rw[HA4.out]at H3;obtain⟨a4,ha4⟩:=Fe (bY h4.kd)
       rw[<-ha4]at H3;simp only[<-ha4]at cf;clear P6 B6 ct HB2 ha4 HA4;have take:∀wx,PS L a b xs ys wx base g h4.turn->_:=fun wx d=>mT base g h4.turn i k wx d
       cases ba with
       |true=>
        have HR:Hid (r=((h4.turn).take i k,true)):=by rw[Hid,H3.out];rfl
        clear H3 cf k1;go_wp2_with fail
        refine(take _ HP6.out).mono ?_;rintro e w7 ⟨rfl,P7,B7⟩;have HQ:Hid (PS L a b xs ys w7 base g ((h4.turn).take i k)/\Below base w w7):=⟨P7,HB6.out.trans B7⟩
        clear P7 B7 take;go_wp2;go_ret;exact⟨by rw[HR.out];rfl,by rw[HR.out];exact HQ.out.1,HQ.out.2⟩
       |false=>
        cases a4 with
        |false=>
         have HR:Hid (r=(h4.turn,true)):=by rw[Hid,H3.out];rfl
         have HQ:Hid (PS L a b xs ys w6 base g h4.turn/\Below base w w6):=⟨HP6.out,HB6.out⟩
         clear H3 take HB6 HP6;go_wp2_with (first|(go_at_call 85;refine(cf _).mono ?_;rintro e w' ⟨rfl,hw'⟩;subst w'))
         go_ret;exact⟨by rw[HR.out];rfl,by rw[HR.out];exact HQ.out.1,HQ.out.2⟩
        |true=>
         cases m4 with
         |true=>
          have HR:Hid (r=(h4.turn,true)):=by rw[Hid,H3.out];rfl
          have HQ:Hid (PS L a b xs ys w6 base g h4.turn/\Below base w w6):=⟨HP6.out,HB6.out⟩
          clear H3 take HB6 HP6;go_wp2_with (first|(go_at_call 85;refine(cf _).mono ?_;rintro e w' ⟨rfl,hw'⟩;subst w'))
          go_ret;exact⟨by rw[HR.out];rfl,by rw[HR.out];exact HQ.out.1,HQ.out.2⟩
         |false=>
          have HR:Hid (r=((h4.turn).take i k,true)):=by rw[Hid,H3.out];rfl
          clear H3;go_wp2_with fail
          refine(cf _).mono ?_;rintro e w' ⟨rfl,hw'⟩;subst w';clear cf k1;go_wp2_with fail
          refine(take _ HP6.out).mono ?_;rintro e w7 ⟨rfl,P7,B7⟩;have HQ:Hid (PS L a b xs ys w7 base g ((h4.turn).take i k)/\Below base w w7):=⟨P7,HB6.out.trans B7⟩
          clear P7 B7 take;go_wp2;go_ret;exact⟨by rw[HR.out];rfl,by rw[HR.out];exact HQ.out.1,HQ.out.2⟩
end Go.Proofs.YthldeiojlllkdaaGreatDoor
