/- What the laws on holdings draw: l8Draw, l8DrawAny, l8DrawWho and the Draws of stage 8. -/
import Derived.Test.YtfngkbogcjodaaaGreatDoorM6
import Derived.Test.YtfngkbogcjodaaaGreatDoorM3
set_option maxRecDepth 20000
set_option maxHeartbeats 4000000
namespace Go.Proofs.YtfngkbogcjodaaaGreatDoor
open Go.ChangeShapes Go.WideShapes Go.ChangeAt Go.RowKit
def zeroH:Array Value:=#[.slice none 0 0,.int .i64 0,.int .i64 0,.int .i64 0]
def DH (w wx:World) (B c g k q n cap:Nat) (h:Hd):Prop:=
 Cur wx B c∧w.grownBy wx (some c)∧StB wx g 28 zeroH∧StB wx k 28 (hdA (.slice (some ⟨q,0,none⟩) n cap) h)∧Own wx w.heap.size (.slice (some ⟨q,0,none⟩) n cap) h.ks∧
 (w.heap.size≤g∧w.heap.size≤k∧w.heap.size≤q∧g≠k∧g≠q∧k≠q∧c<w.heap.size∧B≤w.heap.size∧n=h.ks.length)
theorem DH.draw {w wx wy:World} {B c g k q n cap:Nat} {h:Hd} (d:DH w wx B c g k q n cap h) (C:Cur wy B c) (G:wx.grownBy wy (some c)):DH w wy B c g k q n cap h:=by
 obtain⟨h1,h2,h3,h4,h5,h6⟩:=d
 refine⟨C,h2.trans G,h3.kept G ?_,h4.kept G ?_,h5.kept G (.inr ?_),h6⟩
 ·intro e;have:=Option.some.inj e;omega
 ·intro e;have:=Option.some.inj e;omega
 ·intro e;have:q=c:=Option.some.inj e;omega
theorem DH.drew {w wx:World} {B c g k q n cap:Nat} {h:Hd} (d:DH w wx B c g k q n cap h):DH w wx.drew B c g k q n cap h:=by
 obtain⟨h1,h2,h3,h4,h5,h6⟩:=d
 exact⟨h1,⟨h2.os,h2.tape,h2.output,h2.size,h2.block⟩,h3,h4,h5,h6⟩
theorem DH.alloc {w wx:World} {B c g k q n cap:Nat} {h:Hd} (d:DH w wx B c g k q n cap h) (o:Obj):DH w (wx.alloc o) B c g k q n cap h:=by
 obtain⟨h1,h2,h3,h4,h5,h6⟩:=d
 exact⟨h1.kept (World.grownBy_alloc wx o none) (by simp) (by simp),h2.trans (World.grownBy_alloc wx o _),h3.alloc o,h4.alloc o,h5.below ((Below.refl _ _).alloc (Nat.le_refl _) _),h6⟩
theorem DH.put {w wx:World} {B c g k q n cap:Nat} {h:Hd} (d:DH w wx B c g k q n cap h) (j:Nat) (x:Int) (f:Hd) (hk:f.ks=h.ks) (e:(hdA (.slice (some ⟨q,0,none⟩) n cap) h).setIfInBounds j (.int .i64 x)=hdA (.slice (some ⟨q,0,none⟩) n cap) f):DH w (wx.setCell ⟨k,j,none⟩ (.int .i64 x)) B c g k q n cap f:=by
 obtain⟨h1,h2,h3,h4,h5,h6⟩:=d
 have G:=grownSet wx k j (.int .i64 x)
 refine⟨h1.kept G ?_ (fun y e=>by cases e;omega),grown_ownU h2 G (fun y e=>by cases e;omega),h3.kept G ?_,h4.put j _ e,?_,?_⟩
 ·intro e;have:=Option.some.inj e;omega
 ·intro e;have:=Option.some.inj e;omega
 ·rw[hk];exact h5.kept G (.inr (by intro e;have:q=k:=Option.some.inj e;omega))
 ·rw[hk];exact h6
theorem DH.key {w wx:World} {B c g k q n cap:Nat} {h:Hd} (d:DH w wx B c g k q n cap h) (j:Nat) (hj:j<n) (x:Int):
  wx.frozen? ⟨q,j,none⟩=false∧(∃y,wx.cell? ⟨q,j,none⟩=some y)∧DH w (wx.setCell ⟨q,j,none⟩ (.int .i64 x)) B c g k q n cap ⟨h.ks.set j x,h.kd,h.ho,h.tu⟩:=by
 obtain⟨h1,h2,h3,h4,h5,h6⟩:=d
 obtain⟨f,y,o⟩:=h5.put h6.2.2.2.2.2.2.2.2 j hj x
 have G:=grownSet wx q j (.int .i64 x)
 refine⟨f,y,h1.kept G ?_ (fun y e=>by cases e;omega),grown_ownU h2 G (fun y e=>by cases e;omega),h3.kept G ?_,h4.kept G ?_,o,?_⟩
 ·intro e;have:=Option.some.inj e;omega
 ·intro e;have:=Option.some.inj e;omega
 ·intro e;have:=Option.some.inj e;omega
 ·simpa using h6
theorem DH.keyAt {w wx:World} {B c g k q n cap:Nat} {h:Hd} (d:DH w wx B c g k q n cap h) (j:Nat) (hj:j<n):wx.cell? ⟨q,j,none⟩=some (.int .i64 (h.ks.getD j 0)):=by
 obtain⟨h1,h2,h3,h4,h5,h6⟩:=d
 obtain⟨-, -, -,hc⟩:=reads_cells h5.reads
 obtain⟨b,off,e,hcell⟩:=hc j hj
 simp only[Option.some.injEq,Addr.mk.injEq]at e
 obtain⟨rfl,rfl, -⟩:=e
 simpa using hcell
theorem DH.fin {w wx wy:World} {B c g k q n cap:Nat} {h:Hd} (d:DH w wx B c g k q n cap h) (G:wx.grownBy wy (some g)):Own wy w.heap.size (.slice (some ⟨q,0,none⟩) n cap) h.ks∧Cur wy B c∧w.grownBy wy (some c):=by
 obtain⟨h1,h2,h3,h4,h5,h6⟩:=d
 refine⟨h5.kept G (.inr ?_),h1.kept G ?_ (fun x e=>by cases e;omega),grown_ownU h2 G (fun x e=>by cases e;omega)⟩
 ·intro e;have:q=g:=Option.some.inj e;omega
 ·intro e;have:=Option.some.inj e;omega
theorem l8draw_any (B c:Nat) (w:World) (hcur:Cur w B c):
  Calls Tryz.prog 46 #[.pointer (some ⟨c,0,none⟩)] w fun e w'=>∃(h:Hd) (q cap:Nat),e=.returned (HV (.slice (some ⟨q,0,none⟩) 4 cap) h)∧h.ks.length=4∧w.heap.size≤q∧Own w' w.heap.size (.slice (some ⟨q,0,none⟩) 4 cap) h.ks∧Cur w' B c∧w.grownBy w' (some c):=by
 have hlt:=hcur.lt
 have C0:Cur (w.alloc (.cells zeroH 28)) B c:=hcur.kept (World.grownBy_alloc w _ none) (by simp) (by simp)
 have S0:StB (w.alloc (.cells zeroH 28)) w.heap.size 28 zeroH:=StB.new w _ _
 have HC0:Hid (Cur (w.alloc (.cells zeroH 28)) B c∧StB (w.alloc (.cells zeroH 28)) w.heap.size 28 zeroH):=⟨C0,S0⟩
 clear hcur C0 S0
 go_enter Tryz.func46,Tryz.ntmps46
 go_wp2_with fail
 refine(snewH_any _).mono ?_
 rintro e w1 ⟨u,rfl,o1,b1⟩
 obtain⟨q,cap,rfl,hq0,hq1⟩:=World.ownsRow.form o1 (by simp[Hd.new])
 have hq2:w.heap.size<q:=by simp at hq0;omega
 have HD:Hid (DH w (w1.alloc (.cells (hdA (.slice (some ⟨q,0,none⟩) 4 cap) Hd.new) 28)) B c w.heap.size w1.heap.size q 4 cap Hd.new):=by
  have b2:Below w1.heap.size w1 (w1.alloc (.cells (hdA (.slice (some ⟨q,0,none⟩) 4 cap) Hd.new) 28)):=(Below.refl _ _).alloc (Nat.le_refl _) _
  have bs:=b1.size
  simp at bs
  refine⟨(HC0.out.1.below b1).below b2,?_,(HC0.out.2.below b1).below b2,StB.new w1 _ _,(Own.below o1 b2).mono (by simp),by omega,by omega,by omega,by omega,by omega,by omega,by omega,by omega,rfl⟩
  exact(World.grownBy_alloc w _ _).trans ⟨(b1.trans (b2.mono b1.size)).os,(b1.trans (b2.mono b1.size)).tape,(b1.trans (b2.mono b1.size)).output,(b1.trans (b2.mono b1.size)).size,fun x hx _=>(b1.trans (b2.mono b1.size)).block x hx⟩
 clear o1 b1 HC0
 unfold HV hdA Hd.new
 dsimp only
 have hs1:w.heap.size<w1.heap.size:=by omega
 have hne1:w.heap.size≠w1.heap.size:=by omega
 have hne2:w1.heap.size≠q:=by omega
 have hne3:w.heap.size≠q:=by omega
 clear hq0
 go_wp2
 go_loopw [4] (fun i wr=>∃(j:Nat) (ks:List Int),(j:Int)≤4∧i=.int .i64 j∧Hid (ks.length=4)∧Hid (DH w wr B c w.heap.size w1.heap.size q 4 cap ⟨ks,0, -1,0⟩)) (fun i _=>4-(intOf i).toNat)
 case atStart=>exact⟨0,[0,0,0,0],by omega,rfl,rfl,HD⟩
 case round=>
  obtain⟨j,ks,hj,rfl,HL,HR⟩:=hrel
  clear HD
  by_cases hlt4:(j:Int)<4
  ·have k0:wr.cell? ⟨w1.heap.size,0,none⟩=some (.slice (some ⟨q,0,none⟩) 4 cap):=HR.out.2.2.2.1.cell 0 rfl
   go_wp2_with fail
   go_region_held3 (fun w'=>w'.cell? ⟨w1.heap.size,0,none⟩=some (.slice (some ⟨q,0,none⟩) 4 cap)) (go_keep)
    (first|(go_at_call 49;refine(below_any B c 3 _ HR.out.drew.1 (by omega)).mono ?_;rintro e wA ⟨x,rfl,lx,ux, -,CA,GA⟩;have vx:=ux (by omega);have HA:Hid (DH w wA B c w.heap.size w1.heap.size q 4 cap ⟨ks,0, -1,0⟩):=HR.out.drew.draw CA GA;clear ux CA GA;have ka:wA.cell? ⟨w1.heap.size,0,none⟩=some (.slice (some ⟨q,0,none⟩) 4 cap):=HA.out.2.2.2.1.cell 0 rfl;obtain⟨fj,⟨yj,cj⟩,HK⟩:=HA.out.key j (by omega) x;have kb:(wA.setCell ⟨q,j,none⟩ (.int .i64 x)).cell? ⟨w1.heap.size,0,none⟩=some (.slice (some ⟨q,0,none⟩) 4 cap):=HK.2.2.2.1.cell 0 rfl;have HK2:Hid _:=HK;clear HK HA))
   go_wp2
   refine⟨⟨_,_,_,_,_,_,_,_,_,_,_,?_,rfl⟩,?_⟩
   ·exact⟨j+1,ks.set j x,by omega,by go_num,by rw[Hid,List.length_set];exact HL.out,HK2⟩
   ·simp[intOf];omega
  ·go_wp2_with fail
   refine(below_any B c 5 _ HR.out.1 (by omega)).mono ?_
   rintro e w2 ⟨t2,rfl,l2,u2, -,C2,G2⟩
   have y2:=u2 (by omega)
   have H2:Hid (DH w w2 B c w.heap.size w1.heap.size q 4 cap ⟨ks,0, -1,0⟩):=HR.out.draw C2 G2
   clear u2 C2 G2 HR
   have k2:w2.cell? ⟨w1.heap.size,3,none⟩=some (.int .i64 0):=H2.out.2.2.2.1.cell 3 rfl
   have f2:=H2.out.2.2.2.1.frozen 3
   have s2:=H2.out.2.2.2.1.lt
   have J2:Hid (DH w (w2.setCell ⟨w1.heap.size,3,none⟩ (.int .i64 t2)) B c w.heap.size w1.heap.size q 4 cap ⟨ks,0, -1,t2⟩):=H2.out.put 3 t2 ⟨ks,0, -1,t2⟩ rfl rfl
   clear H2
   go_wp2_with fail
   refine(once_any B c 20 _ J2.out.1 (by omega)).mono ?_
   rintro e w3 ⟨b3,rfl,C3,G3⟩
   have H3:Hid (DH w w3 B c w.heap.size w1.heap.size q 4 cap ⟨ks,0, -1,t2⟩):=J2.out.draw C3 G3
   clear C3 G3 J2 k2 f2 s2
   have s3:=H3.out.2.2.2.1.lt
   cases b3 with
   |false=>
    go_wp2_with fail
    refine(below_any B c 6 _ H3.out.1 (by omega)).mono ?_
    rintro e w5 ⟨x5,rfl,l5,u5, -,C5,G5⟩
    have y5:=u5 (by omega)
    have H5:Hid (DH w w5 B c w.heap.size w1.heap.size q 4 cap ⟨ks,0, -1,t2⟩):=H3.out.draw C5 G5
    clear u5 C5 G5 H3
    go_wp2_with fail
    refine(below_any B c 4 _ H5.out.1 (by omega)).mono ?_
    rintro e w6 ⟨x6,rfl,l6,u6, -,C6,G6⟩
    have y6:=u6 (by omega)
    have H6:Hid (DH w w6 B c w.heap.size w1.heap.size q 4 cap ⟨ks,0, -1,t2⟩):=H5.out.draw C6 G6
    clear u6 C6 G6 H5
    obtain⟨i6,rfl⟩:∃i6:Nat,x6=i6:=⟨x6.toNat,by omega⟩
    have k0:w6.cell? ⟨w1.heap.size,0,none⟩=some (.slice (some ⟨q,0,none⟩) 4 cap):=H6.out.2.2.2.1.cell 0 rfl
    have kq:=H6.out.keyAt i6 (by omega)
    obtain⟨y,hy⟩:∃y,y=ks.getD i6 0:=⟨_,rfl⟩
    dsimp only at kq
    rw[←hy]at kq
    clear hy
    have cf:=fun wx=>sall_any (1+x5) wx
    obtain⟨bf,hbf⟩:∃bf,bf=allI (1+x5):=⟨_,rfl⟩
    simp only[←hbf]at cf
    clear hbf
    have s6:=H6.out.2.2.2.1.lt
    by_cases hy0:y=0
    ·clear cf
     have zq:StB w6 w1.heap.size 28 (hdA (.slice (some ⟨q,0,none⟩) 4 cap) ⟨ks,0, -1,t2⟩):=H6.out.2.2.2.1
     have zz:StB w6 w.heap.size 28 zeroH:=H6.out.2.2.1
     go_wp2_with (first|(refine wpList_getS Tryz.isH rfl _ rfl w1.heap.size rfl (hdA (.slice (some ⟨q,0,none⟩) 4 cap) ⟨ks,0, -1,t2⟩) rfl zq ?_)|(refine wpList_putS Tryz.isH rfl _ _ rfl w.heap.size (hdA (.slice (some ⟨q,0,none⟩) 4 cap) ⟨ks,0, -1,t2⟩) zeroH rfl rfl rfl rfl (hdA_one _ rfl) zz ?_;intro we se ge))
     refine bodyPost_ret (results_S Tryz.isH rfl _ _ w.heap.size _ rfl rfl se) rfl ?_
     exact⟨⟨ks,0, -1,t2⟩,q,cap,rfl,HL.out,by omega,H6.out.fin ge⟩
    ·have hyn:(y !=0)=true:=by simpa using hy0
     go_wp2_with fail
     refine(once_any B c 4 _ H6.out.1 (by omega)).mono ?_
     rintro e w7 ⟨b7,rfl,C7,G7⟩
     have H7:Hid (DH w w7 B c w.heap.size w1.heap.size q 4 cap ⟨ks,0, -1,t2⟩):=H6.out.draw C7 G7
     clear C7 G7 H6 k0 kq
     have s7:=H7.out.2.2.2.1.lt
     cases b7 with
     |true=>
      clear cf
      have zq:StB w7 w1.heap.size 28 (hdA (.slice (some ⟨q,0,none⟩) 4 cap) ⟨ks,0, -1,t2⟩):=H7.out.2.2.2.1
      have zz:StB w7 w.heap.size 28 zeroH:=H7.out.2.2.1
      go_wp2_with (first|(refine wpList_getS Tryz.isH rfl _ rfl w1.heap.size rfl (hdA (.slice (some ⟨q,0,none⟩) 4 cap) ⟨ks,0, -1,t2⟩) rfl zq ?_)|(refine wpList_putS Tryz.isH rfl _ _ rfl w.heap.size (hdA (.slice (some ⟨q,0,none⟩) 4 cap) ⟨ks,0, -1,t2⟩) zeroH rfl rfl rfl rfl (hdA_one _ rfl) zz ?_;intro we se ge))
      refine bodyPost_ret (results_S Tryz.isH rfl _ _ w.heap.size _ rfl rfl se) rfl ?_
      exact⟨⟨ks,0, -1,t2⟩,q,cap,rfl,HL.out,by omega,H7.out.fin ge⟩
     |false=>
      have k7:w7.cell? ⟨w1.heap.size,1,none⟩=some (.int .i64 0):=H7.out.2.2.2.1.cell 1 rfl
      have f7:=H7.out.2.2.2.1.frozen 1
      have J7:Hid (DH w (w7.setCell ⟨w1.heap.size,1,none⟩ (.int .i64 (1+x5))) B c w.heap.size w1.heap.size q 4 cap ⟨ks,1+x5, -1,t2⟩):=H7.out.put 1 (1+x5) ⟨ks,1+x5, -1,t2⟩ rfl rfl
      clear H7
      go_wp2_with fail
      refine(cf _).mono ?_
      rintro e w' ⟨rfl,hw'⟩;subst w'
      clear cf
      obtain⟨w8,hw8⟩:∃w8,w8=(w7.setCell ⟨w1.heap.size,1,none⟩ (.int .i64 (1+x5))):=⟨_,rfl⟩
      rw[←hw8]at J7⊢
      have s8:=J7.out.2.2.2.1.lt
      clear hw8 k7 f7
      cases bf with
      |true=>
       have zq:StB w8 w1.heap.size 28 (hdA (.slice (some ⟨q,0,none⟩) 4 cap) ⟨ks,1+x5, -1,t2⟩):=J7.out.2.2.2.1
       have zz:StB w8 w.heap.size 28 zeroH:=J7.out.2.2.1
       go_wp2_with (first|(refine wpList_getS Tryz.isH rfl _ rfl w1.heap.size rfl (hdA (.slice (some ⟨q,0,none⟩) 4 cap) ⟨ks,1+x5, -1,t2⟩) rfl zq ?_)|(refine wpList_putS Tryz.isH rfl _ _ rfl w.heap.size (hdA (.slice (some ⟨q,0,none⟩) 4 cap) ⟨ks,1+x5, -1,t2⟩) zeroH rfl rfl rfl rfl (hdA_one _ rfl) zz ?_;intro we se ge))
       refine bodyPost_ret (results_S Tryz.isH rfl _ _ w.heap.size _ rfl rfl se) rfl ?_
       exact⟨⟨ks,1+x5, -1,t2⟩,q,cap,rfl,HL.out,by omega,J7.out.fin ge⟩
      |false=>
       have k8:w8.cell? ⟨w1.heap.size,2,none⟩=some (.int .i64 (-1)):=J7.out.2.2.2.1.cell 2 rfl
       have f8:=J7.out.2.2.2.1.frozen 2
       have J8:Hid (DH w (w8.setCell ⟨w1.heap.size,2,none⟩ (.int .i64 (i6:Int))) B c w.heap.size w1.heap.size q 4 cap ⟨ks,1+x5,(i6:Int),t2⟩):=J7.out.put 2 (i6:Int) ⟨ks,1+x5,(i6:Int),t2⟩ rfl rfl
       clear J7
       have zq:StB (w8.setCell ⟨w1.heap.size,2,none⟩ (.int .i64 (i6:Int))) w1.heap.size 28 (hdA (.slice (some ⟨q,0,none⟩) 4 cap) ⟨ks,1+x5,(i6:Int),t2⟩):=J8.out.2.2.2.1
       have zz:StB (w8.setCell ⟨w1.heap.size,2,none⟩ (.int .i64 (i6:Int))) w.heap.size 28 zeroH:=J8.out.2.2.1
       go_wp2_with (first|(refine wpList_getS Tryz.isH rfl _ rfl w1.heap.size rfl (hdA (.slice (some ⟨q,0,none⟩) 4 cap) ⟨ks,1+x5,(i6:Int),t2⟩) rfl zq ?_)|(refine wpList_putS Tryz.isH rfl _ _ rfl w.heap.size (hdA (.slice (some ⟨q,0,none⟩) 4 cap) ⟨ks,1+x5,(i6:Int),t2⟩) zeroH rfl rfl rfl rfl (hdA_one _ rfl) zz ?_;intro we se ge))
       refine bodyPost_ret (results_S Tryz.isH rfl _ _ w.heap.size _ rfl rfl se) rfl ?_
       exact⟨⟨ks,1+x5,(i6:Int),t2⟩,q,cap,rfl,HL.out,by omega,J8.out.fin ge⟩
   |true=>
    have k3:w3.cell? ⟨w1.heap.size,3,none⟩=some (.int .i64 t2):=H3.out.2.2.2.1.cell 3 rfl
    have f3:=H3.out.2.2.2.1.frozen 3
    have J3:Hid (DH w (w3.setCell ⟨w1.heap.size,3,none⟩ (.int .i64 1000000000)) B c w.heap.size w1.heap.size q 4 cap ⟨ks,0, -1,1000000000⟩):=H3.out.put 3 1000000000 ⟨ks,0, -1,1000000000⟩ rfl rfl
    clear H3
    go_wp2_with fail
    refine(below_any B c 6 _ J3.out.1 (by omega)).mono ?_
    rintro e w5 ⟨x5,rfl,l5,u5, -,C5,G5⟩
    have y5:=u5 (by omega)
    have H5:Hid (DH w w5 B c w.heap.size w1.heap.size q 4 cap ⟨ks,0, -1,1000000000⟩):=J3.out.draw C5 G5
    clear u5 C5 G5 J3
    go_wp2_with fail
    refine(below_any B c 4 _ H5.out.1 (by omega)).mono ?_
    rintro e w6 ⟨x6,rfl,l6,u6, -,C6,G6⟩
    have y6:=u6 (by omega)
    have H6:Hid (DH w w6 B c w.heap.size w1.heap.size q 4 cap ⟨ks,0, -1,1000000000⟩):=H5.out.draw C6 G6
    clear u6 C6 G6 H5
    obtain⟨i6,rfl⟩:∃i6:Nat,x6=i6:=⟨x6.toNat,by omega⟩
    have k0:w6.cell? ⟨w1.heap.size,0,none⟩=some (.slice (some ⟨q,0,none⟩) 4 cap):=H6.out.2.2.2.1.cell 0 rfl
    have kq:=H6.out.keyAt i6 (by omega)
    obtain⟨y,hy⟩:∃y,y=ks.getD i6 0:=⟨_,rfl⟩
    dsimp only at kq
    rw[←hy]at kq
    clear hy
    have cf:=fun wx=>sall_any (1+x5) wx
    obtain⟨bf,hbf⟩:∃bf,bf=allI (1+x5):=⟨_,rfl⟩
    simp only[←hbf]at cf
    clear hbf
    have s6:=H6.out.2.2.2.1.lt
    by_cases hy0:y=0
    ·clear cf
     have zq:StB w6 w1.heap.size 28 (hdA (.slice (some ⟨q,0,none⟩) 4 cap) ⟨ks,0, -1,1000000000⟩):=H6.out.2.2.2.1
     have zz:StB w6 w.heap.size 28 zeroH:=H6.out.2.2.1
     go_wp2_with (first|(refine wpList_getS Tryz.isH rfl _ rfl w1.heap.size rfl (hdA (.slice (some ⟨q,0,none⟩) 4 cap) ⟨ks,0, -1,1000000000⟩) rfl zq ?_)|(refine wpList_putS Tryz.isH rfl _ _ rfl w.heap.size (hdA (.slice (some ⟨q,0,none⟩) 4 cap) ⟨ks,0, -1,1000000000⟩) zeroH rfl rfl rfl rfl (hdA_one _ rfl) zz ?_;intro we se ge))
     refine bodyPost_ret (results_S Tryz.isH rfl _ _ w.heap.size _ rfl rfl se) rfl ?_
     exact⟨⟨ks,0, -1,1000000000⟩,q,cap,rfl,HL.out,by omega,H6.out.fin ge⟩
    ·have hyn:(y !=0)=true:=by simpa using hy0
     go_wp2_with fail
     refine(once_any B c 4 _ H6.out.1 (by omega)).mono ?_
     rintro e w7 ⟨b7,rfl,C7,G7⟩
     have H7:Hid (DH w w7 B c w.heap.size w1.heap.size q 4 cap ⟨ks,0, -1,1000000000⟩):=H6.out.draw C7 G7
     clear C7 G7 H6 k0 kq
     have s7:=H7.out.2.2.2.1.lt
     cases b7 with
     |true=>
      clear cf
      have zq:StB w7 w1.heap.size 28 (hdA (.slice (some ⟨q,0,none⟩) 4 cap) ⟨ks,0, -1,1000000000⟩):=H7.out.2.2.2.1
      have zz:StB w7 w.heap.size 28 zeroH:=H7.out.2.2.1
      go_wp2_with (first|(refine wpList_getS Tryz.isH rfl _ rfl w1.heap.size rfl (hdA (.slice (some ⟨q,0,none⟩) 4 cap) ⟨ks,0, -1,1000000000⟩) rfl zq ?_)|(refine wpList_putS Tryz.isH rfl _ _ rfl w.heap.size (hdA (.slice (some ⟨q,0,none⟩) 4 cap) ⟨ks,0, -1,1000000000⟩) zeroH rfl rfl rfl rfl (hdA_one _ rfl) zz ?_;intro we se ge))
      refine bodyPost_ret (results_S Tryz.isH rfl _ _ w.heap.size _ rfl rfl se) rfl ?_
      exact⟨⟨ks,0, -1,1000000000⟩,q,cap,rfl,HL.out,by omega,H7.out.fin ge⟩
     |false=>
      have k7:w7.cell? ⟨w1.heap.size,1,none⟩=some (.int .i64 0):=H7.out.2.2.2.1.cell 1 rfl
      have f7:=H7.out.2.2.2.1.frozen 1
      have J7:Hid (DH w (w7.setCell ⟨w1.heap.size,1,none⟩ (.int .i64 (1+x5))) B c w.heap.size w1.heap.size q 4 cap ⟨ks,1+x5, -1,1000000000⟩):=H7.out.put 1 (1+x5) ⟨ks,1+x5, -1,1000000000⟩ rfl rfl
      clear H7
      go_wp2_with fail
      refine(cf _).mono ?_
      rintro e w' ⟨rfl,hw'⟩;subst w'
      clear cf
      obtain⟨w8,hw8⟩:∃w8,w8=(w7.setCell ⟨w1.heap.size,1,none⟩ (.int .i64 (1+x5))):=⟨_,rfl⟩
      rw[←hw8]at J7⊢
      have s8:=J7.out.2.2.2.1.lt
      clear hw8 k7 f7
      cases bf with
      |true=>
       have zq:StB w8 w1.heap.size 28 (hdA (.slice (some ⟨q,0,none⟩) 4 cap) ⟨ks,1+x5, -1,1000000000⟩):=J7.out.2.2.2.1
       have zz:StB w8 w.heap.size 28 zeroH:=J7.out.2.2.1
       go_wp2_with (first|(refine wpList_getS Tryz.isH rfl _ rfl w1.heap.size rfl (hdA (.slice (some ⟨q,0,none⟩) 4 cap) ⟨ks,1+x5, -1,1000000000⟩) rfl zq ?_)|(refine wpList_putS Tryz.isH rfl _ _ rfl w.heap.size (hdA (.slice (some ⟨q,0,none⟩) 4 cap) ⟨ks,1+x5, -1,1000000000⟩) zeroH rfl rfl rfl rfl (hdA_one _ rfl) zz ?_;intro we se ge))
       refine bodyPost_ret (results_S Tryz.isH rfl _ _ w.heap.size _ rfl rfl se) rfl ?_
       exact⟨⟨ks,1+x5, -1,1000000000⟩,q,cap,rfl,HL.out,by omega,J7.out.fin ge⟩
      |false=>
       have k8:w8.cell? ⟨w1.heap.size,2,none⟩=some (.int .i64 (-1)):=J7.out.2.2.2.1.cell 2 rfl
       have f8:=J7.out.2.2.2.1.frozen 2
       have J8:Hid (DH w (w8.setCell ⟨w1.heap.size,2,none⟩ (.int .i64 (i6:Int))) B c w.heap.size w1.heap.size q 4 cap ⟨ks,1+x5,(i6:Int),1000000000⟩):=J7.out.put 2 (i6:Int) ⟨ks,1+x5,(i6:Int),1000000000⟩ rfl rfl
       clear J7
       have zq:StB (w8.setCell ⟨w1.heap.size,2,none⟩ (.int .i64 (i6:Int))) w1.heap.size 28 (hdA (.slice (some ⟨q,0,none⟩) 4 cap) ⟨ks,1+x5,(i6:Int),1000000000⟩):=J8.out.2.2.2.1
       have zz:StB (w8.setCell ⟨w1.heap.size,2,none⟩ (.int .i64 (i6:Int))) w.heap.size 28 zeroH:=J8.out.2.2.1
       go_wp2_with (first|(refine wpList_getS Tryz.isH rfl _ rfl w1.heap.size rfl (hdA (.slice (some ⟨q,0,none⟩) 4 cap) ⟨ks,1+x5,(i6:Int),1000000000⟩) rfl zq ?_)|(refine wpList_putS Tryz.isH rfl _ _ rfl w.heap.size (hdA (.slice (some ⟨q,0,none⟩) 4 cap) ⟨ks,1+x5,(i6:Int),1000000000⟩) zeroH rfl rfl rfl rfl (hdA_one _ rfl) zz ?_;intro we se ge))
       refine bodyPost_ret (results_S Tryz.isH rfl _ _ w.heap.size _ rfl rfl se) rfl ?_
       exact⟨⟨ks,1+x5,(i6:Int),1000000000⟩,q,cap,rfl,HL.out,by omega,J8.out.fin ge⟩
end Go.Proofs.YtfngkbogcjodaaaGreatDoor
