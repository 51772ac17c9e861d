/- A new house by the model. -/
import Derived.Test.YthmnmaemnihkeaaDoorM32
import Derived.Test.YthmnmaemnihkeaaDoorM33
import Derived.Test.YthmnmaemnihkeaaDoorM24
import Derived.Test.YthmnmaemnihkeaaDoorM31
import Derived.Test.YthmnmaemnihkeaaDoorM29
import Derived.Test.YthmnmaemnihkeaaDoorINodeF
import Derived.Test.YthmnmaemnihkeaaDoorM23
set_option maxRecDepth 20000
set_option maxHeartbeats 8000000
namespace Go.Proofs.YthmnmaemnihkeaaDoor
open Go.ChangeShapes Go.WideShapes Go.ChangeAt Go.RowKit
theorem built_node (id:Int) (a b k n1 n2 n3 r0 r1 r2 r3:Value):Tryd.prog.built 44 [(0,.int .i64 id),(1,.bool true),(2,.agg #[a,b]),(3,.agg #[k,n1,n2,n3]),(5,.agg #[r0,r1,r2,r3])]=some #[.int .i64 id,.bool true,a,b,k,n1,n2,n3,.string ⟨#[]⟩,r0,r1,r2,r3,.int .i64 0,.bool false,.int .i64 0,.int .i64 0,.slice none 0 0,.int .i64 0,.slice none 0 0]:=by kernel_rfl
theorem built_rec3:Tryd.prog.built 38 [(1,.int .i64 3)]=some #[.int .i64 0,.int .i64 3,.int .i64 0,.int .i64 0]:=by kernel_rfl
def hdG (n:Nat) (h:Hd):GSpec:=⟨fun u=>∃o c,u=.agg #[.slice o h.ks.length c,.int .i64 h.kd,.int .i64 h.ho,.int .i64 h.tu],fun u x=>∀o c,u=.agg #[.slice o h.ks.length c,.int .i64 h.kd,.int .i64 h.ho,.int .i64 h.tu]→Own x n (.slice o h.ks.length c) h.ks⟩
theorem hdG_later {n:Nat} {h:Hd} {u:Value} {x y:World} (hx:(hdG n h).F u x) (b:Later x y):(hdG n h).F u y:=fun o c e=>(hx o c e).below b
theorem hdG_of {P:Program} {f:FuncId} {args:Array Value} {w:World} {n:Nat} {h:Hd} (hn:n≤w.heap.size) (hc:Calls P f args w fun e w'=>∃u,e=.returned (HV u h)∧Own w' w.heap.size u h.ks∧Below w.heap.size w w'):Calls P f args w (fun e w''=>∃u,e=.returned u∧(hdG n h).V u∧(hdG n h).F u w''∧Later w w''):=by
 refine hc.mono ?_
 rintro e w' ⟨u,rfl,o,bl⟩
 obtain⟨ao,ac,rfl⟩:=reads_form o.reads
 exact⟨_,rfl,⟨ao,ac,rfl⟩,fun o' c' e=>by cases e;exact o.mono hn,bl⟩
theorem sNewNode_any (id bl:Int) (ow:Bool) (w:World):
  Calls Tryd.prog 9 #[.int .i64 id,.int .i64 bl,.bool ow] w fun e w'=>∃a b k q z,e=.returned (.tuple #[NdV a b k q z (Nd.new id bl ow),.bool (Nd.made id bl)])∧OwnN w' w.heap.size a b k q z (Nd.new id bl ow)∧Below w.heap.size w w':=by
 have C1:Hid (∀wx,Calls Tryd.prog 20 #[.int .i64 bl] wx fun e w'=>∃a b,e=.returned (.tuple #[.agg #[a,b],.bool (cntOk bl)])∧OwnD w' wx.heap.size a b (zerosI bl) (zerosI bl)∧Below wx.heap.size wx w'):=fun wx=>snewDisk_any bl wx
 have C2:Hid (∀wx,Calls Tryd.prog 21 #[.int .i64 id,.int .i64 0,.int .i64 1] wx fun e w'=>e=.returned (.bool (inI id 0 1))∧w'=wx):=fun wx=>sin6_any id 0 1 wx
 have C3:Hid (∀wx,Calls Tryd.prog 23 #[.string ⟨#[]⟩,RV (firstR ow)] wx fun e w'=>e=.returned (.tuple #[S (framed (showR (firstR ow))),.bool true])∧Below wx.heap.size wx w'):=fun wx=>by
  have h:=snoted_any [] (firstR ow) wx (by decide)
  rwa[(note_first ow).1,(note_first ow).2]at h
 have C4:Hid (∀wx,Calls Tryd.prog 22 #[] wx fun e w'=>∃u,e=.returned (HV u Hd.new)∧Own w' wx.heap.size u Hd.new.ks∧Below wx.heap.size wx w'):=fun wx=>snewH_any wx
 have HM:Hid (Nd.made id bl=(cntOk bl&&inI id 0 1)):=rfl
 have HN:Hid ((Nd.made id bl=false→Nd.new id bl ow=Nd.zero)∧(Nd.made id bl=true→Nd.new id bl ow=⟨id,true,zerosI bl,zerosI bl,Hd.new,framed (showR (firstR ow)),firstR ow,Cp.zero,Sn.zero⟩)):=⟨Nd.new_no,Nd.new_yes⟩
 obtain⟨w1,hw1⟩:∃w1,w1=w.alloc (.cells zeroNd 44):=⟨_,rfl⟩
 have HR:Hid (StB w1 w.heap.size 44 zeroNd∧Below w.heap.size w w1):=⟨by rw[hw1];exact StB.new _ _ _,by rw[hw1];exact(Below.refl _ _).alloc (Nat.le_refl _) _⟩
 obtain⟨nn,hnn⟩:∃nn,nn=Nd.new id bl ow:=⟨_,rfl⟩
 obtain⟨md,hmd⟩:∃md,md=Nd.made id bl:=⟨_,rfl⟩
 obtain⟨ok,hok⟩:∃ok,ok=cntOk bl:=⟨_,rfl⟩
 obtain⟨io,hio⟩:∃io,io=inI id 0 1:=⟨_,rfl⟩
 rw[←hnn,←hmd]at HN
 rw[←hmd,←hok,←hio]at HM
 rw[←hok]at C1
 rw[←hio]at C2
 rw[←hnn,←hmd]
 clear hnn hmd hok hio
 obtain⟨lg,hlg⟩:∃lg,lg=framed (showR (firstR ow)):=⟨_,rfl⟩
 rw[←hlg]at C3 HN
 clear hlg
 unfold RV recA S at C3
 unfold zeroNd at hw1
 go_enter Tryd.func9,Tryd.ntmps9
 go_upto_region 1 with fail
 rw[←hw1]
 clear hw1
 go_wp2_with fail
 refine(C1.out w1).mono ?_
 rintro e w2 ⟨a',b',rfl,o2,bx2⟩
 obtain⟨a1,a2,rfl⟩:=reads_form o2.1.reads
 obtain⟨b1,b2,rfl⟩:=reads_form o2.2.1.reads
 obtain⟨w3,hw3⟩:∃w3,w3=w2.alloc (.cells #[(.slice a1 (zerosI bl).length a2),(.slice b1 (zerosI bl).length b2)] 34):=⟨_,rfl⟩
 have b3:Below w2.heap.size w2 w3:=by rw[hw3];exact(Below.refl _ _).alloc (Nat.le_refl _) _
 have V:Hid (StB w3 w2.heap.size 34 #[(.slice a1 (zerosI bl).length a2),(.slice b1 (zerosI bl).length b2)]):=by rw[hw3];exact StB.new _ _ _
 have O:Hid (OwnD w3 (w.heap.size+1) (.slice a1 (zerosI bl).length a2) (.slice b1 (zerosI bl).length b2) (zerosI bl) (zerosI bl)):=⟨(o2.1.mono HR.out.1.lt).below b3,(o2.2.1.mono HR.out.1.lt).below b3,o2.2.2⟩
 replace HR:Hid (StB w3 w.heap.size 44 zeroNd∧Below w.heap.size w w3):=⟨(HR.out.1.below bx2).below b3,(HR.out.2.trans (bx2.mono HR.out.2.size)).trans (b3.mono (HR.out.2.trans (bx2.mono HR.out.2.size)).size)⟩
 go_upto_region 2 with fail
 rw[←hw3]
 clear hw3 o2 bx2 b3 C1
 obtain⟨g,hg⟩:∃g,g=w2.heap.size:=⟨_,rfl⟩
 rw[←hg]at V⊢
 clear hg
 cases hmd:md with
 |false=>
  have HX:Hid (nn=Nd.zero∧md=false):=⟨HN.out.1 hmd,hmd⟩
  have hbad:io=false∨ok=false:=two_no (by rw[←HM.out,hmd])
  clear HN HM C3 C4 hmd V O
  cases ok with
  |false=>
   go_wp2_with (refine wpList_putS Tryd.isNd rfl _ _ rfl w.heap.size zeroNd zeroNd rfl rfl rfl rfl zeroNd_one HR.out.1 ?_;intro w19 s19 g19)
   refine bodyPost_ret (results_S2 Tryd.isNd rfl _ _ w.heap.size _ (.bool false) rfl rfl rfl s19) rfl ?_
   rw[HX.out.1,HX.out.2]
   exact⟨_,_,_,_,_,rfl,OwnN.nil _ _,HR.out.2.grown g19 HR.out.2.size (fun k e=>by cases e;omega)⟩
  |true=>
   obtain rfl:io=false:=by rcases hbad with h|h;exact h;cases h
   clear hbad
   go_wp2_with fail
   refine(C2.out w3).mono ?_
   rintro e w' ⟨rfl,hw⟩;subst w'
   clear C2
   go_wp2_with (refine wpList_putS Tryd.isNd rfl _ _ rfl w.heap.size zeroNd zeroNd rfl rfl rfl rfl zeroNd_one HR.out.1 ?_;intro w19 s19 g19)
   refine bodyPost_ret (results_S2 Tryd.isNd rfl _ _ w.heap.size _ (.bool false) rfl rfl rfl s19) rfl ?_
   rw[HX.out.1,HX.out.2]
   exact⟨_,_,_,_,_,rfl,OwnN.nil _ _,HR.out.2.grown g19 HR.out.2.size (fun k e=>by cases e;omega)⟩
 |true=>
  have hx0:=HN.out.2 hmd
  obtain⟨rfl,rfl⟩:=two_yes (a:=io) (b:=ok) (by rw[←HM.out,hmd])
  have HX:Hid (nn=⟨id,true,zerosI bl,zerosI bl,Hd.new,lg,firstR ow,Cp.zero,Sn.zero⟩∧md=true):=⟨hx0,hmd⟩
  clear HN HM hmd hx0
  go_wp2_with fail
  refine(C2.out w3).mono ?_
  rintro e w' ⟨rfl,hw⟩;subst w'
  clear C2
  go_upto_region 4 with fail
  obtain⟨C,hCd⟩:∃C,C=fun x=>Below w3.heap.size w3 x:=⟨_,rfl⟩
  have HQ:Hid (∀x,C x→Below w3.heap.size w3 x):=by rw[hCd];exact fun _ h=>h
  have HN:Hid (∀x y,C x→Later x y→C y):=by rw[hCd];exact fun _ _ h b=>h.trans (b.mono h.size)
  have H0:Hid (C w3.drew):=by rw[hCd];exact(Below.refl _ _).drew
  have hne:Nonempty (Kin C):=⟨⟨_,H0.out⟩⟩
  have m0:∀q:Kin C,q.x.cell? ⟨g,0,none⟩=some (.slice a1 (zerosI bl).length a2):=fun q=>later_cell (V.out.cell 0 rfl) (HQ.out _ q.h)
  have m1:∀q:Kin C,q.x.cell? ⟨g,1,none⟩=some (.slice b1 (zerosI bl).length b2):=fun q=>later_cell (V.out.cell 1 rfl) (HQ.out _ q.h)
  clear hCd
  refine wp_region_gs_last (C:=C) (E:=byDst fun d=>if d=26 then some (hdG w3.heap.size Hd.new)else if d=10 then some (alG w3.heap.size 44 zeroNd)else none) (R:=Later) HN.out (byDst_later (by intro d s hs u x y hx hl;split at hs;(cases hs;exact hdG_later hx hl);split at hs;(cases hs;exact alG_later hx hl);cases hs)) (byDst_looks _ _) (by kernel_rfl) (by kernel_rfl) (by kernel_rfl) (by simp) H0.out ?_
  repeat(refine gs_plain rfl (fun K hK=>?_);go_simp;refine hK _ ?_;clear hK K)
  refine gs_call (hdG w3.heap.size Hd.new) rfl (by first|rfl|kernel_rfl) (fun wq hB=>?_) (fun uq hu=>?_)
  ·go_simp
   refine⟨rfl,?_⟩
   exact hdG_of (HQ.out _ hB.1).size (C4.out _)
  obtain⟨k1,k2,rfl⟩:=hu
  have hr3:=built_rec3
  have hn3:=built_node id (.slice a1 (zerosI bl).length a2) (.slice b1 (zerosI bl).length b2) (.slice k1 Hd.new.ks.length k2) (.int .i64 Hd.new.kd) (.int .i64 Hd.new.ho) (.int .i64 Hd.new.tu) (.int .i64 0) (.int .i64 3) (.int .i64 0) (.int .i64 0)
  refine gs_build rfl rfl 38 #[(1,.const (.int .i64 3))] rfl #[.int .i64 0,.int .i64 3,.int .i64 0,.int .i64 0] (by simp[Act.eval];exact hr3) ?_
  refine gs_build rfl rfl 44 #[(0,.tmp 24),(1,.const (.bool true)),(2,.tmp 25),(3,.tmp 26),(5,.tmp 27)] rfl #[.int .i64 id,.bool true,(.slice a1 (zerosI bl).length a2),(.slice b1 (zerosI bl).length b2),(.slice k1 Hd.new.ks.length k2),.int .i64 Hd.new.kd,.int .i64 Hd.new.ho,.int .i64 Hd.new.tu,.string ⟨#[]⟩,.int .i64 0,.int .i64 3,.int .i64 0,.int .i64 0,.int .i64 0,.bool false,.int .i64 0,.int .i64 0,.slice none 0 0,.int .i64 0,.slice none 0 0] ?_ ?_
  ·simp[Act.eval,Act.put]
   exact hn3
  refine gs_call (alG w3.heap.size 44 zeroNd) rfl (by first|rfl|kernel_rfl) (fun wq hB=>?_) (fun uq hu=>?_)
  ·go_simp
   exact alG_of (HQ.out _ hB.1).size
  obtain⟨gn,rfl⟩:=hu
  refine gs_end (fun w4 hz=>?_)
  have bz:=HQ.out _ hz.1
  have hn4:=hz.2 _ (List.mem_cons_self ..) gn rfl
  have hk4:=hz.2 _ (List.mem_cons_of_mem _ (List.mem_cons_self ..)) k1 k2 rfl
  refine last_putL Tryd.isNd rfl rfl _ _ rfl gn (ndA (.slice a1 (zerosI bl).length a2) (.slice b1 (zerosI bl).length b2) (.slice k1 Hd.new.ks.length k2) (.slice none 0 0) (.slice none 0 0) ⟨id,true,zerosI bl,zerosI bl,Hd.new,[],⟨0,3,0,0⟩,Cp.zero,Sn.zero⟩) zeroNd rfl rfl rfl rfl (ndA_one _ rfl rfl rfl rfl rfl) hn4.1 ?_
  intro w5 s5 g5
  have hlt:w.heap.size+1≤w3.heap.size:=HR.out.1.lt
  have HR5:Hid (StB w5 w.heap.size 44 zeroNd∧Below w.heap.size w w5∧w.heap.size+1≤gn):=by
   have b4:=HR.out.2.trans (bz.mono HR.out.2.size)
   exact⟨(HR.out.1.below bz).kept g5 (by simp;have:=hn4.2;omega),b4.grown g5 b4.size (fun k e=>by cases e;have:=hn4.2;omega),Nat.le_trans hlt hn4.2⟩
  have O5:Hid (OwnN w5 (w.heap.size+1) (.slice a1 (zerosI bl).length a2) (.slice b1 (zerosI bl).length b2) (.slice k1 Hd.new.ks.length k2) (.slice none 0 0) (.slice none 0 0) ⟨id,true,zerosI bl,zerosI bl,Hd.new,[],⟨0,3,0,0⟩,Cp.zero,Sn.zero⟩):=by
   have ka:=fun x hx=>(blk_new O.out.1 x hx).2
   have kb:=fun x hx=>(blk_new O.out.2.1 x hx).2
   refine⟨(O.out.1.below bz).putBy hn4.1 (by decide) g5,(O.out.2.1.below bz).putBy hn4.1 (by decide) g5,(hk4.mono hlt).putBy hn4.1 (by decide) g5,Own.nil _ _,Own.nil _ _,pair5.2 ⟨⟨apart_nil _ _ _,apart_sym (apart_nil _ _ _),apart_sym (apart_nil _ _ _),apart_sym (apart_nil _ _ _)⟩,⟨apart_sym (apart_nil _ _ _),apart_sym (apart_nil _ _ _),apart_sym (apart_nil _ _ _)⟩,⟨apart_old kb hk4,apart_old ka hk4⟩,apart_sym O.out.2.2⟩⟩
  have V5:Hid (StB w5 gn 44 (ndA (.slice a1 (zerosI bl).length a2) (.slice b1 (zerosI bl).length b2) (.slice k1 Hd.new.ks.length k2) (.slice none 0 0) (.slice none 0 0) ⟨id,true,zerosI bl,zerosI bl,Hd.new,[],⟨0,3,0,0⟩,Cp.zero,Sn.zero⟩)):=s5
  clear s5 g5 hn4 hk4 bz hz hlt HQ HN H0 hne m0 m1 V O HR C4
  cases ow with
  |false=>
   have e1:firstR false=⟨0,3,0,0⟩:=rfl
   rw[e1]at C3 HX
   clear e1
   dsimp only at C3
   obtain⟨w6,hw6⟩:∃w6,w6=w5:=⟨_,rfl⟩
   have V6:Hid (StB w6 gn 44 (ndA (.slice a1 (zerosI bl).length a2) (.slice b1 (zerosI bl).length b2) (.slice k1 Hd.new.ks.length k2) (.slice none 0 0) (.slice none 0 0) ⟨id,true,zerosI bl,zerosI bl,Hd.new,[],⟨0,3,0,0⟩,Cp.zero,Sn.zero⟩)):=by rw[hw6];exact V5.out
   have T6:Hid (Turned w5 w6 [gn]):=by rw[hw6];exact Turned.refl _ _
   go_upto_region 7 with fail
   rw[←hw6]
   clear hw6
   have O6:Hid (OwnN w6 (w.heap.size+1) (.slice a1 (zerosI bl).length a2) (.slice b1 (zerosI bl).length b2) (.slice k1 Hd.new.ks.length k2) (.slice none 0 0) (.slice none 0 0) ⟨id,true,zerosI bl,zerosI bl,Hd.new,[],⟨0,3,0,0⟩,Cp.zero,Sn.zero⟩):=by
    have hq:∀v xs,Own w5 (w.heap.size+1) v xs→Own w6 (w.heap.size+1) v xs:=fun v xs h=>h.turnedBy T6.out (fun x hx e=>h.ne V5.out (by decide) (by simp only[List.mem_singleton]at e;subst e;simpa[blk]using hx))
    exact⟨hq _ _ O5.out.oa,hq _ _ O5.out.ob,hq _ _ O5.out.ok,Own.nil _ _,Own.nil _ _,O5.out.ap⟩
   have HR6:Hid (StB w6 w.heap.size 44 zeroNd∧Below w.heap.size w w6∧w.heap.size+1≤gn):=⟨HR5.out.1.turned T6.out (fun e=>by simp at e;have:=HR5.out.2.2;omega),HR5.out.2.1.trans (T6.out.belowAt (fun x hx=>by simp at hx;have:=HR5.out.2.2;omega) HR5.out.2.1.size),HR5.out.2.2⟩
   clear T6 V5 O5 HR5
   have p9:w6.cell? ⟨gn,9,none⟩=some (.int .i64 0):=V6.out.cell 9 rfl
   have p10:w6.cell? ⟨gn,10,none⟩=some (.int .i64 3):=V6.out.cell 10 rfl
   have p11:w6.cell? ⟨gn,11,none⟩=some (.int .i64 0):=V6.out.cell 11 rfl
   have p12:w6.cell? ⟨gn,12,none⟩=some (.int .i64 0):=V6.out.cell 12 rfl
   go_wp2_with fail
   refine(C3.out w6).mono ?_
   rintro e w7 ⟨rfl,b7⟩
   have V7:Hid (StB w7 gn 44 (ndA (.slice a1 (zerosI bl).length a2) (.slice b1 (zerosI bl).length b2) (.slice k1 Hd.new.ks.length k2) (.slice none 0 0) (.slice none 0 0) ⟨id,true,zerosI bl,zerosI bl,Hd.new,[],⟨0,3,0,0⟩,Cp.zero,Sn.zero⟩)):=V6.out.below b7
   have O7:Hid (OwnN w7 (w.heap.size+1) (.slice a1 (zerosI bl).length a2) (.slice b1 (zerosI bl).length b2) (.slice k1 Hd.new.ks.length k2) (.slice none 0 0) (.slice none 0 0) ⟨id,true,zerosI bl,zerosI bl,Hd.new,[],⟨0,3,0,0⟩,Cp.zero,Sn.zero⟩):=O6.out.below b7
   have HR7:Hid (StB w7 w.heap.size 44 zeroNd∧Below w.heap.size w w7∧w.heap.size+1≤gn):=⟨HR6.out.1.below b7,HR6.out.2.1.trans (b7.mono HR6.out.2.1.size),HR6.out.2.2⟩
   clear b7 C3 V6 O6 HR6 p9 p10 p11 p12
   have p8:w7.cell? ⟨gn,8,none⟩=some (.string ⟨#[]⟩):=V7.out.cell 8 rfl
   have f8:=V7.out.frozen 8
   obtain⟨w8,hw8⟩:∃w8,w8=w7.setCell ⟨gn,8,none⟩ (.string ⟨lg.toArray⟩):=⟨_,rfl⟩
   have G8:w7.grownBy w8 (some gn):=by rw[hw8];exact grownSet _ _ _ _
   have V8:Hid (StB w8 gn 44 (ndA (.slice a1 (zerosI bl).length a2) (.slice b1 (zerosI bl).length b2) (.slice k1 Hd.new.ks.length k2) (.slice none 0 0) (.slice none 0 0) ⟨id,true,zerosI bl,zerosI bl,Hd.new,lg,⟨0,3,0,0⟩,Cp.zero,Sn.zero⟩)):=by rw[hw8];exact V7.out.put 8 _ rfl
   have O8:Hid (OwnN w8 (w.heap.size+1) (.slice a1 (zerosI bl).length a2) (.slice b1 (zerosI bl).length b2) (.slice k1 Hd.new.ks.length k2) (.slice none 0 0) (.slice none 0 0) ⟨id,true,zerosI bl,zerosI bl,Hd.new,lg,⟨0,3,0,0⟩,Cp.zero,Sn.zero⟩):=by
    have o:=O7.out
    exact⟨o.oa.putBy V7.out (by decide) G8,o.ob.putBy V7.out (by decide) G8,o.ok.putBy V7.out (by decide) G8,Own.nil _ _,Own.nil _ _,o.ap⟩
   have HR8:Hid (StB w8 w.heap.size 44 zeroNd∧Below w.heap.size w w8):=⟨HR7.out.1.kept G8 (by simp;have:=HR7.out.2.2;omega),HR7.out.2.1.grown G8 HR7.out.2.1.size (fun k e=>by cases e;have:=HR7.out.2.2;omega)⟩
   go_upto_region 8 with fail
   rw[←hw8]
   clear hw8 G8 V7 O7 HR7 p8 f8
   go_wp2_with (first|(refine wpList_getS Tryd.isNd rfl _ rfl gn rfl (ndA (.slice a1 (zerosI bl).length a2) (.slice b1 (zerosI bl).length b2) (.slice k1 Hd.new.ks.length k2) (.slice none 0 0) (.slice none 0 0) ⟨id,true,zerosI bl,zerosI bl,Hd.new,lg,⟨0,3,0,0⟩,Cp.zero,Sn.zero⟩) rfl V8.out ?_)|(refine wpList_putS Tryd.isNd rfl _ _ rfl w.heap.size (ndA (.slice a1 (zerosI bl).length a2) (.slice b1 (zerosI bl).length b2) (.slice k1 Hd.new.ks.length k2) (.slice none 0 0) (.slice none 0 0) ⟨id,true,zerosI bl,zerosI bl,Hd.new,lg,⟨0,3,0,0⟩,Cp.zero,Sn.zero⟩) zeroNd rfl rfl rfl rfl (ndA_one _ rfl rfl rfl rfl rfl) HR8.out.1 ?_;intro w19 s19 g19))
   refine bodyPost_ret (results_S2 Tryd.isNd rfl _ _ w.heap.size _ (.bool true) rfl rfl rfl s19) rfl ?_
   rw[HX.out.1,HX.out.2]
   exact⟨_,_,_,_,_,rfl,(O8.out.keptLt g19 (by omega)).mono (by omega),HR8.out.2.grown g19 HR8.out.2.size (fun k e=>by cases e;omega)⟩
  |true=>
   have e1:firstR true=⟨1,1,0,0⟩:=rfl
   rw[e1]at C3 HX
   clear e1
   dsimp only at C3
   have p9:w5.cell? ⟨gn,9,none⟩=some (.int .i64 0):=V5.out.cell 9 rfl
   have f9:=V5.out.frozen 9
   have p10:w5.cell? ⟨gn,10,none⟩=some (.int .i64 3):=V5.out.cell 10 rfl
   have f10:=V5.out.frozen 10
   have p11:w5.cell? ⟨gn,11,none⟩=some (.int .i64 0):=V5.out.cell 11 rfl
   have f11:=V5.out.frozen 11
   have p12:w5.cell? ⟨gn,12,none⟩=some (.int .i64 0):=V5.out.cell 12 rfl
   have f12:=V5.out.frozen 12
   obtain⟨w6,hw6⟩:∃w6,w6=((((w5.setCell ⟨gn,9,none⟩ (.int .i64 1)).setCell ⟨gn,10,none⟩ (.int .i64 1)).setCell ⟨gn,11,none⟩ (.int .i64 0)).setCell ⟨gn,12,none⟩ (.int .i64 0)):=⟨_,rfl⟩
   have V6:Hid (StB w6 gn 44 (ndA (.slice a1 (zerosI bl).length a2) (.slice b1 (zerosI bl).length b2) (.slice k1 Hd.new.ks.length k2) (.slice none 0 0) (.slice none 0 0) ⟨id,true,zerosI bl,zerosI bl,Hd.new,[],⟨1,1,0,0⟩,Cp.zero,Sn.zero⟩)):=by
    rw[hw6]
    exact StB.put (StB.put (StB.put (StB.put (V5.out) 9 (.int .i64 1) rfl) 10 (.int .i64 1) rfl) 11 (.int .i64 0) rfl) 12 (.int .i64 0) rfl
   have T6:Hid (Turned w5 w6 [gn]):=by
    rw[hw6]
    exact((((Turned.of_grown (grownSet w5 gn 9 _)).sub (by simp)).then ((Turned.of_grown (grownSet _ gn 10 _)).sub (by simp))).then ((Turned.of_grown (grownSet _ gn 11 _)).sub (by simp))).then ((Turned.of_grown (grownSet _ gn 12 _)).sub (by simp))
   go_upto_region 7 with fail
   rw[←hw6]
   clear hw6 p9 f9 p10 f10 p11 f11 p12 f12
   have O6:Hid (OwnN w6 (w.heap.size+1) (.slice a1 (zerosI bl).length a2) (.slice b1 (zerosI bl).length b2) (.slice k1 Hd.new.ks.length k2) (.slice none 0 0) (.slice none 0 0) ⟨id,true,zerosI bl,zerosI bl,Hd.new,[],⟨1,1,0,0⟩,Cp.zero,Sn.zero⟩):=by
    have hq:∀v xs,Own w5 (w.heap.size+1) v xs→Own w6 (w.heap.size+1) v xs:=fun v xs h=>h.turnedBy T6.out (fun x hx e=>h.ne V5.out (by decide) (by simp only[List.mem_singleton]at e;subst e;simpa[blk]using hx))
    exact⟨hq _ _ O5.out.oa,hq _ _ O5.out.ob,hq _ _ O5.out.ok,Own.nil _ _,Own.nil _ _,O5.out.ap⟩
   have HR6:Hid (StB w6 w.heap.size 44 zeroNd∧Below w.heap.size w w6∧w.heap.size+1≤gn):=⟨HR5.out.1.turned T6.out (fun e=>by simp at e;have:=HR5.out.2.2;omega),HR5.out.2.1.trans (T6.out.belowAt (fun x hx=>by simp at hx;have:=HR5.out.2.2;omega) HR5.out.2.1.size),HR5.out.2.2⟩
   clear T6 V5 O5 HR5
   have p9:w6.cell? ⟨gn,9,none⟩=some (.int .i64 1):=V6.out.cell 9 rfl
   have p10:w6.cell? ⟨gn,10,none⟩=some (.int .i64 1):=V6.out.cell 10 rfl
   have p11:w6.cell? ⟨gn,11,none⟩=some (.int .i64 0):=V6.out.cell 11 rfl
   have p12:w6.cell? ⟨gn,12,none⟩=some (.int .i64 0):=V6.out.cell 12 rfl
   go_wp2_with fail
   refine(C3.out w6).mono ?_
   rintro e w7 ⟨rfl,b7⟩
   have V7:Hid (StB w7 gn 44 (ndA (.slice a1 (zerosI bl).length a2) (.slice b1 (zerosI bl).length b2) (.slice k1 Hd.new.ks.length k2) (.slice none 0 0) (.slice none 0 0) ⟨id,true,zerosI bl,zerosI bl,Hd.new,[],⟨1,1,0,0⟩,Cp.zero,Sn.zero⟩)):=V6.out.below b7
   have O7:Hid (OwnN w7 (w.heap.size+1) (.slice a1 (zerosI bl).length a2) (.slice b1 (zerosI bl).length b2) (.slice k1 Hd.new.ks.length k2) (.slice none 0 0) (.slice none 0 0) ⟨id,true,zerosI bl,zerosI bl,Hd.new,[],⟨1,1,0,0⟩,Cp.zero,Sn.zero⟩):=O6.out.below b7
   have HR7:Hid (StB w7 w.heap.size 44 zeroNd∧Below w.heap.size w w7∧w.heap.size+1≤gn):=⟨HR6.out.1.below b7,HR6.out.2.1.trans (b7.mono HR6.out.2.1.size),HR6.out.2.2⟩
   clear b7 C3 V6 O6 HR6 p9 p10 p11 p12
   have p8:w7.cell? ⟨gn,8,none⟩=some (.string ⟨#[]⟩):=V7.out.cell 8 rfl
   have f8:=V7.out.frozen 8
   obtain⟨w8,hw8⟩:∃w8,w8=w7.setCell ⟨gn,8,none⟩ (.string ⟨lg.toArray⟩):=⟨_,rfl⟩
   have G8:w7.grownBy w8 (some gn):=by rw[hw8];exact grownSet _ _ _ _
   have V8:Hid (StB w8 gn 44 (ndA (.slice a1 (zerosI bl).length a2) (.slice b1 (zerosI bl).length b2) (.slice k1 Hd.new.ks.length k2) (.slice none 0 0) (.slice none 0 0) ⟨id,true,zerosI bl,zerosI bl,Hd.new,lg,⟨1,1,0,0⟩,Cp.zero,Sn.zero⟩)):=by rw[hw8];exact V7.out.put 8 _ rfl
   have O8:Hid (OwnN w8 (w.heap.size+1) (.slice a1 (zerosI bl).length a2) (.slice b1 (zerosI bl).length b2) (.slice k1 Hd.new.ks.length k2) (.slice none 0 0) (.slice none 0 0) ⟨id,true,zerosI bl,zerosI bl,Hd.new,lg,⟨1,1,0,0⟩,Cp.zero,Sn.zero⟩):=by
    have o:=O7.out
    exact⟨o.oa.putBy V7.out (by decide) G8,o.ob.putBy V7.out (by decide) G8,o.ok.putBy V7.out (by decide) G8,Own.nil _ _,Own.nil _ _,o.ap⟩
   have HR8:Hid (StB w8 w.heap.size 44 zeroNd∧Below w.heap.size w w8):=⟨HR7.out.1.kept G8 (by simp;have:=HR7.out.2.2;omega),HR7.out.2.1.grown G8 HR7.out.2.1.size (fun k e=>by cases e;have:=HR7.out.2.2;omega)⟩
   go_upto_region 8 with fail
   rw[←hw8]
   clear hw8 G8 V7 O7 HR7 p8 f8
   go_wp2_with (first|(refine wpList_getS Tryd.isNd rfl _ rfl gn rfl (ndA (.slice a1 (zerosI bl).length a2) (.slice b1 (zerosI bl).length b2) (.slice k1 Hd.new.ks.length k2) (.slice none 0 0) (.slice none 0 0) ⟨id,true,zerosI bl,zerosI bl,Hd.new,lg,⟨1,1,0,0⟩,Cp.zero,Sn.zero⟩) rfl V8.out ?_)|(refine wpList_putS Tryd.isNd rfl _ _ rfl w.heap.size (ndA (.slice a1 (zerosI bl).length a2) (.slice b1 (zerosI bl).length b2) (.slice k1 Hd.new.ks.length k2) (.slice none 0 0) (.slice none 0 0) ⟨id,true,zerosI bl,zerosI bl,Hd.new,lg,⟨1,1,0,0⟩,Cp.zero,Sn.zero⟩) zeroNd rfl rfl rfl rfl (ndA_one _ rfl rfl rfl rfl rfl) HR8.out.1 ?_;intro w19 s19 g19))
   refine bodyPost_ret (results_S2 Tryd.isNd rfl _ _ w.heap.size _ (.bool true) rfl rfl rfl s19) rfl ?_
   rw[HX.out.1,HX.out.2]
   exact⟨_,_,_,_,_,rfl,(O8.out.keptLt g19 (by omega)).mono (by omega),HR8.out.2.grown g19 HR8.out.2.size (fun k e=>by cases e;omega)⟩
end Go.Proofs.YthmnmaemnihkeaaDoor
