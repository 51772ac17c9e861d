/- At every pair OwnerOf of the program answers as OwnerOf of the model, and leaves what it was given as it was: the law FnExactOwnerOf returns true, whatever it is given. -/
import Derived.Test.YtflbcjgkdokhiaaGreatDoorRows
import Derived.WalkKit
import Derived.ProofKit
import Derived.OpenShut
import Derived.ShutString
import Derived.ChangeOld
import Derived.Below
import Derived.Test.YtflbcjgkdokhiaaGreatDoorM32
import Derived.Test.YtflbcjgkdokhiaaGreatDoorM33
import Derived.Test.YtflbcjgkdokhiaaGreatDoorM34
import Derived.Test.YtflbcjgkdokhiaaGreatDoorM35
import Derived.Test.YtflbcjgkdokhiaaGreatDoorCards
import Derived.Test.YtflbcjgkdokhiaaGreatDoorTie
import Derived.SevenTiedAt
import Derived.Lay
import Derived.LaidOnce
set_option maxRecDepth 100000
set_option maxHeartbeats 20000000
namespace Go.Proofs.YtflbcjgkdokhiaaGreatDoor.fnExactOwnerOf
open Go.ChangeShapes Go.WideShapes Go.ChangeAt Go.RowKit
open Go.ChangeMaps (open_string shut_string)
set_option linter.unusedVariables false
theorem own:ownKnob Tryz.prog.godebug=none:=by kernel_rfl
theorem laidOut:laidOutB Tryz.prog=true:=by kernel_rfl
theorem walk (ns0:List Nv) (ps0:List (Value×Mg)) (es0:List Ev) (u0 v0 x0:Value) (w:World) (f0:OpPr w u0 v0 x0 ns0 ps0 es0) (hT:Tab w):
  Calls Tryz.prog 3 #[PrV u0 v0 x0] w fun e w'=>e=.returned (.bool true)∧Below w.heap.size w w':=by
 have HTab:Hid (Tab w):=hT
 clear hT
 have HR:Hid (∀wx,Below w.heap.size w wx→RdPr wx u0 v0 x0 ns0 ps0 es0):=fun wx b=>f0.rd.below b
 have CZ:Hid (∀wx,Below w.heap.size w wx→Calls Tryz.prog 4 #[.agg (prA u0 v0 x0),.int .i64 1048576] wx fun e w'=>∃y:Int,e=.returned (.int .i64 y)∧(y= -1∨(0≤y∧SmPr ns0 ps0 es0))∧Below wx.heap.size wx w'):=fun wx b=>szPair_any u0 v0 x0 ns0 ps0 es0 wx (HR.out wx b) (fun y hy=>by have:=f0.ln y hy;unfold maxLen at this;omega) (fun e he=>by have:=f0.le e he;unfold maxLen at this;omega)
 have TP:Hid (SmPr ns0 ps0 es0→∀wx,Below w.heap.size w wx→Calls Tryz.prog 6 #[.agg (prA u0 v0 x0)] wx fun e w'=>∃a b x ns ps,e=.returned (.agg (prA a b x))∧nsOf ns=nsOf ns0∧msOf ps=msOf ps0∧OwnPr w' wx.heap.size a b x ns ps es0∧Below wx.heap.size wx w'):=fun hs wx b=>toPair_any u0 v0 x0 ns0 ps0 es0 wx (HR.out wx b) hs
 obtain⟨t,ht⟩:∃t,t=ownerP (nsOf ns0) (msOf ps0) es0:=⟨_,rfl⟩
 have SP:Hid (SmPr ns0 ps0 es0→∀a b x ns ps wx,RdPr wx a b x ns ps es0→nsOf ns=nsOf ns0→msOf ps=msOf ps0→Calls Tryz.prog 5 #[.agg (prA a b x)] wx fun e w'=>e=.returned (.int .i64 t)∧Below wx.heap.size wx w'):=fun hs a b x ns ps wx h e1 e2=>by
  have h':=sOwnerOf_any a b x ns ps es0 wx h (hs.of e1 e2).sn (hs.of e1 e2).sp
  rw[e1,e2,←ht]at h'
  exact h'
 have IP:Hid (SmPr ns0 ps0 es0→∀a b x ns ps wx,Below w.heap.size w wx→RdPr wx a b x ns ps es0→nsOf ns=nsOf ns0→msOf ps=msOf ps0→Calls Tryz.prog 7 #[.agg (prA a b x)] wx fun e w'=>e=.returned (.int .i64 t)∧Below wx.heap.size wx w'):=fun hs a b x ns ps wx hb h e1 e2=>by
  have h':=iOwnerOf_any a b x ns ps es0 wx h (hs.of e1 e2).sn (hs.of e1 e2).sp (HTab.out.below hb)
  rw[e1,e2,←ht]at h'
  exact h'
 have EQ:Hid (SmPr ns0 ps0 es0→∀a b x ns ps a2 b2 x2 ns2 ps2 wx,RdPr wx a b x ns ps es0→RdPr wx a2 b2 x2 ns2 ps2 es0→nsOf ns=nsOf ns0→msOf ps=msOf ps0→nsOf ns2=nsOf ns0→msOf ps2=msOf ps0→Calls Tryz.prog 8 #[.agg (prA a b x),.agg (prA a2 b2 x2)] wx fun e w'=>e=.returned (.bool true)∧Below wx.heap.size wx w'):=fun hs a b x ns ps a2 b2 x2 ns2 ps2 wx h h2 e1 e2 e3 e4=>eqPair_any a b x a2 b2 x2 ns ns2 ps ps2 es0 wx h h2 (e1.trans e3.symm) (e2.trans e4.symm) (hs.of e1 e2)
 clear ht
 obtain⟨uo,uc,rfl⟩:=f0.rd.rn.form
 obtain⟨vo,vc,rfl⟩:=f0.rd.rp.form
 obtain⟨xo,xc,rfl⟩:=f0.rd.re.form
 obtain⟨w1,hw1⟩:∃w1,w1=w.alloc (.cells (prA (.slice uo ns0.length uc) (.slice vo ps0.length vc) (.slice xo es0.length xc)) 26):=⟨_,rfl⟩
 have HS:Hid (Sta w w1 [Blk w.heap.size 26 (prA (.slice uo ns0.length uc) (.slice vo ps0.length vc) (.slice xo es0.length xc))]):=by rw[hw1];exact(Sta.start w).box _ _
 clear f0 HR
 unfold prA at hw1
 unfold PrV
 conv in prA (.slice uo _ uc) _ _=>unfold prA
 go_enter Tryz.func3,Tryz.ntmps3
 go_upto_region 1 with fail
 rw[←hw1]
 clear hw1
 go_wp2_with (refine wpList_getS Tryz.isLPr rfl _ rfl w.heap.size rfl (prA (.slice uo ns0.length uc) (.slice vo ps0.length vc) (.slice xo es0.length xc)) rfl (HS.out.get 0 rfl) ?_)
 refine(CZ.out w1 HS.out.below).mono ?_
 rintro e w2 ⟨y,rfl,hy,b⟩
 replace HS:Hid (Sta w w2 [Blk w.heap.size 26 (prA (.slice uo ns0.length uc) (.slice vo ps0.length vc) (.slice xo es0.length xc))]):=HS.out.next b
 clear b CZ
 rcases hy with rfl|⟨hy0,hsm⟩
 ·have HB:Hid (Below w.heap.size w w2):=HS.out.below
  clear HS SP IP EQ TP
  go_wp2
  go_ret
  exact⟨rfl,HB.out⟩
 ·have HM:Hid (SmPr ns0 ps0 es0):=hsm
  clear hsm
  go_wp2_with (refine wpList_getS Tryz.isLPr rfl _ rfl w.heap.size rfl (prA (.slice uo ns0.length uc) (.slice vo ps0.length vc) (.slice xo es0.length xc)) rfl (HS.out.get 0 rfl) ?_)
  refine(TP.out HM.out w2 HS.out.below).mono ?_
  rintro e w3 ⟨a1,b1,x1,ns1,ps1,rfl,e1,m1,o,b⟩
  replace HS:Hid (Sta w w3 [PrI a1 b1 x1 ns1 ps1 es0,Blk w.heap.size 26 (prA (.slice uo ns0.length uc) (.slice vo ps0.length vc) (.slice xo es0.length xc))]):=HS.out.pr o b
  have E1:Hid (nsOf ns1=nsOf ns0∧msOf ps1=msOf ps0):=⟨e1,m1⟩
  clear o b e1 m1
  go_wp2_with fail
  refine(SP.out HM.out a1 b1 x1 ns1 ps1 w3 (HS.out.rdPr 0 rfl) E1.out.1 E1.out.2).mono ?_
  rintro e w4 ⟨rfl,b⟩
  replace HS:Hid (Sta w w4 [Blk w.heap.size 26 (prA (.slice uo ns0.length uc) (.slice vo ps0.length vc) (.slice xo es0.length xc))]):=(HS.out.next b).drop 0
  clear b E1 SP
  go_wp2_with (refine wpList_getS Tryz.isLPr rfl _ rfl w.heap.size rfl (prA (.slice uo ns0.length uc) (.slice vo ps0.length vc) (.slice xo es0.length xc)) rfl (HS.out.get 0 rfl) ?_)
  refine(TP.out HM.out w4 HS.out.below).mono ?_
  rintro e w5 ⟨a1,b1,x1,ns1,ps1,rfl,e1,m1,o,b⟩
  replace HS:Hid (Sta w w5 [PrI a1 b1 x1 ns1 ps1 es0,Blk w.heap.size 26 (prA (.slice uo ns0.length uc) (.slice vo ps0.length vc) (.slice xo es0.length xc))]):=HS.out.pr o b
  have E1:Hid (nsOf ns1=nsOf ns0∧msOf ps1=msOf ps0):=⟨e1,m1⟩
  have hone:(prA a1 b1 x1).all (·.oneCell')=true:=by
   obtain⟨_,_,q1⟩:=o.rd.rn.form
   obtain⟨_,_,q2⟩:=o.rd.rp.form
   obtain⟨_,_,q3⟩:=o.rd.re.form
   rw[q1,q2,q3]
   exact prA_one rfl rfl rfl
  clear o b e1 m1
  have q5:StB (w5.alloc (.cells zeroPr 33)) w5.heap.size 33 zeroPr:=StB.new w5 _ _
  go_upto_region 7 with(refine wpList_putS Tryz.isPr rfl _ _ rfl w5.heap.size (prA a1 b1 x1) zeroPr rfl rfl rfl rfl hone q5 ?_;intro w6 s6 g6)
  (try simp only[Act.put])
  replace HS:Hid (Sta w w6 [Blk w5.heap.size 33 (prA a1 b1 x1),PrI a1 b1 x1 ns1 ps1 es0,Blk w.heap.size 26 (prA (.slice uo ns0.length uc) (.slice vo ps0.length vc) (.slice xo es0.length xc))]):=HS.out.varS s6 g6
  clear q5 s6 g6 hone
  go_wp2_with (refine wpList_getS Tryz.isPr rfl _ rfl w5.heap.size rfl (prA a1 b1 x1) rfl (HS.out.get 0 rfl) ?_)
  refine(IP.out HM.out a1 b1 x1 ns1 ps1 w6 HS.out.below (HS.out.rdPr 1 rfl) E1.out.1 E1.out.2).mono ?_
  rintro e w7 ⟨rfl,b⟩
  replace HS:Hid (Sta w w7 [Blk w5.heap.size 33 (prA a1 b1 x1),PrI a1 b1 x1 ns1 ps1 es0,Blk w.heap.size 26 (prA (.slice uo ns0.length uc) (.slice vo ps0.length vc) (.slice xo es0.length xc))]):=HS.out.next b
  clear b IP
  have htt:(t !=t)=false:=by simp
  go_upto_region 10 with fail
  clear htt
  obtain⟨C,hCd⟩:∃C,C=fun x=>Sta w x [Blk w5.heap.size 33 (prA a1 b1 x1),PrI a1 b1 x1 ns1 ps1 es0,Blk w.heap.size 26 (prA (.slice uo ns0.length uc) (.slice vo ps0.length vc) (.slice xo es0.length xc))]:=⟨_,rfl⟩
  have HQ:Hid (∀x,C x→Sta w x [Blk w5.heap.size 33 (prA a1 b1 x1),PrI a1 b1 x1 ns1 ps1 es0,Blk w.heap.size 26 (prA (.slice uo ns0.length uc) (.slice vo ps0.length vc) (.slice xo es0.length xc))]):=by rw[hCd];exact fun _ h=>h
  have HN:Hid (∀x y,C x→Later x y→C y):=by rw[hCd];exact fun _ _ h b=>h.next b
  have H0:Hid (C w7.drew):=by rw[hCd];exact HS.out.drew1
  have hne:Nonempty (Kin C):=⟨⟨_,H0.out⟩⟩
  clear hCd
  refine wp_region_gs (C:=C) (E:=byDst fun d=>if d=24 then some (prG (nsOf ns0) (msOf ps0) es0)else if d=25 then some (truth true)else none) (R:=Later) HN.out (byDst_later (by intro d s hs u x y hx hl;split at hs;(cases hs;exact prG_later hx hl);split at hs;(cases hs;exact truthC_later hx hl);cases hs)) (byDst_looks _ _) (by kernel_rfl) (by kernel_rfl) H0.out ?_
  refine gs_loadS Tryz.isPr rfl rfl _ rfl w5.heap.size rfl (prA a1 b1 x1) rfl (fun q=>(HQ.out _ q.h).get 0 rfl) ?_
  refine gs_loadS Tryz.isLPr rfl rfl _ rfl w.heap.size rfl (prA (.slice uo ns0.length uc) (.slice vo ps0.length vc) (.slice xo es0.length xc)) rfl (fun q=>(HQ.out _ q.h).get 2 rfl) ?_
  refine gs_call (prG (nsOf ns0) (msOf ps0) es0) rfl (by first|rfl|kernel_rfl) (fun wq hB=>?_) (fun uq hu=>?_)
  ·go_simp
   refine⟨rfl,?_⟩
   exact prG_of (TP.out HM.out _ (HQ.out _ hB.1).below)
  obtain⟨a2,b2,x2,rfl⟩:=hu
  refine gs_call (truth true) rfl (by first|rfl|kernel_rfl) (fun wq hB=>?_) (fun uq hu=>?_)
  ·obtain⟨ns2,ps2,hA,e3,e4⟩:=prG_rd (hB.at0 rfl)
   go_simp
   refine⟨rfl,?_⟩
   exact truth_of (fun _ h=>h) (EQ.out HM.out _ _ _ _ _ _ _ _ _ _ _ ((HQ.out _ hB.1).rdPr 1 rfl) hA E1.out.1 E1.out.2 e3 e4)
  obtain rfl:=hu
  repeat(refine gs_plain rfl (fun K hK=>?_);go_simp;refine hK _ ?_;clear hK K)
  refine gs_end (fun w8 hz=>?_)
  have HB:Hid (Below w.heap.size w w8):=(HQ.out _ hz.1).below
  clear hz HQ HN H0 hne HS EQ TP
  go_wp2
  go_ret
  exact⟨rfl,HB.out⟩
theorem lifted (os:Os) (started:os.Started) (H:Type) (enc:TypeId×Value→H):
  ReturnsInHanded {} Tryz.checked os 3 .any (fun w args=>(Rows.fnExactOwnerOfSpec.pre enc Tryz.prog Tryz.f3 [] false w args∧laidMetH Tryz.prog Rows.fnExactOwnerOfRow.laid w)∧sizedMet enc Tryz.prog Tryz.f3 (OpenSpec.ofChange Rows.fnExactOwnerOfSpec) false w args) (Rows.fnExactOwnerOfSpec.post enc Tryz.prog Tryz.f3 false true false false):=by
 refine returnsInHanded_of_change_and (C:=Tryz.checked) (X:=fun w _=>laidMetH Tryz.prog Rows.fnExactOwnerOfRow.laid w) (fun _ _ _ hh h=>h.of_heap hh) own started (by kernel_rfl) Tryz.func3
  (ChangeSpec.witness_shaped (enc:=enc) (C:=Tryz.checked) (os:=os) (X:=fun w _=>laidMetH Tryz.prog Rows.fnExactOwnerOfRow.laid w) false (World.laidAll Tryz.prog os Rows.fnExactOwnerOfRow.laid) #[.agg #[.slice none 0 0,.slice none 0 0,.slice none 0 0]] 8 (World.laidAll_os _ _ _)
   (World.shaped_of_ZipB (by kernel_rfl) (by kernel_rfl)) (by kernel_rfl) (by kernel_rfl) (by kernel_rfl)
   (by rw[MakeChecks.laidMetH_plain _ _ _ (by kernel_rfl)];exact laidMet_laidAll _ (by kernel_rfl) (by kernel_rfl))) ?_
 intro W base args ds gs before hval0 hW hcnd _ hL _
 have hval:∀(j:Nat) t v,Tryz.f3.params[j]?=some t→args[j]?=some v→Value.okWide Tryz.prog W .any base t v:=hval0
 have hW':=hW
 obtain⟨p,q,hA0,hV,rfl,hfz,hnd⟩:=hW
 have hA:DataW.TrodAll enc Tryz.prog W 0 (fun _=>true) true Tryz.f3.params.toList args.toList ds p:=hA0
 rw[Tryz.params3]at hA hval
 obtain⟨v0,vs0,d0,ds0,p0,q0,hargs,rfl,rfl,h0,s0⟩:=trodAll_cons hA
 obtain⟨rfl,rfl,rfl⟩:=trodAll_nil s0
 obtain rfl:args=#[v0]:=by cases args;simp_all
 obtain⟨rfl,rfl⟩:=trodVars_none hV
 have k0:=h0
 have lt0:∀x∈p0,x.block<W.heap.size:=by obtain⟨m,hm⟩:=k0;exact DataW.trod_lt m _ _ _ hm
 obtain⟨ns0,ps0,es0,u0,y0,x0,rfl,f0⟩:=open_pair (hval 0 26 v0 rfl rfl) h0
 clear hA0 hval0
 refine(walk ns0 ps0 es0 u0 y0 x0 W f0 (tab_fnExactOwnerOf hL)).mono fun e W' ⟨he,bel⟩=>?_
 subst he
 exact⟨_,rfl,_,_,_,[],_,[],hW',trodAll_mk1 (shut_bool Tryz.underlying4 _),(trodAll_cons_mk (Below.trod laidOut (by kernel_rfl) (of_decide_eq_true (by kernel_rfl)) k0 bel lt0) trodAll_mk0),rfl,bel.frame _,fun h=>by cases h⟩
theorem over:Rows.fnExactOwnerOfRow.holds Tryz.pinned (OpenSpec.ofChange Rows.fnExactOwnerOfSpec):=
 OpenClaim.holds_of_wide 3 Tryz.f3 rfl rfl rfl rfl rfl rfl rfl ⟨rfl,rfl,rfl,rfl,rfl⟩ rfl rfl rfl rfl rfl (by kernel_rfl) Tryz.func3 (by kernel_rfl)
  (of_decide_eq_true (by kernel_rfl)) (by unfold Func.isWrapper;first|(rw[if_pos (by decide+kernel)];kernel_rfl)|(rw[if_neg (by decide+kernel)];exact⟨rfl,rfl⟩))
  (fun os started H enc _=>lifted os started H enc)
theorem proved:Rows.FnExactOwnerOfSaid:=over
end Go.Proofs.YtflbcjgkdokhiaaGreatDoor.fnExactOwnerOf
namespace Go.Proofs.YtflbcjgkdokhiaaGreatDoor
open Go in
theorem fnExactOwnerOf_holds:Rows.FnExactOwnerOfCardSaid:=
 Claim7.holds_tied_plain_at .later [] [.data,.data,.data,.data,.pinned] true (true,"0adc1f87f7552d4ca4ead5f09cd1ef2cf539cf32c7b33e8437f22b8f01597526") false
  fnExactOwnerOf.proved (fun _ h=>by cases h) (by kernel_rfl) (fun _ h=>by cases h) fnExactOwnerOf_row_tie rfl ⟨rfl,rfl⟩ (by kernel_rfl) rfl
  (fun f fn hf hfn=>by
   obtain rfl:f=3:=Option.some.inj ((show Tryz.prog.funcNamed Rows.fnExactOwnerOfRow.func=some 3 by kernel_rfl).symm.trans hf) |>.symm
   obtain rfl:fn=Tryz.f3:=(Option.some.inj (Tryz.func3.symm.trans hfn)).symm
   exact⟨by kernel_rfl,fun j t ht=>by
    rw[Tryz.params3]at ht
    have hm:t∈[26]:=by simpa using Array.mem_of_getElem? ht
    have hall:([26].all fun u=> !Tryz.prog.wantsStandIn u)=true:=by kernel_rfl
    exact(show Tryz.prog.wantsStandIn t=false by simpa using List.all_eq_true.1 hall t hm)⟩)
  (by kernel_rfl)
end Go.Proofs.YtflbcjgkdokhiaaGreatDoor
