/- At every number NewPair of the program answers as NewPair of the model, in memory of its own that a second call leaves alone: the law FnExactNewPair returns true, whatever it is given. -/
import Derived.Test.YthmnmaemnihkeaaDoorRows
import Derived.WalkKit
import Derived.ProofKit
import Derived.OpenShut
import Derived.ShutString
import Derived.ChangeOld
import Derived.Below
import Derived.Test.YthmnmaemnihkeaaDoorM27
import Derived.Test.YthmnmaemnihkeaaDoorM28
import Derived.Test.YthmnmaemnihkeaaDoorM33
import Derived.Test.YthmnmaemnihkeaaDoorM34
import Derived.Test.YthmnmaemnihkeaaDoorCards
import Derived.Test.YthmnmaemnihkeaaDoorTie
import Derived.SevenTiedAt
import Derived.Lay
import Derived.LaidOnce
set_option maxRecDepth 100000
set_option maxHeartbeats 20000000
namespace Go.Proofs.YthmnmaemnihkeaaDoor.fnExactNewPair
open Go.ChangeShapes Go.WideShapes Go.ChangeAt Go.RowKit
open Go.ChangeMaps (open_string shut_string)
set_option linter.unusedVariables false
theorem own:ownKnob Tryd.prog.godebug=none:=by kernel_rfl
theorem laidOut:laidOutB Tryd.prog=true:=by kernel_rfl
theorem walk (a0:Int) (w:World) (w0:(Lit.int .i64 a0).wf=true) (hT:Tab w):
  Calls Tryd.prog 3 #[.int .i64 a0] w fun e w'=>e=.returned (.bool true)∧Below w.heap.size w w':=by
 have HTab:Hid (Tab w):=hT
 clear hT
 obtain⟨t,ht⟩:∃t,t=Nd.made 0 a0:=⟨_,rfl⟩
 have SP:Hid (∀wx,Calls Tryd.prog 4 #[.int .i64 a0] wx fun e w'=>∃u v x ns ps,e=.returned (.tuple #[.agg (prA u v x),.bool t])∧nsOf ns=newNs a0∧msOf ps=[]∧OwnPr w' wx.heap.size u v x ns ps []∧Below wx.heap.size wx w'):=fun wx=>by rw[ht];exact sNewPair_any a0 wx
 have IP:Hid (∀wx,Below w.heap.size w wx→Calls Tryd.prog 5 #[.int .i64 a0] wx fun e w'=>∃u v x ns ps,e=.returned (.tuple #[.agg (prA u v x),.bool t])∧nsOf ns=newNs a0∧msOf ps=[]∧OwnPr w' wx.heap.size u v x ns ps []∧Below wx.heap.size wx w'):=fun wx b=>by rw[ht];exact iNewPair_any a0 wx (HTab.out.below b)
 have EQ:Hid (∀a b x ns a2 b2 x2 ns2 wx,RdPr wx a b x ns [] []→RdPr wx a2 b2 x2 ns2 [] []→nsOf ns=newNs a0→nsOf ns2=newNs a0→Calls Tryd.prog 6 #[.agg (prA a b x),.agg (prA a2 b2 x2)] wx fun e w'=>e=.returned (.bool true)∧Below wx.heap.size wx w'):=fun a b x ns a2 b2 x2 ns2 wx h h2 e1 e2=>eqPair_any a b x a2 b2 x2 ns ns2 [] [] [] wx h h2 (e1.trans e2.symm) rfl (newNs_sm e1)
 have MK:Hid (∀a b x ns wx,OwnPr wx 0 a b x ns [] []→nsOf ns=newNs a0→Calls Tryd.prog 7 #[.agg (prA a b x),.int .i64 1] wx fun e w'=>e=.returned (.int .i64 (inkNE 1 ns))∧OwnPr w' 0 a b x (inkNL 1 ns) [] []∧Turned wx w' (nvB a ns++(psB b []++blk x))):=fun a b x ns wx h e1=>by
  have hm:=markPair_any a b x ns [] [] wx 0 h (BdPr.of (newNs_sm e1))
  rwa[inkPE0]at hm
 have HP:Hid (∀a b x ns wx,RdPr wx a b x (inkNL 1 ns) [] []→nsOf ns=newNs a0→Calls Tryd.prog 8 #[.agg (prA a b x),.int .i64 1] wx fun e w'=>e=.returned (.int .i64 (inkNE 1 ns))∧Below wx.heap.size wx w'):=fun a b x ns wx h e1=>heldPair0_any a b x ns wx h (newNs_sm e1)
 clear ht
 have HS:Hid (Sta w w []):=Sta.start w
 go_enter Tryd.func3,Tryd.ntmps3
 go_upto_region 1 with fail
 go_wp2_with fail
 refine(SP.out w).mono ?_
 rintro e w1 ⟨aW,bW,xW,nsW,psW,rfl,eW,mW,o,b⟩
 obtain rfl:psW=[]:=List.map_eq_nil_iff.1 mW
 clear mW
 replace HS:Hid (Sta w w1 [PrI aW bW xW nsW [] []]):=HS.out.pr o b
 have EW:Hid (nsOf nsW=newNs a0):=eW
 have OW:(prA aW bW xW).all (·.oneCell')=true:=by
  obtain⟨_,_,q1⟩:=o.rd.rn.form
  obtain⟨_,_,q2⟩:=o.rd.rp.form
  obtain⟨_,_,q3⟩:=o.rd.re.form
  rw[q1,q2,q3]
  exact prA_one rfl rfl rfl
 clear o b eW
 have q5:StB (w1.alloc (.cells zeroPr 26)) w1.heap.size 26 zeroPr:=StB.new w1 _ _
 go_upto_region 2 with(refine wpList_putS Tryd.isPr rfl _ _ rfl w1.heap.size (prA aW bW xW) zeroPr rfl rfl rfl rfl OW q5 ?_;intro w2 s6 g6)
 (try simp only[Act.put])
 replace HS:Hid (Sta w w2 [Blk w1.heap.size 26 (prA aW bW xW),PrI aW bW xW nsW [] []]):=HS.out.varS s6 g6
 clear q5 s6 g6 OW
 go_wp2_with fail
 refine(IP.out w2 HS.out.below).mono ?_
 rintro e w3 ⟨aG,bG,xG,nsG,psG,rfl,eG,mG,o,b⟩
 obtain rfl:psG=[]:=List.map_eq_nil_iff.1 mG
 clear mG
 replace HS:Hid (Sta w w3 [PrI aG bG xG nsG [] [],Blk w1.heap.size 26 (prA aW bW xW),PrI aW bW xW nsW [] []]):=HS.out.pr o b
 have EG:Hid (nsOf nsG=newNs a0):=eG
 have OG:(prA aG bG xG).all (·.oneCell')=true:=by
  obtain⟨_,_,q1⟩:=o.rd.rn.form
  obtain⟨_,_,q2⟩:=o.rd.rp.form
  obtain⟨_,_,q3⟩:=o.rd.re.form
  rw[q1,q2,q3]
  exact prA_one rfl rfl rfl
 clear o b eG
 have q5:StB (w3.alloc (.cells zeroPr 26)) w3.heap.size 26 zeroPr:=StB.new w3 _ _
 go_upto_region 3 with(refine wpList_putS Tryd.isPr rfl _ _ rfl w3.heap.size (prA aG bG xG) zeroPr rfl rfl rfl rfl OG q5 ?_;intro w4 s6 g6)
 (try simp only[Act.put])
 replace HS:Hid (Sta w w4 [Blk w3.heap.size 26 (prA aG bG xG),PrI aG bG xG nsG [] [],Blk w1.heap.size 26 (prA aW bW xW),PrI aW bW xW nsW [] []]):=HS.out.varS s6 g6
 clear q5 s6 g6 OG
 have htt:(t !=t)=false:=by simp
 go_wp2_with (first|(refine wpList_getS Tryd.isPr rfl _ rfl (w3.heap.size) rfl (prA aG bG xG) rfl (HS.out.get 0 rfl) ?_)|(refine wpList_getS Tryd.isPr rfl _ rfl (w1.heap.size) rfl (prA aW bW xW) rfl (HS.out.get 2 rfl) ?_))
 refine(EQ.out aG bG xG nsG aW bW xW nsW w4 (HS.out.rdPr 1 rfl) (HS.out.rdPr 3 rfl) EG.out EW.out).mono ?_
 rintro e w5 ⟨rfl,b⟩
 replace HS:Hid (Sta w w5 [Blk w3.heap.size 26 (prA aG bG xG),PrI aG bG xG nsG [] [],Blk w1.heap.size 26 (prA aW bW xW),PrI aW bW xW nsW [] []]):=HS.out.next b
 clear b
 go_wp2_with (refine wpList_getS Tryd.isPr rfl _ rfl (w3.heap.size) rfl (prA aG bG xG) rfl (HS.out.get 0 rfl) ?_)
 refine(MK.out aG bG xG nsG w5 (HS.out.get 1 rfl) EG.out).mono ?_
 rintro e w6 ⟨rfl,o5,t5⟩
 replace HS:Hid (Sta w w6 [Blk w3.heap.size 26 (prA aG bG xG),PrI aG bG xG (inkNL 1 nsG) [] [],Blk w1.heap.size 26 (prA aW bW xW),PrI aW bW xW nsW [] []]):=HS.out.markPr (a:=1) (b:=1) (c:=1) 1 rfl o5 t5
 clear o5 t5 MK
 obtain⟨mk,hmk⟩:∃k,k=inkNE 1 nsG:=⟨_,rfl⟩
 have HMk:Hid (mk=inkNE 1 nsG):=hmk
 have hk0:0≤mk:=by rw[hmk];unfold inkNE;omega
 rw[←hmk]
 clear hmk
 go_wp2_with (refine wpList_getS Tryd.isPr rfl _ rfl (w3.heap.size) rfl (prA aG bG xG) rfl (HS.out.get 0 rfl) ?_)
 refine(HP.out aG bG xG nsG w6 (HS.out.rdPr 1 rfl) EG.out).mono ?_
 rintro e w7 ⟨rfl,b⟩
 replace HS:Hid (Sta w w7 [Blk w3.heap.size 26 (prA aG bG xG),PrI aG bG xG (inkNL 1 nsG) [] [],Blk w1.heap.size 26 (prA aW bW xW),PrI aW bW xW nsW [] []]):=HS.out.next b
 clear b
 rw[←HMk.out]
 go_wp2_with fail
 refine(IP.out w7 HS.out.below).mono ?_
 rintro e w8 ⟨aH,bH,xH,nsH,psH,rfl,eH,mH,o,b⟩
 obtain rfl:psH=[]:=List.map_eq_nil_iff.1 mH
 clear mH
 replace HS:Hid (Sta w w8 [PrI aH bH xH nsH [] [],Blk w3.heap.size 26 (prA aG bG xG),PrI aG bG xG (inkNL 1 nsG) [] [],Blk w1.heap.size 26 (prA aW bW xW),PrI aW bW xW nsW [] []]):=HS.out.pr o b
 have EH:Hid (nsOf nsH=newNs a0):=eH
 have OH:(prA aH bH xH).all (·.oneCell')=true:=by
  obtain⟨_,_,q1⟩:=o.rd.rn.form
  obtain⟨_,_,q2⟩:=o.rd.rp.form
  obtain⟨_,_,q3⟩:=o.rd.re.form
  rw[q1,q2,q3]
  exact prA_one rfl rfl rfl
 clear o b eH
 have q5:StB (w8.alloc (.cells zeroPr 26)) w8.heap.size 26 zeroPr:=StB.new w8 _ _
 go_upto_region 14 with(refine wpList_putS Tryd.isPr rfl _ _ rfl w8.heap.size (prA aH bH xH) zeroPr rfl rfl rfl rfl OH q5 ?_;intro w9 s6 g6)
 (try simp only[Act.put])
 replace HS:Hid (Sta w w9 [Blk w8.heap.size 26 (prA aH bH xH),PrI aH bH xH nsH [] [],Blk w3.heap.size 26 (prA aG bG xG),PrI aG bG xG (inkNL 1 nsG) [] [],Blk w1.heap.size 26 (prA aW bW xW),PrI aW bW xW nsW [] []]):=HS.out.varS s6 g6
 clear q5 s6 g6 OH
 go_wp2_with (first|(refine wpList_getS Tryd.isPr rfl _ rfl (w8.heap.size) rfl (prA aH bH xH) rfl (HS.out.get 0 rfl) ?_)|(refine wpList_getS Tryd.isPr rfl _ rfl (w1.heap.size) rfl (prA aW bW xW) rfl (HS.out.get 4 rfl) ?_))
 refine(EQ.out aH bH xH nsH aW bW xW nsW w9 (HS.out.rdPr 1 rfl) (HS.out.rdPr 5 rfl) EH.out EW.out).mono ?_
 rintro e w10 ⟨rfl,b⟩
 replace HS:Hid (Sta w w10 [Blk w8.heap.size 26 (prA aH bH xH),PrI aH bH xH nsH [] [],Blk w3.heap.size 26 (prA aG bG xG),PrI aG bG xG (inkNL 1 nsG) [] [],Blk w1.heap.size 26 (prA aW bW xW),PrI aW bW xW nsW [] []]):=HS.out.next b
 clear b
 go_wp2_with (refine wpList_getS Tryd.isPr rfl _ rfl (w3.heap.size) rfl (prA aG bG xG) rfl (HS.out.get 2 rfl) ?_)
 refine(HP.out aG bG xG nsG w10 (HS.out.rdPr 3 rfl) EG.out).mono ?_
 rintro e w11 ⟨rfl,b⟩
 replace HS:Hid (Sta w w11 [Blk w8.heap.size 26 (prA aH bH xH),PrI aH bH xH nsH [] [],Blk w3.heap.size 26 (prA aG bG xG),PrI aG bG xG (inkNL 1 nsG) [] [],Blk w1.heap.size 26 (prA aW bW xW),PrI aW bW xW nsW [] []]):=HS.out.next b
 clear b
 rw[←HMk.out]
 have HB:Hid (Below w.heap.size w _):=HS.out.below
 clear HS IP SP EQ HP
 go_wp2_with fail
 go_ret
 exact⟨rfl,HB.out⟩
theorem lifted (os:Os) (started:os.Started) (H:Type) (enc:TypeId×Value→H):
  ReturnsInHanded {} Tryd.checked os 3 .any (fun w args=>(Rows.fnExactNewPairSpec.pre enc Tryd.prog Tryd.f3 [] false w args∧laidMetH Tryd.prog Rows.fnExactNewPairRow.laid w)∧sizedMet enc Tryd.prog Tryd.f3 (OpenSpec.ofChange Rows.fnExactNewPairSpec) false w args) (Rows.fnExactNewPairSpec.post enc Tryd.prog Tryd.f3 false true false false):=by
 refine returnsInHanded_of_change_and (C:=Tryd.checked) (X:=fun w _=>laidMetH Tryd.prog Rows.fnExactNewPairRow.laid w) (fun _ _ _ hh h=>h.of_heap hh) own started (by kernel_rfl) Tryd.func3
  (ChangeSpec.witness_shaped (enc:=enc) (C:=Tryd.checked) (os:=os) (X:=fun w _=>laidMetH Tryd.prog Rows.fnExactNewPairRow.laid w) false (World.laidAll Tryd.prog os Rows.fnExactNewPairRow.laid) #[.int .i64 0] 8 (World.laidAll_os _ _ _)
   (World.shaped_of_ZipB (by kernel_rfl) (by kernel_rfl)) (by kernel_rfl) (by kernel_rfl) (by kernel_rfl)
   (by rw[MakeChecks.laidMetH_plain _ _ _ (by kernel_rfl)];exact laidMet_laidAll _ (by kernel_rfl) (by kernel_rfl))) ?_
 intro W base args ds gs before hval0 hW hcnd _ hL _
 have hval:∀(j:Nat) t v,Tryd.f3.params[j]?=some t→args[j]?=some v→Value.okWide Tryd.prog W .any base t v:=hval0
 have hW':=hW
 obtain⟨p,q,hA0,hV,rfl,hfz,hnd⟩:=hW
 have hA:DataW.TrodAll enc Tryd.prog W 0 (fun _=>true) true Tryd.f3.params.toList args.toList ds p:=hA0
 rw[Tryd.params3]at hA hval
 obtain⟨v0,vs0,d0,ds0,p0,q0,hargs,rfl,rfl,h0,s0⟩:=trodAll_cons hA
 obtain⟨rfl,rfl,rfl⟩:=trodAll_nil s0
 obtain rfl:args=#[v0]:=by cases args;simp_all
 obtain⟨rfl,rfl⟩:=trodVars_none hV
 obtain⟨a0,rfl,rfl,rfl,w0⟩:=open_int Tryd.underlying2 (hval 0 2 v0 rfl rfl) h0
 clear hA0 hval0
 refine(walk a0 W w0 (tab_fnExactNewPair hL)).mono fun e W' ⟨he,bel⟩=>?_
 subst he
 exact⟨_,rfl,_,_,_,[],_,[],hW',trodAll_mk1 (shut_bool Tryd.underlying4 _),(trodAll_cons_mk (shut_int Tryd.underlying2 w0) trodAll_mk0),rfl,bel.frame _,fun h=>by cases h⟩
theorem over:Rows.fnExactNewPairRow.holds Tryd.pinned (OpenSpec.ofChange Rows.fnExactNewPairSpec):=
 OpenClaim.holds_of_wide 3 Tryd.f3 rfl rfl rfl rfl rfl rfl rfl ⟨rfl,rfl,rfl,rfl,rfl⟩ rfl rfl rfl rfl rfl (by kernel_rfl) Tryd.func3 (by kernel_rfl)
  (of_decide_eq_true (by kernel_rfl)) (by unfold Func.isWrapper;first|(rw[if_pos (by decide+kernel)];kernel_rfl)|(rw[if_neg (by decide+kernel)];exact⟨rfl,rfl⟩))
  (fun os started H enc _=>lifted os started H enc)
theorem proved:Rows.FnExactNewPairSaid:=over
end Go.Proofs.YthmnmaemnihkeaaDoor.fnExactNewPair
namespace Go.Proofs.YthmnmaemnihkeaaDoor
open Go in
theorem fnExactNewPair_holds:Rows.FnExactNewPairCardSaid:=
 Claim7.holds_tied_plain_at .later [] [.data,.data,.data] true (true,"4dec111caa72c0ab1a1fd4e15707b3a939e4db856b54de5a4ca3ab79ac653f08") false
  fnExactNewPair.proved (fun _ h=>by cases h) (by kernel_rfl) (fun _ h=>by cases h) fnExactNewPair_row_tie rfl ⟨rfl,rfl⟩ (by kernel_rfl) rfl
  (fun f fn hf hfn=>by
   obtain rfl:f=3:=Option.some.inj ((show Tryd.prog.funcNamed Rows.fnExactNewPairRow.func=some 3 by kernel_rfl).symm.trans hf) |>.symm
   obtain rfl:fn=Tryd.f3:=(Option.some.inj (Tryd.func3.symm.trans hfn)).symm
   exact⟨by kernel_rfl,fun j t ht=>by
    rw[Tryd.params3]at ht
    have hm:t∈[2]:=by simpa using Array.mem_of_getElem? ht
    have hall:([2].all fun u=> !Tryd.prog.wantsStandIn u)=true:=by kernel_rfl
    exact(show Tryd.prog.wantsStandIn t=false by simpa using List.all_eq_true.1 hall t hm)⟩)
  (by kernel_rfl)
end Go.Proofs.YthmnmaemnihkeaaDoor
