/- The state of a long walk under one name: nothing that was there has turned, and these things lie in memory of the call's own, each in blocks of its own. -/
import Derived.Test.YtflbcjgkdokhiaaGreatDoorM2
import Derived.Laws.Tables
import Derived.Laws.ResultCell
import Derived.Test.YtflbcjgkdokhiaaGreatDoorM10
import Derived.Test.YtflbcjgkdokhiaaGreatDoorM6
import Derived.Test.YtflbcjgkdokhiaaGreatDoorM11
import Derived.Test.YtflbcjgkdokhiaaGreatDoorM5
import Derived.BigRegion
import Derived.Deep.RegionHeld3
import Derived.Deep.DeepCutAuto
namespace Go.Proofs.YtflbcjgkdokhiaaGreatDoor
open Go.ChangeShapes Go.WideShapes Go.ChangeAt Go.RowKit
structure Item where
 blocks:List Nat
 old:Nat
 holds:World→Prop
 frame:∀w w':World,(∀b∈blocks,w'.heap[b]?=w.heap[b]?)→Below old w w'→holds w→holds w'
structure Turned (w w':World) (bs:List Nat):Prop where
 os:w'.os=w.os
 tape:w'.tape=w.tape
 output:w'.output=w.output
 size:w.heap.size≤w'.heap.size
 block:∀k,k<w.heap.size→k∉bs→w'.heap[k]?=w.heap[k]?
theorem Turned.of_grown {w w':World} {row:Option Nat} (h:w.grownBy w' row):Turned w w' row.toList:=
 ⟨h.os,h.tape,h.output,h.size,fun k hk hn=>h.block k hk (fun e=>hn (by rw[←e];simp))⟩
theorem Turned.trans {w w' w'':World} {bs cs:List Nat} (h:Turned w w' bs) (h':Turned w' w'' cs):Turned w w'' (bs++cs):=
 ⟨h'.os.trans h.os,h'.tape.trans h.tape,h'.output.trans h.output,Nat.le_trans h.size h'.size,fun k hk hn=>by
  simp at hn
  exact(h'.block k (Nat.lt_of_lt_of_le hk h.size) hn.2).trans (h.block k hk hn.1)⟩
theorem Turned.of_below {w w':World} (h:Below w.heap.size w w'):Turned w w' []:=
 ⟨h.os,h.tape,h.output,h.size,fun k hk _=>h.block k hk⟩
def Apart:List Item→Prop
 |[]=>True
 |i::l=>(∀j∈l,∀b∈i.blocks,b∉j.blocks)∧Apart l
structure Sta (w wx:World) (L:List Item):Prop where
 below:Below w.heap.size w wx
 olds:∀i∈L,i.old≤w.heap.size
 holds:∀i∈L,i.holds wx
 bound:∀i∈L,∀b∈i.blocks,w.heap.size≤b∧b<wx.heap.size
 apart:Apart L
theorem Sta.start (w:World):Sta w w []:=⟨Below.refl _ _,by simp,by simp,by simp,trivial⟩
theorem Sta.next {w wx wy:World} {L:List Item} (h:Sta w wx L) (b:Below wx.heap.size wx wy):Sta w wy L:=
 ⟨h.below.trans (b.mono h.below.size),h.olds,fun i hi=>i.frame wx wy (fun k hk=>b.block k (h.bound i hi k hk).2) (b.mono (Nat.le_trans (h.olds i hi) h.below.size)) (h.holds i hi),fun i hi k hk=>⟨(h.bound i hi k hk).1,Nat.lt_of_lt_of_le (h.bound i hi k hk).2 b.size⟩,h.apart⟩
theorem Sta.drew {w wx wy:World} {L:List Item} {n:Nat} (h:Sta w wx L) (e:wy=wx.drewN n):Sta w wy L:=by
 subst e
 exact⟨below_drewN h.below n,h.olds,fun i hi=>i.frame wx _ (fun _ _=>rfl) (below_drewN (Below.refl _ _) n) (h.holds i hi),h.bound,h.apart⟩
theorem Sta.drew1 {w wx:World} {L:List Item} (h:Sta w wx L):Sta w wx.drew L:=h.drew (n:=1) rfl
theorem Sta.add {w wx wy:World} {L:List Item} (h:Sta w wx L) (b:Below wx.heap.size wx wy) (i:Item) (hi:i.holds wy) (hb:∀k∈i.blocks,wx.heap.size≤k∧k<wy.heap.size) (ho:i.old≤w.heap.size:=by exact Nat.zero_le _):Sta w wy (i::L):=by
 have h':=h.next b
 refine⟨h'.below,?_,?_,?_,?_,h'.apart⟩
 ·intro j hj
  rcases List.mem_cons.1 hj with rfl|hj
  ·exact ho
  ·exact h'.olds j hj
 ·intro j hj
  rcases List.mem_cons.1 hj with rfl|hj
  ·exact hi
  ·exact h'.holds j hj
 ·intro j hj k hk
  rcases List.mem_cons.1 hj with rfl|hj
  ·exact⟨Nat.le_trans h.below.size (hb k hk).1,(hb k hk).2⟩
  ·exact h'.bound j hj k hk
 ·intro j hj k hk hk'
  have:=(hb k hk).1
  have:=(h.bound j hj k hk').2
  omega
theorem Sta.get {w wx:World} {L:List Item} (h:Sta w wx L) (n:Nat) {i:Item} (e:L[n]?=some i):i.holds wx:=h.holds i (List.mem_of_getElem? e)
theorem Sta.lt {w wx:World} {L:List Item} (h:Sta w wx L) (n:Nat) {i:Item} (e:L[n]?=some i):∀b∈i.blocks,w.heap.size≤b∧b<wx.heap.size:=h.bound i (List.mem_of_getElem? e)
theorem Apart.set {L:List Item} {n:Nat} {i j:Item} (h:Apart L) (e:L[n]?=some i) (hb:j.blocks=i.blocks):Apart (L.set n j):=by
 induction L generalizing n with
 |nil=>simp at e
 |cons a l ih=>
  cases n with
  |zero=>
   simp at e
   subst e
   refine⟨?_,h.2⟩
   rw[hb]
   exact h.1
  |succ n=>
   simp at e
   refine⟨?_,ih h.2 e⟩
   intro x hx b hba
   rcases List.mem_or_eq_of_mem_set hx with hx|rfl
   ·exact h.1 x hx b hba
   ·rw[hb]
    exact h.1 i (List.mem_of_getElem? e) b hba
theorem Apart.ne {L:List Item} {n m:Nat} {i j:Item} (h:Apart L) (e:L[n]?=some i) (e':L[m]?=some j) (hne:n≠m):∀b∈i.blocks,b∉j.blocks:=by
 induction L generalizing n m with
 |nil=>simp at e
 |cons a l ih=>
  cases n with
  |zero=>
   cases m with
   |zero=>exact absurd rfl hne
   |succ m=>
    simp at e e'
    subst e
    exact h.1 j (List.mem_of_getElem? e')
  |succ n=>
   cases m with
   |zero=>
    simp at e e'
    subst e'
    intro b hb hb'
    exact h.1 i (List.mem_of_getElem? e) b hb' hb
   |succ m=>
    simp at e e'
    exact ih h.2 e e' (by omega)
theorem Sta.turn {w wx wy:World} {L:List Item} (h:Sta w wx L) (n:Nat) {i:Item} (e:L[n]?=some i) (t:Turned wx wy i.blocks) (j:Item) (hb:j.blocks=i.blocks) (hj:j.holds wy) (ho:j.old≤w.heap.size:=by exact Nat.zero_le _):Sta w wy (L.set n j):=by
 have hold:Below w.heap.size wx wy:=⟨t.os,t.tape,t.output,t.size,fun k hk=>t.block k (Nat.lt_of_lt_of_le hk h.below.size) (fun hc=>by have:=(h.lt n e k hc).1;omega)⟩
 refine⟨h.below.trans hold,?_,?_,?_,h.apart.set e hb⟩
 ·intro x hx
  rcases List.mem_or_eq_of_mem_set hx with hx|rfl
  ·exact h.olds x hx
  ·exact ho
 ·intro x hx
  obtain⟨m,hm,rfl⟩:=List.mem_iff_getElem.1 hx
  rw[List.getElem_set]
  split
  ·exact hj
  ·rename_i hne
   have hm':m<L.length:=by simpa using hm
   have hx':L[m]?=some L[m]:=List.getElem?_eq_getElem hm'
   refine L[m].frame wx wy (fun k hk=>t.block k (h.lt m hx' k hk).2 (fun hc=>?_)) (hold.mono (h.olds _ (List.mem_of_getElem? hx'))) (h.get m hx')
   exact h.apart.ne hx' e (fun e2=>hne e2.symm) k hk hc
 ·intro x hx k hk
  rcases List.mem_or_eq_of_mem_set hx with hx|rfl
  ·exact⟨(h.bound x hx k hk).1,Nat.lt_of_lt_of_le (h.bound x hx k hk).2 t.size⟩
  ·rw[hb]at hk
   exact⟨(h.lt n e k hk).1,Nat.lt_of_lt_of_le (h.lt n e k hk).2 t.size⟩
theorem Sta.tail {w wx:World} {i:Item} {L:List Item} (h:Sta w wx (i::L)):Sta w wx L:=
 ⟨h.below,fun j hj=>h.olds j (List.mem_cons_of_mem _ hj),fun j hj=>h.holds j (List.mem_cons_of_mem _ hj),fun j hj=>h.bound j (List.mem_cons_of_mem _ hj),h.apart.2⟩
theorem Apart.iff {L:List Item}:Apart L↔L.Pairwise (fun i j=>∀b∈i.blocks,b∉j.blocks):=by
 induction L with
 |nil=>simp[Apart]
 |cons a l ih=>rw[List.pairwise_cons,←ih];exact Iff.rfl
theorem Sta.perm {w wx:World} {L M:List Item} (h:Sta w wx L) (p:L.Perm M):Sta w wx M:=
 ⟨h.below,fun i hi=>h.olds i (p.mem_iff.2 hi),fun i hi=>h.holds i (p.mem_iff.2 hi),fun i hi=>h.bound i (p.mem_iff.2 hi),
  Apart.iff.2 ((p.pairwise_iff (fun hxy b hb hb'=>hxy b hb' hb)).1 (Apart.iff.1 h.apart))⟩
theorem Sta.sub {w wx:World} {L M:List Item} (h:Sta w wx L) (p:M.Sublist L):Sta w wx M:=
 ⟨h.below,fun i hi=>h.olds i (p.mem hi),fun i hi=>h.holds i (p.mem hi),fun i hi=>h.bound i (p.mem hi),Apart.iff.2 ((Apart.iff.1 h.apart).sublist p)⟩
theorem erase_perm (L:List Item):∀(n:Nat) (i:Item),L[n]?=some i→(i::L.eraseIdx n).Perm L:=by
 induction L with
 |nil=>intro n i e;simp at e
 |cons a l ih=>
  intro n i e
  cases n with
  |zero=>simp at e;subst e;exact List.Perm.refl _
  |succ n=>
   simp at e
   exact(List.Perm.swap a i _).trans ((ih n i e).cons a)
theorem Sta.front {w wx:World} {L:List Item} (h:Sta w wx L) (n:Nat) {i:Item} (e:L[n]?=some i):Sta w wx (i::L.eraseIdx n):=
 h.perm (erase_perm L n i e).symm
theorem Sta.drop {w wx:World} {L:List Item} (h:Sta w wx L) (n:Nat):Sta w wx (L.eraseIdx n):=h.sub (List.eraseIdx_sublist ..)
theorem Sta.join {w wx:World} {L:List Item} {i j:Item} (h:Sta w wx (i::j::L)) (k:Item) (hb:k.blocks=i.blocks++j.blocks) (hk:k.holds wx) (ho:k.old≤w.heap.size:=by exact Nat.zero_le _):Sta w wx (k::L):=by
 refine⟨h.below,?_,?_,?_,?_,h.apart.2.2⟩
 ·intro x hx
  rcases List.mem_cons.1 hx with rfl|hx
  ·exact ho
  ·exact h.olds x (by simp[hx])
 ·intro x hx
  rcases List.mem_cons.1 hx with rfl|hx
  ·exact hk
  ·exact h.holds x (by simp[hx])
 ·intro x hx b hbb
  rcases List.mem_cons.1 hx with rfl|hx
  ·rw[hb,List.mem_append]at hbb
   rcases hbb with hbb|hbb
   ·exact h.bound i (by simp) b hbb
   ·exact h.bound j (by simp) b hbb
  ·exact h.bound x (by simp[hx]) b hbb
 ·intro x hx b hbb
  rw[hb,List.mem_append]at hbb
  rcases hbb with hbb|hbb
  ·exact h.apart.1 x (by simp[hx]) b hbb
  ·exact h.apart.2.1 x hx b hbb
def Blk (g:Nat) (t:TypeId) (cs:Array Value):Item:=⟨[g],0,fun w=>w.heap[g]?=some (.cells cs t (0,0)),fun w w' e _ h=>(e g (by simp)).trans h⟩
theorem Sta.box {w wx:World} {L:List Item} (h:Sta w wx L) (t:TypeId) (cs:Array Value):Sta w (wx.alloc (.cells cs t)) (Blk wx.heap.size t cs::L):=
 h.add ((Below.refl _ _).alloc (Nat.le_refl _) _) (Blk _ _ _) (heap_alloc_new wx _) (by simp[Blk])
theorem Blk.cell {w:World} {g:Nat} {t:TypeId} {cs:Array Value} (h:(Blk g t cs).holds w) (j:Nat) {x:Value} (e:cs[j]?=some x):w.cell? ⟨g,j,none⟩=some x:=by
 rw[cell_of_row w g j _ _ _ h,e]
theorem Own.frame {w w':World} {base:Nat} {v:Value} {xs:List Int} (h:Own w base v xs) (e:∀b∈v.ownBlock.toList,w'.heap[b]?=w.heap[b]?):Own w' base v xs:=by
 refine⟨h.1,?_⟩
 rcases h.2 with h'|⟨g,cap,cur,rfl,hb,hg,r⟩
 ·exact .inl h'
 ·exact .inr ⟨g,cap,cur,rfl,hb,(e g (by simp[Value.ownBlock])).trans hg,r⟩
def Lst (v:Value) (xs:List Int):Item:=⟨v.ownBlock.toList,0,fun w=>Own w 0 v xs,fun _ _ e _ h=>Own.frame h e⟩
theorem Sta.list {w wx wy:World} {L:List Item} {v:Value} {xs:List Int} (h:Sta w wx L) (o:Own wy wx.heap.size v xs) (b:Below wx.heap.size wx wy):Sta w wy (Lst v xs::L):=
 h.add b (Lst v xs) (o.mono (Nat.zero_le _)) (fun k hk=>o.lt k (by simpa[Lst]using hk))
end Go.Proofs.YtflbcjgkdokhiaaGreatDoor
set_option maxRecDepth 20000
set_option maxHeartbeats 2000000
namespace Go.Proofs.YtflbcjgkdokhiaaGreatDoor
open Go.ChangeShapes Go.WideShapes Go.ChangeAt Go.RowKit
def cpA (v:Value) (c:Cp):Array Value:=#[.int .i64 c.tr,.bool c.op,.int .i64 c.di,.int .i64 c.wa,v]
def CpV (v:Value) (c:Cp):Value:=.agg (cpA v c)
def zeroCp:Array Value:=#[.int .i64 0,.bool false,.int .i64 0,.int .i64 0,.slice none 0 0]
theorem Tryz.isCp:IsS 52 5:=⟨⟨_,Tryz.underlying52⟩,by kernel_rfl⟩
theorem cpA_one {v:Value} (c:Cp) (hv:v.oneCell'=true):(cpA v c).all (·.oneCell')=true:=by
 unfold cpA
 simp[hv,show∀k n,(Value.int k n).oneCell'=true from fun _ _=>rfl,show∀b,(Value.bool b).oneCell'=true from fun _=>rfl]
theorem sturns_any (v:Value) (ts:List Int) (w:World) (hr:Reads w v ts) (hl:ts.length≤1099511627776):
  Calls Tryz.prog 75 #[v] w fun e w'=>e=.returned (.bool (turnsI ts&&inI ts.length 1 8))∧w'=w:=by
 have HE:Hid (∀b:Bool,turnsI ts=b→(turnsI ts&&inI ts.length 1 8)=(b&&inI ts.length 1 8)):=fun b h=>by rw[h]
 obtain⟨ao,cap,rfl⟩:=reads_form hr
 obtain⟨-,hc1,hc2,hcell⟩:=reads_cells hr
 have ck:=fun x wx=>sin6_any x 0 1000000000 wx
 have cl:=fun wx=>sin6_any (ts.length:Int) 1 8 wx
 obtain⟨x,hx⟩:∃x,x=(turnsI ts&&inI ts.length 1 8):=⟨_,rfl⟩
 simp only[←hx]at HE⊢
 obtain⟨y,hy⟩:∃y,y=inI ts.length 1 8:=⟨_,rfl⟩
 simp only[←hy]at HE cl
 obtain⟨n,hn⟩:∃n,n=ts.length:=⟨_,rfl⟩
 rw[←hn]at hl hc1 hcell
 simp only[←hn]at cl⊢
 have HN:Hid (n=ts.length):=hn
 unfold maxLen at hc2
 clear hr hn hx hy
 go_enter Tryz.func75,Tryz.ntmps75
 go_wp2
 go_loop [3] (fun i=>∃j:Nat,j≤n∧i=.int .i64 j∧Hid (turnsI (ts.take j)=true)) (fun i=>n-(intOf i).toNat)
 case atStart=>exact⟨0,Nat.zero_le _,rfl,by simp[Hid,turnsI]⟩
 case round=>
  obtain⟨j,hj,rfl,HT⟩:=hrel
  by_cases hlt:(j:Int)<(n:Int)
  ·obtain⟨b,off,rfl,hcj⟩:=hcell j (by omega)
   clear hcell cl
   have hjl:j<ts.length:=by have:=HN.out;omega
   have HA:Hid (inI (ts.getD j 0) 0 1000000000=false→turnsI ts=false):=turns_not ts j hjl
   have HZ:Hid (inI (ts.getD j 0) 0 1000000000=true→turnsI (ts.take (j+1))=true):=turns_take ts j hjl HT.out
   have ckj:=fun wx=>ck (ts.getD j 0) wx
   obtain⟨z,hz⟩:∃z,z=ts.getD j 0:=⟨_,rfl⟩
   rw[←hz]at hcj HA HZ
   simp only[←hz]at ckj
   obtain⟨bz,hbz⟩:∃bz,bz=inI z 0 1000000000:=⟨_,rfl⟩
   rw[←hbz]at HA HZ
   simp only[←hbz]at ckj
   clear hz hjl hbz ck
   go_wp2_with fail
   refine(ckj _).mono ?_
   rintro e w' ⟨rfl,hw⟩;subst w'
   cases bz with
   |true=>
    have HZ2:Hid (turnsI (ts.take (j+1))=true):=HZ.out rfl
    clear HZ HA
    go_wp2
    go_round
    case rel=>exact⟨j+1,by omega,by go_num,HZ2.out⟩
    case measure=>simp[intOf];omega
   |false=>
    have HX:Hid (x=false):=by rw[Hid,HE.out false (HA.out rfl)];rfl
    clear HZ HA
    go_wp2
    go_ret
    rw[HX.out]
    exact⟨rfl,rfl⟩
  ·have HX:Hid (x=y):=by
    have:=HT.out
    rw[List.take_of_length_le (by have:=HN.out;omega)]at this
    rw[Hid,HE.out true this];rfl
   clear HT ck
   go_wp2_with fail
   refine(cl _).mono ?_
   rintro e w' ⟨rfl,hw⟩;subst w'
   go_wp2
   go_ret
   rw[HX.out]
   exact⟨rfl,rfl⟩
theorem scopok_any (v:Value) (c:Cp) (w:World) (hr:Reads w v c.ts) (hl:c.ts.length≤1099511627776):
  Calls Tryz.prog 46 #[CpV v c] w fun e w'=>e=.returned (.bool c.ok)∧Below w.heap.size w w':=by
 have HE:Hid (c.ok=if c.tr=0 then(!c.op&&decide (c.di=0)&&decide (c.wa=0)&&decide (c.ts.length=0))else(inI c.tr 1 100000&&(turnsI c.ts&&inI c.ts.length 1 8)&&(inI c.di 0 (fullI c.ts.length)&&inI c.wa 0 (fullI c.ts.length)))):=rfl
 obtain⟨ao,cap,rfl⟩:=reads_form hr
 obtain⟨w1,hw1⟩:∃w1,w1=w.alloc (.cells (cpA (.slice ao c.ts.length cap) c) 52):=⟨_,rfl⟩
 have H1:StB w1 w.heap.size 52 (cpA (.slice ao c.ts.length cap) c):=by rw[hw1];exact StB.new _ _ _
 have HB:Hid (Below w.heap.size w w1):=by rw[hw1];exact(Below.refl _ _).alloc (Nat.le_refl _) _
 have HW:Hid (w1=w.alloc (.cells #[.int .i64 c.tr,.bool c.op,.int .i64 c.di,.int .i64 c.wa,.slice ao c.ts.length cap] 52)):=hw1
 have k0:w1.cell? ⟨w.heap.size,0,none⟩=some (.int .i64 c.tr):=H1.cell 0 rfl
 have k1:w1.cell? ⟨w.heap.size,1,none⟩=some (.bool c.op):=H1.cell 1 rfl
 have k2:w1.cell? ⟨w.heap.size,2,none⟩=some (.int .i64 c.di):=H1.cell 2 rfl
 have k3:w1.cell? ⟨w.heap.size,3,none⟩=some (.int .i64 c.wa):=H1.cell 3 rfl
 have k4:w1.cell? ⟨w.heap.size,4,none⟩=some (.slice ao c.ts.length cap):=H1.cell 4 rfl
 have ct:=fun wx=>sin6_any c.tr 1 100000 wx
 have cs:=sturns_any (.slice ao c.ts.length cap) c.ts w1 (hr.below HB.out (Nat.le_refl _)) hl
 have cf:=fun wx=>sfull_any (c.ts.length:Int) wx
 have cd:=fun wx=>sin6_any c.di 0 (fullI c.ts.length) wx
 have cw:=fun wx=>sin6_any c.wa 0 (fullI c.ts.length) wx
 obtain⟨x,hx⟩:∃x,x=c.ok:=⟨_,rfl⟩
 rw[←hx]at HE⊢
 obtain⟨bt,hbt⟩:∃bt,bt=inI c.tr 1 100000:=⟨_,rfl⟩
 rw[←hbt]at HE
 simp only[←hbt]at ct
 obtain⟨bs,hbs⟩:∃bs,bs=(turnsI c.ts&&inI c.ts.length 1 8):=⟨_,rfl⟩
 rw[←hbs]at HE
 simp only[←hbs]at cs
 obtain⟨f,hf⟩:∃f,f=fullI c.ts.length:=⟨_,rfl⟩
 rw[←hf]at HE
 simp only[←hf]at cf cd cw
 obtain⟨bd,hbd⟩:∃bd,bd=inI c.di 0 f:=⟨_,rfl⟩
 rw[←hbd]at HE
 simp only[←hbd]at cd
 obtain⟨bw,hbw⟩:∃bw,bw=inI c.wa 0 f:=⟨_,rfl⟩
 rw[←hbw]at HE
 simp only[←hbw]at cw
 obtain⟨n,hn⟩:∃n,n=c.ts.length:=⟨_,rfl⟩
 rw[←hn]at hl k4 HW HE cs
 simp only[←hn]at cf
 unfold CpV cpA
 rw[←hn]
 clear hw1 H1 hr hn hx hbt hbs hf hbd hbw
 by_cases ht:c.tr=0
 ·have HX:Hid (x=(!c.op&&decide (c.di=0)&&decide (c.wa=0)&&decide (n=0))):=by rw[Hid,HE.out,if_pos ht]
  clear HE ct cs cf cd cw
  have e1:(c.tr==0)=true:=by simpa using ht
  have HX2:Hid (x=(!c.op&&(c.di==0)&&(c.wa==0)&&((n:Int)==0))):=by
   rw[Hid,HX.out]
   congr 1
   rw[Bool.eq_iff_iff];simp
  clear HX
  cases ho:c.op with
  |true=>
   rw[ho]at HX2 HW k1
   go_enter Tryz.func46,Tryz.ntmps46
   go_wp2
   go_ret
   exact⟨ret_bool (by rw[HX2.out];rfl),(Below.refl _ _).alloc (Nat.le_refl _) _⟩
  |false=>
   rw[ho]at HX2 HW k1
   by_cases hd:c.di=0
   ·by_cases hw:c.wa=0
    ·by_cases hn0:(n:Int)=0
     ·go_enter Tryz.func46,Tryz.ntmps46
      go_wp2
      go_ret
      exact⟨ret_bool (by rw[HX2.out];simp[hd,hw,hn0]),(Below.refl _ _).alloc (Nat.le_refl _) _⟩
     ·go_enter Tryz.func46,Tryz.ntmps46
      go_wp2
      go_ret
      exact⟨ret_bool (by rw[HX2.out];simp[hd,hw]),(Below.refl _ _).alloc (Nat.le_refl _) _⟩
    ·go_enter Tryz.func46,Tryz.ntmps46
     go_wp2
     go_ret
     exact⟨ret_bool (by rw[HX2.out];simp[hd,hw]),(Below.refl _ _).alloc (Nat.le_refl _) _⟩
   ·go_enter Tryz.func46,Tryz.ntmps46
    go_wp2
    go_ret
    exact⟨ret_bool (by rw[HX2.out];simp[hd]),(Below.refl _ _).alloc (Nat.le_refl _) _⟩
 ·have HX:Hid (x=(bt&&bs&&(bd&&bw))):=by rw[Hid,HE.out,if_neg ht]
  have e1:(c.tr==0)=false:=by simpa using ht
  clear HE
  go_enter Tryz.func46,Tryz.ntmps46
  go_wp2_with fail
  rw[←HW.out]
  refine(ct _).mono ?_
  rintro e w' ⟨rfl,hw⟩;subst w'
  clear ct
  cases bt with
  |false=>
   go_wp2
   go_ret
   exact⟨ret_bool (by rw[HX.out];rfl),HB.out⟩
  |true=>
   go_wp2_with fail
   refine cs.mono ?_
   rintro e w' ⟨rfl,hw⟩;subst w'
   clear cs
   cases bs with
   |false=>
    go_wp2
    go_ret
    exact⟨ret_bool (by rw[HX.out];rfl),HB.out⟩
   |true=>
    go_wp2_with fail
    refine(cf _).mono ?_
    rintro e w' ⟨rfl,hw⟩;subst w'
    clear cf
    go_wp2_with fail
    refine(cd _).mono ?_
    rintro e w' ⟨rfl,hw⟩;subst w'
    clear cd
    cases bd with
    |false=>
     go_wp2
     go_ret
     exact⟨ret_bool (by rw[HX.out];rfl),HB.out⟩
    |true=>
     go_wp2_with fail
     refine(cw _).mono ?_
     rintro e w' ⟨rfl,hw⟩;subst w'
     clear cw
     go_wp2
     go_ret
     exact⟨ret_bool (by rw[HX.out];rfl),HB.out⟩
end Go.Proofs.YtflbcjgkdokhiaaGreatDoor
set_option maxRecDepth 20000
set_option maxHeartbeats 1000000
namespace Go.Proofs.YtflbcjgkdokhiaaGreatDoor
open Go.ChangeShapes Go.WideShapes Go.ChangeAt Go.RowKit
def snA (v:Value) (c:Sn):Array Value:=#[.int .i64 c.tr,v]
def SnV (v:Value) (c:Sn):Value:=.agg (snA v c)
def zeroSn:Array Value:=#[.int .i64 0,.slice none 0 0]
theorem Tryz.isSn:IsS 54 2:=⟨⟨_,Tryz.underlying54⟩,by kernel_rfl⟩
theorem snA_one {v:Value} (c:Sn) (hv:v.oneCell'=true):(snA v c).all (·.oneCell')=true:=by
 unfold snA
 simp[hv,show∀k n,(Value.int k n).oneCell'=true from fun _ _=>rfl]
theorem ssinkok_any (v:Value) (c:Sn) (w:World) (hr:Reads w v c.ts) (hl:c.ts.length≤1099511627776):
  Calls Tryz.prog 47 #[SnV v c] w fun e w'=>e=.returned (.bool c.ok)∧Below w.heap.size w w':=by
 have HE:Hid (c.ok=if c.tr=0 then decide (c.ts.length=0)else(inI c.tr 1 100000&&(turnsI c.ts&&inI c.ts.length 1 8))):=rfl
 obtain⟨ao,cap,rfl⟩:=reads_form hr
 obtain⟨w1,hw1⟩:∃w1,w1=w.alloc (.cells (snA (.slice ao c.ts.length cap) c) 54):=⟨_,rfl⟩
 have H1:StB w1 w.heap.size 54 (snA (.slice ao c.ts.length cap) c):=by rw[hw1];exact StB.new _ _ _
 have HB:Hid (Below w.heap.size w w1):=by rw[hw1];exact(Below.refl _ _).alloc (Nat.le_refl _) _
 have HW:Hid (w1=w.alloc (.cells #[.int .i64 c.tr,.slice ao c.ts.length cap] 54)):=hw1
 have k0:w1.cell? ⟨w.heap.size,0,none⟩=some (.int .i64 c.tr):=H1.cell 0 rfl
 have k1:w1.cell? ⟨w.heap.size,1,none⟩=some (.slice ao c.ts.length cap):=H1.cell 1 rfl
 have ct:=fun wx=>sin6_any c.tr 1 100000 wx
 have cs:=sturns_any (.slice ao c.ts.length cap) c.ts w1 (hr.below HB.out (Nat.le_refl _)) hl
 obtain⟨x,hx⟩:∃x,x=c.ok:=⟨_,rfl⟩
 rw[←hx]at HE⊢
 obtain⟨bt,hbt⟩:∃bt,bt=inI c.tr 1 100000:=⟨_,rfl⟩
 rw[←hbt]at HE
 simp only[←hbt]at ct
 obtain⟨bs,hbs⟩:∃bs,bs=(turnsI c.ts&&inI c.ts.length 1 8):=⟨_,rfl⟩
 rw[←hbs]at HE
 simp only[←hbs]at cs
 obtain⟨n,hn⟩:∃n,n=c.ts.length:=⟨_,rfl⟩
 rw[←hn]at hl k1 HW HE cs
 unfold SnV snA
 rw[←hn]
 clear hw1 H1 hr hn hx hbt hbs
 by_cases ht:c.tr=0
 ·have HX:Hid (x=((n:Int)==0)):=by
   rw[Hid,HE.out,if_pos ht,Bool.eq_iff_iff];simp
  have e1:(c.tr==0)=true:=by simpa using ht
  clear HE ct cs
  go_enter Tryz.func47,Tryz.ntmps47
  go_wp2
  go_ret
  exact⟨ret_bool (by rw[HX.out]),(Below.refl _ _).alloc (Nat.le_refl _) _⟩
 ·have HX:Hid (x=(bt&&bs)):=by rw[Hid,HE.out,if_neg ht]
  have e1:(c.tr==0)=false:=by simpa using ht
  clear HE
  go_enter Tryz.func47,Tryz.ntmps47
  go_wp2_with fail
  rw[←HW.out]
  refine(ct _).mono ?_
  rintro e w' ⟨rfl,hw⟩;subst w'
  clear ct
  cases bt with
  |false=>
   go_wp2
   go_ret
   exact⟨ret_bool (by rw[HX.out];rfl),HB.out⟩
  |true=>
   go_wp2_with fail
   refine cs.mono ?_
   rintro e w' ⟨rfl,hw⟩;subst w'
   clear cs
   go_wp2
   go_ret
   exact⟨ret_bool (by rw[HX.out];rfl),HB.out⟩
end Go.Proofs.YtflbcjgkdokhiaaGreatDoor
