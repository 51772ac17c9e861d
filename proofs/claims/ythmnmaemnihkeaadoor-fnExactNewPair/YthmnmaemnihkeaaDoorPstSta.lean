/- Posts in the state of a long walk: marked; what is answered isn't great. -/
import Derived.Test.YthmnmaemnihkeaaDoorLPost2
namespace Go.Proofs.YthmnmaemnihkeaaDoor
open Go.ChangeShapes Go.WideShapes Go.ChangeAt Go.RowKit
theorem kcs_ink:∀(k:Int) (ps:List (Value×Mg)),kcs (inkL k ps)=kcs ps
 |_,[]=>rfl
 |k,p::ps=>by
  have h:mineOf p.1 (p.2.inked k).h.ks=mineOf p.1 p.2.h.ks:=mineOf_len p.1 (by simp[Mg.inked,marks_length])
  have e:=kcs_ink (k+10+p.2.h.ks.length) ps
  unfold kcs at e⊢
  simp only[inkL,List.flatMap_cons]
  rw[h,e]
theorem psB_ink (v:Value) (k:Int) (ps:List (Value×Mg)):psB v (inkL k ps)=psB v ps:=by unfold psB;rw[kcs_ink]
def totM (ms:List Mg):Nat:=(ms.map fun m=>m.h.ks.length).sum
theorem totK_is (ps:List (Value×Mg)):totK ps=totM (msOf ps):=by simp[totK,totM,msOf,Function.comp_def]
structure FewM (ms:List Mg) (n t:Nat):Prop where
 len:ms.length≤n
 tot:totM ms≤t
 each:∀m∈ms,m.h.ks.length≤1048576
theorem FewM.of {ps:List (Value×Mg)} (hs:SmP ps) (hl:ps.length≤1048576) (ht:totK ps≤1048576):FewM (msOf ps) 1048576 1048576:=
 ⟨by rw[msOf_len];exact hl,by rw[←totK_is];exact ht,fun m hm=>by
  obtain⟨p,hp,rfl⟩:=List.mem_map.1 hm
  exact hs p hp⟩
theorem FewM.lenP {ps:List (Value×Mg)} {ms:List Mg} {n t:Nat} (h:FewM ms n t) (e:msOf ps=ms):ps.length≤n:=by rw[←msOf_len,e];exact h.len
theorem FewM.bound {ps:List (Value×Mg)} {ms:List Mg} {n t:Nat} (h:FewM ms n t) (e:msOf ps=ms):10*ps.length+totK ps≤10*n+t:=by
 have h1:=h.lenP e
 have h2:=h.tot
 rw[totK_is,e]
 omega
theorem FewM.nil (n t:Nat):FewM [] n t:=⟨Nat.zero_le _,Nat.zero_le _,by simp⟩
theorem FewM.mono {ms:List Mg} {n t n' t':Nat} (h:FewM ms n t) (hn:ms.length≤n') (ht:t≤t'):FewM ms n' t':=⟨hn,Nat.le_trans h.tot ht,h.each⟩
theorem FewM.app {a b:List Mg} {n t n' t':Nat} (h:FewM a n t) (h':FewM b n' t'):FewM (a++b) (n+n') (t+t'):=
 ⟨by have:=h.len;have:=h'.len;simp;omega,by have:=h.tot;have:=h'.tot;simp[totM]at*;omega,fun m hm=>(List.mem_append.1 hm).elim (h.each m) (h'.each m)⟩
theorem totM_erase:∀(ms:List Mg) (j:Nat),totM (ms.eraseIdx j)≤totM ms
 |[],_=>by simp
 |m::ms,0=>by simp[totM]
 |m::ms,j+1=>by
  have:=totM_erase ms j
  simp[totM]at*
  omega
theorem FewM.erase {a:List Mg} {n t:Nat} (h:FewM a n t) (j:Nat):FewM (a.eraseIdx j) n t:=
 ⟨Nat.le_trans (List.length_eraseIdx_le ..) h.len,Nat.le_trans (totM_erase a j) h.tot,fun m hm=>h.each m (List.mem_of_mem_eraseIdx hm)⟩
theorem FewM.at {a:List Mg} {n t:Nat} (h:FewM a n t) (j:Nat):(a.getD j Mg.zero).h.ks.length≤1048576∧FewM [a.getD j Mg.zero] 1 1048576:=by
 have h1:(a.getD j Mg.zero).h.ks.length≤1048576:=by
  rw[List.getD_eq_getElem?_getD]
  rcases hj:a[j]? with _|m
  ·exact Nat.zero_le _
  ·exact h.each m (List.mem_of_getElem? hj)
 exact⟨h1,Nat.le_refl _,by simpa[totM]using h1,fun m hm=>by rw[List.mem_singleton]at hm;rw[hm];exact h1⟩
theorem FewM.taken {a:List Mg} (ha:FewM a 1048576 1048576) (i:Int):FewM (takeP a i).1 40 1048576∧(takeP a i).2.1.h.ks.length≤1048576:=by
 unfold takeP
 split
 ·rename_i h0
  have ha':=ha.mono (postOk_len h0) (Nat.le_refl _)
  split
  ·exact⟨ha'.erase _,(ha'.at _).1⟩
  ·exact⟨ha',Nat.zero_le _⟩
 ·exact⟨FewM.nil _ _,Nat.zero_le _⟩
def TkI (u:Value) (rs:List (Value×Mg)) (k:Value) (xs:List Int):Item:=
 ⟨psB u rs++mineOf k xs,0,fun w=>OwnP w 0 u rs∧Mine w 0 k xs∧(∀x∈mineOf k xs,x∉psB u rs),fun _ _ e _ h=>⟨h.1.frame (fun x hx=>e x (List.mem_append_left _ hx)),h.2.1.frame (fun x hx=>e x (List.mem_append_right _ hx)),h.2.2⟩⟩
theorem lt_both {wy:World} {u k:Value} {rs:List (Value×Mg)} {xs:List Int} {base:Nat} (o:OwnP wy base u rs) (m:Mine wy base k xs):∀x∈psB u rs++mineOf k xs,base≤x∧x<wy.heap.size:=fun x hx=>
 (List.mem_append.1 hx).elim (o.lt x) (mineOf_lt m)
theorem Sta.taken {w wx wy:World} {L:List Item} {u k:Value} {rs:List (Value×Mg)} {xs:List Int} (h:Sta w wx L) (o:OwnP wy wx.heap.size u rs) (m:Mine wy wx.heap.size k xs) (a:∀x∈mineOf k xs,x∉psB u rs) (b:Below wx.heap.size wx wy):Sta w wy (TkI u rs k xs::L):=
 h.add b (TkI u rs k xs) ⟨o.mono (Nat.zero_le _),m.mono (Nat.zero_le _),a⟩ (lt_both o m)
end Go.Proofs.YthmnmaemnihkeaaDoor
