/- Logs of a house, plainly: what is recalled behind a record that was noted, behind one that was half noted, and how many frames there are. -/
import Derived.Test.YtflbcjgkdokhiaaGreatDoorM9
import Derived.Test.YtflbcjgkdokhiaaGreatDoorM7
import Derived.Test.YtflbcjgkdokhiaaGreatDoorM1
namespace Go.Proofs.YtflbcjgkdokhiaaGreatDoor
open Go.RowKit
theorem wholeE_length (s:Bs):(wholeE s).length=(framesB s).1.length:=by
 rw[←framesE_texts,List.length_map]
theorem whole_of {s t:Bs} (h:(framesB s).1=(framesB t).1):wholeE s=wholeE t:=by
 apply List.ext_getElem (by rw[wholeE_length,wholeE_length,h])
 intro i h1 h2
 obtain⟨_,e1⟩:=wholeE_at s i (by rw[←wholeE_length];exact h1)
 obtain⟨_,e2⟩:=wholeE_at t i (by rw[←wholeE_length];exact h2)
 rw[e1,e2,h]
theorem recall_of {s t:Bs} (h:(framesB s).1=(framesB t).1):recallB s=recallB t:=by
 unfold recallB
 rw[whole_of h]
theorem recall_end (s:Bs):recAt (recallB s)≤(framesB s).2:=by
 obtain⟨h1,h2,h3,h4⟩:=framesB_sound s
 have e:(framesB s).1=(framesB (s.take (framesB s).2)).1:=by
  rw[h2]
  have:=framesN_cat (framesB s).1 [] h1 2000 h4 (.inr none_nil)
  rw[List.append_nil]at this
  exact(congrArg Prod.fst this).symm
 rw[recall_of e]
 have:=recall_le (s.take (framesB s).2)
 rw[List.length_take]at this
 omega
structure LogR (log:Bs) (r:Rc) (up:Bool):Prop where
 is:(recallB log).isSome=true
 rc:recR (recallB log)=r
 al:up=true→recAt (recallB log)=log.length
theorem LogR.frames {log:Bs} {r:Rc} (h:LogR log r true):(framesB log).2=log.length:=by
 have h1:=recall_end log
 have h2:=framesB_le log
 rw[h.al rfl]at h1
 omega
theorem LogR.isCat {log:Bs} {r:Rc} (h:LogR log r true):log=cat (framesB log).1:=by
 obtain⟨-,h2, -, -⟩:=framesB_sound log
 rw[h.frames,List.take_length]at h2
 exact h2
theorem frames_more {log:Bs} (hc:log=cat (framesB log).1) (t rest:Bs) (hp:plainB t=true) (hl:(framesB log).1.length<2000) (hr:(firstB rest).2=0):
  framesB (log++framed t++rest)=((framesB log).1++[t],(log++framed t).length):=by
 obtain⟨h1, -, -, -⟩:=framesB_sound log
 obtain⟨ts,hts⟩:∃ts,ts=(framesB log).1:=⟨_,rfl⟩
 rw[←hts]at h1 hc hl⊢
 have hcat:log++framed t++rest=cat (ts++[t])++rest:=by rw[cat_snoc,←hc]
 have hsl:(log++framed t).length=(cat (ts++[t])).length:=by rw[cat_snoc,←hc]
 rw[hcat,hsl]
 refine framesN_cat (ts++[t]) rest (fun x hx=>?_) 2000 (by simp;omega) (.inr hr)
 rcases List.mem_append.1 hx with hx|hx
 ·exact h1 x hx
 ·simp at hx;subst hx;exact hp
theorem frames_rest {log:Bs} (hc:log=cat (framesB log).1) (rest:Bs) (hr:(firstB rest).2=0):framesB (log++rest)=((framesB log).1,log.length):=by
 obtain⟨h1, -, -,h4⟩:=framesB_sound log
 obtain⟨ts,hts⟩:∃ts,ts=(framesB log).1:=⟨_,rfl⟩
 rw[←hts]at h1 hc h4⊢
 have:=framesN_cat ts rest h1 2000 h4 (.inr hr)
 rw[←hc]at this
 exact this
theorem LogR.noted {log:Bs} {r q:Rc} (h:LogR log r true) (hq:q.ok=true) (hl:(framesB log).1.length<2000):
  LogR (log++framed (showR q)) q true∧(framesB (log++framed (showR q))).1.length=(framesB log).1.length+1:=by
 have hp:=(plain_show q hq).1
 have f:=frames_more h.isCat (showR q) [] hp hl none_nil
 rw[List.append_nil]at f
 obtain⟨ts,hts⟩:∃ts,ts=(framesB log).1:=⟨_,rfl⟩
 have hst:=recall_step (log++framed (showR q)) ts.length (by rw[f,←hts];simp)
 have hall:=recall_all (log++framed (showR q))
 rw[f,←hts]at hst hall
 simp only[List.length_append,List.length_cons,List.length_nil,Nat.zero_add]at hall
 rw[hst]at hall
 have e1:(ts++[showR q]).getD ts.length []=showR q:=by simp
 have e2:(ts++[showR q]).take (ts.length+1)=ts++[showR q]:=List.take_of_length_le (by simp)
 have hsl:(log++framed (showR q)).length=(cat (ts++[showR q])).length:=by rw[cat_snoc,hts,←h.isCat]
 simp only[e1,e2,stepE,readR_show q hq,←hsl]at hall
 refine⟨⟨by rw[←hall];rfl,by rw[←hall];rfl,fun _=>by rw[←hall];rfl⟩,?_⟩
 rw[f]
 simp
theorem LogR.torn {log:Bs} {r q:Rc} (h:LogR log r true) (hq:q.ok=true) (p:Nat) (hp:p<(framed (showR q)).length):
  LogR (log++(framed (showR q)).take p) r false∧(framesB (log++(framed (showR q)).take p)).1=(framesB log).1∧(log++(framed (showR q)).take p).take (recAt (recallB (log++(framed (showR q)).take p)))=log:=by
 have f:=frames_rest h.isCat ((framed (showR q)).take p) (half_none q p hq hp)
 have e:(framesB (log++(framed (showR q)).take p)).1=(framesB log).1:=by rw[f]
 have er:=recall_of e
 refine⟨⟨by rw[er];exact h.is,by rw[er];exact h.rc,fun h=>by cases h⟩,e,?_⟩
 rw[er,h.al rfl,List.take_left]
theorem LogR.down {log:Bs} {r:Rc} {up:Bool} (h:LogR log r up):LogR log r false:=⟨h.is,h.rc,fun h=>by cases h⟩
theorem LogR.rise {log:Bs} {r:Rc} {up:Bool} (h:LogR log r up):LogR (log.take (recAt (recallB log))) r true∧(framesB (log.take (recAt (recallB log)))).1.length≤(framesB log).1.length:=by
 obtain⟨h1,h2,h3,h4⟩:=framesB_sound log
 obtain⟨ts,hts⟩:∃ts,ts=(framesB log).1:=⟨_,rfl⟩
 have key:∀i,i≤ts.length→∀x,recallE ((wholeE log).take i)=some x→∃j,j≤i∧x.2=(cat (ts.take j)).length∧recallE ((wholeE log).take j)=some x:=by
  intro i
  induction i with
  |zero=>intro _ x hx;simp[recallE]at hx
  |succ i ih=>
   intro hi x hx
   have hs:=recall_step log i (by rw[←hts];omega)
   rw[hs]at hx
   unfold stepE at hx
   split at hx
   ·cases hx
    refine⟨i+1,Nat.le_refl _,by rw[hts],?_⟩
    rw[hs]
    unfold stepE
    simp_all
   ·obtain⟨j,hj,e1,e2⟩:=ih (by omega) x hx
    exact⟨j,by omega,e1,e2⟩
 obtain⟨x,hx⟩:=Option.isSome_iff_exists.1 h.is
 have ha:=recall_all log
 rw[←hts,hx]at ha
 obtain⟨j,hj,e1,e2⟩:=key ts.length (Nat.le_refl _) x ha
 have hat:recAt (recallB log)=(cat (ts.take j)).length:=by rw[hx];exact e1
 have hpre:log.take (recAt (recallB log))=cat (ts.take j):=by
  rw[hat]
  have hc:log.take (framesB log).2=cat (ts.take j)++cat (ts.drop j):=by
   rw[h2,←hts]
   have:cat (ts.take j++ts.drop j)=cat (ts.take j)++cat (ts.drop j):=by unfold cat;rw[List.map_append,List.flatten_append]
   rwa[List.take_append_drop]at this
  have hle:(cat (ts.take j)).length≤(framesB log).2:=by rw[h3,←hts];exact cat_take_len ts j
  have:=congrArg (fun l=>l.take (cat (ts.take j)).length) hc
  simp only[List.take_take,List.take_left,Nat.min_eq_left hle]at this
  exact this
 have hf:framesB (log.take (recAt (recallB log)))=(ts.take j,(cat (ts.take j)).length):=by
  rw[hpre]
  have:=framesN_cat (ts.take j) [] (fun t ht=>h1 t (by rw[←hts];exact List.mem_of_mem_take ht)) 2000 (by rw[←hts]at h4;simp;omega) (.inr none_nil)
  rw[List.append_nil]at this
  exact this
 have hjl:(ts.take j).length=j:=by simp;omega
 have hr:recallB (log.take (recAt (recallB log)))=some x:=by
  rw[←recall_all,hf]
  simp only[hjl]
  have:(wholeE (log.take (recAt (recallB log)))).take j=(wholeE log).take j:=by
   have hl1:(wholeE (log.take (recAt (recallB log)))).length=j:=by rw[wholeE_length,hf];exact hjl
   have hl2:(wholeE log).length=ts.length:=by rw[wholeE_length,hts]
   apply List.ext_getElem (by simp[hl1,hl2];omega)
   intro i a1 a2
   simp only[List.length_take,hl1,Nat.min_self]at a1
   obtain⟨_,e3⟩:=wholeE_at (log.take (recAt (recallB log))) i (by rw[hf];simp only[hjl];exact a1)
   obtain⟨_,e4⟩:=wholeE_at log i (by rw[←hts];omega)
   rw[List.getElem_take,List.getElem_take,e3,e4,hf,←hts]
   simp only
   rw[List.take_take,Nat.min_eq_left (by omega)]
   simp[List.getD,a1]
  rw[this]
  exact e2
 refine⟨⟨by rw[hr];rfl,?_,fun _=>?_⟩,?_⟩
 ·rw[hr,←h.rc,hx]
 ·rw[hr,hpre]
  exact e1
 ·rw[hf,←hts]
  simp only[hjl]
  exact hj
end Go.Proofs.YtflbcjgkdokhiaaGreatDoor
namespace Go.Proofs.YtflbcjgkdokhiaaGreatDoor
open Go.RowKit
structure Cp where
 tr:Int
 op:Bool
 di:Int
 wa:Int
 ts:List Int
def turnsI (ts:List Int):Bool:=ts.all (fun t=>inI t 0 1000000000)
def Cp.zero:Cp:=⟨0,false,0,0,[]⟩
def Cp.mid (c:Cp):Bool:=inI c.tr 1 100000&&(turnsI c.ts&&inI c.ts.length 1 8)&&(inI c.di 0 (fullI c.ts.length)&&inI c.wa 0 (fullI c.ts.length))
def Cp.ok (c:Cp):Bool:=if c.tr=0 then(!c.op&&decide (c.di=0)&&decide (c.wa=0)&&decide (c.ts.length=0))else c.mid
def Cp.has (c:Cp) (i:Int):Bool:=decide (0≤i)&&decide (i<(c.ts.length:Int))
def Cp.mark (c:Cp) (i:Int):Cp:=if c.has i then{c with di:=withI c.di i}else c
def Cp.goes (c:Cp):Bool:=c.op&&decide (0≤firstI c.di)&&decide (c.ts.getD (firstI c.di).toNat 0≠1000000000)
def Cp.nx (c:Cp):Int:=if c.goes then firstI c.di else-1
def Cp.next (c:Cp):Cp:=if c.goes then{c with di:=withoutI c.di (firstI c.di),wa:=withI c.wa (firstI c.di),ts:=c.ts.set (firstI c.di).toNat (c.ts.getD (firstI c.di).toNat 0+1)}else c
def Cp.acks (c:Cp) (i t:Int):Bool:=c.has i&&decide (c.ts.getD i.toNat 0=t)&&inB c.wa i
def Cp.ack (c:Cp) (i t:Int):Cp:=if c.acks i t then{c with wa:=withoutI c.wa i}else c
def orI (a b:Int):Int:=((a.toNat|||b.toNat:Nat):Int)
def Cp.again (c:Cp):Cp:={c with di:=orI c.di c.wa,wa:=0}
def Cp.clean (c:Cp):Bool:=c.ok&&c.op&&decide (c.di=0)&&decide (c.wa=0)
def Cp.made (n t:Int):Bool:=inI n 1 8&&inI t 1 100000
def Cp.new (n t:Int):Cp:=if Cp.made n t then⟨t,false,fullI n,0,List.replicate n.toNat 0⟩else Cp.zero
def Cp.Next (c:Cp):Cp:=if c.ok then c.next else Cp.zero
def Cp.Again (c:Cp):Cp:=if c.ok then c.again else Cp.zero
theorem first_sub:∀n:Nat,n<9→∀s:Nat,s<256→(s:Int)≤fullI n→firstI s<n:=by decide+kernel
theorem with_sub:∀n:Nat,n<9→∀s:Nat,s<256→(s:Int)≤fullI n→∀i:Nat,i<n→withI s i≤fullI n∧0≤withI s i:=by decide+kernel
theorem without_sub:∀s:Nat,s<256→∀i:Nat,i<8→withoutI s i≤s∧0≤withoutI s i:=by decide+kernel
theorem full_lt:∀n:Nat,n<9→fullI n<256∧fullI n=((2^n-1:Nat):Int):=by decide+kernel
theorem turns_set {ts:List Int} (h:turnsI ts=true) (j:Nat) {x:Int} (hx:inI x 0 1000000000=true):turnsI (ts.set j x)=true:=by
 unfold turnsI at*
 rw[List.all_eq_true]at*
 intro y hy
 rcases List.mem_or_eq_of_mem_set hy with hy|rfl
 ·exact h y hy
 ·exact hx
theorem turns_at {ts:List Int} (h:turnsI ts=true) (j:Nat):0≤ts.getD j 0∧ts.getD j 0≤1000000000:=by
 rcases Nat.lt_or_ge j ts.length with hj|hj
 ·unfold turnsI at h
  rw[List.all_eq_true]at h
  have:=(inI_iff _ _ _).1 (h _ (List.getElem_mem hj))
  simpa[hj]using this
 ·simp[List.getD_eq_getElem?_getD,List.getElem?_eq_none hj]
theorem turns_take (ts:List Int) (j:Nat) (h:j<ts.length) (h0:turnsI (ts.take j)=true) (hx:inI (ts.getD j 0) 0 1000000000=true):turnsI (ts.take (j+1))=true:=by
 unfold turnsI at*
 rw[List.take_succ_eq_append_getElem h,List.all_append,h0]
 have:inI ts[j] 0 1000000000=true:=by simpa[h]using hx
 simp[this]
theorem turns_not (ts:List Int) (j:Nat) (h:j<ts.length) (hx:inI (ts.getD j 0) 0 1000000000=false):turnsI ts=false:=by
 unfold turnsI
 rw[List.all_eq_false]
 exact⟨ts[j],List.getElem_mem h,by have:inI ts[j] 0 1000000000=false:=by{simpa[h]using hx};simp[this]⟩
structure Cp.Fit (c:Cp):Prop where
 len:c.ts.length≤8
 di0:0≤c.di
 di1:c.di≤fullI c.ts.length
 wa0:0≤c.wa
 wa1:c.wa≤fullI c.ts.length
 turns:turnsI c.ts=true
theorem Cp.fit {c:Cp} (h:c.ok=true):c.Fit:=by
 unfold Cp.ok Cp.mid at h
 by_cases h0:c.tr=0
 ·rw[if_pos h0]at h
  simp only[Bool.and_eq_true,decide_eq_true_eq]at h
  obtain⟨⟨⟨-,h1⟩,h2⟩,h3⟩:=h
  have e:c.ts=[]:=List.length_eq_zero_iff.1 h3
  exact⟨by omega,by omega,by rw[h1,h3];decide,by omega,by rw[h2,h3];decide,by rw[e];rfl⟩
 ·rw[if_neg h0]at h
  simp only[Bool.and_eq_true,inI_iff]at h
  obtain⟨⟨-,h1,h2⟩,⟨h3,h4⟩,h5,h6⟩:=h
  exact⟨by omega,h3,h4,h5,h6,h1⟩
theorem Cp.Fit.d {c:Cp} (h:c.Fit):c.di<256:=by
 have:=(full_lt c.ts.length (by have:=h.len;omega)).1;have:=h.di1;omega
theorem Cp.Fit.w {c:Cp} (h:c.Fit):c.wa<256:=by
 have:=(full_lt c.ts.length (by have:=h.len;omega)).1;have:=h.wa1;omega
theorem Cp.Fit.first {c:Cp} (h:c.Fit):firstI c.di<(c.ts.length:Int):=by
 have h1:=h.di0;have h2:=h.d;have h3:=h.di1;have h4:=h.len
 obtain⟨n,e⟩:=nat_of h1
 rw[e]at h2 h3⊢
 exact first_sub _ (by omega) n (by omega) h3
theorem Cp.ok_of {c d:Cp} (h:c.ok=true) (ht:d.tr=c.tr) (ho:d.op=c.op) (hl:d.ts.length=c.ts.length) (hts:turnsI d.ts=true) (h0:0≤d.di) (h1:d.di≤fullI c.ts.length) (h2:0≤d.wa) (h3:d.wa≤fullI c.ts.length):d.ok=true:=by
 unfold Cp.ok Cp.mid at*
 rw[ht,ho,hl,hts]
 by_cases e:c.tr=0
 ·rw[if_pos e]at h⊢
  simp only[Bool.and_eq_true,decide_eq_true_eq]at h⊢
  rw[h.2]at h1 h3
  have:fullI ((0:Nat):Int)=0:=by decide
  rw[this]at h1 h3
  exact⟨⟨⟨h.1.1.1,by omega⟩,by omega⟩,h.2⟩
 ·rw[if_neg e]at h⊢
  simp only[Bool.and_eq_true,inI_iff]at h⊢
  exact⟨⟨h.1.1,trivial,h.1.2.2⟩,⟨h0,h1⟩,h2,h3⟩
theorem has_iff (c:Cp) (i:Int):c.has i=true↔0≤i∧i<(c.ts.length:Int):=by simp[Cp.has]
theorem Cp.with_fit {c:Cp} (h:c.Fit) {s i:Int} (hs0:0≤s) (hs:s≤fullI c.ts.length) (h0:0≤i) (h1:i<(c.ts.length:Int)):withI s i≤fullI c.ts.length∧0≤withI s i:=by
 have h4:=h.len
 have h5:=(full_lt c.ts.length (by omega)).1
 obtain⟨n,rfl⟩:=nat_of hs0
 obtain⟨k,rfl⟩:=nat_of h0
 exact with_sub _ (by omega) n (by omega) hs k (by omega)
theorem without_fit {s i:Int} (hs0:0≤s) (hs:s<256) (h0:0≤i) (h1:i<8):withoutI s i≤s∧0≤withoutI s i:=by
 obtain⟨n,rfl⟩:=nat_of hs0
 obtain⟨k,rfl⟩:=nat_of h0
 exact without_sub n (by omega) k (by omega)
theorem Cp.mark_ok {c:Cp} (h:c.ok=true) (i:Int):(c.mark i).ok=true:=by
 unfold Cp.mark
 split
 ·rename_i hi
  rw[has_iff]at hi
  have f:=Cp.fit h
  have:=Cp.with_fit f f.di0 f.di1 hi.1 hi.2
  exact Cp.ok_of h rfl rfl rfl f.turns this.2 this.1 f.wa0 f.wa1
 ·exact h
theorem Cp.goes_iff (c:Cp):c.goes=true↔c.op=true∧0≤firstI c.di∧c.ts.getD (firstI c.di).toNat 0≠1000000000:=by simp[Cp.goes,and_assoc]
theorem Cp.next_ok {c:Cp} (h:c.ok=true):c.next.ok=true:=by
 unfold Cp.next
 split
 ·rename_i hi
  rw[Cp.goes_iff]at hi
  have f:=Cp.fit h
  have f1:=f.first
  have f2:=f.len
  have h1:=Cp.with_fit f f.wa0 f.wa1 hi.2.1 f1
  have h2:=without_fit f.di0 f.d hi.2.1 (by omega)
  have h3:=f.di1
  have h4:=turns_at f.turns (firstI c.di).toNat
  have h5:=hi.2.2
  exact Cp.ok_of h rfl rfl (by simp) (turns_set f.turns _ ((inI_iff _ _ _).2 (by omega))) h2.2 (by simp only;omega) h1.2 h1.1
 ·exact h
theorem Cp.zero_ok:Cp.zero.ok=true:=by decide
end Go.Proofs.YtflbcjgkdokhiaaGreatDoor
