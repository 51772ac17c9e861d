/- What the law on records asks, of plain lists: what was noted last is recalled, whatever was half noted behind it. -/
import Derived.Test.YthmnmaemnihkeaaDoorM9
namespace Go.Proofs.YthmnmaemnihkeaaDoor
open Go.RowKit
def stepE (a:Option (Rc×Nat)) (x:Bs×Nat):Option (Rc×Nat):=match readR x.1 with
 |some r=>some (r,x.2)
 |none=>a
def recallE (l:List (Bs×Nat)):Option (Rc×Nat):=l.foldl stepE none
def recallB (s:Bs):Option (Rc×Nat):=recallE (wholeE s)
theorem recallE_snoc (l:List (Bs×Nat)) (x:Bs×Nat):recallE (l++[x])=stepE (recallE l) x:=by simp[recallE]
def recR (a:Option (Rc×Nat)):Rc:=(a.map Prod.fst).getD Rc.zero
def recAt (a:Option (Rc×Nat)):Nat:=(a.map Prod.snd).getD 0
theorem framesE_ends (s:Bs):∀(k a i:Nat) (h:i<(framesE k a s).length),((framesE k a s)[i]).2=a+(cat (((framesE k a s).map Prod.fst).take (i+1))).length:=by
 intro k
 induction k with
 |zero=>intro a i h;simp[framesE]at h
 |succ k ih=>
  intro a i h
  by_cases h0:(firstB (s.drop a)).2=0
  ·exfalso
   rw[framesE,if_pos h0]at h
   simp at h
  ·obtain⟨_,_,h3⟩:=firstB_sound (s.drop a) h0
   have e:framesE (k+1) a s=((firstB (s.drop a)).1,a+(firstB (s.drop a)).2)::framesE k (a+(firstB (s.drop a)).2) s:=by rw[framesE,if_neg h0]
   simp only[e]
   cases i with
   |zero=>
    simp only[List.getElem_cons_zero,List.map_cons,Nat.zero_add,List.take_succ_cons,List.take_zero]
    rw[cat_cons,List.length_append,←h3]
    simp[cat]
   |succ i=>
    have hi:i<(framesE k (a+(firstB (s.drop a)).2) s).length:=by rw[e]at h;simpa using h
    have:=ih (a+(firstB (s.drop a)).2) i hi
    simp only[List.getElem_cons_succ,List.map_cons,List.take_succ_cons]
    rw[this,cat_cons,List.length_append,←h3]
    omega
theorem wholeE_at (s:Bs) (i:Nat) (h:i<(framesB s).1.length):∃h':i<(wholeE s).length,(wholeE s)[i]=((framesB s).1.getD i [],(cat ((framesB s).1.take (i+1))).length):=by
 have ht:=framesE_texts s
 have hl:(wholeE s).length=(framesB s).1.length:=by rw[←ht,List.length_map]
 refine⟨by omega,?_⟩
 have h2:=framesE_ends s 2000 0 i (show i<(wholeE s).length by omega)
 have e:framesE 2000 0 s=wholeE s:=rfl
 simp only[e]at h2
 rw[ht,Nat.zero_add]at h2
 have h3:((wholeE s)[i]'(by omega)).1=(framesB s).1.getD i []:=by
  have:(framesB s).1.getD i []=((wholeE s).map Prod.fst).getD i []:=by rw[ht]
  rw[this]
  simp[List.getD,show i<(wholeE s).length by omega]
 exact Prod.ext h3 h2
theorem recall_step (s:Bs) (i:Nat) (h:i<(framesB s).1.length):recallE ((wholeE s).take (i+1))=stepE (recallE ((wholeE s).take i)) ((framesB s).1.getD i [],(cat ((framesB s).1.take (i+1))).length):=by
 obtain⟨h1,h2⟩:=wholeE_at s i h
 rw[List.take_succ_eq_append_getElem h1,recallE_snoc,h2]
theorem recall_all (s:Bs):recallE ((wholeE s).take (framesB s).1.length)=recallB s:=by
 have hl:(wholeE s).length=(framesB s).1.length:=by rw[←framesE_texts,List.length_map]
 rw[←hl,List.take_length]
 rfl
theorem stepE_at (a:Option (Rc×Nat)) (x:Bs×Nat) (m:Nat) (ha:recAt a≤m) (hx:x.2≤m):recAt (stepE a x)≤m:=by
 unfold stepE
 split
 ·exact hx
 ·exact ha
theorem recall_le_take (s:Bs) (i:Nat) (h:i≤(framesB s).1.length):recAt (recallE ((wholeE s).take i))≤s.length:=by
 induction i with
 |zero=>simp[recallE,recAt]
 |succ i ih=>
  rw[recall_step s i (by omega)]
  refine stepE_at _ _ _ (ih (by omega)) ?_
  have h1:=cat_take_len (framesB s).1 (i+1)
  have h2:=(framesB_sound s).2.2.1
  have h3:=framesB_le s
  dsimp only
  omega
theorem recall_le (s:Bs):recAt (recallB s)≤s.length:=by rw[←recall_all];exact recall_le_take s _ (Nat.le_refl _)
theorem plain_show (r:Rc) (h:r.ok=true):plainB (showR r)=true∧(showR r).length≤40:=by
 have hk:=(Rc.ok_iff r).1 h
 have e:showR r=recW++32::(dec r.e.toNat++32::(dec r.s.toNat++32::(dec r.t.toNat++32::dec r.n.toNat))):=by
  unfold showR
  rw[decI_pos hk.1.1,decI_pos (by omega:0≤r.s),decI_pos hk.2.2.1.1,decI_pos hk.2.2.2.1]
 have l1:=dec_len 5 r.e.toNat (by omega)
 have l2:=dec_len 5 r.s.toNat (by omega)
 have l3:=dec_len 5 r.t.toNat (by omega)
 have l4:=dec_len 5 r.n.toNat (by omega)
 have hl:(showR r).length≤40:=by rw[e];simp[recW];omega
 refine⟨?_,hl⟩
 have hd:∀n,(dec n).all (fun b=>b !=10)=true:=fun n=>by
  rw[List.all_eq_true]
  intro b hb
  simpa using(dec_ne n b hb).1
 unfold plainB
 rw[e]at hl⊢
 have hw:recW.all (fun b=>b !=10)=true:=by decide
 simp only[List.all_append,List.all_cons,hd,hw]
 simp only[Bool.and_eq_true,decide_eq_true_eq]
 refine⟨by decide,by omega⟩
theorem framed_show_len (r:Rc) (h:r.ok=true):(framed (showR r)).length≤100:=by
 obtain⟨_,h2⟩:=plain_show r h
 have h3:=dec_len 2 (showR r).length (by omega)
 have h4:=dec_len 5 (chk (showR r)).toNat (by have:=chk_bd (showR r);omega)
 simp[framed];omega
theorem half_none (r:Rc) (p:Nat) (h:r.ok=true) (hp:p<(framed (showR r)).length):(firstB ((framed (showR r)).take p)).2=0:=by
 apply firstB_line
 have hb:=body_ne (plain_show r h).1
 rw[framed_len]at hp
 rw[framed_body,List.take_append_of_le_length (by omega),List.all_eq_true]
 intro b hm
 exact List.all_eq_true.1 hb b (List.mem_of_mem_take hm)
theorem none_nil:(firstB ([]:Bs)).2=0:=firstB_line rfl
def noteY (log:Bs) (r:Rc):Bool:=r.ok&&decide (log.length+(framed (showR r)).length≤40000)
def noteS (log:Bs) (r:Rc):Bs:=if noteY log r then log++framed (showR r)else log
end Go.Proofs.YthmnmaemnihkeaaDoor
namespace Go.Proofs.YthmnmaemnihkeaaDoor
open Go.RowKit
theorem wholeE_length (s:Bs):(wholeE s).length=(framesB s).1.length:=by
 rw[←framesE_texts,List.length_map]
theorem whole_of {s t:Bs} (h:(framesB s).1=(framesB t).1):wholeE s=wholeE t:=by
 apply List.ext_getElem (by rw[wholeE_length,wholeE_length,h])
 intro i h1 h2
 obtain⟨_,e1⟩:=wholeE_at s i (by rw[←wholeE_length];exact h1)
 obtain⟨_,e2⟩:=wholeE_at t i (by rw[←wholeE_length];exact h2)
 rw[e1,e2,h]
theorem recall_of {s t:Bs} (h:(framesB s).1=(framesB t).1):recallB s=recallB t:=by
 unfold recallB
 rw[whole_of h]
theorem recall_end (s:Bs):recAt (recallB s)≤(framesB s).2:=by
 obtain⟨h1,h2,h3,h4⟩:=framesB_sound s
 have e:(framesB s).1=(framesB (s.take (framesB s).2)).1:=by
  rw[h2]
  have:=framesN_cat (framesB s).1 [] h1 2000 h4 (.inr none_nil)
  rw[List.append_nil]at this
  exact(congrArg Prod.fst this).symm
 rw[recall_of e]
 have:=recall_le (s.take (framesB s).2)
 rw[List.length_take]at this
 omega
structure LogR (log:Bs) (r:Rc) (up:Bool):Prop where
 is:(recallB log).isSome=true
 rc:recR (recallB log)=r
 al:up=true→recAt (recallB log)=log.length
theorem LogR.frames {log:Bs} {r:Rc} (h:LogR log r true):(framesB log).2=log.length:=by
 have h1:=recall_end log
 have h2:=framesB_le log
 rw[h.al rfl]at h1
 omega
theorem LogR.isCat {log:Bs} {r:Rc} (h:LogR log r true):log=cat (framesB log).1:=by
 obtain⟨-,h2, -, -⟩:=framesB_sound log
 rw[h.frames,List.take_length]at h2
 exact h2
theorem frames_more {log:Bs} (hc:log=cat (framesB log).1) (t rest:Bs) (hp:plainB t=true) (hl:(framesB log).1.length<2000) (hr:(firstB rest).2=0):
  framesB (log++framed t++rest)=((framesB log).1++[t],(log++framed t).length):=by
 obtain⟨h1, -, -, -⟩:=framesB_sound log
 obtain⟨ts,hts⟩:∃ts,ts=(framesB log).1:=⟨_,rfl⟩
 rw[←hts]at h1 hc hl⊢
 have hcat:log++framed t++rest=cat (ts++[t])++rest:=by rw[cat_snoc,←hc]
 have hsl:(log++framed t).length=(cat (ts++[t])).length:=by rw[cat_snoc,←hc]
 rw[hcat,hsl]
 refine framesN_cat (ts++[t]) rest (fun x hx=>?_) 2000 (by simp;omega) (.inr hr)
 rcases List.mem_append.1 hx with hx|hx
 ·exact h1 x hx
 ·simp at hx;subst hx;exact hp
theorem frames_rest {log:Bs} (hc:log=cat (framesB log).1) (rest:Bs) (hr:(firstB rest).2=0):framesB (log++rest)=((framesB log).1,log.length):=by
 obtain⟨h1, -, -,h4⟩:=framesB_sound log
 obtain⟨ts,hts⟩:∃ts,ts=(framesB log).1:=⟨_,rfl⟩
 rw[←hts]at h1 hc h4⊢
 have:=framesN_cat ts rest h1 2000 h4 (.inr hr)
 rw[←hc]at this
 exact this
theorem LogR.noted {log:Bs} {r q:Rc} (h:LogR log r true) (hq:q.ok=true) (hl:(framesB log).1.length<2000):
  LogR (log++framed (showR q)) q true∧(framesB (log++framed (showR q))).1.length=(framesB log).1.length+1:=by
 have hp:=(plain_show q hq).1
 have f:=frames_more h.isCat (showR q) [] hp hl none_nil
 rw[List.append_nil]at f
 obtain⟨ts,hts⟩:∃ts,ts=(framesB log).1:=⟨_,rfl⟩
 have hst:=recall_step (log++framed (showR q)) ts.length (by rw[f,←hts];simp)
 have hall:=recall_all (log++framed (showR q))
 rw[f,←hts]at hst hall
 simp only[List.length_append,List.length_cons,List.length_nil,Nat.zero_add]at hall
 rw[hst]at hall
 have e1:(ts++[showR q]).getD ts.length []=showR q:=by simp
 have e2:(ts++[showR q]).take (ts.length+1)=ts++[showR q]:=List.take_of_length_le (by simp)
 have hsl:(log++framed (showR q)).length=(cat (ts++[showR q])).length:=by rw[cat_snoc,hts,←h.isCat]
 simp only[e1,e2,stepE,readR_show q hq,←hsl]at hall
 refine⟨⟨by rw[←hall];rfl,by rw[←hall];rfl,fun _=>by rw[←hall];rfl⟩,?_⟩
 rw[f]
 simp
theorem LogR.torn {log:Bs} {r q:Rc} (h:LogR log r true) (hq:q.ok=true) (p:Nat) (hp:p<(framed (showR q)).length):
  LogR (log++(framed (showR q)).take p) r false∧(framesB (log++(framed (showR q)).take p)).1=(framesB log).1∧(log++(framed (showR q)).take p).take (recAt (recallB (log++(framed (showR q)).take p)))=log:=by
 have f:=frames_rest h.isCat ((framed (showR q)).take p) (half_none q p hq hp)
 have e:(framesB (log++(framed (showR q)).take p)).1=(framesB log).1:=by rw[f]
 have er:=recall_of e
 refine⟨⟨by rw[er];exact h.is,by rw[er];exact h.rc,fun h=>by cases h⟩,e,?_⟩
 rw[er,h.al rfl,List.take_left]
theorem LogR.down {log:Bs} {r:Rc} {up:Bool} (h:LogR log r up):LogR log r false:=⟨h.is,h.rc,fun h=>by cases h⟩
theorem LogR.rise {log:Bs} {r:Rc} {up:Bool} (h:LogR log r up):LogR (log.take (recAt (recallB log))) r true∧(framesB (log.take (recAt (recallB log)))).1.length≤(framesB log).1.length:=by
 obtain⟨h1,h2,h3,h4⟩:=framesB_sound log
 obtain⟨ts,hts⟩:∃ts,ts=(framesB log).1:=⟨_,rfl⟩
 have key:∀i,i≤ts.length→∀x,recallE ((wholeE log).take i)=some x→∃j,j≤i∧x.2=(cat (ts.take j)).length∧recallE ((wholeE log).take j)=some x:=by
  intro i
  induction i with
  |zero=>intro _ x hx;simp[recallE]at hx
  |succ i ih=>
   intro hi x hx
   have hs:=recall_step log i (by rw[←hts];omega)
   rw[hs]at hx
   unfold stepE at hx
   split at hx
   ·cases hx
    refine⟨i+1,Nat.le_refl _,by rw[hts],?_⟩
    rw[hs]
    unfold stepE
    simp_all
   ·obtain⟨j,hj,e1,e2⟩:=ih (by omega) x hx
    exact⟨j,by omega,e1,e2⟩
 obtain⟨x,hx⟩:=Option.isSome_iff_exists.1 h.is
 have ha:=recall_all log
 rw[←hts,hx]at ha
 obtain⟨j,hj,e1,e2⟩:=key ts.length (Nat.le_refl _) x ha
 have hat:recAt (recallB log)=(cat (ts.take j)).length:=by rw[hx];exact e1
 have hpre:log.take (recAt (recallB log))=cat (ts.take j):=by
  rw[hat]
  have hc:log.take (framesB log).2=cat (ts.take j)++cat (ts.drop j):=by
   rw[h2,←hts]
   have:cat (ts.take j++ts.drop j)=cat (ts.take j)++cat (ts.drop j):=by unfold cat;rw[List.map_append,List.flatten_append]
   rwa[List.take_append_drop]at this
  have hle:(cat (ts.take j)).length≤(framesB log).2:=by rw[h3,←hts];exact cat_take_len ts j
  have:=congrArg (fun l=>l.take (cat (ts.take j)).length) hc
  simp only[List.take_take,List.take_left,Nat.min_eq_left hle]at this
  exact this
 have hf:framesB (log.take (recAt (recallB log)))=(ts.take j,(cat (ts.take j)).length):=by
  rw[hpre]
  have:=framesN_cat (ts.take j) [] (fun t ht=>h1 t (by rw[←hts];exact List.mem_of_mem_take ht)) 2000 (by rw[←hts]at h4;simp;omega) (.inr none_nil)
  rw[List.append_nil]at this
  exact this
 have hjl:(ts.take j).length=j:=by simp;omega
 have hr:recallB (log.take (recAt (recallB log)))=some x:=by
  rw[←recall_all,hf]
  simp only[hjl]
  have:(wholeE (log.take (recAt (recallB log)))).take j=(wholeE log).take j:=by
   have hl1:(wholeE (log.take (recAt (recallB log)))).length=j:=by rw[wholeE_length,hf];exact hjl
   have hl2:(wholeE log).length=ts.length:=by rw[wholeE_length,hts]
   apply List.ext_getElem (by simp[hl1,hl2];omega)
   intro i a1 a2
   simp only[List.length_take,hl1,Nat.min_self]at a1
   obtain⟨_,e3⟩:=wholeE_at (log.take (recAt (recallB log))) i (by rw[hf];simp only[hjl];exact a1)
   obtain⟨_,e4⟩:=wholeE_at log i (by rw[←hts];omega)
   rw[List.getElem_take,List.getElem_take,e3,e4,hf,←hts]
   simp only
   rw[List.take_take,Nat.min_eq_left (by omega)]
   simp[List.getD,a1]
  rw[this]
  exact e2
 refine⟨⟨by rw[hr];rfl,?_,fun _=>?_⟩,?_⟩
 ·rw[hr,←h.rc,hx]
 ·rw[hr,hpre]
  exact e1
 ·rw[hf,←hts]
  simp only[hjl]
  exact hj
end Go.Proofs.YthmnmaemnihkeaaDoor
