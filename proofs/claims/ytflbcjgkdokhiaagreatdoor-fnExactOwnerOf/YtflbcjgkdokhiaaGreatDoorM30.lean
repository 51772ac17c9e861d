/- What strings.SplitN of Go's library answers, where the sign is one byte. -/
import Derived.Test.YtflbcjgkdokhiaaGreatDoorM28
import Derived.Test.YtflbcjgkdokhiaaGreatDoorM13
import Derived.Test.YtflbcjgkdokhiaaGreatDoorM14
import Derived.Test.YtflbcjgkdokhiaaGreatDoorM29
import Derived.Test.YtflbcjgkdokhiaaGreatDoorM9
set_option maxRecDepth 20000
set_option maxHeartbeats 4000000
namespace Go.Proofs.YtflbcjgkdokhiaaGreatDoor
open Go.ChangeShapes Go.WideShapes Go.ChangeAt Go.RowKit
theorem isidx_any (c:UInt8) (l:Bs) (w:World):
  Calls Tryz.prog 154 #[S l,.string ⟨#[c]⟩] w fun e w'=>e=.returned (.int .i64 (if posB c l=l.length then-1 else(posB c l:Int)))∧w'=w:=by
 have c0:=Tryz.stringslite_Index_one ⟨l.toArray⟩ c w
 rw[show(⟨l.toArray⟩:ByteArray).data.toList=l from rfl,index_pos]at c0
 obtain⟨z,hz⟩:∃z,z=(if posB c l=l.length then-1 else(posB c l:Int)):=⟨_,rfl⟩
 rw[←hz]at c0⊢
 clear hz
 unfold S
 go_enter Tryz.func154,Tryz.ntmps154
 go_wp2_with fail
 refine c0.mono ?_
 rintro e w' ⟨rfl,hw⟩;subst w'
 clear c0
 go_wp2_with fail
 go_ret
 exact⟨rfl,rfl⟩
theorem zerosS_eq (n:Nat):(madeCells #[Value.string ⟨#[]⟩] n).toList=(List.replicate n ([]:Bs)).map S:=by
 rw[toList_madeCells_one,List.map_replicate];rfl
def CutInv (c:UInt8) (l:Bs) (k:Nat) (out:List Bs) (s:Bs):Prop:=out.length≤k∧splitN c k l=out++splitN c (k-out.length) s
theorem CutInv.start (c:UInt8) (l:Bs) (k:Nat):CutInv c l k [] l:=⟨Nat.zero_le _,by simp⟩
theorem CutInv.next {c:UInt8} {l s:Bs} {k:Nat} {out:List Bs} (h:CutInv c l k out s) (hk:out.length<k) (hp:posB c s≠s.length):CutInv c l k (out++[before c s]) (behind c s):=by
 refine⟨by simp;omega,?_⟩
 rw[h.2,show k-out.length=(k-(out++[before c s]).length)+1 by simp;omega,splitN,posC_is,if_neg hp]
 simp[before,behind]
theorem CutInv.stop {c:UInt8} {l s:Bs} {k:Nat} {out:List Bs} (h:CutInv c l k out s) (hk:out.length=k∨posB c s=s.length):splitN c k l=out++[s]:=by
 rw[h.2]
 rcases hk with hk|hk
 ·rw[hk,Nat.sub_self,splitN]
 ·cases k-out.length with
  |zero=>rw[splitN]
  |succ m=>rw[splitN,posC_is,if_pos hk]
theorem setS_mid (out:List Bs) (m:Nat) (x:Bs) (h:0<m):(out++List.replicate m []).set out.length x=(out++[x])++List.replicate (m-1) []:=by
 obtain⟨k,rfl⟩:∃k,m=k+1:=⟨m-1,by omega⟩
 rw[List.set_append_right _ _ (by omega),Nat.sub_self,List.replicate_succ,List.set_cons_zero]
 simp
theorem below_setS {w wr:World} {g j:Nat} {x:Value} (h:Below w.heap.size w wr) (hg:w.heap.size≤g):Below w.heap.size w (wr.setCell ⟨g,j,none⟩ x):=h.setCell (p:=⟨g,j,none⟩) hg x
theorem cut_reads {w:World} {base g n:Nat} {out:List Bs} {q:Bs} (h:OwnS w base (.slice (some ⟨g,0,none⟩) n n) ((out++List.replicate (n-out.length) []).set out.length q)) (hn:out.length<n):ReadsS w (.slice (some ⟨g,0,none⟩) (out.length+1) n) (out++[q]):=by
 rw[setS_mid out _ q (by omega)]at h
 have h2:=h.reads.take (out.length+1) (by simp)
 rwa[List.take_append_of_le_length (by simp),List.take_of_length_le (by simp)]at h2
theorem igen_any (m:Nat) (m1:1≤m) (m2:m≤100) (l:Bs) (w:World) (hl:l.length≤1048576):
  Calls Tryz.prog 143 #[S l,.string ⟨#[32]⟩,.int .i64 0,.int .i64 m] w fun e w'=>∃v,e=.returned v∧ReadsS w' v (splitN 32 (min m (l.length+1)-1) l)∧Below w.heap.size w w':=by
 obtain⟨i0,hi,hz0,hz1,hz2⟩:=info_parts Tryz.infoS
 obtain⟨n,hn⟩:∃n:Nat,n=min m (l.length+1):=⟨_,rfl⟩
 rw[←hn]
 have hn1:1≤n:=by omega
 have hn5:n≤100:=by omega
 have hm0:¬(m:Int)=0:=by omega
 have hm1:¬(m:Int)<0:=by omega
 have hmin:min (m:Int) ((l.length:Int)+1)=n:=by omega
 have hsz:(⟨l.toArray⟩:ByteArray).size=l.length:=rfl
 clear hn
 unfold S
 go_enter Tryz.func143,Tryz.ntmps143
 go_wp2_with (refine wpList_make_full _ rfl _ _ 124 rfl w.heap.size 9 i0 (.string ⟨#[]⟩) 1 Tryz.underlying124 hi hz0 hz1 _ _ _ _ n rfl rfl rfl rfl (by rw[hz2];omega) (by unfold maxLen;omega) (Nat.le_refl _) ?_)
 intro w1 hown1 hgr1
 rw[zerosS_eq]at hown1
 have HO:Hid (OwnS w1 w.heap.size (.slice (some ⟨w.heap.size,0,none⟩) n n) ([]++List.replicate n [])∧Below w.heap.size w w1):=by
  refine⟨?_,(Below.refl _ _).grown hgr1 (Nat.le_refl _) (fun k e=>by cases e)⟩
  unfold OwnS
  simpa using hown1
 clear hown1 hgr1
 go_wp2
 go_loopw [0,10] (fun s i wr=>∃(q:Bs) (out:List Bs),s=.string ⟨q.toArray⟩∧i=.int .i64 out.length∧(out.length:Int)≤(n:Int)-1∧(q.length:Int)≤l.length∧Hid (OwnS wr w.heap.size (.slice (some ⟨w.heap.size,0,none⟩) n n) (out++List.replicate (n-out.length) [])∧Below w.heap.size w wr∧CutInv 32 l (n-1) out q)) (fun _ i _=>n-(intOf i).toNat)
 case atStart=>exact⟨l,[],rfl,rfl,by simp;omega,by omega,by simpa using HO.out.1,HO.out.2,CutInv.start _ _ _⟩
 case round=>
  obtain⟨q,out,rfl,rfl,ho,hq,HR⟩:=hrel
  clear HO
  have hqz:(⟨q.toArray⟩:ByteArray).size=q.length:=rfl
  have hlen:(out++List.replicate (n-out.length) []).length=n:=by simp;omega
  have HST:Hid (∀x,_):=fun x=>HR.out.1.put hlen.symm out.length (by omega) x
  have c1:=fun wx=>isidx_any 32 q wx
  have hple:=posB_le 32 q
  by_cases hlt:(out.length:Int)<(n:Int)-1
  ·by_cases hp:posB 32 q=q.length
   ·have HF:Hid (splitN 32 (n-1) l=out++[q]):=HR.out.2.2.stop (.inr hp)
    simp only[if_pos hp]at c1
    obtain⟨hf,⟨y,hc⟩,ho2⟩:=HST.out q
    unfold S at ho2 c1
    clear hp
    go_wp2_with fail
    refine(c1 _).mono ?_
    rintro e w' ⟨rfl,hw⟩;subst w'
    clear c1
    go_wp2
    go_ret
    rw[HF.out]
    exact⟨_,rfl,cut_reads ho2 (by omega),below_setS HR.out.2.1 (Nat.le_refl _)⟩
   ·simp only[if_neg hp]at c1
    have HN:Hid (CutInv 32 l (n-1) (out++[before 32 q]) (behind 32 q)):=HR.out.2.2.next (by omega) hp
    have hex1:=extract_cut q 0 (posB 32 q)
    have hex2:=extract_cut q (posB 32 q+1) q.length
    have e1:cutB q 0 (posB 32 q)=before 32 q:=by simp[cutB,before]
    have e2:cutB q (posB 32 q+1) q.length=behind 32 q:=by simp[cutB,behind]
    rw[e1]at hex1
    rw[e2]at hex2
    have hbl:=behind_len_le 32 q
    obtain⟨p,hpp⟩:∃p,p=posB 32 q:=⟨_,rfl⟩
    obtain⟨x,hx⟩:∃x,x=before 32 q:=⟨_,rfl⟩
    obtain⟨y,hy⟩:∃y,y=behind 32 q:=⟨_,rfl⟩
    rw[←hx]at hex1 HN
    rw[←hy]at hex2 HN hbl
    rw[←hpp]at hex1 hex2 hp hple
    simp only[←hpp]at c1
    obtain⟨hf,⟨y0,hc⟩,ho2⟩:=HST.out x
    have HO2:Hid (OwnS (wr.setCell ⟨w.heap.size,out.length,none⟩ (S x)) w.heap.size (.slice (some ⟨w.heap.size,0,none⟩) n n) ((out++[x])++List.replicate (n-(out++[x]).length) [])):=by
     rw[setS_mid out _ x (by omega)]at ho2
     rw[List.length_append,List.length_cons,List.length_nil,show n-(out.length+(0+1))=n-out.length-1 by omega]
     exact ho2
    have HB2:Hid (Below w.heap.size w (wr.setCell ⟨w.heap.size,out.length,none⟩ (S x))):=below_setS HR.out.2.1 (Nat.le_refl _)
    have hplt:(p:Int)+1≤(q.length:Int):=by omega
    unfold S at c1 HO2 HB2
    clear e1 e2 hpp hx hy ho2 HST
    go_wp2_with fail
    refine(c1 _).mono ?_
    rintro e w' ⟨rfl,hw⟩;subst w'
    clear c1
    go_wp2
    go_roundw
    case rel=>exact⟨y,out++[x],rfl,by simp,by simp;omega,by omega,HO2.out,HB2.out,HN.out⟩
    case measure=>simp[intOf];omega
  ·have HF:Hid (splitN 32 (n-1) l=out++[q]):=HR.out.2.2.stop (.inl (by omega))
   obtain⟨hf,⟨y,hc⟩,ho2⟩:=HST.out q
   clear c1
   unfold S at ho2
   go_wp2
   go_ret
   rw[HF.out]
   exact⟨_,rfl,cut_reads ho2 (by omega),below_setS HR.out.2.1 (Nat.le_refl _)⟩
theorem isplit_any (m:Nat) (m1:1≤m) (m2:m≤100) (l:Bs) (w:World) (hl:l.length≤1048576):
  Calls Tryz.prog 130 #[S l,.string ⟨#[32]⟩,.int .i64 m] w fun e w'=>∃v,e=.returned v∧ReadsS w' v (splitN 32 (min m (l.length+1)-1) l)∧Below w.heap.size w w':=by
 have c0:=igen_any m m1 m2 l w hl
 go_enter Tryz.func130,Tryz.ntmps130
 go_wp2_with fail
 refine c0.mono ?_
 rintro e w1 ⟨v,rfl,h1,h2⟩
 clear c0
 go_wp2_with fail
 go_ret
 exact⟨v,rfl,h1,h2⟩
end Go.Proofs.YtflbcjgkdokhiaaGreatDoor
set_option maxRecDepth 20000
set_option maxHeartbeats 4000000
namespace Go.Proofs.YtflbcjgkdokhiaaGreatDoor
open Go.ChangeShapes Go.WideShapes Go.ChangeAt Go.RowKit
def wordsN (s:Bs):List Bs:=splitN 32 (min 5 ((behind 32 s).length+1)-1) (behind 32 s)
theorem head_before (s:Bs):(splitB 32 s).head? =some (before 32 s):=by
 rw[splitB_first,posC_is]
 split
 ·rename_i h
  rw[(behind_miss h).2.1];rfl
 ·rfl
theorem words_four {s:Bs} (h:(wordsN s).length=4):(splitB 32 s).tail=wordsN s:=by
 rw[splitB_first,posC_is]
 split
 ·rename_i hp
  exfalso
  unfold wordsN at h
  rw[(behind_miss hp).1]at h
  simp[splitN]at h
 ·unfold wordsN at h⊢
  rcases split_four (behind 32 s)with e|⟨e1,_⟩
  ·rw[e];rfl
  ·exact absurd h e1
theorem words_not {s:Bs} (h:(wordsN s).length≠4):readR s=none:=by
 refine readR_len ?_
 rw[splitB_first,posC_is]
 split
 ·simp
 ·unfold wordsN at h
  rcases split_four (behind 32 s)with e|⟨_,e2⟩
  ·rw[e]at h
   simp only[List.length_cons]
   intro h2
   exact h (by unfold behind;omega)
  ·simp only[List.length_cons]
   intro h2
   exact e2 (by unfold behind;omega)
theorem splitN_part (c:UInt8) (k:Nat):∀s:Bs,∀p∈splitN c k s,p.length≤s.length:=by
 induction k with
 |zero=>intro s p hp;simp[splitN]at hp;rw[hp];exact Nat.le_refl _
 |succ k ih=>
  intro s p hp
  rw[splitN]at hp
  split at hp
  ·simp at hp;rw[hp];exact Nat.le_refl _
  ·rcases List.mem_cons.1 hp with rfl|hp
   ·simp;omega
   ·have:=ih _ p hp;simp at this;omega
def row4 (f:Nat→Int):Array Value:=#[.int .i64 (f 0),.int .i64 (f 1),.int .i64 (f 2),.int .i64 (f 3)]
def Row4 (w:World) (g:Nat) (f:Nat→Int):Prop:=w.heap[g]?=some (.cells (row4 f) 152 (0,0))
def upd4 (f:Nat→Int) (j:Nat) (x:Int):Nat→Int:=fun k=>if k=j then x else f k
theorem fours {p:Nat→Prop} (h0:p 0) (h1:p 1) (h2:p 2) (h3:p 3):∀j,j<4→p j
 |0,_=>h0|1,_=>h1|2,_=>h2|3,_=>h3
 |_+4,h=>by omega
theorem row4_at (f:Nat→Int):∀j,j<4→(row4 f)[j]?=some (.int .i64 (f j)):=fours rfl rfl rfl rfl
theorem row4_set (f:Nat→Int) (x:Int):∀j,j<4→(row4 f).setIfInBounds j (.int .i64 x)=row4 (upd4 f j x):=fours rfl rfl rfl rfl
theorem Row4.cell {w:World} {g:Nat} {f:Nat→Int} (h:Row4 w g f) (j:Nat) (hj:j<4):w.cell? ⟨g,j,none⟩=some (.int .i64 (f j)):=by
 rw[cell_of_row w g j _ _ _ h,row4_at f j hj]
theorem Row4.frozen {w:World} {g:Nat} {f:Nat→Int} (h:Row4 w g f) (j:Nat):w.frozen? ⟨g,j,none⟩=false:=frozen_of_row w g j _ _ h
theorem Row4.new (w:World) (f:Nat→Int):Row4 (w.alloc (.cells (row4 f) 152)) w.heap.size f:=heap_alloc_new w _
theorem Row4.setCell {w:World} {g:Nat} {f:Nat→Int} (h:Row4 w g f) (j:Nat) (hj:j<4) (x:Int):Row4 (w.setCell ⟨g,j,none⟩ (.int .i64 x)) g (upd4 f j x):=by
 have:=heap_setCell_same w g j _ _ (.int .i64 x) h
 rw[row4_set f x j hj]at this
 exact this
def part4 (vs:List Bs) (j:Nat):Nat→Int:=fun k=>if k<j then num (vs.getD k [])else 0
theorem part4_step (vs:List Bs) (j:Nat):upd4 (part4 vs j) j (num (vs.getD j []))=part4 vs (j+1):=by
 funext k
 unfold upd4 part4
 by_cases e:k=j
 ·subst e;simp
 ·have:k<j+1↔k<j:=by omega
  simp[e,this]
theorem ireadR_any (s:Bs) (w:World) (hl:s.length≤1048576):
  Calls Tryz.prog 118 #[S s] w fun e w'=>e=.returned (.tuple #[RV (recO s),.bool (isR s)])∧Below w.heap.size w w':=by
 have R0:=RecB.new w 50 Rc.zero
 have B0:Below w.heap.size w (w.alloc (.cells (recA Rc.zero) 50)):=(Below.refl _ _).alloc (Nat.le_refl _) _
 have hbl:=behind_len_le 32 s
 have c1:=fun wx=>icut_any 32 s wx hl
 have c2:=fun wx=>isplit_any 5 (by omega) (by omega) (behind 32 s) wx (by omega)
 have hvs:splitN 32 (min 5 ((behind 32 s).length+1)-1) (behind 32 s)=wordsN s:=rfl
 simp only[hvs]at c2
 have HPT:Hid (∀p∈wordsN s,p.length≤1048576):=fun p hp=>by have:=splitN_part 32 _ (behind 32 s) p hp;omega
 have E1:Hid ((wordsN s).length≠4→readR s=none):=words_not
 have E2:Hid (before 32 s≠recW→readR s=none):=fun h=>readR_word (by rw[head_before];intro e;exact h (Option.some.inj e))
 have E3:Hid ((wordsN s).length=4→∀j,j<4→okN ((wordsN s).getD j [])=false→readR s=none):=fun h j hj=>by
  have:=words_four h
  have h3:=readR_num (s:=s) (j:=j)
  rw[this]at h3
  exact h3 (by omega)
 have E4:Hid ((wordsN s).length=4→(recOf (wordsN s)).ok=false→readR s=none):=fun h=>by
  have:=words_four h
  have h3:=readR_bad (s:=s)
  rwa[this]at h3
 have E5:Hid (before 32 s=recW→(wordsN s).length=4→(wordsN s).all okN=true→(recOf (wordsN s)).ok=true→readR s=some (recOf (wordsN s))):=fun h0 h=>by
  have:=words_four h
  have h3:=readR_good (s:=s) (by rw[head_before,h0])
  rw[this]at h3
  exact h3 h
 clear hvs
 obtain⟨vs,hv⟩:∃vs,vs=wordsN s:=⟨_,rfl⟩
 obtain⟨bf,hbf⟩:∃bf,bf=before 32 s:=⟨_,rfl⟩
 obtain⟨bh,hbh⟩:∃bh,bh=behind 32 s:=⟨_,rfl⟩
 obtain⟨hc,hhc⟩:∃hc,hc=hasC 32 s:=⟨_,rfl⟩
 rw[←hv]at HPT E1 E3 E4 E5
 rw[←hbf]at E2 E5
 simp only[←hbf,←hbh,←hhc]at c1
 simp only[←hv,←hbh]at c2
 clear hv hbf hbh hhc hbl hl
 unfold S at*
 go_enter Tryz.func118,Tryz.ntmps118
 go_wp2_with fail
 refine(c1 _).mono ?_
 rintro e w1 ⟨rfl,n1,hw1⟩
 have b1:Below (w.alloc (.cells (recA Rc.zero) 50)).heap.size (w.alloc (.cells (recA Rc.zero) 50)) w1:=by rw[hw1];exact below_drewN (Below.refl _ _) n1
 have R1:=R0.below b1
 have B1:=B0.trans (b1.mono B0.size)
 clear hw1 c1 b1 R0 B0
 go_wp2_with fail
 refine(c2 _).mono ?_
 rintro e wS ⟨v,rfl,o1,b2⟩
 have RS:=R1.below b2
 have BS:=B1.trans (b2.mono B1.size)
 have hsS:w.heap.size<wS.heap.size:=RS.lt
 clear c2 b2 R1 B1
 obtain⟨ao,cap,rfl,hcap, -,hcells⟩:=o1
 by_cases hw0:bf=recW
 ·subst hw0
  by_cases h4:vs.length=4
  ·replace E3:=E3.out h4
   replace E4:=E4.out h4
   replace E5:=E5.out rfl h4
   have H3:Hid (∀j,j<4→okN (vs.getD j [])=false→readR s=none):=E3
   have H4:Hid ((recOf vs).ok=false→readR s=none):=E4
   have H5:Hid (vs.all okN=true→(recOf vs).ok=true→readR s=some (recOf vs)):=E5
   obtain⟨vb,vo,rfl,hcell0⟩:∃b off,ao=some ⟨b,off,none⟩∧∀j,j<vs.length→wS.cell? ⟨b,off+j,none⟩=some (S (vs.getD j [])):=by
    rcases hcells with e|⟨b,off,e,h⟩
    ·rw[e]at h4;simp at h4
    ·exact⟨b,off,e,h⟩
   have HC:Hid (∀j,j<4→wS.cell? ⟨vb,vo+j,none⟩=some (.string ⟨(vs.getD j []).toArray⟩)):=fun j hj=>hcell0 j (by omega)
   have HV:Hid (vs.length=4):=h4
   rw[h4]at hcap⊢
   unfold recW
   clear E1 E2 E3 E4 E5 hcells hcell0 h4
   go_wp2
   go_loopw [33] (fun i wr=>∃j:Nat,i=.int .i64 j∧(j:Int)≤4∧Hid (Row4 wr wS.heap.size (part4 vs j)∧Below wS.heap.size wS wr∧(vs.take j).all okN=true)) (fun i _=>4-(intOf i).toNat)
   case atStart=>exact⟨0,rfl,by omega,Row4.new wS (part4 vs 0),(Below.refl _ _).alloc (Nat.le_refl _) _,rfl⟩
   case round=>
    obtain⟨j,rfl,hj,HR⟩:=hrel
    by_cases hlt:(j:Int)<4
    ·have hjv:j<vs.length:=by have:=HV.out;omega
     have hcw:=HC.out j (by omega)
     have hcell:wr.cell? ⟨vb,vo+j,none⟩=some (.string ⟨(vs.getD j []).toArray⟩):=by
      rw[HR.out.2.1.cell (p:=⟨vb,vo+j,none⟩) (World.block_lt_of_cell? wS _ hcw)]
      exact hcw
     have hpl:=HPT.out _ (getD_mem vs j hjv)
     have c2:=fun wx=>iread_any (vs.getD j []) wx hpl
     have E3j:Hid (okN (vs.getD j [])=false→readR s=none):=H3.out j (by omega)
     have HA:Hid (okN (vs.getD j [])=true→(vs.take (j+1)).all okN=true):=fun h=>all_take HR.out.2.2 hjv h
     have k0:=HR.out.1.cell j (by omega)
     have f0:=HR.out.1.frozen j
     have hw4:=HR.out.1.setCell j (by omega) (num (vs.getD j []))
     rw[part4_step]at hw4
     have HB2:Hid (Below wS.heap.size wS (wr.setCell ⟨wS.heap.size,j,none⟩ (.int .i64 (num (vs.getD j []))))):=HR.out.2.1.setCell (p:=⟨wS.heap.size,j,none⟩) (Nat.le_refl _) _
     have HW4:Hid (Row4 (wr.setCell ⟨wS.heap.size,j,none⟩ (.int .i64 (num (vs.getD j [])))) wS.heap.size (part4 vs (j+1))):=hw4
     obtain⟨p,hp⟩:∃p,p=vs.getD j []:=⟨_,rfl⟩
     rw[←hp]at hcell hpl E3j HA HB2 HW4
     simp only[←hp]at c2
     obtain⟨b,hb⟩:∃b,b=okN p:=⟨_,rfl⟩
     obtain⟨x,hx⟩:∃x,x=num p:=⟨_,rfl⟩
     rw[←hb]at E3j HA
     rw[←hx]at HB2 HW4
     simp only[←hb,←hx]at c2
     unfold S at c2
     clear hp hb hx hcw hw4
     go_wp2_with fail
     refine(c2 _).mono ?_
     rintro e w' ⟨rfl,hw⟩;subst w'
     clear c2
     cases b with
     |false=>
      have HE:Hid (recO s=Rc.zero∧isR s=false):=readR_not (E3j.out rfl)
      have R1:=RS.below (HR.out.2.1)
      have B1:=BS.trans (HR.out.2.1.mono BS.size)
      have hs1:=HR.out.2.1.size
      go_wp2_with (refine wpList_putR rfl _ _ rfl w.heap.size Rc.zero Rc.zero rfl rfl R1 ?_;intro w2 R2 G2)
      refine bodyPost_ret (results_R2 rfl _ _ w.heap.size _ _ rfl rfl R2) rfl ?_
      rw[HE.out.1,HE.out.2]
      exact⟨rfl,B1.grown G2 (by omega) (fun k e=>by cases e;exact Nat.le_refl _)⟩
     |true=>
      have HA2:Hid ((vs.take (j+1)).all okN=true):=HA.out rfl
      clear HA E3j
      go_wp2
      go_roundw
      case rel=>exact⟨j+1,by go_num,by omega,HW4.out,HB2.out,HA2.out⟩
      case measure=>simp[intOf];omega
    ·obtain rfl:j=4:=by omega
     have hall:vs.all okN=true:=by have:=HR.out.2.2;rwa[List.take_of_length_le (by have:=HV.out;omega)]at this
     have k0:=HR.out.1.cell 0 (by omega)
     have k1:=HR.out.1.cell 1 (by omega)
     have k2:=HR.out.1.cell 2 (by omega)
     have k3:=HR.out.1.cell 3 (by omega)
     have p0:part4 vs 4 0=(recOf vs).e:=rfl
     have p1:part4 vs 4 1=(recOf vs).s:=rfl
     have p2:part4 vs 4 2=(recOf vs).t:=rfl
     have p3:part4 vs 4 3=(recOf vs).n:=rfl
     rw[p0]at k0
     rw[p1]at k1
     rw[p2]at k2
     rw[p3]at k3
     clear p0 p1 p2 p3
     obtain⟨r,hr⟩:∃r,r=recOf vs:=⟨_,rfl⟩
     rw[←hr]at k0 k1 k2 k3 H4 H5
     have R1:=RS.below (HR.out.2.1)
     have B1:=BS.trans (HR.out.2.1.mono BS.size)
     have hs1:=HR.out.2.1.size
     have hgl:wS.heap.size<wr.heap.size:=World.block_lt_of_cell? wr _ k0
     have hne:wS.heap.size≠wr.heap.size:=by omega
     have c3:=fun wx=>irecok_any r wx
     have HF:Hid (r.ok=false→recO s=Rc.zero∧isR s=false):=fun h=>readR_not (H4.out h)
     have HG:Hid (r.ok=true→recO s=r∧isR s=true):=fun h=>readR_yes (H5.out hall h)
     obtain⟨b,hb⟩:∃b,b=r.ok:=⟨_,rfl⟩
     rw[←hb]at HF HG
     simp only[←hb]at c3
     clear hb hr hall HR H3 H4 H5 HC HPT HV
     obtain⟨w3,hw3⟩:∃w3,w3=wr.alloc (.cells (recA r) 50):=⟨_,rfl⟩
     have R3:RecB w3 w.heap.size 50 Rc.zero:=by rw[hw3];exact R1.alloc _
     have Q3:RecB w3 wr.heap.size 50 r:=by rw[hw3];exact RecB.new wr _ r
     have B3:Below w.heap.size w w3:=by rw[hw3];exact B1.alloc B1.size _
     unfold recA at hw3
     unfold RV at c3
     have hrr:w.heap.size≠wr.heap.size:=by omega
     clear R1 B1
     go_wp2_with fail
     rw[←hw3]
     refine Calls.mono (c3 _) ?_
     rintro e w4 ⟨rfl,b4⟩
     have R4:=R3.below b4
     have Q4:=Q3.below b4
     have B4:=B3.trans (b4.mono B3.size)
     have hs4:=R4.lt
     clear c3 b4 R3 Q3 B3 hw3 k0 k1 k2 k3
     cases b with
     |false=>
      have HE:=HF.out rfl
      go_wp2_with (refine wpList_putR rfl _ _ rfl w.heap.size Rc.zero Rc.zero rfl rfl R4 ?_;intro w5 R5 G5)
      refine bodyPost_ret (results_R2 rfl _ _ w.heap.size _ _ rfl rfl R5) rfl ?_
      rw[HE.1,HE.2]
      exact⟨rfl,B4.grown G5 (by omega) (fun k e=>by cases e;exact Nat.le_refl _)⟩
     |true=>
      have HE:=HG.out rfl
      go_wp2_with (first|(refine wpList_getR rfl _ rfl wr.heap.size rfl r Q4 ?_)|(refine wpList_putR rfl _ _ rfl w.heap.size r Rc.zero rfl rfl R4 ?_;intro w5 R5 G5))
      refine bodyPost_ret (results_R2 rfl _ _ w.heap.size _ _ rfl rfl R5) rfl ?_
      rw[HE.1,HE.2]
      exact⟨rfl,B4.grown G5 (by omega) (fun k e=>by cases e;exact Nat.le_refl _)⟩
  ·have HE:Hid (recO s=Rc.zero∧isR s=false):=readR_not (E1.out h4)
   have h4':((vs.length:Int) !=4)=true:=by simp;omega
   unfold recW
   clear h4 E1 E2 E3 E4 E5 HPT hcells
   go_wp2_with (refine wpList_putR rfl _ _ rfl w.heap.size Rc.zero Rc.zero rfl rfl RS ?_;intro w2 R2 G2)
   refine bodyPost_ret (results_R2 rfl _ _ w.heap.size _ _ rfl rfl R2) rfl ?_
   rw[HE.out.1,HE.out.2]
   exact⟨rfl,BS.grown G2 (by omega) (fun k e=>by cases e;exact Nat.le_refl _)⟩
 ·have HE:Hid (recO s=Rc.zero∧isR s=false):=readR_not (E2.out hw0)
  have hbeq:(bf==recW)=false:=by simpa using hw0
  unfold recW at hbeq
  clear hw0 E1 E2 E3 E4 E5 HPT hcells
  go_wp2_with (refine wpList_putR rfl _ _ rfl w.heap.size Rc.zero Rc.zero rfl rfl RS ?_;intro w2 R2 G2)
  refine bodyPost_ret (results_R2 rfl _ _ w.heap.size _ _ rfl rfl R2) rfl ?_
  rw[HE.out.1,HE.out.2]
  exact⟨rfl,BS.grown G2 (by omega) (fun k e=>by cases e;exact Nat.le_refl _)⟩
end Go.Proofs.YtflbcjgkdokhiaaGreatDoor
