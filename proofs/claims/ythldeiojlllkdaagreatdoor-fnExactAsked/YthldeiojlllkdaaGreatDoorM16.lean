/- A command in a block of five cells: loads, stores and answers of the whole struct. -/
import Derived.Test.YthldeiojlllkdaaGreatDoorM15
import Derived.Deep.OwnRows
set_option maxRecDepth 20000
set_option maxHeartbeats 1000000
namespace Go.Proofs.YthldeiojlllkdaaGreatDoor
open Go.ChangeShapes Go.WideShapes Go.ChangeAt Go.RowKit
def cmA (c:Cm):Array Value:=#[.int .i64 c.o,.int .i64 c.p,.int .i64 c.a,.int .i64 c.b,.int .i64 c.k]
def CV (c:Cm):Value:=.agg (cmA c)
def kF (l:Bs) (j:Nat):Int:=(l.take j).foldl (fun n b=>n+am b) 0
theorem lE (l:Bs) (j:Nat) (h:j<l.length):kF l (j+1)=kF l j+am (l.getD j 0):=by
 unfold kF;rw[fO l j h,List.foldl_append];simp[h]
theorem Cc (l:Bs) (j:Nat):0<=kF l j/\kF l j<=256*j:=by
 induction j with
 |zero=>simp[kF]
 |succ j ih=>
  by_cases h:j<l.length
  ·have:=bm (l.getD j 0)
   rw[lE l j h];omega
  ·have:kF l (j+1)=kF l j:=by unfold kF;rw[List.take_of_length_le Ff,List.take_of_length_le Ff]
   rw[this];omega
def CmB (w:World) (g:Nat) (t:TypeId) (c:Cm):Prop:=w.heap[g]?=some (.cells (cmA c) t (0,0))
theorem CmB.lt {w:World} {g:Nat} {t:TypeId} {c:Cm} (h:CmB w g t c):g<w.heap.size:=by
 rcases Nat.lt_or_ge g w.heap.size with hlt|hge
 ·exact hlt
 ·rw[CmB,Array.getElem?_eq_none hge]at h;cases h
theorem CmB.new (w:World) (t:TypeId) (c:Cm):CmB (w.alloc (.cells (cmA c) t)) w.heap.size t c:=heap_alloc_new w _
theorem CmB.below {w w':World} {g:Nat} {t:TypeId} {c:Cm} (h:CmB w g t c) (hb:iO w w'):CmB w' g t c:=(hb.block g h.lt).trans h
theorem CmB.kept {w w':World} {g:Nat} {t:TypeId} {c:Cm} {row:Option Nat} (h:CmB w g t c) (hg:w.grownBy w' row) (hne:some g≠row):CmB w' g t c:=(hg.block g h.lt hne).trans h
theorem CmB.alloc {w:World} {g:Nat} {t:TypeId} {c:Cm} (h:CmB w g t c) (o:Obj):CmB (w.alloc o) g t c:=(Below.heap_alloc w o g h.lt).trans h
theorem CmB.cell {w:World} {g:Nat} {t:TypeId} {c:Cm} (h:CmB w g t c) (j:Nat) {x:Value} (e:(cmA c)[j]?=some x):w.cell? ⟨g,j,none⟩=some x:=by rw[cell_of_row w g j _ _ _ h,e]
theorem CmB.frozen {w:World} {g:Nat} {t:TypeId} {c:Cm} (h:CmB w g t c) (j:Nat):w.frozen? ⟨g,j,none⟩=false:=frozen_of_row w g j _ _ h
theorem yz (w:World) (g:Nat) (cs:Array Value):w.grownBy (w.setRow g cs) (some g):=
 ⟨rfl,rfl,rfl,by simp,fun k _ hne=>_root_.Go.setRow_other w g k cs (fun e=>hne (by rw[e]))⟩
theorem Cd (c:Cm):(cmA c).all (·.oneCell')=true:=by simp[cmA,Value.oneCell']
theorem Gx:(Tryz.prog.info? 66).map (·.size)=some 5:=by kernel_rfl
theorem Hv:∃fs,Tryz.prog.underlying 66=some (.struct fs):=⟨_,Tryz.underlying66⟩
theorem eB {ops:Array Oper} {rest:List Oper} {o:Oper} {a:Act} {w:World} {Q:Exit->Act->World->Prop} (hgd:o.guard=none) (x:Operand) (ho:o.op=.load 66 x)
  (g:Nat) (hx:a.eval x=.pointer (some ⟨g,0,none⟩)) (c:Cm) (hr:CmB w g 66 c)
  (h:wpList Tryz.prog ops Q rest (a.put o.dst (CV c)) w):wpList Tryz.prog ops Q (o::rest) a w:=by
 obtain⟨fs,hu⟩:=Hv;exact wpList_load_row hgd _ x ho g hx _ _ _ _ hr hu rfl Gx h
theorem dX {ops:Array Oper} {rest:List Oper} {o:Oper} {a:Act} {w:World} {Q:Exit->Act->World->Prop} (hgd:o.guard=none) (x y:Operand) (ho:o.op=.store 66 x y)
  (g:Nat) (c c':Cm) (hx:a.eval x=.pointer (some ⟨g,0,none⟩)) (hy:a.eval y=CV c) (hr:CmB w g 66 c')
  (h:∀w',CmB w' g 66 c->w.grownBy w' (some g)->wpList Tryz.prog ops Q rest (a.put o.dst undef) w'):wpList Tryz.prog ops Q (o::rest) a w:=
 wpList_store_row hgd _ x y ho g (cmA c) hx hy _ _ hr Gx rfl (Cd c) (h _ (setRow_heap w g _ _ _ _ hr) (yz w g _))
theorem yB {fn:Func} {p:Tmp} (h:fn.results=#[.cell p 66]) (tmps:Array Value) (w:World) (g:Nat) (c:Cm)
  (hp:tmps.getD p undef=.pointer (some ⟨g,0,none⟩)) (hr:CmB w g 66 c):(results fn tmps).run Tryz.prog w=.ok (CV c) w:=by
 obtain⟨fs,hu⟩:=Hv;exact results_cell_row h tmps w g _ _ _ _ hp hr hu rfl Gx
theorem da {fn:Func} {p q:Tmp} (h:fn.results=#[.cell p 66,.tmp q]) (tmps:Array Value) (w:World) (g:Nat) (c:Cm) (x:Value)
  (hp:tmps.getD p undef=.pointer (some ⟨g,0,none⟩)) (hx:tmps.getD q undef=x) (hr:CmB w g 66 c):(results fn tmps).run Tryz.prog w=.ok (.tuple #[CV c,x]) w:=by
 obtain⟨fs,hu⟩:=Hv;rw[results_cell_tmp h,hp,hx];simp only[asAddr,Sem.run_pure,Result.andThen_ok];rw[run_loadVar_row w g _ _ _ _ _ hr hu rfl Gx];rfl
theorem eC {fn:Func} {p q:Tmp} (h:fn.results=#[.cell p 66,.cell q 66]) (tmps:Array Value) (w:World) (g k:Nat) (c d:Cm)
  (hp:tmps.getD p undef=.pointer (some ⟨g,0,none⟩)) (hq:tmps.getD q undef=.pointer (some ⟨k,0,none⟩)) (hc:CmB w g 66 c) (hd:CmB w k 66 d):(results fn tmps).run Tryz.prog w=.ok (.tuple #[CV c,CV d]) w:=by
 obtain⟨fs,hu⟩:=Hv;have h1:=run_loadVar_row w g _ _ _ _ _ hc hu rfl Gx;have h2:=run_loadVar_row w k _ _ _ _ _ hd hu rfl Gx;have hp':tmps[p]?.getD undef=.pointer (some ⟨g,0,none⟩):=by simpa using hp
 have hq':tmps[q]?.getD undef=.pointer (some ⟨k,0,none⟩):=by simpa using hq
 simp[results,h,hp',hq',asAddr,h1,h2];exact⟨rfl,rfl⟩
theorem jY {s:Bs} (h:s.length<8):aO s=1/\ax s=Cm.zero:=by
 have:aO s=1:=by unfold aO;rw[if_pos h]
 exact⟨this,gm (by rw[this];decide)⟩
theorem lF {s:Bs} (h:8<s.length):aO s=2/\ax s=Cm.zero:=by
 have:aO s=2:=by unfold aO;rw[if_neg Ff,if_pos h]
 exact⟨this,gm (by rw[this];decide)⟩
theorem sL {s:Bs} (h:s.length=8) (h2:am (s.getD 7 0)≠eW (s.take 7)):aO s=3/\ax s=Cm.zero:=by
 have:aO s=3:=by unfold aO;rw[if_neg Ff,if_neg Ff,if_pos h2]
 exact⟨this,gm (by rw[this];decide)⟩
theorem xS {s:Bs} (h:s.length=8) (h2:am (s.getD 7 0)=eW (s.take 7)) (h3:inI (fA s).o 1 12=false):aO s=4/\ax s=Cm.zero:=by
 have:aO s=4:=by unfold aO;rw[if_neg Ff,if_neg Ff,if_neg (by simpa using h2),if_pos h3]
 exact⟨this,gm (by rw[this];decide)⟩
theorem nI {s:Bs} (h:s.length=8) (h2:am (s.getD 7 0)=eW (s.take 7)) (h3:inI (fA s).o 1 12=true) (h4:(fA s).ok=false):aO s=5/\ax s=Cm.zero:=by
 have:aO s=5:=by unfold aO;rw[if_neg Ff,if_neg Ff,if_neg (by simpa using h2),if_neg (by rw[h3];decide),if_pos h4]
 exact⟨this,gm (by rw[this];decide)⟩
theorem xU {s:Bs} (h:s.length=8) (h2:am (s.getD 7 0)=eW (s.take 7)) (h4:(fA s).ok=true):aO s=0/\ax s=fA s:=by
 have:aO s=0:=by unfold aO;rw[if_neg Ff,if_neg Ff,if_neg (by simpa using h2),if_neg (by rw[Ca h4];decide),if_neg (by rw[h4];decide)]
 exact⟨this,by unfold ax;rw[if_pos this]⟩
theorem GC:IsS 44 2:=⟨⟨_,Tryz.underlying44⟩,by kernel_rfl⟩
theorem GI:IsS 36 2:=⟨⟨_,Tryz.underlying36⟩,by kernel_rfl⟩
def zeD:Array Value:=#[.slice none 0 0,.slice none 0 0]
theorem aC (x:An):(anA x).all (·.oneCell')=true:=by simp[anA,S,Value.oneCell']
theorem cH {u v:Value} (hu:u.oneCell'=true) (hv:v.oneCell'=true):(#[u,v]:Array Value).all (·.oneCell')=true:=by simp[hu,hv]
theorem bg {fn:Func} {p q:Tmp} (h:fn.results=#[.cell p 36,.cell q 44]) (tmps:Array Value) (w:World) (g k:Nat) (cs ds:Array Value) (hc:cs.size=2) (hd:ds.size=2)
  (hp:tmps.getD p undef=.pointer (some ⟨g,0,none⟩)) (hq:tmps.getD q undef=.pointer (some ⟨k,0,none⟩)) (h1:StB w g 36 cs) (h2:StB w k 44 ds):(results fn tmps).run Tryz.prog w=.ok (.tuple #[.agg cs,.agg ds]) w:=by
 have l1:=gV GI w g cs hc h1;have l2:=gV GC w k ds hd h2;have hp':tmps[p]?.getD undef=.pointer (some ⟨g,0,none⟩):=by simpa using hp
 have hq':tmps[q]?.getD undef=.pointer (some ⟨k,0,none⟩):=by simpa using hq
 simp[results,h,hp',hq',asAddr,l1,l2]
structure Vl (w wx:World) (u v:Value) (c:Cm) (d:Array Value) (x:An):Prop where
 dk:StB wx w.heap.size 36 #[u,v]
 cm:CmB wx (w.heap.size+1) 66 c
 rd:StB wx (w.heap.size+1+1) 36 d
 ra:StB wx (w.heap.size+1+1+1) 44 (anA x)
 bl:iO w wx
 sz:w.heap.size+4<=wx.heap.size
theorem Vl.start (w:World) (u v:Value) (c:Cm):Vl w ((((w.alloc (.cells #[u,v] 36)).alloc (.cells (cmA c) 66)).alloc (.cells zeD 36)).alloc (.cells (anA ⟨0,[]⟩) 44)) u v c zeD ⟨0,[]⟩:=by
 have a1:=StB.new w 36 #[u,v];have a2:=CmB.new (w.alloc (.cells #[u,v] 36)) 66 c;have a3:=StB.new ((w.alloc (.cells #[u,v] 36)).alloc (.cells (cmA c) 66)) 36 zeD;have a4:=StB.new (((w.alloc (.cells #[u,v] 36)).alloc (.cells (cmA c) 66)).alloc (.cells zeD 36)) 44 (anA ⟨0,[]⟩);simp only[World.size_alloc]at a2 a3 a4;refine⟨((a1.alloc _).alloc _).alloc _,(a2.alloc _).alloc _,a3.alloc _,a4,?_,by simp⟩;exact((Fc.alloc Fg _).alloc (by simp;omega) _).alloc (by simp;omega) _
theorem Vl.next {w wx wy:World} {u v:Value} {c:Cm} {d:Array Value} {x:An} (h:Vl w wx u v c d x) (b:iO wx wy):Vl w wy u v c d x:=
 ⟨h.dk.below b,h.cm.below b,h.rd.below b,h.ra.below b,h.bl.trans (b.mono h.bl.size),Nat.le_trans h.sz b.size⟩
theorem Vl.grown {w wx wy:World} {u v:Value} {c:Cm} {d:Array Value} {x:An} {g:Nat} (h:Vl w wx u v c d x) (b:wx.grownBy wy (some g)) (hg:w.heap.size+4<=g):Vl w wy u v c d x:=
 ⟨h.dk.kept b (by simp;omega),h.cm.kept b (by simp;omega),h.rd.kept b (by simp;omega),h.ra.kept b (by simp;omega),h.bl.grown b h.bl.size (fun k e=>by cases e;omega),Nat.le_trans h.sz b.size⟩
theorem Vl.drew {w wx:World} {u v:Value} {c:Cm} {d:Array Value} {x:An} (h:Vl w wx u v c d x):Vl w wx.drew u v c d x:=
 ⟨h.dk,h.cm,h.rd,h.ra,h.bl.drew,h.sz⟩
theorem db {fn:Func} {p q:Tmp} (h:fn.results=#[.cell p 42,.cell q 44]) (tmps:Array Value) (w:World) (g k:Nat) (cs ds:Array Value) (hc:cs.size=20) (hd:ds.size=2)
  (hp:tmps.getD p undef=.pointer (some ⟨g,0,none⟩)) (hq:tmps.getD q undef=.pointer (some ⟨k,0,none⟩)) (h1:StB w g 42 cs) (h2:StB w k 44 ds):(results fn tmps).run Tryz.prog w=.ok (.tuple #[.agg cs,.agg ds]) w:=by
 have l1:=gV GO w g cs hc h1;have l2:=gV GC w k ds hd h2;have hp':tmps[p]?.getD undef=.pointer (some ⟨g,0,none⟩):=by simpa using hp
 have hq':tmps[q]?.getD undef=.pointer (some ⟨k,0,none⟩):=by simpa using hq
 simp[results,h,hp',hq',asAddr,l1,l2]
theorem nP:IsS 66 5:=⟨⟨_,Tryz.underlying66⟩,by kernel_rfl⟩
def isG (v:Value):dP:=⟨fun u=>u=v,fun _ _=>True⟩
theorem DM {P:Program} {f:FuncId} {args:Array Value} {w:World} {v:Value} (hc:Calls P f args w fun e w'=>e=.returned v/\iO w w'):Calls P f args w (fun e w''=>∃u,e=.returned u/\(isG v).V u/\(isG v).F u w''/\dQ w w''):=hc.mono fun _ _ ⟨he,b⟩=>⟨_,he,rfl,trivial,b⟩
def tf (m:Nat) (s:Sr) (x:An):dP:=
 ⟨fun u=>∃ao ac bo bc ko kc,u=.tuple #[.agg #[.slice ao s.xs.length ac,.slice bo s.ys.length bc,.slice ko s.h.ks.length kc,.int .i64 s.h.kd,.int .i64 s.h.ho,.int .i64 s.h.tu],.agg (anA x)],
  fun u w=>∀a b k n1 n2 n3 y,u=.tuple #[.agg #[a,b,k,n1,n2,n3],y]->aZ w m a b k s.xs s.ys s.h.ks⟩
theorem nQ {m:Nat} {s:Sr} {v:An} {u:Value} {x y:World} (hx:(tf m s v).F u x) (b:dQ x y):(tf m s v).F u y:=fun a b' k n1 n2 n3 t e=>(hx a b' k n1 n2 n3 t e).below b
theorem xX {P:Program} {f:FuncId} {args:Array Value} {w:World} {m:Nat} {s:Sr} {x:An} (hm:m<=w.heap.size) (hc:Calls P f args w fun e w'=>∃a b k,e=.returned (.tuple #[.agg (srA a b k s.h),.agg (anA x)])/\aZ w' w.heap.size a b k s.xs s.ys s.h.ks/\iO w w'):
  Calls P f args w (fun e w''=>∃u,e=.returned u/\(tf m s x).V u/\(tf m s x).F u w''/\dQ w w''):=by
 refine hc.mono ?_;rintro e w' ⟨a,b,k,rfl,o,bl⟩;obtain⟨ao,ac,rfl⟩:=o.1.1.reads.form;obtain⟨bo,bc,rfl⟩:=o.1.2.1.reads.form;obtain⟨ko,kc,rfl⟩:=o.2.1.reads.form;exact⟨_,rfl,⟨ao,ac,bo,bc,ko,kc,rfl⟩,fun a b k n1 n2 n3 y e=>by cases e;exact o.mono hm,bl⟩
theorem pu (x:An) (w:World):
  Calls Tryz.prog 9 #[AV x,AV x] w fun e w'=>e=.returned (.bool true)/\iO w w':=by
 obtain⟨st,tx⟩:=x;have hb:Hid (iO w ((w.alloc (.cells (anA ⟨st,tx⟩) 44)).alloc (.cells (anA ⟨st,tx⟩) 44))):=Fc.alloc Fg _;have e1:(st !=st)=false:=by simp
 have e2:(tx==tx)=true:=by simp
 unfold AV anA S at*;dsimp only at*;go_enter Tryz.func9,Tryz.ntmps9;go_wp2;go_ret;exact⟨rfl,hb.out⟩
theorem uz.ask (n:Nd) (who:Int) (b:Bs):uz (n.Ask who b).1:=by
 unfold Nd.Ask;split
 ·rename_i ok
  exact .inr (((Nd.ok_iff n).1 ok).ask who b (fun h=>(jX h).1)).1
 ·exact .inl rfl
def Blk2 (g:Nat) (t:TypeId) (cs:Array Value) (k:Nat) (s:TypeId) (ds:Array Value):cW:=
 ⟨[g,k],0,fun w=>StB w g t cs/\StB w k s ds,fun w w' e _ h=>⟨(e g Fg).trans h.1,(e k Fg).trans h.2⟩⟩
theorem Sta.var2 {w wx wy:World} {L:List cW} {t s:TypeId} {cs ds:Array Value} {g k:Nat} (h:Sta w wx L) (b:iO wx wy) (hg:StB wy g t cs) (hk:StB wy k s ds) (lg:wx.heap.size<=g) (lk:wx.heap.size<=k):Sta w wy (Blk2 g t cs k s ds::L):=by
 refine h.add b (Blk2 g t cs k s ds) ⟨hg,hk⟩ (fun x hx=>?_);simp only[Blk2,List.mem_cons,List.not_mem_nil,or_false]at hx;rcases hx with rfl|rfl
 ·exact⟨lg,hg.lt⟩
 ·exact⟨lk,hk.lt⟩
structure NdB (w:World) (g off:Nat) (t:TypeId) (cs:Array Value) (a b k q z:Value) (n:Nd):Prop where
 st:StB w g t cs
 sz:off+20<=cs.size
 el:∀j,j<20->cs[off+j]?=(ndA a b k q z n)[j]?
theorem NdB.below {w w':World} {g off:Nat} {t:TypeId} {cs:Array Value} {a b k q z:Value} {n:Nd} (h:NdB w g off t cs a b k q z n) (B:iO w w'):NdB w' g off t cs a b k q z n:=⟨h.st.below B,h.sz,h.el⟩
theorem NdB.turned {w w':World} {g off:Nat} {t:TypeId} {cs:Array Value} {a b k q z:Value} {n:Nd} {bs:List Nat} (h:NdB w g off t cs a b k q z n) (ht:aw w w' bs) (hn:g∉bs):NdB w' g off t cs a b k q z n:=⟨h.st.turned ht hn,h.sz,h.el⟩
theorem NdB.cell {w:World} {g off:Nat} {t:TypeId} {cs:Array Value} {a b k q z:Value} {n:Nd} (h:NdB w g off t cs a b k q z n) (j:Nat) (hj:j<20) {x:Value} (e:(ndA a b k q z n)[j]?=some x):w.cell? ⟨g,off+j,none⟩=some x:=h.st.cell (off+j) (by rw[h.el j hj,e])
theorem NdB.frozen {w:World} {g off:Nat} {t:TypeId} {cs:Array Value} {a b k q z:Value} {n:Nd} (h:NdB w g off t cs a b k q z n) (j:Nat):w.frozen? ⟨g,off+j,none⟩=false:=h.st.frozen (off+j)
theorem NdB.put {w:World} {g off:Nat} {t:TypeId} {cs:Array Value} {a b k q z a' b' k' q' z':Value} {n n':Nd} (h:NdB w g off t cs a b k q z n) (j:Nat) (hj:j<20) (x:Value) (e:(ndA a b k q z n).setIfInBounds j x=ndA a' b' k' q' z' n'):
  NdB (w.setCell ⟨g,off+j,none⟩ x) g off t (cs.setIfInBounds (off+j) x) a' b' k' q' z' n':=by
 refine⟨h.st.put (off+j) x rfl,by rw[Array.size_setIfInBounds];exact h.sz,fun i hi=>?_⟩;rw[<-e,Array.getElem?_setIfInBounds,Array.getElem?_setIfInBounds];by_cases hij:j=i
 ·subst hij
  have h1:off+j<cs.size:=by have:=h.sz;omega
  have h2:j<(ndA a b k q z n).size:=hj;simp[h1,h2]
 ·rw[if_neg Ff,if_neg hij]
  exact h.el i hi
structure lK (cs cs':Array Value) (off:Nat):Prop where
 sz:cs'.size=cs.size
 el:∀i,i<off∨off+20<=i->cs'[i]?=cs[i]?
theorem lK.refl (cs:Array Value) (off:Nat):lK cs cs off:=⟨rfl,fun _ _=>rfl⟩
theorem lK.trans {cs ds es:Array Value} {off:Nat} (h:lK cs ds off) (h':lK ds es off):lK cs es off:=⟨h'.sz.trans h.sz,fun i hi=>(h'.el i hi).trans (h.el i hi)⟩
theorem lK.put (cs:Array Value) (off j:Nat) (hj:j<20) (x:Value):lK cs (cs.setIfInBounds (off+j) x) off:=⟨Array.size_setIfInBounds,fun i hi=>by rw[Array.getElem?_setIfInBounds_ne Ff]⟩
def dE (a b k q z:Value):List Nat:=(((blk a++blk b)++blk k)++blk q)++blk z
structure Hop (w w':World) (g off:Nat) (cs cs':Array Value) (L L':List Nat):Prop where
 on:lK cs cs' off
 tu:aw w w' (g::L)
 nw:∀x∈L',x∈L∨w.heap.size<=x
theorem Hop.refl (w:World) (g off:Nat) (cs:Array Value) (L:List Nat):Hop w w g off cs cs L L:=⟨lK.refl _ _,aw.refl _ _,fun _ h=>.inl h⟩
theorem Hop.trans {w w1 w2:World} {g off:Nat} {cs cs1 cs2:Array Value} {L L1 L2:List Nat} (h:Hop w w1 g off cs cs1 L L1) (h':Hop w1 w2 g off cs1 cs2 L1 L2):Hop w w2 g off cs cs2 L L2:=by
 refine⟨h.on.trans h'.on,⟨h'.tu.os.trans h.tu.os,h'.tu.tape.trans h.tu.tape,h'.tu.output.trans h.tu.output,Nat.le_trans h.tu.size h'.tu.size,fun k hk hn=>?_⟩,fun x hx=>?_⟩
 ·rw[h'.tu.block k (Nat.lt_of_lt_of_le hk h.tu.size) (fun e=>?_),h.tu.block k hk hn]
  simp only[List.mem_cons]at e hn;rcases e with e|e
  ·exact hn (.inl e)
  ·rcases h.nw k e with e|e
   ·exact hn (.inr e)
   ·omega
 ·rcases h'.nw x hx with e|e
  ·exact h.nw x e
  ·exact .inr (Nat.le_trans h.tu.size e)
theorem Hop.below {w w1 w2:World} {g off:Nat} {cs cs1:Array Value} {L L1:List Nat} (h:Hop w w1 g off cs cs1 L L1) (B:iO w1 w2):Hop w w2 g off cs cs1 L L1:=
 h.trans ⟨lK.refl _ _,aw.below _ B,fun _ h=>.inl h⟩
structure Hs (w:World) (g off:Nat) (t:TypeId) (cs:Array Value) (a b k q z:Value) (n:Nd):Prop where
 nb:NdB w g off t cs a b k q z n
 ow:cG w 0 a b k q z n
 ty:t≠2
theorem Hs.below {w w':World} {g off:Nat} {t:TypeId} {cs:Array Value} {a b k q z:Value} {n:Nd} (h:Hs w g off t cs a b k q z n) (B:iO w w'):Hs w' g off t cs a b k q z n:=⟨h.nb.below B,h.ow.below B,h.ty⟩
theorem cG.set {w:World} {base g j:Nat} {t:TypeId} {cs:Array Value} {a b k q z:Value} {n:Nd} (h:cG w base a b k q z n) (s:StB w g t cs) (ty:t≠2) (x:Value):cG (w.setCell ⟨g,j,none⟩ x) base a b k q z n:=
 ⟨h.oa.putBy s ty (ai w g j x),h.ob.putBy s ty (ai w g j x),h.ok.putBy s ty (ai w g j x),h.oq.putBy s ty (ai w g j x),h.oz.putBy s ty (ai w g j x),h.ap⟩
theorem Ck (w:World) (g off:Nat) (cs:Array Value) (L:List Nat) (j:Nat) (hj:j<20) (x:Value):Hop w (w.setCell ⟨g,off+j,none⟩ x) g off cs (cs.setIfInBounds (off+j) x) L L:=
 ⟨lK.put cs off j hj x,(aw.of_grown (ai w g (off+j) x)).sub Fg,fun _ h=>.inl h⟩
theorem mW {a b k q z:Value}:[z,q,k,b,a].Pairwise apart↔(apart z q/\apart z k/\apart z b/\apart z a)/\(apart q k/\apart q b/\apart q a)/\(apart k b/\apart k a)/\apart b a:=by
 simp[List.pairwise_cons]
theorem bD {u v:Value} (h:apart u v):apart v u:=⟨h.2,h.1⟩
theorem cY (u:Value) (n c:Nat):apart u (.slice none n c):=⟨by cases h:u.ownBlock with|none=>exact .inl rfl|some x=>exact .inr (by simp[Value.ownBlock]),.inl rfl⟩
theorem cG.disk {w w':World} {a b k q z u v:Value} {n n':Nd} (h:cG w 0 a b k q z n) (B:iO w w') (o:aV w' w.heap.size u v n'.xs n'.ys) (hk:n'.h.ks=n.h.ks) (hq:n'.c.ts=n.c.ts) (hz:n'.s.ts=n.s.ts):cG w' 0 u v k q z n':=by
 obtain⟨⟨p1,p2,p3,p4⟩,⟨p5,p6,p7⟩,⟨p8,p9⟩,p0⟩:=mW.1 h.ap;have ak:=fun y hy=>(aN h.ok y hy).2
 have aq:=fun y hy=>(aN h.oq y hy).2
 have az:=fun y hy=>(aN h.oz y hy).2
 exact⟨o.1.mono (Nat.zero_le _),o.2.1.mono (Nat.zero_le _),by rw[hk];exact h.ok.below B,by rw[hq];exact h.oq.below B,by rw[hz];exact h.oz.below B,
  mW.2 ⟨⟨p1,p2,bD (dq az o.2.1),bD (dq az o.1)⟩,⟨p5,bD (dq aq o.2.1),bD (dq aq o.1)⟩,⟨bD (dq ak o.2.1),bD (dq ak o.1)⟩,bD o.2.2⟩⟩
theorem cG.drop {w:World} {a b k q z:Value} {n:Nd} (h:cG w 0 a b k q z n):cG w 0 a b k (.slice none 0 0) z {n with c:=Cp.zero}:=by
 obtain⟨⟨p1,p2,p3,p4⟩,⟨p5,p6,p7⟩,⟨p8,p9⟩,p0⟩:=mW.1 h.ap;exact⟨h.oa,h.ob,h.ok,Own.nil _ _,h.oz,mW.2 ⟨⟨cY _ _ _,p2,p3,p4⟩,⟨bD (cY _ _ _),bD (cY _ _ _),bD (cY _ _ _)⟩,⟨p8,p9⟩,p0⟩⟩
theorem Hs.put {w:World} {g off:Nat} {t:TypeId} {cs:Array Value} {a b k q z a' b' k' q' z':Value} {n n':Nd} (h:Hs w g off t cs a b k q z n) (j:Nat) (hj:j<20) (x:Value) (e:(ndA a b k q z n).setIfInBounds j x=ndA a' b' k' q' z' n') (o:cG w 0 a' b' k' q' z' n'):
  Hs (w.setCell ⟨g,off+j,none⟩ x) g off t (cs.setIfInBounds (off+j) x) a' b' k' q' z' n':=⟨h.nb.put j hj x e,o.set h.nb.st h.ty x,h.ty⟩
theorem NdB.as {w:World} {g off:Nat} {t:TypeId} {cs:Array Value} {a b k q z a' b' k' q' z':Value} {n n':Nd} (h:NdB w g off t cs a b k q z n) (e:ndA a b k q z n=ndA a' b' k' q' z' n'):NdB w g off t cs a' b' k' q' z' n':=⟨h.st,h.sz,fun j hj=>by rw[<-e];exact h.el j hj⟩
section
open Go.ChangeShapes Go.WideShapes Go.ChangeAt Go.RowKit
end
section
open Go.ChangeShapes Go.WideShapes Go.ChangeAt Go.RowKit
end
structure FS (w wx:World) (cs:Array Value):Prop where
 p:StB wx w.heap.size 42 cs
 r:StB wx (w.heap.size+1) 42 aA
 b:iO w wx
theorem FS.start (w:World) (cs:Array Value):FS w ((w.alloc (.cells cs 42)).alloc (.cells aA 42)) cs:=by
 have r1:=StB.new (w.alloc (.cells cs 42)) 42 aA;rw[World.size_alloc]at r1;exact⟨(StB.new w _ _).alloc _,r1,Fc.alloc Fg _⟩
theorem FS.below {w wx wy:World} {cs:Array Value} (h:FS w wx cs) (B:iO wx wy):FS w wy cs:=⟨h.p.below B,h.r.below B,h.b.trans (B.mono h.b.size)⟩
theorem FS.put {w wx:World} {cs ds:Array Value} (h:FS w wx cs) (j:Nat) (x:Value) (e:cs.setIfInBounds j x=ds):FS w (wx.setCell ⟨w.heap.size,j,none⟩ x) ds:=
 ⟨h.p.put j x e,h.r.other _ _ (by show w.heap.size+1≠w.heap.size;omega),h.b.setCell (Nat.le_refl _) _⟩
theorem FS.lt {w wx:World} {cs:Array Value} (h:FS w wx cs):w.heap.size+1<wx.heap.size:=h.r.lt
def tv (g off:Nat) (l:List (Nat×Value)) (w:World):World:=l.foldl (fun w p=>w.setCell ⟨g,off+p.1,none⟩ p.2) w
def Dr (l:List (Nat×Value)) (A:Array Value):Array Value:=l.foldl (fun A p=>A.setIfInBounds p.1 p.2) A
theorem Cl {g off:Nat} {t:TypeId} (ty:t≠2) (l:List (Nat×Value)):∀{w:World} {cs A:Array Value},StB w g t cs->off+20<=cs.size->A.size=20->(∀j,j<20->cs[off+j]?=A[j]?)->(∀p∈l,p.1<20)->
  ∃cs',StB (tv g off l w) g t cs'/\off+20<=cs'.size/\(∀j,j<20->cs'[off+j]?=(Dr l A)[j]?)/\(∀L,Hop w (tv g off l w) g off cs cs' L L)/\(∀base a b k q z n,cG w base a b k q z n->cG (tv g off l w) base a b k q z n):=by
 induction l with
 |nil=>intro w cs A s z _ e _;exact⟨cs,s,z,e,fun L=>Hop.refl _ _ _ _ _,fun _ _ _ _ _ _ _ h=>h⟩
 |cons p l ih=>
  intro w cs A s z hA e hl;have hp:p.1<20:=hl p Fg;have s1:=s.put (off+p.1) p.2 rfl;obtain⟨cs',h1,h2,h3,h4,h5⟩:=ih (A:=A.setIfInBounds p.1 p.2) s1 (by rw[Array.size_setIfInBounds];exact z) (by rw[Array.size_setIfInBounds];exact hA) (fun j hj=>by
   rw[Array.getElem?_setIfInBounds,Array.getElem?_setIfInBounds];by_cases hij:p.1=j
   ·subst hij
    have q1:off+p.1<cs.size:=by omega
    have q2:p.1<A.size:=by omega
    simp[q1,q2]
   ·rw[if_neg Ff,if_neg hij]
    exact e j hj) (fun q hq=>hl q (by simp[hq]))
  refine⟨cs',h1,h2,h3,fun L=>(Ck w g off cs L p.1 hp p.2).trans (h4 L),fun base a b k q z n h=>h5 base a b k q z n (h.set s ty p.2)⟩
theorem Hs.puts {w:World} {g off:Nat} {t:TypeId} {cs:Array Value} {a b k q z a' b' k' q' z':Value} {n n':Nd} (h:NdB w g off t cs a b k q z n) (ty:t≠2) (l:List (Nat×Value)) (hl:∀p∈l,p.1<20)
  (e:Dr l (ndA a b k q z n)=ndA a' b' k' q' z' n') (o:cG w 0 a' b' k' q' z' n'):
  ∃cs',Hs (tv g off l w) g off t cs' a' b' k' q' z' n'/\∀L,Hop w (tv g off l w) g off cs cs' L L:=by
 obtain⟨cs',h1,h2,h3,h4,h5⟩:=Cl ty l h.st h.sz rfl h.el hl;exact⟨cs',⟨⟨h1,h2,fun j hj=>by rw[h3 j hj,e]⟩,h5 _ _ _ _ _ _ _ o,ty⟩,h4⟩
theorem Hop.lists {w w':World} {g off:Nat} {cs:Array Value} {L L':List Nat} (B:iO w w') (h:∀x∈L',x∈L∨w.heap.size<=x):Hop w w' g off cs cs L L':=⟨lK.refl _ _,aw.below _ B,h⟩
theorem nV {a b k q z:Value} {x:Nat}:x∈dE a b k q z↔x∈blk a∨x∈blk b∨x∈blk k∨x∈blk q∨x∈blk z:=by
 unfold dE;simp only[List.mem_append];constructor
 ·rintro((((h|h)|h)|h)|h)
  ·exact .inl h
  ·exact .inr (.inl h)
  ·exact .inr (.inr (.inl h))
  ·exact .inr (.inr (.inr (.inl h)))
  ·exact .inr (.inr (.inr (.inr h)))
 ·rintro(h|h|h|h|h)
  ·exact .inl (.inl (.inl (.inl h)))
  ·exact .inl (.inl (.inl (.inr h)))
  ·exact .inl (.inl (.inr h))
  ·exact .inl (.inr h)
  ·exact .inr h
theorem cG.as {w:World} {base:Nat} {a b k q z:Value} {n n':Nd} (h:cG w base a b k q z n) (hx:n'.xs=n.xs) (hy:n'.ys=n.ys) (hk:n'.h.ks=n.h.ks) (hq:n'.c.ts=n.c.ts) (hz:n'.s.ts=n.s.ts):cG w base a b k q z n':=
 ⟨by rw[hx];exact h.oa,by rw[hy];exact h.ob,by rw[hk];exact h.ok,by rw[hq];exact h.oq,by rw[hz];exact h.oz,h.ap⟩
theorem NdB.whole {w:World} {g:Nat} {t:TypeId} {cs:Array Value} {a b k q z:Value} {n:Nd} (h:NdB w g 0 t cs a b k q z n) (hs:cs.size=20):StB w g t (ndA a b k q z n):=by
 have e:cs=ndA a b k q z n:=by
  apply Array.ext_getElem?;intro i;by_cases hi:i<20
  ·have:=h.el i hi
   rwa[Nat.zero_add]at this
  ·rw[Array.getElem?_eq_none Ff,Array.getElem?_eq_none (by show 20<=i;omega)]
 have:=h.st
 rwa[e]at this
theorem cG.up {w:World} {base:Nat} {a b k q z:Value} {n:Nd} (h:cG w 0 a b k q z n) (hb:∀x∈dE a b k q z,base<=x):cG w base a b k q z n:=
 ⟨h.oa.up (fun x e=>hb x (nV.2 (.inl (by simp[blk,e])))),h.ob.up (fun x e=>hb x (nV.2 (.inr (.inl (by simp[blk,e]))))),h.ok.up (fun x e=>hb x (nV.2 (.inr (.inr (.inl (by simp[blk,e])))))),h.oq.up (fun x e=>hb x (nV.2 (.inr (.inr (.inr (.inl (by simp[blk,e]))))))),h.oz.up (fun x e=>hb x (nV.2 (.inr (.inr (.inr (.inr (by simp[blk,e]))))))),h.ap⟩
structure CS (w wx:World) (ps:Array Value) (g:Nat) (cs:Array Value) (a b k q z:Value) (n:Nd):Prop where
 f:FS w wx ps
 hs:Hs wx g 0 42 cs a b k q z n
 sz:cs.size=20
 lg:w.heap.size+2<=g
 ll:∀x∈dE a b k q z,w.heap.size+2<=x
theorem CS.start {w wx wy:World} {ps:Array Value} {a b k q z:Value} {n:Nd} (f:FS w wx ps) (o:cG wx (w.heap.size+2) a b k q z n) (s:StB wy wx.heap.size 42 (ndA a b k q z n)) (G:(wx.alloc (.cells aA 42)).grownBy wy (some wx.heap.size)):
  CS w wy ps wx.heap.size (ndA a b k q z n) a b k q z n:=by
 have b4:iO wx wy:=Fc.grown G Fg (fun k e=>by cases e;omega);refine⟨f.below b4,⟨⟨s,Nat.le_of_eq rfl,fun j hj=>by rw[Nat.zero_add]⟩,(o.mono (Nat.zero_le _)).below b4,by decide⟩,rfl,f.lt,fun x hx=>?_⟩;rcases nV.1 hx with h|h|h|h|h
 ·exact(aN o.oa x h).1
 ·exact(aN o.ob x h).1
 ·exact(aN o.ok x h).1
 ·exact(aN o.oq x h).1
 ·exact(aN o.oz x h).1
theorem CS.below {w wx wy:World} {ps:Array Value} {g:Nat} {cs:Array Value} {a b k q z:Value} {n:Nd} (h:CS w wx ps g cs a b k q z n) (B:iO wx wy):CS w wy ps g cs a b k q z n:=⟨h.f.below B,h.hs.below B,h.sz,h.lg,h.ll⟩
theorem CS.hop {w wx wy:World} {ps:Array Value} {g:Nat} {cs cs':Array Value} {a b k q z a' b' k' q' z':Value} {n n':Nd} (h:CS w wx ps g cs a b k q z n) (H:Hs wy g 0 42 cs' a' b' k' q' z' n') (O:Hop wx wy g 0 cs cs' (dE a b k q z) (dE a' b' k' q' z')):CS w wy ps g cs' a' b' k' q' z' n':=by
 have hn:∀x∈g::dE a b k q z,w.heap.size+2<=x:=fun x hx=>by
  rcases List.mem_cons.1 hx with rfl|hx
  ·exact h.lg
  ·exact h.ll x hx
 have hsz:=h.f.b.size;refine⟨⟨h.f.p.turned O.tu (fun e=>by have:=hn _ e;omega),h.f.r.turned O.tu (fun e=>by have:=hn _ e;omega),h.f.b.trans (O.tu.belowAt (fun x hx=>by have:=hn x hx;omega) hsz)⟩,H,O.on.sz.trans h.sz,h.lg,fun x hx=>?_⟩;rcases O.nw x hx with e|e
 ·exact h.ll x e
 ·have:=h.f.lt;omega
theorem CS.whole {w wx:World} {ps:Array Value} {g:Nat} {cs:Array Value} {a b k q z:Value} {n:Nd} (h:CS w wx ps g cs a b k q z n):StB wx g 42 (ndA a b k q z n):=h.hs.nb.whole h.sz
theorem CS.own {w wx:World} {ps:Array Value} {g:Nat} {cs:Array Value} {a b k q z:Value} {n:Nd} (h:CS w wx ps g cs a b k q z n):cG wx (w.heap.size+2) a b k q z n:=h.hs.ow.up h.ll
theorem cG.one {w:World} {base:Nat} {a b k q z:Value} {n:Nd} (h:cG w base a b k q z n):(ndA a b k q z n).all (·.oneCell')=true:=cP n (aB h.oa.reads) (aB h.ob.reads) (aB h.ok.reads) (aB h.oq.reads) (aB h.oz.reads)
theorem cG.nil (w:World) (base:Nat):cG w base (.slice none 0 0) (.slice none 0 0) (.slice none 0 0) (.slice none 0 0) (.slice none 0 0) Nd.zero:=
 ⟨Own.nil _ _,Own.nil _ _,Own.nil _ _,Own.nil _ _,Own.nil _ _,mW.2 ⟨⟨cY _ _ _,cY _ _ _,cY _ _ _,cY _ _ _⟩,⟨cY _ _ _,cY _ _ _,cY _ _ _⟩,⟨cY _ _ _,cY _ _ _⟩,cY _ _ _⟩⟩
theorem AD {ops:Array Oper} {C:World->Prop} {E:Oper->Act->Option dP} {R:World->World->Prop} {Q:Act->cK->Prop} {o:Oper} {rest:List Oper} {a:Act} {G:cK} (hs:E o a=none) (hg:o.guard=none) (t:TypeId) (fs:Array (Nat×Operand)) (ho:o.op=.build t fs) (cells:Array Value)
  (hc:Tryz.prog.built t (fs.map fun(i,x)=>(i,a.eval x)).toList=some cells)
  (k:m9 Tryz.prog ops C E R Q rest (a.put o.dst (.agg cells)) G):m9 Tryz.prog ops C E R Q (o::rest) a G:=by
 refine eP hs (fun K hK=>?_);have hw:Region.wanted o (yielded ops a.tmps)=true:=by simp[Region.wanted,hg]
 rw[if_pos hw];refine⟨.agg cells,fun w _=>?_,hK _ k⟩;unfold Oper.quietAt execOp;simp only[ho,Sem.run_bind,run_build w t _ cells hc,Result.andThen_ok];exact⟨rfl,rfl⟩
section
open Go.ChangeShapes Go.WideShapes Go.ChangeAt Go.RowKit
end
section
open Go.ChangeShapes Go.WideShapes Go.ChangeAt Go.RowKit
end
section
open Go.ChangeShapes Go.WideShapes Go.ChangeAt Go.RowKit
end
end Go.Proofs.YthldeiojlllkdaaGreatDoor
