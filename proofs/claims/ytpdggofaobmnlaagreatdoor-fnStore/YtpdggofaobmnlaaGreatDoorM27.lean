import Derived.Test.YtpdggofaobmnlaaGreatDoorM26
import Derived.Test.YtpdggofaobmnlaaGreatDoorM8
import Derived.Test.YtpdggofaobmnlaaGreatDoorDisk
import Derived.Deep.DeepCutAuto
import Derived.Test.YtpdggofaobmnlaaGreatDoorM25
import Derived.Test.YtpdggofaobmnlaaGreatDoorM11
/- What Go's errors.As answers of the program's refusals: it fills the variable that it is handed. -/
set_option maxRecDepth 20000
set_option maxHeartbeats 4000000
namespace Go.Proofs.YtpdggofaobmnlaaGreatDoor
open Go.ChangeShapes Go.WideShapes Go.ChangeAt Go.RowKit Go.Extern
theorem Tryz.asValueOf (t:Addr) (w:World):(callFunc 119 #[.iface 101 (.pointer (some t))]).run Tryz.prog w
  =.ok (.value (.agg #[.pointer (some ⟨9,101,none⟩),.pointer (some ⟨w.heap.size,0,none⟩),.int .u64 150])) (w.alloc (.cells #[.pointer (some t)] 101)):=by
 rw[@run_callFunc_extern Tryz.prog 119 _ (fun args=>ReflectliteValue.unpack (args.getD 0 (.tuple #[]))) Tryz.func119 (by kernel_rfl) (by kernel_rfl) (by kernel_rfl) (by kernel_rfl)]
 rw[show(ReflectliteValue.unpack ((#[.iface 101 (.pointer (some t))]:Array Value).getD 0 (.tuple #[]))).run Tryz.prog w=.ok (.agg #[.pointer (some ⟨9,101,none⟩),.pointer (some ⟨w.heap.size,0,none⟩),.int .u64 150]) (w.alloc (.cells #[.pointer (some t)] 101)) by kernel_rfl]
 rfl
theorem Tryz.asType (a:Addr) (w:World):(callFunc 120 #[.agg #[.pointer (some ⟨9,101,none⟩),.pointer (some a),.int .u64 150]]).run Tryz.prog w
  =.ok (.value (.iface 168 (.agg #[.pointer (some ⟨9,101,none⟩)]))) w:=by
 rw[@run_callFunc_extern Tryz.prog 120 _ (ReflectliteValue.methodAny (ReflectliteValue.valueError "reflectlite.Value.Type" 0) (fun t _ _ _=>ReflectliteType.toType t)) Tryz.func120 (by kernel_rfl) (by kernel_rfl) (by kernel_rfl) (by kernel_rfl)]
 rw[show(ReflectliteValue.methodAny (ReflectliteValue.valueError "reflectlite.Value.Type" 0) (fun t _ _ _=>ReflectliteType.toType t) #[.agg #[.pointer (some ⟨9,101,none⟩),.pointer (some a),.int .u64 150]]).run Tryz.prog w=.ok (.iface 168 (.agg #[.pointer (some ⟨9,101,none⟩)])) w by kernel_rfl]
 rfl
theorem Tryz.asMethodKind (h:Value) (w:World):(Go.method 378 168 (.agg #[h]) "Kind").run Tryz.prog w=.ok (225,h) w:=by kernel_rfl
theorem Tryz.asKindP (w:World):(callFunc 225 #[.pointer (some ⟨9,101,none⟩)]).run Tryz.prog w=.ok (.value (.int .u8 22)) w:=by
 rw[@run_callFunc_extern Tryz.prog 225 _ (ReflectliteType.abiMethod fun t=>do pure (.int .u8 (←Rtype.kind t))) Tryz.func225 (by kernel_rfl) (by kernel_rfl) (by kernel_rfl) (by kernel_rfl)]
 rw[show((ReflectliteType.abiMethod fun t=>do pure (.int .u8 (←Rtype.kind t))) #[.pointer (some ⟨9,101,none⟩)]).run Tryz.prog w=.ok (.int .u8 22) w by kernel_rfl]
 rfl
theorem Tryz.asKindR (w:World):(callFunc 225 #[.pointer (some ⟨9,99,none⟩)]).run Tryz.prog w=.ok (.value (.int .u8 25)) w:=by
 rw[@run_callFunc_extern Tryz.prog 225 _ (ReflectliteType.abiMethod fun t=>do pure (.int .u8 (←Rtype.kind t))) Tryz.func225 (by kernel_rfl) (by kernel_rfl) (by kernel_rfl) (by kernel_rfl)]
 rw[show((ReflectliteType.abiMethod fun t=>do pure (.int .u8 (←Rtype.kind t))) #[.pointer (some ⟨9,99,none⟩)]).run Tryz.prog w=.ok (.int .u8 25) w by kernel_rfl]
 rfl
theorem rlm (z:Sem Value) (f:TypeId→Addr→Nat→Nat→Sem Value) (v:Value):
  ReflectliteValue.method z f #[v]=(do match←ReflectliteValue.parts v with|none=>z|some (t,a,fl)=>f t a fl (fl%32)):=rfl
theorem Tryz.asPartsP (a:Addr) (w:World):(ReflectliteValue.parts (.agg #[.pointer (some ⟨9,101,none⟩),.pointer (some a),.int .u64 150])).run Tryz.prog w=.ok (some (101,a,150)) w:=by kernel_rfl
theorem Tryz.asIsNil (a p:Addr) (W:World) (ha:W.cell? a=some (.pointer (some p))):
  (callFunc 121 #[.agg #[.pointer (some ⟨9,101,none⟩),.pointer (some a),.int .u64 150]]).run Tryz.prog W=.ok (.value (.bool false)) W:=by
 rw[@run_callFunc_extern Tryz.prog 121 _ (ReflectliteValue.method (ReflectliteValue.valueError "reflectlite.Value.IsNil" 0) ReflectliteValue.isNil) Tryz.func121 (by kernel_rfl) (by kernel_rfl) (by kernel_rfl) (by kernel_rfl)]
 rw[rlm]
 simp only[Sem.run_bind,Tryz.asPartsP,Result.andThen]
 simp[ReflectliteValue.isNil,loadVar,isAgg,underlying,Tryz.underlying101,ha,Result.andThen]
theorem Tryz.asMethodElem (h:Value) (w:World):(Go.method 378 168 (.agg #[h]) "Elem").run Tryz.prog w=.ok (236,.agg #[h]) w:=by kernel_rfl
theorem Tryz.asMethodImplements (h:Value) (w:World):(Go.method 378 168 (.agg #[h]) "Implements").run Tryz.prog w=.ok (237,.agg #[h]) w:=by kernel_rfl
theorem Tryz.asMethodAssignableTo (h:Value) (w:World):(Go.method 378 168 (.agg #[h]) "AssignableTo").run Tryz.prog w=.ok (234,.agg #[h]) w:=by kernel_rfl
theorem Tryz.asElemT (w:World):(callFunc 236 #[.agg #[.pointer (some ⟨9,101,none⟩)]]).run Tryz.prog w=.ok (.value (.iface 168 (.agg #[.pointer (some ⟨9,99,none⟩)]))) w:=by
 rw[@run_callFunc_extern Tryz.prog 236 _ (ReflectliteType.method ReflectliteType.elem) Tryz.func236 (by kernel_rfl) (by kernel_rfl) (by kernel_rfl) (by kernel_rfl)]
 rw[show(ReflectliteType.method ReflectliteType.elem #[.agg #[.pointer (some ⟨9,101,none⟩)]]).run Tryz.prog w=.ok (.iface 168 (.agg #[.pointer (some ⟨9,99,none⟩)])) w by kernel_rfl]
 rfl
theorem Tryz.asImplements (w:World):(callFunc 237 #[.agg #[.pointer (some ⟨9,99,none⟩)],.iface 168 (.agg #[.pointer (some ⟨9,66,none⟩)])]).run Tryz.prog w=.ok (.value (.bool true)) w:=by
 rw[@run_callFunc_extern Tryz.prog 237 _ (ReflectliteType.relation "Implements" ReflectliteType.implements_) Tryz.func237 (by kernel_rfl) (by kernel_rfl) (by kernel_rfl) (by kernel_rfl)]
 rw[show(ReflectliteType.relation "Implements" ReflectliteType.implements_ #[.agg #[.pointer (some ⟨9,99,none⟩)],.iface 168 (.agg #[.pointer (some ⟨9,66,none⟩)])]).run Tryz.prog w=.ok (.bool true) w by kernel_rfl]
 rfl
theorem Tryz.asTypeOf (v:Value) (w:World):(callFunc 117 #[.iface 99 v]).run Tryz.prog w=.ok (.value (.iface 168 (.agg #[.pointer (some ⟨9,99,none⟩)]))) w:=by
 rw[@run_callFunc_extern Tryz.prog 117 _ Extern.ReflectliteType.typeOf Tryz.func117 (by kernel_rfl) (by kernel_rfl) (by kernel_rfl) (by kernel_rfl)]
 rw[show(Extern.ReflectliteType.typeOf #[.iface 99 v]).run Tryz.prog w=.ok (.iface 168 (.agg #[.pointer (some ⟨9,99,none⟩)])) w by kernel_rfl]
 rfl
theorem Tryz.asAssignable (w:World):(callFunc 234 #[.agg #[.pointer (some ⟨9,99,none⟩)],.iface 168 (.agg #[.pointer (some ⟨9,99,none⟩)])]).run Tryz.prog w=.ok (.value (.bool true)) w:=by
 rw[@run_callFunc_extern Tryz.prog 234 _ (ReflectliteType.relation "AssignableTo" ReflectliteType.assignableTo) Tryz.func234 (by kernel_rfl) (by kernel_rfl) (by kernel_rfl) (by kernel_rfl)]
 rw[show(ReflectliteType.relation "AssignableTo" ReflectliteType.assignableTo #[.agg #[.pointer (some ⟨9,99,none⟩)],.iface 168 (.agg #[.pointer (some ⟨9,99,none⟩)])]).run Tryz.prog w=.ok (.bool true) w by kernel_rfl]
 rfl
theorem Tryz.asValueOfR (t:TypeId) (p:Value) (s:ByteArray) (w:World):(callFunc 119 #[.iface 99 (.agg #[.iface t p,.string s])]).run Tryz.prog w
  =.ok (.value (.agg #[.pointer (some ⟨9,99,none⟩),.pointer (some ⟨w.heap.size,0,none⟩),.int .u64 153])) (w.alloc (.cells #[.iface t p,.string s] 99)):=by
 rw[@run_callFunc_extern Tryz.prog 119 _ (fun args=>ReflectliteValue.unpack (args.getD 0 (.tuple #[]))) Tryz.func119 (by kernel_rfl) (by kernel_rfl) (by kernel_rfl) (by kernel_rfl)]
 rw[show(ReflectliteValue.unpack ((#[.iface 99 (.agg #[.iface t p,.string s])]:Array Value).getD 0 (.tuple #[]))).run Tryz.prog w=.ok (.agg #[.pointer (some ⟨9,99,none⟩),.pointer (some ⟨w.heap.size,0,none⟩),.int .u64 153]) (w.alloc (.cells #[.iface t p,.string s] 99)) by kernel_rfl]
 rfl
theorem Tryz.asElemOf (w:World):(Rtype.elem? 101).run Tryz.prog w=.ok (some 99) w:=by kernel_rfl
theorem Tryz.asMk (p:Addr) (w:World):(ReflectliteValue.mk 99 p ReflectliteValue.flagAddr).run Tryz.prog w=.ok (.agg #[.pointer (some ⟨9,99,none⟩),.pointer (some p),.int .u64 409]) w:=by kernel_rfl
theorem Tryz.asElemV (a p:Addr) (W:World) (ha:W.cell? a=some (.pointer (some p))):
  (callFunc 153 #[.agg #[.pointer (some ⟨9,101,none⟩),.pointer (some a),.int .u64 150]]).run Tryz.prog W
   =.ok (.value (.agg #[.pointer (some ⟨9,99,none⟩),.pointer (some p),.int .u64 409])) W:=by
 rw[@run_callFunc_extern Tryz.prog 153 _ (ReflectliteValue.method (ReflectliteValue.valueError "reflectlite.Value.Elem" 0) ReflectliteValue.elem) Tryz.func153 (by kernel_rfl) (by kernel_rfl) (by kernel_rfl) (by kernel_rfl)]
 rw[rlm]
 simp only[Sem.run_bind,Tryz.asPartsP,Result.andThen]
 simp[ReflectliteValue.elem,loadVar,isAgg,underlying,Tryz.underlying101,ha,Result.andThen,Tryz.asElemOf,Tryz.asMk]
theorem rls (v x:Value):ReflectliteValue.set #[v,x]=(do
  let(some (dst,a,fl),some (src,b,_)):=(←ReflectliteValue.parts v,←ReflectliteValue.parts x)
   |unsupported (.noEntry "extern/(internal/reflectlite.Value).Set.zeroValue")
  if fl/ReflectliteValue.flagAddr%2==0 then unsupported (.noEntry "extern/(internal/reflectlite.Value).Set.unaddressable")
  let val←loadVar src b
  if←Rtype.directlyAssignable dst src then storeVar dst a val
  else if←Rtype.implements dst src then
   if(←Rtype.kind src)==20 then
    match val with
    | .nilIface=>unsupported (.noEntry "extern/reflectlite: a nil value of one interface type handed on as a value of another")
    |_=>storeVar dst a val
   else storeVar dst a (.iface src val)
  else panicString ("reflectlite.Set: value of type "++(←Rtype.spelt src)++ " is not assignable to type "++(←Rtype.spelt dst))
  pure (.tuple #[])):=rfl
theorem Tryz.asPartsA (a:Addr) (w:World):(ReflectliteValue.parts (.agg #[.pointer (some ⟨9,99,none⟩),.pointer (some a),.int .u64 409])).run Tryz.prog w=.ok (some (99,a,409)) w:=by kernel_rfl
theorem Tryz.asPartsR (a:Addr) (w:World):(ReflectliteValue.parts (.agg #[.pointer (some ⟨9,99,none⟩),.pointer (some a),.int .u64 153])).run Tryz.prog w=.ok (some (99,a,153)) w:=by kernel_rfl
theorem Tryz.asDirect (w:World):(Rtype.directlyAssignable 99 99).run Tryz.prog w=.ok true w:=by kernel_rfl
theorem Tryz.asSize (w:World):(sizeOf 99).run Tryz.prog w=.ok 2 w:=by kernel_rfl
end Go.Proofs.YtpdggofaobmnlaaGreatDoor
namespace Go.Proofs.YtpdggofaobmnlaaGreatDoor
open Go.ChangeShapes Go.WideShapes Go.ChangeAt Go.RowKit Go.Extern
theorem grown_al (w:World) (o:Obj) (row:Option Nat):w.grownBy (w.alloc o) row:=⟨rfl,rfl,rfl,by simp,fun k hk _=>Below.heap_alloc w o k hk⟩
theorem Tryz.asLoad (b:Nat) (x y:Value) (W:World) (h0:W.cell? ⟨b,0,none⟩=some x) (h1:W.cell? ⟨b,1,none⟩=some y):(loadVar 99 ⟨b,0,none⟩).run Tryz.prog W=.ok (.agg #[x,y]) W:=by
 have hs:=Tryz.asSize
 simp[loadVar,isAgg,underlying,Tryz.underlying99,Result.andThen,hs,loadCells,loadCellsFrom,Addr.add,h0,h1]
theorem Tryz.asSet (g b:Nat) (t:TypeId) (p:Value) (s:ByteArray) (o0 o1:Value) (W:World) (h0:W.cell? ⟨b,0,none⟩=some (.iface t p)) (h1:W.cell? ⟨b,1,none⟩=some (.string s)) (S:StB W g 99 #[o0,o1]):
  (callFunc 154 #[.agg #[.pointer (some ⟨9,99,none⟩),.pointer (some ⟨g,0,none⟩),.int .u64 409],.agg #[.pointer (some ⟨9,99,none⟩),.pointer (some ⟨b,0,none⟩),.int .u64 153]]).run Tryz.prog W
   =.ok (.value (.tuple #[])) ((W.setCell ⟨g,0,none⟩ (.iface t p)).setCell ⟨g,1,none⟩ (.string s)):=by
 rw[@run_callFunc_extern Tryz.prog 154 _ ReflectliteValue.set Tryz.func154 (by kernel_rfl) (by kernel_rfl) (by kernel_rfl) (by kernel_rfl)]
 rw[rls]
 have hs:=Tryz.asSize
 have t0:W.cell? ⟨g,0,none⟩=some o0:=S.cell 0 rfl
 have f0:=S.frozen 0
 have S':StB (W.setCell ⟨g,0,none⟩ (.iface t p)) g 99 #[.iface t p,o1]:=S.put 0 _ rfl
 have t1:(W.setCell ⟨g,0,none⟩ (.iface t p)).cell? ⟨g,1,none⟩=some o1:=S'.cell 1 rfl
 have f1:=S'.frozen 1
 simp only[Sem.run_bind,Tryz.asPartsA,Tryz.asPartsR,Result.andThen]
 simp[ReflectliteValue.flagAddr,Tryz.asLoad b _ _ W h0 h1,Result.andThen,Tryz.asDirect,storeVar,Value.cells,storeCells,Addr.add,hs]
 rw[run_store Tryz.prog W ⟨g,0,none⟩ _ _ (by rfl)]
 simp only[t0,f0,if_neg Bool.false_ne_true]
 rw[run_store Tryz.prog (W.setCell ⟨g,0,none⟩ (.iface t p)) ⟨g,1,none⟩ _ _ (by rfl)]
 simp only[t1,f1,if_neg Bool.false_ne_true]
theorem as_hit (t:TypeId) (p:Value) (s:ByteArray) (g:Nat) (o0 o1:Value) (w:World) (hg:w.cell? ⟨4,0,none⟩=some (.iface 168 (.agg #[.pointer (some ⟨9,66,none⟩)]))) (S:StB w g 99 #[o0,o1]):
  Calls Tryz.prog 82 #[.iface 99 (.agg #[.iface t p,.string s]),.iface 101 (.pointer (some ⟨g,0,none⟩))] w fun e w'=>e=.returned (.bool true)∧StB w' g 99 #[.iface t p,.string s]∧w.grownBy w' (some g):=by
 obtain⟨W4,hW4⟩:∃W4,W4=(((w.alloc (.cells #[.pointer (some ⟨g,0,none⟩)] 101)).alloc (.cells #[.pointer (some ⟨9,101,none⟩),.pointer (some ⟨w.heap.size,0,none⟩),.int .u64 150] 138)).alloc (.cells #[.pointer (some ⟨9,101,none⟩),.pointer (some ⟨w.heap.size,0,none⟩),.int .u64 150] 138)).alloc (.cells #[.iface t p,.string s] 99):=⟨_,rfl⟩
 have b1:Below w.heap.size w (w.alloc (.cells #[.pointer (some ⟨g,0,none⟩)] 101)):=(Below.refl _ _).alloc (Nat.le_refl _) _
 have b2:=bel_alloc (o:=.cells #[.pointer (some ⟨9,101,none⟩),.pointer (some ⟨w.heap.size,0,none⟩),.int .u64 150] 138) b1
 have b3:=bel_alloc (o:=.cells #[.pointer (some ⟨9,101,none⟩),.pointer (some ⟨w.heap.size,0,none⟩),.int .u64 150] 138) b2
 have b4:=bel_alloc (o:=.cells #[.iface t p,.string s] 99) b3
 rw[←hW4]at b4
 have hg2:=later_cell hg b2
 have S1:=StB.new w 101 #[.pointer (some ⟨g,0,none⟩)]
 have S2:=S1.alloc (.cells #[.pointer (some ⟨9,101,none⟩),.pointer (some ⟨w.heap.size,0,none⟩),.int .u64 150] 138)
 have S3:=S2.alloc (.cells #[.pointer (some ⟨9,101,none⟩),.pointer (some ⟨w.heap.size,0,none⟩),.int .u64 150] 138)
 have n8:=Tryz.asIsNil ⟨w.heap.size,0,none⟩ ⟨g,0,none⟩ _ (S2.cell 0 rfl)
 have el:=Tryz.asElemV ⟨w.heap.size,0,none⟩ ⟨g,0,none⟩ _ (S3.cell 0 rfl)
 have S4:StB W4 (w.heap.size+1+1+1) 99 #[.iface t p,.string s]:=by
  have:=StB.new ((((w.alloc (.cells #[.pointer (some ⟨g,0,none⟩)] 101)).alloc (.cells #[.pointer (some ⟨9,101,none⟩),.pointer (some ⟨w.heap.size,0,none⟩),.int .u64 150] 138)).alloc (.cells #[.pointer (some ⟨9,101,none⟩),.pointer (some ⟨w.heap.size,0,none⟩),.int .u64 150] 138))) 99 #[.iface t p,.string s]
  simp only[World.size_alloc]at this
  rw[hW4]
  exact this
 have SG:=S.below b4
 have G4:w.grownBy W4 (some g):=by rw[hW4];exact(((grown_al _ _ _).trans (grown_al _ _ _)).trans (grown_al _ _ _)).trans (grown_al _ _ _)
 have st:=Tryz.asSet g (w.heap.size+1+1+1) t p s o0 o1 W4 (S4.cell 0 rfl) (S4.cell 1 rfl) SG
 have HF:Hid (StB ((W4.setCell ⟨g,0,none⟩ (.iface t p)).setCell ⟨g,1,none⟩ (.string s)) g 99 #[.iface t p,.string s]∧w.grownBy ((W4.setCell ⟨g,0,none⟩ (.iface t p)).setCell ⟨g,1,none⟩ (.string s)) (some g)):=
  ⟨(SG.put 0 _ rfl).put 1 _ rfl,G4.trans ((grownSet _ _ _ _).trans (grownSet _ _ _ _))⟩
 rw[hW4]at st HF
 have f6:=Tryz.asValueOf
 have f6':=Tryz.asValueOfR
 have f7:=Tryz.asType
 have mK:=Tryz.asMethodKind
 have kP:=Tryz.asKindP
 have kR:=Tryz.asKindR
 have mE:=Tryz.asMethodElem
 have mI:=Tryz.asMethodImplements
 have mA:=Tryz.asMethodAssignableTo
 have eT:=Tryz.asElemT
 have iR:=Tryz.asImplements
 have tO:=Tryz.asTypeOf
 have aR:=Tryz.asAssignable
 clear G4 b1 b2 b3 b4 S1 S2 S3 S4 SG hW4 S hg
 go_enter Tryz.func82,Tryz.ntmps82
 go_wp2_with (go_at_call 122;go_in)
 refine wp_loop_rounds 1 ?_
 rw[rounds_succ]
 go_wp2
 go_ret
 exact⟨rfl,HF.out⟩
end Go.Proofs.YtpdggofaobmnlaaGreatDoor
namespace Go.Proofs.YtpdggofaobmnlaaGreatDoor
open Go.ChangeShapes Go.WideShapes Go.ChangeAt Go.RowKit
structure Four where
 n:Addr
 r:Addr
 u:Addr
 c:Addr
def Four.at (f:Four) (st:Int):Addr:=if st=1 then f.r else if st=2 then f.u else if st=3 then f.c else f.n
def rfV (f:Four) (st:Int) (tx:Bs):Value:=.iface 99 (.agg #[.iface 247 (.pointer (some (f.at st))),.string ⟨tx.toArray⟩])
def errV (f:Four) (st:Int) (tx:Bs):Value:=if st=0 then .nilIface else rfV f st tx
theorem errV_no (f:Four) (tx:Bs):errV f 0 tx=.nilIface:=rfl
theorem errV_yes (f:Four) {st:Int} (h:st≠0) (tx:Bs):errV f st tx=rfV f st tx:=by unfold errV;rw[if_neg h]
def Held (w:World) (a:Addr):Prop:=∃c t,w.heap[a.block]?=some (.cells c t (0,0))
theorem Held.below {w w':World} {a:Addr} (h:Held w a) (b:Below w.heap.size w w'):Held w' a:=by
 obtain⟨c,t,h⟩:=h
 have hl:a.block<w.heap.size:=by
  rcases Nat.lt_or_ge a.block w.heap.size with e|e
  ·exact e
  ·rw[Array.getElem?_eq_none e]at h;cases h
 exact⟨c,t,by rw[b.block _ hl];exact h⟩
structure Sen (f:Four) (w:World):Prop where
 n:w.cell? ⟨0,0,none⟩=some (.iface 247 (.pointer (some f.n)))
 r:w.cell? ⟨1,0,none⟩=some (.iface 247 (.pointer (some f.r)))
 u:w.cell? ⟨2,0,none⟩=some (.iface 247 (.pointer (some f.u)))
 c:w.cell? ⟨3,0,none⟩=some (.iface 247 (.pointer (some f.c)))
 ty:w.cell? ⟨4,0,none⟩=some (.iface 168 (.agg #[.pointer (some ⟨9,66,none⟩)]))
 hn:Held w f.n
 hr:Held w f.r
 hu:Held w f.u
 hc:Held w f.c
 nr:f.n≠f.r
 nu:f.n≠f.u
 nc:f.n≠f.c
 ur:f.u≠f.r
 cr:f.c≠f.r
 cu:f.c≠f.u
theorem Sen.below {f:Four} {w w':World} (h:Sen f w) (b:Below w.heap.size w w'):Sen f w':=
 ⟨later_cell h.n b,later_cell h.r b,later_cell h.u b,later_cell h.c b,later_cell h.ty b,h.hn.below b,h.hr.below b,h.hu.below b,h.hc.below b,h.nr,h.nu,h.nc,h.ur,h.cr,h.cu⟩
theorem irefusedFor_any (t:TypeId) (p:Value) (w:World):
  Calls Tryz.prog 72 #[.iface t p] w fun e w'=>e=.returned (.iface 99 (.agg #[.iface t p,.string ⟨#[]⟩]))∧w'=w:=by
 go_enter Tryz.func72,Tryz.ntmps72
 go_wp2
 go_ret
 exact⟨rfl,rfl⟩
def acSt (code:Int):Int:=if code=0 then 0 else if code=1 then 3 else 1
theorem irefAct_any (f:Four) (code:Int) (w:World) (S:Sen f w):
  Calls Tryz.prog 115 #[.int .i64 code] w fun e w'=>e=.returned (errV f (acSt code) [])∧w'=w:=by
 have hr:=S.r
 have hc:=S.c
 have H0:Hid (code=0→errV f (acSt code) []=.nilIface):=fun e=>by subst e;rfl
 have H1:Hid (code=1→errV f (acSt code) []=.iface 99 (.agg #[.iface 247 (.pointer (some f.c)),.string ⟨#[]⟩])):=fun e=>by subst e;rfl
 have H2:Hid (code≠0→code≠1→errV f (acSt code) []=.iface 99 (.agg #[.iface 247 (.pointer (some f.r)),.string ⟨#[]⟩])):=fun e e'=>by
  unfold acSt
  rw[if_neg e,if_neg e']
  rfl
 obtain⟨V,hV⟩:∃V,V=errV f (acSt code) []:=⟨_,rfl⟩
 rw[←hV]at H0 H1 H2⊢
 clear hV S
 by_cases h0:code=0
 ·rw[H0.out h0]
  clear H0 H1 H2
  go_enter Tryz.func115,Tryz.ntmps115
  go_wp2
  go_ret
  exact⟨rfl,rfl⟩
 ·by_cases h1:code=1
  ·rw[H1.out h1]
   clear H0 H1 H2
   go_enter Tryz.func115,Tryz.ntmps115
   go_wp2_with (go_at_call 72;refine(irefusedFor_any _ _ _).mono ?_;rintro e w' ⟨rfl,hw'⟩;subst w')
   go_ret
   exact⟨rfl,rfl⟩
  ·rw[H2.out h0 h1]
   clear H0 H1 H2
   go_enter Tryz.func115,Tryz.ntmps115
   go_wp2_with (go_at_call 72;refine(irefusedFor_any _ _ _).mono ?_;rintro e w' ⟨rfl,hw'⟩;subst w')
   go_ret
   exact⟨rfl,rfl⟩
theorem irefDisk_any (f:Four) (an:An) (w:World) (S:Sen f w) (hs:an.st=0∨(an.st=1∧an.tx=[])∨an.st=2∨(an.st=7∧an.tx=[])):
  Calls Tryz.prog 111 #[AV an] w fun e w'=>e=.returned (errV f an.st an.tx)∧Below w.heap.size w w':=by
 have b0:Below w.heap.size w (w.alloc (.cells #[.int .i64 an.st,.string ⟨an.tx.toArray⟩] 36)):=(Below.refl _ _).alloc (Nat.le_refl _) _
 have P0:=StB.new w 36 #[.int .i64 an.st,.string ⟨an.tx.toArray⟩]
 have k0:(w.alloc (.cells #[.int .i64 an.st,.string ⟨an.tx.toArray⟩] 36)).cell? ⟨w.heap.size,0,none⟩=some (.int .i64 an.st):=P0.cell 0 rfl
 have k1:(w.alloc (.cells #[.int .i64 an.st,.string ⟨an.tx.toArray⟩] 36)).cell? ⟨w.heap.size,1,none⟩=some (.string ⟨an.tx.toArray⟩):=P0.cell 1 rfl
 have S':=S.below b0
 have hr:=S'.r
 have hu:=S'.u
 have hn:=S'.n
 have HB:Hid (Below w.heap.size w (w.alloc (.cells #[.int .i64 an.st,.string ⟨an.tx.toArray⟩] 36))):=b0
 clear P0 S' S b0
 obtain⟨st,tx⟩:=an
 dsimp only at*
 unfold AV anA S
 dsimp only
 rcases hs with rfl|⟨rfl,rfl⟩|rfl|⟨rfl,rfl⟩
 ·rw[errV_no]
  go_enter Tryz.func111,Tryz.ntmps111
  go_wp2
  go_ret
  exact⟨rfl,HB.out⟩
 ·rw[show errV f 1 []=.iface 99 (.agg #[.iface 247 (.pointer (some f.r)),.string ⟨#[]⟩])from rfl]
  go_enter Tryz.func111,Tryz.ntmps111
  go_wp2_with (go_at_call 72;refine(irefusedFor_any _ _ _).mono ?_;rintro e w' ⟨rfl,hw'⟩;subst w')
  go_ret
  exact⟨rfl,HB.out⟩
 ·rw[show errV f 2 tx=.iface 99 (.agg #[.iface 247 (.pointer (some f.u)),.string ⟨tx.toArray⟩])from rfl]
  go_enter Tryz.func111,Tryz.ntmps111
  go_wp2
  go_ret
  exact⟨rfl,HB.out⟩
 ·rw[show errV f 7 []=.iface 99 (.agg #[.iface 247 (.pointer (some f.n)),.string ⟨#[]⟩])from rfl]
  go_enter Tryz.func111,Tryz.ntmps111
  go_wp2_with (go_at_call 72;refine(irefusedFor_any _ _ _).mono ?_;rintro e w' ⟨rfl,hw'⟩;subst w')
  go_ret
  exact⟨rfl,HB.out⟩
theorem iis_any (a b:Addr) (y:Value) (w:World) (ha:Held w a) (hb:Held w b):
  Calls Tryz.prog 81 #[.iface 99 (.agg #[.iface 247 (.pointer (some a)),y]),.iface 247 (.pointer (some b))] w fun e w'=>e=.returned (.bool (decide (a=b)))∧Below w.heap.size w w':=by
 by_cases h:a=b
 ·subst h
  rw[decide_eq_true rfl]
  exact is_same a y w
 ·rw[decide_eq_false h]
  obtain⟨ca,ta,ha⟩:=ha
  obtain⟨cb,tb,hb⟩:=hb
  exact is_other a b y ca cb ta tb w h ha hb
theorem istatus_any (f:Four) (st:Int) (tx:Bs) (w:World) (S:Sen f w) (hs:st=1∨st=2∨st=3∨st=7):
  Calls Tryz.prog 33 #[rfV f st tx] w fun e w'=>e=.returned (.int .i64 st)∧Below w.heap.size w w':=by
 have ha:∀wx,Sen f wx→Held wx (f.at st):=by
  intro wx S
  unfold Four.at
  split
  ·exact S.hr
  ·split
   ·exact S.hu
   ·split
    ·exact S.hc
    ·exact S.hn
 have C:Hid (∀wx b,Sen f wx→Held wx b→Calls Tryz.prog 81 #[rfV f st tx,.iface 247 (.pointer (some b))] wx fun e w'=>e=.returned (.bool (decide (f.at st=b)))∧Below wx.heap.size wx w'):=fun wx b S hb=>iis_any _ _ _ wx (ha wx S) hb
 have E1:Hid (decide (f.at st=f.r)=decide (st=1)∧(st≠1→decide (f.at st=f.u)=decide (st=2))∧(st≠1→st≠2→decide (f.at st=f.c)=decide (st=3))):=by
  rcases hs with rfl|rfl|rfl|rfl
  ·exact⟨by simp[Four.at],fun h=>absurd rfl h,fun h=>absurd rfl h⟩
  ·exact⟨by simp[Four.at,S.ur],fun _=>by simp[Four.at],fun _ h=>absurd rfl h⟩
  ·exact⟨by simp[Four.at,S.cr],fun _=>by simp[Four.at,S.cu],fun _ _=>by simp[Four.at]⟩
  ·exact⟨by simp[Four.at,S.nr],fun _=>by simp[Four.at,S.nu],fun _ _=>by simp[Four.at,S.nc]⟩
 have HS:Hid (Sen f w):=S
 have k1:=S.r
 obtain⟨V,hV⟩:∃V,V=rfV f st tx:=⟨_,rfl⟩
 have hI:∃t p,V=.iface t p:=⟨_,_,hV⟩
 rw[←hV]at C⊢
 obtain⟨t,p,rfl⟩:=hI
 clear S hV ha
 go_enter Tryz.func33,Tryz.ntmps33
 go_wp2_with fail
 refine(C.out _ _ HS.out HS.out.hr).mono ?_
 rintro e w1 ⟨rfl,b1⟩
 rw[E1.out.1]
 by_cases h1:st=1
 ·subst h1
  rw[decide_eq_true rfl]
  go_wp2
  go_ret
  exact⟨rfl,b1⟩
 ·rw[decide_eq_false h1]
  have HS1:Hid (Sen f w1):=HS.out.below b1
  have HB1:Hid (Below w.heap.size w w1):=b1
  have k2:=HS1.out.u
  clear b1 k1
  go_wp2_with fail
  refine(C.out _ _ HS1.out HS1.out.hu).mono ?_
  rintro e w2 ⟨rfl,b2⟩
  rw[E1.out.2.1 h1]
  by_cases h2:st=2
  ·subst h2
   have HB2:Hid (Below w.heap.size w w2):=HB1.out.trans (b2.mono HB1.out.size)
   rw[decide_eq_true rfl]
   go_wp2
   go_ret
   exact⟨rfl,HB2.out⟩
  ·rw[decide_eq_false h2]
   have HS2:Hid (Sen f w2):=HS1.out.below b2
   have HB2:Hid (Below w.heap.size w w2):=HB1.out.trans (b2.mono HB1.out.size)
   have k3:=HS2.out.c
   clear b2 k2
   go_wp2_with fail
   refine(C.out _ _ HS2.out HS2.out.hc).mono ?_
   rintro e w3 ⟨rfl,b3⟩
   have HB3:Hid (Below w.heap.size w w3):=HB2.out.trans (b3.mono HB2.out.size)
   rw[E1.out.2.2 h1 h2]
   clear k3 b3
   by_cases h3:st=3
   ·subst h3
    rw[decide_eq_true rfl]
    go_wp2
    go_ret
    exact⟨rfl,HB3.out⟩
   ·have h7:st=7:=by omega
    subst h7
    rw[decide_eq_false (by decide)]
    go_wp2
    go_ret
    exact⟨rfl,HB3.out⟩
theorem itext_any (f:Four) (st:Int) (tx:Bs) (w:World) (S:Sen f w):
  Calls Tryz.prog 34 #[rfV f st tx] w fun e w'=>e=.returned (.string ⟨tx.toArray⟩)∧Below w.heap.size w w':=by
 obtain⟨w1,hw1⟩:∃w1,w1=w.alloc (.cells #[.nilIface,.string ⟨#[]⟩] 99):=⟨_,rfl⟩
 have b1:Below w.heap.size w w1:=by rw[hw1];exact(Below.refl _ _).alloc (Nat.le_refl _) _
 have P1:StB w1 w.heap.size 99 #[.nilIface,.string ⟨#[]⟩]:=by rw[hw1];exact StB.new _ _ _
 have c:=as_hit 247 (.pointer (some (f.at st))) ⟨tx.toArray⟩ w.heap.size _ _ w1 (S.below b1).ty P1
 have HB:Hid (Below w.heap.size w w1):=b1
 unfold rfV
 clear b1 P1 S
 go_enter Tryz.func34,Tryz.ntmps34
 go_upto_region 2 with fail
 rw[←hw1]
 clear hw1
 go_wp2_with fail
 refine c.mono ?_
 rintro e w2 ⟨rfl,s2,g2⟩
 have k1:w2.cell? ⟨w.heap.size,1,none⟩=some (.string ⟨tx.toArray⟩):=s2.cell 1 rfl
 have HB2:Hid (Below w.heap.size w w2):=HB.out.grown g2 HB.out.size (fun k e=>by cases e;exact Nat.le_refl _)
 clear s2 g2 c
 go_wp2
 go_ret
 exact⟨rfl,HB2.out⟩
end Go.Proofs.YtpdggofaobmnlaaGreatDoor
namespace Go.Proofs.YtpdggofaobmnlaaGreatDoor
open Go.ChangeShapes Go.WideShapes Go.ChangeAt Go.RowKit
def wiA (i k d:Int):Array Value:=#[.int .i64 i,.int .i64 k,.int .i64 d]
theorem Tryz.isWish:IsS 209 3:=⟨⟨_,Tryz.underlying209⟩,by kernel_rfl⟩
theorem wiA_one (i k d:Int):(wiA i k d).all (·.oneCell')=true:=by simp[wiA,Value.oneCell']
theorem wiA_cells {w:World} {g:Nat} {i k d:Int} (h:StB w g 209 (wiA i k d)):
  w.cell? ⟨g,0,none⟩=some (.int .i64 i)∧w.cell? ⟨g,1,none⟩=some (.int .i64 k)∧w.cell? ⟨g,2,none⟩=some (.int .i64 d):=
 ⟨h.cell 0 rfl,h.cell 1 rfl,h.cell 2 rfl⟩
def he0A:Array Value:=heA (fun _=>0) 0 0 0
def HW (w w1:World) (f:Nat→Int) (kd ho tu i k d:Int):Prop:=
 StB w1 w.heap.size 106 (heA f kd ho tu)∧StB w1 (w.heap.size+1) 209 (wiA i k d)∧StB w1 (w.heap.size+2) 106 he0A∧Below w.heap.size w w1
theorem HW.start (w:World) (f:Nat→Int) (kd ho tu i k d:Int):HW w (((w.alloc (.cells (heA f kd ho tu) 106)).alloc (.cells (wiA i k d) 209)).alloc (.cells he0A 106)) f kd ho tu i k d:=by
 refine⟨((StB.new _ _ _).alloc _).alloc _,?_,?_,(((Below.refl _ _).alloc (Nat.le_refl _) _).alloc (by simp) _).alloc (by simp;omega) _⟩
 ·have:=StB.new (w.alloc (.cells (heA f kd ho tu) 106)) 209 (wiA i k d)
  rw[World.size_alloc]at this
  exact this.alloc _
 ·have:=StB.new ((w.alloc (.cells (heA f kd ho tu) 106)).alloc (.cells (wiA i k d) 209)) 106 he0A
  rw[World.size_alloc,World.size_alloc]at this
  exact this
theorem HW.next {w w1 w2:World} {f:Nat→Int} {kd ho tu i k d:Int} (h:HW w w1 f kd ho tu i k d) (b:Below w1.heap.size w1 w2):HW w w2 f kd ho tu i k d:=
 ⟨h.1.below b,h.2.1.below b,h.2.2.1.below b,h.2.2.2.trans (b.mono h.2.2.2.size)⟩
theorem HW.drew {w w1:World} {f:Nat→Int} {kd ho tu i k d:Int} (h:HW w w1 f kd ho tu i k d):HW w w1.drew f kd ho tu i k d:=⟨h.1,h.2.1,h.2.2.1,h.2.2.2.drew⟩
theorem HW.lt {w w1:World} {f:Nat→Int} {kd ho tu i k d:Int} (h:HW w w1 f kd ho tu i k d):w.heap.size+2<w1.heap.size:=h.2.2.1.lt
theorem HW.set {w w1 w2:World} {f g:Nat→Int} {kd ho tu i k d kd' ho' tu':Int} (h:HW w w1 f kd ho tu i k d) (s:StB w2 w.heap.size 106 (heA g kd' ho' tu')) (b:w1.grownBy w2 (some w.heap.size)):HW w w2 g kd' ho' tu' i k d:=
 ⟨s,h.2.1.kept b (by simp),h.2.2.1.kept b (by simp),h.2.2.2.grown b h.2.2.2.size (fun x e=>by cases e;exact Nat.le_refl _)⟩
theorem HW.put {w w1:World} {f g:Nat→Int} {kd ho tu i k d kd' ho' tu':Int} (h:HW w w1 f kd ho tu i k d) (j:Nat) (x:Int) (e:(heA f kd ho tu).setIfInBounds j (.int .i64 x)=heA g kd' ho' tu'):HW w (w1.setCell ⟨w.heap.size,j,none⟩ (.int .i64 x)) g kd' ho' tu' i k d:=
 h.set (h.1.put j _ e) (grownSet w1 _ j _)
theorem ianykey_any (i k d:Int) (w:World):
  Calls Tryz.prog 191 #[.agg (wiA i k d)] w fun e w'=>e=.returned (.bool (inI k 0 9999))∧Below w.heap.size w w':=by
 have b1:Below w.heap.size w (w.alloc (.cells (wiA i k d) 209)):=(Below.refl _ _).alloc (Nat.le_refl _) _
 have c1:=fun wx=>ikeyok_any k wx
 unfold wiA at*
 go_enter Tryz.func191,Tryz.ntmps191
 go_wp2_with (first|(go_at_call 160;refine(c1 _).mono ?_;rintro e w' ⟨rfl,hw⟩;subst w'))
 go_ret
 exact⟨rfl,b1⟩
theorem isomekind_any (i k d:Int) (w:World):
  Calls Tryz.prog 194 #[.agg (wiA i k d)] w fun e w'=>e=.returned (.bool (kiI d))∧Below w.heap.size w w':=by
 have b1:Below w.heap.size w (w.alloc (.cells (wiA i k d) 209)):=(Below.refl _ _).alloc (Nat.le_refl _) _
 have c1:=fun wx=>ikind_any d wx
 unfold wiA at*
 go_enter Tryz.func194,Tryz.ntmps194
 go_wp2_with (first|(go_at_call 163;refine(c1 _).mono ?_;rintro e w2 ⟨rfl,b2⟩))
 go_ret
 exact⟨rfl,b1.trans (b2.mono b1.size)⟩
theorem ianything_any (i k d:Int) (w:World):
  Calls Tryz.prog 197 #[.agg (wiA i k d)] w fun e w'=>e=.returned (.bool true)∧Below w.heap.size w w':=by
 have b1:Below w.heap.size w (w.alloc (.cells (wiA i k d) 209)):=(Below.refl _ _).alloc (Nat.le_refl _) _
 unfold wiA at*
 go_enter Tryz.func197,Tryz.ntmps197
 go_wp2
 go_ret
 exact⟨rfl,b1⟩
theorem key_some (k:Int):(inI k 0 9999&&(k !=0))=inI k 1 9999:=by
 rw[Bool.eq_iff_iff]
 simp[inI]
 omega
theorem isomekk_any (i k d:Int) (w:World):
  Calls Tryz.prog 201 #[.agg (wiA i k d)] w fun e w'=>e=.returned (.bool (inI k 1 9999&&kiI d))∧Below w.heap.size w w':=by
 have b1:Below w.heap.size w (w.alloc (.cells (wiA i k d) 209)):=(Below.refl _ _).alloc (Nat.le_refl _) _
 have c1:=fun wx=>ikeyok_any k wx
 have c2:=fun wx=>ikind_any d wx
 have HE:Hid ((inI k 0 9999&&(k !=0))=inI k 1 9999):=key_some k
 obtain⟨x,hx⟩:∃x,x=inI k 0 9999:=⟨_,rfl⟩
 obtain⟨y,hy⟩:∃y,y=kiI d:=⟨_,rfl⟩
 obtain⟨z,hz⟩:∃z,z=inI k 1 9999:=⟨_,rfl⟩
 rw[←hx,←hz]at HE
 rw[←hy,←hz]
 simp only[←hx]at c1
 simp only[←hy]at c2
 clear hx hy hz
 unfold wiA at*
 cases x with
 |false=>
  have E:Hid (z=false):=by rw[Hid,←HE.out];simp
  clear HE
  go_enter Tryz.func201,Tryz.ntmps201
  go_wp2_with (first|(go_at_call 160;refine(c1 _).mono ?_;rintro e w' ⟨rfl,hw⟩;subst w'))
  go_ret
  exact⟨ret_bool (by rw[E.out];simp),b1⟩
 |true=>
  by_cases k0:k=0
  ·have E:Hid (z=false):=by rw[Hid,←HE.out];simp[k0]
   have kn:(k !=0)=false:=by simpa using k0
   clear HE k0
   go_enter Tryz.func201,Tryz.ntmps201
   go_wp2_with (first|(go_at_call 160;refine(c1 _).mono ?_;rintro e w' ⟨rfl,hw⟩;subst w'))
   go_ret
   exact⟨ret_bool (by rw[E.out];simp),b1⟩
  ·have E:Hid (z=true):=by rw[Hid,←HE.out];simp[k0]
   have kn:(k !=0)=true:=by simpa using k0
   clear HE k0
   go_enter Tryz.func201,Tryz.ntmps201
   go_wp2_with (first|(go_at_call 160;refine(c1 _).mono ?_;rintro e w' ⟨rfl,hw⟩;subst w')|(go_at_call 163;refine(c2 _).mono ?_;rintro e w2 ⟨rfl,b2⟩))
   go_ret
   exact⟨ret_bool (by rw[E.out];simp),b1.trans (b2.mono b1.size)⟩
theorem inobody_any (f:Nat→Int) (kd ho tu i k d:Int) (w:World):
  Calls Tryz.prog 192 #[.agg (heA f kd ho tu),.agg (wiA i k d)] w fun e w'=>e=.returned (.bool false)∧Below w.heap.size w w':=by
 have b1:Below w.heap.size w ((w.alloc (.cells (heA f kd ho tu) 106)).alloc (.cells (wiA i k d) 209)):=((Below.refl _ _).alloc (Nat.le_refl _) _).alloc (by simp) _
 unfold wiA heA at*
 go_enter Tryz.func192,Tryz.ntmps192
 go_wp2
 go_ret
 exact⟨rfl,b1⟩
def HW2 (w w1:World) (f:Nat→Int) (kd ho tu i k d:Int):Prop:=
 StB w1 w.heap.size 106 (heA f kd ho tu)∧StB w1 (w.heap.size+1) 209 (wiA i k d)∧Below w.heap.size w w1
theorem HW2.start (w:World) (f:Nat→Int) (kd ho tu i k d:Int):HW2 w ((w.alloc (.cells (heA f kd ho tu) 106)).alloc (.cells (wiA i k d) 209)) f kd ho tu i k d:=by
 refine⟨(StB.new _ _ _).alloc _,?_,((Below.refl _ _).alloc (Nat.le_refl _) _).alloc (by simp) _⟩
 have:=StB.new (w.alloc (.cells (heA f kd ho tu) 106)) 209 (wiA i k d)
 rw[World.size_alloc]at this
 exact this
theorem HW2.next {w w1 w2:World} {f:Nat→Int} {kd ho tu i k d:Int} (h:HW2 w w1 f kd ho tu i k d) (b:Below w1.heap.size w1 w2):HW2 w w2 f kd ho tu i k d:=
 ⟨h.1.below b,h.2.1.below b,h.2.2.trans (b.mono h.2.2.size)⟩
theorem HW2.drew {w w1:World} {f:Nat→Int} {kd ho tu i k d:Int} (h:HW2 w w1 f kd ho tu i k d):HW2 w w1.drew f kd ho tu i k d:=⟨h.1,h.2.1,h.2.2.drew⟩
def strI (f:Nat→Int) (i:Int):Bool:= !(inI i 0 3&&decide (f i.toNat≠0))
theorem istrange_any (f:Nat→Int) (kd ho tu i k d:Int) (w:World):
  Calls Tryz.prog 198 #[.agg (heA f kd ho tu),.agg (wiA i k d)] w fun e w'=>e=.returned (.bool (strI f i))∧Below w.heap.size w w':=by
 obtain⟨w1,hw1⟩:∃w1,w1=(w.alloc (.cells (heA f kd ho tu) 106)).alloc (.cells (wiA i k d) 209):=⟨_,rfl⟩
 have HS:Hid (HW2 w w1 f kd ho tu i k d):=by rw[hw1];exact HW2.start _ _ _ _ _ _ _ _
 have c1:=iregd_any f i w1
 obtain⟨x,hx⟩:∃x,x=(inI i 0 3&&decide (f i.toNat≠0)):=⟨_,rfl⟩
 unfold strI
 rw[←hx]at c1⊢
 clear hx
 unfold kA at c1
 rw[heA,wiA]at hw1⊢
 go_enter Tryz.func198,Tryz.ntmps198
 go_wp2_with fail
 rw[←hw1]
 refine c1.mono ?_
 rintro e w2 ⟨rfl,b2⟩
 replace HS:=HS.out.next b2
 clear hw1 c1 b2
 go_wp2
 go_ret
 exact⟨rfl,HS.2.2⟩
end Go.Proofs.YtpdggofaobmnlaaGreatDoor
