/- What Go's errors.As answers of the program's refusals: it fills the variable that it is handed. -/
import Derived.Test.YtpdggofaobmnlaaGreatDoorM23
import Derived.Test.YtpdggofaobmnlaaGreatDoorM10
import Derived.Test.YtpdggofaobmnlaaGreatDoorM5
namespace Go.Proofs.YtpdggofaobmnlaaGreatDoor
open Go.ChangeShapes Go.WideShapes Go.ChangeAt Go.RowKit Go.Extern

/- A type's handle. -/
theorem Tryz.asValueOf (t : Addr) (w : World) : (callFunc 119 #[.iface 101 (.pointer (some t))]).run Tryz.prog w
    = .ok (.value (.agg #[.pointer (some ⟨9, 101, none⟩), .pointer (some ⟨w.heap.size, 0, none⟩), .int .u64 150])) (w.alloc (.cells #[.pointer (some t)] 101)) := by
  rw [@run_callFunc_extern Tryz.prog 119 _ (fun args => ReflectliteValue.unpack (args.getD 0 (.tuple #[]))) Tryz.func119 (by kernel_rfl) (by kernel_rfl) (by kernel_rfl) (by kernel_rfl)]
  rw [show (ReflectliteValue.unpack ((#[.iface 101 (.pointer (some t))] : Array Value).getD 0 (.tuple #[]))).run Tryz.prog w = .ok (.agg #[.pointer (some ⟨9, 101, none⟩), .pointer (some ⟨w.heap.size, 0, none⟩), .int .u64 150]) (w.alloc (.cells #[.pointer (some t)] 101)) by kernel_rfl]
  rfl
theorem Tryz.asType (a : Addr) (w : World) : (callFunc 120 #[.agg #[.pointer (some ⟨9, 101, none⟩), .pointer (some a), .int .u64 150]]).run Tryz.prog w
    = .ok (.value (.iface 168 (.agg #[.pointer (some ⟨9, 101, none⟩)]))) w := by
  rw [@run_callFunc_extern Tryz.prog 120 _ (ReflectliteValue.methodAny (ReflectliteValue.valueError "reflectlite.Value.Type" 0) (fun t _ _ _ => ReflectliteType.toType t)) Tryz.func120 (by kernel_rfl) (by kernel_rfl) (by kernel_rfl) (by kernel_rfl)]
  rw [show (ReflectliteValue.methodAny (ReflectliteValue.valueError "reflectlite.Value.Type" 0) (fun t _ _ _ => ReflectliteType.toType t) #[.agg #[.pointer (some ⟨9, 101, none⟩), .pointer (some a), .int .u64 150]]).run Tryz.prog w = .ok (.iface 168 (.agg #[.pointer (some ⟨9, 101, none⟩)])) w by kernel_rfl]
  rfl
theorem Tryz.asMethodKind (h : Value) (w : World) : (Go.method 378 168 (.agg #[h]) "Kind").run Tryz.prog w = .ok (225, h) w := by kernel_rfl
theorem Tryz.asKindP (w : World) : (callFunc 225 #[.pointer (some ⟨9, 101, none⟩)]).run Tryz.prog w = .ok (.value (.int .u8 22)) w := by
  rw [@run_callFunc_extern Tryz.prog 225 _ (ReflectliteType.abiMethod fun t => do pure (.int .u8 (← Rtype.kind t))) Tryz.func225 (by kernel_rfl) (by kernel_rfl) (by kernel_rfl) (by kernel_rfl)]
  rw [show ((ReflectliteType.abiMethod fun t => do pure (.int .u8 (← Rtype.kind t))) #[.pointer (some ⟨9, 101, none⟩)]).run Tryz.prog w = .ok (.int .u8 22) w by kernel_rfl]
  rfl
theorem Tryz.asKindR (w : World) : (callFunc 225 #[.pointer (some ⟨9, 99, none⟩)]).run Tryz.prog w = .ok (.value (.int .u8 25)) w := by
  rw [@run_callFunc_extern Tryz.prog 225 _ (ReflectliteType.abiMethod fun t => do pure (.int .u8 (← Rtype.kind t))) Tryz.func225 (by kernel_rfl) (by kernel_rfl) (by kernel_rfl) (by kernel_rfl)]
  rw [show ((ReflectliteType.abiMethod fun t => do pure (.int .u8 (← Rtype.kind t))) #[.pointer (some ⟨9, 99, none⟩)]).run Tryz.prog w = .ok (.int .u8 25) w by kernel_rfl]
  rfl
theorem rlm (z : Sem Value) (f : TypeId → Addr → Nat → Nat → Sem Value) (v : Value) :
    ReflectliteValue.method z f #[v] = (do match ← ReflectliteValue.parts v with | none => z | some (t, a, fl) => f t a fl (fl % 32)) := rfl
theorem Tryz.asPartsP (a : Addr) (w : World) : (ReflectliteValue.parts (.agg #[.pointer (some ⟨9, 101, none⟩), .pointer (some a), .int .u64 150])).run Tryz.prog w = .ok (some (101, a, 150)) w := by kernel_rfl
theorem Tryz.asIsNil (a p : Addr) (W : World) (ha : W.cell? a = some (.pointer (some p))) :
    (callFunc 121 #[.agg #[.pointer (some ⟨9, 101, none⟩), .pointer (some a), .int .u64 150]]).run Tryz.prog W = .ok (.value (.bool false)) W := by
  rw [@run_callFunc_extern Tryz.prog 121 _ (ReflectliteValue.method (ReflectliteValue.valueError "reflectlite.Value.IsNil" 0) ReflectliteValue.isNil) Tryz.func121 (by kernel_rfl) (by kernel_rfl) (by kernel_rfl) (by kernel_rfl)]
  rw [rlm]
  simp only [Sem.run_bind, Tryz.asPartsP, Result.andThen]
  simp [ReflectliteValue.isNil, loadVar, isAgg, underlying, Tryz.underlying101, ha, Result.andThen]
theorem Tryz.asMethodElem (h : Value) (w : World) : (Go.method 378 168 (.agg #[h]) "Elem").run Tryz.prog w = .ok (236, .agg #[h]) w := by kernel_rfl
theorem Tryz.asMethodImplements (h : Value) (w : World) : (Go.method 378 168 (.agg #[h]) "Implements").run Tryz.prog w = .ok (237, .agg #[h]) w := by kernel_rfl
theorem Tryz.asMethodAssignableTo (h : Value) (w : World) : (Go.method 378 168 (.agg #[h]) "AssignableTo").run Tryz.prog w = .ok (234, .agg #[h]) w := by kernel_rfl
theorem Tryz.asElemT (w : World) : (callFunc 236 #[.agg #[.pointer (some ⟨9, 101, none⟩)]]).run Tryz.prog w = .ok (.value (.iface 168 (.agg #[.pointer (some ⟨9, 99, none⟩)]))) w := by
  rw [@run_callFunc_extern Tryz.prog 236 _ (ReflectliteType.method ReflectliteType.elem) Tryz.func236 (by kernel_rfl) (by kernel_rfl) (by kernel_rfl) (by kernel_rfl)]
  rw [show (ReflectliteType.method ReflectliteType.elem #[.agg #[.pointer (some ⟨9, 101, none⟩)]]).run Tryz.prog w = .ok (.iface 168 (.agg #[.pointer (some ⟨9, 99, none⟩)])) w by kernel_rfl]
  rfl
theorem Tryz.asImplements (w : World) : (callFunc 237 #[.agg #[.pointer (some ⟨9, 99, none⟩)], .iface 168 (.agg #[.pointer (some ⟨9, 66, none⟩)])]).run Tryz.prog w = .ok (.value (.bool true)) w := by
  rw [@run_callFunc_extern Tryz.prog 237 _ (ReflectliteType.relation "Implements" ReflectliteType.implements_) Tryz.func237 (by kernel_rfl) (by kernel_rfl) (by kernel_rfl) (by kernel_rfl)]
  rw [show (ReflectliteType.relation "Implements" ReflectliteType.implements_ #[.agg #[.pointer (some ⟨9, 99, none⟩)], .iface 168 (.agg #[.pointer (some ⟨9, 66, none⟩)])]).run Tryz.prog w = .ok (.bool true) w by kernel_rfl]
  rfl
theorem Tryz.asTypeOf (v : Value) (w : World) : (callFunc 117 #[.iface 99 v]).run Tryz.prog w = .ok (.value (.iface 168 (.agg #[.pointer (some ⟨9, 99, none⟩)]))) w := by
  rw [@run_callFunc_extern Tryz.prog 117 _ Extern.ReflectliteType.typeOf Tryz.func117 (by kernel_rfl) (by kernel_rfl) (by kernel_rfl) (by kernel_rfl)]
  rw [show (Extern.ReflectliteType.typeOf #[.iface 99 v]).run Tryz.prog w = .ok (.iface 168 (.agg #[.pointer (some ⟨9, 99, none⟩)])) w by kernel_rfl]
  rfl
theorem Tryz.asAssignable (w : World) : (callFunc 234 #[.agg #[.pointer (some ⟨9, 99, none⟩)], .iface 168 (.agg #[.pointer (some ⟨9, 99, none⟩)])]).run Tryz.prog w = .ok (.value (.bool true)) w := by
  rw [@run_callFunc_extern Tryz.prog 234 _ (ReflectliteType.relation "AssignableTo" ReflectliteType.assignableTo) Tryz.func234 (by kernel_rfl) (by kernel_rfl) (by kernel_rfl) (by kernel_rfl)]
  rw [show (ReflectliteType.relation "AssignableTo" ReflectliteType.assignableTo #[.agg #[.pointer (some ⟨9, 99, none⟩)], .iface 168 (.agg #[.pointer (some ⟨9, 99, none⟩)])]).run Tryz.prog w = .ok (.bool true) w by kernel_rfl]
  rfl
theorem Tryz.asValueOfR (t : TypeId) (p : Value) (s : ByteArray) (w : World) : (callFunc 119 #[.iface 99 (.agg #[.iface t p, .string s])]).run Tryz.prog w
    = .ok (.value (.agg #[.pointer (some ⟨9, 99, none⟩), .pointer (some ⟨w.heap.size, 0, none⟩), .int .u64 153])) (w.alloc (.cells #[.iface t p, .string s] 99)) := by
  rw [@run_callFunc_extern Tryz.prog 119 _ (fun args => ReflectliteValue.unpack (args.getD 0 (.tuple #[]))) Tryz.func119 (by kernel_rfl) (by kernel_rfl) (by kernel_rfl) (by kernel_rfl)]
  rw [show (ReflectliteValue.unpack ((#[.iface 99 (.agg #[.iface t p, .string s])] : Array Value).getD 0 (.tuple #[]))).run Tryz.prog w = .ok (.agg #[.pointer (some ⟨9, 99, none⟩), .pointer (some ⟨w.heap.size, 0, none⟩), .int .u64 153]) (w.alloc (.cells #[.iface t p, .string s] 99)) by kernel_rfl]
  rfl
theorem Tryz.asElemOf (w : World) : (Rtype.elem? 101).run Tryz.prog w = .ok (some 99) w := by kernel_rfl
theorem Tryz.asMk (p : Addr) (w : World) : (ReflectliteValue.mk 99 p ReflectliteValue.flagAddr).run Tryz.prog w = .ok (.agg #[.pointer (some ⟨9, 99, none⟩), .pointer (some p), .int .u64 409]) w := by kernel_rfl
theorem Tryz.asElemV (a p : Addr) (W : World) (ha : W.cell? a = some (.pointer (some p))) :
    (callFunc 153 #[.agg #[.pointer (some ⟨9, 101, none⟩), .pointer (some a), .int .u64 150]]).run Tryz.prog W
      = .ok (.value (.agg #[.pointer (some ⟨9, 99, none⟩), .pointer (some p), .int .u64 409])) W := by
  rw [@run_callFunc_extern Tryz.prog 153 _ (ReflectliteValue.method (ReflectliteValue.valueError "reflectlite.Value.Elem" 0) ReflectliteValue.elem) Tryz.func153 (by kernel_rfl) (by kernel_rfl) (by kernel_rfl) (by kernel_rfl)]
  rw [rlm]
  simp only [Sem.run_bind, Tryz.asPartsP, Result.andThen]
  simp [ReflectliteValue.elem, loadVar, isAgg, underlying, Tryz.underlying101, ha, Result.andThen, Tryz.asElemOf, Tryz.asMk]
theorem rls (v x : Value) : ReflectliteValue.set #[v, x] = (do
    let (some (dst, a, fl), some (src, b, _)) := (← ReflectliteValue.parts v, ← ReflectliteValue.parts x)
      | unsupported (.noEntry "extern/(internal/reflectlite.Value).Set.zeroValue")
    if fl / ReflectliteValue.flagAddr % 2 == 0 then unsupported (.noEntry "extern/(internal/reflectlite.Value).Set.unaddressable")
    let val ← loadVar src b
    if ← Rtype.directlyAssignable dst src then storeVar dst a val
    else if ← Rtype.implements dst src then
      if (← Rtype.kind src) == 20 then
        match val with
        | .nilIface => unsupported (.noEntry "extern/reflectlite: a nil value of one interface type handed on as a value of another")
        | _ => storeVar dst a val
      else storeVar dst a (.iface src val)
    else panicString ("reflectlite.Set: value of type " ++ (← Rtype.spelt src) ++ " is not assignable to type " ++ (← Rtype.spelt dst))
    pure (.tuple #[])) := rfl
theorem Tryz.asPartsA (a : Addr) (w : World) : (ReflectliteValue.parts (.agg #[.pointer (some ⟨9, 99, none⟩), .pointer (some a), .int .u64 409])).run Tryz.prog w = .ok (some (99, a, 409)) w := by kernel_rfl
theorem Tryz.asPartsR (a : Addr) (w : World) : (ReflectliteValue.parts (.agg #[.pointer (some ⟨9, 99, none⟩), .pointer (some a), .int .u64 153])).run Tryz.prog w = .ok (some (99, a, 153)) w := by kernel_rfl
theorem Tryz.asDirect (w : World) : (Rtype.directlyAssignable 99 99).run Tryz.prog w = .ok true w := by kernel_rfl
theorem Tryz.asSize (w : World) : (sizeOf 99).run Tryz.prog w = .ok 2 w := by kernel_rfl
end Go.Proofs.YtpdggofaobmnlaaGreatDoor
/- Go's errors.As at a refusal: the variable that it is handed is filled. -/
namespace Go.Proofs.YtpdggofaobmnlaaGreatDoor
open Go.ChangeShapes Go.WideShapes Go.ChangeAt Go.RowKit Go.Extern

theorem grown_al (w : World) (o : Obj) (row : Option Nat) : w.grownBy (w.alloc o) row := ⟨rfl, rfl, rfl, by simp, fun k hk _ => Below.heap_alloc w o k hk⟩

theorem Tryz.asLoad (b : Nat) (x y : Value) (W : World) (h0 : W.cell? ⟨b, 0, none⟩ = some x) (h1 : W.cell? ⟨b, 1, none⟩ = some y) : (loadVar 99 ⟨b, 0, none⟩).run Tryz.prog W = .ok (.agg #[x, y]) W := by
  have hs := Tryz.asSize
  simp [loadVar, isAgg, underlying, Tryz.underlying99, Result.andThen, hs, loadCells, loadCellsFrom, Addr.add, h0, h1]
theorem Tryz.asSet (g b : Nat) (t : TypeId) (p : Value) (s : ByteArray) (o0 o1 : Value) (W : World) (h0 : W.cell? ⟨b, 0, none⟩ = some (.iface t p)) (h1 : W.cell? ⟨b, 1, none⟩ = some (.string s)) (S : StB W g 99 #[o0, o1]) :
    (callFunc 154 #[.agg #[.pointer (some ⟨9, 99, none⟩), .pointer (some ⟨g, 0, none⟩), .int .u64 409], .agg #[.pointer (some ⟨9, 99, none⟩), .pointer (some ⟨b, 0, none⟩), .int .u64 153]]).run Tryz.prog W
      = .ok (.value (.tuple #[])) ((W.setCell ⟨g, 0, none⟩ (.iface t p)).setCell ⟨g, 1, none⟩ (.string s)) := by
  rw [@run_callFunc_extern Tryz.prog 154 _ ReflectliteValue.set Tryz.func154 (by kernel_rfl) (by kernel_rfl) (by kernel_rfl) (by kernel_rfl)]
  rw [rls]
  have hs := Tryz.asSize
  have t0 : W.cell? ⟨g, 0, none⟩ = some o0 := S.cell 0 rfl
  have f0 := S.frozen 0
  have S' : StB (W.setCell ⟨g, 0, none⟩ (.iface t p)) g 99 #[.iface t p, o1] := S.put 0 _ rfl
  have t1 : (W.setCell ⟨g, 0, none⟩ (.iface t p)).cell? ⟨g, 1, none⟩ = some o1 := S'.cell 1 rfl
  have f1 := S'.frozen 1
  simp only [Sem.run_bind, Tryz.asPartsA, Tryz.asPartsR, Result.andThen]
  simp [ReflectliteValue.flagAddr, Tryz.asLoad b _ _ W h0 h1, Result.andThen, Tryz.asDirect, storeVar, Value.cells, storeCells, Addr.add, hs]
  rw [run_store Tryz.prog W ⟨g, 0, none⟩ _ _ (by rfl)]
  simp only [t0, f0, if_neg Bool.false_ne_true]
  rw [run_store Tryz.prog (W.setCell ⟨g, 0, none⟩ (.iface t p)) ⟨g, 1, none⟩ _ _ (by rfl)]
  simp only [t1, f1, if_neg Bool.false_ne_true]

set_option maxRecDepth 20000 in
set_option maxHeartbeats 4000000 in
theorem as_hit (t : TypeId) (p : Value) (s : ByteArray) (g : Nat) (o0 o1 : Value) (w : World) (hg : w.cell? ⟨4, 0, none⟩ = some (.iface 168 (.agg #[.pointer (some ⟨9, 66, none⟩)]))) (S : StB w g 99 #[o0, o1]) :
    Calls Tryz.prog 82 #[.iface 99 (.agg #[.iface t p, .string s]), .iface 101 (.pointer (some ⟨g, 0, none⟩))] w fun e w' => e = .returned (.bool true) ∧ StB w' g 99 #[.iface t p, .string s] ∧ w.grownBy w' (some g) := by
  obtain ⟨W4, hW4⟩ : ∃ W4, W4 = (((w.alloc (.cells #[.pointer (some ⟨g, 0, none⟩)] 101)).alloc (.cells #[.pointer (some ⟨9, 101, none⟩), .pointer (some ⟨w.heap.size, 0, none⟩), .int .u64 150] 138)).alloc (.cells #[.pointer (some ⟨9, 101, none⟩), .pointer (some ⟨w.heap.size, 0, none⟩), .int .u64 150] 138)).alloc (.cells #[.iface t p, .string s] 99) := ⟨_, rfl⟩
  have b1 : Below w.heap.size w (w.alloc (.cells #[.pointer (some ⟨g, 0, none⟩)] 101)) := (Below.refl _ _).alloc (Nat.le_refl _) _
  have b2 := bel_alloc (o := .cells #[.pointer (some ⟨9, 101, none⟩), .pointer (some ⟨w.heap.size, 0, none⟩), .int .u64 150] 138) b1
  have b3 := bel_alloc (o := .cells #[.pointer (some ⟨9, 101, none⟩), .pointer (some ⟨w.heap.size, 0, none⟩), .int .u64 150] 138) b2
  have b4 := bel_alloc (o := .cells #[.iface t p, .string s] 99) b3
  rw [← hW4] at b4
  have hg2 := later_cell hg b2
  have S1 := StB.new w 101 #[.pointer (some ⟨g, 0, none⟩)]
  have S2 := S1.alloc (.cells #[.pointer (some ⟨9, 101, none⟩), .pointer (some ⟨w.heap.size, 0, none⟩), .int .u64 150] 138)
  have S3 := S2.alloc (.cells #[.pointer (some ⟨9, 101, none⟩), .pointer (some ⟨w.heap.size, 0, none⟩), .int .u64 150] 138)
  have n8 := Tryz.asIsNil ⟨w.heap.size, 0, none⟩ ⟨g, 0, none⟩ _ (S2.cell 0 rfl)
  have el := Tryz.asElemV ⟨w.heap.size, 0, none⟩ ⟨g, 0, none⟩ _ (S3.cell 0 rfl)
  have S4 : StB W4 (w.heap.size + 1 + 1 + 1) 99 #[.iface t p, .string s] := by
    have := StB.new ((((w.alloc (.cells #[.pointer (some ⟨g, 0, none⟩)] 101)).alloc (.cells #[.pointer (some ⟨9, 101, none⟩), .pointer (some ⟨w.heap.size, 0, none⟩), .int .u64 150] 138)).alloc (.cells #[.pointer (some ⟨9, 101, none⟩), .pointer (some ⟨w.heap.size, 0, none⟩), .int .u64 150] 138))) 99 #[.iface t p, .string s]
    simp only [World.size_alloc] at this
    rw [hW4]
    exact this
  have SG := S.below b4
  have G4 : w.grownBy W4 (some g) := by rw [hW4]; exact (((grown_al _ _ _).trans (grown_al _ _ _)).trans (grown_al _ _ _)).trans (grown_al _ _ _)
  have st := Tryz.asSet g (w.heap.size + 1 + 1 + 1) t p s o0 o1 W4 (S4.cell 0 rfl) (S4.cell 1 rfl) SG
  have HF : Hid (StB ((W4.setCell ⟨g, 0, none⟩ (.iface t p)).setCell ⟨g, 1, none⟩ (.string s)) g 99 #[.iface t p, .string s] ∧ w.grownBy ((W4.setCell ⟨g, 0, none⟩ (.iface t p)).setCell ⟨g, 1, none⟩ (.string s)) (some g)) :=
    ⟨(SG.put 0 _ rfl).put 1 _ rfl, G4.trans ((grownSet _ _ _ _).trans (grownSet _ _ _ _))⟩
  rw [hW4] at st HF
  have f6 := Tryz.asValueOf
  have f6' := Tryz.asValueOfR
  have f7 := Tryz.asType
  have mK := Tryz.asMethodKind
  have kP := Tryz.asKindP
  have kR := Tryz.asKindR
  have mE := Tryz.asMethodElem
  have mI := Tryz.asMethodImplements
  have mA := Tryz.asMethodAssignableTo
  have eT := Tryz.asElemT
  have iR := Tryz.asImplements
  have tO := Tryz.asTypeOf
  have aR := Tryz.asAssignable
  clear G4 b1 b2 b3 b4 S1 S2 S3 S4 SG hW4 S hg
  go_enter Tryz.func82, Tryz.ntmps82
  go_wp2_with (go_at_call 122; go_in)
  refine wp_loop_rounds 1 ?_
  rw [rounds_succ]
  go_wp2
  go_ret
  exact ⟨rfl, HF.out⟩
end Go.Proofs.YtpdggofaobmnlaaGreatDoor
