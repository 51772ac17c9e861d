import Derived.Test.YtpdggofaobmnlaaGreatDoorM16
import Derived.Deep.OwnRows
/- Disks: the model's Written and NewDisk. -/
set_option maxRecDepth 20000
set_option maxHeartbeats 2000000
namespace Go.Proofs.YtpdggofaobmnlaaGreatDoor
open Go.ChangeShapes Go.WideShapes Go.ChangeAt Go.RowKit
theorem ownZeros (w:World) (base k:Nat) (h8:k≤8) (hb:base≤w.heap.size):Own (w.alloc (.cells (madeCells #[Value.int .i64 0] k) 2)) base (.slice (some ⟨w.heap.size,0,none⟩) k k) (List.replicate k 0):=by
 have hsz:(madeCells #[Value.int .i64 0] k).size=k:=by
  have:=congrArg List.length (zeros_eq k)
  simpa using this
 have:=World.ownsRow_lit (base:=base) (e:=2) (size:=1) w (madeCells #[Value.int .i64 0] k) k hb (by unfold maxLen;omega) (by rw[hsz];omega)
 unfold Own
 rw[←zeros_eq,List.length_replicate]
 exact this
theorem twoZeros (w:World) (o:Obj) (k:Nat) (h8:k≤8):
  Own ((((w.alloc o).alloc (.cells (madeCells #[.int .i64 0] k) 2)).alloc (.cells (madeCells #[.int .i64 0] k) 2)).drew) w.heap.size (.slice (some ⟨w.heap.size+1,0,none⟩) k k) (List.replicate k 0)∧
  Own ((((w.alloc o).alloc (.cells (madeCells #[.int .i64 0] k) 2)).alloc (.cells (madeCells #[.int .i64 0] k) 2)).drew) w.heap.size (.slice (some ⟨w.heap.size+1+1,0,none⟩) k k) (List.replicate k 0)∧
  Below w.heap.size w ((((w.alloc o).alloc (.cells (madeCells #[.int .i64 0] k) 2)).alloc (.cells (madeCells #[.int .i64 0] k) 2)).drew):=by
 refine⟨?_,?_,below_drewN ((((Below.refl _ _).alloc (Nat.le_refl _) _).alloc (by simp) _).alloc (by simp;omega) _) 1⟩
 ·have:=(ownZeros (w.alloc o) w.heap.size k h8 (by simp)).below (belowAlloc _ (.cells (madeCells #[.int .i64 0] k) 2))
  show Own (((w.alloc o).alloc _).alloc _) _ _ _
  simpa using this
 ·have:=(ownZeros ((w.alloc o).alloc (.cells (madeCells #[.int .i64 0] k) 2)) w.heap.size k h8 (by simp;omega))
  show Own (((w.alloc o).alloc _).alloc _) _ _ _
  simpa using this
theorem snewDisk_any (n:Int) (w:World):
  Calls Tryz.prog 45 #[.int .i64 n] w fun e w'=>∃a b,e=.returned (.tuple #[.agg #[a,b],.bool (cntOk n)])∧OwnD w' w.heap.size a b (zerosI n) (zerosI n)∧Below w.heap.size w w':=by
 by_cases hc:cntOk n=true
 ·obtain⟨k,rfl⟩:∃k:Nat,n=k:=⟨n.toNat,by simp[cntOk]at hc;omega⟩
  have h8:(1:Int)≤k∧(k:Int)≤8:=by simp[cntOk]at hc;omega
  have HZ:Hid (zerosI k=List.replicate k 0):=by simp only[Hid,zerosI];rw[if_pos (by omega)];simp
  rw[hc]
  obtain⟨h1,h8⟩:=h8
  have hm:∀w:World,(Instr.makeSlice 24 (.int .i64 (k:Int)) (.int .i64 (k:Int))).run Tryz.prog w=.ok (.slice (some ⟨w.heap.size,0,none⟩) k k) (w.alloc (.cells (madeCells #[.int .i64 0] k) 2)):=fun w=>run_make_row' 24 2 (.int .i64 0) 8 Tryz.underlying24 Tryz.infoI rfl .i64 .i64 k (by omega) (by omega) w
  clear hc
  go_enter Tryz.func45,Tryz.ntmps45
  go_wp2_with (go_at_call 47;go_in)
  go_region
  all_goals
   clear hm
   go_wp2_with fail
  ·refine bodyPost_ret (results_pair2 rfl _ _ w.heap.size _ _ _ rfl rfl (((Pair.new w _ _ _).alloc _).alloc _)) rfl ?_
   have Z:=twoZeros w (.cells #[.slice (some ⟨w.heap.size+1,0,none⟩) k k,.slice (some ⟨w.heap.size+1+1,0,none⟩) k k] 26) k (by omega)
   rw[HZ.out]
   exact⟨_,_,rfl,⟨Z.1,Z.2.1,.inr (by simp[Value.ownBlock]),.inr (by simp[Value.ownBlock])⟩,Z.2.2⟩
  ·refine bodyPost_ret (results_pair2 rfl _ _ w.heap.size _ _ _ rfl rfl (((Pair.new w _ _ _).alloc _).alloc _)) rfl ?_
   have Z:=twoZeros w (.cells #[.slice (some ⟨w.heap.size+1+1,0,none⟩) k k,.slice (some ⟨w.heap.size+1,0,none⟩) k k] 26) k (by omega)
   rw[HZ.out]
   exact⟨_,_,rfl,⟨Z.2.1,Z.1,.inr (by simp[Value.ownBlock]),.inr (by simp[Value.ownBlock])⟩,Z.2.2⟩
 ·have hc':cntOk n=false:=by simpa using hc
  have HZ:Hid (zerosI n=[]):=by simp[Hid,zerosI];simp[cntOk]at hc';omega
  have hn:¬1≤n∨¬n≤8:=by simp[cntOk]at hc';omega
  rw[hc']
  clear hc hc'
  have fin:∀w':World,Below w.heap.size w w'→OwnD w' w.heap.size (.slice none 0 0) (.slice none 0 0) (zerosI n) (zerosI n)∧Below w.heap.size w w':=fun w' b=>⟨by rw[HZ.out];exact ownNil2 _ _,b⟩
  rcases hn with hn|hn
  all_goals
   go_enter Tryz.func45,Tryz.ntmps45
   go_wp2_with (go_at_call 47;go_in)
   refine bodyPost_ret (results_pair2 rfl _ _ w.heap.size _ _ _ rfl rfl (Pair.new w _ _ _)) rfl ?_
   exact⟨_,_,rfl,fin _ (belowAlloc w _)⟩
end Go.Proofs.YtpdggofaobmnlaaGreatDoor
