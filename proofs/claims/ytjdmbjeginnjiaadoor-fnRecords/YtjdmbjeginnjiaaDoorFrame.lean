/- Frames as lists of bytes; what l4Framed and Framed of the model answer. -/
import Derived.Test.YtjdmbjeginnjiaaDoorDec
namespace Go.Proofs.YtjdmbjeginnjiaaDoor
open Go.ChangeShapes Go.WideShapes Go.ChangeAt Go.RowKit

def framed (l : Bs) : Bs := dec l.length ++ [32] ++ dec (chk l).toNat ++ [32] ++ l ++ [10]
def framedS (l : Bs) : Bs := if plainB l then framed l else []

theorem decI_nat (n : Nat) : decI n = dec n := by simp [decI]
theorem chk_cast (l : Bs) : ((chk l).toNat : Int) = chk l := by have := (chk_bd l).1; omega
theorem app (a b : Bs) : (({ data := a.toArray } : ByteArray) ++ { data := b.toArray }) = { data := (a ++ b).toArray } := ByteArray.mk_append_mk a b
theorem bsize (a : Bs) : ({ data := a.toArray } : ByteArray).size = a.length := rfl

set_option maxRecDepth 20000 in
set_option maxHeartbeats 1000000 in
theorem sl4Framed_any (l : Bs) (w : World) (hl : l.length ≤ 1099511627776) :
    Calls Tryd.prog 40 #[S l] w fun e w' => e = .returned (S (framed l)) ∧ Below w.heap.size w w' := by
  have c1 : ∀ w', _ := fun w' => sint_any (l.length : Nat) w' (by omega) (by omega)
  have hb := chk_bd l
  have c2 : ∀ w', _ := fun w' => scheck_any l w' hl
  have c3 : ∀ w', _ := fun w' => sint_any (chk l) w' (by omega) (by omega)
  have e3 : decI (chk l) = dec (chk l).toNat := by have h := decI_nat (chk l).toNat; rwa [chk_cast] at h
  simp only [decI_nat] at c1
  simp only [e3] at c3
  have d1 := dec_len 13 l.length (by omega)
  have d2 := dec_len 5 (chk l).toNat (by omega)
  have HF : Hid (framed l = dec l.length ++ [32] ++ dec (chk l).toNat ++ [32] ++ l ++ [10]) := rfl
  obtain ⟨x, hx⟩ : ∃ x, x = chk l := ⟨_, rfl⟩
  obtain ⟨p, hp⟩ : ∃ p, p = dec l.length := ⟨_, rfl⟩
  obtain ⟨q, hq⟩ : ∃ q, q = dec (chk l).toNat := ⟨_, rfl⟩
  simp only [← hp] at c1 d1 HF
  simp only [← hq] at c3 d2 HF
  simp only [← hx] at c2 c3
  clear hp hq hx e3 hb
  unfold S at c1 c2 c3 ⊢
  go_enter Tryd.func40, Tryd.ntmps40
  go_wp2_with fail
  refine (c1 w).mono ?_
  rintro e w1 ⟨rfl, b1⟩
  have HB : Hid (Below w.heap.size w w1) := b1
  clear b1 c1
  go_wp2_with fail
  refine (c2 w1).mono ?_
  rintro e w' ⟨rfl, hw⟩; subst w'
  go_wp2_with fail
  refine (c3 w1).mono ?_
  rintro e w2 ⟨rfl, b2⟩
  have HC : Hid (Below w.heap.size w w2) := HB.out.trans (b2.mono HB.out.size)
  clear b2 c2 c3
  go_wp2_with fail
  go_ret
  refine ⟨congrArg (fun x => Ending.returned (Value.string x)) ?_, HC.out⟩
  rw [HF.out, app, app, app, app, app]
end Go.Proofs.YtjdmbjeginnjiaaDoor
