/- Frames as lists of bytes; what l4Framed and Framed of the model answer. -/
import Derived.Test.YtifffiekibdgnaaGreatDoorDec
namespace Go.Proofs.YtifffiekibdgnaaGreatDoor
open Go.ChangeShapes Go.WideShapes Go.ChangeAt Go.RowKit

def framed (l : Bs) : Bs := dec l.length ++ [32] ++ dec (chk l).toNat ++ [32] ++ l ++ [10]
def framedS (l : Bs) : Bs := if plainB l then framed l else []

theorem decI_nat (n : Nat) : decI n = dec n := by simp [decI]
theorem chk_cast (l : Bs) : ((chk l).toNat : Int) = chk l := by have := (chk_bd l).1; omega
theorem app (a b : Bs) : (({ data := a.toArray } : ByteArray) ++ { data := b.toArray }) = { data := (a ++ b).toArray } := ByteArray.mk_append_mk a b
theorem bsize (a : Bs) : ({ data := a.toArray } : ByteArray).size = a.length := rfl
end Go.Proofs.YtifffiekibdgnaaGreatDoor
