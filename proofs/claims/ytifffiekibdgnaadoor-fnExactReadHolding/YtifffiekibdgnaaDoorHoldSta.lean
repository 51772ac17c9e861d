/- Holdings in the state of a long walk. -/
import Derived.Test.YtifffiekibdgnaaDoorSta
import Derived.Test.YtifffiekibdgnaaDoorLHold
namespace Go.Proofs.YtifffiekibdgnaaDoor
open Go.ChangeShapes Go.WideShapes Go.ChangeAt Go.RowKit

theorem Sta.mark {w wx wy : World} {L : List Item} {v : Value} {xs ys : List Int} (h : Sta w wx L) (n : Nat) (e : L[n]? = some (Lst v xs)) (o : Own wy 0 v ys) (m : wx.grownBy wy v.ownBlock) : Sta w wy (L.set n (Lst v ys)) :=
  h.turn n e (Turned.of_grown m) (Lst v ys) rfl o
theorem Sta.reads {w wx : World} {L : List Item} {v : Value} {xs : List Int} (h : Sta w wx L) (n : Nat) (e : L[n]? = some (Lst v xs)) : Reads wx v xs := (h.get n e).reads
theorem Sta.oneH {w wx : World} {L : List Item} {v : Value} {xs : List Int} (h : Sta w wx L) (n : Nat) (e : L[n]? = some (Lst v xs)) (k : Hd) : (hdA v k).all (·.oneCell') = true := hdA_one k (reads_one (h.reads n e))
theorem Sta.form {w wx : World} {L : List Item} {v : Value} {xs : List Int} (h : Sta w wx L) (n : Nat) (e : L[n]? = some (Lst v xs)) : Reads wx v xs := (h.get n e).reads
def zeroHd : Array Value := #[.slice none 0 0, .int .i64 0, .int .i64 0, .int .i64 0]
end Go.Proofs.YtifffiekibdgnaaDoor
