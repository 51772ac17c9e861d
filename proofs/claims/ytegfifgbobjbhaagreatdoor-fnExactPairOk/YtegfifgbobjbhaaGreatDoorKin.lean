/- A region that draws its order, whose operations only read and whose callees read and may make memory of their own: walked once, in a class of worlds. -/
import Derived.Test.YtegfifgbobjbhaaGreatDoorM2
import Derived.Deep.QuietTactic
namespace Go.Proofs.YtegfifgbobjbhaaGreatDoor
open Go.ChangeShapes Go.WideShapes Go.ChangeAt Go.RowKit
structure Kin (p:World→Prop) where
 x:World
 h:p x
theorem Kin.call {p:World→Prop} {q:Kin p} {fn:FuncId} {args:Array Value} {v:Value}
  (h:Calls Tryz.prog fn args q.x fun e w'=>e=.returned v∧Below q.x.heap.size q.x w') (hb:∀x w',p x→Below x.heap.size x w'→p w'):Calls Tryz.prog fn args q.x fun e w''=>e=.returned v∧∃q:Kin p,w''=q.x:=
 h.mono fun _ w' ⟨he,b⟩=>⟨he,⟨w',hb _ _ q.h b⟩,rfl⟩
theorem Kin.same {p:World→Prop} {q:Kin p} {fn:FuncId} {args:Array Value} {v:Value}
  (h:Calls Tryz.prog fn args q.x fun e w'=>e=.returned v∧w'=q.x):Calls Tryz.prog fn args q.x fun e w''=>e=.returned v∧∃q:Kin p,w''=q.x:=
 h.mono fun _ _ ⟨he,b⟩=>⟨he,q,b⟩
end Go.Proofs.YtegfifgbobjbhaaGreatDoor
