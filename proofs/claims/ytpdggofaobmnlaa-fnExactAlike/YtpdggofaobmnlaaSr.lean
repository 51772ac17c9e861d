/- A store in plain lists and numbers: a disk and a holding; what is done to it. -/
import Derived.Test.YtpdggofaobmnlaaM3
import Derived.Test.YtpdggofaobmnlaaM7
import Derived.Test.YtpdggofaobmnlaaSDisk
import Derived.Test.YtpdggofaobmnlaaSHold
namespace Go.Proofs.Ytpdggofaobmnlaa
open Go.ChangeShapes Go.WideShapes Go.ChangeAt Go.RowKit

/- The six cells of a store: the disk's two lists, the keys, kind, holder and turn. -/
def srA (a b k : Value) (h : Hd) : Array Value := #[a, b, k, .int .i64 h.kd, .int .i64 h.ho, .int .i64 h.tu]
def SRV (a b k : Value) (h : Hd) : Value := .agg (srA a b k h)

/- A store. -/
structure Sr where
  xs : List Int
  ys : List Int
  h : Hd
def Sr.zero : Sr := ⟨[], [], Hd.zero⟩
def Sr.ok (s : Sr) : Bool := bothOk s.xs s.ys && s.h.ok
def newS (n : Int) : Sr := if decide (1 ≤ n) && decide (n ≤ 8) then ⟨zerosI n, zerosI n, Hd.new⟩ else Sr.zero
def conf (r : Hd × Bool) : Hd × An := (r.1, if r.2 then ⟨0, []⟩ else ⟨3, []⟩)
def Hd.act (h : Hd) (who : Int) (c : Cm) : Hd × An :=
  if c.o = 6 then (h.regd who c.a, ⟨0, []⟩)
  else if c.o = 7 then conf (h.resd who c.k)
  else if c.o = 8 then conf (h.reld who)
  else if c.o = 9 then conf (h.clrd who)
  else if c.o = 10 then (if c.a = 0 then (h, ⟨1, []⟩) else conf (h.pred who c.a c.k))
  else if c.o = 11 then (h, ⟨0, h.keysT⟩)
  else (h, ⟨0, h.holdT⟩)
def Sr.doing (s : Sr) (who : Int) (c : Cm) : Sr × An :=
  if 5 < c.o then (⟨s.xs, s.ys, (s.h.act who c).1⟩, (s.h.act who c).2)
  else if s.h.may who (decide (c.o ≠ 1)) then (⟨(didI s.xs s.ys c).1, (didI s.xs s.ys c).2.1, s.h⟩, (didI s.xs s.ys c).2.2)
  else (s, ⟨3, []⟩)
def Sr.did (s : Sr) (who : Int) (c : Cm) : Sr × An :=
  if s.ok then (if inI who 0 3 && c.ok then s.doing who c else (s, ⟨7, []⟩)) else (Sr.zero, ⟨7, []⟩)
def Sr.power (s : Sr) (set : Int) : Sr :=
  if s.ok then (if setOk set then ⟨chosenUp s.xs s.ys set 8 s.xs.length, chosenUp s.xs s.ys set 8 s.xs.length, s.h⟩ else s) else Sr.zero
def Hd.eqB (a b : Hd) : Bool := decide (a.ks = b.ks) && decide (a.kd = b.kd) && decide (a.ho = b.ho) && decide (a.tu = b.tu)
def Sr.alike (s t : Sr) : Bool := s.ok && t.ok && (decide (s.xs = t.xs) && decide (s.ys = t.ys) && s.h.eqB t.h)
end Go.Proofs.Ytpdggofaobmnlaa
