/- Which commands read, and which write, in plain numbers. -/
import Derived.Test.YtpdggofaobmnlaaCm
namespace Go.Proofs.Ytpdggofaobmnlaa

def Cm.rd (c : Cm) : Bool := c.ok && decide (c.o = 1)
def Cm.wr (c : Cm) : Bool := c.ok && inI c.o 2 5
end Go.Proofs.Ytpdggofaobmnlaa
