/- The program's copiers, all of them. -/
import Derived.Test.YtelfpdjidppblaaICopAck
import Derived.Test.YtelfpdjidppblaaICopMark
import Derived.Test.YtelfpdjidppblaaICopAgain
import Derived.Test.YtelfpdjidppblaaICopNext
namespace Go.Proofs.Ytelfpdjidppblaa
end Go.Proofs.Ytelfpdjidppblaa
