import Derived.Test.YtjjjlpnbniofjabEqTm
import Derived.Test.YtjjjlpnbniofjabDrT2
import Derived.Test.YtjjjlpnbniofjabBo
import Derived.Test.YtjjjlpnbniofjabTmA
namespace Go.Proofs.Ytjjjlpnbniofjab
open Go.RowKit
end Go.Proofs.Ytjjjlpnbniofjab
