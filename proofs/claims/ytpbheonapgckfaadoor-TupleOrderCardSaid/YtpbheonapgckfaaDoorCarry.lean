/- What the end-around carry and the sum of a list of words answer: 'handfast/sum.carryRound' and 'handfast/sum.Fold' at every list of at most 4000000 words. -/
import Derived.Test.YtpbheonapgckfaaDoorProg
import Derived.Test.YtpbheonapgckfaaDoorMath
import Derived.Test.YtpbheonapgckfaaDoorBase
import Derived.WalkKit
import Derived.WalkMore
import Derived.ScopeJumps
import Derived.Outline
namespace Go.Proofs.YtpbheonapgckfaaDoor
open Go.RowKit
open SumM

end Go.Proofs.YtpbheonapgckfaaDoor
