/- The document's functions, plain. -/
import Derived.Test.YtnahodeffgoccaaRrr
namespace Go.Proofs.Ytnahodeffgoccaa
open Go.RowKit
namespace Ev
set_option linter.unusedVariables false
set_option linter.unusedSimpArgs false
end Ev
end Go.Proofs.Ytnahodeffgoccaa
