/- The document's functions, plain. -/
import Derived.Test.YtpgbennpiihajaaKmr
namespace Go.Proofs.Ytpgbennpiihajaa
open Go.RowKit
namespace Ev
set_option linter.unusedVariables false
inductive Zw8 where
 | r0 (w2 : Int)

inductive Zw9 where
 | r0 (w2 : Int)

end Ev
end Go.Proofs.Ytpgbennpiihajaa
