/- The ways that are open ahead of a place, and its branch: plain. -/
import Derived.Test.YtpgbennpiihajaaKjw
namespace Go.Proofs.Ytpgbennpiihajaa
open Go.RowKit
namespace Ev
set_option linter.unusedVariables false
set_option linter.unusedSimpArgs false
section
variable {L : List R_iiii} {n c N : Nat} {at_ : Int}
end
end Ev
end Go.Proofs.Ytpgbennpiihajaa
