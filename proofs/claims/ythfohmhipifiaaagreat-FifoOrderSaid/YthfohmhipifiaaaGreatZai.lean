/- Part 9. -/
import Derived.Test.YthfohmhipifiaaaGreatZah
set_option linter.unusedSimpArgs false
set_option linter.unusedVariables false
/- Programs of FifoOrder, checked one after another (1). -/
namespace Go.Proofs.YthfohmhipifiaaaGreat
open Go.RowKit
namespace Ev
set_option maxRecDepth 100000
set_option linter.unusedVariables false
theorem Z4u : Zc5 okS 2 [.take, .put] = true := by kernel_rfl
theorem Z4v : Zc5 okS 2 [.take, .take] = true := by kernel_rfl
theorem Z4w : Zc5 okS 2 [.take, .try'] = true := by kernel_rfl
theorem Z4x : Zc5 okS 2 [.take, .pass] = true := by kernel_rfl
end Ev
end Go.Proofs.YthfohmhipifiaaaGreat
