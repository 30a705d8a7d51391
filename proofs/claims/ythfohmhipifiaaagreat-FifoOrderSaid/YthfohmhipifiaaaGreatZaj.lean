/- Part 10. -/
import Derived.Test.YthfohmhipifiaaaGreatZah
set_option linter.unusedSimpArgs false
set_option linter.unusedVariables false
/- Programs of FifoOrder, checked one after another (2). -/
namespace Go.Proofs.YthfohmhipifiaaaGreat
open Go.RowKit
namespace Ev
set_option maxRecDepth 100000
set_option linter.unusedVariables false
theorem Z4y : Zc5 okS 2 [.try', .put] = true := by kernel_rfl
theorem Z4z : Zc5 okS 2 [.try', .take] = true := by kernel_rfl
theorem Z40 : Zc5 okS 2 [.try', .try'] = true := by kernel_rfl
theorem Z41 : Zc5 okS 2 [.try', .pass] = true := by kernel_rfl
end Ev
end Go.Proofs.YthfohmhipifiaaaGreat
