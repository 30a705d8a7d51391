/- Part 10. -/
import Derived.Test.YthfohmhipifiaaaGreatZah
set_option linter.unusedSimpArgs false
set_option linter.unusedVariables false
set_option linter.unusedVariables false
set_option maxRecDepth 100000
/- Programs of FifoOrder, checked one after another (2). -/
namespace Go.Proofs.YthfohmhipifiaaaGreat
open Go.RowKit
namespace Ev
theorem Z4L : Zc6 okS 2 [.try', .put] = true := by kernel_rfl
theorem Z4M : Zc6 okS 2 [.try', .take] = true := by kernel_rfl
theorem Z4N : Zc6 okS 2 [.try', .try'] = true := by kernel_rfl
theorem Z4O : Zc6 okS 2 [.try', .pass] = true := by kernel_rfl
end Ev
end Go.Proofs.YthfohmhipifiaaaGreat
