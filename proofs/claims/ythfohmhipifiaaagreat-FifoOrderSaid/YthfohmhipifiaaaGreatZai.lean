/- Part 9. -/
import Derived.Test.YthfohmhipifiaaaGreatZah
set_option linter.unusedSimpArgs false
set_option linter.unusedVariables false
set_option linter.unusedVariables false
set_option maxRecDepth 100000
/- Programs of FifoOrder, checked one after another (1). -/
namespace Go.Proofs.YthfohmhipifiaaaGreat
open Go.RowKit
namespace Ev
theorem Z4H : Zc6 okS 2 [.take, .put] = true := by kernel_rfl
theorem Z4I : Zc6 okS 2 [.take, .take] = true := by kernel_rfl
theorem Z4J : Zc6 okS 2 [.take, .try'] = true := by kernel_rfl
theorem Z4K : Zc6 okS 2 [.take, .pass] = true := by kernel_rfl
end Ev
end Go.Proofs.YthfohmhipifiaaaGreat
