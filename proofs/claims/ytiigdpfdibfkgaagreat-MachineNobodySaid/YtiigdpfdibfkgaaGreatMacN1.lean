/- Paths of a law, by the runner. -/
import Derived.Test.YtiigdpfdibfkgaaGreatMacN0
namespace Go.Proofs.YtiigdpfdibfkgaaGreat
open Go.ChangeShapes Go.WideShapes Go.ChangeAt Go.RowKit
namespace Ev
set_option maxRecDepth 100000
theorem walk0 (t : Int) (w : World) : Calls Tryz.prog 3 #[.int .i64 t] w (Ret (.bool true) w) :=
  ret_known knownA 20000 (args := #[.int .i64 t]) (orc := orcs [] []) (ob := []) w (by kernel_rfl) obs_nil (VRs.of_free rfl)
end Ev
end Go.Proofs.YtiigdpfdibfkgaaGreat
