/- Arguments that are slices of structs of ints, opened, over any program. -/
import Derived.Test.YtgnmjjakmeomiaaFrame
namespace Go.Proofs.Ytgnmjjakmeomiaa
open Go.ChangeShapes Go.WideShapes Go.ChangeAt Go.RowKit Go.Deep
section
variable {H : Type} {enc : TypeId × Value → H} {P : Program} {w : World}

end
end Go.Proofs.Ytgnmjjakmeomiaa
