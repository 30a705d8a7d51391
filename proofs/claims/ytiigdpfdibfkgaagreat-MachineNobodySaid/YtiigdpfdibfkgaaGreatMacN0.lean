/- Paths of a law, by the runner. -/
import Derived.Test.YtiigdpfdibfkgaaGreatFlat
namespace Go.Proofs.YtiigdpfdibfkgaaGreat
open Go.ChangeShapes Go.WideShapes Go.ChangeAt Go.RowKit
namespace Ev
set_option maxRecDepth 100000
/-- The page's example is known. -/
def spA : FuncId → Option (List Value → Option Value) := fun f => bif Nat.beq f 17 then some (fun l => match l with | [] => some (.bool true) | _ => none) else none
theorem awake_true (w : World) : Calls Tryz.prog 17 #[] w (Ret (.bool true) w) := ret_of 20000 w (by kernel_rfl) rfl
theorem knownA : Known spA := fun f g h => by
  unfold spA at h
  cases hb : Nat.beq f 17 with
  | false => rw [hb] at h; simp at h
  | true =>
    rw [hb] at h
    obtain rfl := Nat.eq_of_beq_eq_true hb
    simp only [cond_true, Option.some.injEq] at h
    subst h
    refine ⟨⟨_, _, Tryz.func17, rfl⟩, fun args v ha hv w => ?_⟩
    obtain ⟨l⟩ := args
    cases l with
    | nil =>
      change some (Value.bool true) = some v at hv
      injection hv with hv
      subst hv
      exact awake_true w
    | cons x l => change (none : Option Value) = some v at hv; cases hv
end Ev
end Go.Proofs.YtiigdpfdibfkgaaGreat
