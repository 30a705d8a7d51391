/- Paths of a law, by the runner. -/
import Derived.Test.YtnahodeffgoccaaFlat
namespace Go.Proofs.Ytnahodeffgoccaa
open Go.ChangeShapes Go.WideShapes Go.ChangeAt Go.RowKit
namespace Ev
set_option maxRecDepth 100000
/-- The page's example is known. -/
def spA : FuncId → Option (List Value → Option Value) := fun f => bif Nat.beq f 9 then some (fun l => match l with | [] => some (.bool true) | _ => none) else none
theorem awake_true (w : World) : Calls Try.prog 9 #[] w (Ret (.bool true) w) := ret_of 20000 w (by kernel_rfl) rfl
theorem knownA : Known spA := fun f g h => by
  unfold spA at h
  cases hb : Nat.beq f 9 with
  | false => rw [hb] at h; simp at h
  | true =>
    rw [hb] at h
    obtain rfl := Nat.eq_of_beq_eq_true hb
    simp only [cond_true, Option.some.injEq] at h
    subst h
    refine ⟨⟨_, _, Try.func9, rfl⟩, fun args v ha hv w => ?_⟩
    obtain ⟨l⟩ := args
    cases l with
    | nil =>
      change some (Value.bool true) = some v at hv
      injection hv with hv
      subst hv
      exact awake_true w
    | cons x l => change (none : Option Value) = some v at hv; cases hv
def tArgs (k0 n0 k1 n1 k2 n2 k3 n3 k4 n4 k5 n5 k6 n6 k7 n7 op a b c at_ vk vn : Int) : Array Value := #[.agg #[.int .i64 k0, .int .i64 n0, .int .i64 k1, .int .i64 n1, .int .i64 k2, .int .i64 n2, .int .i64 k3, .int .i64 n3, .int .i64 k4, .int .i64 n4, .int .i64 k5, .int .i64 n5, .int .i64 k6, .int .i64 n6, .int .i64 k7, .int .i64 n7], .agg #[.int .i64 op, .int .i64 a, .int .i64 b, .int .i64 c], .int .i64 at_, .agg #[.int .i64 vk, .int .i64 vn]]
end Ev
end Go.Proofs.Ytnahodeffgoccaa
