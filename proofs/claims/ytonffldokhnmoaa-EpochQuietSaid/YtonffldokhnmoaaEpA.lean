/- The page's example; calls that are told. -/
import Derived.Test.YtonffldokhnmoaaEvV
import Derived.Test.YtonffldokhnmoaaEp2
import Derived.Test.YtonffldokhnmoaaEp3
import Derived.Test.YtonffldokhnmoaaEp4
import Derived.Test.YtonffldokhnmoaaEp5
namespace Go.Proofs.Ytonffldokhnmoaa
open Go.RowKit
namespace Ev
set_option linter.unusedVariables false
/-- The page's example is known. -/
def spA : FuncId → Option (List Value → Option Value) := fun f => bif Nat.beq f 8 then some (fun l => match l with | [] => some (.bool true) | _ => none) else none
theorem awake_true (w : World) : Calls Try.prog 8 #[] w (Ret (.bool true) w) := ret_of 20000 w (by kernel_rfl) rfl
theorem knownA : Known spA := fun f g h => by
  unfold spA at h
  cases hb : Nat.beq f 8 with
  | false => rw [hb] at h; simp at h
  | true =>
    rw [hb] at h
    obtain rfl := Nat.eq_of_beq_eq_true hb
    simp only [cond_true, Option.some.injEq] at h
    subst h
    refine ⟨⟨_, _, Try.func8, rfl⟩, fun args v ha hv w => ?_⟩
    obtain ⟨l⟩ := args
    cases l with
    | nil =>
      change some (Value.bool true) = some v at hv
      injection hv with hv
      subst hv
      exact awake_true w
    | cons x l => change (none : Option Value) = some v at hv; cases hv
/-- Calls that are told. -/
def tcL (f : Nat) : Bool := Nat.beq f 16 || Nat.beq f 13 || Nat.beq f 15 || Nat.beq f 14 || Nat.beq f 17
noncomputable def extL : FuncId → Option Ext := extT (extS spA) tcL
theorem fitL : Fit Try.prog extL := fitT (fitS knownA) fun f h => by
  unfold tcL at h
  simp only [Bool.or_eq_true] at h
  rcases h with h | h
  case inr => obtain rfl := Nat.eq_of_beq_eq_true h; exact ⟨_, _, Try.func17, rfl⟩
  rcases h with h | h
  case inr => obtain rfl := Nat.eq_of_beq_eq_true h; exact ⟨_, _, Try.func14, rfl⟩
  rcases h with h | h
  case inr => obtain rfl := Nat.eq_of_beq_eq_true h; exact ⟨_, _, Try.func15, rfl⟩
  rcases h with h | h
  case inr => obtain rfl := Nat.eq_of_beq_eq_true h; exact ⟨_, _, Try.func13, rfl⟩
  obtain rfl := Nat.eq_of_beq_eq_true h; exact ⟨_, _, Try.func16, rfl⟩
end Ev
end Go.Proofs.Ytonffldokhnmoaa
