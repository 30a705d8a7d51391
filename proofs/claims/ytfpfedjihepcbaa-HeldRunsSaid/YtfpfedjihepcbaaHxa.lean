/- How records are written, and which functions are told. -/
import Derived.Test.YtfpfedjihepcbaaRw
import Derived.Test.YtfpfedjihepcbaaEvS
import Derived.Test.YtfpfedjihepcbaaHxr
namespace Go.Proofs.Ytfpfedjihepcbaa
open Go.RowKit
namespace Ev
set_option linter.unusedVariables false
def E_ii : Enc R_ii := ⟨fun x => [.int .i64 x.a0, .int .i64 x.a1], 2, R_ii.z, fun _ => rfl, fun _ => rfl⟩
def E_uii : Enc R_uii := ⟨fun x => [.int .u8 x.a0, .int .i64 x.a1, .int .i64 x.a2], 3, R_uii.z, fun _ => rfl, fun _ => rfl⟩
instance : Inhabited R_ii := ⟨R_ii.z⟩
instance : Inhabited R_uii := ⟨R_uii.z⟩
/-- What is known. -/
def sp_Hx : FuncId → Option (List Value → Option Value) := fun f =>
  bif Nat.beq f 7 then some (fun l => match l with | [] => some (.bool true) | _ => none) else
  none
theorem known0_Hx (w : World) : Calls Try.prog 7 #[] w (Ret (.bool true) w) := ret_of 40000 w (by kernel_rfl) rfl
theorem spk_Hx : Known sp_Hx := fun f g h => by
  unfold sp_Hx at h
  cases hb : Nat.beq f 7 with
  | true =>
    rw [hb] at h
    obtain rfl := Nat.eq_of_beq_eq_true hb
    simp only [cond_true, Option.some.injEq] at h
    subst h
    refine ⟨⟨_, _, Try.func7, rfl⟩, fun args v ha hv w => ?_⟩
    obtain ⟨l⟩ := args
    cases l with
    | nil =>
      change some (Value.bool true) = some v at hv
      injection hv with hv
      subst hv
      exact known0_Hx w
    | cons x l => change (none : Option Value) = some v at hv; cases hv
  | false =>
    rw [hb] at h
    simp only [cond_false] at h
    cases h
def tc_Hx : FuncId → Bool := fun f => Nat.beq f 12 || Nat.beq f 14 || Nat.beq f 16 || Nat.beq f 8 || Nat.beq f 22 || Nat.beq f 24 || Nat.beq f 3 || Nat.beq f 19 || Nat.beq f 13 || Nat.beq f 15 || Nat.beq f 17 || Nat.beq f 9
noncomputable def ext_Hx : FuncId → Option Ext := extT (extS sp_Hx) tc_Hx
theorem fit_Hx : Fit Try.prog ext_Hx := fitT (fitS spk_Hx) (fun f h => by
  simp only [tc_Hx, Bool.or_eq_true] at h
  simp only [Nat.beq_eq] at h
  rcases h with ((((((((((rfl | rfl) | rfl) | rfl) | rfl) | rfl) | rfl) | rfl) | rfl) | rfl) | rfl) | rfl
  · exact ⟨_, _, Try.func12, rfl⟩
  · exact ⟨_, _, Try.func14, rfl⟩
  · exact ⟨_, _, Try.func16, rfl⟩
  · exact ⟨_, _, Try.func8, rfl⟩
  · exact ⟨_, _, Try.func22, rfl⟩
  · exact ⟨_, _, Try.func24, rfl⟩
  · exact ⟨_, _, Try.func3, rfl⟩
  · exact ⟨_, _, Try.func19, rfl⟩
  · exact ⟨_, _, Try.func13, rfl⟩
  · exact ⟨_, _, Try.func15, rfl⟩
  · exact ⟨_, _, Try.func17, rfl⟩
  · exact ⟨_, _, Try.func9, rfl⟩
  )
end Ev
end Go.Proofs.Ytfpfedjihepcbaa
