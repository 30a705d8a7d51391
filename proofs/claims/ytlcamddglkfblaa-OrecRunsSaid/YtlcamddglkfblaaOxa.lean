/- How records are written, and which functions are told. -/
import Derived.Test.YtlcamddglkfblaaRw
import Derived.Test.YtlcamddglkfblaaEvS
import Derived.Test.YtlcamddglkfblaaOxr
namespace Go.Proofs.Ytlcamddglkfblaa
open Go.RowKit
namespace Ev
set_option linter.unusedVariables false
def E_iii : Enc R_iii := ⟨fun x => [.int .i64 x.a0, .int .i64 x.a1, .int .i64 x.a2], 3, R_iii.z, fun _ => rfl, fun _ => rfl⟩
def E_iiiiiiii : Enc R_iiiiiiii := ⟨fun x => [.int .i64 x.a0, .int .i64 x.a1, .int .i64 x.a2, .int .i64 x.a3, .int .i64 x.a4, .int .i64 x.a5, .int .i64 x.a6, .int .i64 x.a7], 8, R_iiiiiiii.z, fun _ => rfl, fun _ => rfl⟩
instance : Inhabited R_iii := ⟨R_iii.z⟩
instance : Inhabited R_iiiiiiii := ⟨R_iiiiiiii.z⟩
/-- What is known. -/
def sp_Ox : FuncId → Option (List Value → Option Value) := fun f =>
  bif Nat.beq f 12 then some (fun l => match l with | [] => some (.bool true) | _ => none) else
  none
theorem known0_Ox (w : World) : Calls Try.prog 12 #[] w (Ret (.bool true) w) := ret_of 40000 w (by kernel_rfl) rfl
theorem spk_Ox : Known sp_Ox := fun f g h => by
  unfold sp_Ox at h
  cases hb : Nat.beq f 12 with
  | true =>
    rw [hb] at h
    obtain rfl := Nat.eq_of_beq_eq_true hb
    simp only [cond_true, Option.some.injEq] at h
    subst h
    refine ⟨⟨_, _, Try.func12, rfl⟩, fun args v ha hv w => ?_⟩
    obtain ⟨l⟩ := args
    cases l with
    | nil =>
      change some (Value.bool true) = some v at hv
      injection hv with hv
      subst hv
      exact known0_Ox w
    | cons x l => change (none : Option Value) = some v at hv; cases hv
  | false =>
    rw [hb] at h
    simp only [cond_false] at h
    cases h
def tc_Ox : FuncId → Bool := fun f => Nat.beq f 27 || Nat.beq f 19 || Nat.beq f 26 || Nat.beq f 24 || Nat.beq f 17 || Nat.beq f 22 || Nat.beq f 15 || Nat.beq f 4 || Nat.beq f 49 || Nat.beq f 20 || Nat.beq f 25 || Nat.beq f 18 || Nat.beq f 14 || Nat.beq f 23 || Nat.beq f 28 || Nat.beq f 21 || Nat.beq f 16 || Nat.beq f 13 || Nat.beq f 9 || Nat.beq f 7 || Nat.beq f 40 || Nat.beq f 48
noncomputable def ext_Ox : FuncId → Option Ext := extT (extS sp_Ox) tc_Ox
theorem fit_Ox : Fit Try.prog ext_Ox := fitT (fitS spk_Ox) (fun f h => by
  simp only [tc_Ox, Bool.or_eq_true] at h
  simp only [Nat.beq_eq] at h
  rcases h with ((((((((((((((((((((rfl | rfl) | rfl) | rfl) | rfl) | rfl) | rfl) | rfl) | rfl) | rfl) | rfl) | rfl) | rfl) | rfl) | rfl) | rfl) | rfl) | rfl) | rfl) | rfl) | rfl) | rfl
  · exact ⟨_, _, Try.func27, rfl⟩
  · exact ⟨_, _, Try.func19, rfl⟩
  · exact ⟨_, _, Try.func26, rfl⟩
  · exact ⟨_, _, Try.func24, rfl⟩
  · exact ⟨_, _, Try.func17, rfl⟩
  · exact ⟨_, _, Try.func22, rfl⟩
  · exact ⟨_, _, Try.func15, rfl⟩
  · exact ⟨_, _, Try.func4, rfl⟩
  · exact ⟨_, _, Try.func49, rfl⟩
  · exact ⟨_, _, Try.func20, rfl⟩
  · exact ⟨_, _, Try.func25, rfl⟩
  · exact ⟨_, _, Try.func18, rfl⟩
  · exact ⟨_, _, Try.func14, rfl⟩
  · exact ⟨_, _, Try.func23, rfl⟩
  · exact ⟨_, _, Try.func28, rfl⟩
  · exact ⟨_, _, Try.func21, rfl⟩
  · exact ⟨_, _, Try.func16, rfl⟩
  · exact ⟨_, _, Try.func13, rfl⟩
  · exact ⟨_, _, Try.func9, rfl⟩
  · exact ⟨_, _, Try.func7, rfl⟩
  · exact ⟨_, _, Try.func40, rfl⟩
  · exact ⟨_, _, Try.func48, rfl⟩
  )
end Ev
end Go.Proofs.Ytlcamddglkfblaa
