/- How records are written, and which functions are told. -/
import Derived.Test.YtaahblgahilohaaRw
import Derived.Test.YtaahblgahilohaaEvS
import Derived.Test.YtaahblgahilohaaPkr
namespace Go.Proofs.Ytaahblgahilohaa
open Go.RowKit
namespace Ev
set_option linter.unusedVariables false
theorem toL_inj {a b : ByteArray} : (a.toList == b.toList) = (a == b) := (beq_toListBytes a b).symm
theorem ii (x : Int) : -9223372036854775808 ≤ IntKind.i64.wrap x ∧ IntKind.i64.wrap x ≤ 9223372036854775807 := by
  by_cases h : x % 18446744073709551616 < 9223372036854775808
  · have h' : ¬ (x % 18446744073709551616 ≥ 9223372036854775808) := by omega
    have e : IntKind.i64.wrap x = x % 18446744073709551616 := by simp [IntKind.wrap, IntKind.bits, IntKind.signed, h']
    rw [e]; omega
  · have h' : x % 18446744073709551616 ≥ 9223372036854775808 := by omega
    have e : IntKind.i64.wrap x = x % 18446744073709551616 - 18446744073709551616 := by simp [IntKind.wrap, IntKind.bits, IntKind.signed, h']
    rw [e]; omega
theorem strB_t {x y : List Int} (h : strB x y = true) : ((strOf x).toList == (strOf y).toList) = true := toL_inj.trans h
theorem strB_f {x y : List Int} (h : ¬ (strB x y = true)) : ((strOf x).toList == (strOf y).toList) = false := toL_inj.trans (Bool.eq_false_iff.2 h)
abbrev vq : Value := .int .i64 0
abbrev vf : Value := .bool false
abbrev vT : Value := .bool true
abbrev vn : Value := .slice none 0 0
noncomputable abbrev dS {α : Type} (a : α) : Bool := dP (a = a)
theorem ltA {p : Prop} (h : p := by first | omega | (simp only [List.length_set, List.length_append, List.length_cons, List.length_nil, List.length_replicate, List.length_take, List.length_drop] at * <;> omega)) : p := h
theorem eqA {p : Prop} (h : p := by first | rfl | omega | (simp only [List.length_set, List.length_append, List.length_cons, List.length_nil, List.length_replicate, List.length_take, List.length_drop] at * <;> omega)) : p := h
theorem rr {p q : Prop} (h : p := by rfl) (h2 : q := by rfl) : p ∧ q := ⟨h, h2⟩
section
variable {l : List (Bool × Bool)}
theorem oT {a b : Int} (hl : ∀ q ∈ l, q.1 = q.2) (h : a = b := by omega) : ∀ q ∈ ((a == b), true) :: l, q.1 = q.2 := obs_cons (bT h) hl
theorem oF {a b : Int} (hl : ∀ q ∈ l, q.1 = q.2) (h : ¬ a = b := by omega) : ∀ q ∈ ((a == b), false) :: l, q.1 = q.2 := obs_cons (bF h) hl
theorem oD {a b : Int} (hl : ∀ q ∈ l, q.1 = q.2) (h : a ≠ b := by omega) : ∀ q ∈ ((a != b), true) :: l, q.1 = q.2 := obs_cons (bne_iff_ne.2 h) hl
theorem oE {a b : Int} (hl : ∀ q ∈ l, q.1 = q.2) (h : a = b := by omega) : ∀ q ∈ ((a != b), false) :: l, q.1 = q.2 := obs_cons (bne_eq_false_iff_eq.2 h) hl
theorem oY {p : Prop} [Decidable p] (hl : ∀ q ∈ l, q.1 = q.2) (h : p := by omega) : ∀ q ∈ (decide p, true) :: l, q.1 = q.2 := obs_cons (decide_eq_true h) hl
theorem oN {p : Prop} [Decidable p] (hl : ∀ q ∈ l, q.1 = q.2) (h : ¬ p := by omega) : ∀ q ∈ (decide p, false) :: l, q.1 = q.2 := obs_cons (decide_eq_false h) hl
theorem oR {α : Type} {a b : α} (hl : ∀ q ∈ l, q.1 = q.2) (h : a = b := by rfl) : ∀ q ∈ (dP (a = b), true) :: l, q.1 = q.2 := obs_cons (dP_of h) hl
theorem oB {a b : Nat} (hl : ∀ q ∈ l, q.1 = q.2) (h : a < b := by omega) : ∀ q ∈ (Nat.blt a b, true) :: l, q.1 = q.2 := obs_cons (blt_of h) hl
theorem oI {a b : Int} (hl : ∀ q ∈ l, q.1 = q.2) (h : a = b := by first | rfl | exact idx_eq (by omega)) : ∀ q ∈ ((a == b), true) :: l, q.1 = q.2 := obs_cons (bT h) hl
end
abbrev RO_iiii (O : Obj) (o : Nat) (L : List R_iiii) : Prop := ∀ i, i < L.length → RowOK O (o + i * 4) [.i (L.getD i R_iiii.z).a0, .i (L.getD i R_iiii.z).a1, .i (L.getD i R_iiii.z).a2, .i (L.getD i R_iiii.z).a3]
def E_iiii : Enc R_iiii := ⟨fun x => [.int .i64 x.a0, .int .i64 x.a1, .int .i64 x.a2, .int .i64 x.a3], 4, R_iiii.z, fun _ => rfl, fun _ => rfl⟩
instance : Inhabited R_iiii := ⟨R_iiii.z⟩
/-- What is known. -/
def sp_Pk : FuncId → Option (List Value → Option Value) := fun f =>
  bif Nat.beq f 10 then some (fun l => match l with | [] => some (.bool true) | _ => none) else
  none
theorem known0_Pk (w : World) : Calls Try.prog 10 #[] w (Ret (.bool true) w) := ret_of 40000 w (by kernel_rfl) rfl
theorem spk_Pk : Known sp_Pk := fun f g h => by
  unfold sp_Pk at h
  cases hb : Nat.beq f 10 with
  | true =>
    rw [hb] at h
    obtain rfl := Nat.eq_of_beq_eq_true hb
    simp only [cond_true, Option.some.injEq] at h
    subst h
    refine ⟨⟨_, _, Try.func10, rfl⟩, fun args v ha hv w => ?_⟩
    obtain ⟨l⟩ := args
    cases l with
    | nil =>
      change some (Value.bool true) = some v at hv
      injection hv with hv
      subst hv
      exact known0_Pk w
    | cons x l => change (none : Option Value) = some v at hv; cases hv
  | false =>
    rw [hb] at h
    simp only [cond_false] at h
    cases h
def tc_Pk : FuncId → Bool := fun f => Nat.beq f 28 || Nat.beq f 23 || Nat.beq f 3 || Nat.beq f 9 || Nat.beq f 20 || Nat.beq f 18 || Nat.beq f 15 || Nat.beq f 26 || Nat.beq f 22 || Nat.beq f 8 || Nat.beq f 7 || Nat.beq f 16
noncomputable def ext_Pk : FuncId → Option Ext := extT (extS sp_Pk) tc_Pk
theorem fit_Pk : Fit Try.prog ext_Pk := fitT (fitS spk_Pk) (fun f h => by
  simp only [tc_Pk, Bool.or_eq_true] at h
  simp only [Nat.beq_eq] at h
  rcases h with ((((((((((rfl | rfl) | rfl) | rfl) | rfl) | rfl) | rfl) | rfl) | rfl) | rfl) | rfl) | rfl
  · exact ⟨_, _, Try.func28, rfl⟩
  · exact ⟨_, _, Try.func23, rfl⟩
  · exact ⟨_, _, Try.func3, rfl⟩
  · exact ⟨_, _, Try.func9, rfl⟩
  · exact ⟨_, _, Try.func20, rfl⟩
  · exact ⟨_, _, Try.func18, rfl⟩
  · exact ⟨_, _, Try.func15, rfl⟩
  · exact ⟨_, _, Try.func26, rfl⟩
  · exact ⟨_, _, Try.func22, rfl⟩
  · exact ⟨_, _, Try.func8, rfl⟩
  · exact ⟨_, _, Try.func7, rfl⟩
  · exact ⟨_, _, Try.func16, rfl⟩
  )
end Ev
end Go.Proofs.Ytaahblgahilohaa
