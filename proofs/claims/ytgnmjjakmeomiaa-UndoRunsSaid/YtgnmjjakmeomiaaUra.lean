/- How records are written, and which functions are told. -/
import Derived.Test.YtgnmjjakmeomiaaRw
import Derived.Test.YtgnmjjakmeomiaaEvS
import Derived.Test.YtgnmjjakmeomiaaUrr
namespace Go.Proofs.Ytgnmjjakmeomiaa
open Go.RowKit
namespace Ev
set_option linter.unusedVariables false
abbrev vq : Value := .int .i64 0
abbrev vf : Value := .bool false
abbrev vT : Value := .bool true
abbrev vn : Value := .slice none 0 0
noncomputable abbrev dS {α : Type} (a : α) : Bool := dP (a = a)
theorem ltA {p : Prop} (h : p := by first | omega | (simp only [List.length_set, List.length_append, List.length_cons, List.length_nil, List.length_replicate, List.length_take, List.length_drop] at * <;> omega)) : p := h
theorem eqA {p : Prop} (h : p := by first | rfl | omega | (simp only [List.length_set, List.length_append, List.length_cons, List.length_nil, List.length_replicate, List.length_take, List.length_drop] at * <;> omega)) : p := h
theorem rr {p q : Prop} (h : p := by rfl) (h2 : q := by rfl) : p ∧ q := ⟨h, h2⟩
section
variable {l : List (Bool × Bool)}
theorem oT {a b : Int} (hl : ∀ q ∈ l, q.1 = q.2) (h : a = b := by omega) : ∀ q ∈ ((a == b), true) :: l, q.1 = q.2 := Zb (bT h) hl
theorem oF {a b : Int} (hl : ∀ q ∈ l, q.1 = q.2) (h : ¬ a = b := by omega) : ∀ q ∈ ((a == b), false) :: l, q.1 = q.2 := Zb (bF h) hl
theorem oD {a b : Int} (hl : ∀ q ∈ l, q.1 = q.2) (h : a ≠ b := by omega) : ∀ q ∈ ((a != b), true) :: l, q.1 = q.2 := Zb (bne_iff_ne.2 h) hl
theorem oE {a b : Int} (hl : ∀ q ∈ l, q.1 = q.2) (h : a = b := by omega) : ∀ q ∈ ((a != b), false) :: l, q.1 = q.2 := Zb (bne_eq_false_iff_eq.2 h) hl
theorem oY {p : Prop} [Decidable p] (hl : ∀ q ∈ l, q.1 = q.2) (h : p := by omega) : ∀ q ∈ (decide p, true) :: l, q.1 = q.2 := Zb (decide_eq_true h) hl
theorem oN {p : Prop} [Decidable p] (hl : ∀ q ∈ l, q.1 = q.2) (h : ¬ p := by omega) : ∀ q ∈ (decide p, false) :: l, q.1 = q.2 := Zb (decide_eq_false h) hl
theorem oR {α : Type} {a b : α} (hl : ∀ q ∈ l, q.1 = q.2) (h : a = b := by rfl) : ∀ q ∈ (dP (a = b), true) :: l, q.1 = q.2 := Zb (Zi h) hl
theorem oB {a b : Nat} (hl : ∀ q ∈ l, q.1 = q.2) (h : a < b := by omega) : ∀ q ∈ (Nat.blt a b, true) :: l, q.1 = q.2 := Zb (Zps h) hl
theorem oI {a b : Int} (hl : ∀ q ∈ l, q.1 = q.2) (h : a = b := by first | rfl | exact Zpr (by omega)) : ∀ q ∈ ((a == b), true) :: l, q.1 = q.2 := Zb (bT h) hl
end
abbrev ZL (O : Obj) (o : Nat) (L : List RA) : Prop := ∀ i, i < L.length → Zjz O (o + i * 8) [.i (L.getD i RA.z).a0, .i (L.getD i RA.z).a1, .i (L.getD i RA.z).a2, .i (L.getD i RA.z).a3, .i (L.getD i RA.z).a4, .i (L.getD i RA.z).a5, .b (L.getD i RA.z).a6, .i (L.getD i RA.z).a7]
def Za : Enc RB := ⟨fun x => [.int .i64 x.a0, .int .i64 x.a1, .int .i64 x.a2, .int .i64 x.a3, .int .i64 x.a4, .bool x.a5, .int .i64 x.a6], 7, RB.z, fun _ => rfl, fun _ => rfl⟩
instance : Inhabited RB := ⟨RB.z⟩
instance : Inhabited RA := ⟨RA.z⟩
def ZnN : FuncId → Option (List Value → Option Value) := fun f =>
 bif Nat.beq f 8 then some (fun l => match l with | [] => some (.bool true) | _ => none) else
 none
theorem Zom (w : World) : Calls Try.prog 8 #[] w (Ret (.bool true) w) := Zpp 40000 w (by kernel_rfl) rfl
theorem Zpv : ZkF ZnN := fun f g h => by
 unfold ZnN at h
 cases hb : Nat.beq f 8 with
 | true =>
  rw [hb] at h
  obtain rfl := Nat.eq_of_beq_eq_true hb
  simp only [cond_true, Option.some.injEq] at h
  subst h
  refine ⟨⟨_, _, Try.func8, rfl⟩, fun args v ha hv w => ?_⟩
  obtain ⟨l⟩ := args
  cases l with
  | nil =>
   change some (Value.bool true) = some v at hv
   injection hv with hv
   subst hv
   exact Zom w
  | cons x l => change (none : Option Value) = some v at hv; cases hv
 | false =>
  rw [hb] at h
  simp only [cond_false] at h
  cases h
def ZoR : FuncId → Bool := fun f => Nat.beq f 13 || Nat.beq f 16 || Nat.beq f 9 || Nat.beq f 3 || Nat.beq f 14 || Nat.beq f 7 || Nat.beq f 12 || Nat.beq f 10 || Nat.beq f 18 || Nat.beq f 6
noncomputable def Zw : FuncId → Option Ext := ZnG (Zo8 ZnN) ZoR
theorem ZbQ : Fit Try.prog Zw := fitT (fitS Zpv) (fun f h => by
 simp only [ZoR, Bool.or_eq_true] at h
 simp only [Nat.beq_eq] at h
 rcases h with ((((((((rfl | rfl) | rfl) | rfl) | rfl) | rfl) | rfl) | rfl) | rfl) | rfl
 ·exact ⟨_, _, Try.func13, rfl⟩
 ·exact ⟨_, _, Try.func16, rfl⟩
 ·exact ⟨_, _, Try.func9, rfl⟩
 ·exact ⟨_, _, Try.func3, rfl⟩
 ·exact ⟨_, _, Try.func14, rfl⟩
 ·exact ⟨_, _, Try.func7, rfl⟩
 ·exact ⟨_, _, Try.func12, rfl⟩
 ·exact ⟨_, _, Try.func10, rfl⟩
 ·exact ⟨_, _, Try.func18, rfl⟩
 ·exact ⟨_, _, Try.func6, rfl⟩
 )
end Ev
end Go.Proofs.Ytgnmjjakmeomiaa
