/- How records are written, and which functions are told. -/
import Derived.Test.YtpgbennpiihajaaRw
import Derived.Test.YtpgbennpiihajaaEvS
import Derived.Test.YtpgbennpiihajaaKmr
namespace Go.Proofs.Ytpgbennpiihajaa
open Go.RowKit
namespace Ev
set_option linter.unusedVariables false
abbrev v0 : Value := .int .i64 0
abbrev vf : Value := .bool false
abbrev vT : Value := .bool true
abbrev vn : Value := .slice none 0 0
abbrev vtt : Value := .tuple #[]
noncomputable abbrev dS {α : Type} (a : α) : Bool := dP (a = a)
theorem ltA {p : Prop} (h : p := by first | omega | (simp only [List.length_set, List.length_append, List.length_cons, List.length_nil, List.length_replicate, List.length_take, List.length_drop] at * <;> omega)) : p := h
theorem eqA {p : Prop} (h : p := by first | rfl | omega | (simp only [List.length_set, List.length_append, List.length_cons, List.length_nil, List.length_replicate, List.length_take, List.length_drop] at * <;> omega)) : p := h
theorem rr {p q : Prop} (h : p := by rfl) (h2 : q := by rfl) : p ∧ q := ⟨h, h2⟩
section
variable {l : List (Bool × Bool)}
theorem oT {a b : Int} (hl : ∀ q ∈ l, q.1 = q.2) (h : a = b := by omega) : ∀ q ∈ ((a == b), true) :: l, q.1 = q.2 := Za (bT h) hl
theorem oF {a b : Int} (hl : ∀ q ∈ l, q.1 = q.2) (h : ¬ a = b := by omega) : ∀ q ∈ ((a == b), false) :: l, q.1 = q.2 := Za (bF h) hl
theorem oD {a b : Int} (hl : ∀ q ∈ l, q.1 = q.2) (h : a ≠ b := by omega) : ∀ q ∈ ((a != b), true) :: l, q.1 = q.2 := Za (bne_iff_ne.2 h) hl
theorem oE {a b : Int} (hl : ∀ q ∈ l, q.1 = q.2) (h : a = b := by omega) : ∀ q ∈ ((a != b), false) :: l, q.1 = q.2 := Za (bne_eq_false_iff_eq.2 h) hl
theorem oY {p : Prop} [Decidable p] (hl : ∀ q ∈ l, q.1 = q.2) (h : p := by omega) : ∀ q ∈ (decide p, true) :: l, q.1 = q.2 := Za (decide_eq_true h) hl
theorem oN {p : Prop} [Decidable p] (hl : ∀ q ∈ l, q.1 = q.2) (h : ¬ p := by omega) : ∀ q ∈ (decide p, false) :: l, q.1 = q.2 := Za (decide_eq_false h) hl
theorem oR {α : Type} {a b : α} (hl : ∀ q ∈ l, q.1 = q.2) (h : a = b := by rfl) : ∀ q ∈ (dP (a = b), true) :: l, q.1 = q.2 := Za (Zf h) hl
theorem oB {a b : Nat} (hl : ∀ q ∈ l, q.1 = q.2) (h : a < b := by omega) : ∀ q ∈ (Nat.blt a b, true) :: l, q.1 = q.2 := Za (Zw4 h) hl
theorem oI {a b : Int} (hl : ∀ q ∈ l, q.1 = q.2) (h : a = b := by first | rfl | exact Zlh (by omega)) : ∀ q ∈ ((a == b), true) :: l, q.1 = q.2 := Za (bT h) hl
end
abbrev Zs (O : Obj) (o : Nat) (L : List R_iiii) : Prop := ∀ i, i < L.length → Zo6 O (o + i * 4) [.i (L.getD i R_iiii.z).a0, .i (L.getD i R_iiii.z).a1, .i (L.getD i R_iiii.z).a2, .i (L.getD i R_iiii.z).a3]
def Ze : Enc R_ii := ⟨fun x => [.int .i64 x.a0, .int .i64 x.a1], 2, R_ii.z, fun _ => rfl, fun _ => rfl⟩
instance : Inhabited R_ii := ⟨R_ii.z⟩
instance : Inhabited R_iiii := ⟨R_iiii.z⟩
def ZuL : FuncId → Option (List Value → Option Value) := fun f =>
 bif Nat.beq f 14 then some (fun l => match l with | [] => some (.bool true) | _ => none) else
 none
theorem Zvn (w : World) : Calls Try.prog 14 #[] w (Ret (.bool true) w) := Zw2 40000 w (by kernel_rfl) rfl
theorem Zw7 : Zqy ZuL := fun f g h => by
 unfold ZuL at h
 cases hb : Nat.beq f 14 with
 | true =>
  rw [hb] at h
  obtain rfl := Nat.eq_of_beq_eq_true hb
  simp only [cond_true, Option.some.injEq] at h
  subst h
  refine ⟨⟨_, _, Try.func14, rfl⟩, fun args v ha hv w => ?_⟩
  obtain ⟨l⟩ := args
  cases l with
  | nil =>
   change some (Value.bool true) = some v at hv
   injection hv with hv
   subst hv
   exact Zvn w
  | cons x l => change (none : Option Value) = some v at hv; cases hv
 | false =>
  rw [hb] at h
  simp only [cond_false] at h
  cases h
def ZvW : FuncId → Bool := fun f => Nat.beq f 38 || Nat.beq f 34 || Nat.beq f 35 || Nat.beq f 43 || Nat.beq f 45 || Nat.beq f 48 || Nat.beq f 22 || Nat.beq f 17 || Nat.beq f 20 || Nat.beq f 15 || Nat.beq f 26 || Nat.beq f 4 || Nat.beq f 39 || Nat.beq f 28 || Nat.beq f 24 || Nat.beq f 40 || Nat.beq f 23 || Nat.beq f 18 || Nat.beq f 13 || Nat.beq f 21 || Nat.beq f 16 || Nat.beq f 19 || Nat.beq f 11 || Nat.beq f 29 || Nat.beq f 31 || Nat.beq f 32 || Nat.beq f 27 || Nat.beq f 41 || Nat.beq f 46 || Nat.beq f 47
noncomputable def Zr : FuncId → Option Ext := ZuE (ZvE ZuL) ZvW
theorem Zao : Fit Try.prog Zr := fitT (fitS Zw7) (fun f h => by
 simp only [ZvW, Bool.or_eq_true] at h
 simp only [Nat.beq_eq] at h
 rcases h with ((((((((((((((((((((((((((((rfl | rfl) | rfl) | rfl) | rfl) | rfl) | rfl) | rfl) | rfl) | rfl) | rfl) | rfl) | rfl) | rfl) | rfl) | rfl) | rfl) | rfl) | rfl) | rfl) | rfl) | rfl) | rfl) | rfl) | rfl) | rfl) | rfl) | rfl) | rfl) | rfl
 ·exact ⟨_, _, Try.func38, rfl⟩
 ·exact ⟨_, _, Try.func34, rfl⟩
 ·exact ⟨_, _, Try.func35, rfl⟩
 ·exact ⟨_, _, Try.func43, rfl⟩
 ·exact ⟨_, _, Try.func45, rfl⟩
 ·exact ⟨_, _, Try.func48, rfl⟩
 ·exact ⟨_, _, Try.func22, rfl⟩
 ·exact ⟨_, _, Try.func17, rfl⟩
 ·exact ⟨_, _, Try.func20, rfl⟩
 ·exact ⟨_, _, Try.func15, rfl⟩
 ·exact ⟨_, _, Try.func26, rfl⟩
 ·exact ⟨_, _, Try.func4, rfl⟩
 ·exact ⟨_, _, Try.func39, rfl⟩
 ·exact ⟨_, _, Try.func28, rfl⟩
 ·exact ⟨_, _, Try.func24, rfl⟩
 ·exact ⟨_, _, Try.func40, rfl⟩
 ·exact ⟨_, _, Try.func23, rfl⟩
 ·exact ⟨_, _, Try.func18, rfl⟩
 ·exact ⟨_, _, Try.func13, rfl⟩
 ·exact ⟨_, _, Try.func21, rfl⟩
 ·exact ⟨_, _, Try.func16, rfl⟩
 ·exact ⟨_, _, Try.func19, rfl⟩
 ·exact ⟨_, _, Try.func11, rfl⟩
 ·exact ⟨_, _, Try.func29, rfl⟩
 ·exact ⟨_, _, Try.func31, rfl⟩
 ·exact ⟨_, _, Try.func32, rfl⟩
 ·exact ⟨_, _, Try.func27, rfl⟩
 ·exact ⟨_, _, Try.func41, rfl⟩
 ·exact ⟨_, _, Try.func46, rfl⟩
 ·exact ⟨_, _, Try.func47, rfl⟩
 )
end Ev
end Go.Proofs.Ytpgbennpiihajaa
