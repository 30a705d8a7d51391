/- How records are written, and which functions are told. -/
import Derived.Test.YtjfmadhcbgdakaaRw
import Derived.Test.YtjfmadhcbgdakaaEvS
import Derived.Test.YtjfmadhcbgdakaaPbr
namespace Go.Proofs.Ytjfmadhcbgdakaa
open Go.RowKit
namespace Ev
set_option linter.unusedVariables false
theorem Zvl {P : Program} {ext : FuncId → Option Ext} (F : Fit P ext) (p : FuncId → Bool) : Fit P (fun f => bif p f then none else ext f) :=
 have h : ∀ f e, (bif p f then none else ext f) = some e → ext f = some e := fun f e h => by cases hp : p f <;> rw [hp] at h <;> first | cases h; done | exact h
 ⟨F.mixed, F.go, fun f g e => F.fn f g (h _ _ e), fun f g e => F.hp f g (h _ _ e), fun f S e => F.tc f S (h _ _ e), fun f n e => F.mark f n (h _ _ e), fun f k e' he => F.ext f k e' (h _ _ he)⟩
theorem toL_inj {a b : ByteArray} : (a.toList == b.toList) = (a == b) := (beq_toListBytes a b).symm
theorem ii (x : Int) : -9223372036854775808 ≤ IntKind.i64.wrap x ∧ IntKind.i64.wrap x ≤ 9223372036854775807 := by
 by_cases h : x % 18446744073709551616 < 9223372036854775808
 ·have h' : ¬ (x % 18446744073709551616 ≥ 9223372036854775808) := by omega
  have e : IntKind.i64.wrap x = x % 18446744073709551616 := by simp [IntKind.wrap, IntKind.bits, IntKind.signed, h']
  rw [e]; omega
 ·have h' : x % 18446744073709551616 ≥ 9223372036854775808 := by omega
  have e : IntKind.i64.wrap x = x % 18446744073709551616 - 18446744073709551616 := by simp [IntKind.wrap, IntKind.bits, IntKind.signed, h']
  rw [e]; omega
theorem ZvJ {l : List Int} {i : Nat} (h : ∀ x ∈ (0 : Int) :: l, -9223372036854775808 ≤ x ∧ x ≤ 9223372036854775807) : -9223372036854775808 ≤ l.getD i 0 ∧ l.getD i 0 ≤ 9223372036854775807 := by
 by_cases hi : i < l.length
 ·have e : l.getD i 0 = l[i] := by simp [List.getD, hi]
  rw [e]; exact h _ (List.mem_cons_of_mem _ (List.getElem_mem hi))
 ·have e : l.getD i 0 = 0 := by simp [List.getD, List.getElem?_eq_none (Nat.le_of_not_lt hi)]
  rw [e]; exact h _ (List.mem_cons_self ..)
theorem Zd9 {x y : List Int} (h : ZcN x y = true) : ((Z5 x).toList == (Z5 y).toList) = true := toL_inj.trans h
theorem Zgm {x y : List Int} (h : ¬ (ZcN x y = true)) : ((Z5 x).toList == (Z5 y).toList) = false := toL_inj.trans (Bool.eq_false_iff.2 h)
theorem ZgM {x y : List Int} (h : ¬ (ZcN x y = true)) : (!((Z5 x).toList == (Z5 y).toList)) = true := by rw [Zgm h]; rfl
theorem ZgN {x y : List Int} (h : ZcN x y = true) : (!((Z5 x).toList == (Z5 y).toList)) = false := by rw [Zd9 h]; rfl
theorem uu (x : Int) : 0 ≤ IntKind.u64.wrap x ∧ IntKind.u64.wrap x ≤ 18446744073709551615 := by
 have h : IntKind.u64.wrap x = x % 18446744073709551616 := by simp [IntKind.wrap, IntKind.bits, IntKind.signed]
 rw [h]; omega
abbrev vq : Value := .int .i64 0
abbrev vf : Value := .bool false
abbrev vT : Value := .bool true
abbrev vn : Value := .slice none 0 0
noncomputable abbrev dS {α : Type} (a : α) : Bool := dP (a = a)
theorem ltA {p : Prop} (h : p := by first | omega | (simp only [List.length_set, List.length_append, List.length_cons, List.length_nil, List.length_replicate, List.length_take, List.length_drop] at * <;> omega)) : p := h
theorem eqA {p : Prop} (h : p := by first | rfl | omega | (simp only [List.length_set, List.length_append, List.length_cons, List.length_nil, List.length_replicate, List.length_take, List.length_drop] at * <;> omega)) : p := h
theorem rr {p q : Prop} (h : p := by rfl) (h2 : q := by rfl) : p ∧ q := ⟨h, h2⟩
section
variable {l : List (Bool × Bool)}
theorem oT {a b : Int} (hl : ∀ q ∈ l, q.1 = q.2) (h : a = b := by omega) : ∀ q ∈ ((a == b), true) :: l, q.1 = q.2 := Za (bT h) hl
theorem oF {a b : Int} (hl : ∀ q ∈ l, q.1 = q.2) (h : ¬ a = b := by omega) : ∀ q ∈ ((a == b), false) :: l, q.1 = q.2 := Za (bF h) hl
theorem oD {a b : Int} (hl : ∀ q ∈ l, q.1 = q.2) (h : a ≠ b := by omega) : ∀ q ∈ ((a != b), true) :: l, q.1 = q.2 := Za (bne_iff_ne.2 h) hl
theorem oE {a b : Int} (hl : ∀ q ∈ l, q.1 = q.2) (h : a = b := by omega) : ∀ q ∈ ((a != b), false) :: l, q.1 = q.2 := Za (bne_eq_false_iff_eq.2 h) hl
theorem oY {p : Prop} [Decidable p] (hl : ∀ q ∈ l, q.1 = q.2) (h : p := by omega) : ∀ q ∈ (decide p, true) :: l, q.1 = q.2 := Za (decide_eq_true h) hl
theorem oN {p : Prop} [Decidable p] (hl : ∀ q ∈ l, q.1 = q.2) (h : ¬ p := by omega) : ∀ q ∈ (decide p, false) :: l, q.1 = q.2 := Za (decide_eq_false h) hl
theorem oR {α : Type} {a b : α} (hl : ∀ q ∈ l, q.1 = q.2) (h : a = b := by rfl) : ∀ q ∈ (dP (a = b), true) :: l, q.1 = q.2 := Za (Zg h) hl
theorem oB {a b : Nat} (hl : ∀ q ∈ l, q.1 = q.2) (h : a < b := by omega) : ∀ q ∈ (Nat.blt a b, true) :: l, q.1 = q.2 := Za (ZvG h) hl
theorem oI {a b : Int} (hl : ∀ q ∈ l, q.1 = q.2) (h : a = b := by first | rfl | exact ZgI (by omega)) : ∀ q ∈ ((a == b), true) :: l, q.1 = q.2 := Za (bT h) hl
end
abbrev Zbk (O : Obj) (o : Nat) (L : List R_iiii) : Prop := ∀ i, i < L.length → Zat O (o + i * 4) [.i (L.getD i R_iiii.z).a0, .i (L.getD i R_iiii.z).a1, .i (L.getD i R_iiii.z).a2, .i (L.getD i R_iiii.z).a3]
def Zi : Enc R_iiii := ⟨fun x => [.int .i64 x.a0, .int .i64 x.a1, .int .i64 x.a2, .int .i64 x.a3], 4, R_iiii.z, fun _ => rfl, fun _ => rfl⟩
instance : Inhabited R_iiii := ⟨R_iiii.z⟩
def Zuk : FuncId → Option (List Value → Option Value) := fun f =>
 bif Nat.beq f 12 then some (fun l => match l with | [] => some (.bool true) | _ => none) else
 none
theorem ZuH (w : World) : Calls Try.prog 12 #[] w (Ret (.bool true) w) := ZvE 40000 w (by kernel_rfl) rfl
theorem ZvK : Zps Zuk := fun f g h => by
 unfold Zuk at h
 cases hb : Nat.beq f 12 with
 | true =>
  rw [hb] at h
  obtain rfl := Nat.eq_of_beq_eq_true hb
  simp only [cond_true, Option.some.injEq] at h
  subst h
  refine ⟨⟨_, _, Try.func12, rfl⟩, fun args v ha hv w => ?_⟩
  obtain ⟨l⟩ := args
  cases l with
  | nil =>
   change some (Value.bool true) = some v at hv
   injection hv with hv
   subst hv
   exact ZuH w
  | cons x l => change (none : Option Value) = some v at hv; cases hv
 | false =>
  rw [hb] at h
  simp only [cond_false] at h
  cases h
def Zvt : FuncId → Bool := fun f => Nat.beq f 35 || Nat.beq f 23 || Nat.beq f 3 || Nat.beq f 19 || Nat.beq f 16 || Nat.beq f 26 || Nat.beq f 25 || Nat.beq f 36 || Nat.beq f 32 || Nat.beq f 28 || Nat.beq f 10 || Nat.beq f 8 || Nat.beq f 11 || Nat.beq f 21 || Nat.beq f 18 || Nat.beq f 14 || Nat.beq f 30 || Nat.beq f 22 || Nat.beq f 9 || Nat.beq f 7 || Nat.beq f 15
noncomputable def Zj : FuncId → Option Ext := Zud (Zvg Zuk) Zvt
theorem ZaR : Fit Try.prog Zj := fitT (fitS ZvK) (fun f h => by
 simp only [Zvt, Bool.or_eq_true] at h
 simp only [Nat.beq_eq] at h
 rcases h with (((((((((((((((((((rfl | rfl) | rfl) | rfl) | rfl) | rfl) | rfl) | rfl) | rfl) | rfl) | rfl) | rfl) | rfl) | rfl) | rfl) | rfl) | rfl) | rfl) | rfl) | rfl) | rfl
 ·exact ⟨_, _, Try.func35, rfl⟩
 ·exact ⟨_, _, Try.func23, rfl⟩
 ·exact ⟨_, _, Try.func3, rfl⟩
 ·exact ⟨_, _, Try.func19, rfl⟩
 ·exact ⟨_, _, Try.func16, rfl⟩
 ·exact ⟨_, _, Try.func26, rfl⟩
 ·exact ⟨_, _, Try.func25, rfl⟩
 ·exact ⟨_, _, Try.func36, rfl⟩
 ·exact ⟨_, _, Try.func32, rfl⟩
 ·exact ⟨_, _, Try.func28, rfl⟩
 ·exact ⟨_, _, Try.func10, rfl⟩
 ·exact ⟨_, _, Try.func8, rfl⟩
 ·exact ⟨_, _, Try.func11, rfl⟩
 ·exact ⟨_, _, Try.func21, rfl⟩
 ·exact ⟨_, _, Try.func18, rfl⟩
 ·exact ⟨_, _, Try.func14, rfl⟩
 ·exact ⟨_, _, Try.func30, rfl⟩
 ·exact ⟨_, _, Try.func22, rfl⟩
 ·exact ⟨_, _, Try.func9, rfl⟩
 ·exact ⟨_, _, Try.func7, rfl⟩
 ·exact ⟨_, _, Try.func15, rfl⟩
 )
end Ev
end Go.Proofs.Ytjfmadhcbgdakaa
