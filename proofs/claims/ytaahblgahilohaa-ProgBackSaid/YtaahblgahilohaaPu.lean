/- Plain lemmas: machines step by step, lists by their places. -/
import Derived.Test.YtaahblgahilohaaFm
namespace Go.Proofs.Ytaahblgahilohaa
open Go.RowKit
namespace Ev
section
variable {X R : Type} {step : X → Option (X ⊕ R)} {n : Nat} {x y : X} {r : R}
theorem iter_next (h : step x = some (.inl y)) : iter step (n + 1) x = iter step n y := by simp [iter, h]
theorem iter_done (h : step x = some (.inr r)) : iter step (n + 1) x = some r := by simp [iter, h]
theorem iter_up : ∀ {n m : Nat} {x : X} {r : R}, n ≤ m → iter step n x = some r → iter step m x = some r
  | 0, _, _, _, _, h => by cases h
  | n + 1, 0, _, _, h, _ => by omega
  | n + 1, m + 1, x, r, h, e => by
    simp only [iter] at e ⊢
    cases hs : step x with
    | none => rw [hs] at e; cases e
    | some y =>
      rw [hs] at e
      cases y with
      | inl y => exact iter_up (by omega) e
      | inr r' => exact e
theorem goM_in {o : Option (X ⊕ R)} (h : o = some (.inl x)) : goM step n o = iter step n x := by subst h; rfl
theorem goM_out {o : Option (X ⊕ R)} (h : o = some (.inr r)) : goM step n o = some r := by subst h; rfl
end
section
variable {α : Type}
theorem take_snoc {L : List α} {i : Nat} (h : i < L.length) (d : α) : L.take i ++ [L.getD i d] = L.take (i + 1) := by
  rw [List.take_succ_eq_append_getElem h, List.getD_eq_getElem?_getD, List.getElem?_eq_getElem h, Option.getD_some]
theorem getD_snoc {L : List α} {v d : α} : (L ++ [v]).getD L.length d = v := by simp
end
theorem ite_yes {α : Type} {c : Prop} [Decidable c] {a b r : α} (h : c) (e : a = r) : (if c then a else b) = r := by rw [if_pos h]; exact e
theorem ite_no {α : Type} {c : Prop} [Decidable c] {a b r : α} (h : ¬ c) (e : b = r) : (if c then a else b) = r := by rw [if_neg h]; exact e
theorem bind_to {α β : Type} {o : Option α} {a : α} {k : α → Option β} {r : Option β} (h : o = some a) (e : k a = r) : o.bind k = r := by rw [h]; exact e
theorem w64 {x : Int} (h1 : -9223372036854775808 ≤ x) (h2 : x ≤ 9223372036854775807) : IntKind.i64.wrap x = x := wrap_i64 ⟨h1, h2⟩
end Ev
end Go.Proofs.Ytaahblgahilohaa
