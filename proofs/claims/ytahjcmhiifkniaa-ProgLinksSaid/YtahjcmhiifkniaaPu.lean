/- Plain lemmas: machines step by step, lists by their places. -/
import Derived.Test.YtahjcmhiifkniaaFm
namespace Go.Proofs.Ytahjcmhiifkniaa
open Go.RowKit
namespace Ev
section
variable {X R : Type} {step : X → Option (X ⊕ R)} {n : Nat} {x y : X} {r : R}
theorem iter_next (h : step x = some (.inl y)) : iter step (n + 1) x = iter step n y := by simp [iter, h]
theorem iter_done (h : step x = some (.inr r)) : iter step (n + 1) x = some r := by simp [iter, h]
theorem goM_in {o : Option (X ⊕ R)} (h : o = some (.inl x)) : goM step n o = iter step n x := by subst h; rfl
theorem goM_out {o : Option (X ⊕ R)} (h : o = some (.inr r)) : goM step n o = some r := by subst h; rfl
end
section
variable {α : Type}
end
theorem ite_eq {α : Type} {c : Prop} [Decidable c] {a b r : α} (h1 : c → a = r) (h2 : ¬ c → b = r) : (if c then a else b) = r := by
  by_cases h : c
  · rw [if_pos h]; exact h1 h
  · rw [if_neg h]; exact h2 h
theorem ite_yes {α : Type} {c : Prop} [Decidable c] {a b r : α} (h : c) (e : a = r) : (if c then a else b) = r := by rw [if_pos h]; exact e
theorem ite_no {α : Type} {c : Prop} [Decidable c] {a b r : α} (h : ¬ c) (e : b = r) : (if c then a else b) = r := by rw [if_neg h]; exact e
theorem bind_to {α β : Type} {o : Option α} {a : α} {k : α → Option β} {r : Option β} (h : o = some a) (e : k a = r) : o.bind k = r := by rw [h]; exact e
theorem w64 {x : Int} (h1 : -9223372036854775808 ≤ x) (h2 : x ≤ 9223372036854775807) : IntKind.i64.wrap x = x := wrap_i64 ⟨h1, h2⟩
end Ev
end Go.Proofs.Ytahjcmhiifkniaa
