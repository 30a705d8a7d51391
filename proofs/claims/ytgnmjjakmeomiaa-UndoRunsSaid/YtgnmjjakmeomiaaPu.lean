/- Plain lemmas: machines step by step, lists by their places. -/
import Derived.Test.YtgnmjjakmeomiaaFm
namespace Go.Proofs.Ytgnmjjakmeomiaa
open Go.RowKit
namespace Ev
section
variable {X R : Type} {step : X → Option (X ⊕ R)} {n : Nat} {x y : X} {r : R}
theorem ZaG (h : step x = some (.inl y)) : Zb1 step (n + 1) x = Zb1 step n y := by simp [Zb1, h]
theorem ZbB (h : step x = some (.inr r)) : Zb1 step (n + 1) x = some r := by simp [Zb1, h]
theorem ZeN : ∀ {n m : Nat} {x : X} {r : R}, n ≤ m → Zb1 step n x = some r → Zb1 step m x = some r
 | 0, _, _, _, _, h => by cases h
 | n + 1, 0, _, _, h, _ => by omega
 | n + 1, m + 1, x, r, h, e => by
  simp only [Zb1] at e ⊢
  cases hs : step x with
  | none => rw [hs] at e; cases e
  | some y =>
   rw [hs] at e
   cases y with
   | inl y => exact ZeN (by omega) e
   | inr r' => exact e
theorem ZdS {o : Option (X ⊕ R)} (h : o = some (.inl x)) : goM step n o = Zb1 step n x := by subst h; rfl
end
section
variable {α : Type}
theorem Zjo {L : List α} {i : Nat} (h : i < L.length) (d : α) : L.take i ++ [L.getD i d] = L.take (i + 1) := by
 rw [List.take_succ_eq_append_getElem h, List.getD_eq_getElem?_getD, List.getElem?_eq_getElem h, Option.getD_some]
end
theorem Zp {α : Type} {c : Prop} [Decidable c] {a b r : α} (h : c) (e : a = r) : (if c then a else b) = r := by rw [if_pos h]; exact e
theorem Zy {α : Type} {c : Prop} [Decidable c] {a b r : α} (h : ¬ c) (e : b = r) : (if c then a else b) = r := by rw [if_neg h]; exact e
theorem Zc4 {α β : Type} {o : Option α} {a : α} {k : α → Option β} {r : Option β} (h : o = some a) (e : k a = r) : o.bind k = r := by rw [h]; exact e
theorem w64 {x : Int} (h1 : -9223372036854775808 ≤ x) (h2 : x ≤ 9223372036854775807) : IntKind.i64.wrap x = x := wrap_i64 ⟨h1, h2⟩
end Ev
end Go.Proofs.Ytgnmjjakmeomiaa
