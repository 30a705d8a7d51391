/- Plain lemmas: machines step by step, lists by their places. -/
import Derived.Test.YtbhnaaingkbeiaaFm
namespace Go.Proofs.Ytbhnaaingkbeiaa
open Go.RowKit
namespace Ev
section
variable {X R : Type} {step : X → Option (X ⊕ R)} {n : Nat} {x y : X} {r : R}
theorem iter_next (h : step x = some (.inl y)) : iter step (n + 1) x = iter step n y := by simp [iter, h]
theorem iter_done (h : step x = some (.inr r)) : iter step (n + 1) x = some r := by simp [iter, h]
theorem iter_up : ∀ {n m : Nat} {x : X} {r : R}, n ≤ m → iter step n x = some r → iter step m x = some r
  | 0, _, _, _, _, h => by cases h
  | n + 1, 0, _, _, h, _ => by omega
  | n + 1, m + 1, x, r, h, e => by
    simp only [iter] at e ⊢
    cases hs : step x with
    | none => rw [hs] at e; cases e
    | some y =>
      rw [hs] at e
      cases y with
      | inl y => exact iter_up (by omega) e
      | inr r' => exact e
theorem goM_in {o : Option (X ⊕ R)} (h : o = some (.inl x)) : goM step n o = iter step n x := by subst h; rfl
theorem goM_out {o : Option (X ⊕ R)} (h : o = some (.inr r)) : goM step n o = some r := by subst h; rfl
end
section
variable {α : Type}
theorem take_snoc {L : List α} {i : Nat} (h : i < L.length) (d : α) : L.take i ++ [L.getD i d] = L.take (i + 1) := by
  rw [List.take_succ_eq_append_getElem h, List.getD_eq_getElem?_getD, List.getElem?_eq_getElem h, Option.getD_some]
theorem getD_set_same {L : List α} {i : Nat} {v d : α} (h : i < L.length) : (L.set i v).getD i d = v := by simp [h]
theorem getD_set_ne {L : List α} {i j : Nat} {v d : α} (h : i ≠ j) : (L.set i v).getD j d = L.getD j d := by simp [List.getElem?_set_ne h]
theorem getD_set {L : List α} {i j : Nat} {v d : α} (h : i < L.length) : (L.set i v).getD j d = if j = i then v else L.getD j d := by
  by_cases e : j = i
  · subst e; rw [if_pos rfl, getD_set_same h]
  · rw [if_neg e, getD_set_ne (fun h => e h.symm)]
theorem getD_rep {n i : Nat} {v d : α} (h : i < n) : (List.replicate n v).getD i d = v := by simp [h]
theorem getD_app_left {L M : List α} {i : Nat} {d : α} (h : i < L.length) : (L ++ M).getD i d = L.getD i d := by simp [List.getElem?_append_left h]
theorem getD_snoc {L : List α} {v d : α} : (L ++ [v]).getD L.length d = v := by simp
theorem getD_beyond {L : List α} {i : Nat} {d : α} (h : L.length ≤ i) : L.getD i d = d := by simp [List.getElem?_eq_none h]
/-- Lists by their places. -/
theorem ext_getD {L M : List α} (d : α) (hl : L.length = M.length) (h : ∀ i, i < L.length → L.getD i d = M.getD i d) : L = M := by
  apply List.ext_getElem hl
  intro i h1 h2
  have := h i h1
  rw [List.getD_eq_getElem?_getD, List.getD_eq_getElem?_getD, List.getElem?_eq_getElem h1, List.getElem?_eq_getElem h2] at this
  exact this
theorem map_range_take {L : List α} (n : Nat) (h : n ≤ L.length) (d : α) : (List.range n).map (fun i => L.getD i d) = L.take n := by
  apply List.ext_getElem?
  intro i
  by_cases hi : i < n
  · rw [List.getElem?_take_of_lt hi, List.getElem?_map, List.getElem?_range hi, Option.map_some, List.getD_eq_getElem?_getD, List.getElem?_eq_getElem (by omega), Option.getD_some]
  · rw [List.getElem?_eq_none (by simp; omega), List.getElem?_eq_none (by simp; omega)]
end
theorem ite_eq {α : Type} {c : Prop} [Decidable c] {a b r : α} (h1 : c → a = r) (h2 : ¬ c → b = r) : (if c then a else b) = r := by
  by_cases h : c
  · rw [if_pos h]; exact h1 h
  · rw [if_neg h]; exact h2 h
theorem ite_yes {α : Type} {c : Prop} [Decidable c] {a b r : α} (h : c) (e : a = r) : (if c then a else b) = r := by rw [if_pos h]; exact e
theorem ite_no {α : Type} {c : Prop} [Decidable c] {a b r : α} (h : ¬ c) (e : b = r) : (if c then a else b) = r := by rw [if_neg h]; exact e
theorem bind_to {α β : Type} {o : Option α} {a : α} {k : α → Option β} {r : Option β} (h : o = some a) (e : k a = r) : o.bind k = r := by rw [h]; exact e
theorem w64 {x : Int} (h1 : -9223372036854775808 ≤ x) (h2 : x ≤ 9223372036854775807) : IntKind.i64.wrap x = x := wrap_i64 ⟨h1, h2⟩
end Ev
end Go.Proofs.Ytbhnaaingkbeiaa
