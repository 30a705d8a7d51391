/- Rows of records and their index. -/
import Derived.Test.YtbhnaaingkbeiaaSrr
import Derived.Test.YtbhnaaingkbeiaaPu
namespace Go.Proofs.Ytbhnaaingkbeiaa
open Go.RowKit
namespace Ev
set_option linter.unusedVariables false
set_option linter.unusedSimpArgs false
namespace Rs
/-- Where each record's entry stands. -/
def ix (i : Nat) : List R_ii → List R_ii
  | [] => []
  | x :: E => ⟨x.a0, (i : Int)⟩ :: ix (i + 1) E
def Nd (E : List R_ii) : Prop := ∀ i j, i < j → j < E.length → ¬ (E.getD i R_ii.z).a0 = (E.getD j R_ii.z).a0
theorem has_cons (x : R_ii) (E : List R_ii) (k : Int) : mHas (x :: E) k = ((x.a0 == k) || mHas E k) := rfl
theorem get_cons (x : R_ii) (E : List R_ii) (k : Int) : mGet (x :: E) k = if x.a0 = k then x.a1 else mGet E k := by
  unfold mGet
  rw [List.find?_cons]
  by_cases h : x.a0 = k
  · simp [h]
  · have : (x.a0 == k) = false := beq_eq_false_iff_ne.2 h
    simp [h, this]
theorem ix_has (k : Int) : ∀ (E : List R_ii) (i : Nat), mHas (ix i E) k = mHas E k
  | [], _ => rfl
  | x :: E, i => by rw [ix, has_cons, has_cons, ix_has k E (i + 1)]
theorem ix_get (k : Int) : ∀ (E : List R_ii) (i : Nat), mHas E k = true → ∃ p, p < E.length ∧ mGet (ix i E) k = ((i + p : Nat) : Int) ∧ (E.getD p R_ii.z).a1 = mGet E k
  | [], _, h => by cases h
  | x :: E, i, h => by
    rw [ix, get_cons, get_cons]
    by_cases hx : x.a0 = k
    · exact ⟨0, by simp, by simp [hx], by simp [hx]⟩
    · rw [has_cons] at h
      have h' : mHas E k = true := by simpa [hx] using h
      obtain ⟨p, h1, h2, h3⟩ := ix_get k E (i + 1) h'
      refine ⟨p + 1, by simpa using h1, ?_, ?_⟩
      · simp only [hx, if_false, h2]; omega
      · simp only [hx, if_false]; simpa using h3
theorem ix_put (k v : Int) : ∀ (E : List R_ii) (i : Nat), ¬ mHas E k = true → mPut (ix i E) k ((i + E.length : Nat) : Int) = ix i (E ++ [⟨k, v⟩])
  | [], i, _ => by simp [ix, mPut]
  | x :: E, i, h => by
    rw [has_cons] at h
    have h1 : ¬ x.a0 = k := fun e => h (by simp [e])
    have h2 : ¬ mHas E k = true := fun e => h (by simp [e])
    have := ix_put k v E (i + 1) h2
    simp only [ix, mPut, h1, if_false, List.cons_append, List.length_cons]
    rw [show i + (E.length + 1) = i + 1 + E.length by omega, this]
theorem has_get {E : List R_ii} {k : Int} (h : ¬ mHas E k = true) {i : Nat} (hi : i < E.length) : ¬ (E.getD i R_ii.z).a0 = k := fun e => h (by
  unfold mHas
  rw [List.any_eq_true]
  refine ⟨E[i], List.getElem_mem hi, ?_⟩
  rw [beq_iff_eq, ← e]
  simp [List.getD, hi])
theorem Nd.snoc {E : List R_ii} {k v : Int} (h : Nd E) (hk : ¬ mHas E k = true) : Nd (E ++ [⟨k, v⟩]) := fun i j hij hj => by
  rw [List.length_append, List.length_singleton] at hj
  rw [getD_app_left (show i < E.length by omega)]
  by_cases hl : j < E.length
  · rw [getD_app_left hl]; exact h i j hij hl
  · obtain rfl : j = E.length := by omega
    rw [getD_snoc]
    exact has_get hk hij
theorem Nd.nil : Nd [] := fun i j _ h => by simp at h
theorem has_snoc (E : List R_ii) (k v : Int) (x : Int) : mHas (E ++ [⟨k, v⟩]) x = (mHas E x || (k == x)) := by
  unfold mHas
  rw [List.any_append]
  simp
theorem get_snoc {E : List R_ii} {k : Int} (v : Int) (h : ¬ mHas E k = true) : mGet (E ++ [⟨k, v⟩]) k = v := by
  induction E with
  | nil => simp [mGet]
  | cons x E ih =>
    rw [has_cons] at h
    have h1 : ¬ x.a0 = k := fun e => h (by simp [e])
    have h2 : ¬ mHas E k = true := fun e => h (by simp [e])
    rw [List.cons_append, get_cons, if_neg h1, ih h2]
theorem get_old {E : List R_ii} {k v x : Int} (h : mHas E x = true) : mGet (E ++ [⟨k, v⟩]) x = mGet E x := by
  induction E with
  | nil => cases h
  | cons y E ih =>
    rw [List.cons_append, get_cons, get_cons]
    by_cases hy : y.a0 = x
    · simp [hy]
    · rw [has_cons] at h
      have h' : mHas E x = true := by simpa [hy] using h
      simp [hy, ih h']
/-- The version that is told. -/
def vers (E : List R_ii) (k : Int) : Int := if mHas E k = true then mGet E k else 0
end Rs
end Ev
end Go.Proofs.Ytbhnaaingkbeiaa
