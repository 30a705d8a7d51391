/- Slots: what the functions of the package do. -/
import Derived.Test.YtonffldokhnmoaaEvC2
namespace Go.Proofs.Ytonffldokhnmoaa
open Go.RowKit
namespace Ev
set_option linter.unusedVariables false
/-- The first i slots. -/
def snapL (C : List Int) (i : Nat) : List Int := (List.range i).map fun t => C.getD (1 + t) 0
theorem snap_len (C : List Int) (i : Nat) : (snapL C i).length = i := by simp [snapL]
theorem snap_snoc (C : List Int) (i : Nat) : snapL C i ++ [C.getD (1 + i) 0] = snapL C (i + 1) := by simp [snapL, List.range_succ]
theorem snap_one (C : List Int) : [C.getD 1 0] = snapL C 1 := by simp [snapL]
theorem snap_get {C : List Int} {i t : Nat} (h : t < i) : (snapL C i).getD t 0 = C.getD (1 + t) 0 := by simp [snapL, h]
/-- A fork whose first i slots are written. -/
def forkL (C : List Int) (n i : Nat) : List Int := (n : Int) :: (snapL C (min i 64) ++ List.replicate (64 - i) 0)
theorem fork_len (C : List Int) (n i : Nat) : (forkL C n i).length = 65 := by simp [forkL, snap_len]; omega
theorem fork_set {C : List Int} {n i : Nat} (h : i < 64) : (forkL C n i).set (1 + i) (C.getD (1 + i) 0) = forkL C n (i + 1) := by
  unfold forkL
  rw [Nat.add_comm 1 i, List.set_cons_succ]
  congr 1
  rw [Nat.min_eq_left (by omega), Nat.min_eq_left (by omega)]
  rw [List.set_append_right _ _ (by rw [snap_len]; exact Nat.le_refl _), snap_len, Nat.sub_self, show 64 - i = (64 - (i + 1)) + 1 by omega, List.replicate_succ, List.set_cons_zero, Nat.add_comm i 1, ← List.singleton_append, ← List.append_assoc, snap_snoc, Nat.add_comm 1 i]
theorem fork_get0 (C : List Int) (n i : Nat) : (forkL C n i).getD 0 0 = (n : Int) := by simp [forkL]
theorem fork_get {C : List Int} {n j : Nat} (hj : j < n) (h : n ≤ 64) : (forkL C n n).getD (1 + j) 0 = C.getD (1 + j) 0 := by
  unfold forkL
  rw [Nat.min_eq_left h, Nat.add_comm 1 j, List.getD_cons_succ, List.getD_eq_getElem?_getD, List.getElem?_append_left (by rw [snap_len]; exact hj), ← List.getD_eq_getElem?_getD, snap_get hj, Nat.add_comm 1 j]
theorem snap_fork {C : List Int} {n : Nat} (h : n ≤ 64) : snapL (forkL C n n) n = snapL C n := by
  unfold snapL
  apply List.map_congr_left
  intro t ht
  exact fork_get (by simpa using ht) h
/-- Has all that was within gone on? -/
def passF (C : List Int) (me : Int) : Nat → List Int → Bool
  | _, [] => true
  | t, s :: l => if (t : Int) ≠ me ∧ s % 2 = 1 ∧ s = C.getD (1 + t) 0 then false else passF C me (t + 1) l
def passAll (C : List Int) (n : Nat) (me : Int) (S : List Int) : Bool := decide (S.length = n) && passF C me 0 S
theorem drop_cons {S : List Int} {i : Nat} (h : i < S.length) : S.drop i = S.getD i 0 :: S.drop (i + 1) := by
  rw [List.drop_eq_getElem_cons h]
  simp [h]
theorem pass_no {C S : List Int} {me : Int} {i : Nat} (h : i < S.length) (h1 : (i : Int) ≠ me) (h2 : S.getD i 0 % 2 = 1) (h3 : S.getD i 0 = C.getD (1 + i) 0) : passF C me i (S.drop i) = false := by
  rw [drop_cons h, passF, if_pos ⟨h1, h2, h3⟩]
theorem pass_on {C S : List Int} {me : Int} {i : Nat} (h : i < S.length) (h' : (i : Int) = me ∨ ¬ S.getD i 0 % 2 = 1 ∨ ¬ S.getD i 0 = C.getD (1 + i) 0) : passF C me i (S.drop i) = passF C me (i + 1) (S.drop (i + 1)) := by
  rw [drop_cons h, passF, if_neg (by rintro ⟨q1, q2, q3⟩; rcases h' with h' | h' | h'; exact q1 h'; exact h' q2; exact h' q3)]
theorem pass_end {C S : List Int} {me : Int} {i : Nat} (h : S.length ≤ i) : passF C me i (S.drop i) = true := by
  rw [List.drop_eq_nil_of_le h]; rfl
theorem pass_len {C S : List Int} {me : Int} {n : Nat} (h : S.length ≠ n) : passAll C n me S = false := by simp [passAll, h]
theorem pass_all {C S : List Int} {me : Int} {n : Nat} (h : S.length = n) : passAll C n me S = passF C me 0 (S.drop 0) := by simp [passAll, h]
/-- The document's. -/
def rpassF (R : List Int) (me : Int) : Nat → List Int → Bool
  | _, [] => true
  | t, s :: l => if (t : Int) ≠ me ∧ Int.tmod s 2 ≠ 0 ∧ s = R.getD t 0 then false else rpassF R me (t + 1) l
def rpassAll (R : List Int) (me : Int) (S : List Int) : Bool := decide (S.length = R.length) && rpassF R me 0 S
theorem rpass_no {C S : List Int} {me : Int} {i : Nat} (h : i < S.length) (h1 : (i : Int) ≠ me) (h2 : ¬ Int.tmod (S.getD i 0) 2 = 0) (h3 : S.getD i 0 = C.getD i 0) : rpassF C me i (S.drop i) = false := by
  rw [drop_cons h, rpassF, if_pos ⟨h1, h2, h3⟩]
theorem rpass_on {C S : List Int} {me : Int} {i : Nat} (h : i < S.length) (h' : (i : Int) = me ∨ Int.tmod (S.getD i 0) 2 = 0 ∨ ¬ S.getD i 0 = C.getD i 0) : rpassF C me i (S.drop i) = rpassF C me (i + 1) (S.drop (i + 1)) := by
  rw [drop_cons h, rpassF, if_neg (by rintro ⟨q1, q2, q3⟩; rcases h' with h' | h' | h'; exact q1 h'; exact q2 h'; exact h' q3)]
theorem rpass_end {C S : List Int} {me : Int} {i : Nat} (h : S.length ≤ i) : rpassF C me i (S.drop i) = true := by
  rw [List.drop_eq_nil_of_le h]; rfl
theorem rpass_len {C S : List Int} {me : Int} (h : S.length ≠ C.length) : rpassAll C me S = false := by simp [rpassAll, h]
theorem rpass_all {C S : List Int} {me : Int} (h : S.length = C.length) : rpassAll C me S = rpassF C me 0 (S.drop 0) := by simp [rpassAll, h]
theorem pass_rpass {C : List Int} {n : Nat} {me : Int} : ∀ (S : List Int) (t : Nat), t + S.length ≤ n → passF C me t S = rpassF (snapL C n) me t S
  | [], t, _ => rfl
  | s :: l, t, h => by
    have e : (s % 2 = 1) ↔ (Int.tmod s 2 ≠ 0) := by
      have h1 : Int.tmod s 2 = 0 ↔ 2 ∣ s := (Int.dvd_iff_tmod_eq_zero (a := 2) (b := s)).symm
      rw [ne_eq, h1]
      omega
    rw [passF, rpassF, snap_get (i := n) (by simp at h; omega), pass_rpass (n := n) l (t + 1) (by simp at h; omega)]
    simp only [e]
theorem pass_eq {C S : List Int} {n : Nat} {me : Int} : passAll C n me S = rpassAll (snapL C n) me S := by
  unfold passAll rpassAll
  rw [snap_len]
  by_cases h : S.length = n
  · rw [pass_rpass (n := n) S 0 (by omega)]
  · simp [h]
theorem same_len {A B : List Int} {b : Bool} (h : A.length ≠ B.length) (hb : b = true ↔ A = B) : b = false := by
  cases b with
  | false => rfl
  | true => rw [hb.1 rfl] at h; exact absurd rfl h
theorem same_no {A B : List Int} {b : Bool} {i : Nat} (h : i < A.length) (hl : A.length = B.length) (hne : ¬ A.getD i 0 = B.getD i 0) (hb : b = true ↔ A.drop i = B.drop i) : b = false := by
  cases b with
  | false => rfl
  | true =>
    have := hb.1 rfl
    rw [drop_cons h, drop_cons (S := B) (i := i) (by omega)] at this
    injection this with e _
    exact absurd e hne
theorem same_on {A B : List Int} {b : Bool} {i : Nat} (h : i < A.length) (hl : A.length = B.length) (he : A.getD i 0 = B.getD i 0) (hb : b = true ↔ A.drop i = B.drop i) : b = true ↔ A.drop (i + 1) = B.drop (i + 1) := by
  rw [hb, drop_cons h, drop_cons (S := B) (i := i) (by omega), he]
  simp
theorem same_end {A B : List Int} {b : Bool} {i : Nat} (h : A.length ≤ i) (hl : A.length = B.length) (hb : b = true ↔ A.drop i = B.drop i) : b = true := by
  rw [hb, List.drop_eq_nil_of_le h, List.drop_eq_nil_of_le (by omega)]
theorem get_set_ne {L : List Int} {i j : Nat} {v : Int} (h : i ≠ j) : (L.set i v).getD j 0 = L.getD j 0 := by simp [List.getElem?_set_ne h]
theorem get_set_eq {L : List Int} {i : Nat} {v : Int} (h : i < L.length) : (L.set i v).getD i 0 = v := by simp [h]
theorem snap_set {C : List Int} {n t : Nat} {v : Int} (h : t < n) (hl : n < C.length) : snapL (C.set (1 + t) v) n = (snapL C n).set t v := by
  apply List.ext_getElem?
  intro j
  by_cases hj : j < n
  · by_cases hjt : t = j
    · subst hjt
      rw [List.getElem?_set_self (by rw [snap_len]; exact h)]
      simp [snapL, hj, show 1 + t < C.length by omega]
    · rw [List.getElem?_set_ne hjt]
      simp [snapL, hj, List.getElem?_set_ne (show 1 + t ≠ 1 + j by omega)]
  · rw [List.getElem?_eq_none (by rw [snap_len]; omega), List.getElem?_eq_none (by rw [List.length_set, snap_len]; omega)]
end Ev
end Go.Proofs.Ytonffldokhnmoaa
