/- The document's answer, plain: the same. -/
import Derived.Test.YtpgbennpiihajaaKjg
namespace Go.Proofs.Ytpgbennpiihajaa
open Go.RowKit
namespace Ev
set_option linter.unusedVariables false
set_option linter.unusedSimpArgs false

section
variable {L : List R_iiii} {n c N : Nat}
theorem Zr8 {L : List R_iiii} {N : Nat} : ∀ d k {j}, fb L N d k = some j → j < k + d ∧ ¬ okB L N j = true
 | 0, k, j, h => by cases h
 | d + 1, k, j, h => by
  unfold fb at h
  by_cases hk : okB L N k = true
  ·rw [if_pos hk] at h; have := Zr8 d (k + 1) h; exact ⟨by omega, this.2⟩
  ·rw [if_neg hk] at h; cases h; exact ⟨by omega, hk⟩
theorem Zr9 {L : List R_iiii} {N : Nat} : ∀ d k, fb L N d k = none → ∀ j, k ≤ j → j < k + d → okB L N j = true
 | 0, k, h, j, h1, h2 => by omega
 | d + 1, k, h, j, h1, h2 => by
  unfold fb at h
  by_cases hk : okB L N k = true
  ·rw [if_pos hk] at h
   by_cases e : j = k
   ·rw [e]; exact hk
   ·exact Zr9 d (k + 1) h j (by omega) (by omega)
  ·rw [if_neg hk] at h; cases h
def Zov (L : List R_iiii) (n N : Nat) : Int := if n = 0 then 0 else (Zed L n N n 0).1
def Zbj (L : List R_iiii) (n N : Nat) : Int := if n = 0 then 120 else (Zed L n N n 0).2
theorem ZqN (hn : n ≤ L.length) (hL : n ≤ 512) (hN : 520 ≤ N) : ∃ r, Zcq L n c N = some r ∧ rW r = Zov L n N ∧ rE r = Zbj L n N ∧ (Zbj L n N = 0 → rB r = brs L n ++ [⟨-1, 0⟩] ∧ rM r = mtL L n ∧ rD r = blL L n ∧ rd r = dpL L n) := by
 by_cases h : n = 0
 ·subst h
  refine ⟨_, ZtW, rfl, rfl, fun e => ?_⟩
  unfold Zbj at e; rw [if_pos rfl] at e; cases e
 ·obtain ⟨r, h1, h2, h3, h4⟩ := Zt5 (c := c) (show 1 ≤ n by omega) hn hL hN
  refine ⟨r, h1, ?_⟩
  unfold Zov Zbj
  rw [if_neg h, if_neg h]
  exact ⟨h2, h3, h4⟩
theorem Zfh (h : Zbj L n N = 0) : 1 ≤ n ∧ (∀ j, j < n → okB L N j = true) ∧ opn L n = [] ∧ fj L n n 0 = none := by
 unfold Zbj at h
 by_cases h0 : n = 0
 ·rw [if_pos h0] at h; cases h
 ·rw [if_neg h0] at h
  unfold Zed at h
  cases hfb : fb L N n 0 with
  | some j =>
   rw [hfb] at h
   obtain ⟨j1, j2⟩ := Zr8 n 0 hfb
   exact absurd h (Zgx j2)
  | none =>
   rw [hfb] at h
   by_cases e : (opn L n).length = 0
   ·have h : (if (opn L n).length = 0 then (match fj L n n 0 with
     | some j => ((j : Int), (120 : Int))
     | none => (-1, 0)) else ((n : Int), 120)).2 = 0 := h
    rw [if_pos e] at h
    cases hfj : fj L n n 0 with
    | some j => rw [hfj] at h; cases h
    | none => exact ⟨by omega, fun j hj => Zr9 n 0 hfb j (by omega) (by omega), List.length_eq_zero_iff.1 e, rfl⟩
   ·have h : (if (opn L n).length = 0 then (match fj L n n 0 with
     | some j => ((j : Int), (120 : Int))
     | none => (-1, 0)) else ((n : Int), 120)).2 = 0 := h
    rw [if_neg e] at h; cases h
theorem ZmU (hn : n ≤ L.length) (hL : n ≤ 512) (hN : 520 ≤ N) : Zbh L n c N = some (.r0 (Zbj L n N)) := by
 obtain ⟨r, h1, h2, h3, h4⟩ := ZqN (c := c) hn hL hN
 rw [← h3]
 refine Z9 h1 ?_
 cases r <;> rfl
end
end Ev
end Go.Proofs.Ytpgbennpiihajaa
