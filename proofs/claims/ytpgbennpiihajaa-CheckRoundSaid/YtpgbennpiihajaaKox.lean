/- The ways that are open ahead of a place, and its branch: plain. -/
import Derived.Test.YtpgbennpiihajaaKow
namespace Go.Proofs.Ytpgbennpiihajaa
open Go.RowKit
namespace Ev
set_option linter.unusedVariables false
set_option linter.unusedSimpArgs false
def openL : ref12_opensR → List R_ii
  | .r0 => []
  | .r1 l => l
section
variable {L : List R_iiii} {n c N : Nat} {at_ : Int}
theorem opens_one (k : Nat) (l : List R_ii) (hl : l.length ≤ 8) (hk : k < n) (hn : n ≤ L.length) (hp : (k : Int) < at_) (hL : n ≤ 512) :
    ref12_opens_h1m1 L n c at_ N l k = some (.inl (.h1m1 (stepL l (L.getD k R_iiii.z).a0 k) (k + 1))) := by
  unfold ref12_opens_h1m1
  rw [if_pos hp, if_pos (by omega), if_pos (by omega)]
  obtain ⟨r, h1, h2, h3⟩ := step2 l (L.getD k R_iiii.z).a0 (L.getD k R_iiii.z).a1 (L.getD k R_iiii.z).a2 (L.getD k R_iiii.z).a3 k N hl
  refine bind_to h1 ?_
  rw [← h2]
  cases r <;> exact ite_yes (by omega) rfl
theorem opens_nil (k : Nat) (hk : k < n) (hn : n ≤ L.length) (hp : (k : Int) < at_) (hL : n ≤ 512) :
    ref12_opens_h1m0 L n c at_ N k = some (.inl (if (L.getD k R_iiii.z).a0 = 15 then .h1m1 (stepL [] (L.getD k R_iiii.z).a0 k) (k + 1) else .h1m0 (k + 1))) ∧ ((L.getD k R_iiii.z).a0 ≠ 15 → stepL [] (L.getD k R_iiii.z).a0 k = []) := by
  constructor
  · unfold ref12_opens_h1m0
    rw [if_pos hp, if_pos (by omega), if_pos (by omega), step0]
    by_cases h : (L.getD k R_iiii.z).a0 = 15
    · rw [if_pos h, if_pos h, h]; exact bind_to rfl (ite_yes (by omega) rfl)
    · rw [if_neg h, if_neg h]; exact bind_to rfl (ite_yes (by omega) rfl)
  · intro h
    unfold stepL
    rw [if_neg h]
    by_cases h16 : (L.getD k R_iiii.z).a0 = 16
    · rw [if_pos h16]; rfl
    · rw [if_neg h16]; by_cases h17 : (L.getD k R_iiii.z).a0 = 17
      · rw [if_pos h17]; rfl
      · rw [if_neg h17]
/-- From a state on. -/
theorem opens_from1 (m : Nat) (hm : m ≤ n) (hn : n ≤ L.length) (hp : (m : Int) ≤ at_) (he : (m : Int) = at_ ∨ m = n) (hL : n ≤ 512) : ∀ d k f, k + d = m → d < f →
    iter (ref12_opensStep L n c at_ N) f (.h1m1 (opn L k) k) = some (.r1 (opn L m)) := by
  intro d
  induction d with
  | zero =>
    intro k f hk hf
    obtain ⟨f, rfl⟩ : ∃ j, f = j + 1 := ⟨f - 1, by omega⟩
    obtain rfl : k = m := by omega
    refine iter_done ?_
    show ref12_opens_h1m1 L n c at_ N (opn L k) k = _
    unfold ref12_opens_h1m1
    rcases he with he | he
    · exact ite_no (by omega) rfl
    · exact ite_eq (fun _ => ite_no (by omega) rfl) (fun _ => rfl)
  | succ d ih =>
    intro k f hk hf
    obtain ⟨f, rfl⟩ : ∃ j, f = j + 1 := ⟨f - 1, by omega⟩
    exact (iter_next (opens_one (c := c) k (opn L k) (opn_len L k) (by omega) hn (by omega) hL)).trans (ih (k + 1) f (by omega) (by omega))
theorem opens_from0 (m : Nat) (hm : m ≤ n) (hn : n ≤ L.length) (hp : (m : Int) ≤ at_) (he : (m : Int) = at_ ∨ m = n) (hL : n ≤ 512) : ∀ d k f, k + d = m → d < f → opn L k = [] →
    ∃ r, iter (ref12_opensStep L n c at_ N) f (.h1m0 k) = some r ∧ openL r = opn L m := by
  intro d
  induction d with
  | zero =>
    intro k f hk hf h0
    obtain ⟨f, rfl⟩ : ∃ j, f = j + 1 := ⟨f - 1, by omega⟩
    obtain rfl : k = m := by omega
    refine ⟨.r0, iter_done ?_, h0.symm⟩
    show ref12_opens_h1m0 L n c at_ N k = _
    unfold ref12_opens_h1m0
    rcases he with he | he
    · exact ite_no (by omega) rfl
    · exact ite_eq (fun _ => ite_no (by omega) rfl) (fun _ => rfl)
  | succ d ih =>
    intro k f hk hf h0
    obtain ⟨f, rfl⟩ : ∃ j, f = j + 1 := ⟨f - 1, by omega⟩
    obtain ⟨h1, h2⟩ := opens_nil (L := L) (c := c) (N := N) (at_ := at_) k (by omega) hn (by omega) hL
    have hs : opn L (k + 1) = stepL [] (L.getD k R_iiii.z).a0 k := by show stepL (opn L k) _ _ = _; rw [h0]
    by_cases h : (L.getD k R_iiii.z).a0 = 15
    · rw [if_pos h, ← hs] at h1
      exact ⟨_, (iter_next h1).trans (opens_from1 m hm hn hp he hL d (k + 1) f (by omega) (by omega)), rfl⟩
    · rw [if_neg h] at h1
      obtain ⟨r, q1, q2⟩ := ih (k + 1) f (by omega) (by omega) (by rw [hs]; exact h2 h)
      exact ⟨r, (iter_next h1).trans q1, q2⟩
theorem opens_is (m : Nat) (hm : m ≤ n) (hn : n ≤ L.length) (hp : (m : Int) ≤ at_) (he : (m : Int) = at_ ∨ m = n) (hL : n ≤ 512) (hN : 520 ≤ N) : ∃ r, ref12_opens L n c at_ N = some r ∧ openL r = opn L m :=
  opens_from0 m hm hn hp he hL m 0 N (by omega) (by omega) rfl
theorem branch_is (m : Nat) (hm : m ≤ n) (hn : n ≤ L.length) (hp : (m : Int) ≤ at_) (he : (m : Int) = at_ ∨ m = n) (hL : n ≤ 512) (hN : 520 ≤ N) : ref12_branch L n c at_ N = some (.r0 (brP (opn L m)).a0 (brP (opn L m)).a1) := by
  obtain ⟨r, h1, h2⟩ := opens_is (c := c) (N := N) m hm hn hp he hL hN
  refine bind_to h1 ?_
  have hl := opn_len L m
  cases r with
  | r0 =>
    have h2 : opn L m = [] := h2.symm
    rw [h2]; rfl
  | r1 l =>
    have h2 : l = opn L m := h2
    subst h2
    unfold brP lastP
    by_cases h : (opn L m).length = 0
    · rw [if_pos h]; exact ite_yes (by omega) rfl
    · rw [if_neg h]; exact ite_no (by omega) (ite_yes (by omega) rfl)
end
end Ev
end Go.Proofs.Ytpgbennpiihajaa
