/- CheckStays: what the plain functions come to. -/
import Derived.Test.YtpgbennpiihajaaKsh
namespace Go.Proofs.Ytpgbennpiihajaa
open Go.RowKit
namespace Ev
set_option linter.unusedVariables false
set_option linter.unusedSimpArgs false

theorem fj_none {L : List R_iiii} {n : Nat} : ∀ d k, fj L n d k = none → ∀ j, k ≤ j → j < k + d → ¬ badJ L n j = true
  | 0, k, h, j, h1, h2 => by omega
  | d + 1, k, h, j, h1, h2 => by
    unfold fj at h
    by_cases hk : badJ L n k = true
    · rw [if_pos hk] at h; cases h
    · rw [if_neg hk] at h
      by_cases e : j = k
      · rw [e]; exact hk
      · exact fj_none d (k + 1) h j (by omega) (by omega)
theorem opn_same {L : List R_iiii} {k : Nat} (h15 : ¬ (L.getD k R_iiii.z).a0 = 15) (h16 : ¬ (L.getD k R_iiii.z).a0 = 16) (h17 : ¬ (L.getD k R_iiii.z).a0 = 17) : opn L (k + 1) = opn L k := by
  rw [opn, stepL, if_neg h15, if_neg h16, if_neg h17]
theorem jump_ok {L : List R_iiii} {n N k : Nat} (hN : 4 ≤ N) (hc : checkP L n N = 0) (hk : k < n) (h1 : decide ((L.getD k R_iiii.z).a0 = 8 ∨ (L.getD k R_iiii.z).a0 = 9) = true) : 0 ≤ tgt (L.getD k R_iiii.z) ∧ tgt (L.getD k R_iiii.z) ≤ n ∧ (brP (opn L (tgt (L.getD k R_iiii.z)).toNat)).a0 = (brP (opn L k)).a0 ∧ (brP (opn L (tgt (L.getD k R_iiii.z)).toNat)).a1 = (brP (opn L k)).a1 := by
  obtain ⟨f1, f2, f3, f4⟩ := fit_is hc
  have hb := fj_none n 0 f4 k (by omega) (by omega)
  rw [badJ_is, h1, Bool.true_and] at hb
  unfold jb at hb
  simp only [Bool.or_eq_true, decide_eq_true_eq, Bool.not_eq_true', decide_eq_false_iff_not, not_or, Decidable.not_not] at hb
  obtain ⟨j1, j2⟩ := jf_of hN f2 k hk
  exact ⟨j1, by omega, hb.2⟩

theorem branch_P {L : List R_iiii} {n c N : Nat} (hn : n ≤ L.length) (hL : n ≤ 512) (hN : 520 ≤ N) (hc : checkP L n N = 0) {at_ : Int} (h0 : 0 ≤ at_) (h9 : at_ ≤ n) : check_Branch L n c at_ N = some (.r0 (brP (opn L at_.toNat)).a0 (brP (opn L at_.toNat)).a1) := by
  obtain ⟨r, h1, h2, h3, h4⟩ := look_all (c := c) hn hL hN
  obtain ⟨e1, -⟩ := h4 hc
  obtain ⟨f1, f2, f3, f4⟩ := fit_is hc
  obtain ⟨g1, g2⟩ := brs_end f2 (by rw [f3]; rfl)
  rw [hc] at h3
  refine bind_to h1 ?_
  cases r with
  | r0 e => exact absurd (congrArg List.length e1) (by rw [g1]; show ¬ 0 = _; omega)
  | r1 w e => exact absurd (congrArg List.length e1) (by rw [g1]; show ¬ 0 = _; omega)
  | r2 s b m d dd w e =>
    have h3 : e = 0 := h3
    have e1 : b = _ := e1
    subst e1
    exact ite_no (fun h => h h3) (ite_no (by omega) (ite_no (by omega) (ite_yes (by rw [g1]; omega) (by rw [g2 _ (by omega)]))))
  | r3 b m w e =>
    have h3 : e = 0 := h3
    have e1 : b = _ := e1
    subst e1
    exact ite_no (fun h => h h3) (ite_no (by omega) (ite_no (by omega) (ite_yes (by rw [g1]; omega) (by rw [g2 _ (by omega)]))))

namespace Ks
section
variable {L : List R_iiii} {n0 c0 n c N : Nat}
theorem go (hn : n ≤ L.length) (hL : n ≤ 512) (hN : 520 ≤ N) (hc : checkP L n N = 0) : ∀ d k f, k + d = n → d < f → iter (law12_CheckStaysStep L n0 c0 N) f (.h1m0 n c k) = some (.r0 true) := by
  intro d
  induction d with
  | zero =>
    intro k f hk hf
    obtain ⟨f, rfl⟩ : ∃ j, f = j + 1 := ⟨f - 1, by omega⟩
    refine iter_done ?_
    show law12_CheckStays_h1m0 L n0 c0 N n c k = _
    unfold law12_CheckStays_h1m0
    exact ite_no (by omega) rfl
  | succ d ih =>
    intro k f hk hf
    obtain ⟨f, rfl⟩ : ∃ j, f = j + 1 := ⟨f - 1, by omega⟩
    refine (iter_next (y := .h1m0 n c (k + 1)) ?_).trans (ih (k + 1) f (by omega) (by omega))
    show law12_CheckStays_h1m0 L n0 c0 N n c k = _
    unfold law12_CheckStays_h1m0
    have bk := branch_P (c := c) hn hL hN hc (at_ := (k : Int)) (by omega) (by omega)
    have bn := branch_P (c := c) hn hL hN hc (at_ := ((k + 1 : Nat) : Int)) (by omega) (by omega)
    rw [Int.toNat_natCast] at bk bn
    refine ite_yes (by omega) (bind_to bk (ite_yes (by omega) (bind_to (rtarget_is _ _) (ite_eq (fun h1 => ite_yes (by omega) ?_) (fun h1 => ?_)))))
    · refine ite_eq (fun _ => rfl) (fun h15 => ite_eq (fun _ => rfl) (fun h16 => ite_eq (fun _ => rfl) (fun h17 => ?_)))
      rw [opn_same h15 h16 h17] at bn
      exact bind_to bn (ite_no (fun h => h rfl) (ite_no (fun h => h rfl) rfl))
    · obtain ⟨j1, j2, j3, j4⟩ := jump_ok (show 4 ≤ N by omega) hc (show k < n by omega) (Decidable.not_not.1 h1)
      have bt := branch_P (c := c) hn hL hN hc j1 j2
      rw [j3, j4] at bt
      refine ite_eq (fun _ => ite_yes (by omega) rfl) (fun h15 => ite_eq (fun _ => ite_yes (by omega) rfl) (fun h16 => ite_eq (fun _ => ite_yes (by omega) rfl) (fun h17 => ?_)))
      exact bind_to bt (ite_no (fun h => h rfl) (ite_no (fun h => h rfl) (ite_yes (by omega) rfl)))
end
theorem runs (L : List R_iiii) (n c : Nat) (hn : n ≤ L.length) (hc : n ≤ c) : law12_CheckStays L n c 100000 = some (.r0 true) := by
  have all : ∀ n' c' : Nat, n' ≤ L.length → n' ≤ 60 → ((check_Check L n' c' 100000).bind fun r => match r with
      | .r0 y2_0 => if ¬ (y2_0 = (0 : Int)) then (some (Sum.inr (.r0 (true) : law12_CheckStaysR)) : Option (law12_CheckStaysX ⊕ law12_CheckStaysR)) else some (Sum.inl (.h1m0 n' c' 0 : law12_CheckStaysX))) = some (if checkP L n' 100000 = 0 then Sum.inl (.h1m0 n' c' 0) else Sum.inr (.r0 true)) := by
    intro n' c' h1 h2
    refine bind_to (check_P h1 (by omega) (by decide)) ?_
    by_cases h : checkP L n' 100000 = 0
    · rw [if_pos h]; exact ite_no (fun e => e h) rfl
    · rw [if_neg h]; exact ite_yes h rfl
  have fin : ∀ n' c' : Nat, n' ≤ L.length → n' ≤ 60 → goM (law12_CheckStaysStep L n c 100000) 100000 (some (if checkP L n' 100000 = 0 then Sum.inl (.h1m0 n' c' 0) else Sum.inr (.r0 true))) = some (.r0 true) := by
    intro n' c' h1 h2
    by_cases h : checkP L n' 100000 = 0
    · rw [if_pos h]; exact (goM_in rfl).trans (go h1 (by omega) (by decide) h n' 0 100000 (by omega) (by omega))
    · rw [if_neg h]; exact goM_out rfl
  unfold law12_CheckStays
  by_cases h : (60 : Int) < (n : Int)
  · have : law12_CheckStaysIn L n c 100000 = _ := ite_yes h (ite_yes (by omega) (all (60 - 0) (c - 0) (by omega) (by omega)))
    rw [this]
    exact fin _ _ (by omega) (by omega)
  · have : law12_CheckStaysIn L n c 100000 = _ := ite_no h (all n c (by omega) (by omega))
    rw [this]
    exact fin _ _ (by omega) (by omega)
theorem runs2 : law12_CheckStays_2 100000 = some .r0 := rfl
end Ks
end Ev
end Go.Proofs.Ytpgbennpiihajaa
