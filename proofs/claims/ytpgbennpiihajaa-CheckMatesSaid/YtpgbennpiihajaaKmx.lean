/- The ways that are open ahead of a place, and its branch: plain. -/
import Derived.Test.YtpgbennpiihajaaKmw
namespace Go.Proofs.Ytpgbennpiihajaa
open Go.RowKit
namespace Ev
set_option linter.unusedVariables false
set_option linter.unusedSimpArgs false
def ZuM : ZaY → List R_ii
 | .r0 => []
 | .r1 l => l
section
variable {L : List R_iiii} {n c N : Nat} {at_ : Int}
theorem Zvq (k : Nat) (l : List R_ii) (hl : l.length ≤ 8) (hk : k < n) (hn : n ≤ L.length) (hp : (k : Int) < at_) (hL : n ≤ 512) :
  ZcW L n c at_ N l k = some (.inl (.h1m1 (Zf6 l (L.getD k R_iiii.z).a0 k) (k + 1))) := by
 unfold ZcW
 rw [if_pos hp, if_pos (by omega), if_pos (by omega)]
 obtain ⟨r, h1, h2, h3⟩ := Zwa l (L.getD k R_iiii.z).a0 (L.getD k R_iiii.z).a1 (L.getD k R_iiii.z).a2 (L.getD k R_iiii.z).a3 k N hl
 refine Zu h1 ?_
 rw [← h2]
 cases r <;> exact Zj (by omega) rfl
theorem Zvr (k : Nat) (hk : k < n) (hn : n ≤ L.length) (hp : (k : Int) < at_) (hL : n ≤ 512) :
  ZcV L n c at_ N k = some (.inl (if (L.getD k R_iiii.z).a0 = 15 then .h1m1 (Zf6 [] (L.getD k R_iiii.z).a0 k) (k + 1) else .h1m0 (k + 1))) ∧ ((L.getD k R_iiii.z).a0 ≠ 15 → Zf6 [] (L.getD k R_iiii.z).a0 k = []) := by
 constructor
 ·unfold ZcV
  rw [if_pos hp, if_pos (by omega), if_pos (by omega), ZvZ]
  by_cases h : (L.getD k R_iiii.z).a0 = 15
  ·rw [if_pos h, if_pos h, h]; exact Zu rfl (Zj (by omega) rfl)
  ·rw [if_neg h, if_neg h]; exact Zu rfl (Zj (by omega) rfl)
 ·intro h
  unfold Zf6
  rw [if_neg h]
  by_cases h16 : (L.getD k R_iiii.z).a0 = 16
  ·rw [if_pos h16]; rfl
  ·rw [if_neg h16]; by_cases h17 : (L.getD k R_iiii.z).a0 = 17
   ·rw [if_pos h17]; rfl
   ·rw [if_neg h17]
theorem ZtW (m : Nat) (hm : m ≤ n) (hn : n ≤ L.length) (hp : (m : Int) ≤ at_) (he : (m : Int) = at_ ∨ m = n) (hL : n ≤ 512) : ∀ d k f, k + d = m → d < f →
  Zcn (Zdp L n c at_ N) f (.h1m1 (opn L k) k) = some (.r1 (opn L m)) := by
 intro d
 induction d with
 | zero =>
  intro k f hk hf
  obtain ⟨f, rfl⟩ : ∃ j, f = j + 1 := ⟨f - 1, by omega⟩
  obtain rfl : k = m := by omega
  refine Za3 ?_
  show ZcW L n c at_ N (opn L k) k = _
  unfold ZcW
  rcases he with he | he
  ·exact Z1 (by omega) rfl
  ·exact Zeg (fun _ => Z1 (by omega) rfl) (fun _ => rfl)
 | succ d ih =>
  intro k f hk hf
  obtain ⟨f, rfl⟩ : ∃ j, f = j + 1 := ⟨f - 1, by omega⟩
  exact (Zau (Zvq (c := c) k (opn L k) (Zjo L k) (by omega) hn (by omega) hL)).trans (ih (k + 1) f (by omega) (by omega))
theorem ZtX (m : Nat) (hm : m ≤ n) (hn : n ≤ L.length) (hp : (m : Int) ≤ at_) (he : (m : Int) = at_ ∨ m = n) (hL : n ≤ 512) : ∀ d k f, k + d = m → d < f → opn L k = [] →
  ∃ r, Zcn (Zdp L n c at_ N) f (.h1m0 k) = some r ∧ ZuM r = opn L m := by
 intro d
 induction d with
 | zero =>
  intro k f hk hf h0
  obtain ⟨f, rfl⟩ : ∃ j, f = j + 1 := ⟨f - 1, by omega⟩
  obtain rfl : k = m := by omega
  refine ⟨.r0, Za3 ?_, h0.symm⟩
  show ZcV L n c at_ N k = _
  unfold ZcV
  rcases he with he | he
  ·exact Z1 (by omega) rfl
  ·exact Zeg (fun _ => Z1 (by omega) rfl) (fun _ => rfl)
 | succ d ih =>
  intro k f hk hf h0
  obtain ⟨f, rfl⟩ : ∃ j, f = j + 1 := ⟨f - 1, by omega⟩
  obtain ⟨h1, h2⟩ := Zvr (L := L) (c := c) (N := N) (at_ := at_) k (by omega) hn (by omega) hL
  have hs : opn L (k + 1) = Zf6 [] (L.getD k R_iiii.z).a0 k := by show Zf6 (opn L k) _ _ = _; rw [h0]
  by_cases h : (L.getD k R_iiii.z).a0 = 15
  ·rw [if_pos h, ← hs] at h1
   exact ⟨_, (Zau h1).trans (ZtW m hm hn hp he hL d (k + 1) f (by omega) (by omega)), rfl⟩
  ·rw [if_neg h] at h1
   obtain ⟨r, q1, q2⟩ := ih (k + 1) f (by omega) (by omega) (by rw [hs]; exact h2 h)
   exact ⟨r, (Zau h1).trans q1, q2⟩
theorem Zqj (m : Nat) (hm : m ≤ n) (hn : n ≤ L.length) (hp : (m : Int) ≤ at_) (he : (m : Int) = at_ ∨ m = n) (hL : n ≤ 512) (hN : 520 ≤ N) : ∃ r, ZdI L n c at_ N = some r ∧ ZuM r = opn L m :=
 ZtX m hm hn hp he hL m 0 N (by omega) (by omega) rfl
theorem Zk2 (m : Nat) (hm : m ≤ n) (hn : n ≤ L.length) (hp : (m : Int) ≤ at_) (he : (m : Int) = at_ ∨ m = n) (hL : n ≤ 512) (hN : 520 ≤ N) : Zcp L n c at_ N = some (.r0 (brP (opn L m)).a0 (brP (opn L m)).a1) := by
 obtain ⟨r, h1, h2⟩ := Zqj (c := c) (N := N) m hm hn hp he hL hN
 refine Zu h1 ?_
 have hl := Zjo L m
 cases r with
 | r0 =>
  have h2 : opn L m = [] := h2.symm
  rw [h2]; rfl
 | r1 l =>
  have h2 : l = opn L m := h2
  subst h2
  unfold brP Zbn
  by_cases h : (opn L m).length = 0
  ·rw [if_pos h]; exact Zj (by omega) rfl
  ·rw [if_neg h]; exact Z1 (by omega) (Zj (by omega) rfl)
end
end Ev
end Go.Proofs.Ytpgbennpiihajaa
