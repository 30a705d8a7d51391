/- Which instructions may be: the program's and the document's answers are the same. -/
import Derived.Test.YtjfmadhcbgdakaaPbr
import Derived.Test.YtjfmadhcbgdakaaPu
namespace Go.Proofs.Ytjfmadhcbgdakaa
open Go.RowKit
namespace Ev
set_option linter.unusedVariables false
set_option linter.unusedSimpArgs false
theorem ZcL (n a c : Int) (N M : Nat) : ∃ b, Zz 1 n a N = some (.r0 b) ∧ Zax 1 n c M = some (.r0 b) := by
 refine ⟨decide (0 ≤ n ∧ n ≤ 7), ?_, ?_⟩
 ·unfold Zz; rw [if_pos rfl]; by_cases h1 : (0 : Int) ≤ n <;> by_cases h2 : n ≤ 7 <;> simp [h1, h2]
 ·unfold Zax; rw [if_pos rfl]; by_cases h1 : (0 : Int) ≤ n <;> by_cases h2 : n ≤ 7 <;> simp [h1, h2, show n < 8 ↔ n ≤ 7 by omega]
theorem Zvu (n a c : Int) (N M : Nat) : ∃ b, Zz 2 n a N = some (.r0 b) ∧ Zax 4 n c M = some (.r0 b) := by
 refine ⟨decide (0 ≤ n ∧ n ≤ 15), ?_, ?_⟩
 ·unfold Zz; rw [if_neg (by decide), if_pos rfl]; by_cases h1 : (0 : Int) ≤ n <;> by_cases h2 : n ≤ 15 <;> simp [h1, h2]
 ·unfold Zax; rw [if_neg (by decide), if_neg (by decide), if_neg (by decide), if_pos rfl]; by_cases h1 : (0 : Int) ≤ n <;> by_cases h2 : n ≤ 15 <;> simp [h1, h2, show n < 16 ↔ n ≤ 15 by omega]
theorem fit_c (n a c : Int) (N M : Nat) : ∃ b, Zz 3 n a N = some (.r0 b) ∧ Zax 5 n c M = some (.r0 b) ∧ (b = true → 1 ≤ n ∧ n ≤ 16) := by
 refine ⟨decide (1 ≤ n ∧ n ≤ 16), ?_, ?_, fun h => by simpa using h⟩
 ·unfold Zz; rw [if_neg (by decide), if_neg (by decide), if_pos rfl]; by_cases h1 : (1 : Int) ≤ n <;> by_cases h2 : n ≤ 16 <;> simp [h1, h2]
 ·unfold Zax; rw [if_neg (by decide), if_neg (by decide), if_neg (by decide), if_neg (by decide), if_pos rfl]; by_cases h1 : (1 : Int) ≤ n <;> by_cases h2 : n ≤ 16 <;> simp [h1, h2]
theorem Zvv (n a c : Int) (N M : Nat) : ∃ b, Zz 4 n a N = some (.r0 b) ∧ Zax 3 n c M = some (.r0 b) ∧ (b = true → 0 ≤ n ∧ n ≤ 512) := by
 refine ⟨decide (0 ≤ n ∧ n ≤ 512), ?_, ?_, fun h => by simpa using h⟩
 ·unfold Zz; rw [if_neg (by decide), if_neg (by decide), if_neg (by decide), if_pos rfl]; by_cases h1 : (0 : Int) ≤ n <;> by_cases h2 : n ≤ 512 <;> simp [h1, h2]
 ·unfold Zax; rw [if_neg (by decide), if_neg (by decide), if_pos rfl]; by_cases h1 : (0 : Int) ≤ n <;> by_cases h2 : n ≤ 512 <;> simp [h1, h2]
theorem ZqH {a : Int} (h1 : 1 ≤ a) (h2 : a ≤ 16) : ∃ k : Nat, (1 : Int) * (2 ^ a.toNat : Int) = (k : Int) ∧ 2 ≤ k ∧ k ≤ 65536 := by
 have h : a.toNat = 1 ∨ a.toNat = 2 ∨ a.toNat = 3 ∨ a.toNat = 4 ∨ a.toNat = 5 ∨ a.toNat = 6 ∨ a.toNat = 7 ∨ a.toNat = 8 ∨ a.toNat = 9 ∨ a.toNat = 10 ∨ a.toNat = 11 ∨ a.toNat = 12 ∨ a.toNat = 13 ∨ a.toNat = 14 ∨ a.toNat = 15 ∨ a.toNat = 16 := by omega
 rcases h with h | h | h | h | h | h | h | h | h | h | h | h | h | h | h | h <;> rw [h]
 ·exact ⟨2, by decide, by decide, by decide⟩
 ·exact ⟨4, by decide, by decide, by decide⟩
 ·exact ⟨8, by decide, by decide, by decide⟩
 ·exact ⟨16, by decide, by decide, by decide⟩
 ·exact ⟨32, by decide, by decide, by decide⟩
 ·exact ⟨64, by decide, by decide, by decide⟩
 ·exact ⟨128, by decide, by decide, by decide⟩
 ·exact ⟨256, by decide, by decide, by decide⟩
 ·exact ⟨512, by decide, by decide, by decide⟩
 ·exact ⟨1024, by decide, by decide, by decide⟩
 ·exact ⟨2048, by decide, by decide, by decide⟩
 ·exact ⟨4096, by decide, by decide, by decide⟩
 ·exact ⟨8192, by decide, by decide, by decide⟩
 ·exact ⟨16384, by decide, by decide, by decide⟩
 ·exact ⟨32768, by decide, by decide, by decide⟩
 ·exact ⟨65536, by decide, by decide, by decide⟩
theorem fit_e (n a : Int) (N M : Nat) (h1 : 1 ≤ a) (h2 : a ≤ 16) : ∃ b, Zz 5 n a N = some (.r0 b) ∧ Zax 6 n a M = some (.r0 b) := by
 obtain ⟨k, hk, k1, k2⟩ := ZqH h1 h2
 have w1 : IntKind.i64.wrap ((1 : Int) * (2 ^ a.toNat : Int)) = (k : Int) := by rw [hk]; exact w64 (by omega) (by omega)
 refine ⟨decide (0 ≤ n ∧ n < (k : Int)), ?_, ?_⟩
 ·unfold Zz
  rw [if_neg (by decide), if_neg (by decide), if_neg (by decide), if_neg (by decide), if_pos rfl, if_pos (by omega), if_pos (by omega), w1, w64 (by omega) (by omega)]
  by_cases h1 : (0 : Int) ≤ n <;> by_cases h2 : n < (k : Int) <;> simp [h1, h2, show n ≤ (k : Int) - 1 ↔ n < (k : Int) by omega]
 ·unfold Zax
  rw [if_neg (by decide), if_neg (by decide), if_neg (by decide), if_neg (by decide), if_neg (by decide), if_pos rfl, if_pos h1, if_pos h2, w1]
  by_cases h1 : (0 : Int) ≤ n <;> by_cases h2 : n < (k : Int) <;> simp [h1, h2]
theorem fit_f (n a c : Int) (N M : Nat) : ∃ b, Zz 6 n a N = some (.r0 b) ∧ Zax 2 n c M = some (.r0 b) := by
 refine ⟨decide (-1099511627776 ≤ n ∧ n ≤ 1099511627776), ?_, ?_⟩
 ·unfold Zz; rw [if_neg (by decide), if_neg (by decide), if_neg (by decide), if_neg (by decide), if_neg (by decide), if_pos rfl]; by_cases h1 : (-1099511627776 : Int) ≤ n <;> by_cases h2 : n ≤ 1099511627776 <;> simp [h1, h2]
 ·unfold Zax; rw [if_neg (by decide), if_pos rfl]; by_cases h1 : (-1099511627776 : Int) ≤ n <;> by_cases h2 : n ≤ 1099511627776 <;> simp [h1, h2]
theorem Zcg (n a c : Int) (N M : Nat) : ∃ b, Zz 0 n a N = some (.r0 b) ∧ Zax 0 n c M = some (.r0 b) ∧ (b = true → n = 0) ∧ (n = 0 → b = true) := by
 refine ⟨decide (n = 0), ?_, ?_, fun h => by simpa using h, fun h => by simpa using h⟩
 ·unfold Zz; rw [if_neg (by decide), if_neg (by decide), if_neg (by decide), if_neg (by decide), if_neg (by decide), if_neg (by decide)]
  by_cases h1 : (0 : Int) ≤ n <;> by_cases h2 : n ≤ 0 <;> simp [h1, h2] <;> omega
 ·unfold Zax; rw [if_neg (by decide), if_neg (by decide), if_neg (by decide), if_neg (by decide), if_neg (by decide), if_neg (by decide)]
  by_cases h : n = 0 <;> simp [h]
end Ev
end Go.Proofs.Ytjfmadhcbgdakaa
