/- Numbers and their bytes. -/
import Derived.Test.YtaahblgahilohaaBits
namespace Go.Proofs.Ytaahblgahilohaa
open Go.RowKit
namespace Ev
set_option linter.unusedVariables false
set_option linter.unusedSimpArgs false
/-- So many bytes of a number, the highest first. -/
def bytesI : Nat → Int → List Int
  | 0, _ => []
  | k + 1, u => IntKind.u8.wrap (IntKind.u64.wrap u / (2 ^ (8 * k) : Int)) :: bytesI k u
theorem bytesI_len : ∀ (k : Nat) (u : Int), (bytesI k u).length = k
  | 0, _ => rfl
  | k + 1, u => by rw [bytesI, List.length_cons, bytesI_len k u]
/-- The number of bytes. -/
def gV (M : List Int) : Int := M.foldl (fun v x => 256 * v + x) 0
theorem i64_def (x : Int) : (x % 18446744073709551616 < 9223372036854775808 ∧ IntKind.i64.wrap x = x % 18446744073709551616) ∨ (9223372036854775808 ≤ x % 18446744073709551616 ∧ IntKind.i64.wrap x = x % 18446744073709551616 - 18446744073709551616) := by
  by_cases h : x % 18446744073709551616 < 9223372036854775808
  · refine .inl ⟨h, ?_⟩
    have h' : ¬ (x % 18446744073709551616 ≥ 9223372036854775808) := by omega
    simp [IntKind.wrap, IntKind.bits, IntKind.signed, h']
    try omega
  · refine .inr ⟨by omega, ?_⟩
    have h' : x % 18446744073709551616 ≥ 9223372036854775808 := by omega
    simp [IntKind.wrap, IntKind.bits, IntKind.signed, h']
    try omega
theorem uw (x : Int) : IntKind.u64.wrap (IntKind.i64.wrap x) = x % 18446744073709551616 := by
  rw [u64_mod]
  rcases i64_def x with ⟨_, h⟩ | ⟨_, h⟩ <;> rw [h] <;> omega
theorem iu {x : Int} (h1 : -9223372036854775808 ≤ x) (h2 : x ≤ 9223372036854775807) : IntKind.i64.wrap (x % 18446744073709551616) = x := by
  rcases i64_def (x % 18446744073709551616) with ⟨_, h⟩ | ⟨_, h⟩ <;> rw [h] <;> omega
/-- What a number of so many bytes is. -/
def Rng (w : Nat) (A : Int) : Prop := (w = 0 → A = 0) ∧ (w = 1 → 0 ≤ A ∧ A ≤ 255) ∧ (w = 2 → 0 ≤ A ∧ A ≤ 65535) ∧ (w = 3 → 0 ≤ A ∧ A ≤ 16777215) ∧ (w = 8 → -1099511627776 ≤ A ∧ A ≤ 1099511627776)
def Wd (w : Nat) : Prop := w = 0 ∨ w = 1 ∨ w = 2 ∨ w = 3 ∨ w = 8
theorem vb1 (x0 : Int) (h0 : 0 ≤ x0 ∧ x0 ≤ 255) : bytesI 1 (IntKind.i64.wrap (gV [x0])) = [x0] := by
  simp only [gV, List.foldl_cons, List.foldl_nil, bytesI, uw, u8_mod, show (2 ^ (8 * 0) : Int) = 1 from rfl, List.cons.injEq, and_true]
  omega
theorem gb1 (A : Int) : gV (bytesI 1 A) = A % 256 := by
  simp only [gV, List.foldl_cons, List.foldl_nil, bytesI, u64_mod, u8_mod, show (2 ^ (8 * 0) : Int) = 1 from rfl]
  omega
theorem vb2 (x0 x1 : Int) (h0 : 0 ≤ x0 ∧ x0 ≤ 255) (h1 : 0 ≤ x1 ∧ x1 ≤ 255) : bytesI 2 (IntKind.i64.wrap (gV [x0, x1])) = [x0, x1] := by
  simp only [gV, List.foldl_cons, List.foldl_nil, bytesI, uw, u8_mod, show (2 ^ (8 * 0) : Int) = 1 from rfl, show (2 ^ (8 * 1) : Int) = 256 from rfl, List.cons.injEq, and_true]
  refine ⟨?_, ?_⟩ <;> omega
theorem gb2 (A : Int) : gV (bytesI 2 A) = A % 65536 := by
  simp only [gV, List.foldl_cons, List.foldl_nil, bytesI, u64_mod, u8_mod, show (2 ^ (8 * 0) : Int) = 1 from rfl, show (2 ^ (8 * 1) : Int) = 256 from rfl]
  omega
theorem vb3 (x0 x1 x2 : Int) (h0 : 0 ≤ x0 ∧ x0 ≤ 255) (h1 : 0 ≤ x1 ∧ x1 ≤ 255) (h2 : 0 ≤ x2 ∧ x2 ≤ 255) : bytesI 3 (IntKind.i64.wrap (gV [x0, x1, x2])) = [x0, x1, x2] := by
  simp only [gV, List.foldl_cons, List.foldl_nil, bytesI, uw, u8_mod, show (2 ^ (8 * 0) : Int) = 1 from rfl, show (2 ^ (8 * 1) : Int) = 256 from rfl, show (2 ^ (8 * 2) : Int) = 65536 from rfl, List.cons.injEq, and_true]
  refine ⟨?_, ?_, ?_⟩ <;> omega
theorem gb3 (A : Int) : gV (bytesI 3 A) = A % 16777216 := by
  simp only [gV, List.foldl_cons, List.foldl_nil, bytesI, u64_mod, u8_mod, show (2 ^ (8 * 0) : Int) = 1 from rfl, show (2 ^ (8 * 1) : Int) = 256 from rfl, show (2 ^ (8 * 2) : Int) = 65536 from rfl]
  omega
theorem vb8 (x0 x1 x2 x3 x4 x5 x6 x7 : Int) (h0 : 0 ≤ x0 ∧ x0 ≤ 255) (h1 : 0 ≤ x1 ∧ x1 ≤ 255) (h2 : 0 ≤ x2 ∧ x2 ≤ 255) (h3 : 0 ≤ x3 ∧ x3 ≤ 255) (h4 : 0 ≤ x4 ∧ x4 ≤ 255) (h5 : 0 ≤ x5 ∧ x5 ≤ 255) (h6 : 0 ≤ x6 ∧ x6 ≤ 255) (h7 : 0 ≤ x7 ∧ x7 ≤ 255) : bytesI 8 (IntKind.i64.wrap (gV [x0, x1, x2, x3, x4, x5, x6, x7])) = [x0, x1, x2, x3, x4, x5, x6, x7] := by
  simp only [gV, List.foldl_cons, List.foldl_nil, bytesI, uw, u8_mod, show (2 ^ (8 * 0) : Int) = 1 from rfl, show (2 ^ (8 * 1) : Int) = 256 from rfl, show (2 ^ (8 * 2) : Int) = 65536 from rfl, show (2 ^ (8 * 3) : Int) = 16777216 from rfl, show (2 ^ (8 * 4) : Int) = 4294967296 from rfl, show (2 ^ (8 * 5) : Int) = 1099511627776 from rfl, show (2 ^ (8 * 6) : Int) = 281474976710656 from rfl, show (2 ^ (8 * 7) : Int) = 72057594037927936 from rfl, List.cons.injEq, and_true]
  refine ⟨?_, ?_, ?_, ?_, ?_, ?_, ?_, ?_⟩ <;> omega
theorem gb8 (A : Int) : gV (bytesI 8 A) = A % 18446744073709551616 := by
  simp only [gV, List.foldl_cons, List.foldl_nil, bytesI, u64_mod, u8_mod, show (2 ^ (8 * 0) : Int) = 1 from rfl, show (2 ^ (8 * 1) : Int) = 256 from rfl, show (2 ^ (8 * 2) : Int) = 65536 from rfl, show (2 ^ (8 * 3) : Int) = 16777216 from rfl, show (2 ^ (8 * 4) : Int) = 4294967296 from rfl, show (2 ^ (8 * 5) : Int) = 1099511627776 from rfl, show (2 ^ (8 * 6) : Int) = 281474976710656 from rfl, show (2 ^ (8 * 7) : Int) = 72057594037927936 from rfl]
  omega
theorem vb {w : Nat} (hw : Wd w) {M : List Int} (hl : M.length = w) (hb : ∀ x ∈ M, 0 ≤ x ∧ x ≤ 255) : bytesI w (IntKind.i64.wrap (gV M)) = M := by
  rcases hw with rfl | rfl | rfl | rfl | rfl
  · match M, hl with
    | [], _ => rfl
  · match M, hl with
    | [x0], _ => exact vb1 x0 (hb x0 (by simp))
  · match M, hl with
    | [x0, x1], _ => exact vb2 x0 x1 (hb x0 (by simp)) (hb x1 (by simp))
  · match M, hl with
    | [x0, x1, x2], _ => exact vb3 x0 x1 x2 (hb x0 (by simp)) (hb x1 (by simp)) (hb x2 (by simp))
  · match M, hl with
    | [x0, x1, x2, x3, x4, x5, x6, x7], _ => exact vb8 x0 x1 x2 x3 x4 x5 x6 x7 (hb x0 (by simp)) (hb x1 (by simp)) (hb x2 (by simp)) (hb x3 (by simp)) (hb x4 (by simp)) (hb x5 (by simp)) (hb x6 (by simp)) (hb x7 (by simp))
theorem bv {w : Nat} (hw : Wd w) {A : Int} (h : Rng w A) : IntKind.i64.wrap (gV (bytesI w A)) = A := by
  obtain ⟨h0, h1, h2, h3, h8⟩ := h
  rcases hw with rfl | rfl | rfl | rfl | rfl
  · rw [h0 rfl]; rfl
  · rw [gb1, w64] <;> omega
  · rw [gb2, w64] <;> omega
  · rw [gb3, w64] <;> omega
  · rw [gb8]; exact iu (by omega) (by omega)
/-- The loop's number goes round, but does not come round. -/
theorem g_step {v x : Int} {j : Nat} (h0 : 0 ≤ v) (h1 : v < ((256 ^ j : Nat) : Int)) (hj : j < 8) (hx : 0 ≤ x) (hx2 : x ≤ 255) :
    IntKind.u64.wrap (IntKind.u64.wrap ((256 : Int) * v) + x) = 256 * v + x ∧ 0 ≤ 256 * v + x ∧ 256 * v + x < ((256 ^ (j + 1) : Nat) : Int) := by
  have p : (256 ^ (j + 1) : Nat) = 256 * 256 ^ j := by rw [Nat.pow_succ]; omega
  have q : (256 ^ (j + 1) : Nat) ≤ 256 ^ 8 := Nat.pow_le_pow_right (by decide) (by omega)
  have r : (256 ^ 8 : Nat) = 18446744073709551616 := by decide
  rw [r, p] at q
  rw [p]
  generalize (256 ^ j : Nat) = m at *
  rw [u64_mod, u64_mod]
  omega
end Ev
end Go.Proofs.Ytaahblgahilohaa
