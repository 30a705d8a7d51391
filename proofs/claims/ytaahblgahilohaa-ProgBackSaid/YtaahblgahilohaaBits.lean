/- Numbers of bytes: shifted and joined, and times 256. -/
import Derived.Test.YtaahblgahilohaaPu
namespace Go.Proofs.Ytaahblgahilohaa
open Go.RowKit
namespace Ev
theorem u64_mod (n : Int) : IntKind.u64.wrap n = n % 18446744073709551616 := by simp [IntKind.wrap, IntKind.bits, IntKind.signed]
theorem u8_mod (n : Int) : IntKind.u8.wrap n = n % 256 := by simp [IntKind.wrap, IntKind.bits, IntKind.signed]
/-- One byte more: shifted and joined, or times 256 and added. -/
theorem or_shift {v x : Int} (hx : 0 ≤ x) (hx2 : x ≤ 255) :
    IntKind.u64.wrap (((BitVec.ofInt IntKind.u64.bits (IntKind.u64.wrap (v * (2 ^ 8 : Int))) ||| BitVec.ofInt IntKind.u64.bits x).toNat : Nat) : Int) = IntKind.u64.wrap (IntKind.u64.wrap ((256 : Int) * v) + x) := by
  have e1 : IntKind.u64.wrap (v * (2 ^ 8 : Int)) = IntKind.u64.wrap ((256 : Int) * v) := by rw [Int.mul_comm]; rfl
  rw [e1]
  obtain ⟨a, ha, ha2⟩ : ∃ a : Nat, IntKind.u64.wrap ((256 : Int) * v) = ((2 ^ 8 * a : Nat) : Int) ∧ a < 72057594037927936 := by
    refine ⟨(v % 72057594037927936).toNat, ?_, by omega⟩
    rw [u64_mod]
    omega
  obtain ⟨b, rfl⟩ : ∃ b : Nat, x = (b : Int) := ⟨x.toNat, by omega⟩
  have hb : b < 2 ^ 8 := by omega
  rw [ha]
  have e2 : (BitVec.ofInt IntKind.u64.bits ((2 ^ 8 * a : Nat) : Int) ||| BitVec.ofInt IntKind.u64.bits (b : Int)).toNat = 2 ^ 8 * a + b := by
    rw [BitVec.toNat_or, BitVec.toNat_ofInt, BitVec.toNat_ofInt]
    have h1 : (((2 ^ 8 * a : Nat) : Int) % ((2 ^ IntKind.u64.bits : Nat) : Int)).toNat = 2 ^ 8 * a := by
      show (((2 ^ 8 * a : Nat) : Int) % (18446744073709551616 : Int)).toNat = 2 ^ 8 * a
      omega
    have h2 : ((b : Int) % ((2 ^ IntKind.u64.bits : Nat) : Int)).toNat = b := by
      show ((b : Int) % (18446744073709551616 : Int)).toNat = b
      omega
    rw [h1, h2]
    exact (Nat.two_pow_add_eq_or_of_lt hb a).symm
  rw [e2]
  congr 1
end Ev
end Go.Proofs.Ytaahblgahilohaa
