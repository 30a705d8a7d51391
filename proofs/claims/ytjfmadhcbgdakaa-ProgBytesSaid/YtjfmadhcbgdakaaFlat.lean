/- Arguments that hold no address: which cells they have. -/
import Derived.Test.YtjfmadhcbgdakaaFrame
import Derived.Test.YtjfmadhcbgdakaaEvS
namespace Go.Proofs.Ytjfmadhcbgdakaa
open Go.ChangeShapes Go.WideShapes Go.ChangeAt Go.RowKit
namespace Ev
section
variable {P : Program} {w : World} {r : Reach} {base : Nat}
theorem okWide_slice {u e : TypeId} {c : Value} (hu : P.underlying u = some (.slice e)) (h : Cell.okWide P w r base u c) : c.oneCell' = true := by
 unfold Cell.okWide Cell.ok at h
 rw [hu] at h
 cases c <;> first | rfl | (simp at h)
def Zvq : Nat → List (Nat × Bool) → List (Option Bool)
 | _, [] => []
 | n, (i, b) :: l => List.replicate (i - n) none ++ (some b :: Zvq (i + 1) l)
def Zvr : Nat → List (Nat × Int) → List (Option Int)
 | _, [] => []
 | n, (i, b) :: l => List.replicate (i - n) none ++ (some b :: Zvr (i + 1) l)
def ZrH {α : Type} : Nat → List (Nat × α) → List (Option α)
 | _, [] => []
 | n, (i, b) :: l => List.replicate (i - n) none ++ (some b :: ZrH (i + 1) l)
def Zh (b : List (Nat × Bool)) (v : List (Nat × Int)) (x : List (Nat × Nat)) (l : List (Nat × List Cell)) (w : List (Nat × Za4)) : Orc := ⟨Zvq 0 b, Zvr 0 v, ZrH 0 x, ZrH 0 l, ZrH 0 w⟩
theorem Zb : ∀ p ∈ ([] : List (Bool × Bool)), p.1 = p.2 := by simp
theorem Za {a b : Bool} {l : List (Bool × Bool)} (h : a = b) (hl : ∀ q ∈ l, q.1 = q.2) : ∀ q ∈ (a, b) :: l, q.1 = q.2 := by
 intro q hq
 rcases List.mem_cons.1 hq with rfl | hq
 ·exact h
 ·exact hl q hq
theorem ZvF {x : Int} (h : -9223372036854775808 ≤ x ∧ x < 9223372036854775808) : IntKind.i64.wrap x = x := by
 rw [IntKind.wrap_i64]
 omega
theorem ZgI {b : Int} (h : 0 ≤ b) : b = Int.ofNat b.toNat := (Int.toNat_of_nonneg h).symm
theorem ZvG {n m : Nat} (h : n < m) : Nat.blt n m = true := Nat.ble_eq_true_of_le h
end
end Ev
end Go.Proofs.Ytjfmadhcbgdakaa
