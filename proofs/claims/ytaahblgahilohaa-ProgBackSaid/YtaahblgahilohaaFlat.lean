/- Arguments that hold no address: which cells they have. -/
import Derived.Test.YtaahblgahilohaaFrame
import Derived.Test.YtaahblgahilohaaEvS
namespace Go.Proofs.Ytaahblgahilohaa
open Go.ChangeShapes Go.WideShapes Go.ChangeAt Go.RowKit
namespace Ev
section
variable {P : Program} {w : World} {r : Reach} {base : Nat}
theorem okWide_int {u : TypeId} {k : IntKind} {c : Value} (hu : P.underlying u = some (.int k)) (h : Cell.okWide P w r base u c) : ∃ n, c = .int k n ∧ k.has n := by
  unfold Cell.okWide Cell.ok at h
  rw [hu] at h
  cases c <;> simp at h
  obtain ⟨rfl, h⟩ := h
  exact ⟨_, rfl, h⟩
theorem okWide_one {t : TypeId} {v : Value} (hu : (match P.underlying t with | some (.struct _) | some (.array _ _) => true | _ => false) = false) (h : Value.okWide P w r base t v) : Cell.okWide P w r base t v := by
  unfold Value.okWide at h
  split at h
  · rename_i h1; rw [h1] at hu; cases hu
  · rename_i h1; rw [h1] at hu; cases hu
  · exact h
theorem okWide_slice {u e : TypeId} {c : Value} (hu : P.underlying u = some (.slice e)) (h : Cell.okWide P w r base u c) : c.oneCell' = true := by
  unfold Cell.okWide Cell.ok at h
  rw [hu] at h
  cases c <;> first | rfl | (simp at h)
/-- Answers at the given places. -/
def orcAt : Nat → List (Nat × Bool) → List (Option Bool)
  | _, [] => []
  | n, (i, b) :: l => List.replicate (i - n) none ++ (some b :: orcAt (i + 1) l)
/-- Numbers at the given places. -/
def numAt : Nat → List (Nat × Int) → List (Option Int)
  | _, [] => []
  | n, (i, b) :: l => List.replicate (i - n) none ++ (some b :: numAt (i + 1) l)
def atAny {α : Type} : Nat → List (Nat × α) → List (Option α)
  | _, [] => []
  | n, (i, b) :: l => List.replicate (i - n) none ++ (some b :: atAny (i + 1) l)
def orcw (b : List (Nat × Bool)) (v : List (Nat × Int)) (x : List (Nat × Nat)) (l : List (Nat × List Cell)) (w : List (Nat × Told)) : Orc := ⟨orcAt 0 b, numAt 0 v, atAny 0 x, atAny 0 l, atAny 0 w⟩
/-- What is told of tests, one by one. -/
theorem obs_nil : ∀ p ∈ ([] : List (Bool × Bool)), p.1 = p.2 := by simp
theorem obs_cons {a b : Bool} {l : List (Bool × Bool)} (h : a = b) (hl : ∀ q ∈ l, q.1 = q.2) : ∀ q ∈ (a, b) :: l, q.1 = q.2 := by
  intro q hq
  rcases List.mem_cons.1 hq with rfl | hq
  · exact h
  · exact hl q hq
theorem wrap64 {x : Int} (h : -9223372036854775808 ≤ x ∧ x < 9223372036854775808) : IntKind.i64.wrap x = x := by
  rw [IntKind.wrap_i64]
  omega
theorem idx_eq {b : Int} (h : 0 ≤ b) : b = Int.ofNat b.toNat := (Int.toNat_of_nonneg h).symm
theorem blt_of {n m : Nat} (h : n < m) : Nat.blt n m = true := Nat.ble_eq_true_of_le h
end
end Ev
end Go.Proofs.Ytaahblgahilohaa
