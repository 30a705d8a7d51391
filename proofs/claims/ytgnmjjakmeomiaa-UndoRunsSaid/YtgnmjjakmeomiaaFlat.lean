/- Arguments that hold no address: which cells they have. -/
import Derived.Test.YtgnmjjakmeomiaaFrame
import Derived.Test.YtgnmjjakmeomiaaEvS
namespace Go.Proofs.Ytgnmjjakmeomiaa
open Go.ChangeShapes Go.WideShapes Go.ChangeAt Go.RowKit
namespace Ev
section
variable {P : Program} {w : World} {r : Reach} {base : Nat}
theorem ZnH {u : TypeId} {k : IntKind} {c : Value} (hu : P.underlying u = some (.int k)) (h : Cell.okWide P w r base u c) : ∃ n, c = .int k n ∧ k.has n := by
 unfold Cell.okWide Cell.ok at h
 rw [hu] at h
 cases c <;> simp at h
 obtain ⟨rfl, h⟩ := h
 exact ⟨_, rfl, h⟩
theorem ZnI {t : TypeId} {v : Value} (hu : (match P.underlying t with | some (.struct _) | some (.array _ _) => true | _ => false) = false) (h : Value.okWide P w r base t v) : Cell.okWide P w r base t v := by
 unfold Value.okWide at h
 split at h
 ·rename_i h1; rw [h1] at hu; cases hu
 ·rename_i h1; rw [h1] at hu; cases hu
 ·exact h
theorem okWide_slice {u e : TypeId} {c : Value} (hu : P.underlying u = some (.slice e)) (h : Cell.okWide P w r base u c) : c.oneCell' = true := by
 unfold Cell.okWide Cell.ok at h
 rw [hu] at h
 cases c <;> first | rfl | (simp at h)
def ZoN : Nat → List (Nat × Bool) → List (Option Bool)
 | _, [] => []
 | n, (i, b) :: l => List.replicate (i - n) none ++ (some b :: ZoN (i + 1) l)
def ZoO : Nat → List (Nat × Int) → List (Option Int)
 | _, [] => []
 | n, (i, b) :: l => List.replicate (i - n) none ++ (some b :: ZoO (i + 1) l)
def ZlO {α : Type} : Nat → List (Nat × α) → List (Option α)
 | _, [] => []
 | n, (i, b) :: l => List.replicate (i - n) none ++ (some b :: ZlO (i + 1) l)
def Zm (b : List (Nat × Bool)) (v : List (Nat × Int)) (x : List (Nat × Nat)) (l : List (Nat × List Cell)) (w : List (Nat × Zbi)) : Orc := ⟨ZoN 0 b, ZoO 0 v, ZlO 0 x, ZlO 0 l, ZlO 0 w⟩
theorem Zj : ∀ p ∈ ([] : List (Bool × Bool)), p.1 = p.2 := by simp
theorem Zb {a b : Bool} {l : List (Bool × Bool)} (h : a = b) (hl : ∀ q ∈ l, q.1 = q.2) : ∀ q ∈ (a, b) :: l, q.1 = q.2 := by
 intro q hq
 rcases List.mem_cons.1 hq with rfl | hq
 ·exact h
 ·exact hl q hq
theorem Zpq {x : Int} (h : -9223372036854775808 ≤ x ∧ x < 9223372036854775808) : IntKind.i64.wrap x = x := by
 rw [IntKind.wrap_i64]
 omega
theorem Zpr {b : Int} (h : 0 ≤ b) : b = Int.ofNat b.toNat := (Int.toNat_of_nonneg h).symm
theorem Zps {n m : Nat} (h : n < m) : Nat.blt n m = true := Nat.ble_eq_true_of_le h
end
end Ev
end Go.Proofs.Ytgnmjjakmeomiaa
