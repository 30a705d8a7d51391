/- Arguments that are rows of numbers: blocks of the caller's, that are read alone. -/
import Derived.Test.YtgnmjjakmeomiaaEvR
import Derived.Test.YtgnmjjakmeomiaaSlices
namespace Go.Proofs.Ytgnmjjakmeomiaa
open Go.ChangeShapes Go.WideShapes Go.ChangeAt Go.RowKit
namespace Ev
section
variable {P : Program} {w : World}
theorem ZlE {b o : Nat} {v : Value} (h : w.cell? ⟨b, o, none⟩ = some v) : ∃ C t fr, w.heap[b]? = some (.cells C t fr) ∧ C[o]? = some v := by
 unfold World.cell? at h
 split at h
 ·rename_i c e fr hb
  split at h
  ·cases h
  ·exact ⟨c, e, fr, hb, h⟩
 ·cases h
theorem Zo9 {ι : Ren} {k b o n c : Nat} (h : ι k = some (b, 0)) (hn : n ≤ c) : VR ι (.slice (some ⟨k, o, none⟩) n c) (.slice (some ⟨b, o, none⟩) n c) :=
 .slice (b := (b, 0)) h hn (Nat.le_refl c) (fun _ => .inl (Nat.le_refl c))
end
end Ev
end Go.Proofs.Ytgnmjjakmeomiaa
