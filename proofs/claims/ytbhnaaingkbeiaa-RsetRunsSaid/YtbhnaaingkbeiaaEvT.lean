/- Arguments that are rows of numbers: blocks of the caller's, that are read alone. -/
import Derived.Test.YtbhnaaingkbeiaaEvR
import Derived.Test.YtbhnaaingkbeiaaSlices
namespace Go.Proofs.Ytbhnaaingkbeiaa
open Go.ChangeShapes Go.WideShapes Go.ChangeAt Go.RowKit
namespace Ev
section
variable {P : Program} {w : World}
theorem block_of_cell {b o : Nat} {v : Value} (h : w.cell? ⟨b, o, none⟩ = some v) : ∃ C t fr, w.heap[b]? = some (.cells C t fr) ∧ C[o]? = some v := by
  unfold World.cell? at h
  split at h
  · rename_i c e fr hb
    split at h
    · cases h
    · exact ⟨c, e, fr, hb, h⟩
  · cases h
theorem takeN_some {α : Type} : ∀ (m : Nat) (l : List α), m ≤ l.length → takeN m l = some (l.take m)
  | 0, l, _ => by simp [takeN]
  | m + 1, [], h => by simp at h
  | m + 1, x :: l, h => by
    simp only [takeN]
    rw [takeN_some m l (by simpa using h)]
    rfl
/-- Cells that are numbers, as a row that is read. -/
theorem ro_of_cells {b o n : Nat} {z : Nat → Cell} (hn : 0 < n) (h : ∀ i, i < n → w.cell? ⟨b, o + i, none⟩ = some (cellV (z i))) :
    ∃ O, w.heap[b]? = some O ∧ ∀ i m, i + m ≤ n → roRow O (o + i) m = some (cellsV ((List.range m).map fun j => z (i + j))) := by
  obtain ⟨C, t, fr, hB, _⟩ := block_of_cell (h 0 hn)
  refine ⟨_, hB, fun i m him => ?_⟩
  have hc : ∀ j, j < n → C[o + j]? = some (cellV (z j)) := fun j hj => by
    obtain ⟨C', t', fr', hB', hv⟩ := block_of_cell (h j hj)
    rw [hB] at hB'
    injection hB' with hB'
    injection hB' with e1 e2 e3
    subst e1
    exact hv
  have hsz : ∀ j, j < n → o + j < C.size := fun j hj => (Array.getElem?_eq_some_iff.1 (hc j hj)).1
  show takeN m (C.toList.drop (o + i)) = _
  have hlen : m ≤ (C.toList.drop (o + i)).length := by
    simp only [List.length_drop, Array.length_toList]
    rcases Nat.eq_zero_or_pos m with h0 | h0
    · omega
    · have := hsz (i + m - 1) (by omega)
      omega
  rw [takeN_some m _ hlen]
  congr 1
  apply List.ext_getElem?
  intro j
  by_cases hj : j < m
  · rw [List.getElem?_take_of_lt hj, List.getElem?_drop]
    have e := hc (i + j) (by omega)
    have e2 : (cellsV ((List.range m).map fun j => z (i + j)))[j]? = some (cellV (z (i + j))) := by
      simp [cellsV, hj]
    rw [e2]
    have : C.toList[o + i + j]? = C[o + (i + j)]? := by
      rw [Array.getElem?_toList, Nat.add_assoc]
    rw [this, e]
  · rw [List.getElem?_eq_none (by simp; omega), List.getElem?_eq_none (by simp [cellsV]; omega)]
/-- The slice, told by a number of its own. -/
theorem ro_slice {ι : Ren} {k b o n c : Nat} (h : ι k = some (b, 0)) (hn : n ≤ c) : VR ι (.slice (some ⟨k, o, none⟩) n c) (.slice (some ⟨b, o, none⟩) n c) :=
  .slice (b := (b, 0)) h hn (Nat.le_refl c) (fun _ => .inl (Nat.le_refl c))
/-- One block of the caller's alone is known. -/
theorem emb_ro {O : Obj} {b : Nat} (hB : w.heap[b]? = some O) : Emb P (upd (fun _ => none) 0 (some (b, 0))) (upd (fun _ => none) 0 (some (.ro O))) w := by
  have hlt : b < w.heap.size := (Array.getElem?_eq_some_iff.1 hB).1
  refine ⟨fun k c t hk => ?_, fun k O' hk => ?_, fun k k' b1 b2 h1 => ?_, fun k b1 hk => ?_⟩
  · by_cases h : k = 0
    · subst h; rw [upd_same] at hk; injection hk with hk; cases hk
    · rw [upd_other h] at hk; cases hk
  · by_cases h : k = 0
    · subst h; rw [upd_same] at hk; injection hk with hk; injection hk with hk hk2; subst hk hk2; exact ⟨_, upd_same, hB⟩
    · rw [upd_other h] at hk; cases hk
  · by_cases h : k = 0
    · subst h; rw [upd_same] at h1; cases h1
    · rw [upd_other h] at h1; cases h1
  · by_cases h : k = 0
    · subst h; rw [upd_same] at hk; injection hk with hk; subst hk; exact hlt
    · rw [upd_other h] at hk; cases hk
/-- What began with blocks of the caller's alone leaves all that was there. -/
theorem below_of_step {ι ι' : Ren} {h h' : AH} {w' : World} (hS : Step P ι h w ι' h' w') (hro : ∀ k, isC (h k) = false) : Below w.heap.size w w' :=
  ⟨hS.os, hS.tape, hS.output, hS.size, fun b hb => hS.frame b hb fun k c hk => by rw [hro k] at hk; cases hk⟩
end
end Ev
end Go.Proofs.Ytbhnaaingkbeiaa
