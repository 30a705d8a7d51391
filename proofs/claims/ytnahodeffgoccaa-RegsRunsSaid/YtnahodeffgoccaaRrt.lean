/- RegsRuns: what the plain functions come to. -/
import Derived.Test.YtnahodeffgoccaaRrd
namespace Go.Proofs.Ytnahodeffgoccaa
open Go.RowKit
namespace Ev
set_option linter.unusedVariables false
set_option linter.unusedSimpArgs false

theorem eta8 {l : List R_ii} (h : l.length = 8) : ([⟨(l.getD 0 R_ii.z).a0, (l.getD 0 R_ii.z).a1⟩, ⟨(l.getD 1 R_ii.z).a0, (l.getD 1 R_ii.z).a1⟩, ⟨(l.getD 2 R_ii.z).a0, (l.getD 2 R_ii.z).a1⟩, ⟨(l.getD 3 R_ii.z).a0, (l.getD 3 R_ii.z).a1⟩, ⟨(l.getD 4 R_ii.z).a0, (l.getD 4 R_ii.z).a1⟩, ⟨(l.getD 5 R_ii.z).a0, (l.getD 5 R_ii.z).a1⟩, ⟨(l.getD 6 R_ii.z).a0, (l.getD 6 R_ii.z).a1⟩, ⟨(l.getD 7 R_ii.z).a0, (l.getD 7 R_ii.z).a1⟩] : List R_ii) = l := by
  match l, h with
  | [x0, x1, x2, x3, x4, x5, x6, x7], _ => rfl
theorem doB_len {l : List R_ii} (h : l.length = 8) (pc op A B C rk rn : Int) : (doB l pc op A B C rk rn).1.length = 8 := by
  unfold doB
  split
  · rfl
  · split
    · exact h
    · split
      · exact h
      · split
        · exact h
        · split
          · rw [List.length_set]; exact h
          · rfl
theorem doP_len {l : List R_ii} (h : l.length = 8) (pc op A B C rk rn : Int) (N : Nat) : (doP l pc op A B C rk rn N).1.length = 8 := by
  unfold doP
  split
  · exact doB_len h ..
  · rfl

theorem doP_pc {l : List R_ii} {pc op A B C rk rn : Int} {N : Nat} (hN : 4 ≤ N) (h0 : 0 ≤ pc) : 0 ≤ (doP l pc op A B C rk rn N).2.1 := by
  unfold doP
  split
  · rename_i h
    obtain ⟨-, -, f8, f9, -⟩ := fine_is op A B C hN
    unfold doB
    split
    · exact Int.le_refl 0
    · split
      · rename_i h8
        exact (f8 h8 h.1).1
      · split
        · rename_i h9
          show 0 ≤ (if zeroP (l.getD A.toNat R_ii.z) then B else pc + 1)
          split
          · exact (f9 h9 h.1).1
          · omega
        · split
          · show 0 ≤ pc + 1; omega
          · split
            · show 0 ≤ pc + 1; omega
            · exact Int.le_refl 0
  · exact Int.le_refl 0
namespace Rr
def st (l : List R_ii) (pc : Int) (k : Nat) : law14_RegsRunsX := .h1m0 pc k (l.getD 0 R_ii.z).a0 (l.getD 0 R_ii.z).a1 (l.getD 1 R_ii.z).a0 (l.getD 1 R_ii.z).a1 (l.getD 2 R_ii.z).a0 (l.getD 2 R_ii.z).a1 (l.getD 3 R_ii.z).a0 (l.getD 3 R_ii.z).a1 (l.getD 4 R_ii.z).a0 (l.getD 4 R_ii.z).a1 (l.getD 5 R_ii.z).a0 (l.getD 5 R_ii.z).a1 (l.getD 6 R_ii.z).a0 (l.getD 6 R_ii.z).a1 (l.getD 7 R_ii.z).a0 (l.getD 7 R_ii.z).a1 (l.getD 0 R_ii.z).a0 (l.getD 0 R_ii.z).a1 (l.getD 1 R_ii.z).a0 (l.getD 1 R_ii.z).a1 (l.getD 2 R_ii.z).a0 (l.getD 2 R_ii.z).a1 (l.getD 3 R_ii.z).a0 (l.getD 3 R_ii.z).a1 (l.getD 4 R_ii.z).a0 (l.getD 4 R_ii.z).a1 (l.getD 5 R_ii.z).a0 (l.getD 5 R_ii.z).a1 (l.getD 6 R_ii.z).a0 (l.getD 6 R_ii.z).a1 (l.getD 7 R_ii.z).a0 (l.getD 7 R_ii.z).a1
section
variable {L : List R_iiii} {n c N : Nat} {rk rn : Int}
theorem go (hn : n ≤ L.length) (hN : 4 ≤ N) : ∀ d k f (l : List R_ii) (pc : Int), k + d = 60 → d < f → 0 ≤ pc → l.length = 8 → iter (law14_RegsRunsStep L n c rk rn N) f (st l pc k) = some (.r0 true) := by
  intro d
  induction d with
  | zero =>
    intro k f l pc hk hf h0 hl
    obtain ⟨f, rfl⟩ : ∃ j, f = j + 1 := ⟨f - 1, by omega⟩
    refine iter_done ?_
    show law14_RegsRuns_h1m0 L n c rk rn N pc k (l.getD 0 R_ii.z).a0 (l.getD 0 R_ii.z).a1 (l.getD 1 R_ii.z).a0 (l.getD 1 R_ii.z).a1 (l.getD 2 R_ii.z).a0 (l.getD 2 R_ii.z).a1 (l.getD 3 R_ii.z).a0 (l.getD 3 R_ii.z).a1 (l.getD 4 R_ii.z).a0 (l.getD 4 R_ii.z).a1 (l.getD 5 R_ii.z).a0 (l.getD 5 R_ii.z).a1 (l.getD 6 R_ii.z).a0 (l.getD 6 R_ii.z).a1 (l.getD 7 R_ii.z).a0 (l.getD 7 R_ii.z).a1 (l.getD 0 R_ii.z).a0 (l.getD 0 R_ii.z).a1 (l.getD 1 R_ii.z).a0 (l.getD 1 R_ii.z).a1 (l.getD 2 R_ii.z).a0 (l.getD 2 R_ii.z).a1 (l.getD 3 R_ii.z).a0 (l.getD 3 R_ii.z).a1 (l.getD 4 R_ii.z).a0 (l.getD 4 R_ii.z).a1 (l.getD 5 R_ii.z).a0 (l.getD 5 R_ii.z).a1 (l.getD 6 R_ii.z).a0 (l.getD 6 R_ii.z).a1 (l.getD 7 R_ii.z).a0 (l.getD 7 R_ii.z).a1 = _
    unfold law14_RegsRuns_h1m0
    exact ite_no (by omega) rfl
  | succ d ih =>
    intro k f l pc hk hf h0 hl
    obtain ⟨f, rfl⟩ : ∃ j, f = j + 1 := ⟨f - 1, by omega⟩
    by_cases h1 : pc < (n : Int) ∧ pc < 100
    · obtain ⟨d1, d2⟩ := do_is (a0 := (l.getD 0 R_ii.z).a0) (a1 := (l.getD 0 R_ii.z).a1) (a2 := (l.getD 1 R_ii.z).a0) (a3 := (l.getD 1 R_ii.z).a1) (a4 := (l.getD 2 R_ii.z).a0) (a5 := (l.getD 2 R_ii.z).a1) (a6 := (l.getD 3 R_ii.z).a0) (a7 := (l.getD 3 R_ii.z).a1) (a8 := (l.getD 4 R_ii.z).a0) (a9 := (l.getD 4 R_ii.z).a1) (a10 := (l.getD 5 R_ii.z).a0) (a11 := (l.getD 5 R_ii.z).a1) (a12 := (l.getD 6 R_ii.z).a0) (a13 := (l.getD 6 R_ii.z).a1) (a14 := (l.getD 7 R_ii.z).a0) (a15 := (l.getD 7 R_ii.z).a1) (pc := pc) (A := (L.getD pc.toNat R_iiii.z).a1) (B := (L.getD pc.toNat R_iiii.z).a2) (C := (L.getD pc.toNat R_iiii.z).a3) (rk := rk) (rn := rn) (L.getD pc.toNat R_iiii.z).a0 hN
      rw [eta8 hl] at d1 d2
      have hlen := doP_len hl pc (L.getD pc.toNat R_iiii.z).a0 (L.getD pc.toNat R_iiii.z).a1 (L.getD pc.toNat R_iiii.z).a2 (L.getD pc.toNat R_iiii.z).a3 rk rn N
      have hpc := doP_pc (l := l) (op := (L.getD pc.toNat R_iiii.z).a0) (A := (L.getD pc.toNat R_iiii.z).a1) (B := (L.getD pc.toNat R_iiii.z).a2) (C := (L.getD pc.toNat R_iiii.z).a3) (rk := rk) (rn := rn) hN h0
      generalize doP l pc (L.getD pc.toNat R_iiii.z).a0 (L.getD pc.toNat R_iiii.z).a1 (L.getD pc.toNat R_iiii.z).a2 (L.getD pc.toNat R_iiii.z).a3 rk rn N = D at d1 d2 hlen hpc
      by_cases he : D.2.2 = 0
      · refine (iter_next (y := st D.1 D.2.1 (k + 1)) ?_).trans (ih (k + 1) f D.1 D.2.1 (by omega) (by omega) hpc hlen)
        show law14_RegsRuns_h1m0 L n c rk rn N pc k (l.getD 0 R_ii.z).a0 (l.getD 0 R_ii.z).a1 (l.getD 1 R_ii.z).a0 (l.getD 1 R_ii.z).a1 (l.getD 2 R_ii.z).a0 (l.getD 2 R_ii.z).a1 (l.getD 3 R_ii.z).a0 (l.getD 3 R_ii.z).a1 (l.getD 4 R_ii.z).a0 (l.getD 4 R_ii.z).a1 (l.getD 5 R_ii.z).a0 (l.getD 5 R_ii.z).a1 (l.getD 6 R_ii.z).a0 (l.getD 6 R_ii.z).a1 (l.getD 7 R_ii.z).a0 (l.getD 7 R_ii.z).a1 (l.getD 0 R_ii.z).a0 (l.getD 0 R_ii.z).a1 (l.getD 1 R_ii.z).a0 (l.getD 1 R_ii.z).a1 (l.getD 2 R_ii.z).a0 (l.getD 2 R_ii.z).a1 (l.getD 3 R_ii.z).a0 (l.getD 3 R_ii.z).a1 (l.getD 4 R_ii.z).a0 (l.getD 4 R_ii.z).a1 (l.getD 5 R_ii.z).a0 (l.getD 5 R_ii.z).a1 (l.getD 6 R_ii.z).a0 (l.getD 6 R_ii.z).a1 (l.getD 7 R_ii.z).a0 (l.getD 7 R_ii.z).a1 = _
        unfold law14_RegsRuns_h1m0
        exact ite_yes (by omega) <| ite_yes h1.1 <| ite_yes h1.2 <| ite_yes h0 <| ite_yes (by omega) <| bind_to d1 <| bind_to d2 <| ite_no (fun h => h ⟨⟨rfl, rfl⟩, ⟨rfl, rfl⟩, ⟨rfl, rfl⟩, ⟨rfl, rfl⟩, ⟨rfl, rfl⟩, ⟨rfl, rfl⟩, ⟨rfl, rfl⟩, ⟨rfl, rfl⟩⟩) <| ite_no (fun h => h rfl) <| ite_no (fun h => h rfl) <| ite_no (fun h => h he) rfl
      · refine iter_done ?_
        show law14_RegsRuns_h1m0 L n c rk rn N pc k (l.getD 0 R_ii.z).a0 (l.getD 0 R_ii.z).a1 (l.getD 1 R_ii.z).a0 (l.getD 1 R_ii.z).a1 (l.getD 2 R_ii.z).a0 (l.getD 2 R_ii.z).a1 (l.getD 3 R_ii.z).a0 (l.getD 3 R_ii.z).a1 (l.getD 4 R_ii.z).a0 (l.getD 4 R_ii.z).a1 (l.getD 5 R_ii.z).a0 (l.getD 5 R_ii.z).a1 (l.getD 6 R_ii.z).a0 (l.getD 6 R_ii.z).a1 (l.getD 7 R_ii.z).a0 (l.getD 7 R_ii.z).a1 (l.getD 0 R_ii.z).a0 (l.getD 0 R_ii.z).a1 (l.getD 1 R_ii.z).a0 (l.getD 1 R_ii.z).a1 (l.getD 2 R_ii.z).a0 (l.getD 2 R_ii.z).a1 (l.getD 3 R_ii.z).a0 (l.getD 3 R_ii.z).a1 (l.getD 4 R_ii.z).a0 (l.getD 4 R_ii.z).a1 (l.getD 5 R_ii.z).a0 (l.getD 5 R_ii.z).a1 (l.getD 6 R_ii.z).a0 (l.getD 6 R_ii.z).a1 (l.getD 7 R_ii.z).a0 (l.getD 7 R_ii.z).a1 = _
        unfold law14_RegsRuns_h1m0
        exact ite_yes (by omega) <| ite_yes h1.1 <| ite_yes h1.2 <| ite_yes h0 <| ite_yes (by omega) <| bind_to d1 <| bind_to d2 <| ite_no (fun h => h ⟨⟨rfl, rfl⟩, ⟨rfl, rfl⟩, ⟨rfl, rfl⟩, ⟨rfl, rfl⟩, ⟨rfl, rfl⟩, ⟨rfl, rfl⟩, ⟨rfl, rfl⟩, ⟨rfl, rfl⟩⟩) <| ite_no (fun h => h rfl) <| ite_no (fun h => h rfl) <| ite_yes he rfl
    · refine iter_done ?_
      show law14_RegsRuns_h1m0 L n c rk rn N pc k (l.getD 0 R_ii.z).a0 (l.getD 0 R_ii.z).a1 (l.getD 1 R_ii.z).a0 (l.getD 1 R_ii.z).a1 (l.getD 2 R_ii.z).a0 (l.getD 2 R_ii.z).a1 (l.getD 3 R_ii.z).a0 (l.getD 3 R_ii.z).a1 (l.getD 4 R_ii.z).a0 (l.getD 4 R_ii.z).a1 (l.getD 5 R_ii.z).a0 (l.getD 5 R_ii.z).a1 (l.getD 6 R_ii.z).a0 (l.getD 6 R_ii.z).a1 (l.getD 7 R_ii.z).a0 (l.getD 7 R_ii.z).a1 (l.getD 0 R_ii.z).a0 (l.getD 0 R_ii.z).a1 (l.getD 1 R_ii.z).a0 (l.getD 1 R_ii.z).a1 (l.getD 2 R_ii.z).a0 (l.getD 2 R_ii.z).a1 (l.getD 3 R_ii.z).a0 (l.getD 3 R_ii.z).a1 (l.getD 4 R_ii.z).a0 (l.getD 4 R_ii.z).a1 (l.getD 5 R_ii.z).a0 (l.getD 5 R_ii.z).a1 (l.getD 6 R_ii.z).a0 (l.getD 6 R_ii.z).a1 (l.getD 7 R_ii.z).a0 (l.getD 7 R_ii.z).a1 = _
      unfold law14_RegsRuns_h1m0
      refine ite_yes (by omega) ?_
      by_cases h2 : pc < (n : Int)
      · exact ite_yes h2 <| ite_no (by omega) rfl
      · exact ite_no h2 rfl
end
theorem runs (L : List R_iiii) (n c : Nat) (hn : n ≤ L.length) (rk rn : Int) : law14_RegsRuns L n c rk rn 100000 = some (.r0 true) :=
  (goM_in (show law14_RegsRunsIn L n c rk rn 100000 = some (.inl (st (List.replicate 8 ⟨1, 0⟩) 0 0)) from rfl)).trans (go hn (by decide) 60 0 100000 _ 0 (by decide) (by decide) (by decide) rfl)
theorem runs2 (rk rn : Int) : law14_RegsRuns_2 rk rn 100000 = some .r0 := (goM_in rfl).trans (iter_done rfl)
end Rr
end Ev
end Go.Proofs.Ytnahodeffgoccaa
