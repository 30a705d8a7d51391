/- MemFirm: what the plain functions come to. -/
import Derived.Test.YtigjdlljpklbiaaMfr
import Derived.Test.YtigjdlljpklbiaaPu
namespace Go.Proofs.Ytigjdlljpklbiaa
open Go.RowKit
namespace Ev
set_option linter.unusedVariables false
set_option linter.unusedSimpArgs false
namespace Mf
section
variable {a0 a1 : Int} {L : List R_iiiib} {n c N k : Nat}
def Ok0 (k : Nat) : Option (law15_MemFirmX ⊕ law15_MemFirmR) → Prop
  | some (.inl (.h3m0 j u7 u8 u9 u10 u11 u12 u13 u14 u15 u16 u17 u18)) => j = k ∧ u7 ≠ 0 ∧ u8 = true ∧ u9 = false
  | _ => False
theorem ok0 {k : Nat} : ∀ {r : Option (law15_MemFirmX ⊕ law15_MemFirmR)}, Ok0 k r → ∃ u7 u8 u9 u10 u11 u12 u13 u14 u15 u16 u17 u18, r = some (.inl (.h3m0 k u7 u8 u9 u10 u11 u12 u13 u14 u15 u16 u17 u18)) ∧ u7 ≠ 0 ∧ u8 = true ∧ u9 = false
  | some (.inl (.h3m0 j u7 u8 u9 u10 u11 u12 u13 u14 u15 u16 u17 u18)), h => by
    obtain ⟨rfl, h⟩ := h
    exact ⟨u7, u8, u9, u10, u11, u12, u13, u14, u15, u16, u17, u18, rfl, h⟩
  | some (.inl .h1m0), h => h.elim
  | some (.inl (.h2m0 ..)), h => h.elim
  | some (.inr _), h => h.elim
  | none, h => h.elim
theorem ok_ite0 {k : Nat} {p : Prop} [Decidable p] {a b : Option (law15_MemFirmX ⊕ law15_MemFirmR)} (h1 : p → Ok0 k a) (h2 : ¬ p → Ok0 k b) : Ok0 k (if p then a else b) := by
  by_cases h : p
  · rw [if_pos h]; exact h1 h
  · rw [if_neg h]; exact h2 h
theorem st0 (hme : Int.tmod a0 4 = 0) (v7 : Int) (v8 : Bool) (v9 : Bool) (v10 : Int) (v11 : Bool) (v12 : Bool) (v13 : Int) (v14 : Bool) (v15 : Bool) (v16 : Int) (v17 : Bool) (v18 : Bool) (h : v7 ≠ 0 ∧ v8 = true ∧ v9 = false) (hk : k < n) (h6 : k < 60) (hn : n ≤ L.length) : ∃ u7 u8 u9 u10 u11 u12 u13 u14 u15 u16 u17 u18, law15_MemFirm_h2m0 a0 a1 L n c N k v7 v8 v9 v10 v11 v12 v13 v14 v15 v16 v17 v18 = some (.inl (.h3m0 k u7 u8 u9 u10 u11 u12 u13 u14 u15 u16 u17 u18)) ∧ u7 ≠ 0 ∧ u8 = true ∧ u9 = false := by
  obtain ⟨h7, rfl, rfl⟩ := h
  refine ok0 ?_
  unfold law15_MemFirm_h2m0
  rw [hme]
  repeat' (refine ok_ite0 (fun _ => ?_) (fun _ => ?_))
  all_goals first
    | exact ⟨rfl, h7, rfl, rfl⟩
    | (exfalso; omega)
    | (exfalso; simp_all; done)
theorem nd0 (hme : Int.tmod a0 4 = 0) (v7 : Int) (v8 : Bool) (v9 : Bool) (v10 : Int) (v11 : Bool) (v12 : Bool) (v13 : Int) (v14 : Bool) (v15 : Bool) (v16 : Int) (v17 : Bool) (v18 : Bool) (h : v7 ≠ 0 ∧ v8 = true ∧ v9 = false) (h6 : k < 60) : law15_MemFirm_h3m0 a0 a1 L n c N k v7 v8 v9 v10 v11 v12 v13 v14 v15 v16 v17 v18 = some (.inl (.h2m0 (k + 1) v7 v8 v9 v10 v11 v12 v13 v14 v15 v16 v17 v18)) := by
  obtain ⟨h7, rfl, rfl⟩ := h
  unfold law15_MemFirm_h3m0
  rw [hme]
  repeat' (refine ite_eq (fun _ => ?_) (fun _ => ?_))
  all_goals first
    | rfl
    | (exfalso; omega)
    | (exfalso; simp_all; done)
theorem go0 (hme : Int.tmod a0 4 = 0) (hn : n ≤ L.length) : ∀ d k f (v7 : Int) (v8 : Bool) (v9 : Bool) (v10 : Int) (v11 : Bool) (v12 : Bool) (v13 : Int) (v14 : Bool) (v15 : Bool) (v16 : Int) (v17 : Bool) (v18 : Bool), (k + d = n ∨ k + d = 60) → k ≤ n → k ≤ 60 → 2 * d < f → v7 ≠ 0 ∧ v8 = true ∧ v9 = false → iter (law15_MemFirmStep a0 a1 L n c N) f (.h2m0 k v7 v8 v9 v10 v11 v12 v13 v14 v15 v16 v17 v18) = some (.r0 true) := by
  intro d
  induction d with
  | zero =>
    intro k f v7 v8 v9 v10 v11 v12 v13 v14 v15 v16 v17 v18 hk hkn hk6 hf h
    obtain ⟨f, rfl⟩ : ∃ j, f = j + 1 := ⟨f - 1, by omega⟩
    refine iter_done ?_
    show law15_MemFirm_h2m0 a0 a1 L n c N k v7 v8 v9 v10 v11 v12 v13 v14 v15 v16 v17 v18 = _
    unfold law15_MemFirm_h2m0
    rcases hk with hk | hk
    · exact ite_no (by omega) rfl
    · exact ite_eq (fun _ => ite_no (by omega) rfl) (fun _ => rfl)
  | succ d ih =>
    intro k f v7 v8 v9 v10 v11 v12 v13 v14 v15 v16 v17 v18 hk hkn hk6 hf h
    by_cases e : k < n ∧ k < 60
    · obtain ⟨f, rfl⟩ : ∃ j, f = j + 1 + 1 := ⟨f - 2, by omega⟩
      obtain ⟨u7, u8, u9, u10, u11, u12, u13, u14, u15, u16, u17, u18, e1, e2⟩ := st0 (a1 := a1) (c := c) (N := N) hme v7 v8 v9 v10 v11 v12 v13 v14 v15 v16 v17 v18 h e.1 e.2 hn
      refine (iter_next (y := .h3m0 k u7 u8 u9 u10 u11 u12 u13 u14 u15 u16 u17 u18) e1).trans ?_
      refine (iter_next (y := .h2m0 (k + 1) u7 u8 u9 u10 u11 u12 u13 u14 u15 u16 u17 u18) (nd0 (a1 := a1) (c := c) (N := N) (L := L) (n := n) hme u7 u8 u9 u10 u11 u12 u13 u14 u15 u16 u17 u18 e2 e.2)).trans ?_
      exact ih (k + 1) f u7 u8 u9 u10 u11 u12 u13 u14 u15 u16 u17 u18 (by omega) (by omega) (by omega) (by omega) e2
    · obtain ⟨f, rfl⟩ : ∃ j, f = j + 1 := ⟨f - 1, by omega⟩
      refine iter_done ?_
      show law15_MemFirm_h2m0 a0 a1 L n c N k v7 v8 v9 v10 v11 v12 v13 v14 v15 v16 v17 v18 = _
      unfold law15_MemFirm_h2m0
      by_cases e1 : k < n
      · exact ite_yes (by omega) (ite_no (by omega) rfl)
      · exact ite_no (by omega) rfl
def Ok1 (k : Nat) : Option (law15_MemFirmX ⊕ law15_MemFirmR) → Prop
  | some (.inl (.h3m0 j u7 u8 u9 u10 u11 u12 u13 u14 u15 u16 u17 u18)) => j = k ∧ u10 ≠ 0 ∧ u11 = true ∧ u12 = false
  | _ => False
theorem ok1 {k : Nat} : ∀ {r : Option (law15_MemFirmX ⊕ law15_MemFirmR)}, Ok1 k r → ∃ u7 u8 u9 u10 u11 u12 u13 u14 u15 u16 u17 u18, r = some (.inl (.h3m0 k u7 u8 u9 u10 u11 u12 u13 u14 u15 u16 u17 u18)) ∧ u10 ≠ 0 ∧ u11 = true ∧ u12 = false
  | some (.inl (.h3m0 j u7 u8 u9 u10 u11 u12 u13 u14 u15 u16 u17 u18)), h => by
    obtain ⟨rfl, h⟩ := h
    exact ⟨u7, u8, u9, u10, u11, u12, u13, u14, u15, u16, u17, u18, rfl, h⟩
  | some (.inl .h1m0), h => h.elim
  | some (.inl (.h2m0 ..)), h => h.elim
  | some (.inr _), h => h.elim
  | none, h => h.elim
theorem ok_ite1 {k : Nat} {p : Prop} [Decidable p] {a b : Option (law15_MemFirmX ⊕ law15_MemFirmR)} (h1 : p → Ok1 k a) (h2 : ¬ p → Ok1 k b) : Ok1 k (if p then a else b) := by
  by_cases h : p
  · rw [if_pos h]; exact h1 h
  · rw [if_neg h]; exact h2 h
theorem st1 (hme : Int.tmod a0 4 = 1) (v7 : Int) (v8 : Bool) (v9 : Bool) (v10 : Int) (v11 : Bool) (v12 : Bool) (v13 : Int) (v14 : Bool) (v15 : Bool) (v16 : Int) (v17 : Bool) (v18 : Bool) (h : v10 ≠ 0 ∧ v11 = true ∧ v12 = false) (hk : k < n) (h6 : k < 60) (hn : n ≤ L.length) : ∃ u7 u8 u9 u10 u11 u12 u13 u14 u15 u16 u17 u18, law15_MemFirm_h2m0 a0 a1 L n c N k v7 v8 v9 v10 v11 v12 v13 v14 v15 v16 v17 v18 = some (.inl (.h3m0 k u7 u8 u9 u10 u11 u12 u13 u14 u15 u16 u17 u18)) ∧ u10 ≠ 0 ∧ u11 = true ∧ u12 = false := by
  obtain ⟨h7, rfl, rfl⟩ := h
  refine ok1 ?_
  unfold law15_MemFirm_h2m0
  rw [hme]
  repeat' (refine ok_ite1 (fun _ => ?_) (fun _ => ?_))
  all_goals first
    | exact ⟨rfl, h7, rfl, rfl⟩
    | (exfalso; omega)
    | (exfalso; simp_all; done)
theorem nd1 (hme : Int.tmod a0 4 = 1) (v7 : Int) (v8 : Bool) (v9 : Bool) (v10 : Int) (v11 : Bool) (v12 : Bool) (v13 : Int) (v14 : Bool) (v15 : Bool) (v16 : Int) (v17 : Bool) (v18 : Bool) (h : v10 ≠ 0 ∧ v11 = true ∧ v12 = false) (h6 : k < 60) : law15_MemFirm_h3m0 a0 a1 L n c N k v7 v8 v9 v10 v11 v12 v13 v14 v15 v16 v17 v18 = some (.inl (.h2m0 (k + 1) v7 v8 v9 v10 v11 v12 v13 v14 v15 v16 v17 v18)) := by
  obtain ⟨h7, rfl, rfl⟩ := h
  unfold law15_MemFirm_h3m0
  rw [hme]
  repeat' (refine ite_eq (fun _ => ?_) (fun _ => ?_))
  all_goals first
    | rfl
    | (exfalso; omega)
    | (exfalso; simp_all; done)
theorem go1 (hme : Int.tmod a0 4 = 1) (hn : n ≤ L.length) : ∀ d k f (v7 : Int) (v8 : Bool) (v9 : Bool) (v10 : Int) (v11 : Bool) (v12 : Bool) (v13 : Int) (v14 : Bool) (v15 : Bool) (v16 : Int) (v17 : Bool) (v18 : Bool), (k + d = n ∨ k + d = 60) → k ≤ n → k ≤ 60 → 2 * d < f → v10 ≠ 0 ∧ v11 = true ∧ v12 = false → iter (law15_MemFirmStep a0 a1 L n c N) f (.h2m0 k v7 v8 v9 v10 v11 v12 v13 v14 v15 v16 v17 v18) = some (.r0 true) := by
  intro d
  induction d with
  | zero =>
    intro k f v7 v8 v9 v10 v11 v12 v13 v14 v15 v16 v17 v18 hk hkn hk6 hf h
    obtain ⟨f, rfl⟩ : ∃ j, f = j + 1 := ⟨f - 1, by omega⟩
    refine iter_done ?_
    show law15_MemFirm_h2m0 a0 a1 L n c N k v7 v8 v9 v10 v11 v12 v13 v14 v15 v16 v17 v18 = _
    unfold law15_MemFirm_h2m0
    rcases hk with hk | hk
    · exact ite_no (by omega) rfl
    · exact ite_eq (fun _ => ite_no (by omega) rfl) (fun _ => rfl)
  | succ d ih =>
    intro k f v7 v8 v9 v10 v11 v12 v13 v14 v15 v16 v17 v18 hk hkn hk6 hf h
    by_cases e : k < n ∧ k < 60
    · obtain ⟨f, rfl⟩ : ∃ j, f = j + 1 + 1 := ⟨f - 2, by omega⟩
      obtain ⟨u7, u8, u9, u10, u11, u12, u13, u14, u15, u16, u17, u18, e1, e2⟩ := st1 (a1 := a1) (c := c) (N := N) hme v7 v8 v9 v10 v11 v12 v13 v14 v15 v16 v17 v18 h e.1 e.2 hn
      refine (iter_next (y := .h3m0 k u7 u8 u9 u10 u11 u12 u13 u14 u15 u16 u17 u18) e1).trans ?_
      refine (iter_next (y := .h2m0 (k + 1) u7 u8 u9 u10 u11 u12 u13 u14 u15 u16 u17 u18) (nd1 (a1 := a1) (c := c) (N := N) (L := L) (n := n) hme u7 u8 u9 u10 u11 u12 u13 u14 u15 u16 u17 u18 e2 e.2)).trans ?_
      exact ih (k + 1) f u7 u8 u9 u10 u11 u12 u13 u14 u15 u16 u17 u18 (by omega) (by omega) (by omega) (by omega) e2
    · obtain ⟨f, rfl⟩ : ∃ j, f = j + 1 := ⟨f - 1, by omega⟩
      refine iter_done ?_
      show law15_MemFirm_h2m0 a0 a1 L n c N k v7 v8 v9 v10 v11 v12 v13 v14 v15 v16 v17 v18 = _
      unfold law15_MemFirm_h2m0
      by_cases e1 : k < n
      · exact ite_yes (by omega) (ite_no (by omega) rfl)
      · exact ite_no (by omega) rfl
def Ok2 (k : Nat) : Option (law15_MemFirmX ⊕ law15_MemFirmR) → Prop
  | some (.inl (.h3m0 j u7 u8 u9 u10 u11 u12 u13 u14 u15 u16 u17 u18)) => j = k ∧ u13 ≠ 0 ∧ u14 = true ∧ u15 = false
  | _ => False
theorem ok2 {k : Nat} : ∀ {r : Option (law15_MemFirmX ⊕ law15_MemFirmR)}, Ok2 k r → ∃ u7 u8 u9 u10 u11 u12 u13 u14 u15 u16 u17 u18, r = some (.inl (.h3m0 k u7 u8 u9 u10 u11 u12 u13 u14 u15 u16 u17 u18)) ∧ u13 ≠ 0 ∧ u14 = true ∧ u15 = false
  | some (.inl (.h3m0 j u7 u8 u9 u10 u11 u12 u13 u14 u15 u16 u17 u18)), h => by
    obtain ⟨rfl, h⟩ := h
    exact ⟨u7, u8, u9, u10, u11, u12, u13, u14, u15, u16, u17, u18, rfl, h⟩
  | some (.inl .h1m0), h => h.elim
  | some (.inl (.h2m0 ..)), h => h.elim
  | some (.inr _), h => h.elim
  | none, h => h.elim
theorem ok_ite2 {k : Nat} {p : Prop} [Decidable p] {a b : Option (law15_MemFirmX ⊕ law15_MemFirmR)} (h1 : p → Ok2 k a) (h2 : ¬ p → Ok2 k b) : Ok2 k (if p then a else b) := by
  by_cases h : p
  · rw [if_pos h]; exact h1 h
  · rw [if_neg h]; exact h2 h
theorem st2 (hme : Int.tmod a0 4 = 2) (v7 : Int) (v8 : Bool) (v9 : Bool) (v10 : Int) (v11 : Bool) (v12 : Bool) (v13 : Int) (v14 : Bool) (v15 : Bool) (v16 : Int) (v17 : Bool) (v18 : Bool) (h : v13 ≠ 0 ∧ v14 = true ∧ v15 = false) (hk : k < n) (h6 : k < 60) (hn : n ≤ L.length) : ∃ u7 u8 u9 u10 u11 u12 u13 u14 u15 u16 u17 u18, law15_MemFirm_h2m0 a0 a1 L n c N k v7 v8 v9 v10 v11 v12 v13 v14 v15 v16 v17 v18 = some (.inl (.h3m0 k u7 u8 u9 u10 u11 u12 u13 u14 u15 u16 u17 u18)) ∧ u13 ≠ 0 ∧ u14 = true ∧ u15 = false := by
  obtain ⟨h7, rfl, rfl⟩ := h
  refine ok2 ?_
  unfold law15_MemFirm_h2m0
  rw [hme]
  repeat' (refine ok_ite2 (fun _ => ?_) (fun _ => ?_))
  all_goals first
    | exact ⟨rfl, h7, rfl, rfl⟩
    | (exfalso; omega)
    | (exfalso; simp_all; done)
theorem nd2 (hme : Int.tmod a0 4 = 2) (v7 : Int) (v8 : Bool) (v9 : Bool) (v10 : Int) (v11 : Bool) (v12 : Bool) (v13 : Int) (v14 : Bool) (v15 : Bool) (v16 : Int) (v17 : Bool) (v18 : Bool) (h : v13 ≠ 0 ∧ v14 = true ∧ v15 = false) (h6 : k < 60) : law15_MemFirm_h3m0 a0 a1 L n c N k v7 v8 v9 v10 v11 v12 v13 v14 v15 v16 v17 v18 = some (.inl (.h2m0 (k + 1) v7 v8 v9 v10 v11 v12 v13 v14 v15 v16 v17 v18)) := by
  obtain ⟨h7, rfl, rfl⟩ := h
  unfold law15_MemFirm_h3m0
  rw [hme]
  repeat' (refine ite_eq (fun _ => ?_) (fun _ => ?_))
  all_goals first
    | rfl
    | (exfalso; omega)
    | (exfalso; simp_all; done)
theorem go2 (hme : Int.tmod a0 4 = 2) (hn : n ≤ L.length) : ∀ d k f (v7 : Int) (v8 : Bool) (v9 : Bool) (v10 : Int) (v11 : Bool) (v12 : Bool) (v13 : Int) (v14 : Bool) (v15 : Bool) (v16 : Int) (v17 : Bool) (v18 : Bool), (k + d = n ∨ k + d = 60) → k ≤ n → k ≤ 60 → 2 * d < f → v13 ≠ 0 ∧ v14 = true ∧ v15 = false → iter (law15_MemFirmStep a0 a1 L n c N) f (.h2m0 k v7 v8 v9 v10 v11 v12 v13 v14 v15 v16 v17 v18) = some (.r0 true) := by
  intro d
  induction d with
  | zero =>
    intro k f v7 v8 v9 v10 v11 v12 v13 v14 v15 v16 v17 v18 hk hkn hk6 hf h
    obtain ⟨f, rfl⟩ : ∃ j, f = j + 1 := ⟨f - 1, by omega⟩
    refine iter_done ?_
    show law15_MemFirm_h2m0 a0 a1 L n c N k v7 v8 v9 v10 v11 v12 v13 v14 v15 v16 v17 v18 = _
    unfold law15_MemFirm_h2m0
    rcases hk with hk | hk
    · exact ite_no (by omega) rfl
    · exact ite_eq (fun _ => ite_no (by omega) rfl) (fun _ => rfl)
  | succ d ih =>
    intro k f v7 v8 v9 v10 v11 v12 v13 v14 v15 v16 v17 v18 hk hkn hk6 hf h
    by_cases e : k < n ∧ k < 60
    · obtain ⟨f, rfl⟩ : ∃ j, f = j + 1 + 1 := ⟨f - 2, by omega⟩
      obtain ⟨u7, u8, u9, u10, u11, u12, u13, u14, u15, u16, u17, u18, e1, e2⟩ := st2 (a1 := a1) (c := c) (N := N) hme v7 v8 v9 v10 v11 v12 v13 v14 v15 v16 v17 v18 h e.1 e.2 hn
      refine (iter_next (y := .h3m0 k u7 u8 u9 u10 u11 u12 u13 u14 u15 u16 u17 u18) e1).trans ?_
      refine (iter_next (y := .h2m0 (k + 1) u7 u8 u9 u10 u11 u12 u13 u14 u15 u16 u17 u18) (nd2 (a1 := a1) (c := c) (N := N) (L := L) (n := n) hme u7 u8 u9 u10 u11 u12 u13 u14 u15 u16 u17 u18 e2 e.2)).trans ?_
      exact ih (k + 1) f u7 u8 u9 u10 u11 u12 u13 u14 u15 u16 u17 u18 (by omega) (by omega) (by omega) (by omega) e2
    · obtain ⟨f, rfl⟩ : ∃ j, f = j + 1 := ⟨f - 1, by omega⟩
      refine iter_done ?_
      show law15_MemFirm_h2m0 a0 a1 L n c N k v7 v8 v9 v10 v11 v12 v13 v14 v15 v16 v17 v18 = _
      unfold law15_MemFirm_h2m0
      by_cases e1 : k < n
      · exact ite_yes (by omega) (ite_no (by omega) rfl)
      · exact ite_no (by omega) rfl
def Ok3 (k : Nat) : Option (law15_MemFirmX ⊕ law15_MemFirmR) → Prop
  | some (.inl (.h3m0 j u7 u8 u9 u10 u11 u12 u13 u14 u15 u16 u17 u18)) => j = k ∧ u16 ≠ 0 ∧ u17 = true ∧ u18 = false
  | _ => False
theorem ok3 {k : Nat} : ∀ {r : Option (law15_MemFirmX ⊕ law15_MemFirmR)}, Ok3 k r → ∃ u7 u8 u9 u10 u11 u12 u13 u14 u15 u16 u17 u18, r = some (.inl (.h3m0 k u7 u8 u9 u10 u11 u12 u13 u14 u15 u16 u17 u18)) ∧ u16 ≠ 0 ∧ u17 = true ∧ u18 = false
  | some (.inl (.h3m0 j u7 u8 u9 u10 u11 u12 u13 u14 u15 u16 u17 u18)), h => by
    obtain ⟨rfl, h⟩ := h
    exact ⟨u7, u8, u9, u10, u11, u12, u13, u14, u15, u16, u17, u18, rfl, h⟩
  | some (.inl .h1m0), h => h.elim
  | some (.inl (.h2m0 ..)), h => h.elim
  | some (.inr _), h => h.elim
  | none, h => h.elim
theorem ok_ite3 {k : Nat} {p : Prop} [Decidable p] {a b : Option (law15_MemFirmX ⊕ law15_MemFirmR)} (h1 : p → Ok3 k a) (h2 : ¬ p → Ok3 k b) : Ok3 k (if p then a else b) := by
  by_cases h : p
  · rw [if_pos h]; exact h1 h
  · rw [if_neg h]; exact h2 h
theorem st3 (hme : Int.tmod a0 4 = 3) (v7 : Int) (v8 : Bool) (v9 : Bool) (v10 : Int) (v11 : Bool) (v12 : Bool) (v13 : Int) (v14 : Bool) (v15 : Bool) (v16 : Int) (v17 : Bool) (v18 : Bool) (h : v16 ≠ 0 ∧ v17 = true ∧ v18 = false) (hk : k < n) (h6 : k < 60) (hn : n ≤ L.length) : ∃ u7 u8 u9 u10 u11 u12 u13 u14 u15 u16 u17 u18, law15_MemFirm_h2m0 a0 a1 L n c N k v7 v8 v9 v10 v11 v12 v13 v14 v15 v16 v17 v18 = some (.inl (.h3m0 k u7 u8 u9 u10 u11 u12 u13 u14 u15 u16 u17 u18)) ∧ u16 ≠ 0 ∧ u17 = true ∧ u18 = false := by
  obtain ⟨h7, rfl, rfl⟩ := h
  refine ok3 ?_
  unfold law15_MemFirm_h2m0
  rw [hme]
  repeat' (refine ok_ite3 (fun _ => ?_) (fun _ => ?_))
  all_goals first
    | exact ⟨rfl, h7, rfl, rfl⟩
    | (exfalso; omega)
    | (exfalso; simp_all; done)
theorem nd3 (hme : Int.tmod a0 4 = 3) (v7 : Int) (v8 : Bool) (v9 : Bool) (v10 : Int) (v11 : Bool) (v12 : Bool) (v13 : Int) (v14 : Bool) (v15 : Bool) (v16 : Int) (v17 : Bool) (v18 : Bool) (h : v16 ≠ 0 ∧ v17 = true ∧ v18 = false) (h6 : k < 60) : law15_MemFirm_h3m0 a0 a1 L n c N k v7 v8 v9 v10 v11 v12 v13 v14 v15 v16 v17 v18 = some (.inl (.h2m0 (k + 1) v7 v8 v9 v10 v11 v12 v13 v14 v15 v16 v17 v18)) := by
  obtain ⟨h7, rfl, rfl⟩ := h
  unfold law15_MemFirm_h3m0
  rw [hme]
  repeat' (refine ite_eq (fun _ => ?_) (fun _ => ?_))
  all_goals first
    | rfl
    | (exfalso; omega)
    | (exfalso; simp_all; done)
theorem go3 (hme : Int.tmod a0 4 = 3) (hn : n ≤ L.length) : ∀ d k f (v7 : Int) (v8 : Bool) (v9 : Bool) (v10 : Int) (v11 : Bool) (v12 : Bool) (v13 : Int) (v14 : Bool) (v15 : Bool) (v16 : Int) (v17 : Bool) (v18 : Bool), (k + d = n ∨ k + d = 60) → k ≤ n → k ≤ 60 → 2 * d < f → v16 ≠ 0 ∧ v17 = true ∧ v18 = false → iter (law15_MemFirmStep a0 a1 L n c N) f (.h2m0 k v7 v8 v9 v10 v11 v12 v13 v14 v15 v16 v17 v18) = some (.r0 true) := by
  intro d
  induction d with
  | zero =>
    intro k f v7 v8 v9 v10 v11 v12 v13 v14 v15 v16 v17 v18 hk hkn hk6 hf h
    obtain ⟨f, rfl⟩ : ∃ j, f = j + 1 := ⟨f - 1, by omega⟩
    refine iter_done ?_
    show law15_MemFirm_h2m0 a0 a1 L n c N k v7 v8 v9 v10 v11 v12 v13 v14 v15 v16 v17 v18 = _
    unfold law15_MemFirm_h2m0
    rcases hk with hk | hk
    · exact ite_no (by omega) rfl
    · exact ite_eq (fun _ => ite_no (by omega) rfl) (fun _ => rfl)
  | succ d ih =>
    intro k f v7 v8 v9 v10 v11 v12 v13 v14 v15 v16 v17 v18 hk hkn hk6 hf h
    by_cases e : k < n ∧ k < 60
    · obtain ⟨f, rfl⟩ : ∃ j, f = j + 1 + 1 := ⟨f - 2, by omega⟩
      obtain ⟨u7, u8, u9, u10, u11, u12, u13, u14, u15, u16, u17, u18, e1, e2⟩ := st3 (a1 := a1) (c := c) (N := N) hme v7 v8 v9 v10 v11 v12 v13 v14 v15 v16 v17 v18 h e.1 e.2 hn
      refine (iter_next (y := .h3m0 k u7 u8 u9 u10 u11 u12 u13 u14 u15 u16 u17 u18) e1).trans ?_
      refine (iter_next (y := .h2m0 (k + 1) u7 u8 u9 u10 u11 u12 u13 u14 u15 u16 u17 u18) (nd3 (a1 := a1) (c := c) (N := N) (L := L) (n := n) hme u7 u8 u9 u10 u11 u12 u13 u14 u15 u16 u17 u18 e2 e.2)).trans ?_
      exact ih (k + 1) f u7 u8 u9 u10 u11 u12 u13 u14 u15 u16 u17 u18 (by omega) (by omega) (by omega) (by omega) e2
    · obtain ⟨f, rfl⟩ : ∃ j, f = j + 1 := ⟨f - 1, by omega⟩
      refine iter_done ?_
      show law15_MemFirm_h2m0 a0 a1 L n c N k v7 v8 v9 v10 v11 v12 v13 v14 v15 v16 v17 v18 = _
      unfold law15_MemFirm_h2m0
      by_cases e1 : k < n
      · exact ite_yes (by omega) (ite_no (by omega) rfl)
      · exact ite_no (by omega) rfl
end
theorem runs (a0 a1 : Int) (u1 : 0 ≤ a0) (u2 : a0 ≤ 255) (L : List R_iiiib) (n c : Nat) (hn : n ≤ L.length) : law15_MemFirm a0 a1 L n c 100000 = some (.r0 true) := by
  have e4 : Int.tmod a0 4 = a0 % 4 := Int.tmod_eq_emod_of_nonneg u1
  have hc : a0 % 4 = 0 ∨ a0 % 4 = 1 ∨ a0 % 4 = 2 ∨ a0 % 4 = 3 := by omega
  have fuel : ∃ d, (0 + d = n ∨ 0 + d = 60) ∧ d ≤ 60 := by
    by_cases h : n ≤ 60
    · exact ⟨n, .inl (by omega), h⟩
    · exact ⟨60, .inr rfl, by omega⟩
  obtain ⟨d, hd, hd6⟩ := fuel
  unfold law15_MemFirm
  rw [goM_in (show law15_MemFirmIn a0 a1 L n c 100000 = some (.inl .h1m0) from rfl)]
  by_cases h1 : a1 < 1
  · refine iter_done ?_
    show law15_MemFirm_h1m0 a0 a1 L n c 100000 = _
    unfold law15_MemFirm_h1m0
    refine ite_yes (by omega) (ite_yes (by omega) (ite_no (by omega) (ite_no (by omega) ?_)))
    exact ite_eq (fun _ => ite_yes h1 rfl) (fun _ => ite_eq (fun _ => ite_yes h1 rfl) (fun _ => ite_eq (fun _ => ite_yes h1 rfl) (fun _ => ite_yes h1 rfl)))
  · rcases hc with h | h | h | h
    · have hin : law15_MemFirm_h1m0 a0 a1 L n c 100000 = some (.inl (.h2m0 0 a1 true false 0 false false 0 false false 0 false false)) := by
        unfold law15_MemFirm_h1m0
        rw [e4, h]
        exact ite_yes (by omega) (ite_yes (by omega) (ite_no (by decide) (ite_no (by decide) (ite_yes (by decide) (ite_no h1 rfl)))))
      refine (iter_next hin).trans ?_
      exact go0 (e4.trans h) hn d 0 99999 _ _ _ _ _ _ _ _ _ _ _ _ (by omega) (by omega) (by omega) (by omega) ⟨by omega, rfl, rfl⟩
    · have hin : law15_MemFirm_h1m0 a0 a1 L n c 100000 = some (.inl (.h2m0 0 0 false false a1 true false 0 false false 0 false false)) := by
        unfold law15_MemFirm_h1m0
        rw [e4, h]
        exact ite_yes (by omega) (ite_yes (by omega) (ite_no (by decide) (ite_no (by decide) (ite_no (by decide) (ite_yes (by decide) (ite_no h1 rfl))))))
      refine (iter_next hin).trans ?_
      exact go1 (e4.trans h) hn d 0 99999 _ _ _ _ _ _ _ _ _ _ _ _ (by omega) (by omega) (by omega) (by omega) ⟨by omega, rfl, rfl⟩
    · have hin : law15_MemFirm_h1m0 a0 a1 L n c 100000 = some (.inl (.h2m0 0 0 false false 0 false false a1 true false 0 false false)) := by
        unfold law15_MemFirm_h1m0
        rw [e4, h]
        exact ite_yes (by omega) (ite_yes (by omega) (ite_no (by decide) (ite_no (by decide) (ite_no (by decide) (ite_no (by decide) (ite_yes (by decide) (ite_no h1 rfl)))))))
      refine (iter_next hin).trans ?_
      exact go2 (e4.trans h) hn d 0 99999 _ _ _ _ _ _ _ _ _ _ _ _ (by omega) (by omega) (by omega) (by omega) ⟨by omega, rfl, rfl⟩
    · have hin : law15_MemFirm_h1m0 a0 a1 L n c 100000 = some (.inl (.h2m0 0 0 false false 0 false false 0 false false a1 true false)) := by
        unfold law15_MemFirm_h1m0
        rw [e4, h]
        exact ite_yes (by omega) (ite_yes (by omega) (ite_no (by decide) (ite_no (by decide) (ite_no (by decide) (ite_no (by decide) (ite_no (by decide) (ite_no h1 rfl)))))))
      refine (iter_next hin).trans ?_
      exact go3 (e4.trans h) hn d 0 99999 _ _ _ _ _ _ _ _ _ _ _ _ (by omega) (by omega) (by omega) (by omega) ⟨by omega, rfl, rfl⟩
theorem runs2 (a0 a1 : Int) (u1 : 0 ≤ a0) (u2 : a0 ≤ 255) : law15_MemFirm_2 a0 a1 100000 = some (.r0 true) := by
  have e4 : Int.tmod a0 4 = a0 % 4 := Int.tmod_eq_emod_of_nonneg u1
  unfold law15_MemFirm_2
  rw [goM_in (show law15_MemFirm_2In a0 a1 100000 = some (.inl .h1m0) from rfl)]
  have : ∃ s, law15_MemFirm_2_h1m0 a0 a1 100000 = some s ∧ (s = .inr (.r0 true) ∨ ∃ v3 v4 v6 v7 v9 v10 v12 v13, s = .inl (.h2m0 v3 v4 v6 v7 v9 v10 v12 v13)) := by
    have g : ∀ {p : Prop} [Decidable p] {a b : Option (law15_MemFirm_2X ⊕ law15_MemFirm_2R)} {Q : Option (law15_MemFirm_2X ⊕ law15_MemFirm_2R) → Prop}, (p → Q a) → (¬ p → Q b) → Q (if p then a else b) := fun {p} _ {a b Q} h1 h2 => by
      by_cases h : p
      · rw [if_pos h]; exact h1 h
      · rw [if_neg h]; exact h2 h
    unfold law15_MemFirm_2_h1m0
    repeat' (refine g (Q := fun r => ∃ s, r = some s ∧ (s = .inr (.r0 true) ∨ ∃ v3 v4 v6 v7 v9 v10 v12 v13, s = .inl (.h2m0 v3 v4 v6 v7 v9 v10 v12 v13))) (fun _ => ?_) (fun _ => ?_))
    all_goals first
      | exact ⟨_, rfl, .inl rfl⟩
      | exact ⟨_, rfl, .inr ⟨_, _, _, _, _, _, _, _, rfl⟩⟩
      | (exfalso; omega)
  obtain ⟨s, h1, rfl | ⟨v3, v4, v6, v7, v9, v10, v12, v13, rfl⟩⟩ := this
  · exact iter_done h1
  · exact (iter_next h1).trans (iter_done rfl)
end Mf
end Ev
end Go.Proofs.Ytigjdlljpklbiaa
