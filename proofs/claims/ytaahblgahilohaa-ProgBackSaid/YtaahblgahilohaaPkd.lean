/- Instructions and their bytes: plain. -/
import Derived.Test.YtaahblgahilohaaPkr
import Derived.Test.YtaahblgahilohaaByt
namespace Go.Proofs.Ytaahblgahilohaa
open Go.RowKit
namespace Ev
set_option linter.unusedVariables false
set_option linter.unusedSimpArgs false
theorem pow_small {a : Int} (h1 : 1 ≤ a) (h2 : a ≤ 16) : ∃ k : Nat, (1 : Int) * (2 ^ a.toNat : Int) = (k : Int) ∧ 2 ≤ k ∧ k ≤ 65536 := by
  have h : a.toNat = 1 ∨ a.toNat = 2 ∨ a.toNat = 3 ∨ a.toNat = 4 ∨ a.toNat = 5 ∨ a.toNat = 6 ∨ a.toNat = 7 ∨ a.toNat = 8 ∨ a.toNat = 9 ∨ a.toNat = 10 ∨ a.toNat = 11 ∨ a.toNat = 12 ∨ a.toNat = 13 ∨ a.toNat = 14 ∨ a.toNat = 15 ∨ a.toNat = 16 := by omega
  rcases h with h | h | h | h | h | h | h | h | h | h | h | h | h | h | h | h <;> rw [h]
  · exact ⟨2, by decide, by decide, by decide⟩
  · exact ⟨4, by decide, by decide, by decide⟩
  · exact ⟨8, by decide, by decide, by decide⟩
  · exact ⟨16, by decide, by decide, by decide⟩
  · exact ⟨32, by decide, by decide, by decide⟩
  · exact ⟨64, by decide, by decide, by decide⟩
  · exact ⟨128, by decide, by decide, by decide⟩
  · exact ⟨256, by decide, by decide, by decide⟩
  · exact ⟨512, by decide, by decide, by decide⟩
  · exact ⟨1024, by decide, by decide, by decide⟩
  · exact ⟨2048, by decide, by decide, by decide⟩
  · exact ⟨4096, by decide, by decide, by decide⟩
  · exact ⟨8192, by decide, by decide, by decide⟩
  · exact ⟨16384, by decide, by decide, by decide⟩
  · exact ⟨32768, by decide, by decide, by decide⟩
  · exact ⟨65536, by decide, by decide, by decide⟩
theorem run3 {op A B C : Int} {N s0 s1 s2 : Nat} {b0 b1 b2 : Bool} (hN : 4 ≤ N) (h0 : instr_shape_fits s0 A 0 N = some (.r0 b0)) (h1 : b0 = true → instr_shape_fits s1 B A N = some (.r0 b1)) (h2 : b0 = true → b1 = true → instr_shape_fits s2 C B N = some (.r0 b2)) :
    iter (instr_CheckStep op A B C N) N (.h1m0 s0 s1 s2) = some (.r0 (if (b0 && b1 && b2) = true then 0 else 100)) := by
  obtain ⟨n, rfl⟩ : ∃ n, N = n + 4 := ⟨N - 4, by omega⟩
  cases b0 with
  | false =>
    refine iter_done ?_
    show instr_Check_h1m0 op A B C (n + 4) s0 s1 s2 = _
    unfold instr_Check_h1m0
    rw [h0]; rfl
  | true =>
    refine (iter_next (y := .h1m1 s0 s1 s2) ?_).trans ?_
    · show instr_Check_h1m0 op A B C (n + 4) s0 s1 s2 = _
      unfold instr_Check_h1m0
      rw [h0]; rfl
    · cases b1 with
      | false =>
        refine iter_done ?_
        show instr_Check_h1m1 op A B C (n + 4) s0 s1 s2 = _
        unfold instr_Check_h1m1
        rw [h1 rfl]; rfl
      | true =>
        refine (iter_next (y := .h1m2 s0 s1 s2) ?_).trans ?_
        · show instr_Check_h1m1 op A B C (n + 4) s0 s1 s2 = _
          unfold instr_Check_h1m1
          rw [h1 rfl]; rfl
        · cases b2 with
          | false =>
            refine iter_done ?_
            show instr_Check_h1m2 op A B C (n + 4) s0 s1 s2 = _
            unfold instr_Check_h1m2
            rw [h2 rfl rfl]; rfl
          | true =>
            refine (iter_next (y := .h1m3 s0 s1 s2) ?_).trans ?_
            · show instr_Check_h1m2 op A B C (n + 4) s0 s1 s2 = _
              unfold instr_Check_h1m2
              rw [h2 rfl rfl]; rfl
            · refine iter_done ?_
              show instr_Check_h1m3 op A B C (n + 4) s0 s1 s2 = _
              rfl
theorem fr_1 (n a : Int) (N : Nat) : ∃ b, instr_shape_fits 1 n a N = some (.r0 b) ∧ (b = true → (0 : Int) ≤ n ∧ n ≤ 7) := by
  refine ⟨decide ((0 : Int) ≤ n ∧ n ≤ 7), ?_, fun h => by simpa using h⟩
  unfold instr_shape_fits; rw [if_pos rfl]; by_cases h1 : (0 : Int) ≤ n <;> by_cases h2 : n ≤ 7 <;> simp [h1, h2]
theorem fr_2 (n a : Int) (N : Nat) : ∃ b, instr_shape_fits 2 n a N = some (.r0 b) ∧ (b = true → (0 : Int) ≤ n ∧ n ≤ 15) := by
  refine ⟨decide ((0 : Int) ≤ n ∧ n ≤ 15), ?_, fun h => by simpa using h⟩
  unfold instr_shape_fits; rw [if_neg (by decide), if_pos rfl]; by_cases h1 : (0 : Int) ≤ n <;> by_cases h2 : n ≤ 15 <;> simp [h1, h2]
theorem fr_3 (n a : Int) (N : Nat) : ∃ b, instr_shape_fits 3 n a N = some (.r0 b) ∧ (b = true → (1 : Int) ≤ n ∧ n ≤ 16) := by
  refine ⟨decide ((1 : Int) ≤ n ∧ n ≤ 16), ?_, fun h => by simpa using h⟩
  unfold instr_shape_fits; rw [if_neg (by decide), if_neg (by decide), if_pos rfl]; by_cases h1 : (1 : Int) ≤ n <;> by_cases h2 : n ≤ 16 <;> simp [h1, h2]
theorem fr_4 (n a : Int) (N : Nat) : ∃ b, instr_shape_fits 4 n a N = some (.r0 b) ∧ (b = true → (0 : Int) ≤ n ∧ n ≤ 512) := by
  refine ⟨decide ((0 : Int) ≤ n ∧ n ≤ 512), ?_, fun h => by simpa using h⟩
  unfold instr_shape_fits; rw [if_neg (by decide), if_neg (by decide), if_neg (by decide), if_pos rfl]; by_cases h1 : (0 : Int) ≤ n <;> by_cases h2 : n ≤ 512 <;> simp [h1, h2]
theorem fr_6 (n a : Int) (N : Nat) : ∃ b, instr_shape_fits 6 n a N = some (.r0 b) ∧ (b = true → (-1099511627776 : Int) ≤ n ∧ n ≤ 1099511627776) := by
  refine ⟨decide ((-1099511627776 : Int) ≤ n ∧ n ≤ 1099511627776), ?_, fun h => by simpa using h⟩
  unfold instr_shape_fits; rw [if_neg (by decide), if_neg (by decide), if_neg (by decide), if_neg (by decide), if_neg (by decide), if_pos rfl]; by_cases h1 : (-1099511627776 : Int) ≤ n <;> by_cases h2 : n ≤ 1099511627776 <;> simp [h1, h2]
theorem fr_0 (n a : Int) (N : Nat) : ∃ b, instr_shape_fits 0 n a N = some (.r0 b) ∧ (b = true → n = 0) := by
  refine ⟨decide (n = 0), ?_, fun h => by simpa using h⟩
  unfold instr_shape_fits; rw [if_neg (by decide), if_neg (by decide), if_neg (by decide), if_neg (by decide), if_neg (by decide), if_neg (by decide)]
  by_cases h1 : (0 : Int) ≤ n <;> by_cases h2 : n ≤ 0 <;> simp [h1, h2] <;> omega
theorem fr_5 (n a : Int) (N : Nat) (h1 : 1 ≤ a) (h2 : a ≤ 16) : ∃ b, instr_shape_fits 5 n a N = some (.r0 b) ∧ (b = true → 0 ≤ n ∧ n ≤ 65535) := by
  obtain ⟨k, hk, k1, k2⟩ := pow_small h1 h2
  have w1 : IntKind.i64.wrap ((1 : Int) * (2 ^ a.toNat : Int)) = (k : Int) := by rw [hk]; exact w64 (by omega) (by omega)
  refine ⟨decide (0 ≤ n ∧ n ≤ (k : Int) - 1), ?_, fun h => by have := of_decide_eq_true h; omega⟩
  unfold instr_shape_fits
  rw [if_neg (by decide), if_neg (by decide), if_neg (by decide), if_neg (by decide), if_pos rfl, if_pos (by omega), if_pos (by omega), w1, w64 (by omega) (by omega)]
  by_cases h1 : (0 : Int) ≤ n <;> by_cases h2 : n ≤ (k : Int) - 1 <;> simp [h1, h2]
theorem rng_of {A : Int} {w : Nat} (h : (w = 0 ∧ A = 0) ∨ (w = 1 ∧ 0 ≤ A ∧ A ≤ 255) ∨ (w = 2 ∧ 0 ≤ A ∧ A ≤ 65535) ∨ (w = 3 ∧ 0 ≤ A ∧ A ≤ 16777215) ∨ (w = 8 ∧ -1099511627776 ≤ A ∧ A ≤ 1099511627776)) : Rng w A := by
  unfold Rng; omega
/-- What is known of a kind. -/
structure Kd (op : Int) (N : Nat) (nm : List Int) (s0 s1 s2 h0 h1 h2 : Int) (b : Bool) (w0 w1 w2 : Nat) : Prop where
  k : instr_kind_2 op N = some (.r0 nm s0 s1 s2)
  e : strB nm [] = !b
  l0 : Wd w0
  l1 : Wd w1
  l2 : Wd w2
  ws : w0 + w1 + w2 ≤ 9
  a0 : instr_shape_width s0 N = some (.r0 (w0 : Int))
  a1 : instr_shape_width s1 N = some (.r0 (w1 : Int))
  a2 : instr_shape_width s2 N = some (.r0 (w2 : Int))
  rg : b = true → 1 ≤ op ∧ op ≤ 20
  chk : 4 ≤ N → ∀ A B C, ∃ d, instr_Check op A B C N = some (.r0 (if d = true then 0 else 100)) ∧ (d = true → b = true ∧ Rng w0 A ∧ Rng w1 B ∧ Rng w2 C)
theorem Wd.le {w : Nat} (h : Wd w) : w ≤ 8 := by unfold Wd at h; omega
theorem kd_no {op : Int} {N : Nat} (h : op < 0 ∨ 21 ≤ op ∨ op = 0) : Kd op N [] 0 0 0 0 0 0 false 0 0 0 := by
  have hk : instr_kind op N = some .r0 := by
    unfold instr_kind
    by_cases h1 : op < 0
    · exact ite_yes h1 rfl
    · by_cases h2 : 21 ≤ op
      · exact ite_no h1 <| ite_yes h2 rfl
      · exact ite_no h1 <| ite_no h2 <| ite_yes (by omega) rfl
  have hk2 : instr_kind_2 op N = some (.r0 [] 0 0 0) := by
    unfold instr_kind_2
    by_cases h1 : op < 0
    · exact ite_yes h1 rfl
    · by_cases h2 : 21 ≤ op
      · exact ite_no h1 <| ite_yes h2 rfl
      · exact ite_no h1 <| ite_no h2 <| ite_yes (by omega) rfl
  exact { k := hk2, e := (by decide +kernel), l0 := .inl rfl, l1 := .inl rfl, l2 := .inl rfl, ws := (by omega), a0 := rfl, a1 := rfl, a2 := rfl, rg := (fun h => by cases h), chk := fun hN A B C => ⟨false, goM_out (bind_to hk rfl), (fun h => by cases h)⟩ }
theorem chk_1 {N : Nat} (hN : 4 ≤ N) (A B C : Int) : ∃ d, instr_Check 1 A B C N = some (.r0 (if d = true then 0 else 100)) ∧ (d = true → true = true ∧ Rng 1 A ∧ Rng 8 B ∧ Rng 0 C) := by
  obtain ⟨b0, p0, q0⟩ := fr_1 A 0 N
  obtain ⟨b1, p1, q1⟩ := fr_6 B A N
  obtain ⟨b2, p2, q2⟩ := fr_0 C B N
  exact ⟨b0 && b1 && b2, (goM_in (show instr_CheckIn 1 A B C N = some (.inl (.h1m0 1 6 0)) from rfl)).trans (run3 hN p0 (fun _ => p1) (fun _ _ => p2)), fun h => by
    simp only [Bool.and_eq_true] at h
    exact ⟨rfl, rng_of (by have := q0 h.1.1; omega), rng_of (by have := q1 h.1.2; omega), rng_of (by have := q2 h.2; omega)⟩⟩
theorem kd_1 {N : Nat} : ∃ nm s0 s1 s2 h0 h1 h2, Kd 1 N nm s0 s1 s2 h0 h1 h2 true 1 8 0 :=
  ⟨_, _, _, _, 0, 0, 0, { k := rfl, e := (by decide +kernel), l0 := (by unfold Wd; omega), l1 := (by unfold Wd; omega), l2 := (by unfold Wd; omega), ws := (by omega), a0 := rfl, a1 := rfl, a2 := rfl, rg := (fun _ => by omega), chk := chk_1 }⟩
theorem chk_2 {N : Nat} (hN : 4 ≤ N) (A B C : Int) : ∃ d, instr_Check 2 A B C N = some (.r0 (if d = true then 0 else 100)) ∧ (d = true → true = true ∧ Rng 1 A ∧ Rng 0 B ∧ Rng 0 C) := by
  obtain ⟨b0, p0, q0⟩ := fr_1 A 0 N
  obtain ⟨b1, p1, q1⟩ := fr_0 B A N
  obtain ⟨b2, p2, q2⟩ := fr_0 C B N
  exact ⟨b0 && b1 && b2, (goM_in (show instr_CheckIn 2 A B C N = some (.inl (.h1m0 1 0 0)) from rfl)).trans (run3 hN p0 (fun _ => p1) (fun _ _ => p2)), fun h => by
    simp only [Bool.and_eq_true] at h
    exact ⟨rfl, rng_of (by have := q0 h.1.1; omega), rng_of (by have := q1 h.1.2; omega), rng_of (by have := q2 h.2; omega)⟩⟩
theorem kd_2 {N : Nat} : ∃ nm s0 s1 s2 h0 h1 h2, Kd 2 N nm s0 s1 s2 h0 h1 h2 true 1 0 0 :=
  ⟨_, _, _, _, 0, 0, 0, { k := rfl, e := (by decide +kernel), l0 := (by unfold Wd; omega), l1 := (by unfold Wd; omega), l2 := (by unfold Wd; omega), ws := (by omega), a0 := rfl, a1 := rfl, a2 := rfl, rg := (fun _ => by omega), chk := chk_2 }⟩
theorem chk_3 {N : Nat} (hN : 4 ≤ N) (A B C : Int) : ∃ d, instr_Check 3 A B C N = some (.r0 (if d = true then 0 else 100)) ∧ (d = true → true = true ∧ Rng 1 A ∧ Rng 1 B ∧ Rng 0 C) := by
  obtain ⟨b0, p0, q0⟩ := fr_1 A 0 N
  obtain ⟨b1, p1, q1⟩ := fr_1 B A N
  obtain ⟨b2, p2, q2⟩ := fr_0 C B N
  exact ⟨b0 && b1 && b2, (goM_in (show instr_CheckIn 3 A B C N = some (.inl (.h1m0 1 1 0)) from rfl)).trans (run3 hN p0 (fun _ => p1) (fun _ _ => p2)), fun h => by
    simp only [Bool.and_eq_true] at h
    exact ⟨rfl, rng_of (by have := q0 h.1.1; omega), rng_of (by have := q1 h.1.2; omega), rng_of (by have := q2 h.2; omega)⟩⟩
theorem kd_3 {N : Nat} : ∃ nm s0 s1 s2 h0 h1 h2, Kd 3 N nm s0 s1 s2 h0 h1 h2 true 1 1 0 :=
  ⟨_, _, _, _, 0, 0, 0, { k := rfl, e := (by decide +kernel), l0 := (by unfold Wd; omega), l1 := (by unfold Wd; omega), l2 := (by unfold Wd; omega), ws := (by omega), a0 := rfl, a1 := rfl, a2 := rfl, rg := (fun _ => by omega), chk := chk_3 }⟩
theorem chk_4 {N : Nat} (hN : 4 ≤ N) (A B C : Int) : ∃ d, instr_Check 4 A B C N = some (.r0 (if d = true then 0 else 100)) ∧ (d = true → true = true ∧ Rng 1 A ∧ Rng 1 B ∧ Rng 1 C) := by
  obtain ⟨b0, p0, q0⟩ := fr_1 A 0 N
  obtain ⟨b1, p1, q1⟩ := fr_1 B A N
  obtain ⟨b2, p2, q2⟩ := fr_1 C B N
  exact ⟨b0 && b1 && b2, (goM_in (show instr_CheckIn 4 A B C N = some (.inl (.h1m0 1 1 1)) from rfl)).trans (run3 hN p0 (fun _ => p1) (fun _ _ => p2)), fun h => by
    simp only [Bool.and_eq_true] at h
    exact ⟨rfl, rng_of (by have := q0 h.1.1; omega), rng_of (by have := q1 h.1.2; omega), rng_of (by have := q2 h.2; omega)⟩⟩
theorem kd_4 {N : Nat} : ∃ nm s0 s1 s2 h0 h1 h2, Kd 4 N nm s0 s1 s2 h0 h1 h2 true 1 1 1 :=
  ⟨_, _, _, _, 0, 0, 0, { k := rfl, e := (by decide +kernel), l0 := (by unfold Wd; omega), l1 := (by unfold Wd; omega), l2 := (by unfold Wd; omega), ws := (by omega), a0 := rfl, a1 := rfl, a2 := rfl, rg := (fun _ => by omega), chk := chk_4 }⟩
theorem chk_5 {N : Nat} (hN : 4 ≤ N) (A B C : Int) : ∃ d, instr_Check 5 A B C N = some (.r0 (if d = true then 0 else 100)) ∧ (d = true → true = true ∧ Rng 1 A ∧ Rng 1 B ∧ Rng 1 C) := by
  obtain ⟨b0, p0, q0⟩ := fr_1 A 0 N
  obtain ⟨b1, p1, q1⟩ := fr_1 B A N
  obtain ⟨b2, p2, q2⟩ := fr_1 C B N
  exact ⟨b0 && b1 && b2, (goM_in (show instr_CheckIn 5 A B C N = some (.inl (.h1m0 1 1 1)) from rfl)).trans (run3 hN p0 (fun _ => p1) (fun _ _ => p2)), fun h => by
    simp only [Bool.and_eq_true] at h
    exact ⟨rfl, rng_of (by have := q0 h.1.1; omega), rng_of (by have := q1 h.1.2; omega), rng_of (by have := q2 h.2; omega)⟩⟩
theorem kd_5 {N : Nat} : ∃ nm s0 s1 s2 h0 h1 h2, Kd 5 N nm s0 s1 s2 h0 h1 h2 true 1 1 1 :=
  ⟨_, _, _, _, 0, 0, 0, { k := rfl, e := (by decide +kernel), l0 := (by unfold Wd; omega), l1 := (by unfold Wd; omega), l2 := (by unfold Wd; omega), ws := (by omega), a0 := rfl, a1 := rfl, a2 := rfl, rg := (fun _ => by omega), chk := chk_5 }⟩
theorem chk_6 {N : Nat} (hN : 4 ≤ N) (A B C : Int) : ∃ d, instr_Check 6 A B C N = some (.r0 (if d = true then 0 else 100)) ∧ (d = true → true = true ∧ Rng 1 A ∧ Rng 1 B ∧ Rng 1 C) := by
  obtain ⟨b0, p0, q0⟩ := fr_1 A 0 N
  obtain ⟨b1, p1, q1⟩ := fr_1 B A N
  obtain ⟨b2, p2, q2⟩ := fr_1 C B N
  exact ⟨b0 && b1 && b2, (goM_in (show instr_CheckIn 6 A B C N = some (.inl (.h1m0 1 1 1)) from rfl)).trans (run3 hN p0 (fun _ => p1) (fun _ _ => p2)), fun h => by
    simp only [Bool.and_eq_true] at h
    exact ⟨rfl, rng_of (by have := q0 h.1.1; omega), rng_of (by have := q1 h.1.2; omega), rng_of (by have := q2 h.2; omega)⟩⟩
theorem kd_6 {N : Nat} : ∃ nm s0 s1 s2 h0 h1 h2, Kd 6 N nm s0 s1 s2 h0 h1 h2 true 1 1 1 :=
  ⟨_, _, _, _, 0, 0, 0, { k := rfl, e := (by decide +kernel), l0 := (by unfold Wd; omega), l1 := (by unfold Wd; omega), l2 := (by unfold Wd; omega), ws := (by omega), a0 := rfl, a1 := rfl, a2 := rfl, rg := (fun _ => by omega), chk := chk_6 }⟩
theorem chk_7 {N : Nat} (hN : 4 ≤ N) (A B C : Int) : ∃ d, instr_Check 7 A B C N = some (.r0 (if d = true then 0 else 100)) ∧ (d = true → true = true ∧ Rng 1 A ∧ Rng 1 B ∧ Rng 1 C) := by
  obtain ⟨b0, p0, q0⟩ := fr_1 A 0 N
  obtain ⟨b1, p1, q1⟩ := fr_1 B A N
  obtain ⟨b2, p2, q2⟩ := fr_1 C B N
  exact ⟨b0 && b1 && b2, (goM_in (show instr_CheckIn 7 A B C N = some (.inl (.h1m0 1 1 1)) from rfl)).trans (run3 hN p0 (fun _ => p1) (fun _ _ => p2)), fun h => by
    simp only [Bool.and_eq_true] at h
    exact ⟨rfl, rng_of (by have := q0 h.1.1; omega), rng_of (by have := q1 h.1.2; omega), rng_of (by have := q2 h.2; omega)⟩⟩
theorem kd_7 {N : Nat} : ∃ nm s0 s1 s2 h0 h1 h2, Kd 7 N nm s0 s1 s2 h0 h1 h2 true 1 1 1 :=
  ⟨_, _, _, _, 0, 0, 0, { k := rfl, e := (by decide +kernel), l0 := (by unfold Wd; omega), l1 := (by unfold Wd; omega), l2 := (by unfold Wd; omega), ws := (by omega), a0 := rfl, a1 := rfl, a2 := rfl, rg := (fun _ => by omega), chk := chk_7 }⟩
theorem chk_8 {N : Nat} (hN : 4 ≤ N) (A B C : Int) : ∃ d, instr_Check 8 A B C N = some (.r0 (if d = true then 0 else 100)) ∧ (d = true → true = true ∧ Rng 2 A ∧ Rng 0 B ∧ Rng 0 C) := by
  obtain ⟨b0, p0, q0⟩ := fr_4 A 0 N
  obtain ⟨b1, p1, q1⟩ := fr_0 B A N
  obtain ⟨b2, p2, q2⟩ := fr_0 C B N
  exact ⟨b0 && b1 && b2, (goM_in (show instr_CheckIn 8 A B C N = some (.inl (.h1m0 4 0 0)) from rfl)).trans (run3 hN p0 (fun _ => p1) (fun _ _ => p2)), fun h => by
    simp only [Bool.and_eq_true] at h
    exact ⟨rfl, rng_of (by have := q0 h.1.1; omega), rng_of (by have := q1 h.1.2; omega), rng_of (by have := q2 h.2; omega)⟩⟩
theorem kd_8 {N : Nat} : ∃ nm s0 s1 s2 h0 h1 h2, Kd 8 N nm s0 s1 s2 h0 h1 h2 true 2 0 0 :=
  ⟨_, _, _, _, 0, 0, 0, { k := rfl, e := (by decide +kernel), l0 := (by unfold Wd; omega), l1 := (by unfold Wd; omega), l2 := (by unfold Wd; omega), ws := (by omega), a0 := rfl, a1 := rfl, a2 := rfl, rg := (fun _ => by omega), chk := chk_8 }⟩
theorem chk_9 {N : Nat} (hN : 4 ≤ N) (A B C : Int) : ∃ d, instr_Check 9 A B C N = some (.r0 (if d = true then 0 else 100)) ∧ (d = true → true = true ∧ Rng 1 A ∧ Rng 2 B ∧ Rng 0 C) := by
  obtain ⟨b0, p0, q0⟩ := fr_1 A 0 N
  obtain ⟨b1, p1, q1⟩ := fr_4 B A N
  obtain ⟨b2, p2, q2⟩ := fr_0 C B N
  exact ⟨b0 && b1 && b2, (goM_in (show instr_CheckIn 9 A B C N = some (.inl (.h1m0 1 4 0)) from rfl)).trans (run3 hN p0 (fun _ => p1) (fun _ _ => p2)), fun h => by
    simp only [Bool.and_eq_true] at h
    exact ⟨rfl, rng_of (by have := q0 h.1.1; omega), rng_of (by have := q1 h.1.2; omega), rng_of (by have := q2 h.2; omega)⟩⟩
theorem kd_9 {N : Nat} : ∃ nm s0 s1 s2 h0 h1 h2, Kd 9 N nm s0 s1 s2 h0 h1 h2 true 1 2 0 :=
  ⟨_, _, _, _, 0, 0, 0, { k := rfl, e := (by decide +kernel), l0 := (by unfold Wd; omega), l1 := (by unfold Wd; omega), l2 := (by unfold Wd; omega), ws := (by omega), a0 := rfl, a1 := rfl, a2 := rfl, rg := (fun _ => by omega), chk := chk_9 }⟩
theorem chk_10 {N : Nat} (hN : 4 ≤ N) (A B C : Int) : ∃ d, instr_Check 10 A B C N = some (.r0 (if d = true then 0 else 100)) ∧ (d = true → true = true ∧ Rng 1 A ∧ Rng 0 B ∧ Rng 0 C) := by
  obtain ⟨b0, p0, q0⟩ := fr_1 A 0 N
  obtain ⟨b1, p1, q1⟩ := fr_0 B A N
  obtain ⟨b2, p2, q2⟩ := fr_0 C B N
  exact ⟨b0 && b1 && b2, (goM_in (show instr_CheckIn 10 A B C N = some (.inl (.h1m0 1 0 0)) from rfl)).trans (run3 hN p0 (fun _ => p1) (fun _ _ => p2)), fun h => by
    simp only [Bool.and_eq_true] at h
    exact ⟨rfl, rng_of (by have := q0 h.1.1; omega), rng_of (by have := q1 h.1.2; omega), rng_of (by have := q2 h.2; omega)⟩⟩
theorem kd_10 {N : Nat} : ∃ nm s0 s1 s2 h0 h1 h2, Kd 10 N nm s0 s1 s2 h0 h1 h2 true 1 0 0 :=
  ⟨_, _, _, _, 0, 0, 0, { k := rfl, e := (by decide +kernel), l0 := (by unfold Wd; omega), l1 := (by unfold Wd; omega), l2 := (by unfold Wd; omega), ws := (by omega), a0 := rfl, a1 := rfl, a2 := rfl, rg := (fun _ => by omega), chk := chk_10 }⟩
theorem chk_11 {N : Nat} (hN : 4 ≤ N) (A B C : Int) : ∃ d, instr_Check 11 A B C N = some (.r0 (if d = true then 0 else 100)) ∧ (d = true → true = true ∧ Rng 1 A ∧ Rng 1 B ∧ Rng 3 C) := by
  obtain ⟨b0, p0, q0⟩ := fr_1 A 0 N
  obtain ⟨b1, p1, q1⟩ := fr_3 B A N
  by_cases hb : b1 = true
  · obtain ⟨b2, p2, q2⟩ := fr_5 C B N (q1 hb).1 (q1 hb).2
    exact ⟨b0 && b1 && b2, (goM_in (show instr_CheckIn 11 A B C N = some (.inl (.h1m0 1 3 5)) from rfl)).trans (run3 hN p0 (fun _ => p1) (fun _ _ => p2)), fun h => by
    simp only [Bool.and_eq_true] at h
    exact ⟨rfl, rng_of (by have := q0 h.1.1; omega), rng_of (by have := q1 h.1.2; omega), rng_of (by have := q2 h.2; omega)⟩⟩
  · have hb : b1 = false := by simpa using hb
    subst hb
    exact ⟨b0 && false && false, (goM_in (show instr_CheckIn 11 A B C N = some (.inl (.h1m0 1 3 5)) from rfl)).trans (run3 hN p0 (fun _ => p1) (fun _ h => by cases h)), fun h => by simp at h⟩
theorem kd_11 {N : Nat} : ∃ nm s0 s1 s2 h0 h1 h2, Kd 11 N nm s0 s1 s2 h0 h1 h2 true 1 1 3 :=
  ⟨_, _, _, _, 0, 0, 0, { k := rfl, e := (by decide +kernel), l0 := (by unfold Wd; omega), l1 := (by unfold Wd; omega), l2 := (by unfold Wd; omega), ws := (by omega), a0 := rfl, a1 := rfl, a2 := rfl, rg := (fun _ => by omega), chk := chk_11 }⟩
theorem chk_12 {N : Nat} (hN : 4 ≤ N) (A B C : Int) : ∃ d, instr_Check 12 A B C N = some (.r0 (if d = true then 0 else 100)) ∧ (d = true → true = true ∧ Rng 1 A ∧ Rng 0 B ∧ Rng 0 C) := by
  obtain ⟨b0, p0, q0⟩ := fr_1 A 0 N
  obtain ⟨b1, p1, q1⟩ := fr_0 B A N
  obtain ⟨b2, p2, q2⟩ := fr_0 C B N
  exact ⟨b0 && b1 && b2, (goM_in (show instr_CheckIn 12 A B C N = some (.inl (.h1m0 1 0 0)) from rfl)).trans (run3 hN p0 (fun _ => p1) (fun _ _ => p2)), fun h => by
    simp only [Bool.and_eq_true] at h
    exact ⟨rfl, rng_of (by have := q0 h.1.1; omega), rng_of (by have := q1 h.1.2; omega), rng_of (by have := q2 h.2; omega)⟩⟩
theorem kd_12 {N : Nat} : ∃ nm s0 s1 s2 h0 h1 h2, Kd 12 N nm s0 s1 s2 h0 h1 h2 true 1 0 0 :=
  ⟨_, _, _, _, 0, 0, 0, { k := rfl, e := (by decide +kernel), l0 := (by unfold Wd; omega), l1 := (by unfold Wd; omega), l2 := (by unfold Wd; omega), ws := (by omega), a0 := rfl, a1 := rfl, a2 := rfl, rg := (fun _ => by omega), chk := chk_12 }⟩
theorem chk_13 {N : Nat} (hN : 4 ≤ N) (A B C : Int) : ∃ d, instr_Check 13 A B C N = some (.r0 (if d = true then 0 else 100)) ∧ (d = true → true = true ∧ Rng 1 A ∧ Rng 1 B ∧ Rng 1 C) := by
  obtain ⟨b0, p0, q0⟩ := fr_1 A 0 N
  obtain ⟨b1, p1, q1⟩ := fr_1 B A N
  obtain ⟨b2, p2, q2⟩ := fr_2 C B N
  exact ⟨b0 && b1 && b2, (goM_in (show instr_CheckIn 13 A B C N = some (.inl (.h1m0 1 1 2)) from rfl)).trans (run3 hN p0 (fun _ => p1) (fun _ _ => p2)), fun h => by
    simp only [Bool.and_eq_true] at h
    exact ⟨rfl, rng_of (by have := q0 h.1.1; omega), rng_of (by have := q1 h.1.2; omega), rng_of (by have := q2 h.2; omega)⟩⟩
theorem kd_13 {N : Nat} : ∃ nm s0 s1 s2 h0 h1 h2, Kd 13 N nm s0 s1 s2 h0 h1 h2 true 1 1 1 :=
  ⟨_, _, _, _, 0, 0, 0, { k := rfl, e := (by decide +kernel), l0 := (by unfold Wd; omega), l1 := (by unfold Wd; omega), l2 := (by unfold Wd; omega), ws := (by omega), a0 := rfl, a1 := rfl, a2 := rfl, rg := (fun _ => by omega), chk := chk_13 }⟩
theorem chk_14 {N : Nat} (hN : 4 ≤ N) (A B C : Int) : ∃ d, instr_Check 14 A B C N = some (.r0 (if d = true then 0 else 100)) ∧ (d = true → true = true ∧ Rng 1 A ∧ Rng 1 B ∧ Rng 1 C) := by
  obtain ⟨b0, p0, q0⟩ := fr_1 A 0 N
  obtain ⟨b1, p1, q1⟩ := fr_2 B A N
  obtain ⟨b2, p2, q2⟩ := fr_1 C B N
  exact ⟨b0 && b1 && b2, (goM_in (show instr_CheckIn 14 A B C N = some (.inl (.h1m0 1 2 1)) from rfl)).trans (run3 hN p0 (fun _ => p1) (fun _ _ => p2)), fun h => by
    simp only [Bool.and_eq_true] at h
    exact ⟨rfl, rng_of (by have := q0 h.1.1; omega), rng_of (by have := q1 h.1.2; omega), rng_of (by have := q2 h.2; omega)⟩⟩
theorem kd_14 {N : Nat} : ∃ nm s0 s1 s2 h0 h1 h2, Kd 14 N nm s0 s1 s2 h0 h1 h2 true 1 1 1 :=
  ⟨_, _, _, _, 0, 0, 0, { k := rfl, e := (by decide +kernel), l0 := (by unfold Wd; omega), l1 := (by unfold Wd; omega), l2 := (by unfold Wd; omega), ws := (by omega), a0 := rfl, a1 := rfl, a2 := rfl, rg := (fun _ => by omega), chk := chk_14 }⟩
theorem chk_15 {N : Nat} (hN : 4 ≤ N) (A B C : Int) : ∃ d, instr_Check 15 A B C N = some (.r0 (if d = true then 0 else 100)) ∧ (d = true → true = true ∧ Rng 0 A ∧ Rng 0 B ∧ Rng 0 C) := by
  obtain ⟨b0, p0, q0⟩ := fr_0 A 0 N
  obtain ⟨b1, p1, q1⟩ := fr_0 B A N
  obtain ⟨b2, p2, q2⟩ := fr_0 C B N
  exact ⟨b0 && b1 && b2, (goM_in (show instr_CheckIn 15 A B C N = some (.inl (.h1m0 0 0 0)) from rfl)).trans (run3 hN p0 (fun _ => p1) (fun _ _ => p2)), fun h => by
    simp only [Bool.and_eq_true] at h
    exact ⟨rfl, rng_of (by have := q0 h.1.1; omega), rng_of (by have := q1 h.1.2; omega), rng_of (by have := q2 h.2; omega)⟩⟩
theorem kd_15 {N : Nat} : ∃ nm s0 s1 s2 h0 h1 h2, Kd 15 N nm s0 s1 s2 h0 h1 h2 true 0 0 0 :=
  ⟨_, _, _, _, 0, 0, 0, { k := rfl, e := (by decide +kernel), l0 := (by unfold Wd; omega), l1 := (by unfold Wd; omega), l2 := (by unfold Wd; omega), ws := (by omega), a0 := rfl, a1 := rfl, a2 := rfl, rg := (fun _ => by omega), chk := chk_15 }⟩
theorem chk_16 {N : Nat} (hN : 4 ≤ N) (A B C : Int) : ∃ d, instr_Check 16 A B C N = some (.r0 (if d = true then 0 else 100)) ∧ (d = true → true = true ∧ Rng 0 A ∧ Rng 0 B ∧ Rng 0 C) := by
  obtain ⟨b0, p0, q0⟩ := fr_0 A 0 N
  obtain ⟨b1, p1, q1⟩ := fr_0 B A N
  obtain ⟨b2, p2, q2⟩ := fr_0 C B N
  exact ⟨b0 && b1 && b2, (goM_in (show instr_CheckIn 16 A B C N = some (.inl (.h1m0 0 0 0)) from rfl)).trans (run3 hN p0 (fun _ => p1) (fun _ _ => p2)), fun h => by
    simp only [Bool.and_eq_true] at h
    exact ⟨rfl, rng_of (by have := q0 h.1.1; omega), rng_of (by have := q1 h.1.2; omega), rng_of (by have := q2 h.2; omega)⟩⟩
theorem kd_16 {N : Nat} : ∃ nm s0 s1 s2 h0 h1 h2, Kd 16 N nm s0 s1 s2 h0 h1 h2 true 0 0 0 :=
  ⟨_, _, _, _, 0, 0, 0, { k := rfl, e := (by decide +kernel), l0 := (by unfold Wd; omega), l1 := (by unfold Wd; omega), l2 := (by unfold Wd; omega), ws := (by omega), a0 := rfl, a1 := rfl, a2 := rfl, rg := (fun _ => by omega), chk := chk_16 }⟩
theorem chk_17 {N : Nat} (hN : 4 ≤ N) (A B C : Int) : ∃ d, instr_Check 17 A B C N = some (.r0 (if d = true then 0 else 100)) ∧ (d = true → true = true ∧ Rng 0 A ∧ Rng 0 B ∧ Rng 0 C) := by
  obtain ⟨b0, p0, q0⟩ := fr_0 A 0 N
  obtain ⟨b1, p1, q1⟩ := fr_0 B A N
  obtain ⟨b2, p2, q2⟩ := fr_0 C B N
  exact ⟨b0 && b1 && b2, (goM_in (show instr_CheckIn 17 A B C N = some (.inl (.h1m0 0 0 0)) from rfl)).trans (run3 hN p0 (fun _ => p1) (fun _ _ => p2)), fun h => by
    simp only [Bool.and_eq_true] at h
    exact ⟨rfl, rng_of (by have := q0 h.1.1; omega), rng_of (by have := q1 h.1.2; omega), rng_of (by have := q2 h.2; omega)⟩⟩
theorem kd_17 {N : Nat} : ∃ nm s0 s1 s2 h0 h1 h2, Kd 17 N nm s0 s1 s2 h0 h1 h2 true 0 0 0 :=
  ⟨_, _, _, _, 0, 0, 0, { k := rfl, e := (by decide +kernel), l0 := (by unfold Wd; omega), l1 := (by unfold Wd; omega), l2 := (by unfold Wd; omega), ws := (by omega), a0 := rfl, a1 := rfl, a2 := rfl, rg := (fun _ => by omega), chk := chk_17 }⟩
theorem chk_18 {N : Nat} (hN : 4 ≤ N) (A B C : Int) : ∃ d, instr_Check 18 A B C N = some (.r0 (if d = true then 0 else 100)) ∧ (d = true → true = true ∧ Rng 0 A ∧ Rng 0 B ∧ Rng 0 C) := by
  obtain ⟨b0, p0, q0⟩ := fr_0 A 0 N
  obtain ⟨b1, p1, q1⟩ := fr_0 B A N
  obtain ⟨b2, p2, q2⟩ := fr_0 C B N
  exact ⟨b0 && b1 && b2, (goM_in (show instr_CheckIn 18 A B C N = some (.inl (.h1m0 0 0 0)) from rfl)).trans (run3 hN p0 (fun _ => p1) (fun _ _ => p2)), fun h => by
    simp only [Bool.and_eq_true] at h
    exact ⟨rfl, rng_of (by have := q0 h.1.1; omega), rng_of (by have := q1 h.1.2; omega), rng_of (by have := q2 h.2; omega)⟩⟩
theorem kd_18 {N : Nat} : ∃ nm s0 s1 s2 h0 h1 h2, Kd 18 N nm s0 s1 s2 h0 h1 h2 true 0 0 0 :=
  ⟨_, _, _, _, 0, 0, 0, { k := rfl, e := (by decide +kernel), l0 := (by unfold Wd; omega), l1 := (by unfold Wd; omega), l2 := (by unfold Wd; omega), ws := (by omega), a0 := rfl, a1 := rfl, a2 := rfl, rg := (fun _ => by omega), chk := chk_18 }⟩
theorem chk_19 {N : Nat} (hN : 4 ≤ N) (A B C : Int) : ∃ d, instr_Check 19 A B C N = some (.r0 (if d = true then 0 else 100)) ∧ (d = true → true = true ∧ Rng 1 A ∧ Rng 0 B ∧ Rng 0 C) := by
  obtain ⟨b0, p0, q0⟩ := fr_1 A 0 N
  obtain ⟨b1, p1, q1⟩ := fr_0 B A N
  obtain ⟨b2, p2, q2⟩ := fr_0 C B N
  exact ⟨b0 && b1 && b2, (goM_in (show instr_CheckIn 19 A B C N = some (.inl (.h1m0 1 0 0)) from rfl)).trans (run3 hN p0 (fun _ => p1) (fun _ _ => p2)), fun h => by
    simp only [Bool.and_eq_true] at h
    exact ⟨rfl, rng_of (by have := q0 h.1.1; omega), rng_of (by have := q1 h.1.2; omega), rng_of (by have := q2 h.2; omega)⟩⟩
theorem kd_19 {N : Nat} : ∃ nm s0 s1 s2 h0 h1 h2, Kd 19 N nm s0 s1 s2 h0 h1 h2 true 1 0 0 :=
  ⟨_, _, _, _, 0, 0, 0, { k := rfl, e := (by decide +kernel), l0 := (by unfold Wd; omega), l1 := (by unfold Wd; omega), l2 := (by unfold Wd; omega), ws := (by omega), a0 := rfl, a1 := rfl, a2 := rfl, rg := (fun _ => by omega), chk := chk_19 }⟩
theorem chk_20 {N : Nat} (hN : 4 ≤ N) (A B C : Int) : ∃ d, instr_Check 20 A B C N = some (.r0 (if d = true then 0 else 100)) ∧ (d = true → true = true ∧ Rng 0 A ∧ Rng 0 B ∧ Rng 0 C) := by
  obtain ⟨b0, p0, q0⟩ := fr_0 A 0 N
  obtain ⟨b1, p1, q1⟩ := fr_0 B A N
  obtain ⟨b2, p2, q2⟩ := fr_0 C B N
  exact ⟨b0 && b1 && b2, (goM_in (show instr_CheckIn 20 A B C N = some (.inl (.h1m0 0 0 0)) from rfl)).trans (run3 hN p0 (fun _ => p1) (fun _ _ => p2)), fun h => by
    simp only [Bool.and_eq_true] at h
    exact ⟨rfl, rng_of (by have := q0 h.1.1; omega), rng_of (by have := q1 h.1.2; omega), rng_of (by have := q2 h.2; omega)⟩⟩
theorem kd_20 {N : Nat} : ∃ nm s0 s1 s2 h0 h1 h2, Kd 20 N nm s0 s1 s2 h0 h1 h2 true 0 0 0 :=
  ⟨_, _, _, _, 0, 0, 0, { k := rfl, e := (by decide +kernel), l0 := (by unfold Wd; omega), l1 := (by unfold Wd; omega), l2 := (by unfold Wd; omega), ws := (by omega), a0 := rfl, a1 := rfl, a2 := rfl, rg := (fun _ => by omega), chk := chk_20 }⟩
theorem kd (op : Int) (N : Nat) : ∃ nm s0 s1 s2 h0 h1 h2 b w0 w1 w2, Kd op N nm s0 s1 s2 h0 h1 h2 b w0 w1 w2 := by
  by_cases h1 : op < 0 ∨ 21 ≤ op ∨ op = 0
  · exact ⟨_, _, _, _, _, _, _, _, _, _, _, kd_no h1⟩
  · have h : op = 1 ∨ op = 2 ∨ op = 3 ∨ op = 4 ∨ op = 5 ∨ op = 6 ∨ op = 7 ∨ op = 8 ∨ op = 9 ∨ op = 10 ∨ op = 11 ∨ op = 12 ∨ op = 13 ∨ op = 14 ∨ op = 15 ∨ op = 16 ∨ op = 17 ∨ op = 18 ∨ op = 19 ∨ op = 20 := by omega
    rcases h with rfl | rfl | rfl | rfl | rfl | rfl | rfl | rfl | rfl | rfl | rfl | rfl | rfl | rfl | rfl | rfl | rfl | rfl | rfl | rfl
    · obtain ⟨_, _, _, _, _, _, _, h⟩ := kd_1 (N := N); exact ⟨_, _, _, _, _, _, _, _, _, _, _, h⟩
    · obtain ⟨_, _, _, _, _, _, _, h⟩ := kd_2 (N := N); exact ⟨_, _, _, _, _, _, _, _, _, _, _, h⟩
    · obtain ⟨_, _, _, _, _, _, _, h⟩ := kd_3 (N := N); exact ⟨_, _, _, _, _, _, _, _, _, _, _, h⟩
    · obtain ⟨_, _, _, _, _, _, _, h⟩ := kd_4 (N := N); exact ⟨_, _, _, _, _, _, _, _, _, _, _, h⟩
    · obtain ⟨_, _, _, _, _, _, _, h⟩ := kd_5 (N := N); exact ⟨_, _, _, _, _, _, _, _, _, _, _, h⟩
    · obtain ⟨_, _, _, _, _, _, _, h⟩ := kd_6 (N := N); exact ⟨_, _, _, _, _, _, _, _, _, _, _, h⟩
    · obtain ⟨_, _, _, _, _, _, _, h⟩ := kd_7 (N := N); exact ⟨_, _, _, _, _, _, _, _, _, _, _, h⟩
    · obtain ⟨_, _, _, _, _, _, _, h⟩ := kd_8 (N := N); exact ⟨_, _, _, _, _, _, _, _, _, _, _, h⟩
    · obtain ⟨_, _, _, _, _, _, _, h⟩ := kd_9 (N := N); exact ⟨_, _, _, _, _, _, _, _, _, _, _, h⟩
    · obtain ⟨_, _, _, _, _, _, _, h⟩ := kd_10 (N := N); exact ⟨_, _, _, _, _, _, _, _, _, _, _, h⟩
    · obtain ⟨_, _, _, _, _, _, _, h⟩ := kd_11 (N := N); exact ⟨_, _, _, _, _, _, _, _, _, _, _, h⟩
    · obtain ⟨_, _, _, _, _, _, _, h⟩ := kd_12 (N := N); exact ⟨_, _, _, _, _, _, _, _, _, _, _, h⟩
    · obtain ⟨_, _, _, _, _, _, _, h⟩ := kd_13 (N := N); exact ⟨_, _, _, _, _, _, _, _, _, _, _, h⟩
    · obtain ⟨_, _, _, _, _, _, _, h⟩ := kd_14 (N := N); exact ⟨_, _, _, _, _, _, _, _, _, _, _, h⟩
    · obtain ⟨_, _, _, _, _, _, _, h⟩ := kd_15 (N := N); exact ⟨_, _, _, _, _, _, _, _, _, _, _, h⟩
    · obtain ⟨_, _, _, _, _, _, _, h⟩ := kd_16 (N := N); exact ⟨_, _, _, _, _, _, _, _, _, _, _, h⟩
    · obtain ⟨_, _, _, _, _, _, _, h⟩ := kd_17 (N := N); exact ⟨_, _, _, _, _, _, _, _, _, _, _, h⟩
    · obtain ⟨_, _, _, _, _, _, _, h⟩ := kd_18 (N := N); exact ⟨_, _, _, _, _, _, _, _, _, _, _, h⟩
    · obtain ⟨_, _, _, _, _, _, _, h⟩ := kd_19 (N := N); exact ⟨_, _, _, _, _, _, _, _, _, _, _, h⟩
    · obtain ⟨_, _, _, _, _, _, _, h⟩ := kd_20 (N := N); exact ⟨_, _, _, _, _, _, _, _, _, _, _, h⟩
section
variable {op A B C s0 s1 s2 : Int} {N : Nat}
theorem lp0 (k : Nat) : ∀ (b : List Int) (v : Int) (g : Nat), v = 8 * (k : Int) - 8 → k ≤ 8 → b.length + k ≤ 1000 → iter (instr_EncodeStep op A B C N) (g + k + 1) (.h2m0 b v s0 s1 s2) = iter (instr_EncodeStep op A B C N) g (.h1m1 (b ++ bytesI k A) s0 s1 s2) := by
  induction k with
  | zero =>
    intro b v g hv hk hb
    refine (iter_next (y := .h1m1 b s0 s1 s2) ?_).trans ?_
    · show instr_Encode_h2m0 op A B C N b v s0 s1 s2 = _
      unfold instr_Encode_h2m0
      exact ite_no (by omega) rfl
    · rw [show b ++ bytesI 0 A = b from List.append_nil b]
  | succ k ih =>
    intro b v g hv hk hb
    refine (iter_next (y := .h2m0 (b ++ [IntKind.u8.wrap (IntKind.u64.wrap A / (2 ^ (8 * k) : Int))]) (v - 8) s0 s1 s2) ?_).trans ?_
    · show instr_Encode_h2m0 op A B C N b v s0 s1 s2 = _
      unfold instr_Encode_h2m0
      refine ite_yes (by omega) (ite_yes (by omega) (ite_yes (by omega) ?_))
      rw [show v.toNat = 8 * k by omega]
    · show iter _ (g + k + 1) _ = _
      rw [ih _ _ _ (by omega) (by omega) (by simp only [List.length_append, List.length_cons, List.length_nil]; omega)]
      simp only [bytesI, List.append_assoc, List.cons_append, List.nil_append]
theorem lp1 (k : Nat) : ∀ (b : List Int) (v : Int) (g : Nat), v = 8 * (k : Int) - 8 → k ≤ 8 → b.length + k ≤ 1000 → iter (instr_EncodeStep op A B C N) (g + k + 1) (.h2m1 b v s0 s1 s2) = iter (instr_EncodeStep op A B C N) g (.h1m2 (b ++ bytesI k B) s0 s1 s2) := by
  induction k with
  | zero =>
    intro b v g hv hk hb
    refine (iter_next (y := .h1m2 b s0 s1 s2) ?_).trans ?_
    · show instr_Encode_h2m1 op A B C N b v s0 s1 s2 = _
      unfold instr_Encode_h2m1
      exact ite_no (by omega) rfl
    · rw [show b ++ bytesI 0 B = b from List.append_nil b]
  | succ k ih =>
    intro b v g hv hk hb
    refine (iter_next (y := .h2m1 (b ++ [IntKind.u8.wrap (IntKind.u64.wrap B / (2 ^ (8 * k) : Int))]) (v - 8) s0 s1 s2) ?_).trans ?_
    · show instr_Encode_h2m1 op A B C N b v s0 s1 s2 = _
      unfold instr_Encode_h2m1
      refine ite_yes (by omega) (ite_yes (by omega) (ite_yes (by omega) ?_))
      rw [show v.toNat = 8 * k by omega]
    · show iter _ (g + k + 1) _ = _
      rw [ih _ _ _ (by omega) (by omega) (by simp only [List.length_append, List.length_cons, List.length_nil]; omega)]
      simp only [bytesI, List.append_assoc, List.cons_append, List.nil_append]
theorem lp2 (k : Nat) : ∀ (b : List Int) (v : Int) (g : Nat), v = 8 * (k : Int) - 8 → k ≤ 8 → b.length + k ≤ 1000 → iter (instr_EncodeStep op A B C N) (g + k + 1) (.h2m2 b v s0 s1 s2) = iter (instr_EncodeStep op A B C N) g (.h1m3 (b ++ bytesI k C) s0 s1 s2) := by
  induction k with
  | zero =>
    intro b v g hv hk hb
    refine (iter_next (y := .h1m3 b s0 s1 s2) ?_).trans ?_
    · show instr_Encode_h2m2 op A B C N b v s0 s1 s2 = _
      unfold instr_Encode_h2m2
      exact ite_no (by omega) rfl
    · rw [show b ++ bytesI 0 C = b from List.append_nil b]
  | succ k ih =>
    intro b v g hv hk hb
    refine (iter_next (y := .h2m2 (b ++ [IntKind.u8.wrap (IntKind.u64.wrap C / (2 ^ (8 * k) : Int))]) (v - 8) s0 s1 s2) ?_).trans ?_
    · show instr_Encode_h2m2 op A B C N b v s0 s1 s2 = _
      unfold instr_Encode_h2m2
      refine ite_yes (by omega) (ite_yes (by omega) (ite_yes (by omega) ?_))
      rw [show v.toNat = 8 * k by omega]
    · show iter _ (g + k + 1) _ = _
      rw [ih _ _ _ (by omega) (by omega) (by simp only [List.length_append, List.length_cons, List.length_nil]; omega)]
      simp only [bytesI, List.append_assoc, List.cons_append, List.nil_append]
theorem enc_run {w0 w1 w2 : Nat} (hN : 100 ≤ N) (l0 : w0 ≤ 8) (l1 : w1 ≤ 8) (l2 : w2 ≤ 8) (a0 : instr_shape_width s0 N = some (.r0 (w0 : Int))) (a1 : instr_shape_width s1 N = some (.r0 (w1 : Int))) (a2 : instr_shape_width s2 N = some (.r0 (w2 : Int))) :
    iter (instr_EncodeStep op A B C N) N (.h1m0 s0 s1 s2) = some (.r1 (IntKind.u8.wrap op :: (bytesI w0 A ++ bytesI w1 B ++ bytesI w2 C))) := by
  have wv : ∀ w : Nat, w ≤ 8 → IntKind.i64.wrap ((8 : Int) * (IntKind.i64.wrap ((w : Int) - (1 : Int)))) = 8 * (w : Int) - 8 := fun w hw => by
    rw [w64 (x := (w : Int) - 1) (by omega) (by omega), w64 (by omega) (by omega)]; omega
  refine iter_up (n := ((((((0 + 1) + w2 + 1) + 1) + w1 + 1) + 1) + w0 + 1) + 1) (by omega) ?_
  refine (iter_next (y := .h2m0 [IntKind.u8.wrap op] (8 * (w0 : Int) - 8) s0 s1 s2) ?_).trans ((lp0 w0 _ _ _ rfl l0 (by simp; omega)).trans ((iter_next (y := .h2m1 ([IntKind.u8.wrap op] ++ bytesI w0 A) (8 * (w1 : Int) - 8) s0 s1 s2) ?_).trans ((lp1 w1 _ _ _ rfl l1 (by simp [bytesI_len]; omega)).trans ((iter_next (y := .h2m2 ([IntKind.u8.wrap op] ++ bytesI w0 A ++ bytesI w1 B) (8 * (w2 : Int) - 8) s0 s1 s2) ?_).trans ((lp2 w2 _ _ _ rfl l2 (by simp [bytesI_len]; omega)).trans (iter_done ?_))))))
  · show instr_Encode_h1m0 op A B C N s0 s1 s2 = _
    unfold instr_Encode_h1m0
    refine bind_to a0 ?_
    show some (Sum.inl (instr_EncodeX.h2m0 _ _ _ _ _)) = _
    rw [wv w0 l0]
  · show instr_Encode_h1m1 op A B C N _ s0 s1 s2 = _
    unfold instr_Encode_h1m1
    refine bind_to a1 ?_
    show some (Sum.inl (instr_EncodeX.h2m1 _ _ _ _ _)) = _
    rw [wv w1 l1]
  · show instr_Encode_h1m2 op A B C N _ s0 s1 s2 = _
    unfold instr_Encode_h1m2
    refine bind_to a2 ?_
    show some (Sum.inl (instr_EncodeX.h2m2 _ _ _ _ _)) = _
    rw [wv w2 l2]
  · show some (Sum.inr (instr_EncodeR.r1 _)) = _
    simp only [List.cons_append, List.nil_append, List.append_assoc]
end
/-- An instruction's bytes. -/
def encL (op A B C : Int) (w0 w1 w2 : Nat) : List Int := IntKind.u8.wrap op :: (bytesI w0 A ++ bytesI w1 B ++ bytesI w2 C)
section
variable {op A B C s0 s1 s2 t0 t1 t2 : Int} {N w0 w1 w2 : Nat} {nm : List Int}
theorem enc_ok {b : Bool} (K : Kd op N nm s0 s1 s2 t0 t1 t2 b w0 w1 w2) (hN : 2000 ≤ N) (h : instr_Check op A B C N = some (.r0 0)) : instr_Encode op A B C N = some (.r1 (encL op A B C w0 w1 w2)) :=
  (goM_in (show instr_EncodeIn op A B C N = some (.inl (.h1m0 s0 s1 s2)) from bind_to h <| ite_no (by decide) <| bind_to K.k rfl)).trans (enc_run (by omega) K.l0.le K.l1.le K.l2.le K.a0 K.a1 K.a2)
end
theorem enc_no {op A B C : Int} {N : Nat} (h : instr_Check op A B C N = some (.r0 100)) : instr_Encode op A B C N = some (.r0 100) := goM_out (bind_to h <| ite_yes (by decide) rfl)
theorem encL_len (op A B C : Int) (w0 w1 w2 : Nat) : (encL op A B C w0 w1 w2).length = 1 + w0 + w1 + w2 := by
  unfold encL; simp only [List.length_cons, List.length_append, bytesI_len]; omega
theorem encL_byte (op A B C : Int) (w0 w1 w2 : Nat) : ∀ x ∈ encL op A B C w0 w1 w2, 0 ≤ x ∧ x ≤ 255 := by
  have hb : ∀ k u, ∀ x ∈ bytesI k u, 0 ≤ x ∧ x ≤ 255 := fun k u => by
    induction k with
    | zero => intro x hx; cases hx
    | succ k ih =>
      intro x hx
      rw [bytesI, List.mem_cons] at hx
      rcases hx with rfl | hx
      · rw [u8_mod]; omega
      · exact ih x hx
  intro x hx
  unfold encL at hx
  simp only [List.mem_cons, List.mem_append] at hx
  rcases hx with rfl | (hx | hx) | hx
  · rw [u8_mod]; omega
  · exact hb _ _ x hx
  · exact hb _ _ x hx
  · exact hb _ _ x hx
theorem gV_snoc (M : List Int) (x : Int) : gV (M ++ [x]) = 256 * gV M + x := by unfold gV; rw [List.foldl_append]; rfl
theorem getD_dropI (L : List Int) (a j : Nat) : (L.drop a).getD j 0 = L.getD (j + a) 0 := by simp [List.getD, List.getElem?_drop, Nat.add_comm]
theorem getD_byteI {L : List Int} (hb : ∀ x ∈ L, 0 ≤ x ∧ x ≤ 255) (i : Nat) (h : i < L.length) : 0 ≤ L.getD i 0 ∧ L.getD i 0 ≤ 255 := by
  have : L.getD i 0 = L[i] := by simp [List.getD, h]
  rw [this]; exact hb _ (List.getElem_mem h)
/-- An instruction's bytes, if it may be. -/
def encF (i : R_iiii) (N : Nat) : Option (List Int) := match instr_Encode i.a0 i.a1 i.a2 i.a3 N with
  | some (.r1 y) => some y
  | _ => none
theorem encF_of {i : R_iiii} {N : Nat} {y : List Int} (h : instr_Encode i.a0 i.a1 i.a2 i.a3 N = some (.r1 y)) : encF i N = some y := by unfold encF; rw [h]
theorem encF_two (i : R_iiii) {N : Nat} (hN : 2000 ≤ N) : (encF i N = none ∧ instr_Encode i.a0 i.a1 i.a2 i.a3 N = some (.r0 100)) ∨
    ∃ nm s0 s1 s2 t0 t1 t2 w0 w1 w2, Kd i.a0 N nm s0 s1 s2 t0 t1 t2 true w0 w1 w2 ∧ instr_Check i.a0 i.a1 i.a2 i.a3 N = some (.r0 0) ∧ encF i N = some (encL i.a0 i.a1 i.a2 i.a3 w0 w1 w2) ∧ instr_Encode i.a0 i.a1 i.a2 i.a3 N = some (.r1 (encL i.a0 i.a1 i.a2 i.a3 w0 w1 w2)) := by
  obtain ⟨op, A, B, C⟩ := i
  show (_ ∧ _) ∨ _
  obtain ⟨nm, s0, s1, s2, t0, t1, t2, b, w0, w1, w2, K⟩ := kd op N
  obtain ⟨d, hz, hr⟩ := K.chk (by omega) A B C
  cases d with
  | false =>
    have h1 := enc_no hz
    refine .inl ⟨by unfold encF; rw [h1], h1⟩
  | true =>
    obtain ⟨rfl, _⟩ := hr rfl
    have h1 := enc_ok K hN hz
    exact .inr ⟨_, _, _, _, _, _, _, _, _, _, K, hz, by unfold encF; rw [h1], h1⟩
theorem encF_len {i : R_iiii} {N : Nat} {y : List Int} (hN : 2000 ≤ N) (h : encF i N = some y) : 1 ≤ y.length ∧ y.length ≤ 10 ∧ ∀ x ∈ y, 0 ≤ x ∧ x ≤ 255 := by
  rcases encF_two i hN with ⟨e, _⟩ | ⟨_, _, _, _, _, _, _, w0, w1, w2, K, _, e, _⟩
  · rw [e] at h; cases h
  · rw [e] at h
    obtain rfl := Option.some.inj h
    have := K.ws
    rw [encL_len]
    exact ⟨by omega, by omega, encL_byte _ _ _ _ _ _ _⟩
theorem sub_row (L : List Int) (o n a k : Nat) (h : a + k ≤ n) : (((L.drop o).take n).drop a).take k = (L.drop (a + o)).take k := by
  rw [List.drop_take, List.take_take, Nat.min_eq_left (by omega), List.drop_drop, Nat.add_comm o a]
theorem sub_rest (L : List Int) (o n a : Nat) : ((L.drop o).take n).drop a = (L.drop (a + o)).take (n - a) := by
  rw [List.drop_take, List.drop_drop, Nat.add_comm o a]
theorem row_byte {L : List Int} (hb : ∀ i, i < L.length → 0 ≤ L.getD i 0 ∧ L.getD i 0 ≤ 255) (o n : Nat) : ∀ x ∈ (L.drop o).take n, 0 ≤ x ∧ x ≤ 255 := fun x hx => by
  obtain ⟨i, hi, rfl⟩ := List.getElem_of_mem (List.mem_of_mem_drop (List.mem_of_mem_take hx))
  have := hb i hi
  simpa [List.getD, hi] using this
/-- Bytes cut into an instruction's parts. -/
theorem parts {op : Int} {M : List Int} {w0 w1 w2 : Nat} (h0 : Wd w0) (h1 : Wd w1) (h2 : Wd w2) (hb : ∀ x ∈ M, 0 ≤ x ∧ x ≤ 255) (hl : 1 + w0 + w1 + w2 ≤ M.length) :
    encL (M.getD 0 0) (IntKind.i64.wrap (gV ((M.drop 1).take w0))) (IntKind.i64.wrap (gV ((M.drop (1 + w0)).take w1))) (IntKind.i64.wrap (gV ((M.drop (1 + w0 + w1)).take w2))) w0 w1 w2 ++ M.drop (1 + w0 + w1 + w2) = M := by
  have hB : ∀ a k, ∀ x ∈ (M.drop a).take k, 0 ≤ x ∧ x ≤ 255 := fun a k x hx => hb x (List.mem_of_mem_drop (List.mem_of_mem_take hx))
  have hk : ∀ a k, a + k ≤ M.length → ((M.drop a).take k).length = k := fun a k h => by rw [List.length_take, List.length_drop]; omega
  have hop : [M.getD 0 0] = M.take 1 := take_snoc (L := M) (i := 0) (by omega) 0
  obtain ⟨r1, r2⟩ := getD_byteI hb 0 (by omega)
  unfold encL
  rw [vb h0 (hk _ _ (by omega)) (hB _ _), vb h1 (hk _ _ (by omega)) (hB _ _), vb h2 (hk _ _ (by omega)) (hB _ _), u8_mod, show M.getD 0 0 % 256 = M.getD 0 0 by omega]
  have e : M.take 1 ++ ((M.drop 1).take w0 ++ ((M.drop (1 + w0)).take w1 ++ (M.drop (1 + w0 + w1)).take w2)) = M.take (1 + w0 + w1 + w2) := by
    rw [List.take_add, List.take_add, List.take_add]; simp only [List.append_assoc]
  have e2 := List.take_append_drop (1 + w0 + w1 + w2) M
  rw [← e, ← hop] at e2
  simpa only [List.cons_append, List.nil_append, List.append_assoc] using e2
/-- An instruction's bytes cut into parts. -/
theorem unparts {op A B C : Int} {R : List Int} {w0 w1 w2 : Nat} (h0 : Wd w0) (h1 : Wd w1) (h2 : Wd w2) (rA : Rng w0 A) (rB : Rng w1 B) (rC : Rng w2 C) (ho : 1 ≤ op ∧ op ≤ 20) :
    let M := encL op A B C w0 w1 w2 ++ R
    M.getD 0 0 = op ∧ IntKind.i64.wrap (gV ((M.drop 1).take w0)) = A ∧ IntKind.i64.wrap (gV ((M.drop (1 + w0)).take w1)) = B ∧ IntKind.i64.wrap (gV ((M.drop (1 + w0 + w1)).take w2)) = C ∧ M.drop (1 + w0 + w1 + w2) = R := by
  intro M
  have d1 : M.drop 1 = bytesI w0 A ++ (bytesI w1 B ++ (bytesI w2 C ++ R)) := by
    show (encL op A B C w0 w1 w2 ++ R).drop 1 = _
    unfold encL; simp only [List.cons_append, List.append_assoc, List.drop_succ_cons, List.drop_zero]
  have d2 : M.drop (1 + w0) = bytesI w1 B ++ (bytesI w2 C ++ R) := by
    rw [← List.drop_drop, d1]; exact List.drop_left' (bytesI_len _ _)
  have d3 : M.drop (1 + w0 + w1) = bytesI w2 C ++ R := by
    rw [← List.drop_drop, d2]; exact List.drop_left' (bytesI_len _ _)
  have d4 : M.drop (1 + w0 + w1 + w2) = R := by
    rw [← List.drop_drop, d3]; exact List.drop_left' (bytesI_len _ _)
  refine ⟨?_, ?_, ?_, ?_, d4⟩
  · show IntKind.u8.wrap op = op
    rw [u8_mod]; omega
  · rw [d1, List.take_left' (bytesI_len _ _), bv h0 rA]
  · rw [d2, List.take_left' (bytesI_len _ _), bv h1 rB]
  · rw [d3, List.take_left' (bytesI_len _ _), bv h2 rC]
theorem instr_join_val {L : List Int} {o w c N : Nat} (hb : ∀ i, i < L.length → 0 ≤ L.getD i 0 ∧ L.getD i 0 ≤ 255) (hn : o + w ≤ L.length) (hw : w ≤ 8) (hN : 100 ≤ N) : instr_join L o w c N = some (.r0 (IntKind.i64.wrap (gV ((L.drop o).take w)))) := by
  unfold instr_join
  have loop : ∀ d j f v, j + d = w → d < f → v = gV ((L.drop o).take j) → 0 ≤ v → v < ((256 ^ j : Nat) : Int) → iter (instr_joinStep L o w c N) f (.h1m0 v j) = some (.r0 (IntKind.i64.wrap (gV ((L.drop o).take w)))) := by
    intro d
    induction d with
    | zero =>
      intro j f v hj hf hv h0 h1
      obtain ⟨f, rfl⟩ : ∃ g, f = g + 1 := ⟨f - 1, by omega⟩
      refine iter_done ?_
      show instr_join_h1m0 L o w c N v j = _
      unfold instr_join_h1m0
      refine ite_no (by omega) ?_
      obtain rfl : j = w := by omega
      rw [hv]
    | succ d ih =>
      intro j f v hj hf hv h0 h1
      obtain ⟨f, rfl⟩ : ∃ g, f = g + 1 := ⟨f - 1, by omega⟩
      obtain ⟨b0, b1⟩ := hb (j + o) (by omega)
      obtain ⟨e1, e2, e3⟩ := g_step h0 h1 (by omega) b0 b1
      refine (iter_next (y := .h1m0 (256 * v + L.getD (j + o) 0) (j + 1)) ?_).trans (ih (j + 1) f _ (by omega) (by omega) ?_ e2 e3)
      · show instr_join_h1m0 L o w c N v j = _
        unfold instr_join_h1m0
        rw [or_shift b0 b1, e1]
        exact ite_yes (by omega) (ite_yes (by omega) (ite_yes b0 (ite_yes (by omega) (ite_yes (by omega) rfl))))
      · rw [hv, ← gV_snoc, ← getD_dropI, take_snoc (by rw [List.length_drop]; omega)]
  exact loop w 0 N 0 (by omega) (by omega) rfl (by decide) (by decide)
section
variable {L : List Int} {n c N w0 w1 w2 : Nat} {s0 s1 s2 t0 t1 t2 : Int} {nm : List Int}
theorem instr_Decode_d0 {o : Nat} {z : Int} (hw : instr_shape_width s0 N = some (.r0 (w0 : Int))) (h : w0 ≤ n - 1) (hc : n ≤ c) (hj : instr_join L (o + 1) w0 (c - 1) N = some (.r0 z)) :
    instr_DecodeStep L o n c N (.h1m0 s0 s1 s2) = some (.inl (.h1m1 (w0 + (o + 1)) (n - 1 - w0) (c - 1 - w0) s0 s1 s2 z)) := by
  show instr_Decode_h1m0 L o n c N s0 s1 s2 = _
  unfold instr_Decode_h1m0
  exact bind_to hw <| ite_no (by omega) <| bind_to hw <| ite_yes (by omega) <| ite_yes (by omega) <| bind_to hj <| bind_to hw <| ite_yes (by omega) <| ite_yes (by omega) <| ite_yes (by omega) rfl
theorem instr_Decode_d0s {o : Nat} (hw : instr_shape_width s0 N = some (.r0 (w0 : Int))) (h : n - 1 < w0) : instr_DecodeStep L o n c N (.h1m0 s0 s1 s2) = some (.inr (.r0 6)) := by
  show instr_Decode_h1m0 L o n c N s0 s1 s2 = _
  unfold instr_Decode_h1m0
  exact bind_to hw <| ite_yes (by omega) rfl
theorem instr_Decode_d1 {o : Nat} {v4 v5 v6 : Nat} {x z : Int} (hw : instr_shape_width s1 N = some (.r0 (w1 : Int))) (h : w1 ≤ v5) (hc : v5 ≤ v6) (hj : instr_join L v4 w1 v6 N = some (.r0 z)) :
    instr_DecodeStep L o n c N (.h1m1 v4 v5 v6 s0 s1 s2 x) = some (.inl (.h1m2 (w1 + v4) (v5 - w1) (v6 - w1) s0 s1 s2 x z)) := by
  show instr_Decode_h1m1 L o n c N v4 v5 v6 s0 s1 s2 x = _
  unfold instr_Decode_h1m1
  exact bind_to hw <| ite_no (by omega) <| bind_to hw <| ite_yes (by omega) <| ite_yes (by omega) <| bind_to hj <| bind_to hw <| ite_yes (by omega) <| ite_yes (by omega) <| ite_yes (by omega) rfl
theorem instr_Decode_d1s {o : Nat} {v4 v5 v6 : Nat} {x : Int} (hw : instr_shape_width s1 N = some (.r0 (w1 : Int))) (h : v5 < w1) : instr_DecodeStep L o n c N (.h1m1 v4 v5 v6 s0 s1 s2 x) = some (.inr (.r0 6)) := by
  show instr_Decode_h1m1 L o n c N v4 v5 v6 s0 s1 s2 x = _
  unfold instr_Decode_h1m1
  exact bind_to hw <| ite_yes (by omega) rfl
theorem instr_Decode_d2 {o : Nat} {v4 v5 v6 : Nat} {x y z : Int} (hw : instr_shape_width s2 N = some (.r0 (w2 : Int))) (h : w2 ≤ v5) (hc : v5 ≤ v6) (hj : instr_join L v4 w2 v6 N = some (.r0 z)) :
    instr_DecodeStep L o n c N (.h1m2 v4 v5 v6 s0 s1 s2 x y) = some (.inl (.h1m3 (w2 + v4) (v5 - w2) (v6 - w2) s0 s1 s2 x y z)) := by
  show instr_Decode_h1m2 L o n c N v4 v5 v6 s0 s1 s2 x y = _
  unfold instr_Decode_h1m2
  exact bind_to hw <| ite_no (by omega) <| bind_to hw <| ite_yes (by omega) <| ite_yes (by omega) <| bind_to hj <| bind_to hw <| ite_yes (by omega) <| ite_yes (by omega) <| ite_yes (by omega) rfl
theorem instr_Decode_d2s {o : Nat} {v4 v5 v6 : Nat} {x y : Int} (hw : instr_shape_width s2 N = some (.r0 (w2 : Int))) (h : v5 < w2) : instr_DecodeStep L o n c N (.h1m2 v4 v5 v6 s0 s1 s2 x y) = some (.inr (.r0 6)) := by
  show instr_Decode_h1m2 L o n c N v4 v5 v6 s0 s1 s2 x y = _
  unfold instr_Decode_h1m2
  exact bind_to hw <| ite_yes (by omega) rfl
theorem instr_Decode_in {o : Nat} (hb : ∀ i, i < L.length → 0 ≤ L.getD i 0 ∧ L.getD i 0 ≤ 255) (hn : o + n ≤ L.length) (h0 : n ≠ 0) (hk : instr_kind_2 (L.getD o 0) N = some (.r0 nm s0 s1 s2)) {r : Option (instr_DecodeX ⊕ instr_DecodeR)} (ho : (if strB nm [] = true then some (.inr (.r0 (100 : Int))) else if ((n : Nat) : Int) ≤ ((c : Nat) : Int) then some (.inl (.h1m0 s0 s1 s2)) else none) = r) : instr_DecodeIn L o n c N = r := by
  obtain ⟨b1, b2⟩ := hb o (by omega)
  unfold instr_DecodeIn
  exact ite_no (by omega) <| ite_yes (by omega) <| ite_yes (by omega) <| ite_yes (by omega) <| bind_to hk ho
theorem instr_Decode_short {o : Nat} (hb : ∀ i, i < L.length → 0 ≤ L.getD i 0 ∧ L.getD i 0 ≤ 255) (hn : o + n ≤ L.length) (hL : n ≤ 100000) (hc : n ≤ c) (hN : 2000 ≤ N) (h0 : n ≠ 0) (K : Kd (L.getD o 0) N nm s0 s1 s2 t0 t1 t2 true w0 w1 w2) (hs : n < 1 + w0 + w1 + w2) : instr_Decode L o n c N = some (.r0 6) := by
  obtain ⟨l0, l1, l2⟩ := And.intro K.l0.le (And.intro K.l1.le K.l2.le)
  refine (goM_in (instr_Decode_in hb hn h0 K.k (ite_no (by rw [K.e]; decide) <| ite_yes (by omega) rfl))).trans ?_
  by_cases q0 : n - 1 < w0
  · exact iter_up (n := 0 + 1) (by omega) (iter_done (instr_Decode_d0s K.a0 q0))
  have S1 := instr_Decode_d0 (s1 := s1) (s2 := s2) K.a0 (show w0 ≤ n - 1 by omega) hc (instr_join_val (c := c - 1) (o := (o + 1)) (N := N) hb (by omega) l0 (by omega))
  by_cases q1 : n - 1 - w0 < w1
  · exact iter_up (n := 0 + 1 + 1) (by omega) ((iter_next S1).trans (iter_done (instr_Decode_d1s K.a1 q1)))
  have S2 := instr_Decode_d1 (o := o) (n := n) (c := c) (s0 := s0) (s2 := s2) (x := IntKind.i64.wrap (gV ((L.drop (o + 1)).take w0))) (v4 := (w0 + (o + 1))) (v5 := n - 1 - w0) (v6 := c - 1 - w0) K.a1 (by omega) (by omega) (instr_join_val (N := N) hb (by omega) l1 (by omega))
  exact iter_up (n := 0 + 1 + 1 + 1) (by omega) ((iter_next S1).trans ((iter_next S2).trans (iter_done (instr_Decode_d2s K.a2 (by omega)))))
theorem instr_Decode_full {o : Nat} (hb : ∀ i, i < L.length → 0 ≤ L.getD i 0 ∧ L.getD i 0 ≤ 255) (hn : o + n ≤ L.length) (hL : n ≤ 100000) (hc : n ≤ c) (hN : 2000 ≤ N) (K : Kd (L.getD o 0) N nm s0 s1 s2 t0 t1 t2 true w0 w1 w2) (hs : 1 + w0 + w1 + w2 ≤ n) {A B C : Int} (hA : A = IntKind.i64.wrap (gV ((L.drop (o + 1)).take w0))) (hB : B = IntKind.i64.wrap (gV ((L.drop (w0 + (o + 1))).take w1))) (hC : C = IntKind.i64.wrap (gV ((L.drop (w1 + (w0 + (o + 1)))).take w2))) {z : Int} (hz : instr_Check (L.getD o 0) A B C N = some (.r0 z)) :
    instr_Decode L o n c N = if z = 0 then some (.r1 A B C ((L.drop (w2 + (w1 + (w0 + (o + 1))))).take (n - (1 + w0 + w1 + w2)))) else some (.r0 z) := by
  obtain ⟨l0, l1, l2⟩ := And.intro K.l0.le (And.intro K.l1.le K.l2.le)
  have h0 : n ≠ 0 := by omega
  obtain ⟨b1, b2⟩ := hb o (by omega)
  refine (goM_in (instr_Decode_in hb hn h0 K.k (ite_no (by rw [K.e]; decide) <| ite_yes (by omega) rfl))).trans ?_
  have S1 := instr_Decode_d0 (o := o) (s1 := s1) (s2 := s2) (z := A) K.a0 (show w0 ≤ n - 1 by omega) hc (by rw [hA]; exact instr_join_val (c := c - 1) (N := N) hb (by omega) l0 (by omega))
  have S2 := instr_Decode_d1 (o := o) (n := n) (c := c) (s0 := s0) (s2 := s2) (x := A) (z := B) (v4 := (w0 + (o + 1))) (v5 := n - 1 - w0) (v6 := c - 1 - w0) K.a1 (by omega) (by omega) (by rw [hB]; exact instr_join_val (N := N) hb (by omega) l1 (by omega))
  have S3 := instr_Decode_d2 (o := o) (n := n) (c := c) (s0 := s0) (s1 := s1) (x := A) (y := B) (z := C) (v4 := (w1 + (w0 + (o + 1)))) (v5 := n - 1 - w0 - w1) (v6 := c - 1 - w0 - w1) K.a2 (by omega) (by omega) (by rw [hC]; exact instr_join_val (N := N) hb (by omega) l2 (by omega))
  have fin : ∀ r, instr_Decode_h1m3 L o n c N (w2 + (w1 + (w0 + (o + 1)))) (n - 1 - w0 - w1 - w2) (c - 1 - w0 - w1 - w2) s0 s1 s2 A B C = some (.inr r) → iter (instr_DecodeStep L o n c N) N (.h1m0 s0 s1 s2) = some r := fun r hr => iter_up (n := 0 + 1 + 1 + 1 + 1) (by omega) ((iter_next S1).trans ((iter_next S2).trans ((iter_next S3).trans (iter_done hr))))
  by_cases hz0 : z = 0
  · rw [if_pos hz0]
    refine fin _ ?_
    unfold instr_Decode_h1m3
    refine ite_yes (by omega) <| ite_yes (by omega) <| ite_yes (by omega) <| ite_yes (by omega) <| bind_to hz <| ite_no (fun h => h hz0) ?_
    by_cases hv : n - 1 - w0 - w1 - w2 = 0
    · refine ite_yes hv ?_
      rw [show n - (1 + w0 + w1 + w2) = 0 by omega, List.take_zero]
    · refine ite_no hv <| ite_yes (by omega) <| ite_yes (by omega) ?_
      rw [show n - 1 - w0 - w1 - w2 = n - (1 + w0 + w1 + w2) by omega]
  · rw [if_neg hz0]
    refine fin _ ?_
    unfold instr_Decode_h1m3
    exact ite_yes (by omega) <| ite_yes (by omega) <| ite_yes (by omega) <| ite_yes (by omega) <| bind_to hz <| ite_yes hz0 rfl
/-- What is decoded: either not, or an instruction whose bytes stood there. -/
theorem instr_Decode_back {o : Nat} (hb : ∀ i, i < L.length → 0 ≤ L.getD i 0 ∧ L.getD i 0 ≤ 255) (hn : o + n ≤ L.length) (hL : n ≤ 100000) (hc : n ≤ c) (hN : 2000 ≤ N) : (∃ z, z ≠ 0 ∧ instr_Decode L o n c N = some (.r0 z)) ∨ ∃ i y R, instr_Decode L o n c N = some (.r1 i.a1 i.a2 i.a3 R) ∧ i.a0 = L.getD o 0 ∧ encF i N = some y ∧ (L.drop o).take n = y ++ R := by
  by_cases h0 : n = 0
  · subst h0
    exact .inl ⟨6, by decide, goM_out (ite_yes (by omega) rfl)⟩
  obtain ⟨nm, s0, s1, s2, t0, t1, t2, q, w0, w1, w2, K⟩ := kd (L.getD o 0) N
  cases q with
  | false => exact .inl ⟨100, by decide, goM_out (instr_Decode_in hb hn h0 K.k (ite_yes (by rw [K.e]; rfl) rfl))⟩
  | true =>
    by_cases hs : n < 1 + w0 + w1 + w2
    · exact .inl ⟨6, by decide, instr_Decode_short hb hn hL hc hN h0 K hs⟩
    obtain ⟨d, hz, _⟩ := K.chk (by omega) (IntKind.i64.wrap (gV ((L.drop (o + 1)).take w0))) (IntKind.i64.wrap (gV ((L.drop (w0 + (o + 1))).take w1))) (IntKind.i64.wrap (gV ((L.drop (w1 + (w0 + (o + 1)))).take w2)))
    have F := instr_Decode_full hb hn hL hc hN K (by omega) rfl rfl rfl hz
    cases d with
    | false => exact .inl ⟨100, by decide, F⟩
    | true =>
      have hM : ((L.drop o).take n).length = n := by rw [List.length_take, List.length_drop]; omega
      have hg : ((L.drop o).take n).getD 0 0 = L.getD o 0 := by
        rw [show ((L.drop o).take n).getD 0 0 = (L.drop o).getD 0 0 from by simp [List.getD, List.getElem?_take, show 0 < n by omega], getD_dropI, Nat.zero_add]
      have P := parts (op := 0) K.l0 K.l1 K.l2 (row_byte hb o n) (by omega)
      rw [hg, sub_row L o n 1 w0 (by omega), sub_row L o n (1 + w0) w1 (by omega), sub_row L o n (1 + w0 + w1) w2 (by omega), sub_rest, show 1 + o = (o + 1) by omega, show 1 + w0 + o = (w0 + (o + 1)) by omega, show 1 + w0 + w1 + o = (w1 + (w0 + (o + 1))) by omega, show 1 + w0 + w1 + w2 + o = (w2 + (w1 + (w0 + (o + 1)))) by omega] at P
      exact .inr ⟨⟨L.getD o 0, _, _, _⟩, _, _, F, rfl, encF_of (enc_ok K hN hz), P.symm⟩
/-- Where an instruction's bytes stand, it is decoded. -/
theorem instr_Decode_forth {o : Nat} (hb : ∀ i, i < L.length → 0 ≤ L.getD i 0 ∧ L.getD i 0 ≤ 255) (hn : o + n ≤ L.length) (hL : n ≤ 100000) (hc : n ≤ c) (hN : 2000 ≤ N) {i : R_iiii} {y R : List Int} (hy : encF i N = some y) (hM : (L.drop o).take n = y ++ R) : instr_Decode L o n c N = some (.r1 i.a1 i.a2 i.a3 R) ∧ L.getD o 0 = i.a0 := by
  rcases encF_two i hN with ⟨e, _⟩ | ⟨nm, s0, s1, s2, t0, t1, t2, w0, w1, w2, K, hz, e, _⟩
  · rw [e] at hy; cases hy
  rw [e] at hy
  obtain rfl := Option.some.inj hy
  obtain ⟨d, hz', hr⟩ := K.chk (by omega) i.a1 i.a2 i.a3
  have hd : d = true := by
    cases d with
    | true => rfl
    | false => rw [hz] at hz'; simp at hz'
  obtain ⟨_, rA, rB, rC⟩ := hr hd
  obtain ⟨u0, u1, u2, u3, u4⟩ := unparts (R := R) K.l0 K.l1 K.l2 rA rB rC (K.rg rfl)
  have hln : ((L.drop o).take n).length = n := by rw [List.length_take, List.length_drop]; omega
  have hlen : 1 + w0 + w1 + w2 + R.length = n := by rw [← hln, hM, List.length_append, encL_len]
  have hg : ((L.drop o).take n).getD 0 0 = L.getD o 0 := by
    rw [show ((L.drop o).take n).getD 0 0 = (L.drop o).getD 0 0 from by simp [List.getD, List.getElem?_take, show 0 < n by omega], getD_dropI, Nat.zero_add]
  rw [← hM] at u0 u1 u2 u3 u4
  rw [hg] at u0
  rw [sub_row L o n 1 w0 (by omega), show 1 + o = (o + 1) by omega] at u1
  rw [sub_row L o n (1 + w0) w1 (by omega), show 1 + w0 + o = (w0 + (o + 1)) by omega] at u2
  rw [sub_row L o n (1 + w0 + w1) w2 (by omega), show 1 + w0 + w1 + o = (w1 + (w0 + (o + 1))) by omega] at u3
  rw [sub_rest, show 1 + w0 + w1 + w2 + o = (w2 + (w1 + (w0 + (o + 1)))) by omega] at u4
  have K' := K
  rw [← u0] at K'
  have F := instr_Decode_full hb hn hL hc hN K' (by omega) u1.symm u2.symm u3.symm (by rw [u0]; exact hz)
  rw [if_pos rfl, u4] at F
  exact ⟨F, u0⟩
end
section
variable {L : List Int} {n c N w0 w1 w2 : Nat} {s0 s1 s2 t0 t1 t2 : Int} {nm : List Int}
theorem instr_Decode_3_d0 {z : Int} (hw : instr_shape_width s0 N = some (.r0 (w0 : Int))) (h : w0 ≤ n - 1) (hc : n ≤ c) (hj : instr_join L 1 w0 (c - 1) N = some (.r0 z)) :
    instr_Decode_3Step L n c N (.h1m0 s0 s1 s2) = some (.inl (.h1m1 (w0 + 1) (n - 1 - w0) (c - 1 - w0) s0 s1 s2 z)) := by
  show instr_Decode_3_h1m0 L n c N s0 s1 s2 = _
  unfold instr_Decode_3_h1m0
  exact bind_to hw <| ite_no (by omega) <| bind_to hw <| ite_yes (by omega) <| ite_yes (by omega) <| bind_to hj <| bind_to hw <| ite_yes (by omega) <| ite_yes (by omega) <| ite_yes (by omega) rfl
theorem instr_Decode_3_d0s (hw : instr_shape_width s0 N = some (.r0 (w0 : Int))) (h : n - 1 < w0) : instr_Decode_3Step L n c N (.h1m0 s0 s1 s2) = some (.inr (.r0 6)) := by
  show instr_Decode_3_h1m0 L n c N s0 s1 s2 = _
  unfold instr_Decode_3_h1m0
  exact bind_to hw <| ite_yes (by omega) rfl
theorem instr_Decode_3_d1 {v4 v5 v6 : Nat} {x z : Int} (hw : instr_shape_width s1 N = some (.r0 (w1 : Int))) (h : w1 ≤ v5) (hc : v5 ≤ v6) (hj : instr_join L v4 w1 v6 N = some (.r0 z)) :
    instr_Decode_3Step L n c N (.h1m1 v4 v5 v6 s0 s1 s2 x) = some (.inl (.h1m2 (w1 + v4) (v5 - w1) (v6 - w1) s0 s1 s2 x z)) := by
  show instr_Decode_3_h1m1 L n c N v4 v5 v6 s0 s1 s2 x = _
  unfold instr_Decode_3_h1m1
  exact bind_to hw <| ite_no (by omega) <| bind_to hw <| ite_yes (by omega) <| ite_yes (by omega) <| bind_to hj <| bind_to hw <| ite_yes (by omega) <| ite_yes (by omega) <| ite_yes (by omega) rfl
theorem instr_Decode_3_d1s {v4 v5 v6 : Nat} {x : Int} (hw : instr_shape_width s1 N = some (.r0 (w1 : Int))) (h : v5 < w1) : instr_Decode_3Step L n c N (.h1m1 v4 v5 v6 s0 s1 s2 x) = some (.inr (.r0 6)) := by
  show instr_Decode_3_h1m1 L n c N v4 v5 v6 s0 s1 s2 x = _
  unfold instr_Decode_3_h1m1
  exact bind_to hw <| ite_yes (by omega) rfl
theorem instr_Decode_3_d2 {v4 v5 v6 : Nat} {x y z : Int} (hw : instr_shape_width s2 N = some (.r0 (w2 : Int))) (h : w2 ≤ v5) (hc : v5 ≤ v6) (hj : instr_join L v4 w2 v6 N = some (.r0 z)) :
    instr_Decode_3Step L n c N (.h1m2 v4 v5 v6 s0 s1 s2 x y) = some (.inl (.h1m3 (w2 + v4) (v5 - w2) (v6 - w2) s0 s1 s2 x y z)) := by
  show instr_Decode_3_h1m2 L n c N v4 v5 v6 s0 s1 s2 x y = _
  unfold instr_Decode_3_h1m2
  exact bind_to hw <| ite_no (by omega) <| bind_to hw <| ite_yes (by omega) <| ite_yes (by omega) <| bind_to hj <| bind_to hw <| ite_yes (by omega) <| ite_yes (by omega) <| ite_yes (by omega) rfl
theorem instr_Decode_3_d2s {v4 v5 v6 : Nat} {x y : Int} (hw : instr_shape_width s2 N = some (.r0 (w2 : Int))) (h : v5 < w2) : instr_Decode_3Step L n c N (.h1m2 v4 v5 v6 s0 s1 s2 x y) = some (.inr (.r0 6)) := by
  show instr_Decode_3_h1m2 L n c N v4 v5 v6 s0 s1 s2 x y = _
  unfold instr_Decode_3_h1m2
  exact bind_to hw <| ite_yes (by omega) rfl
theorem instr_Decode_3_in (hb : ∀ i, i < L.length → 0 ≤ L.getD i 0 ∧ L.getD i 0 ≤ 255) (hn : 0 + n ≤ L.length) (h0 : n ≠ 0) (hk : instr_kind_2 (L.getD 0 0) N = some (.r0 nm s0 s1 s2)) {r : Option (instr_Decode_3X ⊕ instr_Decode_3R)} (ho : (if strB nm [] = true then some (.inr (.r0 (100 : Int))) else if ((n : Nat) : Int) ≤ ((c : Nat) : Int) then some (.inl (.h1m0 s0 s1 s2)) else none) = r) : instr_Decode_3In L n c N = r := by
  obtain ⟨b1, b2⟩ := hb 0 (by omega)
  unfold instr_Decode_3In
  exact ite_no (by omega) <| ite_yes (by omega) <| ite_yes (by omega) <| ite_yes (by omega) <| bind_to hk ho
theorem instr_Decode_3_short (hb : ∀ i, i < L.length → 0 ≤ L.getD i 0 ∧ L.getD i 0 ≤ 255) (hn : 0 + n ≤ L.length) (hL : n ≤ 100000) (hc : n ≤ c) (hN : 2000 ≤ N) (h0 : n ≠ 0) (K : Kd (L.getD 0 0) N nm s0 s1 s2 t0 t1 t2 true w0 w1 w2) (hs : n < 1 + w0 + w1 + w2) : instr_Decode_3 L n c N = some (.r0 6) := by
  obtain ⟨l0, l1, l2⟩ := And.intro K.l0.le (And.intro K.l1.le K.l2.le)
  refine (goM_in (instr_Decode_3_in hb hn h0 K.k (ite_no (by rw [K.e]; decide) <| ite_yes (by omega) rfl))).trans ?_
  by_cases q0 : n - 1 < w0
  · exact iter_up (n := 0 + 1) (by omega) (iter_done (instr_Decode_3_d0s K.a0 q0))
  have S1 := instr_Decode_3_d0 (s1 := s1) (s2 := s2) K.a0 (show w0 ≤ n - 1 by omega) hc (instr_join_val (c := c - 1) (o := 1) (N := N) hb (by omega) l0 (by omega))
  by_cases q1 : n - 1 - w0 < w1
  · exact iter_up (n := 0 + 1 + 1) (by omega) ((iter_next S1).trans (iter_done (instr_Decode_3_d1s K.a1 q1)))
  have S2 := instr_Decode_3_d1 (n := n) (c := c) (s0 := s0) (s2 := s2) (x := IntKind.i64.wrap (gV ((L.drop 1).take w0))) (v4 := (w0 + 1)) (v5 := n - 1 - w0) (v6 := c - 1 - w0) K.a1 (by omega) (by omega) (instr_join_val (N := N) hb (by omega) l1 (by omega))
  exact iter_up (n := 0 + 1 + 1 + 1) (by omega) ((iter_next S1).trans ((iter_next S2).trans (iter_done (instr_Decode_3_d2s K.a2 (by omega)))))
theorem instr_Decode_3_full (hb : ∀ i, i < L.length → 0 ≤ L.getD i 0 ∧ L.getD i 0 ≤ 255) (hn : 0 + n ≤ L.length) (hL : n ≤ 100000) (hc : n ≤ c) (hN : 2000 ≤ N) (K : Kd (L.getD 0 0) N nm s0 s1 s2 t0 t1 t2 true w0 w1 w2) (hs : 1 + w0 + w1 + w2 ≤ n) {A B C : Int} (hA : A = IntKind.i64.wrap (gV ((L.drop 1).take w0))) (hB : B = IntKind.i64.wrap (gV ((L.drop (w0 + 1)).take w1))) (hC : C = IntKind.i64.wrap (gV ((L.drop (w1 + (w0 + 1))).take w2))) {z : Int} (hz : instr_Check (L.getD 0 0) A B C N = some (.r0 z)) :
    instr_Decode_3 L n c N = if z = 0 then some (.r1 A B C ((L.drop (w2 + (w1 + (w0 + 1)))).take (n - (1 + w0 + w1 + w2)))) else some (.r0 z) := by
  obtain ⟨l0, l1, l2⟩ := And.intro K.l0.le (And.intro K.l1.le K.l2.le)
  have h0 : n ≠ 0 := by omega
  obtain ⟨b1, b2⟩ := hb 0 (by omega)
  refine (goM_in (instr_Decode_3_in hb hn h0 K.k (ite_no (by rw [K.e]; decide) <| ite_yes (by omega) rfl))).trans ?_
  have S1 := instr_Decode_3_d0 (s1 := s1) (s2 := s2) (z := A) K.a0 (show w0 ≤ n - 1 by omega) hc (by rw [hA]; exact instr_join_val (c := c - 1) (N := N) hb (by omega) l0 (by omega))
  have S2 := instr_Decode_3_d1 (n := n) (c := c) (s0 := s0) (s2 := s2) (x := A) (z := B) (v4 := (w0 + 1)) (v5 := n - 1 - w0) (v6 := c - 1 - w0) K.a1 (by omega) (by omega) (by rw [hB]; exact instr_join_val (N := N) hb (by omega) l1 (by omega))
  have S3 := instr_Decode_3_d2 (n := n) (c := c) (s0 := s0) (s1 := s1) (x := A) (y := B) (z := C) (v4 := (w1 + (w0 + 1))) (v5 := n - 1 - w0 - w1) (v6 := c - 1 - w0 - w1) K.a2 (by omega) (by omega) (by rw [hC]; exact instr_join_val (N := N) hb (by omega) l2 (by omega))
  have fin : ∀ r, instr_Decode_3_h1m3 L n c N (w2 + (w1 + (w0 + 1))) (n - 1 - w0 - w1 - w2) (c - 1 - w0 - w1 - w2) s0 s1 s2 A B C = some (.inr r) → iter (instr_Decode_3Step L n c N) N (.h1m0 s0 s1 s2) = some r := fun r hr => iter_up (n := 0 + 1 + 1 + 1 + 1) (by omega) ((iter_next S1).trans ((iter_next S2).trans ((iter_next S3).trans (iter_done hr))))
  by_cases hz0 : z = 0
  · rw [if_pos hz0]
    refine fin _ ?_
    unfold instr_Decode_3_h1m3
    refine ite_yes (by omega) <| ite_yes (by omega) <| ite_yes (by omega) <| ite_yes (by omega) <| bind_to hz <| ite_no (fun h => h hz0) ?_
    by_cases hv : n - 1 - w0 - w1 - w2 = 0
    · refine ite_yes hv ?_
      rw [show n - (1 + w0 + w1 + w2) = 0 by omega, List.take_zero]
    · refine ite_no hv <| ite_yes (by omega) <| ite_yes (by omega) ?_
      rw [show n - 1 - w0 - w1 - w2 = n - (1 + w0 + w1 + w2) by omega]
  · rw [if_neg hz0]
    refine fin _ ?_
    unfold instr_Decode_3_h1m3
    exact ite_yes (by omega) <| ite_yes (by omega) <| ite_yes (by omega) <| ite_yes (by omega) <| bind_to hz <| ite_yes hz0 rfl
/-- What is decoded: either not, or an instruction whose bytes stood there. -/
theorem instr_Decode_3_back (hb : ∀ i, i < L.length → 0 ≤ L.getD i 0 ∧ L.getD i 0 ≤ 255) (hn : 0 + n ≤ L.length) (hL : n ≤ 100000) (hc : n ≤ c) (hN : 2000 ≤ N) : (∃ z, z ≠ 0 ∧ instr_Decode_3 L n c N = some (.r0 z)) ∨ ∃ i y R, instr_Decode_3 L n c N = some (.r1 i.a1 i.a2 i.a3 R) ∧ i.a0 = L.getD 0 0 ∧ encF i N = some y ∧ (L.drop 0).take n = y ++ R := by
  by_cases h0 : n = 0
  · subst h0
    exact .inl ⟨6, by decide, goM_out (ite_yes (by omega) rfl)⟩
  obtain ⟨nm, s0, s1, s2, t0, t1, t2, q, w0, w1, w2, K⟩ := kd (L.getD 0 0) N
  cases q with
  | false => exact .inl ⟨100, by decide, goM_out (instr_Decode_3_in hb hn h0 K.k (ite_yes (by rw [K.e]; rfl) rfl))⟩
  | true =>
    by_cases hs : n < 1 + w0 + w1 + w2
    · exact .inl ⟨6, by decide, instr_Decode_3_short hb hn hL hc hN h0 K hs⟩
    obtain ⟨d, hz, _⟩ := K.chk (by omega) (IntKind.i64.wrap (gV ((L.drop 1).take w0))) (IntKind.i64.wrap (gV ((L.drop (w0 + 1)).take w1))) (IntKind.i64.wrap (gV ((L.drop (w1 + (w0 + 1))).take w2)))
    have F := instr_Decode_3_full hb hn hL hc hN K (by omega) rfl rfl rfl hz
    cases d with
    | false => exact .inl ⟨100, by decide, F⟩
    | true =>
      have hM : ((L.drop 0).take n).length = n := by rw [List.length_take, List.length_drop]; omega
      have hg : ((L.drop 0).take n).getD 0 0 = L.getD 0 0 := by
        rw [show ((L.drop 0).take n).getD 0 0 = (L.drop 0).getD 0 0 from by simp [List.getD, List.getElem?_take, show 0 < n by omega], getD_dropI, Nat.zero_add]
      have P := parts (op := 0) K.l0 K.l1 K.l2 (row_byte hb 0 n) (by omega)
      rw [hg, sub_row L 0 n 1 w0 (by omega), sub_row L 0 n (1 + w0) w1 (by omega), sub_row L 0 n (1 + w0 + w1) w2 (by omega), sub_rest, show 1 + 0 = 1 by omega, show 1 + w0 + 0 = (w0 + 1) by omega, show 1 + w0 + w1 + 0 = (w1 + (w0 + 1)) by omega, show 1 + w0 + w1 + w2 + 0 = (w2 + (w1 + (w0 + 1))) by omega] at P
      exact .inr ⟨⟨L.getD 0 0, _, _, _⟩, _, _, F, rfl, encF_of (enc_ok K hN hz), P.symm⟩
/-- Where an instruction's bytes stand, it is decoded. -/
theorem instr_Decode_3_forth (hb : ∀ i, i < L.length → 0 ≤ L.getD i 0 ∧ L.getD i 0 ≤ 255) (hn : 0 + n ≤ L.length) (hL : n ≤ 100000) (hc : n ≤ c) (hN : 2000 ≤ N) {i : R_iiii} {y R : List Int} (hy : encF i N = some y) (hM : (L.drop 0).take n = y ++ R) : instr_Decode_3 L n c N = some (.r1 i.a1 i.a2 i.a3 R) ∧ L.getD 0 0 = i.a0 := by
  rcases encF_two i hN with ⟨e, _⟩ | ⟨nm, s0, s1, s2, t0, t1, t2, w0, w1, w2, K, hz, e, _⟩
  · rw [e] at hy; cases hy
  rw [e] at hy
  obtain rfl := Option.some.inj hy
  obtain ⟨d, hz', hr⟩ := K.chk (by omega) i.a1 i.a2 i.a3
  have hd : d = true := by
    cases d with
    | true => rfl
    | false => rw [hz] at hz'; simp at hz'
  obtain ⟨_, rA, rB, rC⟩ := hr hd
  obtain ⟨u0, u1, u2, u3, u4⟩ := unparts (R := R) K.l0 K.l1 K.l2 rA rB rC (K.rg rfl)
  have hln : ((L.drop 0).take n).length = n := by rw [List.length_take, List.length_drop]; omega
  have hlen : 1 + w0 + w1 + w2 + R.length = n := by rw [← hln, hM, List.length_append, encL_len]
  have hg : ((L.drop 0).take n).getD 0 0 = L.getD 0 0 := by
    rw [show ((L.drop 0).take n).getD 0 0 = (L.drop 0).getD 0 0 from by simp [List.getD, List.getElem?_take, show 0 < n by omega], getD_dropI, Nat.zero_add]
  rw [← hM] at u0 u1 u2 u3 u4
  rw [hg] at u0
  rw [sub_row L 0 n 1 w0 (by omega), show 1 + 0 = 1 by omega] at u1
  rw [sub_row L 0 n (1 + w0) w1 (by omega), show 1 + w0 + 0 = (w0 + 1) by omega] at u2
  rw [sub_row L 0 n (1 + w0 + w1) w2 (by omega), show 1 + w0 + w1 + 0 = (w1 + (w0 + 1)) by omega] at u3
  rw [sub_rest, show 1 + w0 + w1 + w2 + 0 = (w2 + (w1 + (w0 + 1))) by omega] at u4
  have K' := K
  rw [← u0] at K'
  have F := instr_Decode_3_full hb hn hL hc hN K' (by omega) u1.symm u2.symm u3.symm (by rw [u0]; exact hz)
  rw [if_pos rfl, u4] at F
  exact ⟨F, u0⟩
end
theorem instr_join_2_val {L : List Int} {o w c N : Nat} (hb : ∀ i, i < L.length → 0 ≤ L.getD i 0 ∧ L.getD i 0 ≤ 255) (hn : o + w ≤ L.length) (hw : w ≤ 8) (hN : 100 ≤ N) : instr_join_2 L o w c N = some (.r0 (IntKind.i64.wrap (gV ((L.drop o).take w)))) := by
  unfold instr_join_2
  have loop : ∀ d j f v, j + d = w → d < f → v = gV ((L.drop o).take j) → 0 ≤ v → v < ((256 ^ j : Nat) : Int) → iter (instr_join_2Step L o w c N) f (.h1m0 v j) = some (.r0 (IntKind.i64.wrap (gV ((L.drop o).take w)))) := by
    intro d
    induction d with
    | zero =>
      intro j f v hj hf hv h0 h1
      obtain ⟨f, rfl⟩ : ∃ g, f = g + 1 := ⟨f - 1, by omega⟩
      refine iter_done ?_
      show instr_join_2_h1m0 L o w c N v j = _
      unfold instr_join_2_h1m0
      refine ite_no (by omega) ?_
      obtain rfl : j = w := by omega
      rw [hv]
    | succ d ih =>
      intro j f v hj hf hv h0 h1
      obtain ⟨f, rfl⟩ : ∃ g, f = g + 1 := ⟨f - 1, by omega⟩
      obtain ⟨b0, b1⟩ := hb (j + o) (by omega)
      obtain ⟨e1, e2, e3⟩ := g_step h0 h1 (by omega) b0 b1
      refine (iter_next (y := .h1m0 (256 * v + L.getD (j + o) 0) (j + 1)) ?_).trans (ih (j + 1) f _ (by omega) (by omega) ?_ e2 e3)
      · show instr_join_2_h1m0 L o w c N v j = _
        unfold instr_join_2_h1m0
        rw [or_shift b0 b1, e1]
        exact ite_yes (by omega) (ite_yes (by omega) (ite_yes b0 (ite_yes (by omega) (ite_yes (by omega) rfl))))
      · rw [hv, ← gV_snoc, ← getD_dropI, take_snoc (by rw [List.length_drop]; omega)]
  exact loop w 0 N 0 (by omega) (by omega) rfl (by decide) (by decide)
section
variable {L : List Int} {n c N w0 w1 w2 : Nat} {s0 s1 s2 t0 t1 t2 : Int} {nm : List Int}
theorem instr_Decode_4_d0 {o : Nat} {z : Int} (hw : instr_shape_width s0 N = some (.r0 (w0 : Int))) (h : w0 ≤ n - 1) (hc : n ≤ c) (hj : instr_join_2 L (o + 1) w0 (c - 1) N = some (.r0 z)) :
    instr_Decode_4Step L o n c N (.h1m0 s0 s1 s2) = some (.inl (.h1m1 (w0 + (o + 1)) (n - 1 - w0) (c - 1 - w0) s0 s1 s2 z)) := by
  show instr_Decode_4_h1m0 L o n c N s0 s1 s2 = _
  unfold instr_Decode_4_h1m0
  exact bind_to hw <| ite_no (by omega) <| bind_to hw <| ite_yes (by omega) <| ite_yes (by omega) <| bind_to hj <| bind_to hw <| ite_yes (by omega) <| ite_yes (by omega) <| ite_yes (by omega) rfl
theorem instr_Decode_4_d0s {o : Nat} (hw : instr_shape_width s0 N = some (.r0 (w0 : Int))) (h : n - 1 < w0) : instr_Decode_4Step L o n c N (.h1m0 s0 s1 s2) = some (.inr (.r0 6)) := by
  show instr_Decode_4_h1m0 L o n c N s0 s1 s2 = _
  unfold instr_Decode_4_h1m0
  exact bind_to hw <| ite_yes (by omega) rfl
theorem instr_Decode_4_d1 {o : Nat} {v4 v5 v6 : Nat} {x z : Int} (hw : instr_shape_width s1 N = some (.r0 (w1 : Int))) (h : w1 ≤ v5) (hc : v5 ≤ v6) (hj : instr_join_2 L v4 w1 v6 N = some (.r0 z)) :
    instr_Decode_4Step L o n c N (.h1m1 v4 v5 v6 s0 s1 s2 x) = some (.inl (.h1m2 (w1 + v4) (v5 - w1) (v6 - w1) s0 s1 s2 x z)) := by
  show instr_Decode_4_h1m1 L o n c N v4 v5 v6 s0 s1 s2 x = _
  unfold instr_Decode_4_h1m1
  exact bind_to hw <| ite_no (by omega) <| bind_to hw <| ite_yes (by omega) <| ite_yes (by omega) <| bind_to hj <| bind_to hw <| ite_yes (by omega) <| ite_yes (by omega) <| ite_yes (by omega) rfl
theorem instr_Decode_4_d1s {o : Nat} {v4 v5 v6 : Nat} {x : Int} (hw : instr_shape_width s1 N = some (.r0 (w1 : Int))) (h : v5 < w1) : instr_Decode_4Step L o n c N (.h1m1 v4 v5 v6 s0 s1 s2 x) = some (.inr (.r0 6)) := by
  show instr_Decode_4_h1m1 L o n c N v4 v5 v6 s0 s1 s2 x = _
  unfold instr_Decode_4_h1m1
  exact bind_to hw <| ite_yes (by omega) rfl
theorem instr_Decode_4_d2 {o : Nat} {v4 v5 v6 : Nat} {x y z : Int} (hw : instr_shape_width s2 N = some (.r0 (w2 : Int))) (h : w2 ≤ v5) (hc : v5 ≤ v6) (hj : instr_join_2 L v4 w2 v6 N = some (.r0 z)) :
    instr_Decode_4Step L o n c N (.h1m2 v4 v5 v6 s0 s1 s2 x y) = some (.inl (.h1m3 (w2 + v4) (v5 - w2) (v6 - w2) s0 s1 s2 x y z)) := by
  show instr_Decode_4_h1m2 L o n c N v4 v5 v6 s0 s1 s2 x y = _
  unfold instr_Decode_4_h1m2
  exact bind_to hw <| ite_no (by omega) <| bind_to hw <| ite_yes (by omega) <| ite_yes (by omega) <| bind_to hj <| bind_to hw <| ite_yes (by omega) <| ite_yes (by omega) <| ite_yes (by omega) rfl
theorem instr_Decode_4_d2s {o : Nat} {v4 v5 v6 : Nat} {x y : Int} (hw : instr_shape_width s2 N = some (.r0 (w2 : Int))) (h : v5 < w2) : instr_Decode_4Step L o n c N (.h1m2 v4 v5 v6 s0 s1 s2 x y) = some (.inr (.r0 6)) := by
  show instr_Decode_4_h1m2 L o n c N v4 v5 v6 s0 s1 s2 x y = _
  unfold instr_Decode_4_h1m2
  exact bind_to hw <| ite_yes (by omega) rfl
theorem instr_Decode_4_in {o : Nat} (hb : ∀ i, i < L.length → 0 ≤ L.getD i 0 ∧ L.getD i 0 ≤ 255) (hn : o + n ≤ L.length) (h0 : n ≠ 0) (hk : instr_kind_2 (L.getD o 0) N = some (.r0 nm s0 s1 s2)) {r : Option (instr_Decode_4X ⊕ instr_Decode_4R)} (ho : (if strB nm [] = true then some (.inr (.r0 (100 : Int))) else if ((n : Nat) : Int) ≤ ((c : Nat) : Int) then some (.inl (.h1m0 s0 s1 s2)) else none) = r) : instr_Decode_4In L o n c N = r := by
  obtain ⟨b1, b2⟩ := hb o (by omega)
  unfold instr_Decode_4In
  exact ite_no (by omega) <| ite_yes (by omega) <| ite_yes (by omega) <| ite_yes (by omega) <| bind_to hk ho
theorem instr_Decode_4_short {o : Nat} (hb : ∀ i, i < L.length → 0 ≤ L.getD i 0 ∧ L.getD i 0 ≤ 255) (hn : o + n ≤ L.length) (hL : n ≤ 100000) (hc : n ≤ c) (hN : 2000 ≤ N) (h0 : n ≠ 0) (K : Kd (L.getD o 0) N nm s0 s1 s2 t0 t1 t2 true w0 w1 w2) (hs : n < 1 + w0 + w1 + w2) : instr_Decode_4 L o n c N = some (.r0 6) := by
  obtain ⟨l0, l1, l2⟩ := And.intro K.l0.le (And.intro K.l1.le K.l2.le)
  refine (goM_in (instr_Decode_4_in hb hn h0 K.k (ite_no (by rw [K.e]; decide) <| ite_yes (by omega) rfl))).trans ?_
  by_cases q0 : n - 1 < w0
  · exact iter_up (n := 0 + 1) (by omega) (iter_done (instr_Decode_4_d0s K.a0 q0))
  have S1 := instr_Decode_4_d0 (s1 := s1) (s2 := s2) K.a0 (show w0 ≤ n - 1 by omega) hc (instr_join_2_val (c := c - 1) (o := (o + 1)) (N := N) hb (by omega) l0 (by omega))
  by_cases q1 : n - 1 - w0 < w1
  · exact iter_up (n := 0 + 1 + 1) (by omega) ((iter_next S1).trans (iter_done (instr_Decode_4_d1s K.a1 q1)))
  have S2 := instr_Decode_4_d1 (o := o) (n := n) (c := c) (s0 := s0) (s2 := s2) (x := IntKind.i64.wrap (gV ((L.drop (o + 1)).take w0))) (v4 := (w0 + (o + 1))) (v5 := n - 1 - w0) (v6 := c - 1 - w0) K.a1 (by omega) (by omega) (instr_join_2_val (N := N) hb (by omega) l1 (by omega))
  exact iter_up (n := 0 + 1 + 1 + 1) (by omega) ((iter_next S1).trans ((iter_next S2).trans (iter_done (instr_Decode_4_d2s K.a2 (by omega)))))
theorem instr_Decode_4_full {o : Nat} (hb : ∀ i, i < L.length → 0 ≤ L.getD i 0 ∧ L.getD i 0 ≤ 255) (hn : o + n ≤ L.length) (hL : n ≤ 100000) (hc : n ≤ c) (hN : 2000 ≤ N) (K : Kd (L.getD o 0) N nm s0 s1 s2 t0 t1 t2 true w0 w1 w2) (hs : 1 + w0 + w1 + w2 ≤ n) {A B C : Int} (hA : A = IntKind.i64.wrap (gV ((L.drop (o + 1)).take w0))) (hB : B = IntKind.i64.wrap (gV ((L.drop (w0 + (o + 1))).take w1))) (hC : C = IntKind.i64.wrap (gV ((L.drop (w1 + (w0 + (o + 1)))).take w2))) {z : Int} (hz : instr_Check (L.getD o 0) A B C N = some (.r0 z)) :
    instr_Decode_4 L o n c N = if z = 0 then some (.r1 A B C ((L.drop (w2 + (w1 + (w0 + (o + 1))))).take (n - (1 + w0 + w1 + w2)))) else some (.r0 z) := by
  obtain ⟨l0, l1, l2⟩ := And.intro K.l0.le (And.intro K.l1.le K.l2.le)
  have h0 : n ≠ 0 := by omega
  obtain ⟨b1, b2⟩ := hb o (by omega)
  refine (goM_in (instr_Decode_4_in hb hn h0 K.k (ite_no (by rw [K.e]; decide) <| ite_yes (by omega) rfl))).trans ?_
  have S1 := instr_Decode_4_d0 (o := o) (s1 := s1) (s2 := s2) (z := A) K.a0 (show w0 ≤ n - 1 by omega) hc (by rw [hA]; exact instr_join_2_val (c := c - 1) (N := N) hb (by omega) l0 (by omega))
  have S2 := instr_Decode_4_d1 (o := o) (n := n) (c := c) (s0 := s0) (s2 := s2) (x := A) (z := B) (v4 := (w0 + (o + 1))) (v5 := n - 1 - w0) (v6 := c - 1 - w0) K.a1 (by omega) (by omega) (by rw [hB]; exact instr_join_2_val (N := N) hb (by omega) l1 (by omega))
  have S3 := instr_Decode_4_d2 (o := o) (n := n) (c := c) (s0 := s0) (s1 := s1) (x := A) (y := B) (z := C) (v4 := (w1 + (w0 + (o + 1)))) (v5 := n - 1 - w0 - w1) (v6 := c - 1 - w0 - w1) K.a2 (by omega) (by omega) (by rw [hC]; exact instr_join_2_val (N := N) hb (by omega) l2 (by omega))
  have fin : ∀ r, instr_Decode_4_h1m3 L o n c N (w2 + (w1 + (w0 + (o + 1)))) (n - 1 - w0 - w1 - w2) (c - 1 - w0 - w1 - w2) s0 s1 s2 A B C = some (.inr r) → iter (instr_Decode_4Step L o n c N) N (.h1m0 s0 s1 s2) = some r := fun r hr => iter_up (n := 0 + 1 + 1 + 1 + 1) (by omega) ((iter_next S1).trans ((iter_next S2).trans ((iter_next S3).trans (iter_done hr))))
  by_cases hz0 : z = 0
  · rw [if_pos hz0]
    refine fin _ ?_
    unfold instr_Decode_4_h1m3
    refine ite_yes (by omega) <| ite_yes (by omega) <| ite_yes (by omega) <| ite_yes (by omega) <| bind_to hz <| ite_no (fun h => h hz0) ?_
    by_cases hv : n - 1 - w0 - w1 - w2 = 0
    · refine ite_yes hv ?_
      rw [show n - (1 + w0 + w1 + w2) = 0 by omega, List.take_zero]
    · refine ite_no hv <| ite_yes (by omega) <| ite_yes (by omega) ?_
      rw [show n - 1 - w0 - w1 - w2 = n - (1 + w0 + w1 + w2) by omega]
  · rw [if_neg hz0]
    refine fin _ ?_
    unfold instr_Decode_4_h1m3
    exact ite_yes (by omega) <| ite_yes (by omega) <| ite_yes (by omega) <| ite_yes (by omega) <| bind_to hz <| ite_yes hz0 rfl
/-- What is decoded: either not, or an instruction whose bytes stood there. -/
theorem instr_Decode_4_back {o : Nat} (hb : ∀ i, i < L.length → 0 ≤ L.getD i 0 ∧ L.getD i 0 ≤ 255) (hn : o + n ≤ L.length) (hL : n ≤ 100000) (hc : n ≤ c) (hN : 2000 ≤ N) : (∃ z, z ≠ 0 ∧ instr_Decode_4 L o n c N = some (.r0 z)) ∨ ∃ i y R, instr_Decode_4 L o n c N = some (.r1 i.a1 i.a2 i.a3 R) ∧ i.a0 = L.getD o 0 ∧ encF i N = some y ∧ (L.drop o).take n = y ++ R := by
  by_cases h0 : n = 0
  · subst h0
    exact .inl ⟨6, by decide, goM_out (ite_yes (by omega) rfl)⟩
  obtain ⟨nm, s0, s1, s2, t0, t1, t2, q, w0, w1, w2, K⟩ := kd (L.getD o 0) N
  cases q with
  | false => exact .inl ⟨100, by decide, goM_out (instr_Decode_4_in hb hn h0 K.k (ite_yes (by rw [K.e]; rfl) rfl))⟩
  | true =>
    by_cases hs : n < 1 + w0 + w1 + w2
    · exact .inl ⟨6, by decide, instr_Decode_4_short hb hn hL hc hN h0 K hs⟩
    obtain ⟨d, hz, _⟩ := K.chk (by omega) (IntKind.i64.wrap (gV ((L.drop (o + 1)).take w0))) (IntKind.i64.wrap (gV ((L.drop (w0 + (o + 1))).take w1))) (IntKind.i64.wrap (gV ((L.drop (w1 + (w0 + (o + 1)))).take w2)))
    have F := instr_Decode_4_full hb hn hL hc hN K (by omega) rfl rfl rfl hz
    cases d with
    | false => exact .inl ⟨100, by decide, F⟩
    | true =>
      have hM : ((L.drop o).take n).length = n := by rw [List.length_take, List.length_drop]; omega
      have hg : ((L.drop o).take n).getD 0 0 = L.getD o 0 := by
        rw [show ((L.drop o).take n).getD 0 0 = (L.drop o).getD 0 0 from by simp [List.getD, List.getElem?_take, show 0 < n by omega], getD_dropI, Nat.zero_add]
      have P := parts (op := 0) K.l0 K.l1 K.l2 (row_byte hb o n) (by omega)
      rw [hg, sub_row L o n 1 w0 (by omega), sub_row L o n (1 + w0) w1 (by omega), sub_row L o n (1 + w0 + w1) w2 (by omega), sub_rest, show 1 + o = (o + 1) by omega, show 1 + w0 + o = (w0 + (o + 1)) by omega, show 1 + w0 + w1 + o = (w1 + (w0 + (o + 1))) by omega, show 1 + w0 + w1 + w2 + o = (w2 + (w1 + (w0 + (o + 1)))) by omega] at P
      exact .inr ⟨⟨L.getD o 0, _, _, _⟩, _, _, F, rfl, encF_of (enc_ok K hN hz), P.symm⟩
/-- Where an instruction's bytes stand, it is decoded. -/
theorem instr_Decode_4_forth {o : Nat} (hb : ∀ i, i < L.length → 0 ≤ L.getD i 0 ∧ L.getD i 0 ≤ 255) (hn : o + n ≤ L.length) (hL : n ≤ 100000) (hc : n ≤ c) (hN : 2000 ≤ N) {i : R_iiii} {y R : List Int} (hy : encF i N = some y) (hM : (L.drop o).take n = y ++ R) : instr_Decode_4 L o n c N = some (.r1 i.a1 i.a2 i.a3 R) ∧ L.getD o 0 = i.a0 := by
  rcases encF_two i hN with ⟨e, _⟩ | ⟨nm, s0, s1, s2, t0, t1, t2, w0, w1, w2, K, hz, e, _⟩
  · rw [e] at hy; cases hy
  rw [e] at hy
  obtain rfl := Option.some.inj hy
  obtain ⟨d, hz', hr⟩ := K.chk (by omega) i.a1 i.a2 i.a3
  have hd : d = true := by
    cases d with
    | true => rfl
    | false => rw [hz] at hz'; simp at hz'
  obtain ⟨_, rA, rB, rC⟩ := hr hd
  obtain ⟨u0, u1, u2, u3, u4⟩ := unparts (R := R) K.l0 K.l1 K.l2 rA rB rC (K.rg rfl)
  have hln : ((L.drop o).take n).length = n := by rw [List.length_take, List.length_drop]; omega
  have hlen : 1 + w0 + w1 + w2 + R.length = n := by rw [← hln, hM, List.length_append, encL_len]
  have hg : ((L.drop o).take n).getD 0 0 = L.getD o 0 := by
    rw [show ((L.drop o).take n).getD 0 0 = (L.drop o).getD 0 0 from by simp [List.getD, List.getElem?_take, show 0 < n by omega], getD_dropI, Nat.zero_add]
  rw [← hM] at u0 u1 u2 u3 u4
  rw [hg] at u0
  rw [sub_row L o n 1 w0 (by omega), show 1 + o = (o + 1) by omega] at u1
  rw [sub_row L o n (1 + w0) w1 (by omega), show 1 + w0 + o = (w0 + (o + 1)) by omega] at u2
  rw [sub_row L o n (1 + w0 + w1) w2 (by omega), show 1 + w0 + w1 + o = (w1 + (w0 + (o + 1))) by omega] at u3
  rw [sub_rest, show 1 + w0 + w1 + w2 + o = (w2 + (w1 + (w0 + (o + 1)))) by omega] at u4
  have K' := K
  rw [← u0] at K'
  have F := instr_Decode_4_full hb hn hL hc hN K' (by omega) u1.symm u2.symm u3.symm (by rw [u0]; exact hz)
  rw [if_pos rfl, u4] at F
  exact ⟨F, u0⟩
end
end Ev
end Go.Proofs.Ytaahblgahilohaa
