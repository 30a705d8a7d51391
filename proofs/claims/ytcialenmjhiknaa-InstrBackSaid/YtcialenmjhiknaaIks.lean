/- What an instruction's functions do: plain. -/
import Derived.Test.YtcialenmjhiknaaIkr
import Derived.Test.YtcialenmjhiknaaByt
namespace Go.Proofs.Ytcialenmjhiknaa
open Go.RowKit
namespace Ev
set_option linter.unusedVariables false
set_option linter.unusedSimpArgs false
theorem pow_small {a : Int} (h1 : 1 ≤ a) (h2 : a ≤ 16) : ∃ k : Nat, (1 : Int) * (2 ^ a.toNat : Int) = (k : Int) ∧ 2 ≤ k ∧ k ≤ 65536 := by
  have h : a.toNat = 1 ∨ a.toNat = 2 ∨ a.toNat = 3 ∨ a.toNat = 4 ∨ a.toNat = 5 ∨ a.toNat = 6 ∨ a.toNat = 7 ∨ a.toNat = 8 ∨ a.toNat = 9 ∨ a.toNat = 10 ∨ a.toNat = 11 ∨ a.toNat = 12 ∨ a.toNat = 13 ∨ a.toNat = 14 ∨ a.toNat = 15 ∨ a.toNat = 16 := by omega
  rcases h with h | h | h | h | h | h | h | h | h | h | h | h | h | h | h | h <;> rw [h]
  · exact ⟨2, by decide, by decide, by decide⟩
  · exact ⟨4, by decide, by decide, by decide⟩
  · exact ⟨8, by decide, by decide, by decide⟩
  · exact ⟨16, by decide, by decide, by decide⟩
  · exact ⟨32, by decide, by decide, by decide⟩
  · exact ⟨64, by decide, by decide, by decide⟩
  · exact ⟨128, by decide, by decide, by decide⟩
  · exact ⟨256, by decide, by decide, by decide⟩
  · exact ⟨512, by decide, by decide, by decide⟩
  · exact ⟨1024, by decide, by decide, by decide⟩
  · exact ⟨2048, by decide, by decide, by decide⟩
  · exact ⟨4096, by decide, by decide, by decide⟩
  · exact ⟨8192, by decide, by decide, by decide⟩
  · exact ⟨16384, by decide, by decide, by decide⟩
  · exact ⟨32768, by decide, by decide, by decide⟩
  · exact ⟨65536, by decide, by decide, by decide⟩
theorem fr_1 (n a : Int) (N : Nat) : ∃ b, instr_shape_fits 1 n a N = some (.r0 b) ∧ (b = true → (0 : Int) ≤ n ∧ n ≤ 7) := by
  refine ⟨decide ((0 : Int) ≤ n ∧ n ≤ 7), ?_, fun h => by simpa using h⟩
  unfold instr_shape_fits; rw [if_pos rfl]; by_cases h1 : (0 : Int) ≤ n <;> by_cases h2 : n ≤ 7 <;> simp [h1, h2]
theorem fr_2 (n a : Int) (N : Nat) : ∃ b, instr_shape_fits 2 n a N = some (.r0 b) ∧ (b = true → (0 : Int) ≤ n ∧ n ≤ 15) := by
  refine ⟨decide ((0 : Int) ≤ n ∧ n ≤ 15), ?_, fun h => by simpa using h⟩
  unfold instr_shape_fits; rw [if_neg (by decide), if_pos rfl]; by_cases h1 : (0 : Int) ≤ n <;> by_cases h2 : n ≤ 15 <;> simp [h1, h2]
theorem fr_3 (n a : Int) (N : Nat) : ∃ b, instr_shape_fits 3 n a N = some (.r0 b) ∧ (b = true → (1 : Int) ≤ n ∧ n ≤ 16) := by
  refine ⟨decide ((1 : Int) ≤ n ∧ n ≤ 16), ?_, fun h => by simpa using h⟩
  unfold instr_shape_fits; rw [if_neg (by decide), if_neg (by decide), if_pos rfl]; by_cases h1 : (1 : Int) ≤ n <;> by_cases h2 : n ≤ 16 <;> simp [h1, h2]
theorem fr_4 (n a : Int) (N : Nat) : ∃ b, instr_shape_fits 4 n a N = some (.r0 b) ∧ (b = true → (0 : Int) ≤ n ∧ n ≤ 512) := by
  refine ⟨decide ((0 : Int) ≤ n ∧ n ≤ 512), ?_, fun h => by simpa using h⟩
  unfold instr_shape_fits; rw [if_neg (by decide), if_neg (by decide), if_neg (by decide), if_pos rfl]; by_cases h1 : (0 : Int) ≤ n <;> by_cases h2 : n ≤ 512 <;> simp [h1, h2]
theorem fr_6 (n a : Int) (N : Nat) : ∃ b, instr_shape_fits 6 n a N = some (.r0 b) ∧ (b = true → (-1099511627776 : Int) ≤ n ∧ n ≤ 1099511627776) := by
  refine ⟨decide ((-1099511627776 : Int) ≤ n ∧ n ≤ 1099511627776), ?_, fun h => by simpa using h⟩
  unfold instr_shape_fits; rw [if_neg (by decide), if_neg (by decide), if_neg (by decide), if_neg (by decide), if_neg (by decide), if_pos rfl]; by_cases h1 : (-1099511627776 : Int) ≤ n <;> by_cases h2 : n ≤ 1099511627776 <;> simp [h1, h2]
theorem fr_0 (n a : Int) (N : Nat) : ∃ b, instr_shape_fits 0 n a N = some (.r0 b) ∧ (b = true → n = 0) := by
  refine ⟨decide (n = 0), ?_, fun h => by simpa using h⟩
  unfold instr_shape_fits; rw [if_neg (by decide), if_neg (by decide), if_neg (by decide), if_neg (by decide), if_neg (by decide), if_neg (by decide)]
  by_cases h1 : (0 : Int) ≤ n <;> by_cases h2 : n ≤ 0 <;> simp [h1, h2] <;> omega
theorem fr_5 (n a : Int) (N : Nat) (h1 : 1 ≤ a) (h2 : a ≤ 16) : ∃ b, instr_shape_fits 5 n a N = some (.r0 b) ∧ (b = true → 0 ≤ n ∧ n ≤ 65535) := by
  obtain ⟨k, hk, k1, k2⟩ := pow_small h1 h2
  have w1 : IntKind.i64.wrap ((1 : Int) * (2 ^ a.toNat : Int)) = (k : Int) := by rw [hk]; exact w64 (by omega) (by omega)
  refine ⟨decide (0 ≤ n ∧ n ≤ (k : Int) - 1), ?_, fun h => by have := of_decide_eq_true h; omega⟩
  unfold instr_shape_fits
  rw [if_neg (by decide), if_neg (by decide), if_neg (by decide), if_neg (by decide), if_pos rfl, if_pos (by omega), if_pos (by omega), w1, w64 (by omega) (by omega)]
  by_cases h1 : (0 : Int) ≤ n <;> by_cases h2 : n ≤ (k : Int) - 1 <;> simp [h1, h2]
theorem rng_of {A : Int} {w : Nat} (h : (w = 0 ∧ A = 0) ∨ (w = 1 ∧ 0 ≤ A ∧ A ≤ 255) ∨ (w = 2 ∧ 0 ≤ A ∧ A ≤ 65535) ∨ (w = 3 ∧ 0 ≤ A ∧ A ≤ 16777215) ∨ (w = 8 ∧ -1099511627776 ≤ A ∧ A ≤ 1099511627776)) : Rng w A := by
  unfold Rng; omega
theorem run3 {op A B C : Int} {N s0 s1 s2 : Nat} {b0 b1 b2 : Bool} (hN : 4 ≤ N) (h0 : instr_shape_fits s0 A 0 N = some (.r0 b0)) (h1 : b0 = true → instr_shape_fits s1 B A N = some (.r0 b1)) (h2 : b0 = true → b1 = true → instr_shape_fits s2 C B N = some (.r0 b2)) :
    iter (instr_CheckStep op A B C N) N (.h1m0 s0 s1 s2) = some (.r0 (if (b0 && b1 && b2) = true then 0 else 100)) := by
  obtain ⟨n, rfl⟩ : ∃ n, N = n + 4 := ⟨N - 4, by omega⟩
  cases b0 with
  | false =>
    refine iter_done ?_
    show instr_Check_h1m0 op A B C (n + 4) s0 s1 s2 = _
    unfold instr_Check_h1m0
    rw [h0]; rfl
  | true =>
    refine (iter_next (y := .h1m1 s0 s1 s2) ?_).trans ?_
    · show instr_Check_h1m0 op A B C (n + 4) s0 s1 s2 = _
      unfold instr_Check_h1m0
      rw [h0]; rfl
    · cases b1 with
      | false =>
        refine iter_done ?_
        show instr_Check_h1m1 op A B C (n + 4) s0 s1 s2 = _
        unfold instr_Check_h1m1
        rw [h1 rfl]; rfl
      | true =>
        refine (iter_next (y := .h1m2 s0 s1 s2) ?_).trans ?_
        · show instr_Check_h1m1 op A B C (n + 4) s0 s1 s2 = _
          unfold instr_Check_h1m1
          rw [h1 rfl]; rfl
        · cases b2 with
          | false =>
            refine iter_done ?_
            show instr_Check_h1m2 op A B C (n + 4) s0 s1 s2 = _
            unfold instr_Check_h1m2
            rw [h2 rfl rfl]; rfl
          | true =>
            refine (iter_next (y := .h1m3 s0 s1 s2) ?_).trans ?_
            · show instr_Check_h1m2 op A B C (n + 4) s0 s1 s2 = _
              unfold instr_Check_h1m2
              rw [h2 rfl rfl]; rfl
            · refine iter_done ?_
              show instr_Check_h1m3 op A B C (n + 4) s0 s1 s2 = _
              rfl
/-- What is known of a kind. -/
structure Kd (op : Int) (N : Nat) (nm : List Int) (s0 s1 s2 : Int) (q : Bool) (w0 w1 w2 : Nat) : Prop where
  k : instr_kind_2 op N = some (.r0 nm s0 s1 s2)
  e : strB nm [] = q
  l0 : Wd w0
  l1 : Wd w1
  l2 : Wd w2
  a0 : instr_shape_width s0 N = some (.r0 (w0 : Int))
  a1 : instr_shape_width s1 N = some (.r0 (w1 : Int))
  a2 : instr_shape_width s2 N = some (.r0 (w2 : Int))
  rg : q = false → 1 ≤ op ∧ op ≤ 20
  chk : 4 ≤ N → ∀ A B C, ∃ b, instr_Check op A B C N = some (.r0 (if b = true then 0 else 100)) ∧ (b = true → q = false ∧ Rng w0 A ∧ Rng w1 B ∧ Rng w2 C)
theorem Wd.le {w : Nat} (h : Wd w) : w ≤ 8 := by unfold Wd at h; omega
theorem kd_no {op : Int} {N : Nat} (h : op < 0 ∨ 21 ≤ op ∨ op = 0) : Kd op N [] 0 0 0 true 0 0 0 := by
  have hk : instr_kind op N = some .r0 := by
    unfold instr_kind
    by_cases h1 : op < 0
    · exact ite_yes h1 rfl
    · by_cases h2 : 21 ≤ op
      · exact ite_no h1 <| ite_yes h2 rfl
      · exact ite_no h1 <| ite_no h2 <| ite_yes (by omega) rfl
  refine ⟨?_, by decide +kernel, .inl rfl, .inl rfl, .inl rfl, rfl, rfl, rfl, (fun h => by cases h), fun hN A B C => ⟨false, goM_out (bind_to hk rfl), (fun h => by cases h)⟩⟩
  unfold instr_kind_2
  by_cases h1 : op < 0
  · exact ite_yes h1 rfl
  · by_cases h2 : 21 ≤ op
    · exact ite_no h1 <| ite_yes h2 rfl
    · exact ite_no h1 <| ite_no h2 <| ite_yes (by omega) rfl
theorem kd_1 {N : Nat} : ∃ nm s0 s1 s2, Kd 1 N nm s0 s1 s2 false 1 8 0 := by
  refine ⟨_, _, _, _, rfl, by decide +kernel, (by unfold Wd; omega), (by unfold Wd; omega), (by unfold Wd; omega), rfl, rfl, rfl, (fun _ => by omega), fun hN A B C => ?_⟩
  obtain ⟨b0, p0, q0⟩ := fr_1 A 0 N
  obtain ⟨b1, p1, q1⟩ := fr_6 B A N
  obtain ⟨b2, p2, q2⟩ := fr_0 C B N
  exact ⟨b0 && b1 && b2, (goM_in (show instr_CheckIn 1 A B C N = some (.inl (.h1m0 1 6 0)) from rfl)).trans (run3 hN p0 (fun _ => p1) (fun _ _ => p2)), fun h => by
    simp only [Bool.and_eq_true] at h
    exact ⟨rfl, rng_of (by have := q0 h.1.1; omega), rng_of (by have := q1 h.1.2; omega), rng_of (by have := q2 h.2; omega)⟩⟩
theorem kd_2 {N : Nat} : ∃ nm s0 s1 s2, Kd 2 N nm s0 s1 s2 false 1 0 0 := by
  refine ⟨_, _, _, _, rfl, by decide +kernel, (by unfold Wd; omega), (by unfold Wd; omega), (by unfold Wd; omega), rfl, rfl, rfl, (fun _ => by omega), fun hN A B C => ?_⟩
  obtain ⟨b0, p0, q0⟩ := fr_1 A 0 N
  obtain ⟨b1, p1, q1⟩ := fr_0 B A N
  obtain ⟨b2, p2, q2⟩ := fr_0 C B N
  exact ⟨b0 && b1 && b2, (goM_in (show instr_CheckIn 2 A B C N = some (.inl (.h1m0 1 0 0)) from rfl)).trans (run3 hN p0 (fun _ => p1) (fun _ _ => p2)), fun h => by
    simp only [Bool.and_eq_true] at h
    exact ⟨rfl, rng_of (by have := q0 h.1.1; omega), rng_of (by have := q1 h.1.2; omega), rng_of (by have := q2 h.2; omega)⟩⟩
theorem kd_3 {N : Nat} : ∃ nm s0 s1 s2, Kd 3 N nm s0 s1 s2 false 1 1 0 := by
  refine ⟨_, _, _, _, rfl, by decide +kernel, (by unfold Wd; omega), (by unfold Wd; omega), (by unfold Wd; omega), rfl, rfl, rfl, (fun _ => by omega), fun hN A B C => ?_⟩
  obtain ⟨b0, p0, q0⟩ := fr_1 A 0 N
  obtain ⟨b1, p1, q1⟩ := fr_1 B A N
  obtain ⟨b2, p2, q2⟩ := fr_0 C B N
  exact ⟨b0 && b1 && b2, (goM_in (show instr_CheckIn 3 A B C N = some (.inl (.h1m0 1 1 0)) from rfl)).trans (run3 hN p0 (fun _ => p1) (fun _ _ => p2)), fun h => by
    simp only [Bool.and_eq_true] at h
    exact ⟨rfl, rng_of (by have := q0 h.1.1; omega), rng_of (by have := q1 h.1.2; omega), rng_of (by have := q2 h.2; omega)⟩⟩
theorem kd_4 {N : Nat} : ∃ nm s0 s1 s2, Kd 4 N nm s0 s1 s2 false 1 1 1 := by
  refine ⟨_, _, _, _, rfl, by decide +kernel, (by unfold Wd; omega), (by unfold Wd; omega), (by unfold Wd; omega), rfl, rfl, rfl, (fun _ => by omega), fun hN A B C => ?_⟩
  obtain ⟨b0, p0, q0⟩ := fr_1 A 0 N
  obtain ⟨b1, p1, q1⟩ := fr_1 B A N
  obtain ⟨b2, p2, q2⟩ := fr_1 C B N
  exact ⟨b0 && b1 && b2, (goM_in (show instr_CheckIn 4 A B C N = some (.inl (.h1m0 1 1 1)) from rfl)).trans (run3 hN p0 (fun _ => p1) (fun _ _ => p2)), fun h => by
    simp only [Bool.and_eq_true] at h
    exact ⟨rfl, rng_of (by have := q0 h.1.1; omega), rng_of (by have := q1 h.1.2; omega), rng_of (by have := q2 h.2; omega)⟩⟩
theorem kd_5 {N : Nat} : ∃ nm s0 s1 s2, Kd 5 N nm s0 s1 s2 false 1 1 1 := by
  refine ⟨_, _, _, _, rfl, by decide +kernel, (by unfold Wd; omega), (by unfold Wd; omega), (by unfold Wd; omega), rfl, rfl, rfl, (fun _ => by omega), fun hN A B C => ?_⟩
  obtain ⟨b0, p0, q0⟩ := fr_1 A 0 N
  obtain ⟨b1, p1, q1⟩ := fr_1 B A N
  obtain ⟨b2, p2, q2⟩ := fr_1 C B N
  exact ⟨b0 && b1 && b2, (goM_in (show instr_CheckIn 5 A B C N = some (.inl (.h1m0 1 1 1)) from rfl)).trans (run3 hN p0 (fun _ => p1) (fun _ _ => p2)), fun h => by
    simp only [Bool.and_eq_true] at h
    exact ⟨rfl, rng_of (by have := q0 h.1.1; omega), rng_of (by have := q1 h.1.2; omega), rng_of (by have := q2 h.2; omega)⟩⟩
theorem kd_6 {N : Nat} : ∃ nm s0 s1 s2, Kd 6 N nm s0 s1 s2 false 1 1 1 := by
  refine ⟨_, _, _, _, rfl, by decide +kernel, (by unfold Wd; omega), (by unfold Wd; omega), (by unfold Wd; omega), rfl, rfl, rfl, (fun _ => by omega), fun hN A B C => ?_⟩
  obtain ⟨b0, p0, q0⟩ := fr_1 A 0 N
  obtain ⟨b1, p1, q1⟩ := fr_1 B A N
  obtain ⟨b2, p2, q2⟩ := fr_1 C B N
  exact ⟨b0 && b1 && b2, (goM_in (show instr_CheckIn 6 A B C N = some (.inl (.h1m0 1 1 1)) from rfl)).trans (run3 hN p0 (fun _ => p1) (fun _ _ => p2)), fun h => by
    simp only [Bool.and_eq_true] at h
    exact ⟨rfl, rng_of (by have := q0 h.1.1; omega), rng_of (by have := q1 h.1.2; omega), rng_of (by have := q2 h.2; omega)⟩⟩
theorem kd_7 {N : Nat} : ∃ nm s0 s1 s2, Kd 7 N nm s0 s1 s2 false 1 1 1 := by
  refine ⟨_, _, _, _, rfl, by decide +kernel, (by unfold Wd; omega), (by unfold Wd; omega), (by unfold Wd; omega), rfl, rfl, rfl, (fun _ => by omega), fun hN A B C => ?_⟩
  obtain ⟨b0, p0, q0⟩ := fr_1 A 0 N
  obtain ⟨b1, p1, q1⟩ := fr_1 B A N
  obtain ⟨b2, p2, q2⟩ := fr_1 C B N
  exact ⟨b0 && b1 && b2, (goM_in (show instr_CheckIn 7 A B C N = some (.inl (.h1m0 1 1 1)) from rfl)).trans (run3 hN p0 (fun _ => p1) (fun _ _ => p2)), fun h => by
    simp only [Bool.and_eq_true] at h
    exact ⟨rfl, rng_of (by have := q0 h.1.1; omega), rng_of (by have := q1 h.1.2; omega), rng_of (by have := q2 h.2; omega)⟩⟩
theorem kd_8 {N : Nat} : ∃ nm s0 s1 s2, Kd 8 N nm s0 s1 s2 false 2 0 0 := by
  refine ⟨_, _, _, _, rfl, by decide +kernel, (by unfold Wd; omega), (by unfold Wd; omega), (by unfold Wd; omega), rfl, rfl, rfl, (fun _ => by omega), fun hN A B C => ?_⟩
  obtain ⟨b0, p0, q0⟩ := fr_4 A 0 N
  obtain ⟨b1, p1, q1⟩ := fr_0 B A N
  obtain ⟨b2, p2, q2⟩ := fr_0 C B N
  exact ⟨b0 && b1 && b2, (goM_in (show instr_CheckIn 8 A B C N = some (.inl (.h1m0 4 0 0)) from rfl)).trans (run3 hN p0 (fun _ => p1) (fun _ _ => p2)), fun h => by
    simp only [Bool.and_eq_true] at h
    exact ⟨rfl, rng_of (by have := q0 h.1.1; omega), rng_of (by have := q1 h.1.2; omega), rng_of (by have := q2 h.2; omega)⟩⟩
theorem kd_9 {N : Nat} : ∃ nm s0 s1 s2, Kd 9 N nm s0 s1 s2 false 1 2 0 := by
  refine ⟨_, _, _, _, rfl, by decide +kernel, (by unfold Wd; omega), (by unfold Wd; omega), (by unfold Wd; omega), rfl, rfl, rfl, (fun _ => by omega), fun hN A B C => ?_⟩
  obtain ⟨b0, p0, q0⟩ := fr_1 A 0 N
  obtain ⟨b1, p1, q1⟩ := fr_4 B A N
  obtain ⟨b2, p2, q2⟩ := fr_0 C B N
  exact ⟨b0 && b1 && b2, (goM_in (show instr_CheckIn 9 A B C N = some (.inl (.h1m0 1 4 0)) from rfl)).trans (run3 hN p0 (fun _ => p1) (fun _ _ => p2)), fun h => by
    simp only [Bool.and_eq_true] at h
    exact ⟨rfl, rng_of (by have := q0 h.1.1; omega), rng_of (by have := q1 h.1.2; omega), rng_of (by have := q2 h.2; omega)⟩⟩
theorem kd_10 {N : Nat} : ∃ nm s0 s1 s2, Kd 10 N nm s0 s1 s2 false 1 0 0 := by
  refine ⟨_, _, _, _, rfl, by decide +kernel, (by unfold Wd; omega), (by unfold Wd; omega), (by unfold Wd; omega), rfl, rfl, rfl, (fun _ => by omega), fun hN A B C => ?_⟩
  obtain ⟨b0, p0, q0⟩ := fr_1 A 0 N
  obtain ⟨b1, p1, q1⟩ := fr_0 B A N
  obtain ⟨b2, p2, q2⟩ := fr_0 C B N
  exact ⟨b0 && b1 && b2, (goM_in (show instr_CheckIn 10 A B C N = some (.inl (.h1m0 1 0 0)) from rfl)).trans (run3 hN p0 (fun _ => p1) (fun _ _ => p2)), fun h => by
    simp only [Bool.and_eq_true] at h
    exact ⟨rfl, rng_of (by have := q0 h.1.1; omega), rng_of (by have := q1 h.1.2; omega), rng_of (by have := q2 h.2; omega)⟩⟩
theorem kd_11 {N : Nat} : ∃ nm s0 s1 s2, Kd 11 N nm s0 s1 s2 false 1 1 3 := by
  refine ⟨_, _, _, _, rfl, by decide +kernel, (by unfold Wd; omega), (by unfold Wd; omega), (by unfold Wd; omega), rfl, rfl, rfl, (fun _ => by omega), fun hN A B C => ?_⟩
  obtain ⟨b0, p0, q0⟩ := fr_1 A 0 N
  obtain ⟨b1, p1, q1⟩ := fr_3 B A N
  by_cases hb : b1 = true
  · obtain ⟨b2, p2, q2⟩ := fr_5 C B N (q1 hb).1 (q1 hb).2
    exact ⟨b0 && b1 && b2, (goM_in (show instr_CheckIn 11 A B C N = some (.inl (.h1m0 1 3 5)) from rfl)).trans (run3 hN p0 (fun _ => p1) (fun _ _ => p2)), fun h => by
    simp only [Bool.and_eq_true] at h
    exact ⟨rfl, rng_of (by have := q0 h.1.1; omega), rng_of (by have := q1 h.1.2; omega), rng_of (by have := q2 h.2; omega)⟩⟩
  · have hb : b1 = false := by simpa using hb
    subst hb
    exact ⟨b0 && false && false, (goM_in (show instr_CheckIn 11 A B C N = some (.inl (.h1m0 1 3 5)) from rfl)).trans (run3 hN p0 (fun _ => p1) (fun _ h => by cases h)), fun h => by simp at h⟩
theorem kd_12 {N : Nat} : ∃ nm s0 s1 s2, Kd 12 N nm s0 s1 s2 false 1 0 0 := by
  refine ⟨_, _, _, _, rfl, by decide +kernel, (by unfold Wd; omega), (by unfold Wd; omega), (by unfold Wd; omega), rfl, rfl, rfl, (fun _ => by omega), fun hN A B C => ?_⟩
  obtain ⟨b0, p0, q0⟩ := fr_1 A 0 N
  obtain ⟨b1, p1, q1⟩ := fr_0 B A N
  obtain ⟨b2, p2, q2⟩ := fr_0 C B N
  exact ⟨b0 && b1 && b2, (goM_in (show instr_CheckIn 12 A B C N = some (.inl (.h1m0 1 0 0)) from rfl)).trans (run3 hN p0 (fun _ => p1) (fun _ _ => p2)), fun h => by
    simp only [Bool.and_eq_true] at h
    exact ⟨rfl, rng_of (by have := q0 h.1.1; omega), rng_of (by have := q1 h.1.2; omega), rng_of (by have := q2 h.2; omega)⟩⟩
theorem kd_13 {N : Nat} : ∃ nm s0 s1 s2, Kd 13 N nm s0 s1 s2 false 1 1 1 := by
  refine ⟨_, _, _, _, rfl, by decide +kernel, (by unfold Wd; omega), (by unfold Wd; omega), (by unfold Wd; omega), rfl, rfl, rfl, (fun _ => by omega), fun hN A B C => ?_⟩
  obtain ⟨b0, p0, q0⟩ := fr_1 A 0 N
  obtain ⟨b1, p1, q1⟩ := fr_1 B A N
  obtain ⟨b2, p2, q2⟩ := fr_2 C B N
  exact ⟨b0 && b1 && b2, (goM_in (show instr_CheckIn 13 A B C N = some (.inl (.h1m0 1 1 2)) from rfl)).trans (run3 hN p0 (fun _ => p1) (fun _ _ => p2)), fun h => by
    simp only [Bool.and_eq_true] at h
    exact ⟨rfl, rng_of (by have := q0 h.1.1; omega), rng_of (by have := q1 h.1.2; omega), rng_of (by have := q2 h.2; omega)⟩⟩
theorem kd_14 {N : Nat} : ∃ nm s0 s1 s2, Kd 14 N nm s0 s1 s2 false 1 1 1 := by
  refine ⟨_, _, _, _, rfl, by decide +kernel, (by unfold Wd; omega), (by unfold Wd; omega), (by unfold Wd; omega), rfl, rfl, rfl, (fun _ => by omega), fun hN A B C => ?_⟩
  obtain ⟨b0, p0, q0⟩ := fr_1 A 0 N
  obtain ⟨b1, p1, q1⟩ := fr_2 B A N
  obtain ⟨b2, p2, q2⟩ := fr_1 C B N
  exact ⟨b0 && b1 && b2, (goM_in (show instr_CheckIn 14 A B C N = some (.inl (.h1m0 1 2 1)) from rfl)).trans (run3 hN p0 (fun _ => p1) (fun _ _ => p2)), fun h => by
    simp only [Bool.and_eq_true] at h
    exact ⟨rfl, rng_of (by have := q0 h.1.1; omega), rng_of (by have := q1 h.1.2; omega), rng_of (by have := q2 h.2; omega)⟩⟩
theorem kd_15 {N : Nat} : ∃ nm s0 s1 s2, Kd 15 N nm s0 s1 s2 false 0 0 0 := by
  refine ⟨_, _, _, _, rfl, by decide +kernel, (by unfold Wd; omega), (by unfold Wd; omega), (by unfold Wd; omega), rfl, rfl, rfl, (fun _ => by omega), fun hN A B C => ?_⟩
  obtain ⟨b0, p0, q0⟩ := fr_0 A 0 N
  obtain ⟨b1, p1, q1⟩ := fr_0 B A N
  obtain ⟨b2, p2, q2⟩ := fr_0 C B N
  exact ⟨b0 && b1 && b2, (goM_in (show instr_CheckIn 15 A B C N = some (.inl (.h1m0 0 0 0)) from rfl)).trans (run3 hN p0 (fun _ => p1) (fun _ _ => p2)), fun h => by
    simp only [Bool.and_eq_true] at h
    exact ⟨rfl, rng_of (by have := q0 h.1.1; omega), rng_of (by have := q1 h.1.2; omega), rng_of (by have := q2 h.2; omega)⟩⟩
theorem kd_16 {N : Nat} : ∃ nm s0 s1 s2, Kd 16 N nm s0 s1 s2 false 0 0 0 := by
  refine ⟨_, _, _, _, rfl, by decide +kernel, (by unfold Wd; omega), (by unfold Wd; omega), (by unfold Wd; omega), rfl, rfl, rfl, (fun _ => by omega), fun hN A B C => ?_⟩
  obtain ⟨b0, p0, q0⟩ := fr_0 A 0 N
  obtain ⟨b1, p1, q1⟩ := fr_0 B A N
  obtain ⟨b2, p2, q2⟩ := fr_0 C B N
  exact ⟨b0 && b1 && b2, (goM_in (show instr_CheckIn 16 A B C N = some (.inl (.h1m0 0 0 0)) from rfl)).trans (run3 hN p0 (fun _ => p1) (fun _ _ => p2)), fun h => by
    simp only [Bool.and_eq_true] at h
    exact ⟨rfl, rng_of (by have := q0 h.1.1; omega), rng_of (by have := q1 h.1.2; omega), rng_of (by have := q2 h.2; omega)⟩⟩
theorem kd_17 {N : Nat} : ∃ nm s0 s1 s2, Kd 17 N nm s0 s1 s2 false 0 0 0 := by
  refine ⟨_, _, _, _, rfl, by decide +kernel, (by unfold Wd; omega), (by unfold Wd; omega), (by unfold Wd; omega), rfl, rfl, rfl, (fun _ => by omega), fun hN A B C => ?_⟩
  obtain ⟨b0, p0, q0⟩ := fr_0 A 0 N
  obtain ⟨b1, p1, q1⟩ := fr_0 B A N
  obtain ⟨b2, p2, q2⟩ := fr_0 C B N
  exact ⟨b0 && b1 && b2, (goM_in (show instr_CheckIn 17 A B C N = some (.inl (.h1m0 0 0 0)) from rfl)).trans (run3 hN p0 (fun _ => p1) (fun _ _ => p2)), fun h => by
    simp only [Bool.and_eq_true] at h
    exact ⟨rfl, rng_of (by have := q0 h.1.1; omega), rng_of (by have := q1 h.1.2; omega), rng_of (by have := q2 h.2; omega)⟩⟩
theorem kd_18 {N : Nat} : ∃ nm s0 s1 s2, Kd 18 N nm s0 s1 s2 false 0 0 0 := by
  refine ⟨_, _, _, _, rfl, by decide +kernel, (by unfold Wd; omega), (by unfold Wd; omega), (by unfold Wd; omega), rfl, rfl, rfl, (fun _ => by omega), fun hN A B C => ?_⟩
  obtain ⟨b0, p0, q0⟩ := fr_0 A 0 N
  obtain ⟨b1, p1, q1⟩ := fr_0 B A N
  obtain ⟨b2, p2, q2⟩ := fr_0 C B N
  exact ⟨b0 && b1 && b2, (goM_in (show instr_CheckIn 18 A B C N = some (.inl (.h1m0 0 0 0)) from rfl)).trans (run3 hN p0 (fun _ => p1) (fun _ _ => p2)), fun h => by
    simp only [Bool.and_eq_true] at h
    exact ⟨rfl, rng_of (by have := q0 h.1.1; omega), rng_of (by have := q1 h.1.2; omega), rng_of (by have := q2 h.2; omega)⟩⟩
theorem kd_19 {N : Nat} : ∃ nm s0 s1 s2, Kd 19 N nm s0 s1 s2 false 1 0 0 := by
  refine ⟨_, _, _, _, rfl, by decide +kernel, (by unfold Wd; omega), (by unfold Wd; omega), (by unfold Wd; omega), rfl, rfl, rfl, (fun _ => by omega), fun hN A B C => ?_⟩
  obtain ⟨b0, p0, q0⟩ := fr_1 A 0 N
  obtain ⟨b1, p1, q1⟩ := fr_0 B A N
  obtain ⟨b2, p2, q2⟩ := fr_0 C B N
  exact ⟨b0 && b1 && b2, (goM_in (show instr_CheckIn 19 A B C N = some (.inl (.h1m0 1 0 0)) from rfl)).trans (run3 hN p0 (fun _ => p1) (fun _ _ => p2)), fun h => by
    simp only [Bool.and_eq_true] at h
    exact ⟨rfl, rng_of (by have := q0 h.1.1; omega), rng_of (by have := q1 h.1.2; omega), rng_of (by have := q2 h.2; omega)⟩⟩
theorem kd_20 {N : Nat} : ∃ nm s0 s1 s2, Kd 20 N nm s0 s1 s2 false 0 0 0 := by
  refine ⟨_, _, _, _, rfl, by decide +kernel, (by unfold Wd; omega), (by unfold Wd; omega), (by unfold Wd; omega), rfl, rfl, rfl, (fun _ => by omega), fun hN A B C => ?_⟩
  obtain ⟨b0, p0, q0⟩ := fr_0 A 0 N
  obtain ⟨b1, p1, q1⟩ := fr_0 B A N
  obtain ⟨b2, p2, q2⟩ := fr_0 C B N
  exact ⟨b0 && b1 && b2, (goM_in (show instr_CheckIn 20 A B C N = some (.inl (.h1m0 0 0 0)) from rfl)).trans (run3 hN p0 (fun _ => p1) (fun _ _ => p2)), fun h => by
    simp only [Bool.and_eq_true] at h
    exact ⟨rfl, rng_of (by have := q0 h.1.1; omega), rng_of (by have := q1 h.1.2; omega), rng_of (by have := q2 h.2; omega)⟩⟩
theorem kd (op : Int) (N : Nat) : ∃ nm s0 s1 s2 q w0 w1 w2, Kd op N nm s0 s1 s2 q w0 w1 w2 := by
  by_cases h1 : op < 0 ∨ 21 ≤ op ∨ op = 0
  · exact ⟨_, _, _, _, _, _, _, _, kd_no h1⟩
  · have h : op = 1 ∨ op = 2 ∨ op = 3 ∨ op = 4 ∨ op = 5 ∨ op = 6 ∨ op = 7 ∨ op = 8 ∨ op = 9 ∨ op = 10 ∨ op = 11 ∨ op = 12 ∨ op = 13 ∨ op = 14 ∨ op = 15 ∨ op = 16 ∨ op = 17 ∨ op = 18 ∨ op = 19 ∨ op = 20 := by omega
    rcases h with rfl | rfl | rfl | rfl | rfl | rfl | rfl | rfl | rfl | rfl | rfl | rfl | rfl | rfl | rfl | rfl | rfl | rfl | rfl | rfl
    · obtain ⟨_, _, _, _, h⟩ := kd_1 (N := N); exact ⟨_, _, _, _, _, _, _, _, h⟩
    · obtain ⟨_, _, _, _, h⟩ := kd_2 (N := N); exact ⟨_, _, _, _, _, _, _, _, h⟩
    · obtain ⟨_, _, _, _, h⟩ := kd_3 (N := N); exact ⟨_, _, _, _, _, _, _, _, h⟩
    · obtain ⟨_, _, _, _, h⟩ := kd_4 (N := N); exact ⟨_, _, _, _, _, _, _, _, h⟩
    · obtain ⟨_, _, _, _, h⟩ := kd_5 (N := N); exact ⟨_, _, _, _, _, _, _, _, h⟩
    · obtain ⟨_, _, _, _, h⟩ := kd_6 (N := N); exact ⟨_, _, _, _, _, _, _, _, h⟩
    · obtain ⟨_, _, _, _, h⟩ := kd_7 (N := N); exact ⟨_, _, _, _, _, _, _, _, h⟩
    · obtain ⟨_, _, _, _, h⟩ := kd_8 (N := N); exact ⟨_, _, _, _, _, _, _, _, h⟩
    · obtain ⟨_, _, _, _, h⟩ := kd_9 (N := N); exact ⟨_, _, _, _, _, _, _, _, h⟩
    · obtain ⟨_, _, _, _, h⟩ := kd_10 (N := N); exact ⟨_, _, _, _, _, _, _, _, h⟩
    · obtain ⟨_, _, _, _, h⟩ := kd_11 (N := N); exact ⟨_, _, _, _, _, _, _, _, h⟩
    · obtain ⟨_, _, _, _, h⟩ := kd_12 (N := N); exact ⟨_, _, _, _, _, _, _, _, h⟩
    · obtain ⟨_, _, _, _, h⟩ := kd_13 (N := N); exact ⟨_, _, _, _, _, _, _, _, h⟩
    · obtain ⟨_, _, _, _, h⟩ := kd_14 (N := N); exact ⟨_, _, _, _, _, _, _, _, h⟩
    · obtain ⟨_, _, _, _, h⟩ := kd_15 (N := N); exact ⟨_, _, _, _, _, _, _, _, h⟩
    · obtain ⟨_, _, _, _, h⟩ := kd_16 (N := N); exact ⟨_, _, _, _, _, _, _, _, h⟩
    · obtain ⟨_, _, _, _, h⟩ := kd_17 (N := N); exact ⟨_, _, _, _, _, _, _, _, h⟩
    · obtain ⟨_, _, _, _, h⟩ := kd_18 (N := N); exact ⟨_, _, _, _, _, _, _, _, h⟩
    · obtain ⟨_, _, _, _, h⟩ := kd_19 (N := N); exact ⟨_, _, _, _, _, _, _, _, h⟩
    · obtain ⟨_, _, _, _, h⟩ := kd_20 (N := N); exact ⟨_, _, _, _, _, _, _, _, h⟩
section
variable {op A B C s0 s1 s2 : Int} {N : Nat}
theorem lp0 (k : Nat) : ∀ (b : List Int) (v : Int) (g : Nat), v = 8 * (k : Int) - 8 → k ≤ 8 → b.length + k ≤ 1000 → iter (instr_EncodeStep op A B C N) (g + k + 1) (.h2m0 b v s0 s1 s2) = iter (instr_EncodeStep op A B C N) g (.h1m1 (b ++ bytesI k A) s0 s1 s2) := by
  induction k with
  | zero =>
    intro b v g hv hk hb
    refine (iter_next (y := .h1m1 b s0 s1 s2) ?_).trans ?_
    · show instr_Encode_h2m0 op A B C N b v s0 s1 s2 = _
      unfold instr_Encode_h2m0
      exact ite_no (by omega) rfl
    · rw [show b ++ bytesI 0 A = b from List.append_nil b]
  | succ k ih =>
    intro b v g hv hk hb
    refine (iter_next (y := .h2m0 (b ++ [IntKind.u8.wrap (IntKind.u64.wrap A / (2 ^ (8 * k) : Int))]) (v - 8) s0 s1 s2) ?_).trans ?_
    · show instr_Encode_h2m0 op A B C N b v s0 s1 s2 = _
      unfold instr_Encode_h2m0
      refine ite_yes (by omega) (ite_yes (by omega) (ite_yes (by omega) ?_))
      rw [show v.toNat = 8 * k by omega]
    · show iter _ (g + k + 1) _ = _
      rw [ih _ _ _ (by omega) (by omega) (by simp only [List.length_append, List.length_cons, List.length_nil]; omega)]
      simp only [bytesI, List.append_assoc, List.cons_append, List.nil_append]
theorem lp1 (k : Nat) : ∀ (b : List Int) (v : Int) (g : Nat), v = 8 * (k : Int) - 8 → k ≤ 8 → b.length + k ≤ 1000 → iter (instr_EncodeStep op A B C N) (g + k + 1) (.h2m1 b v s0 s1 s2) = iter (instr_EncodeStep op A B C N) g (.h1m2 (b ++ bytesI k B) s0 s1 s2) := by
  induction k with
  | zero =>
    intro b v g hv hk hb
    refine (iter_next (y := .h1m2 b s0 s1 s2) ?_).trans ?_
    · show instr_Encode_h2m1 op A B C N b v s0 s1 s2 = _
      unfold instr_Encode_h2m1
      exact ite_no (by omega) rfl
    · rw [show b ++ bytesI 0 B = b from List.append_nil b]
  | succ k ih =>
    intro b v g hv hk hb
    refine (iter_next (y := .h2m1 (b ++ [IntKind.u8.wrap (IntKind.u64.wrap B / (2 ^ (8 * k) : Int))]) (v - 8) s0 s1 s2) ?_).trans ?_
    · show instr_Encode_h2m1 op A B C N b v s0 s1 s2 = _
      unfold instr_Encode_h2m1
      refine ite_yes (by omega) (ite_yes (by omega) (ite_yes (by omega) ?_))
      rw [show v.toNat = 8 * k by omega]
    · show iter _ (g + k + 1) _ = _
      rw [ih _ _ _ (by omega) (by omega) (by simp only [List.length_append, List.length_cons, List.length_nil]; omega)]
      simp only [bytesI, List.append_assoc, List.cons_append, List.nil_append]
theorem lp2 (k : Nat) : ∀ (b : List Int) (v : Int) (g : Nat), v = 8 * (k : Int) - 8 → k ≤ 8 → b.length + k ≤ 1000 → iter (instr_EncodeStep op A B C N) (g + k + 1) (.h2m2 b v s0 s1 s2) = iter (instr_EncodeStep op A B C N) g (.h1m3 (b ++ bytesI k C) s0 s1 s2) := by
  induction k with
  | zero =>
    intro b v g hv hk hb
    refine (iter_next (y := .h1m3 b s0 s1 s2) ?_).trans ?_
    · show instr_Encode_h2m2 op A B C N b v s0 s1 s2 = _
      unfold instr_Encode_h2m2
      exact ite_no (by omega) rfl
    · rw [show b ++ bytesI 0 C = b from List.append_nil b]
  | succ k ih =>
    intro b v g hv hk hb
    refine (iter_next (y := .h2m2 (b ++ [IntKind.u8.wrap (IntKind.u64.wrap C / (2 ^ (8 * k) : Int))]) (v - 8) s0 s1 s2) ?_).trans ?_
    · show instr_Encode_h2m2 op A B C N b v s0 s1 s2 = _
      unfold instr_Encode_h2m2
      refine ite_yes (by omega) (ite_yes (by omega) (ite_yes (by omega) ?_))
      rw [show v.toNat = 8 * k by omega]
    · show iter _ (g + k + 1) _ = _
      rw [ih _ _ _ (by omega) (by omega) (by simp only [List.length_append, List.length_cons, List.length_nil]; omega)]
      simp only [bytesI, List.append_assoc, List.cons_append, List.nil_append]
theorem enc_run {w0 w1 w2 : Nat} (hN : 100 ≤ N) (l0 : w0 ≤ 8) (l1 : w1 ≤ 8) (l2 : w2 ≤ 8) (a0 : instr_shape_width s0 N = some (.r0 (w0 : Int))) (a1 : instr_shape_width s1 N = some (.r0 (w1 : Int))) (a2 : instr_shape_width s2 N = some (.r0 (w2 : Int))) :
    iter (instr_EncodeStep op A B C N) N (.h1m0 s0 s1 s2) = some (.r1 (IntKind.u8.wrap op :: (bytesI w0 A ++ bytesI w1 B ++ bytesI w2 C))) := by
  have wv : ∀ w : Nat, w ≤ 8 → IntKind.i64.wrap ((8 : Int) * (IntKind.i64.wrap ((w : Int) - (1 : Int)))) = 8 * (w : Int) - 8 := fun w hw => by
    rw [w64 (x := (w : Int) - 1) (by omega) (by omega), w64 (by omega) (by omega)]; omega
  refine iter_up (n := ((((((0 + 1) + w2 + 1) + 1) + w1 + 1) + 1) + w0 + 1) + 1) (by omega) ?_
  refine (iter_next (y := .h2m0 [IntKind.u8.wrap op] (8 * (w0 : Int) - 8) s0 s1 s2) ?_).trans ((lp0 w0 _ _ _ rfl l0 (by simp; omega)).trans ((iter_next (y := .h2m1 ([IntKind.u8.wrap op] ++ bytesI w0 A) (8 * (w1 : Int) - 8) s0 s1 s2) ?_).trans ((lp1 w1 _ _ _ rfl l1 (by simp [bytesI_len]; omega)).trans ((iter_next (y := .h2m2 ([IntKind.u8.wrap op] ++ bytesI w0 A ++ bytesI w1 B) (8 * (w2 : Int) - 8) s0 s1 s2) ?_).trans ((lp2 w2 _ _ _ rfl l2 (by simp [bytesI_len]; omega)).trans (iter_done ?_))))))
  · show instr_Encode_h1m0 op A B C N s0 s1 s2 = _
    unfold instr_Encode_h1m0
    refine bind_to a0 ?_
    show some (Sum.inl (instr_EncodeX.h2m0 _ _ _ _ _)) = _
    rw [wv w0 l0]
  · show instr_Encode_h1m1 op A B C N _ s0 s1 s2 = _
    unfold instr_Encode_h1m1
    refine bind_to a1 ?_
    show some (Sum.inl (instr_EncodeX.h2m1 _ _ _ _ _)) = _
    rw [wv w1 l1]
  · show instr_Encode_h1m2 op A B C N _ s0 s1 s2 = _
    unfold instr_Encode_h1m2
    refine bind_to a2 ?_
    show some (Sum.inl (instr_EncodeX.h2m2 _ _ _ _ _)) = _
    rw [wv w2 l2]
  · show some (Sum.inr (instr_EncodeR.r1 _)) = _
    simp only [List.cons_append, List.nil_append, List.append_assoc]
end
/-- An instruction's bytes. -/
def encL (op A B C : Int) (w0 w1 w2 : Nat) : List Int := IntKind.u8.wrap op :: (bytesI w0 A ++ bytesI w1 B ++ bytesI w2 C)
theorem enc_ok {op A B C s0 s1 s2 : Int} {N w0 w1 w2 : Nat} {nm : List Int} {q : Bool} (K : Kd op N nm s0 s1 s2 q w0 w1 w2) (hN : 2000 ≤ N) (h : instr_Check op A B C N = some (.r0 0)) : instr_Encode op A B C N = some (.r1 (encL op A B C w0 w1 w2)) :=
  (goM_in (show instr_EncodeIn op A B C N = some (.inl (.h1m0 s0 s1 s2)) from bind_to h <| ite_no (by decide) <| bind_to K.k rfl)).trans (enc_run (by omega) K.l0.le K.l1.le K.l2.le K.a0 K.a1 K.a2)
theorem enc_no {op A B C : Int} {N : Nat} (h : instr_Check op A B C N = some (.r0 100)) : instr_Encode op A B C N = some (.r0 100) := goM_out (bind_to h <| ite_yes (by decide) rfl)
theorem encL_len (op A B C : Int) (w0 w1 w2 : Nat) : (encL op A B C w0 w1 w2).length = 1 + w0 + w1 + w2 := by
  unfold encL; simp only [List.length_cons, List.length_append, bytesI_len]; omega
theorem encL_byte (op A B C : Int) (w0 w1 w2 : Nat) : ∀ x ∈ encL op A B C w0 w1 w2, 0 ≤ x ∧ x ≤ 255 := by
  have hb : ∀ k u, ∀ x ∈ bytesI k u, 0 ≤ x ∧ x ≤ 255 := fun k u => by
    induction k with
    | zero => intro x hx; cases hx
    | succ k ih =>
      intro x hx
      rw [bytesI, List.mem_cons] at hx
      rcases hx with rfl | hx
      · rw [u8_mod]; omega
      · exact ih x hx
  intro x hx
  unfold encL at hx
  simp only [List.mem_cons, List.mem_append] at hx
  rcases hx with rfl | (hx | hx) | hx
  · rw [u8_mod]; omega
  · exact hb _ _ x hx
  · exact hb _ _ x hx
  · exact hb _ _ x hx
theorem gV_snoc (M : List Int) (x : Int) : gV (M ++ [x]) = 256 * gV M + x := by unfold gV; rw [List.foldl_append]; rfl
theorem getD_dropI (L : List Int) (a j : Nat) : (L.drop a).getD j 0 = L.getD (j + a) 0 := by simp [List.getD, List.getElem?_drop, Nat.add_comm]
theorem getD_byteI {L : List Int} (hb : ∀ x ∈ L, 0 ≤ x ∧ x ≤ 255) (i : Nat) (h : i < L.length) : 0 ≤ L.getD i 0 ∧ L.getD i 0 ≤ 255 := by
  have : L.getD i 0 = L[i] := by simp [List.getD, h]
  rw [this]; exact hb _ (List.getElem_mem h)
theorem instr_join_val {L : List Int} {o w c N : Nat} (hb : ∀ i, i < L.length → 0 ≤ L.getD i 0 ∧ L.getD i 0 ≤ 255) (hn : o + w ≤ L.length) (hw : w ≤ 8) (ho : o ≤ 1000000) (hN : 100 ≤ N) : instr_join L o w c N = some (.r0 (IntKind.i64.wrap (gV ((L.drop o).take w)))) := by
  unfold instr_join
  have loop : ∀ d j f v, j + d = w → d < f → v = gV ((L.drop o).take j) → 0 ≤ v → v < ((256 ^ j : Nat) : Int) → iter (instr_joinStep L o w c N) f (.h1m0 v j) = some (.r0 (IntKind.i64.wrap (gV ((L.drop o).take w)))) := by
    intro d
    induction d with
    | zero =>
      intro j f v hj hf hv h0 h1
      obtain ⟨f, rfl⟩ : ∃ g, f = g + 1 := ⟨f - 1, by omega⟩
      refine iter_done ?_
      show instr_join_h1m0 L o w c N v j = _
      unfold instr_join_h1m0
      refine ite_no (by omega) ?_
      obtain rfl : j = w := by omega
      rw [hv]
    | succ d ih =>
      intro j f v hj hf hv h0 h1
      obtain ⟨f, rfl⟩ : ∃ g, f = g + 1 := ⟨f - 1, by omega⟩
      obtain ⟨b0, b1⟩ := hb (j + o) (by omega)
      obtain ⟨e1, e2, e3⟩ := g_step h0 h1 (by omega) b0 b1
      refine (iter_next (y := .h1m0 (256 * v + L.getD (j + o) 0) (j + 1)) ?_).trans (ih (j + 1) f _ (by omega) (by omega) ?_ e2 e3)
      · show instr_join_h1m0 L o w c N v j = _
        unfold instr_join_h1m0
        rw [or_shift b0 b1, e1]
        exact ite_yes (by omega) (ite_yes (by omega) (ite_yes b0 (ite_yes (by omega) (ite_yes (by omega) rfl))))
      · rw [hv, ← gV_snoc, ← getD_dropI, take_snoc (by rw [List.length_drop]; omega)]
  exact loop w 0 N 0 (by omega) (by omega) rfl (by decide) (by decide)
section
variable {L : List Int} {n c N w0 w1 w2 : Nat} {s0 s1 s2 : Int}
theorem instr_Decode_d0 {z : Int} (hw : instr_shape_width s0 N = some (.r0 (w0 : Int))) (h : w0 ≤ n - 1) (hc : n ≤ c) (hj : instr_join L 1 w0 (c - 1) N = some (.r0 z)) :
    instr_DecodeStep L n c N (.h1m0 s0 s1 s2) = some (.inl (.h1m1 (w0 + 1) (n - 1 - w0) (c - 1 - w0) s0 s1 s2 z)) := by
  show instr_Decode_h1m0 L n c N s0 s1 s2 = _
  unfold instr_Decode_h1m0
  exact bind_to hw <| ite_no (by omega) <| bind_to hw <| ite_yes (by omega) <| ite_yes (by omega) <| bind_to hj <| bind_to hw <| ite_yes (by omega) <| ite_yes (by omega) <| ite_yes (by omega) rfl
theorem instr_Decode_d0s (hw : instr_shape_width s0 N = some (.r0 (w0 : Int))) (h : n - 1 < w0) : instr_DecodeStep L n c N (.h1m0 s0 s1 s2) = some (.inr (.r0 6)) := by
  show instr_Decode_h1m0 L n c N s0 s1 s2 = _
  unfold instr_Decode_h1m0
  exact bind_to hw <| ite_yes (by omega) rfl
theorem instr_Decode_d1 {v4 v5 v6 : Nat} {x z : Int} (hw : instr_shape_width s1 N = some (.r0 (w1 : Int))) (h : w1 ≤ v5) (hc : v5 ≤ v6) (hj : instr_join L v4 w1 v6 N = some (.r0 z)) :
    instr_DecodeStep L n c N (.h1m1 v4 v5 v6 s0 s1 s2 x) = some (.inl (.h1m2 (w1 + v4) (v5 - w1) (v6 - w1) s0 s1 s2 x z)) := by
  show instr_Decode_h1m1 L n c N v4 v5 v6 s0 s1 s2 x = _
  unfold instr_Decode_h1m1
  exact bind_to hw <| ite_no (by omega) <| bind_to hw <| ite_yes (by omega) <| ite_yes (by omega) <| bind_to hj <| bind_to hw <| ite_yes (by omega) <| ite_yes (by omega) <| ite_yes (by omega) rfl
theorem instr_Decode_d1s {v4 v5 v6 : Nat} {x : Int} (hw : instr_shape_width s1 N = some (.r0 (w1 : Int))) (h : v5 < w1) : instr_DecodeStep L n c N (.h1m1 v4 v5 v6 s0 s1 s2 x) = some (.inr (.r0 6)) := by
  show instr_Decode_h1m1 L n c N v4 v5 v6 s0 s1 s2 x = _
  unfold instr_Decode_h1m1
  exact bind_to hw <| ite_yes (by omega) rfl
theorem instr_Decode_d2 {v4 v5 v6 : Nat} {x y z : Int} (hw : instr_shape_width s2 N = some (.r0 (w2 : Int))) (h : w2 ≤ v5) (hc : v5 ≤ v6) (hj : instr_join L v4 w2 v6 N = some (.r0 z)) :
    instr_DecodeStep L n c N (.h1m2 v4 v5 v6 s0 s1 s2 x y) = some (.inl (.h1m3 (w2 + v4) (v5 - w2) (v6 - w2) s0 s1 s2 x y z)) := by
  show instr_Decode_h1m2 L n c N v4 v5 v6 s0 s1 s2 x y = _
  unfold instr_Decode_h1m2
  exact bind_to hw <| ite_no (by omega) <| bind_to hw <| ite_yes (by omega) <| ite_yes (by omega) <| bind_to hj <| bind_to hw <| ite_yes (by omega) <| ite_yes (by omega) <| ite_yes (by omega) rfl
theorem instr_Decode_d2s {v4 v5 v6 : Nat} {x y : Int} (hw : instr_shape_width s2 N = some (.r0 (w2 : Int))) (h : v5 < w2) : instr_DecodeStep L n c N (.h1m2 v4 v5 v6 s0 s1 s2 x y) = some (.inr (.r0 6)) := by
  show instr_Decode_h1m2 L n c N v4 v5 v6 s0 s1 s2 x y = _
  unfold instr_Decode_h1m2
  exact bind_to hw <| ite_yes (by omega) rfl
theorem instr_Decode_in {nm : List Int} (hb : ∀ i, i < L.length → 0 ≤ L.getD i 0 ∧ L.getD i 0 ≤ 255) (hn : n ≤ L.length) (h0 : n ≠ 0) (hk : instr_kind_2 (L.getD 0 0) N = some (.r0 nm s0 s1 s2)) {o : Option (instr_DecodeX ⊕ instr_DecodeR)} (ho : (if strB nm [] = true then some (.inr (.r0 (100 : Int))) else if ((n : Nat) : Int) ≤ ((c : Nat) : Int) then some (.inl (.h1m0 s0 s1 s2)) else none) = o) : instr_DecodeIn L n c N = o := by
  obtain ⟨b1, b2⟩ := hb 0 (by omega)
  unfold instr_DecodeIn
  exact ite_no (by omega) <| ite_yes (by omega) <| ite_yes (by omega) <| ite_yes (by omega) <| bind_to hk ho
theorem instr_Decode_none {nm : List Int} (hb : ∀ i, i < L.length → 0 ≤ L.getD i 0 ∧ L.getD i 0 ≤ 255) (hn : n ≤ L.length) (h0 : n ≠ 0) (K : Kd (L.getD 0 0) N nm s0 s1 s2 true w0 w1 w2) : instr_Decode L n c N = some (.r0 100) :=
  goM_out (instr_Decode_in hb hn h0 K.k (ite_yes K.e rfl))
theorem instr_Decode_zero : instr_Decode L 0 c N = some (.r0 6) := goM_out (ite_yes (by omega) rfl)
theorem instr_Decode_short {nm : List Int} (hb : ∀ i, i < L.length → 0 ≤ L.getD i 0 ∧ L.getD i 0 ≤ 255) (hn : n ≤ L.length) (h0 : n ≠ 0) (h20 : n ≤ 100000) (hc : n ≤ c) (hN : 2000 ≤ N) (K : Kd (L.getD 0 0) N nm s0 s1 s2 false w0 w1 w2) (hs : n < 1 + w0 + w1 + w2) : instr_Decode L n c N = some (.r0 6) := by
  obtain ⟨l0, l1, l2⟩ := And.intro K.l0.le (And.intro K.l1.le K.l2.le)
  refine (goM_in (instr_Decode_in hb hn h0 K.k (ite_no (by rw [K.e]; decide) <| ite_yes (by omega) rfl))).trans ?_
  by_cases q0 : n - 1 < w0
  · exact iter_up (n := 0 + 1) (by omega) (iter_done (instr_Decode_d0s K.a0 q0))
  have S1 := instr_Decode_d0 (s1 := s1) (s2 := s2) K.a0 (show w0 ≤ n - 1 by omega) hc (instr_join_val (c := c - 1) (N := N) hb (by omega) l0 (by omega) (by omega))
  by_cases q1 : n - 1 - w0 < w1
  · exact iter_up (n := 0 + 1 + 1) (by omega) ((iter_next S1).trans (iter_done (instr_Decode_d1s K.a1 q1)))
  have S2 := instr_Decode_d1 (n := n) (c := c) (s0 := s0) (s2 := s2) (x := IntKind.i64.wrap (gV ((L.drop 1).take w0))) (v4 := w0 + 1) (v5 := n - 1 - w0) (v6 := c - 1 - w0) K.a1 (by omega) (by omega) (instr_join_val (N := N) hb (by omega) l1 (by omega) (by omega))
  exact iter_up (n := 0 + 1 + 1 + 1) (by omega) ((iter_next S1).trans ((iter_next S2).trans (iter_done (instr_Decode_d2s K.a2 (by omega)))))
theorem instr_Decode_full {nm : List Int} (hb : ∀ i, i < L.length → 0 ≤ L.getD i 0 ∧ L.getD i 0 ≤ 255) (hn : n ≤ L.length) (h20 : n ≤ 100000) (hc : n ≤ c) (hN : 2000 ≤ N) (K : Kd (L.getD 0 0) N nm s0 s1 s2 false w0 w1 w2) (hs : 1 + w0 + w1 + w2 ≤ n) {A B C : Int} (hA : A = IntKind.i64.wrap (gV ((L.drop 1).take w0))) (hB : B = IntKind.i64.wrap (gV ((L.drop (1 + w0)).take w1))) (hC : C = IntKind.i64.wrap (gV ((L.drop (1 + w0 + w1)).take w2))) {z : Int} (hz : instr_Check (L.getD 0 0) A B C N = some (.r0 z)) :
    instr_Decode L n c N = if z = 0 then some (.r1 A B C ((L.drop (1 + w0 + w1 + w2)).take (n - (1 + w0 + w1 + w2)))) else some (.r0 z) := by
  obtain ⟨l0, l1, l2⟩ := And.intro K.l0.le (And.intro K.l1.le K.l2.le)
  have h0 : n ≠ 0 := by omega
  obtain ⟨b1, b2⟩ := hb 0 (by omega)
  refine (goM_in (instr_Decode_in hb hn h0 K.k (ite_no (by rw [K.e]; decide) <| ite_yes (by omega) rfl))).trans ?_
  have S1 := instr_Decode_d0 (s1 := s1) (s2 := s2) (z := A) K.a0 (show w0 ≤ n - 1 by omega) hc (by rw [hA]; exact instr_join_val (c := c - 1) (N := N) hb (by omega) l0 (by omega) (by omega))
  have S2 := instr_Decode_d1 (n := n) (c := c) (s0 := s0) (s2 := s2) (x := A) (z := B) (v4 := w0 + 1) (v5 := n - 1 - w0) (v6 := c - 1 - w0) K.a1 (by omega) (by omega) (by rw [hB, Nat.add_comm w0 1]; exact instr_join_val (N := N) hb (by omega) l1 (by omega) (by omega))
  have S3 := instr_Decode_d2 (n := n) (c := c) (s0 := s0) (s1 := s1) (x := A) (y := B) (z := C) (v4 := w1 + (w0 + 1)) (v5 := n - 1 - w0 - w1) (v6 := c - 1 - w0 - w1) K.a2 (by omega) (by omega) (by rw [hC, show w1 + (w0 + 1) = 1 + w0 + w1 by omega]; exact instr_join_val (N := N) hb (by omega) l2 (by omega) (by omega))
  have fin : ∀ r, instr_Decode_h1m3 L n c N (w2 + (w1 + (w0 + 1))) (n - 1 - w0 - w1 - w2) (c - 1 - w0 - w1 - w2) s0 s1 s2 A B C = some (.inr r) → iter (instr_DecodeStep L n c N) N (.h1m0 s0 s1 s2) = some r := fun r hr => iter_up (n := 0 + 1 + 1 + 1 + 1) (by omega) ((iter_next S1).trans ((iter_next S2).trans ((iter_next S3).trans (iter_done hr))))
  by_cases hz0 : z = 0
  · rw [if_pos hz0]
    refine fin _ ?_
    unfold instr_Decode_h1m3
    refine ite_yes (by omega) <| ite_yes (by omega) <| ite_yes (by omega) <| ite_yes (by omega) <| bind_to hz <| ite_no (fun h => h hz0) ?_
    by_cases hv : n - 1 - w0 - w1 - w2 = 0
    · refine ite_yes hv ?_
      rw [show n - (1 + w0 + w1 + w2) = 0 by omega, List.take_zero]
    · refine ite_no hv <| ite_yes (by omega) <| ite_yes (by omega) ?_
      rw [show w2 + (w1 + (w0 + 1)) = 1 + w0 + w1 + w2 by omega, show n - 1 - w0 - w1 - w2 = n - (1 + w0 + w1 + w2) by omega]
  · rw [if_neg hz0]
    refine fin _ ?_
    unfold instr_Decode_h1m3
    exact ite_yes (by omega) <| ite_yes (by omega) <| ite_yes (by omega) <| ite_yes (by omega) <| bind_to hz <| ite_yes hz0 rfl
/-- What is decoded, encoded, is what stood there. -/
theorem instr_Decode_back (hb : ∀ i, i < L.length → 0 ≤ L.getD i 0 ∧ L.getD i 0 ≤ 255) (hn : n ≤ L.length) (h20 : n ≤ 100000) (hc : n ≤ c) (hN : 2000 ≤ N) : (∃ z, z ≠ 0 ∧ instr_Decode L n c N = some (.r0 z)) ∨ ∃ A B C y R, instr_Decode L n c N = some (.r1 A B C R) ∧ instr_Encode (L.getD 0 0) A B C N = some (.r1 y) ∧ y ++ R = L.take n ∧ y.length + R.length = n ∧ 0 < y.length := by
  by_cases h0 : n = 0
  · subst h0
    exact .inl ⟨6, by decide, instr_Decode_zero⟩
  obtain ⟨nm, s0, s1, s2, q, w0, w1, w2, K⟩ := kd (L.getD 0 0) N
  cases q with
  | true => exact .inl ⟨100, by decide, instr_Decode_none hb hn h0 K⟩
  | false =>
    by_cases hs : n < 1 + w0 + w1 + w2
    · exact .inl ⟨6, by decide, instr_Decode_short hb hn h0 h20 hc hN K hs⟩
    obtain ⟨b, hz, _⟩ := K.chk (by omega) (IntKind.i64.wrap (gV ((L.drop 1).take w0))) (IntKind.i64.wrap (gV ((L.drop (1 + w0)).take w1))) (IntKind.i64.wrap (gV ((L.drop (1 + w0 + w1)).take w2)))
    have F := instr_Decode_full hb hn h20 hc hN K (by omega) rfl rfl rfl hz
    cases b with
    | false => exact .inl ⟨100, by decide, F⟩
    | true =>
      refine .inr ⟨_, _, _, _, _, F, enc_ok K hN hz, ?_, ?_, ?_⟩
      · have hB : ∀ a k, ∀ x ∈ (L.drop a).take k, 0 ≤ x ∧ x ≤ 255 := fun a k x hx => by
          obtain ⟨i, hi, rfl⟩ := List.getElem_of_mem (List.mem_of_mem_drop (List.mem_of_mem_take hx))
          have := hb i hi
          simpa [List.getD, hi] using this
        have hl : ∀ a k, a + k ≤ L.length → ((L.drop a).take k).length = k := fun a k h => by rw [List.length_take, List.length_drop]; omega
        have hop : [L.getD 0 0] = L.take 1 := take_snoc (L := L) (i := 0) (by omega) 0
        obtain ⟨r1, r2⟩ := K.rg rfl
        unfold encL
        rw [vb K.l0 (hl _ _ (by omega)) (hB _ _), vb K.l1 (hl _ _ (by omega)) (hB _ _), vb K.l2 (hl _ _ (by omega)) (hB _ _), u8_mod, show L.getD 0 0 % 256 = L.getD 0 0 by omega]
        rw [show n = 1 + w0 + w1 + w2 + (n - (1 + w0 + w1 + w2)) by omega, List.take_add, List.take_add, List.take_add, List.take_add, ← hop, show 1 + w0 + w1 + w2 + (n - (1 + w0 + w1 + w2)) - (1 + w0 + w1 + w2) = n - (1 + w0 + w1 + w2) by omega]
        simp only [List.cons_append, List.nil_append, List.append_assoc]
      · rw [encL_len, List.length_take, List.length_drop]; omega
      · rw [encL_len]; omega
/-- What is encoded is decoded, with what stands behind. -/
theorem instr_Decode_forth {op A B C : Int} {M : List Int} {nm : List Int} (K : Kd op N nm s0 s1 s2 false w0 w1 w2) (hN : 2000 ≤ N) (hz : instr_Check op A B C N = some (.r0 0)) (hb : ∀ x ∈ M, 0 ≤ x ∧ x ≤ 255) (hM : M.length ≤ 50000) (hc : 1 + w0 + w1 + w2 + M.length ≤ c) : instr_Decode (encL op A B C w0 w1 w2 ++ M) (1 + w0 + w1 + w2 + M.length) c N = some (.r1 A B C M) ∧ (encL op A B C w0 w1 w2 ++ M).getD 0 0 = op := by
  obtain ⟨b, hz', hr⟩ := K.chk (by omega) A B C
  have hb1 : b = true := by
    cases b with
    | true => rfl
    | false => rw [hz] at hz'; simp at hz'
  obtain ⟨_, rA, rB, rC⟩ := hr hb1
  obtain ⟨r1, r2⟩ := K.rg rfl
  have l0 := K.l0.le; have l1 := K.l1.le; have l2 := K.l2.le
  have hg : (encL op A B C w0 w1 w2 ++ M).getD 0 0 = op := by
    show IntKind.u8.wrap op = op
    rw [u8_mod]; omega
  refine ⟨?_, hg⟩
  have d1 : (encL op A B C w0 w1 w2 ++ M).drop 1 = bytesI w0 A ++ (bytesI w1 B ++ (bytesI w2 C ++ M)) := by
    unfold encL; simp only [List.cons_append, List.append_assoc, List.drop_succ_cons, List.drop_zero]
  have d2 : (encL op A B C w0 w1 w2 ++ M).drop (1 + w0) = bytesI w1 B ++ (bytesI w2 C ++ M) := by
    rw [← List.drop_drop, d1]; exact List.drop_left' (bytesI_len _ _)
  have d3 : (encL op A B C w0 w1 w2 ++ M).drop (1 + w0 + w1) = bytesI w2 C ++ M := by
    rw [← List.drop_drop, d2]; exact List.drop_left' (bytesI_len _ _)
  have d4 : (encL op A B C w0 w1 w2 ++ M).drop (1 + w0 + w1 + w2) = M := by
    rw [← List.drop_drop, d3]; exact List.drop_left' (bytesI_len _ _)
  have K' := K
  rw [← hg] at K'
  have hlen : (encL op A B C w0 w1 w2 ++ M).length = 1 + w0 + w1 + w2 + M.length := by rw [List.length_append, encL_len]
  have F := instr_Decode_full (L := encL op A B C w0 w1 w2 ++ M) (n := 1 + w0 + w1 + w2 + M.length) (c := c) (A := A) (B := B) (C := C) (z := 0) (getD_byteI fun x hx => by
      rcases List.mem_append.1 hx with hx | hx
      · exact encL_byte _ _ _ _ _ _ _ x hx
      · exact hb x hx) (by rw [hlen]; omega) (by omega) hc hN K' (by omega)
    (by rw [d1, List.take_left' (bytesI_len _ _), bv K.l0 rA]) (by rw [d2, List.take_left' (bytesI_len _ _), bv K.l1 rB]) (by rw [d3, List.take_left' (bytesI_len _ _), bv K.l2 rC]) (by rw [hg]; exact hz)
  rw [F, if_pos rfl, d4, show 1 + w0 + w1 + w2 + M.length - (1 + w0 + w1 + w2) = M.length by omega, List.take_length]
end
theorem instr_join_2_val {L : List Int} {o w c N : Nat} (hb : ∀ i, i < L.length → 0 ≤ L.getD i 0 ∧ L.getD i 0 ≤ 255) (hn : o + w ≤ L.length) (hw : w ≤ 8) (ho : o ≤ 1000000) (hN : 100 ≤ N) : instr_join_2 L o w c N = some (.r0 (IntKind.i64.wrap (gV ((L.drop o).take w)))) := by
  unfold instr_join_2
  have loop : ∀ d j f v, j + d = w → d < f → v = gV ((L.drop o).take j) → 0 ≤ v → v < ((256 ^ j : Nat) : Int) → iter (instr_join_2Step L o w c N) f (.h1m0 v j) = some (.r0 (IntKind.i64.wrap (gV ((L.drop o).take w)))) := by
    intro d
    induction d with
    | zero =>
      intro j f v hj hf hv h0 h1
      obtain ⟨f, rfl⟩ : ∃ g, f = g + 1 := ⟨f - 1, by omega⟩
      refine iter_done ?_
      show instr_join_2_h1m0 L o w c N v j = _
      unfold instr_join_2_h1m0
      refine ite_no (by omega) ?_
      obtain rfl : j = w := by omega
      rw [hv]
    | succ d ih =>
      intro j f v hj hf hv h0 h1
      obtain ⟨f, rfl⟩ : ∃ g, f = g + 1 := ⟨f - 1, by omega⟩
      obtain ⟨b0, b1⟩ := hb (j + o) (by omega)
      obtain ⟨e1, e2, e3⟩ := g_step h0 h1 (by omega) b0 b1
      refine (iter_next (y := .h1m0 (256 * v + L.getD (j + o) 0) (j + 1)) ?_).trans (ih (j + 1) f _ (by omega) (by omega) ?_ e2 e3)
      · show instr_join_2_h1m0 L o w c N v j = _
        unfold instr_join_2_h1m0
        rw [or_shift b0 b1, e1]
        exact ite_yes (by omega) (ite_yes (by omega) (ite_yes b0 (ite_yes (by omega) (ite_yes (by omega) rfl))))
      · rw [hv, ← gV_snoc, ← getD_dropI, take_snoc (by rw [List.length_drop]; omega)]
  exact loop w 0 N 0 (by omega) (by omega) rfl (by decide) (by decide)
section
variable {L : List Int} {n c N w0 w1 w2 : Nat} {s0 s1 s2 : Int}
theorem instr_Decode_2_d0 {z : Int} (hw : instr_shape_width s0 N = some (.r0 (w0 : Int))) (h : w0 ≤ n - 1) (hc : n ≤ c) (hj : instr_join_2 L 1 w0 (c - 1) N = some (.r0 z)) :
    instr_Decode_2Step L n c N (.h1m0 s0 s1 s2) = some (.inl (.h1m1 (w0 + 1) (n - 1 - w0) (c - 1 - w0) s0 s1 s2 z)) := by
  show instr_Decode_2_h1m0 L n c N s0 s1 s2 = _
  unfold instr_Decode_2_h1m0
  exact bind_to hw <| ite_no (by omega) <| bind_to hw <| ite_yes (by omega) <| ite_yes (by omega) <| bind_to hj <| bind_to hw <| ite_yes (by omega) <| ite_yes (by omega) <| ite_yes (by omega) rfl
theorem instr_Decode_2_d0s (hw : instr_shape_width s0 N = some (.r0 (w0 : Int))) (h : n - 1 < w0) : instr_Decode_2Step L n c N (.h1m0 s0 s1 s2) = some (.inr (.r0 6)) := by
  show instr_Decode_2_h1m0 L n c N s0 s1 s2 = _
  unfold instr_Decode_2_h1m0
  exact bind_to hw <| ite_yes (by omega) rfl
theorem instr_Decode_2_d1 {v4 v5 v6 : Nat} {x z : Int} (hw : instr_shape_width s1 N = some (.r0 (w1 : Int))) (h : w1 ≤ v5) (hc : v5 ≤ v6) (hj : instr_join_2 L v4 w1 v6 N = some (.r0 z)) :
    instr_Decode_2Step L n c N (.h1m1 v4 v5 v6 s0 s1 s2 x) = some (.inl (.h1m2 (w1 + v4) (v5 - w1) (v6 - w1) s0 s1 s2 x z)) := by
  show instr_Decode_2_h1m1 L n c N v4 v5 v6 s0 s1 s2 x = _
  unfold instr_Decode_2_h1m1
  exact bind_to hw <| ite_no (by omega) <| bind_to hw <| ite_yes (by omega) <| ite_yes (by omega) <| bind_to hj <| bind_to hw <| ite_yes (by omega) <| ite_yes (by omega) <| ite_yes (by omega) rfl
theorem instr_Decode_2_d1s {v4 v5 v6 : Nat} {x : Int} (hw : instr_shape_width s1 N = some (.r0 (w1 : Int))) (h : v5 < w1) : instr_Decode_2Step L n c N (.h1m1 v4 v5 v6 s0 s1 s2 x) = some (.inr (.r0 6)) := by
  show instr_Decode_2_h1m1 L n c N v4 v5 v6 s0 s1 s2 x = _
  unfold instr_Decode_2_h1m1
  exact bind_to hw <| ite_yes (by omega) rfl
theorem instr_Decode_2_d2 {v4 v5 v6 : Nat} {x y z : Int} (hw : instr_shape_width s2 N = some (.r0 (w2 : Int))) (h : w2 ≤ v5) (hc : v5 ≤ v6) (hj : instr_join_2 L v4 w2 v6 N = some (.r0 z)) :
    instr_Decode_2Step L n c N (.h1m2 v4 v5 v6 s0 s1 s2 x y) = some (.inl (.h1m3 (w2 + v4) (v5 - w2) (v6 - w2) s0 s1 s2 x y z)) := by
  show instr_Decode_2_h1m2 L n c N v4 v5 v6 s0 s1 s2 x y = _
  unfold instr_Decode_2_h1m2
  exact bind_to hw <| ite_no (by omega) <| bind_to hw <| ite_yes (by omega) <| ite_yes (by omega) <| bind_to hj <| bind_to hw <| ite_yes (by omega) <| ite_yes (by omega) <| ite_yes (by omega) rfl
theorem instr_Decode_2_d2s {v4 v5 v6 : Nat} {x y : Int} (hw : instr_shape_width s2 N = some (.r0 (w2 : Int))) (h : v5 < w2) : instr_Decode_2Step L n c N (.h1m2 v4 v5 v6 s0 s1 s2 x y) = some (.inr (.r0 6)) := by
  show instr_Decode_2_h1m2 L n c N v4 v5 v6 s0 s1 s2 x y = _
  unfold instr_Decode_2_h1m2
  exact bind_to hw <| ite_yes (by omega) rfl
theorem instr_Decode_2_in {nm : List Int} (hb : ∀ i, i < L.length → 0 ≤ L.getD i 0 ∧ L.getD i 0 ≤ 255) (hn : n ≤ L.length) (h0 : n ≠ 0) (hk : instr_kind_2 (L.getD 0 0) N = some (.r0 nm s0 s1 s2)) {o : Option (instr_Decode_2X ⊕ instr_Decode_2R)} (ho : (if strB nm [] = true then some (.inr (.r0 (100 : Int))) else if ((n : Nat) : Int) ≤ ((c : Nat) : Int) then some (.inl (.h1m0 s0 s1 s2)) else none) = o) : instr_Decode_2In L n c N = o := by
  obtain ⟨b1, b2⟩ := hb 0 (by omega)
  unfold instr_Decode_2In
  exact ite_no (by omega) <| ite_yes (by omega) <| ite_yes (by omega) <| ite_yes (by omega) <| bind_to hk ho
theorem instr_Decode_2_none {nm : List Int} (hb : ∀ i, i < L.length → 0 ≤ L.getD i 0 ∧ L.getD i 0 ≤ 255) (hn : n ≤ L.length) (h0 : n ≠ 0) (K : Kd (L.getD 0 0) N nm s0 s1 s2 true w0 w1 w2) : instr_Decode_2 L n c N = some (.r0 100) :=
  goM_out (instr_Decode_2_in hb hn h0 K.k (ite_yes K.e rfl))
theorem instr_Decode_2_zero : instr_Decode_2 L 0 c N = some (.r0 6) := goM_out (ite_yes (by omega) rfl)
theorem instr_Decode_2_short {nm : List Int} (hb : ∀ i, i < L.length → 0 ≤ L.getD i 0 ∧ L.getD i 0 ≤ 255) (hn : n ≤ L.length) (h0 : n ≠ 0) (h20 : n ≤ 100000) (hc : n ≤ c) (hN : 2000 ≤ N) (K : Kd (L.getD 0 0) N nm s0 s1 s2 false w0 w1 w2) (hs : n < 1 + w0 + w1 + w2) : instr_Decode_2 L n c N = some (.r0 6) := by
  obtain ⟨l0, l1, l2⟩ := And.intro K.l0.le (And.intro K.l1.le K.l2.le)
  refine (goM_in (instr_Decode_2_in hb hn h0 K.k (ite_no (by rw [K.e]; decide) <| ite_yes (by omega) rfl))).trans ?_
  by_cases q0 : n - 1 < w0
  · exact iter_up (n := 0 + 1) (by omega) (iter_done (instr_Decode_2_d0s K.a0 q0))
  have S1 := instr_Decode_2_d0 (s1 := s1) (s2 := s2) K.a0 (show w0 ≤ n - 1 by omega) hc (instr_join_2_val (c := c - 1) (N := N) hb (by omega) l0 (by omega) (by omega))
  by_cases q1 : n - 1 - w0 < w1
  · exact iter_up (n := 0 + 1 + 1) (by omega) ((iter_next S1).trans (iter_done (instr_Decode_2_d1s K.a1 q1)))
  have S2 := instr_Decode_2_d1 (n := n) (c := c) (s0 := s0) (s2 := s2) (x := IntKind.i64.wrap (gV ((L.drop 1).take w0))) (v4 := w0 + 1) (v5 := n - 1 - w0) (v6 := c - 1 - w0) K.a1 (by omega) (by omega) (instr_join_2_val (N := N) hb (by omega) l1 (by omega) (by omega))
  exact iter_up (n := 0 + 1 + 1 + 1) (by omega) ((iter_next S1).trans ((iter_next S2).trans (iter_done (instr_Decode_2_d2s K.a2 (by omega)))))
theorem instr_Decode_2_full {nm : List Int} (hb : ∀ i, i < L.length → 0 ≤ L.getD i 0 ∧ L.getD i 0 ≤ 255) (hn : n ≤ L.length) (h20 : n ≤ 100000) (hc : n ≤ c) (hN : 2000 ≤ N) (K : Kd (L.getD 0 0) N nm s0 s1 s2 false w0 w1 w2) (hs : 1 + w0 + w1 + w2 ≤ n) {A B C : Int} (hA : A = IntKind.i64.wrap (gV ((L.drop 1).take w0))) (hB : B = IntKind.i64.wrap (gV ((L.drop (1 + w0)).take w1))) (hC : C = IntKind.i64.wrap (gV ((L.drop (1 + w0 + w1)).take w2))) {z : Int} (hz : instr_Check (L.getD 0 0) A B C N = some (.r0 z)) :
    instr_Decode_2 L n c N = if z = 0 then some (.r1 A B C ((L.drop (1 + w0 + w1 + w2)).take (n - (1 + w0 + w1 + w2)))) else some (.r0 z) := by
  obtain ⟨l0, l1, l2⟩ := And.intro K.l0.le (And.intro K.l1.le K.l2.le)
  have h0 : n ≠ 0 := by omega
  obtain ⟨b1, b2⟩ := hb 0 (by omega)
  refine (goM_in (instr_Decode_2_in hb hn h0 K.k (ite_no (by rw [K.e]; decide) <| ite_yes (by omega) rfl))).trans ?_
  have S1 := instr_Decode_2_d0 (s1 := s1) (s2 := s2) (z := A) K.a0 (show w0 ≤ n - 1 by omega) hc (by rw [hA]; exact instr_join_2_val (c := c - 1) (N := N) hb (by omega) l0 (by omega) (by omega))
  have S2 := instr_Decode_2_d1 (n := n) (c := c) (s0 := s0) (s2 := s2) (x := A) (z := B) (v4 := w0 + 1) (v5 := n - 1 - w0) (v6 := c - 1 - w0) K.a1 (by omega) (by omega) (by rw [hB, Nat.add_comm w0 1]; exact instr_join_2_val (N := N) hb (by omega) l1 (by omega) (by omega))
  have S3 := instr_Decode_2_d2 (n := n) (c := c) (s0 := s0) (s1 := s1) (x := A) (y := B) (z := C) (v4 := w1 + (w0 + 1)) (v5 := n - 1 - w0 - w1) (v6 := c - 1 - w0 - w1) K.a2 (by omega) (by omega) (by rw [hC, show w1 + (w0 + 1) = 1 + w0 + w1 by omega]; exact instr_join_2_val (N := N) hb (by omega) l2 (by omega) (by omega))
  have fin : ∀ r, instr_Decode_2_h1m3 L n c N (w2 + (w1 + (w0 + 1))) (n - 1 - w0 - w1 - w2) (c - 1 - w0 - w1 - w2) s0 s1 s2 A B C = some (.inr r) → iter (instr_Decode_2Step L n c N) N (.h1m0 s0 s1 s2) = some r := fun r hr => iter_up (n := 0 + 1 + 1 + 1 + 1) (by omega) ((iter_next S1).trans ((iter_next S2).trans ((iter_next S3).trans (iter_done hr))))
  by_cases hz0 : z = 0
  · rw [if_pos hz0]
    refine fin _ ?_
    unfold instr_Decode_2_h1m3
    refine ite_yes (by omega) <| ite_yes (by omega) <| ite_yes (by omega) <| ite_yes (by omega) <| bind_to hz <| ite_no (fun h => h hz0) ?_
    by_cases hv : n - 1 - w0 - w1 - w2 = 0
    · refine ite_yes hv ?_
      rw [show n - (1 + w0 + w1 + w2) = 0 by omega, List.take_zero]
    · refine ite_no hv <| ite_yes (by omega) <| ite_yes (by omega) ?_
      rw [show w2 + (w1 + (w0 + 1)) = 1 + w0 + w1 + w2 by omega, show n - 1 - w0 - w1 - w2 = n - (1 + w0 + w1 + w2) by omega]
  · rw [if_neg hz0]
    refine fin _ ?_
    unfold instr_Decode_2_h1m3
    exact ite_yes (by omega) <| ite_yes (by omega) <| ite_yes (by omega) <| ite_yes (by omega) <| bind_to hz <| ite_yes hz0 rfl
/-- What is decoded, encoded, is what stood there. -/
theorem instr_Decode_2_back (hb : ∀ i, i < L.length → 0 ≤ L.getD i 0 ∧ L.getD i 0 ≤ 255) (hn : n ≤ L.length) (h20 : n ≤ 100000) (hc : n ≤ c) (hN : 2000 ≤ N) : (∃ z, z ≠ 0 ∧ instr_Decode_2 L n c N = some (.r0 z)) ∨ ∃ A B C y R, instr_Decode_2 L n c N = some (.r1 A B C R) ∧ instr_Encode (L.getD 0 0) A B C N = some (.r1 y) ∧ y ++ R = L.take n ∧ y.length + R.length = n ∧ 0 < y.length := by
  by_cases h0 : n = 0
  · subst h0
    exact .inl ⟨6, by decide, instr_Decode_2_zero⟩
  obtain ⟨nm, s0, s1, s2, q, w0, w1, w2, K⟩ := kd (L.getD 0 0) N
  cases q with
  | true => exact .inl ⟨100, by decide, instr_Decode_2_none hb hn h0 K⟩
  | false =>
    by_cases hs : n < 1 + w0 + w1 + w2
    · exact .inl ⟨6, by decide, instr_Decode_2_short hb hn h0 h20 hc hN K hs⟩
    obtain ⟨b, hz, _⟩ := K.chk (by omega) (IntKind.i64.wrap (gV ((L.drop 1).take w0))) (IntKind.i64.wrap (gV ((L.drop (1 + w0)).take w1))) (IntKind.i64.wrap (gV ((L.drop (1 + w0 + w1)).take w2)))
    have F := instr_Decode_2_full hb hn h20 hc hN K (by omega) rfl rfl rfl hz
    cases b with
    | false => exact .inl ⟨100, by decide, F⟩
    | true =>
      refine .inr ⟨_, _, _, _, _, F, enc_ok K hN hz, ?_, ?_, ?_⟩
      · have hB : ∀ a k, ∀ x ∈ (L.drop a).take k, 0 ≤ x ∧ x ≤ 255 := fun a k x hx => by
          obtain ⟨i, hi, rfl⟩ := List.getElem_of_mem (List.mem_of_mem_drop (List.mem_of_mem_take hx))
          have := hb i hi
          simpa [List.getD, hi] using this
        have hl : ∀ a k, a + k ≤ L.length → ((L.drop a).take k).length = k := fun a k h => by rw [List.length_take, List.length_drop]; omega
        have hop : [L.getD 0 0] = L.take 1 := take_snoc (L := L) (i := 0) (by omega) 0
        obtain ⟨r1, r2⟩ := K.rg rfl
        unfold encL
        rw [vb K.l0 (hl _ _ (by omega)) (hB _ _), vb K.l1 (hl _ _ (by omega)) (hB _ _), vb K.l2 (hl _ _ (by omega)) (hB _ _), u8_mod, show L.getD 0 0 % 256 = L.getD 0 0 by omega]
        rw [show n = 1 + w0 + w1 + w2 + (n - (1 + w0 + w1 + w2)) by omega, List.take_add, List.take_add, List.take_add, List.take_add, ← hop, show 1 + w0 + w1 + w2 + (n - (1 + w0 + w1 + w2)) - (1 + w0 + w1 + w2) = n - (1 + w0 + w1 + w2) by omega]
        simp only [List.cons_append, List.nil_append, List.append_assoc]
      · rw [encL_len, List.length_take, List.length_drop]; omega
      · rw [encL_len]; omega
/-- What is encoded is decoded, with what stands behind. -/
theorem instr_Decode_2_forth {op A B C : Int} {M : List Int} {nm : List Int} (K : Kd op N nm s0 s1 s2 false w0 w1 w2) (hN : 2000 ≤ N) (hz : instr_Check op A B C N = some (.r0 0)) (hb : ∀ x ∈ M, 0 ≤ x ∧ x ≤ 255) (hM : M.length ≤ 50000) (hc : 1 + w0 + w1 + w2 + M.length ≤ c) : instr_Decode_2 (encL op A B C w0 w1 w2 ++ M) (1 + w0 + w1 + w2 + M.length) c N = some (.r1 A B C M) ∧ (encL op A B C w0 w1 w2 ++ M).getD 0 0 = op := by
  obtain ⟨b, hz', hr⟩ := K.chk (by omega) A B C
  have hb1 : b = true := by
    cases b with
    | true => rfl
    | false => rw [hz] at hz'; simp at hz'
  obtain ⟨_, rA, rB, rC⟩ := hr hb1
  obtain ⟨r1, r2⟩ := K.rg rfl
  have l0 := K.l0.le; have l1 := K.l1.le; have l2 := K.l2.le
  have hg : (encL op A B C w0 w1 w2 ++ M).getD 0 0 = op := by
    show IntKind.u8.wrap op = op
    rw [u8_mod]; omega
  refine ⟨?_, hg⟩
  have d1 : (encL op A B C w0 w1 w2 ++ M).drop 1 = bytesI w0 A ++ (bytesI w1 B ++ (bytesI w2 C ++ M)) := by
    unfold encL; simp only [List.cons_append, List.append_assoc, List.drop_succ_cons, List.drop_zero]
  have d2 : (encL op A B C w0 w1 w2 ++ M).drop (1 + w0) = bytesI w1 B ++ (bytesI w2 C ++ M) := by
    rw [← List.drop_drop, d1]; exact List.drop_left' (bytesI_len _ _)
  have d3 : (encL op A B C w0 w1 w2 ++ M).drop (1 + w0 + w1) = bytesI w2 C ++ M := by
    rw [← List.drop_drop, d2]; exact List.drop_left' (bytesI_len _ _)
  have d4 : (encL op A B C w0 w1 w2 ++ M).drop (1 + w0 + w1 + w2) = M := by
    rw [← List.drop_drop, d3]; exact List.drop_left' (bytesI_len _ _)
  have K' := K
  rw [← hg] at K'
  have hlen : (encL op A B C w0 w1 w2 ++ M).length = 1 + w0 + w1 + w2 + M.length := by rw [List.length_append, encL_len]
  have F := instr_Decode_2_full (L := encL op A B C w0 w1 w2 ++ M) (n := 1 + w0 + w1 + w2 + M.length) (c := c) (A := A) (B := B) (C := C) (z := 0) (getD_byteI fun x hx => by
      rcases List.mem_append.1 hx with hx | hx
      · exact encL_byte _ _ _ _ _ _ _ x hx
      · exact hb x hx) (by rw [hlen]; omega) (by omega) hc hN K' (by omega)
    (by rw [d1, List.take_left' (bytesI_len _ _), bv K.l0 rA]) (by rw [d2, List.take_left' (bytesI_len _ _), bv K.l1 rB]) (by rw [d3, List.take_left' (bytesI_len _ _), bv K.l2 rC]) (by rw [hg]; exact hz)
  rw [F, if_pos rfl, d4, show 1 + w0 + w1 + w2 + M.length - (1 + w0 + w1 + w2) = M.length by omega, List.take_length]
end
end Ev
end Go.Proofs.Ytcialenmjhiknaa
