/- An instruction may be: both answers. -/
import Derived.Test.YtikgfmbhfienjaaIbc
namespace Go.Proofs.Ytikgfmbhfienjaa
open Go.RowKit
namespace Ev
set_option linter.unusedVariables false
set_option linter.unusedSimpArgs false
theorem run3 {op A B C : Int} {N s0 s1 s2 : Nat} {b0 b1 b2 : Bool} (hN : 4 ≤ N) (h0 : instr_shape_fits s0 A 0 N = some (.r0 b0)) (h1 : b0 = true → instr_shape_fits s1 B A N = some (.r0 b1)) (h2 : b0 = true → b1 = true → instr_shape_fits s2 C B N = some (.r0 b2)) :
    iter (instr_CheckStep op A B C N) N (.h1m0 s0 s1 s2) = some (.r0 (if (b0 && b1 && b2) = true then 0 else 100)) := by
  obtain ⟨n, rfl⟩ : ∃ n, N = n + 4 := ⟨N - 4, by omega⟩
  cases b0 with
  | false =>
    refine iter_done ?_
    show instr_Check_h1m0 op A B C (n + 4) s0 s1 s2 = _
    unfold instr_Check_h1m0
    rw [h0]; rfl
  | true =>
    refine (iter_next (y := .h1m1 s0 s1 s2) ?_).trans ?_
    · show instr_Check_h1m0 op A B C (n + 4) s0 s1 s2 = _
      unfold instr_Check_h1m0
      rw [h0]; rfl
    · cases b1 with
      | false =>
        refine iter_done ?_
        show instr_Check_h1m1 op A B C (n + 4) s0 s1 s2 = _
        unfold instr_Check_h1m1
        rw [h1 rfl]; rfl
      | true =>
        refine (iter_next (y := .h1m2 s0 s1 s2) ?_).trans ?_
        · show instr_Check_h1m1 op A B C (n + 4) s0 s1 s2 = _
          unfold instr_Check_h1m1
          rw [h1 rfl]; rfl
        · cases b2 with
          | false =>
            refine iter_done ?_
            show instr_Check_h1m2 op A B C (n + 4) s0 s1 s2 = _
            unfold instr_Check_h1m2
            rw [h2 rfl rfl]; rfl
          | true =>
            refine (iter_next (y := .h1m3 s0 s1 s2) ?_).trans ?_
            · show instr_Check_h1m2 op A B C (n + 4) s0 s1 s2 = _
              unfold instr_Check_h1m2
              rw [h2 rfl rfl]; rfl
            · refine iter_done ?_
              show instr_Check_h1m3 op A B C (n + 4) s0 s1 s2 = _
              rfl
theorem is3 {op A B C t0 t1 t2 : Int} {N : Nat} {b0 b1 b2 : Bool} (hH : ref10_Has op N = some (.r0 t0 t1 t2 true)) (h0 : ref10_fits t0 A 0 N = some (.r0 b0)) (h1 : b0 = true → ref10_fits t1 B 0 N = some (.r0 b1)) (h2 : b0 = true → b1 = true → ref10_fits t2 C B N = some (.r0 b2)) :
    ref10_Is op A B C N = some (.r0 (b0 && b1 && b2)) := by
  unfold ref10_Is
  rw [hH]
  show (ref10_fits t0 A 0 N).bind _ = _
  rw [h0]
  cases b0 with
  | false => rfl
  | true =>
    show (ref10_fits t1 B 0 N).bind _ = _
    rw [h1 rfl]
    cases b1 with
    | false => rfl
    | true =>
      show (ref10_fits t2 C B N).bind _ = _
      rw [h2 rfl rfl]
      cases b2 <;> rfl
/-- What is known of an instruction that may be. -/
def Fine (op A B C : Int) (b : Bool) : Prop := (op = 8 → b = true → 0 ≤ A ∧ A ≤ 512) ∧ (op = 9 → b = true → 0 ≤ B ∧ B ≤ 512) ∧ (op = 15 → (b = true ↔ A = 0 ∧ B = 0 ∧ C = 0))
theorem both {op A B C t0 t1 t2 : Int} {N s0 s1 s2 : Nat} {b0 b1 b2 : Bool} (hN : 4 ≤ N) (hI : instr_CheckIn op A B C N = some (.inl (.h1m0 s0 s1 s2))) (hH : ref10_Has op N = some (.r0 t0 t1 t2 true))
    (h0 : instr_shape_fits s0 A 0 N = some (.r0 b0) ∧ ref10_fits t0 A 0 N = some (.r0 b0)) (h1 : b0 = true → instr_shape_fits s1 B A N = some (.r0 b1) ∧ ref10_fits t1 B 0 N = some (.r0 b1)) (h2 : b0 = true → b1 = true → instr_shape_fits s2 C B N = some (.r0 b2) ∧ ref10_fits t2 C B N = some (.r0 b2))
    (hf : Fine op A B C (b0 && b1 && b2)) : ∃ b, instr_Check op A B C N = some (.r0 (if b = true then 0 else 100)) ∧ ref10_Is op A B C N = some (.r0 b) ∧ Fine op A B C b :=
  ⟨b0 && b1 && b2, (goM_in hI).trans (run3 hN h0.1 (fun e => (h1 e).1) (fun e f => (h2 e f).1)), is3 hH h0.2 (fun e => (h1 e).2) (fun e f => (h2 e f).2), hf⟩
theorem fine_of {op A B C : Int} {b : Bool} (h8 : op ≠ 8) (h9 : op ≠ 9) (h15 : op ≠ 15) : Fine op A B C b := ⟨fun e => absurd e h8, fun e => absurd e h9, fun e => absurd e h15⟩
theorem is_1 (A B C : Int) (N : Nat) (hN : 4 ≤ N) : ∃ b, instr_Check 1 A B C N = some (.r0 (if b = true then 0 else 100)) ∧ ref10_Is 1 A B C N = some (.r0 b) ∧ Fine 1 A B C b := by
  obtain ⟨b0, p0, q0⟩ := fit_a A 0 0 N N
  obtain ⟨b1, p1, q1⟩ := fit_f B A 0 N N
  obtain ⟨b2, p2, q2, r2, t2⟩ := fit_z C B B N N
  exact both hN rfl rfl ⟨p0, q0⟩ (fun _ => ⟨p1, q1⟩) (fun _ _ => ⟨p2, q2⟩) (fine_of (by decide) (by decide) (by decide))
theorem is_2 (A B C : Int) (N : Nat) (hN : 4 ≤ N) : ∃ b, instr_Check 2 A B C N = some (.r0 (if b = true then 0 else 100)) ∧ ref10_Is 2 A B C N = some (.r0 b) ∧ Fine 2 A B C b := by
  obtain ⟨b0, p0, q0⟩ := fit_a A 0 0 N N
  obtain ⟨b1, p1, q1, r1, t1⟩ := fit_z B A 0 N N
  obtain ⟨b2, p2, q2, r2, t2⟩ := fit_z C B B N N
  exact both hN rfl rfl ⟨p0, q0⟩ (fun _ => ⟨p1, q1⟩) (fun _ _ => ⟨p2, q2⟩) (fine_of (by decide) (by decide) (by decide))
theorem is_3 (A B C : Int) (N : Nat) (hN : 4 ≤ N) : ∃ b, instr_Check 3 A B C N = some (.r0 (if b = true then 0 else 100)) ∧ ref10_Is 3 A B C N = some (.r0 b) ∧ Fine 3 A B C b := by
  obtain ⟨b0, p0, q0⟩ := fit_a A 0 0 N N
  obtain ⟨b1, p1, q1⟩ := fit_a B A 0 N N
  obtain ⟨b2, p2, q2, r2, t2⟩ := fit_z C B B N N
  exact both hN rfl rfl ⟨p0, q0⟩ (fun _ => ⟨p1, q1⟩) (fun _ _ => ⟨p2, q2⟩) (fine_of (by decide) (by decide) (by decide))
theorem is_4 (A B C : Int) (N : Nat) (hN : 4 ≤ N) : ∃ b, instr_Check 4 A B C N = some (.r0 (if b = true then 0 else 100)) ∧ ref10_Is 4 A B C N = some (.r0 b) ∧ Fine 4 A B C b := by
  obtain ⟨b0, p0, q0⟩ := fit_a A 0 0 N N
  obtain ⟨b1, p1, q1⟩ := fit_a B A 0 N N
  obtain ⟨b2, p2, q2⟩ := fit_a C B B N N
  exact both hN rfl rfl ⟨p0, q0⟩ (fun _ => ⟨p1, q1⟩) (fun _ _ => ⟨p2, q2⟩) (fine_of (by decide) (by decide) (by decide))
theorem is_5 (A B C : Int) (N : Nat) (hN : 4 ≤ N) : ∃ b, instr_Check 5 A B C N = some (.r0 (if b = true then 0 else 100)) ∧ ref10_Is 5 A B C N = some (.r0 b) ∧ Fine 5 A B C b := by
  obtain ⟨b0, p0, q0⟩ := fit_a A 0 0 N N
  obtain ⟨b1, p1, q1⟩ := fit_a B A 0 N N
  obtain ⟨b2, p2, q2⟩ := fit_a C B B N N
  exact both hN rfl rfl ⟨p0, q0⟩ (fun _ => ⟨p1, q1⟩) (fun _ _ => ⟨p2, q2⟩) (fine_of (by decide) (by decide) (by decide))
theorem is_6 (A B C : Int) (N : Nat) (hN : 4 ≤ N) : ∃ b, instr_Check 6 A B C N = some (.r0 (if b = true then 0 else 100)) ∧ ref10_Is 6 A B C N = some (.r0 b) ∧ Fine 6 A B C b := by
  obtain ⟨b0, p0, q0⟩ := fit_a A 0 0 N N
  obtain ⟨b1, p1, q1⟩ := fit_a B A 0 N N
  obtain ⟨b2, p2, q2⟩ := fit_a C B B N N
  exact both hN rfl rfl ⟨p0, q0⟩ (fun _ => ⟨p1, q1⟩) (fun _ _ => ⟨p2, q2⟩) (fine_of (by decide) (by decide) (by decide))
theorem is_7 (A B C : Int) (N : Nat) (hN : 4 ≤ N) : ∃ b, instr_Check 7 A B C N = some (.r0 (if b = true then 0 else 100)) ∧ ref10_Is 7 A B C N = some (.r0 b) ∧ Fine 7 A B C b := by
  obtain ⟨b0, p0, q0⟩ := fit_a A 0 0 N N
  obtain ⟨b1, p1, q1⟩ := fit_a B A 0 N N
  obtain ⟨b2, p2, q2⟩ := fit_a C B B N N
  exact both hN rfl rfl ⟨p0, q0⟩ (fun _ => ⟨p1, q1⟩) (fun _ _ => ⟨p2, q2⟩) (fine_of (by decide) (by decide) (by decide))
theorem is_8 (A B C : Int) (N : Nat) (hN : 4 ≤ N) : ∃ b, instr_Check 8 A B C N = some (.r0 (if b = true then 0 else 100)) ∧ ref10_Is 8 A B C N = some (.r0 b) ∧ Fine 8 A B C b := by
  obtain ⟨b0, p0, q0, r0⟩ := fit_d A 0 0 N N
  obtain ⟨b1, p1, q1, r1, t1⟩ := fit_z B A 0 N N
  obtain ⟨b2, p2, q2, r2, t2⟩ := fit_z C B B N N
  exact both hN rfl rfl ⟨p0, q0⟩ (fun _ => ⟨p1, q1⟩) (fun _ _ => ⟨p2, q2⟩) ⟨fun _ h => by simp only [Bool.and_eq_true] at h; exact r0 h.1.1, fun e => absurd e (by decide), fun e => absurd e (by decide)⟩
theorem is_9 (A B C : Int) (N : Nat) (hN : 4 ≤ N) : ∃ b, instr_Check 9 A B C N = some (.r0 (if b = true then 0 else 100)) ∧ ref10_Is 9 A B C N = some (.r0 b) ∧ Fine 9 A B C b := by
  obtain ⟨b0, p0, q0⟩ := fit_a A 0 0 N N
  obtain ⟨b1, p1, q1, r1⟩ := fit_d B A 0 N N
  obtain ⟨b2, p2, q2, r2, t2⟩ := fit_z C B B N N
  exact both hN rfl rfl ⟨p0, q0⟩ (fun _ => ⟨p1, q1⟩) (fun _ _ => ⟨p2, q2⟩) ⟨fun e => absurd e (by decide), fun _ h => by simp only [Bool.and_eq_true] at h; exact r1 h.1.2, fun e => absurd e (by decide)⟩
theorem is_10 (A B C : Int) (N : Nat) (hN : 4 ≤ N) : ∃ b, instr_Check 10 A B C N = some (.r0 (if b = true then 0 else 100)) ∧ ref10_Is 10 A B C N = some (.r0 b) ∧ Fine 10 A B C b := by
  obtain ⟨b0, p0, q0⟩ := fit_a A 0 0 N N
  obtain ⟨b1, p1, q1, r1, t1⟩ := fit_z B A 0 N N
  obtain ⟨b2, p2, q2, r2, t2⟩ := fit_z C B B N N
  exact both hN rfl rfl ⟨p0, q0⟩ (fun _ => ⟨p1, q1⟩) (fun _ _ => ⟨p2, q2⟩) (fine_of (by decide) (by decide) (by decide))
theorem is_11 (A B C : Int) (N : Nat) (hN : 4 ≤ N) : ∃ b, instr_Check 11 A B C N = some (.r0 (if b = true then 0 else 100)) ∧ ref10_Is 11 A B C N = some (.r0 b) ∧ Fine 11 A B C b := by
  obtain ⟨b0, p0, q0⟩ := fit_a A 0 0 N N
  obtain ⟨b1, p1, q1, r1⟩ := fit_c B A 0 N N
  cases hb : b1 with
  | false => subst hb; exact both (b2 := false) hN rfl rfl ⟨p0, q0⟩ (fun _ => ⟨p1, q1⟩) (fun _ e => by cases e) (fine_of (by decide) (by decide) (by decide))
  | true =>
    obtain ⟨b2, p2, q2⟩ := fit_e C B N N (r1 hb).1 (r1 hb).2
    subst hb
    exact both hN rfl rfl ⟨p0, q0⟩ (fun _ => ⟨p1, q1⟩) (fun _ _ => ⟨p2, q2⟩) (fine_of (by decide) (by decide) (by decide))
theorem is_12 (A B C : Int) (N : Nat) (hN : 4 ≤ N) : ∃ b, instr_Check 12 A B C N = some (.r0 (if b = true then 0 else 100)) ∧ ref10_Is 12 A B C N = some (.r0 b) ∧ Fine 12 A B C b := by
  obtain ⟨b0, p0, q0⟩ := fit_a A 0 0 N N
  obtain ⟨b1, p1, q1, r1, t1⟩ := fit_z B A 0 N N
  obtain ⟨b2, p2, q2, r2, t2⟩ := fit_z C B B N N
  exact both hN rfl rfl ⟨p0, q0⟩ (fun _ => ⟨p1, q1⟩) (fun _ _ => ⟨p2, q2⟩) (fine_of (by decide) (by decide) (by decide))
theorem is_13 (A B C : Int) (N : Nat) (hN : 4 ≤ N) : ∃ b, instr_Check 13 A B C N = some (.r0 (if b = true then 0 else 100)) ∧ ref10_Is 13 A B C N = some (.r0 b) ∧ Fine 13 A B C b := by
  obtain ⟨b0, p0, q0⟩ := fit_a A 0 0 N N
  obtain ⟨b1, p1, q1⟩ := fit_a B A 0 N N
  obtain ⟨b2, p2, q2⟩ := fit_b C B B N N
  exact both hN rfl rfl ⟨p0, q0⟩ (fun _ => ⟨p1, q1⟩) (fun _ _ => ⟨p2, q2⟩) (fine_of (by decide) (by decide) (by decide))
theorem is_14 (A B C : Int) (N : Nat) (hN : 4 ≤ N) : ∃ b, instr_Check 14 A B C N = some (.r0 (if b = true then 0 else 100)) ∧ ref10_Is 14 A B C N = some (.r0 b) ∧ Fine 14 A B C b := by
  obtain ⟨b0, p0, q0⟩ := fit_a A 0 0 N N
  obtain ⟨b1, p1, q1⟩ := fit_b B A 0 N N
  obtain ⟨b2, p2, q2⟩ := fit_a C B B N N
  exact both hN rfl rfl ⟨p0, q0⟩ (fun _ => ⟨p1, q1⟩) (fun _ _ => ⟨p2, q2⟩) (fine_of (by decide) (by decide) (by decide))
theorem is_15 (A B C : Int) (N : Nat) (hN : 4 ≤ N) : ∃ b, instr_Check 15 A B C N = some (.r0 (if b = true then 0 else 100)) ∧ ref10_Is 15 A B C N = some (.r0 b) ∧ Fine 15 A B C b := by
  obtain ⟨b0, p0, q0, r0, t0⟩ := fit_z A 0 0 N N
  obtain ⟨b1, p1, q1, r1, t1⟩ := fit_z B A 0 N N
  obtain ⟨b2, p2, q2, r2, t2⟩ := fit_z C B B N N
  exact both hN rfl rfl ⟨p0, q0⟩ (fun _ => ⟨p1, q1⟩) (fun _ _ => ⟨p2, q2⟩) ⟨fun e => absurd e (by decide), fun e => absurd e (by decide), fun _ => by simp only [Bool.and_eq_true]; exact ⟨fun h => ⟨r0 h.1.1, r1 h.1.2, r2 h.2⟩, fun h => ⟨⟨t0 h.1, t1 h.2.1⟩, t2 h.2.2⟩⟩⟩
theorem is_16 (A B C : Int) (N : Nat) (hN : 4 ≤ N) : ∃ b, instr_Check 16 A B C N = some (.r0 (if b = true then 0 else 100)) ∧ ref10_Is 16 A B C N = some (.r0 b) ∧ Fine 16 A B C b := by
  obtain ⟨b0, p0, q0, r0, t0⟩ := fit_z A 0 0 N N
  obtain ⟨b1, p1, q1, r1, t1⟩ := fit_z B A 0 N N
  obtain ⟨b2, p2, q2, r2, t2⟩ := fit_z C B B N N
  exact both hN rfl rfl ⟨p0, q0⟩ (fun _ => ⟨p1, q1⟩) (fun _ _ => ⟨p2, q2⟩) (fine_of (by decide) (by decide) (by decide))
theorem is_17 (A B C : Int) (N : Nat) (hN : 4 ≤ N) : ∃ b, instr_Check 17 A B C N = some (.r0 (if b = true then 0 else 100)) ∧ ref10_Is 17 A B C N = some (.r0 b) ∧ Fine 17 A B C b := by
  obtain ⟨b0, p0, q0, r0, t0⟩ := fit_z A 0 0 N N
  obtain ⟨b1, p1, q1, r1, t1⟩ := fit_z B A 0 N N
  obtain ⟨b2, p2, q2, r2, t2⟩ := fit_z C B B N N
  exact both hN rfl rfl ⟨p0, q0⟩ (fun _ => ⟨p1, q1⟩) (fun _ _ => ⟨p2, q2⟩) (fine_of (by decide) (by decide) (by decide))
theorem is_18 (A B C : Int) (N : Nat) (hN : 4 ≤ N) : ∃ b, instr_Check 18 A B C N = some (.r0 (if b = true then 0 else 100)) ∧ ref10_Is 18 A B C N = some (.r0 b) ∧ Fine 18 A B C b := by
  obtain ⟨b0, p0, q0, r0, t0⟩ := fit_z A 0 0 N N
  obtain ⟨b1, p1, q1, r1, t1⟩ := fit_z B A 0 N N
  obtain ⟨b2, p2, q2, r2, t2⟩ := fit_z C B B N N
  exact both hN rfl rfl ⟨p0, q0⟩ (fun _ => ⟨p1, q1⟩) (fun _ _ => ⟨p2, q2⟩) (fine_of (by decide) (by decide) (by decide))
theorem is_19 (A B C : Int) (N : Nat) (hN : 4 ≤ N) : ∃ b, instr_Check 19 A B C N = some (.r0 (if b = true then 0 else 100)) ∧ ref10_Is 19 A B C N = some (.r0 b) ∧ Fine 19 A B C b := by
  obtain ⟨b0, p0, q0⟩ := fit_a A 0 0 N N
  obtain ⟨b1, p1, q1, r1, t1⟩ := fit_z B A 0 N N
  obtain ⟨b2, p2, q2, r2, t2⟩ := fit_z C B B N N
  exact both hN rfl rfl ⟨p0, q0⟩ (fun _ => ⟨p1, q1⟩) (fun _ _ => ⟨p2, q2⟩) (fine_of (by decide) (by decide) (by decide))
theorem is_20 (A B C : Int) (N : Nat) (hN : 4 ≤ N) : ∃ b, instr_Check 20 A B C N = some (.r0 (if b = true then 0 else 100)) ∧ ref10_Is 20 A B C N = some (.r0 b) ∧ Fine 20 A B C b := by
  obtain ⟨b0, p0, q0, r0, t0⟩ := fit_z A 0 0 N N
  obtain ⟨b1, p1, q1, r1, t1⟩ := fit_z B A 0 N N
  obtain ⟨b2, p2, q2, r2, t2⟩ := fit_z C B B N N
  exact both hN rfl rfl ⟨p0, q0⟩ (fun _ => ⟨p1, q1⟩) (fun _ _ => ⟨p2, q2⟩) (fine_of (by decide) (by decide) (by decide))
theorem check_is (op A B C : Int) (N : Nat) (hN : 4 ≤ N) : ∃ b, instr_Check op A B C N = some (.r0 (if b = true then 0 else 100)) ∧ ref10_Is op A B C N = some (.r0 b) ∧ Fine op A B C b := by
  by_cases h0 : op ≤ 0 ∨ 21 ≤ op
  · refine ⟨false, ?_, ?_, fine_of (by omega) (by omega) (by omega)⟩
    · refine goM_out ?_
      have : instr_kind op N = some .r0 := by
        unfold instr_kind
        repeat' (first | rfl | (refine ite_eq (fun _ => ?_) (fun _ => ?_)) | (exfalso; omega))
      unfold instr_CheckIn
      rw [this]; rfl
    · have : ref10_Has op N = some (.r0 0 0 0 false) := by
        unfold ref10_Has
        repeat' (first | rfl | (refine ite_eq (fun _ => ?_) (fun _ => ?_)) | (exfalso; omega))
      unfold ref10_Is
      rw [this]; rfl
  · have h : op = 1 ∨ op = 2 ∨ op = 3 ∨ op = 4 ∨ op = 5 ∨ op = 6 ∨ op = 7 ∨ op = 8 ∨ op = 9 ∨ op = 10 ∨ op = 11 ∨ op = 12 ∨ op = 13 ∨ op = 14 ∨ op = 15 ∨ op = 16 ∨ op = 17 ∨ op = 18 ∨ op = 19 ∨ op = 20 := by omega
    rcases h with rfl | rfl | rfl | rfl | rfl | rfl | rfl | rfl | rfl | rfl | rfl | rfl | rfl | rfl | rfl | rfl | rfl | rfl | rfl | rfl
    · exact is_1 A B C N hN
    · exact is_2 A B C N hN
    · exact is_3 A B C N hN
    · exact is_4 A B C N hN
    · exact is_5 A B C N hN
    · exact is_6 A B C N hN
    · exact is_7 A B C N hN
    · exact is_8 A B C N hN
    · exact is_9 A B C N hN
    · exact is_10 A B C N hN
    · exact is_11 A B C N hN
    · exact is_12 A B C N hN
    · exact is_13 A B C N hN
    · exact is_14 A B C N hN
    · exact is_15 A B C N hN
    · exact is_16 A B C N hN
    · exact is_17 A B C N hN
    · exact is_18 A B C N hN
    · exact is_19 A B C N hN
    · exact is_20 A B C N hN
end Ev
end Go.Proofs.Ytikgfmbhfienjaa
