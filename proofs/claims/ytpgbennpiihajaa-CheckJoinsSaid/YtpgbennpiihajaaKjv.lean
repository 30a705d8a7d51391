/- An instruction may be: ZdF answers. -/
import Derived.Test.YtpgbennpiihajaaKju
namespace Go.Proofs.Ytpgbennpiihajaa
open Go.RowKit
namespace Ev
set_option linter.unusedVariables false
set_option linter.unusedSimpArgs false
theorem run3 {op A B C : Int} {N s0 s1 s2 : Nat} {b0 b1 b2 : Bool} (hN : 4 ≤ N) (h0 : ZL s0 A 0 N = some (.r0 b0)) (h1 : b0 = true → ZL s1 B A N = some (.r0 b1)) (h2 : b0 = true → b1 = true → ZL s2 C B N = some (.r0 b2)) :
  Zds (Zcj op A B C N) N (.h1m0 s0 s1 s2) = some (.r0 (if (b0 && b1 && b2) = true then 0 else 100)) := by
 obtain ⟨n, rfl⟩ : ∃ n, N = n + 4 := ⟨N - 4, by omega⟩
 cases b0 with
 | false =>
  refine ZaL ?_
  show Zcs op A B C (n + 4) s0 s1 s2 = _
  unfold Zcs
  rw [h0]; rfl
 | true =>
  refine (Zbx (y := .h1m1 s0 s1 s2) ?_).trans ?_
  ·show Zcs op A B C (n + 4) s0 s1 s2 = _
   unfold Zcs
   rw [h0]; rfl
  ·cases b1 with
   | false =>
    refine ZaL ?_
    show Zct op A B C (n + 4) s0 s1 s2 = _
    unfold Zct
    rw [h1 rfl]; rfl
   | true =>
    refine (Zbx (y := .h1m2 s0 s1 s2) ?_).trans ?_
    ·show Zct op A B C (n + 4) s0 s1 s2 = _
     unfold Zct
     rw [h1 rfl]; rfl
    ·cases b2 with
     | false =>
      refine ZaL ?_
      show Zcu op A B C (n + 4) s0 s1 s2 = _
      unfold Zcu
      rw [h2 rfl rfl]; rfl
     | true =>
      refine (Zbx (y := .h1m3 s0 s1 s2) ?_).trans ?_
      ·show Zcu op A B C (n + 4) s0 s1 s2 = _
       unfold Zcu
       rw [h2 rfl rfl]; rfl
      ·refine ZaL ?_
       show Ze7 op A B C (n + 4) s0 s1 s2 = _
       rfl
theorem is3 {op A B C t0 t1 t2 : Int} {N : Nat} {b0 b1 b2 : Bool} (hH : ZhI op N = some (.r0 t0 t1 t2 true)) (h0 : Zar t0 A 0 N = some (.r0 b0)) (h1 : b0 = true → Zar t1 B 0 N = some (.r0 b1)) (h2 : b0 = true → b1 = true → Zar t2 C B N = some (.r0 b2)) :
  ZaM op A B C N = some (.r0 (b0 && b1 && b2)) := by
 unfold ZaM
 rw [hH]
 show (Zar t0 A 0 N).bind _ = _
 rw [h0]
 cases b0 with
 | false => rfl
 | true =>
  show (Zar t1 B 0 N).bind _ = _
  rw [h1 rfl]
  cases b1 with
  | false => rfl
  | true =>
   show (Zar t2 C B N).bind _ = _
   rw [h2 rfl rfl]
   cases b2 <;> rfl
def Zdx (op A B C : Int) (b : Bool) : Prop := (op = 8 → b = true → 0 ≤ A ∧ A ≤ 512) ∧ (op = 9 → b = true → 0 ≤ B ∧ B ≤ 512) ∧ (op = 15 → (b = true ↔ A = 0 ∧ B = 0 ∧ C = 0))
theorem ZdF {op A B C t0 t1 t2 : Int} {N s0 s1 s2 : Nat} {b0 b1 b2 : Bool} (hN : 4 ≤ N) (hI : ZeC op A B C N = some (.inl (.h1m0 s0 s1 s2))) (hH : ZhI op N = some (.r0 t0 t1 t2 true))
  (h0 : ZL s0 A 0 N = some (.r0 b0) ∧ Zar t0 A 0 N = some (.r0 b0)) (h1 : b0 = true → ZL s1 B A N = some (.r0 b1) ∧ Zar t1 B 0 N = some (.r0 b1)) (h2 : b0 = true → b1 = true → ZL s2 C B N = some (.r0 b2) ∧ Zar t2 C B N = some (.r0 b2))
  (hf : Zdx op A B C (b0 && b1 && b2)) : ∃ b, Z2 op A B C N = some (.r0 (if b = true then 0 else 100)) ∧ ZaM op A B C N = some (.r0 b) ∧ Zdx op A B C b :=
 ⟨b0 && b1 && b2, (Zos hI).trans (run3 hN h0.1 (fun e => (h1 e).1) (fun e f => (h2 e f).1)), is3 hH h0.2 (fun e => (h1 e).2) (fun e f => (h2 e f).2), hf⟩
theorem Zcf {op A B C : Int} {b : Bool} (h8 : op ≠ 8) (h9 : op ≠ 9) (h15 : op ≠ 15) : Zdx op A B C b := ⟨fun e => absurd e h8, fun e => absurd e h9, fun e => absurd e h15⟩
theorem is_1 (A B C : Int) (N : Nat) (hN : 4 ≤ N) : ∃ b, Z2 1 A B C N = some (.r0 (if b = true then 0 else 100)) ∧ ZaM 1 A B C N = some (.r0 b) ∧ Zdx 1 A B C b := by
 obtain ⟨b0, p0, q0⟩ := Zcl A 0 0 N N
 obtain ⟨b1, p1, q1⟩ := fit_f B A 0 N N
 obtain ⟨b2, p2, q2, r2, t2⟩ := Zb5 C B B N N
 exact ZdF hN rfl rfl ⟨p0, q0⟩ (fun _ => ⟨p1, q1⟩) (fun _ _ => ⟨p2, q2⟩) (Zcf (by decide) (by decide) (by decide))
theorem is_2 (A B C : Int) (N : Nat) (hN : 4 ≤ N) : ∃ b, Z2 2 A B C N = some (.r0 (if b = true then 0 else 100)) ∧ ZaM 2 A B C N = some (.r0 b) ∧ Zdx 2 A B C b := by
 obtain ⟨b0, p0, q0⟩ := Zcl A 0 0 N N
 obtain ⟨b1, p1, q1, r1, t1⟩ := Zb5 B A 0 N N
 obtain ⟨b2, p2, q2, r2, t2⟩ := Zb5 C B B N N
 exact ZdF hN rfl rfl ⟨p0, q0⟩ (fun _ => ⟨p1, q1⟩) (fun _ _ => ⟨p2, q2⟩) (Zcf (by decide) (by decide) (by decide))
theorem is_3 (A B C : Int) (N : Nat) (hN : 4 ≤ N) : ∃ b, Z2 3 A B C N = some (.r0 (if b = true then 0 else 100)) ∧ ZaM 3 A B C N = some (.r0 b) ∧ Zdx 3 A B C b := by
 obtain ⟨b0, p0, q0⟩ := Zcl A 0 0 N N
 obtain ⟨b1, p1, q1⟩ := Zcl B A 0 N N
 obtain ⟨b2, p2, q2, r2, t2⟩ := Zb5 C B B N N
 exact ZdF hN rfl rfl ⟨p0, q0⟩ (fun _ => ⟨p1, q1⟩) (fun _ _ => ⟨p2, q2⟩) (Zcf (by decide) (by decide) (by decide))
theorem is_4 (A B C : Int) (N : Nat) (hN : 4 ≤ N) : ∃ b, Z2 4 A B C N = some (.r0 (if b = true then 0 else 100)) ∧ ZaM 4 A B C N = some (.r0 b) ∧ Zdx 4 A B C b := by
 obtain ⟨b0, p0, q0⟩ := Zcl A 0 0 N N
 obtain ⟨b1, p1, q1⟩ := Zcl B A 0 N N
 obtain ⟨b2, p2, q2⟩ := Zcl C B B N N
 exact ZdF hN rfl rfl ⟨p0, q0⟩ (fun _ => ⟨p1, q1⟩) (fun _ _ => ⟨p2, q2⟩) (Zcf (by decide) (by decide) (by decide))
theorem is_5 (A B C : Int) (N : Nat) (hN : 4 ≤ N) : ∃ b, Z2 5 A B C N = some (.r0 (if b = true then 0 else 100)) ∧ ZaM 5 A B C N = some (.r0 b) ∧ Zdx 5 A B C b := by
 obtain ⟨b0, p0, q0⟩ := Zcl A 0 0 N N
 obtain ⟨b1, p1, q1⟩ := Zcl B A 0 N N
 obtain ⟨b2, p2, q2⟩ := Zcl C B B N N
 exact ZdF hN rfl rfl ⟨p0, q0⟩ (fun _ => ⟨p1, q1⟩) (fun _ _ => ⟨p2, q2⟩) (Zcf (by decide) (by decide) (by decide))
theorem is_6 (A B C : Int) (N : Nat) (hN : 4 ≤ N) : ∃ b, Z2 6 A B C N = some (.r0 (if b = true then 0 else 100)) ∧ ZaM 6 A B C N = some (.r0 b) ∧ Zdx 6 A B C b := by
 obtain ⟨b0, p0, q0⟩ := Zcl A 0 0 N N
 obtain ⟨b1, p1, q1⟩ := Zcl B A 0 N N
 obtain ⟨b2, p2, q2⟩ := Zcl C B B N N
 exact ZdF hN rfl rfl ⟨p0, q0⟩ (fun _ => ⟨p1, q1⟩) (fun _ _ => ⟨p2, q2⟩) (Zcf (by decide) (by decide) (by decide))
theorem is_7 (A B C : Int) (N : Nat) (hN : 4 ≤ N) : ∃ b, Z2 7 A B C N = some (.r0 (if b = true then 0 else 100)) ∧ ZaM 7 A B C N = some (.r0 b) ∧ Zdx 7 A B C b := by
 obtain ⟨b0, p0, q0⟩ := Zcl A 0 0 N N
 obtain ⟨b1, p1, q1⟩ := Zcl B A 0 N N
 obtain ⟨b2, p2, q2⟩ := Zcl C B B N N
 exact ZdF hN rfl rfl ⟨p0, q0⟩ (fun _ => ⟨p1, q1⟩) (fun _ _ => ⟨p2, q2⟩) (Zcf (by decide) (by decide) (by decide))
theorem is_8 (A B C : Int) (N : Nat) (hN : 4 ≤ N) : ∃ b, Z2 8 A B C N = some (.r0 (if b = true then 0 else 100)) ∧ ZaM 8 A B C N = some (.r0 b) ∧ Zdx 8 A B C b := by
 obtain ⟨b0, p0, q0, r0⟩ := ZpI A 0 0 N N
 obtain ⟨b1, p1, q1, r1, t1⟩ := Zb5 B A 0 N N
 obtain ⟨b2, p2, q2, r2, t2⟩ := Zb5 C B B N N
 exact ZdF hN rfl rfl ⟨p0, q0⟩ (fun _ => ⟨p1, q1⟩) (fun _ _ => ⟨p2, q2⟩) ⟨fun _ h => by simp only [Bool.and_eq_true] at h; exact r0 h.1.1, fun e => absurd e (by decide), fun e => absurd e (by decide)⟩
theorem is_9 (A B C : Int) (N : Nat) (hN : 4 ≤ N) : ∃ b, Z2 9 A B C N = some (.r0 (if b = true then 0 else 100)) ∧ ZaM 9 A B C N = some (.r0 b) ∧ Zdx 9 A B C b := by
 obtain ⟨b0, p0, q0⟩ := Zcl A 0 0 N N
 obtain ⟨b1, p1, q1, r1⟩ := ZpI B A 0 N N
 obtain ⟨b2, p2, q2, r2, t2⟩ := Zb5 C B B N N
 exact ZdF hN rfl rfl ⟨p0, q0⟩ (fun _ => ⟨p1, q1⟩) (fun _ _ => ⟨p2, q2⟩) ⟨fun e => absurd e (by decide), fun _ h => by simp only [Bool.and_eq_true] at h; exact r1 h.1.2, fun e => absurd e (by decide)⟩
theorem is_10 (A B C : Int) (N : Nat) (hN : 4 ≤ N) : ∃ b, Z2 10 A B C N = some (.r0 (if b = true then 0 else 100)) ∧ ZaM 10 A B C N = some (.r0 b) ∧ Zdx 10 A B C b := by
 obtain ⟨b0, p0, q0⟩ := Zcl A 0 0 N N
 obtain ⟨b1, p1, q1, r1, t1⟩ := Zb5 B A 0 N N
 obtain ⟨b2, p2, q2, r2, t2⟩ := Zb5 C B B N N
 exact ZdF hN rfl rfl ⟨p0, q0⟩ (fun _ => ⟨p1, q1⟩) (fun _ _ => ⟨p2, q2⟩) (Zcf (by decide) (by decide) (by decide))
theorem is_11 (A B C : Int) (N : Nat) (hN : 4 ≤ N) : ∃ b, Z2 11 A B C N = some (.r0 (if b = true then 0 else 100)) ∧ ZaM 11 A B C N = some (.r0 b) ∧ Zdx 11 A B C b := by
 obtain ⟨b0, p0, q0⟩ := Zcl A 0 0 N N
 obtain ⟨b1, p1, q1, r1⟩ := fit_c B A 0 N N
 cases hb : b1 with
 | false => subst hb; exact ZdF (b2 := false) hN rfl rfl ⟨p0, q0⟩ (fun _ => ⟨p1, q1⟩) (fun _ e => by cases e) (Zcf (by decide) (by decide) (by decide))
 | true =>
  obtain ⟨b2, p2, q2⟩ := fit_e C B N N (r1 hb).1 (r1 hb).2
  subst hb
  exact ZdF hN rfl rfl ⟨p0, q0⟩ (fun _ => ⟨p1, q1⟩) (fun _ _ => ⟨p2, q2⟩) (Zcf (by decide) (by decide) (by decide))
theorem is_12 (A B C : Int) (N : Nat) (hN : 4 ≤ N) : ∃ b, Z2 12 A B C N = some (.r0 (if b = true then 0 else 100)) ∧ ZaM 12 A B C N = some (.r0 b) ∧ Zdx 12 A B C b := by
 obtain ⟨b0, p0, q0⟩ := Zcl A 0 0 N N
 obtain ⟨b1, p1, q1, r1, t1⟩ := Zb5 B A 0 N N
 obtain ⟨b2, p2, q2, r2, t2⟩ := Zb5 C B B N N
 exact ZdF hN rfl rfl ⟨p0, q0⟩ (fun _ => ⟨p1, q1⟩) (fun _ _ => ⟨p2, q2⟩) (Zcf (by decide) (by decide) (by decide))
theorem is_13 (A B C : Int) (N : Nat) (hN : 4 ≤ N) : ∃ b, Z2 13 A B C N = some (.r0 (if b = true then 0 else 100)) ∧ ZaM 13 A B C N = some (.r0 b) ∧ Zdx 13 A B C b := by
 obtain ⟨b0, p0, q0⟩ := Zcl A 0 0 N N
 obtain ⟨b1, p1, q1⟩ := Zcl B A 0 N N
 obtain ⟨b2, p2, q2⟩ := Ztn C B B N N
 exact ZdF hN rfl rfl ⟨p0, q0⟩ (fun _ => ⟨p1, q1⟩) (fun _ _ => ⟨p2, q2⟩) (Zcf (by decide) (by decide) (by decide))
theorem is_14 (A B C : Int) (N : Nat) (hN : 4 ≤ N) : ∃ b, Z2 14 A B C N = some (.r0 (if b = true then 0 else 100)) ∧ ZaM 14 A B C N = some (.r0 b) ∧ Zdx 14 A B C b := by
 obtain ⟨b0, p0, q0⟩ := Zcl A 0 0 N N
 obtain ⟨b1, p1, q1⟩ := Ztn B A 0 N N
 obtain ⟨b2, p2, q2⟩ := Zcl C B B N N
 exact ZdF hN rfl rfl ⟨p0, q0⟩ (fun _ => ⟨p1, q1⟩) (fun _ _ => ⟨p2, q2⟩) (Zcf (by decide) (by decide) (by decide))
theorem is_15 (A B C : Int) (N : Nat) (hN : 4 ≤ N) : ∃ b, Z2 15 A B C N = some (.r0 (if b = true then 0 else 100)) ∧ ZaM 15 A B C N = some (.r0 b) ∧ Zdx 15 A B C b := by
 obtain ⟨b0, p0, q0, r0, t0⟩ := Zb5 A 0 0 N N
 obtain ⟨b1, p1, q1, r1, t1⟩ := Zb5 B A 0 N N
 obtain ⟨b2, p2, q2, r2, t2⟩ := Zb5 C B B N N
 exact ZdF hN rfl rfl ⟨p0, q0⟩ (fun _ => ⟨p1, q1⟩) (fun _ _ => ⟨p2, q2⟩) ⟨fun e => absurd e (by decide), fun e => absurd e (by decide), fun _ => by simp only [Bool.and_eq_true]; exact ⟨fun h => ⟨r0 h.1.1, r1 h.1.2, r2 h.2⟩, fun h => ⟨⟨t0 h.1, t1 h.2.1⟩, t2 h.2.2⟩⟩⟩
theorem is_16 (A B C : Int) (N : Nat) (hN : 4 ≤ N) : ∃ b, Z2 16 A B C N = some (.r0 (if b = true then 0 else 100)) ∧ ZaM 16 A B C N = some (.r0 b) ∧ Zdx 16 A B C b := by
 obtain ⟨b0, p0, q0, r0, t0⟩ := Zb5 A 0 0 N N
 obtain ⟨b1, p1, q1, r1, t1⟩ := Zb5 B A 0 N N
 obtain ⟨b2, p2, q2, r2, t2⟩ := Zb5 C B B N N
 exact ZdF hN rfl rfl ⟨p0, q0⟩ (fun _ => ⟨p1, q1⟩) (fun _ _ => ⟨p2, q2⟩) (Zcf (by decide) (by decide) (by decide))
theorem is_17 (A B C : Int) (N : Nat) (hN : 4 ≤ N) : ∃ b, Z2 17 A B C N = some (.r0 (if b = true then 0 else 100)) ∧ ZaM 17 A B C N = some (.r0 b) ∧ Zdx 17 A B C b := by
 obtain ⟨b0, p0, q0, r0, t0⟩ := Zb5 A 0 0 N N
 obtain ⟨b1, p1, q1, r1, t1⟩ := Zb5 B A 0 N N
 obtain ⟨b2, p2, q2, r2, t2⟩ := Zb5 C B B N N
 exact ZdF hN rfl rfl ⟨p0, q0⟩ (fun _ => ⟨p1, q1⟩) (fun _ _ => ⟨p2, q2⟩) (Zcf (by decide) (by decide) (by decide))
theorem is_18 (A B C : Int) (N : Nat) (hN : 4 ≤ N) : ∃ b, Z2 18 A B C N = some (.r0 (if b = true then 0 else 100)) ∧ ZaM 18 A B C N = some (.r0 b) ∧ Zdx 18 A B C b := by
 obtain ⟨b0, p0, q0, r0, t0⟩ := Zb5 A 0 0 N N
 obtain ⟨b1, p1, q1, r1, t1⟩ := Zb5 B A 0 N N
 obtain ⟨b2, p2, q2, r2, t2⟩ := Zb5 C B B N N
 exact ZdF hN rfl rfl ⟨p0, q0⟩ (fun _ => ⟨p1, q1⟩) (fun _ _ => ⟨p2, q2⟩) (Zcf (by decide) (by decide) (by decide))
theorem is_19 (A B C : Int) (N : Nat) (hN : 4 ≤ N) : ∃ b, Z2 19 A B C N = some (.r0 (if b = true then 0 else 100)) ∧ ZaM 19 A B C N = some (.r0 b) ∧ Zdx 19 A B C b := by
 obtain ⟨b0, p0, q0⟩ := Zcl A 0 0 N N
 obtain ⟨b1, p1, q1, r1, t1⟩ := Zb5 B A 0 N N
 obtain ⟨b2, p2, q2, r2, t2⟩ := Zb5 C B B N N
 exact ZdF hN rfl rfl ⟨p0, q0⟩ (fun _ => ⟨p1, q1⟩) (fun _ _ => ⟨p2, q2⟩) (Zcf (by decide) (by decide) (by decide))
theorem is_20 (A B C : Int) (N : Nat) (hN : 4 ≤ N) : ∃ b, Z2 20 A B C N = some (.r0 (if b = true then 0 else 100)) ∧ ZaM 20 A B C N = some (.r0 b) ∧ Zdx 20 A B C b := by
 obtain ⟨b0, p0, q0, r0, t0⟩ := Zb5 A 0 0 N N
 obtain ⟨b1, p1, q1, r1, t1⟩ := Zb5 B A 0 N N
 obtain ⟨b2, p2, q2, r2, t2⟩ := Zb5 C B B N N
 exact ZdF hN rfl rfl ⟨p0, q0⟩ (fun _ => ⟨p1, q1⟩) (fun _ _ => ⟨p2, q2⟩) (Zcf (by decide) (by decide) (by decide))
theorem ZsX (op A B C : Int) (N : Nat) (hN : 4 ≤ N) : ∃ b, Z2 op A B C N = some (.r0 (if b = true then 0 else 100)) ∧ ZaM op A B C N = some (.r0 b) ∧ Zdx op A B C b := by
 by_cases h0 : op ≤ 0 ∨ 21 ≤ op
 ·refine ⟨false, ?_, ?_, Zcf (by omega) (by omega) (by omega)⟩
  ·refine Zkm ?_
   have : Zay op N = some .r0 := by
    unfold Zay
    repeat' (first | rfl | (refine ZdO (fun _ => ?_) (fun _ => ?_)) | (exfalso; omega))
   unfold ZeC
   rw [this]; rfl
  ·have : ZhI op N = some (.r0 0 0 0 false) := by
    unfold ZhI
    repeat' (first | rfl | (refine ZdO (fun _ => ?_) (fun _ => ?_)) | (exfalso; omega))
   unfold ZaM
   rw [this]; rfl
 ·have h : op = 1 ∨ op = 2 ∨ op = 3 ∨ op = 4 ∨ op = 5 ∨ op = 6 ∨ op = 7 ∨ op = 8 ∨ op = 9 ∨ op = 10 ∨ op = 11 ∨ op = 12 ∨ op = 13 ∨ op = 14 ∨ op = 15 ∨ op = 16 ∨ op = 17 ∨ op = 18 ∨ op = 19 ∨ op = 20 := by omega
  rcases h with rfl | rfl | rfl | rfl | rfl | rfl | rfl | rfl | rfl | rfl | rfl | rfl | rfl | rfl | rfl | rfl | rfl | rfl | rfl | rfl
  ·exact is_1 A B C N hN
  ·exact is_2 A B C N hN
  ·exact is_3 A B C N hN
  ·exact is_4 A B C N hN
  ·exact is_5 A B C N hN
  ·exact is_6 A B C N hN
  ·exact is_7 A B C N hN
  ·exact is_8 A B C N hN
  ·exact is_9 A B C N hN
  ·exact is_10 A B C N hN
  ·exact is_11 A B C N hN
  ·exact is_12 A B C N hN
  ·exact is_13 A B C N hN
  ·exact is_14 A B C N hN
  ·exact is_15 A B C N hN
  ·exact is_16 A B C N hN
  ·exact is_17 A B C N hN
  ·exact is_18 A B C N hN
  ·exact is_19 A B C N hN
  ·exact is_20 A B C N hN
end Ev
end Go.Proofs.Ytpgbennpiihajaa
