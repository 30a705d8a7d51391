/- An instruction may be: Zer answers. -/
import Derived.Test.YtjfmadhcbgdakaaPbc
namespace Go.Proofs.Ytjfmadhcbgdakaa
open Go.RowKit
namespace Ev
set_option linter.unusedVariables false
set_option linter.unusedSimpArgs false
theorem Zeq {op A B C : Int} {N s0 s1 s2 : Nat} {b0 b1 b2 : Bool} (hN : 4 ≤ N) (h0 : Zz s0 A 0 N = some (.r0 b0)) (h1 : b0 = true → Zz s1 B A N = some (.r0 b1)) (h2 : b0 = true → b1 = true → Zz s2 C B N = some (.r0 b2)) :
  ZaP (Zc1 op A B C N) N (.h1m0 s0 s1 s2) = some (.r0 (if (b0 && b1 && b2) = true then 0 else 100)) := by
 obtain ⟨n, rfl⟩ : ∃ n, N = n + 4 := ⟨N - 4, by omega⟩
 cases b0 with
 | false =>
  refine ZO ?_
  show ZcO op A B C (n + 4) s0 s1 s2 = _
  unfold ZcO
  rw [h0]; rfl
 | true =>
  refine (Zy (y := .h1m1 s0 s1 s2) ?_).trans ?_
  ·show ZcO op A B C (n + 4) s0 s1 s2 = _
   unfold ZcO
   rw [h0]; rfl
  ·cases b1 with
   | false =>
    refine ZO ?_
    show ZcP op A B C (n + 4) s0 s1 s2 = _
    unfold ZcP
    rw [h1 rfl]; rfl
   | true =>
    refine (Zy (y := .h1m2 s0 s1 s2) ?_).trans ?_
    ·show ZcP op A B C (n + 4) s0 s1 s2 = _
     unfold ZcP
     rw [h1 rfl]; rfl
    ·cases b2 with
     | false =>
      refine ZO ?_
      show ZcQ op A B C (n + 4) s0 s1 s2 = _
      unfold ZcQ
      rw [h2 rfl rfl]; rfl
     | true =>
      refine (Zy (y := .h1m3 s0 s1 s2) ?_).trans ?_
      ·show ZcQ op A B C (n + 4) s0 s1 s2 = _
       unfold ZcQ
       rw [h2 rfl rfl]; rfl
      ·refine ZO ?_
       show Zfg op A B C (n + 4) s0 s1 s2 = _
       rfl
theorem is3 {op A B C t0 t1 t2 : Int} {N : Nat} {b0 b1 b2 : Bool} (hH : Zc3 op N = some (.r0 t0 t1 t2 true)) (h0 : Zax t0 A 0 N = some (.r0 b0)) (h1 : b0 = true → Zax t1 B 0 N = some (.r0 b1)) (h2 : b0 = true → b1 = true → Zax t2 C B N = some (.r0 b2)) :
  ZS op A B C N = some (.r0 (b0 && b1 && b2)) := by
 unfold ZS
 rw [hH]
 show (Zax t0 A 0 N).bind _ = _
 rw [h0]
 cases b0 with
 | false => rfl
 | true =>
  show (Zax t1 B 0 N).bind _ = _
  rw [h1 rfl]
  cases b1 with
  | false => rfl
  | true =>
   show (Zax t2 C B N).bind _ = _
   rw [h2 rfl rfl]
   cases b2 <;> rfl
def ZdS (op A B C : Int) (b : Bool) : Prop := (op = 8 → b = true → 0 ≤ A ∧ A ≤ 512) ∧ (op = 9 → b = true → 0 ≤ B ∧ B ≤ 512) ∧ (op = 15 → (b = true ↔ A = 0 ∧ B = 0 ∧ C = 0))
theorem Zer {op A B C t0 t1 t2 : Int} {N s0 s1 s2 : Nat} {b0 b1 b2 : Bool} (hN : 4 ≤ N) (hI : Zam op A B C N = some (.inl (.h1m0 s0 s1 s2))) (hH : Zc3 op N = some (.r0 t0 t1 t2 true))
  (h0 : Zz s0 A 0 N = some (.r0 b0) ∧ Zax t0 A 0 N = some (.r0 b0)) (h1 : b0 = true → Zz s1 B A N = some (.r0 b1) ∧ Zax t1 B 0 N = some (.r0 b1)) (h2 : b0 = true → b1 = true → Zz s2 C B N = some (.r0 b2) ∧ Zax t2 C B N = some (.r0 b2))
  (hf : ZdS op A B C (b0 && b1 && b2)) : ∃ b, Z6 op A B C N = some (.r0 (if b = true then 0 else 100)) ∧ ZS op A B C N = some (.r0 b) ∧ ZdS op A B C b :=
 ⟨b0 && b1 && b2, (ZaC hI).trans (Zeq hN h0.1 (fun e => (h1 e).1) (fun e f => (h2 e f).1)), is3 hH h0.2 (fun e => (h1 e).2) (fun e f => (h2 e f).2), hf⟩
theorem Zcq {op A B C : Int} {b : Bool} (h8 : op ≠ 8) (h9 : op ≠ 9) (h15 : op ≠ 15) : ZdS op A B C b := ⟨fun e => absurd e h8, fun e => absurd e h9, fun e => absurd e h15⟩
theorem is_1 (A B C : Int) (N : Nat) (hN : 4 ≤ N) : ∃ b, Z6 1 A B C N = some (.r0 (if b = true then 0 else 100)) ∧ ZS 1 A B C N = some (.r0 b) ∧ ZdS 1 A B C b := by
 obtain ⟨b0, p0, q0⟩ := ZcL A 0 0 N N
 obtain ⟨b1, p1, q1⟩ := fit_f B A 0 N N
 obtain ⟨b2, p2, q2, r2, t2⟩ := Zcg C B B N N
 exact Zer hN rfl rfl ⟨p0, q0⟩ (fun _ => ⟨p1, q1⟩) (fun _ _ => ⟨p2, q2⟩) (Zcq (by decide) (by decide) (by decide))
theorem is_2 (A B C : Int) (N : Nat) (hN : 4 ≤ N) : ∃ b, Z6 2 A B C N = some (.r0 (if b = true then 0 else 100)) ∧ ZS 2 A B C N = some (.r0 b) ∧ ZdS 2 A B C b := by
 obtain ⟨b0, p0, q0⟩ := ZcL A 0 0 N N
 obtain ⟨b1, p1, q1, r1, t1⟩ := Zcg B A 0 N N
 obtain ⟨b2, p2, q2, r2, t2⟩ := Zcg C B B N N
 exact Zer hN rfl rfl ⟨p0, q0⟩ (fun _ => ⟨p1, q1⟩) (fun _ _ => ⟨p2, q2⟩) (Zcq (by decide) (by decide) (by decide))
theorem is_3 (A B C : Int) (N : Nat) (hN : 4 ≤ N) : ∃ b, Z6 3 A B C N = some (.r0 (if b = true then 0 else 100)) ∧ ZS 3 A B C N = some (.r0 b) ∧ ZdS 3 A B C b := by
 obtain ⟨b0, p0, q0⟩ := ZcL A 0 0 N N
 obtain ⟨b1, p1, q1⟩ := ZcL B A 0 N N
 obtain ⟨b2, p2, q2, r2, t2⟩ := Zcg C B B N N
 exact Zer hN rfl rfl ⟨p0, q0⟩ (fun _ => ⟨p1, q1⟩) (fun _ _ => ⟨p2, q2⟩) (Zcq (by decide) (by decide) (by decide))
theorem is_4 (A B C : Int) (N : Nat) (hN : 4 ≤ N) : ∃ b, Z6 4 A B C N = some (.r0 (if b = true then 0 else 100)) ∧ ZS 4 A B C N = some (.r0 b) ∧ ZdS 4 A B C b := by
 obtain ⟨b0, p0, q0⟩ := ZcL A 0 0 N N
 obtain ⟨b1, p1, q1⟩ := ZcL B A 0 N N
 obtain ⟨b2, p2, q2⟩ := ZcL C B B N N
 exact Zer hN rfl rfl ⟨p0, q0⟩ (fun _ => ⟨p1, q1⟩) (fun _ _ => ⟨p2, q2⟩) (Zcq (by decide) (by decide) (by decide))
theorem is_5 (A B C : Int) (N : Nat) (hN : 4 ≤ N) : ∃ b, Z6 5 A B C N = some (.r0 (if b = true then 0 else 100)) ∧ ZS 5 A B C N = some (.r0 b) ∧ ZdS 5 A B C b := by
 obtain ⟨b0, p0, q0⟩ := ZcL A 0 0 N N
 obtain ⟨b1, p1, q1⟩ := ZcL B A 0 N N
 obtain ⟨b2, p2, q2⟩ := ZcL C B B N N
 exact Zer hN rfl rfl ⟨p0, q0⟩ (fun _ => ⟨p1, q1⟩) (fun _ _ => ⟨p2, q2⟩) (Zcq (by decide) (by decide) (by decide))
theorem is_6 (A B C : Int) (N : Nat) (hN : 4 ≤ N) : ∃ b, Z6 6 A B C N = some (.r0 (if b = true then 0 else 100)) ∧ ZS 6 A B C N = some (.r0 b) ∧ ZdS 6 A B C b := by
 obtain ⟨b0, p0, q0⟩ := ZcL A 0 0 N N
 obtain ⟨b1, p1, q1⟩ := ZcL B A 0 N N
 obtain ⟨b2, p2, q2⟩ := ZcL C B B N N
 exact Zer hN rfl rfl ⟨p0, q0⟩ (fun _ => ⟨p1, q1⟩) (fun _ _ => ⟨p2, q2⟩) (Zcq (by decide) (by decide) (by decide))
theorem is_7 (A B C : Int) (N : Nat) (hN : 4 ≤ N) : ∃ b, Z6 7 A B C N = some (.r0 (if b = true then 0 else 100)) ∧ ZS 7 A B C N = some (.r0 b) ∧ ZdS 7 A B C b := by
 obtain ⟨b0, p0, q0⟩ := ZcL A 0 0 N N
 obtain ⟨b1, p1, q1⟩ := ZcL B A 0 N N
 obtain ⟨b2, p2, q2⟩ := ZcL C B B N N
 exact Zer hN rfl rfl ⟨p0, q0⟩ (fun _ => ⟨p1, q1⟩) (fun _ _ => ⟨p2, q2⟩) (Zcq (by decide) (by decide) (by decide))
theorem is_8 (A B C : Int) (N : Nat) (hN : 4 ≤ N) : ∃ b, Z6 8 A B C N = some (.r0 (if b = true then 0 else 100)) ∧ ZS 8 A B C N = some (.r0 b) ∧ ZdS 8 A B C b := by
 obtain ⟨b0, p0, q0, r0⟩ := Zvv A 0 0 N N
 obtain ⟨b1, p1, q1, r1, t1⟩ := Zcg B A 0 N N
 obtain ⟨b2, p2, q2, r2, t2⟩ := Zcg C B B N N
 exact Zer hN rfl rfl ⟨p0, q0⟩ (fun _ => ⟨p1, q1⟩) (fun _ _ => ⟨p2, q2⟩) ⟨fun _ h => by simp only [Bool.and_eq_true] at h; exact r0 h.1.1, fun e => absurd e (by decide), fun e => absurd e (by decide)⟩
theorem is_9 (A B C : Int) (N : Nat) (hN : 4 ≤ N) : ∃ b, Z6 9 A B C N = some (.r0 (if b = true then 0 else 100)) ∧ ZS 9 A B C N = some (.r0 b) ∧ ZdS 9 A B C b := by
 obtain ⟨b0, p0, q0⟩ := ZcL A 0 0 N N
 obtain ⟨b1, p1, q1, r1⟩ := Zvv B A 0 N N
 obtain ⟨b2, p2, q2, r2, t2⟩ := Zcg C B B N N
 exact Zer hN rfl rfl ⟨p0, q0⟩ (fun _ => ⟨p1, q1⟩) (fun _ _ => ⟨p2, q2⟩) ⟨fun e => absurd e (by decide), fun _ h => by simp only [Bool.and_eq_true] at h; exact r1 h.1.2, fun e => absurd e (by decide)⟩
theorem is_10 (A B C : Int) (N : Nat) (hN : 4 ≤ N) : ∃ b, Z6 10 A B C N = some (.r0 (if b = true then 0 else 100)) ∧ ZS 10 A B C N = some (.r0 b) ∧ ZdS 10 A B C b := by
 obtain ⟨b0, p0, q0⟩ := ZcL A 0 0 N N
 obtain ⟨b1, p1, q1, r1, t1⟩ := Zcg B A 0 N N
 obtain ⟨b2, p2, q2, r2, t2⟩ := Zcg C B B N N
 exact Zer hN rfl rfl ⟨p0, q0⟩ (fun _ => ⟨p1, q1⟩) (fun _ _ => ⟨p2, q2⟩) (Zcq (by decide) (by decide) (by decide))
theorem is_11 (A B C : Int) (N : Nat) (hN : 4 ≤ N) : ∃ b, Z6 11 A B C N = some (.r0 (if b = true then 0 else 100)) ∧ ZS 11 A B C N = some (.r0 b) ∧ ZdS 11 A B C b := by
 obtain ⟨b0, p0, q0⟩ := ZcL A 0 0 N N
 obtain ⟨b1, p1, q1, r1⟩ := fit_c B A 0 N N
 cases hb : b1 with
 | false => subst hb; exact Zer (b2 := false) hN rfl rfl ⟨p0, q0⟩ (fun _ => ⟨p1, q1⟩) (fun _ e => by cases e) (Zcq (by decide) (by decide) (by decide))
 | true =>
  obtain ⟨b2, p2, q2⟩ := fit_e C B N N (r1 hb).1 (r1 hb).2
  subst hb
  exact Zer hN rfl rfl ⟨p0, q0⟩ (fun _ => ⟨p1, q1⟩) (fun _ _ => ⟨p2, q2⟩) (Zcq (by decide) (by decide) (by decide))
theorem is_12 (A B C : Int) (N : Nat) (hN : 4 ≤ N) : ∃ b, Z6 12 A B C N = some (.r0 (if b = true then 0 else 100)) ∧ ZS 12 A B C N = some (.r0 b) ∧ ZdS 12 A B C b := by
 obtain ⟨b0, p0, q0⟩ := ZcL A 0 0 N N
 obtain ⟨b1, p1, q1, r1, t1⟩ := Zcg B A 0 N N
 obtain ⟨b2, p2, q2, r2, t2⟩ := Zcg C B B N N
 exact Zer hN rfl rfl ⟨p0, q0⟩ (fun _ => ⟨p1, q1⟩) (fun _ _ => ⟨p2, q2⟩) (Zcq (by decide) (by decide) (by decide))
theorem is_13 (A B C : Int) (N : Nat) (hN : 4 ≤ N) : ∃ b, Z6 13 A B C N = some (.r0 (if b = true then 0 else 100)) ∧ ZS 13 A B C N = some (.r0 b) ∧ ZdS 13 A B C b := by
 obtain ⟨b0, p0, q0⟩ := ZcL A 0 0 N N
 obtain ⟨b1, p1, q1⟩ := ZcL B A 0 N N
 obtain ⟨b2, p2, q2⟩ := Zvu C B B N N
 exact Zer hN rfl rfl ⟨p0, q0⟩ (fun _ => ⟨p1, q1⟩) (fun _ _ => ⟨p2, q2⟩) (Zcq (by decide) (by decide) (by decide))
theorem is_14 (A B C : Int) (N : Nat) (hN : 4 ≤ N) : ∃ b, Z6 14 A B C N = some (.r0 (if b = true then 0 else 100)) ∧ ZS 14 A B C N = some (.r0 b) ∧ ZdS 14 A B C b := by
 obtain ⟨b0, p0, q0⟩ := ZcL A 0 0 N N
 obtain ⟨b1, p1, q1⟩ := Zvu B A 0 N N
 obtain ⟨b2, p2, q2⟩ := ZcL C B B N N
 exact Zer hN rfl rfl ⟨p0, q0⟩ (fun _ => ⟨p1, q1⟩) (fun _ _ => ⟨p2, q2⟩) (Zcq (by decide) (by decide) (by decide))
theorem is_15 (A B C : Int) (N : Nat) (hN : 4 ≤ N) : ∃ b, Z6 15 A B C N = some (.r0 (if b = true then 0 else 100)) ∧ ZS 15 A B C N = some (.r0 b) ∧ ZdS 15 A B C b := by
 obtain ⟨b0, p0, q0, r0, t0⟩ := Zcg A 0 0 N N
 obtain ⟨b1, p1, q1, r1, t1⟩ := Zcg B A 0 N N
 obtain ⟨b2, p2, q2, r2, t2⟩ := Zcg C B B N N
 exact Zer hN rfl rfl ⟨p0, q0⟩ (fun _ => ⟨p1, q1⟩) (fun _ _ => ⟨p2, q2⟩) ⟨fun e => absurd e (by decide), fun e => absurd e (by decide), fun _ => by simp only [Bool.and_eq_true]; exact ⟨fun h => ⟨r0 h.1.1, r1 h.1.2, r2 h.2⟩, fun h => ⟨⟨t0 h.1, t1 h.2.1⟩, t2 h.2.2⟩⟩⟩
theorem is_16 (A B C : Int) (N : Nat) (hN : 4 ≤ N) : ∃ b, Z6 16 A B C N = some (.r0 (if b = true then 0 else 100)) ∧ ZS 16 A B C N = some (.r0 b) ∧ ZdS 16 A B C b := by
 obtain ⟨b0, p0, q0, r0, t0⟩ := Zcg A 0 0 N N
 obtain ⟨b1, p1, q1, r1, t1⟩ := Zcg B A 0 N N
 obtain ⟨b2, p2, q2, r2, t2⟩ := Zcg C B B N N
 exact Zer hN rfl rfl ⟨p0, q0⟩ (fun _ => ⟨p1, q1⟩) (fun _ _ => ⟨p2, q2⟩) (Zcq (by decide) (by decide) (by decide))
theorem is_17 (A B C : Int) (N : Nat) (hN : 4 ≤ N) : ∃ b, Z6 17 A B C N = some (.r0 (if b = true then 0 else 100)) ∧ ZS 17 A B C N = some (.r0 b) ∧ ZdS 17 A B C b := by
 obtain ⟨b0, p0, q0, r0, t0⟩ := Zcg A 0 0 N N
 obtain ⟨b1, p1, q1, r1, t1⟩ := Zcg B A 0 N N
 obtain ⟨b2, p2, q2, r2, t2⟩ := Zcg C B B N N
 exact Zer hN rfl rfl ⟨p0, q0⟩ (fun _ => ⟨p1, q1⟩) (fun _ _ => ⟨p2, q2⟩) (Zcq (by decide) (by decide) (by decide))
theorem is_18 (A B C : Int) (N : Nat) (hN : 4 ≤ N) : ∃ b, Z6 18 A B C N = some (.r0 (if b = true then 0 else 100)) ∧ ZS 18 A B C N = some (.r0 b) ∧ ZdS 18 A B C b := by
 obtain ⟨b0, p0, q0, r0, t0⟩ := Zcg A 0 0 N N
 obtain ⟨b1, p1, q1, r1, t1⟩ := Zcg B A 0 N N
 obtain ⟨b2, p2, q2, r2, t2⟩ := Zcg C B B N N
 exact Zer hN rfl rfl ⟨p0, q0⟩ (fun _ => ⟨p1, q1⟩) (fun _ _ => ⟨p2, q2⟩) (Zcq (by decide) (by decide) (by decide))
theorem is_19 (A B C : Int) (N : Nat) (hN : 4 ≤ N) : ∃ b, Z6 19 A B C N = some (.r0 (if b = true then 0 else 100)) ∧ ZS 19 A B C N = some (.r0 b) ∧ ZdS 19 A B C b := by
 obtain ⟨b0, p0, q0⟩ := ZcL A 0 0 N N
 obtain ⟨b1, p1, q1, r1, t1⟩ := Zcg B A 0 N N
 obtain ⟨b2, p2, q2, r2, t2⟩ := Zcg C B B N N
 exact Zer hN rfl rfl ⟨p0, q0⟩ (fun _ => ⟨p1, q1⟩) (fun _ _ => ⟨p2, q2⟩) (Zcq (by decide) (by decide) (by decide))
theorem is_20 (A B C : Int) (N : Nat) (hN : 4 ≤ N) : ∃ b, Z6 20 A B C N = some (.r0 (if b = true then 0 else 100)) ∧ ZS 20 A B C N = some (.r0 b) ∧ ZdS 20 A B C b := by
 obtain ⟨b0, p0, q0, r0, t0⟩ := Zcg A 0 0 N N
 obtain ⟨b1, p1, q1, r1, t1⟩ := Zcg B A 0 N N
 obtain ⟨b2, p2, q2, r2, t2⟩ := Zcg C B B N N
 exact Zer hN rfl rfl ⟨p0, q0⟩ (fun _ => ⟨p1, q1⟩) (fun _ _ => ⟨p2, q2⟩) (Zcq (by decide) (by decide) (by decide))
theorem ZoV (op A B C : Int) (N : Nat) (hN : 4 ≤ N) : ∃ b, Z6 op A B C N = some (.r0 (if b = true then 0 else 100)) ∧ ZS op A B C N = some (.r0 b) ∧ ZdS op A B C b := by
 by_cases h0 : op ≤ 0 ∨ 21 ≤ op
 ·refine ⟨false, ?_, ?_, Zcq (by omega) (by omega) (by omega)⟩
  ·refine ZdH ?_
   have : Zay op N = some .r0 := by
    unfold Zay
    repeat' (first | rfl | (refine ZuM (fun _ => ?_) (fun _ => ?_)) | (exfalso; omega))
   unfold Zam
   rw [this]; rfl
  ·have : Zc3 op N = some (.r0 0 0 0 false) := by
    unfold Zc3
    repeat' (first | rfl | (refine ZuM (fun _ => ?_) (fun _ => ?_)) | (exfalso; omega))
   unfold ZS
   rw [this]; rfl
 ·have h : op = 1 ∨ op = 2 ∨ op = 3 ∨ op = 4 ∨ op = 5 ∨ op = 6 ∨ op = 7 ∨ op = 8 ∨ op = 9 ∨ op = 10 ∨ op = 11 ∨ op = 12 ∨ op = 13 ∨ op = 14 ∨ op = 15 ∨ op = 16 ∨ op = 17 ∨ op = 18 ∨ op = 19 ∨ op = 20 := by omega
  rcases h with rfl | rfl | rfl | rfl | rfl | rfl | rfl | rfl | rfl | rfl | rfl | rfl | rfl | rfl | rfl | rfl | rfl | rfl | rfl | rfl
  ·exact is_1 A B C N hN
  ·exact is_2 A B C N hN
  ·exact is_3 A B C N hN
  ·exact is_4 A B C N hN
  ·exact is_5 A B C N hN
  ·exact is_6 A B C N hN
  ·exact is_7 A B C N hN
  ·exact is_8 A B C N hN
  ·exact is_9 A B C N hN
  ·exact is_10 A B C N hN
  ·exact is_11 A B C N hN
  ·exact is_12 A B C N hN
  ·exact is_13 A B C N hN
  ·exact is_14 A B C N hN
  ·exact is_15 A B C N hN
  ·exact is_16 A B C N hN
  ·exact is_17 A B C N hN
  ·exact is_18 A B C N hN
  ·exact is_19 A B C N hN
  ·exact is_20 A B C N hN
end Ev
end Go.Proofs.Ytjfmadhcbgdakaa
