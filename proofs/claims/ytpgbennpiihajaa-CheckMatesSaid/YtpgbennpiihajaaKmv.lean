/- An instruction may be: Zel answers. -/
import Derived.Test.YtpgbennpiihajaaKmu
namespace Go.Proofs.Ytpgbennpiihajaa
open Go.RowKit
namespace Ev
set_option linter.unusedVariables false
set_option linter.unusedSimpArgs false
theorem run3 {op A B C : Int} {N s0 s1 s2 : Nat} {b0 b1 b2 : Bool} (hN : 4 ≤ N) (h0 : ZI s0 A 0 N = some (.r0 b0)) (h1 : b0 = true → ZI s1 B A N = some (.r0 b1)) (h2 : b0 = true → b1 = true → ZI s2 C B N = some (.r0 b2)) :
  Zcn (Zc8 op A B C N) N (.h1m0 s0 s1 s2) = some (.r0 (if (b0 && b1 && b2) = true then 0 else 100)) := by
 obtain ⟨n, rfl⟩ : ∃ n, N = n + 4 := ⟨N - 4, by omega⟩
 cases b0 with
 | false =>
  refine Za3 ?_
  show ZcS op A B C (n + 4) s0 s1 s2 = _
  unfold ZcS
  rw [h0]; rfl
 | true =>
  refine (Zau (y := .h1m1 s0 s1 s2) ?_).trans ?_
  ·show ZcS op A B C (n + 4) s0 s1 s2 = _
   unfold ZcS
   rw [h0]; rfl
  ·cases b1 with
   | false =>
    refine Za3 ?_
    show ZcT op A B C (n + 4) s0 s1 s2 = _
    unfold ZcT
    rw [h1 rfl]; rfl
   | true =>
    refine (Zau (y := .h1m2 s0 s1 s2) ?_).trans ?_
    ·show ZcT op A B C (n + 4) s0 s1 s2 = _
     unfold ZcT
     rw [h1 rfl]; rfl
    ·cases b2 with
     | false =>
      refine Za3 ?_
      show ZcU op A B C (n + 4) s0 s1 s2 = _
      unfold ZcU
      rw [h2 rfl rfl]; rfl
     | true =>
      refine (Zau (y := .h1m3 s0 s1 s2) ?_).trans ?_
      ·show ZcU op A B C (n + 4) s0 s1 s2 = _
       unfold ZcU
       rw [h2 rfl rfl]; rfl
      ·refine Za3 ?_
       show Zf2 op A B C (n + 4) s0 s1 s2 = _
       rfl
theorem is3 {op A B C t0 t1 t2 : Int} {N : Nat} {b0 b1 b2 : Bool} (hH : ZeJ op N = some (.r0 t0 t1 t2 true)) (h0 : Zav t0 A 0 N = some (.r0 b0)) (h1 : b0 = true → Zav t1 B 0 N = some (.r0 b1)) (h2 : b0 = true → b1 = true → Zav t2 C B N = some (.r0 b2)) :
  Zaz op A B C N = some (.r0 (b0 && b1 && b2)) := by
 unfold Zaz
 rw [hH]
 show (Zav t0 A 0 N).bind _ = _
 rw [h0]
 cases b0 with
 | false => rfl
 | true =>
  show (Zav t1 B 0 N).bind _ = _
  rw [h1 rfl]
  cases b1 with
  | false => rfl
  | true =>
   show (Zav t2 C B N).bind _ = _
   rw [h2 rfl rfl]
   cases b2 <;> rfl
def Zee (op A B C : Int) (b : Bool) : Prop := (op = 8 → b = true → 0 ≤ A ∧ A ≤ 512) ∧ (op = 9 → b = true → 0 ≤ B ∧ B ≤ 512) ∧ (op = 15 → (b = true ↔ A = 0 ∧ B = 0 ∧ C = 0))
theorem Zel {op A B C t0 t1 t2 : Int} {N s0 s1 s2 : Nat} {b0 b1 b2 : Bool} (hN : 4 ≤ N) (hI : ZfB op A B C N = some (.inl (.h1m0 s0 s1 s2))) (hH : ZeJ op N = some (.r0 t0 t1 t2 true))
  (h0 : ZI s0 A 0 N = some (.r0 b0) ∧ Zav t0 A 0 N = some (.r0 b0)) (h1 : b0 = true → ZI s1 B A N = some (.r0 b1) ∧ Zav t1 B 0 N = some (.r0 b1)) (h2 : b0 = true → b1 = true → ZI s2 C B N = some (.r0 b2) ∧ Zav t2 C B N = some (.r0 b2))
  (hf : Zee op A B C (b0 && b1 && b2)) : ∃ b, ZG op A B C N = some (.r0 (if b = true then 0 else 100)) ∧ Zaz op A B C N = some (.r0 b) ∧ Zee op A B C b :=
 ⟨b0 && b1 && b2, (ZfK hI).trans (run3 hN h0.1 (fun e => (h1 e).1) (fun e f => (h2 e f).1)), is3 hH h0.2 (fun e => (h1 e).2) (fun e f => (h2 e f).2), hf⟩
theorem Zc3 {op A B C : Int} {b : Bool} (h8 : op ≠ 8) (h9 : op ≠ 9) (h15 : op ≠ 15) : Zee op A B C b := ⟨fun e => absurd e h8, fun e => absurd e h9, fun e => absurd e h15⟩
theorem is_1 (A B C : Int) (N : Nat) (hN : 4 ≤ N) : ∃ b, ZG 1 A B C N = some (.r0 (if b = true then 0 else 100)) ∧ Zaz 1 A B C N = some (.r0 b) ∧ Zee 1 A B C b := by
 obtain ⟨b0, p0, q0⟩ := ZcR A 0 0 N N
 obtain ⟨b1, p1, q1⟩ := fit_f B A 0 N N
 obtain ⟨b2, p2, q2, r2, t2⟩ := Zck C B B N N
 exact Zel hN rfl rfl ⟨p0, q0⟩ (fun _ => ⟨p1, q1⟩) (fun _ _ => ⟨p2, q2⟩) (Zc3 (by decide) (by decide) (by decide))
theorem is_2 (A B C : Int) (N : Nat) (hN : 4 ≤ N) : ∃ b, ZG 2 A B C N = some (.r0 (if b = true then 0 else 100)) ∧ Zaz 2 A B C N = some (.r0 b) ∧ Zee 2 A B C b := by
 obtain ⟨b0, p0, q0⟩ := ZcR A 0 0 N N
 obtain ⟨b1, p1, q1, r1, t1⟩ := Zck B A 0 N N
 obtain ⟨b2, p2, q2, r2, t2⟩ := Zck C B B N N
 exact Zel hN rfl rfl ⟨p0, q0⟩ (fun _ => ⟨p1, q1⟩) (fun _ _ => ⟨p2, q2⟩) (Zc3 (by decide) (by decide) (by decide))
theorem is_3 (A B C : Int) (N : Nat) (hN : 4 ≤ N) : ∃ b, ZG 3 A B C N = some (.r0 (if b = true then 0 else 100)) ∧ Zaz 3 A B C N = some (.r0 b) ∧ Zee 3 A B C b := by
 obtain ⟨b0, p0, q0⟩ := ZcR A 0 0 N N
 obtain ⟨b1, p1, q1⟩ := ZcR B A 0 N N
 obtain ⟨b2, p2, q2, r2, t2⟩ := Zck C B B N N
 exact Zel hN rfl rfl ⟨p0, q0⟩ (fun _ => ⟨p1, q1⟩) (fun _ _ => ⟨p2, q2⟩) (Zc3 (by decide) (by decide) (by decide))
theorem is_4 (A B C : Int) (N : Nat) (hN : 4 ≤ N) : ∃ b, ZG 4 A B C N = some (.r0 (if b = true then 0 else 100)) ∧ Zaz 4 A B C N = some (.r0 b) ∧ Zee 4 A B C b := by
 obtain ⟨b0, p0, q0⟩ := ZcR A 0 0 N N
 obtain ⟨b1, p1, q1⟩ := ZcR B A 0 N N
 obtain ⟨b2, p2, q2⟩ := ZcR C B B N N
 exact Zel hN rfl rfl ⟨p0, q0⟩ (fun _ => ⟨p1, q1⟩) (fun _ _ => ⟨p2, q2⟩) (Zc3 (by decide) (by decide) (by decide))
theorem is_5 (A B C : Int) (N : Nat) (hN : 4 ≤ N) : ∃ b, ZG 5 A B C N = some (.r0 (if b = true then 0 else 100)) ∧ Zaz 5 A B C N = some (.r0 b) ∧ Zee 5 A B C b := by
 obtain ⟨b0, p0, q0⟩ := ZcR A 0 0 N N
 obtain ⟨b1, p1, q1⟩ := ZcR B A 0 N N
 obtain ⟨b2, p2, q2⟩ := ZcR C B B N N
 exact Zel hN rfl rfl ⟨p0, q0⟩ (fun _ => ⟨p1, q1⟩) (fun _ _ => ⟨p2, q2⟩) (Zc3 (by decide) (by decide) (by decide))
theorem is_6 (A B C : Int) (N : Nat) (hN : 4 ≤ N) : ∃ b, ZG 6 A B C N = some (.r0 (if b = true then 0 else 100)) ∧ Zaz 6 A B C N = some (.r0 b) ∧ Zee 6 A B C b := by
 obtain ⟨b0, p0, q0⟩ := ZcR A 0 0 N N
 obtain ⟨b1, p1, q1⟩ := ZcR B A 0 N N
 obtain ⟨b2, p2, q2⟩ := ZcR C B B N N
 exact Zel hN rfl rfl ⟨p0, q0⟩ (fun _ => ⟨p1, q1⟩) (fun _ _ => ⟨p2, q2⟩) (Zc3 (by decide) (by decide) (by decide))
theorem is_7 (A B C : Int) (N : Nat) (hN : 4 ≤ N) : ∃ b, ZG 7 A B C N = some (.r0 (if b = true then 0 else 100)) ∧ Zaz 7 A B C N = some (.r0 b) ∧ Zee 7 A B C b := by
 obtain ⟨b0, p0, q0⟩ := ZcR A 0 0 N N
 obtain ⟨b1, p1, q1⟩ := ZcR B A 0 N N
 obtain ⟨b2, p2, q2⟩ := ZcR C B B N N
 exact Zel hN rfl rfl ⟨p0, q0⟩ (fun _ => ⟨p1, q1⟩) (fun _ _ => ⟨p2, q2⟩) (Zc3 (by decide) (by decide) (by decide))
theorem is_8 (A B C : Int) (N : Nat) (hN : 4 ≤ N) : ∃ b, ZG 8 A B C N = some (.r0 (if b = true then 0 else 100)) ∧ Zaz 8 A B C N = some (.r0 b) ∧ Zee 8 A B C b := by
 obtain ⟨b0, p0, q0, r0⟩ := ZvY A 0 0 N N
 obtain ⟨b1, p1, q1, r1, t1⟩ := Zck B A 0 N N
 obtain ⟨b2, p2, q2, r2, t2⟩ := Zck C B B N N
 exact Zel hN rfl rfl ⟨p0, q0⟩ (fun _ => ⟨p1, q1⟩) (fun _ _ => ⟨p2, q2⟩) ⟨fun _ h => by simp only [Bool.and_eq_true] at h; exact r0 h.1.1, fun e => absurd e (by decide), fun e => absurd e (by decide)⟩
theorem is_9 (A B C : Int) (N : Nat) (hN : 4 ≤ N) : ∃ b, ZG 9 A B C N = some (.r0 (if b = true then 0 else 100)) ∧ Zaz 9 A B C N = some (.r0 b) ∧ Zee 9 A B C b := by
 obtain ⟨b0, p0, q0⟩ := ZcR A 0 0 N N
 obtain ⟨b1, p1, q1, r1⟩ := ZvY B A 0 N N
 obtain ⟨b2, p2, q2, r2, t2⟩ := Zck C B B N N
 exact Zel hN rfl rfl ⟨p0, q0⟩ (fun _ => ⟨p1, q1⟩) (fun _ _ => ⟨p2, q2⟩) ⟨fun e => absurd e (by decide), fun _ h => by simp only [Bool.and_eq_true] at h; exact r1 h.1.2, fun e => absurd e (by decide)⟩
theorem is_10 (A B C : Int) (N : Nat) (hN : 4 ≤ N) : ∃ b, ZG 10 A B C N = some (.r0 (if b = true then 0 else 100)) ∧ Zaz 10 A B C N = some (.r0 b) ∧ Zee 10 A B C b := by
 obtain ⟨b0, p0, q0⟩ := ZcR A 0 0 N N
 obtain ⟨b1, p1, q1, r1, t1⟩ := Zck B A 0 N N
 obtain ⟨b2, p2, q2, r2, t2⟩ := Zck C B B N N
 exact Zel hN rfl rfl ⟨p0, q0⟩ (fun _ => ⟨p1, q1⟩) (fun _ _ => ⟨p2, q2⟩) (Zc3 (by decide) (by decide) (by decide))
theorem is_11 (A B C : Int) (N : Nat) (hN : 4 ≤ N) : ∃ b, ZG 11 A B C N = some (.r0 (if b = true then 0 else 100)) ∧ Zaz 11 A B C N = some (.r0 b) ∧ Zee 11 A B C b := by
 obtain ⟨b0, p0, q0⟩ := ZcR A 0 0 N N
 obtain ⟨b1, p1, q1, r1⟩ := fit_c B A 0 N N
 cases hb : b1 with
 | false => subst hb; exact Zel (b2 := false) hN rfl rfl ⟨p0, q0⟩ (fun _ => ⟨p1, q1⟩) (fun _ e => by cases e) (Zc3 (by decide) (by decide) (by decide))
 | true =>
  obtain ⟨b2, p2, q2⟩ := fit_e C B N N (r1 hb).1 (r1 hb).2
  subst hb
  exact Zel hN rfl rfl ⟨p0, q0⟩ (fun _ => ⟨p1, q1⟩) (fun _ _ => ⟨p2, q2⟩) (Zc3 (by decide) (by decide) (by decide))
theorem is_12 (A B C : Int) (N : Nat) (hN : 4 ≤ N) : ∃ b, ZG 12 A B C N = some (.r0 (if b = true then 0 else 100)) ∧ Zaz 12 A B C N = some (.r0 b) ∧ Zee 12 A B C b := by
 obtain ⟨b0, p0, q0⟩ := ZcR A 0 0 N N
 obtain ⟨b1, p1, q1, r1, t1⟩ := Zck B A 0 N N
 obtain ⟨b2, p2, q2, r2, t2⟩ := Zck C B B N N
 exact Zel hN rfl rfl ⟨p0, q0⟩ (fun _ => ⟨p1, q1⟩) (fun _ _ => ⟨p2, q2⟩) (Zc3 (by decide) (by decide) (by decide))
theorem is_13 (A B C : Int) (N : Nat) (hN : 4 ≤ N) : ∃ b, ZG 13 A B C N = some (.r0 (if b = true then 0 else 100)) ∧ Zaz 13 A B C N = some (.r0 b) ∧ Zee 13 A B C b := by
 obtain ⟨b0, p0, q0⟩ := ZcR A 0 0 N N
 obtain ⟨b1, p1, q1⟩ := ZcR B A 0 N N
 obtain ⟨b2, p2, q2⟩ := ZvX C B B N N
 exact Zel hN rfl rfl ⟨p0, q0⟩ (fun _ => ⟨p1, q1⟩) (fun _ _ => ⟨p2, q2⟩) (Zc3 (by decide) (by decide) (by decide))
theorem is_14 (A B C : Int) (N : Nat) (hN : 4 ≤ N) : ∃ b, ZG 14 A B C N = some (.r0 (if b = true then 0 else 100)) ∧ Zaz 14 A B C N = some (.r0 b) ∧ Zee 14 A B C b := by
 obtain ⟨b0, p0, q0⟩ := ZcR A 0 0 N N
 obtain ⟨b1, p1, q1⟩ := ZvX B A 0 N N
 obtain ⟨b2, p2, q2⟩ := ZcR C B B N N
 exact Zel hN rfl rfl ⟨p0, q0⟩ (fun _ => ⟨p1, q1⟩) (fun _ _ => ⟨p2, q2⟩) (Zc3 (by decide) (by decide) (by decide))
theorem is_15 (A B C : Int) (N : Nat) (hN : 4 ≤ N) : ∃ b, ZG 15 A B C N = some (.r0 (if b = true then 0 else 100)) ∧ Zaz 15 A B C N = some (.r0 b) ∧ Zee 15 A B C b := by
 obtain ⟨b0, p0, q0, r0, t0⟩ := Zck A 0 0 N N
 obtain ⟨b1, p1, q1, r1, t1⟩ := Zck B A 0 N N
 obtain ⟨b2, p2, q2, r2, t2⟩ := Zck C B B N N
 exact Zel hN rfl rfl ⟨p0, q0⟩ (fun _ => ⟨p1, q1⟩) (fun _ _ => ⟨p2, q2⟩) ⟨fun e => absurd e (by decide), fun e => absurd e (by decide), fun _ => by simp only [Bool.and_eq_true]; exact ⟨fun h => ⟨r0 h.1.1, r1 h.1.2, r2 h.2⟩, fun h => ⟨⟨t0 h.1, t1 h.2.1⟩, t2 h.2.2⟩⟩⟩
theorem is_16 (A B C : Int) (N : Nat) (hN : 4 ≤ N) : ∃ b, ZG 16 A B C N = some (.r0 (if b = true then 0 else 100)) ∧ Zaz 16 A B C N = some (.r0 b) ∧ Zee 16 A B C b := by
 obtain ⟨b0, p0, q0, r0, t0⟩ := Zck A 0 0 N N
 obtain ⟨b1, p1, q1, r1, t1⟩ := Zck B A 0 N N
 obtain ⟨b2, p2, q2, r2, t2⟩ := Zck C B B N N
 exact Zel hN rfl rfl ⟨p0, q0⟩ (fun _ => ⟨p1, q1⟩) (fun _ _ => ⟨p2, q2⟩) (Zc3 (by decide) (by decide) (by decide))
theorem is_17 (A B C : Int) (N : Nat) (hN : 4 ≤ N) : ∃ b, ZG 17 A B C N = some (.r0 (if b = true then 0 else 100)) ∧ Zaz 17 A B C N = some (.r0 b) ∧ Zee 17 A B C b := by
 obtain ⟨b0, p0, q0, r0, t0⟩ := Zck A 0 0 N N
 obtain ⟨b1, p1, q1, r1, t1⟩ := Zck B A 0 N N
 obtain ⟨b2, p2, q2, r2, t2⟩ := Zck C B B N N
 exact Zel hN rfl rfl ⟨p0, q0⟩ (fun _ => ⟨p1, q1⟩) (fun _ _ => ⟨p2, q2⟩) (Zc3 (by decide) (by decide) (by decide))
theorem is_18 (A B C : Int) (N : Nat) (hN : 4 ≤ N) : ∃ b, ZG 18 A B C N = some (.r0 (if b = true then 0 else 100)) ∧ Zaz 18 A B C N = some (.r0 b) ∧ Zee 18 A B C b := by
 obtain ⟨b0, p0, q0, r0, t0⟩ := Zck A 0 0 N N
 obtain ⟨b1, p1, q1, r1, t1⟩ := Zck B A 0 N N
 obtain ⟨b2, p2, q2, r2, t2⟩ := Zck C B B N N
 exact Zel hN rfl rfl ⟨p0, q0⟩ (fun _ => ⟨p1, q1⟩) (fun _ _ => ⟨p2, q2⟩) (Zc3 (by decide) (by decide) (by decide))
theorem is_19 (A B C : Int) (N : Nat) (hN : 4 ≤ N) : ∃ b, ZG 19 A B C N = some (.r0 (if b = true then 0 else 100)) ∧ Zaz 19 A B C N = some (.r0 b) ∧ Zee 19 A B C b := by
 obtain ⟨b0, p0, q0⟩ := ZcR A 0 0 N N
 obtain ⟨b1, p1, q1, r1, t1⟩ := Zck B A 0 N N
 obtain ⟨b2, p2, q2, r2, t2⟩ := Zck C B B N N
 exact Zel hN rfl rfl ⟨p0, q0⟩ (fun _ => ⟨p1, q1⟩) (fun _ _ => ⟨p2, q2⟩) (Zc3 (by decide) (by decide) (by decide))
theorem is_20 (A B C : Int) (N : Nat) (hN : 4 ≤ N) : ∃ b, ZG 20 A B C N = some (.r0 (if b = true then 0 else 100)) ∧ Zaz 20 A B C N = some (.r0 b) ∧ Zee 20 A B C b := by
 obtain ⟨b0, p0, q0, r0, t0⟩ := Zck A 0 0 N N
 obtain ⟨b1, p1, q1, r1, t1⟩ := Zck B A 0 N N
 obtain ⟨b2, p2, q2, r2, t2⟩ := Zck C B B N N
 exact Zel hN rfl rfl ⟨p0, q0⟩ (fun _ => ⟨p1, q1⟩) (fun _ _ => ⟨p2, q2⟩) (Zc3 (by decide) (by decide) (by decide))
theorem ZvL (op A B C : Int) (N : Nat) (hN : 4 ≤ N) : ∃ b, ZG op A B C N = some (.r0 (if b = true then 0 else 100)) ∧ Zaz op A B C N = some (.r0 b) ∧ Zee op A B C b := by
 by_cases h0 : op ≤ 0 ∨ 21 ≤ op
 ·refine ⟨false, ?_, ?_, Zc3 (by omega) (by omega) (by omega)⟩
  ·refine ZhX ?_
   have : Za7 op N = some .r0 := by
    unfold Za7
    repeat' (first | rfl | (refine Zeg (fun _ => ?_) (fun _ => ?_)) | (exfalso; omega))
   unfold ZfB
   rw [this]; rfl
  ·have : ZeJ op N = some (.r0 0 0 0 false) := by
    unfold ZeJ
    repeat' (first | rfl | (refine Zeg (fun _ => ?_) (fun _ => ?_)) | (exfalso; omega))
   unfold Zaz
   rw [this]; rfl
 ·have h : op = 1 ∨ op = 2 ∨ op = 3 ∨ op = 4 ∨ op = 5 ∨ op = 6 ∨ op = 7 ∨ op = 8 ∨ op = 9 ∨ op = 10 ∨ op = 11 ∨ op = 12 ∨ op = 13 ∨ op = 14 ∨ op = 15 ∨ op = 16 ∨ op = 17 ∨ op = 18 ∨ op = 19 ∨ op = 20 := by omega
  rcases h with rfl | rfl | rfl | rfl | rfl | rfl | rfl | rfl | rfl | rfl | rfl | rfl | rfl | rfl | rfl | rfl | rfl | rfl | rfl | rfl
  ·exact is_1 A B C N hN
  ·exact is_2 A B C N hN
  ·exact is_3 A B C N hN
  ·exact is_4 A B C N hN
  ·exact is_5 A B C N hN
  ·exact is_6 A B C N hN
  ·exact is_7 A B C N hN
  ·exact is_8 A B C N hN
  ·exact is_9 A B C N hN
  ·exact is_10 A B C N hN
  ·exact is_11 A B C N hN
  ·exact is_12 A B C N hN
  ·exact is_13 A B C N hN
  ·exact is_14 A B C N hN
  ·exact is_15 A B C N hN
  ·exact is_16 A B C N hN
  ·exact is_17 A B C N hN
  ·exact is_18 A B C N hN
  ·exact is_19 A B C N hN
  ·exact is_20 A B C N hN
end Ev
end Go.Proofs.Ytpgbennpiihajaa
