/- RegsOwn: what the plain functions come to. -/
import Derived.Test.YtnahodeffgoccaaRnd
namespace Go.Proofs.Ytnahodeffgoccaa
open Go.RowKit
namespace Ev
set_option linter.unusedVariables false
set_option linter.unusedSimpArgs false

theorem eta8 {l : List R_ii} (h : l.length = 8) : ([⟨(l.getD 0 R_ii.z).a0, (l.getD 0 R_ii.z).a1⟩, ⟨(l.getD 1 R_ii.z).a0, (l.getD 1 R_ii.z).a1⟩, ⟨(l.getD 2 R_ii.z).a0, (l.getD 2 R_ii.z).a1⟩, ⟨(l.getD 3 R_ii.z).a0, (l.getD 3 R_ii.z).a1⟩, ⟨(l.getD 4 R_ii.z).a0, (l.getD 4 R_ii.z).a1⟩, ⟨(l.getD 5 R_ii.z).a0, (l.getD 5 R_ii.z).a1⟩, ⟨(l.getD 6 R_ii.z).a0, (l.getD 6 R_ii.z).a1⟩, ⟨(l.getD 7 R_ii.z).a0, (l.getD 7 R_ii.z).a1⟩] : List R_ii) = l := by
  match l, h with
  | [x0, x1, x2, x3, x4, x5, x6, x7], _ => rfl
theorem doB_len {l : List R_ii} (h : l.length = 8) (pc op A B C rk rn : Int) : (doB l pc op A B C rk rn).1.length = 8 := by
  unfold doB
  split
  · rfl
  · split
    · exact h
    · split
      · exact h
      · split
        · exact h
        · split
          · rw [List.length_set]; exact h
          · rfl
theorem doP_len {l : List R_ii} (h : l.length = 8) (pc op A B C rk rn : Int) (N : Nat) : (doP l pc op A B C rk rn N).1.length = 8 := by
  unfold doP
  split
  · exact doB_len h ..
  · rfl

namespace Rn
theorem doB_keep {l : List R_ii} {pc op A B C rk rn : Int} (h0 : 0 ≤ A) (k : Nat) (hk : k < l.length) (he : (doB l pc op A B C rk rn).2.2 = 0) (hA : (k : Int) ≠ A) : (doB l pc op A B C rk rn).1.getD k R_ii.z = l.getD k R_ii.z := by
  unfold doB at he ⊢
  by_cases h1 : pc < 0 ∨ 512 ≤ pc
  · rw [if_pos h1] at he; cases he
  · rw [if_neg h1] at he ⊢
    by_cases h8 : op = 8
    · rw [if_pos h8]
    · rw [if_neg h8] at he ⊢
      by_cases h9 : op = 9
      · rw [if_pos h9]
      · rw [if_neg h9] at he ⊢
        by_cases h19 : op = 19
        · rw [if_pos h19]
        · rw [if_neg h19] at he ⊢
          by_cases hr : (resP l op B C rk rn).2 = 0
          · rw [if_pos hr]
            exact getD_set_ne (by omega)
          · rw [if_neg hr] at he
            exact absurd he hr
theorem doB_bad {l : List R_ii} {pc op A B C rk rn : Int} (he : (doB l pc op A B C rk rn).2.2 ≠ 0) : (doB l pc op A B C rk rn).1 = zz ∧ (doB l pc op A B C rk rn).2.1 = 0 := by
  unfold doB at he ⊢
  by_cases h1 : pc < 0 ∨ 512 ≤ pc
  · rw [if_pos h1]; exact ⟨rfl, rfl⟩
  · rw [if_neg h1] at he ⊢
    by_cases h8 : op = 8
    · rw [if_pos h8] at he; exact absurd rfl he
    · rw [if_neg h8] at he ⊢
      by_cases h9 : op = 9
      · rw [if_pos h9] at he; exact absurd rfl he
      · rw [if_neg h9] at he ⊢
        by_cases h19 : op = 19
        · rw [if_pos h19] at he; exact absurd rfl he
        · rw [if_neg h19] at he ⊢
          by_cases hr : (resP l op B C rk rn).2 = 0
          · rw [if_pos hr] at he; exact absurd rfl he
          · rw [if_neg hr]; exact ⟨rfl, rfl⟩
theorem res_own {l : List R_ii} {op B C rk rn : Int} {at_ : Nat} {o : R_ii} (hB : op = 3 ∨ op = 4 ∨ op = 5 ∨ op = 6 ∨ op = 7 → at_ ≠ B.toNat) (hC : op = 4 ∨ op = 5 ∨ op = 6 ∨ op = 7 → at_ ≠ C.toNat) (ho : op = 1 ∨ op = 2 ∨ op = 3 ∨ op = 4 ∨ op = 5 ∨ op = 6 ∨ op = 7 ∨ op = 10) : resP (l.set at_ o) op B C rk rn = resP l op B C rk rn := by
  rcases ho with rfl | rfl | rfl | rfl | rfl | rfl | rfl | rfl
  · rfl
  · rfl
  · show ((l.set at_ o).getD B.toNat R_ii.z, (0 : Int)) = (l.getD B.toNat R_ii.z, 0)
    rw [getD_set_ne (hB (by decide))]
  · unfold resP; rw [getD_set_ne (hB (by decide)), getD_set_ne (hC (by decide))]
  · unfold resP; rw [getD_set_ne (hB (by decide)), getD_set_ne (hC (by decide))]
  · unfold resP; rw [getD_set_ne (hB (by decide)), getD_set_ne (hC (by decide))]
  · unfold resP; rw [getD_set_ne (hB (by decide)), getD_set_ne (hC (by decide))]
  · rfl
theorem doB_own {l : List R_ii} {pc op A B C rk rn : Int} {at_ : Nat} {o : R_ii} (hl : localP op) (hA : at_ ≠ A.toNat) (hB : op = 3 ∨ op = 4 ∨ op = 5 ∨ op = 6 ∨ op = 7 → at_ ≠ B.toNat) (hC : op = 4 ∨ op = 5 ∨ op = 6 ∨ op = 7 → at_ ≠ C.toNat) (he : (doB l pc op A B C rk rn).2.2 = 0) :
    doB (l.set at_ o) pc op A B C rk rn = ((doB l pc op A B C rk rn).1.set at_ o, (doB l pc op A B C rk rn).2.1, 0) := by
  unfold doB at he ⊢
  by_cases h1 : pc < 0 ∨ 512 ≤ pc
  · rw [if_pos h1] at he; cases he
  · rw [if_neg h1] at he ⊢
    rw [if_neg h1]
    by_cases h8 : op = 8
    · rw [if_pos h8, if_pos h8]
    · rw [if_neg h8] at he ⊢
      rw [if_neg h8]
      by_cases h9 : op = 9
      · rw [if_pos h9, if_pos h9, getD_set_ne hA]
      · rw [if_neg h9] at he ⊢
        rw [if_neg h9]
        by_cases h19 : op = 19
        · rw [if_pos h19, if_pos h19]
        · rw [if_neg h19] at he ⊢
          rw [if_neg h19, res_own hB hC (by unfold localP at hl; omega)]
          by_cases hr : (resP l op B C rk rn).2 = 0
          · rw [if_pos hr, if_pos hr, List.set_comm _ _ hA]
          · rw [if_neg hr] at he
            exact absurd he hr
section
variable {a0 a1 a2 a3 a4 a5 a6 a7 a8 a9 a10 a11 a12 a13 a14 a15 op A B C rk rn ok on n1 at_ : Int} {N : Nat} {D : List R_ii}
theorem tail (hN : 4 ≤ N) (ha : rg at_) (hD : D.length = 8) (h : doP (([⟨a0, a1⟩, ⟨a2, a3⟩, ⟨a4, a5⟩, ⟨a6, a7⟩, ⟨a8, a9⟩, ⟨a10, a11⟩, ⟨a12, a13⟩, ⟨a14, a15⟩] : List R_ii).set at_.toNat ⟨ok, on⟩) 5 op A B C rk rn N = (D.set at_.toNat ⟨ok, on⟩, n1, 0)) :
    ((((ref14_Put (a0) (a1) (a2) (a3) (a4) (a5) (a6) (a7) (a8) (a9) (a10) (a11) (a12) (a13) (a14) (a15) (at_) (ok) (on) N).bind fun r => match r with
        | .r0 y7_0 y7_1 y7_2 y7_3 y7_4 y7_5 y7_6 y7_7 y7_8 y7_9 y7_10 y7_11 y7_12 y7_13 y7_14 y7_15 =>
          ((regs_Do (y7_0) (y7_1) (y7_2) (y7_3) (y7_4) (y7_5) (y7_6) (y7_7) (y7_8) (y7_9) (y7_10) (y7_11) (y7_12) (y7_13) (y7_14) (y7_15) ((5 : Int)) (op) (A) (B) (C) (rk) (rn) N).bind fun r => match r with
          | .r0 y8_0 y8_1 y8_2 y8_3 y8_4 y8_5 y8_6 y8_7 y8_8 y8_9 y8_10 y8_11 y8_12 y8_13 y8_14 y8_15 y8_16 y8_17 =>
            ((ref14_Put ((D.getD 0 R_ii.z).a0) ((D.getD 0 R_ii.z).a1) ((D.getD 1 R_ii.z).a0) ((D.getD 1 R_ii.z).a1) ((D.getD 2 R_ii.z).a0) ((D.getD 2 R_ii.z).a1) ((D.getD 3 R_ii.z).a0) ((D.getD 3 R_ii.z).a1) ((D.getD 4 R_ii.z).a0) ((D.getD 4 R_ii.z).a1) ((D.getD 5 R_ii.z).a0) ((D.getD 5 R_ii.z).a1) ((D.getD 6 R_ii.z).a0) ((D.getD 6 R_ii.z).a1) ((D.getD 7 R_ii.z).a0) ((D.getD 7 R_ii.z).a1) (at_) (ok) (on) N).bind fun r => match r with
            | .r0 y9_0 y9_1 y9_2 y9_3 y9_4 y9_5 y9_6 y9_7 y9_8 y9_9 y9_10 y9_11 y9_12 y9_13 y9_14 y9_15 =>
              if ((y8_0 = y9_0 ∧ y8_1 = y9_1) ∧ (y8_2 = y9_2 ∧ y8_3 = y9_3) ∧ (y8_4 = y9_4 ∧ y8_5 = y9_5) ∧ (y8_6 = y9_6 ∧ y8_7 = y9_7) ∧ (y8_8 = y9_8 ∧ y8_9 = y9_9) ∧ (y8_10 = y9_10 ∧ y8_11 = y9_11) ∧ (y8_12 = y9_12 ∧ y8_13 = y9_13) ∧ (y8_14 = y9_14 ∧ y8_15 = y9_15)) then
                if y8_16 = n1 then
                  if y8_17 = (0 : Int) then
                    some (.inr (.r0 (true) : law14_RegsOwnR))
                  else
                  some (.inr (.r0 (false) : law14_RegsOwnR))
                else
                some (.inr (.r0 (false) : law14_RegsOwnR))
              else
              some (.inr (.r0 (false) : law14_RegsOwnR))
            )
          )
        ) : Option (law14_RegsOwnX ⊕ law14_RegsOwnR))) = some (.inr (.r0 true)) := by
  obtain ⟨d1, -⟩ := do_is (a0 := ((([⟨a0, a1⟩, ⟨a2, a3⟩, ⟨a4, a5⟩, ⟨a6, a7⟩, ⟨a8, a9⟩, ⟨a10, a11⟩, ⟨a12, a13⟩, ⟨a14, a15⟩] : List R_ii).set at_.toNat ⟨ok, on⟩).getD 0 R_ii.z).a0) (a1 := ((([⟨a0, a1⟩, ⟨a2, a3⟩, ⟨a4, a5⟩, ⟨a6, a7⟩, ⟨a8, a9⟩, ⟨a10, a11⟩, ⟨a12, a13⟩, ⟨a14, a15⟩] : List R_ii).set at_.toNat ⟨ok, on⟩).getD 0 R_ii.z).a1) (a2 := ((([⟨a0, a1⟩, ⟨a2, a3⟩, ⟨a4, a5⟩, ⟨a6, a7⟩, ⟨a8, a9⟩, ⟨a10, a11⟩, ⟨a12, a13⟩, ⟨a14, a15⟩] : List R_ii).set at_.toNat ⟨ok, on⟩).getD 1 R_ii.z).a0) (a3 := ((([⟨a0, a1⟩, ⟨a2, a3⟩, ⟨a4, a5⟩, ⟨a6, a7⟩, ⟨a8, a9⟩, ⟨a10, a11⟩, ⟨a12, a13⟩, ⟨a14, a15⟩] : List R_ii).set at_.toNat ⟨ok, on⟩).getD 1 R_ii.z).a1) (a4 := ((([⟨a0, a1⟩, ⟨a2, a3⟩, ⟨a4, a5⟩, ⟨a6, a7⟩, ⟨a8, a9⟩, ⟨a10, a11⟩, ⟨a12, a13⟩, ⟨a14, a15⟩] : List R_ii).set at_.toNat ⟨ok, on⟩).getD 2 R_ii.z).a0) (a5 := ((([⟨a0, a1⟩, ⟨a2, a3⟩, ⟨a4, a5⟩, ⟨a6, a7⟩, ⟨a8, a9⟩, ⟨a10, a11⟩, ⟨a12, a13⟩, ⟨a14, a15⟩] : List R_ii).set at_.toNat ⟨ok, on⟩).getD 2 R_ii.z).a1) (a6 := ((([⟨a0, a1⟩, ⟨a2, a3⟩, ⟨a4, a5⟩, ⟨a6, a7⟩, ⟨a8, a9⟩, ⟨a10, a11⟩, ⟨a12, a13⟩, ⟨a14, a15⟩] : List R_ii).set at_.toNat ⟨ok, on⟩).getD 3 R_ii.z).a0) (a7 := ((([⟨a0, a1⟩, ⟨a2, a3⟩, ⟨a4, a5⟩, ⟨a6, a7⟩, ⟨a8, a9⟩, ⟨a10, a11⟩, ⟨a12, a13⟩, ⟨a14, a15⟩] : List R_ii).set at_.toNat ⟨ok, on⟩).getD 3 R_ii.z).a1) (a8 := ((([⟨a0, a1⟩, ⟨a2, a3⟩, ⟨a4, a5⟩, ⟨a6, a7⟩, ⟨a8, a9⟩, ⟨a10, a11⟩, ⟨a12, a13⟩, ⟨a14, a15⟩] : List R_ii).set at_.toNat ⟨ok, on⟩).getD 4 R_ii.z).a0) (a9 := ((([⟨a0, a1⟩, ⟨a2, a3⟩, ⟨a4, a5⟩, ⟨a6, a7⟩, ⟨a8, a9⟩, ⟨a10, a11⟩, ⟨a12, a13⟩, ⟨a14, a15⟩] : List R_ii).set at_.toNat ⟨ok, on⟩).getD 4 R_ii.z).a1) (a10 := ((([⟨a0, a1⟩, ⟨a2, a3⟩, ⟨a4, a5⟩, ⟨a6, a7⟩, ⟨a8, a9⟩, ⟨a10, a11⟩, ⟨a12, a13⟩, ⟨a14, a15⟩] : List R_ii).set at_.toNat ⟨ok, on⟩).getD 5 R_ii.z).a0) (a11 := ((([⟨a0, a1⟩, ⟨a2, a3⟩, ⟨a4, a5⟩, ⟨a6, a7⟩, ⟨a8, a9⟩, ⟨a10, a11⟩, ⟨a12, a13⟩, ⟨a14, a15⟩] : List R_ii).set at_.toNat ⟨ok, on⟩).getD 5 R_ii.z).a1) (a12 := ((([⟨a0, a1⟩, ⟨a2, a3⟩, ⟨a4, a5⟩, ⟨a6, a7⟩, ⟨a8, a9⟩, ⟨a10, a11⟩, ⟨a12, a13⟩, ⟨a14, a15⟩] : List R_ii).set at_.toNat ⟨ok, on⟩).getD 6 R_ii.z).a0) (a13 := ((([⟨a0, a1⟩, ⟨a2, a3⟩, ⟨a4, a5⟩, ⟨a6, a7⟩, ⟨a8, a9⟩, ⟨a10, a11⟩, ⟨a12, a13⟩, ⟨a14, a15⟩] : List R_ii).set at_.toNat ⟨ok, on⟩).getD 6 R_ii.z).a1) (a14 := ((([⟨a0, a1⟩, ⟨a2, a3⟩, ⟨a4, a5⟩, ⟨a6, a7⟩, ⟨a8, a9⟩, ⟨a10, a11⟩, ⟨a12, a13⟩, ⟨a14, a15⟩] : List R_ii).set at_.toNat ⟨ok, on⟩).getD 7 R_ii.z).a0) (a15 := ((([⟨a0, a1⟩, ⟨a2, a3⟩, ⟨a4, a5⟩, ⟨a6, a7⟩, ⟨a8, a9⟩, ⟨a10, a11⟩, ⟨a12, a13⟩, ⟨a14, a15⟩] : List R_ii).set at_.toNat ⟨ok, on⟩).getD 7 R_ii.z).a1) (pc := 5) (A := A) (B := B) (C := C) (rk := rk) (rn := rn) op hN
  rw [eta8 (by rw [List.length_set]; rfl), h] at d1
  have p2 := rput_is (a0 := (D.getD 0 R_ii.z).a0) (a1 := (D.getD 0 R_ii.z).a1) (a2 := (D.getD 1 R_ii.z).a0) (a3 := (D.getD 1 R_ii.z).a1) (a4 := (D.getD 2 R_ii.z).a0) (a5 := (D.getD 2 R_ii.z).a1) (a6 := (D.getD 3 R_ii.z).a0) (a7 := (D.getD 3 R_ii.z).a1) (a8 := (D.getD 4 R_ii.z).a0) (a9 := (D.getD 4 R_ii.z).a1) (a10 := (D.getD 5 R_ii.z).a0) (a11 := (D.getD 5 R_ii.z).a1) (a12 := (D.getD 6 R_ii.z).a0) (a13 := (D.getD 6 R_ii.z).a1) (a14 := (D.getD 7 R_ii.z).a0) (a15 := (D.getD 7 R_ii.z).a1) (A := at_) (x := ok) (y := on) (N := N) ha
  rw [eta8 hD] at p2
  exact bind_to (rput_is ha) <| bind_to d1 <| bind_to p2 <| ite_yes ⟨⟨rfl, rfl⟩, ⟨rfl, rfl⟩, ⟨rfl, rfl⟩, ⟨rfl, rfl⟩, ⟨rfl, rfl⟩, ⟨rfl, rfl⟩, ⟨rfl, rfl⟩, ⟨rfl, rfl⟩⟩ <| ite_yes rfl <| ite_yes rfl rfl
end
section
variable {a0 a1 a2 a3 a4 a5 a6 a7 a8 a9 a10 a11 a12 a13 a14 a15 op A B C rk rn ok on a24 : Int} {N : Nat}
theorem has_B (hN : 4 ≤ N) {t0 t1 t2 : Int} {t3 : Bool} (h : ref10_Has op N = some (.r0 t0 t1 t2 t3)) (ht : ¬ t1 = 1) : ¬ (op = 3 ∨ op = 4 ∨ op = 5 ∨ op = 6 ∨ op = 7) := fun e => by
  rcases e with rfl | rfl | rfl | rfl | rfl <;> (cases h; exact ht rfl)
theorem has_C (hN : 4 ≤ N) {t0 t1 t2 : Int} {t3 : Bool} (h : ref10_Has op N = some (.r0 t0 t1 t2 t3)) (ht : ¬ t2 = 1) : ¬ (op = 4 ∨ op = 5 ∨ op = 6 ∨ op = 7) := fun e => by
  rcases e with rfl | rfl | rfl | rfl <;> (cases h; exact ht rfl)
theorem opnds (hN : 4 ≤ N) (h : fineB ⟨op, A, B, C⟩ N = true) (hl : localP op) (h8 : op ≠ 8) : rg A ∧ (op = 3 ∨ op = 4 ∨ op = 5 ∨ op = 6 ∨ op = 7 → rg B) ∧ (op = 4 ∨ op = 5 ∨ op = 6 ∨ op = 7 → rg C) := by
  obtain ⟨-, c2, -⟩ := fine_is op A B C hN
  rw [h] at c2
  have : op = 1 ∨ op = 2 ∨ op = 3 ∨ op = 4 ∨ op = 5 ∨ op = 6 ∨ op = 7 ∨ op = 9 ∨ op = 10 ∨ op = 19 := by unfold localP at hl; omega
  rcases this with rfl | rfl | rfl | rfl | rfl | rfl | rfl | rfl | rfl | rfl
  · obtain ⟨f0, f1, f2⟩ := is_inv (t0 := 1) (t1 := 2) (t2 := 0) rfl c2
    exact ⟨reg_of f0, fun e => absurd e (by decide), fun e => absurd e (by decide)⟩
  · obtain ⟨f0, f1, f2⟩ := is_inv (t0 := 1) (t1 := 0) (t2 := 0) rfl c2
    exact ⟨reg_of f0, fun e => absurd e (by decide), fun e => absurd e (by decide)⟩
  · obtain ⟨f0, f1, f2⟩ := is_inv (t0 := 1) (t1 := 1) (t2 := 0) rfl c2
    exact ⟨reg_of f0, fun _ => reg_of f1, fun e => absurd e (by decide)⟩
  · obtain ⟨f0, f1, f2⟩ := is_inv (t0 := 1) (t1 := 1) (t2 := 1) rfl c2
    exact ⟨reg_of f0, fun _ => reg_of f1, fun _ => reg_of f2⟩
  · obtain ⟨f0, f1, f2⟩ := is_inv (t0 := 1) (t1 := 1) (t2 := 1) rfl c2
    exact ⟨reg_of f0, fun _ => reg_of f1, fun _ => reg_of f2⟩
  · obtain ⟨f0, f1, f2⟩ := is_inv (t0 := 1) (t1 := 1) (t2 := 1) rfl c2
    exact ⟨reg_of f0, fun _ => reg_of f1, fun _ => reg_of f2⟩
  · obtain ⟨f0, f1, f2⟩ := is_inv (t0 := 1) (t1 := 1) (t2 := 1) rfl c2
    exact ⟨reg_of f0, fun _ => reg_of f1, fun _ => reg_of f2⟩
  · obtain ⟨f0, f1, f2⟩ := is_inv (t0 := 1) (t1 := 3) (t2 := 0) rfl c2
    exact ⟨reg_of f0, fun e => absurd e (by decide), fun e => absurd e (by decide)⟩
  · obtain ⟨f0, f1, f2⟩ := is_inv (t0 := 1) (t1 := 0) (t2 := 0) rfl c2
    exact ⟨reg_of f0, fun e => absurd e (by decide), fun e => absurd e (by decide)⟩
  · obtain ⟨f0, f1, f2⟩ := is_inv (t0 := 1) (t1 := 0) (t2 := 0) rfl c2
    exact ⟨reg_of f0, fun e => absurd e (by decide), fun e => absurd e (by decide)⟩
theorem done (hN : 4 ≤ N) (u1 : 0 ≤ a24) (u2 : a24 ≤ 255) (n1 : Int) (D : List R_ii) (hf : fineB ⟨op, A, B, C⟩ N = true) (hl : localP op) (hD : doB [⟨a0, a1⟩, ⟨a2, a3⟩, ⟨a4, a5⟩, ⟨a6, a7⟩, ⟨a8, a9⟩, ⟨a10, a11⟩, ⟨a12, a13⟩, ⟨a14, a15⟩] 5 op A B C rk rn = (D, n1, 0)) : law14_RegsOwn_h1m0 a0 a1 a2 a3 a4 a5 a6 a7 a8 a9 a10 a11 a12 a13 a14 a15 op A B C rk rn ok on a24 N n1 8 (D.getD 0 R_ii.z).a0 (D.getD 0 R_ii.z).a1 (D.getD 1 R_ii.z).a0 (D.getD 1 R_ii.z).a1 (D.getD 2 R_ii.z).a0 (D.getD 2 R_ii.z).a1 (D.getD 3 R_ii.z).a0 (D.getD 3 R_ii.z).a1 (D.getD 4 R_ii.z).a0 (D.getD 4 R_ii.z).a1 (D.getD 5 R_ii.z).a0 (D.getD 5 R_ii.z).a1 (D.getD 6 R_ii.z).a0 (D.getD 6 R_ii.z).a1 (D.getD 7 R_ii.z).a0 (D.getD 7 R_ii.z).a1 = some (.inr (.r0 true)) := by
  have e8 : Int.tmod a24 8 = a24 % 8 := Int.tmod_eq_emod_of_nonneg u1
  have hlen : D.length = 8 := by have := doB_len (l := [⟨a0, a1⟩, ⟨a2, a3⟩, ⟨a4, a5⟩, ⟨a6, a7⟩, ⟨a8, a9⟩, ⟨a10, a11⟩, ⟨a12, a13⟩, ⟨a14, a15⟩]) rfl 5 op A B C rk rn; rw [hD] at this; exact this
  obtain ⟨t0, t1, t2, t3, hH⟩ : ∃ t0 t1 t2 t3, ref10_Has op N = some (.r0 t0 t1 t2 t3) := by
    cases h : ref10_Has op N with
    | some r => cases r; exact ⟨_, _, _, _, rfl⟩
    | none =>
      exfalso
      unfold ref10_Has at h
      have : op = 1 ∨ op = 2 ∨ op = 3 ∨ op = 4 ∨ op = 5 ∨ op = 6 ∨ op = 7 ∨ op = 8 ∨ op = 9 ∨ op = 10 ∨ op = 19 := by unfold localP at hl; omega
      rcases this with rfl | rfl | rfl | rfl | rfl | rfl | rfl | rfl | rfl | rfl | rfl <;> cases h
  have ha : rg (Int.tmod a24 8) := by rw [e8]; exact ⟨by omega, by omega⟩
  have fin : ¬ Int.tmod a24 8 = A → (t1 = 1 → ¬ Int.tmod a24 8 = B) → (t2 = 1 → ¬ Int.tmod a24 8 = C) → doP (([⟨a0, a1⟩, ⟨a2, a3⟩, ⟨a4, a5⟩, ⟨a6, a7⟩, ⟨a8, a9⟩, ⟨a10, a11⟩, ⟨a12, a13⟩, ⟨a14, a15⟩] : List R_ii).set (Int.tmod a24 8).toNat ⟨ok, on⟩) 5 op A B C rk rn N = (D.set (Int.tmod a24 8).toNat ⟨ok, on⟩, n1, 0) := by
    intro hA hB hC
    rw [doP_yes _ _ hf hl]
    by_cases h8 : op = 8
    · subst h8
      have : doB [⟨a0, a1⟩, ⟨a2, a3⟩, ⟨a4, a5⟩, ⟨a6, a7⟩, ⟨a8, a9⟩, ⟨a10, a11⟩, ⟨a12, a13⟩, ⟨a14, a15⟩] 5 8 A B C rk rn = ([⟨a0, a1⟩, ⟨a2, a3⟩, ⟨a4, a5⟩, ⟨a6, a7⟩, ⟨a8, a9⟩, ⟨a10, a11⟩, ⟨a12, a13⟩, ⟨a14, a15⟩], A, 0) := rfl
      rw [this] at hD
      injection hD with q1 q2
      injection q2 with q2 q3
      subst q1 q2
      rfl
    · obtain ⟨g1, g2, g3⟩ := opnds hN hf hl h8
      have := doB_own (l := [⟨a0, a1⟩, ⟨a2, a3⟩, ⟨a4, a5⟩, ⟨a6, a7⟩, ⟨a8, a9⟩, ⟨a10, a11⟩, ⟨a12, a13⟩, ⟨a14, a15⟩]) (pc := 5) (op := op) (A := A) (B := B) (C := C) (rk := rk) (rn := rn) (at_ := (Int.tmod a24 8).toNat) (o := ⟨ok, on⟩) hl (by have := ha.1; have := g1.1; omega) (fun e => by
        have h1 : t1 = 1 := Decidable.byContradiction fun hne => has_B hN hH hne e
        have := hB h1; have := ha.1; have := (g2 e).1; omega) (fun e => by
        have h1 : t2 = 1 := Decidable.byContradiction fun hne => has_C hN hH hne e
        have := hC h1; have := ha.1; have := (g3 e).1; omega) (by rw [hD])
      rw [this, hD]
  unfold law14_RegsOwn_h1m0
  refine ite_no (by omega) <| ite_yes (by omega) <| ite_yes (by omega) <| bind_to hH ?_
  by_cases hA : Int.tmod a24 8 = A
  · exact ite_yes hA rfl
  · refine ite_no hA ?_
    by_cases h1 : t1 = 1
    · refine ite_yes h1 ?_
      by_cases hB : Int.tmod a24 8 = B
      · exact ite_yes hB rfl
      · refine ite_no hB ?_
        by_cases h2 : t2 = 1
        · refine ite_yes h2 ?_
          by_cases hC : Int.tmod a24 8 = C
          · exact ite_yes hC rfl
          · exact ite_no hC <| tail hN ha hlen (fin hA (fun _ => hB) (fun _ => hC))
        · exact ite_no h2 <| tail hN ha hlen (fin hA (fun _ => hB) (fun e => absurd e h2))
    · refine ite_no h1 ?_
      by_cases h2 : t2 = 1
      · refine ite_yes h2 ?_
        by_cases hC : Int.tmod a24 8 = C
        · exact ite_yes hC rfl
        · exact ite_no hC <| tail hN ha hlen (fin hA (fun e => absurd e h1) (fun _ => hC))
      · exact ite_no h2 <| tail hN ha hlen (fin hA (fun e => absurd e h1) (fun e => absurd e h2))
theorem loop (hN : 4 ≤ N) (u1 : 0 ≤ a24) (u2 : a24 ≤ 255) (n1 : Int) (D : List R_ii) (hf : fineB ⟨op, A, B, C⟩ N = true) (hl : localP op) (hD : doB [⟨a0, a1⟩, ⟨a2, a3⟩, ⟨a4, a5⟩, ⟨a6, a7⟩, ⟨a8, a9⟩, ⟨a10, a11⟩, ⟨a12, a13⟩, ⟨a14, a15⟩] 5 op A B C rk rn = (D, n1, 0)) (h0 : 0 ≤ A) : ∀ d k f, k + d = 8 → d < f → iter (law14_RegsOwnStep a0 a1 a2 a3 a4 a5 a6 a7 a8 a9 a10 a11 a12 a13 a14 a15 op A B C rk rn ok on a24 N) f (.h1m0 n1 k (D.getD 0 R_ii.z).a0 (D.getD 0 R_ii.z).a1 (D.getD 1 R_ii.z).a0 (D.getD 1 R_ii.z).a1 (D.getD 2 R_ii.z).a0 (D.getD 2 R_ii.z).a1 (D.getD 3 R_ii.z).a0 (D.getD 3 R_ii.z).a1 (D.getD 4 R_ii.z).a0 (D.getD 4 R_ii.z).a1 (D.getD 5 R_ii.z).a0 (D.getD 5 R_ii.z).a1 (D.getD 6 R_ii.z).a0 (D.getD 6 R_ii.z).a1 (D.getD 7 R_ii.z).a0 (D.getD 7 R_ii.z).a1) = some (.r0 true) := by
  have hlen : D.length = 8 := by have := doB_len (l := [⟨a0, a1⟩, ⟨a2, a3⟩, ⟨a4, a5⟩, ⟨a6, a7⟩, ⟨a8, a9⟩, ⟨a10, a11⟩, ⟨a12, a13⟩, ⟨a14, a15⟩]) rfl 5 op A B C rk rn; rw [hD] at this; exact this
  intro d
  induction d with
  | zero =>
    intro k f hk hf'
    obtain ⟨f, rfl⟩ : ∃ j, f = j + 1 := ⟨f - 1, by omega⟩
    obtain rfl : k = 8 := by omega
    exact iter_done (done hN u1 u2 n1 D hf hl hD)
  | succ d ih =>
    intro k f hk hf'
    obtain ⟨f, rfl⟩ : ∃ j, f = j + 1 := ⟨f - 1, by omega⟩
    refine (iter_next (y := .h1m0 n1 (k + 1) (D.getD 0 R_ii.z).a0 (D.getD 0 R_ii.z).a1 (D.getD 1 R_ii.z).a0 (D.getD 1 R_ii.z).a1 (D.getD 2 R_ii.z).a0 (D.getD 2 R_ii.z).a1 (D.getD 3 R_ii.z).a0 (D.getD 3 R_ii.z).a1 (D.getD 4 R_ii.z).a0 (D.getD 4 R_ii.z).a1 (D.getD 5 R_ii.z).a0 (D.getD 5 R_ii.z).a1 (D.getD 6 R_ii.z).a0 (D.getD 6 R_ii.z).a1 (D.getD 7 R_ii.z).a0 (D.getD 7 R_ii.z).a1) ?_).trans (ih (k + 1) f (by omega) (by omega))
    show law14_RegsOwn_h1m0 a0 a1 a2 a3 a4 a5 a6 a7 a8 a9 a10 a11 a12 a13 a14 a15 op A B C rk rn ok on a24 N n1 k (D.getD 0 R_ii.z).a0 (D.getD 0 R_ii.z).a1 (D.getD 1 R_ii.z).a0 (D.getD 1 R_ii.z).a1 (D.getD 2 R_ii.z).a0 (D.getD 2 R_ii.z).a1 (D.getD 3 R_ii.z).a0 (D.getD 3 R_ii.z).a1 (D.getD 4 R_ii.z).a0 (D.getD 4 R_ii.z).a1 (D.getD 5 R_ii.z).a0 (D.getD 5 R_ii.z).a1 (D.getD 6 R_ii.z).a0 (D.getD 6 R_ii.z).a1 (D.getD 7 R_ii.z).a0 (D.getD 7 R_ii.z).a1 = _
    unfold law14_RegsOwn_h1m0
    rw [eta8 hlen]
    refine ite_yes (by omega) (ite_eq (fun h => ?_) (fun _ => rfl))
    by_cases hA : (k : Int) = A
    · exact ite_no (fun h => h hA) rfl
    · exfalso
      have := doB_keep (l := [⟨a0, a1⟩, ⟨a2, a3⟩, ⟨a4, a5⟩, ⟨a6, a7⟩, ⟨a8, a9⟩, ⟨a10, a11⟩, ⟨a12, a13⟩, ⟨a14, a15⟩]) (pc := 5) (op := op) (A := A) (B := B) (C := C) (rk := rk) (rn := rn) h0 k (by show k < 8; omega) (by rw [hD]) hA
      rw [hD] at this
      exact h ⟨by rw [this], by rw [this]⟩
end
theorem runs (a0 a1 a2 a3 a4 a5 a6 a7 a8 a9 a10 a11 a12 a13 a14 a15 op A B C rk rn ok on a24 : Int) (u1 : 0 ≤ a24) (u2 : a24 ≤ 255) : law14_RegsOwn a0 a1 a2 a3 a4 a5 a6 a7 a8 a9 a10 a11 a12 a13 a14 a15 op A B C rk rn ok on a24 100000 = some (.r0 true) := by
  obtain ⟨d1, -⟩ := do_is (a0 := a0) (a1 := a1) (a2 := a2) (a3 := a3) (a4 := a4) (a5 := a5) (a6 := a6) (a7 := a7) (a8 := a8) (a9 := a9) (a10 := a10) (a11 := a11) (a12 := a12) (a13 := a13) (a14 := a14) (a15 := a15) (pc := 5) (A := A) (B := B) (C := C) (rk := rk) (rn := rn) (N := 100000) op (by decide)
  unfold law14_RegsOwn law14_RegsOwnIn
  rw [d1]
  have bad : ∀ x : List R_ii × Int × Int, x.1 = zz → x.2.1 = 0 → x.2.2 ≠ 0 → goM (law14_RegsOwnStep a0 a1 a2 a3 a4 a5 a6 a7 a8 a9 a10 a11 a12 a13 a14 a15 op A B C rk rn ok on a24 100000) 100000 ((some (mkD x)).bind fun r => match r with
      | .r0 y0 y1 y2 y3 y4 y5 y6 y7 y8 y9 y10 y11 y12 y13 y14 y15 y16 y17 => if ¬ (y17 = (0 : Int)) then (if ((y0 = (0 : Int) ∧ y1 = (0 : Int)) ∧ (y2 = (0 : Int) ∧ y3 = (0 : Int)) ∧ (y4 = (0 : Int) ∧ y5 = (0 : Int)) ∧ (y6 = (0 : Int) ∧ y7 = (0 : Int)) ∧ (y8 = (0 : Int) ∧ y9 = (0 : Int)) ∧ (y10 = (0 : Int) ∧ y11 = (0 : Int)) ∧ (y12 = (0 : Int) ∧ y13 = (0 : Int)) ∧ (y14 = (0 : Int) ∧ y15 = (0 : Int))) then (if y16 = (0 : Int) then (some (Sum.inr (.r0 true : law14_RegsOwnR)) : Option (law14_RegsOwnX ⊕ law14_RegsOwnR)) else (some (Sum.inr (.r0 false : law14_RegsOwnR)) : Option (law14_RegsOwnX ⊕ law14_RegsOwnR))) else (some (Sum.inr (.r0 false : law14_RegsOwnR)) : Option (law14_RegsOwnX ⊕ law14_RegsOwnR))) else (some (Sum.inl (.h1m0 y16 0 y0 y1 y2 y3 y4 y5 y6 y7 y8 y9 y10 y11 y12 y13 y14 y15 : law14_RegsOwnX)) : Option (law14_RegsOwnX ⊕ law14_RegsOwnR))) = some (.r0 true) := by
    intro x h1 h2 h3
    obtain ⟨x1, x2, x3⟩ := x
    have h1 : x1 = zz := h1
    have h2 : x2 = 0 := h2
    subst h1 h2
    exact goM_out (bind_to rfl <| ite_yes h3 <| ite_yes ⟨⟨rfl, rfl⟩, ⟨rfl, rfl⟩, ⟨rfl, rfl⟩, ⟨rfl, rfl⟩, ⟨rfl, rfl⟩, ⟨rfl, rfl⟩, ⟨rfl, rfl⟩, ⟨rfl, rfl⟩⟩ <| ite_yes rfl rfl)
  by_cases h : fineB ⟨op, A, B, C⟩ 100000 = true ∧ localP op
  · have e : doP [⟨a0, a1⟩, ⟨a2, a3⟩, ⟨a4, a5⟩, ⟨a6, a7⟩, ⟨a8, a9⟩, ⟨a10, a11⟩, ⟨a12, a13⟩, ⟨a14, a15⟩] 5 op A B C rk rn 100000 = doB [⟨a0, a1⟩, ⟨a2, a3⟩, ⟨a4, a5⟩, ⟨a6, a7⟩, ⟨a8, a9⟩, ⟨a10, a11⟩, ⟨a12, a13⟩, ⟨a14, a15⟩] 5 op A B C rk rn := if_pos h
    rw [e]
    by_cases he : (doB [⟨a0, a1⟩, ⟨a2, a3⟩, ⟨a4, a5⟩, ⟨a6, a7⟩, ⟨a8, a9⟩, ⟨a10, a11⟩, ⟨a12, a13⟩, ⟨a14, a15⟩] 5 op A B C rk rn).2.2 = 0
    · generalize hD : doB [⟨a0, a1⟩, ⟨a2, a3⟩, ⟨a4, a5⟩, ⟨a6, a7⟩, ⟨a8, a9⟩, ⟨a10, a11⟩, ⟨a12, a13⟩, ⟨a14, a15⟩] 5 op A B C rk rn = x at he
      obtain ⟨x1, x2, x3⟩ := x
      have he : x3 = 0 := he
      subst he
      have h0 : 0 ≤ A := by
        by_cases h8 : op = 8
        · obtain ⟨-, -, f8, -⟩ := fine_is op A B C (N := 100000) (by decide)
          exact (f8 h8 h.1).1
        · exact (opnds (by decide) h.1 h.2 h8).1.1
      have hin : ((some (mkD (x1, x2, 0))).bind fun r => match r with
        | .r0 y0 y1 y2 y3 y4 y5 y6 y7 y8 y9 y10 y11 y12 y13 y14 y15 y16 y17 => if ¬ (y17 = (0 : Int)) then (if ((y0 = (0 : Int) ∧ y1 = (0 : Int)) ∧ (y2 = (0 : Int) ∧ y3 = (0 : Int)) ∧ (y4 = (0 : Int) ∧ y5 = (0 : Int)) ∧ (y6 = (0 : Int) ∧ y7 = (0 : Int)) ∧ (y8 = (0 : Int) ∧ y9 = (0 : Int)) ∧ (y10 = (0 : Int) ∧ y11 = (0 : Int)) ∧ (y12 = (0 : Int) ∧ y13 = (0 : Int)) ∧ (y14 = (0 : Int) ∧ y15 = (0 : Int))) then (if y16 = (0 : Int) then (some (Sum.inr (.r0 true : law14_RegsOwnR)) : Option (law14_RegsOwnX ⊕ law14_RegsOwnR)) else (some (Sum.inr (.r0 false : law14_RegsOwnR)) : Option (law14_RegsOwnX ⊕ law14_RegsOwnR))) else (some (Sum.inr (.r0 false : law14_RegsOwnR)) : Option (law14_RegsOwnX ⊕ law14_RegsOwnR))) else (some (Sum.inl (.h1m0 y16 0 y0 y1 y2 y3 y4 y5 y6 y7 y8 y9 y10 y11 y12 y13 y14 y15 : law14_RegsOwnX)) : Option (law14_RegsOwnX ⊕ law14_RegsOwnR))) = some (.inl (.h1m0 x2 0 (x1.getD 0 R_ii.z).a0 (x1.getD 0 R_ii.z).a1 (x1.getD 1 R_ii.z).a0 (x1.getD 1 R_ii.z).a1 (x1.getD 2 R_ii.z).a0 (x1.getD 2 R_ii.z).a1 (x1.getD 3 R_ii.z).a0 (x1.getD 3 R_ii.z).a1 (x1.getD 4 R_ii.z).a0 (x1.getD 4 R_ii.z).a1 (x1.getD 5 R_ii.z).a0 (x1.getD 5 R_ii.z).a1 (x1.getD 6 R_ii.z).a0 (x1.getD 6 R_ii.z).a1 (x1.getD 7 R_ii.z).a0 (x1.getD 7 R_ii.z).a1)) := bind_to rfl <| ite_no (fun h => h rfl) rfl
      exact (goM_in hin).trans (loop (by decide) u1 u2 x2 x1 h.1 h.2 hD h0 8 0 100000 (by decide) (by decide))
    · obtain ⟨b1, b2⟩ := doB_bad he
      exact bad _ b1 b2 he
  · rw [doP_no _ _ h]
    exact bad _ rfl rfl (by decide)
end Rn
end Ev
end Go.Proofs.Ytnahodeffgoccaa
