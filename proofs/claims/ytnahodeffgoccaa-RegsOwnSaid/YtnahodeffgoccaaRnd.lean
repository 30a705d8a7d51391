/- What an instruction does with registers: plain. -/
import Derived.Test.YtnahodeffgoccaaRnv
namespace Go.Proofs.Ytnahodeffgoccaa
open Go.RowKit
namespace Ev
set_option linter.unusedVariables false
set_option linter.unusedSimpArgs false

def fineB (x : R_iiii) (N : Nat) : Bool := match ref10_Is x.a0 x.a1 x.a2 x.a3 N with
  | some (.r0 b) => b
  | none => false
theorem fine_is (op A B C : Int) {N : Nat} (hN : 4 ≤ N) : instr_Check op A B C N = some (.r0 (if fineB ⟨op, A, B, C⟩ N = true then 0 else 100)) ∧ ref10_Is op A B C N = some (.r0 (fineB ⟨op, A, B, C⟩ N)) ∧ Fine op A B C (fineB ⟨op, A, B, C⟩ N) := by
  obtain ⟨b, h1, h2, h3⟩ := check_is op A B C N hN
  have e : fineB ⟨op, A, B, C⟩ N = b := by unfold fineB; rw [h2]
  rw [e]; exact ⟨h1, h2, h3⟩
theorem reg_of {n c : Int} {M : Nat} (h : ref10_fits 1 n c M = some (.r0 true)) : 0 ≤ n ∧ n ≤ 7 := by
  unfold ref10_fits at h
  rw [if_pos rfl] at h
  by_cases h1 : (0 : Int) ≤ n
  · by_cases h2 : n < 8
    · omega
    · rw [if_pos h1, if_neg h2] at h; cases h
  · rw [if_neg h1] at h; cases h
theorem is_inv {op A B C t0 t1 t2 : Int} {N : Nat} (hH : ref10_Has op N = some (.r0 t0 t1 t2 true)) (h : ref10_Is op A B C N = some (.r0 true)) : ref10_fits t0 A 0 N = some (.r0 true) ∧ ref10_fits t1 B 0 N = some (.r0 true) ∧ ref10_fits t2 C B N = some (.r0 true) := by
  unfold ref10_Is at h
  rw [hH] at h
  have h : ((ref10_fits t0 A 0 N).bind fun r => match r with
      | .r0 y2_0 => if y2_0 = true then ((ref10_fits t1 B 0 N).bind fun r => match r with
        | .r0 y4_0 => if y4_0 = true then ((ref10_fits t2 C B N).bind fun r => match r with
          | .r0 y6_0 => if y6_0 = true then some (.r0 true : ref10_IsR) else some (.r0 false : ref10_IsR)) else some (.r0 false : ref10_IsR)) else some (.r0 false : ref10_IsR)) = some (.r0 true) := h
  generalize ref10_fits t0 A 0 N = q0 at h ⊢
  generalize ref10_fits t1 B 0 N = q1 at h ⊢
  generalize ref10_fits t2 C B N = q2 at h ⊢
  match q0, q1, q2 with
  | none, _, _ => cases h
  | some (.r0 false), _, _ => cases h
  | some (.r0 true), none, _ => cases h
  | some (.r0 true), some (.r0 false), _ => cases h
  | some (.r0 true), some (.r0 true), none => cases h
  | some (.r0 true), some (.r0 true), some (.r0 false) => cases h
  | some (.r0 true), some (.r0 true), some (.r0 true) => exact ⟨rfl, rfl, rfl⟩
abbrev rg (n : Int) : Prop := 0 ≤ n ∧ n ≤ 7
/-- The result of an instruction that leaves one. -/
def resP (l : List R_ii) (op B C rk rn : Int) : R_ii × Int :=
  if op = 1 then (⟨1, B⟩, 0) else if op = 2 then (⟨2, 0⟩, 0) else if op = 3 then (l.getD B.toNat R_ii.z, 0)
  else if op = 10 then (⟨rk, rn⟩, 0)
  else if op = 7 then (if (l.getD B.toNat R_ii.z).a0 = (l.getD C.toNat R_ii.z).a0 ∧ (l.getD B.toNat R_ii.z).a1 = (l.getD C.toNat R_ii.z).a1 then (⟨1, 1⟩, 0) else (⟨1, 0⟩, 0))
  else if (l.getD B.toNat R_ii.z).a0 = 1 ∧ (l.getD C.toNat R_ii.z).a0 = 1 then
    (if op = 4 then (⟨1, IntKind.i64.wrap ((l.getD B.toNat R_ii.z).a1 + (l.getD C.toNat R_ii.z).a1)⟩, 0)
     else if op = 5 then (⟨1, IntKind.i64.wrap ((l.getD B.toNat R_ii.z).a1 - (l.getD C.toNat R_ii.z).a1)⟩, 0)
     else if (l.getD B.toNat R_ii.z).a1 < (l.getD C.toNat R_ii.z).a1 then (⟨1, 1⟩, 0) else (⟨1, 0⟩, 0))
  else (⟨0, 0⟩, 10)
def zz : List R_ii := List.replicate 8 ⟨0, 0⟩
def zeroP (x : R_ii) : Prop := (x.a0 = 2 ∧ x.a1 = 0) ∨ (x.a0 = 1 ∧ x.a1 = 0)
instance (x : R_ii) : Decidable (zeroP x) := by unfold zeroP; infer_instance
def doB (l : List R_ii) (pc op A B C rk rn : Int) : List R_ii × Int × Int :=
  if pc < 0 ∨ 512 ≤ pc then (zz, 0, 5) else if op = 8 then (l, A, 0) else if op = 9 then (l, if zeroP (l.getD A.toNat R_ii.z) then B else pc + 1, 0) else if op = 19 then (l, pc + 1, 0)
  else if (resP l op B C rk rn).2 = 0 then (l.set A.toNat (resP l op B C rk rn).1, pc + 1, 0) else (zz, 0, (resP l op B C rk rn).2)
def localP (op : Int) : Prop := (1 ≤ op ∧ op ≤ 10) ∨ op = 19
instance (op : Int) : Decidable (localP op) := by unfold localP; infer_instance
def doP (l : List R_ii) (pc op A B C rk rn : Int) (N : Nat) : List R_ii × Int × Int :=
  if fineB ⟨op, A, B, C⟩ N = true ∧ localP op then doB l pc op A B C rk rn else (zz, 0, 100)
def mkD (x : List R_ii × Int × Int) : regs_DoR := .r0 (x.1.getD 0 R_ii.z).a0 (x.1.getD 0 R_ii.z).a1 (x.1.getD 1 R_ii.z).a0 (x.1.getD 1 R_ii.z).a1 (x.1.getD 2 R_ii.z).a0 (x.1.getD 2 R_ii.z).a1 (x.1.getD 3 R_ii.z).a0 (x.1.getD 3 R_ii.z).a1 (x.1.getD 4 R_ii.z).a0 (x.1.getD 4 R_ii.z).a1 (x.1.getD 5 R_ii.z).a0 (x.1.getD 5 R_ii.z).a1 (x.1.getD 6 R_ii.z).a0 (x.1.getD 6 R_ii.z).a1 (x.1.getD 7 R_ii.z).a0 (x.1.getD 7 R_ii.z).a1 x.2.1 x.2.2
def mkR (x : List R_ii × Int × Int) : ref14_DoR := .r0 (x.1.getD 0 R_ii.z).a0 (x.1.getD 0 R_ii.z).a1 (x.1.getD 1 R_ii.z).a0 (x.1.getD 1 R_ii.z).a1 (x.1.getD 2 R_ii.z).a0 (x.1.getD 2 R_ii.z).a1 (x.1.getD 3 R_ii.z).a0 (x.1.getD 3 R_ii.z).a1 (x.1.getD 4 R_ii.z).a0 (x.1.getD 4 R_ii.z).a1 (x.1.getD 5 R_ii.z).a0 (x.1.getD 5 R_ii.z).a1 (x.1.getD 6 R_ii.z).a0 (x.1.getD 6 R_ii.z).a1 (x.1.getD 7 R_ii.z).a0 (x.1.getD 7 R_ii.z).a1 x.2.1 x.2.2
section
variable {a0 a1 a2 a3 a4 a5 a6 a7 a8 a9 a10 a11 a12 a13 a14 a15 pc A B C rk rn : Int} {N : Nat}
theorem target_no (op : Int) (h8 : op ≠ 8) (h9 : op ≠ 9) : instr_Target op A B C N = some (.r0 0 false) := by
  unfold instr_Target; rw [if_neg h8, if_neg h9]
theorem next_no {op b0 b1 b2 b3 b4 b5 b6 b7 b8 b9 b10 b11 b12 b13 b14 b15 : Int} (h8 : op ≠ 8) (h9 : op ≠ 9) (h0 : 0 ≤ pc) (h5 : pc < 512) : regs_next a0 a1 a2 a3 a4 a5 a6 a7 a8 a9 a10 a11 a12 a13 a14 a15 b0 b1 b2 b3 b4 b5 b6 b7 b8 b9 b10 b11 b12 b13 b14 b15 pc op A B C N = some (.r0 (pc + 1)) := by
  unfold regs_next
  rw [w64 (by omega) (by omega)]
  exact ite_eq (fun _ => rfl) (fun _ => ite_no h9 <| ite_no h8 rfl)
theorem put_is {x y : Int} (hA : rg A) : regs_Put a0 a1 a2 a3 a4 a5 a6 a7 a8 a9 a10 a11 a12 a13 a14 a15 A x y N = some (match mkD (([⟨a0, a1⟩, ⟨a2, a3⟩, ⟨a4, a5⟩, ⟨a6, a7⟩, ⟨a8, a9⟩, ⟨a10, a11⟩, ⟨a12, a13⟩, ⟨a14, a15⟩] : List R_ii).set A.toNat ⟨x, y⟩, 0, 0) with | .r0 w0 w1 w2 w3 w4 w5 w6 w7 w8 w9 w10 w11 w12 w13 w14 w15 _ _ => .r0 w0 w1 w2 w3 w4 w5 w6 w7 w8 w9 w10 w11 w12 w13 w14 w15) := by
  unfold regs_Put
  exact ite_yes hA.1 <| ite_yes (by omega) rfl
theorem rput_is {x y : Int} (hA : rg A) : ref14_Put a0 a1 a2 a3 a4 a5 a6 a7 a8 a9 a10 a11 a12 a13 a14 a15 A x y N = some (match mkD (([⟨a0, a1⟩, ⟨a2, a3⟩, ⟨a4, a5⟩, ⟨a6, a7⟩, ⟨a8, a9⟩, ⟨a10, a11⟩, ⟨a12, a13⟩, ⟨a14, a15⟩] : List R_ii).set A.toNat ⟨x, y⟩, 0, 0) with | .r0 w0 w1 w2 w3 w4 w5 w6 w7 w8 w9 w10 w11 w12 w13 w14 w15 _ _ => .r0 w0 w1 w2 w3 w4 w5 w6 w7 w8 w9 w10 w11 w12 w13 w14 w15) := by
  unfold ref14_Put
  exact ite_yes hA.1 <| ite_yes (by omega) rfl
theorem res_1 : regs_result a0 a1 a2 a3 a4 a5 a6 a7 a8 a9 a10 a11 a12 a13 a14 a15 1 A B C rk rn N = some (.r0 (resP [⟨a0, a1⟩, ⟨a2, a3⟩, ⟨a4, a5⟩, ⟨a6, a7⟩, ⟨a8, a9⟩, ⟨a10, a11⟩, ⟨a12, a13⟩, ⟨a14, a15⟩] 1 B C rk rn).1.a0 (resP [⟨a0, a1⟩, ⟨a2, a3⟩, ⟨a4, a5⟩, ⟨a6, a7⟩, ⟨a8, a9⟩, ⟨a10, a11⟩, ⟨a12, a13⟩, ⟨a14, a15⟩] 1 B C rk rn).1.a1 (resP [⟨a0, a1⟩, ⟨a2, a3⟩, ⟨a4, a5⟩, ⟨a6, a7⟩, ⟨a8, a9⟩, ⟨a10, a11⟩, ⟨a12, a13⟩, ⟨a14, a15⟩] 1 B C rk rn).2) ∧ ref14_made a0 a1 a2 a3 a4 a5 a6 a7 a8 a9 a10 a11 a12 a13 a14 a15 1 A B C rk rn N = some (.r0 (resP [⟨a0, a1⟩, ⟨a2, a3⟩, ⟨a4, a5⟩, ⟨a6, a7⟩, ⟨a8, a9⟩, ⟨a10, a11⟩, ⟨a12, a13⟩, ⟨a14, a15⟩] 1 B C rk rn).1.a0 (resP [⟨a0, a1⟩, ⟨a2, a3⟩, ⟨a4, a5⟩, ⟨a6, a7⟩, ⟨a8, a9⟩, ⟨a10, a11⟩, ⟨a12, a13⟩, ⟨a14, a15⟩] 1 B C rk rn).1.a1 (resP [⟨a0, a1⟩, ⟨a2, a3⟩, ⟨a4, a5⟩, ⟨a6, a7⟩, ⟨a8, a9⟩, ⟨a10, a11⟩, ⟨a12, a13⟩, ⟨a14, a15⟩] 1 B C rk rn).2) := by
  exact ⟨rfl, rfl⟩
theorem res_2 : regs_result a0 a1 a2 a3 a4 a5 a6 a7 a8 a9 a10 a11 a12 a13 a14 a15 2 A B C rk rn N = some (.r0 (resP [⟨a0, a1⟩, ⟨a2, a3⟩, ⟨a4, a5⟩, ⟨a6, a7⟩, ⟨a8, a9⟩, ⟨a10, a11⟩, ⟨a12, a13⟩, ⟨a14, a15⟩] 2 B C rk rn).1.a0 (resP [⟨a0, a1⟩, ⟨a2, a3⟩, ⟨a4, a5⟩, ⟨a6, a7⟩, ⟨a8, a9⟩, ⟨a10, a11⟩, ⟨a12, a13⟩, ⟨a14, a15⟩] 2 B C rk rn).1.a1 (resP [⟨a0, a1⟩, ⟨a2, a3⟩, ⟨a4, a5⟩, ⟨a6, a7⟩, ⟨a8, a9⟩, ⟨a10, a11⟩, ⟨a12, a13⟩, ⟨a14, a15⟩] 2 B C rk rn).2) ∧ ref14_made a0 a1 a2 a3 a4 a5 a6 a7 a8 a9 a10 a11 a12 a13 a14 a15 2 A B C rk rn N = some (.r0 (resP [⟨a0, a1⟩, ⟨a2, a3⟩, ⟨a4, a5⟩, ⟨a6, a7⟩, ⟨a8, a9⟩, ⟨a10, a11⟩, ⟨a12, a13⟩, ⟨a14, a15⟩] 2 B C rk rn).1.a0 (resP [⟨a0, a1⟩, ⟨a2, a3⟩, ⟨a4, a5⟩, ⟨a6, a7⟩, ⟨a8, a9⟩, ⟨a10, a11⟩, ⟨a12, a13⟩, ⟨a14, a15⟩] 2 B C rk rn).1.a1 (resP [⟨a0, a1⟩, ⟨a2, a3⟩, ⟨a4, a5⟩, ⟨a6, a7⟩, ⟨a8, a9⟩, ⟨a10, a11⟩, ⟨a12, a13⟩, ⟨a14, a15⟩] 2 B C rk rn).2) := by
  exact ⟨rfl, rfl⟩
theorem res_3 (hB : rg B) : regs_result a0 a1 a2 a3 a4 a5 a6 a7 a8 a9 a10 a11 a12 a13 a14 a15 3 A B C rk rn N = some (.r0 (resP [⟨a0, a1⟩, ⟨a2, a3⟩, ⟨a4, a5⟩, ⟨a6, a7⟩, ⟨a8, a9⟩, ⟨a10, a11⟩, ⟨a12, a13⟩, ⟨a14, a15⟩] 3 B C rk rn).1.a0 (resP [⟨a0, a1⟩, ⟨a2, a3⟩, ⟨a4, a5⟩, ⟨a6, a7⟩, ⟨a8, a9⟩, ⟨a10, a11⟩, ⟨a12, a13⟩, ⟨a14, a15⟩] 3 B C rk rn).1.a1 (resP [⟨a0, a1⟩, ⟨a2, a3⟩, ⟨a4, a5⟩, ⟨a6, a7⟩, ⟨a8, a9⟩, ⟨a10, a11⟩, ⟨a12, a13⟩, ⟨a14, a15⟩] 3 B C rk rn).2) ∧ ref14_made a0 a1 a2 a3 a4 a5 a6 a7 a8 a9 a10 a11 a12 a13 a14 a15 3 A B C rk rn N = some (.r0 (resP [⟨a0, a1⟩, ⟨a2, a3⟩, ⟨a4, a5⟩, ⟨a6, a7⟩, ⟨a8, a9⟩, ⟨a10, a11⟩, ⟨a12, a13⟩, ⟨a14, a15⟩] 3 B C rk rn).1.a0 (resP [⟨a0, a1⟩, ⟨a2, a3⟩, ⟨a4, a5⟩, ⟨a6, a7⟩, ⟨a8, a9⟩, ⟨a10, a11⟩, ⟨a12, a13⟩, ⟨a14, a15⟩] 3 B C rk rn).1.a1 (resP [⟨a0, a1⟩, ⟨a2, a3⟩, ⟨a4, a5⟩, ⟨a6, a7⟩, ⟨a8, a9⟩, ⟨a10, a11⟩, ⟨a12, a13⟩, ⟨a14, a15⟩] 3 B C rk rn).2) := by
  refine ⟨?_, ?_⟩
  · unfold regs_result; exact ite_no (by decide) (ite_no (by decide) (ite_yes rfl (ite_yes hB.1 (ite_yes (by omega) rfl))))
  · unfold ref14_made; exact ite_no (by decide) (ite_no (by decide) (ite_yes rfl (ite_yes hB.1 (ite_yes (by omega) rfl))))
theorem res_4 (hB : rg B) (hC : rg C) : regs_result a0 a1 a2 a3 a4 a5 a6 a7 a8 a9 a10 a11 a12 a13 a14 a15 4 A B C rk rn N = some (.r0 (resP [⟨a0, a1⟩, ⟨a2, a3⟩, ⟨a4, a5⟩, ⟨a6, a7⟩, ⟨a8, a9⟩, ⟨a10, a11⟩, ⟨a12, a13⟩, ⟨a14, a15⟩] 4 B C rk rn).1.a0 (resP [⟨a0, a1⟩, ⟨a2, a3⟩, ⟨a4, a5⟩, ⟨a6, a7⟩, ⟨a8, a9⟩, ⟨a10, a11⟩, ⟨a12, a13⟩, ⟨a14, a15⟩] 4 B C rk rn).1.a1 (resP [⟨a0, a1⟩, ⟨a2, a3⟩, ⟨a4, a5⟩, ⟨a6, a7⟩, ⟨a8, a9⟩, ⟨a10, a11⟩, ⟨a12, a13⟩, ⟨a14, a15⟩] 4 B C rk rn).2) ∧ ref14_made a0 a1 a2 a3 a4 a5 a6 a7 a8 a9 a10 a11 a12 a13 a14 a15 4 A B C rk rn N = some (.r0 (resP [⟨a0, a1⟩, ⟨a2, a3⟩, ⟨a4, a5⟩, ⟨a6, a7⟩, ⟨a8, a9⟩, ⟨a10, a11⟩, ⟨a12, a13⟩, ⟨a14, a15⟩] 4 B C rk rn).1.a0 (resP [⟨a0, a1⟩, ⟨a2, a3⟩, ⟨a4, a5⟩, ⟨a6, a7⟩, ⟨a8, a9⟩, ⟨a10, a11⟩, ⟨a12, a13⟩, ⟨a14, a15⟩] 4 B C rk rn).1.a1 (resP [⟨a0, a1⟩, ⟨a2, a3⟩, ⟨a4, a5⟩, ⟨a6, a7⟩, ⟨a8, a9⟩, ⟨a10, a11⟩, ⟨a12, a13⟩, ⟨a14, a15⟩] 4 B C rk rn).2) := by
  have e : resP [⟨a0, a1⟩, ⟨a2, a3⟩, ⟨a4, a5⟩, ⟨a6, a7⟩, ⟨a8, a9⟩, ⟨a10, a11⟩, ⟨a12, a13⟩, ⟨a14, a15⟩] 4 B C rk rn = (if (([⟨a0, a1⟩, ⟨a2, a3⟩, ⟨a4, a5⟩, ⟨a6, a7⟩, ⟨a8, a9⟩, ⟨a10, a11⟩, ⟨a12, a13⟩, ⟨a14, a15⟩] : List R_ii).getD B.toNat R_ii.z).a0 = 1 ∧ (([⟨a0, a1⟩, ⟨a2, a3⟩, ⟨a4, a5⟩, ⟨a6, a7⟩, ⟨a8, a9⟩, ⟨a10, a11⟩, ⟨a12, a13⟩, ⟨a14, a15⟩] : List R_ii).getD C.toNat R_ii.z).a0 = 1 then
      ((⟨1, IntKind.i64.wrap ((([⟨a0, a1⟩, ⟨a2, a3⟩, ⟨a4, a5⟩, ⟨a6, a7⟩, ⟨a8, a9⟩, ⟨a10, a11⟩, ⟨a12, a13⟩, ⟨a14, a15⟩] : List R_ii).getD B.toNat R_ii.z).a1 + (([⟨a0, a1⟩, ⟨a2, a3⟩, ⟨a4, a5⟩, ⟨a6, a7⟩, ⟨a8, a9⟩, ⟨a10, a11⟩, ⟨a12, a13⟩, ⟨a14, a15⟩] : List R_ii).getD C.toNat R_ii.z).a1)⟩, 0)) else (⟨0, 0⟩, 10)) := rfl
  rw [e]
  refine ⟨?_, ?_⟩
  · unfold regs_result
    refine ite_no (by decide) <| ite_no (by decide) <| ite_no (by decide) <| ite_yes rfl <| ite_yes hB.1 <| ite_yes (by omega) <| ite_yes hC.1 <| ite_yes (by omega) ?_
    unfold value_Add
    generalize ([⟨a0, a1⟩, ⟨a2, a3⟩, ⟨a4, a5⟩, ⟨a6, a7⟩, ⟨a8, a9⟩, ⟨a10, a11⟩, ⟨a12, a13⟩, ⟨a14, a15⟩] : List R_ii).getD B.toNat R_ii.z = u
    generalize ([⟨a0, a1⟩, ⟨a2, a3⟩, ⟨a4, a5⟩, ⟨a6, a7⟩, ⟨a8, a9⟩, ⟨a10, a11⟩, ⟨a12, a13⟩, ⟨a14, a15⟩] : List R_ii).getD C.toNat R_ii.z = v
    by_cases h1 : u.a0 = 1
    · by_cases h2 : v.a0 = 1
      · rw [if_pos h1, if_pos h2, if_pos (show u.a0 = 1 ∧ v.a0 = 1 from ⟨h1, h2⟩)]
        rfl
      · rw [if_pos h1, if_neg h2, if_neg (fun h => h2 h.2)]; rfl
    · rw [if_neg h1, if_neg (fun h => h1 h.1)]; rfl
  · unfold ref14_made
    refine ite_no (by decide) <| ite_no (by decide) <| ite_no (by decide) <| ite_yes rfl <| ite_yes hB.1 <| ite_yes (by omega) <| ite_yes hC.1 <| ite_yes (by omega) ?_
    unfold ref01_Add
    generalize ([⟨a0, a1⟩, ⟨a2, a3⟩, ⟨a4, a5⟩, ⟨a6, a7⟩, ⟨a8, a9⟩, ⟨a10, a11⟩, ⟨a12, a13⟩, ⟨a14, a15⟩] : List R_ii).getD B.toNat R_ii.z = u
    generalize ([⟨a0, a1⟩, ⟨a2, a3⟩, ⟨a4, a5⟩, ⟨a6, a7⟩, ⟨a8, a9⟩, ⟨a10, a11⟩, ⟨a12, a13⟩, ⟨a14, a15⟩] : List R_ii).getD C.toNat R_ii.z = v
    by_cases h1 : u.a0 = 1
    · by_cases h2 : v.a0 = 1
      · rw [if_pos h1, if_pos h2, if_pos (show u.a0 = 1 ∧ v.a0 = 1 from ⟨h1, h2⟩)]
        rfl
      · rw [if_pos h1, if_neg h2, if_neg (fun h => h2 h.2)]; rfl
    · rw [if_neg h1, if_neg (fun h => h1 h.1)]; rfl
theorem res_5 (hB : rg B) (hC : rg C) : regs_result a0 a1 a2 a3 a4 a5 a6 a7 a8 a9 a10 a11 a12 a13 a14 a15 5 A B C rk rn N = some (.r0 (resP [⟨a0, a1⟩, ⟨a2, a3⟩, ⟨a4, a5⟩, ⟨a6, a7⟩, ⟨a8, a9⟩, ⟨a10, a11⟩, ⟨a12, a13⟩, ⟨a14, a15⟩] 5 B C rk rn).1.a0 (resP [⟨a0, a1⟩, ⟨a2, a3⟩, ⟨a4, a5⟩, ⟨a6, a7⟩, ⟨a8, a9⟩, ⟨a10, a11⟩, ⟨a12, a13⟩, ⟨a14, a15⟩] 5 B C rk rn).1.a1 (resP [⟨a0, a1⟩, ⟨a2, a3⟩, ⟨a4, a5⟩, ⟨a6, a7⟩, ⟨a8, a9⟩, ⟨a10, a11⟩, ⟨a12, a13⟩, ⟨a14, a15⟩] 5 B C rk rn).2) ∧ ref14_made a0 a1 a2 a3 a4 a5 a6 a7 a8 a9 a10 a11 a12 a13 a14 a15 5 A B C rk rn N = some (.r0 (resP [⟨a0, a1⟩, ⟨a2, a3⟩, ⟨a4, a5⟩, ⟨a6, a7⟩, ⟨a8, a9⟩, ⟨a10, a11⟩, ⟨a12, a13⟩, ⟨a14, a15⟩] 5 B C rk rn).1.a0 (resP [⟨a0, a1⟩, ⟨a2, a3⟩, ⟨a4, a5⟩, ⟨a6, a7⟩, ⟨a8, a9⟩, ⟨a10, a11⟩, ⟨a12, a13⟩, ⟨a14, a15⟩] 5 B C rk rn).1.a1 (resP [⟨a0, a1⟩, ⟨a2, a3⟩, ⟨a4, a5⟩, ⟨a6, a7⟩, ⟨a8, a9⟩, ⟨a10, a11⟩, ⟨a12, a13⟩, ⟨a14, a15⟩] 5 B C rk rn).2) := by
  have e : resP [⟨a0, a1⟩, ⟨a2, a3⟩, ⟨a4, a5⟩, ⟨a6, a7⟩, ⟨a8, a9⟩, ⟨a10, a11⟩, ⟨a12, a13⟩, ⟨a14, a15⟩] 5 B C rk rn = (if (([⟨a0, a1⟩, ⟨a2, a3⟩, ⟨a4, a5⟩, ⟨a6, a7⟩, ⟨a8, a9⟩, ⟨a10, a11⟩, ⟨a12, a13⟩, ⟨a14, a15⟩] : List R_ii).getD B.toNat R_ii.z).a0 = 1 ∧ (([⟨a0, a1⟩, ⟨a2, a3⟩, ⟨a4, a5⟩, ⟨a6, a7⟩, ⟨a8, a9⟩, ⟨a10, a11⟩, ⟨a12, a13⟩, ⟨a14, a15⟩] : List R_ii).getD C.toNat R_ii.z).a0 = 1 then
      ((⟨1, IntKind.i64.wrap ((([⟨a0, a1⟩, ⟨a2, a3⟩, ⟨a4, a5⟩, ⟨a6, a7⟩, ⟨a8, a9⟩, ⟨a10, a11⟩, ⟨a12, a13⟩, ⟨a14, a15⟩] : List R_ii).getD B.toNat R_ii.z).a1 - (([⟨a0, a1⟩, ⟨a2, a3⟩, ⟨a4, a5⟩, ⟨a6, a7⟩, ⟨a8, a9⟩, ⟨a10, a11⟩, ⟨a12, a13⟩, ⟨a14, a15⟩] : List R_ii).getD C.toNat R_ii.z).a1)⟩, 0)) else (⟨0, 0⟩, 10)) := rfl
  rw [e]
  refine ⟨?_, ?_⟩
  · unfold regs_result
    refine ite_no (by decide) <| ite_no (by decide) <| ite_no (by decide) <| ite_no (by decide) <| ite_yes rfl <| ite_yes hB.1 <| ite_yes (by omega) <| ite_yes hC.1 <| ite_yes (by omega) ?_
    unfold value_Sub
    generalize ([⟨a0, a1⟩, ⟨a2, a3⟩, ⟨a4, a5⟩, ⟨a6, a7⟩, ⟨a8, a9⟩, ⟨a10, a11⟩, ⟨a12, a13⟩, ⟨a14, a15⟩] : List R_ii).getD B.toNat R_ii.z = u
    generalize ([⟨a0, a1⟩, ⟨a2, a3⟩, ⟨a4, a5⟩, ⟨a6, a7⟩, ⟨a8, a9⟩, ⟨a10, a11⟩, ⟨a12, a13⟩, ⟨a14, a15⟩] : List R_ii).getD C.toNat R_ii.z = v
    by_cases h1 : u.a0 = 1
    · by_cases h2 : v.a0 = 1
      · rw [if_pos h1, if_pos h2, if_pos (show u.a0 = 1 ∧ v.a0 = 1 from ⟨h1, h2⟩)]
        rfl
      · rw [if_pos h1, if_neg h2, if_neg (fun h => h2 h.2)]; rfl
    · rw [if_neg h1, if_neg (fun h => h1 h.1)]; rfl
  · unfold ref14_made
    refine ite_no (by decide) <| ite_no (by decide) <| ite_no (by decide) <| ite_no (by decide) <| ite_yes rfl <| ite_yes hB.1 <| ite_yes (by omega) <| ite_yes hC.1 <| ite_yes (by omega) ?_
    unfold ref01_Sub
    generalize ([⟨a0, a1⟩, ⟨a2, a3⟩, ⟨a4, a5⟩, ⟨a6, a7⟩, ⟨a8, a9⟩, ⟨a10, a11⟩, ⟨a12, a13⟩, ⟨a14, a15⟩] : List R_ii).getD B.toNat R_ii.z = u
    generalize ([⟨a0, a1⟩, ⟨a2, a3⟩, ⟨a4, a5⟩, ⟨a6, a7⟩, ⟨a8, a9⟩, ⟨a10, a11⟩, ⟨a12, a13⟩, ⟨a14, a15⟩] : List R_ii).getD C.toNat R_ii.z = v
    by_cases h1 : u.a0 = 1
    · by_cases h2 : v.a0 = 1
      · rw [if_pos h1, if_pos h2, if_pos (show u.a0 = 1 ∧ v.a0 = 1 from ⟨h1, h2⟩)]
        rfl
      · rw [if_pos h1, if_neg h2, if_neg (fun h => h2 h.2)]; rfl
    · rw [if_neg h1, if_neg (fun h => h1 h.1)]; rfl
theorem res_6 (hB : rg B) (hC : rg C) : regs_result a0 a1 a2 a3 a4 a5 a6 a7 a8 a9 a10 a11 a12 a13 a14 a15 6 A B C rk rn N = some (.r0 (resP [⟨a0, a1⟩, ⟨a2, a3⟩, ⟨a4, a5⟩, ⟨a6, a7⟩, ⟨a8, a9⟩, ⟨a10, a11⟩, ⟨a12, a13⟩, ⟨a14, a15⟩] 6 B C rk rn).1.a0 (resP [⟨a0, a1⟩, ⟨a2, a3⟩, ⟨a4, a5⟩, ⟨a6, a7⟩, ⟨a8, a9⟩, ⟨a10, a11⟩, ⟨a12, a13⟩, ⟨a14, a15⟩] 6 B C rk rn).1.a1 (resP [⟨a0, a1⟩, ⟨a2, a3⟩, ⟨a4, a5⟩, ⟨a6, a7⟩, ⟨a8, a9⟩, ⟨a10, a11⟩, ⟨a12, a13⟩, ⟨a14, a15⟩] 6 B C rk rn).2) ∧ ref14_made a0 a1 a2 a3 a4 a5 a6 a7 a8 a9 a10 a11 a12 a13 a14 a15 6 A B C rk rn N = some (.r0 (resP [⟨a0, a1⟩, ⟨a2, a3⟩, ⟨a4, a5⟩, ⟨a6, a7⟩, ⟨a8, a9⟩, ⟨a10, a11⟩, ⟨a12, a13⟩, ⟨a14, a15⟩] 6 B C rk rn).1.a0 (resP [⟨a0, a1⟩, ⟨a2, a3⟩, ⟨a4, a5⟩, ⟨a6, a7⟩, ⟨a8, a9⟩, ⟨a10, a11⟩, ⟨a12, a13⟩, ⟨a14, a15⟩] 6 B C rk rn).1.a1 (resP [⟨a0, a1⟩, ⟨a2, a3⟩, ⟨a4, a5⟩, ⟨a6, a7⟩, ⟨a8, a9⟩, ⟨a10, a11⟩, ⟨a12, a13⟩, ⟨a14, a15⟩] 6 B C rk rn).2) := by
  have e : resP [⟨a0, a1⟩, ⟨a2, a3⟩, ⟨a4, a5⟩, ⟨a6, a7⟩, ⟨a8, a9⟩, ⟨a10, a11⟩, ⟨a12, a13⟩, ⟨a14, a15⟩] 6 B C rk rn = (if (([⟨a0, a1⟩, ⟨a2, a3⟩, ⟨a4, a5⟩, ⟨a6, a7⟩, ⟨a8, a9⟩, ⟨a10, a11⟩, ⟨a12, a13⟩, ⟨a14, a15⟩] : List R_ii).getD B.toNat R_ii.z).a0 = 1 ∧ (([⟨a0, a1⟩, ⟨a2, a3⟩, ⟨a4, a5⟩, ⟨a6, a7⟩, ⟨a8, a9⟩, ⟨a10, a11⟩, ⟨a12, a13⟩, ⟨a14, a15⟩] : List R_ii).getD C.toNat R_ii.z).a0 = 1 then
      (if (([⟨a0, a1⟩, ⟨a2, a3⟩, ⟨a4, a5⟩, ⟨a6, a7⟩, ⟨a8, a9⟩, ⟨a10, a11⟩, ⟨a12, a13⟩, ⟨a14, a15⟩] : List R_ii).getD B.toNat R_ii.z).a1 < (([⟨a0, a1⟩, ⟨a2, a3⟩, ⟨a4, a5⟩, ⟨a6, a7⟩, ⟨a8, a9⟩, ⟨a10, a11⟩, ⟨a12, a13⟩, ⟨a14, a15⟩] : List R_ii).getD C.toNat R_ii.z).a1 then (⟨1, 1⟩, 0) else (⟨1, 0⟩, 0)) else (⟨0, 0⟩, 10)) := rfl
  rw [e]
  refine ⟨?_, ?_⟩
  · unfold regs_result
    refine ite_no (by decide) <| ite_no (by decide) <| ite_no (by decide) <| ite_no (by decide) <| ite_no (by decide) <| ite_yes rfl <| ite_yes hB.1 <| ite_yes (by omega) <| ite_yes hC.1 <| ite_yes (by omega) ?_
    unfold value_Less
    generalize ([⟨a0, a1⟩, ⟨a2, a3⟩, ⟨a4, a5⟩, ⟨a6, a7⟩, ⟨a8, a9⟩, ⟨a10, a11⟩, ⟨a12, a13⟩, ⟨a14, a15⟩] : List R_ii).getD B.toNat R_ii.z = u
    generalize ([⟨a0, a1⟩, ⟨a2, a3⟩, ⟨a4, a5⟩, ⟨a6, a7⟩, ⟨a8, a9⟩, ⟨a10, a11⟩, ⟨a12, a13⟩, ⟨a14, a15⟩] : List R_ii).getD C.toNat R_ii.z = v
    by_cases h1 : u.a0 = 1
    · by_cases h2 : v.a0 = 1
      · rw [if_pos h1, if_pos h2, if_pos (show u.a0 = 1 ∧ v.a0 = 1 from ⟨h1, h2⟩)]
        by_cases h3 : u.a1 < v.a1
        · rw [if_pos h3, if_pos h3]; rfl
        · rw [if_neg h3, if_neg h3]; rfl
      · rw [if_pos h1, if_neg h2, if_neg (fun h => h2 h.2)]; rfl
    · rw [if_neg h1, if_neg (fun h => h1 h.1)]; rfl
  · unfold ref14_made
    refine ite_no (by decide) <| ite_no (by decide) <| ite_no (by decide) <| ite_no (by decide) <| ite_no (by decide) <| ite_yes rfl <| ite_yes hB.1 <| ite_yes (by omega) <| ite_yes hC.1 <| ite_yes (by omega) ?_
    unfold ref01_Less
    generalize ([⟨a0, a1⟩, ⟨a2, a3⟩, ⟨a4, a5⟩, ⟨a6, a7⟩, ⟨a8, a9⟩, ⟨a10, a11⟩, ⟨a12, a13⟩, ⟨a14, a15⟩] : List R_ii).getD B.toNat R_ii.z = u
    generalize ([⟨a0, a1⟩, ⟨a2, a3⟩, ⟨a4, a5⟩, ⟨a6, a7⟩, ⟨a8, a9⟩, ⟨a10, a11⟩, ⟨a12, a13⟩, ⟨a14, a15⟩] : List R_ii).getD C.toNat R_ii.z = v
    by_cases h1 : u.a0 = 1
    · by_cases h2 : v.a0 = 1
      · rw [if_pos h1, if_pos h2, if_pos (show u.a0 = 1 ∧ v.a0 = 1 from ⟨h1, h2⟩)]
        by_cases h3 : u.a1 < v.a1
        · rw [if_pos h3, if_pos h3]; rfl
        · rw [if_neg h3, if_neg h3]; rfl
      · rw [if_pos h1, if_neg h2, if_neg (fun h => h2 h.2)]; rfl
    · rw [if_neg h1, if_neg (fun h => h1 h.1)]; rfl
theorem res_7 (hB : rg B) (hC : rg C) : regs_result a0 a1 a2 a3 a4 a5 a6 a7 a8 a9 a10 a11 a12 a13 a14 a15 7 A B C rk rn N = some (.r0 (resP [⟨a0, a1⟩, ⟨a2, a3⟩, ⟨a4, a5⟩, ⟨a6, a7⟩, ⟨a8, a9⟩, ⟨a10, a11⟩, ⟨a12, a13⟩, ⟨a14, a15⟩] 7 B C rk rn).1.a0 (resP [⟨a0, a1⟩, ⟨a2, a3⟩, ⟨a4, a5⟩, ⟨a6, a7⟩, ⟨a8, a9⟩, ⟨a10, a11⟩, ⟨a12, a13⟩, ⟨a14, a15⟩] 7 B C rk rn).1.a1 (resP [⟨a0, a1⟩, ⟨a2, a3⟩, ⟨a4, a5⟩, ⟨a6, a7⟩, ⟨a8, a9⟩, ⟨a10, a11⟩, ⟨a12, a13⟩, ⟨a14, a15⟩] 7 B C rk rn).2) ∧ ref14_made a0 a1 a2 a3 a4 a5 a6 a7 a8 a9 a10 a11 a12 a13 a14 a15 7 A B C rk rn N = some (.r0 (resP [⟨a0, a1⟩, ⟨a2, a3⟩, ⟨a4, a5⟩, ⟨a6, a7⟩, ⟨a8, a9⟩, ⟨a10, a11⟩, ⟨a12, a13⟩, ⟨a14, a15⟩] 7 B C rk rn).1.a0 (resP [⟨a0, a1⟩, ⟨a2, a3⟩, ⟨a4, a5⟩, ⟨a6, a7⟩, ⟨a8, a9⟩, ⟨a10, a11⟩, ⟨a12, a13⟩, ⟨a14, a15⟩] 7 B C rk rn).1.a1 (resP [⟨a0, a1⟩, ⟨a2, a3⟩, ⟨a4, a5⟩, ⟨a6, a7⟩, ⟨a8, a9⟩, ⟨a10, a11⟩, ⟨a12, a13⟩, ⟨a14, a15⟩] 7 B C rk rn).2) := by
  have e : resP [⟨a0, a1⟩, ⟨a2, a3⟩, ⟨a4, a5⟩, ⟨a6, a7⟩, ⟨a8, a9⟩, ⟨a10, a11⟩, ⟨a12, a13⟩, ⟨a14, a15⟩] 7 B C rk rn = (if (([⟨a0, a1⟩, ⟨a2, a3⟩, ⟨a4, a5⟩, ⟨a6, a7⟩, ⟨a8, a9⟩, ⟨a10, a11⟩, ⟨a12, a13⟩, ⟨a14, a15⟩] : List R_ii).getD B.toNat R_ii.z).a0 = (([⟨a0, a1⟩, ⟨a2, a3⟩, ⟨a4, a5⟩, ⟨a6, a7⟩, ⟨a8, a9⟩, ⟨a10, a11⟩, ⟨a12, a13⟩, ⟨a14, a15⟩] : List R_ii).getD C.toNat R_ii.z).a0 ∧ (([⟨a0, a1⟩, ⟨a2, a3⟩, ⟨a4, a5⟩, ⟨a6, a7⟩, ⟨a8, a9⟩, ⟨a10, a11⟩, ⟨a12, a13⟩, ⟨a14, a15⟩] : List R_ii).getD B.toNat R_ii.z).a1 = (([⟨a0, a1⟩, ⟨a2, a3⟩, ⟨a4, a5⟩, ⟨a6, a7⟩, ⟨a8, a9⟩, ⟨a10, a11⟩, ⟨a12, a13⟩, ⟨a14, a15⟩] : List R_ii).getD C.toNat R_ii.z).a1 then (⟨1, 1⟩, 0) else (⟨1, 0⟩, 0)) := rfl
  rw [e]
  refine ⟨?_, ?_⟩
  · unfold regs_result
    refine ite_no (by decide) <| ite_no (by decide) <| ite_no (by decide) <| ite_no (by decide) <| ite_no (by decide) <| ite_no (by decide) <| ite_yes rfl <| ite_yes hB.1 <| ite_yes (by omega) <| ite_yes hC.1 <| ite_yes (by omega) <| ite_eq (fun h => ?_) (fun h => ?_)
    · rw [if_pos h]
    · rw [if_neg h]
  · unfold ref14_made
    refine ite_no (by decide) <| ite_no (by decide) <| ite_no (by decide) <| ite_no (by decide) <| ite_no (by decide) <| ite_no (by decide) <| ite_yes rfl <| ite_yes hB.1 <| ite_yes (by omega) <| ite_yes hC.1 <| ite_yes (by omega) <| ite_eq (fun h => ?_) (fun h => ?_)
    · rw [if_pos h]
    · rw [if_neg h]
theorem res_10 : regs_result a0 a1 a2 a3 a4 a5 a6 a7 a8 a9 a10 a11 a12 a13 a14 a15 10 A B C rk rn N = some (.r0 (resP [⟨a0, a1⟩, ⟨a2, a3⟩, ⟨a4, a5⟩, ⟨a6, a7⟩, ⟨a8, a9⟩, ⟨a10, a11⟩, ⟨a12, a13⟩, ⟨a14, a15⟩] 10 B C rk rn).1.a0 (resP [⟨a0, a1⟩, ⟨a2, a3⟩, ⟨a4, a5⟩, ⟨a6, a7⟩, ⟨a8, a9⟩, ⟨a10, a11⟩, ⟨a12, a13⟩, ⟨a14, a15⟩] 10 B C rk rn).1.a1 (resP [⟨a0, a1⟩, ⟨a2, a3⟩, ⟨a4, a5⟩, ⟨a6, a7⟩, ⟨a8, a9⟩, ⟨a10, a11⟩, ⟨a12, a13⟩, ⟨a14, a15⟩] 10 B C rk rn).2) ∧ ref14_made a0 a1 a2 a3 a4 a5 a6 a7 a8 a9 a10 a11 a12 a13 a14 a15 10 A B C rk rn N = some (.r0 (resP [⟨a0, a1⟩, ⟨a2, a3⟩, ⟨a4, a5⟩, ⟨a6, a7⟩, ⟨a8, a9⟩, ⟨a10, a11⟩, ⟨a12, a13⟩, ⟨a14, a15⟩] 10 B C rk rn).1.a0 (resP [⟨a0, a1⟩, ⟨a2, a3⟩, ⟨a4, a5⟩, ⟨a6, a7⟩, ⟨a8, a9⟩, ⟨a10, a11⟩, ⟨a12, a13⟩, ⟨a14, a15⟩] 10 B C rk rn).1.a1 (resP [⟨a0, a1⟩, ⟨a2, a3⟩, ⟨a4, a5⟩, ⟨a6, a7⟩, ⟨a8, a9⟩, ⟨a10, a11⟩, ⟨a12, a13⟩, ⟨a14, a15⟩] 10 B C rk rn).2) := by
  exact ⟨rfl, rfl⟩
theorem same_put (hA : rg A) (l : List R_ii) (hl : l.length = 8) : l.set A.toNat (l.getD A.toNat R_ii.z) = l := by
  refine ext_getD R_ii.z (by simp) fun i hi => ?_
  rw [getD_set (by omega)]
  by_cases e : i = A.toNat
  · rw [if_pos e, e]
  · rw [if_neg e]
theorem doP_no (l : List R_ii) (op : Int) (h : ¬ (fineB ⟨op, A, B, C⟩ N = true ∧ localP op)) : doP l pc op A B C rk rn N = (zz, 0, 100) := if_neg h
theorem doP_yes (l : List R_ii) (op : Int) (h1 : fineB ⟨op, A, B, C⟩ N = true) (h2 : localP op) : doP l pc op A B C rk rn N = doB l pc op A B C rk rn := if_pos ⟨h1, h2⟩
theorem doB_pc (l : List R_ii) (op : Int) (h : pc < 0 ∨ 512 ≤ pc) : doB l pc op A B C rk rn = (zz, 0, 5) := if_pos h
theorem do_1 (h : fineB ⟨1, A, B, C⟩ N = true) (hN : 4 ≤ N) : regs_Do a0 a1 a2 a3 a4 a5 a6 a7 a8 a9 a10 a11 a12 a13 a14 a15 pc 1 A B C rk rn N = some (mkD (doP [⟨a0, a1⟩, ⟨a2, a3⟩, ⟨a4, a5⟩, ⟨a6, a7⟩, ⟨a8, a9⟩, ⟨a10, a11⟩, ⟨a12, a13⟩, ⟨a14, a15⟩] pc 1 A B C rk rn N)) ∧ ref14_Do a0 a1 a2 a3 a4 a5 a6 a7 a8 a9 a10 a11 a12 a13 a14 a15 pc 1 A B C rk rn N = some (mkR (doP [⟨a0, a1⟩, ⟨a2, a3⟩, ⟨a4, a5⟩, ⟨a6, a7⟩, ⟨a8, a9⟩, ⟨a10, a11⟩, ⟨a12, a13⟩, ⟨a14, a15⟩] pc 1 A B C rk rn N)) := by
  obtain ⟨c1, c2, -⟩ := fine_is 1 A B C hN
  rw [h] at c1 c2
  obtain ⟨f0, f1, f2⟩ := is_inv (t0 := 1) (t1 := 2) (t2 := 0) rfl c2
  have rA := reg_of f0
  rw [doP_yes _ _ h (by decide)]
  by_cases hp : pc < 0 ∨ 512 ≤ pc
  · rw [doB_pc _ _ hp]
    constructor
    · exact bind_to c1 <| ite_no (fun e => e rfl) <| ite_yes (by decide) <| ite_yes (by decide) <| ite_eq (fun _ => rfl) (fun _ => ite_yes (by omega) rfl)
    · exact bind_to c2 <| ite_no (fun e => e rfl) <| ite_yes (by decide) <| ite_yes (by decide) <| ite_eq (fun _ => rfl) (fun _ => ite_yes (by omega) rfl)
  · obtain ⟨r1, r2⟩ := res_1 (a0 := a0) (a1 := a1) (a2 := a2) (a3 := a3) (a4 := a4) (a5 := a5) (a6 := a6) (a7 := a7) (a8 := a8) (a9 := a9) (a10 := a10) (a11 := a11) (a12 := a12) (a13 := a13) (a14 := a14) (a15 := a15) (A := A) (rk := rk) (rn := rn) (N := N) (B := B) (C := C)
    have e : doB [⟨a0, a1⟩, ⟨a2, a3⟩, ⟨a4, a5⟩, ⟨a6, a7⟩, ⟨a8, a9⟩, ⟨a10, a11⟩, ⟨a12, a13⟩, ⟨a14, a15⟩] pc 1 A B C rk rn = if (resP [⟨a0, a1⟩, ⟨a2, a3⟩, ⟨a4, a5⟩, ⟨a6, a7⟩, ⟨a8, a9⟩, ⟨a10, a11⟩, ⟨a12, a13⟩, ⟨a14, a15⟩] 1 B C rk rn).2 = 0 then (([⟨a0, a1⟩, ⟨a2, a3⟩, ⟨a4, a5⟩, ⟨a6, a7⟩, ⟨a8, a9⟩, ⟨a10, a11⟩, ⟨a12, a13⟩, ⟨a14, a15⟩] : List R_ii).set A.toNat (resP [⟨a0, a1⟩, ⟨a2, a3⟩, ⟨a4, a5⟩, ⟨a6, a7⟩, ⟨a8, a9⟩, ⟨a10, a11⟩, ⟨a12, a13⟩, ⟨a14, a15⟩] 1 B C rk rn).1, pc + 1, 0) else (zz, 0, (resP [⟨a0, a1⟩, ⟨a2, a3⟩, ⟨a4, a5⟩, ⟨a6, a7⟩, ⟨a8, a9⟩, ⟨a10, a11⟩, ⟨a12, a13⟩, ⟨a14, a15⟩] 1 B C rk rn).2) := if_neg hp
    rw [e]
    generalize resP [⟨a0, a1⟩, ⟨a2, a3⟩, ⟨a4, a5⟩, ⟨a6, a7⟩, ⟨a8, a9⟩, ⟨a10, a11⟩, ⟨a12, a13⟩, ⟨a14, a15⟩] 1 B C rk rn = q at r1 r2 ⊢
    by_cases h0 : q.2 = 0
    · rw [if_pos h0]
      constructor
      · exact bind_to c1 <| ite_no (fun e => e rfl) <| ite_yes (by decide) <| ite_yes (by decide) <| ite_no (by omega) <| ite_no (by omega) <| bind_to r1 <| ite_no (fun e => e h0) <| bind_to (target_no 1 (by decide) (by decide)) <| ite_yes (by decide) <| bind_to (put_is rA) <| bind_to (next_no (by decide) (by decide) (by omega) (by omega)) rfl
      · exact bind_to c2 <| ite_no (fun e => e rfl) <| ite_yes (by decide) <| ite_yes (by decide) <| ite_no (by omega) <| ite_no (by omega) <| ite_no (by decide) <| ite_no (by decide) <| bind_to r2 <| ite_no (fun e => e h0) <| bind_to (rput_is rA) rfl
    · rw [if_neg h0]
      constructor
      · exact bind_to c1 <| ite_no (fun e => e rfl) <| ite_yes (by decide) <| ite_yes (by decide) <| ite_no (by omega) <| ite_no (by omega) <| bind_to r1 <| ite_yes h0 rfl
      · exact bind_to c2 <| ite_no (fun e => e rfl) <| ite_yes (by decide) <| ite_yes (by decide) <| ite_no (by omega) <| ite_no (by omega) <| ite_no (by decide) <| ite_no (by decide) <| bind_to r2 <| ite_yes h0 rfl
theorem do_2 (h : fineB ⟨2, A, B, C⟩ N = true) (hN : 4 ≤ N) : regs_Do a0 a1 a2 a3 a4 a5 a6 a7 a8 a9 a10 a11 a12 a13 a14 a15 pc 2 A B C rk rn N = some (mkD (doP [⟨a0, a1⟩, ⟨a2, a3⟩, ⟨a4, a5⟩, ⟨a6, a7⟩, ⟨a8, a9⟩, ⟨a10, a11⟩, ⟨a12, a13⟩, ⟨a14, a15⟩] pc 2 A B C rk rn N)) ∧ ref14_Do a0 a1 a2 a3 a4 a5 a6 a7 a8 a9 a10 a11 a12 a13 a14 a15 pc 2 A B C rk rn N = some (mkR (doP [⟨a0, a1⟩, ⟨a2, a3⟩, ⟨a4, a5⟩, ⟨a6, a7⟩, ⟨a8, a9⟩, ⟨a10, a11⟩, ⟨a12, a13⟩, ⟨a14, a15⟩] pc 2 A B C rk rn N)) := by
  obtain ⟨c1, c2, -⟩ := fine_is 2 A B C hN
  rw [h] at c1 c2
  obtain ⟨f0, f1, f2⟩ := is_inv (t0 := 1) (t1 := 0) (t2 := 0) rfl c2
  have rA := reg_of f0
  rw [doP_yes _ _ h (by decide)]
  by_cases hp : pc < 0 ∨ 512 ≤ pc
  · rw [doB_pc _ _ hp]
    constructor
    · exact bind_to c1 <| ite_no (fun e => e rfl) <| ite_yes (by decide) <| ite_yes (by decide) <| ite_eq (fun _ => rfl) (fun _ => ite_yes (by omega) rfl)
    · exact bind_to c2 <| ite_no (fun e => e rfl) <| ite_yes (by decide) <| ite_yes (by decide) <| ite_eq (fun _ => rfl) (fun _ => ite_yes (by omega) rfl)
  · obtain ⟨r1, r2⟩ := res_2 (a0 := a0) (a1 := a1) (a2 := a2) (a3 := a3) (a4 := a4) (a5 := a5) (a6 := a6) (a7 := a7) (a8 := a8) (a9 := a9) (a10 := a10) (a11 := a11) (a12 := a12) (a13 := a13) (a14 := a14) (a15 := a15) (A := A) (rk := rk) (rn := rn) (N := N) (B := B) (C := C)
    have e : doB [⟨a0, a1⟩, ⟨a2, a3⟩, ⟨a4, a5⟩, ⟨a6, a7⟩, ⟨a8, a9⟩, ⟨a10, a11⟩, ⟨a12, a13⟩, ⟨a14, a15⟩] pc 2 A B C rk rn = if (resP [⟨a0, a1⟩, ⟨a2, a3⟩, ⟨a4, a5⟩, ⟨a6, a7⟩, ⟨a8, a9⟩, ⟨a10, a11⟩, ⟨a12, a13⟩, ⟨a14, a15⟩] 2 B C rk rn).2 = 0 then (([⟨a0, a1⟩, ⟨a2, a3⟩, ⟨a4, a5⟩, ⟨a6, a7⟩, ⟨a8, a9⟩, ⟨a10, a11⟩, ⟨a12, a13⟩, ⟨a14, a15⟩] : List R_ii).set A.toNat (resP [⟨a0, a1⟩, ⟨a2, a3⟩, ⟨a4, a5⟩, ⟨a6, a7⟩, ⟨a8, a9⟩, ⟨a10, a11⟩, ⟨a12, a13⟩, ⟨a14, a15⟩] 2 B C rk rn).1, pc + 1, 0) else (zz, 0, (resP [⟨a0, a1⟩, ⟨a2, a3⟩, ⟨a4, a5⟩, ⟨a6, a7⟩, ⟨a8, a9⟩, ⟨a10, a11⟩, ⟨a12, a13⟩, ⟨a14, a15⟩] 2 B C rk rn).2) := if_neg hp
    rw [e]
    generalize resP [⟨a0, a1⟩, ⟨a2, a3⟩, ⟨a4, a5⟩, ⟨a6, a7⟩, ⟨a8, a9⟩, ⟨a10, a11⟩, ⟨a12, a13⟩, ⟨a14, a15⟩] 2 B C rk rn = q at r1 r2 ⊢
    by_cases h0 : q.2 = 0
    · rw [if_pos h0]
      constructor
      · exact bind_to c1 <| ite_no (fun e => e rfl) <| ite_yes (by decide) <| ite_yes (by decide) <| ite_no (by omega) <| ite_no (by omega) <| bind_to r1 <| ite_no (fun e => e h0) <| bind_to (target_no 2 (by decide) (by decide)) <| ite_yes (by decide) <| bind_to (put_is rA) <| bind_to (next_no (by decide) (by decide) (by omega) (by omega)) rfl
      · exact bind_to c2 <| ite_no (fun e => e rfl) <| ite_yes (by decide) <| ite_yes (by decide) <| ite_no (by omega) <| ite_no (by omega) <| ite_no (by decide) <| ite_no (by decide) <| bind_to r2 <| ite_no (fun e => e h0) <| bind_to (rput_is rA) rfl
    · rw [if_neg h0]
      constructor
      · exact bind_to c1 <| ite_no (fun e => e rfl) <| ite_yes (by decide) <| ite_yes (by decide) <| ite_no (by omega) <| ite_no (by omega) <| bind_to r1 <| ite_yes h0 rfl
      · exact bind_to c2 <| ite_no (fun e => e rfl) <| ite_yes (by decide) <| ite_yes (by decide) <| ite_no (by omega) <| ite_no (by omega) <| ite_no (by decide) <| ite_no (by decide) <| bind_to r2 <| ite_yes h0 rfl
theorem do_3 (h : fineB ⟨3, A, B, C⟩ N = true) (hN : 4 ≤ N) : regs_Do a0 a1 a2 a3 a4 a5 a6 a7 a8 a9 a10 a11 a12 a13 a14 a15 pc 3 A B C rk rn N = some (mkD (doP [⟨a0, a1⟩, ⟨a2, a3⟩, ⟨a4, a5⟩, ⟨a6, a7⟩, ⟨a8, a9⟩, ⟨a10, a11⟩, ⟨a12, a13⟩, ⟨a14, a15⟩] pc 3 A B C rk rn N)) ∧ ref14_Do a0 a1 a2 a3 a4 a5 a6 a7 a8 a9 a10 a11 a12 a13 a14 a15 pc 3 A B C rk rn N = some (mkR (doP [⟨a0, a1⟩, ⟨a2, a3⟩, ⟨a4, a5⟩, ⟨a6, a7⟩, ⟨a8, a9⟩, ⟨a10, a11⟩, ⟨a12, a13⟩, ⟨a14, a15⟩] pc 3 A B C rk rn N)) := by
  obtain ⟨c1, c2, -⟩ := fine_is 3 A B C hN
  rw [h] at c1 c2
  obtain ⟨f0, f1, f2⟩ := is_inv (t0 := 1) (t1 := 1) (t2 := 0) rfl c2
  have rA := reg_of f0
  rw [doP_yes _ _ h (by decide)]
  by_cases hp : pc < 0 ∨ 512 ≤ pc
  · rw [doB_pc _ _ hp]
    constructor
    · exact bind_to c1 <| ite_no (fun e => e rfl) <| ite_yes (by decide) <| ite_yes (by decide) <| ite_eq (fun _ => rfl) (fun _ => ite_yes (by omega) rfl)
    · exact bind_to c2 <| ite_no (fun e => e rfl) <| ite_yes (by decide) <| ite_yes (by decide) <| ite_eq (fun _ => rfl) (fun _ => ite_yes (by omega) rfl)
  · obtain ⟨r1, r2⟩ := res_3 (a0 := a0) (a1 := a1) (a2 := a2) (a3 := a3) (a4 := a4) (a5 := a5) (a6 := a6) (a7 := a7) (a8 := a8) (a9 := a9) (a10 := a10) (a11 := a11) (a12 := a12) (a13 := a13) (a14 := a14) (a15 := a15) (A := A) (rk := rk) (rn := rn) (N := N) (C := C) (reg_of f1)
    have e : doB [⟨a0, a1⟩, ⟨a2, a3⟩, ⟨a4, a5⟩, ⟨a6, a7⟩, ⟨a8, a9⟩, ⟨a10, a11⟩, ⟨a12, a13⟩, ⟨a14, a15⟩] pc 3 A B C rk rn = if (resP [⟨a0, a1⟩, ⟨a2, a3⟩, ⟨a4, a5⟩, ⟨a6, a7⟩, ⟨a8, a9⟩, ⟨a10, a11⟩, ⟨a12, a13⟩, ⟨a14, a15⟩] 3 B C rk rn).2 = 0 then (([⟨a0, a1⟩, ⟨a2, a3⟩, ⟨a4, a5⟩, ⟨a6, a7⟩, ⟨a8, a9⟩, ⟨a10, a11⟩, ⟨a12, a13⟩, ⟨a14, a15⟩] : List R_ii).set A.toNat (resP [⟨a0, a1⟩, ⟨a2, a3⟩, ⟨a4, a5⟩, ⟨a6, a7⟩, ⟨a8, a9⟩, ⟨a10, a11⟩, ⟨a12, a13⟩, ⟨a14, a15⟩] 3 B C rk rn).1, pc + 1, 0) else (zz, 0, (resP [⟨a0, a1⟩, ⟨a2, a3⟩, ⟨a4, a5⟩, ⟨a6, a7⟩, ⟨a8, a9⟩, ⟨a10, a11⟩, ⟨a12, a13⟩, ⟨a14, a15⟩] 3 B C rk rn).2) := if_neg hp
    rw [e]
    generalize resP [⟨a0, a1⟩, ⟨a2, a3⟩, ⟨a4, a5⟩, ⟨a6, a7⟩, ⟨a8, a9⟩, ⟨a10, a11⟩, ⟨a12, a13⟩, ⟨a14, a15⟩] 3 B C rk rn = q at r1 r2 ⊢
    by_cases h0 : q.2 = 0
    · rw [if_pos h0]
      constructor
      · exact bind_to c1 <| ite_no (fun e => e rfl) <| ite_yes (by decide) <| ite_yes (by decide) <| ite_no (by omega) <| ite_no (by omega) <| bind_to r1 <| ite_no (fun e => e h0) <| bind_to (target_no 3 (by decide) (by decide)) <| ite_yes (by decide) <| bind_to (put_is rA) <| bind_to (next_no (by decide) (by decide) (by omega) (by omega)) rfl
      · exact bind_to c2 <| ite_no (fun e => e rfl) <| ite_yes (by decide) <| ite_yes (by decide) <| ite_no (by omega) <| ite_no (by omega) <| ite_no (by decide) <| ite_no (by decide) <| bind_to r2 <| ite_no (fun e => e h0) <| bind_to (rput_is rA) rfl
    · rw [if_neg h0]
      constructor
      · exact bind_to c1 <| ite_no (fun e => e rfl) <| ite_yes (by decide) <| ite_yes (by decide) <| ite_no (by omega) <| ite_no (by omega) <| bind_to r1 <| ite_yes h0 rfl
      · exact bind_to c2 <| ite_no (fun e => e rfl) <| ite_yes (by decide) <| ite_yes (by decide) <| ite_no (by omega) <| ite_no (by omega) <| ite_no (by decide) <| ite_no (by decide) <| bind_to r2 <| ite_yes h0 rfl
theorem do_4 (h : fineB ⟨4, A, B, C⟩ N = true) (hN : 4 ≤ N) : regs_Do a0 a1 a2 a3 a4 a5 a6 a7 a8 a9 a10 a11 a12 a13 a14 a15 pc 4 A B C rk rn N = some (mkD (doP [⟨a0, a1⟩, ⟨a2, a3⟩, ⟨a4, a5⟩, ⟨a6, a7⟩, ⟨a8, a9⟩, ⟨a10, a11⟩, ⟨a12, a13⟩, ⟨a14, a15⟩] pc 4 A B C rk rn N)) ∧ ref14_Do a0 a1 a2 a3 a4 a5 a6 a7 a8 a9 a10 a11 a12 a13 a14 a15 pc 4 A B C rk rn N = some (mkR (doP [⟨a0, a1⟩, ⟨a2, a3⟩, ⟨a4, a5⟩, ⟨a6, a7⟩, ⟨a8, a9⟩, ⟨a10, a11⟩, ⟨a12, a13⟩, ⟨a14, a15⟩] pc 4 A B C rk rn N)) := by
  obtain ⟨c1, c2, -⟩ := fine_is 4 A B C hN
  rw [h] at c1 c2
  obtain ⟨f0, f1, f2⟩ := is_inv (t0 := 1) (t1 := 1) (t2 := 1) rfl c2
  have rA := reg_of f0
  rw [doP_yes _ _ h (by decide)]
  by_cases hp : pc < 0 ∨ 512 ≤ pc
  · rw [doB_pc _ _ hp]
    constructor
    · exact bind_to c1 <| ite_no (fun e => e rfl) <| ite_yes (by decide) <| ite_yes (by decide) <| ite_eq (fun _ => rfl) (fun _ => ite_yes (by omega) rfl)
    · exact bind_to c2 <| ite_no (fun e => e rfl) <| ite_yes (by decide) <| ite_yes (by decide) <| ite_eq (fun _ => rfl) (fun _ => ite_yes (by omega) rfl)
  · obtain ⟨r1, r2⟩ := res_4 (a0 := a0) (a1 := a1) (a2 := a2) (a3 := a3) (a4 := a4) (a5 := a5) (a6 := a6) (a7 := a7) (a8 := a8) (a9 := a9) (a10 := a10) (a11 := a11) (a12 := a12) (a13 := a13) (a14 := a14) (a15 := a15) (A := A) (rk := rk) (rn := rn) (N := N) (reg_of f1) (reg_of f2)
    have e : doB [⟨a0, a1⟩, ⟨a2, a3⟩, ⟨a4, a5⟩, ⟨a6, a7⟩, ⟨a8, a9⟩, ⟨a10, a11⟩, ⟨a12, a13⟩, ⟨a14, a15⟩] pc 4 A B C rk rn = if (resP [⟨a0, a1⟩, ⟨a2, a3⟩, ⟨a4, a5⟩, ⟨a6, a7⟩, ⟨a8, a9⟩, ⟨a10, a11⟩, ⟨a12, a13⟩, ⟨a14, a15⟩] 4 B C rk rn).2 = 0 then (([⟨a0, a1⟩, ⟨a2, a3⟩, ⟨a4, a5⟩, ⟨a6, a7⟩, ⟨a8, a9⟩, ⟨a10, a11⟩, ⟨a12, a13⟩, ⟨a14, a15⟩] : List R_ii).set A.toNat (resP [⟨a0, a1⟩, ⟨a2, a3⟩, ⟨a4, a5⟩, ⟨a6, a7⟩, ⟨a8, a9⟩, ⟨a10, a11⟩, ⟨a12, a13⟩, ⟨a14, a15⟩] 4 B C rk rn).1, pc + 1, 0) else (zz, 0, (resP [⟨a0, a1⟩, ⟨a2, a3⟩, ⟨a4, a5⟩, ⟨a6, a7⟩, ⟨a8, a9⟩, ⟨a10, a11⟩, ⟨a12, a13⟩, ⟨a14, a15⟩] 4 B C rk rn).2) := if_neg hp
    rw [e]
    generalize resP [⟨a0, a1⟩, ⟨a2, a3⟩, ⟨a4, a5⟩, ⟨a6, a7⟩, ⟨a8, a9⟩, ⟨a10, a11⟩, ⟨a12, a13⟩, ⟨a14, a15⟩] 4 B C rk rn = q at r1 r2 ⊢
    by_cases h0 : q.2 = 0
    · rw [if_pos h0]
      constructor
      · exact bind_to c1 <| ite_no (fun e => e rfl) <| ite_yes (by decide) <| ite_yes (by decide) <| ite_no (by omega) <| ite_no (by omega) <| bind_to r1 <| ite_no (fun e => e h0) <| bind_to (target_no 4 (by decide) (by decide)) <| ite_yes (by decide) <| bind_to (put_is rA) <| bind_to (next_no (by decide) (by decide) (by omega) (by omega)) rfl
      · exact bind_to c2 <| ite_no (fun e => e rfl) <| ite_yes (by decide) <| ite_yes (by decide) <| ite_no (by omega) <| ite_no (by omega) <| ite_no (by decide) <| ite_no (by decide) <| bind_to r2 <| ite_no (fun e => e h0) <| bind_to (rput_is rA) rfl
    · rw [if_neg h0]
      constructor
      · exact bind_to c1 <| ite_no (fun e => e rfl) <| ite_yes (by decide) <| ite_yes (by decide) <| ite_no (by omega) <| ite_no (by omega) <| bind_to r1 <| ite_yes h0 rfl
      · exact bind_to c2 <| ite_no (fun e => e rfl) <| ite_yes (by decide) <| ite_yes (by decide) <| ite_no (by omega) <| ite_no (by omega) <| ite_no (by decide) <| ite_no (by decide) <| bind_to r2 <| ite_yes h0 rfl
theorem do_5 (h : fineB ⟨5, A, B, C⟩ N = true) (hN : 4 ≤ N) : regs_Do a0 a1 a2 a3 a4 a5 a6 a7 a8 a9 a10 a11 a12 a13 a14 a15 pc 5 A B C rk rn N = some (mkD (doP [⟨a0, a1⟩, ⟨a2, a3⟩, ⟨a4, a5⟩, ⟨a6, a7⟩, ⟨a8, a9⟩, ⟨a10, a11⟩, ⟨a12, a13⟩, ⟨a14, a15⟩] pc 5 A B C rk rn N)) ∧ ref14_Do a0 a1 a2 a3 a4 a5 a6 a7 a8 a9 a10 a11 a12 a13 a14 a15 pc 5 A B C rk rn N = some (mkR (doP [⟨a0, a1⟩, ⟨a2, a3⟩, ⟨a4, a5⟩, ⟨a6, a7⟩, ⟨a8, a9⟩, ⟨a10, a11⟩, ⟨a12, a13⟩, ⟨a14, a15⟩] pc 5 A B C rk rn N)) := by
  obtain ⟨c1, c2, -⟩ := fine_is 5 A B C hN
  rw [h] at c1 c2
  obtain ⟨f0, f1, f2⟩ := is_inv (t0 := 1) (t1 := 1) (t2 := 1) rfl c2
  have rA := reg_of f0
  rw [doP_yes _ _ h (by decide)]
  by_cases hp : pc < 0 ∨ 512 ≤ pc
  · rw [doB_pc _ _ hp]
    constructor
    · exact bind_to c1 <| ite_no (fun e => e rfl) <| ite_yes (by decide) <| ite_yes (by decide) <| ite_eq (fun _ => rfl) (fun _ => ite_yes (by omega) rfl)
    · exact bind_to c2 <| ite_no (fun e => e rfl) <| ite_yes (by decide) <| ite_yes (by decide) <| ite_eq (fun _ => rfl) (fun _ => ite_yes (by omega) rfl)
  · obtain ⟨r1, r2⟩ := res_5 (a0 := a0) (a1 := a1) (a2 := a2) (a3 := a3) (a4 := a4) (a5 := a5) (a6 := a6) (a7 := a7) (a8 := a8) (a9 := a9) (a10 := a10) (a11 := a11) (a12 := a12) (a13 := a13) (a14 := a14) (a15 := a15) (A := A) (rk := rk) (rn := rn) (N := N) (reg_of f1) (reg_of f2)
    have e : doB [⟨a0, a1⟩, ⟨a2, a3⟩, ⟨a4, a5⟩, ⟨a6, a7⟩, ⟨a8, a9⟩, ⟨a10, a11⟩, ⟨a12, a13⟩, ⟨a14, a15⟩] pc 5 A B C rk rn = if (resP [⟨a0, a1⟩, ⟨a2, a3⟩, ⟨a4, a5⟩, ⟨a6, a7⟩, ⟨a8, a9⟩, ⟨a10, a11⟩, ⟨a12, a13⟩, ⟨a14, a15⟩] 5 B C rk rn).2 = 0 then (([⟨a0, a1⟩, ⟨a2, a3⟩, ⟨a4, a5⟩, ⟨a6, a7⟩, ⟨a8, a9⟩, ⟨a10, a11⟩, ⟨a12, a13⟩, ⟨a14, a15⟩] : List R_ii).set A.toNat (resP [⟨a0, a1⟩, ⟨a2, a3⟩, ⟨a4, a5⟩, ⟨a6, a7⟩, ⟨a8, a9⟩, ⟨a10, a11⟩, ⟨a12, a13⟩, ⟨a14, a15⟩] 5 B C rk rn).1, pc + 1, 0) else (zz, 0, (resP [⟨a0, a1⟩, ⟨a2, a3⟩, ⟨a4, a5⟩, ⟨a6, a7⟩, ⟨a8, a9⟩, ⟨a10, a11⟩, ⟨a12, a13⟩, ⟨a14, a15⟩] 5 B C rk rn).2) := if_neg hp
    rw [e]
    generalize resP [⟨a0, a1⟩, ⟨a2, a3⟩, ⟨a4, a5⟩, ⟨a6, a7⟩, ⟨a8, a9⟩, ⟨a10, a11⟩, ⟨a12, a13⟩, ⟨a14, a15⟩] 5 B C rk rn = q at r1 r2 ⊢
    by_cases h0 : q.2 = 0
    · rw [if_pos h0]
      constructor
      · exact bind_to c1 <| ite_no (fun e => e rfl) <| ite_yes (by decide) <| ite_yes (by decide) <| ite_no (by omega) <| ite_no (by omega) <| bind_to r1 <| ite_no (fun e => e h0) <| bind_to (target_no 5 (by decide) (by decide)) <| ite_yes (by decide) <| bind_to (put_is rA) <| bind_to (next_no (by decide) (by decide) (by omega) (by omega)) rfl
      · exact bind_to c2 <| ite_no (fun e => e rfl) <| ite_yes (by decide) <| ite_yes (by decide) <| ite_no (by omega) <| ite_no (by omega) <| ite_no (by decide) <| ite_no (by decide) <| bind_to r2 <| ite_no (fun e => e h0) <| bind_to (rput_is rA) rfl
    · rw [if_neg h0]
      constructor
      · exact bind_to c1 <| ite_no (fun e => e rfl) <| ite_yes (by decide) <| ite_yes (by decide) <| ite_no (by omega) <| ite_no (by omega) <| bind_to r1 <| ite_yes h0 rfl
      · exact bind_to c2 <| ite_no (fun e => e rfl) <| ite_yes (by decide) <| ite_yes (by decide) <| ite_no (by omega) <| ite_no (by omega) <| ite_no (by decide) <| ite_no (by decide) <| bind_to r2 <| ite_yes h0 rfl
theorem do_6 (h : fineB ⟨6, A, B, C⟩ N = true) (hN : 4 ≤ N) : regs_Do a0 a1 a2 a3 a4 a5 a6 a7 a8 a9 a10 a11 a12 a13 a14 a15 pc 6 A B C rk rn N = some (mkD (doP [⟨a0, a1⟩, ⟨a2, a3⟩, ⟨a4, a5⟩, ⟨a6, a7⟩, ⟨a8, a9⟩, ⟨a10, a11⟩, ⟨a12, a13⟩, ⟨a14, a15⟩] pc 6 A B C rk rn N)) ∧ ref14_Do a0 a1 a2 a3 a4 a5 a6 a7 a8 a9 a10 a11 a12 a13 a14 a15 pc 6 A B C rk rn N = some (mkR (doP [⟨a0, a1⟩, ⟨a2, a3⟩, ⟨a4, a5⟩, ⟨a6, a7⟩, ⟨a8, a9⟩, ⟨a10, a11⟩, ⟨a12, a13⟩, ⟨a14, a15⟩] pc 6 A B C rk rn N)) := by
  obtain ⟨c1, c2, -⟩ := fine_is 6 A B C hN
  rw [h] at c1 c2
  obtain ⟨f0, f1, f2⟩ := is_inv (t0 := 1) (t1 := 1) (t2 := 1) rfl c2
  have rA := reg_of f0
  rw [doP_yes _ _ h (by decide)]
  by_cases hp : pc < 0 ∨ 512 ≤ pc
  · rw [doB_pc _ _ hp]
    constructor
    · exact bind_to c1 <| ite_no (fun e => e rfl) <| ite_yes (by decide) <| ite_yes (by decide) <| ite_eq (fun _ => rfl) (fun _ => ite_yes (by omega) rfl)
    · exact bind_to c2 <| ite_no (fun e => e rfl) <| ite_yes (by decide) <| ite_yes (by decide) <| ite_eq (fun _ => rfl) (fun _ => ite_yes (by omega) rfl)
  · obtain ⟨r1, r2⟩ := res_6 (a0 := a0) (a1 := a1) (a2 := a2) (a3 := a3) (a4 := a4) (a5 := a5) (a6 := a6) (a7 := a7) (a8 := a8) (a9 := a9) (a10 := a10) (a11 := a11) (a12 := a12) (a13 := a13) (a14 := a14) (a15 := a15) (A := A) (rk := rk) (rn := rn) (N := N) (reg_of f1) (reg_of f2)
    have e : doB [⟨a0, a1⟩, ⟨a2, a3⟩, ⟨a4, a5⟩, ⟨a6, a7⟩, ⟨a8, a9⟩, ⟨a10, a11⟩, ⟨a12, a13⟩, ⟨a14, a15⟩] pc 6 A B C rk rn = if (resP [⟨a0, a1⟩, ⟨a2, a3⟩, ⟨a4, a5⟩, ⟨a6, a7⟩, ⟨a8, a9⟩, ⟨a10, a11⟩, ⟨a12, a13⟩, ⟨a14, a15⟩] 6 B C rk rn).2 = 0 then (([⟨a0, a1⟩, ⟨a2, a3⟩, ⟨a4, a5⟩, ⟨a6, a7⟩, ⟨a8, a9⟩, ⟨a10, a11⟩, ⟨a12, a13⟩, ⟨a14, a15⟩] : List R_ii).set A.toNat (resP [⟨a0, a1⟩, ⟨a2, a3⟩, ⟨a4, a5⟩, ⟨a6, a7⟩, ⟨a8, a9⟩, ⟨a10, a11⟩, ⟨a12, a13⟩, ⟨a14, a15⟩] 6 B C rk rn).1, pc + 1, 0) else (zz, 0, (resP [⟨a0, a1⟩, ⟨a2, a3⟩, ⟨a4, a5⟩, ⟨a6, a7⟩, ⟨a8, a9⟩, ⟨a10, a11⟩, ⟨a12, a13⟩, ⟨a14, a15⟩] 6 B C rk rn).2) := if_neg hp
    rw [e]
    generalize resP [⟨a0, a1⟩, ⟨a2, a3⟩, ⟨a4, a5⟩, ⟨a6, a7⟩, ⟨a8, a9⟩, ⟨a10, a11⟩, ⟨a12, a13⟩, ⟨a14, a15⟩] 6 B C rk rn = q at r1 r2 ⊢
    by_cases h0 : q.2 = 0
    · rw [if_pos h0]
      constructor
      · exact bind_to c1 <| ite_no (fun e => e rfl) <| ite_yes (by decide) <| ite_yes (by decide) <| ite_no (by omega) <| ite_no (by omega) <| bind_to r1 <| ite_no (fun e => e h0) <| bind_to (target_no 6 (by decide) (by decide)) <| ite_yes (by decide) <| bind_to (put_is rA) <| bind_to (next_no (by decide) (by decide) (by omega) (by omega)) rfl
      · exact bind_to c2 <| ite_no (fun e => e rfl) <| ite_yes (by decide) <| ite_yes (by decide) <| ite_no (by omega) <| ite_no (by omega) <| ite_no (by decide) <| ite_no (by decide) <| bind_to r2 <| ite_no (fun e => e h0) <| bind_to (rput_is rA) rfl
    · rw [if_neg h0]
      constructor
      · exact bind_to c1 <| ite_no (fun e => e rfl) <| ite_yes (by decide) <| ite_yes (by decide) <| ite_no (by omega) <| ite_no (by omega) <| bind_to r1 <| ite_yes h0 rfl
      · exact bind_to c2 <| ite_no (fun e => e rfl) <| ite_yes (by decide) <| ite_yes (by decide) <| ite_no (by omega) <| ite_no (by omega) <| ite_no (by decide) <| ite_no (by decide) <| bind_to r2 <| ite_yes h0 rfl
theorem do_7 (h : fineB ⟨7, A, B, C⟩ N = true) (hN : 4 ≤ N) : regs_Do a0 a1 a2 a3 a4 a5 a6 a7 a8 a9 a10 a11 a12 a13 a14 a15 pc 7 A B C rk rn N = some (mkD (doP [⟨a0, a1⟩, ⟨a2, a3⟩, ⟨a4, a5⟩, ⟨a6, a7⟩, ⟨a8, a9⟩, ⟨a10, a11⟩, ⟨a12, a13⟩, ⟨a14, a15⟩] pc 7 A B C rk rn N)) ∧ ref14_Do a0 a1 a2 a3 a4 a5 a6 a7 a8 a9 a10 a11 a12 a13 a14 a15 pc 7 A B C rk rn N = some (mkR (doP [⟨a0, a1⟩, ⟨a2, a3⟩, ⟨a4, a5⟩, ⟨a6, a7⟩, ⟨a8, a9⟩, ⟨a10, a11⟩, ⟨a12, a13⟩, ⟨a14, a15⟩] pc 7 A B C rk rn N)) := by
  obtain ⟨c1, c2, -⟩ := fine_is 7 A B C hN
  rw [h] at c1 c2
  obtain ⟨f0, f1, f2⟩ := is_inv (t0 := 1) (t1 := 1) (t2 := 1) rfl c2
  have rA := reg_of f0
  rw [doP_yes _ _ h (by decide)]
  by_cases hp : pc < 0 ∨ 512 ≤ pc
  · rw [doB_pc _ _ hp]
    constructor
    · exact bind_to c1 <| ite_no (fun e => e rfl) <| ite_yes (by decide) <| ite_yes (by decide) <| ite_eq (fun _ => rfl) (fun _ => ite_yes (by omega) rfl)
    · exact bind_to c2 <| ite_no (fun e => e rfl) <| ite_yes (by decide) <| ite_yes (by decide) <| ite_eq (fun _ => rfl) (fun _ => ite_yes (by omega) rfl)
  · obtain ⟨r1, r2⟩ := res_7 (a0 := a0) (a1 := a1) (a2 := a2) (a3 := a3) (a4 := a4) (a5 := a5) (a6 := a6) (a7 := a7) (a8 := a8) (a9 := a9) (a10 := a10) (a11 := a11) (a12 := a12) (a13 := a13) (a14 := a14) (a15 := a15) (A := A) (rk := rk) (rn := rn) (N := N) (reg_of f1) (reg_of f2)
    have e : doB [⟨a0, a1⟩, ⟨a2, a3⟩, ⟨a4, a5⟩, ⟨a6, a7⟩, ⟨a8, a9⟩, ⟨a10, a11⟩, ⟨a12, a13⟩, ⟨a14, a15⟩] pc 7 A B C rk rn = if (resP [⟨a0, a1⟩, ⟨a2, a3⟩, ⟨a4, a5⟩, ⟨a6, a7⟩, ⟨a8, a9⟩, ⟨a10, a11⟩, ⟨a12, a13⟩, ⟨a14, a15⟩] 7 B C rk rn).2 = 0 then (([⟨a0, a1⟩, ⟨a2, a3⟩, ⟨a4, a5⟩, ⟨a6, a7⟩, ⟨a8, a9⟩, ⟨a10, a11⟩, ⟨a12, a13⟩, ⟨a14, a15⟩] : List R_ii).set A.toNat (resP [⟨a0, a1⟩, ⟨a2, a3⟩, ⟨a4, a5⟩, ⟨a6, a7⟩, ⟨a8, a9⟩, ⟨a10, a11⟩, ⟨a12, a13⟩, ⟨a14, a15⟩] 7 B C rk rn).1, pc + 1, 0) else (zz, 0, (resP [⟨a0, a1⟩, ⟨a2, a3⟩, ⟨a4, a5⟩, ⟨a6, a7⟩, ⟨a8, a9⟩, ⟨a10, a11⟩, ⟨a12, a13⟩, ⟨a14, a15⟩] 7 B C rk rn).2) := if_neg hp
    rw [e]
    generalize resP [⟨a0, a1⟩, ⟨a2, a3⟩, ⟨a4, a5⟩, ⟨a6, a7⟩, ⟨a8, a9⟩, ⟨a10, a11⟩, ⟨a12, a13⟩, ⟨a14, a15⟩] 7 B C rk rn = q at r1 r2 ⊢
    by_cases h0 : q.2 = 0
    · rw [if_pos h0]
      constructor
      · exact bind_to c1 <| ite_no (fun e => e rfl) <| ite_yes (by decide) <| ite_yes (by decide) <| ite_no (by omega) <| ite_no (by omega) <| bind_to r1 <| ite_no (fun e => e h0) <| bind_to (target_no 7 (by decide) (by decide)) <| ite_yes (by decide) <| bind_to (put_is rA) <| bind_to (next_no (by decide) (by decide) (by omega) (by omega)) rfl
      · exact bind_to c2 <| ite_no (fun e => e rfl) <| ite_yes (by decide) <| ite_yes (by decide) <| ite_no (by omega) <| ite_no (by omega) <| ite_no (by decide) <| ite_no (by decide) <| bind_to r2 <| ite_no (fun e => e h0) <| bind_to (rput_is rA) rfl
    · rw [if_neg h0]
      constructor
      · exact bind_to c1 <| ite_no (fun e => e rfl) <| ite_yes (by decide) <| ite_yes (by decide) <| ite_no (by omega) <| ite_no (by omega) <| bind_to r1 <| ite_yes h0 rfl
      · exact bind_to c2 <| ite_no (fun e => e rfl) <| ite_yes (by decide) <| ite_yes (by decide) <| ite_no (by omega) <| ite_no (by omega) <| ite_no (by decide) <| ite_no (by decide) <| bind_to r2 <| ite_yes h0 rfl
theorem do_10 (h : fineB ⟨10, A, B, C⟩ N = true) (hN : 4 ≤ N) : regs_Do a0 a1 a2 a3 a4 a5 a6 a7 a8 a9 a10 a11 a12 a13 a14 a15 pc 10 A B C rk rn N = some (mkD (doP [⟨a0, a1⟩, ⟨a2, a3⟩, ⟨a4, a5⟩, ⟨a6, a7⟩, ⟨a8, a9⟩, ⟨a10, a11⟩, ⟨a12, a13⟩, ⟨a14, a15⟩] pc 10 A B C rk rn N)) ∧ ref14_Do a0 a1 a2 a3 a4 a5 a6 a7 a8 a9 a10 a11 a12 a13 a14 a15 pc 10 A B C rk rn N = some (mkR (doP [⟨a0, a1⟩, ⟨a2, a3⟩, ⟨a4, a5⟩, ⟨a6, a7⟩, ⟨a8, a9⟩, ⟨a10, a11⟩, ⟨a12, a13⟩, ⟨a14, a15⟩] pc 10 A B C rk rn N)) := by
  obtain ⟨c1, c2, -⟩ := fine_is 10 A B C hN
  rw [h] at c1 c2
  obtain ⟨f0, f1, f2⟩ := is_inv (t0 := 1) (t1 := 0) (t2 := 0) rfl c2
  have rA := reg_of f0
  rw [doP_yes _ _ h (by decide)]
  by_cases hp : pc < 0 ∨ 512 ≤ pc
  · rw [doB_pc _ _ hp]
    constructor
    · exact bind_to c1 <| ite_no (fun e => e rfl) <| ite_yes (by decide) <| ite_yes (by decide) <| ite_eq (fun _ => rfl) (fun _ => ite_yes (by omega) rfl)
    · exact bind_to c2 <| ite_no (fun e => e rfl) <| ite_yes (by decide) <| ite_yes (by decide) <| ite_eq (fun _ => rfl) (fun _ => ite_yes (by omega) rfl)
  · obtain ⟨r1, r2⟩ := res_10 (a0 := a0) (a1 := a1) (a2 := a2) (a3 := a3) (a4 := a4) (a5 := a5) (a6 := a6) (a7 := a7) (a8 := a8) (a9 := a9) (a10 := a10) (a11 := a11) (a12 := a12) (a13 := a13) (a14 := a14) (a15 := a15) (A := A) (rk := rk) (rn := rn) (N := N) (B := B) (C := C)
    have e : doB [⟨a0, a1⟩, ⟨a2, a3⟩, ⟨a4, a5⟩, ⟨a6, a7⟩, ⟨a8, a9⟩, ⟨a10, a11⟩, ⟨a12, a13⟩, ⟨a14, a15⟩] pc 10 A B C rk rn = if (resP [⟨a0, a1⟩, ⟨a2, a3⟩, ⟨a4, a5⟩, ⟨a6, a7⟩, ⟨a8, a9⟩, ⟨a10, a11⟩, ⟨a12, a13⟩, ⟨a14, a15⟩] 10 B C rk rn).2 = 0 then (([⟨a0, a1⟩, ⟨a2, a3⟩, ⟨a4, a5⟩, ⟨a6, a7⟩, ⟨a8, a9⟩, ⟨a10, a11⟩, ⟨a12, a13⟩, ⟨a14, a15⟩] : List R_ii).set A.toNat (resP [⟨a0, a1⟩, ⟨a2, a3⟩, ⟨a4, a5⟩, ⟨a6, a7⟩, ⟨a8, a9⟩, ⟨a10, a11⟩, ⟨a12, a13⟩, ⟨a14, a15⟩] 10 B C rk rn).1, pc + 1, 0) else (zz, 0, (resP [⟨a0, a1⟩, ⟨a2, a3⟩, ⟨a4, a5⟩, ⟨a6, a7⟩, ⟨a8, a9⟩, ⟨a10, a11⟩, ⟨a12, a13⟩, ⟨a14, a15⟩] 10 B C rk rn).2) := if_neg hp
    rw [e]
    generalize resP [⟨a0, a1⟩, ⟨a2, a3⟩, ⟨a4, a5⟩, ⟨a6, a7⟩, ⟨a8, a9⟩, ⟨a10, a11⟩, ⟨a12, a13⟩, ⟨a14, a15⟩] 10 B C rk rn = q at r1 r2 ⊢
    by_cases h0 : q.2 = 0
    · rw [if_pos h0]
      constructor
      · exact bind_to c1 <| ite_no (fun e => e rfl) <| ite_yes (by decide) <| ite_yes (by decide) <| ite_no (by omega) <| ite_no (by omega) <| bind_to r1 <| ite_no (fun e => e h0) <| bind_to (target_no 10 (by decide) (by decide)) <| ite_yes (by decide) <| bind_to (put_is rA) <| bind_to (next_no (by decide) (by decide) (by omega) (by omega)) rfl
      · exact bind_to c2 <| ite_no (fun e => e rfl) <| ite_yes (by decide) <| ite_yes (by decide) <| ite_no (by omega) <| ite_no (by omega) <| ite_no (by decide) <| ite_no (by decide) <| bind_to r2 <| ite_no (fun e => e h0) <| bind_to (rput_is rA) rfl
    · rw [if_neg h0]
      constructor
      · exact bind_to c1 <| ite_no (fun e => e rfl) <| ite_yes (by decide) <| ite_yes (by decide) <| ite_no (by omega) <| ite_no (by omega) <| bind_to r1 <| ite_yes h0 rfl
      · exact bind_to c2 <| ite_no (fun e => e rfl) <| ite_yes (by decide) <| ite_yes (by decide) <| ite_no (by omega) <| ite_no (by omega) <| ite_no (by decide) <| ite_no (by decide) <| bind_to r2 <| ite_yes h0 rfl
theorem do_8 (h : fineB ⟨8, A, B, C⟩ N = true) (hN : 4 ≤ N) : regs_Do a0 a1 a2 a3 a4 a5 a6 a7 a8 a9 a10 a11 a12 a13 a14 a15 pc 8 A B C rk rn N = some (mkD (doP [⟨a0, a1⟩, ⟨a2, a3⟩, ⟨a4, a5⟩, ⟨a6, a7⟩, ⟨a8, a9⟩, ⟨a10, a11⟩, ⟨a12, a13⟩, ⟨a14, a15⟩] pc 8 A B C rk rn N)) ∧ ref14_Do a0 a1 a2 a3 a4 a5 a6 a7 a8 a9 a10 a11 a12 a13 a14 a15 pc 8 A B C rk rn N = some (mkR (doP [⟨a0, a1⟩, ⟨a2, a3⟩, ⟨a4, a5⟩, ⟨a6, a7⟩, ⟨a8, a9⟩, ⟨a10, a11⟩, ⟨a12, a13⟩, ⟨a14, a15⟩] pc 8 A B C rk rn N)) := by
  obtain ⟨c1, c2, -⟩ := fine_is 8 A B C hN
  rw [h] at c1 c2
  rw [doP_yes _ _ h (by decide)]
  by_cases hp : pc < 0 ∨ 512 ≤ pc
  · rw [doB_pc _ _ hp]
    constructor
    · exact bind_to c1 <| ite_no (fun e => e rfl) <| ite_yes (by decide) <| ite_yes (by decide) <| ite_eq (fun _ => rfl) (fun _ => ite_yes (by omega) rfl)
    · exact bind_to c2 <| ite_no (fun e => e rfl) <| ite_yes (by decide) <| ite_yes (by decide) <| ite_eq (fun _ => rfl) (fun _ => ite_yes (by omega) rfl)
  · have e : doB [⟨a0, a1⟩, ⟨a2, a3⟩, ⟨a4, a5⟩, ⟨a6, a7⟩, ⟨a8, a9⟩, ⟨a10, a11⟩, ⟨a12, a13⟩, ⟨a14, a15⟩] pc 8 A B C rk rn = ([⟨a0, a1⟩, ⟨a2, a3⟩, ⟨a4, a5⟩, ⟨a6, a7⟩, ⟨a8, a9⟩, ⟨a10, a11⟩, ⟨a12, a13⟩, ⟨a14, a15⟩], A, 0) := if_neg hp
    rw [e]
    have r1 : regs_result a0 a1 a2 a3 a4 a5 a6 a7 a8 a9 a10 a11 a12 a13 a14 a15 8 A B C rk rn N = some (.r0 0 0 0) := rfl
    have n1 : regs_next a0 a1 a2 a3 a4 a5 a6 a7 a8 a9 a10 a11 a12 a13 a14 a15 a0 a1 a2 a3 a4 a5 a6 a7 a8 a9 a10 a11 a12 a13 a14 a15 pc 8 A B C N = some (.r0 A) := by
      unfold regs_next
      exact ite_no (fun h => h ⟨⟨rfl, rfl⟩, ⟨rfl, rfl⟩, ⟨rfl, rfl⟩, ⟨rfl, rfl⟩, ⟨rfl, rfl⟩, ⟨rfl, rfl⟩, ⟨rfl, rfl⟩, ⟨rfl, rfl⟩⟩) <| ite_no (by decide) <| ite_yes rfl rfl
    constructor
    · exact bind_to c1 <| ite_no (fun e => e rfl) <| ite_yes (by decide) <| ite_yes (by decide) <| ite_no (by omega) <| ite_no (by omega) <| bind_to r1 <| ite_no (fun e => e rfl) <| bind_to (show instr_Target 8 A B C N = some (.r0 A true) from rfl) <| ite_no (fun h => h rfl) <| bind_to n1 rfl
    · exact bind_to c2 <| ite_no (fun e => e rfl) <| ite_yes (by decide) <| ite_yes (by decide) <| ite_no (by omega) <| ite_no (by omega) <| ite_yes rfl rfl
theorem do_9 (h : fineB ⟨9, A, B, C⟩ N = true) (hN : 4 ≤ N) : regs_Do a0 a1 a2 a3 a4 a5 a6 a7 a8 a9 a10 a11 a12 a13 a14 a15 pc 9 A B C rk rn N = some (mkD (doP [⟨a0, a1⟩, ⟨a2, a3⟩, ⟨a4, a5⟩, ⟨a6, a7⟩, ⟨a8, a9⟩, ⟨a10, a11⟩, ⟨a12, a13⟩, ⟨a14, a15⟩] pc 9 A B C rk rn N)) ∧ ref14_Do a0 a1 a2 a3 a4 a5 a6 a7 a8 a9 a10 a11 a12 a13 a14 a15 pc 9 A B C rk rn N = some (mkR (doP [⟨a0, a1⟩, ⟨a2, a3⟩, ⟨a4, a5⟩, ⟨a6, a7⟩, ⟨a8, a9⟩, ⟨a10, a11⟩, ⟨a12, a13⟩, ⟨a14, a15⟩] pc 9 A B C rk rn N)) := by
  obtain ⟨c1, c2, -⟩ := fine_is 9 A B C hN
  rw [h] at c1 c2
  obtain ⟨f0, f1, f2⟩ := is_inv (t0 := 1) (t1 := 3) (t2 := 0) rfl c2
  have rA := reg_of f0
  rw [doP_yes _ _ h (by decide)]
  by_cases hp : pc < 0 ∨ 512 ≤ pc
  · rw [doB_pc _ _ hp]
    constructor
    · exact bind_to c1 <| ite_no (fun e => e rfl) <| ite_yes (by decide) <| ite_yes (by decide) <| ite_eq (fun _ => rfl) (fun _ => ite_yes (by omega) rfl)
    · exact bind_to c2 <| ite_no (fun e => e rfl) <| ite_yes (by decide) <| ite_yes (by decide) <| ite_eq (fun _ => rfl) (fun _ => ite_yes (by omega) rfl)
  · have e : doB [⟨a0, a1⟩, ⟨a2, a3⟩, ⟨a4, a5⟩, ⟨a6, a7⟩, ⟨a8, a9⟩, ⟨a10, a11⟩, ⟨a12, a13⟩, ⟨a14, a15⟩] pc 9 A B C rk rn = ([⟨a0, a1⟩, ⟨a2, a3⟩, ⟨a4, a5⟩, ⟨a6, a7⟩, ⟨a8, a9⟩, ⟨a10, a11⟩, ⟨a12, a13⟩, ⟨a14, a15⟩], if zeroP (([⟨a0, a1⟩, ⟨a2, a3⟩, ⟨a4, a5⟩, ⟨a6, a7⟩, ⟨a8, a9⟩, ⟨a10, a11⟩, ⟨a12, a13⟩, ⟨a14, a15⟩] : List R_ii).getD A.toNat R_ii.z) then B else pc + 1, 0) := if_neg hp
    rw [e]
    have r1 : regs_result a0 a1 a2 a3 a4 a5 a6 a7 a8 a9 a10 a11 a12 a13 a14 a15 9 A B C rk rn N = some (.r0 0 0 0) := rfl
    have n1 : regs_next a0 a1 a2 a3 a4 a5 a6 a7 a8 a9 a10 a11 a12 a13 a14 a15 a0 a1 a2 a3 a4 a5 a6 a7 a8 a9 a10 a11 a12 a13 a14 a15 pc 9 A B C N = some (.r0 (if zeroP (([⟨a0, a1⟩, ⟨a2, a3⟩, ⟨a4, a5⟩, ⟨a6, a7⟩, ⟨a8, a9⟩, ⟨a10, a11⟩, ⟨a12, a13⟩, ⟨a14, a15⟩] : List R_ii).getD A.toNat R_ii.z) then B else pc + 1)) := by
      unfold regs_next
      rw [w64 (by omega) (by omega)]
      refine ite_no (fun h => h ⟨⟨rfl, rfl⟩, ⟨rfl, rfl⟩, ⟨rfl, rfl⟩, ⟨rfl, rfl⟩, ⟨rfl, rfl⟩, ⟨rfl, rfl⟩, ⟨rfl, rfl⟩, ⟨rfl, rfl⟩⟩) <| ite_yes rfl <| ite_yes rA.1 <| ite_yes (by omega) ?_
      generalize ([⟨a0, a1⟩, ⟨a2, a3⟩, ⟨a4, a5⟩, ⟨a6, a7⟩, ⟨a8, a9⟩, ⟨a10, a11⟩, ⟨a12, a13⟩, ⟨a14, a15⟩] : List R_ii).getD A.toNat R_ii.z = u
      by_cases h1 : u.a0 = 2 ∧ u.a1 = 0
      · rw [if_pos h1, if_pos (show zeroP u from .inl h1)]; rfl
      · rw [if_neg h1]
        by_cases h2 : u.a0 = 1 ∧ u.a1 = 0
        · rw [if_pos h2, if_pos (show zeroP u from .inr h2)]; rfl
        · rw [if_neg h2, if_neg (show ¬ zeroP u from fun h => h.elim h1 h2)]
    constructor
    · exact bind_to c1 <| ite_no (fun e => e rfl) <| ite_yes (by decide) <| ite_yes (by decide) <| ite_no (by omega) <| ite_no (by omega) <| bind_to r1 <| ite_no (fun e => e rfl) <| bind_to (show instr_Target 9 A B C N = some (.r0 B true) from rfl) <| ite_no (fun h => h rfl) <| bind_to n1 rfl
    · refine bind_to c2 <| ite_no (fun e => e rfl) <| ite_yes (by decide) <| ite_yes (by decide) <| ite_no (by omega) <| ite_no (by omega) <| ite_no (by decide) <| ite_yes rfl <| ite_yes rA.1 <| ite_yes (by omega) ?_
      unfold mkR
      generalize ([⟨a0, a1⟩, ⟨a2, a3⟩, ⟨a4, a5⟩, ⟨a6, a7⟩, ⟨a8, a9⟩, ⟨a10, a11⟩, ⟨a12, a13⟩, ⟨a14, a15⟩] : List R_ii).getD A.toNat R_ii.z = u
      by_cases h1 : u.a0 = 2 ∧ u.a1 = 0
      · rw [if_pos h1, if_pos (show zeroP u from .inl h1)]; rfl
      · rw [if_neg h1]
        by_cases h2 : u.a0 = 1 ∧ u.a1 = 0
        · rw [if_pos h2, if_pos (show zeroP u from .inr h2)]; rfl
        · rw [if_neg h2, if_neg (show ¬ zeroP u from fun h => h.elim h1 h2)]; rfl
theorem do_19 (h : fineB ⟨19, A, B, C⟩ N = true) (hN : 4 ≤ N) : regs_Do a0 a1 a2 a3 a4 a5 a6 a7 a8 a9 a10 a11 a12 a13 a14 a15 pc 19 A B C rk rn N = some (mkD (doP [⟨a0, a1⟩, ⟨a2, a3⟩, ⟨a4, a5⟩, ⟨a6, a7⟩, ⟨a8, a9⟩, ⟨a10, a11⟩, ⟨a12, a13⟩, ⟨a14, a15⟩] pc 19 A B C rk rn N)) ∧ ref14_Do a0 a1 a2 a3 a4 a5 a6 a7 a8 a9 a10 a11 a12 a13 a14 a15 pc 19 A B C rk rn N = some (mkR (doP [⟨a0, a1⟩, ⟨a2, a3⟩, ⟨a4, a5⟩, ⟨a6, a7⟩, ⟨a8, a9⟩, ⟨a10, a11⟩, ⟨a12, a13⟩, ⟨a14, a15⟩] pc 19 A B C rk rn N)) := by
  obtain ⟨c1, c2, -⟩ := fine_is 19 A B C hN
  rw [h] at c1 c2
  obtain ⟨f0, f1, f2⟩ := is_inv (t0 := 1) (t1 := 0) (t2 := 0) rfl c2
  have rA := reg_of f0
  rw [doP_yes _ _ h (by decide)]
  by_cases hp : pc < 0 ∨ 512 ≤ pc
  · rw [doB_pc _ _ hp]
    constructor
    · exact bind_to c1 <| ite_no (fun e => e rfl) <| ite_yes (by decide) <| ite_no (by decide) <| ite_yes rfl <| ite_eq (fun _ => rfl) (fun _ => ite_yes (by omega) rfl)
    · exact bind_to c2 <| ite_no (fun e => e rfl) <| ite_yes (by decide) <| ite_no (by decide) <| ite_yes rfl <| ite_eq (fun _ => rfl) (fun _ => ite_yes (by omega) rfl)
  · have e : doB [⟨a0, a1⟩, ⟨a2, a3⟩, ⟨a4, a5⟩, ⟨a6, a7⟩, ⟨a8, a9⟩, ⟨a10, a11⟩, ⟨a12, a13⟩, ⟨a14, a15⟩] pc 19 A B C rk rn = ([⟨a0, a1⟩, ⟨a2, a3⟩, ⟨a4, a5⟩, ⟨a6, a7⟩, ⟨a8, a9⟩, ⟨a10, a11⟩, ⟨a12, a13⟩, ⟨a14, a15⟩], pc + 1, 0) := if_neg hp
    rw [e]
    have r1 : regs_result a0 a1 a2 a3 a4 a5 a6 a7 a8 a9 a10 a11 a12 a13 a14 a15 19 A B C rk rn N = some (.r0 (([⟨a0, a1⟩, ⟨a2, a3⟩, ⟨a4, a5⟩, ⟨a6, a7⟩, ⟨a8, a9⟩, ⟨a10, a11⟩, ⟨a12, a13⟩, ⟨a14, a15⟩] : List R_ii).getD A.toNat R_ii.z).a0 (([⟨a0, a1⟩, ⟨a2, a3⟩, ⟨a4, a5⟩, ⟨a6, a7⟩, ⟨a8, a9⟩, ⟨a10, a11⟩, ⟨a12, a13⟩, ⟨a14, a15⟩] : List R_ii).getD A.toNat R_ii.z).a1 0) := by
      unfold regs_result
      exact ite_no (by decide) <| ite_no (by decide) <| ite_no (by decide) <| ite_no (by decide) <| ite_no (by decide) <| ite_no (by decide) <| ite_no (by decide) <| ite_no (by decide) <| ite_yes rfl <| ite_yes rA.1 <| ite_yes (by omega) rfl
    have p1 : regs_Put a0 a1 a2 a3 a4 a5 a6 a7 a8 a9 a10 a11 a12 a13 a14 a15 A (([⟨a0, a1⟩, ⟨a2, a3⟩, ⟨a4, a5⟩, ⟨a6, a7⟩, ⟨a8, a9⟩, ⟨a10, a11⟩, ⟨a12, a13⟩, ⟨a14, a15⟩] : List R_ii).getD A.toNat R_ii.z).a0 (([⟨a0, a1⟩, ⟨a2, a3⟩, ⟨a4, a5⟩, ⟨a6, a7⟩, ⟨a8, a9⟩, ⟨a10, a11⟩, ⟨a12, a13⟩, ⟨a14, a15⟩] : List R_ii).getD A.toNat R_ii.z).a1 N = some (.r0 a0 a1 a2 a3 a4 a5 a6 a7 a8 a9 a10 a11 a12 a13 a14 a15) := by
      rw [put_is rA]
      have := same_put rA [⟨a0, a1⟩, ⟨a2, a3⟩, ⟨a4, a5⟩, ⟨a6, a7⟩, ⟨a8, a9⟩, ⟨a10, a11⟩, ⟨a12, a13⟩, ⟨a14, a15⟩] rfl
      rw [show (⟨(([⟨a0, a1⟩, ⟨a2, a3⟩, ⟨a4, a5⟩, ⟨a6, a7⟩, ⟨a8, a9⟩, ⟨a10, a11⟩, ⟨a12, a13⟩, ⟨a14, a15⟩] : List R_ii).getD A.toNat R_ii.z).a0, (([⟨a0, a1⟩, ⟨a2, a3⟩, ⟨a4, a5⟩, ⟨a6, a7⟩, ⟨a8, a9⟩, ⟨a10, a11⟩, ⟨a12, a13⟩, ⟨a14, a15⟩] : List R_ii).getD A.toNat R_ii.z).a1⟩ : R_ii) = ([⟨a0, a1⟩, ⟨a2, a3⟩, ⟨a4, a5⟩, ⟨a6, a7⟩, ⟨a8, a9⟩, ⟨a10, a11⟩, ⟨a12, a13⟩, ⟨a14, a15⟩] : List R_ii).getD A.toNat R_ii.z from rfl, this]
      rfl
    constructor
    · exact bind_to c1 <| ite_no (fun e => e rfl) <| ite_yes (by decide) <| ite_no (by decide) <| ite_yes rfl <| ite_no (by omega) <| ite_no (by omega) <| bind_to r1 <| ite_no (fun e => e rfl) <| bind_to (target_no 19 (by decide) (by decide)) <| ite_yes (by decide) <| bind_to p1 <| bind_to (next_no (by decide) (by decide) (by omega) (by omega)) rfl
    · exact bind_to c2 <| ite_no (fun e => e rfl) <| ite_yes (by decide) <| ite_no (by decide) <| ite_yes rfl <| ite_no (by omega) <| ite_no (by omega) rfl
/-- What an instruction does: both answers. -/
theorem do_is (op : Int) (hN : 4 ≤ N) : regs_Do a0 a1 a2 a3 a4 a5 a6 a7 a8 a9 a10 a11 a12 a13 a14 a15 pc op A B C rk rn N = some (mkD (doP [⟨a0, a1⟩, ⟨a2, a3⟩, ⟨a4, a5⟩, ⟨a6, a7⟩, ⟨a8, a9⟩, ⟨a10, a11⟩, ⟨a12, a13⟩, ⟨a14, a15⟩] pc op A B C rk rn N)) ∧ ref14_Do a0 a1 a2 a3 a4 a5 a6 a7 a8 a9 a10 a11 a12 a13 a14 a15 pc op A B C rk rn N = some (mkR (doP [⟨a0, a1⟩, ⟨a2, a3⟩, ⟨a4, a5⟩, ⟨a6, a7⟩, ⟨a8, a9⟩, ⟨a10, a11⟩, ⟨a12, a13⟩, ⟨a14, a15⟩] pc op A B C rk rn N)) := by
  by_cases h : fineB ⟨op, A, B, C⟩ N = true
  · by_cases hl : localP op
    · have : op = 1 ∨ op = 2 ∨ op = 3 ∨ op = 4 ∨ op = 5 ∨ op = 6 ∨ op = 7 ∨ op = 8 ∨ op = 9 ∨ op = 10 ∨ op = 19 := by unfold localP at hl; omega
      rcases this with rfl | rfl | rfl | rfl | rfl | rfl | rfl | rfl | rfl | rfl | rfl
      · exact do_1 h hN
      · exact do_2 h hN
      · exact do_3 h hN
      · exact do_4 h hN
      · exact do_5 h hN
      · exact do_6 h hN
      · exact do_7 h hN
      · exact do_8 h hN
      · exact do_9 h hN
      · exact do_10 h hN
      · exact do_19 h hN
    · obtain ⟨c1, c2, -⟩ := fine_is op A B C hN
      rw [h] at c1 c2
      rw [doP_no _ _ fun e => hl e.2]
      unfold localP at hl
      constructor
      · have e1 : ∀ h1 : 1 ≤ op, ¬ op ≤ 10 := fun h1 => by omega
        by_cases h1 : 1 ≤ op
        · exact bind_to c1 <| ite_no (fun e => e rfl) <| ite_yes h1 <| ite_no (by omega) <| ite_no (by omega) rfl
        · exact bind_to c1 <| ite_no (fun e => e rfl) <| ite_no h1 rfl
      · have e1 : ∀ h1 : 1 ≤ op, ¬ op ≤ 10 := fun h1 => by omega
        by_cases h1 : 1 ≤ op
        · exact bind_to c2 <| ite_no (fun e => e rfl) <| ite_yes h1 <| ite_no (by omega) <| ite_no (by omega) rfl
        · exact bind_to c2 <| ite_no (fun e => e rfl) <| ite_no h1 rfl
  · obtain ⟨c1, c2, -⟩ := fine_is op A B C hN
    rw [if_neg h] at c1
    rw [doP_no _ _ fun e => h e.1]
    constructor
    · exact bind_to c1 <| ite_yes (by decide) rfl
    · exact bind_to c2 <| ite_yes h rfl
end
end Ev
end Go.Proofs.Ytnahodeffgoccaa
