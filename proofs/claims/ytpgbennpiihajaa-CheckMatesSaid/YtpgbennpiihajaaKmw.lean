/- The ways that are open, by the document's words: plain. -/
import Derived.Test.YtpgbennpiihajaaKmv
namespace Go.Proofs.Ytpgbennpiihajaa
open Go.RowKit
namespace Ev
set_option linter.unusedVariables false
set_option linter.unusedSimpArgs false
def Zbn (l : List R_ii) : R_ii := l.getD (l.length - 1) R_ii.z
def brP (l : List R_ii) : R_ii := if l.length = 0 then ⟨-1, 0⟩ else Zbn l
def Zf6 (l : List R_ii) (op : Int) (k : Nat) : List R_ii :=
 if op = 15 then if 8 ≤ l.length then l else l ++ [⟨(k : Int), 0⟩]
 else if op = 16 then if l.length = 0 then l else if (Zbn l).a1 = 1 then l else l.take (l.length - 1) ++ [⟨(Zbn l).a0, 1⟩]
 else if op = 17 then l.take (l.length - 1) else l
def ZdK (l : List R_ii) (op : Int) : Bool :=
 if op = 15 then decide (l.length < 8)
 else if op = 16 then if l.length = 0 then false else if (Zbn l).a1 = 1 then false else true
 else if op = 17 then decide (0 < l.length)
 else if op = 18 then decide (0 < l.length)
 else if op = 20 then decide (l.length = 0) else true
def opn (L : List R_iiii) : Nat → List R_ii
 | 0 => []
 | k + 1 => Zf6 (opn L k) (L.getD k R_iiii.z).a0 k
theorem Zvp {l : List R_ii} {op : Int} {k : Nat} (h : l.length ≤ 8) : (Zf6 l op k).length ≤ 8 := by
 unfold Zf6
 repeat' split
 all_goals try simp only [List.length_append, List.length_take, List.length_cons, List.length_nil]
 all_goals omega
theorem Zjo (L : List R_iiii) : ∀ k, (opn L k).length ≤ 8
 | 0 => by simp [opn]
 | k + 1 => Zvp (Zjo L k)
theorem ZvZ (op a1 a2 a3 : Int) (k : Nat) (N : Nat) : Zei op a1 a2 a3 (k : Int) N = if op = 15 then some .r0 else some (.r1 (ZdK [] op)) := by
 unfold Zei ZdK
 by_cases h15 : op = 15
 ·rw [if_pos h15, if_pos h15]
 ·rw [if_neg h15, if_neg h15, if_neg h15]
  by_cases h16 : op = 16
  ·rw [if_pos h16, if_pos h16]; rfl
  ·rw [if_neg h16, if_neg h16]
   by_cases h17 : op = 17
   ·rw [if_pos h17, if_pos h17]; rfl
   ·rw [if_neg h17, if_neg h17]
    by_cases h18 : op = 18
    ·rw [if_pos h18, if_pos h18]; rfl
    ·rw [if_neg h18, if_neg h18]; by_cases h20 : op = 20 <;> simp [h20]
def outL (l : List R_ii) : ZE → List R_ii
 | .r0 _ => l
 | .r1 l' => l'
 | .r2 => l.take (l.length - 1)
def Zqi : ZE → Bool
 | .r0 b => b
 | _ => true
theorem Zwa (l : List R_ii) (op a1 a2 a3 : Int) (k : Nat) (N : Nat) (hl : l.length ≤ 8) : ∃ r, ZcC l op a1 a2 a3 (k : Int) N = some r ∧ outL l r = Zf6 l op k ∧ Zqi r = ZdK l op := by
 unfold ZcC Zf6 ZdK
 by_cases h15 : op = 15
 ·rw [if_pos h15, if_pos h15, if_pos h15]
  by_cases h8 : 8 ≤ l.length
  ·rw [if_pos (by omega), if_pos h8]; exact ⟨_, rfl, rfl, by simp [Zqi]; omega⟩
  ·rw [if_neg (by omega), if_neg h8]
   by_cases h0 : l.length = 0
   ·rw [if_pos h0]; obtain rfl := List.length_eq_zero_iff.1 h0; exact ⟨_, rfl, rfl, by simp [Zqi]⟩
   ·rw [if_neg h0]; exact ⟨_, rfl, rfl, by simp [Zqi]; omega⟩
 ·rw [if_neg h15, if_neg h15, if_neg h15]
  by_cases h16 : op = 16
  ·rw [if_pos h16, if_pos h16, if_pos h16]
   by_cases h0 : l.length = 0
   ·rw [if_pos (by omega), if_pos h0, if_pos h0]; exact ⟨_, rfl, rfl, rfl⟩
   ·rw [if_neg (by omega), if_neg h0, if_neg h0, if_pos (by omega)]
    show ∃ r, (if (Zbn l).a1 = 1 then _ else _) = some r ∧ _
    by_cases h1 : (Zbn l).a1 = 1
    ·rw [if_pos h1, if_pos h1, if_pos h1]; exact ⟨_, rfl, rfl, rfl⟩
    ·rw [if_neg h1, if_neg h1, if_neg h1]
     by_cases h2 : (l.length - 1) - 0 = 0
     ·rw [if_pos h2]
      refine ⟨_, rfl, ?_, rfl⟩
      show [(⟨(Zbn l).a0, 1⟩ : R_ii)] = _
      rw [show l.length - 1 = 0 by omega]; rfl
     ·rw [if_neg h2, if_pos (by omega)]; exact ⟨_, rfl, rfl, rfl⟩
  ·rw [if_neg h16, if_neg h16, if_neg h16]
   by_cases h17 : op = 17
   ·rw [if_pos h17, if_pos h17, if_pos h17]
    by_cases h0 : l.length = 0
    ·rw [if_pos (by omega)]
     obtain rfl := List.length_eq_zero_iff.1 h0
     exact ⟨_, rfl, rfl, rfl⟩
    ·rw [if_neg (by omega), if_pos (by omega)]; exact ⟨_, rfl, rfl, (decide_eq_true (by omega)).symm⟩
   ·rw [if_neg h17, if_neg h17, if_neg h17]
    by_cases h18 : op = 18
    ·rw [if_pos h18, if_pos h18]
     by_cases h0 : 0 < l.length
     ·rw [if_pos (by omega)]; exact ⟨_, rfl, rfl, by simp [Zqi, h0]⟩
     ·rw [if_neg (by omega)]; exact ⟨_, rfl, rfl, (decide_eq_false (by omega)).symm⟩
    ·rw [if_neg h18, if_neg h18]
     by_cases h20 : op = 20
     ·rw [if_pos h20, if_pos h20]
      by_cases h0 : l.length = 0
      ·rw [if_pos (by omega)]; exact ⟨_, rfl, rfl, by simp [Zqi, h0]⟩
      ·rw [if_neg (by omega)]; exact ⟨_, rfl, rfl, by simp [Zqi, h0]⟩
     ·rw [if_neg h20, if_neg h20]; exact ⟨_, rfl, rfl, rfl⟩
end Ev
end Go.Proofs.Ytpgbennpiihajaa
