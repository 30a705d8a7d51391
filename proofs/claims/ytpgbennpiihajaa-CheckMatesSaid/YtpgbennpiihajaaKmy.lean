/- What the program's scan does with one instruction: plain. -/
import Derived.Test.YtpgbennpiihajaaKmx
namespace Go.Proofs.Ytpgbennpiihajaa
open Go.RowKit
namespace Ev
set_option linter.unusedVariables false
set_option linter.unusedSimpArgs false

def ZeX (x : R_iiii) (N : Nat) : Bool := match Zaz x.a0 x.a1 x.a2 x.a3 N with
 | some (.r0 b) => b
 | none => false
theorem ZhY (x : R_iiii) {N : Nat} (hN : 4 ≤ N) : ZG x.a0 x.a1 x.a2 x.a3 N = some (.r0 (if ZeX x N = true then 0 else 100)) ∧ Zaz x.a0 x.a1 x.a2 x.a3 N = some (.r0 (ZeX x N)) ∧ Zee x.a0 x.a1 x.a2 x.a3 (ZeX x N) := by
 obtain ⟨b, h1, h2, h3⟩ := ZvL x.a0 x.a1 x.a2 x.a3 N hN
 have e : ZeX x N = b := by unfold ZeX; rw [h2]
 rw [e]; exact ⟨h1, h2, h3⟩
def Zef (l : List R_ii) (x : R_iiii) (N : Nat) : Int := if (ZeX x N && ZdK l x.a0) = true then 0 else if x.a0 = 15 ∧ ZeX x N = true then 140 else 120
def Rel (s l : List R_ii) : Prop := s.length = l.length ∧ ∀ j, j < l.length → (s.getD j R_ii.z).a0 = (l.getD j R_ii.z).a0 ∧ (0 ≤ (s.getD j R_ii.z).a1 ↔ (l.getD j R_ii.z).a1 = 1) ∧ ((l.getD j R_ii.z).a1 = 0 ∨ (l.getD j R_ii.z).a1 = 1)
def Bd (s : List R_ii) (k : Nat) : Prop := ∀ j, j < s.length → 0 ≤ (s.getD j R_ii.z).a0 ∧ (s.getD j R_ii.z).a0 < (k : Int) ∧ (s.getD j R_ii.z).a1 < (k : Int)
def arP (s : List R_ii) : R_ii := if s.length = 0 then ⟨-1, 0⟩ else if 0 ≤ (Zbn s).a1 then ⟨(Zbn s).a0, 1⟩ else ⟨(Zbn s).a0, 0⟩
theorem ar_br {s l : List R_ii} (h : Rel s l) : arP s = brP l := by
 unfold arP brP
 rw [h.1]
 by_cases h0 : l.length = 0
 ·rw [if_pos h0, if_pos h0]
 ·rw [if_neg h0, if_neg h0]
  obtain ⟨e1, e2, e3⟩ := h.2 (l.length - 1) (by omega)
  unfold Zbn
  rw [h.1, e1]
  generalize l.getD (l.length - 1) R_ii.z = y at *
  obtain ⟨y0, y1⟩ := y
  simp only at e1 e2 e3 ⊢
  by_cases h1 : 0 ≤ (s.getD (l.length - 1) R_ii.z).a1
  ·rw [if_pos h1, e2.1 h1]
  ·rw [if_neg h1]; rcases e3 with e3 | e3
   ·rw [e3]
   ·exact absurd (e2.2 e3) h1
section
variable {L : List R_iiii} {n c N : Nat} {s l B : List R_ii} {M D : List Int} {d w e : Int} {k : Nat}
theorem Zuq (x : R_iiii) (hr : Rel s l) (hb : l.length ≤ 8) (hN : 4 ≤ N) : Zcf x.a0 x.a1 x.a2 x.a3 s L n c B M D d w e N = some (.r0 (Zef l x N)) := by
 obtain ⟨h1, h2, h3⟩ := ZhY x hN
 unfold Zcf Zef ZdK
 generalize ZG x.a0 x.a1 x.a2 x.a3 N = q at h1 ⊢
 subst h1
 generalize ZeX x N = b
 clear h2 h3
 generalize x.a0 = op
 have hl := hr.1
 have c8 : ((8 : Int) ≤ (s.length : Int)) ↔ 8 ≤ l.length := by omega
 have c0 : ((s.length : Int) = 0) ↔ l.length = 0 := by omega
 have cp : ((0 : Int) < (s.length : Int)) ↔ 0 < l.length := by omega
 have cm : ((s.length : Int) - 1 ≤ 9223372036854775807) ↔ True := by constructor <;> intro _ <;> first | trivial | omega
 simp only [c8, c0, cp, cm, Option.bind_some, if_true]
 by_cases h15 : op = 15
 ·subst h15
  by_cases h8 : 8 ≤ l.length
  ·have h9 : ¬ l.length < 8 := by omega
   cases b <;> simp [h8, h9]
  ·have h9 : l.length < 8 := by omega
   cases b <;> simp [h8, h9]
 ·by_cases h16 : op = 16
  ·subst h16
   by_cases h0 : l.length = 0
   ·simp [h0]
   ·have ct : (0 ≤ (s.getD (s.length - 1) R_ii.z).a1) ↔ (Zbn l).a1 = 1 := by
     rw [hl]; exact (hr.2 (l.length - 1) (by omega)).2.1
    simp only [ct]
    by_cases h1 : (Zbn l).a1 = 1 <;> cases b <;> simp [h0, h1]
  ·by_cases h17 : op = 17
   ·subst h17
    by_cases h0 : l.length = 0
    ·simp [h0]
    ·have h9 : 0 < l.length := by omega
     cases b <;> simp [h0, h9]
   ·by_cases h18 : op = 18
    ·subst h18
     by_cases h0 : l.length = 0
     ·simp [h0]
     ·have h9 : 0 < l.length := by omega
      cases b <;> simp [h0, h9]
    ·by_cases h20 : op = 20
     ·subst h20
      by_cases h0 : l.length = 0
      ·cases b <;> simp [h0]
      ·have h9 : 0 < l.length := by omega
       cases b <;> simp [h0, h9]
     ·cases b <;> simp [h15, h16, h17, h18, h20]
theorem Zwn : Zbm s L n c B M D d w e N = if (s.length : Int) - 1 ≤ 9223372036854775807 then some (.r0 (arP s).a0 (arP s).a1) else Zbm s L n c B M D d w e N := by
 by_cases h : (s.length : Int) - 1 ≤ 9223372036854775807
 ·rw [if_pos h]
  unfold Zbm arP Zbn
  by_cases h0 : s.length = 0
  ·rw [if_pos (by omega), if_pos h0]
  ·rw [if_neg (by omega), if_neg h0, if_pos h]
   by_cases h1 : (0 : Int) ≤ (s.getD (s.length - 1) R_ii.z).a1
   ·rw [if_pos h1, if_pos h1]
   ·rw [if_neg h1, if_neg h1]
 ·rw [if_neg h]
theorem around (hs : s.length ≤ 1000) : Zbm s L n c B M D d w e N = some (.r0 (arP s).a0 (arP s).a1) := by
 rw [Zwn, if_pos (by omega)]
def stk (s : List R_ii) (op : Int) (k : Nat) : List R_ii := if op = 15 then s ++ [⟨(k : Int), -1⟩] else if op = 16 then s.set (s.length - 1) ⟨(Zbn s).a0, (k : Int)⟩ else if op = 17 then s.take (s.length - 1) else s
def mtk (M : List Int) (s : List R_ii) (op : Int) (k : Nat) : List Int := if op = 16 then (M ++ [-1]).set (Zbn s).a0.toNat k else if op = 17 then ((M ++ [-1]).set (if 0 ≤ (Zbn s).a1 then (Zbn s).a1 else (Zbn s).a0).toNat k).set k (Zbn s).a0 else M ++ [-1]
def blk (D : List Int) (s : List R_ii) (op : Int) (k : Nat) : List Int := if op = 15 then if s.length = 0 then D ++ [(k : Int)] else D else D
def dpk (d : Int) (s : List R_ii) (op : Int) : Int := if op = 15 then (if ((s.length + 1 : Nat) : Int) > d then ((s.length + 1 : Nat) : Int) else d) else d
def ZuN (s B : List R_ii) (M D : List Int) (d : Int) (op : Int) (k : Nat) : Zar :=
 if op = 15 then if s.length = 0 then .r0 (B ++ [arP s]) else .r1 (stk s op k) (B ++ [arP s]) (mtk M s op k) (dpk d s op)
 else if op = 17 then .r1 (stk s op k) (B ++ [arP s]) (mtk M s op k) d else .r2 (stk s op k) (B ++ [arP s]) (mtk M s op k)
theorem Zl6 {op : Int} (ho : ZdK l op = true) (h : op = 16 ∨ op = 17) : 0 < l.length := by
 unfold ZdK at ho
 rcases h with h | h <;> subst h
 ·rw [if_neg (by decide), if_pos rfl] at ho
  by_cases h0 : l.length = 0
  ·rw [if_pos h0] at ho; cases ho
  ·omega
 ·rw [if_neg (by decide), if_neg (by decide), if_pos rfl] at ho
  exact of_decide_eq_true ho
theorem Zwo {op : Int} (hk : k < 512) (hr : Rel s l) (hl8 : l.length ≤ 8) (hb : Bd s k) (hB : B.length = k) (hM : M.length = k) (hD : D.length ≤ k) (ho : ZdK l op = true) :
  ZbA (k : Int) op s L n c B M D d w e N = some (ZuN s B M D d op k) := by
 have hsl := hr.1
 have ht : ((s.length : Int) - 1).toNat = s.length - 1 := by omega
 have hat : ((k : Int)).toNat = k := Int.toNat_natCast k
 unfold ZbA
 refine Zu (around (by omega)) (Zj (by omega) (Zj (by omega) ?_))
 unfold ZuN
 by_cases h15 : op = 15
 ·rw [if_pos h15, if_pos h15]
  by_cases h0 : s.length = 0
  ·rw [if_pos h0]
   exact Zj (by omega) (Zj (by omega) rfl)
  ·rw [if_neg h0]
   have e1 : stk s op k = s ++ [⟨(k : Int), -1⟩] := if_pos h15
   have e2 : mtk M s op k = M ++ [-1] := by unfold mtk; rw [if_neg (by omega), if_neg (by omega)]
   have e3 : dpk d s op = (if ((s.length + 1 : Nat) : Int) > d then ((s.length + 1 : Nat) : Int) else d) := if_pos h15
   rw [e1, e2, e3]
   exact Z1 (by omega) (Zj (by omega) rfl)
 ·rw [if_neg h15, if_neg h15]
  by_cases h16 : op = 16
  ·have hp := Zl6 ho (.inl h16)
   obtain ⟨b1, b2, b3⟩ := hb (s.length - 1) (by omega)
   have e1 : stk s op k = s.set (s.length - 1) ⟨(Zbn s).a0, (k : Int)⟩ := by unfold stk; rw [if_neg h15, if_pos h16]
   have e2 : mtk M s op k = (M ++ [-1]).set (Zbn s).a0.toNat k := if_pos h16
   have h17 : ¬ op = 17 := by omega
   rw [if_pos h16, if_neg h17, ht, e1, e2]
   exact Zj (by omega) (Zj (by omega) (Zj b1 (Zj (by omega) rfl)))
  ·rw [if_neg h16]
   by_cases h17 : op = 17
   ·have hp := Zl6 ho (.inr h17)
    obtain ⟨b1, b2, b3⟩ := hb (s.length - 1) (by omega)
    rw [if_pos h17, if_pos h17, ht, hat]
    have e1 : stk s op k = s.take (s.length - 1) := by unfold stk; rw [if_neg h15, if_neg h16, if_pos h17]
    have e2 : mtk M s op k = ((M ++ [-1]).set (if 0 ≤ (Zbn s).a1 then (Zbn s).a1 else (Zbn s).a0).toNat k).set k (Zbn s).a0 := by unfold mtk; rw [if_neg h16, if_pos h17]
    rw [e1, e2]
    by_cases h1 : (0 : Int) ≤ (s.getD (s.length - 1) R_ii.z).a1
    ·rw [show Zbn s = s.getD (s.length - 1) R_ii.z from rfl, if_pos h1, if_pos h1]
     refine Zj (by omega) (Zj (by omega) (Zj (by omega) (Zj (by omega) (Zj (by omega) (Zu (a := .r0) ?_ rfl)))))
     unfold Zc9
     exact Zj (by omega) (Zj (by omega) rfl)
    ·rw [show Zbn s = s.getD (s.length - 1) R_ii.z from rfl, if_neg h1, if_neg h1]
     refine Zj (by omega) (Zj (by omega) (Zj b1 (Zj (by omega) (Zj (by omega) (Zj (by omega) (Zu (a := .r0) ?_ rfl))))))
     unfold Zc9
     exact Zj (by omega) (Zj (by omega) rfl)
   ·rw [if_neg h17, if_neg h17]
    have e1 : stk s op k = s := by unfold stk; rw [if_neg h15, if_neg h16, if_neg h17]
    have e2 : mtk M s op k = M ++ [-1] := by unfold mtk; rw [if_neg h16, if_neg h17]
    rw [e1, e2]
theorem Zwp (hk : k < n) (hn : n ≤ L.length) (hL : n ≤ 512) (hN : 4 ≤ N) (hr : Rel s l) (hl8 : l.length ≤ 8) (hb : Bd s k) (hB : B.length = k) (hM : M.length = k) (hD : D.length ≤ k)
  (hf : ZeX (L.getD k R_iiii.z) N = true) (ho : ZdK l (L.getD k R_iiii.z).a0 = true) :
  Zb5 L n c N k s B M D d = some (.inl (.h1m1 (k + 1) (stk s (L.getD k R_iiii.z).a0 k) (B ++ [arP s]) (mtk M s (L.getD k R_iiii.z).a0 k) (blk D s (L.getD k R_iiii.z).a0 k) (dpk d s (L.getD k R_iiii.z).a0))) := by
 unfold Zb5
 have he : Zef l (L.getD k R_iiii.z) N = 0 := by unfold Zef; rw [hf, ho]; rfl
 refine Zj (by omega) (Zj (by omega) (Zu (Zuq (L.getD k R_iiii.z) hr hl8 hN) (Z1 (by rw [he]; decide) (Zu (Zwo (by omega) hr hl8 hb hB hM hD ho) ?_))))
 generalize (L.getD k R_iiii.z).a0 = op at ho ⊢
 unfold ZuN
 by_cases h15 : op = 15
 ·rw [if_pos h15]
  by_cases h0 : s.length = 0
  ·rw [if_pos h0]
   have e1 : stk s op k = s ++ [⟨(k : Int), -1⟩] := if_pos h15
   have e2 : mtk M s op k = M ++ [-1] := by unfold mtk; rw [if_neg (by omega), if_neg (by omega)]
   have e3 : dpk d s op = (if ((s.length + 1 : Nat) : Int) > d then ((s.length + 1 : Nat) : Int) else d) := if_pos h15
   have e4 : blk D s op k = D ++ [(k : Int)] := by unfold blk; rw [if_pos h15, if_pos h0]
   rw [e1, e2, e3, e4]
   exact Zj (by omega) rfl
  ·rw [if_neg h0]
   have : blk D s op k = D := by unfold blk; rw [if_pos h15, if_neg h0]
   rw [this]
   exact Zj (by omega) rfl
 ·rw [if_neg h15]
  have h1 : blk D s op k = D := by unfold blk; rw [if_neg h15]
  have h2 : dpk d s op = d := by unfold dpk; rw [if_neg h15]
  rw [h1, h2]
  by_cases h17 : op = 17
  ·rw [if_pos h17]; exact Zj (by omega) rfl
  ·rw [if_neg h17]; exact Zj (by omega) rfl
theorem Zwq (hk : k < n) (hn : n ≤ L.length) (hN : 4 ≤ N) (hr : Rel s l) (hl8 : l.length ≤ 8) (h : Zef l (L.getD k R_iiii.z) N ≠ 0) :
  Zb5 L n c N k s B M D d = some (.inr (.r2 s B M D d (k : Int) (Zef l (L.getD k R_iiii.z) N))) := by
 unfold Zb5
 exact Zj (by omega) (Zj (by omega) (Zu (Zuq (L.getD k R_iiii.z) hr hl8 hN) (Zj h rfl)))
end
end Ev
end Go.Proofs.Ytpgbennpiihajaa
