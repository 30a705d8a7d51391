/- What the program's scan does with one instruction: plain. -/
import Derived.Test.YtpgbennpiihajaaKsx
namespace Go.Proofs.Ytpgbennpiihajaa
open Go.RowKit
namespace Ev
set_option linter.unusedVariables false
set_option linter.unusedSimpArgs false

def fineB (x : R_iiii) (N : Nat) : Bool := match ref10_Is x.a0 x.a1 x.a2 x.a3 N with
  | some (.r0 b) => b
  | none => false
theorem fine_is (x : R_iiii) {N : Nat} (hN : 4 ≤ N) : instr_Check x.a0 x.a1 x.a2 x.a3 N = some (.r0 (if fineB x N = true then 0 else 100)) ∧ ref10_Is x.a0 x.a1 x.a2 x.a3 N = some (.r0 (fineB x N)) ∧ Fine x.a0 x.a1 x.a2 x.a3 (fineB x N) := by
  obtain ⟨b, h1, h2, h3⟩ := check_is x.a0 x.a1 x.a2 x.a3 N hN
  have e : fineB x N = b := by unfold fineB; rw [h2]
  rw [e]; exact ⟨h1, h2, h3⟩
/-- Why an instruction may not stand behind open ways. -/
def errI (l : List R_ii) (x : R_iiii) (N : Nat) : Int := if (fineB x N && stepB l x.a0) = true then 0 else if x.a0 = 15 ∧ fineB x N = true then 140 else 120
/-- The program's stack, and the document's ways. -/
def Rel (s l : List R_ii) : Prop := s.length = l.length ∧ ∀ j, j < l.length → (s.getD j R_ii.z).a0 = (l.getD j R_ii.z).a0 ∧ (0 ≤ (s.getD j R_ii.z).a1 ↔ (l.getD j R_ii.z).a1 = 1) ∧ ((l.getD j R_ii.z).a1 = 0 ∨ (l.getD j R_ii.z).a1 = 1)
def Bd (s : List R_ii) (k : Nat) : Prop := ∀ j, j < s.length → 0 ≤ (s.getD j R_ii.z).a0 ∧ (s.getD j R_ii.z).a0 < (k : Int) ∧ (s.getD j R_ii.z).a1 < (k : Int)
def arP (s : List R_ii) : R_ii := if s.length = 0 then ⟨-1, 0⟩ else if 0 ≤ (lastP s).a1 then ⟨(lastP s).a0, 1⟩ else ⟨(lastP s).a0, 0⟩
theorem ar_br {s l : List R_ii} (h : Rel s l) : arP s = brP l := by
  unfold arP brP
  rw [h.1]
  by_cases h0 : l.length = 0
  · rw [if_pos h0, if_pos h0]
  · rw [if_neg h0, if_neg h0]
    obtain ⟨e1, e2, e3⟩ := h.2 (l.length - 1) (by omega)
    unfold lastP
    rw [h.1, e1]
    generalize l.getD (l.length - 1) R_ii.z = y at *
    obtain ⟨y0, y1⟩ := y
    simp only at e1 e2 e3 ⊢
    by_cases h1 : 0 ≤ (s.getD (l.length - 1) R_ii.z).a1
    · rw [if_pos h1, e2.1 h1]
    · rw [if_neg h1]; rcases e3 with e3 | e3
      · rw [e3]
      · exact absurd (e2.2 e3) h1
section
variable {L : List R_iiii} {n c N : Nat} {s l B : List R_ii} {M D : List Int} {d w e : Int} {k : Nat}
theorem refuse2 (x : R_iiii) (hr : Rel s l) (hb : l.length ≤ 8) (hN : 4 ≤ N) : check_scan_refuse_2 x.a0 x.a1 x.a2 x.a3 s L n c B M D d w e N = some (.r0 (errI l x N)) := by
  obtain ⟨h1, h2, h3⟩ := fine_is x hN
  unfold check_scan_refuse_2 errI stepB
  generalize instr_Check x.a0 x.a1 x.a2 x.a3 N = q at h1 ⊢
  subst h1
  generalize fineB x N = b
  clear h2 h3
  generalize x.a0 = op
  have hl := hr.1
  have c8 : ((8 : Int) ≤ (s.length : Int)) ↔ 8 ≤ l.length := by omega
  have c0 : ((s.length : Int) = 0) ↔ l.length = 0 := by omega
  have cp : ((0 : Int) < (s.length : Int)) ↔ 0 < l.length := by omega
  have cm : ((s.length : Int) - 1 ≤ 9223372036854775807) ↔ True := by constructor <;> intro _ <;> first | trivial | omega
  simp only [c8, c0, cp, cm, Option.bind_some, if_true]
  by_cases h15 : op = 15
  · subst h15
    by_cases h8 : 8 ≤ l.length
    · have h9 : ¬ l.length < 8 := by omega
      cases b <;> simp [h8, h9]
    · have h9 : l.length < 8 := by omega
      cases b <;> simp [h8, h9]
  · by_cases h16 : op = 16
    · subst h16
      by_cases h0 : l.length = 0
      · simp [h0]
      · have ct : (0 ≤ (s.getD (s.length - 1) R_ii.z).a1) ↔ (lastP l).a1 = 1 := by
          rw [hl]; exact (hr.2 (l.length - 1) (by omega)).2.1
        simp only [ct]
        by_cases h1 : (lastP l).a1 = 1 <;> cases b <;> simp [h0, h1]
    · by_cases h17 : op = 17
      · subst h17
        by_cases h0 : l.length = 0
        · simp [h0]
        · have h9 : 0 < l.length := by omega
          cases b <;> simp [h0, h9]
      · by_cases h18 : op = 18
        · subst h18
          by_cases h0 : l.length = 0
          · simp [h0]
          · have h9 : 0 < l.length := by omega
            cases b <;> simp [h0, h9]
        · by_cases h20 : op = 20
          · subst h20
            by_cases h0 : l.length = 0
            · cases b <;> simp [h0]
            · have h9 : 0 < l.length := by omega
              cases b <;> simp [h0, h9]
          · cases b <;> simp [h15, h16, h17, h18, h20]
theorem around2 : check_stack_around_2 s L n c B M D d w e N = if (s.length : Int) - 1 ≤ 9223372036854775807 then some (.r0 (arP s).a0 (arP s).a1) else check_stack_around_2 s L n c B M D d w e N := by
  by_cases h : (s.length : Int) - 1 ≤ 9223372036854775807
  · rw [if_pos h]
    unfold check_stack_around_2 arP lastP
    by_cases h0 : s.length = 0
    · rw [if_pos (by omega), if_pos h0]
    · rw [if_neg (by omega), if_neg h0, if_pos h]
      by_cases h1 : (0 : Int) ≤ (s.getD (s.length - 1) R_ii.z).a1
      · rw [if_pos h1, if_pos h1]
      · rw [if_neg h1, if_neg h1]
  · rw [if_neg h]
theorem around (hs : s.length ≤ 1000) : check_stack_around_2 s L n c B M D d w e N = some (.r0 (arP s).a0 (arP s).a1) := by
  rw [around2, if_pos (by omega)]
/-- What the scan has, behind an instruction. -/
def stk (s : List R_ii) (op : Int) (k : Nat) : List R_ii := if op = 15 then s ++ [⟨(k : Int), -1⟩] else if op = 16 then s.set (s.length - 1) ⟨(lastP s).a0, (k : Int)⟩ else if op = 17 then s.take (s.length - 1) else s
def mtk (M : List Int) (s : List R_ii) (op : Int) (k : Nat) : List Int := if op = 16 then (M ++ [-1]).set (lastP s).a0.toNat k else if op = 17 then ((M ++ [-1]).set (if 0 ≤ (lastP s).a1 then (lastP s).a1 else (lastP s).a0).toNat k).set k (lastP s).a0 else M ++ [-1]
def blk (D : List Int) (s : List R_ii) (op : Int) (k : Nat) : List Int := if op = 15 then if s.length = 0 then D ++ [(k : Int)] else D else D
def dpk (d : Int) (s : List R_ii) (op : Int) : Int := if op = 15 then (if ((s.length + 1 : Nat) : Int) > d then ((s.length + 1 : Nat) : Int) else d) else d
/-- What taking an instruction hands back. -/
def takeR (s B : List R_ii) (M D : List Int) (d : Int) (op : Int) (k : Nat) : check_scan_take_2R :=
  if op = 15 then if s.length = 0 then .r0 (B ++ [arP s]) else .r1 (stk s op k) (B ++ [arP s]) (mtk M s op k) (dpk d s op)
  else if op = 17 then .r1 (stk s op k) (B ++ [arP s]) (mtk M s op k) d else .r2 (stk s op k) (B ++ [arP s]) (mtk M s op k)
theorem open_of {op : Int} (ho : stepB l op = true) (h : op = 16 ∨ op = 17) : 0 < l.length := by
  unfold stepB at ho
  rcases h with h | h <;> subst h
  · rw [if_neg (by decide), if_pos rfl] at ho
    by_cases h0 : l.length = 0
    · rw [if_pos h0] at ho; cases ho
    · omega
  · rw [if_neg (by decide), if_neg (by decide), if_pos rfl] at ho
    exact of_decide_eq_true ho
theorem take_is {op : Int} (hk : k < 512) (hr : Rel s l) (hl8 : l.length ≤ 8) (hb : Bd s k) (hB : B.length = k) (hM : M.length = k) (hD : D.length ≤ k) (ho : stepB l op = true) :
    check_scan_take_2 (k : Int) op s L n c B M D d w e N = some (takeR s B M D d op k) := by
  have hsl := hr.1
  have ht : ((s.length : Int) - 1).toNat = s.length - 1 := by omega
  have hat : ((k : Int)).toNat = k := Int.toNat_natCast k
  unfold check_scan_take_2
  refine bind_to (around (by omega)) (ite_yes (by omega) (ite_yes (by omega) ?_))
  unfold takeR
  by_cases h15 : op = 15
  · rw [if_pos h15, if_pos h15]
    by_cases h0 : s.length = 0
    · rw [if_pos h0]
      exact ite_yes (by omega) (ite_yes (by omega) rfl)
    · rw [if_neg h0]
      have e1 : stk s op k = s ++ [⟨(k : Int), -1⟩] := if_pos h15
      have e2 : mtk M s op k = M ++ [-1] := by unfold mtk; rw [if_neg (by omega), if_neg (by omega)]
      have e3 : dpk d s op = (if ((s.length + 1 : Nat) : Int) > d then ((s.length + 1 : Nat) : Int) else d) := if_pos h15
      rw [e1, e2, e3]
      exact ite_no (by omega) (ite_yes (by omega) rfl)
  · rw [if_neg h15, if_neg h15]
    by_cases h16 : op = 16
    · have hp := open_of ho (.inl h16)
      obtain ⟨b1, b2, b3⟩ := hb (s.length - 1) (by omega)
      have e1 : stk s op k = s.set (s.length - 1) ⟨(lastP s).a0, (k : Int)⟩ := by unfold stk; rw [if_neg h15, if_pos h16]
      have e2 : mtk M s op k = (M ++ [-1]).set (lastP s).a0.toNat k := if_pos h16
      have h17 : ¬ op = 17 := by omega
      rw [if_pos h16, if_neg h17, ht, e1, e2]
      exact ite_yes (by omega) (ite_yes (by omega) (ite_yes b1 (ite_yes (by omega) rfl)))
    · rw [if_neg h16]
      by_cases h17 : op = 17
      · have hp := open_of ho (.inr h17)
        obtain ⟨b1, b2, b3⟩ := hb (s.length - 1) (by omega)
        rw [if_pos h17, if_pos h17, ht, hat]
        have e1 : stk s op k = s.take (s.length - 1) := by unfold stk; rw [if_neg h15, if_neg h16, if_pos h17]
        have e2 : mtk M s op k = ((M ++ [-1]).set (if 0 ≤ (lastP s).a1 then (lastP s).a1 else (lastP s).a0).toNat k).set k (lastP s).a0 := by unfold mtk; rw [if_neg h16, if_pos h17]
        rw [e1, e2]
        by_cases h1 : (0 : Int) ≤ (s.getD (s.length - 1) R_ii.z).a1
        · rw [show lastP s = s.getD (s.length - 1) R_ii.z from rfl, if_pos h1, if_pos h1]
          refine ite_yes (by omega) (ite_yes (by omega) (ite_yes (by omega) (ite_yes (by omega) (ite_yes (by omega) (bind_to (a := .r0) ?_ rfl)))))
          unfold check_stack_pop
          exact ite_yes (by omega) (ite_yes (by omega) rfl)
        · rw [show lastP s = s.getD (s.length - 1) R_ii.z from rfl, if_neg h1, if_neg h1]
          refine ite_yes (by omega) (ite_yes (by omega) (ite_yes b1 (ite_yes (by omega) (ite_yes (by omega) (ite_yes (by omega) (bind_to (a := .r0) ?_ rfl))))))
          unfold check_stack_pop
          exact ite_yes (by omega) (ite_yes (by omega) rfl)
      · rw [if_neg h17, if_neg h17]
        have e1 : stk s op k = s := by unfold stk; rw [if_neg h15, if_neg h16, if_neg h17]
        have e2 : mtk M s op k = M ++ [-1] := by unfold mtk; rw [if_neg h16, if_neg h17]
        rw [e1, e2]
theorem look_go (hk : k < n) (hn : n ≤ L.length) (hL : n ≤ 512) (hN : 4 ≤ N) (hr : Rel s l) (hl8 : l.length ≤ 8) (hb : Bd s k) (hB : B.length = k) (hM : M.length = k) (hD : D.length ≤ k)
    (hf : fineB (L.getD k R_iiii.z) N = true) (ho : stepB l (L.getD k R_iiii.z).a0 = true) :
    check_look_h1m1 L n c N k s B M D d = some (.inl (.h1m1 (k + 1) (stk s (L.getD k R_iiii.z).a0 k) (B ++ [arP s]) (mtk M s (L.getD k R_iiii.z).a0 k) (blk D s (L.getD k R_iiii.z).a0 k) (dpk d s (L.getD k R_iiii.z).a0))) := by
  unfold check_look_h1m1
  have he : errI l (L.getD k R_iiii.z) N = 0 := by unfold errI; rw [hf, ho]; rfl
  refine ite_yes (by omega) (ite_yes (by omega) (bind_to (refuse2 (L.getD k R_iiii.z) hr hl8 hN) (ite_no (by rw [he]; decide) (bind_to (take_is (by omega) hr hl8 hb hB hM hD ho) ?_))))
  generalize (L.getD k R_iiii.z).a0 = op at ho ⊢
  unfold takeR
  by_cases h15 : op = 15
  · rw [if_pos h15]
    by_cases h0 : s.length = 0
    · rw [if_pos h0]
      have e1 : stk s op k = s ++ [⟨(k : Int), -1⟩] := if_pos h15
      have e2 : mtk M s op k = M ++ [-1] := by unfold mtk; rw [if_neg (by omega), if_neg (by omega)]
      have e3 : dpk d s op = (if ((s.length + 1 : Nat) : Int) > d then ((s.length + 1 : Nat) : Int) else d) := if_pos h15
      have e4 : blk D s op k = D ++ [(k : Int)] := by unfold blk; rw [if_pos h15, if_pos h0]
      rw [e1, e2, e3, e4]
      exact ite_yes (by omega) rfl
    · rw [if_neg h0]
      have : blk D s op k = D := by unfold blk; rw [if_pos h15, if_neg h0]
      rw [this]
      exact ite_yes (by omega) rfl
  · rw [if_neg h15]
    have h1 : blk D s op k = D := by unfold blk; rw [if_neg h15]
    have h2 : dpk d s op = d := by unfold dpk; rw [if_neg h15]
    rw [h1, h2]
    by_cases h17 : op = 17
    · rw [if_pos h17]; exact ite_yes (by omega) rfl
    · rw [if_neg h17]; exact ite_yes (by omega) rfl
theorem look_no (hk : k < n) (hn : n ≤ L.length) (hN : 4 ≤ N) (hr : Rel s l) (hl8 : l.length ≤ 8) (h : errI l (L.getD k R_iiii.z) N ≠ 0) :
    check_look_h1m1 L n c N k s B M D d = some (.inr (.r2 s B M D d (k : Int) (errI l (L.getD k R_iiii.z) N))) := by
  unfold check_look_h1m1
  exact ite_yes (by omega) (ite_yes (by omega) (bind_to (refuse2 (L.getD k R_iiii.z) hr hl8 hN) (ite_yes h rfl)))
end
end Ev
end Go.Proofs.Ytpgbennpiihajaa
