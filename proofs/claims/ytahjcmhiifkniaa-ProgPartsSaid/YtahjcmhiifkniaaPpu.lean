/- Every instruction is looked at. -/
import Derived.Test.YtahjcmhiifkniaaPpr
import Derived.Test.YtahjcmhiifkniaaPu
namespace Go.Proofs.Ytahjcmhiifkniaa
open Go.RowKit
namespace Ev
set_option linter.unusedVariables false
set_option linter.unusedSimpArgs false
theorem tot_ite {c : Prop} [Decidable c] {a b : Option instr_shape_fitsR} (h1 : c → ∃ x, a = some (.r0 x)) (h2 : ¬ c → ∃ x, b = some (.r0 x)) : ∃ x, (if c then a else b) = some (.r0 x) := by
  by_cases h : c
  · rw [if_pos h]; exact h1 h
  · rw [if_neg h]; exact h2 h
theorem fit_t (s : Nat) (hs : s ≠ 5) (n a : Int) (N : Nat) : ∃ b, instr_shape_fits (s : Int) n a N = some (.r0 b) := by
  unfold instr_shape_fits
  repeat' (first | (refine tot_ite (fun _ => ?_) (fun _ => ?_)) | exact ⟨_, rfl⟩ | (exfalso; omega))
theorem fit_5 (n a : Int) (N : Nat) (h1 : 1 ≤ a) (h2 : a ≤ 16) : ∃ b, instr_shape_fits ((5 : Nat) : Int) n a N = some (.r0 b) := by
  unfold instr_shape_fits
  repeat' (first | (refine tot_ite (fun _ => ?_) (fun _ => ?_)) | exact ⟨_, rfl⟩ | (exfalso; omega))
theorem fit_3 (n a : Int) (N : Nat) : ∃ b, instr_shape_fits ((3 : Nat) : Int) n a N = some (.r0 b) ∧ (b = true → 1 ≤ n ∧ n ≤ 16) := by
  refine ⟨decide (1 ≤ n ∧ n ≤ 16), ?_, fun h => by simpa using h⟩
  unfold instr_shape_fits; rw [if_neg (by decide), if_neg (by decide), if_pos (by decide)]; by_cases h1 : (1 : Int) ≤ n <;> by_cases h2 : n ≤ 16 <;> simp [h1, h2]
theorem run3 {op A B C : Int} {N s0 s1 s2 : Nat} {b0 b1 b2 : Bool} (hN : 4 ≤ N) (h0 : instr_shape_fits s0 A 0 N = some (.r0 b0)) (h1 : instr_shape_fits s1 B A N = some (.r0 b1)) (h2 : b1 = true → instr_shape_fits s2 C B N = some (.r0 b2)) :
    ∃ e, iter (instr_CheckStep op A B C N) N (.h1m0 s0 s1 s2) = some (.r0 e) := by
  obtain ⟨n, rfl⟩ : ∃ n, N = n + 4 := ⟨N - 4, by omega⟩
  cases b0 with
  | false =>
    refine ⟨100, iter_done ?_⟩
    show instr_Check_h1m0 op A B C (n + 4) s0 s1 s2 = _
    unfold instr_Check_h1m0
    rw [h0]; rfl
  | true =>
    have e0 : instr_CheckStep op A B C (n + 4) (.h1m0 s0 s1 s2) = some (.inl (.h1m1 s0 s1 s2)) := by
      show instr_Check_h1m0 op A B C (n + 4) s0 s1 s2 = _
      unfold instr_Check_h1m0
      rw [h0]; rfl
    rw [iter_next e0]
    cases b1 with
    | false =>
      refine ⟨100, iter_done ?_⟩
      show instr_Check_h1m1 op A B C (n + 4) s0 s1 s2 = _
      unfold instr_Check_h1m1
      rw [h1]; rfl
    | true =>
      have e1 : instr_CheckStep op A B C (n + 4) (.h1m1 s0 s1 s2) = some (.inl (.h1m2 s0 s1 s2)) := by
        show instr_Check_h1m1 op A B C (n + 4) s0 s1 s2 = _
        unfold instr_Check_h1m1
        rw [h1]; rfl
      rw [iter_next e1]
      cases b2 with
      | false =>
        refine ⟨100, iter_done ?_⟩
        show instr_Check_h1m2 op A B C (n + 4) s0 s1 s2 = _
        unfold instr_Check_h1m2
        rw [h2 rfl]; rfl
      | true =>
        have e2 : instr_CheckStep op A B C (n + 4) (.h1m2 s0 s1 s2) = some (.inl (.h1m3 s0 s1 s2)) := by
          show instr_Check_h1m2 op A B C (n + 4) s0 s1 s2 = _
          unfold instr_Check_h1m2
          rw [h2 rfl]; rfl
        rw [iter_next e2]
        exact ⟨0, iter_done rfl⟩
theorem ck3 {op A B C : Int} {N s0 s1 s2 : Nat} (hN : 4 ≤ N) (hI : instr_CheckIn op A B C N = some (.inl (.h1m0 s0 s1 s2))) (h0 : s0 ≠ 5) (h1 : s1 ≠ 5) (h2 : s2 ≠ 5 ∨ s1 = 3) : ∃ e, instr_Check op A B C N = some (.r0 e) := by
  unfold instr_Check
  rw [goM_in hI]
  obtain ⟨b0, p0⟩ := fit_t s0 h0 A 0 N
  by_cases h3 : s2 = 5
  · obtain rfl : s1 = 3 := by omega
    subst h3
    obtain ⟨b1, p1, q1⟩ := fit_3 B A N
    cases b1 with
    | false => exact run3 (b2 := true) hN p0 p1 (fun e => by cases e)
    | true =>
      obtain ⟨b2, p2⟩ := fit_5 C B N (q1 rfl).1 (q1 rfl).2
      exact run3 hN p0 p1 (fun _ => p2)
  · obtain ⟨b1, p1⟩ := fit_t s1 h1 B A N
    obtain ⟨b2, p2⟩ := fit_t s2 h3 C B N
    exact run3 hN p0 p1 (fun _ => p2)
theorem ck_tot (op A B C : Int) (N : Nat) (hN : 4 ≤ N) : ∃ e, instr_Check op A B C N = some (.r0 e) := by
  by_cases h0 : op ≤ 0 ∨ 21 ≤ op
  · refine ⟨100, goM_out ?_⟩
    have : instr_kind op N = some .r0 := by
      unfold instr_kind
      repeat' (first | rfl | (refine ite_eq (fun _ => ?_) (fun _ => ?_)) | (exfalso; omega))
    unfold instr_CheckIn
    rw [this]; rfl
  · have h : op = 1 ∨ op = 2 ∨ op = 3 ∨ op = 4 ∨ op = 5 ∨ op = 6 ∨ op = 7 ∨ op = 8 ∨ op = 9 ∨ op = 10 ∨ op = 11 ∨ op = 12 ∨ op = 13 ∨ op = 14 ∨ op = 15 ∨ op = 16 ∨ op = 17 ∨ op = 18 ∨ op = 19 ∨ op = 20 := by omega
    rcases h with rfl | rfl | rfl | rfl | rfl | rfl | rfl | rfl | rfl | rfl | rfl | rfl | rfl | rfl | rfl | rfl | rfl | rfl | rfl | rfl <;> exact ck3 hN rfl (by decide) (by decide) (by decide)
/-- What the look at an instruction tells. -/
def ckV (x : R_iiii) (N : Nat) : Int := match instr_Check x.a0 x.a1 x.a2 x.a3 N with | some (.r0 e) => e | none => 0
theorem ck_is (x : R_iiii) {N : Nat} (hN : 4 ≤ N) : instr_Check x.a0 x.a1 x.a2 x.a3 N = some (.r0 (ckV x N)) := by
  obtain ⟨e, he⟩ := ck_tot x.a0 x.a1 x.a2 x.a3 N hN
  unfold ckV
  rw [he]
/-- An instruction, its place k further. -/
def mv (k : Int) (x : R_iiii) : R_iiii := if x.a0 = 8 then ⟨x.a0, IntKind.i64.wrap (k + x.a1), x.a2, x.a3⟩ else if x.a0 = 9 then ⟨x.a0, x.a1, IntKind.i64.wrap (k + x.a2), x.a3⟩ else ⟨x.a0, x.a1, x.a2, x.a3⟩
def okI (x : R_iiii) (n N : Nat) : Bool := decide (ckV x N = 0 ∧ (x.a0 = 8 → x.a1 ≤ n) ∧ (x.a0 = 9 → x.a2 ≤ n))
theorem mv_eta (k : Int) (x : R_iiii) : (⟨x.a0, (mv k x).a1, (mv k x).a2, x.a3⟩ : R_iiii) = mv k x := by
  unfold mv
  by_cases h8 : x.a0 = 8
  · rw [if_pos h8]
  · rw [if_neg h8]
    by_cases h9 : x.a0 = 9
    · rw [if_pos h9]
    · rw [if_neg h9]
theorem body {Y : Type} {N : Nat} (hN : 4 ≤ N) (x : R_iiii) (n : Nat) (k : Int) {E : Option Y} {F : Int → Int → Option Y} {r : Option Y} (hb : okI x n N = false → E = r) (hg : okI x n N = true → F (mv k x).a1 (mv k x).a2 = r) :
    ((instr_Target (x.a0) (x.a1) (x.a2) (x.a3) N).bind fun r => match r with
      | .r0 t j =>
        if j = true then
          ((instr_Check (x.a0) (x.a1) (x.a2) (x.a3) N).bind fun r => match r with
          | .r0 e =>
            if ¬ (e = (0 : Int)) then E else
            if ((n : Nat) : Int) < t then E else
            ((instr_Aim (x.a0) (x.a1) (x.a2) (x.a3) ((IntKind.i64.wrap (k + t))) N).bind fun r => match r with
            | .r0 b c => F b c))
        else
        ((instr_Check (x.a0) (x.a1) (x.a2) (x.a3) N).bind fun r => match r with
        | .r0 e =>
          if ¬ (e = (0 : Int)) then E else
          ((instr_Aim (x.a0) (x.a1) (x.a2) (x.a3) ((IntKind.i64.wrap (k + t))) N).bind fun r => match r with
          | .r0 b c => F b c))) = r := by
  have hc := ck_is x hN
  unfold okI at hb hg
  by_cases h8 : x.a0 = 8
  · refine bind_to (a := .r0 x.a1 true) (by unfold instr_Target; rw [if_pos h8]) ?_
    refine ite_yes rfl (bind_to hc ?_)
    by_cases he : ckV x N = 0
    · refine ite_no (fun h => h he) ?_
      by_cases ht : (n : Int) < x.a1
      · exact ite_yes ht (hb (decide_eq_false fun h => by have := h.2.1 h8; omega))
      · refine ite_no ht (bind_to (a := .r0 (IntKind.i64.wrap (k + x.a1)) x.a2) (by unfold instr_Aim; rw [if_pos h8]) ?_)
        have := hg (decide_eq_true ⟨he, fun _ => by omega, fun h => by omega⟩)
        unfold mv at this
        rw [if_pos h8] at this
        exact this
    · exact ite_yes he (hb (decide_eq_false fun h => he h.1))
  · by_cases h9 : x.a0 = 9
    · refine bind_to (a := .r0 x.a2 true) (by unfold instr_Target; rw [if_neg h8, if_pos h9]) ?_
      refine ite_yes rfl (bind_to hc ?_)
      by_cases he : ckV x N = 0
      · refine ite_no (fun h => h he) ?_
        by_cases ht : (n : Int) < x.a2
        · exact ite_yes ht (hb (decide_eq_false fun h => by have := h.2.2 h9; omega))
        · refine ite_no ht (bind_to (a := .r0 x.a1 (IntKind.i64.wrap (k + x.a2))) (by unfold instr_Aim; rw [if_neg h8, if_pos h9]) ?_)
          have := hg (decide_eq_true ⟨he, fun h => by omega, fun h => by omega⟩)
          unfold mv at this
          rw [if_neg h8, if_pos h9] at this
          exact this
      · exact ite_yes he (hb (decide_eq_false fun h => he h.1))
    · refine bind_to (a := .r0 0 false) (by unfold instr_Target; rw [if_neg h8, if_neg h9]) ?_
      refine ite_no (by decide) (bind_to hc ?_)
      by_cases he : ckV x N = 0
      · refine ite_no (fun h => h he) (bind_to (a := .r0 x.a1 x.a2) (by unfold instr_Aim; rw [if_neg h8, if_neg h9]) ?_)
        have := hg (decide_eq_true ⟨he, fun h => absurd h h8, fun h => absurd h h9⟩)
        unfold mv at this
        rw [if_neg h8, if_neg h9] at this
        exact this
      · exact ite_yes he (hb (decide_eq_false fun h => he h.1))
/-- A part, moved. -/
def mvs (L : List R_iiii) (k : Int) : Nat → Nat → List R_iiii
  | 0, _ => []
  | d + 1, i => mv k (L.getD i R_iiii.z) :: mvs L k d (i + 1)
theorem mvs_len {L : List R_iiii} {k : Int} : ∀ d i, (mvs L k d i).length = d
  | 0, _ => rfl
  | d + 1, i => by unfold mvs; rw [List.length_cons, mvs_len d (i + 1)]
theorem mvs_get {L : List R_iiii} {k : Int} : ∀ d i j, j < d → (mvs L k d i).getD j R_iiii.z = mv k (L.getD (i + j) R_iiii.z)
  | 0, _, _, h => by omega
  | d + 1, i, 0, _ => rfl
  | d + 1, i, j + 1, h => by
    unfold mvs
    rw [List.getD_cons_succ, mvs_get d (i + 1) j (by omega), show i + 1 + j = i + (j + 1) by omega]
theorem to_next {X R : Type} {step : X → Option (X ⊕ R)} {n : Nat} {x y : X} {Q : Option R → Prop} (h : step x = some (.inl y)) (q : Q (iter step n y)) : Q (iter step (n + 1) x) := by rw [iter_next h]; exact q
theorem to_done {X R : Type} {step : X → Option (X ⊕ R)} {n : Nat} {x : X} {r : R} {Q : Option R → Prop} (h : step x = some (.inr r)) (q : Q (some r)) : Q (iter step (n + 1) x) := by rw [iter_done h]; exact q
/-- A part is linked. -/
theorem loop {X R : Type} {step : X → Option (X ⊕ R)} {Q : Option R → Prop} (mk : List R_iiii → Nat → X) (out : List R_iiii → X) (bad : R) (L : List R_iiii) (n N : Nat) (k : Int)
    (hs : ∀ v j, j < n → v.length ≤ 1200 → step (mk v j) = some (if okI (L.getD j R_iiii.z) n N = true then .inl (mk (v ++ [mv k (L.getD j R_iiii.z)]) (j + 1)) else .inr bad))
    (ho : ∀ v, step (mk v n) = some (.inl (out v))) (qb : Q (some bad)) : ∀ d j v f, j + d = n → v.length + d ≤ 1200 → Q (iter step f (out (v ++ mvs L k d j))) → Q (iter step (f + 1 + d) (mk v j)) := by
  intro d
  induction d with
  | zero =>
    intro j v f hj hv q
    obtain rfl : j = n := by omega
    refine to_next (ho v) ?_
    rw [show v = v ++ mvs L k 0 j from (List.append_nil v).symm]
    exact q
  | succ d ih =>
    intro j v f hj hv q
    have h := hs v j (by omega) (by omega)
    by_cases hk : okI (L.getD j R_iiii.z) n N = true
    · rw [if_pos hk] at h
      refine to_next h (ih (j + 1) _ f (by omega) (by rw [List.length_append]; show _ + 1 + d ≤ 1200; omega) ?_)
      rw [List.append_assoc]
      exact q
    · rw [if_neg hk] at h
      exact to_done h qb
end Ev
end Go.Proofs.Ytahjcmhiifkniaa
