/- ProgParts: what the plain functions come to. -/
import Derived.Test.YtahjcmhiifkniaaPpu
namespace Go.Proofs.Ytahjcmhiifkniaa
open Go.RowKit
namespace Ev
set_option linter.unusedVariables false
set_option linter.unusedSimpArgs false
def Al {X R : Type} (step : X → Option (X ⊕ R)) (Q : Option R → Prop) (c : Nat) (x : X) : Prop := ∀ f, c ≤ f → Q (iter step f x)
section
variable {X R : Type} {step : X → Option (X ⊕ R)} {Q : Option R → Prop} {c c' : Nat} {x y : X} {r : R}
theorem al_next (h : step x = some (.inl y)) (q : Al step Q c y) : Al step Q (c + 1) x := fun f hf => by
  obtain ⟨g, rfl⟩ : ∃ g, f = g + 1 := ⟨f - 1, by omega⟩
  exact to_next h (q g (by omega))
theorem al_done (h : step x = some (.inr r)) (q : Q (some r)) : Al step Q (c + 1) x := fun f hf => by
  obtain ⟨g, rfl⟩ : ∃ g, f = g + 1 := ⟨f - 1, by omega⟩
  exact to_done h q
theorem al_loop (mk : List R_iiii → Nat → X) (out : List R_iiii → X) (bad : R) (L : List R_iiii) (n N : Nat) (k : Int)
    (hs : ∀ v j, j < n → v.length ≤ 1200 → step (mk v j) = some (if okI (L.getD j R_iiii.z) n N = true then .inl (mk (v ++ [mv k (L.getD j R_iiii.z)]) (j + 1)) else .inr bad))
    (ho : ∀ v, step (mk v n) = some (.inl (out v))) (qb : Q (some bad)) {d j : Nat} {v : List R_iiii} (hj : j + d = n) (hv : v.length + d ≤ 1200) (hc : c + 1 + d ≤ c') (q : Al step Q c (out (v ++ mvs L k d j))) : Al step Q c' (mk v j) := fun f hf => by
  obtain ⟨g, rfl⟩ : ∃ g, f = g + 1 + d := ⟨f - 1 - d, by omega⟩
  exact loop mk out bad L n N k hs ho qb d j v g hj hv (q g (by omega))
end

section
variable {L1 L5 : List R_iiii} {n2 n3 n6 n7 N : Nat}

theorem prog_Link_h3m0_go (hN : 4 ≤ N) (hl : n2 ≤ L1.length) (h0 : 0 < n2) (v : Nat) : prog_LinkStep L1 n2 n3 L5 n6 n7 N (.h3m0 v) = some (if okI (L1.getD 0 R_iiii.z) n2 N = true then .inl (.h3m1 [mv 0 (L1.getD 0 R_iiii.z)] 0 v 1) else .inr (.r0 110)) := by
  show prog_Link_h3m0 L1 n2 n3 L5 n6 n7 N v = _
  unfold prog_Link_h3m0
  refine ite_yes (by omega) (ite_yes (by omega) ?_)
  refine body (Y := prog_LinkX ⊕ prog_LinkR) hN (L1.getD 0 R_iiii.z) n2 0 (E := some (.inr (.r0 110))) (F := fun b c => some (.inl (.h3m1 [⟨(L1.getD 0 R_iiii.z).a0, b, c, (L1.getD 0 R_iiii.z).a3⟩] 0 v 1))) (fun h => ?_) (fun h => ?_)
  · rw [h]; rfl
  · rw [if_pos h]
    show some (Sum.inl (prog_LinkX.h3m1 [⟨(L1.getD 0 R_iiii.z).a0, (mv 0 (L1.getD 0 R_iiii.z)).a1, (mv 0 (L1.getD 0 R_iiii.z)).a2, (L1.getD 0 R_iiii.z).a3⟩] 0 v 1)) = _
    rw [mv_eta]
theorem prog_Link_h3m0_no (h0 : n2 = 0) (v : Nat) (hv : v < 10) : prog_LinkStep L1 n2 n3 L5 n6 n7 N (.h3m0 v) = some (.inl (.h2m0 (v + 1))) := by
  show prog_Link_h3m0 L1 n2 n3 L5 n6 n7 N v = _
  unfold prog_Link_h3m0
  exact ite_no (by omega) (ite_yes (by omega) rfl)

theorem prog_Link_h3m2_go (hN : 4 ≤ N) (hl : n6 ≤ L5.length) (h0 : 0 < n6) (v : Nat) : prog_LinkStep L1 n2 n3 L5 n6 n7 N (.h3m2 v) = some (if okI (L5.getD 0 R_iiii.z) n6 N = true then .inl (.h3m3 [mv 0 (L5.getD 0 R_iiii.z)] 0 v 1) else .inr (.r0 110)) := by
  show prog_Link_h3m2 L1 n2 n3 L5 n6 n7 N v = _
  unfold prog_Link_h3m2
  refine ite_yes (by omega) (ite_yes (by omega) ?_)
  refine body (Y := prog_LinkX ⊕ prog_LinkR) hN (L5.getD 0 R_iiii.z) n6 0 (E := some (.inr (.r0 110))) (F := fun b c => some (.inl (.h3m3 [⟨(L5.getD 0 R_iiii.z).a0, b, c, (L5.getD 0 R_iiii.z).a3⟩] 0 v 1))) (fun h => ?_) (fun h => ?_)
  · rw [h]; rfl
  · rw [if_pos h]
    show some (Sum.inl (prog_LinkX.h3m3 [⟨(L5.getD 0 R_iiii.z).a0, (mv 0 (L5.getD 0 R_iiii.z)).a1, (mv 0 (L5.getD 0 R_iiii.z)).a2, (L5.getD 0 R_iiii.z).a3⟩] 0 v 1)) = _
    rw [mv_eta]
theorem prog_Link_h3m2_no (h0 : n6 = 0) (v : Nat) (hv : v < 10) : prog_LinkStep L1 n2 n3 L5 n6 n7 N (.h3m2 v) = some (.inl (.h2m0 (v + 1))) := by
  show prog_Link_h3m2 L1 n2 n3 L5 n6 n7 N v = _
  unfold prog_Link_h3m2
  exact ite_no (by omega) (ite_yes (by omega) rfl)

set_option maxRecDepth 20000 in
theorem prog_Link_h3m1_go (hN : 4 ≤ N) (hl : n2 ≤ L1.length) (h5 : n2 ≤ 520) (k w : Nat) (v : List R_iiii) (j : Nat) (hj : j < n2) (hv : v.length ≤ 1200) : prog_LinkStep L1 n2 n3 L5 n6 n7 N (.h3m1 v k w j) = some (if okI (L1.getD j R_iiii.z) n2 N = true then .inl (.h3m1 (v ++ [mv k (L1.getD j R_iiii.z)]) k w (j + 1)) else .inr (.r0 110)) := by
  show prog_Link_h3m1 L1 n2 n3 L5 n6 n7 N v k w j = _
  unfold prog_Link_h3m1
  refine ite_yes (by omega) (ite_yes (by omega) ?_)
  have hc := ck_is (L1.getD j R_iiii.z) hN
  generalize hx : (L1.getD j R_iiii.z) = x at hc ⊢
  have E : okI x n2 N = false → (some (Sum.inr (.r0 110)) : Option (prog_LinkX ⊕ prog_LinkR)) = some (if okI x n2 N = true then .inl (.h3m1 (v ++ [mv k x]) k w (j + 1)) else .inr (.r0 110)) := fun h => by rw [h]; rfl
  have G : ∀ b c, okI x n2 N = true → mv k x = ⟨x.a0, b, c, x.a3⟩ → (if v.length ≤ 100000 then if (((j + 1) : Nat) : Int) ≤ (9223372036854775807 : Int) then some (.inl (.h3m1 (v ++ [⟨x.a0, b, c, x.a3⟩]) k w (j + 1)) : prog_LinkX ⊕ prog_LinkR) else none else none) = some (if okI x n2 N = true then .inl (.h3m1 (v ++ [mv k x]) k w (j + 1)) else .inr (.r0 110)) := fun b c h e => by
    rw [if_pos h, e]
    exact ite_yes (by omega) (ite_yes (by omega) rfl)
  unfold okI at E G
  by_cases h8 : x.a0 = 8
  · refine bind_to (a := .r0 x.a1 true) (by unfold instr_Target; rw [if_pos h8]) ?_
    refine ite_yes rfl (bind_to hc ?_)
    by_cases he : ckV x N = 0
    · refine ite_no (fun h => h he) ?_
      by_cases ht : (n2 : Int) < x.a1
      · exact ite_yes ht (E (decide_eq_false fun h => by have := h.2.1 h8; omega))
      · refine ite_no ht (bind_to (a := .r0 (IntKind.i64.wrap (k + x.a1)) x.a2) (by unfold instr_Aim; rw [if_pos h8]) ?_)
        exact G _ _ (decide_eq_true ⟨he, fun _ => by omega, fun h => by omega⟩) (if_pos h8)
    · exact ite_yes he (E (decide_eq_false fun h => he h.1))
  · by_cases h9 : x.a0 = 9
    · refine bind_to (a := .r0 x.a2 true) (by unfold instr_Target; rw [if_neg h8, if_pos h9]) ?_
      refine ite_yes rfl (bind_to hc ?_)
      by_cases he : ckV x N = 0
      · refine ite_no (fun h => h he) ?_
        by_cases ht : (n2 : Int) < x.a2
        · exact ite_yes ht (E (decide_eq_false fun h => by have := h.2.2 h9; omega))
        · refine ite_no ht (bind_to (a := .r0 x.a1 (IntKind.i64.wrap (k + x.a2))) (by unfold instr_Aim; rw [if_neg h8, if_pos h9]) ?_)
          exact G _ _ (decide_eq_true ⟨he, fun h => by omega, fun h => by omega⟩) ((if_neg h8).trans (if_pos h9))
      · exact ite_yes he (E (decide_eq_false fun h => he h.1))
    · refine bind_to (a := .r0 0 false) (by unfold instr_Target; rw [if_neg h8, if_neg h9]) ?_
      refine ite_no (by decide) (bind_to hc ?_)
      by_cases he : ckV x N = 0
      · refine ite_no (fun h => h he) (bind_to (a := .r0 x.a1 x.a2) (by unfold instr_Aim; rw [if_neg h8, if_neg h9]) ?_)
        exact G _ _ (decide_eq_true ⟨he, fun h => absurd h h8, fun h => absurd h h9⟩) ((if_neg h8).trans (if_neg h9))
      · exact ite_yes he (E (decide_eq_false fun h => he h.1))
theorem prog_Link_h3m1_no (k w : Nat) (hw : w < 10) (v : List R_iiii) : prog_LinkStep L1 n2 n3 L5 n6 n7 N (.h3m1 v k w n2) = some (.inl (.h2m1 v (w + 1))) := by
  show prog_Link_h3m1 L1 n2 n3 L5 n6 n7 N v k w n2 = _
  unfold prog_Link_h3m1
  exact ite_no (by omega) (ite_yes (by omega) rfl)

set_option maxRecDepth 20000 in
theorem prog_Link_h3m3_go (hN : 4 ≤ N) (hl : n6 ≤ L5.length) (h5 : n6 ≤ 520) (k w : Nat) (v : List R_iiii) (j : Nat) (hj : j < n6) (hv : v.length ≤ 1200) : prog_LinkStep L1 n2 n3 L5 n6 n7 N (.h3m3 v k w j) = some (if okI (L5.getD j R_iiii.z) n6 N = true then .inl (.h3m3 (v ++ [mv k (L5.getD j R_iiii.z)]) k w (j + 1)) else .inr (.r0 110)) := by
  show prog_Link_h3m3 L1 n2 n3 L5 n6 n7 N v k w j = _
  unfold prog_Link_h3m3
  refine ite_yes (by omega) (ite_yes (by omega) ?_)
  have hc := ck_is (L5.getD j R_iiii.z) hN
  generalize hx : (L5.getD j R_iiii.z) = x at hc ⊢
  have E : okI x n6 N = false → (some (Sum.inr (.r0 110)) : Option (prog_LinkX ⊕ prog_LinkR)) = some (if okI x n6 N = true then .inl (.h3m3 (v ++ [mv k x]) k w (j + 1)) else .inr (.r0 110)) := fun h => by rw [h]; rfl
  have G : ∀ b c, okI x n6 N = true → mv k x = ⟨x.a0, b, c, x.a3⟩ → (if v.length ≤ 100000 then if (((j + 1) : Nat) : Int) ≤ (9223372036854775807 : Int) then some (.inl (.h3m3 (v ++ [⟨x.a0, b, c, x.a3⟩]) k w (j + 1)) : prog_LinkX ⊕ prog_LinkR) else none else none) = some (if okI x n6 N = true then .inl (.h3m3 (v ++ [mv k x]) k w (j + 1)) else .inr (.r0 110)) := fun b c h e => by
    rw [if_pos h, e]
    exact ite_yes (by omega) (ite_yes (by omega) rfl)
  unfold okI at E G
  by_cases h8 : x.a0 = 8
  · refine bind_to (a := .r0 x.a1 true) (by unfold instr_Target; rw [if_pos h8]) ?_
    refine ite_yes rfl (bind_to hc ?_)
    by_cases he : ckV x N = 0
    · refine ite_no (fun h => h he) ?_
      by_cases ht : (n6 : Int) < x.a1
      · exact ite_yes ht (E (decide_eq_false fun h => by have := h.2.1 h8; omega))
      · refine ite_no ht (bind_to (a := .r0 (IntKind.i64.wrap (k + x.a1)) x.a2) (by unfold instr_Aim; rw [if_pos h8]) ?_)
        exact G _ _ (decide_eq_true ⟨he, fun _ => by omega, fun h => by omega⟩) (if_pos h8)
    · exact ite_yes he (E (decide_eq_false fun h => he h.1))
  · by_cases h9 : x.a0 = 9
    · refine bind_to (a := .r0 x.a2 true) (by unfold instr_Target; rw [if_neg h8, if_pos h9]) ?_
      refine ite_yes rfl (bind_to hc ?_)
      by_cases he : ckV x N = 0
      · refine ite_no (fun h => h he) ?_
        by_cases ht : (n6 : Int) < x.a2
        · exact ite_yes ht (E (decide_eq_false fun h => by have := h.2.2 h9; omega))
        · refine ite_no ht (bind_to (a := .r0 x.a1 (IntKind.i64.wrap (k + x.a2))) (by unfold instr_Aim; rw [if_neg h8, if_pos h9]) ?_)
          exact G _ _ (decide_eq_true ⟨he, fun h => by omega, fun h => by omega⟩) ((if_neg h8).trans (if_pos h9))
      · exact ite_yes he (E (decide_eq_false fun h => he h.1))
    · refine bind_to (a := .r0 0 false) (by unfold instr_Target; rw [if_neg h8, if_neg h9]) ?_
      refine ite_no (by decide) (bind_to hc ?_)
      by_cases he : ckV x N = 0
      · refine ite_no (fun h => h he) (bind_to (a := .r0 x.a1 x.a2) (by unfold instr_Aim; rw [if_neg h8, if_neg h9]) ?_)
        exact G _ _ (decide_eq_true ⟨he, fun h => absurd h h8, fun h => absurd h h9⟩) ((if_neg h8).trans (if_neg h9))
      · exact ite_yes he (E (decide_eq_false fun h => he h.1))
theorem prog_Link_h3m3_no (k w : Nat) (hw : w < 10) (v : List R_iiii) : prog_LinkStep L1 n2 n3 L5 n6 n7 N (.h3m3 v k w n6) = some (.inl (.h2m1 v (w + 1))) := by
  show prog_Link_h3m3 L1 n2 n3 L5 n6 n7 N v k w n6 = _
  unfold prog_Link_h3m3
  exact ite_no (by omega) (ite_yes (by omega) rfl)

theorem prog_Link_a0 (ha : n2 ≤ 520) : prog_LinkStep L1 n2 n3 L5 n6 n7 N (.h1m0 0 0) = some (.inl (.h1m0 (0 + n2) 1)) := by
  show prog_Link_h1m0 L1 n2 n3 L5 n6 n7 N 0 0 = _
  unfold prog_Link_h1m0
  exact ite_yes (by omega) (ite_yes rfl (ite_yes (by omega) rfl))

theorem prog_Link_a1 (m : Nat) (hm : m ≤ 520) (hb : n6 ≤ 520) : prog_LinkStep L1 n2 n3 L5 n6 n7 N (.h1m0 m 1) = some (.inl (.h1m0 (m + n6) 2)) := by
  show prog_Link_h1m0 L1 n2 n3 L5 n6 n7 N m 1 = _
  unfold prog_Link_h1m0
  exact ite_yes (by omega) (ite_no (by decide) (ite_yes (by omega) rfl))

theorem prog_Link_a2 (m : Nat) (hm : 512 < m) : prog_LinkStep L1 n2 n3 L5 n6 n7 N (.h1m0 m 2) = some (.inr (.r0 3)) := by
  show prog_Link_h1m0 L1 n2 n3 L5 n6 n7 N m 2 = _
  unfold prog_Link_h1m0
  exact ite_no (by omega) (ite_yes (by omega) rfl)

theorem prog_Link_a3 (m : Nat) (hm : ¬ 512 < m) : prog_LinkStep L1 n2 n3 L5 n6 n7 N (.h1m0 m 2) = some (.inl (.h2m0 0)) := by
  show prog_Link_h1m0 L1 n2 n3 L5 n6 n7 N m 2 = _
  unfold prog_Link_h1m0
  exact ite_no (by omega) (ite_no (by omega) rfl)

theorem prog_Link_b0 : prog_LinkStep L1 n2 n3 L5 n6 n7 N (.h2m0 0) = some (.inl (.h3m0 0)) := by
  show prog_Link_h2m0 L1 n2 n3 L5 n6 n7 N 0 = _
  unfold prog_Link_h2m0
  exact ite_yes (by omega) (ite_yes rfl rfl)

theorem prog_Link_b1 : prog_LinkStep L1 n2 n3 L5 n6 n7 N (.h2m0 1) = some (.inl (.h3m2 1)) := by
  show prog_Link_h2m0 L1 n2 n3 L5 n6 n7 N 1 = _
  unfold prog_Link_h2m0
  exact ite_yes (by omega) (ite_no (by decide) rfl)

theorem prog_Link_b2 : prog_LinkStep L1 n2 n3 L5 n6 n7 N (.h2m0 2) = some (.inr (.r0 0)) := by
  show prog_Link_h2m0 L1 n2 n3 L5 n6 n7 N 2 = _
  unfold prog_Link_h2m0
  exact ite_no (by omega) rfl

theorem prog_Link_c1 (v : List R_iiii) : prog_LinkStep L1 n2 n3 L5 n6 n7 N (.h2m1 v 1) = some (.inl (.h3m3 v v.length 1 0)) := by
  show prog_Link_h2m1 L1 n2 n3 L5 n6 n7 N v 1 = _
  unfold prog_Link_h2m1
  exact ite_yes (by omega) (ite_no (by decide) rfl)

theorem prog_Link_c2 (v : List R_iiii) : prog_LinkStep L1 n2 n3 L5 n6 n7 N (.h2m1 v 2) = some (.inr (.r1 v)) := by
  show prog_Link_h2m1 L1 n2 n3 L5 n6 n7 N v 2 = _
  unfold prog_Link_h2m1
  exact ite_no (by omega) rfl

def LQ1 (n2 n6 : Nat) (w : List R_iiii) (o : Option prog_LinkR) : Prop := (∃ e, o = some (.r0 e) ∧ (e = 0 → n2 = 0 ∧ n6 = 0)) ∨ o = some (.r1 w)
theorem link1 (h1 : n2 ≤ L1.length) (h5 : n6 ≤ L5.length) (ha : n2 ≤ 520) (hb : n6 ≤ 520) (hN : 2000 ≤ N) : LQ1 n2 n6 (mvs L1 0 n2 0 ++ mvs L5 n2 n6 0) (prog_Link L1 n2 n3 L5 n6 n7 N) := by
  show LQ1 n2 n6 (mvs L1 0 n2 0 ++ mvs L5 n2 n6 0) (iter (prog_LinkStep L1 n2 n3 L5 n6 n7 N) N (.h1m0 0 0))
  have qb : LQ1 n2 n6 (mvs L1 0 n2 0 ++ mvs L5 n2 n6 0) (some (.r0 110)) := .inl ⟨110, rfl, fun h => by cases h⟩
  refine (?_ : Al (prog_LinkStep L1 n2 n3 L5 n6 n7 N) (LQ1 n2 n6 (mvs L1 0 n2 0 ++ mvs L5 n2 n6 0)) 2000 (.h1m0 0 0)) N hN
  refine al_next (prog_Link_a0 ha) (al_next (prog_Link_a1 (0 + n2) (by omega) hb) ?_)
  by_cases hm : 512 < 0 + n2 + n6
  · exact al_done (prog_Link_a2 _ hm) (.inl ⟨3, rfl, fun h => by cases h⟩)
  refine al_next (prog_Link_a3 _ hm) (al_next prog_Link_b0 ?_)
  by_cases h0 : n2 = 0
  · refine al_next (prog_Link_h3m0_no h0 0 (by omega)) (al_next prog_Link_b1 ?_)
    by_cases h6 : n6 = 0
    · exact al_next (prog_Link_h3m2_no h6 1 (by omega)) (al_done prog_Link_b2 (.inl ⟨0, rfl, fun _ => ⟨h0, h6⟩⟩))
    · have hs := prog_Link_h3m2_go (L1 := L1) (n2 := n2) (n3 := n3) (n7 := n7) (N := N) (by omega) h5 (by omega) 1
      by_cases hk : okI (L5.getD 0 R_iiii.z) n6 N = true
      · rw [if_pos hk] at hs
        refine al_next hs ?_
        refine al_loop (fun v j => prog_LinkX.h3m3 v 0 1 j) (fun v => prog_LinkX.h2m1 v 2) (prog_LinkR.r0 110) L5 n6 N 0 (fun v j hj hv => prog_Link_h3m3_go (by omega) h5 hb 0 1 v j hj hv) (fun v => prog_Link_h3m3_no 0 1 (by omega) v) qb (d := n6 - 1) (c := 100) (by omega) (by show 1 + (n6 - 1) ≤ 1200; omega) (by omega) ?_
        refine al_done (prog_Link_c2 _) (.inr ?_)
        obtain ⟨d, rfl⟩ : ∃ d, n6 = d + 1 := ⟨n6 - 1, by omega⟩
        subst h0
        rfl
      · rw [if_neg hk] at hs
        exact al_done hs qb
  · have hs := prog_Link_h3m0_go (L5 := L5) (n3 := n3) (n6 := n6) (n7 := n7) (N := N) (by omega) h1 (by omega) 0
    by_cases hk : okI (L1.getD 0 R_iiii.z) n2 N = true
    · rw [if_pos hk] at hs
      refine al_next hs ?_
      refine al_loop (fun v j => prog_LinkX.h3m1 v 0 0 j) (fun v => prog_LinkX.h2m1 v 1) (prog_LinkR.r0 110) L1 n2 N 0 (fun v j hj hv => prog_Link_h3m1_go (by omega) h1 ha 0 0 v j hj hv) (fun v => prog_Link_h3m1_no 0 0 (by omega) v) qb (d := n2 - 1) (c := 1000) (by omega) (by show 1 + (n2 - 1) ≤ 1200; omega) (by omega) ?_
      have e : [mv 0 (L1.getD 0 R_iiii.z)] ++ mvs L1 0 (n2 - 1) 1 = mvs L1 0 n2 0 := by
        obtain ⟨d, rfl⟩ : ∃ d, n2 = d + 1 := ⟨n2 - 1, by omega⟩
        rfl
      rw [e]
      refine al_next (prog_Link_c1 _) ?_
      rw [mvs_len]
      refine al_loop (fun v j => prog_LinkX.h3m3 v n2 1 j) (fun v => prog_LinkX.h2m1 v 2) (prog_LinkR.r0 110) L5 n6 N n2 (fun v j hj hv => prog_Link_h3m3_go (by omega) h5 hb n2 1 v j hj hv) (fun v => prog_Link_h3m3_no n2 1 (by omega) v) qb (d := n6) (c := 100) (by omega) (by rw [mvs_len]; omega) (by omega) ?_
      exact al_done (prog_Link_c2 _) (.inr rfl)
    · rw [if_neg hk] at hs
      exact al_done hs qb
end

section
variable {L1 : List R_iiii} {n2 n3 N : Nat}

theorem prog_Link_2_h3m0_go (hN : 4 ≤ N) (hl : n2 ≤ L1.length) (h0 : 0 < n2) (v : Nat) : prog_Link_2Step L1 n2 n3 N (.h3m0 v) = some (if okI (L1.getD 0 R_iiii.z) n2 N = true then .inl (.h3m1 [mv 0 (L1.getD 0 R_iiii.z)] 0 v 1) else .inr (.r0 110)) := by
  show prog_Link_2_h3m0 L1 n2 n3 N v = _
  unfold prog_Link_2_h3m0
  refine ite_yes (by omega) (ite_yes (by omega) ?_)
  refine body (Y := prog_Link_2X ⊕ prog_Link_2R) hN (L1.getD 0 R_iiii.z) n2 0 (E := some (.inr (.r0 110))) (F := fun b c => some (.inl (.h3m1 [⟨(L1.getD 0 R_iiii.z).a0, b, c, (L1.getD 0 R_iiii.z).a3⟩] 0 v 1))) (fun h => ?_) (fun h => ?_)
  · rw [h]; rfl
  · rw [if_pos h]
    show some (Sum.inl (prog_Link_2X.h3m1 [⟨(L1.getD 0 R_iiii.z).a0, (mv 0 (L1.getD 0 R_iiii.z)).a1, (mv 0 (L1.getD 0 R_iiii.z)).a2, (L1.getD 0 R_iiii.z).a3⟩] 0 v 1)) = _
    rw [mv_eta]
theorem prog_Link_2_h3m0_no (h0 : n2 = 0) (v : Nat) (hv : v < 10) : prog_Link_2Step L1 n2 n3 N (.h3m0 v) = some (.inl (.h2m0 (v + 1))) := by
  show prog_Link_2_h3m0 L1 n2 n3 N v = _
  unfold prog_Link_2_h3m0
  exact ite_no (by omega) (ite_yes (by omega) rfl)

set_option maxRecDepth 20000 in
theorem prog_Link_2_h3m1_go (hN : 4 ≤ N) (hl : n2 ≤ L1.length) (h5 : n2 ≤ 520) (k w : Nat) (v : List R_iiii) (j : Nat) (hj : j < n2) (hv : v.length ≤ 1200) : prog_Link_2Step L1 n2 n3 N (.h3m1 v k w j) = some (if okI (L1.getD j R_iiii.z) n2 N = true then .inl (.h3m1 (v ++ [mv k (L1.getD j R_iiii.z)]) k w (j + 1)) else .inr (.r0 110)) := by
  show prog_Link_2_h3m1 L1 n2 n3 N v k w j = _
  unfold prog_Link_2_h3m1
  refine ite_yes (by omega) (ite_yes (by omega) ?_)
  have hc := ck_is (L1.getD j R_iiii.z) hN
  generalize hx : (L1.getD j R_iiii.z) = x at hc ⊢
  have E : okI x n2 N = false → (some (Sum.inr (.r0 110)) : Option (prog_Link_2X ⊕ prog_Link_2R)) = some (if okI x n2 N = true then .inl (.h3m1 (v ++ [mv k x]) k w (j + 1)) else .inr (.r0 110)) := fun h => by rw [h]; rfl
  have G : ∀ b c, okI x n2 N = true → mv k x = ⟨x.a0, b, c, x.a3⟩ → (if v.length ≤ 100000 then if (((j + 1) : Nat) : Int) ≤ (9223372036854775807 : Int) then some (.inl (.h3m1 (v ++ [⟨x.a0, b, c, x.a3⟩]) k w (j + 1)) : prog_Link_2X ⊕ prog_Link_2R) else none else none) = some (if okI x n2 N = true then .inl (.h3m1 (v ++ [mv k x]) k w (j + 1)) else .inr (.r0 110)) := fun b c h e => by
    rw [if_pos h, e]
    exact ite_yes (by omega) (ite_yes (by omega) rfl)
  unfold okI at E G
  by_cases h8 : x.a0 = 8
  · refine bind_to (a := .r0 x.a1 true) (by unfold instr_Target; rw [if_pos h8]) ?_
    refine ite_yes rfl (bind_to hc ?_)
    by_cases he : ckV x N = 0
    · refine ite_no (fun h => h he) ?_
      by_cases ht : (n2 : Int) < x.a1
      · exact ite_yes ht (E (decide_eq_false fun h => by have := h.2.1 h8; omega))
      · refine ite_no ht (bind_to (a := .r0 (IntKind.i64.wrap (k + x.a1)) x.a2) (by unfold instr_Aim; rw [if_pos h8]) ?_)
        exact G _ _ (decide_eq_true ⟨he, fun _ => by omega, fun h => by omega⟩) (if_pos h8)
    · exact ite_yes he (E (decide_eq_false fun h => he h.1))
  · by_cases h9 : x.a0 = 9
    · refine bind_to (a := .r0 x.a2 true) (by unfold instr_Target; rw [if_neg h8, if_pos h9]) ?_
      refine ite_yes rfl (bind_to hc ?_)
      by_cases he : ckV x N = 0
      · refine ite_no (fun h => h he) ?_
        by_cases ht : (n2 : Int) < x.a2
        · exact ite_yes ht (E (decide_eq_false fun h => by have := h.2.2 h9; omega))
        · refine ite_no ht (bind_to (a := .r0 x.a1 (IntKind.i64.wrap (k + x.a2))) (by unfold instr_Aim; rw [if_neg h8, if_pos h9]) ?_)
          exact G _ _ (decide_eq_true ⟨he, fun h => by omega, fun h => by omega⟩) ((if_neg h8).trans (if_pos h9))
      · exact ite_yes he (E (decide_eq_false fun h => he h.1))
    · refine bind_to (a := .r0 0 false) (by unfold instr_Target; rw [if_neg h8, if_neg h9]) ?_
      refine ite_no (by decide) (bind_to hc ?_)
      by_cases he : ckV x N = 0
      · refine ite_no (fun h => h he) (bind_to (a := .r0 x.a1 x.a2) (by unfold instr_Aim; rw [if_neg h8, if_neg h9]) ?_)
        exact G _ _ (decide_eq_true ⟨he, fun h => absurd h h8, fun h => absurd h h9⟩) ((if_neg h8).trans (if_neg h9))
      · exact ite_yes he (E (decide_eq_false fun h => he h.1))
theorem prog_Link_2_h3m1_no (k w : Nat) (hw : w < 10) (v : List R_iiii) : prog_Link_2Step L1 n2 n3 N (.h3m1 v k w n2) = some (.inl (.h2m1 v (w + 1))) := by
  show prog_Link_2_h3m1 L1 n2 n3 N v k w n2 = _
  unfold prog_Link_2_h3m1
  exact ite_no (by omega) (ite_yes (by omega) rfl)

theorem prog_Link_2_a0 (ha : n2 ≤ 520) : prog_Link_2Step L1 n2 n3 N (.h1m0 0 0) = some (.inl (.h1m0 (0 + n2) 1)) := by
  show prog_Link_2_h1m0 L1 n2 n3 N 0 0 = _
  unfold prog_Link_2_h1m0
  exact ite_yes (by omega) (ite_yes rfl (ite_yes (by omega) rfl))

theorem prog_Link_2_a1 (m : Nat) (hm : m ≤ 520) : prog_Link_2Step L1 n2 n3 N (.h1m0 m 1) = some (.inl (.h1m0 m 2)) := by
  show prog_Link_2_h1m0 L1 n2 n3 N m 1 = _
  unfold prog_Link_2_h1m0
  exact ite_yes (by omega) (ite_no (by decide) (ite_yes (by omega) rfl))

theorem prog_Link_2_a2 (m : Nat) (hm : 512 < m) : prog_Link_2Step L1 n2 n3 N (.h1m0 m 2) = some (.inr (.r0 3)) := by
  show prog_Link_2_h1m0 L1 n2 n3 N m 2 = _
  unfold prog_Link_2_h1m0
  exact ite_no (by omega) (ite_yes (by omega) rfl)

theorem prog_Link_2_a3 (m : Nat) (hm : ¬ 512 < m) : prog_Link_2Step L1 n2 n3 N (.h1m0 m 2) = some (.inl (.h2m0 0)) := by
  show prog_Link_2_h1m0 L1 n2 n3 N m 2 = _
  unfold prog_Link_2_h1m0
  exact ite_no (by omega) (ite_no (by omega) rfl)

theorem prog_Link_2_b0 : prog_Link_2Step L1 n2 n3 N (.h2m0 0) = some (.inl (.h3m0 0)) := by
  show prog_Link_2_h2m0 L1 n2 n3 N 0 = _
  unfold prog_Link_2_h2m0
  exact ite_yes (by omega) (ite_yes rfl rfl)

theorem prog_Link_2_b1 : prog_Link_2Step L1 n2 n3 N (.h2m0 1) = some (.inl (.h3m2 1)) := by
  show prog_Link_2_h2m0 L1 n2 n3 N 1 = _
  unfold prog_Link_2_h2m0
  exact ite_yes (by omega) (ite_no (by decide) rfl)

theorem prog_Link_2_b2 : prog_Link_2Step L1 n2 n3 N (.h2m0 2) = some (.inr (.r0 0)) := by
  show prog_Link_2_h2m0 L1 n2 n3 N 2 = _
  unfold prog_Link_2_h2m0
  exact ite_no (by omega) rfl

theorem prog_Link_2_b3 : prog_Link_2Step L1 n2 n3 N (.h3m2 1) = some (.inl (.h2m0 2)) := by
  show prog_Link_2_h3m2 L1 n2 n3 N 1 = _
  unfold prog_Link_2_h3m2
  exact ite_yes (by omega) rfl

theorem prog_Link_2_c1 (v : List R_iiii) : prog_Link_2Step L1 n2 n3 N (.h2m1 v 1) = some (.inl (.h3m3 v v.length 1)) := by
  show prog_Link_2_h2m1 L1 n2 n3 N v 1 = _
  unfold prog_Link_2_h2m1
  exact ite_yes (by omega) (ite_no (by decide) rfl)

theorem prog_Link_2_c2 (v : List R_iiii) : prog_Link_2Step L1 n2 n3 N (.h2m1 v 2) = some (.inr (.r1 v)) := by
  show prog_Link_2_h2m1 L1 n2 n3 N v 2 = _
  unfold prog_Link_2_h2m1
  exact ite_no (by omega) rfl

theorem prog_Link_2_c3 (v : List R_iiii) (m : Nat) : prog_Link_2Step L1 n2 n3 N (.h3m3 v m 1) = some (.inl (.h2m1 v 2)) := by
  show prog_Link_2_h3m3 L1 n2 n3 N v m 1 = _
  unfold prog_Link_2_h3m3
  exact ite_yes (by omega) rfl

def LQ2 (n2 : Nat) (w : List R_iiii) (o : Option prog_Link_2R) : Prop := (∃ e, o = some (.r0 e) ∧ (e = 0 → n2 = 0)) ∨ o = some (.r1 w)
theorem link2 (h1 : n2 ≤ L1.length) (ha : n2 ≤ 520) (hN : 2000 ≤ N) : LQ2 n2 (mvs L1 0 n2 0) (prog_Link_2 L1 n2 n3 N) := by
  show LQ2 n2 (mvs L1 0 n2 0) (iter (prog_Link_2Step L1 n2 n3 N) N (.h1m0 0 0))
  have qb : LQ2 n2 (mvs L1 0 n2 0) (some (.r0 110)) := .inl ⟨110, rfl, fun h => by cases h⟩
  refine (?_ : Al (prog_Link_2Step L1 n2 n3 N) (LQ2 n2 (mvs L1 0 n2 0)) 2000 (.h1m0 0 0)) N hN
  refine al_next (prog_Link_2_a0 ha) (al_next (prog_Link_2_a1 (0 + n2) (by omega)) ?_)
  by_cases hm : 512 < 0 + n2
  · exact al_done (prog_Link_2_a2 _ hm) (.inl ⟨3, rfl, fun h => by cases h⟩)
  refine al_next (prog_Link_2_a3 _ hm) (al_next prog_Link_2_b0 ?_)
  by_cases h0 : n2 = 0
  · exact al_next (prog_Link_2_h3m0_no h0 0 (by omega)) (al_next prog_Link_2_b1 (al_next prog_Link_2_b3 (al_done prog_Link_2_b2 (.inl ⟨0, rfl, fun _ => h0⟩))))
  · have hs := prog_Link_2_h3m0_go (n3 := n3) (N := N) (by omega) h1 (by omega) 0
    by_cases hk : okI (L1.getD 0 R_iiii.z) n2 N = true
    · rw [if_pos hk] at hs
      refine al_next hs ?_
      refine al_loop (fun v j => prog_Link_2X.h3m1 v 0 0 j) (fun v => prog_Link_2X.h2m1 v 1) (prog_Link_2R.r0 110) L1 n2 N 0 (fun v j hj hv => prog_Link_2_h3m1_go (by omega) h1 ha 0 0 v j hj hv) (fun v => prog_Link_2_h3m1_no 0 0 (by omega) v) qb (d := n2 - 1) (c := 1000) (by omega) (by show 1 + (n2 - 1) ≤ 1200; omega) (by omega) ?_
      have e : [mv 0 (L1.getD 0 R_iiii.z)] ++ mvs L1 0 (n2 - 1) 1 = mvs L1 0 n2 0 := by
        obtain ⟨d, rfl⟩ : ∃ d, n2 = d + 1 := ⟨n2 - 1, by omega⟩
        rfl
      rw [e]
      exact al_next (prog_Link_2_c1 _) (al_next (prog_Link_2_c3 _ _) (al_done (prog_Link_2_c2 _) (.inr rfl)))
    · rw [if_neg hk] at hs
      exact al_done hs qb
end

section
variable {L1 : List R_iiii} {n2 n3 N : Nat}

theorem prog_Link_3_h3m1_go (hN : 4 ≤ N) (hl : n2 ≤ L1.length) (h0 : 0 < n2) (v : Nat) : prog_Link_3Step L1 n2 n3 N (.h3m1 v) = some (if okI (L1.getD 0 R_iiii.z) n2 N = true then .inl (.h3m2 [mv 0 (L1.getD 0 R_iiii.z)] 0 v 1) else .inr (.r0 110)) := by
  show prog_Link_3_h3m1 L1 n2 n3 N v = _
  unfold prog_Link_3_h3m1
  refine ite_yes (by omega) (ite_yes (by omega) ?_)
  refine body (Y := prog_Link_3X ⊕ prog_Link_3R) hN (L1.getD 0 R_iiii.z) n2 0 (E := some (.inr (.r0 110))) (F := fun b c => some (.inl (.h3m2 [⟨(L1.getD 0 R_iiii.z).a0, b, c, (L1.getD 0 R_iiii.z).a3⟩] 0 v 1))) (fun h => ?_) (fun h => ?_)
  · rw [h]; rfl
  · rw [if_pos h]
    show some (Sum.inl (prog_Link_3X.h3m2 [⟨(L1.getD 0 R_iiii.z).a0, (mv 0 (L1.getD 0 R_iiii.z)).a1, (mv 0 (L1.getD 0 R_iiii.z)).a2, (L1.getD 0 R_iiii.z).a3⟩] 0 v 1)) = _
    rw [mv_eta]
theorem prog_Link_3_h3m1_no (h0 : n2 = 0) (v : Nat) (hv : v < 10) : prog_Link_3Step L1 n2 n3 N (.h3m1 v) = some (.inl (.h2m0 (v + 1))) := by
  show prog_Link_3_h3m1 L1 n2 n3 N v = _
  unfold prog_Link_3_h3m1
  exact ite_no (by omega) (ite_yes (by omega) rfl)

set_option maxRecDepth 20000 in
theorem prog_Link_3_h3m2_go (hN : 4 ≤ N) (hl : n2 ≤ L1.length) (h5 : n2 ≤ 520) (k w : Nat) (v : List R_iiii) (j : Nat) (hj : j < n2) (hv : v.length ≤ 1200) : prog_Link_3Step L1 n2 n3 N (.h3m2 v k w j) = some (if okI (L1.getD j R_iiii.z) n2 N = true then .inl (.h3m2 (v ++ [mv k (L1.getD j R_iiii.z)]) k w (j + 1)) else .inr (.r0 110)) := by
  show prog_Link_3_h3m2 L1 n2 n3 N v k w j = _
  unfold prog_Link_3_h3m2
  refine ite_yes (by omega) (ite_yes (by omega) ?_)
  have hc := ck_is (L1.getD j R_iiii.z) hN
  generalize hx : (L1.getD j R_iiii.z) = x at hc ⊢
  have E : okI x n2 N = false → (some (Sum.inr (.r0 110)) : Option (prog_Link_3X ⊕ prog_Link_3R)) = some (if okI x n2 N = true then .inl (.h3m2 (v ++ [mv k x]) k w (j + 1)) else .inr (.r0 110)) := fun h => by rw [h]; rfl
  have G : ∀ b c, okI x n2 N = true → mv k x = ⟨x.a0, b, c, x.a3⟩ → (if v.length ≤ 100000 then if (((j + 1) : Nat) : Int) ≤ (9223372036854775807 : Int) then some (.inl (.h3m2 (v ++ [⟨x.a0, b, c, x.a3⟩]) k w (j + 1)) : prog_Link_3X ⊕ prog_Link_3R) else none else none) = some (if okI x n2 N = true then .inl (.h3m2 (v ++ [mv k x]) k w (j + 1)) else .inr (.r0 110)) := fun b c h e => by
    rw [if_pos h, e]
    exact ite_yes (by omega) (ite_yes (by omega) rfl)
  unfold okI at E G
  by_cases h8 : x.a0 = 8
  · refine bind_to (a := .r0 x.a1 true) (by unfold instr_Target; rw [if_pos h8]) ?_
    refine ite_yes rfl (bind_to hc ?_)
    by_cases he : ckV x N = 0
    · refine ite_no (fun h => h he) ?_
      by_cases ht : (n2 : Int) < x.a1
      · exact ite_yes ht (E (decide_eq_false fun h => by have := h.2.1 h8; omega))
      · refine ite_no ht (bind_to (a := .r0 (IntKind.i64.wrap (k + x.a1)) x.a2) (by unfold instr_Aim; rw [if_pos h8]) ?_)
        exact G _ _ (decide_eq_true ⟨he, fun _ => by omega, fun h => by omega⟩) (if_pos h8)
    · exact ite_yes he (E (decide_eq_false fun h => he h.1))
  · by_cases h9 : x.a0 = 9
    · refine bind_to (a := .r0 x.a2 true) (by unfold instr_Target; rw [if_neg h8, if_pos h9]) ?_
      refine ite_yes rfl (bind_to hc ?_)
      by_cases he : ckV x N = 0
      · refine ite_no (fun h => h he) ?_
        by_cases ht : (n2 : Int) < x.a2
        · exact ite_yes ht (E (decide_eq_false fun h => by have := h.2.2 h9; omega))
        · refine ite_no ht (bind_to (a := .r0 x.a1 (IntKind.i64.wrap (k + x.a2))) (by unfold instr_Aim; rw [if_neg h8, if_pos h9]) ?_)
          exact G _ _ (decide_eq_true ⟨he, fun h => by omega, fun h => by omega⟩) ((if_neg h8).trans (if_pos h9))
      · exact ite_yes he (E (decide_eq_false fun h => he h.1))
    · refine bind_to (a := .r0 0 false) (by unfold instr_Target; rw [if_neg h8, if_neg h9]) ?_
      refine ite_no (by decide) (bind_to hc ?_)
      by_cases he : ckV x N = 0
      · refine ite_no (fun h => h he) (bind_to (a := .r0 x.a1 x.a2) (by unfold instr_Aim; rw [if_neg h8, if_neg h9]) ?_)
        exact G _ _ (decide_eq_true ⟨he, fun h => absurd h h8, fun h => absurd h h9⟩) ((if_neg h8).trans (if_neg h9))
      · exact ite_yes he (E (decide_eq_false fun h => he h.1))
theorem prog_Link_3_h3m2_no (k w : Nat) (hw : w < 10) (v : List R_iiii) : prog_Link_3Step L1 n2 n3 N (.h3m2 v k w n2) = some (.inl (.h2m1 v (w + 1))) := by
  show prog_Link_3_h3m2 L1 n2 n3 N v k w n2 = _
  unfold prog_Link_3_h3m2
  exact ite_no (by omega) (ite_yes (by omega) rfl)

theorem prog_Link_3_a0 : prog_Link_3Step L1 n2 n3 N (.h1m0 0 0) = some (.inl (.h1m0 0 1)) := by
  show prog_Link_3_h1m0 L1 n2 n3 N 0 0 = _
  unfold prog_Link_3_h1m0
  exact ite_yes (by omega) (ite_yes rfl (ite_yes (by omega) rfl))

theorem prog_Link_3_a1 (ha : n2 ≤ 520) : prog_Link_3Step L1 n2 n3 N (.h1m0 0 1) = some (.inl (.h1m0 (0 + n2) 2)) := by
  show prog_Link_3_h1m0 L1 n2 n3 N 0 1 = _
  unfold prog_Link_3_h1m0
  exact ite_yes (by omega) (ite_no (by decide) (ite_yes (by omega) rfl))

theorem prog_Link_3_a2 (m : Nat) (hm : 512 < m) : prog_Link_3Step L1 n2 n3 N (.h1m0 m 2) = some (.inr (.r0 3)) := by
  show prog_Link_3_h1m0 L1 n2 n3 N m 2 = _
  unfold prog_Link_3_h1m0
  exact ite_no (by omega) (ite_yes (by omega) rfl)

theorem prog_Link_3_a3 (m : Nat) (hm : ¬ 512 < m) : prog_Link_3Step L1 n2 n3 N (.h1m0 m 2) = some (.inl (.h2m0 0)) := by
  show prog_Link_3_h1m0 L1 n2 n3 N m 2 = _
  unfold prog_Link_3_h1m0
  exact ite_no (by omega) (ite_no (by omega) rfl)

theorem prog_Link_3_b0 : prog_Link_3Step L1 n2 n3 N (.h2m0 0) = some (.inl (.h3m0 0)) := by
  show prog_Link_3_h2m0 L1 n2 n3 N 0 = _
  unfold prog_Link_3_h2m0
  exact ite_yes (by omega) (ite_yes rfl rfl)

theorem prog_Link_3_b1 : prog_Link_3Step L1 n2 n3 N (.h2m0 1) = some (.inl (.h3m1 1)) := by
  show prog_Link_3_h2m0 L1 n2 n3 N 1 = _
  unfold prog_Link_3_h2m0
  exact ite_yes (by omega) (ite_no (by decide) rfl)

theorem prog_Link_3_b2 : prog_Link_3Step L1 n2 n3 N (.h2m0 2) = some (.inr (.r0 0)) := by
  show prog_Link_3_h2m0 L1 n2 n3 N 2 = _
  unfold prog_Link_3_h2m0
  exact ite_no (by omega) rfl

theorem prog_Link_3_b3 : prog_Link_3Step L1 n2 n3 N (.h3m0 0) = some (.inl (.h2m0 1)) := by
  show prog_Link_3_h3m0 L1 n2 n3 N 0 = _
  unfold prog_Link_3_h3m0
  exact ite_yes (by omega) rfl

theorem prog_Link_3_c2 (v : List R_iiii) : prog_Link_3Step L1 n2 n3 N (.h2m1 v 2) = some (.inr (.r1 v)) := by
  show prog_Link_3_h2m1 L1 n2 n3 N v 2 = _
  unfold prog_Link_3_h2m1
  exact ite_no (by omega) rfl

def LQ3 (n2 : Nat) (w : List R_iiii) (o : Option prog_Link_3R) : Prop := (∃ e, o = some (.r0 e) ∧ (e = 0 → n2 = 0)) ∨ o = some (.r1 w)
theorem link3 (h1 : n2 ≤ L1.length) (ha : n2 ≤ 520) (hN : 2000 ≤ N) : LQ3 n2 (mvs L1 0 n2 0) (prog_Link_3 L1 n2 n3 N) := by
  show LQ3 n2 (mvs L1 0 n2 0) (iter (prog_Link_3Step L1 n2 n3 N) N (.h1m0 0 0))
  have qb : LQ3 n2 (mvs L1 0 n2 0) (some (.r0 110)) := .inl ⟨110, rfl, fun h => by cases h⟩
  refine (?_ : Al (prog_Link_3Step L1 n2 n3 N) (LQ3 n2 (mvs L1 0 n2 0)) 2000 (.h1m0 0 0)) N hN
  refine al_next prog_Link_3_a0 (al_next (prog_Link_3_a1 ha) ?_)
  by_cases hm : 512 < 0 + n2
  · exact al_done (prog_Link_3_a2 _ hm) (.inl ⟨3, rfl, fun h => by cases h⟩)
  refine al_next (prog_Link_3_a3 _ hm) (al_next prog_Link_3_b0 (al_next prog_Link_3_b3 (al_next prog_Link_3_b1 ?_)))
  by_cases h0 : n2 = 0
  · exact al_next (prog_Link_3_h3m1_no h0 1 (by omega)) (al_done prog_Link_3_b2 (.inl ⟨0, rfl, fun _ => h0⟩))
  · have hs := prog_Link_3_h3m1_go (n3 := n3) (N := N) (by omega) h1 (by omega) 1
    by_cases hk : okI (L1.getD 0 R_iiii.z) n2 N = true
    · rw [if_pos hk] at hs
      refine al_next hs ?_
      refine al_loop (fun v j => prog_Link_3X.h3m2 v 0 1 j) (fun v => prog_Link_3X.h2m1 v 2) (prog_Link_3R.r0 110) L1 n2 N 0 (fun v j hj hv => prog_Link_3_h3m2_go (by omega) h1 ha 0 1 v j hj hv) (fun v => prog_Link_3_h3m2_no 0 1 (by omega) v) qb (d := n2 - 1) (c := 1000) (by omega) (by show 1 + (n2 - 1) ≤ 1200; omega) (by omega) ?_
      have e : [mv 0 (L1.getD 0 R_iiii.z)] ++ mvs L1 0 (n2 - 1) 1 = mvs L1 0 n2 0 := by
        obtain ⟨d, rfl⟩ : ∃ d, n2 = d + 1 := ⟨n2 - 1, by omega⟩
        rfl
      rw [e]
      exact al_done (prog_Link_3_c2 _) (.inr rfl)
    · rw [if_neg hk] at hs
      exact al_done hs qb
end

theorem few_is (n : Nat) : ∃ m : Nat, (if (520 : Int) < ((n : Nat) : Int) then (520 : Int) else ((n : Nat) : Int)) = (m : Int) ∧ m ≤ n ∧ m ≤ 520 := by
  by_cases h : (520 : Int) < (n : Int)
  · exact ⟨520, if_pos h, by omega, by omega⟩
  · exact ⟨n, if_neg h, by omega, by omega⟩
theorem getD_app_right {α : Type} {A B : List α} {n j : Nat} {d : α} (h : A.length = n) : (A ++ B).getD (n + j) d = B.getD j d := by
  rw [List.getD_eq_getElem?_getD, List.getD_eq_getElem?_getD, List.getElem?_append_right (by omega), show n + j - A.length = j by omega]
def Rg (x : R_iiii) : Prop := ((-9223372036854775808 : Int) ≤ x.a1 ∧ x.a1 ≤ 9223372036854775807) ∧ ((-9223372036854775808 : Int) ≤ x.a2 ∧ x.a2 ≤ 9223372036854775807)
theorem mv_zero {x : R_iiii} (h : Rg x) : mv 0 x = x := by
  unfold mv
  rw [Int.zero_add, Int.zero_add, w64 h.1.1 h.1.2, w64 h.2.1 h.2.2]
  by_cases h8 : x.a0 = 8
  · rw [if_pos h8]
  · rw [if_neg h8]
    by_cases h9 : x.a0 = 9
    · rw [if_pos h9]
    · rw [if_neg h9]
namespace Pp
theorem same2 {w L : List R_iiii} {m a b N : Nat} (h1 : m ≤ w.length) (h2 : m ≤ L.length) (h5 : m ≤ 520) (hN : 2000 ≤ N) (he : ∀ j, j < m → w.getD j R_iiii.z = L.getD j R_iiii.z) : ref11_Same_2 w m a L m b N = some (.r0 true) := by
  unfold ref11_Same_2
  have hin : ref11_Same_2In w m a L m b N = some (.inl (.h1m0 0)) := by
    unfold ref11_Same_2In
    exact ite_no (fun h => h rfl) rfl
  rw [goM_in hin]
  have loop : ∀ d j f, j + d = m → d < f → iter (ref11_Same_2Step w m a L m b N) f (.h1m0 j) = some (.r0 true) := by
    intro d
    induction d with
    | zero =>
      intro j f hj hf
      obtain ⟨f, rfl⟩ : ∃ g, f = g + 1 := ⟨f - 1, by omega⟩
      refine iter_done ?_
      show ref11_Same_2_h1m0 w m a L m b N j = _
      unfold ref11_Same_2_h1m0
      exact ite_no (by omega) rfl
    | succ d ih =>
      intro j f hj hf
      obtain ⟨f, rfl⟩ : ∃ g, f = g + 1 := ⟨f - 1, by omega⟩
      refine (iter_next (y := .h1m0 (j + 1)) ?_).trans (ih (j + 1) f (by omega) (by omega))
      show ref11_Same_2_h1m0 w m a L m b N j = _
      unfold ref11_Same_2_h1m0
      rw [he j (by omega)]
      exact ite_yes (by omega) (ite_yes (by omega) (ite_yes (by omega) (ite_yes (by omega) (ite_no (fun h => h ⟨rfl, rfl, rfl, rfl⟩) (ite_yes (by omega) rfl)))))
  exact loop m 0 N (by omega) (by omega)
theorem same3 {w L : List R_iiii} {m b N : Nat} (h1 : w.length = m) (h2 : m ≤ L.length) (h5 : m ≤ 520) (hN : 2000 ≤ N) (he : ∀ j, j < m → w.getD j R_iiii.z = L.getD j R_iiii.z) : ref11_Same_3 w L m b N = some (.r0 true) := by
  unfold ref11_Same_3
  have hin : ref11_Same_3In w L m b N = some (.inl (.h1m0 0)) := by
    unfold ref11_Same_3In
    exact ite_no (fun h => h (by rw [h1])) rfl
  rw [goM_in hin]
  have loop : ∀ d j f, j + d = m → d < f → iter (ref11_Same_3Step w L m b N) f (.h1m0 j) = some (.r0 true) := by
    intro d
    induction d with
    | zero =>
      intro j f hj hf
      obtain ⟨f, rfl⟩ : ∃ g, f = g + 1 := ⟨f - 1, by omega⟩
      refine iter_done ?_
      show ref11_Same_3_h1m0 w L m b N j = _
      unfold ref11_Same_3_h1m0
      exact ite_no (by omega) rfl
    | succ d ih =>
      intro j f hj hf
      obtain ⟨f, rfl⟩ : ∃ g, f = g + 1 := ⟨f - 1, by omega⟩
      refine (iter_next (y := .h1m0 (j + 1)) ?_).trans (ih (j + 1) f (by omega) (by omega))
      show ref11_Same_3_h1m0 w L m b N j = _
      unfold ref11_Same_3_h1m0
      rw [he j (by omega)]
      exact ite_yes (by omega) (ite_yes (by omega) (ite_yes (by omega) (ite_no (fun h => h ⟨rfl, rfl, rfl, rfl⟩) (ite_yes (by omega) rfl))))
  exact loop m 0 N (by omega) (by omega)
section
variable {L1 L5 w : List R_iiii} {n2 n3 n6 n7 N m2 m6 j : Nat}
theorem law_go (e2 : (if (520 : Int) < ((n2 : Nat) : Int) then (520 : Int) else ((n2 : Nat) : Int)) = (m2 : Int)) (e6 : (if (520 : Int) < ((n6 : Nat) : Int) then (520 : Int) else ((n6 : Nat) : Int)) = (m6 : Int)) (hj : j < m6) (hw : w.length = m2 + m6) (hL : m6 ≤ L5.length) (hx : w.getD (m2 + j) R_iiii.z = mv m2 (L5.getD j R_iiii.z)) :
    law11_ProgParts_h1m1 L1 n2 n3 L5 n6 n7 N w j = some (.inl (.h1m1 w (j + 1))) := by
  unfold law11_ProgParts_h1m1
  simp only [e2, e6, Int.toNat_natCast, Nat.sub_zero]
  rw [hx]
  generalize L5.getD j R_iiii.z = y
  refine ite_yes (by omega) (ite_yes (by omega) (ite_yes (by omega) ?_))
  by_cases h8 : y.a0 = 8
  · have e : mv m2 y = ⟨y.a0, IntKind.i64.wrap (m2 + y.a1), y.a2, y.a3⟩ := if_pos h8
    rw [e]
    refine bind_to (a := .r0 y.a1 true) (by unfold ref10_Target; exact if_pos h8) (ite_yes rfl ?_)
    exact bind_to (a := .r0 (IntKind.i64.wrap (m2 + y.a1)) true) (by unfold ref10_Target; exact if_pos h8) (ite_yes rfl (ite_no (fun h => h (by rw [Int.add_comm])) (bind_to (a := .r0 y.a1 y.a2) (by unfold ref10_Aim; exact if_pos h8) (ite_no (fun h => h ⟨rfl, rfl, rfl, rfl⟩) rfl))))
  · by_cases h9 : y.a0 = 9
    · have e : mv m2 y = ⟨y.a0, y.a1, IntKind.i64.wrap (m2 + y.a2), y.a3⟩ := (if_neg h8).trans (if_pos h9)
      rw [e]
      refine bind_to (a := .r0 y.a2 true) (by unfold ref10_Target; exact (if_neg h8).trans (if_pos h9)) (ite_yes rfl ?_)
      exact bind_to (a := .r0 (IntKind.i64.wrap (m2 + y.a2)) true) (by unfold ref10_Target; exact (if_neg h8).trans (if_pos h9)) (ite_yes rfl (ite_no (fun h => h (by rw [Int.add_comm])) (bind_to (a := .r0 y.a1 y.a2) (by unfold ref10_Aim; exact (if_neg h8).trans (if_pos h9)) (ite_no (fun h => h ⟨rfl, rfl, rfl, rfl⟩) rfl))))
    · have e : mv m2 y = ⟨y.a0, y.a1, y.a2, y.a3⟩ := (if_neg h8).trans (if_neg h9)
      rw [e]
      refine bind_to (a := .r0 0 false) (by unfold ref10_Target; exact (if_neg h8).trans (if_neg h9)) (ite_no (by decide) ?_)
      exact ite_no (fun h => h ⟨rfl, rfl, rfl, rfl⟩) rfl
theorem law3_go (e2 : (if (520 : Int) < ((n2 : Nat) : Int) then (520 : Int) else ((n2 : Nat) : Int)) = (m2 : Int)) (hj : j < m2) (hw : w.length = m2) (hL : m2 ≤ L1.length) (hx : w.getD j R_iiii.z = mv 0 (L1.getD j R_iiii.z)) :
    law11_ProgParts_3_h1m1 L1 n2 n3 N w j = some (.inl (.h1m1 w (j + 1))) := by
  unfold law11_ProgParts_3_h1m1
  simp only [e2, Int.toNat_natCast, Nat.sub_zero]
  rw [hx]
  generalize L1.getD j R_iiii.z = y
  refine ite_yes (by omega) (ite_yes (by omega) (ite_yes (by omega) ?_))
  by_cases h8 : y.a0 = 8
  · have e : mv 0 y = ⟨y.a0, IntKind.i64.wrap (0 + y.a1), y.a2, y.a3⟩ := if_pos h8
    rw [e]
    refine bind_to (a := .r0 y.a1 true) (by unfold ref10_Target; exact if_pos h8) (ite_yes rfl ?_)
    exact bind_to (a := .r0 (IntKind.i64.wrap (0 + y.a1)) true) (by unfold ref10_Target; exact if_pos h8) (ite_yes rfl (ite_no (fun h => h (by rw [Int.add_comm])) (bind_to (a := .r0 y.a1 y.a2) (by unfold ref10_Aim; exact if_pos h8) (ite_no (fun h => h ⟨rfl, rfl, rfl, rfl⟩) rfl))))
  · by_cases h9 : y.a0 = 9
    · have e : mv 0 y = ⟨y.a0, y.a1, IntKind.i64.wrap (0 + y.a2), y.a3⟩ := (if_neg h8).trans (if_pos h9)
      rw [e]
      refine bind_to (a := .r0 y.a2 true) (by unfold ref10_Target; exact (if_neg h8).trans (if_pos h9)) (ite_yes rfl ?_)
      exact bind_to (a := .r0 (IntKind.i64.wrap (0 + y.a2)) true) (by unfold ref10_Target; exact (if_neg h8).trans (if_pos h9)) (ite_yes rfl (ite_no (fun h => h (by rw [Int.add_comm])) (bind_to (a := .r0 y.a1 y.a2) (by unfold ref10_Aim; exact (if_neg h8).trans (if_pos h9)) (ite_no (fun h => h ⟨rfl, rfl, rfl, rfl⟩) rfl))))
    · have e : mv 0 y = ⟨y.a0, y.a1, y.a2, y.a3⟩ := (if_neg h8).trans (if_neg h9)
      rw [e]
      refine bind_to (a := .r0 0 false) (by unfold ref10_Target; exact (if_neg h8).trans (if_neg h9)) (ite_no (by decide) ?_)
      exact ite_no (fun h => h ⟨rfl, rfl, rfl, rfl⟩) rfl
end
section
variable {L1 L5 : List R_iiii} {c1 c5 : Nat}
theorem runs (h1 : L1.length ≤ c1) (h5 : L5.length ≤ c5) (R : ∀ i, i < L1.length → Rg (L1.getD i R_iiii.z)) : law11_ProgParts L1 L1.length c1 L5 L5.length c5 100000 = some (.r0 true) := by
  obtain ⟨m2, e2, p2, q2⟩ := few_is L1.length
  obtain ⟨m6, e6, p6, q6⟩ := few_is L5.length
  unfold law11_ProgParts
  have hl := link1 (L1 := L1) (L5 := L5) (n2 := m2) (n6 := m6) (n3 := c1) (n7 := c5) (N := 100000) p2 p6 q2 q6 (by omega)
  rcases hl with ⟨e, he, hz⟩ | hw
  · by_cases h0 : e = 0
    · obtain ⟨z2, z6⟩ := hz h0
      have hin : law11_ProgPartsIn L1 L1.length c1 L5 L5.length c5 100000 = some (.inl .h1m0) := by
        unfold law11_ProgPartsIn
        simp only [e2, e6, Int.toNat_natCast, Nat.sub_zero]
        have hs : ref11_Same L1 m2 c1 100000 = some (.r0 true) := by
          unfold ref11_Same
          have : ref11_SameIn L1 m2 c1 100000 = some (.inl .h1m0) := by
            unfold ref11_SameIn
            exact ite_no (by omega) rfl
          rw [goM_in this]
          exact iter_done (n := 99999) rfl
        exact ite_yes (by omega) (ite_yes (by omega) (bind_to he (ite_no (fun h => h h0) (ite_no (by omega) (bind_to hs (ite_no (fun h => h rfl) rfl))))))
      rw [goM_in hin]
      refine iter_done (n := 99999) ?_
      show law11_ProgParts_h1m0 L1 L1.length c1 L5 L5.length c5 100000 = _
      unfold law11_ProgParts_h1m0
      simp only [e2, e6, Int.toNat_natCast, Nat.sub_zero]
      exact ite_no (by omega) rfl
    · refine goM_out ?_
      unfold law11_ProgPartsIn
      simp only [e2, e6, Int.toNat_natCast, Nat.sub_zero]
      exact ite_yes (by omega) (ite_yes (by omega) (bind_to he (ite_yes h0 rfl)))
  · have hlen : (mvs L1 0 m2 0 ++ mvs L5 m2 m6 0).length = m2 + m6 := by rw [List.length_append, mvs_len, mvs_len]
    have g1 : ∀ j, j < m2 → (mvs L1 0 m2 0 ++ mvs L5 m2 m6 0).getD j R_iiii.z = L1.getD j R_iiii.z := fun j hj => by
      rw [getD_app_left (by rw [mvs_len]; exact hj), mvs_get _ _ _ hj, Nat.zero_add, mv_zero (R j (by omega))]
    have g2 : ∀ j, j < m6 → (mvs L1 0 m2 0 ++ mvs L5 m2 m6 0).getD (m2 + j) R_iiii.z = mv m2 (L5.getD j R_iiii.z) := fun j hj => by
      rw [getD_app_right (mvs_len _ _), mvs_get _ _ _ hj, Nat.zero_add]
    generalize mvs L1 0 m2 0 ++ mvs L5 m2 m6 0 = w at hw hlen g1 g2
    have hin : law11_ProgPartsIn L1 L1.length c1 L5 L5.length c5 100000 = some (.inl (.h1m1 w 0)) := by
      unfold law11_ProgPartsIn
      simp only [e2, e6, Int.toNat_natCast, Nat.sub_zero]
      exact ite_yes (by omega) (ite_yes (by omega) (bind_to hw (ite_no (by omega) (bind_to (same2 (by omega) p2 q2 (by omega) g1) (ite_no (fun h => h rfl) rfl)))))
    rw [goM_in hin]
    have loop : ∀ d j f, j + d = m6 → d < f → iter (law11_ProgPartsStep L1 L1.length c1 L5 L5.length c5 100000) f (.h1m1 w j) = some (.r0 true) := by
      intro d
      induction d with
      | zero =>
        intro j f hj hf
        obtain ⟨f, rfl⟩ : ∃ g, f = g + 1 := ⟨f - 1, by omega⟩
        refine iter_done ?_
        show law11_ProgParts_h1m1 L1 L1.length c1 L5 L5.length c5 100000 w j = _
        unfold law11_ProgParts_h1m1
        simp only [e2, e6, Int.toNat_natCast, Nat.sub_zero]
        exact ite_no (by omega) rfl
      | succ d ih =>
        intro j f hj hf
        obtain ⟨f, rfl⟩ : ∃ g, f = g + 1 := ⟨f - 1, by omega⟩
        refine (iter_next (y := .h1m1 w (j + 1)) ?_).trans (ih (j + 1) f (by omega) (by omega))
        show law11_ProgParts_h1m1 L1 L1.length c1 L5 L5.length c5 100000 w j = _
        exact law_go e2 e6 (by omega) hlen p6 (g2 j (by omega))
    exact loop m6 0 100000 (by omega) (by omega)
theorem runs2 (h1 : L1.length ≤ c1) (R : ∀ i, i < L1.length → Rg (L1.getD i R_iiii.z)) : law11_ProgParts_2 L1 L1.length c1 100000 = some (.r0 true) := by
  obtain ⟨m2, e2, p2, q2⟩ := few_is L1.length
  unfold law11_ProgParts_2
  have hl := link2 (L1 := L1) (n2 := m2) (n3 := c1) (N := 100000) p2 q2 (by omega)
  rcases hl with ⟨e, he, hz⟩ | hw
  · by_cases h0 : e = 0
    · have z2 := hz h0
      have hin : law11_ProgParts_2In L1 L1.length c1 100000 = some (.inl .h1m0) := by
        unfold law11_ProgParts_2In
        simp only [e2, Int.toNat_natCast, Nat.sub_zero]
        have hs : ref11_Same L1 m2 c1 100000 = some (.r0 true) := by
          unfold ref11_Same
          have : ref11_SameIn L1 m2 c1 100000 = some (.inl .h1m0) := by
            unfold ref11_SameIn
            exact ite_no (by omega) rfl
          rw [goM_in this]
          exact iter_done (n := 99999) rfl
        exact ite_yes (by omega) (bind_to he (ite_no (fun h => h h0) (ite_no (by omega) (bind_to hs (ite_no (fun h => h rfl) rfl)))))
      rw [goM_in hin]
      exact iter_done (n := 99999) rfl
    · refine goM_out ?_
      unfold law11_ProgParts_2In
      simp only [e2, Int.toNat_natCast, Nat.sub_zero]
      exact ite_yes (by omega) (bind_to he (ite_yes h0 rfl))
  · have hlen : (mvs L1 0 m2 0).length = m2 := mvs_len _ _
    have g1 : ∀ j, j < m2 → (mvs L1 0 m2 0).getD j R_iiii.z = L1.getD j R_iiii.z := fun j hj => by
      rw [mvs_get _ _ _ hj, Nat.zero_add, mv_zero (R j (by omega))]
    generalize mvs L1 0 m2 0 = w at hw hlen g1
    have hin : law11_ProgParts_2In L1 L1.length c1 100000 = some (.inl (.h1m1 w)) := by
      unfold law11_ProgParts_2In
      simp only [e2, Int.toNat_natCast, Nat.sub_zero]
      exact ite_yes (by omega) (bind_to hw (ite_no (by omega) (bind_to (same3 hlen p2 q2 (by omega) g1) (ite_no (fun h => h rfl) rfl))))
    rw [goM_in hin]
    exact iter_done (n := 99999) rfl
theorem runs3 (h1 : L1.length ≤ c1) : law11_ProgParts_3 L1 L1.length c1 100000 = some (.r0 true) := by
  obtain ⟨m2, e2, p2, q2⟩ := few_is L1.length
  unfold law11_ProgParts_3
  have hl := link3 (L1 := L1) (n2 := m2) (n3 := c1) (N := 100000) p2 q2 (by omega)
  rcases hl with ⟨e, he, hz⟩ | hw
  · by_cases h0 : e = 0
    · have z2 := hz h0
      have hin : law11_ProgParts_3In L1 L1.length c1 100000 = some (.inl .h1m0) := by
        unfold law11_ProgParts_3In
        simp only [e2, Int.toNat_natCast, Nat.sub_zero]
        have hs : ref11_Same_4 100000 = some .r0 := (goM_in (x := ref11_Same_4X.h1m0) rfl).trans (iter_done (n := 99999) rfl)
        exact ite_yes (by omega) (bind_to he (ite_no (fun h => h h0) (ite_no (by omega) (bind_to hs rfl))))
      rw [goM_in hin]
      refine iter_done (n := 99999) ?_
      show law11_ProgParts_3_h1m0 L1 L1.length c1 100000 = _
      unfold law11_ProgParts_3_h1m0
      simp only [e2, Int.toNat_natCast, Nat.sub_zero]
      exact ite_no (by omega) rfl
    · refine goM_out ?_
      unfold law11_ProgParts_3In
      simp only [e2, Int.toNat_natCast, Nat.sub_zero]
      exact ite_yes (by omega) (bind_to he (ite_yes h0 rfl))
  · have hlen : (mvs L1 0 m2 0).length = m2 := mvs_len _ _
    have g2 : ∀ j, j < m2 → (mvs L1 0 m2 0).getD j R_iiii.z = mv 0 (L1.getD j R_iiii.z) := fun j hj => by
      rw [mvs_get _ _ _ hj, Nat.zero_add]
    generalize mvs L1 0 m2 0 = w at hw hlen g2
    have hin : law11_ProgParts_3In L1 L1.length c1 100000 = some (.inl (.h1m1 w 0)) := by
      unfold law11_ProgParts_3In
      simp only [e2, Int.toNat_natCast, Nat.sub_zero]
      have hs : ref11_Same_5 w 0 w.length 100000 = some (.r0 true) := by
        unfold ref11_Same_5
        refine (goM_in (x := ref11_Same_5X.h1m0) ?_).trans (iter_done (n := 99999) ?_)
        · unfold ref11_Same_5In
          exact ite_no (by decide) rfl
        · show ref11_Same_5_h1m0 w 0 w.length 100000 = _
          unfold ref11_Same_5_h1m0
          exact ite_no (by decide) rfl
      exact ite_yes (by omega) (bind_to hw (ite_no (by omega) (bind_to hs (ite_no (fun h => h rfl) rfl))))
    rw [goM_in hin]
    have loop : ∀ d j f, j + d = m2 → d < f → iter (law11_ProgParts_3Step L1 L1.length c1 100000) f (.h1m1 w j) = some (.r0 true) := by
      intro d
      induction d with
      | zero =>
        intro j f hj hf
        obtain ⟨f, rfl⟩ : ∃ g, f = g + 1 := ⟨f - 1, by omega⟩
        refine iter_done ?_
        show law11_ProgParts_3_h1m1 L1 L1.length c1 100000 w j = _
        unfold law11_ProgParts_3_h1m1
        simp only [e2, Int.toNat_natCast, Nat.sub_zero]
        exact ite_no (by omega) rfl
      | succ d ih =>
        intro j f hj hf
        obtain ⟨f, rfl⟩ : ∃ g, f = g + 1 := ⟨f - 1, by omega⟩
        refine (iter_next (y := .h1m1 w (j + 1)) ?_).trans (ih (j + 1) f (by omega) (by omega))
        show law11_ProgParts_3_h1m1 L1 L1.length c1 100000 w j = _
        exact law3_go e2 (by omega) hlen p2 (g2 j (by omega))
    exact loop m2 0 100000 (by omega) (by omega)
end
theorem runs4 : law11_ProgParts_4 100000 = some .r0 := by
  have e1 : prog_Link_4 100000 = some .r0 := by kernel_rfl
  have e2 : ref11_Same_4 100000 = some .r0 := (goM_in (x := ref11_Same_4X.h1m0) rfl).trans (iter_done (n := 99999) rfl)
  unfold law11_ProgParts_4
  have hin : law11_ProgParts_4In 100000 = some (.inl .h1m0) := by
    unfold law11_ProgParts_4In
    exact bind_to e1 (bind_to e2 rfl)
  rw [goM_in hin]
  exact iter_done (n := 99999) rfl
end Pp

end Ev
end Go.Proofs.Ytahjcmhiifkniaa
