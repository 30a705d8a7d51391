/- One step of Link. -/
import Derived.Test.YtahjcmhiifkniaaPlv
namespace Go.Proofs.Ytahjcmhiifkniaa
open Go.RowKit
namespace Ev
set_option linter.unusedVariables false
set_option linter.unusedSimpArgs false

/-- May it be? -/
def fb (x : R_iiii) (N : Nat) : Bool := match ref10_Is x.a0 x.a1 x.a2 x.a3 N with | some (.r0 b) => b | none => false
theorem fb_is (x : R_iiii) {N : Nat} (hN : 4 ≤ N) : instr_Check x.a0 x.a1 x.a2 x.a3 N = some (.r0 (if fb x N = true then 0 else 100)) ∧ ref10_Is x.a0 x.a1 x.a2 x.a3 N = some (.r0 (fb x N)) := by
  obtain ⟨b, h1, h2, -⟩ := check_is x.a0 x.a1 x.a2 x.a3 N hN
  unfold fb
  rw [h2]
  exact ⟨h1, rfl⟩
/-- An instruction, its place k further. -/
def mv (k : Int) (x : R_iiii) : R_iiii := if x.a0 = 8 then ⟨x.a0, IntKind.i64.wrap (k + x.a1), x.a2, x.a3⟩ else if x.a0 = 9 then ⟨x.a0, x.a1, IntKind.i64.wrap (k + x.a2), x.a3⟩ else ⟨x.a0, x.a1, x.a2, x.a3⟩
def okI (x : R_iiii) (n N : Nat) : Bool := decide (fb x N = true ∧ (x.a0 = 8 → x.a1 ≤ n) ∧ (x.a0 = 9 → x.a2 ≤ n))
/-- A part, moved. -/
def mvs (L : List R_iiii) (k : Int) : Nat → Nat → List R_iiii
  | 0, _ => []
  | d + 1, i => mv k (L.getD i R_iiii.z) :: mvs L k d (i + 1)
theorem mvs_len {L : List R_iiii} {k : Int} : ∀ d i, (mvs L k d i).length = d
  | 0, _ => rfl
  | d + 1, i => by unfold mvs; rw [List.length_cons, mvs_len d (i + 1)]
def Al {X R : Type} (step : X → Option (X ⊕ R)) (Q : Option R → Prop) (c : Nat) (x : X) : Prop := ∀ f, c ≤ f → Q (iter step f x)
def ok1 (L : List R_iiii) (n N : Nat) : Prop := ∀ j, j < n → okI (L.getD j R_iiii.z) n N = true
section
variable {X R : Type} {step : X → Option (X ⊕ R)} {Q : Option R → Prop} {c c' : Nat} {x y : X} {r : R}
theorem al_next (h : step x = some (.inl y)) (q : Al step Q c y) : Al step Q (c + 1) x := fun f hf => by
  obtain ⟨g, rfl⟩ : ∃ g, f = g + 1 := ⟨f - 1, by omega⟩
  rw [iter_next h]
  exact q g (by omega)
theorem al_done (h : step x = some (.inr r)) (q : Q (some r)) : Al step Q (c + 1) x := fun f hf => by
  obtain ⟨g, rfl⟩ : ∃ g, f = g + 1 := ⟨f - 1, by omega⟩
  rw [iter_done h]
  exact q
theorem al_up (h : c ≤ c') (q : Al step Q c x) : Al step Q c' x := fun f hf => q f (by omega)
theorem al_loop (mk : List R_iiii → Nat → X) (out : List R_iiii → X) (bad : R) (L : List R_iiii) (n N : Nat) (k : Int)
    (hs : ∀ v j, j < n → v.length ≤ 2000 → step (mk v j) = some (if okI (L.getD j R_iiii.z) n N = true then .inl (mk (v ++ [mv k (L.getD j R_iiii.z)]) (j + 1)) else .inr bad))
    (ho : ∀ v, step (mk v n) = some (.inl (out v))) (qb : ∀ j, j < n → okI (L.getD j R_iiii.z) n N = false → Q (some bad)) :
    ∀ d j v, j + d = n → v.length + d ≤ 2000 → (∀ i, i < j → okI (L.getD i R_iiii.z) n N = true) → (ok1 L n N → Al step Q c (out (v ++ mvs L k d j))) → Al step Q (c + 1 + d) (mk v j) := by
  intro d
  induction d with
  | zero =>
    intro j v hj hv hi q
    obtain rfl : j = n := by omega
    refine al_next (ho v) ?_
    have := q hi
    rw [show v ++ mvs L k 0 j = v from List.append_nil v] at this
    exact this
  | succ d ih =>
    intro j v hj hv hi q
    have h := hs v j (by omega) (by omega)
    cases hk : okI (L.getD j R_iiii.z) n N with
    | true =>
      rw [hk, if_pos rfl] at h
      refine al_next h (ih (j + 1) _ (by omega) (by rw [List.length_append]; show _ + 1 + d ≤ 2000; omega) (fun i h => ?_) fun ha => ?_)
      · by_cases e : i = j
        · rw [e]; exact hk
        · exact hi i (by omega)
      · rw [List.append_assoc]
        exact q ha
    | false =>
      rw [hk, if_neg (by decide)] at h
      exact al_done h (qb j (by omega) hk)
theorem part_nil (nilS nextN : X) (mk : List R_iiii → Nat → X) (out : List R_iiii → X) (bad : R) (L : List R_iiii) (n N : Nat)
    (hz : n = 0 → step nilS = some (.inl nextN))
    (hg : 0 < n → step nilS = some (if okI (L.getD 0 R_iiii.z) n N = true then .inl (mk [mv 0 (L.getD 0 R_iiii.z)] 1) else .inr bad))
    (hs : ∀ v j, j < n → v.length ≤ 2000 → step (mk v j) = some (if okI (L.getD j R_iiii.z) n N = true then .inl (mk (v ++ [mv 0 (L.getD j R_iiii.z)]) (j + 1)) else .inr bad))
    (ho : ∀ v, step (mk v n) = some (.inl (out v))) (hn : n ≤ 520) (qb : ¬ ok1 L n N → Q (some bad))
    (q0 : n = 0 → ok1 L n N → Al step Q c nextN) (q1 : 0 < n → ok1 L n N → Al step Q c (out (mvs L 0 n 0))) : Al step Q (c + 525) nilS := by
  have qb' : ∀ j, j < n → okI (L.getD j R_iiii.z) n N = false → Q (some bad) := fun j hj h => qb fun a => by rw [a j hj] at h; cases h
  by_cases h0 : n = 0
  · exact al_up (by omega) (al_next (hz h0) (q0 h0 fun j hj => by omega))
  · have h := hg (by omega)
    cases hk : okI (L.getD 0 R_iiii.z) n N with
    | true =>
      rw [hk, if_pos rfl] at h
      refine al_up (c := c + 1 + (n - 1) + 1) (by omega) (al_next h (al_loop mk out bad L n N 0 hs ho qb' (n - 1) 1 _ (by omega) (by show 1 + (n - 1) ≤ 2000; omega) (fun i hi => ?_) fun ha => ?_))
      · obtain rfl : i = 0 := by omega
        exact hk
      · have := q1 (by omega) ha
        obtain ⟨d, rfl⟩ : ∃ d, n = d + 1 := ⟨n - 1, by omega⟩
        exact this
    | false =>
      rw [hk, if_neg (by decide)] at h
      exact al_up (c := c + 1) (by omega) (al_done h (qb' 0 (by omega) hk))
theorem part_list (mk : List R_iiii → Nat → X) (out : List R_iiii → X) (bad : R) (L : List R_iiii) (n N : Nat) (k : Int) (v : List R_iiii) (hv : v.length ≤ 1100)
    (hs : ∀ v j, j < n → v.length ≤ 2000 → step (mk v j) = some (if okI (L.getD j R_iiii.z) n N = true then .inl (mk (v ++ [mv k (L.getD j R_iiii.z)]) (j + 1)) else .inr bad))
    (ho : ∀ v, step (mk v n) = some (.inl (out v))) (hn : n ≤ 520) (qb : ¬ ok1 L n N → Q (some bad))
    (q1 : ok1 L n N → Al step Q c (out (v ++ mvs L k n 0))) : Al step Q (c + 525) (mk v 0) := by
  have qb' : ∀ j, j < n → okI (L.getD j R_iiii.z) n N = false → Q (some bad) := fun j hj h => qb fun a => by rw [a j hj] at h; cases h
  exact al_up (c := c + 1 + n) (by omega) (al_loop mk out bad L n N k hs ho qb' n 0 v (by omega) (by omega) (fun i hi => by omega) q1)
end

section
variable {L1 L5 L9 : List R_iiii} {n2 n3 n6 n7 n10 n11 N : Nat}

theorem prog_Link_N0_go (hN : 4 ≤ N) (hl : n2 ≤ L1.length) (h0 : 0 < n2) : prog_LinkStep L1 n2 n3 L5 n6 n7 L9 n10 n11 N (.h3m0 0) = some (if okI (L1.getD 0 R_iiii.z) n2 N = true then .inl (.h3m1 [mv 0 (L1.getD 0 R_iiii.z)] 0 0 1) else .inr (.r0 110)) := by
  show prog_Link_h3m0 L1 n2 n3 L5 n6 n7 L9 n10 n11 N 0 = _
  unfold prog_Link_h3m0

  refine ite_yes (by omega) (ite_yes (by omega) ?_)

  generalize (L1.getD 0 R_iiii.z) = x
  have E : okI x n2 N = false → (some (Sum.inr (.r0 110)) : Option (prog_LinkX ⊕ prog_LinkR)) = some (if okI x n2 N = true then .inl (.h3m1 [mv 0 x] 0 0 1) else .inr (.r0 110)) := fun h => by rw [h]; rfl
  have G : ∀ b c, okI x n2 N = true → mv 0 x = ⟨x.a0, b, c, x.a3⟩ → (some (.inl (.h3m1 [⟨x.a0, b, c, x.a3⟩] 0 0 1)) : Option (prog_LinkX ⊕ prog_LinkR)) = some (if okI x n2 N = true then .inl (.h3m1 [mv 0 x] 0 0 1) else .inr (.r0 110)) := fun b c h e => by rw [if_pos h, e]
  unfold okI at E G

  obtain ⟨hc, -⟩ := fb_is x hN
  by_cases he : fb x N = true
  · have hc : instr_Check x.a0 x.a1 x.a2 x.a3 N = some (.r0 0) := by rw [hc, if_pos he]
    by_cases h8 : x.a0 = 8
    · refine bind_to (a := .r0 x.a1 true) (by unfold instr_Target; rw [if_pos h8]) ?_
      refine ite_yes rfl (bind_to hc (ite_no (fun h => h rfl) ?_))
      by_cases ht : (n2 : Int) < x.a1
      · exact ite_yes ht (E (decide_eq_false fun h => by have := h.2.1 h8; omega))
      · refine ite_no ht (bind_to (a := .r0 (IntKind.i64.wrap ((0 : Int) + x.a1)) x.a2) (by unfold instr_Aim; rw [if_pos h8]) ?_)
        exact G _ _ (decide_eq_true ⟨he, fun _ => by omega, fun h => by omega⟩) (if_pos h8)
    · by_cases h9 : x.a0 = 9
      · refine bind_to (a := .r0 x.a2 true) (by unfold instr_Target; rw [if_neg h8, if_pos h9]) ?_
        refine ite_yes rfl (bind_to hc (ite_no (fun h => h rfl) ?_))
        by_cases ht : (n2 : Int) < x.a2
        · exact ite_yes ht (E (decide_eq_false fun h => by have := h.2.2 h9; omega))
        · refine ite_no ht (bind_to (a := .r0 x.a1 (IntKind.i64.wrap ((0 : Int) + x.a2))) (by unfold instr_Aim; rw [if_neg h8, if_pos h9]) ?_)
          exact G _ _ (decide_eq_true ⟨he, fun h => by omega, fun h => by omega⟩) ((if_neg h8).trans (if_pos h9))
      · refine bind_to (a := .r0 0 false) (by unfold instr_Target; rw [if_neg h8, if_neg h9]) ?_
        refine ite_no (by decide) (bind_to hc (ite_no (fun h => h rfl) (bind_to (a := .r0 x.a1 x.a2) (by unfold instr_Aim; rw [if_neg h8, if_neg h9]) ?_)))
        exact G _ _ (decide_eq_true ⟨he, fun h => absurd h h8, fun h => absurd h h9⟩) ((if_neg h8).trans (if_neg h9))
  · have hc : instr_Check x.a0 x.a1 x.a2 x.a3 N = some (.r0 100) := by rw [hc, if_neg he]
    have E := E (decide_eq_false fun h => he h.1)
    by_cases h8 : x.a0 = 8
    · refine bind_to (a := .r0 x.a1 true) (by unfold instr_Target; rw [if_pos h8]) ?_
      exact ite_yes rfl (bind_to hc (ite_yes (by decide) E))
    · by_cases h9 : x.a0 = 9
      · refine bind_to (a := .r0 x.a2 true) (by unfold instr_Target; rw [if_neg h8, if_pos h9]) ?_
        exact ite_yes rfl (bind_to hc (ite_yes (by decide) E))
      · refine bind_to (a := .r0 0 false) (by unfold instr_Target; rw [if_neg h8, if_neg h9]) ?_
        exact ite_no (by decide) (bind_to hc (ite_yes (by decide) E))

theorem prog_Link_N0_no (h0 : n2 = 0) : prog_LinkStep L1 n2 n3 L5 n6 n7 L9 n10 n11 N (.h3m0 0) = some (.inl (.h2m0 1)) := by
  show prog_Link_h3m0 L1 n2 n3 L5 n6 n7 L9 n10 n11 N 0 = _
  unfold prog_Link_h3m0

  exact ite_no (by omega) (ite_yes (by omega) rfl)

theorem prog_Link_C0_go (hN : 4 ≤ N) (hl : n2 ≤ L1.length) (h5 : n2 ≤ 520) (k : Nat) (v : List R_iiii) (j : Nat) (hj : j < n2) (hv : v.length ≤ 2000) : prog_LinkStep L1 n2 n3 L5 n6 n7 L9 n10 n11 N (.h3m1 v k 0 j) = some (if okI (L1.getD j R_iiii.z) n2 N = true then .inl (.h3m1 (v ++ [mv k (L1.getD j R_iiii.z)]) k 0 (j + 1)) else .inr (.r0 110)) := by
  show prog_Link_h3m1 L1 n2 n3 L5 n6 n7 L9 n10 n11 N v k 0 j = _
  unfold prog_Link_h3m1

  refine ite_yes (by omega) (ite_yes (by omega) ?_)

  generalize (L1.getD j R_iiii.z) = x
  have E : okI x n2 N = false → (some (Sum.inr (.r0 110)) : Option (prog_LinkX ⊕ prog_LinkR)) = some (if okI x n2 N = true then .inl (.h3m1 (v ++ [mv k x]) k 0 (j + 1)) else .inr (.r0 110)) := fun h => by rw [h]; rfl
  have G : ∀ b c, okI x n2 N = true → mv k x = ⟨x.a0, b, c, x.a3⟩ → (if v.length ≤ 100000 then if (((j + 1) : Nat) : Int) ≤ (9223372036854775807 : Int) then some (.inl (.h3m1 (v ++ [⟨x.a0, b, c, x.a3⟩]) k 0 (j + 1)) : prog_LinkX ⊕ prog_LinkR) else none else none) = some (if okI x n2 N = true then .inl (.h3m1 (v ++ [mv k x]) k 0 (j + 1)) else .inr (.r0 110)) := fun b c h e => by
    rw [if_pos h, e]
    exact ite_yes (by omega) (ite_yes (by omega) rfl)
  unfold okI at E G

  obtain ⟨hc, -⟩ := fb_is x hN
  by_cases he : fb x N = true
  · have hc : instr_Check x.a0 x.a1 x.a2 x.a3 N = some (.r0 0) := by rw [hc, if_pos he]
    by_cases h8 : x.a0 = 8
    · refine bind_to (a := .r0 x.a1 true) (by unfold instr_Target; rw [if_pos h8]) ?_
      refine ite_yes rfl (bind_to hc (ite_no (fun h => h rfl) ?_))
      by_cases ht : (n2 : Int) < x.a1
      · exact ite_yes ht (E (decide_eq_false fun h => by have := h.2.1 h8; omega))
      · refine ite_no ht (bind_to (a := .r0 (IntKind.i64.wrap (k + x.a1)) x.a2) (by unfold instr_Aim; rw [if_pos h8]) ?_)
        exact G _ _ (decide_eq_true ⟨he, fun _ => by omega, fun h => by omega⟩) (if_pos h8)
    · by_cases h9 : x.a0 = 9
      · refine bind_to (a := .r0 x.a2 true) (by unfold instr_Target; rw [if_neg h8, if_pos h9]) ?_
        refine ite_yes rfl (bind_to hc (ite_no (fun h => h rfl) ?_))
        by_cases ht : (n2 : Int) < x.a2
        · exact ite_yes ht (E (decide_eq_false fun h => by have := h.2.2 h9; omega))
        · refine ite_no ht (bind_to (a := .r0 x.a1 (IntKind.i64.wrap (k + x.a2))) (by unfold instr_Aim; rw [if_neg h8, if_pos h9]) ?_)
          exact G _ _ (decide_eq_true ⟨he, fun h => by omega, fun h => by omega⟩) ((if_neg h8).trans (if_pos h9))
      · refine bind_to (a := .r0 0 false) (by unfold instr_Target; rw [if_neg h8, if_neg h9]) ?_
        refine ite_no (by decide) (bind_to hc (ite_no (fun h => h rfl) (bind_to (a := .r0 x.a1 x.a2) (by unfold instr_Aim; rw [if_neg h8, if_neg h9]) ?_)))
        exact G _ _ (decide_eq_true ⟨he, fun h => absurd h h8, fun h => absurd h h9⟩) ((if_neg h8).trans (if_neg h9))
  · have hc : instr_Check x.a0 x.a1 x.a2 x.a3 N = some (.r0 100) := by rw [hc, if_neg he]
    have E := E (decide_eq_false fun h => he h.1)
    by_cases h8 : x.a0 = 8
    · refine bind_to (a := .r0 x.a1 true) (by unfold instr_Target; rw [if_pos h8]) ?_
      exact ite_yes rfl (bind_to hc (ite_yes (by decide) E))
    · by_cases h9 : x.a0 = 9
      · refine bind_to (a := .r0 x.a2 true) (by unfold instr_Target; rw [if_neg h8, if_pos h9]) ?_
        exact ite_yes rfl (bind_to hc (ite_yes (by decide) E))
      · refine bind_to (a := .r0 0 false) (by unfold instr_Target; rw [if_neg h8, if_neg h9]) ?_
        exact ite_no (by decide) (bind_to hc (ite_yes (by decide) E))

theorem prog_Link_C0_no (k : Nat) (v : List R_iiii) : prog_LinkStep L1 n2 n3 L5 n6 n7 L9 n10 n11 N (.h3m1 v k 0 n2) = some (.inl (.h2m1 v 1)) := by
  show prog_Link_h3m1 L1 n2 n3 L5 n6 n7 L9 n10 n11 N v k 0 n2 = _
  unfold prog_Link_h3m1

  exact ite_no (by omega) (ite_yes (by omega) rfl)

theorem prog_Link_N1_go (hN : 4 ≤ N) (hl : n6 ≤ L5.length) (h0 : 0 < n6) : prog_LinkStep L1 n2 n3 L5 n6 n7 L9 n10 n11 N (.h3m2 1) = some (if okI (L5.getD 0 R_iiii.z) n6 N = true then .inl (.h3m4 [mv 0 (L5.getD 0 R_iiii.z)] 0 1 1) else .inr (.r0 110)) := by
  show prog_Link_h3m2 L1 n2 n3 L5 n6 n7 L9 n10 n11 N 1 = _
  unfold prog_Link_h3m2

  refine ite_yes (by omega) (ite_yes (by omega) ?_)

  generalize (L5.getD 0 R_iiii.z) = x
  have E : okI x n6 N = false → (some (Sum.inr (.r0 110)) : Option (prog_LinkX ⊕ prog_LinkR)) = some (if okI x n6 N = true then .inl (.h3m4 [mv 0 x] 0 1 1) else .inr (.r0 110)) := fun h => by rw [h]; rfl
  have G : ∀ b c, okI x n6 N = true → mv 0 x = ⟨x.a0, b, c, x.a3⟩ → (some (.inl (.h3m4 [⟨x.a0, b, c, x.a3⟩] 0 1 1)) : Option (prog_LinkX ⊕ prog_LinkR)) = some (if okI x n6 N = true then .inl (.h3m4 [mv 0 x] 0 1 1) else .inr (.r0 110)) := fun b c h e => by rw [if_pos h, e]
  unfold okI at E G

  obtain ⟨hc, -⟩ := fb_is x hN
  by_cases he : fb x N = true
  · have hc : instr_Check x.a0 x.a1 x.a2 x.a3 N = some (.r0 0) := by rw [hc, if_pos he]
    by_cases h8 : x.a0 = 8
    · refine bind_to (a := .r0 x.a1 true) (by unfold instr_Target; rw [if_pos h8]) ?_
      refine ite_yes rfl (bind_to hc (ite_no (fun h => h rfl) ?_))
      by_cases ht : (n6 : Int) < x.a1
      · exact ite_yes ht (E (decide_eq_false fun h => by have := h.2.1 h8; omega))
      · refine ite_no ht (bind_to (a := .r0 (IntKind.i64.wrap ((0 : Int) + x.a1)) x.a2) (by unfold instr_Aim; rw [if_pos h8]) ?_)
        exact G _ _ (decide_eq_true ⟨he, fun _ => by omega, fun h => by omega⟩) (if_pos h8)
    · by_cases h9 : x.a0 = 9
      · refine bind_to (a := .r0 x.a2 true) (by unfold instr_Target; rw [if_neg h8, if_pos h9]) ?_
        refine ite_yes rfl (bind_to hc (ite_no (fun h => h rfl) ?_))
        by_cases ht : (n6 : Int) < x.a2
        · exact ite_yes ht (E (decide_eq_false fun h => by have := h.2.2 h9; omega))
        · refine ite_no ht (bind_to (a := .r0 x.a1 (IntKind.i64.wrap ((0 : Int) + x.a2))) (by unfold instr_Aim; rw [if_neg h8, if_pos h9]) ?_)
          exact G _ _ (decide_eq_true ⟨he, fun h => by omega, fun h => by omega⟩) ((if_neg h8).trans (if_pos h9))
      · refine bind_to (a := .r0 0 false) (by unfold instr_Target; rw [if_neg h8, if_neg h9]) ?_
        refine ite_no (by decide) (bind_to hc (ite_no (fun h => h rfl) (bind_to (a := .r0 x.a1 x.a2) (by unfold instr_Aim; rw [if_neg h8, if_neg h9]) ?_)))
        exact G _ _ (decide_eq_true ⟨he, fun h => absurd h h8, fun h => absurd h h9⟩) ((if_neg h8).trans (if_neg h9))
  · have hc : instr_Check x.a0 x.a1 x.a2 x.a3 N = some (.r0 100) := by rw [hc, if_neg he]
    have E := E (decide_eq_false fun h => he h.1)
    by_cases h8 : x.a0 = 8
    · refine bind_to (a := .r0 x.a1 true) (by unfold instr_Target; rw [if_pos h8]) ?_
      exact ite_yes rfl (bind_to hc (ite_yes (by decide) E))
    · by_cases h9 : x.a0 = 9
      · refine bind_to (a := .r0 x.a2 true) (by unfold instr_Target; rw [if_neg h8, if_pos h9]) ?_
        exact ite_yes rfl (bind_to hc (ite_yes (by decide) E))
      · refine bind_to (a := .r0 0 false) (by unfold instr_Target; rw [if_neg h8, if_neg h9]) ?_
        exact ite_no (by decide) (bind_to hc (ite_yes (by decide) E))

theorem prog_Link_N1_no (h0 : n6 = 0) : prog_LinkStep L1 n2 n3 L5 n6 n7 L9 n10 n11 N (.h3m2 1) = some (.inl (.h2m0 2)) := by
  show prog_Link_h3m2 L1 n2 n3 L5 n6 n7 L9 n10 n11 N 1 = _
  unfold prog_Link_h3m2

  exact ite_no (by omega) (ite_yes (by omega) rfl)

theorem prog_Link_C1_go (hN : 4 ≤ N) (hl : n6 ≤ L5.length) (h5 : n6 ≤ 520) (k : Nat) (v : List R_iiii) (j : Nat) (hj : j < n6) (hv : v.length ≤ 2000) : prog_LinkStep L1 n2 n3 L5 n6 n7 L9 n10 n11 N (.h3m4 v k 1 j) = some (if okI (L5.getD j R_iiii.z) n6 N = true then .inl (.h3m4 (v ++ [mv k (L5.getD j R_iiii.z)]) k 1 (j + 1)) else .inr (.r0 110)) := by
  show prog_Link_h3m4 L1 n2 n3 L5 n6 n7 L9 n10 n11 N v k 1 j = _
  unfold prog_Link_h3m4

  refine ite_yes (by omega) (ite_yes (by omega) ?_)

  generalize (L5.getD j R_iiii.z) = x
  have E : okI x n6 N = false → (some (Sum.inr (.r0 110)) : Option (prog_LinkX ⊕ prog_LinkR)) = some (if okI x n6 N = true then .inl (.h3m4 (v ++ [mv k x]) k 1 (j + 1)) else .inr (.r0 110)) := fun h => by rw [h]; rfl
  have G : ∀ b c, okI x n6 N = true → mv k x = ⟨x.a0, b, c, x.a3⟩ → (if v.length ≤ 100000 then if (((j + 1) : Nat) : Int) ≤ (9223372036854775807 : Int) then some (.inl (.h3m4 (v ++ [⟨x.a0, b, c, x.a3⟩]) k 1 (j + 1)) : prog_LinkX ⊕ prog_LinkR) else none else none) = some (if okI x n6 N = true then .inl (.h3m4 (v ++ [mv k x]) k 1 (j + 1)) else .inr (.r0 110)) := fun b c h e => by
    rw [if_pos h, e]
    exact ite_yes (by omega) (ite_yes (by omega) rfl)
  unfold okI at E G

  obtain ⟨hc, -⟩ := fb_is x hN
  by_cases he : fb x N = true
  · have hc : instr_Check x.a0 x.a1 x.a2 x.a3 N = some (.r0 0) := by rw [hc, if_pos he]
    by_cases h8 : x.a0 = 8
    · refine bind_to (a := .r0 x.a1 true) (by unfold instr_Target; rw [if_pos h8]) ?_
      refine ite_yes rfl (bind_to hc (ite_no (fun h => h rfl) ?_))
      by_cases ht : (n6 : Int) < x.a1
      · exact ite_yes ht (E (decide_eq_false fun h => by have := h.2.1 h8; omega))
      · refine ite_no ht (bind_to (a := .r0 (IntKind.i64.wrap (k + x.a1)) x.a2) (by unfold instr_Aim; rw [if_pos h8]) ?_)
        exact G _ _ (decide_eq_true ⟨he, fun _ => by omega, fun h => by omega⟩) (if_pos h8)
    · by_cases h9 : x.a0 = 9
      · refine bind_to (a := .r0 x.a2 true) (by unfold instr_Target; rw [if_neg h8, if_pos h9]) ?_
        refine ite_yes rfl (bind_to hc (ite_no (fun h => h rfl) ?_))
        by_cases ht : (n6 : Int) < x.a2
        · exact ite_yes ht (E (decide_eq_false fun h => by have := h.2.2 h9; omega))
        · refine ite_no ht (bind_to (a := .r0 x.a1 (IntKind.i64.wrap (k + x.a2))) (by unfold instr_Aim; rw [if_neg h8, if_pos h9]) ?_)
          exact G _ _ (decide_eq_true ⟨he, fun h => by omega, fun h => by omega⟩) ((if_neg h8).trans (if_pos h9))
      · refine bind_to (a := .r0 0 false) (by unfold instr_Target; rw [if_neg h8, if_neg h9]) ?_
        refine ite_no (by decide) (bind_to hc (ite_no (fun h => h rfl) (bind_to (a := .r0 x.a1 x.a2) (by unfold instr_Aim; rw [if_neg h8, if_neg h9]) ?_)))
        exact G _ _ (decide_eq_true ⟨he, fun h => absurd h h8, fun h => absurd h h9⟩) ((if_neg h8).trans (if_neg h9))
  · have hc : instr_Check x.a0 x.a1 x.a2 x.a3 N = some (.r0 100) := by rw [hc, if_neg he]
    have E := E (decide_eq_false fun h => he h.1)
    by_cases h8 : x.a0 = 8
    · refine bind_to (a := .r0 x.a1 true) (by unfold instr_Target; rw [if_pos h8]) ?_
      exact ite_yes rfl (bind_to hc (ite_yes (by decide) E))
    · by_cases h9 : x.a0 = 9
      · refine bind_to (a := .r0 x.a2 true) (by unfold instr_Target; rw [if_neg h8, if_pos h9]) ?_
        exact ite_yes rfl (bind_to hc (ite_yes (by decide) E))
      · refine bind_to (a := .r0 0 false) (by unfold instr_Target; rw [if_neg h8, if_neg h9]) ?_
        exact ite_no (by decide) (bind_to hc (ite_yes (by decide) E))

theorem prog_Link_C1_no (k : Nat) (v : List R_iiii) : prog_LinkStep L1 n2 n3 L5 n6 n7 L9 n10 n11 N (.h3m4 v k 1 n6) = some (.inl (.h2m1 v 2)) := by
  show prog_Link_h3m4 L1 n2 n3 L5 n6 n7 L9 n10 n11 N v k 1 n6 = _
  unfold prog_Link_h3m4

  exact ite_no (by omega) (ite_yes (by omega) rfl)

theorem prog_Link_N2_go (hN : 4 ≤ N) (hl : n10 ≤ L9.length) (h0 : 0 < n10) : prog_LinkStep L1 n2 n3 L5 n6 n7 L9 n10 n11 N (.h3m3 2) = some (if okI (L9.getD 0 R_iiii.z) n10 N = true then .inl (.h3m5 [mv 0 (L9.getD 0 R_iiii.z)] 0 2 1) else .inr (.r0 110)) := by
  show prog_Link_h3m3 L1 n2 n3 L5 n6 n7 L9 n10 n11 N 2 = _
  unfold prog_Link_h3m3

  refine ite_yes (by omega) (ite_yes (by omega) ?_)

  generalize (L9.getD 0 R_iiii.z) = x
  have E : okI x n10 N = false → (some (Sum.inr (.r0 110)) : Option (prog_LinkX ⊕ prog_LinkR)) = some (if okI x n10 N = true then .inl (.h3m5 [mv 0 x] 0 2 1) else .inr (.r0 110)) := fun h => by rw [h]; rfl
  have G : ∀ b c, okI x n10 N = true → mv 0 x = ⟨x.a0, b, c, x.a3⟩ → (some (.inl (.h3m5 [⟨x.a0, b, c, x.a3⟩] 0 2 1)) : Option (prog_LinkX ⊕ prog_LinkR)) = some (if okI x n10 N = true then .inl (.h3m5 [mv 0 x] 0 2 1) else .inr (.r0 110)) := fun b c h e => by rw [if_pos h, e]
  unfold okI at E G

  obtain ⟨hc, -⟩ := fb_is x hN
  by_cases he : fb x N = true
  · have hc : instr_Check x.a0 x.a1 x.a2 x.a3 N = some (.r0 0) := by rw [hc, if_pos he]
    by_cases h8 : x.a0 = 8
    · refine bind_to (a := .r0 x.a1 true) (by unfold instr_Target; rw [if_pos h8]) ?_
      refine ite_yes rfl (bind_to hc (ite_no (fun h => h rfl) ?_))
      by_cases ht : (n10 : Int) < x.a1
      · exact ite_yes ht (E (decide_eq_false fun h => by have := h.2.1 h8; omega))
      · refine ite_no ht (bind_to (a := .r0 (IntKind.i64.wrap ((0 : Int) + x.a1)) x.a2) (by unfold instr_Aim; rw [if_pos h8]) ?_)
        exact G _ _ (decide_eq_true ⟨he, fun _ => by omega, fun h => by omega⟩) (if_pos h8)
    · by_cases h9 : x.a0 = 9
      · refine bind_to (a := .r0 x.a2 true) (by unfold instr_Target; rw [if_neg h8, if_pos h9]) ?_
        refine ite_yes rfl (bind_to hc (ite_no (fun h => h rfl) ?_))
        by_cases ht : (n10 : Int) < x.a2
        · exact ite_yes ht (E (decide_eq_false fun h => by have := h.2.2 h9; omega))
        · refine ite_no ht (bind_to (a := .r0 x.a1 (IntKind.i64.wrap ((0 : Int) + x.a2))) (by unfold instr_Aim; rw [if_neg h8, if_pos h9]) ?_)
          exact G _ _ (decide_eq_true ⟨he, fun h => by omega, fun h => by omega⟩) ((if_neg h8).trans (if_pos h9))
      · refine bind_to (a := .r0 0 false) (by unfold instr_Target; rw [if_neg h8, if_neg h9]) ?_
        refine ite_no (by decide) (bind_to hc (ite_no (fun h => h rfl) (bind_to (a := .r0 x.a1 x.a2) (by unfold instr_Aim; rw [if_neg h8, if_neg h9]) ?_)))
        exact G _ _ (decide_eq_true ⟨he, fun h => absurd h h8, fun h => absurd h h9⟩) ((if_neg h8).trans (if_neg h9))
  · have hc : instr_Check x.a0 x.a1 x.a2 x.a3 N = some (.r0 100) := by rw [hc, if_neg he]
    have E := E (decide_eq_false fun h => he h.1)
    by_cases h8 : x.a0 = 8
    · refine bind_to (a := .r0 x.a1 true) (by unfold instr_Target; rw [if_pos h8]) ?_
      exact ite_yes rfl (bind_to hc (ite_yes (by decide) E))
    · by_cases h9 : x.a0 = 9
      · refine bind_to (a := .r0 x.a2 true) (by unfold instr_Target; rw [if_neg h8, if_pos h9]) ?_
        exact ite_yes rfl (bind_to hc (ite_yes (by decide) E))
      · refine bind_to (a := .r0 0 false) (by unfold instr_Target; rw [if_neg h8, if_neg h9]) ?_
        exact ite_no (by decide) (bind_to hc (ite_yes (by decide) E))

theorem prog_Link_N2_no (h0 : n10 = 0) : prog_LinkStep L1 n2 n3 L5 n6 n7 L9 n10 n11 N (.h3m3 2) = some (.inl (.h2m0 3)) := by
  show prog_Link_h3m3 L1 n2 n3 L5 n6 n7 L9 n10 n11 N 2 = _
  unfold prog_Link_h3m3

  exact ite_no (by omega) (ite_yes (by omega) rfl)

theorem prog_Link_C2_go (hN : 4 ≤ N) (hl : n10 ≤ L9.length) (h5 : n10 ≤ 520) (k : Nat) (v : List R_iiii) (j : Nat) (hj : j < n10) (hv : v.length ≤ 2000) : prog_LinkStep L1 n2 n3 L5 n6 n7 L9 n10 n11 N (.h3m5 v k 2 j) = some (if okI (L9.getD j R_iiii.z) n10 N = true then .inl (.h3m5 (v ++ [mv k (L9.getD j R_iiii.z)]) k 2 (j + 1)) else .inr (.r0 110)) := by
  show prog_Link_h3m5 L1 n2 n3 L5 n6 n7 L9 n10 n11 N v k 2 j = _
  unfold prog_Link_h3m5

  refine ite_yes (by omega) (ite_yes (by omega) ?_)

  generalize (L9.getD j R_iiii.z) = x
  have E : okI x n10 N = false → (some (Sum.inr (.r0 110)) : Option (prog_LinkX ⊕ prog_LinkR)) = some (if okI x n10 N = true then .inl (.h3m5 (v ++ [mv k x]) k 2 (j + 1)) else .inr (.r0 110)) := fun h => by rw [h]; rfl
  have G : ∀ b c, okI x n10 N = true → mv k x = ⟨x.a0, b, c, x.a3⟩ → (if v.length ≤ 100000 then if (((j + 1) : Nat) : Int) ≤ (9223372036854775807 : Int) then some (.inl (.h3m5 (v ++ [⟨x.a0, b, c, x.a3⟩]) k 2 (j + 1)) : prog_LinkX ⊕ prog_LinkR) else none else none) = some (if okI x n10 N = true then .inl (.h3m5 (v ++ [mv k x]) k 2 (j + 1)) else .inr (.r0 110)) := fun b c h e => by
    rw [if_pos h, e]
    exact ite_yes (by omega) (ite_yes (by omega) rfl)
  unfold okI at E G

  obtain ⟨hc, -⟩ := fb_is x hN
  by_cases he : fb x N = true
  · have hc : instr_Check x.a0 x.a1 x.a2 x.a3 N = some (.r0 0) := by rw [hc, if_pos he]
    by_cases h8 : x.a0 = 8
    · refine bind_to (a := .r0 x.a1 true) (by unfold instr_Target; rw [if_pos h8]) ?_
      refine ite_yes rfl (bind_to hc (ite_no (fun h => h rfl) ?_))
      by_cases ht : (n10 : Int) < x.a1
      · exact ite_yes ht (E (decide_eq_false fun h => by have := h.2.1 h8; omega))
      · refine ite_no ht (bind_to (a := .r0 (IntKind.i64.wrap (k + x.a1)) x.a2) (by unfold instr_Aim; rw [if_pos h8]) ?_)
        exact G _ _ (decide_eq_true ⟨he, fun _ => by omega, fun h => by omega⟩) (if_pos h8)
    · by_cases h9 : x.a0 = 9
      · refine bind_to (a := .r0 x.a2 true) (by unfold instr_Target; rw [if_neg h8, if_pos h9]) ?_
        refine ite_yes rfl (bind_to hc (ite_no (fun h => h rfl) ?_))
        by_cases ht : (n10 : Int) < x.a2
        · exact ite_yes ht (E (decide_eq_false fun h => by have := h.2.2 h9; omega))
        · refine ite_no ht (bind_to (a := .r0 x.a1 (IntKind.i64.wrap (k + x.a2))) (by unfold instr_Aim; rw [if_neg h8, if_pos h9]) ?_)
          exact G _ _ (decide_eq_true ⟨he, fun h => by omega, fun h => by omega⟩) ((if_neg h8).trans (if_pos h9))
      · refine bind_to (a := .r0 0 false) (by unfold instr_Target; rw [if_neg h8, if_neg h9]) ?_
        refine ite_no (by decide) (bind_to hc (ite_no (fun h => h rfl) (bind_to (a := .r0 x.a1 x.a2) (by unfold instr_Aim; rw [if_neg h8, if_neg h9]) ?_)))
        exact G _ _ (decide_eq_true ⟨he, fun h => absurd h h8, fun h => absurd h h9⟩) ((if_neg h8).trans (if_neg h9))
  · have hc : instr_Check x.a0 x.a1 x.a2 x.a3 N = some (.r0 100) := by rw [hc, if_neg he]
    have E := E (decide_eq_false fun h => he h.1)
    by_cases h8 : x.a0 = 8
    · refine bind_to (a := .r0 x.a1 true) (by unfold instr_Target; rw [if_pos h8]) ?_
      exact ite_yes rfl (bind_to hc (ite_yes (by decide) E))
    · by_cases h9 : x.a0 = 9
      · refine bind_to (a := .r0 x.a2 true) (by unfold instr_Target; rw [if_neg h8, if_pos h9]) ?_
        exact ite_yes rfl (bind_to hc (ite_yes (by decide) E))
      · refine bind_to (a := .r0 0 false) (by unfold instr_Target; rw [if_neg h8, if_neg h9]) ?_
        exact ite_no (by decide) (bind_to hc (ite_yes (by decide) E))

theorem prog_Link_C2_no (k : Nat) (v : List R_iiii) : prog_LinkStep L1 n2 n3 L5 n6 n7 L9 n10 n11 N (.h3m5 v k 2 n10) = some (.inl (.h2m1 v 3)) := by
  show prog_Link_h3m5 L1 n2 n3 L5 n6 n7 L9 n10 n11 N v k 2 n10 = _
  unfold prog_Link_h3m5

  exact ite_no (by omega) (ite_yes (by omega) rfl)

theorem ref11_Link_N0_go (hN : 4 ≤ N) (hl : n2 ≤ L1.length) (h0 : 0 < n2) : ref11_LinkStep L1 n2 n3 L5 n6 n7 L9 n10 n11 N (.h3m0 0) = some (if okI (L1.getD 0 R_iiii.z) n2 N = true then .inl (.h3m1 [mv 0 (L1.getD 0 R_iiii.z)] 0 0 1) else .inr (.r0 110)) := by
  show ref11_Link_h3m0 L1 n2 n3 L5 n6 n7 L9 n10 n11 N 0 = _
  unfold ref11_Link_h3m0

  refine ite_yes rfl (ite_yes (by omega) (ite_yes (by omega) ?_))

  generalize (L1.getD 0 R_iiii.z) = x
  have E : okI x n2 N = false → (some (Sum.inr (.r0 110)) : Option (ref11_LinkX ⊕ ref11_LinkR)) = some (if okI x n2 N = true then .inl (.h3m1 [mv 0 x] 0 0 1) else .inr (.r0 110)) := fun h => by rw [h]; rfl
  have G : ∀ b c, okI x n2 N = true → mv 0 x = ⟨x.a0, b, c, x.a3⟩ → (some (.inl (.h3m1 [⟨x.a0, b, c, x.a3⟩] 0 0 1)) : Option (ref11_LinkX ⊕ ref11_LinkR)) = some (if okI x n2 N = true then .inl (.h3m1 [mv 0 x] 0 0 1) else .inr (.r0 110)) := fun b c h e => by rw [if_pos h, e]
  unfold okI at E G

  obtain ⟨-, hi⟩ := fb_is x hN
  by_cases he : fb x N = true
  · refine bind_to hi (ite_no (fun h => h he) ?_)
    by_cases h8 : x.a0 = 8
    · refine bind_to (a := .r0 x.a1 true) (by unfold ref10_Target; rw [if_pos h8]) (ite_yes rfl ?_)
      by_cases ht : (n2 : Int) < x.a1
      · exact ite_yes ht (E (decide_eq_false fun h => by have := h.2.1 h8; omega))
      · refine ite_no ht (bind_to (a := .r0 (IntKind.i64.wrap (x.a1 + (0 : Int))) x.a2) (by unfold ref10_Aim; rw [if_pos h8]) ?_)
        exact G _ _ (decide_eq_true ⟨he, fun _ => by omega, fun h => by omega⟩) ((if_pos h8).trans (by rw [Int.add_comm]))
    · by_cases h9 : x.a0 = 9
      · refine bind_to (a := .r0 x.a2 true) (by unfold ref10_Target; rw [if_neg h8, if_pos h9]) (ite_yes rfl ?_)
        by_cases ht : (n2 : Int) < x.a2
        · exact ite_yes ht (E (decide_eq_false fun h => by have := h.2.2 h9; omega))
        · refine ite_no ht (bind_to (a := .r0 x.a1 (IntKind.i64.wrap (x.a2 + (0 : Int)))) (by unfold ref10_Aim; rw [if_neg h8, if_pos h9]) ?_)
          exact G _ _ (decide_eq_true ⟨he, fun h => by omega, fun h => by omega⟩) (((if_neg h8).trans (if_pos h9)).trans (by rw [Int.add_comm]))
      · refine bind_to (a := .r0 0 false) (by unfold ref10_Target; rw [if_neg h8, if_neg h9]) (ite_no (by decide) ?_)
        exact G _ _ (decide_eq_true ⟨he, fun h => absurd h h8, fun h => absurd h h9⟩) ((if_neg h8).trans (if_neg h9))
  · exact bind_to hi (ite_yes he (E (decide_eq_false fun h => he h.1)))

theorem ref11_Link_N0_no (h0 : n2 = 0) : ref11_LinkStep L1 n2 n3 L5 n6 n7 L9 n10 n11 N (.h3m0 0) = some (.inl (.h2m0 1)) := by
  show ref11_Link_h3m0 L1 n2 n3 L5 n6 n7 L9 n10 n11 N 0 = _
  unfold ref11_Link_h3m0

  exact ite_yes rfl (ite_no (by omega) rfl)

theorem ref11_Link_C0_go (hN : 4 ≤ N) (hl : n2 ≤ L1.length) (h5 : n2 ≤ 520) (k : Nat) (v : List R_iiii) (j : Nat) (hj : j < n2) (hv : v.length ≤ 2000) : ref11_LinkStep L1 n2 n3 L5 n6 n7 L9 n10 n11 N (.h3m1 v 0 k j) = some (if okI (L1.getD j R_iiii.z) n2 N = true then .inl (.h3m1 (v ++ [mv k (L1.getD j R_iiii.z)]) 0 k (j + 1)) else .inr (.r0 110)) := by
  show ref11_Link_h3m1 L1 n2 n3 L5 n6 n7 L9 n10 n11 N v 0 k j = _
  unfold ref11_Link_h3m1

  refine ite_yes rfl (ite_yes (by omega) (ite_yes (by omega) ?_))

  generalize (L1.getD j R_iiii.z) = x
  have E : okI x n2 N = false → (some (Sum.inr (.r0 110)) : Option (ref11_LinkX ⊕ ref11_LinkR)) = some (if okI x n2 N = true then .inl (.h3m1 (v ++ [mv k x]) 0 k (j + 1)) else .inr (.r0 110)) := fun h => by rw [h]; rfl
  have G : ∀ b c, okI x n2 N = true → mv k x = ⟨x.a0, b, c, x.a3⟩ → (if v.length ≤ 100000 then if (((j + 1) : Nat) : Int) ≤ (9223372036854775807 : Int) then some (.inl (.h3m1 (v ++ [⟨x.a0, b, c, x.a3⟩]) 0 k (j + 1)) : ref11_LinkX ⊕ ref11_LinkR) else none else none) = some (if okI x n2 N = true then .inl (.h3m1 (v ++ [mv k x]) 0 k (j + 1)) else .inr (.r0 110)) := fun b c h e => by
    rw [if_pos h, e]
    exact ite_yes (by omega) (ite_yes (by omega) rfl)
  unfold okI at E G

  obtain ⟨-, hi⟩ := fb_is x hN
  by_cases he : fb x N = true
  · refine bind_to hi (ite_no (fun h => h he) ?_)
    by_cases h8 : x.a0 = 8
    · refine bind_to (a := .r0 x.a1 true) (by unfold ref10_Target; rw [if_pos h8]) (ite_yes rfl ?_)
      by_cases ht : (n2 : Int) < x.a1
      · exact ite_yes ht (E (decide_eq_false fun h => by have := h.2.1 h8; omega))
      · refine ite_no ht (bind_to (a := .r0 (IntKind.i64.wrap (x.a1 + k)) x.a2) (by unfold ref10_Aim; rw [if_pos h8]) ?_)
        exact G _ _ (decide_eq_true ⟨he, fun _ => by omega, fun h => by omega⟩) ((if_pos h8).trans (by rw [Int.add_comm]))
    · by_cases h9 : x.a0 = 9
      · refine bind_to (a := .r0 x.a2 true) (by unfold ref10_Target; rw [if_neg h8, if_pos h9]) (ite_yes rfl ?_)
        by_cases ht : (n2 : Int) < x.a2
        · exact ite_yes ht (E (decide_eq_false fun h => by have := h.2.2 h9; omega))
        · refine ite_no ht (bind_to (a := .r0 x.a1 (IntKind.i64.wrap (x.a2 + k))) (by unfold ref10_Aim; rw [if_neg h8, if_pos h9]) ?_)
          exact G _ _ (decide_eq_true ⟨he, fun h => by omega, fun h => by omega⟩) (((if_neg h8).trans (if_pos h9)).trans (by rw [Int.add_comm]))
      · refine bind_to (a := .r0 0 false) (by unfold ref10_Target; rw [if_neg h8, if_neg h9]) (ite_no (by decide) ?_)
        exact G _ _ (decide_eq_true ⟨he, fun h => absurd h h8, fun h => absurd h h9⟩) ((if_neg h8).trans (if_neg h9))
  · exact bind_to hi (ite_yes he (E (decide_eq_false fun h => he h.1)))

theorem ref11_Link_C0_no (k : Nat) (v : List R_iiii) : ref11_LinkStep L1 n2 n3 L5 n6 n7 L9 n10 n11 N (.h3m1 v 0 k n2) = some (.inl (.h2m1 v 1)) := by
  show ref11_Link_h3m1 L1 n2 n3 L5 n6 n7 L9 n10 n11 N v 0 k n2 = _
  unfold ref11_Link_h3m1

  exact ite_yes rfl (ite_no (by omega) rfl)

theorem ref11_Link_N1_go (hN : 4 ≤ N) (hl : n6 ≤ L5.length) (h0 : 0 < n6) : ref11_LinkStep L1 n2 n3 L5 n6 n7 L9 n10 n11 N (.h3m0 1) = some (if okI (L5.getD 0 R_iiii.z) n6 N = true then .inl (.h3m1 [mv 0 (L5.getD 0 R_iiii.z)] 1 0 1) else .inr (.r0 110)) := by
  show ref11_Link_h3m0 L1 n2 n3 L5 n6 n7 L9 n10 n11 N 1 = _
  unfold ref11_Link_h3m0

  refine ite_no (by decide) (ite_yes rfl (ite_yes (by omega) (ite_yes (by omega) ?_)))

  generalize (L5.getD 0 R_iiii.z) = x
  have E : okI x n6 N = false → (some (Sum.inr (.r0 110)) : Option (ref11_LinkX ⊕ ref11_LinkR)) = some (if okI x n6 N = true then .inl (.h3m1 [mv 0 x] 1 0 1) else .inr (.r0 110)) := fun h => by rw [h]; rfl
  have G : ∀ b c, okI x n6 N = true → mv 0 x = ⟨x.a0, b, c, x.a3⟩ → (some (.inl (.h3m1 [⟨x.a0, b, c, x.a3⟩] 1 0 1)) : Option (ref11_LinkX ⊕ ref11_LinkR)) = some (if okI x n6 N = true then .inl (.h3m1 [mv 0 x] 1 0 1) else .inr (.r0 110)) := fun b c h e => by rw [if_pos h, e]
  unfold okI at E G

  obtain ⟨-, hi⟩ := fb_is x hN
  by_cases he : fb x N = true
  · refine bind_to hi (ite_no (fun h => h he) ?_)
    by_cases h8 : x.a0 = 8
    · refine bind_to (a := .r0 x.a1 true) (by unfold ref10_Target; rw [if_pos h8]) (ite_yes rfl ?_)
      by_cases ht : (n6 : Int) < x.a1
      · exact ite_yes ht (E (decide_eq_false fun h => by have := h.2.1 h8; omega))
      · refine ite_no ht (bind_to (a := .r0 (IntKind.i64.wrap (x.a1 + (0 : Int))) x.a2) (by unfold ref10_Aim; rw [if_pos h8]) ?_)
        exact G _ _ (decide_eq_true ⟨he, fun _ => by omega, fun h => by omega⟩) ((if_pos h8).trans (by rw [Int.add_comm]))
    · by_cases h9 : x.a0 = 9
      · refine bind_to (a := .r0 x.a2 true) (by unfold ref10_Target; rw [if_neg h8, if_pos h9]) (ite_yes rfl ?_)
        by_cases ht : (n6 : Int) < x.a2
        · exact ite_yes ht (E (decide_eq_false fun h => by have := h.2.2 h9; omega))
        · refine ite_no ht (bind_to (a := .r0 x.a1 (IntKind.i64.wrap (x.a2 + (0 : Int)))) (by unfold ref10_Aim; rw [if_neg h8, if_pos h9]) ?_)
          exact G _ _ (decide_eq_true ⟨he, fun h => by omega, fun h => by omega⟩) (((if_neg h8).trans (if_pos h9)).trans (by rw [Int.add_comm]))
      · refine bind_to (a := .r0 0 false) (by unfold ref10_Target; rw [if_neg h8, if_neg h9]) (ite_no (by decide) ?_)
        exact G _ _ (decide_eq_true ⟨he, fun h => absurd h h8, fun h => absurd h h9⟩) ((if_neg h8).trans (if_neg h9))
  · exact bind_to hi (ite_yes he (E (decide_eq_false fun h => he h.1)))

theorem ref11_Link_N1_no (h0 : n6 = 0) : ref11_LinkStep L1 n2 n3 L5 n6 n7 L9 n10 n11 N (.h3m0 1) = some (.inl (.h2m0 2)) := by
  show ref11_Link_h3m0 L1 n2 n3 L5 n6 n7 L9 n10 n11 N 1 = _
  unfold ref11_Link_h3m0

  exact ite_no (by decide) (ite_yes rfl (ite_no (by omega) rfl))

theorem ref11_Link_C1_go (hN : 4 ≤ N) (hl : n6 ≤ L5.length) (h5 : n6 ≤ 520) (k : Nat) (v : List R_iiii) (j : Nat) (hj : j < n6) (hv : v.length ≤ 2000) : ref11_LinkStep L1 n2 n3 L5 n6 n7 L9 n10 n11 N (.h3m1 v 1 k j) = some (if okI (L5.getD j R_iiii.z) n6 N = true then .inl (.h3m1 (v ++ [mv k (L5.getD j R_iiii.z)]) 1 k (j + 1)) else .inr (.r0 110)) := by
  show ref11_Link_h3m1 L1 n2 n3 L5 n6 n7 L9 n10 n11 N v 1 k j = _
  unfold ref11_Link_h3m1

  refine ite_no (by decide) (ite_yes rfl (ite_yes (by omega) (ite_yes (by omega) ?_)))

  generalize (L5.getD j R_iiii.z) = x
  have E : okI x n6 N = false → (some (Sum.inr (.r0 110)) : Option (ref11_LinkX ⊕ ref11_LinkR)) = some (if okI x n6 N = true then .inl (.h3m1 (v ++ [mv k x]) 1 k (j + 1)) else .inr (.r0 110)) := fun h => by rw [h]; rfl
  have G : ∀ b c, okI x n6 N = true → mv k x = ⟨x.a0, b, c, x.a3⟩ → (if v.length ≤ 100000 then if (((j + 1) : Nat) : Int) ≤ (9223372036854775807 : Int) then some (.inl (.h3m1 (v ++ [⟨x.a0, b, c, x.a3⟩]) 1 k (j + 1)) : ref11_LinkX ⊕ ref11_LinkR) else none else none) = some (if okI x n6 N = true then .inl (.h3m1 (v ++ [mv k x]) 1 k (j + 1)) else .inr (.r0 110)) := fun b c h e => by
    rw [if_pos h, e]
    exact ite_yes (by omega) (ite_yes (by omega) rfl)
  unfold okI at E G

  obtain ⟨-, hi⟩ := fb_is x hN
  by_cases he : fb x N = true
  · refine bind_to hi (ite_no (fun h => h he) ?_)
    by_cases h8 : x.a0 = 8
    · refine bind_to (a := .r0 x.a1 true) (by unfold ref10_Target; rw [if_pos h8]) (ite_yes rfl ?_)
      by_cases ht : (n6 : Int) < x.a1
      · exact ite_yes ht (E (decide_eq_false fun h => by have := h.2.1 h8; omega))
      · refine ite_no ht (bind_to (a := .r0 (IntKind.i64.wrap (x.a1 + k)) x.a2) (by unfold ref10_Aim; rw [if_pos h8]) ?_)
        exact G _ _ (decide_eq_true ⟨he, fun _ => by omega, fun h => by omega⟩) ((if_pos h8).trans (by rw [Int.add_comm]))
    · by_cases h9 : x.a0 = 9
      · refine bind_to (a := .r0 x.a2 true) (by unfold ref10_Target; rw [if_neg h8, if_pos h9]) (ite_yes rfl ?_)
        by_cases ht : (n6 : Int) < x.a2
        · exact ite_yes ht (E (decide_eq_false fun h => by have := h.2.2 h9; omega))
        · refine ite_no ht (bind_to (a := .r0 x.a1 (IntKind.i64.wrap (x.a2 + k))) (by unfold ref10_Aim; rw [if_neg h8, if_pos h9]) ?_)
          exact G _ _ (decide_eq_true ⟨he, fun h => by omega, fun h => by omega⟩) (((if_neg h8).trans (if_pos h9)).trans (by rw [Int.add_comm]))
      · refine bind_to (a := .r0 0 false) (by unfold ref10_Target; rw [if_neg h8, if_neg h9]) (ite_no (by decide) ?_)
        exact G _ _ (decide_eq_true ⟨he, fun h => absurd h h8, fun h => absurd h h9⟩) ((if_neg h8).trans (if_neg h9))
  · exact bind_to hi (ite_yes he (E (decide_eq_false fun h => he h.1)))

theorem ref11_Link_C1_no (k : Nat) (v : List R_iiii) : ref11_LinkStep L1 n2 n3 L5 n6 n7 L9 n10 n11 N (.h3m1 v 1 k n6) = some (.inl (.h2m1 v 2)) := by
  show ref11_Link_h3m1 L1 n2 n3 L5 n6 n7 L9 n10 n11 N v 1 k n6 = _
  unfold ref11_Link_h3m1

  exact ite_no (by decide) (ite_yes rfl (ite_no (by omega) rfl))

theorem ref11_Link_N2_go (hN : 4 ≤ N) (hl : n10 ≤ L9.length) (h0 : 0 < n10) : ref11_LinkStep L1 n2 n3 L5 n6 n7 L9 n10 n11 N (.h3m0 2) = some (if okI (L9.getD 0 R_iiii.z) n10 N = true then .inl (.h3m1 [mv 0 (L9.getD 0 R_iiii.z)] 2 0 1) else .inr (.r0 110)) := by
  show ref11_Link_h3m0 L1 n2 n3 L5 n6 n7 L9 n10 n11 N 2 = _
  unfold ref11_Link_h3m0

  refine ite_no (by decide) (ite_no (by decide) (ite_yes rfl (ite_yes (by omega) (ite_yes (by omega) ?_))))

  generalize (L9.getD 0 R_iiii.z) = x
  have E : okI x n10 N = false → (some (Sum.inr (.r0 110)) : Option (ref11_LinkX ⊕ ref11_LinkR)) = some (if okI x n10 N = true then .inl (.h3m1 [mv 0 x] 2 0 1) else .inr (.r0 110)) := fun h => by rw [h]; rfl
  have G : ∀ b c, okI x n10 N = true → mv 0 x = ⟨x.a0, b, c, x.a3⟩ → (some (.inl (.h3m1 [⟨x.a0, b, c, x.a3⟩] 2 0 1)) : Option (ref11_LinkX ⊕ ref11_LinkR)) = some (if okI x n10 N = true then .inl (.h3m1 [mv 0 x] 2 0 1) else .inr (.r0 110)) := fun b c h e => by rw [if_pos h, e]
  unfold okI at E G

  obtain ⟨-, hi⟩ := fb_is x hN
  by_cases he : fb x N = true
  · refine bind_to hi (ite_no (fun h => h he) ?_)
    by_cases h8 : x.a0 = 8
    · refine bind_to (a := .r0 x.a1 true) (by unfold ref10_Target; rw [if_pos h8]) (ite_yes rfl ?_)
      by_cases ht : (n10 : Int) < x.a1
      · exact ite_yes ht (E (decide_eq_false fun h => by have := h.2.1 h8; omega))
      · refine ite_no ht (bind_to (a := .r0 (IntKind.i64.wrap (x.a1 + (0 : Int))) x.a2) (by unfold ref10_Aim; rw [if_pos h8]) ?_)
        exact G _ _ (decide_eq_true ⟨he, fun _ => by omega, fun h => by omega⟩) ((if_pos h8).trans (by rw [Int.add_comm]))
    · by_cases h9 : x.a0 = 9
      · refine bind_to (a := .r0 x.a2 true) (by unfold ref10_Target; rw [if_neg h8, if_pos h9]) (ite_yes rfl ?_)
        by_cases ht : (n10 : Int) < x.a2
        · exact ite_yes ht (E (decide_eq_false fun h => by have := h.2.2 h9; omega))
        · refine ite_no ht (bind_to (a := .r0 x.a1 (IntKind.i64.wrap (x.a2 + (0 : Int)))) (by unfold ref10_Aim; rw [if_neg h8, if_pos h9]) ?_)
          exact G _ _ (decide_eq_true ⟨he, fun h => by omega, fun h => by omega⟩) (((if_neg h8).trans (if_pos h9)).trans (by rw [Int.add_comm]))
      · refine bind_to (a := .r0 0 false) (by unfold ref10_Target; rw [if_neg h8, if_neg h9]) (ite_no (by decide) ?_)
        exact G _ _ (decide_eq_true ⟨he, fun h => absurd h h8, fun h => absurd h h9⟩) ((if_neg h8).trans (if_neg h9))
  · exact bind_to hi (ite_yes he (E (decide_eq_false fun h => he h.1)))

theorem ref11_Link_N2_no (h0 : n10 = 0) : ref11_LinkStep L1 n2 n3 L5 n6 n7 L9 n10 n11 N (.h3m0 2) = some (.inl (.h2m0 3)) := by
  show ref11_Link_h3m0 L1 n2 n3 L5 n6 n7 L9 n10 n11 N 2 = _
  unfold ref11_Link_h3m0

  exact ite_no (by decide) (ite_no (by decide) (ite_yes rfl (ite_no (by omega) rfl)))

theorem ref11_Link_C2_go (hN : 4 ≤ N) (hl : n10 ≤ L9.length) (h5 : n10 ≤ 520) (k : Nat) (v : List R_iiii) (j : Nat) (hj : j < n10) (hv : v.length ≤ 2000) : ref11_LinkStep L1 n2 n3 L5 n6 n7 L9 n10 n11 N (.h3m1 v 2 k j) = some (if okI (L9.getD j R_iiii.z) n10 N = true then .inl (.h3m1 (v ++ [mv k (L9.getD j R_iiii.z)]) 2 k (j + 1)) else .inr (.r0 110)) := by
  show ref11_Link_h3m1 L1 n2 n3 L5 n6 n7 L9 n10 n11 N v 2 k j = _
  unfold ref11_Link_h3m1

  refine ite_no (by decide) (ite_no (by decide) (ite_yes rfl (ite_yes (by omega) (ite_yes (by omega) ?_))))

  generalize (L9.getD j R_iiii.z) = x
  have E : okI x n10 N = false → (some (Sum.inr (.r0 110)) : Option (ref11_LinkX ⊕ ref11_LinkR)) = some (if okI x n10 N = true then .inl (.h3m1 (v ++ [mv k x]) 2 k (j + 1)) else .inr (.r0 110)) := fun h => by rw [h]; rfl
  have G : ∀ b c, okI x n10 N = true → mv k x = ⟨x.a0, b, c, x.a3⟩ → (if v.length ≤ 100000 then if (((j + 1) : Nat) : Int) ≤ (9223372036854775807 : Int) then some (.inl (.h3m1 (v ++ [⟨x.a0, b, c, x.a3⟩]) 2 k (j + 1)) : ref11_LinkX ⊕ ref11_LinkR) else none else none) = some (if okI x n10 N = true then .inl (.h3m1 (v ++ [mv k x]) 2 k (j + 1)) else .inr (.r0 110)) := fun b c h e => by
    rw [if_pos h, e]
    exact ite_yes (by omega) (ite_yes (by omega) rfl)
  unfold okI at E G

  obtain ⟨-, hi⟩ := fb_is x hN
  by_cases he : fb x N = true
  · refine bind_to hi (ite_no (fun h => h he) ?_)
    by_cases h8 : x.a0 = 8
    · refine bind_to (a := .r0 x.a1 true) (by unfold ref10_Target; rw [if_pos h8]) (ite_yes rfl ?_)
      by_cases ht : (n10 : Int) < x.a1
      · exact ite_yes ht (E (decide_eq_false fun h => by have := h.2.1 h8; omega))
      · refine ite_no ht (bind_to (a := .r0 (IntKind.i64.wrap (x.a1 + k)) x.a2) (by unfold ref10_Aim; rw [if_pos h8]) ?_)
        exact G _ _ (decide_eq_true ⟨he, fun _ => by omega, fun h => by omega⟩) ((if_pos h8).trans (by rw [Int.add_comm]))
    · by_cases h9 : x.a0 = 9
      · refine bind_to (a := .r0 x.a2 true) (by unfold ref10_Target; rw [if_neg h8, if_pos h9]) (ite_yes rfl ?_)
        by_cases ht : (n10 : Int) < x.a2
        · exact ite_yes ht (E (decide_eq_false fun h => by have := h.2.2 h9; omega))
        · refine ite_no ht (bind_to (a := .r0 x.a1 (IntKind.i64.wrap (x.a2 + k))) (by unfold ref10_Aim; rw [if_neg h8, if_pos h9]) ?_)
          exact G _ _ (decide_eq_true ⟨he, fun h => by omega, fun h => by omega⟩) (((if_neg h8).trans (if_pos h9)).trans (by rw [Int.add_comm]))
      · refine bind_to (a := .r0 0 false) (by unfold ref10_Target; rw [if_neg h8, if_neg h9]) (ite_no (by decide) ?_)
        exact G _ _ (decide_eq_true ⟨he, fun h => absurd h h8, fun h => absurd h h9⟩) ((if_neg h8).trans (if_neg h9))
  · exact bind_to hi (ite_yes he (E (decide_eq_false fun h => he h.1)))

theorem ref11_Link_C2_no (k : Nat) (v : List R_iiii) : ref11_LinkStep L1 n2 n3 L5 n6 n7 L9 n10 n11 N (.h3m1 v 2 k n10) = some (.inl (.h2m1 v 3)) := by
  show ref11_Link_h3m1 L1 n2 n3 L5 n6 n7 L9 n10 n11 N v 2 k n10 = _
  unfold ref11_Link_h3m1

  exact ite_no (by decide) (ite_no (by decide) (ite_yes rfl (ite_no (by omega) rfl)))

end
end Ev
end Go.Proofs.Ytahjcmhiifkniaa
