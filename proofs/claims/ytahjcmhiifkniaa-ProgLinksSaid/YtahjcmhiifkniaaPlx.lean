/- Link: what comes of it. -/
import Derived.Test.YtahjcmhiifkniaaPlw
namespace Go.Proofs.Ytahjcmhiifkniaa
open Go.RowKit
namespace Ev
set_option linter.unusedVariables false
set_option linter.unusedSimpArgs false

section
variable {L1 L5 L9 : List R_iiii} {n2 n3 n6 n7 n10 n11 N : Nat}

theorem prog_Link_a0 (ha : n2 ≤ 520) : prog_LinkStep L1 n2 n3 L5 n6 n7 L9 n10 n11 N (.h1m0 0 0) = some (.inl (.h1m0 (0 + n2) 1)) := by
  show prog_Link_h1m0 L1 n2 n3 L5 n6 n7 L9 n10 n11 N 0 0 = _
  unfold prog_Link_h1m0
  exact ite_yes (by omega) (ite_yes rfl (ite_yes (by omega) rfl))

theorem prog_Link_a1 (m : Nat) (hm : m ≤ 2000) (hb : n6 ≤ 520) : prog_LinkStep L1 n2 n3 L5 n6 n7 L9 n10 n11 N (.h1m0 m 1) = some (.inl (.h1m0 (m + n6) 2)) := by
  show prog_Link_h1m0 L1 n2 n3 L5 n6 n7 L9 n10 n11 N m 1 = _
  unfold prog_Link_h1m0
  exact ite_yes (by omega) (ite_no (by decide) (ite_yes rfl (ite_yes (by omega) rfl)))

theorem prog_Link_a2 (m : Nat) (hm : m ≤ 2000) (hb : n10 ≤ 520) : prog_LinkStep L1 n2 n3 L5 n6 n7 L9 n10 n11 N (.h1m0 m 2) = some (.inl (.h1m0 (m + n10) 3)) := by
  show prog_Link_h1m0 L1 n2 n3 L5 n6 n7 L9 n10 n11 N m 2 = _
  unfold prog_Link_h1m0
  exact ite_yes (by omega) (ite_no (by decide) (ite_no (by decide) (ite_yes (by omega) rfl)))

theorem prog_Link_a3 (m : Nat) (hm : 512 < m) : prog_LinkStep L1 n2 n3 L5 n6 n7 L9 n10 n11 N (.h1m0 m 3) = some (.inr (.r0 3)) := by
  show prog_Link_h1m0 L1 n2 n3 L5 n6 n7 L9 n10 n11 N m 3 = _
  unfold prog_Link_h1m0
  exact ite_no (by omega) (ite_yes (by omega) rfl)

theorem prog_Link_a4 (m : Nat) (hm : ¬ 512 < m) : prog_LinkStep L1 n2 n3 L5 n6 n7 L9 n10 n11 N (.h1m0 m 3) = some (.inl (.h2m0 0)) := by
  show prog_Link_h1m0 L1 n2 n3 L5 n6 n7 L9 n10 n11 N m 3 = _
  unfold prog_Link_h1m0
  exact ite_no (by omega) (ite_no (by omega) rfl)

theorem prog_Link_b0 : prog_LinkStep L1 n2 n3 L5 n6 n7 L9 n10 n11 N (.h2m0 0) = some (.inl (.h3m0 0)) := by
  show prog_Link_h2m0 L1 n2 n3 L5 n6 n7 L9 n10 n11 N 0 = _
  unfold prog_Link_h2m0
  exact ite_yes (by omega) (ite_yes rfl rfl)

theorem prog_Link_b1 : prog_LinkStep L1 n2 n3 L5 n6 n7 L9 n10 n11 N (.h2m0 1) = some (.inl (.h3m2 1)) := by
  show prog_Link_h2m0 L1 n2 n3 L5 n6 n7 L9 n10 n11 N 1 = _
  unfold prog_Link_h2m0
  exact ite_yes (by omega) (ite_no (by decide) (ite_yes rfl rfl))

theorem prog_Link_b2 : prog_LinkStep L1 n2 n3 L5 n6 n7 L9 n10 n11 N (.h2m0 2) = some (.inl (.h3m3 2)) := by
  show prog_Link_h2m0 L1 n2 n3 L5 n6 n7 L9 n10 n11 N 2 = _
  unfold prog_Link_h2m0
  exact ite_yes (by omega) (ite_no (by decide) (ite_no (by decide) rfl))

theorem prog_Link_b3 : prog_LinkStep L1 n2 n3 L5 n6 n7 L9 n10 n11 N (.h2m0 3) = some (.inr (.r0 0)) := by
  show prog_Link_h2m0 L1 n2 n3 L5 n6 n7 L9 n10 n11 N 3 = _
  unfold prog_Link_h2m0
  exact ite_no (by omega) rfl

theorem prog_Link_c1 (v : List R_iiii) : prog_LinkStep L1 n2 n3 L5 n6 n7 L9 n10 n11 N (.h2m1 v 1) = some (.inl (.h3m4 v v.length 1 0)) := by
  show prog_Link_h2m1 L1 n2 n3 L5 n6 n7 L9 n10 n11 N v 1 = _
  unfold prog_Link_h2m1
  exact ite_yes (by omega) (ite_no (by decide) (ite_yes rfl rfl))

theorem prog_Link_c2 (v : List R_iiii) : prog_LinkStep L1 n2 n3 L5 n6 n7 L9 n10 n11 N (.h2m1 v 2) = some (.inl (.h3m5 v v.length 2 0)) := by
  show prog_Link_h2m1 L1 n2 n3 L5 n6 n7 L9 n10 n11 N v 2 = _
  unfold prog_Link_h2m1
  exact ite_yes (by omega) (ite_no (by decide) (ite_no (by decide) rfl))

theorem prog_Link_c3 (v : List R_iiii) : prog_LinkStep L1 n2 n3 L5 n6 n7 L9 n10 n11 N (.h2m1 v 3) = some (.inr (.r1 v)) := by
  show prog_Link_h2m1 L1 n2 n3 L5 n6 n7 L9 n10 n11 N v 3 = _
  unfold prog_Link_h2m1
  exact ite_no (by omega) rfl

theorem ref11_Link_a0 (m : Nat) (hm : m + n2 ≤ 512) : ref11_LinkStep L1 n2 n3 L5 n6 n7 L9 n10 n11 N (.h1m0 m 0) = some (.inl (.h1m0 (m + n2) 1)) := by
  show ref11_Link_h1m0 L1 n2 n3 L5 n6 n7 L9 n10 n11 N m 0 = _
  unfold ref11_Link_h1m0
  exact ite_yes (by omega) (ite_yes rfl (ite_yes (by omega) (ite_no (by omega) rfl)))

theorem ref11_Link_e0 (m : Nat) (hm : 512 < m + n2) (hb : m + n2 ≤ 5000) : ref11_LinkStep L1 n2 n3 L5 n6 n7 L9 n10 n11 N (.h1m0 m 0) = some (.inr (.r0 3)) := by
  show ref11_Link_h1m0 L1 n2 n3 L5 n6 n7 L9 n10 n11 N m 0 = _
  unfold ref11_Link_h1m0
  exact ite_yes (by omega) (ite_yes rfl (ite_yes (by omega) (ite_yes (by omega) rfl)))

theorem ref11_Link_a1 (m : Nat) (hm : m + n6 ≤ 512) : ref11_LinkStep L1 n2 n3 L5 n6 n7 L9 n10 n11 N (.h1m0 m 1) = some (.inl (.h1m0 (m + n6) 2)) := by
  show ref11_Link_h1m0 L1 n2 n3 L5 n6 n7 L9 n10 n11 N m 1 = _
  unfold ref11_Link_h1m0
  exact ite_yes (by omega) (ite_no (by decide) (ite_yes rfl (ite_yes (by omega) (ite_no (by omega) rfl))))

theorem ref11_Link_e1 (m : Nat) (hm : 512 < m + n6) (hb : m + n6 ≤ 5000) : ref11_LinkStep L1 n2 n3 L5 n6 n7 L9 n10 n11 N (.h1m0 m 1) = some (.inr (.r0 3)) := by
  show ref11_Link_h1m0 L1 n2 n3 L5 n6 n7 L9 n10 n11 N m 1 = _
  unfold ref11_Link_h1m0
  exact ite_yes (by omega) (ite_no (by decide) (ite_yes rfl (ite_yes (by omega) (ite_yes (by omega) rfl))))

theorem ref11_Link_a2 (m : Nat) (hm : m + n10 ≤ 512) : ref11_LinkStep L1 n2 n3 L5 n6 n7 L9 n10 n11 N (.h1m0 m 2) = some (.inl (.h1m0 (m + n10) 3)) := by
  show ref11_Link_h1m0 L1 n2 n3 L5 n6 n7 L9 n10 n11 N m 2 = _
  unfold ref11_Link_h1m0
  exact ite_yes (by omega) (ite_no (by decide) (ite_no (by decide) (ite_yes (by omega) (ite_no (by omega) rfl))))

theorem ref11_Link_e2 (m : Nat) (hm : 512 < m + n10) (hb : m + n10 ≤ 5000) : ref11_LinkStep L1 n2 n3 L5 n6 n7 L9 n10 n11 N (.h1m0 m 2) = some (.inr (.r0 3)) := by
  show ref11_Link_h1m0 L1 n2 n3 L5 n6 n7 L9 n10 n11 N m 2 = _
  unfold ref11_Link_h1m0
  exact ite_yes (by omega) (ite_no (by decide) (ite_no (by decide) (ite_yes (by omega) (ite_yes (by omega) rfl))))

theorem ref11_Link_a3 (m : Nat) : ref11_LinkStep L1 n2 n3 L5 n6 n7 L9 n10 n11 N (.h1m0 m 3) = some (.inl (.h2m0 0)) := by
  show ref11_Link_h1m0 L1 n2 n3 L5 n6 n7 L9 n10 n11 N m 3 = _
  unfold ref11_Link_h1m0
  exact ite_no (by omega) rfl

theorem ref11_Link_b0 : ref11_LinkStep L1 n2 n3 L5 n6 n7 L9 n10 n11 N (.h2m0 0) = some (.inl (.h3m0 0)) := by
  show ref11_Link_h2m0 L1 n2 n3 L5 n6 n7 L9 n10 n11 N 0 = _
  unfold ref11_Link_h2m0
  exact ite_yes (by omega) rfl

theorem ref11_Link_b1 : ref11_LinkStep L1 n2 n3 L5 n6 n7 L9 n10 n11 N (.h2m0 1) = some (.inl (.h3m0 1)) := by
  show ref11_Link_h2m0 L1 n2 n3 L5 n6 n7 L9 n10 n11 N 1 = _
  unfold ref11_Link_h2m0
  exact ite_yes (by omega) rfl

theorem ref11_Link_b2 : ref11_LinkStep L1 n2 n3 L5 n6 n7 L9 n10 n11 N (.h2m0 2) = some (.inl (.h3m0 2)) := by
  show ref11_Link_h2m0 L1 n2 n3 L5 n6 n7 L9 n10 n11 N 2 = _
  unfold ref11_Link_h2m0
  exact ite_yes (by omega) rfl

theorem ref11_Link_b3 : ref11_LinkStep L1 n2 n3 L5 n6 n7 L9 n10 n11 N (.h2m0 3) = some (.inr (.r0 0)) := by
  show ref11_Link_h2m0 L1 n2 n3 L5 n6 n7 L9 n10 n11 N 3 = _
  unfold ref11_Link_h2m0
  exact ite_no (by omega) rfl

theorem ref11_Link_c1 (v : List R_iiii) : ref11_LinkStep L1 n2 n3 L5 n6 n7 L9 n10 n11 N (.h2m1 v 1) = some (.inl (.h3m1 v 1 v.length 0)) := by
  show ref11_Link_h2m1 L1 n2 n3 L5 n6 n7 L9 n10 n11 N v 1 = _
  unfold ref11_Link_h2m1
  exact ite_yes (by omega) rfl

theorem ref11_Link_c2 (v : List R_iiii) : ref11_LinkStep L1 n2 n3 L5 n6 n7 L9 n10 n11 N (.h2m1 v 2) = some (.inl (.h3m1 v 2 v.length 0)) := by
  show ref11_Link_h2m1 L1 n2 n3 L5 n6 n7 L9 n10 n11 N v 2 = _
  unfold ref11_Link_h2m1
  exact ite_yes (by omega) rfl

theorem ref11_Link_c3 (v : List R_iiii) : ref11_LinkStep L1 n2 n3 L5 n6 n7 L9 n10 n11 N (.h2m1 v 3) = some (.inr (.r1 v)) := by
  show ref11_Link_h2m1 L1 n2 n3 L5 n6 n7 L9 n10 n11 N v 3 = _
  unfold ref11_Link_h2m1
  exact ite_no (by omega) rfl

theorem prog_Link_out {Q : Option prog_LinkR → Prop} (h1 : n2 ≤ L1.length) (h5 : n6 ≤ L5.length) (h9 : n10 ≤ L9.length) (ha : n2 ≤ 520) (hb : n6 ≤ 520) (hc : n10 ≤ 520) (hN : 3000 ≤ N)
    (q3 : 512 < n2 + n6 + n10 → Q (some (.r0 3))) (qb : ¬ 512 < n2 + n6 + n10 → ¬ (ok1 L1 n2 N ∧ ok1 L5 n6 N ∧ ok1 L9 n10 N) → Q (some (.r0 110)))
    (q0 : ¬ 512 < n2 + n6 + n10 → (ok1 L1 n2 N ∧ ok1 L5 n6 N ∧ ok1 L9 n10 N) → n2 = 0 → n6 = 0 → n10 = 0 → Q (some (.r0 0)))
    (q1 : ¬ 512 < n2 + n6 + n10 → (ok1 L1 n2 N ∧ ok1 L5 n6 N ∧ ok1 L9 n10 N) → 0 < n2 + n6 + n10 → Q (some (.r1 (mvs L1 0 n2 0 ++ mvs L5 n2 n6 0 ++ mvs L9 (n2 + n6 : Nat) n10 0)))) : Q (prog_Link L1 n2 n3 L5 n6 n7 L9 n10 n11 N) := by
  show Q (iter (prog_LinkStep L1 n2 n3 L5 n6 n7 L9 n10 n11 N) N (.h1m0 0 0))
  refine (?_ : Al (prog_LinkStep L1 n2 n3 L5 n6 n7 L9 n10 n11 N) Q 3000 (.h1m0 0 0)) N hN
  have z : ((0 : Nat) : Int) = 0 := rfl

  refine al_next (prog_Link_a0 ha) (al_next (prog_Link_a1 (0 + n2) (by omega) hb) (al_next (prog_Link_a2 (0 + n2 + n6) (by omega) hc) ?_))
  by_cases hm : 512 < n2 + n6 + n10
  · exact al_done (prog_Link_a3 _ (by omega)) (q3 hm)
  refine al_next (prog_Link_a4 _ (by omega)) (al_next prog_Link_b0 ?_)

  refine al_up (c := 2470 + 525) (by omega) (part_nil (prog_LinkX.h3m0 0) (prog_LinkX.h2m0 1) (fun v j => prog_LinkX.h3m1 v (0) 0 j) (fun v => prog_LinkX.h2m1 v 1) (.r0 110) L1 n2 N (c := 2470) (fun h => prog_Link_N0_no h) (fun h => prog_Link_N0_go (by omega) h1 h) (fun v j hj hv => prog_Link_C0_go (by omega) h1 ha 0 v j hj hv) (fun v => prog_Link_C0_no 0 v) ha (fun h => qb hm fun a => h a.1) (fun e1 a1 => ?_) fun g1 a1 => ?_)
  · refine al_next prog_Link_b1 (al_up (c := 1900 + 525) (by omega) (part_nil (prog_LinkX.h3m2 1) (prog_LinkX.h2m0 2) (fun v j => prog_LinkX.h3m4 v (0) 1 j) (fun v => prog_LinkX.h2m1 v 2) (.r0 110) L5 n6 N (c := 1900) (fun h => prog_Link_N1_no h) (fun h => prog_Link_N1_go (by omega) h5 h) (fun v j hj hv => prog_Link_C1_go (by omega) h5 hb 0 v j hj hv) (fun v => prog_Link_C1_no 0 v) hb (fun h => qb hm fun a => h a.2.1) (fun e2 a2 => ?_) fun g2 a2 => ?_))
    · refine al_next prog_Link_b2 (al_up (c := 1300 + 525) (by omega) (part_nil (prog_LinkX.h3m3 2) (prog_LinkX.h2m0 3) (fun v j => prog_LinkX.h3m5 v (0) 2 j) (fun v => prog_LinkX.h2m1 v 3) (.r0 110) L9 n10 N (c := 1300) (fun h => prog_Link_N2_no h) (fun h => prog_Link_N2_go (by omega) h9 h) (fun v j hj hv => prog_Link_C2_go (by omega) h9 hc 0 v j hj hv) (fun v => prog_Link_C2_no 0 v) hc (fun h => qb hm fun a => h a.2.2) (fun e3 a3 => ?_) fun g3 a3 => ?_))
      · exact al_done prog_Link_b3 (q0 hm ⟨a1, a2, a3⟩ e1 e2 e3)
      · refine al_done (prog_Link_c3 _) ?_
        have := q1 hm ⟨a1, a2, a3⟩ (by omega)
        subst e1 e2
        exact this
    · refine al_next (prog_Link_c2 _) ?_
      rw [mvs_len]
      refine al_up (c := 1300 + 525) (by omega) (part_list (fun v j => prog_LinkX.h3m5 v (n6) 2 j) (fun v => prog_LinkX.h2m1 v 3) (.r0 110) L9 n10 N (n6 : Nat) _ (by simp only [List.length_append, mvs_len]; omega) (c := 1300) (fun v j hj hv => prog_Link_C2_go (by omega) h9 hc (n6) v j hj hv) (fun v => prog_Link_C2_no (n6) v) hc (fun h => qb hm fun a => h a.2.2) fun a3 => ?_)
      refine al_done (prog_Link_c3 _) ?_
      have := q1 hm ⟨a1, a2, a3⟩ (by omega)
      subst e1
      rw [Nat.zero_add] at this
      exact this
  · refine al_next (prog_Link_c1 _) ?_
    rw [mvs_len]
    refine al_up (c := 1900 + 525) (by omega) (part_list (fun v j => prog_LinkX.h3m4 v (n2) 1 j) (fun v => prog_LinkX.h2m1 v 2) (.r0 110) L5 n6 N (n2 : Nat) _ (by simp only [List.length_append, mvs_len]; omega) (c := 1900) (fun v j hj hv => prog_Link_C1_go (by omega) h5 hb (n2) v j hj hv) (fun v => prog_Link_C1_no (n2) v) hb (fun h => qb hm fun a => h a.2.1) fun a2 => ?_)
    refine al_next (prog_Link_c2 _) ?_
    rw [List.length_append, mvs_len, mvs_len]
    refine al_up (c := 1300 + 525) (by omega) (part_list (fun v j => prog_LinkX.h3m5 v (n2 + n6) 2 j) (fun v => prog_LinkX.h2m1 v 3) (.r0 110) L9 n10 N (n2 + n6 : Nat) _ (by simp only [List.length_append, mvs_len]; omega) (c := 1300) (fun v j hj hv => prog_Link_C2_go (by omega) h9 hc (n2 + n6) v j hj hv) (fun v => prog_Link_C2_no (n2 + n6) v) hc (fun h => qb hm fun a => h a.2.2) fun a3 => ?_)
    exact al_done (prog_Link_c3 _) (q1 hm ⟨a1, a2, a3⟩ (by omega))

theorem ref11_Link_out {Q : Option ref11_LinkR → Prop} (h1 : n2 ≤ L1.length) (h5 : n6 ≤ L5.length) (h9 : n10 ≤ L9.length) (ha : n2 ≤ 520) (hb : n6 ≤ 520) (hc : n10 ≤ 520) (hN : 3000 ≤ N)
    (q3 : 512 < n2 + n6 + n10 → Q (some (.r0 3))) (qb : ¬ 512 < n2 + n6 + n10 → ¬ (ok1 L1 n2 N ∧ ok1 L5 n6 N ∧ ok1 L9 n10 N) → Q (some (.r0 110)))
    (q0 : ¬ 512 < n2 + n6 + n10 → (ok1 L1 n2 N ∧ ok1 L5 n6 N ∧ ok1 L9 n10 N) → n2 = 0 → n6 = 0 → n10 = 0 → Q (some (.r0 0)))
    (q1 : ¬ 512 < n2 + n6 + n10 → (ok1 L1 n2 N ∧ ok1 L5 n6 N ∧ ok1 L9 n10 N) → 0 < n2 + n6 + n10 → Q (some (.r1 (mvs L1 0 n2 0 ++ mvs L5 n2 n6 0 ++ mvs L9 (n2 + n6 : Nat) n10 0)))) : Q (ref11_Link L1 n2 n3 L5 n6 n7 L9 n10 n11 N) := by
  show Q (iter (ref11_LinkStep L1 n2 n3 L5 n6 n7 L9 n10 n11 N) N (.h1m0 0 0))
  refine (?_ : Al (ref11_LinkStep L1 n2 n3 L5 n6 n7 L9 n10 n11 N) Q 3000 (.h1m0 0 0)) N hN
  have z : ((0 : Nat) : Int) = 0 := rfl

  by_cases hm : 512 < n2 + n6 + n10
  · by_cases m1 : 512 < 0 + n2
    · exact al_done (ref11_Link_e0 0 m1 (by omega)) (q3 hm)
    · refine al_next (ref11_Link_a0 0 (by omega)) ?_
      by_cases m2 : 512 < 0 + n2 + n6
      · exact al_done (ref11_Link_e1 _ m2 (by omega)) (q3 hm)
      · exact al_next (ref11_Link_a1 _ (by omega)) (al_done (ref11_Link_e2 _ (by omega) (by omega)) (q3 hm))
  refine al_next (ref11_Link_a0 0 (by omega)) (al_next (ref11_Link_a1 _ (by omega)) (al_next (ref11_Link_a2 _ (by omega)) (al_next (ref11_Link_a3 _) (al_next ref11_Link_b0 ?_))))

  refine al_up (c := 2470 + 525) (by omega) (part_nil (ref11_LinkX.h3m0 0) (ref11_LinkX.h2m0 1) (fun v j => ref11_LinkX.h3m1 v 0 (0) j) (fun v => ref11_LinkX.h2m1 v 1) (.r0 110) L1 n2 N (c := 2470) (fun h => ref11_Link_N0_no h) (fun h => ref11_Link_N0_go (by omega) h1 h) (fun v j hj hv => ref11_Link_C0_go (by omega) h1 ha 0 v j hj hv) (fun v => ref11_Link_C0_no 0 v) ha (fun h => qb hm fun a => h a.1) (fun e1 a1 => ?_) fun g1 a1 => ?_)
  · refine al_next ref11_Link_b1 (al_up (c := 1900 + 525) (by omega) (part_nil (ref11_LinkX.h3m0 1) (ref11_LinkX.h2m0 2) (fun v j => ref11_LinkX.h3m1 v 1 (0) j) (fun v => ref11_LinkX.h2m1 v 2) (.r0 110) L5 n6 N (c := 1900) (fun h => ref11_Link_N1_no h) (fun h => ref11_Link_N1_go (by omega) h5 h) (fun v j hj hv => ref11_Link_C1_go (by omega) h5 hb 0 v j hj hv) (fun v => ref11_Link_C1_no 0 v) hb (fun h => qb hm fun a => h a.2.1) (fun e2 a2 => ?_) fun g2 a2 => ?_))
    · refine al_next ref11_Link_b2 (al_up (c := 1300 + 525) (by omega) (part_nil (ref11_LinkX.h3m0 2) (ref11_LinkX.h2m0 3) (fun v j => ref11_LinkX.h3m1 v 2 (0) j) (fun v => ref11_LinkX.h2m1 v 3) (.r0 110) L9 n10 N (c := 1300) (fun h => ref11_Link_N2_no h) (fun h => ref11_Link_N2_go (by omega) h9 h) (fun v j hj hv => ref11_Link_C2_go (by omega) h9 hc 0 v j hj hv) (fun v => ref11_Link_C2_no 0 v) hc (fun h => qb hm fun a => h a.2.2) (fun e3 a3 => ?_) fun g3 a3 => ?_))
      · exact al_done ref11_Link_b3 (q0 hm ⟨a1, a2, a3⟩ e1 e2 e3)
      · refine al_done (ref11_Link_c3 _) ?_
        have := q1 hm ⟨a1, a2, a3⟩ (by omega)
        subst e1 e2
        exact this
    · refine al_next (ref11_Link_c2 _) ?_
      rw [mvs_len]
      refine al_up (c := 1300 + 525) (by omega) (part_list (fun v j => ref11_LinkX.h3m1 v 2 (n6) j) (fun v => ref11_LinkX.h2m1 v 3) (.r0 110) L9 n10 N (n6 : Nat) _ (by simp only [List.length_append, mvs_len]; omega) (c := 1300) (fun v j hj hv => ref11_Link_C2_go (by omega) h9 hc (n6) v j hj hv) (fun v => ref11_Link_C2_no (n6) v) hc (fun h => qb hm fun a => h a.2.2) fun a3 => ?_)
      refine al_done (ref11_Link_c3 _) ?_
      have := q1 hm ⟨a1, a2, a3⟩ (by omega)
      subst e1
      rw [Nat.zero_add] at this
      exact this
  · refine al_next (ref11_Link_c1 _) ?_
    rw [mvs_len]
    refine al_up (c := 1900 + 525) (by omega) (part_list (fun v j => ref11_LinkX.h3m1 v 1 (n2) j) (fun v => ref11_LinkX.h2m1 v 2) (.r0 110) L5 n6 N (n2 : Nat) _ (by simp only [List.length_append, mvs_len]; omega) (c := 1900) (fun v j hj hv => ref11_Link_C1_go (by omega) h5 hb (n2) v j hj hv) (fun v => ref11_Link_C1_no (n2) v) hb (fun h => qb hm fun a => h a.2.1) fun a2 => ?_)
    refine al_next (ref11_Link_c2 _) ?_
    rw [List.length_append, mvs_len, mvs_len]
    refine al_up (c := 1300 + 525) (by omega) (part_list (fun v j => ref11_LinkX.h3m1 v 2 (n2 + n6) j) (fun v => ref11_LinkX.h2m1 v 3) (.r0 110) L9 n10 N (n2 + n6 : Nat) _ (by simp only [List.length_append, mvs_len]; omega) (c := 1300) (fun v j hj hv => ref11_Link_C2_go (by omega) h9 hc (n2 + n6) v j hj hv) (fun v => ref11_Link_C2_no (n2 + n6) v) hc (fun h => qb hm fun a => h a.2.2) fun a3 => ?_)
    exact al_done (ref11_Link_c3 _) (q1 hm ⟨a1, a2, a3⟩ (by omega))

end
end Ev
end Go.Proofs.Ytahjcmhiifkniaa
