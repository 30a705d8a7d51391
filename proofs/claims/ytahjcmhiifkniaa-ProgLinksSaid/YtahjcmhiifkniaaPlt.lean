/- ProgLinks: what the plain functions come to. -/
import Derived.Test.YtahjcmhiifkniaaPlx
namespace Go.Proofs.Ytahjcmhiifkniaa
open Go.RowKit
namespace Ev
set_option linter.unusedVariables false
set_option linter.unusedSimpArgs false
theorem few_is (n : Nat) : ∃ m : Nat, (if (520 : Int) < ((n : Nat) : Int) then (520 : Int) else ((n : Nat) : Int)) = (m : Int) ∧ m ≤ n ∧ m ≤ 520 := by
  by_cases h : (520 : Int) < (n : Int)
  · exact ⟨520, if_pos h, by omega, by omega⟩
  · exact ⟨n, if_neg h, by omega, by omega⟩
namespace Pl
theorem same_both {L M : List R_iiii} {n a m b N : Nat} (h1 : n ≤ L.length) (h2 : m ≤ M.length) (h5 : n ≤ 520) (hN : 2000 ≤ N) : ∃ q, prog_Same L n a M m b N = some (.r0 q) ∧ ref11_Same_2 L n a M m b N = some (.r0 q) := by
  unfold prog_Same ref11_Same_2
  by_cases he : n = m
  · subst he
    rw [goM_in (show prog_SameIn L n a M n b N = some (.inl (.h1m0 0)) by unfold prog_SameIn; exact ite_no (fun h => h rfl) rfl)]
    rw [goM_in (show ref11_Same_2In L n a M n b N = some (.inl (.h1m0 0)) by unfold ref11_Same_2In; exact ite_no (fun h => h rfl) rfl)]
    have loop : ∀ d j f, j + d = n → d < f → ∃ q, iter (prog_SameStep L n a M n b N) f (.h1m0 j) = some (.r0 q) ∧ iter (ref11_Same_2Step L n a M n b N) f (.h1m0 j) = some (.r0 q) := by
      intro d
      induction d with
      | zero =>
        intro j f hj hf
        obtain ⟨f, rfl⟩ : ∃ g, f = g + 1 := ⟨f - 1, by omega⟩
        refine ⟨true, iter_done ?_, iter_done ?_⟩
        · show prog_Same_h1m0 L n a M n b N j = _
          unfold prog_Same_h1m0
          exact ite_no (by omega) rfl
        · show ref11_Same_2_h1m0 L n a M n b N j = _
          unfold ref11_Same_2_h1m0
          exact ite_no (by omega) rfl
      | succ d ih =>
        intro j f hj hf
        obtain ⟨f, rfl⟩ : ∃ g, f = g + 1 := ⟨f - 1, by omega⟩
        by_cases hq : ((L.getD j R_iiii.z).a0 = (M.getD j R_iiii.z).a0 ∧ (L.getD j R_iiii.z).a1 = (M.getD j R_iiii.z).a1 ∧ (L.getD j R_iiii.z).a2 = (M.getD j R_iiii.z).a2 ∧ (L.getD j R_iiii.z).a3 = (M.getD j R_iiii.z).a3)
        · obtain ⟨q, g1, g2⟩ := ih (j + 1) f (by omega) (by omega)
          refine ⟨q, (iter_next (y := .h1m0 (j + 1)) ?_).trans g1, (iter_next (y := .h1m0 (j + 1)) ?_).trans g2⟩
          · show prog_Same_h1m0 L n a M n b N j = _
            unfold prog_Same_h1m0
            exact ite_yes (by omega) (ite_yes (by omega) (ite_yes (by omega) (ite_yes (by omega) (ite_no (fun h => h hq) (ite_yes (by omega) rfl)))))
          · show ref11_Same_2_h1m0 L n a M n b N j = _
            unfold ref11_Same_2_h1m0
            exact ite_yes (by omega) (ite_yes (by omega) (ite_yes (by omega) (ite_yes (by omega) (ite_no (fun h => h hq) (ite_yes (by omega) rfl)))))
        · refine ⟨false, iter_done ?_, iter_done ?_⟩
          · show prog_Same_h1m0 L n a M n b N j = _
            unfold prog_Same_h1m0
            exact ite_yes (by omega) (ite_yes (by omega) (ite_yes (by omega) (ite_yes (by omega) (ite_yes hq rfl))))
          · show ref11_Same_2_h1m0 L n a M n b N j = _
            unfold ref11_Same_2_h1m0
            exact ite_yes (by omega) (ite_yes (by omega) (ite_yes (by omega) (ite_yes (by omega) (ite_yes hq rfl))))
    exact loop n 0 N (by omega) (by omega)
  · refine ⟨false, goM_out ?_, goM_out ?_⟩
    · unfold prog_SameIn
      exact ite_yes (by omega) rfl
    · unfold ref11_Same_2In
      exact ite_yes (by omega) rfl
theorem same_self {L : List R_iiii} {n a b N : Nat} (h1 : n ≤ L.length) (h5 : n ≤ 520) (hN : 2000 ≤ N) : prog_Same_2 L n a n b N = some (.r0 true) := by
  unfold prog_Same_2
  rw [goM_in (show prog_Same_2In L n a n b N = some (.inl (.h1m0 0)) by unfold prog_Same_2In; exact ite_no (fun h => h rfl) rfl)]
  have loop : ∀ d j f, j + d = n → d < f → iter (prog_Same_2Step L n a n b N) f (.h1m0 j) = some (.r0 true) := by
    intro d
    induction d with
    | zero =>
      intro j f hj hf
      obtain ⟨f, rfl⟩ : ∃ g, f = g + 1 := ⟨f - 1, by omega⟩
      refine iter_done ?_
      show prog_Same_2_h1m0 L n a n b N j = _
      unfold prog_Same_2_h1m0
      exact ite_no (by omega) rfl
    | succ d ih =>
      intro j f hj hf
      obtain ⟨f, rfl⟩ : ∃ g, f = g + 1 := ⟨f - 1, by omega⟩
      refine (iter_next (y := .h1m0 (j + 1)) ?_).trans (ih (j + 1) f (by omega) (by omega))
      show prog_Same_2_h1m0 L n a n b N j = _
      unfold prog_Same_2_h1m0
      exact ite_yes (by omega) (ite_yes (by omega) (ite_yes (by omega) (ite_yes (by omega) rfl)))
  exact loop n 0 N (by omega) (by omega)
theorem same_l {L : List R_iiii} {N : Nat} (h5 : L.length ≤ 1560) (hN : 2000 ≤ N) : ref11_Same_5 L L N = some (.r0 true) := by
  unfold ref11_Same_5
  rw [goM_in (show ref11_Same_5In L L N = some (.inl (.h1m0 0)) by unfold ref11_Same_5In; exact ite_no (fun h => h rfl) rfl)]
  have loop : ∀ d j f, j + d = L.length → d < f → iter (ref11_Same_5Step L L N) f (.h1m0 j) = some (.r0 true) := by
    intro d
    induction d with
    | zero =>
      intro j f hj hf
      obtain ⟨f, rfl⟩ : ∃ g, f = g + 1 := ⟨f - 1, by omega⟩
      refine iter_done ?_
      show ref11_Same_5_h1m0 L L N j = _
      unfold ref11_Same_5_h1m0
      exact ite_no (by omega) rfl
    | succ d ih =>
      intro j f hj hf
      obtain ⟨f, rfl⟩ : ∃ g, f = g + 1 := ⟨f - 1, by omega⟩
      refine (iter_next (y := .h1m0 (j + 1)) ?_).trans (ih (j + 1) f (by omega) (by omega))
      show ref11_Same_5_h1m0 L L N j = _
      unfold ref11_Same_5_h1m0
      exact ite_yes (by omega) (ite_yes (by omega) (ite_no (fun h => h ⟨rfl, rfl, rfl, rfl⟩) (ite_yes (by omega) rfl)))
  exact loop L.length 0 N (by omega) (by omega)
theorem none_p : prog_Link_2 100000 = some .r0 := (goM_in (x := prog_Link_2X.h1m0) rfl).trans ((iter_next (n := 99999) (y := prog_Link_2X.h2m0) rfl).trans (iter_done (n := 99998) rfl))
theorem none_s : ref11_Same 100000 = some .r0 := (goM_in (x := ref11_SameX.h1m0) rfl).trans (iter_done (n := 99999) rfl)
theorem runs {L1 L5 L9 : List R_iiii} {c1 c5 c9 : Nat} (h1 : L1.length ≤ c1) (h5 : L5.length ≤ c5) (h9 : L9.length ≤ c9) : law11_ProgLinks L1 L1.length c1 L5 L5.length c5 L9 L9.length c9 100000 = some (.r0 true) := by
  obtain ⟨n2, e2, p2, q2⟩ := few_is L1.length
  obtain ⟨n6, e6, p6, q6⟩ := few_is L5.length
  obtain ⟨n10, e10, p10, q10⟩ := few_is L9.length
  unfold law11_ProgLinks
  simp only [e2, e6, e10, Int.toNat_natCast, Nat.sub_zero]
  refine ite_yes (by omega) (ite_yes (by omega) (ite_yes (by omega) ?_))
  obtain ⟨q, s1, s2⟩ := same_both (L := L1) (M := L5) (n := n2) (m := n6) (a := c1) (b := c5) (N := 100000) p2 p6 q2 (by omega)
  have s3 := same_self (L := L9) (n := n10) (a := c9) (b := c9) (N := 100000) p10 q10 (by omega)
  have hp := fun Q => prog_Link_out (Q := Q) (L1 := L1) (L5 := L5) (L9 := L9) (n2 := n2) (n6 := n6) (n10 := n10) (n3 := c1) (n7 := c5) (n11 := c9) (N := 100000) p2 p6 p10 q2 q6 q10 (by omega)
  have hr := fun Q => ref11_Link_out (Q := Q) (L1 := L1) (L5 := L5) (L9 := L9) (n2 := n2) (n6 := n6) (n10 := n10) (n3 := c1) (n7 := c5) (n11 := c9) (N := 100000) p2 p6 p10 q2 q6 q10 (by omega)
  have both : (∃ e, prog_Link L1 n2 c1 L5 n6 c5 L9 n10 c9 100000 = some (.r0 e) ∧ ref11_Link L1 n2 c1 L5 n6 c5 L9 n10 c9 100000 = some (.r0 e)) ∨ (∃ l : List R_iiii, l.length ≤ 1560 ∧ prog_Link L1 n2 c1 L5 n6 c5 L9 n10 c9 100000 = some (.r1 l) ∧ ref11_Link L1 n2 c1 L5 n6 c5 L9 n10 c9 100000 = some (.r1 l)) := by
    by_cases hm : 512 < n2 + n6 + n10
    · exact .inl ⟨3, hp (fun o => o = some (.r0 3)) (fun _ => rfl) (fun h => absurd hm h) (fun h => absurd hm h) (fun h => absurd hm h), hr (fun o => o = some (.r0 3)) (fun _ => rfl) (fun h => absurd hm h) (fun h => absurd hm h) (fun h => absurd hm h)⟩
    · by_cases ha : ok1 L1 n2 100000 ∧ ok1 L5 n6 100000 ∧ ok1 L9 n10 100000
      · by_cases h0 : 0 < n2 + n6 + n10
        · refine .inr ⟨_, ?_, hp (fun o => o = some (.r1 (mvs L1 0 n2 0 ++ mvs L5 n2 n6 0 ++ mvs L9 (n2 + n6 : Nat) n10 0))) (fun h => absurd h hm) (fun _ h => absurd ha h) (fun _ _ a b c => by omega) (fun _ _ _ => rfl), hr (fun o => o = some (.r1 (mvs L1 0 n2 0 ++ mvs L5 n2 n6 0 ++ mvs L9 (n2 + n6 : Nat) n10 0))) (fun h => absurd h hm) (fun _ h => absurd ha h) (fun _ _ a b c => by omega) (fun _ _ _ => rfl)⟩
          simp only [List.length_append, mvs_len]
          omega
        · exact .inl ⟨0, hp (fun o => o = some (.r0 0)) (fun h => absurd h hm) (fun _ h => absurd ha h) (fun _ _ _ _ _ => rfl) (fun _ _ h => absurd h h0), hr (fun o => o = some (.r0 0)) (fun h => absurd h hm) (fun _ h => absurd ha h) (fun _ _ _ _ _ => rfl) (fun _ _ h => absurd h h0)⟩
      · exact .inl ⟨110, hp (fun o => o = some (.r0 110)) (fun h => absurd h hm) (fun _ _ => rfl) (fun _ h => absurd h ha) (fun _ h => absurd h ha), hr (fun o => o = some (.r0 110)) (fun h => absurd h hm) (fun _ _ => rfl) (fun _ h => absurd h ha) (fun _ h => absurd h ha)⟩
  rcases both with ⟨e, a, b⟩ | ⟨l, hl, a, b⟩
  · exact bind_to a (bind_to b (bind_to none_p (bind_to none_s (ite_yes rfl (bind_to s1 (bind_to s2 (ite_yes rfl (bind_to s3 (ite_yes rfl rfl)))))))))
  · exact bind_to a (bind_to b (bind_to none_p (bind_to (same_l hl (by omega)) (ite_yes rfl (bind_to s1 (bind_to s2 (ite_yes rfl (bind_to s3 (ite_yes rfl rfl)))))))))
theorem runs2 : law11_ProgLinks_2 100000 = some .r0 := by
  have a : prog_Link_3 100000 = some .r0 := by kernel_rfl
  have b : ref11_Link_2 100000 = some .r0 := by kernel_rfl
  have c : prog_Same_3 100000 = some .r0 := by kernel_rfl
  exact bind_to a (bind_to b (bind_to none_p (bind_to none_s (bind_to c (bind_to none_s (bind_to c rfl))))))
end Pl
end Ev
end Go.Proofs.Ytahjcmhiifkniaa
