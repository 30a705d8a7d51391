/- RsetFirst: the plain law is true. -/
import Derived.Test.YtjidnaifcjlhmaaRfp
namespace Go.Proofs.Ytjidnaifcjlhmaa
open Go.RowKit
namespace Ev
set_option linter.unusedVariables false
set_option linter.unusedSimpArgs false
namespace Rf
set_option maxRecDepth 100000
open Rs
variable {k v c : Int} {E : List R_ii} {N : Nat}
abbrev cc (a0 : Int) : Int := IntKind.i64.wrap (1 + Int.tmod a0 20)
theorem c_is {a0 : Int} (h0 : 0 ≤ a0) : cc a0 = 1 + Int.tmod a0 20 := by
  have h1 := Int.tmod_nonneg 20 h0
  have h2 := Int.tmod_lt_of_pos a0 (show (0 : Int) < 20 by decide)
  exact w64 (by omega) (by omega)
theorem c_pos {a0 : Int} (h0 : 0 ≤ a0) : 0 < cc a0 := by
  have h1 := Int.tmod_nonneg 20 h0
  rw [c_is h0]; omega
theorem c_le {a0 : Int} (h0 : 0 ≤ a0) : cc a0 ≤ 20 := by
  have h2 := Int.tmod_lt_of_pos a0 (show (0 : Int) < 20 by decide)
  rw [c_is h0]; omega
theorem has3 (hc : 0 < c) : rset_Rset_Has_3 k c E (ix 0 E) N = some (.r0 (vers E k) (mHas E k)) := by
  unfold rset_Rset_Has_3 vers
  rw [if_pos hc, ix_has]
  by_cases h : mHas E k = true
  · obtain ⟨p, h1, h2, h3⟩ := ix_get k E 0 h
    rw [if_pos h, if_pos h, h2]
    refine ite_yes (by omega) <| ite_yes (by omega) ?_
    rw [show (((0 + p : Nat) : Int)).toNat = p by omega, h3, h]
  · rw [if_neg h, if_neg h]
    rw [show mHas E k = false by simpa using h]
theorem has0 (hc : 0 < c) (hN : 2 ≤ N) : rset_Rset_Has k c N = some .r0 := by
  unfold rset_Rset_Has
  rw [if_pos hc]
  exact bind_to (a := .r0) ((goM_in (show rset_Rset_orderIn c N = some (.inl .h1m0) from rfl)).trans (by obtain ⟨n, rfl⟩ : ∃ n, N = n + 1 := ⟨N - 1, by omega⟩; exact iter_done rfl)) rfl
theorem has2 (hc : 0 < c) : rset_Rset_Has_2 k c [] N = some .r0 := by
  unfold rset_Rset_Has_2
  rw [if_pos hc]
  exact ite_no (by simp [mHas]) rfl
/-- What Add tells: an error, or it is there, or it is added. -/
theorem add0 (hc : 0 < c) : (∃ e, rset_Rset_Add k v c [] N = some (.r0 e) ∧ ¬ e = 0) ∨ rset_Rset_Add k v c [] N = some .r1 := by
  unfold rset_Rset_Add
  rw [if_pos hc]
  split
  · exact .inl ⟨_, rfl, by decide⟩
  · split
    · exact .inl ⟨_, rfl, by decide⟩
    · split
      · exact .inl ⟨_, rfl, by decide⟩
      · split
        · exact .inl ⟨_, rfl, by decide⟩
        · exact .inr (ite_no (by simp [mHas]) rfl)
theorem add3 (hc : 0 < c) (hE : E.length ≤ 100000) : (∃ e, rset_Rset_Add_3 k v c E (ix 0 E) N = some (.r0 e) ∧ (e = 0 → mHas E k = true)) ∨ (rset_Rset_Add_3 k v c E (ix 0 E) N = some .r1 ∧ ¬ mHas E k = true ∧ ((E.length : Nat) : Int) < c) := by
  unfold rset_Rset_Add_3
  rw [if_pos hc, ix_has]
  split
  · exact .inl ⟨_, rfl, fun h => absurd h (by decide)⟩
  · split
    · exact .inl ⟨_, rfl, fun h => absurd h (by decide)⟩
    · split
      · exact .inl ⟨_, rfl, fun h => absurd h (by decide)⟩
      · split
        · exact .inl ⟨_, rfl, fun h => absurd h (by decide)⟩
        · by_cases h : mHas E k = true
          · exact .inl ⟨0, by rw [if_pos h], fun _ => h⟩
          · rw [if_neg h]
            by_cases h2 : c ≤ ((E.length : Nat) : Int)
            · exact .inl ⟨60, by rw [if_pos h2], fun h => absurd h (by decide)⟩
            · first | exact .inr ⟨ite_no h2 <| ite_yes hE rfl, h, by omega⟩ | exact .inr ⟨ite_no h2 rfl, h, by omega⟩
section
variable {a0 : Int} {L2 : List R_uii} {n4 : Nat}
/-- The step that follows what was told. -/
def Ok2 (E : List R_ii) (c was : Int) (ok full : Bool) (f now : Int) (is : Bool) (v : Int) : Prop :=
  (ok = true ∧ is = true ∧ now = was) ∨ (ok = false ∧ is = true ∧ f = 0 ∧ now = v ∧ full = false) ∨ (ok = false ∧ is = false ∧ ¬ f = 0)
theorem mid {v5 : Nat} {was f now : Int} {ok full is : Bool} {E M : List R_ii} (h0 : 0 ≤ a0) (h5 : v5 < L2.length) (hE : ((E.length : Nat) : Int) ≤ cc a0) (h : Ok2 E (cc a0) was ok full f now is (L2.getD v5 R_uii.z).a2) :
    law06_RsetFirst_h2m1 a0 L2 L2.length n4 N v5 was ok full f now is E M = some (.inl (.h3m1 v5 E M)) := by
  have hc := c_pos h0
  have hE' : ¬ (cc a0 < ((E.length : Nat) : Int)) := by omega
  unfold law06_RsetFirst_h2m1
  rcases h with ⟨rfl, rfl, rfl⟩ | ⟨rfl, rfl, rfl, rfl, rfl⟩ | ⟨rfl, rfl, hf⟩
  · simp [hc, hE']
  · simp [hc, hE', h5]
  · simp [hc, hE', hf]
theorem mid0 {v5 : Nat} {f : Int} (h0 : 0 ≤ a0) (hf : ¬ f = 0) : law06_RsetFirst_h2m0 a0 L2 L2.length n4 N v5 false f = some (.inl (.h3m0 v5)) := by
  have hc := c_pos h0
  unfold law06_RsetFirst_h2m0
  simp [hc, hf]
/-- One key twice? -/
theorem inner {E M : List R_ii} {v5 : Nat} (hd : Nd E) (hE : E.length ≤ 20) (fu : Nat) (R : law06_RsetFirstR) : ∀ (d i j f : Nat), j + d = i → i < E.length → fu + d < f →
    iter (law06_RsetFirstStep a0 L2 L2.length n4 N) fu (.h4m1 v5 E (i + 1) E M) = some R → iter (law06_RsetFirstStep a0 L2 L2.length n4 N) f (.h5m0 v5 E i j E M) = some R
  | 0, i, j, f, hj, hi, hf, h => by
    obtain ⟨f, rfl⟩ : ∃ g, f = g + 1 := ⟨f - 1, by omega⟩
    refine (iter_next (y := .h4m1 v5 E (i + 1) E M) ?_).trans (iter_up (by omega) h)
    show law06_RsetFirst_h5m0 a0 L2 L2.length n4 N v5 E i j E M = _
    unfold law06_RsetFirst_h5m0
    exact ite_no (by omega) <| ite_yes (by omega) rfl
  | d + 1, i, j, f, hj, hi, hf, h => by
    obtain ⟨f, rfl⟩ : ∃ g, f = g + 1 := ⟨f - 1, by omega⟩
    refine (iter_next (y := .h5m0 v5 E i (j + 1) E M) ?_).trans (inner hd hE fu R d i (j + 1) f (by omega) hi (by omega) h)
    show law06_RsetFirst_h5m0 a0 L2 L2.length n4 N v5 E i j E M = _
    unfold law06_RsetFirst_h5m0
    exact ite_yes (by omega) <| ite_yes (by omega) <| ite_yes (by omega) <| ite_no (hd j i (by omega) hi) <| ite_yes (by omega) rfl
theorem outer {E M : List R_ii} {v5 : Nat} (h5 : v5 < 80) (hd : Nd E) (hE : E.length ≤ 20) (fu : Nat) (R : law06_RsetFirstR)
    (h : iter (law06_RsetFirstStep a0 L2 L2.length n4 N) fu (.h1m2 (v5 + 1) E M) = some R) : ∀ (d i f : Nat), i + d = E.length → fu + d * 40 < f →
    iter (law06_RsetFirstStep a0 L2 L2.length n4 N) f (.h4m1 v5 E i E M) = some R
  | 0, i, f, hi, hf => by
    obtain ⟨f, rfl⟩ : ∃ g, f = g + 1 := ⟨f - 1, by omega⟩
    refine (iter_next (y := .h1m2 (v5 + 1) E M) ?_).trans (iter_up (by omega) h)
    show law06_RsetFirst_h4m1 a0 L2 L2.length n4 N v5 E i E M = _
    unfold law06_RsetFirst_h4m1
    exact ite_no (by omega) <| ite_yes (by omega) rfl
  | d + 1, i, f, hi, hf => by
    obtain ⟨f, rfl⟩ : ∃ g, f = g + 1 := ⟨f - 1, by omega⟩
    have h1 := outer h5 hd hE fu R h d (i + 1) (fu + d * 40 + 1) (by omega) (by omega)
    have h2 := inner (a0 := a0) (L2 := L2) (n4 := n4) (N := N) hd hE (fu + d * 40 + 1) R i i 0 f (by omega) (by omega) (by omega) h1
    refine (iter_next (y := .h5m0 v5 E i 0 E M) ?_).trans h2
    show law06_RsetFirst_h4m1 a0 L2 L2.length n4 N v5 E i E M = _
    unfold law06_RsetFirst_h4m1
    exact ite_yes (by omega) rfl
/-- Behind a step. -/
theorem back {E : List R_ii} {v5 f : Nat} (h0 : 0 ≤ a0) (h5 : v5 < 80) (hd : Nd E) (hE : E.length ≤ 20) (fu : Nat) (R : law06_RsetFirstR) (hf : fu + 900 ≤ f)
    (h : iter (law06_RsetFirstStep a0 L2 L2.length n4 N) fu (.h1m2 (v5 + 1) E (ix 0 E)) = some R) : iter (law06_RsetFirstStep a0 L2 L2.length n4 N) f (.h3m1 v5 E (ix 0 E)) = some R := by
  have hc := c_pos h0
  obtain ⟨f, rfl⟩ : ∃ g, f = g + 1 := ⟨f - 1, by omega⟩
  have h1 := outer h5 hd hE fu R h E.length 0 f (by omega) (by omega)
  refine (iter_next (y := .h4m1 v5 E 0 E (ix 0 E)) ?_).trans h1
  show law06_RsetFirst_h3m1 a0 L2 L2.length n4 N v5 E (ix 0 E) = _
  unfold law06_RsetFirst_h3m1
  refine ite_yes hc ?_
  by_cases hl : E.length = 0
  · obtain rfl := List.eq_nil_of_length_eq_zero hl
    exact ite_yes rfl rfl
  · exact ite_no hl <| ite_yes (by omega) rfl
/-- How it stands between two steps. -/
inductive At : Nat → law06_RsetFirstX → Prop
  | m0 (i : Nat) : At i (.h1m0 i)
  | m1 (i : Nat) : At i (.h1m1 i)
  | m2 (i : Nat) (E : List R_ii) (hd : Nd E) (hE : ((E.length : Nat) : Int) ≤ cc a0) : At i (.h1m2 i E (ix 0 E))
theorem first_one {k v : Int} (hc : 0 < c) : vers [⟨k, v⟩] k = v ∧ mHas [⟨k, v⟩] k = true ∧ mPut [] k 0 = ix 0 [⟨k, v⟩] := by
  refine ⟨?_, ?_, rfl⟩
  · have : mHas [(⟨k, v⟩ : R_ii)] k = true := by simp [mHas]
    unfold vers
    rw [if_pos this]
    simp [mGet]
  · simp [mHas]
theorem loop (h0 : 0 ≤ a0) (hN : 2 ≤ N) : ∀ (d i f : Nat) (x : law06_RsetFirstX), i + d = 80 → At (a0 := a0) i x → d * 910 < f → iter (law06_RsetFirstStep a0 L2 L2.length n4 N) f x = some (.r0 true) := by
  have hc := c_pos h0
  have hc2 := c_le h0
  intro d
  induction d with
  | zero =>
    intro i f x hi hx hf
    obtain ⟨f, rfl⟩ : ∃ g, f = g + 1 := ⟨f - 1, by omega⟩
    refine iter_done ?_
    cases hx with
    | m0 =>
      show law06_RsetFirst_h1m0 a0 L2 L2.length n4 N i = _
      unfold law06_RsetFirst_h1m0
      by_cases h : ((i : Nat) : Int) < ((L2.length : Nat) : Int)
      · exact ite_yes h <| ite_no (by omega) rfl
      · exact ite_no h rfl
    | m1 =>
      show law06_RsetFirst_h1m1 a0 L2 L2.length n4 N i = _
      unfold law06_RsetFirst_h1m1
      by_cases h : ((i : Nat) : Int) < ((L2.length : Nat) : Int)
      · exact ite_yes h <| ite_no (by omega) rfl
      · exact ite_no h rfl
    | m2 E hd hE =>
      show law06_RsetFirst_h1m2 a0 L2 L2.length n4 N i E (ix 0 E) = _
      unfold law06_RsetFirst_h1m2
      by_cases h : ((i : Nat) : Int) < ((L2.length : Nat) : Int)
      · exact ite_yes h <| ite_no (by omega) rfl
      · exact ite_no h rfl
  | succ d ih =>
    intro i fl x hi hx hf
    obtain ⟨fl, rfl⟩ : ∃ g, fl = g + 4 := ⟨fl - 4, by omega⟩
    by_cases h : i < L2.length
    · -- what follows a step that hands on to h2m1
      have via : ∀ (was f now : Int) (ok full is : Bool) (E : List R_ii), law06_RsetFirstStep a0 L2 L2.length n4 N x = some (.inl (.h2m1 i was ok full f now is E (ix 0 E))) → Nd E → ((E.length : Nat) : Int) ≤ cc a0 → Ok2 E (cc a0) was ok full f now is (L2.getD i R_uii.z).a2 → iter (law06_RsetFirstStep a0 L2 L2.length n4 N) (fl + 4) x = some (.r0 true) := by
        intro was f now ok full is E h1 h2 h3 h4
        have hb := back (L2 := L2) (n4 := n4) (N := N) h0 (show i < 80 by omega) h2 (by omega) (f := fl + 2) (d * 910 + 1) (.r0 true) (by omega) (ih (i + 1) _ _ (by omega) (.m2 (i + 1) E h2 h3) (by omega))
        refine (iter_next h1).trans ((iter_next (n := fl + 2) ?_).trans hb)
        exact mid (n4 := n4) (N := N) h0 h h3 h4
      have via0 : ∀ f : Int, law06_RsetFirstStep a0 L2 L2.length n4 N x = some (.inl (.h2m0 i false f)) → ¬ f = 0 → iter (law06_RsetFirstStep a0 L2 L2.length n4 N) (fl + 4) x = some (.r0 true) := by
        intro f h1 h2
        have hi1 := ih (i + 1) fl _ (by omega) (.m1 (i + 1)) (by omega)
        refine (iter_next h1).trans ((iter_next (n := fl + 2) (mid0 (L2 := L2) (n4 := n4) (N := N) h0 h2)).trans ?_)
        refine (iter_next (n := fl + 1) (show law06_RsetFirst_h3m0 a0 L2 L2.length n4 N i = some (.inl (.h4m0 i)) from rfl)).trans ?_
        refine (iter_next (n := fl) (y := .h1m1 (i + 1)) ?_).trans hi1
        show law06_RsetFirst_h4m0 a0 L2 L2.length n4 N i = _
        unfold law06_RsetFirst_h4m0
        exact ite_yes (by omega) rfl
      cases hx with
      | m0 =>
        rcases add0 (k := (L2.getD i R_uii.z).a1) (v := (L2.getD i R_uii.z).a2) (N := N) hc with ⟨e, h1, h2⟩ | h1
        · refine via0 e ?_ h2
          show law06_RsetFirst_h1m0 a0 L2 L2.length n4 N i = _
          unfold law06_RsetFirst_h1m0
          exact ite_yes (by omega) <| ite_yes (by omega) <| ite_yes h <| bind_to (has0 hc hN) <| ite_yes hc <| bind_to h1 <| bind_to (has2 hc) rfl
        · obtain ⟨f1, f2, f3⟩ := first_one (k := (L2.getD i R_uii.z).a1) (v := (L2.getD i R_uii.z).a2) hc
          refine via 0 0 (L2.getD i R_uii.z).a2 false false true [⟨(L2.getD i R_uii.z).a1, (L2.getD i R_uii.z).a2⟩] ?_ (fun i j h1 h2 => by simp at h2; omega) (by simp; omega) (.inr (.inl ⟨rfl, rfl, rfl, rfl, rfl⟩))
          show law06_RsetFirst_h1m0 a0 L2 L2.length n4 N i = _
          unfold law06_RsetFirst_h1m0
          rw [f3]
          refine ite_yes (by omega) <| ite_yes (by omega) <| ite_yes h <| bind_to (has0 hc hN) <| ite_yes hc <| bind_to h1 <| bind_to (has3 hc) ?_
          rw [f1, f2]
      | m1 =>
        rcases add0 (k := (L2.getD i R_uii.z).a1) (v := (L2.getD i R_uii.z).a2) (N := N) hc with ⟨e, h1, h2⟩ | h1
        · refine via0 e ?_ h2
          show law06_RsetFirst_h1m1 a0 L2 L2.length n4 N i = _
          unfold law06_RsetFirst_h1m1
          exact ite_yes (by omega) <| ite_yes (by omega) <| ite_yes h <| bind_to (has2 hc) <| ite_yes hc <| bind_to h1 <| bind_to (has2 hc) rfl
        · obtain ⟨f1, f2, f3⟩ := first_one (k := (L2.getD i R_uii.z).a1) (v := (L2.getD i R_uii.z).a2) hc
          refine via 0 0 (L2.getD i R_uii.z).a2 false false true [⟨(L2.getD i R_uii.z).a1, (L2.getD i R_uii.z).a2⟩] ?_ (fun i j h1 h2 => by simp at h2; omega) (by simp; omega) (.inr (.inl ⟨rfl, rfl, rfl, rfl, rfl⟩))
          show law06_RsetFirst_h1m1 a0 L2 L2.length n4 N i = _
          unfold law06_RsetFirst_h1m1
          rw [f3]
          refine ite_yes (by omega) <| ite_yes (by omega) <| ite_yes h <| bind_to (has2 hc) <| ite_yes hc <| bind_to h1 <| bind_to (has3 hc) ?_
          rw [f1, f2]
      | m2 E hd hE =>
        rcases add3 (k := (L2.getD i R_uii.z).a1) (v := (L2.getD i R_uii.z).a2) (N := N) (E := E) hc (by omega) with ⟨e, h1, h2⟩ | ⟨h1, h2, h3⟩
        · refine via (vers E (L2.getD i R_uii.z).a1) e (vers E (L2.getD i R_uii.z).a1) (mHas E (L2.getD i R_uii.z).a1) (decide (((E.length : Nat) : Int) = cc a0)) (mHas E (L2.getD i R_uii.z).a1) E ?_ hd hE ?_
          · show law06_RsetFirst_h1m2 a0 L2 L2.length n4 N i E (ix 0 E) = _
            unfold law06_RsetFirst_h1m2
            refine ite_yes (by omega) <| ite_yes (by omega) <| ite_yes h <| bind_to (has3 hc) <| ite_yes hc ?_
            by_cases hf : ((E.length : Nat) : Int) = cc a0
            · rw [decide_eq_true hf]
              exact ite_yes hf <| bind_to h1 <| bind_to (has3 hc) rfl
            · rw [decide_eq_false hf]
              exact ite_no hf <| bind_to h1 <| bind_to (has3 hc) rfl
          · cases hk : mHas E (L2.getD i R_uii.z).a1 with
            | true => exact .inl ⟨rfl, rfl, rfl⟩
            | false => exact .inr (.inr ⟨rfl, rfl, fun he => by rw [h2 he] at hk; cases hk⟩)
        · have hk : mHas E (L2.getD i R_uii.z).a1 = false := by simpa using h2
          have hp : mPut (ix 0 E) (L2.getD i R_uii.z).a1 ((E.length : Nat) : Int) = ix 0 (E ++ [⟨(L2.getD i R_uii.z).a1, (L2.getD i R_uii.z).a2⟩]) := by
            have := ix_put (L2.getD i R_uii.z).a1 (L2.getD i R_uii.z).a2 E 0 h2
            rwa [Nat.zero_add] at this
          have hn : mHas (E ++ [⟨(L2.getD i R_uii.z).a1, (L2.getD i R_uii.z).a2⟩]) (L2.getD i R_uii.z).a1 = true := by rw [has_snoc]; simp
          have hv : vers (E ++ [⟨(L2.getD i R_uii.z).a1, (L2.getD i R_uii.z).a2⟩]) (L2.getD i R_uii.z).a1 = (L2.getD i R_uii.z).a2 := by
            unfold vers
            rw [if_pos hn, get_snoc _ h2]
          refine via (vers E (L2.getD i R_uii.z).a1) 0 (L2.getD i R_uii.z).a2 (mHas E (L2.getD i R_uii.z).a1) false true (E ++ [⟨(L2.getD i R_uii.z).a1, (L2.getD i R_uii.z).a2⟩]) ?_ (hd.snoc h2) (by rw [List.length_append, List.length_singleton]; omega) (.inr (.inl ⟨hk, rfl, rfl, rfl, rfl⟩))
          show law06_RsetFirst_h1m2 a0 L2 L2.length n4 N i E (ix 0 E) = _
          unfold law06_RsetFirst_h1m2
          rw [hp]
          refine ite_yes (by omega) <| ite_yes (by omega) <| ite_yes h <| bind_to (has3 hc) <| ite_yes hc <| ite_no (show ¬ (((E.length : Nat) : Int) = cc a0) from by omega) <| bind_to h1 <| bind_to (has3 hc) ?_
          rw [hv, hn]
    · refine iter_done ?_
      have hn : ¬ (((i : Nat) : Int) < ((L2.length : Nat) : Int)) := by omega
      cases hx with
      | m0 => exact if_neg hn
      | m1 => exact if_neg hn
      | m2 E hd hE => exact if_neg hn
end
theorem new_ok (a0 : Int) (h0 : 0 ≤ a0) (N : Nat) : rset_New (cc a0) N = some .r1 := by
  have hc := c_pos h0
  have hc2 := c_le h0
  unfold rset_New
  exact ite_no (by omega) <| ite_no (by omega) rfl
theorem runs (a0 : Int) (h0 : 0 ≤ a0) (h1 : a0 ≤ 255) (L2 : List R_uii) (n4 : Nat) : law06_RsetFirst a0 L2 L2.length n4 100000 = some (.r0 true) := by
  refine (goM_in (show law06_RsetFirstIn a0 L2 L2.length n4 100000 = some (.inl (.h1m0 0)) from ite_yes (by omega) <| ite_yes (by omega) <| bind_to (new_ok a0 h0 _) rfl)).trans ?_
  exact loop (L2 := L2) (n4 := n4) (N := 100000) h0 (by decide) 80 0 _ _ rfl (.m0 0) (by decide)
theorem runs2 (a0 : Int) (h0 : 0 ≤ a0) (h1 : a0 ≤ 255) : law06_RsetFirst_2 a0 100000 = some (.r0 true) := by
  refine (goM_in (show law06_RsetFirst_2In a0 100000 = some (.inl .h1m0) from ite_yes (by omega) <| ite_yes (by omega) <| bind_to (new_ok a0 h0 _) rfl)).trans ?_
  exact iter_done rfl
end Rf
end Ev
end Go.Proofs.Ytjidnaifcjlhmaa
