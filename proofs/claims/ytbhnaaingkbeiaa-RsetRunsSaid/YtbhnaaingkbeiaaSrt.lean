/- RsetRuns: the plain law is true. -/
import Derived.Test.YtbhnaaingkbeiaaSrp
namespace Go.Proofs.Ytbhnaaingkbeiaa
open Go.RowKit
namespace Ev
set_option linter.unusedVariables false
set_option linter.unusedSimpArgs false
set_option maxRecDepth 100000
namespace Sr
open Rs
variable {k v c at_ : Int} {E : List R_ii} {N : Nat}
theorem hasM (hc : 0 < c) : rset_Rset_Has_2 k c E (ix 0 E) N = some (.r0 (vers E k) (mHas E k)) := by
  unfold rset_Rset_Has_2 vers
  rw [if_pos hc, ix_has]
  by_cases h : mHas E k = true
  · obtain ⟨p, h1, h2, h3⟩ := ix_get k E 0 h
    rw [if_pos h, if_pos h, h2]
    refine ite_yes (by omega) <| ite_yes (by omega) ?_
    rw [show (((0 + p : Nat) : Int)).toNat = p by omega, h3, h]
  · rw [if_neg h, if_neg h]
    rw [show mHas E k = false by simpa using h]
theorem order0 (hN : 2 ≤ N) : rset_Rset_order c N = some .r0 := by
  refine (goM_in (show rset_Rset_orderIn c N = some (.inl .h1m0) from rfl)).trans ?_
  obtain ⟨n, rfl⟩ : ∃ n, N = n + 1 := ⟨N - 1, by omega⟩
  exact iter_done rfl
theorem has0 (hc : 0 < c) (hN : 2 ≤ N) : rset_Rset_Has k c N = some .r0 := by
  unfold rset_Rset_Has
  rw [if_pos hc]
  exact bind_to (order0 hN) rfl
theorem has2 (hc : 0 < c) : rset_Rset_Has_3 k c [] N = some .r0 := by
  unfold rset_Rset_Has_3
  rw [if_pos hc]
  exact ite_no (by simp [mHas]) rfl
theorem rhas0 (hN : 2 ≤ N) : ref06_Has c k N = some .r0 := by
  refine (goM_in (show ref06_HasIn c k N = some (.inl .h1m0) from rfl)).trans ?_
  obtain ⟨n, rfl⟩ : ∃ n, N = n + 1 := ⟨N - 1, by omega⟩
  exact iter_done rfl
theorem take_any {L : List R_ii} {i : Nat} {k : Int} (h : i < L.length) : L.drop i = L.getD i R_ii.z :: L.drop (i + 1) := by
  rw [List.drop_eq_getElem_cons h]
  simp [List.getD, h]
theorem rhas (hE : E.length ≤ 100000) (hN : 100001 < N) : ref06_Has_2 c E k N = some (.r0 (vers E k) (mHas E k)) := by
  refine (goM_in (show ref06_Has_2In c E k N = some (.inl (.h1m0 0)) from rfl)).trans ?_
  have loop : ∀ d i f, i + d = E.length → d < f → vers E k = vers (E.drop i) k → mHas E k = mHas (E.drop i) k → iter (ref06_Has_2Step c E k N) f (.h1m0 i) = some (.r0 (vers E k) (mHas E k)) := by
    intro d
    induction d with
    | zero =>
      intro i f hi hf h1 h2
      obtain ⟨f, rfl⟩ : ∃ g, f = g + 1 := ⟨f - 1, by omega⟩
      refine iter_done ?_
      show ref06_Has_2_h1m0 c E k N i = _
      unfold ref06_Has_2_h1m0
      rw [h1, h2, List.drop_eq_nil_of_le (by omega)]
      exact ite_no (by omega) rfl
    | succ d ih =>
      intro i f hi hf h1 h2
      obtain ⟨f, rfl⟩ : ∃ g, f = g + 1 := ⟨f - 1, by omega⟩
      have hi' : i < E.length := by omega
      have hd := take_any (k := k) hi'
      by_cases hk : (E.getD i R_ii.z).a0 = k
      · refine iter_done ?_
        show ref06_Has_2_h1m0 c E k N i = _
        unfold ref06_Has_2_h1m0
        have hm : mHas (E.drop i) k = true := by rw [hd, has_cons, beq_iff_eq.2 hk]; rfl
        have hv : vers (E.drop i) k = (E.getD i R_ii.z).a1 := by
          unfold vers
          rw [if_pos hm, hd, get_cons, if_pos hk]
        rw [h1, h2, hm, hv]
        exact ite_yes (by omega) <| ite_yes hk rfl
      · have hm : mHas (E.drop i) k = mHas (E.drop (i + 1)) k := by rw [hd, has_cons, beq_eq_false_iff_ne.2 hk]; rfl
        have hv : vers (E.drop i) k = vers (E.drop (i + 1)) k := by
          unfold vers
          rw [hm, hd, get_cons, if_neg hk]
        refine (iter_next (y := .h1m0 (i + 1)) ?_).trans (ih (i + 1) f (by omega) (by omega) (h1.trans hv) (h2.trans hm))
        show ref06_Has_2_h1m0 c E k N i = _
        unfold ref06_Has_2_h1m0
        exact ite_yes (by omega) <| ite_no hk <| ite_yes (by omega) rfl
  exact loop E.length 0 N (by omega) (by omega) rfl rfl
theorem same (hE : E.length ≤ 100000) (hN : 100001 < N) : ref06_Same_2 E E N = some (.r0 true) := by
  refine (goM_in (show ref06_Same_2In E E N = some (.inl (.h1m0 0)) from ite_no (by simp) rfl)).trans ?_
  have loop : ∀ d i f, i + d = E.length → d < f → iter (ref06_Same_2Step E E N) f (.h1m0 i) = some (.r0 true) := by
    intro d
    induction d with
    | zero =>
      intro i f hi hf
      obtain ⟨f, rfl⟩ : ∃ g, f = g + 1 := ⟨f - 1, by omega⟩
      refine iter_done ?_
      show ref06_Same_2_h1m0 E E N i = _
      unfold ref06_Same_2_h1m0
      exact ite_no (by omega) rfl
    | succ d ih =>
      intro i f hi hf
      obtain ⟨f, rfl⟩ : ∃ g, f = g + 1 := ⟨f - 1, by omega⟩
      refine (iter_next (y := .h1m0 (i + 1)) ?_).trans (ih (i + 1) f (by omega) (by omega))
      show ref06_Same_2_h1m0 E E N i = _
      unfold ref06_Same_2_h1m0
      exact ite_yes (by omega) <| ite_yes (by omega) <| ite_no (by simp) <| ite_yes (by omega) rfl
  exact loop E.length 0 N (by omega) (by omega)
theorem same0 (hN : 2 ≤ N) : ref06_Same N = some .r0 := by
  refine (goM_in (show ref06_SameIn N = some (.inl .h1m0) from rfl)).trans ?_
  obtain ⟨n, rfl⟩ : ∃ n, N = n + 1 := ⟨N - 1, by omega⟩
  exact iter_done rfl
theorem ix_snoc (E : List R_ii) (x : R_ii) : ∀ i, ix i (E ++ [x]) = ix i E ++ [⟨x.a0, ((i + E.length : Nat) : Int)⟩] := by
  induction E with
  | nil => intro i; simp [ix]
  | cons y E ih => intro i; simp only [List.cons_append, ix, ih, List.length_cons]; rw [show i + 1 + E.length = i + (E.length + 1) by omega]
theorem has_take {E : List R_ii} (hd : Nd E) {i : Nat} (hi : i < E.length) : ¬ mHas (E.take i) (E.getD i R_ii.z).a0 = true := fun h => by
  unfold mHas at h
  rw [List.any_eq_true] at h
  obtain ⟨x, hx, he⟩ := h
  obtain ⟨j, hj⟩ := List.mem_iff_getElem?.1 hx
  have hjl := (List.getElem?_eq_some_iff.1 hj).1
  rw [List.length_take] at hjl
  rw [List.getElem?_take_of_lt (by omega)] at hj
  refine hd j i (by omega) hi ?_
  rw [show E.getD j R_ii.z = x by simp [List.getD, hj]]
  exact beq_iff_eq.1 he
theorem order2 (hd : Nd E) (hE : E.length ≤ 100000) (hN : 100001 < N) : rset_Rset_order_2 c E N = some (.r0 (ix 0 E)) := by
  refine (goM_in (show rset_Rset_order_2In c E N = some (.inl (.h1m0 0 (ix 0 (E.take 0)))) from rfl)).trans ?_
  have loop : ∀ d i f, i + d = E.length → d < f → iter (rset_Rset_order_2Step c E N) f (.h1m0 i (ix 0 (E.take i))) = some (.r0 (ix 0 E)) := by
    intro d
    induction d with
    | zero =>
      intro i f hi hf
      obtain ⟨f, rfl⟩ : ∃ g, f = g + 1 := ⟨f - 1, by omega⟩
      refine iter_done ?_
      show rset_Rset_order_2_h1m0 c E N i _ = _
      unfold rset_Rset_order_2_h1m0
      rw [List.take_of_length_le (by omega)]
      exact ite_no (by omega) rfl
    | succ d ih =>
      intro i f hi hf
      obtain ⟨f, rfl⟩ : ∃ g, f = g + 1 := ⟨f - 1, by omega⟩
      have hi' : i < E.length := by omega
      refine (iter_next (y := .h1m0 (i + 1) (ix 0 (E.take (i + 1)))) ?_).trans (ih (i + 1) f (by omega) (by omega))
      show rset_Rset_order_2_h1m0 c E N i _ = _
      unfold rset_Rset_order_2_h1m0
      have hp := ix_put (E.getD i R_ii.z).a0 (E.getD i R_ii.z).a1 (E.take i) 0 (has_take hd hi')
      rw [List.length_take, Nat.min_eq_left (by omega), Nat.zero_add] at hp
      rw [hp, show E.take i ++ [(⟨(E.getD i R_ii.z).a0, (E.getD i R_ii.z).a1⟩ : R_ii)] = E.take (i + 1) from take_snoc hi' R_ii.z]
      exact ite_yes (by omega) <| ite_yes (by omega) rfl
  exact loop E.length 0 N (by omega) (by omega)
theorem has4 (hc : 0 < c) (hd : Nd E) (hE : E.length ≤ 100000) (hN : 100001 < N) : rset_Rset_Has_4 k c E N = some (.r0 (vers E k) (mHas E k) (ix 0 E)) := by
  unfold rset_Rset_Has_4 vers
  rw [if_pos hc]
  refine bind_to (order2 hd hE hN) ?_
  show (if mHas (ix 0 E) k = true then _ else _) = _
  rw [ix_has]
  by_cases h : mHas E k = true
  · obtain ⟨p, h1, h2, h3⟩ := ix_get k E 0 h
    rw [if_pos h, if_pos h, h2]
    refine ite_yes (by omega) <| ite_yes (by omega) ?_
    rw [show (((0 + p : Nat) : Int)).toNat = p by omega, h3, h]
  · rw [if_neg h, if_neg h]
    rw [show mHas E k = false by simpa using h]
/-- Both add, or neither. -/
theorem add0 (hc : 0 < c) (hN : 2 ≤ N) : (rset_Rset_Add k v c N = some .r0 ∧ ref06_Add c k v N = some (.r0 1)) ∨ (rset_Rset_Add k v c N = some .r1 ∧ ref06_Add c k v N = some .r1) := by
  unfold rset_Rset_Add ref06_Add
  rw [if_pos hc]
  by_cases h1 : k < 0
  · exact .inl ⟨if_pos h1, if_pos h1⟩
  · rw [if_neg h1, if_neg h1]
    by_cases h2 : 1024 ≤ k
    · exact .inl ⟨if_pos h2, if_pos (by omega)⟩
    · rw [if_neg h2, if_neg (show ¬ (1023 : Int) < k by omega)]
      by_cases h3 : v < 0
      · exact .inl ⟨if_pos h3, if_pos h3⟩
      · rw [if_neg h3, if_neg h3]
        by_cases h4 : (2199023255552 : Int) < v
        · exact .inl ⟨if_pos h4, if_pos h4⟩
        · rw [if_neg h4, if_neg h4]
          exact .inr ⟨bind_to (order0 hN) rfl, bind_to (rhas0 hN) (ite_no (by omega) rfl)⟩
theorem add2 (hc : 0 < c) (hN : 2 ≤ N) : (rset_Rset_Add_2 k v c [] N = some (.r0 1) ∧ ref06_Add c k v N = some (.r0 1)) ∨ (rset_Rset_Add_2 k v c [] N = some .r1 ∧ ref06_Add c k v N = some .r1) := by
  unfold rset_Rset_Add_2 ref06_Add
  rw [if_pos hc]
  by_cases h1 : k < 0
  · exact .inl ⟨if_pos h1, if_pos h1⟩
  · rw [if_neg h1, if_neg h1]
    by_cases h2 : 1024 ≤ k
    · exact .inl ⟨if_pos h2, if_pos (by omega)⟩
    · rw [if_neg h2, if_neg (show ¬ (1023 : Int) < k by omega)]
      by_cases h3 : v < 0
      · exact .inl ⟨if_pos h3, if_pos h3⟩
      · rw [if_neg h3, if_neg h3]
        by_cases h4 : (2199023255552 : Int) < v
        · exact .inl ⟨if_pos h4, if_pos h4⟩
        · rw [if_neg h4, if_neg h4]
          exact .inr ⟨ite_no (by simp [mHas]) rfl, bind_to (rhas0 hN) (ite_no (by omega) rfl)⟩
theorem add3 (hc : 0 < c) (hE : E.length ≤ 4096) (hN : 100001 < N) : (∃ e, rset_Rset_Add_3 k v c E (ix 0 E) N = some (.r0 e) ∧ ref06_Add_2 c E k v N = some (.r0 e)) ∨ (rset_Rset_Add_3 k v c E (ix 0 E) N = some .r1 ∧ ref06_Add_2 c E k v N = some (.r1 (E ++ [⟨k, v⟩])) ∧ ¬ mHas E k = true ∧ ((E.length : Nat) : Int) < c) := by
  unfold rset_Rset_Add_3 ref06_Add_2
  rw [if_pos hc, ix_has]
  by_cases h1 : k < 0
  · exact .inl ⟨_, if_pos h1, if_pos h1⟩
  · rw [if_neg h1, if_neg h1]
    by_cases h2 : 1024 ≤ k
    · exact .inl ⟨_, if_pos h2, if_pos (by omega)⟩
    · rw [if_neg h2, if_neg (show ¬ (1023 : Int) < k by omega)]
      by_cases h3 : v < 0
      · exact .inl ⟨_, if_pos h3, if_pos h3⟩
      · rw [if_neg h3, if_neg h3]
        by_cases h4 : (2199023255552 : Int) < v
        · exact .inl ⟨_, if_pos h4, if_pos h4⟩
        · rw [if_neg h4, if_neg h4]
          by_cases h5 : mHas E k = true
          · exact .inl ⟨0, if_pos h5, bind_to (rhas (by omega) hN) (ite_yes h5 rfl)⟩
          · rw [if_neg h5]
            by_cases h6 : c ≤ ((E.length : Nat) : Int)
            · exact .inl ⟨60, if_pos h6, bind_to (rhas (by omega) hN) (ite_no h5 (ite_yes h6 rfl))⟩
            · refine .inr ⟨ite_no h6 (ite_yes (by omega) rfl), bind_to (rhas (by omega) hN) (ite_no h5 (ite_no h6 ?_)), h5, by omega⟩
              by_cases h7 : E.length = 0
              · obtain rfl := List.eq_nil_of_length_eq_zero h7
                exact ite_yes rfl rfl
              · exact ite_no h7 (ite_yes (by omega) rfl)
theorem atM (hc : 0 < c) : rset_Rset_At_2 at_ c E (ix 0 E) N = some (if 0 ≤ at_ ∧ at_ < ((E.length : Nat) : Int) then .r0 (E.getD at_.toNat R_ii.z).a0 (E.getD at_.toNat R_ii.z).a1 true else .r0 0 0 false) := by
  unfold rset_Rset_At_2
  by_cases h1 : at_ < 0
  · rw [if_pos h1, if_neg (by omega)]
  · rw [if_neg h1, if_pos hc]
    by_cases h2 : ((E.length : Nat) : Int) ≤ at_
    · rw [if_pos h2, if_neg (by omega)]
    · rw [if_neg h2, if_pos (by omega)]
theorem at0 (hc : 0 < c) : rset_Rset_At at_ c [] N = some .r0 := by
  unfold rset_Rset_At
  by_cases h1 : at_ < 0
  · rw [if_pos h1]
  · rw [if_neg h1, if_pos hc]
section
variable {a0 a5 : Int} {L2 : List R_uii} {n4 : Nat}
/-- Behind a call: rows are told alike. -/
theorem mid1 {v5 : Nat} {g u1 u2 u3 : Int} (hc : 0 < a0) (hN : 100001 < N) (h5 : v5 < 80) (hE : E.length ≤ 4096) :
    law06_RsetRuns_h2m1 a0 L2 L2.length n4 a5 N v5 g g E (ix 0 E) a0 E u1 u2 u3 = some (.inl (.h1m3 (v5 + 1) E (ix 0 E) a0 E)) := by
  have hs := same (E := E) (N := N) (by omega) hN
  unfold law06_RsetRuns_h2m1
  refine bind_to (hasM hc) <| bind_to (rhas (by omega) hN) <| bind_to (atM hc) ?_
  by_cases h1 : 0 ≤ a5
  · by_cases h2 : a5 < ((E.length : Nat) : Int)
    · rw [if_pos (show 0 ≤ a5 ∧ a5 < ((E.length : Nat) : Int) from ⟨h1, h2⟩)]
      exact ite_yes h1 <| ite_yes h2 <| ite_no (by simp) <| ite_no (by simp) <| ite_no (by simp) <| ite_no (by simp) <| ite_no (by simp) <| ite_yes hc <| ite_no (by simp) <| ite_yes (by omega) <| bind_to hs <| ite_no (by simp) <| ite_yes (by omega) rfl
    · rw [if_neg (show ¬ (0 ≤ a5 ∧ a5 < ((E.length : Nat) : Int)) by omega)]
      refine ite_yes h1 <| ite_no h2 <| ite_no (by simp) <| ite_no (by simp) <| ite_no (by simp) <| ite_no (by simp) <| ite_no (by simp) <| ite_yes hc <| ite_no (by simp) ?_
      by_cases h0 : E.length = 0
      · obtain rfl := List.eq_nil_of_length_eq_zero h0
        exact ite_yes rfl <| bind_to hs <| ite_no (by simp) <| ite_yes (by omega) rfl
      · exact ite_no h0 <| ite_yes (by omega) <| bind_to hs <| ite_no (by simp) <| ite_yes (by omega) rfl
  · rw [if_neg (show ¬ (0 ≤ a5 ∧ a5 < ((E.length : Nat) : Int)) by omega)]
    refine ite_no h1 <| ite_no (by simp) <| ite_no (by simp) <| ite_no (by simp) <| ite_no (by simp) <| ite_no (by simp) <| ite_yes hc <| ite_no (by simp) ?_
    by_cases h0 : E.length = 0
    · obtain rfl := List.eq_nil_of_length_eq_zero h0
      exact ite_yes rfl <| bind_to hs <| ite_no (by simp) <| ite_yes (by omega) rfl
    · exact ite_no h0 <| ite_yes (by omega) <| bind_to hs <| ite_no (by simp) <| ite_yes (by omega) rfl
theorem mid3 {v5 : Nat} {u1 u2 u3 : Int} (hc : 0 < a0) (hN : 100001 < N) (h5 : v5 < 80) (hd : Nd E) (hE : E.length ≤ 4096) :
    law06_RsetRuns_h2m3 a0 L2 L2.length n4 a5 N v5 E a0 E u1 u2 u3 = some (.inl (.h1m3 (v5 + 1) E (ix 0 E) a0 E)) := by
  have hs := same (E := E) (N := N) (by omega) hN
  unfold law06_RsetRuns_h2m3
  refine bind_to (has4 hc hd (by omega) hN) <| bind_to (rhas (by omega) hN) <| bind_to (atM hc) ?_
  by_cases h1 : 0 ≤ a5
  · by_cases h2 : a5 < ((E.length : Nat) : Int)
    · rw [if_pos (show 0 ≤ a5 ∧ a5 < ((E.length : Nat) : Int) from ⟨h1, h2⟩)]
      exact ite_yes h1 <| ite_yes h2 <| ite_no (by simp) <| ite_no (by simp) <| ite_no (by simp) <| ite_no (by simp) <| ite_yes hc <| ite_no (by simp) <| ite_yes (by omega) <| bind_to hs <| ite_no (by simp) <| ite_yes (by omega) rfl
    · rw [if_neg (show ¬ (0 ≤ a5 ∧ a5 < ((E.length : Nat) : Int)) by omega)]
      refine ite_yes h1 <| ite_no h2 <| ite_no (by simp) <| ite_no (by simp) <| ite_no (by simp) <| ite_no (by simp) <| ite_yes hc <| ite_no (by simp) ?_
      by_cases h0 : E.length = 0
      · obtain rfl := List.eq_nil_of_length_eq_zero h0
        exact ite_yes rfl <| bind_to hs <| ite_no (by simp) <| ite_yes (by omega) rfl
      · exact ite_no h0 <| ite_yes (by omega) <| bind_to hs <| ite_no (by simp) <| ite_yes (by omega) rfl
  · rw [if_neg (show ¬ (0 ≤ a5 ∧ a5 < ((E.length : Nat) : Int)) by omega)]
    refine ite_no h1 <| ite_no (by simp) <| ite_no (by simp) <| ite_no (by simp) <| ite_no (by simp) <| ite_yes hc <| ite_no (by simp) ?_
    by_cases h0 : E.length = 0
    · obtain rfl := List.eq_nil_of_length_eq_zero h0
      exact ite_yes rfl <| bind_to hs <| ite_no (by simp) <| ite_yes (by omega) rfl
    · exact ite_no h0 <| ite_yes (by omega) <| bind_to hs <| ite_no (by simp) <| ite_yes (by omega) rfl
theorem mid0 {v5 : Nat} {g : Nat} {h u1 u2 u3 : Int} (hc : 0 < a0) (hN : 100001 < N) (h5 : v5 < 80) (hg : ((g : Nat) : Int) = h) :
    law06_RsetRuns_h2m0 a0 L2 L2.length n4 a5 N v5 g h a0 u1 u2 u3 = some (.inl (.h1m2 (v5 + 1) a0)) := by
  unfold law06_RsetRuns_h2m0
  exact bind_to (has0 hc (by omega)) <| bind_to (rhas0 (by omega)) <| bind_to (at0 hc) <| ite_no (by simpa using hg) <| ite_yes hc <| bind_to (same0 (by omega)) <| ite_yes (by omega) rfl
theorem mid2 {v5 : Nat} {g u1 u2 u3 : Int} (hc : 0 < a0) (hN : 100001 < N) (h5 : v5 < 80) :
    law06_RsetRuns_h2m2 a0 L2 L2.length n4 a5 N v5 g g a0 u1 u2 u3 = some (.inl (.h1m2 (v5 + 1) a0)) := by
  unfold law06_RsetRuns_h2m2
  exact bind_to (has2 hc) <| bind_to (rhas0 (by omega)) <| bind_to (at0 hc) <| ite_no (by simp) <| ite_yes hc <| bind_to (same0 (by omega)) <| ite_yes (by omega) rfl
/-- How it stands between two calls. -/
inductive At : Nat → law06_RsetRunsX → Prop
  | m1 : At 0 (.h1m1 a0)
  | m2 (i : Nat) : At i (.h1m2 i a0)
  | m3 (i : Nat) (F : List R_ii) (hd : Nd F) (hF : F.length ≤ 4096) : At i (.h1m3 i F (ix 0 F) a0 F)
theorem nd_one (x : R_ii) : Nd [x] := fun i j h1 h2 => by simp at h2; omega
theorem fork3 (hc : 0 < c) (hE : E.length ≤ 4096) : rset_Rset_Fork_3 c E (ix 0 E) N = some (.r0 E) := by
  unfold rset_Rset_Fork_3
  rw [if_pos hc]
  by_cases h : E.length = 0
  · obtain rfl := List.eq_nil_of_length_eq_zero h
    rfl
  · exact ite_no h <| ite_yes (by omega) rfl
theorem loop (hc : 0 < a0) (hc2 : a0 ≤ 4096) (hN : 100001 < N) : ∀ (d i f : Nat) (x : law06_RsetRunsX), i + d = 80 → At (a0 := a0) i x → d * 2 < f → iter (law06_RsetRunsStep a0 L2 L2.length n4 a5 N) f x = some (.r0 true) := by
  intro d
  induction d with
  | zero =>
    intro i f x hi hx hf
    obtain ⟨f, rfl⟩ : ∃ g, f = g + 1 := ⟨f - 1, by omega⟩
    refine iter_done ?_
    cases hx with
    | m1 => omega
    | m2 =>
      show law06_RsetRuns_h1m2 a0 L2 L2.length n4 a5 N i a0 = _
      unfold law06_RsetRuns_h1m2
      by_cases h : ((i : Nat) : Int) < ((L2.length : Nat) : Int)
      · exact ite_yes h <| ite_no (by omega) rfl
      · exact ite_no h rfl
    | m3 _ E hd hE =>
      show law06_RsetRuns_h1m3 a0 L2 L2.length n4 a5 N i E (ix 0 E) a0 E = _
      unfold law06_RsetRuns_h1m3
      by_cases h : ((i : Nat) : Int) < ((L2.length : Nat) : Int)
      · exact ite_yes h <| ite_no (by omega) rfl
      · exact ite_no h rfl
  | succ d ih =>
    intro i fl x hi hx hf
    obtain ⟨fl, rfl⟩ : ∃ g, fl = g + 2 := ⟨fl - 2, by omega⟩
    by_cases h : i < L2.length
    · have v0 : ∀ (g : Nat) (h u1 u2 u3 : Int), law06_RsetRunsStep a0 L2 L2.length n4 a5 N x = some (.inl (.h2m0 i g h a0 u1 u2 u3)) → ((g : Nat) : Int) = h → iter (law06_RsetRunsStep a0 L2 L2.length n4 a5 N) (fl + 2) x = some (.r0 true) := by
        intro g h' u1 u2 u3 h1 h2
        exact (iter_next h1).trans ((iter_next (n := fl) (mid0 (L2 := L2) (n4 := n4) (a5 := a5) (u1 := u1) (u2 := u2) (u3 := u3) hc hN (by omega) h2)).trans (ih (i + 1) fl _ (by omega) (.m2 (i + 1)) (by omega)))
      have v2 : ∀ (g u1 u2 u3 : Int), law06_RsetRunsStep a0 L2 L2.length n4 a5 N x = some (.inl (.h2m2 i g g a0 u1 u2 u3)) → iter (law06_RsetRunsStep a0 L2 L2.length n4 a5 N) (fl + 2) x = some (.r0 true) := by
        intro g u1 u2 u3 h1
        exact (iter_next h1).trans ((iter_next (n := fl) (mid2 (g := g) (L2 := L2) (n4 := n4) (a5 := a5) (u1 := u1) (u2 := u2) (u3 := u3) hc hN (by omega))).trans (ih (i + 1) fl _ (by omega) (.m2 (i + 1)) (by omega)))
      have v1 : ∀ (E : List R_ii) (g u1 u2 u3 : Int), law06_RsetRunsStep a0 L2 L2.length n4 a5 N x = some (.inl (.h2m1 i g g E (ix 0 E) a0 E u1 u2 u3)) → Nd E → E.length ≤ 4096 → iter (law06_RsetRunsStep a0 L2 L2.length n4 a5 N) (fl + 2) x = some (.r0 true) := by
        intro E g u1 u2 u3 h1 h2 h3
        exact (iter_next h1).trans ((iter_next (n := fl) (mid1 (g := g) (L2 := L2) (n4 := n4) (a5 := a5) (u1 := u1) (u2 := u2) (u3 := u3) hc hN (by omega) h3)).trans (ih (i + 1) fl _ (by omega) (.m3 (i + 1) E h2 h3) (by omega)))
      have v3 : ∀ (E : List R_ii) (u1 u2 u3 : Int), law06_RsetRunsStep a0 L2 L2.length n4 a5 N x = some (.inl (.h2m3 i E a0 E u1 u2 u3)) → Nd E → E.length ≤ 4096 → iter (law06_RsetRunsStep a0 L2 L2.length n4 a5 N) (fl + 2) x = some (.r0 true) := by
        intro E u1 u2 u3 h1 h2 h3
        exact (iter_next h1).trans ((iter_next (n := fl) (mid3 (L2 := L2) (n4 := n4) (a5 := a5) (u1 := u1) (u2 := u2) (u3 := u3) hc hN (by omega) h2 h3)).trans (ih (i + 1) fl _ (by omega) (.m3 (i + 1) E h2 h3) (by omega)))
      cases hx with
      | m1 =>
        by_cases o5 : Int.tmod (L2.getD 0 R_uii.z).a0 7 = 5
        · refine v0 0 0 (L2.getD 0 R_uii.z).a0 (L2.getD 0 R_uii.z).a1 (L2.getD 0 R_uii.z).a2 ?_ rfl
          show law06_RsetRuns_h1m1 a0 L2 L2.length n4 a5 N a0 = _
          unfold law06_RsetRuns_h1m1
          exact ite_yes (by omega) <| ite_yes h <| ite_yes o5 <| ite_yes hc rfl
        · by_cases o6 : Int.tmod (L2.getD 0 R_uii.z).a0 7 = 6
          · refine v0 0 0 (L2.getD 0 R_uii.z).a0 (L2.getD 0 R_uii.z).a1 (L2.getD 0 R_uii.z).a2 ?_ rfl
            show law06_RsetRuns_h1m1 a0 L2 L2.length n4 a5 N a0 = _
            unfold law06_RsetRuns_h1m1
            refine ite_yes (by omega) <| ite_yes h <| ite_no o5 <| ite_yes o6 <| bind_to (show rset_Rset_Fork a0 N = some .r0 from ite_yes hc rfl) ?_
            rcases add0 (k := 7) (v := 7) (N := N) hc (by omega) with ⟨h1, _⟩ | ⟨h1, _⟩
            · exact bind_to h1 <| ite_yes hc rfl
            · exact bind_to h1 <| ite_yes hc rfl
          · rcases add0 (k := (L2.getD 0 R_uii.z).a1) (v := (L2.getD 0 R_uii.z).a2) (N := N) hc (by omega) with ⟨h1, h2⟩ | ⟨h1, h2⟩
            · refine v0 1 1 (L2.getD 0 R_uii.z).a0 (L2.getD 0 R_uii.z).a1 (L2.getD 0 R_uii.z).a2 ?_ rfl
              show law06_RsetRuns_h1m1 a0 L2 L2.length n4 a5 N a0 = _
              unfold law06_RsetRuns_h1m1
              exact ite_yes (by omega) <| ite_yes h <| ite_no o5 <| ite_no o6 <| bind_to h1 <| bind_to h2 rfl
            · refine v1 [⟨(L2.getD 0 R_uii.z).a1, (L2.getD 0 R_uii.z).a2⟩] 0 (L2.getD 0 R_uii.z).a0 (L2.getD 0 R_uii.z).a1 (L2.getD 0 R_uii.z).a2 ?_ (nd_one _) (by simp)
              show law06_RsetRuns_h1m1 a0 L2 L2.length n4 a5 N a0 = _
              unfold law06_RsetRuns_h1m1
              exact ite_yes (by omega) <| ite_yes h <| ite_no o5 <| ite_no o6 <| bind_to h1 <| bind_to h2 rfl
      | m2 =>
        by_cases o5 : Int.tmod (L2.getD i R_uii.z).a0 7 = 5
        · refine v2 0 (L2.getD i R_uii.z).a0 (L2.getD i R_uii.z).a1 (L2.getD i R_uii.z).a2 ?_
          show law06_RsetRuns_h1m2 a0 L2 L2.length n4 a5 N i a0 = _
          unfold law06_RsetRuns_h1m2
          exact ite_yes (by omega) <| ite_yes (by omega) <| ite_yes h <| ite_yes o5 <| ite_yes hc rfl
        · by_cases o6 : Int.tmod (L2.getD i R_uii.z).a0 7 = 6
          · refine v0 0 0 (L2.getD i R_uii.z).a0 (L2.getD i R_uii.z).a1 (L2.getD i R_uii.z).a2 ?_ rfl
            show law06_RsetRuns_h1m2 a0 L2 L2.length n4 a5 N i a0 = _
            unfold law06_RsetRuns_h1m2
            refine ite_yes (by omega) <| ite_yes (by omega) <| ite_yes h <| ite_no o5 <| ite_yes o6 <| bind_to (show rset_Rset_Fork_2 a0 [] N = some .r0 from ite_yes hc rfl) ?_
            rcases add2 (k := 7) (v := 7) (N := N) hc (by omega) with ⟨h1, _⟩ | ⟨h1, _⟩
            · exact bind_to h1 <| ite_yes hc rfl
            · exact bind_to h1 <| ite_yes hc rfl
          · rcases add2 (k := (L2.getD i R_uii.z).a1) (v := (L2.getD i R_uii.z).a2) (N := N) hc (by omega) with ⟨h1, h2⟩ | ⟨h1, h2⟩
            · refine v2 1 (L2.getD i R_uii.z).a0 (L2.getD i R_uii.z).a1 (L2.getD i R_uii.z).a2 ?_
              show law06_RsetRuns_h1m2 a0 L2 L2.length n4 a5 N i a0 = _
              unfold law06_RsetRuns_h1m2
              exact ite_yes (by omega) <| ite_yes (by omega) <| ite_yes h <| ite_no o5 <| ite_no o6 <| bind_to h1 <| bind_to h2 rfl
            · refine v1 [⟨(L2.getD i R_uii.z).a1, (L2.getD i R_uii.z).a2⟩] 0 (L2.getD i R_uii.z).a0 (L2.getD i R_uii.z).a1 (L2.getD i R_uii.z).a2 ?_ (nd_one _) (by simp)
              show law06_RsetRuns_h1m2 a0 L2 L2.length n4 a5 N i a0 = _
              unfold law06_RsetRuns_h1m2
              exact ite_yes (by omega) <| ite_yes (by omega) <| ite_yes h <| ite_no o5 <| ite_no o6 <| bind_to h1 <| bind_to h2 rfl
      | m3 _ E hd hE =>
        by_cases o5 : Int.tmod (L2.getD i R_uii.z).a0 7 = 5
        · refine v2 0 (L2.getD i R_uii.z).a0 (L2.getD i R_uii.z).a1 (L2.getD i R_uii.z).a2 ?_
          show law06_RsetRuns_h1m3 a0 L2 L2.length n4 a5 N i E (ix 0 E) a0 E = _
          unfold law06_RsetRuns_h1m3
          exact ite_yes (by omega) <| ite_yes (by omega) <| ite_yes h <| ite_yes o5 <| ite_yes hc rfl
        · by_cases o6 : Int.tmod (L2.getD i R_uii.z).a0 7 = 6
          · refine v3 E (L2.getD i R_uii.z).a0 (L2.getD i R_uii.z).a1 (L2.getD i R_uii.z).a2 ?_ hd hE
            show law06_RsetRuns_h1m3 a0 L2 L2.length n4 a5 N i E (ix 0 E) a0 E = _
            unfold law06_RsetRuns_h1m3
            refine ite_yes (by omega) <| ite_yes (by omega) <| ite_yes h <| ite_no o5 <| ite_yes o6 <| bind_to (fork3 hc hE) ?_
            rcases add3 (k := 7) (v := 7) (E := E) (N := N) hc hE hN with ⟨e, h1, _⟩ | ⟨h1, _⟩
            · exact bind_to h1 <| ite_yes hc rfl
            · exact bind_to h1 <| ite_yes hc rfl
          · rcases add3 (k := (L2.getD i R_uii.z).a1) (v := (L2.getD i R_uii.z).a2) (E := E) (N := N) hc hE hN with ⟨e, h1, h2⟩ | ⟨h1, h2, h3, h4⟩
            · refine v1 E e (L2.getD i R_uii.z).a0 (L2.getD i R_uii.z).a1 (L2.getD i R_uii.z).a2 ?_ hd hE
              show law06_RsetRuns_h1m3 a0 L2 L2.length n4 a5 N i E (ix 0 E) a0 E = _
              unfold law06_RsetRuns_h1m3
              exact ite_yes (by omega) <| ite_yes (by omega) <| ite_yes h <| ite_no o5 <| ite_no o6 <| bind_to h1 <| bind_to h2 rfl
            · have hp : mPut (ix 0 E) (L2.getD i R_uii.z).a1 ((E.length : Nat) : Int) = ix 0 (E ++ [⟨(L2.getD i R_uii.z).a1, (L2.getD i R_uii.z).a2⟩]) := by
                have := ix_put (L2.getD i R_uii.z).a1 (L2.getD i R_uii.z).a2 E 0 h3
                rwa [Nat.zero_add] at this
              refine v1 (E ++ [⟨(L2.getD i R_uii.z).a1, (L2.getD i R_uii.z).a2⟩]) 0 (L2.getD i R_uii.z).a0 (L2.getD i R_uii.z).a1 (L2.getD i R_uii.z).a2 ?_ (hd.snoc h3) (by rw [List.length_append, List.length_singleton]; omega)
              show law06_RsetRuns_h1m3 a0 L2 L2.length n4 a5 N i E (ix 0 E) a0 E = _
              unfold law06_RsetRuns_h1m3
              rw [hp]
              exact ite_yes (by omega) <| ite_yes (by omega) <| ite_yes h <| ite_no o5 <| ite_no o6 <| bind_to h1 <| bind_to h2 rfl
    · refine iter_done ?_
      have hn : ¬ (((i : Nat) : Int) < ((L2.length : Nat) : Int)) := by omega
      cases hx with
      | m1 => exact if_neg hn
      | m2 => exact if_neg hn
      | m3 _ E hd hE => exact if_neg hn
end
theorem runs (a0 : Int) (L2 : List R_uii) (n4 : Nat) (a5 : Int) : law06_RsetRuns a0 L2 L2.length n4 a5 200000 = some (.r0 true) := by
  by_cases h1 : a0 < 1
  · refine (goM_in (x := .h1m0 0) ?_).trans (iter_done rfl)
    unfold law06_RsetRunsIn
    exact bind_to (show rset_New a0 200000 = some .r0 from ite_yes h1 rfl) <| bind_to (show ref06_New a0 200000 = some (.r0 0 1) from ite_yes h1 rfl) <| ite_no (by simp) rfl
  · by_cases h2 : 4096 < a0
    · refine (goM_in (x := .h1m0 0) ?_).trans (iter_done rfl)
      unfold law06_RsetRunsIn
      exact bind_to (show rset_New a0 200000 = some .r0 from ite_no h1 <| ite_yes h2 rfl) <| bind_to (show ref06_New a0 200000 = some (.r0 0 1) from ite_no h1 <| ite_yes h2 rfl) <| ite_no (by simp) rfl
    · refine (goM_in (x := .h1m1 a0) ?_).trans (loop (L2 := L2) (n4 := n4) (a5 := a5) (N := 200000) (by omega) (by omega) (by decide) 80 0 _ _ rfl .m1 (by decide))
      unfold law06_RsetRunsIn
      exact bind_to (show rset_New a0 200000 = some .r1 from ite_no h1 <| ite_no h2 rfl) <| bind_to (show ref06_New a0 200000 = some (.r0 a0 0) from ite_no h1 <| ite_no h2 rfl) <| ite_no (by simp) rfl
theorem runs2 (a0 a5 : Int) : law06_RsetRuns_2 a0 a5 200000 = some (.r0 true) := by
  by_cases h1 : a0 < 1
  · refine (goM_in (x := .h1m0 0) ?_).trans (iter_done rfl)
    unfold law06_RsetRuns_2In
    exact bind_to (show rset_New a0 200000 = some .r0 from ite_yes h1 rfl) <| bind_to (show ref06_New a0 200000 = some (.r0 0 1) from ite_yes h1 rfl) <| ite_no (by simp) rfl
  · by_cases h2 : 4096 < a0
    · refine (goM_in (x := .h1m0 0) ?_).trans (iter_done rfl)
      unfold law06_RsetRuns_2In
      exact bind_to (show rset_New a0 200000 = some .r0 from ite_no h1 <| ite_yes h2 rfl) <| bind_to (show ref06_New a0 200000 = some (.r0 0 1) from ite_no h1 <| ite_yes h2 rfl) <| ite_no (by simp) rfl
    · refine (goM_in (x := .h1m1 a0) ?_).trans (iter_done rfl)
      unfold law06_RsetRuns_2In
      exact bind_to (show rset_New a0 200000 = some .r1 from ite_no h1 <| ite_no h2 rfl) <| bind_to (show ref06_New a0 200000 = some (.r0 a0 0) from ite_no h1 <| ite_no h2 rfl) <| ite_no (by simp) rfl
end Sr
end Ev
end Go.Proofs.Ytbhnaaingkbeiaa
