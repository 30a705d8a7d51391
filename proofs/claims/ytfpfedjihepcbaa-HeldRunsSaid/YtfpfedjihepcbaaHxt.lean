/- HeldRuns: what the plain functions come to. -/
import Derived.Test.YtfpfedjihepcbaaHxr
import Derived.Test.YtfpfedjihepcbaaPu
namespace Go.Proofs.Ytfpfedjihepcbaa
open Go.RowKit
namespace Ev
set_option linter.unusedVariables false
namespace Hx
/-- No two of one record. -/
def Dis (L : List R_ii) : Prop := ∀ i j, i < L.length → j < L.length → (L.getD i R_ii.z).a0 = (L.getD j R_ii.z).a0 → i = j
section
variable {N : Nat}
theorem take0 : held_Held_Take true N = some .r0 := rfl
theorem rtake0 : ref08_Take N = some .r0 := rfl
theorem last0 : held_Held_Last true N = some .r0 := rfl
theorem rlast0 : ref08_Last N = some .r0 := rfl
theorem has0 (hN : 200 ≤ N) (a : Int) : held_Held_Has a true N = some .r0 := by
  obtain ⟨m, rfl⟩ : ∃ m, N = m + 1 := ⟨N - 1, by omega⟩
  rfl
theorem rhas0 (hN : 200 ≤ N) (a : Int) : ref08_Has a N = some .r0 := by
  obtain ⟨m, rfl⟩ : ∃ m, N = m + 1 := ⟨N - 1, by omega⟩
  rfl
theorem same0 (hN : 200 ≤ N) : ref06_Same N = some .r0 := by
  obtain ⟨m, rfl⟩ : ∃ m, N = m + 1 := ⟨N - 1, by omega⟩
  rfl
theorem rgo {L : List R_ii} {a : Int} {i : Nat} (hi : i < L.length) (hL : L.length ≤ 100) (h : (L.getD i R_ii.z).a0 = a) (hne : ∀ j, j < i → (L.getD j R_ii.z).a0 ≠ a) : ∀ (k j fu : Nat), j + k = i → k < fu → iter (ref08_Has_2Step L a N) fu (.h1m0 j) = some (.r0 (L.getD i R_ii.z).a1 true)
  | 0, j, fu + 1, hj, _ => by
    obtain rfl : j = i := by omega
    refine iter_done ?_
    show ref08_Has_2_h1m0 L a N j = _
    unfold ref08_Has_2_h1m0
    exact ite_yes (by omega) (ite_yes h rfl)
  | k + 1, j, fu + 1, hj, hf => by
    rw [iter_next (y := .h1m0 (j + 1)) ?_]
    · exact rgo hi hL h hne k (j + 1) fu (by omega) (by omega)
    · show ref08_Has_2_h1m0 L a N j = _
      unfold ref08_Has_2_h1m0
      exact ite_yes (by omega) (ite_no (hne j (by omega)) (ite_yes (by omega) rfl))
theorem rgo_no {L : List R_ii} {a : Int} (hL : L.length ≤ 100) (hne : ∀ j, j < L.length → (L.getD j R_ii.z).a0 ≠ a) : ∀ (k j fu : Nat), j + k = L.length → k < fu → iter (ref08_Has_2Step L a N) fu (.h1m0 j) = some (.r0 0 false)
  | 0, j, fu + 1, hj, _ => by
    refine iter_done ?_
    show ref08_Has_2_h1m0 L a N j = _
    unfold ref08_Has_2_h1m0
    exact ite_no (by omega) rfl
  | k + 1, j, fu + 1, hj, hf => by
    rw [iter_next (y := .h1m0 (j + 1)) ?_]
    · exact rgo_no hL hne k (j + 1) fu (by omega) (by omega)
    · show ref08_Has_2_h1m0 L a N j = _
      unfold ref08_Has_2_h1m0
      exact ite_yes (by omega) (ite_no (hne j (by omega)) (ite_yes (by omega) rfl))
theorem hgo {L : List R_ii} {a : Int} {i : Nat} (hL : L.length ≤ 100) (h : (L.getD i R_ii.z).a0 = a) (hne : ∀ j, j < L.length → i < j → (L.getD j R_ii.z).a0 ≠ a) : ∀ (k fu : Nat), i + k < L.length → k < fu → iter (held_Held_Has_2Step a true L N) fu (.h1m0 ((i + k : Nat) : Int)) = some (.r0 (L.getD i R_ii.z).a1 true)
  | 0, fu + 1, hj, _ => by
    refine iter_done ?_
    show held_Held_Has_2_h1m0 a true L N _ = _
    unfold held_Held_Has_2_h1m0
    rw [Int.toNat_natCast, Nat.add_zero]
    exact ite_yes (by omega) (ite_yes (by omega) (ite_yes h rfl))
  | k + 1, fu + 1, hj, hf => by
    rw [iter_next (y := .h1m0 ((i + k : Nat) : Int)) ?_]
    · exact hgo hL h hne k fu (by omega) (by omega)
    · show held_Held_Has_2_h1m0 a true L N _ = _
      unfold held_Held_Has_2_h1m0
      rw [Int.toNat_natCast, w64 (by omega) (by omega), show (((i + (k + 1) : Nat) : Int) - 1) = ((i + k : Nat) : Int) by omega]
      exact ite_yes (by omega) (ite_yes (by omega) (ite_no (hne _ (by omega) (by omega)) rfl))
theorem hgo_no {L : List R_ii} {a : Int} (hL : L.length ≤ 100) (hne : ∀ j, j < L.length → (L.getD j R_ii.z).a0 ≠ a) : ∀ (k fu : Nat), k ≤ L.length → k < fu → iter (held_Held_Has_2Step a true L N) fu (.h1m0 ((k : Int) - 1)) = some (.r0 0 false)
  | 0, fu + 1, hj, _ => by
    refine iter_done ?_
    show held_Held_Has_2_h1m0 a true L N _ = _
    unfold held_Held_Has_2_h1m0
    exact ite_no (by omega) rfl
  | k + 1, fu + 1, hj, hf => by
    have e : ((k + 1 : Nat) : Int) - 1 = (k : Int) := by omega
    rw [e]
    rw [iter_next (y := .h1m0 ((k : Int) - 1)) ?_]
    · exact hgo_no hL hne k fu (by omega) (by omega)
    · show held_Held_Has_2_h1m0 a true L N _ = _
      unfold held_Held_Has_2_h1m0
      rw [Int.toNat_natCast, w64 (by omega) (by omega)]
      exact ite_yes (by omega) (ite_yes (by omega) (ite_no (hne _ (by omega)) rfl))
theorem has_ok (hN : 200 ≤ N) {L : List R_ii} (hL : L.length ≤ 100) (hD : Dis L) (a : Int) : ∃ v f, held_Held_Has_2 a true L N = some (.r0 v f) ∧ ref08_Has_2 L a N = some (.r0 v f) ∧ (f = false → ∀ i, i < L.length → (L.getD i R_ii.z).a0 ≠ a) := by
  have e1 : held_Held_Has_2 a true L N = iter (held_Held_Has_2Step a true L N) N (.h1m0 ((L.length : Int) - 1)) := by
    unfold held_Held_Has_2
    exact goM_in (by unfold held_Held_Has_2In; exact ite_yes rfl (ite_yes (by omega) rfl))
  have e2 : ref08_Has_2 L a N = iter (ref08_Has_2Step L a N) N (.h1m0 0) := by
    unfold ref08_Has_2
    exact goM_in rfl
  by_cases h : ∃ i, i < L.length ∧ (L.getD i R_ii.z).a0 = a
  · obtain ⟨i, hi, ha⟩ := h
    refine ⟨(L.getD i R_ii.z).a1, true, ?_, ?_, fun h => by cases h⟩
    · rw [e1, show (L.length : Int) - 1 = ((i + (L.length - 1 - i) : Nat) : Int) by omega]
      exact hgo hL ha (fun j hj hij e => by have := hD i j hi hj (ha.trans e.symm); omega) _ N (by omega) (by omega)
    · rw [e2]
      exact rgo hi hL ha (fun j hj e => by have := hD i j hi (by omega) (ha.trans e.symm); omega) i 0 N (by omega) (by omega)
  · have hne : ∀ j, j < L.length → (L.getD j R_ii.z).a0 ≠ a := fun j hj e => h ⟨j, hj, e⟩
    refine ⟨0, false, ?_, ?_, fun _ => hne⟩
    · rw [e1]; exact hgo_no hL hne L.length N (by omega) (by omega)
    · rw [e2]; exact rgo_no hL hne L.length 0 N (by omega) (by omega)
theorem top_ok {L : List R_ii} (hL : L.length ≤ 100) : ∃ x y f, held_stack_api_Seen_top_2 true L N = some (.r0 x y f) ∧ ref08_Last_2 L N = some (.r0 x y f) ∧ (f = true ↔ 0 < L.length) := by
  by_cases h : L.length = 0
  · refine ⟨0, 0, false, ?_, ?_, by simp [h]⟩
    · unfold held_stack_api_Seen_top_2; exact ite_yes (by omega) rfl
    · unfold ref08_Last_2; exact ite_yes (by omega) rfl
  · refine ⟨(L.getD (L.length - 1) R_ii.z).a0, (L.getD (L.length - 1) R_ii.z).a1, true, ?_, ?_, by simp; omega⟩
    · unfold held_stack_api_Seen_top_2; exact ite_no (by omega) (ite_yes (by omega) rfl)
    · unfold ref08_Last_2; exact ite_no (by omega) (ite_yes (by omega) rfl)
theorem last_ok {L : List R_ii} (hL : L.length ≤ 100) : ∃ x y f, held_Held_Last_2 true L N = some (.r0 x y f) ∧ ref08_Last_2 L N = some (.r0 x y f) := by
  obtain ⟨x, y, f, h1, h2, _⟩ := top_ok (N := N) hL
  refine ⟨x, y, f, ?_, h2⟩
  unfold held_Held_Last_2
  exact ite_yes rfl (bind_to h1 rfl)
theorem take_ok {L : List R_ii} (hL : L.length ≤ 100) : (∃ x y, held_Held_Take_2 true L N = some (.r0 x y) ∧ ref08_Take_2 L N = some (.r0 x y)) ∨ (∃ x y, held_Held_Take_2 true L N = some (.r1 x y) ∧ ref08_Take_2 L N = some (.r1 x y)) := by
  obtain ⟨x, y, f, h1, h2, h3⟩ := top_ok (N := N) hL
  cases f with
  | true =>
    have h3 := h3.1 rfl
    refine .inl ⟨x, y, ?_, ?_⟩
    · unfold held_Held_Take_2 held_stack_api_Seen_pop_2
      exact ite_yes rfl (bind_to (bind_to h1 (ite_yes rfl (ite_yes (by omega) (ite_yes (by omega) rfl)))) rfl)
    · unfold ref08_Take_2
      exact bind_to h2 (ite_yes rfl (ite_yes (by omega) (ite_yes (by omega) rfl)))
  | false =>
    refine .inr ⟨x, y, ?_, ?_⟩
    · unfold held_Held_Take_2 held_stack_api_Seen_pop_2
      exact ite_yes rfl (bind_to (bind_to h1 (ite_no (by simp) rfl)) rfl)
    · unfold ref08_Take_2
      exact bind_to h2 (ite_no (by simp) rfl)
theorem sgo {L : List R_ii} (hL : L.length ≤ 100) : ∀ (k j fu : Nat), j + k = L.length → k < fu → iter (ref06_Same_2Step L L N) fu (.h1m0 j) = some (.r0 true)
  | 0, j, fu + 1, hj, _ => by
    refine iter_done ?_
    show ref06_Same_2_h1m0 L L N j = _
    unfold ref06_Same_2_h1m0
    exact ite_no (by omega) rfl
  | k + 1, j, fu + 1, hj, hf => by
    rw [iter_next (y := .h1m0 (j + 1)) ?_]
    · exact sgo hL k (j + 1) fu (by omega) (by omega)
    · show ref06_Same_2_h1m0 L L N j = _
      unfold ref06_Same_2_h1m0
      exact ite_yes (by omega) (ite_yes (by omega) (ite_no (by simp) (ite_yes (by omega) rfl)))
theorem same_ok (hN : 200 ≤ N) {L : List R_ii} (hL : L.length ≤ 100) : ref06_Same_2 L L N = some (.r0 true) := by
  unfold ref06_Same_2
  rw [goM_in (x := .h1m0 0) (by unfold ref06_Same_2In; exact ite_no (by simp) rfl)]
  exact sgo hL L.length 0 N (by omega) (by omega)
theorem add0 (hN : 200 ≤ N) (a v : Int) : (held_Held_Add a v true N = some (.r0 1) ∧ ref08_Add a v N = some .r0) ∨ (held_Held_Add a v true N = some .r1 ∧ ref08_Add a v N = some .r1) := by
  by_cases h : 0 ≤ a ∧ a ≤ 1023 ∧ 0 ≤ v ∧ v ≤ 2199023255552
  · refine .inr ⟨?_, ?_⟩
    · unfold held_Held_Add; exact ite_yes rfl (ite_no (by omega) (ite_no (by omega) (ite_no (by omega) (ite_no (by omega) (bind_to (has0 hN a) rfl)))))
    · unfold ref08_Add; exact ite_no (by omega) (ite_no (by omega) (ite_no (by omega) (ite_no (by omega) (bind_to (rhas0 hN a) rfl))))
  · refine .inl ⟨?_, ?_⟩
    · unfold held_Held_Add
      refine ite_yes rfl ?_
      repeat' (first | with_reducible rfl | (exfalso; omega) | refine ite_eq (fun _ => ?_) (fun _ => ?_))
    · unfold ref08_Add
      repeat' (first | with_reducible rfl | (exfalso; omega) | refine ite_eq (fun _ => ?_) (fun _ => ?_))
theorem dis_snoc {L : List R_ii} (hD : Dis L) {a v : Int} (h : ∀ i, i < L.length → (L.getD i R_ii.z).a0 ≠ a) : Dis (L ++ [⟨a, v⟩]) := by
  intro i j hi hj e
  simp only [List.length_append, List.length_cons, List.length_nil] at hi hj
  by_cases h1 : i < L.length <;> by_cases h2 : j < L.length
  · rw [getD_app_left h1, getD_app_left h2] at e; exact hD i j h1 h2 e
  · obtain rfl : j = L.length := by omega
    rw [getD_app_left h1, getD_snoc] at e; exact absurd e (h i h1)
  · obtain rfl : i = L.length := by omega
    rw [getD_app_left h2, getD_snoc] at e; exact absurd e.symm (h j h2)
  · omega
theorem add_ok (hN : 200 ≤ N) {L : List R_ii} (hL : L.length ≤ 100) (hD : Dis L) (a v : Int) : (∃ e, held_Held_Add_2 a v true L N = some (.r0 e) ∧ ref08_Add_2 L a v N = some (.r0 e)) ∨
    (held_Held_Add_2 a v true L N = some .r1 ∧ ref08_Add_2 L a v N = some (.r1 (L ++ [⟨a, v⟩])) ∧ Dis (L ++ [⟨a, v⟩])) := by
  by_cases h : 0 ≤ a ∧ a ≤ 1023 ∧ 0 ≤ v ∧ v ≤ 2199023255552
  · obtain ⟨x, f, h1, h2, h3⟩ := has_ok hN hL hD a
    cases f with
    | true =>
      refine .inl ⟨80, ?_, ?_⟩
      · unfold held_Held_Add_2; exact ite_yes rfl (ite_no (by omega) (ite_no (by omega) (ite_no (by omega) (ite_no (by omega) (bind_to h1 (ite_yes rfl rfl))))))
      · unfold ref08_Add_2; exact ite_no (by omega) (ite_no (by omega) (ite_no (by omega) (ite_no (by omega) (bind_to h2 (ite_yes rfl rfl)))))
    | false =>
      refine .inr ⟨?_, ?_, dis_snoc hD (h3 rfl)⟩
      · unfold held_Held_Add_2; exact ite_yes rfl (ite_no (by omega) (ite_no (by omega) (ite_no (by omega) (ite_no (by omega) (bind_to h1 (ite_no (by simp) (ite_yes (by omega) rfl)))))))
      · unfold ref08_Add_2
        refine ite_no (by omega) (ite_no (by omega) (ite_no (by omega) (ite_no (by omega) (bind_to h2 (ite_no (by simp) ?_)))))
        by_cases h0 : L.length = 0
        · refine ite_yes h0 ?_
          rw [List.eq_nil_of_length_eq_zero h0]; rfl
        · exact ite_no h0 (ite_yes (by omega) rfl)
  · refine .inl ⟨1, ?_, ?_⟩
    · unfold held_Held_Add_2
      refine ite_yes rfl ?_
      repeat' (first | with_reducible rfl | (exfalso; omega) | refine ite_eq (fun _ => ?_) (fun _ => ?_))
    · unfold ref08_Add_2
      repeat' (first | with_reducible rfl | (exfalso; omega) | refine ite_eq (fun _ => ?_) (fun _ => ?_))
theorem dis_take {L : List R_ii} (hD : Dis L) (k : Nat) : Dis (L.take k) := by
  intro i j hi hj e
  simp only [List.length_take] at hi hj
  have g : ∀ {i}, i < min k L.length → (L.take k).getD i R_ii.z = L.getD i R_ii.z := fun {i} h => by
    rw [List.getD_eq_getElem?_getD, List.getElem?_take_of_lt (by omega), ← List.getD_eq_getElem?_getD]
  rw [g hi, g hj] at e
  exact hD i j (by omega) (by omega) e
theorem dis_one (a v : Int) : Dis [⟨a, v⟩] := by
  intro i j hi hj _
  simp at hi hj
  omega
/-- Behind a call. -/
inductive Mid (i : Nat) : law08_HeldRunsX → Prop
  | a (e : Nat) : Mid i (.h2m0 i (e : Int) e)
  | b (e : Int) (p : Bool) (v : Int) (f : Bool) (L : List R_ii) (x y : Int) (hD : Dis L) (hL : L.length ≤ i + 1) : Mid i (.h2m3 i e e p p v f v f L L x y x y)
theorem round0 (hN : 200 ≤ N) (L1 : List R_uii) (n2 i : Nat) (hi : i < L1.length) (h8 : i < 80) : ∃ s, law08_HeldRuns_h1m0 L1 n2 N i = some (.inl s) ∧ Mid i s := by
  unfold law08_HeldRuns_h1m0
  rw [if_pos (by omega), if_pos (by omega)]
  generalize (L1.getD i R_uii.z).a0 = d
  generalize (L1.getD i R_uii.z).a1 = a
  generalize (L1.getD i R_uii.z).a2 = v
  by_cases k5 : Int.tmod d 9 = 5
  · exact ⟨_, ite_yes k5 (bind_to take0 (bind_to rtake0 (bind_to (has0 hN a) (bind_to (rhas0 hN a) rfl)))), .a 0⟩
  by_cases k6 : Int.tmod d 9 = 6
  · exact ⟨_, ite_no k5 (ite_yes k6 (bind_to take0 (bind_to rtake0 (bind_to (has0 hN a) (bind_to (rhas0 hN a) rfl))))), .a 0⟩
  by_cases k7 : Int.tmod d 9 = 7
  · exact ⟨_, ite_no k5 (ite_no k6 (ite_yes k7 (bind_to (has0 hN a) (bind_to (rhas0 hN a) rfl)))), .a 0⟩
  by_cases k8 : Int.tmod d 9 = 8
  · rcases add0 hN 7 7 with ⟨h1, _⟩ | ⟨h1, _⟩
    · exact ⟨_, ite_no k5 (ite_no k6 (ite_no k7 (ite_yes k8 (bind_to h1 (bind_to take0 (bind_to (has0 hN a) (bind_to (rhas0 hN a) rfl))))))), .a 0⟩
    · rcases take_ok (N := N) (L := [⟨7, 7⟩]) (by simp) with ⟨x, y, h2, _⟩ | ⟨x, y, h2, _⟩
      · exact ⟨_, ite_no k5 (ite_no k6 (ite_no k7 (ite_yes k8 (bind_to h1 (bind_to h2 (bind_to (has0 hN a) (bind_to (rhas0 hN a) rfl))))))), .a 0⟩
      · exact ⟨_, ite_no k5 (ite_no k6 (ite_no k7 (ite_yes k8 (bind_to h1 (bind_to h2 (bind_to (has0 hN a) (bind_to (rhas0 hN a) rfl))))))), .a 0⟩
  rcases add0 hN a v with ⟨h1, h2⟩ | ⟨h1, h2⟩
  · exact ⟨_, ite_no k5 (ite_no k6 (ite_no k7 (ite_no k8 (bind_to h1 (bind_to h2 (bind_to (has0 hN a) (bind_to (rhas0 hN a) rfl))))))), .a 1⟩
  · obtain ⟨x, f, h3, h4, _⟩ := has_ok hN (L := [⟨a, v⟩]) (by simp) (dis_one a v) a
    exact ⟨_, ite_no k5 (ite_no k6 (ite_no k7 (ite_no k8 (bind_to h1 (bind_to h2 (bind_to h3 (bind_to h4 rfl))))))), .b 0 false x f _ 0 0 (dis_one a v) (by simp)⟩
theorem round1 (hN : 200 ≤ N) (L1 : List R_uii) (n2 i : Nat) (hi : i < L1.length) (h8 : i < 80) (L : List R_ii) (hD : Dis L) (hL : L.length ≤ i) : ∃ s, law08_HeldRuns_h1m1 L1 n2 N i L L = some (.inl s) ∧ Mid i s := by
  unfold law08_HeldRuns_h1m1
  rw [if_pos (by omega), if_pos (by omega)]
  generalize (L1.getD i R_uii.z).a0 = d
  generalize (L1.getD i R_uii.z).a1 = a
  generalize (L1.getD i R_uii.z).a2 = v
  have tk : ∀ {b : Nat}, (L.take b).length ≤ 100 := fun {b} => by rw [List.length_take]; omega
  by_cases k5 : Int.tmod d 9 = 5
  · rcases take_ok (N := N) (L := L) (by omega) with ⟨x, y, h1, h2⟩ | ⟨x, y, h1, h2⟩
    · obtain ⟨v', f, h3, h4, _⟩ := has_ok hN (L := L.take ((L.length : Int) - 1).toNat) tk (dis_take hD _) a
      exact ⟨_, ite_yes k5 (bind_to h1 (bind_to h2 (bind_to h3 (bind_to h4 rfl)))), .b 0 true v' f _ x y (dis_take hD _) (by rw [List.length_take]; omega)⟩
    · obtain ⟨v', f, h3, h4, _⟩ := has_ok hN (L := L) (by omega) hD a
      exact ⟨_, ite_yes k5 (bind_to h1 (bind_to h2 (bind_to h3 (bind_to h4 rfl)))), .b 0 false v' f _ x y hD (by omega)⟩
  by_cases k6 : Int.tmod d 9 = 6
  · rcases take_ok (N := N) (L := L) (by omega) with ⟨x, y, h1, h2⟩ | ⟨x, y, h1, h2⟩
    · obtain ⟨v', f, h3, h4, _⟩ := has_ok hN (L := L.take ((L.length : Int) - 1).toNat) tk (dis_take hD _) a
      exact ⟨_, ite_no k5 (ite_yes k6 (bind_to h1 (bind_to h2 (bind_to h3 (bind_to h4 rfl))))), .b 0 true v' f _ x y (dis_take hD _) (by rw [List.length_take]; omega)⟩
    · obtain ⟨v', f, h3, h4, _⟩ := has_ok hN (L := L) (by omega) hD a
      exact ⟨_, ite_no k5 (ite_yes k6 (bind_to h1 (bind_to h2 (bind_to h3 (bind_to h4 rfl))))), .b 0 false v' f _ x y hD (by omega)⟩
  by_cases k7 : Int.tmod d 9 = 7
  · exact ⟨_, ite_no k5 (ite_no k6 (ite_yes k7 (bind_to (has0 hN a) (bind_to (rhas0 hN a) rfl)))), .a 0⟩
  obtain ⟨v', f, h3, h4, _⟩ := has_ok hN (L := L) (by omega) hD a
  by_cases k8 : Int.tmod d 9 = 8
  · refine (?_ : ∃ s, _ = _ ∧ _)
    by_cases h0 : L.length = 0
    · obtain rfl := List.eq_nil_of_length_eq_zero h0
      rcases add_ok hN (L := []) (by simp) hD 7 7 with ⟨e, h1, _⟩ | ⟨h1, _, hD2⟩
      · rcases take_ok (N := N) (L := []) (by simp) with ⟨x, y, h2, _⟩ | ⟨x, y, h2, _⟩
        · exact ⟨_, ite_no k5 (ite_no k6 (ite_no k7 (ite_yes k8 (ite_yes h0 (bind_to h1 (bind_to h2 (bind_to h3 (bind_to h4 rfl)))))))), .b 0 false v' f _ 0 0 hD (by simp)⟩
        · exact ⟨_, ite_no k5 (ite_no k6 (ite_no k7 (ite_yes k8 (ite_yes h0 (bind_to h1 (bind_to h2 (bind_to h3 (bind_to h4 rfl)))))))), .b 0 false v' f _ 0 0 hD (by simp)⟩
      · rcases take_ok (N := N) (L := [⟨7, 7⟩]) (by simp) with ⟨x, y, h2, _⟩ | ⟨x, y, h2, _⟩
        · exact ⟨_, ite_no k5 (ite_no k6 (ite_no k7 (ite_yes k8 (ite_yes h0 (bind_to h1 (bind_to h2 (bind_to h3 (bind_to h4 rfl)))))))), .b 0 false v' f _ 0 0 hD (by simp)⟩
        · exact ⟨_, ite_no k5 (ite_no k6 (ite_no k7 (ite_yes k8 (ite_yes h0 (bind_to h1 (bind_to h2 (bind_to h3 (bind_to h4 rfl)))))))), .b 0 false v' f _ 0 0 hD (by simp)⟩
    · rcases add_ok hN (L := L) (by omega) hD 7 7 with ⟨e, h1, _⟩ | ⟨h1, _, hD2⟩
      · rcases take_ok (N := N) (L := L) (by omega) with ⟨x, y, h2, _⟩ | ⟨x, y, h2, _⟩
        · exact ⟨_, ite_no k5 (ite_no k6 (ite_no k7 (ite_yes k8 (ite_no h0 (ite_yes (by omega) (bind_to h1 (bind_to h2 (bind_to h3 (bind_to h4 rfl))))))))), .b 0 false v' f _ 0 0 hD (by omega)⟩
        · exact ⟨_, ite_no k5 (ite_no k6 (ite_no k7 (ite_yes k8 (ite_no h0 (ite_yes (by omega) (bind_to h1 (bind_to h2 (bind_to h3 (bind_to h4 rfl))))))))), .b 0 false v' f _ 0 0 hD (by omega)⟩
      · rcases take_ok (N := N) (L := L ++ [⟨7, 7⟩]) (by simp; omega) with ⟨x, y, h2, _⟩ | ⟨x, y, h2, _⟩
        · exact ⟨_, ite_no k5 (ite_no k6 (ite_no k7 (ite_yes k8 (ite_no h0 (ite_yes (by omega) (bind_to h1 (bind_to h2 (bind_to h3 (bind_to h4 rfl))))))))), .b 0 false v' f _ 0 0 hD (by omega)⟩
        · exact ⟨_, ite_no k5 (ite_no k6 (ite_no k7 (ite_yes k8 (ite_no h0 (ite_yes (by omega) (bind_to h1 (bind_to h2 (bind_to h3 (bind_to h4 rfl))))))))), .b 0 false v' f _ 0 0 hD (by omega)⟩
  rcases add_ok hN (L := L) (by omega) hD a v with ⟨e, h1, h2⟩ | ⟨h1, h2, hD2⟩
  · exact ⟨_, ite_no k5 (ite_no k6 (ite_no k7 (ite_no k8 (bind_to h1 (bind_to h2 (bind_to h3 (bind_to h4 rfl))))))), .b e false v' f _ 0 0 hD (by omega)⟩
  · obtain ⟨v2, f2, h5, h6, _⟩ := has_ok hN (L := L ++ [⟨a, v⟩]) (by simp; omega) hD2 a
    exact ⟨_, ite_no k5 (ite_no k6 (ite_no k7 (ite_no k8 (bind_to h1 (bind_to h2 (bind_to h5 (bind_to h6 rfl))))))), .b 0 false v2 f2 _ 0 0 hD2 (by simp; omega)⟩
/-- Between rounds. -/
inductive Out (i : Nat) : law08_HeldRunsX → Prop
  | a : Out i (.h1m0 i)
  | b (L : List R_ii) (hD : Dis L) (hL : L.length ≤ i) : Out i (.h1m1 i L L)
theorem behind (hN : 200 ≤ N) (L1 : List R_uii) (n2 i : Nat) (h8 : i < 80) {s : law08_HeldRunsX} (h : Mid i s) : ∃ s', Out (i + 1) s' ∧ ∀ fu, iter (law08_HeldRunsStep L1 n2 N) (fu + 2) s = iter (law08_HeldRunsStep L1 n2 N) fu s' := by
  cases h with
  | a e =>
    refine ⟨_, .a, fun fu => ?_⟩
    rw [iter_next (y := .h3m0 i e e) (show law08_HeldRuns_h2m0 L1 n2 N i e e = _ from bind_to last0 rfl)]
    exact iter_next (show law08_HeldRuns_h3m0 L1 n2 N i e e = _ from bind_to rlast0 (ite_no (by simp) (bind_to (same0 hN) (ite_yes (by omega) rfl))))
  | b e p v f L x y hD hL =>
    obtain ⟨x2, y2, f2, h1, h2⟩ := last_ok (N := N) (L := L) (by omega)
    refine ⟨_, .b L hD hL, fun fu => ?_⟩
    rw [iter_next (y := .h3m3 i e e p p v f v f f2 L L x y x y x2 y2) (show law08_HeldRuns_h2m3 L1 n2 N i e e p p v f v f L L x y x y = _ from bind_to h1 rfl)]
    refine iter_next (show law08_HeldRuns_h3m3 L1 n2 N i e e p p v f v f f2 L L x y x y x2 y2 = _ from ?_)
    unfold law08_HeldRuns_h3m3
    refine bind_to h2 (ite_no (by simp) (ite_no (by simp) (ite_no (by simp) (ite_no (by simp) (ite_no (by simp) (ite_no (by simp) (ite_no (by simp) (ite_no (by simp) ?_))))))))
    by_cases h0 : L.length = 0
    · obtain rfl := List.eq_nil_of_length_eq_zero h0
      exact ite_yes h0 (bind_to (same_ok hN (by simp)) (ite_no (by simp) (ite_yes (by omega) rfl)))
    · exact ite_no h0 (ite_yes (by omega) (bind_to (same_ok hN (by omega)) (ite_no (by simp) (ite_yes (by omega) rfl))))
theorem stop0 (L1 : List R_uii) (n2 i : Nat) (h : ¬ (i < L1.length ∧ i < 80)) : law08_HeldRuns_h1m0 L1 n2 N i = some (.inr (.r0 true)) := by
  unfold law08_HeldRuns_h1m0
  by_cases h1 : i < L1.length
  · rw [if_pos (by omega), if_neg (by omega)]
  · rw [if_neg (by omega)]
theorem stop1 (L1 : List R_uii) (n2 i : Nat) (L L' : List R_ii) (h : ¬ (i < L1.length ∧ i < 80)) : law08_HeldRuns_h1m1 L1 n2 N i L L' = some (.inr (.r0 true)) := by
  unfold law08_HeldRuns_h1m1
  by_cases h1 : i < L1.length
  · rw [if_pos (by omega), if_neg (by omega)]
  · rw [if_neg (by omega)]
theorem stop (L1 : List R_uii) (n2 i : Nat) (h : ¬ (i < L1.length ∧ i < 80)) {s : law08_HeldRunsX} (hs : Out i s) : law08_HeldRunsStep L1 n2 N s = some (.inr (.r0 true)) := by
  cases hs with
  | a => exact stop0 L1 n2 i h
  | b L hD hL => exact stop1 L1 n2 i L L h
theorem next (hN : 200 ≤ N) (L1 : List R_uii) (n2 i : Nat) (hi : i < L1.length) (h8 : i < 80) {s : law08_HeldRunsX} (hs : Out i s) : ∃ s2, law08_HeldRunsStep L1 n2 N s = some (.inl s2) ∧ Mid i s2 := by
  cases hs with
  | a => exact round0 hN L1 n2 i hi h8
  | b L hD hL => exact round1 hN L1 n2 i hi h8 L hD hL
theorem go (hN : 200 ≤ N) (L1 : List R_uii) (n2 : Nat) (k : Nat) : ∀ (i fu : Nat) (s : law08_HeldRunsX), i + k = 80 → Out i s → 3 * k + 1 ≤ fu → iter (law08_HeldRunsStep L1 n2 N) fu s = some (.r0 true) := by
  induction k with
  | zero =>
    intro i fu s hi h hf
    obtain ⟨m, rfl⟩ : ∃ m, fu = m + 1 := ⟨fu - 1, by omega⟩
    exact iter_done (stop L1 n2 i (by omega) h)
  | succ k ih =>
    intro i fu s hi h hf
    obtain ⟨m, rfl⟩ : ∃ m, fu = m + 1 := ⟨fu - 1, by omega⟩
    by_cases hl : i < L1.length
    · obtain ⟨s2, h2, hM⟩ := next hN L1 n2 i hl (by omega) h
      obtain ⟨s3, h3, h4⟩ := behind hN L1 n2 i (by omega) hM
      obtain ⟨m2, rfl⟩ : ∃ m2, m = m2 + 2 := ⟨m - 2, by omega⟩
      exact (iter_next h2).trans ((h4 m2).trans (ih (i + 1) m2 s3 (by omega) h3 (by omega)))
    · exact iter_done (stop L1 n2 i (by omega) h)
end
theorem runs (L1 : List R_uii) (n2 : Nat) : law08_HeldRuns L1 n2 1000 = some (.r0 true) := by
  unfold law08_HeldRuns
  rw [goM_in (o := law08_HeldRunsIn L1 n2 1000) rfl]
  exact go (by decide) L1 n2 80 0 1000 _ rfl .a (by decide)
theorem runs2 : law08_HeldRuns_2 1000 = some .r0 := rfl
end Hx
end Ev
end Go.Proofs.Ytfpfedjihepcbaa
