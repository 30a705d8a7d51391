/- Programs' bytes: plain. -/
import Derived.Test.YtaahblgahilohaaPkd
namespace Go.Proofs.Ytaahblgahilohaa
open Go.RowKit
namespace Ev
set_option linter.unusedVariables false
set_option linter.unusedSimpArgs false
/-- The sum of bytes. -/
def sS (M : List Int) : Int := M.foldl (fun a x => a + x) 0
def sumP (M : List Int) : Int := sS M % 256
theorem sS_snoc (M : List Int) (x : Int) : sS (M ++ [x]) = sS M + x := by unfold sS; rw [List.foldl_append]; rfl
theorem sumP_snoc (M : List Int) (x : Int) : sumP (M ++ [x]) = (sumP M + x) % 256 := by unfold sumP; rw [sS_snoc]; omega
theorem fold_add (M : List Int) : ∀ a : Int, M.foldl (fun a x => a + x) a = a + M.foldl (fun a x => a + x) 0 := by
  induction M with
  | nil => intro a; simp
  | cons x M ih => intro a; rw [List.foldl_cons, List.foldl_cons, ih, ih (0 + x)]; omega
theorem prog_sum_is {L : List Int} {n c : Nat} {N : Nat} (hn : n ≤ L.length) (hL : n ≤ 40000) (hN : 50000 ≤ N) : prog_sum L n c N = some (.r0 (sumP (L.take n))) := by
  refine (goM_in (show prog_sumIn L n c N = some (.inl (.h1m0 0 0)) from rfl)).trans ?_
  have loop : ∀ d j v f, j + d = n → d < f → v = sumP (L.take j) → iter (prog_sumStep L n c N) f (.h1m0 j v) = some (.r0 (sumP (L.take n))) := by
    intro d
    induction d with
    | zero =>
      intro j v f hj hf hv
      obtain ⟨f, rfl⟩ : ∃ g, f = g + 1 := ⟨f - 1, by omega⟩
      refine iter_done ?_
      show prog_sum_h1m0 L n c N j v = _
      unfold prog_sum_h1m0
      refine ite_no (by omega) ?_
      rw [hv, show j = n by omega]
    | succ d ih =>
      intro j v f hj hf hv
      obtain ⟨f, rfl⟩ : ∃ g, f = g + 1 := ⟨f - 1, by omega⟩
      refine (iter_next (y := .h1m0 (j + 1) (sumP (L.take (j + 1)))) ?_).trans (ih (j + 1) _ f (by omega) (by omega) rfl)
      show prog_sum_h1m0 L n c N j v = _
      unfold prog_sum_h1m0
      rw [← take_snoc (by omega) 0, sumP_snoc, hv, u8_mod]
      exact ite_yes (by omega) (ite_yes (by omega) (ite_yes (by omega) rfl))
  exact loop n 0 0 N (by omega) (by omega) rfl
theorem prog_sum_2_is {L : List Int} {n c : Nat} {N : Nat} (hn : n ≤ L.length) (hL : n ≤ 40000) (hN : 50000 ≤ N) : prog_sum_2 L n c N = some (.r0 (sumP (L.take n))) := by
  refine (goM_in (show prog_sum_2In L n c N = some (.inl (.h1m0 0 0)) from rfl)).trans ?_
  have loop : ∀ d j v f, j + d = n → d < f → v = sumP (L.take j) → iter (prog_sum_2Step L n c N) f (.h1m0 j v) = some (.r0 (sumP (L.take n))) := by
    intro d
    induction d with
    | zero =>
      intro j v f hj hf hv
      obtain ⟨f, rfl⟩ : ∃ g, f = g + 1 := ⟨f - 1, by omega⟩
      refine iter_done ?_
      show prog_sum_2_h1m0 L n c N j v = _
      unfold prog_sum_2_h1m0
      refine ite_no (by omega) ?_
      rw [hv, show j = n by omega]
    | succ d ih =>
      intro j v f hj hf hv
      obtain ⟨f, rfl⟩ : ∃ g, f = g + 1 := ⟨f - 1, by omega⟩
      refine (iter_next (y := .h1m0 (j + 1) (sumP (L.take (j + 1)))) ?_).trans (ih (j + 1) _ f (by omega) (by omega) rfl)
      show prog_sum_2_h1m0 L n c N j v = _
      unfold prog_sum_2_h1m0
      rw [← take_snoc (by omega) 0, sumP_snoc, hv, u8_mod]
      exact ite_yes (by omega) (ite_yes (by omega) (ite_yes (by omega) rfl))
  exact loop n 0 0 N (by omega) (by omega) rfl
theorem prog_sum_all {b : List Int} {N : Nat} (hL : b.length ≤ 40000) (hN : 50000 ≤ N) : prog_sum b b.length b.length N = some (.r0 (sumP b)) := by
  have := prog_sum_is (L := b) (n := b.length) (c := b.length) (Nat.le_refl _) hL hN
  rwa [List.take_length] at this
/-- Programs' bytes, one instruction behind the other. -/
def encN (N : Nat) : List R_iiii → Option (List Int)
  | [] => some []
  | i :: l => match encF i N, encN N l with
    | some y, some Y => some (y ++ Y)
    | _, _ => none
theorem encN_cons {N : Nat} {i : R_iiii} {l : List R_iiii} {Y : List Int} (h : encN N (i :: l) = some Y) : ∃ y Z, encF i N = some y ∧ encN N l = some Z ∧ Y = y ++ Z := by
  rw [encN] at h
  split at h
  · rename_i y Z h1 h2
    exact ⟨y, Z, h1, h2, (Option.some.inj h).symm⟩
  · cases h
theorem encN_put {N : Nat} {i : R_iiii} {l : List R_iiii} {y Z : List Int} (h1 : encF i N = some y) (h2 : encN N l = some Z) : encN N (i :: l) = some (y ++ Z) := by rw [encN, h1, h2]
theorem encN_none1 {N : Nat} {i : R_iiii} {l : List R_iiii} (h1 : encF i N = none) : encN N (i :: l) = none := by rw [encN, h1]
theorem encN_none2 {N : Nat} {i : R_iiii} {l : List R_iiii} (h2 : encN N l = none) : encN N (i :: l) = none := by
  rw [encN, h2]; cases encF i N <;> rfl
theorem encN_len {N : Nat} (hN : 2000 ≤ N) : ∀ {l : List R_iiii} {Y : List Int}, encN N l = some Y → Y.length ≤ 10 * l.length ∧ ∀ x ∈ Y, 0 ≤ x ∧ x ≤ 255
  | [], Y, h => by
    obtain rfl := Option.some.inj h
    exact ⟨by decide, fun x hx => by cases hx⟩
  | i :: l, Y, h => by
    obtain ⟨y, Z, h1, h2, rfl⟩ := encN_cons h
    obtain ⟨a1, a2, a3⟩ := encF_len hN h1
    obtain ⟨b1, b2⟩ := encN_len hN h2
    refine ⟨by rw [List.length_append, List.length_cons]; omega, fun x hx => ?_⟩
    rcases List.mem_append.1 hx with hx | hx
    · exact a3 x hx
    · exact b2 x hx
theorem drop_take_cons {L : List R_iiii} {j d : Nat} (h : j < L.length) : (L.drop j).take (d + 1) = L.getD j R_iiii.z :: (L.drop (j + 1)).take d := by
  rw [List.drop_eq_getElem_cons h, List.take_succ_cons]
  congr 1
  simp [List.getD, h]
/-- The first bytes of a program of so many instructions. -/
def hdr (n : Nat) : List Int := [71, 78, 84, 1, (n : Int) / 256, (n : Int) % 256]
theorem hdr_byte {n : Nat} (h : n ≤ 65535) : ∀ x ∈ hdr n, 0 ≤ x ∧ x ≤ 255 := by
  intro x hx
  unfold hdr at hx
  simp only [List.mem_cons, List.not_mem_nil, or_false] at hx
  rcases hx with rfl | rfl | rfl | rfl | rfl | rfl <;> omega
def progL (n : Nat) (Y : List Int) : List Int := hdr n ++ Y ++ [sumP (hdr n ++ Y)]
section
variable {L : List R_iiii} {n c N : Nat}
theorem prog_Encode_is (hn : n ≤ L.length) (hN : 50000 ≤ N) : (512 < n ∧ prog_Encode L n c N = some (.r0 3)) ∨ (n ≤ 512 ∧ ((encN N (L.take n) = none ∧ prog_Encode L n c N = some (.r0 110)) ∨ ∃ Y, encN N (L.take n) = some Y ∧ prog_Encode L n c N = some (.r1 (progL n Y)))) := by
  by_cases h5 : 512 < n
  · exact .inl ⟨h5, goM_out (ite_yes (by omega) rfl)⟩
  refine .inr ⟨by omega, ?_⟩
  have hI : prog_Encode L n c N = iter (prog_EncodeStep L n c N) N (.h1m0 (hdr n) 0) := goM_in (show prog_EncodeIn L n c N = some (.inl (.h1m0 (hdr n) 0)) from ite_no (by omega) (by rw [u8_mod]; rfl))
  rw [hI]
  have loop : ∀ d j b f, j + d = n → d < f → b.length + 10 * d ≤ 20000 → (encN N ((L.drop j).take d) = none ∧ iter (prog_EncodeStep L n c N) f (.h1m0 b j) = some (.r0 110)) ∨ ∃ Y, encN N ((L.drop j).take d) = some Y ∧ iter (prog_EncodeStep L n c N) f (.h1m0 b j) = some (.r1 (b ++ Y ++ [sumP (b ++ Y)])) := by
    intro d
    induction d with
    | zero =>
      intro j b f hj hf hb
      obtain ⟨f, rfl⟩ : ∃ g, f = g + 1 := ⟨f - 1, by omega⟩
      refine .inr ⟨[], rfl, iter_done ?_⟩
      show prog_Encode_h1m0 L n c N b j = _
      unfold prog_Encode_h1m0
      rw [List.append_nil]
      exact ite_no (by omega) <| bind_to (prog_sum_all (by omega) hN) <| ite_yes (by omega) rfl
    | succ d ih =>
      intro j b f hj hf hb
      obtain ⟨f, rfl⟩ : ∃ g, f = g + 1 := ⟨f - 1, by omega⟩
      rw [drop_take_cons (by omega)]
      rcases encF_two (L.getD j R_iiii.z) (show 2000 ≤ N by omega) with ⟨e, e1⟩ | ⟨_, _, _, _, _, _, _, w0, w1, w2, _, _, e, e1⟩
      · refine .inl ⟨encN_none1 e, iter_done ?_⟩
        show prog_Encode_h1m0 L n c N b j = _
        unfold prog_Encode_h1m0
        exact ite_yes (by omega) <| ite_yes (by omega) <| bind_to e1 <| ite_yes (by decide) rfl
      · obtain ⟨a1, a2, _⟩ := encF_len (by omega) e
        have S : prog_EncodeStep L n c N (.h1m0 b j) = some (.inl (.h1m0 (b ++ encL (L.getD j R_iiii.z).a0 (L.getD j R_iiii.z).a1 (L.getD j R_iiii.z).a2 (L.getD j R_iiii.z).a3 w0 w1 w2) (j + 1))) := by
          show prog_Encode_h1m0 L n c N b j = _
          unfold prog_Encode_h1m0
          exact ite_yes (by omega) <| ite_yes (by omega) <| bind_to e1 <| ite_no (by omega) <| ite_yes (by omega) <| ite_yes (by omega) <| ite_yes (by omega) rfl
        rcases ih (j + 1) (b ++ encL (L.getD j R_iiii.z).a0 (L.getD j R_iiii.z).a1 (L.getD j R_iiii.z).a2 (L.getD j R_iiii.z).a3 w0 w1 w2) f (by omega) (by omega) (by rw [List.length_append]; omega) with ⟨g1, g2⟩ | ⟨Y, g1, g2⟩
        · exact .inl ⟨encN_none2 g1, (iter_next S).trans g2⟩
        · refine .inr ⟨_, encN_put e g1, (iter_next S).trans ?_⟩
          rw [g2]; simp only [List.append_assoc]
  have := loop n 0 (hdr n) N (by omega) (by omega) (by show 6 + 10 * n ≤ _; omega)
  rw [List.drop_zero] at this
  exact this
theorem prog_Encode_3_is (hN : 50000 ≤ N) : (512 < L.length ∧ prog_Encode_3 L N = some (.r0 3)) ∨ (L.length ≤ 512 ∧ ((encN N L = none ∧ prog_Encode_3 L N = some (.r0 110)) ∨ ∃ Y, encN N L = some Y ∧ prog_Encode_3 L N = some (.r1 (progL L.length Y)))) := by
  by_cases h5 : 512 < L.length
  · exact .inl ⟨h5, goM_out (ite_yes (by omega) rfl)⟩
  refine .inr ⟨by omega, ?_⟩
  have hI : prog_Encode_3 L N = iter (prog_Encode_3Step L N) N (.h1m0 (hdr L.length) 0) := goM_in (show prog_Encode_3In L N = some (.inl (.h1m0 (hdr L.length) 0)) from ite_no (by omega) (by rw [u8_mod]; rfl))
  rw [hI]
  have loop : ∀ d j b f, j + d = L.length → d < f → b.length + 10 * d ≤ 20000 → (encN N ((L.drop j).take d) = none ∧ iter (prog_Encode_3Step L N) f (.h1m0 b j) = some (.r0 110)) ∨ ∃ Y, encN N ((L.drop j).take d) = some Y ∧ iter (prog_Encode_3Step L N) f (.h1m0 b j) = some (.r1 (b ++ Y ++ [sumP (b ++ Y)])) := by
    intro d
    induction d with
    | zero =>
      intro j b f hj hf hb
      obtain ⟨f, rfl⟩ : ∃ g, f = g + 1 := ⟨f - 1, by omega⟩
      refine .inr ⟨[], rfl, iter_done ?_⟩
      show prog_Encode_3_h1m0 L N b j = _
      unfold prog_Encode_3_h1m0
      rw [List.append_nil]
      exact ite_no (by omega) <| bind_to (prog_sum_all (by omega) hN) <| ite_yes (by omega) rfl
    | succ d ih =>
      intro j b f hj hf hb
      obtain ⟨f, rfl⟩ : ∃ g, f = g + 1 := ⟨f - 1, by omega⟩
      rw [drop_take_cons (by omega)]
      rcases encF_two (L.getD j R_iiii.z) (show 2000 ≤ N by omega) with ⟨e, e1⟩ | ⟨_, _, _, _, _, _, _, w0, w1, w2, _, _, e, e1⟩
      · refine .inl ⟨encN_none1 e, iter_done ?_⟩
        show prog_Encode_3_h1m0 L N b j = _
        unfold prog_Encode_3_h1m0
        exact ite_yes (by omega) <| bind_to e1 <| ite_yes (by decide) rfl
      · obtain ⟨a1, a2, _⟩ := encF_len (by omega) e
        have S : prog_Encode_3Step L N (.h1m0 b j) = some (.inl (.h1m0 (b ++ encL (L.getD j R_iiii.z).a0 (L.getD j R_iiii.z).a1 (L.getD j R_iiii.z).a2 (L.getD j R_iiii.z).a3 w0 w1 w2) (j + 1))) := by
          show prog_Encode_3_h1m0 L N b j = _
          unfold prog_Encode_3_h1m0
          exact ite_yes (by omega) <| bind_to e1 <| ite_no (by omega) <| ite_yes (by omega) <| ite_yes (by omega) <| ite_yes (by omega) rfl
        rcases ih (j + 1) (b ++ encL (L.getD j R_iiii.z).a0 (L.getD j R_iiii.z).a1 (L.getD j R_iiii.z).a2 (L.getD j R_iiii.z).a3 w0 w1 w2) f (by omega) (by omega) (by rw [List.length_append]; omega) with ⟨g1, g2⟩ | ⟨Y, g1, g2⟩
        · exact .inl ⟨encN_none2 g1, (iter_next S).trans g2⟩
        · refine .inr ⟨_, encN_put e g1, (iter_next S).trans ?_⟩
          rw [g2]; simp only [List.append_assoc]
  have := loop L.length 0 (hdr L.length) N (by omega) (by omega) (by show 6 + 10 * _ ≤ _; omega)
  rw [List.drop_zero, List.take_length] at this
  exact this
end
theorem prog_Encode_2_is {N : Nat} (hN : 50000 ≤ N) : prog_Encode_2 N = some (.r0 (progL 0 [])) := by
  refine (goM_in (show prog_Encode_2In N = some (.inl .h1m0) from rfl)).trans (iter_up (n := 0 + 1) (by omega) (iter_done ?_))
  show prog_Encode_2_h1m0 N = _
  unfold prog_Encode_2_h1m0
  exact bind_to (prog_sum_all (b := [71, 78, 84, 1, 0, 0]) (by decide) hN) rfl
end Ev
end Go.Proofs.Ytaahblgahilohaa
