/- InstrBack: the law's plain function is true. -/
import Derived.Test.YtcialenmjhiknaaIks
namespace Go.Proofs.Ytcialenmjhiknaa
open Go.RowKit
namespace Ev
set_option linter.unusedVariables false
set_option linter.unusedSimpArgs false
theorem byte_take {L : List Int} (hb : ∀ i, i < L.length → 0 ≤ L.getD i 0 ∧ L.getD i 0 ≤ 255) (v : Nat) : ∀ x ∈ L.take v, 0 ≤ x ∧ x ≤ 255 := fun x hx => by
  obtain ⟨i, hi, rfl⟩ := List.getElem_of_mem (List.mem_of_mem_take hx)
  have := hb i hi
  simpa [List.getD, hi] using this
/-- What an encoding is, or that there is none. -/
theorem enc_two (op A B C : Int) {N : Nat} (hN : 2000 ≤ N) : instr_Encode op A B C N = some (.r0 100) ∨ ∃ nm s0 s1 s2 w0 w1 w2, Kd op N nm s0 s1 s2 false w0 w1 w2 ∧ instr_Check op A B C N = some (.r0 0) ∧ instr_Encode op A B C N = some (.r1 (encL op A B C w0 w1 w2)) := by
  obtain ⟨nm, s0, s1, s2, q, w0, w1, w2, K⟩ := kd op N
  obtain ⟨b, hz, hr⟩ := K.chk (by omega) A B C
  cases b with
  | false => exact .inl (enc_no hz)
  | true =>
    obtain ⟨rfl, _⟩ := hr rfl
    exact .inr ⟨_, _, _, _, _, _, _, K, hz, enc_ok K hN hz⟩
/-- A part of an instruction is too short. -/
theorem part {op A B C s0 s1 s2 : Int} {N w0 w1 w2 j : Nat} {nm : List Int} (K : Kd op N nm s0 s1 s2 false w0 w1 w2) (hN : 2000 ≤ N) (hj : j < (encL op A B C w0 w1 w2).length) : instr_Decode (encL op A B C w0 w1 w2) j (encL op A B C w0 w1 w2).length N = some (.r0 6) := by
  obtain ⟨r1, r2⟩ := K.rg rfl
  by_cases h0 : j = 0
  · subst h0; exact instr_Decode_zero
  have l0 := K.l0.le; have l1 := K.l1.le; have l2 := K.l2.le
  have hg : (encL op A B C w0 w1 w2).getD 0 0 = op := by
    show IntKind.u8.wrap op = op
    rw [u8_mod]; omega
  have K' := K
  rw [← hg] at K'
  have hl := encL_len op A B C w0 w1 w2
  exact instr_Decode_short (getD_byteI (encL_byte _ _ _ _ _ _ _)) (by omega) h0 (by omega) (by omega) hN K' (by omega)
namespace Ik
variable {L : List Int} {n c N v w : Nat} {a0 a1 a2 a3 : Int}
theorem h3 (hb : ∀ i, i < L.length → 0 ≤ L.getD i 0 ∧ L.getD i 0 ≤ 255) (hv : v ≤ L.length) (hw : v ≤ w) (h20 : v ≤ 1000) (hN : 2000 ≤ N) : law10_InstrBackStep a0 a1 a2 a3 L n c N (.h3m0 v w) = some (.inr (.r0 true)) := by
  show law10_InstrBack_h3m0 a0 a1 a2 a3 L n c N v w = _
  unfold law10_InstrBack_h3m0
  rcases instr_Decode_2_back (N := N) hb hv (by omega) hw hN with ⟨z, z0, q1⟩ | ⟨A, B, C, y, R, q1, q2, q3, q4, _⟩
  · exact bind_to q1 <| ite_yes z0 rfl
  · exact bind_to q1 <| bind_to q2 <| ite_yes (by omega) <| ite_yes hv <| ite_yes (by rw [q3]; exact strB_self _) rfl
theorem h1 (hb : ∀ i, i < L.length → 0 ≤ L.getD i 0 ∧ L.getD i 0 ≤ 255) (hv : v ≤ L.length) (hw : v ≤ w) (h20 : v ≤ 1000) (hN : 2000 ≤ N) : iter (law10_InstrBackStep a0 a1 a2 a3 L n c N) N (.h1m0 v w) = some (.r0 true) := by
  rcases enc_two a0 a1 a2 a3 hN with p | ⟨nm, s0, s1, s2, w0, w1, w2, K, hz, p⟩
  · refine iter_up (n := 0 + 1 + 1) (by omega) ((iter_next (y := .h3m0 v w) ?_).trans (iter_done (h3 hb hv hw h20 hN)))
    show law10_InstrBack_h1m0 a0 a1 a2 a3 L n c N v w = _
    unfold law10_InstrBack_h1m0
    exact bind_to p <| ite_no (by decide) rfl
  · have l0 := K.l0.le; have l1 := K.l1.le; have l2 := K.l2.le
    have hl := encL_len a0 a1 a2 a3 w0 w1 w2
    have loop : ∀ d j f, j + d = (encL a0 a1 a2 a3 w0 w1 w2).length → d + 1 < f → iter (law10_InstrBackStep a0 a1 a2 a3 L n c N) f (.h2m1 v w (encL a0 a1 a2 a3 w0 w1 w2) j) = some (.r0 true) := by
      intro d
      induction d with
      | zero =>
        intro j f hj hf
        obtain ⟨f, rfl⟩ : ∃ g, f = g + 1 + 1 := ⟨f - 2, by omega⟩
        refine (iter_next (y := .h3m0 v w) ?_).trans (iter_done (h3 hb hv hw h20 hN))
        show law10_InstrBack_h2m1 a0 a1 a2 a3 L n c N v w _ j = _
        unfold law10_InstrBack_h2m1
        exact ite_no (by omega) rfl
      | succ d ih =>
        intro j f hj hf
        obtain ⟨f, rfl⟩ : ∃ g, f = g + 1 := ⟨f - 1, by omega⟩
        refine (iter_next (y := .h2m1 v w (encL a0 a1 a2 a3 w0 w1 w2) (j + 1)) ?_).trans (ih (j + 1) f (by omega) (by omega))
        show law10_InstrBack_h2m1 a0 a1 a2 a3 L n c N v w _ j = _
        unfold law10_InstrBack_h2m1
        exact ite_yes (by omega) <| bind_to (part K hN (by omega)) <| ite_no (by decide) <| ite_yes (by omega) rfl
    have hs : law10_InstrBackStep a0 a1 a2 a3 L n c N (.h1m0 v w) = some (.inl (.h2m1 v w (encL a0 a1 a2 a3 w0 w1 w2) 0)) := by
      show law10_InstrBack_h1m0 a0 a1 a2 a3 L n c N v w = _
      unfold law10_InstrBack_h1m0
      refine bind_to p <| ite_no (by omega) <| ite_yes (by omega) ?_
      by_cases h0 : v = 0
      · refine ite_yes h0 ?_
        obtain ⟨F, g⟩ := instr_Decode_forth (M := []) (c := 0 + (encL a0 a1 a2 a3 w0 w1 w2).length) K hN hz (fun x hx => by cases hx) (by decide) (by simp; omega)
        rw [List.append_nil] at F g
        refine bind_to (a := (.r1 a1 a2 a3 [] : instr_DecodeR)) (by rw [show 0 + (encL a0 a1 a2 a3 w0 w1 w2).length = 1 + w0 + w1 + w2 + ([] : List Int).length by simp; omega] at F ⊢; exact F) <| ite_no (fun h => h ⟨g, rfl, rfl, rfl⟩) <| ite_no (fun h => h (by rw [h0]; exact strB_self _)) rfl
      · have ht : (L.take v).length = v := by rw [List.length_take]; omega
        obtain ⟨F, g⟩ := instr_Decode_forth (M := L.take v) (c := 0 + (encL a0 a1 a2 a3 w0 w1 w2).length + v) K hN hz (byte_take hb v) (by omega) (by omega)
        refine ite_no h0 <| ite_yes (by omega) <| ite_yes hv <| bind_to (a := (.r1 a1 a2 a3 (L.take v) : instr_DecodeR)) (by rw [show 0 + (encL a0 a1 a2 a3 w0 w1 w2).length + v = 1 + w0 + w1 + w2 + (L.take v).length by omega] at F ⊢; exact F) <| ite_no (fun h => h ⟨g, rfl, rfl, rfl⟩) <| ite_no (fun h => h (strB_self _)) rfl
    obtain ⟨f, rfl⟩ : ∃ f, N = f + 1 := ⟨N - 1, by omega⟩
    exact (iter_next hs).trans (loop (encL a0 a1 a2 a3 w0 w1 w2).length 0 f (by omega) (by omega))
theorem runs (hb : ∀ i, i < L.length → 0 ≤ L.getD i 0 ∧ L.getD i 0 ≤ 255) (hc : L.length ≤ c) (hN : 2000 ≤ N) : law10_InstrBack a0 a1 a2 a3 L L.length c N = some (.r0 true) := by
  by_cases h : 20 < L.length
  · exact (goM_in (show law10_InstrBackIn a0 a1 a2 a3 L L.length c N = some (.inl (.h1m0 20 c)) from ite_yes (by omega) <| ite_yes (by omega) rfl)).trans (h1 (v := 20) (w := c) hb (by omega) (by omega) (by omega) hN)
  · exact (goM_in (show law10_InstrBackIn a0 a1 a2 a3 L L.length c N = some (.inl (.h1m0 L.length c)) from ite_no (by omega) rfl)).trans (h1 (v := L.length) (w := c) hb (by omega) (by omega) (by omega) hN)
theorem h3' : law10_InstrBack_2Step a0 a1 a2 a3 N .h3m0 = some (.inr (.r0 true)) := rfl
theorem runs2 (hN : 2000 ≤ N) : law10_InstrBack_2 a0 a1 a2 a3 N = some (.r0 true) := by
  refine (goM_in (show law10_InstrBack_2In a0 a1 a2 a3 N = some (.inl .h1m0) from rfl)).trans ?_
  rcases enc_two a0 a1 a2 a3 hN with p | ⟨nm, s0, s1, s2, w0, w1, w2, K, hz, p⟩
  · refine iter_up (n := 0 + 1 + 1) (by omega) ((iter_next (y := .h3m0) ?_).trans (iter_done h3'))
    show law10_InstrBack_2_h1m0 a0 a1 a2 a3 N = _
    unfold law10_InstrBack_2_h1m0
    exact bind_to p <| ite_no (by decide) rfl
  · have l0 := K.l0.le; have l1 := K.l1.le; have l2 := K.l2.le
    have hl := encL_len a0 a1 a2 a3 w0 w1 w2
    have loop : ∀ d j f, j + d = (encL a0 a1 a2 a3 w0 w1 w2).length → d + 1 < f → iter (law10_InstrBack_2Step a0 a1 a2 a3 N) f (.h2m1 (encL a0 a1 a2 a3 w0 w1 w2) j) = some (.r0 true) := by
      intro d
      induction d with
      | zero =>
        intro j f hj hf
        obtain ⟨f, rfl⟩ : ∃ g, f = g + 1 + 1 := ⟨f - 2, by omega⟩
        refine (iter_next (y := .h3m0) ?_).trans (iter_done h3')
        show law10_InstrBack_2_h2m1 a0 a1 a2 a3 N _ j = _
        unfold law10_InstrBack_2_h2m1
        exact ite_no (by omega) rfl
      | succ d ih =>
        intro j f hj hf
        obtain ⟨f, rfl⟩ : ∃ g, f = g + 1 := ⟨f - 1, by omega⟩
        refine (iter_next (y := .h2m1 (encL a0 a1 a2 a3 w0 w1 w2) (j + 1)) ?_).trans (ih (j + 1) f (by omega) (by omega))
        show law10_InstrBack_2_h2m1 a0 a1 a2 a3 N _ j = _
        unfold law10_InstrBack_2_h2m1
        exact ite_yes (by omega) <| bind_to (part K hN (by omega)) <| ite_no (by decide) <| ite_yes (by omega) rfl
    have hs : law10_InstrBack_2Step a0 a1 a2 a3 N .h1m0 = some (.inl (.h2m1 (encL a0 a1 a2 a3 w0 w1 w2) 0)) := by
      show law10_InstrBack_2_h1m0 a0 a1 a2 a3 N = _
      unfold law10_InstrBack_2_h1m0
      obtain ⟨F, g⟩ := instr_Decode_forth (M := []) (c := 0 + (encL a0 a1 a2 a3 w0 w1 w2).length) K hN hz (fun x hx => by cases hx) (by decide) (by simp; omega)
      rw [List.append_nil] at F g
      exact bind_to p <| ite_no (by omega) <| ite_yes (by omega) <| bind_to (a := (.r1 a1 a2 a3 [] : instr_DecodeR)) (by rw [show 0 + (encL a0 a1 a2 a3 w0 w1 w2).length = 1 + w0 + w1 + w2 + ([] : List Int).length by simp; omega] at F ⊢; exact F) <| ite_no (fun h => h ⟨g, rfl, rfl, rfl⟩) <| ite_no (fun h => h (strB_self _)) rfl
    obtain ⟨f, rfl⟩ : ∃ f, N = f + 1 := ⟨N - 1, by omega⟩
    exact (iter_next hs).trans (loop (encL a0 a1 a2 a3 w0 w1 w2).length 0 f (by omega) (by omega))
end Ik
end Ev
end Go.Proofs.Ytcialenmjhiknaa
