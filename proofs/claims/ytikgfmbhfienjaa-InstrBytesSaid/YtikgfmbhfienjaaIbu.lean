/- InstrBytes: join and get, and the bytes of a number. -/
import Derived.Test.YtikgfmbhfienjaaIbr
import Derived.Test.YtikgfmbhfienjaaBits
namespace Go.Proofs.Ytikgfmbhfienjaa
open Go.RowKit
namespace Ev
set_option linter.unusedVariables false
set_option linter.unusedSimpArgs false
theorem join_get {L : List Int} {n2 n3 n4 n5 N : Nat} (hb : ∀ i, i < L.length → 0 ≤ L.getD i 0 ∧ L.getD i 0 ≤ 255) (hn : n3 + n2 ≤ L.length) (h3 : n3 ≤ 100) (hN : 2000 ≤ N) :
    ∃ z, instr_join L n2 n3 n4 N = some (.r0 z) ∧ ref10_get L n2 n3 n5 N = some (.r0 z) := by
  unfold instr_join ref10_get
  have loop : ∀ d j f v, j + d = n3 → d < f → ∃ z, iter (instr_joinStep L n2 n3 n4 N) f (.h1m0 v j) = some (.r0 z) ∧ iter (ref10_getStep L n2 n3 n5 N) f (.h1m0 v j) = some (.r0 z) := by
    intro d
    induction d with
    | zero =>
      intro j f v hj hf
      obtain ⟨f, rfl⟩ : ∃ g, f = g + 1 := ⟨f - 1, by omega⟩
      refine ⟨IntKind.i64.wrap v, iter_done ?_, iter_done ?_⟩
      · show instr_join_h1m0 L n2 n3 n4 N v j = _
        unfold instr_join_h1m0
        exact ite_no (by omega) rfl
      · show ref10_get_h1m0 L n2 n3 n5 N v j = _
        unfold ref10_get_h1m0
        exact ite_no (by omega) rfl
    | succ d ih =>
      intro j f v hj hf
      obtain ⟨f, rfl⟩ : ∃ g, f = g + 1 := ⟨f - 1, by omega⟩
      obtain ⟨b0, b1⟩ := hb (j + n2) (by omega)
      obtain ⟨z, g1, g2⟩ := ih (j + 1) f (IntKind.u64.wrap (IntKind.u64.wrap ((256 : Int) * v) + L.getD (j + n2) 0)) (by omega) (by omega)
      refine ⟨z, (iter_next ?_).trans g1, (iter_next ?_).trans g2⟩
      · show instr_join_h1m0 L n2 n3 n4 N v j = _
        unfold instr_join_h1m0
        rw [or_shift b0 b1]
        exact ite_yes (by omega) (ite_yes (by omega) (ite_yes b0 (ite_yes (by omega) (ite_yes (by omega) rfl))))
      · show ref10_get_h1m0 L n2 n3 n5 N v j = _
        unfold ref10_get_h1m0
        exact ite_yes (by omega) (ite_yes (by omega) (ite_yes b0 (ite_yes (by omega) (ite_yes (by omega) rfl))))
  exact loop n3 0 N 0 (by omega) (by omega)
end Ev
end Go.Proofs.Ytikgfmbhfienjaa
