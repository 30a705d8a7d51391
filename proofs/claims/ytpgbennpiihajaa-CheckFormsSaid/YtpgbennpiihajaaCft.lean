/- CheckForms: what the plain functions come to. -/
import Derived.Test.YtpgbennpiihajaaCh
namespace Go.Proofs.Ytpgbennpiihajaa
open Go.RowKit
namespace Ev
set_option linter.unusedVariables false
set_option linter.unusedSimpArgs false

namespace Cf
theorem wrong_P {L : List R_iiii} {n c N : Nat} (hn : n ≤ L.length) (hL : n ≤ 512) (hN : 520 ≤ N) : check_Wrong L n c N = some (.r0 (wrongP L n N)) := by
  obtain ⟨r, h1, h2, h3, h4⟩ := look_all (c := c) hn hL hN
  rw [← h2]
  refine bind_to h1 ?_
  cases r <;> rfl
theorem runs (L : List R_iiii) (n c : Nat) (hn : n ≤ L.length) (hc : n ≤ c) : law12_CheckForms L n c 100000 = some (.r0 true) := by
  unfold law12_CheckForms
  refine ite_eq (fun h => ite_yes (by omega) ?_) (fun h => ?_)
  · refine bind_to (wrong_P (by omega) (by omega) (by decide)) (bind_to (rwrong_is (by omega) (by omega) (by decide)) (ite_yes rfl (bind_to (check_P (by omega) (by omega) (by decide)) (bind_to (rcheck_is (by omega) (by omega) (by decide)) (ite_yes rfl rfl)))))
  · refine bind_to (wrong_P (by omega) (by omega) (by decide)) (bind_to (rwrong_is (by omega) (by omega) (by decide)) (ite_yes rfl (bind_to (check_P (by omega) (by omega) (by decide)) (bind_to (rcheck_is (by omega) (by omega) (by decide)) (ite_yes rfl rfl)))))
theorem runs2 : law12_CheckForms_2 100000 = some .r0 := rfl
end Cf
end Ev
end Go.Proofs.Ytpgbennpiihajaa
