/- Paths of a law, by the runner. -/
import Derived.Test.YtiigdpfdibfkgaaGreatFlat
namespace Go.Proofs.YtiigdpfdibfkgaaGreat
open Go.ChangeShapes Go.WideShapes Go.ChangeAt Go.RowKit
namespace Ev
set_option maxRecDepth 100000
namespace MachineNobody
theorem band {a b : Bool} (h : a = true) (k : b = true) : (a && b) = true := by rw [h, k]; rfl
theorem jl0 : ((Rows.machineNobodyRow).wf (OpenSpec.ofChange (Rows.machineNobodySpec))) = true := by kernel_rfl
theorem jl1 : (laidOutB (Tryz.pinned.checked.prog)) = true := by kernel_rfl
theorem jl2 : (mapsRowed (Tryz.pinned.checked.prog)) = true := by kernel_rfl
theorem jl3 : ((Tryz.f3).params.all ((Tryz.pinned.checked.prog).readableRec ·)) = true := by kernel_rfl
theorem jl4 : (namedTie (Tryz.pinned.checked.prog) (Rows.machineNobodyRow).named (Rows.machineNobodySpec).vars) = true := by kernel_rfl
theorem jl5 : (((Rows.machineNobodyRow).stops == [])) = true := by kernel_rfl
theorem jl6 : (((Tryz.pinned.checked.prog).stops == [])) = true := by kernel_rfl
theorem jl7 : (((Rows.machineNobodyRow).knobs == [])) = true := by kernel_rfl
theorem jl8 : (((Tryz.pinned.checked.prog).stopKnobs == [])) = true := by kernel_rfl
theorem jl9 : (((Rows.machineNobodyRow).inPlace == (Tryz.pinned.checked.prog).inPlace 3)) = true := by kernel_rfl
theorem jl10 : (((Rows.machineNobodyRow).unfollowed == (Tryz.pinned.checked.prog).unfollowed 3)) = true := by kernel_rfl
theorem jl11 : (((Rows.machineNobodyRow).recurses == (Tryz.pinned.checked.prog).recurses 3)) = true := by kernel_rfl
theorem jl12 : (((Rows.machineNobodyRow).named == (Tryz.pinned.checked.prog).varsNamed 3)) = true := by kernel_rfl
theorem jl13 : (((Rows.machineNobodyRow).maps == ((Tryz.f3).params.toList ++ (Rows.machineNobodySpec).plain.varTypes (Tryz.pinned.checked.prog)).any ((Tryz.pinned.checked.prog).mapsRec ·))) = true := by kernel_rfl
theorem jl14 : (((Rows.machineNobodyRow).ifaces == ((Tryz.f3).params.toList ++ (Rows.machineNobodySpec).plain.varTypes (Tryz.pinned.checked.prog)).any ((Tryz.pinned.checked.prog).ifacesRec ·))) = true := by kernel_rfl
theorem jl15 : (((Rows.machineNobodyRow).mapsOut == (Tryz.pinned.checked.prog).mapsAmong (Tryz.f3).resultTypes.toList)) = true := by kernel_rfl
theorem jl16 : (((Rows.machineNobodyRow).loops == ((Tryz.f3).params.toList ++ (Rows.machineNobodySpec).plain.varTypes (Tryz.pinned.checked.prog)).any ((Tryz.pinned.checked.prog).loopsFrom ·))) = true := by kernel_rfl
theorem jl17 : (((Rows.machineNobodyRow).wideKeys == ((Tryz.f3).params.toList ++ (Rows.machineNobodySpec).plain.varTypes (Tryz.pinned.checked.prog) ++ (Tryz.f3).resultTypes.toList).any ((Tryz.pinned.checked.prog).wideKeysFrom ·))) = true := by kernel_rfl
theorem jl18 : ((Rows.machineNobodySpec).vars.all ((Tryz.pinned.checked.prog).varReadable ·)) = true := by kernel_rfl
theorem jl19 : ((Tryz.f3).resultTypes.all (fun tt => (Tryz.pinned.checked.prog).readableRec tt && decide (tt < (Tryz.pinned.checked.prog).types.size))) = true := by kernel_rfl
theorem jl20 : (((Rows.machineNobodyRow).ifacesOut == (Tryz.f3).resultTypes.toList.any ((Tryz.pinned.checked.prog).ifacesRec ·))) = true := by kernel_rfl
theorem jl21 : (((Rows.machineNobodyRow).loopsOut == (Tryz.f3).resultTypes.toList.any ((Tryz.pinned.checked.prog).loopsFrom ·))) = true := by kernel_rfl
theorem jl22 : (((Rows.machineNobodyRow).plainKeys == (Tryz.pinned.checked.prog).plainKeys)) = true := by kernel_rfl
theorem jl23 : ((Rows.machineNobodyRow).shortTexts.isNone) = true := by kernel_rfl
theorem jl24 : ((Tryz.pinned.checked.prog).stopsHeard) = true := by kernel_rfl
theorem jl25 : ((Tryz.pinned.checked.prog).mayEnter) = true := by kernel_rfl
theorem jl26 : (((Rows.machineNobodyRow).lifted == (Tryz.pinned.checked.prog).liftsFinal)) = true := by kernel_rfl
theorem jl27 : (((Tryz.pinned.checked.prog).make == some (Rows.machineNobodyRow).make)) = true := by kernel_rfl
theorem jl28 : (((Rows.machineNobodyRow).kinds == (if (Rows.machineNobodyRow).domain.isEmpty then [] else (Tryz.f3).params.toList.map fun tt => match (Tryz.pinned.checked.prog).underlying tt with | some (.int k) => some k | _ => none))) = true := by kernel_rfl
theorem jl29 : (((Rows.machineNobodyRow).pinned == (Rows.machineNobodyRow).pinnedBy)) = true := by kernel_rfl
theorem jl30 : (((Rows.machineNobodyRow).veiled == ((Tryz.f3).params.toList ++ (Rows.machineNobodySpec).plain.varTypes (Tryz.pinned.checked.prog) ++ (Tryz.f3).resultTypes.toList).any ((Tryz.pinned.checked.prog).veiledRec ·))) = true := by kernel_rfl
theorem jl31 : ((Rows.machineNobodyRow).veiledFits (Tryz.pinned.checked.prog) (Tryz.f3).params.toList ((Tryz.f3).params.toList ++ (Rows.machineNobodySpec).plain.varTypes (Tryz.pinned.checked.prog) ++ (Tryz.f3).resultTypes.toList)) = true := by kernel_rfl
theorem closed : joinedFacts Tryz.pinned.checked.prog 3 Tryz.f3 Rows.machineNobodySpec Rows.machineNobodyRow = true := (band (band (band (band (band (band (band (band (band (band (band (band (band (band (band (band (band (band (band (band (band (band (band (band (band (band (band (band (band (band (band jl0 jl1) jl2) jl3) jl4) jl5) jl6) jl7) jl8) jl9) jl10) jl11) jl12) jl13) jl14) jl15) jl16) jl17) jl18) jl19) jl20) jl21) jl22) jl23) jl24) jl25) jl26) jl27) jl28) jl29) jl30) jl31)
end MachineNobody
end Ev
end Go.Proofs.YtiigdpfdibfkgaaGreat
