/- The law CheckBounds, for every input. -/
import Derived.Test.YtcpgeokpkbmkiaaEvU
import Derived.Test.YtcpgeokpkbmkiaaKbq3
import Derived.Test.YtcpgeokpkbmkiaaKbt
import Derived.Test.YtcpgeokpkbmkiaaTail
namespace Go.Proofs.Ytcpgeokpkbmkiaa
open Go.ChangeShapes Go.WideShapes Go.ChangeAt Go.RowKit
namespace Ev
namespace CheckBounds
set_option linter.unusedVariables false
theorem own : ownKnob Try.prog.godebug = none := by kernel_rfl
set_option maxRecDepth 100000 in
theorem lifted (os : Os) (started : os.Started) (H : Type) (enc : TypeId × Value → H) :
    ReturnsInHanded {} Try.checked os 7 .any (Rows.checkBoundsSpec.pre6 enc Try.prog Try.f7 Rows.checkBoundsRow.domain false) (Rows.checkBoundsSpec.post enc Try.prog Try.f7 false true false false) := by
  refine law_frame (C := Try.checked) own started (by kernel_rfl) Try.func7 rfl rfl Try.underlying4 ?_ (by kernel_rfl) (by kernel_rfl)
    (ChangeSpec.witness6 (enc := enc) (C := Try.checked) false ⟨#[], #[.int .u8 0, .int .u8 0], []⟩ 8 (by kernel_rfl) (by kernel_rfl) (by kernel_rfl) (by kernel_rfl)) ?_
  · intro ds hlen
    have hlen : ds.length = 2 := hlen.trans (by kernel_rfl)
    match ds, hlen with
    | [_, _], _ => rfl
  intro W base args ds p hval hA hlt hsz
  rw [Try.params7] at hA hval
  obtain ⟨v0, vs0, d0, ds0, p0, q0, hargs, rfl, rfl, h0, r0⟩ := trodAll_cons hA
  obtain ⟨v1, vs1, d1, ds1, p1, q1, rfl, rfl, rfl, h1, r1⟩ := trodAll_cons r0
  obtain ⟨rfl, rfl, rfl⟩ := trodAll_nil r1
  obtain rfl : args = #[v0, v1] := by cases args; simp_all
  obtain ⟨z0, rfl, w0⟩ := okWide_int (k := .u8) (by kernel_rfl) (okWide_one (by kernel_rfl) (hval 0 5 v0 rfl rfl))
  obtain ⟨z1, rfl, w1⟩ := okWide_int (k := .u8) (by kernel_rfl) (okWide_one (by kernel_rfl) (hval 1 5 v1 rfl rfl))
  exact law_of (law12_CheckBounds_spec z0 z1  100000 _ (Kb.runs z0 z1 (by first | exact w0.1 | exact w0) (by first | exact w0.2 | exact w0) (by first | exact w1.1 | exact w1) (by first | exact w1.2 | exact w1))) [] rfl hro_nil (VRl_cons (.atom rfl) (VRl_cons (.atom rfl) VRl_nil)) rfl
theorem over : Rows.checkBoundsRow.holds Try.pinned (OpenSpec.ofChange Rows.checkBoundsSpec) :=
  OpenClaim.holds_of_wide 7 Try.f7 rfl rfl rfl rfl rfl rfl rfl ⟨rfl, rfl, rfl, rfl, rfl⟩ rfl rfl rfl rfl rfl (by kernel_rfl) Try.func7 (by kernel_rfl)
    (of_decide_eq_true (by kernel_rfl)) (by unfold Func.isWrapper; first | (rw [if_pos (by decide +kernel)]; kernel_rfl) | (rw [if_neg (by decide +kernel)]; exact ⟨rfl, rfl⟩))
    (fun os started H enc _ => lifted os started H enc)
/-- The statement. -/
theorem proved : Rows.CheckBoundsSaid := over
#print axioms proved
end CheckBounds
end Ev
end Go.Proofs.Ytcpgeokpkbmkiaa
