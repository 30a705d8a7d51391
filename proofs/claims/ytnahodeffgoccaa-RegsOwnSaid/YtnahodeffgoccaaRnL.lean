/- The law RegsOwn, for every input. -/
import Derived.Test.YtnahodeffgoccaaEvU
import Derived.Test.YtnahodeffgoccaaRnq2
import Derived.Test.YtnahodeffgoccaaRnt
import Derived.Test.YtnahodeffgoccaaTail
namespace Go.Proofs.Ytnahodeffgoccaa
open Go.ChangeShapes Go.WideShapes Go.ChangeAt Go.RowKit
namespace Ev
namespace RegsOwn
set_option linter.unusedVariables false
noncomputable def cellTs0 : List TypeId := (Try.prog.cellTypes Try.prog.depth 25).getD []
noncomputable def cellTs1 : List TypeId := (Try.prog.cellTypes Try.prog.depth 28).getD []
noncomputable def cellTs2 : List TypeId := (Try.prog.cellTypes Try.prog.depth 24).getD []
noncomputable def cellTs3 : List TypeId := (Try.prog.cellTypes Try.prog.depth 24).getD []
theorem own : ownKnob Try.prog.godebug = none := by kernel_rfl
set_option maxRecDepth 100000 in
theorem lifted (os : Os) (started : os.Started) (H : Type) (enc : TypeId × Value → H) :
    ReturnsInHanded {} Try.checked os 5 .any (Rows.regsOwnSpec.pre6 enc Try.prog Try.f5 Rows.regsOwnRow.domain false) (Rows.regsOwnSpec.post enc Try.prog Try.f5 false true false false) := by
  refine law_frame (C := Try.checked) own started (by kernel_rfl) Try.func5 rfl rfl Try.underlying4 ?_ (by kernel_rfl) (by kernel_rfl)
    (ChangeSpec.witness6 (enc := enc) (C := Try.checked) false ⟨#[], #[.agg #[.int .i64 0, .int .i64 0, .int .i64 0, .int .i64 0, .int .i64 0, .int .i64 0, .int .i64 0, .int .i64 0, .int .i64 0, .int .i64 0, .int .i64 0, .int .i64 0, .int .i64 0, .int .i64 0, .int .i64 0, .int .i64 0], .agg #[.int .i64 0, .int .i64 0, .int .i64 0, .int .i64 0], .agg #[.int .i64 0, .int .i64 0], .agg #[.int .i64 0, .int .i64 0], .int .u8 0], []⟩ 8 (by kernel_rfl) (by kernel_rfl) (by kernel_rfl) (by kernel_rfl)) ?_
  · intro ds hlen
    have hlen : ds.length = 5 := hlen.trans (by kernel_rfl)
    match ds, hlen with
    | [_, _, _, _, _], _ => rfl
  intro W base args ds p hval hA hlt hsz
  rw [Try.params5] at hA hval
  obtain ⟨v0, vs0, d0, ds0, p0, q0, hargs, rfl, rfl, h0, r0⟩ := trodAll_cons hA
  obtain ⟨v1, vs1, d1, ds1, p1, q1, rfl, rfl, rfl, h1, r1⟩ := trodAll_cons r0
  obtain ⟨v2, vs2, d2, ds2, p2, q2, rfl, rfl, rfl, h2, r2⟩ := trodAll_cons r1
  obtain ⟨v3, vs3, d3, ds3, p3, q3, rfl, rfl, rfl, h3, r3⟩ := trodAll_cons r2
  obtain ⟨v4, vs4, d4, ds4, p4, q4, rfl, rfl, rfl, h4, r4⟩ := trodAll_cons r3
  obtain ⟨rfl, rfl, rfl⟩ := trodAll_nil r4
  obtain rfl : args = #[v0, v1, v2, v3, v4] := by cases args; simp_all
  obtain ⟨cs0, rfl, hl0, hc0⟩ := okWide_cells (ts := cellTs0) (by kernel_rfl) (by kernel_rfl) (by kernel_rfl) (hval 0 25 v0 rfl rfl)
  match cs0, hl0 with
  | [x0_0, x0_1, x0_2, x0_3, x0_4, x0_5, x0_6, x0_7, x0_8, x0_9, x0_10, x0_11, x0_12, x0_13, x0_14, x0_15], _ =>
  obtain ⟨z0_0, rfl, w0_0⟩ := okWide_int (k := .i64) (by kernel_rfl) (hc0 0 _ _ rfl rfl)
  obtain ⟨z0_1, rfl, w0_1⟩ := okWide_int (k := .i64) (by kernel_rfl) (hc0 1 _ _ rfl rfl)
  obtain ⟨z0_2, rfl, w0_2⟩ := okWide_int (k := .i64) (by kernel_rfl) (hc0 2 _ _ rfl rfl)
  obtain ⟨z0_3, rfl, w0_3⟩ := okWide_int (k := .i64) (by kernel_rfl) (hc0 3 _ _ rfl rfl)
  obtain ⟨z0_4, rfl, w0_4⟩ := okWide_int (k := .i64) (by kernel_rfl) (hc0 4 _ _ rfl rfl)
  obtain ⟨z0_5, rfl, w0_5⟩ := okWide_int (k := .i64) (by kernel_rfl) (hc0 5 _ _ rfl rfl)
  obtain ⟨z0_6, rfl, w0_6⟩ := okWide_int (k := .i64) (by kernel_rfl) (hc0 6 _ _ rfl rfl)
  obtain ⟨z0_7, rfl, w0_7⟩ := okWide_int (k := .i64) (by kernel_rfl) (hc0 7 _ _ rfl rfl)
  obtain ⟨z0_8, rfl, w0_8⟩ := okWide_int (k := .i64) (by kernel_rfl) (hc0 8 _ _ rfl rfl)
  obtain ⟨z0_9, rfl, w0_9⟩ := okWide_int (k := .i64) (by kernel_rfl) (hc0 9 _ _ rfl rfl)
  obtain ⟨z0_10, rfl, w0_10⟩ := okWide_int (k := .i64) (by kernel_rfl) (hc0 10 _ _ rfl rfl)
  obtain ⟨z0_11, rfl, w0_11⟩ := okWide_int (k := .i64) (by kernel_rfl) (hc0 11 _ _ rfl rfl)
  obtain ⟨z0_12, rfl, w0_12⟩ := okWide_int (k := .i64) (by kernel_rfl) (hc0 12 _ _ rfl rfl)
  obtain ⟨z0_13, rfl, w0_13⟩ := okWide_int (k := .i64) (by kernel_rfl) (hc0 13 _ _ rfl rfl)
  obtain ⟨z0_14, rfl, w0_14⟩ := okWide_int (k := .i64) (by kernel_rfl) (hc0 14 _ _ rfl rfl)
  obtain ⟨z0_15, rfl, w0_15⟩ := okWide_int (k := .i64) (by kernel_rfl) (hc0 15 _ _ rfl rfl)
  obtain ⟨cs1, rfl, hl1, hc1⟩ := okWide_cells (ts := cellTs1) (by kernel_rfl) (by kernel_rfl) (by kernel_rfl) (hval 1 28 v1 rfl rfl)
  match cs1, hl1 with
  | [x1_0, x1_1, x1_2, x1_3], _ =>
  obtain ⟨z1_0, rfl, w1_0⟩ := okWide_int (k := .i64) (by kernel_rfl) (hc1 0 _ _ rfl rfl)
  obtain ⟨z1_1, rfl, w1_1⟩ := okWide_int (k := .i64) (by kernel_rfl) (hc1 1 _ _ rfl rfl)
  obtain ⟨z1_2, rfl, w1_2⟩ := okWide_int (k := .i64) (by kernel_rfl) (hc1 2 _ _ rfl rfl)
  obtain ⟨z1_3, rfl, w1_3⟩ := okWide_int (k := .i64) (by kernel_rfl) (hc1 3 _ _ rfl rfl)
  obtain ⟨cs2, rfl, hl2, hc2⟩ := okWide_cells (ts := cellTs2) (by kernel_rfl) (by kernel_rfl) (by kernel_rfl) (hval 2 24 v2 rfl rfl)
  match cs2, hl2 with
  | [x2_0, x2_1], _ =>
  obtain ⟨z2_0, rfl, w2_0⟩ := okWide_int (k := .i64) (by kernel_rfl) (hc2 0 _ _ rfl rfl)
  obtain ⟨z2_1, rfl, w2_1⟩ := okWide_int (k := .i64) (by kernel_rfl) (hc2 1 _ _ rfl rfl)
  obtain ⟨cs3, rfl, hl3, hc3⟩ := okWide_cells (ts := cellTs3) (by kernel_rfl) (by kernel_rfl) (by kernel_rfl) (hval 3 24 v3 rfl rfl)
  match cs3, hl3 with
  | [x3_0, x3_1], _ =>
  obtain ⟨z3_0, rfl, w3_0⟩ := okWide_int (k := .i64) (by kernel_rfl) (hc3 0 _ _ rfl rfl)
  obtain ⟨z3_1, rfl, w3_1⟩ := okWide_int (k := .i64) (by kernel_rfl) (hc3 1 _ _ rfl rfl)
  obtain ⟨z4, rfl, w4⟩ := okWide_int (k := .u8) (by kernel_rfl) (okWide_one (by kernel_rfl) (hval 4 5 v4 rfl rfl))
  exact law_of (law14_RegsOwn_spec z0_0 z0_1 z0_2 z0_3 z0_4 z0_5 z0_6 z0_7 z0_8 z0_9 z0_10 z0_11 z0_12 z0_13 z0_14 z0_15 z1_0 z1_1 z1_2 z1_3 z2_0 z2_1 z3_0 z3_1 z4  100000 _ (Rn.runs z0_0 z0_1 z0_2 z0_3 z0_4 z0_5 z0_6 z0_7 z0_8 z0_9 z0_10 z0_11 z0_12 z0_13 z0_14 z0_15 z1_0 z1_1 z1_2 z1_3 z2_0 z2_1 z3_0 z3_1 z4 (by first | exact w4.1 | exact w4) (by first | exact w4.2 | exact w4))) [] rfl hro_nil (VRl_cons (VR.of_free1 rfl) (VRl_cons (VR.of_free1 rfl) (VRl_cons (VR.of_free1 rfl) (VRl_cons (VR.of_free1 rfl) (VRl_cons (.atom rfl) VRl_nil))))) rfl
theorem over : Rows.regsOwnRow.holds Try.pinned (OpenSpec.ofChange Rows.regsOwnSpec) :=
  OpenClaim.holds_of_wide 5 Try.f5 rfl rfl rfl rfl rfl rfl rfl ⟨rfl, rfl, rfl, rfl, rfl⟩ rfl rfl rfl rfl rfl (by kernel_rfl) Try.func5 (by kernel_rfl)
    (of_decide_eq_true (by kernel_rfl)) (by unfold Func.isWrapper; first | (rw [if_pos (by decide +kernel)]; kernel_rfl) | (rw [if_neg (by decide +kernel)]; exact ⟨rfl, rfl⟩))
    (fun os started H enc _ => lifted os started H enc)
/-- The statement. -/
theorem proved : Rows.RegsOwnSaid := over
#print axioms proved
end RegsOwn
end Ev
end Go.Proofs.Ytnahodeffgoccaa
