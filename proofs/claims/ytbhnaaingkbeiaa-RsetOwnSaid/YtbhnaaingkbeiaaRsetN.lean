/- The law RsetOwn, for every input, by the runner. -/
import Derived.Test.YtbhnaaingkbeiaaFlat
namespace Go.Proofs.Ytbhnaaingkbeiaa
open Go.ChangeShapes Go.WideShapes Go.ChangeAt Go.RowKit
namespace Ev

noncomputable def cellTs0 : List TypeId := (Try.prog.cellTypes Try.prog.depth 34).getD []
set_option maxRecDepth 100000
theorem walk (a b c : Int) (w : World) : Calls Try.prog 5 #[.agg #[.int .u8 a, .int .i64 b, .int .i64 c]] w (Ret (.bool true) w) :=
  ret_rel 40000 (args := #[.agg #[.int .u8 a, .int .i64 b, .int .i64 c]]) (orc := orcs [] []) (ob := []) w (by kernel_rfl) (by simp) (VRl_cons (.aggl (VRl_cons (.atom rfl) (VRl_cons (.atom rfl) (VRl_cons (.atom rfl) VRl_nil)))) VRl_nil)
namespace RsetOwn
set_option linter.unusedVariables false
theorem own : ownKnob Try.prog.godebug = none := by kernel_rfl
set_option maxRecDepth 100000 in
theorem lifted (os : Os) (started : os.Started) (H : Type) (enc : TypeId × Value → H) :
    ReturnsInHanded {} Try.checked os 5 .any (Rows.rsetOwnSpec.pre6 enc Try.prog Try.f5 Rows.rsetOwnRow.domain false) (Rows.rsetOwnSpec.post enc Try.prog Try.f5 false true false false) := by
  refine law_frame (C := Try.checked) own started (by kernel_rfl) Try.func5 rfl rfl Try.underlying4 ?_ (by kernel_rfl) (by kernel_rfl)
    (ChangeSpec.witness6 (enc := enc) (C := Try.checked) false ⟨#[], #[.agg #[.int .u8 0, .int .i64 0, .int .i64 0]], []⟩ 8 (by kernel_rfl) (by kernel_rfl) (by kernel_rfl) (by kernel_rfl)) ?_
  · intro ds hlen
    have hlen : ds.length = 1 := hlen.trans (by kernel_rfl)
    match ds, hlen with
    | [_], _ => rfl
  intro W base args ds p hval hA hlt hsz
  rw [Try.params5] at hA hval
  obtain ⟨v0, vs0, d0, ds0, p0, q0, hargs, rfl, rfl, h0, r0⟩ := trodAll_cons hA
  obtain ⟨rfl, rfl, rfl⟩ := trodAll_nil r0
  obtain rfl : args = #[v0] := by cases args; simp_all
  obtain ⟨cs0, rfl, hl0, hc0⟩ := okWide_cells (ts := cellTs0) (by kernel_rfl) (by kernel_rfl) (by kernel_rfl) (hval 0 34 v0 rfl rfl)
  match cs0, hl0 with
  | [x0_0, x0_1, x0_2], _ =>
  obtain ⟨z0_0, rfl, w0_0⟩ := okWide_int (k := .u8) (by kernel_rfl) (hc0 0 _ _ rfl rfl)
  obtain ⟨z0_1, rfl, w0_1⟩ := okWide_int (k := .i64) (by kernel_rfl) (hc0 1 _ _ rfl rfl)
  obtain ⟨z0_2, rfl, w0_2⟩ := okWide_int (k := .i64) (by kernel_rfl) (hc0 2 _ _ rfl rfl)
  exact walk z0_0 z0_1 z0_2 W
theorem over : Rows.rsetOwnRow.holds Try.pinned (OpenSpec.ofChange Rows.rsetOwnSpec) :=
  OpenClaim.holds_of_wide 5 Try.f5 rfl rfl rfl rfl rfl rfl rfl ⟨rfl, rfl, rfl, rfl, rfl⟩ rfl rfl rfl rfl rfl (by kernel_rfl) Try.func5 (by kernel_rfl)
    (of_decide_eq_true (by kernel_rfl)) (by unfold Func.isWrapper; first | (rw [if_pos (by decide +kernel)]; kernel_rfl) | (rw [if_neg (by decide +kernel)]; exact ⟨rfl, rfl⟩))
    (fun os started H enc _ => lifted os started H enc)
/-- The statement. -/
theorem proved : Rows.RsetOwnSaid := over
#print axioms proved
end RsetOwn
end Ev
end Go.Proofs.Ytbhnaaingkbeiaa
