/- The law TxnNobody, for every input. -/
import Derived.Test.YtlcnhdejolkdmaaGreatFlat
import Derived.Test.YtlcnhdejolkdmaaGreatTail
namespace Go.Proofs.YtlcnhdejolkdmaaGreat
open Go.ChangeShapes Go.WideShapes Go.ChangeAt Go.RowKit
namespace Ev
namespace TxnNobody
set_option linter.unusedVariables false
noncomputable def cellTs0 : List TypeId := (Tryz.prog.cellTypes Tryz.prog.depth 29).getD []
set_option maxRecDepth 100000
theorem walk (z0_0 : Int) (z0_1 : Int) (z0_2 : Int) (z0_3 : Int) (z0_4 : Int) (z0_5 : Int) (z0_6 : Int) (z0_7 : Int) (z0_8 : Int) (z0_9 : Int) (z0_10 : Int) (z0_11 : Int) (z1 : Int) (w : World) : Calls Tryz.prog 3 #[.agg #[.int .i64 z0_0, .int .i64 z0_1, .int .i64 z0_2, .int .i64 z0_3, .int .i64 z0_4, .int .i64 z0_5, .int .i64 z0_6, .int .i64 z0_7, .int .i64 z0_8, .int .i64 z0_9, .int .i64 z0_10, .int .i64 z0_11], .int .i64 z1] w (Ret (.bool true) w) :=
  ret_rel 40000 (args := #[.agg #[.int .i64 z0_0, .int .i64 z0_1, .int .i64 z0_2, .int .i64 z0_3, .int .i64 z0_4, .int .i64 z0_5, .int .i64 z0_6, .int .i64 z0_7, .int .i64 z0_8, .int .i64 z0_9, .int .i64 z0_10, .int .i64 z0_11], .int .i64 z1]) (orc := orcs [] []) (ob := []) w (by kernel_rfl) (by simp) (VRl_cons (.aggl (VRl_cons (.atom rfl) (VRl_cons (.atom rfl) (VRl_cons (.atom rfl) (VRl_cons (.atom rfl) (VRl_cons (.atom rfl) (VRl_cons (.atom rfl) (VRl_cons (.atom rfl) (VRl_cons (.atom rfl) (VRl_cons (.atom rfl) (VRl_cons (.atom rfl) (VRl_cons (.atom rfl) (VRl_cons (.atom rfl) VRl_nil))))))))))))) (VRl_cons (.atom rfl) VRl_nil))
theorem own : ownKnob Tryz.prog.godebug = none := by kernel_rfl
set_option maxRecDepth 100000 in
theorem lifted (os : Os) (started : os.Started) (H : Type) (enc : TypeId × Value → H) :
    ReturnsInHanded {} Tryz.checked os 3 .any (Rows.txnNobodySpec.pre6 enc Tryz.prog Tryz.f3 Rows.txnNobodyRow.domain false) (Rows.txnNobodySpec.post enc Tryz.prog Tryz.f3 false true false false) := by
  refine law_frame (C := Tryz.checked) own started (by kernel_rfl) Tryz.func3 rfl rfl Tryz.underlying4 ?_ (by kernel_rfl) (by kernel_rfl)
    (ChangeSpec.witness6 (enc := enc) (C := Tryz.checked) false ⟨#[], #[.agg #[.int .i64 0, .int .i64 0, .int .i64 0, .int .i64 0, .int .i64 0, .int .i64 0, .int .i64 0, .int .i64 0, .int .i64 0, .int .i64 0, .int .i64 0, .int .i64 0], .int .i64 0], []⟩ 8 (by kernel_rfl) (by kernel_rfl) (by kernel_rfl) (by kernel_rfl)) ?_
  · intro ds hlen
    have hlen : ds.length = 2 := hlen.trans (by kernel_rfl)
    match ds, hlen with
    | [_, _], _ => rfl
  intro W base args ds p hval hA hlt hsz
  rw [Tryz.params3] at hA hval
  obtain ⟨v0, vs0, d0, ds0, p0, q0, hargs, rfl, rfl, h0, r0⟩ := trodAll_cons hA
  obtain ⟨v1, vs1, d1, ds1, p1, q1, rfl, rfl, rfl, h1, r1⟩ := trodAll_cons r0
  obtain ⟨rfl, rfl, rfl⟩ := trodAll_nil r1
  obtain rfl : args = #[v0, v1] := by cases args; simp_all
  obtain ⟨cs0, rfl, hl0, hc0⟩ := okWide_cells (ts := cellTs0) (by kernel_rfl) (by kernel_rfl) (by kernel_rfl) (hval 0 29 v0 rfl rfl)
  match cs0, hl0 with
  | [x0_0, x0_1, x0_2, x0_3, x0_4, x0_5, x0_6, x0_7, x0_8, x0_9, x0_10, x0_11], _ =>
  obtain ⟨z0_0, rfl, w0_0⟩ := okWide_int (k := .i64) (by kernel_rfl) (hc0 0 _ _ rfl rfl)
  obtain ⟨z0_1, rfl, w0_1⟩ := okWide_int (k := .i64) (by kernel_rfl) (hc0 1 _ _ rfl rfl)
  obtain ⟨z0_2, rfl, w0_2⟩ := okWide_int (k := .i64) (by kernel_rfl) (hc0 2 _ _ rfl rfl)
  obtain ⟨z0_3, rfl, w0_3⟩ := okWide_int (k := .i64) (by kernel_rfl) (hc0 3 _ _ rfl rfl)
  obtain ⟨z0_4, rfl, w0_4⟩ := okWide_int (k := .i64) (by kernel_rfl) (hc0 4 _ _ rfl rfl)
  obtain ⟨z0_5, rfl, w0_5⟩ := okWide_int (k := .i64) (by kernel_rfl) (hc0 5 _ _ rfl rfl)
  obtain ⟨z0_6, rfl, w0_6⟩ := okWide_int (k := .i64) (by kernel_rfl) (hc0 6 _ _ rfl rfl)
  obtain ⟨z0_7, rfl, w0_7⟩ := okWide_int (k := .i64) (by kernel_rfl) (hc0 7 _ _ rfl rfl)
  obtain ⟨z0_8, rfl, w0_8⟩ := okWide_int (k := .i64) (by kernel_rfl) (hc0 8 _ _ rfl rfl)
  obtain ⟨z0_9, rfl, w0_9⟩ := okWide_int (k := .i64) (by kernel_rfl) (hc0 9 _ _ rfl rfl)
  obtain ⟨z0_10, rfl, w0_10⟩ := okWide_int (k := .i64) (by kernel_rfl) (hc0 10 _ _ rfl rfl)
  obtain ⟨z0_11, rfl, w0_11⟩ := okWide_int (k := .i64) (by kernel_rfl) (hc0 11 _ _ rfl rfl)
  obtain ⟨z1, rfl, w1⟩ := okWide_int (k := .i64) (by kernel_rfl) (okWide_one (by kernel_rfl) (hval 1 3 v1 rfl rfl))
  exact walk z0_0 z0_1 z0_2 z0_3 z0_4 z0_5 z0_6 z0_7 z0_8 z0_9 z0_10 z0_11 z1 W
theorem over : Rows.txnNobodyRow.holds Tryz.pinned (OpenSpec.ofChange Rows.txnNobodySpec) :=
  OpenClaim.holds_of_wide 3 Tryz.f3 rfl rfl rfl rfl rfl rfl rfl ⟨rfl, rfl, rfl, rfl, rfl⟩ rfl rfl rfl rfl rfl (by kernel_rfl) Tryz.func3 (by kernel_rfl)
    (of_decide_eq_true (by kernel_rfl)) (by unfold Func.isWrapper; first | (rw [if_pos (by decide +kernel)]; kernel_rfl) | (rw [if_neg (by decide +kernel)]; exact ⟨rfl, rfl⟩))
    (fun os started H enc _ => lifted os started H enc)
/-- The statement. -/
theorem proved : Rows.TxnNobodySaid := over
#print axioms proved
end TxnNobody
end Ev
end Go.Proofs.YtlcnhdejolkdmaaGreat
