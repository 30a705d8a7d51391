/- The law EpochNobody, for every input, by the runner. -/
import Derived.Test.YtonffldokhnmoaaFlat
namespace Go.Proofs.Ytonffldokhnmoaa
open Go.ChangeShapes Go.WideShapes Go.ChangeAt Go.RowKit
namespace Ev

noncomputable def cellTs0 : List TypeId := (Try.prog.cellTypes Try.prog.depth 34).getD []
noncomputable def el0_2 : TypeId := match Try.prog.underlying (cellTs0.getD 2 0) with | some (.slice e) => e | _ => 0
set_option maxRecDepth 100000
theorem path0 (k : Int) (t : Int) (sn : Value) (hsn : sn.oneCell' = true) (h1 : 0 ≤ t) (w : World) : Calls Try.prog 5 #[.agg #[.int .i64 k, .int .i64 t, sn]] w (Ret (.bool true) w) :=
  ret_rel 10000 (args := #[.agg #[.int .i64 k, .int .i64 t, .chan (some 0)]]) (orc := orcAt 0 [(8, true), (10, false), (15, true), (17, false), (33, true), (35, false), (40, true), (42, false)]) (ob := [(decide (t < 0), false), (decide (0 ≤ t), true), (decide (t < 0), false), (decide (0 ≤ t), true), (decide (t < 0), false), (decide (0 ≤ t), true), (decide (t < 0), false), (decide (0 ≤ t), true)]) w (by kernel_rfl) (by simp; omega) (VRl_cons (.aggl (VRl_cons (.atom rfl) (VRl_cons (.atom rfl) (VRl_cons (.glob hsn) VRl_nil)))) VRl_nil)
theorem path1 (k : Int) (t : Int) (sn : Value) (hsn : sn.oneCell' = true) (h1 : t < 0) (w : World) : Calls Try.prog 5 #[.agg #[.int .i64 k, .int .i64 t, sn]] w (Ret (.bool true) w) :=
  ret_rel 10000 (args := #[.agg #[.int .i64 k, .int .i64 t, .chan (some 0)]]) (orc := orcAt 0 [(8, false), (13, false), (29, false), (34, false)]) (ob := [(decide (0 ≤ t), false), (decide (0 ≤ t), false), (decide (0 ≤ t), false), (decide (0 ≤ t), false)]) w (by kernel_rfl) (by simp; omega) (VRl_cons (.aggl (VRl_cons (.atom rfl) (VRl_cons (.atom rfl) (VRl_cons (.glob hsn) VRl_nil)))) VRl_nil)
theorem walk (k : Int) (t : Int) (sn : Value) (hsn : sn.oneCell' = true) (w : World) : Calls Try.prog 5 #[.agg #[.int .i64 k, .int .i64 t, sn]] w (Ret (.bool true) w) := by
  by_cases h1 : t < 0
  · exact path1 k t sn hsn h1 w
  · exact path0 k t sn hsn (by omega) w
namespace EpochNobody

theorem own : ownKnob Try.prog.godebug = none := by kernel_rfl
set_option maxRecDepth 100000 in
theorem lifted (os : Os) (started : os.Started) (H : Type) (enc : TypeId × Value → H) :
    ReturnsInHanded {} Try.checked os 5 .any (Rows.epochNobodySpec.pre6 enc Try.prog Try.f5 Rows.epochNobodyRow.domain false) (Rows.epochNobodySpec.post enc Try.prog Try.f5 false true false false) := by
  refine law_frame (C := Try.checked) own started (by kernel_rfl) Try.func5 rfl rfl Try.underlying4 ?_ (by kernel_rfl) (by kernel_rfl)
    (ChangeSpec.witness6 (enc := enc) (C := Try.checked) false ⟨#[], #[.agg #[.int .i64 0, .int .i64 0, .slice none 0 0]], []⟩ 8 (by kernel_rfl) (by kernel_rfl) (by kernel_rfl) (by kernel_rfl)) ?_
  · intro ds hlen
    have hlen : ds.length = 1 := hlen.trans (by kernel_rfl)
    match ds, hlen with
    | [_], _ => rfl
  intro W base args ds p hval hA hlt hsz
  rw [Try.params5] at hA hval
  obtain ⟨v0, vs0, d0, ds0, p0, q0, hargs, rfl, rfl, h0, r0⟩ := trodAll_cons hA
  obtain ⟨rfl, rfl, rfl⟩ := trodAll_nil r0
  obtain rfl : args = #[v0] := by cases args; simp_all
  obtain ⟨cs0, rfl, hl0, hc0⟩ := okWide_cells (ts := cellTs0) (by kernel_rfl) (by kernel_rfl) (by kernel_rfl) (hval 0 34 v0 rfl rfl)
  match cs0, hl0 with
  | [x0_0, x0_1, x0_2], _ =>
  obtain ⟨k, rfl, wf_k⟩ := okWide_int (k := .i64) (by kernel_rfl) (hc0 0 _ _ rfl rfl)
  obtain ⟨t, rfl, wf_t⟩ := okWide_int (k := .i64) (by kernel_rfl) (hc0 1 _ _ rfl rfl)
  have hsn := okWide_slice (P := Try.prog) (e := el0_2) (by kernel_rfl) (hc0 2 _ _ rfl rfl)
  generalize x0_2 = sn at hsn ⊢
  exact walk k t sn hsn W

theorem over : Rows.epochNobodyRow.holds Try.pinned (OpenSpec.ofChange Rows.epochNobodySpec) :=
  OpenClaim.holds_of_wide 5 Try.f5 rfl rfl rfl rfl rfl rfl rfl ⟨rfl, rfl, rfl, rfl, rfl⟩ rfl rfl rfl rfl rfl (by kernel_rfl) Try.func5 (by kernel_rfl)
    (of_decide_eq_true (by kernel_rfl)) (by unfold Func.isWrapper; first | (rw [if_pos (by decide +kernel)]; kernel_rfl) | (rw [if_neg (by decide +kernel)]; exact ⟨rfl, rfl⟩))
    (fun os started H enc _ => lifted os started H enc)

/-- The statement. -/
theorem proved : Rows.EpochNobodySaid := over
#print axioms proved
end EpochNobody
end Ev
end Go.Proofs.Ytonffldokhnmoaa
