/- The law UndoNobody, for every input, by the runner. -/
import Derived.Test.YtgnmjjakmeomiaaFlat
namespace Go.Proofs.Ytgnmjjakmeomiaa
open Go.ChangeShapes Go.WideShapes Go.ChangeAt Go.RowKit
namespace Ev

noncomputable def cellTs0 : List TypeId := (Try.prog.cellTypes Try.prog.depth 38).getD []
set_option maxRecDepth 100000
theorem walk (rk : Int) (rn : Int) (fd : Int) (vk : Int) (vn : Int) (hd : Bool) (st : Int) (w : World) : Calls Try.prog 5 #[.agg #[.int .i64 rk, .int .i64 rn, .int .i64 fd, .int .i64 vk, .int .i64 vn, .bool hd, .int .i64 st]] w (Ret (.bool true) w) :=
  ret_rel 40000 (args := #[.agg #[.int .i64 rk, .int .i64 rn, .int .i64 fd, .int .i64 vk, .int .i64 vn, .bool hd, .int .i64 st]]) (orc := orcs [] []) (ob := []) w (by kernel_rfl) (by simp) (VRl_cons (.aggl (VRl_cons (.atom rfl) (VRl_cons (.atom rfl) (VRl_cons (.atom rfl) (VRl_cons (.atom rfl) (VRl_cons (.atom rfl) (VRl_cons (.atom rfl) (VRl_cons (.atom rfl) (VRl_nil))))))))) VRl_nil)
namespace UndoNobody

theorem own : ownKnob Try.prog.godebug = none := by kernel_rfl
set_option maxRecDepth 100000 in
theorem lifted (os : Os) (started : os.Started) (H : Type) (enc : TypeId × Value → H) :
    ReturnsInHanded {} Try.checked os 5 .any (Rows.undoNobodySpec.pre6 enc Try.prog Try.f5 Rows.undoNobodyRow.domain false) (Rows.undoNobodySpec.post enc Try.prog Try.f5 false true false false) := by
  refine law_frame (C := Try.checked) own started (by kernel_rfl) Try.func5 rfl rfl Try.underlying4 ?_ (by kernel_rfl) (by kernel_rfl)
    (ChangeSpec.witness6 (enc := enc) (C := Try.checked) false ⟨#[], #[.agg #[.int .i64 0, .int .i64 0, .int .i64 0, .int .i64 0, .int .i64 0, .bool false, .int .i64 0]], []⟩ 8 (by kernel_rfl) (by kernel_rfl) (by kernel_rfl) (by kernel_rfl)) ?_
  · intro ds hlen
    have hlen : ds.length = 1 := hlen.trans (by kernel_rfl)
    match ds, hlen with
    | [_], _ => rfl
  intro W base args ds p hval hA hlt hsz
  rw [Try.params5] at hA hval
  obtain ⟨v0, vs0, d0, ds0, p0, q0, hargs, rfl, rfl, h0, r0⟩ := trodAll_cons hA
  obtain ⟨rfl, rfl, rfl⟩ := trodAll_nil r0
  obtain rfl : args = #[v0] := by cases args; simp_all
  obtain ⟨cs0, rfl, hl0, hc0⟩ := okWide_cells (ts := cellTs0) (by kernel_rfl) (by kernel_rfl) (by kernel_rfl) (hval 0 38 v0 rfl rfl)
  match cs0, hl0 with
  | [x0_0, x0_1, x0_2, x0_3, x0_4, x0_5, x0_6], _ =>
  obtain ⟨rk, rfl, wf_rk⟩ := okWide_int (k := .i64) (by kernel_rfl) (hc0 0 _ _ rfl rfl)
  obtain ⟨rn, rfl, wf_rn⟩ := okWide_int (k := .i64) (by kernel_rfl) (hc0 1 _ _ rfl rfl)
  obtain ⟨fd, rfl, wf_fd⟩ := okWide_int (k := .i64) (by kernel_rfl) (hc0 2 _ _ rfl rfl)
  obtain ⟨vk, rfl, wf_vk⟩ := okWide_int (k := .i64) (by kernel_rfl) (hc0 3 _ _ rfl rfl)
  obtain ⟨vn, rfl, wf_vn⟩ := okWide_int (k := .i64) (by kernel_rfl) (hc0 4 _ _ rfl rfl)
  obtain ⟨hd, rfl⟩ := okWide_bool (by kernel_rfl) (hc0 5 _ _ rfl rfl)
  obtain ⟨st, rfl, wf_st⟩ := okWide_int (k := .i64) (by kernel_rfl) (hc0 6 _ _ rfl rfl)
  exact walk rk rn fd vk vn hd st W

theorem over : Rows.undoNobodyRow.holds Try.pinned (OpenSpec.ofChange Rows.undoNobodySpec) :=
  OpenClaim.holds_of_wide 5 Try.f5 rfl rfl rfl rfl rfl rfl rfl ⟨rfl, rfl, rfl, rfl, rfl⟩ rfl rfl rfl rfl rfl (by kernel_rfl) Try.func5 (by kernel_rfl)
    (of_decide_eq_true (by kernel_rfl)) (by unfold Func.isWrapper; first | (rw [if_pos (by decide +kernel)]; kernel_rfl) | (rw [if_neg (by decide +kernel)]; exact ⟨rfl, rfl⟩))
    (fun os started H enc _ => lifted os started H enc)

/-- The statement. -/
theorem proved : Rows.UndoNobodySaid := over
#print axioms proved
end UndoNobody
end Ev
end Go.Proofs.Ytgnmjjakmeomiaa
