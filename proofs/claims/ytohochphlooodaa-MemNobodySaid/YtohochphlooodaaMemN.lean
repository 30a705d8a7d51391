/- The law MemNobody, for every input, by the runner. -/
import Derived.Test.YtohochphlooodaaFlat
namespace Go.Proofs.Ytohochphlooodaa
open Go.ChangeShapes Go.WideShapes Go.ChangeAt Go.RowKit
namespace Ev

noncomputable def cellTs0 : List TypeId := (Try.prog.cellTypes Try.prog.depth 23).getD []
set_option maxRecDepth 100000
theorem path0 (k : Int) (t : Int) (n : Int) (tr : Int) (is : Bool)  (w : World) : Calls Try.prog 3 #[.agg #[.int .i64 k, .int .i64 t, .int .i64 n, .int .i64 tr, .bool is]] w (Ret (.bool true) w) :=
  ret_rel 10000 (args := #[.agg #[.int .i64 k, .int .i64 t, .int .i64 n, .int .i64 tr, .bool is]]) (orc := orcAt 0 []) (ob := []) w (by kernel_rfl) (by simp) (VRl_cons (.aggl (VRl_cons (.atom rfl) (VRl_cons (.atom rfl) (VRl_cons (.atom rfl) (VRl_cons (.atom rfl) (VRl_cons (.atom rfl) VRl_nil)))))) VRl_nil)
theorem walk (k : Int) (t : Int) (n : Int) (tr : Int) (is : Bool) (w : World) : Calls Try.prog 3 #[.agg #[.int .i64 k, .int .i64 t, .int .i64 n, .int .i64 tr, .bool is]] w (Ret (.bool true) w) := path0 k t n tr is w
namespace MemNobody

theorem own : ownKnob Try.prog.godebug = none := by kernel_rfl
set_option maxRecDepth 100000 in
theorem lifted (os : Os) (started : os.Started) (H : Type) (enc : TypeId × Value → H) :
    ReturnsInHanded {} Try.checked os 3 .any (Rows.memNobodySpec.pre6 enc Try.prog Try.f3 Rows.memNobodyRow.domain false) (Rows.memNobodySpec.post enc Try.prog Try.f3 false true false false) := by
  refine law_frame (C := Try.checked) own started (by kernel_rfl) Try.func3 rfl rfl Try.underlying4 ?_ (by kernel_rfl) (by kernel_rfl)
    (ChangeSpec.witness6 (enc := enc) (C := Try.checked) false ⟨#[], #[.agg #[.int .i64 0, .int .i64 0, .int .i64 0, .int .i64 0, .bool false]], []⟩ 8 (by kernel_rfl) (by kernel_rfl) (by kernel_rfl) (by kernel_rfl)) ?_
  · intro ds hlen
    have hlen : ds.length = 1 := hlen.trans (by kernel_rfl)
    match ds, hlen with
    | [_], _ => rfl
  intro W base args ds p hval hA hlt hsz
  rw [Try.params3] at hA hval
  obtain ⟨v0, vs0, d0, ds0, p0, q0, hargs, rfl, rfl, h0, r0⟩ := trodAll_cons hA
  obtain ⟨rfl, rfl, rfl⟩ := trodAll_nil r0
  obtain rfl : args = #[v0] := by cases args; simp_all
  obtain ⟨cs0, rfl, hl0, hc0⟩ := okWide_cells (ts := cellTs0) (by kernel_rfl) (by kernel_rfl) (by kernel_rfl) (hval 0 23 v0 rfl rfl)
  match cs0, hl0 with
  | [x0_0, x0_1, x0_2, x0_3, x0_4], _ =>
  obtain ⟨k, rfl, wf_k⟩ := okWide_int (k := .i64) (by kernel_rfl) (hc0 0 _ _ rfl rfl)
  obtain ⟨t, rfl, wf_t⟩ := okWide_int (k := .i64) (by kernel_rfl) (hc0 1 _ _ rfl rfl)
  obtain ⟨n, rfl, wf_n⟩ := okWide_int (k := .i64) (by kernel_rfl) (hc0 2 _ _ rfl rfl)
  obtain ⟨tr, rfl, wf_tr⟩ := okWide_int (k := .i64) (by kernel_rfl) (hc0 3 _ _ rfl rfl)
  obtain ⟨is, rfl⟩ := okWide_bool (by kernel_rfl) (hc0 4 _ _ rfl rfl)
  exact walk k t n tr is W

theorem over : Rows.memNobodyRow.holds Try.pinned (OpenSpec.ofChange Rows.memNobodySpec) :=
  OpenClaim.holds_of_wide 3 Try.f3 rfl rfl rfl rfl rfl rfl rfl ⟨rfl, rfl, rfl, rfl, rfl⟩ rfl rfl rfl rfl rfl (by kernel_rfl) Try.func3 (by kernel_rfl)
    (of_decide_eq_true (by kernel_rfl)) (by unfold Func.isWrapper; first | (rw [if_pos (by decide +kernel)]; kernel_rfl) | (rw [if_neg (by decide +kernel)]; exact ⟨rfl, rfl⟩))
    (fun os started H enc _ => lifted os started H enc)

/-- The statement. -/
theorem proved : Rows.MemNobodySaid := over
#print axioms proved
end MemNobody
end Ev
end Go.Proofs.Ytohochphlooodaa
