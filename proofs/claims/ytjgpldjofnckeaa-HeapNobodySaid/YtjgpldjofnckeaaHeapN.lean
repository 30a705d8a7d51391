/- The law HeapNobody, for every input, by the runner. -/
import Derived.Test.YtjgpldjofnckeaaFlat
namespace Go.Proofs.Ytjgpldjofnckeaa
open Go.ChangeShapes Go.WideShapes Go.ChangeAt Go.RowKit
namespace Ev

noncomputable def cellTs0 : List TypeId := (Try.prog.cellTypes Try.prog.depth 43).getD []
set_option maxRecDepth 100000
theorem path0 (dq : Int) (a : Int) (b : Int) (c : Int) (wh : Int) (raw : Bool) (rk : Int) (rn : Int) (vk : Int) (vn : Int)  (w : World) : Calls Try.prog 7 #[.agg #[.int .u8 dq, .int .i64 a, .int .i64 b, .int .i64 c, .int .u8 wh, .bool raw, .int .i64 rk, .int .i64 rn, .int .i64 vk, .int .i64 vn]] w (Ret (.bool true) w) :=
  ret_rel 10000 (args := #[.agg #[.int .u8 dq, .int .i64 a, .int .i64 b, .int .i64 c, .int .u8 wh, .bool raw, .int .i64 rk, .int .i64 rn, .int .i64 vk, .int .i64 vn]]) (orc := orcAt 0 []) (ob := []) w (by kernel_rfl) (by simp) (VRl_cons (.aggl (VRl_cons (.atom rfl) (VRl_cons (.atom rfl) (VRl_cons (.atom rfl) (VRl_cons (.atom rfl) (VRl_cons (.atom rfl) (VRl_cons (.atom rfl) (VRl_cons (.atom rfl) (VRl_cons (.atom rfl) (VRl_cons (.atom rfl) (VRl_cons (.atom rfl) VRl_nil))))))))))) VRl_nil)
theorem walk (dq : Int) (a : Int) (b : Int) (c : Int) (wh : Int) (raw : Bool) (rk : Int) (rn : Int) (vk : Int) (vn : Int) (w : World) : Calls Try.prog 7 #[.agg #[.int .u8 dq, .int .i64 a, .int .i64 b, .int .i64 c, .int .u8 wh, .bool raw, .int .i64 rk, .int .i64 rn, .int .i64 vk, .int .i64 vn]] w (Ret (.bool true) w) := path0 dq a b c wh raw rk rn vk vn w
namespace HeapNobody

theorem own : ownKnob Try.prog.godebug = none := by kernel_rfl
set_option maxRecDepth 100000 in
theorem lifted (os : Os) (started : os.Started) (H : Type) (enc : TypeId × Value → H) :
    ReturnsInHanded {} Try.checked os 7 .any (Rows.heapNobodySpec.pre6 enc Try.prog Try.f7 Rows.heapNobodyRow.domain false) (Rows.heapNobodySpec.post enc Try.prog Try.f7 false true false false) := by
  refine law_frame (C := Try.checked) own started (by kernel_rfl) Try.func7 rfl rfl Try.underlying4 ?_ (by kernel_rfl) (by kernel_rfl)
    (ChangeSpec.witness6 (enc := enc) (C := Try.checked) false ⟨#[], #[.agg #[.int .u8 0, .int .i64 0, .int .i64 0, .int .i64 0, .int .u8 0, .bool false, .int .i64 0, .int .i64 0, .int .i64 0, .int .i64 0]], []⟩ 8 (by kernel_rfl) (by kernel_rfl) (by kernel_rfl) (by kernel_rfl)) ?_
  · intro ds hlen
    have hlen : ds.length = 1 := hlen.trans (by kernel_rfl)
    match ds, hlen with
    | [_], _ => rfl
  intro W base args ds p hval hA hlt hsz
  rw [Try.params7] at hA hval
  obtain ⟨v0, vs0, d0, ds0, p0, q0, hargs, rfl, rfl, h0, r0⟩ := trodAll_cons hA
  obtain ⟨rfl, rfl, rfl⟩ := trodAll_nil r0
  obtain rfl : args = #[v0] := by cases args; simp_all
  obtain ⟨cs0, rfl, hl0, hc0⟩ := okWide_cells (ts := cellTs0) (by kernel_rfl) (by kernel_rfl) (by kernel_rfl) (hval 0 43 v0 rfl rfl)
  match cs0, hl0 with
  | [x0_0, x0_1, x0_2, x0_3, x0_4, x0_5, x0_6, x0_7, x0_8, x0_9], _ =>
  obtain ⟨dq, rfl, wf_dq⟩ := okWide_int (k := .u8) (by kernel_rfl) (hc0 0 _ _ rfl rfl)
  obtain ⟨a, rfl, wf_a⟩ := okWide_int (k := .i64) (by kernel_rfl) (hc0 1 _ _ rfl rfl)
  obtain ⟨b, rfl, wf_b⟩ := okWide_int (k := .i64) (by kernel_rfl) (hc0 2 _ _ rfl rfl)
  obtain ⟨c, rfl, wf_c⟩ := okWide_int (k := .i64) (by kernel_rfl) (hc0 3 _ _ rfl rfl)
  obtain ⟨wh, rfl, wf_wh⟩ := okWide_int (k := .u8) (by kernel_rfl) (hc0 4 _ _ rfl rfl)
  obtain ⟨raw, rfl⟩ := okWide_bool (by kernel_rfl) (hc0 5 _ _ rfl rfl)
  obtain ⟨rk, rfl, wf_rk⟩ := okWide_int (k := .i64) (by kernel_rfl) (hc0 6 _ _ rfl rfl)
  obtain ⟨rn, rfl, wf_rn⟩ := okWide_int (k := .i64) (by kernel_rfl) (hc0 7 _ _ rfl rfl)
  obtain ⟨vk, rfl, wf_vk⟩ := okWide_int (k := .i64) (by kernel_rfl) (hc0 8 _ _ rfl rfl)
  obtain ⟨vn, rfl, wf_vn⟩ := okWide_int (k := .i64) (by kernel_rfl) (hc0 9 _ _ rfl rfl)
  exact walk dq a b c wh raw rk rn vk vn W

theorem over : Rows.heapNobodyRow.holds Try.pinned (OpenSpec.ofChange Rows.heapNobodySpec) :=
  OpenClaim.holds_of_wide 7 Try.f7 rfl rfl rfl rfl rfl rfl rfl ⟨rfl, rfl, rfl, rfl, rfl⟩ rfl rfl rfl rfl rfl (by kernel_rfl) Try.func7 (by kernel_rfl)
    (of_decide_eq_true (by kernel_rfl)) (by unfold Func.isWrapper; first | (rw [if_pos (by decide +kernel)]; kernel_rfl) | (rw [if_neg (by decide +kernel)]; exact ⟨rfl, rfl⟩))
    (fun os started H enc _ => lifted os started H enc)

/-- The statement. -/
theorem proved : Rows.HeapNobodySaid := over
#print axioms proved
end HeapNobody
end Ev
end Go.Proofs.Ytjgpldjofnckeaa
