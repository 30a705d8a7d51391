/- The law PlainNobody, for every input, by the runner. -/
import Derived.Test.YtjmnjebphcnihaaGreatFlat
namespace Go.Proofs.YtjmnjebphcnihaaGreat
open Go.ChangeShapes Go.WideShapes Go.ChangeAt Go.RowKit
namespace Ev

noncomputable def cellTs0 : List TypeId := (Tryz.prog.cellTypes Tryz.prog.depth 24).getD []
noncomputable def cellTs2 : List TypeId := (Tryz.prog.cellTypes Tryz.prog.depth 24).getD []
set_option maxRecDepth 100000
theorem path0 (rk : Int) (rn : Int) (f : Int) (vk : Int) (vn : Int) (t : Int) (h1 : t < 0) (w : World) : Calls Tryz.prog 3 #[.agg #[.int .i64 rk, .int .i64 rn], .int .i64 f, .agg #[.int .i64 vk, .int .i64 vn], .int .i64 t] w (Ret (.bool true) w) :=
  ret_rel 20000 (args := #[.agg #[.int .i64 rk, .int .i64 rn], .int .i64 f, .agg #[.int .i64 vk, .int .i64 vn], .int .i64 t]) (orc := orcAt 0 [(225, true), (229, false), (230, false)]) (ob := [(t == 1, false), (t == 0, false), (decide (t < 0), true)]) w (by kernel_rfl) (by simp; omega) (VRl_cons (.aggl (VRl_cons (.atom rfl) (VRl_cons (.atom rfl) VRl_nil))) (VRl_cons (.atom rfl) (VRl_cons (.aggl (VRl_cons (.atom rfl) (VRl_cons (.atom rfl) VRl_nil))) (VRl_cons (.atom rfl) VRl_nil))))
theorem path1 (rk : Int) (rn : Int) (f : Int) (vk : Int) (vn : Int) (t : Int) (h1 : 2 ≤ t) (w : World) : Calls Tryz.prog 3 #[.agg #[.int .i64 rk, .int .i64 rn], .int .i64 f, .agg #[.int .i64 vk, .int .i64 vn], .int .i64 t] w (Ret (.bool true) w) :=
  ret_rel 20000 (args := #[.agg #[.int .i64 rk, .int .i64 rn], .int .i64 f, .agg #[.int .i64 vk, .int .i64 vn], .int .i64 t]) (orc := orcAt 0 [(225, false), (229, true), (233, false), (234, false)]) (ob := [(t == 1, false), (t == 0, false), (decide (2 ≤ t), true), (decide (t < 0), false)]) w (by kernel_rfl) (by simp; omega) (VRl_cons (.aggl (VRl_cons (.atom rfl) (VRl_cons (.atom rfl) VRl_nil))) (VRl_cons (.atom rfl) (VRl_cons (.aggl (VRl_cons (.atom rfl) (VRl_cons (.atom rfl) VRl_nil))) (VRl_cons (.atom rfl) VRl_nil))))
theorem path2 (rk : Int) (rn : Int) (f : Int) (vk : Int) (vn : Int) (t : Int) (h1 : t = 0) (w : World) : Calls Tryz.prog 3 #[.agg #[.int .i64 rk, .int .i64 rn], .int .i64 f, .agg #[.int .i64 vk, .int .i64 vn], .int .i64 t] w (Ret (.bool true) w) :=
  ret_rel 20000 (args := #[.agg #[.int .i64 rk, .int .i64 rn], .int .i64 f, .agg #[.int .i64 vk, .int .i64 vn], .int .i64 t]) (orc := orcAt 0 [(225, false), (229, false), (233, true)]) (ob := [(t == 0, true), (decide (2 ≤ t), false), (decide (t < 0), false)]) w (by kernel_rfl) (by subst h1; simp) (VRl_cons (.aggl (VRl_cons (.atom rfl) (VRl_cons (.atom rfl) VRl_nil))) (VRl_cons (.atom rfl) (VRl_cons (.aggl (VRl_cons (.atom rfl) (VRl_cons (.atom rfl) VRl_nil))) (VRl_cons (.atom rfl) VRl_nil))))
theorem path3 (rk : Int) (rn : Int) (f : Int) (vk : Int) (vn : Int) (t : Int) (h1 : t = 1) (w : World) : Calls Tryz.prog 3 #[.agg #[.int .i64 rk, .int .i64 rn], .int .i64 f, .agg #[.int .i64 vk, .int .i64 vn], .int .i64 t] w (Ret (.bool true) w) :=
  ret_rel 20000 (args := #[.agg #[.int .i64 rk, .int .i64 rn], .int .i64 f, .agg #[.int .i64 vk, .int .i64 vn], .int .i64 t]) (orc := orcAt 0 [(225, false), (229, false), (233, false), (234, true)]) (ob := [(t == 1, true), (t == 0, false), (decide (2 ≤ t), false), (decide (t < 0), false)]) w (by kernel_rfl) (by subst h1; simp) (VRl_cons (.aggl (VRl_cons (.atom rfl) (VRl_cons (.atom rfl) VRl_nil))) (VRl_cons (.atom rfl) (VRl_cons (.aggl (VRl_cons (.atom rfl) (VRl_cons (.atom rfl) VRl_nil))) (VRl_cons (.atom rfl) VRl_nil))))
theorem walk (rk : Int) (rn : Int) (f : Int) (vk : Int) (vn : Int) (t : Int) (w : World) : Calls Tryz.prog 3 #[.agg #[.int .i64 rk, .int .i64 rn], .int .i64 f, .agg #[.int .i64 vk, .int .i64 vn], .int .i64 t] w (Ret (.bool true) w) := by
  by_cases h1 : t < 0
  · exact path0 rk rn f vk vn t h1 w
  · by_cases h2 : 2 ≤ t
    · exact path1 rk rn f vk vn t h2 w
    · by_cases h3 : t = 0
      · exact path2 rk rn f vk vn t h3 w
      · exact path3 rk rn f vk vn t (by omega) w
namespace PlainNobody

theorem own : ownKnob Tryz.prog.godebug = none := by kernel_rfl
set_option maxRecDepth 100000 in
theorem lifted (os : Os) (started : os.Started) (H : Type) (enc : TypeId × Value → H) :
    ReturnsInHanded {} Tryz.checked os 3 .any (Rows.plainNobodySpec.pre6 enc Tryz.prog Tryz.f3 Rows.plainNobodyRow.domain false) (Rows.plainNobodySpec.post enc Tryz.prog Tryz.f3 false true false false) := by
  refine law_frame (C := Tryz.checked) own started (by kernel_rfl) Tryz.func3 rfl rfl Tryz.underlying4 ?_ (by kernel_rfl) (by kernel_rfl)
    (ChangeSpec.witness6 (enc := enc) (C := Tryz.checked) false ⟨#[], #[.agg #[.int .i64 0, .int .i64 0], .int .i64 0, .agg #[.int .i64 0, .int .i64 0], .int .i64 0], []⟩ 8 (by kernel_rfl) (by kernel_rfl) (by kernel_rfl) (by kernel_rfl)) ?_
  · intro ds hlen
    have hlen : ds.length = 4 := hlen.trans (by kernel_rfl)
    match ds, hlen with
    | [_, _, _, _], _ => rfl
  intro W base args ds p hval hA hlt hsz
  rw [Tryz.params3] at hA hval
  obtain ⟨v0, vs0, d0, ds0, p0, q0, hargs, rfl, rfl, h0, r0⟩ := trodAll_cons hA
  obtain ⟨v1, vs1, d1, ds1, p1, q1, rfl, rfl, rfl, h1, r1⟩ := trodAll_cons r0
  obtain ⟨v2, vs2, d2, ds2, p2, q2, rfl, rfl, rfl, h2, r2⟩ := trodAll_cons r1
  obtain ⟨v3, vs3, d3, ds3, p3, q3, rfl, rfl, rfl, h3, r3⟩ := trodAll_cons r2
  obtain ⟨rfl, rfl, rfl⟩ := trodAll_nil r3
  obtain rfl : args = #[v0, v1, v2, v3] := by cases args; simp_all
  obtain ⟨cs0, rfl, hl0, hc0⟩ := okWide_cells (ts := cellTs0) (by kernel_rfl) (by kernel_rfl) (by kernel_rfl) (hval 0 24 v0 rfl rfl)
  match cs0, hl0 with
  | [x0_0, x0_1], _ =>
  obtain ⟨rk, rfl, wf_rk⟩ := okWide_int (k := .i64) (by kernel_rfl) (hc0 0 _ _ rfl rfl)
  obtain ⟨rn, rfl, wf_rn⟩ := okWide_int (k := .i64) (by kernel_rfl) (hc0 1 _ _ rfl rfl)
  obtain ⟨f, rfl, wf_f⟩ := okWide_int (k := .i64) (by kernel_rfl) (okWide_one (by kernel_rfl) (hval 1 3 v1 rfl rfl))
  obtain ⟨cs2, rfl, hl2, hc2⟩ := okWide_cells (ts := cellTs2) (by kernel_rfl) (by kernel_rfl) (by kernel_rfl) (hval 2 24 v2 rfl rfl)
  match cs2, hl2 with
  | [x2_0, x2_1], _ =>
  obtain ⟨vk, rfl, wf_vk⟩ := okWide_int (k := .i64) (by kernel_rfl) (hc2 0 _ _ rfl rfl)
  obtain ⟨vn, rfl, wf_vn⟩ := okWide_int (k := .i64) (by kernel_rfl) (hc2 1 _ _ rfl rfl)
  obtain ⟨t, rfl, wf_t⟩ := okWide_int (k := .i64) (by kernel_rfl) (okWide_one (by kernel_rfl) (hval 3 3 v3 rfl rfl))
  exact walk rk rn f vk vn t W

theorem over : Rows.plainNobodyRow.holds Tryz.pinned (OpenSpec.ofChange Rows.plainNobodySpec) :=
  OpenClaim.holds_of_wide 3 Tryz.f3 rfl rfl rfl rfl rfl rfl rfl ⟨rfl, rfl, rfl, rfl, rfl⟩ rfl rfl rfl rfl rfl (by kernel_rfl) Tryz.func3 (by kernel_rfl)
    (of_decide_eq_true (by kernel_rfl)) (by unfold Func.isWrapper; first | (rw [if_pos (by decide +kernel)]; kernel_rfl) | (rw [if_neg (by decide +kernel)]; exact ⟨rfl, rfl⟩))
    (fun os started H enc _ => lifted os started H enc)

/-- The statement. -/
theorem proved : Rows.PlainNobodySaid := over
#print axioms proved
end PlainNobody
end Ev
end Go.Proofs.YtjmnjebphcnihaaGreat
