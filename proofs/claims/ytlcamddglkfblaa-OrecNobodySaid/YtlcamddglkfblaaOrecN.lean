/- The law OrecNobody, for every input, by the runner. -/
import Derived.Test.YtlcamddglkfblaaFlat
namespace Go.Proofs.Ytlcamddglkfblaa
open Go.ChangeShapes Go.WideShapes Go.ChangeAt Go.RowKit
namespace Ev

noncomputable def cellTs0 : List TypeId := (Try.prog.cellTypes Try.prog.depth 50).getD []
set_option maxRecDepth 100000
theorem path0 (a : Int) (b : Int) (c : Int) (d : Int) (e : Int) (f : Int) (g : Int) (h : Int) (h1 : c < 0) (w : World) : Calls Try.prog 6 #[.agg #[.int .i64 a, .int .i64 b, .int .i64 c, .int .i64 d, .int .i64 e, .int .i64 f, .int .i64 g, .int .i64 h]] w (Ret (.bool true) w) :=
  ret_tests 10000 (orc := orcAt 0 [(2, false), (30, false)]) (ob := [(decide (0 ≤ c), false), (decide (0 ≤ c), false)]) w (by kernel_rfl) (by simp; omega) rfl
theorem path1 (a : Int) (b : Int) (c : Int) (d : Int) (e : Int) (f : Int) (g : Int) (h : Int) (h1 : 0 ≤ c) (h2 : 2199023255552 < c) (w : World) : Calls Try.prog 6 #[.agg #[.int .i64 a, .int .i64 b, .int .i64 c, .int .i64 d, .int .i64 e, .int .i64 f, .int .i64 g, .int .i64 h]] w (Ret (.bool true) w) :=
  ret_tests 10000 (orc := orcAt 0 [(2, true), (3, false), (31, true), (32, false)]) (ob := [(decide (c ≤ 2199023255552), false), (decide (0 ≤ c), true), (decide (c ≤ 2199023255552), false), (decide (0 ≤ c), true)]) w (by kernel_rfl) (by simp; omega) rfl
theorem path2 (a : Int) (b : Int) (c : Int) (d : Int) (e : Int) (f : Int) (g : Int) (h : Int) (h1 : 0 ≤ c) (h2 : c ≤ 2199023255552) (w : World) : Calls Try.prog 6 #[.agg #[.int .i64 a, .int .i64 b, .int .i64 c, .int .i64 d, .int .i64 e, .int .i64 f, .int .i64 g, .int .i64 h]] w (Ret (.bool true) w) :=
  ret_tests 10000 (orc := orcAt 0 [(2, true), (3, true), (32, true), (33, true)]) (ob := [(decide (c ≤ 2199023255552), true), (decide (0 ≤ c), true), (decide (c ≤ 2199023255552), true), (decide (0 ≤ c), true)]) w (by kernel_rfl) (by simp; omega) rfl
theorem walk (a : Int) (b : Int) (c : Int) (d : Int) (e : Int) (f : Int) (g : Int) (h : Int) (w : World) : Calls Try.prog 6 #[.agg #[.int .i64 a, .int .i64 b, .int .i64 c, .int .i64 d, .int .i64 e, .int .i64 f, .int .i64 g, .int .i64 h]] w (Ret (.bool true) w) := by
  by_cases h1 : c < 0
  · exact path0 a b c d e f g h h1 w
  · by_cases h2 : c ≤ 2199023255552
    · exact path2 a b c d e f g h (by omega) h2 w
    · exact path1 a b c d e f g h (by omega) (by omega) w
namespace OrecNobody

theorem own : ownKnob Try.prog.godebug = none := by kernel_rfl
set_option maxRecDepth 100000 in
theorem lifted (os : Os) (started : os.Started) (H : Type) (enc : TypeId × Value → H) :
    ReturnsInHanded {} Try.checked os 6 .any (Rows.orecNobodySpec.pre6 enc Try.prog Try.f6 Rows.orecNobodyRow.domain false) (Rows.orecNobodySpec.post enc Try.prog Try.f6 false true false false) := by
  refine law_frame (C := Try.checked) own started (by kernel_rfl) Try.func6 rfl rfl Try.underlying4 ?_ (by kernel_rfl) (by kernel_rfl)
    (ChangeSpec.witness6 (enc := enc) (C := Try.checked) false ⟨#[], #[.agg #[.int .i64 0, .int .i64 0, .int .i64 0, .int .i64 0, .int .i64 0, .int .i64 0, .int .i64 0, .int .i64 0]], []⟩ 8 (by kernel_rfl) (by kernel_rfl) (by kernel_rfl) (by kernel_rfl)) ?_
  · intro ds hlen
    have hlen : ds.length = 1 := hlen.trans (by kernel_rfl)
    match ds, hlen with
    | [_], _ => rfl
  intro W base args ds p hval hA hlt hsz
  rw [Try.params6] at hA hval
  obtain ⟨v0, vs0, d0, ds0, p0, q0, hargs, rfl, rfl, h0, r0⟩ := trodAll_cons hA
  obtain ⟨rfl, rfl, rfl⟩ := trodAll_nil r0
  obtain rfl : args = #[v0] := by cases args; simp_all
  obtain ⟨cs0, rfl, hl0, hc0⟩ := okWide_cells (ts := cellTs0) (by kernel_rfl) (by kernel_rfl) (by kernel_rfl) (hval 0 50 v0 rfl rfl)
  match cs0, hl0 with
  | [x0_0, x0_1, x0_2, x0_3, x0_4, x0_5, x0_6, x0_7], _ =>
  obtain ⟨a, rfl, wf_a⟩ := okWide_int (k := .i64) (by kernel_rfl) (hc0 0 _ _ rfl rfl)
  obtain ⟨b, rfl, wf_b⟩ := okWide_int (k := .i64) (by kernel_rfl) (hc0 1 _ _ rfl rfl)
  obtain ⟨c, rfl, wf_c⟩ := okWide_int (k := .i64) (by kernel_rfl) (hc0 2 _ _ rfl rfl)
  obtain ⟨d, rfl, wf_d⟩ := okWide_int (k := .i64) (by kernel_rfl) (hc0 3 _ _ rfl rfl)
  obtain ⟨e, rfl, wf_e⟩ := okWide_int (k := .i64) (by kernel_rfl) (hc0 4 _ _ rfl rfl)
  obtain ⟨f, rfl, wf_f⟩ := okWide_int (k := .i64) (by kernel_rfl) (hc0 5 _ _ rfl rfl)
  obtain ⟨g, rfl, wf_g⟩ := okWide_int (k := .i64) (by kernel_rfl) (hc0 6 _ _ rfl rfl)
  obtain ⟨h, rfl, wf_h⟩ := okWide_int (k := .i64) (by kernel_rfl) (hc0 7 _ _ rfl rfl)
  exact walk a b c d e f g h W

theorem over : Rows.orecNobodyRow.holds Try.pinned (OpenSpec.ofChange Rows.orecNobodySpec) :=
  OpenClaim.holds_of_wide 6 Try.f6 rfl rfl rfl rfl rfl rfl rfl ⟨rfl, rfl, rfl, rfl, rfl⟩ rfl rfl rfl rfl rfl (by kernel_rfl) Try.func6 (by kernel_rfl)
    (of_decide_eq_true (by kernel_rfl)) (by unfold Func.isWrapper; first | (rw [if_pos (by decide +kernel)]; kernel_rfl) | (rw [if_neg (by decide +kernel)]; exact ⟨rfl, rfl⟩))
    (fun os started H enc _ => lifted os started H enc)

/-- The statement. -/
theorem proved : Rows.OrecNobodySaid := over
#print axioms proved
end OrecNobody
end Ev
end Go.Proofs.Ytlcamddglkfblaa
