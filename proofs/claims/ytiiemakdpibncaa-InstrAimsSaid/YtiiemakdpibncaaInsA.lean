/- The law InstrAims, for every input, by the runner. -/
import Derived.Test.YtiiemakdpibncaaFlat
namespace Go.Proofs.Ytiiemakdpibncaa
open Go.ChangeShapes Go.WideShapes Go.ChangeAt Go.RowKit
namespace Ev

noncomputable def cellTs0 : List TypeId := (Try.prog.cellTypes Try.prog.depth 24).getD []
set_option maxRecDepth 100000
theorem pathJ (a : Int) (b : Int) (c : Int) (p : Int)  (w : World) : Calls Try.prog 7 #[.agg #[.int .i64 8, .int .i64 a, .int .i64 b, .int .i64 c], .int .i64 p] w (Ret (.bool true) w) :=
  ret_rel 10000 (args := #[.agg #[.int .i64 8, .int .i64 a, .int .i64 b, .int .i64 c], .int .i64 p]) (orc := orcAt 0 [(4, true), (8, true), (11, true)]) (ob := [(p == p, true), (((8 : Int) == (8 : Int)) && ((p == p) && ((b == b) && ((c == c) && true))), true), (a == a, true)]) w (by kernel_rfl) (by simp) (VRl_cons (.aggl (VRl_cons (.atom rfl) (VRl_cons (.atom rfl) (VRl_cons (.atom rfl) (VRl_cons (.atom rfl) VRl_nil))))) (VRl_cons (.atom rfl) VRl_nil))
theorem pathZ (a : Int) (b : Int) (c : Int) (p : Int)  (w : World) : Calls Try.prog 7 #[.agg #[.int .i64 9, .int .i64 a, .int .i64 b, .int .i64 c], .int .i64 p] w (Ret (.bool true) w) :=
  ret_rel 10000 (args := #[.agg #[.int .i64 9, .int .i64 a, .int .i64 b, .int .i64 c], .int .i64 p]) (orc := orcAt 0 [(8, true), (12, true), (15, true)]) (ob := [(p == p, true), (((9 : Int) == (9 : Int)) && ((a == a) && ((p == p) && ((c == c) && true))), true), (b == b, true)]) w (by kernel_rfl) (by simp) (VRl_cons (.aggl (VRl_cons (.atom rfl) (VRl_cons (.atom rfl) (VRl_cons (.atom rfl) (VRl_cons (.atom rfl) VRl_nil))))) (VRl_cons (.atom rfl) VRl_nil))
theorem path0 (op : Int) (a : Int) (b : Int) (c : Int) (p : Int) (h1 : op ≠ 8) (h2 : op ≠ 9) (w : World) : Calls Try.prog 7 #[.agg #[.int .i64 op, .int .i64 a, .int .i64 b, .int .i64 c], .int .i64 p] w (Ret (.bool true) w) :=
  ret_rel 10000 (args := #[.agg #[.int .i64 op, .int .i64 a, .int .i64 b, .int .i64 c], .int .i64 p]) (orc := orcAt 0 [(0, false), (1, false), (2, false), (3, false), (4, false), (5, false), (6, false), (7, false), (10, false), (11, false), (12, true)]) (ob := [((op == op) && ((a == a) && ((b == b) && ((c == c) && true))), true), (op == 9, false), (op == 8, false), (op == 9, false), (op == 8, false), (op == 9, false), (op == 8, false), (op == 9, false), (op == 8, false), (op == 9, false), (op == 8, false)]) w (by kernel_rfl) (by simp [h1, h2]) (VRl_cons (.aggl (VRl_cons (.atom rfl) (VRl_cons (.atom rfl) (VRl_cons (.atom rfl) (VRl_cons (.atom rfl) VRl_nil))))) (VRl_cons (.atom rfl) VRl_nil))
theorem walk (op : Int) (a : Int) (b : Int) (c : Int) (p : Int) (w : World) : Calls Try.prog 7 #[.agg #[.int .i64 op, .int .i64 a, .int .i64 b, .int .i64 c], .int .i64 p] w (Ret (.bool true) w) := by
  by_cases h1 : op = 8
  · subst h1; exact pathJ a b c p w
  · by_cases h2 : op = 9
    · subst h2; exact pathZ a b c p w
    · exact path0 op a b c p h1 h2 w
namespace InstrAims

theorem own : ownKnob Try.prog.godebug = none := by kernel_rfl
set_option maxRecDepth 100000 in
theorem lifted (os : Os) (started : os.Started) (H : Type) (enc : TypeId × Value → H) :
    ReturnsInHanded {} Try.checked os 7 .any (Rows.instrAimsSpec.pre6 enc Try.prog Try.f7 Rows.instrAimsRow.domain false) (Rows.instrAimsSpec.post enc Try.prog Try.f7 false true false false) := by
  refine law_frame (C := Try.checked) own started (by kernel_rfl) Try.func7 rfl rfl Try.underlying4 ?_ (by kernel_rfl) (by kernel_rfl)
    (ChangeSpec.witness6 (enc := enc) (C := Try.checked) false ⟨#[], #[.agg #[.int .i64 0, .int .i64 0, .int .i64 0, .int .i64 0], .int .i64 0], []⟩ 8 (by kernel_rfl) (by kernel_rfl) (by kernel_rfl) (by kernel_rfl)) ?_
  · intro ds hlen
    have hlen : ds.length = 2 := hlen.trans (by kernel_rfl)
    match ds, hlen with
    | [_, _], _ => rfl
  intro W base args ds p hval hA hlt hsz
  rw [Try.params7] at hA hval
  obtain ⟨v0, vs0, d0, ds0, p0, q0, hargs, rfl, rfl, h0, r0⟩ := trodAll_cons hA
  obtain ⟨v1, vs1, d1, ds1, p1, q1, rfl, rfl, rfl, h1, r1⟩ := trodAll_cons r0
  obtain ⟨rfl, rfl, rfl⟩ := trodAll_nil r1
  obtain rfl : args = #[v0, v1] := by cases args; simp_all
  obtain ⟨cs0, rfl, hl0, hc0⟩ := okWide_cells (ts := cellTs0) (by kernel_rfl) (by kernel_rfl) (by kernel_rfl) (hval 0 24 v0 rfl rfl)
  match cs0, hl0 with
  | [x0_0, x0_1, x0_2, x0_3], _ =>
  obtain ⟨op, rfl, wf_op⟩ := okWide_int (k := .i64) (by kernel_rfl) (hc0 0 _ _ rfl rfl)
  obtain ⟨a, rfl, wf_a⟩ := okWide_int (k := .i64) (by kernel_rfl) (hc0 1 _ _ rfl rfl)
  obtain ⟨b, rfl, wf_b⟩ := okWide_int (k := .i64) (by kernel_rfl) (hc0 2 _ _ rfl rfl)
  obtain ⟨c, rfl, wf_c⟩ := okWide_int (k := .i64) (by kernel_rfl) (hc0 3 _ _ rfl rfl)
  obtain ⟨p, rfl, wf_p⟩ := okWide_int (k := .i64) (by kernel_rfl) (okWide_one (by kernel_rfl) (hval 1 3 v1 rfl rfl))
  exact walk op a b c p W

theorem over : Rows.instrAimsRow.holds Try.pinned (OpenSpec.ofChange Rows.instrAimsSpec) :=
  OpenClaim.holds_of_wide 7 Try.f7 rfl rfl rfl rfl rfl rfl rfl ⟨rfl, rfl, rfl, rfl, rfl⟩ rfl rfl rfl rfl rfl (by kernel_rfl) Try.func7 (by kernel_rfl)
    (of_decide_eq_true (by kernel_rfl)) (by unfold Func.isWrapper; first | (rw [if_pos (by decide +kernel)]; kernel_rfl) | (rw [if_neg (by decide +kernel)]; exact ⟨rfl, rfl⟩))
    (fun os started H enc _ => lifted os started H enc)

/-- The statement. -/
theorem proved : Rows.InstrAimsSaid := over
#print axioms proved
end InstrAims
end Ev
end Go.Proofs.Ytiiemakdpibncaa
