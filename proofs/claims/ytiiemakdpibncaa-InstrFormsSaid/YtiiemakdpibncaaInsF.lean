/- The law InstrForms, for every input, by the runner. -/
import Derived.Test.YtiiemakdpibncaaInsF1
import Derived.Test.YtiiemakdpibncaaInsF2
import Derived.Test.YtiiemakdpibncaaInsF3
import Derived.Test.YtiiemakdpibncaaInsF4
import Derived.Test.YtiiemakdpibncaaInsF5
namespace Go.Proofs.Ytiiemakdpibncaa
open Go.ChangeShapes Go.WideShapes Go.ChangeAt Go.RowKit
namespace Ev

noncomputable def cellTs0 : List TypeId := (Try.prog.cellTypes Try.prog.depth 24).getD []
set_option maxRecDepth 100000
theorem op11 (a b c : Int) (w : World) : Calls Try.prog 3 #[.agg #[.int .i64 11, .int .i64 a, .int .i64 b, .int .i64 c]] w (Ret (.bool true) w) := by
  by_cases hb : b < 1
  · exact op11L a b c hb w
  by_cases hb' : 16 < b
  · exact op11H a b c hb' w
  have hc : b = 1 ∨ b = 2 ∨ b = 3 ∨ b = 4 ∨ b = 5 ∨ b = 6 ∨ b = 7 ∨ b = 8 ∨ b = 9 ∨ b = 10 ∨ b = 11 ∨ b = 12 ∨ b = 13 ∨ b = 14 ∨ b = 15 ∨ b = 16 := by omega
  rcases hc with rfl | rfl | rfl | rfl | rfl | rfl | rfl | rfl | rfl | rfl | rfl | rfl | rfl | rfl | rfl | rfl
  · exact op11b1 a c w
  · exact op11b2 a c w
  · exact op11b3 a c w
  · exact op11b4 a c w
  · exact op11b5 a c w
  · exact op11b6 a c w
  · exact op11b7 a c w
  · exact op11b8 a c w
  · exact op11b9 a c w
  · exact op11b10 a c w
  · exact op11b11 a c w
  · exact op11b12 a c w
  · exact op11b13 a c w
  · exact op11b14 a c w
  · exact op11b15 a c w
  · exact op11b16 a c w
theorem walk (op : Int) (a : Int) (b : Int) (c : Int) (w : World) : Calls Try.prog 3 #[.agg #[.int .i64 op, .int .i64 a, .int .i64 b, .int .i64 c]] w (Ret (.bool true) w) := by
  by_cases hop : op < 1
  · exact opL op a b c hop w
  by_cases hop' : 20 < op
  · exact opH op a b c hop' w
  have hc : op = 1 ∨ op = 2 ∨ op = 3 ∨ op = 4 ∨ op = 5 ∨ op = 6 ∨ op = 7 ∨ op = 8 ∨ op = 9 ∨ op = 10 ∨ op = 11 ∨ op = 12 ∨ op = 13 ∨ op = 14 ∨ op = 15 ∨ op = 16 ∨ op = 17 ∨ op = 18 ∨ op = 19 ∨ op = 20 := by omega
  rcases hc with rfl | rfl | rfl | rfl | rfl | rfl | rfl | rfl | rfl | rfl | rfl | rfl | rfl | rfl | rfl | rfl | rfl | rfl | rfl | rfl
  · exact op1 a b c w
  · exact op2 a b c w
  · exact op3 a b c w
  · exact op4 a b c w
  · exact op5 a b c w
  · exact op6 a b c w
  · exact op7 a b c w
  · exact op8 a b c w
  · exact op9 a b c w
  · exact op10 a b c w
  · exact op11 a b c w
  · exact op12 a b c w
  · exact op13 a b c w
  · exact op14 a b c w
  · exact op15 a b c w
  · exact op16 a b c w
  · exact op17 a b c w
  · exact op18 a b c w
  · exact op19 a b c w
  · exact op20 a b c w
namespace InstrForms

theorem own : ownKnob Try.prog.godebug = none := by kernel_rfl
set_option maxRecDepth 100000 in
theorem lifted (os : Os) (started : os.Started) (H : Type) (enc : TypeId × Value → H) :
    ReturnsInHanded {} Try.checked os 3 .any (Rows.instrFormsSpec.pre6 enc Try.prog Try.f3 Rows.instrFormsRow.domain false) (Rows.instrFormsSpec.post enc Try.prog Try.f3 false true false false) := by
  refine law_frame (C := Try.checked) own started (by kernel_rfl) Try.func3 rfl rfl Try.underlying4 ?_ (by kernel_rfl) (by kernel_rfl)
    (ChangeSpec.witness6 (enc := enc) (C := Try.checked) false ⟨#[], #[.agg #[.int .i64 0, .int .i64 0, .int .i64 0, .int .i64 0]], []⟩ 8 (by kernel_rfl) (by kernel_rfl) (by kernel_rfl) (by kernel_rfl)) ?_
  · intro ds hlen
    have hlen : ds.length = 1 := hlen.trans (by kernel_rfl)
    match ds, hlen with
    | [_], _ => rfl
  intro W base args ds p hval hA hlt hsz
  rw [Try.params3] at hA hval
  obtain ⟨v0, vs0, d0, ds0, p0, q0, hargs, rfl, rfl, h0, r0⟩ := trodAll_cons hA
  obtain ⟨rfl, rfl, rfl⟩ := trodAll_nil r0
  obtain rfl : args = #[v0] := by cases args; simp_all
  obtain ⟨cs0, rfl, hl0, hc0⟩ := okWide_cells (ts := cellTs0) (by kernel_rfl) (by kernel_rfl) (by kernel_rfl) (hval 0 24 v0 rfl rfl)
  match cs0, hl0 with
  | [x0_0, x0_1, x0_2, x0_3], _ =>
  obtain ⟨op, rfl, wf_op⟩ := okWide_int (k := .i64) (by kernel_rfl) (hc0 0 _ _ rfl rfl)
  obtain ⟨a, rfl, wf_a⟩ := okWide_int (k := .i64) (by kernel_rfl) (hc0 1 _ _ rfl rfl)
  obtain ⟨b, rfl, wf_b⟩ := okWide_int (k := .i64) (by kernel_rfl) (hc0 2 _ _ rfl rfl)
  obtain ⟨c, rfl, wf_c⟩ := okWide_int (k := .i64) (by kernel_rfl) (hc0 3 _ _ rfl rfl)
  exact walk op a b c W

theorem over : Rows.instrFormsRow.holds Try.pinned (OpenSpec.ofChange Rows.instrFormsSpec) :=
  OpenClaim.holds_of_wide 3 Try.f3 rfl rfl rfl rfl rfl rfl rfl ⟨rfl, rfl, rfl, rfl, rfl⟩ rfl rfl rfl rfl rfl (by kernel_rfl) Try.func3 (by kernel_rfl)
    (of_decide_eq_true (by kernel_rfl)) (by unfold Func.isWrapper; first | (rw [if_pos (by decide +kernel)]; kernel_rfl) | (rw [if_neg (by decide +kernel)]; exact ⟨rfl, rfl⟩))
    (fun os started H enc _ => lifted os started H enc)

/-- The statement. -/
theorem proved : Rows.InstrFormsSaid := over
#print axioms proved
end InstrForms
end Ev
end Go.Proofs.Ytiiemakdpibncaa
