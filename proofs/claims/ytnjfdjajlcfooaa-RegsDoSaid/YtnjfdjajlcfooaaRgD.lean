/- The law RegsDo, for every input, by the runner. -/
import Derived.Test.YtnjfdjajlcfooaaRgDt
namespace Go.Proofs.Ytnjfdjajlcfooaa
open Go.ChangeShapes Go.WideShapes Go.ChangeAt Go.RowKit
namespace Ev

noncomputable def cellTs0 : List TypeId := (Try.prog.cellTypes Try.prog.depth 25).getD []
noncomputable def cellTs2 : List TypeId := (Try.prog.cellTypes Try.prog.depth 28).getD []
noncomputable def cellTs3 : List TypeId := (Try.prog.cellTypes Try.prog.depth 24).getD []
set_option maxRecDepth 100000
theorem op11 (k0 n0 k1 n1 k2 n2 k3 n3 k4 n4 k5 n5 k6 n6 k7 n7 pc a b c rk rn : Int) (w : World) : Calls Try.prog 3 (dArgs k0 n0 k1 n1 k2 n2 k3 n3 k4 n4 k5 n5 k6 n6 k7 n7 pc 11 a b c rk rn) w (Ret (.bool true) w) := by
  by_cases hb : b < 1
  · exact op11L k0 n0 k1 n1 k2 n2 k3 n3 k4 n4 k5 n5 k6 n6 k7 n7 pc a b c rk rn hb w
  by_cases hb' : 16 < b
  · exact op11H k0 n0 k1 n1 k2 n2 k3 n3 k4 n4 k5 n5 k6 n6 k7 n7 pc a b c rk rn hb' w
  have hc : b = 1 ∨ b = 2 ∨ b = 3 ∨ b = 4 ∨ b = 5 ∨ b = 6 ∨ b = 7 ∨ b = 8 ∨ b = 9 ∨ b = 10 ∨ b = 11 ∨ b = 12 ∨ b = 13 ∨ b = 14 ∨ b = 15 ∨ b = 16 := by omega
  rcases hc with rfl | rfl | rfl | rfl | rfl | rfl | rfl | rfl | rfl | rfl | rfl | rfl | rfl | rfl | rfl | rfl
  · exact op11b1 k0 n0 k1 n1 k2 n2 k3 n3 k4 n4 k5 n5 k6 n6 k7 n7 pc a c rk rn w
  · exact op11b2 k0 n0 k1 n1 k2 n2 k3 n3 k4 n4 k5 n5 k6 n6 k7 n7 pc a c rk rn w
  · exact op11b3 k0 n0 k1 n1 k2 n2 k3 n3 k4 n4 k5 n5 k6 n6 k7 n7 pc a c rk rn w
  · exact op11b4 k0 n0 k1 n1 k2 n2 k3 n3 k4 n4 k5 n5 k6 n6 k7 n7 pc a c rk rn w
  · exact op11b5 k0 n0 k1 n1 k2 n2 k3 n3 k4 n4 k5 n5 k6 n6 k7 n7 pc a c rk rn w
  · exact op11b6 k0 n0 k1 n1 k2 n2 k3 n3 k4 n4 k5 n5 k6 n6 k7 n7 pc a c rk rn w
  · exact op11b7 k0 n0 k1 n1 k2 n2 k3 n3 k4 n4 k5 n5 k6 n6 k7 n7 pc a c rk rn w
  · exact op11b8 k0 n0 k1 n1 k2 n2 k3 n3 k4 n4 k5 n5 k6 n6 k7 n7 pc a c rk rn w
  · exact op11b9 k0 n0 k1 n1 k2 n2 k3 n3 k4 n4 k5 n5 k6 n6 k7 n7 pc a c rk rn w
  · exact op11b10 k0 n0 k1 n1 k2 n2 k3 n3 k4 n4 k5 n5 k6 n6 k7 n7 pc a c rk rn w
  · exact op11b11 k0 n0 k1 n1 k2 n2 k3 n3 k4 n4 k5 n5 k6 n6 k7 n7 pc a c rk rn w
  · exact op11b12 k0 n0 k1 n1 k2 n2 k3 n3 k4 n4 k5 n5 k6 n6 k7 n7 pc a c rk rn w
  · exact op11b13 k0 n0 k1 n1 k2 n2 k3 n3 k4 n4 k5 n5 k6 n6 k7 n7 pc a c rk rn w
  · exact op11b14 k0 n0 k1 n1 k2 n2 k3 n3 k4 n4 k5 n5 k6 n6 k7 n7 pc a c rk rn w
  · exact op11b15 k0 n0 k1 n1 k2 n2 k3 n3 k4 n4 k5 n5 k6 n6 k7 n7 pc a c rk rn w
  · exact op11b16 k0 n0 k1 n1 k2 n2 k3 n3 k4 n4 k5 n5 k6 n6 k7 n7 pc a c rk rn w
theorem walk (k0 : Int) (n0 : Int) (k1 : Int) (n1 : Int) (k2 : Int) (n2 : Int) (k3 : Int) (n3 : Int) (k4 : Int) (n4 : Int) (k5 : Int) (n5 : Int) (k6 : Int) (n6 : Int) (k7 : Int) (n7 : Int) (pc : Int) (op : Int) (a : Int) (b : Int) (c : Int) (rk : Int) (rn : Int) (w : World) : Calls Try.prog 3 #[.agg #[.int .i64 k0, .int .i64 n0, .int .i64 k1, .int .i64 n1, .int .i64 k2, .int .i64 n2, .int .i64 k3, .int .i64 n3, .int .i64 k4, .int .i64 n4, .int .i64 k5, .int .i64 n5, .int .i64 k6, .int .i64 n6, .int .i64 k7, .int .i64 n7], .int .i64 pc, .agg #[.int .i64 op, .int .i64 a, .int .i64 b, .int .i64 c], .agg #[.int .i64 rk, .int .i64 rn]] w (Ret (.bool true) w) := by
  show Calls Try.prog _ (dArgs k0 n0 k1 n1 k2 n2 k3 n3 k4 n4 k5 n5 k6 n6 k7 n7 pc op a b c rk rn) w _
  by_cases hop : op < 1
  · exact opL k0 n0 k1 n1 k2 n2 k3 n3 k4 n4 k5 n5 k6 n6 k7 n7 pc op a b c rk rn hop w
  by_cases hop' : 20 < op
  · exact opH k0 n0 k1 n1 k2 n2 k3 n3 k4 n4 k5 n5 k6 n6 k7 n7 pc op a b c rk rn hop' w
  have hc : op = 1 ∨ op = 2 ∨ op = 3 ∨ op = 4 ∨ op = 5 ∨ op = 6 ∨ op = 7 ∨ op = 8 ∨ op = 9 ∨ op = 10 ∨ op = 11 ∨ op = 12 ∨ op = 13 ∨ op = 14 ∨ op = 15 ∨ op = 16 ∨ op = 17 ∨ op = 18 ∨ op = 19 ∨ op = 20 := by omega
  rcases hc with rfl | rfl | rfl | rfl | rfl | rfl | rfl | rfl | rfl | rfl | rfl | rfl | rfl | rfl | rfl | rfl | rfl | rfl | rfl | rfl
  · exact op1 k0 n0 k1 n1 k2 n2 k3 n3 k4 n4 k5 n5 k6 n6 k7 n7 pc a b c rk rn w
  · exact op2 k0 n0 k1 n1 k2 n2 k3 n3 k4 n4 k5 n5 k6 n6 k7 n7 pc a b c rk rn w
  · exact op3 k0 n0 k1 n1 k2 n2 k3 n3 k4 n4 k5 n5 k6 n6 k7 n7 pc a b c rk rn w
  · exact op4 k0 n0 k1 n1 k2 n2 k3 n3 k4 n4 k5 n5 k6 n6 k7 n7 pc a b c rk rn w
  · exact op5 k0 n0 k1 n1 k2 n2 k3 n3 k4 n4 k5 n5 k6 n6 k7 n7 pc a b c rk rn w
  · exact op6 k0 n0 k1 n1 k2 n2 k3 n3 k4 n4 k5 n5 k6 n6 k7 n7 pc a b c rk rn w
  · exact op7 k0 n0 k1 n1 k2 n2 k3 n3 k4 n4 k5 n5 k6 n6 k7 n7 pc a b c rk rn w
  · exact op8 k0 n0 k1 n1 k2 n2 k3 n3 k4 n4 k5 n5 k6 n6 k7 n7 pc a b c rk rn w
  · exact op9 k0 n0 k1 n1 k2 n2 k3 n3 k4 n4 k5 n5 k6 n6 k7 n7 pc a b c rk rn w
  · exact op10 k0 n0 k1 n1 k2 n2 k3 n3 k4 n4 k5 n5 k6 n6 k7 n7 pc a b c rk rn w
  · exact op11 k0 n0 k1 n1 k2 n2 k3 n3 k4 n4 k5 n5 k6 n6 k7 n7 pc a b c rk rn w
  · exact op12 k0 n0 k1 n1 k2 n2 k3 n3 k4 n4 k5 n5 k6 n6 k7 n7 pc a b c rk rn w
  · exact op13 k0 n0 k1 n1 k2 n2 k3 n3 k4 n4 k5 n5 k6 n6 k7 n7 pc a b c rk rn w
  · exact op14 k0 n0 k1 n1 k2 n2 k3 n3 k4 n4 k5 n5 k6 n6 k7 n7 pc a b c rk rn w
  · exact op15 k0 n0 k1 n1 k2 n2 k3 n3 k4 n4 k5 n5 k6 n6 k7 n7 pc a b c rk rn w
  · exact op16 k0 n0 k1 n1 k2 n2 k3 n3 k4 n4 k5 n5 k6 n6 k7 n7 pc a b c rk rn w
  · exact op17 k0 n0 k1 n1 k2 n2 k3 n3 k4 n4 k5 n5 k6 n6 k7 n7 pc a b c rk rn w
  · exact op18 k0 n0 k1 n1 k2 n2 k3 n3 k4 n4 k5 n5 k6 n6 k7 n7 pc a b c rk rn w
  · exact op19 k0 n0 k1 n1 k2 n2 k3 n3 k4 n4 k5 n5 k6 n6 k7 n7 pc a b c rk rn w
  · exact op20 k0 n0 k1 n1 k2 n2 k3 n3 k4 n4 k5 n5 k6 n6 k7 n7 pc a b c rk rn w
namespace RegsDo

theorem own : ownKnob Try.prog.godebug = none := by kernel_rfl
set_option maxRecDepth 100000 in
theorem lifted (os : Os) (started : os.Started) (H : Type) (enc : TypeId × Value → H) :
    ReturnsInHanded {} Try.checked os 3 .any (Rows.regsDoSpec.pre6 enc Try.prog Try.f3 Rows.regsDoRow.domain false) (Rows.regsDoSpec.post enc Try.prog Try.f3 false true false false) := by
  refine law_frame (C := Try.checked) own started (by kernel_rfl) Try.func3 rfl rfl Try.underlying4 ?_ (by kernel_rfl) (by kernel_rfl)
    (ChangeSpec.witness6 (enc := enc) (C := Try.checked) false ⟨#[], #[.agg #[.int .i64 0, .int .i64 0, .int .i64 0, .int .i64 0, .int .i64 0, .int .i64 0, .int .i64 0, .int .i64 0, .int .i64 0, .int .i64 0, .int .i64 0, .int .i64 0, .int .i64 0, .int .i64 0, .int .i64 0, .int .i64 0], .int .i64 0, .agg #[.int .i64 0, .int .i64 0, .int .i64 0, .int .i64 0], .agg #[.int .i64 0, .int .i64 0]], []⟩ 8 (by kernel_rfl) (by kernel_rfl) (by kernel_rfl) (by kernel_rfl)) ?_
  · intro ds hlen
    have hlen : ds.length = 4 := hlen.trans (by kernel_rfl)
    match ds, hlen with
    | [_, _, _, _], _ => rfl
  intro W base args ds p hval hA hlt hsz
  rw [Try.params3] at hA hval
  obtain ⟨v0, vs0, d0, ds0, p0, q0, hargs, rfl, rfl, h0, r0⟩ := trodAll_cons hA
  obtain ⟨v1, vs1, d1, ds1, p1, q1, rfl, rfl, rfl, h1, r1⟩ := trodAll_cons r0
  obtain ⟨v2, vs2, d2, ds2, p2, q2, rfl, rfl, rfl, h2, r2⟩ := trodAll_cons r1
  obtain ⟨v3, vs3, d3, ds3, p3, q3, rfl, rfl, rfl, h3, r3⟩ := trodAll_cons r2
  obtain ⟨rfl, rfl, rfl⟩ := trodAll_nil r3
  obtain rfl : args = #[v0, v1, v2, v3] := by cases args; simp_all
  obtain ⟨cs0, rfl, hl0, hc0⟩ := okWide_cells (ts := cellTs0) (by kernel_rfl) (by kernel_rfl) (by kernel_rfl) (hval 0 25 v0 rfl rfl)
  match cs0, hl0 with
  | [x0_0, x0_1, x0_2, x0_3, x0_4, x0_5, x0_6, x0_7, x0_8, x0_9, x0_10, x0_11, x0_12, x0_13, x0_14, x0_15], _ =>
  obtain ⟨k0, rfl, wf_k0⟩ := okWide_int (k := .i64) (by kernel_rfl) (hc0 0 _ _ rfl rfl)
  obtain ⟨n0, rfl, wf_n0⟩ := okWide_int (k := .i64) (by kernel_rfl) (hc0 1 _ _ rfl rfl)
  obtain ⟨k1, rfl, wf_k1⟩ := okWide_int (k := .i64) (by kernel_rfl) (hc0 2 _ _ rfl rfl)
  obtain ⟨n1, rfl, wf_n1⟩ := okWide_int (k := .i64) (by kernel_rfl) (hc0 3 _ _ rfl rfl)
  obtain ⟨k2, rfl, wf_k2⟩ := okWide_int (k := .i64) (by kernel_rfl) (hc0 4 _ _ rfl rfl)
  obtain ⟨n2, rfl, wf_n2⟩ := okWide_int (k := .i64) (by kernel_rfl) (hc0 5 _ _ rfl rfl)
  obtain ⟨k3, rfl, wf_k3⟩ := okWide_int (k := .i64) (by kernel_rfl) (hc0 6 _ _ rfl rfl)
  obtain ⟨n3, rfl, wf_n3⟩ := okWide_int (k := .i64) (by kernel_rfl) (hc0 7 _ _ rfl rfl)
  obtain ⟨k4, rfl, wf_k4⟩ := okWide_int (k := .i64) (by kernel_rfl) (hc0 8 _ _ rfl rfl)
  obtain ⟨n4, rfl, wf_n4⟩ := okWide_int (k := .i64) (by kernel_rfl) (hc0 9 _ _ rfl rfl)
  obtain ⟨k5, rfl, wf_k5⟩ := okWide_int (k := .i64) (by kernel_rfl) (hc0 10 _ _ rfl rfl)
  obtain ⟨n5, rfl, wf_n5⟩ := okWide_int (k := .i64) (by kernel_rfl) (hc0 11 _ _ rfl rfl)
  obtain ⟨k6, rfl, wf_k6⟩ := okWide_int (k := .i64) (by kernel_rfl) (hc0 12 _ _ rfl rfl)
  obtain ⟨n6, rfl, wf_n6⟩ := okWide_int (k := .i64) (by kernel_rfl) (hc0 13 _ _ rfl rfl)
  obtain ⟨k7, rfl, wf_k7⟩ := okWide_int (k := .i64) (by kernel_rfl) (hc0 14 _ _ rfl rfl)
  obtain ⟨n7, rfl, wf_n7⟩ := okWide_int (k := .i64) (by kernel_rfl) (hc0 15 _ _ rfl rfl)
  obtain ⟨pc, rfl, wf_pc⟩ := okWide_int (k := .i64) (by kernel_rfl) (okWide_one (by kernel_rfl) (hval 1 3 v1 rfl rfl))
  obtain ⟨cs2, rfl, hl2, hc2⟩ := okWide_cells (ts := cellTs2) (by kernel_rfl) (by kernel_rfl) (by kernel_rfl) (hval 2 28 v2 rfl rfl)
  match cs2, hl2 with
  | [x2_0, x2_1, x2_2, x2_3], _ =>
  obtain ⟨op, rfl, wf_op⟩ := okWide_int (k := .i64) (by kernel_rfl) (hc2 0 _ _ rfl rfl)
  obtain ⟨a, rfl, wf_a⟩ := okWide_int (k := .i64) (by kernel_rfl) (hc2 1 _ _ rfl rfl)
  obtain ⟨b, rfl, wf_b⟩ := okWide_int (k := .i64) (by kernel_rfl) (hc2 2 _ _ rfl rfl)
  obtain ⟨c, rfl, wf_c⟩ := okWide_int (k := .i64) (by kernel_rfl) (hc2 3 _ _ rfl rfl)
  obtain ⟨cs3, rfl, hl3, hc3⟩ := okWide_cells (ts := cellTs3) (by kernel_rfl) (by kernel_rfl) (by kernel_rfl) (hval 3 24 v3 rfl rfl)
  match cs3, hl3 with
  | [x3_0, x3_1], _ =>
  obtain ⟨rk, rfl, wf_rk⟩ := okWide_int (k := .i64) (by kernel_rfl) (hc3 0 _ _ rfl rfl)
  obtain ⟨rn, rfl, wf_rn⟩ := okWide_int (k := .i64) (by kernel_rfl) (hc3 1 _ _ rfl rfl)
  exact walk k0 n0 k1 n1 k2 n2 k3 n3 k4 n4 k5 n5 k6 n6 k7 n7 pc op a b c rk rn W

theorem over : Rows.regsDoRow.holds Try.pinned (OpenSpec.ofChange Rows.regsDoSpec) :=
  OpenClaim.holds_of_wide 3 Try.f3 rfl rfl rfl rfl rfl rfl rfl ⟨rfl, rfl, rfl, rfl, rfl⟩ rfl rfl rfl rfl rfl (by kernel_rfl) Try.func3 (by kernel_rfl)
    (of_decide_eq_true (by kernel_rfl)) (by unfold Func.isWrapper; first | (rw [if_pos (by decide +kernel)]; kernel_rfl) | (rw [if_neg (by decide +kernel)]; exact ⟨rfl, rfl⟩))
    (fun os started H enc _ => lifted os started H enc)

/-- The statement. -/
theorem proved : Rows.RegsDoSaid := over
#print axioms proved
end RegsDo
end Ev
end Go.Proofs.Ytnjfdjajlcfooaa
