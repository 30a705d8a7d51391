/- The law PlainAlone, for every input. -/
import Derived.Test.YtiijipocjellpaaGreatZad
import Derived.Test.YtiijipocjellpaaGreatZah
set_option linter.unusedSimpArgs false
set_option linter.unusedVariables false
/- The law PlainAlone, for every input. -/
namespace Go.Proofs.YtiijipocjellpaaGreat
open Go.IntKind (i64)
open Go.ChangeShapes Go.WideShapes Go.ChangeAt Go.RowKit
namespace Ev
namespace PlainAlone
set_option linter.unusedVariables false
def el0R (x : RN) : Prop := (i64.min ≤ x.a0 ∧ x.a0 ≤ i64.max) ∧ (i64.min ≤ x.a1 ∧ x.a1 ≤ i64.max) ∧ (i64.min ≤ x.a2 ∧ x.a2 ≤ i64.max) ∧ (i64.min ≤ x.a3 ∧ x.a3 ≤ i64.max) ∧ (i64.min ≤ x.a4 ∧ x.a4 ≤ i64.max) ∧ (i64.min ≤ x.a5 ∧ x.a5 ≤ i64.max) ∧ (i64.min ≤ x.a6 ∧ x.a6 ≤ i64.max) ∧ (i64.min ≤ x.a7 ∧ x.a7 ≤ i64.max)
theorem el0 {H : Type} {enc : TypeId × Value → H} {w : World} {cs : List Value} (hl : cs.length = 8) (h : Trd enc Tryz.prog w 65 cs) : ∃ x : RN, DecL w cs (RE.cel x) ∧ el0R x := by
 have h0 := Zwq (by kernel_rfl : Tryz.prog.cellsOf 65 = 8) hl h
 have h1 := Zei 0 1 8 Tryz.underlying65 h0 0 (te := 3) (o' := 0) (by kernel_rfl) rfl (by kernel_rfl) (by kernel_rfl) (by decide)
 obtain ⟨x0, e0, b0⟩ := ZgY Tryz.underlying3 (by kernel_rfl) h1
 have h2 := Zei 1 1 8 Tryz.underlying65 h0 1 (te := 3) (o' := 1) (by kernel_rfl) rfl (by kernel_rfl) (by kernel_rfl) (by decide)
 obtain ⟨x1, e1, b1⟩ := ZgY Tryz.underlying3 (by kernel_rfl) h2
 have h3 := Zei 2 1 8 Tryz.underlying65 h0 2 (te := 3) (o' := 2) (by kernel_rfl) rfl (by kernel_rfl) (by kernel_rfl) (by decide)
 obtain ⟨x2, e2, b2⟩ := ZgY Tryz.underlying3 (by kernel_rfl) h3
 have h4 := Zei 3 1 8 Tryz.underlying65 h0 3 (te := 3) (o' := 3) (by kernel_rfl) rfl (by kernel_rfl) (by kernel_rfl) (by decide)
 obtain ⟨x3, e3, b3⟩ := ZgY Tryz.underlying3 (by kernel_rfl) h4
 have h5 := Zei 4 1 8 Tryz.underlying65 h0 4 (te := 3) (o' := 4) (by kernel_rfl) rfl (by kernel_rfl) (by kernel_rfl) (by decide)
 obtain ⟨x4, e4, b4⟩ := ZgY Tryz.underlying3 (by kernel_rfl) h5
 have h6 := Zei 5 1 8 Tryz.underlying65 h0 5 (te := 3) (o' := 5) (by kernel_rfl) rfl (by kernel_rfl) (by kernel_rfl) (by decide)
 obtain ⟨x5, e5, b5⟩ := ZgY Tryz.underlying3 (by kernel_rfl) h6
 have h7 := Zei 6 2 8 Tryz.underlying65 h0 6 (te := 42) (o' := 6) (by kernel_rfl) rfl (by kernel_rfl) (by kernel_rfl) (by decide)
 have h8 := Zei 0 1 2 Tryz.underlying42 h7 0 (te := 40) (o' := 6) (by kernel_rfl) rfl (by kernel_rfl) (by kernel_rfl) (by decide)
 obtain ⟨x6, e6, b6⟩ := ZgY Tryz.underlying40 (by kernel_rfl) h8
 have h9 := Zei 1 1 2 Tryz.underlying42 h7 1 (te := 3) (o' := 7) (by kernel_rfl) rfl (by kernel_rfl) (by kernel_rfl) (by decide)
 obtain ⟨x7, e7, b7⟩ := ZgY Tryz.underlying3 (by kernel_rfl) h9
 refine ⟨(⟨x0, x1, x2, x3, x4, x5, x6, x7⟩ : RN), Zv8 (by rw [hl, Enc.clen]; rfl) (fun j y hy => ?_), ⟨b0, b1, b2, b3, b4, b5, b6, b7⟩⟩
 have := (ZfT (w := w) (k := 0) e0 .i (ZfT (w := w) (k := 1) e1 .i (ZfT (w := w) (k := 2) e2 .i (ZfT (w := w) (k := 3) e3 .i (ZfT (w := w) (k := 4) e4 .i (ZfT (w := w) (k := 5) e5 .i (ZfT (w := w) (k := 6) e6 .i (ZfT (w := w) (k := 7) e7 .i (Zwp (w := w)))))))))) j y hy
 simpa using this
theorem own : ownKnob Tryz.prog.godebug = none := by kernel_rfl
set_option maxRecDepth 100000 in
theorem lifted (os : Os) (started : os.Started) (H : Type) (enc : TypeId × Value → H) :
  ReturnsInHanded {} Tryz.checked os 4 .any (Rows.plainAloneSpec.pre6 enc Tryz.prog Tryz.f4 Rows.plainAloneRow.domain false) (Rows.plainAloneSpec.post enc Tryz.prog Tryz.f4 false true false false) := by
 refine Zty (C := Tryz.checked) own started (by kernel_rfl) Tryz.func4 rfl rfl Tryz.underlying4 ?_ (by kernel_rfl) (by kernel_rfl)
  (ChangeSpec.witness6 (enc := enc) (C := Tryz.checked) false ⟨#[], #[.slice none 0 0], []⟩ 8 (by kernel_rfl) (by kernel_rfl) (by kernel_rfl) (by kernel_rfl)) ?_
 ·intro ds hlen
  have hlen : ds.length = 1 := hlen.trans (by kernel_rfl)
  match ds, hlen with
  | [_], _ => rfl
 intro W base args ds p hval hA hlt hsz
 rw [Tryz.params4] at hA hval
 obtain ⟨v0, vs0, d0, ds0, p0, q0, hargs, rfl, rfl, h0, r0⟩ := trodAll_cons hA
 obtain ⟨rfl, rfl, rfl⟩ := trodAll_nil r0
 obtain rfl : args = #[v0] := by cases args; simp_all
 obtain ⟨a0, l0, c0, rfl⟩ := Go.WideShapes.okWide_slice Tryz.underlying63 (hval 0 63 v0 rfl rfl)
 obtain ⟨L0, u0, e0, D0, n0, m0⟩ := Zt8 (E := RE) (Q := el0R) Tryz.underlying63 (by kernel_rfl) (by decide) (fun _ => el0) (Zv9 h0)
 obtain rfl : u0 = .slice a0 l0 c0 := by have := e0; simp [Value.cells] at this; exact this.symm
 exact Zwm (ZjX L0 100000 _ (Pn.runs L0)) (Zut (show VR (ιMk W) (ms RE L0) _ from D0.vr) Zvx) rfl
theorem over : Rows.plainAloneRow.holds Tryz.pinned (OpenSpec.ofChange Rows.plainAloneSpec) :=
 OpenClaim.holds_of_wide 4 Tryz.f4 rfl rfl rfl rfl rfl rfl rfl ⟨rfl, rfl, rfl, rfl, rfl⟩ rfl rfl rfl rfl rfl (by kernel_rfl) Tryz.func4 (by kernel_rfl)
  (of_decide_eq_true (by kernel_rfl)) (by unfold Func.isWrapper; first | (rw [if_pos (by decide +kernel)]; kernel_rfl) | (rw [if_neg (by decide +kernel)]; exact ⟨rfl, rfl⟩))
  (fun os started H enc _ => lifted os started H enc)
theorem proved : Rows.PlainAloneSaid := over
#print axioms proved
end PlainAlone
end Ev
end Go.Proofs.YtiijipocjellpaaGreat
