/- The law PlainShares, for every input. -/
import Derived.Test.YtiijipocjellpaaGreatZad
import Derived.Test.YtiijipocjellpaaGreatZah
set_option linter.unusedSimpArgs false
set_option linter.unusedVariables false
/- The law PlainShares, for every input. -/
namespace Go.Proofs.YtiijipocjellpaaGreat
open Go.ChangeShapes Go.WideShapes Go.ChangeAt Go.RowKit
namespace Ev
namespace PlainShares
set_option linter.unusedVariables false
def el0R (x : Int) : Prop := (IntKind.u8.min ≤ x ∧ x ≤ IntKind.u8.max)
theorem el0 {H : Type} {enc : TypeId × Value → H} {w : World} {cs : List Value} (hl : cs.length = 1) (h : Trd enc Tryz.prog w 5 cs) : ∃ x : Int, DecL w cs ((Zeu .u8).cel x) ∧ el0R x := by
 have h0 := ZuY (by kernel_rfl : Tryz.prog.cellsOf 5 = 1) hl h
 obtain ⟨x0, e0, b0⟩ := ZuZ Tryz.underlying5 (by kernel_rfl) h0
 refine ⟨(x0 : Int), Zut (by rw [hl, Enc.clen]; rfl) (fun j y hy => ?_), b0⟩
 have := (Zuu (w := w) (k := 0) e0 .k (ZuX (w := w))) j y hy
 simpa using this
theorem own : ownKnob Tryz.prog.godebug = none := by kernel_rfl
set_option maxRecDepth 100000 in
theorem lifted (os : Os) (started : os.Started) (H : Type) (enc : TypeId × Value → H) :
  ReturnsInHanded {} Tryz.checked os 3 .any (Rows.plainSharesSpec.pre6 enc Tryz.prog Tryz.f3 Rows.plainSharesRow.domain false) (Rows.plainSharesSpec.post enc Tryz.prog Tryz.f3 false true false false) := by
 refine Zs1 (C := Tryz.checked) own started (by kernel_rfl) Tryz.func3 rfl rfl Tryz.underlying4 ?_ (by kernel_rfl) (by kernel_rfl)
  (ChangeSpec.witness6 (enc := enc) (C := Tryz.checked) false ⟨#[], #[.slice none 0 0, .int .u8 0], []⟩ 8 (by kernel_rfl) (by kernel_rfl) (by kernel_rfl) (by kernel_rfl)) ?_
 ·intro ds hlen
  have hlen : ds.length = 2 := hlen.trans (by kernel_rfl)
  match ds, hlen with
  | [_, _], _ => rfl
 intro W base args ds p hval hA hlt hsz
 rw [Tryz.params3] at hA hval
 obtain ⟨v0, vs0, d0, ds0, p0, q0, hargs, rfl, rfl, h0, r0⟩ := trodAll_cons hA
 obtain ⟨v1, vs1, d1, ds1, p1, q1, rfl, rfl, rfl, h1, r1⟩ := trodAll_cons r0
 obtain ⟨rfl, rfl, rfl⟩ := trodAll_nil r1
 obtain rfl : args = #[v0, v1] := by cases args; simp_all
 obtain ⟨a0, l0, c0, rfl⟩ := Go.WideShapes.okWide_slice Tryz.underlying22 (hval 0 22 v0 rfl rfl)
 obtain ⟨L0, u0, e0, D0, n0, m0⟩ := ZsA (E := (Zeu .u8)) (Q := el0R) Tryz.underlying22 (by kernel_rfl) (by decide) (fun _ => el0) (Zuv h0)
 obtain rfl : u0 = .slice a0 l0 c0 := by have := e0; simp [Value.cells] at this; exact this.symm
 obtain ⟨z1, rfl, w1⟩ := ZrN (k := .u8) (by kernel_rfl) (ZrO (by kernel_rfl) (hval 1 5 v1 rfl rfl))
 exact ZuV (Zjc L0 z1 100000 _ (Ps.runs L0 z1 m0 w1)) (Zp1 (show VR (ιMk W) (ms (Zeu .u8) L0) _ from D0.vr) (Zp1 (.atom rfl) Zuh)) rfl
theorem over : Rows.plainSharesRow.holds Tryz.pinned (OpenSpec.ofChange Rows.plainSharesSpec) :=
 OpenClaim.holds_of_wide 3 Tryz.f3 rfl rfl rfl rfl rfl rfl rfl ⟨rfl, rfl, rfl, rfl, rfl⟩ rfl rfl rfl rfl rfl (by kernel_rfl) Tryz.func3 (by kernel_rfl)
  (of_decide_eq_true (by kernel_rfl)) (by unfold Func.isWrapper; first | (rw [if_pos (by decide +kernel)]; kernel_rfl) | (rw [if_neg (by decide +kernel)]; exact ⟨rfl, rfl⟩))
  (fun os started H enc _ => lifted os started H enc)
theorem proved : Rows.PlainSharesSaid := over
#print axioms proved
end PlainShares
end Ev
end Go.Proofs.YtiijipocjellpaaGreat
