/- The law RsetRuns, for every input. -/
import Derived.Test.YtbhnaaingkbeiaaEvU
import Derived.Test.YtbhnaaingkbeiaaSrq3
import Derived.Test.YtbhnaaingkbeiaaSrt
import Derived.Test.YtbhnaaingkbeiaaTail
namespace Go.Proofs.Ytbhnaaingkbeiaa
open Go.ChangeShapes Go.WideShapes Go.ChangeAt Go.RowKit
namespace Ev
namespace RsetRuns
set_option linter.unusedVariables false
def el1R (x : R_uii) : Prop := (IntKind.u8.min ≤ x.a0 ∧ x.a0 ≤ IntKind.u8.max) ∧ (IntKind.i64.min ≤ x.a1 ∧ x.a1 ≤ IntKind.i64.max) ∧ (IntKind.i64.min ≤ x.a2 ∧ x.a2 ≤ IntKind.i64.max)
theorem el1 {H : Type} {enc : TypeId × Value → H} {w : World} {O : Obj} {o cap i : Nat} (hE : Elems enc Try.prog w 34 O o cap) (hi : i < cap) : ∃ x : R_uii, RowOK O (o + i * 3) [.k .u8 x.a0, .i x.a1, .i x.a2] ∧ el1R x := by
  obtain ⟨C, ty, fr, cs, hO, hl, hc, ht⟩ := hE i hi
  have cw : Try.prog.cellsOf 34 = 3 := by kernel_rfl
  rw [cw] at hc
  have h0 := trd_field Try.underlying34 ht 0 rfl
  have h1 := trd_field Try.underlying34 ht 1 rfl
  have h2 := trd_field Try.underlying34 ht 2 rfl
  have c0 : Try.prog.cellsOf 5 = 1 := by kernel_rfl
  obtain ⟨x0, e0, b0⟩ := trd_int Try.underlying5 h0
  have e0 := one_of_take e0 c0
  have c1 : Try.prog.cellsOf 3 = 1 := by kernel_rfl
  obtain ⟨x1, e1, b1⟩ := trd_int Try.underlying3 h1
  have e1 := one_of_take e1 c1
  have c2 : Try.prog.cellsOf 3 = 1 := by kernel_rfl
  obtain ⟨x2, e2, b2⟩ := trd_int Try.underlying3 h2
  have e2 := one_of_take e2 c2
  have row : RowOK O (o + i * 3) [.k .u8 x0, .i x1, .i x2] := elem_row hO hc (show 3 ≤ 3 from by decide) fun j b hj => by
    have := (cellsC (k := 0) e0 (b := .k .u8 x0) (by simp [sameC]) (cellsC (k := 1) e1 (b := .i x1) (by simp [sameC]) (cellsC (k := 2) e2 (b := .i x2) (by simp [sameC]) (fun j b h => by simp at h) (l := [])))) j b hj
    simpa using this
  exact ⟨⟨x0, x1, x2⟩, row, ⟨b0, b1, b2⟩⟩
theorem own : ownKnob Try.prog.godebug = none := by kernel_rfl
set_option maxRecDepth 100000 in
theorem lifted (os : Os) (started : os.Started) (H : Type) (enc : TypeId × Value → H) :
    ReturnsInHanded {} Try.checked os 3 .any (Rows.rsetRunsSpec.pre6 enc Try.prog Try.f3 Rows.rsetRunsRow.domain false) (Rows.rsetRunsSpec.post enc Try.prog Try.f3 false true false false) := by
  refine law_frame (C := Try.checked) own started (by kernel_rfl) Try.func3 rfl rfl Try.underlying4 ?_ (by kernel_rfl) (by kernel_rfl)
    (ChangeSpec.witness6 (enc := enc) (C := Try.checked) false ⟨#[], #[.int .i64 0, .slice none 0 0, .int .i64 0], []⟩ 8 (by kernel_rfl) (by kernel_rfl) (by kernel_rfl) (by kernel_rfl)) ?_
  · intro ds hlen
    have hlen : ds.length = 3 := hlen.trans (by kernel_rfl)
    match ds, hlen with
    | [_, _, _], _ => rfl
  intro W base args ds p hval hA hlt hsz
  rw [Try.params3] at hA hval
  obtain ⟨v0, vs0, d0, ds0, p0, q0, hargs, rfl, rfl, h0, r0⟩ := trodAll_cons hA
  obtain ⟨v1, vs1, d1, ds1, p1, q1, rfl, rfl, rfl, h1, r1⟩ := trodAll_cons r0
  obtain ⟨v2, vs2, d2, ds2, p2, q2, rfl, rfl, rfl, h2, r2⟩ := trodAll_cons r1
  obtain ⟨rfl, rfl, rfl⟩ := trodAll_nil r2
  obtain rfl : args = #[v0, v1, v2] := by cases args; simp_all
  obtain ⟨z0, rfl, w0⟩ := okWide_int (k := .i64) (by kernel_rfl) (okWide_one (by kernel_rfl) (hval 0 3 v0 rfl rfl))
  obtain ⟨z2, rfl, w2⟩ := okWide_int (k := .i64) (by kernel_rfl) (okWide_one (by kernel_rfl) (hval 2 3 v2 rfl rfl))
  rcases arg_row Try.underlying22 (hval 1 22 v1 rfl rfl) h1 with rfl | ⟨b1, o1, n1, c1, O1, rfl, hl1, hc1, hB1, hE1⟩
  ·
    exact law_of (law06_RsetRuns_2_spec z0 z2  200000 _ (Sr.runs2 z0 z2)) [] rfl hro_nil (VRl_cons (.atom rfl) (VRl_cons (.atom rfl) (VRl_cons (.atom rfl) VRl_nil))) rfl
  ·
    obtain ⟨G1, hG1⟩ := pick1 fun i (hi : i < n1) => el1 hE1 (show i < c1 by omega)
    obtain ⟨L1, hL1⟩ : ∃ L, L = (List.range n1).map G1 := ⟨_, rfl⟩
    have hn1 : L1.length = n1 := by rw [hL1]; simp
    have hg1 : ∀ i, i < n1 → L1.getD i R_uii.z = G1 i := fun i hi => by rw [hL1]; simp [hi]
    have F1 : ∀ i, i < L1.length → RowOK O1 (o1 + i * 3) [.k .u8 (L1.getD i R_uii.z).a0, .i (L1.getD i R_uii.z).a1, .i (L1.getD i R_uii.z).a2] := fun i hi => by rw [hn1] at hi; rw [hg1 i hi]; exact (hG1 i hi).1
    have R1 : ∀ i, i < L1.length → el1R (L1.getD i R_uii.z) := fun i hi => by rw [hn1] at hi; rw [hg1 i hi]; exact (hG1 i hi).2
    rw [← hn1]
    rw [← hn1] at hl1
    exact law_of (law06_RsetRuns_spec z0 o1 (L1) L1.length c1 z2 O1 F1 200000 _ (Sr.runs z0 L1 c1 z2)) [b1] rfl (hro_cons hB1 hro_nil) (VRl_cons (.atom rfl) (VRl_cons (ro_slice rfl hl1) (VRl_cons (.atom rfl) VRl_nil))) rfl
theorem over : Rows.rsetRunsRow.holds Try.pinned (OpenSpec.ofChange Rows.rsetRunsSpec) :=
  OpenClaim.holds_of_wide 3 Try.f3 rfl rfl rfl rfl rfl rfl rfl ⟨rfl, rfl, rfl, rfl, rfl⟩ rfl rfl rfl rfl rfl (by kernel_rfl) Try.func3 (by kernel_rfl)
    (of_decide_eq_true (by kernel_rfl)) (by unfold Func.isWrapper; first | (rw [if_pos (by decide +kernel)]; kernel_rfl) | (rw [if_neg (by decide +kernel)]; exact ⟨rfl, rfl⟩))
    (fun os started H enc _ => lifted os started H enc)
/-- The statement. -/
theorem proved : Rows.RsetRunsSaid := over
#print axioms proved
end RsetRuns
end Ev
end Go.Proofs.Ytbhnaaingkbeiaa
