/- The law OrecRuns, for every input. -/
import Derived.Test.YtlcamddglkfblaaEvU
import Derived.Test.YtlcamddglkfblaaOxq4
import Derived.Test.YtlcamddglkfblaaOxt
import Derived.Test.YtlcamddglkfblaaTail
namespace Go.Proofs.Ytlcamddglkfblaa
open Go.ChangeShapes Go.WideShapes Go.ChangeAt Go.RowKit
namespace Ev
namespace OrecRuns
set_option linter.unusedVariables false
def el1R (x : R_iiiiiiii) : Prop := (IntKind.i64.min ≤ x.a0 ∧ x.a0 ≤ IntKind.i64.max) ∧ (IntKind.i64.min ≤ x.a1 ∧ x.a1 ≤ IntKind.i64.max) ∧ (IntKind.i64.min ≤ x.a2 ∧ x.a2 ≤ IntKind.i64.max) ∧ (IntKind.i64.min ≤ x.a3 ∧ x.a3 ≤ IntKind.i64.max) ∧ (IntKind.i64.min ≤ x.a4 ∧ x.a4 ≤ IntKind.i64.max) ∧ (IntKind.i64.min ≤ x.a5 ∧ x.a5 ≤ IntKind.i64.max) ∧ (IntKind.i64.min ≤ x.a6 ∧ x.a6 ≤ IntKind.i64.max) ∧ (IntKind.i64.min ≤ x.a7 ∧ x.a7 ≤ IntKind.i64.max)
theorem el1 {H : Type} {enc : TypeId × Value → H} {w : World} {O : Obj} {o cap i : Nat} (hE : Elems enc Try.prog w 50 O o cap) (hi : i < cap) : ∃ x : R_iiiiiiii, RowOK O (o + i * 8) [.i x.a0, .i x.a1, .i x.a2, .i x.a3, .i x.a4, .i x.a5, .i x.a6, .i x.a7] ∧ el1R x := by
  obtain ⟨C, ty, fr, cs, hO, hl, hc, ht⟩ := hE i hi
  have cw : Try.prog.cellsOf 50 = 8 := by kernel_rfl
  rw [cw] at hc
  have h0 := trd_field Try.underlying50 ht 0 rfl
  have h1 := trd_field Try.underlying50 ht 1 rfl
  have h2 := trd_field Try.underlying50 ht 2 rfl
  have h3 := trd_field Try.underlying50 ht 3 rfl
  have h4 := trd_field Try.underlying24 h3 0 rfl
  have h5 := trd_field Try.underlying24 h3 1 rfl
  have h6 := trd_field Try.underlying24 h3 2 rfl
  have h7 := trd_field Try.underlying50 ht 4 rfl
  have h8 := trd_field Try.underlying48 h7 0 rfl
  have h9 := trd_field Try.underlying48 h7 1 rfl
  have c0 : Try.prog.cellsOf 3 = 1 := by kernel_rfl
  obtain ⟨x0, e0, b0⟩ := trd_int Try.underlying3 h0
  have e0 := one_of_take e0 c0
  have c1 : Try.prog.cellsOf 3 = 1 := by kernel_rfl
  obtain ⟨x1, e1, b1⟩ := trd_int Try.underlying3 h1
  have e1 := one_of_take e1 c1
  have c2 : Try.prog.cellsOf 3 = 1 := by kernel_rfl
  obtain ⟨x2, e2, b2⟩ := trd_int Try.underlying3 h2
  have e2 := one_of_take e2 c2
  have c3 : Try.prog.cellsOf 22 = 1 := by kernel_rfl
  obtain ⟨x3, e3, b3⟩ := trd_int Try.underlying22 h4
  have e3 := two_of_take e3 c3
  have c4 : Try.prog.cellsOf 3 = 1 := by kernel_rfl
  obtain ⟨x4, e4, b4⟩ := trd_int Try.underlying3 h5
  have e4 := two_of_take e4 c4
  have c5 : Try.prog.cellsOf 3 = 1 := by kernel_rfl
  obtain ⟨x5, e5, b5⟩ := trd_int Try.underlying3 h6
  have e5 := two_of_take e5 c5
  have c6 : Try.prog.cellsOf 46 = 1 := by kernel_rfl
  obtain ⟨x6, e6, b6⟩ := trd_int Try.underlying46 h8
  have e6 := two_of_take e6 c6
  have c7 : Try.prog.cellsOf 3 = 1 := by kernel_rfl
  obtain ⟨x7, e7, b7⟩ := trd_int Try.underlying3 h9
  have e7 := two_of_take e7 c7
  have row : RowOK O (o + i * 8) [.i x0, .i x1, .i x2, .i x3, .i x4, .i x5, .i x6, .i x7] := elem_row hO hc (show 8 ≤ 8 from by decide) fun j b hj => by
    have := (cellsC (k := 0) e0 (b := .i x0) (by simp [sameC]) (cellsC (k := 1) e1 (b := .i x1) (by simp [sameC]) (cellsC (k := 2) e2 (b := .i x2) (by simp [sameC]) (cellsC (k := 3) e3 (b := .i x3) (by simp [sameC]) (cellsC (k := 4) e4 (b := .i x4) (by simp [sameC]) (cellsC (k := 5) e5 (b := .i x5) (by simp [sameC]) (cellsC (k := 6) e6 (b := .i x6) (by simp [sameC]) (cellsC (k := 7) e7 (b := .i x7) (by simp [sameC]) (fun j b h => by simp at h) (l := []))))))))) j b hj
    simpa using this
  exact ⟨⟨x0, x1, x2, x3, x4, x5, x6, x7⟩, row, ⟨b0, b1, b2, b3, b4, b5, b6, b7⟩⟩
theorem own : ownKnob Try.prog.godebug = none := by kernel_rfl
set_option maxRecDepth 100000 in
theorem lifted (os : Os) (started : os.Started) (H : Type) (enc : TypeId × Value → H) :
    ReturnsInHanded {} Try.checked os 4 .any (Rows.orecRunsSpec.pre6 enc Try.prog Try.f4 Rows.orecRunsRow.domain false) (Rows.orecRunsSpec.post enc Try.prog Try.f4 false true false false) := by
  refine law_frame (C := Try.checked) own started (by kernel_rfl) Try.func4 rfl rfl Try.underlying4 ?_ (by kernel_rfl) (by kernel_rfl)
    (ChangeSpec.witness6 (enc := enc) (C := Try.checked) false ⟨#[], #[.int .i64 0, .slice none 0 0], []⟩ 8 (by kernel_rfl) (by kernel_rfl) (by kernel_rfl) (by kernel_rfl)) ?_
  · intro ds hlen
    have hlen : ds.length = 2 := hlen.trans (by kernel_rfl)
    match ds, hlen with
    | [_, _], _ => rfl
  intro W base args ds p hval hA hlt hsz
  rw [Try.params4] at hA hval
  obtain ⟨v0, vs0, d0, ds0, p0, q0, hargs, rfl, rfl, h0, r0⟩ := trodAll_cons hA
  obtain ⟨v1, vs1, d1, ds1, p1, q1, rfl, rfl, rfl, h1, r1⟩ := trodAll_cons r0
  obtain ⟨rfl, rfl, rfl⟩ := trodAll_nil r1
  obtain rfl : args = #[v0, v1] := by cases args; simp_all
  obtain ⟨z0, rfl, w0⟩ := okWide_int (k := .i64) (by kernel_rfl) (okWide_one (by kernel_rfl) (hval 0 3 v0 rfl rfl))
  rcases arg_row Try.underlying37 (hval 1 37 v1 rfl rfl) h1 with rfl | ⟨b1, o1, n1, c1, O1, rfl, hl1, hc1, hB1, hE1⟩
  ·
    exact law_of (law03_OrecRuns_2_spec z0  70000 _ (Ox.runs2 z0)) [] rfl hro_nil (VRl_cons (.atom rfl) (VRl_cons (.atom rfl) VRl_nil)) rfl
  ·
    obtain ⟨G1, hG1⟩ := pick1 fun i (hi : i < n1) => el1 hE1 (show i < c1 by omega)
    obtain ⟨L1, hL1⟩ : ∃ L, L = (List.range n1).map G1 := ⟨_, rfl⟩
    have hn1 : L1.length = n1 := by rw [hL1]; simp
    have hg1 : ∀ i, i < n1 → L1.getD i R_iiiiiiii.z = G1 i := fun i hi => by rw [hL1]; simp [hi]
    have F1 : ∀ i, i < L1.length → RowOK O1 (o1 + i * 8) [.i (L1.getD i R_iiiiiiii.z).a0, .i (L1.getD i R_iiiiiiii.z).a1, .i (L1.getD i R_iiiiiiii.z).a2, .i (L1.getD i R_iiiiiiii.z).a3, .i (L1.getD i R_iiiiiiii.z).a4, .i (L1.getD i R_iiiiiiii.z).a5, .i (L1.getD i R_iiiiiiii.z).a6, .i (L1.getD i R_iiiiiiii.z).a7] := fun i hi => by rw [hn1] at hi; rw [hg1 i hi]; exact (hG1 i hi).1
    have R1 : ∀ i, i < L1.length → el1R (L1.getD i R_iiiiiiii.z) := fun i hi => by rw [hn1] at hi; rw [hg1 i hi]; exact (hG1 i hi).2
    rw [← hn1]
    rw [← hn1] at hl1
    exact law_of (law03_OrecRuns_spec z0 o1 (L1) c1 O1 F1 70000 _ (Ox.runs z0 L1 c1 (fun i => by
      by_cases hi : i < L1.length
      · have := R1 i hi; unfold el1R at this; exact this.2.2.2.2.2.2.2.2
      · rw [getD_beyond (by omega)]; decide))) [b1] rfl (hro_cons hB1 hro_nil) (VRl_cons (.atom rfl) (VRl_cons (ro_slice rfl hl1) VRl_nil)) rfl
theorem over : Rows.orecRunsRow.holds Try.pinned (OpenSpec.ofChange Rows.orecRunsSpec) :=
  OpenClaim.holds_of_wide 4 Try.f4 rfl rfl rfl rfl rfl rfl rfl ⟨rfl, rfl, rfl, rfl, rfl⟩ rfl rfl rfl rfl rfl (by kernel_rfl) Try.func4 (by kernel_rfl)
    (of_decide_eq_true (by kernel_rfl)) (by unfold Func.isWrapper; first | (rw [if_pos (by decide +kernel)]; kernel_rfl) | (rw [if_neg (by decide +kernel)]; exact ⟨rfl, rfl⟩))
    (fun os started H enc _ => lifted os started H enc)
/-- The statement. -/
theorem proved : Rows.OrecRunsSaid := over
#print axioms proved
end OrecRuns
end Ev
end Go.Proofs.Ytlcamddglkfblaa
