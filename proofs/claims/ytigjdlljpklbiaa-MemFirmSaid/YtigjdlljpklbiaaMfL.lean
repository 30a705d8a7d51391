/- The law MemFirm, for every input. -/
import Derived.Test.YtigjdlljpklbiaaEvU
import Derived.Test.YtigjdlljpklbiaaMfq3
import Derived.Test.YtigjdlljpklbiaaMft
import Derived.Test.YtigjdlljpklbiaaTail
namespace Go.Proofs.Ytigjdlljpklbiaa
open Go.ChangeShapes Go.WideShapes Go.ChangeAt Go.RowKit
namespace Ev
namespace MemFirm
set_option linter.unusedVariables false
def el2R (x : R_iiiib) : Prop := (IntKind.i64.min ≤ x.a0 ∧ x.a0 ≤ IntKind.i64.max) ∧ (IntKind.i64.min ≤ x.a1 ∧ x.a1 ≤ IntKind.i64.max) ∧ (IntKind.i64.min ≤ x.a2 ∧ x.a2 ≤ IntKind.i64.max) ∧ (IntKind.i64.min ≤ x.a3 ∧ x.a3 ≤ IntKind.i64.max)
theorem el2 {H : Type} {enc : TypeId × Value → H} {w : World} {O : Obj} {o cap i : Nat} (hE : Elems enc Try.prog w 35 O o cap) (hi : i < cap) : ∃ x : R_iiiib, RowOK O (o + i * 5) [.i x.a0, .i x.a1, .i x.a2, .i x.a3, .b x.a4] ∧ el2R x := by
  obtain ⟨C, ty, fr, cs, hO, hl, hc, ht⟩ := hE i hi
  have cw : Try.prog.cellsOf 35 = 5 := by kernel_rfl
  rw [cw] at hc
  have h0 := trd_field Try.underlying35 ht 0 rfl
  have h1 := trd_field Try.underlying35 ht 1 rfl
  have h2 := trd_field Try.underlying35 ht 2 rfl
  have h3 := trd_field Try.underlying35 ht 3 rfl
  have h4 := trd_field Try.underlying35 ht 4 rfl
  have c0 : Try.prog.cellsOf 3 = 1 := by kernel_rfl
  obtain ⟨x0, e0, b0⟩ := trd_int Try.underlying3 h0
  have e0 := one_of_take e0 c0
  have c1 : Try.prog.cellsOf 3 = 1 := by kernel_rfl
  obtain ⟨x1, e1, b1⟩ := trd_int Try.underlying3 h1
  have e1 := one_of_take e1 c1
  have c2 : Try.prog.cellsOf 3 = 1 := by kernel_rfl
  obtain ⟨x2, e2, b2⟩ := trd_int Try.underlying3 h2
  have e2 := one_of_take e2 c2
  have c3 : Try.prog.cellsOf 3 = 1 := by kernel_rfl
  obtain ⟨x3, e3, b3⟩ := trd_int Try.underlying3 h3
  have e3 := one_of_take e3 c3
  have c4 : Try.prog.cellsOf 4 = 1 := by kernel_rfl
  obtain ⟨x4, e4⟩ := trd_bool Try.underlying4 h4
  have e4 := one_of_take e4 c4
  have row : RowOK O (o + i * 5) [.i x0, .i x1, .i x2, .i x3, .b x4] := elem_row hO hc (show 5 ≤ 5 from by decide) fun j b hj => by
    have := (cellsC (k := 0) e0 (b := .i x0) (by simp [sameC]) (cellsC (k := 1) e1 (b := .i x1) (by simp [sameC]) (cellsC (k := 2) e2 (b := .i x2) (by simp [sameC]) (cellsC (k := 3) e3 (b := .i x3) (by simp [sameC]) (cellsC (k := 4) e4 (b := .b x4) (by simp [sameC]) (fun j b h => by simp at h) (l := [])))))) j b hj
    simpa using this
  exact ⟨⟨x0, x1, x2, x3, x4⟩, row, ⟨b0, b1, b2, b3⟩⟩
theorem own : ownKnob Try.prog.godebug = none := by kernel_rfl
set_option maxRecDepth 100000 in
theorem lifted (os : Os) (started : os.Started) (H : Type) (enc : TypeId × Value → H) :
    ReturnsInHanded {} Try.checked os 3 .any (Rows.memFirmSpec.pre6 enc Try.prog Try.f3 Rows.memFirmRow.domain false) (Rows.memFirmSpec.post enc Try.prog Try.f3 false true false false) := by
  refine law_frame (C := Try.checked) own started (by kernel_rfl) Try.func3 rfl rfl Try.underlying4 ?_ (by kernel_rfl) (by kernel_rfl)
    (ChangeSpec.witness6 (enc := enc) (C := Try.checked) false ⟨#[], #[.int .u8 0, .int .i64 0, .slice none 0 0], []⟩ 8 (by kernel_rfl) (by kernel_rfl) (by kernel_rfl) (by kernel_rfl)) ?_
  · intro ds hlen
    have hlen : ds.length = 3 := hlen.trans (by kernel_rfl)
    match ds, hlen with
    | [_, _, _], _ => rfl
  intro W base args ds p hval hA hlt hsz
  rw [Try.params3] at hA hval
  obtain ⟨v0, vs0, d0, ds0, p0, q0, hargs, rfl, rfl, h0, r0⟩ := trodAll_cons hA
  obtain ⟨v1, vs1, d1, ds1, p1, q1, rfl, rfl, rfl, h1, r1⟩ := trodAll_cons r0
  obtain ⟨v2, vs2, d2, ds2, p2, q2, rfl, rfl, rfl, h2, r2⟩ := trodAll_cons r1
  obtain ⟨rfl, rfl, rfl⟩ := trodAll_nil r2
  obtain rfl : args = #[v0, v1, v2] := by cases args; simp_all
  obtain ⟨z0, rfl, w0⟩ := okWide_int (k := .u8) (by kernel_rfl) (okWide_one (by kernel_rfl) (hval 0 5 v0 rfl rfl))
  obtain ⟨z1, rfl, w1⟩ := okWide_int (k := .i64) (by kernel_rfl) (okWide_one (by kernel_rfl) (hval 1 3 v1 rfl rfl))
  rcases arg_row Try.underlying22 (hval 2 22 v2 rfl rfl) h2 with rfl | ⟨b2, o2, n2, c2, O2, rfl, hl2, hc2, hB2, hE2⟩
  ·
    exact law_of (law15_MemFirm_2_spec z0 z1  100000 _ (Mf.runs2 z0 z1 (by first | exact w0.1 | exact w0) (by first | exact w0.2 | exact w0))) [] rfl hro_nil (VRl_cons (.atom rfl) (VRl_cons (.atom rfl) (VRl_cons (.atom rfl) VRl_nil))) rfl
  ·
    obtain ⟨G2, hG2⟩ := pick1 fun i (hi : i < n2) => el2 hE2 (show i < c2 by omega)
    obtain ⟨L2, hL2⟩ : ∃ L, L = (List.range n2).map G2 := ⟨_, rfl⟩
    have hn2 : L2.length = n2 := by rw [hL2]; simp
    have hg2 : ∀ i, i < n2 → L2.getD i R_iiiib.z = G2 i := fun i hi => by rw [hL2]; simp [hi]
    have F2 : ∀ i, i < L2.length → RowOK O2 (o2 + i * 5) [.i (L2.getD i R_iiiib.z).a0, .i (L2.getD i R_iiiib.z).a1, .i (L2.getD i R_iiiib.z).a2, .i (L2.getD i R_iiiib.z).a3, .b (L2.getD i R_iiiib.z).a4] := fun i hi => by rw [hn2] at hi; rw [hg2 i hi]; exact (hG2 i hi).1
    have R2 : ∀ i, i < L2.length → el2R (L2.getD i R_iiiib.z) := fun i hi => by rw [hn2] at hi; rw [hg2 i hi]; exact (hG2 i hi).2
    rw [← hn2]
    rw [← hn2] at hl2
    exact law_of (law15_MemFirm_spec z0 z1 o2 (L2) L2.length c2 O2 F2 100000 _ (Mf.runs z0 z1 (by first | exact w0.1 | exact w0) (by first | exact w0.2 | exact w0) L2 L2.length c2 (Nat.le_refl _))) [b2] rfl (hro_cons hB2 hro_nil) (VRl_cons (.atom rfl) (VRl_cons (.atom rfl) (VRl_cons (ro_slice rfl hl2) VRl_nil))) rfl
theorem over : Rows.memFirmRow.holds Try.pinned (OpenSpec.ofChange Rows.memFirmSpec) :=
  OpenClaim.holds_of_wide 3 Try.f3 rfl rfl rfl rfl rfl rfl rfl ⟨rfl, rfl, rfl, rfl, rfl⟩ rfl rfl rfl rfl rfl (by kernel_rfl) Try.func3 (by kernel_rfl)
    (of_decide_eq_true (by kernel_rfl)) (by unfold Func.isWrapper; first | (rw [if_pos (by decide +kernel)]; kernel_rfl) | (rw [if_neg (by decide +kernel)]; exact ⟨rfl, rfl⟩))
    (fun os started H enc _ => lifted os started H enc)
/-- The statement. -/
theorem proved : Rows.MemFirmSaid := over
#print axioms proved
end MemFirm
end Ev
end Go.Proofs.Ytigjdlljpklbiaa
