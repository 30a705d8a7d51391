/- The law OrecOne, for every input. -/
import Derived.Test.YtlcamddglkfblaaEvU
import Derived.Test.YtlcamddglkfblaaOrO0
import Derived.Test.YtlcamddglkfblaaOrO1
import Derived.Test.YtlcamddglkfblaaTail
namespace Go.Proofs.Ytlcamddglkfblaa
open Go.ChangeShapes Go.WideShapes Go.ChangeAt Go.RowKit
namespace Ev
namespace OrecOne
theorem op_row {H : Type} {enc : TypeId × Value → H} {w : World} {O : Obj} {o cap i : Nat} (hE : Elems enc Try.prog w 50 O o cap) (hi : i < cap) : ∃ c : Nat → Int, RowOK O (o + i * 8) [.i (c 0), .i (c 1), .i (c 2), .i (c 3), .i (c 4), .i (c 5), .i (c 6), .i (c 7)] := by
  obtain ⟨C, ty, fr, cs, hO, hl, hc, ht⟩ := hE i hi
  have c8 : Try.prog.cellsOf 50 = 8 := by kernel_rfl
  have c1 : Try.prog.cellsOf 3 = 1 := by kernel_rfl
  have cK : Try.prog.cellsOf 22 = 1 := by kernel_rfl
  have cV : Try.prog.cellsOf 46 = 1 := by kernel_rfl
  rw [c8] at hc
  obtain ⟨x0, e0, _⟩ := trd_int Try.underlying3 (trd_field Try.underlying50 ht 0 rfl)
  have e0 := one_of_take e0 c1
  obtain ⟨x1, e1, _⟩ := trd_int Try.underlying3 (trd_field Try.underlying50 ht 1 rfl)
  have e1 := one_of_take e1 c1
  obtain ⟨x2, e2, _⟩ := trd_int Try.underlying3 (trd_field Try.underlying50 ht 2 rfl)
  have e2 := one_of_take e2 c1
  have hB := trd_field Try.underlying50 ht 3 rfl
  have hR := trd_field Try.underlying50 ht 4 rfl
  obtain ⟨x3, e3, _⟩ := trd_int Try.underlying22 (trd_field Try.underlying24 hB 0 rfl)
  have e3 := two_of_take e3 cK
  obtain ⟨x4, e4, _⟩ := trd_int Try.underlying3 (trd_field Try.underlying24 hB 1 rfl)
  have e4 := two_of_take e4 c1
  obtain ⟨x5, e5, _⟩ := trd_int Try.underlying3 (trd_field Try.underlying24 hB 2 rfl)
  have e5 := two_of_take e5 c1
  obtain ⟨x6, e6, _⟩ := trd_int Try.underlying46 (trd_field Try.underlying48 hR 0 rfl)
  have e6 := two_of_take e6 cV
  obtain ⟨x7, e7, _⟩ := trd_int Try.underlying3 (trd_field Try.underlying48 hR 1 rfl)
  have e7 := two_of_take e7 c1
  have row : RowOK O (o + i * 8) [.i x0, .i x1, .i x2, .i x3, .i x4, .i x5, .i x6, .i x7] := elem_row hO hc (show 8 ≤ 8 from by decide) fun j b hj => by
    have := (cellsC (k := 0) e0 (b := .i x0) (by simp [sameC]) (cellsC (k := 1) e1 (b := .i x1) (by simp [sameC]) (cellsC (k := 2) e2 (b := .i x2) (by simp [sameC]) (cellsC (k := 3) e3 (b := .i x3) (by simp [sameC]) (cellsC (k := 4) e4 (b := .i x4) (by simp [sameC]) (cellsC (k := 5) e5 (b := .i x5) (by simp [sameC]) (cellsC (k := 6) e6 (b := .i x6) (by simp [sameC]) (cellsC (k := 7) e7 (b := .i x7) (by simp [sameC]) (l := []) (fun j b h => by simp at h))))))))) j b hj
    simpa using this
  exact ⟨fun q => [x0, x1, x2, x3, x4, x5, x6, x7].getD q 0, row⟩

theorem own : ownKnob Try.prog.godebug = none := by kernel_rfl
set_option maxRecDepth 100000 in
theorem lifted (os : Os) (started : os.Started) (H : Type) (enc : TypeId × Value → H) :
    ReturnsInHanded {} Try.checked os 5 .any (Rows.orecOneSpec.pre6 enc Try.prog Try.f5 Rows.orecOneRow.domain false) (Rows.orecOneSpec.post enc Try.prog Try.f5 false true false false) := by
  refine law_frame (C := Try.checked) own started (by kernel_rfl) Try.func5 rfl rfl Try.underlying4 ?_ (by kernel_rfl) (by kernel_rfl)
    (ChangeSpec.witness6 (enc := enc) (C := Try.checked) false ⟨#[], #[.int .u8 0, .slice none 0 0], []⟩ 8 (by kernel_rfl) (by kernel_rfl) (by kernel_rfl) (by kernel_rfl)) ?_
  · intro ds hlen
    have hlen : ds.length = 2 := hlen.trans (by kernel_rfl)
    match ds, hlen with
    | [_, _], _ => rfl
  intro W base args ds p hval hA hlt hsz
  rw [Try.params5] at hA hval
  obtain ⟨v0, vs0, d0, ds0, p0, q0, hargs, rfl, rfl, h0, r0⟩ := trodAll_cons hA
  obtain ⟨v1, vs1, d1, ds1, p1, q1, rfl, rfl, rfl, h1, r1⟩ := trodAll_cons r0
  obtain ⟨rfl, rfl, rfl⟩ := trodAll_nil r1
  obtain rfl : args = #[v0, v1] := by cases args; simp_all
  obtain ⟨sz, rfl, wsz⟩ := okWide_int (k := .u8) (by kernel_rfl) (okWide_one (by kernel_rfl) (hval 0 5 v0 rfl rfl))
  have t0 : 0 ≤ sz := wsz.1
  have t1 : sz ≤ 255 := wsz.2
  rcases arg_row Try.underlying37 (hval 1 37 v1 rfl rfl) h1 with rfl | ⟨b1, o1, n1, c1, O1, rfl, hl1, hc1, hB1, hE1⟩
  · exact law_of (one1 sz t0 t1) [] rfl hro_nil (VRl_cons (.atom rfl) (VRl_cons (.atom rfl) VRl_nil)) rfl
  · obtain ⟨F, hF⟩ := pick1 fun i (hi : i < n1) => op_row hE1 (show i < c1 by omega)
    exact law_of (one0 sz O1 o1 n1 c1 (fun i => F i 0) (fun i => F i 1) (fun i => F i 2) (fun i => F i 3) (fun i => F i 4) (fun i => F i 5) (fun i => F i 6) (fun i => F i 7) t0 t1 (by omega) hF) [b1] rfl (hro_cons hB1 hro_nil) (VRl_cons (.atom rfl) (VRl_cons (ro_slice rfl hl1) VRl_nil)) rfl

theorem over : Rows.orecOneRow.holds Try.pinned (OpenSpec.ofChange Rows.orecOneSpec) :=
  OpenClaim.holds_of_wide 5 Try.f5 rfl rfl rfl rfl rfl rfl rfl ⟨rfl, rfl, rfl, rfl, rfl⟩ rfl rfl rfl rfl rfl (by kernel_rfl) Try.func5 (by kernel_rfl)
    (of_decide_eq_true (by kernel_rfl)) (by unfold Func.isWrapper; first | (rw [if_pos (by decide +kernel)]; kernel_rfl) | (rw [if_neg (by decide +kernel)]; exact ⟨rfl, rfl⟩))
    (fun os started H enc _ => lifted os started H enc)

/-- The statement. -/
theorem proved : Rows.OrecOneSaid := over
#print axioms proved
end OrecOne
end Ev
end Go.Proofs.Ytlcamddglkfblaa
