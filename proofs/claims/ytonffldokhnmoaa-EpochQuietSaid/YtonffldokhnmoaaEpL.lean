/- The law EpochQuiet, for every input. -/
import Derived.Test.YtonffldokhnmoaaEvU
import Derived.Test.YtonffldokhnmoaaEpQ0
import Derived.Test.YtonffldokhnmoaaEpQ1
import Derived.Test.YtonffldokhnmoaaEpQ2
import Derived.Test.YtonffldokhnmoaaEpQ3
import Derived.Test.YtonffldokhnmoaaTail
namespace Go.Proofs.Ytonffldokhnmoaa
open Go.ChangeShapes Go.WideShapes Go.ChangeAt Go.RowKit
namespace Ev
namespace EpochQuiet
theorem op_row {H : Type} {enc : TypeId × Value → H} {w : World} {O : Obj} {o cap i : Nat} (hE : Elems enc Try.prog w 34 O o cap) (hi : i < cap) : ∃ k t : Int, RowOK O (o + i * 3) [.i k, .i t, .any] := by
  obtain ⟨C, ty, fr, cs, hO, hl, hc, ht⟩ := hE i hi
  have c3 : Try.prog.cellsOf 34 = 3 := by kernel_rfl
  have c1 : Try.prog.cellsOf 3 = 1 := by kernel_rfl
  have c1' : Try.prog.cellsOf 27 = 1 := by kernel_rfl
  rw [c3] at hc
  obtain ⟨k, hk, _⟩ := trd_int Try.underlying3 (trd_field Try.underlying34 ht 0 rfl)
  obtain ⟨t, hk1, _⟩ := trd_int Try.underlying3 (trd_field Try.underlying34 ht 1 rfl)
  obtain ⟨a, l, c, hk2⟩ := trd_slice Try.underlying27 (trd_field Try.underlying34 ht 2 rfl)
  have hk := one_of_take hk c1
  have hk1 := one_of_take hk1 c1
  have hk2 := one_of_take hk2 c1'
  exact ⟨k, t, elem_row hO hc (show 3 ≤ 3 from by decide) fun j b hj => by
    have := cellsC (k := 0) hk (b := .i k) (by simp [sameC]) (cellsC (k := 1) hk1 (b := .i t) (by simp [sameC]) (cellsC (k := 2) hk2 (b := .any) (by simp [sameC, dP_of, Value.oneCell']) (l := []) fun j b h => by simp at h)) j b hj
    simpa using this⟩

theorem own : ownKnob Try.prog.godebug = none := by kernel_rfl
set_option maxRecDepth 100000 in
theorem lifted (os : Os) (started : os.Started) (H : Type) (enc : TypeId × Value → H) :
    ReturnsInHanded {} Try.checked os 4 .any (Rows.epochQuietSpec.pre6 enc Try.prog Try.f4 Rows.epochQuietRow.domain false) (Rows.epochQuietSpec.post enc Try.prog Try.f4 false true false false) := by
  refine law_frame (C := Try.checked) own started (by kernel_rfl) Try.func4 rfl rfl Try.underlying4 ?_ (by kernel_rfl) (by kernel_rfl)
    (ChangeSpec.witness6 (enc := enc) (C := Try.checked) false ⟨#[], #[.int .u8 0, .int .i64 0, .slice none 0 0, .slice none 0 0], []⟩ 8 (by kernel_rfl) (by kernel_rfl) (by kernel_rfl) (by kernel_rfl)) ?_
  · intro ds hlen
    have hlen : ds.length = 4 := hlen.trans (by kernel_rfl)
    match ds, hlen with
    | [_, _, _, _], _ => rfl
  intro W base args ds p hval hA hlt hsz
  rw [Try.params4] at hA hval
  obtain ⟨v0, vs0, d0, ds0, p0, q0, hargs, rfl, rfl, h0, r0⟩ := trodAll_cons hA
  obtain ⟨v1, vs1, d1, ds1, p1, q1, rfl, rfl, rfl, h1, r1⟩ := trodAll_cons r0
  obtain ⟨v2, vs2, d2, ds2, p2, q2, rfl, rfl, rfl, h2, r2⟩ := trodAll_cons r1
  obtain ⟨v3, vs3, d3, ds3, p3, q3, rfl, rfl, rfl, h3, r3⟩ := trodAll_cons r2
  obtain ⟨rfl, rfl, rfl⟩ := trodAll_nil r3
  obtain rfl : args = #[v0, v1, v2, v3] := by cases args; simp_all
  obtain ⟨th, rfl, wth⟩ := okWide_int (k := .u8) (by kernel_rfl) (okWide_one (by kernel_rfl) (hval 0 5 v0 rfl rfl))
  obtain ⟨me, rfl, wme⟩ := okWide_int (k := .i64) (by kernel_rfl) (okWide_one (by kernel_rfl) (hval 1 3 v1 rfl rfl))
  have t0 : 0 ≤ th := wth.1
  have t1 : th ≤ 255 := wth.2
  rcases arg_row Try.underlying22 (hval 2 22 v2 rfl rfl) h2 with rfl | ⟨b2, o2, n2, c2, O2, rfl, hl2, hc2, hB2, hE2⟩ <;>
    rcases arg_row Try.underlying22 (hval 3 22 v3 rfl rfl) h3 with rfl | ⟨b3, o3, n3, c3, O3, rfl, hl3, hc3, hB3, hE3⟩
  · exact law_of (quiet3 th me t0 t1) [] rfl hro_nil (VRl_cons (.atom rfl) (VRl_cons (.atom rfl) (VRl_cons (.atom rfl) (VRl_cons (.atom rfl) VRl_nil)))) rfl
  · obtain ⟨k3, t3, hk3⟩ := pick2 fun i (hi : i < n3) => op_row hE3 (show i < c3 by omega)
    exact law_of (quiet1 th me O3 o3 n3 c3 k3 t3 t0 t1 (by omega) hk3) [b3] rfl (hro_cons hB3 hro_nil) (VRl_cons (.atom rfl) (VRl_cons (.atom rfl) (VRl_cons (.atom rfl) (VRl_cons (ro_slice rfl hl3) VRl_nil)))) rfl
  · obtain ⟨k2, t2, hk2⟩ := pick2 fun i (hi : i < n2) => op_row hE2 (show i < c2 by omega)
    exact law_of (quiet2 th me O2 o2 n2 c2 k2 t2 t0 t1 (by omega) hk2) [b2] rfl (hro_cons hB2 hro_nil) (VRl_cons (.atom rfl) (VRl_cons (.atom rfl) (VRl_cons (ro_slice rfl hl2) (VRl_cons (.atom rfl) VRl_nil)))) rfl
  · obtain ⟨k2, t2, hk2⟩ := pick2 fun i (hi : i < n2) => op_row hE2 (show i < c2 by omega)
    obtain ⟨k3, t3, hk3⟩ := pick2 fun i (hi : i < n3) => op_row hE3 (show i < c3 by omega)
    exact law_of (quiet0 th me O2 o2 n2 c2 k2 t2 O3 o3 n3 c3 k3 t3 t0 t1 (by omega) (by omega) hk2 hk3) [b2, b3] rfl (hro_cons hB2 (hro_cons hB3 hro_nil)) (VRl_cons (.atom rfl) (VRl_cons (.atom rfl) (VRl_cons (ro_slice rfl hl2) (VRl_cons (ro_slice rfl hl3) VRl_nil)))) rfl

theorem over : Rows.epochQuietRow.holds Try.pinned (OpenSpec.ofChange Rows.epochQuietSpec) :=
  OpenClaim.holds_of_wide 4 Try.f4 rfl rfl rfl rfl rfl rfl rfl ⟨rfl, rfl, rfl, rfl, rfl⟩ rfl rfl rfl rfl rfl (by kernel_rfl) Try.func4 (by kernel_rfl)
    (of_decide_eq_true (by kernel_rfl)) (by unfold Func.isWrapper; first | (rw [if_pos (by decide +kernel)]; kernel_rfl) | (rw [if_neg (by decide +kernel)]; exact ⟨rfl, rfl⟩))
    (fun os started H enc _ => lifted os started H enc)

/-- The statement. -/
theorem proved : Rows.EpochQuietSaid := over
#print axioms proved
end EpochQuiet
end Ev
end Go.Proofs.Ytonffldokhnmoaa
