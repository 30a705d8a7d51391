/- The four laws of managers. -/
import Derived.Test.YtaopipfdbbiiaaaCmC
import Derived.Test.YtaopipfdbbiiaaaSlices
import Derived.Test.YtaopipfdbbiiaaaFrame
namespace Go.Proofs.Ytaopipfdbbiiaaa
open Go.ChangeShapes Go.WideShapes Go.ChangeAt Go.RowKit
namespace Cm


namespace CmTells

theorem own : ownKnob Try.prog.godebug = none := by kernel_rfl
set_option maxRecDepth 100000 in
theorem lifted (os : Os) (started : os.Started) (H : Type) (enc : TypeId × Value → H) :
    ReturnsInHanded {} Try.checked os 3 .any (Rows.cmTellsSpec.pre6 enc Try.prog Try.f3 Rows.cmTellsRow.domain false) (Rows.cmTellsSpec.post enc Try.prog Try.f3 false true false false) := by
  refine law_frame (C := Try.checked) own started (by kernel_rfl) Try.func3 rfl rfl Try.underlying4 ?_ (by kernel_rfl) (by kernel_rfl)
    (ChangeSpec.witness6 (enc := enc) (C := Try.checked) false ⟨#[], #[.int .i64 0, .int .i64 0, .int .i64 0, .bool false, .int .i64 0, .int .i64 0], []⟩ 8 (by kernel_rfl) (by kernel_rfl) (by kernel_rfl) (by kernel_rfl)) ?_
  · intro ds hlen
    have hlen : ds.length = 6 := hlen.trans (by kernel_rfl)
    match ds, hlen with
    | [_, _, _, _, _, _], _ => rfl
  intro W base args ds p hval hA hlt hsz
  rw [Try.params3] at hA hval
  obtain ⟨v0, vs0, d0, ds0, p0, q0, hargs, rfl, rfl, h0, r0⟩ := trodAll_cons hA
  obtain ⟨v1, vs1, d1, ds1, p1, q1, rfl, rfl, rfl, h1, r1⟩ := trodAll_cons r0
  obtain ⟨v2, vs2, d2, ds2, p2, q2, rfl, rfl, rfl, h2, r2⟩ := trodAll_cons r1
  obtain ⟨v3, vs3, d3, ds3, p3, q3, rfl, rfl, rfl, h3, r3⟩ := trodAll_cons r2
  obtain ⟨v4, vs4, d4, ds4, p4, q4, rfl, rfl, rfl, h4, r4⟩ := trodAll_cons r3
  obtain ⟨v5, vs5, d5, ds5, p5, q5, rfl, rfl, rfl, h5, r5⟩ := trodAll_cons r4
  obtain ⟨rfl, rfl, rfl⟩ := trodAll_nil r5
  obtain rfl : args = #[v0, v1, v2, v3, v4, v5] := by cases args; simp_all
  obtain ⟨m, rfl, rfl, rfl, wf0⟩ := open_int Try.underlying22 (hval 0 22 v0 rfl rfl) h0
  obtain ⟨a, rfl, rfl, rfl, wf1⟩ := open_int Try.underlying3 (hval 1 3 v1 rfl rfl) h1
  obtain ⟨b, rfl, rfl, rfl, wf2⟩ := open_int Try.underlying3 (hval 2 3 v2 rfl rfl) h2
  obtain ⟨f, rfl, rfl, rfl⟩ := open_bool Try.underlying4 (hval 3 4 v3 rfl rfl) h3
  obtain ⟨d, rfl, rfl, rfl, wf4⟩ := open_int Try.underlying3 (hval 4 3 v4 rfl rfl) h4
  obtain ⟨t, rfl, rfl, rfl, wf5⟩ := open_int Try.underlying3 (hval 5 3 v5 rfl rfl) h5
  exact tells_walk m a b f d t W

theorem over : Rows.cmTellsRow.holds Try.pinned (OpenSpec.ofChange Rows.cmTellsSpec) :=
  OpenClaim.holds_of_wide 3 Try.f3 rfl rfl rfl rfl rfl rfl rfl ⟨rfl, rfl, rfl, rfl, rfl⟩ rfl rfl rfl rfl rfl (by kernel_rfl) Try.func3 (by kernel_rfl)
    (of_decide_eq_true (by kernel_rfl)) (by unfold Func.isWrapper; first | (rw [if_pos (by decide +kernel)]; kernel_rfl) | (rw [if_neg (by decide +kernel)]; exact ⟨rfl, rfl⟩))
    (fun os started H enc _ => lifted os started H enc)

/-- The statement. -/
theorem proved : Rows.CmTellsSaid := over
#print axioms proved
end CmTells

namespace CmEnds

theorem own : ownKnob Try.prog.godebug = none := by kernel_rfl
set_option maxRecDepth 100000 in
theorem lifted (os : Os) (started : os.Started) (H : Type) (enc : TypeId × Value → H) :
    ReturnsInHanded {} Try.checked os 5 .any (Rows.cmEndsSpec.pre6 enc Try.prog Try.f5 Rows.cmEndsRow.domain false) (Rows.cmEndsSpec.post enc Try.prog Try.f5 false true false false) := by
  refine law_frame (C := Try.checked) own started (by kernel_rfl) Try.func5 rfl rfl Try.underlying4 ?_ (by kernel_rfl) (by kernel_rfl)
    (ChangeSpec.witness6 (enc := enc) (C := Try.checked) false ⟨#[], #[.int .i64 0, .int .i64 0, .bool false, .int .u8 0], []⟩ 8 (by kernel_rfl) (by kernel_rfl) (by kernel_rfl) (by kernel_rfl)) ?_
  · intro ds hlen
    have hlen : ds.length = 4 := hlen.trans (by kernel_rfl)
    match ds, hlen with
    | [_, _, _, _], _ => rfl
  intro W base args ds p hval hA hlt hsz
  rw [Try.params5] at hA hval
  obtain ⟨v0, vs0, d0, ds0, p0, q0, hargs, rfl, rfl, h0, r0⟩ := trodAll_cons hA
  obtain ⟨v1, vs1, d1, ds1, p1, q1, rfl, rfl, rfl, h1, r1⟩ := trodAll_cons r0
  obtain ⟨v2, vs2, d2, ds2, p2, q2, rfl, rfl, rfl, h2, r2⟩ := trodAll_cons r1
  obtain ⟨v3, vs3, d3, ds3, p3, q3, rfl, rfl, rfl, h3, r3⟩ := trodAll_cons r2
  obtain ⟨rfl, rfl, rfl⟩ := trodAll_nil r3
  obtain rfl : args = #[v0, v1, v2, v3] := by cases args; simp_all
  obtain ⟨a, rfl, rfl, rfl, wf0⟩ := open_int Try.underlying3 (hval 0 3 v0 rfl rfl) h0
  obtain ⟨b, rfl, rfl, rfl, wf1⟩ := open_int Try.underlying3 (hval 1 3 v1 rfl rfl) h1
  obtain ⟨f, rfl, rfl, rfl⟩ := open_bool Try.underlying4 (hval 2 4 v2 rfl rfl) h2
  obtain ⟨t, rfl, rfl, rfl, wf3⟩ := open_int Try.underlying5 (hval 3 5 v3 rfl rfl) h3
  obtain ⟨lo3, hi3⟩ := bounds_u8 wf3
  exact ends_walk a b f t lo3 hi3 W

theorem over : Rows.cmEndsRow.holds Try.pinned (OpenSpec.ofChange Rows.cmEndsSpec) :=
  OpenClaim.holds_of_wide 5 Try.f5 rfl rfl rfl rfl rfl rfl rfl ⟨rfl, rfl, rfl, rfl, rfl⟩ rfl rfl rfl rfl rfl (by kernel_rfl) Try.func5 (by kernel_rfl)
    (of_decide_eq_true (by kernel_rfl)) (by unfold Func.isWrapper; first | (rw [if_pos (by decide +kernel)]; kernel_rfl) | (rw [if_neg (by decide +kernel)]; exact ⟨rfl, rfl⟩))
    (fun os started H enc _ => lifted os started H enc)

/-- The statement. -/
theorem proved : Rows.CmEndsSaid := over
#print axioms proved
end CmEnds

namespace CmRing

theorem own : ownKnob Try.prog.godebug = none := by kernel_rfl
set_option maxRecDepth 100000 in
theorem lifted (os : Os) (started : os.Started) (H : Type) (enc : TypeId × Value → H) :
    ReturnsInHanded {} Try.checked os 4 .any (Rows.cmRingSpec.pre6 enc Try.prog Try.f4 Rows.cmRingRow.domain false) (Rows.cmRingSpec.post enc Try.prog Try.f4 false true false false) := by
  refine law_frame (C := Try.checked) own started (by kernel_rfl) Try.func4 rfl rfl Try.underlying4 ?_ (by kernel_rfl) (by kernel_rfl)
    (ChangeSpec.witness6 (enc := enc) (C := Try.checked) false ⟨#[], #[.slice none 0 0], []⟩ 8 (by kernel_rfl) (by kernel_rfl) (by kernel_rfl) (by kernel_rfl)) ?_
  · intro ds hlen
    have hlen : ds.length = 1 := hlen.trans (by kernel_rfl)
    match ds, hlen with
    | [_], _ => rfl
  intro W base args ds p hval hA hlt hsz
  rw [Try.params4] at hA hval
  obtain ⟨v0, vs0, d0, ds0, p0, q0, hargs, rfl, rfl, h0, r0⟩ := trodAll_cons hA
  obtain ⟨rfl, rfl, rfl⟩ := trodAll_nil r0
  obtain rfl : args = #[v0] := by cases args; simp_all
  obtain ⟨A0, len0, cap0, z0, rfl, hl0, hc0, hz0⟩ := one_rows Try.underlying30 (by kernel_rfl) (hval 0 30 v0 rfl rfl) h0
  unfold maxLen at hc0
  have hz' : 0 < len0 → ∃ b o, A0 = some ⟨b, o, none⟩ ∧ b < W.heap.size ∧ ∀ i, i < len0 → W.cell? ⟨b, o + i, none⟩ = some (.int .i64 ((fun i => match z0 i with | .int _ x => x | _ => 0) i)) := by
    intro h0
    obtain ⟨b, o, rfl, hb, hcs⟩ := hz0 (by omega)
    refine ⟨b, o, rfl, hb, fun i hi => ?_⟩
    obtain ⟨hc, n, y, ht⟩ := hcs i (by omega)
    obtain ⟨x, hx, wf⟩ := int_cell Try.underlying3 ht
    simp only [hx]
    rw [hc, hx]
  by_cases hn : (len0 : Int) ≤ 20
  · exact ring_m A0 len0 cap0 _ W hl0 hc0 hn hz'
  exact ring_20 A0 len0 cap0 _ W hl0 hc0 (by omega) hz'

theorem over : Rows.cmRingRow.holds Try.pinned (OpenSpec.ofChange Rows.cmRingSpec) :=
  OpenClaim.holds_of_wide 4 Try.f4 rfl rfl rfl rfl rfl rfl rfl ⟨rfl, rfl, rfl, rfl, rfl⟩ rfl rfl rfl rfl rfl (by kernel_rfl) Try.func4 (by kernel_rfl)
    (of_decide_eq_true (by kernel_rfl)) (by unfold Func.isWrapper; first | (rw [if_pos (by decide +kernel)]; kernel_rfl) | (rw [if_neg (by decide +kernel)]; exact ⟨rfl, rfl⟩))
    (fun os started H enc _ => lifted os started H enc)

/-- The statement. -/
theorem proved : Rows.CmRingSaid := over
#print axioms proved
end CmRing

namespace CmOldest

theorem own : ownKnob Try.prog.godebug = none := by kernel_rfl
set_option maxRecDepth 100000 in
theorem lifted (os : Os) (started : os.Started) (H : Type) (enc : TypeId × Value → H) :
    ReturnsInHanded {} Try.checked os 6 .any (Rows.cmOldestSpec.pre6 enc Try.prog Try.f6 Rows.cmOldestRow.domain false) (Rows.cmOldestSpec.post enc Try.prog Try.f6 false true false false) := by
  refine law_frame (C := Try.checked) own started (by kernel_rfl) Try.func6 rfl rfl Try.underlying4 ?_ (by kernel_rfl) (by kernel_rfl)
    (ChangeSpec.witness6 (enc := enc) (C := Try.checked) false ⟨#[], #[.slice none 0 0], []⟩ 8 (by kernel_rfl) (by kernel_rfl) (by kernel_rfl) (by kernel_rfl)) ?_
  · intro ds hlen
    have hlen : ds.length = 1 := hlen.trans (by kernel_rfl)
    match ds, hlen with
    | [_], _ => rfl
  intro W base args ds p hval hA hlt hsz
  rw [Try.params6] at hA hval
  obtain ⟨v0, vs0, d0, ds0, p0, q0, hargs, rfl, rfl, h0, r0⟩ := trodAll_cons hA
  obtain ⟨rfl, rfl, rfl⟩ := trodAll_nil r0
  obtain rfl : args = #[v0] := by cases args; simp_all
  obtain ⟨A0, len0, cap0, z0, rfl, hl0, hc0, hz0⟩ := one_rows Try.underlying30 (by kernel_rfl) (hval 0 30 v0 rfl rfl) h0
  unfold maxLen at hc0
  have hz' : 0 < len0 → ∃ b o, A0 = some ⟨b, o, none⟩ ∧ b < W.heap.size ∧ ∀ i, i < len0 → W.cell? ⟨b, o + i, none⟩ = some (.int .i64 ((fun i => match z0 i with | .int _ x => x | _ => 0) i)) := by
    intro h0
    obtain ⟨b, o, rfl, hb, hcs⟩ := hz0 (by omega)
    refine ⟨b, o, rfl, hb, fun i hi => ?_⟩
    obtain ⟨hc, n, y, ht⟩ := hcs i (by omega)
    obtain ⟨x, hx, wf⟩ := int_cell Try.underlying3 ht
    simp only [hx]
    rw [hc, hx]
  by_cases hn : (len0 : Int) ≤ 40
  · exact oldest_m A0 len0 cap0 _ W hl0 hc0 hn hz'
  exact oldest_40 A0 len0 cap0 _ W hl0 hc0 (by omega) hz'

theorem over : Rows.cmOldestRow.holds Try.pinned (OpenSpec.ofChange Rows.cmOldestSpec) :=
  OpenClaim.holds_of_wide 6 Try.f6 rfl rfl rfl rfl rfl rfl rfl ⟨rfl, rfl, rfl, rfl, rfl⟩ rfl rfl rfl rfl rfl (by kernel_rfl) Try.func6 (by kernel_rfl)
    (of_decide_eq_true (by kernel_rfl)) (by unfold Func.isWrapper; first | (rw [if_pos (by decide +kernel)]; kernel_rfl) | (rw [if_neg (by decide +kernel)]; exact ⟨rfl, rfl⟩))
    (fun os started H enc _ => lifted os started H enc)

/-- The statement. -/
theorem proved : Rows.CmOldestSaid := over
#print axioms proved
end CmOldest

end Cm
end Go.Proofs.Ytaopipfdbbiiaaa
