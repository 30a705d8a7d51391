/- The four laws of clocks. -/
import Derived.Test.YtgpholoonjglfaaClkC
import Derived.Test.YtgpholoonjglfaaSlices
import Derived.Test.YtgpholoonjglfaaFrame
namespace Go.Proofs.Ytgpholoonjglfaa
open Go.ChangeShapes Go.WideShapes Go.ChangeAt Go.RowKit
namespace Clk


theorem runs_low (l : Int) (h1 : l < 1) (A : Option Addr) (m c : Nat) (w : World) : Calls Try.prog 3 #[.int .i64 l, .slice A m c] w (Ret (.bool true) w) := by
  go_enter Try.func3, Try.ntmps3
  go_wp2_with fail
  refine (new_low l h1 _).mono ?_
  rintro e w' ⟨rfl, hb⟩
  go_wp2_with fail
  refine (rnew_low l h1 _).mono ?_
  rintro e w1 ⟨rfl, hb1⟩
  go_wp2_with fail
  have hB := hb.trans (hb1.mono hb.size)
  refine calls_re (fun W => Below w.heap.size w W) (outA hB _) ?_
  clear hB hb hb1
  rintro W hB x
  refine (awake_any _).mono ?_
  rintro e w2 ⟨rfl, hb⟩
  go_wp2_with fail
  go_ret
  exact Ret.of ((x.out hB).trans (hb.mono (Nat.le_trans hB.size x.size)))

theorem runs_high (l : Int) (h1 : 1099511627776 < l) (A : Option Addr) (m c : Nat) (w : World) : Calls Try.prog 3 #[.int .i64 l, .slice A m c] w (Ret (.bool true) w) := by
  go_enter Try.func3, Try.ntmps3
  go_wp2_with fail
  refine (new_high l h1 _).mono ?_
  rintro e w' ⟨rfl, hb⟩
  go_wp2_with fail
  refine (rnew_high l h1 _).mono ?_
  rintro e w1 ⟨rfl, hb1⟩
  go_wp2_with fail
  have hB := hb.trans (hb1.mono hb.size)
  refine calls_re (fun W => Below w.heap.size w W) (outA hB _) ?_
  clear hB hb hb1
  rintro W hB x
  refine (awake_any _).mono ?_
  rintro e w2 ⟨rfl, hb⟩
  go_wp2_with fail
  go_ret
  exact Ret.of ((x.out hB).trans (hb.mono (Nat.le_trans hB.size x.size)))

namespace ClockFull

theorem own : ownKnob Try.prog.godebug = none := by kernel_rfl
set_option maxRecDepth 100000 in
theorem lifted (os : Os) (started : os.Started) (H : Type) (enc : TypeId × Value → H) :
    ReturnsInHanded {} Try.checked os 5 .any (Rows.clockFullSpec.pre6 enc Try.prog Try.f5 Rows.clockFullRow.domain false) (Rows.clockFullSpec.post enc Try.prog Try.f5 false true false false) := by
  refine law_frame (C := Try.checked) own started (by kernel_rfl) Try.func5 rfl rfl Try.underlying4 ?_ (by kernel_rfl) (by kernel_rfl)
    (ChangeSpec.witness6 (enc := enc) (C := Try.checked) false ⟨#[], #[.int .u8 0], []⟩ 8 (by kernel_rfl) (by kernel_rfl) (by kernel_rfl) (by kernel_rfl)) ?_
  · intro ds hlen
    have hlen : ds.length = 1 := hlen.trans (by kernel_rfl)
    match ds, hlen with
    | [_], _ => rfl
  intro W base args ds p hval hA hlt hsz
  rw [Try.params5] at hA hval
  obtain ⟨v0, vs0, d0, ds0, p0, q0, hargs, rfl, rfl, h0, r0⟩ := trodAll_cons hA
  obtain ⟨rfl, rfl, rfl⟩ := trodAll_nil r0
  obtain rfl : args = #[v0] := by cases args; simp_all
  obtain ⟨n, rfl, rfl, rfl, wf0⟩ := open_int Try.underlying5 (hval 0 5 v0 rfl rfl) h0
  obtain ⟨lo0, hi0⟩ := bounds_u8 wf0
  exact full_walk n lo0 hi0 W

theorem over : Rows.clockFullRow.holds Try.pinned (OpenSpec.ofChange Rows.clockFullSpec) :=
  OpenClaim.holds_of_wide 5 Try.f5 rfl rfl rfl rfl rfl rfl rfl ⟨rfl, rfl, rfl, rfl, rfl⟩ rfl rfl rfl rfl rfl (by kernel_rfl) Try.func5 (by kernel_rfl)
    (of_decide_eq_true (by kernel_rfl)) (by unfold Func.isWrapper; first | (rw [if_pos (by decide +kernel)]; kernel_rfl) | (rw [if_neg (by decide +kernel)]; exact ⟨rfl, rfl⟩))
    (fun os started H enc _ => lifted os started H enc)

/-- The statement. -/
theorem proved : Rows.ClockFullSaid := over
#print axioms proved
end ClockFull

namespace ClockNobody

theorem own : ownKnob Try.prog.godebug = none := by kernel_rfl
set_option maxRecDepth 100000 in
theorem lifted (os : Os) (started : os.Started) (H : Type) (enc : TypeId × Value → H) :
    ReturnsInHanded {} Try.checked os 6 .any (Rows.clockNobodySpec.pre6 enc Try.prog Try.f6 Rows.clockNobodyRow.domain false) (Rows.clockNobodySpec.post enc Try.prog Try.f6 false true false false) := by
  refine law_frame (C := Try.checked) own started (by kernel_rfl) Try.func6 rfl rfl Try.underlying4 ?_ (by kernel_rfl) (by kernel_rfl)
    (ChangeSpec.witness6 (enc := enc) (C := Try.checked) false ⟨#[], #[.int .u8 0], []⟩ 8 (by kernel_rfl) (by kernel_rfl) (by kernel_rfl) (by kernel_rfl)) ?_
  · intro ds hlen
    have hlen : ds.length = 1 := hlen.trans (by kernel_rfl)
    match ds, hlen with
    | [_], _ => rfl
  intro W base args ds p hval hA hlt hsz
  rw [Try.params6] at hA hval
  obtain ⟨v0, vs0, d0, ds0, p0, q0, hargs, rfl, rfl, h0, r0⟩ := trodAll_cons hA
  obtain ⟨rfl, rfl, rfl⟩ := trodAll_nil r0
  obtain rfl : args = #[v0] := by cases args; simp_all
  obtain ⟨n, rfl, rfl, rfl, wf0⟩ := open_int Try.underlying5 (hval 0 5 v0 rfl rfl) h0
  obtain ⟨lo0, hi0⟩ := bounds_u8 wf0
  exact nobody_walk n lo0 hi0 W

theorem over : Rows.clockNobodyRow.holds Try.pinned (OpenSpec.ofChange Rows.clockNobodySpec) :=
  OpenClaim.holds_of_wide 6 Try.f6 rfl rfl rfl rfl rfl rfl rfl ⟨rfl, rfl, rfl, rfl, rfl⟩ rfl rfl rfl rfl rfl (by kernel_rfl) Try.func6 (by kernel_rfl)
    (of_decide_eq_true (by kernel_rfl)) (by unfold Func.isWrapper; first | (rw [if_pos (by decide +kernel)]; kernel_rfl) | (rw [if_neg (by decide +kernel)]; exact ⟨rfl, rfl⟩))
    (fun os started H enc _ => lifted os started H enc)

/-- The statement. -/
theorem proved : Rows.ClockNobodySaid := over
#print axioms proved
end ClockNobody

namespace ClockRises

theorem own : ownKnob Try.prog.godebug = none := by kernel_rfl
set_option maxRecDepth 100000 in
theorem lifted (os : Os) (started : os.Started) (H : Type) (enc : TypeId × Value → H) :
    ReturnsInHanded {} Try.checked os 4 .any (Rows.clockRisesSpec.pre6 enc Try.prog Try.f4 Rows.clockRisesRow.domain false) (Rows.clockRisesSpec.post enc Try.prog Try.f4 false true false false) := by
  refine law_frame (C := Try.checked) own started (by kernel_rfl) Try.func4 rfl rfl Try.underlying4 ?_ (by kernel_rfl) (by kernel_rfl)
    (ChangeSpec.witness6 (enc := enc) (C := Try.checked) false ⟨#[], #[.slice none 0 0], []⟩ 8 (by kernel_rfl) (by kernel_rfl) (by kernel_rfl) (by kernel_rfl)) ?_
  · intro ds hlen
    have hlen : ds.length = 1 := hlen.trans (by kernel_rfl)
    match ds, hlen with
    | [_], _ => rfl
  intro W base args ds p hval hA hlt hsz
  rw [Try.params4] at hA hval
  obtain ⟨v0, vs0, d0, ds0, p0, q0, hargs, rfl, rfl, h0, r0⟩ := trodAll_cons hA
  obtain ⟨rfl, rfl, rfl⟩ := trodAll_nil r0
  obtain rfl : args = #[v0] := by cases args; simp_all
  obtain ⟨A0, len0, cap0, z0, rfl, hl0, hc0, hz0⟩ := one_rows Try.underlying39 (by kernel_rfl) (hval 0 39 v0 rfl rfl) h0
  unfold maxLen at hc0
  have hz' : 0 < len0 → ∃ b o, A0 = some ⟨b, o, none⟩ ∧ b < W.heap.size ∧ ∀ i, i < len0 → W.cell? ⟨b, o + i, none⟩ = some (.bool ((fun i => match z0 i with | .bool x => x | _ => false) i)) := by
    intro h0
    obtain ⟨b, o, rfl, hb, hcs⟩ := hz0 (by omega)
    refine ⟨b, o, rfl, hb, fun i hi => ?_⟩
    obtain ⟨hc, n, y, ht⟩ := hcs i (by omega)
    obtain ⟨x, hx⟩ := bool_cell Try.underlying4 ht
    simp only [hx]
    rw [hc, hx]
  exact rises_walk A0 len0 cap0 _ W (by omega) hz'

theorem over : Rows.clockRisesRow.holds Try.pinned (OpenSpec.ofChange Rows.clockRisesSpec) :=
  OpenClaim.holds_of_wide 4 Try.f4 rfl rfl rfl rfl rfl rfl rfl ⟨rfl, rfl, rfl, rfl, rfl⟩ rfl rfl rfl rfl rfl (by kernel_rfl) Try.func4 (by kernel_rfl)
    (of_decide_eq_true (by kernel_rfl)) (by unfold Func.isWrapper; first | (rw [if_pos (by decide +kernel)]; kernel_rfl) | (rw [if_neg (by decide +kernel)]; exact ⟨rfl, rfl⟩))
    (fun os started H enc _ => lifted os started H enc)

/-- The statement. -/
theorem proved : Rows.ClockRisesSaid := over
#print axioms proved
end ClockRises

namespace ClockRuns

theorem own : ownKnob Try.prog.godebug = none := by kernel_rfl
set_option maxRecDepth 100000 in
theorem lifted (os : Os) (started : os.Started) (H : Type) (enc : TypeId × Value → H) :
    ReturnsInHanded {} Try.checked os 3 .any (Rows.clockRunsSpec.pre6 enc Try.prog Try.f3 Rows.clockRunsRow.domain false) (Rows.clockRunsSpec.post enc Try.prog Try.f3 false true false false) := by
  refine law_frame (C := Try.checked) own started (by kernel_rfl) Try.func3 rfl rfl Try.underlying4 ?_ (by kernel_rfl) (by kernel_rfl)
    (ChangeSpec.witness6 (enc := enc) (C := Try.checked) false ⟨#[], #[.int .i64 0, .slice none 0 0], []⟩ 8 (by kernel_rfl) (by kernel_rfl) (by kernel_rfl) (by kernel_rfl)) ?_
  · intro ds hlen
    have hlen : ds.length = 2 := hlen.trans (by kernel_rfl)
    match ds, hlen with
    | [_, _], _ => rfl
  intro W base args ds p hval hA hlt hsz
  rw [Try.params3] at hA hval
  obtain ⟨v0, vs0, d0, ds0, p0, q0, hargs, rfl, rfl, h0, r0⟩ := trodAll_cons hA
  obtain ⟨v1, vs1, d1, ds1, p1, q1, rfl, rfl, rfl, h1, r1⟩ := trodAll_cons r0
  obtain ⟨rfl, rfl, rfl⟩ := trodAll_nil r1
  obtain rfl : args = #[v0, v1] := by cases args; simp_all
  obtain ⟨l, rfl, rfl, rfl, wf0⟩ := open_int Try.underlying3 (hval 0 3 v0 rfl rfl) h0
  obtain ⟨A1, len1, cap1, z1, rfl, hl1, hc1, hz1⟩ := one_rows Try.underlying22 (by kernel_rfl) (hval 1 22 v1 rfl rfl) h1
  unfold maxLen at hc1
  have hz' : 0 < len1 → ∃ b o, A1 = some ⟨b, o, none⟩ ∧ b < W.heap.size ∧ ∀ i, i < len1 → W.cell? ⟨b, o + i, none⟩ = some (.int .u8 ((fun i => match z1 i with | .int _ x => x | _ => 0) i)) ∧ 0 ≤ ((fun i => match z1 i with | .int _ x => x | _ => 0) i) ∧ ((fun i => match z1 i with | .int _ x => x | _ => 0) i) ≤ 255 := by
    intro h0
    obtain ⟨b, o, rfl, hb, hcs⟩ := hz1 (by omega)
    refine ⟨b, o, rfl, hb, fun i hi => ?_⟩
    obtain ⟨hc, n, y, ht⟩ := hcs i (by omega)
    obtain ⟨x, hx, wf⟩ := int_cell Try.underlying5 ht
    have := bounds_u8 wf
    simp only [hx]
    exact ⟨by rw [hc, hx], this.1, this.2⟩
  by_cases h1 : l < 1
  · exact runs_low l h1 A1 len1 cap1 W
  by_cases h2 : 1099511627776 < l
  · exact runs_high l h2 A1 len1 cap1 W
  exact runs_walk l (by omega) (by omega) A1 len1 cap1 _ W (by omega) hz'

theorem over : Rows.clockRunsRow.holds Try.pinned (OpenSpec.ofChange Rows.clockRunsSpec) :=
  OpenClaim.holds_of_wide 3 Try.f3 rfl rfl rfl rfl rfl rfl rfl ⟨rfl, rfl, rfl, rfl, rfl⟩ rfl rfl rfl rfl rfl (by kernel_rfl) Try.func3 (by kernel_rfl)
    (of_decide_eq_true (by kernel_rfl)) (by unfold Func.isWrapper; first | (rw [if_pos (by decide +kernel)]; kernel_rfl) | (rw [if_neg (by decide +kernel)]; exact ⟨rfl, rfl⟩))
    (fun os started H enc _ => lifted os started H enc)

/-- The statement. -/
theorem proved : Rows.ClockRunsSaid := over
#print axioms proved
end ClockRuns

end Clk
end Go.Proofs.Ytgpholoonjglfaa
