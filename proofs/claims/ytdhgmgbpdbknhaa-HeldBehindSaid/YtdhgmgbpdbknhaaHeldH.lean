/- The law HeldBehind. -/
import Derived.Test.YtdhgmgbpdbknhaaFrame
import Derived.Test.YtdhgmgbpdbknhaaHeldG
import Derived.Test.YtdhgmgbpdbknhaaSlices
namespace Go.Proofs.Ytdhgmgbpdbknhaa
open Go.ChangeShapes Go.WideShapes Go.ChangeAt Go.RowKit
namespace Held

open Go.Joins

namespace HeldBehind

theorem own : ownKnob Try.prog.godebug = none := by kernel_rfl
set_option maxRecDepth 100000 in
theorem lifted (os : Os) (started : os.Started) (H : Type) (enc : TypeId × Value → H) :
    ReturnsInHanded {} Try.checked os 4 .any (Rows.heldBehindSpec.pre6 enc Try.prog Try.f4 Rows.heldBehindRow.domain false) (Rows.heldBehindSpec.post enc Try.prog Try.f4 false true false false) := by
  refine law_frame (C := Try.checked) own started (by kernel_rfl) Try.func4 rfl rfl Try.underlying4 ?_ (by kernel_rfl) (by kernel_rfl)
    (ChangeSpec.witness6 (enc := enc) (C := Try.checked) false ⟨#[], #[.slice none 0 0, .int .u16 0], []⟩ 8 (by kernel_rfl) (by kernel_rfl) (by kernel_rfl) (by kernel_rfl)) ?_
  · intro ds hlen
    have hlen : ds.length = 2 := hlen.trans (by kernel_rfl)
    match ds, hlen with
    | [_, _], _ => rfl
  intro W base args ds p hval hA hlt hsz
  rw [Try.params4] at hA hval
  obtain ⟨v0, vs0, d0, ds0, p0, q0, hargs, rfl, rfl, h0, r0⟩ := trodAll_cons hA
  obtain ⟨v1, vs1, d1, ds1, p1, q1, rfl, rfl, rfl, h1, r1⟩ := trodAll_cons r0
  obtain ⟨rfl, rfl, rfl⟩ := trodAll_nil r1
  obtain rfl : args = #[v0, v1] := by cases args; simp_all
  obtain ⟨A0, len0, cap0, z0, rfl, hl0, hc0, hz0⟩ := one_rows Try.underlying49 (by kernel_rfl) (hval 0 49 v0 rfl rfl) h0
  unfold maxLen at hc0
  have hz' : 0 < len0 → ∃ b o, A0 = some ⟨b, o, none⟩ ∧ b < W.heap.size ∧ ∀ i, i < len0 → W.cell? ⟨b, o + i, none⟩ = some (.int .u16 ((fun i => match z0 i with | .int _ x => x | _ => 0) i)) ∧ 0 ≤ ((fun i => match z0 i with | .int _ x => x | _ => 0) i) ∧ ((fun i => match z0 i with | .int _ x => x | _ => 0) i) ≤ 65535 := by
    intro h0
    obtain ⟨b, o, rfl, hb, hcs⟩ := hz0 (by omega)
    refine ⟨b, o, rfl, hb, fun i hi => ?_⟩
    obtain ⟨hc, n, y, ht⟩ := hcs i (by omega)
    obtain ⟨x, hx, wf⟩ := int_cell Try.underlying50 ht
    have := bounds_u16 wf
    simp only [hx]
    exact ⟨by rw [hc, hx], this.1, this.2⟩
  obtain ⟨t, rfl, rfl, rfl, wf1⟩ := open_int Try.underlying50 (hval 1 50 v1 rfl rfl) h1
  have ht := bounds_u16 wf1
  exact behind_walk A0 len0 cap0 t _ W (by omega) ht.1 ht.2 hz'

theorem over : Rows.heldBehindRow.holds Try.pinned (OpenSpec.ofChange Rows.heldBehindSpec) :=
  OpenClaim.holds_of_wide 4 Try.f4 rfl rfl rfl rfl rfl rfl rfl ⟨rfl, rfl, rfl, rfl, rfl⟩ rfl rfl rfl rfl rfl (by kernel_rfl) Try.func4 (by kernel_rfl)
    (of_decide_eq_true (by kernel_rfl)) (by unfold Func.isWrapper; first | (rw [if_pos (by decide +kernel)]; kernel_rfl) | (rw [if_neg (by decide +kernel)]; exact ⟨rfl, rfl⟩))
    (fun os started H enc _ => lifted os started H enc)

/-- The statement. -/
theorem proved : Rows.HeldBehindSaid := over
#print axioms proved
end HeldBehind

end Held
end Go.Proofs.Ytdhgmgbpdbknhaa
