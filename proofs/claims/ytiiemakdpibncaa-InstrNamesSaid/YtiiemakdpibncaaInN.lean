/- The law InstrNames, for every input, by the runner. -/
import Derived.Test.YtiiemakdpibncaaInN3
namespace Go.Proofs.Ytiiemakdpibncaa
open Go.ChangeShapes Go.WideShapes Go.ChangeAt Go.RowKit
namespace Ev

set_option maxRecDepth 100000
theorem walk (s : ByteArray) (op : Int) (w : World) : Calls Try.prog 4 #[.string s, .int .i64 op] w (Ret (.bool true) w) := by
  have hop : (1 ≤ op ∧ op ≤ 20) ∨ op < 1 ∨ 20 < op := by omega
  by_cases hs : s.size ≤ 20
  · skip
    skip
    cases hb : bb s with
    | false =>
      rcases hop with h | h | h
      · exact leaf00I s op h hs hb w
      · exact leaf00L s op h hs hb w
      · exact leaf00H s op h hs hb w
    | true =>
      rcases hop with h | h | h
      · exact leaf01I s op h hs hb w
      · exact leaf01L s op h hs hb w
      · exact leaf01H s op h hs hb w
  · skip
    have hs : 20 < s.size := by omega
    cases hb : bb (s.extract 0 20) with
    | false =>
      rcases hop with h | h | h
      · exact leaf10I s op h hs hb w
      · exact leaf10L s op h hs hb w
      · exact leaf10H s op h hs hb w
    | true =>
      rcases hop with h | h | h
      · exact leaf11I s op h hs hb w
      · exact leaf11L s op h hs hb w
      · exact leaf11H s op h hs hb w
namespace InstrNames

theorem own : ownKnob Try.prog.godebug = none := by kernel_rfl
set_option maxRecDepth 100000 in
theorem lifted (os : Os) (started : os.Started) (H : Type) (enc : TypeId × Value → H) :
    ReturnsInHanded {} Try.checked os 4 .any (Rows.instrNamesSpec.pre6 enc Try.prog Try.f4 Rows.instrNamesRow.domain false) (Rows.instrNamesSpec.post enc Try.prog Try.f4 false true false false) := by
  refine law_frame (C := Try.checked) own started (by kernel_rfl) Try.func4 rfl rfl Try.underlying4 ?_ (by kernel_rfl) (by kernel_rfl)
    (ChangeSpec.witness6 (enc := enc) (C := Try.checked) false ⟨#[], #[.string ⟨#[]⟩, .int .i64 0], []⟩ 8 (by kernel_rfl) (by kernel_rfl) (by kernel_rfl) (by kernel_rfl)) ?_
  · intro ds hlen
    have hlen : ds.length = 2 := hlen.trans (by kernel_rfl)
    match ds, hlen with
    | [_, _], _ => rfl
  intro W base args ds p hval hA hlt hsz
  rw [Try.params4] at hA hval
  obtain ⟨v0, vs0, d0, ds0, p0, q0, hargs, rfl, rfl, h0, r0⟩ := trodAll_cons hA
  obtain ⟨v1, vs1, d1, ds1, p1, q1, rfl, rfl, rfl, h1, r1⟩ := trodAll_cons r0
  obtain ⟨rfl, rfl, rfl⟩ := trodAll_nil r1
  obtain rfl : args = #[v0, v1] := by cases args; simp_all
  obtain ⟨s, rfl⟩ := okWide_str (by kernel_rfl) (okWide_one (by kernel_rfl) (hval 0 9 v0 rfl rfl))
  obtain ⟨op, rfl, wf_op⟩ := okWide_int (k := .i64) (by kernel_rfl) (okWide_one (by kernel_rfl) (hval 1 22 v1 rfl rfl))
  exact walk s op W

theorem over : Rows.instrNamesRow.holds Try.pinned (OpenSpec.ofChange Rows.instrNamesSpec) :=
  OpenClaim.holds_of_wide 4 Try.f4 rfl rfl rfl rfl rfl rfl rfl ⟨rfl, rfl, rfl, rfl, rfl⟩ rfl rfl rfl rfl rfl (by kernel_rfl) Try.func4 (by kernel_rfl)
    (of_decide_eq_true (by kernel_rfl)) (by unfold Func.isWrapper; first | (rw [if_pos (by decide +kernel)]; kernel_rfl) | (rw [if_neg (by decide +kernel)]; exact ⟨rfl, rfl⟩))
    (fun os started H enc _ => lifted os started H enc)

/-- The statement. -/
theorem proved : Rows.InstrNamesSaid := over
#print axioms proved
end InstrNames
end Ev
end Go.Proofs.Ytiiemakdpibncaa
