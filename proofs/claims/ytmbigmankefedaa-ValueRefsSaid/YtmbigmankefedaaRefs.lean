/- ValueRefs: for every generation and address the program's reference is the document's. -/
import Derived.Test.YtmbigmankefedaaFrame
import Derived.Test.YtmbigmankefedaaValD
namespace Go.Proofs.Ytmbigmankefedaa
open Go.ChangeShapes Go.WideShapes Go.ChangeAt Go.RowKit
namespace Refs

open Val

attribute [local go_sem ↓] run_eql_val run_neq_val

theorem walk (g a : Int) (w : World) :
    Calls Try.prog 4 #[.int .i64 g, .int .i64 a] w (Ret (.bool true) w) := by
  go_enter Try.func4, Try.ntmps4
  go_wp2_with fail
  refine wp_back fun x => ?_
  refine ((of_any g a _).mono ?_)
  rintro e w' h
  obtain ⟨rfl, y, rfl⟩ := h.next (x := x)
  go_wp2_with fail
  refine wp_back fun x1 => ?_
  have c10 := x1.all y.w.heap.size 0 (.int .i64 (ofI g a 2 0)) (by simp) (by simp [go_sem])
  have c11 := x1.all y.w.heap.size 1 (.int .i64 (ofI g a (g * 1048576 + a) 0)) (by simp) (by simp [go_sem])
  have s1 := fun z : Cl (y.w.alloc (.cells #[.int .i64 (ofI g a 2 0), .int .i64 (ofI g a (g * 1048576 + a) 0)] 24)) => z.lt (b := y.w.heap.size) (by simp)
  refine ((rof_any g a _).mono ?_)
  rintro e w' h
  obtain ⟨rfl, z, rfl⟩ := h.next (x := x1)
  go_wp2_with fail
  have hbl : Below w.heap.size w (z.w.alloc (.cells #[.int .i64 (ofI g a 2 0), .int .i64 (ofI g a (g * 1048576 + a) 0)] 24)) :=
    ((y.below.alloc y.size _).trans (z.below.mono (by simpa using Nat.le_trans y.size (Nat.le_succ _)))).alloc (Nat.le_trans y.size (Nat.le_of_lt (s1 z))) _
  refine wp_back fun x2 => ?_
  refine (awake_any _).mono ?_
  rintro e w' h
  obtain ⟨rfl, u, rfl⟩ := h.next (x := x2)
  go_wp2_with fail
  go_ret
  exact Ret.end hbl


theorem own : ownKnob Try.prog.godebug = none := by kernel_rfl
set_option maxRecDepth 100000 in
theorem lifted (os : Os) (started : os.Started) (H : Type) (enc : TypeId × Value → H) :
    ReturnsInHanded {} Try.checked os 4 .any (Rows.valueRefsSpec.pre6 enc Try.prog Try.f4 Rows.valueRefsRow.domain false) (Rows.valueRefsSpec.post enc Try.prog Try.f4 false true false false) := by
  refine law_frame (C := Try.checked) own started (by kernel_rfl) Try.func4 rfl rfl Try.underlying4 ?_ (by kernel_rfl) (by kernel_rfl)
    (ChangeSpec.witness6 (enc := enc) (C := Try.checked) false ⟨#[], #[.int .i64 0, .int .i64 0], []⟩ 8 (by kernel_rfl) (by kernel_rfl) (by kernel_rfl) (by kernel_rfl)) ?_
  · intro ds hlen
    have hlen : ds.length = 2 := hlen.trans (by kernel_rfl)
    match ds, hlen with
    | [_, _], _ => rfl
  intro W base args ds p hval hA hlt hsz
  rw [Try.params4] at hA hval
  obtain ⟨v0, vs0, d0, ds0, p0, q0, hargs, rfl, rfl, h0, r0⟩ := trodAll_cons hA
  obtain ⟨v1, vs1, d1, ds1, p1, q1, rfl, rfl, rfl, h1, r1⟩ := trodAll_cons r0
  obtain ⟨rfl, rfl, rfl⟩ := trodAll_nil r1
  obtain rfl : args = #[v0, v1] := by cases args; simp_all
  obtain ⟨g, rfl, rfl, rfl, wf0⟩ := open_int Try.underlying3 (hval 0 3 v0 rfl rfl) h0
  obtain ⟨a, rfl, rfl, rfl, wf1⟩ := open_int Try.underlying3 (hval 1 3 v1 rfl rfl) h1
  exact walk g a W

theorem over : Rows.valueRefsRow.holds Try.pinned (OpenSpec.ofChange Rows.valueRefsSpec) :=
  OpenClaim.holds_of_wide 4 Try.f4 rfl rfl rfl rfl rfl rfl rfl ⟨rfl, rfl, rfl, rfl, rfl⟩ rfl rfl rfl rfl rfl (by kernel_rfl) Try.func4 (by kernel_rfl)
    (of_decide_eq_true (by kernel_rfl)) (by unfold Func.isWrapper; first | (rw [if_pos (by decide +kernel)]; kernel_rfl) | (rw [if_neg (by decide +kernel)]; exact ⟨rfl, rfl⟩))
    (fun os started H enc _ => lifted os started H enc)

/-- The statement. -/
theorem proved : Rows.ValueRefsSaid := over
#print axioms proved

end Refs
end Go.Proofs.Ytmbigmankefedaa
