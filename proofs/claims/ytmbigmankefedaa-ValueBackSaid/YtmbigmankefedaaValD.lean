/- The page's example of package value. -/
import Derived.Test.YtmbigmankefedaaValC
namespace Go.Proofs.Ytmbigmankefedaa
open Go.ChangeShapes Go.WideShapes Go.ChangeAt Go.RowKit
namespace Val


attribute [local go_sem ↓] run_eql_val run_neq_val

theorem of35 (w : World) : Calls Try.prog 23 #[.int .i64 3, .int .i64 5] w (Ret (.tuple #[.agg #[.int .i64 2, .int .i64 3145733], .int .i64 0]) w) := of_any 3 5 w
theorem add23 (w : World) : Calls Try.prog 25 #[.agg #[.int .i64 1, .int .i64 2], .agg #[.int .i64 1, .int .i64 3]] w (Ret (.tuple #[.agg #[.int .i64 1, .int .i64 5], .int .i64 0]) w) := by
  have h := add_any 1 2 1 3 w
  rwa [show wrap64 (2 + 3) = 5 from IntWalk.wrap64_in 5 (by omega)] at h
theorem lessnil (w : World) : Calls Try.prog 29 #[.agg #[.int .i64 2, .int .i64 0], .agg #[.int .i64 1, .int .i64 1]] w (Ret (.tuple #[.agg #[.int .i64 0, .int .i64 0], .int .i64 10]) w) := less_any 2 0 1 1 w
theorem gen35 (w : World) : Calls Try.prog 10 #[.agg #[.int .i64 2, .int .i64 3145733]] w (Ret (.int .i64 3) w) := gen_any 2 3145733 (by omega) (by omega) w
theorem addr35 (w : World) : Calls Try.prog 12 #[.agg #[.int .i64 2, .int .i64 3145733]] w (Ret (.int .i64 5) w) := addr_any 2 3145733 (by omega) (by omega) w
theorem awake_any (w : World) :
    Calls Try.prog 22 #[] w (Ret (.bool true) w) := by
  go_enter Try.func22, Try.ntmps22
  go_wp2_with fail
  refine wp_back fun x => ?_
  refine ((of35 _).mono ?_)
  rintro e w' h
  obtain ⟨rfl, y, rfl⟩ := h.next (x := x)
  go_wp2_with fail
  refine wp_back fun x1 => ?_
  have c10 := x1.all y.w.heap.size 0 (.int .i64 2) (by simp) (by simp [go_sem])
  have c11 := x1.all y.w.heap.size 1 (.int .i64 3145733) (by simp) (by simp [go_sem])
  have s1 := fun z : Cl (y.w.alloc (.cells #[.int .i64 2, .int .i64 3145733] 24)) => z.lt (b := y.w.heap.size) (by simp)
  refine ((number_any _ _).mono ?_)
  rintro e w' h
  obtain ⟨rfl, y1, rfl⟩ := h.next (x := x1)
  go_wp2_with fail
  refine ((number_any _ _).mono ?_)
  rintro e w' h
  obtain ⟨rfl, y2, rfl⟩ := h.next (x := y1)
  go_wp2_with fail
  refine ((add23 _).mono ?_)
  rintro e w' h
  obtain ⟨rfl, y3, rfl⟩ := h.next (x := y2)
  go_wp2_with fail
  refine wp_back fun x2 => ?_
  have d10 := x2.all y.w.heap.size 0 (.int .i64 2) (Nat.lt_trans (s1 y3) (by simp)) (cell_old _ (s1 y3) (c10 y3))
  have d11 := x2.all y.w.heap.size 1 (.int .i64 3145733) (Nat.lt_trans (s1 y3) (by simp)) (cell_old _ (s1 y3) (c11 y3))
  have d20 := x2.all y3.w.heap.size 0 (.int .i64 1) (by simp) (by simp [go_sem])
  have d21 := x2.all y3.w.heap.size 1 (.int .i64 5) (by simp) (by simp [go_sem])
  have t1 := fun z : Cl (y3.w.alloc (.cells #[.int .i64 1, .int .i64 5] 24)) => z.lt (b := y.w.heap.size) (Nat.lt_trans (s1 y3) (by simp))
  have t2 := fun z : Cl (y3.w.alloc (.cells #[.int .i64 1, .int .i64 5] 24)) => z.lt (b := y3.w.heap.size) (by simp)
  clear c10 c11
  refine ((nil_any _).mono ?_)
  rintro e w' h
  obtain ⟨rfl, z1, rfl⟩ := h.next (x := x2)
  go_wp2_with fail
  refine ((number_any _ _).mono ?_)
  rintro e w' h
  obtain ⟨rfl, z2, rfl⟩ := h.next (x := z1)
  go_wp2_with fail
  refine ((lessnil _).mono ?_)
  rintro e w' h
  obtain ⟨rfl, z3, rfl⟩ := h.next (x := z2)
  go_wp2_with fail
  have hbl : Below w.heap.size w (z3.w.alloc (.cells #[.int .i64 0, .int .i64 0] 24)) :=
    (((y.below.alloc y.size _).trans (y3.below.mono (by simpa using Nat.le_trans y.size (Nat.le_succ _)))).alloc (Nat.le_trans y.size (Nat.le_of_lt (s1 y3))) _).trans (z3.below.mono (by simpa using Nat.le_trans y.size (Nat.le_trans (Nat.le_of_lt (s1 y3)) (Nat.le_succ _)))) |>.alloc (Nat.le_trans y.size (Nat.le_of_lt (t1 z3))) _
  refine wp_cl fun x3 => ?_
  have e10 := x3.all y.w.heap.size 0 (.int .i64 2) (Nat.lt_trans (t1 z3) (by simp)) (cell_old _ (t1 z3) (d10 z3))
  have e11 := x3.all y.w.heap.size 1 (.int .i64 3145733) (Nat.lt_trans (t1 z3) (by simp)) (cell_old _ (t1 z3) (d11 z3))
  have e20 := x3.all y3.w.heap.size 0 (.int .i64 1) (Nat.lt_trans (t2 z3) (by simp)) (cell_old _ (t2 z3) (d20 z3))
  have e21 := x3.all y3.w.heap.size 1 (.int .i64 5) (Nat.lt_trans (t2 z3) (by simp)) (cell_old _ (t2 z3) (d21 z3))
  clear d10 d11 d20 d21 s1 t1 t2
  refine region_cl (by kernel_rfl) (by kernel_rfl) ?_
  repeat (go_big_quiet_step (first | (go_at_call 10; with_reducible exact calls_cl (gen35 _)) | (go_at_call 12; with_reducible exact calls_cl (addr35 _)) | (go_at_call 18; with_reducible exact calls_cl (number_any _ _)) | (go_at_call 20; with_reducible exact calls_cl (nil_any _)) | (go_at_call 14; with_reducible exact calls_cl (isnil_any _ _ true rfl _)) | (go_at_call 16; with_reducible exact calls_cl (zero_any 1 0 true rfl _)) | (go_at_call 16; with_reducible exact calls_cl (zero_any 2 3145733 false rfl _))))
  refine wpQuiet_nil ?_
  rintro w' ⟨yy, rfl⟩
  go_wp2_with fail
  go_ret
  exact Ret.end hbl

end Val
end Go.Proofs.Ytmbigmankefedaa
