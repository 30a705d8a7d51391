/- ValueTells: for every value and number the program tells what the document tells. -/
import Derived.Test.YtmbigmankefedaaFrame
import Derived.Test.YtmbigmankefedaaValD
namespace Go.Proofs.Ytmbigmankefedaa
open Go.ChangeShapes Go.WideShapes Go.ChangeAt Go.RowKit
namespace Tells

open Val Go.Joins

attribute [local go_sem ↓] run_eql_val run_neq_val

theorem check_yes (k n : Int) (hn : n ≤ 9223372036854775807) (hok : okB k n = true) (w : World) : Calls Try.prog 8 #[.agg #[.int .i64 k, .int .i64 n]] w (Ret (.int .i64 0) w) := by
  have h := check_any k n hn w
  rwa [show checkI k n = 0 by simp [checkI, hok]] at h
theorem check_no (k n : Int) (hn : n ≤ 9223372036854775807) (hok : okB k n = false) (w : World) : Calls Try.prog 8 #[.agg #[.int .i64 k, .int .i64 n]] w (Ret (.int .i64 10) w) := by
  have h := check_any k n hn w
  rwa [show checkI k n = 10 by simp [checkI, hok]] at h
set_option maxRecDepth 100000 in
set_option maxHeartbeats 1000000 in
theorem walk_yes (k n m : Int) (hn : n ≤ 9223372036854775807) (hn' : -9223372036854775808 ≤ n) (hok : okB k n = true) (w : World) :
    Calls Try.prog 3 #[.agg #[.int .i64 k, .int .i64 n], .int .i64 m] w (Ret (.bool true) w) := by
  go_enter Try.func3, Try.ntmps3
  go_wp2_with fail
  refine wp_back fun x => ?_
  have c00 := x.all w.heap.size 0 (.int .i64 k) (by simp <;> omega) (by simp [go_sem])
  have c01 := x.all w.heap.size 1 (.int .i64 n) (by simp <;> omega) (by simp [go_sem])
  refine ((check_yes k n hn hok _).mono ?_)
  rintro e w' h
  obtain ⟨rfl, y, rfl⟩ := h.next (x := x)
  go_wp2_with fail
  refine region_cl (by kernel_rfl) (by kernel_rfl) ?_
  repeat (go_big_quiet_step (first | (go_at_call 9; with_reducible exact calls_cl (is_any k n hn hn' true hok _)) | (go_at_call 8; with_reducible exact calls_cl (check_yes k n hn hok _)) | (go_at_call 10; with_reducible exact calls_cl (gen_any k n hn hn' _)) | (go_at_call 11; with_reducible exact calls_cl (rgen_any k n hn hn' _)) | (go_at_call 12; with_reducible exact calls_cl (addr_any k n hn hn' _)) | (go_at_call 13; with_reducible exact calls_cl (raddr_any k n hn hn' _)) | (go_at_call 14; with_reducible exact calls_cl (isnil_any k n _ rfl _)) | (go_at_call 15; with_reducible exact calls_cl (risnil_any k n _ rfl _)) | (go_at_call 16; with_reducible exact calls_cl (zero_any k n _ rfl _)) | (go_at_call 17; with_reducible exact calls_cl (rzero_any k n _ rfl _)) | (go_at_call 18; with_reducible exact calls_cl (number_any _ _)) | (go_at_call 19; with_reducible exact calls_cl (rnumber_any _ _)) | (go_at_call 20; with_reducible exact calls_cl (nil_any _)) | (go_at_call 21; with_reducible exact calls_cl (rnil_any _)) | (go_at_call 22; with_reducible exact calls_cl (awake_any _))))
  refine wpQuiet_nil ?_
  rintro w' ⟨yy, rfl⟩
  go_wp2_with fail
  go_ret
  exact Ret.end (below1 _ _)

set_option maxRecDepth 100000 in
set_option maxHeartbeats 1000000 in
theorem walk_no (k n m : Int) (hn : n ≤ 9223372036854775807) (hn' : -9223372036854775808 ≤ n) (hok : okB k n = false) (w : World) :
    Calls Try.prog 3 #[.agg #[.int .i64 k, .int .i64 n], .int .i64 m] w (Ret (.bool true) w) := by
  go_enter Try.func3, Try.ntmps3
  go_wp2_with fail
  refine wp_back fun x => ?_
  have c00 := x.all w.heap.size 0 (.int .i64 k) (by simp <;> omega) (by simp [go_sem])
  have c01 := x.all w.heap.size 1 (.int .i64 n) (by simp <;> omega) (by simp [go_sem])
  refine ((check_no k n hn hok _).mono ?_)
  rintro e w' h
  obtain ⟨rfl, y, rfl⟩ := h.next (x := x)
  go_wp2_with fail
  refine region_cl (by kernel_rfl) (by kernel_rfl) ?_
  repeat (go_big_quiet_step (first | (go_at_call 9; with_reducible exact calls_cl (is_any k n hn hn' false hok _)) | (go_at_call 8; with_reducible exact calls_cl (check_no k n hn hok _)) | (go_at_call 10; with_reducible exact calls_cl (gen_any k n hn hn' _)) | (go_at_call 11; with_reducible exact calls_cl (rgen_any k n hn hn' _)) | (go_at_call 12; with_reducible exact calls_cl (addr_any k n hn hn' _)) | (go_at_call 13; with_reducible exact calls_cl (raddr_any k n hn hn' _)) | (go_at_call 14; with_reducible exact calls_cl (isnil_any k n _ rfl _)) | (go_at_call 15; with_reducible exact calls_cl (risnil_any k n _ rfl _)) | (go_at_call 16; with_reducible exact calls_cl (zero_any k n _ rfl _)) | (go_at_call 17; with_reducible exact calls_cl (rzero_any k n _ rfl _)) | (go_at_call 18; with_reducible exact calls_cl (number_any _ _)) | (go_at_call 19; with_reducible exact calls_cl (rnumber_any _ _)) | (go_at_call 20; with_reducible exact calls_cl (nil_any _)) | (go_at_call 21; with_reducible exact calls_cl (rnil_any _)) | (go_at_call 22; with_reducible exact calls_cl (awake_any _))))
  refine wpQuiet_nil ?_
  rintro w' ⟨yy, rfl⟩
  go_wp2_with fail
  go_ret
  exact Ret.end (below1 _ _)

theorem walk (k n m : Int) (hn : n ≤ 9223372036854775807) (hn' : -9223372036854775808 ≤ n) (w : World) : Calls Try.prog 3 #[.agg #[.int .i64 k, .int .i64 n], .int .i64 m] w (Ret (.bool true) w) := by
  by_cases hok : okB k n = true
  · exact walk_yes k n m hn hn' hok w
  · exact walk_no k n m hn hn' (by simpa only [Bool.not_eq_true] using hok) w
theorem cellsVal : Try.prog.cellsOf 24 = 2 := by kernel_rfl


theorem own : ownKnob Try.prog.godebug = none := by kernel_rfl
set_option maxRecDepth 100000 in
theorem lifted (os : Os) (started : os.Started) (H : Type) (enc : TypeId × Value → H) :
    ReturnsInHanded {} Try.checked os 3 .any (Rows.valueTellsSpec.pre6 enc Try.prog Try.f3 Rows.valueTellsRow.domain false) (Rows.valueTellsSpec.post enc Try.prog Try.f3 false true false false) := by
  refine law_frame (C := Try.checked) own started (by kernel_rfl) Try.func3 rfl rfl Try.underlying4 ?_ (by kernel_rfl) (by kernel_rfl)
    (ChangeSpec.witness6 (enc := enc) (C := Try.checked) false ⟨#[], #[.agg #[.int .i64 0, .int .i64 0], .int .i64 0], []⟩ 8 (by kernel_rfl) (by kernel_rfl) (by kernel_rfl) (by kernel_rfl)) ?_
  · intro ds hlen
    have hlen : ds.length = 2 := hlen.trans (by kernel_rfl)
    match ds, hlen with
    | [_, _], _ => rfl
  intro W base args ds p hval hA hlt hsz
  rw [Try.params3] at hA hval
  obtain ⟨v0, vs0, d0, ds0, p0, q0, hargs, rfl, rfl, h0, r0⟩ := trodAll_cons hA
  obtain ⟨v1, vs1, d1, ds1, p1, q1, rfl, rfl, rfl, h1, r1⟩ := trodAll_cons r0
  obtain ⟨rfl, rfl, rfl⟩ := trodAll_nil r1
  obtain rfl : args = #[v0, v1] := by cases args; simp_all
  obtain ⟨c00, c01, y00, y01, m0, rfl, rfl, rfl, hy00, hy01⟩ := open_agg2 Try.underlying24 (by kernel_rfl) cellsVal (hval 0 24 v0 rfl rfl) h0
  obtain ⟨k, e00, rfl, wfk⟩ := DataW.trod_int Try.underlying22 hy00
  obtain ⟨n, e01, rfl, wfn⟩ := DataW.trod_int Try.underlying3 hy01
  simp at e00 e01
  subst e00 e01
  obtain ⟨lon, hin⟩ := bounds_i64 wfn
  obtain ⟨m, rfl, rfl, rfl, wf1⟩ := open_int Try.underlying3 (hval 1 3 v1 rfl rfl) h1
  exact walk k n m hin lon W

theorem over : Rows.valueTellsRow.holds Try.pinned (OpenSpec.ofChange Rows.valueTellsSpec) :=
  OpenClaim.holds_of_wide 3 Try.f3 rfl rfl rfl rfl rfl rfl rfl ⟨rfl, rfl, rfl, rfl, rfl⟩ rfl rfl rfl rfl rfl (by kernel_rfl) Try.func3 (by kernel_rfl)
    (of_decide_eq_true (by kernel_rfl)) (by unfold Func.isWrapper; first | (rw [if_pos (by decide +kernel)]; kernel_rfl) | (rw [if_neg (by decide +kernel)]; exact ⟨rfl, rfl⟩))
    (fun os started H enc _ => lifted os started H enc)

/-- The statement. -/
theorem proved : Rows.ValueTellsSaid := over
#print axioms proved

end Tells
end Go.Proofs.Ytmbigmankefedaa
