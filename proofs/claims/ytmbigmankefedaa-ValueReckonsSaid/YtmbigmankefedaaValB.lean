/- Contracts of the functions of package value, and of the document's own answers for it: makers. -/
import Derived.Test.YtmbigmankefedaaValA
namespace Go.Proofs.Ytmbigmankefedaa
open Go.ChangeShapes Go.WideShapes Go.ChangeAt Go.RowKit
namespace Val


theorem run_eql_val (k n k' n' : Int) (w : World) : (binOp .eql 24 (.agg #[.int .i64 k, .int .i64 n]) (.agg #[.int .i64 k', .int .i64 n'])).run Try.prog w = .ok (.bool (k == k' && n == n')) w := by
  by_cases h1 : k = k' <;> by_cases h2 : n = n' <;> simp [go_sem, h1, h2]
theorem run_neq_val (k n k' n' : Int) (w : World) : (binOp .neq 24 (.agg #[.int .i64 k, .int .i64 n]) (.agg #[.int .i64 k', .int .i64 n'])).run Try.prog w = .ok (.bool (!(k == k' && n == n'))) w := by
  by_cases h1 : k = k' <;> by_cases h2 : n = n' <;> simp [go_sem, h1, h2]
attribute [local go_sem ↓] run_eql_val run_neq_val

theorem number_any (n : Int) (w : World) :
    Calls Try.prog 18 #[.int .i64 n] w (Ret (.agg #[.int .i64 1, .int .i64 n]) w) := by
  go_enter Try.func18, Try.ntmps18
  go_wp2_with fail
  exact bodyPost_ret (v := .agg #[.int .i64 1, .int .i64 n]) (by simp [results, Try.results18, go_sem]) rfl (Ret.alloc _)

theorem rnumber_any (n : Int) (w : World) :
    Calls Try.prog 19 #[.int .i64 n] w (Ret (.agg #[.int .i64 1, .int .i64 n]) w) := by
  go_enter Try.func19, Try.ntmps19
  go_wp2_with fail
  exact bodyPost_ret (v := .agg #[.int .i64 1, .int .i64 n]) (by simp [results, Try.results19, go_sem]) rfl (Ret.alloc _)

theorem nil_any (w : World) :
    Calls Try.prog 20 #[] w (Ret (.agg #[.int .i64 2, .int .i64 0]) w) := by
  go_enter Try.func20, Try.ntmps20
  go_wp2_with fail
  exact bodyPost_ret (v := .agg #[.int .i64 2, .int .i64 0]) (by simp [results, Try.results20, go_sem]) rfl (Ret.alloc _)

theorem rnil_any (w : World) :
    Calls Try.prog 21 #[] w (Ret (.agg #[.int .i64 2, .int .i64 0]) w) := by
  go_enter Try.func21, Try.ntmps21
  go_wp2_with fail
  exact bodyPost_ret (v := .agg #[.int .i64 2, .int .i64 0]) (by simp [results, Try.results21, go_sem]) rfl (Ret.alloc _)

theorem isnil_any (k n : Int) (b : Bool) (hb : (k == 2 && n == 0) = b) (w : World) :
    Calls Try.prog 14 #[.agg #[.int .i64 k, .int .i64 n]] w (Ret (.bool b) w) := by
  subst hb
  go_enter Try.func14, Try.ntmps14
  go_wp2_with fail
  refine wp_cl fun x => ?_
  have c00 := x.all w.heap.size 0 (.int .i64 k) (by simp <;> omega) (by simp [go_sem])
  have c01 := x.all w.heap.size 1 (.int .i64 n) (by simp <;> omega) (by simp [go_sem])
  refine region_cl (by kernel_rfl) (by kernel_rfl) ?_
  repeat (go_big_quiet_step (exact calls_cl (nil_any _)))
  refine wpQuiet_nil ?_
  rintro w' ⟨y, rfl⟩
  go_wp2_with fail
  go_ret
  exact Ret.end (below1 _ _)

theorem risnil_any (k n : Int) (b : Bool) (hb : (k == 2 && n == 0) = b) (w : World) :
    Calls Try.prog 15 #[.agg #[.int .i64 k, .int .i64 n]] w (Ret (.bool b) w) := by
  subst hb
  go_enter Try.func15, Try.ntmps15
  go_wp2_with fail
  refine wp_cl fun x => ?_
  have c00 := x.all w.heap.size 0 (.int .i64 k) (by simp <;> omega) (by simp [go_sem])
  have c01 := x.all w.heap.size 1 (.int .i64 n) (by simp <;> omega) (by simp [go_sem])
  refine region_cl (by kernel_rfl) (by kernel_rfl) ?_
  repeat (go_big_quiet_step (exact calls_cl (rnil_any _)))
  refine wpQuiet_nil ?_
  rintro w' ⟨y, rfl⟩
  go_wp2_with fail
  go_ret
  exact Ret.end (below1 _ _)

def zeroB (k n : Int) : Bool := (k == 2 && n == 0) || (k == 1 && n == 0)

theorem zero_any (k n : Int) (b : Bool) (hb : zeroB k n = b) (w : World) :
    Calls Try.prog 16 #[.agg #[.int .i64 k, .int .i64 n]] w (Ret (.bool b) w) := by
  subst hb
  by_cases hz : (k == 2 && n == 0) = true
  · have e : zeroB k n = true := by simp only [zeroB, hz, Bool.true_or]
    rw [e]
    go_enter Try.func16, Try.ntmps16
    go_wp2_with fail
    refine wp_cl fun x => ?_
    have c00 := x.all w.heap.size 0 (.int .i64 k) (by simp <;> omega) (by simp [go_sem])
    have c01 := x.all w.heap.size 1 (.int .i64 n) (by simp <;> omega) (by simp [go_sem])
    refine region_cl (by kernel_rfl) (by kernel_rfl) ?_
    repeat (go_big_quiet_step (first | exact calls_cl (isnil_any _ _ _ hz _) | exact calls_cl (number_any _ _)))
    refine wpQuiet_nil ?_
    rintro w' ⟨y, rfl⟩
    go_wp2_with fail
    go_ret
    exact Ret.end (below1 _ _)
  · have hz : (k == 2 && n == 0) = false := by simpa only [Bool.not_eq_true] using hz
    have e : zeroB k n = (k == 1 && n == 0) := by simp only [zeroB, hz, Bool.false_or]
    rw [e]
    go_enter Try.func16, Try.ntmps16
    go_wp2_with fail
    refine wp_cl fun x => ?_
    have c00 := x.all w.heap.size 0 (.int .i64 k) (by simp <;> omega) (by simp [go_sem])
    have c01 := x.all w.heap.size 1 (.int .i64 n) (by simp <;> omega) (by simp [go_sem])
    refine region_cl (by kernel_rfl) (by kernel_rfl) ?_
    repeat (go_big_quiet_step (first | exact calls_cl (isnil_any _ _ _ hz _) | exact calls_cl (number_any _ _)))
    refine wpQuiet_nil ?_
    rintro w' ⟨y, rfl⟩
    go_wp2_with fail
    go_ret
    exact Ret.end (below1 _ _)

theorem rzero_any (k n : Int) (b : Bool) (hb : zeroB k n = b) (w : World) :
    Calls Try.prog 17 #[.agg #[.int .i64 k, .int .i64 n]] w (Ret (.bool b) w) := by
  subst hb
  by_cases hz : (k == 2 && n == 0) = true
  · have e : zeroB k n = true := by simp only [zeroB, hz, Bool.true_or]
    rw [e]
    go_enter Try.func17, Try.ntmps17
    go_wp2_with fail
    refine wp_cl fun x => ?_
    have c00 := x.all w.heap.size 0 (.int .i64 k) (by simp <;> omega) (by simp [go_sem])
    have c01 := x.all w.heap.size 1 (.int .i64 n) (by simp <;> omega) (by simp [go_sem])
    refine region_cl (by kernel_rfl) (by kernel_rfl) ?_
    repeat (go_big_quiet_step (first | exact calls_cl (rnil_any _) | exact calls_cl (rnumber_any _ _)))
    refine wpQuiet_nil ?_
    rintro w' ⟨y, rfl⟩
    go_wp2_with fail
    go_ret
    exact Ret.end (below1 _ _)
  · have hz : (k == 2 && n == 0) = false := by simpa only [Bool.not_eq_true] using hz
    have e : zeroB k n = (k == 1 && n == 0) := by simp only [zeroB, hz, Bool.false_or]
    rw [e]
    go_enter Try.func17, Try.ntmps17
    go_wp2_with fail
    refine wp_cl fun x => ?_
    have c00 := x.all w.heap.size 0 (.int .i64 k) (by simp <;> omega) (by simp [go_sem])
    have c01 := x.all w.heap.size 1 (.int .i64 n) (by simp <;> omega) (by simp [go_sem])
    refine region_cl (by kernel_rfl) (by kernel_rfl) ?_
    repeat (go_big_quiet_step (first | exact calls_cl (rnil_any _) | exact calls_cl (rnumber_any _ _)))
    refine wpQuiet_nil ?_
    rintro w' ⟨y, rfl⟩
    go_wp2_with fail
    go_ret
    exact Ret.end (below1 _ _)

theorem numbers_any (k n k' n' : Int) (b : Bool) (hb : (k == 1 && k' == 1) = b) (w : World) :
    Calls Try.prog 38 #[.agg #[.int .i64 k, .int .i64 n], .agg #[.int .i64 k', .int .i64 n']] w (Ret (.bool b) w) := by
  subst hb
  by_cases hz : (k == 1) = true
  · rw [hz, Bool.true_and]
    go_enter Try.func38, Try.ntmps38
    go_wp2_with fail
    go_ret
    exact ⟨rfl, below2 _ _ _⟩
  · have hz : (k == 1) = false := by simpa only [Bool.not_eq_true] using hz
    rw [hz, Bool.false_and]
    go_enter Try.func38, Try.ntmps38
    go_wp2_with fail
    go_ret
    exact ⟨rfl, below2 _ _ _⟩

theorem both_any (k n k' n' : Int) (b : Bool) (hb : (k == 1 && k' == 1) = b) (w : World) :
    Calls Try.prog 39 #[.agg #[.int .i64 k, .int .i64 n], .agg #[.int .i64 k', .int .i64 n']] w (Ret (.bool b) w) := by
  subst hb
  by_cases hz : (k == 1) = true
  · rw [hz, Bool.true_and]
    go_enter Try.func39, Try.ntmps39
    go_wp2_with fail
    go_ret
    exact ⟨rfl, below2 _ _ _⟩
  · have hz : (k == 1) = false := by simpa only [Bool.not_eq_true] using hz
    rw [hz, Bool.false_and]
    go_enter Try.func39, Try.ntmps39
    go_wp2_with fail
    go_ret
    exact ⟨rfl, below2 _ _ _⟩

def truthI (b : Bool) : Int := if b then 1 else 0

theorem truth_any (b : Bool) (w : World) :
    Calls Try.prog 40 #[.bool b] w (Ret (.agg #[.int .i64 1, .int .i64 (truthI b)]) w) := by
  cases b
  · go_enter Try.func40, Try.ntmps40
    go_wp2_with fail
    refine wp_back fun x => ?_
    have c00 := x.all w.heap.size 0 (.int .i64 0) (by simp <;> omega) (by simp [go_sem])
    have c01 := x.all w.heap.size 1 (.int .i64 0) (by simp <;> omega) (by simp [go_sem])
    have f00 := x.allf w.heap.size 0 (by simp <;> omega) (by simp [go_sem])
    have f01 := x.allf w.heap.size 1 (by simp <;> omega) (by simp [go_sem])
    refine ((number_any _ _).mono ?_)
    rintro e w' h
    obtain ⟨rfl, y, rfl⟩ := h.next (x := x)
    go_wp2_with fail
    exact bodyPost_ret (v := .agg #[.int .i64 1, .int .i64 0]) (by simp [results, Try.results40, go_sem, *]) rfl (Ret.endSet2 (below1 _ _) (by simp <;> omega) (by simp <;> omega) _ _)
  · go_enter Try.func40, Try.ntmps40
    go_wp2_with fail
    refine wp_back fun x => ?_
    have c00 := x.all w.heap.size 0 (.int .i64 0) (by simp <;> omega) (by simp [go_sem])
    have c01 := x.all w.heap.size 1 (.int .i64 0) (by simp <;> omega) (by simp [go_sem])
    have f00 := x.allf w.heap.size 0 (by simp <;> omega) (by simp [go_sem])
    have f01 := x.allf w.heap.size 1 (by simp <;> omega) (by simp [go_sem])
    refine ((number_any _ _).mono ?_)
    rintro e w' h
    obtain ⟨rfl, y, rfl⟩ := h.next (x := x)
    go_wp2_with fail
    exact bodyPost_ret (v := .agg #[.int .i64 1, .int .i64 1]) (by simp [results, Try.results40, go_sem, *]) rfl (Ret.endSet2 (below1 _ _) (by simp <;> omega) (by simp <;> omega) _ _)

theorem one_any (b : Bool) (w : World) :
    Calls Try.prog 41 #[.bool b] w (Ret (.agg #[.int .i64 1, .int .i64 (truthI b)]) w) := by
  cases b
  · go_enter Try.func41, Try.ntmps41
    go_wp2_with fail
    refine wp_back fun x => ?_
    have c00 := x.all w.heap.size 0 (.int .i64 0) (by simp <;> omega) (by simp [go_sem])
    have c01 := x.all w.heap.size 1 (.int .i64 0) (by simp <;> omega) (by simp [go_sem])
    have f00 := x.allf w.heap.size 0 (by simp <;> omega) (by simp [go_sem])
    have f01 := x.allf w.heap.size 1 (by simp <;> omega) (by simp [go_sem])
    refine ((rnumber_any _ _).mono ?_)
    rintro e w' h
    obtain ⟨rfl, y, rfl⟩ := h.next (x := x)
    go_wp2_with fail
    exact bodyPost_ret (v := .agg #[.int .i64 1, .int .i64 0]) (by simp [results, Try.results41, go_sem, *]) rfl (Ret.endSet2 (below1 _ _) (by simp <;> omega) (by simp <;> omega) _ _)
  · go_enter Try.func41, Try.ntmps41
    go_wp2_with fail
    refine wp_back fun x => ?_
    have c00 := x.all w.heap.size 0 (.int .i64 0) (by simp <;> omega) (by simp [go_sem])
    have c01 := x.all w.heap.size 1 (.int .i64 0) (by simp <;> omega) (by simp [go_sem])
    have f00 := x.allf w.heap.size 0 (by simp <;> omega) (by simp [go_sem])
    have f01 := x.allf w.heap.size 1 (by simp <;> omega) (by simp [go_sem])
    refine ((rnumber_any _ _).mono ?_)
    rintro e w' h
    obtain ⟨rfl, y, rfl⟩ := h.next (x := x)
    go_wp2_with fail
    exact bodyPost_ret (v := .agg #[.int .i64 1, .int .i64 1]) (by simp [results, Try.results41, go_sem, *]) rfl (Ret.endSet2 (below1 _ _) (by simp <;> omega) (by simp <;> omega) _ _)

theorem equal_any (k n k' n' : Int) (w : World) :
    Calls Try.prog 31 #[.agg #[.int .i64 k, .int .i64 n], .agg #[.int .i64 k', .int .i64 n']] w (Ret (.agg #[.int .i64 1, .int .i64 (truthI (k == k' && n == n'))]) w) := by
  go_enter Try.func31, Try.ntmps31
  go_wp2_with fail
  refine wp_back fun x => ?_
  have c00 := x.all w.heap.size 0 (.int .i64 k) (by simp <;> omega) (by simp [go_sem])
  have c01 := x.all w.heap.size 1 (.int .i64 n) (by simp <;> omega) (by simp [go_sem])
  have c10 := x.all (w.heap.size + 1) 0 (.int .i64 k') (by simp <;> omega) (by simp [go_sem])
  have c11 := x.all (w.heap.size + 1) 1 (.int .i64 n') (by simp <;> omega) (by simp [go_sem])
  have c20 := x.all (w.heap.size + 2) 0 (.int .i64 0) (by simp <;> omega) (by simp [go_sem])
  have c21 := x.all (w.heap.size + 2) 1 (.int .i64 0) (by simp <;> omega) (by simp [go_sem])
  have f20 := x.allf (w.heap.size + 2) 0 (by simp <;> omega) (by simp [go_sem])
  have f21 := x.allf (w.heap.size + 2) 1 (by simp <;> omega) (by simp [go_sem])
  refine ((truth_any _ _).mono ?_)
  rintro e w' h
  obtain ⟨rfl, y, rfl⟩ := h.next (x := x)
  go_wp2_with fail
  exact bodyPost_ret (v := .agg #[.int .i64 1, .int .i64 (truthI (k == k' && n == n'))]) (by simp [results, Try.results31, go_sem, *]) rfl (Ret.endSet2 (below3 _ _ _ _) (by simp <;> omega) (by simp <;> omega) _ _)

theorem requal_any (k n k' n' : Int) (w : World) :
    Calls Try.prog 32 #[.agg #[.int .i64 k, .int .i64 n], .agg #[.int .i64 k', .int .i64 n']] w (Ret (.agg #[.int .i64 1, .int .i64 (truthI (k == k' && n == n'))]) w) := by
  go_enter Try.func32, Try.ntmps32
  go_wp2_with fail
  refine wp_back fun x => ?_
  have c00 := x.all w.heap.size 0 (.int .i64 k) (by simp <;> omega) (by simp [go_sem])
  have c01 := x.all w.heap.size 1 (.int .i64 n) (by simp <;> omega) (by simp [go_sem])
  have c10 := x.all (w.heap.size + 1) 0 (.int .i64 k') (by simp <;> omega) (by simp [go_sem])
  have c11 := x.all (w.heap.size + 1) 1 (.int .i64 n') (by simp <;> omega) (by simp [go_sem])
  have c20 := x.all (w.heap.size + 2) 0 (.int .i64 0) (by simp <;> omega) (by simp [go_sem])
  have c21 := x.all (w.heap.size + 2) 1 (.int .i64 0) (by simp <;> omega) (by simp [go_sem])
  have f20 := x.allf (w.heap.size + 2) 0 (by simp <;> omega) (by simp [go_sem])
  have f21 := x.allf (w.heap.size + 2) 1 (by simp <;> omega) (by simp [go_sem])
  refine ((one_any _ _).mono ?_)
  rintro e w' h
  obtain ⟨rfl, y, rfl⟩ := h.next (x := x)
  go_wp2_with fail
  exact bodyPost_ret (v := .agg #[.int .i64 1, .int .i64 (truthI (k == k' && n == n'))]) (by simp [results, Try.results32, go_sem, *]) rfl (Ret.endSet2 (below3 _ _ _ _) (by simp <;> omega) (by simp <;> omega) _ _)

/-- 0, unless both are numbers. -/
def ifNum (k k' : Int) (a b : Int) : Int := if k == 1 && k' == 1 then a else b
theorem ifNum_yes {k k' : Int} (h : (k == 1 && k' == 1) = true) (a b : Int) : ifNum k k' a b = a := by simp only [ifNum, h, if_true]
theorem ifNum_no {k k' : Int} (h : (k == 1 && k' == 1) = false) (a b : Int) : ifNum k k' a b = b := by simp only [ifNum, h, Bool.false_eq_true, if_false]

theorem add_any (k n k' n' : Int) (w : World) :
    Calls Try.prog 25 #[.agg #[.int .i64 k, .int .i64 n], .agg #[.int .i64 k', .int .i64 n']] w (Ret (.tuple #[.agg #[.int .i64 (ifNum k k' 1 0), .int .i64 (ifNum k k' (wrap64 (n + n')) 0)], .int .i64 (ifNum k k' 0 10)]) w) := by
  by_cases hz : (k == 1 && k' == 1) = true
  · rw [ifNum_yes hz, ifNum_yes hz, ifNum_yes hz]
    go_enter Try.func25, Try.ntmps25
    go_wp2_with fail
    refine wp_back fun x => ?_
    have c00 := x.all w.heap.size 0 (.int .i64 k) (by simp <;> omega) (by simp [go_sem])
    have c01 := x.all w.heap.size 1 (.int .i64 n) (by simp <;> omega) (by simp [go_sem])
    have c10 := x.all (w.heap.size + 1) 0 (.int .i64 k') (by simp <;> omega) (by simp [go_sem])
    have c11 := x.all (w.heap.size + 1) 1 (.int .i64 n') (by simp <;> omega) (by simp [go_sem])
    have c20 := x.all (w.heap.size + 2) 0 (.int .i64 0) (by simp <;> omega) (by simp [go_sem])
    have c21 := x.all (w.heap.size + 2) 1 (.int .i64 0) (by simp <;> omega) (by simp [go_sem])
    have f20 := x.allf (w.heap.size + 2) 0 (by simp <;> omega) (by simp [go_sem])
    have f21 := x.allf (w.heap.size + 2) 1 (by simp <;> omega) (by simp [go_sem])
    refine ((numbers_any _ _ _ _ _ hz _).mono ?_)
    rintro e w' h
    obtain ⟨rfl, y, rfl⟩ := h.next (x := x)
    go_wp2_with fail
    refine ((number_any _ _).mono ?_)
    rintro e w' h
    obtain ⟨rfl, z, rfl⟩ := h.next (x := y)
    go_wp2_with fail
    exact bodyPost_ret (v := .tuple #[.agg #[.int .i64 1, .int .i64 (wrap64 (n + n'))], .int .i64 0]) (by simp [results, Try.results25, go_sem, *]) rfl (Ret.endSet2 (below3 _ _ _ _) (by simp <;> omega) (by simp <;> omega) _ _)
  · have hz : (k == 1 && k' == 1) = false := by simpa only [Bool.not_eq_true] using hz
    rw [ifNum_no hz, ifNum_no hz, ifNum_no hz]
    go_enter Try.func25, Try.ntmps25
    go_wp2_with fail
    refine wp_back fun x => ?_
    have c00 := x.all w.heap.size 0 (.int .i64 k) (by simp <;> omega) (by simp [go_sem])
    have c01 := x.all w.heap.size 1 (.int .i64 n) (by simp <;> omega) (by simp [go_sem])
    have c10 := x.all (w.heap.size + 1) 0 (.int .i64 k') (by simp <;> omega) (by simp [go_sem])
    have c11 := x.all (w.heap.size + 1) 1 (.int .i64 n') (by simp <;> omega) (by simp [go_sem])
    have c20 := x.all (w.heap.size + 2) 0 (.int .i64 0) (by simp <;> omega) (by simp [go_sem])
    have c21 := x.all (w.heap.size + 2) 1 (.int .i64 0) (by simp <;> omega) (by simp [go_sem])
    have f20 := x.allf (w.heap.size + 2) 0 (by simp <;> omega) (by simp [go_sem])
    have f21 := x.allf (w.heap.size + 2) 1 (by simp <;> omega) (by simp [go_sem])
    refine ((numbers_any _ _ _ _ _ hz _).mono ?_)
    rintro e w' h
    obtain ⟨rfl, y, rfl⟩ := h.next (x := x)
    go_wp2_with fail
    go_wp2_with fail
    exact bodyPost_ret (v := .tuple #[.agg #[.int .i64 0, .int .i64 0], .int .i64 10]) (by simp [results, Try.results25, go_sem, *]) rfl (Ret.endSet2 (below3 _ _ _ _) (by simp <;> omega) (by simp <;> omega) _ _)

theorem radd_any (k n k' n' : Int) (w : World) :
    Calls Try.prog 26 #[.agg #[.int .i64 k, .int .i64 n], .agg #[.int .i64 k', .int .i64 n']] w (Ret (.tuple #[.agg #[.int .i64 (ifNum k k' 1 0), .int .i64 (ifNum k k' (wrap64 (n + n')) 0)], .int .i64 (ifNum k k' 0 10)]) w) := by
  by_cases hz : (k == 1 && k' == 1) = true
  · rw [ifNum_yes hz, ifNum_yes hz, ifNum_yes hz]
    go_enter Try.func26, Try.ntmps26
    go_wp2_with fail
    refine wp_back fun x => ?_
    have c00 := x.all w.heap.size 0 (.int .i64 k) (by simp <;> omega) (by simp [go_sem])
    have c01 := x.all w.heap.size 1 (.int .i64 n) (by simp <;> omega) (by simp [go_sem])
    have c10 := x.all (w.heap.size + 1) 0 (.int .i64 k') (by simp <;> omega) (by simp [go_sem])
    have c11 := x.all (w.heap.size + 1) 1 (.int .i64 n') (by simp <;> omega) (by simp [go_sem])
    have c20 := x.all (w.heap.size + 2) 0 (.int .i64 0) (by simp <;> omega) (by simp [go_sem])
    have c21 := x.all (w.heap.size + 2) 1 (.int .i64 0) (by simp <;> omega) (by simp [go_sem])
    have f20 := x.allf (w.heap.size + 2) 0 (by simp <;> omega) (by simp [go_sem])
    have f21 := x.allf (w.heap.size + 2) 1 (by simp <;> omega) (by simp [go_sem])
    refine ((both_any _ _ _ _ _ hz _).mono ?_)
    rintro e w' h
    obtain ⟨rfl, y, rfl⟩ := h.next (x := x)
    go_wp2_with fail
    refine ((rnumber_any _ _).mono ?_)
    rintro e w' h
    obtain ⟨rfl, z, rfl⟩ := h.next (x := y)
    go_wp2_with fail
    exact bodyPost_ret (v := .tuple #[.agg #[.int .i64 1, .int .i64 (wrap64 (n + n'))], .int .i64 0]) (by simp [results, Try.results26, go_sem, *]) rfl (Ret.endSet2 (below3 _ _ _ _) (by simp <;> omega) (by simp <;> omega) _ _)
  · have hz : (k == 1 && k' == 1) = false := by simpa only [Bool.not_eq_true] using hz
    rw [ifNum_no hz, ifNum_no hz, ifNum_no hz]
    go_enter Try.func26, Try.ntmps26
    go_wp2_with fail
    refine wp_back fun x => ?_
    have c00 := x.all w.heap.size 0 (.int .i64 k) (by simp <;> omega) (by simp [go_sem])
    have c01 := x.all w.heap.size 1 (.int .i64 n) (by simp <;> omega) (by simp [go_sem])
    have c10 := x.all (w.heap.size + 1) 0 (.int .i64 k') (by simp <;> omega) (by simp [go_sem])
    have c11 := x.all (w.heap.size + 1) 1 (.int .i64 n') (by simp <;> omega) (by simp [go_sem])
    have c20 := x.all (w.heap.size + 2) 0 (.int .i64 0) (by simp <;> omega) (by simp [go_sem])
    have c21 := x.all (w.heap.size + 2) 1 (.int .i64 0) (by simp <;> omega) (by simp [go_sem])
    have f20 := x.allf (w.heap.size + 2) 0 (by simp <;> omega) (by simp [go_sem])
    have f21 := x.allf (w.heap.size + 2) 1 (by simp <;> omega) (by simp [go_sem])
    refine ((both_any _ _ _ _ _ hz _).mono ?_)
    rintro e w' h
    obtain ⟨rfl, y, rfl⟩ := h.next (x := x)
    go_wp2_with fail
    go_wp2_with fail
    exact bodyPost_ret (v := .tuple #[.agg #[.int .i64 0, .int .i64 0], .int .i64 10]) (by simp [results, Try.results26, go_sem, *]) rfl (Ret.endSet2 (below3 _ _ _ _) (by simp <;> omega) (by simp <;> omega) _ _)

theorem sub_any (k n k' n' : Int) (w : World) :
    Calls Try.prog 27 #[.agg #[.int .i64 k, .int .i64 n], .agg #[.int .i64 k', .int .i64 n']] w (Ret (.tuple #[.agg #[.int .i64 (ifNum k k' 1 0), .int .i64 (ifNum k k' (wrap64 (n - n')) 0)], .int .i64 (ifNum k k' 0 10)]) w) := by
  by_cases hz : (k == 1 && k' == 1) = true
  · rw [ifNum_yes hz, ifNum_yes hz, ifNum_yes hz]
    go_enter Try.func27, Try.ntmps27
    go_wp2_with fail
    refine wp_back fun x => ?_
    have c00 := x.all w.heap.size 0 (.int .i64 k) (by simp <;> omega) (by simp [go_sem])
    have c01 := x.all w.heap.size 1 (.int .i64 n) (by simp <;> omega) (by simp [go_sem])
    have c10 := x.all (w.heap.size + 1) 0 (.int .i64 k') (by simp <;> omega) (by simp [go_sem])
    have c11 := x.all (w.heap.size + 1) 1 (.int .i64 n') (by simp <;> omega) (by simp [go_sem])
    have c20 := x.all (w.heap.size + 2) 0 (.int .i64 0) (by simp <;> omega) (by simp [go_sem])
    have c21 := x.all (w.heap.size + 2) 1 (.int .i64 0) (by simp <;> omega) (by simp [go_sem])
    have f20 := x.allf (w.heap.size + 2) 0 (by simp <;> omega) (by simp [go_sem])
    have f21 := x.allf (w.heap.size + 2) 1 (by simp <;> omega) (by simp [go_sem])
    refine ((numbers_any _ _ _ _ _ hz _).mono ?_)
    rintro e w' h
    obtain ⟨rfl, y, rfl⟩ := h.next (x := x)
    go_wp2_with fail
    refine ((number_any _ _).mono ?_)
    rintro e w' h
    obtain ⟨rfl, z, rfl⟩ := h.next (x := y)
    go_wp2_with fail
    exact bodyPost_ret (v := .tuple #[.agg #[.int .i64 1, .int .i64 (wrap64 (n - n'))], .int .i64 0]) (by simp [results, Try.results27, go_sem, *]) rfl (Ret.endSet2 (below3 _ _ _ _) (by simp <;> omega) (by simp <;> omega) _ _)
  · have hz : (k == 1 && k' == 1) = false := by simpa only [Bool.not_eq_true] using hz
    rw [ifNum_no hz, ifNum_no hz, ifNum_no hz]
    go_enter Try.func27, Try.ntmps27
    go_wp2_with fail
    refine wp_back fun x => ?_
    have c00 := x.all w.heap.size 0 (.int .i64 k) (by simp <;> omega) (by simp [go_sem])
    have c01 := x.all w.heap.size 1 (.int .i64 n) (by simp <;> omega) (by simp [go_sem])
    have c10 := x.all (w.heap.size + 1) 0 (.int .i64 k') (by simp <;> omega) (by simp [go_sem])
    have c11 := x.all (w.heap.size + 1) 1 (.int .i64 n') (by simp <;> omega) (by simp [go_sem])
    have c20 := x.all (w.heap.size + 2) 0 (.int .i64 0) (by simp <;> omega) (by simp [go_sem])
    have c21 := x.all (w.heap.size + 2) 1 (.int .i64 0) (by simp <;> omega) (by simp [go_sem])
    have f20 := x.allf (w.heap.size + 2) 0 (by simp <;> omega) (by simp [go_sem])
    have f21 := x.allf (w.heap.size + 2) 1 (by simp <;> omega) (by simp [go_sem])
    refine ((numbers_any _ _ _ _ _ hz _).mono ?_)
    rintro e w' h
    obtain ⟨rfl, y, rfl⟩ := h.next (x := x)
    go_wp2_with fail
    go_wp2_with fail
    exact bodyPost_ret (v := .tuple #[.agg #[.int .i64 0, .int .i64 0], .int .i64 10]) (by simp [results, Try.results27, go_sem, *]) rfl (Ret.endSet2 (below3 _ _ _ _) (by simp <;> omega) (by simp <;> omega) _ _)

theorem rsub_any (k n k' n' : Int) (w : World) :
    Calls Try.prog 28 #[.agg #[.int .i64 k, .int .i64 n], .agg #[.int .i64 k', .int .i64 n']] w (Ret (.tuple #[.agg #[.int .i64 (ifNum k k' 1 0), .int .i64 (ifNum k k' (wrap64 (n - n')) 0)], .int .i64 (ifNum k k' 0 10)]) w) := by
  by_cases hz : (k == 1 && k' == 1) = true
  · rw [ifNum_yes hz, ifNum_yes hz, ifNum_yes hz]
    go_enter Try.func28, Try.ntmps28
    go_wp2_with fail
    refine wp_back fun x => ?_
    have c00 := x.all w.heap.size 0 (.int .i64 k) (by simp <;> omega) (by simp [go_sem])
    have c01 := x.all w.heap.size 1 (.int .i64 n) (by simp <;> omega) (by simp [go_sem])
    have c10 := x.all (w.heap.size + 1) 0 (.int .i64 k') (by simp <;> omega) (by simp [go_sem])
    have c11 := x.all (w.heap.size + 1) 1 (.int .i64 n') (by simp <;> omega) (by simp [go_sem])
    have c20 := x.all (w.heap.size + 2) 0 (.int .i64 0) (by simp <;> omega) (by simp [go_sem])
    have c21 := x.all (w.heap.size + 2) 1 (.int .i64 0) (by simp <;> omega) (by simp [go_sem])
    have f20 := x.allf (w.heap.size + 2) 0 (by simp <;> omega) (by simp [go_sem])
    have f21 := x.allf (w.heap.size + 2) 1 (by simp <;> omega) (by simp [go_sem])
    refine ((both_any _ _ _ _ _ hz _).mono ?_)
    rintro e w' h
    obtain ⟨rfl, y, rfl⟩ := h.next (x := x)
    go_wp2_with fail
    refine ((rnumber_any _ _).mono ?_)
    rintro e w' h
    obtain ⟨rfl, z, rfl⟩ := h.next (x := y)
    go_wp2_with fail
    exact bodyPost_ret (v := .tuple #[.agg #[.int .i64 1, .int .i64 (wrap64 (n - n'))], .int .i64 0]) (by simp [results, Try.results28, go_sem, *]) rfl (Ret.endSet2 (below3 _ _ _ _) (by simp <;> omega) (by simp <;> omega) _ _)
  · have hz : (k == 1 && k' == 1) = false := by simpa only [Bool.not_eq_true] using hz
    rw [ifNum_no hz, ifNum_no hz, ifNum_no hz]
    go_enter Try.func28, Try.ntmps28
    go_wp2_with fail
    refine wp_back fun x => ?_
    have c00 := x.all w.heap.size 0 (.int .i64 k) (by simp <;> omega) (by simp [go_sem])
    have c01 := x.all w.heap.size 1 (.int .i64 n) (by simp <;> omega) (by simp [go_sem])
    have c10 := x.all (w.heap.size + 1) 0 (.int .i64 k') (by simp <;> omega) (by simp [go_sem])
    have c11 := x.all (w.heap.size + 1) 1 (.int .i64 n') (by simp <;> omega) (by simp [go_sem])
    have c20 := x.all (w.heap.size + 2) 0 (.int .i64 0) (by simp <;> omega) (by simp [go_sem])
    have c21 := x.all (w.heap.size + 2) 1 (.int .i64 0) (by simp <;> omega) (by simp [go_sem])
    have f20 := x.allf (w.heap.size + 2) 0 (by simp <;> omega) (by simp [go_sem])
    have f21 := x.allf (w.heap.size + 2) 1 (by simp <;> omega) (by simp [go_sem])
    refine ((both_any _ _ _ _ _ hz _).mono ?_)
    rintro e w' h
    obtain ⟨rfl, y, rfl⟩ := h.next (x := x)
    go_wp2_with fail
    go_wp2_with fail
    exact bodyPost_ret (v := .tuple #[.agg #[.int .i64 0, .int .i64 0], .int .i64 10]) (by simp [results, Try.results28, go_sem, *]) rfl (Ret.endSet2 (below3 _ _ _ _) (by simp <;> omega) (by simp <;> omega) _ _)

theorem less_any (k n k' n' : Int) (w : World) :
    Calls Try.prog 29 #[.agg #[.int .i64 k, .int .i64 n], .agg #[.int .i64 k', .int .i64 n']] w (Ret (.tuple #[.agg #[.int .i64 (ifNum k k' 1 0), .int .i64 (ifNum k k' (truthI (decide (n < n'))) 0)], .int .i64 (ifNum k k' 0 10)]) w) := by
  by_cases hz : (k == 1 && k' == 1) = true
  · rw [ifNum_yes hz, ifNum_yes hz, ifNum_yes hz]
    go_enter Try.func29, Try.ntmps29
    go_wp2_with fail
    refine wp_back fun x => ?_
    have c00 := x.all w.heap.size 0 (.int .i64 k) (by simp <;> omega) (by simp [go_sem])
    have c01 := x.all w.heap.size 1 (.int .i64 n) (by simp <;> omega) (by simp [go_sem])
    have c10 := x.all (w.heap.size + 1) 0 (.int .i64 k') (by simp <;> omega) (by simp [go_sem])
    have c11 := x.all (w.heap.size + 1) 1 (.int .i64 n') (by simp <;> omega) (by simp [go_sem])
    have c20 := x.all (w.heap.size + 2) 0 (.int .i64 0) (by simp <;> omega) (by simp [go_sem])
    have c21 := x.all (w.heap.size + 2) 1 (.int .i64 0) (by simp <;> omega) (by simp [go_sem])
    have f20 := x.allf (w.heap.size + 2) 0 (by simp <;> omega) (by simp [go_sem])
    have f21 := x.allf (w.heap.size + 2) 1 (by simp <;> omega) (by simp [go_sem])
    refine ((numbers_any _ _ _ _ _ hz _).mono ?_)
    rintro e w' h
    obtain ⟨rfl, y, rfl⟩ := h.next (x := x)
    go_wp2_with fail
    refine ((truth_any _ _).mono ?_)
    rintro e w' h
    obtain ⟨rfl, z, rfl⟩ := h.next (x := y)
    go_wp2_with fail
    exact bodyPost_ret (v := .tuple #[.agg #[.int .i64 1, .int .i64 (truthI (decide (n < n')))], .int .i64 0]) (by simp [results, Try.results29, go_sem, *]) rfl (Ret.endSet2 (below3 _ _ _ _) (by simp <;> omega) (by simp <;> omega) _ _)
  · have hz : (k == 1 && k' == 1) = false := by simpa only [Bool.not_eq_true] using hz
    rw [ifNum_no hz, ifNum_no hz, ifNum_no hz]
    go_enter Try.func29, Try.ntmps29
    go_wp2_with fail
    refine wp_back fun x => ?_
    have c00 := x.all w.heap.size 0 (.int .i64 k) (by simp <;> omega) (by simp [go_sem])
    have c01 := x.all w.heap.size 1 (.int .i64 n) (by simp <;> omega) (by simp [go_sem])
    have c10 := x.all (w.heap.size + 1) 0 (.int .i64 k') (by simp <;> omega) (by simp [go_sem])
    have c11 := x.all (w.heap.size + 1) 1 (.int .i64 n') (by simp <;> omega) (by simp [go_sem])
    have c20 := x.all (w.heap.size + 2) 0 (.int .i64 0) (by simp <;> omega) (by simp [go_sem])
    have c21 := x.all (w.heap.size + 2) 1 (.int .i64 0) (by simp <;> omega) (by simp [go_sem])
    have f20 := x.allf (w.heap.size + 2) 0 (by simp <;> omega) (by simp [go_sem])
    have f21 := x.allf (w.heap.size + 2) 1 (by simp <;> omega) (by simp [go_sem])
    refine ((numbers_any _ _ _ _ _ hz _).mono ?_)
    rintro e w' h
    obtain ⟨rfl, y, rfl⟩ := h.next (x := x)
    go_wp2_with fail
    go_wp2_with fail
    exact bodyPost_ret (v := .tuple #[.agg #[.int .i64 0, .int .i64 0], .int .i64 10]) (by simp [results, Try.results29, go_sem, *]) rfl (Ret.endSet2 (below3 _ _ _ _) (by simp <;> omega) (by simp <;> omega) _ _)

theorem rless_any (k n k' n' : Int) (w : World) :
    Calls Try.prog 30 #[.agg #[.int .i64 k, .int .i64 n], .agg #[.int .i64 k', .int .i64 n']] w (Ret (.tuple #[.agg #[.int .i64 (ifNum k k' 1 0), .int .i64 (ifNum k k' (truthI (decide (n < n'))) 0)], .int .i64 (ifNum k k' 0 10)]) w) := by
  by_cases hz : (k == 1 && k' == 1) = true
  · rw [ifNum_yes hz, ifNum_yes hz, ifNum_yes hz]
    go_enter Try.func30, Try.ntmps30
    go_wp2_with fail
    refine wp_back fun x => ?_
    have c00 := x.all w.heap.size 0 (.int .i64 k) (by simp <;> omega) (by simp [go_sem])
    have c01 := x.all w.heap.size 1 (.int .i64 n) (by simp <;> omega) (by simp [go_sem])
    have c10 := x.all (w.heap.size + 1) 0 (.int .i64 k') (by simp <;> omega) (by simp [go_sem])
    have c11 := x.all (w.heap.size + 1) 1 (.int .i64 n') (by simp <;> omega) (by simp [go_sem])
    have c20 := x.all (w.heap.size + 2) 0 (.int .i64 0) (by simp <;> omega) (by simp [go_sem])
    have c21 := x.all (w.heap.size + 2) 1 (.int .i64 0) (by simp <;> omega) (by simp [go_sem])
    have f20 := x.allf (w.heap.size + 2) 0 (by simp <;> omega) (by simp [go_sem])
    have f21 := x.allf (w.heap.size + 2) 1 (by simp <;> omega) (by simp [go_sem])
    refine ((both_any _ _ _ _ _ hz _).mono ?_)
    rintro e w' h
    obtain ⟨rfl, y, rfl⟩ := h.next (x := x)
    go_wp2_with fail
    refine ((one_any _ _).mono ?_)
    rintro e w' h
    obtain ⟨rfl, z, rfl⟩ := h.next (x := y)
    go_wp2_with fail
    exact bodyPost_ret (v := .tuple #[.agg #[.int .i64 1, .int .i64 (truthI (decide (n < n')))], .int .i64 0]) (by simp [results, Try.results30, go_sem, *]) rfl (Ret.endSet2 (below3 _ _ _ _) (by simp <;> omega) (by simp <;> omega) _ _)
  · have hz : (k == 1 && k' == 1) = false := by simpa only [Bool.not_eq_true] using hz
    rw [ifNum_no hz, ifNum_no hz, ifNum_no hz]
    go_enter Try.func30, Try.ntmps30
    go_wp2_with fail
    refine wp_back fun x => ?_
    have c00 := x.all w.heap.size 0 (.int .i64 k) (by simp <;> omega) (by simp [go_sem])
    have c01 := x.all w.heap.size 1 (.int .i64 n) (by simp <;> omega) (by simp [go_sem])
    have c10 := x.all (w.heap.size + 1) 0 (.int .i64 k') (by simp <;> omega) (by simp [go_sem])
    have c11 := x.all (w.heap.size + 1) 1 (.int .i64 n') (by simp <;> omega) (by simp [go_sem])
    have c20 := x.all (w.heap.size + 2) 0 (.int .i64 0) (by simp <;> omega) (by simp [go_sem])
    have c21 := x.all (w.heap.size + 2) 1 (.int .i64 0) (by simp <;> omega) (by simp [go_sem])
    have f20 := x.allf (w.heap.size + 2) 0 (by simp <;> omega) (by simp [go_sem])
    have f21 := x.allf (w.heap.size + 2) 1 (by simp <;> omega) (by simp [go_sem])
    refine ((both_any _ _ _ _ _ hz _).mono ?_)
    rintro e w' h
    obtain ⟨rfl, y, rfl⟩ := h.next (x := x)
    go_wp2_with fail
    go_wp2_with fail
    exact bodyPost_ret (v := .tuple #[.agg #[.int .i64 0, .int .i64 0], .int .i64 10]) (by simp [results, Try.results30, go_sem, *]) rfl (Ret.endSet2 (below3 _ _ _ _) (by simp <;> omega) (by simp <;> omega) _ _)

/-- b, unless they fit. -/
def ofI (g a x y : Int) : Int := if fitsB g a then x else y
theorem ofI_yes {g a : Int} (h : fitsB g a = true) (x y : Int) : ofI g a x y = x := by simp only [ofI, h, if_true]
theorem ofI_no {g a : Int} (h : fitsB g a = false) (x y : Int) : ofI g a x y = y := by simp only [ofI, h, Bool.false_eq_true, if_false]
theorem fitsB_iff (g a : Int) : fitsB g a = true ↔ 1 ≤ g ∧ g ≤ 1073741824 ∧ 1 ≤ a ∧ a ≤ 1048575 := by simp [fitsB, and_assoc]

theorem of_any (g a : Int) (w : World) :
    Calls Try.prog 23 #[.int .i64 g, .int .i64 a] w (Ret (.tuple #[.agg #[.int .i64 (ofI g a 2 0), .int .i64 (ofI g a (g * 1048576 + a) 0)], .int .i64 (ofI g a 0 1)]) w) := by
  by_cases hz : fitsB g a = true
  · obtain ⟨h1, h2, h3, h4⟩ := (fitsB_iff g a).1 hz
    have h5 : ¬ 1048576 ≤ a := by omega
    rw [ofI_yes hz, ofI_yes hz, ofI_yes hz]
    go_enter Try.func23, Try.ntmps23
    go_wp2_with fail
    refine wp_back fun x => ?_
    have c00 := x.all w.heap.size 0 (.int .i64 0) (by simp <;> omega) (by simp [go_sem])
    have c01 := x.all w.heap.size 1 (.int .i64 0) (by simp <;> omega) (by simp [go_sem])
    have f00 := x.allf w.heap.size 0 (by simp <;> omega) (by simp [go_sem])
    have f01 := x.allf w.heap.size 1 (by simp <;> omega) (by simp [go_sem])
    refine ((fits_any _ _ _ hz _).mono ?_)
    rintro e w' h
    obtain ⟨rfl, y, rfl⟩ := h.next (x := x)
    go_wp2_with fail
    exact bodyPost_ret (v := .tuple #[.agg #[.int .i64 2, .int .i64 (g * 1048576 + a)], .int .i64 0]) (by simp [results, Try.results23, go_sem, *]) rfl (Ret.endSet2 (below1 _ _) (by simp <;> omega) (by simp <;> omega) _ _)
  · have hz : fitsB g a = false := by simpa only [Bool.not_eq_true] using hz
    rw [ofI_no hz, ofI_no hz, ofI_no hz]
    go_enter Try.func23, Try.ntmps23
    go_wp2_with fail
    refine wp_back fun x => ?_
    have c00 := x.all w.heap.size 0 (.int .i64 0) (by simp <;> omega) (by simp [go_sem])
    have c01 := x.all w.heap.size 1 (.int .i64 0) (by simp <;> omega) (by simp [go_sem])
    have f00 := x.allf w.heap.size 0 (by simp <;> omega) (by simp [go_sem])
    have f01 := x.allf w.heap.size 1 (by simp <;> omega) (by simp [go_sem])
    refine ((fits_any _ _ _ hz _).mono ?_)
    rintro e w' h
    obtain ⟨rfl, y, rfl⟩ := h.next (x := x)
    go_wp2_with fail
    exact bodyPost_ret (v := .tuple #[.agg #[.int .i64 0, .int .i64 0], .int .i64 1]) (by simp [results, Try.results23, go_sem, *]) rfl (Ret.endSet2 (below1 _ _) (by simp <;> omega) (by simp <;> omega) _ _)

theorem rof_any (g a : Int) (w : World) :
    Calls Try.prog 24 #[.int .i64 g, .int .i64 a] w (Ret (.tuple #[.agg #[.int .i64 (ofI g a 2 0), .int .i64 (ofI g a (g * 1048576 + a) 0)], .int .i64 (ofI g a 0 1)]) w) := by
  by_cases hz : fitsB g a = true
  · obtain ⟨h1, h2, h3, h4⟩ := (fitsB_iff g a).1 hz
    have h5 : ¬ 1048576 ≤ a := by omega
    rw [ofI_yes hz, ofI_yes hz, ofI_yes hz]
    go_enter Try.func24, Try.ntmps24
    go_wp2_with fail
    exact bodyPost_ret (v := .tuple #[.agg #[.int .i64 2, .int .i64 (g * 1048576 + a)], .int .i64 0]) (by simp [results, Try.results24, go_sem, *]) rfl (Ret.alloc _)
  · have hz : fitsB g a = false := by simpa only [Bool.not_eq_true] using hz
    have hn : ¬ (1 ≤ g ∧ g ≤ 1073741824 ∧ 1 ≤ a ∧ a ≤ 1048575) := by rw [← fitsB_iff, hz]; exact Bool.false_ne_true
    rw [ofI_no hz, ofI_no hz, ofI_no hz]
    clear hz
    by_cases h1 : g < 1 <;> by_cases h2 : 1073741824 < g <;> by_cases h3 : a < 1 <;> by_cases h4 : 1048576 ≤ a
    all_goals first
      | (exfalso; omega)
      | (clear hn; go_enter Try.func24, Try.ntmps24; go_wp2_with fail; exact bodyPost_ret (v := .tuple #[.agg #[.int .i64 0, .int .i64 0], .int .i64 1]) (by simp [results, Try.results24, go_sem]) rfl (Ret.alloc _))

end Val
end Go.Proofs.Ytmbigmankefedaa
