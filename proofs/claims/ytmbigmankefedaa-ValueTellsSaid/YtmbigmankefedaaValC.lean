/- Contracts of the functions of package value, and of the document's own answers for it: the rest. -/
import Derived.Test.YtmbigmankefedaaValB
namespace Go.Proofs.Ytmbigmankefedaa
open Go.ChangeShapes Go.WideShapes Go.ChangeAt Go.RowKit
namespace Val


attribute [local go_sem ↓] run_eql_val run_neq_val

theorem okB_ref {n : Int} (h0 : ¬ n = 0) : okB 2 n = namesB n := by simp [okB, h0]
theorem namesB_iff (n : Int) : namesB n = true ↔ (1048576 ≤ n ∧ n / 1048576 ≤ 1073741824 ∧ 1 ≤ n % 1048576) := by
  simp only [namesB, fitsB, Bool.and_eq_true, decide_eq_true_eq]; omega
theorem namesB_no {n : Int} (h : ¬ (1048576 ≤ n ∧ n / 1048576 ≤ 1073741824 ∧ 1 ≤ n % 1048576)) : namesB n = false := by
  rw [← namesB_iff] at h; simpa only [Bool.not_eq_true] using h
theorem okB_other {k n : Int} (h1 : ¬ k = 1) (h2 : ¬ k = 2) : okB k n = false := by simp [okB, h1, h2]

theorem is_any (k n : Int) (hn : n ≤ 9223372036854775807) (hn' : -9223372036854775808 ≤ n) (b : Bool) (hb : okB k n = b) (w : World) :
    Calls Try.prog 9 #[.agg #[.int .i64 k, .int .i64 n]] w (Ret (.bool b) w) := by
  subst hb
  by_cases h1 : k = 1
  · subst h1
    have e : okB 1 n = true := rfl
    rw [e]
    go_enter Try.func9, Try.ntmps9
    go_wp2_with fail
    go_ret
    exact ⟨rfl, below1 _ _⟩
  · have h1' : (k == 1) = false := by simp [h1]
    by_cases h2 : k = 2
    · subst h2
      by_cases h0 : n = 0
      · subst h0
        have e : okB 2 0 = true := rfl
        rw [e]
        go_enter Try.func9, Try.ntmps9
        go_wp2_with fail
        go_ret
        exact ⟨rfl, below1 _ _⟩
      · have h0' : (n == 0) = false := by simp [h0]
        rw [okB_ref h0]
        by_cases h3 : 1048576 ≤ n
        · by_cases h4 : n / 1048576 ≤ 1073741824
          · by_cases h5 : 1 ≤ n % 1048576
            · rw [(namesB_iff n).2 ⟨h3, h4, h5⟩]
              go_enter Try.func9, Try.ntmps9
              go_wp2_with fail
              go_ret
              exact ⟨rfl, below1 _ _⟩
            · rw [namesB_no (fun h => h5 h.2.2)]
              go_enter Try.func9, Try.ntmps9
              go_wp2_with fail
              go_ret
              exact ⟨rfl, below1 _ _⟩
          · rw [namesB_no (fun h => h4 h.2.1)]
            go_enter Try.func9, Try.ntmps9
            go_wp2_with fail
            go_ret
            exact ⟨rfl, below1 _ _⟩
        · rw [namesB_no (fun h => h3 h.1)]
          go_enter Try.func9, Try.ntmps9
          go_wp2_with fail
          go_ret
          exact ⟨rfl, below1 _ _⟩
    · have h2' : (k == 2) = false := by simp [h2]
      rw [okB_other h1 h2]
      go_enter Try.func9, Try.ntmps9
      go_wp2_with fail
      go_ret
      exact ⟨rfl, below1 _ _⟩

theorem ref_yes (n : Int) (hn : n ≤ 9223372036854775807) (hn' : -9223372036854775808 ≤ n) (b : Bool) (hb : okB 2 n = b) (w : World) :
    Calls Try.prog 36 #[.agg #[.int .i64 2, .int .i64 n]] w (Ret (.bool b) w) := by
  go_enter Try.func36, Try.ntmps36
  go_wp2_with fail
  refine wp_back fun x => ?_
  refine ((is_any _ _ hn hn' b hb _).mono ?_)
  rintro e w' h
  obtain ⟨rfl, y, rfl⟩ := h.next (x := x)
  go_wp2_with fail
  go_ret
  exact Ret.end (below1 _ _)

theorem ref_no (k n : Int) (hk : ¬ k = 2) (w : World) :
    Calls Try.prog 36 #[.agg #[.int .i64 k, .int .i64 n]] w (Ret (.bool false) w) := by
  have hk' : (k == 2) = false := by simp [hk]
  go_enter Try.func36, Try.ntmps36
  go_wp2_with fail
  go_ret
  exact ⟨rfl, below1 _ _⟩

theorem genI_yes {n : Int} (h : namesB n = true) : genI 2 n = n / 1048576 := by simp [genI, h]
theorem genI_no {k n : Int} (h : (k == 2 && namesB n) = false) : genI k n = 0 := by simp only [genI, h, Bool.false_eq_true, if_false]
theorem addrI_yes {n : Int} (h : namesB n = true) : addrI 2 n = n % 1048576 := by simp [addrI, h]
theorem addrI_no {k n : Int} (h : (k == 2 && namesB n) = false) : addrI k n = 0 := by simp only [addrI, h, Bool.false_eq_true, if_false]
theorem namesB_zero : namesB 0 = false := rfl

theorem gen_any (k n : Int) (hn : n ≤ 9223372036854775807) (hn' : -9223372036854775808 ≤ n) (w : World) :
    Calls Try.prog 10 #[.agg #[.int .i64 k, .int .i64 n]] w (Ret (.int .i64 (genI k n)) w) := by
  by_cases h2 : k = 2
  · subst h2
    by_cases hb : namesB n = true
    · have h3 : 0 ≤ n := by have := (namesB_iff n).1 hb; omega
      rw [genI_yes hb]
      go_enter Try.func10, Try.ntmps10
      go_wp2_with fail
      refine wp_back fun x => ?_
      have c00 := x.all w.heap.size 0 (.int .i64 2) (by simp <;> omega) (by simp [go_sem])
      have c01 := x.all w.heap.size 1 (.int .i64 n) (by simp <;> omega) (by simp [go_sem])
      refine ((names_any _ hn _ hb _).mono ?_)
      rintro e w' h
      obtain ⟨rfl, y, rfl⟩ := h.next (x := x)
      go_wp2_with fail
      go_ret
      exact Ret.end (below1 _ _)
    · have hb : namesB n = false := by simpa only [Bool.not_eq_true] using hb
      rw [genI_no (by simp [hb])]
      go_enter Try.func10, Try.ntmps10
      go_wp2_with fail
      refine wp_back fun x => ?_
      have c00 := x.all w.heap.size 0 (.int .i64 2) (by simp <;> omega) (by simp [go_sem])
      have c01 := x.all w.heap.size 1 (.int .i64 n) (by simp <;> omega) (by simp [go_sem])
      refine ((names_any _ hn _ hb _).mono ?_)
      rintro e w' h
      obtain ⟨rfl, y, rfl⟩ := h.next (x := x)
      go_wp2_with fail
      go_ret
      exact Ret.end (below1 _ _)
  · have h2' : (k != 2) = true := by simp [h2]
    rw [genI_no (by simp [h2])]
    go_enter Try.func10, Try.ntmps10
    go_wp2_with fail
    go_ret
    exact ⟨rfl, below1 _ _⟩

theorem rgen_any (k n : Int) (hn : n ≤ 9223372036854775807) (hn' : -9223372036854775808 ≤ n) (w : World) :
    Calls Try.prog 11 #[.agg #[.int .i64 k, .int .i64 n]] w (Ret (.int .i64 (genI k n)) w) := by
  by_cases h2 : k = 2
  · subst h2
    by_cases h0 : n = 0
    · subst h0
      rw [genI_no (by simp [namesB_zero])]
      go_enter Try.func11, Try.ntmps11
      go_wp2_with fail
      refine wp_back fun x => ?_
      have c00 := x.all w.heap.size 0 (.int .i64 2) (by simp <;> omega) (by simp [go_sem])
      have c01 := x.all w.heap.size 1 (.int .i64 0) (by simp <;> omega) (by simp [go_sem])
      refine ((ref_yes 0 (by omega) (by omega) true rfl _).mono ?_)
      rintro e w' h
      obtain ⟨rfl, y, rfl⟩ := h.next (x := x)
      go_wp2_with fail
      go_ret
      exact Ret.end (below1 _ _)
    · by_cases hb : namesB n = true
      · have h3 : 0 ≤ n := by have := (namesB_iff n).1 hb; omega
        rw [genI_yes hb]
        go_enter Try.func11, Try.ntmps11
        go_wp2_with fail
        refine wp_back fun x => ?_
        have c00 := x.all w.heap.size 0 (.int .i64 2) (by simp <;> omega) (by simp [go_sem])
        have c01 := x.all w.heap.size 1 (.int .i64 n) (by simp <;> omega) (by simp [go_sem])
        refine ((ref_yes n hn hn' true ((okB_ref h0).trans hb) _).mono ?_)
        rintro e w' h
        obtain ⟨rfl, y, rfl⟩ := h.next (x := x)
        go_wp2_with fail
        go_ret
        exact Ret.end (below1 _ _)
      · have hb : namesB n = false := by simpa only [Bool.not_eq_true] using hb
        rw [genI_no (by simp [hb])]
        go_enter Try.func11, Try.ntmps11
        go_wp2_with fail
        refine wp_back fun x => ?_
        have c00 := x.all w.heap.size 0 (.int .i64 2) (by simp <;> omega) (by simp [go_sem])
        have c01 := x.all w.heap.size 1 (.int .i64 n) (by simp <;> omega) (by simp [go_sem])
        refine ((ref_yes n hn hn' false ((okB_ref h0).trans hb) _).mono ?_)
        rintro e w' h
        obtain ⟨rfl, y, rfl⟩ := h.next (x := x)
        go_wp2_with fail
        go_ret
        exact Ret.end (below1 _ _)
  · rw [genI_no (by simp [h2])]
    go_enter Try.func11, Try.ntmps11
    go_wp2_with fail
    refine wp_back fun x => ?_
    refine ((ref_no k n h2 _).mono ?_)
    rintro e w' h
    obtain ⟨rfl, y, rfl⟩ := h.next (x := x)
    go_wp2_with fail
    go_ret
    exact Ret.end (below1 _ _)

theorem addr_any (k n : Int) (hn : n ≤ 9223372036854775807) (hn' : -9223372036854775808 ≤ n) (w : World) :
    Calls Try.prog 12 #[.agg #[.int .i64 k, .int .i64 n]] w (Ret (.int .i64 (addrI k n)) w) := by
  by_cases h2 : k = 2
  · subst h2
    by_cases hb : namesB n = true
    · have h3 : 0 ≤ n := by have := (namesB_iff n).1 hb; omega
      rw [addrI_yes hb]
      go_enter Try.func12, Try.ntmps12
      go_wp2_with fail
      refine wp_back fun x => ?_
      have c00 := x.all w.heap.size 0 (.int .i64 2) (by simp <;> omega) (by simp [go_sem])
      have c01 := x.all w.heap.size 1 (.int .i64 n) (by simp <;> omega) (by simp [go_sem])
      refine ((names_any _ hn _ hb _).mono ?_)
      rintro e w' h
      obtain ⟨rfl, y, rfl⟩ := h.next (x := x)
      go_wp2_with fail
      go_ret
      exact Ret.end (below1 _ _)
    · have hb : namesB n = false := by simpa only [Bool.not_eq_true] using hb
      rw [addrI_no (by simp [hb])]
      go_enter Try.func12, Try.ntmps12
      go_wp2_with fail
      refine wp_back fun x => ?_
      have c00 := x.all w.heap.size 0 (.int .i64 2) (by simp <;> omega) (by simp [go_sem])
      have c01 := x.all w.heap.size 1 (.int .i64 n) (by simp <;> omega) (by simp [go_sem])
      refine ((names_any _ hn _ hb _).mono ?_)
      rintro e w' h
      obtain ⟨rfl, y, rfl⟩ := h.next (x := x)
      go_wp2_with fail
      go_ret
      exact Ret.end (below1 _ _)
  · have h2' : (k != 2) = true := by simp [h2]
    rw [addrI_no (by simp [h2])]
    go_enter Try.func12, Try.ntmps12
    go_wp2_with fail
    go_ret
    exact ⟨rfl, below1 _ _⟩

theorem raddr_any (k n : Int) (hn : n ≤ 9223372036854775807) (hn' : -9223372036854775808 ≤ n) (w : World) :
    Calls Try.prog 13 #[.agg #[.int .i64 k, .int .i64 n]] w (Ret (.int .i64 (addrI k n)) w) := by
  by_cases h2 : k = 2
  · subst h2
    by_cases h0 : n = 0
    · subst h0
      rw [addrI_no (by simp [namesB_zero])]
      go_enter Try.func13, Try.ntmps13
      go_wp2_with fail
      refine wp_back fun x => ?_
      have c00 := x.all w.heap.size 0 (.int .i64 2) (by simp <;> omega) (by simp [go_sem])
      have c01 := x.all w.heap.size 1 (.int .i64 0) (by simp <;> omega) (by simp [go_sem])
      refine ((ref_yes 0 (by omega) (by omega) true rfl _).mono ?_)
      rintro e w' h
      obtain ⟨rfl, y, rfl⟩ := h.next (x := x)
      go_wp2_with fail
      go_ret
      exact Ret.end (below1 _ _)
    · by_cases hb : namesB n = true
      · have h3 : 0 ≤ n := by have := (namesB_iff n).1 hb; omega
        rw [addrI_yes hb]
        go_enter Try.func13, Try.ntmps13
        go_wp2_with fail
        refine wp_back fun x => ?_
        have c00 := x.all w.heap.size 0 (.int .i64 2) (by simp <;> omega) (by simp [go_sem])
        have c01 := x.all w.heap.size 1 (.int .i64 n) (by simp <;> omega) (by simp [go_sem])
        refine ((ref_yes n hn hn' true ((okB_ref h0).trans hb) _).mono ?_)
        rintro e w' h
        obtain ⟨rfl, y, rfl⟩ := h.next (x := x)
        go_wp2_with fail
        go_ret
        exact Ret.end (below1 _ _)
      · have hb : namesB n = false := by simpa only [Bool.not_eq_true] using hb
        rw [addrI_no (by simp [hb])]
        go_enter Try.func13, Try.ntmps13
        go_wp2_with fail
        refine wp_back fun x => ?_
        have c00 := x.all w.heap.size 0 (.int .i64 2) (by simp <;> omega) (by simp [go_sem])
        have c01 := x.all w.heap.size 1 (.int .i64 n) (by simp <;> omega) (by simp [go_sem])
        refine ((ref_yes n hn hn' false ((okB_ref h0).trans hb) _).mono ?_)
        rintro e w' h
        obtain ⟨rfl, y, rfl⟩ := h.next (x := x)
        go_wp2_with fail
        go_ret
        exact Ret.end (below1 _ _)
  · rw [addrI_no (by simp [h2])]
    go_enter Try.func13, Try.ntmps13
    go_wp2_with fail
    refine wp_back fun x => ?_
    refine ((ref_no k n h2 _).mono ?_)
    rintro e w' h
    obtain ⟨rfl, y, rfl⟩ := h.next (x := x)
    go_wp2_with fail
    go_ret
    exact Ret.end (below1 _ _)

end Val
end Go.Proofs.Ytmbigmankefedaa
