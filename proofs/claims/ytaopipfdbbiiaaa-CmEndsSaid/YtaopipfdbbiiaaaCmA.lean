/- Contracts of package cm, and CmTells, CmEnds. -/
import Derived.Test.YtaopipfdbbiiaaaFrame
import Derived.Test.YtaopipfdbbiiaaaSlices
namespace Go.Proofs.Ytaopipfdbbiiaaa
open Go.ChangeShapes Go.WideShapes Go.ChangeAt Go.RowKit
namespace Cm


def chk (m t : Int) : Bool := decide (m = 1) || (decide (m = 2) && (decide (1 ≤ t) && decide (t ≤ 1000)))
def chkI (m t : Int) : Int := if chk m t then 0 else 90
/-- What a manager says. -/
def dec (m a b : Int) (f : Bool) (d t : Int) : Int := if (decide (m = 1) && f) || (decide (m = 2) && decide (d < t)) then 1 else if decide (m = 1) && decide (a < b) then 2 else 3

theorem check_any (m t : Int) (w : World) : Calls Try.prog 7 #[.int .i64 m, .int .i64 t] w (Ret (.int .i64 (chkI m t)) w) := by
  by_cases h1 : m = 1
  · subst h1
    have e : chkI 1 t = 0 := by simp [chkI, chk]
    rw [e]
    go_enter Try.func7, Try.ntmps7
    go_wp2_with fail
    go_ret
    exact Ret.of (Below.refl _ _)
  by_cases h2 : m = 2
  · subst h2
    by_cases h3 : t < 1
    · have e : chkI 2 t = 90 := by simp [chkI, chk]; omega
      rw [e]
      go_enter Try.func7, Try.ntmps7
      go_wp2_with fail
      go_ret
      exact Ret.of (Below.refl _ _)
    by_cases h4 : 1000 < t
    · have e : chkI 2 t = 90 := by simp [chkI, chk]; omega
      rw [e]
      go_enter Try.func7, Try.ntmps7
      go_wp2_with fail
      all_goals (first | (exfalso; omega) | (go_ret; exact Ret.of (Below.refl _ _)))
    have e : chkI 2 t = 0 := by simp [chkI, chk]; omega
    rw [e]
    go_enter Try.func7, Try.ntmps7
    go_wp2_with fail
    all_goals (first | (exfalso; omega) | (go_ret; exact Ret.of (Below.refl _ _)))
  have e : chkI m t = 90 := by simp [chkI, chk]; omega
  rw [e]
  go_enter Try.func7, Try.ntmps7
  go_wp2_with fail
  go_ret
  exact Ret.of (Below.refl _ _)
theorem rcheck_any (m t : Int) (w : World) : Calls Try.prog 8 #[.int .i64 m, .int .i64 t] w (Ret (.int .i64 (chkI m t)) w) := by
  by_cases h1 : m = 1
  · subst h1
    have e : chkI 1 t = 0 := by simp [chkI, chk]
    rw [e]
    go_enter Try.func8, Try.ntmps8
    go_wp2_with fail
    go_ret
    exact Ret.of (Below.refl _ _)
  by_cases h2 : m = 2
  · subst h2
    by_cases h3 : t < 1
    · have e : chkI 2 t = 90 := by simp [chkI, chk]; omega
      rw [e]
      go_enter Try.func8, Try.ntmps8
      go_wp2_with fail
      go_ret
      exact Ret.of (Below.refl _ _)
    by_cases h4 : 1000 < t
    · have e : chkI 2 t = 90 := by simp [chkI, chk]; omega
      rw [e]
      go_enter Try.func8, Try.ntmps8
      go_wp2_with fail
      all_goals (first | (exfalso; omega) | (go_ret; exact Ret.of (Below.refl _ _)))
    have e : chkI 2 t = 0 := by simp [chkI, chk]; omega
    rw [e]
    go_enter Try.func8, Try.ntmps8
    go_wp2_with fail
    all_goals (first | (exfalso; omega) | (go_ret; exact Ret.of (Below.refl _ _)))
  have e : chkI m t = 90 := by simp [chkI, chk]; omega
  rw [e]
  go_enter Try.func8, Try.ntmps8
  go_wp2_with fail
  go_ret
  exact Ret.of (Below.refl _ _)

theorem decide_any (m a b : Int) (f : Bool) (d t : Int) (w : World) : Calls Try.prog 9 #[.int .i64 m, .int .i64 a, .int .i64 b, .bool f, .int .i64 d, .int .i64 t] w (Ret (.int .i64 (dec m a b f d t)) w) := by
  by_cases h1 : m = 1
  · subst h1
    cases f
    · by_cases h3 : a < b
      · have e : dec 1 a b false d t = 2 := by simp [dec, h3]
        rw [e]
        go_enter Try.func9, Try.ntmps9
        go_wp2_with fail
        go_ret
        exact Ret.of (Below.refl _ _)
      · have e : dec 1 a b false d t = 3 := by simp [dec]; omega
        rw [e]
        go_enter Try.func9, Try.ntmps9
        go_wp2_with fail
        go_ret
        exact Ret.of (Below.refl _ _)
    · have e : dec 1 a b true d t = 1 := by simp [dec]
      rw [e]
      go_enter Try.func9, Try.ntmps9
      go_wp2_with fail
      go_ret
      exact Ret.of (Below.refl _ _)
  by_cases h2 : m = 2
  · subst h2
    by_cases h3 : d < t
    · have e : dec 2 a b f d t = 1 := by simp [dec, h3]
      rw [e]
      go_enter Try.func9, Try.ntmps9
      go_wp2_with fail
      go_ret
      exact Ret.of (Below.refl _ _)
    · have e : dec 2 a b f d t = 3 := by simp [dec]; omega
      rw [e]
      go_enter Try.func9, Try.ntmps9
      go_wp2_with fail
      go_ret
      exact Ret.of (Below.refl _ _)
  have e : dec m a b f d t = 3 := by simp [dec, h1, h2]
  rw [e]
  go_enter Try.func9, Try.ntmps9
  go_wp2_with fail
  go_ret
  exact Ret.of (Below.refl _ _)

theorem rdecide_any (m a b : Int) (f : Bool) (d t : Int) (w : World) : Calls Try.prog 10 #[.int .i64 m, .int .i64 a, .int .i64 b, .bool f, .int .i64 d, .int .i64 t] w (Ret (.int .i64 (dec m a b f d t)) w) := by
  by_cases h1 : m = 1
  · subst h1
    cases f
    · by_cases h3 : a < b
      · have e : dec 1 a b false d t = 2 := by simp [dec, h3]
        rw [e]
        go_enter Try.func10, Try.ntmps10
        go_wp2_with fail
        go_ret
        exact Ret.of (Below.refl _ _)
      · have e : dec 1 a b false d t = 3 := by simp [dec]; omega
        rw [e]
        go_enter Try.func10, Try.ntmps10
        go_wp2_with fail
        go_ret
        exact Ret.of (Below.refl _ _)
    · have e : dec 1 a b true d t = 1 := by simp [dec]
      rw [e]
      go_enter Try.func10, Try.ntmps10
      go_wp2_with fail
      go_ret
      exact Ret.of (Below.refl _ _)
  by_cases h2 : m = 2
  · subst h2
    by_cases h3 : d < t
    · have e : dec 2 a b f d t = 1 := by simp [dec, h3]
      rw [e]
      go_enter Try.func10, Try.ntmps10
      go_wp2_with fail
      go_ret
      exact Ret.of (Below.refl _ _)
    · have e : dec 2 a b f d t = 3 := by simp [dec]; omega
      rw [e]
      go_enter Try.func10, Try.ntmps10
      go_wp2_with fail
      go_ret
      exact Ret.of (Below.refl _ _)
  have e : dec m a b f d t = 3 := by simp [dec, h1, h2]
  rw [e]
  go_enter Try.func10, Try.ntmps10
  go_wp2_with fail
  go_ret
  exact Ret.of (Below.refl _ _)

theorem decide_c (m a b : Int) (f : Bool) (d t v : Int) (h : dec m a b f d t = v) (w : World) : Calls Try.prog 9 #[.int .i64 m, .int .i64 a, .int .i64 b, .bool f, .int .i64 d, .int .i64 t] w (Ret (.int .i64 v) w) := by
  subst h
  exact decide_any m a b f d t w
theorem check_c (m t v : Int) (h : chkI m t = v) (w : World) : Calls Try.prog 7 #[.int .i64 m, .int .i64 t] w (Ret (.int .i64 v) w) := by
  subst h
  exact check_any m t w

theorem awake_any (w : World) : Calls Try.prog 11 #[] w (Ret (.bool true) w) := by
  have hB := Below.refl w.heap.size w
  go_enter Try.func11, Try.ntmps11
  go_wp2_with fail
  refine (decide_c 1 3 5 false 0 0 2 (by decide) _).mono ?_
  rintro e w' ⟨rfl, hb⟩
  replace hB := hB.trans (hb.mono hB.size)
  clear hb
  go_wp2_with fail
  refine (decide_c 1 5 3 false 0 0 3 (by decide) _).mono ?_
  rintro e w' ⟨rfl, hb⟩
  replace hB := hB.trans (hb.mono hB.size)
  clear hb
  go_wp2_with fail
  refine (check_c 1 0 0 (by decide) _).mono ?_
  rintro e w' ⟨rfl, hb⟩
  replace hB := hB.trans (hb.mono hB.size)
  clear hb
  go_wp2_with fail
  refine (check_c 0 0 90 (by decide) _).mono ?_
  rintro e w' ⟨rfl, hb⟩
  replace hB := hB.trans (hb.mono hB.size)
  clear hb
  go_wp2_with fail
  refine (decide_c 2 0 0 true 2 3 1 (by decide) _).mono ?_
  rintro e w' ⟨rfl, hb⟩
  replace hB := hB.trans (hb.mono hB.size)
  clear hb
  go_wp2_with fail
  go_ret
  exact Ret.of hB

theorem tells_walk (m a b : Int) (f : Bool) (d t : Int) (w : World) : Calls Try.prog 3 #[.int .i64 m, .int .i64 a, .int .i64 b, .bool f, .int .i64 d, .int .i64 t] w (Ret (.bool true) w) := by
  have hB := Below.refl w.heap.size w
  go_enter Try.func3, Try.ntmps3
  go_wp2_with fail
  refine (check_any m t _).mono ?_
  rintro e w' ⟨rfl, hb⟩
  replace hB := hB.trans (hb.mono hB.size)
  clear hb
  go_wp2_with fail
  refine (rcheck_any m t _).mono ?_
  rintro e w' ⟨rfl, hb⟩
  replace hB := hB.trans (hb.mono hB.size)
  clear hb
  go_wp2_with fail
  refine (decide_any m a b f d t _).mono ?_
  rintro e w' ⟨rfl, hb⟩
  replace hB := hB.trans (hb.mono hB.size)
  clear hb
  go_wp2_with fail
  refine (rdecide_any m a b f d t _).mono ?_
  rintro e w' ⟨rfl, hb⟩
  replace hB := hB.trans (hb.mono hB.size)
  clear hb
  go_wp2_with fail
  refine (awake_any _).mono ?_
  rintro e w' ⟨rfl, hb⟩
  replace hB := hB.trans (hb.mono hB.size)
  clear hb
  go_wp2_with fail
  go_ret
  exact Ret.of hB

end Cm
end Go.Proofs.Ytaopipfdbbiiaaa
