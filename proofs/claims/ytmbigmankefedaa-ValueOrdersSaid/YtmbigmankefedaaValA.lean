/- Contracts of the functions of package value, and of the document's own answers for it. -/
import Derived.Test.YtmbigmankefedaaLib
namespace Go.Proofs.Ytmbigmankefedaa
open Go.ChangeShapes Go.WideShapes Go.ChangeAt Go.RowKit
namespace Val

def fitsB (g a : Int) : Bool := decide (1 ≤ g) && decide (g ≤ 1073741824) && decide (1 ≤ a) && decide (a ≤ 1048575)
def namesB (n : Int) : Bool := decide (0 < n) && fitsB (n / 1048576) (n % 1048576)
def okB (k n : Int) : Bool := k == 1 || (k == 2 && (n == 0 || namesB n))
def refB (k n : Int) : Bool := k == 2 && okB k n
def checkI (k n : Int) : Int := if okB k n then 0 else 10
def genI (k n : Int) : Int := if k == 2 && namesB n then n / 1048576 else 0
def addrI (k n : Int) : Int := if k == 2 && namesB n then n % 1048576 else 0

theorem fits_any (g a : Int) (b : Bool) (hb : fitsB g a = b) (w : World) :
    Calls Try.prog 37 #[.int .i64 g, .int .i64 a] w (Ret (.bool b) w) := by
  subst hb
  unfold fitsB
  by_cases h1 : 1 ≤ g <;> by_cases h2 : g ≤ 1073741824 <;> by_cases h3 : 1 ≤ a <;> by_cases h4 : a ≤ 1048575
  all_goals
    go_enter Try.func37, Try.ntmps37
    go_wp2_with fail
    go_ret
    exact ⟨by simp [*], Below.refl _ _⟩

theorem names_any (n : Int) (hn : n ≤ 9223372036854775807) (b : Bool) (hb : namesB n = b) (w : World) :
    Calls Try.prog 35 #[.int .i64 n] w (Ret (.bool b) w) := by
  subst hb
  by_cases h1 : 0 < n
  · have e : namesB n = fitsB (n / 1048576) (n % 1048576) := by simp [namesB, h1]
    rw [e]
    go_enter Try.func35, Try.ntmps35
    go_wp2_with fail
    refine (fits_any _ _ _ rfl _).mono ?_
    rintro e w' ⟨rfl, hb⟩
    go_wp2_with fail
    go_ret
    exact ⟨rfl, hb⟩
  · have e : namesB n = false := by simp [namesB, h1]
    rw [e]
    go_enter Try.func35, Try.ntmps35
    go_wp2_with fail
    go_ret
    exact ⟨rfl, Below.refl _ _⟩

theorem check_any (k n : Int) (hn : n ≤ 9223372036854775807) (w : World) :
    Calls Try.prog 8 #[.agg #[.int .i64 k, .int .i64 n]] w (Ret (.int .i64 (checkI k n)) w) := by
  by_cases h2 : k = 2
  · subst h2
    by_cases h0 : n = 0
    · subst h0
      go_enter Try.func8, Try.ntmps8
      go_wp2_with fail
      go_ret
      exact ⟨by simp [checkI, okB], (Below.refl _ _).alloc (Nat.le_refl _) _⟩
    · have h0' : (n != 0) = true := by simp [h0]
      by_cases hb : namesB n = true
      · go_enter Try.func8, Try.ntmps8
        go_wp2_with fail
        refine (names_any _ hn _ hb _).mono ?_
        rintro e w' ⟨rfl, hb'⟩
        go_wp2_with fail
        go_ret
        refine ⟨by simp [checkI, okB, hb], ?_⟩
        exact ((Below.refl _ _).alloc (Nat.le_refl _) _).trans (hb'.mono (by simp))
      · have hb : namesB n = false := by simpa using hb
        go_enter Try.func8, Try.ntmps8
        go_wp2_with fail
        refine (names_any _ hn _ hb _).mono ?_
        rintro e w' ⟨rfl, hb'⟩
        go_wp2_with fail
        go_ret
        refine ⟨by simp [checkI, okB, hb, h0], ?_⟩
        exact ((Below.refl _ _).alloc (Nat.le_refl _) _).trans (hb'.mono (by simp))
  · have h2' : (k == 2) = false := by simp [h2]
    by_cases h1 : k = 1
    · subst h1
      go_enter Try.func8, Try.ntmps8
      go_wp2_with fail
      go_ret
      exact ⟨by simp [checkI, okB], (Below.refl _ _).alloc (Nat.le_refl _) _⟩
    · have h1' : (k == 1) = false := by simp [h1]
      go_enter Try.func8, Try.ntmps8
      go_wp2_with fail
      go_ret
      exact ⟨by simp [checkI, okB, h1, h2], (Below.refl _ _).alloc (Nat.le_refl _) _⟩
end Val
end Go.Proofs.Ytmbigmankefedaa
