/- Paths of a law, by the runner. -/
import Derived.Test.YtnjfdjajlcfooaaRgDp1
import Derived.Test.YtnjfdjajlcfooaaRgDp2
import Derived.Test.YtnjfdjajlcfooaaRgDp3
import Derived.Test.YtnjfdjajlcfooaaRgDp4
namespace Go.Proofs.Ytnjfdjajlcfooaa
open Go.ChangeShapes Go.WideShapes Go.ChangeAt Go.RowKit
namespace Ev
set_option maxRecDepth 100000
theorem op1 (k0 : Int) (n0 : Int) (k1 : Int) (n1 : Int) (k2 : Int) (n2 : Int) (k3 : Int) (n3 : Int) (k4 : Int) (n4 : Int) (k5 : Int) (n5 : Int) (k6 : Int) (n6 : Int) (k7 : Int) (n7 : Int) (pc : Int) (a : Int) (b : Int) (c : Int) (rk : Int) (rn : Int)  (w : World) : Calls Try.prog 3 (dArgs k0 n0 k1 n1 k2 n2 k3 n3 k4 n4 k5 n5 k6 n6 k7 n7 pc 1 a b c rk rn) w (Ret (.bool true) w) := by
  by_cases g0 : (0 : Int) ≤ a
  · skip
    by_cases g1 : a ≤ 7
    · skip
      by_cases g2 : ((-1099511627776) : Int) ≤ b
      · skip
        by_cases g3 : b ≤ 1099511627776
        · skip
          by_cases g4 : (0 : Int) ≤ c
          · skip
            by_cases g5 : c ≤ 0
            · skip
              obtain rfl : c = 0 := by omega
              by_cases g6 : pc < 0
              · skip
                exact op1_0 k0 n0 k1 n1 k2 n2 k3 n3 k4 n4 k5 n5 k6 n6 k7 n7 pc a b rk rn (decide_eq_true (by omega)) (decide_eq_true (by omega)) (decide_eq_true (by omega)) (decide_eq_true (by omega)) (decide_eq_true (by omega)) (decide_eq_true (by omega)) (decide_eq_true (by omega)) (decide_eq_true (by omega)) w
              · skip
                by_cases g7 : pc ≥ 512
                · skip
                  exact op1_1 k0 n0 k1 n1 k2 n2 k3 n3 k4 n4 k5 n5 k6 n6 k7 n7 pc a b rk rn (decide_eq_true (by omega)) (decide_eq_true (by omega)) (decide_eq_true (by omega)) (decide_eq_true (by omega)) (decide_eq_false (by omega)) (decide_eq_true (by omega)) (decide_eq_true (by omega)) (decide_eq_true (by omega)) (decide_eq_true (by omega)) (decide_eq_true (by omega)) w
                · skip
                  exact op1_2 k0 n0 k1 n1 k2 n2 k3 n3 k4 n4 k5 n5 k6 n6 k7 n7 pc a b rk rn (decide_eq_true (by omega)) (decide_eq_true (by omega)) (decide_eq_true (by omega)) (decide_eq_true (by omega)) (decide_eq_false (by omega)) (decide_eq_false (by omega)) (decide_eq_true (by omega)) (decide_eq_true (by omega)) (decide_eq_true (by omega)) (decide_eq_false (by omega)) (beq_iff_eq.2 (by first | rfl | omega | (simp only [IntKind.wrap_i64]; omega) | (rw [Int.tmod_eq_emod_of_nonneg (by omega)] <;> omega) | (rw [Int.tdiv_eq_ediv_of_nonneg (by omega)] <;> (try simp only [IntKind.wrap_i64]) <;> omega))) w
            · skip
              exact op1_3 k0 n0 k1 n1 k2 n2 k3 n3 k4 n4 k5 n5 k6 n6 k7 n7 pc a b c rk rn (decide_eq_true (by omega)) (decide_eq_true (by omega)) (decide_eq_true (by omega)) (decide_eq_true (by omega)) (decide_eq_true (by omega)) (decide_eq_false (by omega)) (decide_eq_true (by omega)) (decide_eq_true (by omega)) (decide_eq_true (by omega)) (beq_eq_false_iff_ne.2 (by omega)) w
          · skip
            exact op1_4 k0 n0 k1 n1 k2 n2 k3 n3 k4 n4 k5 n5 k6 n6 k7 n7 pc a b c rk rn (decide_eq_true (by omega)) (decide_eq_true (by omega)) (decide_eq_true (by omega)) (decide_eq_true (by omega)) (decide_eq_false (by omega)) (decide_eq_true (by omega)) (decide_eq_true (by omega)) (decide_eq_true (by omega)) (beq_eq_false_iff_ne.2 (by omega)) w
        · skip
          exact op1_5 k0 n0 k1 n1 k2 n2 k3 n3 k4 n4 k5 n5 k6 n6 k7 n7 pc a b c rk rn (decide_eq_true (by omega)) (decide_eq_true (by omega)) (decide_eq_true (by omega)) (decide_eq_false (by omega)) (decide_eq_true (by omega)) (decide_eq_true (by omega)) (decide_eq_true (by omega)) w
      · skip
        exact op1_6 k0 n0 k1 n1 k2 n2 k3 n3 k4 n4 k5 n5 k6 n6 k7 n7 pc a b c rk rn (decide_eq_true (by omega)) (decide_eq_true (by omega)) (decide_eq_false (by omega)) (decide_eq_true (by omega)) (decide_eq_true (by omega)) (decide_eq_false (by omega)) w
    · skip
      exact op1_7 k0 n0 k1 n1 k2 n2 k3 n3 k4 n4 k5 n5 k6 n6 k7 n7 pc a b c rk rn (decide_eq_true (by omega)) (decide_eq_false (by omega)) (decide_eq_true (by omega)) (decide_eq_false (by omega)) w
  · skip
    exact op1_8 k0 n0 k1 n1 k2 n2 k3 n3 k4 n4 k5 n5 k6 n6 k7 n7 pc a b c rk rn (decide_eq_false (by omega)) (decide_eq_false (by omega)) w
theorem op2 (k0 : Int) (n0 : Int) (k1 : Int) (n1 : Int) (k2 : Int) (n2 : Int) (k3 : Int) (n3 : Int) (k4 : Int) (n4 : Int) (k5 : Int) (n5 : Int) (k6 : Int) (n6 : Int) (k7 : Int) (n7 : Int) (pc : Int) (a : Int) (b : Int) (c : Int) (rk : Int) (rn : Int)  (w : World) : Calls Try.prog 3 (dArgs k0 n0 k1 n1 k2 n2 k3 n3 k4 n4 k5 n5 k6 n6 k7 n7 pc 2 a b c rk rn) w (Ret (.bool true) w) := by
  by_cases g0 : (0 : Int) ≤ a
  · skip
    by_cases g1 : a ≤ 7
    · skip
      by_cases g2 : (0 : Int) ≤ b
      · skip
        by_cases g3 : b ≤ 0
        · skip
          obtain rfl : b = 0 := by omega
          by_cases g4 : (0 : Int) ≤ c
          · skip
            by_cases g5 : c ≤ 0
            · skip
              obtain rfl : c = 0 := by omega
              by_cases g6 : pc < 0
              · skip
                exact op2_0 k0 n0 k1 n1 k2 n2 k3 n3 k4 n4 k5 n5 k6 n6 k7 n7 pc a rk rn (decide_eq_true (by omega)) (decide_eq_true (by omega)) (decide_eq_true (by omega)) (decide_eq_true (by omega)) (decide_eq_true (by omega)) w
              · skip
                by_cases g7 : pc ≥ 512
                · skip
                  exact op2_1 k0 n0 k1 n1 k2 n2 k3 n3 k4 n4 k5 n5 k6 n6 k7 n7 pc a rk rn (decide_eq_true (by omega)) (decide_eq_true (by omega)) (decide_eq_false (by omega)) (decide_eq_true (by omega)) (decide_eq_true (by omega)) (decide_eq_true (by omega)) (decide_eq_true (by omega)) w
                · skip
                  exact op2_2 k0 n0 k1 n1 k2 n2 k3 n3 k4 n4 k5 n5 k6 n6 k7 n7 pc a rk rn (decide_eq_true (by omega)) (decide_eq_true (by omega)) (decide_eq_false (by omega)) (decide_eq_false (by omega)) (decide_eq_true (by omega)) (decide_eq_true (by omega)) (decide_eq_false (by omega)) (beq_iff_eq.2 (by first | rfl | omega | (simp only [IntKind.wrap_i64]; omega) | (rw [Int.tmod_eq_emod_of_nonneg (by omega)] <;> omega) | (rw [Int.tdiv_eq_ediv_of_nonneg (by omega)] <;> (try simp only [IntKind.wrap_i64]) <;> omega))) w
            · skip
              exact op2_3 k0 n0 k1 n1 k2 n2 k3 n3 k4 n4 k5 n5 k6 n6 k7 n7 pc a c rk rn (decide_eq_true (by omega)) (decide_eq_true (by omega)) (decide_eq_true (by omega)) (decide_eq_false (by omega)) (decide_eq_true (by omega)) (decide_eq_true (by omega)) (beq_eq_false_iff_ne.2 (by omega)) w
          · skip
            exact op2_4 k0 n0 k1 n1 k2 n2 k3 n3 k4 n4 k5 n5 k6 n6 k7 n7 pc a c rk rn (decide_eq_true (by omega)) (decide_eq_true (by omega)) (decide_eq_false (by omega)) (decide_eq_true (by omega)) (decide_eq_true (by omega)) (beq_eq_false_iff_ne.2 (by omega)) w
        · skip
          exact op2_5 k0 n0 k1 n1 k2 n2 k3 n3 k4 n4 k5 n5 k6 n6 k7 n7 pc a b c rk rn (decide_eq_true (by omega)) (decide_eq_true (by omega)) (decide_eq_true (by omega)) (decide_eq_false (by omega)) (decide_eq_true (by omega)) (decide_eq_true (by omega)) (beq_eq_false_iff_ne.2 (by omega)) w
      · skip
        exact op2_6 k0 n0 k1 n1 k2 n2 k3 n3 k4 n4 k5 n5 k6 n6 k7 n7 pc a b c rk rn (decide_eq_true (by omega)) (decide_eq_true (by omega)) (decide_eq_false (by omega)) (decide_eq_true (by omega)) (decide_eq_true (by omega)) (beq_eq_false_iff_ne.2 (by omega)) w
    · skip
      exact op2_7 k0 n0 k1 n1 k2 n2 k3 n3 k4 n4 k5 n5 k6 n6 k7 n7 pc a b c rk rn (decide_eq_true (by omega)) (decide_eq_false (by omega)) (decide_eq_true (by omega)) (decide_eq_false (by omega)) w
  · skip
    exact op2_8 k0 n0 k1 n1 k2 n2 k3 n3 k4 n4 k5 n5 k6 n6 k7 n7 pc a b c rk rn (decide_eq_false (by omega)) (decide_eq_false (by omega)) w
theorem op3 (k0 : Int) (n0 : Int) (k1 : Int) (n1 : Int) (k2 : Int) (n2 : Int) (k3 : Int) (n3 : Int) (k4 : Int) (n4 : Int) (k5 : Int) (n5 : Int) (k6 : Int) (n6 : Int) (k7 : Int) (n7 : Int) (pc : Int) (a : Int) (b : Int) (c : Int) (rk : Int) (rn : Int)  (w : World) : Calls Try.prog 3 (dArgs k0 n0 k1 n1 k2 n2 k3 n3 k4 n4 k5 n5 k6 n6 k7 n7 pc 3 a b c rk rn) w (Ret (.bool true) w) := by
  by_cases g0 : (0 : Int) ≤ a
  · skip
    by_cases g1 : a ≤ 7
    · skip
      by_cases g2 : (0 : Int) ≤ b
      · skip
        by_cases g3 : b ≤ 7
        · skip
          by_cases g4 : (0 : Int) ≤ c
          · skip
            by_cases g5 : c ≤ 0
            · skip
              obtain rfl : c = 0 := by omega
              by_cases g6 : pc < 0
              · skip
                exact op3_0 k0 n0 k1 n1 k2 n2 k3 n3 k4 n4 k5 n5 k6 n6 k7 n7 pc a b rk rn (decide_eq_true (by omega)) (decide_eq_true (by omega)) (decide_eq_true (by omega)) (decide_eq_true (by omega)) (decide_eq_true (by omega)) (decide_eq_true (by omega)) (decide_eq_true (by omega)) (decide_eq_true (by omega)) (decide_eq_true (by omega)) w
              · skip
                by_cases g7 : pc ≥ 512
                · skip
                  exact op3_1 k0 n0 k1 n1 k2 n2 k3 n3 k4 n4 k5 n5 k6 n6 k7 n7 pc a b rk rn (decide_eq_true (by omega)) (decide_eq_true (by omega)) (decide_eq_true (by omega)) (decide_eq_true (by omega)) (decide_eq_false (by omega)) (decide_eq_true (by omega)) (decide_eq_true (by omega)) (decide_eq_true (by omega)) (decide_eq_true (by omega)) (decide_eq_true (by omega)) (decide_eq_true (by omega)) w
                · skip
                  exact op3_2 k0 n0 k1 n1 k2 n2 k3 n3 k4 n4 k5 n5 k6 n6 k7 n7 pc a b rk rn (decide_eq_true (by omega)) (decide_eq_true (by omega)) (decide_eq_true (by omega)) (decide_eq_true (by omega)) (decide_eq_false (by omega)) (decide_eq_false (by omega)) (beq_iff_eq.2 (idx_eq (by omega))) (blt_of (by omega)) (row8g _ (by omega) _ _ _ _ _ _ _ _ _ _ _ _ _ _ _ _ _ _ (by omega) (by omega)) (decide_eq_true (by omega)) (decide_eq_true (by omega)) (decide_eq_true (by omega)) (decide_eq_true (by omega)) (decide_eq_false (by omega)) (beq_iff_eq.2 (by first | rfl | omega | (simp only [IntKind.wrap_i64]; omega) | (rw [Int.tmod_eq_emod_of_nonneg (by omega)] <;> omega) | (rw [Int.tdiv_eq_ediv_of_nonneg (by omega)] <;> (try simp only [IntKind.wrap_i64]) <;> omega))) w
            · skip
              exact op3_3 k0 n0 k1 n1 k2 n2 k3 n3 k4 n4 k5 n5 k6 n6 k7 n7 pc a b c rk rn (decide_eq_true (by omega)) (decide_eq_true (by omega)) (decide_eq_true (by omega)) (decide_eq_true (by omega)) (decide_eq_true (by omega)) (decide_eq_false (by omega)) (decide_eq_true (by omega)) (decide_eq_true (by omega)) (decide_eq_true (by omega)) (decide_eq_true (by omega)) (beq_eq_false_iff_ne.2 (by omega)) w
          · skip
            exact op3_4 k0 n0 k1 n1 k2 n2 k3 n3 k4 n4 k5 n5 k6 n6 k7 n7 pc a b c rk rn (decide_eq_true (by omega)) (decide_eq_true (by omega)) (decide_eq_true (by omega)) (decide_eq_true (by omega)) (decide_eq_false (by omega)) (decide_eq_true (by omega)) (decide_eq_true (by omega)) (decide_eq_true (by omega)) (decide_eq_true (by omega)) (beq_eq_false_iff_ne.2 (by omega)) w
        · skip
          exact op3_5 k0 n0 k1 n1 k2 n2 k3 n3 k4 n4 k5 n5 k6 n6 k7 n7 pc a b c rk rn (decide_eq_true (by omega)) (decide_eq_true (by omega)) (decide_eq_true (by omega)) (decide_eq_false (by omega)) (decide_eq_true (by omega)) (decide_eq_true (by omega)) (decide_eq_true (by omega)) (decide_eq_false (by omega)) w
      · skip
        exact op3_6 k0 n0 k1 n1 k2 n2 k3 n3 k4 n4 k5 n5 k6 n6 k7 n7 pc a b c rk rn (decide_eq_true (by omega)) (decide_eq_true (by omega)) (decide_eq_false (by omega)) (decide_eq_true (by omega)) (decide_eq_true (by omega)) (decide_eq_false (by omega)) w
    · skip
      exact op3_7 k0 n0 k1 n1 k2 n2 k3 n3 k4 n4 k5 n5 k6 n6 k7 n7 pc a b c rk rn (decide_eq_true (by omega)) (decide_eq_false (by omega)) (decide_eq_true (by omega)) (decide_eq_false (by omega)) w
  · skip
    exact op3_8 k0 n0 k1 n1 k2 n2 k3 n3 k4 n4 k5 n5 k6 n6 k7 n7 pc a b c rk rn (decide_eq_false (by omega)) (decide_eq_false (by omega)) w
theorem op4 (k0 : Int) (n0 : Int) (k1 : Int) (n1 : Int) (k2 : Int) (n2 : Int) (k3 : Int) (n3 : Int) (k4 : Int) (n4 : Int) (k5 : Int) (n5 : Int) (k6 : Int) (n6 : Int) (k7 : Int) (n7 : Int) (pc : Int) (a : Int) (b : Int) (c : Int) (rk : Int) (rn : Int)  (w : World) : Calls Try.prog 3 (dArgs k0 n0 k1 n1 k2 n2 k3 n3 k4 n4 k5 n5 k6 n6 k7 n7 pc 4 a b c rk rn) w (Ret (.bool true) w) := by
  by_cases g0 : (0 : Int) ≤ a
  · skip
    by_cases g1 : a ≤ 7
    · skip
      by_cases g2 : (0 : Int) ≤ b
      · skip
        by_cases g3 : b ≤ 7
        · skip
          by_cases g4 : (0 : Int) ≤ c
          · skip
            by_cases g5 : c ≤ 7
            · skip
              by_cases g6 : pc < 0
              · skip
                exact op4_0 k0 n0 k1 n1 k2 n2 k3 n3 k4 n4 k5 n5 k6 n6 k7 n7 pc a b c rk rn (decide_eq_true (by omega)) (decide_eq_true (by omega)) (decide_eq_true (by omega)) (decide_eq_true (by omega)) (decide_eq_true (by omega)) (decide_eq_true (by omega)) (decide_eq_true (by omega)) (decide_eq_true (by omega)) (decide_eq_true (by omega)) (decide_eq_true (by omega)) (decide_eq_true (by omega)) (decide_eq_true (by omega)) (decide_eq_true (by omega)) w
              · skip
                by_cases g7 : pc ≥ 512
                · skip
                  exact op4_1 k0 n0 k1 n1 k2 n2 k3 n3 k4 n4 k5 n5 k6 n6 k7 n7 pc a b c rk rn (decide_eq_true (by omega)) (decide_eq_true (by omega)) (decide_eq_true (by omega)) (decide_eq_true (by omega)) (decide_eq_true (by omega)) (decide_eq_true (by omega)) (decide_eq_false (by omega)) (decide_eq_true (by omega)) (decide_eq_true (by omega)) (decide_eq_true (by omega)) (decide_eq_true (by omega)) (decide_eq_true (by omega)) (decide_eq_true (by omega)) (decide_eq_true (by omega)) (decide_eq_true (by omega)) w
                · skip
                  by_cases g8 : (sel b [k0, k1, k2, k3, k4, k5, k6, k7]) = 1
                  · skip
                    by_cases g9 : (sel c [k0, k1, k2, k3, k4, k5, k6, k7]) = 1
                    · skip
                      exact op4_2 k0 n0 k1 n1 k2 n2 k3 n3 k4 n4 k5 n5 k6 n6 k7 n7 pc a b c rk rn (decide_eq_true (by omega)) (decide_eq_true (by omega)) (decide_eq_true (by omega)) (decide_eq_true (by omega)) (decide_eq_true (by omega)) (decide_eq_true (by omega)) (decide_eq_false (by omega)) (decide_eq_false (by omega)) (beq_iff_eq.2 (idx_eq (by omega))) (blt_of (by omega)) (row8g _ (by omega) _ _ _ _ _ _ _ _ _ _ _ _ _ _ _ _ _ _ (by omega) (by omega)) (beq_iff_eq.2 (idx_eq (by omega))) (blt_of (by omega)) (row8g _ (by omega) _ _ _ _ _ _ _ _ _ _ _ _ _ _ _ _ _ _ (by omega) (by omega)) (decide_eq_true (by omega)) (decide_eq_true (by omega)) (decide_eq_true (by omega)) (decide_eq_true (by omega)) (decide_eq_true (by omega)) (decide_eq_true (by omega)) (decide_eq_false (by omega)) (beq_iff_eq.2 (by first | rfl | omega | (simp only [IntKind.wrap_i64]; omega) | (rw [Int.tmod_eq_emod_of_nonneg (by omega)] <;> omega) | (rw [Int.tdiv_eq_ediv_of_nonneg (by omega)] <;> (try simp only [IntKind.wrap_i64]) <;> omega))) w
                    · skip
                      exact op4_3 k0 n0 k1 n1 k2 n2 k3 n3 k4 n4 k5 n5 k6 n6 k7 n7 pc a b c rk rn (decide_eq_true (by omega)) (decide_eq_true (by omega)) (decide_eq_true (by omega)) (decide_eq_true (by omega)) (decide_eq_true (by omega)) (decide_eq_true (by omega)) (decide_eq_false (by omega)) (decide_eq_false (by omega)) (beq_iff_eq.2 (idx_eq (by omega))) (blt_of (by omega)) (row8g _ (by omega) _ _ _ _ _ _ _ _ _ _ _ _ _ _ _ _ _ _ (by omega) (by omega)) (beq_iff_eq.2 (idx_eq (by omega))) (blt_of (by omega)) (row8g _ (by omega) _ _ _ _ _ _ _ _ _ _ _ _ _ _ _ _ _ _ (by omega) (by omega)) (beq_eq_false_iff_ne.2 (by omega)) (decide_eq_true (by omega)) (decide_eq_true (by omega)) (decide_eq_true (by omega)) (decide_eq_true (by omega)) (decide_eq_true (by omega)) (decide_eq_true (by omega)) (decide_eq_false (by omega)) w
                  · skip
                    exact op4_4 k0 n0 k1 n1 k2 n2 k3 n3 k4 n4 k5 n5 k6 n6 k7 n7 pc a b c rk rn (decide_eq_true (by omega)) (decide_eq_true (by omega)) (decide_eq_true (by omega)) (decide_eq_true (by omega)) (decide_eq_true (by omega)) (decide_eq_true (by omega)) (decide_eq_false (by omega)) (decide_eq_false (by omega)) (beq_iff_eq.2 (idx_eq (by omega))) (blt_of (by omega)) (row8g _ (by omega) _ _ _ _ _ _ _ _ _ _ _ _ _ _ _ _ _ _ (by omega) (by omega)) (beq_iff_eq.2 (idx_eq (by omega))) (blt_of (by omega)) (row8g _ (by omega) _ _ _ _ _ _ _ _ _ _ _ _ _ _ _ _ _ _ (by omega) (by omega)) (beq_eq_false_iff_ne.2 (by omega)) (decide_eq_true (by omega)) (decide_eq_true (by omega)) (decide_eq_true (by omega)) (decide_eq_true (by omega)) (decide_eq_true (by omega)) (decide_eq_true (by omega)) (decide_eq_false (by omega)) w
            · skip
              exact op4_5 k0 n0 k1 n1 k2 n2 k3 n3 k4 n4 k5 n5 k6 n6 k7 n7 pc a b c rk rn (decide_eq_true (by omega)) (decide_eq_true (by omega)) (decide_eq_true (by omega)) (decide_eq_true (by omega)) (decide_eq_true (by omega)) (decide_eq_false (by omega)) (decide_eq_true (by omega)) (decide_eq_true (by omega)) (decide_eq_true (by omega)) (decide_eq_true (by omega)) (decide_eq_true (by omega)) (decide_eq_false (by omega)) w
          · skip
            exact op4_6 k0 n0 k1 n1 k2 n2 k3 n3 k4 n4 k5 n5 k6 n6 k7 n7 pc a b c rk rn (decide_eq_true (by omega)) (decide_eq_true (by omega)) (decide_eq_true (by omega)) (decide_eq_true (by omega)) (decide_eq_false (by omega)) (decide_eq_true (by omega)) (decide_eq_true (by omega)) (decide_eq_true (by omega)) (decide_eq_true (by omega)) (decide_eq_false (by omega)) w
        · skip
          exact op4_7 k0 n0 k1 n1 k2 n2 k3 n3 k4 n4 k5 n5 k6 n6 k7 n7 pc a b c rk rn (decide_eq_true (by omega)) (decide_eq_true (by omega)) (decide_eq_true (by omega)) (decide_eq_false (by omega)) (decide_eq_true (by omega)) (decide_eq_true (by omega)) (decide_eq_true (by omega)) (decide_eq_false (by omega)) w
      · skip
        exact op4_8 k0 n0 k1 n1 k2 n2 k3 n3 k4 n4 k5 n5 k6 n6 k7 n7 pc a b c rk rn (decide_eq_true (by omega)) (decide_eq_true (by omega)) (decide_eq_false (by omega)) (decide_eq_true (by omega)) (decide_eq_true (by omega)) (decide_eq_false (by omega)) w
    · skip
      exact op4_9 k0 n0 k1 n1 k2 n2 k3 n3 k4 n4 k5 n5 k6 n6 k7 n7 pc a b c rk rn (decide_eq_true (by omega)) (decide_eq_false (by omega)) (decide_eq_true (by omega)) (decide_eq_false (by omega)) w
  · skip
    exact op4_10 k0 n0 k1 n1 k2 n2 k3 n3 k4 n4 k5 n5 k6 n6 k7 n7 pc a b c rk rn (decide_eq_false (by omega)) (decide_eq_false (by omega)) w
theorem op5 (k0 : Int) (n0 : Int) (k1 : Int) (n1 : Int) (k2 : Int) (n2 : Int) (k3 : Int) (n3 : Int) (k4 : Int) (n4 : Int) (k5 : Int) (n5 : Int) (k6 : Int) (n6 : Int) (k7 : Int) (n7 : Int) (pc : Int) (a : Int) (b : Int) (c : Int) (rk : Int) (rn : Int)  (w : World) : Calls Try.prog 3 (dArgs k0 n0 k1 n1 k2 n2 k3 n3 k4 n4 k5 n5 k6 n6 k7 n7 pc 5 a b c rk rn) w (Ret (.bool true) w) := by
  by_cases g0 : (0 : Int) ≤ a
  · skip
    by_cases g1 : a ≤ 7
    · skip
      by_cases g2 : (0 : Int) ≤ b
      · skip
        by_cases g3 : b ≤ 7
        · skip
          by_cases g4 : (0 : Int) ≤ c
          · skip
            by_cases g5 : c ≤ 7
            · skip
              by_cases g6 : pc < 0
              · skip
                exact op5_0 k0 n0 k1 n1 k2 n2 k3 n3 k4 n4 k5 n5 k6 n6 k7 n7 pc a b c rk rn (decide_eq_true (by omega)) (decide_eq_true (by omega)) (decide_eq_true (by omega)) (decide_eq_true (by omega)) (decide_eq_true (by omega)) (decide_eq_true (by omega)) (decide_eq_true (by omega)) (decide_eq_true (by omega)) (decide_eq_true (by omega)) (decide_eq_true (by omega)) (decide_eq_true (by omega)) (decide_eq_true (by omega)) (decide_eq_true (by omega)) w
              · skip
                by_cases g7 : pc ≥ 512
                · skip
                  exact op5_1 k0 n0 k1 n1 k2 n2 k3 n3 k4 n4 k5 n5 k6 n6 k7 n7 pc a b c rk rn (decide_eq_true (by omega)) (decide_eq_true (by omega)) (decide_eq_true (by omega)) (decide_eq_true (by omega)) (decide_eq_true (by omega)) (decide_eq_true (by omega)) (decide_eq_false (by omega)) (decide_eq_true (by omega)) (decide_eq_true (by omega)) (decide_eq_true (by omega)) (decide_eq_true (by omega)) (decide_eq_true (by omega)) (decide_eq_true (by omega)) (decide_eq_true (by omega)) (decide_eq_true (by omega)) w
                · skip
                  by_cases g8 : (sel b [k0, k1, k2, k3, k4, k5, k6, k7]) = 1
                  · skip
                    by_cases g9 : (sel c [k0, k1, k2, k3, k4, k5, k6, k7]) = 1
                    · skip
                      exact op5_2 k0 n0 k1 n1 k2 n2 k3 n3 k4 n4 k5 n5 k6 n6 k7 n7 pc a b c rk rn (decide_eq_true (by omega)) (decide_eq_true (by omega)) (decide_eq_true (by omega)) (decide_eq_true (by omega)) (decide_eq_true (by omega)) (decide_eq_true (by omega)) (decide_eq_false (by omega)) (decide_eq_false (by omega)) (beq_iff_eq.2 (idx_eq (by omega))) (blt_of (by omega)) (row8g _ (by omega) _ _ _ _ _ _ _ _ _ _ _ _ _ _ _ _ _ _ (by omega) (by omega)) (beq_iff_eq.2 (idx_eq (by omega))) (blt_of (by omega)) (row8g _ (by omega) _ _ _ _ _ _ _ _ _ _ _ _ _ _ _ _ _ _ (by omega) (by omega)) (decide_eq_true (by omega)) (decide_eq_true (by omega)) (decide_eq_true (by omega)) (decide_eq_true (by omega)) (decide_eq_true (by omega)) (decide_eq_true (by omega)) (decide_eq_false (by omega)) (beq_iff_eq.2 (by first | rfl | omega | (simp only [IntKind.wrap_i64]; omega) | (rw [Int.tmod_eq_emod_of_nonneg (by omega)] <;> omega) | (rw [Int.tdiv_eq_ediv_of_nonneg (by omega)] <;> (try simp only [IntKind.wrap_i64]) <;> omega))) w
                    · skip
                      exact op5_3 k0 n0 k1 n1 k2 n2 k3 n3 k4 n4 k5 n5 k6 n6 k7 n7 pc a b c rk rn (decide_eq_true (by omega)) (decide_eq_true (by omega)) (decide_eq_true (by omega)) (decide_eq_true (by omega)) (decide_eq_true (by omega)) (decide_eq_true (by omega)) (decide_eq_false (by omega)) (decide_eq_false (by omega)) (beq_iff_eq.2 (idx_eq (by omega))) (blt_of (by omega)) (row8g _ (by omega) _ _ _ _ _ _ _ _ _ _ _ _ _ _ _ _ _ _ (by omega) (by omega)) (beq_iff_eq.2 (idx_eq (by omega))) (blt_of (by omega)) (row8g _ (by omega) _ _ _ _ _ _ _ _ _ _ _ _ _ _ _ _ _ _ (by omega) (by omega)) (beq_eq_false_iff_ne.2 (by omega)) (decide_eq_true (by omega)) (decide_eq_true (by omega)) (decide_eq_true (by omega)) (decide_eq_true (by omega)) (decide_eq_true (by omega)) (decide_eq_true (by omega)) (decide_eq_false (by omega)) w
                  · skip
                    exact op5_4 k0 n0 k1 n1 k2 n2 k3 n3 k4 n4 k5 n5 k6 n6 k7 n7 pc a b c rk rn (decide_eq_true (by omega)) (decide_eq_true (by omega)) (decide_eq_true (by omega)) (decide_eq_true (by omega)) (decide_eq_true (by omega)) (decide_eq_true (by omega)) (decide_eq_false (by omega)) (decide_eq_false (by omega)) (beq_iff_eq.2 (idx_eq (by omega))) (blt_of (by omega)) (row8g _ (by omega) _ _ _ _ _ _ _ _ _ _ _ _ _ _ _ _ _ _ (by omega) (by omega)) (beq_iff_eq.2 (idx_eq (by omega))) (blt_of (by omega)) (row8g _ (by omega) _ _ _ _ _ _ _ _ _ _ _ _ _ _ _ _ _ _ (by omega) (by omega)) (beq_eq_false_iff_ne.2 (by omega)) (decide_eq_true (by omega)) (decide_eq_true (by omega)) (decide_eq_true (by omega)) (decide_eq_true (by omega)) (decide_eq_true (by omega)) (decide_eq_true (by omega)) (decide_eq_false (by omega)) w
            · skip
              exact op5_5 k0 n0 k1 n1 k2 n2 k3 n3 k4 n4 k5 n5 k6 n6 k7 n7 pc a b c rk rn (decide_eq_true (by omega)) (decide_eq_true (by omega)) (decide_eq_true (by omega)) (decide_eq_true (by omega)) (decide_eq_true (by omega)) (decide_eq_false (by omega)) (decide_eq_true (by omega)) (decide_eq_true (by omega)) (decide_eq_true (by omega)) (decide_eq_true (by omega)) (decide_eq_true (by omega)) (decide_eq_false (by omega)) w
          · skip
            exact op5_6 k0 n0 k1 n1 k2 n2 k3 n3 k4 n4 k5 n5 k6 n6 k7 n7 pc a b c rk rn (decide_eq_true (by omega)) (decide_eq_true (by omega)) (decide_eq_true (by omega)) (decide_eq_true (by omega)) (decide_eq_false (by omega)) (decide_eq_true (by omega)) (decide_eq_true (by omega)) (decide_eq_true (by omega)) (decide_eq_true (by omega)) (decide_eq_false (by omega)) w
        · skip
          exact op5_7 k0 n0 k1 n1 k2 n2 k3 n3 k4 n4 k5 n5 k6 n6 k7 n7 pc a b c rk rn (decide_eq_true (by omega)) (decide_eq_true (by omega)) (decide_eq_true (by omega)) (decide_eq_false (by omega)) (decide_eq_true (by omega)) (decide_eq_true (by omega)) (decide_eq_true (by omega)) (decide_eq_false (by omega)) w
      · skip
        exact op5_8 k0 n0 k1 n1 k2 n2 k3 n3 k4 n4 k5 n5 k6 n6 k7 n7 pc a b c rk rn (decide_eq_true (by omega)) (decide_eq_true (by omega)) (decide_eq_false (by omega)) (decide_eq_true (by omega)) (decide_eq_true (by omega)) (decide_eq_false (by omega)) w
    · skip
      exact op5_9 k0 n0 k1 n1 k2 n2 k3 n3 k4 n4 k5 n5 k6 n6 k7 n7 pc a b c rk rn (decide_eq_true (by omega)) (decide_eq_false (by omega)) (decide_eq_true (by omega)) (decide_eq_false (by omega)) w
  · skip
    exact op5_10 k0 n0 k1 n1 k2 n2 k3 n3 k4 n4 k5 n5 k6 n6 k7 n7 pc a b c rk rn (decide_eq_false (by omega)) (decide_eq_false (by omega)) w
theorem op6 (k0 : Int) (n0 : Int) (k1 : Int) (n1 : Int) (k2 : Int) (n2 : Int) (k3 : Int) (n3 : Int) (k4 : Int) (n4 : Int) (k5 : Int) (n5 : Int) (k6 : Int) (n6 : Int) (k7 : Int) (n7 : Int) (pc : Int) (a : Int) (b : Int) (c : Int) (rk : Int) (rn : Int)  (w : World) : Calls Try.prog 3 (dArgs k0 n0 k1 n1 k2 n2 k3 n3 k4 n4 k5 n5 k6 n6 k7 n7 pc 6 a b c rk rn) w (Ret (.bool true) w) := by
  by_cases g0 : (0 : Int) ≤ a
  · skip
    by_cases g1 : a ≤ 7
    · skip
      by_cases g2 : (0 : Int) ≤ b
      · skip
        by_cases g3 : b ≤ 7
        · skip
          by_cases g4 : (0 : Int) ≤ c
          · skip
            by_cases g5 : c ≤ 7
            · skip
              by_cases g6 : pc < 0
              · skip
                exact op6_0 k0 n0 k1 n1 k2 n2 k3 n3 k4 n4 k5 n5 k6 n6 k7 n7 pc a b c rk rn (decide_eq_true (by omega)) (decide_eq_true (by omega)) (decide_eq_true (by omega)) (decide_eq_true (by omega)) (decide_eq_true (by omega)) (decide_eq_true (by omega)) (decide_eq_true (by omega)) (decide_eq_true (by omega)) (decide_eq_true (by omega)) (decide_eq_true (by omega)) (decide_eq_true (by omega)) (decide_eq_true (by omega)) (decide_eq_true (by omega)) w
              · skip
                by_cases g7 : pc ≥ 512
                · skip
                  exact op6_1 k0 n0 k1 n1 k2 n2 k3 n3 k4 n4 k5 n5 k6 n6 k7 n7 pc a b c rk rn (decide_eq_true (by omega)) (decide_eq_true (by omega)) (decide_eq_true (by omega)) (decide_eq_true (by omega)) (decide_eq_true (by omega)) (decide_eq_true (by omega)) (decide_eq_false (by omega)) (decide_eq_true (by omega)) (decide_eq_true (by omega)) (decide_eq_true (by omega)) (decide_eq_true (by omega)) (decide_eq_true (by omega)) (decide_eq_true (by omega)) (decide_eq_true (by omega)) (decide_eq_true (by omega)) w
                · skip
                  by_cases g8 : (sel b [k0, k1, k2, k3, k4, k5, k6, k7]) = 1
                  · skip
                    by_cases g9 : (sel c [k0, k1, k2, k3, k4, k5, k6, k7]) = 1
                    · skip
                      by_cases g10 : (sel b [n0, n1, n2, n3, n4, n5, n6, n7]) < (sel c [n0, n1, n2, n3, n4, n5, n6, n7])
                      · skip
                        exact op6_2 k0 n0 k1 n1 k2 n2 k3 n3 k4 n4 k5 n5 k6 n6 k7 n7 pc a b c rk rn (decide_eq_true (by omega)) (decide_eq_true (by omega)) (decide_eq_true (by omega)) (decide_eq_true (by omega)) (decide_eq_true (by omega)) (decide_eq_true (by omega)) (decide_eq_false (by omega)) (decide_eq_false (by omega)) (beq_iff_eq.2 (idx_eq (by omega))) (blt_of (by omega)) (row8g _ (by omega) _ _ _ _ _ _ _ _ _ _ _ _ _ _ _ _ _ _ (by omega) (by omega)) (beq_iff_eq.2 (idx_eq (by omega))) (blt_of (by omega)) (row8g _ (by omega) _ _ _ _ _ _ _ _ _ _ _ _ _ _ _ _ _ _ (by omega) (by omega)) (decide_eq_true (by omega)) (decide_eq_true (by omega)) (decide_eq_true (by omega)) (decide_eq_true (by omega)) (decide_eq_true (by omega)) (decide_eq_true (by omega)) (decide_eq_true (by omega)) (decide_eq_false (by omega)) (beq_iff_eq.2 (by first | rfl | omega | (simp only [IntKind.wrap_i64]; omega) | (rw [Int.tmod_eq_emod_of_nonneg (by omega)] <;> omega) | (rw [Int.tdiv_eq_ediv_of_nonneg (by omega)] <;> (try simp only [IntKind.wrap_i64]) <;> omega))) w
                      · skip
                        exact op6_3 k0 n0 k1 n1 k2 n2 k3 n3 k4 n4 k5 n5 k6 n6 k7 n7 pc a b c rk rn (decide_eq_true (by omega)) (decide_eq_true (by omega)) (decide_eq_true (by omega)) (decide_eq_true (by omega)) (decide_eq_true (by omega)) (decide_eq_true (by omega)) (decide_eq_false (by omega)) (decide_eq_false (by omega)) (beq_iff_eq.2 (idx_eq (by omega))) (blt_of (by omega)) (row8g _ (by omega) _ _ _ _ _ _ _ _ _ _ _ _ _ _ _ _ _ _ (by omega) (by omega)) (beq_iff_eq.2 (idx_eq (by omega))) (blt_of (by omega)) (row8g _ (by omega) _ _ _ _ _ _ _ _ _ _ _ _ _ _ _ _ _ _ (by omega) (by omega)) (decide_eq_false (by omega)) (decide_eq_true (by omega)) (decide_eq_true (by omega)) (decide_eq_true (by omega)) (decide_eq_true (by omega)) (decide_eq_true (by omega)) (decide_eq_true (by omega)) (decide_eq_false (by omega)) (beq_iff_eq.2 (by first | rfl | omega | (simp only [IntKind.wrap_i64]; omega) | (rw [Int.tmod_eq_emod_of_nonneg (by omega)] <;> omega) | (rw [Int.tdiv_eq_ediv_of_nonneg (by omega)] <;> (try simp only [IntKind.wrap_i64]) <;> omega))) w
                    · skip
                      exact op6_4 k0 n0 k1 n1 k2 n2 k3 n3 k4 n4 k5 n5 k6 n6 k7 n7 pc a b c rk rn (decide_eq_true (by omega)) (decide_eq_true (by omega)) (decide_eq_true (by omega)) (decide_eq_true (by omega)) (decide_eq_true (by omega)) (decide_eq_true (by omega)) (decide_eq_false (by omega)) (decide_eq_false (by omega)) (beq_iff_eq.2 (idx_eq (by omega))) (blt_of (by omega)) (row8g _ (by omega) _ _ _ _ _ _ _ _ _ _ _ _ _ _ _ _ _ _ (by omega) (by omega)) (beq_iff_eq.2 (idx_eq (by omega))) (blt_of (by omega)) (row8g _ (by omega) _ _ _ _ _ _ _ _ _ _ _ _ _ _ _ _ _ _ (by omega) (by omega)) (beq_eq_false_iff_ne.2 (by omega)) (decide_eq_true (by omega)) (decide_eq_true (by omega)) (decide_eq_true (by omega)) (decide_eq_true (by omega)) (decide_eq_true (by omega)) (decide_eq_true (by omega)) (decide_eq_false (by omega)) w
                  · skip
                    exact op6_5 k0 n0 k1 n1 k2 n2 k3 n3 k4 n4 k5 n5 k6 n6 k7 n7 pc a b c rk rn (decide_eq_true (by omega)) (decide_eq_true (by omega)) (decide_eq_true (by omega)) (decide_eq_true (by omega)) (decide_eq_true (by omega)) (decide_eq_true (by omega)) (decide_eq_false (by omega)) (decide_eq_false (by omega)) (beq_iff_eq.2 (idx_eq (by omega))) (blt_of (by omega)) (row8g _ (by omega) _ _ _ _ _ _ _ _ _ _ _ _ _ _ _ _ _ _ (by omega) (by omega)) (beq_iff_eq.2 (idx_eq (by omega))) (blt_of (by omega)) (row8g _ (by omega) _ _ _ _ _ _ _ _ _ _ _ _ _ _ _ _ _ _ (by omega) (by omega)) (beq_eq_false_iff_ne.2 (by omega)) (decide_eq_true (by omega)) (decide_eq_true (by omega)) (decide_eq_true (by omega)) (decide_eq_true (by omega)) (decide_eq_true (by omega)) (decide_eq_true (by omega)) (decide_eq_false (by omega)) w
            · skip
              exact op6_6 k0 n0 k1 n1 k2 n2 k3 n3 k4 n4 k5 n5 k6 n6 k7 n7 pc a b c rk rn (decide_eq_true (by omega)) (decide_eq_true (by omega)) (decide_eq_true (by omega)) (decide_eq_true (by omega)) (decide_eq_true (by omega)) (decide_eq_false (by omega)) (decide_eq_true (by omega)) (decide_eq_true (by omega)) (decide_eq_true (by omega)) (decide_eq_true (by omega)) (decide_eq_true (by omega)) (decide_eq_false (by omega)) w
          · skip
            exact op6_7 k0 n0 k1 n1 k2 n2 k3 n3 k4 n4 k5 n5 k6 n6 k7 n7 pc a b c rk rn (decide_eq_true (by omega)) (decide_eq_true (by omega)) (decide_eq_true (by omega)) (decide_eq_true (by omega)) (decide_eq_false (by omega)) (decide_eq_true (by omega)) (decide_eq_true (by omega)) (decide_eq_true (by omega)) (decide_eq_true (by omega)) (decide_eq_false (by omega)) w
        · skip
          exact op6_8 k0 n0 k1 n1 k2 n2 k3 n3 k4 n4 k5 n5 k6 n6 k7 n7 pc a b c rk rn (decide_eq_true (by omega)) (decide_eq_true (by omega)) (decide_eq_true (by omega)) (decide_eq_false (by omega)) (decide_eq_true (by omega)) (decide_eq_true (by omega)) (decide_eq_true (by omega)) (decide_eq_false (by omega)) w
      · skip
        exact op6_9 k0 n0 k1 n1 k2 n2 k3 n3 k4 n4 k5 n5 k6 n6 k7 n7 pc a b c rk rn (decide_eq_true (by omega)) (decide_eq_true (by omega)) (decide_eq_false (by omega)) (decide_eq_true (by omega)) (decide_eq_true (by omega)) (decide_eq_false (by omega)) w
    · skip
      exact op6_10 k0 n0 k1 n1 k2 n2 k3 n3 k4 n4 k5 n5 k6 n6 k7 n7 pc a b c rk rn (decide_eq_true (by omega)) (decide_eq_false (by omega)) (decide_eq_true (by omega)) (decide_eq_false (by omega)) w
  · skip
    exact op6_11 k0 n0 k1 n1 k2 n2 k3 n3 k4 n4 k5 n5 k6 n6 k7 n7 pc a b c rk rn (decide_eq_false (by omega)) (decide_eq_false (by omega)) w
theorem op7 (k0 : Int) (n0 : Int) (k1 : Int) (n1 : Int) (k2 : Int) (n2 : Int) (k3 : Int) (n3 : Int) (k4 : Int) (n4 : Int) (k5 : Int) (n5 : Int) (k6 : Int) (n6 : Int) (k7 : Int) (n7 : Int) (pc : Int) (a : Int) (b : Int) (c : Int) (rk : Int) (rn : Int)  (w : World) : Calls Try.prog 3 (dArgs k0 n0 k1 n1 k2 n2 k3 n3 k4 n4 k5 n5 k6 n6 k7 n7 pc 7 a b c rk rn) w (Ret (.bool true) w) := by
  by_cases g0 : (0 : Int) ≤ a
  · skip
    by_cases g1 : a ≤ 7
    · skip
      by_cases g2 : (0 : Int) ≤ b
      · skip
        by_cases g3 : b ≤ 7
        · skip
          by_cases g4 : (0 : Int) ≤ c
          · skip
            by_cases g5 : c ≤ 7
            · skip
              by_cases g6 : pc < 0
              · skip
                exact op7_0 k0 n0 k1 n1 k2 n2 k3 n3 k4 n4 k5 n5 k6 n6 k7 n7 pc a b c rk rn (decide_eq_true (by omega)) (decide_eq_true (by omega)) (decide_eq_true (by omega)) (decide_eq_true (by omega)) (decide_eq_true (by omega)) (decide_eq_true (by omega)) (decide_eq_true (by omega)) (decide_eq_true (by omega)) (decide_eq_true (by omega)) (decide_eq_true (by omega)) (decide_eq_true (by omega)) (decide_eq_true (by omega)) (decide_eq_true (by omega)) w
              · skip
                by_cases g7 : pc ≥ 512
                · skip
                  exact op7_1 k0 n0 k1 n1 k2 n2 k3 n3 k4 n4 k5 n5 k6 n6 k7 n7 pc a b c rk rn (decide_eq_true (by omega)) (decide_eq_true (by omega)) (decide_eq_true (by omega)) (decide_eq_true (by omega)) (decide_eq_true (by omega)) (decide_eq_true (by omega)) (decide_eq_false (by omega)) (decide_eq_true (by omega)) (decide_eq_true (by omega)) (decide_eq_true (by omega)) (decide_eq_true (by omega)) (decide_eq_true (by omega)) (decide_eq_true (by omega)) (decide_eq_true (by omega)) (decide_eq_true (by omega)) w
                · skip
                  by_cases g8 : ((sel b [k0, k1, k2, k3, k4, k5, k6, k7]) = (sel c [k0, k1, k2, k3, k4, k5, k6, k7]) ∧ (sel b [n0, n1, n2, n3, n4, n5, n6, n7]) = (sel c [n0, n1, n2, n3, n4, n5, n6, n7]))
                  · skip
                    exact op7_2 k0 n0 k1 n1 k2 n2 k3 n3 k4 n4 k5 n5 k6 n6 k7 n7 pc a b c rk rn (decide_eq_true (by omega)) (decide_eq_true (by omega)) (decide_eq_true (by omega)) (decide_eq_true (by omega)) (decide_eq_true (by omega)) (decide_eq_true (by omega)) (decide_eq_false (by omega)) (decide_eq_false (by omega)) (beq_iff_eq.2 (idx_eq (by omega))) (blt_of (by omega)) (row8g _ (by omega) _ _ _ _ _ _ _ _ _ _ _ _ _ _ _ _ _ _ (by omega) (by omega)) (beq_iff_eq.2 (idx_eq (by omega))) (blt_of (by omega)) (row8g _ (by omega) _ _ _ _ _ _ _ _ _ _ _ _ _ _ _ _ _ _ (by omega) (by omega)) (decide_eq_true (by omega)) (decide_eq_true (by omega)) (decide_eq_true (by omega)) (decide_eq_true (by omega)) (decide_eq_true (by omega)) (decide_eq_true (by omega)) (decide_eq_false (by omega)) (beq_iff_eq.2 (by first | rfl | omega | (simp only [IntKind.wrap_i64]; omega) | (rw [Int.tmod_eq_emod_of_nonneg (by omega)] <;> omega) | (rw [Int.tdiv_eq_ediv_of_nonneg (by omega)] <;> (try simp only [IntKind.wrap_i64]) <;> omega))) w
                  · skip
                    exact op7_3 k0 n0 k1 n1 k2 n2 k3 n3 k4 n4 k5 n5 k6 n6 k7 n7 pc a b c rk rn (decide_eq_true (by omega)) (decide_eq_true (by omega)) (decide_eq_true (by omega)) (decide_eq_true (by omega)) (decide_eq_true (by omega)) (decide_eq_true (by omega)) (decide_eq_false (by omega)) (decide_eq_false (by omega)) (beq_iff_eq.2 (idx_eq (by omega))) (blt_of (by omega)) (row8g _ (by omega) _ _ _ _ _ _ _ _ _ _ _ _ _ _ _ _ _ _ (by omega) (by omega)) (beq_iff_eq.2 (idx_eq (by omega))) (blt_of (by omega)) (row8g _ (by omega) _ _ _ _ _ _ _ _ _ _ _ _ _ _ _ _ _ _ (by omega) (by omega)) (agg_false (fun hh => by simp only [Bool.and_eq_true, beq_iff_eq, and_true] at hh; omega)) (decide_eq_true (by omega)) (decide_eq_true (by omega)) (decide_eq_true (by omega)) (decide_eq_true (by omega)) (decide_eq_true (by omega)) (decide_eq_true (by omega)) (decide_eq_false (by omega)) (beq_iff_eq.2 (by first | rfl | omega | (simp only [IntKind.wrap_i64]; omega) | (rw [Int.tmod_eq_emod_of_nonneg (by omega)] <;> omega) | (rw [Int.tdiv_eq_ediv_of_nonneg (by omega)] <;> (try simp only [IntKind.wrap_i64]) <;> omega))) w
            · skip
              exact op7_4 k0 n0 k1 n1 k2 n2 k3 n3 k4 n4 k5 n5 k6 n6 k7 n7 pc a b c rk rn (decide_eq_true (by omega)) (decide_eq_true (by omega)) (decide_eq_true (by omega)) (decide_eq_true (by omega)) (decide_eq_true (by omega)) (decide_eq_false (by omega)) (decide_eq_true (by omega)) (decide_eq_true (by omega)) (decide_eq_true (by omega)) (decide_eq_true (by omega)) (decide_eq_true (by omega)) (decide_eq_false (by omega)) w
          · skip
            exact op7_5 k0 n0 k1 n1 k2 n2 k3 n3 k4 n4 k5 n5 k6 n6 k7 n7 pc a b c rk rn (decide_eq_true (by omega)) (decide_eq_true (by omega)) (decide_eq_true (by omega)) (decide_eq_true (by omega)) (decide_eq_false (by omega)) (decide_eq_true (by omega)) (decide_eq_true (by omega)) (decide_eq_true (by omega)) (decide_eq_true (by omega)) (decide_eq_false (by omega)) w
        · skip
          exact op7_6 k0 n0 k1 n1 k2 n2 k3 n3 k4 n4 k5 n5 k6 n6 k7 n7 pc a b c rk rn (decide_eq_true (by omega)) (decide_eq_true (by omega)) (decide_eq_true (by omega)) (decide_eq_false (by omega)) (decide_eq_true (by omega)) (decide_eq_true (by omega)) (decide_eq_true (by omega)) (decide_eq_false (by omega)) w
      · skip
        exact op7_7 k0 n0 k1 n1 k2 n2 k3 n3 k4 n4 k5 n5 k6 n6 k7 n7 pc a b c rk rn (decide_eq_true (by omega)) (decide_eq_true (by omega)) (decide_eq_false (by omega)) (decide_eq_true (by omega)) (decide_eq_true (by omega)) (decide_eq_false (by omega)) w
    · skip
      exact op7_8 k0 n0 k1 n1 k2 n2 k3 n3 k4 n4 k5 n5 k6 n6 k7 n7 pc a b c rk rn (decide_eq_true (by omega)) (decide_eq_false (by omega)) (decide_eq_true (by omega)) (decide_eq_false (by omega)) w
  · skip
    exact op7_9 k0 n0 k1 n1 k2 n2 k3 n3 k4 n4 k5 n5 k6 n6 k7 n7 pc a b c rk rn (decide_eq_false (by omega)) (decide_eq_false (by omega)) w
theorem op8 (k0 : Int) (n0 : Int) (k1 : Int) (n1 : Int) (k2 : Int) (n2 : Int) (k3 : Int) (n3 : Int) (k4 : Int) (n4 : Int) (k5 : Int) (n5 : Int) (k6 : Int) (n6 : Int) (k7 : Int) (n7 : Int) (pc : Int) (a : Int) (b : Int) (c : Int) (rk : Int) (rn : Int)  (w : World) : Calls Try.prog 3 (dArgs k0 n0 k1 n1 k2 n2 k3 n3 k4 n4 k5 n5 k6 n6 k7 n7 pc 8 a b c rk rn) w (Ret (.bool true) w) := by
  by_cases g0 : (0 : Int) ≤ a
  · skip
    by_cases g1 : a ≤ 512
    · skip
      by_cases g2 : (0 : Int) ≤ b
      · skip
        by_cases g3 : b ≤ 0
        · skip
          obtain rfl : b = 0 := by omega
          by_cases g4 : (0 : Int) ≤ c
          · skip
            by_cases g5 : c ≤ 0
            · skip
              obtain rfl : c = 0 := by omega
              by_cases g6 : pc < 0
              · skip
                exact op8_0 k0 n0 k1 n1 k2 n2 k3 n3 k4 n4 k5 n5 k6 n6 k7 n7 pc a rk rn (decide_eq_true (by omega)) (decide_eq_true (by omega)) (decide_eq_true (by omega)) (decide_eq_true (by omega)) w
              · skip
                by_cases g7 : pc ≥ 512
                · skip
                  exact op8_1 k0 n0 k1 n1 k2 n2 k3 n3 k4 n4 k5 n5 k6 n6 k7 n7 pc a rk rn (decide_eq_true (by omega)) (decide_eq_true (by omega)) (decide_eq_false (by omega)) (decide_eq_true (by omega)) (decide_eq_true (by omega)) (decide_eq_true (by omega)) w
                · skip
                  exact op8_2 k0 n0 k1 n1 k2 n2 k3 n3 k4 n4 k5 n5 k6 n6 k7 n7 pc a rk rn (decide_eq_true (by omega)) (decide_eq_true (by omega)) (decide_eq_false (by omega)) (decide_eq_false (by omega)) (decide_eq_true (by omega)) (decide_eq_false (by omega)) w
            · skip
              exact op8_3 k0 n0 k1 n1 k2 n2 k3 n3 k4 n4 k5 n5 k6 n6 k7 n7 pc a c rk rn (decide_eq_true (by omega)) (decide_eq_true (by omega)) (decide_eq_true (by omega)) (decide_eq_false (by omega)) (decide_eq_true (by omega)) (beq_eq_false_iff_ne.2 (by omega)) w
          · skip
            exact op8_4 k0 n0 k1 n1 k2 n2 k3 n3 k4 n4 k5 n5 k6 n6 k7 n7 pc a c rk rn (decide_eq_true (by omega)) (decide_eq_true (by omega)) (decide_eq_false (by omega)) (decide_eq_true (by omega)) (beq_eq_false_iff_ne.2 (by omega)) w
        · skip
          exact op8_5 k0 n0 k1 n1 k2 n2 k3 n3 k4 n4 k5 n5 k6 n6 k7 n7 pc a b c rk rn (decide_eq_true (by omega)) (decide_eq_true (by omega)) (decide_eq_true (by omega)) (decide_eq_false (by omega)) (decide_eq_true (by omega)) (beq_eq_false_iff_ne.2 (by omega)) w
      · skip
        exact op8_6 k0 n0 k1 n1 k2 n2 k3 n3 k4 n4 k5 n5 k6 n6 k7 n7 pc a b c rk rn (decide_eq_true (by omega)) (decide_eq_true (by omega)) (decide_eq_false (by omega)) (decide_eq_true (by omega)) (beq_eq_false_iff_ne.2 (by omega)) w
    · skip
      exact op8_7 k0 n0 k1 n1 k2 n2 k3 n3 k4 n4 k5 n5 k6 n6 k7 n7 pc a b c rk rn (decide_eq_true (by omega)) (decide_eq_false (by omega)) (decide_eq_true (by omega)) w
  · skip
    exact op8_8 k0 n0 k1 n1 k2 n2 k3 n3 k4 n4 k5 n5 k6 n6 k7 n7 pc a b c rk rn (decide_eq_false (by omega)) (decide_eq_false (by omega)) w
theorem op9 (k0 : Int) (n0 : Int) (k1 : Int) (n1 : Int) (k2 : Int) (n2 : Int) (k3 : Int) (n3 : Int) (k4 : Int) (n4 : Int) (k5 : Int) (n5 : Int) (k6 : Int) (n6 : Int) (k7 : Int) (n7 : Int) (pc : Int) (a : Int) (b : Int) (c : Int) (rk : Int) (rn : Int)  (w : World) : Calls Try.prog 3 (dArgs k0 n0 k1 n1 k2 n2 k3 n3 k4 n4 k5 n5 k6 n6 k7 n7 pc 9 a b c rk rn) w (Ret (.bool true) w) := by
  by_cases g0 : (0 : Int) ≤ a
  · skip
    by_cases g1 : a ≤ 7
    · skip
      by_cases g2 : (0 : Int) ≤ b
      · skip
        by_cases g3 : b ≤ 512
        · skip
          by_cases g4 : (0 : Int) ≤ c
          · skip
            by_cases g5 : c ≤ 0
            · skip
              obtain rfl : c = 0 := by omega
              by_cases g6 : pc < 0
              · skip
                exact op9_0 k0 n0 k1 n1 k2 n2 k3 n3 k4 n4 k5 n5 k6 n6 k7 n7 pc a b rk rn (decide_eq_true (by omega)) (decide_eq_true (by omega)) (decide_eq_true (by omega)) (decide_eq_true (by omega)) (decide_eq_true (by omega)) (decide_eq_true (by omega)) (decide_eq_true (by omega)) (decide_eq_true (by omega)) w
              · skip
                by_cases g7 : pc ≥ 512
                · skip
                  exact op9_1 k0 n0 k1 n1 k2 n2 k3 n3 k4 n4 k5 n5 k6 n6 k7 n7 pc a b rk rn (decide_eq_true (by omega)) (decide_eq_true (by omega)) (decide_eq_true (by omega)) (decide_eq_true (by omega)) (decide_eq_false (by omega)) (decide_eq_true (by omega)) (decide_eq_true (by omega)) (decide_eq_true (by omega)) (decide_eq_true (by omega)) (decide_eq_true (by omega)) w
                · skip
                  by_cases g8 : ((sel a [k0, k1, k2, k3, k4, k5, k6, k7]) = 2 ∧ (sel a [n0, n1, n2, n3, n4, n5, n6, n7]) = 0)
                  · skip
                    exact op9_2 k0 n0 k1 n1 k2 n2 k3 n3 k4 n4 k5 n5 k6 n6 k7 n7 pc a b rk rn (decide_eq_true (by omega)) (decide_eq_true (by omega)) (decide_eq_true (by omega)) (decide_eq_true (by omega)) (decide_eq_false (by omega)) (decide_eq_false (by omega)) (beq_iff_eq.2 (idx_eq (by omega))) (blt_of (by omega)) (row8g _ (by omega) _ _ _ _ _ _ _ _ _ _ _ _ _ _ _ _ _ _ (by omega) (by omega)) (decide_eq_true (by omega)) (decide_eq_true (by omega)) (decide_eq_true (by omega)) (decide_eq_false (by omega)) w
                  · skip
                    by_cases g9 : ((sel a [k0, k1, k2, k3, k4, k5, k6, k7]) = 1 ∧ (sel a [n0, n1, n2, n3, n4, n5, n6, n7]) = 0)
                    · skip
                      exact op9_3 k0 n0 k1 n1 k2 n2 k3 n3 k4 n4 k5 n5 k6 n6 k7 n7 pc a b rk rn (decide_eq_true (by omega)) (decide_eq_true (by omega)) (decide_eq_true (by omega)) (decide_eq_true (by omega)) (decide_eq_false (by omega)) (decide_eq_false (by omega)) (beq_iff_eq.2 (idx_eq (by omega))) (blt_of (by omega)) (row8g _ (by omega) _ _ _ _ _ _ _ _ _ _ _ _ _ _ _ _ _ _ (by omega) (by omega)) (decide_eq_true (by omega)) (decide_eq_true (by omega)) (decide_eq_true (by omega)) (decide_eq_false (by omega)) w
                    · skip
                      exact op9_4 k0 n0 k1 n1 k2 n2 k3 n3 k4 n4 k5 n5 k6 n6 k7 n7 pc a b rk rn (decide_eq_true (by omega)) (decide_eq_true (by omega)) (decide_eq_true (by omega)) (decide_eq_true (by omega)) (decide_eq_false (by omega)) (decide_eq_false (by omega)) (beq_iff_eq.2 (idx_eq (by omega))) (blt_of (by omega)) (row8g _ (by omega) _ _ _ _ _ _ _ _ _ _ _ _ _ _ _ _ _ _ (by omega) (by omega)) (agg_false (fun hh => by simp only [Bool.and_eq_true, beq_iff_eq, and_true] at hh; omega)) (agg_false (fun hh => by simp only [Bool.and_eq_true, beq_iff_eq, and_true] at hh; omega)) (decide_eq_true (by omega)) (decide_eq_true (by omega)) (decide_eq_true (by omega)) (decide_eq_false (by omega)) w
            · skip
              exact op9_5 k0 n0 k1 n1 k2 n2 k3 n3 k4 n4 k5 n5 k6 n6 k7 n7 pc a b c rk rn (decide_eq_true (by omega)) (decide_eq_true (by omega)) (decide_eq_true (by omega)) (decide_eq_true (by omega)) (decide_eq_true (by omega)) (decide_eq_false (by omega)) (decide_eq_true (by omega)) (decide_eq_true (by omega)) (decide_eq_true (by omega)) (beq_eq_false_iff_ne.2 (by omega)) w
          · skip
            exact op9_6 k0 n0 k1 n1 k2 n2 k3 n3 k4 n4 k5 n5 k6 n6 k7 n7 pc a b c rk rn (decide_eq_true (by omega)) (decide_eq_true (by omega)) (decide_eq_true (by omega)) (decide_eq_true (by omega)) (decide_eq_false (by omega)) (decide_eq_true (by omega)) (decide_eq_true (by omega)) (decide_eq_true (by omega)) (beq_eq_false_iff_ne.2 (by omega)) w
        · skip
          exact op9_7 k0 n0 k1 n1 k2 n2 k3 n3 k4 n4 k5 n5 k6 n6 k7 n7 pc a b c rk rn (decide_eq_true (by omega)) (decide_eq_true (by omega)) (decide_eq_true (by omega)) (decide_eq_false (by omega)) (decide_eq_true (by omega)) (decide_eq_true (by omega)) (decide_eq_true (by omega)) w
      · skip
        exact op9_8 k0 n0 k1 n1 k2 n2 k3 n3 k4 n4 k5 n5 k6 n6 k7 n7 pc a b c rk rn (decide_eq_true (by omega)) (decide_eq_true (by omega)) (decide_eq_false (by omega)) (decide_eq_true (by omega)) (decide_eq_true (by omega)) (decide_eq_false (by omega)) w
    · skip
      exact op9_9 k0 n0 k1 n1 k2 n2 k3 n3 k4 n4 k5 n5 k6 n6 k7 n7 pc a b c rk rn (decide_eq_true (by omega)) (decide_eq_false (by omega)) (decide_eq_true (by omega)) (decide_eq_false (by omega)) w
  · skip
    exact op9_10 k0 n0 k1 n1 k2 n2 k3 n3 k4 n4 k5 n5 k6 n6 k7 n7 pc a b c rk rn (decide_eq_false (by omega)) (decide_eq_false (by omega)) w
theorem op10 (k0 : Int) (n0 : Int) (k1 : Int) (n1 : Int) (k2 : Int) (n2 : Int) (k3 : Int) (n3 : Int) (k4 : Int) (n4 : Int) (k5 : Int) (n5 : Int) (k6 : Int) (n6 : Int) (k7 : Int) (n7 : Int) (pc : Int) (a : Int) (b : Int) (c : Int) (rk : Int) (rn : Int)  (w : World) : Calls Try.prog 3 (dArgs k0 n0 k1 n1 k2 n2 k3 n3 k4 n4 k5 n5 k6 n6 k7 n7 pc 10 a b c rk rn) w (Ret (.bool true) w) := by
  by_cases g0 : (0 : Int) ≤ a
  · skip
    by_cases g1 : a ≤ 7
    · skip
      by_cases g2 : (0 : Int) ≤ b
      · skip
        by_cases g3 : b ≤ 0
        · skip
          obtain rfl : b = 0 := by omega
          by_cases g4 : (0 : Int) ≤ c
          · skip
            by_cases g5 : c ≤ 0
            · skip
              obtain rfl : c = 0 := by omega
              by_cases g6 : pc < 0
              · skip
                exact op10_0 k0 n0 k1 n1 k2 n2 k3 n3 k4 n4 k5 n5 k6 n6 k7 n7 pc a rk rn (decide_eq_true (by omega)) (decide_eq_true (by omega)) (decide_eq_true (by omega)) (decide_eq_true (by omega)) (decide_eq_true (by omega)) w
              · skip
                by_cases g7 : pc ≥ 512
                · skip
                  exact op10_1 k0 n0 k1 n1 k2 n2 k3 n3 k4 n4 k5 n5 k6 n6 k7 n7 pc a rk rn (decide_eq_true (by omega)) (decide_eq_true (by omega)) (decide_eq_false (by omega)) (decide_eq_true (by omega)) (decide_eq_true (by omega)) (decide_eq_true (by omega)) (decide_eq_true (by omega)) w
                · skip
                  exact op10_2 k0 n0 k1 n1 k2 n2 k3 n3 k4 n4 k5 n5 k6 n6 k7 n7 pc a rk rn (decide_eq_true (by omega)) (decide_eq_true (by omega)) (decide_eq_false (by omega)) (decide_eq_false (by omega)) (decide_eq_true (by omega)) (decide_eq_true (by omega)) (decide_eq_false (by omega)) (beq_iff_eq.2 (by first | rfl | omega | (simp only [IntKind.wrap_i64]; omega) | (rw [Int.tmod_eq_emod_of_nonneg (by omega)] <;> omega) | (rw [Int.tdiv_eq_ediv_of_nonneg (by omega)] <;> (try simp only [IntKind.wrap_i64]) <;> omega))) w
            · skip
              exact op10_3 k0 n0 k1 n1 k2 n2 k3 n3 k4 n4 k5 n5 k6 n6 k7 n7 pc a c rk rn (decide_eq_true (by omega)) (decide_eq_true (by omega)) (decide_eq_true (by omega)) (decide_eq_false (by omega)) (decide_eq_true (by omega)) (decide_eq_true (by omega)) (beq_eq_false_iff_ne.2 (by omega)) w
          · skip
            exact op10_4 k0 n0 k1 n1 k2 n2 k3 n3 k4 n4 k5 n5 k6 n6 k7 n7 pc a c rk rn (decide_eq_true (by omega)) (decide_eq_true (by omega)) (decide_eq_false (by omega)) (decide_eq_true (by omega)) (decide_eq_true (by omega)) (beq_eq_false_iff_ne.2 (by omega)) w
        · skip
          exact op10_5 k0 n0 k1 n1 k2 n2 k3 n3 k4 n4 k5 n5 k6 n6 k7 n7 pc a b c rk rn (decide_eq_true (by omega)) (decide_eq_true (by omega)) (decide_eq_true (by omega)) (decide_eq_false (by omega)) (decide_eq_true (by omega)) (decide_eq_true (by omega)) (beq_eq_false_iff_ne.2 (by omega)) w
      · skip
        exact op10_6 k0 n0 k1 n1 k2 n2 k3 n3 k4 n4 k5 n5 k6 n6 k7 n7 pc a b c rk rn (decide_eq_true (by omega)) (decide_eq_true (by omega)) (decide_eq_false (by omega)) (decide_eq_true (by omega)) (decide_eq_true (by omega)) (beq_eq_false_iff_ne.2 (by omega)) w
    · skip
      exact op10_7 k0 n0 k1 n1 k2 n2 k3 n3 k4 n4 k5 n5 k6 n6 k7 n7 pc a b c rk rn (decide_eq_true (by omega)) (decide_eq_false (by omega)) (decide_eq_true (by omega)) (decide_eq_false (by omega)) w
  · skip
    exact op10_8 k0 n0 k1 n1 k2 n2 k3 n3 k4 n4 k5 n5 k6 n6 k7 n7 pc a b c rk rn (decide_eq_false (by omega)) (decide_eq_false (by omega)) w
theorem op12 (k0 : Int) (n0 : Int) (k1 : Int) (n1 : Int) (k2 : Int) (n2 : Int) (k3 : Int) (n3 : Int) (k4 : Int) (n4 : Int) (k5 : Int) (n5 : Int) (k6 : Int) (n6 : Int) (k7 : Int) (n7 : Int) (pc : Int) (a : Int) (b : Int) (c : Int) (rk : Int) (rn : Int)  (w : World) : Calls Try.prog 3 (dArgs k0 n0 k1 n1 k2 n2 k3 n3 k4 n4 k5 n5 k6 n6 k7 n7 pc 12 a b c rk rn) w (Ret (.bool true) w) := by
  by_cases g0 : (0 : Int) ≤ a
  · skip
    by_cases g1 : a ≤ 7
    · skip
      by_cases g2 : (0 : Int) ≤ b
      · skip
        by_cases g3 : b ≤ 0
        · skip
          obtain rfl : b = 0 := by omega
          by_cases g4 : (0 : Int) ≤ c
          · skip
            by_cases g5 : c ≤ 0
            · skip
              obtain rfl : c = 0 := by omega
              exact op12_0 k0 n0 k1 n1 k2 n2 k3 n3 k4 n4 k5 n5 k6 n6 k7 n7 pc a rk rn (decide_eq_true (by omega)) (decide_eq_true (by omega)) (decide_eq_true (by omega)) (decide_eq_true (by omega)) w
            · skip
              exact op12_1 k0 n0 k1 n1 k2 n2 k3 n3 k4 n4 k5 n5 k6 n6 k7 n7 pc a c rk rn (decide_eq_true (by omega)) (decide_eq_true (by omega)) (decide_eq_true (by omega)) (decide_eq_false (by omega)) (decide_eq_true (by omega)) (decide_eq_true (by omega)) (beq_eq_false_iff_ne.2 (by omega)) w
          · skip
            exact op12_2 k0 n0 k1 n1 k2 n2 k3 n3 k4 n4 k5 n5 k6 n6 k7 n7 pc a c rk rn (decide_eq_true (by omega)) (decide_eq_true (by omega)) (decide_eq_false (by omega)) (decide_eq_true (by omega)) (decide_eq_true (by omega)) (beq_eq_false_iff_ne.2 (by omega)) w
        · skip
          exact op12_3 k0 n0 k1 n1 k2 n2 k3 n3 k4 n4 k5 n5 k6 n6 k7 n7 pc a b c rk rn (decide_eq_true (by omega)) (decide_eq_true (by omega)) (decide_eq_true (by omega)) (decide_eq_false (by omega)) (decide_eq_true (by omega)) (decide_eq_true (by omega)) (beq_eq_false_iff_ne.2 (by omega)) w
      · skip
        exact op12_4 k0 n0 k1 n1 k2 n2 k3 n3 k4 n4 k5 n5 k6 n6 k7 n7 pc a b c rk rn (decide_eq_true (by omega)) (decide_eq_true (by omega)) (decide_eq_false (by omega)) (decide_eq_true (by omega)) (decide_eq_true (by omega)) (beq_eq_false_iff_ne.2 (by omega)) w
    · skip
      exact op12_5 k0 n0 k1 n1 k2 n2 k3 n3 k4 n4 k5 n5 k6 n6 k7 n7 pc a b c rk rn (decide_eq_true (by omega)) (decide_eq_false (by omega)) (decide_eq_true (by omega)) (decide_eq_false (by omega)) w
  · skip
    exact op12_6 k0 n0 k1 n1 k2 n2 k3 n3 k4 n4 k5 n5 k6 n6 k7 n7 pc a b c rk rn (decide_eq_false (by omega)) (decide_eq_false (by omega)) w
theorem op13 (k0 : Int) (n0 : Int) (k1 : Int) (n1 : Int) (k2 : Int) (n2 : Int) (k3 : Int) (n3 : Int) (k4 : Int) (n4 : Int) (k5 : Int) (n5 : Int) (k6 : Int) (n6 : Int) (k7 : Int) (n7 : Int) (pc : Int) (a : Int) (b : Int) (c : Int) (rk : Int) (rn : Int)  (w : World) : Calls Try.prog 3 (dArgs k0 n0 k1 n1 k2 n2 k3 n3 k4 n4 k5 n5 k6 n6 k7 n7 pc 13 a b c rk rn) w (Ret (.bool true) w) := by
  by_cases g0 : (0 : Int) ≤ a
  · skip
    by_cases g1 : a ≤ 7
    · skip
      by_cases g2 : (0 : Int) ≤ b
      · skip
        by_cases g3 : b ≤ 7
        · skip
          by_cases g4 : (0 : Int) ≤ c
          · skip
            by_cases g5 : c ≤ 15
            · skip
              exact op13_0 k0 n0 k1 n1 k2 n2 k3 n3 k4 n4 k5 n5 k6 n6 k7 n7 pc a b c rk rn (decide_eq_true (by omega)) (decide_eq_true (by omega)) (decide_eq_true (by omega)) (decide_eq_true (by omega)) (decide_eq_true (by omega)) (decide_eq_true (by omega)) (decide_eq_true (by omega)) (decide_eq_true (by omega)) (decide_eq_true (by omega)) (decide_eq_true (by omega)) (decide_eq_true (by omega)) (decide_eq_true (by omega)) w
            · skip
              exact op13_1 k0 n0 k1 n1 k2 n2 k3 n3 k4 n4 k5 n5 k6 n6 k7 n7 pc a b c rk rn (decide_eq_true (by omega)) (decide_eq_true (by omega)) (decide_eq_true (by omega)) (decide_eq_true (by omega)) (decide_eq_true (by omega)) (decide_eq_false (by omega)) (decide_eq_true (by omega)) (decide_eq_true (by omega)) (decide_eq_true (by omega)) (decide_eq_true (by omega)) (decide_eq_true (by omega)) (decide_eq_false (by omega)) w
          · skip
            exact op13_2 k0 n0 k1 n1 k2 n2 k3 n3 k4 n4 k5 n5 k6 n6 k7 n7 pc a b c rk rn (decide_eq_true (by omega)) (decide_eq_true (by omega)) (decide_eq_true (by omega)) (decide_eq_true (by omega)) (decide_eq_false (by omega)) (decide_eq_true (by omega)) (decide_eq_true (by omega)) (decide_eq_true (by omega)) (decide_eq_true (by omega)) (decide_eq_false (by omega)) w
        · skip
          exact op13_3 k0 n0 k1 n1 k2 n2 k3 n3 k4 n4 k5 n5 k6 n6 k7 n7 pc a b c rk rn (decide_eq_true (by omega)) (decide_eq_true (by omega)) (decide_eq_true (by omega)) (decide_eq_false (by omega)) (decide_eq_true (by omega)) (decide_eq_true (by omega)) (decide_eq_true (by omega)) (decide_eq_false (by omega)) w
      · skip
        exact op13_4 k0 n0 k1 n1 k2 n2 k3 n3 k4 n4 k5 n5 k6 n6 k7 n7 pc a b c rk rn (decide_eq_true (by omega)) (decide_eq_true (by omega)) (decide_eq_false (by omega)) (decide_eq_true (by omega)) (decide_eq_true (by omega)) (decide_eq_false (by omega)) w
    · skip
      exact op13_5 k0 n0 k1 n1 k2 n2 k3 n3 k4 n4 k5 n5 k6 n6 k7 n7 pc a b c rk rn (decide_eq_true (by omega)) (decide_eq_false (by omega)) (decide_eq_true (by omega)) (decide_eq_false (by omega)) w
  · skip
    exact op13_6 k0 n0 k1 n1 k2 n2 k3 n3 k4 n4 k5 n5 k6 n6 k7 n7 pc a b c rk rn (decide_eq_false (by omega)) (decide_eq_false (by omega)) w
theorem op14 (k0 : Int) (n0 : Int) (k1 : Int) (n1 : Int) (k2 : Int) (n2 : Int) (k3 : Int) (n3 : Int) (k4 : Int) (n4 : Int) (k5 : Int) (n5 : Int) (k6 : Int) (n6 : Int) (k7 : Int) (n7 : Int) (pc : Int) (a : Int) (b : Int) (c : Int) (rk : Int) (rn : Int)  (w : World) : Calls Try.prog 3 (dArgs k0 n0 k1 n1 k2 n2 k3 n3 k4 n4 k5 n5 k6 n6 k7 n7 pc 14 a b c rk rn) w (Ret (.bool true) w) := by
  by_cases g0 : (0 : Int) ≤ a
  · skip
    by_cases g1 : a ≤ 7
    · skip
      by_cases g2 : (0 : Int) ≤ b
      · skip
        by_cases g3 : b ≤ 15
        · skip
          by_cases g4 : (0 : Int) ≤ c
          · skip
            by_cases g5 : c ≤ 7
            · skip
              exact op14_0 k0 n0 k1 n1 k2 n2 k3 n3 k4 n4 k5 n5 k6 n6 k7 n7 pc a b c rk rn (decide_eq_true (by omega)) (decide_eq_true (by omega)) (decide_eq_true (by omega)) (decide_eq_true (by omega)) (decide_eq_true (by omega)) (decide_eq_true (by omega)) (decide_eq_true (by omega)) (decide_eq_true (by omega)) (decide_eq_true (by omega)) (decide_eq_true (by omega)) (decide_eq_true (by omega)) (decide_eq_true (by omega)) w
            · skip
              exact op14_1 k0 n0 k1 n1 k2 n2 k3 n3 k4 n4 k5 n5 k6 n6 k7 n7 pc a b c rk rn (decide_eq_true (by omega)) (decide_eq_true (by omega)) (decide_eq_true (by omega)) (decide_eq_true (by omega)) (decide_eq_true (by omega)) (decide_eq_false (by omega)) (decide_eq_true (by omega)) (decide_eq_true (by omega)) (decide_eq_true (by omega)) (decide_eq_true (by omega)) (decide_eq_true (by omega)) (decide_eq_false (by omega)) w
          · skip
            exact op14_2 k0 n0 k1 n1 k2 n2 k3 n3 k4 n4 k5 n5 k6 n6 k7 n7 pc a b c rk rn (decide_eq_true (by omega)) (decide_eq_true (by omega)) (decide_eq_true (by omega)) (decide_eq_true (by omega)) (decide_eq_false (by omega)) (decide_eq_true (by omega)) (decide_eq_true (by omega)) (decide_eq_true (by omega)) (decide_eq_true (by omega)) (decide_eq_false (by omega)) w
        · skip
          exact op14_3 k0 n0 k1 n1 k2 n2 k3 n3 k4 n4 k5 n5 k6 n6 k7 n7 pc a b c rk rn (decide_eq_true (by omega)) (decide_eq_true (by omega)) (decide_eq_true (by omega)) (decide_eq_false (by omega)) (decide_eq_true (by omega)) (decide_eq_true (by omega)) (decide_eq_true (by omega)) (decide_eq_false (by omega)) w
      · skip
        exact op14_4 k0 n0 k1 n1 k2 n2 k3 n3 k4 n4 k5 n5 k6 n6 k7 n7 pc a b c rk rn (decide_eq_true (by omega)) (decide_eq_true (by omega)) (decide_eq_false (by omega)) (decide_eq_true (by omega)) (decide_eq_true (by omega)) (decide_eq_false (by omega)) w
    · skip
      exact op14_5 k0 n0 k1 n1 k2 n2 k3 n3 k4 n4 k5 n5 k6 n6 k7 n7 pc a b c rk rn (decide_eq_true (by omega)) (decide_eq_false (by omega)) (decide_eq_true (by omega)) (decide_eq_false (by omega)) w
  · skip
    exact op14_6 k0 n0 k1 n1 k2 n2 k3 n3 k4 n4 k5 n5 k6 n6 k7 n7 pc a b c rk rn (decide_eq_false (by omega)) (decide_eq_false (by omega)) w
theorem op15 (k0 : Int) (n0 : Int) (k1 : Int) (n1 : Int) (k2 : Int) (n2 : Int) (k3 : Int) (n3 : Int) (k4 : Int) (n4 : Int) (k5 : Int) (n5 : Int) (k6 : Int) (n6 : Int) (k7 : Int) (n7 : Int) (pc : Int) (a : Int) (b : Int) (c : Int) (rk : Int) (rn : Int)  (w : World) : Calls Try.prog 3 (dArgs k0 n0 k1 n1 k2 n2 k3 n3 k4 n4 k5 n5 k6 n6 k7 n7 pc 15 a b c rk rn) w (Ret (.bool true) w) := by
  by_cases g0 : (0 : Int) ≤ a
  · skip
    by_cases g1 : a ≤ 0
    · skip
      obtain rfl : a = 0 := by omega
      by_cases g2 : (0 : Int) ≤ b
      · skip
        by_cases g3 : b ≤ 0
        · skip
          obtain rfl : b = 0 := by omega
          by_cases g4 : (0 : Int) ≤ c
          · skip
            by_cases g5 : c ≤ 0
            · skip
              obtain rfl : c = 0 := by omega
              exact op15_0 k0 n0 k1 n1 k2 n2 k3 n3 k4 n4 k5 n5 k6 n6 k7 n7 pc rk rn  w
            · skip
              exact op15_1 k0 n0 k1 n1 k2 n2 k3 n3 k4 n4 k5 n5 k6 n6 k7 n7 pc c rk rn (decide_eq_true (by omega)) (decide_eq_false (by omega)) (beq_eq_false_iff_ne.2 (by omega)) w
          · skip
            exact op15_2 k0 n0 k1 n1 k2 n2 k3 n3 k4 n4 k5 n5 k6 n6 k7 n7 pc c rk rn (decide_eq_false (by omega)) (beq_eq_false_iff_ne.2 (by omega)) w
        · skip
          exact op15_3 k0 n0 k1 n1 k2 n2 k3 n3 k4 n4 k5 n5 k6 n6 k7 n7 pc b c rk rn (decide_eq_true (by omega)) (decide_eq_false (by omega)) (beq_eq_false_iff_ne.2 (by omega)) w
      · skip
        exact op15_4 k0 n0 k1 n1 k2 n2 k3 n3 k4 n4 k5 n5 k6 n6 k7 n7 pc b c rk rn (decide_eq_false (by omega)) (beq_eq_false_iff_ne.2 (by omega)) w
    · skip
      exact op15_5 k0 n0 k1 n1 k2 n2 k3 n3 k4 n4 k5 n5 k6 n6 k7 n7 pc a b c rk rn (decide_eq_true (by omega)) (decide_eq_false (by omega)) (beq_eq_false_iff_ne.2 (by omega)) w
  · skip
    exact op15_6 k0 n0 k1 n1 k2 n2 k3 n3 k4 n4 k5 n5 k6 n6 k7 n7 pc a b c rk rn (decide_eq_false (by omega)) (beq_eq_false_iff_ne.2 (by omega)) w
theorem op16 (k0 : Int) (n0 : Int) (k1 : Int) (n1 : Int) (k2 : Int) (n2 : Int) (k3 : Int) (n3 : Int) (k4 : Int) (n4 : Int) (k5 : Int) (n5 : Int) (k6 : Int) (n6 : Int) (k7 : Int) (n7 : Int) (pc : Int) (a : Int) (b : Int) (c : Int) (rk : Int) (rn : Int)  (w : World) : Calls Try.prog 3 (dArgs k0 n0 k1 n1 k2 n2 k3 n3 k4 n4 k5 n5 k6 n6 k7 n7 pc 16 a b c rk rn) w (Ret (.bool true) w) := by
  by_cases g0 : (0 : Int) ≤ a
  · skip
    by_cases g1 : a ≤ 0
    · skip
      obtain rfl : a = 0 := by omega
      by_cases g2 : (0 : Int) ≤ b
      · skip
        by_cases g3 : b ≤ 0
        · skip
          obtain rfl : b = 0 := by omega
          by_cases g4 : (0 : Int) ≤ c
          · skip
            by_cases g5 : c ≤ 0
            · skip
              obtain rfl : c = 0 := by omega
              exact op16_0 k0 n0 k1 n1 k2 n2 k3 n3 k4 n4 k5 n5 k6 n6 k7 n7 pc rk rn  w
            · skip
              exact op16_1 k0 n0 k1 n1 k2 n2 k3 n3 k4 n4 k5 n5 k6 n6 k7 n7 pc c rk rn (decide_eq_true (by omega)) (decide_eq_false (by omega)) (beq_eq_false_iff_ne.2 (by omega)) w
          · skip
            exact op16_2 k0 n0 k1 n1 k2 n2 k3 n3 k4 n4 k5 n5 k6 n6 k7 n7 pc c rk rn (decide_eq_false (by omega)) (beq_eq_false_iff_ne.2 (by omega)) w
        · skip
          exact op16_3 k0 n0 k1 n1 k2 n2 k3 n3 k4 n4 k5 n5 k6 n6 k7 n7 pc b c rk rn (decide_eq_true (by omega)) (decide_eq_false (by omega)) (beq_eq_false_iff_ne.2 (by omega)) w
      · skip
        exact op16_4 k0 n0 k1 n1 k2 n2 k3 n3 k4 n4 k5 n5 k6 n6 k7 n7 pc b c rk rn (decide_eq_false (by omega)) (beq_eq_false_iff_ne.2 (by omega)) w
    · skip
      exact op16_5 k0 n0 k1 n1 k2 n2 k3 n3 k4 n4 k5 n5 k6 n6 k7 n7 pc a b c rk rn (decide_eq_true (by omega)) (decide_eq_false (by omega)) (beq_eq_false_iff_ne.2 (by omega)) w
  · skip
    exact op16_6 k0 n0 k1 n1 k2 n2 k3 n3 k4 n4 k5 n5 k6 n6 k7 n7 pc a b c rk rn (decide_eq_false (by omega)) (beq_eq_false_iff_ne.2 (by omega)) w
theorem op17 (k0 : Int) (n0 : Int) (k1 : Int) (n1 : Int) (k2 : Int) (n2 : Int) (k3 : Int) (n3 : Int) (k4 : Int) (n4 : Int) (k5 : Int) (n5 : Int) (k6 : Int) (n6 : Int) (k7 : Int) (n7 : Int) (pc : Int) (a : Int) (b : Int) (c : Int) (rk : Int) (rn : Int)  (w : World) : Calls Try.prog 3 (dArgs k0 n0 k1 n1 k2 n2 k3 n3 k4 n4 k5 n5 k6 n6 k7 n7 pc 17 a b c rk rn) w (Ret (.bool true) w) := by
  by_cases g0 : (0 : Int) ≤ a
  · skip
    by_cases g1 : a ≤ 0
    · skip
      obtain rfl : a = 0 := by omega
      by_cases g2 : (0 : Int) ≤ b
      · skip
        by_cases g3 : b ≤ 0
        · skip
          obtain rfl : b = 0 := by omega
          by_cases g4 : (0 : Int) ≤ c
          · skip
            by_cases g5 : c ≤ 0
            · skip
              obtain rfl : c = 0 := by omega
              exact op17_0 k0 n0 k1 n1 k2 n2 k3 n3 k4 n4 k5 n5 k6 n6 k7 n7 pc rk rn  w
            · skip
              exact op17_1 k0 n0 k1 n1 k2 n2 k3 n3 k4 n4 k5 n5 k6 n6 k7 n7 pc c rk rn (decide_eq_true (by omega)) (decide_eq_false (by omega)) (beq_eq_false_iff_ne.2 (by omega)) w
          · skip
            exact op17_2 k0 n0 k1 n1 k2 n2 k3 n3 k4 n4 k5 n5 k6 n6 k7 n7 pc c rk rn (decide_eq_false (by omega)) (beq_eq_false_iff_ne.2 (by omega)) w
        · skip
          exact op17_3 k0 n0 k1 n1 k2 n2 k3 n3 k4 n4 k5 n5 k6 n6 k7 n7 pc b c rk rn (decide_eq_true (by omega)) (decide_eq_false (by omega)) (beq_eq_false_iff_ne.2 (by omega)) w
      · skip
        exact op17_4 k0 n0 k1 n1 k2 n2 k3 n3 k4 n4 k5 n5 k6 n6 k7 n7 pc b c rk rn (decide_eq_false (by omega)) (beq_eq_false_iff_ne.2 (by omega)) w
    · skip
      exact op17_5 k0 n0 k1 n1 k2 n2 k3 n3 k4 n4 k5 n5 k6 n6 k7 n7 pc a b c rk rn (decide_eq_true (by omega)) (decide_eq_false (by omega)) (beq_eq_false_iff_ne.2 (by omega)) w
  · skip
    exact op17_6 k0 n0 k1 n1 k2 n2 k3 n3 k4 n4 k5 n5 k6 n6 k7 n7 pc a b c rk rn (decide_eq_false (by omega)) (beq_eq_false_iff_ne.2 (by omega)) w
theorem op18 (k0 : Int) (n0 : Int) (k1 : Int) (n1 : Int) (k2 : Int) (n2 : Int) (k3 : Int) (n3 : Int) (k4 : Int) (n4 : Int) (k5 : Int) (n5 : Int) (k6 : Int) (n6 : Int) (k7 : Int) (n7 : Int) (pc : Int) (a : Int) (b : Int) (c : Int) (rk : Int) (rn : Int)  (w : World) : Calls Try.prog 3 (dArgs k0 n0 k1 n1 k2 n2 k3 n3 k4 n4 k5 n5 k6 n6 k7 n7 pc 18 a b c rk rn) w (Ret (.bool true) w) := by
  by_cases g0 : (0 : Int) ≤ a
  · skip
    by_cases g1 : a ≤ 0
    · skip
      obtain rfl : a = 0 := by omega
      by_cases g2 : (0 : Int) ≤ b
      · skip
        by_cases g3 : b ≤ 0
        · skip
          obtain rfl : b = 0 := by omega
          by_cases g4 : (0 : Int) ≤ c
          · skip
            by_cases g5 : c ≤ 0
            · skip
              obtain rfl : c = 0 := by omega
              exact op18_0 k0 n0 k1 n1 k2 n2 k3 n3 k4 n4 k5 n5 k6 n6 k7 n7 pc rk rn  w
            · skip
              exact op18_1 k0 n0 k1 n1 k2 n2 k3 n3 k4 n4 k5 n5 k6 n6 k7 n7 pc c rk rn (decide_eq_true (by omega)) (decide_eq_false (by omega)) (beq_eq_false_iff_ne.2 (by omega)) w
          · skip
            exact op18_2 k0 n0 k1 n1 k2 n2 k3 n3 k4 n4 k5 n5 k6 n6 k7 n7 pc c rk rn (decide_eq_false (by omega)) (beq_eq_false_iff_ne.2 (by omega)) w
        · skip
          exact op18_3 k0 n0 k1 n1 k2 n2 k3 n3 k4 n4 k5 n5 k6 n6 k7 n7 pc b c rk rn (decide_eq_true (by omega)) (decide_eq_false (by omega)) (beq_eq_false_iff_ne.2 (by omega)) w
      · skip
        exact op18_4 k0 n0 k1 n1 k2 n2 k3 n3 k4 n4 k5 n5 k6 n6 k7 n7 pc b c rk rn (decide_eq_false (by omega)) (beq_eq_false_iff_ne.2 (by omega)) w
    · skip
      exact op18_5 k0 n0 k1 n1 k2 n2 k3 n3 k4 n4 k5 n5 k6 n6 k7 n7 pc a b c rk rn (decide_eq_true (by omega)) (decide_eq_false (by omega)) (beq_eq_false_iff_ne.2 (by omega)) w
  · skip
    exact op18_6 k0 n0 k1 n1 k2 n2 k3 n3 k4 n4 k5 n5 k6 n6 k7 n7 pc a b c rk rn (decide_eq_false (by omega)) (beq_eq_false_iff_ne.2 (by omega)) w
theorem op19 (k0 : Int) (n0 : Int) (k1 : Int) (n1 : Int) (k2 : Int) (n2 : Int) (k3 : Int) (n3 : Int) (k4 : Int) (n4 : Int) (k5 : Int) (n5 : Int) (k6 : Int) (n6 : Int) (k7 : Int) (n7 : Int) (pc : Int) (a : Int) (b : Int) (c : Int) (rk : Int) (rn : Int)  (w : World) : Calls Try.prog 3 (dArgs k0 n0 k1 n1 k2 n2 k3 n3 k4 n4 k5 n5 k6 n6 k7 n7 pc 19 a b c rk rn) w (Ret (.bool true) w) := by
  by_cases g0 : (0 : Int) ≤ a
  · skip
    by_cases g1 : a ≤ 7
    · skip
      by_cases g2 : (0 : Int) ≤ b
      · skip
        by_cases g3 : b ≤ 0
        · skip
          obtain rfl : b = 0 := by omega
          by_cases g4 : (0 : Int) ≤ c
          · skip
            by_cases g5 : c ≤ 0
            · skip
              obtain rfl : c = 0 := by omega
              by_cases g6 : pc < 0
              · skip
                exact op19_0 k0 n0 k1 n1 k2 n2 k3 n3 k4 n4 k5 n5 k6 n6 k7 n7 pc a rk rn (decide_eq_true (by omega)) (decide_eq_true (by omega)) (decide_eq_true (by omega)) (decide_eq_true (by omega)) (decide_eq_true (by omega)) w
              · skip
                by_cases g7 : pc ≥ 512
                · skip
                  exact op19_1 k0 n0 k1 n1 k2 n2 k3 n3 k4 n4 k5 n5 k6 n6 k7 n7 pc a rk rn (decide_eq_true (by omega)) (decide_eq_true (by omega)) (decide_eq_false (by omega)) (decide_eq_true (by omega)) (decide_eq_true (by omega)) (decide_eq_true (by omega)) (decide_eq_true (by omega)) w
                · skip
                  exact op19_2 k0 n0 k1 n1 k2 n2 k3 n3 k4 n4 k5 n5 k6 n6 k7 n7 pc a rk rn (decide_eq_true (by omega)) (decide_eq_true (by omega)) (decide_eq_false (by omega)) (decide_eq_false (by omega)) (beq_iff_eq.2 (idx_eq (by omega))) (blt_of (by omega)) (row8g _ (by omega) _ _ _ _ _ _ _ _ _ _ _ _ _ _ _ _ _ _ (by omega) (by omega)) (decide_eq_true (by omega)) (decide_eq_true (by omega)) (decide_eq_false (by omega)) (beq_iff_eq.2 (by first | rfl | omega | (simp only [IntKind.wrap_i64]; omega) | (rw [Int.tmod_eq_emod_of_nonneg (by omega)] <;> omega) | (rw [Int.tdiv_eq_ediv_of_nonneg (by omega)] <;> (try simp only [IntKind.wrap_i64]) <;> omega))) (by have hc : a = 0 ∨ a = 1 ∨ a = 2 ∨ a = 3 ∨ a = 4 ∨ a = 5 ∨ a = 6 ∨ a = 7 := (by omega); rcases hc with rfl | rfl | rfl | rfl | rfl | rfl | rfl | rfl <;> simp [putv, sel]) w
            · skip
              exact op19_3 k0 n0 k1 n1 k2 n2 k3 n3 k4 n4 k5 n5 k6 n6 k7 n7 pc a c rk rn (decide_eq_true (by omega)) (decide_eq_true (by omega)) (decide_eq_true (by omega)) (decide_eq_false (by omega)) (decide_eq_true (by omega)) (decide_eq_true (by omega)) (beq_eq_false_iff_ne.2 (by omega)) w
          · skip
            exact op19_4 k0 n0 k1 n1 k2 n2 k3 n3 k4 n4 k5 n5 k6 n6 k7 n7 pc a c rk rn (decide_eq_true (by omega)) (decide_eq_true (by omega)) (decide_eq_false (by omega)) (decide_eq_true (by omega)) (decide_eq_true (by omega)) (beq_eq_false_iff_ne.2 (by omega)) w
        · skip
          exact op19_5 k0 n0 k1 n1 k2 n2 k3 n3 k4 n4 k5 n5 k6 n6 k7 n7 pc a b c rk rn (decide_eq_true (by omega)) (decide_eq_true (by omega)) (decide_eq_true (by omega)) (decide_eq_false (by omega)) (decide_eq_true (by omega)) (decide_eq_true (by omega)) (beq_eq_false_iff_ne.2 (by omega)) w
      · skip
        exact op19_6 k0 n0 k1 n1 k2 n2 k3 n3 k4 n4 k5 n5 k6 n6 k7 n7 pc a b c rk rn (decide_eq_true (by omega)) (decide_eq_true (by omega)) (decide_eq_false (by omega)) (decide_eq_true (by omega)) (decide_eq_true (by omega)) (beq_eq_false_iff_ne.2 (by omega)) w
    · skip
      exact op19_7 k0 n0 k1 n1 k2 n2 k3 n3 k4 n4 k5 n5 k6 n6 k7 n7 pc a b c rk rn (decide_eq_true (by omega)) (decide_eq_false (by omega)) (decide_eq_true (by omega)) (decide_eq_false (by omega)) w
  · skip
    exact op19_8 k0 n0 k1 n1 k2 n2 k3 n3 k4 n4 k5 n5 k6 n6 k7 n7 pc a b c rk rn (decide_eq_false (by omega)) (decide_eq_false (by omega)) w
theorem op20 (k0 : Int) (n0 : Int) (k1 : Int) (n1 : Int) (k2 : Int) (n2 : Int) (k3 : Int) (n3 : Int) (k4 : Int) (n4 : Int) (k5 : Int) (n5 : Int) (k6 : Int) (n6 : Int) (k7 : Int) (n7 : Int) (pc : Int) (a : Int) (b : Int) (c : Int) (rk : Int) (rn : Int)  (w : World) : Calls Try.prog 3 (dArgs k0 n0 k1 n1 k2 n2 k3 n3 k4 n4 k5 n5 k6 n6 k7 n7 pc 20 a b c rk rn) w (Ret (.bool true) w) := by
  by_cases g0 : (0 : Int) ≤ a
  · skip
    by_cases g1 : a ≤ 0
    · skip
      obtain rfl : a = 0 := by omega
      by_cases g2 : (0 : Int) ≤ b
      · skip
        by_cases g3 : b ≤ 0
        · skip
          obtain rfl : b = 0 := by omega
          by_cases g4 : (0 : Int) ≤ c
          · skip
            by_cases g5 : c ≤ 0
            · skip
              obtain rfl : c = 0 := by omega
              exact op20_0 k0 n0 k1 n1 k2 n2 k3 n3 k4 n4 k5 n5 k6 n6 k7 n7 pc rk rn  w
            · skip
              exact op20_1 k0 n0 k1 n1 k2 n2 k3 n3 k4 n4 k5 n5 k6 n6 k7 n7 pc c rk rn (decide_eq_true (by omega)) (decide_eq_false (by omega)) (beq_eq_false_iff_ne.2 (by omega)) w
          · skip
            exact op20_2 k0 n0 k1 n1 k2 n2 k3 n3 k4 n4 k5 n5 k6 n6 k7 n7 pc c rk rn (decide_eq_false (by omega)) (beq_eq_false_iff_ne.2 (by omega)) w
        · skip
          exact op20_3 k0 n0 k1 n1 k2 n2 k3 n3 k4 n4 k5 n5 k6 n6 k7 n7 pc b c rk rn (decide_eq_true (by omega)) (decide_eq_false (by omega)) (beq_eq_false_iff_ne.2 (by omega)) w
      · skip
        exact op20_4 k0 n0 k1 n1 k2 n2 k3 n3 k4 n4 k5 n5 k6 n6 k7 n7 pc b c rk rn (decide_eq_false (by omega)) (beq_eq_false_iff_ne.2 (by omega)) w
    · skip
      exact op20_5 k0 n0 k1 n1 k2 n2 k3 n3 k4 n4 k5 n5 k6 n6 k7 n7 pc a b c rk rn (decide_eq_true (by omega)) (decide_eq_false (by omega)) (beq_eq_false_iff_ne.2 (by omega)) w
  · skip
    exact op20_6 k0 n0 k1 n1 k2 n2 k3 n3 k4 n4 k5 n5 k6 n6 k7 n7 pc a b c rk rn (decide_eq_false (by omega)) (beq_eq_false_iff_ne.2 (by omega)) w
theorem opH (k0 : Int) (n0 : Int) (k1 : Int) (n1 : Int) (k2 : Int) (n2 : Int) (k3 : Int) (n3 : Int) (k4 : Int) (n4 : Int) (k5 : Int) (n5 : Int) (k6 : Int) (n6 : Int) (k7 : Int) (n7 : Int) (pc : Int) (op : Int) (a : Int) (b : Int) (c : Int) (rk : Int) (rn : Int) (hop : 20 < op) (w : World) : Calls Try.prog 3 (dArgs k0 n0 k1 n1 k2 n2 k3 n3 k4 n4 k5 n5 k6 n6 k7 n7 pc op a b c rk rn) w (Ret (.bool true) w) := by
  exact opH_0 k0 n0 k1 n1 k2 n2 k3 n3 k4 n4 k5 n5 k6 n6 k7 n7 pc op a b c rk rn (decide_eq_false (by omega)) (decide_eq_true (by omega)) (beq_eq_false_iff_ne.2 (by omega)) (beq_eq_false_iff_ne.2 (by omega)) (beq_eq_false_iff_ne.2 (by omega)) (beq_eq_false_iff_ne.2 (by omega)) (beq_eq_false_iff_ne.2 (by omega)) (beq_eq_false_iff_ne.2 (by omega)) (beq_eq_false_iff_ne.2 (by omega)) (beq_eq_false_iff_ne.2 (by omega)) (beq_eq_false_iff_ne.2 (by omega)) (beq_eq_false_iff_ne.2 (by omega)) (beq_eq_false_iff_ne.2 (by omega)) (beq_eq_false_iff_ne.2 (by omega)) (beq_eq_false_iff_ne.2 (by omega)) (beq_eq_false_iff_ne.2 (by omega)) (beq_eq_false_iff_ne.2 (by omega)) (beq_eq_false_iff_ne.2 (by omega)) (beq_eq_false_iff_ne.2 (by omega)) (beq_eq_false_iff_ne.2 (by omega)) (beq_eq_false_iff_ne.2 (by omega)) (beq_eq_false_iff_ne.2 (by omega)) w
theorem opL (k0 : Int) (n0 : Int) (k1 : Int) (n1 : Int) (k2 : Int) (n2 : Int) (k3 : Int) (n3 : Int) (k4 : Int) (n4 : Int) (k5 : Int) (n5 : Int) (k6 : Int) (n6 : Int) (k7 : Int) (n7 : Int) (pc : Int) (op : Int) (a : Int) (b : Int) (c : Int) (rk : Int) (rn : Int) (hop : op < 1) (w : World) : Calls Try.prog 3 (dArgs k0 n0 k1 n1 k2 n2 k3 n3 k4 n4 k5 n5 k6 n6 k7 n7 pc op a b c rk rn) w (Ret (.bool true) w) := by
  by_cases g0 : op < 0
  · skip
    exact opL_0 k0 n0 k1 n1 k2 n2 k3 n3 k4 n4 k5 n5 k6 n6 k7 n7 pc op a b c rk rn (decide_eq_true (by omega)) (beq_eq_false_iff_ne.2 (by omega)) (beq_eq_false_iff_ne.2 (by omega)) (beq_eq_false_iff_ne.2 (by omega)) (beq_eq_false_iff_ne.2 (by omega)) (beq_eq_false_iff_ne.2 (by omega)) (beq_eq_false_iff_ne.2 (by omega)) (beq_eq_false_iff_ne.2 (by omega)) (beq_eq_false_iff_ne.2 (by omega)) (beq_eq_false_iff_ne.2 (by omega)) (beq_eq_false_iff_ne.2 (by omega)) (beq_eq_false_iff_ne.2 (by omega)) (beq_eq_false_iff_ne.2 (by omega)) (beq_eq_false_iff_ne.2 (by omega)) (beq_eq_false_iff_ne.2 (by omega)) (beq_eq_false_iff_ne.2 (by omega)) (beq_eq_false_iff_ne.2 (by omega)) (beq_eq_false_iff_ne.2 (by omega)) (beq_eq_false_iff_ne.2 (by omega)) (beq_eq_false_iff_ne.2 (by omega)) (beq_eq_false_iff_ne.2 (by omega)) w
  · skip
    obtain rfl : op = 0 := by omega
    exact opL_1 k0 n0 k1 n1 k2 n2 k3 n3 k4 n4 k5 n5 k6 n6 k7 n7 pc a b c rk rn  w
theorem op11b1 (k0 : Int) (n0 : Int) (k1 : Int) (n1 : Int) (k2 : Int) (n2 : Int) (k3 : Int) (n3 : Int) (k4 : Int) (n4 : Int) (k5 : Int) (n5 : Int) (k6 : Int) (n6 : Int) (k7 : Int) (n7 : Int) (pc : Int) (a : Int) (c : Int) (rk : Int) (rn : Int)  (w : World) : Calls Try.prog 3 (dArgs k0 n0 k1 n1 k2 n2 k3 n3 k4 n4 k5 n5 k6 n6 k7 n7 pc 11 a 1 c rk rn) w (Ret (.bool true) w) := by
  by_cases g0 : (0 : Int) ≤ a
  · skip
    by_cases g1 : a ≤ 7
    · skip
      by_cases g2 : (0 : Int) ≤ c
      · skip
        by_cases g3 : c ≤ 1
        · skip
          exact op11b1_0 k0 n0 k1 n1 k2 n2 k3 n3 k4 n4 k5 n5 k6 n6 k7 n7 pc a c rk rn (decide_eq_true (by omega)) (decide_eq_true (by omega)) (decide_eq_true (by omega)) (decide_eq_true (by omega)) (decide_eq_true (by omega)) (decide_eq_true (by omega)) (decide_eq_true (by omega)) (decide_eq_true (by omega)) w
        · skip
          exact op11b1_1 k0 n0 k1 n1 k2 n2 k3 n3 k4 n4 k5 n5 k6 n6 k7 n7 pc a c rk rn (decide_eq_true (by omega)) (decide_eq_true (by omega)) (decide_eq_true (by omega)) (decide_eq_false (by omega)) (decide_eq_true (by omega)) (decide_eq_true (by omega)) (decide_eq_true (by omega)) (decide_eq_false (by omega)) w
      · skip
        exact op11b1_2 k0 n0 k1 n1 k2 n2 k3 n3 k4 n4 k5 n5 k6 n6 k7 n7 pc a c rk rn (decide_eq_true (by omega)) (decide_eq_true (by omega)) (decide_eq_false (by omega)) (decide_eq_true (by omega)) (decide_eq_true (by omega)) (decide_eq_false (by omega)) w
    · skip
      exact op11b1_3 k0 n0 k1 n1 k2 n2 k3 n3 k4 n4 k5 n5 k6 n6 k7 n7 pc a c rk rn (decide_eq_true (by omega)) (decide_eq_false (by omega)) (decide_eq_true (by omega)) (decide_eq_false (by omega)) w
  · skip
    exact op11b1_4 k0 n0 k1 n1 k2 n2 k3 n3 k4 n4 k5 n5 k6 n6 k7 n7 pc a c rk rn (decide_eq_false (by omega)) (decide_eq_false (by omega)) w
theorem op11b2 (k0 : Int) (n0 : Int) (k1 : Int) (n1 : Int) (k2 : Int) (n2 : Int) (k3 : Int) (n3 : Int) (k4 : Int) (n4 : Int) (k5 : Int) (n5 : Int) (k6 : Int) (n6 : Int) (k7 : Int) (n7 : Int) (pc : Int) (a : Int) (c : Int) (rk : Int) (rn : Int)  (w : World) : Calls Try.prog 3 (dArgs k0 n0 k1 n1 k2 n2 k3 n3 k4 n4 k5 n5 k6 n6 k7 n7 pc 11 a 2 c rk rn) w (Ret (.bool true) w) := by
  by_cases g0 : (0 : Int) ≤ a
  · skip
    by_cases g1 : a ≤ 7
    · skip
      by_cases g2 : (0 : Int) ≤ c
      · skip
        by_cases g3 : c ≤ 3
        · skip
          exact op11b2_0 k0 n0 k1 n1 k2 n2 k3 n3 k4 n4 k5 n5 k6 n6 k7 n7 pc a c rk rn (decide_eq_true (by omega)) (decide_eq_true (by omega)) (decide_eq_true (by omega)) (decide_eq_true (by omega)) (decide_eq_true (by omega)) (decide_eq_true (by omega)) (decide_eq_true (by omega)) (decide_eq_true (by omega)) w
        · skip
          exact op11b2_1 k0 n0 k1 n1 k2 n2 k3 n3 k4 n4 k5 n5 k6 n6 k7 n7 pc a c rk rn (decide_eq_true (by omega)) (decide_eq_true (by omega)) (decide_eq_true (by omega)) (decide_eq_false (by omega)) (decide_eq_true (by omega)) (decide_eq_true (by omega)) (decide_eq_true (by omega)) (decide_eq_false (by omega)) w
      · skip
        exact op11b2_2 k0 n0 k1 n1 k2 n2 k3 n3 k4 n4 k5 n5 k6 n6 k7 n7 pc a c rk rn (decide_eq_true (by omega)) (decide_eq_true (by omega)) (decide_eq_false (by omega)) (decide_eq_true (by omega)) (decide_eq_true (by omega)) (decide_eq_false (by omega)) w
    · skip
      exact op11b2_3 k0 n0 k1 n1 k2 n2 k3 n3 k4 n4 k5 n5 k6 n6 k7 n7 pc a c rk rn (decide_eq_true (by omega)) (decide_eq_false (by omega)) (decide_eq_true (by omega)) (decide_eq_false (by omega)) w
  · skip
    exact op11b2_4 k0 n0 k1 n1 k2 n2 k3 n3 k4 n4 k5 n5 k6 n6 k7 n7 pc a c rk rn (decide_eq_false (by omega)) (decide_eq_false (by omega)) w
theorem op11b3 (k0 : Int) (n0 : Int) (k1 : Int) (n1 : Int) (k2 : Int) (n2 : Int) (k3 : Int) (n3 : Int) (k4 : Int) (n4 : Int) (k5 : Int) (n5 : Int) (k6 : Int) (n6 : Int) (k7 : Int) (n7 : Int) (pc : Int) (a : Int) (c : Int) (rk : Int) (rn : Int)  (w : World) : Calls Try.prog 3 (dArgs k0 n0 k1 n1 k2 n2 k3 n3 k4 n4 k5 n5 k6 n6 k7 n7 pc 11 a 3 c rk rn) w (Ret (.bool true) w) := by
  by_cases g0 : (0 : Int) ≤ a
  · skip
    by_cases g1 : a ≤ 7
    · skip
      by_cases g2 : (0 : Int) ≤ c
      · skip
        by_cases g3 : c ≤ 7
        · skip
          exact op11b3_0 k0 n0 k1 n1 k2 n2 k3 n3 k4 n4 k5 n5 k6 n6 k7 n7 pc a c rk rn (decide_eq_true (by omega)) (decide_eq_true (by omega)) (decide_eq_true (by omega)) (decide_eq_true (by omega)) (decide_eq_true (by omega)) (decide_eq_true (by omega)) (decide_eq_true (by omega)) (decide_eq_true (by omega)) w
        · skip
          exact op11b3_1 k0 n0 k1 n1 k2 n2 k3 n3 k4 n4 k5 n5 k6 n6 k7 n7 pc a c rk rn (decide_eq_true (by omega)) (decide_eq_true (by omega)) (decide_eq_true (by omega)) (decide_eq_false (by omega)) (decide_eq_true (by omega)) (decide_eq_true (by omega)) (decide_eq_true (by omega)) (decide_eq_false (by omega)) w
      · skip
        exact op11b3_2 k0 n0 k1 n1 k2 n2 k3 n3 k4 n4 k5 n5 k6 n6 k7 n7 pc a c rk rn (decide_eq_true (by omega)) (decide_eq_true (by omega)) (decide_eq_false (by omega)) (decide_eq_true (by omega)) (decide_eq_true (by omega)) (decide_eq_false (by omega)) w
    · skip
      exact op11b3_3 k0 n0 k1 n1 k2 n2 k3 n3 k4 n4 k5 n5 k6 n6 k7 n7 pc a c rk rn (decide_eq_true (by omega)) (decide_eq_false (by omega)) (decide_eq_true (by omega)) (decide_eq_false (by omega)) w
  · skip
    exact op11b3_4 k0 n0 k1 n1 k2 n2 k3 n3 k4 n4 k5 n5 k6 n6 k7 n7 pc a c rk rn (decide_eq_false (by omega)) (decide_eq_false (by omega)) w
theorem op11b4 (k0 : Int) (n0 : Int) (k1 : Int) (n1 : Int) (k2 : Int) (n2 : Int) (k3 : Int) (n3 : Int) (k4 : Int) (n4 : Int) (k5 : Int) (n5 : Int) (k6 : Int) (n6 : Int) (k7 : Int) (n7 : Int) (pc : Int) (a : Int) (c : Int) (rk : Int) (rn : Int)  (w : World) : Calls Try.prog 3 (dArgs k0 n0 k1 n1 k2 n2 k3 n3 k4 n4 k5 n5 k6 n6 k7 n7 pc 11 a 4 c rk rn) w (Ret (.bool true) w) := by
  by_cases g0 : (0 : Int) ≤ a
  · skip
    by_cases g1 : a ≤ 7
    · skip
      by_cases g2 : (0 : Int) ≤ c
      · skip
        by_cases g3 : c ≤ 15
        · skip
          exact op11b4_0 k0 n0 k1 n1 k2 n2 k3 n3 k4 n4 k5 n5 k6 n6 k7 n7 pc a c rk rn (decide_eq_true (by omega)) (decide_eq_true (by omega)) (decide_eq_true (by omega)) (decide_eq_true (by omega)) (decide_eq_true (by omega)) (decide_eq_true (by omega)) (decide_eq_true (by omega)) (decide_eq_true (by omega)) w
        · skip
          exact op11b4_1 k0 n0 k1 n1 k2 n2 k3 n3 k4 n4 k5 n5 k6 n6 k7 n7 pc a c rk rn (decide_eq_true (by omega)) (decide_eq_true (by omega)) (decide_eq_true (by omega)) (decide_eq_false (by omega)) (decide_eq_true (by omega)) (decide_eq_true (by omega)) (decide_eq_true (by omega)) (decide_eq_false (by omega)) w
      · skip
        exact op11b4_2 k0 n0 k1 n1 k2 n2 k3 n3 k4 n4 k5 n5 k6 n6 k7 n7 pc a c rk rn (decide_eq_true (by omega)) (decide_eq_true (by omega)) (decide_eq_false (by omega)) (decide_eq_true (by omega)) (decide_eq_true (by omega)) (decide_eq_false (by omega)) w
    · skip
      exact op11b4_3 k0 n0 k1 n1 k2 n2 k3 n3 k4 n4 k5 n5 k6 n6 k7 n7 pc a c rk rn (decide_eq_true (by omega)) (decide_eq_false (by omega)) (decide_eq_true (by omega)) (decide_eq_false (by omega)) w
  · skip
    exact op11b4_4 k0 n0 k1 n1 k2 n2 k3 n3 k4 n4 k5 n5 k6 n6 k7 n7 pc a c rk rn (decide_eq_false (by omega)) (decide_eq_false (by omega)) w
theorem op11b5 (k0 : Int) (n0 : Int) (k1 : Int) (n1 : Int) (k2 : Int) (n2 : Int) (k3 : Int) (n3 : Int) (k4 : Int) (n4 : Int) (k5 : Int) (n5 : Int) (k6 : Int) (n6 : Int) (k7 : Int) (n7 : Int) (pc : Int) (a : Int) (c : Int) (rk : Int) (rn : Int)  (w : World) : Calls Try.prog 3 (dArgs k0 n0 k1 n1 k2 n2 k3 n3 k4 n4 k5 n5 k6 n6 k7 n7 pc 11 a 5 c rk rn) w (Ret (.bool true) w) := by
  by_cases g0 : (0 : Int) ≤ a
  · skip
    by_cases g1 : a ≤ 7
    · skip
      by_cases g2 : (0 : Int) ≤ c
      · skip
        by_cases g3 : c ≤ 31
        · skip
          exact op11b5_0 k0 n0 k1 n1 k2 n2 k3 n3 k4 n4 k5 n5 k6 n6 k7 n7 pc a c rk rn (decide_eq_true (by omega)) (decide_eq_true (by omega)) (decide_eq_true (by omega)) (decide_eq_true (by omega)) (decide_eq_true (by omega)) (decide_eq_true (by omega)) (decide_eq_true (by omega)) (decide_eq_true (by omega)) w
        · skip
          exact op11b5_1 k0 n0 k1 n1 k2 n2 k3 n3 k4 n4 k5 n5 k6 n6 k7 n7 pc a c rk rn (decide_eq_true (by omega)) (decide_eq_true (by omega)) (decide_eq_true (by omega)) (decide_eq_false (by omega)) (decide_eq_true (by omega)) (decide_eq_true (by omega)) (decide_eq_true (by omega)) (decide_eq_false (by omega)) w
      · skip
        exact op11b5_2 k0 n0 k1 n1 k2 n2 k3 n3 k4 n4 k5 n5 k6 n6 k7 n7 pc a c rk rn (decide_eq_true (by omega)) (decide_eq_true (by omega)) (decide_eq_false (by omega)) (decide_eq_true (by omega)) (decide_eq_true (by omega)) (decide_eq_false (by omega)) w
    · skip
      exact op11b5_3 k0 n0 k1 n1 k2 n2 k3 n3 k4 n4 k5 n5 k6 n6 k7 n7 pc a c rk rn (decide_eq_true (by omega)) (decide_eq_false (by omega)) (decide_eq_true (by omega)) (decide_eq_false (by omega)) w
  · skip
    exact op11b5_4 k0 n0 k1 n1 k2 n2 k3 n3 k4 n4 k5 n5 k6 n6 k7 n7 pc a c rk rn (decide_eq_false (by omega)) (decide_eq_false (by omega)) w
theorem op11b6 (k0 : Int) (n0 : Int) (k1 : Int) (n1 : Int) (k2 : Int) (n2 : Int) (k3 : Int) (n3 : Int) (k4 : Int) (n4 : Int) (k5 : Int) (n5 : Int) (k6 : Int) (n6 : Int) (k7 : Int) (n7 : Int) (pc : Int) (a : Int) (c : Int) (rk : Int) (rn : Int)  (w : World) : Calls Try.prog 3 (dArgs k0 n0 k1 n1 k2 n2 k3 n3 k4 n4 k5 n5 k6 n6 k7 n7 pc 11 a 6 c rk rn) w (Ret (.bool true) w) := by
  by_cases g0 : (0 : Int) ≤ a
  · skip
    by_cases g1 : a ≤ 7
    · skip
      by_cases g2 : (0 : Int) ≤ c
      · skip
        by_cases g3 : c ≤ 63
        · skip
          exact op11b6_0 k0 n0 k1 n1 k2 n2 k3 n3 k4 n4 k5 n5 k6 n6 k7 n7 pc a c rk rn (decide_eq_true (by omega)) (decide_eq_true (by omega)) (decide_eq_true (by omega)) (decide_eq_true (by omega)) (decide_eq_true (by omega)) (decide_eq_true (by omega)) (decide_eq_true (by omega)) (decide_eq_true (by omega)) w
        · skip
          exact op11b6_1 k0 n0 k1 n1 k2 n2 k3 n3 k4 n4 k5 n5 k6 n6 k7 n7 pc a c rk rn (decide_eq_true (by omega)) (decide_eq_true (by omega)) (decide_eq_true (by omega)) (decide_eq_false (by omega)) (decide_eq_true (by omega)) (decide_eq_true (by omega)) (decide_eq_true (by omega)) (decide_eq_false (by omega)) w
      · skip
        exact op11b6_2 k0 n0 k1 n1 k2 n2 k3 n3 k4 n4 k5 n5 k6 n6 k7 n7 pc a c rk rn (decide_eq_true (by omega)) (decide_eq_true (by omega)) (decide_eq_false (by omega)) (decide_eq_true (by omega)) (decide_eq_true (by omega)) (decide_eq_false (by omega)) w
    · skip
      exact op11b6_3 k0 n0 k1 n1 k2 n2 k3 n3 k4 n4 k5 n5 k6 n6 k7 n7 pc a c rk rn (decide_eq_true (by omega)) (decide_eq_false (by omega)) (decide_eq_true (by omega)) (decide_eq_false (by omega)) w
  · skip
    exact op11b6_4 k0 n0 k1 n1 k2 n2 k3 n3 k4 n4 k5 n5 k6 n6 k7 n7 pc a c rk rn (decide_eq_false (by omega)) (decide_eq_false (by omega)) w
theorem op11b7 (k0 : Int) (n0 : Int) (k1 : Int) (n1 : Int) (k2 : Int) (n2 : Int) (k3 : Int) (n3 : Int) (k4 : Int) (n4 : Int) (k5 : Int) (n5 : Int) (k6 : Int) (n6 : Int) (k7 : Int) (n7 : Int) (pc : Int) (a : Int) (c : Int) (rk : Int) (rn : Int)  (w : World) : Calls Try.prog 3 (dArgs k0 n0 k1 n1 k2 n2 k3 n3 k4 n4 k5 n5 k6 n6 k7 n7 pc 11 a 7 c rk rn) w (Ret (.bool true) w) := by
  by_cases g0 : (0 : Int) ≤ a
  · skip
    by_cases g1 : a ≤ 7
    · skip
      by_cases g2 : (0 : Int) ≤ c
      · skip
        by_cases g3 : c ≤ 127
        · skip
          exact op11b7_0 k0 n0 k1 n1 k2 n2 k3 n3 k4 n4 k5 n5 k6 n6 k7 n7 pc a c rk rn (decide_eq_true (by omega)) (decide_eq_true (by omega)) (decide_eq_true (by omega)) (decide_eq_true (by omega)) (decide_eq_true (by omega)) (decide_eq_true (by omega)) (decide_eq_true (by omega)) (decide_eq_true (by omega)) w
        · skip
          exact op11b7_1 k0 n0 k1 n1 k2 n2 k3 n3 k4 n4 k5 n5 k6 n6 k7 n7 pc a c rk rn (decide_eq_true (by omega)) (decide_eq_true (by omega)) (decide_eq_true (by omega)) (decide_eq_false (by omega)) (decide_eq_true (by omega)) (decide_eq_true (by omega)) (decide_eq_true (by omega)) (decide_eq_false (by omega)) w
      · skip
        exact op11b7_2 k0 n0 k1 n1 k2 n2 k3 n3 k4 n4 k5 n5 k6 n6 k7 n7 pc a c rk rn (decide_eq_true (by omega)) (decide_eq_true (by omega)) (decide_eq_false (by omega)) (decide_eq_true (by omega)) (decide_eq_true (by omega)) (decide_eq_false (by omega)) w
    · skip
      exact op11b7_3 k0 n0 k1 n1 k2 n2 k3 n3 k4 n4 k5 n5 k6 n6 k7 n7 pc a c rk rn (decide_eq_true (by omega)) (decide_eq_false (by omega)) (decide_eq_true (by omega)) (decide_eq_false (by omega)) w
  · skip
    exact op11b7_4 k0 n0 k1 n1 k2 n2 k3 n3 k4 n4 k5 n5 k6 n6 k7 n7 pc a c rk rn (decide_eq_false (by omega)) (decide_eq_false (by omega)) w
theorem op11b8 (k0 : Int) (n0 : Int) (k1 : Int) (n1 : Int) (k2 : Int) (n2 : Int) (k3 : Int) (n3 : Int) (k4 : Int) (n4 : Int) (k5 : Int) (n5 : Int) (k6 : Int) (n6 : Int) (k7 : Int) (n7 : Int) (pc : Int) (a : Int) (c : Int) (rk : Int) (rn : Int)  (w : World) : Calls Try.prog 3 (dArgs k0 n0 k1 n1 k2 n2 k3 n3 k4 n4 k5 n5 k6 n6 k7 n7 pc 11 a 8 c rk rn) w (Ret (.bool true) w) := by
  by_cases g0 : (0 : Int) ≤ a
  · skip
    by_cases g1 : a ≤ 7
    · skip
      by_cases g2 : (0 : Int) ≤ c
      · skip
        by_cases g3 : c ≤ 255
        · skip
          exact op11b8_0 k0 n0 k1 n1 k2 n2 k3 n3 k4 n4 k5 n5 k6 n6 k7 n7 pc a c rk rn (decide_eq_true (by omega)) (decide_eq_true (by omega)) (decide_eq_true (by omega)) (decide_eq_true (by omega)) (decide_eq_true (by omega)) (decide_eq_true (by omega)) (decide_eq_true (by omega)) (decide_eq_true (by omega)) w
        · skip
          exact op11b8_1 k0 n0 k1 n1 k2 n2 k3 n3 k4 n4 k5 n5 k6 n6 k7 n7 pc a c rk rn (decide_eq_true (by omega)) (decide_eq_true (by omega)) (decide_eq_true (by omega)) (decide_eq_false (by omega)) (decide_eq_true (by omega)) (decide_eq_true (by omega)) (decide_eq_true (by omega)) (decide_eq_false (by omega)) w
      · skip
        exact op11b8_2 k0 n0 k1 n1 k2 n2 k3 n3 k4 n4 k5 n5 k6 n6 k7 n7 pc a c rk rn (decide_eq_true (by omega)) (decide_eq_true (by omega)) (decide_eq_false (by omega)) (decide_eq_true (by omega)) (decide_eq_true (by omega)) (decide_eq_false (by omega)) w
    · skip
      exact op11b8_3 k0 n0 k1 n1 k2 n2 k3 n3 k4 n4 k5 n5 k6 n6 k7 n7 pc a c rk rn (decide_eq_true (by omega)) (decide_eq_false (by omega)) (decide_eq_true (by omega)) (decide_eq_false (by omega)) w
  · skip
    exact op11b8_4 k0 n0 k1 n1 k2 n2 k3 n3 k4 n4 k5 n5 k6 n6 k7 n7 pc a c rk rn (decide_eq_false (by omega)) (decide_eq_false (by omega)) w
theorem op11b9 (k0 : Int) (n0 : Int) (k1 : Int) (n1 : Int) (k2 : Int) (n2 : Int) (k3 : Int) (n3 : Int) (k4 : Int) (n4 : Int) (k5 : Int) (n5 : Int) (k6 : Int) (n6 : Int) (k7 : Int) (n7 : Int) (pc : Int) (a : Int) (c : Int) (rk : Int) (rn : Int)  (w : World) : Calls Try.prog 3 (dArgs k0 n0 k1 n1 k2 n2 k3 n3 k4 n4 k5 n5 k6 n6 k7 n7 pc 11 a 9 c rk rn) w (Ret (.bool true) w) := by
  by_cases g0 : (0 : Int) ≤ a
  · skip
    by_cases g1 : a ≤ 7
    · skip
      by_cases g2 : (0 : Int) ≤ c
      · skip
        by_cases g3 : c ≤ 511
        · skip
          exact op11b9_0 k0 n0 k1 n1 k2 n2 k3 n3 k4 n4 k5 n5 k6 n6 k7 n7 pc a c rk rn (decide_eq_true (by omega)) (decide_eq_true (by omega)) (decide_eq_true (by omega)) (decide_eq_true (by omega)) (decide_eq_true (by omega)) (decide_eq_true (by omega)) (decide_eq_true (by omega)) (decide_eq_true (by omega)) w
        · skip
          exact op11b9_1 k0 n0 k1 n1 k2 n2 k3 n3 k4 n4 k5 n5 k6 n6 k7 n7 pc a c rk rn (decide_eq_true (by omega)) (decide_eq_true (by omega)) (decide_eq_true (by omega)) (decide_eq_false (by omega)) (decide_eq_true (by omega)) (decide_eq_true (by omega)) (decide_eq_true (by omega)) (decide_eq_false (by omega)) w
      · skip
        exact op11b9_2 k0 n0 k1 n1 k2 n2 k3 n3 k4 n4 k5 n5 k6 n6 k7 n7 pc a c rk rn (decide_eq_true (by omega)) (decide_eq_true (by omega)) (decide_eq_false (by omega)) (decide_eq_true (by omega)) (decide_eq_true (by omega)) (decide_eq_false (by omega)) w
    · skip
      exact op11b9_3 k0 n0 k1 n1 k2 n2 k3 n3 k4 n4 k5 n5 k6 n6 k7 n7 pc a c rk rn (decide_eq_true (by omega)) (decide_eq_false (by omega)) (decide_eq_true (by omega)) (decide_eq_false (by omega)) w
  · skip
    exact op11b9_4 k0 n0 k1 n1 k2 n2 k3 n3 k4 n4 k5 n5 k6 n6 k7 n7 pc a c rk rn (decide_eq_false (by omega)) (decide_eq_false (by omega)) w
theorem op11b10 (k0 : Int) (n0 : Int) (k1 : Int) (n1 : Int) (k2 : Int) (n2 : Int) (k3 : Int) (n3 : Int) (k4 : Int) (n4 : Int) (k5 : Int) (n5 : Int) (k6 : Int) (n6 : Int) (k7 : Int) (n7 : Int) (pc : Int) (a : Int) (c : Int) (rk : Int) (rn : Int)  (w : World) : Calls Try.prog 3 (dArgs k0 n0 k1 n1 k2 n2 k3 n3 k4 n4 k5 n5 k6 n6 k7 n7 pc 11 a 10 c rk rn) w (Ret (.bool true) w) := by
  by_cases g0 : (0 : Int) ≤ a
  · skip
    by_cases g1 : a ≤ 7
    · skip
      by_cases g2 : (0 : Int) ≤ c
      · skip
        by_cases g3 : c ≤ 1023
        · skip
          exact op11b10_0 k0 n0 k1 n1 k2 n2 k3 n3 k4 n4 k5 n5 k6 n6 k7 n7 pc a c rk rn (decide_eq_true (by omega)) (decide_eq_true (by omega)) (decide_eq_true (by omega)) (decide_eq_true (by omega)) (decide_eq_true (by omega)) (decide_eq_true (by omega)) (decide_eq_true (by omega)) (decide_eq_true (by omega)) w
        · skip
          exact op11b10_1 k0 n0 k1 n1 k2 n2 k3 n3 k4 n4 k5 n5 k6 n6 k7 n7 pc a c rk rn (decide_eq_true (by omega)) (decide_eq_true (by omega)) (decide_eq_true (by omega)) (decide_eq_false (by omega)) (decide_eq_true (by omega)) (decide_eq_true (by omega)) (decide_eq_true (by omega)) (decide_eq_false (by omega)) w
      · skip
        exact op11b10_2 k0 n0 k1 n1 k2 n2 k3 n3 k4 n4 k5 n5 k6 n6 k7 n7 pc a c rk rn (decide_eq_true (by omega)) (decide_eq_true (by omega)) (decide_eq_false (by omega)) (decide_eq_true (by omega)) (decide_eq_true (by omega)) (decide_eq_false (by omega)) w
    · skip
      exact op11b10_3 k0 n0 k1 n1 k2 n2 k3 n3 k4 n4 k5 n5 k6 n6 k7 n7 pc a c rk rn (decide_eq_true (by omega)) (decide_eq_false (by omega)) (decide_eq_true (by omega)) (decide_eq_false (by omega)) w
  · skip
    exact op11b10_4 k0 n0 k1 n1 k2 n2 k3 n3 k4 n4 k5 n5 k6 n6 k7 n7 pc a c rk rn (decide_eq_false (by omega)) (decide_eq_false (by omega)) w
theorem op11b11 (k0 : Int) (n0 : Int) (k1 : Int) (n1 : Int) (k2 : Int) (n2 : Int) (k3 : Int) (n3 : Int) (k4 : Int) (n4 : Int) (k5 : Int) (n5 : Int) (k6 : Int) (n6 : Int) (k7 : Int) (n7 : Int) (pc : Int) (a : Int) (c : Int) (rk : Int) (rn : Int)  (w : World) : Calls Try.prog 3 (dArgs k0 n0 k1 n1 k2 n2 k3 n3 k4 n4 k5 n5 k6 n6 k7 n7 pc 11 a 11 c rk rn) w (Ret (.bool true) w) := by
  by_cases g0 : (0 : Int) ≤ a
  · skip
    by_cases g1 : a ≤ 7
    · skip
      by_cases g2 : (0 : Int) ≤ c
      · skip
        by_cases g3 : c ≤ 2047
        · skip
          exact op11b11_0 k0 n0 k1 n1 k2 n2 k3 n3 k4 n4 k5 n5 k6 n6 k7 n7 pc a c rk rn (decide_eq_true (by omega)) (decide_eq_true (by omega)) (decide_eq_true (by omega)) (decide_eq_true (by omega)) (decide_eq_true (by omega)) (decide_eq_true (by omega)) (decide_eq_true (by omega)) (decide_eq_true (by omega)) w
        · skip
          exact op11b11_1 k0 n0 k1 n1 k2 n2 k3 n3 k4 n4 k5 n5 k6 n6 k7 n7 pc a c rk rn (decide_eq_true (by omega)) (decide_eq_true (by omega)) (decide_eq_true (by omega)) (decide_eq_false (by omega)) (decide_eq_true (by omega)) (decide_eq_true (by omega)) (decide_eq_true (by omega)) (decide_eq_false (by omega)) w
      · skip
        exact op11b11_2 k0 n0 k1 n1 k2 n2 k3 n3 k4 n4 k5 n5 k6 n6 k7 n7 pc a c rk rn (decide_eq_true (by omega)) (decide_eq_true (by omega)) (decide_eq_false (by omega)) (decide_eq_true (by omega)) (decide_eq_true (by omega)) (decide_eq_false (by omega)) w
    · skip
      exact op11b11_3 k0 n0 k1 n1 k2 n2 k3 n3 k4 n4 k5 n5 k6 n6 k7 n7 pc a c rk rn (decide_eq_true (by omega)) (decide_eq_false (by omega)) (decide_eq_true (by omega)) (decide_eq_false (by omega)) w
  · skip
    exact op11b11_4 k0 n0 k1 n1 k2 n2 k3 n3 k4 n4 k5 n5 k6 n6 k7 n7 pc a c rk rn (decide_eq_false (by omega)) (decide_eq_false (by omega)) w
theorem op11b12 (k0 : Int) (n0 : Int) (k1 : Int) (n1 : Int) (k2 : Int) (n2 : Int) (k3 : Int) (n3 : Int) (k4 : Int) (n4 : Int) (k5 : Int) (n5 : Int) (k6 : Int) (n6 : Int) (k7 : Int) (n7 : Int) (pc : Int) (a : Int) (c : Int) (rk : Int) (rn : Int)  (w : World) : Calls Try.prog 3 (dArgs k0 n0 k1 n1 k2 n2 k3 n3 k4 n4 k5 n5 k6 n6 k7 n7 pc 11 a 12 c rk rn) w (Ret (.bool true) w) := by
  by_cases g0 : (0 : Int) ≤ a
  · skip
    by_cases g1 : a ≤ 7
    · skip
      by_cases g2 : (0 : Int) ≤ c
      · skip
        by_cases g3 : c ≤ 4095
        · skip
          exact op11b12_0 k0 n0 k1 n1 k2 n2 k3 n3 k4 n4 k5 n5 k6 n6 k7 n7 pc a c rk rn (decide_eq_true (by omega)) (decide_eq_true (by omega)) (decide_eq_true (by omega)) (decide_eq_true (by omega)) (decide_eq_true (by omega)) (decide_eq_true (by omega)) (decide_eq_true (by omega)) (decide_eq_true (by omega)) w
        · skip
          exact op11b12_1 k0 n0 k1 n1 k2 n2 k3 n3 k4 n4 k5 n5 k6 n6 k7 n7 pc a c rk rn (decide_eq_true (by omega)) (decide_eq_true (by omega)) (decide_eq_true (by omega)) (decide_eq_false (by omega)) (decide_eq_true (by omega)) (decide_eq_true (by omega)) (decide_eq_true (by omega)) (decide_eq_false (by omega)) w
      · skip
        exact op11b12_2 k0 n0 k1 n1 k2 n2 k3 n3 k4 n4 k5 n5 k6 n6 k7 n7 pc a c rk rn (decide_eq_true (by omega)) (decide_eq_true (by omega)) (decide_eq_false (by omega)) (decide_eq_true (by omega)) (decide_eq_true (by omega)) (decide_eq_false (by omega)) w
    · skip
      exact op11b12_3 k0 n0 k1 n1 k2 n2 k3 n3 k4 n4 k5 n5 k6 n6 k7 n7 pc a c rk rn (decide_eq_true (by omega)) (decide_eq_false (by omega)) (decide_eq_true (by omega)) (decide_eq_false (by omega)) w
  · skip
    exact op11b12_4 k0 n0 k1 n1 k2 n2 k3 n3 k4 n4 k5 n5 k6 n6 k7 n7 pc a c rk rn (decide_eq_false (by omega)) (decide_eq_false (by omega)) w
theorem op11b13 (k0 : Int) (n0 : Int) (k1 : Int) (n1 : Int) (k2 : Int) (n2 : Int) (k3 : Int) (n3 : Int) (k4 : Int) (n4 : Int) (k5 : Int) (n5 : Int) (k6 : Int) (n6 : Int) (k7 : Int) (n7 : Int) (pc : Int) (a : Int) (c : Int) (rk : Int) (rn : Int)  (w : World) : Calls Try.prog 3 (dArgs k0 n0 k1 n1 k2 n2 k3 n3 k4 n4 k5 n5 k6 n6 k7 n7 pc 11 a 13 c rk rn) w (Ret (.bool true) w) := by
  by_cases g0 : (0 : Int) ≤ a
  · skip
    by_cases g1 : a ≤ 7
    · skip
      by_cases g2 : (0 : Int) ≤ c
      · skip
        by_cases g3 : c ≤ 8191
        · skip
          exact op11b13_0 k0 n0 k1 n1 k2 n2 k3 n3 k4 n4 k5 n5 k6 n6 k7 n7 pc a c rk rn (decide_eq_true (by omega)) (decide_eq_true (by omega)) (decide_eq_true (by omega)) (decide_eq_true (by omega)) (decide_eq_true (by omega)) (decide_eq_true (by omega)) (decide_eq_true (by omega)) (decide_eq_true (by omega)) w
        · skip
          exact op11b13_1 k0 n0 k1 n1 k2 n2 k3 n3 k4 n4 k5 n5 k6 n6 k7 n7 pc a c rk rn (decide_eq_true (by omega)) (decide_eq_true (by omega)) (decide_eq_true (by omega)) (decide_eq_false (by omega)) (decide_eq_true (by omega)) (decide_eq_true (by omega)) (decide_eq_true (by omega)) (decide_eq_false (by omega)) w
      · skip
        exact op11b13_2 k0 n0 k1 n1 k2 n2 k3 n3 k4 n4 k5 n5 k6 n6 k7 n7 pc a c rk rn (decide_eq_true (by omega)) (decide_eq_true (by omega)) (decide_eq_false (by omega)) (decide_eq_true (by omega)) (decide_eq_true (by omega)) (decide_eq_false (by omega)) w
    · skip
      exact op11b13_3 k0 n0 k1 n1 k2 n2 k3 n3 k4 n4 k5 n5 k6 n6 k7 n7 pc a c rk rn (decide_eq_true (by omega)) (decide_eq_false (by omega)) (decide_eq_true (by omega)) (decide_eq_false (by omega)) w
  · skip
    exact op11b13_4 k0 n0 k1 n1 k2 n2 k3 n3 k4 n4 k5 n5 k6 n6 k7 n7 pc a c rk rn (decide_eq_false (by omega)) (decide_eq_false (by omega)) w
theorem op11b14 (k0 : Int) (n0 : Int) (k1 : Int) (n1 : Int) (k2 : Int) (n2 : Int) (k3 : Int) (n3 : Int) (k4 : Int) (n4 : Int) (k5 : Int) (n5 : Int) (k6 : Int) (n6 : Int) (k7 : Int) (n7 : Int) (pc : Int) (a : Int) (c : Int) (rk : Int) (rn : Int)  (w : World) : Calls Try.prog 3 (dArgs k0 n0 k1 n1 k2 n2 k3 n3 k4 n4 k5 n5 k6 n6 k7 n7 pc 11 a 14 c rk rn) w (Ret (.bool true) w) := by
  by_cases g0 : (0 : Int) ≤ a
  · skip
    by_cases g1 : a ≤ 7
    · skip
      by_cases g2 : (0 : Int) ≤ c
      · skip
        by_cases g3 : c ≤ 16383
        · skip
          exact op11b14_0 k0 n0 k1 n1 k2 n2 k3 n3 k4 n4 k5 n5 k6 n6 k7 n7 pc a c rk rn (decide_eq_true (by omega)) (decide_eq_true (by omega)) (decide_eq_true (by omega)) (decide_eq_true (by omega)) (decide_eq_true (by omega)) (decide_eq_true (by omega)) (decide_eq_true (by omega)) (decide_eq_true (by omega)) w
        · skip
          exact op11b14_1 k0 n0 k1 n1 k2 n2 k3 n3 k4 n4 k5 n5 k6 n6 k7 n7 pc a c rk rn (decide_eq_true (by omega)) (decide_eq_true (by omega)) (decide_eq_true (by omega)) (decide_eq_false (by omega)) (decide_eq_true (by omega)) (decide_eq_true (by omega)) (decide_eq_true (by omega)) (decide_eq_false (by omega)) w
      · skip
        exact op11b14_2 k0 n0 k1 n1 k2 n2 k3 n3 k4 n4 k5 n5 k6 n6 k7 n7 pc a c rk rn (decide_eq_true (by omega)) (decide_eq_true (by omega)) (decide_eq_false (by omega)) (decide_eq_true (by omega)) (decide_eq_true (by omega)) (decide_eq_false (by omega)) w
    · skip
      exact op11b14_3 k0 n0 k1 n1 k2 n2 k3 n3 k4 n4 k5 n5 k6 n6 k7 n7 pc a c rk rn (decide_eq_true (by omega)) (decide_eq_false (by omega)) (decide_eq_true (by omega)) (decide_eq_false (by omega)) w
  · skip
    exact op11b14_4 k0 n0 k1 n1 k2 n2 k3 n3 k4 n4 k5 n5 k6 n6 k7 n7 pc a c rk rn (decide_eq_false (by omega)) (decide_eq_false (by omega)) w
theorem op11b15 (k0 : Int) (n0 : Int) (k1 : Int) (n1 : Int) (k2 : Int) (n2 : Int) (k3 : Int) (n3 : Int) (k4 : Int) (n4 : Int) (k5 : Int) (n5 : Int) (k6 : Int) (n6 : Int) (k7 : Int) (n7 : Int) (pc : Int) (a : Int) (c : Int) (rk : Int) (rn : Int)  (w : World) : Calls Try.prog 3 (dArgs k0 n0 k1 n1 k2 n2 k3 n3 k4 n4 k5 n5 k6 n6 k7 n7 pc 11 a 15 c rk rn) w (Ret (.bool true) w) := by
  by_cases g0 : (0 : Int) ≤ a
  · skip
    by_cases g1 : a ≤ 7
    · skip
      by_cases g2 : (0 : Int) ≤ c
      · skip
        by_cases g3 : c ≤ 32767
        · skip
          exact op11b15_0 k0 n0 k1 n1 k2 n2 k3 n3 k4 n4 k5 n5 k6 n6 k7 n7 pc a c rk rn (decide_eq_true (by omega)) (decide_eq_true (by omega)) (decide_eq_true (by omega)) (decide_eq_true (by omega)) (decide_eq_true (by omega)) (decide_eq_true (by omega)) (decide_eq_true (by omega)) (decide_eq_true (by omega)) w
        · skip
          exact op11b15_1 k0 n0 k1 n1 k2 n2 k3 n3 k4 n4 k5 n5 k6 n6 k7 n7 pc a c rk rn (decide_eq_true (by omega)) (decide_eq_true (by omega)) (decide_eq_true (by omega)) (decide_eq_false (by omega)) (decide_eq_true (by omega)) (decide_eq_true (by omega)) (decide_eq_true (by omega)) (decide_eq_false (by omega)) w
      · skip
        exact op11b15_2 k0 n0 k1 n1 k2 n2 k3 n3 k4 n4 k5 n5 k6 n6 k7 n7 pc a c rk rn (decide_eq_true (by omega)) (decide_eq_true (by omega)) (decide_eq_false (by omega)) (decide_eq_true (by omega)) (decide_eq_true (by omega)) (decide_eq_false (by omega)) w
    · skip
      exact op11b15_3 k0 n0 k1 n1 k2 n2 k3 n3 k4 n4 k5 n5 k6 n6 k7 n7 pc a c rk rn (decide_eq_true (by omega)) (decide_eq_false (by omega)) (decide_eq_true (by omega)) (decide_eq_false (by omega)) w
  · skip
    exact op11b15_4 k0 n0 k1 n1 k2 n2 k3 n3 k4 n4 k5 n5 k6 n6 k7 n7 pc a c rk rn (decide_eq_false (by omega)) (decide_eq_false (by omega)) w
theorem op11b16 (k0 : Int) (n0 : Int) (k1 : Int) (n1 : Int) (k2 : Int) (n2 : Int) (k3 : Int) (n3 : Int) (k4 : Int) (n4 : Int) (k5 : Int) (n5 : Int) (k6 : Int) (n6 : Int) (k7 : Int) (n7 : Int) (pc : Int) (a : Int) (c : Int) (rk : Int) (rn : Int)  (w : World) : Calls Try.prog 3 (dArgs k0 n0 k1 n1 k2 n2 k3 n3 k4 n4 k5 n5 k6 n6 k7 n7 pc 11 a 16 c rk rn) w (Ret (.bool true) w) := by
  by_cases g0 : (0 : Int) ≤ a
  · skip
    by_cases g1 : a ≤ 7
    · skip
      by_cases g2 : (0 : Int) ≤ c
      · skip
        by_cases g3 : c ≤ 65535
        · skip
          exact op11b16_0 k0 n0 k1 n1 k2 n2 k3 n3 k4 n4 k5 n5 k6 n6 k7 n7 pc a c rk rn (decide_eq_true (by omega)) (decide_eq_true (by omega)) (decide_eq_true (by omega)) (decide_eq_true (by omega)) (decide_eq_true (by omega)) (decide_eq_true (by omega)) (decide_eq_true (by omega)) (decide_eq_true (by omega)) w
        · skip
          exact op11b16_1 k0 n0 k1 n1 k2 n2 k3 n3 k4 n4 k5 n5 k6 n6 k7 n7 pc a c rk rn (decide_eq_true (by omega)) (decide_eq_true (by omega)) (decide_eq_true (by omega)) (decide_eq_false (by omega)) (decide_eq_true (by omega)) (decide_eq_true (by omega)) (decide_eq_true (by omega)) (decide_eq_false (by omega)) w
      · skip
        exact op11b16_2 k0 n0 k1 n1 k2 n2 k3 n3 k4 n4 k5 n5 k6 n6 k7 n7 pc a c rk rn (decide_eq_true (by omega)) (decide_eq_true (by omega)) (decide_eq_false (by omega)) (decide_eq_true (by omega)) (decide_eq_true (by omega)) (decide_eq_false (by omega)) w
    · skip
      exact op11b16_3 k0 n0 k1 n1 k2 n2 k3 n3 k4 n4 k5 n5 k6 n6 k7 n7 pc a c rk rn (decide_eq_true (by omega)) (decide_eq_false (by omega)) (decide_eq_true (by omega)) (decide_eq_false (by omega)) w
  · skip
    exact op11b16_4 k0 n0 k1 n1 k2 n2 k3 n3 k4 n4 k5 n5 k6 n6 k7 n7 pc a c rk rn (decide_eq_false (by omega)) (decide_eq_false (by omega)) w
theorem op11L (k0 : Int) (n0 : Int) (k1 : Int) (n1 : Int) (k2 : Int) (n2 : Int) (k3 : Int) (n3 : Int) (k4 : Int) (n4 : Int) (k5 : Int) (n5 : Int) (k6 : Int) (n6 : Int) (k7 : Int) (n7 : Int) (pc : Int) (a : Int) (b : Int) (c : Int) (rk : Int) (rn : Int) (hb : b < 1) (w : World) : Calls Try.prog 3 (dArgs k0 n0 k1 n1 k2 n2 k3 n3 k4 n4 k5 n5 k6 n6 k7 n7 pc 11 a b c rk rn) w (Ret (.bool true) w) := by
  by_cases g0 : (0 : Int) ≤ a
  · skip
    by_cases g1 : a ≤ 7
    · skip
      exact op11L_0 k0 n0 k1 n1 k2 n2 k3 n3 k4 n4 k5 n5 k6 n6 k7 n7 pc a b c rk rn (decide_eq_true (by omega)) (decide_eq_true (by omega)) (decide_eq_false (by omega)) (decide_eq_true (by omega)) (decide_eq_true (by omega)) (decide_eq_false (by omega)) w
    · skip
      exact op11L_1 k0 n0 k1 n1 k2 n2 k3 n3 k4 n4 k5 n5 k6 n6 k7 n7 pc a b c rk rn (decide_eq_true (by omega)) (decide_eq_false (by omega)) (decide_eq_true (by omega)) (decide_eq_false (by omega)) w
  · skip
    exact op11L_2 k0 n0 k1 n1 k2 n2 k3 n3 k4 n4 k5 n5 k6 n6 k7 n7 pc a b c rk rn (decide_eq_false (by omega)) (decide_eq_false (by omega)) w
theorem op11H (k0 : Int) (n0 : Int) (k1 : Int) (n1 : Int) (k2 : Int) (n2 : Int) (k3 : Int) (n3 : Int) (k4 : Int) (n4 : Int) (k5 : Int) (n5 : Int) (k6 : Int) (n6 : Int) (k7 : Int) (n7 : Int) (pc : Int) (a : Int) (b : Int) (c : Int) (rk : Int) (rn : Int) (hb : 16 < b) (w : World) : Calls Try.prog 3 (dArgs k0 n0 k1 n1 k2 n2 k3 n3 k4 n4 k5 n5 k6 n6 k7 n7 pc 11 a b c rk rn) w (Ret (.bool true) w) := by
  by_cases g0 : (0 : Int) ≤ a
  · skip
    by_cases g1 : a ≤ 7
    · skip
      exact op11H_0 k0 n0 k1 n1 k2 n2 k3 n3 k4 n4 k5 n5 k6 n6 k7 n7 pc a b c rk rn (decide_eq_true (by omega)) (decide_eq_true (by omega)) (decide_eq_true (by omega)) (decide_eq_false (by omega)) (decide_eq_true (by omega)) (decide_eq_true (by omega)) (decide_eq_true (by omega)) w
    · skip
      exact op11H_1 k0 n0 k1 n1 k2 n2 k3 n3 k4 n4 k5 n5 k6 n6 k7 n7 pc a b c rk rn (decide_eq_true (by omega)) (decide_eq_false (by omega)) (decide_eq_true (by omega)) (decide_eq_false (by omega)) w
  · skip
    exact op11H_2 k0 n0 k1 n1 k2 n2 k3 n3 k4 n4 k5 n5 k6 n6 k7 n7 pc a b c rk rn (decide_eq_false (by omega)) (decide_eq_false (by omega)) w
end Ev
end Go.Proofs.Ytnjfdjajlcfooaa
