/- Paths of a law, by the runner. -/
import Derived.Test.YtnahodeffgoccaaRgTp1
import Derived.Test.YtnahodeffgoccaaRgTp2
import Derived.Test.YtnahodeffgoccaaRgTp3
import Derived.Test.YtnahodeffgoccaaRgTp4
import Derived.Test.YtnahodeffgoccaaRgTp5
import Derived.Test.YtnahodeffgoccaaRgTp6
import Derived.Test.YtnahodeffgoccaaRgTp7
namespace Go.Proofs.Ytnahodeffgoccaa
open Go.ChangeShapes Go.WideShapes Go.ChangeAt Go.RowKit
namespace Ev
set_option maxRecDepth 100000
theorem t0a0 (k0 : Int) (n0 : Int) (k1 : Int) (n1 : Int) (k2 : Int) (n2 : Int) (k3 : Int) (n3 : Int) (k4 : Int) (n4 : Int) (k5 : Int) (n5 : Int) (k6 : Int) (n6 : Int) (k7 : Int) (n7 : Int) (op : Int) (b : Int) (c : Int) (vk : Int) (vn : Int)  (w : World) : Calls Try.prog 4 (tArgs k0 n0 k1 n1 k2 n2 k3 n3 k4 n4 k5 n5 k6 n6 k7 n7 op 0 b c 0 vk vn) w (Ret (.bool true) w) := by
  by_cases g0 : op ≠ 19
  · skip
    exact t0a0_0 k0 n0 k1 n1 k2 n2 k3 n3 k4 n4 k5 n5 k6 n6 k7 n7 op b c vk vn (bne_iff_ne.2 (by omega)) w
  · skip
    obtain rfl : op = 19 := by omega
    by_cases g1 : (0 : Int) ≤ b
    · skip
      by_cases g2 : b ≤ 0
      · skip
        obtain rfl : b = 0 := by omega
        by_cases g3 : (0 : Int) ≤ c
        · skip
          by_cases g4 : c ≤ 0
          · skip
            obtain rfl : c = 0 := by omega
            exact t0a0_1 k0 n0 k1 n1 k2 n2 k3 n3 k4 n4 k5 n5 k6 n6 k7 n7 vk vn  w
          · skip
            exact t0a0_2 k0 n0 k1 n1 k2 n2 k3 n3 k4 n4 k5 n5 k6 n6 k7 n7 c vk vn (decide_eq_true (by omega)) (decide_eq_false (by omega)) (beq_eq_false_iff_ne.2 (by omega)) w
        · skip
          exact t0a0_3 k0 n0 k1 n1 k2 n2 k3 n3 k4 n4 k5 n5 k6 n6 k7 n7 c vk vn (decide_eq_false (by omega)) (beq_eq_false_iff_ne.2 (by omega)) w
      · skip
        exact t0a0_4 k0 n0 k1 n1 k2 n2 k3 n3 k4 n4 k5 n5 k6 n6 k7 n7 b c vk vn (decide_eq_true (by omega)) (decide_eq_false (by omega)) (beq_eq_false_iff_ne.2 (by omega)) w
    · skip
      exact t0a0_5 k0 n0 k1 n1 k2 n2 k3 n3 k4 n4 k5 n5 k6 n6 k7 n7 b c vk vn (decide_eq_false (by omega)) (beq_eq_false_iff_ne.2 (by omega)) w
theorem t0a1 (k0 : Int) (n0 : Int) (k1 : Int) (n1 : Int) (k2 : Int) (n2 : Int) (k3 : Int) (n3 : Int) (k4 : Int) (n4 : Int) (k5 : Int) (n5 : Int) (k6 : Int) (n6 : Int) (k7 : Int) (n7 : Int) (op : Int) (b : Int) (c : Int) (vk : Int) (vn : Int)  (w : World) : Calls Try.prog 4 (tArgs k0 n0 k1 n1 k2 n2 k3 n3 k4 n4 k5 n5 k6 n6 k7 n7 op 1 b c 0 vk vn) w (Ret (.bool true) w) := by
  by_cases g0 : op ≠ 19
  · skip
    exact t0a1_0 k0 n0 k1 n1 k2 n2 k3 n3 k4 n4 k5 n5 k6 n6 k7 n7 op b c vk vn (bne_iff_ne.2 (by omega)) w
  · skip
    obtain rfl : op = 19 := by omega
    by_cases g1 : (0 : Int) ≤ b
    · skip
      by_cases g2 : b ≤ 0
      · skip
        obtain rfl : b = 0 := by omega
        by_cases g3 : (0 : Int) ≤ c
        · skip
          by_cases g4 : c ≤ 0
          · skip
            obtain rfl : c = 0 := by omega
            exact t0a1_1 k0 n0 k1 n1 k2 n2 k3 n3 k4 n4 k5 n5 k6 n6 k7 n7 vk vn  w
          · skip
            exact t0a1_2 k0 n0 k1 n1 k2 n2 k3 n3 k4 n4 k5 n5 k6 n6 k7 n7 c vk vn (decide_eq_true (by omega)) (decide_eq_false (by omega)) (beq_eq_false_iff_ne.2 (by omega)) w
        · skip
          exact t0a1_3 k0 n0 k1 n1 k2 n2 k3 n3 k4 n4 k5 n5 k6 n6 k7 n7 c vk vn (decide_eq_false (by omega)) (beq_eq_false_iff_ne.2 (by omega)) w
      · skip
        exact t0a1_4 k0 n0 k1 n1 k2 n2 k3 n3 k4 n4 k5 n5 k6 n6 k7 n7 b c vk vn (decide_eq_true (by omega)) (decide_eq_false (by omega)) (beq_eq_false_iff_ne.2 (by omega)) w
    · skip
      exact t0a1_5 k0 n0 k1 n1 k2 n2 k3 n3 k4 n4 k5 n5 k6 n6 k7 n7 b c vk vn (decide_eq_false (by omega)) (beq_eq_false_iff_ne.2 (by omega)) w
theorem t0a2 (k0 : Int) (n0 : Int) (k1 : Int) (n1 : Int) (k2 : Int) (n2 : Int) (k3 : Int) (n3 : Int) (k4 : Int) (n4 : Int) (k5 : Int) (n5 : Int) (k6 : Int) (n6 : Int) (k7 : Int) (n7 : Int) (op : Int) (b : Int) (c : Int) (vk : Int) (vn : Int)  (w : World) : Calls Try.prog 4 (tArgs k0 n0 k1 n1 k2 n2 k3 n3 k4 n4 k5 n5 k6 n6 k7 n7 op 2 b c 0 vk vn) w (Ret (.bool true) w) := by
  by_cases g0 : op ≠ 19
  · skip
    exact t0a2_0 k0 n0 k1 n1 k2 n2 k3 n3 k4 n4 k5 n5 k6 n6 k7 n7 op b c vk vn (bne_iff_ne.2 (by omega)) w
  · skip
    obtain rfl : op = 19 := by omega
    by_cases g1 : (0 : Int) ≤ b
    · skip
      by_cases g2 : b ≤ 0
      · skip
        obtain rfl : b = 0 := by omega
        by_cases g3 : (0 : Int) ≤ c
        · skip
          by_cases g4 : c ≤ 0
          · skip
            obtain rfl : c = 0 := by omega
            exact t0a2_1 k0 n0 k1 n1 k2 n2 k3 n3 k4 n4 k5 n5 k6 n6 k7 n7 vk vn  w
          · skip
            exact t0a2_2 k0 n0 k1 n1 k2 n2 k3 n3 k4 n4 k5 n5 k6 n6 k7 n7 c vk vn (decide_eq_true (by omega)) (decide_eq_false (by omega)) (beq_eq_false_iff_ne.2 (by omega)) w
        · skip
          exact t0a2_3 k0 n0 k1 n1 k2 n2 k3 n3 k4 n4 k5 n5 k6 n6 k7 n7 c vk vn (decide_eq_false (by omega)) (beq_eq_false_iff_ne.2 (by omega)) w
      · skip
        exact t0a2_4 k0 n0 k1 n1 k2 n2 k3 n3 k4 n4 k5 n5 k6 n6 k7 n7 b c vk vn (decide_eq_true (by omega)) (decide_eq_false (by omega)) (beq_eq_false_iff_ne.2 (by omega)) w
    · skip
      exact t0a2_5 k0 n0 k1 n1 k2 n2 k3 n3 k4 n4 k5 n5 k6 n6 k7 n7 b c vk vn (decide_eq_false (by omega)) (beq_eq_false_iff_ne.2 (by omega)) w
theorem t0a3 (k0 : Int) (n0 : Int) (k1 : Int) (n1 : Int) (k2 : Int) (n2 : Int) (k3 : Int) (n3 : Int) (k4 : Int) (n4 : Int) (k5 : Int) (n5 : Int) (k6 : Int) (n6 : Int) (k7 : Int) (n7 : Int) (op : Int) (b : Int) (c : Int) (vk : Int) (vn : Int)  (w : World) : Calls Try.prog 4 (tArgs k0 n0 k1 n1 k2 n2 k3 n3 k4 n4 k5 n5 k6 n6 k7 n7 op 3 b c 0 vk vn) w (Ret (.bool true) w) := by
  by_cases g0 : op ≠ 19
  · skip
    exact t0a3_0 k0 n0 k1 n1 k2 n2 k3 n3 k4 n4 k5 n5 k6 n6 k7 n7 op b c vk vn (bne_iff_ne.2 (by omega)) w
  · skip
    obtain rfl : op = 19 := by omega
    by_cases g1 : (0 : Int) ≤ b
    · skip
      by_cases g2 : b ≤ 0
      · skip
        obtain rfl : b = 0 := by omega
        by_cases g3 : (0 : Int) ≤ c
        · skip
          by_cases g4 : c ≤ 0
          · skip
            obtain rfl : c = 0 := by omega
            exact t0a3_1 k0 n0 k1 n1 k2 n2 k3 n3 k4 n4 k5 n5 k6 n6 k7 n7 vk vn  w
          · skip
            exact t0a3_2 k0 n0 k1 n1 k2 n2 k3 n3 k4 n4 k5 n5 k6 n6 k7 n7 c vk vn (decide_eq_true (by omega)) (decide_eq_false (by omega)) (beq_eq_false_iff_ne.2 (by omega)) w
        · skip
          exact t0a3_3 k0 n0 k1 n1 k2 n2 k3 n3 k4 n4 k5 n5 k6 n6 k7 n7 c vk vn (decide_eq_false (by omega)) (beq_eq_false_iff_ne.2 (by omega)) w
      · skip
        exact t0a3_4 k0 n0 k1 n1 k2 n2 k3 n3 k4 n4 k5 n5 k6 n6 k7 n7 b c vk vn (decide_eq_true (by omega)) (decide_eq_false (by omega)) (beq_eq_false_iff_ne.2 (by omega)) w
    · skip
      exact t0a3_5 k0 n0 k1 n1 k2 n2 k3 n3 k4 n4 k5 n5 k6 n6 k7 n7 b c vk vn (decide_eq_false (by omega)) (beq_eq_false_iff_ne.2 (by omega)) w
theorem t0a4 (k0 : Int) (n0 : Int) (k1 : Int) (n1 : Int) (k2 : Int) (n2 : Int) (k3 : Int) (n3 : Int) (k4 : Int) (n4 : Int) (k5 : Int) (n5 : Int) (k6 : Int) (n6 : Int) (k7 : Int) (n7 : Int) (op : Int) (b : Int) (c : Int) (vk : Int) (vn : Int)  (w : World) : Calls Try.prog 4 (tArgs k0 n0 k1 n1 k2 n2 k3 n3 k4 n4 k5 n5 k6 n6 k7 n7 op 4 b c 0 vk vn) w (Ret (.bool true) w) := by
  by_cases g0 : op ≠ 19
  · skip
    exact t0a4_0 k0 n0 k1 n1 k2 n2 k3 n3 k4 n4 k5 n5 k6 n6 k7 n7 op b c vk vn (bne_iff_ne.2 (by omega)) w
  · skip
    obtain rfl : op = 19 := by omega
    by_cases g1 : (0 : Int) ≤ b
    · skip
      by_cases g2 : b ≤ 0
      · skip
        obtain rfl : b = 0 := by omega
        by_cases g3 : (0 : Int) ≤ c
        · skip
          by_cases g4 : c ≤ 0
          · skip
            obtain rfl : c = 0 := by omega
            exact t0a4_1 k0 n0 k1 n1 k2 n2 k3 n3 k4 n4 k5 n5 k6 n6 k7 n7 vk vn  w
          · skip
            exact t0a4_2 k0 n0 k1 n1 k2 n2 k3 n3 k4 n4 k5 n5 k6 n6 k7 n7 c vk vn (decide_eq_true (by omega)) (decide_eq_false (by omega)) (beq_eq_false_iff_ne.2 (by omega)) w
        · skip
          exact t0a4_3 k0 n0 k1 n1 k2 n2 k3 n3 k4 n4 k5 n5 k6 n6 k7 n7 c vk vn (decide_eq_false (by omega)) (beq_eq_false_iff_ne.2 (by omega)) w
      · skip
        exact t0a4_4 k0 n0 k1 n1 k2 n2 k3 n3 k4 n4 k5 n5 k6 n6 k7 n7 b c vk vn (decide_eq_true (by omega)) (decide_eq_false (by omega)) (beq_eq_false_iff_ne.2 (by omega)) w
    · skip
      exact t0a4_5 k0 n0 k1 n1 k2 n2 k3 n3 k4 n4 k5 n5 k6 n6 k7 n7 b c vk vn (decide_eq_false (by omega)) (beq_eq_false_iff_ne.2 (by omega)) w
theorem t0a5 (k0 : Int) (n0 : Int) (k1 : Int) (n1 : Int) (k2 : Int) (n2 : Int) (k3 : Int) (n3 : Int) (k4 : Int) (n4 : Int) (k5 : Int) (n5 : Int) (k6 : Int) (n6 : Int) (k7 : Int) (n7 : Int) (op : Int) (b : Int) (c : Int) (vk : Int) (vn : Int)  (w : World) : Calls Try.prog 4 (tArgs k0 n0 k1 n1 k2 n2 k3 n3 k4 n4 k5 n5 k6 n6 k7 n7 op 5 b c 0 vk vn) w (Ret (.bool true) w) := by
  by_cases g0 : op ≠ 19
  · skip
    exact t0a5_0 k0 n0 k1 n1 k2 n2 k3 n3 k4 n4 k5 n5 k6 n6 k7 n7 op b c vk vn (bne_iff_ne.2 (by omega)) w
  · skip
    obtain rfl : op = 19 := by omega
    by_cases g1 : (0 : Int) ≤ b
    · skip
      by_cases g2 : b ≤ 0
      · skip
        obtain rfl : b = 0 := by omega
        by_cases g3 : (0 : Int) ≤ c
        · skip
          by_cases g4 : c ≤ 0
          · skip
            obtain rfl : c = 0 := by omega
            exact t0a5_1 k0 n0 k1 n1 k2 n2 k3 n3 k4 n4 k5 n5 k6 n6 k7 n7 vk vn  w
          · skip
            exact t0a5_2 k0 n0 k1 n1 k2 n2 k3 n3 k4 n4 k5 n5 k6 n6 k7 n7 c vk vn (decide_eq_true (by omega)) (decide_eq_false (by omega)) (beq_eq_false_iff_ne.2 (by omega)) w
        · skip
          exact t0a5_3 k0 n0 k1 n1 k2 n2 k3 n3 k4 n4 k5 n5 k6 n6 k7 n7 c vk vn (decide_eq_false (by omega)) (beq_eq_false_iff_ne.2 (by omega)) w
      · skip
        exact t0a5_4 k0 n0 k1 n1 k2 n2 k3 n3 k4 n4 k5 n5 k6 n6 k7 n7 b c vk vn (decide_eq_true (by omega)) (decide_eq_false (by omega)) (beq_eq_false_iff_ne.2 (by omega)) w
    · skip
      exact t0a5_5 k0 n0 k1 n1 k2 n2 k3 n3 k4 n4 k5 n5 k6 n6 k7 n7 b c vk vn (decide_eq_false (by omega)) (beq_eq_false_iff_ne.2 (by omega)) w
theorem t0a6 (k0 : Int) (n0 : Int) (k1 : Int) (n1 : Int) (k2 : Int) (n2 : Int) (k3 : Int) (n3 : Int) (k4 : Int) (n4 : Int) (k5 : Int) (n5 : Int) (k6 : Int) (n6 : Int) (k7 : Int) (n7 : Int) (op : Int) (b : Int) (c : Int) (vk : Int) (vn : Int)  (w : World) : Calls Try.prog 4 (tArgs k0 n0 k1 n1 k2 n2 k3 n3 k4 n4 k5 n5 k6 n6 k7 n7 op 6 b c 0 vk vn) w (Ret (.bool true) w) := by
  by_cases g0 : op ≠ 19
  · skip
    exact t0a6_0 k0 n0 k1 n1 k2 n2 k3 n3 k4 n4 k5 n5 k6 n6 k7 n7 op b c vk vn (bne_iff_ne.2 (by omega)) w
  · skip
    obtain rfl : op = 19 := by omega
    by_cases g1 : (0 : Int) ≤ b
    · skip
      by_cases g2 : b ≤ 0
      · skip
        obtain rfl : b = 0 := by omega
        by_cases g3 : (0 : Int) ≤ c
        · skip
          by_cases g4 : c ≤ 0
          · skip
            obtain rfl : c = 0 := by omega
            exact t0a6_1 k0 n0 k1 n1 k2 n2 k3 n3 k4 n4 k5 n5 k6 n6 k7 n7 vk vn  w
          · skip
            exact t0a6_2 k0 n0 k1 n1 k2 n2 k3 n3 k4 n4 k5 n5 k6 n6 k7 n7 c vk vn (decide_eq_true (by omega)) (decide_eq_false (by omega)) (beq_eq_false_iff_ne.2 (by omega)) w
        · skip
          exact t0a6_3 k0 n0 k1 n1 k2 n2 k3 n3 k4 n4 k5 n5 k6 n6 k7 n7 c vk vn (decide_eq_false (by omega)) (beq_eq_false_iff_ne.2 (by omega)) w
      · skip
        exact t0a6_4 k0 n0 k1 n1 k2 n2 k3 n3 k4 n4 k5 n5 k6 n6 k7 n7 b c vk vn (decide_eq_true (by omega)) (decide_eq_false (by omega)) (beq_eq_false_iff_ne.2 (by omega)) w
    · skip
      exact t0a6_5 k0 n0 k1 n1 k2 n2 k3 n3 k4 n4 k5 n5 k6 n6 k7 n7 b c vk vn (decide_eq_false (by omega)) (beq_eq_false_iff_ne.2 (by omega)) w
theorem t0a7 (k0 : Int) (n0 : Int) (k1 : Int) (n1 : Int) (k2 : Int) (n2 : Int) (k3 : Int) (n3 : Int) (k4 : Int) (n4 : Int) (k5 : Int) (n5 : Int) (k6 : Int) (n6 : Int) (k7 : Int) (n7 : Int) (op : Int) (b : Int) (c : Int) (vk : Int) (vn : Int)  (w : World) : Calls Try.prog 4 (tArgs k0 n0 k1 n1 k2 n2 k3 n3 k4 n4 k5 n5 k6 n6 k7 n7 op 7 b c 0 vk vn) w (Ret (.bool true) w) := by
  by_cases g0 : op ≠ 19
  · skip
    exact t0a7_0 k0 n0 k1 n1 k2 n2 k3 n3 k4 n4 k5 n5 k6 n6 k7 n7 op b c vk vn (bne_iff_ne.2 (by omega)) w
  · skip
    obtain rfl : op = 19 := by omega
    by_cases g1 : (0 : Int) ≤ b
    · skip
      by_cases g2 : b ≤ 0
      · skip
        obtain rfl : b = 0 := by omega
        by_cases g3 : (0 : Int) ≤ c
        · skip
          by_cases g4 : c ≤ 0
          · skip
            obtain rfl : c = 0 := by omega
            exact t0a7_1 k0 n0 k1 n1 k2 n2 k3 n3 k4 n4 k5 n5 k6 n6 k7 n7 vk vn  w
          · skip
            exact t0a7_2 k0 n0 k1 n1 k2 n2 k3 n3 k4 n4 k5 n5 k6 n6 k7 n7 c vk vn (decide_eq_true (by omega)) (decide_eq_false (by omega)) (beq_eq_false_iff_ne.2 (by omega)) w
        · skip
          exact t0a7_3 k0 n0 k1 n1 k2 n2 k3 n3 k4 n4 k5 n5 k6 n6 k7 n7 c vk vn (decide_eq_false (by omega)) (beq_eq_false_iff_ne.2 (by omega)) w
      · skip
        exact t0a7_4 k0 n0 k1 n1 k2 n2 k3 n3 k4 n4 k5 n5 k6 n6 k7 n7 b c vk vn (decide_eq_true (by omega)) (decide_eq_false (by omega)) (beq_eq_false_iff_ne.2 (by omega)) w
    · skip
      exact t0a7_5 k0 n0 k1 n1 k2 n2 k3 n3 k4 n4 k5 n5 k6 n6 k7 n7 b c vk vn (decide_eq_false (by omega)) (beq_eq_false_iff_ne.2 (by omega)) w
theorem t0aL (k0 : Int) (n0 : Int) (k1 : Int) (n1 : Int) (k2 : Int) (n2 : Int) (k3 : Int) (n3 : Int) (k4 : Int) (n4 : Int) (k5 : Int) (n5 : Int) (k6 : Int) (n6 : Int) (k7 : Int) (n7 : Int) (op : Int) (a : Int) (b : Int) (c : Int) (vk : Int) (vn : Int) (ha : a < 0) (w : World) : Calls Try.prog 4 (tArgs k0 n0 k1 n1 k2 n2 k3 n3 k4 n4 k5 n5 k6 n6 k7 n7 op a b c 0 vk vn) w (Ret (.bool true) w) := by
  by_cases g0 : op ≠ 19
  · skip
    exact t0aL_0 k0 n0 k1 n1 k2 n2 k3 n3 k4 n4 k5 n5 k6 n6 k7 n7 op a b c vk vn (bne_iff_ne.2 (by omega)) w
  · skip
    obtain rfl : op = 19 := by omega
    exact t0aL_1 k0 n0 k1 n1 k2 n2 k3 n3 k4 n4 k5 n5 k6 n6 k7 n7 a b c vk vn (decide_eq_false (by omega)) (decide_eq_false (by omega)) w
theorem t0aH (k0 : Int) (n0 : Int) (k1 : Int) (n1 : Int) (k2 : Int) (n2 : Int) (k3 : Int) (n3 : Int) (k4 : Int) (n4 : Int) (k5 : Int) (n5 : Int) (k6 : Int) (n6 : Int) (k7 : Int) (n7 : Int) (op : Int) (a : Int) (b : Int) (c : Int) (vk : Int) (vn : Int) (ha : 7 < a) (w : World) : Calls Try.prog 4 (tArgs k0 n0 k1 n1 k2 n2 k3 n3 k4 n4 k5 n5 k6 n6 k7 n7 op a b c 0 vk vn) w (Ret (.bool true) w) := by
  by_cases g0 : op ≠ 19
  · skip
    exact t0aH_0 k0 n0 k1 n1 k2 n2 k3 n3 k4 n4 k5 n5 k6 n6 k7 n7 op a b c vk vn (bne_iff_ne.2 (by omega)) w
  · skip
    obtain rfl : op = 19 := by omega
    exact t0aH_1 k0 n0 k1 n1 k2 n2 k3 n3 k4 n4 k5 n5 k6 n6 k7 n7 a b c vk vn (decide_eq_true (by omega)) (decide_eq_false (by omega)) (decide_eq_true (by omega)) (decide_eq_false (by omega)) w
theorem t1a0 (k0 : Int) (n0 : Int) (k1 : Int) (n1 : Int) (k2 : Int) (n2 : Int) (k3 : Int) (n3 : Int) (k4 : Int) (n4 : Int) (k5 : Int) (n5 : Int) (k6 : Int) (n6 : Int) (k7 : Int) (n7 : Int) (op : Int) (b : Int) (c : Int) (vk : Int) (vn : Int)  (w : World) : Calls Try.prog 4 (tArgs k0 n0 k1 n1 k2 n2 k3 n3 k4 n4 k5 n5 k6 n6 k7 n7 op 0 b c 1 vk vn) w (Ret (.bool true) w) := by
  by_cases g0 : op ≠ 19
  · skip
    exact t1a0_0 k0 n0 k1 n1 k2 n2 k3 n3 k4 n4 k5 n5 k6 n6 k7 n7 op b c vk vn (bne_iff_ne.2 (by omega)) w
  · skip
    obtain rfl : op = 19 := by omega
    by_cases g1 : (0 : Int) ≤ b
    · skip
      by_cases g2 : b ≤ 0
      · skip
        obtain rfl : b = 0 := by omega
        by_cases g3 : (0 : Int) ≤ c
        · skip
          by_cases g4 : c ≤ 0
          · skip
            obtain rfl : c = 0 := by omega
            exact t1a0_1 k0 n0 k1 n1 k2 n2 k3 n3 k4 n4 k5 n5 k6 n6 k7 n7 vk vn  w
          · skip
            exact t1a0_2 k0 n0 k1 n1 k2 n2 k3 n3 k4 n4 k5 n5 k6 n6 k7 n7 c vk vn (decide_eq_true (by omega)) (decide_eq_false (by omega)) (beq_eq_false_iff_ne.2 (by omega)) w
        · skip
          exact t1a0_3 k0 n0 k1 n1 k2 n2 k3 n3 k4 n4 k5 n5 k6 n6 k7 n7 c vk vn (decide_eq_false (by omega)) (beq_eq_false_iff_ne.2 (by omega)) w
      · skip
        exact t1a0_4 k0 n0 k1 n1 k2 n2 k3 n3 k4 n4 k5 n5 k6 n6 k7 n7 b c vk vn (decide_eq_true (by omega)) (decide_eq_false (by omega)) (beq_eq_false_iff_ne.2 (by omega)) w
    · skip
      exact t1a0_5 k0 n0 k1 n1 k2 n2 k3 n3 k4 n4 k5 n5 k6 n6 k7 n7 b c vk vn (decide_eq_false (by omega)) (beq_eq_false_iff_ne.2 (by omega)) w
theorem t1a1 (k0 : Int) (n0 : Int) (k1 : Int) (n1 : Int) (k2 : Int) (n2 : Int) (k3 : Int) (n3 : Int) (k4 : Int) (n4 : Int) (k5 : Int) (n5 : Int) (k6 : Int) (n6 : Int) (k7 : Int) (n7 : Int) (op : Int) (b : Int) (c : Int) (vk : Int) (vn : Int)  (w : World) : Calls Try.prog 4 (tArgs k0 n0 k1 n1 k2 n2 k3 n3 k4 n4 k5 n5 k6 n6 k7 n7 op 1 b c 1 vk vn) w (Ret (.bool true) w) := by
  by_cases g0 : op ≠ 19
  · skip
    exact t1a1_0 k0 n0 k1 n1 k2 n2 k3 n3 k4 n4 k5 n5 k6 n6 k7 n7 op b c vk vn (bne_iff_ne.2 (by omega)) w
  · skip
    obtain rfl : op = 19 := by omega
    by_cases g1 : (0 : Int) ≤ b
    · skip
      by_cases g2 : b ≤ 0
      · skip
        obtain rfl : b = 0 := by omega
        by_cases g3 : (0 : Int) ≤ c
        · skip
          by_cases g4 : c ≤ 0
          · skip
            obtain rfl : c = 0 := by omega
            exact t1a1_1 k0 n0 k1 n1 k2 n2 k3 n3 k4 n4 k5 n5 k6 n6 k7 n7 vk vn  w
          · skip
            exact t1a1_2 k0 n0 k1 n1 k2 n2 k3 n3 k4 n4 k5 n5 k6 n6 k7 n7 c vk vn (decide_eq_true (by omega)) (decide_eq_false (by omega)) (beq_eq_false_iff_ne.2 (by omega)) w
        · skip
          exact t1a1_3 k0 n0 k1 n1 k2 n2 k3 n3 k4 n4 k5 n5 k6 n6 k7 n7 c vk vn (decide_eq_false (by omega)) (beq_eq_false_iff_ne.2 (by omega)) w
      · skip
        exact t1a1_4 k0 n0 k1 n1 k2 n2 k3 n3 k4 n4 k5 n5 k6 n6 k7 n7 b c vk vn (decide_eq_true (by omega)) (decide_eq_false (by omega)) (beq_eq_false_iff_ne.2 (by omega)) w
    · skip
      exact t1a1_5 k0 n0 k1 n1 k2 n2 k3 n3 k4 n4 k5 n5 k6 n6 k7 n7 b c vk vn (decide_eq_false (by omega)) (beq_eq_false_iff_ne.2 (by omega)) w
theorem t1a2 (k0 : Int) (n0 : Int) (k1 : Int) (n1 : Int) (k2 : Int) (n2 : Int) (k3 : Int) (n3 : Int) (k4 : Int) (n4 : Int) (k5 : Int) (n5 : Int) (k6 : Int) (n6 : Int) (k7 : Int) (n7 : Int) (op : Int) (b : Int) (c : Int) (vk : Int) (vn : Int)  (w : World) : Calls Try.prog 4 (tArgs k0 n0 k1 n1 k2 n2 k3 n3 k4 n4 k5 n5 k6 n6 k7 n7 op 2 b c 1 vk vn) w (Ret (.bool true) w) := by
  by_cases g0 : op ≠ 19
  · skip
    exact t1a2_0 k0 n0 k1 n1 k2 n2 k3 n3 k4 n4 k5 n5 k6 n6 k7 n7 op b c vk vn (bne_iff_ne.2 (by omega)) w
  · skip
    obtain rfl : op = 19 := by omega
    by_cases g1 : (0 : Int) ≤ b
    · skip
      by_cases g2 : b ≤ 0
      · skip
        obtain rfl : b = 0 := by omega
        by_cases g3 : (0 : Int) ≤ c
        · skip
          by_cases g4 : c ≤ 0
          · skip
            obtain rfl : c = 0 := by omega
            exact t1a2_1 k0 n0 k1 n1 k2 n2 k3 n3 k4 n4 k5 n5 k6 n6 k7 n7 vk vn  w
          · skip
            exact t1a2_2 k0 n0 k1 n1 k2 n2 k3 n3 k4 n4 k5 n5 k6 n6 k7 n7 c vk vn (decide_eq_true (by omega)) (decide_eq_false (by omega)) (beq_eq_false_iff_ne.2 (by omega)) w
        · skip
          exact t1a2_3 k0 n0 k1 n1 k2 n2 k3 n3 k4 n4 k5 n5 k6 n6 k7 n7 c vk vn (decide_eq_false (by omega)) (beq_eq_false_iff_ne.2 (by omega)) w
      · skip
        exact t1a2_4 k0 n0 k1 n1 k2 n2 k3 n3 k4 n4 k5 n5 k6 n6 k7 n7 b c vk vn (decide_eq_true (by omega)) (decide_eq_false (by omega)) (beq_eq_false_iff_ne.2 (by omega)) w
    · skip
      exact t1a2_5 k0 n0 k1 n1 k2 n2 k3 n3 k4 n4 k5 n5 k6 n6 k7 n7 b c vk vn (decide_eq_false (by omega)) (beq_eq_false_iff_ne.2 (by omega)) w
theorem t1a3 (k0 : Int) (n0 : Int) (k1 : Int) (n1 : Int) (k2 : Int) (n2 : Int) (k3 : Int) (n3 : Int) (k4 : Int) (n4 : Int) (k5 : Int) (n5 : Int) (k6 : Int) (n6 : Int) (k7 : Int) (n7 : Int) (op : Int) (b : Int) (c : Int) (vk : Int) (vn : Int)  (w : World) : Calls Try.prog 4 (tArgs k0 n0 k1 n1 k2 n2 k3 n3 k4 n4 k5 n5 k6 n6 k7 n7 op 3 b c 1 vk vn) w (Ret (.bool true) w) := by
  by_cases g0 : op ≠ 19
  · skip
    exact t1a3_0 k0 n0 k1 n1 k2 n2 k3 n3 k4 n4 k5 n5 k6 n6 k7 n7 op b c vk vn (bne_iff_ne.2 (by omega)) w
  · skip
    obtain rfl : op = 19 := by omega
    by_cases g1 : (0 : Int) ≤ b
    · skip
      by_cases g2 : b ≤ 0
      · skip
        obtain rfl : b = 0 := by omega
        by_cases g3 : (0 : Int) ≤ c
        · skip
          by_cases g4 : c ≤ 0
          · skip
            obtain rfl : c = 0 := by omega
            exact t1a3_1 k0 n0 k1 n1 k2 n2 k3 n3 k4 n4 k5 n5 k6 n6 k7 n7 vk vn  w
          · skip
            exact t1a3_2 k0 n0 k1 n1 k2 n2 k3 n3 k4 n4 k5 n5 k6 n6 k7 n7 c vk vn (decide_eq_true (by omega)) (decide_eq_false (by omega)) (beq_eq_false_iff_ne.2 (by omega)) w
        · skip
          exact t1a3_3 k0 n0 k1 n1 k2 n2 k3 n3 k4 n4 k5 n5 k6 n6 k7 n7 c vk vn (decide_eq_false (by omega)) (beq_eq_false_iff_ne.2 (by omega)) w
      · skip
        exact t1a3_4 k0 n0 k1 n1 k2 n2 k3 n3 k4 n4 k5 n5 k6 n6 k7 n7 b c vk vn (decide_eq_true (by omega)) (decide_eq_false (by omega)) (beq_eq_false_iff_ne.2 (by omega)) w
    · skip
      exact t1a3_5 k0 n0 k1 n1 k2 n2 k3 n3 k4 n4 k5 n5 k6 n6 k7 n7 b c vk vn (decide_eq_false (by omega)) (beq_eq_false_iff_ne.2 (by omega)) w
theorem t1a4 (k0 : Int) (n0 : Int) (k1 : Int) (n1 : Int) (k2 : Int) (n2 : Int) (k3 : Int) (n3 : Int) (k4 : Int) (n4 : Int) (k5 : Int) (n5 : Int) (k6 : Int) (n6 : Int) (k7 : Int) (n7 : Int) (op : Int) (b : Int) (c : Int) (vk : Int) (vn : Int)  (w : World) : Calls Try.prog 4 (tArgs k0 n0 k1 n1 k2 n2 k3 n3 k4 n4 k5 n5 k6 n6 k7 n7 op 4 b c 1 vk vn) w (Ret (.bool true) w) := by
  by_cases g0 : op ≠ 19
  · skip
    exact t1a4_0 k0 n0 k1 n1 k2 n2 k3 n3 k4 n4 k5 n5 k6 n6 k7 n7 op b c vk vn (bne_iff_ne.2 (by omega)) w
  · skip
    obtain rfl : op = 19 := by omega
    by_cases g1 : (0 : Int) ≤ b
    · skip
      by_cases g2 : b ≤ 0
      · skip
        obtain rfl : b = 0 := by omega
        by_cases g3 : (0 : Int) ≤ c
        · skip
          by_cases g4 : c ≤ 0
          · skip
            obtain rfl : c = 0 := by omega
            exact t1a4_1 k0 n0 k1 n1 k2 n2 k3 n3 k4 n4 k5 n5 k6 n6 k7 n7 vk vn  w
          · skip
            exact t1a4_2 k0 n0 k1 n1 k2 n2 k3 n3 k4 n4 k5 n5 k6 n6 k7 n7 c vk vn (decide_eq_true (by omega)) (decide_eq_false (by omega)) (beq_eq_false_iff_ne.2 (by omega)) w
        · skip
          exact t1a4_3 k0 n0 k1 n1 k2 n2 k3 n3 k4 n4 k5 n5 k6 n6 k7 n7 c vk vn (decide_eq_false (by omega)) (beq_eq_false_iff_ne.2 (by omega)) w
      · skip
        exact t1a4_4 k0 n0 k1 n1 k2 n2 k3 n3 k4 n4 k5 n5 k6 n6 k7 n7 b c vk vn (decide_eq_true (by omega)) (decide_eq_false (by omega)) (beq_eq_false_iff_ne.2 (by omega)) w
    · skip
      exact t1a4_5 k0 n0 k1 n1 k2 n2 k3 n3 k4 n4 k5 n5 k6 n6 k7 n7 b c vk vn (decide_eq_false (by omega)) (beq_eq_false_iff_ne.2 (by omega)) w
theorem t1a5 (k0 : Int) (n0 : Int) (k1 : Int) (n1 : Int) (k2 : Int) (n2 : Int) (k3 : Int) (n3 : Int) (k4 : Int) (n4 : Int) (k5 : Int) (n5 : Int) (k6 : Int) (n6 : Int) (k7 : Int) (n7 : Int) (op : Int) (b : Int) (c : Int) (vk : Int) (vn : Int)  (w : World) : Calls Try.prog 4 (tArgs k0 n0 k1 n1 k2 n2 k3 n3 k4 n4 k5 n5 k6 n6 k7 n7 op 5 b c 1 vk vn) w (Ret (.bool true) w) := by
  by_cases g0 : op ≠ 19
  · skip
    exact t1a5_0 k0 n0 k1 n1 k2 n2 k3 n3 k4 n4 k5 n5 k6 n6 k7 n7 op b c vk vn (bne_iff_ne.2 (by omega)) w
  · skip
    obtain rfl : op = 19 := by omega
    by_cases g1 : (0 : Int) ≤ b
    · skip
      by_cases g2 : b ≤ 0
      · skip
        obtain rfl : b = 0 := by omega
        by_cases g3 : (0 : Int) ≤ c
        · skip
          by_cases g4 : c ≤ 0
          · skip
            obtain rfl : c = 0 := by omega
            exact t1a5_1 k0 n0 k1 n1 k2 n2 k3 n3 k4 n4 k5 n5 k6 n6 k7 n7 vk vn  w
          · skip
            exact t1a5_2 k0 n0 k1 n1 k2 n2 k3 n3 k4 n4 k5 n5 k6 n6 k7 n7 c vk vn (decide_eq_true (by omega)) (decide_eq_false (by omega)) (beq_eq_false_iff_ne.2 (by omega)) w
        · skip
          exact t1a5_3 k0 n0 k1 n1 k2 n2 k3 n3 k4 n4 k5 n5 k6 n6 k7 n7 c vk vn (decide_eq_false (by omega)) (beq_eq_false_iff_ne.2 (by omega)) w
      · skip
        exact t1a5_4 k0 n0 k1 n1 k2 n2 k3 n3 k4 n4 k5 n5 k6 n6 k7 n7 b c vk vn (decide_eq_true (by omega)) (decide_eq_false (by omega)) (beq_eq_false_iff_ne.2 (by omega)) w
    · skip
      exact t1a5_5 k0 n0 k1 n1 k2 n2 k3 n3 k4 n4 k5 n5 k6 n6 k7 n7 b c vk vn (decide_eq_false (by omega)) (beq_eq_false_iff_ne.2 (by omega)) w
theorem t1a6 (k0 : Int) (n0 : Int) (k1 : Int) (n1 : Int) (k2 : Int) (n2 : Int) (k3 : Int) (n3 : Int) (k4 : Int) (n4 : Int) (k5 : Int) (n5 : Int) (k6 : Int) (n6 : Int) (k7 : Int) (n7 : Int) (op : Int) (b : Int) (c : Int) (vk : Int) (vn : Int)  (w : World) : Calls Try.prog 4 (tArgs k0 n0 k1 n1 k2 n2 k3 n3 k4 n4 k5 n5 k6 n6 k7 n7 op 6 b c 1 vk vn) w (Ret (.bool true) w) := by
  by_cases g0 : op ≠ 19
  · skip
    exact t1a6_0 k0 n0 k1 n1 k2 n2 k3 n3 k4 n4 k5 n5 k6 n6 k7 n7 op b c vk vn (bne_iff_ne.2 (by omega)) w
  · skip
    obtain rfl : op = 19 := by omega
    by_cases g1 : (0 : Int) ≤ b
    · skip
      by_cases g2 : b ≤ 0
      · skip
        obtain rfl : b = 0 := by omega
        by_cases g3 : (0 : Int) ≤ c
        · skip
          by_cases g4 : c ≤ 0
          · skip
            obtain rfl : c = 0 := by omega
            exact t1a6_1 k0 n0 k1 n1 k2 n2 k3 n3 k4 n4 k5 n5 k6 n6 k7 n7 vk vn  w
          · skip
            exact t1a6_2 k0 n0 k1 n1 k2 n2 k3 n3 k4 n4 k5 n5 k6 n6 k7 n7 c vk vn (decide_eq_true (by omega)) (decide_eq_false (by omega)) (beq_eq_false_iff_ne.2 (by omega)) w
        · skip
          exact t1a6_3 k0 n0 k1 n1 k2 n2 k3 n3 k4 n4 k5 n5 k6 n6 k7 n7 c vk vn (decide_eq_false (by omega)) (beq_eq_false_iff_ne.2 (by omega)) w
      · skip
        exact t1a6_4 k0 n0 k1 n1 k2 n2 k3 n3 k4 n4 k5 n5 k6 n6 k7 n7 b c vk vn (decide_eq_true (by omega)) (decide_eq_false (by omega)) (beq_eq_false_iff_ne.2 (by omega)) w
    · skip
      exact t1a6_5 k0 n0 k1 n1 k2 n2 k3 n3 k4 n4 k5 n5 k6 n6 k7 n7 b c vk vn (decide_eq_false (by omega)) (beq_eq_false_iff_ne.2 (by omega)) w
theorem t1a7 (k0 : Int) (n0 : Int) (k1 : Int) (n1 : Int) (k2 : Int) (n2 : Int) (k3 : Int) (n3 : Int) (k4 : Int) (n4 : Int) (k5 : Int) (n5 : Int) (k6 : Int) (n6 : Int) (k7 : Int) (n7 : Int) (op : Int) (b : Int) (c : Int) (vk : Int) (vn : Int)  (w : World) : Calls Try.prog 4 (tArgs k0 n0 k1 n1 k2 n2 k3 n3 k4 n4 k5 n5 k6 n6 k7 n7 op 7 b c 1 vk vn) w (Ret (.bool true) w) := by
  by_cases g0 : op ≠ 19
  · skip
    exact t1a7_0 k0 n0 k1 n1 k2 n2 k3 n3 k4 n4 k5 n5 k6 n6 k7 n7 op b c vk vn (bne_iff_ne.2 (by omega)) w
  · skip
    obtain rfl : op = 19 := by omega
    by_cases g1 : (0 : Int) ≤ b
    · skip
      by_cases g2 : b ≤ 0
      · skip
        obtain rfl : b = 0 := by omega
        by_cases g3 : (0 : Int) ≤ c
        · skip
          by_cases g4 : c ≤ 0
          · skip
            obtain rfl : c = 0 := by omega
            exact t1a7_1 k0 n0 k1 n1 k2 n2 k3 n3 k4 n4 k5 n5 k6 n6 k7 n7 vk vn  w
          · skip
            exact t1a7_2 k0 n0 k1 n1 k2 n2 k3 n3 k4 n4 k5 n5 k6 n6 k7 n7 c vk vn (decide_eq_true (by omega)) (decide_eq_false (by omega)) (beq_eq_false_iff_ne.2 (by omega)) w
        · skip
          exact t1a7_3 k0 n0 k1 n1 k2 n2 k3 n3 k4 n4 k5 n5 k6 n6 k7 n7 c vk vn (decide_eq_false (by omega)) (beq_eq_false_iff_ne.2 (by omega)) w
      · skip
        exact t1a7_4 k0 n0 k1 n1 k2 n2 k3 n3 k4 n4 k5 n5 k6 n6 k7 n7 b c vk vn (decide_eq_true (by omega)) (decide_eq_false (by omega)) (beq_eq_false_iff_ne.2 (by omega)) w
    · skip
      exact t1a7_5 k0 n0 k1 n1 k2 n2 k3 n3 k4 n4 k5 n5 k6 n6 k7 n7 b c vk vn (decide_eq_false (by omega)) (beq_eq_false_iff_ne.2 (by omega)) w
theorem t1aL (k0 : Int) (n0 : Int) (k1 : Int) (n1 : Int) (k2 : Int) (n2 : Int) (k3 : Int) (n3 : Int) (k4 : Int) (n4 : Int) (k5 : Int) (n5 : Int) (k6 : Int) (n6 : Int) (k7 : Int) (n7 : Int) (op : Int) (a : Int) (b : Int) (c : Int) (vk : Int) (vn : Int) (ha : a < 0) (w : World) : Calls Try.prog 4 (tArgs k0 n0 k1 n1 k2 n2 k3 n3 k4 n4 k5 n5 k6 n6 k7 n7 op a b c 1 vk vn) w (Ret (.bool true) w) := by
  by_cases g0 : op ≠ 19
  · skip
    exact t1aL_0 k0 n0 k1 n1 k2 n2 k3 n3 k4 n4 k5 n5 k6 n6 k7 n7 op a b c vk vn (bne_iff_ne.2 (by omega)) w
  · skip
    obtain rfl : op = 19 := by omega
    exact t1aL_1 k0 n0 k1 n1 k2 n2 k3 n3 k4 n4 k5 n5 k6 n6 k7 n7 a b c vk vn (decide_eq_false (by omega)) (decide_eq_false (by omega)) w
theorem t1aH (k0 : Int) (n0 : Int) (k1 : Int) (n1 : Int) (k2 : Int) (n2 : Int) (k3 : Int) (n3 : Int) (k4 : Int) (n4 : Int) (k5 : Int) (n5 : Int) (k6 : Int) (n6 : Int) (k7 : Int) (n7 : Int) (op : Int) (a : Int) (b : Int) (c : Int) (vk : Int) (vn : Int) (ha : 7 < a) (w : World) : Calls Try.prog 4 (tArgs k0 n0 k1 n1 k2 n2 k3 n3 k4 n4 k5 n5 k6 n6 k7 n7 op a b c 1 vk vn) w (Ret (.bool true) w) := by
  by_cases g0 : op ≠ 19
  · skip
    exact t1aH_0 k0 n0 k1 n1 k2 n2 k3 n3 k4 n4 k5 n5 k6 n6 k7 n7 op a b c vk vn (bne_iff_ne.2 (by omega)) w
  · skip
    obtain rfl : op = 19 := by omega
    exact t1aH_1 k0 n0 k1 n1 k2 n2 k3 n3 k4 n4 k5 n5 k6 n6 k7 n7 a b c vk vn (decide_eq_true (by omega)) (decide_eq_false (by omega)) (decide_eq_true (by omega)) (decide_eq_false (by omega)) w
theorem t2a0 (k0 : Int) (n0 : Int) (k1 : Int) (n1 : Int) (k2 : Int) (n2 : Int) (k3 : Int) (n3 : Int) (k4 : Int) (n4 : Int) (k5 : Int) (n5 : Int) (k6 : Int) (n6 : Int) (k7 : Int) (n7 : Int) (op : Int) (b : Int) (c : Int) (vk : Int) (vn : Int)  (w : World) : Calls Try.prog 4 (tArgs k0 n0 k1 n1 k2 n2 k3 n3 k4 n4 k5 n5 k6 n6 k7 n7 op 0 b c 2 vk vn) w (Ret (.bool true) w) := by
  by_cases g0 : op ≠ 19
  · skip
    exact t2a0_0 k0 n0 k1 n1 k2 n2 k3 n3 k4 n4 k5 n5 k6 n6 k7 n7 op b c vk vn (bne_iff_ne.2 (by omega)) w
  · skip
    obtain rfl : op = 19 := by omega
    by_cases g1 : (0 : Int) ≤ b
    · skip
      by_cases g2 : b ≤ 0
      · skip
        obtain rfl : b = 0 := by omega
        by_cases g3 : (0 : Int) ≤ c
        · skip
          by_cases g4 : c ≤ 0
          · skip
            obtain rfl : c = 0 := by omega
            exact t2a0_1 k0 n0 k1 n1 k2 n2 k3 n3 k4 n4 k5 n5 k6 n6 k7 n7 vk vn  w
          · skip
            exact t2a0_2 k0 n0 k1 n1 k2 n2 k3 n3 k4 n4 k5 n5 k6 n6 k7 n7 c vk vn (decide_eq_true (by omega)) (decide_eq_false (by omega)) (beq_eq_false_iff_ne.2 (by omega)) w
        · skip
          exact t2a0_3 k0 n0 k1 n1 k2 n2 k3 n3 k4 n4 k5 n5 k6 n6 k7 n7 c vk vn (decide_eq_false (by omega)) (beq_eq_false_iff_ne.2 (by omega)) w
      · skip
        exact t2a0_4 k0 n0 k1 n1 k2 n2 k3 n3 k4 n4 k5 n5 k6 n6 k7 n7 b c vk vn (decide_eq_true (by omega)) (decide_eq_false (by omega)) (beq_eq_false_iff_ne.2 (by omega)) w
    · skip
      exact t2a0_5 k0 n0 k1 n1 k2 n2 k3 n3 k4 n4 k5 n5 k6 n6 k7 n7 b c vk vn (decide_eq_false (by omega)) (beq_eq_false_iff_ne.2 (by omega)) w
theorem t2a1 (k0 : Int) (n0 : Int) (k1 : Int) (n1 : Int) (k2 : Int) (n2 : Int) (k3 : Int) (n3 : Int) (k4 : Int) (n4 : Int) (k5 : Int) (n5 : Int) (k6 : Int) (n6 : Int) (k7 : Int) (n7 : Int) (op : Int) (b : Int) (c : Int) (vk : Int) (vn : Int)  (w : World) : Calls Try.prog 4 (tArgs k0 n0 k1 n1 k2 n2 k3 n3 k4 n4 k5 n5 k6 n6 k7 n7 op 1 b c 2 vk vn) w (Ret (.bool true) w) := by
  by_cases g0 : op ≠ 19
  · skip
    exact t2a1_0 k0 n0 k1 n1 k2 n2 k3 n3 k4 n4 k5 n5 k6 n6 k7 n7 op b c vk vn (bne_iff_ne.2 (by omega)) w
  · skip
    obtain rfl : op = 19 := by omega
    by_cases g1 : (0 : Int) ≤ b
    · skip
      by_cases g2 : b ≤ 0
      · skip
        obtain rfl : b = 0 := by omega
        by_cases g3 : (0 : Int) ≤ c
        · skip
          by_cases g4 : c ≤ 0
          · skip
            obtain rfl : c = 0 := by omega
            exact t2a1_1 k0 n0 k1 n1 k2 n2 k3 n3 k4 n4 k5 n5 k6 n6 k7 n7 vk vn  w
          · skip
            exact t2a1_2 k0 n0 k1 n1 k2 n2 k3 n3 k4 n4 k5 n5 k6 n6 k7 n7 c vk vn (decide_eq_true (by omega)) (decide_eq_false (by omega)) (beq_eq_false_iff_ne.2 (by omega)) w
        · skip
          exact t2a1_3 k0 n0 k1 n1 k2 n2 k3 n3 k4 n4 k5 n5 k6 n6 k7 n7 c vk vn (decide_eq_false (by omega)) (beq_eq_false_iff_ne.2 (by omega)) w
      · skip
        exact t2a1_4 k0 n0 k1 n1 k2 n2 k3 n3 k4 n4 k5 n5 k6 n6 k7 n7 b c vk vn (decide_eq_true (by omega)) (decide_eq_false (by omega)) (beq_eq_false_iff_ne.2 (by omega)) w
    · skip
      exact t2a1_5 k0 n0 k1 n1 k2 n2 k3 n3 k4 n4 k5 n5 k6 n6 k7 n7 b c vk vn (decide_eq_false (by omega)) (beq_eq_false_iff_ne.2 (by omega)) w
theorem t2a2 (k0 : Int) (n0 : Int) (k1 : Int) (n1 : Int) (k2 : Int) (n2 : Int) (k3 : Int) (n3 : Int) (k4 : Int) (n4 : Int) (k5 : Int) (n5 : Int) (k6 : Int) (n6 : Int) (k7 : Int) (n7 : Int) (op : Int) (b : Int) (c : Int) (vk : Int) (vn : Int)  (w : World) : Calls Try.prog 4 (tArgs k0 n0 k1 n1 k2 n2 k3 n3 k4 n4 k5 n5 k6 n6 k7 n7 op 2 b c 2 vk vn) w (Ret (.bool true) w) := by
  by_cases g0 : op ≠ 19
  · skip
    exact t2a2_0 k0 n0 k1 n1 k2 n2 k3 n3 k4 n4 k5 n5 k6 n6 k7 n7 op b c vk vn (bne_iff_ne.2 (by omega)) w
  · skip
    obtain rfl : op = 19 := by omega
    by_cases g1 : (0 : Int) ≤ b
    · skip
      by_cases g2 : b ≤ 0
      · skip
        obtain rfl : b = 0 := by omega
        by_cases g3 : (0 : Int) ≤ c
        · skip
          by_cases g4 : c ≤ 0
          · skip
            obtain rfl : c = 0 := by omega
            exact t2a2_1 k0 n0 k1 n1 k2 n2 k3 n3 k4 n4 k5 n5 k6 n6 k7 n7 vk vn  w
          · skip
            exact t2a2_2 k0 n0 k1 n1 k2 n2 k3 n3 k4 n4 k5 n5 k6 n6 k7 n7 c vk vn (decide_eq_true (by omega)) (decide_eq_false (by omega)) (beq_eq_false_iff_ne.2 (by omega)) w
        · skip
          exact t2a2_3 k0 n0 k1 n1 k2 n2 k3 n3 k4 n4 k5 n5 k6 n6 k7 n7 c vk vn (decide_eq_false (by omega)) (beq_eq_false_iff_ne.2 (by omega)) w
      · skip
        exact t2a2_4 k0 n0 k1 n1 k2 n2 k3 n3 k4 n4 k5 n5 k6 n6 k7 n7 b c vk vn (decide_eq_true (by omega)) (decide_eq_false (by omega)) (beq_eq_false_iff_ne.2 (by omega)) w
    · skip
      exact t2a2_5 k0 n0 k1 n1 k2 n2 k3 n3 k4 n4 k5 n5 k6 n6 k7 n7 b c vk vn (decide_eq_false (by omega)) (beq_eq_false_iff_ne.2 (by omega)) w
theorem t2a3 (k0 : Int) (n0 : Int) (k1 : Int) (n1 : Int) (k2 : Int) (n2 : Int) (k3 : Int) (n3 : Int) (k4 : Int) (n4 : Int) (k5 : Int) (n5 : Int) (k6 : Int) (n6 : Int) (k7 : Int) (n7 : Int) (op : Int) (b : Int) (c : Int) (vk : Int) (vn : Int)  (w : World) : Calls Try.prog 4 (tArgs k0 n0 k1 n1 k2 n2 k3 n3 k4 n4 k5 n5 k6 n6 k7 n7 op 3 b c 2 vk vn) w (Ret (.bool true) w) := by
  by_cases g0 : op ≠ 19
  · skip
    exact t2a3_0 k0 n0 k1 n1 k2 n2 k3 n3 k4 n4 k5 n5 k6 n6 k7 n7 op b c vk vn (bne_iff_ne.2 (by omega)) w
  · skip
    obtain rfl : op = 19 := by omega
    by_cases g1 : (0 : Int) ≤ b
    · skip
      by_cases g2 : b ≤ 0
      · skip
        obtain rfl : b = 0 := by omega
        by_cases g3 : (0 : Int) ≤ c
        · skip
          by_cases g4 : c ≤ 0
          · skip
            obtain rfl : c = 0 := by omega
            exact t2a3_1 k0 n0 k1 n1 k2 n2 k3 n3 k4 n4 k5 n5 k6 n6 k7 n7 vk vn  w
          · skip
            exact t2a3_2 k0 n0 k1 n1 k2 n2 k3 n3 k4 n4 k5 n5 k6 n6 k7 n7 c vk vn (decide_eq_true (by omega)) (decide_eq_false (by omega)) (beq_eq_false_iff_ne.2 (by omega)) w
        · skip
          exact t2a3_3 k0 n0 k1 n1 k2 n2 k3 n3 k4 n4 k5 n5 k6 n6 k7 n7 c vk vn (decide_eq_false (by omega)) (beq_eq_false_iff_ne.2 (by omega)) w
      · skip
        exact t2a3_4 k0 n0 k1 n1 k2 n2 k3 n3 k4 n4 k5 n5 k6 n6 k7 n7 b c vk vn (decide_eq_true (by omega)) (decide_eq_false (by omega)) (beq_eq_false_iff_ne.2 (by omega)) w
    · skip
      exact t2a3_5 k0 n0 k1 n1 k2 n2 k3 n3 k4 n4 k5 n5 k6 n6 k7 n7 b c vk vn (decide_eq_false (by omega)) (beq_eq_false_iff_ne.2 (by omega)) w
theorem t2a4 (k0 : Int) (n0 : Int) (k1 : Int) (n1 : Int) (k2 : Int) (n2 : Int) (k3 : Int) (n3 : Int) (k4 : Int) (n4 : Int) (k5 : Int) (n5 : Int) (k6 : Int) (n6 : Int) (k7 : Int) (n7 : Int) (op : Int) (b : Int) (c : Int) (vk : Int) (vn : Int)  (w : World) : Calls Try.prog 4 (tArgs k0 n0 k1 n1 k2 n2 k3 n3 k4 n4 k5 n5 k6 n6 k7 n7 op 4 b c 2 vk vn) w (Ret (.bool true) w) := by
  by_cases g0 : op ≠ 19
  · skip
    exact t2a4_0 k0 n0 k1 n1 k2 n2 k3 n3 k4 n4 k5 n5 k6 n6 k7 n7 op b c vk vn (bne_iff_ne.2 (by omega)) w
  · skip
    obtain rfl : op = 19 := by omega
    by_cases g1 : (0 : Int) ≤ b
    · skip
      by_cases g2 : b ≤ 0
      · skip
        obtain rfl : b = 0 := by omega
        by_cases g3 : (0 : Int) ≤ c
        · skip
          by_cases g4 : c ≤ 0
          · skip
            obtain rfl : c = 0 := by omega
            exact t2a4_1 k0 n0 k1 n1 k2 n2 k3 n3 k4 n4 k5 n5 k6 n6 k7 n7 vk vn  w
          · skip
            exact t2a4_2 k0 n0 k1 n1 k2 n2 k3 n3 k4 n4 k5 n5 k6 n6 k7 n7 c vk vn (decide_eq_true (by omega)) (decide_eq_false (by omega)) (beq_eq_false_iff_ne.2 (by omega)) w
        · skip
          exact t2a4_3 k0 n0 k1 n1 k2 n2 k3 n3 k4 n4 k5 n5 k6 n6 k7 n7 c vk vn (decide_eq_false (by omega)) (beq_eq_false_iff_ne.2 (by omega)) w
      · skip
        exact t2a4_4 k0 n0 k1 n1 k2 n2 k3 n3 k4 n4 k5 n5 k6 n6 k7 n7 b c vk vn (decide_eq_true (by omega)) (decide_eq_false (by omega)) (beq_eq_false_iff_ne.2 (by omega)) w
    · skip
      exact t2a4_5 k0 n0 k1 n1 k2 n2 k3 n3 k4 n4 k5 n5 k6 n6 k7 n7 b c vk vn (decide_eq_false (by omega)) (beq_eq_false_iff_ne.2 (by omega)) w
theorem t2a5 (k0 : Int) (n0 : Int) (k1 : Int) (n1 : Int) (k2 : Int) (n2 : Int) (k3 : Int) (n3 : Int) (k4 : Int) (n4 : Int) (k5 : Int) (n5 : Int) (k6 : Int) (n6 : Int) (k7 : Int) (n7 : Int) (op : Int) (b : Int) (c : Int) (vk : Int) (vn : Int)  (w : World) : Calls Try.prog 4 (tArgs k0 n0 k1 n1 k2 n2 k3 n3 k4 n4 k5 n5 k6 n6 k7 n7 op 5 b c 2 vk vn) w (Ret (.bool true) w) := by
  by_cases g0 : op ≠ 19
  · skip
    exact t2a5_0 k0 n0 k1 n1 k2 n2 k3 n3 k4 n4 k5 n5 k6 n6 k7 n7 op b c vk vn (bne_iff_ne.2 (by omega)) w
  · skip
    obtain rfl : op = 19 := by omega
    by_cases g1 : (0 : Int) ≤ b
    · skip
      by_cases g2 : b ≤ 0
      · skip
        obtain rfl : b = 0 := by omega
        by_cases g3 : (0 : Int) ≤ c
        · skip
          by_cases g4 : c ≤ 0
          · skip
            obtain rfl : c = 0 := by omega
            exact t2a5_1 k0 n0 k1 n1 k2 n2 k3 n3 k4 n4 k5 n5 k6 n6 k7 n7 vk vn  w
          · skip
            exact t2a5_2 k0 n0 k1 n1 k2 n2 k3 n3 k4 n4 k5 n5 k6 n6 k7 n7 c vk vn (decide_eq_true (by omega)) (decide_eq_false (by omega)) (beq_eq_false_iff_ne.2 (by omega)) w
        · skip
          exact t2a5_3 k0 n0 k1 n1 k2 n2 k3 n3 k4 n4 k5 n5 k6 n6 k7 n7 c vk vn (decide_eq_false (by omega)) (beq_eq_false_iff_ne.2 (by omega)) w
      · skip
        exact t2a5_4 k0 n0 k1 n1 k2 n2 k3 n3 k4 n4 k5 n5 k6 n6 k7 n7 b c vk vn (decide_eq_true (by omega)) (decide_eq_false (by omega)) (beq_eq_false_iff_ne.2 (by omega)) w
    · skip
      exact t2a5_5 k0 n0 k1 n1 k2 n2 k3 n3 k4 n4 k5 n5 k6 n6 k7 n7 b c vk vn (decide_eq_false (by omega)) (beq_eq_false_iff_ne.2 (by omega)) w
theorem t2a6 (k0 : Int) (n0 : Int) (k1 : Int) (n1 : Int) (k2 : Int) (n2 : Int) (k3 : Int) (n3 : Int) (k4 : Int) (n4 : Int) (k5 : Int) (n5 : Int) (k6 : Int) (n6 : Int) (k7 : Int) (n7 : Int) (op : Int) (b : Int) (c : Int) (vk : Int) (vn : Int)  (w : World) : Calls Try.prog 4 (tArgs k0 n0 k1 n1 k2 n2 k3 n3 k4 n4 k5 n5 k6 n6 k7 n7 op 6 b c 2 vk vn) w (Ret (.bool true) w) := by
  by_cases g0 : op ≠ 19
  · skip
    exact t2a6_0 k0 n0 k1 n1 k2 n2 k3 n3 k4 n4 k5 n5 k6 n6 k7 n7 op b c vk vn (bne_iff_ne.2 (by omega)) w
  · skip
    obtain rfl : op = 19 := by omega
    by_cases g1 : (0 : Int) ≤ b
    · skip
      by_cases g2 : b ≤ 0
      · skip
        obtain rfl : b = 0 := by omega
        by_cases g3 : (0 : Int) ≤ c
        · skip
          by_cases g4 : c ≤ 0
          · skip
            obtain rfl : c = 0 := by omega
            exact t2a6_1 k0 n0 k1 n1 k2 n2 k3 n3 k4 n4 k5 n5 k6 n6 k7 n7 vk vn  w
          · skip
            exact t2a6_2 k0 n0 k1 n1 k2 n2 k3 n3 k4 n4 k5 n5 k6 n6 k7 n7 c vk vn (decide_eq_true (by omega)) (decide_eq_false (by omega)) (beq_eq_false_iff_ne.2 (by omega)) w
        · skip
          exact t2a6_3 k0 n0 k1 n1 k2 n2 k3 n3 k4 n4 k5 n5 k6 n6 k7 n7 c vk vn (decide_eq_false (by omega)) (beq_eq_false_iff_ne.2 (by omega)) w
      · skip
        exact t2a6_4 k0 n0 k1 n1 k2 n2 k3 n3 k4 n4 k5 n5 k6 n6 k7 n7 b c vk vn (decide_eq_true (by omega)) (decide_eq_false (by omega)) (beq_eq_false_iff_ne.2 (by omega)) w
    · skip
      exact t2a6_5 k0 n0 k1 n1 k2 n2 k3 n3 k4 n4 k5 n5 k6 n6 k7 n7 b c vk vn (decide_eq_false (by omega)) (beq_eq_false_iff_ne.2 (by omega)) w
theorem t2a7 (k0 : Int) (n0 : Int) (k1 : Int) (n1 : Int) (k2 : Int) (n2 : Int) (k3 : Int) (n3 : Int) (k4 : Int) (n4 : Int) (k5 : Int) (n5 : Int) (k6 : Int) (n6 : Int) (k7 : Int) (n7 : Int) (op : Int) (b : Int) (c : Int) (vk : Int) (vn : Int)  (w : World) : Calls Try.prog 4 (tArgs k0 n0 k1 n1 k2 n2 k3 n3 k4 n4 k5 n5 k6 n6 k7 n7 op 7 b c 2 vk vn) w (Ret (.bool true) w) := by
  by_cases g0 : op ≠ 19
  · skip
    exact t2a7_0 k0 n0 k1 n1 k2 n2 k3 n3 k4 n4 k5 n5 k6 n6 k7 n7 op b c vk vn (bne_iff_ne.2 (by omega)) w
  · skip
    obtain rfl : op = 19 := by omega
    by_cases g1 : (0 : Int) ≤ b
    · skip
      by_cases g2 : b ≤ 0
      · skip
        obtain rfl : b = 0 := by omega
        by_cases g3 : (0 : Int) ≤ c
        · skip
          by_cases g4 : c ≤ 0
          · skip
            obtain rfl : c = 0 := by omega
            exact t2a7_1 k0 n0 k1 n1 k2 n2 k3 n3 k4 n4 k5 n5 k6 n6 k7 n7 vk vn  w
          · skip
            exact t2a7_2 k0 n0 k1 n1 k2 n2 k3 n3 k4 n4 k5 n5 k6 n6 k7 n7 c vk vn (decide_eq_true (by omega)) (decide_eq_false (by omega)) (beq_eq_false_iff_ne.2 (by omega)) w
        · skip
          exact t2a7_3 k0 n0 k1 n1 k2 n2 k3 n3 k4 n4 k5 n5 k6 n6 k7 n7 c vk vn (decide_eq_false (by omega)) (beq_eq_false_iff_ne.2 (by omega)) w
      · skip
        exact t2a7_4 k0 n0 k1 n1 k2 n2 k3 n3 k4 n4 k5 n5 k6 n6 k7 n7 b c vk vn (decide_eq_true (by omega)) (decide_eq_false (by omega)) (beq_eq_false_iff_ne.2 (by omega)) w
    · skip
      exact t2a7_5 k0 n0 k1 n1 k2 n2 k3 n3 k4 n4 k5 n5 k6 n6 k7 n7 b c vk vn (decide_eq_false (by omega)) (beq_eq_false_iff_ne.2 (by omega)) w
theorem t2aL (k0 : Int) (n0 : Int) (k1 : Int) (n1 : Int) (k2 : Int) (n2 : Int) (k3 : Int) (n3 : Int) (k4 : Int) (n4 : Int) (k5 : Int) (n5 : Int) (k6 : Int) (n6 : Int) (k7 : Int) (n7 : Int) (op : Int) (a : Int) (b : Int) (c : Int) (vk : Int) (vn : Int) (ha : a < 0) (w : World) : Calls Try.prog 4 (tArgs k0 n0 k1 n1 k2 n2 k3 n3 k4 n4 k5 n5 k6 n6 k7 n7 op a b c 2 vk vn) w (Ret (.bool true) w) := by
  by_cases g0 : op ≠ 19
  · skip
    exact t2aL_0 k0 n0 k1 n1 k2 n2 k3 n3 k4 n4 k5 n5 k6 n6 k7 n7 op a b c vk vn (bne_iff_ne.2 (by omega)) w
  · skip
    obtain rfl : op = 19 := by omega
    exact t2aL_1 k0 n0 k1 n1 k2 n2 k3 n3 k4 n4 k5 n5 k6 n6 k7 n7 a b c vk vn (decide_eq_false (by omega)) (decide_eq_false (by omega)) w
theorem t2aH (k0 : Int) (n0 : Int) (k1 : Int) (n1 : Int) (k2 : Int) (n2 : Int) (k3 : Int) (n3 : Int) (k4 : Int) (n4 : Int) (k5 : Int) (n5 : Int) (k6 : Int) (n6 : Int) (k7 : Int) (n7 : Int) (op : Int) (a : Int) (b : Int) (c : Int) (vk : Int) (vn : Int) (ha : 7 < a) (w : World) : Calls Try.prog 4 (tArgs k0 n0 k1 n1 k2 n2 k3 n3 k4 n4 k5 n5 k6 n6 k7 n7 op a b c 2 vk vn) w (Ret (.bool true) w) := by
  by_cases g0 : op ≠ 19
  · skip
    exact t2aH_0 k0 n0 k1 n1 k2 n2 k3 n3 k4 n4 k5 n5 k6 n6 k7 n7 op a b c vk vn (bne_iff_ne.2 (by omega)) w
  · skip
    obtain rfl : op = 19 := by omega
    exact t2aH_1 k0 n0 k1 n1 k2 n2 k3 n3 k4 n4 k5 n5 k6 n6 k7 n7 a b c vk vn (decide_eq_true (by omega)) (decide_eq_false (by omega)) (decide_eq_true (by omega)) (decide_eq_false (by omega)) w
theorem t3a0 (k0 : Int) (n0 : Int) (k1 : Int) (n1 : Int) (k2 : Int) (n2 : Int) (k3 : Int) (n3 : Int) (k4 : Int) (n4 : Int) (k5 : Int) (n5 : Int) (k6 : Int) (n6 : Int) (k7 : Int) (n7 : Int) (op : Int) (b : Int) (c : Int) (vk : Int) (vn : Int)  (w : World) : Calls Try.prog 4 (tArgs k0 n0 k1 n1 k2 n2 k3 n3 k4 n4 k5 n5 k6 n6 k7 n7 op 0 b c 3 vk vn) w (Ret (.bool true) w) := by
  by_cases g0 : op ≠ 19
  · skip
    exact t3a0_0 k0 n0 k1 n1 k2 n2 k3 n3 k4 n4 k5 n5 k6 n6 k7 n7 op b c vk vn (bne_iff_ne.2 (by omega)) w
  · skip
    obtain rfl : op = 19 := by omega
    by_cases g1 : (0 : Int) ≤ b
    · skip
      by_cases g2 : b ≤ 0
      · skip
        obtain rfl : b = 0 := by omega
        by_cases g3 : (0 : Int) ≤ c
        · skip
          by_cases g4 : c ≤ 0
          · skip
            obtain rfl : c = 0 := by omega
            exact t3a0_1 k0 n0 k1 n1 k2 n2 k3 n3 k4 n4 k5 n5 k6 n6 k7 n7 vk vn  w
          · skip
            exact t3a0_2 k0 n0 k1 n1 k2 n2 k3 n3 k4 n4 k5 n5 k6 n6 k7 n7 c vk vn (decide_eq_true (by omega)) (decide_eq_false (by omega)) (beq_eq_false_iff_ne.2 (by omega)) w
        · skip
          exact t3a0_3 k0 n0 k1 n1 k2 n2 k3 n3 k4 n4 k5 n5 k6 n6 k7 n7 c vk vn (decide_eq_false (by omega)) (beq_eq_false_iff_ne.2 (by omega)) w
      · skip
        exact t3a0_4 k0 n0 k1 n1 k2 n2 k3 n3 k4 n4 k5 n5 k6 n6 k7 n7 b c vk vn (decide_eq_true (by omega)) (decide_eq_false (by omega)) (beq_eq_false_iff_ne.2 (by omega)) w
    · skip
      exact t3a0_5 k0 n0 k1 n1 k2 n2 k3 n3 k4 n4 k5 n5 k6 n6 k7 n7 b c vk vn (decide_eq_false (by omega)) (beq_eq_false_iff_ne.2 (by omega)) w
theorem t3a1 (k0 : Int) (n0 : Int) (k1 : Int) (n1 : Int) (k2 : Int) (n2 : Int) (k3 : Int) (n3 : Int) (k4 : Int) (n4 : Int) (k5 : Int) (n5 : Int) (k6 : Int) (n6 : Int) (k7 : Int) (n7 : Int) (op : Int) (b : Int) (c : Int) (vk : Int) (vn : Int)  (w : World) : Calls Try.prog 4 (tArgs k0 n0 k1 n1 k2 n2 k3 n3 k4 n4 k5 n5 k6 n6 k7 n7 op 1 b c 3 vk vn) w (Ret (.bool true) w) := by
  by_cases g0 : op ≠ 19
  · skip
    exact t3a1_0 k0 n0 k1 n1 k2 n2 k3 n3 k4 n4 k5 n5 k6 n6 k7 n7 op b c vk vn (bne_iff_ne.2 (by omega)) w
  · skip
    obtain rfl : op = 19 := by omega
    by_cases g1 : (0 : Int) ≤ b
    · skip
      by_cases g2 : b ≤ 0
      · skip
        obtain rfl : b = 0 := by omega
        by_cases g3 : (0 : Int) ≤ c
        · skip
          by_cases g4 : c ≤ 0
          · skip
            obtain rfl : c = 0 := by omega
            exact t3a1_1 k0 n0 k1 n1 k2 n2 k3 n3 k4 n4 k5 n5 k6 n6 k7 n7 vk vn  w
          · skip
            exact t3a1_2 k0 n0 k1 n1 k2 n2 k3 n3 k4 n4 k5 n5 k6 n6 k7 n7 c vk vn (decide_eq_true (by omega)) (decide_eq_false (by omega)) (beq_eq_false_iff_ne.2 (by omega)) w
        · skip
          exact t3a1_3 k0 n0 k1 n1 k2 n2 k3 n3 k4 n4 k5 n5 k6 n6 k7 n7 c vk vn (decide_eq_false (by omega)) (beq_eq_false_iff_ne.2 (by omega)) w
      · skip
        exact t3a1_4 k0 n0 k1 n1 k2 n2 k3 n3 k4 n4 k5 n5 k6 n6 k7 n7 b c vk vn (decide_eq_true (by omega)) (decide_eq_false (by omega)) (beq_eq_false_iff_ne.2 (by omega)) w
    · skip
      exact t3a1_5 k0 n0 k1 n1 k2 n2 k3 n3 k4 n4 k5 n5 k6 n6 k7 n7 b c vk vn (decide_eq_false (by omega)) (beq_eq_false_iff_ne.2 (by omega)) w
theorem t3a2 (k0 : Int) (n0 : Int) (k1 : Int) (n1 : Int) (k2 : Int) (n2 : Int) (k3 : Int) (n3 : Int) (k4 : Int) (n4 : Int) (k5 : Int) (n5 : Int) (k6 : Int) (n6 : Int) (k7 : Int) (n7 : Int) (op : Int) (b : Int) (c : Int) (vk : Int) (vn : Int)  (w : World) : Calls Try.prog 4 (tArgs k0 n0 k1 n1 k2 n2 k3 n3 k4 n4 k5 n5 k6 n6 k7 n7 op 2 b c 3 vk vn) w (Ret (.bool true) w) := by
  by_cases g0 : op ≠ 19
  · skip
    exact t3a2_0 k0 n0 k1 n1 k2 n2 k3 n3 k4 n4 k5 n5 k6 n6 k7 n7 op b c vk vn (bne_iff_ne.2 (by omega)) w
  · skip
    obtain rfl : op = 19 := by omega
    by_cases g1 : (0 : Int) ≤ b
    · skip
      by_cases g2 : b ≤ 0
      · skip
        obtain rfl : b = 0 := by omega
        by_cases g3 : (0 : Int) ≤ c
        · skip
          by_cases g4 : c ≤ 0
          · skip
            obtain rfl : c = 0 := by omega
            exact t3a2_1 k0 n0 k1 n1 k2 n2 k3 n3 k4 n4 k5 n5 k6 n6 k7 n7 vk vn  w
          · skip
            exact t3a2_2 k0 n0 k1 n1 k2 n2 k3 n3 k4 n4 k5 n5 k6 n6 k7 n7 c vk vn (decide_eq_true (by omega)) (decide_eq_false (by omega)) (beq_eq_false_iff_ne.2 (by omega)) w
        · skip
          exact t3a2_3 k0 n0 k1 n1 k2 n2 k3 n3 k4 n4 k5 n5 k6 n6 k7 n7 c vk vn (decide_eq_false (by omega)) (beq_eq_false_iff_ne.2 (by omega)) w
      · skip
        exact t3a2_4 k0 n0 k1 n1 k2 n2 k3 n3 k4 n4 k5 n5 k6 n6 k7 n7 b c vk vn (decide_eq_true (by omega)) (decide_eq_false (by omega)) (beq_eq_false_iff_ne.2 (by omega)) w
    · skip
      exact t3a2_5 k0 n0 k1 n1 k2 n2 k3 n3 k4 n4 k5 n5 k6 n6 k7 n7 b c vk vn (decide_eq_false (by omega)) (beq_eq_false_iff_ne.2 (by omega)) w
theorem t3a3 (k0 : Int) (n0 : Int) (k1 : Int) (n1 : Int) (k2 : Int) (n2 : Int) (k3 : Int) (n3 : Int) (k4 : Int) (n4 : Int) (k5 : Int) (n5 : Int) (k6 : Int) (n6 : Int) (k7 : Int) (n7 : Int) (op : Int) (b : Int) (c : Int) (vk : Int) (vn : Int)  (w : World) : Calls Try.prog 4 (tArgs k0 n0 k1 n1 k2 n2 k3 n3 k4 n4 k5 n5 k6 n6 k7 n7 op 3 b c 3 vk vn) w (Ret (.bool true) w) := by
  by_cases g0 : op ≠ 19
  · skip
    exact t3a3_0 k0 n0 k1 n1 k2 n2 k3 n3 k4 n4 k5 n5 k6 n6 k7 n7 op b c vk vn (bne_iff_ne.2 (by omega)) w
  · skip
    obtain rfl : op = 19 := by omega
    by_cases g1 : (0 : Int) ≤ b
    · skip
      by_cases g2 : b ≤ 0
      · skip
        obtain rfl : b = 0 := by omega
        by_cases g3 : (0 : Int) ≤ c
        · skip
          by_cases g4 : c ≤ 0
          · skip
            obtain rfl : c = 0 := by omega
            exact t3a3_1 k0 n0 k1 n1 k2 n2 k3 n3 k4 n4 k5 n5 k6 n6 k7 n7 vk vn  w
          · skip
            exact t3a3_2 k0 n0 k1 n1 k2 n2 k3 n3 k4 n4 k5 n5 k6 n6 k7 n7 c vk vn (decide_eq_true (by omega)) (decide_eq_false (by omega)) (beq_eq_false_iff_ne.2 (by omega)) w
        · skip
          exact t3a3_3 k0 n0 k1 n1 k2 n2 k3 n3 k4 n4 k5 n5 k6 n6 k7 n7 c vk vn (decide_eq_false (by omega)) (beq_eq_false_iff_ne.2 (by omega)) w
      · skip
        exact t3a3_4 k0 n0 k1 n1 k2 n2 k3 n3 k4 n4 k5 n5 k6 n6 k7 n7 b c vk vn (decide_eq_true (by omega)) (decide_eq_false (by omega)) (beq_eq_false_iff_ne.2 (by omega)) w
    · skip
      exact t3a3_5 k0 n0 k1 n1 k2 n2 k3 n3 k4 n4 k5 n5 k6 n6 k7 n7 b c vk vn (decide_eq_false (by omega)) (beq_eq_false_iff_ne.2 (by omega)) w
theorem t3a4 (k0 : Int) (n0 : Int) (k1 : Int) (n1 : Int) (k2 : Int) (n2 : Int) (k3 : Int) (n3 : Int) (k4 : Int) (n4 : Int) (k5 : Int) (n5 : Int) (k6 : Int) (n6 : Int) (k7 : Int) (n7 : Int) (op : Int) (b : Int) (c : Int) (vk : Int) (vn : Int)  (w : World) : Calls Try.prog 4 (tArgs k0 n0 k1 n1 k2 n2 k3 n3 k4 n4 k5 n5 k6 n6 k7 n7 op 4 b c 3 vk vn) w (Ret (.bool true) w) := by
  by_cases g0 : op ≠ 19
  · skip
    exact t3a4_0 k0 n0 k1 n1 k2 n2 k3 n3 k4 n4 k5 n5 k6 n6 k7 n7 op b c vk vn (bne_iff_ne.2 (by omega)) w
  · skip
    obtain rfl : op = 19 := by omega
    by_cases g1 : (0 : Int) ≤ b
    · skip
      by_cases g2 : b ≤ 0
      · skip
        obtain rfl : b = 0 := by omega
        by_cases g3 : (0 : Int) ≤ c
        · skip
          by_cases g4 : c ≤ 0
          · skip
            obtain rfl : c = 0 := by omega
            exact t3a4_1 k0 n0 k1 n1 k2 n2 k3 n3 k4 n4 k5 n5 k6 n6 k7 n7 vk vn  w
          · skip
            exact t3a4_2 k0 n0 k1 n1 k2 n2 k3 n3 k4 n4 k5 n5 k6 n6 k7 n7 c vk vn (decide_eq_true (by omega)) (decide_eq_false (by omega)) (beq_eq_false_iff_ne.2 (by omega)) w
        · skip
          exact t3a4_3 k0 n0 k1 n1 k2 n2 k3 n3 k4 n4 k5 n5 k6 n6 k7 n7 c vk vn (decide_eq_false (by omega)) (beq_eq_false_iff_ne.2 (by omega)) w
      · skip
        exact t3a4_4 k0 n0 k1 n1 k2 n2 k3 n3 k4 n4 k5 n5 k6 n6 k7 n7 b c vk vn (decide_eq_true (by omega)) (decide_eq_false (by omega)) (beq_eq_false_iff_ne.2 (by omega)) w
    · skip
      exact t3a4_5 k0 n0 k1 n1 k2 n2 k3 n3 k4 n4 k5 n5 k6 n6 k7 n7 b c vk vn (decide_eq_false (by omega)) (beq_eq_false_iff_ne.2 (by omega)) w
theorem t3a5 (k0 : Int) (n0 : Int) (k1 : Int) (n1 : Int) (k2 : Int) (n2 : Int) (k3 : Int) (n3 : Int) (k4 : Int) (n4 : Int) (k5 : Int) (n5 : Int) (k6 : Int) (n6 : Int) (k7 : Int) (n7 : Int) (op : Int) (b : Int) (c : Int) (vk : Int) (vn : Int)  (w : World) : Calls Try.prog 4 (tArgs k0 n0 k1 n1 k2 n2 k3 n3 k4 n4 k5 n5 k6 n6 k7 n7 op 5 b c 3 vk vn) w (Ret (.bool true) w) := by
  by_cases g0 : op ≠ 19
  · skip
    exact t3a5_0 k0 n0 k1 n1 k2 n2 k3 n3 k4 n4 k5 n5 k6 n6 k7 n7 op b c vk vn (bne_iff_ne.2 (by omega)) w
  · skip
    obtain rfl : op = 19 := by omega
    by_cases g1 : (0 : Int) ≤ b
    · skip
      by_cases g2 : b ≤ 0
      · skip
        obtain rfl : b = 0 := by omega
        by_cases g3 : (0 : Int) ≤ c
        · skip
          by_cases g4 : c ≤ 0
          · skip
            obtain rfl : c = 0 := by omega
            exact t3a5_1 k0 n0 k1 n1 k2 n2 k3 n3 k4 n4 k5 n5 k6 n6 k7 n7 vk vn  w
          · skip
            exact t3a5_2 k0 n0 k1 n1 k2 n2 k3 n3 k4 n4 k5 n5 k6 n6 k7 n7 c vk vn (decide_eq_true (by omega)) (decide_eq_false (by omega)) (beq_eq_false_iff_ne.2 (by omega)) w
        · skip
          exact t3a5_3 k0 n0 k1 n1 k2 n2 k3 n3 k4 n4 k5 n5 k6 n6 k7 n7 c vk vn (decide_eq_false (by omega)) (beq_eq_false_iff_ne.2 (by omega)) w
      · skip
        exact t3a5_4 k0 n0 k1 n1 k2 n2 k3 n3 k4 n4 k5 n5 k6 n6 k7 n7 b c vk vn (decide_eq_true (by omega)) (decide_eq_false (by omega)) (beq_eq_false_iff_ne.2 (by omega)) w
    · skip
      exact t3a5_5 k0 n0 k1 n1 k2 n2 k3 n3 k4 n4 k5 n5 k6 n6 k7 n7 b c vk vn (decide_eq_false (by omega)) (beq_eq_false_iff_ne.2 (by omega)) w
theorem t3a6 (k0 : Int) (n0 : Int) (k1 : Int) (n1 : Int) (k2 : Int) (n2 : Int) (k3 : Int) (n3 : Int) (k4 : Int) (n4 : Int) (k5 : Int) (n5 : Int) (k6 : Int) (n6 : Int) (k7 : Int) (n7 : Int) (op : Int) (b : Int) (c : Int) (vk : Int) (vn : Int)  (w : World) : Calls Try.prog 4 (tArgs k0 n0 k1 n1 k2 n2 k3 n3 k4 n4 k5 n5 k6 n6 k7 n7 op 6 b c 3 vk vn) w (Ret (.bool true) w) := by
  by_cases g0 : op ≠ 19
  · skip
    exact t3a6_0 k0 n0 k1 n1 k2 n2 k3 n3 k4 n4 k5 n5 k6 n6 k7 n7 op b c vk vn (bne_iff_ne.2 (by omega)) w
  · skip
    obtain rfl : op = 19 := by omega
    by_cases g1 : (0 : Int) ≤ b
    · skip
      by_cases g2 : b ≤ 0
      · skip
        obtain rfl : b = 0 := by omega
        by_cases g3 : (0 : Int) ≤ c
        · skip
          by_cases g4 : c ≤ 0
          · skip
            obtain rfl : c = 0 := by omega
            exact t3a6_1 k0 n0 k1 n1 k2 n2 k3 n3 k4 n4 k5 n5 k6 n6 k7 n7 vk vn  w
          · skip
            exact t3a6_2 k0 n0 k1 n1 k2 n2 k3 n3 k4 n4 k5 n5 k6 n6 k7 n7 c vk vn (decide_eq_true (by omega)) (decide_eq_false (by omega)) (beq_eq_false_iff_ne.2 (by omega)) w
        · skip
          exact t3a6_3 k0 n0 k1 n1 k2 n2 k3 n3 k4 n4 k5 n5 k6 n6 k7 n7 c vk vn (decide_eq_false (by omega)) (beq_eq_false_iff_ne.2 (by omega)) w
      · skip
        exact t3a6_4 k0 n0 k1 n1 k2 n2 k3 n3 k4 n4 k5 n5 k6 n6 k7 n7 b c vk vn (decide_eq_true (by omega)) (decide_eq_false (by omega)) (beq_eq_false_iff_ne.2 (by omega)) w
    · skip
      exact t3a6_5 k0 n0 k1 n1 k2 n2 k3 n3 k4 n4 k5 n5 k6 n6 k7 n7 b c vk vn (decide_eq_false (by omega)) (beq_eq_false_iff_ne.2 (by omega)) w
theorem t3a7 (k0 : Int) (n0 : Int) (k1 : Int) (n1 : Int) (k2 : Int) (n2 : Int) (k3 : Int) (n3 : Int) (k4 : Int) (n4 : Int) (k5 : Int) (n5 : Int) (k6 : Int) (n6 : Int) (k7 : Int) (n7 : Int) (op : Int) (b : Int) (c : Int) (vk : Int) (vn : Int)  (w : World) : Calls Try.prog 4 (tArgs k0 n0 k1 n1 k2 n2 k3 n3 k4 n4 k5 n5 k6 n6 k7 n7 op 7 b c 3 vk vn) w (Ret (.bool true) w) := by
  by_cases g0 : op ≠ 19
  · skip
    exact t3a7_0 k0 n0 k1 n1 k2 n2 k3 n3 k4 n4 k5 n5 k6 n6 k7 n7 op b c vk vn (bne_iff_ne.2 (by omega)) w
  · skip
    obtain rfl : op = 19 := by omega
    by_cases g1 : (0 : Int) ≤ b
    · skip
      by_cases g2 : b ≤ 0
      · skip
        obtain rfl : b = 0 := by omega
        by_cases g3 : (0 : Int) ≤ c
        · skip
          by_cases g4 : c ≤ 0
          · skip
            obtain rfl : c = 0 := by omega
            exact t3a7_1 k0 n0 k1 n1 k2 n2 k3 n3 k4 n4 k5 n5 k6 n6 k7 n7 vk vn  w
          · skip
            exact t3a7_2 k0 n0 k1 n1 k2 n2 k3 n3 k4 n4 k5 n5 k6 n6 k7 n7 c vk vn (decide_eq_true (by omega)) (decide_eq_false (by omega)) (beq_eq_false_iff_ne.2 (by omega)) w
        · skip
          exact t3a7_3 k0 n0 k1 n1 k2 n2 k3 n3 k4 n4 k5 n5 k6 n6 k7 n7 c vk vn (decide_eq_false (by omega)) (beq_eq_false_iff_ne.2 (by omega)) w
      · skip
        exact t3a7_4 k0 n0 k1 n1 k2 n2 k3 n3 k4 n4 k5 n5 k6 n6 k7 n7 b c vk vn (decide_eq_true (by omega)) (decide_eq_false (by omega)) (beq_eq_false_iff_ne.2 (by omega)) w
    · skip
      exact t3a7_5 k0 n0 k1 n1 k2 n2 k3 n3 k4 n4 k5 n5 k6 n6 k7 n7 b c vk vn (decide_eq_false (by omega)) (beq_eq_false_iff_ne.2 (by omega)) w
theorem t3aL (k0 : Int) (n0 : Int) (k1 : Int) (n1 : Int) (k2 : Int) (n2 : Int) (k3 : Int) (n3 : Int) (k4 : Int) (n4 : Int) (k5 : Int) (n5 : Int) (k6 : Int) (n6 : Int) (k7 : Int) (n7 : Int) (op : Int) (a : Int) (b : Int) (c : Int) (vk : Int) (vn : Int) (ha : a < 0) (w : World) : Calls Try.prog 4 (tArgs k0 n0 k1 n1 k2 n2 k3 n3 k4 n4 k5 n5 k6 n6 k7 n7 op a b c 3 vk vn) w (Ret (.bool true) w) := by
  by_cases g0 : op ≠ 19
  · skip
    exact t3aL_0 k0 n0 k1 n1 k2 n2 k3 n3 k4 n4 k5 n5 k6 n6 k7 n7 op a b c vk vn (bne_iff_ne.2 (by omega)) w
  · skip
    obtain rfl : op = 19 := by omega
    exact t3aL_1 k0 n0 k1 n1 k2 n2 k3 n3 k4 n4 k5 n5 k6 n6 k7 n7 a b c vk vn (decide_eq_false (by omega)) (decide_eq_false (by omega)) w
theorem t3aH (k0 : Int) (n0 : Int) (k1 : Int) (n1 : Int) (k2 : Int) (n2 : Int) (k3 : Int) (n3 : Int) (k4 : Int) (n4 : Int) (k5 : Int) (n5 : Int) (k6 : Int) (n6 : Int) (k7 : Int) (n7 : Int) (op : Int) (a : Int) (b : Int) (c : Int) (vk : Int) (vn : Int) (ha : 7 < a) (w : World) : Calls Try.prog 4 (tArgs k0 n0 k1 n1 k2 n2 k3 n3 k4 n4 k5 n5 k6 n6 k7 n7 op a b c 3 vk vn) w (Ret (.bool true) w) := by
  by_cases g0 : op ≠ 19
  · skip
    exact t3aH_0 k0 n0 k1 n1 k2 n2 k3 n3 k4 n4 k5 n5 k6 n6 k7 n7 op a b c vk vn (bne_iff_ne.2 (by omega)) w
  · skip
    obtain rfl : op = 19 := by omega
    exact t3aH_1 k0 n0 k1 n1 k2 n2 k3 n3 k4 n4 k5 n5 k6 n6 k7 n7 a b c vk vn (decide_eq_true (by omega)) (decide_eq_false (by omega)) (decide_eq_true (by omega)) (decide_eq_false (by omega)) w
theorem t4a0 (k0 : Int) (n0 : Int) (k1 : Int) (n1 : Int) (k2 : Int) (n2 : Int) (k3 : Int) (n3 : Int) (k4 : Int) (n4 : Int) (k5 : Int) (n5 : Int) (k6 : Int) (n6 : Int) (k7 : Int) (n7 : Int) (op : Int) (b : Int) (c : Int) (vk : Int) (vn : Int)  (w : World) : Calls Try.prog 4 (tArgs k0 n0 k1 n1 k2 n2 k3 n3 k4 n4 k5 n5 k6 n6 k7 n7 op 0 b c 4 vk vn) w (Ret (.bool true) w) := by
  by_cases g0 : op ≠ 19
  · skip
    exact t4a0_0 k0 n0 k1 n1 k2 n2 k3 n3 k4 n4 k5 n5 k6 n6 k7 n7 op b c vk vn (bne_iff_ne.2 (by omega)) w
  · skip
    obtain rfl : op = 19 := by omega
    by_cases g1 : (0 : Int) ≤ b
    · skip
      by_cases g2 : b ≤ 0
      · skip
        obtain rfl : b = 0 := by omega
        by_cases g3 : (0 : Int) ≤ c
        · skip
          by_cases g4 : c ≤ 0
          · skip
            obtain rfl : c = 0 := by omega
            exact t4a0_1 k0 n0 k1 n1 k2 n2 k3 n3 k4 n4 k5 n5 k6 n6 k7 n7 vk vn  w
          · skip
            exact t4a0_2 k0 n0 k1 n1 k2 n2 k3 n3 k4 n4 k5 n5 k6 n6 k7 n7 c vk vn (decide_eq_true (by omega)) (decide_eq_false (by omega)) (beq_eq_false_iff_ne.2 (by omega)) w
        · skip
          exact t4a0_3 k0 n0 k1 n1 k2 n2 k3 n3 k4 n4 k5 n5 k6 n6 k7 n7 c vk vn (decide_eq_false (by omega)) (beq_eq_false_iff_ne.2 (by omega)) w
      · skip
        exact t4a0_4 k0 n0 k1 n1 k2 n2 k3 n3 k4 n4 k5 n5 k6 n6 k7 n7 b c vk vn (decide_eq_true (by omega)) (decide_eq_false (by omega)) (beq_eq_false_iff_ne.2 (by omega)) w
    · skip
      exact t4a0_5 k0 n0 k1 n1 k2 n2 k3 n3 k4 n4 k5 n5 k6 n6 k7 n7 b c vk vn (decide_eq_false (by omega)) (beq_eq_false_iff_ne.2 (by omega)) w
theorem t4a1 (k0 : Int) (n0 : Int) (k1 : Int) (n1 : Int) (k2 : Int) (n2 : Int) (k3 : Int) (n3 : Int) (k4 : Int) (n4 : Int) (k5 : Int) (n5 : Int) (k6 : Int) (n6 : Int) (k7 : Int) (n7 : Int) (op : Int) (b : Int) (c : Int) (vk : Int) (vn : Int)  (w : World) : Calls Try.prog 4 (tArgs k0 n0 k1 n1 k2 n2 k3 n3 k4 n4 k5 n5 k6 n6 k7 n7 op 1 b c 4 vk vn) w (Ret (.bool true) w) := by
  by_cases g0 : op ≠ 19
  · skip
    exact t4a1_0 k0 n0 k1 n1 k2 n2 k3 n3 k4 n4 k5 n5 k6 n6 k7 n7 op b c vk vn (bne_iff_ne.2 (by omega)) w
  · skip
    obtain rfl : op = 19 := by omega
    by_cases g1 : (0 : Int) ≤ b
    · skip
      by_cases g2 : b ≤ 0
      · skip
        obtain rfl : b = 0 := by omega
        by_cases g3 : (0 : Int) ≤ c
        · skip
          by_cases g4 : c ≤ 0
          · skip
            obtain rfl : c = 0 := by omega
            exact t4a1_1 k0 n0 k1 n1 k2 n2 k3 n3 k4 n4 k5 n5 k6 n6 k7 n7 vk vn  w
          · skip
            exact t4a1_2 k0 n0 k1 n1 k2 n2 k3 n3 k4 n4 k5 n5 k6 n6 k7 n7 c vk vn (decide_eq_true (by omega)) (decide_eq_false (by omega)) (beq_eq_false_iff_ne.2 (by omega)) w
        · skip
          exact t4a1_3 k0 n0 k1 n1 k2 n2 k3 n3 k4 n4 k5 n5 k6 n6 k7 n7 c vk vn (decide_eq_false (by omega)) (beq_eq_false_iff_ne.2 (by omega)) w
      · skip
        exact t4a1_4 k0 n0 k1 n1 k2 n2 k3 n3 k4 n4 k5 n5 k6 n6 k7 n7 b c vk vn (decide_eq_true (by omega)) (decide_eq_false (by omega)) (beq_eq_false_iff_ne.2 (by omega)) w
    · skip
      exact t4a1_5 k0 n0 k1 n1 k2 n2 k3 n3 k4 n4 k5 n5 k6 n6 k7 n7 b c vk vn (decide_eq_false (by omega)) (beq_eq_false_iff_ne.2 (by omega)) w
theorem t4a2 (k0 : Int) (n0 : Int) (k1 : Int) (n1 : Int) (k2 : Int) (n2 : Int) (k3 : Int) (n3 : Int) (k4 : Int) (n4 : Int) (k5 : Int) (n5 : Int) (k6 : Int) (n6 : Int) (k7 : Int) (n7 : Int) (op : Int) (b : Int) (c : Int) (vk : Int) (vn : Int)  (w : World) : Calls Try.prog 4 (tArgs k0 n0 k1 n1 k2 n2 k3 n3 k4 n4 k5 n5 k6 n6 k7 n7 op 2 b c 4 vk vn) w (Ret (.bool true) w) := by
  by_cases g0 : op ≠ 19
  · skip
    exact t4a2_0 k0 n0 k1 n1 k2 n2 k3 n3 k4 n4 k5 n5 k6 n6 k7 n7 op b c vk vn (bne_iff_ne.2 (by omega)) w
  · skip
    obtain rfl : op = 19 := by omega
    by_cases g1 : (0 : Int) ≤ b
    · skip
      by_cases g2 : b ≤ 0
      · skip
        obtain rfl : b = 0 := by omega
        by_cases g3 : (0 : Int) ≤ c
        · skip
          by_cases g4 : c ≤ 0
          · skip
            obtain rfl : c = 0 := by omega
            exact t4a2_1 k0 n0 k1 n1 k2 n2 k3 n3 k4 n4 k5 n5 k6 n6 k7 n7 vk vn  w
          · skip
            exact t4a2_2 k0 n0 k1 n1 k2 n2 k3 n3 k4 n4 k5 n5 k6 n6 k7 n7 c vk vn (decide_eq_true (by omega)) (decide_eq_false (by omega)) (beq_eq_false_iff_ne.2 (by omega)) w
        · skip
          exact t4a2_3 k0 n0 k1 n1 k2 n2 k3 n3 k4 n4 k5 n5 k6 n6 k7 n7 c vk vn (decide_eq_false (by omega)) (beq_eq_false_iff_ne.2 (by omega)) w
      · skip
        exact t4a2_4 k0 n0 k1 n1 k2 n2 k3 n3 k4 n4 k5 n5 k6 n6 k7 n7 b c vk vn (decide_eq_true (by omega)) (decide_eq_false (by omega)) (beq_eq_false_iff_ne.2 (by omega)) w
    · skip
      exact t4a2_5 k0 n0 k1 n1 k2 n2 k3 n3 k4 n4 k5 n5 k6 n6 k7 n7 b c vk vn (decide_eq_false (by omega)) (beq_eq_false_iff_ne.2 (by omega)) w
theorem t4a3 (k0 : Int) (n0 : Int) (k1 : Int) (n1 : Int) (k2 : Int) (n2 : Int) (k3 : Int) (n3 : Int) (k4 : Int) (n4 : Int) (k5 : Int) (n5 : Int) (k6 : Int) (n6 : Int) (k7 : Int) (n7 : Int) (op : Int) (b : Int) (c : Int) (vk : Int) (vn : Int)  (w : World) : Calls Try.prog 4 (tArgs k0 n0 k1 n1 k2 n2 k3 n3 k4 n4 k5 n5 k6 n6 k7 n7 op 3 b c 4 vk vn) w (Ret (.bool true) w) := by
  by_cases g0 : op ≠ 19
  · skip
    exact t4a3_0 k0 n0 k1 n1 k2 n2 k3 n3 k4 n4 k5 n5 k6 n6 k7 n7 op b c vk vn (bne_iff_ne.2 (by omega)) w
  · skip
    obtain rfl : op = 19 := by omega
    by_cases g1 : (0 : Int) ≤ b
    · skip
      by_cases g2 : b ≤ 0
      · skip
        obtain rfl : b = 0 := by omega
        by_cases g3 : (0 : Int) ≤ c
        · skip
          by_cases g4 : c ≤ 0
          · skip
            obtain rfl : c = 0 := by omega
            exact t4a3_1 k0 n0 k1 n1 k2 n2 k3 n3 k4 n4 k5 n5 k6 n6 k7 n7 vk vn  w
          · skip
            exact t4a3_2 k0 n0 k1 n1 k2 n2 k3 n3 k4 n4 k5 n5 k6 n6 k7 n7 c vk vn (decide_eq_true (by omega)) (decide_eq_false (by omega)) (beq_eq_false_iff_ne.2 (by omega)) w
        · skip
          exact t4a3_3 k0 n0 k1 n1 k2 n2 k3 n3 k4 n4 k5 n5 k6 n6 k7 n7 c vk vn (decide_eq_false (by omega)) (beq_eq_false_iff_ne.2 (by omega)) w
      · skip
        exact t4a3_4 k0 n0 k1 n1 k2 n2 k3 n3 k4 n4 k5 n5 k6 n6 k7 n7 b c vk vn (decide_eq_true (by omega)) (decide_eq_false (by omega)) (beq_eq_false_iff_ne.2 (by omega)) w
    · skip
      exact t4a3_5 k0 n0 k1 n1 k2 n2 k3 n3 k4 n4 k5 n5 k6 n6 k7 n7 b c vk vn (decide_eq_false (by omega)) (beq_eq_false_iff_ne.2 (by omega)) w
theorem t4a4 (k0 : Int) (n0 : Int) (k1 : Int) (n1 : Int) (k2 : Int) (n2 : Int) (k3 : Int) (n3 : Int) (k4 : Int) (n4 : Int) (k5 : Int) (n5 : Int) (k6 : Int) (n6 : Int) (k7 : Int) (n7 : Int) (op : Int) (b : Int) (c : Int) (vk : Int) (vn : Int)  (w : World) : Calls Try.prog 4 (tArgs k0 n0 k1 n1 k2 n2 k3 n3 k4 n4 k5 n5 k6 n6 k7 n7 op 4 b c 4 vk vn) w (Ret (.bool true) w) := by
  by_cases g0 : op ≠ 19
  · skip
    exact t4a4_0 k0 n0 k1 n1 k2 n2 k3 n3 k4 n4 k5 n5 k6 n6 k7 n7 op b c vk vn (bne_iff_ne.2 (by omega)) w
  · skip
    obtain rfl : op = 19 := by omega
    by_cases g1 : (0 : Int) ≤ b
    · skip
      by_cases g2 : b ≤ 0
      · skip
        obtain rfl : b = 0 := by omega
        by_cases g3 : (0 : Int) ≤ c
        · skip
          by_cases g4 : c ≤ 0
          · skip
            obtain rfl : c = 0 := by omega
            exact t4a4_1 k0 n0 k1 n1 k2 n2 k3 n3 k4 n4 k5 n5 k6 n6 k7 n7 vk vn  w
          · skip
            exact t4a4_2 k0 n0 k1 n1 k2 n2 k3 n3 k4 n4 k5 n5 k6 n6 k7 n7 c vk vn (decide_eq_true (by omega)) (decide_eq_false (by omega)) (beq_eq_false_iff_ne.2 (by omega)) w
        · skip
          exact t4a4_3 k0 n0 k1 n1 k2 n2 k3 n3 k4 n4 k5 n5 k6 n6 k7 n7 c vk vn (decide_eq_false (by omega)) (beq_eq_false_iff_ne.2 (by omega)) w
      · skip
        exact t4a4_4 k0 n0 k1 n1 k2 n2 k3 n3 k4 n4 k5 n5 k6 n6 k7 n7 b c vk vn (decide_eq_true (by omega)) (decide_eq_false (by omega)) (beq_eq_false_iff_ne.2 (by omega)) w
    · skip
      exact t4a4_5 k0 n0 k1 n1 k2 n2 k3 n3 k4 n4 k5 n5 k6 n6 k7 n7 b c vk vn (decide_eq_false (by omega)) (beq_eq_false_iff_ne.2 (by omega)) w
theorem t4a5 (k0 : Int) (n0 : Int) (k1 : Int) (n1 : Int) (k2 : Int) (n2 : Int) (k3 : Int) (n3 : Int) (k4 : Int) (n4 : Int) (k5 : Int) (n5 : Int) (k6 : Int) (n6 : Int) (k7 : Int) (n7 : Int) (op : Int) (b : Int) (c : Int) (vk : Int) (vn : Int)  (w : World) : Calls Try.prog 4 (tArgs k0 n0 k1 n1 k2 n2 k3 n3 k4 n4 k5 n5 k6 n6 k7 n7 op 5 b c 4 vk vn) w (Ret (.bool true) w) := by
  by_cases g0 : op ≠ 19
  · skip
    exact t4a5_0 k0 n0 k1 n1 k2 n2 k3 n3 k4 n4 k5 n5 k6 n6 k7 n7 op b c vk vn (bne_iff_ne.2 (by omega)) w
  · skip
    obtain rfl : op = 19 := by omega
    by_cases g1 : (0 : Int) ≤ b
    · skip
      by_cases g2 : b ≤ 0
      · skip
        obtain rfl : b = 0 := by omega
        by_cases g3 : (0 : Int) ≤ c
        · skip
          by_cases g4 : c ≤ 0
          · skip
            obtain rfl : c = 0 := by omega
            exact t4a5_1 k0 n0 k1 n1 k2 n2 k3 n3 k4 n4 k5 n5 k6 n6 k7 n7 vk vn  w
          · skip
            exact t4a5_2 k0 n0 k1 n1 k2 n2 k3 n3 k4 n4 k5 n5 k6 n6 k7 n7 c vk vn (decide_eq_true (by omega)) (decide_eq_false (by omega)) (beq_eq_false_iff_ne.2 (by omega)) w
        · skip
          exact t4a5_3 k0 n0 k1 n1 k2 n2 k3 n3 k4 n4 k5 n5 k6 n6 k7 n7 c vk vn (decide_eq_false (by omega)) (beq_eq_false_iff_ne.2 (by omega)) w
      · skip
        exact t4a5_4 k0 n0 k1 n1 k2 n2 k3 n3 k4 n4 k5 n5 k6 n6 k7 n7 b c vk vn (decide_eq_true (by omega)) (decide_eq_false (by omega)) (beq_eq_false_iff_ne.2 (by omega)) w
    · skip
      exact t4a5_5 k0 n0 k1 n1 k2 n2 k3 n3 k4 n4 k5 n5 k6 n6 k7 n7 b c vk vn (decide_eq_false (by omega)) (beq_eq_false_iff_ne.2 (by omega)) w
theorem t4a6 (k0 : Int) (n0 : Int) (k1 : Int) (n1 : Int) (k2 : Int) (n2 : Int) (k3 : Int) (n3 : Int) (k4 : Int) (n4 : Int) (k5 : Int) (n5 : Int) (k6 : Int) (n6 : Int) (k7 : Int) (n7 : Int) (op : Int) (b : Int) (c : Int) (vk : Int) (vn : Int)  (w : World) : Calls Try.prog 4 (tArgs k0 n0 k1 n1 k2 n2 k3 n3 k4 n4 k5 n5 k6 n6 k7 n7 op 6 b c 4 vk vn) w (Ret (.bool true) w) := by
  by_cases g0 : op ≠ 19
  · skip
    exact t4a6_0 k0 n0 k1 n1 k2 n2 k3 n3 k4 n4 k5 n5 k6 n6 k7 n7 op b c vk vn (bne_iff_ne.2 (by omega)) w
  · skip
    obtain rfl : op = 19 := by omega
    by_cases g1 : (0 : Int) ≤ b
    · skip
      by_cases g2 : b ≤ 0
      · skip
        obtain rfl : b = 0 := by omega
        by_cases g3 : (0 : Int) ≤ c
        · skip
          by_cases g4 : c ≤ 0
          · skip
            obtain rfl : c = 0 := by omega
            exact t4a6_1 k0 n0 k1 n1 k2 n2 k3 n3 k4 n4 k5 n5 k6 n6 k7 n7 vk vn  w
          · skip
            exact t4a6_2 k0 n0 k1 n1 k2 n2 k3 n3 k4 n4 k5 n5 k6 n6 k7 n7 c vk vn (decide_eq_true (by omega)) (decide_eq_false (by omega)) (beq_eq_false_iff_ne.2 (by omega)) w
        · skip
          exact t4a6_3 k0 n0 k1 n1 k2 n2 k3 n3 k4 n4 k5 n5 k6 n6 k7 n7 c vk vn (decide_eq_false (by omega)) (beq_eq_false_iff_ne.2 (by omega)) w
      · skip
        exact t4a6_4 k0 n0 k1 n1 k2 n2 k3 n3 k4 n4 k5 n5 k6 n6 k7 n7 b c vk vn (decide_eq_true (by omega)) (decide_eq_false (by omega)) (beq_eq_false_iff_ne.2 (by omega)) w
    · skip
      exact t4a6_5 k0 n0 k1 n1 k2 n2 k3 n3 k4 n4 k5 n5 k6 n6 k7 n7 b c vk vn (decide_eq_false (by omega)) (beq_eq_false_iff_ne.2 (by omega)) w
theorem t4a7 (k0 : Int) (n0 : Int) (k1 : Int) (n1 : Int) (k2 : Int) (n2 : Int) (k3 : Int) (n3 : Int) (k4 : Int) (n4 : Int) (k5 : Int) (n5 : Int) (k6 : Int) (n6 : Int) (k7 : Int) (n7 : Int) (op : Int) (b : Int) (c : Int) (vk : Int) (vn : Int)  (w : World) : Calls Try.prog 4 (tArgs k0 n0 k1 n1 k2 n2 k3 n3 k4 n4 k5 n5 k6 n6 k7 n7 op 7 b c 4 vk vn) w (Ret (.bool true) w) := by
  by_cases g0 : op ≠ 19
  · skip
    exact t4a7_0 k0 n0 k1 n1 k2 n2 k3 n3 k4 n4 k5 n5 k6 n6 k7 n7 op b c vk vn (bne_iff_ne.2 (by omega)) w
  · skip
    obtain rfl : op = 19 := by omega
    by_cases g1 : (0 : Int) ≤ b
    · skip
      by_cases g2 : b ≤ 0
      · skip
        obtain rfl : b = 0 := by omega
        by_cases g3 : (0 : Int) ≤ c
        · skip
          by_cases g4 : c ≤ 0
          · skip
            obtain rfl : c = 0 := by omega
            exact t4a7_1 k0 n0 k1 n1 k2 n2 k3 n3 k4 n4 k5 n5 k6 n6 k7 n7 vk vn  w
          · skip
            exact t4a7_2 k0 n0 k1 n1 k2 n2 k3 n3 k4 n4 k5 n5 k6 n6 k7 n7 c vk vn (decide_eq_true (by omega)) (decide_eq_false (by omega)) (beq_eq_false_iff_ne.2 (by omega)) w
        · skip
          exact t4a7_3 k0 n0 k1 n1 k2 n2 k3 n3 k4 n4 k5 n5 k6 n6 k7 n7 c vk vn (decide_eq_false (by omega)) (beq_eq_false_iff_ne.2 (by omega)) w
      · skip
        exact t4a7_4 k0 n0 k1 n1 k2 n2 k3 n3 k4 n4 k5 n5 k6 n6 k7 n7 b c vk vn (decide_eq_true (by omega)) (decide_eq_false (by omega)) (beq_eq_false_iff_ne.2 (by omega)) w
    · skip
      exact t4a7_5 k0 n0 k1 n1 k2 n2 k3 n3 k4 n4 k5 n5 k6 n6 k7 n7 b c vk vn (decide_eq_false (by omega)) (beq_eq_false_iff_ne.2 (by omega)) w
theorem t4aL (k0 : Int) (n0 : Int) (k1 : Int) (n1 : Int) (k2 : Int) (n2 : Int) (k3 : Int) (n3 : Int) (k4 : Int) (n4 : Int) (k5 : Int) (n5 : Int) (k6 : Int) (n6 : Int) (k7 : Int) (n7 : Int) (op : Int) (a : Int) (b : Int) (c : Int) (vk : Int) (vn : Int) (ha : a < 0) (w : World) : Calls Try.prog 4 (tArgs k0 n0 k1 n1 k2 n2 k3 n3 k4 n4 k5 n5 k6 n6 k7 n7 op a b c 4 vk vn) w (Ret (.bool true) w) := by
  by_cases g0 : op ≠ 19
  · skip
    exact t4aL_0 k0 n0 k1 n1 k2 n2 k3 n3 k4 n4 k5 n5 k6 n6 k7 n7 op a b c vk vn (bne_iff_ne.2 (by omega)) w
  · skip
    obtain rfl : op = 19 := by omega
    exact t4aL_1 k0 n0 k1 n1 k2 n2 k3 n3 k4 n4 k5 n5 k6 n6 k7 n7 a b c vk vn (decide_eq_false (by omega)) (decide_eq_false (by omega)) w
theorem t4aH (k0 : Int) (n0 : Int) (k1 : Int) (n1 : Int) (k2 : Int) (n2 : Int) (k3 : Int) (n3 : Int) (k4 : Int) (n4 : Int) (k5 : Int) (n5 : Int) (k6 : Int) (n6 : Int) (k7 : Int) (n7 : Int) (op : Int) (a : Int) (b : Int) (c : Int) (vk : Int) (vn : Int) (ha : 7 < a) (w : World) : Calls Try.prog 4 (tArgs k0 n0 k1 n1 k2 n2 k3 n3 k4 n4 k5 n5 k6 n6 k7 n7 op a b c 4 vk vn) w (Ret (.bool true) w) := by
  by_cases g0 : op ≠ 19
  · skip
    exact t4aH_0 k0 n0 k1 n1 k2 n2 k3 n3 k4 n4 k5 n5 k6 n6 k7 n7 op a b c vk vn (bne_iff_ne.2 (by omega)) w
  · skip
    obtain rfl : op = 19 := by omega
    exact t4aH_1 k0 n0 k1 n1 k2 n2 k3 n3 k4 n4 k5 n5 k6 n6 k7 n7 a b c vk vn (decide_eq_true (by omega)) (decide_eq_false (by omega)) (decide_eq_true (by omega)) (decide_eq_false (by omega)) w
theorem t5a0 (k0 : Int) (n0 : Int) (k1 : Int) (n1 : Int) (k2 : Int) (n2 : Int) (k3 : Int) (n3 : Int) (k4 : Int) (n4 : Int) (k5 : Int) (n5 : Int) (k6 : Int) (n6 : Int) (k7 : Int) (n7 : Int) (op : Int) (b : Int) (c : Int) (vk : Int) (vn : Int)  (w : World) : Calls Try.prog 4 (tArgs k0 n0 k1 n1 k2 n2 k3 n3 k4 n4 k5 n5 k6 n6 k7 n7 op 0 b c 5 vk vn) w (Ret (.bool true) w) := by
  by_cases g0 : op ≠ 19
  · skip
    exact t5a0_0 k0 n0 k1 n1 k2 n2 k3 n3 k4 n4 k5 n5 k6 n6 k7 n7 op b c vk vn (bne_iff_ne.2 (by omega)) w
  · skip
    obtain rfl : op = 19 := by omega
    by_cases g1 : (0 : Int) ≤ b
    · skip
      by_cases g2 : b ≤ 0
      · skip
        obtain rfl : b = 0 := by omega
        by_cases g3 : (0 : Int) ≤ c
        · skip
          by_cases g4 : c ≤ 0
          · skip
            obtain rfl : c = 0 := by omega
            exact t5a0_1 k0 n0 k1 n1 k2 n2 k3 n3 k4 n4 k5 n5 k6 n6 k7 n7 vk vn  w
          · skip
            exact t5a0_2 k0 n0 k1 n1 k2 n2 k3 n3 k4 n4 k5 n5 k6 n6 k7 n7 c vk vn (decide_eq_true (by omega)) (decide_eq_false (by omega)) (beq_eq_false_iff_ne.2 (by omega)) w
        · skip
          exact t5a0_3 k0 n0 k1 n1 k2 n2 k3 n3 k4 n4 k5 n5 k6 n6 k7 n7 c vk vn (decide_eq_false (by omega)) (beq_eq_false_iff_ne.2 (by omega)) w
      · skip
        exact t5a0_4 k0 n0 k1 n1 k2 n2 k3 n3 k4 n4 k5 n5 k6 n6 k7 n7 b c vk vn (decide_eq_true (by omega)) (decide_eq_false (by omega)) (beq_eq_false_iff_ne.2 (by omega)) w
    · skip
      exact t5a0_5 k0 n0 k1 n1 k2 n2 k3 n3 k4 n4 k5 n5 k6 n6 k7 n7 b c vk vn (decide_eq_false (by omega)) (beq_eq_false_iff_ne.2 (by omega)) w
theorem t5a1 (k0 : Int) (n0 : Int) (k1 : Int) (n1 : Int) (k2 : Int) (n2 : Int) (k3 : Int) (n3 : Int) (k4 : Int) (n4 : Int) (k5 : Int) (n5 : Int) (k6 : Int) (n6 : Int) (k7 : Int) (n7 : Int) (op : Int) (b : Int) (c : Int) (vk : Int) (vn : Int)  (w : World) : Calls Try.prog 4 (tArgs k0 n0 k1 n1 k2 n2 k3 n3 k4 n4 k5 n5 k6 n6 k7 n7 op 1 b c 5 vk vn) w (Ret (.bool true) w) := by
  by_cases g0 : op ≠ 19
  · skip
    exact t5a1_0 k0 n0 k1 n1 k2 n2 k3 n3 k4 n4 k5 n5 k6 n6 k7 n7 op b c vk vn (bne_iff_ne.2 (by omega)) w
  · skip
    obtain rfl : op = 19 := by omega
    by_cases g1 : (0 : Int) ≤ b
    · skip
      by_cases g2 : b ≤ 0
      · skip
        obtain rfl : b = 0 := by omega
        by_cases g3 : (0 : Int) ≤ c
        · skip
          by_cases g4 : c ≤ 0
          · skip
            obtain rfl : c = 0 := by omega
            exact t5a1_1 k0 n0 k1 n1 k2 n2 k3 n3 k4 n4 k5 n5 k6 n6 k7 n7 vk vn  w
          · skip
            exact t5a1_2 k0 n0 k1 n1 k2 n2 k3 n3 k4 n4 k5 n5 k6 n6 k7 n7 c vk vn (decide_eq_true (by omega)) (decide_eq_false (by omega)) (beq_eq_false_iff_ne.2 (by omega)) w
        · skip
          exact t5a1_3 k0 n0 k1 n1 k2 n2 k3 n3 k4 n4 k5 n5 k6 n6 k7 n7 c vk vn (decide_eq_false (by omega)) (beq_eq_false_iff_ne.2 (by omega)) w
      · skip
        exact t5a1_4 k0 n0 k1 n1 k2 n2 k3 n3 k4 n4 k5 n5 k6 n6 k7 n7 b c vk vn (decide_eq_true (by omega)) (decide_eq_false (by omega)) (beq_eq_false_iff_ne.2 (by omega)) w
    · skip
      exact t5a1_5 k0 n0 k1 n1 k2 n2 k3 n3 k4 n4 k5 n5 k6 n6 k7 n7 b c vk vn (decide_eq_false (by omega)) (beq_eq_false_iff_ne.2 (by omega)) w
theorem t5a2 (k0 : Int) (n0 : Int) (k1 : Int) (n1 : Int) (k2 : Int) (n2 : Int) (k3 : Int) (n3 : Int) (k4 : Int) (n4 : Int) (k5 : Int) (n5 : Int) (k6 : Int) (n6 : Int) (k7 : Int) (n7 : Int) (op : Int) (b : Int) (c : Int) (vk : Int) (vn : Int)  (w : World) : Calls Try.prog 4 (tArgs k0 n0 k1 n1 k2 n2 k3 n3 k4 n4 k5 n5 k6 n6 k7 n7 op 2 b c 5 vk vn) w (Ret (.bool true) w) := by
  by_cases g0 : op ≠ 19
  · skip
    exact t5a2_0 k0 n0 k1 n1 k2 n2 k3 n3 k4 n4 k5 n5 k6 n6 k7 n7 op b c vk vn (bne_iff_ne.2 (by omega)) w
  · skip
    obtain rfl : op = 19 := by omega
    by_cases g1 : (0 : Int) ≤ b
    · skip
      by_cases g2 : b ≤ 0
      · skip
        obtain rfl : b = 0 := by omega
        by_cases g3 : (0 : Int) ≤ c
        · skip
          by_cases g4 : c ≤ 0
          · skip
            obtain rfl : c = 0 := by omega
            exact t5a2_1 k0 n0 k1 n1 k2 n2 k3 n3 k4 n4 k5 n5 k6 n6 k7 n7 vk vn  w
          · skip
            exact t5a2_2 k0 n0 k1 n1 k2 n2 k3 n3 k4 n4 k5 n5 k6 n6 k7 n7 c vk vn (decide_eq_true (by omega)) (decide_eq_false (by omega)) (beq_eq_false_iff_ne.2 (by omega)) w
        · skip
          exact t5a2_3 k0 n0 k1 n1 k2 n2 k3 n3 k4 n4 k5 n5 k6 n6 k7 n7 c vk vn (decide_eq_false (by omega)) (beq_eq_false_iff_ne.2 (by omega)) w
      · skip
        exact t5a2_4 k0 n0 k1 n1 k2 n2 k3 n3 k4 n4 k5 n5 k6 n6 k7 n7 b c vk vn (decide_eq_true (by omega)) (decide_eq_false (by omega)) (beq_eq_false_iff_ne.2 (by omega)) w
    · skip
      exact t5a2_5 k0 n0 k1 n1 k2 n2 k3 n3 k4 n4 k5 n5 k6 n6 k7 n7 b c vk vn (decide_eq_false (by omega)) (beq_eq_false_iff_ne.2 (by omega)) w
theorem t5a3 (k0 : Int) (n0 : Int) (k1 : Int) (n1 : Int) (k2 : Int) (n2 : Int) (k3 : Int) (n3 : Int) (k4 : Int) (n4 : Int) (k5 : Int) (n5 : Int) (k6 : Int) (n6 : Int) (k7 : Int) (n7 : Int) (op : Int) (b : Int) (c : Int) (vk : Int) (vn : Int)  (w : World) : Calls Try.prog 4 (tArgs k0 n0 k1 n1 k2 n2 k3 n3 k4 n4 k5 n5 k6 n6 k7 n7 op 3 b c 5 vk vn) w (Ret (.bool true) w) := by
  by_cases g0 : op ≠ 19
  · skip
    exact t5a3_0 k0 n0 k1 n1 k2 n2 k3 n3 k4 n4 k5 n5 k6 n6 k7 n7 op b c vk vn (bne_iff_ne.2 (by omega)) w
  · skip
    obtain rfl : op = 19 := by omega
    by_cases g1 : (0 : Int) ≤ b
    · skip
      by_cases g2 : b ≤ 0
      · skip
        obtain rfl : b = 0 := by omega
        by_cases g3 : (0 : Int) ≤ c
        · skip
          by_cases g4 : c ≤ 0
          · skip
            obtain rfl : c = 0 := by omega
            exact t5a3_1 k0 n0 k1 n1 k2 n2 k3 n3 k4 n4 k5 n5 k6 n6 k7 n7 vk vn  w
          · skip
            exact t5a3_2 k0 n0 k1 n1 k2 n2 k3 n3 k4 n4 k5 n5 k6 n6 k7 n7 c vk vn (decide_eq_true (by omega)) (decide_eq_false (by omega)) (beq_eq_false_iff_ne.2 (by omega)) w
        · skip
          exact t5a3_3 k0 n0 k1 n1 k2 n2 k3 n3 k4 n4 k5 n5 k6 n6 k7 n7 c vk vn (decide_eq_false (by omega)) (beq_eq_false_iff_ne.2 (by omega)) w
      · skip
        exact t5a3_4 k0 n0 k1 n1 k2 n2 k3 n3 k4 n4 k5 n5 k6 n6 k7 n7 b c vk vn (decide_eq_true (by omega)) (decide_eq_false (by omega)) (beq_eq_false_iff_ne.2 (by omega)) w
    · skip
      exact t5a3_5 k0 n0 k1 n1 k2 n2 k3 n3 k4 n4 k5 n5 k6 n6 k7 n7 b c vk vn (decide_eq_false (by omega)) (beq_eq_false_iff_ne.2 (by omega)) w
theorem t5a4 (k0 : Int) (n0 : Int) (k1 : Int) (n1 : Int) (k2 : Int) (n2 : Int) (k3 : Int) (n3 : Int) (k4 : Int) (n4 : Int) (k5 : Int) (n5 : Int) (k6 : Int) (n6 : Int) (k7 : Int) (n7 : Int) (op : Int) (b : Int) (c : Int) (vk : Int) (vn : Int)  (w : World) : Calls Try.prog 4 (tArgs k0 n0 k1 n1 k2 n2 k3 n3 k4 n4 k5 n5 k6 n6 k7 n7 op 4 b c 5 vk vn) w (Ret (.bool true) w) := by
  by_cases g0 : op ≠ 19
  · skip
    exact t5a4_0 k0 n0 k1 n1 k2 n2 k3 n3 k4 n4 k5 n5 k6 n6 k7 n7 op b c vk vn (bne_iff_ne.2 (by omega)) w
  · skip
    obtain rfl : op = 19 := by omega
    by_cases g1 : (0 : Int) ≤ b
    · skip
      by_cases g2 : b ≤ 0
      · skip
        obtain rfl : b = 0 := by omega
        by_cases g3 : (0 : Int) ≤ c
        · skip
          by_cases g4 : c ≤ 0
          · skip
            obtain rfl : c = 0 := by omega
            exact t5a4_1 k0 n0 k1 n1 k2 n2 k3 n3 k4 n4 k5 n5 k6 n6 k7 n7 vk vn  w
          · skip
            exact t5a4_2 k0 n0 k1 n1 k2 n2 k3 n3 k4 n4 k5 n5 k6 n6 k7 n7 c vk vn (decide_eq_true (by omega)) (decide_eq_false (by omega)) (beq_eq_false_iff_ne.2 (by omega)) w
        · skip
          exact t5a4_3 k0 n0 k1 n1 k2 n2 k3 n3 k4 n4 k5 n5 k6 n6 k7 n7 c vk vn (decide_eq_false (by omega)) (beq_eq_false_iff_ne.2 (by omega)) w
      · skip
        exact t5a4_4 k0 n0 k1 n1 k2 n2 k3 n3 k4 n4 k5 n5 k6 n6 k7 n7 b c vk vn (decide_eq_true (by omega)) (decide_eq_false (by omega)) (beq_eq_false_iff_ne.2 (by omega)) w
    · skip
      exact t5a4_5 k0 n0 k1 n1 k2 n2 k3 n3 k4 n4 k5 n5 k6 n6 k7 n7 b c vk vn (decide_eq_false (by omega)) (beq_eq_false_iff_ne.2 (by omega)) w
theorem t5a5 (k0 : Int) (n0 : Int) (k1 : Int) (n1 : Int) (k2 : Int) (n2 : Int) (k3 : Int) (n3 : Int) (k4 : Int) (n4 : Int) (k5 : Int) (n5 : Int) (k6 : Int) (n6 : Int) (k7 : Int) (n7 : Int) (op : Int) (b : Int) (c : Int) (vk : Int) (vn : Int)  (w : World) : Calls Try.prog 4 (tArgs k0 n0 k1 n1 k2 n2 k3 n3 k4 n4 k5 n5 k6 n6 k7 n7 op 5 b c 5 vk vn) w (Ret (.bool true) w) := by
  by_cases g0 : op ≠ 19
  · skip
    exact t5a5_0 k0 n0 k1 n1 k2 n2 k3 n3 k4 n4 k5 n5 k6 n6 k7 n7 op b c vk vn (bne_iff_ne.2 (by omega)) w
  · skip
    obtain rfl : op = 19 := by omega
    by_cases g1 : (0 : Int) ≤ b
    · skip
      by_cases g2 : b ≤ 0
      · skip
        obtain rfl : b = 0 := by omega
        by_cases g3 : (0 : Int) ≤ c
        · skip
          by_cases g4 : c ≤ 0
          · skip
            obtain rfl : c = 0 := by omega
            exact t5a5_1 k0 n0 k1 n1 k2 n2 k3 n3 k4 n4 k5 n5 k6 n6 k7 n7 vk vn  w
          · skip
            exact t5a5_2 k0 n0 k1 n1 k2 n2 k3 n3 k4 n4 k5 n5 k6 n6 k7 n7 c vk vn (decide_eq_true (by omega)) (decide_eq_false (by omega)) (beq_eq_false_iff_ne.2 (by omega)) w
        · skip
          exact t5a5_3 k0 n0 k1 n1 k2 n2 k3 n3 k4 n4 k5 n5 k6 n6 k7 n7 c vk vn (decide_eq_false (by omega)) (beq_eq_false_iff_ne.2 (by omega)) w
      · skip
        exact t5a5_4 k0 n0 k1 n1 k2 n2 k3 n3 k4 n4 k5 n5 k6 n6 k7 n7 b c vk vn (decide_eq_true (by omega)) (decide_eq_false (by omega)) (beq_eq_false_iff_ne.2 (by omega)) w
    · skip
      exact t5a5_5 k0 n0 k1 n1 k2 n2 k3 n3 k4 n4 k5 n5 k6 n6 k7 n7 b c vk vn (decide_eq_false (by omega)) (beq_eq_false_iff_ne.2 (by omega)) w
theorem t5a6 (k0 : Int) (n0 : Int) (k1 : Int) (n1 : Int) (k2 : Int) (n2 : Int) (k3 : Int) (n3 : Int) (k4 : Int) (n4 : Int) (k5 : Int) (n5 : Int) (k6 : Int) (n6 : Int) (k7 : Int) (n7 : Int) (op : Int) (b : Int) (c : Int) (vk : Int) (vn : Int)  (w : World) : Calls Try.prog 4 (tArgs k0 n0 k1 n1 k2 n2 k3 n3 k4 n4 k5 n5 k6 n6 k7 n7 op 6 b c 5 vk vn) w (Ret (.bool true) w) := by
  by_cases g0 : op ≠ 19
  · skip
    exact t5a6_0 k0 n0 k1 n1 k2 n2 k3 n3 k4 n4 k5 n5 k6 n6 k7 n7 op b c vk vn (bne_iff_ne.2 (by omega)) w
  · skip
    obtain rfl : op = 19 := by omega
    by_cases g1 : (0 : Int) ≤ b
    · skip
      by_cases g2 : b ≤ 0
      · skip
        obtain rfl : b = 0 := by omega
        by_cases g3 : (0 : Int) ≤ c
        · skip
          by_cases g4 : c ≤ 0
          · skip
            obtain rfl : c = 0 := by omega
            exact t5a6_1 k0 n0 k1 n1 k2 n2 k3 n3 k4 n4 k5 n5 k6 n6 k7 n7 vk vn  w
          · skip
            exact t5a6_2 k0 n0 k1 n1 k2 n2 k3 n3 k4 n4 k5 n5 k6 n6 k7 n7 c vk vn (decide_eq_true (by omega)) (decide_eq_false (by omega)) (beq_eq_false_iff_ne.2 (by omega)) w
        · skip
          exact t5a6_3 k0 n0 k1 n1 k2 n2 k3 n3 k4 n4 k5 n5 k6 n6 k7 n7 c vk vn (decide_eq_false (by omega)) (beq_eq_false_iff_ne.2 (by omega)) w
      · skip
        exact t5a6_4 k0 n0 k1 n1 k2 n2 k3 n3 k4 n4 k5 n5 k6 n6 k7 n7 b c vk vn (decide_eq_true (by omega)) (decide_eq_false (by omega)) (beq_eq_false_iff_ne.2 (by omega)) w
    · skip
      exact t5a6_5 k0 n0 k1 n1 k2 n2 k3 n3 k4 n4 k5 n5 k6 n6 k7 n7 b c vk vn (decide_eq_false (by omega)) (beq_eq_false_iff_ne.2 (by omega)) w
theorem t5a7 (k0 : Int) (n0 : Int) (k1 : Int) (n1 : Int) (k2 : Int) (n2 : Int) (k3 : Int) (n3 : Int) (k4 : Int) (n4 : Int) (k5 : Int) (n5 : Int) (k6 : Int) (n6 : Int) (k7 : Int) (n7 : Int) (op : Int) (b : Int) (c : Int) (vk : Int) (vn : Int)  (w : World) : Calls Try.prog 4 (tArgs k0 n0 k1 n1 k2 n2 k3 n3 k4 n4 k5 n5 k6 n6 k7 n7 op 7 b c 5 vk vn) w (Ret (.bool true) w) := by
  by_cases g0 : op ≠ 19
  · skip
    exact t5a7_0 k0 n0 k1 n1 k2 n2 k3 n3 k4 n4 k5 n5 k6 n6 k7 n7 op b c vk vn (bne_iff_ne.2 (by omega)) w
  · skip
    obtain rfl : op = 19 := by omega
    by_cases g1 : (0 : Int) ≤ b
    · skip
      by_cases g2 : b ≤ 0
      · skip
        obtain rfl : b = 0 := by omega
        by_cases g3 : (0 : Int) ≤ c
        · skip
          by_cases g4 : c ≤ 0
          · skip
            obtain rfl : c = 0 := by omega
            exact t5a7_1 k0 n0 k1 n1 k2 n2 k3 n3 k4 n4 k5 n5 k6 n6 k7 n7 vk vn  w
          · skip
            exact t5a7_2 k0 n0 k1 n1 k2 n2 k3 n3 k4 n4 k5 n5 k6 n6 k7 n7 c vk vn (decide_eq_true (by omega)) (decide_eq_false (by omega)) (beq_eq_false_iff_ne.2 (by omega)) w
        · skip
          exact t5a7_3 k0 n0 k1 n1 k2 n2 k3 n3 k4 n4 k5 n5 k6 n6 k7 n7 c vk vn (decide_eq_false (by omega)) (beq_eq_false_iff_ne.2 (by omega)) w
      · skip
        exact t5a7_4 k0 n0 k1 n1 k2 n2 k3 n3 k4 n4 k5 n5 k6 n6 k7 n7 b c vk vn (decide_eq_true (by omega)) (decide_eq_false (by omega)) (beq_eq_false_iff_ne.2 (by omega)) w
    · skip
      exact t5a7_5 k0 n0 k1 n1 k2 n2 k3 n3 k4 n4 k5 n5 k6 n6 k7 n7 b c vk vn (decide_eq_false (by omega)) (beq_eq_false_iff_ne.2 (by omega)) w
theorem t5aL (k0 : Int) (n0 : Int) (k1 : Int) (n1 : Int) (k2 : Int) (n2 : Int) (k3 : Int) (n3 : Int) (k4 : Int) (n4 : Int) (k5 : Int) (n5 : Int) (k6 : Int) (n6 : Int) (k7 : Int) (n7 : Int) (op : Int) (a : Int) (b : Int) (c : Int) (vk : Int) (vn : Int) (ha : a < 0) (w : World) : Calls Try.prog 4 (tArgs k0 n0 k1 n1 k2 n2 k3 n3 k4 n4 k5 n5 k6 n6 k7 n7 op a b c 5 vk vn) w (Ret (.bool true) w) := by
  by_cases g0 : op ≠ 19
  · skip
    exact t5aL_0 k0 n0 k1 n1 k2 n2 k3 n3 k4 n4 k5 n5 k6 n6 k7 n7 op a b c vk vn (bne_iff_ne.2 (by omega)) w
  · skip
    obtain rfl : op = 19 := by omega
    exact t5aL_1 k0 n0 k1 n1 k2 n2 k3 n3 k4 n4 k5 n5 k6 n6 k7 n7 a b c vk vn (decide_eq_false (by omega)) (decide_eq_false (by omega)) w
theorem t5aH (k0 : Int) (n0 : Int) (k1 : Int) (n1 : Int) (k2 : Int) (n2 : Int) (k3 : Int) (n3 : Int) (k4 : Int) (n4 : Int) (k5 : Int) (n5 : Int) (k6 : Int) (n6 : Int) (k7 : Int) (n7 : Int) (op : Int) (a : Int) (b : Int) (c : Int) (vk : Int) (vn : Int) (ha : 7 < a) (w : World) : Calls Try.prog 4 (tArgs k0 n0 k1 n1 k2 n2 k3 n3 k4 n4 k5 n5 k6 n6 k7 n7 op a b c 5 vk vn) w (Ret (.bool true) w) := by
  by_cases g0 : op ≠ 19
  · skip
    exact t5aH_0 k0 n0 k1 n1 k2 n2 k3 n3 k4 n4 k5 n5 k6 n6 k7 n7 op a b c vk vn (bne_iff_ne.2 (by omega)) w
  · skip
    obtain rfl : op = 19 := by omega
    exact t5aH_1 k0 n0 k1 n1 k2 n2 k3 n3 k4 n4 k5 n5 k6 n6 k7 n7 a b c vk vn (decide_eq_true (by omega)) (decide_eq_false (by omega)) (decide_eq_true (by omega)) (decide_eq_false (by omega)) w
theorem t6a0 (k0 : Int) (n0 : Int) (k1 : Int) (n1 : Int) (k2 : Int) (n2 : Int) (k3 : Int) (n3 : Int) (k4 : Int) (n4 : Int) (k5 : Int) (n5 : Int) (k6 : Int) (n6 : Int) (k7 : Int) (n7 : Int) (op : Int) (b : Int) (c : Int) (vk : Int) (vn : Int)  (w : World) : Calls Try.prog 4 (tArgs k0 n0 k1 n1 k2 n2 k3 n3 k4 n4 k5 n5 k6 n6 k7 n7 op 0 b c 6 vk vn) w (Ret (.bool true) w) := by
  by_cases g0 : op ≠ 19
  · skip
    exact t6a0_0 k0 n0 k1 n1 k2 n2 k3 n3 k4 n4 k5 n5 k6 n6 k7 n7 op b c vk vn (bne_iff_ne.2 (by omega)) w
  · skip
    obtain rfl : op = 19 := by omega
    by_cases g1 : (0 : Int) ≤ b
    · skip
      by_cases g2 : b ≤ 0
      · skip
        obtain rfl : b = 0 := by omega
        by_cases g3 : (0 : Int) ≤ c
        · skip
          by_cases g4 : c ≤ 0
          · skip
            obtain rfl : c = 0 := by omega
            exact t6a0_1 k0 n0 k1 n1 k2 n2 k3 n3 k4 n4 k5 n5 k6 n6 k7 n7 vk vn  w
          · skip
            exact t6a0_2 k0 n0 k1 n1 k2 n2 k3 n3 k4 n4 k5 n5 k6 n6 k7 n7 c vk vn (decide_eq_true (by omega)) (decide_eq_false (by omega)) (beq_eq_false_iff_ne.2 (by omega)) w
        · skip
          exact t6a0_3 k0 n0 k1 n1 k2 n2 k3 n3 k4 n4 k5 n5 k6 n6 k7 n7 c vk vn (decide_eq_false (by omega)) (beq_eq_false_iff_ne.2 (by omega)) w
      · skip
        exact t6a0_4 k0 n0 k1 n1 k2 n2 k3 n3 k4 n4 k5 n5 k6 n6 k7 n7 b c vk vn (decide_eq_true (by omega)) (decide_eq_false (by omega)) (beq_eq_false_iff_ne.2 (by omega)) w
    · skip
      exact t6a0_5 k0 n0 k1 n1 k2 n2 k3 n3 k4 n4 k5 n5 k6 n6 k7 n7 b c vk vn (decide_eq_false (by omega)) (beq_eq_false_iff_ne.2 (by omega)) w
theorem t6a1 (k0 : Int) (n0 : Int) (k1 : Int) (n1 : Int) (k2 : Int) (n2 : Int) (k3 : Int) (n3 : Int) (k4 : Int) (n4 : Int) (k5 : Int) (n5 : Int) (k6 : Int) (n6 : Int) (k7 : Int) (n7 : Int) (op : Int) (b : Int) (c : Int) (vk : Int) (vn : Int)  (w : World) : Calls Try.prog 4 (tArgs k0 n0 k1 n1 k2 n2 k3 n3 k4 n4 k5 n5 k6 n6 k7 n7 op 1 b c 6 vk vn) w (Ret (.bool true) w) := by
  by_cases g0 : op ≠ 19
  · skip
    exact t6a1_0 k0 n0 k1 n1 k2 n2 k3 n3 k4 n4 k5 n5 k6 n6 k7 n7 op b c vk vn (bne_iff_ne.2 (by omega)) w
  · skip
    obtain rfl : op = 19 := by omega
    by_cases g1 : (0 : Int) ≤ b
    · skip
      by_cases g2 : b ≤ 0
      · skip
        obtain rfl : b = 0 := by omega
        by_cases g3 : (0 : Int) ≤ c
        · skip
          by_cases g4 : c ≤ 0
          · skip
            obtain rfl : c = 0 := by omega
            exact t6a1_1 k0 n0 k1 n1 k2 n2 k3 n3 k4 n4 k5 n5 k6 n6 k7 n7 vk vn  w
          · skip
            exact t6a1_2 k0 n0 k1 n1 k2 n2 k3 n3 k4 n4 k5 n5 k6 n6 k7 n7 c vk vn (decide_eq_true (by omega)) (decide_eq_false (by omega)) (beq_eq_false_iff_ne.2 (by omega)) w
        · skip
          exact t6a1_3 k0 n0 k1 n1 k2 n2 k3 n3 k4 n4 k5 n5 k6 n6 k7 n7 c vk vn (decide_eq_false (by omega)) (beq_eq_false_iff_ne.2 (by omega)) w
      · skip
        exact t6a1_4 k0 n0 k1 n1 k2 n2 k3 n3 k4 n4 k5 n5 k6 n6 k7 n7 b c vk vn (decide_eq_true (by omega)) (decide_eq_false (by omega)) (beq_eq_false_iff_ne.2 (by omega)) w
    · skip
      exact t6a1_5 k0 n0 k1 n1 k2 n2 k3 n3 k4 n4 k5 n5 k6 n6 k7 n7 b c vk vn (decide_eq_false (by omega)) (beq_eq_false_iff_ne.2 (by omega)) w
theorem t6a2 (k0 : Int) (n0 : Int) (k1 : Int) (n1 : Int) (k2 : Int) (n2 : Int) (k3 : Int) (n3 : Int) (k4 : Int) (n4 : Int) (k5 : Int) (n5 : Int) (k6 : Int) (n6 : Int) (k7 : Int) (n7 : Int) (op : Int) (b : Int) (c : Int) (vk : Int) (vn : Int)  (w : World) : Calls Try.prog 4 (tArgs k0 n0 k1 n1 k2 n2 k3 n3 k4 n4 k5 n5 k6 n6 k7 n7 op 2 b c 6 vk vn) w (Ret (.bool true) w) := by
  by_cases g0 : op ≠ 19
  · skip
    exact t6a2_0 k0 n0 k1 n1 k2 n2 k3 n3 k4 n4 k5 n5 k6 n6 k7 n7 op b c vk vn (bne_iff_ne.2 (by omega)) w
  · skip
    obtain rfl : op = 19 := by omega
    by_cases g1 : (0 : Int) ≤ b
    · skip
      by_cases g2 : b ≤ 0
      · skip
        obtain rfl : b = 0 := by omega
        by_cases g3 : (0 : Int) ≤ c
        · skip
          by_cases g4 : c ≤ 0
          · skip
            obtain rfl : c = 0 := by omega
            exact t6a2_1 k0 n0 k1 n1 k2 n2 k3 n3 k4 n4 k5 n5 k6 n6 k7 n7 vk vn  w
          · skip
            exact t6a2_2 k0 n0 k1 n1 k2 n2 k3 n3 k4 n4 k5 n5 k6 n6 k7 n7 c vk vn (decide_eq_true (by omega)) (decide_eq_false (by omega)) (beq_eq_false_iff_ne.2 (by omega)) w
        · skip
          exact t6a2_3 k0 n0 k1 n1 k2 n2 k3 n3 k4 n4 k5 n5 k6 n6 k7 n7 c vk vn (decide_eq_false (by omega)) (beq_eq_false_iff_ne.2 (by omega)) w
      · skip
        exact t6a2_4 k0 n0 k1 n1 k2 n2 k3 n3 k4 n4 k5 n5 k6 n6 k7 n7 b c vk vn (decide_eq_true (by omega)) (decide_eq_false (by omega)) (beq_eq_false_iff_ne.2 (by omega)) w
    · skip
      exact t6a2_5 k0 n0 k1 n1 k2 n2 k3 n3 k4 n4 k5 n5 k6 n6 k7 n7 b c vk vn (decide_eq_false (by omega)) (beq_eq_false_iff_ne.2 (by omega)) w
theorem t6a3 (k0 : Int) (n0 : Int) (k1 : Int) (n1 : Int) (k2 : Int) (n2 : Int) (k3 : Int) (n3 : Int) (k4 : Int) (n4 : Int) (k5 : Int) (n5 : Int) (k6 : Int) (n6 : Int) (k7 : Int) (n7 : Int) (op : Int) (b : Int) (c : Int) (vk : Int) (vn : Int)  (w : World) : Calls Try.prog 4 (tArgs k0 n0 k1 n1 k2 n2 k3 n3 k4 n4 k5 n5 k6 n6 k7 n7 op 3 b c 6 vk vn) w (Ret (.bool true) w) := by
  by_cases g0 : op ≠ 19
  · skip
    exact t6a3_0 k0 n0 k1 n1 k2 n2 k3 n3 k4 n4 k5 n5 k6 n6 k7 n7 op b c vk vn (bne_iff_ne.2 (by omega)) w
  · skip
    obtain rfl : op = 19 := by omega
    by_cases g1 : (0 : Int) ≤ b
    · skip
      by_cases g2 : b ≤ 0
      · skip
        obtain rfl : b = 0 := by omega
        by_cases g3 : (0 : Int) ≤ c
        · skip
          by_cases g4 : c ≤ 0
          · skip
            obtain rfl : c = 0 := by omega
            exact t6a3_1 k0 n0 k1 n1 k2 n2 k3 n3 k4 n4 k5 n5 k6 n6 k7 n7 vk vn  w
          · skip
            exact t6a3_2 k0 n0 k1 n1 k2 n2 k3 n3 k4 n4 k5 n5 k6 n6 k7 n7 c vk vn (decide_eq_true (by omega)) (decide_eq_false (by omega)) (beq_eq_false_iff_ne.2 (by omega)) w
        · skip
          exact t6a3_3 k0 n0 k1 n1 k2 n2 k3 n3 k4 n4 k5 n5 k6 n6 k7 n7 c vk vn (decide_eq_false (by omega)) (beq_eq_false_iff_ne.2 (by omega)) w
      · skip
        exact t6a3_4 k0 n0 k1 n1 k2 n2 k3 n3 k4 n4 k5 n5 k6 n6 k7 n7 b c vk vn (decide_eq_true (by omega)) (decide_eq_false (by omega)) (beq_eq_false_iff_ne.2 (by omega)) w
    · skip
      exact t6a3_5 k0 n0 k1 n1 k2 n2 k3 n3 k4 n4 k5 n5 k6 n6 k7 n7 b c vk vn (decide_eq_false (by omega)) (beq_eq_false_iff_ne.2 (by omega)) w
theorem t6a4 (k0 : Int) (n0 : Int) (k1 : Int) (n1 : Int) (k2 : Int) (n2 : Int) (k3 : Int) (n3 : Int) (k4 : Int) (n4 : Int) (k5 : Int) (n5 : Int) (k6 : Int) (n6 : Int) (k7 : Int) (n7 : Int) (op : Int) (b : Int) (c : Int) (vk : Int) (vn : Int)  (w : World) : Calls Try.prog 4 (tArgs k0 n0 k1 n1 k2 n2 k3 n3 k4 n4 k5 n5 k6 n6 k7 n7 op 4 b c 6 vk vn) w (Ret (.bool true) w) := by
  by_cases g0 : op ≠ 19
  · skip
    exact t6a4_0 k0 n0 k1 n1 k2 n2 k3 n3 k4 n4 k5 n5 k6 n6 k7 n7 op b c vk vn (bne_iff_ne.2 (by omega)) w
  · skip
    obtain rfl : op = 19 := by omega
    by_cases g1 : (0 : Int) ≤ b
    · skip
      by_cases g2 : b ≤ 0
      · skip
        obtain rfl : b = 0 := by omega
        by_cases g3 : (0 : Int) ≤ c
        · skip
          by_cases g4 : c ≤ 0
          · skip
            obtain rfl : c = 0 := by omega
            exact t6a4_1 k0 n0 k1 n1 k2 n2 k3 n3 k4 n4 k5 n5 k6 n6 k7 n7 vk vn  w
          · skip
            exact t6a4_2 k0 n0 k1 n1 k2 n2 k3 n3 k4 n4 k5 n5 k6 n6 k7 n7 c vk vn (decide_eq_true (by omega)) (decide_eq_false (by omega)) (beq_eq_false_iff_ne.2 (by omega)) w
        · skip
          exact t6a4_3 k0 n0 k1 n1 k2 n2 k3 n3 k4 n4 k5 n5 k6 n6 k7 n7 c vk vn (decide_eq_false (by omega)) (beq_eq_false_iff_ne.2 (by omega)) w
      · skip
        exact t6a4_4 k0 n0 k1 n1 k2 n2 k3 n3 k4 n4 k5 n5 k6 n6 k7 n7 b c vk vn (decide_eq_true (by omega)) (decide_eq_false (by omega)) (beq_eq_false_iff_ne.2 (by omega)) w
    · skip
      exact t6a4_5 k0 n0 k1 n1 k2 n2 k3 n3 k4 n4 k5 n5 k6 n6 k7 n7 b c vk vn (decide_eq_false (by omega)) (beq_eq_false_iff_ne.2 (by omega)) w
theorem t6a5 (k0 : Int) (n0 : Int) (k1 : Int) (n1 : Int) (k2 : Int) (n2 : Int) (k3 : Int) (n3 : Int) (k4 : Int) (n4 : Int) (k5 : Int) (n5 : Int) (k6 : Int) (n6 : Int) (k7 : Int) (n7 : Int) (op : Int) (b : Int) (c : Int) (vk : Int) (vn : Int)  (w : World) : Calls Try.prog 4 (tArgs k0 n0 k1 n1 k2 n2 k3 n3 k4 n4 k5 n5 k6 n6 k7 n7 op 5 b c 6 vk vn) w (Ret (.bool true) w) := by
  by_cases g0 : op ≠ 19
  · skip
    exact t6a5_0 k0 n0 k1 n1 k2 n2 k3 n3 k4 n4 k5 n5 k6 n6 k7 n7 op b c vk vn (bne_iff_ne.2 (by omega)) w
  · skip
    obtain rfl : op = 19 := by omega
    by_cases g1 : (0 : Int) ≤ b
    · skip
      by_cases g2 : b ≤ 0
      · skip
        obtain rfl : b = 0 := by omega
        by_cases g3 : (0 : Int) ≤ c
        · skip
          by_cases g4 : c ≤ 0
          · skip
            obtain rfl : c = 0 := by omega
            exact t6a5_1 k0 n0 k1 n1 k2 n2 k3 n3 k4 n4 k5 n5 k6 n6 k7 n7 vk vn  w
          · skip
            exact t6a5_2 k0 n0 k1 n1 k2 n2 k3 n3 k4 n4 k5 n5 k6 n6 k7 n7 c vk vn (decide_eq_true (by omega)) (decide_eq_false (by omega)) (beq_eq_false_iff_ne.2 (by omega)) w
        · skip
          exact t6a5_3 k0 n0 k1 n1 k2 n2 k3 n3 k4 n4 k5 n5 k6 n6 k7 n7 c vk vn (decide_eq_false (by omega)) (beq_eq_false_iff_ne.2 (by omega)) w
      · skip
        exact t6a5_4 k0 n0 k1 n1 k2 n2 k3 n3 k4 n4 k5 n5 k6 n6 k7 n7 b c vk vn (decide_eq_true (by omega)) (decide_eq_false (by omega)) (beq_eq_false_iff_ne.2 (by omega)) w
    · skip
      exact t6a5_5 k0 n0 k1 n1 k2 n2 k3 n3 k4 n4 k5 n5 k6 n6 k7 n7 b c vk vn (decide_eq_false (by omega)) (beq_eq_false_iff_ne.2 (by omega)) w
theorem t6a6 (k0 : Int) (n0 : Int) (k1 : Int) (n1 : Int) (k2 : Int) (n2 : Int) (k3 : Int) (n3 : Int) (k4 : Int) (n4 : Int) (k5 : Int) (n5 : Int) (k6 : Int) (n6 : Int) (k7 : Int) (n7 : Int) (op : Int) (b : Int) (c : Int) (vk : Int) (vn : Int)  (w : World) : Calls Try.prog 4 (tArgs k0 n0 k1 n1 k2 n2 k3 n3 k4 n4 k5 n5 k6 n6 k7 n7 op 6 b c 6 vk vn) w (Ret (.bool true) w) := by
  by_cases g0 : op ≠ 19
  · skip
    exact t6a6_0 k0 n0 k1 n1 k2 n2 k3 n3 k4 n4 k5 n5 k6 n6 k7 n7 op b c vk vn (bne_iff_ne.2 (by omega)) w
  · skip
    obtain rfl : op = 19 := by omega
    by_cases g1 : (0 : Int) ≤ b
    · skip
      by_cases g2 : b ≤ 0
      · skip
        obtain rfl : b = 0 := by omega
        by_cases g3 : (0 : Int) ≤ c
        · skip
          by_cases g4 : c ≤ 0
          · skip
            obtain rfl : c = 0 := by omega
            exact t6a6_1 k0 n0 k1 n1 k2 n2 k3 n3 k4 n4 k5 n5 k6 n6 k7 n7 vk vn  w
          · skip
            exact t6a6_2 k0 n0 k1 n1 k2 n2 k3 n3 k4 n4 k5 n5 k6 n6 k7 n7 c vk vn (decide_eq_true (by omega)) (decide_eq_false (by omega)) (beq_eq_false_iff_ne.2 (by omega)) w
        · skip
          exact t6a6_3 k0 n0 k1 n1 k2 n2 k3 n3 k4 n4 k5 n5 k6 n6 k7 n7 c vk vn (decide_eq_false (by omega)) (beq_eq_false_iff_ne.2 (by omega)) w
      · skip
        exact t6a6_4 k0 n0 k1 n1 k2 n2 k3 n3 k4 n4 k5 n5 k6 n6 k7 n7 b c vk vn (decide_eq_true (by omega)) (decide_eq_false (by omega)) (beq_eq_false_iff_ne.2 (by omega)) w
    · skip
      exact t6a6_5 k0 n0 k1 n1 k2 n2 k3 n3 k4 n4 k5 n5 k6 n6 k7 n7 b c vk vn (decide_eq_false (by omega)) (beq_eq_false_iff_ne.2 (by omega)) w
theorem t6a7 (k0 : Int) (n0 : Int) (k1 : Int) (n1 : Int) (k2 : Int) (n2 : Int) (k3 : Int) (n3 : Int) (k4 : Int) (n4 : Int) (k5 : Int) (n5 : Int) (k6 : Int) (n6 : Int) (k7 : Int) (n7 : Int) (op : Int) (b : Int) (c : Int) (vk : Int) (vn : Int)  (w : World) : Calls Try.prog 4 (tArgs k0 n0 k1 n1 k2 n2 k3 n3 k4 n4 k5 n5 k6 n6 k7 n7 op 7 b c 6 vk vn) w (Ret (.bool true) w) := by
  by_cases g0 : op ≠ 19
  · skip
    exact t6a7_0 k0 n0 k1 n1 k2 n2 k3 n3 k4 n4 k5 n5 k6 n6 k7 n7 op b c vk vn (bne_iff_ne.2 (by omega)) w
  · skip
    obtain rfl : op = 19 := by omega
    by_cases g1 : (0 : Int) ≤ b
    · skip
      by_cases g2 : b ≤ 0
      · skip
        obtain rfl : b = 0 := by omega
        by_cases g3 : (0 : Int) ≤ c
        · skip
          by_cases g4 : c ≤ 0
          · skip
            obtain rfl : c = 0 := by omega
            exact t6a7_1 k0 n0 k1 n1 k2 n2 k3 n3 k4 n4 k5 n5 k6 n6 k7 n7 vk vn  w
          · skip
            exact t6a7_2 k0 n0 k1 n1 k2 n2 k3 n3 k4 n4 k5 n5 k6 n6 k7 n7 c vk vn (decide_eq_true (by omega)) (decide_eq_false (by omega)) (beq_eq_false_iff_ne.2 (by omega)) w
        · skip
          exact t6a7_3 k0 n0 k1 n1 k2 n2 k3 n3 k4 n4 k5 n5 k6 n6 k7 n7 c vk vn (decide_eq_false (by omega)) (beq_eq_false_iff_ne.2 (by omega)) w
      · skip
        exact t6a7_4 k0 n0 k1 n1 k2 n2 k3 n3 k4 n4 k5 n5 k6 n6 k7 n7 b c vk vn (decide_eq_true (by omega)) (decide_eq_false (by omega)) (beq_eq_false_iff_ne.2 (by omega)) w
    · skip
      exact t6a7_5 k0 n0 k1 n1 k2 n2 k3 n3 k4 n4 k5 n5 k6 n6 k7 n7 b c vk vn (decide_eq_false (by omega)) (beq_eq_false_iff_ne.2 (by omega)) w
theorem t6aL (k0 : Int) (n0 : Int) (k1 : Int) (n1 : Int) (k2 : Int) (n2 : Int) (k3 : Int) (n3 : Int) (k4 : Int) (n4 : Int) (k5 : Int) (n5 : Int) (k6 : Int) (n6 : Int) (k7 : Int) (n7 : Int) (op : Int) (a : Int) (b : Int) (c : Int) (vk : Int) (vn : Int) (ha : a < 0) (w : World) : Calls Try.prog 4 (tArgs k0 n0 k1 n1 k2 n2 k3 n3 k4 n4 k5 n5 k6 n6 k7 n7 op a b c 6 vk vn) w (Ret (.bool true) w) := by
  by_cases g0 : op ≠ 19
  · skip
    exact t6aL_0 k0 n0 k1 n1 k2 n2 k3 n3 k4 n4 k5 n5 k6 n6 k7 n7 op a b c vk vn (bne_iff_ne.2 (by omega)) w
  · skip
    obtain rfl : op = 19 := by omega
    exact t6aL_1 k0 n0 k1 n1 k2 n2 k3 n3 k4 n4 k5 n5 k6 n6 k7 n7 a b c vk vn (decide_eq_false (by omega)) (decide_eq_false (by omega)) w
theorem t6aH (k0 : Int) (n0 : Int) (k1 : Int) (n1 : Int) (k2 : Int) (n2 : Int) (k3 : Int) (n3 : Int) (k4 : Int) (n4 : Int) (k5 : Int) (n5 : Int) (k6 : Int) (n6 : Int) (k7 : Int) (n7 : Int) (op : Int) (a : Int) (b : Int) (c : Int) (vk : Int) (vn : Int) (ha : 7 < a) (w : World) : Calls Try.prog 4 (tArgs k0 n0 k1 n1 k2 n2 k3 n3 k4 n4 k5 n5 k6 n6 k7 n7 op a b c 6 vk vn) w (Ret (.bool true) w) := by
  by_cases g0 : op ≠ 19
  · skip
    exact t6aH_0 k0 n0 k1 n1 k2 n2 k3 n3 k4 n4 k5 n5 k6 n6 k7 n7 op a b c vk vn (bne_iff_ne.2 (by omega)) w
  · skip
    obtain rfl : op = 19 := by omega
    exact t6aH_1 k0 n0 k1 n1 k2 n2 k3 n3 k4 n4 k5 n5 k6 n6 k7 n7 a b c vk vn (decide_eq_true (by omega)) (decide_eq_false (by omega)) (decide_eq_true (by omega)) (decide_eq_false (by omega)) w
theorem t7a0 (k0 : Int) (n0 : Int) (k1 : Int) (n1 : Int) (k2 : Int) (n2 : Int) (k3 : Int) (n3 : Int) (k4 : Int) (n4 : Int) (k5 : Int) (n5 : Int) (k6 : Int) (n6 : Int) (k7 : Int) (n7 : Int) (op : Int) (b : Int) (c : Int) (vk : Int) (vn : Int)  (w : World) : Calls Try.prog 4 (tArgs k0 n0 k1 n1 k2 n2 k3 n3 k4 n4 k5 n5 k6 n6 k7 n7 op 0 b c 7 vk vn) w (Ret (.bool true) w) := by
  by_cases g0 : op ≠ 19
  · skip
    exact t7a0_0 k0 n0 k1 n1 k2 n2 k3 n3 k4 n4 k5 n5 k6 n6 k7 n7 op b c vk vn (bne_iff_ne.2 (by omega)) w
  · skip
    obtain rfl : op = 19 := by omega
    by_cases g1 : (0 : Int) ≤ b
    · skip
      by_cases g2 : b ≤ 0
      · skip
        obtain rfl : b = 0 := by omega
        by_cases g3 : (0 : Int) ≤ c
        · skip
          by_cases g4 : c ≤ 0
          · skip
            obtain rfl : c = 0 := by omega
            exact t7a0_1 k0 n0 k1 n1 k2 n2 k3 n3 k4 n4 k5 n5 k6 n6 k7 n7 vk vn  w
          · skip
            exact t7a0_2 k0 n0 k1 n1 k2 n2 k3 n3 k4 n4 k5 n5 k6 n6 k7 n7 c vk vn (decide_eq_true (by omega)) (decide_eq_false (by omega)) (beq_eq_false_iff_ne.2 (by omega)) w
        · skip
          exact t7a0_3 k0 n0 k1 n1 k2 n2 k3 n3 k4 n4 k5 n5 k6 n6 k7 n7 c vk vn (decide_eq_false (by omega)) (beq_eq_false_iff_ne.2 (by omega)) w
      · skip
        exact t7a0_4 k0 n0 k1 n1 k2 n2 k3 n3 k4 n4 k5 n5 k6 n6 k7 n7 b c vk vn (decide_eq_true (by omega)) (decide_eq_false (by omega)) (beq_eq_false_iff_ne.2 (by omega)) w
    · skip
      exact t7a0_5 k0 n0 k1 n1 k2 n2 k3 n3 k4 n4 k5 n5 k6 n6 k7 n7 b c vk vn (decide_eq_false (by omega)) (beq_eq_false_iff_ne.2 (by omega)) w
theorem t7a1 (k0 : Int) (n0 : Int) (k1 : Int) (n1 : Int) (k2 : Int) (n2 : Int) (k3 : Int) (n3 : Int) (k4 : Int) (n4 : Int) (k5 : Int) (n5 : Int) (k6 : Int) (n6 : Int) (k7 : Int) (n7 : Int) (op : Int) (b : Int) (c : Int) (vk : Int) (vn : Int)  (w : World) : Calls Try.prog 4 (tArgs k0 n0 k1 n1 k2 n2 k3 n3 k4 n4 k5 n5 k6 n6 k7 n7 op 1 b c 7 vk vn) w (Ret (.bool true) w) := by
  by_cases g0 : op ≠ 19
  · skip
    exact t7a1_0 k0 n0 k1 n1 k2 n2 k3 n3 k4 n4 k5 n5 k6 n6 k7 n7 op b c vk vn (bne_iff_ne.2 (by omega)) w
  · skip
    obtain rfl : op = 19 := by omega
    by_cases g1 : (0 : Int) ≤ b
    · skip
      by_cases g2 : b ≤ 0
      · skip
        obtain rfl : b = 0 := by omega
        by_cases g3 : (0 : Int) ≤ c
        · skip
          by_cases g4 : c ≤ 0
          · skip
            obtain rfl : c = 0 := by omega
            exact t7a1_1 k0 n0 k1 n1 k2 n2 k3 n3 k4 n4 k5 n5 k6 n6 k7 n7 vk vn  w
          · skip
            exact t7a1_2 k0 n0 k1 n1 k2 n2 k3 n3 k4 n4 k5 n5 k6 n6 k7 n7 c vk vn (decide_eq_true (by omega)) (decide_eq_false (by omega)) (beq_eq_false_iff_ne.2 (by omega)) w
        · skip
          exact t7a1_3 k0 n0 k1 n1 k2 n2 k3 n3 k4 n4 k5 n5 k6 n6 k7 n7 c vk vn (decide_eq_false (by omega)) (beq_eq_false_iff_ne.2 (by omega)) w
      · skip
        exact t7a1_4 k0 n0 k1 n1 k2 n2 k3 n3 k4 n4 k5 n5 k6 n6 k7 n7 b c vk vn (decide_eq_true (by omega)) (decide_eq_false (by omega)) (beq_eq_false_iff_ne.2 (by omega)) w
    · skip
      exact t7a1_5 k0 n0 k1 n1 k2 n2 k3 n3 k4 n4 k5 n5 k6 n6 k7 n7 b c vk vn (decide_eq_false (by omega)) (beq_eq_false_iff_ne.2 (by omega)) w
theorem t7a2 (k0 : Int) (n0 : Int) (k1 : Int) (n1 : Int) (k2 : Int) (n2 : Int) (k3 : Int) (n3 : Int) (k4 : Int) (n4 : Int) (k5 : Int) (n5 : Int) (k6 : Int) (n6 : Int) (k7 : Int) (n7 : Int) (op : Int) (b : Int) (c : Int) (vk : Int) (vn : Int)  (w : World) : Calls Try.prog 4 (tArgs k0 n0 k1 n1 k2 n2 k3 n3 k4 n4 k5 n5 k6 n6 k7 n7 op 2 b c 7 vk vn) w (Ret (.bool true) w) := by
  by_cases g0 : op ≠ 19
  · skip
    exact t7a2_0 k0 n0 k1 n1 k2 n2 k3 n3 k4 n4 k5 n5 k6 n6 k7 n7 op b c vk vn (bne_iff_ne.2 (by omega)) w
  · skip
    obtain rfl : op = 19 := by omega
    by_cases g1 : (0 : Int) ≤ b
    · skip
      by_cases g2 : b ≤ 0
      · skip
        obtain rfl : b = 0 := by omega
        by_cases g3 : (0 : Int) ≤ c
        · skip
          by_cases g4 : c ≤ 0
          · skip
            obtain rfl : c = 0 := by omega
            exact t7a2_1 k0 n0 k1 n1 k2 n2 k3 n3 k4 n4 k5 n5 k6 n6 k7 n7 vk vn  w
          · skip
            exact t7a2_2 k0 n0 k1 n1 k2 n2 k3 n3 k4 n4 k5 n5 k6 n6 k7 n7 c vk vn (decide_eq_true (by omega)) (decide_eq_false (by omega)) (beq_eq_false_iff_ne.2 (by omega)) w
        · skip
          exact t7a2_3 k0 n0 k1 n1 k2 n2 k3 n3 k4 n4 k5 n5 k6 n6 k7 n7 c vk vn (decide_eq_false (by omega)) (beq_eq_false_iff_ne.2 (by omega)) w
      · skip
        exact t7a2_4 k0 n0 k1 n1 k2 n2 k3 n3 k4 n4 k5 n5 k6 n6 k7 n7 b c vk vn (decide_eq_true (by omega)) (decide_eq_false (by omega)) (beq_eq_false_iff_ne.2 (by omega)) w
    · skip
      exact t7a2_5 k0 n0 k1 n1 k2 n2 k3 n3 k4 n4 k5 n5 k6 n6 k7 n7 b c vk vn (decide_eq_false (by omega)) (beq_eq_false_iff_ne.2 (by omega)) w
theorem t7a3 (k0 : Int) (n0 : Int) (k1 : Int) (n1 : Int) (k2 : Int) (n2 : Int) (k3 : Int) (n3 : Int) (k4 : Int) (n4 : Int) (k5 : Int) (n5 : Int) (k6 : Int) (n6 : Int) (k7 : Int) (n7 : Int) (op : Int) (b : Int) (c : Int) (vk : Int) (vn : Int)  (w : World) : Calls Try.prog 4 (tArgs k0 n0 k1 n1 k2 n2 k3 n3 k4 n4 k5 n5 k6 n6 k7 n7 op 3 b c 7 vk vn) w (Ret (.bool true) w) := by
  by_cases g0 : op ≠ 19
  · skip
    exact t7a3_0 k0 n0 k1 n1 k2 n2 k3 n3 k4 n4 k5 n5 k6 n6 k7 n7 op b c vk vn (bne_iff_ne.2 (by omega)) w
  · skip
    obtain rfl : op = 19 := by omega
    by_cases g1 : (0 : Int) ≤ b
    · skip
      by_cases g2 : b ≤ 0
      · skip
        obtain rfl : b = 0 := by omega
        by_cases g3 : (0 : Int) ≤ c
        · skip
          by_cases g4 : c ≤ 0
          · skip
            obtain rfl : c = 0 := by omega
            exact t7a3_1 k0 n0 k1 n1 k2 n2 k3 n3 k4 n4 k5 n5 k6 n6 k7 n7 vk vn  w
          · skip
            exact t7a3_2 k0 n0 k1 n1 k2 n2 k3 n3 k4 n4 k5 n5 k6 n6 k7 n7 c vk vn (decide_eq_true (by omega)) (decide_eq_false (by omega)) (beq_eq_false_iff_ne.2 (by omega)) w
        · skip
          exact t7a3_3 k0 n0 k1 n1 k2 n2 k3 n3 k4 n4 k5 n5 k6 n6 k7 n7 c vk vn (decide_eq_false (by omega)) (beq_eq_false_iff_ne.2 (by omega)) w
      · skip
        exact t7a3_4 k0 n0 k1 n1 k2 n2 k3 n3 k4 n4 k5 n5 k6 n6 k7 n7 b c vk vn (decide_eq_true (by omega)) (decide_eq_false (by omega)) (beq_eq_false_iff_ne.2 (by omega)) w
    · skip
      exact t7a3_5 k0 n0 k1 n1 k2 n2 k3 n3 k4 n4 k5 n5 k6 n6 k7 n7 b c vk vn (decide_eq_false (by omega)) (beq_eq_false_iff_ne.2 (by omega)) w
theorem t7a4 (k0 : Int) (n0 : Int) (k1 : Int) (n1 : Int) (k2 : Int) (n2 : Int) (k3 : Int) (n3 : Int) (k4 : Int) (n4 : Int) (k5 : Int) (n5 : Int) (k6 : Int) (n6 : Int) (k7 : Int) (n7 : Int) (op : Int) (b : Int) (c : Int) (vk : Int) (vn : Int)  (w : World) : Calls Try.prog 4 (tArgs k0 n0 k1 n1 k2 n2 k3 n3 k4 n4 k5 n5 k6 n6 k7 n7 op 4 b c 7 vk vn) w (Ret (.bool true) w) := by
  by_cases g0 : op ≠ 19
  · skip
    exact t7a4_0 k0 n0 k1 n1 k2 n2 k3 n3 k4 n4 k5 n5 k6 n6 k7 n7 op b c vk vn (bne_iff_ne.2 (by omega)) w
  · skip
    obtain rfl : op = 19 := by omega
    by_cases g1 : (0 : Int) ≤ b
    · skip
      by_cases g2 : b ≤ 0
      · skip
        obtain rfl : b = 0 := by omega
        by_cases g3 : (0 : Int) ≤ c
        · skip
          by_cases g4 : c ≤ 0
          · skip
            obtain rfl : c = 0 := by omega
            exact t7a4_1 k0 n0 k1 n1 k2 n2 k3 n3 k4 n4 k5 n5 k6 n6 k7 n7 vk vn  w
          · skip
            exact t7a4_2 k0 n0 k1 n1 k2 n2 k3 n3 k4 n4 k5 n5 k6 n6 k7 n7 c vk vn (decide_eq_true (by omega)) (decide_eq_false (by omega)) (beq_eq_false_iff_ne.2 (by omega)) w
        · skip
          exact t7a4_3 k0 n0 k1 n1 k2 n2 k3 n3 k4 n4 k5 n5 k6 n6 k7 n7 c vk vn (decide_eq_false (by omega)) (beq_eq_false_iff_ne.2 (by omega)) w
      · skip
        exact t7a4_4 k0 n0 k1 n1 k2 n2 k3 n3 k4 n4 k5 n5 k6 n6 k7 n7 b c vk vn (decide_eq_true (by omega)) (decide_eq_false (by omega)) (beq_eq_false_iff_ne.2 (by omega)) w
    · skip
      exact t7a4_5 k0 n0 k1 n1 k2 n2 k3 n3 k4 n4 k5 n5 k6 n6 k7 n7 b c vk vn (decide_eq_false (by omega)) (beq_eq_false_iff_ne.2 (by omega)) w
theorem t7a5 (k0 : Int) (n0 : Int) (k1 : Int) (n1 : Int) (k2 : Int) (n2 : Int) (k3 : Int) (n3 : Int) (k4 : Int) (n4 : Int) (k5 : Int) (n5 : Int) (k6 : Int) (n6 : Int) (k7 : Int) (n7 : Int) (op : Int) (b : Int) (c : Int) (vk : Int) (vn : Int)  (w : World) : Calls Try.prog 4 (tArgs k0 n0 k1 n1 k2 n2 k3 n3 k4 n4 k5 n5 k6 n6 k7 n7 op 5 b c 7 vk vn) w (Ret (.bool true) w) := by
  by_cases g0 : op ≠ 19
  · skip
    exact t7a5_0 k0 n0 k1 n1 k2 n2 k3 n3 k4 n4 k5 n5 k6 n6 k7 n7 op b c vk vn (bne_iff_ne.2 (by omega)) w
  · skip
    obtain rfl : op = 19 := by omega
    by_cases g1 : (0 : Int) ≤ b
    · skip
      by_cases g2 : b ≤ 0
      · skip
        obtain rfl : b = 0 := by omega
        by_cases g3 : (0 : Int) ≤ c
        · skip
          by_cases g4 : c ≤ 0
          · skip
            obtain rfl : c = 0 := by omega
            exact t7a5_1 k0 n0 k1 n1 k2 n2 k3 n3 k4 n4 k5 n5 k6 n6 k7 n7 vk vn  w
          · skip
            exact t7a5_2 k0 n0 k1 n1 k2 n2 k3 n3 k4 n4 k5 n5 k6 n6 k7 n7 c vk vn (decide_eq_true (by omega)) (decide_eq_false (by omega)) (beq_eq_false_iff_ne.2 (by omega)) w
        · skip
          exact t7a5_3 k0 n0 k1 n1 k2 n2 k3 n3 k4 n4 k5 n5 k6 n6 k7 n7 c vk vn (decide_eq_false (by omega)) (beq_eq_false_iff_ne.2 (by omega)) w
      · skip
        exact t7a5_4 k0 n0 k1 n1 k2 n2 k3 n3 k4 n4 k5 n5 k6 n6 k7 n7 b c vk vn (decide_eq_true (by omega)) (decide_eq_false (by omega)) (beq_eq_false_iff_ne.2 (by omega)) w
    · skip
      exact t7a5_5 k0 n0 k1 n1 k2 n2 k3 n3 k4 n4 k5 n5 k6 n6 k7 n7 b c vk vn (decide_eq_false (by omega)) (beq_eq_false_iff_ne.2 (by omega)) w
theorem t7a6 (k0 : Int) (n0 : Int) (k1 : Int) (n1 : Int) (k2 : Int) (n2 : Int) (k3 : Int) (n3 : Int) (k4 : Int) (n4 : Int) (k5 : Int) (n5 : Int) (k6 : Int) (n6 : Int) (k7 : Int) (n7 : Int) (op : Int) (b : Int) (c : Int) (vk : Int) (vn : Int)  (w : World) : Calls Try.prog 4 (tArgs k0 n0 k1 n1 k2 n2 k3 n3 k4 n4 k5 n5 k6 n6 k7 n7 op 6 b c 7 vk vn) w (Ret (.bool true) w) := by
  by_cases g0 : op ≠ 19
  · skip
    exact t7a6_0 k0 n0 k1 n1 k2 n2 k3 n3 k4 n4 k5 n5 k6 n6 k7 n7 op b c vk vn (bne_iff_ne.2 (by omega)) w
  · skip
    obtain rfl : op = 19 := by omega
    by_cases g1 : (0 : Int) ≤ b
    · skip
      by_cases g2 : b ≤ 0
      · skip
        obtain rfl : b = 0 := by omega
        by_cases g3 : (0 : Int) ≤ c
        · skip
          by_cases g4 : c ≤ 0
          · skip
            obtain rfl : c = 0 := by omega
            exact t7a6_1 k0 n0 k1 n1 k2 n2 k3 n3 k4 n4 k5 n5 k6 n6 k7 n7 vk vn  w
          · skip
            exact t7a6_2 k0 n0 k1 n1 k2 n2 k3 n3 k4 n4 k5 n5 k6 n6 k7 n7 c vk vn (decide_eq_true (by omega)) (decide_eq_false (by omega)) (beq_eq_false_iff_ne.2 (by omega)) w
        · skip
          exact t7a6_3 k0 n0 k1 n1 k2 n2 k3 n3 k4 n4 k5 n5 k6 n6 k7 n7 c vk vn (decide_eq_false (by omega)) (beq_eq_false_iff_ne.2 (by omega)) w
      · skip
        exact t7a6_4 k0 n0 k1 n1 k2 n2 k3 n3 k4 n4 k5 n5 k6 n6 k7 n7 b c vk vn (decide_eq_true (by omega)) (decide_eq_false (by omega)) (beq_eq_false_iff_ne.2 (by omega)) w
    · skip
      exact t7a6_5 k0 n0 k1 n1 k2 n2 k3 n3 k4 n4 k5 n5 k6 n6 k7 n7 b c vk vn (decide_eq_false (by omega)) (beq_eq_false_iff_ne.2 (by omega)) w
theorem t7a7 (k0 : Int) (n0 : Int) (k1 : Int) (n1 : Int) (k2 : Int) (n2 : Int) (k3 : Int) (n3 : Int) (k4 : Int) (n4 : Int) (k5 : Int) (n5 : Int) (k6 : Int) (n6 : Int) (k7 : Int) (n7 : Int) (op : Int) (b : Int) (c : Int) (vk : Int) (vn : Int)  (w : World) : Calls Try.prog 4 (tArgs k0 n0 k1 n1 k2 n2 k3 n3 k4 n4 k5 n5 k6 n6 k7 n7 op 7 b c 7 vk vn) w (Ret (.bool true) w) := by
  by_cases g0 : op ≠ 19
  · skip
    exact t7a7_0 k0 n0 k1 n1 k2 n2 k3 n3 k4 n4 k5 n5 k6 n6 k7 n7 op b c vk vn (bne_iff_ne.2 (by omega)) w
  · skip
    obtain rfl : op = 19 := by omega
    by_cases g1 : (0 : Int) ≤ b
    · skip
      by_cases g2 : b ≤ 0
      · skip
        obtain rfl : b = 0 := by omega
        by_cases g3 : (0 : Int) ≤ c
        · skip
          by_cases g4 : c ≤ 0
          · skip
            obtain rfl : c = 0 := by omega
            exact t7a7_1 k0 n0 k1 n1 k2 n2 k3 n3 k4 n4 k5 n5 k6 n6 k7 n7 vk vn  w
          · skip
            exact t7a7_2 k0 n0 k1 n1 k2 n2 k3 n3 k4 n4 k5 n5 k6 n6 k7 n7 c vk vn (decide_eq_true (by omega)) (decide_eq_false (by omega)) (beq_eq_false_iff_ne.2 (by omega)) w
        · skip
          exact t7a7_3 k0 n0 k1 n1 k2 n2 k3 n3 k4 n4 k5 n5 k6 n6 k7 n7 c vk vn (decide_eq_false (by omega)) (beq_eq_false_iff_ne.2 (by omega)) w
      · skip
        exact t7a7_4 k0 n0 k1 n1 k2 n2 k3 n3 k4 n4 k5 n5 k6 n6 k7 n7 b c vk vn (decide_eq_true (by omega)) (decide_eq_false (by omega)) (beq_eq_false_iff_ne.2 (by omega)) w
    · skip
      exact t7a7_5 k0 n0 k1 n1 k2 n2 k3 n3 k4 n4 k5 n5 k6 n6 k7 n7 b c vk vn (decide_eq_false (by omega)) (beq_eq_false_iff_ne.2 (by omega)) w
theorem t7aL (k0 : Int) (n0 : Int) (k1 : Int) (n1 : Int) (k2 : Int) (n2 : Int) (k3 : Int) (n3 : Int) (k4 : Int) (n4 : Int) (k5 : Int) (n5 : Int) (k6 : Int) (n6 : Int) (k7 : Int) (n7 : Int) (op : Int) (a : Int) (b : Int) (c : Int) (vk : Int) (vn : Int) (ha : a < 0) (w : World) : Calls Try.prog 4 (tArgs k0 n0 k1 n1 k2 n2 k3 n3 k4 n4 k5 n5 k6 n6 k7 n7 op a b c 7 vk vn) w (Ret (.bool true) w) := by
  by_cases g0 : op ≠ 19
  · skip
    exact t7aL_0 k0 n0 k1 n1 k2 n2 k3 n3 k4 n4 k5 n5 k6 n6 k7 n7 op a b c vk vn (bne_iff_ne.2 (by omega)) w
  · skip
    obtain rfl : op = 19 := by omega
    exact t7aL_1 k0 n0 k1 n1 k2 n2 k3 n3 k4 n4 k5 n5 k6 n6 k7 n7 a b c vk vn (decide_eq_false (by omega)) (decide_eq_false (by omega)) w
theorem t7aH (k0 : Int) (n0 : Int) (k1 : Int) (n1 : Int) (k2 : Int) (n2 : Int) (k3 : Int) (n3 : Int) (k4 : Int) (n4 : Int) (k5 : Int) (n5 : Int) (k6 : Int) (n6 : Int) (k7 : Int) (n7 : Int) (op : Int) (a : Int) (b : Int) (c : Int) (vk : Int) (vn : Int) (ha : 7 < a) (w : World) : Calls Try.prog 4 (tArgs k0 n0 k1 n1 k2 n2 k3 n3 k4 n4 k5 n5 k6 n6 k7 n7 op a b c 7 vk vn) w (Ret (.bool true) w) := by
  by_cases g0 : op ≠ 19
  · skip
    exact t7aH_0 k0 n0 k1 n1 k2 n2 k3 n3 k4 n4 k5 n5 k6 n6 k7 n7 op a b c vk vn (bne_iff_ne.2 (by omega)) w
  · skip
    obtain rfl : op = 19 := by omega
    exact t7aH_1 k0 n0 k1 n1 k2 n2 k3 n3 k4 n4 k5 n5 k6 n6 k7 n7 a b c vk vn (decide_eq_true (by omega)) (decide_eq_false (by omega)) (decide_eq_true (by omega)) (decide_eq_false (by omega)) w
theorem tLa0 (k0 : Int) (n0 : Int) (k1 : Int) (n1 : Int) (k2 : Int) (n2 : Int) (k3 : Int) (n3 : Int) (k4 : Int) (n4 : Int) (k5 : Int) (n5 : Int) (k6 : Int) (n6 : Int) (k7 : Int) (n7 : Int) (op : Int) (b : Int) (c : Int) (at_ : Int) (vk : Int) (vn : Int) (hat : at_ < 0) (w : World) : Calls Try.prog 4 (tArgs k0 n0 k1 n1 k2 n2 k3 n3 k4 n4 k5 n5 k6 n6 k7 n7 op 0 b c at_ vk vn) w (Ret (.bool true) w) := by
  by_cases g0 : op ≠ 19
  · skip
    exact tLa0_0 k0 n0 k1 n1 k2 n2 k3 n3 k4 n4 k5 n5 k6 n6 k7 n7 op b c at_ vk vn (bne_iff_ne.2 (by omega)) (decide_eq_false (by omega)) w
  · skip
    obtain rfl : op = 19 := by omega
    by_cases g1 : (0 : Int) ≤ b
    · skip
      by_cases g2 : b ≤ 0
      · skip
        obtain rfl : b = 0 := by omega
        by_cases g3 : (0 : Int) ≤ c
        · skip
          by_cases g4 : c ≤ 0
          · skip
            obtain rfl : c = 0 := by omega
            exact tLa0_1 k0 n0 k1 n1 k2 n2 k3 n3 k4 n4 k5 n5 k6 n6 k7 n7 at_ vk vn (decide_eq_false (by omega)) w
          · skip
            exact tLa0_2 k0 n0 k1 n1 k2 n2 k3 n3 k4 n4 k5 n5 k6 n6 k7 n7 c at_ vk vn (decide_eq_true (by omega)) (decide_eq_false (by omega)) (beq_eq_false_iff_ne.2 (by omega)) (decide_eq_false (by omega)) w
        · skip
          exact tLa0_3 k0 n0 k1 n1 k2 n2 k3 n3 k4 n4 k5 n5 k6 n6 k7 n7 c at_ vk vn (decide_eq_false (by omega)) (beq_eq_false_iff_ne.2 (by omega)) (decide_eq_false (by omega)) w
      · skip
        exact tLa0_4 k0 n0 k1 n1 k2 n2 k3 n3 k4 n4 k5 n5 k6 n6 k7 n7 b c at_ vk vn (decide_eq_true (by omega)) (decide_eq_false (by omega)) (beq_eq_false_iff_ne.2 (by omega)) (decide_eq_false (by omega)) w
    · skip
      exact tLa0_5 k0 n0 k1 n1 k2 n2 k3 n3 k4 n4 k5 n5 k6 n6 k7 n7 b c at_ vk vn (decide_eq_false (by omega)) (beq_eq_false_iff_ne.2 (by omega)) (decide_eq_false (by omega)) w
theorem tLa1 (k0 : Int) (n0 : Int) (k1 : Int) (n1 : Int) (k2 : Int) (n2 : Int) (k3 : Int) (n3 : Int) (k4 : Int) (n4 : Int) (k5 : Int) (n5 : Int) (k6 : Int) (n6 : Int) (k7 : Int) (n7 : Int) (op : Int) (b : Int) (c : Int) (at_ : Int) (vk : Int) (vn : Int) (hat : at_ < 0) (w : World) : Calls Try.prog 4 (tArgs k0 n0 k1 n1 k2 n2 k3 n3 k4 n4 k5 n5 k6 n6 k7 n7 op 1 b c at_ vk vn) w (Ret (.bool true) w) := by
  by_cases g0 : op ≠ 19
  · skip
    exact tLa1_0 k0 n0 k1 n1 k2 n2 k3 n3 k4 n4 k5 n5 k6 n6 k7 n7 op b c at_ vk vn (bne_iff_ne.2 (by omega)) (decide_eq_false (by omega)) w
  · skip
    obtain rfl : op = 19 := by omega
    by_cases g1 : (0 : Int) ≤ b
    · skip
      by_cases g2 : b ≤ 0
      · skip
        obtain rfl : b = 0 := by omega
        by_cases g3 : (0 : Int) ≤ c
        · skip
          by_cases g4 : c ≤ 0
          · skip
            obtain rfl : c = 0 := by omega
            exact tLa1_1 k0 n0 k1 n1 k2 n2 k3 n3 k4 n4 k5 n5 k6 n6 k7 n7 at_ vk vn (decide_eq_false (by omega)) w
          · skip
            exact tLa1_2 k0 n0 k1 n1 k2 n2 k3 n3 k4 n4 k5 n5 k6 n6 k7 n7 c at_ vk vn (decide_eq_true (by omega)) (decide_eq_false (by omega)) (beq_eq_false_iff_ne.2 (by omega)) (decide_eq_false (by omega)) w
        · skip
          exact tLa1_3 k0 n0 k1 n1 k2 n2 k3 n3 k4 n4 k5 n5 k6 n6 k7 n7 c at_ vk vn (decide_eq_false (by omega)) (beq_eq_false_iff_ne.2 (by omega)) (decide_eq_false (by omega)) w
      · skip
        exact tLa1_4 k0 n0 k1 n1 k2 n2 k3 n3 k4 n4 k5 n5 k6 n6 k7 n7 b c at_ vk vn (decide_eq_true (by omega)) (decide_eq_false (by omega)) (beq_eq_false_iff_ne.2 (by omega)) (decide_eq_false (by omega)) w
    · skip
      exact tLa1_5 k0 n0 k1 n1 k2 n2 k3 n3 k4 n4 k5 n5 k6 n6 k7 n7 b c at_ vk vn (decide_eq_false (by omega)) (beq_eq_false_iff_ne.2 (by omega)) (decide_eq_false (by omega)) w
theorem tLa2 (k0 : Int) (n0 : Int) (k1 : Int) (n1 : Int) (k2 : Int) (n2 : Int) (k3 : Int) (n3 : Int) (k4 : Int) (n4 : Int) (k5 : Int) (n5 : Int) (k6 : Int) (n6 : Int) (k7 : Int) (n7 : Int) (op : Int) (b : Int) (c : Int) (at_ : Int) (vk : Int) (vn : Int) (hat : at_ < 0) (w : World) : Calls Try.prog 4 (tArgs k0 n0 k1 n1 k2 n2 k3 n3 k4 n4 k5 n5 k6 n6 k7 n7 op 2 b c at_ vk vn) w (Ret (.bool true) w) := by
  by_cases g0 : op ≠ 19
  · skip
    exact tLa2_0 k0 n0 k1 n1 k2 n2 k3 n3 k4 n4 k5 n5 k6 n6 k7 n7 op b c at_ vk vn (bne_iff_ne.2 (by omega)) (decide_eq_false (by omega)) w
  · skip
    obtain rfl : op = 19 := by omega
    by_cases g1 : (0 : Int) ≤ b
    · skip
      by_cases g2 : b ≤ 0
      · skip
        obtain rfl : b = 0 := by omega
        by_cases g3 : (0 : Int) ≤ c
        · skip
          by_cases g4 : c ≤ 0
          · skip
            obtain rfl : c = 0 := by omega
            exact tLa2_1 k0 n0 k1 n1 k2 n2 k3 n3 k4 n4 k5 n5 k6 n6 k7 n7 at_ vk vn (decide_eq_false (by omega)) w
          · skip
            exact tLa2_2 k0 n0 k1 n1 k2 n2 k3 n3 k4 n4 k5 n5 k6 n6 k7 n7 c at_ vk vn (decide_eq_true (by omega)) (decide_eq_false (by omega)) (beq_eq_false_iff_ne.2 (by omega)) (decide_eq_false (by omega)) w
        · skip
          exact tLa2_3 k0 n0 k1 n1 k2 n2 k3 n3 k4 n4 k5 n5 k6 n6 k7 n7 c at_ vk vn (decide_eq_false (by omega)) (beq_eq_false_iff_ne.2 (by omega)) (decide_eq_false (by omega)) w
      · skip
        exact tLa2_4 k0 n0 k1 n1 k2 n2 k3 n3 k4 n4 k5 n5 k6 n6 k7 n7 b c at_ vk vn (decide_eq_true (by omega)) (decide_eq_false (by omega)) (beq_eq_false_iff_ne.2 (by omega)) (decide_eq_false (by omega)) w
    · skip
      exact tLa2_5 k0 n0 k1 n1 k2 n2 k3 n3 k4 n4 k5 n5 k6 n6 k7 n7 b c at_ vk vn (decide_eq_false (by omega)) (beq_eq_false_iff_ne.2 (by omega)) (decide_eq_false (by omega)) w
theorem tLa3 (k0 : Int) (n0 : Int) (k1 : Int) (n1 : Int) (k2 : Int) (n2 : Int) (k3 : Int) (n3 : Int) (k4 : Int) (n4 : Int) (k5 : Int) (n5 : Int) (k6 : Int) (n6 : Int) (k7 : Int) (n7 : Int) (op : Int) (b : Int) (c : Int) (at_ : Int) (vk : Int) (vn : Int) (hat : at_ < 0) (w : World) : Calls Try.prog 4 (tArgs k0 n0 k1 n1 k2 n2 k3 n3 k4 n4 k5 n5 k6 n6 k7 n7 op 3 b c at_ vk vn) w (Ret (.bool true) w) := by
  by_cases g0 : op ≠ 19
  · skip
    exact tLa3_0 k0 n0 k1 n1 k2 n2 k3 n3 k4 n4 k5 n5 k6 n6 k7 n7 op b c at_ vk vn (bne_iff_ne.2 (by omega)) (decide_eq_false (by omega)) w
  · skip
    obtain rfl : op = 19 := by omega
    by_cases g1 : (0 : Int) ≤ b
    · skip
      by_cases g2 : b ≤ 0
      · skip
        obtain rfl : b = 0 := by omega
        by_cases g3 : (0 : Int) ≤ c
        · skip
          by_cases g4 : c ≤ 0
          · skip
            obtain rfl : c = 0 := by omega
            exact tLa3_1 k0 n0 k1 n1 k2 n2 k3 n3 k4 n4 k5 n5 k6 n6 k7 n7 at_ vk vn (decide_eq_false (by omega)) w
          · skip
            exact tLa3_2 k0 n0 k1 n1 k2 n2 k3 n3 k4 n4 k5 n5 k6 n6 k7 n7 c at_ vk vn (decide_eq_true (by omega)) (decide_eq_false (by omega)) (beq_eq_false_iff_ne.2 (by omega)) (decide_eq_false (by omega)) w
        · skip
          exact tLa3_3 k0 n0 k1 n1 k2 n2 k3 n3 k4 n4 k5 n5 k6 n6 k7 n7 c at_ vk vn (decide_eq_false (by omega)) (beq_eq_false_iff_ne.2 (by omega)) (decide_eq_false (by omega)) w
      · skip
        exact tLa3_4 k0 n0 k1 n1 k2 n2 k3 n3 k4 n4 k5 n5 k6 n6 k7 n7 b c at_ vk vn (decide_eq_true (by omega)) (decide_eq_false (by omega)) (beq_eq_false_iff_ne.2 (by omega)) (decide_eq_false (by omega)) w
    · skip
      exact tLa3_5 k0 n0 k1 n1 k2 n2 k3 n3 k4 n4 k5 n5 k6 n6 k7 n7 b c at_ vk vn (decide_eq_false (by omega)) (beq_eq_false_iff_ne.2 (by omega)) (decide_eq_false (by omega)) w
theorem tLa4 (k0 : Int) (n0 : Int) (k1 : Int) (n1 : Int) (k2 : Int) (n2 : Int) (k3 : Int) (n3 : Int) (k4 : Int) (n4 : Int) (k5 : Int) (n5 : Int) (k6 : Int) (n6 : Int) (k7 : Int) (n7 : Int) (op : Int) (b : Int) (c : Int) (at_ : Int) (vk : Int) (vn : Int) (hat : at_ < 0) (w : World) : Calls Try.prog 4 (tArgs k0 n0 k1 n1 k2 n2 k3 n3 k4 n4 k5 n5 k6 n6 k7 n7 op 4 b c at_ vk vn) w (Ret (.bool true) w) := by
  by_cases g0 : op ≠ 19
  · skip
    exact tLa4_0 k0 n0 k1 n1 k2 n2 k3 n3 k4 n4 k5 n5 k6 n6 k7 n7 op b c at_ vk vn (bne_iff_ne.2 (by omega)) (decide_eq_false (by omega)) w
  · skip
    obtain rfl : op = 19 := by omega
    by_cases g1 : (0 : Int) ≤ b
    · skip
      by_cases g2 : b ≤ 0
      · skip
        obtain rfl : b = 0 := by omega
        by_cases g3 : (0 : Int) ≤ c
        · skip
          by_cases g4 : c ≤ 0
          · skip
            obtain rfl : c = 0 := by omega
            exact tLa4_1 k0 n0 k1 n1 k2 n2 k3 n3 k4 n4 k5 n5 k6 n6 k7 n7 at_ vk vn (decide_eq_false (by omega)) w
          · skip
            exact tLa4_2 k0 n0 k1 n1 k2 n2 k3 n3 k4 n4 k5 n5 k6 n6 k7 n7 c at_ vk vn (decide_eq_true (by omega)) (decide_eq_false (by omega)) (beq_eq_false_iff_ne.2 (by omega)) (decide_eq_false (by omega)) w
        · skip
          exact tLa4_3 k0 n0 k1 n1 k2 n2 k3 n3 k4 n4 k5 n5 k6 n6 k7 n7 c at_ vk vn (decide_eq_false (by omega)) (beq_eq_false_iff_ne.2 (by omega)) (decide_eq_false (by omega)) w
      · skip
        exact tLa4_4 k0 n0 k1 n1 k2 n2 k3 n3 k4 n4 k5 n5 k6 n6 k7 n7 b c at_ vk vn (decide_eq_true (by omega)) (decide_eq_false (by omega)) (beq_eq_false_iff_ne.2 (by omega)) (decide_eq_false (by omega)) w
    · skip
      exact tLa4_5 k0 n0 k1 n1 k2 n2 k3 n3 k4 n4 k5 n5 k6 n6 k7 n7 b c at_ vk vn (decide_eq_false (by omega)) (beq_eq_false_iff_ne.2 (by omega)) (decide_eq_false (by omega)) w
theorem tLa5 (k0 : Int) (n0 : Int) (k1 : Int) (n1 : Int) (k2 : Int) (n2 : Int) (k3 : Int) (n3 : Int) (k4 : Int) (n4 : Int) (k5 : Int) (n5 : Int) (k6 : Int) (n6 : Int) (k7 : Int) (n7 : Int) (op : Int) (b : Int) (c : Int) (at_ : Int) (vk : Int) (vn : Int) (hat : at_ < 0) (w : World) : Calls Try.prog 4 (tArgs k0 n0 k1 n1 k2 n2 k3 n3 k4 n4 k5 n5 k6 n6 k7 n7 op 5 b c at_ vk vn) w (Ret (.bool true) w) := by
  by_cases g0 : op ≠ 19
  · skip
    exact tLa5_0 k0 n0 k1 n1 k2 n2 k3 n3 k4 n4 k5 n5 k6 n6 k7 n7 op b c at_ vk vn (bne_iff_ne.2 (by omega)) (decide_eq_false (by omega)) w
  · skip
    obtain rfl : op = 19 := by omega
    by_cases g1 : (0 : Int) ≤ b
    · skip
      by_cases g2 : b ≤ 0
      · skip
        obtain rfl : b = 0 := by omega
        by_cases g3 : (0 : Int) ≤ c
        · skip
          by_cases g4 : c ≤ 0
          · skip
            obtain rfl : c = 0 := by omega
            exact tLa5_1 k0 n0 k1 n1 k2 n2 k3 n3 k4 n4 k5 n5 k6 n6 k7 n7 at_ vk vn (decide_eq_false (by omega)) w
          · skip
            exact tLa5_2 k0 n0 k1 n1 k2 n2 k3 n3 k4 n4 k5 n5 k6 n6 k7 n7 c at_ vk vn (decide_eq_true (by omega)) (decide_eq_false (by omega)) (beq_eq_false_iff_ne.2 (by omega)) (decide_eq_false (by omega)) w
        · skip
          exact tLa5_3 k0 n0 k1 n1 k2 n2 k3 n3 k4 n4 k5 n5 k6 n6 k7 n7 c at_ vk vn (decide_eq_false (by omega)) (beq_eq_false_iff_ne.2 (by omega)) (decide_eq_false (by omega)) w
      · skip
        exact tLa5_4 k0 n0 k1 n1 k2 n2 k3 n3 k4 n4 k5 n5 k6 n6 k7 n7 b c at_ vk vn (decide_eq_true (by omega)) (decide_eq_false (by omega)) (beq_eq_false_iff_ne.2 (by omega)) (decide_eq_false (by omega)) w
    · skip
      exact tLa5_5 k0 n0 k1 n1 k2 n2 k3 n3 k4 n4 k5 n5 k6 n6 k7 n7 b c at_ vk vn (decide_eq_false (by omega)) (beq_eq_false_iff_ne.2 (by omega)) (decide_eq_false (by omega)) w
theorem tLa6 (k0 : Int) (n0 : Int) (k1 : Int) (n1 : Int) (k2 : Int) (n2 : Int) (k3 : Int) (n3 : Int) (k4 : Int) (n4 : Int) (k5 : Int) (n5 : Int) (k6 : Int) (n6 : Int) (k7 : Int) (n7 : Int) (op : Int) (b : Int) (c : Int) (at_ : Int) (vk : Int) (vn : Int) (hat : at_ < 0) (w : World) : Calls Try.prog 4 (tArgs k0 n0 k1 n1 k2 n2 k3 n3 k4 n4 k5 n5 k6 n6 k7 n7 op 6 b c at_ vk vn) w (Ret (.bool true) w) := by
  by_cases g0 : op ≠ 19
  · skip
    exact tLa6_0 k0 n0 k1 n1 k2 n2 k3 n3 k4 n4 k5 n5 k6 n6 k7 n7 op b c at_ vk vn (bne_iff_ne.2 (by omega)) (decide_eq_false (by omega)) w
  · skip
    obtain rfl : op = 19 := by omega
    by_cases g1 : (0 : Int) ≤ b
    · skip
      by_cases g2 : b ≤ 0
      · skip
        obtain rfl : b = 0 := by omega
        by_cases g3 : (0 : Int) ≤ c
        · skip
          by_cases g4 : c ≤ 0
          · skip
            obtain rfl : c = 0 := by omega
            exact tLa6_1 k0 n0 k1 n1 k2 n2 k3 n3 k4 n4 k5 n5 k6 n6 k7 n7 at_ vk vn (decide_eq_false (by omega)) w
          · skip
            exact tLa6_2 k0 n0 k1 n1 k2 n2 k3 n3 k4 n4 k5 n5 k6 n6 k7 n7 c at_ vk vn (decide_eq_true (by omega)) (decide_eq_false (by omega)) (beq_eq_false_iff_ne.2 (by omega)) (decide_eq_false (by omega)) w
        · skip
          exact tLa6_3 k0 n0 k1 n1 k2 n2 k3 n3 k4 n4 k5 n5 k6 n6 k7 n7 c at_ vk vn (decide_eq_false (by omega)) (beq_eq_false_iff_ne.2 (by omega)) (decide_eq_false (by omega)) w
      · skip
        exact tLa6_4 k0 n0 k1 n1 k2 n2 k3 n3 k4 n4 k5 n5 k6 n6 k7 n7 b c at_ vk vn (decide_eq_true (by omega)) (decide_eq_false (by omega)) (beq_eq_false_iff_ne.2 (by omega)) (decide_eq_false (by omega)) w
    · skip
      exact tLa6_5 k0 n0 k1 n1 k2 n2 k3 n3 k4 n4 k5 n5 k6 n6 k7 n7 b c at_ vk vn (decide_eq_false (by omega)) (beq_eq_false_iff_ne.2 (by omega)) (decide_eq_false (by omega)) w
theorem tLa7 (k0 : Int) (n0 : Int) (k1 : Int) (n1 : Int) (k2 : Int) (n2 : Int) (k3 : Int) (n3 : Int) (k4 : Int) (n4 : Int) (k5 : Int) (n5 : Int) (k6 : Int) (n6 : Int) (k7 : Int) (n7 : Int) (op : Int) (b : Int) (c : Int) (at_ : Int) (vk : Int) (vn : Int) (hat : at_ < 0) (w : World) : Calls Try.prog 4 (tArgs k0 n0 k1 n1 k2 n2 k3 n3 k4 n4 k5 n5 k6 n6 k7 n7 op 7 b c at_ vk vn) w (Ret (.bool true) w) := by
  by_cases g0 : op ≠ 19
  · skip
    exact tLa7_0 k0 n0 k1 n1 k2 n2 k3 n3 k4 n4 k5 n5 k6 n6 k7 n7 op b c at_ vk vn (bne_iff_ne.2 (by omega)) (decide_eq_false (by omega)) w
  · skip
    obtain rfl : op = 19 := by omega
    by_cases g1 : (0 : Int) ≤ b
    · skip
      by_cases g2 : b ≤ 0
      · skip
        obtain rfl : b = 0 := by omega
        by_cases g3 : (0 : Int) ≤ c
        · skip
          by_cases g4 : c ≤ 0
          · skip
            obtain rfl : c = 0 := by omega
            exact tLa7_1 k0 n0 k1 n1 k2 n2 k3 n3 k4 n4 k5 n5 k6 n6 k7 n7 at_ vk vn (decide_eq_false (by omega)) w
          · skip
            exact tLa7_2 k0 n0 k1 n1 k2 n2 k3 n3 k4 n4 k5 n5 k6 n6 k7 n7 c at_ vk vn (decide_eq_true (by omega)) (decide_eq_false (by omega)) (beq_eq_false_iff_ne.2 (by omega)) (decide_eq_false (by omega)) w
        · skip
          exact tLa7_3 k0 n0 k1 n1 k2 n2 k3 n3 k4 n4 k5 n5 k6 n6 k7 n7 c at_ vk vn (decide_eq_false (by omega)) (beq_eq_false_iff_ne.2 (by omega)) (decide_eq_false (by omega)) w
      · skip
        exact tLa7_4 k0 n0 k1 n1 k2 n2 k3 n3 k4 n4 k5 n5 k6 n6 k7 n7 b c at_ vk vn (decide_eq_true (by omega)) (decide_eq_false (by omega)) (beq_eq_false_iff_ne.2 (by omega)) (decide_eq_false (by omega)) w
    · skip
      exact tLa7_5 k0 n0 k1 n1 k2 n2 k3 n3 k4 n4 k5 n5 k6 n6 k7 n7 b c at_ vk vn (decide_eq_false (by omega)) (beq_eq_false_iff_ne.2 (by omega)) (decide_eq_false (by omega)) w
theorem tLaL (k0 : Int) (n0 : Int) (k1 : Int) (n1 : Int) (k2 : Int) (n2 : Int) (k3 : Int) (n3 : Int) (k4 : Int) (n4 : Int) (k5 : Int) (n5 : Int) (k6 : Int) (n6 : Int) (k7 : Int) (n7 : Int) (op : Int) (a : Int) (b : Int) (c : Int) (at_ : Int) (vk : Int) (vn : Int) (hat : at_ < 0) (ha : a < 0) (w : World) : Calls Try.prog 4 (tArgs k0 n0 k1 n1 k2 n2 k3 n3 k4 n4 k5 n5 k6 n6 k7 n7 op a b c at_ vk vn) w (Ret (.bool true) w) := by
  by_cases g0 : op ≠ 19
  · skip
    exact tLaL_0 k0 n0 k1 n1 k2 n2 k3 n3 k4 n4 k5 n5 k6 n6 k7 n7 op a b c at_ vk vn (bne_iff_ne.2 (by omega)) (decide_eq_false (by omega)) w
  · skip
    obtain rfl : op = 19 := by omega
    exact tLaL_1 k0 n0 k1 n1 k2 n2 k3 n3 k4 n4 k5 n5 k6 n6 k7 n7 a b c at_ vk vn (decide_eq_false (by omega)) (decide_eq_false (by omega)) (decide_eq_false (by omega)) w
theorem tLaH (k0 : Int) (n0 : Int) (k1 : Int) (n1 : Int) (k2 : Int) (n2 : Int) (k3 : Int) (n3 : Int) (k4 : Int) (n4 : Int) (k5 : Int) (n5 : Int) (k6 : Int) (n6 : Int) (k7 : Int) (n7 : Int) (op : Int) (a : Int) (b : Int) (c : Int) (at_ : Int) (vk : Int) (vn : Int) (hat : at_ < 0) (ha : 7 < a) (w : World) : Calls Try.prog 4 (tArgs k0 n0 k1 n1 k2 n2 k3 n3 k4 n4 k5 n5 k6 n6 k7 n7 op a b c at_ vk vn) w (Ret (.bool true) w) := by
  by_cases g0 : op ≠ 19
  · skip
    exact tLaH_0 k0 n0 k1 n1 k2 n2 k3 n3 k4 n4 k5 n5 k6 n6 k7 n7 op a b c at_ vk vn (bne_iff_ne.2 (by omega)) (decide_eq_false (by omega)) w
  · skip
    obtain rfl : op = 19 := by omega
    exact tLaH_1 k0 n0 k1 n1 k2 n2 k3 n3 k4 n4 k5 n5 k6 n6 k7 n7 a b c at_ vk vn (decide_eq_true (by omega)) (decide_eq_false (by omega)) (decide_eq_true (by omega)) (decide_eq_false (by omega)) (decide_eq_false (by omega)) w
theorem tHa0 (k0 : Int) (n0 : Int) (k1 : Int) (n1 : Int) (k2 : Int) (n2 : Int) (k3 : Int) (n3 : Int) (k4 : Int) (n4 : Int) (k5 : Int) (n5 : Int) (k6 : Int) (n6 : Int) (k7 : Int) (n7 : Int) (op : Int) (b : Int) (c : Int) (at_ : Int) (vk : Int) (vn : Int) (hat : 7 < at_) (w : World) : Calls Try.prog 4 (tArgs k0 n0 k1 n1 k2 n2 k3 n3 k4 n4 k5 n5 k6 n6 k7 n7 op 0 b c at_ vk vn) w (Ret (.bool true) w) := by
  by_cases g0 : op ≠ 19
  · skip
    exact tHa0_0 k0 n0 k1 n1 k2 n2 k3 n3 k4 n4 k5 n5 k6 n6 k7 n7 op b c at_ vk vn (bne_iff_ne.2 (by omega)) (decide_eq_true (by omega)) (decide_eq_false (by omega)) w
  · skip
    obtain rfl : op = 19 := by omega
    by_cases g1 : (0 : Int) ≤ b
    · skip
      by_cases g2 : b ≤ 0
      · skip
        obtain rfl : b = 0 := by omega
        by_cases g3 : (0 : Int) ≤ c
        · skip
          by_cases g4 : c ≤ 0
          · skip
            obtain rfl : c = 0 := by omega
            exact tHa0_1 k0 n0 k1 n1 k2 n2 k3 n3 k4 n4 k5 n5 k6 n6 k7 n7 at_ vk vn (decide_eq_true (by omega)) (decide_eq_false (by omega)) w
          · skip
            exact tHa0_2 k0 n0 k1 n1 k2 n2 k3 n3 k4 n4 k5 n5 k6 n6 k7 n7 c at_ vk vn (decide_eq_true (by omega)) (decide_eq_false (by omega)) (beq_eq_false_iff_ne.2 (by omega)) (decide_eq_true (by omega)) (decide_eq_false (by omega)) w
        · skip
          exact tHa0_3 k0 n0 k1 n1 k2 n2 k3 n3 k4 n4 k5 n5 k6 n6 k7 n7 c at_ vk vn (decide_eq_false (by omega)) (beq_eq_false_iff_ne.2 (by omega)) (decide_eq_true (by omega)) (decide_eq_false (by omega)) w
      · skip
        exact tHa0_4 k0 n0 k1 n1 k2 n2 k3 n3 k4 n4 k5 n5 k6 n6 k7 n7 b c at_ vk vn (decide_eq_true (by omega)) (decide_eq_false (by omega)) (beq_eq_false_iff_ne.2 (by omega)) (decide_eq_true (by omega)) (decide_eq_false (by omega)) w
    · skip
      exact tHa0_5 k0 n0 k1 n1 k2 n2 k3 n3 k4 n4 k5 n5 k6 n6 k7 n7 b c at_ vk vn (decide_eq_false (by omega)) (beq_eq_false_iff_ne.2 (by omega)) (decide_eq_true (by omega)) (decide_eq_false (by omega)) w
theorem tHa1 (k0 : Int) (n0 : Int) (k1 : Int) (n1 : Int) (k2 : Int) (n2 : Int) (k3 : Int) (n3 : Int) (k4 : Int) (n4 : Int) (k5 : Int) (n5 : Int) (k6 : Int) (n6 : Int) (k7 : Int) (n7 : Int) (op : Int) (b : Int) (c : Int) (at_ : Int) (vk : Int) (vn : Int) (hat : 7 < at_) (w : World) : Calls Try.prog 4 (tArgs k0 n0 k1 n1 k2 n2 k3 n3 k4 n4 k5 n5 k6 n6 k7 n7 op 1 b c at_ vk vn) w (Ret (.bool true) w) := by
  by_cases g0 : op ≠ 19
  · skip
    exact tHa1_0 k0 n0 k1 n1 k2 n2 k3 n3 k4 n4 k5 n5 k6 n6 k7 n7 op b c at_ vk vn (bne_iff_ne.2 (by omega)) (decide_eq_true (by omega)) (decide_eq_false (by omega)) w
  · skip
    obtain rfl : op = 19 := by omega
    by_cases g1 : (0 : Int) ≤ b
    · skip
      by_cases g2 : b ≤ 0
      · skip
        obtain rfl : b = 0 := by omega
        by_cases g3 : (0 : Int) ≤ c
        · skip
          by_cases g4 : c ≤ 0
          · skip
            obtain rfl : c = 0 := by omega
            exact tHa1_1 k0 n0 k1 n1 k2 n2 k3 n3 k4 n4 k5 n5 k6 n6 k7 n7 at_ vk vn (decide_eq_true (by omega)) (decide_eq_false (by omega)) w
          · skip
            exact tHa1_2 k0 n0 k1 n1 k2 n2 k3 n3 k4 n4 k5 n5 k6 n6 k7 n7 c at_ vk vn (decide_eq_true (by omega)) (decide_eq_false (by omega)) (beq_eq_false_iff_ne.2 (by omega)) (decide_eq_true (by omega)) (decide_eq_false (by omega)) w
        · skip
          exact tHa1_3 k0 n0 k1 n1 k2 n2 k3 n3 k4 n4 k5 n5 k6 n6 k7 n7 c at_ vk vn (decide_eq_false (by omega)) (beq_eq_false_iff_ne.2 (by omega)) (decide_eq_true (by omega)) (decide_eq_false (by omega)) w
      · skip
        exact tHa1_4 k0 n0 k1 n1 k2 n2 k3 n3 k4 n4 k5 n5 k6 n6 k7 n7 b c at_ vk vn (decide_eq_true (by omega)) (decide_eq_false (by omega)) (beq_eq_false_iff_ne.2 (by omega)) (decide_eq_true (by omega)) (decide_eq_false (by omega)) w
    · skip
      exact tHa1_5 k0 n0 k1 n1 k2 n2 k3 n3 k4 n4 k5 n5 k6 n6 k7 n7 b c at_ vk vn (decide_eq_false (by omega)) (beq_eq_false_iff_ne.2 (by omega)) (decide_eq_true (by omega)) (decide_eq_false (by omega)) w
theorem tHa2 (k0 : Int) (n0 : Int) (k1 : Int) (n1 : Int) (k2 : Int) (n2 : Int) (k3 : Int) (n3 : Int) (k4 : Int) (n4 : Int) (k5 : Int) (n5 : Int) (k6 : Int) (n6 : Int) (k7 : Int) (n7 : Int) (op : Int) (b : Int) (c : Int) (at_ : Int) (vk : Int) (vn : Int) (hat : 7 < at_) (w : World) : Calls Try.prog 4 (tArgs k0 n0 k1 n1 k2 n2 k3 n3 k4 n4 k5 n5 k6 n6 k7 n7 op 2 b c at_ vk vn) w (Ret (.bool true) w) := by
  by_cases g0 : op ≠ 19
  · skip
    exact tHa2_0 k0 n0 k1 n1 k2 n2 k3 n3 k4 n4 k5 n5 k6 n6 k7 n7 op b c at_ vk vn (bne_iff_ne.2 (by omega)) (decide_eq_true (by omega)) (decide_eq_false (by omega)) w
  · skip
    obtain rfl : op = 19 := by omega
    by_cases g1 : (0 : Int) ≤ b
    · skip
      by_cases g2 : b ≤ 0
      · skip
        obtain rfl : b = 0 := by omega
        by_cases g3 : (0 : Int) ≤ c
        · skip
          by_cases g4 : c ≤ 0
          · skip
            obtain rfl : c = 0 := by omega
            exact tHa2_1 k0 n0 k1 n1 k2 n2 k3 n3 k4 n4 k5 n5 k6 n6 k7 n7 at_ vk vn (decide_eq_true (by omega)) (decide_eq_false (by omega)) w
          · skip
            exact tHa2_2 k0 n0 k1 n1 k2 n2 k3 n3 k4 n4 k5 n5 k6 n6 k7 n7 c at_ vk vn (decide_eq_true (by omega)) (decide_eq_false (by omega)) (beq_eq_false_iff_ne.2 (by omega)) (decide_eq_true (by omega)) (decide_eq_false (by omega)) w
        · skip
          exact tHa2_3 k0 n0 k1 n1 k2 n2 k3 n3 k4 n4 k5 n5 k6 n6 k7 n7 c at_ vk vn (decide_eq_false (by omega)) (beq_eq_false_iff_ne.2 (by omega)) (decide_eq_true (by omega)) (decide_eq_false (by omega)) w
      · skip
        exact tHa2_4 k0 n0 k1 n1 k2 n2 k3 n3 k4 n4 k5 n5 k6 n6 k7 n7 b c at_ vk vn (decide_eq_true (by omega)) (decide_eq_false (by omega)) (beq_eq_false_iff_ne.2 (by omega)) (decide_eq_true (by omega)) (decide_eq_false (by omega)) w
    · skip
      exact tHa2_5 k0 n0 k1 n1 k2 n2 k3 n3 k4 n4 k5 n5 k6 n6 k7 n7 b c at_ vk vn (decide_eq_false (by omega)) (beq_eq_false_iff_ne.2 (by omega)) (decide_eq_true (by omega)) (decide_eq_false (by omega)) w
theorem tHa3 (k0 : Int) (n0 : Int) (k1 : Int) (n1 : Int) (k2 : Int) (n2 : Int) (k3 : Int) (n3 : Int) (k4 : Int) (n4 : Int) (k5 : Int) (n5 : Int) (k6 : Int) (n6 : Int) (k7 : Int) (n7 : Int) (op : Int) (b : Int) (c : Int) (at_ : Int) (vk : Int) (vn : Int) (hat : 7 < at_) (w : World) : Calls Try.prog 4 (tArgs k0 n0 k1 n1 k2 n2 k3 n3 k4 n4 k5 n5 k6 n6 k7 n7 op 3 b c at_ vk vn) w (Ret (.bool true) w) := by
  by_cases g0 : op ≠ 19
  · skip
    exact tHa3_0 k0 n0 k1 n1 k2 n2 k3 n3 k4 n4 k5 n5 k6 n6 k7 n7 op b c at_ vk vn (bne_iff_ne.2 (by omega)) (decide_eq_true (by omega)) (decide_eq_false (by omega)) w
  · skip
    obtain rfl : op = 19 := by omega
    by_cases g1 : (0 : Int) ≤ b
    · skip
      by_cases g2 : b ≤ 0
      · skip
        obtain rfl : b = 0 := by omega
        by_cases g3 : (0 : Int) ≤ c
        · skip
          by_cases g4 : c ≤ 0
          · skip
            obtain rfl : c = 0 := by omega
            exact tHa3_1 k0 n0 k1 n1 k2 n2 k3 n3 k4 n4 k5 n5 k6 n6 k7 n7 at_ vk vn (decide_eq_true (by omega)) (decide_eq_false (by omega)) w
          · skip
            exact tHa3_2 k0 n0 k1 n1 k2 n2 k3 n3 k4 n4 k5 n5 k6 n6 k7 n7 c at_ vk vn (decide_eq_true (by omega)) (decide_eq_false (by omega)) (beq_eq_false_iff_ne.2 (by omega)) (decide_eq_true (by omega)) (decide_eq_false (by omega)) w
        · skip
          exact tHa3_3 k0 n0 k1 n1 k2 n2 k3 n3 k4 n4 k5 n5 k6 n6 k7 n7 c at_ vk vn (decide_eq_false (by omega)) (beq_eq_false_iff_ne.2 (by omega)) (decide_eq_true (by omega)) (decide_eq_false (by omega)) w
      · skip
        exact tHa3_4 k0 n0 k1 n1 k2 n2 k3 n3 k4 n4 k5 n5 k6 n6 k7 n7 b c at_ vk vn (decide_eq_true (by omega)) (decide_eq_false (by omega)) (beq_eq_false_iff_ne.2 (by omega)) (decide_eq_true (by omega)) (decide_eq_false (by omega)) w
    · skip
      exact tHa3_5 k0 n0 k1 n1 k2 n2 k3 n3 k4 n4 k5 n5 k6 n6 k7 n7 b c at_ vk vn (decide_eq_false (by omega)) (beq_eq_false_iff_ne.2 (by omega)) (decide_eq_true (by omega)) (decide_eq_false (by omega)) w
theorem tHa4 (k0 : Int) (n0 : Int) (k1 : Int) (n1 : Int) (k2 : Int) (n2 : Int) (k3 : Int) (n3 : Int) (k4 : Int) (n4 : Int) (k5 : Int) (n5 : Int) (k6 : Int) (n6 : Int) (k7 : Int) (n7 : Int) (op : Int) (b : Int) (c : Int) (at_ : Int) (vk : Int) (vn : Int) (hat : 7 < at_) (w : World) : Calls Try.prog 4 (tArgs k0 n0 k1 n1 k2 n2 k3 n3 k4 n4 k5 n5 k6 n6 k7 n7 op 4 b c at_ vk vn) w (Ret (.bool true) w) := by
  by_cases g0 : op ≠ 19
  · skip
    exact tHa4_0 k0 n0 k1 n1 k2 n2 k3 n3 k4 n4 k5 n5 k6 n6 k7 n7 op b c at_ vk vn (bne_iff_ne.2 (by omega)) (decide_eq_true (by omega)) (decide_eq_false (by omega)) w
  · skip
    obtain rfl : op = 19 := by omega
    by_cases g1 : (0 : Int) ≤ b
    · skip
      by_cases g2 : b ≤ 0
      · skip
        obtain rfl : b = 0 := by omega
        by_cases g3 : (0 : Int) ≤ c
        · skip
          by_cases g4 : c ≤ 0
          · skip
            obtain rfl : c = 0 := by omega
            exact tHa4_1 k0 n0 k1 n1 k2 n2 k3 n3 k4 n4 k5 n5 k6 n6 k7 n7 at_ vk vn (decide_eq_true (by omega)) (decide_eq_false (by omega)) w
          · skip
            exact tHa4_2 k0 n0 k1 n1 k2 n2 k3 n3 k4 n4 k5 n5 k6 n6 k7 n7 c at_ vk vn (decide_eq_true (by omega)) (decide_eq_false (by omega)) (beq_eq_false_iff_ne.2 (by omega)) (decide_eq_true (by omega)) (decide_eq_false (by omega)) w
        · skip
          exact tHa4_3 k0 n0 k1 n1 k2 n2 k3 n3 k4 n4 k5 n5 k6 n6 k7 n7 c at_ vk vn (decide_eq_false (by omega)) (beq_eq_false_iff_ne.2 (by omega)) (decide_eq_true (by omega)) (decide_eq_false (by omega)) w
      · skip
        exact tHa4_4 k0 n0 k1 n1 k2 n2 k3 n3 k4 n4 k5 n5 k6 n6 k7 n7 b c at_ vk vn (decide_eq_true (by omega)) (decide_eq_false (by omega)) (beq_eq_false_iff_ne.2 (by omega)) (decide_eq_true (by omega)) (decide_eq_false (by omega)) w
    · skip
      exact tHa4_5 k0 n0 k1 n1 k2 n2 k3 n3 k4 n4 k5 n5 k6 n6 k7 n7 b c at_ vk vn (decide_eq_false (by omega)) (beq_eq_false_iff_ne.2 (by omega)) (decide_eq_true (by omega)) (decide_eq_false (by omega)) w
theorem tHa5 (k0 : Int) (n0 : Int) (k1 : Int) (n1 : Int) (k2 : Int) (n2 : Int) (k3 : Int) (n3 : Int) (k4 : Int) (n4 : Int) (k5 : Int) (n5 : Int) (k6 : Int) (n6 : Int) (k7 : Int) (n7 : Int) (op : Int) (b : Int) (c : Int) (at_ : Int) (vk : Int) (vn : Int) (hat : 7 < at_) (w : World) : Calls Try.prog 4 (tArgs k0 n0 k1 n1 k2 n2 k3 n3 k4 n4 k5 n5 k6 n6 k7 n7 op 5 b c at_ vk vn) w (Ret (.bool true) w) := by
  by_cases g0 : op ≠ 19
  · skip
    exact tHa5_0 k0 n0 k1 n1 k2 n2 k3 n3 k4 n4 k5 n5 k6 n6 k7 n7 op b c at_ vk vn (bne_iff_ne.2 (by omega)) (decide_eq_true (by omega)) (decide_eq_false (by omega)) w
  · skip
    obtain rfl : op = 19 := by omega
    by_cases g1 : (0 : Int) ≤ b
    · skip
      by_cases g2 : b ≤ 0
      · skip
        obtain rfl : b = 0 := by omega
        by_cases g3 : (0 : Int) ≤ c
        · skip
          by_cases g4 : c ≤ 0
          · skip
            obtain rfl : c = 0 := by omega
            exact tHa5_1 k0 n0 k1 n1 k2 n2 k3 n3 k4 n4 k5 n5 k6 n6 k7 n7 at_ vk vn (decide_eq_true (by omega)) (decide_eq_false (by omega)) w
          · skip
            exact tHa5_2 k0 n0 k1 n1 k2 n2 k3 n3 k4 n4 k5 n5 k6 n6 k7 n7 c at_ vk vn (decide_eq_true (by omega)) (decide_eq_false (by omega)) (beq_eq_false_iff_ne.2 (by omega)) (decide_eq_true (by omega)) (decide_eq_false (by omega)) w
        · skip
          exact tHa5_3 k0 n0 k1 n1 k2 n2 k3 n3 k4 n4 k5 n5 k6 n6 k7 n7 c at_ vk vn (decide_eq_false (by omega)) (beq_eq_false_iff_ne.2 (by omega)) (decide_eq_true (by omega)) (decide_eq_false (by omega)) w
      · skip
        exact tHa5_4 k0 n0 k1 n1 k2 n2 k3 n3 k4 n4 k5 n5 k6 n6 k7 n7 b c at_ vk vn (decide_eq_true (by omega)) (decide_eq_false (by omega)) (beq_eq_false_iff_ne.2 (by omega)) (decide_eq_true (by omega)) (decide_eq_false (by omega)) w
    · skip
      exact tHa5_5 k0 n0 k1 n1 k2 n2 k3 n3 k4 n4 k5 n5 k6 n6 k7 n7 b c at_ vk vn (decide_eq_false (by omega)) (beq_eq_false_iff_ne.2 (by omega)) (decide_eq_true (by omega)) (decide_eq_false (by omega)) w
theorem tHa6 (k0 : Int) (n0 : Int) (k1 : Int) (n1 : Int) (k2 : Int) (n2 : Int) (k3 : Int) (n3 : Int) (k4 : Int) (n4 : Int) (k5 : Int) (n5 : Int) (k6 : Int) (n6 : Int) (k7 : Int) (n7 : Int) (op : Int) (b : Int) (c : Int) (at_ : Int) (vk : Int) (vn : Int) (hat : 7 < at_) (w : World) : Calls Try.prog 4 (tArgs k0 n0 k1 n1 k2 n2 k3 n3 k4 n4 k5 n5 k6 n6 k7 n7 op 6 b c at_ vk vn) w (Ret (.bool true) w) := by
  by_cases g0 : op ≠ 19
  · skip
    exact tHa6_0 k0 n0 k1 n1 k2 n2 k3 n3 k4 n4 k5 n5 k6 n6 k7 n7 op b c at_ vk vn (bne_iff_ne.2 (by omega)) (decide_eq_true (by omega)) (decide_eq_false (by omega)) w
  · skip
    obtain rfl : op = 19 := by omega
    by_cases g1 : (0 : Int) ≤ b
    · skip
      by_cases g2 : b ≤ 0
      · skip
        obtain rfl : b = 0 := by omega
        by_cases g3 : (0 : Int) ≤ c
        · skip
          by_cases g4 : c ≤ 0
          · skip
            obtain rfl : c = 0 := by omega
            exact tHa6_1 k0 n0 k1 n1 k2 n2 k3 n3 k4 n4 k5 n5 k6 n6 k7 n7 at_ vk vn (decide_eq_true (by omega)) (decide_eq_false (by omega)) w
          · skip
            exact tHa6_2 k0 n0 k1 n1 k2 n2 k3 n3 k4 n4 k5 n5 k6 n6 k7 n7 c at_ vk vn (decide_eq_true (by omega)) (decide_eq_false (by omega)) (beq_eq_false_iff_ne.2 (by omega)) (decide_eq_true (by omega)) (decide_eq_false (by omega)) w
        · skip
          exact tHa6_3 k0 n0 k1 n1 k2 n2 k3 n3 k4 n4 k5 n5 k6 n6 k7 n7 c at_ vk vn (decide_eq_false (by omega)) (beq_eq_false_iff_ne.2 (by omega)) (decide_eq_true (by omega)) (decide_eq_false (by omega)) w
      · skip
        exact tHa6_4 k0 n0 k1 n1 k2 n2 k3 n3 k4 n4 k5 n5 k6 n6 k7 n7 b c at_ vk vn (decide_eq_true (by omega)) (decide_eq_false (by omega)) (beq_eq_false_iff_ne.2 (by omega)) (decide_eq_true (by omega)) (decide_eq_false (by omega)) w
    · skip
      exact tHa6_5 k0 n0 k1 n1 k2 n2 k3 n3 k4 n4 k5 n5 k6 n6 k7 n7 b c at_ vk vn (decide_eq_false (by omega)) (beq_eq_false_iff_ne.2 (by omega)) (decide_eq_true (by omega)) (decide_eq_false (by omega)) w
theorem tHa7 (k0 : Int) (n0 : Int) (k1 : Int) (n1 : Int) (k2 : Int) (n2 : Int) (k3 : Int) (n3 : Int) (k4 : Int) (n4 : Int) (k5 : Int) (n5 : Int) (k6 : Int) (n6 : Int) (k7 : Int) (n7 : Int) (op : Int) (b : Int) (c : Int) (at_ : Int) (vk : Int) (vn : Int) (hat : 7 < at_) (w : World) : Calls Try.prog 4 (tArgs k0 n0 k1 n1 k2 n2 k3 n3 k4 n4 k5 n5 k6 n6 k7 n7 op 7 b c at_ vk vn) w (Ret (.bool true) w) := by
  by_cases g0 : op ≠ 19
  · skip
    exact tHa7_0 k0 n0 k1 n1 k2 n2 k3 n3 k4 n4 k5 n5 k6 n6 k7 n7 op b c at_ vk vn (bne_iff_ne.2 (by omega)) (decide_eq_true (by omega)) (decide_eq_false (by omega)) w
  · skip
    obtain rfl : op = 19 := by omega
    by_cases g1 : (0 : Int) ≤ b
    · skip
      by_cases g2 : b ≤ 0
      · skip
        obtain rfl : b = 0 := by omega
        by_cases g3 : (0 : Int) ≤ c
        · skip
          by_cases g4 : c ≤ 0
          · skip
            obtain rfl : c = 0 := by omega
            exact tHa7_1 k0 n0 k1 n1 k2 n2 k3 n3 k4 n4 k5 n5 k6 n6 k7 n7 at_ vk vn (decide_eq_true (by omega)) (decide_eq_false (by omega)) w
          · skip
            exact tHa7_2 k0 n0 k1 n1 k2 n2 k3 n3 k4 n4 k5 n5 k6 n6 k7 n7 c at_ vk vn (decide_eq_true (by omega)) (decide_eq_false (by omega)) (beq_eq_false_iff_ne.2 (by omega)) (decide_eq_true (by omega)) (decide_eq_false (by omega)) w
        · skip
          exact tHa7_3 k0 n0 k1 n1 k2 n2 k3 n3 k4 n4 k5 n5 k6 n6 k7 n7 c at_ vk vn (decide_eq_false (by omega)) (beq_eq_false_iff_ne.2 (by omega)) (decide_eq_true (by omega)) (decide_eq_false (by omega)) w
      · skip
        exact tHa7_4 k0 n0 k1 n1 k2 n2 k3 n3 k4 n4 k5 n5 k6 n6 k7 n7 b c at_ vk vn (decide_eq_true (by omega)) (decide_eq_false (by omega)) (beq_eq_false_iff_ne.2 (by omega)) (decide_eq_true (by omega)) (decide_eq_false (by omega)) w
    · skip
      exact tHa7_5 k0 n0 k1 n1 k2 n2 k3 n3 k4 n4 k5 n5 k6 n6 k7 n7 b c at_ vk vn (decide_eq_false (by omega)) (beq_eq_false_iff_ne.2 (by omega)) (decide_eq_true (by omega)) (decide_eq_false (by omega)) w
theorem tHaL (k0 : Int) (n0 : Int) (k1 : Int) (n1 : Int) (k2 : Int) (n2 : Int) (k3 : Int) (n3 : Int) (k4 : Int) (n4 : Int) (k5 : Int) (n5 : Int) (k6 : Int) (n6 : Int) (k7 : Int) (n7 : Int) (op : Int) (a : Int) (b : Int) (c : Int) (at_ : Int) (vk : Int) (vn : Int) (hat : 7 < at_) (ha : a < 0) (w : World) : Calls Try.prog 4 (tArgs k0 n0 k1 n1 k2 n2 k3 n3 k4 n4 k5 n5 k6 n6 k7 n7 op a b c at_ vk vn) w (Ret (.bool true) w) := by
  by_cases g0 : op ≠ 19
  · skip
    exact tHaL_0 k0 n0 k1 n1 k2 n2 k3 n3 k4 n4 k5 n5 k6 n6 k7 n7 op a b c at_ vk vn (bne_iff_ne.2 (by omega)) (decide_eq_true (by omega)) (decide_eq_false (by omega)) w
  · skip
    obtain rfl : op = 19 := by omega
    exact tHaL_1 k0 n0 k1 n1 k2 n2 k3 n3 k4 n4 k5 n5 k6 n6 k7 n7 a b c at_ vk vn (decide_eq_false (by omega)) (decide_eq_false (by omega)) (decide_eq_true (by omega)) (decide_eq_false (by omega)) w
theorem tHaH (k0 : Int) (n0 : Int) (k1 : Int) (n1 : Int) (k2 : Int) (n2 : Int) (k3 : Int) (n3 : Int) (k4 : Int) (n4 : Int) (k5 : Int) (n5 : Int) (k6 : Int) (n6 : Int) (k7 : Int) (n7 : Int) (op : Int) (a : Int) (b : Int) (c : Int) (at_ : Int) (vk : Int) (vn : Int) (hat : 7 < at_) (ha : 7 < a) (w : World) : Calls Try.prog 4 (tArgs k0 n0 k1 n1 k2 n2 k3 n3 k4 n4 k5 n5 k6 n6 k7 n7 op a b c at_ vk vn) w (Ret (.bool true) w) := by
  by_cases g0 : op ≠ 19
  · skip
    exact tHaH_0 k0 n0 k1 n1 k2 n2 k3 n3 k4 n4 k5 n5 k6 n6 k7 n7 op a b c at_ vk vn (bne_iff_ne.2 (by omega)) (decide_eq_true (by omega)) (decide_eq_false (by omega)) w
  · skip
    obtain rfl : op = 19 := by omega
    exact tHaH_1 k0 n0 k1 n1 k2 n2 k3 n3 k4 n4 k5 n5 k6 n6 k7 n7 a b c at_ vk vn (decide_eq_true (by omega)) (decide_eq_false (by omega)) (decide_eq_true (by omega)) (decide_eq_false (by omega)) (decide_eq_true (by omega)) (decide_eq_false (by omega)) w
end Ev
end Go.Proofs.Ytnahodeffgoccaa
