/- Paths of a law, by the runner. -/
import Derived.Test.YtiiemakdpibncaaInsF0
namespace Go.Proofs.Ytiiemakdpibncaa
open Go.ChangeShapes Go.WideShapes Go.ChangeAt Go.RowKit
namespace Ev
set_option maxRecDepth 100000
theorem op12_0 (a : Int) (h0 : (decide ((0 : Int) ≤ a)) = true) (h1 : (decide (a ≤ 7)) = true) (h2 : (decide (a ≥ 0)) = true) (h3 : (decide (a < 8)) = true) (w : World) : Calls Try.prog 3 #[.agg #[.int .i64 12, .int .i64 a, .int .i64 0, .int .i64 0]] w (Ret (.bool true) w) :=
  ret_known knownA 10000 (args := #[.agg #[.int .i64 12, .int .i64 a, .int .i64 0, .int .i64 0]]) (orc := orcAt 0 [(5, true), (6, true), (34, true), (35, true)]) (ob := [(decide (a < 8), true), (decide (a ≥ 0), true), (decide (a ≤ 7), true), (decide ((0 : Int) ≤ a), true)]) w (by kernel_rfl) (obs_cons h3 (obs_cons h2 (obs_cons h1 (obs_cons h0 obs_nil)))) (VRl_cons (.aggl (VRl_cons (.atom rfl) (VRl_cons (.atom rfl) (VRl_cons (.atom rfl) (VRl_cons (.atom rfl) VRl_nil))))) VRl_nil)
theorem op12_1 (a : Int) (c : Int) (h0 : (decide ((0 : Int) ≤ a)) = true) (h1 : (decide (a ≤ 7)) = true) (h2 : (decide ((0 : Int) ≤ c)) = true) (h3 : (decide (c ≤ 0)) = false) (h4 : (decide (a ≥ 0)) = true) (h5 : (decide (a < 8)) = true) (h6 : (c == 0) = false) (w : World) : Calls Try.prog 3 #[.agg #[.int .i64 12, .int .i64 a, .int .i64 0, .int .i64 c]] w (Ret (.bool true) w) :=
  ret_known knownA 10000 (args := #[.agg #[.int .i64 12, .int .i64 a, .int .i64 0, .int .i64 c]]) (orc := orcAt 0 [(5, true), (6, true), (25, true), (26, false), (33, true), (34, true), (48, false)]) (ob := [(c == 0, false), (decide (a < 8), true), (decide (a ≥ 0), true), (decide (c ≤ 0), false), (decide ((0 : Int) ≤ c), true), (decide (a ≤ 7), true), (decide ((0 : Int) ≤ a), true)]) w (by kernel_rfl) (obs_cons h6 (obs_cons h5 (obs_cons h4 (obs_cons h3 (obs_cons h2 (obs_cons h1 (obs_cons h0 obs_nil))))))) (VRl_cons (.aggl (VRl_cons (.atom rfl) (VRl_cons (.atom rfl) (VRl_cons (.atom rfl) (VRl_cons (.atom rfl) VRl_nil))))) VRl_nil)
theorem op12_2 (a : Int) (c : Int) (h0 : (decide ((0 : Int) ≤ a)) = true) (h1 : (decide (a ≤ 7)) = true) (h2 : (decide ((0 : Int) ≤ c)) = false) (h3 : (decide (a ≥ 0)) = true) (h4 : (decide (a < 8)) = true) (h5 : (c == 0) = false) (w : World) : Calls Try.prog 3 #[.agg #[.int .i64 12, .int .i64 a, .int .i64 0, .int .i64 c]] w (Ret (.bool true) w) :=
  ret_known knownA 10000 (args := #[.agg #[.int .i64 12, .int .i64 a, .int .i64 0, .int .i64 c]]) (orc := orcAt 0 [(5, true), (6, true), (25, false), (32, true), (33, true), (47, false)]) (ob := [(c == 0, false), (decide (a < 8), true), (decide (a ≥ 0), true), (decide ((0 : Int) ≤ c), false), (decide (a ≤ 7), true), (decide ((0 : Int) ≤ a), true)]) w (by kernel_rfl) (obs_cons h5 (obs_cons h4 (obs_cons h3 (obs_cons h2 (obs_cons h1 (obs_cons h0 obs_nil)))))) (VRl_cons (.aggl (VRl_cons (.atom rfl) (VRl_cons (.atom rfl) (VRl_cons (.atom rfl) (VRl_cons (.atom rfl) VRl_nil))))) VRl_nil)
theorem op12_3 (a : Int) (b : Int) (c : Int) (h0 : (decide ((0 : Int) ≤ a)) = true) (h1 : (decide (a ≤ 7)) = true) (h2 : (decide ((0 : Int) ≤ b)) = true) (h3 : (decide (b ≤ 0)) = false) (h4 : (decide (a ≥ 0)) = true) (h5 : (decide (a < 8)) = true) (h6 : (b == 0) = false) (w : World) : Calls Try.prog 3 #[.agg #[.int .i64 12, .int .i64 a, .int .i64 b, .int .i64 c]] w (Ret (.bool true) w) :=
  ret_known knownA 10000 (args := #[.agg #[.int .i64 12, .int .i64 a, .int .i64 b, .int .i64 c]]) (orc := orcAt 0 [(5, true), (6, true), (15, true), (16, false), (23, true), (24, true), (31, false)]) (ob := [(b == 0, false), (decide (a < 8), true), (decide (a ≥ 0), true), (decide (b ≤ 0), false), (decide ((0 : Int) ≤ b), true), (decide (a ≤ 7), true), (decide ((0 : Int) ≤ a), true)]) w (by kernel_rfl) (obs_cons h6 (obs_cons h5 (obs_cons h4 (obs_cons h3 (obs_cons h2 (obs_cons h1 (obs_cons h0 obs_nil))))))) (VRl_cons (.aggl (VRl_cons (.atom rfl) (VRl_cons (.atom rfl) (VRl_cons (.atom rfl) (VRl_cons (.atom rfl) VRl_nil))))) VRl_nil)
theorem op12_4 (a : Int) (b : Int) (c : Int) (h0 : (decide ((0 : Int) ≤ a)) = true) (h1 : (decide (a ≤ 7)) = true) (h2 : (decide ((0 : Int) ≤ b)) = false) (h3 : (decide (a ≥ 0)) = true) (h4 : (decide (a < 8)) = true) (h5 : (b == 0) = false) (w : World) : Calls Try.prog 3 #[.agg #[.int .i64 12, .int .i64 a, .int .i64 b, .int .i64 c]] w (Ret (.bool true) w) :=
  ret_known knownA 10000 (args := #[.agg #[.int .i64 12, .int .i64 a, .int .i64 b, .int .i64 c]]) (orc := orcAt 0 [(5, true), (6, true), (15, false), (22, true), (23, true), (30, false)]) (ob := [(b == 0, false), (decide (a < 8), true), (decide (a ≥ 0), true), (decide ((0 : Int) ≤ b), false), (decide (a ≤ 7), true), (decide ((0 : Int) ≤ a), true)]) w (by kernel_rfl) (obs_cons h5 (obs_cons h4 (obs_cons h3 (obs_cons h2 (obs_cons h1 (obs_cons h0 obs_nil)))))) (VRl_cons (.aggl (VRl_cons (.atom rfl) (VRl_cons (.atom rfl) (VRl_cons (.atom rfl) (VRl_cons (.atom rfl) VRl_nil))))) VRl_nil)
theorem op12_5 (a : Int) (b : Int) (c : Int) (h0 : (decide ((0 : Int) ≤ a)) = true) (h1 : (decide (a ≤ 7)) = false) (h2 : (decide (a ≥ 0)) = true) (h3 : (decide (a < 8)) = false) (w : World) : Calls Try.prog 3 #[.agg #[.int .i64 12, .int .i64 a, .int .i64 b, .int .i64 c]] w (Ret (.bool true) w) :=
  ret_known knownA 10000 (args := #[.agg #[.int .i64 12, .int .i64 a, .int .i64 b, .int .i64 c]]) (orc := orcAt 0 [(5, true), (6, false), (13, true), (14, false)]) (ob := [(decide (a < 8), false), (decide (a ≥ 0), true), (decide (a ≤ 7), false), (decide ((0 : Int) ≤ a), true)]) w (by kernel_rfl) (obs_cons h3 (obs_cons h2 (obs_cons h1 (obs_cons h0 obs_nil)))) (VRl_cons (.aggl (VRl_cons (.atom rfl) (VRl_cons (.atom rfl) (VRl_cons (.atom rfl) (VRl_cons (.atom rfl) VRl_nil))))) VRl_nil)
theorem op12_6 (a : Int) (b : Int) (c : Int) (h0 : (decide ((0 : Int) ≤ a)) = false) (h1 : (decide (a ≥ 0)) = false) (w : World) : Calls Try.prog 3 #[.agg #[.int .i64 12, .int .i64 a, .int .i64 b, .int .i64 c]] w (Ret (.bool true) w) :=
  ret_known knownA 10000 (args := #[.agg #[.int .i64 12, .int .i64 a, .int .i64 b, .int .i64 c]]) (orc := orcAt 0 [(5, false), (12, false)]) (ob := [(decide (a ≥ 0), false), (decide ((0 : Int) ≤ a), false)]) w (by kernel_rfl) (obs_cons h1 (obs_cons h0 obs_nil)) (VRl_cons (.aggl (VRl_cons (.atom rfl) (VRl_cons (.atom rfl) (VRl_cons (.atom rfl) (VRl_cons (.atom rfl) VRl_nil))))) VRl_nil)
theorem op12 (a : Int) (b : Int) (c : Int)  (w : World) : Calls Try.prog 3 #[.agg #[.int .i64 12, .int .i64 a, .int .i64 b, .int .i64 c]] w (Ret (.bool true) w) := by
  by_cases g0 : (0 : Int) ≤ a
  · skip
    by_cases g1 : a ≤ 7
    · skip
      by_cases g2 : (0 : Int) ≤ b
      · skip
        by_cases g3 : b ≤ 0
        · skip
          obtain rfl : b = 0 := by omega
          by_cases g4 : (0 : Int) ≤ c
          · skip
            by_cases g5 : c ≤ 0
            · skip
              obtain rfl : c = 0 := by omega
              exact op12_0 a (decide_eq_true (by omega)) (decide_eq_true (by omega)) (decide_eq_true (by omega)) (decide_eq_true (by omega)) w
            · skip
              exact op12_1 a c (decide_eq_true (by omega)) (decide_eq_true (by omega)) (decide_eq_true (by omega)) (decide_eq_false (by omega)) (decide_eq_true (by omega)) (decide_eq_true (by omega)) (beq_eq_false_iff_ne.2 (by omega)) w
          · skip
            exact op12_2 a c (decide_eq_true (by omega)) (decide_eq_true (by omega)) (decide_eq_false (by omega)) (decide_eq_true (by omega)) (decide_eq_true (by omega)) (beq_eq_false_iff_ne.2 (by omega)) w
        · skip
          exact op12_3 a b c (decide_eq_true (by omega)) (decide_eq_true (by omega)) (decide_eq_true (by omega)) (decide_eq_false (by omega)) (decide_eq_true (by omega)) (decide_eq_true (by omega)) (beq_eq_false_iff_ne.2 (by omega)) w
      · skip
        exact op12_4 a b c (decide_eq_true (by omega)) (decide_eq_true (by omega)) (decide_eq_false (by omega)) (decide_eq_true (by omega)) (decide_eq_true (by omega)) (beq_eq_false_iff_ne.2 (by omega)) w
    · skip
      exact op12_5 a b c (decide_eq_true (by omega)) (decide_eq_false (by omega)) (decide_eq_true (by omega)) (decide_eq_false (by omega)) w
  · skip
    exact op12_6 a b c (decide_eq_false (by omega)) (decide_eq_false (by omega)) w
theorem op13_0 (a : Int) (b : Int) (c : Int) (h0 : (decide ((0 : Int) ≤ a)) = true) (h1 : (decide (a ≤ 7)) = true) (h2 : (decide ((0 : Int) ≤ b)) = true) (h3 : (decide (b ≤ 7)) = true) (h4 : (decide ((0 : Int) ≤ c)) = true) (h5 : (decide (c ≤ 15)) = true) (h6 : (decide (a ≥ 0)) = true) (h7 : (decide (a < 8)) = true) (h8 : (decide (b ≥ 0)) = true) (h9 : (decide (b < 8)) = true) (h10 : (decide (c ≥ 0)) = true) (h11 : (decide (c < 16)) = true) (w : World) : Calls Try.prog 3 #[.agg #[.int .i64 13, .int .i64 a, .int .i64 b, .int .i64 c]] w (Ret (.bool true) w) :=
  ret_known knownA 10000 (args := #[.agg #[.int .i64 13, .int .i64 a, .int .i64 b, .int .i64 c]]) (orc := orcAt 0 [(5, true), (6, true), (10, true), (11, true), (16, true), (17, true), (35, true), (36, true), (38, true), (39, true), (44, true), (45, true)]) (ob := [(decide (c < 16), true), (decide (c ≥ 0), true), (decide (b < 8), true), (decide (b ≥ 0), true), (decide (a < 8), true), (decide (a ≥ 0), true), (decide (c ≤ 15), true), (decide ((0 : Int) ≤ c), true), (decide (b ≤ 7), true), (decide ((0 : Int) ≤ b), true), (decide (a ≤ 7), true), (decide ((0 : Int) ≤ a), true)]) w (by kernel_rfl) (obs_cons h11 (obs_cons h10 (obs_cons h9 (obs_cons h8 (obs_cons h7 (obs_cons h6 (obs_cons h5 (obs_cons h4 (obs_cons h3 (obs_cons h2 (obs_cons h1 (obs_cons h0 obs_nil)))))))))))) (VRl_cons (.aggl (VRl_cons (.atom rfl) (VRl_cons (.atom rfl) (VRl_cons (.atom rfl) (VRl_cons (.atom rfl) VRl_nil))))) VRl_nil)
theorem op13_1 (a : Int) (b : Int) (c : Int) (h0 : (decide ((0 : Int) ≤ a)) = true) (h1 : (decide (a ≤ 7)) = true) (h2 : (decide ((0 : Int) ≤ b)) = true) (h3 : (decide (b ≤ 7)) = true) (h4 : (decide ((0 : Int) ≤ c)) = true) (h5 : (decide (c ≤ 15)) = false) (h6 : (decide (a ≥ 0)) = true) (h7 : (decide (a < 8)) = true) (h8 : (decide (b ≥ 0)) = true) (h9 : (decide (b < 8)) = true) (h10 : (decide (c ≥ 0)) = true) (h11 : (decide (c < 16)) = false) (w : World) : Calls Try.prog 3 #[.agg #[.int .i64 13, .int .i64 a, .int .i64 b, .int .i64 c]] w (Ret (.bool true) w) :=
  ret_known knownA 10000 (args := #[.agg #[.int .i64 13, .int .i64 a, .int .i64 b, .int .i64 c]]) (orc := orcAt 0 [(5, true), (6, true), (10, true), (11, true), (16, true), (17, false), (34, true), (35, true), (37, true), (38, true), (43, true), (44, false)]) (ob := [(decide (c < 16), false), (decide (c ≥ 0), true), (decide (b < 8), true), (decide (b ≥ 0), true), (decide (a < 8), true), (decide (a ≥ 0), true), (decide (c ≤ 15), false), (decide ((0 : Int) ≤ c), true), (decide (b ≤ 7), true), (decide ((0 : Int) ≤ b), true), (decide (a ≤ 7), true), (decide ((0 : Int) ≤ a), true)]) w (by kernel_rfl) (obs_cons h11 (obs_cons h10 (obs_cons h9 (obs_cons h8 (obs_cons h7 (obs_cons h6 (obs_cons h5 (obs_cons h4 (obs_cons h3 (obs_cons h2 (obs_cons h1 (obs_cons h0 obs_nil)))))))))))) (VRl_cons (.aggl (VRl_cons (.atom rfl) (VRl_cons (.atom rfl) (VRl_cons (.atom rfl) (VRl_cons (.atom rfl) VRl_nil))))) VRl_nil)
theorem op13_2 (a : Int) (b : Int) (c : Int) (h0 : (decide ((0 : Int) ≤ a)) = true) (h1 : (decide (a ≤ 7)) = true) (h2 : (decide ((0 : Int) ≤ b)) = true) (h3 : (decide (b ≤ 7)) = true) (h4 : (decide ((0 : Int) ≤ c)) = false) (h5 : (decide (a ≥ 0)) = true) (h6 : (decide (a < 8)) = true) (h7 : (decide (b ≥ 0)) = true) (h8 : (decide (b < 8)) = true) (h9 : (decide (c ≥ 0)) = false) (w : World) : Calls Try.prog 3 #[.agg #[.int .i64 13, .int .i64 a, .int .i64 b, .int .i64 c]] w (Ret (.bool true) w) :=
  ret_known knownA 10000 (args := #[.agg #[.int .i64 13, .int .i64 a, .int .i64 b, .int .i64 c]]) (orc := orcAt 0 [(5, true), (6, true), (10, true), (11, true), (16, false), (33, true), (34, true), (36, true), (37, true), (42, false)]) (ob := [(decide (c ≥ 0), false), (decide (b < 8), true), (decide (b ≥ 0), true), (decide (a < 8), true), (decide (a ≥ 0), true), (decide ((0 : Int) ≤ c), false), (decide (b ≤ 7), true), (decide ((0 : Int) ≤ b), true), (decide (a ≤ 7), true), (decide ((0 : Int) ≤ a), true)]) w (by kernel_rfl) (obs_cons h9 (obs_cons h8 (obs_cons h7 (obs_cons h6 (obs_cons h5 (obs_cons h4 (obs_cons h3 (obs_cons h2 (obs_cons h1 (obs_cons h0 obs_nil)))))))))) (VRl_cons (.aggl (VRl_cons (.atom rfl) (VRl_cons (.atom rfl) (VRl_cons (.atom rfl) (VRl_cons (.atom rfl) VRl_nil))))) VRl_nil)
theorem op13_3 (a : Int) (b : Int) (c : Int) (h0 : (decide ((0 : Int) ≤ a)) = true) (h1 : (decide (a ≤ 7)) = true) (h2 : (decide ((0 : Int) ≤ b)) = true) (h3 : (decide (b ≤ 7)) = false) (h4 : (decide (a ≥ 0)) = true) (h5 : (decide (a < 8)) = true) (h6 : (decide (b ≥ 0)) = true) (h7 : (decide (b < 8)) = false) (w : World) : Calls Try.prog 3 #[.agg #[.int .i64 13, .int .i64 a, .int .i64 b, .int .i64 c]] w (Ret (.bool true) w) :=
  ret_known knownA 10000 (args := #[.agg #[.int .i64 13, .int .i64 a, .int .i64 b, .int .i64 c]]) (orc := orcAt 0 [(5, true), (6, true), (10, true), (11, false), (28, true), (29, true), (31, true), (32, false)]) (ob := [(decide (b < 8), false), (decide (b ≥ 0), true), (decide (a < 8), true), (decide (a ≥ 0), true), (decide (b ≤ 7), false), (decide ((0 : Int) ≤ b), true), (decide (a ≤ 7), true), (decide ((0 : Int) ≤ a), true)]) w (by kernel_rfl) (obs_cons h7 (obs_cons h6 (obs_cons h5 (obs_cons h4 (obs_cons h3 (obs_cons h2 (obs_cons h1 (obs_cons h0 obs_nil)))))))) (VRl_cons (.aggl (VRl_cons (.atom rfl) (VRl_cons (.atom rfl) (VRl_cons (.atom rfl) (VRl_cons (.atom rfl) VRl_nil))))) VRl_nil)
theorem op13_4 (a : Int) (b : Int) (c : Int) (h0 : (decide ((0 : Int) ≤ a)) = true) (h1 : (decide (a ≤ 7)) = true) (h2 : (decide ((0 : Int) ≤ b)) = false) (h3 : (decide (a ≥ 0)) = true) (h4 : (decide (a < 8)) = true) (h5 : (decide (b ≥ 0)) = false) (w : World) : Calls Try.prog 3 #[.agg #[.int .i64 13, .int .i64 a, .int .i64 b, .int .i64 c]] w (Ret (.bool true) w) :=
  ret_known knownA 10000 (args := #[.agg #[.int .i64 13, .int .i64 a, .int .i64 b, .int .i64 c]]) (orc := orcAt 0 [(5, true), (6, true), (10, false), (27, true), (28, true), (30, false)]) (ob := [(decide (b ≥ 0), false), (decide (a < 8), true), (decide (a ≥ 0), true), (decide ((0 : Int) ≤ b), false), (decide (a ≤ 7), true), (decide ((0 : Int) ≤ a), true)]) w (by kernel_rfl) (obs_cons h5 (obs_cons h4 (obs_cons h3 (obs_cons h2 (obs_cons h1 (obs_cons h0 obs_nil)))))) (VRl_cons (.aggl (VRl_cons (.atom rfl) (VRl_cons (.atom rfl) (VRl_cons (.atom rfl) (VRl_cons (.atom rfl) VRl_nil))))) VRl_nil)
theorem op13_5 (a : Int) (b : Int) (c : Int) (h0 : (decide ((0 : Int) ≤ a)) = true) (h1 : (decide (a ≤ 7)) = false) (h2 : (decide (a ≥ 0)) = true) (h3 : (decide (a < 8)) = false) (w : World) : Calls Try.prog 3 #[.agg #[.int .i64 13, .int .i64 a, .int .i64 b, .int .i64 c]] w (Ret (.bool true) w) :=
  ret_known knownA 10000 (args := #[.agg #[.int .i64 13, .int .i64 a, .int .i64 b, .int .i64 c]]) (orc := orcAt 0 [(5, true), (6, false), (23, true), (24, false)]) (ob := [(decide (a < 8), false), (decide (a ≥ 0), true), (decide (a ≤ 7), false), (decide ((0 : Int) ≤ a), true)]) w (by kernel_rfl) (obs_cons h3 (obs_cons h2 (obs_cons h1 (obs_cons h0 obs_nil)))) (VRl_cons (.aggl (VRl_cons (.atom rfl) (VRl_cons (.atom rfl) (VRl_cons (.atom rfl) (VRl_cons (.atom rfl) VRl_nil))))) VRl_nil)
theorem op13_6 (a : Int) (b : Int) (c : Int) (h0 : (decide ((0 : Int) ≤ a)) = false) (h1 : (decide (a ≥ 0)) = false) (w : World) : Calls Try.prog 3 #[.agg #[.int .i64 13, .int .i64 a, .int .i64 b, .int .i64 c]] w (Ret (.bool true) w) :=
  ret_known knownA 10000 (args := #[.agg #[.int .i64 13, .int .i64 a, .int .i64 b, .int .i64 c]]) (orc := orcAt 0 [(5, false), (22, false)]) (ob := [(decide (a ≥ 0), false), (decide ((0 : Int) ≤ a), false)]) w (by kernel_rfl) (obs_cons h1 (obs_cons h0 obs_nil)) (VRl_cons (.aggl (VRl_cons (.atom rfl) (VRl_cons (.atom rfl) (VRl_cons (.atom rfl) (VRl_cons (.atom rfl) VRl_nil))))) VRl_nil)
theorem op13 (a : Int) (b : Int) (c : Int)  (w : World) : Calls Try.prog 3 #[.agg #[.int .i64 13, .int .i64 a, .int .i64 b, .int .i64 c]] w (Ret (.bool true) w) := by
  by_cases g0 : (0 : Int) ≤ a
  · skip
    by_cases g1 : a ≤ 7
    · skip
      by_cases g2 : (0 : Int) ≤ b
      · skip
        by_cases g3 : b ≤ 7
        · skip
          by_cases g4 : (0 : Int) ≤ c
          · skip
            by_cases g5 : c ≤ 15
            · skip
              exact op13_0 a b c (decide_eq_true (by omega)) (decide_eq_true (by omega)) (decide_eq_true (by omega)) (decide_eq_true (by omega)) (decide_eq_true (by omega)) (decide_eq_true (by omega)) (decide_eq_true (by omega)) (decide_eq_true (by omega)) (decide_eq_true (by omega)) (decide_eq_true (by omega)) (decide_eq_true (by omega)) (decide_eq_true (by omega)) w
            · skip
              exact op13_1 a b c (decide_eq_true (by omega)) (decide_eq_true (by omega)) (decide_eq_true (by omega)) (decide_eq_true (by omega)) (decide_eq_true (by omega)) (decide_eq_false (by omega)) (decide_eq_true (by omega)) (decide_eq_true (by omega)) (decide_eq_true (by omega)) (decide_eq_true (by omega)) (decide_eq_true (by omega)) (decide_eq_false (by omega)) w
          · skip
            exact op13_2 a b c (decide_eq_true (by omega)) (decide_eq_true (by omega)) (decide_eq_true (by omega)) (decide_eq_true (by omega)) (decide_eq_false (by omega)) (decide_eq_true (by omega)) (decide_eq_true (by omega)) (decide_eq_true (by omega)) (decide_eq_true (by omega)) (decide_eq_false (by omega)) w
        · skip
          exact op13_3 a b c (decide_eq_true (by omega)) (decide_eq_true (by omega)) (decide_eq_true (by omega)) (decide_eq_false (by omega)) (decide_eq_true (by omega)) (decide_eq_true (by omega)) (decide_eq_true (by omega)) (decide_eq_false (by omega)) w
      · skip
        exact op13_4 a b c (decide_eq_true (by omega)) (decide_eq_true (by omega)) (decide_eq_false (by omega)) (decide_eq_true (by omega)) (decide_eq_true (by omega)) (decide_eq_false (by omega)) w
    · skip
      exact op13_5 a b c (decide_eq_true (by omega)) (decide_eq_false (by omega)) (decide_eq_true (by omega)) (decide_eq_false (by omega)) w
  · skip
    exact op13_6 a b c (decide_eq_false (by omega)) (decide_eq_false (by omega)) w
theorem op14_0 (a : Int) (b : Int) (c : Int) (h0 : (decide ((0 : Int) ≤ a)) = true) (h1 : (decide (a ≤ 7)) = true) (h2 : (decide ((0 : Int) ≤ b)) = true) (h3 : (decide (b ≤ 15)) = true) (h4 : (decide ((0 : Int) ≤ c)) = true) (h5 : (decide (c ≤ 7)) = true) (h6 : (decide (a ≥ 0)) = true) (h7 : (decide (a < 8)) = true) (h8 : (decide (b ≥ 0)) = true) (h9 : (decide (b < 16)) = true) (h10 : (decide (c ≥ 0)) = true) (h11 : (decide (c < 8)) = true) (w : World) : Calls Try.prog 3 #[.agg #[.int .i64 14, .int .i64 a, .int .i64 b, .int .i64 c]] w (Ret (.bool true) w) :=
  ret_known knownA 10000 (args := #[.agg #[.int .i64 14, .int .i64 a, .int .i64 b, .int .i64 c]]) (orc := orcAt 0 [(5, true), (6, true), (11, true), (12, true), (16, true), (17, true), (36, true), (37, true), (42, true), (43, true), (45, true), (46, true)]) (ob := [(decide (c < 8), true), (decide (c ≥ 0), true), (decide (b < 16), true), (decide (b ≥ 0), true), (decide (a < 8), true), (decide (a ≥ 0), true), (decide (c ≤ 7), true), (decide ((0 : Int) ≤ c), true), (decide (b ≤ 15), true), (decide ((0 : Int) ≤ b), true), (decide (a ≤ 7), true), (decide ((0 : Int) ≤ a), true)]) w (by kernel_rfl) (obs_cons h11 (obs_cons h10 (obs_cons h9 (obs_cons h8 (obs_cons h7 (obs_cons h6 (obs_cons h5 (obs_cons h4 (obs_cons h3 (obs_cons h2 (obs_cons h1 (obs_cons h0 obs_nil)))))))))))) (VRl_cons (.aggl (VRl_cons (.atom rfl) (VRl_cons (.atom rfl) (VRl_cons (.atom rfl) (VRl_cons (.atom rfl) VRl_nil))))) VRl_nil)
theorem op14_1 (a : Int) (b : Int) (c : Int) (h0 : (decide ((0 : Int) ≤ a)) = true) (h1 : (decide (a ≤ 7)) = true) (h2 : (decide ((0 : Int) ≤ b)) = true) (h3 : (decide (b ≤ 15)) = true) (h4 : (decide ((0 : Int) ≤ c)) = true) (h5 : (decide (c ≤ 7)) = false) (h6 : (decide (a ≥ 0)) = true) (h7 : (decide (a < 8)) = true) (h8 : (decide (b ≥ 0)) = true) (h9 : (decide (b < 16)) = true) (h10 : (decide (c ≥ 0)) = true) (h11 : (decide (c < 8)) = false) (w : World) : Calls Try.prog 3 #[.agg #[.int .i64 14, .int .i64 a, .int .i64 b, .int .i64 c]] w (Ret (.bool true) w) :=
  ret_known knownA 10000 (args := #[.agg #[.int .i64 14, .int .i64 a, .int .i64 b, .int .i64 c]]) (orc := orcAt 0 [(5, true), (6, true), (11, true), (12, true), (16, true), (17, false), (35, true), (36, true), (41, true), (42, true), (44, true), (45, false)]) (ob := [(decide (c < 8), false), (decide (c ≥ 0), true), (decide (b < 16), true), (decide (b ≥ 0), true), (decide (a < 8), true), (decide (a ≥ 0), true), (decide (c ≤ 7), false), (decide ((0 : Int) ≤ c), true), (decide (b ≤ 15), true), (decide ((0 : Int) ≤ b), true), (decide (a ≤ 7), true), (decide ((0 : Int) ≤ a), true)]) w (by kernel_rfl) (obs_cons h11 (obs_cons h10 (obs_cons h9 (obs_cons h8 (obs_cons h7 (obs_cons h6 (obs_cons h5 (obs_cons h4 (obs_cons h3 (obs_cons h2 (obs_cons h1 (obs_cons h0 obs_nil)))))))))))) (VRl_cons (.aggl (VRl_cons (.atom rfl) (VRl_cons (.atom rfl) (VRl_cons (.atom rfl) (VRl_cons (.atom rfl) VRl_nil))))) VRl_nil)
theorem op14_2 (a : Int) (b : Int) (c : Int) (h0 : (decide ((0 : Int) ≤ a)) = true) (h1 : (decide (a ≤ 7)) = true) (h2 : (decide ((0 : Int) ≤ b)) = true) (h3 : (decide (b ≤ 15)) = true) (h4 : (decide ((0 : Int) ≤ c)) = false) (h5 : (decide (a ≥ 0)) = true) (h6 : (decide (a < 8)) = true) (h7 : (decide (b ≥ 0)) = true) (h8 : (decide (b < 16)) = true) (h9 : (decide (c ≥ 0)) = false) (w : World) : Calls Try.prog 3 #[.agg #[.int .i64 14, .int .i64 a, .int .i64 b, .int .i64 c]] w (Ret (.bool true) w) :=
  ret_known knownA 10000 (args := #[.agg #[.int .i64 14, .int .i64 a, .int .i64 b, .int .i64 c]]) (orc := orcAt 0 [(5, true), (6, true), (11, true), (12, true), (16, false), (34, true), (35, true), (40, true), (41, true), (43, false)]) (ob := [(decide (c ≥ 0), false), (decide (b < 16), true), (decide (b ≥ 0), true), (decide (a < 8), true), (decide (a ≥ 0), true), (decide ((0 : Int) ≤ c), false), (decide (b ≤ 15), true), (decide ((0 : Int) ≤ b), true), (decide (a ≤ 7), true), (decide ((0 : Int) ≤ a), true)]) w (by kernel_rfl) (obs_cons h9 (obs_cons h8 (obs_cons h7 (obs_cons h6 (obs_cons h5 (obs_cons h4 (obs_cons h3 (obs_cons h2 (obs_cons h1 (obs_cons h0 obs_nil)))))))))) (VRl_cons (.aggl (VRl_cons (.atom rfl) (VRl_cons (.atom rfl) (VRl_cons (.atom rfl) (VRl_cons (.atom rfl) VRl_nil))))) VRl_nil)
theorem op14_3 (a : Int) (b : Int) (c : Int) (h0 : (decide ((0 : Int) ≤ a)) = true) (h1 : (decide (a ≤ 7)) = true) (h2 : (decide ((0 : Int) ≤ b)) = true) (h3 : (decide (b ≤ 15)) = false) (h4 : (decide (a ≥ 0)) = true) (h5 : (decide (a < 8)) = true) (h6 : (decide (b ≥ 0)) = true) (h7 : (decide (b < 16)) = false) (w : World) : Calls Try.prog 3 #[.agg #[.int .i64 14, .int .i64 a, .int .i64 b, .int .i64 c]] w (Ret (.bool true) w) :=
  ret_known knownA 10000 (args := #[.agg #[.int .i64 14, .int .i64 a, .int .i64 b, .int .i64 c]]) (orc := orcAt 0 [(5, true), (6, true), (11, true), (12, false), (30, true), (31, true), (36, true), (37, false)]) (ob := [(decide (b < 16), false), (decide (b ≥ 0), true), (decide (a < 8), true), (decide (a ≥ 0), true), (decide (b ≤ 15), false), (decide ((0 : Int) ≤ b), true), (decide (a ≤ 7), true), (decide ((0 : Int) ≤ a), true)]) w (by kernel_rfl) (obs_cons h7 (obs_cons h6 (obs_cons h5 (obs_cons h4 (obs_cons h3 (obs_cons h2 (obs_cons h1 (obs_cons h0 obs_nil)))))))) (VRl_cons (.aggl (VRl_cons (.atom rfl) (VRl_cons (.atom rfl) (VRl_cons (.atom rfl) (VRl_cons (.atom rfl) VRl_nil))))) VRl_nil)
theorem op14_4 (a : Int) (b : Int) (c : Int) (h0 : (decide ((0 : Int) ≤ a)) = true) (h1 : (decide (a ≤ 7)) = true) (h2 : (decide ((0 : Int) ≤ b)) = false) (h3 : (decide (a ≥ 0)) = true) (h4 : (decide (a < 8)) = true) (h5 : (decide (b ≥ 0)) = false) (w : World) : Calls Try.prog 3 #[.agg #[.int .i64 14, .int .i64 a, .int .i64 b, .int .i64 c]] w (Ret (.bool true) w) :=
  ret_known knownA 10000 (args := #[.agg #[.int .i64 14, .int .i64 a, .int .i64 b, .int .i64 c]]) (orc := orcAt 0 [(5, true), (6, true), (11, false), (29, true), (30, true), (35, false)]) (ob := [(decide (b ≥ 0), false), (decide (a < 8), true), (decide (a ≥ 0), true), (decide ((0 : Int) ≤ b), false), (decide (a ≤ 7), true), (decide ((0 : Int) ≤ a), true)]) w (by kernel_rfl) (obs_cons h5 (obs_cons h4 (obs_cons h3 (obs_cons h2 (obs_cons h1 (obs_cons h0 obs_nil)))))) (VRl_cons (.aggl (VRl_cons (.atom rfl) (VRl_cons (.atom rfl) (VRl_cons (.atom rfl) (VRl_cons (.atom rfl) VRl_nil))))) VRl_nil)
theorem op14_5 (a : Int) (b : Int) (c : Int) (h0 : (decide ((0 : Int) ≤ a)) = true) (h1 : (decide (a ≤ 7)) = false) (h2 : (decide (a ≥ 0)) = true) (h3 : (decide (a < 8)) = false) (w : World) : Calls Try.prog 3 #[.agg #[.int .i64 14, .int .i64 a, .int .i64 b, .int .i64 c]] w (Ret (.bool true) w) :=
  ret_known knownA 10000 (args := #[.agg #[.int .i64 14, .int .i64 a, .int .i64 b, .int .i64 c]]) (orc := orcAt 0 [(5, true), (6, false), (24, true), (25, false)]) (ob := [(decide (a < 8), false), (decide (a ≥ 0), true), (decide (a ≤ 7), false), (decide ((0 : Int) ≤ a), true)]) w (by kernel_rfl) (obs_cons h3 (obs_cons h2 (obs_cons h1 (obs_cons h0 obs_nil)))) (VRl_cons (.aggl (VRl_cons (.atom rfl) (VRl_cons (.atom rfl) (VRl_cons (.atom rfl) (VRl_cons (.atom rfl) VRl_nil))))) VRl_nil)
theorem op14_6 (a : Int) (b : Int) (c : Int) (h0 : (decide ((0 : Int) ≤ a)) = false) (h1 : (decide (a ≥ 0)) = false) (w : World) : Calls Try.prog 3 #[.agg #[.int .i64 14, .int .i64 a, .int .i64 b, .int .i64 c]] w (Ret (.bool true) w) :=
  ret_known knownA 10000 (args := #[.agg #[.int .i64 14, .int .i64 a, .int .i64 b, .int .i64 c]]) (orc := orcAt 0 [(5, false), (23, false)]) (ob := [(decide (a ≥ 0), false), (decide ((0 : Int) ≤ a), false)]) w (by kernel_rfl) (obs_cons h1 (obs_cons h0 obs_nil)) (VRl_cons (.aggl (VRl_cons (.atom rfl) (VRl_cons (.atom rfl) (VRl_cons (.atom rfl) (VRl_cons (.atom rfl) VRl_nil))))) VRl_nil)
theorem op14 (a : Int) (b : Int) (c : Int)  (w : World) : Calls Try.prog 3 #[.agg #[.int .i64 14, .int .i64 a, .int .i64 b, .int .i64 c]] w (Ret (.bool true) w) := by
  by_cases g0 : (0 : Int) ≤ a
  · skip
    by_cases g1 : a ≤ 7
    · skip
      by_cases g2 : (0 : Int) ≤ b
      · skip
        by_cases g3 : b ≤ 15
        · skip
          by_cases g4 : (0 : Int) ≤ c
          · skip
            by_cases g5 : c ≤ 7
            · skip
              exact op14_0 a b c (decide_eq_true (by omega)) (decide_eq_true (by omega)) (decide_eq_true (by omega)) (decide_eq_true (by omega)) (decide_eq_true (by omega)) (decide_eq_true (by omega)) (decide_eq_true (by omega)) (decide_eq_true (by omega)) (decide_eq_true (by omega)) (decide_eq_true (by omega)) (decide_eq_true (by omega)) (decide_eq_true (by omega)) w
            · skip
              exact op14_1 a b c (decide_eq_true (by omega)) (decide_eq_true (by omega)) (decide_eq_true (by omega)) (decide_eq_true (by omega)) (decide_eq_true (by omega)) (decide_eq_false (by omega)) (decide_eq_true (by omega)) (decide_eq_true (by omega)) (decide_eq_true (by omega)) (decide_eq_true (by omega)) (decide_eq_true (by omega)) (decide_eq_false (by omega)) w
          · skip
            exact op14_2 a b c (decide_eq_true (by omega)) (decide_eq_true (by omega)) (decide_eq_true (by omega)) (decide_eq_true (by omega)) (decide_eq_false (by omega)) (decide_eq_true (by omega)) (decide_eq_true (by omega)) (decide_eq_true (by omega)) (decide_eq_true (by omega)) (decide_eq_false (by omega)) w
        · skip
          exact op14_3 a b c (decide_eq_true (by omega)) (decide_eq_true (by omega)) (decide_eq_true (by omega)) (decide_eq_false (by omega)) (decide_eq_true (by omega)) (decide_eq_true (by omega)) (decide_eq_true (by omega)) (decide_eq_false (by omega)) w
      · skip
        exact op14_4 a b c (decide_eq_true (by omega)) (decide_eq_true (by omega)) (decide_eq_false (by omega)) (decide_eq_true (by omega)) (decide_eq_true (by omega)) (decide_eq_false (by omega)) w
    · skip
      exact op14_5 a b c (decide_eq_true (by omega)) (decide_eq_false (by omega)) (decide_eq_true (by omega)) (decide_eq_false (by omega)) w
  · skip
    exact op14_6 a b c (decide_eq_false (by omega)) (decide_eq_false (by omega)) w
theorem op15_0   (w : World) : Calls Try.prog 3 #[.agg #[.int .i64 15, .int .i64 0, .int .i64 0, .int .i64 0]] w (Ret (.bool true) w) :=
  ret_known knownA 10000 (args := #[.agg #[.int .i64 15, .int .i64 0, .int .i64 0, .int .i64 0]]) (orc := orcAt 0 []) (ob := []) w (by kernel_rfl) obs_nil (VRl_cons (.aggl (VRl_cons (.atom rfl) (VRl_cons (.atom rfl) (VRl_cons (.atom rfl) (VRl_cons (.atom rfl) VRl_nil))))) VRl_nil)
theorem op15_1 (c : Int) (h0 : (decide ((0 : Int) ≤ c)) = true) (h1 : (decide (c ≤ 0)) = false) (h2 : (c == 0) = false) (w : World) : Calls Try.prog 3 #[.agg #[.int .i64 15, .int .i64 0, .int .i64 0, .int .i64 c]] w (Ret (.bool true) w) :=
  ret_known knownA 10000 (args := #[.agg #[.int .i64 15, .int .i64 0, .int .i64 0, .int .i64 c]]) (orc := orcAt 0 [(30, true), (31, false), (69, false)]) (ob := [(c == 0, false), (decide (c ≤ 0), false), (decide ((0 : Int) ≤ c), true)]) w (by kernel_rfl) (obs_cons h2 (obs_cons h1 (obs_cons h0 obs_nil))) (VRl_cons (.aggl (VRl_cons (.atom rfl) (VRl_cons (.atom rfl) (VRl_cons (.atom rfl) (VRl_cons (.atom rfl) VRl_nil))))) VRl_nil)
theorem op15_2 (c : Int) (h0 : (decide ((0 : Int) ≤ c)) = false) (h1 : (c == 0) = false) (w : World) : Calls Try.prog 3 #[.agg #[.int .i64 15, .int .i64 0, .int .i64 0, .int .i64 c]] w (Ret (.bool true) w) :=
  ret_known knownA 10000 (args := #[.agg #[.int .i64 15, .int .i64 0, .int .i64 0, .int .i64 c]]) (orc := orcAt 0 [(30, false), (68, false)]) (ob := [(c == 0, false), (decide ((0 : Int) ≤ c), false)]) w (by kernel_rfl) (obs_cons h1 (obs_cons h0 obs_nil)) (VRl_cons (.aggl (VRl_cons (.atom rfl) (VRl_cons (.atom rfl) (VRl_cons (.atom rfl) (VRl_cons (.atom rfl) VRl_nil))))) VRl_nil)
theorem op15_3 (b : Int) (c : Int) (h0 : (decide ((0 : Int) ≤ b)) = true) (h1 : (decide (b ≤ 0)) = false) (h2 : (b == 0) = false) (w : World) : Calls Try.prog 3 #[.agg #[.int .i64 15, .int .i64 0, .int .i64 b, .int .i64 c]] w (Ret (.bool true) w) :=
  ret_known knownA 10000 (args := #[.agg #[.int .i64 15, .int .i64 0, .int .i64 b, .int .i64 c]]) (orc := orcAt 0 [(20, true), (21, false), (52, false)]) (ob := [(b == 0, false), (decide (b ≤ 0), false), (decide ((0 : Int) ≤ b), true)]) w (by kernel_rfl) (obs_cons h2 (obs_cons h1 (obs_cons h0 obs_nil))) (VRl_cons (.aggl (VRl_cons (.atom rfl) (VRl_cons (.atom rfl) (VRl_cons (.atom rfl) (VRl_cons (.atom rfl) VRl_nil))))) VRl_nil)
theorem op15_4 (b : Int) (c : Int) (h0 : (decide ((0 : Int) ≤ b)) = false) (h1 : (b == 0) = false) (w : World) : Calls Try.prog 3 #[.agg #[.int .i64 15, .int .i64 0, .int .i64 b, .int .i64 c]] w (Ret (.bool true) w) :=
  ret_known knownA 10000 (args := #[.agg #[.int .i64 15, .int .i64 0, .int .i64 b, .int .i64 c]]) (orc := orcAt 0 [(20, false), (51, false)]) (ob := [(b == 0, false), (decide ((0 : Int) ≤ b), false)]) w (by kernel_rfl) (obs_cons h1 (obs_cons h0 obs_nil)) (VRl_cons (.aggl (VRl_cons (.atom rfl) (VRl_cons (.atom rfl) (VRl_cons (.atom rfl) (VRl_cons (.atom rfl) VRl_nil))))) VRl_nil)
theorem op15_5 (a : Int) (b : Int) (c : Int) (h0 : (decide ((0 : Int) ≤ a)) = true) (h1 : (decide (a ≤ 0)) = false) (h2 : (a == 0) = false) (w : World) : Calls Try.prog 3 #[.agg #[.int .i64 15, .int .i64 a, .int .i64 b, .int .i64 c]] w (Ret (.bool true) w) :=
  ret_known knownA 10000 (args := #[.agg #[.int .i64 15, .int .i64 a, .int .i64 b, .int .i64 c]]) (orc := orcAt 0 [(10, true), (11, false), (35, false)]) (ob := [(a == 0, false), (decide (a ≤ 0), false), (decide ((0 : Int) ≤ a), true)]) w (by kernel_rfl) (obs_cons h2 (obs_cons h1 (obs_cons h0 obs_nil))) (VRl_cons (.aggl (VRl_cons (.atom rfl) (VRl_cons (.atom rfl) (VRl_cons (.atom rfl) (VRl_cons (.atom rfl) VRl_nil))))) VRl_nil)
theorem op15_6 (a : Int) (b : Int) (c : Int) (h0 : (decide ((0 : Int) ≤ a)) = false) (h1 : (a == 0) = false) (w : World) : Calls Try.prog 3 #[.agg #[.int .i64 15, .int .i64 a, .int .i64 b, .int .i64 c]] w (Ret (.bool true) w) :=
  ret_known knownA 10000 (args := #[.agg #[.int .i64 15, .int .i64 a, .int .i64 b, .int .i64 c]]) (orc := orcAt 0 [(10, false), (34, false)]) (ob := [(a == 0, false), (decide ((0 : Int) ≤ a), false)]) w (by kernel_rfl) (obs_cons h1 (obs_cons h0 obs_nil)) (VRl_cons (.aggl (VRl_cons (.atom rfl) (VRl_cons (.atom rfl) (VRl_cons (.atom rfl) (VRl_cons (.atom rfl) VRl_nil))))) VRl_nil)
theorem op15 (a : Int) (b : Int) (c : Int)  (w : World) : Calls Try.prog 3 #[.agg #[.int .i64 15, .int .i64 a, .int .i64 b, .int .i64 c]] w (Ret (.bool true) w) := by
  by_cases g0 : (0 : Int) ≤ a
  · skip
    by_cases g1 : a ≤ 0
    · skip
      obtain rfl : a = 0 := by omega
      by_cases g2 : (0 : Int) ≤ b
      · skip
        by_cases g3 : b ≤ 0
        · skip
          obtain rfl : b = 0 := by omega
          by_cases g4 : (0 : Int) ≤ c
          · skip
            by_cases g5 : c ≤ 0
            · skip
              obtain rfl : c = 0 := by omega
              exact op15_0   w
            · skip
              exact op15_1 c (decide_eq_true (by omega)) (decide_eq_false (by omega)) (beq_eq_false_iff_ne.2 (by omega)) w
          · skip
            exact op15_2 c (decide_eq_false (by omega)) (beq_eq_false_iff_ne.2 (by omega)) w
        · skip
          exact op15_3 b c (decide_eq_true (by omega)) (decide_eq_false (by omega)) (beq_eq_false_iff_ne.2 (by omega)) w
      · skip
        exact op15_4 b c (decide_eq_false (by omega)) (beq_eq_false_iff_ne.2 (by omega)) w
    · skip
      exact op15_5 a b c (decide_eq_true (by omega)) (decide_eq_false (by omega)) (beq_eq_false_iff_ne.2 (by omega)) w
  · skip
    exact op15_6 a b c (decide_eq_false (by omega)) (beq_eq_false_iff_ne.2 (by omega)) w
theorem op16_0   (w : World) : Calls Try.prog 3 #[.agg #[.int .i64 16, .int .i64 0, .int .i64 0, .int .i64 0]] w (Ret (.bool true) w) :=
  ret_known knownA 10000 (args := #[.agg #[.int .i64 16, .int .i64 0, .int .i64 0, .int .i64 0]]) (orc := orcAt 0 []) (ob := []) w (by kernel_rfl) obs_nil (VRl_cons (.aggl (VRl_cons (.atom rfl) (VRl_cons (.atom rfl) (VRl_cons (.atom rfl) (VRl_cons (.atom rfl) VRl_nil))))) VRl_nil)
theorem op16_1 (c : Int) (h0 : (decide ((0 : Int) ≤ c)) = true) (h1 : (decide (c ≤ 0)) = false) (h2 : (c == 0) = false) (w : World) : Calls Try.prog 3 #[.agg #[.int .i64 16, .int .i64 0, .int .i64 0, .int .i64 c]] w (Ret (.bool true) w) :=
  ret_known knownA 10000 (args := #[.agg #[.int .i64 16, .int .i64 0, .int .i64 0, .int .i64 c]]) (orc := orcAt 0 [(30, true), (31, false), (70, false)]) (ob := [(c == 0, false), (decide (c ≤ 0), false), (decide ((0 : Int) ≤ c), true)]) w (by kernel_rfl) (obs_cons h2 (obs_cons h1 (obs_cons h0 obs_nil))) (VRl_cons (.aggl (VRl_cons (.atom rfl) (VRl_cons (.atom rfl) (VRl_cons (.atom rfl) (VRl_cons (.atom rfl) VRl_nil))))) VRl_nil)
theorem op16_2 (c : Int) (h0 : (decide ((0 : Int) ≤ c)) = false) (h1 : (c == 0) = false) (w : World) : Calls Try.prog 3 #[.agg #[.int .i64 16, .int .i64 0, .int .i64 0, .int .i64 c]] w (Ret (.bool true) w) :=
  ret_known knownA 10000 (args := #[.agg #[.int .i64 16, .int .i64 0, .int .i64 0, .int .i64 c]]) (orc := orcAt 0 [(30, false), (69, false)]) (ob := [(c == 0, false), (decide ((0 : Int) ≤ c), false)]) w (by kernel_rfl) (obs_cons h1 (obs_cons h0 obs_nil)) (VRl_cons (.aggl (VRl_cons (.atom rfl) (VRl_cons (.atom rfl) (VRl_cons (.atom rfl) (VRl_cons (.atom rfl) VRl_nil))))) VRl_nil)
theorem op16_3 (b : Int) (c : Int) (h0 : (decide ((0 : Int) ≤ b)) = true) (h1 : (decide (b ≤ 0)) = false) (h2 : (b == 0) = false) (w : World) : Calls Try.prog 3 #[.agg #[.int .i64 16, .int .i64 0, .int .i64 b, .int .i64 c]] w (Ret (.bool true) w) :=
  ret_known knownA 10000 (args := #[.agg #[.int .i64 16, .int .i64 0, .int .i64 b, .int .i64 c]]) (orc := orcAt 0 [(20, true), (21, false), (53, false)]) (ob := [(b == 0, false), (decide (b ≤ 0), false), (decide ((0 : Int) ≤ b), true)]) w (by kernel_rfl) (obs_cons h2 (obs_cons h1 (obs_cons h0 obs_nil))) (VRl_cons (.aggl (VRl_cons (.atom rfl) (VRl_cons (.atom rfl) (VRl_cons (.atom rfl) (VRl_cons (.atom rfl) VRl_nil))))) VRl_nil)
theorem op16_4 (b : Int) (c : Int) (h0 : (decide ((0 : Int) ≤ b)) = false) (h1 : (b == 0) = false) (w : World) : Calls Try.prog 3 #[.agg #[.int .i64 16, .int .i64 0, .int .i64 b, .int .i64 c]] w (Ret (.bool true) w) :=
  ret_known knownA 10000 (args := #[.agg #[.int .i64 16, .int .i64 0, .int .i64 b, .int .i64 c]]) (orc := orcAt 0 [(20, false), (52, false)]) (ob := [(b == 0, false), (decide ((0 : Int) ≤ b), false)]) w (by kernel_rfl) (obs_cons h1 (obs_cons h0 obs_nil)) (VRl_cons (.aggl (VRl_cons (.atom rfl) (VRl_cons (.atom rfl) (VRl_cons (.atom rfl) (VRl_cons (.atom rfl) VRl_nil))))) VRl_nil)
theorem op16_5 (a : Int) (b : Int) (c : Int) (h0 : (decide ((0 : Int) ≤ a)) = true) (h1 : (decide (a ≤ 0)) = false) (h2 : (a == 0) = false) (w : World) : Calls Try.prog 3 #[.agg #[.int .i64 16, .int .i64 a, .int .i64 b, .int .i64 c]] w (Ret (.bool true) w) :=
  ret_known knownA 10000 (args := #[.agg #[.int .i64 16, .int .i64 a, .int .i64 b, .int .i64 c]]) (orc := orcAt 0 [(10, true), (11, false), (36, false)]) (ob := [(a == 0, false), (decide (a ≤ 0), false), (decide ((0 : Int) ≤ a), true)]) w (by kernel_rfl) (obs_cons h2 (obs_cons h1 (obs_cons h0 obs_nil))) (VRl_cons (.aggl (VRl_cons (.atom rfl) (VRl_cons (.atom rfl) (VRl_cons (.atom rfl) (VRl_cons (.atom rfl) VRl_nil))))) VRl_nil)
theorem op16_6 (a : Int) (b : Int) (c : Int) (h0 : (decide ((0 : Int) ≤ a)) = false) (h1 : (a == 0) = false) (w : World) : Calls Try.prog 3 #[.agg #[.int .i64 16, .int .i64 a, .int .i64 b, .int .i64 c]] w (Ret (.bool true) w) :=
  ret_known knownA 10000 (args := #[.agg #[.int .i64 16, .int .i64 a, .int .i64 b, .int .i64 c]]) (orc := orcAt 0 [(10, false), (35, false)]) (ob := [(a == 0, false), (decide ((0 : Int) ≤ a), false)]) w (by kernel_rfl) (obs_cons h1 (obs_cons h0 obs_nil)) (VRl_cons (.aggl (VRl_cons (.atom rfl) (VRl_cons (.atom rfl) (VRl_cons (.atom rfl) (VRl_cons (.atom rfl) VRl_nil))))) VRl_nil)
theorem op16 (a : Int) (b : Int) (c : Int)  (w : World) : Calls Try.prog 3 #[.agg #[.int .i64 16, .int .i64 a, .int .i64 b, .int .i64 c]] w (Ret (.bool true) w) := by
  by_cases g0 : (0 : Int) ≤ a
  · skip
    by_cases g1 : a ≤ 0
    · skip
      obtain rfl : a = 0 := by omega
      by_cases g2 : (0 : Int) ≤ b
      · skip
        by_cases g3 : b ≤ 0
        · skip
          obtain rfl : b = 0 := by omega
          by_cases g4 : (0 : Int) ≤ c
          · skip
            by_cases g5 : c ≤ 0
            · skip
              obtain rfl : c = 0 := by omega
              exact op16_0   w
            · skip
              exact op16_1 c (decide_eq_true (by omega)) (decide_eq_false (by omega)) (beq_eq_false_iff_ne.2 (by omega)) w
          · skip
            exact op16_2 c (decide_eq_false (by omega)) (beq_eq_false_iff_ne.2 (by omega)) w
        · skip
          exact op16_3 b c (decide_eq_true (by omega)) (decide_eq_false (by omega)) (beq_eq_false_iff_ne.2 (by omega)) w
      · skip
        exact op16_4 b c (decide_eq_false (by omega)) (beq_eq_false_iff_ne.2 (by omega)) w
    · skip
      exact op16_5 a b c (decide_eq_true (by omega)) (decide_eq_false (by omega)) (beq_eq_false_iff_ne.2 (by omega)) w
  · skip
    exact op16_6 a b c (decide_eq_false (by omega)) (beq_eq_false_iff_ne.2 (by omega)) w
theorem op17_0   (w : World) : Calls Try.prog 3 #[.agg #[.int .i64 17, .int .i64 0, .int .i64 0, .int .i64 0]] w (Ret (.bool true) w) :=
  ret_known knownA 10000 (args := #[.agg #[.int .i64 17, .int .i64 0, .int .i64 0, .int .i64 0]]) (orc := orcAt 0 []) (ob := []) w (by kernel_rfl) obs_nil (VRl_cons (.aggl (VRl_cons (.atom rfl) (VRl_cons (.atom rfl) (VRl_cons (.atom rfl) (VRl_cons (.atom rfl) VRl_nil))))) VRl_nil)
theorem op17_1 (c : Int) (h0 : (decide ((0 : Int) ≤ c)) = true) (h1 : (decide (c ≤ 0)) = false) (h2 : (c == 0) = false) (w : World) : Calls Try.prog 3 #[.agg #[.int .i64 17, .int .i64 0, .int .i64 0, .int .i64 c]] w (Ret (.bool true) w) :=
  ret_known knownA 10000 (args := #[.agg #[.int .i64 17, .int .i64 0, .int .i64 0, .int .i64 c]]) (orc := orcAt 0 [(30, true), (31, false), (71, false)]) (ob := [(c == 0, false), (decide (c ≤ 0), false), (decide ((0 : Int) ≤ c), true)]) w (by kernel_rfl) (obs_cons h2 (obs_cons h1 (obs_cons h0 obs_nil))) (VRl_cons (.aggl (VRl_cons (.atom rfl) (VRl_cons (.atom rfl) (VRl_cons (.atom rfl) (VRl_cons (.atom rfl) VRl_nil))))) VRl_nil)
theorem op17_2 (c : Int) (h0 : (decide ((0 : Int) ≤ c)) = false) (h1 : (c == 0) = false) (w : World) : Calls Try.prog 3 #[.agg #[.int .i64 17, .int .i64 0, .int .i64 0, .int .i64 c]] w (Ret (.bool true) w) :=
  ret_known knownA 10000 (args := #[.agg #[.int .i64 17, .int .i64 0, .int .i64 0, .int .i64 c]]) (orc := orcAt 0 [(30, false), (70, false)]) (ob := [(c == 0, false), (decide ((0 : Int) ≤ c), false)]) w (by kernel_rfl) (obs_cons h1 (obs_cons h0 obs_nil)) (VRl_cons (.aggl (VRl_cons (.atom rfl) (VRl_cons (.atom rfl) (VRl_cons (.atom rfl) (VRl_cons (.atom rfl) VRl_nil))))) VRl_nil)
theorem op17_3 (b : Int) (c : Int) (h0 : (decide ((0 : Int) ≤ b)) = true) (h1 : (decide (b ≤ 0)) = false) (h2 : (b == 0) = false) (w : World) : Calls Try.prog 3 #[.agg #[.int .i64 17, .int .i64 0, .int .i64 b, .int .i64 c]] w (Ret (.bool true) w) :=
  ret_known knownA 10000 (args := #[.agg #[.int .i64 17, .int .i64 0, .int .i64 b, .int .i64 c]]) (orc := orcAt 0 [(20, true), (21, false), (54, false)]) (ob := [(b == 0, false), (decide (b ≤ 0), false), (decide ((0 : Int) ≤ b), true)]) w (by kernel_rfl) (obs_cons h2 (obs_cons h1 (obs_cons h0 obs_nil))) (VRl_cons (.aggl (VRl_cons (.atom rfl) (VRl_cons (.atom rfl) (VRl_cons (.atom rfl) (VRl_cons (.atom rfl) VRl_nil))))) VRl_nil)
theorem op17_4 (b : Int) (c : Int) (h0 : (decide ((0 : Int) ≤ b)) = false) (h1 : (b == 0) = false) (w : World) : Calls Try.prog 3 #[.agg #[.int .i64 17, .int .i64 0, .int .i64 b, .int .i64 c]] w (Ret (.bool true) w) :=
  ret_known knownA 10000 (args := #[.agg #[.int .i64 17, .int .i64 0, .int .i64 b, .int .i64 c]]) (orc := orcAt 0 [(20, false), (53, false)]) (ob := [(b == 0, false), (decide ((0 : Int) ≤ b), false)]) w (by kernel_rfl) (obs_cons h1 (obs_cons h0 obs_nil)) (VRl_cons (.aggl (VRl_cons (.atom rfl) (VRl_cons (.atom rfl) (VRl_cons (.atom rfl) (VRl_cons (.atom rfl) VRl_nil))))) VRl_nil)
theorem op17_5 (a : Int) (b : Int) (c : Int) (h0 : (decide ((0 : Int) ≤ a)) = true) (h1 : (decide (a ≤ 0)) = false) (h2 : (a == 0) = false) (w : World) : Calls Try.prog 3 #[.agg #[.int .i64 17, .int .i64 a, .int .i64 b, .int .i64 c]] w (Ret (.bool true) w) :=
  ret_known knownA 10000 (args := #[.agg #[.int .i64 17, .int .i64 a, .int .i64 b, .int .i64 c]]) (orc := orcAt 0 [(10, true), (11, false), (37, false)]) (ob := [(a == 0, false), (decide (a ≤ 0), false), (decide ((0 : Int) ≤ a), true)]) w (by kernel_rfl) (obs_cons h2 (obs_cons h1 (obs_cons h0 obs_nil))) (VRl_cons (.aggl (VRl_cons (.atom rfl) (VRl_cons (.atom rfl) (VRl_cons (.atom rfl) (VRl_cons (.atom rfl) VRl_nil))))) VRl_nil)
theorem op17_6 (a : Int) (b : Int) (c : Int) (h0 : (decide ((0 : Int) ≤ a)) = false) (h1 : (a == 0) = false) (w : World) : Calls Try.prog 3 #[.agg #[.int .i64 17, .int .i64 a, .int .i64 b, .int .i64 c]] w (Ret (.bool true) w) :=
  ret_known knownA 10000 (args := #[.agg #[.int .i64 17, .int .i64 a, .int .i64 b, .int .i64 c]]) (orc := orcAt 0 [(10, false), (36, false)]) (ob := [(a == 0, false), (decide ((0 : Int) ≤ a), false)]) w (by kernel_rfl) (obs_cons h1 (obs_cons h0 obs_nil)) (VRl_cons (.aggl (VRl_cons (.atom rfl) (VRl_cons (.atom rfl) (VRl_cons (.atom rfl) (VRl_cons (.atom rfl) VRl_nil))))) VRl_nil)
theorem op17 (a : Int) (b : Int) (c : Int)  (w : World) : Calls Try.prog 3 #[.agg #[.int .i64 17, .int .i64 a, .int .i64 b, .int .i64 c]] w (Ret (.bool true) w) := by
  by_cases g0 : (0 : Int) ≤ a
  · skip
    by_cases g1 : a ≤ 0
    · skip
      obtain rfl : a = 0 := by omega
      by_cases g2 : (0 : Int) ≤ b
      · skip
        by_cases g3 : b ≤ 0
        · skip
          obtain rfl : b = 0 := by omega
          by_cases g4 : (0 : Int) ≤ c
          · skip
            by_cases g5 : c ≤ 0
            · skip
              obtain rfl : c = 0 := by omega
              exact op17_0   w
            · skip
              exact op17_1 c (decide_eq_true (by omega)) (decide_eq_false (by omega)) (beq_eq_false_iff_ne.2 (by omega)) w
          · skip
            exact op17_2 c (decide_eq_false (by omega)) (beq_eq_false_iff_ne.2 (by omega)) w
        · skip
          exact op17_3 b c (decide_eq_true (by omega)) (decide_eq_false (by omega)) (beq_eq_false_iff_ne.2 (by omega)) w
      · skip
        exact op17_4 b c (decide_eq_false (by omega)) (beq_eq_false_iff_ne.2 (by omega)) w
    · skip
      exact op17_5 a b c (decide_eq_true (by omega)) (decide_eq_false (by omega)) (beq_eq_false_iff_ne.2 (by omega)) w
  · skip
    exact op17_6 a b c (decide_eq_false (by omega)) (beq_eq_false_iff_ne.2 (by omega)) w
theorem op18_0   (w : World) : Calls Try.prog 3 #[.agg #[.int .i64 18, .int .i64 0, .int .i64 0, .int .i64 0]] w (Ret (.bool true) w) :=
  ret_known knownA 10000 (args := #[.agg #[.int .i64 18, .int .i64 0, .int .i64 0, .int .i64 0]]) (orc := orcAt 0 []) (ob := []) w (by kernel_rfl) obs_nil (VRl_cons (.aggl (VRl_cons (.atom rfl) (VRl_cons (.atom rfl) (VRl_cons (.atom rfl) (VRl_cons (.atom rfl) VRl_nil))))) VRl_nil)
theorem op18_1 (c : Int) (h0 : (decide ((0 : Int) ≤ c)) = true) (h1 : (decide (c ≤ 0)) = false) (h2 : (c == 0) = false) (w : World) : Calls Try.prog 3 #[.agg #[.int .i64 18, .int .i64 0, .int .i64 0, .int .i64 c]] w (Ret (.bool true) w) :=
  ret_known knownA 10000 (args := #[.agg #[.int .i64 18, .int .i64 0, .int .i64 0, .int .i64 c]]) (orc := orcAt 0 [(30, true), (31, false), (72, false)]) (ob := [(c == 0, false), (decide (c ≤ 0), false), (decide ((0 : Int) ≤ c), true)]) w (by kernel_rfl) (obs_cons h2 (obs_cons h1 (obs_cons h0 obs_nil))) (VRl_cons (.aggl (VRl_cons (.atom rfl) (VRl_cons (.atom rfl) (VRl_cons (.atom rfl) (VRl_cons (.atom rfl) VRl_nil))))) VRl_nil)
theorem op18_2 (c : Int) (h0 : (decide ((0 : Int) ≤ c)) = false) (h1 : (c == 0) = false) (w : World) : Calls Try.prog 3 #[.agg #[.int .i64 18, .int .i64 0, .int .i64 0, .int .i64 c]] w (Ret (.bool true) w) :=
  ret_known knownA 10000 (args := #[.agg #[.int .i64 18, .int .i64 0, .int .i64 0, .int .i64 c]]) (orc := orcAt 0 [(30, false), (71, false)]) (ob := [(c == 0, false), (decide ((0 : Int) ≤ c), false)]) w (by kernel_rfl) (obs_cons h1 (obs_cons h0 obs_nil)) (VRl_cons (.aggl (VRl_cons (.atom rfl) (VRl_cons (.atom rfl) (VRl_cons (.atom rfl) (VRl_cons (.atom rfl) VRl_nil))))) VRl_nil)
theorem op18_3 (b : Int) (c : Int) (h0 : (decide ((0 : Int) ≤ b)) = true) (h1 : (decide (b ≤ 0)) = false) (h2 : (b == 0) = false) (w : World) : Calls Try.prog 3 #[.agg #[.int .i64 18, .int .i64 0, .int .i64 b, .int .i64 c]] w (Ret (.bool true) w) :=
  ret_known knownA 10000 (args := #[.agg #[.int .i64 18, .int .i64 0, .int .i64 b, .int .i64 c]]) (orc := orcAt 0 [(20, true), (21, false), (55, false)]) (ob := [(b == 0, false), (decide (b ≤ 0), false), (decide ((0 : Int) ≤ b), true)]) w (by kernel_rfl) (obs_cons h2 (obs_cons h1 (obs_cons h0 obs_nil))) (VRl_cons (.aggl (VRl_cons (.atom rfl) (VRl_cons (.atom rfl) (VRl_cons (.atom rfl) (VRl_cons (.atom rfl) VRl_nil))))) VRl_nil)
theorem op18_4 (b : Int) (c : Int) (h0 : (decide ((0 : Int) ≤ b)) = false) (h1 : (b == 0) = false) (w : World) : Calls Try.prog 3 #[.agg #[.int .i64 18, .int .i64 0, .int .i64 b, .int .i64 c]] w (Ret (.bool true) w) :=
  ret_known knownA 10000 (args := #[.agg #[.int .i64 18, .int .i64 0, .int .i64 b, .int .i64 c]]) (orc := orcAt 0 [(20, false), (54, false)]) (ob := [(b == 0, false), (decide ((0 : Int) ≤ b), false)]) w (by kernel_rfl) (obs_cons h1 (obs_cons h0 obs_nil)) (VRl_cons (.aggl (VRl_cons (.atom rfl) (VRl_cons (.atom rfl) (VRl_cons (.atom rfl) (VRl_cons (.atom rfl) VRl_nil))))) VRl_nil)
theorem op18_5 (a : Int) (b : Int) (c : Int) (h0 : (decide ((0 : Int) ≤ a)) = true) (h1 : (decide (a ≤ 0)) = false) (h2 : (a == 0) = false) (w : World) : Calls Try.prog 3 #[.agg #[.int .i64 18, .int .i64 a, .int .i64 b, .int .i64 c]] w (Ret (.bool true) w) :=
  ret_known knownA 10000 (args := #[.agg #[.int .i64 18, .int .i64 a, .int .i64 b, .int .i64 c]]) (orc := orcAt 0 [(10, true), (11, false), (38, false)]) (ob := [(a == 0, false), (decide (a ≤ 0), false), (decide ((0 : Int) ≤ a), true)]) w (by kernel_rfl) (obs_cons h2 (obs_cons h1 (obs_cons h0 obs_nil))) (VRl_cons (.aggl (VRl_cons (.atom rfl) (VRl_cons (.atom rfl) (VRl_cons (.atom rfl) (VRl_cons (.atom rfl) VRl_nil))))) VRl_nil)
theorem op18_6 (a : Int) (b : Int) (c : Int) (h0 : (decide ((0 : Int) ≤ a)) = false) (h1 : (a == 0) = false) (w : World) : Calls Try.prog 3 #[.agg #[.int .i64 18, .int .i64 a, .int .i64 b, .int .i64 c]] w (Ret (.bool true) w) :=
  ret_known knownA 10000 (args := #[.agg #[.int .i64 18, .int .i64 a, .int .i64 b, .int .i64 c]]) (orc := orcAt 0 [(10, false), (37, false)]) (ob := [(a == 0, false), (decide ((0 : Int) ≤ a), false)]) w (by kernel_rfl) (obs_cons h1 (obs_cons h0 obs_nil)) (VRl_cons (.aggl (VRl_cons (.atom rfl) (VRl_cons (.atom rfl) (VRl_cons (.atom rfl) (VRl_cons (.atom rfl) VRl_nil))))) VRl_nil)
theorem op18 (a : Int) (b : Int) (c : Int)  (w : World) : Calls Try.prog 3 #[.agg #[.int .i64 18, .int .i64 a, .int .i64 b, .int .i64 c]] w (Ret (.bool true) w) := by
  by_cases g0 : (0 : Int) ≤ a
  · skip
    by_cases g1 : a ≤ 0
    · skip
      obtain rfl : a = 0 := by omega
      by_cases g2 : (0 : Int) ≤ b
      · skip
        by_cases g3 : b ≤ 0
        · skip
          obtain rfl : b = 0 := by omega
          by_cases g4 : (0 : Int) ≤ c
          · skip
            by_cases g5 : c ≤ 0
            · skip
              obtain rfl : c = 0 := by omega
              exact op18_0   w
            · skip
              exact op18_1 c (decide_eq_true (by omega)) (decide_eq_false (by omega)) (beq_eq_false_iff_ne.2 (by omega)) w
          · skip
            exact op18_2 c (decide_eq_false (by omega)) (beq_eq_false_iff_ne.2 (by omega)) w
        · skip
          exact op18_3 b c (decide_eq_true (by omega)) (decide_eq_false (by omega)) (beq_eq_false_iff_ne.2 (by omega)) w
      · skip
        exact op18_4 b c (decide_eq_false (by omega)) (beq_eq_false_iff_ne.2 (by omega)) w
    · skip
      exact op18_5 a b c (decide_eq_true (by omega)) (decide_eq_false (by omega)) (beq_eq_false_iff_ne.2 (by omega)) w
  · skip
    exact op18_6 a b c (decide_eq_false (by omega)) (beq_eq_false_iff_ne.2 (by omega)) w
theorem op19_0 (a : Int) (h0 : (decide ((0 : Int) ≤ a)) = true) (h1 : (decide (a ≤ 7)) = true) (h2 : (decide (a ≥ 0)) = true) (h3 : (decide (a < 8)) = true) (w : World) : Calls Try.prog 3 #[.agg #[.int .i64 19, .int .i64 a, .int .i64 0, .int .i64 0]] w (Ret (.bool true) w) :=
  ret_known knownA 10000 (args := #[.agg #[.int .i64 19, .int .i64 a, .int .i64 0, .int .i64 0]]) (orc := orcAt 0 [(5, true), (6, true), (35, true), (36, true)]) (ob := [(decide (a < 8), true), (decide (a ≥ 0), true), (decide (a ≤ 7), true), (decide ((0 : Int) ≤ a), true)]) w (by kernel_rfl) (obs_cons h3 (obs_cons h2 (obs_cons h1 (obs_cons h0 obs_nil)))) (VRl_cons (.aggl (VRl_cons (.atom rfl) (VRl_cons (.atom rfl) (VRl_cons (.atom rfl) (VRl_cons (.atom rfl) VRl_nil))))) VRl_nil)
theorem op19_1 (a : Int) (c : Int) (h0 : (decide ((0 : Int) ≤ a)) = true) (h1 : (decide (a ≤ 7)) = true) (h2 : (decide ((0 : Int) ≤ c)) = true) (h3 : (decide (c ≤ 0)) = false) (h4 : (decide (a ≥ 0)) = true) (h5 : (decide (a < 8)) = true) (h6 : (c == 0) = false) (w : World) : Calls Try.prog 3 #[.agg #[.int .i64 19, .int .i64 a, .int .i64 0, .int .i64 c]] w (Ret (.bool true) w) :=
  ret_known knownA 10000 (args := #[.agg #[.int .i64 19, .int .i64 a, .int .i64 0, .int .i64 c]]) (orc := orcAt 0 [(5, true), (6, true), (25, true), (26, false), (34, true), (35, true), (49, false)]) (ob := [(c == 0, false), (decide (a < 8), true), (decide (a ≥ 0), true), (decide (c ≤ 0), false), (decide ((0 : Int) ≤ c), true), (decide (a ≤ 7), true), (decide ((0 : Int) ≤ a), true)]) w (by kernel_rfl) (obs_cons h6 (obs_cons h5 (obs_cons h4 (obs_cons h3 (obs_cons h2 (obs_cons h1 (obs_cons h0 obs_nil))))))) (VRl_cons (.aggl (VRl_cons (.atom rfl) (VRl_cons (.atom rfl) (VRl_cons (.atom rfl) (VRl_cons (.atom rfl) VRl_nil))))) VRl_nil)
theorem op19_2 (a : Int) (c : Int) (h0 : (decide ((0 : Int) ≤ a)) = true) (h1 : (decide (a ≤ 7)) = true) (h2 : (decide ((0 : Int) ≤ c)) = false) (h3 : (decide (a ≥ 0)) = true) (h4 : (decide (a < 8)) = true) (h5 : (c == 0) = false) (w : World) : Calls Try.prog 3 #[.agg #[.int .i64 19, .int .i64 a, .int .i64 0, .int .i64 c]] w (Ret (.bool true) w) :=
  ret_known knownA 10000 (args := #[.agg #[.int .i64 19, .int .i64 a, .int .i64 0, .int .i64 c]]) (orc := orcAt 0 [(5, true), (6, true), (25, false), (33, true), (34, true), (48, false)]) (ob := [(c == 0, false), (decide (a < 8), true), (decide (a ≥ 0), true), (decide ((0 : Int) ≤ c), false), (decide (a ≤ 7), true), (decide ((0 : Int) ≤ a), true)]) w (by kernel_rfl) (obs_cons h5 (obs_cons h4 (obs_cons h3 (obs_cons h2 (obs_cons h1 (obs_cons h0 obs_nil)))))) (VRl_cons (.aggl (VRl_cons (.atom rfl) (VRl_cons (.atom rfl) (VRl_cons (.atom rfl) (VRl_cons (.atom rfl) VRl_nil))))) VRl_nil)
theorem op19_3 (a : Int) (b : Int) (c : Int) (h0 : (decide ((0 : Int) ≤ a)) = true) (h1 : (decide (a ≤ 7)) = true) (h2 : (decide ((0 : Int) ≤ b)) = true) (h3 : (decide (b ≤ 0)) = false) (h4 : (decide (a ≥ 0)) = true) (h5 : (decide (a < 8)) = true) (h6 : (b == 0) = false) (w : World) : Calls Try.prog 3 #[.agg #[.int .i64 19, .int .i64 a, .int .i64 b, .int .i64 c]] w (Ret (.bool true) w) :=
  ret_known knownA 10000 (args := #[.agg #[.int .i64 19, .int .i64 a, .int .i64 b, .int .i64 c]]) (orc := orcAt 0 [(5, true), (6, true), (15, true), (16, false), (24, true), (25, true), (32, false)]) (ob := [(b == 0, false), (decide (a < 8), true), (decide (a ≥ 0), true), (decide (b ≤ 0), false), (decide ((0 : Int) ≤ b), true), (decide (a ≤ 7), true), (decide ((0 : Int) ≤ a), true)]) w (by kernel_rfl) (obs_cons h6 (obs_cons h5 (obs_cons h4 (obs_cons h3 (obs_cons h2 (obs_cons h1 (obs_cons h0 obs_nil))))))) (VRl_cons (.aggl (VRl_cons (.atom rfl) (VRl_cons (.atom rfl) (VRl_cons (.atom rfl) (VRl_cons (.atom rfl) VRl_nil))))) VRl_nil)
theorem op19_4 (a : Int) (b : Int) (c : Int) (h0 : (decide ((0 : Int) ≤ a)) = true) (h1 : (decide (a ≤ 7)) = true) (h2 : (decide ((0 : Int) ≤ b)) = false) (h3 : (decide (a ≥ 0)) = true) (h4 : (decide (a < 8)) = true) (h5 : (b == 0) = false) (w : World) : Calls Try.prog 3 #[.agg #[.int .i64 19, .int .i64 a, .int .i64 b, .int .i64 c]] w (Ret (.bool true) w) :=
  ret_known knownA 10000 (args := #[.agg #[.int .i64 19, .int .i64 a, .int .i64 b, .int .i64 c]]) (orc := orcAt 0 [(5, true), (6, true), (15, false), (23, true), (24, true), (31, false)]) (ob := [(b == 0, false), (decide (a < 8), true), (decide (a ≥ 0), true), (decide ((0 : Int) ≤ b), false), (decide (a ≤ 7), true), (decide ((0 : Int) ≤ a), true)]) w (by kernel_rfl) (obs_cons h5 (obs_cons h4 (obs_cons h3 (obs_cons h2 (obs_cons h1 (obs_cons h0 obs_nil)))))) (VRl_cons (.aggl (VRl_cons (.atom rfl) (VRl_cons (.atom rfl) (VRl_cons (.atom rfl) (VRl_cons (.atom rfl) VRl_nil))))) VRl_nil)
theorem op19_5 (a : Int) (b : Int) (c : Int) (h0 : (decide ((0 : Int) ≤ a)) = true) (h1 : (decide (a ≤ 7)) = false) (h2 : (decide (a ≥ 0)) = true) (h3 : (decide (a < 8)) = false) (w : World) : Calls Try.prog 3 #[.agg #[.int .i64 19, .int .i64 a, .int .i64 b, .int .i64 c]] w (Ret (.bool true) w) :=
  ret_known knownA 10000 (args := #[.agg #[.int .i64 19, .int .i64 a, .int .i64 b, .int .i64 c]]) (orc := orcAt 0 [(5, true), (6, false), (14, true), (15, false)]) (ob := [(decide (a < 8), false), (decide (a ≥ 0), true), (decide (a ≤ 7), false), (decide ((0 : Int) ≤ a), true)]) w (by kernel_rfl) (obs_cons h3 (obs_cons h2 (obs_cons h1 (obs_cons h0 obs_nil)))) (VRl_cons (.aggl (VRl_cons (.atom rfl) (VRl_cons (.atom rfl) (VRl_cons (.atom rfl) (VRl_cons (.atom rfl) VRl_nil))))) VRl_nil)
theorem op19_6 (a : Int) (b : Int) (c : Int) (h0 : (decide ((0 : Int) ≤ a)) = false) (h1 : (decide (a ≥ 0)) = false) (w : World) : Calls Try.prog 3 #[.agg #[.int .i64 19, .int .i64 a, .int .i64 b, .int .i64 c]] w (Ret (.bool true) w) :=
  ret_known knownA 10000 (args := #[.agg #[.int .i64 19, .int .i64 a, .int .i64 b, .int .i64 c]]) (orc := orcAt 0 [(5, false), (13, false)]) (ob := [(decide (a ≥ 0), false), (decide ((0 : Int) ≤ a), false)]) w (by kernel_rfl) (obs_cons h1 (obs_cons h0 obs_nil)) (VRl_cons (.aggl (VRl_cons (.atom rfl) (VRl_cons (.atom rfl) (VRl_cons (.atom rfl) (VRl_cons (.atom rfl) VRl_nil))))) VRl_nil)
theorem op19 (a : Int) (b : Int) (c : Int)  (w : World) : Calls Try.prog 3 #[.agg #[.int .i64 19, .int .i64 a, .int .i64 b, .int .i64 c]] w (Ret (.bool true) w) := by
  by_cases g0 : (0 : Int) ≤ a
  · skip
    by_cases g1 : a ≤ 7
    · skip
      by_cases g2 : (0 : Int) ≤ b
      · skip
        by_cases g3 : b ≤ 0
        · skip
          obtain rfl : b = 0 := by omega
          by_cases g4 : (0 : Int) ≤ c
          · skip
            by_cases g5 : c ≤ 0
            · skip
              obtain rfl : c = 0 := by omega
              exact op19_0 a (decide_eq_true (by omega)) (decide_eq_true (by omega)) (decide_eq_true (by omega)) (decide_eq_true (by omega)) w
            · skip
              exact op19_1 a c (decide_eq_true (by omega)) (decide_eq_true (by omega)) (decide_eq_true (by omega)) (decide_eq_false (by omega)) (decide_eq_true (by omega)) (decide_eq_true (by omega)) (beq_eq_false_iff_ne.2 (by omega)) w
          · skip
            exact op19_2 a c (decide_eq_true (by omega)) (decide_eq_true (by omega)) (decide_eq_false (by omega)) (decide_eq_true (by omega)) (decide_eq_true (by omega)) (beq_eq_false_iff_ne.2 (by omega)) w
        · skip
          exact op19_3 a b c (decide_eq_true (by omega)) (decide_eq_true (by omega)) (decide_eq_true (by omega)) (decide_eq_false (by omega)) (decide_eq_true (by omega)) (decide_eq_true (by omega)) (beq_eq_false_iff_ne.2 (by omega)) w
      · skip
        exact op19_4 a b c (decide_eq_true (by omega)) (decide_eq_true (by omega)) (decide_eq_false (by omega)) (decide_eq_true (by omega)) (decide_eq_true (by omega)) (beq_eq_false_iff_ne.2 (by omega)) w
    · skip
      exact op19_5 a b c (decide_eq_true (by omega)) (decide_eq_false (by omega)) (decide_eq_true (by omega)) (decide_eq_false (by omega)) w
  · skip
    exact op19_6 a b c (decide_eq_false (by omega)) (decide_eq_false (by omega)) w
theorem op20_0   (w : World) : Calls Try.prog 3 #[.agg #[.int .i64 20, .int .i64 0, .int .i64 0, .int .i64 0]] w (Ret (.bool true) w) :=
  ret_known knownA 10000 (args := #[.agg #[.int .i64 20, .int .i64 0, .int .i64 0, .int .i64 0]]) (orc := orcAt 0 []) (ob := []) w (by kernel_rfl) obs_nil (VRl_cons (.aggl (VRl_cons (.atom rfl) (VRl_cons (.atom rfl) (VRl_cons (.atom rfl) (VRl_cons (.atom rfl) VRl_nil))))) VRl_nil)
theorem op20_1 (c : Int) (h0 : (decide ((0 : Int) ≤ c)) = true) (h1 : (decide (c ≤ 0)) = false) (h2 : (c == 0) = false) (w : World) : Calls Try.prog 3 #[.agg #[.int .i64 20, .int .i64 0, .int .i64 0, .int .i64 c]] w (Ret (.bool true) w) :=
  ret_known knownA 10000 (args := #[.agg #[.int .i64 20, .int .i64 0, .int .i64 0, .int .i64 c]]) (orc := orcAt 0 [(30, true), (31, false), (73, false)]) (ob := [(c == 0, false), (decide (c ≤ 0), false), (decide ((0 : Int) ≤ c), true)]) w (by kernel_rfl) (obs_cons h2 (obs_cons h1 (obs_cons h0 obs_nil))) (VRl_cons (.aggl (VRl_cons (.atom rfl) (VRl_cons (.atom rfl) (VRl_cons (.atom rfl) (VRl_cons (.atom rfl) VRl_nil))))) VRl_nil)
theorem op20_2 (c : Int) (h0 : (decide ((0 : Int) ≤ c)) = false) (h1 : (c == 0) = false) (w : World) : Calls Try.prog 3 #[.agg #[.int .i64 20, .int .i64 0, .int .i64 0, .int .i64 c]] w (Ret (.bool true) w) :=
  ret_known knownA 10000 (args := #[.agg #[.int .i64 20, .int .i64 0, .int .i64 0, .int .i64 c]]) (orc := orcAt 0 [(30, false), (72, false)]) (ob := [(c == 0, false), (decide ((0 : Int) ≤ c), false)]) w (by kernel_rfl) (obs_cons h1 (obs_cons h0 obs_nil)) (VRl_cons (.aggl (VRl_cons (.atom rfl) (VRl_cons (.atom rfl) (VRl_cons (.atom rfl) (VRl_cons (.atom rfl) VRl_nil))))) VRl_nil)
theorem op20_3 (b : Int) (c : Int) (h0 : (decide ((0 : Int) ≤ b)) = true) (h1 : (decide (b ≤ 0)) = false) (h2 : (b == 0) = false) (w : World) : Calls Try.prog 3 #[.agg #[.int .i64 20, .int .i64 0, .int .i64 b, .int .i64 c]] w (Ret (.bool true) w) :=
  ret_known knownA 10000 (args := #[.agg #[.int .i64 20, .int .i64 0, .int .i64 b, .int .i64 c]]) (orc := orcAt 0 [(20, true), (21, false), (56, false)]) (ob := [(b == 0, false), (decide (b ≤ 0), false), (decide ((0 : Int) ≤ b), true)]) w (by kernel_rfl) (obs_cons h2 (obs_cons h1 (obs_cons h0 obs_nil))) (VRl_cons (.aggl (VRl_cons (.atom rfl) (VRl_cons (.atom rfl) (VRl_cons (.atom rfl) (VRl_cons (.atom rfl) VRl_nil))))) VRl_nil)
theorem op20_4 (b : Int) (c : Int) (h0 : (decide ((0 : Int) ≤ b)) = false) (h1 : (b == 0) = false) (w : World) : Calls Try.prog 3 #[.agg #[.int .i64 20, .int .i64 0, .int .i64 b, .int .i64 c]] w (Ret (.bool true) w) :=
  ret_known knownA 10000 (args := #[.agg #[.int .i64 20, .int .i64 0, .int .i64 b, .int .i64 c]]) (orc := orcAt 0 [(20, false), (55, false)]) (ob := [(b == 0, false), (decide ((0 : Int) ≤ b), false)]) w (by kernel_rfl) (obs_cons h1 (obs_cons h0 obs_nil)) (VRl_cons (.aggl (VRl_cons (.atom rfl) (VRl_cons (.atom rfl) (VRl_cons (.atom rfl) (VRl_cons (.atom rfl) VRl_nil))))) VRl_nil)
theorem op20_5 (a : Int) (b : Int) (c : Int) (h0 : (decide ((0 : Int) ≤ a)) = true) (h1 : (decide (a ≤ 0)) = false) (h2 : (a == 0) = false) (w : World) : Calls Try.prog 3 #[.agg #[.int .i64 20, .int .i64 a, .int .i64 b, .int .i64 c]] w (Ret (.bool true) w) :=
  ret_known knownA 10000 (args := #[.agg #[.int .i64 20, .int .i64 a, .int .i64 b, .int .i64 c]]) (orc := orcAt 0 [(10, true), (11, false), (39, false)]) (ob := [(a == 0, false), (decide (a ≤ 0), false), (decide ((0 : Int) ≤ a), true)]) w (by kernel_rfl) (obs_cons h2 (obs_cons h1 (obs_cons h0 obs_nil))) (VRl_cons (.aggl (VRl_cons (.atom rfl) (VRl_cons (.atom rfl) (VRl_cons (.atom rfl) (VRl_cons (.atom rfl) VRl_nil))))) VRl_nil)
theorem op20_6 (a : Int) (b : Int) (c : Int) (h0 : (decide ((0 : Int) ≤ a)) = false) (h1 : (a == 0) = false) (w : World) : Calls Try.prog 3 #[.agg #[.int .i64 20, .int .i64 a, .int .i64 b, .int .i64 c]] w (Ret (.bool true) w) :=
  ret_known knownA 10000 (args := #[.agg #[.int .i64 20, .int .i64 a, .int .i64 b, .int .i64 c]]) (orc := orcAt 0 [(10, false), (38, false)]) (ob := [(a == 0, false), (decide ((0 : Int) ≤ a), false)]) w (by kernel_rfl) (obs_cons h1 (obs_cons h0 obs_nil)) (VRl_cons (.aggl (VRl_cons (.atom rfl) (VRl_cons (.atom rfl) (VRl_cons (.atom rfl) (VRl_cons (.atom rfl) VRl_nil))))) VRl_nil)
theorem op20 (a : Int) (b : Int) (c : Int)  (w : World) : Calls Try.prog 3 #[.agg #[.int .i64 20, .int .i64 a, .int .i64 b, .int .i64 c]] w (Ret (.bool true) w) := by
  by_cases g0 : (0 : Int) ≤ a
  · skip
    by_cases g1 : a ≤ 0
    · skip
      obtain rfl : a = 0 := by omega
      by_cases g2 : (0 : Int) ≤ b
      · skip
        by_cases g3 : b ≤ 0
        · skip
          obtain rfl : b = 0 := by omega
          by_cases g4 : (0 : Int) ≤ c
          · skip
            by_cases g5 : c ≤ 0
            · skip
              obtain rfl : c = 0 := by omega
              exact op20_0   w
            · skip
              exact op20_1 c (decide_eq_true (by omega)) (decide_eq_false (by omega)) (beq_eq_false_iff_ne.2 (by omega)) w
          · skip
            exact op20_2 c (decide_eq_false (by omega)) (beq_eq_false_iff_ne.2 (by omega)) w
        · skip
          exact op20_3 b c (decide_eq_true (by omega)) (decide_eq_false (by omega)) (beq_eq_false_iff_ne.2 (by omega)) w
      · skip
        exact op20_4 b c (decide_eq_false (by omega)) (beq_eq_false_iff_ne.2 (by omega)) w
    · skip
      exact op20_5 a b c (decide_eq_true (by omega)) (decide_eq_false (by omega)) (beq_eq_false_iff_ne.2 (by omega)) w
  · skip
    exact op20_6 a b c (decide_eq_false (by omega)) (beq_eq_false_iff_ne.2 (by omega)) w
theorem opH_0 (op : Int) (a : Int) (b : Int) (c : Int) (h0 : (decide (op < 0)) = false) (h1 : (decide (op ≥ 21)) = true) (h2 : (op == 1) = false) (h3 : (op == 2) = false) (h4 : (op == 10) = false) (h5 : (op == 12) = false) (h6 : (op == 19) = false) (h7 : (op == 3) = false) (h8 : (op == 4) = false) (h9 : (op == 5) = false) (h10 : (op == 6) = false) (h11 : (op == 7) = false) (h12 : (op == 8) = false) (h13 : (op == 9) = false) (h14 : (op == 11) = false) (h15 : (op == 13) = false) (h16 : (op == 14) = false) (h17 : (op == 15) = false) (h18 : (op == 16) = false) (h19 : (op == 17) = false) (h20 : (op == 18) = false) (h21 : (op == 20) = false) (h22 : (decide (op ≥ 1)) = true) (h23 : (decide (op ≤ 10)) = false) (h24 : (decide (op < 1)) = false) (h25 : (decide (op > 20)) = true) (w : World) : Calls Try.prog 3 #[.agg #[.int .i64 op, .int .i64 a, .int .i64 b, .int .i64 c]] w (Ret (.bool true) w) :=
  ret_known knownA 10000 (args := #[.agg #[.int .i64 op, .int .i64 a, .int .i64 b, .int .i64 c]]) (orc := orcAt 0 [(0, false), (1, true), (3, false), (4, false), (5, false), (6, false), (7, false), (8, false), (9, false), (10, false), (11, false), (12, false), (13, false), (14, false), (15, false), (16, false), (17, false), (18, false), (19, false), (20, false), (21, false), (22, false), (24, true), (25, false), (26, false), (27, true), (28, false), (29, false), (31, false), (32, true), (33, false), (34, true), (36, false), (37, true), (41, false), (42, false), (43, false), (44, false), (45, false), (46, false), (47, false), (48, false), (49, false), (50, false), (51, false), (52, false), (53, false), (54, false), (55, false), (56, false), (57, false), (58, false), (59, false), (60, false)]) (ob := [(op == 20, false), (op == 18, false), (op == 17, false), (op == 16, false), (op == 15, false), (op == 14, false), (op == 13, false), (op == 11, false), (op == 9, false), (op == 8, false), (op == 7, false), (op == 6, false), (op == 5, false), (op == 4, false), (op == 3, false), (op == 19, false), (op == 12, false), (op == 10, false), (op == 2, false), (op == 1, false), (decide (op ≥ 21), true), (decide (op < 0), false), (decide (op > 20), true), (decide (op < 1), false), (decide (op ≥ 21), true), (decide (op < 0), false), (op == 19, false), (decide (op ≤ 10), false), (decide (op ≥ 1), true), (op == 19, false), (decide (op ≤ 10), false), (decide (op ≥ 1), true), (op == 20, false), (op == 18, false), (op == 17, false), (op == 16, false), (op == 15, false), (op == 14, false), (op == 13, false), (op == 11, false), (op == 9, false), (op == 8, false), (op == 7, false), (op == 6, false), (op == 5, false), (op == 4, false), (op == 3, false), (op == 19, false), (op == 12, false), (op == 10, false), (op == 2, false), (op == 1, false), (decide (op ≥ 21), true), (decide (op < 0), false)]) w (by kernel_rfl) (obs_cons h21 (obs_cons h20 (obs_cons h19 (obs_cons h18 (obs_cons h17 (obs_cons h16 (obs_cons h15 (obs_cons h14 (obs_cons h13 (obs_cons h12 (obs_cons h11 (obs_cons h10 (obs_cons h9 (obs_cons h8 (obs_cons h7 (obs_cons h6 (obs_cons h5 (obs_cons h4 (obs_cons h3 (obs_cons h2 (obs_cons h1 (obs_cons h0 (obs_cons h25 (obs_cons h24 (obs_cons h1 (obs_cons h0 (obs_cons h6 (obs_cons h23 (obs_cons h22 (obs_cons h6 (obs_cons h23 (obs_cons h22 (obs_cons h21 (obs_cons h20 (obs_cons h19 (obs_cons h18 (obs_cons h17 (obs_cons h16 (obs_cons h15 (obs_cons h14 (obs_cons h13 (obs_cons h12 (obs_cons h11 (obs_cons h10 (obs_cons h9 (obs_cons h8 (obs_cons h7 (obs_cons h6 (obs_cons h5 (obs_cons h4 (obs_cons h3 (obs_cons h2 (obs_cons h1 (obs_cons h0 obs_nil)))))))))))))))))))))))))))))))))))))))))))))))))))))) (VRl_cons (.aggl (VRl_cons (.atom rfl) (VRl_cons (.atom rfl) (VRl_cons (.atom rfl) (VRl_cons (.atom rfl) VRl_nil))))) VRl_nil)
theorem opH (op : Int) (a : Int) (b : Int) (c : Int) (hop : 20 < op) (w : World) : Calls Try.prog 3 #[.agg #[.int .i64 op, .int .i64 a, .int .i64 b, .int .i64 c]] w (Ret (.bool true) w) := by
  exact opH_0 op a b c (decide_eq_false (by omega)) (decide_eq_true (by omega)) (beq_eq_false_iff_ne.2 (by omega)) (beq_eq_false_iff_ne.2 (by omega)) (beq_eq_false_iff_ne.2 (by omega)) (beq_eq_false_iff_ne.2 (by omega)) (beq_eq_false_iff_ne.2 (by omega)) (beq_eq_false_iff_ne.2 (by omega)) (beq_eq_false_iff_ne.2 (by omega)) (beq_eq_false_iff_ne.2 (by omega)) (beq_eq_false_iff_ne.2 (by omega)) (beq_eq_false_iff_ne.2 (by omega)) (beq_eq_false_iff_ne.2 (by omega)) (beq_eq_false_iff_ne.2 (by omega)) (beq_eq_false_iff_ne.2 (by omega)) (beq_eq_false_iff_ne.2 (by omega)) (beq_eq_false_iff_ne.2 (by omega)) (beq_eq_false_iff_ne.2 (by omega)) (beq_eq_false_iff_ne.2 (by omega)) (beq_eq_false_iff_ne.2 (by omega)) (beq_eq_false_iff_ne.2 (by omega)) (beq_eq_false_iff_ne.2 (by omega)) (decide_eq_true (by omega)) (decide_eq_false (by omega)) (decide_eq_false (by omega)) (decide_eq_true (by omega)) w
theorem opL_0 (op : Int) (a : Int) (b : Int) (c : Int) (h0 : (decide (op < 0)) = true) (h1 : (op == 1) = false) (h2 : (op == 2) = false) (h3 : (op == 10) = false) (h4 : (op == 12) = false) (h5 : (op == 19) = false) (h6 : (op == 3) = false) (h7 : (op == 4) = false) (h8 : (op == 5) = false) (h9 : (op == 6) = false) (h10 : (op == 7) = false) (h11 : (op == 8) = false) (h12 : (op == 9) = false) (h13 : (op == 11) = false) (h14 : (op == 13) = false) (h15 : (op == 14) = false) (h16 : (op == 15) = false) (h17 : (op == 16) = false) (h18 : (op == 17) = false) (h19 : (op == 18) = false) (h20 : (op == 20) = false) (h21 : (decide (op ≥ 1)) = false) (h22 : (decide (op < 1)) = true) (w : World) : Calls Try.prog 3 #[.agg #[.int .i64 op, .int .i64 a, .int .i64 b, .int .i64 c]] w (Ret (.bool true) w) :=
  ret_known knownA 10000 (args := #[.agg #[.int .i64 op, .int .i64 a, .int .i64 b, .int .i64 c]]) (orc := orcAt 0 [(0, true), (2, false), (3, false), (4, false), (5, false), (6, false), (7, false), (8, false), (9, false), (10, false), (11, false), (12, false), (13, false), (14, false), (15, false), (16, false), (17, false), (18, false), (19, false), (20, false), (21, false), (23, false), (24, false), (25, false), (26, false), (28, true), (29, true), (31, true), (35, false), (36, false), (37, false), (38, false), (39, false), (40, false), (41, false), (42, false), (43, false), (44, false), (45, false), (46, false), (47, false), (48, false), (49, false), (50, false), (51, false), (52, false), (53, false), (54, false)]) (ob := [(op == 20, false), (op == 18, false), (op == 17, false), (op == 16, false), (op == 15, false), (op == 14, false), (op == 13, false), (op == 11, false), (op == 9, false), (op == 8, false), (op == 7, false), (op == 6, false), (op == 5, false), (op == 4, false), (op == 3, false), (op == 19, false), (op == 12, false), (op == 10, false), (op == 2, false), (op == 1, false), (decide (op < 0), true), (decide (op < 1), true), (decide (op < 0), true), (op == 19, false), (decide (op ≥ 1), false), (op == 19, false), (decide (op ≥ 1), false), (op == 20, false), (op == 18, false), (op == 17, false), (op == 16, false), (op == 15, false), (op == 14, false), (op == 13, false), (op == 11, false), (op == 9, false), (op == 8, false), (op == 7, false), (op == 6, false), (op == 5, false), (op == 4, false), (op == 3, false), (op == 19, false), (op == 12, false), (op == 10, false), (op == 2, false), (op == 1, false), (decide (op < 0), true)]) w (by kernel_rfl) (obs_cons h20 (obs_cons h19 (obs_cons h18 (obs_cons h17 (obs_cons h16 (obs_cons h15 (obs_cons h14 (obs_cons h13 (obs_cons h12 (obs_cons h11 (obs_cons h10 (obs_cons h9 (obs_cons h8 (obs_cons h7 (obs_cons h6 (obs_cons h5 (obs_cons h4 (obs_cons h3 (obs_cons h2 (obs_cons h1 (obs_cons h0 (obs_cons h22 (obs_cons h0 (obs_cons h5 (obs_cons h21 (obs_cons h5 (obs_cons h21 (obs_cons h20 (obs_cons h19 (obs_cons h18 (obs_cons h17 (obs_cons h16 (obs_cons h15 (obs_cons h14 (obs_cons h13 (obs_cons h12 (obs_cons h11 (obs_cons h10 (obs_cons h9 (obs_cons h8 (obs_cons h7 (obs_cons h6 (obs_cons h5 (obs_cons h4 (obs_cons h3 (obs_cons h2 (obs_cons h1 (obs_cons h0 obs_nil)))))))))))))))))))))))))))))))))))))))))))))))) (VRl_cons (.aggl (VRl_cons (.atom rfl) (VRl_cons (.atom rfl) (VRl_cons (.atom rfl) (VRl_cons (.atom rfl) VRl_nil))))) VRl_nil)
theorem opL_1 (a : Int) (b : Int) (c : Int)  (w : World) : Calls Try.prog 3 #[.agg #[.int .i64 0, .int .i64 a, .int .i64 b, .int .i64 c]] w (Ret (.bool true) w) :=
  ret_known knownA 10000 (args := #[.agg #[.int .i64 0, .int .i64 a, .int .i64 b, .int .i64 c]]) (orc := orcAt 0 []) (ob := []) w (by kernel_rfl) obs_nil (VRl_cons (.aggl (VRl_cons (.atom rfl) (VRl_cons (.atom rfl) (VRl_cons (.atom rfl) (VRl_cons (.atom rfl) VRl_nil))))) VRl_nil)
theorem opL (op : Int) (a : Int) (b : Int) (c : Int) (hop : op < 1) (w : World) : Calls Try.prog 3 #[.agg #[.int .i64 op, .int .i64 a, .int .i64 b, .int .i64 c]] w (Ret (.bool true) w) := by
  by_cases g0 : op < 0
  · skip
    exact opL_0 op a b c (decide_eq_true (by omega)) (beq_eq_false_iff_ne.2 (by omega)) (beq_eq_false_iff_ne.2 (by omega)) (beq_eq_false_iff_ne.2 (by omega)) (beq_eq_false_iff_ne.2 (by omega)) (beq_eq_false_iff_ne.2 (by omega)) (beq_eq_false_iff_ne.2 (by omega)) (beq_eq_false_iff_ne.2 (by omega)) (beq_eq_false_iff_ne.2 (by omega)) (beq_eq_false_iff_ne.2 (by omega)) (beq_eq_false_iff_ne.2 (by omega)) (beq_eq_false_iff_ne.2 (by omega)) (beq_eq_false_iff_ne.2 (by omega)) (beq_eq_false_iff_ne.2 (by omega)) (beq_eq_false_iff_ne.2 (by omega)) (beq_eq_false_iff_ne.2 (by omega)) (beq_eq_false_iff_ne.2 (by omega)) (beq_eq_false_iff_ne.2 (by omega)) (beq_eq_false_iff_ne.2 (by omega)) (beq_eq_false_iff_ne.2 (by omega)) (beq_eq_false_iff_ne.2 (by omega)) (decide_eq_false (by omega)) (decide_eq_true (by omega)) w
  · skip
    obtain rfl : op = 0 := by omega
    exact opL_1 a b c  w
end Ev
end Go.Proofs.Ytiiemakdpibncaa
