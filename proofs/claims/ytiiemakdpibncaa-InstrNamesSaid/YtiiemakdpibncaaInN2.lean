/- Paths of a law, by the runner. -/
import Derived.Test.YtiiemakdpibncaaInN0
namespace Go.Proofs.Ytiiemakdpibncaa
open Go.ChangeShapes Go.WideShapes Go.ChangeAt Go.RowKit
namespace Ev
set_option maxRecDepth 100000
theorem ry_1 (w : World) : Calls Try.prog 18 #[.string (nm 1)] w (Ret (.tuple #[.int .i64 1, .bool true]) w) := ret_known knownI 60000 (args := #[.string (nm 1)]) (orc := orcs [] []) (ob := []) w (by kernel_rfl) obs_nil (VRs.of_free rfl)
theorem ry_2 (w : World) : Calls Try.prog 18 #[.string (nm 2)] w (Ret (.tuple #[.int .i64 2, .bool true]) w) := ret_known knownI 60000 (args := #[.string (nm 2)]) (orc := orcs [] []) (ob := []) w (by kernel_rfl) obs_nil (VRs.of_free rfl)
theorem ry_3 (w : World) : Calls Try.prog 18 #[.string (nm 3)] w (Ret (.tuple #[.int .i64 3, .bool true]) w) := ret_known knownI 60000 (args := #[.string (nm 3)]) (orc := orcs [] []) (ob := []) w (by kernel_rfl) obs_nil (VRs.of_free rfl)
theorem ry_4 (w : World) : Calls Try.prog 18 #[.string (nm 4)] w (Ret (.tuple #[.int .i64 4, .bool true]) w) := ret_known knownI 60000 (args := #[.string (nm 4)]) (orc := orcs [] []) (ob := []) w (by kernel_rfl) obs_nil (VRs.of_free rfl)
theorem ry_5 (w : World) : Calls Try.prog 18 #[.string (nm 5)] w (Ret (.tuple #[.int .i64 5, .bool true]) w) := ret_known knownI 60000 (args := #[.string (nm 5)]) (orc := orcs [] []) (ob := []) w (by kernel_rfl) obs_nil (VRs.of_free rfl)
theorem ry_6 (w : World) : Calls Try.prog 18 #[.string (nm 6)] w (Ret (.tuple #[.int .i64 6, .bool true]) w) := ret_known knownI 60000 (args := #[.string (nm 6)]) (orc := orcs [] []) (ob := []) w (by kernel_rfl) obs_nil (VRs.of_free rfl)
theorem ry_7 (w : World) : Calls Try.prog 18 #[.string (nm 7)] w (Ret (.tuple #[.int .i64 7, .bool true]) w) := ret_known knownI 60000 (args := #[.string (nm 7)]) (orc := orcs [] []) (ob := []) w (by kernel_rfl) obs_nil (VRs.of_free rfl)
theorem ry_8 (w : World) : Calls Try.prog 18 #[.string (nm 8)] w (Ret (.tuple #[.int .i64 8, .bool true]) w) := ret_known knownI 60000 (args := #[.string (nm 8)]) (orc := orcs [] []) (ob := []) w (by kernel_rfl) obs_nil (VRs.of_free rfl)
theorem ry_9 (w : World) : Calls Try.prog 18 #[.string (nm 9)] w (Ret (.tuple #[.int .i64 9, .bool true]) w) := ret_known knownI 60000 (args := #[.string (nm 9)]) (orc := orcs [] []) (ob := []) w (by kernel_rfl) obs_nil (VRs.of_free rfl)
theorem ry_10 (w : World) : Calls Try.prog 18 #[.string (nm 10)] w (Ret (.tuple #[.int .i64 10, .bool true]) w) := ret_known knownI 60000 (args := #[.string (nm 10)]) (orc := orcs [] []) (ob := []) w (by kernel_rfl) obs_nil (VRs.of_free rfl)
theorem ry_11 (w : World) : Calls Try.prog 18 #[.string (nm 11)] w (Ret (.tuple #[.int .i64 11, .bool true]) w) := ret_known knownI 60000 (args := #[.string (nm 11)]) (orc := orcs [] []) (ob := []) w (by kernel_rfl) obs_nil (VRs.of_free rfl)
theorem ry_12 (w : World) : Calls Try.prog 18 #[.string (nm 12)] w (Ret (.tuple #[.int .i64 12, .bool true]) w) := ret_known knownI 60000 (args := #[.string (nm 12)]) (orc := orcs [] []) (ob := []) w (by kernel_rfl) obs_nil (VRs.of_free rfl)
theorem ry_13 (w : World) : Calls Try.prog 18 #[.string (nm 13)] w (Ret (.tuple #[.int .i64 13, .bool true]) w) := ret_known knownI 60000 (args := #[.string (nm 13)]) (orc := orcs [] []) (ob := []) w (by kernel_rfl) obs_nil (VRs.of_free rfl)
theorem ry_14 (w : World) : Calls Try.prog 18 #[.string (nm 14)] w (Ret (.tuple #[.int .i64 14, .bool true]) w) := ret_known knownI 60000 (args := #[.string (nm 14)]) (orc := orcs [] []) (ob := []) w (by kernel_rfl) obs_nil (VRs.of_free rfl)
theorem ry_15 (w : World) : Calls Try.prog 18 #[.string (nm 15)] w (Ret (.tuple #[.int .i64 15, .bool true]) w) := ret_known knownI 60000 (args := #[.string (nm 15)]) (orc := orcs [] []) (ob := []) w (by kernel_rfl) obs_nil (VRs.of_free rfl)
theorem ry_16 (w : World) : Calls Try.prog 18 #[.string (nm 16)] w (Ret (.tuple #[.int .i64 16, .bool true]) w) := ret_known knownI 60000 (args := #[.string (nm 16)]) (orc := orcs [] []) (ob := []) w (by kernel_rfl) obs_nil (VRs.of_free rfl)
theorem ry_17 (w : World) : Calls Try.prog 18 #[.string (nm 17)] w (Ret (.tuple #[.int .i64 17, .bool true]) w) := ret_known knownI 60000 (args := #[.string (nm 17)]) (orc := orcs [] []) (ob := []) w (by kernel_rfl) obs_nil (VRs.of_free rfl)
theorem ry_18 (w : World) : Calls Try.prog 18 #[.string (nm 18)] w (Ret (.tuple #[.int .i64 18, .bool true]) w) := ret_known knownI 60000 (args := #[.string (nm 18)]) (orc := orcs [] []) (ob := []) w (by kernel_rfl) obs_nil (VRs.of_free rfl)
theorem ry_19 (w : World) : Calls Try.prog 18 #[.string (nm 19)] w (Ret (.tuple #[.int .i64 19, .bool true]) w) := ret_known knownI 60000 (args := #[.string (nm 19)]) (orc := orcs [] []) (ob := []) w (by kernel_rfl) obs_nil (VRs.of_free rfl)
theorem ry_20 (w : World) : Calls Try.prog 18 #[.string (nm 20)] w (Ret (.tuple #[.int .i64 20, .bool true]) w) := ret_known knownI 60000 (args := #[.string (nm 20)]) (orc := orcs [] []) (ob := []) w (by kernel_rfl) obs_nil (VRs.of_free rfl)
theorem ry_none (s : ByteArray) (h1 : (nm 1 == s) = false) (h2 : (nm 2 == s) = false) (h3 : (nm 3 == s) = false) (h4 : (nm 4 == s) = false) (h5 : (nm 5 == s) = false) (h6 : (nm 6 == s) = false) (h7 : (nm 7 == s) = false) (h8 : (nm 8 == s) = false) (h9 : (nm 9 == s) = false) (h10 : (nm 10 == s) = false) (h11 : (nm 11 == s) = false) (h12 : (nm 12 == s) = false) (h13 : (nm 13 == s) = false) (h14 : (nm 14 == s) = false) (h15 : (nm 15 == s) = false) (h16 : (nm 16 == s) = false) (h17 : (nm 17 == s) = false) (h18 : (nm 18 == s) = false) (h19 : (nm 19 == s) = false) (h20 : (nm 20 == s) = false) (w : World) : Calls Try.prog 18 #[.string s] w (Ret (.tuple #[.int .i64 0, .bool false]) w) := ret_known knownI 60000 (args := #[.string s]) (orc := orcs [(1, false), (3, false), (5, false), (7, false), (9, false), (11, false), (13, false), (15, false), (17, false), (19, false), (21, false), (23, false), (25, false), (27, false), (29, false), (31, false), (33, false), (35, false), (37, false), (39, false)] []) (ob := [((nm 20).toList == s.toList, false), ((nm 19).toList == s.toList, false), ((nm 18).toList == s.toList, false), ((nm 17).toList == s.toList, false), ((nm 16).toList == s.toList, false), ((nm 15).toList == s.toList, false), ((nm 14).toList == s.toList, false), ((nm 13).toList == s.toList, false), ((nm 12).toList == s.toList, false), ((nm 11).toList == s.toList, false), ((nm 10).toList == s.toList, false), ((nm 9).toList == s.toList, false), ((nm 8).toList == s.toList, false), ((nm 7).toList == s.toList, false), ((nm 6).toList == s.toList, false), ((nm 5).toList == s.toList, false), ((nm 4).toList == s.toList, false), ((nm 3).toList == s.toList, false), ((nm 2).toList == s.toList, false), ((nm 1).toList == s.toList, false)]) w (by kernel_rfl) (obs_cons ((beq_toListBytes (nm 20) s).symm.trans h20) (obs_cons ((beq_toListBytes (nm 19) s).symm.trans h19) (obs_cons ((beq_toListBytes (nm 18) s).symm.trans h18) (obs_cons ((beq_toListBytes (nm 17) s).symm.trans h17) (obs_cons ((beq_toListBytes (nm 16) s).symm.trans h16) (obs_cons ((beq_toListBytes (nm 15) s).symm.trans h15) (obs_cons ((beq_toListBytes (nm 14) s).symm.trans h14) (obs_cons ((beq_toListBytes (nm 13) s).symm.trans h13) (obs_cons ((beq_toListBytes (nm 12) s).symm.trans h12) (obs_cons ((beq_toListBytes (nm 11) s).symm.trans h11) (obs_cons ((beq_toListBytes (nm 10) s).symm.trans h10) (obs_cons ((beq_toListBytes (nm 9) s).symm.trans h9) (obs_cons ((beq_toListBytes (nm 8) s).symm.trans h8) (obs_cons ((beq_toListBytes (nm 7) s).symm.trans h7) (obs_cons ((beq_toListBytes (nm 6) s).symm.trans h6) (obs_cons ((beq_toListBytes (nm 5) s).symm.trans h5) (obs_cons ((beq_toListBytes (nm 4) s).symm.trans h4) (obs_cons ((beq_toListBytes (nm 3) s).symm.trans h3) (obs_cons ((beq_toListBytes (nm 2) s).symm.trans h2) (obs_cons ((beq_toListBytes (nm 1) s).symm.trans h1) obs_nil)))))))))))))))))))) (VRs.of_free rfl)
theorem ry_all (s : ByteArray) (w : World) : Calls Try.prog 18 #[.string s] w (Ret (.tuple #[.int .i64 (bn s), .bool (bb s)]) w) := by
  cases h1 : (nm 1 == s) with
  | true =>
    have e := eqB h1
    have e1 : bn s = 1 := by unfold bn; simp only [h1, cond_true, cond_false]
    have e2 : bb s = true := by unfold bb; rw [e1]; rfl
    rw [e1, e2, ← e]
    exact ry_1 w
  | false =>
  cases h2 : (nm 2 == s) with
  | true =>
    have e := eqB h2
    have e1 : bn s = 2 := by unfold bn; simp only [h1, h2, cond_true, cond_false]
    have e2 : bb s = true := by unfold bb; rw [e1]; rfl
    rw [e1, e2, ← e]
    exact ry_2 w
  | false =>
  cases h3 : (nm 3 == s) with
  | true =>
    have e := eqB h3
    have e1 : bn s = 3 := by unfold bn; simp only [h1, h2, h3, cond_true, cond_false]
    have e2 : bb s = true := by unfold bb; rw [e1]; rfl
    rw [e1, e2, ← e]
    exact ry_3 w
  | false =>
  cases h4 : (nm 4 == s) with
  | true =>
    have e := eqB h4
    have e1 : bn s = 4 := by unfold bn; simp only [h1, h2, h3, h4, cond_true, cond_false]
    have e2 : bb s = true := by unfold bb; rw [e1]; rfl
    rw [e1, e2, ← e]
    exact ry_4 w
  | false =>
  cases h5 : (nm 5 == s) with
  | true =>
    have e := eqB h5
    have e1 : bn s = 5 := by unfold bn; simp only [h1, h2, h3, h4, h5, cond_true, cond_false]
    have e2 : bb s = true := by unfold bb; rw [e1]; rfl
    rw [e1, e2, ← e]
    exact ry_5 w
  | false =>
  cases h6 : (nm 6 == s) with
  | true =>
    have e := eqB h6
    have e1 : bn s = 6 := by unfold bn; simp only [h1, h2, h3, h4, h5, h6, cond_true, cond_false]
    have e2 : bb s = true := by unfold bb; rw [e1]; rfl
    rw [e1, e2, ← e]
    exact ry_6 w
  | false =>
  cases h7 : (nm 7 == s) with
  | true =>
    have e := eqB h7
    have e1 : bn s = 7 := by unfold bn; simp only [h1, h2, h3, h4, h5, h6, h7, cond_true, cond_false]
    have e2 : bb s = true := by unfold bb; rw [e1]; rfl
    rw [e1, e2, ← e]
    exact ry_7 w
  | false =>
  cases h8 : (nm 8 == s) with
  | true =>
    have e := eqB h8
    have e1 : bn s = 8 := by unfold bn; simp only [h1, h2, h3, h4, h5, h6, h7, h8, cond_true, cond_false]
    have e2 : bb s = true := by unfold bb; rw [e1]; rfl
    rw [e1, e2, ← e]
    exact ry_8 w
  | false =>
  cases h9 : (nm 9 == s) with
  | true =>
    have e := eqB h9
    have e1 : bn s = 9 := by unfold bn; simp only [h1, h2, h3, h4, h5, h6, h7, h8, h9, cond_true, cond_false]
    have e2 : bb s = true := by unfold bb; rw [e1]; rfl
    rw [e1, e2, ← e]
    exact ry_9 w
  | false =>
  cases h10 : (nm 10 == s) with
  | true =>
    have e := eqB h10
    have e1 : bn s = 10 := by unfold bn; simp only [h1, h2, h3, h4, h5, h6, h7, h8, h9, h10, cond_true, cond_false]
    have e2 : bb s = true := by unfold bb; rw [e1]; rfl
    rw [e1, e2, ← e]
    exact ry_10 w
  | false =>
  cases h11 : (nm 11 == s) with
  | true =>
    have e := eqB h11
    have e1 : bn s = 11 := by unfold bn; simp only [h1, h2, h3, h4, h5, h6, h7, h8, h9, h10, h11, cond_true, cond_false]
    have e2 : bb s = true := by unfold bb; rw [e1]; rfl
    rw [e1, e2, ← e]
    exact ry_11 w
  | false =>
  cases h12 : (nm 12 == s) with
  | true =>
    have e := eqB h12
    have e1 : bn s = 12 := by unfold bn; simp only [h1, h2, h3, h4, h5, h6, h7, h8, h9, h10, h11, h12, cond_true, cond_false]
    have e2 : bb s = true := by unfold bb; rw [e1]; rfl
    rw [e1, e2, ← e]
    exact ry_12 w
  | false =>
  cases h13 : (nm 13 == s) with
  | true =>
    have e := eqB h13
    have e1 : bn s = 13 := by unfold bn; simp only [h1, h2, h3, h4, h5, h6, h7, h8, h9, h10, h11, h12, h13, cond_true, cond_false]
    have e2 : bb s = true := by unfold bb; rw [e1]; rfl
    rw [e1, e2, ← e]
    exact ry_13 w
  | false =>
  cases h14 : (nm 14 == s) with
  | true =>
    have e := eqB h14
    have e1 : bn s = 14 := by unfold bn; simp only [h1, h2, h3, h4, h5, h6, h7, h8, h9, h10, h11, h12, h13, h14, cond_true, cond_false]
    have e2 : bb s = true := by unfold bb; rw [e1]; rfl
    rw [e1, e2, ← e]
    exact ry_14 w
  | false =>
  cases h15 : (nm 15 == s) with
  | true =>
    have e := eqB h15
    have e1 : bn s = 15 := by unfold bn; simp only [h1, h2, h3, h4, h5, h6, h7, h8, h9, h10, h11, h12, h13, h14, h15, cond_true, cond_false]
    have e2 : bb s = true := by unfold bb; rw [e1]; rfl
    rw [e1, e2, ← e]
    exact ry_15 w
  | false =>
  cases h16 : (nm 16 == s) with
  | true =>
    have e := eqB h16
    have e1 : bn s = 16 := by unfold bn; simp only [h1, h2, h3, h4, h5, h6, h7, h8, h9, h10, h11, h12, h13, h14, h15, h16, cond_true, cond_false]
    have e2 : bb s = true := by unfold bb; rw [e1]; rfl
    rw [e1, e2, ← e]
    exact ry_16 w
  | false =>
  cases h17 : (nm 17 == s) with
  | true =>
    have e := eqB h17
    have e1 : bn s = 17 := by unfold bn; simp only [h1, h2, h3, h4, h5, h6, h7, h8, h9, h10, h11, h12, h13, h14, h15, h16, h17, cond_true, cond_false]
    have e2 : bb s = true := by unfold bb; rw [e1]; rfl
    rw [e1, e2, ← e]
    exact ry_17 w
  | false =>
  cases h18 : (nm 18 == s) with
  | true =>
    have e := eqB h18
    have e1 : bn s = 18 := by unfold bn; simp only [h1, h2, h3, h4, h5, h6, h7, h8, h9, h10, h11, h12, h13, h14, h15, h16, h17, h18, cond_true, cond_false]
    have e2 : bb s = true := by unfold bb; rw [e1]; rfl
    rw [e1, e2, ← e]
    exact ry_18 w
  | false =>
  cases h19 : (nm 19 == s) with
  | true =>
    have e := eqB h19
    have e1 : bn s = 19 := by unfold bn; simp only [h1, h2, h3, h4, h5, h6, h7, h8, h9, h10, h11, h12, h13, h14, h15, h16, h17, h18, h19, cond_true, cond_false]
    have e2 : bb s = true := by unfold bb; rw [e1]; rfl
    rw [e1, e2, ← e]
    exact ry_19 w
  | false =>
  cases h20 : (nm 20 == s) with
  | true =>
    have e := eqB h20
    have e1 : bn s = 20 := by unfold bn; simp only [h1, h2, h3, h4, h5, h6, h7, h8, h9, h10, h11, h12, h13, h14, h15, h16, h17, h18, h19, h20, cond_true, cond_false]
    have e2 : bb s = true := by unfold bb; rw [e1]; rfl
    rw [e1, e2, ← e]
    exact ry_20 w
  | false =>
  have e1 : bn s = 0 := by unfold bn; simp only [h1, h2, h3, h4, h5, h6, h7, h8, h9, h10, h11, h12, h13, h14, h15, h16, h17, h18, h19, h20, cond_false]
  have e2 : bb s = false := by unfold bb; rw [e1]; rfl
  rw [e1, e2]
  exact ry_none s h1 h2 h3 h4 h5 h6 h7 h8 h9 h10 h11 h12 h13 h14 h15 h16 h17 h18 h19 h20 w
end Ev
end Go.Proofs.Ytiiemakdpibncaa
