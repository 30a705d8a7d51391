/- Paths of a law, by the runner. -/
import Derived.Test.YtiiemakdpibncaaInN1
import Derived.Test.YtiiemakdpibncaaInN2
namespace Go.Proofs.Ytiiemakdpibncaa
open Go.ChangeShapes Go.WideShapes Go.ChangeAt Go.RowKit
namespace Ev
set_option maxRecDepth 100000
def spJ : FuncId → Option (List Value → Option Value) := fun f => bif Nat.beq f 17 then some byG else spI f
theorem knownJ : Known spJ := fun f g h => by
  unfold spJ at h
  cases hb : Nat.beq f 17 with
  | true =>
    rw [hb] at h
    obtain rfl := Nat.eq_of_beq_eq_true hb
    simp only [cond_true, Option.some.injEq] at h
    subst h
    refine ⟨⟨_, _, Try.func17, rfl⟩, fun args v ha hv w => ?_⟩
    obtain ⟨s, rfl, rfl⟩ := byG_inv hv
    exact by_all s w
  | false =>
    rw [hb] at h
    simp only [cond_false] at h
    exact knownI f g h
def spK : FuncId → Option (List Value → Option Value) := fun f => bif Nat.beq f 18 then some byG else spJ f
theorem knownK : Known spK := fun f g h => by
  unfold spK at h
  cases hb : Nat.beq f 18 with
  | true =>
    rw [hb] at h
    obtain rfl := Nat.eq_of_beq_eq_true hb
    simp only [cond_true, Option.some.injEq] at h
    subst h
    refine ⟨⟨_, _, Try.func18, rfl⟩, fun args v ha hv w => ?_⟩
    obtain ⟨s, rfl, rfl⟩ := byG_inv hv
    exact ry_all s w
  | false =>
    rw [hb] at h
    simp only [cond_false] at h
    exact knownJ f g h
theorem nm_bn (t : ByteArray) (h : bb t = true) : (nm (bn t) == t) = true := by
  unfold bb at h
  cases h1 : (nm 1 == t) with
  | true =>
    have e1 : bn t = 1 := by unfold bn; simp only [h1, cond_true, cond_false]
    rw [e1]; exact h1
  | false =>
  cases h2 : (nm 2 == t) with
  | true =>
    have e1 : bn t = 2 := by unfold bn; simp only [h1, h2, cond_true, cond_false]
    rw [e1]; exact h2
  | false =>
  cases h3 : (nm 3 == t) with
  | true =>
    have e1 : bn t = 3 := by unfold bn; simp only [h1, h2, h3, cond_true, cond_false]
    rw [e1]; exact h3
  | false =>
  cases h4 : (nm 4 == t) with
  | true =>
    have e1 : bn t = 4 := by unfold bn; simp only [h1, h2, h3, h4, cond_true, cond_false]
    rw [e1]; exact h4
  | false =>
  cases h5 : (nm 5 == t) with
  | true =>
    have e1 : bn t = 5 := by unfold bn; simp only [h1, h2, h3, h4, h5, cond_true, cond_false]
    rw [e1]; exact h5
  | false =>
  cases h6 : (nm 6 == t) with
  | true =>
    have e1 : bn t = 6 := by unfold bn; simp only [h1, h2, h3, h4, h5, h6, cond_true, cond_false]
    rw [e1]; exact h6
  | false =>
  cases h7 : (nm 7 == t) with
  | true =>
    have e1 : bn t = 7 := by unfold bn; simp only [h1, h2, h3, h4, h5, h6, h7, cond_true, cond_false]
    rw [e1]; exact h7
  | false =>
  cases h8 : (nm 8 == t) with
  | true =>
    have e1 : bn t = 8 := by unfold bn; simp only [h1, h2, h3, h4, h5, h6, h7, h8, cond_true, cond_false]
    rw [e1]; exact h8
  | false =>
  cases h9 : (nm 9 == t) with
  | true =>
    have e1 : bn t = 9 := by unfold bn; simp only [h1, h2, h3, h4, h5, h6, h7, h8, h9, cond_true, cond_false]
    rw [e1]; exact h9
  | false =>
  cases h10 : (nm 10 == t) with
  | true =>
    have e1 : bn t = 10 := by unfold bn; simp only [h1, h2, h3, h4, h5, h6, h7, h8, h9, h10, cond_true, cond_false]
    rw [e1]; exact h10
  | false =>
  cases h11 : (nm 11 == t) with
  | true =>
    have e1 : bn t = 11 := by unfold bn; simp only [h1, h2, h3, h4, h5, h6, h7, h8, h9, h10, h11, cond_true, cond_false]
    rw [e1]; exact h11
  | false =>
  cases h12 : (nm 12 == t) with
  | true =>
    have e1 : bn t = 12 := by unfold bn; simp only [h1, h2, h3, h4, h5, h6, h7, h8, h9, h10, h11, h12, cond_true, cond_false]
    rw [e1]; exact h12
  | false =>
  cases h13 : (nm 13 == t) with
  | true =>
    have e1 : bn t = 13 := by unfold bn; simp only [h1, h2, h3, h4, h5, h6, h7, h8, h9, h10, h11, h12, h13, cond_true, cond_false]
    rw [e1]; exact h13
  | false =>
  cases h14 : (nm 14 == t) with
  | true =>
    have e1 : bn t = 14 := by unfold bn; simp only [h1, h2, h3, h4, h5, h6, h7, h8, h9, h10, h11, h12, h13, h14, cond_true, cond_false]
    rw [e1]; exact h14
  | false =>
  cases h15 : (nm 15 == t) with
  | true =>
    have e1 : bn t = 15 := by unfold bn; simp only [h1, h2, h3, h4, h5, h6, h7, h8, h9, h10, h11, h12, h13, h14, h15, cond_true, cond_false]
    rw [e1]; exact h15
  | false =>
  cases h16 : (nm 16 == t) with
  | true =>
    have e1 : bn t = 16 := by unfold bn; simp only [h1, h2, h3, h4, h5, h6, h7, h8, h9, h10, h11, h12, h13, h14, h15, h16, cond_true, cond_false]
    rw [e1]; exact h16
  | false =>
  cases h17 : (nm 17 == t) with
  | true =>
    have e1 : bn t = 17 := by unfold bn; simp only [h1, h2, h3, h4, h5, h6, h7, h8, h9, h10, h11, h12, h13, h14, h15, h16, h17, cond_true, cond_false]
    rw [e1]; exact h17
  | false =>
  cases h18 : (nm 18 == t) with
  | true =>
    have e1 : bn t = 18 := by unfold bn; simp only [h1, h2, h3, h4, h5, h6, h7, h8, h9, h10, h11, h12, h13, h14, h15, h16, h17, h18, cond_true, cond_false]
    rw [e1]; exact h18
  | false =>
  cases h19 : (nm 19 == t) with
  | true =>
    have e1 : bn t = 19 := by unfold bn; simp only [h1, h2, h3, h4, h5, h6, h7, h8, h9, h10, h11, h12, h13, h14, h15, h16, h17, h18, h19, cond_true, cond_false]
    rw [e1]; exact h19
  | false =>
  cases h20 : (nm 20 == t) with
  | true =>
    have e1 : bn t = 20 := by unfold bn; simp only [h1, h2, h3, h4, h5, h6, h7, h8, h9, h10, h11, h12, h13, h14, h15, h16, h17, h18, h19, h20, cond_true, cond_false]
    rw [e1]; exact h20
  | false =>
  have e1 : bn t = 0 := by unfold bn; simp only [h1, h2, h3, h4, h5, h6, h7, h8, h9, h10, h11, h12, h13, h14, h15, h16, h17, h18, h19, h20, cond_false]
  rw [e1] at h; cases h
theorem bn_nm (op : Int) (h : 1 ≤ op ∧ op ≤ 20) : bn (nm op) = op ∧ bb (nm op) = true := by
  have hc : op = 1 ∨ op = 2 ∨ op = 3 ∨ op = 4 ∨ op = 5 ∨ op = 6 ∨ op = 7 ∨ op = 8 ∨ op = 9 ∨ op = 10 ∨ op = 11 ∨ op = 12 ∨ op = 13 ∨ op = 14 ∨ op = 15 ∨ op = 16 ∨ op = 17 ∨ op = 18 ∨ op = 19 ∨ op = 20 := by omega
  rcases hc with rfl | rfl | rfl | rfl | rfl | rfl | rfl | rfl | rfl | rfl | rfl | rfl | rfl | rfl | rfl | rfl | rfl | rfl | rfl | rfl
  · exact ⟨by kernel_rfl, by kernel_rfl⟩
  · exact ⟨by kernel_rfl, by kernel_rfl⟩
  · exact ⟨by kernel_rfl, by kernel_rfl⟩
  · exact ⟨by kernel_rfl, by kernel_rfl⟩
  · exact ⟨by kernel_rfl, by kernel_rfl⟩
  · exact ⟨by kernel_rfl, by kernel_rfl⟩
  · exact ⟨by kernel_rfl, by kernel_rfl⟩
  · exact ⟨by kernel_rfl, by kernel_rfl⟩
  · exact ⟨by kernel_rfl, by kernel_rfl⟩
  · exact ⟨by kernel_rfl, by kernel_rfl⟩
  · exact ⟨by kernel_rfl, by kernel_rfl⟩
  · exact ⟨by kernel_rfl, by kernel_rfl⟩
  · exact ⟨by kernel_rfl, by kernel_rfl⟩
  · exact ⟨by kernel_rfl, by kernel_rfl⟩
  · exact ⟨by kernel_rfl, by kernel_rfl⟩
  · exact ⟨by kernel_rfl, by kernel_rfl⟩
  · exact ⟨by kernel_rfl, by kernel_rfl⟩
  · exact ⟨by kernel_rfl, by kernel_rfl⟩
  · exact ⟨by kernel_rfl, by kernel_rfl⟩
  · exact ⟨by kernel_rfl, by kernel_rfl⟩
theorem bb_out (op : Int) (h : op < 1 ∨ 20 < op) : bb (nm op) = false := by
  rw [nm_out h]; kernel_rfl
theorem leaf00I (s : ByteArray) (op : Int) (hop : 1 ≤ op ∧ op ≤ 20) (hs : s.size ≤ 20) (hb : bb s = false) (w : World) : Calls Try.prog 4 #[.string s, .int .i64 op] w (Ret (.bool true) w) := by
  have h1 : decide ((s.size : Int) > 20) = false := decide_eq_false (by omega)
  skip
  have h3 : (!bb s) = true := by rw [hb]; rfl
  skip
  obtain ⟨q1, q2⟩ := bn_nm op hop
  have h5 : (bb (nm op) == true) = true := by rw [q2]; rfl
  have h6 : (!bb (nm op)) = false := by rw [q2]; rfl
  have h7 : (bn (nm op) == op) = true := by rw [q1]; simp
  exact ret_known knownK 20000 (args := #[.string s, .int .i64 op]) (orc := orcs [(0, false), (1, true), (2, true), (3, true), (4, true), (5, true), (6, true), (7, false), (8, true)] []) (ob := [(bn (nm op) == op, true), (!bb (nm op), false), (bb (nm op) == true, true), (decide (op ≤ 20), true), (decide (op ≥ 1), true), (!bb s, true), (bb s == bb s, true), (bn s == bn s, true), (decide ((s.size : Int) > 20), false)]) w (by kernel_rfl) (obs_cons h7 (obs_cons h6 (obs_cons h5 (obs_cons (decide_eq_true (by omega)) (obs_cons (decide_eq_true (by omega)) (obs_cons h3 (obs_cons (by simp) (obs_cons (by simp) (obs_cons h1 obs_nil))))))))) (VRs.of_free rfl)
theorem leaf00L (s : ByteArray) (op : Int) (hop : op < 1) (hs : s.size ≤ 20) (hb : bb s = false) (w : World) : Calls Try.prog 4 #[.string s, .int .i64 op] w (Ret (.bool true) w) := by
  have h1 : decide ((s.size : Int) > 20) = false := decide_eq_false (by omega)
  skip
  have h3 : (!bb s) = true := by rw [hb]; rfl
  skip
  have q2 := bb_out op (.inl hop)
  have h5 : (bb (nm op) == false) = true := by rw [q2]; rfl
  have h6 : (!bb (nm op)) = true := by rw [q2]; rfl
  exact ret_known knownK 20000 (args := #[.string s, .int .i64 op]) (orc := orcs [(0, false), (1, true), (2, true), (3, true), (4, false), (5, true), (6, true)] []) (ob := [(!bb (nm op), true), (bb (nm op) == false, true), (decide (op ≥ 1), false), (!bb s, true), (bb s == bb s, true), (bn s == bn s, true), (decide ((s.size : Int) > 20), false)]) w (by kernel_rfl) (obs_cons h6 (obs_cons h5 (obs_cons (decide_eq_false (by omega)) (obs_cons h3 (obs_cons (by simp) (obs_cons (by simp) (obs_cons h1 obs_nil))))))) (VRs.of_free rfl)
theorem leaf00H (s : ByteArray) (op : Int) (hop : 20 < op) (hs : s.size ≤ 20) (hb : bb s = false) (w : World) : Calls Try.prog 4 #[.string s, .int .i64 op] w (Ret (.bool true) w) := by
  have h1 : decide ((s.size : Int) > 20) = false := decide_eq_false (by omega)
  skip
  have h3 : (!bb s) = true := by rw [hb]; rfl
  skip
  have q2 := bb_out op (.inr hop)
  have h5 : (bb (nm op) == false) = true := by rw [q2]; rfl
  have h6 : (!bb (nm op)) = true := by rw [q2]; rfl
  exact ret_known knownK 20000 (args := #[.string s, .int .i64 op]) (orc := orcs [(0, false), (1, true), (2, true), (3, true), (4, true), (5, false), (6, true), (7, true)] []) (ob := [(!bb (nm op), true), (bb (nm op) == false, true), (decide (op ≤ 20), false), (decide (op ≥ 1), true), (!bb s, true), (bb s == bb s, true), (bn s == bn s, true), (decide ((s.size : Int) > 20), false)]) w (by kernel_rfl) (obs_cons h6 (obs_cons h5 (obs_cons (decide_eq_false (by omega)) (obs_cons (decide_eq_true (by omega)) (obs_cons h3 (obs_cons (by simp) (obs_cons (by simp) (obs_cons h1 obs_nil)))))))) (VRs.of_free rfl)
theorem leaf01I (s : ByteArray) (op : Int) (hop : 1 ≤ op ∧ op ≤ 20) (hs : s.size ≤ 20) (hb : bb s = true) (w : World) : Calls Try.prog 4 #[.string s, .int .i64 op] w (Ret (.bool true) w) := by
  have h1 : decide ((s.size : Int) > 20) = false := decide_eq_false (by omega)
  skip
  have h3 : (!bb s) = false := by rw [hb]; rfl
  have h4 := nm_bn _ hb
  obtain ⟨q1, q2⟩ := bn_nm op hop
  have h5 : (bb (nm op) == true) = true := by rw [q2]; rfl
  have h6 : (!bb (nm op)) = false := by rw [q2]; rfl
  have h7 : (bn (nm op) == op) = true := by rw [q1]; simp
  exact ret_known knownK 20000 (args := #[.string s, .int .i64 op]) (orc := orcs [(0, false), (1, true), (2, true), (3, false), (4, true), (5, true), (6, true), (7, true), (8, false), (9, true)] []) (ob := [(bn (nm op) == op, true), (!bb (nm op), false), (bb (nm op) == true, true), (decide (op ≤ 20), true), (decide (op ≥ 1), true), ((nm (bn s)).toList == s.toList, true), (!bb s, false), (bb s == bb s, true), (bn s == bn s, true), (decide ((s.size : Int) > 20), false)]) w (by kernel_rfl) (obs_cons h7 (obs_cons h6 (obs_cons h5 (obs_cons (decide_eq_true (by omega)) (obs_cons (decide_eq_true (by omega)) (obs_cons ((beq_toListBytes _ _).symm.trans h4) (obs_cons h3 (obs_cons (by simp) (obs_cons (by simp) (obs_cons h1 obs_nil)))))))))) (VRs.of_free rfl)
theorem leaf01L (s : ByteArray) (op : Int) (hop : op < 1) (hs : s.size ≤ 20) (hb : bb s = true) (w : World) : Calls Try.prog 4 #[.string s, .int .i64 op] w (Ret (.bool true) w) := by
  have h1 : decide ((s.size : Int) > 20) = false := decide_eq_false (by omega)
  skip
  have h3 : (!bb s) = false := by rw [hb]; rfl
  have h4 := nm_bn _ hb
  have q2 := bb_out op (.inl hop)
  have h5 : (bb (nm op) == false) = true := by rw [q2]; rfl
  have h6 : (!bb (nm op)) = true := by rw [q2]; rfl
  exact ret_known knownK 20000 (args := #[.string s, .int .i64 op]) (orc := orcs [(0, false), (1, true), (2, true), (3, false), (4, true), (5, false), (6, true), (7, true)] []) (ob := [(!bb (nm op), true), (bb (nm op) == false, true), (decide (op ≥ 1), false), ((nm (bn s)).toList == s.toList, true), (!bb s, false), (bb s == bb s, true), (bn s == bn s, true), (decide ((s.size : Int) > 20), false)]) w (by kernel_rfl) (obs_cons h6 (obs_cons h5 (obs_cons (decide_eq_false (by omega)) (obs_cons ((beq_toListBytes _ _).symm.trans h4) (obs_cons h3 (obs_cons (by simp) (obs_cons (by simp) (obs_cons h1 obs_nil)))))))) (VRs.of_free rfl)
theorem leaf01H (s : ByteArray) (op : Int) (hop : 20 < op) (hs : s.size ≤ 20) (hb : bb s = true) (w : World) : Calls Try.prog 4 #[.string s, .int .i64 op] w (Ret (.bool true) w) := by
  have h1 : decide ((s.size : Int) > 20) = false := decide_eq_false (by omega)
  skip
  have h3 : (!bb s) = false := by rw [hb]; rfl
  have h4 := nm_bn _ hb
  have q2 := bb_out op (.inr hop)
  have h5 : (bb (nm op) == false) = true := by rw [q2]; rfl
  have h6 : (!bb (nm op)) = true := by rw [q2]; rfl
  exact ret_known knownK 20000 (args := #[.string s, .int .i64 op]) (orc := orcs [(0, false), (1, true), (2, true), (3, false), (4, true), (5, true), (6, false), (7, true), (8, true)] []) (ob := [(!bb (nm op), true), (bb (nm op) == false, true), (decide (op ≤ 20), false), (decide (op ≥ 1), true), ((nm (bn s)).toList == s.toList, true), (!bb s, false), (bb s == bb s, true), (bn s == bn s, true), (decide ((s.size : Int) > 20), false)]) w (by kernel_rfl) (obs_cons h6 (obs_cons h5 (obs_cons (decide_eq_false (by omega)) (obs_cons (decide_eq_true (by omega)) (obs_cons ((beq_toListBytes _ _).symm.trans h4) (obs_cons h3 (obs_cons (by simp) (obs_cons (by simp) (obs_cons h1 obs_nil))))))))) (VRs.of_free rfl)
theorem leaf10I (s : ByteArray) (op : Int) (hop : 1 ≤ op ∧ op ≤ 20) (hs : 20 < s.size) (hb : bb (s.extract 0 20) = false) (w : World) : Calls Try.prog 4 #[.string s, .int .i64 op] w (Ret (.bool true) w) := by
  have h1 : decide ((s.size : Int) > 20) = true := decide_eq_true (by omega)
  have h2 : Nat.ble 20 s.size = true := Nat.ble_eq_true_of_le (by omega)
  have h3 : (!bb (s.extract 0 20)) = true := by rw [hb]; rfl
  skip
  obtain ⟨q1, q2⟩ := bn_nm op hop
  have h5 : (bb (nm op) == true) = true := by rw [q2]; rfl
  have h6 : (!bb (nm op)) = false := by rw [q2]; rfl
  have h7 : (bn (nm op) == op) = true := by rw [q1]; simp
  exact ret_known knownK 20000 (args := #[.string s, .int .i64 op]) (orc := orcs [(0, true), (1, true), (2, true), (3, true), (4, true), (5, true), (6, true), (7, true), (8, false), (9, true)] []) (ob := [(bn (nm op) == op, true), (!bb (nm op), false), (bb (nm op) == true, true), (decide (op ≤ 20), true), (decide (op ≥ 1), true), (!bb (s.extract 0 20), true), (bb (s.extract 0 20) == bb (s.extract 0 20), true), (bn (s.extract 0 20) == bn (s.extract 0 20), true), (Nat.ble 20 s.size, true), (decide ((s.size : Int) > 20), true)]) w (by kernel_rfl) (obs_cons h7 (obs_cons h6 (obs_cons h5 (obs_cons (decide_eq_true (by omega)) (obs_cons (decide_eq_true (by omega)) (obs_cons h3 (obs_cons (by simp) (obs_cons (by simp) (obs_cons h2 (obs_cons h1 obs_nil)))))))))) (VRs.of_free rfl)
theorem leaf10L (s : ByteArray) (op : Int) (hop : op < 1) (hs : 20 < s.size) (hb : bb (s.extract 0 20) = false) (w : World) : Calls Try.prog 4 #[.string s, .int .i64 op] w (Ret (.bool true) w) := by
  have h1 : decide ((s.size : Int) > 20) = true := decide_eq_true (by omega)
  have h2 : Nat.ble 20 s.size = true := Nat.ble_eq_true_of_le (by omega)
  have h3 : (!bb (s.extract 0 20)) = true := by rw [hb]; rfl
  skip
  have q2 := bb_out op (.inl hop)
  have h5 : (bb (nm op) == false) = true := by rw [q2]; rfl
  have h6 : (!bb (nm op)) = true := by rw [q2]; rfl
  exact ret_known knownK 20000 (args := #[.string s, .int .i64 op]) (orc := orcs [(0, true), (1, true), (2, true), (3, true), (4, true), (5, false), (6, true), (7, true)] []) (ob := [(!bb (nm op), true), (bb (nm op) == false, true), (decide (op ≥ 1), false), (!bb (s.extract 0 20), true), (bb (s.extract 0 20) == bb (s.extract 0 20), true), (bn (s.extract 0 20) == bn (s.extract 0 20), true), (Nat.ble 20 s.size, true), (decide ((s.size : Int) > 20), true)]) w (by kernel_rfl) (obs_cons h6 (obs_cons h5 (obs_cons (decide_eq_false (by omega)) (obs_cons h3 (obs_cons (by simp) (obs_cons (by simp) (obs_cons h2 (obs_cons h1 obs_nil)))))))) (VRs.of_free rfl)
theorem leaf10H (s : ByteArray) (op : Int) (hop : 20 < op) (hs : 20 < s.size) (hb : bb (s.extract 0 20) = false) (w : World) : Calls Try.prog 4 #[.string s, .int .i64 op] w (Ret (.bool true) w) := by
  have h1 : decide ((s.size : Int) > 20) = true := decide_eq_true (by omega)
  have h2 : Nat.ble 20 s.size = true := Nat.ble_eq_true_of_le (by omega)
  have h3 : (!bb (s.extract 0 20)) = true := by rw [hb]; rfl
  skip
  have q2 := bb_out op (.inr hop)
  have h5 : (bb (nm op) == false) = true := by rw [q2]; rfl
  have h6 : (!bb (nm op)) = true := by rw [q2]; rfl
  exact ret_known knownK 20000 (args := #[.string s, .int .i64 op]) (orc := orcs [(0, true), (1, true), (2, true), (3, true), (4, true), (5, true), (6, false), (7, true), (8, true)] []) (ob := [(!bb (nm op), true), (bb (nm op) == false, true), (decide (op ≤ 20), false), (decide (op ≥ 1), true), (!bb (s.extract 0 20), true), (bb (s.extract 0 20) == bb (s.extract 0 20), true), (bn (s.extract 0 20) == bn (s.extract 0 20), true), (Nat.ble 20 s.size, true), (decide ((s.size : Int) > 20), true)]) w (by kernel_rfl) (obs_cons h6 (obs_cons h5 (obs_cons (decide_eq_false (by omega)) (obs_cons (decide_eq_true (by omega)) (obs_cons h3 (obs_cons (by simp) (obs_cons (by simp) (obs_cons h2 (obs_cons h1 obs_nil))))))))) (VRs.of_free rfl)
theorem leaf11I (s : ByteArray) (op : Int) (hop : 1 ≤ op ∧ op ≤ 20) (hs : 20 < s.size) (hb : bb (s.extract 0 20) = true) (w : World) : Calls Try.prog 4 #[.string s, .int .i64 op] w (Ret (.bool true) w) := by
  have h1 : decide ((s.size : Int) > 20) = true := decide_eq_true (by omega)
  have h2 : Nat.ble 20 s.size = true := Nat.ble_eq_true_of_le (by omega)
  have h3 : (!bb (s.extract 0 20)) = false := by rw [hb]; rfl
  have h4 := nm_bn _ hb
  obtain ⟨q1, q2⟩ := bn_nm op hop
  have h5 : (bb (nm op) == true) = true := by rw [q2]; rfl
  have h6 : (!bb (nm op)) = false := by rw [q2]; rfl
  have h7 : (bn (nm op) == op) = true := by rw [q1]; simp
  exact ret_known knownK 20000 (args := #[.string s, .int .i64 op]) (orc := orcs [(0, true), (1, true), (2, true), (3, true), (4, false), (5, true), (6, true), (7, true), (8, true), (9, false), (10, true)] []) (ob := [(bn (nm op) == op, true), (!bb (nm op), false), (bb (nm op) == true, true), (decide (op ≤ 20), true), (decide (op ≥ 1), true), ((nm (bn (s.extract 0 20))).toList == (s.extract 0 20).toList, true), (!bb (s.extract 0 20), false), (bb (s.extract 0 20) == bb (s.extract 0 20), true), (bn (s.extract 0 20) == bn (s.extract 0 20), true), (Nat.ble 20 s.size, true), (decide ((s.size : Int) > 20), true)]) w (by kernel_rfl) (obs_cons h7 (obs_cons h6 (obs_cons h5 (obs_cons (decide_eq_true (by omega)) (obs_cons (decide_eq_true (by omega)) (obs_cons ((beq_toListBytes _ _).symm.trans h4) (obs_cons h3 (obs_cons (by simp) (obs_cons (by simp) (obs_cons h2 (obs_cons h1 obs_nil))))))))))) (VRs.of_free rfl)
theorem leaf11L (s : ByteArray) (op : Int) (hop : op < 1) (hs : 20 < s.size) (hb : bb (s.extract 0 20) = true) (w : World) : Calls Try.prog 4 #[.string s, .int .i64 op] w (Ret (.bool true) w) := by
  have h1 : decide ((s.size : Int) > 20) = true := decide_eq_true (by omega)
  have h2 : Nat.ble 20 s.size = true := Nat.ble_eq_true_of_le (by omega)
  have h3 : (!bb (s.extract 0 20)) = false := by rw [hb]; rfl
  have h4 := nm_bn _ hb
  have q2 := bb_out op (.inl hop)
  have h5 : (bb (nm op) == false) = true := by rw [q2]; rfl
  have h6 : (!bb (nm op)) = true := by rw [q2]; rfl
  exact ret_known knownK 20000 (args := #[.string s, .int .i64 op]) (orc := orcs [(0, true), (1, true), (2, true), (3, true), (4, false), (5, true), (6, false), (7, true), (8, true)] []) (ob := [(!bb (nm op), true), (bb (nm op) == false, true), (decide (op ≥ 1), false), ((nm (bn (s.extract 0 20))).toList == (s.extract 0 20).toList, true), (!bb (s.extract 0 20), false), (bb (s.extract 0 20) == bb (s.extract 0 20), true), (bn (s.extract 0 20) == bn (s.extract 0 20), true), (Nat.ble 20 s.size, true), (decide ((s.size : Int) > 20), true)]) w (by kernel_rfl) (obs_cons h6 (obs_cons h5 (obs_cons (decide_eq_false (by omega)) (obs_cons ((beq_toListBytes _ _).symm.trans h4) (obs_cons h3 (obs_cons (by simp) (obs_cons (by simp) (obs_cons h2 (obs_cons h1 obs_nil))))))))) (VRs.of_free rfl)
theorem leaf11H (s : ByteArray) (op : Int) (hop : 20 < op) (hs : 20 < s.size) (hb : bb (s.extract 0 20) = true) (w : World) : Calls Try.prog 4 #[.string s, .int .i64 op] w (Ret (.bool true) w) := by
  have h1 : decide ((s.size : Int) > 20) = true := decide_eq_true (by omega)
  have h2 : Nat.ble 20 s.size = true := Nat.ble_eq_true_of_le (by omega)
  have h3 : (!bb (s.extract 0 20)) = false := by rw [hb]; rfl
  have h4 := nm_bn _ hb
  have q2 := bb_out op (.inr hop)
  have h5 : (bb (nm op) == false) = true := by rw [q2]; rfl
  have h6 : (!bb (nm op)) = true := by rw [q2]; rfl
  exact ret_known knownK 20000 (args := #[.string s, .int .i64 op]) (orc := orcs [(0, true), (1, true), (2, true), (3, true), (4, false), (5, true), (6, true), (7, false), (8, true), (9, true)] []) (ob := [(!bb (nm op), true), (bb (nm op) == false, true), (decide (op ≤ 20), false), (decide (op ≥ 1), true), ((nm (bn (s.extract 0 20))).toList == (s.extract 0 20).toList, true), (!bb (s.extract 0 20), false), (bb (s.extract 0 20) == bb (s.extract 0 20), true), (bn (s.extract 0 20) == bn (s.extract 0 20), true), (Nat.ble 20 s.size, true), (decide ((s.size : Int) > 20), true)]) w (by kernel_rfl) (obs_cons h6 (obs_cons h5 (obs_cons (decide_eq_false (by omega)) (obs_cons (decide_eq_true (by omega)) (obs_cons ((beq_toListBytes _ _).symm.trans h4) (obs_cons h3 (obs_cons (by simp) (obs_cons (by simp) (obs_cons h2 (obs_cons h1 obs_nil)))))))))) (VRs.of_free rfl)
end Ev
end Go.Proofs.Ytiiemakdpibncaa
