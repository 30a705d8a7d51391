/- The law RegsTold, for every input, by the runner. -/
import Derived.Test.YtnahodeffgoccaaRgTt
namespace Go.Proofs.Ytnahodeffgoccaa
open Go.ChangeShapes Go.WideShapes Go.ChangeAt Go.RowKit
namespace Ev

noncomputable def cellTs0 : List TypeId := (Try.prog.cellTypes Try.prog.depth 25).getD []
noncomputable def cellTs1 : List TypeId := (Try.prog.cellTypes Try.prog.depth 28).getD []
noncomputable def cellTs3 : List TypeId := (Try.prog.cellTypes Try.prog.depth 24).getD []
set_option maxRecDepth 100000
theorem atv0 (k0 : Int) (n0 : Int) (k1 : Int) (n1 : Int) (k2 : Int) (n2 : Int) (k3 : Int) (n3 : Int) (k4 : Int) (n4 : Int) (k5 : Int) (n5 : Int) (k6 : Int) (n6 : Int) (k7 : Int) (n7 : Int) (op : Int) (a : Int) (b : Int) (c : Int) (vk : Int) (vn : Int) (w : World) : Calls Try.prog 4 (tArgs k0 n0 k1 n1 k2 n2 k3 n3 k4 n4 k5 n5 k6 n6 k7 n7 op a b c 0 vk vn) w (Ret (.bool true) w) := by
  have hc : a < 0 ∨ 7 < a ∨ a = 0 ∨ a = 1 ∨ a = 2 ∨ a = 3 ∨ a = 4 ∨ a = 5 ∨ a = 6 ∨ a = 7 := by omega
  rcases hc with ha | ha | rfl | rfl | rfl | rfl | rfl | rfl | rfl | rfl
  · exact t0aL k0 n0 k1 n1 k2 n2 k3 n3 k4 n4 k5 n5 k6 n6 k7 n7 op a b c vk vn ha w
  · exact t0aH k0 n0 k1 n1 k2 n2 k3 n3 k4 n4 k5 n5 k6 n6 k7 n7 op a b c vk vn ha w
  · exact t0a0 k0 n0 k1 n1 k2 n2 k3 n3 k4 n4 k5 n5 k6 n6 k7 n7 op b c vk vn w
  · exact t0a1 k0 n0 k1 n1 k2 n2 k3 n3 k4 n4 k5 n5 k6 n6 k7 n7 op b c vk vn w
  · exact t0a2 k0 n0 k1 n1 k2 n2 k3 n3 k4 n4 k5 n5 k6 n6 k7 n7 op b c vk vn w
  · exact t0a3 k0 n0 k1 n1 k2 n2 k3 n3 k4 n4 k5 n5 k6 n6 k7 n7 op b c vk vn w
  · exact t0a4 k0 n0 k1 n1 k2 n2 k3 n3 k4 n4 k5 n5 k6 n6 k7 n7 op b c vk vn w
  · exact t0a5 k0 n0 k1 n1 k2 n2 k3 n3 k4 n4 k5 n5 k6 n6 k7 n7 op b c vk vn w
  · exact t0a6 k0 n0 k1 n1 k2 n2 k3 n3 k4 n4 k5 n5 k6 n6 k7 n7 op b c vk vn w
  · exact t0a7 k0 n0 k1 n1 k2 n2 k3 n3 k4 n4 k5 n5 k6 n6 k7 n7 op b c vk vn w
theorem atv1 (k0 : Int) (n0 : Int) (k1 : Int) (n1 : Int) (k2 : Int) (n2 : Int) (k3 : Int) (n3 : Int) (k4 : Int) (n4 : Int) (k5 : Int) (n5 : Int) (k6 : Int) (n6 : Int) (k7 : Int) (n7 : Int) (op : Int) (a : Int) (b : Int) (c : Int) (vk : Int) (vn : Int) (w : World) : Calls Try.prog 4 (tArgs k0 n0 k1 n1 k2 n2 k3 n3 k4 n4 k5 n5 k6 n6 k7 n7 op a b c 1 vk vn) w (Ret (.bool true) w) := by
  have hc : a < 0 ∨ 7 < a ∨ a = 0 ∨ a = 1 ∨ a = 2 ∨ a = 3 ∨ a = 4 ∨ a = 5 ∨ a = 6 ∨ a = 7 := by omega
  rcases hc with ha | ha | rfl | rfl | rfl | rfl | rfl | rfl | rfl | rfl
  · exact t1aL k0 n0 k1 n1 k2 n2 k3 n3 k4 n4 k5 n5 k6 n6 k7 n7 op a b c vk vn ha w
  · exact t1aH k0 n0 k1 n1 k2 n2 k3 n3 k4 n4 k5 n5 k6 n6 k7 n7 op a b c vk vn ha w
  · exact t1a0 k0 n0 k1 n1 k2 n2 k3 n3 k4 n4 k5 n5 k6 n6 k7 n7 op b c vk vn w
  · exact t1a1 k0 n0 k1 n1 k2 n2 k3 n3 k4 n4 k5 n5 k6 n6 k7 n7 op b c vk vn w
  · exact t1a2 k0 n0 k1 n1 k2 n2 k3 n3 k4 n4 k5 n5 k6 n6 k7 n7 op b c vk vn w
  · exact t1a3 k0 n0 k1 n1 k2 n2 k3 n3 k4 n4 k5 n5 k6 n6 k7 n7 op b c vk vn w
  · exact t1a4 k0 n0 k1 n1 k2 n2 k3 n3 k4 n4 k5 n5 k6 n6 k7 n7 op b c vk vn w
  · exact t1a5 k0 n0 k1 n1 k2 n2 k3 n3 k4 n4 k5 n5 k6 n6 k7 n7 op b c vk vn w
  · exact t1a6 k0 n0 k1 n1 k2 n2 k3 n3 k4 n4 k5 n5 k6 n6 k7 n7 op b c vk vn w
  · exact t1a7 k0 n0 k1 n1 k2 n2 k3 n3 k4 n4 k5 n5 k6 n6 k7 n7 op b c vk vn w
theorem atv2 (k0 : Int) (n0 : Int) (k1 : Int) (n1 : Int) (k2 : Int) (n2 : Int) (k3 : Int) (n3 : Int) (k4 : Int) (n4 : Int) (k5 : Int) (n5 : Int) (k6 : Int) (n6 : Int) (k7 : Int) (n7 : Int) (op : Int) (a : Int) (b : Int) (c : Int) (vk : Int) (vn : Int) (w : World) : Calls Try.prog 4 (tArgs k0 n0 k1 n1 k2 n2 k3 n3 k4 n4 k5 n5 k6 n6 k7 n7 op a b c 2 vk vn) w (Ret (.bool true) w) := by
  have hc : a < 0 ∨ 7 < a ∨ a = 0 ∨ a = 1 ∨ a = 2 ∨ a = 3 ∨ a = 4 ∨ a = 5 ∨ a = 6 ∨ a = 7 := by omega
  rcases hc with ha | ha | rfl | rfl | rfl | rfl | rfl | rfl | rfl | rfl
  · exact t2aL k0 n0 k1 n1 k2 n2 k3 n3 k4 n4 k5 n5 k6 n6 k7 n7 op a b c vk vn ha w
  · exact t2aH k0 n0 k1 n1 k2 n2 k3 n3 k4 n4 k5 n5 k6 n6 k7 n7 op a b c vk vn ha w
  · exact t2a0 k0 n0 k1 n1 k2 n2 k3 n3 k4 n4 k5 n5 k6 n6 k7 n7 op b c vk vn w
  · exact t2a1 k0 n0 k1 n1 k2 n2 k3 n3 k4 n4 k5 n5 k6 n6 k7 n7 op b c vk vn w
  · exact t2a2 k0 n0 k1 n1 k2 n2 k3 n3 k4 n4 k5 n5 k6 n6 k7 n7 op b c vk vn w
  · exact t2a3 k0 n0 k1 n1 k2 n2 k3 n3 k4 n4 k5 n5 k6 n6 k7 n7 op b c vk vn w
  · exact t2a4 k0 n0 k1 n1 k2 n2 k3 n3 k4 n4 k5 n5 k6 n6 k7 n7 op b c vk vn w
  · exact t2a5 k0 n0 k1 n1 k2 n2 k3 n3 k4 n4 k5 n5 k6 n6 k7 n7 op b c vk vn w
  · exact t2a6 k0 n0 k1 n1 k2 n2 k3 n3 k4 n4 k5 n5 k6 n6 k7 n7 op b c vk vn w
  · exact t2a7 k0 n0 k1 n1 k2 n2 k3 n3 k4 n4 k5 n5 k6 n6 k7 n7 op b c vk vn w
theorem atv3 (k0 : Int) (n0 : Int) (k1 : Int) (n1 : Int) (k2 : Int) (n2 : Int) (k3 : Int) (n3 : Int) (k4 : Int) (n4 : Int) (k5 : Int) (n5 : Int) (k6 : Int) (n6 : Int) (k7 : Int) (n7 : Int) (op : Int) (a : Int) (b : Int) (c : Int) (vk : Int) (vn : Int) (w : World) : Calls Try.prog 4 (tArgs k0 n0 k1 n1 k2 n2 k3 n3 k4 n4 k5 n5 k6 n6 k7 n7 op a b c 3 vk vn) w (Ret (.bool true) w) := by
  have hc : a < 0 ∨ 7 < a ∨ a = 0 ∨ a = 1 ∨ a = 2 ∨ a = 3 ∨ a = 4 ∨ a = 5 ∨ a = 6 ∨ a = 7 := by omega
  rcases hc with ha | ha | rfl | rfl | rfl | rfl | rfl | rfl | rfl | rfl
  · exact t3aL k0 n0 k1 n1 k2 n2 k3 n3 k4 n4 k5 n5 k6 n6 k7 n7 op a b c vk vn ha w
  · exact t3aH k0 n0 k1 n1 k2 n2 k3 n3 k4 n4 k5 n5 k6 n6 k7 n7 op a b c vk vn ha w
  · exact t3a0 k0 n0 k1 n1 k2 n2 k3 n3 k4 n4 k5 n5 k6 n6 k7 n7 op b c vk vn w
  · exact t3a1 k0 n0 k1 n1 k2 n2 k3 n3 k4 n4 k5 n5 k6 n6 k7 n7 op b c vk vn w
  · exact t3a2 k0 n0 k1 n1 k2 n2 k3 n3 k4 n4 k5 n5 k6 n6 k7 n7 op b c vk vn w
  · exact t3a3 k0 n0 k1 n1 k2 n2 k3 n3 k4 n4 k5 n5 k6 n6 k7 n7 op b c vk vn w
  · exact t3a4 k0 n0 k1 n1 k2 n2 k3 n3 k4 n4 k5 n5 k6 n6 k7 n7 op b c vk vn w
  · exact t3a5 k0 n0 k1 n1 k2 n2 k3 n3 k4 n4 k5 n5 k6 n6 k7 n7 op b c vk vn w
  · exact t3a6 k0 n0 k1 n1 k2 n2 k3 n3 k4 n4 k5 n5 k6 n6 k7 n7 op b c vk vn w
  · exact t3a7 k0 n0 k1 n1 k2 n2 k3 n3 k4 n4 k5 n5 k6 n6 k7 n7 op b c vk vn w
theorem atv4 (k0 : Int) (n0 : Int) (k1 : Int) (n1 : Int) (k2 : Int) (n2 : Int) (k3 : Int) (n3 : Int) (k4 : Int) (n4 : Int) (k5 : Int) (n5 : Int) (k6 : Int) (n6 : Int) (k7 : Int) (n7 : Int) (op : Int) (a : Int) (b : Int) (c : Int) (vk : Int) (vn : Int) (w : World) : Calls Try.prog 4 (tArgs k0 n0 k1 n1 k2 n2 k3 n3 k4 n4 k5 n5 k6 n6 k7 n7 op a b c 4 vk vn) w (Ret (.bool true) w) := by
  have hc : a < 0 ∨ 7 < a ∨ a = 0 ∨ a = 1 ∨ a = 2 ∨ a = 3 ∨ a = 4 ∨ a = 5 ∨ a = 6 ∨ a = 7 := by omega
  rcases hc with ha | ha | rfl | rfl | rfl | rfl | rfl | rfl | rfl | rfl
  · exact t4aL k0 n0 k1 n1 k2 n2 k3 n3 k4 n4 k5 n5 k6 n6 k7 n7 op a b c vk vn ha w
  · exact t4aH k0 n0 k1 n1 k2 n2 k3 n3 k4 n4 k5 n5 k6 n6 k7 n7 op a b c vk vn ha w
  · exact t4a0 k0 n0 k1 n1 k2 n2 k3 n3 k4 n4 k5 n5 k6 n6 k7 n7 op b c vk vn w
  · exact t4a1 k0 n0 k1 n1 k2 n2 k3 n3 k4 n4 k5 n5 k6 n6 k7 n7 op b c vk vn w
  · exact t4a2 k0 n0 k1 n1 k2 n2 k3 n3 k4 n4 k5 n5 k6 n6 k7 n7 op b c vk vn w
  · exact t4a3 k0 n0 k1 n1 k2 n2 k3 n3 k4 n4 k5 n5 k6 n6 k7 n7 op b c vk vn w
  · exact t4a4 k0 n0 k1 n1 k2 n2 k3 n3 k4 n4 k5 n5 k6 n6 k7 n7 op b c vk vn w
  · exact t4a5 k0 n0 k1 n1 k2 n2 k3 n3 k4 n4 k5 n5 k6 n6 k7 n7 op b c vk vn w
  · exact t4a6 k0 n0 k1 n1 k2 n2 k3 n3 k4 n4 k5 n5 k6 n6 k7 n7 op b c vk vn w
  · exact t4a7 k0 n0 k1 n1 k2 n2 k3 n3 k4 n4 k5 n5 k6 n6 k7 n7 op b c vk vn w
theorem atv5 (k0 : Int) (n0 : Int) (k1 : Int) (n1 : Int) (k2 : Int) (n2 : Int) (k3 : Int) (n3 : Int) (k4 : Int) (n4 : Int) (k5 : Int) (n5 : Int) (k6 : Int) (n6 : Int) (k7 : Int) (n7 : Int) (op : Int) (a : Int) (b : Int) (c : Int) (vk : Int) (vn : Int) (w : World) : Calls Try.prog 4 (tArgs k0 n0 k1 n1 k2 n2 k3 n3 k4 n4 k5 n5 k6 n6 k7 n7 op a b c 5 vk vn) w (Ret (.bool true) w) := by
  have hc : a < 0 ∨ 7 < a ∨ a = 0 ∨ a = 1 ∨ a = 2 ∨ a = 3 ∨ a = 4 ∨ a = 5 ∨ a = 6 ∨ a = 7 := by omega
  rcases hc with ha | ha | rfl | rfl | rfl | rfl | rfl | rfl | rfl | rfl
  · exact t5aL k0 n0 k1 n1 k2 n2 k3 n3 k4 n4 k5 n5 k6 n6 k7 n7 op a b c vk vn ha w
  · exact t5aH k0 n0 k1 n1 k2 n2 k3 n3 k4 n4 k5 n5 k6 n6 k7 n7 op a b c vk vn ha w
  · exact t5a0 k0 n0 k1 n1 k2 n2 k3 n3 k4 n4 k5 n5 k6 n6 k7 n7 op b c vk vn w
  · exact t5a1 k0 n0 k1 n1 k2 n2 k3 n3 k4 n4 k5 n5 k6 n6 k7 n7 op b c vk vn w
  · exact t5a2 k0 n0 k1 n1 k2 n2 k3 n3 k4 n4 k5 n5 k6 n6 k7 n7 op b c vk vn w
  · exact t5a3 k0 n0 k1 n1 k2 n2 k3 n3 k4 n4 k5 n5 k6 n6 k7 n7 op b c vk vn w
  · exact t5a4 k0 n0 k1 n1 k2 n2 k3 n3 k4 n4 k5 n5 k6 n6 k7 n7 op b c vk vn w
  · exact t5a5 k0 n0 k1 n1 k2 n2 k3 n3 k4 n4 k5 n5 k6 n6 k7 n7 op b c vk vn w
  · exact t5a6 k0 n0 k1 n1 k2 n2 k3 n3 k4 n4 k5 n5 k6 n6 k7 n7 op b c vk vn w
  · exact t5a7 k0 n0 k1 n1 k2 n2 k3 n3 k4 n4 k5 n5 k6 n6 k7 n7 op b c vk vn w
theorem atv6 (k0 : Int) (n0 : Int) (k1 : Int) (n1 : Int) (k2 : Int) (n2 : Int) (k3 : Int) (n3 : Int) (k4 : Int) (n4 : Int) (k5 : Int) (n5 : Int) (k6 : Int) (n6 : Int) (k7 : Int) (n7 : Int) (op : Int) (a : Int) (b : Int) (c : Int) (vk : Int) (vn : Int) (w : World) : Calls Try.prog 4 (tArgs k0 n0 k1 n1 k2 n2 k3 n3 k4 n4 k5 n5 k6 n6 k7 n7 op a b c 6 vk vn) w (Ret (.bool true) w) := by
  have hc : a < 0 ∨ 7 < a ∨ a = 0 ∨ a = 1 ∨ a = 2 ∨ a = 3 ∨ a = 4 ∨ a = 5 ∨ a = 6 ∨ a = 7 := by omega
  rcases hc with ha | ha | rfl | rfl | rfl | rfl | rfl | rfl | rfl | rfl
  · exact t6aL k0 n0 k1 n1 k2 n2 k3 n3 k4 n4 k5 n5 k6 n6 k7 n7 op a b c vk vn ha w
  · exact t6aH k0 n0 k1 n1 k2 n2 k3 n3 k4 n4 k5 n5 k6 n6 k7 n7 op a b c vk vn ha w
  · exact t6a0 k0 n0 k1 n1 k2 n2 k3 n3 k4 n4 k5 n5 k6 n6 k7 n7 op b c vk vn w
  · exact t6a1 k0 n0 k1 n1 k2 n2 k3 n3 k4 n4 k5 n5 k6 n6 k7 n7 op b c vk vn w
  · exact t6a2 k0 n0 k1 n1 k2 n2 k3 n3 k4 n4 k5 n5 k6 n6 k7 n7 op b c vk vn w
  · exact t6a3 k0 n0 k1 n1 k2 n2 k3 n3 k4 n4 k5 n5 k6 n6 k7 n7 op b c vk vn w
  · exact t6a4 k0 n0 k1 n1 k2 n2 k3 n3 k4 n4 k5 n5 k6 n6 k7 n7 op b c vk vn w
  · exact t6a5 k0 n0 k1 n1 k2 n2 k3 n3 k4 n4 k5 n5 k6 n6 k7 n7 op b c vk vn w
  · exact t6a6 k0 n0 k1 n1 k2 n2 k3 n3 k4 n4 k5 n5 k6 n6 k7 n7 op b c vk vn w
  · exact t6a7 k0 n0 k1 n1 k2 n2 k3 n3 k4 n4 k5 n5 k6 n6 k7 n7 op b c vk vn w
theorem atv7 (k0 : Int) (n0 : Int) (k1 : Int) (n1 : Int) (k2 : Int) (n2 : Int) (k3 : Int) (n3 : Int) (k4 : Int) (n4 : Int) (k5 : Int) (n5 : Int) (k6 : Int) (n6 : Int) (k7 : Int) (n7 : Int) (op : Int) (a : Int) (b : Int) (c : Int) (vk : Int) (vn : Int) (w : World) : Calls Try.prog 4 (tArgs k0 n0 k1 n1 k2 n2 k3 n3 k4 n4 k5 n5 k6 n6 k7 n7 op a b c 7 vk vn) w (Ret (.bool true) w) := by
  have hc : a < 0 ∨ 7 < a ∨ a = 0 ∨ a = 1 ∨ a = 2 ∨ a = 3 ∨ a = 4 ∨ a = 5 ∨ a = 6 ∨ a = 7 := by omega
  rcases hc with ha | ha | rfl | rfl | rfl | rfl | rfl | rfl | rfl | rfl
  · exact t7aL k0 n0 k1 n1 k2 n2 k3 n3 k4 n4 k5 n5 k6 n6 k7 n7 op a b c vk vn ha w
  · exact t7aH k0 n0 k1 n1 k2 n2 k3 n3 k4 n4 k5 n5 k6 n6 k7 n7 op a b c vk vn ha w
  · exact t7a0 k0 n0 k1 n1 k2 n2 k3 n3 k4 n4 k5 n5 k6 n6 k7 n7 op b c vk vn w
  · exact t7a1 k0 n0 k1 n1 k2 n2 k3 n3 k4 n4 k5 n5 k6 n6 k7 n7 op b c vk vn w
  · exact t7a2 k0 n0 k1 n1 k2 n2 k3 n3 k4 n4 k5 n5 k6 n6 k7 n7 op b c vk vn w
  · exact t7a3 k0 n0 k1 n1 k2 n2 k3 n3 k4 n4 k5 n5 k6 n6 k7 n7 op b c vk vn w
  · exact t7a4 k0 n0 k1 n1 k2 n2 k3 n3 k4 n4 k5 n5 k6 n6 k7 n7 op b c vk vn w
  · exact t7a5 k0 n0 k1 n1 k2 n2 k3 n3 k4 n4 k5 n5 k6 n6 k7 n7 op b c vk vn w
  · exact t7a6 k0 n0 k1 n1 k2 n2 k3 n3 k4 n4 k5 n5 k6 n6 k7 n7 op b c vk vn w
  · exact t7a7 k0 n0 k1 n1 k2 n2 k3 n3 k4 n4 k5 n5 k6 n6 k7 n7 op b c vk vn w
theorem atvL (k0 : Int) (n0 : Int) (k1 : Int) (n1 : Int) (k2 : Int) (n2 : Int) (k3 : Int) (n3 : Int) (k4 : Int) (n4 : Int) (k5 : Int) (n5 : Int) (k6 : Int) (n6 : Int) (k7 : Int) (n7 : Int) (op : Int) (a : Int) (b : Int) (c : Int) (at_ : Int) (vk : Int) (vn : Int) (hat : at_ < 0) (w : World) : Calls Try.prog 4 (tArgs k0 n0 k1 n1 k2 n2 k3 n3 k4 n4 k5 n5 k6 n6 k7 n7 op a b c at_ vk vn) w (Ret (.bool true) w) := by
  have hc : a < 0 ∨ 7 < a ∨ a = 0 ∨ a = 1 ∨ a = 2 ∨ a = 3 ∨ a = 4 ∨ a = 5 ∨ a = 6 ∨ a = 7 := by omega
  rcases hc with ha | ha | rfl | rfl | rfl | rfl | rfl | rfl | rfl | rfl
  · exact tLaL k0 n0 k1 n1 k2 n2 k3 n3 k4 n4 k5 n5 k6 n6 k7 n7 op a b c at_ vk vn hat ha w
  · exact tLaH k0 n0 k1 n1 k2 n2 k3 n3 k4 n4 k5 n5 k6 n6 k7 n7 op a b c at_ vk vn hat ha w
  · exact tLa0 k0 n0 k1 n1 k2 n2 k3 n3 k4 n4 k5 n5 k6 n6 k7 n7 op b c at_ vk vn hat w
  · exact tLa1 k0 n0 k1 n1 k2 n2 k3 n3 k4 n4 k5 n5 k6 n6 k7 n7 op b c at_ vk vn hat w
  · exact tLa2 k0 n0 k1 n1 k2 n2 k3 n3 k4 n4 k5 n5 k6 n6 k7 n7 op b c at_ vk vn hat w
  · exact tLa3 k0 n0 k1 n1 k2 n2 k3 n3 k4 n4 k5 n5 k6 n6 k7 n7 op b c at_ vk vn hat w
  · exact tLa4 k0 n0 k1 n1 k2 n2 k3 n3 k4 n4 k5 n5 k6 n6 k7 n7 op b c at_ vk vn hat w
  · exact tLa5 k0 n0 k1 n1 k2 n2 k3 n3 k4 n4 k5 n5 k6 n6 k7 n7 op b c at_ vk vn hat w
  · exact tLa6 k0 n0 k1 n1 k2 n2 k3 n3 k4 n4 k5 n5 k6 n6 k7 n7 op b c at_ vk vn hat w
  · exact tLa7 k0 n0 k1 n1 k2 n2 k3 n3 k4 n4 k5 n5 k6 n6 k7 n7 op b c at_ vk vn hat w
theorem atvH (k0 : Int) (n0 : Int) (k1 : Int) (n1 : Int) (k2 : Int) (n2 : Int) (k3 : Int) (n3 : Int) (k4 : Int) (n4 : Int) (k5 : Int) (n5 : Int) (k6 : Int) (n6 : Int) (k7 : Int) (n7 : Int) (op : Int) (a : Int) (b : Int) (c : Int) (at_ : Int) (vk : Int) (vn : Int) (hat : 7 < at_) (w : World) : Calls Try.prog 4 (tArgs k0 n0 k1 n1 k2 n2 k3 n3 k4 n4 k5 n5 k6 n6 k7 n7 op a b c at_ vk vn) w (Ret (.bool true) w) := by
  have hc : a < 0 ∨ 7 < a ∨ a = 0 ∨ a = 1 ∨ a = 2 ∨ a = 3 ∨ a = 4 ∨ a = 5 ∨ a = 6 ∨ a = 7 := by omega
  rcases hc with ha | ha | rfl | rfl | rfl | rfl | rfl | rfl | rfl | rfl
  · exact tHaL k0 n0 k1 n1 k2 n2 k3 n3 k4 n4 k5 n5 k6 n6 k7 n7 op a b c at_ vk vn hat ha w
  · exact tHaH k0 n0 k1 n1 k2 n2 k3 n3 k4 n4 k5 n5 k6 n6 k7 n7 op a b c at_ vk vn hat ha w
  · exact tHa0 k0 n0 k1 n1 k2 n2 k3 n3 k4 n4 k5 n5 k6 n6 k7 n7 op b c at_ vk vn hat w
  · exact tHa1 k0 n0 k1 n1 k2 n2 k3 n3 k4 n4 k5 n5 k6 n6 k7 n7 op b c at_ vk vn hat w
  · exact tHa2 k0 n0 k1 n1 k2 n2 k3 n3 k4 n4 k5 n5 k6 n6 k7 n7 op b c at_ vk vn hat w
  · exact tHa3 k0 n0 k1 n1 k2 n2 k3 n3 k4 n4 k5 n5 k6 n6 k7 n7 op b c at_ vk vn hat w
  · exact tHa4 k0 n0 k1 n1 k2 n2 k3 n3 k4 n4 k5 n5 k6 n6 k7 n7 op b c at_ vk vn hat w
  · exact tHa5 k0 n0 k1 n1 k2 n2 k3 n3 k4 n4 k5 n5 k6 n6 k7 n7 op b c at_ vk vn hat w
  · exact tHa6 k0 n0 k1 n1 k2 n2 k3 n3 k4 n4 k5 n5 k6 n6 k7 n7 op b c at_ vk vn hat w
  · exact tHa7 k0 n0 k1 n1 k2 n2 k3 n3 k4 n4 k5 n5 k6 n6 k7 n7 op b c at_ vk vn hat w
theorem walk (k0 : Int) (n0 : Int) (k1 : Int) (n1 : Int) (k2 : Int) (n2 : Int) (k3 : Int) (n3 : Int) (k4 : Int) (n4 : Int) (k5 : Int) (n5 : Int) (k6 : Int) (n6 : Int) (k7 : Int) (n7 : Int) (op : Int) (a : Int) (b : Int) (c : Int) (at_ : Int) (vk : Int) (vn : Int) (w : World) : Calls Try.prog 4 #[.agg #[.int .i64 k0, .int .i64 n0, .int .i64 k1, .int .i64 n1, .int .i64 k2, .int .i64 n2, .int .i64 k3, .int .i64 n3, .int .i64 k4, .int .i64 n4, .int .i64 k5, .int .i64 n5, .int .i64 k6, .int .i64 n6, .int .i64 k7, .int .i64 n7], .agg #[.int .i64 op, .int .i64 a, .int .i64 b, .int .i64 c], .int .i64 at_, .agg #[.int .i64 vk, .int .i64 vn]] w (Ret (.bool true) w) := by
  show Calls Try.prog _ (tArgs k0 n0 k1 n1 k2 n2 k3 n3 k4 n4 k5 n5 k6 n6 k7 n7 op a b c at_ vk vn) w _
  have hc : at_ < 0 ∨ 7 < at_ ∨ at_ = 0 ∨ at_ = 1 ∨ at_ = 2 ∨ at_ = 3 ∨ at_ = 4 ∨ at_ = 5 ∨ at_ = 6 ∨ at_ = 7 := by omega
  rcases hc with hat | hat | rfl | rfl | rfl | rfl | rfl | rfl | rfl | rfl
  · exact atvL k0 n0 k1 n1 k2 n2 k3 n3 k4 n4 k5 n5 k6 n6 k7 n7 op a b c at_ vk vn hat w
  · exact atvH k0 n0 k1 n1 k2 n2 k3 n3 k4 n4 k5 n5 k6 n6 k7 n7 op a b c at_ vk vn hat w
  · exact atv0 k0 n0 k1 n1 k2 n2 k3 n3 k4 n4 k5 n5 k6 n6 k7 n7 op a b c vk vn w
  · exact atv1 k0 n0 k1 n1 k2 n2 k3 n3 k4 n4 k5 n5 k6 n6 k7 n7 op a b c vk vn w
  · exact atv2 k0 n0 k1 n1 k2 n2 k3 n3 k4 n4 k5 n5 k6 n6 k7 n7 op a b c vk vn w
  · exact atv3 k0 n0 k1 n1 k2 n2 k3 n3 k4 n4 k5 n5 k6 n6 k7 n7 op a b c vk vn w
  · exact atv4 k0 n0 k1 n1 k2 n2 k3 n3 k4 n4 k5 n5 k6 n6 k7 n7 op a b c vk vn w
  · exact atv5 k0 n0 k1 n1 k2 n2 k3 n3 k4 n4 k5 n5 k6 n6 k7 n7 op a b c vk vn w
  · exact atv6 k0 n0 k1 n1 k2 n2 k3 n3 k4 n4 k5 n5 k6 n6 k7 n7 op a b c vk vn w
  · exact atv7 k0 n0 k1 n1 k2 n2 k3 n3 k4 n4 k5 n5 k6 n6 k7 n7 op a b c vk vn w
namespace RegsTold

theorem own : ownKnob Try.prog.godebug = none := by kernel_rfl
set_option maxRecDepth 100000 in
theorem lifted (os : Os) (started : os.Started) (H : Type) (enc : TypeId × Value → H) :
    ReturnsInHanded {} Try.checked os 4 .any (Rows.regsToldSpec.pre6 enc Try.prog Try.f4 Rows.regsToldRow.domain false) (Rows.regsToldSpec.post enc Try.prog Try.f4 false true false false) := by
  refine law_frame (C := Try.checked) own started (by kernel_rfl) Try.func4 rfl rfl Try.underlying4 ?_ (by kernel_rfl) (by kernel_rfl)
    (ChangeSpec.witness6 (enc := enc) (C := Try.checked) false ⟨#[], #[.agg #[.int .i64 0, .int .i64 0, .int .i64 0, .int .i64 0, .int .i64 0, .int .i64 0, .int .i64 0, .int .i64 0, .int .i64 0, .int .i64 0, .int .i64 0, .int .i64 0, .int .i64 0, .int .i64 0, .int .i64 0, .int .i64 0], .agg #[.int .i64 0, .int .i64 0, .int .i64 0, .int .i64 0], .int .i64 0, .agg #[.int .i64 0, .int .i64 0]], []⟩ 8 (by kernel_rfl) (by kernel_rfl) (by kernel_rfl) (by kernel_rfl)) ?_
  · intro ds hlen
    have hlen : ds.length = 4 := hlen.trans (by kernel_rfl)
    match ds, hlen with
    | [_, _, _, _], _ => rfl
  intro W base args ds p hval hA hlt hsz
  rw [Try.params4] at hA hval
  obtain ⟨v0, vs0, d0, ds0, p0, q0, hargs, rfl, rfl, h0, r0⟩ := trodAll_cons hA
  obtain ⟨v1, vs1, d1, ds1, p1, q1, rfl, rfl, rfl, h1, r1⟩ := trodAll_cons r0
  obtain ⟨v2, vs2, d2, ds2, p2, q2, rfl, rfl, rfl, h2, r2⟩ := trodAll_cons r1
  obtain ⟨v3, vs3, d3, ds3, p3, q3, rfl, rfl, rfl, h3, r3⟩ := trodAll_cons r2
  obtain ⟨rfl, rfl, rfl⟩ := trodAll_nil r3
  obtain rfl : args = #[v0, v1, v2, v3] := by cases args; simp_all
  obtain ⟨cs0, rfl, hl0, hc0⟩ := okWide_cells (ts := cellTs0) (by kernel_rfl) (by kernel_rfl) (by kernel_rfl) (hval 0 25 v0 rfl rfl)
  match cs0, hl0 with
  | [x0_0, x0_1, x0_2, x0_3, x0_4, x0_5, x0_6, x0_7, x0_8, x0_9, x0_10, x0_11, x0_12, x0_13, x0_14, x0_15], _ =>
  obtain ⟨k0, rfl, wf_k0⟩ := okWide_int (k := .i64) (by kernel_rfl) (hc0 0 _ _ rfl rfl)
  obtain ⟨n0, rfl, wf_n0⟩ := okWide_int (k := .i64) (by kernel_rfl) (hc0 1 _ _ rfl rfl)
  obtain ⟨k1, rfl, wf_k1⟩ := okWide_int (k := .i64) (by kernel_rfl) (hc0 2 _ _ rfl rfl)
  obtain ⟨n1, rfl, wf_n1⟩ := okWide_int (k := .i64) (by kernel_rfl) (hc0 3 _ _ rfl rfl)
  obtain ⟨k2, rfl, wf_k2⟩ := okWide_int (k := .i64) (by kernel_rfl) (hc0 4 _ _ rfl rfl)
  obtain ⟨n2, rfl, wf_n2⟩ := okWide_int (k := .i64) (by kernel_rfl) (hc0 5 _ _ rfl rfl)
  obtain ⟨k3, rfl, wf_k3⟩ := okWide_int (k := .i64) (by kernel_rfl) (hc0 6 _ _ rfl rfl)
  obtain ⟨n3, rfl, wf_n3⟩ := okWide_int (k := .i64) (by kernel_rfl) (hc0 7 _ _ rfl rfl)
  obtain ⟨k4, rfl, wf_k4⟩ := okWide_int (k := .i64) (by kernel_rfl) (hc0 8 _ _ rfl rfl)
  obtain ⟨n4, rfl, wf_n4⟩ := okWide_int (k := .i64) (by kernel_rfl) (hc0 9 _ _ rfl rfl)
  obtain ⟨k5, rfl, wf_k5⟩ := okWide_int (k := .i64) (by kernel_rfl) (hc0 10 _ _ rfl rfl)
  obtain ⟨n5, rfl, wf_n5⟩ := okWide_int (k := .i64) (by kernel_rfl) (hc0 11 _ _ rfl rfl)
  obtain ⟨k6, rfl, wf_k6⟩ := okWide_int (k := .i64) (by kernel_rfl) (hc0 12 _ _ rfl rfl)
  obtain ⟨n6, rfl, wf_n6⟩ := okWide_int (k := .i64) (by kernel_rfl) (hc0 13 _ _ rfl rfl)
  obtain ⟨k7, rfl, wf_k7⟩ := okWide_int (k := .i64) (by kernel_rfl) (hc0 14 _ _ rfl rfl)
  obtain ⟨n7, rfl, wf_n7⟩ := okWide_int (k := .i64) (by kernel_rfl) (hc0 15 _ _ rfl rfl)
  obtain ⟨cs1, rfl, hl1, hc1⟩ := okWide_cells (ts := cellTs1) (by kernel_rfl) (by kernel_rfl) (by kernel_rfl) (hval 1 28 v1 rfl rfl)
  match cs1, hl1 with
  | [x1_0, x1_1, x1_2, x1_3], _ =>
  obtain ⟨op, rfl, wf_op⟩ := okWide_int (k := .i64) (by kernel_rfl) (hc1 0 _ _ rfl rfl)
  obtain ⟨a, rfl, wf_a⟩ := okWide_int (k := .i64) (by kernel_rfl) (hc1 1 _ _ rfl rfl)
  obtain ⟨b, rfl, wf_b⟩ := okWide_int (k := .i64) (by kernel_rfl) (hc1 2 _ _ rfl rfl)
  obtain ⟨c, rfl, wf_c⟩ := okWide_int (k := .i64) (by kernel_rfl) (hc1 3 _ _ rfl rfl)
  obtain ⟨at_, rfl, wf_at_⟩ := okWide_int (k := .i64) (by kernel_rfl) (okWide_one (by kernel_rfl) (hval 2 3 v2 rfl rfl))
  obtain ⟨cs3, rfl, hl3, hc3⟩ := okWide_cells (ts := cellTs3) (by kernel_rfl) (by kernel_rfl) (by kernel_rfl) (hval 3 24 v3 rfl rfl)
  match cs3, hl3 with
  | [x3_0, x3_1], _ =>
  obtain ⟨vk, rfl, wf_vk⟩ := okWide_int (k := .i64) (by kernel_rfl) (hc3 0 _ _ rfl rfl)
  obtain ⟨vn, rfl, wf_vn⟩ := okWide_int (k := .i64) (by kernel_rfl) (hc3 1 _ _ rfl rfl)
  exact walk k0 n0 k1 n1 k2 n2 k3 n3 k4 n4 k5 n5 k6 n6 k7 n7 op a b c at_ vk vn W

theorem over : Rows.regsToldRow.holds Try.pinned (OpenSpec.ofChange Rows.regsToldSpec) :=
  OpenClaim.holds_of_wide 4 Try.f4 rfl rfl rfl rfl rfl rfl rfl ⟨rfl, rfl, rfl, rfl, rfl⟩ rfl rfl rfl rfl rfl (by kernel_rfl) Try.func4 (by kernel_rfl)
    (of_decide_eq_true (by kernel_rfl)) (by unfold Func.isWrapper; first | (rw [if_pos (by decide +kernel)]; kernel_rfl) | (rw [if_neg (by decide +kernel)]; exact ⟨rfl, rfl⟩))
    (fun os started H enc _ => lifted os started H enc)

/-- The statement. -/
theorem proved : Rows.RegsToldSaid := over
#print axioms proved
end RegsTold
end Ev
end Go.Proofs.Ytnahodeffgoccaa
