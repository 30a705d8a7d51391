/- ValueReckons: sums, differences, orders, and which rows are the same, for all values and rows. -/
import Derived.Test.YtmbigmankefedaaSlices
import Derived.Test.YtmbigmankefedaaSame
namespace Go.Proofs.Ytmbigmankefedaa
open Go.ChangeShapes Go.WideShapes Go.ChangeAt Go.RowKit
namespace Reck

open Val Go.Joins

attribute [local go_sem ↓] run_eql_val run_neq_val

set_option maxRecDepth 100000 in
set_option maxHeartbeats 4000000 in
theorem walk_0 (k n k' n' : Int) (A B : Option Addr) (nl ml c d : Nat) (xs ys : List (Int × Int)) (E : Bool) (hE : sameB xs ys = E) (w : World) (hnl : nl ≤ 50) (hnlc : nl ≤ c) (hml : ml ≤ 50) (hmlc : ml ≤ d) (hA : Vals w A nl xs) (hB : Vals w B ml ys) (hcm : c ≤ 9223372036854775807) (hdm : d ≤ 9223372036854775807) :
    Calls Try.prog 5 #[.agg #[.int .i64 k, .int .i64 n], .agg #[.int .i64 k', .int .i64 n'], .slice A nl c, .slice B ml d] w (Ret (.bool true) w) := by
  have q0 : ((nl : Int)) ≤ 50 := by omega
  have q1 : ((ml : Int)) ≤ 50 := by omega
  have hS : sameB xs xs = true := by simp [sameB]
  go_enter Try.func5, Try.ntmps5
  go_wp2_with fail
  refine calls_re (fun W => Has W w.heap.size [.int .i64 k, .int .i64 n] ∧ Has W (w.heap.size + 1) [.int .i64 k', .int .i64 n'] ∧ Below w.heap.size w W) ⟨(Has.new _ _ _).alloc _, Has.newAt (by simp), outA (outA (Below.refl _ _) _) _⟩ ?_
  rintro W1 ⟨b0, b1, hbl⟩ x1
  have b0c0 := b0.at_ 0 (.int .i64 k) rfl
  have b0c1 := b0.at_ 1 (.int .i64 n) rfl
  have b0l := b0.lts
  have b1c0 := b1.at_ 0 (.int .i64 k') rfl
  have b1c1 := b1.at_ 1 (.int .i64 n') rfl
  have b1l := b1.lts
  refine ((add_any k n k' n' _).mono ?_)
  rintro e w' h
  obtain ⟨rfl, y1, rfl⟩ := h.next (x := x1)
  go_wp2_with fail
  clear b0l b1l b0c0 b0c1 b1c0 b1c1
  refine calls_re (fun W => Has W w.heap.size [.int .i64 k, .int .i64 n] ∧ Has W (w.heap.size + 1) [.int .i64 k', .int .i64 n'] ∧ Has W y1.w.heap.size [.int .i64 (ifNum k k' 1 0), .int .i64 (ifNum k k' (wrap64 (n + n')) 0)] ∧ Below w.heap.size w W) ⟨((b0.ext y1).alloc _), ((b1.ext y1).alloc _), (Has.new _ _ _), (outA (y1.out hbl) _)⟩ ?_
  clear b0 b1 hbl
  rintro W2 ⟨b0, b1, b2, hbl⟩ x2
  have b0c0 := b0.at_ 0 (.int .i64 k) rfl
  have b0c1 := b0.at_ 1 (.int .i64 n) rfl
  have b0l := b0.lts
  have b1c0 := b1.at_ 0 (.int .i64 k') rfl
  have b1c1 := b1.at_ 1 (.int .i64 n') rfl
  have b1l := b1.lts
  have b2c0 := b2.at_ 0 (.int .i64 (ifNum k k' 1 0)) rfl
  have b2c1 := b2.at_ 1 (.int .i64 (ifNum k k' (wrap64 (n + n')) 0)) rfl
  have b2l := b2.lts
  refine ((radd_any k n k' n' _).mono ?_)
  rintro e w' h
  obtain ⟨rfl, y2, rfl⟩ := h.next (x := x2)
  go_wp2_with fail
  clear b0l b1l b2l b0c0 b0c1 b1c0 b1c1 b2c0 b2c1
  refine calls_re (fun W => Has W w.heap.size [.int .i64 k, .int .i64 n] ∧ Has W (w.heap.size + 1) [.int .i64 k', .int .i64 n'] ∧ Has W y1.w.heap.size [.int .i64 (ifNum k k' 1 0), .int .i64 (ifNum k k' (wrap64 (n + n')) 0)] ∧ Has W y2.w.heap.size [.int .i64 (ifNum k k' 1 0), .int .i64 (ifNum k k' (wrap64 (n + n')) 0)] ∧ Below w.heap.size w W) ⟨((b0.ext y2).alloc _), ((b1.ext y2).alloc _), ((b2.ext y2).alloc _), (Has.new _ _ _), (outA (y2.out hbl) _)⟩ ?_
  clear b0 b1 b2 hbl
  rintro W3 ⟨b0, b1, b2, b3, hbl⟩ x3
  have b0c0 := b0.at_ 0 (.int .i64 k) rfl
  have b0c1 := b0.at_ 1 (.int .i64 n) rfl
  have b0l := b0.lts
  have b1c0 := b1.at_ 0 (.int .i64 k') rfl
  have b1c1 := b1.at_ 1 (.int .i64 n') rfl
  have b1l := b1.lts
  have b2c0 := b2.at_ 0 (.int .i64 (ifNum k k' 1 0)) rfl
  have b2c1 := b2.at_ 1 (.int .i64 (ifNum k k' (wrap64 (n + n')) 0)) rfl
  have b2l := b2.lts
  have b3c0 := b3.at_ 0 (.int .i64 (ifNum k k' 1 0)) rfl
  have b3c1 := b3.at_ 1 (.int .i64 (ifNum k k' (wrap64 (n + n')) 0)) rfl
  have b3l := b3.lts
  refine ((sub_any k n k' n' _).mono ?_)
  rintro e w' h
  obtain ⟨rfl, y3, rfl⟩ := h.next (x := x3)
  go_wp2_with fail
  clear b0l b1l b2l b3l b0c0 b0c1 b1c0 b1c1 b2c0 b2c1 b3c0 b3c1
  refine calls_re (fun W => Has W w.heap.size [.int .i64 k, .int .i64 n] ∧ Has W (w.heap.size + 1) [.int .i64 k', .int .i64 n'] ∧ Has W y1.w.heap.size [.int .i64 (ifNum k k' 1 0), .int .i64 (ifNum k k' (wrap64 (n + n')) 0)] ∧ Has W y2.w.heap.size [.int .i64 (ifNum k k' 1 0), .int .i64 (ifNum k k' (wrap64 (n + n')) 0)] ∧ Has W y3.w.heap.size [.int .i64 (ifNum k k' 1 0), .int .i64 (ifNum k k' (wrap64 (n - n')) 0)] ∧ Below w.heap.size w W) ⟨((b0.ext y3).alloc _), ((b1.ext y3).alloc _), ((b2.ext y3).alloc _), ((b3.ext y3).alloc _), (Has.new _ _ _), (outA (y3.out hbl) _)⟩ ?_
  clear b0 b1 b2 b3 hbl
  rintro W4 ⟨b0, b1, b2, b3, b4, hbl⟩ x4
  have b0c0 := b0.at_ 0 (.int .i64 k) rfl
  have b0c1 := b0.at_ 1 (.int .i64 n) rfl
  have b0l := b0.lts
  have b1c0 := b1.at_ 0 (.int .i64 k') rfl
  have b1c1 := b1.at_ 1 (.int .i64 n') rfl
  have b1l := b1.lts
  have b2c0 := b2.at_ 0 (.int .i64 (ifNum k k' 1 0)) rfl
  have b2c1 := b2.at_ 1 (.int .i64 (ifNum k k' (wrap64 (n + n')) 0)) rfl
  have b2l := b2.lts
  have b3c0 := b3.at_ 0 (.int .i64 (ifNum k k' 1 0)) rfl
  have b3c1 := b3.at_ 1 (.int .i64 (ifNum k k' (wrap64 (n + n')) 0)) rfl
  have b3l := b3.lts
  have b4c0 := b4.at_ 0 (.int .i64 (ifNum k k' 1 0)) rfl
  have b4c1 := b4.at_ 1 (.int .i64 (ifNum k k' (wrap64 (n - n')) 0)) rfl
  have b4l := b4.lts
  refine ((rsub_any k n k' n' _).mono ?_)
  rintro e w' h
  obtain ⟨rfl, y4, rfl⟩ := h.next (x := x4)
  go_wp2_with fail
  clear b0l b1l b2l b3l b4l b0c0 b0c1 b1c0 b1c1 b2c0 b2c1 b3c0 b3c1 b4c0 b4c1
  refine calls_re (fun W => Has W w.heap.size [.int .i64 k, .int .i64 n] ∧ Has W (w.heap.size + 1) [.int .i64 k', .int .i64 n'] ∧ Has W y1.w.heap.size [.int .i64 (ifNum k k' 1 0), .int .i64 (ifNum k k' (wrap64 (n + n')) 0)] ∧ Has W y2.w.heap.size [.int .i64 (ifNum k k' 1 0), .int .i64 (ifNum k k' (wrap64 (n + n')) 0)] ∧ Has W y3.w.heap.size [.int .i64 (ifNum k k' 1 0), .int .i64 (ifNum k k' (wrap64 (n - n')) 0)] ∧ Has W y4.w.heap.size [.int .i64 (ifNum k k' 1 0), .int .i64 (ifNum k k' (wrap64 (n - n')) 0)] ∧ Below w.heap.size w W) ⟨((b0.ext y4).alloc _), ((b1.ext y4).alloc _), ((b2.ext y4).alloc _), ((b3.ext y4).alloc _), ((b4.ext y4).alloc _), (Has.new _ _ _), (outA (y4.out hbl) _)⟩ ?_
  clear b0 b1 b2 b3 b4 hbl
  rintro W5 ⟨b0, b1, b2, b3, b4, b5, hbl⟩ x5
  have b0c0 := b0.at_ 0 (.int .i64 k) rfl
  have b0c1 := b0.at_ 1 (.int .i64 n) rfl
  have b0l := b0.lts
  have b1c0 := b1.at_ 0 (.int .i64 k') rfl
  have b1c1 := b1.at_ 1 (.int .i64 n') rfl
  have b1l := b1.lts
  have b2c0 := b2.at_ 0 (.int .i64 (ifNum k k' 1 0)) rfl
  have b2c1 := b2.at_ 1 (.int .i64 (ifNum k k' (wrap64 (n + n')) 0)) rfl
  have b2l := b2.lts
  have b3c0 := b3.at_ 0 (.int .i64 (ifNum k k' 1 0)) rfl
  have b3c1 := b3.at_ 1 (.int .i64 (ifNum k k' (wrap64 (n + n')) 0)) rfl
  have b3l := b3.lts
  have b4c0 := b4.at_ 0 (.int .i64 (ifNum k k' 1 0)) rfl
  have b4c1 := b4.at_ 1 (.int .i64 (ifNum k k' (wrap64 (n - n')) 0)) rfl
  have b4l := b4.lts
  have b5c0 := b5.at_ 0 (.int .i64 (ifNum k k' 1 0)) rfl
  have b5c1 := b5.at_ 1 (.int .i64 (ifNum k k' (wrap64 (n - n')) 0)) rfl
  have b5l := b5.lts
  refine ((less_any k n k' n' _).mono ?_)
  rintro e w' h
  obtain ⟨rfl, y5, rfl⟩ := h.next (x := x5)
  go_wp2_with fail
  clear b0l b1l b2l b3l b4l b5l b0c0 b0c1 b1c0 b1c1 b2c0 b2c1 b3c0 b3c1 b4c0 b4c1 b5c0 b5c1
  refine calls_re (fun W => Has W w.heap.size [.int .i64 k, .int .i64 n] ∧ Has W (w.heap.size + 1) [.int .i64 k', .int .i64 n'] ∧ Has W y1.w.heap.size [.int .i64 (ifNum k k' 1 0), .int .i64 (ifNum k k' (wrap64 (n + n')) 0)] ∧ Has W y2.w.heap.size [.int .i64 (ifNum k k' 1 0), .int .i64 (ifNum k k' (wrap64 (n + n')) 0)] ∧ Has W y3.w.heap.size [.int .i64 (ifNum k k' 1 0), .int .i64 (ifNum k k' (wrap64 (n - n')) 0)] ∧ Has W y4.w.heap.size [.int .i64 (ifNum k k' 1 0), .int .i64 (ifNum k k' (wrap64 (n - n')) 0)] ∧ Has W y5.w.heap.size [.int .i64 (ifNum k k' 1 0), .int .i64 (ifNum k k' (truthI (decide (n < n'))) 0)] ∧ Below w.heap.size w W) ⟨((b0.ext y5).alloc _), ((b1.ext y5).alloc _), ((b2.ext y5).alloc _), ((b3.ext y5).alloc _), ((b4.ext y5).alloc _), ((b5.ext y5).alloc _), (Has.new _ _ _), (outA (y5.out hbl) _)⟩ ?_
  clear b0 b1 b2 b3 b4 b5 hbl
  rintro W6 ⟨b0, b1, b2, b3, b4, b5, b6, hbl⟩ x6
  have b0c0 := b0.at_ 0 (.int .i64 k) rfl
  have b0c1 := b0.at_ 1 (.int .i64 n) rfl
  have b0l := b0.lts
  have b1c0 := b1.at_ 0 (.int .i64 k') rfl
  have b1c1 := b1.at_ 1 (.int .i64 n') rfl
  have b1l := b1.lts
  have b2c0 := b2.at_ 0 (.int .i64 (ifNum k k' 1 0)) rfl
  have b2c1 := b2.at_ 1 (.int .i64 (ifNum k k' (wrap64 (n + n')) 0)) rfl
  have b2l := b2.lts
  have b3c0 := b3.at_ 0 (.int .i64 (ifNum k k' 1 0)) rfl
  have b3c1 := b3.at_ 1 (.int .i64 (ifNum k k' (wrap64 (n + n')) 0)) rfl
  have b3l := b3.lts
  have b4c0 := b4.at_ 0 (.int .i64 (ifNum k k' 1 0)) rfl
  have b4c1 := b4.at_ 1 (.int .i64 (ifNum k k' (wrap64 (n - n')) 0)) rfl
  have b4l := b4.lts
  have b5c0 := b5.at_ 0 (.int .i64 (ifNum k k' 1 0)) rfl
  have b5c1 := b5.at_ 1 (.int .i64 (ifNum k k' (wrap64 (n - n')) 0)) rfl
  have b5l := b5.lts
  have b6c0 := b6.at_ 0 (.int .i64 (ifNum k k' 1 0)) rfl
  have b6c1 := b6.at_ 1 (.int .i64 (ifNum k k' (truthI (decide (n < n'))) 0)) rfl
  have b6l := b6.lts
  refine ((rless_any k n k' n' _).mono ?_)
  rintro e w' h
  obtain ⟨rfl, y6, rfl⟩ := h.next (x := x6)
  go_wp2_with fail
  clear b0l b1l b2l b3l b4l b5l b6l b0c0 b0c1 b1c0 b1c1 b2c0 b2c1 b3c0 b3c1 b4c0 b4c1 b5c0 b5c1 b6c0 b6c1
  refine wp_re (fun W => Has W w.heap.size [.int .i64 k, .int .i64 n] ∧ Has W (w.heap.size + 1) [.int .i64 k', .int .i64 n'] ∧ Has W y1.w.heap.size [.int .i64 (ifNum k k' 1 0), .int .i64 (ifNum k k' (wrap64 (n + n')) 0)] ∧ Has W y2.w.heap.size [.int .i64 (ifNum k k' 1 0), .int .i64 (ifNum k k' (wrap64 (n + n')) 0)] ∧ Has W y3.w.heap.size [.int .i64 (ifNum k k' 1 0), .int .i64 (ifNum k k' (wrap64 (n - n')) 0)] ∧ Has W y4.w.heap.size [.int .i64 (ifNum k k' 1 0), .int .i64 (ifNum k k' (wrap64 (n - n')) 0)] ∧ Has W y5.w.heap.size [.int .i64 (ifNum k k' 1 0), .int .i64 (ifNum k k' (truthI (decide (n < n'))) 0)] ∧ Has W y6.w.heap.size [.int .i64 (ifNum k k' 1 0), .int .i64 (ifNum k k' (truthI (decide (n < n'))) 0)] ∧ Below w.heap.size w W) ⟨((b0.ext y6).alloc _), ((b1.ext y6).alloc _), ((b2.ext y6).alloc _), ((b3.ext y6).alloc _), ((b4.ext y6).alloc _), ((b5.ext y6).alloc _), ((b6.ext y6).alloc _), (Has.new _ _ _), (outA (y6.out hbl) _)⟩ ?_
  clear b0 b1 b2 b3 b4 b5 b6 hbl
  rintro W7 ⟨b0, b1, b2, b3, b4, b5, b6, b7, hbl⟩ x7
  have b0c0 := b0.at_ 0 (.int .i64 k) rfl
  have b0c1 := b0.at_ 1 (.int .i64 n) rfl
  have b0l := b0.lts
  have b1c0 := b1.at_ 0 (.int .i64 k') rfl
  have b1c1 := b1.at_ 1 (.int .i64 n') rfl
  have b1l := b1.lts
  have b2c0 := b2.at_ 0 (.int .i64 (ifNum k k' 1 0)) rfl
  have b2c1 := b2.at_ 1 (.int .i64 (ifNum k k' (wrap64 (n + n')) 0)) rfl
  have b2l := b2.lts
  have b3c0 := b3.at_ 0 (.int .i64 (ifNum k k' 1 0)) rfl
  have b3c1 := b3.at_ 1 (.int .i64 (ifNum k k' (wrap64 (n + n')) 0)) rfl
  have b3l := b3.lts
  have b4c0 := b4.at_ 0 (.int .i64 (ifNum k k' 1 0)) rfl
  have b4c1 := b4.at_ 1 (.int .i64 (ifNum k k' (wrap64 (n - n')) 0)) rfl
  have b4l := b4.lts
  have b5c0 := b5.at_ 0 (.int .i64 (ifNum k k' 1 0)) rfl
  have b5c1 := b5.at_ 1 (.int .i64 (ifNum k k' (wrap64 (n - n')) 0)) rfl
  have b5l := b5.lts
  have b6c0 := b6.at_ 0 (.int .i64 (ifNum k k' 1 0)) rfl
  have b6c1 := b6.at_ 1 (.int .i64 (ifNum k k' (truthI (decide (n < n'))) 0)) rfl
  have b6l := b6.lts
  have b7c0 := b7.at_ 0 (.int .i64 (ifNum k k' 1 0)) rfl
  have b7c1 := b7.at_ 1 (.int .i64 (ifNum k k' (truthI (decide (n < n'))) 0)) rfl
  have b7l := b7.lts
  refine region_cl (by kernel_rfl) (by kernel_rfl) ?_
  repeat (go_big_quiet_step (fail))
  refine wpQuiet_nil ?_
  rintro w' ⟨yq, rfl⟩
  go_wp2_with fail
  have VA := (hA.below hbl).below yq.below
  have VB := (hB.below hbl).below yq.below
  clear b0l b1l b2l b3l b4l b5l b6l b7l b0c0 b0c1 b1c0 b1c1 b2c0 b2c1 b3c0 b3c1 b4c0 b4c1 b5c0 b5c1 b6c0 b6c1 b7c0 b7c1
  refine wp_re (fun W => Has W w.heap.size [.int .i64 k, .int .i64 n] ∧ Has W (w.heap.size + 1) [.int .i64 k', .int .i64 n'] ∧ Has W y1.w.heap.size [.int .i64 (ifNum k k' 1 0), .int .i64 (ifNum k k' (wrap64 (n + n')) 0)] ∧ Has W y2.w.heap.size [.int .i64 (ifNum k k' 1 0), .int .i64 (ifNum k k' (wrap64 (n + n')) 0)] ∧ Has W y3.w.heap.size [.int .i64 (ifNum k k' 1 0), .int .i64 (ifNum k k' (wrap64 (n - n')) 0)] ∧ Has W y4.w.heap.size [.int .i64 (ifNum k k' 1 0), .int .i64 (ifNum k k' (wrap64 (n - n')) 0)] ∧ Has W y5.w.heap.size [.int .i64 (ifNum k k' 1 0), .int .i64 (ifNum k k' (truthI (decide (n < n'))) 0)] ∧ Has W y6.w.heap.size [.int .i64 (ifNum k k' 1 0), .int .i64 (ifNum k k' (truthI (decide (n < n'))) 0)] ∧ Below w.heap.size w W) ⟨(b0.ext yq), (b1.ext yq), (b2.ext yq), (b3.ext yq), (b4.ext yq), (b5.ext yq), (b6.ext yq), (b7.ext yq), (yq.out hbl)⟩ ?_
  clear b0 b1 b2 b3 b4 b5 b6 b7 hbl
  rintro W8 ⟨b0, b1, b2, b3, b4, b5, b6, b7, hbl⟩ x8
  have VA' := fun y : Cl W8 => (hA.below hbl).below y.below
  have VB' := fun y : Cl W8 => (hB.below hbl).below y.below
  clear VA VB
  have b0c0 := b0.at_ 0 (.int .i64 k) rfl
  have b0c1 := b0.at_ 1 (.int .i64 n) rfl
  have b0l := b0.lts
  have b1c0 := b1.at_ 0 (.int .i64 k') rfl
  have b1c1 := b1.at_ 1 (.int .i64 n') rfl
  have b1l := b1.lts
  have b2c0 := b2.at_ 0 (.int .i64 (ifNum k k' 1 0)) rfl
  have b2c1 := b2.at_ 1 (.int .i64 (ifNum k k' (wrap64 (n + n')) 0)) rfl
  have b2l := b2.lts
  have b3c0 := b3.at_ 0 (.int .i64 (ifNum k k' 1 0)) rfl
  have b3c1 := b3.at_ 1 (.int .i64 (ifNum k k' (wrap64 (n + n')) 0)) rfl
  have b3l := b3.lts
  have b4c0 := b4.at_ 0 (.int .i64 (ifNum k k' 1 0)) rfl
  have b4c1 := b4.at_ 1 (.int .i64 (ifNum k k' (wrap64 (n - n')) 0)) rfl
  have b4l := b4.lts
  have b5c0 := b5.at_ 0 (.int .i64 (ifNum k k' 1 0)) rfl
  have b5c1 := b5.at_ 1 (.int .i64 (ifNum k k' (wrap64 (n - n')) 0)) rfl
  have b5l := b5.lts
  have b6c0 := b6.at_ 0 (.int .i64 (ifNum k k' 1 0)) rfl
  have b6c1 := b6.at_ 1 (.int .i64 (ifNum k k' (truthI (decide (n < n'))) 0)) rfl
  have b6l := b6.lts
  have b7c0 := b7.at_ 0 (.int .i64 (ifNum k k' 1 0)) rfl
  have b7c1 := b7.at_ 1 (.int .i64 (ifNum k k' (truthI (decide (n < n'))) 0)) rfl
  have b7l := b7.lts
  refine region_cl (by kernel_rfl) (by kernel_rfl) ?_
  repeat (go_big_quiet_step (first | (go_at_call 33; first | (with_reducible exact calls_cl (same_any A B nl ml c d xs ys E hE _ (VA' _) (VB' _) (hnl) (hml))) | (with_reducible exact calls_cl (same_any A A nl nl c c xs xs true hS _ (VA' _) (VA' _) (hnl) (hnl)))) | (go_at_call 34; with_reducible exact calls_cl (rsame_any A B nl ml c d xs ys E hE _ (VA' _) (VB' _) (hnl) (hml))) | (go_at_call 31; with_reducible exact calls_cl (equal_any k n k' n' _)) | (go_at_call 32; with_reducible exact calls_cl (requal_any k n k' n' _)) | (go_at_call 22; with_reducible exact calls_cl (awake_any _))))
  refine wpQuiet_nil ?_
  rintro w' ⟨yz, rfl⟩
  go_wp2_with fail
  go_ret
  exact Ret.of (yz.out hbl)

set_option maxRecDepth 100000 in
set_option maxHeartbeats 4000000 in
theorem walk_1 (k n k' n' : Int) (A B : Option Addr) (nl ml c d : Nat) (xs ys : List (Int × Int)) (E : Bool) (hE : sameB xs ys = E) (w : World) (hnl : nl ≤ 50) (hnlc : nl ≤ c) (hml : 50 < ml) (hmlc : ml ≤ d) (hA : Vals w A nl xs) (hB : Vals w B 50 ys) (hcm : c ≤ 9223372036854775807) (hdm : d ≤ 9223372036854775807) :
    Calls Try.prog 5 #[.agg #[.int .i64 k, .int .i64 n], .agg #[.int .i64 k', .int .i64 n'], .slice A nl c, .slice B ml d] w (Ret (.bool true) w) := by
  have q0 : ((nl : Int)) ≤ 50 := by omega
  have q1 : (50 : Int) < (ml : Int) := by omega
  have hS : sameB xs xs = true := by simp [sameB]
  have q3 : 50 ≤ d := by omega
  go_enter Try.func5, Try.ntmps5
  go_wp2_with fail
  refine calls_re (fun W => Has W w.heap.size [.int .i64 k, .int .i64 n] ∧ Has W (w.heap.size + 1) [.int .i64 k', .int .i64 n'] ∧ Below w.heap.size w W) ⟨(Has.new _ _ _).alloc _, Has.newAt (by simp), outA (outA (Below.refl _ _) _) _⟩ ?_
  rintro W1 ⟨b0, b1, hbl⟩ x1
  have b0c0 := b0.at_ 0 (.int .i64 k) rfl
  have b0c1 := b0.at_ 1 (.int .i64 n) rfl
  have b0l := b0.lts
  have b1c0 := b1.at_ 0 (.int .i64 k') rfl
  have b1c1 := b1.at_ 1 (.int .i64 n') rfl
  have b1l := b1.lts
  refine ((add_any k n k' n' _).mono ?_)
  rintro e w' h
  obtain ⟨rfl, y1, rfl⟩ := h.next (x := x1)
  go_wp2_with fail
  clear b0l b1l b0c0 b0c1 b1c0 b1c1
  refine calls_re (fun W => Has W w.heap.size [.int .i64 k, .int .i64 n] ∧ Has W (w.heap.size + 1) [.int .i64 k', .int .i64 n'] ∧ Has W y1.w.heap.size [.int .i64 (ifNum k k' 1 0), .int .i64 (ifNum k k' (wrap64 (n + n')) 0)] ∧ Below w.heap.size w W) ⟨((b0.ext y1).alloc _), ((b1.ext y1).alloc _), (Has.new _ _ _), (outA (y1.out hbl) _)⟩ ?_
  clear b0 b1 hbl
  rintro W2 ⟨b0, b1, b2, hbl⟩ x2
  have b0c0 := b0.at_ 0 (.int .i64 k) rfl
  have b0c1 := b0.at_ 1 (.int .i64 n) rfl
  have b0l := b0.lts
  have b1c0 := b1.at_ 0 (.int .i64 k') rfl
  have b1c1 := b1.at_ 1 (.int .i64 n') rfl
  have b1l := b1.lts
  have b2c0 := b2.at_ 0 (.int .i64 (ifNum k k' 1 0)) rfl
  have b2c1 := b2.at_ 1 (.int .i64 (ifNum k k' (wrap64 (n + n')) 0)) rfl
  have b2l := b2.lts
  refine ((radd_any k n k' n' _).mono ?_)
  rintro e w' h
  obtain ⟨rfl, y2, rfl⟩ := h.next (x := x2)
  go_wp2_with fail
  clear b0l b1l b2l b0c0 b0c1 b1c0 b1c1 b2c0 b2c1
  refine calls_re (fun W => Has W w.heap.size [.int .i64 k, .int .i64 n] ∧ Has W (w.heap.size + 1) [.int .i64 k', .int .i64 n'] ∧ Has W y1.w.heap.size [.int .i64 (ifNum k k' 1 0), .int .i64 (ifNum k k' (wrap64 (n + n')) 0)] ∧ Has W y2.w.heap.size [.int .i64 (ifNum k k' 1 0), .int .i64 (ifNum k k' (wrap64 (n + n')) 0)] ∧ Below w.heap.size w W) ⟨((b0.ext y2).alloc _), ((b1.ext y2).alloc _), ((b2.ext y2).alloc _), (Has.new _ _ _), (outA (y2.out hbl) _)⟩ ?_
  clear b0 b1 b2 hbl
  rintro W3 ⟨b0, b1, b2, b3, hbl⟩ x3
  have b0c0 := b0.at_ 0 (.int .i64 k) rfl
  have b0c1 := b0.at_ 1 (.int .i64 n) rfl
  have b0l := b0.lts
  have b1c0 := b1.at_ 0 (.int .i64 k') rfl
  have b1c1 := b1.at_ 1 (.int .i64 n') rfl
  have b1l := b1.lts
  have b2c0 := b2.at_ 0 (.int .i64 (ifNum k k' 1 0)) rfl
  have b2c1 := b2.at_ 1 (.int .i64 (ifNum k k' (wrap64 (n + n')) 0)) rfl
  have b2l := b2.lts
  have b3c0 := b3.at_ 0 (.int .i64 (ifNum k k' 1 0)) rfl
  have b3c1 := b3.at_ 1 (.int .i64 (ifNum k k' (wrap64 (n + n')) 0)) rfl
  have b3l := b3.lts
  refine ((sub_any k n k' n' _).mono ?_)
  rintro e w' h
  obtain ⟨rfl, y3, rfl⟩ := h.next (x := x3)
  go_wp2_with fail
  clear b0l b1l b2l b3l b0c0 b0c1 b1c0 b1c1 b2c0 b2c1 b3c0 b3c1
  refine calls_re (fun W => Has W w.heap.size [.int .i64 k, .int .i64 n] ∧ Has W (w.heap.size + 1) [.int .i64 k', .int .i64 n'] ∧ Has W y1.w.heap.size [.int .i64 (ifNum k k' 1 0), .int .i64 (ifNum k k' (wrap64 (n + n')) 0)] ∧ Has W y2.w.heap.size [.int .i64 (ifNum k k' 1 0), .int .i64 (ifNum k k' (wrap64 (n + n')) 0)] ∧ Has W y3.w.heap.size [.int .i64 (ifNum k k' 1 0), .int .i64 (ifNum k k' (wrap64 (n - n')) 0)] ∧ Below w.heap.size w W) ⟨((b0.ext y3).alloc _), ((b1.ext y3).alloc _), ((b2.ext y3).alloc _), ((b3.ext y3).alloc _), (Has.new _ _ _), (outA (y3.out hbl) _)⟩ ?_
  clear b0 b1 b2 b3 hbl
  rintro W4 ⟨b0, b1, b2, b3, b4, hbl⟩ x4
  have b0c0 := b0.at_ 0 (.int .i64 k) rfl
  have b0c1 := b0.at_ 1 (.int .i64 n) rfl
  have b0l := b0.lts
  have b1c0 := b1.at_ 0 (.int .i64 k') rfl
  have b1c1 := b1.at_ 1 (.int .i64 n') rfl
  have b1l := b1.lts
  have b2c0 := b2.at_ 0 (.int .i64 (ifNum k k' 1 0)) rfl
  have b2c1 := b2.at_ 1 (.int .i64 (ifNum k k' (wrap64 (n + n')) 0)) rfl
  have b2l := b2.lts
  have b3c0 := b3.at_ 0 (.int .i64 (ifNum k k' 1 0)) rfl
  have b3c1 := b3.at_ 1 (.int .i64 (ifNum k k' (wrap64 (n + n')) 0)) rfl
  have b3l := b3.lts
  have b4c0 := b4.at_ 0 (.int .i64 (ifNum k k' 1 0)) rfl
  have b4c1 := b4.at_ 1 (.int .i64 (ifNum k k' (wrap64 (n - n')) 0)) rfl
  have b4l := b4.lts
  refine ((rsub_any k n k' n' _).mono ?_)
  rintro e w' h
  obtain ⟨rfl, y4, rfl⟩ := h.next (x := x4)
  go_wp2_with fail
  clear b0l b1l b2l b3l b4l b0c0 b0c1 b1c0 b1c1 b2c0 b2c1 b3c0 b3c1 b4c0 b4c1
  refine calls_re (fun W => Has W w.heap.size [.int .i64 k, .int .i64 n] ∧ Has W (w.heap.size + 1) [.int .i64 k', .int .i64 n'] ∧ Has W y1.w.heap.size [.int .i64 (ifNum k k' 1 0), .int .i64 (ifNum k k' (wrap64 (n + n')) 0)] ∧ Has W y2.w.heap.size [.int .i64 (ifNum k k' 1 0), .int .i64 (ifNum k k' (wrap64 (n + n')) 0)] ∧ Has W y3.w.heap.size [.int .i64 (ifNum k k' 1 0), .int .i64 (ifNum k k' (wrap64 (n - n')) 0)] ∧ Has W y4.w.heap.size [.int .i64 (ifNum k k' 1 0), .int .i64 (ifNum k k' (wrap64 (n - n')) 0)] ∧ Below w.heap.size w W) ⟨((b0.ext y4).alloc _), ((b1.ext y4).alloc _), ((b2.ext y4).alloc _), ((b3.ext y4).alloc _), ((b4.ext y4).alloc _), (Has.new _ _ _), (outA (y4.out hbl) _)⟩ ?_
  clear b0 b1 b2 b3 b4 hbl
  rintro W5 ⟨b0, b1, b2, b3, b4, b5, hbl⟩ x5
  have b0c0 := b0.at_ 0 (.int .i64 k) rfl
  have b0c1 := b0.at_ 1 (.int .i64 n) rfl
  have b0l := b0.lts
  have b1c0 := b1.at_ 0 (.int .i64 k') rfl
  have b1c1 := b1.at_ 1 (.int .i64 n') rfl
  have b1l := b1.lts
  have b2c0 := b2.at_ 0 (.int .i64 (ifNum k k' 1 0)) rfl
  have b2c1 := b2.at_ 1 (.int .i64 (ifNum k k' (wrap64 (n + n')) 0)) rfl
  have b2l := b2.lts
  have b3c0 := b3.at_ 0 (.int .i64 (ifNum k k' 1 0)) rfl
  have b3c1 := b3.at_ 1 (.int .i64 (ifNum k k' (wrap64 (n + n')) 0)) rfl
  have b3l := b3.lts
  have b4c0 := b4.at_ 0 (.int .i64 (ifNum k k' 1 0)) rfl
  have b4c1 := b4.at_ 1 (.int .i64 (ifNum k k' (wrap64 (n - n')) 0)) rfl
  have b4l := b4.lts
  have b5c0 := b5.at_ 0 (.int .i64 (ifNum k k' 1 0)) rfl
  have b5c1 := b5.at_ 1 (.int .i64 (ifNum k k' (wrap64 (n - n')) 0)) rfl
  have b5l := b5.lts
  refine ((less_any k n k' n' _).mono ?_)
  rintro e w' h
  obtain ⟨rfl, y5, rfl⟩ := h.next (x := x5)
  go_wp2_with fail
  clear b0l b1l b2l b3l b4l b5l b0c0 b0c1 b1c0 b1c1 b2c0 b2c1 b3c0 b3c1 b4c0 b4c1 b5c0 b5c1
  refine calls_re (fun W => Has W w.heap.size [.int .i64 k, .int .i64 n] ∧ Has W (w.heap.size + 1) [.int .i64 k', .int .i64 n'] ∧ Has W y1.w.heap.size [.int .i64 (ifNum k k' 1 0), .int .i64 (ifNum k k' (wrap64 (n + n')) 0)] ∧ Has W y2.w.heap.size [.int .i64 (ifNum k k' 1 0), .int .i64 (ifNum k k' (wrap64 (n + n')) 0)] ∧ Has W y3.w.heap.size [.int .i64 (ifNum k k' 1 0), .int .i64 (ifNum k k' (wrap64 (n - n')) 0)] ∧ Has W y4.w.heap.size [.int .i64 (ifNum k k' 1 0), .int .i64 (ifNum k k' (wrap64 (n - n')) 0)] ∧ Has W y5.w.heap.size [.int .i64 (ifNum k k' 1 0), .int .i64 (ifNum k k' (truthI (decide (n < n'))) 0)] ∧ Below w.heap.size w W) ⟨((b0.ext y5).alloc _), ((b1.ext y5).alloc _), ((b2.ext y5).alloc _), ((b3.ext y5).alloc _), ((b4.ext y5).alloc _), ((b5.ext y5).alloc _), (Has.new _ _ _), (outA (y5.out hbl) _)⟩ ?_
  clear b0 b1 b2 b3 b4 b5 hbl
  rintro W6 ⟨b0, b1, b2, b3, b4, b5, b6, hbl⟩ x6
  have b0c0 := b0.at_ 0 (.int .i64 k) rfl
  have b0c1 := b0.at_ 1 (.int .i64 n) rfl
  have b0l := b0.lts
  have b1c0 := b1.at_ 0 (.int .i64 k') rfl
  have b1c1 := b1.at_ 1 (.int .i64 n') rfl
  have b1l := b1.lts
  have b2c0 := b2.at_ 0 (.int .i64 (ifNum k k' 1 0)) rfl
  have b2c1 := b2.at_ 1 (.int .i64 (ifNum k k' (wrap64 (n + n')) 0)) rfl
  have b2l := b2.lts
  have b3c0 := b3.at_ 0 (.int .i64 (ifNum k k' 1 0)) rfl
  have b3c1 := b3.at_ 1 (.int .i64 (ifNum k k' (wrap64 (n + n')) 0)) rfl
  have b3l := b3.lts
  have b4c0 := b4.at_ 0 (.int .i64 (ifNum k k' 1 0)) rfl
  have b4c1 := b4.at_ 1 (.int .i64 (ifNum k k' (wrap64 (n - n')) 0)) rfl
  have b4l := b4.lts
  have b5c0 := b5.at_ 0 (.int .i64 (ifNum k k' 1 0)) rfl
  have b5c1 := b5.at_ 1 (.int .i64 (ifNum k k' (wrap64 (n - n')) 0)) rfl
  have b5l := b5.lts
  have b6c0 := b6.at_ 0 (.int .i64 (ifNum k k' 1 0)) rfl
  have b6c1 := b6.at_ 1 (.int .i64 (ifNum k k' (truthI (decide (n < n'))) 0)) rfl
  have b6l := b6.lts
  refine ((rless_any k n k' n' _).mono ?_)
  rintro e w' h
  obtain ⟨rfl, y6, rfl⟩ := h.next (x := x6)
  go_wp2_with fail
  clear b0l b1l b2l b3l b4l b5l b6l b0c0 b0c1 b1c0 b1c1 b2c0 b2c1 b3c0 b3c1 b4c0 b4c1 b5c0 b5c1 b6c0 b6c1
  refine wp_re (fun W => Has W w.heap.size [.int .i64 k, .int .i64 n] ∧ Has W (w.heap.size + 1) [.int .i64 k', .int .i64 n'] ∧ Has W y1.w.heap.size [.int .i64 (ifNum k k' 1 0), .int .i64 (ifNum k k' (wrap64 (n + n')) 0)] ∧ Has W y2.w.heap.size [.int .i64 (ifNum k k' 1 0), .int .i64 (ifNum k k' (wrap64 (n + n')) 0)] ∧ Has W y3.w.heap.size [.int .i64 (ifNum k k' 1 0), .int .i64 (ifNum k k' (wrap64 (n - n')) 0)] ∧ Has W y4.w.heap.size [.int .i64 (ifNum k k' 1 0), .int .i64 (ifNum k k' (wrap64 (n - n')) 0)] ∧ Has W y5.w.heap.size [.int .i64 (ifNum k k' 1 0), .int .i64 (ifNum k k' (truthI (decide (n < n'))) 0)] ∧ Has W y6.w.heap.size [.int .i64 (ifNum k k' 1 0), .int .i64 (ifNum k k' (truthI (decide (n < n'))) 0)] ∧ Below w.heap.size w W) ⟨((b0.ext y6).alloc _), ((b1.ext y6).alloc _), ((b2.ext y6).alloc _), ((b3.ext y6).alloc _), ((b4.ext y6).alloc _), ((b5.ext y6).alloc _), ((b6.ext y6).alloc _), (Has.new _ _ _), (outA (y6.out hbl) _)⟩ ?_
  clear b0 b1 b2 b3 b4 b5 b6 hbl
  rintro W7 ⟨b0, b1, b2, b3, b4, b5, b6, b7, hbl⟩ x7
  have b0c0 := b0.at_ 0 (.int .i64 k) rfl
  have b0c1 := b0.at_ 1 (.int .i64 n) rfl
  have b0l := b0.lts
  have b1c0 := b1.at_ 0 (.int .i64 k') rfl
  have b1c1 := b1.at_ 1 (.int .i64 n') rfl
  have b1l := b1.lts
  have b2c0 := b2.at_ 0 (.int .i64 (ifNum k k' 1 0)) rfl
  have b2c1 := b2.at_ 1 (.int .i64 (ifNum k k' (wrap64 (n + n')) 0)) rfl
  have b2l := b2.lts
  have b3c0 := b3.at_ 0 (.int .i64 (ifNum k k' 1 0)) rfl
  have b3c1 := b3.at_ 1 (.int .i64 (ifNum k k' (wrap64 (n + n')) 0)) rfl
  have b3l := b3.lts
  have b4c0 := b4.at_ 0 (.int .i64 (ifNum k k' 1 0)) rfl
  have b4c1 := b4.at_ 1 (.int .i64 (ifNum k k' (wrap64 (n - n')) 0)) rfl
  have b4l := b4.lts
  have b5c0 := b5.at_ 0 (.int .i64 (ifNum k k' 1 0)) rfl
  have b5c1 := b5.at_ 1 (.int .i64 (ifNum k k' (wrap64 (n - n')) 0)) rfl
  have b5l := b5.lts
  have b6c0 := b6.at_ 0 (.int .i64 (ifNum k k' 1 0)) rfl
  have b6c1 := b6.at_ 1 (.int .i64 (ifNum k k' (truthI (decide (n < n'))) 0)) rfl
  have b6l := b6.lts
  have b7c0 := b7.at_ 0 (.int .i64 (ifNum k k' 1 0)) rfl
  have b7c1 := b7.at_ 1 (.int .i64 (ifNum k k' (truthI (decide (n < n'))) 0)) rfl
  have b7l := b7.lts
  refine region_cl (by kernel_rfl) (by kernel_rfl) ?_
  repeat (go_big_quiet_step (fail))
  refine wpQuiet_nil ?_
  rintro w' ⟨yq, rfl⟩
  go_wp2_with fail
  have VA := (hA.below hbl).below yq.below
  have VB := (hB.below hbl).below yq.below
  clear b0l b1l b2l b3l b4l b5l b6l b7l b0c0 b0c1 b1c0 b1c1 b2c0 b2c1 b3c0 b3c1 b4c0 b4c1 b5c0 b5c1 b6c0 b6c1 b7c0 b7c1
  refine wp_re (fun W => Has W w.heap.size [.int .i64 k, .int .i64 n] ∧ Has W (w.heap.size + 1) [.int .i64 k', .int .i64 n'] ∧ Has W y1.w.heap.size [.int .i64 (ifNum k k' 1 0), .int .i64 (ifNum k k' (wrap64 (n + n')) 0)] ∧ Has W y2.w.heap.size [.int .i64 (ifNum k k' 1 0), .int .i64 (ifNum k k' (wrap64 (n + n')) 0)] ∧ Has W y3.w.heap.size [.int .i64 (ifNum k k' 1 0), .int .i64 (ifNum k k' (wrap64 (n - n')) 0)] ∧ Has W y4.w.heap.size [.int .i64 (ifNum k k' 1 0), .int .i64 (ifNum k k' (wrap64 (n - n')) 0)] ∧ Has W y5.w.heap.size [.int .i64 (ifNum k k' 1 0), .int .i64 (ifNum k k' (truthI (decide (n < n'))) 0)] ∧ Has W y6.w.heap.size [.int .i64 (ifNum k k' 1 0), .int .i64 (ifNum k k' (truthI (decide (n < n'))) 0)] ∧ Below w.heap.size w W) ⟨(b0.ext yq), (b1.ext yq), (b2.ext yq), (b3.ext yq), (b4.ext yq), (b5.ext yq), (b6.ext yq), (b7.ext yq), (yq.out hbl)⟩ ?_
  clear b0 b1 b2 b3 b4 b5 b6 b7 hbl
  rintro W8 ⟨b0, b1, b2, b3, b4, b5, b6, b7, hbl⟩ x8
  have VA' := fun y : Cl W8 => (hA.below hbl).below y.below
  have VB' := fun y : Cl W8 => (hB.below hbl).below y.below
  clear VA VB
  have b0c0 := b0.at_ 0 (.int .i64 k) rfl
  have b0c1 := b0.at_ 1 (.int .i64 n) rfl
  have b0l := b0.lts
  have b1c0 := b1.at_ 0 (.int .i64 k') rfl
  have b1c1 := b1.at_ 1 (.int .i64 n') rfl
  have b1l := b1.lts
  have b2c0 := b2.at_ 0 (.int .i64 (ifNum k k' 1 0)) rfl
  have b2c1 := b2.at_ 1 (.int .i64 (ifNum k k' (wrap64 (n + n')) 0)) rfl
  have b2l := b2.lts
  have b3c0 := b3.at_ 0 (.int .i64 (ifNum k k' 1 0)) rfl
  have b3c1 := b3.at_ 1 (.int .i64 (ifNum k k' (wrap64 (n + n')) 0)) rfl
  have b3l := b3.lts
  have b4c0 := b4.at_ 0 (.int .i64 (ifNum k k' 1 0)) rfl
  have b4c1 := b4.at_ 1 (.int .i64 (ifNum k k' (wrap64 (n - n')) 0)) rfl
  have b4l := b4.lts
  have b5c0 := b5.at_ 0 (.int .i64 (ifNum k k' 1 0)) rfl
  have b5c1 := b5.at_ 1 (.int .i64 (ifNum k k' (wrap64 (n - n')) 0)) rfl
  have b5l := b5.lts
  have b6c0 := b6.at_ 0 (.int .i64 (ifNum k k' 1 0)) rfl
  have b6c1 := b6.at_ 1 (.int .i64 (ifNum k k' (truthI (decide (n < n'))) 0)) rfl
  have b6l := b6.lts
  have b7c0 := b7.at_ 0 (.int .i64 (ifNum k k' 1 0)) rfl
  have b7c1 := b7.at_ 1 (.int .i64 (ifNum k k' (truthI (decide (n < n'))) 0)) rfl
  have b7l := b7.lts
  refine region_cl (by kernel_rfl) (by kernel_rfl) ?_
  repeat (go_big_quiet_step (first | (go_at_call 33; first | (with_reducible exact calls_cl (same_any A B nl 50 c d xs ys E hE _ (VA' _) (VB' _) (hnl) (Nat.le_refl 50))) | (with_reducible exact calls_cl (same_any A A nl nl c c xs xs true hS _ (VA' _) (VA' _) (hnl) (hnl)))) | (go_at_call 34; with_reducible exact calls_cl (rsame_any A B nl 50 c d xs ys E hE _ (VA' _) (VB' _) (hnl) (Nat.le_refl 50))) | (go_at_call 31; with_reducible exact calls_cl (equal_any k n k' n' _)) | (go_at_call 32; with_reducible exact calls_cl (requal_any k n k' n' _)) | (go_at_call 22; with_reducible exact calls_cl (awake_any _))))
  refine wpQuiet_nil ?_
  rintro w' ⟨yz, rfl⟩
  go_wp2_with fail
  go_ret
  exact Ret.of (yz.out hbl)

set_option maxRecDepth 100000 in
set_option maxHeartbeats 4000000 in
theorem walk_2 (k n k' n' : Int) (A B : Option Addr) (nl ml c d : Nat) (xs ys : List (Int × Int)) (E : Bool) (hE : sameB xs ys = E) (w : World) (hnl : 50 < nl) (hnlc : nl ≤ c) (hml : ml ≤ 50) (hmlc : ml ≤ d) (hA : Vals w A 50 xs) (hB : Vals w B ml ys) (hcm : c ≤ 9223372036854775807) (hdm : d ≤ 9223372036854775807) :
    Calls Try.prog 5 #[.agg #[.int .i64 k, .int .i64 n], .agg #[.int .i64 k', .int .i64 n'], .slice A nl c, .slice B ml d] w (Ret (.bool true) w) := by
  have q0 : (50 : Int) < (nl : Int) := by omega
  have q1 : ((ml : Int)) ≤ 50 := by omega
  have hS : sameB xs xs = true := by simp [sameB]
  have q2 : 50 ≤ c := by omega
  go_enter Try.func5, Try.ntmps5
  go_wp2_with fail
  refine calls_re (fun W => Has W w.heap.size [.int .i64 k, .int .i64 n] ∧ Has W (w.heap.size + 1) [.int .i64 k', .int .i64 n'] ∧ Below w.heap.size w W) ⟨(Has.new _ _ _).alloc _, Has.newAt (by simp), outA (outA (Below.refl _ _) _) _⟩ ?_
  rintro W1 ⟨b0, b1, hbl⟩ x1
  have b0c0 := b0.at_ 0 (.int .i64 k) rfl
  have b0c1 := b0.at_ 1 (.int .i64 n) rfl
  have b0l := b0.lts
  have b1c0 := b1.at_ 0 (.int .i64 k') rfl
  have b1c1 := b1.at_ 1 (.int .i64 n') rfl
  have b1l := b1.lts
  refine ((add_any k n k' n' _).mono ?_)
  rintro e w' h
  obtain ⟨rfl, y1, rfl⟩ := h.next (x := x1)
  go_wp2_with fail
  clear b0l b1l b0c0 b0c1 b1c0 b1c1
  refine calls_re (fun W => Has W w.heap.size [.int .i64 k, .int .i64 n] ∧ Has W (w.heap.size + 1) [.int .i64 k', .int .i64 n'] ∧ Has W y1.w.heap.size [.int .i64 (ifNum k k' 1 0), .int .i64 (ifNum k k' (wrap64 (n + n')) 0)] ∧ Below w.heap.size w W) ⟨((b0.ext y1).alloc _), ((b1.ext y1).alloc _), (Has.new _ _ _), (outA (y1.out hbl) _)⟩ ?_
  clear b0 b1 hbl
  rintro W2 ⟨b0, b1, b2, hbl⟩ x2
  have b0c0 := b0.at_ 0 (.int .i64 k) rfl
  have b0c1 := b0.at_ 1 (.int .i64 n) rfl
  have b0l := b0.lts
  have b1c0 := b1.at_ 0 (.int .i64 k') rfl
  have b1c1 := b1.at_ 1 (.int .i64 n') rfl
  have b1l := b1.lts
  have b2c0 := b2.at_ 0 (.int .i64 (ifNum k k' 1 0)) rfl
  have b2c1 := b2.at_ 1 (.int .i64 (ifNum k k' (wrap64 (n + n')) 0)) rfl
  have b2l := b2.lts
  refine ((radd_any k n k' n' _).mono ?_)
  rintro e w' h
  obtain ⟨rfl, y2, rfl⟩ := h.next (x := x2)
  go_wp2_with fail
  clear b0l b1l b2l b0c0 b0c1 b1c0 b1c1 b2c0 b2c1
  refine calls_re (fun W => Has W w.heap.size [.int .i64 k, .int .i64 n] ∧ Has W (w.heap.size + 1) [.int .i64 k', .int .i64 n'] ∧ Has W y1.w.heap.size [.int .i64 (ifNum k k' 1 0), .int .i64 (ifNum k k' (wrap64 (n + n')) 0)] ∧ Has W y2.w.heap.size [.int .i64 (ifNum k k' 1 0), .int .i64 (ifNum k k' (wrap64 (n + n')) 0)] ∧ Below w.heap.size w W) ⟨((b0.ext y2).alloc _), ((b1.ext y2).alloc _), ((b2.ext y2).alloc _), (Has.new _ _ _), (outA (y2.out hbl) _)⟩ ?_
  clear b0 b1 b2 hbl
  rintro W3 ⟨b0, b1, b2, b3, hbl⟩ x3
  have b0c0 := b0.at_ 0 (.int .i64 k) rfl
  have b0c1 := b0.at_ 1 (.int .i64 n) rfl
  have b0l := b0.lts
  have b1c0 := b1.at_ 0 (.int .i64 k') rfl
  have b1c1 := b1.at_ 1 (.int .i64 n') rfl
  have b1l := b1.lts
  have b2c0 := b2.at_ 0 (.int .i64 (ifNum k k' 1 0)) rfl
  have b2c1 := b2.at_ 1 (.int .i64 (ifNum k k' (wrap64 (n + n')) 0)) rfl
  have b2l := b2.lts
  have b3c0 := b3.at_ 0 (.int .i64 (ifNum k k' 1 0)) rfl
  have b3c1 := b3.at_ 1 (.int .i64 (ifNum k k' (wrap64 (n + n')) 0)) rfl
  have b3l := b3.lts
  refine ((sub_any k n k' n' _).mono ?_)
  rintro e w' h
  obtain ⟨rfl, y3, rfl⟩ := h.next (x := x3)
  go_wp2_with fail
  clear b0l b1l b2l b3l b0c0 b0c1 b1c0 b1c1 b2c0 b2c1 b3c0 b3c1
  refine calls_re (fun W => Has W w.heap.size [.int .i64 k, .int .i64 n] ∧ Has W (w.heap.size + 1) [.int .i64 k', .int .i64 n'] ∧ Has W y1.w.heap.size [.int .i64 (ifNum k k' 1 0), .int .i64 (ifNum k k' (wrap64 (n + n')) 0)] ∧ Has W y2.w.heap.size [.int .i64 (ifNum k k' 1 0), .int .i64 (ifNum k k' (wrap64 (n + n')) 0)] ∧ Has W y3.w.heap.size [.int .i64 (ifNum k k' 1 0), .int .i64 (ifNum k k' (wrap64 (n - n')) 0)] ∧ Below w.heap.size w W) ⟨((b0.ext y3).alloc _), ((b1.ext y3).alloc _), ((b2.ext y3).alloc _), ((b3.ext y3).alloc _), (Has.new _ _ _), (outA (y3.out hbl) _)⟩ ?_
  clear b0 b1 b2 b3 hbl
  rintro W4 ⟨b0, b1, b2, b3, b4, hbl⟩ x4
  have b0c0 := b0.at_ 0 (.int .i64 k) rfl
  have b0c1 := b0.at_ 1 (.int .i64 n) rfl
  have b0l := b0.lts
  have b1c0 := b1.at_ 0 (.int .i64 k') rfl
  have b1c1 := b1.at_ 1 (.int .i64 n') rfl
  have b1l := b1.lts
  have b2c0 := b2.at_ 0 (.int .i64 (ifNum k k' 1 0)) rfl
  have b2c1 := b2.at_ 1 (.int .i64 (ifNum k k' (wrap64 (n + n')) 0)) rfl
  have b2l := b2.lts
  have b3c0 := b3.at_ 0 (.int .i64 (ifNum k k' 1 0)) rfl
  have b3c1 := b3.at_ 1 (.int .i64 (ifNum k k' (wrap64 (n + n')) 0)) rfl
  have b3l := b3.lts
  have b4c0 := b4.at_ 0 (.int .i64 (ifNum k k' 1 0)) rfl
  have b4c1 := b4.at_ 1 (.int .i64 (ifNum k k' (wrap64 (n - n')) 0)) rfl
  have b4l := b4.lts
  refine ((rsub_any k n k' n' _).mono ?_)
  rintro e w' h
  obtain ⟨rfl, y4, rfl⟩ := h.next (x := x4)
  go_wp2_with fail
  clear b0l b1l b2l b3l b4l b0c0 b0c1 b1c0 b1c1 b2c0 b2c1 b3c0 b3c1 b4c0 b4c1
  refine calls_re (fun W => Has W w.heap.size [.int .i64 k, .int .i64 n] ∧ Has W (w.heap.size + 1) [.int .i64 k', .int .i64 n'] ∧ Has W y1.w.heap.size [.int .i64 (ifNum k k' 1 0), .int .i64 (ifNum k k' (wrap64 (n + n')) 0)] ∧ Has W y2.w.heap.size [.int .i64 (ifNum k k' 1 0), .int .i64 (ifNum k k' (wrap64 (n + n')) 0)] ∧ Has W y3.w.heap.size [.int .i64 (ifNum k k' 1 0), .int .i64 (ifNum k k' (wrap64 (n - n')) 0)] ∧ Has W y4.w.heap.size [.int .i64 (ifNum k k' 1 0), .int .i64 (ifNum k k' (wrap64 (n - n')) 0)] ∧ Below w.heap.size w W) ⟨((b0.ext y4).alloc _), ((b1.ext y4).alloc _), ((b2.ext y4).alloc _), ((b3.ext y4).alloc _), ((b4.ext y4).alloc _), (Has.new _ _ _), (outA (y4.out hbl) _)⟩ ?_
  clear b0 b1 b2 b3 b4 hbl
  rintro W5 ⟨b0, b1, b2, b3, b4, b5, hbl⟩ x5
  have b0c0 := b0.at_ 0 (.int .i64 k) rfl
  have b0c1 := b0.at_ 1 (.int .i64 n) rfl
  have b0l := b0.lts
  have b1c0 := b1.at_ 0 (.int .i64 k') rfl
  have b1c1 := b1.at_ 1 (.int .i64 n') rfl
  have b1l := b1.lts
  have b2c0 := b2.at_ 0 (.int .i64 (ifNum k k' 1 0)) rfl
  have b2c1 := b2.at_ 1 (.int .i64 (ifNum k k' (wrap64 (n + n')) 0)) rfl
  have b2l := b2.lts
  have b3c0 := b3.at_ 0 (.int .i64 (ifNum k k' 1 0)) rfl
  have b3c1 := b3.at_ 1 (.int .i64 (ifNum k k' (wrap64 (n + n')) 0)) rfl
  have b3l := b3.lts
  have b4c0 := b4.at_ 0 (.int .i64 (ifNum k k' 1 0)) rfl
  have b4c1 := b4.at_ 1 (.int .i64 (ifNum k k' (wrap64 (n - n')) 0)) rfl
  have b4l := b4.lts
  have b5c0 := b5.at_ 0 (.int .i64 (ifNum k k' 1 0)) rfl
  have b5c1 := b5.at_ 1 (.int .i64 (ifNum k k' (wrap64 (n - n')) 0)) rfl
  have b5l := b5.lts
  refine ((less_any k n k' n' _).mono ?_)
  rintro e w' h
  obtain ⟨rfl, y5, rfl⟩ := h.next (x := x5)
  go_wp2_with fail
  clear b0l b1l b2l b3l b4l b5l b0c0 b0c1 b1c0 b1c1 b2c0 b2c1 b3c0 b3c1 b4c0 b4c1 b5c0 b5c1
  refine calls_re (fun W => Has W w.heap.size [.int .i64 k, .int .i64 n] ∧ Has W (w.heap.size + 1) [.int .i64 k', .int .i64 n'] ∧ Has W y1.w.heap.size [.int .i64 (ifNum k k' 1 0), .int .i64 (ifNum k k' (wrap64 (n + n')) 0)] ∧ Has W y2.w.heap.size [.int .i64 (ifNum k k' 1 0), .int .i64 (ifNum k k' (wrap64 (n + n')) 0)] ∧ Has W y3.w.heap.size [.int .i64 (ifNum k k' 1 0), .int .i64 (ifNum k k' (wrap64 (n - n')) 0)] ∧ Has W y4.w.heap.size [.int .i64 (ifNum k k' 1 0), .int .i64 (ifNum k k' (wrap64 (n - n')) 0)] ∧ Has W y5.w.heap.size [.int .i64 (ifNum k k' 1 0), .int .i64 (ifNum k k' (truthI (decide (n < n'))) 0)] ∧ Below w.heap.size w W) ⟨((b0.ext y5).alloc _), ((b1.ext y5).alloc _), ((b2.ext y5).alloc _), ((b3.ext y5).alloc _), ((b4.ext y5).alloc _), ((b5.ext y5).alloc _), (Has.new _ _ _), (outA (y5.out hbl) _)⟩ ?_
  clear b0 b1 b2 b3 b4 b5 hbl
  rintro W6 ⟨b0, b1, b2, b3, b4, b5, b6, hbl⟩ x6
  have b0c0 := b0.at_ 0 (.int .i64 k) rfl
  have b0c1 := b0.at_ 1 (.int .i64 n) rfl
  have b0l := b0.lts
  have b1c0 := b1.at_ 0 (.int .i64 k') rfl
  have b1c1 := b1.at_ 1 (.int .i64 n') rfl
  have b1l := b1.lts
  have b2c0 := b2.at_ 0 (.int .i64 (ifNum k k' 1 0)) rfl
  have b2c1 := b2.at_ 1 (.int .i64 (ifNum k k' (wrap64 (n + n')) 0)) rfl
  have b2l := b2.lts
  have b3c0 := b3.at_ 0 (.int .i64 (ifNum k k' 1 0)) rfl
  have b3c1 := b3.at_ 1 (.int .i64 (ifNum k k' (wrap64 (n + n')) 0)) rfl
  have b3l := b3.lts
  have b4c0 := b4.at_ 0 (.int .i64 (ifNum k k' 1 0)) rfl
  have b4c1 := b4.at_ 1 (.int .i64 (ifNum k k' (wrap64 (n - n')) 0)) rfl
  have b4l := b4.lts
  have b5c0 := b5.at_ 0 (.int .i64 (ifNum k k' 1 0)) rfl
  have b5c1 := b5.at_ 1 (.int .i64 (ifNum k k' (wrap64 (n - n')) 0)) rfl
  have b5l := b5.lts
  have b6c0 := b6.at_ 0 (.int .i64 (ifNum k k' 1 0)) rfl
  have b6c1 := b6.at_ 1 (.int .i64 (ifNum k k' (truthI (decide (n < n'))) 0)) rfl
  have b6l := b6.lts
  refine ((rless_any k n k' n' _).mono ?_)
  rintro e w' h
  obtain ⟨rfl, y6, rfl⟩ := h.next (x := x6)
  go_wp2_with fail
  clear b0l b1l b2l b3l b4l b5l b6l b0c0 b0c1 b1c0 b1c1 b2c0 b2c1 b3c0 b3c1 b4c0 b4c1 b5c0 b5c1 b6c0 b6c1
  refine wp_re (fun W => Has W w.heap.size [.int .i64 k, .int .i64 n] ∧ Has W (w.heap.size + 1) [.int .i64 k', .int .i64 n'] ∧ Has W y1.w.heap.size [.int .i64 (ifNum k k' 1 0), .int .i64 (ifNum k k' (wrap64 (n + n')) 0)] ∧ Has W y2.w.heap.size [.int .i64 (ifNum k k' 1 0), .int .i64 (ifNum k k' (wrap64 (n + n')) 0)] ∧ Has W y3.w.heap.size [.int .i64 (ifNum k k' 1 0), .int .i64 (ifNum k k' (wrap64 (n - n')) 0)] ∧ Has W y4.w.heap.size [.int .i64 (ifNum k k' 1 0), .int .i64 (ifNum k k' (wrap64 (n - n')) 0)] ∧ Has W y5.w.heap.size [.int .i64 (ifNum k k' 1 0), .int .i64 (ifNum k k' (truthI (decide (n < n'))) 0)] ∧ Has W y6.w.heap.size [.int .i64 (ifNum k k' 1 0), .int .i64 (ifNum k k' (truthI (decide (n < n'))) 0)] ∧ Below w.heap.size w W) ⟨((b0.ext y6).alloc _), ((b1.ext y6).alloc _), ((b2.ext y6).alloc _), ((b3.ext y6).alloc _), ((b4.ext y6).alloc _), ((b5.ext y6).alloc _), ((b6.ext y6).alloc _), (Has.new _ _ _), (outA (y6.out hbl) _)⟩ ?_
  clear b0 b1 b2 b3 b4 b5 b6 hbl
  rintro W7 ⟨b0, b1, b2, b3, b4, b5, b6, b7, hbl⟩ x7
  have b0c0 := b0.at_ 0 (.int .i64 k) rfl
  have b0c1 := b0.at_ 1 (.int .i64 n) rfl
  have b0l := b0.lts
  have b1c0 := b1.at_ 0 (.int .i64 k') rfl
  have b1c1 := b1.at_ 1 (.int .i64 n') rfl
  have b1l := b1.lts
  have b2c0 := b2.at_ 0 (.int .i64 (ifNum k k' 1 0)) rfl
  have b2c1 := b2.at_ 1 (.int .i64 (ifNum k k' (wrap64 (n + n')) 0)) rfl
  have b2l := b2.lts
  have b3c0 := b3.at_ 0 (.int .i64 (ifNum k k' 1 0)) rfl
  have b3c1 := b3.at_ 1 (.int .i64 (ifNum k k' (wrap64 (n + n')) 0)) rfl
  have b3l := b3.lts
  have b4c0 := b4.at_ 0 (.int .i64 (ifNum k k' 1 0)) rfl
  have b4c1 := b4.at_ 1 (.int .i64 (ifNum k k' (wrap64 (n - n')) 0)) rfl
  have b4l := b4.lts
  have b5c0 := b5.at_ 0 (.int .i64 (ifNum k k' 1 0)) rfl
  have b5c1 := b5.at_ 1 (.int .i64 (ifNum k k' (wrap64 (n - n')) 0)) rfl
  have b5l := b5.lts
  have b6c0 := b6.at_ 0 (.int .i64 (ifNum k k' 1 0)) rfl
  have b6c1 := b6.at_ 1 (.int .i64 (ifNum k k' (truthI (decide (n < n'))) 0)) rfl
  have b6l := b6.lts
  have b7c0 := b7.at_ 0 (.int .i64 (ifNum k k' 1 0)) rfl
  have b7c1 := b7.at_ 1 (.int .i64 (ifNum k k' (truthI (decide (n < n'))) 0)) rfl
  have b7l := b7.lts
  refine region_cl (by kernel_rfl) (by kernel_rfl) ?_
  repeat (go_big_quiet_step (fail))
  refine wpQuiet_nil ?_
  rintro w' ⟨yq, rfl⟩
  go_wp2_with fail
  have VA := (hA.below hbl).below yq.below
  have VB := (hB.below hbl).below yq.below
  clear b0l b1l b2l b3l b4l b5l b6l b7l b0c0 b0c1 b1c0 b1c1 b2c0 b2c1 b3c0 b3c1 b4c0 b4c1 b5c0 b5c1 b6c0 b6c1 b7c0 b7c1
  refine wp_re (fun W => Has W w.heap.size [.int .i64 k, .int .i64 n] ∧ Has W (w.heap.size + 1) [.int .i64 k', .int .i64 n'] ∧ Has W y1.w.heap.size [.int .i64 (ifNum k k' 1 0), .int .i64 (ifNum k k' (wrap64 (n + n')) 0)] ∧ Has W y2.w.heap.size [.int .i64 (ifNum k k' 1 0), .int .i64 (ifNum k k' (wrap64 (n + n')) 0)] ∧ Has W y3.w.heap.size [.int .i64 (ifNum k k' 1 0), .int .i64 (ifNum k k' (wrap64 (n - n')) 0)] ∧ Has W y4.w.heap.size [.int .i64 (ifNum k k' 1 0), .int .i64 (ifNum k k' (wrap64 (n - n')) 0)] ∧ Has W y5.w.heap.size [.int .i64 (ifNum k k' 1 0), .int .i64 (ifNum k k' (truthI (decide (n < n'))) 0)] ∧ Has W y6.w.heap.size [.int .i64 (ifNum k k' 1 0), .int .i64 (ifNum k k' (truthI (decide (n < n'))) 0)] ∧ Below w.heap.size w W) ⟨(b0.ext yq), (b1.ext yq), (b2.ext yq), (b3.ext yq), (b4.ext yq), (b5.ext yq), (b6.ext yq), (b7.ext yq), (yq.out hbl)⟩ ?_
  clear b0 b1 b2 b3 b4 b5 b6 b7 hbl
  rintro W8 ⟨b0, b1, b2, b3, b4, b5, b6, b7, hbl⟩ x8
  have VA' := fun y : Cl W8 => (hA.below hbl).below y.below
  have VB' := fun y : Cl W8 => (hB.below hbl).below y.below
  clear VA VB
  have b0c0 := b0.at_ 0 (.int .i64 k) rfl
  have b0c1 := b0.at_ 1 (.int .i64 n) rfl
  have b0l := b0.lts
  have b1c0 := b1.at_ 0 (.int .i64 k') rfl
  have b1c1 := b1.at_ 1 (.int .i64 n') rfl
  have b1l := b1.lts
  have b2c0 := b2.at_ 0 (.int .i64 (ifNum k k' 1 0)) rfl
  have b2c1 := b2.at_ 1 (.int .i64 (ifNum k k' (wrap64 (n + n')) 0)) rfl
  have b2l := b2.lts
  have b3c0 := b3.at_ 0 (.int .i64 (ifNum k k' 1 0)) rfl
  have b3c1 := b3.at_ 1 (.int .i64 (ifNum k k' (wrap64 (n + n')) 0)) rfl
  have b3l := b3.lts
  have b4c0 := b4.at_ 0 (.int .i64 (ifNum k k' 1 0)) rfl
  have b4c1 := b4.at_ 1 (.int .i64 (ifNum k k' (wrap64 (n - n')) 0)) rfl
  have b4l := b4.lts
  have b5c0 := b5.at_ 0 (.int .i64 (ifNum k k' 1 0)) rfl
  have b5c1 := b5.at_ 1 (.int .i64 (ifNum k k' (wrap64 (n - n')) 0)) rfl
  have b5l := b5.lts
  have b6c0 := b6.at_ 0 (.int .i64 (ifNum k k' 1 0)) rfl
  have b6c1 := b6.at_ 1 (.int .i64 (ifNum k k' (truthI (decide (n < n'))) 0)) rfl
  have b6l := b6.lts
  have b7c0 := b7.at_ 0 (.int .i64 (ifNum k k' 1 0)) rfl
  have b7c1 := b7.at_ 1 (.int .i64 (ifNum k k' (truthI (decide (n < n'))) 0)) rfl
  have b7l := b7.lts
  refine region_cl (by kernel_rfl) (by kernel_rfl) ?_
  repeat (go_big_quiet_step (first | (go_at_call 33; first | (with_reducible exact calls_cl (same_any A B 50 ml c d xs ys E hE _ (VA' _) (VB' _) (Nat.le_refl 50) (hml))) | (with_reducible exact calls_cl (same_any A A 50 50 c c xs xs true hS _ (VA' _) (VA' _) (Nat.le_refl 50) (Nat.le_refl 50)))) | (go_at_call 34; with_reducible exact calls_cl (rsame_any A B 50 ml c d xs ys E hE _ (VA' _) (VB' _) (Nat.le_refl 50) (hml))) | (go_at_call 31; with_reducible exact calls_cl (equal_any k n k' n' _)) | (go_at_call 32; with_reducible exact calls_cl (requal_any k n k' n' _)) | (go_at_call 22; with_reducible exact calls_cl (awake_any _))))
  refine wpQuiet_nil ?_
  rintro w' ⟨yz, rfl⟩
  go_wp2_with fail
  go_ret
  exact Ret.of (yz.out hbl)

set_option maxRecDepth 100000 in
set_option maxHeartbeats 4000000 in
theorem walk_3 (k n k' n' : Int) (A B : Option Addr) (nl ml c d : Nat) (xs ys : List (Int × Int)) (E : Bool) (hE : sameB xs ys = E) (w : World) (hnl : 50 < nl) (hnlc : nl ≤ c) (hml : 50 < ml) (hmlc : ml ≤ d) (hA : Vals w A 50 xs) (hB : Vals w B 50 ys) (hcm : c ≤ 9223372036854775807) (hdm : d ≤ 9223372036854775807) :
    Calls Try.prog 5 #[.agg #[.int .i64 k, .int .i64 n], .agg #[.int .i64 k', .int .i64 n'], .slice A nl c, .slice B ml d] w (Ret (.bool true) w) := by
  have q0 : (50 : Int) < (nl : Int) := by omega
  have q1 : (50 : Int) < (ml : Int) := by omega
  have hS : sameB xs xs = true := by simp [sameB]
  have q2 : 50 ≤ c := by omega
  have q3 : 50 ≤ d := by omega
  go_enter Try.func5, Try.ntmps5
  go_wp2_with fail
  refine calls_re (fun W => Has W w.heap.size [.int .i64 k, .int .i64 n] ∧ Has W (w.heap.size + 1) [.int .i64 k', .int .i64 n'] ∧ Below w.heap.size w W) ⟨(Has.new _ _ _).alloc _, Has.newAt (by simp), outA (outA (Below.refl _ _) _) _⟩ ?_
  rintro W1 ⟨b0, b1, hbl⟩ x1
  have b0c0 := b0.at_ 0 (.int .i64 k) rfl
  have b0c1 := b0.at_ 1 (.int .i64 n) rfl
  have b0l := b0.lts
  have b1c0 := b1.at_ 0 (.int .i64 k') rfl
  have b1c1 := b1.at_ 1 (.int .i64 n') rfl
  have b1l := b1.lts
  refine ((add_any k n k' n' _).mono ?_)
  rintro e w' h
  obtain ⟨rfl, y1, rfl⟩ := h.next (x := x1)
  go_wp2_with fail
  clear b0l b1l b0c0 b0c1 b1c0 b1c1
  refine calls_re (fun W => Has W w.heap.size [.int .i64 k, .int .i64 n] ∧ Has W (w.heap.size + 1) [.int .i64 k', .int .i64 n'] ∧ Has W y1.w.heap.size [.int .i64 (ifNum k k' 1 0), .int .i64 (ifNum k k' (wrap64 (n + n')) 0)] ∧ Below w.heap.size w W) ⟨((b0.ext y1).alloc _), ((b1.ext y1).alloc _), (Has.new _ _ _), (outA (y1.out hbl) _)⟩ ?_
  clear b0 b1 hbl
  rintro W2 ⟨b0, b1, b2, hbl⟩ x2
  have b0c0 := b0.at_ 0 (.int .i64 k) rfl
  have b0c1 := b0.at_ 1 (.int .i64 n) rfl
  have b0l := b0.lts
  have b1c0 := b1.at_ 0 (.int .i64 k') rfl
  have b1c1 := b1.at_ 1 (.int .i64 n') rfl
  have b1l := b1.lts
  have b2c0 := b2.at_ 0 (.int .i64 (ifNum k k' 1 0)) rfl
  have b2c1 := b2.at_ 1 (.int .i64 (ifNum k k' (wrap64 (n + n')) 0)) rfl
  have b2l := b2.lts
  refine ((radd_any k n k' n' _).mono ?_)
  rintro e w' h
  obtain ⟨rfl, y2, rfl⟩ := h.next (x := x2)
  go_wp2_with fail
  clear b0l b1l b2l b0c0 b0c1 b1c0 b1c1 b2c0 b2c1
  refine calls_re (fun W => Has W w.heap.size [.int .i64 k, .int .i64 n] ∧ Has W (w.heap.size + 1) [.int .i64 k', .int .i64 n'] ∧ Has W y1.w.heap.size [.int .i64 (ifNum k k' 1 0), .int .i64 (ifNum k k' (wrap64 (n + n')) 0)] ∧ Has W y2.w.heap.size [.int .i64 (ifNum k k' 1 0), .int .i64 (ifNum k k' (wrap64 (n + n')) 0)] ∧ Below w.heap.size w W) ⟨((b0.ext y2).alloc _), ((b1.ext y2).alloc _), ((b2.ext y2).alloc _), (Has.new _ _ _), (outA (y2.out hbl) _)⟩ ?_
  clear b0 b1 b2 hbl
  rintro W3 ⟨b0, b1, b2, b3, hbl⟩ x3
  have b0c0 := b0.at_ 0 (.int .i64 k) rfl
  have b0c1 := b0.at_ 1 (.int .i64 n) rfl
  have b0l := b0.lts
  have b1c0 := b1.at_ 0 (.int .i64 k') rfl
  have b1c1 := b1.at_ 1 (.int .i64 n') rfl
  have b1l := b1.lts
  have b2c0 := b2.at_ 0 (.int .i64 (ifNum k k' 1 0)) rfl
  have b2c1 := b2.at_ 1 (.int .i64 (ifNum k k' (wrap64 (n + n')) 0)) rfl
  have b2l := b2.lts
  have b3c0 := b3.at_ 0 (.int .i64 (ifNum k k' 1 0)) rfl
  have b3c1 := b3.at_ 1 (.int .i64 (ifNum k k' (wrap64 (n + n')) 0)) rfl
  have b3l := b3.lts
  refine ((sub_any k n k' n' _).mono ?_)
  rintro e w' h
  obtain ⟨rfl, y3, rfl⟩ := h.next (x := x3)
  go_wp2_with fail
  clear b0l b1l b2l b3l b0c0 b0c1 b1c0 b1c1 b2c0 b2c1 b3c0 b3c1
  refine calls_re (fun W => Has W w.heap.size [.int .i64 k, .int .i64 n] ∧ Has W (w.heap.size + 1) [.int .i64 k', .int .i64 n'] ∧ Has W y1.w.heap.size [.int .i64 (ifNum k k' 1 0), .int .i64 (ifNum k k' (wrap64 (n + n')) 0)] ∧ Has W y2.w.heap.size [.int .i64 (ifNum k k' 1 0), .int .i64 (ifNum k k' (wrap64 (n + n')) 0)] ∧ Has W y3.w.heap.size [.int .i64 (ifNum k k' 1 0), .int .i64 (ifNum k k' (wrap64 (n - n')) 0)] ∧ Below w.heap.size w W) ⟨((b0.ext y3).alloc _), ((b1.ext y3).alloc _), ((b2.ext y3).alloc _), ((b3.ext y3).alloc _), (Has.new _ _ _), (outA (y3.out hbl) _)⟩ ?_
  clear b0 b1 b2 b3 hbl
  rintro W4 ⟨b0, b1, b2, b3, b4, hbl⟩ x4
  have b0c0 := b0.at_ 0 (.int .i64 k) rfl
  have b0c1 := b0.at_ 1 (.int .i64 n) rfl
  have b0l := b0.lts
  have b1c0 := b1.at_ 0 (.int .i64 k') rfl
  have b1c1 := b1.at_ 1 (.int .i64 n') rfl
  have b1l := b1.lts
  have b2c0 := b2.at_ 0 (.int .i64 (ifNum k k' 1 0)) rfl
  have b2c1 := b2.at_ 1 (.int .i64 (ifNum k k' (wrap64 (n + n')) 0)) rfl
  have b2l := b2.lts
  have b3c0 := b3.at_ 0 (.int .i64 (ifNum k k' 1 0)) rfl
  have b3c1 := b3.at_ 1 (.int .i64 (ifNum k k' (wrap64 (n + n')) 0)) rfl
  have b3l := b3.lts
  have b4c0 := b4.at_ 0 (.int .i64 (ifNum k k' 1 0)) rfl
  have b4c1 := b4.at_ 1 (.int .i64 (ifNum k k' (wrap64 (n - n')) 0)) rfl
  have b4l := b4.lts
  refine ((rsub_any k n k' n' _).mono ?_)
  rintro e w' h
  obtain ⟨rfl, y4, rfl⟩ := h.next (x := x4)
  go_wp2_with fail
  clear b0l b1l b2l b3l b4l b0c0 b0c1 b1c0 b1c1 b2c0 b2c1 b3c0 b3c1 b4c0 b4c1
  refine calls_re (fun W => Has W w.heap.size [.int .i64 k, .int .i64 n] ∧ Has W (w.heap.size + 1) [.int .i64 k', .int .i64 n'] ∧ Has W y1.w.heap.size [.int .i64 (ifNum k k' 1 0), .int .i64 (ifNum k k' (wrap64 (n + n')) 0)] ∧ Has W y2.w.heap.size [.int .i64 (ifNum k k' 1 0), .int .i64 (ifNum k k' (wrap64 (n + n')) 0)] ∧ Has W y3.w.heap.size [.int .i64 (ifNum k k' 1 0), .int .i64 (ifNum k k' (wrap64 (n - n')) 0)] ∧ Has W y4.w.heap.size [.int .i64 (ifNum k k' 1 0), .int .i64 (ifNum k k' (wrap64 (n - n')) 0)] ∧ Below w.heap.size w W) ⟨((b0.ext y4).alloc _), ((b1.ext y4).alloc _), ((b2.ext y4).alloc _), ((b3.ext y4).alloc _), ((b4.ext y4).alloc _), (Has.new _ _ _), (outA (y4.out hbl) _)⟩ ?_
  clear b0 b1 b2 b3 b4 hbl
  rintro W5 ⟨b0, b1, b2, b3, b4, b5, hbl⟩ x5
  have b0c0 := b0.at_ 0 (.int .i64 k) rfl
  have b0c1 := b0.at_ 1 (.int .i64 n) rfl
  have b0l := b0.lts
  have b1c0 := b1.at_ 0 (.int .i64 k') rfl
  have b1c1 := b1.at_ 1 (.int .i64 n') rfl
  have b1l := b1.lts
  have b2c0 := b2.at_ 0 (.int .i64 (ifNum k k' 1 0)) rfl
  have b2c1 := b2.at_ 1 (.int .i64 (ifNum k k' (wrap64 (n + n')) 0)) rfl
  have b2l := b2.lts
  have b3c0 := b3.at_ 0 (.int .i64 (ifNum k k' 1 0)) rfl
  have b3c1 := b3.at_ 1 (.int .i64 (ifNum k k' (wrap64 (n + n')) 0)) rfl
  have b3l := b3.lts
  have b4c0 := b4.at_ 0 (.int .i64 (ifNum k k' 1 0)) rfl
  have b4c1 := b4.at_ 1 (.int .i64 (ifNum k k' (wrap64 (n - n')) 0)) rfl
  have b4l := b4.lts
  have b5c0 := b5.at_ 0 (.int .i64 (ifNum k k' 1 0)) rfl
  have b5c1 := b5.at_ 1 (.int .i64 (ifNum k k' (wrap64 (n - n')) 0)) rfl
  have b5l := b5.lts
  refine ((less_any k n k' n' _).mono ?_)
  rintro e w' h
  obtain ⟨rfl, y5, rfl⟩ := h.next (x := x5)
  go_wp2_with fail
  clear b0l b1l b2l b3l b4l b5l b0c0 b0c1 b1c0 b1c1 b2c0 b2c1 b3c0 b3c1 b4c0 b4c1 b5c0 b5c1
  refine calls_re (fun W => Has W w.heap.size [.int .i64 k, .int .i64 n] ∧ Has W (w.heap.size + 1) [.int .i64 k', .int .i64 n'] ∧ Has W y1.w.heap.size [.int .i64 (ifNum k k' 1 0), .int .i64 (ifNum k k' (wrap64 (n + n')) 0)] ∧ Has W y2.w.heap.size [.int .i64 (ifNum k k' 1 0), .int .i64 (ifNum k k' (wrap64 (n + n')) 0)] ∧ Has W y3.w.heap.size [.int .i64 (ifNum k k' 1 0), .int .i64 (ifNum k k' (wrap64 (n - n')) 0)] ∧ Has W y4.w.heap.size [.int .i64 (ifNum k k' 1 0), .int .i64 (ifNum k k' (wrap64 (n - n')) 0)] ∧ Has W y5.w.heap.size [.int .i64 (ifNum k k' 1 0), .int .i64 (ifNum k k' (truthI (decide (n < n'))) 0)] ∧ Below w.heap.size w W) ⟨((b0.ext y5).alloc _), ((b1.ext y5).alloc _), ((b2.ext y5).alloc _), ((b3.ext y5).alloc _), ((b4.ext y5).alloc _), ((b5.ext y5).alloc _), (Has.new _ _ _), (outA (y5.out hbl) _)⟩ ?_
  clear b0 b1 b2 b3 b4 b5 hbl
  rintro W6 ⟨b0, b1, b2, b3, b4, b5, b6, hbl⟩ x6
  have b0c0 := b0.at_ 0 (.int .i64 k) rfl
  have b0c1 := b0.at_ 1 (.int .i64 n) rfl
  have b0l := b0.lts
  have b1c0 := b1.at_ 0 (.int .i64 k') rfl
  have b1c1 := b1.at_ 1 (.int .i64 n') rfl
  have b1l := b1.lts
  have b2c0 := b2.at_ 0 (.int .i64 (ifNum k k' 1 0)) rfl
  have b2c1 := b2.at_ 1 (.int .i64 (ifNum k k' (wrap64 (n + n')) 0)) rfl
  have b2l := b2.lts
  have b3c0 := b3.at_ 0 (.int .i64 (ifNum k k' 1 0)) rfl
  have b3c1 := b3.at_ 1 (.int .i64 (ifNum k k' (wrap64 (n + n')) 0)) rfl
  have b3l := b3.lts
  have b4c0 := b4.at_ 0 (.int .i64 (ifNum k k' 1 0)) rfl
  have b4c1 := b4.at_ 1 (.int .i64 (ifNum k k' (wrap64 (n - n')) 0)) rfl
  have b4l := b4.lts
  have b5c0 := b5.at_ 0 (.int .i64 (ifNum k k' 1 0)) rfl
  have b5c1 := b5.at_ 1 (.int .i64 (ifNum k k' (wrap64 (n - n')) 0)) rfl
  have b5l := b5.lts
  have b6c0 := b6.at_ 0 (.int .i64 (ifNum k k' 1 0)) rfl
  have b6c1 := b6.at_ 1 (.int .i64 (ifNum k k' (truthI (decide (n < n'))) 0)) rfl
  have b6l := b6.lts
  refine ((rless_any k n k' n' _).mono ?_)
  rintro e w' h
  obtain ⟨rfl, y6, rfl⟩ := h.next (x := x6)
  go_wp2_with fail
  clear b0l b1l b2l b3l b4l b5l b6l b0c0 b0c1 b1c0 b1c1 b2c0 b2c1 b3c0 b3c1 b4c0 b4c1 b5c0 b5c1 b6c0 b6c1
  refine wp_re (fun W => Has W w.heap.size [.int .i64 k, .int .i64 n] ∧ Has W (w.heap.size + 1) [.int .i64 k', .int .i64 n'] ∧ Has W y1.w.heap.size [.int .i64 (ifNum k k' 1 0), .int .i64 (ifNum k k' (wrap64 (n + n')) 0)] ∧ Has W y2.w.heap.size [.int .i64 (ifNum k k' 1 0), .int .i64 (ifNum k k' (wrap64 (n + n')) 0)] ∧ Has W y3.w.heap.size [.int .i64 (ifNum k k' 1 0), .int .i64 (ifNum k k' (wrap64 (n - n')) 0)] ∧ Has W y4.w.heap.size [.int .i64 (ifNum k k' 1 0), .int .i64 (ifNum k k' (wrap64 (n - n')) 0)] ∧ Has W y5.w.heap.size [.int .i64 (ifNum k k' 1 0), .int .i64 (ifNum k k' (truthI (decide (n < n'))) 0)] ∧ Has W y6.w.heap.size [.int .i64 (ifNum k k' 1 0), .int .i64 (ifNum k k' (truthI (decide (n < n'))) 0)] ∧ Below w.heap.size w W) ⟨((b0.ext y6).alloc _), ((b1.ext y6).alloc _), ((b2.ext y6).alloc _), ((b3.ext y6).alloc _), ((b4.ext y6).alloc _), ((b5.ext y6).alloc _), ((b6.ext y6).alloc _), (Has.new _ _ _), (outA (y6.out hbl) _)⟩ ?_
  clear b0 b1 b2 b3 b4 b5 b6 hbl
  rintro W7 ⟨b0, b1, b2, b3, b4, b5, b6, b7, hbl⟩ x7
  have b0c0 := b0.at_ 0 (.int .i64 k) rfl
  have b0c1 := b0.at_ 1 (.int .i64 n) rfl
  have b0l := b0.lts
  have b1c0 := b1.at_ 0 (.int .i64 k') rfl
  have b1c1 := b1.at_ 1 (.int .i64 n') rfl
  have b1l := b1.lts
  have b2c0 := b2.at_ 0 (.int .i64 (ifNum k k' 1 0)) rfl
  have b2c1 := b2.at_ 1 (.int .i64 (ifNum k k' (wrap64 (n + n')) 0)) rfl
  have b2l := b2.lts
  have b3c0 := b3.at_ 0 (.int .i64 (ifNum k k' 1 0)) rfl
  have b3c1 := b3.at_ 1 (.int .i64 (ifNum k k' (wrap64 (n + n')) 0)) rfl
  have b3l := b3.lts
  have b4c0 := b4.at_ 0 (.int .i64 (ifNum k k' 1 0)) rfl
  have b4c1 := b4.at_ 1 (.int .i64 (ifNum k k' (wrap64 (n - n')) 0)) rfl
  have b4l := b4.lts
  have b5c0 := b5.at_ 0 (.int .i64 (ifNum k k' 1 0)) rfl
  have b5c1 := b5.at_ 1 (.int .i64 (ifNum k k' (wrap64 (n - n')) 0)) rfl
  have b5l := b5.lts
  have b6c0 := b6.at_ 0 (.int .i64 (ifNum k k' 1 0)) rfl
  have b6c1 := b6.at_ 1 (.int .i64 (ifNum k k' (truthI (decide (n < n'))) 0)) rfl
  have b6l := b6.lts
  have b7c0 := b7.at_ 0 (.int .i64 (ifNum k k' 1 0)) rfl
  have b7c1 := b7.at_ 1 (.int .i64 (ifNum k k' (truthI (decide (n < n'))) 0)) rfl
  have b7l := b7.lts
  refine region_cl (by kernel_rfl) (by kernel_rfl) ?_
  repeat (go_big_quiet_step (fail))
  refine wpQuiet_nil ?_
  rintro w' ⟨yq, rfl⟩
  go_wp2_with fail
  have VA := (hA.below hbl).below yq.below
  have VB := (hB.below hbl).below yq.below
  clear b0l b1l b2l b3l b4l b5l b6l b7l b0c0 b0c1 b1c0 b1c1 b2c0 b2c1 b3c0 b3c1 b4c0 b4c1 b5c0 b5c1 b6c0 b6c1 b7c0 b7c1
  refine wp_re (fun W => Has W w.heap.size [.int .i64 k, .int .i64 n] ∧ Has W (w.heap.size + 1) [.int .i64 k', .int .i64 n'] ∧ Has W y1.w.heap.size [.int .i64 (ifNum k k' 1 0), .int .i64 (ifNum k k' (wrap64 (n + n')) 0)] ∧ Has W y2.w.heap.size [.int .i64 (ifNum k k' 1 0), .int .i64 (ifNum k k' (wrap64 (n + n')) 0)] ∧ Has W y3.w.heap.size [.int .i64 (ifNum k k' 1 0), .int .i64 (ifNum k k' (wrap64 (n - n')) 0)] ∧ Has W y4.w.heap.size [.int .i64 (ifNum k k' 1 0), .int .i64 (ifNum k k' (wrap64 (n - n')) 0)] ∧ Has W y5.w.heap.size [.int .i64 (ifNum k k' 1 0), .int .i64 (ifNum k k' (truthI (decide (n < n'))) 0)] ∧ Has W y6.w.heap.size [.int .i64 (ifNum k k' 1 0), .int .i64 (ifNum k k' (truthI (decide (n < n'))) 0)] ∧ Below w.heap.size w W) ⟨(b0.ext yq), (b1.ext yq), (b2.ext yq), (b3.ext yq), (b4.ext yq), (b5.ext yq), (b6.ext yq), (b7.ext yq), (yq.out hbl)⟩ ?_
  clear b0 b1 b2 b3 b4 b5 b6 b7 hbl
  rintro W8 ⟨b0, b1, b2, b3, b4, b5, b6, b7, hbl⟩ x8
  have VA' := fun y : Cl W8 => (hA.below hbl).below y.below
  have VB' := fun y : Cl W8 => (hB.below hbl).below y.below
  clear VA VB
  have b0c0 := b0.at_ 0 (.int .i64 k) rfl
  have b0c1 := b0.at_ 1 (.int .i64 n) rfl
  have b0l := b0.lts
  have b1c0 := b1.at_ 0 (.int .i64 k') rfl
  have b1c1 := b1.at_ 1 (.int .i64 n') rfl
  have b1l := b1.lts
  have b2c0 := b2.at_ 0 (.int .i64 (ifNum k k' 1 0)) rfl
  have b2c1 := b2.at_ 1 (.int .i64 (ifNum k k' (wrap64 (n + n')) 0)) rfl
  have b2l := b2.lts
  have b3c0 := b3.at_ 0 (.int .i64 (ifNum k k' 1 0)) rfl
  have b3c1 := b3.at_ 1 (.int .i64 (ifNum k k' (wrap64 (n + n')) 0)) rfl
  have b3l := b3.lts
  have b4c0 := b4.at_ 0 (.int .i64 (ifNum k k' 1 0)) rfl
  have b4c1 := b4.at_ 1 (.int .i64 (ifNum k k' (wrap64 (n - n')) 0)) rfl
  have b4l := b4.lts
  have b5c0 := b5.at_ 0 (.int .i64 (ifNum k k' 1 0)) rfl
  have b5c1 := b5.at_ 1 (.int .i64 (ifNum k k' (wrap64 (n - n')) 0)) rfl
  have b5l := b5.lts
  have b6c0 := b6.at_ 0 (.int .i64 (ifNum k k' 1 0)) rfl
  have b6c1 := b6.at_ 1 (.int .i64 (ifNum k k' (truthI (decide (n < n'))) 0)) rfl
  have b6l := b6.lts
  have b7c0 := b7.at_ 0 (.int .i64 (ifNum k k' 1 0)) rfl
  have b7c1 := b7.at_ 1 (.int .i64 (ifNum k k' (truthI (decide (n < n'))) 0)) rfl
  have b7l := b7.lts
  refine region_cl (by kernel_rfl) (by kernel_rfl) ?_
  repeat (go_big_quiet_step (first | (go_at_call 33; first | (with_reducible exact calls_cl (same_any A B 50 50 c d xs ys E hE _ (VA' _) (VB' _) (Nat.le_refl 50) (Nat.le_refl 50))) | (with_reducible exact calls_cl (same_any A A 50 50 c c xs xs true hS _ (VA' _) (VA' _) (Nat.le_refl 50) (Nat.le_refl 50)))) | (go_at_call 34; with_reducible exact calls_cl (rsame_any A B 50 50 c d xs ys E hE _ (VA' _) (VB' _) (Nat.le_refl 50) (Nat.le_refl 50))) | (go_at_call 31; with_reducible exact calls_cl (equal_any k n k' n' _)) | (go_at_call 32; with_reducible exact calls_cl (requal_any k n k' n' _)) | (go_at_call 22; with_reducible exact calls_cl (awake_any _))))
  refine wpQuiet_nil ?_
  rintro w' ⟨yz, rfl⟩
  go_wp2_with fail
  go_ret
  exact Ret.of (yz.out hbl)

theorem walk (k n k' n' : Int) (A B : Option Addr) (nl ml c d : Nat) (xs ys : List (Int × Int)) (w : World) (hnc : nl ≤ c) (hmd : ml ≤ d) (hA : Vals w A (min nl 50) xs) (hB : Vals w B (min ml 50) ys) (hcm : c ≤ 9223372036854775807) (hdm : d ≤ 9223372036854775807) :
    Calls Try.prog 5 #[.agg #[.int .i64 k, .int .i64 n], .agg #[.int .i64 k', .int .i64 n'], .slice A nl c, .slice B ml d] w (Ret (.bool true) w) := by
  by_cases h1 : nl ≤ 50
  · rw [Nat.min_eq_left h1] at hA
    by_cases h2 : ml ≤ 50
    · rw [Nat.min_eq_left h2] at hB
      exact walk_0 k n k' n' A B nl ml c d xs ys _ rfl w h1 hnc h2 hmd hA hB hcm hdm
    · rw [Nat.min_eq_right (by omega)] at hB
      exact walk_1 k n k' n' A B nl ml c d xs ys _ rfl w h1 hnc (by omega) hmd hA hB hcm hdm
  · rw [Nat.min_eq_right (by omega)] at hA
    by_cases h2 : ml ≤ 50
    · rw [Nat.min_eq_left h2] at hB
      exact walk_2 k n k' n' A B nl ml c d xs ys _ rfl w (by omega) hnc h2 hmd hA hB hcm hdm
    · rw [Nat.min_eq_right (by omega)] at hB
      exact walk_3 k n k' n' A B nl ml c d xs ys _ rfl w (by omega) hnc (by omega) hmd hA hB hcm hdm
theorem cellsVal : Try.prog.cellsOf 24 = 2 := by kernel_rfl
/-- The first values of a slice that came in. -/
theorem vals_of {w : World} {A : Option Addr} {len cap : Nat} {z : Nat → Nat → Int} (hl : len ≤ cap) (h : 0 < cap → ∃ b o, A = some ⟨b, o, none⟩ ∧ b < w.heap.size ∧ ∀ i j, i < cap → j < 2 → w.cell? ⟨b, o + (i * 2 + j), none⟩ = some (.int .i64 (z i j)) ∧ (Lit.int .i64 (z i j)).wf = true) (m : Nat) (hm : m ≤ len) :
    Vals w A m ((List.range m).map fun i => (z i 0, z i 1)) := by
  refine ⟨by simp, fun h0 => ?_⟩
  obtain ⟨b, o, rfl, hb, hc⟩ := h (by omega)
  refine ⟨b, o, rfl, hb, fun i x hx => ?_⟩
  have hi : i < m := by have := (List.getElem?_eq_some_iff.1 hx).1; simpa using this
  simp [hi] at hx
  subst hx
  have h1 := (hc i 0 (by omega) (by omega)).1
  have h2 := (hc i 1 (by omega) (by omega)).1
  exact ⟨by simpa using h1, by simpa [Nat.add_assoc] using h2⟩


theorem own : ownKnob Try.prog.godebug = none := by kernel_rfl
set_option maxRecDepth 100000 in
theorem lifted (os : Os) (started : os.Started) (H : Type) (enc : TypeId × Value → H) :
    ReturnsInHanded {} Try.checked os 5 .any (Rows.valueReckonsSpec.pre6 enc Try.prog Try.f5 Rows.valueReckonsRow.domain false) (Rows.valueReckonsSpec.post enc Try.prog Try.f5 false true false false) := by
  refine law_frame (C := Try.checked) own started (by kernel_rfl) Try.func5 rfl rfl Try.underlying4 ?_ (by kernel_rfl) (by kernel_rfl)
    (ChangeSpec.witness6 (enc := enc) (C := Try.checked) false ⟨#[], #[.agg #[.int .i64 0, .int .i64 0], .agg #[.int .i64 0, .int .i64 0], .slice none 0 0, .slice none 0 0], []⟩ 8 (by kernel_rfl) (by kernel_rfl) (by kernel_rfl) (by kernel_rfl)) ?_
  · intro ds hlen
    have hlen : ds.length = 4 := hlen.trans (by kernel_rfl)
    match ds, hlen with
    | [_, _, _, _], _ => rfl
  intro W base args ds p hval hA hlt hsz
  rw [Try.params5] at hA hval
  obtain ⟨v0, vs0, d0, ds0, p0, q0, hargs, rfl, rfl, h0, r0⟩ := trodAll_cons hA
  obtain ⟨v1, vs1, d1, ds1, p1, q1, rfl, rfl, rfl, h1, r1⟩ := trodAll_cons r0
  obtain ⟨v2, vs2, d2, ds2, p2, q2, rfl, rfl, rfl, h2, r2⟩ := trodAll_cons r1
  obtain ⟨v3, vs3, d3, ds3, p3, q3, rfl, rfl, rfl, h3, r3⟩ := trodAll_cons r2
  obtain ⟨rfl, rfl, rfl⟩ := trodAll_nil r3
  obtain rfl : args = #[v0, v1, v2, v3] := by cases args; simp_all
  obtain ⟨c00, c01, y00, y01, m0, rfl, rfl, rfl, hy00, hy01⟩ := open_agg2 Try.underlying24 (by kernel_rfl) cellsVal (hval 0 24 v0 rfl rfl) h0
  obtain ⟨k, e00, rfl, wfk⟩ := DataW.trod_int Try.underlying22 hy00
  obtain ⟨n, e01, rfl, wfn⟩ := DataW.trod_int Try.underlying3 hy01
  simp at e00 e01
  subst e00 e01
  obtain ⟨lon, hin⟩ := bounds_i64 wfn
  obtain ⟨c10, c11, y10, y11, m1, rfl, rfl, rfl, hy10, hy11⟩ := open_agg2 Try.underlying24 (by kernel_rfl) cellsVal (hval 1 24 v1 rfl rfl) h1
  obtain ⟨k', e10, rfl, wfk'⟩ := DataW.trod_int Try.underlying22 hy10
  obtain ⟨n', e11, rfl, wfn'⟩ := DataW.trod_int Try.underlying3 hy11
  simp at e10 e11
  subst e10 e11
  obtain ⟨lon', hin'⟩ := bounds_i64 wfn'
  obtain ⟨A2, len2, cap2, z2, rfl, hl2, hc2, hz2⟩ := int_rows Try.underlying38 Try.underlying24 (by kernel_rfl) (by kernel_rfl) (by decide) (hval 2 38 v2 rfl rfl) h2
  obtain ⟨A3, len3, cap3, z3, rfl, hl3, hc3, hz3⟩ := int_rows Try.underlying38 Try.underlying24 (by kernel_rfl) (by kernel_rfl) (by decide) (hval 3 38 v3 rfl rfl) h3
  unfold maxLen at hc2 hc3
  exact walk k n k' n' A2 A3 len2 len3 cap2 cap3 _ _ W hl2 hl3 (vals_of hl2 hz2 (min len2 50) (Nat.min_le_left _ _)) (vals_of hl3 hz3 (min len3 50) (Nat.min_le_left _ _)) hc2 hc3

theorem over : Rows.valueReckonsRow.holds Try.pinned (OpenSpec.ofChange Rows.valueReckonsSpec) :=
  OpenClaim.holds_of_wide 5 Try.f5 rfl rfl rfl rfl rfl rfl rfl ⟨rfl, rfl, rfl, rfl, rfl⟩ rfl rfl rfl rfl rfl (by kernel_rfl) Try.func5 (by kernel_rfl)
    (of_decide_eq_true (by kernel_rfl)) (by unfold Func.isWrapper; first | (rw [if_pos (by decide +kernel)]; kernel_rfl) | (rw [if_neg (by decide +kernel)]; exact ⟨rfl, rfl⟩))
    (fun os started H enc _ => lifted os started H enc)

/-- The statement. -/
theorem proved : Rows.ValueReckonsSaid := over
#print axioms proved

end Reck
end Go.Proofs.Ytmbigmankefedaa
