/- Paths of a law, by the runner. -/
import Derived.Test.YtnjfdjajlcfooaaFlat
namespace Go.Proofs.Ytnjfdjajlcfooaa
open Go.ChangeShapes Go.WideShapes Go.ChangeAt Go.RowKit
namespace Ev
set_option maxRecDepth 100000
/-- The page's example is known. -/
def spA : FuncId → Option (List Value → Option Value) := fun f => bif Nat.beq f 8 then some (fun l => match l with | [] => some (.bool true) | _ => none) else none
theorem awake_true (w : World) : Calls Try.prog 8 #[] w (Ret (.bool true) w) := ret_of 20000 w (by kernel_rfl) rfl
theorem knownA : Known spA := fun f g h => by
  unfold spA at h
  cases hb : Nat.beq f 8 with
  | false => rw [hb] at h; simp at h
  | true =>
    rw [hb] at h
    obtain rfl := Nat.eq_of_beq_eq_true hb
    simp only [cond_true, Option.some.injEq] at h
    subst h
    refine ⟨⟨_, _, Try.func8, rfl⟩, fun args v ha hv w => ?_⟩
    obtain ⟨l⟩ := args
    cases l with
    | nil =>
      change some (Value.bool true) = some v at hv
      injection hv with hv
      subst hv
      exact awake_true w
    | cons x l => change (none : Option Value) = some v at hv; cases hv
/-- A row's number, with another one at a place. -/
def putv (j at_ v x : Int) : Int := bif at_ == j then v else x
theorem putv_ne {j at_ v x : Int} (h : at_ ≠ j) : putv j at_ v x = x := by
  unfold putv
  rw [beq_eq_false_iff_ne.2 h]
  rfl
def putG : List Value → Option Value
  | [.agg cs, .int .i64 at_, .agg vs] => match ints64 cs.toList, ints64 vs.toList with
    | some [k0, n0, k1, n1, k2, n2, k3, n3, k4, n4, k5, n5, k6, n6, k7, n7], some [vk, vn] => some (.agg #[.int .i64 (putv 0 at_ vk k0), .int .i64 (putv 0 at_ vn n0), .int .i64 (putv 1 at_ vk k1), .int .i64 (putv 1 at_ vn n1), .int .i64 (putv 2 at_ vk k2), .int .i64 (putv 2 at_ vn n2), .int .i64 (putv 3 at_ vk k3), .int .i64 (putv 3 at_ vn n3), .int .i64 (putv 4 at_ vk k4), .int .i64 (putv 4 at_ vn n4), .int .i64 (putv 5 at_ vk k5), .int .i64 (putv 5 at_ vn n5), .int .i64 (putv 6 at_ vk k6), .int .i64 (putv 6 at_ vn n6), .int .i64 (putv 7 at_ vk k7), .int .i64 (putv 7 at_ vn n7)])
    | _, _ => none
  | _ => none
theorem row8 (b : Int) (h : 0 ≤ b ∧ b < 8) (k0 n0 k1 n1 k2 n2 k3 n3 k4 n4 k5 n5 k6 n6 k7 n7 : Int) : sameR (takeN 2 (List.drop (0 + b.toNat * 2) [.int .i64 k0, .int .i64 n0, .int .i64 k1, .int .i64 n1, .int .i64 k2, .int .i64 n2, .int .i64 k3, .int .i64 n3, .int .i64 k4, .int .i64 n4, .int .i64 k5, .int .i64 n5, .int .i64 k6, .int .i64 n6, .int .i64 k7, .int .i64 n7])) [sel b [k0, k1, k2, k3, k4, k5, k6, k7], sel b [n0, n1, n2, n3, n4, n5, n6, n7]] = true := by
  have hc : b = 0 ∨ b = 1 ∨ b = 2 ∨ b = 3 ∨ b = 4 ∨ b = 5 ∨ b = 6 ∨ b = 7 := by omega
  rcases hc with rfl | rfl | rfl | rfl | rfl | rfl | rfl | rfl <;> simp [sameR, sameI, takeN, sel]
theorem row8g (b : Int) (h : 0 ≤ b ∧ b < 8) (k0 n0 k1 n1 k2 n2 k3 n3 k4 n4 k5 n5 k6 n6 k7 n7 x y : Int) (hx : sel b [k0, k1, k2, k3, k4, k5, k6, k7] = x) (hy : sel b [n0, n1, n2, n3, n4, n5, n6, n7] = y) : sameR (takeN 2 (List.drop (0 + b.toNat * 2) [.int .i64 k0, .int .i64 n0, .int .i64 k1, .int .i64 n1, .int .i64 k2, .int .i64 n2, .int .i64 k3, .int .i64 n3, .int .i64 k4, .int .i64 n4, .int .i64 k5, .int .i64 n5, .int .i64 k6, .int .i64 n6, .int .i64 k7, .int .i64 n7])) [x, y] = true := by
  subst hx hy
  exact row8 b h k0 n0 k1 n1 k2 n2 k3 n3 k4 n4 k5 n5 k6 n6 k7 n7
theorem put0 (k0 n0 k1 n1 k2 n2 k3 n3 k4 n4 k5 n5 k6 n6 k7 n7 vk vn : Int) (w : World) : Calls Try.prog 17 #[.agg #[.int .i64 k0, .int .i64 n0, .int .i64 k1, .int .i64 n1, .int .i64 k2, .int .i64 n2, .int .i64 k3, .int .i64 n3, .int .i64 k4, .int .i64 n4, .int .i64 k5, .int .i64 n5, .int .i64 k6, .int .i64 n6, .int .i64 k7, .int .i64 n7], .int .i64 0, .agg #[.int .i64 vk, .int .i64 vn]] w (Ret (.agg #[.int .i64 vk, .int .i64 vn, .int .i64 k1, .int .i64 n1, .int .i64 k2, .int .i64 n2, .int .i64 k3, .int .i64 n3, .int .i64 k4, .int .i64 n4, .int .i64 k5, .int .i64 n5, .int .i64 k6, .int .i64 n6, .int .i64 k7, .int .i64 n7]) w) := ret_of 5000 w (by kernel_rfl) rfl
theorem put1 (k0 n0 k1 n1 k2 n2 k3 n3 k4 n4 k5 n5 k6 n6 k7 n7 vk vn : Int) (w : World) : Calls Try.prog 17 #[.agg #[.int .i64 k0, .int .i64 n0, .int .i64 k1, .int .i64 n1, .int .i64 k2, .int .i64 n2, .int .i64 k3, .int .i64 n3, .int .i64 k4, .int .i64 n4, .int .i64 k5, .int .i64 n5, .int .i64 k6, .int .i64 n6, .int .i64 k7, .int .i64 n7], .int .i64 1, .agg #[.int .i64 vk, .int .i64 vn]] w (Ret (.agg #[.int .i64 k0, .int .i64 n0, .int .i64 vk, .int .i64 vn, .int .i64 k2, .int .i64 n2, .int .i64 k3, .int .i64 n3, .int .i64 k4, .int .i64 n4, .int .i64 k5, .int .i64 n5, .int .i64 k6, .int .i64 n6, .int .i64 k7, .int .i64 n7]) w) := ret_of 5000 w (by kernel_rfl) rfl
theorem put2 (k0 n0 k1 n1 k2 n2 k3 n3 k4 n4 k5 n5 k6 n6 k7 n7 vk vn : Int) (w : World) : Calls Try.prog 17 #[.agg #[.int .i64 k0, .int .i64 n0, .int .i64 k1, .int .i64 n1, .int .i64 k2, .int .i64 n2, .int .i64 k3, .int .i64 n3, .int .i64 k4, .int .i64 n4, .int .i64 k5, .int .i64 n5, .int .i64 k6, .int .i64 n6, .int .i64 k7, .int .i64 n7], .int .i64 2, .agg #[.int .i64 vk, .int .i64 vn]] w (Ret (.agg #[.int .i64 k0, .int .i64 n0, .int .i64 k1, .int .i64 n1, .int .i64 vk, .int .i64 vn, .int .i64 k3, .int .i64 n3, .int .i64 k4, .int .i64 n4, .int .i64 k5, .int .i64 n5, .int .i64 k6, .int .i64 n6, .int .i64 k7, .int .i64 n7]) w) := ret_of 5000 w (by kernel_rfl) rfl
theorem put3 (k0 n0 k1 n1 k2 n2 k3 n3 k4 n4 k5 n5 k6 n6 k7 n7 vk vn : Int) (w : World) : Calls Try.prog 17 #[.agg #[.int .i64 k0, .int .i64 n0, .int .i64 k1, .int .i64 n1, .int .i64 k2, .int .i64 n2, .int .i64 k3, .int .i64 n3, .int .i64 k4, .int .i64 n4, .int .i64 k5, .int .i64 n5, .int .i64 k6, .int .i64 n6, .int .i64 k7, .int .i64 n7], .int .i64 3, .agg #[.int .i64 vk, .int .i64 vn]] w (Ret (.agg #[.int .i64 k0, .int .i64 n0, .int .i64 k1, .int .i64 n1, .int .i64 k2, .int .i64 n2, .int .i64 vk, .int .i64 vn, .int .i64 k4, .int .i64 n4, .int .i64 k5, .int .i64 n5, .int .i64 k6, .int .i64 n6, .int .i64 k7, .int .i64 n7]) w) := ret_of 5000 w (by kernel_rfl) rfl
theorem put4 (k0 n0 k1 n1 k2 n2 k3 n3 k4 n4 k5 n5 k6 n6 k7 n7 vk vn : Int) (w : World) : Calls Try.prog 17 #[.agg #[.int .i64 k0, .int .i64 n0, .int .i64 k1, .int .i64 n1, .int .i64 k2, .int .i64 n2, .int .i64 k3, .int .i64 n3, .int .i64 k4, .int .i64 n4, .int .i64 k5, .int .i64 n5, .int .i64 k6, .int .i64 n6, .int .i64 k7, .int .i64 n7], .int .i64 4, .agg #[.int .i64 vk, .int .i64 vn]] w (Ret (.agg #[.int .i64 k0, .int .i64 n0, .int .i64 k1, .int .i64 n1, .int .i64 k2, .int .i64 n2, .int .i64 k3, .int .i64 n3, .int .i64 vk, .int .i64 vn, .int .i64 k5, .int .i64 n5, .int .i64 k6, .int .i64 n6, .int .i64 k7, .int .i64 n7]) w) := ret_of 5000 w (by kernel_rfl) rfl
theorem put5 (k0 n0 k1 n1 k2 n2 k3 n3 k4 n4 k5 n5 k6 n6 k7 n7 vk vn : Int) (w : World) : Calls Try.prog 17 #[.agg #[.int .i64 k0, .int .i64 n0, .int .i64 k1, .int .i64 n1, .int .i64 k2, .int .i64 n2, .int .i64 k3, .int .i64 n3, .int .i64 k4, .int .i64 n4, .int .i64 k5, .int .i64 n5, .int .i64 k6, .int .i64 n6, .int .i64 k7, .int .i64 n7], .int .i64 5, .agg #[.int .i64 vk, .int .i64 vn]] w (Ret (.agg #[.int .i64 k0, .int .i64 n0, .int .i64 k1, .int .i64 n1, .int .i64 k2, .int .i64 n2, .int .i64 k3, .int .i64 n3, .int .i64 k4, .int .i64 n4, .int .i64 vk, .int .i64 vn, .int .i64 k6, .int .i64 n6, .int .i64 k7, .int .i64 n7]) w) := ret_of 5000 w (by kernel_rfl) rfl
theorem put6 (k0 n0 k1 n1 k2 n2 k3 n3 k4 n4 k5 n5 k6 n6 k7 n7 vk vn : Int) (w : World) : Calls Try.prog 17 #[.agg #[.int .i64 k0, .int .i64 n0, .int .i64 k1, .int .i64 n1, .int .i64 k2, .int .i64 n2, .int .i64 k3, .int .i64 n3, .int .i64 k4, .int .i64 n4, .int .i64 k5, .int .i64 n5, .int .i64 k6, .int .i64 n6, .int .i64 k7, .int .i64 n7], .int .i64 6, .agg #[.int .i64 vk, .int .i64 vn]] w (Ret (.agg #[.int .i64 k0, .int .i64 n0, .int .i64 k1, .int .i64 n1, .int .i64 k2, .int .i64 n2, .int .i64 k3, .int .i64 n3, .int .i64 k4, .int .i64 n4, .int .i64 k5, .int .i64 n5, .int .i64 vk, .int .i64 vn, .int .i64 k7, .int .i64 n7]) w) := ret_of 5000 w (by kernel_rfl) rfl
theorem put7 (k0 n0 k1 n1 k2 n2 k3 n3 k4 n4 k5 n5 k6 n6 k7 n7 vk vn : Int) (w : World) : Calls Try.prog 17 #[.agg #[.int .i64 k0, .int .i64 n0, .int .i64 k1, .int .i64 n1, .int .i64 k2, .int .i64 n2, .int .i64 k3, .int .i64 n3, .int .i64 k4, .int .i64 n4, .int .i64 k5, .int .i64 n5, .int .i64 k6, .int .i64 n6, .int .i64 k7, .int .i64 n7], .int .i64 7, .agg #[.int .i64 vk, .int .i64 vn]] w (Ret (.agg #[.int .i64 k0, .int .i64 n0, .int .i64 k1, .int .i64 n1, .int .i64 k2, .int .i64 n2, .int .i64 k3, .int .i64 n3, .int .i64 k4, .int .i64 n4, .int .i64 k5, .int .i64 n5, .int .i64 k6, .int .i64 n6, .int .i64 vk, .int .i64 vn]) w) := ret_of 5000 w (by kernel_rfl) rfl
theorem putL (k0 n0 k1 n1 k2 n2 k3 n3 k4 n4 k5 n5 k6 n6 k7 n7 vk vn at_ : Int) (h : at_ < 0) (w : World) : Calls Try.prog 17 #[.agg #[.int .i64 k0, .int .i64 n0, .int .i64 k1, .int .i64 n1, .int .i64 k2, .int .i64 n2, .int .i64 k3, .int .i64 n3, .int .i64 k4, .int .i64 n4, .int .i64 k5, .int .i64 n5, .int .i64 k6, .int .i64 n6, .int .i64 k7, .int .i64 n7], .int .i64 at_, .agg #[.int .i64 vk, .int .i64 vn]] w (Ret (.agg #[.int .i64 k0, .int .i64 n0, .int .i64 k1, .int .i64 n1, .int .i64 k2, .int .i64 n2, .int .i64 k3, .int .i64 n3, .int .i64 k4, .int .i64 n4, .int .i64 k5, .int .i64 n5, .int .i64 k6, .int .i64 n6, .int .i64 k7, .int .i64 n7]) w) := ret_rel 5000 (args := #[.agg #[.int .i64 k0, .int .i64 n0, .int .i64 k1, .int .i64 n1, .int .i64 k2, .int .i64 n2, .int .i64 k3, .int .i64 n3, .int .i64 k4, .int .i64 n4, .int .i64 k5, .int .i64 n5, .int .i64 k6, .int .i64 n6, .int .i64 k7, .int .i64 n7], .int .i64 at_, .agg #[.int .i64 vk, .int .i64 vn]]) (orc := orcs [(0, false)] []) (ob := [(decide (at_ ≥ 0), false)]) w (by kernel_rfl) (obs_cons (decide_eq_false (by omega)) obs_nil) (VRs.of_free rfl)
theorem putH (k0 n0 k1 n1 k2 n2 k3 n3 k4 n4 k5 n5 k6 n6 k7 n7 vk vn at_ : Int) (h : 7 < at_) (w : World) : Calls Try.prog 17 #[.agg #[.int .i64 k0, .int .i64 n0, .int .i64 k1, .int .i64 n1, .int .i64 k2, .int .i64 n2, .int .i64 k3, .int .i64 n3, .int .i64 k4, .int .i64 n4, .int .i64 k5, .int .i64 n5, .int .i64 k6, .int .i64 n6, .int .i64 k7, .int .i64 n7], .int .i64 at_, .agg #[.int .i64 vk, .int .i64 vn]] w (Ret (.agg #[.int .i64 k0, .int .i64 n0, .int .i64 k1, .int .i64 n1, .int .i64 k2, .int .i64 n2, .int .i64 k3, .int .i64 n3, .int .i64 k4, .int .i64 n4, .int .i64 k5, .int .i64 n5, .int .i64 k6, .int .i64 n6, .int .i64 k7, .int .i64 n7]) w) := ret_rel 5000 (args := #[.agg #[.int .i64 k0, .int .i64 n0, .int .i64 k1, .int .i64 n1, .int .i64 k2, .int .i64 n2, .int .i64 k3, .int .i64 n3, .int .i64 k4, .int .i64 n4, .int .i64 k5, .int .i64 n5, .int .i64 k6, .int .i64 n6, .int .i64 k7, .int .i64 n7], .int .i64 at_, .agg #[.int .i64 vk, .int .i64 vn]]) (orc := orcs [(0, true), (1, false)] []) (ob := [(decide (at_ < 8), false), (decide (at_ ≥ 0), true)]) w (by kernel_rfl) (obs_cons (decide_eq_false (by omega)) (obs_cons (decide_eq_true (by omega)) obs_nil)) (VRs.of_free rfl)
theorem put_all (k0 n0 k1 n1 k2 n2 k3 n3 k4 n4 k5 n5 k6 n6 k7 n7 vk vn at_ : Int) (w : World) : Calls Try.prog 17 #[.agg #[.int .i64 k0, .int .i64 n0, .int .i64 k1, .int .i64 n1, .int .i64 k2, .int .i64 n2, .int .i64 k3, .int .i64 n3, .int .i64 k4, .int .i64 n4, .int .i64 k5, .int .i64 n5, .int .i64 k6, .int .i64 n6, .int .i64 k7, .int .i64 n7], .int .i64 at_, .agg #[.int .i64 vk, .int .i64 vn]] w (Ret (.agg #[.int .i64 (putv 0 at_ vk k0), .int .i64 (putv 0 at_ vn n0), .int .i64 (putv 1 at_ vk k1), .int .i64 (putv 1 at_ vn n1), .int .i64 (putv 2 at_ vk k2), .int .i64 (putv 2 at_ vn n2), .int .i64 (putv 3 at_ vk k3), .int .i64 (putv 3 at_ vn n3), .int .i64 (putv 4 at_ vk k4), .int .i64 (putv 4 at_ vn n4), .int .i64 (putv 5 at_ vk k5), .int .i64 (putv 5 at_ vn n5), .int .i64 (putv 6 at_ vk k6), .int .i64 (putv 6 at_ vn n6), .int .i64 (putv 7 at_ vk k7), .int .i64 (putv 7 at_ vn n7)]) w) := by
  by_cases hL : at_ < 0
  · have e := putL k0 n0 k1 n1 k2 n2 k3 n3 k4 n4 k5 n5 k6 n6 k7 n7 vk vn at_ hL w
    simp only [putv_ne (j := 0) (show at_ ≠ 0 by omega), putv_ne (j := 1) (show at_ ≠ 1 by omega), putv_ne (j := 2) (show at_ ≠ 2 by omega), putv_ne (j := 3) (show at_ ≠ 3 by omega), putv_ne (j := 4) (show at_ ≠ 4 by omega), putv_ne (j := 5) (show at_ ≠ 5 by omega), putv_ne (j := 6) (show at_ ≠ 6 by omega), putv_ne (j := 7) (show at_ ≠ 7 by omega)]
    exact e
  by_cases hH : 7 < at_
  · have e := putH k0 n0 k1 n1 k2 n2 k3 n3 k4 n4 k5 n5 k6 n6 k7 n7 vk vn at_ hH w
    simp only [putv_ne (j := 0) (show at_ ≠ 0 by omega), putv_ne (j := 1) (show at_ ≠ 1 by omega), putv_ne (j := 2) (show at_ ≠ 2 by omega), putv_ne (j := 3) (show at_ ≠ 3 by omega), putv_ne (j := 4) (show at_ ≠ 4 by omega), putv_ne (j := 5) (show at_ ≠ 5 by omega), putv_ne (j := 6) (show at_ ≠ 6 by omega), putv_ne (j := 7) (show at_ ≠ 7 by omega)]
    exact e
  have hc : at_ = 0 ∨ at_ = 1 ∨ at_ = 2 ∨ at_ = 3 ∨ at_ = 4 ∨ at_ = 5 ∨ at_ = 6 ∨ at_ = 7 := by omega
  rcases hc with rfl | rfl | rfl | rfl | rfl | rfl | rfl | rfl
  · exact put0 k0 n0 k1 n1 k2 n2 k3 n3 k4 n4 k5 n5 k6 n6 k7 n7 vk vn w
  · exact put1 k0 n0 k1 n1 k2 n2 k3 n3 k4 n4 k5 n5 k6 n6 k7 n7 vk vn w
  · exact put2 k0 n0 k1 n1 k2 n2 k3 n3 k4 n4 k5 n5 k6 n6 k7 n7 vk vn w
  · exact put3 k0 n0 k1 n1 k2 n2 k3 n3 k4 n4 k5 n5 k6 n6 k7 n7 vk vn w
  · exact put4 k0 n0 k1 n1 k2 n2 k3 n3 k4 n4 k5 n5 k6 n6 k7 n7 vk vn w
  · exact put5 k0 n0 k1 n1 k2 n2 k3 n3 k4 n4 k5 n5 k6 n6 k7 n7 vk vn w
  · exact put6 k0 n0 k1 n1 k2 n2 k3 n3 k4 n4 k5 n5 k6 n6 k7 n7 vk vn w
  · exact put7 k0 n0 k1 n1 k2 n2 k3 n3 k4 n4 k5 n5 k6 n6 k7 n7 vk vn w
theorem qut0 (k0 n0 k1 n1 k2 n2 k3 n3 k4 n4 k5 n5 k6 n6 k7 n7 vk vn : Int) (w : World) : Calls Try.prog 10 #[.agg #[.int .i64 k0, .int .i64 n0, .int .i64 k1, .int .i64 n1, .int .i64 k2, .int .i64 n2, .int .i64 k3, .int .i64 n3, .int .i64 k4, .int .i64 n4, .int .i64 k5, .int .i64 n5, .int .i64 k6, .int .i64 n6, .int .i64 k7, .int .i64 n7], .int .i64 0, .agg #[.int .i64 vk, .int .i64 vn]] w (Ret (.agg #[.int .i64 vk, .int .i64 vn, .int .i64 k1, .int .i64 n1, .int .i64 k2, .int .i64 n2, .int .i64 k3, .int .i64 n3, .int .i64 k4, .int .i64 n4, .int .i64 k5, .int .i64 n5, .int .i64 k6, .int .i64 n6, .int .i64 k7, .int .i64 n7]) w) := ret_of 5000 w (by kernel_rfl) rfl
theorem qut1 (k0 n0 k1 n1 k2 n2 k3 n3 k4 n4 k5 n5 k6 n6 k7 n7 vk vn : Int) (w : World) : Calls Try.prog 10 #[.agg #[.int .i64 k0, .int .i64 n0, .int .i64 k1, .int .i64 n1, .int .i64 k2, .int .i64 n2, .int .i64 k3, .int .i64 n3, .int .i64 k4, .int .i64 n4, .int .i64 k5, .int .i64 n5, .int .i64 k6, .int .i64 n6, .int .i64 k7, .int .i64 n7], .int .i64 1, .agg #[.int .i64 vk, .int .i64 vn]] w (Ret (.agg #[.int .i64 k0, .int .i64 n0, .int .i64 vk, .int .i64 vn, .int .i64 k2, .int .i64 n2, .int .i64 k3, .int .i64 n3, .int .i64 k4, .int .i64 n4, .int .i64 k5, .int .i64 n5, .int .i64 k6, .int .i64 n6, .int .i64 k7, .int .i64 n7]) w) := ret_of 5000 w (by kernel_rfl) rfl
theorem qut2 (k0 n0 k1 n1 k2 n2 k3 n3 k4 n4 k5 n5 k6 n6 k7 n7 vk vn : Int) (w : World) : Calls Try.prog 10 #[.agg #[.int .i64 k0, .int .i64 n0, .int .i64 k1, .int .i64 n1, .int .i64 k2, .int .i64 n2, .int .i64 k3, .int .i64 n3, .int .i64 k4, .int .i64 n4, .int .i64 k5, .int .i64 n5, .int .i64 k6, .int .i64 n6, .int .i64 k7, .int .i64 n7], .int .i64 2, .agg #[.int .i64 vk, .int .i64 vn]] w (Ret (.agg #[.int .i64 k0, .int .i64 n0, .int .i64 k1, .int .i64 n1, .int .i64 vk, .int .i64 vn, .int .i64 k3, .int .i64 n3, .int .i64 k4, .int .i64 n4, .int .i64 k5, .int .i64 n5, .int .i64 k6, .int .i64 n6, .int .i64 k7, .int .i64 n7]) w) := ret_of 5000 w (by kernel_rfl) rfl
theorem qut3 (k0 n0 k1 n1 k2 n2 k3 n3 k4 n4 k5 n5 k6 n6 k7 n7 vk vn : Int) (w : World) : Calls Try.prog 10 #[.agg #[.int .i64 k0, .int .i64 n0, .int .i64 k1, .int .i64 n1, .int .i64 k2, .int .i64 n2, .int .i64 k3, .int .i64 n3, .int .i64 k4, .int .i64 n4, .int .i64 k5, .int .i64 n5, .int .i64 k6, .int .i64 n6, .int .i64 k7, .int .i64 n7], .int .i64 3, .agg #[.int .i64 vk, .int .i64 vn]] w (Ret (.agg #[.int .i64 k0, .int .i64 n0, .int .i64 k1, .int .i64 n1, .int .i64 k2, .int .i64 n2, .int .i64 vk, .int .i64 vn, .int .i64 k4, .int .i64 n4, .int .i64 k5, .int .i64 n5, .int .i64 k6, .int .i64 n6, .int .i64 k7, .int .i64 n7]) w) := ret_of 5000 w (by kernel_rfl) rfl
theorem qut4 (k0 n0 k1 n1 k2 n2 k3 n3 k4 n4 k5 n5 k6 n6 k7 n7 vk vn : Int) (w : World) : Calls Try.prog 10 #[.agg #[.int .i64 k0, .int .i64 n0, .int .i64 k1, .int .i64 n1, .int .i64 k2, .int .i64 n2, .int .i64 k3, .int .i64 n3, .int .i64 k4, .int .i64 n4, .int .i64 k5, .int .i64 n5, .int .i64 k6, .int .i64 n6, .int .i64 k7, .int .i64 n7], .int .i64 4, .agg #[.int .i64 vk, .int .i64 vn]] w (Ret (.agg #[.int .i64 k0, .int .i64 n0, .int .i64 k1, .int .i64 n1, .int .i64 k2, .int .i64 n2, .int .i64 k3, .int .i64 n3, .int .i64 vk, .int .i64 vn, .int .i64 k5, .int .i64 n5, .int .i64 k6, .int .i64 n6, .int .i64 k7, .int .i64 n7]) w) := ret_of 5000 w (by kernel_rfl) rfl
theorem qut5 (k0 n0 k1 n1 k2 n2 k3 n3 k4 n4 k5 n5 k6 n6 k7 n7 vk vn : Int) (w : World) : Calls Try.prog 10 #[.agg #[.int .i64 k0, .int .i64 n0, .int .i64 k1, .int .i64 n1, .int .i64 k2, .int .i64 n2, .int .i64 k3, .int .i64 n3, .int .i64 k4, .int .i64 n4, .int .i64 k5, .int .i64 n5, .int .i64 k6, .int .i64 n6, .int .i64 k7, .int .i64 n7], .int .i64 5, .agg #[.int .i64 vk, .int .i64 vn]] w (Ret (.agg #[.int .i64 k0, .int .i64 n0, .int .i64 k1, .int .i64 n1, .int .i64 k2, .int .i64 n2, .int .i64 k3, .int .i64 n3, .int .i64 k4, .int .i64 n4, .int .i64 vk, .int .i64 vn, .int .i64 k6, .int .i64 n6, .int .i64 k7, .int .i64 n7]) w) := ret_of 5000 w (by kernel_rfl) rfl
theorem qut6 (k0 n0 k1 n1 k2 n2 k3 n3 k4 n4 k5 n5 k6 n6 k7 n7 vk vn : Int) (w : World) : Calls Try.prog 10 #[.agg #[.int .i64 k0, .int .i64 n0, .int .i64 k1, .int .i64 n1, .int .i64 k2, .int .i64 n2, .int .i64 k3, .int .i64 n3, .int .i64 k4, .int .i64 n4, .int .i64 k5, .int .i64 n5, .int .i64 k6, .int .i64 n6, .int .i64 k7, .int .i64 n7], .int .i64 6, .agg #[.int .i64 vk, .int .i64 vn]] w (Ret (.agg #[.int .i64 k0, .int .i64 n0, .int .i64 k1, .int .i64 n1, .int .i64 k2, .int .i64 n2, .int .i64 k3, .int .i64 n3, .int .i64 k4, .int .i64 n4, .int .i64 k5, .int .i64 n5, .int .i64 vk, .int .i64 vn, .int .i64 k7, .int .i64 n7]) w) := ret_of 5000 w (by kernel_rfl) rfl
theorem qut7 (k0 n0 k1 n1 k2 n2 k3 n3 k4 n4 k5 n5 k6 n6 k7 n7 vk vn : Int) (w : World) : Calls Try.prog 10 #[.agg #[.int .i64 k0, .int .i64 n0, .int .i64 k1, .int .i64 n1, .int .i64 k2, .int .i64 n2, .int .i64 k3, .int .i64 n3, .int .i64 k4, .int .i64 n4, .int .i64 k5, .int .i64 n5, .int .i64 k6, .int .i64 n6, .int .i64 k7, .int .i64 n7], .int .i64 7, .agg #[.int .i64 vk, .int .i64 vn]] w (Ret (.agg #[.int .i64 k0, .int .i64 n0, .int .i64 k1, .int .i64 n1, .int .i64 k2, .int .i64 n2, .int .i64 k3, .int .i64 n3, .int .i64 k4, .int .i64 n4, .int .i64 k5, .int .i64 n5, .int .i64 k6, .int .i64 n6, .int .i64 vk, .int .i64 vn]) w) := ret_of 5000 w (by kernel_rfl) rfl
theorem qutL (k0 n0 k1 n1 k2 n2 k3 n3 k4 n4 k5 n5 k6 n6 k7 n7 vk vn at_ : Int) (h : at_ < 0) (w : World) : Calls Try.prog 10 #[.agg #[.int .i64 k0, .int .i64 n0, .int .i64 k1, .int .i64 n1, .int .i64 k2, .int .i64 n2, .int .i64 k3, .int .i64 n3, .int .i64 k4, .int .i64 n4, .int .i64 k5, .int .i64 n5, .int .i64 k6, .int .i64 n6, .int .i64 k7, .int .i64 n7], .int .i64 at_, .agg #[.int .i64 vk, .int .i64 vn]] w (Ret (.agg #[.int .i64 k0, .int .i64 n0, .int .i64 k1, .int .i64 n1, .int .i64 k2, .int .i64 n2, .int .i64 k3, .int .i64 n3, .int .i64 k4, .int .i64 n4, .int .i64 k5, .int .i64 n5, .int .i64 k6, .int .i64 n6, .int .i64 k7, .int .i64 n7]) w) := ret_rel 5000 (args := #[.agg #[.int .i64 k0, .int .i64 n0, .int .i64 k1, .int .i64 n1, .int .i64 k2, .int .i64 n2, .int .i64 k3, .int .i64 n3, .int .i64 k4, .int .i64 n4, .int .i64 k5, .int .i64 n5, .int .i64 k6, .int .i64 n6, .int .i64 k7, .int .i64 n7], .int .i64 at_, .agg #[.int .i64 vk, .int .i64 vn]]) (orc := orcs [(0, false)] []) (ob := [(decide (at_ ≥ 0), false)]) w (by kernel_rfl) (obs_cons (decide_eq_false (by omega)) obs_nil) (VRs.of_free rfl)
theorem qutH (k0 n0 k1 n1 k2 n2 k3 n3 k4 n4 k5 n5 k6 n6 k7 n7 vk vn at_ : Int) (h : 7 < at_) (w : World) : Calls Try.prog 10 #[.agg #[.int .i64 k0, .int .i64 n0, .int .i64 k1, .int .i64 n1, .int .i64 k2, .int .i64 n2, .int .i64 k3, .int .i64 n3, .int .i64 k4, .int .i64 n4, .int .i64 k5, .int .i64 n5, .int .i64 k6, .int .i64 n6, .int .i64 k7, .int .i64 n7], .int .i64 at_, .agg #[.int .i64 vk, .int .i64 vn]] w (Ret (.agg #[.int .i64 k0, .int .i64 n0, .int .i64 k1, .int .i64 n1, .int .i64 k2, .int .i64 n2, .int .i64 k3, .int .i64 n3, .int .i64 k4, .int .i64 n4, .int .i64 k5, .int .i64 n5, .int .i64 k6, .int .i64 n6, .int .i64 k7, .int .i64 n7]) w) := ret_rel 5000 (args := #[.agg #[.int .i64 k0, .int .i64 n0, .int .i64 k1, .int .i64 n1, .int .i64 k2, .int .i64 n2, .int .i64 k3, .int .i64 n3, .int .i64 k4, .int .i64 n4, .int .i64 k5, .int .i64 n5, .int .i64 k6, .int .i64 n6, .int .i64 k7, .int .i64 n7], .int .i64 at_, .agg #[.int .i64 vk, .int .i64 vn]]) (orc := orcs [(0, true), (1, false)] []) (ob := [(decide (at_ < 8), false), (decide (at_ ≥ 0), true)]) w (by kernel_rfl) (obs_cons (decide_eq_false (by omega)) (obs_cons (decide_eq_true (by omega)) obs_nil)) (VRs.of_free rfl)
theorem qut_all (k0 n0 k1 n1 k2 n2 k3 n3 k4 n4 k5 n5 k6 n6 k7 n7 vk vn at_ : Int) (w : World) : Calls Try.prog 10 #[.agg #[.int .i64 k0, .int .i64 n0, .int .i64 k1, .int .i64 n1, .int .i64 k2, .int .i64 n2, .int .i64 k3, .int .i64 n3, .int .i64 k4, .int .i64 n4, .int .i64 k5, .int .i64 n5, .int .i64 k6, .int .i64 n6, .int .i64 k7, .int .i64 n7], .int .i64 at_, .agg #[.int .i64 vk, .int .i64 vn]] w (Ret (.agg #[.int .i64 (putv 0 at_ vk k0), .int .i64 (putv 0 at_ vn n0), .int .i64 (putv 1 at_ vk k1), .int .i64 (putv 1 at_ vn n1), .int .i64 (putv 2 at_ vk k2), .int .i64 (putv 2 at_ vn n2), .int .i64 (putv 3 at_ vk k3), .int .i64 (putv 3 at_ vn n3), .int .i64 (putv 4 at_ vk k4), .int .i64 (putv 4 at_ vn n4), .int .i64 (putv 5 at_ vk k5), .int .i64 (putv 5 at_ vn n5), .int .i64 (putv 6 at_ vk k6), .int .i64 (putv 6 at_ vn n6), .int .i64 (putv 7 at_ vk k7), .int .i64 (putv 7 at_ vn n7)]) w) := by
  by_cases hL : at_ < 0
  · have e := qutL k0 n0 k1 n1 k2 n2 k3 n3 k4 n4 k5 n5 k6 n6 k7 n7 vk vn at_ hL w
    simp only [putv_ne (j := 0) (show at_ ≠ 0 by omega), putv_ne (j := 1) (show at_ ≠ 1 by omega), putv_ne (j := 2) (show at_ ≠ 2 by omega), putv_ne (j := 3) (show at_ ≠ 3 by omega), putv_ne (j := 4) (show at_ ≠ 4 by omega), putv_ne (j := 5) (show at_ ≠ 5 by omega), putv_ne (j := 6) (show at_ ≠ 6 by omega), putv_ne (j := 7) (show at_ ≠ 7 by omega)]
    exact e
  by_cases hH : 7 < at_
  · have e := qutH k0 n0 k1 n1 k2 n2 k3 n3 k4 n4 k5 n5 k6 n6 k7 n7 vk vn at_ hH w
    simp only [putv_ne (j := 0) (show at_ ≠ 0 by omega), putv_ne (j := 1) (show at_ ≠ 1 by omega), putv_ne (j := 2) (show at_ ≠ 2 by omega), putv_ne (j := 3) (show at_ ≠ 3 by omega), putv_ne (j := 4) (show at_ ≠ 4 by omega), putv_ne (j := 5) (show at_ ≠ 5 by omega), putv_ne (j := 6) (show at_ ≠ 6 by omega), putv_ne (j := 7) (show at_ ≠ 7 by omega)]
    exact e
  have hc : at_ = 0 ∨ at_ = 1 ∨ at_ = 2 ∨ at_ = 3 ∨ at_ = 4 ∨ at_ = 5 ∨ at_ = 6 ∨ at_ = 7 := by omega
  rcases hc with rfl | rfl | rfl | rfl | rfl | rfl | rfl | rfl
  · exact qut0 k0 n0 k1 n1 k2 n2 k3 n3 k4 n4 k5 n5 k6 n6 k7 n7 vk vn w
  · exact qut1 k0 n0 k1 n1 k2 n2 k3 n3 k4 n4 k5 n5 k6 n6 k7 n7 vk vn w
  · exact qut2 k0 n0 k1 n1 k2 n2 k3 n3 k4 n4 k5 n5 k6 n6 k7 n7 vk vn w
  · exact qut3 k0 n0 k1 n1 k2 n2 k3 n3 k4 n4 k5 n5 k6 n6 k7 n7 vk vn w
  · exact qut4 k0 n0 k1 n1 k2 n2 k3 n3 k4 n4 k5 n5 k6 n6 k7 n7 vk vn w
  · exact qut5 k0 n0 k1 n1 k2 n2 k3 n3 k4 n4 k5 n5 k6 n6 k7 n7 vk vn w
  · exact qut6 k0 n0 k1 n1 k2 n2 k3 n3 k4 n4 k5 n5 k6 n6 k7 n7 vk vn w
  · exact qut7 k0 n0 k1 n1 k2 n2 k3 n3 k4 n4 k5 n5 k6 n6 k7 n7 vk vn w
theorem putG_inv {args : Array Value} {v : Value} (h : putG args.toList = some v) : ∃ k0 n0 k1 n1 k2 n2 k3 n3 k4 n4 k5 n5 k6 n6 k7 n7 vk vn at_ : Int, args = #[.agg #[.int .i64 k0, .int .i64 n0, .int .i64 k1, .int .i64 n1, .int .i64 k2, .int .i64 n2, .int .i64 k3, .int .i64 n3, .int .i64 k4, .int .i64 n4, .int .i64 k5, .int .i64 n5, .int .i64 k6, .int .i64 n6, .int .i64 k7, .int .i64 n7], .int .i64 at_, .agg #[.int .i64 vk, .int .i64 vn]] ∧ v = .agg #[.int .i64 (putv 0 at_ vk k0), .int .i64 (putv 0 at_ vn n0), .int .i64 (putv 1 at_ vk k1), .int .i64 (putv 1 at_ vn n1), .int .i64 (putv 2 at_ vk k2), .int .i64 (putv 2 at_ vn n2), .int .i64 (putv 3 at_ vk k3), .int .i64 (putv 3 at_ vn n3), .int .i64 (putv 4 at_ vk k4), .int .i64 (putv 4 at_ vn n4), .int .i64 (putv 5 at_ vk k5), .int .i64 (putv 5 at_ vn n5), .int .i64 (putv 6 at_ vk k6), .int .i64 (putv 6 at_ vn n6), .int .i64 (putv 7 at_ vk k7), .int .i64 (putv 7 at_ vn n7)] := by
  obtain ⟨l⟩ := args
  change putG l = some v at h
  unfold putG at h
  split at h
  · rename_i cs at_ vs
    split at h
    · rename_i k0 n0 k1 n1 k2 n2 k3 n3 k4 n4 k5 n5 k6 n6 k7 n7 vk vn h1 h2
      injection h with h
      have e1 := ints64_spec h1
      have e2 := ints64_spec h2
      obtain ⟨c⟩ := cs
      obtain ⟨d⟩ := vs
      simp only at e1 e2
      subst e1 e2
      exact ⟨k0, n0, k1, n1, k2, n2, k3, n3, k4, n4, k5, n5, k6, n6, k7, n7, vk, vn, at_, rfl, h.symm⟩
    · cases h
  · cases h
def spP : FuncId → Option (List Value → Option Value) := fun f => bif Nat.beq f 17 then some putG else bif Nat.beq f 10 then some putG else spA f
theorem knownP : Known spP := fun f g h => by
  unfold spP at h
  cases hb : Nat.beq f 17 with
  | true =>
    rw [hb] at h
    obtain rfl := Nat.eq_of_beq_eq_true hb
    simp only [cond_true, Option.some.injEq] at h
    subst h
    refine ⟨⟨_, _, Try.func17, rfl⟩, fun args v ha hv w => ?_⟩
    obtain ⟨k0, n0, k1, n1, k2, n2, k3, n3, k4, n4, k5, n5, k6, n6, k7, n7, vk, vn, at_, rfl, rfl⟩ := putG_inv hv
    exact put_all k0 n0 k1 n1 k2 n2 k3 n3 k4 n4 k5 n5 k6 n6 k7 n7 vk vn at_ w
  | false =>
    rw [hb] at h
    simp only [cond_false] at h
    cases hc : Nat.beq f 10 with
    | true =>
      rw [hc] at h
      obtain rfl := Nat.eq_of_beq_eq_true hc
      simp only [cond_true, Option.some.injEq] at h
      subst h
      refine ⟨⟨_, _, Try.func10, rfl⟩, fun args v ha hv w => ?_⟩
      obtain ⟨k0, n0, k1, n1, k2, n2, k3, n3, k4, n4, k5, n5, k6, n6, k7, n7, vk, vn, at_, rfl, rfl⟩ := putG_inv hv
      exact qut_all k0 n0 k1 n1 k2 n2 k3 n3 k4 n4 k5 n5 k6 n6 k7 n7 vk vn at_ w
    | false =>
      rw [hc] at h
      simp only [cond_false] at h
      exact knownA f g h
theorem next_ne (k0 n0 k1 n1 k2 n2 k3 n3 k4 n4 k5 n5 k6 n6 k7 n7 bk0 bn0 bk1 bn1 bk2 bn2 bk3 bn3 bk4 bn4 bk5 bn5 bk6 bn6 bk7 bn7 pc op a b c : Int) (h : (!(((k0 == bk0) && ((n0 == bn0) && true)) && ((((k1 == bk1) && ((n1 == bn1) && true)) && ((((k2 == bk2) && ((n2 == bn2) && true)) && ((((k3 == bk3) && ((n3 == bn3) && true)) && ((((k4 == bk4) && ((n4 == bn4) && true)) && ((((k5 == bk5) && ((n5 == bn5) && true)) && ((((k6 == bk6) && ((n6 == bn6) && true)) && (((k7 == bk7) && ((n7 == bn7) && true)) && true))))))))))))))) = true) (w : World) : Calls Try.prog 18 #[.agg #[.int .i64 k0, .int .i64 n0, .int .i64 k1, .int .i64 n1, .int .i64 k2, .int .i64 n2, .int .i64 k3, .int .i64 n3, .int .i64 k4, .int .i64 n4, .int .i64 k5, .int .i64 n5, .int .i64 k6, .int .i64 n6, .int .i64 k7, .int .i64 n7], .agg #[.int .i64 bk0, .int .i64 bn0, .int .i64 bk1, .int .i64 bn1, .int .i64 bk2, .int .i64 bn2, .int .i64 bk3, .int .i64 bn3, .int .i64 bk4, .int .i64 bn4, .int .i64 bk5, .int .i64 bn5, .int .i64 bk6, .int .i64 bn6, .int .i64 bk7, .int .i64 bn7], .int .i64 pc, .agg #[.int .i64 op, .int .i64 a, .int .i64 b, .int .i64 c]] w (Ret (.int .i64 (IntKind.i64.wrap (pc + 1))) w) :=
  ret_rel 5000 (args := #[.agg #[.int .i64 k0, .int .i64 n0, .int .i64 k1, .int .i64 n1, .int .i64 k2, .int .i64 n2, .int .i64 k3, .int .i64 n3, .int .i64 k4, .int .i64 n4, .int .i64 k5, .int .i64 n5, .int .i64 k6, .int .i64 n6, .int .i64 k7, .int .i64 n7], .agg #[.int .i64 bk0, .int .i64 bn0, .int .i64 bk1, .int .i64 bn1, .int .i64 bk2, .int .i64 bn2, .int .i64 bk3, .int .i64 bn3, .int .i64 bk4, .int .i64 bn4, .int .i64 bk5, .int .i64 bn5, .int .i64 bk6, .int .i64 bn6, .int .i64 bk7, .int .i64 bn7], .int .i64 pc, .agg #[.int .i64 op, .int .i64 a, .int .i64 b, .int .i64 c]]) (orc := orcs [(0, true)] []) (ob := [(!(((k0 == bk0) && ((n0 == bn0) && true)) && ((((k1 == bk1) && ((n1 == bn1) && true)) && ((((k2 == bk2) && ((n2 == bn2) && true)) && ((((k3 == bk3) && ((n3 == bn3) && true)) && ((((k4 == bk4) && ((n4 == bn4) && true)) && ((((k5 == bk5) && ((n5 == bn5) && true)) && ((((k6 == bk6) && ((n6 == bn6) && true)) && (((k7 == bk7) && ((n7 == bn7) && true)) && true)))))))))))))), true)]) w (by kernel_rfl) (obs_cons h obs_nil) (VRs.of_free rfl)
theorem next_eq (k0 n0 k1 n1 k2 n2 k3 n3 k4 n4 k5 n5 k6 n6 k7 n7 bk0 bn0 bk1 bn1 bk2 bn2 bk3 bn3 bk4 bn4 bk5 bn5 bk6 bn6 bk7 bn7 pc op a b c : Int) (h : (!(((k0 == bk0) && ((n0 == bn0) && true)) && ((((k1 == bk1) && ((n1 == bn1) && true)) && ((((k2 == bk2) && ((n2 == bn2) && true)) && ((((k3 == bk3) && ((n3 == bn3) && true)) && ((((k4 == bk4) && ((n4 == bn4) && true)) && ((((k5 == bk5) && ((n5 == bn5) && true)) && ((((k6 == bk6) && ((n6 == bn6) && true)) && (((k7 == bk7) && ((n7 == bn7) && true)) && true))))))))))))))) = false) (h9 : op ≠ 9) (h8 : op ≠ 8) (w : World) : Calls Try.prog 18 #[.agg #[.int .i64 k0, .int .i64 n0, .int .i64 k1, .int .i64 n1, .int .i64 k2, .int .i64 n2, .int .i64 k3, .int .i64 n3, .int .i64 k4, .int .i64 n4, .int .i64 k5, .int .i64 n5, .int .i64 k6, .int .i64 n6, .int .i64 k7, .int .i64 n7], .agg #[.int .i64 bk0, .int .i64 bn0, .int .i64 bk1, .int .i64 bn1, .int .i64 bk2, .int .i64 bn2, .int .i64 bk3, .int .i64 bn3, .int .i64 bk4, .int .i64 bn4, .int .i64 bk5, .int .i64 bn5, .int .i64 bk6, .int .i64 bn6, .int .i64 bk7, .int .i64 bn7], .int .i64 pc, .agg #[.int .i64 op, .int .i64 a, .int .i64 b, .int .i64 c]] w (Ret (.int .i64 (IntKind.i64.wrap (pc + 1))) w) :=
  ret_rel 5000 (args := #[.agg #[.int .i64 k0, .int .i64 n0, .int .i64 k1, .int .i64 n1, .int .i64 k2, .int .i64 n2, .int .i64 k3, .int .i64 n3, .int .i64 k4, .int .i64 n4, .int .i64 k5, .int .i64 n5, .int .i64 k6, .int .i64 n6, .int .i64 k7, .int .i64 n7], .agg #[.int .i64 bk0, .int .i64 bn0, .int .i64 bk1, .int .i64 bn1, .int .i64 bk2, .int .i64 bn2, .int .i64 bk3, .int .i64 bn3, .int .i64 bk4, .int .i64 bn4, .int .i64 bk5, .int .i64 bn5, .int .i64 bk6, .int .i64 bn6, .int .i64 bk7, .int .i64 bn7], .int .i64 pc, .agg #[.int .i64 op, .int .i64 a, .int .i64 b, .int .i64 c]]) (orc := orcs [(0, false), (1, false), (2, false)] []) (ob := [(op == 8, false), (op == 9, false), (!(((k0 == bk0) && ((n0 == bn0) && true)) && ((((k1 == bk1) && ((n1 == bn1) && true)) && ((((k2 == bk2) && ((n2 == bn2) && true)) && ((((k3 == bk3) && ((n3 == bn3) && true)) && ((((k4 == bk4) && ((n4 == bn4) && true)) && ((((k5 == bk5) && ((n5 == bn5) && true)) && ((((k6 == bk6) && ((n6 == bn6) && true)) && (((k7 == bk7) && ((n7 == bn7) && true)) && true)))))))))))))), false)]) w (by kernel_rfl) (obs_cons (beq_eq_false_iff_ne.2 h8) (obs_cons (beq_eq_false_iff_ne.2 h9) (obs_cons h obs_nil))) (VRs.of_free rfl)
theorem next_all (k0 n0 k1 n1 k2 n2 k3 n3 k4 n4 k5 n5 k6 n6 k7 n7 bk0 bn0 bk1 bn1 bk2 bn2 bk3 bn3 bk4 bn4 bk5 bn5 bk6 bn6 bk7 bn7 pc op a b c : Int) (h9 : op ≠ 9) (h8 : op ≠ 8) (w : World) : Calls Try.prog 18 #[.agg #[.int .i64 k0, .int .i64 n0, .int .i64 k1, .int .i64 n1, .int .i64 k2, .int .i64 n2, .int .i64 k3, .int .i64 n3, .int .i64 k4, .int .i64 n4, .int .i64 k5, .int .i64 n5, .int .i64 k6, .int .i64 n6, .int .i64 k7, .int .i64 n7], .agg #[.int .i64 bk0, .int .i64 bn0, .int .i64 bk1, .int .i64 bn1, .int .i64 bk2, .int .i64 bn2, .int .i64 bk3, .int .i64 bn3, .int .i64 bk4, .int .i64 bn4, .int .i64 bk5, .int .i64 bn5, .int .i64 bk6, .int .i64 bn6, .int .i64 bk7, .int .i64 bn7], .int .i64 pc, .agg #[.int .i64 op, .int .i64 a, .int .i64 b, .int .i64 c]] w (Ret (.int .i64 (IntKind.i64.wrap (pc + 1))) w) := by
  cases h : (!(((k0 == bk0) && ((n0 == bn0) && true)) && ((((k1 == bk1) && ((n1 == bn1) && true)) && ((((k2 == bk2) && ((n2 == bn2) && true)) && ((((k3 == bk3) && ((n3 == bn3) && true)) && ((((k4 == bk4) && ((n4 == bn4) && true)) && ((((k5 == bk5) && ((n5 == bn5) && true)) && ((((k6 == bk6) && ((n6 == bn6) && true)) && (((k7 == bk7) && ((n7 == bn7) && true)) && true))))))))))))))) with
  | true => exact next_ne k0 n0 k1 n1 k2 n2 k3 n3 k4 n4 k5 n5 k6 n6 k7 n7 bk0 bn0 bk1 bn1 bk2 bn2 bk3 bn3 bk4 bn4 bk5 bn5 bk6 bn6 bk7 bn7 pc op a b c h w
  | false => exact next_eq k0 n0 k1 n1 k2 n2 k3 n3 k4 n4 k5 n5 k6 n6 k7 n7 bk0 bn0 bk1 bn1 bk2 bn2 bk3 bn3 bk4 bn4 bk5 bn5 bk6 bn6 bk7 bn7 pc op a b c h h9 h8 w
def nextG : List Value → Option Value
  | [.agg bs, .agg cs, .int .i64 pc, .agg is] => match ints64 bs.toList, ints64 cs.toList, ints64 is.toList with
    | some [k0, n0, k1, n1, k2, n2, k3, n3, k4, n4, k5, n5, k6, n6, k7, n7], some [bk0, bn0, bk1, bn1, bk2, bn2, bk3, bn3, bk4, bn4, bk5, bn5, bk6, bn6, bk7, bn7], some [op, a, b, c] => bif op == 8 || op == 9 then none else some (.int .i64 (IntKind.i64.wrap (pc + 1)))
    | _, _, _ => none
  | _ => none
theorem nextG_inv {args : Array Value} {v : Value} (h : nextG args.toList = some v) : ∃ k0 n0 k1 n1 k2 n2 k3 n3 k4 n4 k5 n5 k6 n6 k7 n7 bk0 bn0 bk1 bn1 bk2 bn2 bk3 bn3 bk4 bn4 bk5 bn5 bk6 bn6 bk7 bn7 pc op a b c : Int, args = #[.agg #[.int .i64 k0, .int .i64 n0, .int .i64 k1, .int .i64 n1, .int .i64 k2, .int .i64 n2, .int .i64 k3, .int .i64 n3, .int .i64 k4, .int .i64 n4, .int .i64 k5, .int .i64 n5, .int .i64 k6, .int .i64 n6, .int .i64 k7, .int .i64 n7], .agg #[.int .i64 bk0, .int .i64 bn0, .int .i64 bk1, .int .i64 bn1, .int .i64 bk2, .int .i64 bn2, .int .i64 bk3, .int .i64 bn3, .int .i64 bk4, .int .i64 bn4, .int .i64 bk5, .int .i64 bn5, .int .i64 bk6, .int .i64 bn6, .int .i64 bk7, .int .i64 bn7], .int .i64 pc, .agg #[.int .i64 op, .int .i64 a, .int .i64 b, .int .i64 c]] ∧ v = .int .i64 (IntKind.i64.wrap (pc + 1)) ∧ op ≠ 9 ∧ op ≠ 8 := by
  obtain ⟨l⟩ := args
  change nextG l = some v at h
  unfold nextG at h
  split at h
  · rename_i bs cs pc is
    split at h
    · rename_i k0 n0 k1 n1 k2 n2 k3 n3 k4 n4 k5 n5 k6 n6 k7 n7 bk0 bn0 bk1 bn1 bk2 bn2 bk3 bn3 bk4 bn4 bk5 bn5 bk6 bn6 bk7 bn7 op a b c h1 h2 h3
      have e1 := ints64_spec h1
      have e2 := ints64_spec h2
      have e3 := ints64_spec h3
      obtain ⟨x⟩ := bs
      obtain ⟨y⟩ := cs
      obtain ⟨z⟩ := is
      simp only at e1 e2 e3
      subst e1 e2 e3
      cases hb : (op == 8 || op == 9) with
      | true => rw [hb] at h; cases h
      | false =>
        rw [hb] at h
        injection h with h
        simp only [Bool.or_eq_false_iff, beq_eq_false_iff_ne] at hb
        exact ⟨k0, n0, k1, n1, k2, n2, k3, n3, k4, n4, k5, n5, k6, n6, k7, n7, bk0, bn0, bk1, bn1, bk2, bn2, bk3, bn3, bk4, bn4, bk5, bn5, bk6, bn6, bk7, bn7, pc, op, a, b, c, rfl, h.symm, hb.2, hb.1⟩
    · cases h
  · cases h
def spN : FuncId → Option (List Value → Option Value) := fun f => bif Nat.beq f 18 then some nextG else spP f
theorem knownN : Known spN := fun f g h => by
  unfold spN at h
  cases hb : Nat.beq f 18 with
  | true =>
    rw [hb] at h
    obtain rfl := Nat.eq_of_beq_eq_true hb
    simp only [cond_true, Option.some.injEq] at h
    subst h
    refine ⟨⟨_, _, Try.func18, rfl⟩, fun args v ha hv w => ?_⟩
    obtain ⟨k0, n0, k1, n1, k2, n2, k3, n3, k4, n4, k5, n5, k6, n6, k7, n7, bk0, bn0, bk1, bn1, bk2, bn2, bk3, bn3, bk4, bn4, bk5, bn5, bk6, bn6, bk7, bn7, pc, op, a, b, c, rfl, rfl, h9, h8⟩ := nextG_inv hv
    exact next_all k0 n0 k1 n1 k2 n2 k3 n3 k4 n4 k5 n5 k6 n6 k7 n7 bk0 bn0 bk1 bn1 bk2 bn2 bk3 bn3 bk4 bn4 bk5 bn5 bk6 bn6 bk7 bn7 pc op a b c h9 h8 w
  | false =>
    rw [hb] at h
    simp only [cond_false] at h
    exact knownP f g h
def dArgs (k0 n0 k1 n1 k2 n2 k3 n3 k4 n4 k5 n5 k6 n6 k7 n7 pc op a b c rk rn : Int) : Array Value := #[.agg #[.int .i64 k0, .int .i64 n0, .int .i64 k1, .int .i64 n1, .int .i64 k2, .int .i64 n2, .int .i64 k3, .int .i64 n3, .int .i64 k4, .int .i64 n4, .int .i64 k5, .int .i64 n5, .int .i64 k6, .int .i64 n6, .int .i64 k7, .int .i64 n7], .int .i64 pc, .agg #[.int .i64 op, .int .i64 a, .int .i64 b, .int .i64 c], .agg #[.int .i64 rk, .int .i64 rn]]
end Ev
end Go.Proofs.Ytnjfdjajlcfooaa
