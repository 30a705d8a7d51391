/- Part 5. -/
import Derived.Test.YtaifklllpehnmaaGreatDoorZad
set_option linter.unusedSimpArgs false
set_option linter.unusedVariables false
/- Calls do what the plain functions say. -/
namespace Go.Proofs.YtaifklllpehnmaaGreatDoor
open Go.RowKit
namespace Ev
set_option linter.unusedVariables false
set_option maxRecDepth 100000
noncomputable def Zdv (a0 a1 a2 a3 : Int) : Zc → Value
 | .r0 w0 => vi w0
noncomputable def ZcS (a0 a1 a2 a3 : Int) : Zc → List (Option AObj)
 | .r0 w0 => []

abbrev Zi (a0 a1 a2 a3 : Int) (r : Zc) : Prop := Gx Tryz.prog 11 [] #[Value.agg #[vi a0, vi a1, vi a2, vi a3]] (Zdv a0 a1 a2 a3) (ZcS a0 a1 a2 a3) (some r)
theorem ZgH {a0 : Int} {a1 : Int} {a2 : Int} {a3 : Int} {r : Zc} {orc : Orc} {u : Value} {ob : List (Bool × Bool)} (hev : ZaG [] (ZaN Tryz.prog ZX 11 [] #[Value.agg #[vi a0, vi a1, vi a2, vi a3]] 4000 orc) = some (u, [], ob)) (ho : ∀ p ∈ ob, p.1 = p.2) (hv : Zdv a0 a1 a2 a3 r = Za2 (rho [] far) 3 u ∧ Zam 3 u = true) (hp : ZcS a0 a1 a2 a3 r = [] := by rfl) : Zi a0 a1 a2 a3 r :=
 Zf5 Zdu (live := []) (bl := []) hev ho (by rw [hp]; rfl) (by decide) (by rfl) hv (by rw [hp]; trivial) (by rw [hp]; exact ZbW _ rfl)

theorem Zj {a0 : Int} {a1 : Int} {a2 : Int} {a3 : Int} {orc : Orc} {ob : List (Bool × Bool)} (hev : ZaG [] (ZaN Tryz.prog ZX 11 [] #[Value.agg #[vi a0, vi a1, vi a2, vi a3]] 4000 orc) = some (vi (100 : Int), [], ob)) (ho : ∀ p ∈ ob, p.1 = p.2) : Zi a0 a1 a2 a3 (.r0 (100) : Zc) := ZgH hev ho rr

theorem Zkz (a0 a1 a2 a3 : Int) (g0 : a0 < 0) : Zi a0 a1 a2 a3 (.r0 (100) : Zc) := Zj (orc := (Zk [(0, true)] [] [] [] [])) (ob := [tY (a0 < 0)]) (by kernel_rfl) (oY Ze)

theorem Zk0 (a0 a1 a2 a3 : Int) (g0 : ¬ (a0 < 0)) (g1 : 21 ≤ a0) : Zi a0 a1 a2 a3 (.r0 (100) : Zc) := Zj (orc := (Zk [(0, false), (1, true)] [] [] [] [])) (ob := [tY (a0 ≥ 21), tN (a0 < 0)]) (by kernel_rfl) (oY <| oN Ze)

theorem Zk1 (a0 a1 a2 a3 : Int) (g2 : a0 = 0) : Zi a0 a1 a2 a3 (.r0 (100) : Zc) := Zj (orc := (Zk [(0, false), (1, false)] [] [(0, 0)] [] [])) (ob := [(Nat.blt 0 21, true), (a0 == Int.ofNat 0, true), tN (a0 ≥ 21), tN (a0 < 0)]) (by kernel_rfl) (oB <| oK <| oN <| oN Ze)

theorem ZU {a0 : Int} {a1 : Int} {a2 : Int} {a3 : Int} {orc : Orc} {ob : List (Bool × Bool)} (hev : ZaG [] (ZaN Tryz.prog ZX 11 [] #[Value.agg #[vi a0, vi a1, vi a2, vi a3]] 4000 orc) = some (vq, [], ob)) (ho : ∀ p ∈ ob, p.1 = p.2) : Zi a0 a1 a2 a3 (.r0 (0) : Zc) := ZgH hev ho rr

theorem Zk2 (a0 a1 a2 a3 : Int) (g3 : a0 = 1) (g4 : 0 ≤ a1) (g5 : a1 ≤ 7) (g6 : -1099511627776 ≤ a2) (g7 : a2 ≤ 1099511627776) (g8 : 0 ≤ a3) (g9 : a3 ≤ 0) : Zi a0 a1 a2 a3 (.r0 (0) : Zc) := ZU (orc := (Zk [(0, false), (1, false), (5, true), (6, true), (15, true), (16, true), (25, true), (26, true)] [] [(0, 1)] [] [])) (ob := [tY (a3 ≤ 0), tY (0 ≤ a3), tY (a2 ≤ 1099511627776), tY (-1099511627776 ≤ a2), tY (a1 ≤ 7), tY (0 ≤ a1), (Nat.blt 1 21, true), (a0 == Int.ofNat 1, true), tN (a0 ≥ 21), tN (a0 < 0)]) (by kernel_rfl) (oY <| oY <| oY <| oY <| oY <| oY <| oB <| oK <| oN <| oN Ze)

theorem Zk3 (a0 a1 a2 a3 : Int) (g3 : a0 = 1) (g4 : 0 ≤ a1) (g5 : a1 ≤ 7) (g6 : -1099511627776 ≤ a2) (g7 : a2 ≤ 1099511627776) (g8 : 0 ≤ a3) (g9 : ¬ (a3 ≤ 0)) : Zi a0 a1 a2 a3 (.r0 (100) : Zc) := Zj (orc := (Zk [(0, false), (1, false), (5, true), (6, true), (15, true), (16, true), (25, true), (26, false)] [] [(0, 1)] [] [])) (ob := [tN (a3 ≤ 0), tY (0 ≤ a3), tY (a2 ≤ 1099511627776), tY (-1099511627776 ≤ a2), tY (a1 ≤ 7), tY (0 ≤ a1), (Nat.blt 1 21, true), (a0 == Int.ofNat 1, true), tN (a0 ≥ 21), tN (a0 < 0)]) (by kernel_rfl) (oN <| oY <| oY <| oY <| oY <| oY <| oB <| oK <| oN <| oN Ze)

theorem Zk4 (a0 a1 a2 a3 : Int) (g3 : a0 = 1) (g4 : 0 ≤ a1) (g5 : a1 ≤ 7) (g6 : -1099511627776 ≤ a2) (g7 : a2 ≤ 1099511627776) (g8 : ¬ (0 ≤ a3)) : Zi a0 a1 a2 a3 (.r0 (100) : Zc) := Zj (orc := (Zk [(0, false), (1, false), (5, true), (6, true), (15, true), (16, true), (25, false)] [] [(0, 1)] [] [])) (ob := [tN (0 ≤ a3), tY (a2 ≤ 1099511627776), tY (-1099511627776 ≤ a2), tY (a1 ≤ 7), tY (0 ≤ a1), (Nat.blt 1 21, true), (a0 == Int.ofNat 1, true), tN (a0 ≥ 21), tN (a0 < 0)]) (by kernel_rfl) (oN <| oY <| oY <| oY <| oY <| oB <| oK <| oN <| oN Ze)

theorem Zk5 (a0 a1 a2 a3 : Int) (g3 : a0 = 1) (g4 : 0 ≤ a1) (g5 : a1 ≤ 7) (g6 : -1099511627776 ≤ a2) (g7 : ¬ (a2 ≤ 1099511627776)) : Zi a0 a1 a2 a3 (.r0 (100) : Zc) := Zj (orc := (Zk [(0, false), (1, false), (5, true), (6, true), (15, true), (16, false)] [] [(0, 1)] [] [])) (ob := [tN (a2 ≤ 1099511627776), tY (-1099511627776 ≤ a2), tY (a1 ≤ 7), tY (0 ≤ a1), (Nat.blt 1 21, true), (a0 == Int.ofNat 1, true), tN (a0 ≥ 21), tN (a0 < 0)]) (by kernel_rfl) (oN <| oY <| oY <| oY <| oB <| oK <| oN <| oN Ze)

theorem Ziy (a0 a1 a2 a3 : Int) (g3 : a0 = 1) (g4 : 0 ≤ a1) (g5 : a1 ≤ 7) (g6 : ¬ (-1099511627776 ≤ a2)) : Zi a0 a1 a2 a3 (.r0 (100) : Zc) := Zj (orc := (Zk [(0, false), (1, false), (5, true), (6, true), (15, false)] [] [(0, 1)] [] [])) (ob := [tN (-1099511627776 ≤ a2), tY (a1 ≤ 7), tY (0 ≤ a1), (Nat.blt 1 21, true), (a0 == Int.ofNat 1, true), tN (a0 ≥ 21), tN (a0 < 0)]) (by kernel_rfl) (oN <| oY <| oY <| oB <| oK <| oN <| oN Ze)

theorem Ziz (a0 a1 a2 a3 : Int) (g3 : a0 = 1) (g4 : 0 ≤ a1) (g5 : ¬ (a1 ≤ 7)) : Zi a0 a1 a2 a3 (.r0 (100) : Zc) := Zj (orc := (Zk [(0, false), (1, false), (5, true), (6, false)] [] [(0, 1)] [] [])) (ob := [tN (a1 ≤ 7), tY (0 ≤ a1), (Nat.blt 1 21, true), (a0 == Int.ofNat 1, true), tN (a0 ≥ 21), tN (a0 < 0)]) (by kernel_rfl) (oN <| oY <| oB <| oK <| oN <| oN Ze)

theorem Zi0 (a0 a1 a2 a3 : Int) (g3 : a0 = 1) (g4 : ¬ (0 ≤ a1)) : Zi a0 a1 a2 a3 (.r0 (100) : Zc) := Zj (orc := (Zk [(0, false), (1, false), (5, false)] [] [(0, 1)] [] [])) (ob := [tN (0 ≤ a1), (Nat.blt 1 21, true), (a0 == Int.ofNat 1, true), tN (a0 ≥ 21), tN (a0 < 0)]) (by kernel_rfl) (oN <| oB <| oK <| oN <| oN Ze)

theorem Zi1 (a0 a1 a2 a3 : Int) (g4 : a0 = 2) (g5 : 0 ≤ a1) (g6 : a1 ≤ 7) (g7 : 0 ≤ a2) (g8 : a2 ≤ 0) (g9 : 0 ≤ a3) (g10 : a3 ≤ 0) : Zi a0 a1 a2 a3 (.r0 (0) : Zc) := ZU (orc := (Zk [(0, false), (1, false), (5, true), (6, true), (15, true), (16, true), (25, true), (26, true)] [] [(0, 2)] [] [])) (ob := [tY (a3 ≤ 0), tY (0 ≤ a3), tY (a2 ≤ 0), tY (0 ≤ a2), tY (a1 ≤ 7), tY (0 ≤ a1), (Nat.blt 2 21, true), (a0 == Int.ofNat 2, true), tN (a0 ≥ 21), tN (a0 < 0)]) (by kernel_rfl) (oY <| oY <| oY <| oY <| oY <| oY <| oB <| oK <| oN <| oN Ze)

theorem Zi2 (a0 a1 a2 a3 : Int) (g4 : a0 = 2) (g5 : 0 ≤ a1) (g6 : a1 ≤ 7) (g7 : 0 ≤ a2) (g8 : a2 ≤ 0) (g9 : 0 ≤ a3) (g10 : ¬ (a3 ≤ 0)) : Zi a0 a1 a2 a3 (.r0 (100) : Zc) := Zj (orc := (Zk [(0, false), (1, false), (5, true), (6, true), (15, true), (16, true), (25, true), (26, false)] [] [(0, 2)] [] [])) (ob := [tN (a3 ≤ 0), tY (0 ≤ a3), tY (a2 ≤ 0), tY (0 ≤ a2), tY (a1 ≤ 7), tY (0 ≤ a1), (Nat.blt 2 21, true), (a0 == Int.ofNat 2, true), tN (a0 ≥ 21), tN (a0 < 0)]) (by kernel_rfl) (oN <| oY <| oY <| oY <| oY <| oY <| oB <| oK <| oN <| oN Ze)

theorem Zi3 (a0 a1 a2 a3 : Int) (g4 : a0 = 2) (g5 : 0 ≤ a1) (g6 : a1 ≤ 7) (g7 : 0 ≤ a2) (g8 : a2 ≤ 0) (g9 : ¬ (0 ≤ a3)) : Zi a0 a1 a2 a3 (.r0 (100) : Zc) := Zj (orc := (Zk [(0, false), (1, false), (5, true), (6, true), (15, true), (16, true), (25, false)] [] [(0, 2)] [] [])) (ob := [tN (0 ≤ a3), tY (a2 ≤ 0), tY (0 ≤ a2), tY (a1 ≤ 7), tY (0 ≤ a1), (Nat.blt 2 21, true), (a0 == Int.ofNat 2, true), tN (a0 ≥ 21), tN (a0 < 0)]) (by kernel_rfl) (oN <| oY <| oY <| oY <| oY <| oB <| oK <| oN <| oN Ze)

theorem Zi4 (a0 a1 a2 a3 : Int) (g4 : a0 = 2) (g5 : 0 ≤ a1) (g6 : a1 ≤ 7) (g7 : 0 ≤ a2) (g8 : ¬ (a2 ≤ 0)) : Zi a0 a1 a2 a3 (.r0 (100) : Zc) := Zj (orc := (Zk [(0, false), (1, false), (5, true), (6, true), (15, true), (16, false)] [] [(0, 2)] [] [])) (ob := [tN (a2 ≤ 0), tY (0 ≤ a2), tY (a1 ≤ 7), tY (0 ≤ a1), (Nat.blt 2 21, true), (a0 == Int.ofNat 2, true), tN (a0 ≥ 21), tN (a0 < 0)]) (by kernel_rfl) (oN <| oY <| oY <| oY <| oB <| oK <| oN <| oN Ze)

theorem Zi5 (a0 a1 a2 a3 : Int) (g4 : a0 = 2) (g5 : 0 ≤ a1) (g6 : a1 ≤ 7) (g7 : ¬ (0 ≤ a2)) : Zi a0 a1 a2 a3 (.r0 (100) : Zc) := Zj (orc := (Zk [(0, false), (1, false), (5, true), (6, true), (15, false)] [] [(0, 2)] [] [])) (ob := [tN (0 ≤ a2), tY (a1 ≤ 7), tY (0 ≤ a1), (Nat.blt 2 21, true), (a0 == Int.ofNat 2, true), tN (a0 ≥ 21), tN (a0 < 0)]) (by kernel_rfl) (oN <| oY <| oY <| oB <| oK <| oN <| oN Ze)

theorem Zi6 (a0 a1 a2 a3 : Int) (g4 : a0 = 2) (g5 : 0 ≤ a1) (g6 : ¬ (a1 ≤ 7)) : Zi a0 a1 a2 a3 (.r0 (100) : Zc) := Zj (orc := (Zk [(0, false), (1, false), (5, true), (6, false)] [] [(0, 2)] [] [])) (ob := [tN (a1 ≤ 7), tY (0 ≤ a1), (Nat.blt 2 21, true), (a0 == Int.ofNat 2, true), tN (a0 ≥ 21), tN (a0 < 0)]) (by kernel_rfl) (oN <| oY <| oB <| oK <| oN <| oN Ze)

theorem Zi7 (a0 a1 a2 a3 : Int) (g4 : a0 = 2) (g5 : ¬ (0 ≤ a1)) : Zi a0 a1 a2 a3 (.r0 (100) : Zc) := Zj (orc := (Zk [(0, false), (1, false), (5, false)] [] [(0, 2)] [] [])) (ob := [tN (0 ≤ a1), (Nat.blt 2 21, true), (a0 == Int.ofNat 2, true), tN (a0 ≥ 21), tN (a0 < 0)]) (by kernel_rfl) (oN <| oB <| oK <| oN <| oN Ze)

theorem Zi8 (a0 a1 a2 a3 : Int) (g5 : a0 = 3) (g6 : 0 ≤ a1) (g7 : a1 ≤ 7) (g8 : 0 ≤ a2) (g9 : a2 ≤ 7) (g10 : 0 ≤ a3) (g11 : a3 ≤ 0) : Zi a0 a1 a2 a3 (.r0 (0) : Zc) := ZU (orc := (Zk [(0, false), (1, false), (5, true), (6, true), (10, true), (11, true), (20, true), (21, true)] [] [(0, 3)] [] [])) (ob := [tY (a3 ≤ 0), tY (0 ≤ a3), tY (a2 ≤ 7), tY (0 ≤ a2), tY (a1 ≤ 7), tY (0 ≤ a1), (Nat.blt 3 21, true), (a0 == Int.ofNat 3, true), tN (a0 ≥ 21), tN (a0 < 0)]) (by kernel_rfl) (oY <| oY <| oY <| oY <| oY <| oY <| oB <| oK <| oN <| oN Ze)

theorem Zi9 (a0 a1 a2 a3 : Int) (g5 : a0 = 3) (g6 : 0 ≤ a1) (g7 : a1 ≤ 7) (g8 : 0 ≤ a2) (g9 : a2 ≤ 7) (g10 : 0 ≤ a3) (g11 : ¬ (a3 ≤ 0)) : Zi a0 a1 a2 a3 (.r0 (100) : Zc) := Zj (orc := (Zk [(0, false), (1, false), (5, true), (6, true), (10, true), (11, true), (20, true), (21, false)] [] [(0, 3)] [] [])) (ob := [tN (a3 ≤ 0), tY (0 ≤ a3), tY (a2 ≤ 7), tY (0 ≤ a2), tY (a1 ≤ 7), tY (0 ≤ a1), (Nat.blt 3 21, true), (a0 == Int.ofNat 3, true), tN (a0 ≥ 21), tN (a0 < 0)]) (by kernel_rfl) (oN <| oY <| oY <| oY <| oY <| oY <| oB <| oK <| oN <| oN Ze)

theorem ZiA (a0 a1 a2 a3 : Int) (g5 : a0 = 3) (g6 : 0 ≤ a1) (g7 : a1 ≤ 7) (g8 : 0 ≤ a2) (g9 : a2 ≤ 7) (g10 : ¬ (0 ≤ a3)) : Zi a0 a1 a2 a3 (.r0 (100) : Zc) := Zj (orc := (Zk [(0, false), (1, false), (5, true), (6, true), (10, true), (11, true), (20, false)] [] [(0, 3)] [] [])) (ob := [tN (0 ≤ a3), tY (a2 ≤ 7), tY (0 ≤ a2), tY (a1 ≤ 7), tY (0 ≤ a1), (Nat.blt 3 21, true), (a0 == Int.ofNat 3, true), tN (a0 ≥ 21), tN (a0 < 0)]) (by kernel_rfl) (oN <| oY <| oY <| oY <| oY <| oB <| oK <| oN <| oN Ze)

theorem ZiB (a0 a1 a2 a3 : Int) (g5 : a0 = 3) (g6 : 0 ≤ a1) (g7 : a1 ≤ 7) (g8 : 0 ≤ a2) (g9 : ¬ (a2 ≤ 7)) : Zi a0 a1 a2 a3 (.r0 (100) : Zc) := Zj (orc := (Zk [(0, false), (1, false), (5, true), (6, true), (10, true), (11, false)] [] [(0, 3)] [] [])) (ob := [tN (a2 ≤ 7), tY (0 ≤ a2), tY (a1 ≤ 7), tY (0 ≤ a1), (Nat.blt 3 21, true), (a0 == Int.ofNat 3, true), tN (a0 ≥ 21), tN (a0 < 0)]) (by kernel_rfl) (oN <| oY <| oY <| oY <| oB <| oK <| oN <| oN Ze)

theorem ZiC (a0 a1 a2 a3 : Int) (g5 : a0 = 3) (g6 : 0 ≤ a1) (g7 : a1 ≤ 7) (g8 : ¬ (0 ≤ a2)) : Zi a0 a1 a2 a3 (.r0 (100) : Zc) := Zj (orc := (Zk [(0, false), (1, false), (5, true), (6, true), (10, false)] [] [(0, 3)] [] [])) (ob := [tN (0 ≤ a2), tY (a1 ≤ 7), tY (0 ≤ a1), (Nat.blt 3 21, true), (a0 == Int.ofNat 3, true), tN (a0 ≥ 21), tN (a0 < 0)]) (by kernel_rfl) (oN <| oY <| oY <| oB <| oK <| oN <| oN Ze)

theorem ZiD (a0 a1 a2 a3 : Int) (g5 : a0 = 3) (g6 : 0 ≤ a1) (g7 : ¬ (a1 ≤ 7)) : Zi a0 a1 a2 a3 (.r0 (100) : Zc) := Zj (orc := (Zk [(0, false), (1, false), (5, true), (6, false)] [] [(0, 3)] [] [])) (ob := [tN (a1 ≤ 7), tY (0 ≤ a1), (Nat.blt 3 21, true), (a0 == Int.ofNat 3, true), tN (a0 ≥ 21), tN (a0 < 0)]) (by kernel_rfl) (oN <| oY <| oB <| oK <| oN <| oN Ze)

theorem ZiE (a0 a1 a2 a3 : Int) (g5 : a0 = 3) (g6 : ¬ (0 ≤ a1)) : Zi a0 a1 a2 a3 (.r0 (100) : Zc) := Zj (orc := (Zk [(0, false), (1, false), (5, false)] [] [(0, 3)] [] [])) (ob := [tN (0 ≤ a1), (Nat.blt 3 21, true), (a0 == Int.ofNat 3, true), tN (a0 ≥ 21), tN (a0 < 0)]) (by kernel_rfl) (oN <| oB <| oK <| oN <| oN Ze)

theorem ZiF (a0 a1 a2 a3 : Int) (g6 : a0 = 4) (g7 : 0 ≤ a1) (g8 : a1 ≤ 7) (g9 : 0 ≤ a2) (g10 : a2 ≤ 7) (g11 : 0 ≤ a3) (g12 : a3 ≤ 7) : Zi a0 a1 a2 a3 (.r0 (0) : Zc) := ZU (orc := (Zk [(0, false), (1, false), (5, true), (6, true), (10, true), (11, true), (15, true), (16, true)] [] [(0, 4)] [] [])) (ob := [tY (a3 ≤ 7), tY (0 ≤ a3), tY (a2 ≤ 7), tY (0 ≤ a2), tY (a1 ≤ 7), tY (0 ≤ a1), (Nat.blt 4 21, true), (a0 == Int.ofNat 4, true), tN (a0 ≥ 21), tN (a0 < 0)]) (by kernel_rfl) (oY <| oY <| oY <| oY <| oY <| oY <| oB <| oK <| oN <| oN Ze)

theorem ZiG (a0 a1 a2 a3 : Int) (g6 : a0 = 4) (g7 : 0 ≤ a1) (g8 : a1 ≤ 7) (g9 : 0 ≤ a2) (g10 : a2 ≤ 7) (g11 : 0 ≤ a3) (g12 : ¬ (a3 ≤ 7)) : Zi a0 a1 a2 a3 (.r0 (100) : Zc) := Zj (orc := (Zk [(0, false), (1, false), (5, true), (6, true), (10, true), (11, true), (15, true), (16, false)] [] [(0, 4)] [] [])) (ob := [tN (a3 ≤ 7), tY (0 ≤ a3), tY (a2 ≤ 7), tY (0 ≤ a2), tY (a1 ≤ 7), tY (0 ≤ a1), (Nat.blt 4 21, true), (a0 == Int.ofNat 4, true), tN (a0 ≥ 21), tN (a0 < 0)]) (by kernel_rfl) (oN <| oY <| oY <| oY <| oY <| oY <| oB <| oK <| oN <| oN Ze)

theorem ZiH (a0 a1 a2 a3 : Int) (g6 : a0 = 4) (g7 : 0 ≤ a1) (g8 : a1 ≤ 7) (g9 : 0 ≤ a2) (g10 : a2 ≤ 7) (g11 : ¬ (0 ≤ a3)) : Zi a0 a1 a2 a3 (.r0 (100) : Zc) := Zj (orc := (Zk [(0, false), (1, false), (5, true), (6, true), (10, true), (11, true), (15, false)] [] [(0, 4)] [] [])) (ob := [tN (0 ≤ a3), tY (a2 ≤ 7), tY (0 ≤ a2), tY (a1 ≤ 7), tY (0 ≤ a1), (Nat.blt 4 21, true), (a0 == Int.ofNat 4, true), tN (a0 ≥ 21), tN (a0 < 0)]) (by kernel_rfl) (oN <| oY <| oY <| oY <| oY <| oB <| oK <| oN <| oN Ze)

theorem ZiI (a0 a1 a2 a3 : Int) (g6 : a0 = 4) (g7 : 0 ≤ a1) (g8 : a1 ≤ 7) (g9 : 0 ≤ a2) (g10 : ¬ (a2 ≤ 7)) : Zi a0 a1 a2 a3 (.r0 (100) : Zc) := Zj (orc := (Zk [(0, false), (1, false), (5, true), (6, true), (10, true), (11, false)] [] [(0, 4)] [] [])) (ob := [tN (a2 ≤ 7), tY (0 ≤ a2), tY (a1 ≤ 7), tY (0 ≤ a1), (Nat.blt 4 21, true), (a0 == Int.ofNat 4, true), tN (a0 ≥ 21), tN (a0 < 0)]) (by kernel_rfl) (oN <| oY <| oY <| oY <| oB <| oK <| oN <| oN Ze)

theorem ZiJ (a0 a1 a2 a3 : Int) (g6 : a0 = 4) (g7 : 0 ≤ a1) (g8 : a1 ≤ 7) (g9 : ¬ (0 ≤ a2)) : Zi a0 a1 a2 a3 (.r0 (100) : Zc) := Zj (orc := (Zk [(0, false), (1, false), (5, true), (6, true), (10, false)] [] [(0, 4)] [] [])) (ob := [tN (0 ≤ a2), tY (a1 ≤ 7), tY (0 ≤ a1), (Nat.blt 4 21, true), (a0 == Int.ofNat 4, true), tN (a0 ≥ 21), tN (a0 < 0)]) (by kernel_rfl) (oN <| oY <| oY <| oB <| oK <| oN <| oN Ze)

theorem ZiK (a0 a1 a2 a3 : Int) (g6 : a0 = 4) (g7 : 0 ≤ a1) (g8 : ¬ (a1 ≤ 7)) : Zi a0 a1 a2 a3 (.r0 (100) : Zc) := Zj (orc := (Zk [(0, false), (1, false), (5, true), (6, false)] [] [(0, 4)] [] [])) (ob := [tN (a1 ≤ 7), tY (0 ≤ a1), (Nat.blt 4 21, true), (a0 == Int.ofNat 4, true), tN (a0 ≥ 21), tN (a0 < 0)]) (by kernel_rfl) (oN <| oY <| oB <| oK <| oN <| oN Ze)

theorem ZiL (a0 a1 a2 a3 : Int) (g6 : a0 = 4) (g7 : ¬ (0 ≤ a1)) : Zi a0 a1 a2 a3 (.r0 (100) : Zc) := Zj (orc := (Zk [(0, false), (1, false), (5, false)] [] [(0, 4)] [] [])) (ob := [tN (0 ≤ a1), (Nat.blt 4 21, true), (a0 == Int.ofNat 4, true), tN (a0 ≥ 21), tN (a0 < 0)]) (by kernel_rfl) (oN <| oB <| oK <| oN <| oN Ze)

theorem ZiM (a0 a1 a2 a3 : Int) (g7 : a0 = 5) (g8 : 0 ≤ a1) (g9 : a1 ≤ 7) (g10 : 0 ≤ a2) (g11 : a2 ≤ 7) (g12 : 0 ≤ a3) (g13 : a3 ≤ 7) : Zi a0 a1 a2 a3 (.r0 (0) : Zc) := ZU (orc := (Zk [(0, false), (1, false), (5, true), (6, true), (10, true), (11, true), (15, true), (16, true)] [] [(0, 5)] [] [])) (ob := [tY (a3 ≤ 7), tY (0 ≤ a3), tY (a2 ≤ 7), tY (0 ≤ a2), tY (a1 ≤ 7), tY (0 ≤ a1), (Nat.blt 5 21, true), (a0 == Int.ofNat 5, true), tN (a0 ≥ 21), tN (a0 < 0)]) (by kernel_rfl) (oY <| oY <| oY <| oY <| oY <| oY <| oB <| oK <| oN <| oN Ze)

theorem ZiN (a0 a1 a2 a3 : Int) (g7 : a0 = 5) (g8 : 0 ≤ a1) (g9 : a1 ≤ 7) (g10 : 0 ≤ a2) (g11 : a2 ≤ 7) (g12 : 0 ≤ a3) (g13 : ¬ (a3 ≤ 7)) : Zi a0 a1 a2 a3 (.r0 (100) : Zc) := Zj (orc := (Zk [(0, false), (1, false), (5, true), (6, true), (10, true), (11, true), (15, true), (16, false)] [] [(0, 5)] [] [])) (ob := [tN (a3 ≤ 7), tY (0 ≤ a3), tY (a2 ≤ 7), tY (0 ≤ a2), tY (a1 ≤ 7), tY (0 ≤ a1), (Nat.blt 5 21, true), (a0 == Int.ofNat 5, true), tN (a0 ≥ 21), tN (a0 < 0)]) (by kernel_rfl) (oN <| oY <| oY <| oY <| oY <| oY <| oB <| oK <| oN <| oN Ze)

theorem ZiO (a0 a1 a2 a3 : Int) (g7 : a0 = 5) (g8 : 0 ≤ a1) (g9 : a1 ≤ 7) (g10 : 0 ≤ a2) (g11 : a2 ≤ 7) (g12 : ¬ (0 ≤ a3)) : Zi a0 a1 a2 a3 (.r0 (100) : Zc) := Zj (orc := (Zk [(0, false), (1, false), (5, true), (6, true), (10, true), (11, true), (15, false)] [] [(0, 5)] [] [])) (ob := [tN (0 ≤ a3), tY (a2 ≤ 7), tY (0 ≤ a2), tY (a1 ≤ 7), tY (0 ≤ a1), (Nat.blt 5 21, true), (a0 == Int.ofNat 5, true), tN (a0 ≥ 21), tN (a0 < 0)]) (by kernel_rfl) (oN <| oY <| oY <| oY <| oY <| oB <| oK <| oN <| oN Ze)

theorem ZiP (a0 a1 a2 a3 : Int) (g7 : a0 = 5) (g8 : 0 ≤ a1) (g9 : a1 ≤ 7) (g10 : 0 ≤ a2) (g11 : ¬ (a2 ≤ 7)) : Zi a0 a1 a2 a3 (.r0 (100) : Zc) := Zj (orc := (Zk [(0, false), (1, false), (5, true), (6, true), (10, true), (11, false)] [] [(0, 5)] [] [])) (ob := [tN (a2 ≤ 7), tY (0 ≤ a2), tY (a1 ≤ 7), tY (0 ≤ a1), (Nat.blt 5 21, true), (a0 == Int.ofNat 5, true), tN (a0 ≥ 21), tN (a0 < 0)]) (by kernel_rfl) (oN <| oY <| oY <| oY <| oB <| oK <| oN <| oN Ze)

theorem ZiQ (a0 a1 a2 a3 : Int) (g7 : a0 = 5) (g8 : 0 ≤ a1) (g9 : a1 ≤ 7) (g10 : ¬ (0 ≤ a2)) : Zi a0 a1 a2 a3 (.r0 (100) : Zc) := Zj (orc := (Zk [(0, false), (1, false), (5, true), (6, true), (10, false)] [] [(0, 5)] [] [])) (ob := [tN (0 ≤ a2), tY (a1 ≤ 7), tY (0 ≤ a1), (Nat.blt 5 21, true), (a0 == Int.ofNat 5, true), tN (a0 ≥ 21), tN (a0 < 0)]) (by kernel_rfl) (oN <| oY <| oY <| oB <| oK <| oN <| oN Ze)

theorem ZiR (a0 a1 a2 a3 : Int) (g7 : a0 = 5) (g8 : 0 ≤ a1) (g9 : ¬ (a1 ≤ 7)) : Zi a0 a1 a2 a3 (.r0 (100) : Zc) := Zj (orc := (Zk [(0, false), (1, false), (5, true), (6, false)] [] [(0, 5)] [] [])) (ob := [tN (a1 ≤ 7), tY (0 ≤ a1), (Nat.blt 5 21, true), (a0 == Int.ofNat 5, true), tN (a0 ≥ 21), tN (a0 < 0)]) (by kernel_rfl) (oN <| oY <| oB <| oK <| oN <| oN Ze)

theorem ZiS (a0 a1 a2 a3 : Int) (g7 : a0 = 5) (g8 : ¬ (0 ≤ a1)) : Zi a0 a1 a2 a3 (.r0 (100) : Zc) := Zj (orc := (Zk [(0, false), (1, false), (5, false)] [] [(0, 5)] [] [])) (ob := [tN (0 ≤ a1), (Nat.blt 5 21, true), (a0 == Int.ofNat 5, true), tN (a0 ≥ 21), tN (a0 < 0)]) (by kernel_rfl) (oN <| oB <| oK <| oN <| oN Ze)

theorem ZiT (a0 a1 a2 a3 : Int) (g8 : a0 = 6) (g9 : 0 ≤ a1) (g10 : a1 ≤ 7) (g11 : 0 ≤ a2) (g12 : a2 ≤ 7) (g13 : 0 ≤ a3) (g14 : a3 ≤ 7) : Zi a0 a1 a2 a3 (.r0 (0) : Zc) := ZU (orc := (Zk [(0, false), (1, false), (5, true), (6, true), (10, true), (11, true), (15, true), (16, true)] [] [(0, 6)] [] [])) (ob := [tY (a3 ≤ 7), tY (0 ≤ a3), tY (a2 ≤ 7), tY (0 ≤ a2), tY (a1 ≤ 7), tY (0 ≤ a1), (Nat.blt 6 21, true), (a0 == Int.ofNat 6, true), tN (a0 ≥ 21), tN (a0 < 0)]) (by kernel_rfl) (oY <| oY <| oY <| oY <| oY <| oY <| oB <| oK <| oN <| oN Ze)

theorem ZiU (a0 a1 a2 a3 : Int) (g8 : a0 = 6) (g9 : 0 ≤ a1) (g10 : a1 ≤ 7) (g11 : 0 ≤ a2) (g12 : a2 ≤ 7) (g13 : 0 ≤ a3) (g14 : ¬ (a3 ≤ 7)) : Zi a0 a1 a2 a3 (.r0 (100) : Zc) := Zj (orc := (Zk [(0, false), (1, false), (5, true), (6, true), (10, true), (11, true), (15, true), (16, false)] [] [(0, 6)] [] [])) (ob := [tN (a3 ≤ 7), tY (0 ≤ a3), tY (a2 ≤ 7), tY (0 ≤ a2), tY (a1 ≤ 7), tY (0 ≤ a1), (Nat.blt 6 21, true), (a0 == Int.ofNat 6, true), tN (a0 ≥ 21), tN (a0 < 0)]) (by kernel_rfl) (oN <| oY <| oY <| oY <| oY <| oY <| oB <| oK <| oN <| oN Ze)

theorem ZiV (a0 a1 a2 a3 : Int) (g8 : a0 = 6) (g9 : 0 ≤ a1) (g10 : a1 ≤ 7) (g11 : 0 ≤ a2) (g12 : a2 ≤ 7) (g13 : ¬ (0 ≤ a3)) : Zi a0 a1 a2 a3 (.r0 (100) : Zc) := Zj (orc := (Zk [(0, false), (1, false), (5, true), (6, true), (10, true), (11, true), (15, false)] [] [(0, 6)] [] [])) (ob := [tN (0 ≤ a3), tY (a2 ≤ 7), tY (0 ≤ a2), tY (a1 ≤ 7), tY (0 ≤ a1), (Nat.blt 6 21, true), (a0 == Int.ofNat 6, true), tN (a0 ≥ 21), tN (a0 < 0)]) (by kernel_rfl) (oN <| oY <| oY <| oY <| oY <| oB <| oK <| oN <| oN Ze)

theorem ZiW (a0 a1 a2 a3 : Int) (g8 : a0 = 6) (g9 : 0 ≤ a1) (g10 : a1 ≤ 7) (g11 : 0 ≤ a2) (g12 : ¬ (a2 ≤ 7)) : Zi a0 a1 a2 a3 (.r0 (100) : Zc) := Zj (orc := (Zk [(0, false), (1, false), (5, true), (6, true), (10, true), (11, false)] [] [(0, 6)] [] [])) (ob := [tN (a2 ≤ 7), tY (0 ≤ a2), tY (a1 ≤ 7), tY (0 ≤ a1), (Nat.blt 6 21, true), (a0 == Int.ofNat 6, true), tN (a0 ≥ 21), tN (a0 < 0)]) (by kernel_rfl) (oN <| oY <| oY <| oY <| oB <| oK <| oN <| oN Ze)

theorem ZiX (a0 a1 a2 a3 : Int) (g8 : a0 = 6) (g9 : 0 ≤ a1) (g10 : a1 ≤ 7) (g11 : ¬ (0 ≤ a2)) : Zi a0 a1 a2 a3 (.r0 (100) : Zc) := Zj (orc := (Zk [(0, false), (1, false), (5, true), (6, true), (10, false)] [] [(0, 6)] [] [])) (ob := [tN (0 ≤ a2), tY (a1 ≤ 7), tY (0 ≤ a1), (Nat.blt 6 21, true), (a0 == Int.ofNat 6, true), tN (a0 ≥ 21), tN (a0 < 0)]) (by kernel_rfl) (oN <| oY <| oY <| oB <| oK <| oN <| oN Ze)

theorem ZiY (a0 a1 a2 a3 : Int) (g8 : a0 = 6) (g9 : 0 ≤ a1) (g10 : ¬ (a1 ≤ 7)) : Zi a0 a1 a2 a3 (.r0 (100) : Zc) := Zj (orc := (Zk [(0, false), (1, false), (5, true), (6, false)] [] [(0, 6)] [] [])) (ob := [tN (a1 ≤ 7), tY (0 ≤ a1), (Nat.blt 6 21, true), (a0 == Int.ofNat 6, true), tN (a0 ≥ 21), tN (a0 < 0)]) (by kernel_rfl) (oN <| oY <| oB <| oK <| oN <| oN Ze)

theorem ZiZ (a0 a1 a2 a3 : Int) (g8 : a0 = 6) (g9 : ¬ (0 ≤ a1)) : Zi a0 a1 a2 a3 (.r0 (100) : Zc) := Zj (orc := (Zk [(0, false), (1, false), (5, false)] [] [(0, 6)] [] [])) (ob := [tN (0 ≤ a1), (Nat.blt 6 21, true), (a0 == Int.ofNat 6, true), tN (a0 ≥ 21), tN (a0 < 0)]) (by kernel_rfl) (oN <| oB <| oK <| oN <| oN Ze)

theorem Zja (a0 a1 a2 a3 : Int) (g9 : a0 = 7) (g10 : 0 ≤ a1) (g11 : a1 ≤ 7) (g12 : 0 ≤ a2) (g13 : a2 ≤ 7) (g14 : 0 ≤ a3) (g15 : a3 ≤ 7) : Zi a0 a1 a2 a3 (.r0 (0) : Zc) := ZU (orc := (Zk [(0, false), (1, false), (5, true), (6, true), (10, true), (11, true), (15, true), (16, true)] [] [(0, 7)] [] [])) (ob := [tY (a3 ≤ 7), tY (0 ≤ a3), tY (a2 ≤ 7), tY (0 ≤ a2), tY (a1 ≤ 7), tY (0 ≤ a1), (Nat.blt 7 21, true), (a0 == Int.ofNat 7, true), tN (a0 ≥ 21), tN (a0 < 0)]) (by kernel_rfl) (oY <| oY <| oY <| oY <| oY <| oY <| oB <| oK <| oN <| oN Ze)

theorem Zjb (a0 a1 a2 a3 : Int) (g9 : a0 = 7) (g10 : 0 ≤ a1) (g11 : a1 ≤ 7) (g12 : 0 ≤ a2) (g13 : a2 ≤ 7) (g14 : 0 ≤ a3) (g15 : ¬ (a3 ≤ 7)) : Zi a0 a1 a2 a3 (.r0 (100) : Zc) := Zj (orc := (Zk [(0, false), (1, false), (5, true), (6, true), (10, true), (11, true), (15, true), (16, false)] [] [(0, 7)] [] [])) (ob := [tN (a3 ≤ 7), tY (0 ≤ a3), tY (a2 ≤ 7), tY (0 ≤ a2), tY (a1 ≤ 7), tY (0 ≤ a1), (Nat.blt 7 21, true), (a0 == Int.ofNat 7, true), tN (a0 ≥ 21), tN (a0 < 0)]) (by kernel_rfl) (oN <| oY <| oY <| oY <| oY <| oY <| oB <| oK <| oN <| oN Ze)

theorem Zjc (a0 a1 a2 a3 : Int) (g9 : a0 = 7) (g10 : 0 ≤ a1) (g11 : a1 ≤ 7) (g12 : 0 ≤ a2) (g13 : a2 ≤ 7) (g14 : ¬ (0 ≤ a3)) : Zi a0 a1 a2 a3 (.r0 (100) : Zc) := Zj (orc := (Zk [(0, false), (1, false), (5, true), (6, true), (10, true), (11, true), (15, false)] [] [(0, 7)] [] [])) (ob := [tN (0 ≤ a3), tY (a2 ≤ 7), tY (0 ≤ a2), tY (a1 ≤ 7), tY (0 ≤ a1), (Nat.blt 7 21, true), (a0 == Int.ofNat 7, true), tN (a0 ≥ 21), tN (a0 < 0)]) (by kernel_rfl) (oN <| oY <| oY <| oY <| oY <| oB <| oK <| oN <| oN Ze)

theorem Zjd (a0 a1 a2 a3 : Int) (g9 : a0 = 7) (g10 : 0 ≤ a1) (g11 : a1 ≤ 7) (g12 : 0 ≤ a2) (g13 : ¬ (a2 ≤ 7)) : Zi a0 a1 a2 a3 (.r0 (100) : Zc) := Zj (orc := (Zk [(0, false), (1, false), (5, true), (6, true), (10, true), (11, false)] [] [(0, 7)] [] [])) (ob := [tN (a2 ≤ 7), tY (0 ≤ a2), tY (a1 ≤ 7), tY (0 ≤ a1), (Nat.blt 7 21, true), (a0 == Int.ofNat 7, true), tN (a0 ≥ 21), tN (a0 < 0)]) (by kernel_rfl) (oN <| oY <| oY <| oY <| oB <| oK <| oN <| oN Ze)

theorem Zje (a0 a1 a2 a3 : Int) (g9 : a0 = 7) (g10 : 0 ≤ a1) (g11 : a1 ≤ 7) (g12 : ¬ (0 ≤ a2)) : Zi a0 a1 a2 a3 (.r0 (100) : Zc) := Zj (orc := (Zk [(0, false), (1, false), (5, true), (6, true), (10, false)] [] [(0, 7)] [] [])) (ob := [tN (0 ≤ a2), tY (a1 ≤ 7), tY (0 ≤ a1), (Nat.blt 7 21, true), (a0 == Int.ofNat 7, true), tN (a0 ≥ 21), tN (a0 < 0)]) (by kernel_rfl) (oN <| oY <| oY <| oB <| oK <| oN <| oN Ze)

theorem Zjf (a0 a1 a2 a3 : Int) (g9 : a0 = 7) (g10 : 0 ≤ a1) (g11 : ¬ (a1 ≤ 7)) : Zi a0 a1 a2 a3 (.r0 (100) : Zc) := Zj (orc := (Zk [(0, false), (1, false), (5, true), (6, false)] [] [(0, 7)] [] [])) (ob := [tN (a1 ≤ 7), tY (0 ≤ a1), (Nat.blt 7 21, true), (a0 == Int.ofNat 7, true), tN (a0 ≥ 21), tN (a0 < 0)]) (by kernel_rfl) (oN <| oY <| oB <| oK <| oN <| oN Ze)

theorem Zjg (a0 a1 a2 a3 : Int) (g9 : a0 = 7) (g10 : ¬ (0 ≤ a1)) : Zi a0 a1 a2 a3 (.r0 (100) : Zc) := Zj (orc := (Zk [(0, false), (1, false), (5, false)] [] [(0, 7)] [] [])) (ob := [tN (0 ≤ a1), (Nat.blt 7 21, true), (a0 == Int.ofNat 7, true), tN (a0 ≥ 21), tN (a0 < 0)]) (by kernel_rfl) (oN <| oB <| oK <| oN <| oN Ze)

theorem Zjh (a0 a1 a2 a3 : Int) (g10 : a0 = 8) (g11 : 0 ≤ a1) (g12 : a1 ≤ 512) (g13 : 0 ≤ a2) (g14 : a2 ≤ 0) (g15 : 0 ≤ a3) (g16 : a3 ≤ 0) : Zi a0 a1 a2 a3 (.r0 (0) : Zc) := ZU (orc := (Zk [(0, false), (1, false), (8, true), (9, true), (18, true), (19, true), (28, true), (29, true)] [] [(0, 8)] [] [])) (ob := [tY (a3 ≤ 0), tY (0 ≤ a3), tY (a2 ≤ 0), tY (0 ≤ a2), tY (a1 ≤ 512), tY (0 ≤ a1), (Nat.blt 8 21, true), (a0 == Int.ofNat 8, true), tN (a0 ≥ 21), tN (a0 < 0)]) (by kernel_rfl) (oY <| oY <| oY <| oY <| oY <| oY <| oB <| oK <| oN <| oN Ze)

theorem Zji (a0 a1 a2 a3 : Int) (g10 : a0 = 8) (g11 : 0 ≤ a1) (g12 : a1 ≤ 512) (g13 : 0 ≤ a2) (g14 : a2 ≤ 0) (g15 : 0 ≤ a3) (g16 : ¬ (a3 ≤ 0)) : Zi a0 a1 a2 a3 (.r0 (100) : Zc) := Zj (orc := (Zk [(0, false), (1, false), (8, true), (9, true), (18, true), (19, true), (28, true), (29, false)] [] [(0, 8)] [] [])) (ob := [tN (a3 ≤ 0), tY (0 ≤ a3), tY (a2 ≤ 0), tY (0 ≤ a2), tY (a1 ≤ 512), tY (0 ≤ a1), (Nat.blt 8 21, true), (a0 == Int.ofNat 8, true), tN (a0 ≥ 21), tN (a0 < 0)]) (by kernel_rfl) (oN <| oY <| oY <| oY <| oY <| oY <| oB <| oK <| oN <| oN Ze)

theorem Zjj (a0 a1 a2 a3 : Int) (g10 : a0 = 8) (g11 : 0 ≤ a1) (g12 : a1 ≤ 512) (g13 : 0 ≤ a2) (g14 : a2 ≤ 0) (g15 : ¬ (0 ≤ a3)) : Zi a0 a1 a2 a3 (.r0 (100) : Zc) := Zj (orc := (Zk [(0, false), (1, false), (8, true), (9, true), (18, true), (19, true), (28, false)] [] [(0, 8)] [] [])) (ob := [tN (0 ≤ a3), tY (a2 ≤ 0), tY (0 ≤ a2), tY (a1 ≤ 512), tY (0 ≤ a1), (Nat.blt 8 21, true), (a0 == Int.ofNat 8, true), tN (a0 ≥ 21), tN (a0 < 0)]) (by kernel_rfl) (oN <| oY <| oY <| oY <| oY <| oB <| oK <| oN <| oN Ze)

theorem Zjk (a0 a1 a2 a3 : Int) (g10 : a0 = 8) (g11 : 0 ≤ a1) (g12 : a1 ≤ 512) (g13 : 0 ≤ a2) (g14 : ¬ (a2 ≤ 0)) : Zi a0 a1 a2 a3 (.r0 (100) : Zc) := Zj (orc := (Zk [(0, false), (1, false), (8, true), (9, true), (18, true), (19, false)] [] [(0, 8)] [] [])) (ob := [tN (a2 ≤ 0), tY (0 ≤ a2), tY (a1 ≤ 512), tY (0 ≤ a1), (Nat.blt 8 21, true), (a0 == Int.ofNat 8, true), tN (a0 ≥ 21), tN (a0 < 0)]) (by kernel_rfl) (oN <| oY <| oY <| oY <| oB <| oK <| oN <| oN Ze)

theorem Zjl (a0 a1 a2 a3 : Int) (g10 : a0 = 8) (g11 : 0 ≤ a1) (g12 : a1 ≤ 512) (g13 : ¬ (0 ≤ a2)) : Zi a0 a1 a2 a3 (.r0 (100) : Zc) := Zj (orc := (Zk [(0, false), (1, false), (8, true), (9, true), (18, false)] [] [(0, 8)] [] [])) (ob := [tN (0 ≤ a2), tY (a1 ≤ 512), tY (0 ≤ a1), (Nat.blt 8 21, true), (a0 == Int.ofNat 8, true), tN (a0 ≥ 21), tN (a0 < 0)]) (by kernel_rfl) (oN <| oY <| oY <| oB <| oK <| oN <| oN Ze)

theorem Zjm (a0 a1 a2 a3 : Int) (g10 : a0 = 8) (g11 : 0 ≤ a1) (g12 : ¬ (a1 ≤ 512)) : Zi a0 a1 a2 a3 (.r0 (100) : Zc) := Zj (orc := (Zk [(0, false), (1, false), (8, true), (9, false)] [] [(0, 8)] [] [])) (ob := [tN (a1 ≤ 512), tY (0 ≤ a1), (Nat.blt 8 21, true), (a0 == Int.ofNat 8, true), tN (a0 ≥ 21), tN (a0 < 0)]) (by kernel_rfl) (oN <| oY <| oB <| oK <| oN <| oN Ze)

theorem Zjn (a0 a1 a2 a3 : Int) (g10 : a0 = 8) (g11 : ¬ (0 ≤ a1)) : Zi a0 a1 a2 a3 (.r0 (100) : Zc) := Zj (orc := (Zk [(0, false), (1, false), (8, false)] [] [(0, 8)] [] [])) (ob := [tN (0 ≤ a1), (Nat.blt 8 21, true), (a0 == Int.ofNat 8, true), tN (a0 ≥ 21), tN (a0 < 0)]) (by kernel_rfl) (oN <| oB <| oK <| oN <| oN Ze)

theorem Zjo (a0 a1 a2 a3 : Int) (g11 : a0 = 9) (g12 : 0 ≤ a1) (g13 : a1 ≤ 7) (g14 : 0 ≤ a2) (g15 : a2 ≤ 512) (g16 : 0 ≤ a3) (g17 : a3 ≤ 0) : Zi a0 a1 a2 a3 (.r0 (0) : Zc) := ZU (orc := (Zk [(0, false), (1, false), (5, true), (6, true), (13, true), (14, true), (23, true), (24, true)] [] [(0, 9)] [] [])) (ob := [tY (a3 ≤ 0), tY (0 ≤ a3), tY (a2 ≤ 512), tY (0 ≤ a2), tY (a1 ≤ 7), tY (0 ≤ a1), (Nat.blt 9 21, true), (a0 == Int.ofNat 9, true), tN (a0 ≥ 21), tN (a0 < 0)]) (by kernel_rfl) (oY <| oY <| oY <| oY <| oY <| oY <| oB <| oK <| oN <| oN Ze)

theorem Zjp (a0 a1 a2 a3 : Int) (g11 : a0 = 9) (g12 : 0 ≤ a1) (g13 : a1 ≤ 7) (g14 : 0 ≤ a2) (g15 : a2 ≤ 512) (g16 : 0 ≤ a3) (g17 : ¬ (a3 ≤ 0)) : Zi a0 a1 a2 a3 (.r0 (100) : Zc) := Zj (orc := (Zk [(0, false), (1, false), (5, true), (6, true), (13, true), (14, true), (23, true), (24, false)] [] [(0, 9)] [] [])) (ob := [tN (a3 ≤ 0), tY (0 ≤ a3), tY (a2 ≤ 512), tY (0 ≤ a2), tY (a1 ≤ 7), tY (0 ≤ a1), (Nat.blt 9 21, true), (a0 == Int.ofNat 9, true), tN (a0 ≥ 21), tN (a0 < 0)]) (by kernel_rfl) (oN <| oY <| oY <| oY <| oY <| oY <| oB <| oK <| oN <| oN Ze)

theorem Zjq (a0 a1 a2 a3 : Int) (g11 : a0 = 9) (g12 : 0 ≤ a1) (g13 : a1 ≤ 7) (g14 : 0 ≤ a2) (g15 : a2 ≤ 512) (g16 : ¬ (0 ≤ a3)) : Zi a0 a1 a2 a3 (.r0 (100) : Zc) := Zj (orc := (Zk [(0, false), (1, false), (5, true), (6, true), (13, true), (14, true), (23, false)] [] [(0, 9)] [] [])) (ob := [tN (0 ≤ a3), tY (a2 ≤ 512), tY (0 ≤ a2), tY (a1 ≤ 7), tY (0 ≤ a1), (Nat.blt 9 21, true), (a0 == Int.ofNat 9, true), tN (a0 ≥ 21), tN (a0 < 0)]) (by kernel_rfl) (oN <| oY <| oY <| oY <| oY <| oB <| oK <| oN <| oN Ze)

theorem Zjr (a0 a1 a2 a3 : Int) (g11 : a0 = 9) (g12 : 0 ≤ a1) (g13 : a1 ≤ 7) (g14 : 0 ≤ a2) (g15 : ¬ (a2 ≤ 512)) : Zi a0 a1 a2 a3 (.r0 (100) : Zc) := Zj (orc := (Zk [(0, false), (1, false), (5, true), (6, true), (13, true), (14, false)] [] [(0, 9)] [] [])) (ob := [tN (a2 ≤ 512), tY (0 ≤ a2), tY (a1 ≤ 7), tY (0 ≤ a1), (Nat.blt 9 21, true), (a0 == Int.ofNat 9, true), tN (a0 ≥ 21), tN (a0 < 0)]) (by kernel_rfl) (oN <| oY <| oY <| oY <| oB <| oK <| oN <| oN Ze)

theorem Zjs (a0 a1 a2 a3 : Int) (g11 : a0 = 9) (g12 : 0 ≤ a1) (g13 : a1 ≤ 7) (g14 : ¬ (0 ≤ a2)) : Zi a0 a1 a2 a3 (.r0 (100) : Zc) := Zj (orc := (Zk [(0, false), (1, false), (5, true), (6, true), (13, false)] [] [(0, 9)] [] [])) (ob := [tN (0 ≤ a2), tY (a1 ≤ 7), tY (0 ≤ a1), (Nat.blt 9 21, true), (a0 == Int.ofNat 9, true), tN (a0 ≥ 21), tN (a0 < 0)]) (by kernel_rfl) (oN <| oY <| oY <| oB <| oK <| oN <| oN Ze)

theorem Zjt (a0 a1 a2 a3 : Int) (g11 : a0 = 9) (g12 : 0 ≤ a1) (g13 : ¬ (a1 ≤ 7)) : Zi a0 a1 a2 a3 (.r0 (100) : Zc) := Zj (orc := (Zk [(0, false), (1, false), (5, true), (6, false)] [] [(0, 9)] [] [])) (ob := [tN (a1 ≤ 7), tY (0 ≤ a1), (Nat.blt 9 21, true), (a0 == Int.ofNat 9, true), tN (a0 ≥ 21), tN (a0 < 0)]) (by kernel_rfl) (oN <| oY <| oB <| oK <| oN <| oN Ze)

theorem Zju (a0 a1 a2 a3 : Int) (g11 : a0 = 9) (g12 : ¬ (0 ≤ a1)) : Zi a0 a1 a2 a3 (.r0 (100) : Zc) := Zj (orc := (Zk [(0, false), (1, false), (5, false)] [] [(0, 9)] [] [])) (ob := [tN (0 ≤ a1), (Nat.blt 9 21, true), (a0 == Int.ofNat 9, true), tN (a0 ≥ 21), tN (a0 < 0)]) (by kernel_rfl) (oN <| oB <| oK <| oN <| oN Ze)

theorem Zjv (a0 a1 a2 a3 : Int) (g12 : a0 = 10) (g13 : 0 ≤ a1) (g14 : a1 ≤ 7) (g15 : 0 ≤ a2) (g16 : a2 ≤ 0) (g17 : 0 ≤ a3) (g18 : a3 ≤ 0) : Zi a0 a1 a2 a3 (.r0 (0) : Zc) := ZU (orc := (Zk [(0, false), (1, false), (5, true), (6, true), (15, true), (16, true), (25, true), (26, true)] [] [(0, 10)] [] [])) (ob := [tY (a3 ≤ 0), tY (0 ≤ a3), tY (a2 ≤ 0), tY (0 ≤ a2), tY (a1 ≤ 7), tY (0 ≤ a1), (Nat.blt 10 21, true), (a0 == Int.ofNat 10, true), tN (a0 ≥ 21), tN (a0 < 0)]) (by kernel_rfl) (oY <| oY <| oY <| oY <| oY <| oY <| oB <| oK <| oN <| oN Ze)

theorem Zjw (a0 a1 a2 a3 : Int) (g12 : a0 = 10) (g13 : 0 ≤ a1) (g14 : a1 ≤ 7) (g15 : 0 ≤ a2) (g16 : a2 ≤ 0) (g17 : 0 ≤ a3) (g18 : ¬ (a3 ≤ 0)) : Zi a0 a1 a2 a3 (.r0 (100) : Zc) := Zj (orc := (Zk [(0, false), (1, false), (5, true), (6, true), (15, true), (16, true), (25, true), (26, false)] [] [(0, 10)] [] [])) (ob := [tN (a3 ≤ 0), tY (0 ≤ a3), tY (a2 ≤ 0), tY (0 ≤ a2), tY (a1 ≤ 7), tY (0 ≤ a1), (Nat.blt 10 21, true), (a0 == Int.ofNat 10, true), tN (a0 ≥ 21), tN (a0 < 0)]) (by kernel_rfl) (oN <| oY <| oY <| oY <| oY <| oY <| oB <| oK <| oN <| oN Ze)

theorem Zjx (a0 a1 a2 a3 : Int) (g12 : a0 = 10) (g13 : 0 ≤ a1) (g14 : a1 ≤ 7) (g15 : 0 ≤ a2) (g16 : a2 ≤ 0) (g17 : ¬ (0 ≤ a3)) : Zi a0 a1 a2 a3 (.r0 (100) : Zc) := Zj (orc := (Zk [(0, false), (1, false), (5, true), (6, true), (15, true), (16, true), (25, false)] [] [(0, 10)] [] [])) (ob := [tN (0 ≤ a3), tY (a2 ≤ 0), tY (0 ≤ a2), tY (a1 ≤ 7), tY (0 ≤ a1), (Nat.blt 10 21, true), (a0 == Int.ofNat 10, true), tN (a0 ≥ 21), tN (a0 < 0)]) (by kernel_rfl) (oN <| oY <| oY <| oY <| oY <| oB <| oK <| oN <| oN Ze)

theorem Zjy (a0 a1 a2 a3 : Int) (g12 : a0 = 10) (g13 : 0 ≤ a1) (g14 : a1 ≤ 7) (g15 : 0 ≤ a2) (g16 : ¬ (a2 ≤ 0)) : Zi a0 a1 a2 a3 (.r0 (100) : Zc) := Zj (orc := (Zk [(0, false), (1, false), (5, true), (6, true), (15, true), (16, false)] [] [(0, 10)] [] [])) (ob := [tN (a2 ≤ 0), tY (0 ≤ a2), tY (a1 ≤ 7), tY (0 ≤ a1), (Nat.blt 10 21, true), (a0 == Int.ofNat 10, true), tN (a0 ≥ 21), tN (a0 < 0)]) (by kernel_rfl) (oN <| oY <| oY <| oY <| oB <| oK <| oN <| oN Ze)

theorem Zjz (a0 a1 a2 a3 : Int) (g12 : a0 = 10) (g13 : 0 ≤ a1) (g14 : a1 ≤ 7) (g15 : ¬ (0 ≤ a2)) : Zi a0 a1 a2 a3 (.r0 (100) : Zc) := Zj (orc := (Zk [(0, false), (1, false), (5, true), (6, true), (15, false)] [] [(0, 10)] [] [])) (ob := [tN (0 ≤ a2), tY (a1 ≤ 7), tY (0 ≤ a1), (Nat.blt 10 21, true), (a0 == Int.ofNat 10, true), tN (a0 ≥ 21), tN (a0 < 0)]) (by kernel_rfl) (oN <| oY <| oY <| oB <| oK <| oN <| oN Ze)

theorem Zj0 (a0 a1 a2 a3 : Int) (g12 : a0 = 10) (g13 : 0 ≤ a1) (g14 : ¬ (a1 ≤ 7)) : Zi a0 a1 a2 a3 (.r0 (100) : Zc) := Zj (orc := (Zk [(0, false), (1, false), (5, true), (6, false)] [] [(0, 10)] [] [])) (ob := [tN (a1 ≤ 7), tY (0 ≤ a1), (Nat.blt 10 21, true), (a0 == Int.ofNat 10, true), tN (a0 ≥ 21), tN (a0 < 0)]) (by kernel_rfl) (oN <| oY <| oB <| oK <| oN <| oN Ze)

theorem Zj1 (a0 a1 a2 a3 : Int) (g12 : a0 = 10) (g13 : ¬ (0 ≤ a1)) : Zi a0 a1 a2 a3 (.r0 (100) : Zc) := Zj (orc := (Zk [(0, false), (1, false), (5, false)] [] [(0, 10)] [] [])) (ob := [tN (0 ≤ a1), (Nat.blt 10 21, true), (a0 == Int.ofNat 10, true), tN (a0 ≥ 21), tN (a0 < 0)]) (by kernel_rfl) (oN <| oB <| oK <| oN <| oN Ze)

theorem Zj2 (a0 a1 a2 a3 : Int) (g13 : a0 = 11) (g14 : 0 ≤ a1) (g15 : a1 ≤ 7) (g16 : 1 ≤ a2) (g17 : a2 ≤ 16) (g18 : 0 ≤ a3) (g19 : a3 ≤ (IntKind.i64.wrap ((IntKind.i64.wrap (1 * (2 ^ (a2).toNat : Int))) - 1))) : Zi a0 a1 a2 a3 (.r0 (0) : Zc) := ZU (orc := (Zk [(0, false), (1, false), (5, true), (6, true), (12, true), (13, true), (21, true), (22, true)] [] [(0, 11)] [] [(4, .sh (a2).toNat)])) (ob := [tY (a3 ≤ (IntKind.i64.wrap ((IntKind.i64.wrap (1 * (2 ^ (a2).toNat : Int))) - 1))), tY (0 ≤ a3), (dP (a2 = Int.ofNat (a2).toNat ∧ (a2).toNat ≤ IntKind.i64.bits), true), tY (a2 ≤ 16), tY (1 ≤ a2), tY (a1 ≤ 7), tY (0 ≤ a1), (Nat.blt 11 21, true), (a0 == Int.ofNat 11, true), tN (a0 ≥ 21), tN (a0 < 0)]) (by kernel_rfl) (oY <| oY <| Zb (Zg ⟨by first | rfl | exact Zf4 (by omega), show _ ≤ 64 from by omega⟩) <| oY <| oY <| oY <| oY <| oB <| oK <| oN <| oN Ze)

theorem Zj3 (a0 a1 a2 a3 : Int) (g13 : a0 = 11) (g14 : 0 ≤ a1) (g15 : a1 ≤ 7) (g16 : 1 ≤ a2) (g17 : a2 ≤ 16) (g18 : 0 ≤ a3) (g19 : ¬ (a3 ≤ (IntKind.i64.wrap ((IntKind.i64.wrap (1 * (2 ^ (a2).toNat : Int))) - 1)))) : Zi a0 a1 a2 a3 (.r0 (100) : Zc) := Zj (orc := (Zk [(0, false), (1, false), (5, true), (6, true), (12, true), (13, true), (21, true), (22, false)] [] [(0, 11)] [] [(4, .sh (a2).toNat)])) (ob := [tN (a3 ≤ (IntKind.i64.wrap ((IntKind.i64.wrap (1 * (2 ^ (a2).toNat : Int))) - 1))), tY (0 ≤ a3), (dP (a2 = Int.ofNat (a2).toNat ∧ (a2).toNat ≤ IntKind.i64.bits), true), tY (a2 ≤ 16), tY (1 ≤ a2), tY (a1 ≤ 7), tY (0 ≤ a1), (Nat.blt 11 21, true), (a0 == Int.ofNat 11, true), tN (a0 ≥ 21), tN (a0 < 0)]) (by kernel_rfl) (oN <| oY <| Zb (Zg ⟨by first | rfl | exact Zf4 (by omega), show _ ≤ 64 from by omega⟩) <| oY <| oY <| oY <| oY <| oB <| oK <| oN <| oN Ze)

theorem Zj4 (a0 a1 a2 a3 : Int) (g13 : a0 = 11) (g14 : 0 ≤ a1) (g15 : a1 ≤ 7) (g16 : 1 ≤ a2) (g17 : a2 ≤ 16) (g18 : ¬ (0 ≤ a3)) : Zi a0 a1 a2 a3 (.r0 (100) : Zc) := Zj (orc := (Zk [(0, false), (1, false), (5, true), (6, true), (12, true), (13, true), (21, false)] [] [(0, 11)] [] [(4, .sh (a2).toNat)])) (ob := [tN (0 ≤ a3), (dP (a2 = Int.ofNat (a2).toNat ∧ (a2).toNat ≤ IntKind.i64.bits), true), tY (a2 ≤ 16), tY (1 ≤ a2), tY (a1 ≤ 7), tY (0 ≤ a1), (Nat.blt 11 21, true), (a0 == Int.ofNat 11, true), tN (a0 ≥ 21), tN (a0 < 0)]) (by kernel_rfl) (oN <| Zb (Zg ⟨by first | rfl | exact Zf4 (by omega), show _ ≤ 64 from by omega⟩) <| oY <| oY <| oY <| oY <| oB <| oK <| oN <| oN Ze)

theorem Zj5 (a0 a1 a2 a3 : Int) (g13 : a0 = 11) (g14 : 0 ≤ a1) (g15 : a1 ≤ 7) (g16 : 1 ≤ a2) (g17 : ¬ (a2 ≤ 16)) : Zi a0 a1 a2 a3 (.r0 (100) : Zc) := Zj (orc := (Zk [(0, false), (1, false), (5, true), (6, true), (12, true), (13, false)] [] [(0, 11)] [] [])) (ob := [tN (a2 ≤ 16), tY (1 ≤ a2), tY (a1 ≤ 7), tY (0 ≤ a1), (Nat.blt 11 21, true), (a0 == Int.ofNat 11, true), tN (a0 ≥ 21), tN (a0 < 0)]) (by kernel_rfl) (oN <| oY <| oY <| oY <| oB <| oK <| oN <| oN Ze)

theorem Zj6 (a0 a1 a2 a3 : Int) (g13 : a0 = 11) (g14 : 0 ≤ a1) (g15 : a1 ≤ 7) (g16 : ¬ (1 ≤ a2)) : Zi a0 a1 a2 a3 (.r0 (100) : Zc) := Zj (orc := (Zk [(0, false), (1, false), (5, true), (6, true), (12, false)] [] [(0, 11)] [] [])) (ob := [tN (1 ≤ a2), tY (a1 ≤ 7), tY (0 ≤ a1), (Nat.blt 11 21, true), (a0 == Int.ofNat 11, true), tN (a0 ≥ 21), tN (a0 < 0)]) (by kernel_rfl) (oN <| oY <| oY <| oB <| oK <| oN <| oN Ze)

theorem Zj7 (a0 a1 a2 a3 : Int) (g13 : a0 = 11) (g14 : 0 ≤ a1) (g15 : ¬ (a1 ≤ 7)) : Zi a0 a1 a2 a3 (.r0 (100) : Zc) := Zj (orc := (Zk [(0, false), (1, false), (5, true), (6, false)] [] [(0, 11)] [] [])) (ob := [tN (a1 ≤ 7), tY (0 ≤ a1), (Nat.blt 11 21, true), (a0 == Int.ofNat 11, true), tN (a0 ≥ 21), tN (a0 < 0)]) (by kernel_rfl) (oN <| oY <| oB <| oK <| oN <| oN Ze)

theorem Zj8 (a0 a1 a2 a3 : Int) (g13 : a0 = 11) (g14 : ¬ (0 ≤ a1)) : Zi a0 a1 a2 a3 (.r0 (100) : Zc) := Zj (orc := (Zk [(0, false), (1, false), (5, false)] [] [(0, 11)] [] [])) (ob := [tN (0 ≤ a1), (Nat.blt 11 21, true), (a0 == Int.ofNat 11, true), tN (a0 ≥ 21), tN (a0 < 0)]) (by kernel_rfl) (oN <| oB <| oK <| oN <| oN Ze)

theorem Zj9 (a0 a1 a2 a3 : Int) (g14 : a0 = 12) (g15 : 0 ≤ a1) (g16 : a1 ≤ 7) (g17 : 0 ≤ a2) (g18 : a2 ≤ 0) (g19 : 0 ≤ a3) (g20 : a3 ≤ 0) : Zi a0 a1 a2 a3 (.r0 (0) : Zc) := ZU (orc := (Zk [(0, false), (1, false), (5, true), (6, true), (15, true), (16, true), (25, true), (26, true)] [] [(0, 12)] [] [])) (ob := [tY (a3 ≤ 0), tY (0 ≤ a3), tY (a2 ≤ 0), tY (0 ≤ a2), tY (a1 ≤ 7), tY (0 ≤ a1), (Nat.blt 12 21, true), (a0 == Int.ofNat 12, true), tN (a0 ≥ 21), tN (a0 < 0)]) (by kernel_rfl) (oY <| oY <| oY <| oY <| oY <| oY <| oB <| oK <| oN <| oN Ze)

theorem ZjA (a0 a1 a2 a3 : Int) (g14 : a0 = 12) (g15 : 0 ≤ a1) (g16 : a1 ≤ 7) (g17 : 0 ≤ a2) (g18 : a2 ≤ 0) (g19 : 0 ≤ a3) (g20 : ¬ (a3 ≤ 0)) : Zi a0 a1 a2 a3 (.r0 (100) : Zc) := Zj (orc := (Zk [(0, false), (1, false), (5, true), (6, true), (15, true), (16, true), (25, true), (26, false)] [] [(0, 12)] [] [])) (ob := [tN (a3 ≤ 0), tY (0 ≤ a3), tY (a2 ≤ 0), tY (0 ≤ a2), tY (a1 ≤ 7), tY (0 ≤ a1), (Nat.blt 12 21, true), (a0 == Int.ofNat 12, true), tN (a0 ≥ 21), tN (a0 < 0)]) (by kernel_rfl) (oN <| oY <| oY <| oY <| oY <| oY <| oB <| oK <| oN <| oN Ze)

theorem ZjB (a0 a1 a2 a3 : Int) (g14 : a0 = 12) (g15 : 0 ≤ a1) (g16 : a1 ≤ 7) (g17 : 0 ≤ a2) (g18 : a2 ≤ 0) (g19 : ¬ (0 ≤ a3)) : Zi a0 a1 a2 a3 (.r0 (100) : Zc) := Zj (orc := (Zk [(0, false), (1, false), (5, true), (6, true), (15, true), (16, true), (25, false)] [] [(0, 12)] [] [])) (ob := [tN (0 ≤ a3), tY (a2 ≤ 0), tY (0 ≤ a2), tY (a1 ≤ 7), tY (0 ≤ a1), (Nat.blt 12 21, true), (a0 == Int.ofNat 12, true), tN (a0 ≥ 21), tN (a0 < 0)]) (by kernel_rfl) (oN <| oY <| oY <| oY <| oY <| oB <| oK <| oN <| oN Ze)

theorem ZjC (a0 a1 a2 a3 : Int) (g14 : a0 = 12) (g15 : 0 ≤ a1) (g16 : a1 ≤ 7) (g17 : 0 ≤ a2) (g18 : ¬ (a2 ≤ 0)) : Zi a0 a1 a2 a3 (.r0 (100) : Zc) := Zj (orc := (Zk [(0, false), (1, false), (5, true), (6, true), (15, true), (16, false)] [] [(0, 12)] [] [])) (ob := [tN (a2 ≤ 0), tY (0 ≤ a2), tY (a1 ≤ 7), tY (0 ≤ a1), (Nat.blt 12 21, true), (a0 == Int.ofNat 12, true), tN (a0 ≥ 21), tN (a0 < 0)]) (by kernel_rfl) (oN <| oY <| oY <| oY <| oB <| oK <| oN <| oN Ze)

theorem ZjD (a0 a1 a2 a3 : Int) (g14 : a0 = 12) (g15 : 0 ≤ a1) (g16 : a1 ≤ 7) (g17 : ¬ (0 ≤ a2)) : Zi a0 a1 a2 a3 (.r0 (100) : Zc) := Zj (orc := (Zk [(0, false), (1, false), (5, true), (6, true), (15, false)] [] [(0, 12)] [] [])) (ob := [tN (0 ≤ a2), tY (a1 ≤ 7), tY (0 ≤ a1), (Nat.blt 12 21, true), (a0 == Int.ofNat 12, true), tN (a0 ≥ 21), tN (a0 < 0)]) (by kernel_rfl) (oN <| oY <| oY <| oB <| oK <| oN <| oN Ze)

theorem ZjE (a0 a1 a2 a3 : Int) (g14 : a0 = 12) (g15 : 0 ≤ a1) (g16 : ¬ (a1 ≤ 7)) : Zi a0 a1 a2 a3 (.r0 (100) : Zc) := Zj (orc := (Zk [(0, false), (1, false), (5, true), (6, false)] [] [(0, 12)] [] [])) (ob := [tN (a1 ≤ 7), tY (0 ≤ a1), (Nat.blt 12 21, true), (a0 == Int.ofNat 12, true), tN (a0 ≥ 21), tN (a0 < 0)]) (by kernel_rfl) (oN <| oY <| oB <| oK <| oN <| oN Ze)

theorem ZjF (a0 a1 a2 a3 : Int) (g14 : a0 = 12) (g15 : ¬ (0 ≤ a1)) : Zi a0 a1 a2 a3 (.r0 (100) : Zc) := Zj (orc := (Zk [(0, false), (1, false), (5, false)] [] [(0, 12)] [] [])) (ob := [tN (0 ≤ a1), (Nat.blt 12 21, true), (a0 == Int.ofNat 12, true), tN (a0 ≥ 21), tN (a0 < 0)]) (by kernel_rfl) (oN <| oB <| oK <| oN <| oN Ze)

theorem ZjG (a0 a1 a2 a3 : Int) (g15 : a0 = 13) (g16 : 0 ≤ a1) (g17 : a1 ≤ 7) (g18 : 0 ≤ a2) (g19 : a2 ≤ 7) (g20 : 0 ≤ a3) (g21 : a3 ≤ 15) : Zi a0 a1 a2 a3 (.r0 (0) : Zc) := ZU (orc := (Zk [(0, false), (1, false), (5, true), (6, true), (10, true), (11, true), (16, true), (17, true)] [] [(0, 13)] [] [])) (ob := [tY (a3 ≤ 15), tY (0 ≤ a3), tY (a2 ≤ 7), tY (0 ≤ a2), tY (a1 ≤ 7), tY (0 ≤ a1), (Nat.blt 13 21, true), (a0 == Int.ofNat 13, true), tN (a0 ≥ 21), tN (a0 < 0)]) (by kernel_rfl) (oY <| oY <| oY <| oY <| oY <| oY <| oB <| oK <| oN <| oN Ze)

theorem ZjH (a0 a1 a2 a3 : Int) (g15 : a0 = 13) (g16 : 0 ≤ a1) (g17 : a1 ≤ 7) (g18 : 0 ≤ a2) (g19 : a2 ≤ 7) (g20 : 0 ≤ a3) (g21 : ¬ (a3 ≤ 15)) : Zi a0 a1 a2 a3 (.r0 (100) : Zc) := Zj (orc := (Zk [(0, false), (1, false), (5, true), (6, true), (10, true), (11, true), (16, true), (17, false)] [] [(0, 13)] [] [])) (ob := [tN (a3 ≤ 15), tY (0 ≤ a3), tY (a2 ≤ 7), tY (0 ≤ a2), tY (a1 ≤ 7), tY (0 ≤ a1), (Nat.blt 13 21, true), (a0 == Int.ofNat 13, true), tN (a0 ≥ 21), tN (a0 < 0)]) (by kernel_rfl) (oN <| oY <| oY <| oY <| oY <| oY <| oB <| oK <| oN <| oN Ze)

theorem ZjI (a0 a1 a2 a3 : Int) (g15 : a0 = 13) (g16 : 0 ≤ a1) (g17 : a1 ≤ 7) (g18 : 0 ≤ a2) (g19 : a2 ≤ 7) (g20 : ¬ (0 ≤ a3)) : Zi a0 a1 a2 a3 (.r0 (100) : Zc) := Zj (orc := (Zk [(0, false), (1, false), (5, true), (6, true), (10, true), (11, true), (16, false)] [] [(0, 13)] [] [])) (ob := [tN (0 ≤ a3), tY (a2 ≤ 7), tY (0 ≤ a2), tY (a1 ≤ 7), tY (0 ≤ a1), (Nat.blt 13 21, true), (a0 == Int.ofNat 13, true), tN (a0 ≥ 21), tN (a0 < 0)]) (by kernel_rfl) (oN <| oY <| oY <| oY <| oY <| oB <| oK <| oN <| oN Ze)

theorem ZjJ (a0 a1 a2 a3 : Int) (g15 : a0 = 13) (g16 : 0 ≤ a1) (g17 : a1 ≤ 7) (g18 : 0 ≤ a2) (g19 : ¬ (a2 ≤ 7)) : Zi a0 a1 a2 a3 (.r0 (100) : Zc) := Zj (orc := (Zk [(0, false), (1, false), (5, true), (6, true), (10, true), (11, false)] [] [(0, 13)] [] [])) (ob := [tN (a2 ≤ 7), tY (0 ≤ a2), tY (a1 ≤ 7), tY (0 ≤ a1), (Nat.blt 13 21, true), (a0 == Int.ofNat 13, true), tN (a0 ≥ 21), tN (a0 < 0)]) (by kernel_rfl) (oN <| oY <| oY <| oY <| oB <| oK <| oN <| oN Ze)

theorem ZjK (a0 a1 a2 a3 : Int) (g15 : a0 = 13) (g16 : 0 ≤ a1) (g17 : a1 ≤ 7) (g18 : ¬ (0 ≤ a2)) : Zi a0 a1 a2 a3 (.r0 (100) : Zc) := Zj (orc := (Zk [(0, false), (1, false), (5, true), (6, true), (10, false)] [] [(0, 13)] [] [])) (ob := [tN (0 ≤ a2), tY (a1 ≤ 7), tY (0 ≤ a1), (Nat.blt 13 21, true), (a0 == Int.ofNat 13, true), tN (a0 ≥ 21), tN (a0 < 0)]) (by kernel_rfl) (oN <| oY <| oY <| oB <| oK <| oN <| oN Ze)

theorem ZjL (a0 a1 a2 a3 : Int) (g15 : a0 = 13) (g16 : 0 ≤ a1) (g17 : ¬ (a1 ≤ 7)) : Zi a0 a1 a2 a3 (.r0 (100) : Zc) := Zj (orc := (Zk [(0, false), (1, false), (5, true), (6, false)] [] [(0, 13)] [] [])) (ob := [tN (a1 ≤ 7), tY (0 ≤ a1), (Nat.blt 13 21, true), (a0 == Int.ofNat 13, true), tN (a0 ≥ 21), tN (a0 < 0)]) (by kernel_rfl) (oN <| oY <| oB <| oK <| oN <| oN Ze)

theorem ZjM (a0 a1 a2 a3 : Int) (g15 : a0 = 13) (g16 : ¬ (0 ≤ a1)) : Zi a0 a1 a2 a3 (.r0 (100) : Zc) := Zj (orc := (Zk [(0, false), (1, false), (5, false)] [] [(0, 13)] [] [])) (ob := [tN (0 ≤ a1), (Nat.blt 13 21, true), (a0 == Int.ofNat 13, true), tN (a0 ≥ 21), tN (a0 < 0)]) (by kernel_rfl) (oN <| oB <| oK <| oN <| oN Ze)

theorem ZjN (a0 a1 a2 a3 : Int) (g16 : a0 = 14) (g17 : 0 ≤ a1) (g18 : a1 ≤ 7) (g19 : 0 ≤ a2) (g20 : a2 ≤ 15) (g21 : 0 ≤ a3) (g22 : a3 ≤ 7) : Zi a0 a1 a2 a3 (.r0 (0) : Zc) := ZU (orc := (Zk [(0, false), (1, false), (5, true), (6, true), (11, true), (12, true), (16, true), (17, true)] [] [(0, 14)] [] [])) (ob := [tY (a3 ≤ 7), tY (0 ≤ a3), tY (a2 ≤ 15), tY (0 ≤ a2), tY (a1 ≤ 7), tY (0 ≤ a1), (Nat.blt 14 21, true), (a0 == Int.ofNat 14, true), tN (a0 ≥ 21), tN (a0 < 0)]) (by kernel_rfl) (oY <| oY <| oY <| oY <| oY <| oY <| oB <| oK <| oN <| oN Ze)

theorem ZjO (a0 a1 a2 a3 : Int) (g16 : a0 = 14) (g17 : 0 ≤ a1) (g18 : a1 ≤ 7) (g19 : 0 ≤ a2) (g20 : a2 ≤ 15) (g21 : 0 ≤ a3) (g22 : ¬ (a3 ≤ 7)) : Zi a0 a1 a2 a3 (.r0 (100) : Zc) := Zj (orc := (Zk [(0, false), (1, false), (5, true), (6, true), (11, true), (12, true), (16, true), (17, false)] [] [(0, 14)] [] [])) (ob := [tN (a3 ≤ 7), tY (0 ≤ a3), tY (a2 ≤ 15), tY (0 ≤ a2), tY (a1 ≤ 7), tY (0 ≤ a1), (Nat.blt 14 21, true), (a0 == Int.ofNat 14, true), tN (a0 ≥ 21), tN (a0 < 0)]) (by kernel_rfl) (oN <| oY <| oY <| oY <| oY <| oY <| oB <| oK <| oN <| oN Ze)

theorem ZjP (a0 a1 a2 a3 : Int) (g16 : a0 = 14) (g17 : 0 ≤ a1) (g18 : a1 ≤ 7) (g19 : 0 ≤ a2) (g20 : a2 ≤ 15) (g21 : ¬ (0 ≤ a3)) : Zi a0 a1 a2 a3 (.r0 (100) : Zc) := Zj (orc := (Zk [(0, false), (1, false), (5, true), (6, true), (11, true), (12, true), (16, false)] [] [(0, 14)] [] [])) (ob := [tN (0 ≤ a3), tY (a2 ≤ 15), tY (0 ≤ a2), tY (a1 ≤ 7), tY (0 ≤ a1), (Nat.blt 14 21, true), (a0 == Int.ofNat 14, true), tN (a0 ≥ 21), tN (a0 < 0)]) (by kernel_rfl) (oN <| oY <| oY <| oY <| oY <| oB <| oK <| oN <| oN Ze)

theorem Zhf (a0 a1 a2 a3 : Int) (g16 : a0 = 14) (g17 : 0 ≤ a1) (g18 : a1 ≤ 7) (g19 : 0 ≤ a2) (g20 : ¬ (a2 ≤ 15)) : Zi a0 a1 a2 a3 (.r0 (100) : Zc) := Zj (orc := (Zk [(0, false), (1, false), (5, true), (6, true), (11, true), (12, false)] [] [(0, 14)] [] [])) (ob := [tN (a2 ≤ 15), tY (0 ≤ a2), tY (a1 ≤ 7), tY (0 ≤ a1), (Nat.blt 14 21, true), (a0 == Int.ofNat 14, true), tN (a0 ≥ 21), tN (a0 < 0)]) (by kernel_rfl) (oN <| oY <| oY <| oY <| oB <| oK <| oN <| oN Ze)

theorem Zhg (a0 a1 a2 a3 : Int) (g16 : a0 = 14) (g17 : 0 ≤ a1) (g18 : a1 ≤ 7) (g19 : ¬ (0 ≤ a2)) : Zi a0 a1 a2 a3 (.r0 (100) : Zc) := Zj (orc := (Zk [(0, false), (1, false), (5, true), (6, true), (11, false)] [] [(0, 14)] [] [])) (ob := [tN (0 ≤ a2), tY (a1 ≤ 7), tY (0 ≤ a1), (Nat.blt 14 21, true), (a0 == Int.ofNat 14, true), tN (a0 ≥ 21), tN (a0 < 0)]) (by kernel_rfl) (oN <| oY <| oY <| oB <| oK <| oN <| oN Ze)

theorem Zhh (a0 a1 a2 a3 : Int) (g16 : a0 = 14) (g17 : 0 ≤ a1) (g18 : ¬ (a1 ≤ 7)) : Zi a0 a1 a2 a3 (.r0 (100) : Zc) := Zj (orc := (Zk [(0, false), (1, false), (5, true), (6, false)] [] [(0, 14)] [] [])) (ob := [tN (a1 ≤ 7), tY (0 ≤ a1), (Nat.blt 14 21, true), (a0 == Int.ofNat 14, true), tN (a0 ≥ 21), tN (a0 < 0)]) (by kernel_rfl) (oN <| oY <| oB <| oK <| oN <| oN Ze)

theorem Zhi (a0 a1 a2 a3 : Int) (g16 : a0 = 14) (g17 : ¬ (0 ≤ a1)) : Zi a0 a1 a2 a3 (.r0 (100) : Zc) := Zj (orc := (Zk [(0, false), (1, false), (5, false)] [] [(0, 14)] [] [])) (ob := [tN (0 ≤ a1), (Nat.blt 14 21, true), (a0 == Int.ofNat 14, true), tN (a0 ≥ 21), tN (a0 < 0)]) (by kernel_rfl) (oN <| oB <| oK <| oN <| oN Ze)

theorem Zhj (a0 a1 a2 a3 : Int) (g17 : a0 = 15) (g18 : 0 ≤ a1) (g19 : a1 ≤ 0) (g20 : 0 ≤ a2) (g21 : a2 ≤ 0) (g22 : 0 ≤ a3) (g23 : a3 ≤ 0) : Zi a0 a1 a2 a3 (.r0 (0) : Zc) := ZU (orc := (Zk [(0, false), (1, false), (10, true), (11, true), (20, true), (21, true), (30, true), (31, true)] [] [(0, 15)] [] [])) (ob := [tY (a3 ≤ 0), tY (0 ≤ a3), tY (a2 ≤ 0), tY (0 ≤ a2), tY (a1 ≤ 0), tY (0 ≤ a1), (Nat.blt 15 21, true), (a0 == Int.ofNat 15, true), tN (a0 ≥ 21), tN (a0 < 0)]) (by kernel_rfl) (oY <| oY <| oY <| oY <| oY <| oY <| oB <| oK <| oN <| oN Ze)

theorem Zhk (a0 a1 a2 a3 : Int) (g17 : a0 = 15) (g18 : 0 ≤ a1) (g19 : a1 ≤ 0) (g20 : 0 ≤ a2) (g21 : a2 ≤ 0) (g22 : 0 ≤ a3) (g23 : ¬ (a3 ≤ 0)) : Zi a0 a1 a2 a3 (.r0 (100) : Zc) := Zj (orc := (Zk [(0, false), (1, false), (10, true), (11, true), (20, true), (21, true), (30, true), (31, false)] [] [(0, 15)] [] [])) (ob := [tN (a3 ≤ 0), tY (0 ≤ a3), tY (a2 ≤ 0), tY (0 ≤ a2), tY (a1 ≤ 0), tY (0 ≤ a1), (Nat.blt 15 21, true), (a0 == Int.ofNat 15, true), tN (a0 ≥ 21), tN (a0 < 0)]) (by kernel_rfl) (oN <| oY <| oY <| oY <| oY <| oY <| oB <| oK <| oN <| oN Ze)

theorem Zhl (a0 a1 a2 a3 : Int) (g17 : a0 = 15) (g18 : 0 ≤ a1) (g19 : a1 ≤ 0) (g20 : 0 ≤ a2) (g21 : a2 ≤ 0) (g22 : ¬ (0 ≤ a3)) : Zi a0 a1 a2 a3 (.r0 (100) : Zc) := Zj (orc := (Zk [(0, false), (1, false), (10, true), (11, true), (20, true), (21, true), (30, false)] [] [(0, 15)] [] [])) (ob := [tN (0 ≤ a3), tY (a2 ≤ 0), tY (0 ≤ a2), tY (a1 ≤ 0), tY (0 ≤ a1), (Nat.blt 15 21, true), (a0 == Int.ofNat 15, true), tN (a0 ≥ 21), tN (a0 < 0)]) (by kernel_rfl) (oN <| oY <| oY <| oY <| oY <| oB <| oK <| oN <| oN Ze)

theorem Zhm (a0 a1 a2 a3 : Int) (g17 : a0 = 15) (g18 : 0 ≤ a1) (g19 : a1 ≤ 0) (g20 : 0 ≤ a2) (g21 : ¬ (a2 ≤ 0)) : Zi a0 a1 a2 a3 (.r0 (100) : Zc) := Zj (orc := (Zk [(0, false), (1, false), (10, true), (11, true), (20, true), (21, false)] [] [(0, 15)] [] [])) (ob := [tN (a2 ≤ 0), tY (0 ≤ a2), tY (a1 ≤ 0), tY (0 ≤ a1), (Nat.blt 15 21, true), (a0 == Int.ofNat 15, true), tN (a0 ≥ 21), tN (a0 < 0)]) (by kernel_rfl) (oN <| oY <| oY <| oY <| oB <| oK <| oN <| oN Ze)

theorem Zhn (a0 a1 a2 a3 : Int) (g17 : a0 = 15) (g18 : 0 ≤ a1) (g19 : a1 ≤ 0) (g20 : ¬ (0 ≤ a2)) : Zi a0 a1 a2 a3 (.r0 (100) : Zc) := Zj (orc := (Zk [(0, false), (1, false), (10, true), (11, true), (20, false)] [] [(0, 15)] [] [])) (ob := [tN (0 ≤ a2), tY (a1 ≤ 0), tY (0 ≤ a1), (Nat.blt 15 21, true), (a0 == Int.ofNat 15, true), tN (a0 ≥ 21), tN (a0 < 0)]) (by kernel_rfl) (oN <| oY <| oY <| oB <| oK <| oN <| oN Ze)

theorem Zho (a0 a1 a2 a3 : Int) (g17 : a0 = 15) (g18 : 0 ≤ a1) (g19 : ¬ (a1 ≤ 0)) : Zi a0 a1 a2 a3 (.r0 (100) : Zc) := Zj (orc := (Zk [(0, false), (1, false), (10, true), (11, false)] [] [(0, 15)] [] [])) (ob := [tN (a1 ≤ 0), tY (0 ≤ a1), (Nat.blt 15 21, true), (a0 == Int.ofNat 15, true), tN (a0 ≥ 21), tN (a0 < 0)]) (by kernel_rfl) (oN <| oY <| oB <| oK <| oN <| oN Ze)

theorem Zhp (a0 a1 a2 a3 : Int) (g17 : a0 = 15) (g18 : ¬ (0 ≤ a1)) : Zi a0 a1 a2 a3 (.r0 (100) : Zc) := Zj (orc := (Zk [(0, false), (1, false), (10, false)] [] [(0, 15)] [] [])) (ob := [tN (0 ≤ a1), (Nat.blt 15 21, true), (a0 == Int.ofNat 15, true), tN (a0 ≥ 21), tN (a0 < 0)]) (by kernel_rfl) (oN <| oB <| oK <| oN <| oN Ze)

theorem Zhq (a0 a1 a2 a3 : Int) (g18 : a0 = 16) (g19 : 0 ≤ a1) (g20 : a1 ≤ 0) (g21 : 0 ≤ a2) (g22 : a2 ≤ 0) (g23 : 0 ≤ a3) (g24 : a3 ≤ 0) : Zi a0 a1 a2 a3 (.r0 (0) : Zc) := ZU (orc := (Zk [(0, false), (1, false), (10, true), (11, true), (20, true), (21, true), (30, true), (31, true)] [] [(0, 16)] [] [])) (ob := [tY (a3 ≤ 0), tY (0 ≤ a3), tY (a2 ≤ 0), tY (0 ≤ a2), tY (a1 ≤ 0), tY (0 ≤ a1), (Nat.blt 16 21, true), (a0 == Int.ofNat 16, true), tN (a0 ≥ 21), tN (a0 < 0)]) (by kernel_rfl) (oY <| oY <| oY <| oY <| oY <| oY <| oB <| oK <| oN <| oN Ze)

theorem Zhr (a0 a1 a2 a3 : Int) (g18 : a0 = 16) (g19 : 0 ≤ a1) (g20 : a1 ≤ 0) (g21 : 0 ≤ a2) (g22 : a2 ≤ 0) (g23 : 0 ≤ a3) (g24 : ¬ (a3 ≤ 0)) : Zi a0 a1 a2 a3 (.r0 (100) : Zc) := Zj (orc := (Zk [(0, false), (1, false), (10, true), (11, true), (20, true), (21, true), (30, true), (31, false)] [] [(0, 16)] [] [])) (ob := [tN (a3 ≤ 0), tY (0 ≤ a3), tY (a2 ≤ 0), tY (0 ≤ a2), tY (a1 ≤ 0), tY (0 ≤ a1), (Nat.blt 16 21, true), (a0 == Int.ofNat 16, true), tN (a0 ≥ 21), tN (a0 < 0)]) (by kernel_rfl) (oN <| oY <| oY <| oY <| oY <| oY <| oB <| oK <| oN <| oN Ze)

theorem Zhs (a0 a1 a2 a3 : Int) (g18 : a0 = 16) (g19 : 0 ≤ a1) (g20 : a1 ≤ 0) (g21 : 0 ≤ a2) (g22 : a2 ≤ 0) (g23 : ¬ (0 ≤ a3)) : Zi a0 a1 a2 a3 (.r0 (100) : Zc) := Zj (orc := (Zk [(0, false), (1, false), (10, true), (11, true), (20, true), (21, true), (30, false)] [] [(0, 16)] [] [])) (ob := [tN (0 ≤ a3), tY (a2 ≤ 0), tY (0 ≤ a2), tY (a1 ≤ 0), tY (0 ≤ a1), (Nat.blt 16 21, true), (a0 == Int.ofNat 16, true), tN (a0 ≥ 21), tN (a0 < 0)]) (by kernel_rfl) (oN <| oY <| oY <| oY <| oY <| oB <| oK <| oN <| oN Ze)

theorem Zht (a0 a1 a2 a3 : Int) (g18 : a0 = 16) (g19 : 0 ≤ a1) (g20 : a1 ≤ 0) (g21 : 0 ≤ a2) (g22 : ¬ (a2 ≤ 0)) : Zi a0 a1 a2 a3 (.r0 (100) : Zc) := Zj (orc := (Zk [(0, false), (1, false), (10, true), (11, true), (20, true), (21, false)] [] [(0, 16)] [] [])) (ob := [tN (a2 ≤ 0), tY (0 ≤ a2), tY (a1 ≤ 0), tY (0 ≤ a1), (Nat.blt 16 21, true), (a0 == Int.ofNat 16, true), tN (a0 ≥ 21), tN (a0 < 0)]) (by kernel_rfl) (oN <| oY <| oY <| oY <| oB <| oK <| oN <| oN Ze)

theorem Zhu (a0 a1 a2 a3 : Int) (g18 : a0 = 16) (g19 : 0 ≤ a1) (g20 : a1 ≤ 0) (g21 : ¬ (0 ≤ a2)) : Zi a0 a1 a2 a3 (.r0 (100) : Zc) := Zj (orc := (Zk [(0, false), (1, false), (10, true), (11, true), (20, false)] [] [(0, 16)] [] [])) (ob := [tN (0 ≤ a2), tY (a1 ≤ 0), tY (0 ≤ a1), (Nat.blt 16 21, true), (a0 == Int.ofNat 16, true), tN (a0 ≥ 21), tN (a0 < 0)]) (by kernel_rfl) (oN <| oY <| oY <| oB <| oK <| oN <| oN Ze)

theorem Zhv (a0 a1 a2 a3 : Int) (g18 : a0 = 16) (g19 : 0 ≤ a1) (g20 : ¬ (a1 ≤ 0)) : Zi a0 a1 a2 a3 (.r0 (100) : Zc) := Zj (orc := (Zk [(0, false), (1, false), (10, true), (11, false)] [] [(0, 16)] [] [])) (ob := [tN (a1 ≤ 0), tY (0 ≤ a1), (Nat.blt 16 21, true), (a0 == Int.ofNat 16, true), tN (a0 ≥ 21), tN (a0 < 0)]) (by kernel_rfl) (oN <| oY <| oB <| oK <| oN <| oN Ze)

theorem Zhw (a0 a1 a2 a3 : Int) (g18 : a0 = 16) (g19 : ¬ (0 ≤ a1)) : Zi a0 a1 a2 a3 (.r0 (100) : Zc) := Zj (orc := (Zk [(0, false), (1, false), (10, false)] [] [(0, 16)] [] [])) (ob := [tN (0 ≤ a1), (Nat.blt 16 21, true), (a0 == Int.ofNat 16, true), tN (a0 ≥ 21), tN (a0 < 0)]) (by kernel_rfl) (oN <| oB <| oK <| oN <| oN Ze)

theorem Zhx (a0 a1 a2 a3 : Int) (g19 : a0 = 17) (g20 : 0 ≤ a1) (g21 : a1 ≤ 0) (g22 : 0 ≤ a2) (g23 : a2 ≤ 0) (g24 : 0 ≤ a3) (g25 : a3 ≤ 0) : Zi a0 a1 a2 a3 (.r0 (0) : Zc) := ZU (orc := (Zk [(0, false), (1, false), (10, true), (11, true), (20, true), (21, true), (30, true), (31, true)] [] [(0, 17)] [] [])) (ob := [tY (a3 ≤ 0), tY (0 ≤ a3), tY (a2 ≤ 0), tY (0 ≤ a2), tY (a1 ≤ 0), tY (0 ≤ a1), (Nat.blt 17 21, true), (a0 == Int.ofNat 17, true), tN (a0 ≥ 21), tN (a0 < 0)]) (by kernel_rfl) (oY <| oY <| oY <| oY <| oY <| oY <| oB <| oK <| oN <| oN Ze)

theorem Zhy (a0 a1 a2 a3 : Int) (g19 : a0 = 17) (g20 : 0 ≤ a1) (g21 : a1 ≤ 0) (g22 : 0 ≤ a2) (g23 : a2 ≤ 0) (g24 : 0 ≤ a3) (g25 : ¬ (a3 ≤ 0)) : Zi a0 a1 a2 a3 (.r0 (100) : Zc) := Zj (orc := (Zk [(0, false), (1, false), (10, true), (11, true), (20, true), (21, true), (30, true), (31, false)] [] [(0, 17)] [] [])) (ob := [tN (a3 ≤ 0), tY (0 ≤ a3), tY (a2 ≤ 0), tY (0 ≤ a2), tY (a1 ≤ 0), tY (0 ≤ a1), (Nat.blt 17 21, true), (a0 == Int.ofNat 17, true), tN (a0 ≥ 21), tN (a0 < 0)]) (by kernel_rfl) (oN <| oY <| oY <| oY <| oY <| oY <| oB <| oK <| oN <| oN Ze)

theorem Zhz (a0 a1 a2 a3 : Int) (g19 : a0 = 17) (g20 : 0 ≤ a1) (g21 : a1 ≤ 0) (g22 : 0 ≤ a2) (g23 : a2 ≤ 0) (g24 : ¬ (0 ≤ a3)) : Zi a0 a1 a2 a3 (.r0 (100) : Zc) := Zj (orc := (Zk [(0, false), (1, false), (10, true), (11, true), (20, true), (21, true), (30, false)] [] [(0, 17)] [] [])) (ob := [tN (0 ≤ a3), tY (a2 ≤ 0), tY (0 ≤ a2), tY (a1 ≤ 0), tY (0 ≤ a1), (Nat.blt 17 21, true), (a0 == Int.ofNat 17, true), tN (a0 ≥ 21), tN (a0 < 0)]) (by kernel_rfl) (oN <| oY <| oY <| oY <| oY <| oB <| oK <| oN <| oN Ze)

theorem Zh0 (a0 a1 a2 a3 : Int) (g19 : a0 = 17) (g20 : 0 ≤ a1) (g21 : a1 ≤ 0) (g22 : 0 ≤ a2) (g23 : ¬ (a2 ≤ 0)) : Zi a0 a1 a2 a3 (.r0 (100) : Zc) := Zj (orc := (Zk [(0, false), (1, false), (10, true), (11, true), (20, true), (21, false)] [] [(0, 17)] [] [])) (ob := [tN (a2 ≤ 0), tY (0 ≤ a2), tY (a1 ≤ 0), tY (0 ≤ a1), (Nat.blt 17 21, true), (a0 == Int.ofNat 17, true), tN (a0 ≥ 21), tN (a0 < 0)]) (by kernel_rfl) (oN <| oY <| oY <| oY <| oB <| oK <| oN <| oN Ze)

theorem Zh1 (a0 a1 a2 a3 : Int) (g19 : a0 = 17) (g20 : 0 ≤ a1) (g21 : a1 ≤ 0) (g22 : ¬ (0 ≤ a2)) : Zi a0 a1 a2 a3 (.r0 (100) : Zc) := Zj (orc := (Zk [(0, false), (1, false), (10, true), (11, true), (20, false)] [] [(0, 17)] [] [])) (ob := [tN (0 ≤ a2), tY (a1 ≤ 0), tY (0 ≤ a1), (Nat.blt 17 21, true), (a0 == Int.ofNat 17, true), tN (a0 ≥ 21), tN (a0 < 0)]) (by kernel_rfl) (oN <| oY <| oY <| oB <| oK <| oN <| oN Ze)

theorem Zh2 (a0 a1 a2 a3 : Int) (g19 : a0 = 17) (g20 : 0 ≤ a1) (g21 : ¬ (a1 ≤ 0)) : Zi a0 a1 a2 a3 (.r0 (100) : Zc) := Zj (orc := (Zk [(0, false), (1, false), (10, true), (11, false)] [] [(0, 17)] [] [])) (ob := [tN (a1 ≤ 0), tY (0 ≤ a1), (Nat.blt 17 21, true), (a0 == Int.ofNat 17, true), tN (a0 ≥ 21), tN (a0 < 0)]) (by kernel_rfl) (oN <| oY <| oB <| oK <| oN <| oN Ze)

theorem Zh3 (a0 a1 a2 a3 : Int) (g19 : a0 = 17) (g20 : ¬ (0 ≤ a1)) : Zi a0 a1 a2 a3 (.r0 (100) : Zc) := Zj (orc := (Zk [(0, false), (1, false), (10, false)] [] [(0, 17)] [] [])) (ob := [tN (0 ≤ a1), (Nat.blt 17 21, true), (a0 == Int.ofNat 17, true), tN (a0 ≥ 21), tN (a0 < 0)]) (by kernel_rfl) (oN <| oB <| oK <| oN <| oN Ze)

theorem Zh4 (a0 a1 a2 a3 : Int) (g20 : a0 = 18) (g21 : 0 ≤ a1) (g22 : a1 ≤ 0) (g23 : 0 ≤ a2) (g24 : a2 ≤ 0) (g25 : 0 ≤ a3) (g26 : a3 ≤ 0) : Zi a0 a1 a2 a3 (.r0 (0) : Zc) := ZU (orc := (Zk [(0, false), (1, false), (10, true), (11, true), (20, true), (21, true), (30, true), (31, true)] [] [(0, 18)] [] [])) (ob := [tY (a3 ≤ 0), tY (0 ≤ a3), tY (a2 ≤ 0), tY (0 ≤ a2), tY (a1 ≤ 0), tY (0 ≤ a1), (Nat.blt 18 21, true), (a0 == Int.ofNat 18, true), tN (a0 ≥ 21), tN (a0 < 0)]) (by kernel_rfl) (oY <| oY <| oY <| oY <| oY <| oY <| oB <| oK <| oN <| oN Ze)

theorem Zh5 (a0 a1 a2 a3 : Int) (g20 : a0 = 18) (g21 : 0 ≤ a1) (g22 : a1 ≤ 0) (g23 : 0 ≤ a2) (g24 : a2 ≤ 0) (g25 : 0 ≤ a3) (g26 : ¬ (a3 ≤ 0)) : Zi a0 a1 a2 a3 (.r0 (100) : Zc) := Zj (orc := (Zk [(0, false), (1, false), (10, true), (11, true), (20, true), (21, true), (30, true), (31, false)] [] [(0, 18)] [] [])) (ob := [tN (a3 ≤ 0), tY (0 ≤ a3), tY (a2 ≤ 0), tY (0 ≤ a2), tY (a1 ≤ 0), tY (0 ≤ a1), (Nat.blt 18 21, true), (a0 == Int.ofNat 18, true), tN (a0 ≥ 21), tN (a0 < 0)]) (by kernel_rfl) (oN <| oY <| oY <| oY <| oY <| oY <| oB <| oK <| oN <| oN Ze)

theorem Zh6 (a0 a1 a2 a3 : Int) (g20 : a0 = 18) (g21 : 0 ≤ a1) (g22 : a1 ≤ 0) (g23 : 0 ≤ a2) (g24 : a2 ≤ 0) (g25 : ¬ (0 ≤ a3)) : Zi a0 a1 a2 a3 (.r0 (100) : Zc) := Zj (orc := (Zk [(0, false), (1, false), (10, true), (11, true), (20, true), (21, true), (30, false)] [] [(0, 18)] [] [])) (ob := [tN (0 ≤ a3), tY (a2 ≤ 0), tY (0 ≤ a2), tY (a1 ≤ 0), tY (0 ≤ a1), (Nat.blt 18 21, true), (a0 == Int.ofNat 18, true), tN (a0 ≥ 21), tN (a0 < 0)]) (by kernel_rfl) (oN <| oY <| oY <| oY <| oY <| oB <| oK <| oN <| oN Ze)

theorem Zh7 (a0 a1 a2 a3 : Int) (g20 : a0 = 18) (g21 : 0 ≤ a1) (g22 : a1 ≤ 0) (g23 : 0 ≤ a2) (g24 : ¬ (a2 ≤ 0)) : Zi a0 a1 a2 a3 (.r0 (100) : Zc) := Zj (orc := (Zk [(0, false), (1, false), (10, true), (11, true), (20, true), (21, false)] [] [(0, 18)] [] [])) (ob := [tN (a2 ≤ 0), tY (0 ≤ a2), tY (a1 ≤ 0), tY (0 ≤ a1), (Nat.blt 18 21, true), (a0 == Int.ofNat 18, true), tN (a0 ≥ 21), tN (a0 < 0)]) (by kernel_rfl) (oN <| oY <| oY <| oY <| oB <| oK <| oN <| oN Ze)

theorem Zh8 (a0 a1 a2 a3 : Int) (g20 : a0 = 18) (g21 : 0 ≤ a1) (g22 : a1 ≤ 0) (g23 : ¬ (0 ≤ a2)) : Zi a0 a1 a2 a3 (.r0 (100) : Zc) := Zj (orc := (Zk [(0, false), (1, false), (10, true), (11, true), (20, false)] [] [(0, 18)] [] [])) (ob := [tN (0 ≤ a2), tY (a1 ≤ 0), tY (0 ≤ a1), (Nat.blt 18 21, true), (a0 == Int.ofNat 18, true), tN (a0 ≥ 21), tN (a0 < 0)]) (by kernel_rfl) (oN <| oY <| oY <| oB <| oK <| oN <| oN Ze)

theorem Zh9 (a0 a1 a2 a3 : Int) (g20 : a0 = 18) (g21 : 0 ≤ a1) (g22 : ¬ (a1 ≤ 0)) : Zi a0 a1 a2 a3 (.r0 (100) : Zc) := Zj (orc := (Zk [(0, false), (1, false), (10, true), (11, false)] [] [(0, 18)] [] [])) (ob := [tN (a1 ≤ 0), tY (0 ≤ a1), (Nat.blt 18 21, true), (a0 == Int.ofNat 18, true), tN (a0 ≥ 21), tN (a0 < 0)]) (by kernel_rfl) (oN <| oY <| oB <| oK <| oN <| oN Ze)

theorem ZhA (a0 a1 a2 a3 : Int) (g20 : a0 = 18) (g21 : ¬ (0 ≤ a1)) : Zi a0 a1 a2 a3 (.r0 (100) : Zc) := Zj (orc := (Zk [(0, false), (1, false), (10, false)] [] [(0, 18)] [] [])) (ob := [tN (0 ≤ a1), (Nat.blt 18 21, true), (a0 == Int.ofNat 18, true), tN (a0 ≥ 21), tN (a0 < 0)]) (by kernel_rfl) (oN <| oB <| oK <| oN <| oN Ze)

theorem ZhB (a0 a1 a2 a3 : Int) (g21 : a0 = 19) (g22 : 0 ≤ a1) (g23 : a1 ≤ 7) (g24 : 0 ≤ a2) (g25 : a2 ≤ 0) (g26 : 0 ≤ a3) (g27 : a3 ≤ 0) : Zi a0 a1 a2 a3 (.r0 (0) : Zc) := ZU (orc := (Zk [(0, false), (1, false), (5, true), (6, true), (15, true), (16, true), (25, true), (26, true)] [] [(0, 19)] [] [])) (ob := [tY (a3 ≤ 0), tY (0 ≤ a3), tY (a2 ≤ 0), tY (0 ≤ a2), tY (a1 ≤ 7), tY (0 ≤ a1), (Nat.blt 19 21, true), (a0 == Int.ofNat 19, true), tN (a0 ≥ 21), tN (a0 < 0)]) (by kernel_rfl) (oY <| oY <| oY <| oY <| oY <| oY <| oB <| oK <| oN <| oN Ze)

theorem ZhC (a0 a1 a2 a3 : Int) (g21 : a0 = 19) (g22 : 0 ≤ a1) (g23 : a1 ≤ 7) (g24 : 0 ≤ a2) (g25 : a2 ≤ 0) (g26 : 0 ≤ a3) (g27 : ¬ (a3 ≤ 0)) : Zi a0 a1 a2 a3 (.r0 (100) : Zc) := Zj (orc := (Zk [(0, false), (1, false), (5, true), (6, true), (15, true), (16, true), (25, true), (26, false)] [] [(0, 19)] [] [])) (ob := [tN (a3 ≤ 0), tY (0 ≤ a3), tY (a2 ≤ 0), tY (0 ≤ a2), tY (a1 ≤ 7), tY (0 ≤ a1), (Nat.blt 19 21, true), (a0 == Int.ofNat 19, true), tN (a0 ≥ 21), tN (a0 < 0)]) (by kernel_rfl) (oN <| oY <| oY <| oY <| oY <| oY <| oB <| oK <| oN <| oN Ze)

theorem ZhD (a0 a1 a2 a3 : Int) (g21 : a0 = 19) (g22 : 0 ≤ a1) (g23 : a1 ≤ 7) (g24 : 0 ≤ a2) (g25 : a2 ≤ 0) (g26 : ¬ (0 ≤ a3)) : Zi a0 a1 a2 a3 (.r0 (100) : Zc) := Zj (orc := (Zk [(0, false), (1, false), (5, true), (6, true), (15, true), (16, true), (25, false)] [] [(0, 19)] [] [])) (ob := [tN (0 ≤ a3), tY (a2 ≤ 0), tY (0 ≤ a2), tY (a1 ≤ 7), tY (0 ≤ a1), (Nat.blt 19 21, true), (a0 == Int.ofNat 19, true), tN (a0 ≥ 21), tN (a0 < 0)]) (by kernel_rfl) (oN <| oY <| oY <| oY <| oY <| oB <| oK <| oN <| oN Ze)

theorem ZhE (a0 a1 a2 a3 : Int) (g21 : a0 = 19) (g22 : 0 ≤ a1) (g23 : a1 ≤ 7) (g24 : 0 ≤ a2) (g25 : ¬ (a2 ≤ 0)) : Zi a0 a1 a2 a3 (.r0 (100) : Zc) := Zj (orc := (Zk [(0, false), (1, false), (5, true), (6, true), (15, true), (16, false)] [] [(0, 19)] [] [])) (ob := [tN (a2 ≤ 0), tY (0 ≤ a2), tY (a1 ≤ 7), tY (0 ≤ a1), (Nat.blt 19 21, true), (a0 == Int.ofNat 19, true), tN (a0 ≥ 21), tN (a0 < 0)]) (by kernel_rfl) (oN <| oY <| oY <| oY <| oB <| oK <| oN <| oN Ze)

theorem ZhF (a0 a1 a2 a3 : Int) (g21 : a0 = 19) (g22 : 0 ≤ a1) (g23 : a1 ≤ 7) (g24 : ¬ (0 ≤ a2)) : Zi a0 a1 a2 a3 (.r0 (100) : Zc) := Zj (orc := (Zk [(0, false), (1, false), (5, true), (6, true), (15, false)] [] [(0, 19)] [] [])) (ob := [tN (0 ≤ a2), tY (a1 ≤ 7), tY (0 ≤ a1), (Nat.blt 19 21, true), (a0 == Int.ofNat 19, true), tN (a0 ≥ 21), tN (a0 < 0)]) (by kernel_rfl) (oN <| oY <| oY <| oB <| oK <| oN <| oN Ze)

theorem ZhG (a0 a1 a2 a3 : Int) (g21 : a0 = 19) (g22 : 0 ≤ a1) (g23 : ¬ (a1 ≤ 7)) : Zi a0 a1 a2 a3 (.r0 (100) : Zc) := Zj (orc := (Zk [(0, false), (1, false), (5, true), (6, false)] [] [(0, 19)] [] [])) (ob := [tN (a1 ≤ 7), tY (0 ≤ a1), (Nat.blt 19 21, true), (a0 == Int.ofNat 19, true), tN (a0 ≥ 21), tN (a0 < 0)]) (by kernel_rfl) (oN <| oY <| oB <| oK <| oN <| oN Ze)

theorem ZhH (a0 a1 a2 a3 : Int) (g21 : a0 = 19) (g22 : ¬ (0 ≤ a1)) : Zi a0 a1 a2 a3 (.r0 (100) : Zc) := Zj (orc := (Zk [(0, false), (1, false), (5, false)] [] [(0, 19)] [] [])) (ob := [tN (0 ≤ a1), (Nat.blt 19 21, true), (a0 == Int.ofNat 19, true), tN (a0 ≥ 21), tN (a0 < 0)]) (by kernel_rfl) (oN <| oB <| oK <| oN <| oN Ze)

theorem ZhI (a0 a1 a2 a3 : Int) (g0 : ¬ (a0 < 0)) (g1 : ¬ (21 ≤ a0)) (g2 : ¬ (a0 = 0)) (g3 : ¬ (a0 = 1)) (g4 : ¬ (a0 = 2)) (g5 : ¬ (a0 = 3)) (g6 : ¬ (a0 = 4)) (g7 : ¬ (a0 = 5)) (g8 : ¬ (a0 = 6)) (g9 : ¬ (a0 = 7)) (g10 : ¬ (a0 = 8)) (g11 : ¬ (a0 = 9)) (g12 : ¬ (a0 = 10)) (g13 : ¬ (a0 = 11)) (g14 : ¬ (a0 = 12)) (g15 : ¬ (a0 = 13)) (g16 : ¬ (a0 = 14)) (g17 : ¬ (a0 = 15)) (g18 : ¬ (a0 = 16)) (g19 : ¬ (a0 = 17)) (g20 : ¬ (a0 = 18)) (g21 : ¬ (a0 = 19)) (g22 : 0 ≤ a1) (g23 : a1 ≤ 0) (g24 : 0 ≤ a2) (g25 : a2 ≤ 0) (g26 : 0 ≤ a3) (g27 : a3 ≤ 0) : Zi a0 a1 a2 a3 (.r0 (0) : Zc) := ZU (orc := (Zk [(0, false), (1, false), (10, true), (11, true), (20, true), (21, true), (30, true), (31, true)] [] [(0, 20)] [] [])) (ob := [tY (a3 ≤ 0), tY (0 ≤ a3), tY (a2 ≤ 0), tY (0 ≤ a2), tY (a1 ≤ 0), tY (0 ≤ a1), (Nat.blt 20 21, true), (a0 == Int.ofNat 20, true), tN (a0 ≥ 21), tN (a0 < 0)]) (by kernel_rfl) (oY <| oY <| oY <| oY <| oY <| oY <| oB <| oK <| oN <| oN Ze)

theorem ZhJ (a0 a1 a2 a3 : Int) (g0 : ¬ (a0 < 0)) (g1 : ¬ (21 ≤ a0)) (g2 : ¬ (a0 = 0)) (g3 : ¬ (a0 = 1)) (g4 : ¬ (a0 = 2)) (g5 : ¬ (a0 = 3)) (g6 : ¬ (a0 = 4)) (g7 : ¬ (a0 = 5)) (g8 : ¬ (a0 = 6)) (g9 : ¬ (a0 = 7)) (g10 : ¬ (a0 = 8)) (g11 : ¬ (a0 = 9)) (g12 : ¬ (a0 = 10)) (g13 : ¬ (a0 = 11)) (g14 : ¬ (a0 = 12)) (g15 : ¬ (a0 = 13)) (g16 : ¬ (a0 = 14)) (g17 : ¬ (a0 = 15)) (g18 : ¬ (a0 = 16)) (g19 : ¬ (a0 = 17)) (g20 : ¬ (a0 = 18)) (g21 : ¬ (a0 = 19)) (g22 : 0 ≤ a1) (g23 : a1 ≤ 0) (g24 : 0 ≤ a2) (g25 : a2 ≤ 0) (g26 : 0 ≤ a3) (g27 : ¬ (a3 ≤ 0)) : Zi a0 a1 a2 a3 (.r0 (100) : Zc) := Zj (orc := (Zk [(0, false), (1, false), (10, true), (11, true), (20, true), (21, true), (30, true), (31, false)] [] [(0, 20)] [] [])) (ob := [tN (a3 ≤ 0), tY (0 ≤ a3), tY (a2 ≤ 0), tY (0 ≤ a2), tY (a1 ≤ 0), tY (0 ≤ a1), (Nat.blt 20 21, true), (a0 == Int.ofNat 20, true), tN (a0 ≥ 21), tN (a0 < 0)]) (by kernel_rfl) (oN <| oY <| oY <| oY <| oY <| oY <| oB <| oK <| oN <| oN Ze)

theorem ZhK (a0 a1 a2 a3 : Int) (g0 : ¬ (a0 < 0)) (g1 : ¬ (21 ≤ a0)) (g2 : ¬ (a0 = 0)) (g3 : ¬ (a0 = 1)) (g4 : ¬ (a0 = 2)) (g5 : ¬ (a0 = 3)) (g6 : ¬ (a0 = 4)) (g7 : ¬ (a0 = 5)) (g8 : ¬ (a0 = 6)) (g9 : ¬ (a0 = 7)) (g10 : ¬ (a0 = 8)) (g11 : ¬ (a0 = 9)) (g12 : ¬ (a0 = 10)) (g13 : ¬ (a0 = 11)) (g14 : ¬ (a0 = 12)) (g15 : ¬ (a0 = 13)) (g16 : ¬ (a0 = 14)) (g17 : ¬ (a0 = 15)) (g18 : ¬ (a0 = 16)) (g19 : ¬ (a0 = 17)) (g20 : ¬ (a0 = 18)) (g21 : ¬ (a0 = 19)) (g22 : 0 ≤ a1) (g23 : a1 ≤ 0) (g24 : 0 ≤ a2) (g25 : a2 ≤ 0) (g26 : ¬ (0 ≤ a3)) : Zi a0 a1 a2 a3 (.r0 (100) : Zc) := Zj (orc := (Zk [(0, false), (1, false), (10, true), (11, true), (20, true), (21, true), (30, false)] [] [(0, 20)] [] [])) (ob := [tN (0 ≤ a3), tY (a2 ≤ 0), tY (0 ≤ a2), tY (a1 ≤ 0), tY (0 ≤ a1), (Nat.blt 20 21, true), (a0 == Int.ofNat 20, true), tN (a0 ≥ 21), tN (a0 < 0)]) (by kernel_rfl) (oN <| oY <| oY <| oY <| oY <| oB <| oK <| oN <| oN Ze)

theorem ZhL (a0 a1 a2 a3 : Int) (g0 : ¬ (a0 < 0)) (g1 : ¬ (21 ≤ a0)) (g2 : ¬ (a0 = 0)) (g3 : ¬ (a0 = 1)) (g4 : ¬ (a0 = 2)) (g5 : ¬ (a0 = 3)) (g6 : ¬ (a0 = 4)) (g7 : ¬ (a0 = 5)) (g8 : ¬ (a0 = 6)) (g9 : ¬ (a0 = 7)) (g10 : ¬ (a0 = 8)) (g11 : ¬ (a0 = 9)) (g12 : ¬ (a0 = 10)) (g13 : ¬ (a0 = 11)) (g14 : ¬ (a0 = 12)) (g15 : ¬ (a0 = 13)) (g16 : ¬ (a0 = 14)) (g17 : ¬ (a0 = 15)) (g18 : ¬ (a0 = 16)) (g19 : ¬ (a0 = 17)) (g20 : ¬ (a0 = 18)) (g21 : ¬ (a0 = 19)) (g22 : 0 ≤ a1) (g23 : a1 ≤ 0) (g24 : 0 ≤ a2) (g25 : ¬ (a2 ≤ 0)) : Zi a0 a1 a2 a3 (.r0 (100) : Zc) := Zj (orc := (Zk [(0, false), (1, false), (10, true), (11, true), (20, true), (21, false)] [] [(0, 20)] [] [])) (ob := [tN (a2 ≤ 0), tY (0 ≤ a2), tY (a1 ≤ 0), tY (0 ≤ a1), (Nat.blt 20 21, true), (a0 == Int.ofNat 20, true), tN (a0 ≥ 21), tN (a0 < 0)]) (by kernel_rfl) (oN <| oY <| oY <| oY <| oB <| oK <| oN <| oN Ze)

theorem ZhM (a0 a1 a2 a3 : Int) (g0 : ¬ (a0 < 0)) (g1 : ¬ (21 ≤ a0)) (g2 : ¬ (a0 = 0)) (g3 : ¬ (a0 = 1)) (g4 : ¬ (a0 = 2)) (g5 : ¬ (a0 = 3)) (g6 : ¬ (a0 = 4)) (g7 : ¬ (a0 = 5)) (g8 : ¬ (a0 = 6)) (g9 : ¬ (a0 = 7)) (g10 : ¬ (a0 = 8)) (g11 : ¬ (a0 = 9)) (g12 : ¬ (a0 = 10)) (g13 : ¬ (a0 = 11)) (g14 : ¬ (a0 = 12)) (g15 : ¬ (a0 = 13)) (g16 : ¬ (a0 = 14)) (g17 : ¬ (a0 = 15)) (g18 : ¬ (a0 = 16)) (g19 : ¬ (a0 = 17)) (g20 : ¬ (a0 = 18)) (g21 : ¬ (a0 = 19)) (g22 : 0 ≤ a1) (g23 : a1 ≤ 0) (g24 : ¬ (0 ≤ a2)) : Zi a0 a1 a2 a3 (.r0 (100) : Zc) := Zj (orc := (Zk [(0, false), (1, false), (10, true), (11, true), (20, false)] [] [(0, 20)] [] [])) (ob := [tN (0 ≤ a2), tY (a1 ≤ 0), tY (0 ≤ a1), (Nat.blt 20 21, true), (a0 == Int.ofNat 20, true), tN (a0 ≥ 21), tN (a0 < 0)]) (by kernel_rfl) (oN <| oY <| oY <| oB <| oK <| oN <| oN Ze)

theorem ZhN (a0 a1 a2 a3 : Int) (g0 : ¬ (a0 < 0)) (g1 : ¬ (21 ≤ a0)) (g2 : ¬ (a0 = 0)) (g3 : ¬ (a0 = 1)) (g4 : ¬ (a0 = 2)) (g5 : ¬ (a0 = 3)) (g6 : ¬ (a0 = 4)) (g7 : ¬ (a0 = 5)) (g8 : ¬ (a0 = 6)) (g9 : ¬ (a0 = 7)) (g10 : ¬ (a0 = 8)) (g11 : ¬ (a0 = 9)) (g12 : ¬ (a0 = 10)) (g13 : ¬ (a0 = 11)) (g14 : ¬ (a0 = 12)) (g15 : ¬ (a0 = 13)) (g16 : ¬ (a0 = 14)) (g17 : ¬ (a0 = 15)) (g18 : ¬ (a0 = 16)) (g19 : ¬ (a0 = 17)) (g20 : ¬ (a0 = 18)) (g21 : ¬ (a0 = 19)) (g22 : 0 ≤ a1) (g23 : ¬ (a1 ≤ 0)) : Zi a0 a1 a2 a3 (.r0 (100) : Zc) := Zj (orc := (Zk [(0, false), (1, false), (10, true), (11, false)] [] [(0, 20)] [] [])) (ob := [tN (a1 ≤ 0), tY (0 ≤ a1), (Nat.blt 20 21, true), (a0 == Int.ofNat 20, true), tN (a0 ≥ 21), tN (a0 < 0)]) (by kernel_rfl) (oN <| oY <| oB <| oK <| oN <| oN Ze)

theorem ZhO (a0 a1 a2 a3 : Int) (g0 : ¬ (a0 < 0)) (g1 : ¬ (21 ≤ a0)) (g2 : ¬ (a0 = 0)) (g3 : ¬ (a0 = 1)) (g4 : ¬ (a0 = 2)) (g5 : ¬ (a0 = 3)) (g6 : ¬ (a0 = 4)) (g7 : ¬ (a0 = 5)) (g8 : ¬ (a0 = 6)) (g9 : ¬ (a0 = 7)) (g10 : ¬ (a0 = 8)) (g11 : ¬ (a0 = 9)) (g12 : ¬ (a0 = 10)) (g13 : ¬ (a0 = 11)) (g14 : ¬ (a0 = 12)) (g15 : ¬ (a0 = 13)) (g16 : ¬ (a0 = 14)) (g17 : ¬ (a0 = 15)) (g18 : ¬ (a0 = 16)) (g19 : ¬ (a0 = 17)) (g20 : ¬ (a0 = 18)) (g21 : ¬ (a0 = 19)) (g22 : ¬ (0 ≤ a1)) : Zi a0 a1 a2 a3 (.r0 (100) : Zc) := Zj (orc := (Zk [(0, false), (1, false), (10, false)] [] [(0, 20)] [] [])) (ob := [tN (0 ≤ a1), (Nat.blt 20 21, true), (a0 == Int.ofNat 20, true), tN (a0 ≥ 21), tN (a0 < 0)]) (by kernel_rfl) (oN <| oB <| oK <| oN <| oN Ze)

theorem Zln (a0 a1 a2 a3 : Int) (N : Nat) : Gx Tryz.prog 11 [] #[Value.agg #[vi a0, vi a1, vi a2, vi a3]] (Zdv a0 a1 a2 a3) (ZcS a0 a1 a2 a3) (Zp a0 a1 a2 a3 N) := by
 unfold Zp
 refine Zd (fun g0 => ?_) (fun g0 => ?_)
 ·
  exact Zkz a0 a1 a2 a3 g0
 ·
  refine Zd (fun g1 => ?_) (fun g1 => ?_)
  ·
   exact Zk0 a0 a1 a2 a3 g0 g1
  ·
   refine Zd (fun g2 => ?_) (fun g2 => ?_)
   ·
    exact Zk1 a0 a1 a2 a3 g2
   ·
    refine Zd (fun g3 => ?_) (fun g3 => ?_)
    ·
     refine Zd (fun g4 => ?_) (fun g4 => ?_)
     ·
      refine Zd (fun g5 => ?_) (fun g5 => ?_)
      ·
       refine Zd (fun g6 => ?_) (fun g6 => ?_)
       ·
        refine Zd (fun g7 => ?_) (fun g7 => ?_)
        ·
         refine Zd (fun g8 => ?_) (fun g8 => ?_)
         ·
          refine Zd (fun g9 => ?_) (fun g9 => ?_)
          ·
           exact Zk2 a0 a1 a2 a3 g3 g4 g5 g6 g7 g8 g9
          ·
           exact Zk3 a0 a1 a2 a3 g3 g4 g5 g6 g7 g8 g9
         ·
          exact Zk4 a0 a1 a2 a3 g3 g4 g5 g6 g7 g8
        ·
         exact Zk5 a0 a1 a2 a3 g3 g4 g5 g6 g7
       ·
        exact Ziy a0 a1 a2 a3 g3 g4 g5 g6
      ·
       exact Ziz a0 a1 a2 a3 g3 g4 g5
     ·
      exact Zi0 a0 a1 a2 a3 g3 g4
    ·
     refine Zd (fun g4 => ?_) (fun g4 => ?_)
     ·
      refine Zd (fun g5 => ?_) (fun g5 => ?_)
      ·
       refine Zd (fun g6 => ?_) (fun g6 => ?_)
       ·
        refine Zd (fun g7 => ?_) (fun g7 => ?_)
        ·
         refine Zd (fun g8 => ?_) (fun g8 => ?_)
         ·
          refine Zd (fun g9 => ?_) (fun g9 => ?_)
          ·
           refine Zd (fun g10 => ?_) (fun g10 => ?_)
           ·
            exact Zi1 a0 a1 a2 a3 g4 g5 g6 g7 g8 g9 g10
           ·
            exact Zi2 a0 a1 a2 a3 g4 g5 g6 g7 g8 g9 g10
          ·
           exact Zi3 a0 a1 a2 a3 g4 g5 g6 g7 g8 g9
         ·
          exact Zi4 a0 a1 a2 a3 g4 g5 g6 g7 g8
        ·
         exact Zi5 a0 a1 a2 a3 g4 g5 g6 g7
       ·
        exact Zi6 a0 a1 a2 a3 g4 g5 g6
      ·
       exact Zi7 a0 a1 a2 a3 g4 g5
     ·
      refine Zd (fun g5 => ?_) (fun g5 => ?_)
      ·
       refine Zd (fun g6 => ?_) (fun g6 => ?_)
       ·
        refine Zd (fun g7 => ?_) (fun g7 => ?_)
        ·
         refine Zd (fun g8 => ?_) (fun g8 => ?_)
         ·
          refine Zd (fun g9 => ?_) (fun g9 => ?_)
          ·
           refine Zd (fun g10 => ?_) (fun g10 => ?_)
           ·
            refine Zd (fun g11 => ?_) (fun g11 => ?_)
            ·
             exact Zi8 a0 a1 a2 a3 g5 g6 g7 g8 g9 g10 g11
            ·
             exact Zi9 a0 a1 a2 a3 g5 g6 g7 g8 g9 g10 g11
           ·
            exact ZiA a0 a1 a2 a3 g5 g6 g7 g8 g9 g10
          ·
           exact ZiB a0 a1 a2 a3 g5 g6 g7 g8 g9
         ·
          exact ZiC a0 a1 a2 a3 g5 g6 g7 g8
        ·
         exact ZiD a0 a1 a2 a3 g5 g6 g7
       ·
        exact ZiE a0 a1 a2 a3 g5 g6
      ·
       refine Zd (fun g6 => ?_) (fun g6 => ?_)
       ·
        refine Zd (fun g7 => ?_) (fun g7 => ?_)
        ·
         refine Zd (fun g8 => ?_) (fun g8 => ?_)
         ·
          refine Zd (fun g9 => ?_) (fun g9 => ?_)
          ·
           refine Zd (fun g10 => ?_) (fun g10 => ?_)
           ·
            refine Zd (fun g11 => ?_) (fun g11 => ?_)
            ·
             refine Zd (fun g12 => ?_) (fun g12 => ?_)
             ·
              exact ZiF a0 a1 a2 a3 g6 g7 g8 g9 g10 g11 g12
             ·
              exact ZiG a0 a1 a2 a3 g6 g7 g8 g9 g10 g11 g12
            ·
             exact ZiH a0 a1 a2 a3 g6 g7 g8 g9 g10 g11
           ·
            exact ZiI a0 a1 a2 a3 g6 g7 g8 g9 g10
          ·
           exact ZiJ a0 a1 a2 a3 g6 g7 g8 g9
         ·
          exact ZiK a0 a1 a2 a3 g6 g7 g8
        ·
         exact ZiL a0 a1 a2 a3 g6 g7
       ·
        refine Zd (fun g7 => ?_) (fun g7 => ?_)
        ·
         refine Zd (fun g8 => ?_) (fun g8 => ?_)
         ·
          refine Zd (fun g9 => ?_) (fun g9 => ?_)
          ·
           refine Zd (fun g10 => ?_) (fun g10 => ?_)
           ·
            refine Zd (fun g11 => ?_) (fun g11 => ?_)
            ·
             refine Zd (fun g12 => ?_) (fun g12 => ?_)
             ·
              refine Zd (fun g13 => ?_) (fun g13 => ?_)
              ·
               exact ZiM a0 a1 a2 a3 g7 g8 g9 g10 g11 g12 g13
              ·
               exact ZiN a0 a1 a2 a3 g7 g8 g9 g10 g11 g12 g13
             ·
              exact ZiO a0 a1 a2 a3 g7 g8 g9 g10 g11 g12
            ·
             exact ZiP a0 a1 a2 a3 g7 g8 g9 g10 g11
           ·
            exact ZiQ a0 a1 a2 a3 g7 g8 g9 g10
          ·
           exact ZiR a0 a1 a2 a3 g7 g8 g9
         ·
          exact ZiS a0 a1 a2 a3 g7 g8
        ·
         refine Zd (fun g8 => ?_) (fun g8 => ?_)
         ·
          refine Zd (fun g9 => ?_) (fun g9 => ?_)
          ·
           refine Zd (fun g10 => ?_) (fun g10 => ?_)
           ·
            refine Zd (fun g11 => ?_) (fun g11 => ?_)
            ·
             refine Zd (fun g12 => ?_) (fun g12 => ?_)
             ·
              refine Zd (fun g13 => ?_) (fun g13 => ?_)
              ·
               refine Zd (fun g14 => ?_) (fun g14 => ?_)
               ·
                exact ZiT a0 a1 a2 a3 g8 g9 g10 g11 g12 g13 g14
               ·
                exact ZiU a0 a1 a2 a3 g8 g9 g10 g11 g12 g13 g14
              ·
               exact ZiV a0 a1 a2 a3 g8 g9 g10 g11 g12 g13
             ·
              exact ZiW a0 a1 a2 a3 g8 g9 g10 g11 g12
            ·
             exact ZiX a0 a1 a2 a3 g8 g9 g10 g11
           ·
            exact ZiY a0 a1 a2 a3 g8 g9 g10
          ·
           exact ZiZ a0 a1 a2 a3 g8 g9
         ·
          refine Zd (fun g9 => ?_) (fun g9 => ?_)
          ·
           refine Zd (fun g10 => ?_) (fun g10 => ?_)
           ·
            refine Zd (fun g11 => ?_) (fun g11 => ?_)
            ·
             refine Zd (fun g12 => ?_) (fun g12 => ?_)
             ·
              refine Zd (fun g13 => ?_) (fun g13 => ?_)
              ·
               refine Zd (fun g14 => ?_) (fun g14 => ?_)
               ·
                refine Zd (fun g15 => ?_) (fun g15 => ?_)
                ·
                 exact Zja a0 a1 a2 a3 g9 g10 g11 g12 g13 g14 g15
                ·
                 exact Zjb a0 a1 a2 a3 g9 g10 g11 g12 g13 g14 g15
               ·
                exact Zjc a0 a1 a2 a3 g9 g10 g11 g12 g13 g14
              ·
               exact Zjd a0 a1 a2 a3 g9 g10 g11 g12 g13
             ·
              exact Zje a0 a1 a2 a3 g9 g10 g11 g12
            ·
             exact Zjf a0 a1 a2 a3 g9 g10 g11
           ·
            exact Zjg a0 a1 a2 a3 g9 g10
          ·
           refine Zd (fun g10 => ?_) (fun g10 => ?_)
           ·
            refine Zd (fun g11 => ?_) (fun g11 => ?_)
            ·
             refine Zd (fun g12 => ?_) (fun g12 => ?_)
             ·
              refine Zd (fun g13 => ?_) (fun g13 => ?_)
              ·
               refine Zd (fun g14 => ?_) (fun g14 => ?_)
               ·
                refine Zd (fun g15 => ?_) (fun g15 => ?_)
                ·
                 refine Zd (fun g16 => ?_) (fun g16 => ?_)
                 ·
                  exact Zjh a0 a1 a2 a3 g10 g11 g12 g13 g14 g15 g16
                 ·
                  exact Zji a0 a1 a2 a3 g10 g11 g12 g13 g14 g15 g16
                ·
                 exact Zjj a0 a1 a2 a3 g10 g11 g12 g13 g14 g15
               ·
                exact Zjk a0 a1 a2 a3 g10 g11 g12 g13 g14
              ·
               exact Zjl a0 a1 a2 a3 g10 g11 g12 g13
             ·
              exact Zjm a0 a1 a2 a3 g10 g11 g12
            ·
             exact Zjn a0 a1 a2 a3 g10 g11
           ·
            refine Zd (fun g11 => ?_) (fun g11 => ?_)
            ·
             refine Zd (fun g12 => ?_) (fun g12 => ?_)
             ·
              refine Zd (fun g13 => ?_) (fun g13 => ?_)
              ·
               refine Zd (fun g14 => ?_) (fun g14 => ?_)
               ·
                refine Zd (fun g15 => ?_) (fun g15 => ?_)
                ·
                 refine Zd (fun g16 => ?_) (fun g16 => ?_)
                 ·
                  refine Zd (fun g17 => ?_) (fun g17 => ?_)
                  ·
                   exact Zjo a0 a1 a2 a3 g11 g12 g13 g14 g15 g16 g17
                  ·
                   exact Zjp a0 a1 a2 a3 g11 g12 g13 g14 g15 g16 g17
                 ·
                  exact Zjq a0 a1 a2 a3 g11 g12 g13 g14 g15 g16
                ·
                 exact Zjr a0 a1 a2 a3 g11 g12 g13 g14 g15
               ·
                exact Zjs a0 a1 a2 a3 g11 g12 g13 g14
              ·
               exact Zjt a0 a1 a2 a3 g11 g12 g13
             ·
              exact Zju a0 a1 a2 a3 g11 g12
            ·
             refine Zd (fun g12 => ?_) (fun g12 => ?_)
             ·
              refine Zd (fun g13 => ?_) (fun g13 => ?_)
              ·
               refine Zd (fun g14 => ?_) (fun g14 => ?_)
               ·
                refine Zd (fun g15 => ?_) (fun g15 => ?_)
                ·
                 refine Zd (fun g16 => ?_) (fun g16 => ?_)
                 ·
                  refine Zd (fun g17 => ?_) (fun g17 => ?_)
                  ·
                   refine Zd (fun g18 => ?_) (fun g18 => ?_)
                   ·
                    exact Zjv a0 a1 a2 a3 g12 g13 g14 g15 g16 g17 g18
                   ·
                    exact Zjw a0 a1 a2 a3 g12 g13 g14 g15 g16 g17 g18
                  ·
                   exact Zjx a0 a1 a2 a3 g12 g13 g14 g15 g16 g17
                 ·
                  exact Zjy a0 a1 a2 a3 g12 g13 g14 g15 g16
                ·
                 exact Zjz a0 a1 a2 a3 g12 g13 g14 g15
               ·
                exact Zj0 a0 a1 a2 a3 g12 g13 g14
              ·
               exact Zj1 a0 a1 a2 a3 g12 g13
             ·
              refine Zd (fun g13 => ?_) (fun g13 => ?_)
              ·
               refine Zd (fun g14 => ?_) (fun g14 => ?_)
               ·
                refine Zd (fun g15 => ?_) (fun g15 => ?_)
                ·
                 refine Zd (fun g16 => ?_) (fun g16 => ?_)
                 ·
                  refine Zd (fun g17 => ?_) (fun g17 => ?_)
                  ·
                   refine Zd (fun g18 => ?_) (fun g18 => ?_)
                   ·
                    refine Zd (fun g19 => ?_) (fun g19 => ?_)
                    ·
                     exact Zj2 a0 a1 a2 a3 g13 g14 g15 g16 g17 g18 g19
                    ·
                     exact Zj3 a0 a1 a2 a3 g13 g14 g15 g16 g17 g18 g19
                   ·
                    exact Zj4 a0 a1 a2 a3 g13 g14 g15 g16 g17 g18
                  ·
                   exact Zj5 a0 a1 a2 a3 g13 g14 g15 g16 g17
                 ·
                  exact Zj6 a0 a1 a2 a3 g13 g14 g15 g16
                ·
                 exact Zj7 a0 a1 a2 a3 g13 g14 g15
               ·
                exact Zj8 a0 a1 a2 a3 g13 g14
              ·
               refine Zd (fun g14 => ?_) (fun g14 => ?_)
               ·
                refine Zd (fun g15 => ?_) (fun g15 => ?_)
                ·
                 refine Zd (fun g16 => ?_) (fun g16 => ?_)
                 ·
                  refine Zd (fun g17 => ?_) (fun g17 => ?_)
                  ·
                   refine Zd (fun g18 => ?_) (fun g18 => ?_)
                   ·
                    refine Zd (fun g19 => ?_) (fun g19 => ?_)
                    ·
                     refine Zd (fun g20 => ?_) (fun g20 => ?_)
                     ·
                      exact Zj9 a0 a1 a2 a3 g14 g15 g16 g17 g18 g19 g20
                     ·
                      exact ZjA a0 a1 a2 a3 g14 g15 g16 g17 g18 g19 g20
                    ·
                     exact ZjB a0 a1 a2 a3 g14 g15 g16 g17 g18 g19
                   ·
                    exact ZjC a0 a1 a2 a3 g14 g15 g16 g17 g18
                  ·
                   exact ZjD a0 a1 a2 a3 g14 g15 g16 g17
                 ·
                  exact ZjE a0 a1 a2 a3 g14 g15 g16
                ·
                 exact ZjF a0 a1 a2 a3 g14 g15
               ·
                refine Zd (fun g15 => ?_) (fun g15 => ?_)
                ·
                 refine Zd (fun g16 => ?_) (fun g16 => ?_)
                 ·
                  refine Zd (fun g17 => ?_) (fun g17 => ?_)
                  ·
                   refine Zd (fun g18 => ?_) (fun g18 => ?_)
                   ·
                    refine Zd (fun g19 => ?_) (fun g19 => ?_)
                    ·
                     refine Zd (fun g20 => ?_) (fun g20 => ?_)
                     ·
                      refine Zd (fun g21 => ?_) (fun g21 => ?_)
                      ·
                       exact ZjG a0 a1 a2 a3 g15 g16 g17 g18 g19 g20 g21
                      ·
                       exact ZjH a0 a1 a2 a3 g15 g16 g17 g18 g19 g20 g21
                     ·
                      exact ZjI a0 a1 a2 a3 g15 g16 g17 g18 g19 g20
                    ·
                     exact ZjJ a0 a1 a2 a3 g15 g16 g17 g18 g19
                   ·
                    exact ZjK a0 a1 a2 a3 g15 g16 g17 g18
                  ·
                   exact ZjL a0 a1 a2 a3 g15 g16 g17
                 ·
                  exact ZjM a0 a1 a2 a3 g15 g16
                ·
                 refine Zd (fun g16 => ?_) (fun g16 => ?_)
                 ·
                  refine Zd (fun g17 => ?_) (fun g17 => ?_)
                  ·
                   refine Zd (fun g18 => ?_) (fun g18 => ?_)
                   ·
                    refine Zd (fun g19 => ?_) (fun g19 => ?_)
                    ·
                     refine Zd (fun g20 => ?_) (fun g20 => ?_)
                     ·
                      refine Zd (fun g21 => ?_) (fun g21 => ?_)
                      ·
                       refine Zd (fun g22 => ?_) (fun g22 => ?_)
                       ·
                        exact ZjN a0 a1 a2 a3 g16 g17 g18 g19 g20 g21 g22
                       ·
                        exact ZjO a0 a1 a2 a3 g16 g17 g18 g19 g20 g21 g22
                      ·
                       exact ZjP a0 a1 a2 a3 g16 g17 g18 g19 g20 g21
                     ·
                      exact Zhf a0 a1 a2 a3 g16 g17 g18 g19 g20
                    ·
                     exact Zhg a0 a1 a2 a3 g16 g17 g18 g19
                   ·
                    exact Zhh a0 a1 a2 a3 g16 g17 g18
                  ·
                   exact Zhi a0 a1 a2 a3 g16 g17
                 ·
                  refine Zd (fun g17 => ?_) (fun g17 => ?_)
                  ·
                   refine Zd (fun g18 => ?_) (fun g18 => ?_)
                   ·
                    refine Zd (fun g19 => ?_) (fun g19 => ?_)
                    ·
                     refine Zd (fun g20 => ?_) (fun g20 => ?_)
                     ·
                      refine Zd (fun g21 => ?_) (fun g21 => ?_)
                      ·
                       refine Zd (fun g22 => ?_) (fun g22 => ?_)
                       ·
                        refine Zd (fun g23 => ?_) (fun g23 => ?_)
                        ·
                         exact Zhj a0 a1 a2 a3 g17 g18 g19 g20 g21 g22 g23
                        ·
                         exact Zhk a0 a1 a2 a3 g17 g18 g19 g20 g21 g22 g23
                       ·
                        exact Zhl a0 a1 a2 a3 g17 g18 g19 g20 g21 g22
                      ·
                       exact Zhm a0 a1 a2 a3 g17 g18 g19 g20 g21
                     ·
                      exact Zhn a0 a1 a2 a3 g17 g18 g19 g20
                    ·
                     exact Zho a0 a1 a2 a3 g17 g18 g19
                   ·
                    exact Zhp a0 a1 a2 a3 g17 g18
                  ·
                   refine Zd (fun g18 => ?_) (fun g18 => ?_)
                   ·
                    refine Zd (fun g19 => ?_) (fun g19 => ?_)
                    ·
                     refine Zd (fun g20 => ?_) (fun g20 => ?_)
                     ·
                      refine Zd (fun g21 => ?_) (fun g21 => ?_)
                      ·
                       refine Zd (fun g22 => ?_) (fun g22 => ?_)
                       ·
                        refine Zd (fun g23 => ?_) (fun g23 => ?_)
                        ·
                         refine Zd (fun g24 => ?_) (fun g24 => ?_)
                         ·
                          exact Zhq a0 a1 a2 a3 g18 g19 g20 g21 g22 g23 g24
                         ·
                          exact Zhr a0 a1 a2 a3 g18 g19 g20 g21 g22 g23 g24
                        ·
                         exact Zhs a0 a1 a2 a3 g18 g19 g20 g21 g22 g23
                       ·
                        exact Zht a0 a1 a2 a3 g18 g19 g20 g21 g22
                      ·
                       exact Zhu a0 a1 a2 a3 g18 g19 g20 g21
                     ·
                      exact Zhv a0 a1 a2 a3 g18 g19 g20
                    ·
                     exact Zhw a0 a1 a2 a3 g18 g19
                   ·
                    refine Zd (fun g19 => ?_) (fun g19 => ?_)
                    ·
                     refine Zd (fun g20 => ?_) (fun g20 => ?_)
                     ·
                      refine Zd (fun g21 => ?_) (fun g21 => ?_)
                      ·
                       refine Zd (fun g22 => ?_) (fun g22 => ?_)
                       ·
                        refine Zd (fun g23 => ?_) (fun g23 => ?_)
                        ·
                         refine Zd (fun g24 => ?_) (fun g24 => ?_)
                         ·
                          refine Zd (fun g25 => ?_) (fun g25 => ?_)
                          ·
                           exact Zhx a0 a1 a2 a3 g19 g20 g21 g22 g23 g24 g25
                          ·
                           exact Zhy a0 a1 a2 a3 g19 g20 g21 g22 g23 g24 g25
                         ·
                          exact Zhz a0 a1 a2 a3 g19 g20 g21 g22 g23 g24
                        ·
                         exact Zh0 a0 a1 a2 a3 g19 g20 g21 g22 g23
                       ·
                        exact Zh1 a0 a1 a2 a3 g19 g20 g21 g22
                      ·
                       exact Zh2 a0 a1 a2 a3 g19 g20 g21
                     ·
                      exact Zh3 a0 a1 a2 a3 g19 g20
                    ·
                     refine Zd (fun g20 => ?_) (fun g20 => ?_)
                     ·
                      refine Zd (fun g21 => ?_) (fun g21 => ?_)
                      ·
                       refine Zd (fun g22 => ?_) (fun g22 => ?_)
                       ·
                        refine Zd (fun g23 => ?_) (fun g23 => ?_)
                        ·
                         refine Zd (fun g24 => ?_) (fun g24 => ?_)
                         ·
                          refine Zd (fun g25 => ?_) (fun g25 => ?_)
                          ·
                           refine Zd (fun g26 => ?_) (fun g26 => ?_)
                           ·
                            exact Zh4 a0 a1 a2 a3 g20 g21 g22 g23 g24 g25 g26
                           ·
                            exact Zh5 a0 a1 a2 a3 g20 g21 g22 g23 g24 g25 g26
                          ·
                           exact Zh6 a0 a1 a2 a3 g20 g21 g22 g23 g24 g25
                         ·
                          exact Zh7 a0 a1 a2 a3 g20 g21 g22 g23 g24
                        ·
                         exact Zh8 a0 a1 a2 a3 g20 g21 g22 g23
                       ·
                        exact Zh9 a0 a1 a2 a3 g20 g21 g22
                      ·
                       exact ZhA a0 a1 a2 a3 g20 g21
                     ·
                      refine Zd (fun g21 => ?_) (fun g21 => ?_)
                      ·
                       refine Zd (fun g22 => ?_) (fun g22 => ?_)
                       ·
                        refine Zd (fun g23 => ?_) (fun g23 => ?_)
                        ·
                         refine Zd (fun g24 => ?_) (fun g24 => ?_)
                         ·
                          refine Zd (fun g25 => ?_) (fun g25 => ?_)
                          ·
                           refine Zd (fun g26 => ?_) (fun g26 => ?_)
                           ·
                            refine Zd (fun g27 => ?_) (fun g27 => ?_)
                            ·
                             exact ZhB a0 a1 a2 a3 g21 g22 g23 g24 g25 g26 g27
                            ·
                             exact ZhC a0 a1 a2 a3 g21 g22 g23 g24 g25 g26 g27
                           ·
                            exact ZhD a0 a1 a2 a3 g21 g22 g23 g24 g25 g26
                          ·
                           exact ZhE a0 a1 a2 a3 g21 g22 g23 g24 g25
                         ·
                          exact ZhF a0 a1 a2 a3 g21 g22 g23 g24
                        ·
                         exact ZhG a0 a1 a2 a3 g21 g22 g23
                       ·
                        exact ZhH a0 a1 a2 a3 g21 g22
                      ·
                       refine Zd (fun g22 => ?_) (fun g22 => ?_)
                       ·
                        refine Zd (fun g23 => ?_) (fun g23 => ?_)
                        ·
                         refine Zd (fun g24 => ?_) (fun g24 => ?_)
                         ·
                          refine Zd (fun g25 => ?_) (fun g25 => ?_)
                          ·
                           refine Zd (fun g26 => ?_) (fun g26 => ?_)
                           ·
                            refine Zd (fun g27 => ?_) (fun g27 => ?_)
                            ·
                             exact ZhI a0 a1 a2 a3 g0 g1 g2 g3 g4 g5 g6 g7 g8 g9 g10 g11 g12 g13 g14 g15 g16 g17 g18 g19 g20 g21 g22 g23 g24 g25 g26 g27
                            ·
                             exact ZhJ a0 a1 a2 a3 g0 g1 g2 g3 g4 g5 g6 g7 g8 g9 g10 g11 g12 g13 g14 g15 g16 g17 g18 g19 g20 g21 g22 g23 g24 g25 g26 g27
                           ·
                            exact ZhK a0 a1 a2 a3 g0 g1 g2 g3 g4 g5 g6 g7 g8 g9 g10 g11 g12 g13 g14 g15 g16 g17 g18 g19 g20 g21 g22 g23 g24 g25 g26
                          ·
                           exact ZhL a0 a1 a2 a3 g0 g1 g2 g3 g4 g5 g6 g7 g8 g9 g10 g11 g12 g13 g14 g15 g16 g17 g18 g19 g20 g21 g22 g23 g24 g25
                         ·
                          exact ZhM a0 a1 a2 a3 g0 g1 g2 g3 g4 g5 g6 g7 g8 g9 g10 g11 g12 g13 g14 g15 g16 g17 g18 g19 g20 g21 g22 g23 g24
                        ·
                         exact ZhN a0 a1 a2 a3 g0 g1 g2 g3 g4 g5 g6 g7 g8 g9 g10 g11 g12 g13 g14 g15 g16 g17 g18 g19 g20 g21 g22 g23
                       ·
                        exact ZhO a0 a1 a2 a3 g0 g1 g2 g3 g4 g5 g6 g7 g8 g9 g10 g11 g12 g13 g14 g15 g16 g17 g18 g19 g20 g21 g22

theorem ZjQ (a0 a1 a2 a3 : Int) (N : Nat) (r : Zc) (h : Zp a0 a1 a2 a3 N = some r) : LSpec Tryz.prog 11 #[Value.agg #[vi a0, vi a1, vi a2, vi a3]] [] (Zdv a0 a1 a2 a3 r) (ZcS a0 a1 a2 a3 r) :=
 Zln a0 a1 a2 a3 N r h

noncomputable def ZA (a0 a1 a2 a3 w0 : Int) (n : Nat) : Zcb := .call [] (vi w0) [] 0
def Z9 (A : Array Value) (a0 a1 a2 a3 w0 : Int) (n : Nat) : Prop := ZaK Tryz.prog 11 A [] (vi w0) [] n 0

theorem ZB (A : Array Value) (a0 a1 a2 a3 w0 : Int) (N : Nat) (h : Zp a0 a1 a2 a3 N = some (.r0 w0)) (n : Nat) (hA : A = #[Value.agg #[vi a0, vi a1, vi a2, vi a3]]) (hnd : ([] : List Nat).Nodup) (hlt : ∀ k ∈ ([] : List Nat), k < n) : Z9 A a0 a1 a2 a3 w0  n :=
 Zde hA (LSpec.callL (show LSpec Tryz.prog 11 #[Value.agg #[vi a0, vi a1, vi a2, vi a3]] [] (vi w0) [] from ZjQ a0 a1 a2 a3 N _ h) [] n [] rfl hnd hlt (show 0 ≤ 0 from by decide) (show ∀ j ∈ ([] : List Nat), j < 0 from by decide) (by rfl) trivial (by rfl) trivial trivial rfl rfl rfl rfl rfl)

noncomputable def ZeZ (a0 a1 a2 a3 : Int) : Z0 → Value
 | .r0 w0 w1 => Value.tuple #[Value.string (Za w0), vi w1]
noncomputable def Zes (a0 a1 a2 a3 : Int) : Z0 → List (Option AObj)
 | .r0 w0 w1 => []

abbrev ZS (a0 a1 a2 a3 : Int) (r : Z0) : Prop := Gx Tryz.prog 7 [] #[Value.agg #[vi a0, vi a1, vi a2, vi a3]] (ZeZ a0 a1 a2 a3) (Zes a0 a1 a2 a3) (some r)
theorem Zaz {a0 : Int} {a1 : Int} {a2 : Int} {a3 : Int} {r : Z0} {orc : Orc} {u : Value} {ob : List (Bool × Bool)} (hev : ZaG [] (ZaN Tryz.prog ZX 7 [] #[Value.agg #[vi a0, vi a1, vi a2, vi a3]] 4000 orc) = some (u, [], ob)) (ho : ∀ p ∈ ob, p.1 = p.2) (hv : ZeZ a0 a1 a2 a3 r = Za2 (rho [] far) 3 u ∧ Zam 3 u = true) (hp : Zes a0 a1 a2 a3 r = [] := by rfl) : ZS a0 a1 a2 a3 r :=
 Zf5 Zdu (live := []) (bl := []) hev ho (by rw [hp]; rfl) (by decide) (by rfl) hv (by rw [hp]; trivial) (by rw [hp]; exact ZbW _ rfl)

theorem Zpo (a0 a1 a2 a3 : Int) (N : Nat) (y0_0 : Int) (c0 : Zp (a0) (a1) (a2) (a3) N = some (.r0 y0_0)) (g1 : ¬ (y0_0 = 0)) : ZS a0 a1 a2 a3 (.r0 (([] : List Int)) (y0_0) : Z0) := Zaz (orc := (Zk [(0, true)] [] [] [] [(0, (ZA (a0) (a1) (a2) (a3)  y0_0  1))])) (u := Value.tuple #[Value.string ⟨#[]⟩, vi y0_0]) (ob := [((y0_0 != 0), true), (dP (Z9 #[Value.agg #[vi a0, vi a1, vi a2, vi a3]] (a0) (a1) (a2) (a3)  y0_0  1), true)]) (by kernel_rfl) (oD <| Zb (Zg (ZB #[Value.agg #[vi a0, vi a1, vi a2, vi a3]] (a0) (a1) (a2) (a3)  y0_0 N c0  1 rfl (by decide) (by decide))) Ze) ⟨Eq.trans (show (Value.tuple #[Value.string (Za ([] : List Int)), vi y0_0] : Value) = Value.tuple #[Value.string ⟨#[]⟩, vi y0_0] from (Z7 (Zt rfl (Zt rfl rfl)))) (by rfl), by rfl⟩

theorem ZfR {a0 : Int} {a1 : Int} {a2 : Int} {a3 : Int} {orc : Orc} {ob : List (Bool × Bool)} (hev : ZaG [] (ZaN Tryz.prog ZX 7 [] #[Value.agg #[vi a0, vi a1, vi a2, vi a3]] 4000 orc) = some (Value.tuple #[Value.string ⟨#[]⟩, vq], [], ob)) (ho : ∀ p ∈ ob, p.1 = p.2) : ZS a0 a1 a2 a3 (.r0 (([] : List Int)) (0) : Z0) := Zaz hev ho ⟨Eq.trans (show (Value.tuple #[Value.string (Za ([] : List Int)), vq] : Value) = Value.tuple #[Value.string ⟨#[]⟩, vq] from (Z7 (Zt rfl (Zt rfl rfl)))) (by rfl), by rfl⟩

theorem Zpp (a0 a1 a2 a3 : Int) (N : Nat) (y0_0 : Int) (c0 : Zp (a0) (a1) (a2) (a3) N = some (.r0 y0_0)) (g1 : ¬ (¬ (y0_0 = 0))) (g2 : a0 < 0) : ZS a0 a1 a2 a3 (.r0 (([] : List Int)) (0) : Z0) := ZfR (orc := (Zk [(0, false), (1, true), (2, false), (3, false), (4, false), (5, false), (6, false), (7, false), (8, true)] [] [] [] [(0, (ZA (a0) (a1) (a2) (a3)  y0_0  1))])) (ob := [tY (a0 < 0), ((a0 == 14), false), ((a0 == 13), false), ((a0 == 11), false), ((a0 == 9), false), ((a0 == 8), false), ((a0 == 1), false), tY (a0 < 0), ((y0_0 != 0), false), (dP (Z9 #[Value.agg #[vi a0, vi a1, vi a2, vi a3]] (a0) (a1) (a2) (a3)  y0_0  1), true)]) (by kernel_rfl) (oY <| oF <| oF <| oF <| oF <| oF <| oF <| oY <| oE <| Zb (Zg (ZB #[Value.agg #[vi a0, vi a1, vi a2, vi a3]] (a0) (a1) (a2) (a3)  y0_0 N c0  1 rfl (by decide) (by decide))) Ze)

theorem Zpq (a0 a1 a2 a3 : Int) (N : Nat) (y0_0 : Int) (c0 : Zp (a0) (a1) (a2) (a3) N = some (.r0 y0_0)) (g1 : ¬ (¬ (y0_0 = 0))) (g2 : ¬ (a0 < 0)) (g3 : 21 ≤ a0) : ZS a0 a1 a2 a3 (.r0 (([] : List Int)) (0) : Z0) := ZfR (orc := (Zk [(0, false), (1, false), (2, true), (3, false), (4, false), (5, false), (6, false), (7, false), (8, false), (9, false), (10, true)] [] [] [] [(0, (ZA (a0) (a1) (a2) (a3)  y0_0  1))])) (ob := [tY (a0 ≥ 21), tN (a0 < 0), ((a0 == 14), false), ((a0 == 13), false), ((a0 == 11), false), ((a0 == 9), false), ((a0 == 8), false), ((a0 == 1), false), tY (a0 ≥ 21), tN (a0 < 0), ((y0_0 != 0), false), (dP (Z9 #[Value.agg #[vi a0, vi a1, vi a2, vi a3]] (a0) (a1) (a2) (a3)  y0_0  1), true)]) (by kernel_rfl) (oY <| oN <| oF <| oF <| oF <| oF <| oF <| oF <| oY <| oN <| oE <| Zb (Zg (ZB #[Value.agg #[vi a0, vi a1, vi a2, vi a3]] (a0) (a1) (a2) (a3)  y0_0 N c0  1 rfl (by decide) (by decide))) Ze)

theorem Zpr (a0 a1 a2 a3 : Int) (N : Nat) (y0_0 : Int) (c0 : Zp (a0) (a1) (a2) (a3) N = some (.r0 y0_0)) (g1 : ¬ (¬ (y0_0 = 0))) (g4 : a0 = 0) : ZS a0 a1 a2 a3 (.r0 (([] : List Int)) (0) : Z0) := ZfR (orc := (Zk [(0, false), (1, false), (2, false), (3, false), (4, false), (5, false), (6, false), (7, false), (8, false), (9, false), (10, false)] [] [(0, 0), (1, 0)] [] [(0, (ZA (a0) (a1) (a2) (a3)  y0_0  1))])) (ob := [(Nat.blt 0 21, true), (a0 == Int.ofNat 0, true), tN (a0 ≥ 21), tN (a0 < 0), ((a0 == 14), false), ((a0 == 13), false), ((a0 == 11), false), ((a0 == 9), false), ((a0 == 8), false), ((a0 == 1), false), (Nat.blt 0 21, true), (a0 == Int.ofNat 0, true), tN (a0 ≥ 21), tN (a0 < 0), ((y0_0 != 0), false), (dP (Z9 #[Value.agg #[vi a0, vi a1, vi a2, vi a3]] (a0) (a1) (a2) (a3)  y0_0  1), true)]) (by kernel_rfl) (oB <| oK <| oN <| oN <| oF <| oF <| oF <| oF <| oF <| oF <| oB <| oK <| oN <| oN <| oE <| Zb (Zg (ZB #[Value.agg #[vi a0, vi a1, vi a2, vi a3]] (a0) (a1) (a2) (a3)  y0_0 N c0  1 rfl (by decide) (by decide))) Ze)

theorem Zps (a0 a1 a2 a3 : Int) (N : Nat) (y0_0 : Int) (c0 : Zp (a0) (a1) (a2) (a3) N = some (.r0 y0_0)) (g1 : ¬ (¬ (y0_0 = 0))) (g5 : a0 = 1) (g6 : -9223372036854775808 ≤ a1) (g7 : a1 ≤ 9223372036854775807) (g8 : (Zf a1).length ≤ 21) (g9 : -9223372036854775808 ≤ a2) (g10 : a2 ≤ 9223372036854775807) (g11 : (Zf a2).length ≤ 21) : ZS a0 a1 a2 a3 (.r0 (((((bl [99, 111, 110, 115, 116, 32]) ++ ((bl [114]) ++ (Zf a1))) ++ (bl [32])) ++ (Zf a2))) (0) : Z0) := Zaz (orc := (Zk [(0, false), (1, false), (2, false), (3, true), (5, true), (9, true), (10, true)] [] [(0, 1)] [] [(0, (ZA (a0) (a1) (a2) (a3)  y0_0  1))])) (u := Value.tuple #[Value.string (((Za (bl [99, 111, 110, 115, 116])) ++ (Za (bl [32])) ++ ((Za (bl [114])) ++ (Za (Zf a1)))) ++ (Za (bl [32])) ++ (Za (Zf a2))), vq]) (ob := [((Nat.ble ((((Za (bl [99, 111, 110, 115, 116])) ++ (Za (bl [32])) ++ ((Za (bl [114])) ++ (Za (Zf a1)))) ++ (Za (bl [32])) ++ (Za (Zf a2)))).size 140737488355328), true), ((decide (-9223372036854775808 ≤ a2) && decide (a2 ≤ 9223372036854775807)), true), (dP (((((Za (bl [114]))).size + ((Za (Zf a1))).size : Nat) : Int) ≤ IntKind.i64.max), true), ((decide (-9223372036854775808 ≤ a1) && decide (a1 ≤ 9223372036854775807)), true), ((a0 == 1), true), (Nat.blt 1 21, true), (a0 == Int.ofNat 1, true), tN (a0 ≥ 21), tN (a0 < 0), ((y0_0 != 0), false), (dP (Z9 #[Value.agg #[vi a0, vi a1, vi a2, vi a3]] (a0) (a1) (a2) (a3)  y0_0  1), true)]) (by kernel_rfl) (Zb (ZaW (M := ((((bl [99, 111, 110, 115, 116, 32]) ++ ((bl [114]) ++ (Zf a1))) ++ (bl [32])) ++ (Zf a2))) sE ltA) <| Zb (Zab (by omega) (by omega)) <| Zb (Zg (Zm (x := (bl [114])) (y := (Zf a1)) rfl rfl ltA)) <| Zb (Zab (by omega) (by omega)) <| oT <| oB <| oK <| oN <| oN <| oE <| Zb (Zg (ZB #[Value.agg #[vi a0, vi a1, vi a2, vi a3]] (a0) (a1) (a2) (a3)  y0_0 N c0  1 rfl (by decide) (by decide))) Ze) ⟨Eq.trans (show (Value.tuple #[Value.string (Za ((((bl [99, 111, 110, 115, 116, 32]) ++ ((bl [114]) ++ (Zf a1))) ++ (bl [32])) ++ (Zf a2))), vq] : Value) = Value.tuple #[Value.string (((Za (bl [99, 111, 110, 115, 116])) ++ (Za (bl [32])) ++ ((Za (bl [114])) ++ (Za (Zf a1)))) ++ (Za (bl [32])) ++ (Za (Zf a2))), vq] from (Z7 (Zt (congrArg Value.string sE) (Zt rfl rfl)))) (by rfl), by rfl⟩

theorem Zpt (a0 a1 a2 a3 : Int) (N : Nat) (y0_0 : Int) (c0 : Zp (a0) (a1) (a2) (a3) N = some (.r0 y0_0)) (g1 : ¬ (¬ (y0_0 = 0))) (g6 : a0 = 2) (g7 : -9223372036854775808 ≤ a1) (g8 : a1 ≤ 9223372036854775807) (g9 : (Zf a1).length ≤ 21) : ZS a0 a1 a2 a3 (.r0 (((bl [110, 105, 108, 32]) ++ ((bl [114]) ++ (Zf a1)))) (0) : Z0) := Zaz (orc := (Zk [(0, false), (1, false), (2, false), (3, false), (4, false), (5, false), (6, false), (7, false), (8, false), (9, false), (10, false), (16, true), (17, true)] [] [(0, 2), (1, 2)] [] [(0, (ZA (a0) (a1) (a2) (a3)  y0_0  1))])) (u := Value.tuple #[Value.string ((Za (bl [110, 105, 108])) ++ (Za (bl [32])) ++ ((Za (bl [114])) ++ (Za (Zf a1)))), vq]) (ob := [((Nat.ble (((Za (bl [110, 105, 108])) ++ (Za (bl [32])) ++ ((Za (bl [114])) ++ (Za (Zf a1))))).size 140737488355328), true), (dP (((((Za (bl [114]))).size + ((Za (Zf a1))).size : Nat) : Int) ≤ IntKind.i64.max), true), ((decide (-9223372036854775808 ≤ a1) && decide (a1 ≤ 9223372036854775807)), true), (Nat.blt 2 21, true), (a0 == Int.ofNat 2, true), tN (a0 ≥ 21), tN (a0 < 0), ((a0 == 14), false), ((a0 == 13), false), ((a0 == 11), false), ((a0 == 9), false), ((a0 == 8), false), ((a0 == 1), false), (Nat.blt 2 21, true), (a0 == Int.ofNat 2, true), tN (a0 ≥ 21), tN (a0 < 0), ((y0_0 != 0), false), (dP (Z9 #[Value.agg #[vi a0, vi a1, vi a2, vi a3]] (a0) (a1) (a2) (a3)  y0_0  1), true)]) (by kernel_rfl) (Zb (ZaW (M := ((bl [110, 105, 108, 32]) ++ ((bl [114]) ++ (Zf a1)))) sE ltA) <| Zb (Zg (Zm (x := (bl [114])) (y := (Zf a1)) rfl rfl ltA)) <| Zb (Zab (by omega) (by omega)) <| oB <| oK <| oN <| oN <| oF <| oF <| oF <| oF <| oF <| oF <| oB <| oK <| oN <| oN <| oE <| Zb (Zg (ZB #[Value.agg #[vi a0, vi a1, vi a2, vi a3]] (a0) (a1) (a2) (a3)  y0_0 N c0  1 rfl (by decide) (by decide))) Ze) ⟨Eq.trans (show (Value.tuple #[Value.string (Za ((bl [110, 105, 108, 32]) ++ ((bl [114]) ++ (Zf a1)))), vq] : Value) = Value.tuple #[Value.string ((Za (bl [110, 105, 108])) ++ (Za (bl [32])) ++ ((Za (bl [114])) ++ (Za (Zf a1)))), vq] from (Z7 (Zt (congrArg Value.string sE) (Zt rfl rfl)))) (by rfl), by rfl⟩

theorem Zpu (a0 a1 a2 a3 : Int) (N : Nat) (y0_0 : Int) (c0 : Zp (a0) (a1) (a2) (a3) N = some (.r0 y0_0)) (g1 : ¬ (¬ (y0_0 = 0))) (g7 : a0 = 3) (g8 : -9223372036854775808 ≤ a1) (g9 : a1 ≤ 9223372036854775807) (g10 : (Zf a1).length ≤ 21) (g11 : -9223372036854775808 ≤ a2) (g12 : a2 ≤ 9223372036854775807) (g13 : (Zf a2).length ≤ 21) : ZS a0 a1 a2 a3 (.r0 (((((bl [109, 111, 118, 101, 32]) ++ ((bl [114]) ++ (Zf a1))) ++ (bl [32])) ++ ((bl [114]) ++ (Zf a2)))) (0) : Z0) := Zaz (orc := (Zk [(0, false), (1, false), (2, false), (3, false), (4, false), (5, false), (6, false), (7, false), (8, false), (9, false), (10, false), (15, true), (17, true), (18, true)] [] [(0, 3), (1, 3)] [] [(0, (ZA (a0) (a1) (a2) (a3)  y0_0  1))])) (u := Value.tuple #[Value.string (((Za (bl [109, 111, 118, 101])) ++ (Za (bl [32])) ++ ((Za (bl [114])) ++ (Za (Zf a1)))) ++ (Za (bl [32])) ++ ((Za (bl [114])) ++ (Za (Zf a2)))), vq]) (ob := [((Nat.ble ((((Za (bl [109, 111, 118, 101])) ++ (Za (bl [32])) ++ ((Za (bl [114])) ++ (Za (Zf a1)))) ++ (Za (bl [32])) ++ ((Za (bl [114])) ++ (Za (Zf a2))))).size 140737488355328), true), (dP (((((Za (bl [114]))).size + ((Za (Zf a2))).size : Nat) : Int) ≤ IntKind.i64.max), true), ((decide (-9223372036854775808 ≤ a2) && decide (a2 ≤ 9223372036854775807)), true), (dP (((((Za (bl [114]))).size + ((Za (Zf a1))).size : Nat) : Int) ≤ IntKind.i64.max), true), ((decide (-9223372036854775808 ≤ a1) && decide (a1 ≤ 9223372036854775807)), true), (Nat.blt 3 21, true), (a0 == Int.ofNat 3, true), tN (a0 ≥ 21), tN (a0 < 0), ((a0 == 14), false), ((a0 == 13), false), ((a0 == 11), false), ((a0 == 9), false), ((a0 == 8), false), ((a0 == 1), false), (Nat.blt 3 21, true), (a0 == Int.ofNat 3, true), tN (a0 ≥ 21), tN (a0 < 0), ((y0_0 != 0), false), (dP (Z9 #[Value.agg #[vi a0, vi a1, vi a2, vi a3]] (a0) (a1) (a2) (a3)  y0_0  1), true)]) (by kernel_rfl) (Zb (ZaW (M := ((((bl [109, 111, 118, 101, 32]) ++ ((bl [114]) ++ (Zf a1))) ++ (bl [32])) ++ ((bl [114]) ++ (Zf a2)))) sE ltA) <| Zb (Zg (Zm (x := (bl [114])) (y := (Zf a2)) rfl rfl ltA)) <| Zb (Zab (by omega) (by omega)) <| Zb (Zg (Zm (x := (bl [114])) (y := (Zf a1)) rfl rfl ltA)) <| Zb (Zab (by omega) (by omega)) <| oB <| oK <| oN <| oN <| oF <| oF <| oF <| oF <| oF <| oF <| oB <| oK <| oN <| oN <| oE <| Zb (Zg (ZB #[Value.agg #[vi a0, vi a1, vi a2, vi a3]] (a0) (a1) (a2) (a3)  y0_0 N c0  1 rfl (by decide) (by decide))) Ze) ⟨Eq.trans (show (Value.tuple #[Value.string (Za ((((bl [109, 111, 118, 101, 32]) ++ ((bl [114]) ++ (Zf a1))) ++ (bl [32])) ++ ((bl [114]) ++ (Zf a2)))), vq] : Value) = Value.tuple #[Value.string (((Za (bl [109, 111, 118, 101])) ++ (Za (bl [32])) ++ ((Za (bl [114])) ++ (Za (Zf a1)))) ++ (Za (bl [32])) ++ ((Za (bl [114])) ++ (Za (Zf a2)))), vq] from (Z7 (Zt (congrArg Value.string sE) (Zt rfl rfl)))) (by rfl), by rfl⟩

theorem Zpv (a0 a1 a2 a3 : Int) (N : Nat) (y0_0 : Int) (c0 : Zp (a0) (a1) (a2) (a3) N = some (.r0 y0_0)) (g1 : ¬ (¬ (y0_0 = 0))) (g8 : a0 = 4) (g9 : -9223372036854775808 ≤ a1) (g10 : a1 ≤ 9223372036854775807) (g11 : (Zf a1).length ≤ 21) (g12 : -9223372036854775808 ≤ a2) (g13 : a2 ≤ 9223372036854775807) (g14 : (Zf a2).length ≤ 21) (g15 : -9223372036854775808 ≤ a3) (g16 : a3 ≤ 9223372036854775807) (g17 : (Zf a3).length ≤ 21) : ZS a0 a1 a2 a3 (.r0 (((((((bl [97, 100, 100, 32]) ++ ((bl [114]) ++ (Zf a1))) ++ (bl [32])) ++ ((bl [114]) ++ (Zf a2))) ++ (bl [32])) ++ ((bl [114]) ++ (Zf a3)))) (0) : Z0) := Zaz (orc := (Zk [(0, false), (1, false), (2, false), (3, false), (4, false), (5, false), (6, false), (7, false), (8, false), (9, false), (10, false), (14, true), (16, true), (18, true), (19, true)] [] [(0, 4), (1, 4)] [] [(0, (ZA (a0) (a1) (a2) (a3)  y0_0  1))])) (u := Value.tuple #[Value.string ((((Za (bl [97, 100, 100])) ++ (Za (bl [32])) ++ ((Za (bl [114])) ++ (Za (Zf a1)))) ++ (Za (bl [32])) ++ ((Za (bl [114])) ++ (Za (Zf a2)))) ++ (Za (bl [32])) ++ ((Za (bl [114])) ++ (Za (Zf a3)))), vq]) (ob := [((Nat.ble (((((Za (bl [97, 100, 100])) ++ (Za (bl [32])) ++ ((Za (bl [114])) ++ (Za (Zf a1)))) ++ (Za (bl [32])) ++ ((Za (bl [114])) ++ (Za (Zf a2)))) ++ (Za (bl [32])) ++ ((Za (bl [114])) ++ (Za (Zf a3))))).size 140737488355328), true), (dP (((((Za (bl [114]))).size + ((Za (Zf a3))).size : Nat) : Int) ≤ IntKind.i64.max), true), ((decide (-9223372036854775808 ≤ a3) && decide (a3 ≤ 9223372036854775807)), true), (dP (((((Za (bl [114]))).size + ((Za (Zf a2))).size : Nat) : Int) ≤ IntKind.i64.max), true), ((decide (-9223372036854775808 ≤ a2) && decide (a2 ≤ 9223372036854775807)), true), (dP (((((Za (bl [114]))).size + ((Za (Zf a1))).size : Nat) : Int) ≤ IntKind.i64.max), true), ((decide (-9223372036854775808 ≤ a1) && decide (a1 ≤ 9223372036854775807)), true), (Nat.blt 4 21, true), (a0 == Int.ofNat 4, true), tN (a0 ≥ 21), tN (a0 < 0), ((a0 == 14), false), ((a0 == 13), false), ((a0 == 11), false), ((a0 == 9), false), ((a0 == 8), false), ((a0 == 1), false), (Nat.blt 4 21, true), (a0 == Int.ofNat 4, true), tN (a0 ≥ 21), tN (a0 < 0), ((y0_0 != 0), false), (dP (Z9 #[Value.agg #[vi a0, vi a1, vi a2, vi a3]] (a0) (a1) (a2) (a3)  y0_0  1), true)]) (by kernel_rfl) (Zb (ZaW (M := ((((((bl [97, 100, 100, 32]) ++ ((bl [114]) ++ (Zf a1))) ++ (bl [32])) ++ ((bl [114]) ++ (Zf a2))) ++ (bl [32])) ++ ((bl [114]) ++ (Zf a3)))) sE ltA) <| Zb (Zg (Zm (x := (bl [114])) (y := (Zf a3)) rfl rfl ltA)) <| Zb (Zab (by omega) (by omega)) <| Zb (Zg (Zm (x := (bl [114])) (y := (Zf a2)) rfl rfl ltA)) <| Zb (Zab (by omega) (by omega)) <| Zb (Zg (Zm (x := (bl [114])) (y := (Zf a1)) rfl rfl ltA)) <| Zb (Zab (by omega) (by omega)) <| oB <| oK <| oN <| oN <| oF <| oF <| oF <| oF <| oF <| oF <| oB <| oK <| oN <| oN <| oE <| Zb (Zg (ZB #[Value.agg #[vi a0, vi a1, vi a2, vi a3]] (a0) (a1) (a2) (a3)  y0_0 N c0  1 rfl (by decide) (by decide))) Ze) ⟨Eq.trans (show (Value.tuple #[Value.string (Za ((((((bl [97, 100, 100, 32]) ++ ((bl [114]) ++ (Zf a1))) ++ (bl [32])) ++ ((bl [114]) ++ (Zf a2))) ++ (bl [32])) ++ ((bl [114]) ++ (Zf a3)))), vq] : Value) = Value.tuple #[Value.string ((((Za (bl [97, 100, 100])) ++ (Za (bl [32])) ++ ((Za (bl [114])) ++ (Za (Zf a1)))) ++ (Za (bl [32])) ++ ((Za (bl [114])) ++ (Za (Zf a2)))) ++ (Za (bl [32])) ++ ((Za (bl [114])) ++ (Za (Zf a3)))), vq] from (Z7 (Zt (congrArg Value.string sE) (Zt rfl rfl)))) (by rfl), by rfl⟩

theorem Zmo (a0 a1 a2 a3 : Int) (N : Nat) (y0_0 : Int) (c0 : Zp (a0) (a1) (a2) (a3) N = some (.r0 y0_0)) (g1 : ¬ (¬ (y0_0 = 0))) (g9 : a0 = 5) (g10 : -9223372036854775808 ≤ a1) (g11 : a1 ≤ 9223372036854775807) (g12 : (Zf a1).length ≤ 21) (g13 : -9223372036854775808 ≤ a2) (g14 : a2 ≤ 9223372036854775807) (g15 : (Zf a2).length ≤ 21) (g16 : -9223372036854775808 ≤ a3) (g17 : a3 ≤ 9223372036854775807) (g18 : (Zf a3).length ≤ 21) : ZS a0 a1 a2 a3 (.r0 (((((((bl [115, 117, 98, 32]) ++ ((bl [114]) ++ (Zf a1))) ++ (bl [32])) ++ ((bl [114]) ++ (Zf a2))) ++ (bl [32])) ++ ((bl [114]) ++ (Zf a3)))) (0) : Z0) := Zaz (orc := (Zk [(0, false), (1, false), (2, false), (3, false), (4, false), (5, false), (6, false), (7, false), (8, false), (9, false), (10, false), (14, true), (16, true), (18, true), (19, true)] [] [(0, 5), (1, 5)] [] [(0, (ZA (a0) (a1) (a2) (a3)  y0_0  1))])) (u := Value.tuple #[Value.string ((((Za (bl [115, 117, 98])) ++ (Za (bl [32])) ++ ((Za (bl [114])) ++ (Za (Zf a1)))) ++ (Za (bl [32])) ++ ((Za (bl [114])) ++ (Za (Zf a2)))) ++ (Za (bl [32])) ++ ((Za (bl [114])) ++ (Za (Zf a3)))), vq]) (ob := [((Nat.ble (((((Za (bl [115, 117, 98])) ++ (Za (bl [32])) ++ ((Za (bl [114])) ++ (Za (Zf a1)))) ++ (Za (bl [32])) ++ ((Za (bl [114])) ++ (Za (Zf a2)))) ++ (Za (bl [32])) ++ ((Za (bl [114])) ++ (Za (Zf a3))))).size 140737488355328), true), (dP (((((Za (bl [114]))).size + ((Za (Zf a3))).size : Nat) : Int) ≤ IntKind.i64.max), true), ((decide (-9223372036854775808 ≤ a3) && decide (a3 ≤ 9223372036854775807)), true), (dP (((((Za (bl [114]))).size + ((Za (Zf a2))).size : Nat) : Int) ≤ IntKind.i64.max), true), ((decide (-9223372036854775808 ≤ a2) && decide (a2 ≤ 9223372036854775807)), true), (dP (((((Za (bl [114]))).size + ((Za (Zf a1))).size : Nat) : Int) ≤ IntKind.i64.max), true), ((decide (-9223372036854775808 ≤ a1) && decide (a1 ≤ 9223372036854775807)), true), (Nat.blt 5 21, true), (a0 == Int.ofNat 5, true), tN (a0 ≥ 21), tN (a0 < 0), ((a0 == 14), false), ((a0 == 13), false), ((a0 == 11), false), ((a0 == 9), false), ((a0 == 8), false), ((a0 == 1), false), (Nat.blt 5 21, true), (a0 == Int.ofNat 5, true), tN (a0 ≥ 21), tN (a0 < 0), ((y0_0 != 0), false), (dP (Z9 #[Value.agg #[vi a0, vi a1, vi a2, vi a3]] (a0) (a1) (a2) (a3)  y0_0  1), true)]) (by kernel_rfl) (Zb (ZaW (M := ((((((bl [115, 117, 98, 32]) ++ ((bl [114]) ++ (Zf a1))) ++ (bl [32])) ++ ((bl [114]) ++ (Zf a2))) ++ (bl [32])) ++ ((bl [114]) ++ (Zf a3)))) sE ltA) <| Zb (Zg (Zm (x := (bl [114])) (y := (Zf a3)) rfl rfl ltA)) <| Zb (Zab (by omega) (by omega)) <| Zb (Zg (Zm (x := (bl [114])) (y := (Zf a2)) rfl rfl ltA)) <| Zb (Zab (by omega) (by omega)) <| Zb (Zg (Zm (x := (bl [114])) (y := (Zf a1)) rfl rfl ltA)) <| Zb (Zab (by omega) (by omega)) <| oB <| oK <| oN <| oN <| oF <| oF <| oF <| oF <| oF <| oF <| oB <| oK <| oN <| oN <| oE <| Zb (Zg (ZB #[Value.agg #[vi a0, vi a1, vi a2, vi a3]] (a0) (a1) (a2) (a3)  y0_0 N c0  1 rfl (by decide) (by decide))) Ze) ⟨Eq.trans (show (Value.tuple #[Value.string (Za ((((((bl [115, 117, 98, 32]) ++ ((bl [114]) ++ (Zf a1))) ++ (bl [32])) ++ ((bl [114]) ++ (Zf a2))) ++ (bl [32])) ++ ((bl [114]) ++ (Zf a3)))), vq] : Value) = Value.tuple #[Value.string ((((Za (bl [115, 117, 98])) ++ (Za (bl [32])) ++ ((Za (bl [114])) ++ (Za (Zf a1)))) ++ (Za (bl [32])) ++ ((Za (bl [114])) ++ (Za (Zf a2)))) ++ (Za (bl [32])) ++ ((Za (bl [114])) ++ (Za (Zf a3)))), vq] from (Z7 (Zt (congrArg Value.string sE) (Zt rfl rfl)))) (by rfl), by rfl⟩

theorem Zmp (a0 a1 a2 a3 : Int) (N : Nat) (y0_0 : Int) (c0 : Zp (a0) (a1) (a2) (a3) N = some (.r0 y0_0)) (g1 : ¬ (¬ (y0_0 = 0))) (g10 : a0 = 6) (g11 : -9223372036854775808 ≤ a1) (g12 : a1 ≤ 9223372036854775807) (g13 : (Zf a1).length ≤ 21) (g14 : -9223372036854775808 ≤ a2) (g15 : a2 ≤ 9223372036854775807) (g16 : (Zf a2).length ≤ 21) (g17 : -9223372036854775808 ≤ a3) (g18 : a3 ≤ 9223372036854775807) (g19 : (Zf a3).length ≤ 21) : ZS a0 a1 a2 a3 (.r0 (((((((bl [108, 101, 115, 115, 32]) ++ ((bl [114]) ++ (Zf a1))) ++ (bl [32])) ++ ((bl [114]) ++ (Zf a2))) ++ (bl [32])) ++ ((bl [114]) ++ (Zf a3)))) (0) : Z0) := Zaz (orc := (Zk [(0, false), (1, false), (2, false), (3, false), (4, false), (5, false), (6, false), (7, false), (8, false), (9, false), (10, false), (14, true), (16, true), (18, true), (19, true)] [] [(0, 6), (1, 6)] [] [(0, (ZA (a0) (a1) (a2) (a3)  y0_0  1))])) (u := Value.tuple #[Value.string ((((Za (bl [108, 101, 115, 115])) ++ (Za (bl [32])) ++ ((Za (bl [114])) ++ (Za (Zf a1)))) ++ (Za (bl [32])) ++ ((Za (bl [114])) ++ (Za (Zf a2)))) ++ (Za (bl [32])) ++ ((Za (bl [114])) ++ (Za (Zf a3)))), vq]) (ob := [((Nat.ble (((((Za (bl [108, 101, 115, 115])) ++ (Za (bl [32])) ++ ((Za (bl [114])) ++ (Za (Zf a1)))) ++ (Za (bl [32])) ++ ((Za (bl [114])) ++ (Za (Zf a2)))) ++ (Za (bl [32])) ++ ((Za (bl [114])) ++ (Za (Zf a3))))).size 140737488355328), true), (dP (((((Za (bl [114]))).size + ((Za (Zf a3))).size : Nat) : Int) ≤ IntKind.i64.max), true), ((decide (-9223372036854775808 ≤ a3) && decide (a3 ≤ 9223372036854775807)), true), (dP (((((Za (bl [114]))).size + ((Za (Zf a2))).size : Nat) : Int) ≤ IntKind.i64.max), true), ((decide (-9223372036854775808 ≤ a2) && decide (a2 ≤ 9223372036854775807)), true), (dP (((((Za (bl [114]))).size + ((Za (Zf a1))).size : Nat) : Int) ≤ IntKind.i64.max), true), ((decide (-9223372036854775808 ≤ a1) && decide (a1 ≤ 9223372036854775807)), true), (Nat.blt 6 21, true), (a0 == Int.ofNat 6, true), tN (a0 ≥ 21), tN (a0 < 0), ((a0 == 14), false), ((a0 == 13), false), ((a0 == 11), false), ((a0 == 9), false), ((a0 == 8), false), ((a0 == 1), false), (Nat.blt 6 21, true), (a0 == Int.ofNat 6, true), tN (a0 ≥ 21), tN (a0 < 0), ((y0_0 != 0), false), (dP (Z9 #[Value.agg #[vi a0, vi a1, vi a2, vi a3]] (a0) (a1) (a2) (a3)  y0_0  1), true)]) (by kernel_rfl) (Zb (ZaW (M := ((((((bl [108, 101, 115, 115, 32]) ++ ((bl [114]) ++ (Zf a1))) ++ (bl [32])) ++ ((bl [114]) ++ (Zf a2))) ++ (bl [32])) ++ ((bl [114]) ++ (Zf a3)))) sE ltA) <| Zb (Zg (Zm (x := (bl [114])) (y := (Zf a3)) rfl rfl ltA)) <| Zb (Zab (by omega) (by omega)) <| Zb (Zg (Zm (x := (bl [114])) (y := (Zf a2)) rfl rfl ltA)) <| Zb (Zab (by omega) (by omega)) <| Zb (Zg (Zm (x := (bl [114])) (y := (Zf a1)) rfl rfl ltA)) <| Zb (Zab (by omega) (by omega)) <| oB <| oK <| oN <| oN <| oF <| oF <| oF <| oF <| oF <| oF <| oB <| oK <| oN <| oN <| oE <| Zb (Zg (ZB #[Value.agg #[vi a0, vi a1, vi a2, vi a3]] (a0) (a1) (a2) (a3)  y0_0 N c0  1 rfl (by decide) (by decide))) Ze) ⟨Eq.trans (show (Value.tuple #[Value.string (Za ((((((bl [108, 101, 115, 115, 32]) ++ ((bl [114]) ++ (Zf a1))) ++ (bl [32])) ++ ((bl [114]) ++ (Zf a2))) ++ (bl [32])) ++ ((bl [114]) ++ (Zf a3)))), vq] : Value) = Value.tuple #[Value.string ((((Za (bl [108, 101, 115, 115])) ++ (Za (bl [32])) ++ ((Za (bl [114])) ++ (Za (Zf a1)))) ++ (Za (bl [32])) ++ ((Za (bl [114])) ++ (Za (Zf a2)))) ++ (Za (bl [32])) ++ ((Za (bl [114])) ++ (Za (Zf a3)))), vq] from (Z7 (Zt (congrArg Value.string sE) (Zt rfl rfl)))) (by rfl), by rfl⟩

theorem Zmq (a0 a1 a2 a3 : Int) (N : Nat) (y0_0 : Int) (c0 : Zp (a0) (a1) (a2) (a3) N = some (.r0 y0_0)) (g1 : ¬ (¬ (y0_0 = 0))) (g11 : a0 = 7) (g12 : -9223372036854775808 ≤ a1) (g13 : a1 ≤ 9223372036854775807) (g14 : (Zf a1).length ≤ 21) (g15 : -9223372036854775808 ≤ a2) (g16 : a2 ≤ 9223372036854775807) (g17 : (Zf a2).length ≤ 21) (g18 : -9223372036854775808 ≤ a3) (g19 : a3 ≤ 9223372036854775807) (g20 : (Zf a3).length ≤ 21) : ZS a0 a1 a2 a3 (.r0 (((((((bl [101, 113, 32]) ++ ((bl [114]) ++ (Zf a1))) ++ (bl [32])) ++ ((bl [114]) ++ (Zf a2))) ++ (bl [32])) ++ ((bl [114]) ++ (Zf a3)))) (0) : Z0) := Zaz (orc := (Zk [(0, false), (1, false), (2, false), (3, false), (4, false), (5, false), (6, false), (7, false), (8, false), (9, false), (10, false), (14, true), (16, true), (18, true), (19, true)] [] [(0, 7), (1, 7)] [] [(0, (ZA (a0) (a1) (a2) (a3)  y0_0  1))])) (u := Value.tuple #[Value.string ((((Za (bl [101, 113])) ++ (Za (bl [32])) ++ ((Za (bl [114])) ++ (Za (Zf a1)))) ++ (Za (bl [32])) ++ ((Za (bl [114])) ++ (Za (Zf a2)))) ++ (Za (bl [32])) ++ ((Za (bl [114])) ++ (Za (Zf a3)))), vq]) (ob := [((Nat.ble (((((Za (bl [101, 113])) ++ (Za (bl [32])) ++ ((Za (bl [114])) ++ (Za (Zf a1)))) ++ (Za (bl [32])) ++ ((Za (bl [114])) ++ (Za (Zf a2)))) ++ (Za (bl [32])) ++ ((Za (bl [114])) ++ (Za (Zf a3))))).size 140737488355328), true), (dP (((((Za (bl [114]))).size + ((Za (Zf a3))).size : Nat) : Int) ≤ IntKind.i64.max), true), ((decide (-9223372036854775808 ≤ a3) && decide (a3 ≤ 9223372036854775807)), true), (dP (((((Za (bl [114]))).size + ((Za (Zf a2))).size : Nat) : Int) ≤ IntKind.i64.max), true), ((decide (-9223372036854775808 ≤ a2) && decide (a2 ≤ 9223372036854775807)), true), (dP (((((Za (bl [114]))).size + ((Za (Zf a1))).size : Nat) : Int) ≤ IntKind.i64.max), true), ((decide (-9223372036854775808 ≤ a1) && decide (a1 ≤ 9223372036854775807)), true), (Nat.blt 7 21, true), (a0 == Int.ofNat 7, true), tN (a0 ≥ 21), tN (a0 < 0), ((a0 == 14), false), ((a0 == 13), false), ((a0 == 11), false), ((a0 == 9), false), ((a0 == 8), false), ((a0 == 1), false), (Nat.blt 7 21, true), (a0 == Int.ofNat 7, true), tN (a0 ≥ 21), tN (a0 < 0), ((y0_0 != 0), false), (dP (Z9 #[Value.agg #[vi a0, vi a1, vi a2, vi a3]] (a0) (a1) (a2) (a3)  y0_0  1), true)]) (by kernel_rfl) (Zb (ZaW (M := ((((((bl [101, 113, 32]) ++ ((bl [114]) ++ (Zf a1))) ++ (bl [32])) ++ ((bl [114]) ++ (Zf a2))) ++ (bl [32])) ++ ((bl [114]) ++ (Zf a3)))) sE ltA) <| Zb (Zg (Zm (x := (bl [114])) (y := (Zf a3)) rfl rfl ltA)) <| Zb (Zab (by omega) (by omega)) <| Zb (Zg (Zm (x := (bl [114])) (y := (Zf a2)) rfl rfl ltA)) <| Zb (Zab (by omega) (by omega)) <| Zb (Zg (Zm (x := (bl [114])) (y := (Zf a1)) rfl rfl ltA)) <| Zb (Zab (by omega) (by omega)) <| oB <| oK <| oN <| oN <| oF <| oF <| oF <| oF <| oF <| oF <| oB <| oK <| oN <| oN <| oE <| Zb (Zg (ZB #[Value.agg #[vi a0, vi a1, vi a2, vi a3]] (a0) (a1) (a2) (a3)  y0_0 N c0  1 rfl (by decide) (by decide))) Ze) ⟨Eq.trans (show (Value.tuple #[Value.string (Za ((((((bl [101, 113, 32]) ++ ((bl [114]) ++ (Zf a1))) ++ (bl [32])) ++ ((bl [114]) ++ (Zf a2))) ++ (bl [32])) ++ ((bl [114]) ++ (Zf a3)))), vq] : Value) = Value.tuple #[Value.string ((((Za (bl [101, 113])) ++ (Za (bl [32])) ++ ((Za (bl [114])) ++ (Za (Zf a1)))) ++ (Za (bl [32])) ++ ((Za (bl [114])) ++ (Za (Zf a2)))) ++ (Za (bl [32])) ++ ((Za (bl [114])) ++ (Za (Zf a3)))), vq] from (Z7 (Zt (congrArg Value.string sE) (Zt rfl rfl)))) (by rfl), by rfl⟩

theorem Zmr (a0 a1 a2 a3 : Int) (N : Nat) (y0_0 : Int) (c0 : Zp (a0) (a1) (a2) (a3) N = some (.r0 y0_0)) (g1 : ¬ (¬ (y0_0 = 0))) (g12 : a0 = 8) (g13 : -9223372036854775808 ≤ a1) (g14 : a1 ≤ 9223372036854775807) (g15 : (Zf a1).length ≤ 21) : ZS a0 a1 a2 a3 (.r0 (((bl [106, 117, 109, 112, 32]) ++ ((bl [64]) ++ ((bl [76]) ++ (Zf a1))))) (0) : Z0) := Zaz (orc := (Zk [(0, false), (1, false), (2, false), (3, false), (4, true), (7, true), (8, true)] [] [(0, 8)] [] [(0, (ZA (a0) (a1) (a2) (a3)  y0_0  1))])) (u := Value.tuple #[Value.string ((Za (bl [106, 117, 109, 112])) ++ (Za (bl [32])) ++ ((Za (bl [64])) ++ ((Za (bl [76])) ++ (Za (Zf a1))))), vq]) (ob := [((Nat.ble (((Za (bl [106, 117, 109, 112])) ++ (Za (bl [32])) ++ ((Za (bl [64])) ++ ((Za (bl [76])) ++ (Za (Zf a1)))))).size 140737488355328), true), (dP (((((Za (bl [64]))).size + (((Za (bl [76])) ++ (Za (Zf a1)))).size : Nat) : Int) ≤ IntKind.i64.max), true), (dP (((((Za (bl [76]))).size + ((Za (Zf a1))).size : Nat) : Int) ≤ IntKind.i64.max), true), ((decide (-9223372036854775808 ≤ a1) && decide (a1 ≤ 9223372036854775807)), true), ((a0 == 8), true), ((a0 == 1), false), (Nat.blt 8 21, true), (a0 == Int.ofNat 8, true), tN (a0 ≥ 21), tN (a0 < 0), ((y0_0 != 0), false), (dP (Z9 #[Value.agg #[vi a0, vi a1, vi a2, vi a3]] (a0) (a1) (a2) (a3)  y0_0  1), true)]) (by kernel_rfl) (Zb (ZaW (M := ((bl [106, 117, 109, 112, 32]) ++ ((bl [64]) ++ ((bl [76]) ++ (Zf a1))))) sE ltA) <| Zb (Zg (Zm (x := (bl [64])) (y := ((bl [76]) ++ (Zf a1))) rfl sE ltA)) <| Zb (Zg (Zm (x := (bl [76])) (y := (Zf a1)) rfl rfl ltA)) <| Zb (Zab (by omega) (by omega)) <| oT <| oF <| oB <| oK <| oN <| oN <| oE <| Zb (Zg (ZB #[Value.agg #[vi a0, vi a1, vi a2, vi a3]] (a0) (a1) (a2) (a3)  y0_0 N c0  1 rfl (by decide) (by decide))) Ze) ⟨Eq.trans (show (Value.tuple #[Value.string (Za ((bl [106, 117, 109, 112, 32]) ++ ((bl [64]) ++ ((bl [76]) ++ (Zf a1))))), vq] : Value) = Value.tuple #[Value.string ((Za (bl [106, 117, 109, 112])) ++ (Za (bl [32])) ++ ((Za (bl [64])) ++ ((Za (bl [76])) ++ (Za (Zf a1))))), vq] from (Z7 (Zt (congrArg Value.string sE) (Zt rfl rfl)))) (by rfl), by rfl⟩

theorem Zms (a0 a1 a2 a3 : Int) (N : Nat) (y0_0 : Int) (c0 : Zp (a0) (a1) (a2) (a3) N = some (.r0 y0_0)) (g1 : ¬ (¬ (y0_0 = 0))) (g13 : a0 = 9) (g14 : -9223372036854775808 ≤ a1) (g15 : a1 ≤ 9223372036854775807) (g16 : (Zf a1).length ≤ 21) (g17 : -9223372036854775808 ≤ a2) (g18 : a2 ≤ 9223372036854775807) (g19 : (Zf a2).length ≤ 21) : ZS a0 a1 a2 a3 (.r0 (((((bl [106, 117, 109, 112, 122, 32]) ++ ((bl [114]) ++ (Zf a1))) ++ (bl [32])) ++ ((bl [64]) ++ ((bl [76]) ++ (Zf a2))))) (0) : Z0) := Zaz (orc := (Zk [(0, false), (1, false), (2, false), (3, false), (4, false), (5, true), (7, true), (10, true), (11, true)] [] [(0, 9)] [] [(0, (ZA (a0) (a1) (a2) (a3)  y0_0  1))])) (u := Value.tuple #[Value.string (((Za (bl [106, 117, 109, 112, 122])) ++ (Za (bl [32])) ++ ((Za (bl [114])) ++ (Za (Zf a1)))) ++ (Za (bl [32])) ++ ((Za (bl [64])) ++ ((Za (bl [76])) ++ (Za (Zf a2))))), vq]) (ob := [((Nat.ble ((((Za (bl [106, 117, 109, 112, 122])) ++ (Za (bl [32])) ++ ((Za (bl [114])) ++ (Za (Zf a1)))) ++ (Za (bl [32])) ++ ((Za (bl [64])) ++ ((Za (bl [76])) ++ (Za (Zf a2)))))).size 140737488355328), true), (dP (((((Za (bl [64]))).size + (((Za (bl [76])) ++ (Za (Zf a2)))).size : Nat) : Int) ≤ IntKind.i64.max), true), (dP (((((Za (bl [76]))).size + ((Za (Zf a2))).size : Nat) : Int) ≤ IntKind.i64.max), true), ((decide (-9223372036854775808 ≤ a2) && decide (a2 ≤ 9223372036854775807)), true), (dP (((((Za (bl [114]))).size + ((Za (Zf a1))).size : Nat) : Int) ≤ IntKind.i64.max), true), ((decide (-9223372036854775808 ≤ a1) && decide (a1 ≤ 9223372036854775807)), true), ((a0 == 9), true), ((a0 == 8), false), ((a0 == 1), false), (Nat.blt 9 21, true), (a0 == Int.ofNat 9, true), tN (a0 ≥ 21), tN (a0 < 0), ((y0_0 != 0), false), (dP (Z9 #[Value.agg #[vi a0, vi a1, vi a2, vi a3]] (a0) (a1) (a2) (a3)  y0_0  1), true)]) (by kernel_rfl) (Zb (ZaW (M := ((((bl [106, 117, 109, 112, 122, 32]) ++ ((bl [114]) ++ (Zf a1))) ++ (bl [32])) ++ ((bl [64]) ++ ((bl [76]) ++ (Zf a2))))) sE ltA) <| Zb (Zg (Zm (x := (bl [64])) (y := ((bl [76]) ++ (Zf a2))) rfl sE ltA)) <| Zb (Zg (Zm (x := (bl [76])) (y := (Zf a2)) rfl rfl ltA)) <| Zb (Zab (by omega) (by omega)) <| Zb (Zg (Zm (x := (bl [114])) (y := (Zf a1)) rfl rfl ltA)) <| Zb (Zab (by omega) (by omega)) <| oT <| oF <| oF <| oB <| oK <| oN <| oN <| oE <| Zb (Zg (ZB #[Value.agg #[vi a0, vi a1, vi a2, vi a3]] (a0) (a1) (a2) (a3)  y0_0 N c0  1 rfl (by decide) (by decide))) Ze) ⟨Eq.trans (show (Value.tuple #[Value.string (Za ((((bl [106, 117, 109, 112, 122, 32]) ++ ((bl [114]) ++ (Zf a1))) ++ (bl [32])) ++ ((bl [64]) ++ ((bl [76]) ++ (Zf a2))))), vq] : Value) = Value.tuple #[Value.string (((Za (bl [106, 117, 109, 112, 122])) ++ (Za (bl [32])) ++ ((Za (bl [114])) ++ (Za (Zf a1)))) ++ (Za (bl [32])) ++ ((Za (bl [64])) ++ ((Za (bl [76])) ++ (Za (Zf a2))))), vq] from (Z7 (Zt (congrArg Value.string sE) (Zt rfl rfl)))) (by rfl), by rfl⟩

theorem Zmt (a0 a1 a2 a3 : Int) (N : Nat) (y0_0 : Int) (c0 : Zp (a0) (a1) (a2) (a3) N = some (.r0 y0_0)) (g1 : ¬ (¬ (y0_0 = 0))) (g14 : a0 = 10) (g15 : -9223372036854775808 ≤ a1) (g16 : a1 ≤ 9223372036854775807) (g17 : (Zf a1).length ≤ 21) : ZS a0 a1 a2 a3 (.r0 (((bl [114, 111, 111, 116, 32]) ++ ((bl [114]) ++ (Zf a1)))) (0) : Z0) := Zaz (orc := (Zk [(0, false), (1, false), (2, false), (3, false), (4, false), (5, false), (6, false), (7, false), (8, false), (9, false), (10, false), (16, true), (17, true)] [] [(0, 10), (1, 10)] [] [(0, (ZA (a0) (a1) (a2) (a3)  y0_0  1))])) (u := Value.tuple #[Value.string ((Za (bl [114, 111, 111, 116])) ++ (Za (bl [32])) ++ ((Za (bl [114])) ++ (Za (Zf a1)))), vq]) (ob := [((Nat.ble (((Za (bl [114, 111, 111, 116])) ++ (Za (bl [32])) ++ ((Za (bl [114])) ++ (Za (Zf a1))))).size 140737488355328), true), (dP (((((Za (bl [114]))).size + ((Za (Zf a1))).size : Nat) : Int) ≤ IntKind.i64.max), true), ((decide (-9223372036854775808 ≤ a1) && decide (a1 ≤ 9223372036854775807)), true), (Nat.blt 10 21, true), (a0 == Int.ofNat 10, true), tN (a0 ≥ 21), tN (a0 < 0), ((a0 == 14), false), ((a0 == 13), false), ((a0 == 11), false), ((a0 == 9), false), ((a0 == 8), false), ((a0 == 1), false), (Nat.blt 10 21, true), (a0 == Int.ofNat 10, true), tN (a0 ≥ 21), tN (a0 < 0), ((y0_0 != 0), false), (dP (Z9 #[Value.agg #[vi a0, vi a1, vi a2, vi a3]] (a0) (a1) (a2) (a3)  y0_0  1), true)]) (by kernel_rfl) (Zb (ZaW (M := ((bl [114, 111, 111, 116, 32]) ++ ((bl [114]) ++ (Zf a1)))) sE ltA) <| Zb (Zg (Zm (x := (bl [114])) (y := (Zf a1)) rfl rfl ltA)) <| Zb (Zab (by omega) (by omega)) <| oB <| oK <| oN <| oN <| oF <| oF <| oF <| oF <| oF <| oF <| oB <| oK <| oN <| oN <| oE <| Zb (Zg (ZB #[Value.agg #[vi a0, vi a1, vi a2, vi a3]] (a0) (a1) (a2) (a3)  y0_0 N c0  1 rfl (by decide) (by decide))) Ze) ⟨Eq.trans (show (Value.tuple #[Value.string (Za ((bl [114, 111, 111, 116, 32]) ++ ((bl [114]) ++ (Zf a1)))), vq] : Value) = Value.tuple #[Value.string ((Za (bl [114, 111, 111, 116])) ++ (Za (bl [32])) ++ ((Za (bl [114])) ++ (Za (Zf a1)))), vq] from (Z7 (Zt (congrArg Value.string sE) (Zt rfl rfl)))) (by rfl), by rfl⟩

theorem Zmu (a0 a1 a2 a3 : Int) (N : Nat) (y0_0 : Int) (c0 : Zp (a0) (a1) (a2) (a3) N = some (.r0 y0_0)) (g1 : ¬ (¬ (y0_0 = 0))) (g15 : a0 = 11) (g16 : -9223372036854775808 ≤ a1) (g17 : a1 ≤ 9223372036854775807) (g18 : (Zf a1).length ≤ 21) (g19 : -9223372036854775808 ≤ a2) (g20 : a2 ≤ 9223372036854775807) (g21 : (Zf a2).length ≤ 21) (g22 : -9223372036854775808 ≤ a3) (g23 : a3 ≤ 9223372036854775807) (g24 : (Zf a3).length ≤ 21) : ZS a0 a1 a2 a3 (.r0 (((((((bl [110, 101, 119, 32]) ++ ((bl [114]) ++ (Zf a1))) ++ (bl [32])) ++ (Zf a2)) ++ (bl [32])) ++ (Zf a3))) (0) : Z0) := Zaz (orc := (Zk [(0, false), (1, false), (2, false), (3, false), (4, false), (5, false), (6, true), (8, true), (12, true), (16, true), (17, true)] [] [(0, 11)] [] [(0, (ZA (a0) (a1) (a2) (a3)  y0_0  1))])) (u := Value.tuple #[Value.string ((((Za (bl [110, 101, 119])) ++ (Za (bl [32])) ++ ((Za (bl [114])) ++ (Za (Zf a1)))) ++ (Za (bl [32])) ++ (Za (Zf a2))) ++ (Za (bl [32])) ++ (Za (Zf a3))), vq]) (ob := [((Nat.ble (((((Za (bl [110, 101, 119])) ++ (Za (bl [32])) ++ ((Za (bl [114])) ++ (Za (Zf a1)))) ++ (Za (bl [32])) ++ (Za (Zf a2))) ++ (Za (bl [32])) ++ (Za (Zf a3)))).size 140737488355328), true), ((decide (-9223372036854775808 ≤ a3) && decide (a3 ≤ 9223372036854775807)), true), ((decide (-9223372036854775808 ≤ a2) && decide (a2 ≤ 9223372036854775807)), true), (dP (((((Za (bl [114]))).size + ((Za (Zf a1))).size : Nat) : Int) ≤ IntKind.i64.max), true), ((decide (-9223372036854775808 ≤ a1) && decide (a1 ≤ 9223372036854775807)), true), ((a0 == 11), true), ((a0 == 9), false), ((a0 == 8), false), ((a0 == 1), false), (Nat.blt 11 21, true), (a0 == Int.ofNat 11, true), tN (a0 ≥ 21), tN (a0 < 0), ((y0_0 != 0), false), (dP (Z9 #[Value.agg #[vi a0, vi a1, vi a2, vi a3]] (a0) (a1) (a2) (a3)  y0_0  1), true)]) (by kernel_rfl) (Zb (ZaW (M := ((((((bl [110, 101, 119, 32]) ++ ((bl [114]) ++ (Zf a1))) ++ (bl [32])) ++ (Zf a2)) ++ (bl [32])) ++ (Zf a3))) sE ltA) <| Zb (Zab (by omega) (by omega)) <| Zb (Zab (by omega) (by omega)) <| Zb (Zg (Zm (x := (bl [114])) (y := (Zf a1)) rfl rfl ltA)) <| Zb (Zab (by omega) (by omega)) <| oT <| oF <| oF <| oF <| oB <| oK <| oN <| oN <| oE <| Zb (Zg (ZB #[Value.agg #[vi a0, vi a1, vi a2, vi a3]] (a0) (a1) (a2) (a3)  y0_0 N c0  1 rfl (by decide) (by decide))) Ze) ⟨Eq.trans (show (Value.tuple #[Value.string (Za ((((((bl [110, 101, 119, 32]) ++ ((bl [114]) ++ (Zf a1))) ++ (bl [32])) ++ (Zf a2)) ++ (bl [32])) ++ (Zf a3))), vq] : Value) = Value.tuple #[Value.string ((((Za (bl [110, 101, 119])) ++ (Za (bl [32])) ++ ((Za (bl [114])) ++ (Za (Zf a1)))) ++ (Za (bl [32])) ++ (Za (Zf a2))) ++ (Za (bl [32])) ++ (Za (Zf a3))), vq] from (Z7 (Zt (congrArg Value.string sE) (Zt rfl rfl)))) (by rfl), by rfl⟩

theorem Zmv (a0 a1 a2 a3 : Int) (N : Nat) (y0_0 : Int) (c0 : Zp (a0) (a1) (a2) (a3) N = some (.r0 y0_0)) (g1 : ¬ (¬ (y0_0 = 0))) (g16 : a0 = 12) (g17 : -9223372036854775808 ≤ a1) (g18 : a1 ≤ 9223372036854775807) (g19 : (Zf a1).length ≤ 21) : ZS a0 a1 a2 a3 (.r0 (((bl [102, 114, 101, 101, 32]) ++ ((bl [114]) ++ (Zf a1)))) (0) : Z0) := Zaz (orc := (Zk [(0, false), (1, false), (2, false), (3, false), (4, false), (5, false), (6, false), (7, false), (8, false), (9, false), (10, false), (16, true), (17, true)] [] [(0, 12), (1, 12)] [] [(0, (ZA (a0) (a1) (a2) (a3)  y0_0  1))])) (u := Value.tuple #[Value.string ((Za (bl [102, 114, 101, 101])) ++ (Za (bl [32])) ++ ((Za (bl [114])) ++ (Za (Zf a1)))), vq]) (ob := [((Nat.ble (((Za (bl [102, 114, 101, 101])) ++ (Za (bl [32])) ++ ((Za (bl [114])) ++ (Za (Zf a1))))).size 140737488355328), true), (dP (((((Za (bl [114]))).size + ((Za (Zf a1))).size : Nat) : Int) ≤ IntKind.i64.max), true), ((decide (-9223372036854775808 ≤ a1) && decide (a1 ≤ 9223372036854775807)), true), (Nat.blt 12 21, true), (a0 == Int.ofNat 12, true), tN (a0 ≥ 21), tN (a0 < 0), ((a0 == 14), false), ((a0 == 13), false), ((a0 == 11), false), ((a0 == 9), false), ((a0 == 8), false), ((a0 == 1), false), (Nat.blt 12 21, true), (a0 == Int.ofNat 12, true), tN (a0 ≥ 21), tN (a0 < 0), ((y0_0 != 0), false), (dP (Z9 #[Value.agg #[vi a0, vi a1, vi a2, vi a3]] (a0) (a1) (a2) (a3)  y0_0  1), true)]) (by kernel_rfl) (Zb (ZaW (M := ((bl [102, 114, 101, 101, 32]) ++ ((bl [114]) ++ (Zf a1)))) sE ltA) <| Zb (Zg (Zm (x := (bl [114])) (y := (Zf a1)) rfl rfl ltA)) <| Zb (Zab (by omega) (by omega)) <| oB <| oK <| oN <| oN <| oF <| oF <| oF <| oF <| oF <| oF <| oB <| oK <| oN <| oN <| oE <| Zb (Zg (ZB #[Value.agg #[vi a0, vi a1, vi a2, vi a3]] (a0) (a1) (a2) (a3)  y0_0 N c0  1 rfl (by decide) (by decide))) Ze) ⟨Eq.trans (show (Value.tuple #[Value.string (Za ((bl [102, 114, 101, 101, 32]) ++ ((bl [114]) ++ (Zf a1)))), vq] : Value) = Value.tuple #[Value.string ((Za (bl [102, 114, 101, 101])) ++ (Za (bl [32])) ++ ((Za (bl [114])) ++ (Za (Zf a1)))), vq] from (Z7 (Zt (congrArg Value.string sE) (Zt rfl rfl)))) (by rfl), by rfl⟩

theorem Zmw (a0 a1 a2 a3 : Int) (N : Nat) (y0_0 : Int) (c0 : Zp (a0) (a1) (a2) (a3) N = some (.r0 y0_0)) (g1 : ¬ (¬ (y0_0 = 0))) (g17 : a0 = 13) (g18 : -9223372036854775808 ≤ a1) (g19 : a1 ≤ 9223372036854775807) (g20 : (Zf a1).length ≤ 21) (g21 : -9223372036854775808 ≤ a2) (g22 : a2 ≤ 9223372036854775807) (g23 : (Zf a2).length ≤ 21) (g24 : -9223372036854775808 ≤ a3) (g25 : a3 ≤ 9223372036854775807) (g26 : (Zf a3).length ≤ 21) : ZS a0 a1 a2 a3 (.r0 (((((((bl [103, 101, 116, 32]) ++ ((bl [114]) ++ (Zf a1))) ++ (bl [32])) ++ ((bl [114]) ++ (Zf a2))) ++ (bl [32])) ++ (Zf a3))) (0) : Z0) := Zaz (orc := (Zk [(0, false), (1, false), (2, false), (3, false), (4, false), (5, false), (6, false), (7, true), (9, true), (11, true), (15, true), (16, true)] [] [(0, 13)] [] [(0, (ZA (a0) (a1) (a2) (a3)  y0_0  1))])) (u := Value.tuple #[Value.string ((((Za (bl [103, 101, 116])) ++ (Za (bl [32])) ++ ((Za (bl [114])) ++ (Za (Zf a1)))) ++ (Za (bl [32])) ++ ((Za (bl [114])) ++ (Za (Zf a2)))) ++ (Za (bl [32])) ++ (Za (Zf a3))), vq]) (ob := [((Nat.ble (((((Za (bl [103, 101, 116])) ++ (Za (bl [32])) ++ ((Za (bl [114])) ++ (Za (Zf a1)))) ++ (Za (bl [32])) ++ ((Za (bl [114])) ++ (Za (Zf a2)))) ++ (Za (bl [32])) ++ (Za (Zf a3)))).size 140737488355328), true), ((decide (-9223372036854775808 ≤ a3) && decide (a3 ≤ 9223372036854775807)), true), (dP (((((Za (bl [114]))).size + ((Za (Zf a2))).size : Nat) : Int) ≤ IntKind.i64.max), true), ((decide (-9223372036854775808 ≤ a2) && decide (a2 ≤ 9223372036854775807)), true), (dP (((((Za (bl [114]))).size + ((Za (Zf a1))).size : Nat) : Int) ≤ IntKind.i64.max), true), ((decide (-9223372036854775808 ≤ a1) && decide (a1 ≤ 9223372036854775807)), true), ((a0 == 13), true), ((a0 == 11), false), ((a0 == 9), false), ((a0 == 8), false), ((a0 == 1), false), (Nat.blt 13 21, true), (a0 == Int.ofNat 13, true), tN (a0 ≥ 21), tN (a0 < 0), ((y0_0 != 0), false), (dP (Z9 #[Value.agg #[vi a0, vi a1, vi a2, vi a3]] (a0) (a1) (a2) (a3)  y0_0  1), true)]) (by kernel_rfl) (Zb (ZaW (M := ((((((bl [103, 101, 116, 32]) ++ ((bl [114]) ++ (Zf a1))) ++ (bl [32])) ++ ((bl [114]) ++ (Zf a2))) ++ (bl [32])) ++ (Zf a3))) sE ltA) <| Zb (Zab (by omega) (by omega)) <| Zb (Zg (Zm (x := (bl [114])) (y := (Zf a2)) rfl rfl ltA)) <| Zb (Zab (by omega) (by omega)) <| Zb (Zg (Zm (x := (bl [114])) (y := (Zf a1)) rfl rfl ltA)) <| Zb (Zab (by omega) (by omega)) <| oT <| oF <| oF <| oF <| oF <| oB <| oK <| oN <| oN <| oE <| Zb (Zg (ZB #[Value.agg #[vi a0, vi a1, vi a2, vi a3]] (a0) (a1) (a2) (a3)  y0_0 N c0  1 rfl (by decide) (by decide))) Ze) ⟨Eq.trans (show (Value.tuple #[Value.string (Za ((((((bl [103, 101, 116, 32]) ++ ((bl [114]) ++ (Zf a1))) ++ (bl [32])) ++ ((bl [114]) ++ (Zf a2))) ++ (bl [32])) ++ (Zf a3))), vq] : Value) = Value.tuple #[Value.string ((((Za (bl [103, 101, 116])) ++ (Za (bl [32])) ++ ((Za (bl [114])) ++ (Za (Zf a1)))) ++ (Za (bl [32])) ++ ((Za (bl [114])) ++ (Za (Zf a2)))) ++ (Za (bl [32])) ++ (Za (Zf a3))), vq] from (Z7 (Zt (congrArg Value.string sE) (Zt rfl rfl)))) (by rfl), by rfl⟩

theorem Zmx (a0 a1 a2 a3 : Int) (N : Nat) (y0_0 : Int) (c0 : Zp (a0) (a1) (a2) (a3) N = some (.r0 y0_0)) (g1 : ¬ (¬ (y0_0 = 0))) (g18 : a0 = 14) (g19 : -9223372036854775808 ≤ a1) (g20 : a1 ≤ 9223372036854775807) (g21 : (Zf a1).length ≤ 21) (g22 : -9223372036854775808 ≤ a2) (g23 : a2 ≤ 9223372036854775807) (g24 : (Zf a2).length ≤ 21) (g25 : -9223372036854775808 ≤ a3) (g26 : a3 ≤ 9223372036854775807) (g27 : (Zf a3).length ≤ 21) : ZS a0 a1 a2 a3 (.r0 (((((((bl [115, 101, 116, 32]) ++ ((bl [114]) ++ (Zf a1))) ++ (bl [32])) ++ (Zf a2)) ++ (bl [32])) ++ ((bl [114]) ++ (Zf a3)))) (0) : Z0) := Zaz (orc := (Zk [(0, false), (1, false), (2, false), (3, false), (4, false), (5, false), (6, false), (7, false), (8, true), (10, true), (14, true), (16, true), (17, true)] [] [(0, 14)] [] [(0, (ZA (a0) (a1) (a2) (a3)  y0_0  1))])) (u := Value.tuple #[Value.string ((((Za (bl [115, 101, 116])) ++ (Za (bl [32])) ++ ((Za (bl [114])) ++ (Za (Zf a1)))) ++ (Za (bl [32])) ++ (Za (Zf a2))) ++ (Za (bl [32])) ++ ((Za (bl [114])) ++ (Za (Zf a3)))), vq]) (ob := [((Nat.ble (((((Za (bl [115, 101, 116])) ++ (Za (bl [32])) ++ ((Za (bl [114])) ++ (Za (Zf a1)))) ++ (Za (bl [32])) ++ (Za (Zf a2))) ++ (Za (bl [32])) ++ ((Za (bl [114])) ++ (Za (Zf a3))))).size 140737488355328), true), (dP (((((Za (bl [114]))).size + ((Za (Zf a3))).size : Nat) : Int) ≤ IntKind.i64.max), true), ((decide (-9223372036854775808 ≤ a3) && decide (a3 ≤ 9223372036854775807)), true), ((decide (-9223372036854775808 ≤ a2) && decide (a2 ≤ 9223372036854775807)), true), (dP (((((Za (bl [114]))).size + ((Za (Zf a1))).size : Nat) : Int) ≤ IntKind.i64.max), true), ((decide (-9223372036854775808 ≤ a1) && decide (a1 ≤ 9223372036854775807)), true), ((a0 == 14), true), ((a0 == 13), false), ((a0 == 11), false), ((a0 == 9), false), ((a0 == 8), false), ((a0 == 1), false), (Nat.blt 14 21, true), (a0 == Int.ofNat 14, true), tN (a0 ≥ 21), tN (a0 < 0), ((y0_0 != 0), false), (dP (Z9 #[Value.agg #[vi a0, vi a1, vi a2, vi a3]] (a0) (a1) (a2) (a3)  y0_0  1), true)]) (by kernel_rfl) (Zb (ZaW (M := ((((((bl [115, 101, 116, 32]) ++ ((bl [114]) ++ (Zf a1))) ++ (bl [32])) ++ (Zf a2)) ++ (bl [32])) ++ ((bl [114]) ++ (Zf a3)))) sE ltA) <| Zb (Zg (Zm (x := (bl [114])) (y := (Zf a3)) rfl rfl ltA)) <| Zb (Zab (by omega) (by omega)) <| Zb (Zab (by omega) (by omega)) <| Zb (Zg (Zm (x := (bl [114])) (y := (Zf a1)) rfl rfl ltA)) <| Zb (Zab (by omega) (by omega)) <| oT <| oF <| oF <| oF <| oF <| oF <| oB <| oK <| oN <| oN <| oE <| Zb (Zg (ZB #[Value.agg #[vi a0, vi a1, vi a2, vi a3]] (a0) (a1) (a2) (a3)  y0_0 N c0  1 rfl (by decide) (by decide))) Ze) ⟨Eq.trans (show (Value.tuple #[Value.string (Za ((((((bl [115, 101, 116, 32]) ++ ((bl [114]) ++ (Zf a1))) ++ (bl [32])) ++ (Zf a2)) ++ (bl [32])) ++ ((bl [114]) ++ (Zf a3)))), vq] : Value) = Value.tuple #[Value.string ((((Za (bl [115, 101, 116])) ++ (Za (bl [32])) ++ ((Za (bl [114])) ++ (Za (Zf a1)))) ++ (Za (bl [32])) ++ (Za (Zf a2))) ++ (Za (bl [32])) ++ ((Za (bl [114])) ++ (Za (Zf a3)))), vq] from (Z7 (Zt (congrArg Value.string sE) (Zt rfl rfl)))) (by rfl), by rfl⟩

theorem Zr3 {a0 : Int} {a1 : Int} {a2 : Int} {a3 : Int} {orc : Orc} {ob : List (Bool × Bool)} (hev : ZaG [] (ZaN Tryz.prog ZX 7 [] #[Value.agg #[vi a0, vi a1, vi a2, vi a3]] 4000 orc) = some (Value.tuple #[Value.string ⟨#[98, 101, 103, 105, 110]⟩, vq], [], ob)) (ho : ∀ p ∈ ob, p.1 = p.2) : ZS a0 a1 a2 a3 (.r0 ((bl [98, 101, 103, 105, 110])) (0) : Z0) := Zaz hev ho ⟨Eq.trans (show (Value.tuple #[Value.string (Za (bl [98, 101, 103, 105, 110])), vq] : Value) = Value.tuple #[Value.string ⟨#[98, 101, 103, 105, 110]⟩, vq] from (Z7 (Zt rfl (Zt rfl rfl)))) (by rfl), by rfl⟩

theorem Zmy (a0 a1 a2 a3 : Int) (N : Nat) (y0_0 : Int) (c0 : Zp (a0) (a1) (a2) (a3) N = some (.r0 y0_0)) (g1 : ¬ (¬ (y0_0 = 0))) (g19 : a0 = 15) : ZS a0 a1 a2 a3 (.r0 ((bl [98, 101, 103, 105, 110])) (0) : Z0) := Zr3 (orc := (Zk [(0, false), (1, false), (2, false), (3, false), (4, false), (5, false), (6, false), (7, false), (8, false), (9, false), (10, false)] [] [(0, 15), (1, 15)] [] [(0, (ZA (a0) (a1) (a2) (a3)  y0_0  1))])) (ob := [(Nat.blt 15 21, true), (a0 == Int.ofNat 15, true), tN (a0 ≥ 21), tN (a0 < 0), ((a0 == 14), false), ((a0 == 13), false), ((a0 == 11), false), ((a0 == 9), false), ((a0 == 8), false), ((a0 == 1), false), (Nat.blt 15 21, true), (a0 == Int.ofNat 15, true), tN (a0 ≥ 21), tN (a0 < 0), ((y0_0 != 0), false), (dP (Z9 #[Value.agg #[vi a0, vi a1, vi a2, vi a3]] (a0) (a1) (a2) (a3)  y0_0  1), true)]) (by kernel_rfl) (oB <| oK <| oN <| oN <| oF <| oF <| oF <| oF <| oF <| oF <| oB <| oK <| oN <| oN <| oE <| Zb (Zg (ZB #[Value.agg #[vi a0, vi a1, vi a2, vi a3]] (a0) (a1) (a2) (a3)  y0_0 N c0  1 rfl (by decide) (by decide))) Ze)

theorem Zr4 {a0 : Int} {a1 : Int} {a2 : Int} {a3 : Int} {orc : Orc} {ob : List (Bool × Bool)} (hev : ZaG [] (ZaN Tryz.prog ZX 7 [] #[Value.agg #[vi a0, vi a1, vi a2, vi a3]] 4000 orc) = some (Value.tuple #[Value.string ⟨#[101, 108, 115, 101]⟩, vq], [], ob)) (ho : ∀ p ∈ ob, p.1 = p.2) : ZS a0 a1 a2 a3 (.r0 ((bl [101, 108, 115, 101])) (0) : Z0) := Zaz hev ho ⟨Eq.trans (show (Value.tuple #[Value.string (Za (bl [101, 108, 115, 101])), vq] : Value) = Value.tuple #[Value.string ⟨#[101, 108, 115, 101]⟩, vq] from (Z7 (Zt rfl (Zt rfl rfl)))) (by rfl), by rfl⟩

theorem Zmz (a0 a1 a2 a3 : Int) (N : Nat) (y0_0 : Int) (c0 : Zp (a0) (a1) (a2) (a3) N = some (.r0 y0_0)) (g1 : ¬ (¬ (y0_0 = 0))) (g20 : a0 = 16) : ZS a0 a1 a2 a3 (.r0 ((bl [101, 108, 115, 101])) (0) : Z0) := Zr4 (orc := (Zk [(0, false), (1, false), (2, false), (3, false), (4, false), (5, false), (6, false), (7, false), (8, false), (9, false), (10, false)] [] [(0, 16), (1, 16)] [] [(0, (ZA (a0) (a1) (a2) (a3)  y0_0  1))])) (ob := [(Nat.blt 16 21, true), (a0 == Int.ofNat 16, true), tN (a0 ≥ 21), tN (a0 < 0), ((a0 == 14), false), ((a0 == 13), false), ((a0 == 11), false), ((a0 == 9), false), ((a0 == 8), false), ((a0 == 1), false), (Nat.blt 16 21, true), (a0 == Int.ofNat 16, true), tN (a0 ≥ 21), tN (a0 < 0), ((y0_0 != 0), false), (dP (Z9 #[Value.agg #[vi a0, vi a1, vi a2, vi a3]] (a0) (a1) (a2) (a3)  y0_0  1), true)]) (by kernel_rfl) (oB <| oK <| oN <| oN <| oF <| oF <| oF <| oF <| oF <| oF <| oB <| oK <| oN <| oN <| oE <| Zb (Zg (ZB #[Value.agg #[vi a0, vi a1, vi a2, vi a3]] (a0) (a1) (a2) (a3)  y0_0 N c0  1 rfl (by decide) (by decide))) Ze)

theorem Zr5 {a0 : Int} {a1 : Int} {a2 : Int} {a3 : Int} {orc : Orc} {ob : List (Bool × Bool)} (hev : ZaG [] (ZaN Tryz.prog ZX 7 [] #[Value.agg #[vi a0, vi a1, vi a2, vi a3]] 4000 orc) = some (Value.tuple #[Value.string ⟨#[101, 110, 100]⟩, vq], [], ob)) (ho : ∀ p ∈ ob, p.1 = p.2) : ZS a0 a1 a2 a3 (.r0 ((bl [101, 110, 100])) (0) : Z0) := Zaz hev ho ⟨Eq.trans (show (Value.tuple #[Value.string (Za (bl [101, 110, 100])), vq] : Value) = Value.tuple #[Value.string ⟨#[101, 110, 100]⟩, vq] from (Z7 (Zt rfl (Zt rfl rfl)))) (by rfl), by rfl⟩

theorem Zm0 (a0 a1 a2 a3 : Int) (N : Nat) (y0_0 : Int) (c0 : Zp (a0) (a1) (a2) (a3) N = some (.r0 y0_0)) (g1 : ¬ (¬ (y0_0 = 0))) (g21 : a0 = 17) : ZS a0 a1 a2 a3 (.r0 ((bl [101, 110, 100])) (0) : Z0) := Zr5 (orc := (Zk [(0, false), (1, false), (2, false), (3, false), (4, false), (5, false), (6, false), (7, false), (8, false), (9, false), (10, false)] [] [(0, 17), (1, 17)] [] [(0, (ZA (a0) (a1) (a2) (a3)  y0_0  1))])) (ob := [(Nat.blt 17 21, true), (a0 == Int.ofNat 17, true), tN (a0 ≥ 21), tN (a0 < 0), ((a0 == 14), false), ((a0 == 13), false), ((a0 == 11), false), ((a0 == 9), false), ((a0 == 8), false), ((a0 == 1), false), (Nat.blt 17 21, true), (a0 == Int.ofNat 17, true), tN (a0 ≥ 21), tN (a0 < 0), ((y0_0 != 0), false), (dP (Z9 #[Value.agg #[vi a0, vi a1, vi a2, vi a3]] (a0) (a1) (a2) (a3)  y0_0  1), true)]) (by kernel_rfl) (oB <| oK <| oN <| oN <| oF <| oF <| oF <| oF <| oF <| oF <| oB <| oK <| oN <| oN <| oE <| Zb (Zg (ZB #[Value.agg #[vi a0, vi a1, vi a2, vi a3]] (a0) (a1) (a2) (a3)  y0_0 N c0  1 rfl (by decide) (by decide))) Ze)

theorem Zr6 {a0 : Int} {a1 : Int} {a2 : Int} {a3 : Int} {orc : Orc} {ob : List (Bool × Bool)} (hev : ZaG [] (ZaN Tryz.prog ZX 7 [] #[Value.agg #[vi a0, vi a1, vi a2, vi a3]] 4000 orc) = some (Value.tuple #[Value.string ⟨#[114, 101, 116, 114, 121]⟩, vq], [], ob)) (ho : ∀ p ∈ ob, p.1 = p.2) : ZS a0 a1 a2 a3 (.r0 ((bl [114, 101, 116, 114, 121])) (0) : Z0) := Zaz hev ho ⟨Eq.trans (show (Value.tuple #[Value.string (Za (bl [114, 101, 116, 114, 121])), vq] : Value) = Value.tuple #[Value.string ⟨#[114, 101, 116, 114, 121]⟩, vq] from (Z7 (Zt rfl (Zt rfl rfl)))) (by rfl), by rfl⟩

theorem Zm1 (a0 a1 a2 a3 : Int) (N : Nat) (y0_0 : Int) (c0 : Zp (a0) (a1) (a2) (a3) N = some (.r0 y0_0)) (g1 : ¬ (¬ (y0_0 = 0))) (g22 : a0 = 18) : ZS a0 a1 a2 a3 (.r0 ((bl [114, 101, 116, 114, 121])) (0) : Z0) := Zr6 (orc := (Zk [(0, false), (1, false), (2, false), (3, false), (4, false), (5, false), (6, false), (7, false), (8, false), (9, false), (10, false)] [] [(0, 18), (1, 18)] [] [(0, (ZA (a0) (a1) (a2) (a3)  y0_0  1))])) (ob := [(Nat.blt 18 21, true), (a0 == Int.ofNat 18, true), tN (a0 ≥ 21), tN (a0 < 0), ((a0 == 14), false), ((a0 == 13), false), ((a0 == 11), false), ((a0 == 9), false), ((a0 == 8), false), ((a0 == 1), false), (Nat.blt 18 21, true), (a0 == Int.ofNat 18, true), tN (a0 ≥ 21), tN (a0 < 0), ((y0_0 != 0), false), (dP (Z9 #[Value.agg #[vi a0, vi a1, vi a2, vi a3]] (a0) (a1) (a2) (a3)  y0_0  1), true)]) (by kernel_rfl) (oB <| oK <| oN <| oN <| oF <| oF <| oF <| oF <| oF <| oF <| oB <| oK <| oN <| oN <| oE <| Zb (Zg (ZB #[Value.agg #[vi a0, vi a1, vi a2, vi a3]] (a0) (a1) (a2) (a3)  y0_0 N c0  1 rfl (by decide) (by decide))) Ze)

theorem Zm2 (a0 a1 a2 a3 : Int) (N : Nat) (y0_0 : Int) (c0 : Zp (a0) (a1) (a2) (a3) N = some (.r0 y0_0)) (g1 : ¬ (¬ (y0_0 = 0))) (g23 : a0 = 19) (g24 : -9223372036854775808 ≤ a1) (g25 : a1 ≤ 9223372036854775807) (g26 : (Zf a1).length ≤ 21) : ZS a0 a1 a2 a3 (.r0 (((bl [101, 109, 105, 116, 32]) ++ ((bl [114]) ++ (Zf a1)))) (0) : Z0) := Zaz (orc := (Zk [(0, false), (1, false), (2, false), (3, false), (4, false), (5, false), (6, false), (7, false), (8, false), (9, false), (10, false), (16, true), (17, true)] [] [(0, 19), (1, 19)] [] [(0, (ZA (a0) (a1) (a2) (a3)  y0_0  1))])) (u := Value.tuple #[Value.string ((Za (bl [101, 109, 105, 116])) ++ (Za (bl [32])) ++ ((Za (bl [114])) ++ (Za (Zf a1)))), vq]) (ob := [((Nat.ble (((Za (bl [101, 109, 105, 116])) ++ (Za (bl [32])) ++ ((Za (bl [114])) ++ (Za (Zf a1))))).size 140737488355328), true), (dP (((((Za (bl [114]))).size + ((Za (Zf a1))).size : Nat) : Int) ≤ IntKind.i64.max), true), ((decide (-9223372036854775808 ≤ a1) && decide (a1 ≤ 9223372036854775807)), true), (Nat.blt 19 21, true), (a0 == Int.ofNat 19, true), tN (a0 ≥ 21), tN (a0 < 0), ((a0 == 14), false), ((a0 == 13), false), ((a0 == 11), false), ((a0 == 9), false), ((a0 == 8), false), ((a0 == 1), false), (Nat.blt 19 21, true), (a0 == Int.ofNat 19, true), tN (a0 ≥ 21), tN (a0 < 0), ((y0_0 != 0), false), (dP (Z9 #[Value.agg #[vi a0, vi a1, vi a2, vi a3]] (a0) (a1) (a2) (a3)  y0_0  1), true)]) (by kernel_rfl) (Zb (ZaW (M := ((bl [101, 109, 105, 116, 32]) ++ ((bl [114]) ++ (Zf a1)))) sE ltA) <| Zb (Zg (Zm (x := (bl [114])) (y := (Zf a1)) rfl rfl ltA)) <| Zb (Zab (by omega) (by omega)) <| oB <| oK <| oN <| oN <| oF <| oF <| oF <| oF <| oF <| oF <| oB <| oK <| oN <| oN <| oE <| Zb (Zg (ZB #[Value.agg #[vi a0, vi a1, vi a2, vi a3]] (a0) (a1) (a2) (a3)  y0_0 N c0  1 rfl (by decide) (by decide))) Ze) ⟨Eq.trans (show (Value.tuple #[Value.string (Za ((bl [101, 109, 105, 116, 32]) ++ ((bl [114]) ++ (Zf a1)))), vq] : Value) = Value.tuple #[Value.string ((Za (bl [101, 109, 105, 116])) ++ (Za (bl [32])) ++ ((Za (bl [114])) ++ (Za (Zf a1)))), vq] from (Z7 (Zt (congrArg Value.string sE) (Zt rfl rfl)))) (by rfl), by rfl⟩

theorem Zr7 {a0 : Int} {a1 : Int} {a2 : Int} {a3 : Int} {orc : Orc} {ob : List (Bool × Bool)} (hev : ZaG [] (ZaN Tryz.prog ZX 7 [] #[Value.agg #[vi a0, vi a1, vi a2, vi a3]] 4000 orc) = some (Value.tuple #[Value.string ⟨#[104, 97, 108, 116]⟩, vq], [], ob)) (ho : ∀ p ∈ ob, p.1 = p.2) : ZS a0 a1 a2 a3 (.r0 ((bl [104, 97, 108, 116])) (0) : Z0) := Zaz hev ho ⟨Eq.trans (show (Value.tuple #[Value.string (Za (bl [104, 97, 108, 116])), vq] : Value) = Value.tuple #[Value.string ⟨#[104, 97, 108, 116]⟩, vq] from (Z7 (Zt rfl (Zt rfl rfl)))) (by rfl), by rfl⟩

theorem Zm3 (a0 a1 a2 a3 : Int) (N : Nat) (y0_0 : Int) (c0 : Zp (a0) (a1) (a2) (a3) N = some (.r0 y0_0)) (g1 : ¬ (¬ (y0_0 = 0))) (g2 : ¬ (a0 < 0)) (g3 : ¬ (21 ≤ a0)) (g4 : ¬ (a0 = 0)) (g5 : ¬ (a0 = 1)) (g6 : ¬ (a0 = 2)) (g7 : ¬ (a0 = 3)) (g8 : ¬ (a0 = 4)) (g9 : ¬ (a0 = 5)) (g10 : ¬ (a0 = 6)) (g11 : ¬ (a0 = 7)) (g12 : ¬ (a0 = 8)) (g13 : ¬ (a0 = 9)) (g14 : ¬ (a0 = 10)) (g15 : ¬ (a0 = 11)) (g16 : ¬ (a0 = 12)) (g17 : ¬ (a0 = 13)) (g18 : ¬ (a0 = 14)) (g19 : ¬ (a0 = 15)) (g20 : ¬ (a0 = 16)) (g21 : ¬ (a0 = 17)) (g22 : ¬ (a0 = 18)) (g23 : ¬ (a0 = 19)) : ZS a0 a1 a2 a3 (.r0 ((bl [104, 97, 108, 116])) (0) : Z0) := Zr7 (orc := (Zk [(0, false), (1, false), (2, false), (3, false), (4, false), (5, false), (6, false), (7, false), (8, false), (9, false), (10, false)] [] [(0, 20), (1, 20)] [] [(0, (ZA (a0) (a1) (a2) (a3)  y0_0  1))])) (ob := [(Nat.blt 20 21, true), (a0 == Int.ofNat 20, true), tN (a0 ≥ 21), tN (a0 < 0), ((a0 == 14), false), ((a0 == 13), false), ((a0 == 11), false), ((a0 == 9), false), ((a0 == 8), false), ((a0 == 1), false), (Nat.blt 20 21, true), (a0 == Int.ofNat 20, true), tN (a0 ≥ 21), tN (a0 < 0), ((y0_0 != 0), false), (dP (Z9 #[Value.agg #[vi a0, vi a1, vi a2, vi a3]] (a0) (a1) (a2) (a3)  y0_0  1), true)]) (by kernel_rfl) (oB <| oK <| oN <| oN <| oF <| oF <| oF <| oF <| oF <| oF <| oB <| oK <| oN <| oN <| oE <| Zb (Zg (ZB #[Value.agg #[vi a0, vi a1, vi a2, vi a3]] (a0) (a1) (a2) (a3)  y0_0 N c0  1 rfl (by decide) (by decide))) Ze)

theorem Zqn (a0 a1 a2 a3 : Int) (N : Nat) : Gx Tryz.prog 7 [] #[Value.agg #[vi a0, vi a1, vi a2, vi a3]] (ZeZ a0 a1 a2 a3) (Zes a0 a1 a2 a3) (ZC a0 a1 a2 a3 N) := by
 unfold ZC
 refine Zaj (fun z0 c0 => ?_)
 cases z0 with
 | r0 y0_0 =>
  refine Zd (fun g1 => ?_) (fun g1 => ?_)
  ·
   exact Zpo a0 a1 a2 a3 N y0_0 c0 g1
  ·
   refine Zd (fun g2 => ?_) (fun g2 => ?_)
   ·
    exact Zpp a0 a1 a2 a3 N y0_0 c0 g1 g2
   ·
    refine Zd (fun g3 => ?_) (fun g3 => ?_)
    ·
     exact Zpq a0 a1 a2 a3 N y0_0 c0 g1 g2 g3
    ·
     refine Zd (fun g4 => ?_) (fun g4 => ?_)
     ·
      exact Zpr a0 a1 a2 a3 N y0_0 c0 g1 g4
     ·
      refine Zd (fun g5 => ?_) (fun g5 => ?_)
      ·
       refine Zd (fun g6 => ?_) (fun _ => Zo)
       refine Zd (fun g7 => ?_) (fun _ => Zo)
       refine Zd (fun g8 => ?_) (fun _ => Zo)
       refine Zd (fun g9 => ?_) (fun _ => Zo)
       refine Zd (fun g10 => ?_) (fun _ => Zo)
       refine Zd (fun g11 => ?_) (fun _ => Zo)
       exact Zps a0 a1 a2 a3 N y0_0 c0 g1 g5 g6 g7 g8 g9 g10 g11
      ·
       refine Zd (fun g6 => ?_) (fun g6 => ?_)
       ·
        refine Zd (fun g7 => ?_) (fun _ => Zo)
        refine Zd (fun g8 => ?_) (fun _ => Zo)
        refine Zd (fun g9 => ?_) (fun _ => Zo)
        exact Zpt a0 a1 a2 a3 N y0_0 c0 g1 g6 g7 g8 g9
       ·
        refine Zd (fun g7 => ?_) (fun g7 => ?_)
        ·
         refine Zd (fun g8 => ?_) (fun _ => Zo)
         refine Zd (fun g9 => ?_) (fun _ => Zo)
         refine Zd (fun g10 => ?_) (fun _ => Zo)
         refine Zd (fun g11 => ?_) (fun _ => Zo)
         refine Zd (fun g12 => ?_) (fun _ => Zo)
         refine Zd (fun g13 => ?_) (fun _ => Zo)
         exact Zpu a0 a1 a2 a3 N y0_0 c0 g1 g7 g8 g9 g10 g11 g12 g13
        ·
         refine Zd (fun g8 => ?_) (fun g8 => ?_)
         ·
          refine Zd (fun g9 => ?_) (fun _ => Zo)
          refine Zd (fun g10 => ?_) (fun _ => Zo)
          refine Zd (fun g11 => ?_) (fun _ => Zo)
          refine Zd (fun g12 => ?_) (fun _ => Zo)
          refine Zd (fun g13 => ?_) (fun _ => Zo)
          refine Zd (fun g14 => ?_) (fun _ => Zo)
          refine Zd (fun g15 => ?_) (fun _ => Zo)
          refine Zd (fun g16 => ?_) (fun _ => Zo)
          refine Zd (fun g17 => ?_) (fun _ => Zo)
          exact Zpv a0 a1 a2 a3 N y0_0 c0 g1 g8 g9 g10 g11 g12 g13 g14 g15 g16 g17
         ·
          refine Zd (fun g9 => ?_) (fun g9 => ?_)
          ·
           refine Zd (fun g10 => ?_) (fun _ => Zo)
           refine Zd (fun g11 => ?_) (fun _ => Zo)
           refine Zd (fun g12 => ?_) (fun _ => Zo)
           refine Zd (fun g13 => ?_) (fun _ => Zo)
           refine Zd (fun g14 => ?_) (fun _ => Zo)
           refine Zd (fun g15 => ?_) (fun _ => Zo)
           refine Zd (fun g16 => ?_) (fun _ => Zo)
           refine Zd (fun g17 => ?_) (fun _ => Zo)
           refine Zd (fun g18 => ?_) (fun _ => Zo)
           exact Zmo a0 a1 a2 a3 N y0_0 c0 g1 g9 g10 g11 g12 g13 g14 g15 g16 g17 g18
          ·
           refine Zd (fun g10 => ?_) (fun g10 => ?_)
           ·
            refine Zd (fun g11 => ?_) (fun _ => Zo)
            refine Zd (fun g12 => ?_) (fun _ => Zo)
            refine Zd (fun g13 => ?_) (fun _ => Zo)
            refine Zd (fun g14 => ?_) (fun _ => Zo)
            refine Zd (fun g15 => ?_) (fun _ => Zo)
            refine Zd (fun g16 => ?_) (fun _ => Zo)
            refine Zd (fun g17 => ?_) (fun _ => Zo)
            refine Zd (fun g18 => ?_) (fun _ => Zo)
            refine Zd (fun g19 => ?_) (fun _ => Zo)
            exact Zmp a0 a1 a2 a3 N y0_0 c0 g1 g10 g11 g12 g13 g14 g15 g16 g17 g18 g19
           ·
            refine Zd (fun g11 => ?_) (fun g11 => ?_)
            ·
             refine Zd (fun g12 => ?_) (fun _ => Zo)
             refine Zd (fun g13 => ?_) (fun _ => Zo)
             refine Zd (fun g14 => ?_) (fun _ => Zo)
             refine Zd (fun g15 => ?_) (fun _ => Zo)
             refine Zd (fun g16 => ?_) (fun _ => Zo)
             refine Zd (fun g17 => ?_) (fun _ => Zo)
             refine Zd (fun g18 => ?_) (fun _ => Zo)
             refine Zd (fun g19 => ?_) (fun _ => Zo)
             refine Zd (fun g20 => ?_) (fun _ => Zo)
             exact Zmq a0 a1 a2 a3 N y0_0 c0 g1 g11 g12 g13 g14 g15 g16 g17 g18 g19 g20
            ·
             refine Zd (fun g12 => ?_) (fun g12 => ?_)
             ·
              refine Zd (fun g13 => ?_) (fun _ => Zo)
              refine Zd (fun g14 => ?_) (fun _ => Zo)
              refine Zd (fun g15 => ?_) (fun _ => Zo)
              exact Zmr a0 a1 a2 a3 N y0_0 c0 g1 g12 g13 g14 g15
             ·
              refine Zd (fun g13 => ?_) (fun g13 => ?_)
              ·
               refine Zd (fun g14 => ?_) (fun _ => Zo)
               refine Zd (fun g15 => ?_) (fun _ => Zo)
               refine Zd (fun g16 => ?_) (fun _ => Zo)
               refine Zd (fun g17 => ?_) (fun _ => Zo)
               refine Zd (fun g18 => ?_) (fun _ => Zo)
               refine Zd (fun g19 => ?_) (fun _ => Zo)
               exact Zms a0 a1 a2 a3 N y0_0 c0 g1 g13 g14 g15 g16 g17 g18 g19
              ·
               refine Zd (fun g14 => ?_) (fun g14 => ?_)
               ·
                refine Zd (fun g15 => ?_) (fun _ => Zo)
                refine Zd (fun g16 => ?_) (fun _ => Zo)
                refine Zd (fun g17 => ?_) (fun _ => Zo)
                exact Zmt a0 a1 a2 a3 N y0_0 c0 g1 g14 g15 g16 g17
               ·
                refine Zd (fun g15 => ?_) (fun g15 => ?_)
                ·
                 refine Zd (fun g16 => ?_) (fun _ => Zo)
                 refine Zd (fun g17 => ?_) (fun _ => Zo)
                 refine Zd (fun g18 => ?_) (fun _ => Zo)
                 refine Zd (fun g19 => ?_) (fun _ => Zo)
                 refine Zd (fun g20 => ?_) (fun _ => Zo)
                 refine Zd (fun g21 => ?_) (fun _ => Zo)
                 refine Zd (fun g22 => ?_) (fun _ => Zo)
                 refine Zd (fun g23 => ?_) (fun _ => Zo)
                 refine Zd (fun g24 => ?_) (fun _ => Zo)
                 exact Zmu a0 a1 a2 a3 N y0_0 c0 g1 g15 g16 g17 g18 g19 g20 g21 g22 g23 g24
                ·
                 refine Zd (fun g16 => ?_) (fun g16 => ?_)
                 ·
                  refine Zd (fun g17 => ?_) (fun _ => Zo)
                  refine Zd (fun g18 => ?_) (fun _ => Zo)
                  refine Zd (fun g19 => ?_) (fun _ => Zo)
                  exact Zmv a0 a1 a2 a3 N y0_0 c0 g1 g16 g17 g18 g19
                 ·
                  refine Zd (fun g17 => ?_) (fun g17 => ?_)
                  ·
                   refine Zd (fun g18 => ?_) (fun _ => Zo)
                   refine Zd (fun g19 => ?_) (fun _ => Zo)
                   refine Zd (fun g20 => ?_) (fun _ => Zo)
                   refine Zd (fun g21 => ?_) (fun _ => Zo)
                   refine Zd (fun g22 => ?_) (fun _ => Zo)
                   refine Zd (fun g23 => ?_) (fun _ => Zo)
                   refine Zd (fun g24 => ?_) (fun _ => Zo)
                   refine Zd (fun g25 => ?_) (fun _ => Zo)
                   refine Zd (fun g26 => ?_) (fun _ => Zo)
                   exact Zmw a0 a1 a2 a3 N y0_0 c0 g1 g17 g18 g19 g20 g21 g22 g23 g24 g25 g26
                  ·
                   refine Zd (fun g18 => ?_) (fun g18 => ?_)
                   ·
                    refine Zd (fun g19 => ?_) (fun _ => Zo)
                    refine Zd (fun g20 => ?_) (fun _ => Zo)
                    refine Zd (fun g21 => ?_) (fun _ => Zo)
                    refine Zd (fun g22 => ?_) (fun _ => Zo)
                    refine Zd (fun g23 => ?_) (fun _ => Zo)
                    refine Zd (fun g24 => ?_) (fun _ => Zo)
                    refine Zd (fun g25 => ?_) (fun _ => Zo)
                    refine Zd (fun g26 => ?_) (fun _ => Zo)
                    refine Zd (fun g27 => ?_) (fun _ => Zo)
                    exact Zmx a0 a1 a2 a3 N y0_0 c0 g1 g18 g19 g20 g21 g22 g23 g24 g25 g26 g27
                   ·
                    refine Zd (fun g19 => ?_) (fun g19 => ?_)
                    ·
                     exact Zmy a0 a1 a2 a3 N y0_0 c0 g1 g19
                    ·
                     refine Zd (fun g20 => ?_) (fun g20 => ?_)
                     ·
                      exact Zmz a0 a1 a2 a3 N y0_0 c0 g1 g20
                     ·
                      refine Zd (fun g21 => ?_) (fun g21 => ?_)
                      ·
                       exact Zm0 a0 a1 a2 a3 N y0_0 c0 g1 g21
                      ·
                       refine Zd (fun g22 => ?_) (fun g22 => ?_)
                       ·
                        exact Zm1 a0 a1 a2 a3 N y0_0 c0 g1 g22
                       ·
                        refine Zd (fun g23 => ?_) (fun g23 => ?_)
                        ·
                         refine Zd (fun g24 => ?_) (fun _ => Zo)
                         refine Zd (fun g25 => ?_) (fun _ => Zo)
                         refine Zd (fun g26 => ?_) (fun _ => Zo)
                         exact Zm2 a0 a1 a2 a3 N y0_0 c0 g1 g23 g24 g25 g26
                        ·
                         exact Zm3 a0 a1 a2 a3 N y0_0 c0 g1 g2 g3 g4 g5 g6 g7 g8 g9 g10 g11 g12 g13 g14 g15 g16 g17 g18 g19 g20 g21 g22 g23

theorem Zm4 (a0 a1 a2 a3 : Int) (N : Nat) (r : Z0) (h : ZC a0 a1 a2 a3 N = some r) : LSpec Tryz.prog 7 #[Value.agg #[vi a0, vi a1, vi a2, vi a3]] [] (ZeZ a0 a1 a2 a3 r) (Zes a0 a1 a2 a3 r) :=
 Zqn a0 a1 a2 a3 N r h

noncomputable def Zby (a0 a1 a2 a3 : Int) (w0 : List Int) (w1 : Int) (n : Nat) : Zcb := .call [] (Value.tuple #[Value.string (Za w0), vi w1]) [] 0
def Zbn (A : Array Value) (a0 a1 a2 a3 : Int) (w0 : List Int) (w1 : Int) (n : Nat) : Prop := ZaK Tryz.prog 7 A [] (Value.tuple #[Value.string (Za w0), vi w1]) [] n 0

theorem Zbz (A : Array Value) (a0 a1 a2 a3 : Int) (w0 : List Int) (w1 : Int) (N : Nat) (h : ZC a0 a1 a2 a3 N = some (.r0 w0 w1)) (n : Nat) (hA : A = #[Value.agg #[vi a0, vi a1, vi a2, vi a3]]) (hnd : ([] : List Nat).Nodup) (hlt : ∀ k ∈ ([] : List Nat), k < n) : Zbn A a0 a1 a2 a3 w0 w1  n :=
 Zde hA (LSpec.callL (show LSpec Tryz.prog 7 #[Value.agg #[vi a0, vi a1, vi a2, vi a3]] [] (Value.tuple #[Value.string (Za w0), vi w1]) [] from Zm4 a0 a1 a2 a3 N _ h) [] n [] rfl hnd hlt (show 0 ≤ 0 from by decide) (show ∀ j ∈ ([] : List Nat), j < 0 from by decide) (by rfl) trivial (by rfl) trivial trivial rfl rfl rfl rfl rfl)

noncomputable def Zk6 (L0 : List RA) : ZW → Value
 | .r0 w0 w1 => Value.tuple #[Value.string (Za w0), vi w1]
noncomputable def Zif (L0 : List RA) : ZW → List (Option AObj)
 | .r0 w0 w1 => []

def Zqo : Z8 → Nat
 | .h1m0 v1 v4 => 1
 | .h2m0 v1 v3 => 2
 | .h2m1 v1 v3 v4 => 2
noncomputable def Zr8 (L0 : List RA) : Z8 → List (Nat × Value)
 | .h1m0 v1 v4 => [(0, ms E_iiii L0), (4, vs 0 0 v1.length v1.length), (20, ms E_iiii L0), (21, vi (L0.length : Int)), (22, vi (v4 : Int))]
 | .h2m0 v1 v3 => [(0, ms E_iiii L0), (4, vs 0 0 v1.length v1.length), (9, vp 1 0), (50, vi (((L0.length + 1) : Nat) : Int)), (51, vi (v3 : Int))]
 | .h2m1 v1 v3 v4 => [(0, ms E_iiii L0), (4, vs 0 0 v1.length v1.length), (9, vp 1 0), (50, vi (((L0.length + 1) : Nat) : Int)), (51, vi (v3 : Int))]
noncomputable def Zr9 (L0 : List RA) : Z8 → List (Option AObj)
 | .h1m0 v1 v4 => [some (.cells (Zl eI v1) 3)]
 | .h2m0 v1 v3 => [some (.cells (Zl eI v1) 3), some (.cells [Value.pointer none, vn] 43)]
 | .h2m1 v1 v3 v4 => [some (.cells (Zl eI v1) 3), some (.cells [vp 1 0, vs 2 0 v4.length v4.length] 43), some (.cells (Zl (Zn .u8) v4) 5)]

noncomputable def Zbo : Nat → Code × List Zbi
 | 1 => Zcn [1, 1, 1, 0, 1, 3] (ZdD Tryz.f5) []
 | 2 => Zcn [1, 1, 1, 1, 1, 0, 1, 3] (ZdD Tryz.f5) []
 | _ => (.skip, [])
def Zig : Nat → Bool
 | 1 => true
 | 2 => true
 | _ => true
noncomputable def ZaU (i : Nat) : List Zbi := match Zig i with | true => .rnd i :: (Zbo i).2 | false => (Zbo i).2

noncomputable def ZN (L0 : List RA) (N : Nat) : Mach := ⟨Tryz.f5, [], Z8, ZW, Zat L0 N, Zqo, Zbo, Zig, Zr8 L0, Zr9 L0, Zk6 L0, Zif L0⟩

theorem Zk7 (L0 : List RA) (v1 : List Int) (v4 N : Nat) : (ZN L0 N).Ok Tryz.prog ZX (.h1m0 v1 v4 : Z8) (Zat L0 N (.h1m0 v1 v4 : Z8)) := by
 show (ZN L0 N).Ok Tryz.prog ZX (.h1m0 v1 v4 : Z8) (ZaZ L0 N v1 v4)
 unfold ZaZ
 refine Mach.ok_ite (fun g0 => ?_) (fun g0 => ?_)
 ·
  refine Mach.ok_ite (fun g1 => ?_) (fun g1 => ?_)
  ·
   refine Mach.ok_bind (fun z2 c2 => ?_)
   cases z2 with
   | r0 y2_0 =>
    refine Mach.ok_ite (fun g3 => ?_) (fun g3 => ?_)
    ·
     exact Mach.ok_fin (M := ZN L0 N) (cd := 1000000) (cm := 0) (r := (.r0 (([] : List Int)) ((130 : Int)) : ZW)) (fu := 4000) (orc := (Zk [(0, true), (1, true), (2, true)] [] [(0, v4)] [(0, [.i (L0.getD v4 RA.z).a0, .i (L0.getD v4 RA.z).a1, .i (L0.getD v4 RA.z).a2, .i (L0.getD v4 RA.z).a3])] [(1, (ZA ((L0.getD v4 RA.z).a0) ((L0.getD v4 RA.z).a1) ((L0.getD v4 RA.z).a2) ((L0.getD v4 RA.z).a3)  y2_0  3))])) (live := []) (u := Value.tuple #[Value.string ⟨#[]⟩, vi (130 : Int)]) (bl := []) (ob := [((y2_0 != (0 : Int)), true), (dP (Z9 #[Value.agg #[vi (L0.getD v4 RA.z).a0, vi (L0.getD v4 RA.z).a1, vi (L0.getD v4 RA.z).a2, vi (L0.getD v4 RA.z).a3]] ((L0.getD v4 RA.z).a0) ((L0.getD v4 RA.z).a1) ((L0.getD v4 RA.z).a2) ((L0.getD v4 RA.z).a3)  y2_0  3), true), (((L0.getD v4 RA.z).a0 == (8 : Int)), true), (dP (ZP (code (ZE E_iiii L0)) (0 + (v4 * 4)) 4 = some [.i (L0.getD v4 RA.z).a0, .i (L0.getD v4 RA.z).a1, .i (L0.getD v4 RA.z).a2, .i (L0.getD v4 RA.z).a3]), true), (Nat.blt v4 L0.length, true), ((v4 : Int) == Int.ofNat v4, true), ((decide ((v4 : Int) < (L0.length : Int))), true)]) (fun gv => by kernel_rfl) (oD <| Zb (Zg (ZB #[Value.agg #[vi (L0.getD v4 RA.z).a0, vi (L0.getD v4 RA.z).a1, vi (L0.getD v4 RA.z).a2, vi (L0.getD v4 RA.z).a3]] ((L0.getD v4 RA.z).a0) ((L0.getD v4 RA.z).a1) ((L0.getD v4 RA.z).a2) ((L0.getD v4 RA.z).a3)  y2_0 N c2  3 rfl (by decide) (by decide))) <| oT <| Zb (Zg (ZF (E := E_iiii) (L := L0) (i := v4) (q := 0) (by omega) (show (0 + (v4 * 4)) = v4 * 4 + 0 from by omega) (show 0 + 4 ≤ 4 from by decide) rfl)) <| oB <| oI <| oY Ze) rfl (by decide) (by rfl) ⟨Eq.trans (show (Value.tuple #[Value.string (Za ([] : List Int)), vi (130 : Int)] : Value) = Value.tuple #[Value.string ⟨#[]⟩, vi (130 : Int)] from (Z7 (Zt rfl (Zt rfl rfl)))) (by rfl), by rfl⟩ trivial
    ·
     refine Mach.ok_ite (fun g4 => ?_) (fun g4 => ?_)
     ·
      exact Mach.ok_fin (M := ZN L0 N) (cd := 1000000) (cm := 0) (r := (.r0 (([] : List Int)) ((130 : Int)) : ZW)) (fu := 4000) (orc := (Zk [(0, true), (1, true), (2, false), (3, true)] [] [(0, v4)] [(0, [.i (L0.getD v4 RA.z).a0, .i (L0.getD v4 RA.z).a1, .i (L0.getD v4 RA.z).a2, .i (L0.getD v4 RA.z).a3])] [(1, (ZA ((L0.getD v4 RA.z).a0) ((L0.getD v4 RA.z).a1) ((L0.getD v4 RA.z).a2) ((L0.getD v4 RA.z).a3)  y2_0  3))])) (live := []) (u := Value.tuple #[Value.string ⟨#[]⟩, vi (130 : Int)]) (bl := []) (ob := [((decide ((L0.getD v4 RA.z).a1 > (L0.length : Int))), true), ((y2_0 != (0 : Int)), false), (dP (Z9 #[Value.agg #[vi (L0.getD v4 RA.z).a0, vi (L0.getD v4 RA.z).a1, vi (L0.getD v4 RA.z).a2, vi (L0.getD v4 RA.z).a3]] ((L0.getD v4 RA.z).a0) ((L0.getD v4 RA.z).a1) ((L0.getD v4 RA.z).a2) ((L0.getD v4 RA.z).a3)  y2_0  3), true), (((L0.getD v4 RA.z).a0 == (8 : Int)), true), (dP (ZP (code (ZE E_iiii L0)) (0 + (v4 * 4)) 4 = some [.i (L0.getD v4 RA.z).a0, .i (L0.getD v4 RA.z).a1, .i (L0.getD v4 RA.z).a2, .i (L0.getD v4 RA.z).a3]), true), (Nat.blt v4 L0.length, true), ((v4 : Int) == Int.ofNat v4, true), ((decide ((v4 : Int) < (L0.length : Int))), true)]) (fun gv => by kernel_rfl) (oY <| oE <| Zb (Zg (ZB #[Value.agg #[vi (L0.getD v4 RA.z).a0, vi (L0.getD v4 RA.z).a1, vi (L0.getD v4 RA.z).a2, vi (L0.getD v4 RA.z).a3]] ((L0.getD v4 RA.z).a0) ((L0.getD v4 RA.z).a1) ((L0.getD v4 RA.z).a2) ((L0.getD v4 RA.z).a3)  y2_0 N c2  3 rfl (by decide) (by decide))) <| oT <| Zb (Zg (ZF (E := E_iiii) (L := L0) (i := v4) (q := 0) (by omega) (show (0 + (v4 * 4)) = v4 * 4 + 0 from by omega) (show 0 + 4 ≤ 4 from by decide) rfl)) <| oB <| oI <| oY Ze) rfl (by decide) (by rfl) ⟨Eq.trans (show (Value.tuple #[Value.string (Za ([] : List Int)), vi (130 : Int)] : Value) = Value.tuple #[Value.string ⟨#[]⟩, vi (130 : Int)] from (Z7 (Zt rfl (Zt rfl rfl)))) (by rfl), by rfl⟩ trivial
     ·
      refine Mach.ok_ite (fun g5 => ?_) (fun _ => Mach.ok_none)
      refine Mach.ok_ite (fun g6 => ?_) (fun _ => Mach.ok_none)
      refine Mach.ok_ite (fun g7 => ?_) (fun _ => Mach.ok_none)
      exact Mach.ok_next (M := ZN L0 N) (cd := 1000000) (cm := 0) (y := (.h1m0 ((v1.set ((L0.getD v4 RA.z).a1).toNat (IntKind.i64.wrap ((v1.getD ((L0.getD v4 RA.z).a1).toNat 0) + (1 : Int))))) ((v4 + 1)) : Z8)) (fu := 4000) (orc := (Zk [(0, true), (1, true), (2, false), (3, false)] [(1, (((v4 + 1) : Nat) : Int))] [(0, v4), (1, ((L0.getD v4 RA.z).a1).toNat), (2, ((L0.getD v4 RA.z).a1).toNat)] [(0, [.i (L0.getD v4 RA.z).a0, .i (L0.getD v4 RA.z).a1, .i (L0.getD v4 RA.z).a2, .i (L0.getD v4 RA.z).a3]), (5, [.i (v1.getD ((L0.getD v4 RA.z).a1).toNat 0)])] [(1, (ZA ((L0.getD v4 RA.z).a0) ((L0.getD v4 RA.z).a1) ((L0.getD v4 RA.z).a2) ((L0.getD v4 RA.z).a3)  y2_0  3)), (2, .st (Zl eI (v1.set ((L0.getD v4 RA.z).a1).toNat (IntKind.i64.wrap ((v1.getD ((L0.getD v4 RA.z).a1).toNat 0) + (1 : Int))))))])) (live := [0]) (tv := fun _ => [some (ms E_iiii L0), some (vs 0 0 v1.length v1.length), some (ms E_iiii L0), some (vi (L0.length : Int)), some (vi (((v4 + 1) : Nat) : Int))]) (bl := [some (.cells (Zl eI (v1.set ((L0.getD v4 RA.z).a1).toNat (IntKind.i64.wrap ((v1.getD ((L0.getD v4 RA.z).a1).toNat 0) + (1 : Int))))) 3)]) (ob := [((IntKind.i64.wrap ((v4 : Int) + (1 : Int))) == (((v4 + 1) : Nat) : Int), true), (dP ((0 + (((L0.getD v4 RA.z).a1).toNat * 1)) + ([vi (IntKind.i64.wrap ((v1.getD ((L0.getD v4 RA.z).a1).toNat 0) + (1 : Int)))] : List Value).length ≤ ((Zl eI v1) : List Value).length ∧ ZcT (Zl eI v1) (0 + (((L0.getD v4 RA.z).a1).toNat * 1)) [vi (IntKind.i64.wrap ((v1.getD ((L0.getD v4 RA.z).a1).toNat 0) + (1 : Int)))] = (Zl eI (v1.set ((L0.getD v4 RA.z).a1).toNat (IntKind.i64.wrap ((v1.getD ((L0.getD v4 RA.z).a1).toNat 0) + (1 : Int)))))), true), (Nat.blt ((L0.getD v4 RA.z).a1).toNat v1.length, true), ((L0.getD v4 RA.z).a1 == Int.ofNat ((L0.getD v4 RA.z).a1).toNat, true), (ZbD (ZD 1 (List.drop (0 + (((L0.getD v4 RA.z).a1).toNat * 1)) (Zl eI v1))) [.i (v1.getD ((L0.getD v4 RA.z).a1).toNat 0)], true), (Nat.blt ((L0.getD v4 RA.z).a1).toNat v1.length, true), ((L0.getD v4 RA.z).a1 == Int.ofNat ((L0.getD v4 RA.z).a1).toNat, true), ((decide ((L0.getD v4 RA.z).a1 > (L0.length : Int))), false), ((y2_0 != (0 : Int)), false), (dP (Z9 #[Value.agg #[vi (L0.getD v4 RA.z).a0, vi (L0.getD v4 RA.z).a1, vi (L0.getD v4 RA.z).a2, vi (L0.getD v4 RA.z).a3]] ((L0.getD v4 RA.z).a0) ((L0.getD v4 RA.z).a1) ((L0.getD v4 RA.z).a2) ((L0.getD v4 RA.z).a3)  y2_0  3), true), (((L0.getD v4 RA.z).a0 == (8 : Int)), true), (dP (ZP (code (ZE E_iiii L0)) (0 + (v4 * 4)) 4 = some [.i (L0.getD v4 RA.z).a0, .i (L0.getD v4 RA.z).a1, .i (L0.getD v4 RA.z).a2, .i (L0.getD v4 RA.z).a3]), true), (Nat.blt v4 L0.length, true), ((v4 : Int) == Int.ofNat v4, true), ((decide ((v4 : Int) < (L0.length : Int))), true)]) rfl (show 1 ∈ ZO (ZaU 1) from by decide +kernel) (fun gv => by kernel_rfl) (Zb (beq_iff_eq.2 ((wrap_i64 ltA).trans (by first | rfl | omega))) <| Zb (Zg (Zpj (E := eI) (L := v1) (i := ((L0.getD v4 RA.z).a1).toNat) (q := 0) (l := [vi (IntKind.i64.wrap ((v1.getD ((L0.getD v4 RA.z).a1).toNat 0) + (1 : Int)))]) (IntKind.i64.wrap ((v1.getD ((L0.getD v4 RA.z).a1).toNat 0) + (1 : Int))) (by omega) (show (0 + (((L0.getD v4 RA.z).a1).toNat * 1)) = ((L0.getD v4 RA.z).a1).toNat * 1 + 0 from by omega) (show 0 + 1 ≤ 1 from by decide) rfl)) <| oB <| oI <| Zb (Zb3 (E := eI) (L := v1) (i := ((L0.getD v4 RA.z).a1).toNat) (q := 0) (by omega) (show (0 + (((L0.getD v4 RA.z).a1).toNat * 1)) = ((L0.getD v4 RA.z).a1).toNat * 1 + 0 from by omega) (show 0 + 1 ≤ 1 from by decide) rfl rfl) <| oB <| oI <| oN <| oE <| Zb (Zg (ZB #[Value.agg #[vi (L0.getD v4 RA.z).a0, vi (L0.getD v4 RA.z).a1, vi (L0.getD v4 RA.z).a2, vi (L0.getD v4 RA.z).a3]] ((L0.getD v4 RA.z).a0) ((L0.getD v4 RA.z).a1) ((L0.getD v4 RA.z).a2) ((L0.getD v4 RA.z).a3)  y2_0 N c2  3 rfl (by decide) (by decide))) <| oT <| Zb (Zg (ZF (E := E_iiii) (L := L0) (i := v4) (q := 0) (by omega) (show (0 + (v4 * 4)) = v4 * 4 + 0 from by omega) (show 0 + 4 ≤ 4 from by decide) rfl)) <| oB <| oI <| oY Ze) rfl (by decide) (by rfl) (fun _ => ⟨rr, ⟨⟨Eq.trans (show (vs 0 0 (v1.set ((L0.getD v4 RA.z).a1).toNat (IntKind.i64.wrap ((v1.getD ((L0.getD v4 RA.z).a1).toNat 0) + (1 : Int)))).length (v1.set ((L0.getD v4 RA.z).a1).toNat (IntKind.i64.wrap ((v1.getD ((L0.getD v4 RA.z).a1).toNat 0) + (1 : Int)))).length : Value) = vs 0 0 v1.length v1.length from (Zay rfl eqA eqA)) (by rfl), by rfl⟩, ⟨rr, ⟨rr, ⟨rr, trivial⟩⟩⟩⟩⟩) ⟨(ZR (E := eI) (α := Int) _ (v1.set ((L0.getD v4 RA.z).a1).toNat (IntKind.i64.wrap ((v1.getD ((L0.getD v4 RA.z).a1).toNat 0) + (1 : Int)))) _), trivial⟩
  ·
   refine Mach.ok_ite (fun g2 => ?_) (fun g2 => ?_)
   ·
    refine Mach.ok_bind (fun z3 c3 => ?_)
    cases z3 with
    | r0 y3_0 =>
     refine Mach.ok_ite (fun g4 => ?_) (fun g4 => ?_)
     ·
      exact Mach.ok_fin (M := ZN L0 N) (cd := 1000000) (cm := 0) (r := (.r0 (([] : List Int)) ((130 : Int)) : ZW)) (fu := 4000) (orc := (Zk [(0, true), (1, false), (2, true), (3, true)] [] [(0, v4)] [(0, [.i (L0.getD v4 RA.z).a0, .i (L0.getD v4 RA.z).a1, .i (L0.getD v4 RA.z).a2, .i (L0.getD v4 RA.z).a3])] [(1, (ZA ((L0.getD v4 RA.z).a0) ((L0.getD v4 RA.z).a1) ((L0.getD v4 RA.z).a2) ((L0.getD v4 RA.z).a3)  y3_0  3))])) (live := []) (u := Value.tuple #[Value.string ⟨#[]⟩, vi (130 : Int)]) (bl := []) (ob := [((y3_0 != (0 : Int)), true), (dP (Z9 #[Value.agg #[vi (L0.getD v4 RA.z).a0, vi (L0.getD v4 RA.z).a1, vi (L0.getD v4 RA.z).a2, vi (L0.getD v4 RA.z).a3]] ((L0.getD v4 RA.z).a0) ((L0.getD v4 RA.z).a1) ((L0.getD v4 RA.z).a2) ((L0.getD v4 RA.z).a3)  y3_0  3), true), (((L0.getD v4 RA.z).a0 == (9 : Int)), true), (((L0.getD v4 RA.z).a0 == (8 : Int)), false), (dP (ZP (code (ZE E_iiii L0)) (0 + (v4 * 4)) 4 = some [.i (L0.getD v4 RA.z).a0, .i (L0.getD v4 RA.z).a1, .i (L0.getD v4 RA.z).a2, .i (L0.getD v4 RA.z).a3]), true), (Nat.blt v4 L0.length, true), ((v4 : Int) == Int.ofNat v4, true), ((decide ((v4 : Int) < (L0.length : Int))), true)]) (fun gv => by kernel_rfl) (oD <| Zb (Zg (ZB #[Value.agg #[vi (L0.getD v4 RA.z).a0, vi (L0.getD v4 RA.z).a1, vi (L0.getD v4 RA.z).a2, vi (L0.getD v4 RA.z).a3]] ((L0.getD v4 RA.z).a0) ((L0.getD v4 RA.z).a1) ((L0.getD v4 RA.z).a2) ((L0.getD v4 RA.z).a3)  y3_0 N c3  3 rfl (by decide) (by decide))) <| oT <| oF <| Zb (Zg (ZF (E := E_iiii) (L := L0) (i := v4) (q := 0) (by omega) (show (0 + (v4 * 4)) = v4 * 4 + 0 from by omega) (show 0 + 4 ≤ 4 from by decide) rfl)) <| oB <| oI <| oY Ze) rfl (by decide) (by rfl) ⟨Eq.trans (show (Value.tuple #[Value.string (Za ([] : List Int)), vi (130 : Int)] : Value) = Value.tuple #[Value.string ⟨#[]⟩, vi (130 : Int)] from (Z7 (Zt rfl (Zt rfl rfl)))) (by rfl), by rfl⟩ trivial
     ·
      refine Mach.ok_ite (fun g5 => ?_) (fun g5 => ?_)
      ·
       exact Mach.ok_fin (M := ZN L0 N) (cd := 1000000) (cm := 0) (r := (.r0 (([] : List Int)) ((130 : Int)) : ZW)) (fu := 4000) (orc := (Zk [(0, true), (1, false), (2, true), (3, false), (4, true)] [] [(0, v4)] [(0, [.i (L0.getD v4 RA.z).a0, .i (L0.getD v4 RA.z).a1, .i (L0.getD v4 RA.z).a2, .i (L0.getD v4 RA.z).a3])] [(1, (ZA ((L0.getD v4 RA.z).a0) ((L0.getD v4 RA.z).a1) ((L0.getD v4 RA.z).a2) ((L0.getD v4 RA.z).a3)  y3_0  3))])) (live := []) (u := Value.tuple #[Value.string ⟨#[]⟩, vi (130 : Int)]) (bl := []) (ob := [((decide ((L0.getD v4 RA.z).a2 > (L0.length : Int))), true), ((y3_0 != (0 : Int)), false), (dP (Z9 #[Value.agg #[vi (L0.getD v4 RA.z).a0, vi (L0.getD v4 RA.z).a1, vi (L0.getD v4 RA.z).a2, vi (L0.getD v4 RA.z).a3]] ((L0.getD v4 RA.z).a0) ((L0.getD v4 RA.z).a1) ((L0.getD v4 RA.z).a2) ((L0.getD v4 RA.z).a3)  y3_0  3), true), (((L0.getD v4 RA.z).a0 == (9 : Int)), true), (((L0.getD v4 RA.z).a0 == (8 : Int)), false), (dP (ZP (code (ZE E_iiii L0)) (0 + (v4 * 4)) 4 = some [.i (L0.getD v4 RA.z).a0, .i (L0.getD v4 RA.z).a1, .i (L0.getD v4 RA.z).a2, .i (L0.getD v4 RA.z).a3]), true), (Nat.blt v4 L0.length, true), ((v4 : Int) == Int.ofNat v4, true), ((decide ((v4 : Int) < (L0.length : Int))), true)]) (fun gv => by kernel_rfl) (oY <| oE <| Zb (Zg (ZB #[Value.agg #[vi (L0.getD v4 RA.z).a0, vi (L0.getD v4 RA.z).a1, vi (L0.getD v4 RA.z).a2, vi (L0.getD v4 RA.z).a3]] ((L0.getD v4 RA.z).a0) ((L0.getD v4 RA.z).a1) ((L0.getD v4 RA.z).a2) ((L0.getD v4 RA.z).a3)  y3_0 N c3  3 rfl (by decide) (by decide))) <| oT <| oF <| Zb (Zg (ZF (E := E_iiii) (L := L0) (i := v4) (q := 0) (by omega) (show (0 + (v4 * 4)) = v4 * 4 + 0 from by omega) (show 0 + 4 ≤ 4 from by decide) rfl)) <| oB <| oI <| oY Ze) rfl (by decide) (by rfl) ⟨Eq.trans (show (Value.tuple #[Value.string (Za ([] : List Int)), vi (130 : Int)] : Value) = Value.tuple #[Value.string ⟨#[]⟩, vi (130 : Int)] from (Z7 (Zt rfl (Zt rfl rfl)))) (by rfl), by rfl⟩ trivial
      ·
       refine Mach.ok_ite (fun g6 => ?_) (fun _ => Mach.ok_none)
       refine Mach.ok_ite (fun g7 => ?_) (fun _ => Mach.ok_none)
       refine Mach.ok_ite (fun g8 => ?_) (fun _ => Mach.ok_none)
       exact Mach.ok_next (M := ZN L0 N) (cd := 1000000) (cm := 0) (y := (.h1m0 ((v1.set ((L0.getD v4 RA.z).a2).toNat (IntKind.i64.wrap ((v1.getD ((L0.getD v4 RA.z).a2).toNat 0) + (1 : Int))))) ((v4 + 1)) : Z8)) (fu := 4000) (orc := (Zk [(0, true), (1, false), (2, true), (3, false), (4, false)] [(1, (((v4 + 1) : Nat) : Int))] [(0, v4), (1, ((L0.getD v4 RA.z).a2).toNat), (2, ((L0.getD v4 RA.z).a2).toNat)] [(0, [.i (L0.getD v4 RA.z).a0, .i (L0.getD v4 RA.z).a1, .i (L0.getD v4 RA.z).a2, .i (L0.getD v4 RA.z).a3]), (5, [.i (v1.getD ((L0.getD v4 RA.z).a2).toNat 0)])] [(1, (ZA ((L0.getD v4 RA.z).a0) ((L0.getD v4 RA.z).a1) ((L0.getD v4 RA.z).a2) ((L0.getD v4 RA.z).a3)  y3_0  3)), (2, .st (Zl eI (v1.set ((L0.getD v4 RA.z).a2).toNat (IntKind.i64.wrap ((v1.getD ((L0.getD v4 RA.z).a2).toNat 0) + (1 : Int))))))])) (live := [0]) (tv := fun _ => [some (ms E_iiii L0), some (vs 0 0 v1.length v1.length), some (ms E_iiii L0), some (vi (L0.length : Int)), some (vi (((v4 + 1) : Nat) : Int))]) (bl := [some (.cells (Zl eI (v1.set ((L0.getD v4 RA.z).a2).toNat (IntKind.i64.wrap ((v1.getD ((L0.getD v4 RA.z).a2).toNat 0) + (1 : Int))))) 3)]) (ob := [((IntKind.i64.wrap ((v4 : Int) + (1 : Int))) == (((v4 + 1) : Nat) : Int), true), (dP ((0 + (((L0.getD v4 RA.z).a2).toNat * 1)) + ([vi (IntKind.i64.wrap ((v1.getD ((L0.getD v4 RA.z).a2).toNat 0) + (1 : Int)))] : List Value).length ≤ ((Zl eI v1) : List Value).length ∧ ZcT (Zl eI v1) (0 + (((L0.getD v4 RA.z).a2).toNat * 1)) [vi (IntKind.i64.wrap ((v1.getD ((L0.getD v4 RA.z).a2).toNat 0) + (1 : Int)))] = (Zl eI (v1.set ((L0.getD v4 RA.z).a2).toNat (IntKind.i64.wrap ((v1.getD ((L0.getD v4 RA.z).a2).toNat 0) + (1 : Int)))))), true), (Nat.blt ((L0.getD v4 RA.z).a2).toNat v1.length, true), ((L0.getD v4 RA.z).a2 == Int.ofNat ((L0.getD v4 RA.z).a2).toNat, true), (ZbD (ZD 1 (List.drop (0 + (((L0.getD v4 RA.z).a2).toNat * 1)) (Zl eI v1))) [.i (v1.getD ((L0.getD v4 RA.z).a2).toNat 0)], true), (Nat.blt ((L0.getD v4 RA.z).a2).toNat v1.length, true), ((L0.getD v4 RA.z).a2 == Int.ofNat ((L0.getD v4 RA.z).a2).toNat, true), ((decide ((L0.getD v4 RA.z).a2 > (L0.length : Int))), false), ((y3_0 != (0 : Int)), false), (dP (Z9 #[Value.agg #[vi (L0.getD v4 RA.z).a0, vi (L0.getD v4 RA.z).a1, vi (L0.getD v4 RA.z).a2, vi (L0.getD v4 RA.z).a3]] ((L0.getD v4 RA.z).a0) ((L0.getD v4 RA.z).a1) ((L0.getD v4 RA.z).a2) ((L0.getD v4 RA.z).a3)  y3_0  3), true), (((L0.getD v4 RA.z).a0 == (9 : Int)), true), (((L0.getD v4 RA.z).a0 == (8 : Int)), false), (dP (ZP (code (ZE E_iiii L0)) (0 + (v4 * 4)) 4 = some [.i (L0.getD v4 RA.z).a0, .i (L0.getD v4 RA.z).a1, .i (L0.getD v4 RA.z).a2, .i (L0.getD v4 RA.z).a3]), true), (Nat.blt v4 L0.length, true), ((v4 : Int) == Int.ofNat v4, true), ((decide ((v4 : Int) < (L0.length : Int))), true)]) rfl (show 1 ∈ ZO (ZaU 1) from by decide +kernel) (fun gv => by kernel_rfl) (Zb (beq_iff_eq.2 ((wrap_i64 ltA).trans (by first | rfl | omega))) <| Zb (Zg (Zpj (E := eI) (L := v1) (i := ((L0.getD v4 RA.z).a2).toNat) (q := 0) (l := [vi (IntKind.i64.wrap ((v1.getD ((L0.getD v4 RA.z).a2).toNat 0) + (1 : Int)))]) (IntKind.i64.wrap ((v1.getD ((L0.getD v4 RA.z).a2).toNat 0) + (1 : Int))) (by omega) (show (0 + (((L0.getD v4 RA.z).a2).toNat * 1)) = ((L0.getD v4 RA.z).a2).toNat * 1 + 0 from by omega) (show 0 + 1 ≤ 1 from by decide) rfl)) <| oB <| oI <| Zb (Zb3 (E := eI) (L := v1) (i := ((L0.getD v4 RA.z).a2).toNat) (q := 0) (by omega) (show (0 + (((L0.getD v4 RA.z).a2).toNat * 1)) = ((L0.getD v4 RA.z).a2).toNat * 1 + 0 from by omega) (show 0 + 1 ≤ 1 from by decide) rfl rfl) <| oB <| oI <| oN <| oE <| Zb (Zg (ZB #[Value.agg #[vi (L0.getD v4 RA.z).a0, vi (L0.getD v4 RA.z).a1, vi (L0.getD v4 RA.z).a2, vi (L0.getD v4 RA.z).a3]] ((L0.getD v4 RA.z).a0) ((L0.getD v4 RA.z).a1) ((L0.getD v4 RA.z).a2) ((L0.getD v4 RA.z).a3)  y3_0 N c3  3 rfl (by decide) (by decide))) <| oT <| oF <| Zb (Zg (ZF (E := E_iiii) (L := L0) (i := v4) (q := 0) (by omega) (show (0 + (v4 * 4)) = v4 * 4 + 0 from by omega) (show 0 + 4 ≤ 4 from by decide) rfl)) <| oB <| oI <| oY Ze) rfl (by decide) (by rfl) (fun _ => ⟨rr, ⟨⟨Eq.trans (show (vs 0 0 (v1.set ((L0.getD v4 RA.z).a2).toNat (IntKind.i64.wrap ((v1.getD ((L0.getD v4 RA.z).a2).toNat 0) + (1 : Int)))).length (v1.set ((L0.getD v4 RA.z).a2).toNat (IntKind.i64.wrap ((v1.getD ((L0.getD v4 RA.z).a2).toNat 0) + (1 : Int)))).length : Value) = vs 0 0 v1.length v1.length from (Zay rfl eqA eqA)) (by rfl), by rfl⟩, ⟨rr, ⟨rr, ⟨rr, trivial⟩⟩⟩⟩⟩) ⟨(ZR (E := eI) (α := Int) _ (v1.set ((L0.getD v4 RA.z).a2).toNat (IntKind.i64.wrap ((v1.getD ((L0.getD v4 RA.z).a2).toNat 0) + (1 : Int)))) _), trivial⟩
   ·
    refine Mach.ok_bind (fun z3 c3 => ?_)
    cases z3 with
    | r0 y3_0 =>
     refine Mach.ok_ite (fun g4 => ?_) (fun g4 => ?_)
     ·
      exact Mach.ok_fin (M := ZN L0 N) (cd := 1000000) (cm := 0) (r := (.r0 (([] : List Int)) ((130 : Int)) : ZW)) (fu := 4000) (orc := (Zk [(0, true), (1, false), (2, false), (3, true)] [] [(0, v4)] [(0, [.i (L0.getD v4 RA.z).a0, .i (L0.getD v4 RA.z).a1, .i (L0.getD v4 RA.z).a2, .i (L0.getD v4 RA.z).a3])] [(1, (ZA ((L0.getD v4 RA.z).a0) ((L0.getD v4 RA.z).a1) ((L0.getD v4 RA.z).a2) ((L0.getD v4 RA.z).a3)  y3_0  3))])) (live := []) (u := Value.tuple #[Value.string ⟨#[]⟩, vi (130 : Int)]) (bl := []) (ob := [((y3_0 != (0 : Int)), true), (dP (Z9 #[Value.agg #[vi (L0.getD v4 RA.z).a0, vi (L0.getD v4 RA.z).a1, vi (L0.getD v4 RA.z).a2, vi (L0.getD v4 RA.z).a3]] ((L0.getD v4 RA.z).a0) ((L0.getD v4 RA.z).a1) ((L0.getD v4 RA.z).a2) ((L0.getD v4 RA.z).a3)  y3_0  3), true), (((L0.getD v4 RA.z).a0 == (9 : Int)), false), (((L0.getD v4 RA.z).a0 == (8 : Int)), false), (dP (ZP (code (ZE E_iiii L0)) (0 + (v4 * 4)) 4 = some [.i (L0.getD v4 RA.z).a0, .i (L0.getD v4 RA.z).a1, .i (L0.getD v4 RA.z).a2, .i (L0.getD v4 RA.z).a3]), true), (Nat.blt v4 L0.length, true), ((v4 : Int) == Int.ofNat v4, true), ((decide ((v4 : Int) < (L0.length : Int))), true)]) (fun gv => by kernel_rfl) (oD <| Zb (Zg (ZB #[Value.agg #[vi (L0.getD v4 RA.z).a0, vi (L0.getD v4 RA.z).a1, vi (L0.getD v4 RA.z).a2, vi (L0.getD v4 RA.z).a3]] ((L0.getD v4 RA.z).a0) ((L0.getD v4 RA.z).a1) ((L0.getD v4 RA.z).a2) ((L0.getD v4 RA.z).a3)  y3_0 N c3  3 rfl (by decide) (by decide))) <| oF <| oF <| Zb (Zg (ZF (E := E_iiii) (L := L0) (i := v4) (q := 0) (by omega) (show (0 + (v4 * 4)) = v4 * 4 + 0 from by omega) (show 0 + 4 ≤ 4 from by decide) rfl)) <| oB <| oI <| oY Ze) rfl (by decide) (by rfl) ⟨Eq.trans (show (Value.tuple #[Value.string (Za ([] : List Int)), vi (130 : Int)] : Value) = Value.tuple #[Value.string ⟨#[]⟩, vi (130 : Int)] from (Z7 (Zt rfl (Zt rfl rfl)))) (by rfl), by rfl⟩ trivial
     ·
      refine Mach.ok_ite (fun g5 => ?_) (fun _ => Mach.ok_none)
      exact Mach.ok_next (M := ZN L0 N) (cd := 1000000) (cm := 0) (y := (.h1m0 (v1) ((v4 + 1)) : Z8)) (fu := 4000) (orc := (Zk [(0, true), (1, false), (2, false), (3, false), (4, false)] [(0, (((v4 + 1) : Nat) : Int))] [(0, v4)] [(0, [.i (L0.getD v4 RA.z).a0, .i (L0.getD v4 RA.z).a1, .i (L0.getD v4 RA.z).a2, .i (L0.getD v4 RA.z).a3])] [(1, (ZA ((L0.getD v4 RA.z).a0) ((L0.getD v4 RA.z).a1) ((L0.getD v4 RA.z).a2) ((L0.getD v4 RA.z).a3)  y3_0  3))])) (live := [0]) (tv := fun _ => [some (ms E_iiii L0), some (vs 0 0 v1.length v1.length), some (ms E_iiii L0), some (vi (L0.length : Int)), some (vi (((v4 + 1) : Nat) : Int))]) (bl := [some (.cells (Zl eI v1) 3)]) (ob := [((IntKind.i64.wrap ((v4 : Int) + (1 : Int))) == (((v4 + 1) : Nat) : Int), true), ((decide ((0 : Int) > (L0.length : Int))), false), ((y3_0 != (0 : Int)), false), (dP (Z9 #[Value.agg #[vi (L0.getD v4 RA.z).a0, vi (L0.getD v4 RA.z).a1, vi (L0.getD v4 RA.z).a2, vi (L0.getD v4 RA.z).a3]] ((L0.getD v4 RA.z).a0) ((L0.getD v4 RA.z).a1) ((L0.getD v4 RA.z).a2) ((L0.getD v4 RA.z).a3)  y3_0  3), true), (((L0.getD v4 RA.z).a0 == (9 : Int)), false), (((L0.getD v4 RA.z).a0 == (8 : Int)), false), (dP (ZP (code (ZE E_iiii L0)) (0 + (v4 * 4)) 4 = some [.i (L0.getD v4 RA.z).a0, .i (L0.getD v4 RA.z).a1, .i (L0.getD v4 RA.z).a2, .i (L0.getD v4 RA.z).a3]), true), (Nat.blt v4 L0.length, true), ((v4 : Int) == Int.ofNat v4, true), ((decide ((v4 : Int) < (L0.length : Int))), true)]) rfl (show 1 ∈ ZO (ZaU 1) from by decide +kernel) (fun gv => by kernel_rfl) (Zb (beq_iff_eq.2 ((wrap_i64 ltA).trans (by first | rfl | omega))) <| oN <| oE <| Zb (Zg (ZB #[Value.agg #[vi (L0.getD v4 RA.z).a0, vi (L0.getD v4 RA.z).a1, vi (L0.getD v4 RA.z).a2, vi (L0.getD v4 RA.z).a3]] ((L0.getD v4 RA.z).a0) ((L0.getD v4 RA.z).a1) ((L0.getD v4 RA.z).a2) ((L0.getD v4 RA.z).a3)  y3_0 N c3  3 rfl (by decide) (by decide))) <| oF <| oF <| Zb (Zg (ZF (E := E_iiii) (L := L0) (i := v4) (q := 0) (by omega) (show (0 + (v4 * 4)) = v4 * 4 + 0 from by omega) (show 0 + 4 ≤ 4 from by decide) rfl)) <| oB <| oI <| oY Ze) rfl (by decide) (by rfl) (fun _ => ⟨rr, ⟨rr, ⟨rr, ⟨rr, ⟨rr, trivial⟩⟩⟩⟩⟩) ⟨(ZR (E := eI) (α := Int) _ v1 _), trivial⟩
 ·
  refine Mach.ok_ite (fun g1 => ?_) (fun _ => Mach.ok_none)
  exact Mach.ok_head (bK := Zbo 2) (M := ZN L0 N) (cd := 1000000) (cm := 0) (y := (.h2m0 (v1) (0) : Z8)) (fu := 4000) (orc := (Zk [(0, false)] [(0, (((L0.length + 1) : Nat) : Int))] [] [] [])) (live := [0, 1]) (tv := fun _ => [some (ms E_iiii L0), some (vs 0 0 v1.length v1.length), some (vp 1 0), some (vi (((L0.length + 1) : Nat) : Int)), some (vq)]) (bl := [some (.cells (Zl eI v1) 3), some (.cells [Value.pointer none, vn] 43)]) (ob := [((IntKind.i64.wrap ((L0.length : Int) + (1 : Int))) == (((L0.length + 1) : Nat) : Int), true), ((decide ((v4 : Int) < (L0.length : Int))), false)]) rfl rfl (show ∀ j ∈ ZO (Zbo 2).2, j ∈ ZO (ZaU 1) from by decide +kernel) (fun gv => by kernel_rfl) (Zb (beq_iff_eq.2 ((wrap_i64 ltA).trans (by first | rfl | omega))) <| oN Ze) rfl (by decide) (by rfl) (fun _ => ⟨rr, ⟨rr, ⟨rr, ⟨rr, ⟨⟨Eq.trans (show (vi ((0 : Nat) : Int) : Value) = vq from (congrArg (Value.int .i64) (by first | rfl | omega))) (by rfl), by rfl⟩, trivial⟩⟩⟩⟩⟩) ⟨(ZR (E := eI) (α := Int) _ v1 _), ⟨sm, trivial⟩⟩

end Ev
end Go.Proofs.YtaifklllpehnmaaGreatDoor
