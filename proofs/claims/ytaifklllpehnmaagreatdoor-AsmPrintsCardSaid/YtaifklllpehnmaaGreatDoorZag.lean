/- The law AsmPrints, for every input. -/
import Derived.Test.YtaifklllpehnmaaGreatDoorZaf
import Derived.Test.YtaifklllpehnmaaGreatDoorZad
import Derived.Test.YtaifklllpehnmaaGreatDoorZac
import Derived.StillTail
import Derived.OrdersHeld
import Derived.WideBlind
import Derived.Lib.LaidTab
import Derived.LaidMore
import Derived.LaidSub
import Derived.MakeChecks
import Derived.Handed
import Derived.Stop.Joined
import Derived.Test.YtaifklllpehnmaaGreatDoorTie
import Derived.Test.YtaifklllpehnmaaGreatDoorCards
import Derived.Lay
set_option linter.unusedSimpArgs false
set_option linter.unusedVariables false
/- Calls do what the plain functions say. -/
namespace Go.Proofs.YtaifklllpehnmaaGreatDoor
open Go.RowKit
namespace Ev
set_option linter.unusedVariables false
set_option maxRecDepth 100000
theorem ZkH (a0 a1 a2 a3 : Int) (N : Nat) (y0_0 : Bool) (c0 : Zw (a0) (a1) (a2) (a3) N = some (.r0 y0_0)) (g1 : ¬ (¬ (y0_0 = true))) (g15 : a0 = 13) (y16_0 : List Int) (c16 : Zy (a1) N = some (.r0 y16_0)) (g17 : (2 + y16_0.length) ≤ 1000000) (g18 : (3 + (2 + y16_0.length)) ≤ 1000000) (y19_0 : List Int) (c19 : Zy (a2) N = some (.r0 y19_0)) (g20 : (2 + y19_0.length) ≤ 1000000) (g21 : ((3 + (2 + y16_0.length)) + (2 + y19_0.length)) ≤ 1000000) (y22_0 : List Int) (c22 : Zy (a3) N = some (.r0 y22_0)) (g23 : (1 + y22_0.length) ≤ 1000000) (g24 : (((3 + (2 + y16_0.length)) + (2 + y19_0.length)) + (1 + y22_0.length)) ≤ 1000000) : ZG a0 a1 a2 a3 (.r0 (((((bl [103, 101, 116]) ++ ((bl [32, 114]) ++ y16_0)) ++ ((bl [32, 114]) ++ y19_0)) ++ ((bl [32]) ++ y22_0))) (0) : Zx) := Zae (orc := (Zk [(0, false), (1, false), (2, false), (3, false), (4, false), (5, false), (6, false), (7, false), (8, false), (9, false), (10, false), (11, false), (12, false), (13, false), (14, true), (15, false), (16, false)] [] [(0, 13)] [] [(0, (ZL (a0) (a1) (a2) (a3)  y0_0  1)), (3, (Z3 (a1)  y16_0  4)), (4, (Z3 (a2)  y19_0  4)), (5, (Z3 (a3)  y22_0  4))])) (u := Value.tuple #[Value.string ((((Za (bl [103, 101, 116])) ++ ((Za (bl [32, 114])) ++ (Za y16_0))) ++ ((Za (bl [32, 114])) ++ (Za y19_0))) ++ ((Za (bl [32])) ++ (Za y22_0))), vq]) (ob := [(dP (((((((Za (bl [103, 101, 116])) ++ ((Za (bl [32, 114])) ++ (Za y16_0))) ++ ((Za (bl [32, 114])) ++ (Za y19_0)))).size + (((Za (bl [32])) ++ (Za y22_0))).size : Nat) : Int) ≤ IntKind.i64.max), true), (dP (((((Za (bl [32]))).size + ((Za y22_0)).size : Nat) : Int) ≤ IntKind.i64.max), true), (dP (Z2 #[vi a3] (a3)  y22_0  4), true), (dP ((((((Za (bl [103, 101, 116])) ++ ((Za (bl [32, 114])) ++ (Za y16_0)))).size + (((Za (bl [32, 114])) ++ (Za y19_0))).size : Nat) : Int) ≤ IntKind.i64.max), true), (dP (((((Za (bl [32, 114]))).size + ((Za y19_0)).size : Nat) : Int) ≤ IntKind.i64.max), true), (dP (Z2 #[vi a2] (a2)  y19_0  4), true), (dP (((((Za (bl [103, 101, 116]))).size + (((Za (bl [32, 114])) ++ (Za y16_0))).size : Nat) : Int) ≤ IntKind.i64.max), true), (dP (((((Za (bl [32, 114]))).size + ((Za y16_0)).size : Nat) : Int) ≤ IntKind.i64.max), true), (dP (Z2 #[vi a1] (a1)  y16_0  4), true), (Nat.blt 13 21, true), (a0 == Int.ofNat 13, true), tN (a0 > 20), tN (a0 < 1), ((a0 == 13), true), ((a0 == 11), false), ((a0 == 9), false), ((a0 == 8), false), ((a0 == 7), false), ((a0 == 6), false), ((a0 == 5), false), ((a0 == 4), false), ((a0 == 3), false), ((a0 == 19), false), ((a0 == 12), false), ((a0 == 10), false), ((a0 == 2), false), ((a0 == 1), false), ((!y0_0), false), (dP (ZI #[Value.agg #[vi a0, vi a1, vi a2, vi a3]] (a0) (a1) (a2) (a3)  y0_0  1), true)]) (by kernel_rfl) (Zb (Zg (Zm (x := (((bl [103, 101, 116]) ++ ((bl [32, 114]) ++ y16_0)) ++ ((bl [32, 114]) ++ y19_0))) (y := ((bl [32]) ++ y22_0)) sE sE ltA)) <| Zb (Zg (Zm (x := (bl [32])) (y := y22_0) rfl rfl ltA)) <| Zb (Zg (Z5 #[vi a3] (a3)  y22_0 N c22  4 rfl (by decide) (by decide))) <| Zb (Zg (Zm (x := ((bl [103, 101, 116]) ++ ((bl [32, 114]) ++ y16_0))) (y := ((bl [32, 114]) ++ y19_0)) sE sE ltA)) <| Zb (Zg (Zm (x := (bl [32, 114])) (y := y19_0) rfl rfl ltA)) <| Zb (Zg (Z5 #[vi a2] (a2)  y19_0 N c19  4 rfl (by decide) (by decide))) <| Zb (Zg (Zm (x := (bl [103, 101, 116])) (y := ((bl [32, 114]) ++ y16_0)) rfl sE ltA)) <| Zb (Zg (Zm (x := (bl [32, 114])) (y := y16_0) rfl rfl ltA)) <| Zb (Zg (Z5 #[vi a1] (a1)  y16_0 N c16  4 rfl (by decide) (by decide))) <| oB <| oK <| oN <| oN <| oT <| oF <| oF <| oF <| oF <| oF <| oF <| oF <| oF <| oF <| oF <| oF <| oF <| oF <| Zb (ZaC (by first | assumption | exact Decidable.not_not.1 (by assumption) | simp_all)) <| Zb (Zg (ZM #[Value.agg #[vi a0, vi a1, vi a2, vi a3]] (a0) (a1) (a2) (a3)  y0_0 N c0  1 rfl (by decide) (by decide))) Ze) ⟨Eq.trans (show (Value.tuple #[Value.string (Za ((((bl [103, 101, 116]) ++ ((bl [32, 114]) ++ y16_0)) ++ ((bl [32, 114]) ++ y19_0)) ++ ((bl [32]) ++ y22_0))), vq] : Value) = Value.tuple #[Value.string ((((Za (bl [103, 101, 116])) ++ ((Za (bl [32, 114])) ++ (Za y16_0))) ++ ((Za (bl [32, 114])) ++ (Za y19_0))) ++ ((Za (bl [32])) ++ (Za y22_0))), vq] from (Z7 (Zt (congrArg Value.string sE) (Zt rfl rfl)))) (by rfl), by rfl⟩

theorem ZkI (a0 a1 a2 a3 : Int) (N : Nat) (y0_0 : Bool) (c0 : Zw (a0) (a1) (a2) (a3) N = some (.r0 y0_0)) (g1 : ¬ (¬ (y0_0 = true))) (g16 : a0 = 14) (y17_0 : List Int) (c17 : Zy (a1) N = some (.r0 y17_0)) (g18 : (2 + y17_0.length) ≤ 1000000) (g19 : (3 + (2 + y17_0.length)) ≤ 1000000) (y20_0 : List Int) (c20 : Zy (a2) N = some (.r0 y20_0)) (g21 : (1 + y20_0.length) ≤ 1000000) (g22 : ((3 + (2 + y17_0.length)) + (1 + y20_0.length)) ≤ 1000000) (y23_0 : List Int) (c23 : Zy (a3) N = some (.r0 y23_0)) (g24 : (2 + y23_0.length) ≤ 1000000) (g25 : (((3 + (2 + y17_0.length)) + (1 + y20_0.length)) + (2 + y23_0.length)) ≤ 1000000) : ZG a0 a1 a2 a3 (.r0 (((((bl [115, 101, 116]) ++ ((bl [32, 114]) ++ y17_0)) ++ ((bl [32]) ++ y20_0)) ++ ((bl [32, 114]) ++ y23_0))) (0) : Zx) := Zae (orc := (Zk [(0, false), (1, false), (2, false), (3, false), (4, false), (5, false), (6, false), (7, false), (8, false), (9, false), (10, false), (11, false), (12, false), (13, false), (14, false), (15, true), (16, false), (17, false)] [] [(0, 14)] [] [(0, (ZL (a0) (a1) (a2) (a3)  y0_0  1)), (3, (Z3 (a1)  y17_0  4)), (4, (Z3 (a2)  y20_0  4)), (5, (Z3 (a3)  y23_0  4))])) (u := Value.tuple #[Value.string ((((Za (bl [115, 101, 116])) ++ ((Za (bl [32, 114])) ++ (Za y17_0))) ++ ((Za (bl [32])) ++ (Za y20_0))) ++ ((Za (bl [32, 114])) ++ (Za y23_0))), vq]) (ob := [(dP (((((((Za (bl [115, 101, 116])) ++ ((Za (bl [32, 114])) ++ (Za y17_0))) ++ ((Za (bl [32])) ++ (Za y20_0)))).size + (((Za (bl [32, 114])) ++ (Za y23_0))).size : Nat) : Int) ≤ IntKind.i64.max), true), (dP (((((Za (bl [32, 114]))).size + ((Za y23_0)).size : Nat) : Int) ≤ IntKind.i64.max), true), (dP (Z2 #[vi a3] (a3)  y23_0  4), true), (dP ((((((Za (bl [115, 101, 116])) ++ ((Za (bl [32, 114])) ++ (Za y17_0)))).size + (((Za (bl [32])) ++ (Za y20_0))).size : Nat) : Int) ≤ IntKind.i64.max), true), (dP (((((Za (bl [32]))).size + ((Za y20_0)).size : Nat) : Int) ≤ IntKind.i64.max), true), (dP (Z2 #[vi a2] (a2)  y20_0  4), true), (dP (((((Za (bl [115, 101, 116]))).size + (((Za (bl [32, 114])) ++ (Za y17_0))).size : Nat) : Int) ≤ IntKind.i64.max), true), (dP (((((Za (bl [32, 114]))).size + ((Za y17_0)).size : Nat) : Int) ≤ IntKind.i64.max), true), (dP (Z2 #[vi a1] (a1)  y17_0  4), true), (Nat.blt 14 21, true), (a0 == Int.ofNat 14, true), tN (a0 > 20), tN (a0 < 1), ((a0 == 14), true), ((a0 == 13), false), ((a0 == 11), false), ((a0 == 9), false), ((a0 == 8), false), ((a0 == 7), false), ((a0 == 6), false), ((a0 == 5), false), ((a0 == 4), false), ((a0 == 3), false), ((a0 == 19), false), ((a0 == 12), false), ((a0 == 10), false), ((a0 == 2), false), ((a0 == 1), false), ((!y0_0), false), (dP (ZI #[Value.agg #[vi a0, vi a1, vi a2, vi a3]] (a0) (a1) (a2) (a3)  y0_0  1), true)]) (by kernel_rfl) (Zb (Zg (Zm (x := (((bl [115, 101, 116]) ++ ((bl [32, 114]) ++ y17_0)) ++ ((bl [32]) ++ y20_0))) (y := ((bl [32, 114]) ++ y23_0)) sE sE ltA)) <| Zb (Zg (Zm (x := (bl [32, 114])) (y := y23_0) rfl rfl ltA)) <| Zb (Zg (Z5 #[vi a3] (a3)  y23_0 N c23  4 rfl (by decide) (by decide))) <| Zb (Zg (Zm (x := ((bl [115, 101, 116]) ++ ((bl [32, 114]) ++ y17_0))) (y := ((bl [32]) ++ y20_0)) sE sE ltA)) <| Zb (Zg (Zm (x := (bl [32])) (y := y20_0) rfl rfl ltA)) <| Zb (Zg (Z5 #[vi a2] (a2)  y20_0 N c20  4 rfl (by decide) (by decide))) <| Zb (Zg (Zm (x := (bl [115, 101, 116])) (y := ((bl [32, 114]) ++ y17_0)) rfl sE ltA)) <| Zb (Zg (Zm (x := (bl [32, 114])) (y := y17_0) rfl rfl ltA)) <| Zb (Zg (Z5 #[vi a1] (a1)  y17_0 N c17  4 rfl (by decide) (by decide))) <| oB <| oK <| oN <| oN <| oT <| oF <| oF <| oF <| oF <| oF <| oF <| oF <| oF <| oF <| oF <| oF <| oF <| oF <| oF <| Zb (ZaC (by first | assumption | exact Decidable.not_not.1 (by assumption) | simp_all)) <| Zb (Zg (ZM #[Value.agg #[vi a0, vi a1, vi a2, vi a3]] (a0) (a1) (a2) (a3)  y0_0 N c0  1 rfl (by decide) (by decide))) Ze) ⟨Eq.trans (show (Value.tuple #[Value.string (Za ((((bl [115, 101, 116]) ++ ((bl [32, 114]) ++ y17_0)) ++ ((bl [32]) ++ y20_0)) ++ ((bl [32, 114]) ++ y23_0))), vq] : Value) = Value.tuple #[Value.string ((((Za (bl [115, 101, 116])) ++ ((Za (bl [32, 114])) ++ (Za y17_0))) ++ ((Za (bl [32])) ++ (Za y20_0))) ++ ((Za (bl [32, 114])) ++ (Za y23_0))), vq] from (Z7 (Zt (congrArg Value.string sE) (Zt rfl rfl)))) (by rfl), by rfl⟩

theorem Zp8 {a0 : Int} {a1 : Int} {a2 : Int} {a3 : Int} {orc : Orc} {ob : List (Bool × Bool)} (hev : ZaG [] (ZaN Tryz.prog ZX 8 [] #[Value.agg #[vi a0, vi a1, vi a2, vi a3]] 4000 orc) = some (Value.tuple #[Value.string ⟨#[98, 101, 103, 105, 110]⟩, vq], [], ob)) (ho : ∀ p ∈ ob, p.1 = p.2) : ZG a0 a1 a2 a3 (.r0 ((bl [98, 101, 103, 105, 110])) (0) : Zx) := Zae hev ho ⟨Eq.trans (show (Value.tuple #[Value.string (Za (bl [98, 101, 103, 105, 110])), vq] : Value) = Value.tuple #[Value.string ⟨#[98, 101, 103, 105, 110]⟩, vq] from (Z7 (Zt rfl (Zt rfl rfl)))) (by rfl), by rfl⟩

theorem ZkJ (a0 a1 a2 a3 : Int) (N : Nat) (y0_0 : Bool) (c0 : Zw (a0) (a1) (a2) (a3) N = some (.r0 y0_0)) (g1 : ¬ (¬ (y0_0 = true))) (g17 : a0 = 15) : ZG a0 a1 a2 a3 (.r0 ((bl [98, 101, 103, 105, 110])) (0) : Zx) := Zp8 (orc := (Zk [(0, false), (1, false), (2, false), (3, false), (4, false), (5, false), (6, false), (7, false), (8, false), (9, false), (10, false), (11, false), (12, false), (13, false), (14, false), (15, false), (16, true), (17, false), (18, false)] [] [(0, 15)] [] [(0, (ZL (a0) (a1) (a2) (a3)  y0_0  1))])) (ob := [(dP (((((Za (bl [98, 101, 103, 105, 110]))).size + ((Za ([] : List Int))).size : Nat) : Int) ≤ IntKind.i64.max), true), (dP (((((Za (bl [98, 101, 103, 105, 110]))).size + ((Za ([] : List Int))).size : Nat) : Int) ≤ IntKind.i64.max), true), (dP (((((Za (bl [98, 101, 103, 105, 110]))).size + ((Za ([] : List Int))).size : Nat) : Int) ≤ IntKind.i64.max), true), (Nat.blt 15 21, true), (a0 == Int.ofNat 15, true), tN (a0 > 20), tN (a0 < 1), ((a0 == 15), true), ((a0 == 14), false), ((a0 == 13), false), ((a0 == 11), false), ((a0 == 9), false), ((a0 == 8), false), ((a0 == 7), false), ((a0 == 6), false), ((a0 == 5), false), ((a0 == 4), false), ((a0 == 3), false), ((a0 == 19), false), ((a0 == 12), false), ((a0 == 10), false), ((a0 == 2), false), ((a0 == 1), false), ((!y0_0), false), (dP (ZI #[Value.agg #[vi a0, vi a1, vi a2, vi a3]] (a0) (a1) (a2) (a3)  y0_0  1), true)]) (by kernel_rfl) (Zb (Zg (Zm (x := (bl [98, 101, 103, 105, 110])) (y := ([] : List Int)) rfl rfl ltA)) <| Zb (Zg (Zm (x := (bl [98, 101, 103, 105, 110])) (y := ([] : List Int)) rfl rfl ltA)) <| Zb (Zg (Zm (x := (bl [98, 101, 103, 105, 110])) (y := ([] : List Int)) rfl rfl ltA)) <| oB <| oK <| oN <| oN <| oT <| oF <| oF <| oF <| oF <| oF <| oF <| oF <| oF <| oF <| oF <| oF <| oF <| oF <| oF <| oF <| Zb (ZaC (by first | assumption | exact Decidable.not_not.1 (by assumption) | simp_all)) <| Zb (Zg (ZM #[Value.agg #[vi a0, vi a1, vi a2, vi a3]] (a0) (a1) (a2) (a3)  y0_0 N c0  1 rfl (by decide) (by decide))) Ze)

theorem Zp9 {a0 : Int} {a1 : Int} {a2 : Int} {a3 : Int} {orc : Orc} {ob : List (Bool × Bool)} (hev : ZaG [] (ZaN Tryz.prog ZX 8 [] #[Value.agg #[vi a0, vi a1, vi a2, vi a3]] 4000 orc) = some (Value.tuple #[Value.string ⟨#[101, 108, 115, 101]⟩, vq], [], ob)) (ho : ∀ p ∈ ob, p.1 = p.2) : ZG a0 a1 a2 a3 (.r0 ((bl [101, 108, 115, 101])) (0) : Zx) := Zae hev ho ⟨Eq.trans (show (Value.tuple #[Value.string (Za (bl [101, 108, 115, 101])), vq] : Value) = Value.tuple #[Value.string ⟨#[101, 108, 115, 101]⟩, vq] from (Z7 (Zt rfl (Zt rfl rfl)))) (by rfl), by rfl⟩

theorem ZkK (a0 a1 a2 a3 : Int) (N : Nat) (y0_0 : Bool) (c0 : Zw (a0) (a1) (a2) (a3) N = some (.r0 y0_0)) (g1 : ¬ (¬ (y0_0 = true))) (g18 : a0 = 16) : ZG a0 a1 a2 a3 (.r0 ((bl [101, 108, 115, 101])) (0) : Zx) := Zp9 (orc := (Zk [(0, false), (1, false), (2, false), (3, false), (4, false), (5, false), (6, false), (7, false), (8, false), (9, false), (10, false), (11, false), (12, false), (13, false), (14, false), (15, false), (16, false), (17, true), (18, false), (19, false)] [] [(0, 16)] [] [(0, (ZL (a0) (a1) (a2) (a3)  y0_0  1))])) (ob := [(dP (((((Za (bl [101, 108, 115, 101]))).size + ((Za ([] : List Int))).size : Nat) : Int) ≤ IntKind.i64.max), true), (dP (((((Za (bl [101, 108, 115, 101]))).size + ((Za ([] : List Int))).size : Nat) : Int) ≤ IntKind.i64.max), true), (dP (((((Za (bl [101, 108, 115, 101]))).size + ((Za ([] : List Int))).size : Nat) : Int) ≤ IntKind.i64.max), true), (Nat.blt 16 21, true), (a0 == Int.ofNat 16, true), tN (a0 > 20), tN (a0 < 1), ((a0 == 16), true), ((a0 == 15), false), ((a0 == 14), false), ((a0 == 13), false), ((a0 == 11), false), ((a0 == 9), false), ((a0 == 8), false), ((a0 == 7), false), ((a0 == 6), false), ((a0 == 5), false), ((a0 == 4), false), ((a0 == 3), false), ((a0 == 19), false), ((a0 == 12), false), ((a0 == 10), false), ((a0 == 2), false), ((a0 == 1), false), ((!y0_0), false), (dP (ZI #[Value.agg #[vi a0, vi a1, vi a2, vi a3]] (a0) (a1) (a2) (a3)  y0_0  1), true)]) (by kernel_rfl) (Zb (Zg (Zm (x := (bl [101, 108, 115, 101])) (y := ([] : List Int)) rfl rfl ltA)) <| Zb (Zg (Zm (x := (bl [101, 108, 115, 101])) (y := ([] : List Int)) rfl rfl ltA)) <| Zb (Zg (Zm (x := (bl [101, 108, 115, 101])) (y := ([] : List Int)) rfl rfl ltA)) <| oB <| oK <| oN <| oN <| oT <| oF <| oF <| oF <| oF <| oF <| oF <| oF <| oF <| oF <| oF <| oF <| oF <| oF <| oF <| oF <| oF <| Zb (ZaC (by first | assumption | exact Decidable.not_not.1 (by assumption) | simp_all)) <| Zb (Zg (ZM #[Value.agg #[vi a0, vi a1, vi a2, vi a3]] (a0) (a1) (a2) (a3)  y0_0 N c0  1 rfl (by decide) (by decide))) Ze)

theorem ZpA {a0 : Int} {a1 : Int} {a2 : Int} {a3 : Int} {orc : Orc} {ob : List (Bool × Bool)} (hev : ZaG [] (ZaN Tryz.prog ZX 8 [] #[Value.agg #[vi a0, vi a1, vi a2, vi a3]] 4000 orc) = some (Value.tuple #[Value.string ⟨#[101, 110, 100]⟩, vq], [], ob)) (ho : ∀ p ∈ ob, p.1 = p.2) : ZG a0 a1 a2 a3 (.r0 ((bl [101, 110, 100])) (0) : Zx) := Zae hev ho ⟨Eq.trans (show (Value.tuple #[Value.string (Za (bl [101, 110, 100])), vq] : Value) = Value.tuple #[Value.string ⟨#[101, 110, 100]⟩, vq] from (Z7 (Zt rfl (Zt rfl rfl)))) (by rfl), by rfl⟩

theorem ZkL (a0 a1 a2 a3 : Int) (N : Nat) (y0_0 : Bool) (c0 : Zw (a0) (a1) (a2) (a3) N = some (.r0 y0_0)) (g1 : ¬ (¬ (y0_0 = true))) (g19 : a0 = 17) : ZG a0 a1 a2 a3 (.r0 ((bl [101, 110, 100])) (0) : Zx) := ZpA (orc := (Zk [(0, false), (1, false), (2, false), (3, false), (4, false), (5, false), (6, false), (7, false), (8, false), (9, false), (10, false), (11, false), (12, false), (13, false), (14, false), (15, false), (16, false), (17, false), (18, true), (19, false), (20, false)] [] [(0, 17)] [] [(0, (ZL (a0) (a1) (a2) (a3)  y0_0  1))])) (ob := [(dP (((((Za (bl [101, 110, 100]))).size + ((Za ([] : List Int))).size : Nat) : Int) ≤ IntKind.i64.max), true), (dP (((((Za (bl [101, 110, 100]))).size + ((Za ([] : List Int))).size : Nat) : Int) ≤ IntKind.i64.max), true), (dP (((((Za (bl [101, 110, 100]))).size + ((Za ([] : List Int))).size : Nat) : Int) ≤ IntKind.i64.max), true), (Nat.blt 17 21, true), (a0 == Int.ofNat 17, true), tN (a0 > 20), tN (a0 < 1), ((a0 == 17), true), ((a0 == 16), false), ((a0 == 15), false), ((a0 == 14), false), ((a0 == 13), false), ((a0 == 11), false), ((a0 == 9), false), ((a0 == 8), false), ((a0 == 7), false), ((a0 == 6), false), ((a0 == 5), false), ((a0 == 4), false), ((a0 == 3), false), ((a0 == 19), false), ((a0 == 12), false), ((a0 == 10), false), ((a0 == 2), false), ((a0 == 1), false), ((!y0_0), false), (dP (ZI #[Value.agg #[vi a0, vi a1, vi a2, vi a3]] (a0) (a1) (a2) (a3)  y0_0  1), true)]) (by kernel_rfl) (Zb (Zg (Zm (x := (bl [101, 110, 100])) (y := ([] : List Int)) rfl rfl ltA)) <| Zb (Zg (Zm (x := (bl [101, 110, 100])) (y := ([] : List Int)) rfl rfl ltA)) <| Zb (Zg (Zm (x := (bl [101, 110, 100])) (y := ([] : List Int)) rfl rfl ltA)) <| oB <| oK <| oN <| oN <| oT <| oF <| oF <| oF <| oF <| oF <| oF <| oF <| oF <| oF <| oF <| oF <| oF <| oF <| oF <| oF <| oF <| oF <| Zb (ZaC (by first | assumption | exact Decidable.not_not.1 (by assumption) | simp_all)) <| Zb (Zg (ZM #[Value.agg #[vi a0, vi a1, vi a2, vi a3]] (a0) (a1) (a2) (a3)  y0_0 N c0  1 rfl (by decide) (by decide))) Ze)

theorem ZpB {a0 : Int} {a1 : Int} {a2 : Int} {a3 : Int} {orc : Orc} {ob : List (Bool × Bool)} (hev : ZaG [] (ZaN Tryz.prog ZX 8 [] #[Value.agg #[vi a0, vi a1, vi a2, vi a3]] 4000 orc) = some (Value.tuple #[Value.string ⟨#[114, 101, 116, 114, 121]⟩, vq], [], ob)) (ho : ∀ p ∈ ob, p.1 = p.2) : ZG a0 a1 a2 a3 (.r0 ((bl [114, 101, 116, 114, 121])) (0) : Zx) := Zae hev ho ⟨Eq.trans (show (Value.tuple #[Value.string (Za (bl [114, 101, 116, 114, 121])), vq] : Value) = Value.tuple #[Value.string ⟨#[114, 101, 116, 114, 121]⟩, vq] from (Z7 (Zt rfl (Zt rfl rfl)))) (by rfl), by rfl⟩

theorem ZkM (a0 a1 a2 a3 : Int) (N : Nat) (y0_0 : Bool) (c0 : Zw (a0) (a1) (a2) (a3) N = some (.r0 y0_0)) (g1 : ¬ (¬ (y0_0 = true))) (g20 : a0 = 18) : ZG a0 a1 a2 a3 (.r0 ((bl [114, 101, 116, 114, 121])) (0) : Zx) := ZpB (orc := (Zk [(0, false), (1, false), (2, false), (3, false), (4, false), (5, false), (6, false), (7, false), (8, false), (9, false), (10, false), (11, false), (12, false), (13, false), (14, false), (15, false), (16, false), (17, false), (18, false), (19, true), (20, false), (21, false)] [] [(0, 18)] [] [(0, (ZL (a0) (a1) (a2) (a3)  y0_0  1))])) (ob := [(dP (((((Za (bl [114, 101, 116, 114, 121]))).size + ((Za ([] : List Int))).size : Nat) : Int) ≤ IntKind.i64.max), true), (dP (((((Za (bl [114, 101, 116, 114, 121]))).size + ((Za ([] : List Int))).size : Nat) : Int) ≤ IntKind.i64.max), true), (dP (((((Za (bl [114, 101, 116, 114, 121]))).size + ((Za ([] : List Int))).size : Nat) : Int) ≤ IntKind.i64.max), true), (Nat.blt 18 21, true), (a0 == Int.ofNat 18, true), tN (a0 > 20), tN (a0 < 1), ((a0 == 18), true), ((a0 == 17), false), ((a0 == 16), false), ((a0 == 15), false), ((a0 == 14), false), ((a0 == 13), false), ((a0 == 11), false), ((a0 == 9), false), ((a0 == 8), false), ((a0 == 7), false), ((a0 == 6), false), ((a0 == 5), false), ((a0 == 4), false), ((a0 == 3), false), ((a0 == 19), false), ((a0 == 12), false), ((a0 == 10), false), ((a0 == 2), false), ((a0 == 1), false), ((!y0_0), false), (dP (ZI #[Value.agg #[vi a0, vi a1, vi a2, vi a3]] (a0) (a1) (a2) (a3)  y0_0  1), true)]) (by kernel_rfl) (Zb (Zg (Zm (x := (bl [114, 101, 116, 114, 121])) (y := ([] : List Int)) rfl rfl ltA)) <| Zb (Zg (Zm (x := (bl [114, 101, 116, 114, 121])) (y := ([] : List Int)) rfl rfl ltA)) <| Zb (Zg (Zm (x := (bl [114, 101, 116, 114, 121])) (y := ([] : List Int)) rfl rfl ltA)) <| oB <| oK <| oN <| oN <| oT <| oF <| oF <| oF <| oF <| oF <| oF <| oF <| oF <| oF <| oF <| oF <| oF <| oF <| oF <| oF <| oF <| oF <| oF <| Zb (ZaC (by first | assumption | exact Decidable.not_not.1 (by assumption) | simp_all)) <| Zb (Zg (ZM #[Value.agg #[vi a0, vi a1, vi a2, vi a3]] (a0) (a1) (a2) (a3)  y0_0 N c0  1 rfl (by decide) (by decide))) Ze)

theorem ZpC {a0 : Int} {a1 : Int} {a2 : Int} {a3 : Int} {orc : Orc} {ob : List (Bool × Bool)} (hev : ZaG [] (ZaN Tryz.prog ZX 8 [] #[Value.agg #[vi a0, vi a1, vi a2, vi a3]] 4000 orc) = some (Value.tuple #[Value.string ⟨#[104, 97, 108, 116]⟩, vq], [], ob)) (ho : ∀ p ∈ ob, p.1 = p.2) : ZG a0 a1 a2 a3 (.r0 ((bl [104, 97, 108, 116])) (0) : Zx) := Zae hev ho ⟨Eq.trans (show (Value.tuple #[Value.string (Za (bl [104, 97, 108, 116])), vq] : Value) = Value.tuple #[Value.string ⟨#[104, 97, 108, 116]⟩, vq] from (Z7 (Zt rfl (Zt rfl rfl)))) (by rfl), by rfl⟩

theorem ZkN (a0 a1 a2 a3 : Int) (N : Nat) (y0_0 : Bool) (c0 : Zw (a0) (a1) (a2) (a3) N = some (.r0 y0_0)) (g1 : ¬ (¬ (y0_0 = true))) (g21 : a0 = 20) : ZG a0 a1 a2 a3 (.r0 ((bl [104, 97, 108, 116])) (0) : Zx) := ZpC (orc := (Zk [(0, false), (1, false), (2, false), (3, false), (4, false), (5, false), (6, false), (7, false), (8, false), (9, false), (10, false), (11, false), (12, false), (13, false), (14, false), (15, false), (16, false), (17, false), (18, false), (19, false), (20, true), (21, false), (22, false)] [] [(0, 20)] [] [(0, (ZL (a0) (a1) (a2) (a3)  y0_0  1))])) (ob := [(dP (((((Za (bl [104, 97, 108, 116]))).size + ((Za ([] : List Int))).size : Nat) : Int) ≤ IntKind.i64.max), true), (dP (((((Za (bl [104, 97, 108, 116]))).size + ((Za ([] : List Int))).size : Nat) : Int) ≤ IntKind.i64.max), true), (dP (((((Za (bl [104, 97, 108, 116]))).size + ((Za ([] : List Int))).size : Nat) : Int) ≤ IntKind.i64.max), true), (Nat.blt 20 21, true), (a0 == Int.ofNat 20, true), tN (a0 > 20), tN (a0 < 1), ((a0 == 20), true), ((a0 == 18), false), ((a0 == 17), false), ((a0 == 16), false), ((a0 == 15), false), ((a0 == 14), false), ((a0 == 13), false), ((a0 == 11), false), ((a0 == 9), false), ((a0 == 8), false), ((a0 == 7), false), ((a0 == 6), false), ((a0 == 5), false), ((a0 == 4), false), ((a0 == 3), false), ((a0 == 19), false), ((a0 == 12), false), ((a0 == 10), false), ((a0 == 2), false), ((a0 == 1), false), ((!y0_0), false), (dP (ZI #[Value.agg #[vi a0, vi a1, vi a2, vi a3]] (a0) (a1) (a2) (a3)  y0_0  1), true)]) (by kernel_rfl) (Zb (Zg (Zm (x := (bl [104, 97, 108, 116])) (y := ([] : List Int)) rfl rfl ltA)) <| Zb (Zg (Zm (x := (bl [104, 97, 108, 116])) (y := ([] : List Int)) rfl rfl ltA)) <| Zb (Zg (Zm (x := (bl [104, 97, 108, 116])) (y := ([] : List Int)) rfl rfl ltA)) <| oB <| oK <| oN <| oN <| oT <| oF <| oF <| oF <| oF <| oF <| oF <| oF <| oF <| oF <| oF <| oF <| oF <| oF <| oF <| oF <| oF <| oF <| oF <| oF <| Zb (ZaC (by first | assumption | exact Decidable.not_not.1 (by assumption) | simp_all)) <| Zb (Zg (ZM #[Value.agg #[vi a0, vi a1, vi a2, vi a3]] (a0) (a1) (a2) (a3)  y0_0 N c0  1 rfl (by decide) (by decide))) Ze)

theorem ZgJ {a0 : Int} {a1 : Int} {a2 : Int} {a3 : Int} {orc : Orc} {ob : List (Bool × Bool)} (hev : ZaG [] (ZaN Tryz.prog ZX 8 [] #[Value.agg #[vi a0, vi a1, vi a2, vi a3]] 4000 orc) = some (Value.tuple #[Value.string ⟨#[]⟩, vq], [], ob)) (ho : ∀ p ∈ ob, p.1 = p.2) : ZG a0 a1 a2 a3 (.r0 (([] : List Int)) (0) : Zx) := Zae hev ho ⟨Eq.trans (show (Value.tuple #[Value.string (Za ([] : List Int)), vq] : Value) = Value.tuple #[Value.string ⟨#[]⟩, vq] from (Z7 (Zt rfl (Zt rfl rfl)))) (by rfl), by rfl⟩

theorem ZkO (a0 a1 a2 a3 : Int) (N : Nat) (y0_0 : Bool) (c0 : Zw (a0) (a1) (a2) (a3) N = some (.r0 y0_0)) (g1 : ¬ (¬ (y0_0 = true))) (g2 : ¬ (a0 = 1)) (g3 : ¬ (a0 = 2)) (g4 : ¬ (a0 = 10)) (g5 : ¬ (a0 = 12)) (g6 : ¬ (a0 = 19)) (g7 : ¬ (a0 = 3)) (g8 : ¬ (a0 = 4)) (g9 : ¬ (a0 = 5)) (g10 : ¬ (a0 = 6)) (g11 : ¬ (a0 = 7)) (g12 : ¬ (a0 = 8)) (g13 : ¬ (a0 = 9)) (g14 : ¬ (a0 = 11)) (g15 : ¬ (a0 = 13)) (g16 : ¬ (a0 = 14)) (g17 : ¬ (a0 = 15)) (g18 : ¬ (a0 = 16)) (g19 : ¬ (a0 = 17)) (g20 : ¬ (a0 = 18)) (g21 : ¬ (a0 = 20)) (g22 : a0 < 1) : ZG a0 a1 a2 a3 (.r0 (([] : List Int)) (0) : Zx) := ZgJ (orc := (Zk [(0, false), (1, false), (2, false), (3, false), (4, false), (5, false), (6, false), (7, false), (8, false), (9, false), (10, false), (11, false), (12, false), (13, false), (14, false), (15, false), (16, false), (17, false), (18, false), (19, false), (20, false), (21, true)] [] [] [] [(0, (ZL (a0) (a1) (a2) (a3)  y0_0  1))])) (ob := [(dP (((((Za ([] : List Int))).size + ((Za ([] : List Int))).size : Nat) : Int) ≤ IntKind.i64.max), true), (dP (((((Za ([] : List Int))).size + ((Za ([] : List Int))).size : Nat) : Int) ≤ IntKind.i64.max), true), (dP (((((Za ([] : List Int))).size + ((Za ([] : List Int))).size : Nat) : Int) ≤ IntKind.i64.max), true), tY (a0 < 1), ((a0 == 20), false), ((a0 == 18), false), ((a0 == 17), false), ((a0 == 16), false), ((a0 == 15), false), ((a0 == 14), false), ((a0 == 13), false), ((a0 == 11), false), ((a0 == 9), false), ((a0 == 8), false), ((a0 == 7), false), ((a0 == 6), false), ((a0 == 5), false), ((a0 == 4), false), ((a0 == 3), false), ((a0 == 19), false), ((a0 == 12), false), ((a0 == 10), false), ((a0 == 2), false), ((a0 == 1), false), ((!y0_0), false), (dP (ZI #[Value.agg #[vi a0, vi a1, vi a2, vi a3]] (a0) (a1) (a2) (a3)  y0_0  1), true)]) (by kernel_rfl) (Zb (Zg (Zm (x := ([] : List Int)) (y := ([] : List Int)) rfl rfl ltA)) <| Zb (Zg (Zm (x := ([] : List Int)) (y := ([] : List Int)) rfl rfl ltA)) <| Zb (Zg (Zm (x := ([] : List Int)) (y := ([] : List Int)) rfl rfl ltA)) <| oY <| oF <| oF <| oF <| oF <| oF <| oF <| oF <| oF <| oF <| oF <| oF <| oF <| oF <| oF <| oF <| oF <| oF <| oF <| oF <| oF <| Zb (ZaC (by first | assumption | exact Decidable.not_not.1 (by assumption) | simp_all)) <| Zb (Zg (ZM #[Value.agg #[vi a0, vi a1, vi a2, vi a3]] (a0) (a1) (a2) (a3)  y0_0 N c0  1 rfl (by decide) (by decide))) Ze)

theorem ZkP (a0 a1 a2 a3 : Int) (N : Nat) (y0_0 : Bool) (c0 : Zw (a0) (a1) (a2) (a3) N = some (.r0 y0_0)) (g1 : ¬ (¬ (y0_0 = true))) (g2 : ¬ (a0 = 1)) (g3 : ¬ (a0 = 2)) (g4 : ¬ (a0 = 10)) (g5 : ¬ (a0 = 12)) (g6 : ¬ (a0 = 19)) (g7 : ¬ (a0 = 3)) (g8 : ¬ (a0 = 4)) (g9 : ¬ (a0 = 5)) (g10 : ¬ (a0 = 6)) (g11 : ¬ (a0 = 7)) (g12 : ¬ (a0 = 8)) (g13 : ¬ (a0 = 9)) (g14 : ¬ (a0 = 11)) (g15 : ¬ (a0 = 13)) (g16 : ¬ (a0 = 14)) (g17 : ¬ (a0 = 15)) (g18 : ¬ (a0 = 16)) (g19 : ¬ (a0 = 17)) (g20 : ¬ (a0 = 18)) (g21 : ¬ (a0 = 20)) (g22 : ¬ (a0 < 1)) : ZG a0 a1 a2 a3 (.r0 (([] : List Int)) (0) : Zx) := ZgJ (orc := (Zk [(0, false), (1, false), (2, false), (3, false), (4, false), (5, false), (6, false), (7, false), (8, false), (9, false), (10, false), (11, false), (12, false), (13, false), (14, false), (15, false), (16, false), (17, false), (18, false), (19, false), (20, false), (21, false), (22, true)] [] [] [] [(0, (ZL (a0) (a1) (a2) (a3)  y0_0  1))])) (ob := [(dP (((((Za ([] : List Int))).size + ((Za ([] : List Int))).size : Nat) : Int) ≤ IntKind.i64.max), true), (dP (((((Za ([] : List Int))).size + ((Za ([] : List Int))).size : Nat) : Int) ≤ IntKind.i64.max), true), (dP (((((Za ([] : List Int))).size + ((Za ([] : List Int))).size : Nat) : Int) ≤ IntKind.i64.max), true), tY (a0 > 20), tN (a0 < 1), ((a0 == 20), false), ((a0 == 18), false), ((a0 == 17), false), ((a0 == 16), false), ((a0 == 15), false), ((a0 == 14), false), ((a0 == 13), false), ((a0 == 11), false), ((a0 == 9), false), ((a0 == 8), false), ((a0 == 7), false), ((a0 == 6), false), ((a0 == 5), false), ((a0 == 4), false), ((a0 == 3), false), ((a0 == 19), false), ((a0 == 12), false), ((a0 == 10), false), ((a0 == 2), false), ((a0 == 1), false), ((!y0_0), false), (dP (ZI #[Value.agg #[vi a0, vi a1, vi a2, vi a3]] (a0) (a1) (a2) (a3)  y0_0  1), true)]) (by kernel_rfl) (Zb (Zg (Zm (x := ([] : List Int)) (y := ([] : List Int)) rfl rfl ltA)) <| Zb (Zg (Zm (x := ([] : List Int)) (y := ([] : List Int)) rfl rfl ltA)) <| Zb (Zg (Zm (x := ([] : List Int)) (y := ([] : List Int)) rfl rfl ltA)) <| oY <| oN <| oF <| oF <| oF <| oF <| oF <| oF <| oF <| oF <| oF <| oF <| oF <| oF <| oF <| oF <| oF <| oF <| oF <| oF <| oF <| oF <| Zb (ZaC (by first | assumption | exact Decidable.not_not.1 (by assumption) | simp_all)) <| Zb (Zg (ZM #[Value.agg #[vi a0, vi a1, vi a2, vi a3]] (a0) (a1) (a2) (a3)  y0_0 N c0  1 rfl (by decide) (by decide))) Ze)

theorem ZnZ (a0 a1 a2 a3 : Int) (N : Nat) : Gx Tryz.prog 8 [] #[Value.agg #[vi a0, vi a1, vi a2, vi a3]] (ZdG a0 a1 a2 a3) (Zdw a0 a1 a2 a3) (Z1 a0 a1 a2 a3 N) := by
 unfold Z1
 refine Zaj (fun z0 c0 => ?_)
 cases z0 with
 | r0 y0_0 =>
  refine Zd (fun g1 => ?_) (fun g1 => ?_)
  ·
   exact Zl7 a0 a1 a2 a3 N y0_0 c0 g1
  ·
   refine Zd (fun g2 => ?_) (fun g2 => ?_)
   ·
    refine Zaj (fun z3 c3 => ?_)
    cases z3 with
    | r0 y3_0 =>
     refine Zd (fun g4 => ?_) (fun _ => Zo)
     refine Zd (fun g5 => ?_) (fun _ => Zo)
     refine Zaj (fun z6 c6 => ?_)
     cases z6 with
     | r0 y6_0 =>
      refine Zd (fun g7 => ?_) (fun _ => Zo)
      refine Zd (fun g8 => ?_) (fun _ => Zo)
      exact Zl8 a0 a1 a2 a3 N y0_0 c0 g1 g2 y3_0 c3 g4 g5 y6_0 c6 g7 g8
   ·
    refine Zd (fun g3 => ?_) (fun g3 => ?_)
    ·
     refine Zaj (fun z4 c4 => ?_)
     cases z4 with
     | r0 y4_0 =>
      refine Zd (fun g5 => ?_) (fun _ => Zo)
      refine Zd (fun g6 => ?_) (fun _ => Zo)
      exact Zl9 a0 a1 a2 a3 N y0_0 c0 g1 g3 y4_0 c4 g5 g6
    ·
     refine Zd (fun g4 => ?_) (fun g4 => ?_)
     ·
      refine Zaj (fun z5 c5 => ?_)
      cases z5 with
      | r0 y5_0 =>
       refine Zd (fun g6 => ?_) (fun _ => Zo)
       refine Zd (fun g7 => ?_) (fun _ => Zo)
       exact ZlA a0 a1 a2 a3 N y0_0 c0 g1 g4 y5_0 c5 g6 g7
     ·
      refine Zd (fun g5 => ?_) (fun g5 => ?_)
      ·
       refine Zaj (fun z6 c6 => ?_)
       cases z6 with
       | r0 y6_0 =>
        refine Zd (fun g7 => ?_) (fun _ => Zo)
        refine Zd (fun g8 => ?_) (fun _ => Zo)
        exact ZlB a0 a1 a2 a3 N y0_0 c0 g1 g5 y6_0 c6 g7 g8
      ·
       refine Zd (fun g6 => ?_) (fun g6 => ?_)
       ·
        refine Zaj (fun z7 c7 => ?_)
        cases z7 with
        | r0 y7_0 =>
         refine Zd (fun g8 => ?_) (fun _ => Zo)
         refine Zd (fun g9 => ?_) (fun _ => Zo)
         exact ZlC a0 a1 a2 a3 N y0_0 c0 g1 g6 y7_0 c7 g8 g9
       ·
        refine Zd (fun g7 => ?_) (fun g7 => ?_)
        ·
         refine Zaj (fun z8 c8 => ?_)
         cases z8 with
         | r0 y8_0 =>
          refine Zd (fun g9 => ?_) (fun _ => Zo)
          refine Zd (fun g10 => ?_) (fun _ => Zo)
          refine Zaj (fun z11 c11 => ?_)
          cases z11 with
          | r0 y11_0 =>
           refine Zd (fun g12 => ?_) (fun _ => Zo)
           refine Zd (fun g13 => ?_) (fun _ => Zo)
           exact ZlD a0 a1 a2 a3 N y0_0 c0 g1 g7 y8_0 c8 g9 g10 y11_0 c11 g12 g13
        ·
         refine Zd (fun g8 => ?_) (fun g8 => ?_)
         ·
          refine Zaj (fun z9 c9 => ?_)
          cases z9 with
          | r0 y9_0 =>
           refine Zd (fun g10 => ?_) (fun _ => Zo)
           refine Zd (fun g11 => ?_) (fun _ => Zo)
           refine Zaj (fun z12 c12 => ?_)
           cases z12 with
           | r0 y12_0 =>
            refine Zd (fun g13 => ?_) (fun _ => Zo)
            refine Zd (fun g14 => ?_) (fun _ => Zo)
            refine Zaj (fun z15 c15 => ?_)
            cases z15 with
            | r0 y15_0 =>
             refine Zd (fun g16 => ?_) (fun _ => Zo)
             refine Zd (fun g17 => ?_) (fun _ => Zo)
             exact ZlE a0 a1 a2 a3 N y0_0 c0 g1 g8 y9_0 c9 g10 g11 y12_0 c12 g13 g14 y15_0 c15 g16 g17
         ·
          refine Zd (fun g9 => ?_) (fun g9 => ?_)
          ·
           refine Zaj (fun z10 c10 => ?_)
           cases z10 with
           | r0 y10_0 =>
            refine Zd (fun g11 => ?_) (fun _ => Zo)
            refine Zd (fun g12 => ?_) (fun _ => Zo)
            refine Zaj (fun z13 c13 => ?_)
            cases z13 with
            | r0 y13_0 =>
             refine Zd (fun g14 => ?_) (fun _ => Zo)
             refine Zd (fun g15 => ?_) (fun _ => Zo)
             refine Zaj (fun z16 c16 => ?_)
             cases z16 with
             | r0 y16_0 =>
              refine Zd (fun g17 => ?_) (fun _ => Zo)
              refine Zd (fun g18 => ?_) (fun _ => Zo)
              exact ZkB a0 a1 a2 a3 N y0_0 c0 g1 g9 y10_0 c10 g11 g12 y13_0 c13 g14 g15 y16_0 c16 g17 g18
          ·
           refine Zd (fun g10 => ?_) (fun g10 => ?_)
           ·
            refine Zaj (fun z11 c11 => ?_)
            cases z11 with
            | r0 y11_0 =>
             refine Zd (fun g12 => ?_) (fun _ => Zo)
             refine Zd (fun g13 => ?_) (fun _ => Zo)
             refine Zaj (fun z14 c14 => ?_)
             cases z14 with
             | r0 y14_0 =>
              refine Zd (fun g15 => ?_) (fun _ => Zo)
              refine Zd (fun g16 => ?_) (fun _ => Zo)
              refine Zaj (fun z17 c17 => ?_)
              cases z17 with
              | r0 y17_0 =>
               refine Zd (fun g18 => ?_) (fun _ => Zo)
               refine Zd (fun g19 => ?_) (fun _ => Zo)
               exact ZkC a0 a1 a2 a3 N y0_0 c0 g1 g10 y11_0 c11 g12 g13 y14_0 c14 g15 g16 y17_0 c17 g18 g19
           ·
            refine Zd (fun g11 => ?_) (fun g11 => ?_)
            ·
             refine Zaj (fun z12 c12 => ?_)
             cases z12 with
             | r0 y12_0 =>
              refine Zd (fun g13 => ?_) (fun _ => Zo)
              refine Zd (fun g14 => ?_) (fun _ => Zo)
              refine Zaj (fun z15 c15 => ?_)
              cases z15 with
              | r0 y15_0 =>
               refine Zd (fun g16 => ?_) (fun _ => Zo)
               refine Zd (fun g17 => ?_) (fun _ => Zo)
               refine Zaj (fun z18 c18 => ?_)
               cases z18 with
               | r0 y18_0 =>
                refine Zd (fun g19 => ?_) (fun _ => Zo)
                refine Zd (fun g20 => ?_) (fun _ => Zo)
                exact ZkD a0 a1 a2 a3 N y0_0 c0 g1 g11 y12_0 c12 g13 g14 y15_0 c15 g16 g17 y18_0 c18 g19 g20
            ·
             refine Zd (fun g12 => ?_) (fun g12 => ?_)
             ·
              refine Zaj (fun z13 c13 => ?_)
              cases z13 with
              | r0 y13_0 =>
               refine Zd (fun g14 => ?_) (fun _ => Zo)
               refine Zd (fun g15 => ?_) (fun _ => Zo)
               exact ZkE a0 a1 a2 a3 N y0_0 c0 g1 g12 y13_0 c13 g14 g15
             ·
              refine Zd (fun g13 => ?_) (fun g13 => ?_)
              ·
               refine Zaj (fun z14 c14 => ?_)
               cases z14 with
               | r0 y14_0 =>
                refine Zd (fun g15 => ?_) (fun _ => Zo)
                refine Zd (fun g16 => ?_) (fun _ => Zo)
                refine Zaj (fun z17 c17 => ?_)
                cases z17 with
                | r0 y17_0 =>
                 refine Zd (fun g18 => ?_) (fun _ => Zo)
                 refine Zd (fun g19 => ?_) (fun _ => Zo)
                 exact ZkF a0 a1 a2 a3 N y0_0 c0 g1 g13 y14_0 c14 g15 g16 y17_0 c17 g18 g19
              ·
               refine Zd (fun g14 => ?_) (fun g14 => ?_)
               ·
                refine Zaj (fun z15 c15 => ?_)
                cases z15 with
                | r0 y15_0 =>
                 refine Zd (fun g16 => ?_) (fun _ => Zo)
                 refine Zd (fun g17 => ?_) (fun _ => Zo)
                 refine Zaj (fun z18 c18 => ?_)
                 cases z18 with
                 | r0 y18_0 =>
                  refine Zd (fun g19 => ?_) (fun _ => Zo)
                  refine Zd (fun g20 => ?_) (fun _ => Zo)
                  refine Zaj (fun z21 c21 => ?_)
                  cases z21 with
                  | r0 y21_0 =>
                   refine Zd (fun g22 => ?_) (fun _ => Zo)
                   refine Zd (fun g23 => ?_) (fun _ => Zo)
                   exact ZkG a0 a1 a2 a3 N y0_0 c0 g1 g14 y15_0 c15 g16 g17 y18_0 c18 g19 g20 y21_0 c21 g22 g23
               ·
                refine Zd (fun g15 => ?_) (fun g15 => ?_)
                ·
                 refine Zaj (fun z16 c16 => ?_)
                 cases z16 with
                 | r0 y16_0 =>
                  refine Zd (fun g17 => ?_) (fun _ => Zo)
                  refine Zd (fun g18 => ?_) (fun _ => Zo)
                  refine Zaj (fun z19 c19 => ?_)
                  cases z19 with
                  | r0 y19_0 =>
                   refine Zd (fun g20 => ?_) (fun _ => Zo)
                   refine Zd (fun g21 => ?_) (fun _ => Zo)
                   refine Zaj (fun z22 c22 => ?_)
                   cases z22 with
                   | r0 y22_0 =>
                    refine Zd (fun g23 => ?_) (fun _ => Zo)
                    refine Zd (fun g24 => ?_) (fun _ => Zo)
                    exact ZkH a0 a1 a2 a3 N y0_0 c0 g1 g15 y16_0 c16 g17 g18 y19_0 c19 g20 g21 y22_0 c22 g23 g24
                ·
                 refine Zd (fun g16 => ?_) (fun g16 => ?_)
                 ·
                  refine Zaj (fun z17 c17 => ?_)
                  cases z17 with
                  | r0 y17_0 =>
                   refine Zd (fun g18 => ?_) (fun _ => Zo)
                   refine Zd (fun g19 => ?_) (fun _ => Zo)
                   refine Zaj (fun z20 c20 => ?_)
                   cases z20 with
                   | r0 y20_0 =>
                    refine Zd (fun g21 => ?_) (fun _ => Zo)
                    refine Zd (fun g22 => ?_) (fun _ => Zo)
                    refine Zaj (fun z23 c23 => ?_)
                    cases z23 with
                    | r0 y23_0 =>
                     refine Zd (fun g24 => ?_) (fun _ => Zo)
                     refine Zd (fun g25 => ?_) (fun _ => Zo)
                     exact ZkI a0 a1 a2 a3 N y0_0 c0 g1 g16 y17_0 c17 g18 g19 y20_0 c20 g21 g22 y23_0 c23 g24 g25
                 ·
                  refine Zd (fun g17 => ?_) (fun g17 => ?_)
                  ·
                   exact ZkJ a0 a1 a2 a3 N y0_0 c0 g1 g17
                  ·
                   refine Zd (fun g18 => ?_) (fun g18 => ?_)
                   ·
                    exact ZkK a0 a1 a2 a3 N y0_0 c0 g1 g18
                   ·
                    refine Zd (fun g19 => ?_) (fun g19 => ?_)
                    ·
                     exact ZkL a0 a1 a2 a3 N y0_0 c0 g1 g19
                    ·
                     refine Zd (fun g20 => ?_) (fun g20 => ?_)
                     ·
                      exact ZkM a0 a1 a2 a3 N y0_0 c0 g1 g20
                     ·
                      refine Zd (fun g21 => ?_) (fun g21 => ?_)
                      ·
                       exact ZkN a0 a1 a2 a3 N y0_0 c0 g1 g21
                      ·
                       by_cases g22 : a0 < (1 : Int)
                       ·
                        exact ZkO a0 a1 a2 a3 N y0_0 c0 g1 g2 g3 g4 g5 g6 g7 g8 g9 g10 g11 g12 g13 g14 g15 g16 g17 g18 g19 g20 g21 g22
                       ·
                        exact ZkP a0 a1 a2 a3 N y0_0 c0 g1 g2 g3 g4 g5 g6 g7 g8 g9 g10 g11 g12 g13 g14 g15 g16 g17 g18 g19 g20 g21 g22

theorem ZkQ (a0 a1 a2 a3 : Int) (N : Nat) (r : Zx) (h : Z1 a0 a1 a2 a3 N = some r) : LSpec Tryz.prog 8 #[Value.agg #[vi a0, vi a1, vi a2, vi a3]] [] (ZdG a0 a1 a2 a3 r) (Zdw a0 a1 a2 a3 r) :=
 ZnZ a0 a1 a2 a3 N r h

noncomputable def Zav (a0 a1 a2 a3 : Int) (w0 : List Int) (w1 : Int) (n : Nat) : Zcb := .call [] (Value.tuple #[Value.string (Za w0), vi w1]) [] 0
def Zap (A : Array Value) (a0 a1 a2 a3 : Int) (w0 : List Int) (w1 : Int) (n : Nat) : Prop := ZaK Tryz.prog 8 A [] (Value.tuple #[Value.string (Za w0), vi w1]) [] n 0

theorem Zaw (A : Array Value) (a0 a1 a2 a3 : Int) (w0 : List Int) (w1 : Int) (N : Nat) (h : Z1 a0 a1 a2 a3 N = some (.r0 w0 w1)) (n : Nat) (hA : A = #[Value.agg #[vi a0, vi a1, vi a2, vi a3]]) (hnd : ([] : List Nat).Nodup) (hlt : ∀ k ∈ ([] : List Nat), k < n) : Zap A a0 a1 a2 a3 w0 w1  n :=
 Zde hA (LSpec.callL (show LSpec Tryz.prog 8 #[Value.agg #[vi a0, vi a1, vi a2, vi a3]] [] (Value.tuple #[Value.string (Za w0), vi w1]) [] from ZkQ a0 a1 a2 a3 N _ h) [] n [] rfl hnd hlt (show 0 ≤ 0 from by decide) (show ∀ j ∈ ([] : List Nat), j < 0 from by decide) (by rfl) trivial (by rfl) trivial trivial rfl rfl rfl rfl rfl)

noncomputable def ZgK (L0 : List RA) : ZK → Value
 | .r0 w0 w1 => Value.tuple #[Value.string (Za w0), vi w1]
noncomputable def Zgc (L0 : List RA) : ZK → List (Option AObj)
 | .r0 w0 w1 => []

def Zoa : Zv → Nat
 | .h1m0 v1 => 1
 | .h2m0 v1 => 2
 | .h2m1 v1 v2 => 2
noncomputable def ZpD (L0 : List RA) : Zv → List (Nat × Value)
 | .h1m0 v1 => [(0, ms E_iiii L0), (4, vi (v1 : Int))]
 | .h2m0 v1 => [(0, ms E_iiii L0), (7, vn), (8, vi (v1 : Int))]
 | .h2m1 v1 v2 => [(0, ms E_iiii L0), (7, vs 0 0 v1.length v1.length), (8, vi (v2 : Int))]
noncomputable def ZpE (L0 : List RA) : Zv → List (Option AObj)
 | .h1m0 v1 => []
 | .h2m0 v1 => []
 | .h2m1 v1 v2 => [some (.cells (Zl (Zn .u8) v1) 5)]

noncomputable def ZaS : Nat → Code × List Zbi
 | 1 => Zcn [1, 1, 0, 1, 3] (ZdD Tryz.f6) []
 | 2 => Zcn [1, 1, 1, 1, 0, 1, 3] (ZdD Tryz.f6) []
 | _ => (.skip, [])
def Zgd : Nat → Bool
 | 1 => true
 | 2 => true
 | _ => true
noncomputable def ZT (i : Nat) : List Zbi := match Zgd i with | true => .rnd i :: (ZaS i).2 | false => (ZaS i).2

noncomputable def Z6 (L0 : List RA) (N : Nat) : Mach := ⟨Tryz.f6, [], Zv, ZK, Zad L0 N, Zoa, ZaS, Zgd, ZpD L0, ZpE L0, ZgK L0, Zgc L0⟩

theorem ZhQ (L0 : List RA) (v1 N : Nat) : (Z6 L0 N).Ok Tryz.prog ZX (.h1m0 v1 : Zv) (Zad L0 N (.h1m0 v1 : Zv)) := by
 show (Z6 L0 N).Ok Tryz.prog ZX (.h1m0 v1 : Zv) (ZaP L0 N v1)
 unfold ZaP
 refine Mach.ok_ite (fun g0 => ?_) (fun g0 => ?_)
 ·
  refine Mach.ok_ite (fun g1 => ?_) (fun g1 => ?_)
  ·
   refine Mach.ok_bind (fun z2 c2 => ?_)
   cases z2 with
   | r0 y2_0 =>
    refine Mach.ok_ite (fun g3 => ?_) (fun g3 => ?_)
    ·
     exact Mach.ok_fin (M := Z6 L0 N) (cd := 1000000) (cm := 0) (r := (.r0 (([] : List Int)) ((130 : Int)) : ZK)) (fu := 4000) (orc := (Zk [(0, true), (1, true), (2, true)] [] [(0, v1), (1, v1)] [(0, [.i (L0.getD v1 RA.z).a0, .i (L0.getD v1 RA.z).a1, .i (L0.getD v1 RA.z).a2, .i (L0.getD v1 RA.z).a3]), (3, [.i (L0.getD v1 RA.z).a0, .i (L0.getD v1 RA.z).a1, .i (L0.getD v1 RA.z).a2, .i (L0.getD v1 RA.z).a3])] [(0, (ZL ((L0.getD v1 RA.z).a0) ((L0.getD v1 RA.z).a1) ((L0.getD v1 RA.z).a2) ((L0.getD v1 RA.z).a3)  y2_0  1))])) (live := []) (u := Value.tuple #[Value.string ⟨#[]⟩, vi (130 : Int)]) (bl := []) (ob := [((!y2_0), true), (dP (ZI #[Value.agg #[vi (L0.getD v1 RA.z).a0, vi (L0.getD v1 RA.z).a1, vi (L0.getD v1 RA.z).a2, vi (L0.getD v1 RA.z).a3]] ((L0.getD v1 RA.z).a0) ((L0.getD v1 RA.z).a1) ((L0.getD v1 RA.z).a2) ((L0.getD v1 RA.z).a3)  y2_0  1), true), (dP (ZP (code (ZE E_iiii L0)) (0 + (v1 * 4)) 4 = some [.i (L0.getD v1 RA.z).a0, .i (L0.getD v1 RA.z).a1, .i (L0.getD v1 RA.z).a2, .i (L0.getD v1 RA.z).a3]), true), (Nat.blt v1 L0.length, true), ((v1 : Int) == Int.ofNat v1, true), (((L0.getD v1 RA.z).a0 == (8 : Int)), true), (dP (ZP (code (ZE E_iiii L0)) (0 + (v1 * 4)) 4 = some [.i (L0.getD v1 RA.z).a0, .i (L0.getD v1 RA.z).a1, .i (L0.getD v1 RA.z).a2, .i (L0.getD v1 RA.z).a3]), true), (Nat.blt v1 L0.length, true), ((v1 : Int) == Int.ofNat v1, true), ((decide ((v1 : Int) < (L0.length : Int))), true)]) (fun gv => by kernel_rfl) (Zb (Zkv (by first | assumption | simp_all)) <| Zb (Zg (ZM #[Value.agg #[vi (L0.getD v1 RA.z).a0, vi (L0.getD v1 RA.z).a1, vi (L0.getD v1 RA.z).a2, vi (L0.getD v1 RA.z).a3]] ((L0.getD v1 RA.z).a0) ((L0.getD v1 RA.z).a1) ((L0.getD v1 RA.z).a2) ((L0.getD v1 RA.z).a3)  y2_0 N c2  1 rfl (by decide) (by decide))) <| Zb (Zg (ZF (E := E_iiii) (L := L0) (i := v1) (q := 0) (by omega) (show (0 + (v1 * 4)) = v1 * 4 + 0 from by omega) (show 0 + 4 ≤ 4 from by decide) rfl)) <| oB <| oI <| oT <| Zb (Zg (ZF (E := E_iiii) (L := L0) (i := v1) (q := 0) (by omega) (show (0 + (v1 * 4)) = v1 * 4 + 0 from by omega) (show 0 + 4 ≤ 4 from by decide) rfl)) <| oB <| oI <| oY Ze) rfl (by decide) (by rfl) ⟨Eq.trans (show (Value.tuple #[Value.string (Za ([] : List Int)), vi (130 : Int)] : Value) = Value.tuple #[Value.string ⟨#[]⟩, vi (130 : Int)] from (Z7 (Zt rfl (Zt rfl rfl)))) (by rfl), by rfl⟩ trivial
    ·
     refine Mach.ok_ite (fun g4 => ?_) (fun g4 => ?_)
     ·
      exact Mach.ok_fin (M := Z6 L0 N) (cd := 1000000) (cm := 0) (r := (.r0 (([] : List Int)) ((130 : Int)) : ZK)) (fu := 4000) (orc := (Zk [(0, true), (1, true), (2, false), (3, true)] [] [(0, v1), (1, v1)] [(0, [.i (L0.getD v1 RA.z).a0, .i (L0.getD v1 RA.z).a1, .i (L0.getD v1 RA.z).a2, .i (L0.getD v1 RA.z).a3]), (3, [.i (L0.getD v1 RA.z).a0, .i (L0.getD v1 RA.z).a1, .i (L0.getD v1 RA.z).a2, .i (L0.getD v1 RA.z).a3])] [(0, (ZL ((L0.getD v1 RA.z).a0) ((L0.getD v1 RA.z).a1) ((L0.getD v1 RA.z).a2) ((L0.getD v1 RA.z).a3)  y2_0  1))])) (live := []) (u := Value.tuple #[Value.string ⟨#[]⟩, vi (130 : Int)]) (bl := []) (ob := [((decide ((L0.getD v1 RA.z).a1 > (L0.length : Int))), true), ((!y2_0), false), (dP (ZI #[Value.agg #[vi (L0.getD v1 RA.z).a0, vi (L0.getD v1 RA.z).a1, vi (L0.getD v1 RA.z).a2, vi (L0.getD v1 RA.z).a3]] ((L0.getD v1 RA.z).a0) ((L0.getD v1 RA.z).a1) ((L0.getD v1 RA.z).a2) ((L0.getD v1 RA.z).a3)  y2_0  1), true), (dP (ZP (code (ZE E_iiii L0)) (0 + (v1 * 4)) 4 = some [.i (L0.getD v1 RA.z).a0, .i (L0.getD v1 RA.z).a1, .i (L0.getD v1 RA.z).a2, .i (L0.getD v1 RA.z).a3]), true), (Nat.blt v1 L0.length, true), ((v1 : Int) == Int.ofNat v1, true), (((L0.getD v1 RA.z).a0 == (8 : Int)), true), (dP (ZP (code (ZE E_iiii L0)) (0 + (v1 * 4)) 4 = some [.i (L0.getD v1 RA.z).a0, .i (L0.getD v1 RA.z).a1, .i (L0.getD v1 RA.z).a2, .i (L0.getD v1 RA.z).a3]), true), (Nat.blt v1 L0.length, true), ((v1 : Int) == Int.ofNat v1, true), ((decide ((v1 : Int) < (L0.length : Int))), true)]) (fun gv => by kernel_rfl) (oY <| Zb (ZaC (by first | assumption | exact Decidable.not_not.1 (by assumption) | simp_all)) <| Zb (Zg (ZM #[Value.agg #[vi (L0.getD v1 RA.z).a0, vi (L0.getD v1 RA.z).a1, vi (L0.getD v1 RA.z).a2, vi (L0.getD v1 RA.z).a3]] ((L0.getD v1 RA.z).a0) ((L0.getD v1 RA.z).a1) ((L0.getD v1 RA.z).a2) ((L0.getD v1 RA.z).a3)  y2_0 N c2  1 rfl (by decide) (by decide))) <| Zb (Zg (ZF (E := E_iiii) (L := L0) (i := v1) (q := 0) (by omega) (show (0 + (v1 * 4)) = v1 * 4 + 0 from by omega) (show 0 + 4 ≤ 4 from by decide) rfl)) <| oB <| oI <| oT <| Zb (Zg (ZF (E := E_iiii) (L := L0) (i := v1) (q := 0) (by omega) (show (0 + (v1 * 4)) = v1 * 4 + 0 from by omega) (show 0 + 4 ≤ 4 from by decide) rfl)) <| oB <| oI <| oY Ze) rfl (by decide) (by rfl) ⟨Eq.trans (show (Value.tuple #[Value.string (Za ([] : List Int)), vi (130 : Int)] : Value) = Value.tuple #[Value.string ⟨#[]⟩, vi (130 : Int)] from (Z7 (Zt rfl (Zt rfl rfl)))) (by rfl), by rfl⟩ trivial
     ·
      refine Mach.ok_ite (fun g5 => ?_) (fun _ => Mach.ok_none)
      exact Mach.ok_next (M := Z6 L0 N) (cd := 1000000) (cm := 0) (y := (.h1m0 ((v1 + 1)) : Zv)) (fu := 4000) (orc := (Zk [(0, true), (1, true), (2, false), (3, false)] [(0, (((v1 + 1) : Nat) : Int))] [(0, v1), (1, v1)] [(0, [.i (L0.getD v1 RA.z).a0, .i (L0.getD v1 RA.z).a1, .i (L0.getD v1 RA.z).a2, .i (L0.getD v1 RA.z).a3]), (3, [.i (L0.getD v1 RA.z).a0, .i (L0.getD v1 RA.z).a1, .i (L0.getD v1 RA.z).a2, .i (L0.getD v1 RA.z).a3])] [(0, (ZL ((L0.getD v1 RA.z).a0) ((L0.getD v1 RA.z).a1) ((L0.getD v1 RA.z).a2) ((L0.getD v1 RA.z).a3)  y2_0  1))])) (live := []) (tv := fun _ => [some (ms E_iiii L0), some (vi (((v1 + 1) : Nat) : Int))]) (bl := []) (ob := [((IntKind.i64.wrap ((v1 : Int) + (1 : Int))) == (((v1 + 1) : Nat) : Int), true), ((decide ((L0.getD v1 RA.z).a1 > (L0.length : Int))), false), ((!y2_0), false), (dP (ZI #[Value.agg #[vi (L0.getD v1 RA.z).a0, vi (L0.getD v1 RA.z).a1, vi (L0.getD v1 RA.z).a2, vi (L0.getD v1 RA.z).a3]] ((L0.getD v1 RA.z).a0) ((L0.getD v1 RA.z).a1) ((L0.getD v1 RA.z).a2) ((L0.getD v1 RA.z).a3)  y2_0  1), true), (dP (ZP (code (ZE E_iiii L0)) (0 + (v1 * 4)) 4 = some [.i (L0.getD v1 RA.z).a0, .i (L0.getD v1 RA.z).a1, .i (L0.getD v1 RA.z).a2, .i (L0.getD v1 RA.z).a3]), true), (Nat.blt v1 L0.length, true), ((v1 : Int) == Int.ofNat v1, true), (((L0.getD v1 RA.z).a0 == (8 : Int)), true), (dP (ZP (code (ZE E_iiii L0)) (0 + (v1 * 4)) 4 = some [.i (L0.getD v1 RA.z).a0, .i (L0.getD v1 RA.z).a1, .i (L0.getD v1 RA.z).a2, .i (L0.getD v1 RA.z).a3]), true), (Nat.blt v1 L0.length, true), ((v1 : Int) == Int.ofNat v1, true), ((decide ((v1 : Int) < (L0.length : Int))), true)]) rfl (show 1 ∈ ZO (ZT 1) from by decide +kernel) (fun gv => by kernel_rfl) (Zb (beq_iff_eq.2 ((wrap_i64 ltA).trans (by first | rfl | omega))) <| oN <| Zb (ZaC (by first | assumption | exact Decidable.not_not.1 (by assumption) | simp_all)) <| Zb (Zg (ZM #[Value.agg #[vi (L0.getD v1 RA.z).a0, vi (L0.getD v1 RA.z).a1, vi (L0.getD v1 RA.z).a2, vi (L0.getD v1 RA.z).a3]] ((L0.getD v1 RA.z).a0) ((L0.getD v1 RA.z).a1) ((L0.getD v1 RA.z).a2) ((L0.getD v1 RA.z).a3)  y2_0 N c2  1 rfl (by decide) (by decide))) <| Zb (Zg (ZF (E := E_iiii) (L := L0) (i := v1) (q := 0) (by omega) (show (0 + (v1 * 4)) = v1 * 4 + 0 from by omega) (show 0 + 4 ≤ 4 from by decide) rfl)) <| oB <| oI <| oT <| Zb (Zg (ZF (E := E_iiii) (L := L0) (i := v1) (q := 0) (by omega) (show (0 + (v1 * 4)) = v1 * 4 + 0 from by omega) (show 0 + 4 ≤ 4 from by decide) rfl)) <| oB <| oI <| oY Ze) rfl (by decide) (by rfl) (fun _ => ⟨rr, ⟨rr, trivial⟩⟩) trivial
  ·
   refine Mach.ok_ite (fun g2 => ?_) (fun g2 => ?_)
   ·
    refine Mach.ok_bind (fun z3 c3 => ?_)
    cases z3 with
    | r0 y3_0 =>
     refine Mach.ok_ite (fun g4 => ?_) (fun g4 => ?_)
     ·
      exact Mach.ok_fin (M := Z6 L0 N) (cd := 1000000) (cm := 0) (r := (.r0 (([] : List Int)) ((130 : Int)) : ZK)) (fu := 4000) (orc := (Zk [(0, true), (1, false), (2, true), (3, true)] [] [(0, v1), (1, v1)] [(0, [.i (L0.getD v1 RA.z).a0, .i (L0.getD v1 RA.z).a1, .i (L0.getD v1 RA.z).a2, .i (L0.getD v1 RA.z).a3]), (4, [.i (L0.getD v1 RA.z).a0, .i (L0.getD v1 RA.z).a1, .i (L0.getD v1 RA.z).a2, .i (L0.getD v1 RA.z).a3])] [(0, (ZL ((L0.getD v1 RA.z).a0) ((L0.getD v1 RA.z).a1) ((L0.getD v1 RA.z).a2) ((L0.getD v1 RA.z).a3)  y3_0  1))])) (live := []) (u := Value.tuple #[Value.string ⟨#[]⟩, vi (130 : Int)]) (bl := []) (ob := [((!y3_0), true), (dP (ZI #[Value.agg #[vi (L0.getD v1 RA.z).a0, vi (L0.getD v1 RA.z).a1, vi (L0.getD v1 RA.z).a2, vi (L0.getD v1 RA.z).a3]] ((L0.getD v1 RA.z).a0) ((L0.getD v1 RA.z).a1) ((L0.getD v1 RA.z).a2) ((L0.getD v1 RA.z).a3)  y3_0  1), true), (dP (ZP (code (ZE E_iiii L0)) (0 + (v1 * 4)) 4 = some [.i (L0.getD v1 RA.z).a0, .i (L0.getD v1 RA.z).a1, .i (L0.getD v1 RA.z).a2, .i (L0.getD v1 RA.z).a3]), true), (Nat.blt v1 L0.length, true), ((v1 : Int) == Int.ofNat v1, true), (((L0.getD v1 RA.z).a0 == (9 : Int)), true), (((L0.getD v1 RA.z).a0 == (8 : Int)), false), (dP (ZP (code (ZE E_iiii L0)) (0 + (v1 * 4)) 4 = some [.i (L0.getD v1 RA.z).a0, .i (L0.getD v1 RA.z).a1, .i (L0.getD v1 RA.z).a2, .i (L0.getD v1 RA.z).a3]), true), (Nat.blt v1 L0.length, true), ((v1 : Int) == Int.ofNat v1, true), ((decide ((v1 : Int) < (L0.length : Int))), true)]) (fun gv => by kernel_rfl) (Zb (Zkv (by first | assumption | simp_all)) <| Zb (Zg (ZM #[Value.agg #[vi (L0.getD v1 RA.z).a0, vi (L0.getD v1 RA.z).a1, vi (L0.getD v1 RA.z).a2, vi (L0.getD v1 RA.z).a3]] ((L0.getD v1 RA.z).a0) ((L0.getD v1 RA.z).a1) ((L0.getD v1 RA.z).a2) ((L0.getD v1 RA.z).a3)  y3_0 N c3  1 rfl (by decide) (by decide))) <| Zb (Zg (ZF (E := E_iiii) (L := L0) (i := v1) (q := 0) (by omega) (show (0 + (v1 * 4)) = v1 * 4 + 0 from by omega) (show 0 + 4 ≤ 4 from by decide) rfl)) <| oB <| oI <| oT <| oF <| Zb (Zg (ZF (E := E_iiii) (L := L0) (i := v1) (q := 0) (by omega) (show (0 + (v1 * 4)) = v1 * 4 + 0 from by omega) (show 0 + 4 ≤ 4 from by decide) rfl)) <| oB <| oI <| oY Ze) rfl (by decide) (by rfl) ⟨Eq.trans (show (Value.tuple #[Value.string (Za ([] : List Int)), vi (130 : Int)] : Value) = Value.tuple #[Value.string ⟨#[]⟩, vi (130 : Int)] from (Z7 (Zt rfl (Zt rfl rfl)))) (by rfl), by rfl⟩ trivial
     ·
      refine Mach.ok_ite (fun g5 => ?_) (fun g5 => ?_)
      ·
       exact Mach.ok_fin (M := Z6 L0 N) (cd := 1000000) (cm := 0) (r := (.r0 (([] : List Int)) ((130 : Int)) : ZK)) (fu := 4000) (orc := (Zk [(0, true), (1, false), (2, true), (3, false), (4, true)] [] [(0, v1), (1, v1)] [(0, [.i (L0.getD v1 RA.z).a0, .i (L0.getD v1 RA.z).a1, .i (L0.getD v1 RA.z).a2, .i (L0.getD v1 RA.z).a3]), (4, [.i (L0.getD v1 RA.z).a0, .i (L0.getD v1 RA.z).a1, .i (L0.getD v1 RA.z).a2, .i (L0.getD v1 RA.z).a3])] [(0, (ZL ((L0.getD v1 RA.z).a0) ((L0.getD v1 RA.z).a1) ((L0.getD v1 RA.z).a2) ((L0.getD v1 RA.z).a3)  y3_0  1))])) (live := []) (u := Value.tuple #[Value.string ⟨#[]⟩, vi (130 : Int)]) (bl := []) (ob := [((decide ((L0.getD v1 RA.z).a2 > (L0.length : Int))), true), ((!y3_0), false), (dP (ZI #[Value.agg #[vi (L0.getD v1 RA.z).a0, vi (L0.getD v1 RA.z).a1, vi (L0.getD v1 RA.z).a2, vi (L0.getD v1 RA.z).a3]] ((L0.getD v1 RA.z).a0) ((L0.getD v1 RA.z).a1) ((L0.getD v1 RA.z).a2) ((L0.getD v1 RA.z).a3)  y3_0  1), true), (dP (ZP (code (ZE E_iiii L0)) (0 + (v1 * 4)) 4 = some [.i (L0.getD v1 RA.z).a0, .i (L0.getD v1 RA.z).a1, .i (L0.getD v1 RA.z).a2, .i (L0.getD v1 RA.z).a3]), true), (Nat.blt v1 L0.length, true), ((v1 : Int) == Int.ofNat v1, true), (((L0.getD v1 RA.z).a0 == (9 : Int)), true), (((L0.getD v1 RA.z).a0 == (8 : Int)), false), (dP (ZP (code (ZE E_iiii L0)) (0 + (v1 * 4)) 4 = some [.i (L0.getD v1 RA.z).a0, .i (L0.getD v1 RA.z).a1, .i (L0.getD v1 RA.z).a2, .i (L0.getD v1 RA.z).a3]), true), (Nat.blt v1 L0.length, true), ((v1 : Int) == Int.ofNat v1, true), ((decide ((v1 : Int) < (L0.length : Int))), true)]) (fun gv => by kernel_rfl) (oY <| Zb (ZaC (by first | assumption | exact Decidable.not_not.1 (by assumption) | simp_all)) <| Zb (Zg (ZM #[Value.agg #[vi (L0.getD v1 RA.z).a0, vi (L0.getD v1 RA.z).a1, vi (L0.getD v1 RA.z).a2, vi (L0.getD v1 RA.z).a3]] ((L0.getD v1 RA.z).a0) ((L0.getD v1 RA.z).a1) ((L0.getD v1 RA.z).a2) ((L0.getD v1 RA.z).a3)  y3_0 N c3  1 rfl (by decide) (by decide))) <| Zb (Zg (ZF (E := E_iiii) (L := L0) (i := v1) (q := 0) (by omega) (show (0 + (v1 * 4)) = v1 * 4 + 0 from by omega) (show 0 + 4 ≤ 4 from by decide) rfl)) <| oB <| oI <| oT <| oF <| Zb (Zg (ZF (E := E_iiii) (L := L0) (i := v1) (q := 0) (by omega) (show (0 + (v1 * 4)) = v1 * 4 + 0 from by omega) (show 0 + 4 ≤ 4 from by decide) rfl)) <| oB <| oI <| oY Ze) rfl (by decide) (by rfl) ⟨Eq.trans (show (Value.tuple #[Value.string (Za ([] : List Int)), vi (130 : Int)] : Value) = Value.tuple #[Value.string ⟨#[]⟩, vi (130 : Int)] from (Z7 (Zt rfl (Zt rfl rfl)))) (by rfl), by rfl⟩ trivial
      ·
       refine Mach.ok_ite (fun g6 => ?_) (fun _ => Mach.ok_none)
       exact Mach.ok_next (M := Z6 L0 N) (cd := 1000000) (cm := 0) (y := (.h1m0 ((v1 + 1)) : Zv)) (fu := 4000) (orc := (Zk [(0, true), (1, false), (2, true), (3, false), (4, false)] [(0, (((v1 + 1) : Nat) : Int))] [(0, v1), (1, v1)] [(0, [.i (L0.getD v1 RA.z).a0, .i (L0.getD v1 RA.z).a1, .i (L0.getD v1 RA.z).a2, .i (L0.getD v1 RA.z).a3]), (4, [.i (L0.getD v1 RA.z).a0, .i (L0.getD v1 RA.z).a1, .i (L0.getD v1 RA.z).a2, .i (L0.getD v1 RA.z).a3])] [(0, (ZL ((L0.getD v1 RA.z).a0) ((L0.getD v1 RA.z).a1) ((L0.getD v1 RA.z).a2) ((L0.getD v1 RA.z).a3)  y3_0  1))])) (live := []) (tv := fun _ => [some (ms E_iiii L0), some (vi (((v1 + 1) : Nat) : Int))]) (bl := []) (ob := [((IntKind.i64.wrap ((v1 : Int) + (1 : Int))) == (((v1 + 1) : Nat) : Int), true), ((decide ((L0.getD v1 RA.z).a2 > (L0.length : Int))), false), ((!y3_0), false), (dP (ZI #[Value.agg #[vi (L0.getD v1 RA.z).a0, vi (L0.getD v1 RA.z).a1, vi (L0.getD v1 RA.z).a2, vi (L0.getD v1 RA.z).a3]] ((L0.getD v1 RA.z).a0) ((L0.getD v1 RA.z).a1) ((L0.getD v1 RA.z).a2) ((L0.getD v1 RA.z).a3)  y3_0  1), true), (dP (ZP (code (ZE E_iiii L0)) (0 + (v1 * 4)) 4 = some [.i (L0.getD v1 RA.z).a0, .i (L0.getD v1 RA.z).a1, .i (L0.getD v1 RA.z).a2, .i (L0.getD v1 RA.z).a3]), true), (Nat.blt v1 L0.length, true), ((v1 : Int) == Int.ofNat v1, true), (((L0.getD v1 RA.z).a0 == (9 : Int)), true), (((L0.getD v1 RA.z).a0 == (8 : Int)), false), (dP (ZP (code (ZE E_iiii L0)) (0 + (v1 * 4)) 4 = some [.i (L0.getD v1 RA.z).a0, .i (L0.getD v1 RA.z).a1, .i (L0.getD v1 RA.z).a2, .i (L0.getD v1 RA.z).a3]), true), (Nat.blt v1 L0.length, true), ((v1 : Int) == Int.ofNat v1, true), ((decide ((v1 : Int) < (L0.length : Int))), true)]) rfl (show 1 ∈ ZO (ZT 1) from by decide +kernel) (fun gv => by kernel_rfl) (Zb (beq_iff_eq.2 ((wrap_i64 ltA).trans (by first | rfl | omega))) <| oN <| Zb (ZaC (by first | assumption | exact Decidable.not_not.1 (by assumption) | simp_all)) <| Zb (Zg (ZM #[Value.agg #[vi (L0.getD v1 RA.z).a0, vi (L0.getD v1 RA.z).a1, vi (L0.getD v1 RA.z).a2, vi (L0.getD v1 RA.z).a3]] ((L0.getD v1 RA.z).a0) ((L0.getD v1 RA.z).a1) ((L0.getD v1 RA.z).a2) ((L0.getD v1 RA.z).a3)  y3_0 N c3  1 rfl (by decide) (by decide))) <| Zb (Zg (ZF (E := E_iiii) (L := L0) (i := v1) (q := 0) (by omega) (show (0 + (v1 * 4)) = v1 * 4 + 0 from by omega) (show 0 + 4 ≤ 4 from by decide) rfl)) <| oB <| oI <| oT <| oF <| Zb (Zg (ZF (E := E_iiii) (L := L0) (i := v1) (q := 0) (by omega) (show (0 + (v1 * 4)) = v1 * 4 + 0 from by omega) (show 0 + 4 ≤ 4 from by decide) rfl)) <| oB <| oI <| oY Ze) rfl (by decide) (by rfl) (fun _ => ⟨rr, ⟨rr, trivial⟩⟩) trivial
   ·
    refine Mach.ok_bind (fun z3 c3 => ?_)
    cases z3 with
    | r0 y3_0 =>
     refine Mach.ok_ite (fun g4 => ?_) (fun g4 => ?_)
     ·
      exact Mach.ok_fin (M := Z6 L0 N) (cd := 1000000) (cm := 0) (r := (.r0 (([] : List Int)) ((130 : Int)) : ZK)) (fu := 4000) (orc := (Zk [(0, true), (1, false), (2, false), (3, true)] [] [(0, v1), (1, v1)] [(0, [.i (L0.getD v1 RA.z).a0, .i (L0.getD v1 RA.z).a1, .i (L0.getD v1 RA.z).a2, .i (L0.getD v1 RA.z).a3]), (3, [.i (L0.getD v1 RA.z).a0, .i (L0.getD v1 RA.z).a1, .i (L0.getD v1 RA.z).a2, .i (L0.getD v1 RA.z).a3])] [(0, (ZL ((L0.getD v1 RA.z).a0) ((L0.getD v1 RA.z).a1) ((L0.getD v1 RA.z).a2) ((L0.getD v1 RA.z).a3)  y3_0  1))])) (live := []) (u := Value.tuple #[Value.string ⟨#[]⟩, vi (130 : Int)]) (bl := []) (ob := [((!y3_0), true), (dP (ZI #[Value.agg #[vi (L0.getD v1 RA.z).a0, vi (L0.getD v1 RA.z).a1, vi (L0.getD v1 RA.z).a2, vi (L0.getD v1 RA.z).a3]] ((L0.getD v1 RA.z).a0) ((L0.getD v1 RA.z).a1) ((L0.getD v1 RA.z).a2) ((L0.getD v1 RA.z).a3)  y3_0  1), true), (dP (ZP (code (ZE E_iiii L0)) (0 + (v1 * 4)) 4 = some [.i (L0.getD v1 RA.z).a0, .i (L0.getD v1 RA.z).a1, .i (L0.getD v1 RA.z).a2, .i (L0.getD v1 RA.z).a3]), true), (Nat.blt v1 L0.length, true), ((v1 : Int) == Int.ofNat v1, true), (((L0.getD v1 RA.z).a0 == (9 : Int)), false), (((L0.getD v1 RA.z).a0 == (8 : Int)), false), (dP (ZP (code (ZE E_iiii L0)) (0 + (v1 * 4)) 4 = some [.i (L0.getD v1 RA.z).a0, .i (L0.getD v1 RA.z).a1, .i (L0.getD v1 RA.z).a2, .i (L0.getD v1 RA.z).a3]), true), (Nat.blt v1 L0.length, true), ((v1 : Int) == Int.ofNat v1, true), ((decide ((v1 : Int) < (L0.length : Int))), true)]) (fun gv => by kernel_rfl) (Zb (Zkv (by first | assumption | simp_all)) <| Zb (Zg (ZM #[Value.agg #[vi (L0.getD v1 RA.z).a0, vi (L0.getD v1 RA.z).a1, vi (L0.getD v1 RA.z).a2, vi (L0.getD v1 RA.z).a3]] ((L0.getD v1 RA.z).a0) ((L0.getD v1 RA.z).a1) ((L0.getD v1 RA.z).a2) ((L0.getD v1 RA.z).a3)  y3_0 N c3  1 rfl (by decide) (by decide))) <| Zb (Zg (ZF (E := E_iiii) (L := L0) (i := v1) (q := 0) (by omega) (show (0 + (v1 * 4)) = v1 * 4 + 0 from by omega) (show 0 + 4 ≤ 4 from by decide) rfl)) <| oB <| oI <| oF <| oF <| Zb (Zg (ZF (E := E_iiii) (L := L0) (i := v1) (q := 0) (by omega) (show (0 + (v1 * 4)) = v1 * 4 + 0 from by omega) (show 0 + 4 ≤ 4 from by decide) rfl)) <| oB <| oI <| oY Ze) rfl (by decide) (by rfl) ⟨Eq.trans (show (Value.tuple #[Value.string (Za ([] : List Int)), vi (130 : Int)] : Value) = Value.tuple #[Value.string ⟨#[]⟩, vi (130 : Int)] from (Z7 (Zt rfl (Zt rfl rfl)))) (by rfl), by rfl⟩ trivial
     ·
      refine Mach.ok_ite (fun g5 => ?_) (fun _ => Mach.ok_none)
      exact Mach.ok_next (M := Z6 L0 N) (cd := 1000000) (cm := 0) (y := (.h1m0 ((v1 + 1)) : Zv)) (fu := 4000) (orc := (Zk [(0, true), (1, false), (2, false), (3, false)] [(0, (((v1 + 1) : Nat) : Int))] [(0, v1), (1, v1)] [(0, [.i (L0.getD v1 RA.z).a0, .i (L0.getD v1 RA.z).a1, .i (L0.getD v1 RA.z).a2, .i (L0.getD v1 RA.z).a3]), (3, [.i (L0.getD v1 RA.z).a0, .i (L0.getD v1 RA.z).a1, .i (L0.getD v1 RA.z).a2, .i (L0.getD v1 RA.z).a3])] [(0, (ZL ((L0.getD v1 RA.z).a0) ((L0.getD v1 RA.z).a1) ((L0.getD v1 RA.z).a2) ((L0.getD v1 RA.z).a3)  y3_0  1))])) (live := []) (tv := fun _ => [some (ms E_iiii L0), some (vi (((v1 + 1) : Nat) : Int))]) (bl := []) (ob := [((IntKind.i64.wrap ((v1 : Int) + (1 : Int))) == (((v1 + 1) : Nat) : Int), true), ((!y3_0), false), (dP (ZI #[Value.agg #[vi (L0.getD v1 RA.z).a0, vi (L0.getD v1 RA.z).a1, vi (L0.getD v1 RA.z).a2, vi (L0.getD v1 RA.z).a3]] ((L0.getD v1 RA.z).a0) ((L0.getD v1 RA.z).a1) ((L0.getD v1 RA.z).a2) ((L0.getD v1 RA.z).a3)  y3_0  1), true), (dP (ZP (code (ZE E_iiii L0)) (0 + (v1 * 4)) 4 = some [.i (L0.getD v1 RA.z).a0, .i (L0.getD v1 RA.z).a1, .i (L0.getD v1 RA.z).a2, .i (L0.getD v1 RA.z).a3]), true), (Nat.blt v1 L0.length, true), ((v1 : Int) == Int.ofNat v1, true), (((L0.getD v1 RA.z).a0 == (9 : Int)), false), (((L0.getD v1 RA.z).a0 == (8 : Int)), false), (dP (ZP (code (ZE E_iiii L0)) (0 + (v1 * 4)) 4 = some [.i (L0.getD v1 RA.z).a0, .i (L0.getD v1 RA.z).a1, .i (L0.getD v1 RA.z).a2, .i (L0.getD v1 RA.z).a3]), true), (Nat.blt v1 L0.length, true), ((v1 : Int) == Int.ofNat v1, true), ((decide ((v1 : Int) < (L0.length : Int))), true)]) rfl (show 1 ∈ ZO (ZT 1) from by decide +kernel) (fun gv => by kernel_rfl) (Zb (beq_iff_eq.2 ((wrap_i64 ltA).trans (by first | rfl | omega))) <| Zb (ZaC (by first | assumption | exact Decidable.not_not.1 (by assumption) | simp_all)) <| Zb (Zg (ZM #[Value.agg #[vi (L0.getD v1 RA.z).a0, vi (L0.getD v1 RA.z).a1, vi (L0.getD v1 RA.z).a2, vi (L0.getD v1 RA.z).a3]] ((L0.getD v1 RA.z).a0) ((L0.getD v1 RA.z).a1) ((L0.getD v1 RA.z).a2) ((L0.getD v1 RA.z).a3)  y3_0 N c3  1 rfl (by decide) (by decide))) <| Zb (Zg (ZF (E := E_iiii) (L := L0) (i := v1) (q := 0) (by omega) (show (0 + (v1 * 4)) = v1 * 4 + 0 from by omega) (show 0 + 4 ≤ 4 from by decide) rfl)) <| oB <| oI <| oF <| oF <| Zb (Zg (ZF (E := E_iiii) (L := L0) (i := v1) (q := 0) (by omega) (show (0 + (v1 * 4)) = v1 * 4 + 0 from by omega) (show 0 + 4 ≤ 4 from by decide) rfl)) <| oB <| oI <| oY Ze) rfl (by decide) (by rfl) (fun _ => ⟨rr, ⟨rr, trivial⟩⟩) trivial
 ·
  exact Mach.ok_head (bK := ZaS 2) (M := Z6 L0 N) (cd := 1000000) (cm := 0) (y := (.h2m0 (0) : Zv)) (fu := 4000) (orc := (Zk [(0, false)] [] [] [] [])) (live := []) (tv := fun _ => [some (ms E_iiii L0), some (vn), some (vq)]) (bl := []) (ob := [((decide ((v1 : Int) < (L0.length : Int))), false)]) rfl rfl (show ∀ j ∈ ZO (ZaS 2).2, j ∈ ZO (ZT 1) from by decide +kernel) (fun gv => by kernel_rfl) (oN Ze) rfl (by decide) (by rfl) (fun _ => ⟨rr, ⟨rr, ⟨⟨Eq.trans (show (vi ((0 : Nat) : Int) : Value) = vq from (congrArg (Value.int .i64) (by first | rfl | omega))) (by rfl), by rfl⟩, trivial⟩⟩⟩) trivial

theorem ZhR (L0 : List RA) (v1 N : Nat) : (Z6 L0 N).Ok Tryz.prog ZX (.h2m0 v1 : Zv) (Zad L0 N (.h2m0 v1 : Zv)) := by
 show (Z6 L0 N).Ok Tryz.prog ZX (.h2m0 v1 : Zv) (Zar L0 N v1)
 unfold Zar
 refine Mach.ok_ite (fun g0 => ?_) (fun g0 => ?_)
 ·
  refine Mach.ok_bind (fun z1 c1 => ?_)
  cases z1 with
  | r0 y1_0 =>
   refine Mach.ok_ite (fun g2 => ?_) (fun g2 => ?_)
   ·
    subst g2
    refine Mach.ok_bind (fun z3 c3 => ?_)
    cases z3 with
    | r0 y3_0 =>
     refine Mach.ok_ite (fun g4 => ?_) (fun g4 => ?_)
     ·
      refine Mach.ok_ite (fun g5 => ?_) (fun g5 => ?_)
      ·
       refine Mach.ok_bind (fun z6 c6 => ?_)
       cases z6 with
       | r0 y6_0 y6_1 =>
        refine Mach.ok_ite (fun g7 => ?_) (fun g7 => ?_)
        ·
         refine Mach.ok_ite (fun g8 => ?_) (fun _ => Mach.ok_none)
         exact Mach.ok_next (M := Z6 L0 N) (cd := 1000000) (cm := 0) (y := (.h2m1 ((bl [58, 76, 10, 10])) ((v1 + 1)) : Zv)) (fu := 4000) (orc := (Zk [(0, true), (1, true)] [(0, (((v1 + 1) : Nat) : Int))] [(0, v1)] [(0, [.i (L0.getD v1 RA.z).a0, .i (L0.getD v1 RA.z).a1, .i (L0.getD v1 RA.z).a2, .i (L0.getD v1 RA.z).a3])] [(0, (Zag (L0) ((v1 : Int))  true  0)), (2, (Z3 ((v1 : Int))  y3_0  2)), (3, .ap0), (5, (Zav ((L0.getD v1 RA.z).a0) ((L0.getD v1 RA.z).a1) ((L0.getD v1 RA.z).a2) ((L0.getD v1 RA.z).a3)  y6_0 y6_1  4)), (6, .ap0)])) (live := [5]) (tv := fun _ => [some (ms E_iiii L0), some (vs 5 0 4 4), some (vi (((v1 + 1) : Nat) : Int))]) (bl := [some (.cells [Value.int .u8 (58 : Int), Value.int .u8 (76 : Int), Value.int .u8 (10 : Int), Value.int .u8 (10 : Int)] 5)]) (ob := [((IntKind.i64.wrap ((v1 : Int) + (1 : Int))) == (((v1 + 1) : Nat) : Int), true), (dP (0 = ((Za y6_0)).size ∧ ([] : List Value) = ZQ (Za y6_0)), true), (dP (Zap #[Value.agg #[vi (L0.getD v1 RA.z).a0, vi (L0.getD v1 RA.z).a1, vi (L0.getD v1 RA.z).a2, vi (L0.getD v1 RA.z).a3]] ((L0.getD v1 RA.z).a0) ((L0.getD v1 RA.z).a1) ((L0.getD v1 RA.z).a2) ((L0.getD v1 RA.z).a3)  y6_0 y6_1  4), true), (dP (ZP (code (ZE E_iiii L0)) (0 + (v1 * 4)) 4 = some [.i (L0.getD v1 RA.z).a0, .i (L0.getD v1 RA.z).a1, .i (L0.getD v1 RA.z).a2, .i (L0.getD v1 RA.z).a3]), true), (Nat.blt v1 L0.length, true), ((v1 : Int) == Int.ofNat v1, true), ((decide ((v1 : Int) < (L0.length : Int))), true), (dP (0 = ((Za y3_0)).size ∧ ([] : List Value) = ZQ (Za y3_0)), true), (dP (Z2 #[vi (v1 : Int)] ((v1 : Int))  y3_0  2), true), (dP (Zaa #[ms E_iiii L0, vi (v1 : Int)] (L0) ((v1 : Int))  true  0), true), ((decide ((v1 : Int) ≤ (L0.length : Int))), true)]) rfl (show 2 ∈ ZO (ZT 2) from by decide +kernel) (fun gv => by kernel_rfl) (Zb (beq_iff_eq.2 ((wrap_i64 ltA).trans (by first | rfl | omega))) <| Zb (Zg (Zco (x := (Za y6_0)) (M := y6_0) rfl (by omega))) <| Zb (Zg (Zaw #[Value.agg #[vi (L0.getD v1 RA.z).a0, vi (L0.getD v1 RA.z).a1, vi (L0.getD v1 RA.z).a2, vi (L0.getD v1 RA.z).a3]] ((L0.getD v1 RA.z).a0) ((L0.getD v1 RA.z).a1) ((L0.getD v1 RA.z).a2) ((L0.getD v1 RA.z).a3)  y6_0 y6_1 N c6  4 rfl (by decide) (by decide))) <| Zb (Zg (ZF (E := E_iiii) (L := L0) (i := v1) (q := 0) (by omega) (show (0 + (v1 * 4)) = v1 * 4 + 0 from by omega) (show 0 + 4 ≤ 4 from by decide) rfl)) <| oB <| oI <| oY <| Zb (Zg (Zco (x := (Za y3_0)) (M := y3_0) rfl (by omega))) <| Zb (Zg (Z5 #[vi (v1 : Int)] ((v1 : Int))  y3_0 N c3  2 rfl (by decide) (by decide))) <| Zb (Zg (Zah #[ms E_iiii L0, vi (v1 : Int)] (L0) ((v1 : Int))  true N c1  0 rfl (by decide) (by decide))) <| oY Ze) rfl (by decide) (by rfl) (fun _ => ⟨rr, ⟨⟨Eq.trans (show (vs 0 0 (bl [58, 76, 10, 10]).length (bl [58, 76, 10, 10]).length : Value) = vs 0 0 4 4 from (Zay rfl eqA eqA)) (by rfl), by rfl⟩, ⟨rr, trivial⟩⟩⟩) ⟨(ZfP (E := (Zn .u8)) _ (L := (bl [58, 76, 10, 10])) _ (show ([Value.int .u8 (58 : Int), Value.int .u8 (76 : Int), Value.int .u8 (10 : Int), Value.int .u8 (10 : Int)] : List Value) = Zl (Zn .u8) (bl [58, 76, 10, 10]) from rfl)), trivial⟩
        ·
         refine Mach.ok_ite (fun g8 => ?_) (fun _ => Mach.ok_none)
         refine Mach.ok_ite (fun g9 => ?_) (fun _ => Mach.ok_none)
         refine Mach.ok_ite (fun g10 => ?_) (fun _ => Mach.ok_none)
         refine Mach.ok_ite (fun g11 => ?_) (fun _ => Mach.ok_none)
         exact Mach.ok_next (M := Z6 L0 N) (cd := 1000000) (cm := 0) (y := (.h2m1 ((((bl [58, 76, 10]) ++ y6_0) ++ (bl [10]))) ((v1 + 1)) : Zv)) (fu := 4000) (orc := (Zk [(0, true), (1, true)] [(0, (((v1 + 1) : Nat) : Int))] [(0, v1)] [(0, [.i (L0.getD v1 RA.z).a0, .i (L0.getD v1 RA.z).a1, .i (L0.getD v1 RA.z).a2, .i (L0.getD v1 RA.z).a3])] [(0, (Zag (L0) ((v1 : Int))  true  0)), (2, (Z3 ((v1 : Int))  y3_0  2)), (3, .ap0), (5, (Zav ((L0.getD v1 RA.z).a0) ((L0.getD v1 RA.z).a1) ((L0.getD v1 RA.z).a2) ((L0.getD v1 RA.z).a3)  y6_0 y6_1  4)), (6, .ap y6_0.length (Zl (Zn .u8) y6_0) (Zl (Zn .u8) ((bl [58, 76, 10]) ++ y6_0))), (7, .ap 1 [Value.int .u8 (10 : Int)] (Zl (Zn .u8) (((bl [58, 76, 10]) ++ y6_0) ++ (bl [10]))))])) (live := [6]) (tv := fun _ => [some (ms E_iiii L0), some (vs 6 0 ((3 + y6_0.length) + 1) ((3 + y6_0.length) + 1)), some (vi (((v1 + 1) : Nat) : Int))]) (bl := [some (.cells (Zl (Zn .u8) (((bl [58, 76, 10]) ++ y6_0) ++ (bl [10]))) 5)]) (ob := [((IntKind.i64.wrap ((v1 : Int) + (1 : Int))) == (((v1 + 1) : Nat) : Int), true), (dP ((1 = 1 ∧ ZD (1 * 1) (List.drop 0 [Value.int .u8 (10 : Int)]) = some [Value.int .u8 (10 : Int)] ∧ Z4 Zau [Value.int .u8 (10 : Int)] = true) ∧ 0 < 1 ∧ 1 ≤ 100000 ∧ (3 + y6_0.length) < (3 + y6_0.length) + 1 ∧ (3 + y6_0.length) ≤ 100000 ∧ (3 + y6_0.length) * 1 ≤ (List.length (Zl (Zn .u8) ((bl [58, 76, 10]) ++ y6_0))) ∧ List.take ((3 + y6_0.length) * 1) (Zl (Zn .u8) ((bl [58, 76, 10]) ++ y6_0)) ++ [Value.int .u8 (10 : Int)] = (Zl (Zn .u8) (((bl [58, 76, 10]) ++ y6_0) ++ (bl [10])))), true), (dP ((y6_0.length = ((Za y6_0)).size ∧ (Zl (Zn .u8) y6_0) = ZQ (Za y6_0)) ∧ 0 < y6_0.length ∧ y6_0.length ≤ 100000 ∧ 3 < 3 + y6_0.length ∧ 3 ≤ 100000 ∧ 3 * 1 ≤ (List.length [Value.int .u8 (58 : Int), Value.int .u8 (76 : Int), Value.int .u8 (10 : Int)]) ∧ List.take (3 * 1) [Value.int .u8 (58 : Int), Value.int .u8 (76 : Int), Value.int .u8 (10 : Int)] ++ (Zl (Zn .u8) y6_0) = (Zl (Zn .u8) ((bl [58, 76, 10]) ++ y6_0))), true), (dP (Zap #[Value.agg #[vi (L0.getD v1 RA.z).a0, vi (L0.getD v1 RA.z).a1, vi (L0.getD v1 RA.z).a2, vi (L0.getD v1 RA.z).a3]] ((L0.getD v1 RA.z).a0) ((L0.getD v1 RA.z).a1) ((L0.getD v1 RA.z).a2) ((L0.getD v1 RA.z).a3)  y6_0 y6_1  4), true), (dP (ZP (code (ZE E_iiii L0)) (0 + (v1 * 4)) 4 = some [.i (L0.getD v1 RA.z).a0, .i (L0.getD v1 RA.z).a1, .i (L0.getD v1 RA.z).a2, .i (L0.getD v1 RA.z).a3]), true), (Nat.blt v1 L0.length, true), ((v1 : Int) == Int.ofNat v1, true), ((decide ((v1 : Int) < (L0.length : Int))), true), (dP (0 = ((Za y3_0)).size ∧ ([] : List Value) = ZQ (Za y3_0)), true), (dP (Z2 #[vi (v1 : Int)] ((v1 : Int))  y3_0  2), true), (dP (Zaa #[ms E_iiii L0, vi (v1 : Int)] (L0) ((v1 : Int))  true  0), true), ((decide ((v1 : Int) ≤ (L0.length : Int))), true)]) rfl (show 2 ∈ ZO (ZT 2) from by decide +kernel) (fun gv => by kernel_rfl) (Zb (beq_iff_eq.2 ((wrap_i64 ltA).trans (by first | rfl | omega))) <| Zb (Zg ⟨⟨rfl, ⟨rfl, rfl⟩⟩, by omega, by omega, ltA, by omega, (ZH (E := (Zn .u8)) (L := ((bl [58, 76, 10]) ++ y6_0)) (M := (bl [10])) (n := (3 + y6_0.length)) (show _ = _ * 1 from rfl) ltA (R := (((bl [58, 76, 10]) ++ y6_0) ++ (bl [10]))) (by rw [List.take_of_length_le ltA]))⟩) <| Zb (Zg ⟨(Zbr (x := (Za y6_0)) (M := y6_0) rfl (by assumption) ltA), ltA, ltA, ltA, by omega, (ZH (E := (Zn .u8)) (L := (bl [58, 76, 10])) (M := y6_0) (n := 3) (show _ = _ * 1 from rfl) ltA (R := ((bl [58, 76, 10]) ++ y6_0)) (by rw [List.take_of_length_le ltA]))⟩) <| Zb (Zg (Zaw #[Value.agg #[vi (L0.getD v1 RA.z).a0, vi (L0.getD v1 RA.z).a1, vi (L0.getD v1 RA.z).a2, vi (L0.getD v1 RA.z).a3]] ((L0.getD v1 RA.z).a0) ((L0.getD v1 RA.z).a1) ((L0.getD v1 RA.z).a2) ((L0.getD v1 RA.z).a3)  y6_0 y6_1 N c6  4 rfl (by decide) (by decide))) <| Zb (Zg (ZF (E := E_iiii) (L := L0) (i := v1) (q := 0) (by omega) (show (0 + (v1 * 4)) = v1 * 4 + 0 from by omega) (show 0 + 4 ≤ 4 from by decide) rfl)) <| oB <| oI <| oY <| Zb (Zg (Zco (x := (Za y3_0)) (M := y3_0) rfl (by omega))) <| Zb (Zg (Z5 #[vi (v1 : Int)] ((v1 : Int))  y3_0 N c3  2 rfl (by decide) (by decide))) <| Zb (Zg (Zah #[ms E_iiii L0, vi (v1 : Int)] (L0) ((v1 : Int))  true N c1  0 rfl (by decide) (by decide))) <| oY Ze) rfl (by decide) (by rfl) (fun _ => ⟨rr, ⟨⟨Eq.trans (show (vs 0 0 (((bl [58, 76, 10]) ++ y6_0) ++ (bl [10])).length (((bl [58, 76, 10]) ++ y6_0) ++ (bl [10])).length : Value) = vs 0 0 ((3 + y6_0.length) + 1) ((3 + y6_0.length) + 1) from (Zay rfl eqA eqA)) (by rfl), by rfl⟩, ⟨rr, trivial⟩⟩⟩) ⟨(ZR (E := (Zn .u8)) (α := Int) _ (((bl [58, 76, 10]) ++ y6_0) ++ (bl [10])) _), trivial⟩
      ·
       refine Mach.ok_ite (fun g6 => ?_) (fun _ => Mach.ok_none)
       exact Mach.ok_next (M := Z6 L0 N) (cd := 1000000) (cm := 0) (y := (.h2m1 ((bl [58, 76, 10])) ((v1 + 1)) : Zv)) (fu := 4000) (orc := (Zk [(0, true), (1, false)] [(0, (((v1 + 1) : Nat) : Int))] [] [] [(0, (Zag (L0) ((v1 : Int))  true  0)), (2, (Z3 ((v1 : Int))  y3_0  2)), (3, .ap0)])) (live := [3]) (tv := fun _ => [some (ms E_iiii L0), some (vs 3 0 3 3), some (vi (((v1 + 1) : Nat) : Int))]) (bl := [some (.cells [Value.int .u8 (58 : Int), Value.int .u8 (76 : Int), Value.int .u8 (10 : Int)] 5)]) (ob := [((IntKind.i64.wrap ((v1 : Int) + (1 : Int))) == (((v1 + 1) : Nat) : Int), true), ((decide ((v1 : Int) < (L0.length : Int))), false), (dP (0 = ((Za y3_0)).size ∧ ([] : List Value) = ZQ (Za y3_0)), true), (dP (Z2 #[vi (v1 : Int)] ((v1 : Int))  y3_0  2), true), (dP (Zaa #[ms E_iiii L0, vi (v1 : Int)] (L0) ((v1 : Int))  true  0), true), ((decide ((v1 : Int) ≤ (L0.length : Int))), true)]) rfl (show 2 ∈ ZO (ZT 2) from by decide +kernel) (fun gv => by kernel_rfl) (Zb (beq_iff_eq.2 ((wrap_i64 ltA).trans (by first | rfl | omega))) <| oN <| Zb (Zg (Zco (x := (Za y3_0)) (M := y3_0) rfl (by omega))) <| Zb (Zg (Z5 #[vi (v1 : Int)] ((v1 : Int))  y3_0 N c3  2 rfl (by decide) (by decide))) <| Zb (Zg (Zah #[ms E_iiii L0, vi (v1 : Int)] (L0) ((v1 : Int))  true N c1  0 rfl (by decide) (by decide))) <| oY Ze) rfl (by decide) (by rfl) (fun _ => ⟨rr, ⟨⟨Eq.trans (show (vs 0 0 (bl [58, 76, 10]).length (bl [58, 76, 10]).length : Value) = vs 0 0 3 3 from (Zay rfl eqA eqA)) (by rfl), by rfl⟩, ⟨rr, trivial⟩⟩⟩) ⟨(ZfP (E := (Zn .u8)) _ (L := (bl [58, 76, 10])) _ (show ([Value.int .u8 (58 : Int), Value.int .u8 (76 : Int), Value.int .u8 (10 : Int)] : List Value) = Zl (Zn .u8) (bl [58, 76, 10]) from rfl)), trivial⟩
     ·
      refine Mach.ok_ite (fun g5 => ?_) (fun _ => Mach.ok_none)
      refine Mach.ok_ite (fun g6 => ?_) (fun _ => Mach.ok_none)
      refine Mach.ok_ite (fun g7 => ?_) (fun _ => Mach.ok_none)
      refine Mach.ok_ite (fun g8 => ?_) (fun g8 => ?_)
      ·
       refine Mach.ok_bind (fun z9 c9 => ?_)
       cases z9 with
       | r0 y9_0 y9_1 =>
        refine Mach.ok_ite (fun g10 => ?_) (fun g10 => ?_)
        ·
         refine Mach.ok_ite (fun g11 => ?_) (fun _ => Mach.ok_none)
         refine Mach.ok_ite (fun g12 => ?_) (fun _ => Mach.ok_none)
         exact Mach.ok_next (M := Z6 L0 N) (cd := 1000000) (cm := 0) (y := (.h2m1 (((((bl [58, 76]) ++ y3_0) ++ (bl [10])) ++ (bl [10]))) ((v1 + 1)) : Zv)) (fu := 4000) (orc := (Zk [(0, true), (1, true)] [(0, (((v1 + 1) : Nat) : Int))] [(0, v1)] [(0, [.i (L0.getD v1 RA.z).a0, .i (L0.getD v1 RA.z).a1, .i (L0.getD v1 RA.z).a2, .i (L0.getD v1 RA.z).a3])] [(0, (Zag (L0) ((v1 : Int))  true  0)), (2, (Z3 ((v1 : Int))  y3_0  2)), (3, .ap y3_0.length (Zl (Zn .u8) y3_0) (Zl (Zn .u8) ((bl [58, 76]) ++ y3_0))), (4, .ap 1 [Value.int .u8 (10 : Int)] (Zl (Zn .u8) (((bl [58, 76]) ++ y3_0) ++ (bl [10])))), (5, (Zav ((L0.getD v1 RA.z).a0) ((L0.getD v1 RA.z).a1) ((L0.getD v1 RA.z).a2) ((L0.getD v1 RA.z).a3)  y9_0 y9_1  5)), (6, .ap0), (7, .ap 1 [Value.int .u8 (10 : Int)] (Zl (Zn .u8) ((((bl [58, 76]) ++ y3_0) ++ (bl [10])) ++ (bl [10]))))])) (live := [6]) (tv := fun _ => [some (ms E_iiii L0), some (vs 6 0 (((2 + y3_0.length) + 1) + 1) (((2 + y3_0.length) + 1) + 1)), some (vi (((v1 + 1) : Nat) : Int))]) (bl := [some (.cells (Zl (Zn .u8) ((((bl [58, 76]) ++ y3_0) ++ (bl [10])) ++ (bl [10]))) 5)]) (ob := [((IntKind.i64.wrap ((v1 : Int) + (1 : Int))) == (((v1 + 1) : Nat) : Int), true), (dP ((1 = 1 ∧ ZD (1 * 1) (List.drop 0 [Value.int .u8 (10 : Int)]) = some [Value.int .u8 (10 : Int)] ∧ Z4 Zau [Value.int .u8 (10 : Int)] = true) ∧ 0 < 1 ∧ 1 ≤ 100000 ∧ ((2 + y3_0.length) + 1) < ((2 + y3_0.length) + 1) + 1 ∧ ((2 + y3_0.length) + 1) ≤ 100000 ∧ ((2 + y3_0.length) + 1) * 1 ≤ (List.length (Zl (Zn .u8) (((bl [58, 76]) ++ y3_0) ++ (bl [10])))) ∧ List.take (((2 + y3_0.length) + 1) * 1) (Zl (Zn .u8) (((bl [58, 76]) ++ y3_0) ++ (bl [10]))) ++ [Value.int .u8 (10 : Int)] = (Zl (Zn .u8) ((((bl [58, 76]) ++ y3_0) ++ (bl [10])) ++ (bl [10])))), true), (dP (0 = ((Za y9_0)).size ∧ ([] : List Value) = ZQ (Za y9_0)), true), (dP (Zap #[Value.agg #[vi (L0.getD v1 RA.z).a0, vi (L0.getD v1 RA.z).a1, vi (L0.getD v1 RA.z).a2, vi (L0.getD v1 RA.z).a3]] ((L0.getD v1 RA.z).a0) ((L0.getD v1 RA.z).a1) ((L0.getD v1 RA.z).a2) ((L0.getD v1 RA.z).a3)  y9_0 y9_1  5), true), (dP (ZP (code (ZE E_iiii L0)) (0 + (v1 * 4)) 4 = some [.i (L0.getD v1 RA.z).a0, .i (L0.getD v1 RA.z).a1, .i (L0.getD v1 RA.z).a2, .i (L0.getD v1 RA.z).a3]), true), (Nat.blt v1 L0.length, true), ((v1 : Int) == Int.ofNat v1, true), ((decide ((v1 : Int) < (L0.length : Int))), true), (dP ((1 = 1 ∧ ZD (1 * 1) (List.drop 0 [Value.int .u8 (10 : Int)]) = some [Value.int .u8 (10 : Int)] ∧ Z4 Zau [Value.int .u8 (10 : Int)] = true) ∧ 0 < 1 ∧ 1 ≤ 100000 ∧ (2 + y3_0.length) < (2 + y3_0.length) + 1 ∧ (2 + y3_0.length) ≤ 100000 ∧ (2 + y3_0.length) * 1 ≤ (List.length (Zl (Zn .u8) ((bl [58, 76]) ++ y3_0))) ∧ List.take ((2 + y3_0.length) * 1) (Zl (Zn .u8) ((bl [58, 76]) ++ y3_0)) ++ [Value.int .u8 (10 : Int)] = (Zl (Zn .u8) (((bl [58, 76]) ++ y3_0) ++ (bl [10])))), true), (dP ((y3_0.length = ((Za y3_0)).size ∧ (Zl (Zn .u8) y3_0) = ZQ (Za y3_0)) ∧ 0 < y3_0.length ∧ y3_0.length ≤ 100000 ∧ 2 < 2 + y3_0.length ∧ 2 ≤ 100000 ∧ 2 * 1 ≤ (List.length [Value.int .u8 (58 : Int), Value.int .u8 (76 : Int)]) ∧ List.take (2 * 1) [Value.int .u8 (58 : Int), Value.int .u8 (76 : Int)] ++ (Zl (Zn .u8) y3_0) = (Zl (Zn .u8) ((bl [58, 76]) ++ y3_0))), true), (dP (Z2 #[vi (v1 : Int)] ((v1 : Int))  y3_0  2), true), (dP (Zaa #[ms E_iiii L0, vi (v1 : Int)] (L0) ((v1 : Int))  true  0), true), ((decide ((v1 : Int) ≤ (L0.length : Int))), true)]) rfl (show 2 ∈ ZO (ZT 2) from by decide +kernel) (fun gv => by kernel_rfl) (Zb (beq_iff_eq.2 ((wrap_i64 ltA).trans (by first | rfl | omega))) <| Zb (Zg ⟨⟨rfl, ⟨rfl, rfl⟩⟩, by omega, by omega, ltA, by omega, (ZH (E := (Zn .u8)) (L := (((bl [58, 76]) ++ y3_0) ++ (bl [10]))) (M := (bl [10])) (n := ((2 + y3_0.length) + 1)) (show _ = _ * 1 from rfl) ltA (R := ((((bl [58, 76]) ++ y3_0) ++ (bl [10])) ++ (bl [10]))) (by rw [List.take_of_length_le ltA]))⟩) <| Zb (Zg (Zco (x := (Za y9_0)) (M := y9_0) rfl (by omega))) <| Zb (Zg (Zaw #[Value.agg #[vi (L0.getD v1 RA.z).a0, vi (L0.getD v1 RA.z).a1, vi (L0.getD v1 RA.z).a2, vi (L0.getD v1 RA.z).a3]] ((L0.getD v1 RA.z).a0) ((L0.getD v1 RA.z).a1) ((L0.getD v1 RA.z).a2) ((L0.getD v1 RA.z).a3)  y9_0 y9_1 N c9  5 rfl (by decide) (by decide))) <| Zb (Zg (ZF (E := E_iiii) (L := L0) (i := v1) (q := 0) (by omega) (show (0 + (v1 * 4)) = v1 * 4 + 0 from by omega) (show 0 + 4 ≤ 4 from by decide) rfl)) <| oB <| oI <| oY <| Zb (Zg ⟨⟨rfl, ⟨rfl, rfl⟩⟩, by omega, by omega, ltA, by omega, (ZH (E := (Zn .u8)) (L := ((bl [58, 76]) ++ y3_0)) (M := (bl [10])) (n := (2 + y3_0.length)) (show _ = _ * 1 from rfl) ltA (R := (((bl [58, 76]) ++ y3_0) ++ (bl [10]))) (by rw [List.take_of_length_le ltA]))⟩) <| Zb (Zg ⟨(Zbr (x := (Za y3_0)) (M := y3_0) rfl (by assumption) ltA), ltA, ltA, ltA, by omega, (ZH (E := (Zn .u8)) (L := (bl [58, 76])) (M := y3_0) (n := 2) (show _ = _ * 1 from rfl) ltA (R := ((bl [58, 76]) ++ y3_0)) (by rw [List.take_of_length_le ltA]))⟩) <| Zb (Zg (Z5 #[vi (v1 : Int)] ((v1 : Int))  y3_0 N c3  2 rfl (by decide) (by decide))) <| Zb (Zg (Zah #[ms E_iiii L0, vi (v1 : Int)] (L0) ((v1 : Int))  true N c1  0 rfl (by decide) (by decide))) <| oY Ze) rfl (by decide) (by rfl) (fun _ => ⟨rr, ⟨⟨Eq.trans (show (vs 0 0 ((((bl [58, 76]) ++ y3_0) ++ (bl [10])) ++ (bl [10])).length ((((bl [58, 76]) ++ y3_0) ++ (bl [10])) ++ (bl [10])).length : Value) = vs 0 0 (((2 + y3_0.length) + 1) + 1) (((2 + y3_0.length) + 1) + 1) from (Zay rfl eqA eqA)) (by rfl), by rfl⟩, ⟨rr, trivial⟩⟩⟩) ⟨(ZR (E := (Zn .u8)) (α := Int) _ ((((bl [58, 76]) ++ y3_0) ++ (bl [10])) ++ (bl [10])) _), trivial⟩
        ·
         refine Mach.ok_ite (fun g11 => ?_) (fun _ => Mach.ok_none)
         refine Mach.ok_ite (fun g12 => ?_) (fun _ => Mach.ok_none)
         refine Mach.ok_ite (fun g13 => ?_) (fun _ => Mach.ok_none)
         refine Mach.ok_ite (fun g14 => ?_) (fun _ => Mach.ok_none)
         refine Mach.ok_ite (fun g15 => ?_) (fun _ => Mach.ok_none)
         exact Mach.ok_next (M := Z6 L0 N) (cd := 1000000) (cm := 0) (y := (.h2m1 ((((((bl [58, 76]) ++ y3_0) ++ (bl [10])) ++ y9_0) ++ (bl [10]))) ((v1 + 1)) : Zv)) (fu := 4000) (orc := (Zk [(0, true), (1, true)] [(0, (((v1 + 1) : Nat) : Int))] [(0, v1)] [(0, [.i (L0.getD v1 RA.z).a0, .i (L0.getD v1 RA.z).a1, .i (L0.getD v1 RA.z).a2, .i (L0.getD v1 RA.z).a3])] [(0, (Zag (L0) ((v1 : Int))  true  0)), (2, (Z3 ((v1 : Int))  y3_0  2)), (3, .ap y3_0.length (Zl (Zn .u8) y3_0) (Zl (Zn .u8) ((bl [58, 76]) ++ y3_0))), (4, .ap 1 [Value.int .u8 (10 : Int)] (Zl (Zn .u8) (((bl [58, 76]) ++ y3_0) ++ (bl [10])))), (5, (Zav ((L0.getD v1 RA.z).a0) ((L0.getD v1 RA.z).a1) ((L0.getD v1 RA.z).a2) ((L0.getD v1 RA.z).a3)  y9_0 y9_1  5)), (6, .ap y9_0.length (Zl (Zn .u8) y9_0) (Zl (Zn .u8) ((((bl [58, 76]) ++ y3_0) ++ (bl [10])) ++ y9_0))), (7, .ap 1 [Value.int .u8 (10 : Int)] (Zl (Zn .u8) (((((bl [58, 76]) ++ y3_0) ++ (bl [10])) ++ y9_0) ++ (bl [10]))))])) (live := [7]) (tv := fun _ => [some (ms E_iiii L0), some (vs 7 0 ((((2 + y3_0.length) + 1) + y9_0.length) + 1) ((((2 + y3_0.length) + 1) + y9_0.length) + 1)), some (vi (((v1 + 1) : Nat) : Int))]) (bl := [some (.cells (Zl (Zn .u8) (((((bl [58, 76]) ++ y3_0) ++ (bl [10])) ++ y9_0) ++ (bl [10]))) 5)]) (ob := [((IntKind.i64.wrap ((v1 : Int) + (1 : Int))) == (((v1 + 1) : Nat) : Int), true), (dP ((1 = 1 ∧ ZD (1 * 1) (List.drop 0 [Value.int .u8 (10 : Int)]) = some [Value.int .u8 (10 : Int)] ∧ Z4 Zau [Value.int .u8 (10 : Int)] = true) ∧ 0 < 1 ∧ 1 ≤ 100000 ∧ (((2 + y3_0.length) + 1) + y9_0.length) < (((2 + y3_0.length) + 1) + y9_0.length) + 1 ∧ (((2 + y3_0.length) + 1) + y9_0.length) ≤ 100000 ∧ (((2 + y3_0.length) + 1) + y9_0.length) * 1 ≤ (List.length (Zl (Zn .u8) ((((bl [58, 76]) ++ y3_0) ++ (bl [10])) ++ y9_0))) ∧ List.take ((((2 + y3_0.length) + 1) + y9_0.length) * 1) (Zl (Zn .u8) ((((bl [58, 76]) ++ y3_0) ++ (bl [10])) ++ y9_0)) ++ [Value.int .u8 (10 : Int)] = (Zl (Zn .u8) (((((bl [58, 76]) ++ y3_0) ++ (bl [10])) ++ y9_0) ++ (bl [10])))), true), (dP ((y9_0.length = ((Za y9_0)).size ∧ (Zl (Zn .u8) y9_0) = ZQ (Za y9_0)) ∧ 0 < y9_0.length ∧ y9_0.length ≤ 100000 ∧ ((2 + y3_0.length) + 1) < ((2 + y3_0.length) + 1) + y9_0.length ∧ ((2 + y3_0.length) + 1) ≤ 100000 ∧ ((2 + y3_0.length) + 1) * 1 ≤ (List.length (Zl (Zn .u8) (((bl [58, 76]) ++ y3_0) ++ (bl [10])))) ∧ List.take (((2 + y3_0.length) + 1) * 1) (Zl (Zn .u8) (((bl [58, 76]) ++ y3_0) ++ (bl [10]))) ++ (Zl (Zn .u8) y9_0) = (Zl (Zn .u8) ((((bl [58, 76]) ++ y3_0) ++ (bl [10])) ++ y9_0))), true), (dP (Zap #[Value.agg #[vi (L0.getD v1 RA.z).a0, vi (L0.getD v1 RA.z).a1, vi (L0.getD v1 RA.z).a2, vi (L0.getD v1 RA.z).a3]] ((L0.getD v1 RA.z).a0) ((L0.getD v1 RA.z).a1) ((L0.getD v1 RA.z).a2) ((L0.getD v1 RA.z).a3)  y9_0 y9_1  5), true), (dP (ZP (code (ZE E_iiii L0)) (0 + (v1 * 4)) 4 = some [.i (L0.getD v1 RA.z).a0, .i (L0.getD v1 RA.z).a1, .i (L0.getD v1 RA.z).a2, .i (L0.getD v1 RA.z).a3]), true), (Nat.blt v1 L0.length, true), ((v1 : Int) == Int.ofNat v1, true), ((decide ((v1 : Int) < (L0.length : Int))), true), (dP ((1 = 1 ∧ ZD (1 * 1) (List.drop 0 [Value.int .u8 (10 : Int)]) = some [Value.int .u8 (10 : Int)] ∧ Z4 Zau [Value.int .u8 (10 : Int)] = true) ∧ 0 < 1 ∧ 1 ≤ 100000 ∧ (2 + y3_0.length) < (2 + y3_0.length) + 1 ∧ (2 + y3_0.length) ≤ 100000 ∧ (2 + y3_0.length) * 1 ≤ (List.length (Zl (Zn .u8) ((bl [58, 76]) ++ y3_0))) ∧ List.take ((2 + y3_0.length) * 1) (Zl (Zn .u8) ((bl [58, 76]) ++ y3_0)) ++ [Value.int .u8 (10 : Int)] = (Zl (Zn .u8) (((bl [58, 76]) ++ y3_0) ++ (bl [10])))), true), (dP ((y3_0.length = ((Za y3_0)).size ∧ (Zl (Zn .u8) y3_0) = ZQ (Za y3_0)) ∧ 0 < y3_0.length ∧ y3_0.length ≤ 100000 ∧ 2 < 2 + y3_0.length ∧ 2 ≤ 100000 ∧ 2 * 1 ≤ (List.length [Value.int .u8 (58 : Int), Value.int .u8 (76 : Int)]) ∧ List.take (2 * 1) [Value.int .u8 (58 : Int), Value.int .u8 (76 : Int)] ++ (Zl (Zn .u8) y3_0) = (Zl (Zn .u8) ((bl [58, 76]) ++ y3_0))), true), (dP (Z2 #[vi (v1 : Int)] ((v1 : Int))  y3_0  2), true), (dP (Zaa #[ms E_iiii L0, vi (v1 : Int)] (L0) ((v1 : Int))  true  0), true), ((decide ((v1 : Int) ≤ (L0.length : Int))), true)]) rfl (show 2 ∈ ZO (ZT 2) from by decide +kernel) (fun gv => by kernel_rfl) (Zb (beq_iff_eq.2 ((wrap_i64 ltA).trans (by first | rfl | omega))) <| Zb (Zg ⟨⟨rfl, ⟨rfl, rfl⟩⟩, by omega, by omega, ltA, by omega, (ZH (E := (Zn .u8)) (L := ((((bl [58, 76]) ++ y3_0) ++ (bl [10])) ++ y9_0)) (M := (bl [10])) (n := (((2 + y3_0.length) + 1) + y9_0.length)) (show _ = _ * 1 from rfl) ltA (R := (((((bl [58, 76]) ++ y3_0) ++ (bl [10])) ++ y9_0) ++ (bl [10]))) (by rw [List.take_of_length_le ltA]))⟩) <| Zb (Zg ⟨(Zbr (x := (Za y9_0)) (M := y9_0) rfl (by assumption) ltA), ltA, ltA, ltA, by omega, (ZH (E := (Zn .u8)) (L := (((bl [58, 76]) ++ y3_0) ++ (bl [10]))) (M := y9_0) (n := ((2 + y3_0.length) + 1)) (show _ = _ * 1 from rfl) ltA (R := ((((bl [58, 76]) ++ y3_0) ++ (bl [10])) ++ y9_0)) (by rw [List.take_of_length_le ltA]))⟩) <| Zb (Zg (Zaw #[Value.agg #[vi (L0.getD v1 RA.z).a0, vi (L0.getD v1 RA.z).a1, vi (L0.getD v1 RA.z).a2, vi (L0.getD v1 RA.z).a3]] ((L0.getD v1 RA.z).a0) ((L0.getD v1 RA.z).a1) ((L0.getD v1 RA.z).a2) ((L0.getD v1 RA.z).a3)  y9_0 y9_1 N c9  5 rfl (by decide) (by decide))) <| Zb (Zg (ZF (E := E_iiii) (L := L0) (i := v1) (q := 0) (by omega) (show (0 + (v1 * 4)) = v1 * 4 + 0 from by omega) (show 0 + 4 ≤ 4 from by decide) rfl)) <| oB <| oI <| oY <| Zb (Zg ⟨⟨rfl, ⟨rfl, rfl⟩⟩, by omega, by omega, ltA, by omega, (ZH (E := (Zn .u8)) (L := ((bl [58, 76]) ++ y3_0)) (M := (bl [10])) (n := (2 + y3_0.length)) (show _ = _ * 1 from rfl) ltA (R := (((bl [58, 76]) ++ y3_0) ++ (bl [10]))) (by rw [List.take_of_length_le ltA]))⟩) <| Zb (Zg ⟨(Zbr (x := (Za y3_0)) (M := y3_0) rfl (by assumption) ltA), ltA, ltA, ltA, by omega, (ZH (E := (Zn .u8)) (L := (bl [58, 76])) (M := y3_0) (n := 2) (show _ = _ * 1 from rfl) ltA (R := ((bl [58, 76]) ++ y3_0)) (by rw [List.take_of_length_le ltA]))⟩) <| Zb (Zg (Z5 #[vi (v1 : Int)] ((v1 : Int))  y3_0 N c3  2 rfl (by decide) (by decide))) <| Zb (Zg (Zah #[ms E_iiii L0, vi (v1 : Int)] (L0) ((v1 : Int))  true N c1  0 rfl (by decide) (by decide))) <| oY Ze) rfl (by decide) (by rfl) (fun _ => ⟨rr, ⟨⟨Eq.trans (show (vs 0 0 (((((bl [58, 76]) ++ y3_0) ++ (bl [10])) ++ y9_0) ++ (bl [10])).length (((((bl [58, 76]) ++ y3_0) ++ (bl [10])) ++ y9_0) ++ (bl [10])).length : Value) = vs 0 0 ((((2 + y3_0.length) + 1) + y9_0.length) + 1) ((((2 + y3_0.length) + 1) + y9_0.length) + 1) from (Zay rfl eqA eqA)) (by rfl), by rfl⟩, ⟨rr, trivial⟩⟩⟩) ⟨(ZR (E := (Zn .u8)) (α := Int) _ (((((bl [58, 76]) ++ y3_0) ++ (bl [10])) ++ y9_0) ++ (bl [10])) _), trivial⟩
      ·
       refine Mach.ok_ite (fun g9 => ?_) (fun _ => Mach.ok_none)
       exact Mach.ok_next (M := Z6 L0 N) (cd := 1000000) (cm := 0) (y := (.h2m1 ((((bl [58, 76]) ++ y3_0) ++ (bl [10]))) ((v1 + 1)) : Zv)) (fu := 4000) (orc := (Zk [(0, true), (1, false)] [(0, (((v1 + 1) : Nat) : Int))] [] [] [(0, (Zag (L0) ((v1 : Int))  true  0)), (2, (Z3 ((v1 : Int))  y3_0  2)), (3, .ap y3_0.length (Zl (Zn .u8) y3_0) (Zl (Zn .u8) ((bl [58, 76]) ++ y3_0))), (4, .ap 1 [Value.int .u8 (10 : Int)] (Zl (Zn .u8) (((bl [58, 76]) ++ y3_0) ++ (bl [10]))))])) (live := [4]) (tv := fun _ => [some (ms E_iiii L0), some (vs 4 0 ((2 + y3_0.length) + 1) ((2 + y3_0.length) + 1)), some (vi (((v1 + 1) : Nat) : Int))]) (bl := [some (.cells (Zl (Zn .u8) (((bl [58, 76]) ++ y3_0) ++ (bl [10]))) 5)]) (ob := [((IntKind.i64.wrap ((v1 : Int) + (1 : Int))) == (((v1 + 1) : Nat) : Int), true), ((decide ((v1 : Int) < (L0.length : Int))), false), (dP ((1 = 1 ∧ ZD (1 * 1) (List.drop 0 [Value.int .u8 (10 : Int)]) = some [Value.int .u8 (10 : Int)] ∧ Z4 Zau [Value.int .u8 (10 : Int)] = true) ∧ 0 < 1 ∧ 1 ≤ 100000 ∧ (2 + y3_0.length) < (2 + y3_0.length) + 1 ∧ (2 + y3_0.length) ≤ 100000 ∧ (2 + y3_0.length) * 1 ≤ (List.length (Zl (Zn .u8) ((bl [58, 76]) ++ y3_0))) ∧ List.take ((2 + y3_0.length) * 1) (Zl (Zn .u8) ((bl [58, 76]) ++ y3_0)) ++ [Value.int .u8 (10 : Int)] = (Zl (Zn .u8) (((bl [58, 76]) ++ y3_0) ++ (bl [10])))), true), (dP ((y3_0.length = ((Za y3_0)).size ∧ (Zl (Zn .u8) y3_0) = ZQ (Za y3_0)) ∧ 0 < y3_0.length ∧ y3_0.length ≤ 100000 ∧ 2 < 2 + y3_0.length ∧ 2 ≤ 100000 ∧ 2 * 1 ≤ (List.length [Value.int .u8 (58 : Int), Value.int .u8 (76 : Int)]) ∧ List.take (2 * 1) [Value.int .u8 (58 : Int), Value.int .u8 (76 : Int)] ++ (Zl (Zn .u8) y3_0) = (Zl (Zn .u8) ((bl [58, 76]) ++ y3_0))), true), (dP (Z2 #[vi (v1 : Int)] ((v1 : Int))  y3_0  2), true), (dP (Zaa #[ms E_iiii L0, vi (v1 : Int)] (L0) ((v1 : Int))  true  0), true), ((decide ((v1 : Int) ≤ (L0.length : Int))), true)]) rfl (show 2 ∈ ZO (ZT 2) from by decide +kernel) (fun gv => by kernel_rfl) (Zb (beq_iff_eq.2 ((wrap_i64 ltA).trans (by first | rfl | omega))) <| oN <| Zb (Zg ⟨⟨rfl, ⟨rfl, rfl⟩⟩, by omega, by omega, ltA, by omega, (ZH (E := (Zn .u8)) (L := ((bl [58, 76]) ++ y3_0)) (M := (bl [10])) (n := (2 + y3_0.length)) (show _ = _ * 1 from rfl) ltA (R := (((bl [58, 76]) ++ y3_0) ++ (bl [10]))) (by rw [List.take_of_length_le ltA]))⟩) <| Zb (Zg ⟨(Zbr (x := (Za y3_0)) (M := y3_0) rfl (by assumption) ltA), ltA, ltA, ltA, by omega, (ZH (E := (Zn .u8)) (L := (bl [58, 76])) (M := y3_0) (n := 2) (show _ = _ * 1 from rfl) ltA (R := ((bl [58, 76]) ++ y3_0)) (by rw [List.take_of_length_le ltA]))⟩) <| Zb (Zg (Z5 #[vi (v1 : Int)] ((v1 : Int))  y3_0 N c3  2 rfl (by decide) (by decide))) <| Zb (Zg (Zah #[ms E_iiii L0, vi (v1 : Int)] (L0) ((v1 : Int))  true N c1  0 rfl (by decide) (by decide))) <| oY Ze) rfl (by decide) (by rfl) (fun _ => ⟨rr, ⟨⟨Eq.trans (show (vs 0 0 (((bl [58, 76]) ++ y3_0) ++ (bl [10])).length (((bl [58, 76]) ++ y3_0) ++ (bl [10])).length : Value) = vs 0 0 ((2 + y3_0.length) + 1) ((2 + y3_0.length) + 1) from (Zay rfl eqA eqA)) (by rfl), by rfl⟩, ⟨rr, trivial⟩⟩⟩) ⟨(ZR (E := (Zn .u8)) (α := Int) _ (((bl [58, 76]) ++ y3_0) ++ (bl [10])) _), trivial⟩
   ·
    obtain rfl : y1_0 = false := by simpa using g2
    refine Mach.ok_ite (fun g3 => ?_) (fun g3 => ?_)
    ·
     refine Mach.ok_bind (fun z4 c4 => ?_)
     cases z4 with
     | r0 y4_0 y4_1 =>
      refine Mach.ok_ite (fun g5 => ?_) (fun g5 => ?_)
      ·
       refine Mach.ok_ite (fun g6 => ?_) (fun _ => Mach.ok_none)
       exact Mach.ok_next (M := Z6 L0 N) (cd := 1000000) (cm := 0) (y := (.h2m1 ((bl [10])) ((v1 + 1)) : Zv)) (fu := 4000) (orc := (Zk [(0, true), (1, true)] [(0, (((v1 + 1) : Nat) : Int))] [(0, v1)] [(0, [.i (L0.getD v1 RA.z).a0, .i (L0.getD v1 RA.z).a1, .i (L0.getD v1 RA.z).a2, .i (L0.getD v1 RA.z).a3])] [(0, (Zag (L0) ((v1 : Int))  false  0)), (1, (Zav ((L0.getD v1 RA.z).a0) ((L0.getD v1 RA.z).a1) ((L0.getD v1 RA.z).a2) ((L0.getD v1 RA.z).a3)  y4_0 y4_1  0)), (2, .ap0)])) (live := [1]) (tv := fun _ => [some (ms E_iiii L0), some (vs 1 0 1 1), some (vi (((v1 + 1) : Nat) : Int))]) (bl := [some (.cells [Value.int .u8 (10 : Int)] 5)]) (ob := [((IntKind.i64.wrap ((v1 : Int) + (1 : Int))) == (((v1 + 1) : Nat) : Int), true), (dP (0 = ((Za y4_0)).size ∧ ([] : List Value) = ZQ (Za y4_0)), true), (dP (Zap #[Value.agg #[vi (L0.getD v1 RA.z).a0, vi (L0.getD v1 RA.z).a1, vi (L0.getD v1 RA.z).a2, vi (L0.getD v1 RA.z).a3]] ((L0.getD v1 RA.z).a0) ((L0.getD v1 RA.z).a1) ((L0.getD v1 RA.z).a2) ((L0.getD v1 RA.z).a3)  y4_0 y4_1  0), true), (dP (ZP (code (ZE E_iiii L0)) (0 + (v1 * 4)) 4 = some [.i (L0.getD v1 RA.z).a0, .i (L0.getD v1 RA.z).a1, .i (L0.getD v1 RA.z).a2, .i (L0.getD v1 RA.z).a3]), true), (Nat.blt v1 L0.length, true), ((v1 : Int) == Int.ofNat v1, true), ((decide ((v1 : Int) < (L0.length : Int))), true), (dP (Zaa #[ms E_iiii L0, vi (v1 : Int)] (L0) ((v1 : Int))  false  0), true), ((decide ((v1 : Int) ≤ (L0.length : Int))), true)]) rfl (show 2 ∈ ZO (ZT 2) from by decide +kernel) (fun gv => by kernel_rfl) (Zb (beq_iff_eq.2 ((wrap_i64 ltA).trans (by first | rfl | omega))) <| Zb (Zg (Zco (x := (Za y4_0)) (M := y4_0) rfl (by omega))) <| Zb (Zg (Zaw #[Value.agg #[vi (L0.getD v1 RA.z).a0, vi (L0.getD v1 RA.z).a1, vi (L0.getD v1 RA.z).a2, vi (L0.getD v1 RA.z).a3]] ((L0.getD v1 RA.z).a0) ((L0.getD v1 RA.z).a1) ((L0.getD v1 RA.z).a2) ((L0.getD v1 RA.z).a3)  y4_0 y4_1 N c4  0 rfl (by decide) (by decide))) <| Zb (Zg (ZF (E := E_iiii) (L := L0) (i := v1) (q := 0) (by omega) (show (0 + (v1 * 4)) = v1 * 4 + 0 from by omega) (show 0 + 4 ≤ 4 from by decide) rfl)) <| oB <| oI <| oY <| Zb (Zg (Zah #[ms E_iiii L0, vi (v1 : Int)] (L0) ((v1 : Int))  false N c1  0 rfl (by decide) (by decide))) <| oY Ze) rfl (by decide) (by rfl) (fun _ => ⟨rr, ⟨⟨Eq.trans (show (vs 0 0 (bl [10]).length (bl [10]).length : Value) = vs 0 0 1 1 from (Zay rfl eqA eqA)) (by rfl), by rfl⟩, ⟨rr, trivial⟩⟩⟩) ⟨(ZfP (E := (Zn .u8)) _ (L := (bl [10])) _ (show ([Value.int .u8 (10 : Int)] : List Value) = Zl (Zn .u8) (bl [10]) from rfl)), trivial⟩
      ·
       refine Mach.ok_ite (fun g6 => ?_) (fun _ => Mach.ok_none)
       refine Mach.ok_ite (fun g7 => ?_) (fun _ => Mach.ok_none)
       refine Mach.ok_ite (fun g8 => ?_) (fun _ => Mach.ok_none)
       exact Mach.ok_next (M := Z6 L0 N) (cd := 1000000) (cm := 0) (y := (.h2m1 ((y4_0 ++ (bl [10]))) ((v1 + 1)) : Zv)) (fu := 4000) (orc := (Zk [(0, true), (1, true)] [(0, (((v1 + 1) : Nat) : Int))] [(0, v1)] [(0, [.i (L0.getD v1 RA.z).a0, .i (L0.getD v1 RA.z).a1, .i (L0.getD v1 RA.z).a2, .i (L0.getD v1 RA.z).a3])] [(0, (Zag (L0) ((v1 : Int))  false  0)), (1, (Zav ((L0.getD v1 RA.z).a0) ((L0.getD v1 RA.z).a1) ((L0.getD v1 RA.z).a2) ((L0.getD v1 RA.z).a3)  y4_0 y4_1  0)), (2, .ap y4_0.length (Zl (Zn .u8) y4_0) (Zl (Zn .u8) y4_0)), (3, .ap 1 [Value.int .u8 (10 : Int)] (Zl (Zn .u8) (y4_0 ++ (bl [10]))))])) (live := [2]) (tv := fun _ => [some (ms E_iiii L0), some (vs 2 0 (y4_0.length + 1) (y4_0.length + 1)), some (vi (((v1 + 1) : Nat) : Int))]) (bl := [some (.cells (Zl (Zn .u8) (y4_0 ++ (bl [10]))) 5)]) (ob := [((IntKind.i64.wrap ((v1 : Int) + (1 : Int))) == (((v1 + 1) : Nat) : Int), true), (dP ((1 = 1 ∧ ZD (1 * 1) (List.drop 0 [Value.int .u8 (10 : Int)]) = some [Value.int .u8 (10 : Int)] ∧ Z4 Zau [Value.int .u8 (10 : Int)] = true) ∧ 0 < 1 ∧ 1 ≤ 100000 ∧ y4_0.length < y4_0.length + 1 ∧ y4_0.length ≤ 100000 ∧ y4_0.length * 1 ≤ (List.length (Zl (Zn .u8) y4_0)) ∧ List.take (y4_0.length * 1) (Zl (Zn .u8) y4_0) ++ [Value.int .u8 (10 : Int)] = (Zl (Zn .u8) (y4_0 ++ (bl [10])))), true), (dP ((y4_0.length = ((Za y4_0)).size ∧ (Zl (Zn .u8) y4_0) = ZQ (Za y4_0)) ∧ 0 < y4_0.length ∧ y4_0.length ≤ 100000 ∧ (Zl (Zn .u8) y4_0) = (Zl (Zn .u8) y4_0)), true), (dP (Zap #[Value.agg #[vi (L0.getD v1 RA.z).a0, vi (L0.getD v1 RA.z).a1, vi (L0.getD v1 RA.z).a2, vi (L0.getD v1 RA.z).a3]] ((L0.getD v1 RA.z).a0) ((L0.getD v1 RA.z).a1) ((L0.getD v1 RA.z).a2) ((L0.getD v1 RA.z).a3)  y4_0 y4_1  0), true), (dP (ZP (code (ZE E_iiii L0)) (0 + (v1 * 4)) 4 = some [.i (L0.getD v1 RA.z).a0, .i (L0.getD v1 RA.z).a1, .i (L0.getD v1 RA.z).a2, .i (L0.getD v1 RA.z).a3]), true), (Nat.blt v1 L0.length, true), ((v1 : Int) == Int.ofNat v1, true), ((decide ((v1 : Int) < (L0.length : Int))), true), (dP (Zaa #[ms E_iiii L0, vi (v1 : Int)] (L0) ((v1 : Int))  false  0), true), ((decide ((v1 : Int) ≤ (L0.length : Int))), true)]) rfl (show 2 ∈ ZO (ZT 2) from by decide +kernel) (fun gv => by kernel_rfl) (Zb (beq_iff_eq.2 ((wrap_i64 ltA).trans (by first | rfl | omega))) <| Zb (Zg ⟨⟨rfl, ⟨rfl, rfl⟩⟩, by omega, by omega, ltA, by omega, (ZH (E := (Zn .u8)) (L := y4_0) (M := (bl [10])) (n := y4_0.length) (show _ = _ * 1 from rfl) (by omega) (R := (y4_0 ++ (bl [10]))) (by rw [List.take_of_length_le (by omega)]))⟩) <| Zb (Zg ⟨(Zbr (x := (Za y4_0)) (M := y4_0) rfl (by assumption) ltA), ltA, ltA, rfl⟩) <| Zb (Zg (Zaw #[Value.agg #[vi (L0.getD v1 RA.z).a0, vi (L0.getD v1 RA.z).a1, vi (L0.getD v1 RA.z).a2, vi (L0.getD v1 RA.z).a3]] ((L0.getD v1 RA.z).a0) ((L0.getD v1 RA.z).a1) ((L0.getD v1 RA.z).a2) ((L0.getD v1 RA.z).a3)  y4_0 y4_1 N c4  0 rfl (by decide) (by decide))) <| Zb (Zg (ZF (E := E_iiii) (L := L0) (i := v1) (q := 0) (by omega) (show (0 + (v1 * 4)) = v1 * 4 + 0 from by omega) (show 0 + 4 ≤ 4 from by decide) rfl)) <| oB <| oI <| oY <| Zb (Zg (Zah #[ms E_iiii L0, vi (v1 : Int)] (L0) ((v1 : Int))  false N c1  0 rfl (by decide) (by decide))) <| oY Ze) rfl (by decide) (by rfl) (fun _ => ⟨rr, ⟨⟨Eq.trans (show (vs 0 0 (y4_0 ++ (bl [10])).length (y4_0 ++ (bl [10])).length : Value) = vs 0 0 (y4_0.length + 1) (y4_0.length + 1) from (Zay rfl eqA eqA)) (by rfl), by rfl⟩, ⟨rr, trivial⟩⟩⟩) ⟨(ZR (E := (Zn .u8)) (α := Int) _ (y4_0 ++ (bl [10])) _), trivial⟩
    ·
     refine Mach.ok_ite (fun g4 => ?_) (fun _ => Mach.ok_none)
     exact Mach.ok_next (M := Z6 L0 N) (cd := 1000000) (cm := 0) (y := (.h2m0 ((v1 + 1)) : Zv)) (fu := 4000) (orc := (Zk [(0, true), (1, false)] [(0, (((v1 + 1) : Nat) : Int))] [] [] [(0, (Zag (L0) ((v1 : Int))  false  0))])) (live := []) (tv := fun _ => [some (ms E_iiii L0), some (vn), some (vi (((v1 + 1) : Nat) : Int))]) (bl := []) (ob := [((IntKind.i64.wrap ((v1 : Int) + (1 : Int))) == (((v1 + 1) : Nat) : Int), true), ((decide ((v1 : Int) < (L0.length : Int))), false), (dP (Zaa #[ms E_iiii L0, vi (v1 : Int)] (L0) ((v1 : Int))  false  0), true), ((decide ((v1 : Int) ≤ (L0.length : Int))), true)]) rfl (show 2 ∈ ZO (ZT 2) from by decide +kernel) (fun gv => by kernel_rfl) (Zb (beq_iff_eq.2 ((wrap_i64 ltA).trans (by first | rfl | omega))) <| oN <| Zb (Zg (Zah #[ms E_iiii L0, vi (v1 : Int)] (L0) ((v1 : Int))  false N c1  0 rfl (by decide) (by decide))) <| oY Ze) rfl (by decide) (by rfl) (fun _ => ⟨rr, ⟨rr, ⟨rr, trivial⟩⟩⟩) trivial
 ·
  exact Mach.ok_fin (M := Z6 L0 N) (cd := 1000000) (cm := 0) (r := (.r0 (([] : List Int)) ((0 : Int)) : ZK)) (fu := 4000) (orc := (Zk [(0, false)] [] [] [] [])) (live := []) (u := Value.tuple #[Value.string ⟨#[]⟩, vq]) (bl := []) (ob := [((decide ((v1 : Int) ≤ (L0.length : Int))), false)]) (fun gv => by kernel_rfl) (oN Ze) rfl (by decide) (by rfl) ⟨Eq.trans (show (Value.tuple #[Value.string (Za ([] : List Int)), vq] : Value) = Value.tuple #[Value.string ⟨#[]⟩, vq] from (Z7 (Zt rfl (Zt rfl rfl)))) (by rfl), by rfl⟩ trivial

theorem ZhS (L0 : List RA) (v1 : List Int) (v2 N : Nat) : (Z6 L0 N).Ok Tryz.prog ZX (.h2m1 v1 v2 : Zv) (Zad L0 N (.h2m1 v1 v2 : Zv)) := by
 show (Z6 L0 N).Ok Tryz.prog ZX (.h2m1 v1 v2 : Zv) (Zas L0 N v1 v2)
 unfold Zas
 refine Mach.ok_ite (fun g0 => ?_) (fun g0 => ?_)
 ·
  refine Mach.ok_bind (fun z1 c1 => ?_)
  cases z1 with
  | r0 y1_0 =>
   refine Mach.ok_ite (fun g2 => ?_) (fun g2 => ?_)
   ·
    subst g2
    refine Mach.ok_ite (fun g3 => ?_) (fun _ => Mach.ok_none)
    refine Mach.ok_bind (fun z4 c4 => ?_)
    cases z4 with
    | r0 y4_0 =>
     refine Mach.ok_ite (fun g5 => ?_) (fun g5 => ?_)
     ·
      refine Mach.ok_ite (fun g6 => ?_) (fun _ => Mach.ok_none)
      refine Mach.ok_ite (fun g7 => ?_) (fun g7 => ?_)
      ·
       refine Mach.ok_bind (fun z8 c8 => ?_)
       cases z8 with
       | r0 y8_0 y8_1 =>
        refine Mach.ok_ite (fun g9 => ?_) (fun g9 => ?_)
        ·
         refine Mach.ok_ite (fun g10 => ?_) (fun _ => Mach.ok_none)
         refine Mach.ok_ite (fun g11 => ?_) (fun _ => Mach.ok_none)
         exact Mach.ok_next (M := Z6 L0 N) (cd := 1000000) (cm := 0) (y := (.h2m1 ((((v1 ++ (bl [58, 76])) ++ (bl [10])) ++ (bl [10]))) ((v2 + 1)) : Zv)) (fu := 4000) (orc := (Zk [(0, true), (1, true)] [(0, (((v2 + 1) : Nat) : Int))] [(0, v2)] [(0, [.i (L0.getD v2 RA.z).a0, .i (L0.getD v2 RA.z).a1, .i (L0.getD v2 RA.z).a2, .i (L0.getD v2 RA.z).a3])] [(0, (Zag (L0) ((v2 : Int))  true  1)), (1, .ap 2 [Value.int .u8 (58 : Int), Value.int .u8 (76 : Int)] (Zl (Zn .u8) (v1 ++ (bl [58, 76])))), (2, (Z3 ((v2 : Int))  y4_0  3)), (3, .ap0), (4, .ap 1 [Value.int .u8 (10 : Int)] (Zl (Zn .u8) ((v1 ++ (bl [58, 76])) ++ (bl [10])))), (5, (Zav ((L0.getD v2 RA.z).a0) ((L0.getD v2 RA.z).a1) ((L0.getD v2 RA.z).a2) ((L0.getD v2 RA.z).a3)  y8_0 y8_1  5)), (6, .ap0), (7, .ap 1 [Value.int .u8 (10 : Int)] (Zl (Zn .u8) (((v1 ++ (bl [58, 76])) ++ (bl [10])) ++ (bl [10]))))])) (live := [6]) (tv := fun _ => [some (ms E_iiii L0), some (vs 6 0 (((v1.length + 2) + 1) + 1) (((v1.length + 2) + 1) + 1)), some (vi (((v2 + 1) : Nat) : Int))]) (bl := [some (.cells (Zl (Zn .u8) (((v1 ++ (bl [58, 76])) ++ (bl [10])) ++ (bl [10]))) 5)]) (ob := [((IntKind.i64.wrap ((v2 : Int) + (1 : Int))) == (((v2 + 1) : Nat) : Int), true), (dP ((1 = 1 ∧ ZD (1 * 1) (List.drop 0 [Value.int .u8 (10 : Int)]) = some [Value.int .u8 (10 : Int)] ∧ Z4 Zau [Value.int .u8 (10 : Int)] = true) ∧ 0 < 1 ∧ 1 ≤ 100000 ∧ ((v1.length + 2) + 1) < ((v1.length + 2) + 1) + 1 ∧ ((v1.length + 2) + 1) ≤ 100000 ∧ ((v1.length + 2) + 1) * 1 ≤ (List.length (Zl (Zn .u8) ((v1 ++ (bl [58, 76])) ++ (bl [10])))) ∧ List.take (((v1.length + 2) + 1) * 1) (Zl (Zn .u8) ((v1 ++ (bl [58, 76])) ++ (bl [10]))) ++ [Value.int .u8 (10 : Int)] = (Zl (Zn .u8) (((v1 ++ (bl [58, 76])) ++ (bl [10])) ++ (bl [10])))), true), (dP (0 = ((Za y8_0)).size ∧ ([] : List Value) = ZQ (Za y8_0)), true), (dP (Zap #[Value.agg #[vi (L0.getD v2 RA.z).a0, vi (L0.getD v2 RA.z).a1, vi (L0.getD v2 RA.z).a2, vi (L0.getD v2 RA.z).a3]] ((L0.getD v2 RA.z).a0) ((L0.getD v2 RA.z).a1) ((L0.getD v2 RA.z).a2) ((L0.getD v2 RA.z).a3)  y8_0 y8_1  5), true), (dP (ZP (code (ZE E_iiii L0)) (0 + (v2 * 4)) 4 = some [.i (L0.getD v2 RA.z).a0, .i (L0.getD v2 RA.z).a1, .i (L0.getD v2 RA.z).a2, .i (L0.getD v2 RA.z).a3]), true), (Nat.blt v2 L0.length, true), ((v2 : Int) == Int.ofNat v2, true), ((decide ((v2 : Int) < (L0.length : Int))), true), (dP ((1 = 1 ∧ ZD (1 * 1) (List.drop 0 [Value.int .u8 (10 : Int)]) = some [Value.int .u8 (10 : Int)] ∧ Z4 Zau [Value.int .u8 (10 : Int)] = true) ∧ 0 < 1 ∧ 1 ≤ 100000 ∧ (v1.length + 2) < (v1.length + 2) + 1 ∧ (v1.length + 2) ≤ 100000 ∧ (v1.length + 2) * 1 ≤ (List.length (Zl (Zn .u8) (v1 ++ (bl [58, 76])))) ∧ List.take ((v1.length + 2) * 1) (Zl (Zn .u8) (v1 ++ (bl [58, 76]))) ++ [Value.int .u8 (10 : Int)] = (Zl (Zn .u8) ((v1 ++ (bl [58, 76])) ++ (bl [10])))), true), (dP (0 = ((Za y4_0)).size ∧ ([] : List Value) = ZQ (Za y4_0)), true), (dP (Z2 #[vi (v2 : Int)] ((v2 : Int))  y4_0  3), true), (dP ((2 = 2 ∧ ZD (2 * 1) (List.drop 0 [Value.int .u8 (58 : Int), Value.int .u8 (76 : Int)]) = some [Value.int .u8 (58 : Int), Value.int .u8 (76 : Int)] ∧ Z4 Zau [Value.int .u8 (58 : Int), Value.int .u8 (76 : Int)] = true) ∧ 0 < 2 ∧ 2 ≤ 100000 ∧ v1.length < v1.length + 2 ∧ v1.length ≤ 100000 ∧ v1.length * 1 ≤ (List.length (Zl (Zn .u8) v1)) ∧ List.take (v1.length * 1) (Zl (Zn .u8) v1) ++ [Value.int .u8 (58 : Int), Value.int .u8 (76 : Int)] = (Zl (Zn .u8) (v1 ++ (bl [58, 76])))), true), (dP (Zaa #[ms E_iiii L0, vi (v2 : Int)] (L0) ((v2 : Int))  true  1), true), ((decide ((v2 : Int) ≤ (L0.length : Int))), true)]) rfl (show 2 ∈ ZO (ZT 2) from by decide +kernel) (fun gv => by kernel_rfl) (Zb (beq_iff_eq.2 ((wrap_i64 ltA).trans (by first | rfl | omega))) <| Zb (Zg ⟨⟨rfl, ⟨rfl, rfl⟩⟩, by omega, by omega, ltA, by omega, (ZH (E := (Zn .u8)) (L := ((v1 ++ (bl [58, 76])) ++ (bl [10]))) (M := (bl [10])) (n := ((v1.length + 2) + 1)) (show _ = _ * 1 from rfl) ltA (R := (((v1 ++ (bl [58, 76])) ++ (bl [10])) ++ (bl [10]))) (by rw [List.take_of_length_le ltA]))⟩) <| Zb (Zg (Zco (x := (Za y8_0)) (M := y8_0) rfl (by omega))) <| Zb (Zg (Zaw #[Value.agg #[vi (L0.getD v2 RA.z).a0, vi (L0.getD v2 RA.z).a1, vi (L0.getD v2 RA.z).a2, vi (L0.getD v2 RA.z).a3]] ((L0.getD v2 RA.z).a0) ((L0.getD v2 RA.z).a1) ((L0.getD v2 RA.z).a2) ((L0.getD v2 RA.z).a3)  y8_0 y8_1 N c8  5 rfl (by decide) (by decide))) <| Zb (Zg (ZF (E := E_iiii) (L := L0) (i := v2) (q := 0) (by omega) (show (0 + (v2 * 4)) = v2 * 4 + 0 from by omega) (show 0 + 4 ≤ 4 from by decide) rfl)) <| oB <| oI <| oY <| Zb (Zg ⟨⟨rfl, ⟨rfl, rfl⟩⟩, by omega, by omega, ltA, by omega, (ZH (E := (Zn .u8)) (L := (v1 ++ (bl [58, 76]))) (M := (bl [10])) (n := (v1.length + 2)) (show _ = _ * 1 from rfl) ltA (R := ((v1 ++ (bl [58, 76])) ++ (bl [10]))) (by rw [List.take_of_length_le ltA]))⟩) <| Zb (Zg (Zco (x := (Za y4_0)) (M := y4_0) rfl (by omega))) <| Zb (Zg (Z5 #[vi (v2 : Int)] ((v2 : Int))  y4_0 N c4  3 rfl (by decide) (by decide))) <| Zb (Zg ⟨⟨rfl, ⟨rfl, rfl⟩⟩, by omega, by omega, ltA, by omega, (ZH (E := (Zn .u8)) (L := v1) (M := (bl [58, 76])) (n := v1.length) (show _ = _ * 1 from rfl) (by omega) (R := (v1 ++ (bl [58, 76]))) (by rw [List.take_of_length_le (by omega)]))⟩) <| Zb (Zg (Zah #[ms E_iiii L0, vi (v2 : Int)] (L0) ((v2 : Int))  true N c1  1 rfl (by decide) (by decide))) <| oY Ze) rfl (by decide) (by rfl) (fun _ => ⟨rr, ⟨⟨Eq.trans (show (vs 0 0 (((v1 ++ (bl [58, 76])) ++ (bl [10])) ++ (bl [10])).length (((v1 ++ (bl [58, 76])) ++ (bl [10])) ++ (bl [10])).length : Value) = vs 0 0 (((v1.length + 2) + 1) + 1) (((v1.length + 2) + 1) + 1) from (Zay rfl eqA eqA)) (by rfl), by rfl⟩, ⟨rr, trivial⟩⟩⟩) ⟨(ZR (E := (Zn .u8)) (α := Int) _ (((v1 ++ (bl [58, 76])) ++ (bl [10])) ++ (bl [10])) _), trivial⟩
        ·
         refine Mach.ok_ite (fun g10 => ?_) (fun _ => Mach.ok_none)
         refine Mach.ok_ite (fun g11 => ?_) (fun _ => Mach.ok_none)
         refine Mach.ok_ite (fun g12 => ?_) (fun _ => Mach.ok_none)
         refine Mach.ok_ite (fun g13 => ?_) (fun _ => Mach.ok_none)
         refine Mach.ok_ite (fun g14 => ?_) (fun _ => Mach.ok_none)
         exact Mach.ok_next (M := Z6 L0 N) (cd := 1000000) (cm := 0) (y := (.h2m1 (((((v1 ++ (bl [58, 76])) ++ (bl [10])) ++ y8_0) ++ (bl [10]))) ((v2 + 1)) : Zv)) (fu := 4000) (orc := (Zk [(0, true), (1, true)] [(0, (((v2 + 1) : Nat) : Int))] [(0, v2)] [(0, [.i (L0.getD v2 RA.z).a0, .i (L0.getD v2 RA.z).a1, .i (L0.getD v2 RA.z).a2, .i (L0.getD v2 RA.z).a3])] [(0, (Zag (L0) ((v2 : Int))  true  1)), (1, .ap 2 [Value.int .u8 (58 : Int), Value.int .u8 (76 : Int)] (Zl (Zn .u8) (v1 ++ (bl [58, 76])))), (2, (Z3 ((v2 : Int))  y4_0  3)), (3, .ap0), (4, .ap 1 [Value.int .u8 (10 : Int)] (Zl (Zn .u8) ((v1 ++ (bl [58, 76])) ++ (bl [10])))), (5, (Zav ((L0.getD v2 RA.z).a0) ((L0.getD v2 RA.z).a1) ((L0.getD v2 RA.z).a2) ((L0.getD v2 RA.z).a3)  y8_0 y8_1  5)), (6, .ap y8_0.length (Zl (Zn .u8) y8_0) (Zl (Zn .u8) (((v1 ++ (bl [58, 76])) ++ (bl [10])) ++ y8_0))), (7, .ap 1 [Value.int .u8 (10 : Int)] (Zl (Zn .u8) ((((v1 ++ (bl [58, 76])) ++ (bl [10])) ++ y8_0) ++ (bl [10]))))])) (live := [7]) (tv := fun _ => [some (ms E_iiii L0), some (vs 7 0 ((((v1.length + 2) + 1) + y8_0.length) + 1) ((((v1.length + 2) + 1) + y8_0.length) + 1)), some (vi (((v2 + 1) : Nat) : Int))]) (bl := [some (.cells (Zl (Zn .u8) ((((v1 ++ (bl [58, 76])) ++ (bl [10])) ++ y8_0) ++ (bl [10]))) 5)]) (ob := [((IntKind.i64.wrap ((v2 : Int) + (1 : Int))) == (((v2 + 1) : Nat) : Int), true), (dP ((1 = 1 ∧ ZD (1 * 1) (List.drop 0 [Value.int .u8 (10 : Int)]) = some [Value.int .u8 (10 : Int)] ∧ Z4 Zau [Value.int .u8 (10 : Int)] = true) ∧ 0 < 1 ∧ 1 ≤ 100000 ∧ (((v1.length + 2) + 1) + y8_0.length) < (((v1.length + 2) + 1) + y8_0.length) + 1 ∧ (((v1.length + 2) + 1) + y8_0.length) ≤ 100000 ∧ (((v1.length + 2) + 1) + y8_0.length) * 1 ≤ (List.length (Zl (Zn .u8) (((v1 ++ (bl [58, 76])) ++ (bl [10])) ++ y8_0))) ∧ List.take ((((v1.length + 2) + 1) + y8_0.length) * 1) (Zl (Zn .u8) (((v1 ++ (bl [58, 76])) ++ (bl [10])) ++ y8_0)) ++ [Value.int .u8 (10 : Int)] = (Zl (Zn .u8) ((((v1 ++ (bl [58, 76])) ++ (bl [10])) ++ y8_0) ++ (bl [10])))), true), (dP ((y8_0.length = ((Za y8_0)).size ∧ (Zl (Zn .u8) y8_0) = ZQ (Za y8_0)) ∧ 0 < y8_0.length ∧ y8_0.length ≤ 100000 ∧ ((v1.length + 2) + 1) < ((v1.length + 2) + 1) + y8_0.length ∧ ((v1.length + 2) + 1) ≤ 100000 ∧ ((v1.length + 2) + 1) * 1 ≤ (List.length (Zl (Zn .u8) ((v1 ++ (bl [58, 76])) ++ (bl [10])))) ∧ List.take (((v1.length + 2) + 1) * 1) (Zl (Zn .u8) ((v1 ++ (bl [58, 76])) ++ (bl [10]))) ++ (Zl (Zn .u8) y8_0) = (Zl (Zn .u8) (((v1 ++ (bl [58, 76])) ++ (bl [10])) ++ y8_0))), true), (dP (Zap #[Value.agg #[vi (L0.getD v2 RA.z).a0, vi (L0.getD v2 RA.z).a1, vi (L0.getD v2 RA.z).a2, vi (L0.getD v2 RA.z).a3]] ((L0.getD v2 RA.z).a0) ((L0.getD v2 RA.z).a1) ((L0.getD v2 RA.z).a2) ((L0.getD v2 RA.z).a3)  y8_0 y8_1  5), true), (dP (ZP (code (ZE E_iiii L0)) (0 + (v2 * 4)) 4 = some [.i (L0.getD v2 RA.z).a0, .i (L0.getD v2 RA.z).a1, .i (L0.getD v2 RA.z).a2, .i (L0.getD v2 RA.z).a3]), true), (Nat.blt v2 L0.length, true), ((v2 : Int) == Int.ofNat v2, true), ((decide ((v2 : Int) < (L0.length : Int))), true), (dP ((1 = 1 ∧ ZD (1 * 1) (List.drop 0 [Value.int .u8 (10 : Int)]) = some [Value.int .u8 (10 : Int)] ∧ Z4 Zau [Value.int .u8 (10 : Int)] = true) ∧ 0 < 1 ∧ 1 ≤ 100000 ∧ (v1.length + 2) < (v1.length + 2) + 1 ∧ (v1.length + 2) ≤ 100000 ∧ (v1.length + 2) * 1 ≤ (List.length (Zl (Zn .u8) (v1 ++ (bl [58, 76])))) ∧ List.take ((v1.length + 2) * 1) (Zl (Zn .u8) (v1 ++ (bl [58, 76]))) ++ [Value.int .u8 (10 : Int)] = (Zl (Zn .u8) ((v1 ++ (bl [58, 76])) ++ (bl [10])))), true), (dP (0 = ((Za y4_0)).size ∧ ([] : List Value) = ZQ (Za y4_0)), true), (dP (Z2 #[vi (v2 : Int)] ((v2 : Int))  y4_0  3), true), (dP ((2 = 2 ∧ ZD (2 * 1) (List.drop 0 [Value.int .u8 (58 : Int), Value.int .u8 (76 : Int)]) = some [Value.int .u8 (58 : Int), Value.int .u8 (76 : Int)] ∧ Z4 Zau [Value.int .u8 (58 : Int), Value.int .u8 (76 : Int)] = true) ∧ 0 < 2 ∧ 2 ≤ 100000 ∧ v1.length < v1.length + 2 ∧ v1.length ≤ 100000 ∧ v1.length * 1 ≤ (List.length (Zl (Zn .u8) v1)) ∧ List.take (v1.length * 1) (Zl (Zn .u8) v1) ++ [Value.int .u8 (58 : Int), Value.int .u8 (76 : Int)] = (Zl (Zn .u8) (v1 ++ (bl [58, 76])))), true), (dP (Zaa #[ms E_iiii L0, vi (v2 : Int)] (L0) ((v2 : Int))  true  1), true), ((decide ((v2 : Int) ≤ (L0.length : Int))), true)]) rfl (show 2 ∈ ZO (ZT 2) from by decide +kernel) (fun gv => by kernel_rfl) (Zb (beq_iff_eq.2 ((wrap_i64 ltA).trans (by first | rfl | omega))) <| Zb (Zg ⟨⟨rfl, ⟨rfl, rfl⟩⟩, by omega, by omega, ltA, by omega, (ZH (E := (Zn .u8)) (L := (((v1 ++ (bl [58, 76])) ++ (bl [10])) ++ y8_0)) (M := (bl [10])) (n := (((v1.length + 2) + 1) + y8_0.length)) (show _ = _ * 1 from rfl) ltA (R := ((((v1 ++ (bl [58, 76])) ++ (bl [10])) ++ y8_0) ++ (bl [10]))) (by rw [List.take_of_length_le ltA]))⟩) <| Zb (Zg ⟨(Zbr (x := (Za y8_0)) (M := y8_0) rfl (by assumption) ltA), ltA, ltA, ltA, by omega, (ZH (E := (Zn .u8)) (L := ((v1 ++ (bl [58, 76])) ++ (bl [10]))) (M := y8_0) (n := ((v1.length + 2) + 1)) (show _ = _ * 1 from rfl) ltA (R := (((v1 ++ (bl [58, 76])) ++ (bl [10])) ++ y8_0)) (by rw [List.take_of_length_le ltA]))⟩) <| Zb (Zg (Zaw #[Value.agg #[vi (L0.getD v2 RA.z).a0, vi (L0.getD v2 RA.z).a1, vi (L0.getD v2 RA.z).a2, vi (L0.getD v2 RA.z).a3]] ((L0.getD v2 RA.z).a0) ((L0.getD v2 RA.z).a1) ((L0.getD v2 RA.z).a2) ((L0.getD v2 RA.z).a3)  y8_0 y8_1 N c8  5 rfl (by decide) (by decide))) <| Zb (Zg (ZF (E := E_iiii) (L := L0) (i := v2) (q := 0) (by omega) (show (0 + (v2 * 4)) = v2 * 4 + 0 from by omega) (show 0 + 4 ≤ 4 from by decide) rfl)) <| oB <| oI <| oY <| Zb (Zg ⟨⟨rfl, ⟨rfl, rfl⟩⟩, by omega, by omega, ltA, by omega, (ZH (E := (Zn .u8)) (L := (v1 ++ (bl [58, 76]))) (M := (bl [10])) (n := (v1.length + 2)) (show _ = _ * 1 from rfl) ltA (R := ((v1 ++ (bl [58, 76])) ++ (bl [10]))) (by rw [List.take_of_length_le ltA]))⟩) <| Zb (Zg (Zco (x := (Za y4_0)) (M := y4_0) rfl (by omega))) <| Zb (Zg (Z5 #[vi (v2 : Int)] ((v2 : Int))  y4_0 N c4  3 rfl (by decide) (by decide))) <| Zb (Zg ⟨⟨rfl, ⟨rfl, rfl⟩⟩, by omega, by omega, ltA, by omega, (ZH (E := (Zn .u8)) (L := v1) (M := (bl [58, 76])) (n := v1.length) (show _ = _ * 1 from rfl) (by omega) (R := (v1 ++ (bl [58, 76]))) (by rw [List.take_of_length_le (by omega)]))⟩) <| Zb (Zg (Zah #[ms E_iiii L0, vi (v2 : Int)] (L0) ((v2 : Int))  true N c1  1 rfl (by decide) (by decide))) <| oY Ze) rfl (by decide) (by rfl) (fun _ => ⟨rr, ⟨⟨Eq.trans (show (vs 0 0 ((((v1 ++ (bl [58, 76])) ++ (bl [10])) ++ y8_0) ++ (bl [10])).length ((((v1 ++ (bl [58, 76])) ++ (bl [10])) ++ y8_0) ++ (bl [10])).length : Value) = vs 0 0 ((((v1.length + 2) + 1) + y8_0.length) + 1) ((((v1.length + 2) + 1) + y8_0.length) + 1) from (Zay rfl eqA eqA)) (by rfl), by rfl⟩, ⟨rr, trivial⟩⟩⟩) ⟨(ZR (E := (Zn .u8)) (α := Int) _ ((((v1 ++ (bl [58, 76])) ++ (bl [10])) ++ y8_0) ++ (bl [10])) _), trivial⟩
      ·
       refine Mach.ok_ite (fun g8 => ?_) (fun _ => Mach.ok_none)
       exact Mach.ok_next (M := Z6 L0 N) (cd := 1000000) (cm := 0) (y := (.h2m1 (((v1 ++ (bl [58, 76])) ++ (bl [10]))) ((v2 + 1)) : Zv)) (fu := 4000) (orc := (Zk [(0, true), (1, false)] [(0, (((v2 + 1) : Nat) : Int))] [] [] [(0, (Zag (L0) ((v2 : Int))  true  1)), (1, .ap 2 [Value.int .u8 (58 : Int), Value.int .u8 (76 : Int)] (Zl (Zn .u8) (v1 ++ (bl [58, 76])))), (2, (Z3 ((v2 : Int))  y4_0  3)), (3, .ap0), (4, .ap 1 [Value.int .u8 (10 : Int)] (Zl (Zn .u8) ((v1 ++ (bl [58, 76])) ++ (bl [10]))))])) (live := [4]) (tv := fun _ => [some (ms E_iiii L0), some (vs 4 0 ((v1.length + 2) + 1) ((v1.length + 2) + 1)), some (vi (((v2 + 1) : Nat) : Int))]) (bl := [some (.cells (Zl (Zn .u8) ((v1 ++ (bl [58, 76])) ++ (bl [10]))) 5)]) (ob := [((IntKind.i64.wrap ((v2 : Int) + (1 : Int))) == (((v2 + 1) : Nat) : Int), true), ((decide ((v2 : Int) < (L0.length : Int))), false), (dP ((1 = 1 ∧ ZD (1 * 1) (List.drop 0 [Value.int .u8 (10 : Int)]) = some [Value.int .u8 (10 : Int)] ∧ Z4 Zau [Value.int .u8 (10 : Int)] = true) ∧ 0 < 1 ∧ 1 ≤ 100000 ∧ (v1.length + 2) < (v1.length + 2) + 1 ∧ (v1.length + 2) ≤ 100000 ∧ (v1.length + 2) * 1 ≤ (List.length (Zl (Zn .u8) (v1 ++ (bl [58, 76])))) ∧ List.take ((v1.length + 2) * 1) (Zl (Zn .u8) (v1 ++ (bl [58, 76]))) ++ [Value.int .u8 (10 : Int)] = (Zl (Zn .u8) ((v1 ++ (bl [58, 76])) ++ (bl [10])))), true), (dP (0 = ((Za y4_0)).size ∧ ([] : List Value) = ZQ (Za y4_0)), true), (dP (Z2 #[vi (v2 : Int)] ((v2 : Int))  y4_0  3), true), (dP ((2 = 2 ∧ ZD (2 * 1) (List.drop 0 [Value.int .u8 (58 : Int), Value.int .u8 (76 : Int)]) = some [Value.int .u8 (58 : Int), Value.int .u8 (76 : Int)] ∧ Z4 Zau [Value.int .u8 (58 : Int), Value.int .u8 (76 : Int)] = true) ∧ 0 < 2 ∧ 2 ≤ 100000 ∧ v1.length < v1.length + 2 ∧ v1.length ≤ 100000 ∧ v1.length * 1 ≤ (List.length (Zl (Zn .u8) v1)) ∧ List.take (v1.length * 1) (Zl (Zn .u8) v1) ++ [Value.int .u8 (58 : Int), Value.int .u8 (76 : Int)] = (Zl (Zn .u8) (v1 ++ (bl [58, 76])))), true), (dP (Zaa #[ms E_iiii L0, vi (v2 : Int)] (L0) ((v2 : Int))  true  1), true), ((decide ((v2 : Int) ≤ (L0.length : Int))), true)]) rfl (show 2 ∈ ZO (ZT 2) from by decide +kernel) (fun gv => by kernel_rfl) (Zb (beq_iff_eq.2 ((wrap_i64 ltA).trans (by first | rfl | omega))) <| oN <| Zb (Zg ⟨⟨rfl, ⟨rfl, rfl⟩⟩, by omega, by omega, ltA, by omega, (ZH (E := (Zn .u8)) (L := (v1 ++ (bl [58, 76]))) (M := (bl [10])) (n := (v1.length + 2)) (show _ = _ * 1 from rfl) ltA (R := ((v1 ++ (bl [58, 76])) ++ (bl [10]))) (by rw [List.take_of_length_le ltA]))⟩) <| Zb (Zg (Zco (x := (Za y4_0)) (M := y4_0) rfl (by omega))) <| Zb (Zg (Z5 #[vi (v2 : Int)] ((v2 : Int))  y4_0 N c4  3 rfl (by decide) (by decide))) <| Zb (Zg ⟨⟨rfl, ⟨rfl, rfl⟩⟩, by omega, by omega, ltA, by omega, (ZH (E := (Zn .u8)) (L := v1) (M := (bl [58, 76])) (n := v1.length) (show _ = _ * 1 from rfl) (by omega) (R := (v1 ++ (bl [58, 76]))) (by rw [List.take_of_length_le (by omega)]))⟩) <| Zb (Zg (Zah #[ms E_iiii L0, vi (v2 : Int)] (L0) ((v2 : Int))  true N c1  1 rfl (by decide) (by decide))) <| oY Ze) rfl (by decide) (by rfl) (fun _ => ⟨rr, ⟨⟨Eq.trans (show (vs 0 0 ((v1 ++ (bl [58, 76])) ++ (bl [10])).length ((v1 ++ (bl [58, 76])) ++ (bl [10])).length : Value) = vs 0 0 ((v1.length + 2) + 1) ((v1.length + 2) + 1) from (Zay rfl eqA eqA)) (by rfl), by rfl⟩, ⟨rr, trivial⟩⟩⟩) ⟨(ZR (E := (Zn .u8)) (α := Int) _ ((v1 ++ (bl [58, 76])) ++ (bl [10])) _), trivial⟩
     ·
      refine Mach.ok_ite (fun g6 => ?_) (fun _ => Mach.ok_none)
      refine Mach.ok_ite (fun g7 => ?_) (fun _ => Mach.ok_none)
      refine Mach.ok_ite (fun g8 => ?_) (fun _ => Mach.ok_none)
      refine Mach.ok_ite (fun g9 => ?_) (fun _ => Mach.ok_none)
      refine Mach.ok_ite (fun g10 => ?_) (fun g10 => ?_)
      ·
       refine Mach.ok_bind (fun z11 c11 => ?_)
       cases z11 with
       | r0 y11_0 y11_1 =>
        refine Mach.ok_ite (fun g12 => ?_) (fun g12 => ?_)
        ·
         refine Mach.ok_ite (fun g13 => ?_) (fun _ => Mach.ok_none)
         refine Mach.ok_ite (fun g14 => ?_) (fun _ => Mach.ok_none)
         exact Mach.ok_next (M := Z6 L0 N) (cd := 1000000) (cm := 0) (y := (.h2m1 (((((v1 ++ (bl [58, 76])) ++ y4_0) ++ (bl [10])) ++ (bl [10]))) ((v2 + 1)) : Zv)) (fu := 4000) (orc := (Zk [(0, true), (1, true)] [(0, (((v2 + 1) : Nat) : Int))] [(0, v2)] [(0, [.i (L0.getD v2 RA.z).a0, .i (L0.getD v2 RA.z).a1, .i (L0.getD v2 RA.z).a2, .i (L0.getD v2 RA.z).a3])] [(0, (Zag (L0) ((v2 : Int))  true  1)), (1, .ap 2 [Value.int .u8 (58 : Int), Value.int .u8 (76 : Int)] (Zl (Zn .u8) (v1 ++ (bl [58, 76])))), (2, (Z3 ((v2 : Int))  y4_0  3)), (3, .ap y4_0.length (Zl (Zn .u8) y4_0) (Zl (Zn .u8) ((v1 ++ (bl [58, 76])) ++ y4_0))), (4, .ap 1 [Value.int .u8 (10 : Int)] (Zl (Zn .u8) (((v1 ++ (bl [58, 76])) ++ y4_0) ++ (bl [10])))), (5, (Zav ((L0.getD v2 RA.z).a0) ((L0.getD v2 RA.z).a1) ((L0.getD v2 RA.z).a2) ((L0.getD v2 RA.z).a3)  y11_0 y11_1  6)), (6, .ap0), (7, .ap 1 [Value.int .u8 (10 : Int)] (Zl (Zn .u8) ((((v1 ++ (bl [58, 76])) ++ y4_0) ++ (bl [10])) ++ (bl [10]))))])) (live := [7]) (tv := fun _ => [some (ms E_iiii L0), some (vs 7 0 ((((v1.length + 2) + y4_0.length) + 1) + 1) ((((v1.length + 2) + y4_0.length) + 1) + 1)), some (vi (((v2 + 1) : Nat) : Int))]) (bl := [some (.cells (Zl (Zn .u8) ((((v1 ++ (bl [58, 76])) ++ y4_0) ++ (bl [10])) ++ (bl [10]))) 5)]) (ob := [((IntKind.i64.wrap ((v2 : Int) + (1 : Int))) == (((v2 + 1) : Nat) : Int), true), (dP ((1 = 1 ∧ ZD (1 * 1) (List.drop 0 [Value.int .u8 (10 : Int)]) = some [Value.int .u8 (10 : Int)] ∧ Z4 Zau [Value.int .u8 (10 : Int)] = true) ∧ 0 < 1 ∧ 1 ≤ 100000 ∧ (((v1.length + 2) + y4_0.length) + 1) < (((v1.length + 2) + y4_0.length) + 1) + 1 ∧ (((v1.length + 2) + y4_0.length) + 1) ≤ 100000 ∧ (((v1.length + 2) + y4_0.length) + 1) * 1 ≤ (List.length (Zl (Zn .u8) (((v1 ++ (bl [58, 76])) ++ y4_0) ++ (bl [10])))) ∧ List.take ((((v1.length + 2) + y4_0.length) + 1) * 1) (Zl (Zn .u8) (((v1 ++ (bl [58, 76])) ++ y4_0) ++ (bl [10]))) ++ [Value.int .u8 (10 : Int)] = (Zl (Zn .u8) ((((v1 ++ (bl [58, 76])) ++ y4_0) ++ (bl [10])) ++ (bl [10])))), true), (dP (0 = ((Za y11_0)).size ∧ ([] : List Value) = ZQ (Za y11_0)), true), (dP (Zap #[Value.agg #[vi (L0.getD v2 RA.z).a0, vi (L0.getD v2 RA.z).a1, vi (L0.getD v2 RA.z).a2, vi (L0.getD v2 RA.z).a3]] ((L0.getD v2 RA.z).a0) ((L0.getD v2 RA.z).a1) ((L0.getD v2 RA.z).a2) ((L0.getD v2 RA.z).a3)  y11_0 y11_1  6), true), (dP (ZP (code (ZE E_iiii L0)) (0 + (v2 * 4)) 4 = some [.i (L0.getD v2 RA.z).a0, .i (L0.getD v2 RA.z).a1, .i (L0.getD v2 RA.z).a2, .i (L0.getD v2 RA.z).a3]), true), (Nat.blt v2 L0.length, true), ((v2 : Int) == Int.ofNat v2, true), ((decide ((v2 : Int) < (L0.length : Int))), true), (dP ((1 = 1 ∧ ZD (1 * 1) (List.drop 0 [Value.int .u8 (10 : Int)]) = some [Value.int .u8 (10 : Int)] ∧ Z4 Zau [Value.int .u8 (10 : Int)] = true) ∧ 0 < 1 ∧ 1 ≤ 100000 ∧ ((v1.length + 2) + y4_0.length) < ((v1.length + 2) + y4_0.length) + 1 ∧ ((v1.length + 2) + y4_0.length) ≤ 100000 ∧ ((v1.length + 2) + y4_0.length) * 1 ≤ (List.length (Zl (Zn .u8) ((v1 ++ (bl [58, 76])) ++ y4_0))) ∧ List.take (((v1.length + 2) + y4_0.length) * 1) (Zl (Zn .u8) ((v1 ++ (bl [58, 76])) ++ y4_0)) ++ [Value.int .u8 (10 : Int)] = (Zl (Zn .u8) (((v1 ++ (bl [58, 76])) ++ y4_0) ++ (bl [10])))), true), (dP ((y4_0.length = ((Za y4_0)).size ∧ (Zl (Zn .u8) y4_0) = ZQ (Za y4_0)) ∧ 0 < y4_0.length ∧ y4_0.length ≤ 100000 ∧ (v1.length + 2) < (v1.length + 2) + y4_0.length ∧ (v1.length + 2) ≤ 100000 ∧ (v1.length + 2) * 1 ≤ (List.length (Zl (Zn .u8) (v1 ++ (bl [58, 76])))) ∧ List.take ((v1.length + 2) * 1) (Zl (Zn .u8) (v1 ++ (bl [58, 76]))) ++ (Zl (Zn .u8) y4_0) = (Zl (Zn .u8) ((v1 ++ (bl [58, 76])) ++ y4_0))), true), (dP (Z2 #[vi (v2 : Int)] ((v2 : Int))  y4_0  3), true), (dP ((2 = 2 ∧ ZD (2 * 1) (List.drop 0 [Value.int .u8 (58 : Int), Value.int .u8 (76 : Int)]) = some [Value.int .u8 (58 : Int), Value.int .u8 (76 : Int)] ∧ Z4 Zau [Value.int .u8 (58 : Int), Value.int .u8 (76 : Int)] = true) ∧ 0 < 2 ∧ 2 ≤ 100000 ∧ v1.length < v1.length + 2 ∧ v1.length ≤ 100000 ∧ v1.length * 1 ≤ (List.length (Zl (Zn .u8) v1)) ∧ List.take (v1.length * 1) (Zl (Zn .u8) v1) ++ [Value.int .u8 (58 : Int), Value.int .u8 (76 : Int)] = (Zl (Zn .u8) (v1 ++ (bl [58, 76])))), true), (dP (Zaa #[ms E_iiii L0, vi (v2 : Int)] (L0) ((v2 : Int))  true  1), true), ((decide ((v2 : Int) ≤ (L0.length : Int))), true)]) rfl (show 2 ∈ ZO (ZT 2) from by decide +kernel) (fun gv => by kernel_rfl) (Zb (beq_iff_eq.2 ((wrap_i64 ltA).trans (by first | rfl | omega))) <| Zb (Zg ⟨⟨rfl, ⟨rfl, rfl⟩⟩, by omega, by omega, ltA, by omega, (ZH (E := (Zn .u8)) (L := (((v1 ++ (bl [58, 76])) ++ y4_0) ++ (bl [10]))) (M := (bl [10])) (n := (((v1.length + 2) + y4_0.length) + 1)) (show _ = _ * 1 from rfl) ltA (R := ((((v1 ++ (bl [58, 76])) ++ y4_0) ++ (bl [10])) ++ (bl [10]))) (by rw [List.take_of_length_le ltA]))⟩) <| Zb (Zg (Zco (x := (Za y11_0)) (M := y11_0) rfl (by omega))) <| Zb (Zg (Zaw #[Value.agg #[vi (L0.getD v2 RA.z).a0, vi (L0.getD v2 RA.z).a1, vi (L0.getD v2 RA.z).a2, vi (L0.getD v2 RA.z).a3]] ((L0.getD v2 RA.z).a0) ((L0.getD v2 RA.z).a1) ((L0.getD v2 RA.z).a2) ((L0.getD v2 RA.z).a3)  y11_0 y11_1 N c11  6 rfl (by decide) (by decide))) <| Zb (Zg (ZF (E := E_iiii) (L := L0) (i := v2) (q := 0) (by omega) (show (0 + (v2 * 4)) = v2 * 4 + 0 from by omega) (show 0 + 4 ≤ 4 from by decide) rfl)) <| oB <| oI <| oY <| Zb (Zg ⟨⟨rfl, ⟨rfl, rfl⟩⟩, by omega, by omega, ltA, by omega, (ZH (E := (Zn .u8)) (L := ((v1 ++ (bl [58, 76])) ++ y4_0)) (M := (bl [10])) (n := ((v1.length + 2) + y4_0.length)) (show _ = _ * 1 from rfl) ltA (R := (((v1 ++ (bl [58, 76])) ++ y4_0) ++ (bl [10]))) (by rw [List.take_of_length_le ltA]))⟩) <| Zb (Zg ⟨(Zbr (x := (Za y4_0)) (M := y4_0) rfl (by assumption) ltA), ltA, ltA, ltA, by omega, (ZH (E := (Zn .u8)) (L := (v1 ++ (bl [58, 76]))) (M := y4_0) (n := (v1.length + 2)) (show _ = _ * 1 from rfl) ltA (R := ((v1 ++ (bl [58, 76])) ++ y4_0)) (by rw [List.take_of_length_le ltA]))⟩) <| Zb (Zg (Z5 #[vi (v2 : Int)] ((v2 : Int))  y4_0 N c4  3 rfl (by decide) (by decide))) <| Zb (Zg ⟨⟨rfl, ⟨rfl, rfl⟩⟩, by omega, by omega, ltA, by omega, (ZH (E := (Zn .u8)) (L := v1) (M := (bl [58, 76])) (n := v1.length) (show _ = _ * 1 from rfl) (by omega) (R := (v1 ++ (bl [58, 76]))) (by rw [List.take_of_length_le (by omega)]))⟩) <| Zb (Zg (Zah #[ms E_iiii L0, vi (v2 : Int)] (L0) ((v2 : Int))  true N c1  1 rfl (by decide) (by decide))) <| oY Ze) rfl (by decide) (by rfl) (fun _ => ⟨rr, ⟨⟨Eq.trans (show (vs 0 0 ((((v1 ++ (bl [58, 76])) ++ y4_0) ++ (bl [10])) ++ (bl [10])).length ((((v1 ++ (bl [58, 76])) ++ y4_0) ++ (bl [10])) ++ (bl [10])).length : Value) = vs 0 0 ((((v1.length + 2) + y4_0.length) + 1) + 1) ((((v1.length + 2) + y4_0.length) + 1) + 1) from (Zay rfl eqA eqA)) (by rfl), by rfl⟩, ⟨rr, trivial⟩⟩⟩) ⟨(ZR (E := (Zn .u8)) (α := Int) _ ((((v1 ++ (bl [58, 76])) ++ y4_0) ++ (bl [10])) ++ (bl [10])) _), trivial⟩
        ·
         refine Mach.ok_ite (fun g13 => ?_) (fun _ => Mach.ok_none)
         refine Mach.ok_ite (fun g14 => ?_) (fun _ => Mach.ok_none)
         refine Mach.ok_ite (fun g15 => ?_) (fun _ => Mach.ok_none)
         refine Mach.ok_ite (fun g16 => ?_) (fun _ => Mach.ok_none)
         refine Mach.ok_ite (fun g17 => ?_) (fun _ => Mach.ok_none)
         exact Mach.ok_next (M := Z6 L0 N) (cd := 1000000) (cm := 0) (y := (.h2m1 ((((((v1 ++ (bl [58, 76])) ++ y4_0) ++ (bl [10])) ++ y11_0) ++ (bl [10]))) ((v2 + 1)) : Zv)) (fu := 4000) (orc := (Zk [(0, true), (1, true)] [(0, (((v2 + 1) : Nat) : Int))] [(0, v2)] [(0, [.i (L0.getD v2 RA.z).a0, .i (L0.getD v2 RA.z).a1, .i (L0.getD v2 RA.z).a2, .i (L0.getD v2 RA.z).a3])] [(0, (Zag (L0) ((v2 : Int))  true  1)), (1, .ap 2 [Value.int .u8 (58 : Int), Value.int .u8 (76 : Int)] (Zl (Zn .u8) (v1 ++ (bl [58, 76])))), (2, (Z3 ((v2 : Int))  y4_0  3)), (3, .ap y4_0.length (Zl (Zn .u8) y4_0) (Zl (Zn .u8) ((v1 ++ (bl [58, 76])) ++ y4_0))), (4, .ap 1 [Value.int .u8 (10 : Int)] (Zl (Zn .u8) (((v1 ++ (bl [58, 76])) ++ y4_0) ++ (bl [10])))), (5, (Zav ((L0.getD v2 RA.z).a0) ((L0.getD v2 RA.z).a1) ((L0.getD v2 RA.z).a2) ((L0.getD v2 RA.z).a3)  y11_0 y11_1  6)), (6, .ap y11_0.length (Zl (Zn .u8) y11_0) (Zl (Zn .u8) ((((v1 ++ (bl [58, 76])) ++ y4_0) ++ (bl [10])) ++ y11_0))), (7, .ap 1 [Value.int .u8 (10 : Int)] (Zl (Zn .u8) (((((v1 ++ (bl [58, 76])) ++ y4_0) ++ (bl [10])) ++ y11_0) ++ (bl [10]))))])) (live := [8]) (tv := fun _ => [some (ms E_iiii L0), some (vs 8 0 (((((v1.length + 2) + y4_0.length) + 1) + y11_0.length) + 1) (((((v1.length + 2) + y4_0.length) + 1) + y11_0.length) + 1)), some (vi (((v2 + 1) : Nat) : Int))]) (bl := [some (.cells (Zl (Zn .u8) (((((v1 ++ (bl [58, 76])) ++ y4_0) ++ (bl [10])) ++ y11_0) ++ (bl [10]))) 5)]) (ob := [((IntKind.i64.wrap ((v2 : Int) + (1 : Int))) == (((v2 + 1) : Nat) : Int), true), (dP ((1 = 1 ∧ ZD (1 * 1) (List.drop 0 [Value.int .u8 (10 : Int)]) = some [Value.int .u8 (10 : Int)] ∧ Z4 Zau [Value.int .u8 (10 : Int)] = true) ∧ 0 < 1 ∧ 1 ≤ 100000 ∧ ((((v1.length + 2) + y4_0.length) + 1) + y11_0.length) < ((((v1.length + 2) + y4_0.length) + 1) + y11_0.length) + 1 ∧ ((((v1.length + 2) + y4_0.length) + 1) + y11_0.length) ≤ 100000 ∧ ((((v1.length + 2) + y4_0.length) + 1) + y11_0.length) * 1 ≤ (List.length (Zl (Zn .u8) ((((v1 ++ (bl [58, 76])) ++ y4_0) ++ (bl [10])) ++ y11_0))) ∧ List.take (((((v1.length + 2) + y4_0.length) + 1) + y11_0.length) * 1) (Zl (Zn .u8) ((((v1 ++ (bl [58, 76])) ++ y4_0) ++ (bl [10])) ++ y11_0)) ++ [Value.int .u8 (10 : Int)] = (Zl (Zn .u8) (((((v1 ++ (bl [58, 76])) ++ y4_0) ++ (bl [10])) ++ y11_0) ++ (bl [10])))), true), (dP ((y11_0.length = ((Za y11_0)).size ∧ (Zl (Zn .u8) y11_0) = ZQ (Za y11_0)) ∧ 0 < y11_0.length ∧ y11_0.length ≤ 100000 ∧ (((v1.length + 2) + y4_0.length) + 1) < (((v1.length + 2) + y4_0.length) + 1) + y11_0.length ∧ (((v1.length + 2) + y4_0.length) + 1) ≤ 100000 ∧ (((v1.length + 2) + y4_0.length) + 1) * 1 ≤ (List.length (Zl (Zn .u8) (((v1 ++ (bl [58, 76])) ++ y4_0) ++ (bl [10])))) ∧ List.take ((((v1.length + 2) + y4_0.length) + 1) * 1) (Zl (Zn .u8) (((v1 ++ (bl [58, 76])) ++ y4_0) ++ (bl [10]))) ++ (Zl (Zn .u8) y11_0) = (Zl (Zn .u8) ((((v1 ++ (bl [58, 76])) ++ y4_0) ++ (bl [10])) ++ y11_0))), true), (dP (Zap #[Value.agg #[vi (L0.getD v2 RA.z).a0, vi (L0.getD v2 RA.z).a1, vi (L0.getD v2 RA.z).a2, vi (L0.getD v2 RA.z).a3]] ((L0.getD v2 RA.z).a0) ((L0.getD v2 RA.z).a1) ((L0.getD v2 RA.z).a2) ((L0.getD v2 RA.z).a3)  y11_0 y11_1  6), true), (dP (ZP (code (ZE E_iiii L0)) (0 + (v2 * 4)) 4 = some [.i (L0.getD v2 RA.z).a0, .i (L0.getD v2 RA.z).a1, .i (L0.getD v2 RA.z).a2, .i (L0.getD v2 RA.z).a3]), true), (Nat.blt v2 L0.length, true), ((v2 : Int) == Int.ofNat v2, true), ((decide ((v2 : Int) < (L0.length : Int))), true), (dP ((1 = 1 ∧ ZD (1 * 1) (List.drop 0 [Value.int .u8 (10 : Int)]) = some [Value.int .u8 (10 : Int)] ∧ Z4 Zau [Value.int .u8 (10 : Int)] = true) ∧ 0 < 1 ∧ 1 ≤ 100000 ∧ ((v1.length + 2) + y4_0.length) < ((v1.length + 2) + y4_0.length) + 1 ∧ ((v1.length + 2) + y4_0.length) ≤ 100000 ∧ ((v1.length + 2) + y4_0.length) * 1 ≤ (List.length (Zl (Zn .u8) ((v1 ++ (bl [58, 76])) ++ y4_0))) ∧ List.take (((v1.length + 2) + y4_0.length) * 1) (Zl (Zn .u8) ((v1 ++ (bl [58, 76])) ++ y4_0)) ++ [Value.int .u8 (10 : Int)] = (Zl (Zn .u8) (((v1 ++ (bl [58, 76])) ++ y4_0) ++ (bl [10])))), true), (dP ((y4_0.length = ((Za y4_0)).size ∧ (Zl (Zn .u8) y4_0) = ZQ (Za y4_0)) ∧ 0 < y4_0.length ∧ y4_0.length ≤ 100000 ∧ (v1.length + 2) < (v1.length + 2) + y4_0.length ∧ (v1.length + 2) ≤ 100000 ∧ (v1.length + 2) * 1 ≤ (List.length (Zl (Zn .u8) (v1 ++ (bl [58, 76])))) ∧ List.take ((v1.length + 2) * 1) (Zl (Zn .u8) (v1 ++ (bl [58, 76]))) ++ (Zl (Zn .u8) y4_0) = (Zl (Zn .u8) ((v1 ++ (bl [58, 76])) ++ y4_0))), true), (dP (Z2 #[vi (v2 : Int)] ((v2 : Int))  y4_0  3), true), (dP ((2 = 2 ∧ ZD (2 * 1) (List.drop 0 [Value.int .u8 (58 : Int), Value.int .u8 (76 : Int)]) = some [Value.int .u8 (58 : Int), Value.int .u8 (76 : Int)] ∧ Z4 Zau [Value.int .u8 (58 : Int), Value.int .u8 (76 : Int)] = true) ∧ 0 < 2 ∧ 2 ≤ 100000 ∧ v1.length < v1.length + 2 ∧ v1.length ≤ 100000 ∧ v1.length * 1 ≤ (List.length (Zl (Zn .u8) v1)) ∧ List.take (v1.length * 1) (Zl (Zn .u8) v1) ++ [Value.int .u8 (58 : Int), Value.int .u8 (76 : Int)] = (Zl (Zn .u8) (v1 ++ (bl [58, 76])))), true), (dP (Zaa #[ms E_iiii L0, vi (v2 : Int)] (L0) ((v2 : Int))  true  1), true), ((decide ((v2 : Int) ≤ (L0.length : Int))), true)]) rfl (show 2 ∈ ZO (ZT 2) from by decide +kernel) (fun gv => by kernel_rfl) (Zb (beq_iff_eq.2 ((wrap_i64 ltA).trans (by first | rfl | omega))) <| Zb (Zg ⟨⟨rfl, ⟨rfl, rfl⟩⟩, by omega, by omega, ltA, by omega, (ZH (E := (Zn .u8)) (L := ((((v1 ++ (bl [58, 76])) ++ y4_0) ++ (bl [10])) ++ y11_0)) (M := (bl [10])) (n := ((((v1.length + 2) + y4_0.length) + 1) + y11_0.length)) (show _ = _ * 1 from rfl) ltA (R := (((((v1 ++ (bl [58, 76])) ++ y4_0) ++ (bl [10])) ++ y11_0) ++ (bl [10]))) (by rw [List.take_of_length_le ltA]))⟩) <| Zb (Zg ⟨(Zbr (x := (Za y11_0)) (M := y11_0) rfl (by assumption) ltA), ltA, ltA, ltA, by omega, (ZH (E := (Zn .u8)) (L := (((v1 ++ (bl [58, 76])) ++ y4_0) ++ (bl [10]))) (M := y11_0) (n := (((v1.length + 2) + y4_0.length) + 1)) (show _ = _ * 1 from rfl) ltA (R := ((((v1 ++ (bl [58, 76])) ++ y4_0) ++ (bl [10])) ++ y11_0)) (by rw [List.take_of_length_le ltA]))⟩) <| Zb (Zg (Zaw #[Value.agg #[vi (L0.getD v2 RA.z).a0, vi (L0.getD v2 RA.z).a1, vi (L0.getD v2 RA.z).a2, vi (L0.getD v2 RA.z).a3]] ((L0.getD v2 RA.z).a0) ((L0.getD v2 RA.z).a1) ((L0.getD v2 RA.z).a2) ((L0.getD v2 RA.z).a3)  y11_0 y11_1 N c11  6 rfl (by decide) (by decide))) <| Zb (Zg (ZF (E := E_iiii) (L := L0) (i := v2) (q := 0) (by omega) (show (0 + (v2 * 4)) = v2 * 4 + 0 from by omega) (show 0 + 4 ≤ 4 from by decide) rfl)) <| oB <| oI <| oY <| Zb (Zg ⟨⟨rfl, ⟨rfl, rfl⟩⟩, by omega, by omega, ltA, by omega, (ZH (E := (Zn .u8)) (L := ((v1 ++ (bl [58, 76])) ++ y4_0)) (M := (bl [10])) (n := ((v1.length + 2) + y4_0.length)) (show _ = _ * 1 from rfl) ltA (R := (((v1 ++ (bl [58, 76])) ++ y4_0) ++ (bl [10]))) (by rw [List.take_of_length_le ltA]))⟩) <| Zb (Zg ⟨(Zbr (x := (Za y4_0)) (M := y4_0) rfl (by assumption) ltA), ltA, ltA, ltA, by omega, (ZH (E := (Zn .u8)) (L := (v1 ++ (bl [58, 76]))) (M := y4_0) (n := (v1.length + 2)) (show _ = _ * 1 from rfl) ltA (R := ((v1 ++ (bl [58, 76])) ++ y4_0)) (by rw [List.take_of_length_le ltA]))⟩) <| Zb (Zg (Z5 #[vi (v2 : Int)] ((v2 : Int))  y4_0 N c4  3 rfl (by decide) (by decide))) <| Zb (Zg ⟨⟨rfl, ⟨rfl, rfl⟩⟩, by omega, by omega, ltA, by omega, (ZH (E := (Zn .u8)) (L := v1) (M := (bl [58, 76])) (n := v1.length) (show _ = _ * 1 from rfl) (by omega) (R := (v1 ++ (bl [58, 76]))) (by rw [List.take_of_length_le (by omega)]))⟩) <| Zb (Zg (Zah #[ms E_iiii L0, vi (v2 : Int)] (L0) ((v2 : Int))  true N c1  1 rfl (by decide) (by decide))) <| oY Ze) rfl (by decide) (by rfl) (fun _ => ⟨rr, ⟨⟨Eq.trans (show (vs 0 0 (((((v1 ++ (bl [58, 76])) ++ y4_0) ++ (bl [10])) ++ y11_0) ++ (bl [10])).length (((((v1 ++ (bl [58, 76])) ++ y4_0) ++ (bl [10])) ++ y11_0) ++ (bl [10])).length : Value) = vs 0 0 (((((v1.length + 2) + y4_0.length) + 1) + y11_0.length) + 1) (((((v1.length + 2) + y4_0.length) + 1) + y11_0.length) + 1) from (Zay rfl eqA eqA)) (by rfl), by rfl⟩, ⟨rr, trivial⟩⟩⟩) ⟨(ZR (E := (Zn .u8)) (α := Int) _ (((((v1 ++ (bl [58, 76])) ++ y4_0) ++ (bl [10])) ++ y11_0) ++ (bl [10])) _), trivial⟩
      ·
       refine Mach.ok_ite (fun g11 => ?_) (fun _ => Mach.ok_none)
       exact Mach.ok_next (M := Z6 L0 N) (cd := 1000000) (cm := 0) (y := (.h2m1 ((((v1 ++ (bl [58, 76])) ++ y4_0) ++ (bl [10]))) ((v2 + 1)) : Zv)) (fu := 4000) (orc := (Zk [(0, true), (1, false)] [(0, (((v2 + 1) : Nat) : Int))] [] [] [(0, (Zag (L0) ((v2 : Int))  true  1)), (1, .ap 2 [Value.int .u8 (58 : Int), Value.int .u8 (76 : Int)] (Zl (Zn .u8) (v1 ++ (bl [58, 76])))), (2, (Z3 ((v2 : Int))  y4_0  3)), (3, .ap y4_0.length (Zl (Zn .u8) y4_0) (Zl (Zn .u8) ((v1 ++ (bl [58, 76])) ++ y4_0))), (4, .ap 1 [Value.int .u8 (10 : Int)] (Zl (Zn .u8) (((v1 ++ (bl [58, 76])) ++ y4_0) ++ (bl [10]))))])) (live := [5]) (tv := fun _ => [some (ms E_iiii L0), some (vs 5 0 (((v1.length + 2) + y4_0.length) + 1) (((v1.length + 2) + y4_0.length) + 1)), some (vi (((v2 + 1) : Nat) : Int))]) (bl := [some (.cells (Zl (Zn .u8) (((v1 ++ (bl [58, 76])) ++ y4_0) ++ (bl [10]))) 5)]) (ob := [((IntKind.i64.wrap ((v2 : Int) + (1 : Int))) == (((v2 + 1) : Nat) : Int), true), ((decide ((v2 : Int) < (L0.length : Int))), false), (dP ((1 = 1 ∧ ZD (1 * 1) (List.drop 0 [Value.int .u8 (10 : Int)]) = some [Value.int .u8 (10 : Int)] ∧ Z4 Zau [Value.int .u8 (10 : Int)] = true) ∧ 0 < 1 ∧ 1 ≤ 100000 ∧ ((v1.length + 2) + y4_0.length) < ((v1.length + 2) + y4_0.length) + 1 ∧ ((v1.length + 2) + y4_0.length) ≤ 100000 ∧ ((v1.length + 2) + y4_0.length) * 1 ≤ (List.length (Zl (Zn .u8) ((v1 ++ (bl [58, 76])) ++ y4_0))) ∧ List.take (((v1.length + 2) + y4_0.length) * 1) (Zl (Zn .u8) ((v1 ++ (bl [58, 76])) ++ y4_0)) ++ [Value.int .u8 (10 : Int)] = (Zl (Zn .u8) (((v1 ++ (bl [58, 76])) ++ y4_0) ++ (bl [10])))), true), (dP ((y4_0.length = ((Za y4_0)).size ∧ (Zl (Zn .u8) y4_0) = ZQ (Za y4_0)) ∧ 0 < y4_0.length ∧ y4_0.length ≤ 100000 ∧ (v1.length + 2) < (v1.length + 2) + y4_0.length ∧ (v1.length + 2) ≤ 100000 ∧ (v1.length + 2) * 1 ≤ (List.length (Zl (Zn .u8) (v1 ++ (bl [58, 76])))) ∧ List.take ((v1.length + 2) * 1) (Zl (Zn .u8) (v1 ++ (bl [58, 76]))) ++ (Zl (Zn .u8) y4_0) = (Zl (Zn .u8) ((v1 ++ (bl [58, 76])) ++ y4_0))), true), (dP (Z2 #[vi (v2 : Int)] ((v2 : Int))  y4_0  3), true), (dP ((2 = 2 ∧ ZD (2 * 1) (List.drop 0 [Value.int .u8 (58 : Int), Value.int .u8 (76 : Int)]) = some [Value.int .u8 (58 : Int), Value.int .u8 (76 : Int)] ∧ Z4 Zau [Value.int .u8 (58 : Int), Value.int .u8 (76 : Int)] = true) ∧ 0 < 2 ∧ 2 ≤ 100000 ∧ v1.length < v1.length + 2 ∧ v1.length ≤ 100000 ∧ v1.length * 1 ≤ (List.length (Zl (Zn .u8) v1)) ∧ List.take (v1.length * 1) (Zl (Zn .u8) v1) ++ [Value.int .u8 (58 : Int), Value.int .u8 (76 : Int)] = (Zl (Zn .u8) (v1 ++ (bl [58, 76])))), true), (dP (Zaa #[ms E_iiii L0, vi (v2 : Int)] (L0) ((v2 : Int))  true  1), true), ((decide ((v2 : Int) ≤ (L0.length : Int))), true)]) rfl (show 2 ∈ ZO (ZT 2) from by decide +kernel) (fun gv => by kernel_rfl) (Zb (beq_iff_eq.2 ((wrap_i64 ltA).trans (by first | rfl | omega))) <| oN <| Zb (Zg ⟨⟨rfl, ⟨rfl, rfl⟩⟩, by omega, by omega, ltA, by omega, (ZH (E := (Zn .u8)) (L := ((v1 ++ (bl [58, 76])) ++ y4_0)) (M := (bl [10])) (n := ((v1.length + 2) + y4_0.length)) (show _ = _ * 1 from rfl) ltA (R := (((v1 ++ (bl [58, 76])) ++ y4_0) ++ (bl [10]))) (by rw [List.take_of_length_le ltA]))⟩) <| Zb (Zg ⟨(Zbr (x := (Za y4_0)) (M := y4_0) rfl (by assumption) ltA), ltA, ltA, ltA, by omega, (ZH (E := (Zn .u8)) (L := (v1 ++ (bl [58, 76]))) (M := y4_0) (n := (v1.length + 2)) (show _ = _ * 1 from rfl) ltA (R := ((v1 ++ (bl [58, 76])) ++ y4_0)) (by rw [List.take_of_length_le ltA]))⟩) <| Zb (Zg (Z5 #[vi (v2 : Int)] ((v2 : Int))  y4_0 N c4  3 rfl (by decide) (by decide))) <| Zb (Zg ⟨⟨rfl, ⟨rfl, rfl⟩⟩, by omega, by omega, ltA, by omega, (ZH (E := (Zn .u8)) (L := v1) (M := (bl [58, 76])) (n := v1.length) (show _ = _ * 1 from rfl) (by omega) (R := (v1 ++ (bl [58, 76]))) (by rw [List.take_of_length_le (by omega)]))⟩) <| Zb (Zg (Zah #[ms E_iiii L0, vi (v2 : Int)] (L0) ((v2 : Int))  true N c1  1 rfl (by decide) (by decide))) <| oY Ze) rfl (by decide) (by rfl) (fun _ => ⟨rr, ⟨⟨Eq.trans (show (vs 0 0 (((v1 ++ (bl [58, 76])) ++ y4_0) ++ (bl [10])).length (((v1 ++ (bl [58, 76])) ++ y4_0) ++ (bl [10])).length : Value) = vs 0 0 (((v1.length + 2) + y4_0.length) + 1) (((v1.length + 2) + y4_0.length) + 1) from (Zay rfl eqA eqA)) (by rfl), by rfl⟩, ⟨rr, trivial⟩⟩⟩) ⟨(ZR (E := (Zn .u8)) (α := Int) _ (((v1 ++ (bl [58, 76])) ++ y4_0) ++ (bl [10])) _), trivial⟩
   ·
    obtain rfl : y1_0 = false := by simpa using g2
    refine Mach.ok_ite (fun g3 => ?_) (fun g3 => ?_)
    ·
     refine Mach.ok_bind (fun z4 c4 => ?_)
     cases z4 with
     | r0 y4_0 y4_1 =>
      refine Mach.ok_ite (fun g5 => ?_) (fun g5 => ?_)
      ·
       refine Mach.ok_ite (fun g6 => ?_) (fun _ => Mach.ok_none)
       refine Mach.ok_ite (fun g7 => ?_) (fun _ => Mach.ok_none)
       exact Mach.ok_next (M := Z6 L0 N) (cd := 1000000) (cm := 0) (y := (.h2m1 ((v1 ++ (bl [10]))) ((v2 + 1)) : Zv)) (fu := 4000) (orc := (Zk [(0, true), (1, true)] [(0, (((v2 + 1) : Nat) : Int))] [(0, v2)] [(0, [.i (L0.getD v2 RA.z).a0, .i (L0.getD v2 RA.z).a1, .i (L0.getD v2 RA.z).a2, .i (L0.getD v2 RA.z).a3])] [(0, (Zag (L0) ((v2 : Int))  false  1)), (1, (Zav ((L0.getD v2 RA.z).a0) ((L0.getD v2 RA.z).a1) ((L0.getD v2 RA.z).a2) ((L0.getD v2 RA.z).a3)  y4_0 y4_1  1)), (2, .ap0), (3, .ap 1 [Value.int .u8 (10 : Int)] (Zl (Zn .u8) (v1 ++ (bl [10]))))])) (live := [2]) (tv := fun _ => [some (ms E_iiii L0), some (vs 2 0 (v1.length + 1) (v1.length + 1)), some (vi (((v2 + 1) : Nat) : Int))]) (bl := [some (.cells (Zl (Zn .u8) (v1 ++ (bl [10]))) 5)]) (ob := [((IntKind.i64.wrap ((v2 : Int) + (1 : Int))) == (((v2 + 1) : Nat) : Int), true), (dP ((1 = 1 ∧ ZD (1 * 1) (List.drop 0 [Value.int .u8 (10 : Int)]) = some [Value.int .u8 (10 : Int)] ∧ Z4 Zau [Value.int .u8 (10 : Int)] = true) ∧ 0 < 1 ∧ 1 ≤ 100000 ∧ v1.length < v1.length + 1 ∧ v1.length ≤ 100000 ∧ v1.length * 1 ≤ (List.length (Zl (Zn .u8) v1)) ∧ List.take (v1.length * 1) (Zl (Zn .u8) v1) ++ [Value.int .u8 (10 : Int)] = (Zl (Zn .u8) (v1 ++ (bl [10])))), true), (dP (0 = ((Za y4_0)).size ∧ ([] : List Value) = ZQ (Za y4_0)), true), (dP (Zap #[Value.agg #[vi (L0.getD v2 RA.z).a0, vi (L0.getD v2 RA.z).a1, vi (L0.getD v2 RA.z).a2, vi (L0.getD v2 RA.z).a3]] ((L0.getD v2 RA.z).a0) ((L0.getD v2 RA.z).a1) ((L0.getD v2 RA.z).a2) ((L0.getD v2 RA.z).a3)  y4_0 y4_1  1), true), (dP (ZP (code (ZE E_iiii L0)) (0 + (v2 * 4)) 4 = some [.i (L0.getD v2 RA.z).a0, .i (L0.getD v2 RA.z).a1, .i (L0.getD v2 RA.z).a2, .i (L0.getD v2 RA.z).a3]), true), (Nat.blt v2 L0.length, true), ((v2 : Int) == Int.ofNat v2, true), ((decide ((v2 : Int) < (L0.length : Int))), true), (dP (Zaa #[ms E_iiii L0, vi (v2 : Int)] (L0) ((v2 : Int))  false  1), true), ((decide ((v2 : Int) ≤ (L0.length : Int))), true)]) rfl (show 2 ∈ ZO (ZT 2) from by decide +kernel) (fun gv => by kernel_rfl) (Zb (beq_iff_eq.2 ((wrap_i64 ltA).trans (by first | rfl | omega))) <| Zb (Zg ⟨⟨rfl, ⟨rfl, rfl⟩⟩, by omega, by omega, ltA, by omega, (ZH (E := (Zn .u8)) (L := v1) (M := (bl [10])) (n := v1.length) (show _ = _ * 1 from rfl) (by omega) (R := (v1 ++ (bl [10]))) (by rw [List.take_of_length_le (by omega)]))⟩) <| Zb (Zg (Zco (x := (Za y4_0)) (M := y4_0) rfl (by omega))) <| Zb (Zg (Zaw #[Value.agg #[vi (L0.getD v2 RA.z).a0, vi (L0.getD v2 RA.z).a1, vi (L0.getD v2 RA.z).a2, vi (L0.getD v2 RA.z).a3]] ((L0.getD v2 RA.z).a0) ((L0.getD v2 RA.z).a1) ((L0.getD v2 RA.z).a2) ((L0.getD v2 RA.z).a3)  y4_0 y4_1 N c4  1 rfl (by decide) (by decide))) <| Zb (Zg (ZF (E := E_iiii) (L := L0) (i := v2) (q := 0) (by omega) (show (0 + (v2 * 4)) = v2 * 4 + 0 from by omega) (show 0 + 4 ≤ 4 from by decide) rfl)) <| oB <| oI <| oY <| Zb (Zg (Zah #[ms E_iiii L0, vi (v2 : Int)] (L0) ((v2 : Int))  false N c1  1 rfl (by decide) (by decide))) <| oY Ze) rfl (by decide) (by rfl) (fun _ => ⟨rr, ⟨⟨Eq.trans (show (vs 0 0 (v1 ++ (bl [10])).length (v1 ++ (bl [10])).length : Value) = vs 0 0 (v1.length + 1) (v1.length + 1) from (Zay rfl eqA eqA)) (by rfl), by rfl⟩, ⟨rr, trivial⟩⟩⟩) ⟨(ZR (E := (Zn .u8)) (α := Int) _ (v1 ++ (bl [10])) _), trivial⟩
      ·
       refine Mach.ok_ite (fun g6 => ?_) (fun _ => Mach.ok_none)
       refine Mach.ok_ite (fun g7 => ?_) (fun _ => Mach.ok_none)
       refine Mach.ok_ite (fun g8 => ?_) (fun _ => Mach.ok_none)
       refine Mach.ok_ite (fun g9 => ?_) (fun _ => Mach.ok_none)
       refine Mach.ok_ite (fun g10 => ?_) (fun _ => Mach.ok_none)
       exact Mach.ok_next (M := Z6 L0 N) (cd := 1000000) (cm := 0) (y := (.h2m1 (((v1 ++ y4_0) ++ (bl [10]))) ((v2 + 1)) : Zv)) (fu := 4000) (orc := (Zk [(0, true), (1, true)] [(0, (((v2 + 1) : Nat) : Int))] [(0, v2)] [(0, [.i (L0.getD v2 RA.z).a0, .i (L0.getD v2 RA.z).a1, .i (L0.getD v2 RA.z).a2, .i (L0.getD v2 RA.z).a3])] [(0, (Zag (L0) ((v2 : Int))  false  1)), (1, (Zav ((L0.getD v2 RA.z).a0) ((L0.getD v2 RA.z).a1) ((L0.getD v2 RA.z).a2) ((L0.getD v2 RA.z).a3)  y4_0 y4_1  1)), (2, .ap y4_0.length (Zl (Zn .u8) y4_0) (Zl (Zn .u8) (v1 ++ y4_0))), (3, .ap 1 [Value.int .u8 (10 : Int)] (Zl (Zn .u8) ((v1 ++ y4_0) ++ (bl [10]))))])) (live := [3]) (tv := fun _ => [some (ms E_iiii L0), some (vs 3 0 ((v1.length + y4_0.length) + 1) ((v1.length + y4_0.length) + 1)), some (vi (((v2 + 1) : Nat) : Int))]) (bl := [some (.cells (Zl (Zn .u8) ((v1 ++ y4_0) ++ (bl [10]))) 5)]) (ob := [((IntKind.i64.wrap ((v2 : Int) + (1 : Int))) == (((v2 + 1) : Nat) : Int), true), (dP ((1 = 1 ∧ ZD (1 * 1) (List.drop 0 [Value.int .u8 (10 : Int)]) = some [Value.int .u8 (10 : Int)] ∧ Z4 Zau [Value.int .u8 (10 : Int)] = true) ∧ 0 < 1 ∧ 1 ≤ 100000 ∧ (v1.length + y4_0.length) < (v1.length + y4_0.length) + 1 ∧ (v1.length + y4_0.length) ≤ 100000 ∧ (v1.length + y4_0.length) * 1 ≤ (List.length (Zl (Zn .u8) (v1 ++ y4_0))) ∧ List.take ((v1.length + y4_0.length) * 1) (Zl (Zn .u8) (v1 ++ y4_0)) ++ [Value.int .u8 (10 : Int)] = (Zl (Zn .u8) ((v1 ++ y4_0) ++ (bl [10])))), true), (dP ((y4_0.length = ((Za y4_0)).size ∧ (Zl (Zn .u8) y4_0) = ZQ (Za y4_0)) ∧ 0 < y4_0.length ∧ y4_0.length ≤ 100000 ∧ v1.length < v1.length + y4_0.length ∧ v1.length ≤ 100000 ∧ v1.length * 1 ≤ (List.length (Zl (Zn .u8) v1)) ∧ List.take (v1.length * 1) (Zl (Zn .u8) v1) ++ (Zl (Zn .u8) y4_0) = (Zl (Zn .u8) (v1 ++ y4_0))), true), (dP (Zap #[Value.agg #[vi (L0.getD v2 RA.z).a0, vi (L0.getD v2 RA.z).a1, vi (L0.getD v2 RA.z).a2, vi (L0.getD v2 RA.z).a3]] ((L0.getD v2 RA.z).a0) ((L0.getD v2 RA.z).a1) ((L0.getD v2 RA.z).a2) ((L0.getD v2 RA.z).a3)  y4_0 y4_1  1), true), (dP (ZP (code (ZE E_iiii L0)) (0 + (v2 * 4)) 4 = some [.i (L0.getD v2 RA.z).a0, .i (L0.getD v2 RA.z).a1, .i (L0.getD v2 RA.z).a2, .i (L0.getD v2 RA.z).a3]), true), (Nat.blt v2 L0.length, true), ((v2 : Int) == Int.ofNat v2, true), ((decide ((v2 : Int) < (L0.length : Int))), true), (dP (Zaa #[ms E_iiii L0, vi (v2 : Int)] (L0) ((v2 : Int))  false  1), true), ((decide ((v2 : Int) ≤ (L0.length : Int))), true)]) rfl (show 2 ∈ ZO (ZT 2) from by decide +kernel) (fun gv => by kernel_rfl) (Zb (beq_iff_eq.2 ((wrap_i64 ltA).trans (by first | rfl | omega))) <| Zb (Zg ⟨⟨rfl, ⟨rfl, rfl⟩⟩, by omega, by omega, ltA, by omega, (ZH (E := (Zn .u8)) (L := (v1 ++ y4_0)) (M := (bl [10])) (n := (v1.length + y4_0.length)) (show _ = _ * 1 from rfl) ltA (R := ((v1 ++ y4_0) ++ (bl [10]))) (by rw [List.take_of_length_le ltA]))⟩) <| Zb (Zg ⟨(Zbr (x := (Za y4_0)) (M := y4_0) rfl (by assumption) ltA), ltA, ltA, ltA, by omega, (ZH (E := (Zn .u8)) (L := v1) (M := y4_0) (n := v1.length) (show _ = _ * 1 from rfl) (by omega) (R := (v1 ++ y4_0)) (by rw [List.take_of_length_le (by omega)]))⟩) <| Zb (Zg (Zaw #[Value.agg #[vi (L0.getD v2 RA.z).a0, vi (L0.getD v2 RA.z).a1, vi (L0.getD v2 RA.z).a2, vi (L0.getD v2 RA.z).a3]] ((L0.getD v2 RA.z).a0) ((L0.getD v2 RA.z).a1) ((L0.getD v2 RA.z).a2) ((L0.getD v2 RA.z).a3)  y4_0 y4_1 N c4  1 rfl (by decide) (by decide))) <| Zb (Zg (ZF (E := E_iiii) (L := L0) (i := v2) (q := 0) (by omega) (show (0 + (v2 * 4)) = v2 * 4 + 0 from by omega) (show 0 + 4 ≤ 4 from by decide) rfl)) <| oB <| oI <| oY <| Zb (Zg (Zah #[ms E_iiii L0, vi (v2 : Int)] (L0) ((v2 : Int))  false N c1  1 rfl (by decide) (by decide))) <| oY Ze) rfl (by decide) (by rfl) (fun _ => ⟨rr, ⟨⟨Eq.trans (show (vs 0 0 ((v1 ++ y4_0) ++ (bl [10])).length ((v1 ++ y4_0) ++ (bl [10])).length : Value) = vs 0 0 ((v1.length + y4_0.length) + 1) ((v1.length + y4_0.length) + 1) from (Zay rfl eqA eqA)) (by rfl), by rfl⟩, ⟨rr, trivial⟩⟩⟩) ⟨(ZR (E := (Zn .u8)) (α := Int) _ ((v1 ++ y4_0) ++ (bl [10])) _), trivial⟩
    ·
     refine Mach.ok_ite (fun g4 => ?_) (fun _ => Mach.ok_none)
     exact Mach.ok_next (M := Z6 L0 N) (cd := 1000000) (cm := 0) (y := (.h2m1 (v1) ((v2 + 1)) : Zv)) (fu := 4000) (orc := (Zk [(0, true), (1, false)] [(0, (((v2 + 1) : Nat) : Int))] [] [] [(0, (Zag (L0) ((v2 : Int))  false  1))])) (live := [0]) (tv := fun _ => [some (ms E_iiii L0), some (vs 0 0 v1.length v1.length), some (vi (((v2 + 1) : Nat) : Int))]) (bl := [some (.cells (Zl (Zn .u8) v1) 5)]) (ob := [((IntKind.i64.wrap ((v2 : Int) + (1 : Int))) == (((v2 + 1) : Nat) : Int), true), ((decide ((v2 : Int) < (L0.length : Int))), false), (dP (Zaa #[ms E_iiii L0, vi (v2 : Int)] (L0) ((v2 : Int))  false  1), true), ((decide ((v2 : Int) ≤ (L0.length : Int))), true)]) rfl (show 2 ∈ ZO (ZT 2) from by decide +kernel) (fun gv => by kernel_rfl) (Zb (beq_iff_eq.2 ((wrap_i64 ltA).trans (by first | rfl | omega))) <| oN <| Zb (Zg (Zah #[ms E_iiii L0, vi (v2 : Int)] (L0) ((v2 : Int))  false N c1  1 rfl (by decide) (by decide))) <| oY Ze) rfl (by decide) (by rfl) (fun _ => ⟨rr, ⟨rr, ⟨rr, trivial⟩⟩⟩) ⟨(ZR (E := (Zn .u8)) (α := Int) _ v1 _), trivial⟩
 ·
  exact Mach.ok_fin (M := Z6 L0 N) (cd := 1000000) (cm := 0) (r := (.r0 (v1) ((0 : Int)) : ZK)) (fu := 4000) (orc := (Zk [(0, false)] [] [] [] [(0, .bs v1)])) (live := []) (u := Value.tuple #[Value.string (Za v1), vq]) (bl := []) (ob := [(dP (ZD v1.length (List.drop 0 (Zl (Zn .u8) v1)) = some (List.map (Value.int .u8) v1)), true), ((decide ((v2 : Int) ≤ (L0.length : Int))), false)]) (fun gv => by kernel_rfl) (Zb (Zg (Zso (L := v1) (a := 0) (by omega) (by show _ = _ * 1; omega) (by first | rfl | simp))) <| oN Ze) rfl (by decide) (by rfl) rr trivial

theorem ZlF (L0 : List RA) (N : Nat) : (Z6 L0 N).Enter Tryz.prog ZX #[ms E_iiii L0] (ZbB L0 N) := by
 unfold ZbB
 refine Mach.en_ite (fun g0 => ?_) (fun g0 => ?_)
 ·
  exact Mach.en_fin (M := Z6 L0 N) (cd := 1000000) (cm := 0) (r := (.r0 (([] : List Int)) ((3 : Int)) : ZK)) (fu := 4000) (orc := (Zk [(0, true)] [] [] [] [])) (live := []) (u := Value.tuple #[Value.string ⟨#[]⟩, vi (3 : Int)]) (bl := []) (ob := [((decide ((L0.length : Int) > (512 : Int))), true)]) (by kernel_rfl) (oY Ze) rfl (by decide) (by rfl) ⟨Eq.trans (show (Value.tuple #[Value.string (Za ([] : List Int)), vi (3 : Int)] : Value) = Value.tuple #[Value.string ⟨#[]⟩, vi (3 : Int)] from (Z7 (Zt rfl (Zt rfl rfl)))) (by rfl), by rfl⟩ trivial
 ·
  exact Mach.en_head (bK := ZaS 1) (M := Z6 L0 N) (cd := 1000000) (cm := 0) (y := (.h1m0 (0) : Zv)) (fu := 4000) (orc := (Zk [(0, false)] [] [] [] [])) (live := []) (tv := [some (ms E_iiii L0), some (vq)]) (bl := []) (ob := [((decide ((L0.length : Int) > (512 : Int))), false)]) rfl rfl (show ZO (ZaS 1).2 = [] from rfl) (by kernel_rfl) (oN Ze) rfl (by decide) (by rfl) ⟨rr, ⟨⟨Eq.trans (show (vi ((0 : Nat) : Int) : Value) = vq from (congrArg (Value.int .i64) (by first | rfl | omega))) (by rfl), by rfl⟩, trivial⟩⟩ trivial

theorem ZjS (L0 : List RA) (N : Nat) (r : ZK) (h : ZcO L0 N = some r) : LSpec Tryz.prog 6 #[ms E_iiii L0] [] (ZgK L0 r) (Zgc L0 r) :=
 Mach.spec Zdu (Z6 L0 N) Tryz.func6 (by kernel_rfl) (by kernel_rfl) (fun x => by cases x <;> exact ZbW _ rfl) (fun r => by cases r <;> exact ZbW _ rfl) (fun x => by
  cases x with
  | h1m0 _ => exact fun _ => (show ¬ (1 ∈ ZO (ZaS 1).2) from by decide +kernel)
  | h2m0 _ => exact fun _ => (show ¬ (2 ∈ ZO (ZaS 2).2) from by decide +kernel)
  | h2m1 _ _ => exact fun _ => (show ¬ (2 ∈ ZO (ZaS 2).2) from by decide +kernel)
  ) (fun x => (show (Z6 L0 N).Ok Tryz.prog ZX x (Zad L0 N x) from by
  cases x with
  | h1m0 v1 => exact ZhQ L0 v1 N
  | h2m0 v1 => exact ZhR L0 v1 N
  | h2m1 v1 v2 => exact ZhS L0 v1 v2 N
  )) (ZlF L0 N) (n := N) h

noncomputable def Zcp (L0 : List RA) (w0 : List Int) (w1 : Int) (n : Nat) : Zcb := .call [] (Value.tuple #[Value.string (Za w0), vi w1]) [] 0
def ZbC (A : Array Value) (L0 : List RA) (w0 : List Int) (w1 : Int) (n : Nat) : Prop := ZaK Tryz.prog 6 A [] (Value.tuple #[Value.string (Za w0), vi w1]) [] n 0

theorem Zcq (A : Array Value) (L0 : List RA) (w0 : List Int) (w1 : Int) (N : Nat) (h : ZcO L0 N = some (.r0 w0 w1)) (n : Nat) (hA : A = #[ms E_iiii L0]) (hnd : ([] : List Nat).Nodup) (hlt : ∀ k ∈ ([] : List Nat), k < n) : ZbC A L0 w0 w1  n :=
 Zde hA (LSpec.callL (show LSpec Tryz.prog 6 #[ms E_iiii L0] [] (Value.tuple #[Value.string (Za w0), vi w1]) [] from ZjS L0 N _ h) [] n [] rfl hnd hlt (show 0 ≤ 0 from by decide) (show ∀ j ∈ ([] : List Nat), j < 0 from by decide) (by rfl) trivial (by rfl) trivial trivial rfl rfl rfl rfl rfl)

noncomputable def ZeO (L0 : List RA) (a1 a2 a3 a4 : Int) : Zal → Value
 | .r0 w0 => Value.bool w0
noncomputable def Zeh (L0 : List RA) (a1 a2 a3 a4 : Int) : Zal → List (Option AObj)
 | .r0 w0 => []

theorem ZgL (L0 : List RA) (a1 a2 a3 a4 : Int) (N : Nat) : Fx Tryz.prog ZX Tryz.f3 [] #[ms E_iiii L0, Value.agg #[vi a1, vi a2, vi a3, vi a4]] (ZeO L0 a1 a2 a3 a4) (Zeh L0 a1 a2 a3 a4) (ZbL L0 a1 a2 a3 a4 N) := by
 unfold ZbL
 refine Ze4 (fun z0 c0 => ?_)
 cases z0 with
 | r0 y0_0 y0_1 =>
  refine Ze4 (fun z1 c1 => ?_)
  cases z1 with
  | r0 y1_0 y1_1 =>
   refine Ze4 (fun z2 c2 => ?_)
   cases z2 with
   | r0 y2_0 y2_1 =>
    refine Ze4 (fun z3 c3 => ?_)
    cases z3 with
    | r0 y3_0 y3_1 =>
     refine Zds (fun g4 => ?_) (fun g4 => ?_)
     ·
      refine Zds (fun g5 => ?_) (fun g5 => ?_)
      ·
       refine Zds (fun g6 => ?_) (fun g6 => ?_)
       ·
        refine Zds (fun g7 => ?_) (fun g7 => ?_)
        ·
         exact Zdt (r := (.r0 (true) : Zal)) (fu := 4000) (orc := (Zk [(0, true), (1, true), (2, true), (3, true)] [] [] [] [(0, .ms 0 ((if (520 : Int) < (L0.length : Int) then (520 : Int) else (L0.length : Int))).toNat (L0.take ((if (520 : Int) < (L0.length : Int) then (520 : Int) else (L0.length : Int))).toNat).length (ZE E_iiii (L0.take ((if (520 : Int) < (L0.length : Int) then (520 : Int) else (L0.length : Int))).toNat))), (1, (ZcP ((L0.take ((if (520 : Int) < (L0.length : Int) then (520 : Int) else (L0.length : Int))).toNat))  y0_0 y0_1  1)), (2, (Zcp ((L0.take ((if (520 : Int) < (L0.length : Int) then (520 : Int) else (L0.length : Int))).toNat))  y1_0 y1_1  1)), (3, (Zby (a1) (a2) (a3) (a4)  y2_0 y2_1  1)), (4, (Zav (a1) (a2) (a3) (a4)  y3_0 y3_1  1))])) (live := []) (u := vT) (bl := []) (ob := [((y2_1 == y3_1), true), (((Za y2_0).toList == (Za y3_0).toList), true), ((y0_1 == y1_1), true), (((Za y0_0).toList == (Za y1_0).toList), true), (dP (Zap #[Value.agg #[vi a1, vi a2, vi a3, vi a4]] (a1) (a2) (a3) (a4)  y3_0 y3_1  1), true), (dP (Zbn #[Value.agg #[vi a1, vi a2, vi a3, vi a4]] (a1) (a2) (a3) (a4)  y2_0 y2_1  1), true), (dP (ZbC #[ms E_iiii (L0.take ((if (520 : Int) < (L0.length : Int) then (520 : Int) else (L0.length : Int))).toNat)] ((L0.take ((if (520 : Int) < (L0.length : Int) then (520 : Int) else (L0.length : Int))).toNat))  y1_0 y1_1  1), true), (dP (Zcv #[ms E_iiii (L0.take ((if (520 : Int) < (L0.length : Int) then (520 : Int) else (L0.length : Int))).toNat)] ((L0.take ((if (520 : Int) < (L0.length : Int) then (520 : Int) else (L0.length : Int))).toNat))  y0_0 y0_1  1), true), (dP (0 ≤ ((if (520 : Int) < (L0.length : Int) then (520 : Int) else (L0.length : Int))).toNat ∧ ((if (520 : Int) < (L0.length : Int) then (520 : Int) else (L0.length : Int))).toNat ≤ L0.length ∧ ZP (code (ZE E_iiii L0)) (0 + 0 * 4) (ZE E_iiii (L0.take ((if (520 : Int) < (L0.length : Int) then (520 : Int) else (L0.length : Int))).toNat)).length = some (ZE E_iiii (L0.take ((if (520 : Int) < (L0.length : Int) then (520 : Int) else (L0.length : Int))).toNat)) ∧ (((if (520 : Int) < (L0.length : Int) then (520 : Int) else (L0.length : Int))).toNat - 0) * 4 = (ZE E_iiii (L0.take ((if (520 : Int) < (L0.length : Int) then (520 : Int) else (L0.length : Int))).toNat)).length ∧ (L0.take ((if (520 : Int) < (L0.length : Int) then (520 : Int) else (L0.length : Int))).toNat).length = ((if (520 : Int) < (L0.length : Int) then (520 : Int) else (L0.length : Int))).toNat - 0), true), ((if (520 : Int) < (L0.length : Int) then (520 : Int) else (L0.length : Int)) == Int.ofNat ((if (520 : Int) < (L0.length : Int) then (520 : Int) else (L0.length : Int))).toNat, true), (dS 0, true)]) (by kernel_rfl) (oT <| Zb (Zf6 (x := y2_0) (y := y3_0) (by assumption)) <| oT <| Zb (Zf6 (x := y0_0) (y := y1_0) (by assumption)) <| Zb (Zg (Zaw #[Value.agg #[vi a1, vi a2, vi a3, vi a4]] (a1) (a2) (a3) (a4)  y3_0 y3_1 N c3  1 rfl (by decide) (by decide))) <| Zb (Zg (Zbz #[Value.agg #[vi a1, vi a2, vi a3, vi a4]] (a1) (a2) (a3) (a4)  y2_0 y2_1 N c2  1 rfl (by decide) (by decide))) <| Zb (Zg (Zcq #[ms E_iiii (L0.take ((if (520 : Int) < (L0.length : Int) then (520 : Int) else (L0.length : Int))).toNat)] ((L0.take ((if (520 : Int) < (L0.length : Int) then (520 : Int) else (L0.length : Int))).toNat))  y1_0 y1_1 N c1  1 rfl (by decide) (by decide))) <| Zb (Zg (ZcQ #[ms E_iiii (L0.take ((if (520 : Int) < (L0.length : Int) then (520 : Int) else (L0.length : Int))).toNat)] ((L0.take ((if (520 : Int) < (L0.length : Int) then (520 : Int) else (L0.length : Int))).toNat))  y0_0 y0_1 N c0  1 rfl (by decide) (by decide))) <| Zb (Zg (Zkw (E := E_iiii) (L := L0) (R := (L0.take ((if (520 : Int) < (L0.length : Int) then (520 : Int) else (L0.length : Int))).toNat)) (l := 0) (h := ((if (520 : Int) < (L0.length : Int) then (520 : Int) else (L0.length : Int))).toNat) (size := 4) ltA ltA (by decide) (by simp))) <| oI <| oR Ze) rfl (by decide) (by rfl) rr trivial
        ·
         exact Zdt (r := (.r0 (false) : Zal)) (fu := 4000) (orc := (Zk [(0, true), (1, true), (2, true), (3, false)] [] [] [] [(0, .ms 0 ((if (520 : Int) < (L0.length : Int) then (520 : Int) else (L0.length : Int))).toNat (L0.take ((if (520 : Int) < (L0.length : Int) then (520 : Int) else (L0.length : Int))).toNat).length (ZE E_iiii (L0.take ((if (520 : Int) < (L0.length : Int) then (520 : Int) else (L0.length : Int))).toNat))), (1, (ZcP ((L0.take ((if (520 : Int) < (L0.length : Int) then (520 : Int) else (L0.length : Int))).toNat))  y0_0 y0_1  1)), (2, (Zcp ((L0.take ((if (520 : Int) < (L0.length : Int) then (520 : Int) else (L0.length : Int))).toNat))  y1_0 y1_1  1)), (3, (Zby (a1) (a2) (a3) (a4)  y2_0 y2_1  1)), (4, (Zav (a1) (a2) (a3) (a4)  y3_0 y3_1  1))])) (live := []) (u := vf) (bl := []) (ob := [((y2_1 == y3_1), false), (((Za y2_0).toList == (Za y3_0).toList), true), ((y0_1 == y1_1), true), (((Za y0_0).toList == (Za y1_0).toList), true), (dP (Zap #[Value.agg #[vi a1, vi a2, vi a3, vi a4]] (a1) (a2) (a3) (a4)  y3_0 y3_1  1), true), (dP (Zbn #[Value.agg #[vi a1, vi a2, vi a3, vi a4]] (a1) (a2) (a3) (a4)  y2_0 y2_1  1), true), (dP (ZbC #[ms E_iiii (L0.take ((if (520 : Int) < (L0.length : Int) then (520 : Int) else (L0.length : Int))).toNat)] ((L0.take ((if (520 : Int) < (L0.length : Int) then (520 : Int) else (L0.length : Int))).toNat))  y1_0 y1_1  1), true), (dP (Zcv #[ms E_iiii (L0.take ((if (520 : Int) < (L0.length : Int) then (520 : Int) else (L0.length : Int))).toNat)] ((L0.take ((if (520 : Int) < (L0.length : Int) then (520 : Int) else (L0.length : Int))).toNat))  y0_0 y0_1  1), true), (dP (0 ≤ ((if (520 : Int) < (L0.length : Int) then (520 : Int) else (L0.length : Int))).toNat ∧ ((if (520 : Int) < (L0.length : Int) then (520 : Int) else (L0.length : Int))).toNat ≤ L0.length ∧ ZP (code (ZE E_iiii L0)) (0 + 0 * 4) (ZE E_iiii (L0.take ((if (520 : Int) < (L0.length : Int) then (520 : Int) else (L0.length : Int))).toNat)).length = some (ZE E_iiii (L0.take ((if (520 : Int) < (L0.length : Int) then (520 : Int) else (L0.length : Int))).toNat)) ∧ (((if (520 : Int) < (L0.length : Int) then (520 : Int) else (L0.length : Int))).toNat - 0) * 4 = (ZE E_iiii (L0.take ((if (520 : Int) < (L0.length : Int) then (520 : Int) else (L0.length : Int))).toNat)).length ∧ (L0.take ((if (520 : Int) < (L0.length : Int) then (520 : Int) else (L0.length : Int))).toNat).length = ((if (520 : Int) < (L0.length : Int) then (520 : Int) else (L0.length : Int))).toNat - 0), true), ((if (520 : Int) < (L0.length : Int) then (520 : Int) else (L0.length : Int)) == Int.ofNat ((if (520 : Int) < (L0.length : Int) then (520 : Int) else (L0.length : Int))).toNat, true), (dS 0, true)]) (by kernel_rfl) (oF <| Zb (Zf6 (x := y2_0) (y := y3_0) (by assumption)) <| oT <| Zb (Zf6 (x := y0_0) (y := y1_0) (by assumption)) <| Zb (Zg (Zaw #[Value.agg #[vi a1, vi a2, vi a3, vi a4]] (a1) (a2) (a3) (a4)  y3_0 y3_1 N c3  1 rfl (by decide) (by decide))) <| Zb (Zg (Zbz #[Value.agg #[vi a1, vi a2, vi a3, vi a4]] (a1) (a2) (a3) (a4)  y2_0 y2_1 N c2  1 rfl (by decide) (by decide))) <| Zb (Zg (Zcq #[ms E_iiii (L0.take ((if (520 : Int) < (L0.length : Int) then (520 : Int) else (L0.length : Int))).toNat)] ((L0.take ((if (520 : Int) < (L0.length : Int) then (520 : Int) else (L0.length : Int))).toNat))  y1_0 y1_1 N c1  1 rfl (by decide) (by decide))) <| Zb (Zg (ZcQ #[ms E_iiii (L0.take ((if (520 : Int) < (L0.length : Int) then (520 : Int) else (L0.length : Int))).toNat)] ((L0.take ((if (520 : Int) < (L0.length : Int) then (520 : Int) else (L0.length : Int))).toNat))  y0_0 y0_1 N c0  1 rfl (by decide) (by decide))) <| Zb (Zg (Zkw (E := E_iiii) (L := L0) (R := (L0.take ((if (520 : Int) < (L0.length : Int) then (520 : Int) else (L0.length : Int))).toNat)) (l := 0) (h := ((if (520 : Int) < (L0.length : Int) then (520 : Int) else (L0.length : Int))).toNat) (size := 4) ltA ltA (by decide) (by simp))) <| oI <| oR Ze) rfl (by decide) (by rfl) rr trivial
       ·
        exact Zdt (r := (.r0 (false) : Zal)) (fu := 4000) (orc := (Zk [(0, true), (1, true), (2, false)] [] [] [] [(0, .ms 0 ((if (520 : Int) < (L0.length : Int) then (520 : Int) else (L0.length : Int))).toNat (L0.take ((if (520 : Int) < (L0.length : Int) then (520 : Int) else (L0.length : Int))).toNat).length (ZE E_iiii (L0.take ((if (520 : Int) < (L0.length : Int) then (520 : Int) else (L0.length : Int))).toNat))), (1, (ZcP ((L0.take ((if (520 : Int) < (L0.length : Int) then (520 : Int) else (L0.length : Int))).toNat))  y0_0 y0_1  1)), (2, (Zcp ((L0.take ((if (520 : Int) < (L0.length : Int) then (520 : Int) else (L0.length : Int))).toNat))  y1_0 y1_1  1)), (3, (Zby (a1) (a2) (a3) (a4)  y2_0 y2_1  1)), (4, (Zav (a1) (a2) (a3) (a4)  y3_0 y3_1  1))])) (live := []) (u := vf) (bl := []) (ob := [(((Za y2_0).toList == (Za y3_0).toList), false), ((y0_1 == y1_1), true), (((Za y0_0).toList == (Za y1_0).toList), true), (dP (Zap #[Value.agg #[vi a1, vi a2, vi a3, vi a4]] (a1) (a2) (a3) (a4)  y3_0 y3_1  1), true), (dP (Zbn #[Value.agg #[vi a1, vi a2, vi a3, vi a4]] (a1) (a2) (a3) (a4)  y2_0 y2_1  1), true), (dP (ZbC #[ms E_iiii (L0.take ((if (520 : Int) < (L0.length : Int) then (520 : Int) else (L0.length : Int))).toNat)] ((L0.take ((if (520 : Int) < (L0.length : Int) then (520 : Int) else (L0.length : Int))).toNat))  y1_0 y1_1  1), true), (dP (Zcv #[ms E_iiii (L0.take ((if (520 : Int) < (L0.length : Int) then (520 : Int) else (L0.length : Int))).toNat)] ((L0.take ((if (520 : Int) < (L0.length : Int) then (520 : Int) else (L0.length : Int))).toNat))  y0_0 y0_1  1), true), (dP (0 ≤ ((if (520 : Int) < (L0.length : Int) then (520 : Int) else (L0.length : Int))).toNat ∧ ((if (520 : Int) < (L0.length : Int) then (520 : Int) else (L0.length : Int))).toNat ≤ L0.length ∧ ZP (code (ZE E_iiii L0)) (0 + 0 * 4) (ZE E_iiii (L0.take ((if (520 : Int) < (L0.length : Int) then (520 : Int) else (L0.length : Int))).toNat)).length = some (ZE E_iiii (L0.take ((if (520 : Int) < (L0.length : Int) then (520 : Int) else (L0.length : Int))).toNat)) ∧ (((if (520 : Int) < (L0.length : Int) then (520 : Int) else (L0.length : Int))).toNat - 0) * 4 = (ZE E_iiii (L0.take ((if (520 : Int) < (L0.length : Int) then (520 : Int) else (L0.length : Int))).toNat)).length ∧ (L0.take ((if (520 : Int) < (L0.length : Int) then (520 : Int) else (L0.length : Int))).toNat).length = ((if (520 : Int) < (L0.length : Int) then (520 : Int) else (L0.length : Int))).toNat - 0), true), ((if (520 : Int) < (L0.length : Int) then (520 : Int) else (L0.length : Int)) == Int.ofNat ((if (520 : Int) < (L0.length : Int) then (520 : Int) else (L0.length : Int))).toNat, true), (dS 0, true)]) (by kernel_rfl) (Zb (Zsx (x := y2_0) (y := y3_0) (by assumption)) <| oT <| Zb (Zf6 (x := y0_0) (y := y1_0) (by assumption)) <| Zb (Zg (Zaw #[Value.agg #[vi a1, vi a2, vi a3, vi a4]] (a1) (a2) (a3) (a4)  y3_0 y3_1 N c3  1 rfl (by decide) (by decide))) <| Zb (Zg (Zbz #[Value.agg #[vi a1, vi a2, vi a3, vi a4]] (a1) (a2) (a3) (a4)  y2_0 y2_1 N c2  1 rfl (by decide) (by decide))) <| Zb (Zg (Zcq #[ms E_iiii (L0.take ((if (520 : Int) < (L0.length : Int) then (520 : Int) else (L0.length : Int))).toNat)] ((L0.take ((if (520 : Int) < (L0.length : Int) then (520 : Int) else (L0.length : Int))).toNat))  y1_0 y1_1 N c1  1 rfl (by decide) (by decide))) <| Zb (Zg (ZcQ #[ms E_iiii (L0.take ((if (520 : Int) < (L0.length : Int) then (520 : Int) else (L0.length : Int))).toNat)] ((L0.take ((if (520 : Int) < (L0.length : Int) then (520 : Int) else (L0.length : Int))).toNat))  y0_0 y0_1 N c0  1 rfl (by decide) (by decide))) <| Zb (Zg (Zkw (E := E_iiii) (L := L0) (R := (L0.take ((if (520 : Int) < (L0.length : Int) then (520 : Int) else (L0.length : Int))).toNat)) (l := 0) (h := ((if (520 : Int) < (L0.length : Int) then (520 : Int) else (L0.length : Int))).toNat) (size := 4) ltA ltA (by decide) (by simp))) <| oI <| oR Ze) rfl (by decide) (by rfl) rr trivial
      ·
       exact Zdt (r := (.r0 (false) : Zal)) (fu := 4000) (orc := (Zk [(0, true), (1, false)] [] [] [] [(0, .ms 0 ((if (520 : Int) < (L0.length : Int) then (520 : Int) else (L0.length : Int))).toNat (L0.take ((if (520 : Int) < (L0.length : Int) then (520 : Int) else (L0.length : Int))).toNat).length (ZE E_iiii (L0.take ((if (520 : Int) < (L0.length : Int) then (520 : Int) else (L0.length : Int))).toNat))), (1, (ZcP ((L0.take ((if (520 : Int) < (L0.length : Int) then (520 : Int) else (L0.length : Int))).toNat))  y0_0 y0_1  1)), (2, (Zcp ((L0.take ((if (520 : Int) < (L0.length : Int) then (520 : Int) else (L0.length : Int))).toNat))  y1_0 y1_1  1)), (3, (Zby (a1) (a2) (a3) (a4)  y2_0 y2_1  1)), (4, (Zav (a1) (a2) (a3) (a4)  y3_0 y3_1  1))])) (live := []) (u := vf) (bl := []) (ob := [((y0_1 == y1_1), false), (((Za y0_0).toList == (Za y1_0).toList), true), (dP (Zap #[Value.agg #[vi a1, vi a2, vi a3, vi a4]] (a1) (a2) (a3) (a4)  y3_0 y3_1  1), true), (dP (Zbn #[Value.agg #[vi a1, vi a2, vi a3, vi a4]] (a1) (a2) (a3) (a4)  y2_0 y2_1  1), true), (dP (ZbC #[ms E_iiii (L0.take ((if (520 : Int) < (L0.length : Int) then (520 : Int) else (L0.length : Int))).toNat)] ((L0.take ((if (520 : Int) < (L0.length : Int) then (520 : Int) else (L0.length : Int))).toNat))  y1_0 y1_1  1), true), (dP (Zcv #[ms E_iiii (L0.take ((if (520 : Int) < (L0.length : Int) then (520 : Int) else (L0.length : Int))).toNat)] ((L0.take ((if (520 : Int) < (L0.length : Int) then (520 : Int) else (L0.length : Int))).toNat))  y0_0 y0_1  1), true), (dP (0 ≤ ((if (520 : Int) < (L0.length : Int) then (520 : Int) else (L0.length : Int))).toNat ∧ ((if (520 : Int) < (L0.length : Int) then (520 : Int) else (L0.length : Int))).toNat ≤ L0.length ∧ ZP (code (ZE E_iiii L0)) (0 + 0 * 4) (ZE E_iiii (L0.take ((if (520 : Int) < (L0.length : Int) then (520 : Int) else (L0.length : Int))).toNat)).length = some (ZE E_iiii (L0.take ((if (520 : Int) < (L0.length : Int) then (520 : Int) else (L0.length : Int))).toNat)) ∧ (((if (520 : Int) < (L0.length : Int) then (520 : Int) else (L0.length : Int))).toNat - 0) * 4 = (ZE E_iiii (L0.take ((if (520 : Int) < (L0.length : Int) then (520 : Int) else (L0.length : Int))).toNat)).length ∧ (L0.take ((if (520 : Int) < (L0.length : Int) then (520 : Int) else (L0.length : Int))).toNat).length = ((if (520 : Int) < (L0.length : Int) then (520 : Int) else (L0.length : Int))).toNat - 0), true), ((if (520 : Int) < (L0.length : Int) then (520 : Int) else (L0.length : Int)) == Int.ofNat ((if (520 : Int) < (L0.length : Int) then (520 : Int) else (L0.length : Int))).toNat, true), (dS 0, true)]) (by kernel_rfl) (oF <| Zb (Zf6 (x := y0_0) (y := y1_0) (by assumption)) <| Zb (Zg (Zaw #[Value.agg #[vi a1, vi a2, vi a3, vi a4]] (a1) (a2) (a3) (a4)  y3_0 y3_1 N c3  1 rfl (by decide) (by decide))) <| Zb (Zg (Zbz #[Value.agg #[vi a1, vi a2, vi a3, vi a4]] (a1) (a2) (a3) (a4)  y2_0 y2_1 N c2  1 rfl (by decide) (by decide))) <| Zb (Zg (Zcq #[ms E_iiii (L0.take ((if (520 : Int) < (L0.length : Int) then (520 : Int) else (L0.length : Int))).toNat)] ((L0.take ((if (520 : Int) < (L0.length : Int) then (520 : Int) else (L0.length : Int))).toNat))  y1_0 y1_1 N c1  1 rfl (by decide) (by decide))) <| Zb (Zg (ZcQ #[ms E_iiii (L0.take ((if (520 : Int) < (L0.length : Int) then (520 : Int) else (L0.length : Int))).toNat)] ((L0.take ((if (520 : Int) < (L0.length : Int) then (520 : Int) else (L0.length : Int))).toNat))  y0_0 y0_1 N c0  1 rfl (by decide) (by decide))) <| Zb (Zg (Zkw (E := E_iiii) (L := L0) (R := (L0.take ((if (520 : Int) < (L0.length : Int) then (520 : Int) else (L0.length : Int))).toNat)) (l := 0) (h := ((if (520 : Int) < (L0.length : Int) then (520 : Int) else (L0.length : Int))).toNat) (size := 4) ltA ltA (by decide) (by simp))) <| oI <| oR Ze) rfl (by decide) (by rfl) rr trivial
     ·
      exact Zdt (r := (.r0 (false) : Zal)) (fu := 4000) (orc := (Zk [(0, false)] [] [] [] [(0, .ms 0 ((if (520 : Int) < (L0.length : Int) then (520 : Int) else (L0.length : Int))).toNat (L0.take ((if (520 : Int) < (L0.length : Int) then (520 : Int) else (L0.length : Int))).toNat).length (ZE E_iiii (L0.take ((if (520 : Int) < (L0.length : Int) then (520 : Int) else (L0.length : Int))).toNat))), (1, (ZcP ((L0.take ((if (520 : Int) < (L0.length : Int) then (520 : Int) else (L0.length : Int))).toNat))  y0_0 y0_1  1)), (2, (Zcp ((L0.take ((if (520 : Int) < (L0.length : Int) then (520 : Int) else (L0.length : Int))).toNat))  y1_0 y1_1  1)), (3, (Zby (a1) (a2) (a3) (a4)  y2_0 y2_1  1)), (4, (Zav (a1) (a2) (a3) (a4)  y3_0 y3_1  1))])) (live := []) (u := vf) (bl := []) (ob := [(((Za y0_0).toList == (Za y1_0).toList), false), (dP (Zap #[Value.agg #[vi a1, vi a2, vi a3, vi a4]] (a1) (a2) (a3) (a4)  y3_0 y3_1  1), true), (dP (Zbn #[Value.agg #[vi a1, vi a2, vi a3, vi a4]] (a1) (a2) (a3) (a4)  y2_0 y2_1  1), true), (dP (ZbC #[ms E_iiii (L0.take ((if (520 : Int) < (L0.length : Int) then (520 : Int) else (L0.length : Int))).toNat)] ((L0.take ((if (520 : Int) < (L0.length : Int) then (520 : Int) else (L0.length : Int))).toNat))  y1_0 y1_1  1), true), (dP (Zcv #[ms E_iiii (L0.take ((if (520 : Int) < (L0.length : Int) then (520 : Int) else (L0.length : Int))).toNat)] ((L0.take ((if (520 : Int) < (L0.length : Int) then (520 : Int) else (L0.length : Int))).toNat))  y0_0 y0_1  1), true), (dP (0 ≤ ((if (520 : Int) < (L0.length : Int) then (520 : Int) else (L0.length : Int))).toNat ∧ ((if (520 : Int) < (L0.length : Int) then (520 : Int) else (L0.length : Int))).toNat ≤ L0.length ∧ ZP (code (ZE E_iiii L0)) (0 + 0 * 4) (ZE E_iiii (L0.take ((if (520 : Int) < (L0.length : Int) then (520 : Int) else (L0.length : Int))).toNat)).length = some (ZE E_iiii (L0.take ((if (520 : Int) < (L0.length : Int) then (520 : Int) else (L0.length : Int))).toNat)) ∧ (((if (520 : Int) < (L0.length : Int) then (520 : Int) else (L0.length : Int))).toNat - 0) * 4 = (ZE E_iiii (L0.take ((if (520 : Int) < (L0.length : Int) then (520 : Int) else (L0.length : Int))).toNat)).length ∧ (L0.take ((if (520 : Int) < (L0.length : Int) then (520 : Int) else (L0.length : Int))).toNat).length = ((if (520 : Int) < (L0.length : Int) then (520 : Int) else (L0.length : Int))).toNat - 0), true), ((if (520 : Int) < (L0.length : Int) then (520 : Int) else (L0.length : Int)) == Int.ofNat ((if (520 : Int) < (L0.length : Int) then (520 : Int) else (L0.length : Int))).toNat, true), (dS 0, true)]) (by kernel_rfl) (Zb (Zsx (x := y0_0) (y := y1_0) (by assumption)) <| Zb (Zg (Zaw #[Value.agg #[vi a1, vi a2, vi a3, vi a4]] (a1) (a2) (a3) (a4)  y3_0 y3_1 N c3  1 rfl (by decide) (by decide))) <| Zb (Zg (Zbz #[Value.agg #[vi a1, vi a2, vi a3, vi a4]] (a1) (a2) (a3) (a4)  y2_0 y2_1 N c2  1 rfl (by decide) (by decide))) <| Zb (Zg (Zcq #[ms E_iiii (L0.take ((if (520 : Int) < (L0.length : Int) then (520 : Int) else (L0.length : Int))).toNat)] ((L0.take ((if (520 : Int) < (L0.length : Int) then (520 : Int) else (L0.length : Int))).toNat))  y1_0 y1_1 N c1  1 rfl (by decide) (by decide))) <| Zb (Zg (ZcQ #[ms E_iiii (L0.take ((if (520 : Int) < (L0.length : Int) then (520 : Int) else (L0.length : Int))).toNat)] ((L0.take ((if (520 : Int) < (L0.length : Int) then (520 : Int) else (L0.length : Int))).toNat))  y0_0 y0_1 N c0  1 rfl (by decide) (by decide))) <| Zb (Zg (Zkw (E := E_iiii) (L := L0) (R := (L0.take ((if (520 : Int) < (L0.length : Int) then (520 : Int) else (L0.length : Int))).toNat)) (l := 0) (h := ((if (520 : Int) < (L0.length : Int) then (520 : Int) else (L0.length : Int))).toNat) (size := 4) ltA ltA (by decide) (by simp))) <| oI <| oR Ze) rfl (by decide) (by rfl) rr trivial

theorem ZfS (L0 : List RA) (a1 a2 a3 a4 : Int) (N : Nat) (r : Zal) (h : ZbL L0 a1 a2 a3 a4 N = some r) : LSpec Tryz.prog 3 #[ms E_iiii L0, Value.agg #[vi a1, vi a2, vi a3, vi a4]] [] (ZeO L0 a1 a2 a3 a4 r) (Zeh L0 a1 a2 a3 a4 r) :=
 Zlj Zdu Tryz.func3 (by kernel_rfl) (by kernel_rfl) (fun r => by cases r <;> exact ZbW _ rfl) (ZgL L0 a1 a2 a3 a4 N) h

end Ev
end Go.Proofs.YtaifklllpehnmaaGreatDoor
/- Numbers' texts, and instructions' lines. -/
namespace Go.Proofs.YtaifklllpehnmaaGreatDoor
open Go.RowKit
namespace Ev
set_option linter.unusedVariables false
theorem Za1 (a b : List Int) : Za8 (a ++ b) = (Za8 a && Za8 b) := by simp [Za8, List.all_append]
theorem ZlG (N : Nat) : ∀ (f g d u : Nat), u < 10 ^ f → 0 < f → f ≤ 19 → f ≤ g → f ≤ d → Zbx N d (u : Int) = some (.r0 (Zee g u)) ∧ (Zee g u).length ≤ f ∧ Za8 (Zee g u) = true ∧ 0 < (Zee g u).length
 | 0, _, _, _, _, h, _, _, _ => by omega
 | f + 1, 0, _, _, _, _, _, h, _ => by omega
 | f + 1, _, 0, _, _, _, _, _, h => by omega
 | f + 1, g + 1, d + 1, u, hu, _, hf, hg, hd => by
  have e : Zbx N (d + 1) (u : Int) = Zcm (Zbx N d) (u : Int) N := rfl
  rw [e]
  unfold Zcm Zee
  rw [if_neg (by omega)]
  by_cases h10 : u < 10
  ·rw [if_pos (by omega), if_pos h10]
   refine ⟨?_, by simp, ?_, by simp⟩
   ·have : (48 : Int) + (u : Int) = ((48 + u : Nat) : Int) := by omega
    rw [this]
   ·unfold Za8
    simp only [List.all_cons, List.all_nil, Bool.and_true, Bool.and_eq_true, decide_eq_true_eq]
    omega
  ·have h19 : (u : Int) / 10 ≤ 9223372036854775807 := by
    have h1 : u < 10 ^ 19 := Nat.lt_of_lt_of_le hu (Nat.pow_le_pow_right (by omega) hf)
    have h2 : (10 : Nat) ^ 19 = 10000000000000000000 := by decide
    omega
   rw [if_neg (by omega), if_neg h10, if_pos h19]
   have hf0 : 0 < f := by
    rcases Nat.eq_zero_or_pos f with rfl | h
    ·simp at hu; omega
    ·exact h
   have e1 : (u : Int) / 10 = ((u / 10 : Nat) : Int) := by omega
   have e2 : (48 : Int) + (u : Int) % 10 = ((48 + u % 10 : Nat) : Int) := by omega
   have hu2 : u / 10 < 10 ^ f := by
    rw [Nat.pow_succ] at hu
    exact Nat.div_lt_of_lt_mul (by omega)
   obtain ⟨i1, i2, i3, i4⟩ := ZlG N f g d (u / 10) hu2 hf0 (by omega) (by omega) (by omega)
   rw [e1, e2, i1]
   simp only [Option.bind_some]
   rw [if_pos (by omega)]
   refine ⟨rfl, by simp only [List.length_append, List.length_cons, List.length_nil]; omega, ?_, by simp only [List.length_append, List.length_cons, List.length_nil]; omega⟩
   rw [Za1, i3]
   unfold Za8
   simp only [List.all_cons, List.all_nil, Bool.and_true, Bool.true_and, Bool.and_eq_true, decide_eq_true_eq]
   omega
theorem Zan {N : Nat} (hN : 30 ≤ N) {n : Int} (h0 : -1099511627776 ≤ n) (h1 : n ≤ 1099511627776) : Zy n N = some (.r0 (Zf n)) ∧ (Zf n).length ≤ 14 ∧ Za8 (Zf n) = true ∧ 0 < (Zf n).length := by
 unfold Zy Zf
 by_cases hn : n < 0
 ·rw [if_pos hn]
  obtain ⟨M, rfl⟩ : ∃ M, N = M + 1 := ⟨N - 1, by omega⟩
  have e : Zbx (M + 1) (M + 1) n = Zcm (Zbx (M + 1) M) n (M + 1) := rfl
  have hu : n.natAbs < 10 ^ 13 := by
   have : (10 : Nat) ^ 13 = 10000000000000 := by decide
   omega
  obtain ⟨i1, i2, i3, i4⟩ := ZlG (M + 1) 13 20 M n.natAbs hu (by omega) (by omega) (by omega) (by omega)
  have e1 : IntKind.i64.wrap ((0 : Int) - n) = (n.natAbs : Int) := by
   rw [wrap_i64 (by omega)]
   omega
  rw [e]
  unfold Zcm
  rw [if_pos hn, e1, i1]
  simp only [Option.bind_some]
  rw [if_pos (by omega)]
  refine ⟨rfl, by simp only [List.length_cons]; omega, ?_, by simp⟩
  show Za8 ([45] ++ Zee 20 n.natAbs) = true
  rw [Za1, i3]; rfl
 ·rw [if_neg hn]
  have hu : n.toNat < 10 ^ 13 := by
   have : (10 : Nat) ^ 13 = 10000000000000 := by decide
   omega
  obtain ⟨i1, i2, i3, i4⟩ := ZlG N 13 20 N n.toNat hu (by omega) (by omega) (by omega) (by omega)
  rw [Int.toNat_of_nonneg (by omega)] at i1
  exact ⟨i1, by omega, i3, i4⟩
theorem Zuh (n : Nat) (h : 1 ≤ n) (h2 : n ≤ 16) : ((2 : Int) ^ n) = ((2 ^ n : Nat) : Int) ∧ 2 ≤ 2 ^ n ∧ 2 ^ n ≤ 65536 := by
 refine ⟨by simp, ?_, ?_⟩
 ·calc 2 = 2 ^ 1 := rfl
   _ ≤ 2 ^ n := Nat.pow_le_pow_right (by omega) h
 ·calc 2 ^ n ≤ 2 ^ 16 := Nat.pow_le_pow_right (by omega) h2
   _ = 65536 := by decide
theorem Ztn {a2 : Int} (h1 : 1 ≤ a2) (h2 : a2 ≤ 16) : ∃ p : Int, IntKind.i64.wrap ((1 : Int) * (2 ^ a2.toNat : Int)) = p ∧ IntKind.i64.wrap (p - (1 : Int)) = p - 1 ∧ 2 ≤ p ∧ p ≤ 65536 := by
 obtain ⟨q1, q2, q3⟩ := Zuh a2.toNat (by omega) (by omega)
 refine ⟨((2 ^ a2.toNat : Nat) : Int), ?_, ?_, by omega, by omega⟩
 ·rw [q1, Int.one_mul, wrap_i64 (by omega)]
 ·rw [wrap_i64 (by omega)]
def LnOK (x : Option Z0) (y : Option Zx) : Prop := ∃ l e, x = some (.r0 l e) ∧ y = some (.r0 l e) ∧ Za8 l = true ∧ l.length ≤ 80
theorem LnOK.bad : LnOK (some (.r0 (([] : List Int)) ((100 : Int)) : Z0)) (some (.r0 (([] : List Int)) ((100 : Int)) : Zx)) := ⟨[], 100, rfl, rfl, rfl, by simp⟩
theorem LnOK.good {l l' : List Int} (h : l' = l) (hb : Za8 l = true) (hl : l.length ≤ 80) : LnOK (some (.r0 l ((0 : Int)) : Z0)) (some (.r0 l' ((0 : Int)) : Zx)) := ⟨l, 0, rfl, by rw [h], hb, hl⟩
def CkOK (x : Option Zc) (y : Option Zh) (z : Prop) : Prop := (x = some (.r0 0) ∧ y = some (.r0 true) ∧ z) ∨ (x = some (.r0 100) ∧ y = some (.r0 false))
theorem CkOK.bad {z : Prop} : CkOK (some (.r0 ((100 : Int)) : Zc)) (some (.r0 (false) : Zh)) z := .inr ⟨rfl, rfl⟩
theorem CkOK.good {z : Prop} (h : z) : CkOK (some (.r0 ((0 : Int)) : Zc)) (some (.r0 (true) : Zh)) z := .inl ⟨rfl, rfl, h⟩
def Bd (a0 a1 a2 a3 : Int) : Prop := (-1099511627776 ≤ a1 ∧ a1 ≤ 1099511627776) ∧ (-1099511627776 ≤ a2 ∧ a2 ≤ 1099511627776) ∧ (-1099511627776 ≤ a3 ∧ a3 ≤ 1099511627776) ∧ (a0 = 8 → 0 ≤ a1) ∧ (a0 = 9 → 0 ≤ a2)
section
variable {a1 a2 a3 : Int} {N : Nat}
set_option maxHeartbeats 4000000 in
theorem ck_1 : CkOK (Zp 1 a1 a2 a3 N) (Zw 1 a1 a2 a3 N) (Bd 1 a1 a2 a3) := by
 unfold Zp Zw
 simp only [Int.reduceLT, Int.reduceLE, Int.reduceEq, Int.reduceNeg, reduceIte]
 repeat' split
 all_goals first
  | exact CkOK.bad
  | (exfalso; omega)
  | exact CkOK.good ⟨⟨by omega, by omega⟩, ⟨by omega, by omega⟩, ⟨by omega, by omega⟩, fun h => absurd h (by decide), fun h => absurd h (by decide)⟩
theorem ln_1 (hN : 30 ≤ N) (c1 : Zp 1 a1 a2 a3 N = some (.r0 0)) (c2 : Zw 1 a1 a2 a3 N = some (.r0 true)) (hb : Bd 1 a1 a2 a3) : LnOK (ZC 1 a1 a2 a3 N) (Z1 1 a1 a2 a3 N) := by
 unfold ZC Z1
 rw [c1, c2]
 simp only [Option.bind_some, Int.reduceLT, Int.reduceLE, Int.reduceEq, Int.reduceNeg, not_true_eq_false, reduceIte]
 obtain ⟨q1, q2, q3, _, _⟩ := hb
 obtain ⟨n1, l1, b1, z1⟩ := Zan hN q1.1 q1.2
 obtain ⟨n2, l2, b2, z2⟩ := Zan hN q2.1 q2.2
 simp only [n1, n2, Option.bind_some]
 repeat rw [if_pos (by omega)]
 exact LnOK.good (by simp only [bl, List.append_assoc, List.cons_append, List.nil_append]) (by simp only [Za1, b1, b2, Bool.and_true]; rfl) (by simp only [bl, List.length_append, List.length_cons, List.length_nil]; omega)
set_option maxHeartbeats 4000000 in
theorem ck_2 : CkOK (Zp 2 a1 a2 a3 N) (Zw 2 a1 a2 a3 N) (Bd 2 a1 a2 a3) := by
 unfold Zp Zw
 simp only [Int.reduceLT, Int.reduceLE, Int.reduceEq, Int.reduceNeg, reduceIte]
 repeat' split
 all_goals first
  | exact CkOK.bad
  | (exfalso; omega)
  | exact CkOK.good ⟨⟨by omega, by omega⟩, ⟨by omega, by omega⟩, ⟨by omega, by omega⟩, fun h => absurd h (by decide), fun h => absurd h (by decide)⟩
theorem ln_2 (hN : 30 ≤ N) (c1 : Zp 2 a1 a2 a3 N = some (.r0 0)) (c2 : Zw 2 a1 a2 a3 N = some (.r0 true)) (hb : Bd 2 a1 a2 a3) : LnOK (ZC 2 a1 a2 a3 N) (Z1 2 a1 a2 a3 N) := by
 unfold ZC Z1
 rw [c1, c2]
 simp only [Option.bind_some, Int.reduceLT, Int.reduceLE, Int.reduceEq, Int.reduceNeg, not_true_eq_false, reduceIte]
 obtain ⟨q1, q2, q3, _, _⟩ := hb
 obtain ⟨n1, l1, b1, z1⟩ := Zan hN q1.1 q1.2
 simp only [n1, Option.bind_some]
 repeat rw [if_pos (by omega)]
 exact LnOK.good (by simp only [bl, List.append_assoc, List.cons_append, List.nil_append]) (by simp only [Za1, b1, Bool.and_true]; rfl) (by simp only [bl, List.length_append, List.length_cons, List.length_nil]; omega)
set_option maxHeartbeats 4000000 in
theorem ck_3 : CkOK (Zp 3 a1 a2 a3 N) (Zw 3 a1 a2 a3 N) (Bd 3 a1 a2 a3) := by
 unfold Zp Zw
 simp only [Int.reduceLT, Int.reduceLE, Int.reduceEq, Int.reduceNeg, reduceIte]
 repeat' split
 all_goals first
  | exact CkOK.bad
  | (exfalso; omega)
  | exact CkOK.good ⟨⟨by omega, by omega⟩, ⟨by omega, by omega⟩, ⟨by omega, by omega⟩, fun h => absurd h (by decide), fun h => absurd h (by decide)⟩
theorem ln_3 (hN : 30 ≤ N) (c1 : Zp 3 a1 a2 a3 N = some (.r0 0)) (c2 : Zw 3 a1 a2 a3 N = some (.r0 true)) (hb : Bd 3 a1 a2 a3) : LnOK (ZC 3 a1 a2 a3 N) (Z1 3 a1 a2 a3 N) := by
 unfold ZC Z1
 rw [c1, c2]
 simp only [Option.bind_some, Int.reduceLT, Int.reduceLE, Int.reduceEq, Int.reduceNeg, not_true_eq_false, reduceIte]
 obtain ⟨q1, q2, q3, _, _⟩ := hb
 obtain ⟨n1, l1, b1, z1⟩ := Zan hN q1.1 q1.2
 obtain ⟨n2, l2, b2, z2⟩ := Zan hN q2.1 q2.2
 simp only [n1, n2, Option.bind_some]
 repeat rw [if_pos (by omega)]
 exact LnOK.good (by simp only [bl, List.append_assoc, List.cons_append, List.nil_append]) (by simp only [Za1, b1, b2, Bool.and_true]; rfl) (by simp only [bl, List.length_append, List.length_cons, List.length_nil]; omega)
set_option maxHeartbeats 4000000 in
theorem ck_4 : CkOK (Zp 4 a1 a2 a3 N) (Zw 4 a1 a2 a3 N) (Bd 4 a1 a2 a3) := by
 unfold Zp Zw
 simp only [Int.reduceLT, Int.reduceLE, Int.reduceEq, Int.reduceNeg, reduceIte]
 repeat' split
 all_goals first
  | exact CkOK.bad
  | (exfalso; omega)
  | exact CkOK.good ⟨⟨by omega, by omega⟩, ⟨by omega, by omega⟩, ⟨by omega, by omega⟩, fun h => absurd h (by decide), fun h => absurd h (by decide)⟩
theorem ln_4 (hN : 30 ≤ N) (c1 : Zp 4 a1 a2 a3 N = some (.r0 0)) (c2 : Zw 4 a1 a2 a3 N = some (.r0 true)) (hb : Bd 4 a1 a2 a3) : LnOK (ZC 4 a1 a2 a3 N) (Z1 4 a1 a2 a3 N) := by
 unfold ZC Z1
 rw [c1, c2]
 simp only [Option.bind_some, Int.reduceLT, Int.reduceLE, Int.reduceEq, Int.reduceNeg, not_true_eq_false, reduceIte]
 obtain ⟨q1, q2, q3, _, _⟩ := hb
 obtain ⟨n1, l1, b1, z1⟩ := Zan hN q1.1 q1.2
 obtain ⟨n2, l2, b2, z2⟩ := Zan hN q2.1 q2.2
 obtain ⟨n3, l3, b3, z3⟩ := Zan hN q3.1 q3.2
 simp only [n1, n2, n3, Option.bind_some]
 repeat rw [if_pos (by omega)]
 exact LnOK.good (by simp only [bl, List.append_assoc, List.cons_append, List.nil_append]) (by simp only [Za1, b1, b2, b3, Bool.and_true]; rfl) (by simp only [bl, List.length_append, List.length_cons, List.length_nil]; omega)
set_option maxHeartbeats 4000000 in
theorem ck_5 : CkOK (Zp 5 a1 a2 a3 N) (Zw 5 a1 a2 a3 N) (Bd 5 a1 a2 a3) := by
 unfold Zp Zw
 simp only [Int.reduceLT, Int.reduceLE, Int.reduceEq, Int.reduceNeg, reduceIte]
 repeat' split
 all_goals first
  | exact CkOK.bad
  | (exfalso; omega)
  | exact CkOK.good ⟨⟨by omega, by omega⟩, ⟨by omega, by omega⟩, ⟨by omega, by omega⟩, fun h => absurd h (by decide), fun h => absurd h (by decide)⟩
theorem ln_5 (hN : 30 ≤ N) (c1 : Zp 5 a1 a2 a3 N = some (.r0 0)) (c2 : Zw 5 a1 a2 a3 N = some (.r0 true)) (hb : Bd 5 a1 a2 a3) : LnOK (ZC 5 a1 a2 a3 N) (Z1 5 a1 a2 a3 N) := by
 unfold ZC Z1
 rw [c1, c2]
 simp only [Option.bind_some, Int.reduceLT, Int.reduceLE, Int.reduceEq, Int.reduceNeg, not_true_eq_false, reduceIte]
 obtain ⟨q1, q2, q3, _, _⟩ := hb
 obtain ⟨n1, l1, b1, z1⟩ := Zan hN q1.1 q1.2
 obtain ⟨n2, l2, b2, z2⟩ := Zan hN q2.1 q2.2
 obtain ⟨n3, l3, b3, z3⟩ := Zan hN q3.1 q3.2
 simp only [n1, n2, n3, Option.bind_some]
 repeat rw [if_pos (by omega)]
 exact LnOK.good (by simp only [bl, List.append_assoc, List.cons_append, List.nil_append]) (by simp only [Za1, b1, b2, b3, Bool.and_true]; rfl) (by simp only [bl, List.length_append, List.length_cons, List.length_nil]; omega)
set_option maxHeartbeats 4000000 in
theorem ck_6 : CkOK (Zp 6 a1 a2 a3 N) (Zw 6 a1 a2 a3 N) (Bd 6 a1 a2 a3) := by
 unfold Zp Zw
 simp only [Int.reduceLT, Int.reduceLE, Int.reduceEq, Int.reduceNeg, reduceIte]
 repeat' split
 all_goals first
  | exact CkOK.bad
  | (exfalso; omega)
  | exact CkOK.good ⟨⟨by omega, by omega⟩, ⟨by omega, by omega⟩, ⟨by omega, by omega⟩, fun h => absurd h (by decide), fun h => absurd h (by decide)⟩
theorem ln_6 (hN : 30 ≤ N) (c1 : Zp 6 a1 a2 a3 N = some (.r0 0)) (c2 : Zw 6 a1 a2 a3 N = some (.r0 true)) (hb : Bd 6 a1 a2 a3) : LnOK (ZC 6 a1 a2 a3 N) (Z1 6 a1 a2 a3 N) := by
 unfold ZC Z1
 rw [c1, c2]
 simp only [Option.bind_some, Int.reduceLT, Int.reduceLE, Int.reduceEq, Int.reduceNeg, not_true_eq_false, reduceIte]
 obtain ⟨q1, q2, q3, _, _⟩ := hb
 obtain ⟨n1, l1, b1, z1⟩ := Zan hN q1.1 q1.2
 obtain ⟨n2, l2, b2, z2⟩ := Zan hN q2.1 q2.2
 obtain ⟨n3, l3, b3, z3⟩ := Zan hN q3.1 q3.2
 simp only [n1, n2, n3, Option.bind_some]
 repeat rw [if_pos (by omega)]
 exact LnOK.good (by simp only [bl, List.append_assoc, List.cons_append, List.nil_append]) (by simp only [Za1, b1, b2, b3, Bool.and_true]; rfl) (by simp only [bl, List.length_append, List.length_cons, List.length_nil]; omega)
set_option maxHeartbeats 4000000 in
theorem ck_7 : CkOK (Zp 7 a1 a2 a3 N) (Zw 7 a1 a2 a3 N) (Bd 7 a1 a2 a3) := by
 unfold Zp Zw
 simp only [Int.reduceLT, Int.reduceLE, Int.reduceEq, Int.reduceNeg, reduceIte]
 repeat' split
 all_goals first
  | exact CkOK.bad
  | (exfalso; omega)
  | exact CkOK.good ⟨⟨by omega, by omega⟩, ⟨by omega, by omega⟩, ⟨by omega, by omega⟩, fun h => absurd h (by decide), fun h => absurd h (by decide)⟩
theorem ln_7 (hN : 30 ≤ N) (c1 : Zp 7 a1 a2 a3 N = some (.r0 0)) (c2 : Zw 7 a1 a2 a3 N = some (.r0 true)) (hb : Bd 7 a1 a2 a3) : LnOK (ZC 7 a1 a2 a3 N) (Z1 7 a1 a2 a3 N) := by
 unfold ZC Z1
 rw [c1, c2]
 simp only [Option.bind_some, Int.reduceLT, Int.reduceLE, Int.reduceEq, Int.reduceNeg, not_true_eq_false, reduceIte]
 obtain ⟨q1, q2, q3, _, _⟩ := hb
 obtain ⟨n1, l1, b1, z1⟩ := Zan hN q1.1 q1.2
 obtain ⟨n2, l2, b2, z2⟩ := Zan hN q2.1 q2.2
 obtain ⟨n3, l3, b3, z3⟩ := Zan hN q3.1 q3.2
 simp only [n1, n2, n3, Option.bind_some]
 repeat rw [if_pos (by omega)]
 exact LnOK.good (by simp only [bl, List.append_assoc, List.cons_append, List.nil_append]) (by simp only [Za1, b1, b2, b3, Bool.and_true]; rfl) (by simp only [bl, List.length_append, List.length_cons, List.length_nil]; omega)
set_option maxHeartbeats 4000000 in
theorem ck_8 : CkOK (Zp 8 a1 a2 a3 N) (Zw 8 a1 a2 a3 N) (Bd 8 a1 a2 a3) := by
 unfold Zp Zw
 simp only [Int.reduceLT, Int.reduceLE, Int.reduceEq, Int.reduceNeg, reduceIte]
 repeat' split
 all_goals first
  | exact CkOK.bad
  | (exfalso; omega)
  | exact CkOK.good ⟨⟨by omega, by omega⟩, ⟨by omega, by omega⟩, ⟨by omega, by omega⟩, fun _ => by omega, fun h => absurd h (by decide)⟩
theorem ln_8 (hN : 30 ≤ N) (c1 : Zp 8 a1 a2 a3 N = some (.r0 0)) (c2 : Zw 8 a1 a2 a3 N = some (.r0 true)) (hb : Bd 8 a1 a2 a3) : LnOK (ZC 8 a1 a2 a3 N) (Z1 8 a1 a2 a3 N) := by
 unfold ZC Z1
 rw [c1, c2]
 simp only [Option.bind_some, Int.reduceLT, Int.reduceLE, Int.reduceEq, Int.reduceNeg, not_true_eq_false, reduceIte]
 obtain ⟨q1, q2, q3, _, _⟩ := hb
 obtain ⟨n1, l1, b1, z1⟩ := Zan hN q1.1 q1.2
 simp only [n1, Option.bind_some]
 repeat rw [if_pos (by omega)]
 exact LnOK.good (by simp only [bl, List.append_assoc, List.cons_append, List.nil_append]) (by simp only [Za1, b1, Bool.and_true]; rfl) (by simp only [bl, List.length_append, List.length_cons, List.length_nil]; omega)
set_option maxHeartbeats 4000000 in
theorem ck_9 : CkOK (Zp 9 a1 a2 a3 N) (Zw 9 a1 a2 a3 N) (Bd 9 a1 a2 a3) := by
 unfold Zp Zw
 simp only [Int.reduceLT, Int.reduceLE, Int.reduceEq, Int.reduceNeg, reduceIte]
 repeat' split
 all_goals first
  | exact CkOK.bad
  | (exfalso; omega)
  | exact CkOK.good ⟨⟨by omega, by omega⟩, ⟨by omega, by omega⟩, ⟨by omega, by omega⟩, fun h => absurd h (by decide), fun _ => by omega⟩
theorem ln_9 (hN : 30 ≤ N) (c1 : Zp 9 a1 a2 a3 N = some (.r0 0)) (c2 : Zw 9 a1 a2 a3 N = some (.r0 true)) (hb : Bd 9 a1 a2 a3) : LnOK (ZC 9 a1 a2 a3 N) (Z1 9 a1 a2 a3 N) := by
 unfold ZC Z1
 rw [c1, c2]
 simp only [Option.bind_some, Int.reduceLT, Int.reduceLE, Int.reduceEq, Int.reduceNeg, not_true_eq_false, reduceIte]
 obtain ⟨q1, q2, q3, _, _⟩ := hb
 obtain ⟨n1, l1, b1, z1⟩ := Zan hN q1.1 q1.2
 obtain ⟨n2, l2, b2, z2⟩ := Zan hN q2.1 q2.2
 simp only [n1, n2, Option.bind_some]
 repeat rw [if_pos (by omega)]
 exact LnOK.good (by simp only [bl, List.append_assoc, List.cons_append, List.nil_append]) (by simp only [Za1, b1, b2, Bool.and_true]; rfl) (by simp only [bl, List.length_append, List.length_cons, List.length_nil]; omega)
set_option maxHeartbeats 4000000 in
theorem ck_10 : CkOK (Zp 10 a1 a2 a3 N) (Zw 10 a1 a2 a3 N) (Bd 10 a1 a2 a3) := by
 unfold Zp Zw
 simp only [Int.reduceLT, Int.reduceLE, Int.reduceEq, Int.reduceNeg, reduceIte]
 repeat' split
 all_goals first
  | exact CkOK.bad
  | (exfalso; omega)
  | exact CkOK.good ⟨⟨by omega, by omega⟩, ⟨by omega, by omega⟩, ⟨by omega, by omega⟩, fun h => absurd h (by decide), fun h => absurd h (by decide)⟩
theorem ln_10 (hN : 30 ≤ N) (c1 : Zp 10 a1 a2 a3 N = some (.r0 0)) (c2 : Zw 10 a1 a2 a3 N = some (.r0 true)) (hb : Bd 10 a1 a2 a3) : LnOK (ZC 10 a1 a2 a3 N) (Z1 10 a1 a2 a3 N) := by
 unfold ZC Z1
 rw [c1, c2]
 simp only [Option.bind_some, Int.reduceLT, Int.reduceLE, Int.reduceEq, Int.reduceNeg, not_true_eq_false, reduceIte]
 obtain ⟨q1, q2, q3, _, _⟩ := hb
 obtain ⟨n1, l1, b1, z1⟩ := Zan hN q1.1 q1.2
 simp only [n1, Option.bind_some]
 repeat rw [if_pos (by omega)]
 exact LnOK.good (by simp only [bl, List.append_assoc, List.cons_append, List.nil_append]) (by simp only [Za1, b1, Bool.and_true]; rfl) (by simp only [bl, List.length_append, List.length_cons, List.length_nil]; omega)
set_option maxHeartbeats 4000000 in
theorem ck_11 : CkOK (Zp 11 a1 a2 a3 N) (Zw 11 a1 a2 a3 N) (Bd 11 a1 a2 a3) := by
 unfold Zp Zw
 simp only [Int.reduceLT, Int.reduceLE, Int.reduceEq, Int.reduceNeg, reduceIte]
 by_cases h16 : 1 ≤ a2 ∧ a2 ≤ 16
 ·obtain ⟨p, e1, e2, e3, e4⟩ := Ztn h16.1 h16.2
  simp only [e1, e2]
  repeat' split
  all_goals first
   | exact CkOK.bad
   | (exfalso; omega)
   | exact CkOK.good ⟨⟨by omega, by omega⟩, ⟨by omega, by omega⟩, ⟨by omega, by omega⟩, fun h => absurd h (by decide), fun h => absurd h (by decide)⟩
 ·repeat' split
  all_goals first
   | exact CkOK.bad
   | (exfalso; omega)
theorem ln_11 (hN : 30 ≤ N) (c1 : Zp 11 a1 a2 a3 N = some (.r0 0)) (c2 : Zw 11 a1 a2 a3 N = some (.r0 true)) (hb : Bd 11 a1 a2 a3) : LnOK (ZC 11 a1 a2 a3 N) (Z1 11 a1 a2 a3 N) := by
 unfold ZC Z1
 rw [c1, c2]
 simp only [Option.bind_some, Int.reduceLT, Int.reduceLE, Int.reduceEq, Int.reduceNeg, not_true_eq_false, reduceIte]
 obtain ⟨q1, q2, q3, _, _⟩ := hb
 obtain ⟨n1, l1, b1, z1⟩ := Zan hN q1.1 q1.2
 obtain ⟨n2, l2, b2, z2⟩ := Zan hN q2.1 q2.2
 obtain ⟨n3, l3, b3, z3⟩ := Zan hN q3.1 q3.2
 simp only [n1, n2, n3, Option.bind_some]
 repeat rw [if_pos (by omega)]
 exact LnOK.good (by simp only [bl, List.append_assoc, List.cons_append, List.nil_append]) (by simp only [Za1, b1, b2, b3, Bool.and_true]; rfl) (by simp only [bl, List.length_append, List.length_cons, List.length_nil]; omega)
set_option maxHeartbeats 4000000 in
theorem ck_12 : CkOK (Zp 12 a1 a2 a3 N) (Zw 12 a1 a2 a3 N) (Bd 12 a1 a2 a3) := by
 unfold Zp Zw
 simp only [Int.reduceLT, Int.reduceLE, Int.reduceEq, Int.reduceNeg, reduceIte]
 repeat' split
 all_goals first
  | exact CkOK.bad
  | (exfalso; omega)
  | exact CkOK.good ⟨⟨by omega, by omega⟩, ⟨by omega, by omega⟩, ⟨by omega, by omega⟩, fun h => absurd h (by decide), fun h => absurd h (by decide)⟩
theorem ln_12 (hN : 30 ≤ N) (c1 : Zp 12 a1 a2 a3 N = some (.r0 0)) (c2 : Zw 12 a1 a2 a3 N = some (.r0 true)) (hb : Bd 12 a1 a2 a3) : LnOK (ZC 12 a1 a2 a3 N) (Z1 12 a1 a2 a3 N) := by
 unfold ZC Z1
 rw [c1, c2]
 simp only [Option.bind_some, Int.reduceLT, Int.reduceLE, Int.reduceEq, Int.reduceNeg, not_true_eq_false, reduceIte]
 obtain ⟨q1, q2, q3, _, _⟩ := hb
 obtain ⟨n1, l1, b1, z1⟩ := Zan hN q1.1 q1.2
 simp only [n1, Option.bind_some]
 repeat rw [if_pos (by omega)]
 exact LnOK.good (by simp only [bl, List.append_assoc, List.cons_append, List.nil_append]) (by simp only [Za1, b1, Bool.and_true]; rfl) (by simp only [bl, List.length_append, List.length_cons, List.length_nil]; omega)
set_option maxHeartbeats 4000000 in
theorem ck_13 : CkOK (Zp 13 a1 a2 a3 N) (Zw 13 a1 a2 a3 N) (Bd 13 a1 a2 a3) := by
 unfold Zp Zw
 simp only [Int.reduceLT, Int.reduceLE, Int.reduceEq, Int.reduceNeg, reduceIte]
 repeat' split
 all_goals first
  | exact CkOK.bad
  | (exfalso; omega)
  | exact CkOK.good ⟨⟨by omega, by omega⟩, ⟨by omega, by omega⟩, ⟨by omega, by omega⟩, fun h => absurd h (by decide), fun h => absurd h (by decide)⟩
theorem ln_13 (hN : 30 ≤ N) (c1 : Zp 13 a1 a2 a3 N = some (.r0 0)) (c2 : Zw 13 a1 a2 a3 N = some (.r0 true)) (hb : Bd 13 a1 a2 a3) : LnOK (ZC 13 a1 a2 a3 N) (Z1 13 a1 a2 a3 N) := by
 unfold ZC Z1
 rw [c1, c2]
 simp only [Option.bind_some, Int.reduceLT, Int.reduceLE, Int.reduceEq, Int.reduceNeg, not_true_eq_false, reduceIte]
 obtain ⟨q1, q2, q3, _, _⟩ := hb
 obtain ⟨n1, l1, b1, z1⟩ := Zan hN q1.1 q1.2
 obtain ⟨n2, l2, b2, z2⟩ := Zan hN q2.1 q2.2
 obtain ⟨n3, l3, b3, z3⟩ := Zan hN q3.1 q3.2
 simp only [n1, n2, n3, Option.bind_some]
 repeat rw [if_pos (by omega)]
 exact LnOK.good (by simp only [bl, List.append_assoc, List.cons_append, List.nil_append]) (by simp only [Za1, b1, b2, b3, Bool.and_true]; rfl) (by simp only [bl, List.length_append, List.length_cons, List.length_nil]; omega)
set_option maxHeartbeats 4000000 in
theorem ck_14 : CkOK (Zp 14 a1 a2 a3 N) (Zw 14 a1 a2 a3 N) (Bd 14 a1 a2 a3) := by
 unfold Zp Zw
 simp only [Int.reduceLT, Int.reduceLE, Int.reduceEq, Int.reduceNeg, reduceIte]
 repeat' split
 all_goals first
  | exact CkOK.bad
  | (exfalso; omega)
  | exact CkOK.good ⟨⟨by omega, by omega⟩, ⟨by omega, by omega⟩, ⟨by omega, by omega⟩, fun h => absurd h (by decide), fun h => absurd h (by decide)⟩
theorem ln_14 (hN : 30 ≤ N) (c1 : Zp 14 a1 a2 a3 N = some (.r0 0)) (c2 : Zw 14 a1 a2 a3 N = some (.r0 true)) (hb : Bd 14 a1 a2 a3) : LnOK (ZC 14 a1 a2 a3 N) (Z1 14 a1 a2 a3 N) := by
 unfold ZC Z1
 rw [c1, c2]
 simp only [Option.bind_some, Int.reduceLT, Int.reduceLE, Int.reduceEq, Int.reduceNeg, not_true_eq_false, reduceIte]
 obtain ⟨q1, q2, q3, _, _⟩ := hb
 obtain ⟨n1, l1, b1, z1⟩ := Zan hN q1.1 q1.2
 obtain ⟨n2, l2, b2, z2⟩ := Zan hN q2.1 q2.2
 obtain ⟨n3, l3, b3, z3⟩ := Zan hN q3.1 q3.2
 simp only [n1, n2, n3, Option.bind_some]
 repeat rw [if_pos (by omega)]
 exact LnOK.good (by simp only [bl, List.append_assoc, List.cons_append, List.nil_append]) (by simp only [Za1, b1, b2, b3, Bool.and_true]; rfl) (by simp only [bl, List.length_append, List.length_cons, List.length_nil]; omega)
set_option maxHeartbeats 4000000 in
theorem ck_15 : CkOK (Zp 15 a1 a2 a3 N) (Zw 15 a1 a2 a3 N) (Bd 15 a1 a2 a3) := by
 unfold Zp Zw
 simp only [Int.reduceLT, Int.reduceLE, Int.reduceEq, Int.reduceNeg, reduceIte]
 repeat' split
 all_goals first
  | exact CkOK.bad
  | (exfalso; omega)
  | exact CkOK.good ⟨⟨by omega, by omega⟩, ⟨by omega, by omega⟩, ⟨by omega, by omega⟩, fun h => absurd h (by decide), fun h => absurd h (by decide)⟩
theorem ln_15 (hN : 30 ≤ N) (c1 : Zp 15 a1 a2 a3 N = some (.r0 0)) (c2 : Zw 15 a1 a2 a3 N = some (.r0 true)) (hb : Bd 15 a1 a2 a3) : LnOK (ZC 15 a1 a2 a3 N) (Z1 15 a1 a2 a3 N) := by
 unfold ZC Z1
 rw [c1, c2]
 simp only [Option.bind_some, Int.reduceLT, Int.reduceLE, Int.reduceEq, Int.reduceNeg, not_true_eq_false, reduceIte]
 exact LnOK.good rfl rfl (by simp [bl])
set_option maxHeartbeats 4000000 in
theorem ck_16 : CkOK (Zp 16 a1 a2 a3 N) (Zw 16 a1 a2 a3 N) (Bd 16 a1 a2 a3) := by
 unfold Zp Zw
 simp only [Int.reduceLT, Int.reduceLE, Int.reduceEq, Int.reduceNeg, reduceIte]
 repeat' split
 all_goals first
  | exact CkOK.bad
  | (exfalso; omega)
  | exact CkOK.good ⟨⟨by omega, by omega⟩, ⟨by omega, by omega⟩, ⟨by omega, by omega⟩, fun h => absurd h (by decide), fun h => absurd h (by decide)⟩
theorem ln_16 (hN : 30 ≤ N) (c1 : Zp 16 a1 a2 a3 N = some (.r0 0)) (c2 : Zw 16 a1 a2 a3 N = some (.r0 true)) (hb : Bd 16 a1 a2 a3) : LnOK (ZC 16 a1 a2 a3 N) (Z1 16 a1 a2 a3 N) := by
 unfold ZC Z1
 rw [c1, c2]
 simp only [Option.bind_some, Int.reduceLT, Int.reduceLE, Int.reduceEq, Int.reduceNeg, not_true_eq_false, reduceIte]
 exact LnOK.good rfl rfl (by simp [bl])
set_option maxHeartbeats 4000000 in
theorem ck_17 : CkOK (Zp 17 a1 a2 a3 N) (Zw 17 a1 a2 a3 N) (Bd 17 a1 a2 a3) := by
 unfold Zp Zw
 simp only [Int.reduceLT, Int.reduceLE, Int.reduceEq, Int.reduceNeg, reduceIte]
 repeat' split
 all_goals first
  | exact CkOK.bad
  | (exfalso; omega)
  | exact CkOK.good ⟨⟨by omega, by omega⟩, ⟨by omega, by omega⟩, ⟨by omega, by omega⟩, fun h => absurd h (by decide), fun h => absurd h (by decide)⟩
theorem ln_17 (hN : 30 ≤ N) (c1 : Zp 17 a1 a2 a3 N = some (.r0 0)) (c2 : Zw 17 a1 a2 a3 N = some (.r0 true)) (hb : Bd 17 a1 a2 a3) : LnOK (ZC 17 a1 a2 a3 N) (Z1 17 a1 a2 a3 N) := by
 unfold ZC Z1
 rw [c1, c2]
 simp only [Option.bind_some, Int.reduceLT, Int.reduceLE, Int.reduceEq, Int.reduceNeg, not_true_eq_false, reduceIte]
 exact LnOK.good rfl rfl (by simp [bl])
set_option maxHeartbeats 4000000 in
theorem ck_18 : CkOK (Zp 18 a1 a2 a3 N) (Zw 18 a1 a2 a3 N) (Bd 18 a1 a2 a3) := by
 unfold Zp Zw
 simp only [Int.reduceLT, Int.reduceLE, Int.reduceEq, Int.reduceNeg, reduceIte]
 repeat' split
 all_goals first
  | exact CkOK.bad
  | (exfalso; omega)
  | exact CkOK.good ⟨⟨by omega, by omega⟩, ⟨by omega, by omega⟩, ⟨by omega, by omega⟩, fun h => absurd h (by decide), fun h => absurd h (by decide)⟩
theorem ln_18 (hN : 30 ≤ N) (c1 : Zp 18 a1 a2 a3 N = some (.r0 0)) (c2 : Zw 18 a1 a2 a3 N = some (.r0 true)) (hb : Bd 18 a1 a2 a3) : LnOK (ZC 18 a1 a2 a3 N) (Z1 18 a1 a2 a3 N) := by
 unfold ZC Z1
 rw [c1, c2]
 simp only [Option.bind_some, Int.reduceLT, Int.reduceLE, Int.reduceEq, Int.reduceNeg, not_true_eq_false, reduceIte]
 exact LnOK.good rfl rfl (by simp [bl])
set_option maxHeartbeats 4000000 in
theorem ck_19 : CkOK (Zp 19 a1 a2 a3 N) (Zw 19 a1 a2 a3 N) (Bd 19 a1 a2 a3) := by
 unfold Zp Zw
 simp only [Int.reduceLT, Int.reduceLE, Int.reduceEq, Int.reduceNeg, reduceIte]
 repeat' split
 all_goals first
  | exact CkOK.bad
  | (exfalso; omega)
  | exact CkOK.good ⟨⟨by omega, by omega⟩, ⟨by omega, by omega⟩, ⟨by omega, by omega⟩, fun h => absurd h (by decide), fun h => absurd h (by decide)⟩
theorem ln_19 (hN : 30 ≤ N) (c1 : Zp 19 a1 a2 a3 N = some (.r0 0)) (c2 : Zw 19 a1 a2 a3 N = some (.r0 true)) (hb : Bd 19 a1 a2 a3) : LnOK (ZC 19 a1 a2 a3 N) (Z1 19 a1 a2 a3 N) := by
 unfold ZC Z1
 rw [c1, c2]
 simp only [Option.bind_some, Int.reduceLT, Int.reduceLE, Int.reduceEq, Int.reduceNeg, not_true_eq_false, reduceIte]
 obtain ⟨q1, q2, q3, _, _⟩ := hb
 obtain ⟨n1, l1, b1, z1⟩ := Zan hN q1.1 q1.2
 simp only [n1, Option.bind_some]
 repeat rw [if_pos (by omega)]
 exact LnOK.good (by simp only [bl, List.append_assoc, List.cons_append, List.nil_append]) (by simp only [Za1, b1, Bool.and_true]; rfl) (by simp only [bl, List.length_append, List.length_cons, List.length_nil]; omega)
set_option maxHeartbeats 4000000 in
theorem ck_20 : CkOK (Zp 20 a1 a2 a3 N) (Zw 20 a1 a2 a3 N) (Bd 20 a1 a2 a3) := by
 unfold Zp Zw
 simp only [Int.reduceLT, Int.reduceLE, Int.reduceEq, Int.reduceNeg, reduceIte]
 repeat' split
 all_goals first
  | exact CkOK.bad
  | (exfalso; omega)
  | exact CkOK.good ⟨⟨by omega, by omega⟩, ⟨by omega, by omega⟩, ⟨by omega, by omega⟩, fun h => absurd h (by decide), fun h => absurd h (by decide)⟩
theorem ln_20 (hN : 30 ≤ N) (c1 : Zp 20 a1 a2 a3 N = some (.r0 0)) (c2 : Zw 20 a1 a2 a3 N = some (.r0 true)) (hb : Bd 20 a1 a2 a3) : LnOK (ZC 20 a1 a2 a3 N) (Z1 20 a1 a2 a3 N) := by
 unfold ZC Z1
 rw [c1, c2]
 simp only [Option.bind_some, Int.reduceLT, Int.reduceLE, Int.reduceEq, Int.reduceNeg, not_true_eq_false, reduceIte]
 exact LnOK.good rfl rfl (by simp [bl])
theorem Zs0 {a0 : Int} {z : Prop} (h : a0 ≤ 0 ∨ 21 ≤ a0) : CkOK (Zp a0 a1 a2 a3 N) (Zw a0 a1 a2 a3 N) z := by
 have y : Zw a0 a1 a2 a3 N = some (.r0 (false) : Zh) := by
  unfold Zw
  repeat rw [if_neg (by omega)]
 have x : Zp a0 a1 a2 a3 N = some (.r0 ((100 : Int)) : Zc) := by
  unfold Zp
  by_cases h1 : a0 < 0
  ·rw [if_pos h1]
  ·rw [if_neg h1]
   by_cases h2 : 21 ≤ a0
   ·rw [if_pos h2]
   ·rw [if_neg h2, if_pos (by omega)]
 rw [x, y]; exact CkOK.bad
theorem ZpF (a0 : Int) : (a0 ≤ 0 ∨ 21 ≤ a0) ∨ a0 = 1 ∨ a0 = 2 ∨ a0 = 3 ∨ a0 = 4 ∨ a0 = 5 ∨ a0 = 6 ∨ a0 = 7 ∨ a0 = 8 ∨ a0 = 9 ∨ a0 = 10 ∨ a0 = 11 ∨ a0 = 12 ∨ a0 = 13 ∨ a0 = 14 ∨ a0 = 15 ∨ a0 = 16 ∨ a0 = 17 ∨ a0 = 18 ∨ a0 = 19 ∨ a0 = 20 := by omega
theorem Ztw (a0 : Int) : CkOK (Zp a0 a1 a2 a3 N) (Zw a0 a1 a2 a3 N) (Bd a0 a1 a2 a3) := by
 rcases ZpF a0 with h | rfl | rfl | rfl | rfl | rfl | rfl | rfl | rfl | rfl | rfl | rfl | rfl | rfl | rfl | rfl | rfl | rfl | rfl | rfl | rfl
 ·exact Zs0 h
 ·exact ck_1
 ·exact ck_2
 ·exact ck_3
 ·exact ck_4
 ·exact ck_5
 ·exact ck_6
 ·exact ck_7
 ·exact ck_8
 ·exact ck_9
 ·exact ck_10
 ·exact ck_11
 ·exact ck_12
 ·exact ck_13
 ·exact ck_14
 ·exact ck_15
 ·exact ck_16
 ·exact ck_17
 ·exact ck_18
 ·exact ck_19
 ·exact ck_20
theorem Ztx (a0 : Int) (hN : 30 ≤ N) : LnOK (ZC a0 a1 a2 a3 N) (Z1 a0 a1 a2 a3 N) := by
 rcases Ztw (a1 := a1) (a2 := a2) (a3 := a3) (N := N) a0 with ⟨c1, c2, hb⟩ | ⟨c1, c2⟩
 ·rcases ZpF a0 with h | rfl | rfl | rfl | rfl | rfl | rfl | rfl | rfl | rfl | rfl | rfl | rfl | rfl | rfl | rfl | rfl | rfl | rfl | rfl | rfl
  ·rcases Zs0 (a1 := a1) (a2 := a2) (a3 := a3) (N := N) (z := False) h with ⟨_, _, h⟩ | ⟨_, h⟩
   ·exact h.elim
   ·rw [c2] at h; cases h
  ·exact ln_1 hN c1 c2 hb
  ·exact ln_2 hN c1 c2 hb
  ·exact ln_3 hN c1 c2 hb
  ·exact ln_4 hN c1 c2 hb
  ·exact ln_5 hN c1 c2 hb
  ·exact ln_6 hN c1 c2 hb
  ·exact ln_7 hN c1 c2 hb
  ·exact ln_8 hN c1 c2 hb
  ·exact ln_9 hN c1 c2 hb
  ·exact ln_10 hN c1 c2 hb
  ·exact ln_11 hN c1 c2 hb
  ·exact ln_12 hN c1 c2 hb
  ·exact ln_13 hN c1 c2 hb
  ·exact ln_14 hN c1 c2 hb
  ·exact ln_15 hN c1 c2 hb
  ·exact ln_16 hN c1 c2 hb
  ·exact ln_17 hN c1 c2 hb
  ·exact ln_18 hN c1 c2 hb
  ·exact ln_19 hN c1 c2 hb
  ·exact ln_20 hN c1 c2 hb
 ·unfold ZC Z1
  rw [c1, c2]
  simp only [Option.bind_some]
  rw [if_pos (by decide), if_pos (by decide)]
  exact LnOK.bad
theorem ck_ex (a0 : Int) : ∃ c b, Zp a0 a1 a2 a3 N = some (.r0 c) ∧ Zw a0 a1 a2 a3 N = some (.r0 b) ∧ (c = 0 ↔ b = true) ∧ (b = true → (a0 = 8 → 0 ≤ a1) ∧ (a0 = 9 → 0 ≤ a2)) := by
 rcases Ztw (a1 := a1) (a2 := a2) (a3 := a3) (N := N) a0 with ⟨c1, c2, hb⟩ | ⟨c1, c2⟩
 ·exact ⟨0, true, c1, c2, by decide, fun _ => hb.2.2.2⟩
 ·exact ⟨100, false, c1, c2, by decide, fun h => by cases h⟩
end
end Ev
end Go.Proofs.YtaifklllpehnmaaGreatDoor
/- Plain lemmas: machines step by step, lists by their places. -/
namespace Go.Proofs.YtaifklllpehnmaaGreatDoor
open Go.RowKit
namespace Ev
section
variable {X R : Type} {step : X → Option (X ⊕ R)} {n : Nat} {x y : X} {r : R}
theorem Zs1 {o : Option (X ⊕ R)} (h : o = some (.inl x)) : goM step n o = Zb9 step n x := by subst h; rfl
theorem ZqF {o : Option (X ⊕ R)} (h : o = some (.inr r)) : goM step n o = some r := by subst h; rfl
end
section
variable {α : Type}
end
end Ev
end Go.Proofs.YtaifklllpehnmaaGreatDoor
/- The texts of programs are the same. -/
namespace Go.Proofs.YtaifklllpehnmaaGreatDoor
open Go.RowKit
namespace Ev
set_option linter.unusedVariables false
theorem ZcH {X R : Type} {step : X → Option (X ⊕ R)} {n : Nat} {x y : X} (h : step x = some (.inl y)) : Zb9 step (n + 1) x = Zb9 step n y := by
 show (match step x with | none => none | some (.inl y) => Zb9 step n y | some (.inr r) => some r) = _
 rw [h]
theorem ZdX {X R : Type} {step : X → Option (X ⊕ R)} {n : Nat} {x : X} {r : R} (h : step x = some (.inr r)) : Zb9 step (n + 1) x = some r := by
 show (match step x with | none => none | some (.inl y) => Zb9 step n y | some (.inr r) => some r) = _
 rw [h]
section
variable (L : List RA) (N : Nat)
abbrev at_ (j : Nat) : RA := L.getD j RA.z
def ZcX (x : RA) : Option Int := if x.a0 = 8 then some x.a1 else if x.a0 = 9 then some x.a2 else none
def ZbO (k : Nat) : Nat → Nat
 | 0 => 0
 | i + 1 => ZbO k i + (if ZcX (at_ L i) = some (k : Int) then 1 else 0)
theorem ZqG (k : Nat) : ∀ i, ZbO L k i ≤ i
 | 0 => Nat.le_refl _
 | i + 1 => by
  unfold ZbO
  have := ZqG k i
  split <;> omega
def Zeg (k : Nat) : Bool := decide (0 < ZbO L k L.length)
theorem ZjT (k : Nat) : ∀ i, (0 < ZbO L k i ↔ ∃ j, j < i ∧ ZcX (at_ L j) = some (k : Int))
 | 0 => by simp [ZbO]
 | i + 1 => by
  have h := ZjT k i
  unfold ZbO
  constructor
  ·intro hp
   by_cases ht : ZcX (at_ L i) = some (k : Int)
   ·exact ⟨i, by omega, ht⟩
   ·rw [if_neg ht] at hp
    obtain ⟨j, h1, h2⟩ := h.1 (by omega)
    exact ⟨j, by omega, h2⟩
  ·rintro ⟨j, h1, h2⟩
   rcases Nat.lt_or_ge j i with h3 | h3
   ·have := h.2 ⟨j, h3, h2⟩
    omega
   ·obtain rfl : j = i := by omega
    rw [if_pos h2]; omega
theorem ZpG (hL : L.length ≤ 512) (k : Nat) : ∀ (m j n : Nat), j + m = L.length → m < n → (∀ q, q < j → ZcX (at_ L q) ≠ some (k : Int)) → Zb9 (Zbs L (k : Int) N) n (.h1m0 j) = some (.r0 (Zeg L k))
 | 0, j, n, hj, hn, hq => by
  obtain ⟨n, rfl⟩ : ∃ n', n = n' + 1 := ⟨n - 1, by omega⟩
  have hb : Zeg L k = false := by
   unfold Zeg
   rw [decide_eq_false_iff_not]
   intro h
   obtain ⟨q, q1, q2⟩ := (ZjT L k L.length).1 h
   exact hq q (by omega) q2
  rw [hb]
  refine ZdX ?_
  show ZaE L (k : Int) N j = _
  unfold ZaE
  rw [if_neg (by omega)]
 | m + 1, j, n, hj, hn, hq => by
  obtain ⟨n, rfl⟩ : ∃ n', n = n' + 1 := ⟨n - 1, by omega⟩
  by_cases ht : ZcX (at_ L j) = some (k : Int)
  ·have hb : Zeg L k = true := by
    unfold Zeg
    rw [decide_eq_true_eq]
    exact (ZjT L k L.length).2 ⟨j, by omega, ht⟩
   rw [hb]
   refine ZdX ?_
   show ZaE L (k : Int) N j = _
   unfold ZaE
   unfold ZcX at ht
   rw [if_pos (by omega)]
   by_cases h8 : (L.getD j RA.z).a0 = 8
   ·rw [if_pos h8] at ht
    rw [if_pos h8, if_pos (Option.some.inj ht)]
   ·rw [if_neg h8] at ht
    by_cases h9 : (L.getD j RA.z).a0 = 9
    ·rw [if_pos h9] at ht
     rw [if_neg h8, if_pos h9, if_pos (Option.some.inj ht)]
    ·rw [if_neg h9] at ht; cases ht
  ·have hs : Zbs L (k : Int) N (.h1m0 j) = some (.inl (.h1m0 (j + 1))) := by
    show ZaE L (k : Int) N j = _
    unfold ZaE
    unfold ZcX at ht
    rw [if_pos (by omega)]
    by_cases h8 : (L.getD j RA.z).a0 = 8
    ·rw [if_pos h8] at ht
     rw [if_pos h8, if_neg (fun e => ht (congrArg some e)), if_pos (by omega)]
    ·rw [if_neg h8] at ht
     by_cases h9 : (L.getD j RA.z).a0 = 9
     ·rw [if_pos h9] at ht
      rw [if_neg h8, if_pos h9, if_neg (fun e => ht (congrArg some e)), if_pos (by omega)]
     ·rw [if_neg h8, if_neg h9, if_pos (by omega)]
   rw [ZcH hs]
   refine ZpG hL k m (j + 1) n (by omega) (by omega) fun q hq2 => ?_
   rcases Nat.lt_or_ge q j with h | h
   ·exact hq q h
   ·obtain rfl : q = j := by omega
    exact ht
theorem ZpH (hL : L.length ≤ 512) (hN : 600 ≤ N) (k : Nat) : ZcN L (k : Int) N = some (.r0 (Zeg L k)) :=
 ZpG L N hL k L.length 0 N (by omega) (by omega) fun q hq => by omega
def ZfT (v : List Int) (i : Nat) : Prop := v.length = L.length + 1 ∧ ∀ k, k ≤ L.length → v.getD k 0 = (ZbO L k i : Int)
theorem ZpI {v : List Int} {i t : Nat} (h : ZfT L v i) (hi : i < L.length) (hL : L.length ≤ 512) (ht : t ≤ L.length) (he : ZcX (at_ L i) = some (t : Int)) : ZfT L (v.set t (IntKind.i64.wrap (v.getD t 0 + 1))) (i + 1) := by
 refine ⟨by rw [List.length_set]; exact h.1, fun k hk => ?_⟩
 have hc := ZqG L t i
 have hw : IntKind.i64.wrap (v.getD t 0 + 1) = (ZbO L t i : Int) + 1 := by
  rw [h.2 t ht, wrap_i64 (by omega)]
 rw [hw, List.getD_eq_getElem?_getD, List.getElem?_set]
 by_cases hkt : t = k
 ·subst hkt
  rw [if_pos rfl, if_pos (by rw [h.1]; omega)]
  show (ZbO L t i : Int) + 1 = _
  have : ZbO L t (i + 1) = ZbO L t i + 1 := by
   show ZbO L t i + (if ZcX (at_ L i) = some (t : Int) then 1 else 0) = _
   rw [if_pos he]
  rw [this]; omega
 ·rw [if_neg hkt, ← List.getD_eq_getElem?_getD, h.2 k hk]
  have : ZbO L k (i + 1) = ZbO L k i := by
   show ZbO L k i + (if ZcX (at_ L i) = some (k : Int) then 1 else 0) = _
   rw [if_neg (by rw [he]; intro e; have := Option.some.inj e; omega)]; rfl
  rw [this]
theorem Zs2 {v : List Int} {i : Nat} (h : ZfT L v i) (he : ∀ k : Nat, k ≤ L.length → ZcX (at_ L i) ≠ some (k : Int)) : ZfT L v (i + 1) := by
 refine ⟨h.1, fun k hk => ?_⟩
 rw [h.2 k hk]
 have : ZbO L k (i + 1) = ZbO L k i := by
  show ZbO L k i + (if ZcX (at_ L i) = some (k : Int) then 1 else 0) = _
  rw [if_neg (he k hk)]; rfl
 rw [this]
theorem Zty (hN : 30 ≤ N) (j : Nat) : LnOK (ZC (at_ L j).a0 (at_ L j).a1 (at_ L j).a2 (at_ L j).a3 N) (Z1 (at_ L j).a0 (at_ L j).a1 (at_ L j).a2 (at_ L j).a3 N) := Ztx _ hN
theorem Zs3 (hN : 30 ≤ N) (k : Nat) (hk : k ≤ 600) : Zy (k : Int) N = some (.r0 (Zf (k : Int))) ∧ (Zf (k : Int)).length ≤ 14 ∧ Za8 (Zf (k : Int)) = true ∧ 0 < (Zf (k : Int)).length := Zan hN (by omega) (by omega)
theorem ZlH (hL : L.length ≤ 512) (hN : 600 ≤ N) {v : List Int} (hv : ZfT L v L.length) : ∀ (m j n n' : Nat) (t : List Int), j + m = L.length + 1 → m < n → m < n' → t.length ≤ 110 * j → 0 < t.length →
  ∃ u, Zb9 (Zat L N) n (.h2m1 v j t) = some (.r0 u 0) ∧ Zb9 (Zad L N) n' (.h2m1 t j) = some (.r0 u 0)
 | 0, j, n, n', t, hj, hn, hn', ht, h0 => by
  obtain ⟨n, rfl⟩ : ∃ q, n = q + 1 := ⟨n - 1, by omega⟩
  obtain ⟨n', rfl⟩ : ∃ q, n' = q + 1 := ⟨n' - 1, by omega⟩
  refine ⟨t, ZdX ?_, ZdX ?_⟩
  ·show Za4 L N v j t = _
   unfold Za4
   rw [if_neg (by omega), if_pos h0, if_pos (by omega)]
  ·show Zas L N t j = _
   unfold Zas
   rw [if_neg (by omega)]
 | m + 1, j, n, n', t, hj, hn, hn', ht, h0 => by
  obtain ⟨n, rfl⟩ : ∃ q, n = q + 1 := ⟨n - 1, by omega⟩
  obtain ⟨n', rfl⟩ : ∃ q, n' = q + 1 := ⟨n' - 1, by omega⟩
  obtain ⟨l1, l2, l3, l4⟩ := Zs3 N (by omega) j (by omega)
  have ha := ZpH L N hL hN j
  have hc := hv.2 j (by omega)
  have hvl := hv.1
  obtain ⟨y, e, y1, y2, y3, y4⟩ := Zty L N (by omega) j
  have step : ∃ t', Zat L N (.h2m1 v j t) = some (.inl (.h2m1 v (j + 1) t')) ∧ Zad L N (.h2m1 t j) = some (.inl (.h2m1 t' (j + 1))) ∧ t'.length ≤ 110 * (j + 1) ∧ 0 < t'.length := by
   have b1 : Za8 (((bl [58]) ++ ((bl [76]) ++ (Zf (j : Int)))) ++ (bl [10])) = true := by simp only [Za1, l3, Bool.and_true]; rfl
   have b2 : Za8 (y ++ bl [10]) = true := by rw [Za1, y3]; rfl
   by_cases hb : 0 < ZbO L j L.length
   ·have hB : Zeg L j = true := decide_eq_true hb
    by_cases hlt : j < L.length
    ·refine ⟨(t ++ (((bl [58]) ++ ((bl [76]) ++ (Zf (j : Int)))) ++ (bl [10]))) ++ (y ++ (bl [10])), ?_, ?_, ?_, ?_⟩
     ·show Za4 L N v j t = _
      unfold Za4
      rw [if_pos (by omega), if_pos (by omega), if_pos (by omega), if_pos (by omega), if_pos (by omega), if_pos b1, if_pos (by omega), if_pos (by omega), y1]
      simp only [Option.bind_some]
      rw [if_pos (by omega), if_pos (by omega), if_pos b2, if_pos (by omega), if_pos (by omega)]
     ·show Zas L N t j = _
      unfold Zas
      rw [if_pos (by omega), ha]
      simp only [Option.bind_some]
      rw [if_pos hB, if_pos (by omega), l1]
      simp only [Option.bind_some]
      rw [if_neg (by omega), if_pos (by omega), if_pos l3, if_pos (by omega), if_pos (by omega), if_pos (by omega), y2]
      simp only [Option.bind_some]
      by_cases hy : y.length = 0
      ·rw [if_pos hy, if_pos (by omega), if_pos (by omega)]
       have : y = [] := List.length_eq_zero_iff.1 hy
       subst this
       simp only [bl, List.append_assoc, List.cons_append, List.nil_append]
      ·rw [if_neg hy, if_pos (by omega), if_pos y3, if_pos (by omega), if_pos (by omega), if_pos (by omega)]
       simp only [bl, List.append_assoc, List.cons_append, List.nil_append]
     ·simp only [bl, List.length_append, List.length_cons, List.length_nil]; omega
     ·simp only [bl, List.length_append, List.length_cons, List.length_nil]; omega
    ·refine ⟨t ++ (((bl [58]) ++ ((bl [76]) ++ (Zf (j : Int)))) ++ (bl [10])), ?_, ?_, ?_, ?_⟩
     ·show Za4 L N v j t = _
      unfold Za4
      rw [if_pos (by omega), if_pos (by omega), if_pos (by omega), if_pos (by omega), if_pos (by omega), if_pos b1, if_pos (by omega), if_neg (by omega), if_pos (by omega)]
     ·show Zas L N t j = _
      unfold Zas
      rw [if_pos (by omega), ha]
      simp only [Option.bind_some]
      rw [if_pos hB, if_pos (by omega), l1]
      simp only [Option.bind_some]
      rw [if_neg (by omega), if_pos (by omega), if_pos l3, if_pos (by omega), if_pos (by omega), if_neg (by omega), if_pos (by omega)]
      simp only [bl, List.append_assoc, List.cons_append, List.nil_append]
     ·simp only [bl, List.length_append, List.length_cons, List.length_nil]; omega
     ·simp only [bl, List.length_append, List.length_cons, List.length_nil]; omega
   ·have hB : ¬ (Zeg L j = true) := by unfold Zeg; rw [decide_eq_true_eq]; exact hb
    by_cases hlt : j < L.length
    ·refine ⟨t ++ (y ++ (bl [10])), ?_, ?_, ?_, ?_⟩
     ·show Za4 L N v j t = _
      unfold Za4
      rw [if_pos (by omega), if_pos (by omega), if_neg (by omega), if_pos (by omega), y1]
      simp only [Option.bind_some]
      rw [if_pos (by omega), if_pos (by omega), if_pos b2, if_pos (by omega), if_pos (by omega)]
     ·show Zas L N t j = _
      unfold Zas
      rw [if_pos (by omega), ha]
      simp only [Option.bind_some]
      rw [if_neg hB, if_pos (by omega), y2]
      simp only [Option.bind_some]
      by_cases hy : y.length = 0
      ·rw [if_pos hy, if_pos (by omega), if_pos (by omega)]
       have : y = [] := List.length_eq_zero_iff.1 hy
       subst this
       rfl
      ·rw [if_neg hy, if_pos (by omega), if_pos y3, if_pos (by omega), if_pos (by omega), if_pos (by omega)]
       simp only [bl, List.append_assoc, List.cons_append, List.nil_append]
     ·simp only [bl, List.length_append, List.length_cons, List.length_nil]; omega
     ·simp only [bl, List.length_append, List.length_cons, List.length_nil]; omega
    ·refine ⟨t, ?_, ?_, by omega, h0⟩
     ·show Za4 L N v j t = _
      unfold Za4
      rw [if_pos (by omega), if_pos (by omega), if_neg (by omega), if_neg (by omega), if_pos (by omega)]
     ·show Zas L N t j = _
      unfold Zas
      rw [if_pos (by omega), ha]
      simp only [Option.bind_some]
      rw [if_neg hB, if_neg (by omega), if_pos (by omega)]
  obtain ⟨t', s1, s2, s3, s4⟩ := step
  rw [ZcH s1, ZcH s2]
  exact ZlH hL hN hv m (j + 1) n n' t' (by omega) (by omega) (by omega) s3 s4
theorem ZtN (hL : L.length ≤ 512) (hN : 600 ≤ N) {v : List Int} (hv : ZfT L v L.length) {n n' : Nat} (hn : L.length + 2 < n) (hn' : L.length + 2 < n') :
  ∃ u, Zb9 (Zat L N) n (.h2m0 v 0) = some (.r0 u 0) ∧ Zb9 (Zad L N) n' (.h2m0 0) = some (.r0 u 0) := by
 obtain ⟨n, rfl⟩ : ∃ q, n = q + 1 := ⟨n - 1, by omega⟩
 obtain ⟨n', rfl⟩ : ∃ q, n' = q + 1 := ⟨n' - 1, by omega⟩
 obtain ⟨l1, l2, l3, l4⟩ := Zs3 N (by omega) 0 (by omega)
 have ha := ZpH L N hL hN 0
 have hc := hv.2 0 (by omega)
 have hvl := hv.1
 obtain ⟨y, e, y1, y2, y3, y4⟩ := Zty L N (by omega) 0
 have b1 : Za8 (((bl [58]) ++ ((bl [76]) ++ (Zf ((0 : Nat) : Int)))) ++ (bl [10])) = true := by simp only [Za1, l3, Bool.and_true]; rfl
 have b2 : Za8 (y ++ bl [10]) = true := by rw [Za1, y3]; rfl
 by_cases hb : 0 < ZbO L 0 L.length
 ·have hB : Zeg L 0 = true := decide_eq_true hb
  have step : ∃ t', Zat L N (.h2m0 v 0) = some (.inl (.h2m1 v (0 + 1) t')) ∧ Zad L N (.h2m0 0) = some (.inl (.h2m1 t' (0 + 1))) ∧ t'.length ≤ 110 * (0 + 1) ∧ 0 < t'.length := by
   by_cases hlt : 0 < L.length
   ·refine ⟨(((bl [58]) ++ ((bl [76]) ++ (Zf ((0 : Nat) : Int)))) ++ (bl [10])) ++ (y ++ (bl [10])), ?_, ?_, ?_, ?_⟩
    ·show Za3 L N v 0 = _
     unfold Za3
     rw [if_pos (by omega), if_pos (by omega), if_pos (by omega), if_pos (by omega), if_pos (by omega), if_pos b1, if_pos (by omega), y1]
     simp only [Option.bind_some]
     rw [if_pos (by omega), if_pos (by omega), if_pos b2, if_pos (by omega)]
    ·show Zar L N 0 = _
     unfold Zar
     rw [if_pos (by omega), ha]
     simp only [Option.bind_some]
     rw [if_pos hB, l1]
     simp only [Option.bind_some]
     rw [if_neg (by omega), if_pos (by omega), if_pos l3, if_pos (by omega), if_pos (by omega), y2]
     simp only [Option.bind_some]
     by_cases hy : y.length = 0
     ·rw [if_pos hy, if_pos (by omega), if_pos (by omega)]
      have : y = [] := List.length_eq_zero_iff.1 hy
      subst this
      simp only [bl, List.append_assoc, List.cons_append, List.nil_append]
     ·rw [if_neg hy, if_pos (by omega), if_pos y3, if_pos (by omega), if_pos (by omega), if_pos (by omega)]
      simp only [bl, List.append_assoc, List.cons_append, List.nil_append]
    ·simp only [bl, List.length_append, List.length_cons, List.length_nil]; omega
    ·simp only [bl, List.length_append, List.length_cons, List.length_nil]; omega
   ·refine ⟨((bl [58]) ++ ((bl [76]) ++ (Zf ((0 : Nat) : Int)))) ++ (bl [10]), ?_, ?_, ?_, ?_⟩
    ·show Za3 L N v 0 = _
     unfold Za3
     rw [if_pos (by omega), if_pos (by omega), if_pos (by omega), if_pos (by omega), if_pos (by omega), if_pos b1, if_neg (by omega), if_pos (by omega)]
    ·show Zar L N 0 = _
     unfold Zar
     rw [if_pos (by omega), ha]
     simp only [Option.bind_some]
     rw [if_pos hB, l1]
     simp only [Option.bind_some]
     rw [if_neg (by omega), if_pos (by omega), if_pos l3, if_pos (by omega), if_neg (by omega), if_pos (by omega)]
     simp only [bl, List.append_assoc, List.cons_append, List.nil_append]
    ·simp only [bl, List.length_append, List.length_cons, List.length_nil]; omega
    ·simp only [bl, List.length_append, List.length_cons, List.length_nil]; omega
  obtain ⟨t', s1, s2, s3, s4⟩ := step
  rw [ZcH s1, ZcH s2]
  exact ZlH L N hL hN hv L.length 1 n n' t' (by omega) (by omega) (by omega) s3 s4
 ·have hB : ¬ (Zeg L 0 = true) := by unfold Zeg; rw [decide_eq_true_eq]; exact hb
  by_cases hlt : 0 < L.length
  ·have s1 : Zat L N (.h2m0 v 0) = some (.inl (.h2m1 v (0 + 1) (y ++ bl [10]))) := by
    show Za3 L N v 0 = _
    unfold Za3
    rw [if_pos (by omega), if_pos (by omega), if_neg (by omega), if_pos (by omega), y1]
    simp only [Option.bind_some]
    rw [if_pos (by omega), if_pos (by omega), if_pos b2, if_pos (by omega)]
   have s2 : Zad L N (.h2m0 0) = some (.inl (.h2m1 (y ++ bl [10]) (0 + 1))) := by
    show Zar L N 0 = _
    unfold Zar
    rw [if_pos (by omega), ha]
    simp only [Option.bind_some]
    rw [if_neg hB, if_pos (by omega), y2]
    simp only [Option.bind_some]
    by_cases hy : y.length = 0
    ·rw [if_pos hy, if_pos (by omega)]
     have : y = [] := List.length_eq_zero_iff.1 hy
     subst this
     rfl
    ·rw [if_neg hy, if_pos (by omega), if_pos y3, if_pos (by omega)]
   rw [ZcH s1, ZcH s2]
   exact ZlH L N hL hN hv L.length 1 n n' _ (by omega) (by omega) (by omega) (by simp only [bl, List.length_append, List.length_cons, List.length_nil]; omega) (by simp only [bl, List.length_append, List.length_cons, List.length_nil]; omega)
  ·have s1 : Zat L N (.h2m0 v 0) = some (.inl (.h2m0 v (0 + 1))) := by
    show Za3 L N v 0 = _
    unfold Za3
    rw [if_pos (by omega), if_pos (by omega), if_neg (by omega), if_neg (by omega), if_pos (by omega)]
   have s2 : Zad L N (.h2m0 0) = some (.inl (.h2m0 (0 + 1))) := by
    show Zar L N 0 = _
    unfold Zar
    rw [if_pos (by omega), ha]
    simp only [Option.bind_some]
    rw [if_neg hB, if_neg (by omega), if_pos (by omega)]
   rw [ZcH s1, ZcH s2]
   obtain ⟨n, rfl⟩ : ∃ q, n = q + 1 := ⟨n - 1, by omega⟩
   obtain ⟨n', rfl⟩ : ∃ q, n' = q + 1 := ⟨n' - 1, by omega⟩
   refine ⟨[], ZdX ?_, ZdX ?_⟩
   ·show Za3 L N v (0 + 1) = _
    unfold Za3
    rw [if_neg (by omega)]
   ·show Zar L N (0 + 1) = _
    unfold Zar
    rw [if_neg (by omega)]
theorem Zs4 (hL : L.length ≤ 512) (hN : 600 ≤ N) : ∀ (m j n n' : Nat) (v : List Int), j + m = L.length → ZfT L v j → m + L.length + 4 < n → m + L.length + 4 < n' →
  ∃ u e, Zb9 (Zat L N) n (.h1m0 v j) = some (.r0 u e) ∧ Zb9 (Zad L N) n' (.h1m0 j) = some (.r0 u e)
 | 0, j, n, n', v, hj, hv, hn, hn' => by
  obtain ⟨n, rfl⟩ : ∃ q, n = q + 1 := ⟨n - 1, by omega⟩
  obtain ⟨n', rfl⟩ : ∃ q, n' = q + 1 := ⟨n' - 1, by omega⟩
  obtain rfl : j = L.length := by omega
  have s1 : Zat L N (.h1m0 v L.length) = some (.inl (.h2m0 v 0)) := by
   show ZaZ L N v L.length = _
   unfold ZaZ
   rw [if_neg (by omega), if_pos (by omega)]
  have s2 : Zad L N (.h1m0 L.length) = some (.inl (.h2m0 0)) := by
   show ZaP L N L.length = _
   unfold ZaP
   rw [if_neg (by omega)]
  rw [ZcH s1, ZcH s2]
  obtain ⟨u, h1, h2⟩ := ZtN L N hL hN hv (n := n) (n' := n') (by omega) (by omega)
  exact ⟨u, 0, h1, h2⟩
 | m + 1, j, n, n', v, hj, hv, hn, hn' => by
  obtain ⟨n, rfl⟩ : ∃ q, n = q + 1 := ⟨n - 1, by omega⟩
  obtain ⟨n', rfl⟩ : ∃ q, n' = q + 1 := ⟨n' - 1, by omega⟩
  obtain ⟨c, b, c1, c2, c3, c4⟩ := ck_ex (a1 := (at_ L j).a1) (a2 := (at_ L j).a2) (a3 := (at_ L j).a3) (N := N) (at_ L j).a0
  have hvl := hv.1
  have step : (∃ e, Zat L N (.h1m0 v j) = some (.inr (.r0 [] e)) ∧ Zad L N (.h1m0 j) = some (.inr (.r0 [] e))) ∨
    ∃ v', Zat L N (.h1m0 v j) = some (.inl (.h1m0 v' (j + 1))) ∧ Zad L N (.h1m0 j) = some (.inl (.h1m0 (j + 1))) ∧ ZfT L v' (j + 1) := by
   show (∃ e, ZaZ L N v j = some (.inr (.r0 [] e)) ∧ ZaP L N j = some (.inr (.r0 [] e))) ∨
    ∃ v', ZaZ L N v j = some (.inl (.h1m0 v' (j + 1))) ∧ ZaP L N j = some (.inl (.h1m0 (j + 1))) ∧ ZfT L v' (j + 1)
   unfold ZaZ ZaP
   have hj2 : (j : Int) < (L.length : Int) := by omega
   rw [c1, c2, if_pos hj2, if_pos hj2]
   simp only [Option.bind_some]
   by_cases hb : b = true
   ·have hc : c = 0 := c3.2 hb
    obtain ⟨z8, z9⟩ := c4 hb
    have nb : ¬ ¬ (b = true) := fun h => h hb
    have nc : ¬ ¬ (c = 0) := fun h => h hc
    by_cases h8 : (at_ L j).a0 = 8
    ·rw [if_pos h8, if_pos h8, if_neg nc, if_neg nb]
     by_cases hg : (L.length : Int) < (at_ L j).a1
     ·rw [if_pos hg, if_pos hg]; exact .inl ⟨_, rfl, rfl⟩
     ·have hz : 0 ≤ (L.getD j RA.z).a1 := z8 h8
      have hg2 : (L.getD j RA.z).a1 ≤ (L.length : Int) := Int.not_lt.1 hg
      have hg3 : (L.getD j RA.z).a1.toNat < v.length := by omega
      have hg4 : (((j + 1) : Nat) : Int) ≤ (9223372036854775807 : Int) := by omega
      rw [if_neg hg, if_neg hg, if_pos hz, if_pos hg3, if_pos hg4, if_pos hg4]
      refine .inr ⟨_, rfl, rfl, ZpI L hv (by omega) hL (by omega) ?_⟩
      unfold ZcX
      rw [if_pos h8, Int.toNat_of_nonneg hz]
    ·rw [if_neg h8, if_neg h8]
     by_cases h9 : (at_ L j).a0 = 9
     ·rw [if_pos h9, if_pos h9, if_neg nc, if_neg nb]
      by_cases hg : (L.length : Int) < (at_ L j).a2
      ·rw [if_pos hg, if_pos hg]; exact .inl ⟨_, rfl, rfl⟩
      ·have hz : 0 ≤ (L.getD j RA.z).a2 := z9 h9
       have hg2 : (L.getD j RA.z).a2 ≤ (L.length : Int) := Int.not_lt.1 hg
       have hg3 : (L.getD j RA.z).a2.toNat < v.length := by omega
       have hg4 : (((j + 1) : Nat) : Int) ≤ (9223372036854775807 : Int) := by omega
       rw [if_neg hg, if_neg hg, if_pos hz, if_pos hg3, if_pos hg4, if_pos hg4]
       refine .inr ⟨_, rfl, rfl, ZpI L hv (by omega) hL (by omega) ?_⟩
       unfold ZcX
       rw [if_neg h8, if_pos h9, Int.toNat_of_nonneg hz]
     ·rw [if_neg h9, if_neg h9, if_neg nc, if_neg nb]
      repeat rw [if_pos (by omega)]
      refine .inr ⟨_, rfl, rfl, Zs2 L hv fun k hk => ?_⟩
      unfold ZcX
      rw [if_neg h8, if_neg h9]
      intro h; cases h
   ·have hc : ¬ c = 0 := fun h => hb (c3.1 h)
    refine .inl ⟨130, ?_, ?_⟩
    ·by_cases h8 : (at_ L j).a0 = 8
     ·rw [if_pos h8, if_pos hc]
     ·rw [if_neg h8]
      by_cases h9 : (at_ L j).a0 = 9
      ·rw [if_pos h9, if_pos hc]
      ·rw [if_neg h9, if_pos hc]
    ·by_cases h8 : (at_ L j).a0 = 8
     ·rw [if_pos h8, if_pos hb]
     ·rw [if_neg h8]
      by_cases h9 : (at_ L j).a0 = 9
      ·rw [if_pos h9, if_pos hb]
      ·rw [if_neg h9, if_pos hb]
  rcases step with ⟨e, s1, s2⟩ | ⟨v', s1, s2, s3⟩
  ·exact ⟨[], e, ZdX s1, ZdX s2⟩
  ·rw [ZcH s1, ZcH s2]
   exact Zs4 hL hN m (j + 1) n n' v' (by omega) s3 (by omega) (by omega)
theorem Zto (hN : 2000 ≤ N) : ∃ u e, ZdW L N = some (.r0 u e) ∧ ZcO L N = some (.r0 u e) := by
 unfold ZdW ZcO
 by_cases hl : (512 : Int) < (L.length : Int)
 ·refine ⟨[], 3, ZqF ?_, ZqF ?_⟩
  ·unfold Zcu; rw [if_pos hl]
  ·unfold ZbB; rw [if_pos hl]
 ·have s1 : Zcu L N = some (.inl (.h1m0 (List.replicate (L.length + 1) (0 : Int)) 0)) := by unfold Zcu; rw [if_neg hl]
  have s2 : ZbB L N = some (.inl (.h1m0 0)) := by unfold ZbB; rw [if_neg hl]
  rw [Zs1 s1, Zs1 s2]
  refine Zs4 L N (by omega) (by omega) L.length 0 N N _ (by omega) ⟨by simp, fun k hk => ?_⟩ (by omega) (by omega)
  rw [List.getD_eq_getElem?_getD, List.getElem?_replicate, if_pos (by omega)]; rfl
end
end Ev
end Go.Proofs.YtaifklllpehnmaaGreatDoor
/- The law's plain function is true. -/
namespace Go.Proofs.YtaifklllpehnmaaGreatDoor
open Go.RowKit
namespace Ev
set_option linter.unusedVariables false
theorem Zmg (x : List Int) : Zlk x x = true := by
 unfold Zlk
 rw [beq_toListBytes]
 exact beq_self_eq_true _
theorem Ap.runs (L0 : List RA) (a1 a2 a3 a4 : Int) (N : Nat) {A B C : Prop} (_ : A) (_ : B) (_ : C) (hN : 2000 ≤ N := by decide) : ZbL L0 a1 a2 a3 a4 N = some (.r0 true) := by
 unfold ZbL
 obtain ⟨u, e, h1, h2⟩ := Zto (L0.take ((if (520 : Int) < (L0.length : Int) then (520 : Int) else (L0.length : Int))).toNat) N hN
 obtain ⟨y, f, y1, y2, _, _⟩ := Ztx (a1 := a2) (a2 := a3) (a3 := a4) (N := N) a1 (by omega)
 rw [h1, h2, y1, y2]
 simp only [Option.bind_some]
 rw [if_pos (Zmg u)]
 simp only [if_true]
 rw [if_pos (Zmg y)]
end Ev
end Go.Proofs.YtaifklllpehnmaaGreatDoor
/- A region that draws its order, whose first operations only read (and make memory in calls), and whose last ones, in a forced order among themselves, make and write new memory: but these may come up early. -/
namespace Go.Proofs.YtaifklllpehnmaaGreatDoor
open Go.RowKit

section
variable {P : Program}

def Calm (P : Program) (W : World) (o : Oper) (a : Act) (v : Value) : Prop :=
 ∀ w, Below W.heap.size W w → o.quietAt P a (fun w' => Below w.heap.size w w') w v

def YieldsC (P : Program) (ops : Array Oper) (W : World) (o : Oper) (v : Value) (a : Act) : Prop :=
 (Region.wanted o (yielded ops a.tmps) = true ∧ Calm P W o a v) ∨ (Region.wanted o (yielded ops a.tmps) = false ∧ v = undef)
theorem Zmh {a b c : World} (h : Below a.heap.size a b) (k : Below b.heap.size b c) : Below a.heap.size a c := h.trans (k.mono h.size)

def Closed (md : Region.Mode) (ops : Array Oper) (listed : Array Bool) : Prop :=
 ∀ j oj, ops[j]? = some oj → listed.getD j false = true → ∀ e ∈ oj.after, Region.binds md e = true → listed.getD e.on false = true
def ZpJ (md : Region.Mode) (ops : Array Oper) : Nat → Nat → Nat → Bool
 | 0, _, _ => false
 | f + 1, t, i => Region.waitsFor md ops t i || (List.range ops.size).any fun k => Region.waitsFor md ops t k && ZpJ md ops f k i
theorem Closed.waits {md : Region.Mode} {ops : Array Oper} {listed : Array Bool} (h : Closed md ops listed) : ∀ (f t i : Nat), listed.getD t false = true → ZpJ md ops f t i = true → listed.getD i false = true
 | 0, _, _, _, hw => by cases hw
 | f + 1, t, i, ht, hw => by
  simp only [ZpJ, Bool.or_eq_true, List.any_eq_true, Bool.and_eq_true] at hw
  rcases hw with hw | ⟨k, _, hw, hr⟩
  ·obtain ⟨o, ho, e, he, hb, rfl⟩ := Region.waitsFor_spec hw
   exact h t o ho ht e he hb
  ·obtain ⟨o, ho, e, he, hb, rfl⟩ := Region.waitsFor_spec hw
   exact h.waits f e.on i (h t o ho ht e he hb) hr

theorem YieldsC.wpOp {ops : Array Oper} {W : World} {i : Nat} {o : Oper} {v : Value} {a : Act} {w : World} (hi : ops[i]? = some o) (hy : YieldsC P ops W o v a) (hb : Below W.heap.size W w)
  {K : Act → World → Prop} {Q : Exit → Act → World → Prop} (h : ∀ w', Below w.heap.size w w' → K (a.put o.dst v) w') : wpOp P ops Q i K a w := by
 unfold Go.wpOp
 simp only [hi]
 rcases hy with ⟨hw, hv⟩ | ⟨hw, rfl⟩
 ·simp only [hw, if_true]
  exact .inl (Oper.wp_of_quiet (C := fun w' => Below w.heap.size w w') (K := fun a' => a' = a.put o.dst v) (Below.refl _ _) (fun a' w' hw' ha => by subst ha; exact h w' hw')
   ⟨v, fun w1 hw1 => by
    have h1 := hv w1 (Zmh hb hw1)
    unfold Oper.quietAt at h1 ⊢
    generalize (execOp a.eval o).run P w1 = r at *
    cases r with
    | ok n w' =>
     cases n <;> simp only [Oper.quietUpon] at h1 ⊢
     case value u => exact h1
     case skip => exact h1
     case enter f args => exact ⟨h1.1, h1.2.mono fun e w2 ⟨he, hb2⟩ => ⟨he, Zmh hw1 hb2⟩⟩
    | halt x w' => simp only [Oper.quietUpon] at h1, rfl⟩)
 ·simp only [hw, Bool.false_eq_true, if_false]
  exact h w (Below.refl _ _)

end
end Go.Proofs.YtaifklllpehnmaaGreatDoor
/- The frame of a law whose row lists tables: from what is laid to the tables that the runner knows. -/
namespace Go.Proofs.YtaifklllpehnmaaGreatDoor
open Go.ChangeShapes Go.WideShapes Go.ChangeAt Go.RowKit
section
variable {H : Type} {enc : TypeId × Value → H} {P : Program}
theorem ZrA {C : Checked} {os : Os} {F : FuncId} {fn : Func} {s : ChangeSpec} {tb : TypeId} {laid : List (String × DataW Unit)}
  (own : ownKnob C.prog.godebug = none) (started : os.Started) (noInit : C.prog.inits.idxOf? F = none) (hfn : C.prog.funcs[F]? = some fn)
  (hv : s.vars = []) (hrt : fn.resultTypes = #[tb]) (hub : C.prog.underlying tb = some .bool)
  (hspec : ∀ ds : List (DataW H), ds.length = fn.params.size → s.fn H ds = { results := [.lit (.bool true)], args := ds })
  (hl : laidOutB C.prog = true) (hr : (fn.params.toList.all fun t => C.prog.readableRec t && decide (t < C.prog.types.size)) = true)
  (witness : ∃ (w : World) (tape : Tape) (i : Input), w.os = os ∧ (w.forCall tape i).Shaped C.prog ∧ i.vars = [] ∧ Input.okWide C.prog (w.forCall tape i) .any w.heap.size F i ∧
   ((s.pre enc C.prog fn [] false (w.forCall tape i).memory i.args ∧ laidMetH C.prog laid (w.forCall tape i).memory) ∧ sizedMet enc C.prog fn (OpenSpec.ofChange s) false (w.forCall tape i).memory i.args) ∧ ({} : Assume).holds C.prog (lone (Frame.enter C.prog F i.args .normal) [] (w.forCall tape i)))
  (walk : ∀ (W : World) (base : Nat) (args : Array Value) (ds : List (DataW H)) (p : List MemPlace),
   (∀ (j : Nat) t v, fn.params[j]? = some t → args[j]? = some v → Value.okWide C.prog W .any base t v) →
   DataW.TrodAll enc C.prog W 0 (fun _ => true) true fn.params.toList args.toList ds p → (∀ x ∈ p, x.block < W.heap.size) →
   (DataW.weightsEach C.prog fn.params.toList ds).all (· ≤ reachBytes) = true → laidMetH C.prog laid W →
   Calls C.prog F args W (Ret (.bool true) W)) :
  ReturnsInHanded {} C os F .any (fun w args => (s.pre enc C.prog fn [] false w args ∧ laidMetH C.prog laid w) ∧ sizedMet enc C.prog fn (OpenSpec.ofChange s) false w args) (s.post enc C.prog fn false true false false) := by
 refine returnsInHanded_of_change_and (X := fun w _ => laidMetH C.prog laid w) (fun _ _ _ hh h => h.of_heap hh) own started noInit hfn witness ?_
 intro W base args ds gs before hval hW _ hsz hL _
 have hlt : ∀ x ∈ before, x.block < W.heap.size := fun x hx => hW.lt x hx
 obtain ⟨p, q, hA, hV, hps, hfz, hnd⟩ := id hW
 rw [hv] at hV
 obtain ⟨rfl, rfl⟩ := trodVars_none hV
 rw [List.append_nil] at hps
 subst hps
 have hvt : s.plain.varTypes C.prog = [] := by simp [ChangeSpec.plain, DataSpec.varTypes, hv]
 rw [hvt, List.append_nil, List.append_nil] at hsz
 refine (walk W base args ds before hval hA hlt hsz hL).mono fun e W' ⟨he, hb⟩ => ⟨_, he, ?_⟩
 have hlen : ds.length = fn.params.size := by
  have : ∀ {ts : List TypeId} {vs : List Value} {ds : List (DataW H)} {ps : List MemPlace}, DataW.TrodAll enc C.prog W 0 (fun _ => true) true ts vs ds ps → ds.length = ts.length := by
   intro ts
   induction ts with
   | nil => intro vs ds ps h; obtain ⟨_, rfl, _⟩ := trodAll_nil h; rfl
   | cons t ts ih => intro vs ds ps h; obtain ⟨_, _, _, _, _, _, _, rfl, _, _, r⟩ := trodAll_cons h; simp [ih r]
  simpa using this hA
 have hs := hspec (ds ++ []) (by simpa using hlen)
 refine ⟨ds, [], before, [], before, [], by simpa [hv] using hW, ?_, ?_, ?_, World.keptBut_mono (fun x hx => ⟨hx, .inr (.inl hx)⟩) (hb.frame (· ∈ before)), fun h => by cases h⟩
 ·rw [hs, hrt]
  exact trodAll_mk1 (shut_bool hub true)
 ·rw [hs]
  simpa using Zg4 hl hb hr hA hlt
 ·rw [hs, hv]
  rfl
end
namespace Ev
theorem Zqq {P : Program} {W : World} {n : String} {g : Nat} {cs : Array Value} (hg : P.globalNamed n = some g) (h : W.var? P n = some cs) : ∃ t fr, W.heap[g]? = some (.cells cs t fr) := by
 simp only [World.var?, hg, Option.bind_some] at h
 split at h
 ·rename_i c t fr hW
  injection h with h; subst h
  exact ⟨t, fr, hW⟩
 ·cases h
def pow10 : List Int := [1, 10, 100, 1000, 10000, 100000, 1000000, 10000000, 100000000, 1000000000, 10000000000, 100000000000, 1000000000000, 10000000000000, 100000000000000, 1000000000000000, 10000000000000000, 100000000000000000, 1000000000000000000, 10000000000000000000]
theorem tabw_of_laid {W : World} {laid : List (String × DataW Unit)} (hl : (laid.filter fun x => x.1 == "internal/strconv.uint64pow10") = [("internal/strconv.uint64pow10", Go.Lib.tabData .u64 pow10)]) (h : laidMetH Tryz.prog laid W) : TabW W := by
  have h1 := laidMetH.filter (fun x => x.1 == "internal/strconv.uint64pow10") h
  rw [hl, MakeChecks.laidMetH_plain _ _ _ (by rfl)] at h1
  have h2 := Go.Lib.tabIs_of_head (g := 0) (t := 111) (e := 97) (n := 20) (by kernel_rfl) (by kernel_rfl) Tryz.underlying111 Tryz.underlying97 (by kernel_rfl) (by kernel_rfl) h1
  obtain ⟨t, fr, h3⟩ := Zqq (g := 0) (by kernel_rfl) h2
  intro x hx
  obtain rfl := List.mem_singleton.1 hx
  exact ⟨t, fr, h3⟩
end Ev
end Go.Proofs.YtaifklllpehnmaaGreatDoor
/- The law AsmPrints, for every input. -/
namespace Go.Proofs.YtaifklllpehnmaaGreatDoor
open Go.ChangeShapes Go.WideShapes Go.ChangeAt Go.RowKit
namespace Ev
namespace AsmPrints
set_option linter.unusedVariables false
def el0R (x : RA) : Prop := (IntKind.i64.min ≤ x.a0 ∧ x.a0 ≤ IntKind.i64.max) ∧ (IntKind.i64.min ≤ x.a1 ∧ x.a1 ≤ IntKind.i64.max) ∧ (IntKind.i64.min ≤ x.a2 ∧ x.a2 ≤ IntKind.i64.max) ∧ (IntKind.i64.min ≤ x.a3 ∧ x.a3 ≤ IntKind.i64.max)
theorem el0 {H : Type} {enc : TypeId × Value → H} {w : World} {cs : List Value} (hl : cs.length = 4) (h : Trd enc Tryz.prog w 25 cs) : ∃ x : RA, DecL w cs (E_iiii.cel x) ∧ el0R x := by
 have h0 := Zue (by kernel_rfl : Tryz.prog.cellsOf 25 = 4) hl h
 have h1 := ZfQ 0 1 4 Tryz.underlying25 h0 0 (te := 23) (o' := 0) (by kernel_rfl) rfl (by kernel_rfl) (by kernel_rfl) (by decide)
 obtain ⟨x0, e0, b0⟩ := Zkx Tryz.underlying23 (by kernel_rfl) h1
 have h2 := ZfQ 1 1 4 Tryz.underlying25 h0 1 (te := 3) (o' := 1) (by kernel_rfl) rfl (by kernel_rfl) (by kernel_rfl) (by decide)
 obtain ⟨x1, e1, b1⟩ := Zkx Tryz.underlying3 (by kernel_rfl) h2
 have h3 := ZfQ 2 1 4 Tryz.underlying25 h0 2 (te := 3) (o' := 2) (by kernel_rfl) rfl (by kernel_rfl) (by kernel_rfl) (by decide)
 obtain ⟨x2, e2, b2⟩ := Zkx Tryz.underlying3 (by kernel_rfl) h3
 have h4 := ZfQ 3 1 4 Tryz.underlying25 h0 3 (te := 3) (o' := 3) (by kernel_rfl) rfl (by kernel_rfl) (by kernel_rfl) (by decide)
 obtain ⟨x3, e3, b3⟩ := Zkx Tryz.underlying3 (by kernel_rfl) h4
 refine ⟨(⟨x0, x1, x2, x3⟩ : RA), ZtL (by rw [hl, Enc.clen]; rfl) (fun j y hy => ?_), ⟨b0, b1, b2, b3⟩⟩
 have := (Zhb (w := w) (k := 0) e0 .i (Zhb (w := w) (k := 1) e1 .i (Zhb (w := w) (k := 2) e2 .i (Zhb (w := w) (k := 3) e3 .i (Zud (w := w)))))) j y hy
 simpa using this
noncomputable def ZtO : List TypeId := (Tryz.prog.cellTypes Tryz.prog.depth 25).getD []
theorem own : ownKnob Tryz.prog.godebug = none := by kernel_rfl
set_option maxRecDepth 100000 in
theorem lifted (os : Os) (started : os.Started) (H : Type) (enc : TypeId × Value → H) :
  ReturnsInHanded {} Tryz.checked os 3 .any (fun w args => (Rows.asmPrintsSpec.pre enc Tryz.prog Tryz.f3 [] false w args ∧ laidMetH Tryz.prog Rows.asmPrintsRow.laid w) ∧ sizedMet enc Tryz.prog Tryz.f3 (OpenSpec.ofChange Rows.asmPrintsSpec) false w args) (Rows.asmPrintsSpec.post enc Tryz.prog Tryz.f3 false true false false) := by
 refine ZrA (laid := Rows.asmPrintsRow.laid) (C := Tryz.checked) own started (by kernel_rfl) Tryz.func3 rfl rfl Tryz.underlying4 ?_ (by kernel_rfl) (by kernel_rfl)
  (ChangeSpec.witness_shaped (enc := enc) (C := Tryz.checked) (os := os) (X := fun w _ => laidMetH Tryz.prog Rows.asmPrintsRow.laid w) false (World.laidAll Tryz.prog os Rows.asmPrintsRow.laid) #[.slice none 0 0, .agg #[.int .i64 0, .int .i64 0, .int .i64 0, .int .i64 0]] 8 (World.laidAll_os _ _ _)
   (World.shaped_of_ZipB (by kernel_rfl) (by kernel_rfl)) (by kernel_rfl) (by kernel_rfl) (by kernel_rfl)
   (by rw [MakeChecks.laidMetH_plain _ _ _ (by kernel_rfl)]; exact laidMet_laidAll _ (by kernel_rfl) (by kernel_rfl))) ?_
 ·intro ds hlen
  have hlen : ds.length = 2 := hlen.trans (by kernel_rfl)
  match ds, hlen with
  | [_, _], _ => rfl
 intro W base args ds p hval hA hlt hsz hLaid
 have ht : TabW W := tabw_of_laid (by rfl) hLaid
 rw [Tryz.params3] at hA hval
 obtain ⟨v0, vs0, d0, ds0, p0, q0, hargs, rfl, rfl, h0, r0⟩ := trodAll_cons hA
 obtain ⟨v1, vs1, d1, ds1, p1, q1, rfl, rfl, rfl, h1, r1⟩ := trodAll_cons r0
 obtain ⟨rfl, rfl, rfl⟩ := trodAll_nil r1
 obtain rfl : args = #[v0, v1] := by cases args; simp_all
 obtain ⟨a0, l0, c0, rfl⟩ := Go.WideShapes.okWide_slice Tryz.underlying22 (hval 0 22 v0 rfl rfl)
 obtain ⟨L0, u0, e0, D0, n0, m0⟩ := Zsr (E := E_iiii) (Q := el0R) Tryz.underlying22 (by kernel_rfl) (by decide) (fun _ => el0) (ZqE h0)
 obtain rfl : u0 = .slice a0 l0 c0 := by have := e0; simp [Value.cells] at this; exact this.symm
 obtain ⟨cs1, rfl, hl1, hc1⟩ := Zpb (ts := ZtO) (by kernel_rfl) (by kernel_rfl) (by kernel_rfl) (hval 1 25 v1 rfl rfl)
 obtain ⟨x1, D1, m1⟩ := el0 (show cs1.length = 4 from hl1.trans (by kernel_rfl)) (by have q := ZqE h1; simp [Value.cells] at q; exact q)
 exact Zsi (ZfS L0 x1.a0 x1.a1 x1.a2 x1.a3 100000 _ (Ap.runs L0 x1.a0 x1.a1 x1.a2 x1.a3 100000 n0 m0 m1)) (ZoM (show VR (ιMk W) (ms E_iiii L0) _ from D0.vr) (ZoM (show VR (ιMk W) (.agg #[Value.int .i64 x1.a0, Value.int .i64 x1.a1, Value.int .i64 x1.a2, Value.int .i64 x1.a3]) _ from .aggl D1.vr) Zq1)) rfl
theorem over : Rows.asmPrintsRow.holds Tryz.pinned (OpenSpec.ofChange Rows.asmPrintsSpec) :=
 OpenClaim.holds_of_wide 3 Tryz.f3 rfl rfl rfl rfl rfl rfl rfl ⟨rfl, rfl, rfl, rfl, rfl⟩ rfl rfl rfl rfl rfl (by kernel_rfl) Tryz.func3 (by kernel_rfl)
  (of_decide_eq_true (by kernel_rfl)) (by unfold Func.isWrapper; first | (rw [if_pos (by decide +kernel)]; kernel_rfl) | (rw [if_neg (by decide +kernel)]; exact ⟨rfl, rfl⟩))
  (fun os started H enc _ => lifted os started H enc)
theorem proved : Rows.AsmPrintsCardSaid :=
 Claim7.holds_tied_plain_at .later [] [.data, .data, .data, .data, .sentinel, .sentinel, .pinned] true Rows.asmPrintsCard.stood.harness true over (fun _ h => by cases h) (by kernel_rfl) (fun _ h => by cases h) asmPrints_row_tie rfl ⟨rfl, rfl⟩ (by kernel_rfl) rfl
  (fun f fn hf hfn => by
   obtain rfl : f = 3 := Option.some.inj ((show Tryz.prog.funcNamed "gantlet/gantletlaw13.AsmPrints" = some 3 by kernel_rfl).symm.trans hf) |>.symm
   obtain rfl : fn = Tryz.f3 := (Option.some.inj (Tryz.func3.symm.trans hfn)).symm
   exact ⟨by kernel_rfl, fun j t ht => by
    rw [Tryz.params3] at ht
    have hm : t ∈ [22, 25] := by simpa using Array.mem_of_getElem? ht
    have hall : ([22, 25].all fun u => !Tryz.prog.wantsStandIn u) = true := by kernel_rfl
    exact (show Tryz.prog.wantsStandIn t = false by simpa using List.all_eq_true.1 hall t hm)⟩)
  (by kernel_rfl)
#print axioms proved
end AsmPrints
end Ev
end Go.Proofs.YtaifklllpehnmaaGreatDoor
