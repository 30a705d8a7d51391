/- The law HashPrograms, for every input. -/
import Derived.Test.YtaajdoclloamlaaGreatZaf
import Derived.Test.YtaajdoclloamlaaGreatZac
import Derived.Test.YtaajdoclloamlaaGreatZad
import Derived.Test.YtaajdoclloamlaaGreatZab
import Derived.StillTail
import Derived.OrdersHeld
import Derived.WideBlind
/- Calls do what the plain functions say. -/
namespace Go.Proofs.YtaajdoclloamlaaGreat
open Go.RowKit
namespace Ev
set_option linter.unusedVariables false
set_option maxRecDepth 100000
theorem Zmo (a0 a1 : Int) (N : Nat) : Gx Tryz.prog 3 [] #[vi a0, vi a1] (Zhu a0 a1) (ZgO a0 a1) (ZcF a0 a1 N) := by
 unfold ZcF
 refine Ze (fun z0 c0 => ?_)
 cases z0 with
 | r0 =>
  refine Ze (fun z1 c1 => ?_)
  cases z1 with
  | r0 y1_0 y1_1 y1_2 =>
   refine Ze (fun z2 c2 => ?_)
   cases z2 with
   | r0 =>
    refine Ze (fun z3 c3 => ?_)
    cases z3 with
    | r0 y3_0 =>
     refine Ze (fun z4 c4 => ?_)
     cases z4 with
     | r0 =>
      refine Ze (fun z5 c5 => ?_)
      cases z5 with
      | r0 y5_0 y5_1 =>
       refine Ze (fun z6 c6 => ?_)
       cases z6 with
       | r0 =>
        exact Zas
       | r1 =>
        refine Ze (fun z7 c7 => ?_)
        cases z7 with
        | r0 =>
         exact Zas
        | r1 =>
         refine Ze (fun z8 c8 => ?_)
         cases z8 with
         | r0 =>
          exact Zas
         | r1 =>
          by_cases g9 : (0 : Int) ≤ a0
          ·
           refine Ze (fun z10 c10 => ?_)
           cases z10 with
           | r0 =>
            refine Ze (fun z11 c11 => ?_)
            cases z11 with
            | r0 =>
             refine Ze (fun z12 c12 => ?_)
             cases z12 with
             | r0 =>
              exact Zi Zj (r := (.r0 : ZO)) (fu := 4000) (orc := (Zl [(6, false)] [(0, (a0 % (8 : Int))), (1, (a0 % (8 : Int))), (2, ((a0 % (8 : Int)) + (8 : Int))), (3, (((a0 % (8 : Int)) + (8 : Int)) % (8 : Int)))] [] [] [(0, (Zpr (a0) (a1)    0)), (1, (Zof (a0) (a1)  y1_0 y1_1 y1_2  1)), (2, (Zhy (a0)    2)), (3, (ZgM (a0)  y3_0  3)), (4, (Zgc (a0)    4)), (5, (Zf0 (a0)  y5_0 y5_1  5)), (6, (Zm2 (a0) (a1) ((a0 % (8 : Int))) ((a0 % (8 : Int))) ((a0 % (8 : Int))) (a0) (a1) (y1_0) (y1_1) (y1_2)   0 1 6)), (7, (Zf2 (a0) ((a0 % (8 : Int))) (a0) (y3_0)   2 3 6)), (8, (Zf4 (a0) ((a0 % (8 : Int))) ((a0 % (8 : Int))) (a0) (y5_0) (y5_1)   4 5 6)), (11, (ZlB (a0) (a1) ((a0 % (8 : Int))) ((a0 % (8 : Int))) ((a0 % (8 : Int)))   0 6)), (12, (Zfq (a0) ((a0 % (8 : Int)))   2 6)), (13, (Zfs (a0) ((a0 % (8 : Int))) ((a0 % (8 : Int)))   4 6))])) (live := []) (u := vT) (bl := []) (ob := [(dP (ZdQ #[vs 4 0 22 22] (a0) ((a0 % (8 : Int))) ((a0 % (8 : Int)))   4 6), true), (dS [vi 10, vq, vq, vq, vi 1, vi 1, vi a0, vq, vi 15, vq, vq, vq, vi 13, vi 3, vq, vi (a0 % (8 : Int)), vi 9, vi 3, vi 21, vq, vi 13, vi 4, vi 3, vi 1, vi 7, vi 5, vi 4, vi 1, vi 9, vi 5, vi 12, vq, vi 13, vi 2, vi 3, vq, vi 14, vq, vi (a0 % (8 : Int)), vi 2, vi 12, vi 3, vq, vq, vi 8, vi 21, vq, vq, vi 3, vi 6, vi 3, vq, vi 13, vi 3, vi 6, vq, vi 9, vi 3, vi 21, vq, vi 13, vi 4, vi 3, vi 1, vi 7, vi 5, vi 4, vi 1, vi 9, vi 5, vi 12, vq, vi 13, vi 2, vi 3, vq, vi 14, vi 6, vq, vi 2, vi 12, vi 3, vq, vq, vi 17, vq, vq, vq], true), (dP (ZdP #[vs 2 0 17 17] (a0) ((a0 % (8 : Int)))   2 6), true), (dS [vi 10, vq, vq, vq, vi 1, vi 1, vi a0, vq, vi 1, vi 7, vq, vq, vi 1, vi 6, vq, vq, vi 15, vq, vq, vq, vi 13, vi 3, vq, vi (a0 % (8 : Int)), vi 9, vi 3, vi 14, vq, vi 13, vi 4, vi 3, vi 1, vi 7, vi 7, vi 4, vi 1, vi 9, vi 7, vi 12, vq, vi 13, vi 6, vi 3, vi 2, vi 8, vi 14, vq, vq, vi 13, vi 3, vi 3, vq, vi 8, vi 6, vq, vq, vi 17, vq, vq, vq, vi 19, vi 7, vq, vq, vi 19, vi 6, vq, vq], true), (dP (ZhV #[vs 0 0 20 20] (a0) (a1) ((a0 % (8 : Int))) ((a0 % (8 : Int))) ((a0 % (8 : Int)))   0 6), true), (dS [vi 10, vq, vq, vq, vi 1, vi 1, vi a0, vq, vi 1, vi 6, vi a1, vq, vi 15, vq, vq, vq, vi 13, vi 3, vq, vi (a0 % (8 : Int)), vi 9, vi 3, vi 13, vq, vi 13, vi 4, vi 3, vi 1, vi 7, vi 5, vi 4, vi 1, vi 9, vi 5, vi 11, vq, vi 14, vi 3, vi 2, vi 6, vi 8, vi 19, vq, vq, vi 13, vi 3, vi 3, vq, vi 8, vi 5, vq, vq, vi 11, vi 2, vi 3, vi 1, vi 14, vi 2, vi 1, vi 1, vi 14, vi 2, vi 2, vi 6, vi 13, vi 3, vq, vi (a0 % (8 : Int)), vi 14, vi 2, vq, vi 3, vi 14, vq, vi (a0 % (8 : Int)), vi 2, vi 17, vq, vq, vq], true), (((a0 % (8 : Int)) != (((a0 % (8 : Int)) + (8 : Int)) % (8 : Int))), false), ((Int.tmod ((a0 % (8 : Int)) + (8 : Int)) (8 : Int)) == (((a0 % (8 : Int)) + (8 : Int)) % (8 : Int)), true), ((IntKind.i64.wrap ((a0 % (8 : Int)) + (8 : Int))) == ((a0 % (8 : Int)) + (8 : Int)), true), ((Int.tmod a0 (8 : Int)) == (a0 % (8 : Int)), true), ((IntKind.i64.wrap (((BitVec.ofInt IntKind.i64.bits a0 &&& BitVec.ofInt IntKind.i64.bits (7 : Int)).toNat : Nat) : Int)) == (a0 % (8 : Int)), true), (dP (Ze4 #[vs 4 0 22 22, vs 5 0 22 22] (a0) ((a0 % (8 : Int))) ((a0 % (8 : Int))) (a0) (y5_0) (y5_1)   4 5 6), true), (dS [vi 10, vq, vq, vq, vi 1, vi 1, vi a0, vq, vi 15, vq, vq, vq, vi 13, vi 3, vq, vi (a0 % (8 : Int)), vi 9, vi 3, vi 21, vq, vi 13, vi 4, vi 3, vi 1, vi 7, vi 5, vi 4, vi 1, vi 9, vi 5, vi 12, vq, vi 13, vi 2, vi 3, vq, vi 14, vq, vi (a0 % (8 : Int)), vi 2, vi 12, vi 3, vq, vq, vi 8, vi 21, vq, vq, vi 3, vi 6, vi 3, vq, vi 13, vi 3, vi 6, vq, vi 9, vi 3, vi 21, vq, vi 13, vi 4, vi 3, vi 1, vi 7, vi 5, vi 4, vi 1, vi 9, vi 5, vi 12, vq, vi 13, vi 2, vi 3, vq, vi 14, vi 6, vq, vi 2, vi 12, vi 3, vq, vq, vi 17, vq, vq, vq], true), (dS [vi 10, vq, vq, vq, vi 1, vi 1, vi a0, vq, vi 15, vq, vq, vq, vi 13, vi 3, vq, vi y5_0, vi 9, vi 3, vi 21, vq, vi 13, vi 4, vi 3, vi 1, vi 7, vi 5, vi 4, vi 1, vi 9, vi 5, vi 12, vq, vi 13, vi 2, vi 3, vq, vi 14, vq, vi y5_1, vi 2, vi 12, vi 3, vq, vq, vi 8, vi 21, vq, vq, vi 3, vi 6, vi 3, vq, vi 13, vi 3, vi 6, vq, vi 9, vi 3, vi 21, vq, vi 13, vi 4, vi 3, vi 1, vi 7, vi 5, vi 4, vi 1, vi 9, vi 5, vi 12, vq, vi 13, vi 2, vi 3, vq, vi 14, vi 6, vq, vi 2, vi 12, vi 3, vq, vq, vi 17, vq, vq, vq], true), (dP (Ze3 #[vs 2 0 17 17, vs 3 0 17 17] (a0) ((a0 % (8 : Int))) (a0) (y3_0)   2 3 6), true), (dS [vi 10, vq, vq, vq, vi 1, vi 1, vi a0, vq, vi 1, vi 7, vq, vq, vi 1, vi 6, vq, vq, vi 15, vq, vq, vq, vi 13, vi 3, vq, vi (a0 % (8 : Int)), vi 9, vi 3, vi 14, vq, vi 13, vi 4, vi 3, vi 1, vi 7, vi 7, vi 4, vi 1, vi 9, vi 7, vi 12, vq, vi 13, vi 6, vi 3, vi 2, vi 8, vi 14, vq, vq, vi 13, vi 3, vi 3, vq, vi 8, vi 6, vq, vq, vi 17, vq, vq, vq, vi 19, vi 7, vq, vq, vi 19, vi 6, vq, vq], true), (dS [vi 10, vq, vq, vq, vi 1, vi 1, vi a0, vq, vi 1, vi 7, vq, vq, vi 1, vi 6, vq, vq, vi 15, vq, vq, vq, vi 13, vi 3, vq, vi y3_0, vi 9, vi 3, vi 14, vq, vi 13, vi 4, vi 3, vi 1, vi 7, vi 7, vi 4, vi 1, vi 9, vi 7, vi 12, vq, vi 13, vi 6, vi 3, vi 2, vi 8, vi 14, vq, vq, vi 13, vi 3, vi 3, vq, vi 8, vi 6, vq, vq, vi 17, vq, vq, vq, vi 19, vi 7, vq, vq, vi 19, vi 6, vq, vq], true), (dP (Zi1 #[vs 0 0 20 20, vs 1 0 20 20] (a0) (a1) ((a0 % (8 : Int))) ((a0 % (8 : Int))) ((a0 % (8 : Int))) (a0) (a1) (y1_0) (y1_1) (y1_2)   0 1 6), true), (dS [vi 10, vq, vq, vq, vi 1, vi 1, vi a0, vq, vi 1, vi 6, vi a1, vq, vi 15, vq, vq, vq, vi 13, vi 3, vq, vi (a0 % (8 : Int)), vi 9, vi 3, vi 13, vq, vi 13, vi 4, vi 3, vi 1, vi 7, vi 5, vi 4, vi 1, vi 9, vi 5, vi 11, vq, vi 14, vi 3, vi 2, vi 6, vi 8, vi 19, vq, vq, vi 13, vi 3, vi 3, vq, vi 8, vi 5, vq, vq, vi 11, vi 2, vi 3, vi 1, vi 14, vi 2, vi 1, vi 1, vi 14, vi 2, vi 2, vi 6, vi 13, vi 3, vq, vi (a0 % (8 : Int)), vi 14, vi 2, vq, vi 3, vi 14, vq, vi (a0 % (8 : Int)), vi 2, vi 17, vq, vq, vq], true), (dS [vi 10, vq, vq, vq, vi 1, vi 1, vi a0, vq, vi 1, vi 6, vi a1, vq, vi 15, vq, vq, vq, vi 13, vi 3, vq, vi y1_0, vi 9, vi 3, vi 13, vq, vi 13, vi 4, vi 3, vi 1, vi 7, vi 5, vi 4, vi 1, vi 9, vi 5, vi 11, vq, vi 14, vi 3, vi 2, vi 6, vi 8, vi 19, vq, vq, vi 13, vi 3, vi 3, vq, vi 8, vi 5, vq, vq, vi 11, vi 2, vi 3, vi 1, vi 14, vi 2, vi 1, vi 1, vi 14, vi 2, vi 2, vi 6, vi 13, vi 3, vq, vi y1_1, vi 14, vi 2, vq, vi 3, vi 14, vq, vi y1_2, vi 2, vi 17, vq, vq, vq], true), (dP (Ze2 #[vi a0] (a0)  y5_0 y5_1  5), true), (dP (ZeL #[vi a0] (a0)    4), true), (dP (ZfX #[vi a0] (a0)  y3_0  3), true), (dP (Zgt #[vi a0] (a0)    2), true), (dP (Zjk #[vi a0, vi a1] (a0) (a1)  y1_0 y1_1 y1_2  1), true), (dP (Zkp #[vi a0, vi a1] (a0) (a1)    0), true)]) (by kernel_rfl) (Zb (Zc (Zft #[vs 4 0 22 22] (a0) ((a0 % (8 : Int))) ((a0 % (8 : Int)))   N c12 4 6 rfl (by decide) (by decide))) <| Zb (Zc (Za rfl (Za rfl (Za rfl (Za rfl (Za rfl (Za rfl (Za rfl (Za rfl (Za rfl (Za rfl (Za rfl (Za rfl (Za rfl (Za rfl (Za rfl (Za rfl (Za rfl (Za rfl (Za rfl (Za rfl (Za rfl (Za rfl (Za rfl (Za rfl (Za rfl (Za rfl (Za rfl (Za rfl (Za rfl (Za rfl (Za rfl (Za rfl (Za rfl (Za rfl (Za rfl (Za rfl (Za rfl (Za rfl (Za rfl (Za rfl (Za rfl (Za rfl (Za rfl (Za rfl (Za rfl (Za rfl (Za rfl (Za rfl (Za rfl (Za rfl (Za rfl (Za rfl (Za rfl (Za rfl (Za rfl (Za rfl (Za rfl (Za rfl (Za rfl (Za rfl (Za rfl (Za rfl (Za rfl (Za rfl (Za rfl (Za rfl (Za rfl (Za rfl (Za rfl (Za rfl (Za rfl (Za rfl (Za rfl (Za rfl (Za rfl (Za rfl (Za rfl (Za rfl (Za rfl (Za rfl (Za rfl (Za rfl (Za rfl (Za rfl (Za rfl (Za rfl (Za rfl (Za rfl rfl))))))))))))))))))))))))))))))))))))))))))))))))))))))))))))))))))))))))))))))))))))))))) <| Zb (Zc (Zfr #[vs 2 0 17 17] (a0) ((a0 % (8 : Int)))   N c11 2 6 rfl (by decide) (by decide))) <| Zb (Zc (Za rfl (Za rfl (Za rfl (Za rfl (Za rfl (Za rfl (Za rfl (Za rfl (Za rfl (Za rfl (Za rfl (Za rfl (Za rfl (Za rfl (Za rfl (Za rfl (Za rfl (Za rfl (Za rfl (Za rfl (Za rfl (Za rfl (Za rfl (Za rfl (Za rfl (Za rfl (Za rfl (Za rfl (Za rfl (Za rfl (Za rfl (Za rfl (Za rfl (Za rfl (Za rfl (Za rfl (Za rfl (Za rfl (Za rfl (Za rfl (Za rfl (Za rfl (Za rfl (Za rfl (Za rfl (Za rfl (Za rfl (Za rfl (Za rfl (Za rfl (Za rfl (Za rfl (Za rfl (Za rfl (Za rfl (Za rfl (Za rfl (Za rfl (Za rfl (Za rfl (Za rfl (Za rfl (Za rfl (Za rfl (Za rfl (Za rfl (Za rfl (Za rfl rfl))))))))))))))))))))))))))))))))))))))))))))))))))))))))))))))))))))) <| Zb (Zc (ZlC #[vs 0 0 20 20] (a0) (a1) ((a0 % (8 : Int))) ((a0 % (8 : Int))) ((a0 % (8 : Int)))   N c10 0 6 rfl (by decide) (by decide))) <| Zb (Zc (Za rfl (Za rfl (Za rfl (Za rfl (Za rfl (Za rfl (Za rfl (Za rfl (Za rfl (Za rfl (Za rfl (Za rfl (Za rfl (Za rfl (Za rfl (Za rfl (Za rfl (Za rfl (Za rfl (Za rfl (Za rfl (Za rfl (Za rfl (Za rfl (Za rfl (Za rfl (Za rfl (Za rfl (Za rfl (Za rfl (Za rfl (Za rfl (Za rfl (Za rfl (Za rfl (Za rfl (Za rfl (Za rfl (Za rfl (Za rfl (Za rfl (Za rfl (Za rfl (Za rfl (Za rfl (Za rfl (Za rfl (Za rfl (Za rfl (Za rfl (Za rfl (Za rfl (Za rfl (Za rfl (Za rfl (Za rfl (Za rfl (Za rfl (Za rfl (Za rfl (Za rfl (Za rfl (Za rfl (Za rfl (Za rfl (Za rfl (Za rfl (Za rfl (Za rfl (Za rfl (Za rfl (Za rfl (Za rfl (Za rfl (Za rfl (Za rfl (Za rfl (Za rfl (Za rfl (Za rfl rfl))))))))))))))))))))))))))))))))))))))))))))))))))))))))))))))))))))))))))))))))) <| oE <| Zb (beq_iff_eq.2 (ZbH (by omega))) <| Zb (beq_iff_eq.2 ((wrap_i64 ltA).trans (by first | rfl | omega))) <| Zb (beq_iff_eq.2 (ZbH (by omega))) <| Zb (beq_iff_eq.2 (ZS _)) <| Zb (Zc (Zf5 #[vs 4 0 22 22, vs 5 0 22 22] (a0) ((a0 % (8 : Int))) ((a0 % (8 : Int))) (a0) (y5_0) (y5_1)   N c8 4 5 6 rfl (by decide) (by decide))) <| Zb (Zc (Za rfl (Za rfl (Za rfl (Za rfl (Za rfl (Za rfl (Za rfl (Za rfl (Za rfl (Za rfl (Za rfl (Za rfl (Za rfl (Za rfl (Za rfl (Za rfl (Za rfl (Za rfl (Za rfl (Za rfl (Za rfl (Za rfl (Za rfl (Za rfl (Za rfl (Za rfl (Za rfl (Za rfl (Za rfl (Za rfl (Za rfl (Za rfl (Za rfl (Za rfl (Za rfl (Za rfl (Za rfl (Za rfl (Za rfl (Za rfl (Za rfl (Za rfl (Za rfl (Za rfl (Za rfl (Za rfl (Za rfl (Za rfl (Za rfl (Za rfl (Za rfl (Za rfl (Za rfl (Za rfl (Za rfl (Za rfl (Za rfl (Za rfl (Za rfl (Za rfl (Za rfl (Za rfl (Za rfl (Za rfl (Za rfl (Za rfl (Za rfl (Za rfl (Za rfl (Za rfl (Za rfl (Za rfl (Za rfl (Za rfl (Za rfl (Za rfl (Za rfl (Za rfl (Za rfl (Za rfl (Za rfl (Za rfl (Za rfl (Za rfl (Za rfl (Za rfl (Za rfl (Za rfl rfl))))))))))))))))))))))))))))))))))))))))))))))))))))))))))))))))))))))))))))))))))))))))) <| Zb (Zc (Za rfl (Za rfl (Za rfl (Za rfl (Za rfl (Za rfl (Za rfl (Za rfl (Za rfl (Za rfl (Za rfl (Za rfl (Za rfl (Za rfl (Za rfl (Za rfl (Za rfl (Za rfl (Za rfl (Za rfl (Za rfl (Za rfl (Za rfl (Za rfl (Za rfl (Za rfl (Za rfl (Za rfl (Za rfl (Za rfl (Za rfl (Za rfl (Za rfl (Za rfl (Za rfl (Za rfl (Za rfl (Za rfl (Za rfl (Za rfl (Za rfl (Za rfl (Za rfl (Za rfl (Za rfl (Za rfl (Za rfl (Za rfl (Za rfl (Za rfl (Za rfl (Za rfl (Za rfl (Za rfl (Za rfl (Za rfl (Za rfl (Za rfl (Za rfl (Za rfl (Za rfl (Za rfl (Za rfl (Za rfl (Za rfl (Za rfl (Za rfl (Za rfl (Za rfl (Za rfl (Za rfl (Za rfl (Za rfl (Za rfl (Za rfl (Za rfl (Za rfl (Za rfl (Za rfl (Za rfl (Za rfl (Za rfl (Za rfl (Za rfl (Za rfl (Za rfl (Za rfl (Za rfl rfl))))))))))))))))))))))))))))))))))))))))))))))))))))))))))))))))))))))))))))))))))))))))) <| Zb (Zc (Zf3 #[vs 2 0 17 17, vs 3 0 17 17] (a0) ((a0 % (8 : Int))) (a0) (y3_0)   N c7 2 3 6 rfl (by decide) (by decide))) <| Zb (Zc (Za rfl (Za rfl (Za rfl (Za rfl (Za rfl (Za rfl (Za rfl (Za rfl (Za rfl (Za rfl (Za rfl (Za rfl (Za rfl (Za rfl (Za rfl (Za rfl (Za rfl (Za rfl (Za rfl (Za rfl (Za rfl (Za rfl (Za rfl (Za rfl (Za rfl (Za rfl (Za rfl (Za rfl (Za rfl (Za rfl (Za rfl (Za rfl (Za rfl (Za rfl (Za rfl (Za rfl (Za rfl (Za rfl (Za rfl (Za rfl (Za rfl (Za rfl (Za rfl (Za rfl (Za rfl (Za rfl (Za rfl (Za rfl (Za rfl (Za rfl (Za rfl (Za rfl (Za rfl (Za rfl (Za rfl (Za rfl (Za rfl (Za rfl (Za rfl (Za rfl (Za rfl (Za rfl (Za rfl (Za rfl (Za rfl (Za rfl (Za rfl (Za rfl rfl))))))))))))))))))))))))))))))))))))))))))))))))))))))))))))))))))))) <| Zb (Zc (Za rfl (Za rfl (Za rfl (Za rfl (Za rfl (Za rfl (Za rfl (Za rfl (Za rfl (Za rfl (Za rfl (Za rfl (Za rfl (Za rfl (Za rfl (Za rfl (Za rfl (Za rfl (Za rfl (Za rfl (Za rfl (Za rfl (Za rfl (Za rfl (Za rfl (Za rfl (Za rfl (Za rfl (Za rfl (Za rfl (Za rfl (Za rfl (Za rfl (Za rfl (Za rfl (Za rfl (Za rfl (Za rfl (Za rfl (Za rfl (Za rfl (Za rfl (Za rfl (Za rfl (Za rfl (Za rfl (Za rfl (Za rfl (Za rfl (Za rfl (Za rfl (Za rfl (Za rfl (Za rfl (Za rfl (Za rfl (Za rfl (Za rfl (Za rfl (Za rfl (Za rfl (Za rfl (Za rfl (Za rfl (Za rfl (Za rfl (Za rfl (Za rfl rfl))))))))))))))))))))))))))))))))))))))))))))))))))))))))))))))))))))) <| Zb (Zc (Zm3 #[vs 0 0 20 20, vs 1 0 20 20] (a0) (a1) ((a0 % (8 : Int))) ((a0 % (8 : Int))) ((a0 % (8 : Int))) (a0) (a1) (y1_0) (y1_1) (y1_2)   N c6 0 1 6 rfl (by decide) (by decide))) <| Zb (Zc (Za rfl (Za rfl (Za rfl (Za rfl (Za rfl (Za rfl (Za rfl (Za rfl (Za rfl (Za rfl (Za rfl (Za rfl (Za rfl (Za rfl (Za rfl (Za rfl (Za rfl (Za rfl (Za rfl (Za rfl (Za rfl (Za rfl (Za rfl (Za rfl (Za rfl (Za rfl (Za rfl (Za rfl (Za rfl (Za rfl (Za rfl (Za rfl (Za rfl (Za rfl (Za rfl (Za rfl (Za rfl (Za rfl (Za rfl (Za rfl (Za rfl (Za rfl (Za rfl (Za rfl (Za rfl (Za rfl (Za rfl (Za rfl (Za rfl (Za rfl (Za rfl (Za rfl (Za rfl (Za rfl (Za rfl (Za rfl (Za rfl (Za rfl (Za rfl (Za rfl (Za rfl (Za rfl (Za rfl (Za rfl (Za rfl (Za rfl (Za rfl (Za rfl (Za rfl (Za rfl (Za rfl (Za rfl (Za rfl (Za rfl (Za rfl (Za rfl (Za rfl (Za rfl (Za rfl (Za rfl rfl))))))))))))))))))))))))))))))))))))))))))))))))))))))))))))))))))))))))))))))))) <| Zb (Zc (Za rfl (Za rfl (Za rfl (Za rfl (Za rfl (Za rfl (Za rfl (Za rfl (Za rfl (Za rfl (Za rfl (Za rfl (Za rfl (Za rfl (Za rfl (Za rfl (Za rfl (Za rfl (Za rfl (Za rfl (Za rfl (Za rfl (Za rfl (Za rfl (Za rfl (Za rfl (Za rfl (Za rfl (Za rfl (Za rfl (Za rfl (Za rfl (Za rfl (Za rfl (Za rfl (Za rfl (Za rfl (Za rfl (Za rfl (Za rfl (Za rfl (Za rfl (Za rfl (Za rfl (Za rfl (Za rfl (Za rfl (Za rfl (Za rfl (Za rfl (Za rfl (Za rfl (Za rfl (Za rfl (Za rfl (Za rfl (Za rfl (Za rfl (Za rfl (Za rfl (Za rfl (Za rfl (Za rfl (Za rfl (Za rfl (Za rfl (Za rfl (Za rfl (Za rfl (Za rfl (Za rfl (Za rfl (Za rfl (Za rfl (Za rfl (Za rfl (Za rfl (Za rfl (Za rfl (Za rfl rfl))))))))))))))))))))))))))))))))))))))))))))))))))))))))))))))))))))))))))))))))) <| Zb (Zc (Zf1 #[vi a0] (a0)  y5_0 y5_1 N c5  5 rfl (by decide) (by decide))) <| Zb (Zc (Zgd #[vi a0] (a0)   N c4  4 rfl (by decide) (by decide))) <| Zb (Zc (ZgN #[vi a0] (a0)  y3_0 N c3  3 rfl (by decide) (by decide))) <| Zb (Zc (Zhz #[vi a0] (a0)   N c2  2 rfl (by decide) (by decide))) <| Zb (Zc (Zog #[vi a0, vi a1] (a0) (a1)  y1_0 y1_1 y1_2 N c1  1 rfl (by decide) (by decide))) <| Zb (Zc (Zps #[vi a0, vi a1] (a0) (a1)   N c0  0 rfl (by decide) (by decide))) Zf) rfl (by decide) (by rfl) rr trivial (Zh _ rfl)
             | r1 =>
              exact Zas
            | r1 =>
             exact Zas
           | r1 =>
            exact Zas
          ·
           refine Ze (fun z10 c10 => ?_)
           cases z10 with
           | r0 =>
            refine Ze (fun z11 c11 => ?_)
            cases z11 with
            | r0 =>
             refine Ze (fun z12 c12 => ?_)
             cases z12 with
             | r0 =>
              exact Zi Zj (r := (.r0 : ZO)) (fu := 4000) (orc := (Zl [(6, false)] [(0, (a0 % (8 : Int))), (1, ((0 : Int) - (((0 : Int) - a0) % (8 : Int)))), (2, (((0 : Int) - (((0 : Int) - a0) % (8 : Int))) + (8 : Int))), (3, ((((0 : Int) - (((0 : Int) - a0) % (8 : Int))) + (8 : Int)) % (8 : Int)))] [] [] [(0, (Zpr (a0) (a1)    0)), (1, (Zof (a0) (a1)  y1_0 y1_1 y1_2  1)), (2, (Zhy (a0)    2)), (3, (ZgM (a0)  y3_0  3)), (4, (Zgc (a0)    4)), (5, (Zf0 (a0)  y5_0 y5_1  5)), (6, (Zm2 (a0) (a1) ((a0 % (8 : Int))) ((a0 % (8 : Int))) ((a0 % (8 : Int))) (a0) (a1) (y1_0) (y1_1) (y1_2)   0 1 6)), (7, (Zf2 (a0) ((a0 % (8 : Int))) (a0) (y3_0)   2 3 6)), (8, (Zf4 (a0) ((a0 % (8 : Int))) ((a0 % (8 : Int))) (a0) (y5_0) (y5_1)   4 5 6)), (11, (ZlB (a0) (a1) ((a0 % (8 : Int))) ((a0 % (8 : Int))) ((a0 % (8 : Int)))   0 6)), (12, (Zfq (a0) ((a0 % (8 : Int)))   2 6)), (13, (Zfs (a0) ((a0 % (8 : Int))) ((a0 % (8 : Int)))   4 6))])) (live := []) (u := vT) (bl := []) (ob := [(dP (ZdQ #[vs 4 0 22 22] (a0) ((a0 % (8 : Int))) ((a0 % (8 : Int)))   4 6), true), (dS [vi 10, vq, vq, vq, vi 1, vi 1, vi a0, vq, vi 15, vq, vq, vq, vi 13, vi 3, vq, vi (a0 % (8 : Int)), vi 9, vi 3, vi 21, vq, vi 13, vi 4, vi 3, vi 1, vi 7, vi 5, vi 4, vi 1, vi 9, vi 5, vi 12, vq, vi 13, vi 2, vi 3, vq, vi 14, vq, vi (a0 % (8 : Int)), vi 2, vi 12, vi 3, vq, vq, vi 8, vi 21, vq, vq, vi 3, vi 6, vi 3, vq, vi 13, vi 3, vi 6, vq, vi 9, vi 3, vi 21, vq, vi 13, vi 4, vi 3, vi 1, vi 7, vi 5, vi 4, vi 1, vi 9, vi 5, vi 12, vq, vi 13, vi 2, vi 3, vq, vi 14, vi 6, vq, vi 2, vi 12, vi 3, vq, vq, vi 17, vq, vq, vq], true), (dP (ZdP #[vs 2 0 17 17] (a0) ((a0 % (8 : Int)))   2 6), true), (dS [vi 10, vq, vq, vq, vi 1, vi 1, vi a0, vq, vi 1, vi 7, vq, vq, vi 1, vi 6, vq, vq, vi 15, vq, vq, vq, vi 13, vi 3, vq, vi (a0 % (8 : Int)), vi 9, vi 3, vi 14, vq, vi 13, vi 4, vi 3, vi 1, vi 7, vi 7, vi 4, vi 1, vi 9, vi 7, vi 12, vq, vi 13, vi 6, vi 3, vi 2, vi 8, vi 14, vq, vq, vi 13, vi 3, vi 3, vq, vi 8, vi 6, vq, vq, vi 17, vq, vq, vq, vi 19, vi 7, vq, vq, vi 19, vi 6, vq, vq], true), (dP (ZhV #[vs 0 0 20 20] (a0) (a1) ((a0 % (8 : Int))) ((a0 % (8 : Int))) ((a0 % (8 : Int)))   0 6), true), (dS [vi 10, vq, vq, vq, vi 1, vi 1, vi a0, vq, vi 1, vi 6, vi a1, vq, vi 15, vq, vq, vq, vi 13, vi 3, vq, vi (a0 % (8 : Int)), vi 9, vi 3, vi 13, vq, vi 13, vi 4, vi 3, vi 1, vi 7, vi 5, vi 4, vi 1, vi 9, vi 5, vi 11, vq, vi 14, vi 3, vi 2, vi 6, vi 8, vi 19, vq, vq, vi 13, vi 3, vi 3, vq, vi 8, vi 5, vq, vq, vi 11, vi 2, vi 3, vi 1, vi 14, vi 2, vi 1, vi 1, vi 14, vi 2, vi 2, vi 6, vi 13, vi 3, vq, vi (a0 % (8 : Int)), vi 14, vi 2, vq, vi 3, vi 14, vq, vi (a0 % (8 : Int)), vi 2, vi 17, vq, vq, vq], true), (((a0 % (8 : Int)) != ((((0 : Int) - (((0 : Int) - a0) % (8 : Int))) + (8 : Int)) % (8 : Int))), false), ((Int.tmod (((0 : Int) - (((0 : Int) - a0) % (8 : Int))) + (8 : Int)) (8 : Int)) == ((((0 : Int) - (((0 : Int) - a0) % (8 : Int))) + (8 : Int)) % (8 : Int)), true), ((IntKind.i64.wrap (((0 : Int) - (((0 : Int) - a0) % (8 : Int))) + (8 : Int))) == (((0 : Int) - (((0 : Int) - a0) % (8 : Int))) + (8 : Int)), true), ((Int.tmod a0 (8 : Int)) == ((0 : Int) - (((0 : Int) - a0) % (8 : Int))), true), ((IntKind.i64.wrap (((BitVec.ofInt IntKind.i64.bits a0 &&& BitVec.ofInt IntKind.i64.bits (7 : Int)).toNat : Nat) : Int)) == (a0 % (8 : Int)), true), (dP (Ze4 #[vs 4 0 22 22, vs 5 0 22 22] (a0) ((a0 % (8 : Int))) ((a0 % (8 : Int))) (a0) (y5_0) (y5_1)   4 5 6), true), (dS [vi 10, vq, vq, vq, vi 1, vi 1, vi a0, vq, vi 15, vq, vq, vq, vi 13, vi 3, vq, vi (a0 % (8 : Int)), vi 9, vi 3, vi 21, vq, vi 13, vi 4, vi 3, vi 1, vi 7, vi 5, vi 4, vi 1, vi 9, vi 5, vi 12, vq, vi 13, vi 2, vi 3, vq, vi 14, vq, vi (a0 % (8 : Int)), vi 2, vi 12, vi 3, vq, vq, vi 8, vi 21, vq, vq, vi 3, vi 6, vi 3, vq, vi 13, vi 3, vi 6, vq, vi 9, vi 3, vi 21, vq, vi 13, vi 4, vi 3, vi 1, vi 7, vi 5, vi 4, vi 1, vi 9, vi 5, vi 12, vq, vi 13, vi 2, vi 3, vq, vi 14, vi 6, vq, vi 2, vi 12, vi 3, vq, vq, vi 17, vq, vq, vq], true), (dS [vi 10, vq, vq, vq, vi 1, vi 1, vi a0, vq, vi 15, vq, vq, vq, vi 13, vi 3, vq, vi y5_0, vi 9, vi 3, vi 21, vq, vi 13, vi 4, vi 3, vi 1, vi 7, vi 5, vi 4, vi 1, vi 9, vi 5, vi 12, vq, vi 13, vi 2, vi 3, vq, vi 14, vq, vi y5_1, vi 2, vi 12, vi 3, vq, vq, vi 8, vi 21, vq, vq, vi 3, vi 6, vi 3, vq, vi 13, vi 3, vi 6, vq, vi 9, vi 3, vi 21, vq, vi 13, vi 4, vi 3, vi 1, vi 7, vi 5, vi 4, vi 1, vi 9, vi 5, vi 12, vq, vi 13, vi 2, vi 3, vq, vi 14, vi 6, vq, vi 2, vi 12, vi 3, vq, vq, vi 17, vq, vq, vq], true), (dP (Ze3 #[vs 2 0 17 17, vs 3 0 17 17] (a0) ((a0 % (8 : Int))) (a0) (y3_0)   2 3 6), true), (dS [vi 10, vq, vq, vq, vi 1, vi 1, vi a0, vq, vi 1, vi 7, vq, vq, vi 1, vi 6, vq, vq, vi 15, vq, vq, vq, vi 13, vi 3, vq, vi (a0 % (8 : Int)), vi 9, vi 3, vi 14, vq, vi 13, vi 4, vi 3, vi 1, vi 7, vi 7, vi 4, vi 1, vi 9, vi 7, vi 12, vq, vi 13, vi 6, vi 3, vi 2, vi 8, vi 14, vq, vq, vi 13, vi 3, vi 3, vq, vi 8, vi 6, vq, vq, vi 17, vq, vq, vq, vi 19, vi 7, vq, vq, vi 19, vi 6, vq, vq], true), (dS [vi 10, vq, vq, vq, vi 1, vi 1, vi a0, vq, vi 1, vi 7, vq, vq, vi 1, vi 6, vq, vq, vi 15, vq, vq, vq, vi 13, vi 3, vq, vi y3_0, vi 9, vi 3, vi 14, vq, vi 13, vi 4, vi 3, vi 1, vi 7, vi 7, vi 4, vi 1, vi 9, vi 7, vi 12, vq, vi 13, vi 6, vi 3, vi 2, vi 8, vi 14, vq, vq, vi 13, vi 3, vi 3, vq, vi 8, vi 6, vq, vq, vi 17, vq, vq, vq, vi 19, vi 7, vq, vq, vi 19, vi 6, vq, vq], true), (dP (Zi1 #[vs 0 0 20 20, vs 1 0 20 20] (a0) (a1) ((a0 % (8 : Int))) ((a0 % (8 : Int))) ((a0 % (8 : Int))) (a0) (a1) (y1_0) (y1_1) (y1_2)   0 1 6), true), (dS [vi 10, vq, vq, vq, vi 1, vi 1, vi a0, vq, vi 1, vi 6, vi a1, vq, vi 15, vq, vq, vq, vi 13, vi 3, vq, vi (a0 % (8 : Int)), vi 9, vi 3, vi 13, vq, vi 13, vi 4, vi 3, vi 1, vi 7, vi 5, vi 4, vi 1, vi 9, vi 5, vi 11, vq, vi 14, vi 3, vi 2, vi 6, vi 8, vi 19, vq, vq, vi 13, vi 3, vi 3, vq, vi 8, vi 5, vq, vq, vi 11, vi 2, vi 3, vi 1, vi 14, vi 2, vi 1, vi 1, vi 14, vi 2, vi 2, vi 6, vi 13, vi 3, vq, vi (a0 % (8 : Int)), vi 14, vi 2, vq, vi 3, vi 14, vq, vi (a0 % (8 : Int)), vi 2, vi 17, vq, vq, vq], true), (dS [vi 10, vq, vq, vq, vi 1, vi 1, vi a0, vq, vi 1, vi 6, vi a1, vq, vi 15, vq, vq, vq, vi 13, vi 3, vq, vi y1_0, vi 9, vi 3, vi 13, vq, vi 13, vi 4, vi 3, vi 1, vi 7, vi 5, vi 4, vi 1, vi 9, vi 5, vi 11, vq, vi 14, vi 3, vi 2, vi 6, vi 8, vi 19, vq, vq, vi 13, vi 3, vi 3, vq, vi 8, vi 5, vq, vq, vi 11, vi 2, vi 3, vi 1, vi 14, vi 2, vi 1, vi 1, vi 14, vi 2, vi 2, vi 6, vi 13, vi 3, vq, vi y1_1, vi 14, vi 2, vq, vi 3, vi 14, vq, vi y1_2, vi 2, vi 17, vq, vq, vq], true), (dP (Ze2 #[vi a0] (a0)  y5_0 y5_1  5), true), (dP (ZeL #[vi a0] (a0)    4), true), (dP (ZfX #[vi a0] (a0)  y3_0  3), true), (dP (Zgt #[vi a0] (a0)    2), true), (dP (Zjk #[vi a0, vi a1] (a0) (a1)  y1_0 y1_1 y1_2  1), true), (dP (Zkp #[vi a0, vi a1] (a0) (a1)    0), true)]) (by kernel_rfl) (Zb (Zc (Zft #[vs 4 0 22 22] (a0) ((a0 % (8 : Int))) ((a0 % (8 : Int)))   N c12 4 6 rfl (by decide) (by decide))) <| Zb (Zc (Za rfl (Za rfl (Za rfl (Za rfl (Za rfl (Za rfl (Za rfl (Za rfl (Za rfl (Za rfl (Za rfl (Za rfl (Za rfl (Za rfl (Za rfl (Za rfl (Za rfl (Za rfl (Za rfl (Za rfl (Za rfl (Za rfl (Za rfl (Za rfl (Za rfl (Za rfl (Za rfl (Za rfl (Za rfl (Za rfl (Za rfl (Za rfl (Za rfl (Za rfl (Za rfl (Za rfl (Za rfl (Za rfl (Za rfl (Za rfl (Za rfl (Za rfl (Za rfl (Za rfl (Za rfl (Za rfl (Za rfl (Za rfl (Za rfl (Za rfl (Za rfl (Za rfl (Za rfl (Za rfl (Za rfl (Za rfl (Za rfl (Za rfl (Za rfl (Za rfl (Za rfl (Za rfl (Za rfl (Za rfl (Za rfl (Za rfl (Za rfl (Za rfl (Za rfl (Za rfl (Za rfl (Za rfl (Za rfl (Za rfl (Za rfl (Za rfl (Za rfl (Za rfl (Za rfl (Za rfl (Za rfl (Za rfl (Za rfl (Za rfl (Za rfl (Za rfl (Za rfl (Za rfl rfl))))))))))))))))))))))))))))))))))))))))))))))))))))))))))))))))))))))))))))))))))))))))) <| Zb (Zc (Zfr #[vs 2 0 17 17] (a0) ((a0 % (8 : Int)))   N c11 2 6 rfl (by decide) (by decide))) <| Zb (Zc (Za rfl (Za rfl (Za rfl (Za rfl (Za rfl (Za rfl (Za rfl (Za rfl (Za rfl (Za rfl (Za rfl (Za rfl (Za rfl (Za rfl (Za rfl (Za rfl (Za rfl (Za rfl (Za rfl (Za rfl (Za rfl (Za rfl (Za rfl (Za rfl (Za rfl (Za rfl (Za rfl (Za rfl (Za rfl (Za rfl (Za rfl (Za rfl (Za rfl (Za rfl (Za rfl (Za rfl (Za rfl (Za rfl (Za rfl (Za rfl (Za rfl (Za rfl (Za rfl (Za rfl (Za rfl (Za rfl (Za rfl (Za rfl (Za rfl (Za rfl (Za rfl (Za rfl (Za rfl (Za rfl (Za rfl (Za rfl (Za rfl (Za rfl (Za rfl (Za rfl (Za rfl (Za rfl (Za rfl (Za rfl (Za rfl (Za rfl (Za rfl (Za rfl rfl))))))))))))))))))))))))))))))))))))))))))))))))))))))))))))))))))))) <| Zb (Zc (ZlC #[vs 0 0 20 20] (a0) (a1) ((a0 % (8 : Int))) ((a0 % (8 : Int))) ((a0 % (8 : Int)))   N c10 0 6 rfl (by decide) (by decide))) <| Zb (Zc (Za rfl (Za rfl (Za rfl (Za rfl (Za rfl (Za rfl (Za rfl (Za rfl (Za rfl (Za rfl (Za rfl (Za rfl (Za rfl (Za rfl (Za rfl (Za rfl (Za rfl (Za rfl (Za rfl (Za rfl (Za rfl (Za rfl (Za rfl (Za rfl (Za rfl (Za rfl (Za rfl (Za rfl (Za rfl (Za rfl (Za rfl (Za rfl (Za rfl (Za rfl (Za rfl (Za rfl (Za rfl (Za rfl (Za rfl (Za rfl (Za rfl (Za rfl (Za rfl (Za rfl (Za rfl (Za rfl (Za rfl (Za rfl (Za rfl (Za rfl (Za rfl (Za rfl (Za rfl (Za rfl (Za rfl (Za rfl (Za rfl (Za rfl (Za rfl (Za rfl (Za rfl (Za rfl (Za rfl (Za rfl (Za rfl (Za rfl (Za rfl (Za rfl (Za rfl (Za rfl (Za rfl (Za rfl (Za rfl (Za rfl (Za rfl (Za rfl (Za rfl (Za rfl (Za rfl (Za rfl rfl))))))))))))))))))))))))))))))))))))))))))))))))))))))))))))))))))))))))))))))))) <| oE <| Zb (beq_iff_eq.2 (ZbH (by omega))) <| Zb (beq_iff_eq.2 ((wrap_i64 ltA).trans (by first | rfl | omega))) <| Zb (beq_iff_eq.2 (Zik (by omega) (by decide))) <| Zb (beq_iff_eq.2 (ZS _)) <| Zb (Zc (Zf5 #[vs 4 0 22 22, vs 5 0 22 22] (a0) ((a0 % (8 : Int))) ((a0 % (8 : Int))) (a0) (y5_0) (y5_1)   N c8 4 5 6 rfl (by decide) (by decide))) <| Zb (Zc (Za rfl (Za rfl (Za rfl (Za rfl (Za rfl (Za rfl (Za rfl (Za rfl (Za rfl (Za rfl (Za rfl (Za rfl (Za rfl (Za rfl (Za rfl (Za rfl (Za rfl (Za rfl (Za rfl (Za rfl (Za rfl (Za rfl (Za rfl (Za rfl (Za rfl (Za rfl (Za rfl (Za rfl (Za rfl (Za rfl (Za rfl (Za rfl (Za rfl (Za rfl (Za rfl (Za rfl (Za rfl (Za rfl (Za rfl (Za rfl (Za rfl (Za rfl (Za rfl (Za rfl (Za rfl (Za rfl (Za rfl (Za rfl (Za rfl (Za rfl (Za rfl (Za rfl (Za rfl (Za rfl (Za rfl (Za rfl (Za rfl (Za rfl (Za rfl (Za rfl (Za rfl (Za rfl (Za rfl (Za rfl (Za rfl (Za rfl (Za rfl (Za rfl (Za rfl (Za rfl (Za rfl (Za rfl (Za rfl (Za rfl (Za rfl (Za rfl (Za rfl (Za rfl (Za rfl (Za rfl (Za rfl (Za rfl (Za rfl (Za rfl (Za rfl (Za rfl (Za rfl (Za rfl rfl))))))))))))))))))))))))))))))))))))))))))))))))))))))))))))))))))))))))))))))))))))))))) <| Zb (Zc (Za rfl (Za rfl (Za rfl (Za rfl (Za rfl (Za rfl (Za rfl (Za rfl (Za rfl (Za rfl (Za rfl (Za rfl (Za rfl (Za rfl (Za rfl (Za rfl (Za rfl (Za rfl (Za rfl (Za rfl (Za rfl (Za rfl (Za rfl (Za rfl (Za rfl (Za rfl (Za rfl (Za rfl (Za rfl (Za rfl (Za rfl (Za rfl (Za rfl (Za rfl (Za rfl (Za rfl (Za rfl (Za rfl (Za rfl (Za rfl (Za rfl (Za rfl (Za rfl (Za rfl (Za rfl (Za rfl (Za rfl (Za rfl (Za rfl (Za rfl (Za rfl (Za rfl (Za rfl (Za rfl (Za rfl (Za rfl (Za rfl (Za rfl (Za rfl (Za rfl (Za rfl (Za rfl (Za rfl (Za rfl (Za rfl (Za rfl (Za rfl (Za rfl (Za rfl (Za rfl (Za rfl (Za rfl (Za rfl (Za rfl (Za rfl (Za rfl (Za rfl (Za rfl (Za rfl (Za rfl (Za rfl (Za rfl (Za rfl (Za rfl (Za rfl (Za rfl (Za rfl (Za rfl rfl))))))))))))))))))))))))))))))))))))))))))))))))))))))))))))))))))))))))))))))))))))))))) <| Zb (Zc (Zf3 #[vs 2 0 17 17, vs 3 0 17 17] (a0) ((a0 % (8 : Int))) (a0) (y3_0)   N c7 2 3 6 rfl (by decide) (by decide))) <| Zb (Zc (Za rfl (Za rfl (Za rfl (Za rfl (Za rfl (Za rfl (Za rfl (Za rfl (Za rfl (Za rfl (Za rfl (Za rfl (Za rfl (Za rfl (Za rfl (Za rfl (Za rfl (Za rfl (Za rfl (Za rfl (Za rfl (Za rfl (Za rfl (Za rfl (Za rfl (Za rfl (Za rfl (Za rfl (Za rfl (Za rfl (Za rfl (Za rfl (Za rfl (Za rfl (Za rfl (Za rfl (Za rfl (Za rfl (Za rfl (Za rfl (Za rfl (Za rfl (Za rfl (Za rfl (Za rfl (Za rfl (Za rfl (Za rfl (Za rfl (Za rfl (Za rfl (Za rfl (Za rfl (Za rfl (Za rfl (Za rfl (Za rfl (Za rfl (Za rfl (Za rfl (Za rfl (Za rfl (Za rfl (Za rfl (Za rfl (Za rfl (Za rfl (Za rfl rfl))))))))))))))))))))))))))))))))))))))))))))))))))))))))))))))))))))) <| Zb (Zc (Za rfl (Za rfl (Za rfl (Za rfl (Za rfl (Za rfl (Za rfl (Za rfl (Za rfl (Za rfl (Za rfl (Za rfl (Za rfl (Za rfl (Za rfl (Za rfl (Za rfl (Za rfl (Za rfl (Za rfl (Za rfl (Za rfl (Za rfl (Za rfl (Za rfl (Za rfl (Za rfl (Za rfl (Za rfl (Za rfl (Za rfl (Za rfl (Za rfl (Za rfl (Za rfl (Za rfl (Za rfl (Za rfl (Za rfl (Za rfl (Za rfl (Za rfl (Za rfl (Za rfl (Za rfl (Za rfl (Za rfl (Za rfl (Za rfl (Za rfl (Za rfl (Za rfl (Za rfl (Za rfl (Za rfl (Za rfl (Za rfl (Za rfl (Za rfl (Za rfl (Za rfl (Za rfl (Za rfl (Za rfl (Za rfl (Za rfl (Za rfl (Za rfl rfl))))))))))))))))))))))))))))))))))))))))))))))))))))))))))))))))))))) <| Zb (Zc (Zm3 #[vs 0 0 20 20, vs 1 0 20 20] (a0) (a1) ((a0 % (8 : Int))) ((a0 % (8 : Int))) ((a0 % (8 : Int))) (a0) (a1) (y1_0) (y1_1) (y1_2)   N c6 0 1 6 rfl (by decide) (by decide))) <| Zb (Zc (Za rfl (Za rfl (Za rfl (Za rfl (Za rfl (Za rfl (Za rfl (Za rfl (Za rfl (Za rfl (Za rfl (Za rfl (Za rfl (Za rfl (Za rfl (Za rfl (Za rfl (Za rfl (Za rfl (Za rfl (Za rfl (Za rfl (Za rfl (Za rfl (Za rfl (Za rfl (Za rfl (Za rfl (Za rfl (Za rfl (Za rfl (Za rfl (Za rfl (Za rfl (Za rfl (Za rfl (Za rfl (Za rfl (Za rfl (Za rfl (Za rfl (Za rfl (Za rfl (Za rfl (Za rfl (Za rfl (Za rfl (Za rfl (Za rfl (Za rfl (Za rfl (Za rfl (Za rfl (Za rfl (Za rfl (Za rfl (Za rfl (Za rfl (Za rfl (Za rfl (Za rfl (Za rfl (Za rfl (Za rfl (Za rfl (Za rfl (Za rfl (Za rfl (Za rfl (Za rfl (Za rfl (Za rfl (Za rfl (Za rfl (Za rfl (Za rfl (Za rfl (Za rfl (Za rfl (Za rfl rfl))))))))))))))))))))))))))))))))))))))))))))))))))))))))))))))))))))))))))))))))) <| Zb (Zc (Za rfl (Za rfl (Za rfl (Za rfl (Za rfl (Za rfl (Za rfl (Za rfl (Za rfl (Za rfl (Za rfl (Za rfl (Za rfl (Za rfl (Za rfl (Za rfl (Za rfl (Za rfl (Za rfl (Za rfl (Za rfl (Za rfl (Za rfl (Za rfl (Za rfl (Za rfl (Za rfl (Za rfl (Za rfl (Za rfl (Za rfl (Za rfl (Za rfl (Za rfl (Za rfl (Za rfl (Za rfl (Za rfl (Za rfl (Za rfl (Za rfl (Za rfl (Za rfl (Za rfl (Za rfl (Za rfl (Za rfl (Za rfl (Za rfl (Za rfl (Za rfl (Za rfl (Za rfl (Za rfl (Za rfl (Za rfl (Za rfl (Za rfl (Za rfl (Za rfl (Za rfl (Za rfl (Za rfl (Za rfl (Za rfl (Za rfl (Za rfl (Za rfl (Za rfl (Za rfl (Za rfl (Za rfl (Za rfl (Za rfl (Za rfl (Za rfl (Za rfl (Za rfl (Za rfl (Za rfl rfl))))))))))))))))))))))))))))))))))))))))))))))))))))))))))))))))))))))))))))))))) <| Zb (Zc (Zf1 #[vi a0] (a0)  y5_0 y5_1 N c5  5 rfl (by decide) (by decide))) <| Zb (Zc (Zgd #[vi a0] (a0)   N c4  4 rfl (by decide) (by decide))) <| Zb (Zc (ZgN #[vi a0] (a0)  y3_0 N c3  3 rfl (by decide) (by decide))) <| Zb (Zc (Zhz #[vi a0] (a0)   N c2  2 rfl (by decide) (by decide))) <| Zb (Zc (Zog #[vi a0, vi a1] (a0) (a1)  y1_0 y1_1 y1_2 N c1  1 rfl (by decide) (by decide))) <| Zb (Zc (Zps #[vi a0, vi a1] (a0) (a1)   N c0  0 rfl (by decide) (by decide))) Zf) rfl (by decide) (by rfl) rr trivial (Zh _ rfl)
             | r1 =>
              exact Zas
            | r1 =>
             exact Zas
           | r1 =>
            exact Zas
      | r1 =>
       exact Zas
     | r1 =>
      exact Zas
     | r2 =>
      exact Zas
    | r1 =>
     exact Zas
   | r1 =>
    exact Zas
   | r2 =>
    exact Zas
  | r1 =>
   exact Zas
 | r1 =>
  exact Zas
 | r2 =>
  refine Ze (fun z1 c1 => ?_)
  cases z1 with
  | r0 _ _ _ =>
   exact Zas
  | r1 =>
   refine Ze (fun z2 c2 => ?_)
   cases z2 with
   | r0 =>
    refine Ze (fun z3 c3 => ?_)
    cases z3 with
    | r0 y3_0 =>
     refine Ze (fun z4 c4 => ?_)
     cases z4 with
     | r0 =>
      refine Ze (fun z5 c5 => ?_)
      cases z5 with
      | r0 y5_0 y5_1 =>
       refine Ze (fun z6 c6 => ?_)
       cases z6 with
       | r0 =>
        refine Ze (fun z7 c7 => ?_)
        cases z7 with
        | r0 =>
         exact Zas
        | r1 =>
         refine Ze (fun z8 c8 => ?_)
         cases z8 with
         | r0 =>
          exact Zas
         | r1 =>
          by_cases g9 : (0 : Int) ≤ a0
          ·
           refine Ze (fun z10 c10 => ?_)
           cases z10 with
           | r0 =>
            refine Ze (fun z11 c11 => ?_)
            cases z11 with
            | r0 =>
             exact Zi Zj (r := (.r0 : ZO)) (fu := 4000) (orc := (Zl [(6, false)] [(0, (a0 % (8 : Int))), (1, (a0 % (8 : Int))), (2, ((a0 % (8 : Int)) + (8 : Int))), (3, (((a0 % (8 : Int)) + (8 : Int)) % (8 : Int)))] [] [] [(0, (Zhw (a0) (a1)    0)), (1, (ZgK (a0) (a1)    0)), (2, (Zhy (a0)    0)), (3, (ZgM (a0)  y3_0  1)), (4, (Zgc (a0)    2)), (5, (Zf0 (a0)  y5_0 y5_1  3)), (6, (ZbF     4)), (7, (Zf2 (a0) ((a0 % (8 : Int))) (a0) (y3_0)   0 1 4)), (8, (Zf4 (a0) ((a0 % (8 : Int))) ((a0 % (8 : Int))) (a0) (y5_0) (y5_1)   2 3 4)), (11, (Zfq (a0) ((a0 % (8 : Int)))   0 4)), (12, (Zfs (a0) ((a0 % (8 : Int))) ((a0 % (8 : Int)))   2 4))])) (live := []) (u := vT) (bl := []) (ob := [(dP (ZdQ #[vs 2 0 22 22] (a0) ((a0 % (8 : Int))) ((a0 % (8 : Int)))   2 4), true), (dS [vi 10, vq, vq, vq, vi 1, vi 1, vi a0, vq, vi 15, vq, vq, vq, vi 13, vi 3, vq, vi (a0 % (8 : Int)), vi 9, vi 3, vi 21, vq, vi 13, vi 4, vi 3, vi 1, vi 7, vi 5, vi 4, vi 1, vi 9, vi 5, vi 12, vq, vi 13, vi 2, vi 3, vq, vi 14, vq, vi (a0 % (8 : Int)), vi 2, vi 12, vi 3, vq, vq, vi 8, vi 21, vq, vq, vi 3, vi 6, vi 3, vq, vi 13, vi 3, vi 6, vq, vi 9, vi 3, vi 21, vq, vi 13, vi 4, vi 3, vi 1, vi 7, vi 5, vi 4, vi 1, vi 9, vi 5, vi 12, vq, vi 13, vi 2, vi 3, vq, vi 14, vi 6, vq, vi 2, vi 12, vi 3, vq, vq, vi 17, vq, vq, vq], true), (dP (ZdP #[vs 0 0 17 17] (a0) ((a0 % (8 : Int)))   0 4), true), (dS [vi 10, vq, vq, vq, vi 1, vi 1, vi a0, vq, vi 1, vi 7, vq, vq, vi 1, vi 6, vq, vq, vi 15, vq, vq, vq, vi 13, vi 3, vq, vi (a0 % (8 : Int)), vi 9, vi 3, vi 14, vq, vi 13, vi 4, vi 3, vi 1, vi 7, vi 7, vi 4, vi 1, vi 9, vi 7, vi 12, vq, vi 13, vi 6, vi 3, vi 2, vi 8, vi 14, vq, vq, vi 13, vi 3, vi 3, vq, vi 8, vi 6, vq, vq, vi 17, vq, vq, vq, vi 19, vi 7, vq, vq, vi 19, vi 6, vq, vq], true), (((a0 % (8 : Int)) != (((a0 % (8 : Int)) + (8 : Int)) % (8 : Int))), false), ((Int.tmod ((a0 % (8 : Int)) + (8 : Int)) (8 : Int)) == (((a0 % (8 : Int)) + (8 : Int)) % (8 : Int)), true), ((IntKind.i64.wrap ((a0 % (8 : Int)) + (8 : Int))) == ((a0 % (8 : Int)) + (8 : Int)), true), ((Int.tmod a0 (8 : Int)) == (a0 % (8 : Int)), true), ((IntKind.i64.wrap (((BitVec.ofInt IntKind.i64.bits a0 &&& BitVec.ofInt IntKind.i64.bits (7 : Int)).toNat : Nat) : Int)) == (a0 % (8 : Int)), true), (dP (Ze4 #[vs 2 0 22 22, vs 3 0 22 22] (a0) ((a0 % (8 : Int))) ((a0 % (8 : Int))) (a0) (y5_0) (y5_1)   2 3 4), true), (dS [vi 10, vq, vq, vq, vi 1, vi 1, vi a0, vq, vi 15, vq, vq, vq, vi 13, vi 3, vq, vi (a0 % (8 : Int)), vi 9, vi 3, vi 21, vq, vi 13, vi 4, vi 3, vi 1, vi 7, vi 5, vi 4, vi 1, vi 9, vi 5, vi 12, vq, vi 13, vi 2, vi 3, vq, vi 14, vq, vi (a0 % (8 : Int)), vi 2, vi 12, vi 3, vq, vq, vi 8, vi 21, vq, vq, vi 3, vi 6, vi 3, vq, vi 13, vi 3, vi 6, vq, vi 9, vi 3, vi 21, vq, vi 13, vi 4, vi 3, vi 1, vi 7, vi 5, vi 4, vi 1, vi 9, vi 5, vi 12, vq, vi 13, vi 2, vi 3, vq, vi 14, vi 6, vq, vi 2, vi 12, vi 3, vq, vq, vi 17, vq, vq, vq], true), (dS [vi 10, vq, vq, vq, vi 1, vi 1, vi a0, vq, vi 15, vq, vq, vq, vi 13, vi 3, vq, vi y5_0, vi 9, vi 3, vi 21, vq, vi 13, vi 4, vi 3, vi 1, vi 7, vi 5, vi 4, vi 1, vi 9, vi 5, vi 12, vq, vi 13, vi 2, vi 3, vq, vi 14, vq, vi y5_1, vi 2, vi 12, vi 3, vq, vq, vi 8, vi 21, vq, vq, vi 3, vi 6, vi 3, vq, vi 13, vi 3, vi 6, vq, vi 9, vi 3, vi 21, vq, vi 13, vi 4, vi 3, vi 1, vi 7, vi 5, vi 4, vi 1, vi 9, vi 5, vi 12, vq, vi 13, vi 2, vi 3, vq, vi 14, vi 6, vq, vi 2, vi 12, vi 3, vq, vq, vi 17, vq, vq, vq], true), (dP (Ze3 #[vs 0 0 17 17, vs 1 0 17 17] (a0) ((a0 % (8 : Int))) (a0) (y3_0)   0 1 4), true), (dS [vi 10, vq, vq, vq, vi 1, vi 1, vi a0, vq, vi 1, vi 7, vq, vq, vi 1, vi 6, vq, vq, vi 15, vq, vq, vq, vi 13, vi 3, vq, vi (a0 % (8 : Int)), vi 9, vi 3, vi 14, vq, vi 13, vi 4, vi 3, vi 1, vi 7, vi 7, vi 4, vi 1, vi 9, vi 7, vi 12, vq, vi 13, vi 6, vi 3, vi 2, vi 8, vi 14, vq, vq, vi 13, vi 3, vi 3, vq, vi 8, vi 6, vq, vq, vi 17, vq, vq, vq, vi 19, vi 7, vq, vq, vi 19, vi 6, vq, vq], true), (dS [vi 10, vq, vq, vq, vi 1, vi 1, vi a0, vq, vi 1, vi 7, vq, vq, vi 1, vi 6, vq, vq, vi 15, vq, vq, vq, vi 13, vi 3, vq, vi y3_0, vi 9, vi 3, vi 14, vq, vi 13, vi 4, vi 3, vi 1, vi 7, vi 7, vi 4, vi 1, vi 9, vi 7, vi 12, vq, vi 13, vi 6, vi 3, vi 2, vi 8, vi 14, vq, vq, vi 13, vi 3, vi 3, vq, vi 8, vi 6, vq, vq, vi 17, vq, vq, vq, vi 19, vi 7, vq, vq, vi 19, vi 6, vq, vq], true), (dP (Zbv #[vn, vn]     4), true), (dP (Ze2 #[vi a0] (a0)  y5_0 y5_1  3), true), (dP (ZeL #[vi a0] (a0)    2), true), (dP (ZfX #[vi a0] (a0)  y3_0  1), true), (dP (Zgt #[vi a0] (a0)    0), true), (dP (ZfW #[vi a0, vi a1] (a0) (a1)    0), true), (dP (Zgs #[vi a0, vi a1] (a0) (a1)    0), true)]) (by kernel_rfl) (Zb (Zc (Zft #[vs 2 0 22 22] (a0) ((a0 % (8 : Int))) ((a0 % (8 : Int)))   N c11 2 4 rfl (by decide) (by decide))) <| Zb (Zc (Za rfl (Za rfl (Za rfl (Za rfl (Za rfl (Za rfl (Za rfl (Za rfl (Za rfl (Za rfl (Za rfl (Za rfl (Za rfl (Za rfl (Za rfl (Za rfl (Za rfl (Za rfl (Za rfl (Za rfl (Za rfl (Za rfl (Za rfl (Za rfl (Za rfl (Za rfl (Za rfl (Za rfl (Za rfl (Za rfl (Za rfl (Za rfl (Za rfl (Za rfl (Za rfl (Za rfl (Za rfl (Za rfl (Za rfl (Za rfl (Za rfl (Za rfl (Za rfl (Za rfl (Za rfl (Za rfl (Za rfl (Za rfl (Za rfl (Za rfl (Za rfl (Za rfl (Za rfl (Za rfl (Za rfl (Za rfl (Za rfl (Za rfl (Za rfl (Za rfl (Za rfl (Za rfl (Za rfl (Za rfl (Za rfl (Za rfl (Za rfl (Za rfl (Za rfl (Za rfl (Za rfl (Za rfl (Za rfl (Za rfl (Za rfl (Za rfl (Za rfl (Za rfl (Za rfl (Za rfl (Za rfl (Za rfl (Za rfl (Za rfl (Za rfl (Za rfl (Za rfl (Za rfl rfl))))))))))))))))))))))))))))))))))))))))))))))))))))))))))))))))))))))))))))))))))))))))) <| Zb (Zc (Zfr #[vs 0 0 17 17] (a0) ((a0 % (8 : Int)))   N c10 0 4 rfl (by decide) (by decide))) <| Zb (Zc (Za rfl (Za rfl (Za rfl (Za rfl (Za rfl (Za rfl (Za rfl (Za rfl (Za rfl (Za rfl (Za rfl (Za rfl (Za rfl (Za rfl (Za rfl (Za rfl (Za rfl (Za rfl (Za rfl (Za rfl (Za rfl (Za rfl (Za rfl (Za rfl (Za rfl (Za rfl (Za rfl (Za rfl (Za rfl (Za rfl (Za rfl (Za rfl (Za rfl (Za rfl (Za rfl (Za rfl (Za rfl (Za rfl (Za rfl (Za rfl (Za rfl (Za rfl (Za rfl (Za rfl (Za rfl (Za rfl (Za rfl (Za rfl (Za rfl (Za rfl (Za rfl (Za rfl (Za rfl (Za rfl (Za rfl (Za rfl (Za rfl (Za rfl (Za rfl (Za rfl (Za rfl (Za rfl (Za rfl (Za rfl (Za rfl (Za rfl (Za rfl (Za rfl rfl))))))))))))))))))))))))))))))))))))))))))))))))))))))))))))))))))))) <| oE <| Zb (beq_iff_eq.2 (ZbH (by omega))) <| Zb (beq_iff_eq.2 ((wrap_i64 ltA).trans (by first | rfl | omega))) <| Zb (beq_iff_eq.2 (ZbH (by omega))) <| Zb (beq_iff_eq.2 (ZS _)) <| Zb (Zc (Zf5 #[vs 2 0 22 22, vs 3 0 22 22] (a0) ((a0 % (8 : Int))) ((a0 % (8 : Int))) (a0) (y5_0) (y5_1)   N c8 2 3 4 rfl (by decide) (by decide))) <| Zb (Zc (Za rfl (Za rfl (Za rfl (Za rfl (Za rfl (Za rfl (Za rfl (Za rfl (Za rfl (Za rfl (Za rfl (Za rfl (Za rfl (Za rfl (Za rfl (Za rfl (Za rfl (Za rfl (Za rfl (Za rfl (Za rfl (Za rfl (Za rfl (Za rfl (Za rfl (Za rfl (Za rfl (Za rfl (Za rfl (Za rfl (Za rfl (Za rfl (Za rfl (Za rfl (Za rfl (Za rfl (Za rfl (Za rfl (Za rfl (Za rfl (Za rfl (Za rfl (Za rfl (Za rfl (Za rfl (Za rfl (Za rfl (Za rfl (Za rfl (Za rfl (Za rfl (Za rfl (Za rfl (Za rfl (Za rfl (Za rfl (Za rfl (Za rfl (Za rfl (Za rfl (Za rfl (Za rfl (Za rfl (Za rfl (Za rfl (Za rfl (Za rfl (Za rfl (Za rfl (Za rfl (Za rfl (Za rfl (Za rfl (Za rfl (Za rfl (Za rfl (Za rfl (Za rfl (Za rfl (Za rfl (Za rfl (Za rfl (Za rfl (Za rfl (Za rfl (Za rfl (Za rfl (Za rfl rfl))))))))))))))))))))))))))))))))))))))))))))))))))))))))))))))))))))))))))))))))))))))))) <| Zb (Zc (Za rfl (Za rfl (Za rfl (Za rfl (Za rfl (Za rfl (Za rfl (Za rfl (Za rfl (Za rfl (Za rfl (Za rfl (Za rfl (Za rfl (Za rfl (Za rfl (Za rfl (Za rfl (Za rfl (Za rfl (Za rfl (Za rfl (Za rfl (Za rfl (Za rfl (Za rfl (Za rfl (Za rfl (Za rfl (Za rfl (Za rfl (Za rfl (Za rfl (Za rfl (Za rfl (Za rfl (Za rfl (Za rfl (Za rfl (Za rfl (Za rfl (Za rfl (Za rfl (Za rfl (Za rfl (Za rfl (Za rfl (Za rfl (Za rfl (Za rfl (Za rfl (Za rfl (Za rfl (Za rfl (Za rfl (Za rfl (Za rfl (Za rfl (Za rfl (Za rfl (Za rfl (Za rfl (Za rfl (Za rfl (Za rfl (Za rfl (Za rfl (Za rfl (Za rfl (Za rfl (Za rfl (Za rfl (Za rfl (Za rfl (Za rfl (Za rfl (Za rfl (Za rfl (Za rfl (Za rfl (Za rfl (Za rfl (Za rfl (Za rfl (Za rfl (Za rfl (Za rfl (Za rfl rfl))))))))))))))))))))))))))))))))))))))))))))))))))))))))))))))))))))))))))))))))))))))))) <| Zb (Zc (Zf3 #[vs 0 0 17 17, vs 1 0 17 17] (a0) ((a0 % (8 : Int))) (a0) (y3_0)   N c7 0 1 4 rfl (by decide) (by decide))) <| Zb (Zc (Za rfl (Za rfl (Za rfl (Za rfl (Za rfl (Za rfl (Za rfl (Za rfl (Za rfl (Za rfl (Za rfl (Za rfl (Za rfl (Za rfl (Za rfl (Za rfl (Za rfl (Za rfl (Za rfl (Za rfl (Za rfl (Za rfl (Za rfl (Za rfl (Za rfl (Za rfl (Za rfl (Za rfl (Za rfl (Za rfl (Za rfl (Za rfl (Za rfl (Za rfl (Za rfl (Za rfl (Za rfl (Za rfl (Za rfl (Za rfl (Za rfl (Za rfl (Za rfl (Za rfl (Za rfl (Za rfl (Za rfl (Za rfl (Za rfl (Za rfl (Za rfl (Za rfl (Za rfl (Za rfl (Za rfl (Za rfl (Za rfl (Za rfl (Za rfl (Za rfl (Za rfl (Za rfl (Za rfl (Za rfl (Za rfl (Za rfl (Za rfl (Za rfl rfl))))))))))))))))))))))))))))))))))))))))))))))))))))))))))))))))))))) <| Zb (Zc (Za rfl (Za rfl (Za rfl (Za rfl (Za rfl (Za rfl (Za rfl (Za rfl (Za rfl (Za rfl (Za rfl (Za rfl (Za rfl (Za rfl (Za rfl (Za rfl (Za rfl (Za rfl (Za rfl (Za rfl (Za rfl (Za rfl (Za rfl (Za rfl (Za rfl (Za rfl (Za rfl (Za rfl (Za rfl (Za rfl (Za rfl (Za rfl (Za rfl (Za rfl (Za rfl (Za rfl (Za rfl (Za rfl (Za rfl (Za rfl (Za rfl (Za rfl (Za rfl (Za rfl (Za rfl (Za rfl (Za rfl (Za rfl (Za rfl (Za rfl (Za rfl (Za rfl (Za rfl (Za rfl (Za rfl (Za rfl (Za rfl (Za rfl (Za rfl (Za rfl (Za rfl (Za rfl (Za rfl (Za rfl (Za rfl (Za rfl (Za rfl (Za rfl rfl))))))))))))))))))))))))))))))))))))))))))))))))))))))))))))))))))))) <| Zb (Zc (ZbG #[vn, vn]    N c6  4 rfl (by decide) (by decide))) <| Zb (Zc (Zf1 #[vi a0] (a0)  y5_0 y5_1 N c5  3 rfl (by decide) (by decide))) <| Zb (Zc (Zgd #[vi a0] (a0)   N c4  2 rfl (by decide) (by decide))) <| Zb (Zc (ZgN #[vi a0] (a0)  y3_0 N c3  1 rfl (by decide) (by decide))) <| Zb (Zc (Zhz #[vi a0] (a0)   N c2  0 rfl (by decide) (by decide))) <| Zb (Zc (ZgL #[vi a0, vi a1] (a0) (a1)   N c1  0 rfl (by decide) (by decide))) <| Zb (Zc (Zhx #[vi a0, vi a1] (a0) (a1)   N c0  0 rfl (by decide) (by decide))) Zf) rfl (by decide) (by rfl) rr trivial (Zh _ rfl)
            | r1 =>
             exact Zas
           | r1 =>
            exact Zas
          ·
           refine Ze (fun z10 c10 => ?_)
           cases z10 with
           | r0 =>
            refine Ze (fun z11 c11 => ?_)
            cases z11 with
            | r0 =>
             exact Zi Zj (r := (.r0 : ZO)) (fu := 4000) (orc := (Zl [(6, false)] [(0, (a0 % (8 : Int))), (1, ((0 : Int) - (((0 : Int) - a0) % (8 : Int)))), (2, (((0 : Int) - (((0 : Int) - a0) % (8 : Int))) + (8 : Int))), (3, ((((0 : Int) - (((0 : Int) - a0) % (8 : Int))) + (8 : Int)) % (8 : Int)))] [] [] [(0, (Zhw (a0) (a1)    0)), (1, (ZgK (a0) (a1)    0)), (2, (Zhy (a0)    0)), (3, (ZgM (a0)  y3_0  1)), (4, (Zgc (a0)    2)), (5, (Zf0 (a0)  y5_0 y5_1  3)), (6, (ZbF     4)), (7, (Zf2 (a0) ((a0 % (8 : Int))) (a0) (y3_0)   0 1 4)), (8, (Zf4 (a0) ((a0 % (8 : Int))) ((a0 % (8 : Int))) (a0) (y5_0) (y5_1)   2 3 4)), (11, (Zfq (a0) ((a0 % (8 : Int)))   0 4)), (12, (Zfs (a0) ((a0 % (8 : Int))) ((a0 % (8 : Int)))   2 4))])) (live := []) (u := vT) (bl := []) (ob := [(dP (ZdQ #[vs 2 0 22 22] (a0) ((a0 % (8 : Int))) ((a0 % (8 : Int)))   2 4), true), (dS [vi 10, vq, vq, vq, vi 1, vi 1, vi a0, vq, vi 15, vq, vq, vq, vi 13, vi 3, vq, vi (a0 % (8 : Int)), vi 9, vi 3, vi 21, vq, vi 13, vi 4, vi 3, vi 1, vi 7, vi 5, vi 4, vi 1, vi 9, vi 5, vi 12, vq, vi 13, vi 2, vi 3, vq, vi 14, vq, vi (a0 % (8 : Int)), vi 2, vi 12, vi 3, vq, vq, vi 8, vi 21, vq, vq, vi 3, vi 6, vi 3, vq, vi 13, vi 3, vi 6, vq, vi 9, vi 3, vi 21, vq, vi 13, vi 4, vi 3, vi 1, vi 7, vi 5, vi 4, vi 1, vi 9, vi 5, vi 12, vq, vi 13, vi 2, vi 3, vq, vi 14, vi 6, vq, vi 2, vi 12, vi 3, vq, vq, vi 17, vq, vq, vq], true), (dP (ZdP #[vs 0 0 17 17] (a0) ((a0 % (8 : Int)))   0 4), true), (dS [vi 10, vq, vq, vq, vi 1, vi 1, vi a0, vq, vi 1, vi 7, vq, vq, vi 1, vi 6, vq, vq, vi 15, vq, vq, vq, vi 13, vi 3, vq, vi (a0 % (8 : Int)), vi 9, vi 3, vi 14, vq, vi 13, vi 4, vi 3, vi 1, vi 7, vi 7, vi 4, vi 1, vi 9, vi 7, vi 12, vq, vi 13, vi 6, vi 3, vi 2, vi 8, vi 14, vq, vq, vi 13, vi 3, vi 3, vq, vi 8, vi 6, vq, vq, vi 17, vq, vq, vq, vi 19, vi 7, vq, vq, vi 19, vi 6, vq, vq], true), (((a0 % (8 : Int)) != ((((0 : Int) - (((0 : Int) - a0) % (8 : Int))) + (8 : Int)) % (8 : Int))), false), ((Int.tmod (((0 : Int) - (((0 : Int) - a0) % (8 : Int))) + (8 : Int)) (8 : Int)) == ((((0 : Int) - (((0 : Int) - a0) % (8 : Int))) + (8 : Int)) % (8 : Int)), true), ((IntKind.i64.wrap (((0 : Int) - (((0 : Int) - a0) % (8 : Int))) + (8 : Int))) == (((0 : Int) - (((0 : Int) - a0) % (8 : Int))) + (8 : Int)), true), ((Int.tmod a0 (8 : Int)) == ((0 : Int) - (((0 : Int) - a0) % (8 : Int))), true), ((IntKind.i64.wrap (((BitVec.ofInt IntKind.i64.bits a0 &&& BitVec.ofInt IntKind.i64.bits (7 : Int)).toNat : Nat) : Int)) == (a0 % (8 : Int)), true), (dP (Ze4 #[vs 2 0 22 22, vs 3 0 22 22] (a0) ((a0 % (8 : Int))) ((a0 % (8 : Int))) (a0) (y5_0) (y5_1)   2 3 4), true), (dS [vi 10, vq, vq, vq, vi 1, vi 1, vi a0, vq, vi 15, vq, vq, vq, vi 13, vi 3, vq, vi (a0 % (8 : Int)), vi 9, vi 3, vi 21, vq, vi 13, vi 4, vi 3, vi 1, vi 7, vi 5, vi 4, vi 1, vi 9, vi 5, vi 12, vq, vi 13, vi 2, vi 3, vq, vi 14, vq, vi (a0 % (8 : Int)), vi 2, vi 12, vi 3, vq, vq, vi 8, vi 21, vq, vq, vi 3, vi 6, vi 3, vq, vi 13, vi 3, vi 6, vq, vi 9, vi 3, vi 21, vq, vi 13, vi 4, vi 3, vi 1, vi 7, vi 5, vi 4, vi 1, vi 9, vi 5, vi 12, vq, vi 13, vi 2, vi 3, vq, vi 14, vi 6, vq, vi 2, vi 12, vi 3, vq, vq, vi 17, vq, vq, vq], true), (dS [vi 10, vq, vq, vq, vi 1, vi 1, vi a0, vq, vi 15, vq, vq, vq, vi 13, vi 3, vq, vi y5_0, vi 9, vi 3, vi 21, vq, vi 13, vi 4, vi 3, vi 1, vi 7, vi 5, vi 4, vi 1, vi 9, vi 5, vi 12, vq, vi 13, vi 2, vi 3, vq, vi 14, vq, vi y5_1, vi 2, vi 12, vi 3, vq, vq, vi 8, vi 21, vq, vq, vi 3, vi 6, vi 3, vq, vi 13, vi 3, vi 6, vq, vi 9, vi 3, vi 21, vq, vi 13, vi 4, vi 3, vi 1, vi 7, vi 5, vi 4, vi 1, vi 9, vi 5, vi 12, vq, vi 13, vi 2, vi 3, vq, vi 14, vi 6, vq, vi 2, vi 12, vi 3, vq, vq, vi 17, vq, vq, vq], true), (dP (Ze3 #[vs 0 0 17 17, vs 1 0 17 17] (a0) ((a0 % (8 : Int))) (a0) (y3_0)   0 1 4), true), (dS [vi 10, vq, vq, vq, vi 1, vi 1, vi a0, vq, vi 1, vi 7, vq, vq, vi 1, vi 6, vq, vq, vi 15, vq, vq, vq, vi 13, vi 3, vq, vi (a0 % (8 : Int)), vi 9, vi 3, vi 14, vq, vi 13, vi 4, vi 3, vi 1, vi 7, vi 7, vi 4, vi 1, vi 9, vi 7, vi 12, vq, vi 13, vi 6, vi 3, vi 2, vi 8, vi 14, vq, vq, vi 13, vi 3, vi 3, vq, vi 8, vi 6, vq, vq, vi 17, vq, vq, vq, vi 19, vi 7, vq, vq, vi 19, vi 6, vq, vq], true), (dS [vi 10, vq, vq, vq, vi 1, vi 1, vi a0, vq, vi 1, vi 7, vq, vq, vi 1, vi 6, vq, vq, vi 15, vq, vq, vq, vi 13, vi 3, vq, vi y3_0, vi 9, vi 3, vi 14, vq, vi 13, vi 4, vi 3, vi 1, vi 7, vi 7, vi 4, vi 1, vi 9, vi 7, vi 12, vq, vi 13, vi 6, vi 3, vi 2, vi 8, vi 14, vq, vq, vi 13, vi 3, vi 3, vq, vi 8, vi 6, vq, vq, vi 17, vq, vq, vq, vi 19, vi 7, vq, vq, vi 19, vi 6, vq, vq], true), (dP (Zbv #[vn, vn]     4), true), (dP (Ze2 #[vi a0] (a0)  y5_0 y5_1  3), true), (dP (ZeL #[vi a0] (a0)    2), true), (dP (ZfX #[vi a0] (a0)  y3_0  1), true), (dP (Zgt #[vi a0] (a0)    0), true), (dP (ZfW #[vi a0, vi a1] (a0) (a1)    0), true), (dP (Zgs #[vi a0, vi a1] (a0) (a1)    0), true)]) (by kernel_rfl) (Zb (Zc (Zft #[vs 2 0 22 22] (a0) ((a0 % (8 : Int))) ((a0 % (8 : Int)))   N c11 2 4 rfl (by decide) (by decide))) <| Zb (Zc (Za rfl (Za rfl (Za rfl (Za rfl (Za rfl (Za rfl (Za rfl (Za rfl (Za rfl (Za rfl (Za rfl (Za rfl (Za rfl (Za rfl (Za rfl (Za rfl (Za rfl (Za rfl (Za rfl (Za rfl (Za rfl (Za rfl (Za rfl (Za rfl (Za rfl (Za rfl (Za rfl (Za rfl (Za rfl (Za rfl (Za rfl (Za rfl (Za rfl (Za rfl (Za rfl (Za rfl (Za rfl (Za rfl (Za rfl (Za rfl (Za rfl (Za rfl (Za rfl (Za rfl (Za rfl (Za rfl (Za rfl (Za rfl (Za rfl (Za rfl (Za rfl (Za rfl (Za rfl (Za rfl (Za rfl (Za rfl (Za rfl (Za rfl (Za rfl (Za rfl (Za rfl (Za rfl (Za rfl (Za rfl (Za rfl (Za rfl (Za rfl (Za rfl (Za rfl (Za rfl (Za rfl (Za rfl (Za rfl (Za rfl (Za rfl (Za rfl (Za rfl (Za rfl (Za rfl (Za rfl (Za rfl (Za rfl (Za rfl (Za rfl (Za rfl (Za rfl (Za rfl (Za rfl rfl))))))))))))))))))))))))))))))))))))))))))))))))))))))))))))))))))))))))))))))))))))))))) <| Zb (Zc (Zfr #[vs 0 0 17 17] (a0) ((a0 % (8 : Int)))   N c10 0 4 rfl (by decide) (by decide))) <| Zb (Zc (Za rfl (Za rfl (Za rfl (Za rfl (Za rfl (Za rfl (Za rfl (Za rfl (Za rfl (Za rfl (Za rfl (Za rfl (Za rfl (Za rfl (Za rfl (Za rfl (Za rfl (Za rfl (Za rfl (Za rfl (Za rfl (Za rfl (Za rfl (Za rfl (Za rfl (Za rfl (Za rfl (Za rfl (Za rfl (Za rfl (Za rfl (Za rfl (Za rfl (Za rfl (Za rfl (Za rfl (Za rfl (Za rfl (Za rfl (Za rfl (Za rfl (Za rfl (Za rfl (Za rfl (Za rfl (Za rfl (Za rfl (Za rfl (Za rfl (Za rfl (Za rfl (Za rfl (Za rfl (Za rfl (Za rfl (Za rfl (Za rfl (Za rfl (Za rfl (Za rfl (Za rfl (Za rfl (Za rfl (Za rfl (Za rfl (Za rfl (Za rfl (Za rfl rfl))))))))))))))))))))))))))))))))))))))))))))))))))))))))))))))))))))) <| oE <| Zb (beq_iff_eq.2 (ZbH (by omega))) <| Zb (beq_iff_eq.2 ((wrap_i64 ltA).trans (by first | rfl | omega))) <| Zb (beq_iff_eq.2 (Zik (by omega) (by decide))) <| Zb (beq_iff_eq.2 (ZS _)) <| Zb (Zc (Zf5 #[vs 2 0 22 22, vs 3 0 22 22] (a0) ((a0 % (8 : Int))) ((a0 % (8 : Int))) (a0) (y5_0) (y5_1)   N c8 2 3 4 rfl (by decide) (by decide))) <| Zb (Zc (Za rfl (Za rfl (Za rfl (Za rfl (Za rfl (Za rfl (Za rfl (Za rfl (Za rfl (Za rfl (Za rfl (Za rfl (Za rfl (Za rfl (Za rfl (Za rfl (Za rfl (Za rfl (Za rfl (Za rfl (Za rfl (Za rfl (Za rfl (Za rfl (Za rfl (Za rfl (Za rfl (Za rfl (Za rfl (Za rfl (Za rfl (Za rfl (Za rfl (Za rfl (Za rfl (Za rfl (Za rfl (Za rfl (Za rfl (Za rfl (Za rfl (Za rfl (Za rfl (Za rfl (Za rfl (Za rfl (Za rfl (Za rfl (Za rfl (Za rfl (Za rfl (Za rfl (Za rfl (Za rfl (Za rfl (Za rfl (Za rfl (Za rfl (Za rfl (Za rfl (Za rfl (Za rfl (Za rfl (Za rfl (Za rfl (Za rfl (Za rfl (Za rfl (Za rfl (Za rfl (Za rfl (Za rfl (Za rfl (Za rfl (Za rfl (Za rfl (Za rfl (Za rfl (Za rfl (Za rfl (Za rfl (Za rfl (Za rfl (Za rfl (Za rfl (Za rfl (Za rfl (Za rfl rfl))))))))))))))))))))))))))))))))))))))))))))))))))))))))))))))))))))))))))))))))))))))))) <| Zb (Zc (Za rfl (Za rfl (Za rfl (Za rfl (Za rfl (Za rfl (Za rfl (Za rfl (Za rfl (Za rfl (Za rfl (Za rfl (Za rfl (Za rfl (Za rfl (Za rfl (Za rfl (Za rfl (Za rfl (Za rfl (Za rfl (Za rfl (Za rfl (Za rfl (Za rfl (Za rfl (Za rfl (Za rfl (Za rfl (Za rfl (Za rfl (Za rfl (Za rfl (Za rfl (Za rfl (Za rfl (Za rfl (Za rfl (Za rfl (Za rfl (Za rfl (Za rfl (Za rfl (Za rfl (Za rfl (Za rfl (Za rfl (Za rfl (Za rfl (Za rfl (Za rfl (Za rfl (Za rfl (Za rfl (Za rfl (Za rfl (Za rfl (Za rfl (Za rfl (Za rfl (Za rfl (Za rfl (Za rfl (Za rfl (Za rfl (Za rfl (Za rfl (Za rfl (Za rfl (Za rfl (Za rfl (Za rfl (Za rfl (Za rfl (Za rfl (Za rfl (Za rfl (Za rfl (Za rfl (Za rfl (Za rfl (Za rfl (Za rfl (Za rfl (Za rfl (Za rfl (Za rfl (Za rfl rfl))))))))))))))))))))))))))))))))))))))))))))))))))))))))))))))))))))))))))))))))))))))))) <| Zb (Zc (Zf3 #[vs 0 0 17 17, vs 1 0 17 17] (a0) ((a0 % (8 : Int))) (a0) (y3_0)   N c7 0 1 4 rfl (by decide) (by decide))) <| Zb (Zc (Za rfl (Za rfl (Za rfl (Za rfl (Za rfl (Za rfl (Za rfl (Za rfl (Za rfl (Za rfl (Za rfl (Za rfl (Za rfl (Za rfl (Za rfl (Za rfl (Za rfl (Za rfl (Za rfl (Za rfl (Za rfl (Za rfl (Za rfl (Za rfl (Za rfl (Za rfl (Za rfl (Za rfl (Za rfl (Za rfl (Za rfl (Za rfl (Za rfl (Za rfl (Za rfl (Za rfl (Za rfl (Za rfl (Za rfl (Za rfl (Za rfl (Za rfl (Za rfl (Za rfl (Za rfl (Za rfl (Za rfl (Za rfl (Za rfl (Za rfl (Za rfl (Za rfl (Za rfl (Za rfl (Za rfl (Za rfl (Za rfl (Za rfl (Za rfl (Za rfl (Za rfl (Za rfl (Za rfl (Za rfl (Za rfl (Za rfl (Za rfl (Za rfl rfl))))))))))))))))))))))))))))))))))))))))))))))))))))))))))))))))))))) <| Zb (Zc (Za rfl (Za rfl (Za rfl (Za rfl (Za rfl (Za rfl (Za rfl (Za rfl (Za rfl (Za rfl (Za rfl (Za rfl (Za rfl (Za rfl (Za rfl (Za rfl (Za rfl (Za rfl (Za rfl (Za rfl (Za rfl (Za rfl (Za rfl (Za rfl (Za rfl (Za rfl (Za rfl (Za rfl (Za rfl (Za rfl (Za rfl (Za rfl (Za rfl (Za rfl (Za rfl (Za rfl (Za rfl (Za rfl (Za rfl (Za rfl (Za rfl (Za rfl (Za rfl (Za rfl (Za rfl (Za rfl (Za rfl (Za rfl (Za rfl (Za rfl (Za rfl (Za rfl (Za rfl (Za rfl (Za rfl (Za rfl (Za rfl (Za rfl (Za rfl (Za rfl (Za rfl (Za rfl (Za rfl (Za rfl (Za rfl (Za rfl (Za rfl (Za rfl rfl))))))))))))))))))))))))))))))))))))))))))))))))))))))))))))))))))))) <| Zb (Zc (ZbG #[vn, vn]    N c6  4 rfl (by decide) (by decide))) <| Zb (Zc (Zf1 #[vi a0] (a0)  y5_0 y5_1 N c5  3 rfl (by decide) (by decide))) <| Zb (Zc (Zgd #[vi a0] (a0)   N c4  2 rfl (by decide) (by decide))) <| Zb (Zc (ZgN #[vi a0] (a0)  y3_0 N c3  1 rfl (by decide) (by decide))) <| Zb (Zc (Zhz #[vi a0] (a0)   N c2  0 rfl (by decide) (by decide))) <| Zb (Zc (ZgL #[vi a0, vi a1] (a0) (a1)   N c1  0 rfl (by decide) (by decide))) <| Zb (Zc (Zhx #[vi a0, vi a1] (a0) (a1)   N c0  0 rfl (by decide) (by decide))) Zf) rfl (by decide) (by rfl) rr trivial (Zh _ rfl)
            | r1 =>
             exact Zas
           | r1 =>
            exact Zas
      | r1 =>
       exact Zas
     | r1 =>
      exact Zas
     | r2 =>
      exact Zas
    | r1 =>
     exact Zas
   | r1 =>
    exact Zas
   | r2 =>
    refine Ze (fun z3 c3 => ?_)
    cases z3 with
    | r0 _ =>
     exact Zas
    | r1 =>
     refine Ze (fun z4 c4 => ?_)
     cases z4 with
     | r0 =>
      exact Zas
     | r1 =>
      exact Zas
     | r2 =>
      refine Ze (fun z5 c5 => ?_)
      cases z5 with
      | r0 _ _ =>
       exact Zas
      | r1 =>
       refine Ze (fun z6 c6 => ?_)
       cases z6 with
       | r0 =>
        refine Ze (fun z7 c7 => ?_)
        cases z7 with
        | r0 =>
         refine Ze (fun z8 c8 => ?_)
         cases z8 with
         | r0 =>
          by_cases g9 : (0 : Int) ≤ a0
          ·
           exact Zi Zj (r := (.r0 : ZO)) (fu := 4000) (orc := (Zl [(6, false)] [(0, (a0 % (8 : Int))), (1, (a0 % (8 : Int))), (2, ((a0 % (8 : Int)) + (8 : Int))), (3, (((a0 % (8 : Int)) + (8 : Int)) % (8 : Int)))] [] [] [(0, (Zhw (a0) (a1)    0)), (1, (ZgK (a0) (a1)    0)), (2, (Zpv (a0)    0)), (3, (Zoi (a0)    0)), (4, (Zlp (a0)    0)), (5, (Zk3 (a0)    0)), (6, (ZbF     0)), (7, (ZbF     0)), (8, (ZbF     0))])) (live := []) (u := vT) (bl := []) (ob := [(((a0 % (8 : Int)) != (((a0 % (8 : Int)) + (8 : Int)) % (8 : Int))), false), ((Int.tmod ((a0 % (8 : Int)) + (8 : Int)) (8 : Int)) == (((a0 % (8 : Int)) + (8 : Int)) % (8 : Int)), true), ((IntKind.i64.wrap ((a0 % (8 : Int)) + (8 : Int))) == ((a0 % (8 : Int)) + (8 : Int)), true), ((Int.tmod a0 (8 : Int)) == (a0 % (8 : Int)), true), ((IntKind.i64.wrap (((BitVec.ofInt IntKind.i64.bits a0 &&& BitVec.ofInt IntKind.i64.bits (7 : Int)).toNat : Nat) : Int)) == (a0 % (8 : Int)), true), (dP (Zbv #[vn, vn]     0), true), (dP (Zbv #[vn, vn]     0), true), (dP (Zbv #[vn, vn]     0), true), (dP (Zhl #[vi a0] (a0)    0), true), (dP (ZhD #[vi a0] (a0)    0), true), (dP (Zjl #[vi a0] (a0)    0), true), (dP (Zkq #[vi a0] (a0)    0), true), (dP (ZfW #[vi a0, vi a1] (a0) (a1)    0), true), (dP (Zgs #[vi a0, vi a1] (a0) (a1)    0), true)]) (by kernel_rfl) (oE <| Zb (beq_iff_eq.2 (ZbH (by omega))) <| Zb (beq_iff_eq.2 ((wrap_i64 ltA).trans (by first | rfl | omega))) <| Zb (beq_iff_eq.2 (ZbH (by omega))) <| Zb (beq_iff_eq.2 (ZS _)) <| Zb (Zc (ZbG #[vn, vn]    N c8  0 rfl (by decide) (by decide))) <| Zb (Zc (ZbG #[vn, vn]    N c7  0 rfl (by decide) (by decide))) <| Zb (Zc (ZbG #[vn, vn]    N c6  0 rfl (by decide) (by decide))) <| Zb (Zc (Zk4 #[vi a0] (a0)   N c5  0 rfl (by decide) (by decide))) <| Zb (Zc (Zlq #[vi a0] (a0)   N c4  0 rfl (by decide) (by decide))) <| Zb (Zc (Zoj #[vi a0] (a0)   N c3  0 rfl (by decide) (by decide))) <| Zb (Zc (Zpw #[vi a0] (a0)   N c2  0 rfl (by decide) (by decide))) <| Zb (Zc (ZgL #[vi a0, vi a1] (a0) (a1)   N c1  0 rfl (by decide) (by decide))) <| Zb (Zc (Zhx #[vi a0, vi a1] (a0) (a1)   N c0  0 rfl (by decide) (by decide))) Zf) rfl (by decide) (by rfl) rr trivial (Zh _ rfl)
          ·
           exact Zi Zj (r := (.r0 : ZO)) (fu := 4000) (orc := (Zl [(6, false)] [(0, (a0 % (8 : Int))), (1, ((0 : Int) - (((0 : Int) - a0) % (8 : Int)))), (2, (((0 : Int) - (((0 : Int) - a0) % (8 : Int))) + (8 : Int))), (3, ((((0 : Int) - (((0 : Int) - a0) % (8 : Int))) + (8 : Int)) % (8 : Int)))] [] [] [(0, (Zhw (a0) (a1)    0)), (1, (ZgK (a0) (a1)    0)), (2, (Zpv (a0)    0)), (3, (Zoi (a0)    0)), (4, (Zlp (a0)    0)), (5, (Zk3 (a0)    0)), (6, (ZbF     0)), (7, (ZbF     0)), (8, (ZbF     0))])) (live := []) (u := vT) (bl := []) (ob := [(((a0 % (8 : Int)) != ((((0 : Int) - (((0 : Int) - a0) % (8 : Int))) + (8 : Int)) % (8 : Int))), false), ((Int.tmod (((0 : Int) - (((0 : Int) - a0) % (8 : Int))) + (8 : Int)) (8 : Int)) == ((((0 : Int) - (((0 : Int) - a0) % (8 : Int))) + (8 : Int)) % (8 : Int)), true), ((IntKind.i64.wrap (((0 : Int) - (((0 : Int) - a0) % (8 : Int))) + (8 : Int))) == (((0 : Int) - (((0 : Int) - a0) % (8 : Int))) + (8 : Int)), true), ((Int.tmod a0 (8 : Int)) == ((0 : Int) - (((0 : Int) - a0) % (8 : Int))), true), ((IntKind.i64.wrap (((BitVec.ofInt IntKind.i64.bits a0 &&& BitVec.ofInt IntKind.i64.bits (7 : Int)).toNat : Nat) : Int)) == (a0 % (8 : Int)), true), (dP (Zbv #[vn, vn]     0), true), (dP (Zbv #[vn, vn]     0), true), (dP (Zbv #[vn, vn]     0), true), (dP (Zhl #[vi a0] (a0)    0), true), (dP (ZhD #[vi a0] (a0)    0), true), (dP (Zjl #[vi a0] (a0)    0), true), (dP (Zkq #[vi a0] (a0)    0), true), (dP (ZfW #[vi a0, vi a1] (a0) (a1)    0), true), (dP (Zgs #[vi a0, vi a1] (a0) (a1)    0), true)]) (by kernel_rfl) (oE <| Zb (beq_iff_eq.2 (ZbH (by omega))) <| Zb (beq_iff_eq.2 ((wrap_i64 ltA).trans (by first | rfl | omega))) <| Zb (beq_iff_eq.2 (Zik (by omega) (by decide))) <| Zb (beq_iff_eq.2 (ZS _)) <| Zb (Zc (ZbG #[vn, vn]    N c8  0 rfl (by decide) (by decide))) <| Zb (Zc (ZbG #[vn, vn]    N c7  0 rfl (by decide) (by decide))) <| Zb (Zc (ZbG #[vn, vn]    N c6  0 rfl (by decide) (by decide))) <| Zb (Zc (Zk4 #[vi a0] (a0)   N c5  0 rfl (by decide) (by decide))) <| Zb (Zc (Zlq #[vi a0] (a0)   N c4  0 rfl (by decide) (by decide))) <| Zb (Zc (Zoj #[vi a0] (a0)   N c3  0 rfl (by decide) (by decide))) <| Zb (Zc (Zpw #[vi a0] (a0)   N c2  0 rfl (by decide) (by decide))) <| Zb (Zc (ZgL #[vi a0, vi a1] (a0) (a1)   N c1  0 rfl (by decide) (by decide))) <| Zb (Zc (Zhx #[vi a0, vi a1] (a0) (a1)   N c0  0 rfl (by decide) (by decide))) Zf) rfl (by decide) (by rfl) rr trivial (Zh _ rfl)

theorem Zkr (a0 a1 : Int) (N : Nat) (r : ZO) (h : ZcF a0 a1 N = some r) : LSpec Tryz.prog 3 #[vi a0, vi a1] [] (Zhu a0 a1 r) (ZgO a0 a1 r) :=
 (Zmo a0 a1 N) r h

end Ev
end Go.Proofs.YtaajdoclloamlaaGreat
/- Plain lemmas: machines step by step, lists by their places. -/
namespace Go.Proofs.YtaajdoclloamlaaGreat
open Go.RowKit
namespace Ev
section
variable {X R : Type} {step : X → Option (X ⊕ R)} {n : Nat} {x y : X} {r : R}
end
section
variable {α : Type}
end
theorem ZD {α : Type} {c : Prop} [Decidable c] {a b r : α} (h : c) (e : a = r) : (if c then a else b) = r := by rw [if_pos h]; exact e
theorem Zbr {α : Type} {c : Prop} [Decidable c] {a b r : α} (h : ¬ c) (e : b = r) : (if c then a else b) = r := by rw [if_neg h]; exact e
theorem ZY {α β : Type} {o : Option α} {a : α} {k : α → Option β} {r : Option β} (h : o = some a) (e : k a = r) : o.bind k = r := by rw [h]; exact e
end Ev
end Go.Proofs.YtaajdoclloamlaaGreat
/- HashPrograms: the plain law is true. -/
namespace Go.Proofs.YtaajdoclloamlaaGreat
open Go.RowKit
namespace Ev
set_option linter.unusedVariables false
set_option maxRecDepth 100000
namespace Hg
variable {k v : Int} {N : Nat}
def ok (k : Int) : Prop := -1099511627776 ≤ k ∧ k ≤ 1099511627776
theorem c2 (h : ok k) : ZaO k N = some .r0 := ZD h.1 <| ZD h.2 rfl
theorem c3 (h : ok k) : ZbQ k N = some .r0 := ZD h.1 <| ZD h.2 rfl
theorem c5 : Zat (k % 8) N = some .r0 := ZD (by omega) <| ZD (by omega) rfl
theorem c18 : Zbf (k % 8) N = some .r0 := ZD (by omega) <| ZD (by omega) rfl
theorem i2 (h : ok k) : Zcl k N = some .r0 := ZD h.1 <| ZD h.2 rfl
theorem i3 (h : ok k) : Zex k N = some .r0 := ZD h.1 <| ZD h.2 rfl
theorem i5 : ZbV (k % 8) N = some .r0 := ZD (by omega) <| ZD (by omega) rfl
theorem i18 : ZcE (k % 8) N = some .r0 := ZD (by omega) <| ZD (by omega) rfl
theorem Zyh (hk : ok k) (hv : ok v) : ZcI k v N = some .r0 := by
 have a2 := c2 (N := N) hk
 have a3 := c3 (N := N) hv
 have a5 := c5 (k := k) (N := N)
 have a18 := c18 (k := k) (N := N)
 unfold ZcI
 refine ZD hk.1 <| ZD hk.2 <| ZD hv.1 <| ZD hv.2 ?_
 repeat (first | exact rfl | (refine ZY (by first | exact a2 | exact a3 | exact a5 | exact a18 | exact rfl) ?_))
theorem ZwX (hk : ok k) : Zck k N = some .r0 := by
 have a2 := c2 (N := N) hk
 have a5 := c5 (k := k) (N := N)
 have a18 := c18 (k := k) (N := N)
 unfold Zck
 refine ZD hk.1 <| ZD hk.2 ?_
 repeat (first | exact rfl | (refine ZY (by first | exact a2 | exact a5 | exact a18 | exact rfl) ?_))
theorem ZwY (hk : ok k) : Zbj k N = some .r0 := by
 have a2 := c2 (N := N) hk
 have a5 := c5 (k := k) (N := N)
 have a18 := c18 (k := k) (N := N)
 unfold Zbj
 refine ZD hk.1 <| ZD hk.2 ?_
 repeat (first | exact rfl | (refine ZY (by first | exact a2 | exact a5 | exact a18 | exact rfl) ?_))
theorem chk1 (hk : ok k) (hv : ok v) : ZdL k v (k % 8) (k % 8) (k % 8) N = some .r0 := by
 have a2 := i2 (N := N) hk
 have a3 := i3 (N := N) hv
 have a5 := i5 (k := k) (N := N)
 have a18 := i18 (k := k) (N := N)
 unfold ZdL
 repeat (first | exact rfl | (refine ZY (by first | exact a2 | exact a3 | exact a5 | exact a18 | exact rfl) ?_))
theorem chk2 (hk : ok k) : ZbS k (k % 8) N = some .r0 := by
 have a2 := i2 (N := N) hk
 have a5 := i5 (k := k) (N := N)
 have a18 := i18 (k := k) (N := N)
 unfold ZbS
 repeat (first | exact rfl | (refine ZY (by first | exact a2 | exact a5 | exact a18 | exact rfl) ?_))
theorem chk3 (hk : ok k) : ZbT k (k % 8) (k % 8) N = some .r0 := by
 have a2 := i2 (N := N) hk
 have a5 := i5 (k := k) (N := N)
 have a18 := i18 (k := k) (N := N)
 unfold ZbT
 repeat (first | exact rfl | (refine ZY (by first | exact a2 | exact a5 | exact a18 | exact rfl) ?_))
theorem rput (hk : ok k) (hv : ok v) : ∃ y, Zcj k v N = some (.r0 y y y) ∧ y = k % 8 := by
 by_cases h : 0 ≤ k
 ·exact ⟨_, ZD hk.1 <| ZD hk.2 <| ZD hv.1 <| ZD hv.2 <| ZD h rfl, by omega⟩
 ·exact ⟨_, ZD hk.1 <| ZD hk.2 <| ZD hv.1 <| ZD hv.2 <| Zbr h rfl, by omega⟩
theorem rget (hk : ok k) : ∃ y, ZbR k N = some (.r0 y) ∧ y = k % 8 := by
 by_cases h : 0 ≤ k
 ·exact ⟨_, ZD hk.1 <| ZD hk.2 <| ZD h rfl, by omega⟩
 ·exact ⟨_, ZD hk.1 <| ZD hk.2 <| Zbr h rfl, by omega⟩
theorem rdel (hk : ok k) : ∃ y, Zbo k N = some (.r0 y y) ∧ y = k % 8 := by
 by_cases h : 0 ≤ k
 ·exact ⟨_, ZD hk.1 <| ZD hk.2 <| ZD h rfl, by omega⟩
 ·exact ⟨_, ZD hk.1 <| ZD hk.2 <| Zbr h rfl, by omega⟩
theorem same1 {b : Int} : Zfg k v b b b k v b b b N = some .r1 := Zbr (by omega) <| Zbr (by omega) <| Zbr (by omega) <| Zbr (by omega) <| Zbr (by omega) rfl
theorem ZxE {b : Int} : ZcN k b k b N = some .r1 := Zbr (by omega) <| Zbr (by omega) rfl
theorem ZxF {b : Int} : ZcO k b b k b b N = some .r1 := Zbr (by omega) <| Zbr (by omega) <| Zbr (by omega) rfl
theorem ZwZ (h : ¬ (ok k ∧ ok v)) : ZcI k v N = some .r2 ∧ Zcj k v N = some .r1 := by
 unfold ZcI Zcj
 unfold ok at h
 by_cases h1 : -1099511627776 ≤ k
 ·by_cases h2 : k ≤ 1099511627776
  ·by_cases h3 : -1099511627776 ≤ v
   ·have h4 : ¬ v ≤ 1099511627776 := fun h4 => h ⟨⟨h1, h2⟩, h3, h4⟩
    exact ⟨ZD h1 <| ZD h2 <| ZD h3 <| Zbr h4 rfl, ZD h1 <| ZD h2 <| ZD h3 <| Zbr h4 rfl⟩
   ·exact ⟨ZD h1 <| ZD h2 <| Zbr h3 rfl, ZD h1 <| ZD h2 <| Zbr h3 rfl⟩
  ·exact ⟨ZD h1 <| Zbr h2 rfl, ZD h1 <| Zbr h2 rfl⟩
 ·exact ⟨Zbr h1 rfl, Zbr h1 rfl⟩
theorem Zyi (h : ¬ ok k) : Zck k N = some .r2 ∧ ZbR k N = some .r1 := by
 unfold Zck ZbR
 unfold ok at h
 by_cases h1 : -1099511627776 ≤ k
 ·have h2 : ¬ k ≤ 1099511627776 := fun h2 => h ⟨h1, h2⟩
  exact ⟨ZD h1 <| Zbr h2 rfl, ZD h1 <| Zbr h2 rfl⟩
 ·exact ⟨Zbr h1 rfl, Zbr h1 rfl⟩
theorem Zyj (h : ¬ ok k) : Zbj k N = some .r2 ∧ Zbo k N = some .r1 := by
 unfold Zbj Zbo
 unfold ok at h
 by_cases h1 : -1099511627776 ≤ k
 ·have h2 : ¬ k ≤ 1099511627776 := fun h2 => h ⟨h1, h2⟩
  exact ⟨ZD h1 <| Zbr h2 rfl, ZD h1 <| Zbr h2 rfl⟩
 ·exact ⟨Zbr h1 rfl, Zbr h1 rfl⟩
theorem runs (k v : Int) (N : Nat) : ZcF k v N = some .r0 := by
 unfold ZcF
 by_cases hk : ok k
 ·obtain ⟨y3, g1, g2⟩ := rget (N := N) hk
  obtain ⟨y5, d1, d2⟩ := rdel (N := N) hk
  subst g2 d2
  by_cases hv : ok v
  ·obtain ⟨y, p1, p2⟩ := rput (N := N) hk hv
   subst p2
   exact ZY (Zyh hk hv) <| ZY p1 <| ZY (ZwX hk) <| ZY g1 <| ZY (ZwY hk) <| ZY d1 <| ZY same1 <| ZY ZxE <| ZY ZxF <| ZY (chk1 hk hv) <| ZY (chk2 hk) <| ZY (chk3 hk) rfl
  ·obtain ⟨p1, p2⟩ := ZwZ (N := N) (fun h => hv h.2 : ¬ (ok k ∧ ok v))
   exact ZY p1 <| ZY p2 <| ZY (ZwX hk) <| ZY g1 <| ZY (ZwY hk) <| ZY d1 <| ZY (a := .r0) rfl <| ZY ZxE <| ZY ZxF <| ZY (chk2 hk) <| ZY (chk3 hk) rfl
 ·obtain ⟨p1, p2⟩ := ZwZ (N := N) (fun h => hk h.1 : ¬ (ok k ∧ ok v))
  obtain ⟨g1, g2⟩ := Zyi (N := N) hk
  obtain ⟨d1, d2⟩ := Zyj (N := N) hk
  refine ZY p1 <| ZY p2 <| ZY g1 <| ZY g2 <| ZY d1 <| ZY d2 ?_
  repeat (first | exact rfl | (refine ZY rfl ?_))
end Hg
end Ev
end Go.Proofs.YtaajdoclloamlaaGreat
/- A region that draws its order, whose first operations only read (and make memory in calls), and whose last ones, in a forced order among themselves, make and write new memory: but these may come up early. -/
namespace Go.Proofs.YtaajdoclloamlaaGreat
open Go.RowKit

section
variable {P : Program}

def Calm (P : Program) (W : World) (o : Oper) (a : Act) (v : Value) : Prop :=
 ∀ w, Below W.heap.size W w → o.quietAt P a (fun w' => Below w.heap.size w w') w v

def YieldsC (P : Program) (ops : Array Oper) (W : World) (o : Oper) (v : Value) (a : Act) : Prop :=
 (Region.wanted o (yielded ops a.tmps) = true ∧ Calm P W o a v) ∨ (Region.wanted o (yielded ops a.tmps) = false ∧ v = undef)
theorem ZtR {a b c : World} (h : Below a.heap.size a b) (k : Below b.heap.size b c) : Below a.heap.size a c := h.trans (k.mono h.size)

def Closed (md : Region.Mode) (ops : Array Oper) (listed : Array Bool) : Prop :=
 ∀ j oj, ops[j]? = some oj → listed.getD j false = true → ∀ e ∈ oj.after, Region.binds md e = true → listed.getD e.on false = true
def Zva (md : Region.Mode) (ops : Array Oper) : Nat → Nat → Nat → Bool
 | 0, _, _ => false
 | f + 1, t, i => Region.waitsFor md ops t i || (List.range ops.size).any fun k => Region.waitsFor md ops t k && Zva md ops f k i
theorem Closed.waits {md : Region.Mode} {ops : Array Oper} {listed : Array Bool} (h : Closed md ops listed) : ∀ (f t i : Nat), listed.getD t false = true → Zva md ops f t i = true → listed.getD i false = true
 | 0, _, _, _, hw => by cases hw
 | f + 1, t, i, ht, hw => by
  simp only [Zva, Bool.or_eq_true, List.any_eq_true, Bool.and_eq_true] at hw
  rcases hw with hw | ⟨k, _, hw, hr⟩
  ·obtain ⟨o, ho, e, he, hb, rfl⟩ := Region.waitsFor_spec hw
   exact h t o ho ht e he hb
  ·obtain ⟨o, ho, e, he, hb, rfl⟩ := Region.waitsFor_spec hw
   exact h.waits f e.on i (h t o ho ht e he hb) hr

theorem YieldsC.wpOp {ops : Array Oper} {W : World} {i : Nat} {o : Oper} {v : Value} {a : Act} {w : World} (hi : ops[i]? = some o) (hy : YieldsC P ops W o v a) (hb : Below W.heap.size W w)
  {K : Act → World → Prop} {Q : Exit → Act → World → Prop} (h : ∀ w', Below w.heap.size w w' → K (a.put o.dst v) w') : wpOp P ops Q i K a w := by
 unfold Go.wpOp
 simp only [hi]
 rcases hy with ⟨hw, hv⟩ | ⟨hw, rfl⟩
 ·simp only [hw, if_true]
  exact .inl (Oper.wp_of_quiet (C := fun w' => Below w.heap.size w w') (K := fun a' => a' = a.put o.dst v) (Below.refl _ _) (fun a' w' hw' ha => by subst ha; exact h w' hw')
   ⟨v, fun w1 hw1 => by
    have h1 := hv w1 (ZtR hb hw1)
    unfold Oper.quietAt at h1 ⊢
    generalize (execOp a.eval o).run P w1 = r at *
    cases r with
    | ok n w' =>
     cases n <;> simp only [Oper.quietUpon] at h1 ⊢
     case value u => exact h1
     case skip => exact h1
     case enter f args => exact ⟨h1.1, h1.2.mono fun e w2 ⟨he, hb2⟩ => ⟨he, ZtR hw1 hb2⟩⟩
    | halt x w' => simp only [Oper.quietUpon] at h1, rfl⟩)
 ·simp only [hw, Bool.false_eq_true, if_false]
  exact h w (Below.refl _ _)

end
end Go.Proofs.YtaajdoclloamlaaGreat
/- The law HashPrograms, for every input. -/
namespace Go.Proofs.YtaajdoclloamlaaGreat
open Go.ChangeShapes Go.WideShapes Go.ChangeAt Go.RowKit
namespace Ev
namespace HashPrograms
set_option linter.unusedVariables false
theorem own : ownKnob Tryz.prog.godebug = none := by kernel_rfl
set_option maxRecDepth 100000 in
theorem lifted (os : Os) (started : os.Started) (H : Type) (enc : TypeId × Value → H) :
  ReturnsInHanded {} Tryz.checked os 3 .any (Rows.hashProgramsSpec.pre6 enc Tryz.prog Tryz.f3 Rows.hashProgramsRow.domain false) (Rows.hashProgramsSpec.post enc Tryz.prog Tryz.f3 false true false false) := by
 refine ZwG (C := Tryz.checked) own started (by kernel_rfl) Tryz.func3 rfl rfl Tryz.underlying4 ?_ (by kernel_rfl) (by kernel_rfl)
  (ChangeSpec.witness6 (enc := enc) (C := Tryz.checked) false ⟨#[], #[.int .i64 0, .int .i64 0], []⟩ 8 (by kernel_rfl) (by kernel_rfl) (by kernel_rfl) (by kernel_rfl)) ?_
 ·intro ds hlen
  have hlen : ds.length = 2 := hlen.trans (by kernel_rfl)
  match ds, hlen with
  | [_, _], _ => rfl
 intro W base args ds p hval hA hlt hsz
 rw [Tryz.params3] at hA hval
 obtain ⟨v0, vs0, d0, ds0, p0, q0, hargs, rfl, rfl, h0, r0⟩ := trodAll_cons hA
 obtain ⟨v1, vs1, d1, ds1, p1, q1, rfl, rfl, rfl, h1, r1⟩ := trodAll_cons r0
 obtain ⟨rfl, rfl, rfl⟩ := trodAll_nil r1
 obtain rfl : args = #[v0, v1] := by cases args; simp_all
 obtain ⟨z0, rfl, w0⟩ := Ztf (k := .i64) (by kernel_rfl) (Ztg (by kernel_rfl) (hval 0 3 v0 rfl rfl))
 obtain ⟨z1, rfl, w1⟩ := Ztf (k := .i64) (by kernel_rfl) (Ztg (by kernel_rfl) (hval 1 3 v1 rfl rfl))
 exact ZwJ (Zkr z0 z1  100000 _ (Hg.runs z0 z1 _)) [] rfl ZvE (ZuB (.atom rfl) (ZuB (.atom rfl) Zv8)) rfl
theorem over : Rows.hashProgramsRow.holds Tryz.pinned (OpenSpec.ofChange Rows.hashProgramsSpec) :=
 OpenClaim.holds_of_wide 3 Tryz.f3 rfl rfl rfl rfl rfl rfl rfl ⟨rfl, rfl, rfl, rfl, rfl⟩ rfl rfl rfl rfl rfl (by kernel_rfl) Tryz.func3 ZwK
  (of_decide_eq_true (by kernel_rfl)) (by unfold Func.isWrapper; first | (rw [if_pos (by decide +kernel)]; kernel_rfl) | (rw [if_neg (by decide +kernel)]; exact ⟨rfl, rfl⟩))
  (fun os started H enc _ => lifted os started H enc)
theorem proved : Rows.HashProgramsSaid := over
#print axioms proved
end HashPrograms
end Ev
end Go.Proofs.YtaajdoclloamlaaGreat
