/- Part 6. -/
import Derived.Test.YtlbbiflodemagaaDoorZae
import Derived.Test.YtlbbiflodemagaaDoorZad
set_option linter.unusedSimpArgs false
set_option linter.unusedVariables false
/- Calls do what the plain functions say. -/
namespace Go.Proofs.YtlbbiflodemagaaDoor
open Go.RowKit
namespace Ev
set_option linter.unusedVariables false
set_option maxRecDepth 100000
set_option maxHeartbeats 4000000 in
theorem ZpW (a0 a1 a2 a3 : Int) (N : Nat) : Gx Tryd.prog 14 [] #[Value.agg #[vi a0, vi a1, vi a2, vi a3]] (Zhy a0 a1 a2 a3) (ZgC a0 a1 a2 a3) (Zas a0 a1 a2 a3 N) := by
 unfold Zas
 refine Zh (fun g0 => ?_) (fun g0 => ?_)
 ·
  exact Zf (Z2 [o1] [] [] [] []) (((decide (a0 < (0 : Int))), true) :: []) (oY <| Z9)
 ·
  have w1 : OkL (ZhR a0 a1 a2 a3) :=
   oN <| Z9
  refine Zh (fun g1 => ?_) (fun g1 => ?_)
  ·
   exact Zf (Z2 [o0, o1] [] [] [] []) (((decide (a0 ≥ (21 : Int))), true) :: ZhR a0 a1 a2 a3) (oY <| w1)
  ·
   have w2 : OkL (ZK a0 a1 a2 a3) :=
    oN <| w1
   refine Zh (fun g2 => ?_) (fun g2 => ?_)
   ·
    exact Zf (Z2 [o0, o0] [] [(0, 0)] [] []) ((Nat.blt 0 21, true) :: (a0 == Int.ofNat 0, true) :: ZK a0 a1 a2 a3) (oB <| oK <| w2)
   ·
    refine Zh (fun g3 => ?_) (fun g3 => ?_)
    ·
     have w4 : OkL (Zce a0 a1 a2 a3) :=
      oB <| oK <| w2
     refine Zh (fun g4 => ?_) (fun g4 => ?_)
     ·
      refine Zh (fun g5 => ?_) (fun g5 => ?_)
      ·
       refine Zh (fun g6 => ?_) (fun g6 => ?_)
       ·
        refine Zh (fun g7 => ?_) (fun g7 => ?_)
        ·
         refine Zh (fun g8 => ?_) (fun g8 => ?_)
         ·
          refine Zh (fun g9 => ?_) (fun g9 => ?_)
          ·
           exact Zaf (Zs [(0, false), (1, false), (5, true), (6, true), (15, true), (16, true), (25, true), (26, true)] [] [(0, 1)] [] []) (((decide (a3 ≤ (0 : Int))), true) :: ((decide ((0 : Int) ≤ a3)), true) :: ((decide (a2 ≤ (1099511627776 : Int))), true) :: ((decide ((-1099511627776 : Int) ≤ a2)), true) :: ((decide (a1 ≤ (7 : Int))), true) :: ((decide ((0 : Int) ≤ a1)), true) :: Zce a0 a1 a2 a3) (oY <| oY <| oY <| oY <| oY <| oY <| w4)
          ·
           exact Zf (Zs [(0, false), (1, false), (5, true), (6, true), (15, true), (16, true), (25, true), (26, false)] [] [(0, 1)] [] []) (((decide (a3 ≤ (0 : Int))), false) :: ((decide ((0 : Int) ≤ a3)), true) :: ((decide (a2 ≤ (1099511627776 : Int))), true) :: ((decide ((-1099511627776 : Int) ≤ a2)), true) :: ((decide (a1 ≤ (7 : Int))), true) :: ((decide ((0 : Int) ≤ a1)), true) :: Zce a0 a1 a2 a3) (oN <| oY <| oY <| oY <| oY <| oY <| w4)
         ·
          exact Zf (Zs [(0, false), (1, false), (5, true), (6, true), (15, true), (16, true), (25, false)] [] [(0, 1)] [] []) (((decide ((0 : Int) ≤ a3)), false) :: ((decide (a2 ≤ (1099511627776 : Int))), true) :: ((decide ((-1099511627776 : Int) ≤ a2)), true) :: ((decide (a1 ≤ (7 : Int))), true) :: ((decide ((0 : Int) ≤ a1)), true) :: Zce a0 a1 a2 a3) (oN <| oY <| oY <| oY <| oY <| w4)
        ·
         exact Zf (Zs [(0, false), (1, false), (5, true), (6, true), (15, true), (16, false)] [] [(0, 1)] [] []) (((decide (a2 ≤ (1099511627776 : Int))), false) :: ((decide ((-1099511627776 : Int) ≤ a2)), true) :: ((decide (a1 ≤ (7 : Int))), true) :: ((decide ((0 : Int) ≤ a1)), true) :: Zce a0 a1 a2 a3) (oN <| oY <| oY <| oY <| w4)
       ·
        exact Zf (Zs [(0, false), (1, false), (5, true), (6, true), (15, false)] [] [(0, 1)] [] []) (((decide ((-1099511627776 : Int) ≤ a2)), false) :: ((decide (a1 ≤ (7 : Int))), true) :: ((decide ((0 : Int) ≤ a1)), true) :: Zce a0 a1 a2 a3) (oN <| oY <| oY <| w4)
      ·
       exact Zf (Zs [(0, false), (1, false), (5, true), (6, false)] [] [(0, 1)] [] []) (((decide (a1 ≤ (7 : Int))), false) :: ((decide ((0 : Int) ≤ a1)), true) :: Zce a0 a1 a2 a3) (oN <| oY <| w4)
     ·
      exact Zf (Zs [(0, false), (1, false), (5, false)] [] [(0, 1)] [] []) (((decide ((0 : Int) ≤ a1)), false) :: Zce a0 a1 a2 a3) (oN <| w4)
    ·
     refine Zh (fun g4 => ?_) (fun g4 => ?_)
     ·
      have w5 : OkL (Zcf a0 a1 a2 a3) :=
       oB <| oK <| w2
      refine Zh (fun g5 => ?_) (fun g5 => ?_)
      ·
       refine Zh (fun g6 => ?_) (fun g6 => ?_)
       ·
        refine Zh (fun g7 => ?_) (fun g7 => ?_)
        ·
         refine Zh (fun g8 => ?_) (fun g8 => ?_)
         ·
          refine Zh (fun g9 => ?_) (fun g9 => ?_)
          ·
           refine Zh (fun g10 => ?_) (fun g10 => ?_)
           ·
            exact Zaf (Zs [(0, false), (1, false), (5, true), (6, true), (15, true), (16, true), (25, true), (26, true)] [] [(0, 2)] [] []) (((decide (a3 ≤ (0 : Int))), true) :: ((decide ((0 : Int) ≤ a3)), true) :: ((decide (a2 ≤ (0 : Int))), true) :: ((decide ((0 : Int) ≤ a2)), true) :: ((decide (a1 ≤ (7 : Int))), true) :: ((decide ((0 : Int) ≤ a1)), true) :: Zcf a0 a1 a2 a3) (oY <| oY <| oY <| oY <| oY <| oY <| w5)
           ·
            exact Zf (Zs [(0, false), (1, false), (5, true), (6, true), (15, true), (16, true), (25, true), (26, false)] [] [(0, 2)] [] []) (((decide (a3 ≤ (0 : Int))), false) :: ((decide ((0 : Int) ≤ a3)), true) :: ((decide (a2 ≤ (0 : Int))), true) :: ((decide ((0 : Int) ≤ a2)), true) :: ((decide (a1 ≤ (7 : Int))), true) :: ((decide ((0 : Int) ≤ a1)), true) :: Zcf a0 a1 a2 a3) (oN <| oY <| oY <| oY <| oY <| oY <| w5)
          ·
           exact Zf (Zs [(0, false), (1, false), (5, true), (6, true), (15, true), (16, true), (25, false)] [] [(0, 2)] [] []) (((decide ((0 : Int) ≤ a3)), false) :: ((decide (a2 ≤ (0 : Int))), true) :: ((decide ((0 : Int) ≤ a2)), true) :: ((decide (a1 ≤ (7 : Int))), true) :: ((decide ((0 : Int) ≤ a1)), true) :: Zcf a0 a1 a2 a3) (oN <| oY <| oY <| oY <| oY <| w5)
         ·
          exact Zf (Zs [(0, false), (1, false), (5, true), (6, true), (15, true), (16, false)] [] [(0, 2)] [] []) (((decide (a2 ≤ (0 : Int))), false) :: ((decide ((0 : Int) ≤ a2)), true) :: ((decide (a1 ≤ (7 : Int))), true) :: ((decide ((0 : Int) ≤ a1)), true) :: Zcf a0 a1 a2 a3) (oN <| oY <| oY <| oY <| w5)
        ·
         exact Zf (Zs [(0, false), (1, false), (5, true), (6, true), (15, false)] [] [(0, 2)] [] []) (((decide ((0 : Int) ≤ a2)), false) :: ((decide (a1 ≤ (7 : Int))), true) :: ((decide ((0 : Int) ≤ a1)), true) :: Zcf a0 a1 a2 a3) (oN <| oY <| oY <| w5)
       ·
        exact Zf (Zs [(0, false), (1, false), (5, true), (6, false)] [] [(0, 2)] [] []) (((decide (a1 ≤ (7 : Int))), false) :: ((decide ((0 : Int) ≤ a1)), true) :: Zcf a0 a1 a2 a3) (oN <| oY <| w5)
      ·
       exact Zf (Zs [(0, false), (1, false), (5, false)] [] [(0, 2)] [] []) (((decide ((0 : Int) ≤ a1)), false) :: Zcf a0 a1 a2 a3) (oN <| w5)
     ·
      refine Zh (fun g5 => ?_) (fun g5 => ?_)
      ·
       have w6 : OkL (Zcg a0 a1 a2 a3) :=
        oB <| oK <| w2
       refine Zh (fun g6 => ?_) (fun g6 => ?_)
       ·
        refine Zh (fun g7 => ?_) (fun g7 => ?_)
        ·
         refine Zh (fun g8 => ?_) (fun g8 => ?_)
         ·
          refine Zh (fun g9 => ?_) (fun g9 => ?_)
          ·
           refine Zh (fun g10 => ?_) (fun g10 => ?_)
           ·
            refine Zh (fun g11 => ?_) (fun g11 => ?_)
            ·
             exact Zaf (Zs [(0, false), (1, false), (5, true), (6, true), (10, true), (11, true), (20, true), (21, true)] [] [(0, 3)] [] []) (((decide (a3 ≤ (0 : Int))), true) :: ((decide ((0 : Int) ≤ a3)), true) :: ((decide (a2 ≤ (7 : Int))), true) :: ((decide ((0 : Int) ≤ a2)), true) :: ((decide (a1 ≤ (7 : Int))), true) :: ((decide ((0 : Int) ≤ a1)), true) :: Zcg a0 a1 a2 a3) (oY <| oY <| oY <| oY <| oY <| oY <| w6)
            ·
             exact Zf (Zs [(0, false), (1, false), (5, true), (6, true), (10, true), (11, true), (20, true), (21, false)] [] [(0, 3)] [] []) (((decide (a3 ≤ (0 : Int))), false) :: ((decide ((0 : Int) ≤ a3)), true) :: ((decide (a2 ≤ (7 : Int))), true) :: ((decide ((0 : Int) ≤ a2)), true) :: ((decide (a1 ≤ (7 : Int))), true) :: ((decide ((0 : Int) ≤ a1)), true) :: Zcg a0 a1 a2 a3) (oN <| oY <| oY <| oY <| oY <| oY <| w6)
           ·
            exact Zf (Zs [(0, false), (1, false), (5, true), (6, true), (10, true), (11, true), (20, false)] [] [(0, 3)] [] []) (((decide ((0 : Int) ≤ a3)), false) :: ((decide (a2 ≤ (7 : Int))), true) :: ((decide ((0 : Int) ≤ a2)), true) :: ((decide (a1 ≤ (7 : Int))), true) :: ((decide ((0 : Int) ≤ a1)), true) :: Zcg a0 a1 a2 a3) (oN <| oY <| oY <| oY <| oY <| w6)
          ·
           exact Zf (Zs [(0, false), (1, false), (5, true), (6, true), (10, true), (11, false)] [] [(0, 3)] [] []) (((decide (a2 ≤ (7 : Int))), false) :: ((decide ((0 : Int) ≤ a2)), true) :: ((decide (a1 ≤ (7 : Int))), true) :: ((decide ((0 : Int) ≤ a1)), true) :: Zcg a0 a1 a2 a3) (oN <| oY <| oY <| oY <| w6)
         ·
          exact Zf (Zs [(0, false), (1, false), (5, true), (6, true), (10, false)] [] [(0, 3)] [] []) (((decide ((0 : Int) ≤ a2)), false) :: ((decide (a1 ≤ (7 : Int))), true) :: ((decide ((0 : Int) ≤ a1)), true) :: Zcg a0 a1 a2 a3) (oN <| oY <| oY <| w6)
        ·
         exact Zf (Zs [(0, false), (1, false), (5, true), (6, false)] [] [(0, 3)] [] []) (((decide (a1 ≤ (7 : Int))), false) :: ((decide ((0 : Int) ≤ a1)), true) :: Zcg a0 a1 a2 a3) (oN <| oY <| w6)
       ·
        exact Zf (Zs [(0, false), (1, false), (5, false)] [] [(0, 3)] [] []) (((decide ((0 : Int) ≤ a1)), false) :: Zcg a0 a1 a2 a3) (oN <| w6)
      ·
       refine Zh (fun g6 => ?_) (fun g6 => ?_)
       ·
        have w7 : OkL (Zch a0 a1 a2 a3) :=
         oB <| oK <| w2
        refine Zh (fun g7 => ?_) (fun g7 => ?_)
        ·
         refine Zh (fun g8 => ?_) (fun g8 => ?_)
         ·
          refine Zh (fun g9 => ?_) (fun g9 => ?_)
          ·
           refine Zh (fun g10 => ?_) (fun g10 => ?_)
           ·
            refine Zh (fun g11 => ?_) (fun g11 => ?_)
            ·
             refine Zh (fun g12 => ?_) (fun g12 => ?_)
             ·
              exact Zaf (Zs [(0, false), (1, false), (5, true), (6, true), (10, true), (11, true), (15, true), (16, true)] [] [(0, 4)] [] []) (((decide (a3 ≤ (7 : Int))), true) :: ((decide ((0 : Int) ≤ a3)), true) :: ((decide (a2 ≤ (7 : Int))), true) :: ((decide ((0 : Int) ≤ a2)), true) :: ((decide (a1 ≤ (7 : Int))), true) :: ((decide ((0 : Int) ≤ a1)), true) :: Zch a0 a1 a2 a3) (oY <| oY <| oY <| oY <| oY <| oY <| w7)
             ·
              exact Zf (Zs [(0, false), (1, false), (5, true), (6, true), (10, true), (11, true), (15, true), (16, false)] [] [(0, 4)] [] []) (((decide (a3 ≤ (7 : Int))), false) :: ((decide ((0 : Int) ≤ a3)), true) :: ((decide (a2 ≤ (7 : Int))), true) :: ((decide ((0 : Int) ≤ a2)), true) :: ((decide (a1 ≤ (7 : Int))), true) :: ((decide ((0 : Int) ≤ a1)), true) :: Zch a0 a1 a2 a3) (oN <| oY <| oY <| oY <| oY <| oY <| w7)
            ·
             exact Zf (Zs [(0, false), (1, false), (5, true), (6, true), (10, true), (11, true), (15, false)] [] [(0, 4)] [] []) (((decide ((0 : Int) ≤ a3)), false) :: ((decide (a2 ≤ (7 : Int))), true) :: ((decide ((0 : Int) ≤ a2)), true) :: ((decide (a1 ≤ (7 : Int))), true) :: ((decide ((0 : Int) ≤ a1)), true) :: Zch a0 a1 a2 a3) (oN <| oY <| oY <| oY <| oY <| w7)
           ·
            exact Zf (Zs [(0, false), (1, false), (5, true), (6, true), (10, true), (11, false)] [] [(0, 4)] [] []) (((decide (a2 ≤ (7 : Int))), false) :: ((decide ((0 : Int) ≤ a2)), true) :: ((decide (a1 ≤ (7 : Int))), true) :: ((decide ((0 : Int) ≤ a1)), true) :: Zch a0 a1 a2 a3) (oN <| oY <| oY <| oY <| w7)
          ·
           exact Zf (Zs [(0, false), (1, false), (5, true), (6, true), (10, false)] [] [(0, 4)] [] []) (((decide ((0 : Int) ≤ a2)), false) :: ((decide (a1 ≤ (7 : Int))), true) :: ((decide ((0 : Int) ≤ a1)), true) :: Zch a0 a1 a2 a3) (oN <| oY <| oY <| w7)
         ·
          exact Zf (Zs [(0, false), (1, false), (5, true), (6, false)] [] [(0, 4)] [] []) (((decide (a1 ≤ (7 : Int))), false) :: ((decide ((0 : Int) ≤ a1)), true) :: Zch a0 a1 a2 a3) (oN <| oY <| w7)
        ·
         exact Zf (Zs [(0, false), (1, false), (5, false)] [] [(0, 4)] [] []) (((decide ((0 : Int) ≤ a1)), false) :: Zch a0 a1 a2 a3) (oN <| w7)
       ·
        refine Zh (fun g7 => ?_) (fun g7 => ?_)
        ·
         have w8 : OkL (Zci a0 a1 a2 a3) :=
          oB <| oK <| w2
         refine Zh (fun g8 => ?_) (fun g8 => ?_)
         ·
          refine Zh (fun g9 => ?_) (fun g9 => ?_)
          ·
           refine Zh (fun g10 => ?_) (fun g10 => ?_)
           ·
            refine Zh (fun g11 => ?_) (fun g11 => ?_)
            ·
             refine Zh (fun g12 => ?_) (fun g12 => ?_)
             ·
              refine Zh (fun g13 => ?_) (fun g13 => ?_)
              ·
               exact Zaf (Zs [(0, false), (1, false), (5, true), (6, true), (10, true), (11, true), (15, true), (16, true)] [] [(0, 5)] [] []) (((decide (a3 ≤ (7 : Int))), true) :: ((decide ((0 : Int) ≤ a3)), true) :: ((decide (a2 ≤ (7 : Int))), true) :: ((decide ((0 : Int) ≤ a2)), true) :: ((decide (a1 ≤ (7 : Int))), true) :: ((decide ((0 : Int) ≤ a1)), true) :: Zci a0 a1 a2 a3) (oY <| oY <| oY <| oY <| oY <| oY <| w8)
              ·
               exact Zf (Zs [(0, false), (1, false), (5, true), (6, true), (10, true), (11, true), (15, true), (16, false)] [] [(0, 5)] [] []) (((decide (a3 ≤ (7 : Int))), false) :: ((decide ((0 : Int) ≤ a3)), true) :: ((decide (a2 ≤ (7 : Int))), true) :: ((decide ((0 : Int) ≤ a2)), true) :: ((decide (a1 ≤ (7 : Int))), true) :: ((decide ((0 : Int) ≤ a1)), true) :: Zci a0 a1 a2 a3) (oN <| oY <| oY <| oY <| oY <| oY <| w8)
             ·
              exact Zf (Zs [(0, false), (1, false), (5, true), (6, true), (10, true), (11, true), (15, false)] [] [(0, 5)] [] []) (((decide ((0 : Int) ≤ a3)), false) :: ((decide (a2 ≤ (7 : Int))), true) :: ((decide ((0 : Int) ≤ a2)), true) :: ((decide (a1 ≤ (7 : Int))), true) :: ((decide ((0 : Int) ≤ a1)), true) :: Zci a0 a1 a2 a3) (oN <| oY <| oY <| oY <| oY <| w8)
            ·
             exact Zf (Zs [(0, false), (1, false), (5, true), (6, true), (10, true), (11, false)] [] [(0, 5)] [] []) (((decide (a2 ≤ (7 : Int))), false) :: ((decide ((0 : Int) ≤ a2)), true) :: ((decide (a1 ≤ (7 : Int))), true) :: ((decide ((0 : Int) ≤ a1)), true) :: Zci a0 a1 a2 a3) (oN <| oY <| oY <| oY <| w8)
           ·
            exact Zf (Zs [(0, false), (1, false), (5, true), (6, true), (10, false)] [] [(0, 5)] [] []) (((decide ((0 : Int) ≤ a2)), false) :: ((decide (a1 ≤ (7 : Int))), true) :: ((decide ((0 : Int) ≤ a1)), true) :: Zci a0 a1 a2 a3) (oN <| oY <| oY <| w8)
          ·
           exact Zf (Zs [(0, false), (1, false), (5, true), (6, false)] [] [(0, 5)] [] []) (((decide (a1 ≤ (7 : Int))), false) :: ((decide ((0 : Int) ≤ a1)), true) :: Zci a0 a1 a2 a3) (oN <| oY <| w8)
         ·
          exact Zf (Zs [(0, false), (1, false), (5, false)] [] [(0, 5)] [] []) (((decide ((0 : Int) ≤ a1)), false) :: Zci a0 a1 a2 a3) (oN <| w8)
        ·
         refine Zh (fun g8 => ?_) (fun g8 => ?_)
         ·
          have w9 : OkL (Zcj a0 a1 a2 a3) :=
           oB <| oK <| w2
          refine Zh (fun g9 => ?_) (fun g9 => ?_)
          ·
           refine Zh (fun g10 => ?_) (fun g10 => ?_)
           ·
            refine Zh (fun g11 => ?_) (fun g11 => ?_)
            ·
             refine Zh (fun g12 => ?_) (fun g12 => ?_)
             ·
              refine Zh (fun g13 => ?_) (fun g13 => ?_)
              ·
               refine Zh (fun g14 => ?_) (fun g14 => ?_)
               ·
                exact Zaf (Zs [(0, false), (1, false), (5, true), (6, true), (10, true), (11, true), (15, true), (16, true)] [] [(0, 6)] [] []) (((decide (a3 ≤ (7 : Int))), true) :: ((decide ((0 : Int) ≤ a3)), true) :: ((decide (a2 ≤ (7 : Int))), true) :: ((decide ((0 : Int) ≤ a2)), true) :: ((decide (a1 ≤ (7 : Int))), true) :: ((decide ((0 : Int) ≤ a1)), true) :: Zcj a0 a1 a2 a3) (oY <| oY <| oY <| oY <| oY <| oY <| w9)
               ·
                exact Zf (Zs [(0, false), (1, false), (5, true), (6, true), (10, true), (11, true), (15, true), (16, false)] [] [(0, 6)] [] []) (((decide (a3 ≤ (7 : Int))), false) :: ((decide ((0 : Int) ≤ a3)), true) :: ((decide (a2 ≤ (7 : Int))), true) :: ((decide ((0 : Int) ≤ a2)), true) :: ((decide (a1 ≤ (7 : Int))), true) :: ((decide ((0 : Int) ≤ a1)), true) :: Zcj a0 a1 a2 a3) (oN <| oY <| oY <| oY <| oY <| oY <| w9)
              ·
               exact Zf (Zs [(0, false), (1, false), (5, true), (6, true), (10, true), (11, true), (15, false)] [] [(0, 6)] [] []) (((decide ((0 : Int) ≤ a3)), false) :: ((decide (a2 ≤ (7 : Int))), true) :: ((decide ((0 : Int) ≤ a2)), true) :: ((decide (a1 ≤ (7 : Int))), true) :: ((decide ((0 : Int) ≤ a1)), true) :: Zcj a0 a1 a2 a3) (oN <| oY <| oY <| oY <| oY <| w9)
             ·
              exact Zf (Zs [(0, false), (1, false), (5, true), (6, true), (10, true), (11, false)] [] [(0, 6)] [] []) (((decide (a2 ≤ (7 : Int))), false) :: ((decide ((0 : Int) ≤ a2)), true) :: ((decide (a1 ≤ (7 : Int))), true) :: ((decide ((0 : Int) ≤ a1)), true) :: Zcj a0 a1 a2 a3) (oN <| oY <| oY <| oY <| w9)
            ·
             exact Zf (Zs [(0, false), (1, false), (5, true), (6, true), (10, false)] [] [(0, 6)] [] []) (((decide ((0 : Int) ≤ a2)), false) :: ((decide (a1 ≤ (7 : Int))), true) :: ((decide ((0 : Int) ≤ a1)), true) :: Zcj a0 a1 a2 a3) (oN <| oY <| oY <| w9)
           ·
            exact Zf (Zs [(0, false), (1, false), (5, true), (6, false)] [] [(0, 6)] [] []) (((decide (a1 ≤ (7 : Int))), false) :: ((decide ((0 : Int) ≤ a1)), true) :: Zcj a0 a1 a2 a3) (oN <| oY <| w9)
          ·
           exact Zf (Zs [(0, false), (1, false), (5, false)] [] [(0, 6)] [] []) (((decide ((0 : Int) ≤ a1)), false) :: Zcj a0 a1 a2 a3) (oN <| w9)
         ·
          refine Zh (fun g9 => ?_) (fun g9 => ?_)
          ·
           have w10 : OkL (Zck a0 a1 a2 a3) :=
            oB <| oK <| w2
           refine Zh (fun g10 => ?_) (fun g10 => ?_)
           ·
            refine Zh (fun g11 => ?_) (fun g11 => ?_)
            ·
             refine Zh (fun g12 => ?_) (fun g12 => ?_)
             ·
              refine Zh (fun g13 => ?_) (fun g13 => ?_)
              ·
               refine Zh (fun g14 => ?_) (fun g14 => ?_)
               ·
                refine Zh (fun g15 => ?_) (fun g15 => ?_)
                ·
                 exact Zaf (Zs [(0, false), (1, false), (5, true), (6, true), (10, true), (11, true), (15, true), (16, true)] [] [(0, 7)] [] []) (((decide (a3 ≤ (7 : Int))), true) :: ((decide ((0 : Int) ≤ a3)), true) :: ((decide (a2 ≤ (7 : Int))), true) :: ((decide ((0 : Int) ≤ a2)), true) :: ((decide (a1 ≤ (7 : Int))), true) :: ((decide ((0 : Int) ≤ a1)), true) :: Zck a0 a1 a2 a3) (oY <| oY <| oY <| oY <| oY <| oY <| w10)
                ·
                 exact Zf (Zs [(0, false), (1, false), (5, true), (6, true), (10, true), (11, true), (15, true), (16, false)] [] [(0, 7)] [] []) (((decide (a3 ≤ (7 : Int))), false) :: ((decide ((0 : Int) ≤ a3)), true) :: ((decide (a2 ≤ (7 : Int))), true) :: ((decide ((0 : Int) ≤ a2)), true) :: ((decide (a1 ≤ (7 : Int))), true) :: ((decide ((0 : Int) ≤ a1)), true) :: Zck a0 a1 a2 a3) (oN <| oY <| oY <| oY <| oY <| oY <| w10)
               ·
                exact Zf (Zs [(0, false), (1, false), (5, true), (6, true), (10, true), (11, true), (15, false)] [] [(0, 7)] [] []) (((decide ((0 : Int) ≤ a3)), false) :: ((decide (a2 ≤ (7 : Int))), true) :: ((decide ((0 : Int) ≤ a2)), true) :: ((decide (a1 ≤ (7 : Int))), true) :: ((decide ((0 : Int) ≤ a1)), true) :: Zck a0 a1 a2 a3) (oN <| oY <| oY <| oY <| oY <| w10)
              ·
               exact Zf (Zs [(0, false), (1, false), (5, true), (6, true), (10, true), (11, false)] [] [(0, 7)] [] []) (((decide (a2 ≤ (7 : Int))), false) :: ((decide ((0 : Int) ≤ a2)), true) :: ((decide (a1 ≤ (7 : Int))), true) :: ((decide ((0 : Int) ≤ a1)), true) :: Zck a0 a1 a2 a3) (oN <| oY <| oY <| oY <| w10)
             ·
              exact Zf (Zs [(0, false), (1, false), (5, true), (6, true), (10, false)] [] [(0, 7)] [] []) (((decide ((0 : Int) ≤ a2)), false) :: ((decide (a1 ≤ (7 : Int))), true) :: ((decide ((0 : Int) ≤ a1)), true) :: Zck a0 a1 a2 a3) (oN <| oY <| oY <| w10)
            ·
             exact Zf (Zs [(0, false), (1, false), (5, true), (6, false)] [] [(0, 7)] [] []) (((decide (a1 ≤ (7 : Int))), false) :: ((decide ((0 : Int) ≤ a1)), true) :: Zck a0 a1 a2 a3) (oN <| oY <| w10)
           ·
            exact Zf (Zs [(0, false), (1, false), (5, false)] [] [(0, 7)] [] []) (((decide ((0 : Int) ≤ a1)), false) :: Zck a0 a1 a2 a3) (oN <| w10)
          ·
           refine Zh (fun g10 => ?_) (fun g10 => ?_)
           ·
            have w11 : OkL (Zcl a0 a1 a2 a3) :=
             oB <| oK <| w2
            refine Zh (fun g11 => ?_) (fun g11 => ?_)
            ·
             refine Zh (fun g12 => ?_) (fun g12 => ?_)
             ·
              refine Zh (fun g13 => ?_) (fun g13 => ?_)
              ·
               refine Zh (fun g14 => ?_) (fun g14 => ?_)
               ·
                refine Zh (fun g15 => ?_) (fun g15 => ?_)
                ·
                 refine Zh (fun g16 => ?_) (fun g16 => ?_)
                 ·
                  exact Zaf (Zs [(0, false), (1, false), (8, true), (9, true), (18, true), (19, true), (28, true), (29, true)] [] [(0, 8)] [] []) (((decide (a3 ≤ (0 : Int))), true) :: ((decide ((0 : Int) ≤ a3)), true) :: ((decide (a2 ≤ (0 : Int))), true) :: ((decide ((0 : Int) ≤ a2)), true) :: ((decide (a1 ≤ (512 : Int))), true) :: ((decide ((0 : Int) ≤ a1)), true) :: Zcl a0 a1 a2 a3) (oY <| oY <| oY <| oY <| oY <| oY <| w11)
                 ·
                  exact Zf (Zs [(0, false), (1, false), (8, true), (9, true), (18, true), (19, true), (28, true), (29, false)] [] [(0, 8)] [] []) (((decide (a3 ≤ (0 : Int))), false) :: ((decide ((0 : Int) ≤ a3)), true) :: ((decide (a2 ≤ (0 : Int))), true) :: ((decide ((0 : Int) ≤ a2)), true) :: ((decide (a1 ≤ (512 : Int))), true) :: ((decide ((0 : Int) ≤ a1)), true) :: Zcl a0 a1 a2 a3) (oN <| oY <| oY <| oY <| oY <| oY <| w11)
                ·
                 exact Zf (Zs [(0, false), (1, false), (8, true), (9, true), (18, true), (19, true), (28, false)] [] [(0, 8)] [] []) (((decide ((0 : Int) ≤ a3)), false) :: ((decide (a2 ≤ (0 : Int))), true) :: ((decide ((0 : Int) ≤ a2)), true) :: ((decide (a1 ≤ (512 : Int))), true) :: ((decide ((0 : Int) ≤ a1)), true) :: Zcl a0 a1 a2 a3) (oN <| oY <| oY <| oY <| oY <| w11)
               ·
                exact Zf (Zs [(0, false), (1, false), (8, true), (9, true), (18, true), (19, false)] [] [(0, 8)] [] []) (((decide (a2 ≤ (0 : Int))), false) :: ((decide ((0 : Int) ≤ a2)), true) :: ((decide (a1 ≤ (512 : Int))), true) :: ((decide ((0 : Int) ≤ a1)), true) :: Zcl a0 a1 a2 a3) (oN <| oY <| oY <| oY <| w11)
              ·
               exact Zf (Zs [(0, false), (1, false), (8, true), (9, true), (18, false)] [] [(0, 8)] [] []) (((decide ((0 : Int) ≤ a2)), false) :: ((decide (a1 ≤ (512 : Int))), true) :: ((decide ((0 : Int) ≤ a1)), true) :: Zcl a0 a1 a2 a3) (oN <| oY <| oY <| w11)
             ·
              exact Zf (Zs [(0, false), (1, false), (8, true), (9, false)] [] [(0, 8)] [] []) (((decide (a1 ≤ (512 : Int))), false) :: ((decide ((0 : Int) ≤ a1)), true) :: Zcl a0 a1 a2 a3) (oN <| oY <| w11)
            ·
             exact Zf (Zs [(0, false), (1, false), (8, false)] [] [(0, 8)] [] []) (((decide ((0 : Int) ≤ a1)), false) :: Zcl a0 a1 a2 a3) (oN <| w11)
           ·
            refine Zh (fun g11 => ?_) (fun g11 => ?_)
            ·
             have w12 : OkL (Zb7 a0 a1 a2 a3) :=
              oB <| oK <| w2
             refine Zh (fun g12 => ?_) (fun g12 => ?_)
             ·
              refine Zh (fun g13 => ?_) (fun g13 => ?_)
              ·
               refine Zh (fun g14 => ?_) (fun g14 => ?_)
               ·
                refine Zh (fun g15 => ?_) (fun g15 => ?_)
                ·
                 refine Zh (fun g16 => ?_) (fun g16 => ?_)
                 ·
                  refine Zh (fun g17 => ?_) (fun g17 => ?_)
                  ·
                   exact Zaf (Zs [(0, false), (1, false), (5, true), (6, true), (13, true), (14, true), (23, true), (24, true)] [] [(0, 9)] [] []) (((decide (a3 ≤ (0 : Int))), true) :: ((decide ((0 : Int) ≤ a3)), true) :: ((decide (a2 ≤ (512 : Int))), true) :: ((decide ((0 : Int) ≤ a2)), true) :: ((decide (a1 ≤ (7 : Int))), true) :: ((decide ((0 : Int) ≤ a1)), true) :: Zb7 a0 a1 a2 a3) (oY <| oY <| oY <| oY <| oY <| oY <| w12)
                  ·
                   exact Zf (Zs [(0, false), (1, false), (5, true), (6, true), (13, true), (14, true), (23, true), (24, false)] [] [(0, 9)] [] []) (((decide (a3 ≤ (0 : Int))), false) :: ((decide ((0 : Int) ≤ a3)), true) :: ((decide (a2 ≤ (512 : Int))), true) :: ((decide ((0 : Int) ≤ a2)), true) :: ((decide (a1 ≤ (7 : Int))), true) :: ((decide ((0 : Int) ≤ a1)), true) :: Zb7 a0 a1 a2 a3) (oN <| oY <| oY <| oY <| oY <| oY <| w12)
                 ·
                  exact Zf (Zs [(0, false), (1, false), (5, true), (6, true), (13, true), (14, true), (23, false)] [] [(0, 9)] [] []) (((decide ((0 : Int) ≤ a3)), false) :: ((decide (a2 ≤ (512 : Int))), true) :: ((decide ((0 : Int) ≤ a2)), true) :: ((decide (a1 ≤ (7 : Int))), true) :: ((decide ((0 : Int) ≤ a1)), true) :: Zb7 a0 a1 a2 a3) (oN <| oY <| oY <| oY <| oY <| w12)
                ·
                 exact Zf (Zs [(0, false), (1, false), (5, true), (6, true), (13, true), (14, false)] [] [(0, 9)] [] []) (((decide (a2 ≤ (512 : Int))), false) :: ((decide ((0 : Int) ≤ a2)), true) :: ((decide (a1 ≤ (7 : Int))), true) :: ((decide ((0 : Int) ≤ a1)), true) :: Zb7 a0 a1 a2 a3) (oN <| oY <| oY <| oY <| w12)
               ·
                exact Zf (Zs [(0, false), (1, false), (5, true), (6, true), (13, false)] [] [(0, 9)] [] []) (((decide ((0 : Int) ≤ a2)), false) :: ((decide (a1 ≤ (7 : Int))), true) :: ((decide ((0 : Int) ≤ a1)), true) :: Zb7 a0 a1 a2 a3) (oN <| oY <| oY <| w12)
              ·
               exact Zf (Zs [(0, false), (1, false), (5, true), (6, false)] [] [(0, 9)] [] []) (((decide (a1 ≤ (7 : Int))), false) :: ((decide ((0 : Int) ≤ a1)), true) :: Zb7 a0 a1 a2 a3) (oN <| oY <| w12)
             ·
              exact Zf (Zs [(0, false), (1, false), (5, false)] [] [(0, 9)] [] []) (((decide ((0 : Int) ≤ a1)), false) :: Zb7 a0 a1 a2 a3) (oN <| w12)
            ·
             refine Zh (fun g12 => ?_) (fun g12 => ?_)
             ·
              have w13 : OkL (Zb8 a0 a1 a2 a3) :=
               oB <| oK <| w2
              refine Zh (fun g13 => ?_) (fun g13 => ?_)
              ·
               refine Zh (fun g14 => ?_) (fun g14 => ?_)
               ·
                refine Zh (fun g15 => ?_) (fun g15 => ?_)
                ·
                 refine Zh (fun g16 => ?_) (fun g16 => ?_)
                 ·
                  refine Zh (fun g17 => ?_) (fun g17 => ?_)
                  ·
                   refine Zh (fun g18 => ?_) (fun g18 => ?_)
                   ·
                    exact Zaf (Zs [(0, false), (1, false), (5, true), (6, true), (15, true), (16, true), (25, true), (26, true)] [] [(0, 10)] [] []) (((decide (a3 ≤ (0 : Int))), true) :: ((decide ((0 : Int) ≤ a3)), true) :: ((decide (a2 ≤ (0 : Int))), true) :: ((decide ((0 : Int) ≤ a2)), true) :: ((decide (a1 ≤ (7 : Int))), true) :: ((decide ((0 : Int) ≤ a1)), true) :: Zb8 a0 a1 a2 a3) (oY <| oY <| oY <| oY <| oY <| oY <| w13)
                   ·
                    exact Zf (Zs [(0, false), (1, false), (5, true), (6, true), (15, true), (16, true), (25, true), (26, false)] [] [(0, 10)] [] []) (((decide (a3 ≤ (0 : Int))), false) :: ((decide ((0 : Int) ≤ a3)), true) :: ((decide (a2 ≤ (0 : Int))), true) :: ((decide ((0 : Int) ≤ a2)), true) :: ((decide (a1 ≤ (7 : Int))), true) :: ((decide ((0 : Int) ≤ a1)), true) :: Zb8 a0 a1 a2 a3) (oN <| oY <| oY <| oY <| oY <| oY <| w13)
                  ·
                   exact Zf (Zs [(0, false), (1, false), (5, true), (6, true), (15, true), (16, true), (25, false)] [] [(0, 10)] [] []) (((decide ((0 : Int) ≤ a3)), false) :: ((decide (a2 ≤ (0 : Int))), true) :: ((decide ((0 : Int) ≤ a2)), true) :: ((decide (a1 ≤ (7 : Int))), true) :: ((decide ((0 : Int) ≤ a1)), true) :: Zb8 a0 a1 a2 a3) (oN <| oY <| oY <| oY <| oY <| w13)
                 ·
                  exact Zf (Zs [(0, false), (1, false), (5, true), (6, true), (15, true), (16, false)] [] [(0, 10)] [] []) (((decide (a2 ≤ (0 : Int))), false) :: ((decide ((0 : Int) ≤ a2)), true) :: ((decide (a1 ≤ (7 : Int))), true) :: ((decide ((0 : Int) ≤ a1)), true) :: Zb8 a0 a1 a2 a3) (oN <| oY <| oY <| oY <| w13)
                ·
                 exact Zf (Zs [(0, false), (1, false), (5, true), (6, true), (15, false)] [] [(0, 10)] [] []) (((decide ((0 : Int) ≤ a2)), false) :: ((decide (a1 ≤ (7 : Int))), true) :: ((decide ((0 : Int) ≤ a1)), true) :: Zb8 a0 a1 a2 a3) (oN <| oY <| oY <| w13)
               ·
                exact Zf (Zs [(0, false), (1, false), (5, true), (6, false)] [] [(0, 10)] [] []) (((decide (a1 ≤ (7 : Int))), false) :: ((decide ((0 : Int) ≤ a1)), true) :: Zb8 a0 a1 a2 a3) (oN <| oY <| w13)
              ·
               exact Zf (Zs [(0, false), (1, false), (5, false)] [] [(0, 10)] [] []) (((decide ((0 : Int) ≤ a1)), false) :: Zb8 a0 a1 a2 a3) (oN <| w13)
             ·
              refine Zh (fun g13 => ?_) (fun g13 => ?_)
              ·
               have w14 : OkL (ZcT a0 a1 a2 a3) :=
                oB <| oK <| w2
               refine Zh (fun g14 => ?_) (fun g14 => ?_)
               ·
                refine Zh (fun g15 => ?_) (fun g15 => ?_)
                ·
                 refine Zh (fun g16 => ?_) (fun g16 => ?_)
                 ·
                  refine Zh (fun g17 => ?_) (fun g17 => ?_)
                  ·
                   have w18 : OkL (Zf1 a0 a1 a2 a3) :=
                    Zc (Zp ⟨by first | rfl | exact Ze6 (by omega), show _ ≤ 64 from by omega⟩) <| oY <| oY <| oY <| oY <| w14
                   refine Zh (fun g18 => ?_) (fun g18 => ?_)
                   ·
                    refine Zh (fun g19 => ?_) (fun g19 => ?_)
                    ·
                     exact Zaf (Zs [(0, false), (1, false), (5, true), (6, true), (12, true), (13, true), (21, true), (22, true)] [] [(0, 11)] [] [(4, .sh (a2).toNat)]) (((decide (a3 ≤ (IntKind.i64.wrap ((IntKind.i64.wrap ((1 : Int) * (2 ^ (a2).toNat : Int))) - (1 : Int))))), true) :: ((decide ((0 : Int) ≤ a3)), true) :: Zf1 a0 a1 a2 a3) (oY <| oY <| w18)
                    ·
                     exact Zf (Zs [(0, false), (1, false), (5, true), (6, true), (12, true), (13, true), (21, true), (22, false)] [] [(0, 11)] [] [(4, .sh (a2).toNat)]) (((decide (a3 ≤ (IntKind.i64.wrap ((IntKind.i64.wrap ((1 : Int) * (2 ^ (a2).toNat : Int))) - (1 : Int))))), false) :: ((decide ((0 : Int) ≤ a3)), true) :: Zf1 a0 a1 a2 a3) (oN <| oY <| w18)
                   ·
                    exact Zf (Zs [(0, false), (1, false), (5, true), (6, true), (12, true), (13, true), (21, false)] [] [(0, 11)] [] [(4, .sh (a2).toNat)]) (((decide ((0 : Int) ≤ a3)), false) :: Zf1 a0 a1 a2 a3) (oN <| w18)
                  ·
                   exact Zf (Zs [(0, false), (1, false), (5, true), (6, true), (12, true), (13, false)] [] [(0, 11)] [] []) (((decide (a2 ≤ (16 : Int))), false) :: ((decide ((1 : Int) ≤ a2)), true) :: ((decide (a1 ≤ (7 : Int))), true) :: ((decide ((0 : Int) ≤ a1)), true) :: ZcT a0 a1 a2 a3) (oN <| oY <| oY <| oY <| w14)
                 ·
                  exact Zf (Zs [(0, false), (1, false), (5, true), (6, true), (12, false)] [] [(0, 11)] [] []) (((decide ((1 : Int) ≤ a2)), false) :: ((decide (a1 ≤ (7 : Int))), true) :: ((decide ((0 : Int) ≤ a1)), true) :: ZcT a0 a1 a2 a3) (oN <| oY <| oY <| w14)
                ·
                 exact Zf (Zs [(0, false), (1, false), (5, true), (6, false)] [] [(0, 11)] [] []) (((decide (a1 ≤ (7 : Int))), false) :: ((decide ((0 : Int) ≤ a1)), true) :: ZcT a0 a1 a2 a3) (oN <| oY <| w14)
               ·
                exact Zf (Zs [(0, false), (1, false), (5, false)] [] [(0, 11)] [] []) (((decide ((0 : Int) ≤ a1)), false) :: ZcT a0 a1 a2 a3) (oN <| w14)
              ·
               refine Zh (fun g14 => ?_) (fun g14 => ?_)
               ·
                have w15 : OkL (Zb9 a0 a1 a2 a3) :=
                 oB <| oK <| w2
                refine Zh (fun g15 => ?_) (fun g15 => ?_)
                ·
                 refine Zh (fun g16 => ?_) (fun g16 => ?_)
                 ·
                  refine Zh (fun g17 => ?_) (fun g17 => ?_)
                  ·
                   refine Zh (fun g18 => ?_) (fun g18 => ?_)
                   ·
                    refine Zh (fun g19 => ?_) (fun g19 => ?_)
                    ·
                     refine Zh (fun g20 => ?_) (fun g20 => ?_)
                     ·
                      exact Zaf (Zs [(0, false), (1, false), (5, true), (6, true), (15, true), (16, true), (25, true), (26, true)] [] [(0, 12)] [] []) (((decide (a3 ≤ (0 : Int))), true) :: ((decide ((0 : Int) ≤ a3)), true) :: ((decide (a2 ≤ (0 : Int))), true) :: ((decide ((0 : Int) ≤ a2)), true) :: ((decide (a1 ≤ (7 : Int))), true) :: ((decide ((0 : Int) ≤ a1)), true) :: Zb9 a0 a1 a2 a3) (oY <| oY <| oY <| oY <| oY <| oY <| w15)
                     ·
                      exact Zf (Zs [(0, false), (1, false), (5, true), (6, true), (15, true), (16, true), (25, true), (26, false)] [] [(0, 12)] [] []) (((decide (a3 ≤ (0 : Int))), false) :: ((decide ((0 : Int) ≤ a3)), true) :: ((decide (a2 ≤ (0 : Int))), true) :: ((decide ((0 : Int) ≤ a2)), true) :: ((decide (a1 ≤ (7 : Int))), true) :: ((decide ((0 : Int) ≤ a1)), true) :: Zb9 a0 a1 a2 a3) (oN <| oY <| oY <| oY <| oY <| oY <| w15)
                    ·
                     exact Zf (Zs [(0, false), (1, false), (5, true), (6, true), (15, true), (16, true), (25, false)] [] [(0, 12)] [] []) (((decide ((0 : Int) ≤ a3)), false) :: ((decide (a2 ≤ (0 : Int))), true) :: ((decide ((0 : Int) ≤ a2)), true) :: ((decide (a1 ≤ (7 : Int))), true) :: ((decide ((0 : Int) ≤ a1)), true) :: Zb9 a0 a1 a2 a3) (oN <| oY <| oY <| oY <| oY <| w15)
                   ·
                    exact Zf (Zs [(0, false), (1, false), (5, true), (6, true), (15, true), (16, false)] [] [(0, 12)] [] []) (((decide (a2 ≤ (0 : Int))), false) :: ((decide ((0 : Int) ≤ a2)), true) :: ((decide (a1 ≤ (7 : Int))), true) :: ((decide ((0 : Int) ≤ a1)), true) :: Zb9 a0 a1 a2 a3) (oN <| oY <| oY <| oY <| w15)
                  ·
                   exact Zf (Zs [(0, false), (1, false), (5, true), (6, true), (15, false)] [] [(0, 12)] [] []) (((decide ((0 : Int) ≤ a2)), false) :: ((decide (a1 ≤ (7 : Int))), true) :: ((decide ((0 : Int) ≤ a1)), true) :: Zb9 a0 a1 a2 a3) (oN <| oY <| oY <| w15)
                 ·
                  exact Zf (Zs [(0, false), (1, false), (5, true), (6, false)] [] [(0, 12)] [] []) (((decide (a1 ≤ (7 : Int))), false) :: ((decide ((0 : Int) ≤ a1)), true) :: Zb9 a0 a1 a2 a3) (oN <| oY <| w15)
                ·
                 exact Zf (Zs [(0, false), (1, false), (5, false)] [] [(0, 12)] [] []) (((decide ((0 : Int) ≤ a1)), false) :: Zb9 a0 a1 a2 a3) (oN <| w15)
               ·
                refine Zh (fun g15 => ?_) (fun g15 => ?_)
                ·
                 have w16 : OkL (ZbA a0 a1 a2 a3) :=
                  oB <| oK <| w2
                 refine Zh (fun g16 => ?_) (fun g16 => ?_)
                 ·
                  refine Zh (fun g17 => ?_) (fun g17 => ?_)
                  ·
                   refine Zh (fun g18 => ?_) (fun g18 => ?_)
                   ·
                    refine Zh (fun g19 => ?_) (fun g19 => ?_)
                    ·
                     refine Zh (fun g20 => ?_) (fun g20 => ?_)
                     ·
                      refine Zh (fun g21 => ?_) (fun g21 => ?_)
                      ·
                       exact Zaf (Zs [(0, false), (1, false), (5, true), (6, true), (10, true), (11, true), (16, true), (17, true)] [] [(0, 13)] [] []) (((decide (a3 ≤ (15 : Int))), true) :: ((decide ((0 : Int) ≤ a3)), true) :: ((decide (a2 ≤ (7 : Int))), true) :: ((decide ((0 : Int) ≤ a2)), true) :: ((decide (a1 ≤ (7 : Int))), true) :: ((decide ((0 : Int) ≤ a1)), true) :: ZbA a0 a1 a2 a3) (oY <| oY <| oY <| oY <| oY <| oY <| w16)
                      ·
                       exact Zf (Zs [(0, false), (1, false), (5, true), (6, true), (10, true), (11, true), (16, true), (17, false)] [] [(0, 13)] [] []) (((decide (a3 ≤ (15 : Int))), false) :: ((decide ((0 : Int) ≤ a3)), true) :: ((decide (a2 ≤ (7 : Int))), true) :: ((decide ((0 : Int) ≤ a2)), true) :: ((decide (a1 ≤ (7 : Int))), true) :: ((decide ((0 : Int) ≤ a1)), true) :: ZbA a0 a1 a2 a3) (oN <| oY <| oY <| oY <| oY <| oY <| w16)
                     ·
                      exact Zf (Zs [(0, false), (1, false), (5, true), (6, true), (10, true), (11, true), (16, false)] [] [(0, 13)] [] []) (((decide ((0 : Int) ≤ a3)), false) :: ((decide (a2 ≤ (7 : Int))), true) :: ((decide ((0 : Int) ≤ a2)), true) :: ((decide (a1 ≤ (7 : Int))), true) :: ((decide ((0 : Int) ≤ a1)), true) :: ZbA a0 a1 a2 a3) (oN <| oY <| oY <| oY <| oY <| w16)
                    ·
                     exact Zf (Zs [(0, false), (1, false), (5, true), (6, true), (10, true), (11, false)] [] [(0, 13)] [] []) (((decide (a2 ≤ (7 : Int))), false) :: ((decide ((0 : Int) ≤ a2)), true) :: ((decide (a1 ≤ (7 : Int))), true) :: ((decide ((0 : Int) ≤ a1)), true) :: ZbA a0 a1 a2 a3) (oN <| oY <| oY <| oY <| w16)
                   ·
                    exact Zf (Zs [(0, false), (1, false), (5, true), (6, true), (10, false)] [] [(0, 13)] [] []) (((decide ((0 : Int) ≤ a2)), false) :: ((decide (a1 ≤ (7 : Int))), true) :: ((decide ((0 : Int) ≤ a1)), true) :: ZbA a0 a1 a2 a3) (oN <| oY <| oY <| w16)
                  ·
                   exact Zf (Zs [(0, false), (1, false), (5, true), (6, false)] [] [(0, 13)] [] []) (((decide (a1 ≤ (7 : Int))), false) :: ((decide ((0 : Int) ≤ a1)), true) :: ZbA a0 a1 a2 a3) (oN <| oY <| w16)
                 ·
                  exact Zf (Zs [(0, false), (1, false), (5, false)] [] [(0, 13)] [] []) (((decide ((0 : Int) ≤ a1)), false) :: ZbA a0 a1 a2 a3) (oN <| w16)
                ·
                 refine Zh (fun g16 => ?_) (fun g16 => ?_)
                 ·
                  have w17 : OkL (ZbB a0 a1 a2 a3) :=
                   oB <| oK <| w2
                  refine Zh (fun g17 => ?_) (fun g17 => ?_)
                  ·
                   refine Zh (fun g18 => ?_) (fun g18 => ?_)
                   ·
                    refine Zh (fun g19 => ?_) (fun g19 => ?_)
                    ·
                     refine Zh (fun g20 => ?_) (fun g20 => ?_)
                     ·
                      refine Zh (fun g21 => ?_) (fun g21 => ?_)
                      ·
                       refine Zh (fun g22 => ?_) (fun g22 => ?_)
                       ·
                        exact Zaf (Zs [(0, false), (1, false), (5, true), (6, true), (11, true), (12, true), (16, true), (17, true)] [] [(0, 14)] [] []) (((decide (a3 ≤ (7 : Int))), true) :: ((decide ((0 : Int) ≤ a3)), true) :: ((decide (a2 ≤ (15 : Int))), true) :: ((decide ((0 : Int) ≤ a2)), true) :: ((decide (a1 ≤ (7 : Int))), true) :: ((decide ((0 : Int) ≤ a1)), true) :: ZbB a0 a1 a2 a3) (oY <| oY <| oY <| oY <| oY <| oY <| w17)
                       ·
                        exact Zf (Zs [(0, false), (1, false), (5, true), (6, true), (11, true), (12, true), (16, true), (17, false)] [] [(0, 14)] [] []) (((decide (a3 ≤ (7 : Int))), false) :: ((decide ((0 : Int) ≤ a3)), true) :: ((decide (a2 ≤ (15 : Int))), true) :: ((decide ((0 : Int) ≤ a2)), true) :: ((decide (a1 ≤ (7 : Int))), true) :: ((decide ((0 : Int) ≤ a1)), true) :: ZbB a0 a1 a2 a3) (oN <| oY <| oY <| oY <| oY <| oY <| w17)
                      ·
                       exact Zf (Zs [(0, false), (1, false), (5, true), (6, true), (11, true), (12, true), (16, false)] [] [(0, 14)] [] []) (((decide ((0 : Int) ≤ a3)), false) :: ((decide (a2 ≤ (15 : Int))), true) :: ((decide ((0 : Int) ≤ a2)), true) :: ((decide (a1 ≤ (7 : Int))), true) :: ((decide ((0 : Int) ≤ a1)), true) :: ZbB a0 a1 a2 a3) (oN <| oY <| oY <| oY <| oY <| w17)
                     ·
                      exact Zf (Zs [(0, false), (1, false), (5, true), (6, true), (11, true), (12, false)] [] [(0, 14)] [] []) (((decide (a2 ≤ (15 : Int))), false) :: ((decide ((0 : Int) ≤ a2)), true) :: ((decide (a1 ≤ (7 : Int))), true) :: ((decide ((0 : Int) ≤ a1)), true) :: ZbB a0 a1 a2 a3) (oN <| oY <| oY <| oY <| w17)
                    ·
                     exact Zf (Zs [(0, false), (1, false), (5, true), (6, true), (11, false)] [] [(0, 14)] [] []) (((decide ((0 : Int) ≤ a2)), false) :: ((decide (a1 ≤ (7 : Int))), true) :: ((decide ((0 : Int) ≤ a1)), true) :: ZbB a0 a1 a2 a3) (oN <| oY <| oY <| w17)
                   ·
                    exact Zf (Zs [(0, false), (1, false), (5, true), (6, false)] [] [(0, 14)] [] []) (((decide (a1 ≤ (7 : Int))), false) :: ((decide ((0 : Int) ≤ a1)), true) :: ZbB a0 a1 a2 a3) (oN <| oY <| w17)
                  ·
                   exact Zf (Zs [(0, false), (1, false), (5, false)] [] [(0, 14)] [] []) (((decide ((0 : Int) ≤ a1)), false) :: ZbB a0 a1 a2 a3) (oN <| w17)
                 ·
                  refine Zh (fun g17 => ?_) (fun g17 => ?_)
                  ·
                   have w18 : OkL (ZbC a0 a1 a2 a3) :=
                    oB <| oK <| w2
                   refine Zh (fun g18 => ?_) (fun g18 => ?_)
                   ·
                    refine Zh (fun g19 => ?_) (fun g19 => ?_)
                    ·
                     refine Zh (fun g20 => ?_) (fun g20 => ?_)
                     ·
                      refine Zh (fun g21 => ?_) (fun g21 => ?_)
                      ·
                       refine Zh (fun g22 => ?_) (fun g22 => ?_)
                       ·
                        refine Zh (fun g23 => ?_) (fun g23 => ?_)
                        ·
                         exact Zaf (Zs [(0, false), (1, false), (10, true), (11, true), (20, true), (21, true), (30, true), (31, true)] [] [(0, 15)] [] []) (((decide (a3 ≤ (0 : Int))), true) :: ((decide ((0 : Int) ≤ a3)), true) :: ((decide (a2 ≤ (0 : Int))), true) :: ((decide ((0 : Int) ≤ a2)), true) :: ((decide (a1 ≤ (0 : Int))), true) :: ((decide ((0 : Int) ≤ a1)), true) :: ZbC a0 a1 a2 a3) (oY <| oY <| oY <| oY <| oY <| oY <| w18)
                        ·
                         exact Zf (Zs [(0, false), (1, false), (10, true), (11, true), (20, true), (21, true), (30, true), (31, false)] [] [(0, 15)] [] []) (((decide (a3 ≤ (0 : Int))), false) :: ((decide ((0 : Int) ≤ a3)), true) :: ((decide (a2 ≤ (0 : Int))), true) :: ((decide ((0 : Int) ≤ a2)), true) :: ((decide (a1 ≤ (0 : Int))), true) :: ((decide ((0 : Int) ≤ a1)), true) :: ZbC a0 a1 a2 a3) (oN <| oY <| oY <| oY <| oY <| oY <| w18)
                       ·
                        exact Zf (Zs [(0, false), (1, false), (10, true), (11, true), (20, true), (21, true), (30, false)] [] [(0, 15)] [] []) (((decide ((0 : Int) ≤ a3)), false) :: ((decide (a2 ≤ (0 : Int))), true) :: ((decide ((0 : Int) ≤ a2)), true) :: ((decide (a1 ≤ (0 : Int))), true) :: ((decide ((0 : Int) ≤ a1)), true) :: ZbC a0 a1 a2 a3) (oN <| oY <| oY <| oY <| oY <| w18)
                      ·
                       exact Zf (Zs [(0, false), (1, false), (10, true), (11, true), (20, true), (21, false)] [] [(0, 15)] [] []) (((decide (a2 ≤ (0 : Int))), false) :: ((decide ((0 : Int) ≤ a2)), true) :: ((decide (a1 ≤ (0 : Int))), true) :: ((decide ((0 : Int) ≤ a1)), true) :: ZbC a0 a1 a2 a3) (oN <| oY <| oY <| oY <| w18)
                     ·
                      exact Zf (Zs [(0, false), (1, false), (10, true), (11, true), (20, false)] [] [(0, 15)] [] []) (((decide ((0 : Int) ≤ a2)), false) :: ((decide (a1 ≤ (0 : Int))), true) :: ((decide ((0 : Int) ≤ a1)), true) :: ZbC a0 a1 a2 a3) (oN <| oY <| oY <| w18)
                    ·
                     exact Zf (Zs [(0, false), (1, false), (10, true), (11, false)] [] [(0, 15)] [] []) (((decide (a1 ≤ (0 : Int))), false) :: ((decide ((0 : Int) ≤ a1)), true) :: ZbC a0 a1 a2 a3) (oN <| oY <| w18)
                   ·
                    exact Zf (Zs [(0, false), (1, false), (10, false)] [] [(0, 15)] [] []) (((decide ((0 : Int) ≤ a1)), false) :: ZbC a0 a1 a2 a3) (oN <| w18)
                  ·
                   refine Zh (fun g18 => ?_) (fun g18 => ?_)
                   ·
                    have w19 : OkL (ZbD a0 a1 a2 a3) :=
                     oB <| oK <| w2
                    refine Zh (fun g19 => ?_) (fun g19 => ?_)
                    ·
                     refine Zh (fun g20 => ?_) (fun g20 => ?_)
                     ·
                      refine Zh (fun g21 => ?_) (fun g21 => ?_)
                      ·
                       refine Zh (fun g22 => ?_) (fun g22 => ?_)
                       ·
                        refine Zh (fun g23 => ?_) (fun g23 => ?_)
                        ·
                         refine Zh (fun g24 => ?_) (fun g24 => ?_)
                         ·
                          exact Zaf (Zs [(0, false), (1, false), (10, true), (11, true), (20, true), (21, true), (30, true), (31, true)] [] [(0, 16)] [] []) (((decide (a3 ≤ (0 : Int))), true) :: ((decide ((0 : Int) ≤ a3)), true) :: ((decide (a2 ≤ (0 : Int))), true) :: ((decide ((0 : Int) ≤ a2)), true) :: ((decide (a1 ≤ (0 : Int))), true) :: ((decide ((0 : Int) ≤ a1)), true) :: ZbD a0 a1 a2 a3) (oY <| oY <| oY <| oY <| oY <| oY <| w19)
                         ·
                          exact Zf (Zs [(0, false), (1, false), (10, true), (11, true), (20, true), (21, true), (30, true), (31, false)] [] [(0, 16)] [] []) (((decide (a3 ≤ (0 : Int))), false) :: ((decide ((0 : Int) ≤ a3)), true) :: ((decide (a2 ≤ (0 : Int))), true) :: ((decide ((0 : Int) ≤ a2)), true) :: ((decide (a1 ≤ (0 : Int))), true) :: ((decide ((0 : Int) ≤ a1)), true) :: ZbD a0 a1 a2 a3) (oN <| oY <| oY <| oY <| oY <| oY <| w19)
                        ·
                         exact Zf (Zs [(0, false), (1, false), (10, true), (11, true), (20, true), (21, true), (30, false)] [] [(0, 16)] [] []) (((decide ((0 : Int) ≤ a3)), false) :: ((decide (a2 ≤ (0 : Int))), true) :: ((decide ((0 : Int) ≤ a2)), true) :: ((decide (a1 ≤ (0 : Int))), true) :: ((decide ((0 : Int) ≤ a1)), true) :: ZbD a0 a1 a2 a3) (oN <| oY <| oY <| oY <| oY <| w19)
                       ·
                        exact Zf (Zs [(0, false), (1, false), (10, true), (11, true), (20, true), (21, false)] [] [(0, 16)] [] []) (((decide (a2 ≤ (0 : Int))), false) :: ((decide ((0 : Int) ≤ a2)), true) :: ((decide (a1 ≤ (0 : Int))), true) :: ((decide ((0 : Int) ≤ a1)), true) :: ZbD a0 a1 a2 a3) (oN <| oY <| oY <| oY <| w19)
                      ·
                       exact Zf (Zs [(0, false), (1, false), (10, true), (11, true), (20, false)] [] [(0, 16)] [] []) (((decide ((0 : Int) ≤ a2)), false) :: ((decide (a1 ≤ (0 : Int))), true) :: ((decide ((0 : Int) ≤ a1)), true) :: ZbD a0 a1 a2 a3) (oN <| oY <| oY <| w19)
                     ·
                      exact Zf (Zs [(0, false), (1, false), (10, true), (11, false)] [] [(0, 16)] [] []) (((decide (a1 ≤ (0 : Int))), false) :: ((decide ((0 : Int) ≤ a1)), true) :: ZbD a0 a1 a2 a3) (oN <| oY <| w19)
                    ·
                     exact Zf (Zs [(0, false), (1, false), (10, false)] [] [(0, 16)] [] []) (((decide ((0 : Int) ≤ a1)), false) :: ZbD a0 a1 a2 a3) (oN <| w19)
                   ·
                    refine Zh (fun g19 => ?_) (fun g19 => ?_)
                    ·
                     have w20 : OkL (ZbE a0 a1 a2 a3) :=
                      oB <| oK <| w2
                     refine Zh (fun g20 => ?_) (fun g20 => ?_)
                     ·
                      refine Zh (fun g21 => ?_) (fun g21 => ?_)
                      ·
                       refine Zh (fun g22 => ?_) (fun g22 => ?_)
                       ·
                        refine Zh (fun g23 => ?_) (fun g23 => ?_)
                        ·
                         refine Zh (fun g24 => ?_) (fun g24 => ?_)
                         ·
                          refine Zh (fun g25 => ?_) (fun g25 => ?_)
                          ·
                           exact Zaf (Zs [(0, false), (1, false), (10, true), (11, true), (20, true), (21, true), (30, true), (31, true)] [] [(0, 17)] [] []) (((decide (a3 ≤ (0 : Int))), true) :: ((decide ((0 : Int) ≤ a3)), true) :: ((decide (a2 ≤ (0 : Int))), true) :: ((decide ((0 : Int) ≤ a2)), true) :: ((decide (a1 ≤ (0 : Int))), true) :: ((decide ((0 : Int) ≤ a1)), true) :: ZbE a0 a1 a2 a3) (oY <| oY <| oY <| oY <| oY <| oY <| w20)
                          ·
                           exact Zf (Zs [(0, false), (1, false), (10, true), (11, true), (20, true), (21, true), (30, true), (31, false)] [] [(0, 17)] [] []) (((decide (a3 ≤ (0 : Int))), false) :: ((decide ((0 : Int) ≤ a3)), true) :: ((decide (a2 ≤ (0 : Int))), true) :: ((decide ((0 : Int) ≤ a2)), true) :: ((decide (a1 ≤ (0 : Int))), true) :: ((decide ((0 : Int) ≤ a1)), true) :: ZbE a0 a1 a2 a3) (oN <| oY <| oY <| oY <| oY <| oY <| w20)
                         ·
                          exact Zf (Zs [(0, false), (1, false), (10, true), (11, true), (20, true), (21, true), (30, false)] [] [(0, 17)] [] []) (((decide ((0 : Int) ≤ a3)), false) :: ((decide (a2 ≤ (0 : Int))), true) :: ((decide ((0 : Int) ≤ a2)), true) :: ((decide (a1 ≤ (0 : Int))), true) :: ((decide ((0 : Int) ≤ a1)), true) :: ZbE a0 a1 a2 a3) (oN <| oY <| oY <| oY <| oY <| w20)
                        ·
                         exact Zf (Zs [(0, false), (1, false), (10, true), (11, true), (20, true), (21, false)] [] [(0, 17)] [] []) (((decide (a2 ≤ (0 : Int))), false) :: ((decide ((0 : Int) ≤ a2)), true) :: ((decide (a1 ≤ (0 : Int))), true) :: ((decide ((0 : Int) ≤ a1)), true) :: ZbE a0 a1 a2 a3) (oN <| oY <| oY <| oY <| w20)
                       ·
                        exact Zf (Zs [(0, false), (1, false), (10, true), (11, true), (20, false)] [] [(0, 17)] [] []) (((decide ((0 : Int) ≤ a2)), false) :: ((decide (a1 ≤ (0 : Int))), true) :: ((decide ((0 : Int) ≤ a1)), true) :: ZbE a0 a1 a2 a3) (oN <| oY <| oY <| w20)
                      ·
                       exact Zf (Zs [(0, false), (1, false), (10, true), (11, false)] [] [(0, 17)] [] []) (((decide (a1 ≤ (0 : Int))), false) :: ((decide ((0 : Int) ≤ a1)), true) :: ZbE a0 a1 a2 a3) (oN <| oY <| w20)
                     ·
                      exact Zf (Zs [(0, false), (1, false), (10, false)] [] [(0, 17)] [] []) (((decide ((0 : Int) ≤ a1)), false) :: ZbE a0 a1 a2 a3) (oN <| w20)
                    ·
                     refine Zh (fun g20 => ?_) (fun g20 => ?_)
                     ·
                      have w21 : OkL (ZbF a0 a1 a2 a3) :=
                       oB <| oK <| w2
                      refine Zh (fun g21 => ?_) (fun g21 => ?_)
                      ·
                       refine Zh (fun g22 => ?_) (fun g22 => ?_)
                       ·
                        refine Zh (fun g23 => ?_) (fun g23 => ?_)
                        ·
                         refine Zh (fun g24 => ?_) (fun g24 => ?_)
                         ·
                          refine Zh (fun g25 => ?_) (fun g25 => ?_)
                          ·
                           refine Zh (fun g26 => ?_) (fun g26 => ?_)
                           ·
                            exact Zaf (Zs [(0, false), (1, false), (10, true), (11, true), (20, true), (21, true), (30, true), (31, true)] [] [(0, 18)] [] []) (((decide (a3 ≤ (0 : Int))), true) :: ((decide ((0 : Int) ≤ a3)), true) :: ((decide (a2 ≤ (0 : Int))), true) :: ((decide ((0 : Int) ≤ a2)), true) :: ((decide (a1 ≤ (0 : Int))), true) :: ((decide ((0 : Int) ≤ a1)), true) :: ZbF a0 a1 a2 a3) (oY <| oY <| oY <| oY <| oY <| oY <| w21)
                           ·
                            exact Zf (Zs [(0, false), (1, false), (10, true), (11, true), (20, true), (21, true), (30, true), (31, false)] [] [(0, 18)] [] []) (((decide (a3 ≤ (0 : Int))), false) :: ((decide ((0 : Int) ≤ a3)), true) :: ((decide (a2 ≤ (0 : Int))), true) :: ((decide ((0 : Int) ≤ a2)), true) :: ((decide (a1 ≤ (0 : Int))), true) :: ((decide ((0 : Int) ≤ a1)), true) :: ZbF a0 a1 a2 a3) (oN <| oY <| oY <| oY <| oY <| oY <| w21)
                          ·
                           exact Zf (Zs [(0, false), (1, false), (10, true), (11, true), (20, true), (21, true), (30, false)] [] [(0, 18)] [] []) (((decide ((0 : Int) ≤ a3)), false) :: ((decide (a2 ≤ (0 : Int))), true) :: ((decide ((0 : Int) ≤ a2)), true) :: ((decide (a1 ≤ (0 : Int))), true) :: ((decide ((0 : Int) ≤ a1)), true) :: ZbF a0 a1 a2 a3) (oN <| oY <| oY <| oY <| oY <| w21)
                         ·
                          exact Zf (Zs [(0, false), (1, false), (10, true), (11, true), (20, true), (21, false)] [] [(0, 18)] [] []) (((decide (a2 ≤ (0 : Int))), false) :: ((decide ((0 : Int) ≤ a2)), true) :: ((decide (a1 ≤ (0 : Int))), true) :: ((decide ((0 : Int) ≤ a1)), true) :: ZbF a0 a1 a2 a3) (oN <| oY <| oY <| oY <| w21)
                        ·
                         exact Zf (Zs [(0, false), (1, false), (10, true), (11, true), (20, false)] [] [(0, 18)] [] []) (((decide ((0 : Int) ≤ a2)), false) :: ((decide (a1 ≤ (0 : Int))), true) :: ((decide ((0 : Int) ≤ a1)), true) :: ZbF a0 a1 a2 a3) (oN <| oY <| oY <| w21)
                       ·
                        exact Zf (Zs [(0, false), (1, false), (10, true), (11, false)] [] [(0, 18)] [] []) (((decide (a1 ≤ (0 : Int))), false) :: ((decide ((0 : Int) ≤ a1)), true) :: ZbF a0 a1 a2 a3) (oN <| oY <| w21)
                      ·
                       exact Zf (Zs [(0, false), (1, false), (10, false)] [] [(0, 18)] [] []) (((decide ((0 : Int) ≤ a1)), false) :: ZbF a0 a1 a2 a3) (oN <| w21)
                     ·
                      refine Zh (fun g21 => ?_) (fun g21 => ?_)
                      ·
                       have w22 : OkL (ZbG a0 a1 a2 a3) :=
                        oB <| oK <| w2
                       refine Zh (fun g22 => ?_) (fun g22 => ?_)
                       ·
                        refine Zh (fun g23 => ?_) (fun g23 => ?_)
                        ·
                         refine Zh (fun g24 => ?_) (fun g24 => ?_)
                         ·
                          refine Zh (fun g25 => ?_) (fun g25 => ?_)
                          ·
                           refine Zh (fun g26 => ?_) (fun g26 => ?_)
                           ·
                            refine Zh (fun g27 => ?_) (fun g27 => ?_)
                            ·
                             exact Zaf (Zs [(0, false), (1, false), (5, true), (6, true), (15, true), (16, true), (25, true), (26, true)] [] [(0, 19)] [] []) (((decide (a3 ≤ (0 : Int))), true) :: ((decide ((0 : Int) ≤ a3)), true) :: ((decide (a2 ≤ (0 : Int))), true) :: ((decide ((0 : Int) ≤ a2)), true) :: ((decide (a1 ≤ (7 : Int))), true) :: ((decide ((0 : Int) ≤ a1)), true) :: ZbG a0 a1 a2 a3) (oY <| oY <| oY <| oY <| oY <| oY <| w22)
                            ·
                             exact Zf (Zs [(0, false), (1, false), (5, true), (6, true), (15, true), (16, true), (25, true), (26, false)] [] [(0, 19)] [] []) (((decide (a3 ≤ (0 : Int))), false) :: ((decide ((0 : Int) ≤ a3)), true) :: ((decide (a2 ≤ (0 : Int))), true) :: ((decide ((0 : Int) ≤ a2)), true) :: ((decide (a1 ≤ (7 : Int))), true) :: ((decide ((0 : Int) ≤ a1)), true) :: ZbG a0 a1 a2 a3) (oN <| oY <| oY <| oY <| oY <| oY <| w22)
                           ·
                            exact Zf (Zs [(0, false), (1, false), (5, true), (6, true), (15, true), (16, true), (25, false)] [] [(0, 19)] [] []) (((decide ((0 : Int) ≤ a3)), false) :: ((decide (a2 ≤ (0 : Int))), true) :: ((decide ((0 : Int) ≤ a2)), true) :: ((decide (a1 ≤ (7 : Int))), true) :: ((decide ((0 : Int) ≤ a1)), true) :: ZbG a0 a1 a2 a3) (oN <| oY <| oY <| oY <| oY <| w22)
                          ·
                           exact Zf (Zs [(0, false), (1, false), (5, true), (6, true), (15, true), (16, false)] [] [(0, 19)] [] []) (((decide (a2 ≤ (0 : Int))), false) :: ((decide ((0 : Int) ≤ a2)), true) :: ((decide (a1 ≤ (7 : Int))), true) :: ((decide ((0 : Int) ≤ a1)), true) :: ZbG a0 a1 a2 a3) (oN <| oY <| oY <| oY <| w22)
                         ·
                          exact Zf (Zs [(0, false), (1, false), (5, true), (6, true), (15, false)] [] [(0, 19)] [] []) (((decide ((0 : Int) ≤ a2)), false) :: ((decide (a1 ≤ (7 : Int))), true) :: ((decide ((0 : Int) ≤ a1)), true) :: ZbG a0 a1 a2 a3) (oN <| oY <| oY <| w22)
                        ·
                         exact Zf (Zs [(0, false), (1, false), (5, true), (6, false)] [] [(0, 19)] [] []) (((decide (a1 ≤ (7 : Int))), false) :: ((decide ((0 : Int) ≤ a1)), true) :: ZbG a0 a1 a2 a3) (oN <| oY <| w22)
                       ·
                        exact Zf (Zs [(0, false), (1, false), (5, false)] [] [(0, 19)] [] []) (((decide ((0 : Int) ≤ a1)), false) :: ZbG a0 a1 a2 a3) (oN <| w22)
                      ·
                       have w22 : OkL (ZbH a0 a1 a2 a3) :=
                        oB <| oK <| w2
                       refine Zh (fun g22 => ?_) (fun g22 => ?_)
                       ·
                        refine Zh (fun g23 => ?_) (fun g23 => ?_)
                        ·
                         refine Zh (fun g24 => ?_) (fun g24 => ?_)
                         ·
                          refine Zh (fun g25 => ?_) (fun g25 => ?_)
                          ·
                           refine Zh (fun g26 => ?_) (fun g26 => ?_)
                           ·
                            refine Zh (fun g27 => ?_) (fun g27 => ?_)
                            ·
                             exact Zaf (Zs [(0, false), (1, false), (10, true), (11, true), (20, true), (21, true), (30, true), (31, true)] [] [(0, 20)] [] []) (((decide (a3 ≤ (0 : Int))), true) :: ((decide ((0 : Int) ≤ a3)), true) :: ((decide (a2 ≤ (0 : Int))), true) :: ((decide ((0 : Int) ≤ a2)), true) :: ((decide (a1 ≤ (0 : Int))), true) :: ((decide ((0 : Int) ≤ a1)), true) :: ZbH a0 a1 a2 a3) (oY <| oY <| oY <| oY <| oY <| oY <| w22)
                            ·
                             exact Zf (Zs [(0, false), (1, false), (10, true), (11, true), (20, true), (21, true), (30, true), (31, false)] [] [(0, 20)] [] []) (((decide (a3 ≤ (0 : Int))), false) :: ((decide ((0 : Int) ≤ a3)), true) :: ((decide (a2 ≤ (0 : Int))), true) :: ((decide ((0 : Int) ≤ a2)), true) :: ((decide (a1 ≤ (0 : Int))), true) :: ((decide ((0 : Int) ≤ a1)), true) :: ZbH a0 a1 a2 a3) (oN <| oY <| oY <| oY <| oY <| oY <| w22)
                           ·
                            exact Zf (Zs [(0, false), (1, false), (10, true), (11, true), (20, true), (21, true), (30, false)] [] [(0, 20)] [] []) (((decide ((0 : Int) ≤ a3)), false) :: ((decide (a2 ≤ (0 : Int))), true) :: ((decide ((0 : Int) ≤ a2)), true) :: ((decide (a1 ≤ (0 : Int))), true) :: ((decide ((0 : Int) ≤ a1)), true) :: ZbH a0 a1 a2 a3) (oN <| oY <| oY <| oY <| oY <| w22)
                          ·
                           exact Zf (Zs [(0, false), (1, false), (10, true), (11, true), (20, true), (21, false)] [] [(0, 20)] [] []) (((decide (a2 ≤ (0 : Int))), false) :: ((decide ((0 : Int) ≤ a2)), true) :: ((decide (a1 ≤ (0 : Int))), true) :: ((decide ((0 : Int) ≤ a1)), true) :: ZbH a0 a1 a2 a3) (oN <| oY <| oY <| oY <| w22)
                         ·
                          exact Zf (Zs [(0, false), (1, false), (10, true), (11, true), (20, false)] [] [(0, 20)] [] []) (((decide ((0 : Int) ≤ a2)), false) :: ((decide (a1 ≤ (0 : Int))), true) :: ((decide ((0 : Int) ≤ a1)), true) :: ZbH a0 a1 a2 a3) (oN <| oY <| oY <| w22)
                        ·
                         exact Zf (Zs [(0, false), (1, false), (10, true), (11, false)] [] [(0, 20)] [] []) (((decide (a1 ≤ (0 : Int))), false) :: ((decide ((0 : Int) ≤ a1)), true) :: ZbH a0 a1 a2 a3) (oN <| oY <| w22)
                       ·
                        exact Zf (Zs [(0, false), (1, false), (10, false)] [] [(0, 20)] [] []) (((decide ((0 : Int) ≤ a1)), false) :: ZbH a0 a1 a2 a3) (oN <| w22)

end Ev
end Go.Proofs.YtlbbiflodemagaaDoor
/- Calls do what the plain functions say. -/
namespace Go.Proofs.YtlbbiflodemagaaDoor
open Go.RowKit
namespace Ev
set_option linter.unusedVariables false
set_option maxRecDepth 100000
theorem Zoe (a0 a1 a2 a3 : Int) (N : Nat) (r : ZaO) (h : Zas a0 a1 a2 a3 N = some r) : LSpec Tryd.prog 14 #[Value.agg #[vi a0, vi a1, vi a2, vi a3]] [] (Zhy a0 a1 a2 a3 r) (ZgC a0 a1 a2 a3 r) :=
 ZpW a0 a1 a2 a3 N r h

noncomputable def Zag (a0 a1 a2 a3 w0 : Int) (n : Nat) : Za8 := .call [] (vi w0) [] 0
def Zbi (A : Array Value) (a0 a1 a2 a3 w0 : Int) (n : Nat) : Prop := ZB Tryd.prog 14 A [] (vi w0) [] n 0

theorem Zbz (A : Array Value) (a0 a1 a2 a3 w0 : Int) (N : Nat) (h : Zas a0 a1 a2 a3 N = some (.r0 w0)) (n : Nat) (hA : A = #[Value.agg #[vi a0, vi a1, vi a2, vi a3]]) (hnd : ([] : List Nat).Nodup) (hlt : ∀ k ∈ ([] : List Nat), k < n) : Zbi A a0 a1 a2 a3 w0  n :=
 Zaj hA (LSpec.callL (show LSpec Tryd.prog 14 #[Value.agg #[vi a0, vi a1, vi a2, vi a3]] [] (vi w0) [] from Zoe a0 a1 a2 a3 N _ h) [] n [] rfl hnd hlt (show 0 ≤ 0 from by decide) (show ∀ j ∈ ([] : List Nat), j < 0 from by decide) (by rfl) trivial (by rfl) trivial trivial rfl rfl rfl rfl rfl)

noncomputable def Zkf (L0 : List Int) (a1 : Int) (L2 : List RA) (L3 : List Int) (L4 : List R_is) (L5 : List (List Int)) (L6 : List R_si) : Z0 → Value
 | .r0 w0 => Value.iface 88 (Value.agg #[vi w0])
 | .r1 w6 => vtt
 | .r2 w0 w6 w7 w8 => vtt
noncomputable def ZjF (L0 : List Int) (a1 : Int) (L2 : List RA) (L3 : List Int) (L4 : List R_is) (L5 : List (List Int)) (L6 : List R_si) : Z0 → List (Option AObj)
 | .r0 w0 => [none, none, none, none, none, none]
 | .r1 w6 => [some (.cells [Value.string (Za L0), vi w6, vs 1 0 L2.length L2.length, vs 2 0 L3.length L3.length, vs 3 0 L4.length L4.length, vs 4 0 L5.length L5.length, Value.map (some 5)] 57), some (.cells (Zb Zd L2) 24 true), some (.cells (Zb eI L3) 3 true), some (.cells (Zb Zt L4) 122 true), some (.cells (Zb Zr L5) 9 true), some (.ro (Zk L6) true)]
 | .r2 w0 w6 w7 w8 => [some (.cells [Value.string (Za L0), vi w6, vs 1 0 w0.length w0.length, vs 2 0 L3.length L3.length, vs 3 (w7 * 2) w8 w8, vs 4 0 L5.length L5.length, Value.map (some 5)] 57), some (.cells (Zb Zd w0) 24 true), some (.cells (Zb eI L3) 3 true), some (.cells (Zb Zt L4) 122 true), some (.cells (Zb Zr L5) 9 true), some (.ro (Zk L6) true)]

def Zof : asm_reader_aimX → Nat
 | .h1m0 v6 v8 => 1
 | .h1m1 v0 v6 v8 v9 v10 => 1
noncomputable def Zpg (L0 : List Int) (a1 : Int) (L2 : List RA) (L3 : List Int) (L4 : List R_is) (L5 : List (List Int)) (L6 : List R_si) : asm_reader_aimX → List (Nat × Value)
 | .h1m0 v6 v8 => [(0, vp 0 0), (9, vs 1 0 L2.length L2.length), (10, vi (L2.length : Int)), (11, vi (v6 : Int))]
 | .h1m1 v0 v6 v8 v9 v10 => [(0, vp 0 0), (9, vs 1 0 v0.length v0.length), (10, vi (L2.length : Int)), (11, vi (v6 : Int))]
noncomputable def Zph (L0 : List Int) (a1 : Int) (L2 : List RA) (L3 : List Int) (L4 : List R_is) (L5 : List (List Int)) (L6 : List R_si) : asm_reader_aimX → List (Option AObj)
 | .h1m0 v6 v8 => [some (.cells [Value.string (Za L0), vi v8, vs 1 0 L2.length L2.length, vs 2 0 L3.length L3.length, vs 3 0 L4.length L4.length, vs 4 0 L5.length L5.length, Value.map (some 5)] 57), some (.cells (Zb Zd L2) 24 true), some (.cells (Zb eI L3) 3 true), some (.cells (Zb Zt L4) 122 true), some (.cells (Zb Zr L5) 9 true), some (.ro (Zk L6) true)]
 | .h1m1 v0 v6 v8 v9 v10 => [some (.cells [Value.string (Za L0), vi v8, vs 1 0 v0.length v0.length, vs 2 0 L3.length L3.length, vs 3 (v9 * 2) v10 v10, vs 4 0 L5.length L5.length, Value.map (some 5)] 57), some (.cells (Zb Zd v0) 24 true), some (.cells (Zb eI L3) 3 true), some (.cells (Zb Zt L4) 122 true), some (.cells (Zb Zr L5) 9 true), some (.ro (Zk L6) true)]

noncomputable def Zcu : Nat → Code × List ZaS
 | 1 => Zdt [1, 3] (ZeZ Tryd.f52) []
 | _ => (.skip, [])
def ZjG : Nat → Bool
 | 1 => true
 | _ => true
noncomputable def Zbb (i : Nat) : List ZaS := match ZjG i with | true => .rnd i :: (Zcu i).2 | false => (Zcu i).2

noncomputable def Z7 (L0 : List Int) (a1 : Int) (L2 : List RA) (L3 : List Int) (L4 : List R_is) (L5 : List (List Int)) (L6 : List R_si) (N : Nat) : Mach := ⟨Tryd.f52, [.cells [Value.string (Za L0), vi a1, vs 1 0 L2.length L2.length, vs 2 0 L3.length L3.length, vs 3 0 L4.length L4.length, vs 4 0 L5.length L5.length, Value.map (some 5)] 57, .cells (Zb Zd L2) 24 true, .cells (Zb eI L3) 3 true, .cells (Zb Zt L4) 122 true, .cells (Zb Zr L5) 9 true, .ro (Zk L6) true], asm_reader_aimX, Z0, Zbd L0 a1 L2 L3 L4 L5 L6 N, Zof, Zcu, ZjG, Zpg L0 a1 L2 L3 L4 L5 L6, Zph L0 a1 L2 L3 L4 L5 L6, Zkf L0 a1 L2 L3 L4 L5 L6, ZjF L0 a1 L2 L3 L4 L5 L6⟩

noncomputable def ZiF (L0 : List Int) (a1 : Int) (L2 : List RA) (L3 : List Int) (L4 : List R_is) (L5 : List (List Int)) (L6 : List R_si) (v6 : Nat) (v8 : Int) : List (Bool × Bool) := (Za4 (Z8 4 (List.drop (0 + (v6 * 4)) (Zb Zd L2))) (aic L2 v6), true) :: (Nat.blt v6 L2.length, true) :: ((v6 : Int) == Int.ofNat v6, true) :: ((decide ((v6 : Int) < (L2.length : Int))), true) :: []

noncomputable def Zgq (L0 : List Int) (a1 : Int) (L2 : List RA) (L3 : List Int) (L4 : List R_is) (L5 : List (List Int)) (L6 : List R_si) (v6 : Nat) (v8 : Int) : List (Bool × Bool) := (Za4 (Z8 1 (List.drop (0 + (v6 * 1)) (Zb eI L3))) [.i (L3.getD v6 0)], true) :: (Nat.blt v6 L3.length, true) :: ((v6 : Int) == Int.ofNat v6, true) :: ZiF L0 a1 L2 L3 L4 L5 L6 v6 v8

noncomputable def Zgr (L0 : List Int) (a1 : Int) (L2 : List RA) (L3 : List Int) (L4 : List R_is) (L5 : List (List Int)) (L6 : List R_si) (v6 : Nat) (v8 : Int) : List (Bool × Bool) := (Za4 (Z8 1 (List.drop ((0 + (0 * 2)) + 0) (Zb Zt L4))) [.i (aj L4 0).a0], true) :: (Nat.blt 0 L4.length, true) :: ((0 : Int) == Int.ofNat 0, true) :: ((decide ((L4.length : Int) > (0 : Int))), true) :: Zgq L0 a1 L2 L3 L4 L5 L6 v6 v8

noncomputable def Zgs (L0 : List Int) (a1 : Int) (L2 : List RA) (L3 : List Int) (L4 : List R_is) (L5 : List (List Int)) (L6 : List R_si) (v6 : Nat) (v8 : Int) : List (Bool × Bool) := (Za4 (Z8 1 (List.drop ((0 + (0 * 2)) + 1) (Zb Zt L4))) [.s (Za (aj L4 0).a1)], true) :: (Nat.blt 0 L4.length, true) :: ((0 : Int) == Int.ofNat 0, true) :: (((aj L4 0).a0 == (v6 : Int)), true) :: Zgr L0 a1 L2 L3 L4 L5 L6 v6 v8

noncomputable def Zeu (L0 : List Int) (a1 : Int) (L2 : List RA) (L3 : List Int) (L4 : List R_is) (L5 : List (List Int)) (L6 : List R_si) (v6 : Nat) (v8 : Int) : List (Bool × Bool) := (dP ((Zbu Tryd.prog 9 (Value.string (Za (aj L4 0).a1)) (Zba L6)).map (Option.map Prod.snd) = some (some (vi (ZE L6 (aj L4 0).a1)))), true) :: Zgs L0 a1 L2 L3 L4 L5 L6 v6 v8

noncomputable def ZiG (L0 : List Int) (a1 : Int) (L2 : List RA) (L3 : List Int) (L4 : List R_is) (L5 : List (List Int)) (L6 : List R_si) (v6 : Nat) (v8 : Int) : List (Bool × Bool) := (dP ((0 + (v6 * 4)) + ([vi (ai L2 v6).a0, vi (ZE L6 (aj L4 0).a1), vi (ai L2 v6).a2, vi (ai L2 v6).a3] : List Value).length ≤ ((Zb Zd L2) : List Value).length ∧ Zex (Zb Zd L2) (0 + (v6 * 4)) [vi (ai L2 v6).a0, vi (ZE L6 (aj L4 0).a1), vi (ai L2 v6).a2, vi (ai L2 v6).a3] = (Zb Zd (L2.set v6 (aiA L2 v6 L6 L4 0)))), true) :: (Nat.blt v6 L2.length, true) :: ((v6 : Int) == Int.ofNat v6, true) :: (dP (1 ≤ L4.length ∧ L4.length ≤ L4.length), true) :: (dS L4.length, true) :: ((1 : Int) == Int.ofNat 1, true) :: (((ai L2 v6).a0 == (8 : Int)), true) :: Zeu L0 a1 L2 L3 L4 L5 L6 v6 v8

noncomputable def Zgt (L0 : List Int) (a1 : Int) (L2 : List RA) (L3 : List Int) (L4 : List R_is) (L5 : List (List Int)) (L6 : List R_si) (v6 : Nat) (v8 y6_0 : Int) : List (Bool × Bool) := (dP (Zbi #[Value.agg #[vi (ai L2 v6).a0, vi (ZE L6 (aj L4 0).a1), vi (ai L2 v6).a2, vi (ai L2 v6).a3]] ((ai L2 v6).a0) ((ZE L6 (aj L4 0).a1)) ((ai L2 v6).a2) ((ai L2 v6).a3)  y6_0  9), true) :: ZiG L0 a1 L2 L3 L4 L5 L6 v6 v8

noncomputable def ZiH (L0 : List Int) (a1 : Int) (L2 : List RA) (L3 : List Int) (L4 : List R_is) (L5 : List (List Int)) (L6 : List R_si) (v6 : Nat) (v8 : Int) : List (Bool × Bool) := (dP ((0 + (v6 * 4)) + ([vi (ai L2 v6).a0, vi (ai L2 v6).a1, vi (ZE L6 (aj L4 0).a1), vi (ai L2 v6).a3] : List Value).length ≤ ((Zb Zd L2) : List Value).length ∧ Zex (Zb Zd L2) (0 + (v6 * 4)) [vi (ai L2 v6).a0, vi (ai L2 v6).a1, vi (ZE L6 (aj L4 0).a1), vi (ai L2 v6).a3] = (Zb Zd (L2.set v6 (aiB L2 v6 L6 L4 0)))), true) :: (Nat.blt v6 L2.length, true) :: ((v6 : Int) == Int.ofNat v6, true) :: (dP (1 ≤ L4.length ∧ L4.length ≤ L4.length), true) :: (dS L4.length, true) :: ((1 : Int) == Int.ofNat 1, true) :: (((ai L2 v6).a0 == (9 : Int)), true) :: (((ai L2 v6).a0 == (8 : Int)), false) :: Zeu L0 a1 L2 L3 L4 L5 L6 v6 v8

noncomputable def Zgu (L0 : List Int) (a1 : Int) (L2 : List RA) (L3 : List Int) (L4 : List R_is) (L5 : List (List Int)) (L6 : List R_si) (v6 : Nat) (v8 y7_0 : Int) : List (Bool × Bool) := (dP (Zbi #[Value.agg #[vi (ai L2 v6).a0, vi (ai L2 v6).a1, vi (ZE L6 (aj L4 0).a1), vi (ai L2 v6).a3]] ((ai L2 v6).a0) ((ai L2 v6).a1) ((ZE L6 (aj L4 0).a1)) ((ai L2 v6).a3)  y7_0  9), true) :: ZiH L0 a1 L2 L3 L4 L5 L6 v6 v8

noncomputable def ZiI (L0 : List Int) (a1 : Int) (L2 : List RA) (L3 : List Int) (L4 : List R_is) (L5 : List (List Int)) (L6 : List R_si) (v6 : Nat) (v8 : Int) : List (Bool × Bool) := (dP ((0 + (v6 * 4)) + ([vi (ai L2 v6).a0, vi (ai L2 v6).a1, vi (ai L2 v6).a2, vi (ai L2 v6).a3] : List Value).length ≤ ((Zb Zd L2) : List Value).length ∧ Zex (Zb Zd L2) (0 + (v6 * 4)) [vi (ai L2 v6).a0, vi (ai L2 v6).a1, vi (ai L2 v6).a2, vi (ai L2 v6).a3] = (Zb Zd (L2.set v6 (aiC L2 v6)))), true) :: (Nat.blt v6 L2.length, true) :: ((v6 : Int) == Int.ofNat v6, true) :: (dP (1 ≤ L4.length ∧ L4.length ≤ L4.length), true) :: (dS L4.length, true) :: ((1 : Int) == Int.ofNat 1, true) :: (((ai L2 v6).a0 == (9 : Int)), false) :: (((ai L2 v6).a0 == (8 : Int)), false) :: Zeu L0 a1 L2 L3 L4 L5 L6 v6 v8

noncomputable def ZfJ (L0 : List Int) (a1 : Int) (L2 : List RA) (L3 : List Int) (L4 : List R_is) (L5 : List (List Int)) (L6 : List R_si) (v6 : Nat) (v8 y7_0 : Int) : List (Bool × Bool) := (dP (Zbi #[Value.agg #[vi (ai L2 v6).a0, vi (ai L2 v6).a1, vi (ai L2 v6).a2, vi (ai L2 v6).a3]] ((ai L2 v6).a0) ((ai L2 v6).a1) ((ai L2 v6).a2) ((ai L2 v6).a3)  y7_0  9), true) :: ZiI L0 a1 L2 L3 L4 L5 L6 v6 v8

noncomputable def ZfK (L0 : List Int) (a1 : Int) (L2 : List RA) (L3 : List Int) (L4 : List R_is) (L5 : List (List Int)) (L6 : List R_si) (v6 : Nat) (v8 y4_0 : Int) : List (Bool × Bool) := (dP (Zbi #[Value.agg #[vi (ai L2 v6).a0, vi (ai L2 v6).a1, vi (ai L2 v6).a2, vi (ai L2 v6).a3]] ((ai L2 v6).a0) ((ai L2 v6).a1) ((ai L2 v6).a2) ((ai L2 v6).a3)  y4_0  7), true) :: (((aj L4 0).a0 == (v6 : Int)), false) :: Zgr L0 a1 L2 L3 L4 L5 L6 v6 v8

noncomputable def ZfL (L0 : List Int) (a1 : Int) (L2 : List RA) (L3 : List Int) (L4 : List R_is) (L5 : List (List Int)) (L6 : List R_si) (v6 : Nat) (v8 y3_0 : Int) : List (Bool × Bool) := (dP (Zbi #[Value.agg #[vi (ai L2 v6).a0, vi (ai L2 v6).a1, vi (ai L2 v6).a2, vi (ai L2 v6).a3]] ((ai L2 v6).a0) ((ai L2 v6).a1) ((ai L2 v6).a2) ((ai L2 v6).a3)  y3_0  7), true) :: ((decide ((L4.length : Int) > (0 : Int))), false) :: Zgq L0 a1 L2 L3 L4 L5 L6 v6 v8

set_option maxHeartbeats 4000000 in
theorem ZlA (L0 : List Int) (a1 : Int) (L2 : List RA) (L3 : List Int) (L4 : List R_is) (L5 : List (List Int)) (L6 : List R_si) (v6 : Nat) (v8 : Int) (N : Nat) : (Z7 L0 a1 L2 L3 L4 L5 L6 N).Ok Tryd.prog ZG (.h1m0 v6 v8 : asm_reader_aimX) (Zbd L0 a1 L2 L3 L4 L5 L6 N (.h1m0 v6 v8 : asm_reader_aimX)) := by
 show (Z7 L0 a1 L2 L3 L4 L5 L6 N).Ok Tryd.prog ZG (.h1m0 v6 v8 : asm_reader_aimX) (Zbp L0 a1 L2 L3 L4 L5 L6 N v6 v8)
 unfold Zbp
 refine Mach.ok_ite (fun g0 => ?_) (fun g0 => ?_)
 ·
  have w1 : OkL (ZiF L0 a1 L2 L3 L4 L5 L6 v6 v8) :=
   Zc (Zc0 (E := Zd) (L := L2) (i := v6) (q := 0) (by omega) (show (0 + (v6 * 4)) = v6 * 4 + 0 from by omega) (show 0 + 4 ≤ 4 from by decide) rfl rfl) <| oB <| oI <| oY <| Z9
  refine Mach.ok_ite (fun g1 => ?_) (fun _ => Mach.ok_none)
  have w2 : OkL (Zgq L0 a1 L2 L3 L4 L5 L6 v6 v8) :=
   Zc (Zc0 (E := eI) (L := L3) (i := v6) (q := 0) (by omega) (show (0 + (v6 * 1)) = v6 * 1 + 0 from by omega) (show 0 + 1 ≤ 1 from by decide) rfl rfl) <| oB <| oI <| w1
  refine Mach.ok_ite (fun g2 => ?_) (fun g2 => ?_)
  ·
   have w3 : OkL (Zgr L0 a1 L2 L3 L4 L5 L6 v6 v8) :=
    Zc (Zc0 (E := Zt) (L := L4) (i := 0) (q := 0) (by omega) (show ((0 + (0 * 2)) + 0) = 0 * 2 + 0 from by omega) (show 0 + 1 ≤ 2 from by decide) rfl rfl) <| oB <| oI <| oY <| w2
   refine Mach.ok_ite (fun g3 => ?_) (fun g3 => ?_)
   ·
    have w4 : OkL (Zgs L0 a1 L2 L3 L4 L5 L6 v6 v8) :=
     Zc (Zc0 (E := Zt) (L := L4) (i := 0) (q := 1) (by omega) (show ((0 + (0 * 2)) + 1) = 0 * 2 + 1 from by omega) (show 1 + 1 ≤ 2 from by decide) rfl rfl) <| oB <| oI <| oT <| w3
    refine Mach.ok_ite (fun g4 => ?_) (fun g4 => ?_)
    ·
     have w5 : OkL (Zeu L0 a1 L2 L3 L4 L5 L6 v6 v8) :=
      Zc (Zp (ZpA rfl (by assumption))) <| w4
     refine Mach.ok_ite (fun g5 => ?_) (fun g5 => ?_)
     ·
      have w6 : OkL (ZiG L0 a1 L2 L3 L4 L5 L6 v6 v8) :=
       Zc (Zp (ZhP (E := Zd) (L := L2) (i := v6) (q := 0) (l := [vi (ai L2 v6).a0, vi (ZE L6 (aj L4 0).a1), vi (ai L2 v6).a2, vi (ai L2 v6).a3]) (aiA L2 v6 L6 L4 0) (by omega) (show (0 + (v6 * 4)) = v6 * 4 + 0 from by omega) (show 0 + 4 ≤ 4 from by decide) rfl)) <| oB <| oI <| Zc (Zp ⟨ltA, ltA⟩) <| oR <| oI <| oT <| w5
      refine Mach.ok_bind (fun z6 c6 => ?_)
      cases z6 with
      | r0 y6_0 =>
       have w7 : OkL (Zgt L0 a1 L2 L3 L4 L5 L6 v6 v8 y6_0) :=
        Zc (Zp (Zbz #[Value.agg #[vi (ai L2 v6).a0, vi (ZE L6 (aj L4 0).a1), vi (ai L2 v6).a2, vi (ai L2 v6).a3]] ((ai L2 v6).a0) ((ZE L6 (aj L4 0).a1)) ((ai L2 v6).a2) ((ai L2 v6).a3)  y6_0 N c6  9 rfl dcd dcd)) <| w6
       refine Mach.ok_ite (fun g7 => ?_) (fun g7 => ?_)
       ·
        exact Mach.ok_thr (M := Z7 L0 a1 L2 L3 L4 L5 L6 N) (cd := 1000000) (cm := 0) (r := (.r0 ((L3.getD v6 0)) : Z0)) (fu := 4000) (orc := (Zs [(0, true), (1, true), (2, true), (4, true), (5, true)] [] [(0, v6), (1, v6), (2, 0), (3, 0), (4, v6)] [(0, (aic L2 v6)), (2, [.i (L3.getD v6 0)]), (5, [.i (aj L4 0).a0]), (8, [.s (Za (aj L4 0).a1)])] [(2, .lk (some (vi (ZE L6 (aj L4 0).a1)))), (6, .sl 1 L4.length), (7, .st (Zb Zd (L2.set v6 (aiA L2 v6 L6 L4 0)))), (9, (Zag ((ai L2 v6).a0) ((ZE L6 (aj L4 0).a1)) ((ai L2 v6).a2) ((ai L2 v6).a3)  y6_0  9))])) (u := Value.iface 88 (Value.agg #[vi (L3.getD v6 0)])) (ob := (((y6_0 != (0 : Int)), true) :: Zgt L0 a1 L2 L3 L4 L5 L6 v6 v8 y6_0)) (fun gv => by as_aux_lemma => kernel_rfl) (oD <| w7) rfl (by rfl) (by rfl)
       ·
        refine Mach.ok_ite (fun g8 => ?_) (fun _ => Mach.ok_none)
        exact Mach.ok_next (M := Z7 L0 a1 L2 L3 L4 L5 L6 N) (cd := 1000000) (cm := 0) (y := (.h1m1 ((L2.set v6 (aiA L2 v6 L6 L4 0))) ((v6 + 1)) ((L3.getD v6 0)) (1) ((L4.length - 1)) : asm_reader_aimX)) (fu := 4000) (orc := (Zs [(0, true), (1, true), (2, true), (4, true), (5, false)] [(0, (((v6 + 1) : Nat) : Int))] [(0, v6), (1, v6), (2, 0), (3, 0), (4, v6)] [(0, (aic L2 v6)), (2, [.i (L3.getD v6 0)]), (5, [.i (aj L4 0).a0]), (8, [.s (Za (aj L4 0).a1)])] [(2, .lk (some (vi (ZE L6 (aj L4 0).a1)))), (6, .sl 1 L4.length), (7, .st (Zb Zd (L2.set v6 (aiA L2 v6 L6 L4 0)))), (9, (Zag ((ai L2 v6).a0) ((ZE L6 (aj L4 0).a1)) ((ai L2 v6).a2) ((ai L2 v6).a3)  y6_0  9))])) (live := [0, 1, 2, 3, 4, 5]) (tv := fun _ => [some (vp 0 0), some (vs 1 0 L2.length L2.length), some (vi (L2.length : Int)), some (vi (((v6 + 1) : Nat) : Int))]) (bl := [some (.cells [Value.string (Za L0), vi (L3.getD v6 0), vs 1 0 L2.length L2.length, vs 2 0 L3.length L3.length, Value.slice (some ⟨3, (0 + (1 * 2)), none⟩) (L4.length - 1) (L4.length - 1), vs 4 0 L5.length L5.length, Value.map (some 5)] 57), some (.cells (Zb Zd (L2.set v6 (aiA L2 v6 L6 L4 0))) 24 true), some (.cells (Zb eI L3) 3 true), some (.cells (Zb Zt L4) 122 true), some (.cells (Zb Zr L5) 9 true), some (.ro (Zk L6) true)]) (ob := (((IntKind.i64.wrap ((v6 : Int) + (1 : Int))) == (((v6 + 1) : Nat) : Int), true) :: ((y6_0 != (0 : Int)), false) :: Zgt L0 a1 L2 L3 L4 L5 L6 v6 v8 y6_0)) rfl (show 1 ∈ ZJ (Zbb 1) from by decide +kernel) (fun gv => by as_aux_lemma => kernel_rfl) (Zc (beq_iff_eq.2 ((wrap_i64 ltA).trans (by first | rfl | omega))) <| oE <| w7) rfl (by decide) (by rfl) (fun _ => ⟨rr, ⟨⟨Eq.trans (show (vs 1 0 (L2.set v6 (aiA L2 v6 L6 L4 0)).length (L2.set v6 (aiA L2 v6 L6 L4 0)).length : Value) = vs 1 0 L2.length L2.length from (Zah rfl eqA eqA)) (by rfl), by rfl⟩, ⟨rr, ⟨rr, trivial⟩⟩⟩⟩) ⟨⟨rfl, ⟨[], (show ([Value.string (Za L0), vi (L3.getD v6 0), vs 1 0 L2.length L2.length, vs 2 0 L3.length L3.length, Value.slice (some ⟨3, (0 + (1 * 2)), none⟩) (L4.length - 1) (L4.length - 1), vs 4 0 L5.length L5.length, Value.map (some 5)] : List Value) = _ from (Ze rfl (Ze rfl (Ze (Zah rfl eqA eqA) (Ze rfl (Ze (Zah eqA rfl rfl) (Ze rfl (Ze rfl rfl))))))).symm)⟩, by rfl⟩, ⟨(Zl (E := Zd) (α := RA) _ (L2.set v6 (aiA L2 v6 L6 L4 0)) _), ⟨(Zl (E := eI) (α := Int) _ L3 _), ⟨(Zl (E := Zt) (α := R_is) _ L4 _), ⟨(Zl (E := Zr) (α := List Int) _ L5 _), ⟨(show Zk L6 = Zk L6 from rfl), trivial⟩⟩⟩⟩⟩⟩
     ·
      refine Mach.ok_ite (fun g6 => ?_) (fun g6 => ?_)
      ·
       have w7 : OkL (ZiH L0 a1 L2 L3 L4 L5 L6 v6 v8) :=
        Zc (Zp (ZhP (E := Zd) (L := L2) (i := v6) (q := 0) (l := [vi (ai L2 v6).a0, vi (ai L2 v6).a1, vi (ZE L6 (aj L4 0).a1), vi (ai L2 v6).a3]) (aiB L2 v6 L6 L4 0) (by omega) (show (0 + (v6 * 4)) = v6 * 4 + 0 from by omega) (show 0 + 4 ≤ 4 from by decide) rfl)) <| oB <| oI <| Zc (Zp ⟨ltA, ltA⟩) <| oR <| oI <| oT <| oF <| w5
       refine Mach.ok_bind (fun z7 c7 => ?_)
       cases z7 with
       | r0 y7_0 =>
        have w8 : OkL (Zgu L0 a1 L2 L3 L4 L5 L6 v6 v8 y7_0) :=
         Zc (Zp (Zbz #[Value.agg #[vi (ai L2 v6).a0, vi (ai L2 v6).a1, vi (ZE L6 (aj L4 0).a1), vi (ai L2 v6).a3]] ((ai L2 v6).a0) ((ai L2 v6).a1) ((ZE L6 (aj L4 0).a1)) ((ai L2 v6).a3)  y7_0 N c7  9 rfl dcd dcd)) <| w7
        refine Mach.ok_ite (fun g8 => ?_) (fun g8 => ?_)
        ·
         exact Mach.ok_thr (M := Z7 L0 a1 L2 L3 L4 L5 L6 N) (cd := 1000000) (cm := 0) (r := (.r0 ((L3.getD v6 0)) : Z0)) (fu := 4000) (orc := (Zs [(0, true), (1, true), (2, true), (4, false), (5, true), (6, true)] [] [(0, v6), (1, v6), (2, 0), (3, 0), (4, v6)] [(0, (aic L2 v6)), (2, [.i (L3.getD v6 0)]), (5, [.i (aj L4 0).a0]), (8, [.s (Za (aj L4 0).a1)])] [(2, .lk (some (vi (ZE L6 (aj L4 0).a1)))), (6, .sl 1 L4.length), (7, .st (Zb Zd (L2.set v6 (aiB L2 v6 L6 L4 0)))), (9, (Zag ((ai L2 v6).a0) ((ai L2 v6).a1) ((ZE L6 (aj L4 0).a1)) ((ai L2 v6).a3)  y7_0  9))])) (u := Value.iface 88 (Value.agg #[vi (L3.getD v6 0)])) (ob := (((y7_0 != (0 : Int)), true) :: Zgu L0 a1 L2 L3 L4 L5 L6 v6 v8 y7_0)) (fun gv => by as_aux_lemma => kernel_rfl) (oD <| w8) rfl (by rfl) (by rfl)
        ·
         refine Mach.ok_ite (fun g9 => ?_) (fun _ => Mach.ok_none)
         exact Mach.ok_next (M := Z7 L0 a1 L2 L3 L4 L5 L6 N) (cd := 1000000) (cm := 0) (y := (.h1m1 ((L2.set v6 (aiB L2 v6 L6 L4 0))) ((v6 + 1)) ((L3.getD v6 0)) (1) ((L4.length - 1)) : asm_reader_aimX)) (fu := 4000) (orc := (Zs [(0, true), (1, true), (2, true), (4, false), (5, true), (6, false)] [(0, (((v6 + 1) : Nat) : Int))] [(0, v6), (1, v6), (2, 0), (3, 0), (4, v6)] [(0, (aic L2 v6)), (2, [.i (L3.getD v6 0)]), (5, [.i (aj L4 0).a0]), (8, [.s (Za (aj L4 0).a1)])] [(2, .lk (some (vi (ZE L6 (aj L4 0).a1)))), (6, .sl 1 L4.length), (7, .st (Zb Zd (L2.set v6 (aiB L2 v6 L6 L4 0)))), (9, (Zag ((ai L2 v6).a0) ((ai L2 v6).a1) ((ZE L6 (aj L4 0).a1)) ((ai L2 v6).a3)  y7_0  9))])) (live := [0, 1, 2, 3, 4, 5]) (tv := fun _ => [some (vp 0 0), some (vs 1 0 L2.length L2.length), some (vi (L2.length : Int)), some (vi (((v6 + 1) : Nat) : Int))]) (bl := [some (.cells [Value.string (Za L0), vi (L3.getD v6 0), vs 1 0 L2.length L2.length, vs 2 0 L3.length L3.length, Value.slice (some ⟨3, (0 + (1 * 2)), none⟩) (L4.length - 1) (L4.length - 1), vs 4 0 L5.length L5.length, Value.map (some 5)] 57), some (.cells (Zb Zd (L2.set v6 (aiB L2 v6 L6 L4 0))) 24 true), some (.cells (Zb eI L3) 3 true), some (.cells (Zb Zt L4) 122 true), some (.cells (Zb Zr L5) 9 true), some (.ro (Zk L6) true)]) (ob := (((IntKind.i64.wrap ((v6 : Int) + (1 : Int))) == (((v6 + 1) : Nat) : Int), true) :: ((y7_0 != (0 : Int)), false) :: Zgu L0 a1 L2 L3 L4 L5 L6 v6 v8 y7_0)) rfl (show 1 ∈ ZJ (Zbb 1) from by decide +kernel) (fun gv => by as_aux_lemma => kernel_rfl) (Zc (beq_iff_eq.2 ((wrap_i64 ltA).trans (by first | rfl | omega))) <| oE <| w8) rfl (by decide) (by rfl) (fun _ => ⟨rr, ⟨⟨Eq.trans (show (vs 1 0 (L2.set v6 (aiB L2 v6 L6 L4 0)).length (L2.set v6 (aiB L2 v6 L6 L4 0)).length : Value) = vs 1 0 L2.length L2.length from (Zah rfl eqA eqA)) (by rfl), by rfl⟩, ⟨rr, ⟨rr, trivial⟩⟩⟩⟩) ⟨⟨rfl, ⟨[], (show ([Value.string (Za L0), vi (L3.getD v6 0), vs 1 0 L2.length L2.length, vs 2 0 L3.length L3.length, Value.slice (some ⟨3, (0 + (1 * 2)), none⟩) (L4.length - 1) (L4.length - 1), vs 4 0 L5.length L5.length, Value.map (some 5)] : List Value) = _ from (Ze rfl (Ze rfl (Ze (Zah rfl eqA eqA) (Ze rfl (Ze (Zah eqA rfl rfl) (Ze rfl (Ze rfl rfl))))))).symm)⟩, by rfl⟩, ⟨(Zl (E := Zd) (α := RA) _ (L2.set v6 (aiB L2 v6 L6 L4 0)) _), ⟨(Zl (E := eI) (α := Int) _ L3 _), ⟨(Zl (E := Zt) (α := R_is) _ L4 _), ⟨(Zl (E := Zr) (α := List Int) _ L5 _), ⟨(show Zk L6 = Zk L6 from rfl), trivial⟩⟩⟩⟩⟩⟩
      ·
       have w7 : OkL (ZiI L0 a1 L2 L3 L4 L5 L6 v6 v8) :=
        Zc (Zp (ZhP (E := Zd) (L := L2) (i := v6) (q := 0) (l := [vi (ai L2 v6).a0, vi (ai L2 v6).a1, vi (ai L2 v6).a2, vi (ai L2 v6).a3]) (aiC L2 v6) (by omega) (show (0 + (v6 * 4)) = v6 * 4 + 0 from by omega) (show 0 + 4 ≤ 4 from by decide) rfl)) <| oB <| oI <| Zc (Zp ⟨ltA, ltA⟩) <| oR <| oI <| oF <| oF <| w5
       refine Mach.ok_bind (fun z7 c7 => ?_)
       cases z7 with
       | r0 y7_0 =>
        have w8 : OkL (ZfJ L0 a1 L2 L3 L4 L5 L6 v6 v8 y7_0) :=
         Zc (Zp (Zbz #[Value.agg #[vi (ai L2 v6).a0, vi (ai L2 v6).a1, vi (ai L2 v6).a2, vi (ai L2 v6).a3]] ((ai L2 v6).a0) ((ai L2 v6).a1) ((ai L2 v6).a2) ((ai L2 v6).a3)  y7_0 N c7  9 rfl dcd dcd)) <| w7
        refine Mach.ok_ite (fun g8 => ?_) (fun g8 => ?_)
        ·
         exact Mach.ok_thr (M := Z7 L0 a1 L2 L3 L4 L5 L6 N) (cd := 1000000) (cm := 0) (r := (.r0 ((L3.getD v6 0)) : Z0)) (fu := 4000) (orc := (Zs [(0, true), (1, true), (2, true), (4, false), (5, false), (6, true)] [] [(0, v6), (1, v6), (2, 0), (3, 0), (4, v6)] [(0, (aic L2 v6)), (2, [.i (L3.getD v6 0)]), (5, [.i (aj L4 0).a0]), (8, [.s (Za (aj L4 0).a1)])] [(2, .lk (some (vi (ZE L6 (aj L4 0).a1)))), (5, .sl 1 L4.length), (6, .st (Zb Zd (L2.set v6 (aiC L2 v6)))), (8, (Zag ((ai L2 v6).a0) ((ai L2 v6).a1) ((ai L2 v6).a2) ((ai L2 v6).a3)  y7_0  9))])) (u := Value.iface 88 (Value.agg #[vi (L3.getD v6 0)])) (ob := (((y7_0 != (0 : Int)), true) :: ZfJ L0 a1 L2 L3 L4 L5 L6 v6 v8 y7_0)) (fun gv => by as_aux_lemma => kernel_rfl) (oD <| w8) rfl (by rfl) (by rfl)
        ·
         refine Mach.ok_ite (fun g9 => ?_) (fun _ => Mach.ok_none)
         exact Mach.ok_next (M := Z7 L0 a1 L2 L3 L4 L5 L6 N) (cd := 1000000) (cm := 0) (y := (.h1m1 ((L2.set v6 (aiC L2 v6))) ((v6 + 1)) ((L3.getD v6 0)) (1) ((L4.length - 1)) : asm_reader_aimX)) (fu := 4000) (orc := (Zs [(0, true), (1, true), (2, true), (4, false), (5, false), (6, false)] [(0, (((v6 + 1) : Nat) : Int))] [(0, v6), (1, v6), (2, 0), (3, 0), (4, v6)] [(0, (aic L2 v6)), (2, [.i (L3.getD v6 0)]), (5, [.i (aj L4 0).a0]), (8, [.s (Za (aj L4 0).a1)])] [(2, .lk (some (vi (ZE L6 (aj L4 0).a1)))), (5, .sl 1 L4.length), (6, .st (Zb Zd (L2.set v6 (aiC L2 v6)))), (8, (Zag ((ai L2 v6).a0) ((ai L2 v6).a1) ((ai L2 v6).a2) ((ai L2 v6).a3)  y7_0  9))])) (live := [0, 1, 2, 3, 4, 5]) (tv := fun _ => [some (vp 0 0), some (vs 1 0 L2.length L2.length), some (vi (L2.length : Int)), some (vi (((v6 + 1) : Nat) : Int))]) (bl := [some (.cells [Value.string (Za L0), vi (L3.getD v6 0), vs 1 0 L2.length L2.length, vs 2 0 L3.length L3.length, Value.slice (some ⟨3, (0 + (1 * 2)), none⟩) (L4.length - 1) (L4.length - 1), vs 4 0 L5.length L5.length, Value.map (some 5)] 57), some (.cells (Zb Zd (L2.set v6 (aiC L2 v6))) 24 true), some (.cells (Zb eI L3) 3 true), some (.cells (Zb Zt L4) 122 true), some (.cells (Zb Zr L5) 9 true), some (.ro (Zk L6) true)]) (ob := (((IntKind.i64.wrap ((v6 : Int) + (1 : Int))) == (((v6 + 1) : Nat) : Int), true) :: ((y7_0 != (0 : Int)), false) :: ZfJ L0 a1 L2 L3 L4 L5 L6 v6 v8 y7_0)) rfl (show 1 ∈ ZJ (Zbb 1) from by decide +kernel) (fun gv => by as_aux_lemma => kernel_rfl) (Zc (beq_iff_eq.2 ((wrap_i64 ltA).trans (by first | rfl | omega))) <| oE <| w8) rfl (by decide) (by rfl) (fun _ => ⟨rr, ⟨⟨Eq.trans (show (vs 1 0 (L2.set v6 (aiC L2 v6)).length (L2.set v6 (aiC L2 v6)).length : Value) = vs 1 0 L2.length L2.length from (Zah rfl eqA eqA)) (by rfl), by rfl⟩, ⟨rr, ⟨rr, trivial⟩⟩⟩⟩) ⟨⟨rfl, ⟨[], (show ([Value.string (Za L0), vi (L3.getD v6 0), vs 1 0 L2.length L2.length, vs 2 0 L3.length L3.length, Value.slice (some ⟨3, (0 + (1 * 2)), none⟩) (L4.length - 1) (L4.length - 1), vs 4 0 L5.length L5.length, Value.map (some 5)] : List Value) = _ from (Ze rfl (Ze rfl (Ze (Zah rfl eqA eqA) (Ze rfl (Ze (Zah eqA rfl rfl) (Ze rfl (Ze rfl rfl))))))).symm)⟩, by rfl⟩, ⟨(Zl (E := Zd) (α := RA) _ (L2.set v6 (aiC L2 v6)) _), ⟨(Zl (E := eI) (α := Int) _ L3 _), ⟨(Zl (E := Zt) (α := R_is) _ L4 _), ⟨(Zl (E := Zr) (α := List Int) _ L5 _), ⟨(show Zk L6 = Zk L6 from rfl), trivial⟩⟩⟩⟩⟩⟩
    ·
     exact Mach.ok_thr (M := Z7 L0 a1 L2 L3 L4 L5 L6 N) (cd := 1000000) (cm := 0) (r := (.r0 ((L3.getD v6 0)) : Z0)) (fu := 4000) (orc := (Z2 [o1, o1, o1] [] [(0, v6), (1, v6), (2, 0), (3, 0)] [(0, (aic L2 v6)), (2, [.i (L3.getD v6 0)]), (5, [.i (aj L4 0).a0]), (8, [.s (Za (aj L4 0).a1)])] [(2, .lk (none))])) (u := Value.iface 88 (Value.agg #[vi (L3.getD v6 0)])) (ob := ((dP ((Zbu Tryd.prog 9 (Value.string (Za (aj L4 0).a1)) (Zba L6)).map (Option.map Prod.snd) = some (none)), true) :: Zgs L0 a1 L2 L3 L4 L5 L6 v6 v8)) (fun gv => by as_aux_lemma => kernel_rfl) (Zc (Zp (Znb rfl (by assumption))) <| w4) rfl (by rfl) (by rfl)
   ·
    refine Mach.ok_bind (fun z4 c4 => ?_)
    cases z4 with
    | r0 y4_0 =>
     have w5 : OkL (ZfK L0 a1 L2 L3 L4 L5 L6 v6 v8 y4_0) :=
      Zc (Zp (Zbz #[Value.agg #[vi (ai L2 v6).a0, vi (ai L2 v6).a1, vi (ai L2 v6).a2, vi (ai L2 v6).a3]] ((ai L2 v6).a0) ((ai L2 v6).a1) ((ai L2 v6).a2) ((ai L2 v6).a3)  y4_0 N c4  7 rfl dcd dcd)) <| oF <| w3
     refine Mach.ok_ite (fun g5 => ?_) (fun g5 => ?_)
     ·
      exact Mach.ok_thr (M := Z7 L0 a1 L2 L3 L4 L5 L6 N) (cd := 1000000) (cm := 0) (r := (.r0 ((L3.getD v6 0)) : Z0)) (fu := 4000) (orc := (Z2 [o1, o1, o0, o1] [] [(0, v6), (1, v6), (2, 0)] [(0, (aic L2 v6)), (2, [.i (L3.getD v6 0)]), (5, [.i (aj L4 0).a0])] [(2, (Zag ((ai L2 v6).a0) ((ai L2 v6).a1) ((ai L2 v6).a2) ((ai L2 v6).a3)  y4_0  7))])) (u := Value.iface 88 (Value.agg #[vi (L3.getD v6 0)])) (ob := (((y4_0 != (0 : Int)), true) :: ZfK L0 a1 L2 L3 L4 L5 L6 v6 v8 y4_0)) (fun gv => by as_aux_lemma => kernel_rfl) (oD <| w5) rfl (by rfl) (by rfl)
     ·
      refine Mach.ok_ite (fun g6 => ?_) (fun _ => Mach.ok_none)
      exact Mach.ok_next (M := Z7 L0 a1 L2 L3 L4 L5 L6 N) (cd := 1000000) (cm := 0) (y := (.h1m0 ((v6 + 1)) ((L3.getD v6 0)) : asm_reader_aimX)) (fu := 4000) (orc := (Z2 [o1, o1, o0, o0] [(0, (((v6 + 1) : Nat) : Int))] [(0, v6), (1, v6), (2, 0)] [(0, (aic L2 v6)), (2, [.i (L3.getD v6 0)]), (5, [.i (aj L4 0).a0])] [(2, (Zag ((ai L2 v6).a0) ((ai L2 v6).a1) ((ai L2 v6).a2) ((ai L2 v6).a3)  y4_0  7))])) (live := [0, 1, 2, 3, 4, 5]) (tv := fun _ => [some (vp 0 0), some (vs 1 0 L2.length L2.length), some (vi (L2.length : Int)), some (vi (((v6 + 1) : Nat) : Int))]) (bl := [some (.cells [Value.string (Za L0), vi (L3.getD v6 0), vs 1 0 L2.length L2.length, vs 2 0 L3.length L3.length, vs 3 0 L4.length L4.length, vs 4 0 L5.length L5.length, Value.map (some 5)] 57), some (.cells (Zb Zd L2) 24 true), some (.cells (Zb eI L3) 3 true), some (.cells (Zb Zt L4) 122 true), some (.cells (Zb Zr L5) 9 true), some (.ro (Zk L6) true)]) (ob := (((IntKind.i64.wrap ((v6 : Int) + (1 : Int))) == (((v6 + 1) : Nat) : Int), true) :: ((y4_0 != (0 : Int)), false) :: ZfK L0 a1 L2 L3 L4 L5 L6 v6 v8 y4_0)) rfl (show 1 ∈ ZJ (Zbb 1) from by decide +kernel) (fun gv => by as_aux_lemma => kernel_rfl) (Zc (beq_iff_eq.2 ((wrap_i64 ltA).trans (by first | rfl | omega))) <| oE <| w5) rfl (by decide) (by rfl) (fun _ => ⟨rr, ⟨rr, ⟨rr, ⟨rr, trivial⟩⟩⟩⟩) ⟨sm, ⟨(Zl (E := Zd) (α := RA) _ L2 _), ⟨(Zl (E := eI) (α := Int) _ L3 _), ⟨(Zl (E := Zt) (α := R_is) _ L4 _), ⟨(Zl (E := Zr) (α := List Int) _ L5 _), ⟨(show Zk L6 = Zk L6 from rfl), trivial⟩⟩⟩⟩⟩⟩
  ·
   refine Mach.ok_bind (fun z3 c3 => ?_)
   cases z3 with
   | r0 y3_0 =>
    have w4 : OkL (ZfL L0 a1 L2 L3 L4 L5 L6 v6 v8 y3_0) :=
     Zc (Zp (Zbz #[Value.agg #[vi (ai L2 v6).a0, vi (ai L2 v6).a1, vi (ai L2 v6).a2, vi (ai L2 v6).a3]] ((ai L2 v6).a0) ((ai L2 v6).a1) ((ai L2 v6).a2) ((ai L2 v6).a3)  y3_0 N c3  7 rfl dcd dcd)) <| oN <| w2
    refine Mach.ok_ite (fun g4 => ?_) (fun g4 => ?_)
    ·
     exact Mach.ok_thr (M := Z7 L0 a1 L2 L3 L4 L5 L6 N) (cd := 1000000) (cm := 0) (r := (.r0 ((L3.getD v6 0)) : Z0)) (fu := 4000) (orc := (Z2 [o1, o0, o1] [] [(0, v6), (1, v6)] [(0, (aic L2 v6)), (2, [.i (L3.getD v6 0)])] [(2, (Zag ((ai L2 v6).a0) ((ai L2 v6).a1) ((ai L2 v6).a2) ((ai L2 v6).a3)  y3_0  7))])) (u := Value.iface 88 (Value.agg #[vi (L3.getD v6 0)])) (ob := (((y3_0 != (0 : Int)), true) :: ZfL L0 a1 L2 L3 L4 L5 L6 v6 v8 y3_0)) (fun gv => by as_aux_lemma => kernel_rfl) (oD <| w4) rfl (by rfl) (by rfl)
    ·
     refine Mach.ok_ite (fun g5 => ?_) (fun _ => Mach.ok_none)
     exact Mach.ok_next (M := Z7 L0 a1 L2 L3 L4 L5 L6 N) (cd := 1000000) (cm := 0) (y := (.h1m0 ((v6 + 1)) ((L3.getD v6 0)) : asm_reader_aimX)) (fu := 4000) (orc := (Z2 [o1, o0, o0] [(0, (((v6 + 1) : Nat) : Int))] [(0, v6), (1, v6)] [(0, (aic L2 v6)), (2, [.i (L3.getD v6 0)])] [(2, (Zag ((ai L2 v6).a0) ((ai L2 v6).a1) ((ai L2 v6).a2) ((ai L2 v6).a3)  y3_0  7))])) (live := [0, 1, 2, 3, 4, 5]) (tv := fun _ => [some (vp 0 0), some (vs 1 0 L2.length L2.length), some (vi (L2.length : Int)), some (vi (((v6 + 1) : Nat) : Int))]) (bl := [some (.cells [Value.string (Za L0), vi (L3.getD v6 0), vs 1 0 L2.length L2.length, vs 2 0 L3.length L3.length, vs 3 0 L4.length L4.length, vs 4 0 L5.length L5.length, Value.map (some 5)] 57), some (.cells (Zb Zd L2) 24 true), some (.cells (Zb eI L3) 3 true), some (.cells (Zb Zt L4) 122 true), some (.cells (Zb Zr L5) 9 true), some (.ro (Zk L6) true)]) (ob := (((IntKind.i64.wrap ((v6 : Int) + (1 : Int))) == (((v6 + 1) : Nat) : Int), true) :: ((y3_0 != (0 : Int)), false) :: ZfL L0 a1 L2 L3 L4 L5 L6 v6 v8 y3_0)) rfl (show 1 ∈ ZJ (Zbb 1) from by decide +kernel) (fun gv => by as_aux_lemma => kernel_rfl) (Zc (beq_iff_eq.2 ((wrap_i64 ltA).trans (by first | rfl | omega))) <| oE <| w4) rfl (by decide) (by rfl) (fun _ => ⟨rr, ⟨rr, ⟨rr, ⟨rr, trivial⟩⟩⟩⟩) ⟨sm, ⟨(Zl (E := Zd) (α := RA) _ L2 _), ⟨(Zl (E := eI) (α := Int) _ L3 _), ⟨(Zl (E := Zt) (α := R_is) _ L4 _), ⟨(Zl (E := Zr) (α := List Int) _ L5 _), ⟨(show Zk L6 = Zk L6 from rfl), trivial⟩⟩⟩⟩⟩⟩
 ·
  exact Mach.ok_fin (M := Z7 L0 a1 L2 L3 L4 L5 L6 N) (cd := 1000000) (cm := 0) (r := (.r1 (v8) : Z0)) (fu := 4000) (orc := (Z2 [o0] [] [] [] [])) (live := [0, 1, 2, 3, 4, 5]) (u := vtt) (bl := [some (.cells [Value.string (Za L0), vi v8, vs 1 0 L2.length L2.length, vs 2 0 L3.length L3.length, vs 3 0 L4.length L4.length, vs 4 0 L5.length L5.length, Value.map (some 5)] 57), some (.cells (Zb Zd L2) 24 true), some (.cells (Zb eI L3) 3 true), some (.cells (Zb Zt L4) 122 true), some (.cells (Zb Zr L5) 9 true), some (.ro (Zk L6) true)]) (ob := (((decide ((v6 : Int) < (L2.length : Int))), false) :: [])) (fun gv => by as_aux_lemma => kernel_rfl) (oN <| Z9) rfl (by decide) (by rfl) rr ⟨sm, ⟨(Zl (E := Zd) (α := RA) _ L2 _), ⟨(Zl (E := eI) (α := Int) _ L3 _), ⟨(Zl (E := Zt) (α := R_is) _ L4 _), ⟨(Zl (E := Zr) (α := List Int) _ L5 _), ⟨(show Zk L6 = Zk L6 from rfl), trivial⟩⟩⟩⟩⟩⟩

noncomputable def Zis (L0 : List Int) (a1 : Int) (L2 : List RA) (L3 : List Int) (L4 : List R_is) (L5 : List (List Int)) (L6 : List R_si) (v0 : List RA) (v6 : Nat) (v8 : Int) (v9 v10 : Nat) : List (Bool × Bool) := ((decide ((v6 : Int) < (L2.length : Int))), true) :: []

noncomputable def Zit (L0 : List Int) (a1 : Int) (L2 : List RA) (L3 : List Int) (L4 : List R_is) (L5 : List (List Int)) (L6 : List R_si) (v0 : List RA) (v6 : Nat) (v8 : Int) (v9 v10 : Nat) : List (Bool × Bool) := (Za4 (Z8 4 (List.drop (0 + (v6 * 4)) (Zb Zd v0))) (aic v0 v6), true) :: (Nat.blt v6 v0.length, true) :: ((v6 : Int) == Int.ofNat v6, true) :: Zis L0 a1 L2 L3 L4 L5 L6 v0 v6 v8 v9 v10

noncomputable def ZfM (L0 : List Int) (a1 : Int) (L2 : List RA) (L3 : List Int) (L4 : List R_is) (L5 : List (List Int)) (L6 : List R_si) (v0 : List RA) (v6 : Nat) (v8 : Int) (v9 v10 : Nat) : List (Bool × Bool) := (Za4 (Z8 1 (List.drop (0 + (v6 * 1)) (Zb eI L3))) [.i (L3.getD v6 0)], true) :: (Nat.blt v6 L3.length, true) :: ((v6 : Int) == Int.ofNat v6, true) :: Zit L0 a1 L2 L3 L4 L5 L6 v0 v6 v8 v9 v10

noncomputable def Ziu (L0 : List Int) (a1 : Int) (L2 : List RA) (L3 : List Int) (L4 : List R_is) (L5 : List (List Int)) (L6 : List R_si) (v0 : List RA) (v6 : Nat) (v8 : Int) (v9 v10 : Nat) : List (Bool × Bool) := (Nat.blt 0 v10, true) :: ((0 : Int) == Int.ofNat 0, true) :: ((decide ((v10 : Int) > (0 : Int))), true) :: ZfM L0 a1 L2 L3 L4 L5 L6 v0 v6 v8 v9 v10

noncomputable def ZfN (L0 : List Int) (a1 : Int) (L2 : List RA) (L3 : List Int) (L4 : List R_is) (L5 : List (List Int)) (L6 : List R_si) (v0 : List RA) (v6 : Nat) (v8 : Int) (v9 v10 : Nat) : List (Bool × Bool) := (Za4 (Z8 1 (List.drop (((v9 * 2) + (0 * 2)) + 0) (Zb Zt L4))) [.i (aj L4 v9).a0], true) :: Ziu L0 a1 L2 L3 L4 L5 L6 v0 v6 v8 v9 v10

noncomputable def ZfO (L0 : List Int) (a1 : Int) (L2 : List RA) (L3 : List Int) (L4 : List R_is) (L5 : List (List Int)) (L6 : List R_si) (v0 : List RA) (v6 : Nat) (v8 : Int) (v9 v10 : Nat) : List (Bool × Bool) := (Za4 (Z8 1 (List.drop (((v9 * 2) + (0 * 2)) + 1) (Zb Zt L4))) [.s (Za (aj L4 v9).a1)], true) :: (Nat.blt 0 v10, true) :: ((0 : Int) == Int.ofNat 0, true) :: (((aj L4 v9).a0 == (v6 : Int)), true) :: ZfN L0 a1 L2 L3 L4 L5 L6 v0 v6 v8 v9 v10

noncomputable def Zef (L0 : List Int) (a1 : Int) (L2 : List RA) (L3 : List Int) (L4 : List R_is) (L5 : List (List Int)) (L6 : List R_si) (v0 : List RA) (v6 : Nat) (v8 : Int) (v9 v10 : Nat) : List (Bool × Bool) := (dP ((Zbu Tryd.prog 9 (Value.string (Za (aj L4 v9).a1)) (Zba L6)).map (Option.map Prod.snd) = some (some (vi (ZE L6 (aj L4 v9).a1)))), true) :: ZfO L0 a1 L2 L3 L4 L5 L6 v0 v6 v8 v9 v10

noncomputable def Ziv (L0 : List Int) (a1 : Int) (L2 : List RA) (L3 : List Int) (L4 : List R_is) (L5 : List (List Int)) (L6 : List R_si) (v0 : List RA) (v6 : Nat) (v8 : Int) (v9 v10 : Nat) : List (Bool × Bool) := (dP ((0 + (v6 * 4)) + ([vi (ai v0 v6).a0, vi (ZE L6 (aj L4 v9).a1), vi (ai v0 v6).a2, vi (ai v0 v6).a3] : List Value).length ≤ ((Zb Zd v0) : List Value).length ∧ Zex (Zb Zd v0) (0 + (v6 * 4)) [vi (ai v0 v6).a0, vi (ZE L6 (aj L4 v9).a1), vi (ai v0 v6).a2, vi (ai v0 v6).a3] = (Zb Zd (v0.set v6 (aiA v0 v6 L6 L4 v9)))), true) :: (Nat.blt v6 v0.length, true) :: ((v6 : Int) == Int.ofNat v6, true) :: (dP (1 ≤ v10 ∧ v10 ≤ v10), true) :: (dS v10, true) :: ((1 : Int) == Int.ofNat 1, true) :: (((ai v0 v6).a0 == (8 : Int)), true) :: Zef L0 a1 L2 L3 L4 L5 L6 v0 v6 v8 v9 v10

noncomputable def ZfP (L0 : List Int) (a1 : Int) (L2 : List RA) (L3 : List Int) (L4 : List R_is) (L5 : List (List Int)) (L6 : List R_si) (v0 : List RA) (v6 : Nat) (v8 : Int) (v9 v10 : Nat) (y8_0 : Int) : List (Bool × Bool) := (dP (Zbi #[Value.agg #[vi (ai v0 v6).a0, vi (ZE L6 (aj L4 v9).a1), vi (ai v0 v6).a2, vi (ai v0 v6).a3]] ((ai v0 v6).a0) ((ZE L6 (aj L4 v9).a1)) ((ai v0 v6).a2) ((ai v0 v6).a3)  y8_0  9), true) :: Ziv L0 a1 L2 L3 L4 L5 L6 v0 v6 v8 v9 v10

noncomputable def Ziw (L0 : List Int) (a1 : Int) (L2 : List RA) (L3 : List Int) (L4 : List R_is) (L5 : List (List Int)) (L6 : List R_si) (v0 : List RA) (v6 : Nat) (v8 : Int) (v9 v10 : Nat) : List (Bool × Bool) := (dP ((0 + (v6 * 4)) + ([vi (ai v0 v6).a0, vi (ai v0 v6).a1, vi (ZE L6 (aj L4 v9).a1), vi (ai v0 v6).a3] : List Value).length ≤ ((Zb Zd v0) : List Value).length ∧ Zex (Zb Zd v0) (0 + (v6 * 4)) [vi (ai v0 v6).a0, vi (ai v0 v6).a1, vi (ZE L6 (aj L4 v9).a1), vi (ai v0 v6).a3] = (Zb Zd (v0.set v6 (aiB v0 v6 L6 L4 v9)))), true) :: (Nat.blt v6 v0.length, true) :: ((v6 : Int) == Int.ofNat v6, true) :: (dP (1 ≤ v10 ∧ v10 ≤ v10), true) :: (dS v10, true) :: ((1 : Int) == Int.ofNat 1, true) :: (((ai v0 v6).a0 == (9 : Int)), true) :: (((ai v0 v6).a0 == (8 : Int)), false) :: Zef L0 a1 L2 L3 L4 L5 L6 v0 v6 v8 v9 v10

noncomputable def ZfQ (L0 : List Int) (a1 : Int) (L2 : List RA) (L3 : List Int) (L4 : List R_is) (L5 : List (List Int)) (L6 : List R_si) (v0 : List RA) (v6 : Nat) (v8 : Int) (v9 v10 : Nat) (y9_0 : Int) : List (Bool × Bool) := (dP (Zbi #[Value.agg #[vi (ai v0 v6).a0, vi (ai v0 v6).a1, vi (ZE L6 (aj L4 v9).a1), vi (ai v0 v6).a3]] ((ai v0 v6).a0) ((ai v0 v6).a1) ((ZE L6 (aj L4 v9).a1)) ((ai v0 v6).a3)  y9_0  9), true) :: Ziw L0 a1 L2 L3 L4 L5 L6 v0 v6 v8 v9 v10

noncomputable def Zix (L0 : List Int) (a1 : Int) (L2 : List RA) (L3 : List Int) (L4 : List R_is) (L5 : List (List Int)) (L6 : List R_si) (v0 : List RA) (v6 : Nat) (v8 : Int) (v9 v10 : Nat) : List (Bool × Bool) := (dP ((0 + (v6 * 4)) + ([vi (ai v0 v6).a0, vi (ai v0 v6).a1, vi (ai v0 v6).a2, vi (ai v0 v6).a3] : List Value).length ≤ ((Zb Zd v0) : List Value).length ∧ Zex (Zb Zd v0) (0 + (v6 * 4)) [vi (ai v0 v6).a0, vi (ai v0 v6).a1, vi (ai v0 v6).a2, vi (ai v0 v6).a3] = (Zb Zd (v0.set v6 (aiC v0 v6)))), true) :: (Nat.blt v6 v0.length, true) :: ((v6 : Int) == Int.ofNat v6, true) :: (dP (1 ≤ v10 ∧ v10 ≤ v10), true) :: (dS v10, true) :: ((1 : Int) == Int.ofNat 1, true) :: (((ai v0 v6).a0 == (9 : Int)), false) :: (((ai v0 v6).a0 == (8 : Int)), false) :: Zef L0 a1 L2 L3 L4 L5 L6 v0 v6 v8 v9 v10

noncomputable def ZfR (L0 : List Int) (a1 : Int) (L2 : List RA) (L3 : List Int) (L4 : List R_is) (L5 : List (List Int)) (L6 : List R_si) (v0 : List RA) (v6 : Nat) (v8 : Int) (v9 v10 : Nat) (y9_0 : Int) : List (Bool × Bool) := (dP (Zbi #[Value.agg #[vi (ai v0 v6).a0, vi (ai v0 v6).a1, vi (ai v0 v6).a2, vi (ai v0 v6).a3]] ((ai v0 v6).a0) ((ai v0 v6).a1) ((ai v0 v6).a2) ((ai v0 v6).a3)  y9_0  9), true) :: Zix L0 a1 L2 L3 L4 L5 L6 v0 v6 v8 v9 v10

noncomputable def ZfS (L0 : List Int) (a1 : Int) (L2 : List RA) (L3 : List Int) (L4 : List R_is) (L5 : List (List Int)) (L6 : List R_si) (v0 : List RA) (v6 : Nat) (v8 : Int) (v9 v10 : Nat) (y6_0 : Int) : List (Bool × Bool) := (dP (Zbi #[Value.agg #[vi (ai v0 v6).a0, vi (ai v0 v6).a1, vi (ai v0 v6).a2, vi (ai v0 v6).a3]] ((ai v0 v6).a0) ((ai v0 v6).a1) ((ai v0 v6).a2) ((ai v0 v6).a3)  y6_0  7), true) :: (((aj L4 v9).a0 == (v6 : Int)), false) :: ZfN L0 a1 L2 L3 L4 L5 L6 v0 v6 v8 v9 v10

noncomputable def ZfT (L0 : List Int) (a1 : Int) (L2 : List RA) (L3 : List Int) (L4 : List R_is) (L5 : List (List Int)) (L6 : List R_si) (v0 : List RA) (v6 : Nat) (v8 : Int) (v9 v10 : Nat) (y4_0 : Int) : List (Bool × Bool) := (dP (Zbi #[Value.agg #[vi (ai v0 v6).a0, vi (ai v0 v6).a1, vi (ai v0 v6).a2, vi (ai v0 v6).a3]] ((ai v0 v6).a0) ((ai v0 v6).a1) ((ai v0 v6).a2) ((ai v0 v6).a3)  y4_0  7), true) :: ((decide ((v10 : Int) > (0 : Int))), false) :: ZfM L0 a1 L2 L3 L4 L5 L6 v0 v6 v8 v9 v10

end Ev
end Go.Proofs.YtlbbiflodemagaaDoor
/- Calls do what the plain functions say. -/
namespace Go.Proofs.YtlbbiflodemagaaDoor
open Go.RowKit
namespace Ev
set_option linter.unusedVariables false
set_option maxRecDepth 100000
set_option maxHeartbeats 4000000 in
theorem ZlB (L0 : List Int) (a1 : Int) (L2 : List RA) (L3 : List Int) (L4 : List R_is) (L5 : List (List Int)) (L6 : List R_si) (v0 : List RA) (v6 : Nat) (v8 : Int) (v9 v10 N : Nat) : (Z7 L0 a1 L2 L3 L4 L5 L6 N).Ok Tryd.prog ZG (.h1m1 v0 v6 v8 v9 v10 : asm_reader_aimX) (Zbd L0 a1 L2 L3 L4 L5 L6 N (.h1m1 v0 v6 v8 v9 v10 : asm_reader_aimX)) := by
 show (Z7 L0 a1 L2 L3 L4 L5 L6 N).Ok Tryd.prog ZG (.h1m1 v0 v6 v8 v9 v10 : asm_reader_aimX) (Zbq L0 a1 L2 L3 L4 L5 L6 N v0 v6 v8 v9 v10)
 unfold Zbq
 refine Mach.ok_ite (fun g0 => ?_) (fun g0 => ?_)
 ·
  have w1 : OkL (Zis L0 a1 L2 L3 L4 L5 L6 v0 v6 v8 v9 v10) :=
   oY <| Z9
  refine Mach.ok_ite (fun g1 => ?_) (fun _ => Mach.ok_none)
  have w2 : OkL (Zit L0 a1 L2 L3 L4 L5 L6 v0 v6 v8 v9 v10) :=
   Zc (Zc0 (E := Zd) (L := v0) (i := v6) (q := 0) (by omega) (show (0 + (v6 * 4)) = v6 * 4 + 0 from by omega) (show 0 + 4 ≤ 4 from by decide) rfl rfl) <| oB <| oI <| w1
  refine Mach.ok_ite (fun g2 => ?_) (fun _ => Mach.ok_none)
  have w3 : OkL (ZfM L0 a1 L2 L3 L4 L5 L6 v0 v6 v8 v9 v10) :=
   Zc (Zc0 (E := eI) (L := L3) (i := v6) (q := 0) (by omega) (show (0 + (v6 * 1)) = v6 * 1 + 0 from by omega) (show 0 + 1 ≤ 1 from by decide) rfl rfl) <| oB <| oI <| w2
  refine Mach.ok_ite (fun g3 => ?_) (fun g3 => ?_)
  ·
   have w4 : OkL (Ziu L0 a1 L2 L3 L4 L5 L6 v0 v6 v8 v9 v10) :=
    oB <| oI <| oY <| w3
   refine Mach.ok_ite (fun g4 => ?_) (fun _ => Mach.ok_none)
   have w5 : OkL (ZfN L0 a1 L2 L3 L4 L5 L6 v0 v6 v8 v9 v10) :=
    Zc (Zc0 (E := Zt) (L := L4) (i := v9) (q := 0) (by omega) (show (((v9 * 2) + (0 * 2)) + 0) = v9 * 2 + 0 from by omega) (show 0 + 1 ≤ 2 from by decide) rfl rfl) <| w4
   refine Mach.ok_ite (fun g5 => ?_) (fun g5 => ?_)
   ·
    have w6 : OkL (ZfO L0 a1 L2 L3 L4 L5 L6 v0 v6 v8 v9 v10) :=
     Zc (Zc0 (E := Zt) (L := L4) (i := v9) (q := 1) (by omega) (show (((v9 * 2) + (0 * 2)) + 1) = v9 * 2 + 1 from by omega) (show 1 + 1 ≤ 2 from by decide) rfl rfl) <| oB <| oI <| oT <| w5
    refine Mach.ok_ite (fun g6 => ?_) (fun g6 => ?_)
    ·
     have w7 : OkL (Zef L0 a1 L2 L3 L4 L5 L6 v0 v6 v8 v9 v10) :=
      Zc (Zp (ZpA rfl (by assumption))) <| w6
     refine Mach.ok_ite (fun g7 => ?_) (fun g7 => ?_)
     ·
      have w8 : OkL (Ziv L0 a1 L2 L3 L4 L5 L6 v0 v6 v8 v9 v10) :=
       Zc (Zp (ZhP (E := Zd) (L := v0) (i := v6) (q := 0) (l := [vi (ai v0 v6).a0, vi (ZE L6 (aj L4 v9).a1), vi (ai v0 v6).a2, vi (ai v0 v6).a3]) (aiA v0 v6 L6 L4 v9) (by omega) (show (0 + (v6 * 4)) = v6 * 4 + 0 from by omega) (show 0 + 4 ≤ 4 from by decide) rfl)) <| oB <| oI <| Zc (Zp ⟨ltA, ltA⟩) <| oR <| oI <| oT <| w7
      refine Mach.ok_bind (fun z8 c8 => ?_)
      cases z8 with
      | r0 y8_0 =>
       have w9 : OkL (ZfP L0 a1 L2 L3 L4 L5 L6 v0 v6 v8 v9 v10 y8_0) :=
        Zc (Zp (Zbz #[Value.agg #[vi (ai v0 v6).a0, vi (ZE L6 (aj L4 v9).a1), vi (ai v0 v6).a2, vi (ai v0 v6).a3]] ((ai v0 v6).a0) ((ZE L6 (aj L4 v9).a1)) ((ai v0 v6).a2) ((ai v0 v6).a3)  y8_0 N c8  9 rfl dcd dcd)) <| w8
       refine Mach.ok_ite (fun g9 => ?_) (fun g9 => ?_)
       ·
        exact Mach.ok_thr (M := Z7 L0 a1 L2 L3 L4 L5 L6 N) (cd := 1000000) (cm := 0) (r := (.r0 ((L3.getD v6 0)) : Z0)) (fu := 4000) (orc := (Zs [(0, true), (1, true), (2, true), (4, true), (5, true)] [] [(0, v6), (1, v6), (2, 0), (3, 0), (4, v6)] [(0, (aic v0 v6)), (2, [.i (L3.getD v6 0)]), (5, [.i (aj L4 v9).a0]), (8, [.s (Za (aj L4 v9).a1)])] [(2, .lk (some (vi (ZE L6 (aj L4 v9).a1)))), (6, .sl 1 v10), (7, .st (Zb Zd (v0.set v6 (aiA v0 v6 L6 L4 v9)))), (9, (Zag ((ai v0 v6).a0) ((ZE L6 (aj L4 v9).a1)) ((ai v0 v6).a2) ((ai v0 v6).a3)  y8_0  9))])) (u := Value.iface 88 (Value.agg #[vi (L3.getD v6 0)])) (ob := (((y8_0 != (0 : Int)), true) :: ZfP L0 a1 L2 L3 L4 L5 L6 v0 v6 v8 v9 v10 y8_0)) (fun gv => by as_aux_lemma => kernel_rfl) (oD <| w9) rfl (by rfl) (by rfl)
       ·
        refine Mach.ok_ite (fun g10 => ?_) (fun _ => Mach.ok_none)
        exact Mach.ok_next (M := Z7 L0 a1 L2 L3 L4 L5 L6 N) (cd := 1000000) (cm := 0) (y := (.h1m1 ((v0.set v6 (aiA v0 v6 L6 L4 v9))) ((v6 + 1)) ((L3.getD v6 0)) ((v9 + 1)) ((v10 - 1)) : asm_reader_aimX)) (fu := 4000) (orc := (Zs [(0, true), (1, true), (2, true), (4, true), (5, false)] [(0, (((v6 + 1) : Nat) : Int))] [(0, v6), (1, v6), (2, 0), (3, 0), (4, v6)] [(0, (aic v0 v6)), (2, [.i (L3.getD v6 0)]), (5, [.i (aj L4 v9).a0]), (8, [.s (Za (aj L4 v9).a1)])] [(2, .lk (some (vi (ZE L6 (aj L4 v9).a1)))), (6, .sl 1 v10), (7, .st (Zb Zd (v0.set v6 (aiA v0 v6 L6 L4 v9)))), (9, (Zag ((ai v0 v6).a0) ((ZE L6 (aj L4 v9).a1)) ((ai v0 v6).a2) ((ai v0 v6).a3)  y8_0  9))])) (live := [0, 1, 2, 3, 4, 5]) (tv := fun _ => [some (vp 0 0), some (vs 1 0 v0.length v0.length), some (vi (L2.length : Int)), some (vi (((v6 + 1) : Nat) : Int))]) (bl := [some (.cells [Value.string (Za L0), vi (L3.getD v6 0), vs 1 0 v0.length v0.length, vs 2 0 L3.length L3.length, Value.slice (some ⟨3, ((v9 * 2) + (1 * 2)), none⟩) (v10 - 1) (v10 - 1), vs 4 0 L5.length L5.length, Value.map (some 5)] 57), some (.cells (Zb Zd (v0.set v6 (aiA v0 v6 L6 L4 v9))) 24 true), some (.cells (Zb eI L3) 3 true), some (.cells (Zb Zt L4) 122 true), some (.cells (Zb Zr L5) 9 true), some (.ro (Zk L6) true)]) (ob := (((IntKind.i64.wrap ((v6 : Int) + (1 : Int))) == (((v6 + 1) : Nat) : Int), true) :: ((y8_0 != (0 : Int)), false) :: ZfP L0 a1 L2 L3 L4 L5 L6 v0 v6 v8 v9 v10 y8_0)) rfl (show 1 ∈ ZJ (Zbb 1) from by decide +kernel) (fun gv => by as_aux_lemma => kernel_rfl) (Zc (beq_iff_eq.2 ((wrap_i64 ltA).trans (by first | rfl | omega))) <| oE <| w9) rfl (by decide) (by rfl) (fun _ => ⟨rr, ⟨⟨Eq.trans (show (vs 1 0 (v0.set v6 (aiA v0 v6 L6 L4 v9)).length (v0.set v6 (aiA v0 v6 L6 L4 v9)).length : Value) = vs 1 0 v0.length v0.length from (Zah rfl eqA eqA)) (by rfl), by rfl⟩, ⟨rr, ⟨rr, trivial⟩⟩⟩⟩) ⟨⟨rfl, ⟨[], (show ([Value.string (Za L0), vi (L3.getD v6 0), vs 1 0 v0.length v0.length, vs 2 0 L3.length L3.length, Value.slice (some ⟨3, ((v9 * 2) + (1 * 2)), none⟩) (v10 - 1) (v10 - 1), vs 4 0 L5.length L5.length, Value.map (some 5)] : List Value) = _ from (Ze rfl (Ze rfl (Ze (Zah rfl eqA eqA) (Ze rfl (Ze (Zah eqA rfl rfl) (Ze rfl (Ze rfl rfl))))))).symm)⟩, by rfl⟩, ⟨(Zl (E := Zd) (α := RA) _ (v0.set v6 (aiA v0 v6 L6 L4 v9)) _), ⟨(Zl (E := eI) (α := Int) _ L3 _), ⟨(Zl (E := Zt) (α := R_is) _ L4 _), ⟨(Zl (E := Zr) (α := List Int) _ L5 _), ⟨(show Zk L6 = Zk L6 from rfl), trivial⟩⟩⟩⟩⟩⟩
     ·
      refine Mach.ok_ite (fun g8 => ?_) (fun g8 => ?_)
      ·
       have w9 : OkL (Ziw L0 a1 L2 L3 L4 L5 L6 v0 v6 v8 v9 v10) :=
        Zc (Zp (ZhP (E := Zd) (L := v0) (i := v6) (q := 0) (l := [vi (ai v0 v6).a0, vi (ai v0 v6).a1, vi (ZE L6 (aj L4 v9).a1), vi (ai v0 v6).a3]) (aiB v0 v6 L6 L4 v9) (by omega) (show (0 + (v6 * 4)) = v6 * 4 + 0 from by omega) (show 0 + 4 ≤ 4 from by decide) rfl)) <| oB <| oI <| Zc (Zp ⟨ltA, ltA⟩) <| oR <| oI <| oT <| oF <| w7
       refine Mach.ok_bind (fun z9 c9 => ?_)
       cases z9 with
       | r0 y9_0 =>
        have w10 : OkL (ZfQ L0 a1 L2 L3 L4 L5 L6 v0 v6 v8 v9 v10 y9_0) :=
         Zc (Zp (Zbz #[Value.agg #[vi (ai v0 v6).a0, vi (ai v0 v6).a1, vi (ZE L6 (aj L4 v9).a1), vi (ai v0 v6).a3]] ((ai v0 v6).a0) ((ai v0 v6).a1) ((ZE L6 (aj L4 v9).a1)) ((ai v0 v6).a3)  y9_0 N c9  9 rfl dcd dcd)) <| w9
        refine Mach.ok_ite (fun g10 => ?_) (fun g10 => ?_)
        ·
         exact Mach.ok_thr (M := Z7 L0 a1 L2 L3 L4 L5 L6 N) (cd := 1000000) (cm := 0) (r := (.r0 ((L3.getD v6 0)) : Z0)) (fu := 4000) (orc := (Zs [(0, true), (1, true), (2, true), (4, false), (5, true), (6, true)] [] [(0, v6), (1, v6), (2, 0), (3, 0), (4, v6)] [(0, (aic v0 v6)), (2, [.i (L3.getD v6 0)]), (5, [.i (aj L4 v9).a0]), (8, [.s (Za (aj L4 v9).a1)])] [(2, .lk (some (vi (ZE L6 (aj L4 v9).a1)))), (6, .sl 1 v10), (7, .st (Zb Zd (v0.set v6 (aiB v0 v6 L6 L4 v9)))), (9, (Zag ((ai v0 v6).a0) ((ai v0 v6).a1) ((ZE L6 (aj L4 v9).a1)) ((ai v0 v6).a3)  y9_0  9))])) (u := Value.iface 88 (Value.agg #[vi (L3.getD v6 0)])) (ob := (((y9_0 != (0 : Int)), true) :: ZfQ L0 a1 L2 L3 L4 L5 L6 v0 v6 v8 v9 v10 y9_0)) (fun gv => by as_aux_lemma => kernel_rfl) (oD <| w10) rfl (by rfl) (by rfl)
        ·
         refine Mach.ok_ite (fun g11 => ?_) (fun _ => Mach.ok_none)
         exact Mach.ok_next (M := Z7 L0 a1 L2 L3 L4 L5 L6 N) (cd := 1000000) (cm := 0) (y := (.h1m1 ((v0.set v6 (aiB v0 v6 L6 L4 v9))) ((v6 + 1)) ((L3.getD v6 0)) ((v9 + 1)) ((v10 - 1)) : asm_reader_aimX)) (fu := 4000) (orc := (Zs [(0, true), (1, true), (2, true), (4, false), (5, true), (6, false)] [(0, (((v6 + 1) : Nat) : Int))] [(0, v6), (1, v6), (2, 0), (3, 0), (4, v6)] [(0, (aic v0 v6)), (2, [.i (L3.getD v6 0)]), (5, [.i (aj L4 v9).a0]), (8, [.s (Za (aj L4 v9).a1)])] [(2, .lk (some (vi (ZE L6 (aj L4 v9).a1)))), (6, .sl 1 v10), (7, .st (Zb Zd (v0.set v6 (aiB v0 v6 L6 L4 v9)))), (9, (Zag ((ai v0 v6).a0) ((ai v0 v6).a1) ((ZE L6 (aj L4 v9).a1)) ((ai v0 v6).a3)  y9_0  9))])) (live := [0, 1, 2, 3, 4, 5]) (tv := fun _ => [some (vp 0 0), some (vs 1 0 v0.length v0.length), some (vi (L2.length : Int)), some (vi (((v6 + 1) : Nat) : Int))]) (bl := [some (.cells [Value.string (Za L0), vi (L3.getD v6 0), vs 1 0 v0.length v0.length, vs 2 0 L3.length L3.length, Value.slice (some ⟨3, ((v9 * 2) + (1 * 2)), none⟩) (v10 - 1) (v10 - 1), vs 4 0 L5.length L5.length, Value.map (some 5)] 57), some (.cells (Zb Zd (v0.set v6 (aiB v0 v6 L6 L4 v9))) 24 true), some (.cells (Zb eI L3) 3 true), some (.cells (Zb Zt L4) 122 true), some (.cells (Zb Zr L5) 9 true), some (.ro (Zk L6) true)]) (ob := (((IntKind.i64.wrap ((v6 : Int) + (1 : Int))) == (((v6 + 1) : Nat) : Int), true) :: ((y9_0 != (0 : Int)), false) :: ZfQ L0 a1 L2 L3 L4 L5 L6 v0 v6 v8 v9 v10 y9_0)) rfl (show 1 ∈ ZJ (Zbb 1) from by decide +kernel) (fun gv => by as_aux_lemma => kernel_rfl) (Zc (beq_iff_eq.2 ((wrap_i64 ltA).trans (by first | rfl | omega))) <| oE <| w10) rfl (by decide) (by rfl) (fun _ => ⟨rr, ⟨⟨Eq.trans (show (vs 1 0 (v0.set v6 (aiB v0 v6 L6 L4 v9)).length (v0.set v6 (aiB v0 v6 L6 L4 v9)).length : Value) = vs 1 0 v0.length v0.length from (Zah rfl eqA eqA)) (by rfl), by rfl⟩, ⟨rr, ⟨rr, trivial⟩⟩⟩⟩) ⟨⟨rfl, ⟨[], (show ([Value.string (Za L0), vi (L3.getD v6 0), vs 1 0 v0.length v0.length, vs 2 0 L3.length L3.length, Value.slice (some ⟨3, ((v9 * 2) + (1 * 2)), none⟩) (v10 - 1) (v10 - 1), vs 4 0 L5.length L5.length, Value.map (some 5)] : List Value) = _ from (Ze rfl (Ze rfl (Ze (Zah rfl eqA eqA) (Ze rfl (Ze (Zah eqA rfl rfl) (Ze rfl (Ze rfl rfl))))))).symm)⟩, by rfl⟩, ⟨(Zl (E := Zd) (α := RA) _ (v0.set v6 (aiB v0 v6 L6 L4 v9)) _), ⟨(Zl (E := eI) (α := Int) _ L3 _), ⟨(Zl (E := Zt) (α := R_is) _ L4 _), ⟨(Zl (E := Zr) (α := List Int) _ L5 _), ⟨(show Zk L6 = Zk L6 from rfl), trivial⟩⟩⟩⟩⟩⟩
      ·
       have w9 : OkL (Zix L0 a1 L2 L3 L4 L5 L6 v0 v6 v8 v9 v10) :=
        Zc (Zp (ZhP (E := Zd) (L := v0) (i := v6) (q := 0) (l := [vi (ai v0 v6).a0, vi (ai v0 v6).a1, vi (ai v0 v6).a2, vi (ai v0 v6).a3]) (aiC v0 v6) (by omega) (show (0 + (v6 * 4)) = v6 * 4 + 0 from by omega) (show 0 + 4 ≤ 4 from by decide) rfl)) <| oB <| oI <| Zc (Zp ⟨ltA, ltA⟩) <| oR <| oI <| oF <| oF <| w7
       refine Mach.ok_bind (fun z9 c9 => ?_)
       cases z9 with
       | r0 y9_0 =>
        have w10 : OkL (ZfR L0 a1 L2 L3 L4 L5 L6 v0 v6 v8 v9 v10 y9_0) :=
         Zc (Zp (Zbz #[Value.agg #[vi (ai v0 v6).a0, vi (ai v0 v6).a1, vi (ai v0 v6).a2, vi (ai v0 v6).a3]] ((ai v0 v6).a0) ((ai v0 v6).a1) ((ai v0 v6).a2) ((ai v0 v6).a3)  y9_0 N c9  9 rfl dcd dcd)) <| w9
        refine Mach.ok_ite (fun g10 => ?_) (fun g10 => ?_)
        ·
         exact Mach.ok_thr (M := Z7 L0 a1 L2 L3 L4 L5 L6 N) (cd := 1000000) (cm := 0) (r := (.r0 ((L3.getD v6 0)) : Z0)) (fu := 4000) (orc := (Zs [(0, true), (1, true), (2, true), (4, false), (5, false), (6, true)] [] [(0, v6), (1, v6), (2, 0), (3, 0), (4, v6)] [(0, (aic v0 v6)), (2, [.i (L3.getD v6 0)]), (5, [.i (aj L4 v9).a0]), (8, [.s (Za (aj L4 v9).a1)])] [(2, .lk (some (vi (ZE L6 (aj L4 v9).a1)))), (5, .sl 1 v10), (6, .st (Zb Zd (v0.set v6 (aiC v0 v6)))), (8, (Zag ((ai v0 v6).a0) ((ai v0 v6).a1) ((ai v0 v6).a2) ((ai v0 v6).a3)  y9_0  9))])) (u := Value.iface 88 (Value.agg #[vi (L3.getD v6 0)])) (ob := (((y9_0 != (0 : Int)), true) :: ZfR L0 a1 L2 L3 L4 L5 L6 v0 v6 v8 v9 v10 y9_0)) (fun gv => by as_aux_lemma => kernel_rfl) (oD <| w10) rfl (by rfl) (by rfl)
        ·
         refine Mach.ok_ite (fun g11 => ?_) (fun _ => Mach.ok_none)
         exact Mach.ok_next (M := Z7 L0 a1 L2 L3 L4 L5 L6 N) (cd := 1000000) (cm := 0) (y := (.h1m1 ((v0.set v6 (aiC v0 v6))) ((v6 + 1)) ((L3.getD v6 0)) ((v9 + 1)) ((v10 - 1)) : asm_reader_aimX)) (fu := 4000) (orc := (Zs [(0, true), (1, true), (2, true), (4, false), (5, false), (6, false)] [(0, (((v6 + 1) : Nat) : Int))] [(0, v6), (1, v6), (2, 0), (3, 0), (4, v6)] [(0, (aic v0 v6)), (2, [.i (L3.getD v6 0)]), (5, [.i (aj L4 v9).a0]), (8, [.s (Za (aj L4 v9).a1)])] [(2, .lk (some (vi (ZE L6 (aj L4 v9).a1)))), (5, .sl 1 v10), (6, .st (Zb Zd (v0.set v6 (aiC v0 v6)))), (8, (Zag ((ai v0 v6).a0) ((ai v0 v6).a1) ((ai v0 v6).a2) ((ai v0 v6).a3)  y9_0  9))])) (live := [0, 1, 2, 3, 4, 5]) (tv := fun _ => [some (vp 0 0), some (vs 1 0 v0.length v0.length), some (vi (L2.length : Int)), some (vi (((v6 + 1) : Nat) : Int))]) (bl := [some (.cells [Value.string (Za L0), vi (L3.getD v6 0), vs 1 0 v0.length v0.length, vs 2 0 L3.length L3.length, Value.slice (some ⟨3, ((v9 * 2) + (1 * 2)), none⟩) (v10 - 1) (v10 - 1), vs 4 0 L5.length L5.length, Value.map (some 5)] 57), some (.cells (Zb Zd (v0.set v6 (aiC v0 v6))) 24 true), some (.cells (Zb eI L3) 3 true), some (.cells (Zb Zt L4) 122 true), some (.cells (Zb Zr L5) 9 true), some (.ro (Zk L6) true)]) (ob := (((IntKind.i64.wrap ((v6 : Int) + (1 : Int))) == (((v6 + 1) : Nat) : Int), true) :: ((y9_0 != (0 : Int)), false) :: ZfR L0 a1 L2 L3 L4 L5 L6 v0 v6 v8 v9 v10 y9_0)) rfl (show 1 ∈ ZJ (Zbb 1) from by decide +kernel) (fun gv => by as_aux_lemma => kernel_rfl) (Zc (beq_iff_eq.2 ((wrap_i64 ltA).trans (by first | rfl | omega))) <| oE <| w10) rfl (by decide) (by rfl) (fun _ => ⟨rr, ⟨⟨Eq.trans (show (vs 1 0 (v0.set v6 (aiC v0 v6)).length (v0.set v6 (aiC v0 v6)).length : Value) = vs 1 0 v0.length v0.length from (Zah rfl eqA eqA)) (by rfl), by rfl⟩, ⟨rr, ⟨rr, trivial⟩⟩⟩⟩) ⟨⟨rfl, ⟨[], (show ([Value.string (Za L0), vi (L3.getD v6 0), vs 1 0 v0.length v0.length, vs 2 0 L3.length L3.length, Value.slice (some ⟨3, ((v9 * 2) + (1 * 2)), none⟩) (v10 - 1) (v10 - 1), vs 4 0 L5.length L5.length, Value.map (some 5)] : List Value) = _ from (Ze rfl (Ze rfl (Ze (Zah rfl eqA eqA) (Ze rfl (Ze (Zah eqA rfl rfl) (Ze rfl (Ze rfl rfl))))))).symm)⟩, by rfl⟩, ⟨(Zl (E := Zd) (α := RA) _ (v0.set v6 (aiC v0 v6)) _), ⟨(Zl (E := eI) (α := Int) _ L3 _), ⟨(Zl (E := Zt) (α := R_is) _ L4 _), ⟨(Zl (E := Zr) (α := List Int) _ L5 _), ⟨(show Zk L6 = Zk L6 from rfl), trivial⟩⟩⟩⟩⟩⟩
    ·
     exact Mach.ok_thr (M := Z7 L0 a1 L2 L3 L4 L5 L6 N) (cd := 1000000) (cm := 0) (r := (.r0 ((L3.getD v6 0)) : Z0)) (fu := 4000) (orc := (Z2 [o1, o1, o1] [] [(0, v6), (1, v6), (2, 0), (3, 0)] [(0, (aic v0 v6)), (2, [.i (L3.getD v6 0)]), (5, [.i (aj L4 v9).a0]), (8, [.s (Za (aj L4 v9).a1)])] [(2, .lk (none))])) (u := Value.iface 88 (Value.agg #[vi (L3.getD v6 0)])) (ob := ((dP ((Zbu Tryd.prog 9 (Value.string (Za (aj L4 v9).a1)) (Zba L6)).map (Option.map Prod.snd) = some (none)), true) :: ZfO L0 a1 L2 L3 L4 L5 L6 v0 v6 v8 v9 v10)) (fun gv => by as_aux_lemma => kernel_rfl) (Zc (Zp (Znb rfl (by assumption))) <| w6) rfl (by rfl) (by rfl)
   ·
    refine Mach.ok_bind (fun z6 c6 => ?_)
    cases z6 with
    | r0 y6_0 =>
     have w7 : OkL (ZfS L0 a1 L2 L3 L4 L5 L6 v0 v6 v8 v9 v10 y6_0) :=
      Zc (Zp (Zbz #[Value.agg #[vi (ai v0 v6).a0, vi (ai v0 v6).a1, vi (ai v0 v6).a2, vi (ai v0 v6).a3]] ((ai v0 v6).a0) ((ai v0 v6).a1) ((ai v0 v6).a2) ((ai v0 v6).a3)  y6_0 N c6  7 rfl dcd dcd)) <| oF <| w5
     refine Mach.ok_ite (fun g7 => ?_) (fun g7 => ?_)
     ·
      exact Mach.ok_thr (M := Z7 L0 a1 L2 L3 L4 L5 L6 N) (cd := 1000000) (cm := 0) (r := (.r0 ((L3.getD v6 0)) : Z0)) (fu := 4000) (orc := (Z2 [o1, o1, o0, o1] [] [(0, v6), (1, v6), (2, 0)] [(0, (aic v0 v6)), (2, [.i (L3.getD v6 0)]), (5, [.i (aj L4 v9).a0])] [(2, (Zag ((ai v0 v6).a0) ((ai v0 v6).a1) ((ai v0 v6).a2) ((ai v0 v6).a3)  y6_0  7))])) (u := Value.iface 88 (Value.agg #[vi (L3.getD v6 0)])) (ob := (((y6_0 != (0 : Int)), true) :: ZfS L0 a1 L2 L3 L4 L5 L6 v0 v6 v8 v9 v10 y6_0)) (fun gv => by as_aux_lemma => kernel_rfl) (oD <| w7) rfl (by rfl) (by rfl)
     ·
      refine Mach.ok_ite (fun g8 => ?_) (fun _ => Mach.ok_none)
      exact Mach.ok_next (M := Z7 L0 a1 L2 L3 L4 L5 L6 N) (cd := 1000000) (cm := 0) (y := (.h1m1 (v0) ((v6 + 1)) ((L3.getD v6 0)) (v9) (v10) : asm_reader_aimX)) (fu := 4000) (orc := (Z2 [o1, o1, o0, o0] [(0, (((v6 + 1) : Nat) : Int))] [(0, v6), (1, v6), (2, 0)] [(0, (aic v0 v6)), (2, [.i (L3.getD v6 0)]), (5, [.i (aj L4 v9).a0])] [(2, (Zag ((ai v0 v6).a0) ((ai v0 v6).a1) ((ai v0 v6).a2) ((ai v0 v6).a3)  y6_0  7))])) (live := [0, 1, 2, 3, 4, 5]) (tv := fun _ => [some (vp 0 0), some (vs 1 0 v0.length v0.length), some (vi (L2.length : Int)), some (vi (((v6 + 1) : Nat) : Int))]) (bl := [some (.cells [Value.string (Za L0), vi (L3.getD v6 0), vs 1 0 v0.length v0.length, vs 2 0 L3.length L3.length, vs 3 (v9 * 2) v10 v10, vs 4 0 L5.length L5.length, Value.map (some 5)] 57), some (.cells (Zb Zd v0) 24 true), some (.cells (Zb eI L3) 3 true), some (.cells (Zb Zt L4) 122 true), some (.cells (Zb Zr L5) 9 true), some (.ro (Zk L6) true)]) (ob := (((IntKind.i64.wrap ((v6 : Int) + (1 : Int))) == (((v6 + 1) : Nat) : Int), true) :: ((y6_0 != (0 : Int)), false) :: ZfS L0 a1 L2 L3 L4 L5 L6 v0 v6 v8 v9 v10 y6_0)) rfl (show 1 ∈ ZJ (Zbb 1) from by decide +kernel) (fun gv => by as_aux_lemma => kernel_rfl) (Zc (beq_iff_eq.2 ((wrap_i64 ltA).trans (by first | rfl | omega))) <| oE <| w7) rfl (by decide) (by rfl) (fun _ => ⟨rr, ⟨rr, ⟨rr, ⟨rr, trivial⟩⟩⟩⟩) ⟨sm, ⟨(Zl (E := Zd) (α := RA) _ v0 _), ⟨(Zl (E := eI) (α := Int) _ L3 _), ⟨(Zl (E := Zt) (α := R_is) _ L4 _), ⟨(Zl (E := Zr) (α := List Int) _ L5 _), ⟨(show Zk L6 = Zk L6 from rfl), trivial⟩⟩⟩⟩⟩⟩
  ·
   refine Mach.ok_bind (fun z4 c4 => ?_)
   cases z4 with
   | r0 y4_0 =>
    have w5 : OkL (ZfT L0 a1 L2 L3 L4 L5 L6 v0 v6 v8 v9 v10 y4_0) :=
     Zc (Zp (Zbz #[Value.agg #[vi (ai v0 v6).a0, vi (ai v0 v6).a1, vi (ai v0 v6).a2, vi (ai v0 v6).a3]] ((ai v0 v6).a0) ((ai v0 v6).a1) ((ai v0 v6).a2) ((ai v0 v6).a3)  y4_0 N c4  7 rfl dcd dcd)) <| oN <| w3
    refine Mach.ok_ite (fun g5 => ?_) (fun g5 => ?_)
    ·
     exact Mach.ok_thr (M := Z7 L0 a1 L2 L3 L4 L5 L6 N) (cd := 1000000) (cm := 0) (r := (.r0 ((L3.getD v6 0)) : Z0)) (fu := 4000) (orc := (Z2 [o1, o0, o1] [] [(0, v6), (1, v6)] [(0, (aic v0 v6)), (2, [.i (L3.getD v6 0)])] [(2, (Zag ((ai v0 v6).a0) ((ai v0 v6).a1) ((ai v0 v6).a2) ((ai v0 v6).a3)  y4_0  7))])) (u := Value.iface 88 (Value.agg #[vi (L3.getD v6 0)])) (ob := (((y4_0 != (0 : Int)), true) :: ZfT L0 a1 L2 L3 L4 L5 L6 v0 v6 v8 v9 v10 y4_0)) (fun gv => by as_aux_lemma => kernel_rfl) (oD <| w5) rfl (by rfl) (by rfl)
    ·
     refine Mach.ok_ite (fun g6 => ?_) (fun _ => Mach.ok_none)
     exact Mach.ok_next (M := Z7 L0 a1 L2 L3 L4 L5 L6 N) (cd := 1000000) (cm := 0) (y := (.h1m1 (v0) ((v6 + 1)) ((L3.getD v6 0)) (v9) (v10) : asm_reader_aimX)) (fu := 4000) (orc := (Z2 [o1, o0, o0] [(0, (((v6 + 1) : Nat) : Int))] [(0, v6), (1, v6)] [(0, (aic v0 v6)), (2, [.i (L3.getD v6 0)])] [(2, (Zag ((ai v0 v6).a0) ((ai v0 v6).a1) ((ai v0 v6).a2) ((ai v0 v6).a3)  y4_0  7))])) (live := [0, 1, 2, 3, 4, 5]) (tv := fun _ => [some (vp 0 0), some (vs 1 0 v0.length v0.length), some (vi (L2.length : Int)), some (vi (((v6 + 1) : Nat) : Int))]) (bl := [some (.cells [Value.string (Za L0), vi (L3.getD v6 0), vs 1 0 v0.length v0.length, vs 2 0 L3.length L3.length, vs 3 (v9 * 2) v10 v10, vs 4 0 L5.length L5.length, Value.map (some 5)] 57), some (.cells (Zb Zd v0) 24 true), some (.cells (Zb eI L3) 3 true), some (.cells (Zb Zt L4) 122 true), some (.cells (Zb Zr L5) 9 true), some (.ro (Zk L6) true)]) (ob := (((IntKind.i64.wrap ((v6 : Int) + (1 : Int))) == (((v6 + 1) : Nat) : Int), true) :: ((y4_0 != (0 : Int)), false) :: ZfT L0 a1 L2 L3 L4 L5 L6 v0 v6 v8 v9 v10 y4_0)) rfl (show 1 ∈ ZJ (Zbb 1) from by decide +kernel) (fun gv => by as_aux_lemma => kernel_rfl) (Zc (beq_iff_eq.2 ((wrap_i64 ltA).trans (by first | rfl | omega))) <| oE <| w5) rfl (by decide) (by rfl) (fun _ => ⟨rr, ⟨rr, ⟨rr, ⟨rr, trivial⟩⟩⟩⟩) ⟨sm, ⟨(Zl (E := Zd) (α := RA) _ v0 _), ⟨(Zl (E := eI) (α := Int) _ L3 _), ⟨(Zl (E := Zt) (α := R_is) _ L4 _), ⟨(Zl (E := Zr) (α := List Int) _ L5 _), ⟨(show Zk L6 = Zk L6 from rfl), trivial⟩⟩⟩⟩⟩⟩
 ·
  exact Mach.ok_fin (M := Z7 L0 a1 L2 L3 L4 L5 L6 N) (cd := 1000000) (cm := 0) (r := (.r2 (v0) (v8) (v9) (v10) : Z0)) (fu := 4000) (orc := (Z2 [o0] [] [] [] [])) (live := [0, 1, 2, 3, 4, 5]) (u := vtt) (bl := [some (.cells [Value.string (Za L0), vi v8, vs 1 0 v0.length v0.length, vs 2 0 L3.length L3.length, vs 3 (v9 * 2) v10 v10, vs 4 0 L5.length L5.length, Value.map (some 5)] 57), some (.cells (Zb Zd v0) 24 true), some (.cells (Zb eI L3) 3 true), some (.cells (Zb Zt L4) 122 true), some (.cells (Zb Zr L5) 9 true), some (.ro (Zk L6) true)]) (ob := (((decide ((v6 : Int) < (L2.length : Int))), false) :: [])) (fun gv => by as_aux_lemma => kernel_rfl) (oN <| Z9) rfl (by decide) (by rfl) rr ⟨sm, ⟨(Zl (E := Zd) (α := RA) _ v0 _), ⟨(Zl (E := eI) (α := Int) _ L3 _), ⟨(Zl (E := Zt) (α := R_is) _ L4 _), ⟨(Zl (E := Zr) (α := List Int) _ L5 _), ⟨(show Zk L6 = Zk L6 from rfl), trivial⟩⟩⟩⟩⟩⟩

set_option maxHeartbeats 4000000 in
theorem Znl (L0 : List Int) (a1 : Int) (L2 : List RA) (L3 : List Int) (L4 : List R_is) (L5 : List (List Int)) (L6 : List R_si) (N : Nat) : (Z7 L0 a1 L2 L3 L4 L5 L6 N).Enter Tryd.prog ZG #[vp 0 0] (Zfb L0 a1 L2 L3 L4 L5 L6 N) := by
 unfold Zfb
 exact Mach.en_head (bK := Zcu 1) (M := Z7 L0 a1 L2 L3 L4 L5 L6 N) (cd := 1000000) (cm := 0) (y := (.h1m0 (0) (a1) : asm_reader_aimX)) (fu := 4000) (orc := (Zs [] [] [] [] [])) (live := [0, 1, 2, 3, 4, 5]) (tv := [some (vp 0 0), some (vs 1 0 L2.length L2.length), some (vi (L2.length : Int)), some (vq)]) (bl := [some (.cells [Value.string (Za L0), vi a1, vs 1 0 L2.length L2.length, vs 2 0 L3.length L3.length, vs 3 0 L4.length L4.length, vs 4 0 L5.length L5.length, Value.map (some 5)] 57), some (.cells (Zb Zd L2) 24 true), some (.cells (Zb eI L3) 3 true), some (.cells (Zb Zt L4) 122 true), some (.cells (Zb Zr L5) 9 true), some (.ro (Zk L6) true)]) (ob := ([])) rfl rfl (show ZJ (Zcu 1).2 = [] from rfl) (by as_aux_lemma => kernel_rfl) (Z9) rfl (by decide) (by rfl) ⟨rr, ⟨rr, ⟨rr, ⟨⟨Eq.trans (show (vi ((0 : Nat) : Int) : Value) = vq from (congrArg (Value.int .i64) (by first | rfl | omega))) (by rfl), by rfl⟩, trivial⟩⟩⟩⟩ ⟨sm, ⟨(Zl (E := Zd) (α := RA) _ L2 _), ⟨(Zl (E := eI) (α := Int) _ L3 _), ⟨(Zl (E := Zt) (α := R_is) _ L4 _), ⟨(Zl (E := Zr) (α := List Int) _ L5 _), ⟨(show Zk L6 = Zk L6 from rfl), trivial⟩⟩⟩⟩⟩⟩

theorem Zfo (L0 : List Int) (a1 : Int) (L2 : List RA) (L3 : List Int) (L4 : List R_is) (L5 : List (List Int)) (L6 : List R_si) (N : Nat) (r : Z0) (h : Zc8 L0 a1 L2 L3 L4 L5 L6 N = some r) : LSpec Tryd.prog 52 #[vp 0 0] [.cells [Value.string (Za L0), vi a1, vs 1 0 L2.length L2.length, vs 2 0 L3.length L3.length, vs 3 0 L4.length L4.length, vs 4 0 L5.length L5.length, Value.map (some 5)] 57, .cells (Zb Zd L2) 24 true, .cells (Zb eI L3) 3 true, .cells (Zb Zt L4) 122 true, .cells (Zb Zr L5) 9 true, .ro (Zk L6) true] (Zkf L0 a1 L2 L3 L4 L5 L6 r) (ZjF L0 a1 L2 L3 L4 L5 L6 r) :=
 Mach.spec ZdU (Z7 L0 a1 L2 L3 L4 L5 L6 N) Tryd.func52 (by kernel_rfl) (by kernel_rfl) (fun x => by cases x <;> exact Zaq _ rfl) (fun r => by cases r <;> exact Zaq _ rfl) (fun x => by
  cases x with
  | h1m0 _ _ => exact fun _ => (show ¬ (1 ∈ ZJ (Zcu 1).2) from by decide +kernel)
  | h1m1 _ _ _ _ _ => exact fun _ => (show ¬ (1 ∈ ZJ (Zcu 1).2) from by decide +kernel)
  ) (fun x => (show (Z7 L0 a1 L2 L3 L4 L5 L6 N).Ok Tryd.prog ZG x (Zbd L0 a1 L2 L3 L4 L5 L6 N x) from by
  cases x with
  | h1m0 v6 v8 => exact ZlA L0 a1 L2 L3 L4 L5 L6 v6 v8 N
  | h1m1 v0 v6 v8 v9 v10 => exact ZlB L0 a1 L2 L3 L4 L5 L6 v0 v6 v8 v9 v10 N
  )) (Znl L0 a1 L2 L3 L4 L5 L6 N) (n := N) h

noncomputable def Zog (L0 : List Int) (a1 : Int) (L2 : List RA) (L3 : List Int) (L4 : List R_is) (L5 : List (List Int)) (L6 : List R_si) (w0 : Int) (k0 k1 k2 k3 k4 k5 n : Nat) : Za8 := .call [(k0, .cells [Value.string (Za L0), vi a1, vs k1 0 L2.length L2.length, vs k2 0 L3.length L3.length, vs k3 0 L4.length L4.length, vs k4 0 L5.length L5.length, Value.map (some k5)] 57), (k1, .cells (Zb Zd L2) 24 true), (k2, .cells (Zb eI L3) 3 true), (k3, .cells (Zb Zt L4) 122 true), (k4, .cells (Zb Zr L5) 9 true), (k5, .ro (Zk L6) true)] (Value.iface 88 (Value.agg #[vi w0])) [(k0, none), (k1, none), (k2, none), (k3, none), (k4, none), (k5, none)] 0
def ZjH (A : Array Value) (L0 : List Int) (a1 : Int) (L2 : List RA) (L3 : List Int) (L4 : List R_is) (L5 : List (List Int)) (L6 : List R_si) (w0 : Int) (k0 k1 k2 k3 k4 k5 n : Nat) : Prop := ZB Tryd.prog 52 A [(k0, .cells [Value.string (Za L0), vi a1, vs k1 0 L2.length L2.length, vs k2 0 L3.length L3.length, vs k3 0 L4.length L4.length, vs k4 0 L5.length L5.length, Value.map (some k5)] 57), (k1, .cells (Zb Zd L2) 24 true), (k2, .cells (Zb eI L3) 3 true), (k3, .cells (Zb Zt L4) 122 true), (k4, .cells (Zb Zr L5) 9 true), (k5, .ro (Zk L6) true)] (Value.iface 88 (Value.agg #[vi w0])) [(k0, none), (k1, none), (k2, none), (k3, none), (k4, none), (k5, none)] n 0

theorem Zoh (A : Array Value) (L0 : List Int) (a1 : Int) (L2 : List RA) (L3 : List Int) (L4 : List R_is) (L5 : List (List Int)) (L6 : List R_si) (w0 : Int) (N : Nat) (h : Zc8 L0 a1 L2 L3 L4 L5 L6 N = some (.r0 w0)) (k0 k1 k2 k3 k4 k5 n : Nat) (hA : A = #[vp k0 0]) (hnd : ([k0, k1, k2, k3, k4, k5] : List Nat).Nodup) (hlt : ∀ k ∈ ([k0, k1, k2, k3, k4, k5] : List Nat), k < n) : ZjH A L0 a1 L2 L3 L4 L5 L6 w0 k0 k1 k2 k3 k4 k5 n :=
 Zaj hA (LSpec.callL (show LSpec Tryd.prog 52 #[vp 0 0] [.cells [Value.string (Za L0), vi a1, vs 1 0 L2.length L2.length, vs 2 0 L3.length L3.length, vs 3 0 L4.length L4.length, vs 4 0 L5.length L5.length, Value.map (some 5)] 57, .cells (Zb Zd L2) 24 true, .cells (Zb eI L3) 3 true, .cells (Zb Zt L4) 122 true, .cells (Zb Zr L5) 9 true, .ro (Zk L6) true] (Value.iface 88 (Value.agg #[vi w0])) [none, none, none, none, none, none] from Zfo L0 a1 L2 L3 L4 L5 L6 N _ h) [k0, k1, k2, k3, k4, k5] n [0, 1, 2, 3, 4, 5] rfl hnd hlt (show 6 ≤ 6 from by decide) (show ∀ j ∈ ([0, 1, 2, 3, 4, 5] : List Nat), j < 6 from by decide) (by rfl) ⟨rfl, ⟨(Zo _ _ _), ⟨(Zo _ _ _), ⟨(Zo _ _ _), ⟨(Zo _ _ _), ⟨rfl, trivial⟩⟩⟩⟩⟩⟩ (by rfl) trivial ⟨.inl (by decide), ⟨.inl (by decide), ⟨.inl (by decide), ⟨.inl (by decide), ⟨.inl (by decide), ⟨.inl (by decide), trivial⟩⟩⟩⟩⟩⟩ rfl rfl rfl (Ze (Zj rfl rfl) (Ze (Zj rfl (Zz _ _ _)) (Ze (Zj rfl (Zz _ _ _)) (Ze (Zj rfl (Zz _ _ _)) (Ze (Zj rfl (Zz _ _ _)) (Ze (Zj rfl rfl) rfl)))))) (Ze (Zj rfl rfl) (Ze (Zj rfl rfl) (Ze (Zj rfl rfl) (Ze (Zj rfl rfl) (Ze (Zj rfl rfl) (Ze (Zj rfl rfl) rfl)))))))

noncomputable def Zoi (L0 : List Int) (a1 : Int) (L2 : List RA) (L3 : List Int) (L4 : List R_is) (L5 : List (List Int)) (L6 : List R_si) (w6 : Int) (k0 k1 k2 k3 k4 k5 n : Nat) : Za8 := .call [(k0, .cells [Value.string (Za L0), vi a1, vs k1 0 L2.length L2.length, vs k2 0 L3.length L3.length, vs k3 0 L4.length L4.length, vs k4 0 L5.length L5.length, Value.map (some k5)] 57), (k1, .cells (Zb Zd L2) 24 true), (k2, .cells (Zb eI L3) 3 true), (k3, .cells (Zb Zt L4) 122 true), (k4, .cells (Zb Zr L5) 9 true), (k5, .ro (Zk L6) true)] (vtt) [(k0, some (.cells [Value.string (Za L0), vi w6, vs k1 0 L2.length L2.length, vs k2 0 L3.length L3.length, vs k3 0 L4.length L4.length, vs k4 0 L5.length L5.length, Value.map (some k5)] 57))] 0
def ZjI (A : Array Value) (L0 : List Int) (a1 : Int) (L2 : List RA) (L3 : List Int) (L4 : List R_is) (L5 : List (List Int)) (L6 : List R_si) (w6 : Int) (k0 k1 k2 k3 k4 k5 n : Nat) : Prop := ZB Tryd.prog 52 A [(k0, .cells [Value.string (Za L0), vi a1, vs k1 0 L2.length L2.length, vs k2 0 L3.length L3.length, vs k3 0 L4.length L4.length, vs k4 0 L5.length L5.length, Value.map (some k5)] 57), (k1, .cells (Zb Zd L2) 24 true), (k2, .cells (Zb eI L3) 3 true), (k3, .cells (Zb Zt L4) 122 true), (k4, .cells (Zb Zr L5) 9 true), (k5, .ro (Zk L6) true)] (vtt) [(k0, some (.cells [Value.string (Za L0), vi w6, vs k1 0 L2.length L2.length, vs k2 0 L3.length L3.length, vs k3 0 L4.length L4.length, vs k4 0 L5.length L5.length, Value.map (some k5)] 57))] n 0

theorem Zoj (A : Array Value) (L0 : List Int) (a1 : Int) (L2 : List RA) (L3 : List Int) (L4 : List R_is) (L5 : List (List Int)) (L6 : List R_si) (w6 : Int) (N : Nat) (h : Zc8 L0 a1 L2 L3 L4 L5 L6 N = some (.r1 w6)) (k0 k1 k2 k3 k4 k5 n : Nat) (hA : A = #[vp k0 0]) (hnd : ([k0, k1, k2, k3, k4, k5] : List Nat).Nodup) (hlt : ∀ k ∈ ([k0, k1, k2, k3, k4, k5] : List Nat), k < n) : ZjI A L0 a1 L2 L3 L4 L5 L6 w6 k0 k1 k2 k3 k4 k5 n :=
 Zaj hA (LSpec.callL (show LSpec Tryd.prog 52 #[vp 0 0] [.cells [Value.string (Za L0), vi a1, vs 1 0 L2.length L2.length, vs 2 0 L3.length L3.length, vs 3 0 L4.length L4.length, vs 4 0 L5.length L5.length, Value.map (some 5)] 57, .cells (Zb Zd L2) 24 true, .cells (Zb eI L3) 3 true, .cells (Zb Zt L4) 122 true, .cells (Zb Zr L5) 9 true, .ro (Zk L6) true] (vtt) [some (.cells [Value.string (Za L0), vi w6, vs 1 0 L2.length L2.length, vs 2 0 L3.length L3.length, vs 3 0 L4.length L4.length, vs 4 0 L5.length L5.length, Value.map (some 5)] 57), some (.cells (Zb Zd L2) 24 true), some (.cells (Zb eI L3) 3 true), some (.cells (Zb Zt L4) 122 true), some (.cells (Zb Zr L5) 9 true), some (.ro (Zk L6) true)] from Zfo L0 a1 L2 L3 L4 L5 L6 N _ h) [k0, k1, k2, k3, k4, k5] n [0] rfl hnd hlt (show 6 ≤ 6 from by decide) (show ∀ j ∈ ([0] : List Nat), j < 6 from by decide) (by rfl) ⟨rfl, ⟨(Zo _ _ _), ⟨(Zo _ _ _), ⟨(Zo _ _ _), ⟨(Zo _ _ _), ⟨rfl, trivial⟩⟩⟩⟩⟩⟩ (by rfl) ⟨rfl, ⟨(Zo _ _ _), ⟨(Zo _ _ _), ⟨(Zo _ _ _), ⟨(Zo _ _ _), ⟨rfl, trivial⟩⟩⟩⟩⟩⟩ ⟨.inl (by decide), ⟨.inr rfl, ⟨.inr rfl, ⟨.inr rfl, ⟨.inr rfl, ⟨.inr rfl, trivial⟩⟩⟩⟩⟩⟩ rfl rfl rfl (Ze (Zj rfl rfl) (Ze (Zj rfl (Zz _ _ _)) (Ze (Zj rfl (Zz _ _ _)) (Ze (Zj rfl (Zz _ _ _)) (Ze (Zj rfl (Zz _ _ _)) (Ze (Zj rfl rfl) rfl)))))) (Ze (Zj rfl (Za6 rfl)) rfl))

noncomputable def Zok (L0 : List Int) (a1 : Int) (L2 : List RA) (L3 : List Int) (L4 : List R_is) (L5 : List (List Int)) (L6 : List R_si) (w0 : List RA) (w6 : Int) (w7 w8 k0 k1 k2 k3 k4 k5 n : Nat) : Za8 := .call [(k0, .cells [Value.string (Za L0), vi a1, vs k1 0 L2.length L2.length, vs k2 0 L3.length L3.length, vs k3 0 L4.length L4.length, vs k4 0 L5.length L5.length, Value.map (some k5)] 57), (k1, .cells (Zb Zd L2) 24 true), (k2, .cells (Zb eI L3) 3 true), (k3, .cells (Zb Zt L4) 122 true), (k4, .cells (Zb Zr L5) 9 true), (k5, .ro (Zk L6) true)] (vtt) [(k0, some (.cells [Value.string (Za L0), vi w6, vs k1 0 w0.length w0.length, vs k2 0 L3.length L3.length, vs k3 (w7 * 2) w8 w8, vs k4 0 L5.length L5.length, Value.map (some k5)] 57)), (k1, some (.cells (Zb Zd w0) 24 true))] 0
def ZjJ (A : Array Value) (L0 : List Int) (a1 : Int) (L2 : List RA) (L3 : List Int) (L4 : List R_is) (L5 : List (List Int)) (L6 : List R_si) (w0 : List RA) (w6 : Int) (w7 w8 k0 k1 k2 k3 k4 k5 n : Nat) : Prop := ZB Tryd.prog 52 A [(k0, .cells [Value.string (Za L0), vi a1, vs k1 0 L2.length L2.length, vs k2 0 L3.length L3.length, vs k3 0 L4.length L4.length, vs k4 0 L5.length L5.length, Value.map (some k5)] 57), (k1, .cells (Zb Zd L2) 24 true), (k2, .cells (Zb eI L3) 3 true), (k3, .cells (Zb Zt L4) 122 true), (k4, .cells (Zb Zr L5) 9 true), (k5, .ro (Zk L6) true)] (vtt) [(k0, some (.cells [Value.string (Za L0), vi w6, vs k1 0 w0.length w0.length, vs k2 0 L3.length L3.length, vs k3 (w7 * 2) w8 w8, vs k4 0 L5.length L5.length, Value.map (some k5)] 57)), (k1, some (.cells (Zb Zd w0) 24 true))] n 0

theorem Zol (A : Array Value) (L0 : List Int) (a1 : Int) (L2 : List RA) (L3 : List Int) (L4 : List R_is) (L5 : List (List Int)) (L6 : List R_si) (w0 : List RA) (w6 : Int) (w7 w8 N : Nat) (h : Zc8 L0 a1 L2 L3 L4 L5 L6 N = some (.r2 w0 w6 w7 w8)) (k0 k1 k2 k3 k4 k5 n : Nat) (hA : A = #[vp k0 0]) (hnd : ([k0, k1, k2, k3, k4, k5] : List Nat).Nodup) (hlt : ∀ k ∈ ([k0, k1, k2, k3, k4, k5] : List Nat), k < n) : ZjJ A L0 a1 L2 L3 L4 L5 L6 w0 w6 w7 w8 k0 k1 k2 k3 k4 k5 n :=
 Zaj hA (LSpec.callL (show LSpec Tryd.prog 52 #[vp 0 0] [.cells [Value.string (Za L0), vi a1, vs 1 0 L2.length L2.length, vs 2 0 L3.length L3.length, vs 3 0 L4.length L4.length, vs 4 0 L5.length L5.length, Value.map (some 5)] 57, .cells (Zb Zd L2) 24 true, .cells (Zb eI L3) 3 true, .cells (Zb Zt L4) 122 true, .cells (Zb Zr L5) 9 true, .ro (Zk L6) true] (vtt) [some (.cells [Value.string (Za L0), vi w6, vs 1 0 w0.length w0.length, vs 2 0 L3.length L3.length, vs 3 (w7 * 2) w8 w8, vs 4 0 L5.length L5.length, Value.map (some 5)] 57), some (.cells (Zb Zd w0) 24 true), some (.cells (Zb eI L3) 3 true), some (.cells (Zb Zt L4) 122 true), some (.cells (Zb Zr L5) 9 true), some (.ro (Zk L6) true)] from Zfo L0 a1 L2 L3 L4 L5 L6 N _ h) [k0, k1, k2, k3, k4, k5] n [0, 1] rfl hnd hlt (show 6 ≤ 6 from by decide) (show ∀ j ∈ ([0, 1] : List Nat), j < 6 from by decide) (by rfl) ⟨rfl, ⟨(Zo _ _ _), ⟨(Zo _ _ _), ⟨(Zo _ _ _), ⟨(Zo _ _ _), ⟨rfl, trivial⟩⟩⟩⟩⟩⟩ (by rfl) ⟨rfl, ⟨(Zo _ _ _), ⟨(Zo _ _ _), ⟨(Zo _ _ _), ⟨(Zo _ _ _), ⟨rfl, trivial⟩⟩⟩⟩⟩⟩ ⟨.inl (by decide), ⟨.inl (by decide), ⟨.inr rfl, ⟨.inr rfl, ⟨.inr rfl, ⟨.inr rfl, trivial⟩⟩⟩⟩⟩⟩ rfl rfl rfl (Ze (Zj rfl rfl) (Ze (Zj rfl (Zz _ _ _)) (Ze (Zj rfl (Zz _ _ _)) (Ze (Zj rfl (Zz _ _ _)) (Ze (Zj rfl (Zz _ _ _)) (Ze (Zj rfl rfl) rfl)))))) (Ze (Zj rfl (Za6 rfl)) (Ze (Zj rfl (Za6 (Zz _ _ _))) rfl)))

noncomputable def ZjK (L0 : List Int) (a1 : Int) (L2 : List R_si) : ZD → Value
 | .r0 w0 => Value.iface 88 (Value.agg #[vi w0])
 | .r1 w0 w1 w2 w3 w4 w5 w6 => vtt
 | .r2 w0 w1 w2 w3 w4 w5 w6 w7 w8 => vtt
noncomputable def ZiJ (L0 : List Int) (a1 : Int) (L2 : List R_si) : ZD → List (Option AObj)
 | .r0 w0 => [none, none]
 | .r1 w0 w1 w2 w3 w4 w5 w6 => [some (.cells [Value.string (Za w1), vi w2, vs 2 0 w3.length w3.length, vs 3 0 w4.length w4.length, vs 4 0 w5.length w5.length, vs 5 0 w6.length w6.length, Value.map (some 1)] 57), some (.ro (Zk w0) true), some (.cells (Zb Zd w3) 24 true), some (.cells (Zb eI w4) 3 true), some (.cells (Zb Zt w5) 122 true), some (.cells (Zb Zr w6) 9 true)]
 | .r2 w0 w1 w2 w3 w4 w5 w6 w7 w8 => [some (.cells [Value.string (Za w1), vi w2, vs 2 0 w3.length w3.length, vs 3 0 w4.length w4.length, vs 4 (w6 * 2) w7 w7, vs 5 0 w8.length w8.length, Value.map (some 1)] 57), some (.ro (Zk w0) true), some (.cells (Zb Zd w3) 24 true), some (.cells (Zb eI w4) 3 true), some (.cells (Zb Zt w5) 122 true), some (.cells (Zb Zr w8) 9 true)]

def Znm : ZA → Nat
 | .h1m0 v0 v1 v2 v3 v4 v5 v6 => 1
noncomputable def Zom (L0 : List Int) (a1 : Int) (L2 : List R_si) : ZA → List (Nat × Value)
 | .h1m0 v0 v1 v2 v3 v4 v5 v6 => [(0, vp 0 0)]
noncomputable def Zon (L0 : List Int) (a1 : Int) (L2 : List R_si) : ZA → List (Option AObj)
 | .h1m0 v0 v1 v2 v3 v4 v5 v6 => [some (.cells [Value.string (Za v1), vi v2, vs 2 0 v3.length v3.length, vs 3 0 v4.length v4.length, vs 4 0 v5.length v5.length, vs 5 0 v6.length v6.length, Value.map (some 1)] 57), some (.ro (Zk v0) true), some (.cells (Zb Zd v3) 24 true), some (.cells (Zb eI v4) 3 true), some (.cells (Zb Zt v5) 122 true), some (.cells (Zb Zr v6) 9 true)]

noncomputable def ZcD : Nat → Code × List ZaS
 | 1 => Zdt [0, 3] (ZeZ Tryd.f38) []
 | _ => (.skip, [])
def ZiK : Nat → Bool
 | 1 => true
 | _ => true
noncomputable def ZdI (i : Nat) : List ZaS := match ZiK i with | true => .rnd i :: (ZcD i).2 | false => (ZcD i).2

noncomputable def ZY (L0 : List Int) (a1 : Int) (L2 : List R_si) (N : Nat) : Mach := ⟨Tryd.f38, [.cells [Value.string (Za L0), vi a1, vn, vn, vn, vn, Value.map (some 1)] 57, .ro (Zk L2) true], ZA, ZD, Za0 L0 a1 L2 N, Znm, ZcD, ZiK, Zom L0 a1 L2, Zon L0 a1 L2, ZjK L0 a1 L2, ZiJ L0 a1 L2⟩

noncomputable def Ziy (L0 : List Int) (a1 : Int) (L2 v0 : List R_si) (v1 : List Int) (v2 : Int) (v3 : List RA) (v4 : List Int) (v5 : List R_is) (v6 : List (List Int)) : List (Bool × Bool) := ((!((Za v1).toList == (⟨#[]⟩ : ByteArray).toList)), true) :: []

noncomputable def Zeg (L0 : List Int) (a1 : Int) (L2 v0 : List R_si) (v1 : List Int) (v2 : Int) (v3 : List RA) (v4 : List Int) (v5 : List R_is) (v6 : List (List Int)) : List (Bool × Bool) := (dP ((Za v1) = Za v1 ∧ ZL v1 = true ∧ v1.length ≤ 1000000), true) :: Ziy L0 a1 L2 v0 v1 v2 v3 v4 v5 v6

noncomputable def Ziz (L0 : List Int) (a1 : Int) (L2 v0 : List R_si) (v1 : List Int) (v2 : Int) (v3 : List RA) (v4 : List Int) (v5 : List R_is) (v6 : List (List Int)) : List (Bool × Bool) := (((Za (Z5 (10 : Int) v1)).toList == (⟨#[]⟩ : ByteArray).toList), false) :: ((Zbc (10 : Int) v1), true) :: Zeg L0 a1 L2 v0 v1 v2 v3 v4 v5 v6

noncomputable def ZfU (L0 : List Int) (a1 : Int) (L2 v0 : List R_si) (v1 : List Int) (v2 : Int) (v3 : List RA) (v4 : List Int) (v5 : List R_is) (v6 : List (List Int)) : List (Bool × Bool) := (dP (∃ y, 0 ≤ (0 : Int) ∧ ((Za (Z5 (10 : Int) v1)))[((0 : Int)).toNat]? = some y ∧ (bAt (Z5 (10 : Int) v1) 0) = (y.toNat : Int)), true) :: Ziz L0 a1 L2 v0 v1 v2 v3 v4 v5 v6

noncomputable def ZcK (L0 : List Int) (a1 : Int) (L2 v0 : List R_si) (v1 : List Int) (v2 : Int) (v3 : List RA) (v4 : List Int) (v5 : List R_is) (v6 : List (List Int)) : List (Bool × Bool) := (dP (∃ y, 0 ≤ (0 : Int) ∧ ((Za (Z5 (10 : Int) v1)))[((0 : Int)).toNat]? = some y ∧ (bAt (Z5 (10 : Int) v1) 0) = (y.toNat : Int)), true) :: (((bAt (Z5 (10 : Int) v1) 0) == (35 : Int)), false) :: ZfU L0 a1 L2 v0 v1 v2 v3 v4 v5 v6

noncomputable def ZfV (L0 : List Int) (a1 : Int) (L2 v0 : List R_si) (v1 : List Int) (v2 : Int) (v3 : List RA) (v4 : List Int) (v5 : List R_is) (v6 : List (List Int)) : List (Bool × Bool) := (dP (0 ≤ (1 : Int) ∧ (1 : Int) ≤ ((((Za (Z5 (10 : Int) v1))).size : Nat) : Int) ∧ ((((Za (Z5 (10 : Int) v1))).size : Nat) : Int) ≤ ((((Za (Z5 (10 : Int) v1))).size : Nat) : Int) ∧ ((Za (Z5 (10 : Int) v1))).extract ((1 : Int)).toNat (((((Za (Z5 (10 : Int) v1))).size : Nat) : Int)).toNat = Za ((Z5 (10 : Int) v1).drop 1)), true) :: (((bAt (Z5 (10 : Int) v1) 0) == (58 : Int)), true) :: ZcK L0 a1 L2 v0 v1 v2 v3 v4 v5 v6

end Ev
end Go.Proofs.YtlbbiflodemagaaDoor
/- Calls do what the plain functions say. -/
namespace Go.Proofs.YtlbbiflodemagaaDoor
open Go.RowKit
namespace Ev
set_option linter.unusedVariables false
set_option maxRecDepth 100000
set_option maxHeartbeats 4000000 in
theorem ZkX (L0 : List Int) (a1 : Int) (L2 v0 : List R_si) (v1 : List Int) (v2 : Int) (v3 : List RA) (v4 : List Int) (v5 : List R_is) (v6 : List (List Int)) (N : Nat) : (ZY L0 a1 L2 N).Ok Tryd.prog ZG (.h1m0 v0 v1 v2 v3 v4 v5 v6 : ZA) (Za0 L0 a1 L2 N (.h1m0 v0 v1 v2 v3 v4 v5 v6 : ZA)) := by
 show (ZY L0 a1 L2 N).Ok Tryd.prog ZG (.h1m0 v0 v1 v2 v3 v4 v5 v6 : ZA) (ZaA L0 a1 L2 N v0 v1 v2 v3 v4 v5 v6)
 unfold ZaA
 refine Mach.ok_ite (fun g0 => ?_) (fun g0 => ?_)
 ·
  have w1 : OkL (Ziy L0 a1 L2 v0 v1 v2 v3 v4 v5 v6) :=
   Zc (Zx5 (x := v1) (y := ([] : List Int)) (by assumption)) <| Z9
  refine Mach.ok_ite (fun g1 => ?_) (fun _ => Mach.ok_none)
  refine Mach.ok_ite (fun g2 => ?_) (fun _ => Mach.ok_none)
  have w3 : OkL (Zeg L0 a1 L2 v0 v1 v2 v3 v4 v5 v6) :=
   Zc (Zp ⟨rfl, by assumption, ltA⟩) <| w1
  refine Mach.ok_ite (fun g3 => ?_) (fun g3 => ?_)
  ·
   refine Mach.ok_ite (fun g4 => ?_) (fun g4 => ?_)
   ·
    exact Mach.ok_next (M := ZY L0 a1 L2 N) (cd := 1000000) (cm := 0) (y := (.h1m0 (v0) ((ZO (10 : Int) v1)) ((IntKind.i64.wrap (v2 + (1 : Int)))) (v3) (v4) (v5) (v6) : ZA)) (fu := 4000) (orc := (Zs [(0, true), (1, true), (3, true)] [] [] [] [(1, .bs v1)])) (live := [0, 1, 2, 3, 4, 5]) (tv := fun _ => [some (vp 0 0)]) (bl := [some (.cells [Value.string (Za (ZO (10 : Int) v1)), vi (IntKind.i64.wrap (v2 + (1 : Int))), vs 2 0 v3.length v3.length, vs 3 0 v4.length v4.length, vs 4 0 v5.length v5.length, vs 5 0 v6.length v6.length, Value.map (some 1)] 57), some (.ro (Zk v0) true), some (.cells (Zb Zd v3) 24 true), some (.cells (Zb eI v4) 3 true), some (.cells (Zb Zt v5) 122 true), some (.cells (Zb Zr v6) 9 true)]) (ob := ((((Za (Z5 (10 : Int) v1)).toList == (⟨#[]⟩ : ByteArray).toList), true) :: ((Zbc (10 : Int) v1), true) :: Zeg L0 a1 L2 v0 v1 v2 v3 v4 v5 v6)) rfl (show 1 ∈ ZJ (ZdI 1) from by decide +kernel) (fun gv => by as_aux_lemma => kernel_rfl) (Zc (Zb2 (x := (Z5 (10 : Int) v1)) (y := ([] : List Int)) (by assumption)) <| Zc (by assumption) <| w3) rfl (by decide) (by rfl) (fun _ => ⟨rr, trivial⟩) ⟨sm, ⟨(show Zk v0 = Zk v0 from rfl), ⟨(Zl (E := Zd) (α := RA) _ v3 _), ⟨(Zl (E := eI) (α := Int) _ v4 _), ⟨(Zl (E := Zt) (α := R_is) _ v5 _), ⟨(Zl (E := Zr) (α := List Int) _ v6 _), trivial⟩⟩⟩⟩⟩⟩
   ·
    have w5 : OkL (Ziz L0 a1 L2 v0 v1 v2 v3 v4 v5 v6) :=
     Zc (Zbg (x := (Z5 (10 : Int) v1)) (y := ([] : List Int)) (by assumption)) <| Zc (by assumption) <| w3
    refine Mach.ok_ite (fun g5 => ?_) (fun _ => Mach.ok_none)
    have w6 : OkL (ZfU L0 a1 L2 v0 v1 v2 v3 v4 v5 v6) :=
     Zc (Zp (Zj6 (M := (Z5 (10 : Int) v1)) (i := 0) rfl (by first | rfl | exact Ze6 (by omega)) (by (try simp only [Z6] at *); first | omega | (simp only [List.length_set, List.length_append, List.length_cons, List.length_nil, List.length_replicate, List.length_take, List.length_drop] at * <;> omega)))) <| w5
    refine Mach.ok_ite (fun g6 => ?_) (fun g6 => ?_)
    ·
     exact Mach.ok_next (M := ZY L0 a1 L2 N) (cd := 1000000) (cm := 0) (y := (.h1m0 (v0) ((ZO (10 : Int) v1)) ((IntKind.i64.wrap (v2 + (1 : Int)))) (v3) (v4) (v5) (v6) : ZA)) (fu := 4000) (orc := (Zs [(0, true), (1, true), (3, false), (4, true)] [] [] [] [(1, .bs v1), (3, .bs [(bAt (Z5 (10 : Int) v1) 0)])])) (live := [0, 1, 2, 3, 4, 5]) (tv := fun _ => [some (vp 0 0)]) (bl := [some (.cells [Value.string (Za (ZO (10 : Int) v1)), vi (IntKind.i64.wrap (v2 + (1 : Int))), vs 2 0 v3.length v3.length, vs 3 0 v4.length v4.length, vs 4 0 v5.length v5.length, vs 5 0 v6.length v6.length, Value.map (some 1)] 57), some (.ro (Zk v0) true), some (.cells (Zb Zd v3) 24 true), some (.cells (Zb eI v4) 3 true), some (.cells (Zb Zt v5) 122 true), some (.cells (Zb Zr v6) 9 true)]) (ob := ((((bAt (Z5 (10 : Int) v1) 0) == (35 : Int)), true) :: ZfU L0 a1 L2 v0 v1 v2 v3 v4 v5 v6)) rfl (show 1 ∈ ZJ (ZdI 1) from by decide +kernel) (fun gv => by as_aux_lemma => kernel_rfl) (oT <| w6) rfl (by decide) (by rfl) (fun _ => ⟨rr, trivial⟩) ⟨sm, ⟨(show Zk v0 = Zk v0 from rfl), ⟨(Zl (E := Zd) (α := RA) _ v3 _), ⟨(Zl (E := eI) (α := Int) _ v4 _), ⟨(Zl (E := Zt) (α := R_is) _ v5 _), ⟨(Zl (E := Zr) (α := List Int) _ v6 _), trivial⟩⟩⟩⟩⟩⟩
    ·
     have w7 : OkL (ZcK L0 a1 L2 v0 v1 v2 v3 v4 v5 v6) :=
      Zc (Zp (Zj6 (M := (Z5 (10 : Int) v1)) (i := 0) rfl (by first | rfl | exact Ze6 (by omega)) (by (try simp only [Z6] at *); first | omega | (simp only [List.length_set, List.length_append, List.length_cons, List.length_nil, List.length_replicate, List.length_take, List.length_drop] at * <;> omega)))) <| oF <| w6
     refine Mach.ok_ite (fun g7 => ?_) (fun g7 => ?_)
     ·
      have w8 : OkL (ZfV L0 a1 L2 v0 v1 v2 v3 v4 v5 v6) :=
       Zc (Zp (Zsn (M := (Z5 (10 : Int) v1)) (R := ((Z5 (10 : Int) v1).drop 1)) rfl (by (try simp only [Z6] at *); omega) (by (try simp only [Z6] at *); first | omega | (simp only [List.length_set, List.length_append, List.length_cons, List.length_nil, List.length_replicate, List.length_take, List.length_drop] at * <;> omega)) (by first | rfl | simp))) <| oT <| w7
      refine Mach.ok_bind (fun z8 c8 => ?_)
      cases z8 with
      | r0 =>
       exact Mach.ok_thr (M := ZY L0 a1 L2 N) (cd := 1000000) (cm := 0) (r := (.r0 ((IntKind.i64.wrap (v2 + (1 : Int)))) : ZD)) (fu := 4000) (orc := (Zs [(0, true), (1, true), (3, false), (4, false), (5, true)] [] [] [] [(1, .bs v1), (3, .bs [(bAt (Z5 (10 : Int) v1) 0)]), (4, .bs [(bAt (Z5 (10 : Int) v1) 0)]), (5, .bs ((Z5 (10 : Int) v1).drop 1)), (6, (Zng (((Z5 (10 : Int) v1).drop 1)) ((ZO (10 : Int) v1)) ((IntKind.i64.wrap (v2 + (1 : Int)))) (v3) (v4) (v5) (v6) (v0)   0 2 3 4 5 1 6))])) (u := Value.iface 88 (Value.agg #[vi (IntKind.i64.wrap (v2 + (1 : Int)))])) (ob := ((dP (ZiD #[vp 0 0, Value.string (Za ((Z5 (10 : Int) v1).drop 1))] (((Z5 (10 : Int) v1).drop 1)) ((ZO (10 : Int) v1)) ((IntKind.i64.wrap (v2 + (1 : Int)))) (v3) (v4) (v5) (v6) (v0)   0 2 3 4 5 1 6), true) :: (dS [Value.string (Za (ZO (10 : Int) v1)), vi (IntKind.i64.wrap (v2 + (1 : Int))), vs 2 0 v3.length v3.length, vs 3 0 v4.length v4.length, vs 4 0 v5.length v5.length, vs 5 0 v6.length v6.length, Value.map (some 1)], true) :: (dS (Zb Zd v3), true) :: (dS (Zb eI v4), true) :: (dS (Zb Zt v5), true) :: (dS (Zb Zr v6), true) :: (dS (Zk v0), true) :: ZfV L0 a1 L2 v0 v1 v2 v3 v4 v5 v6)) (fun gv => by as_aux_lemma => kernel_rfl) (Zc (Zp (Znh #[vp 0 0, Value.string (Za ((Z5 (10 : Int) v1).drop 1))] (((Z5 (10 : Int) v1).drop 1)) ((ZO (10 : Int) v1)) ((IntKind.i64.wrap (v2 + (1 : Int)))) (v3) (v4) (v5) (v6) (v0)   N c8 0 2 3 4 5 1 6 rfl dcd dcd)) <| oR <| oR <| oR <| oR <| oR <| oR <| w8) rfl (by rfl) (by rfl)
      | r1 =>
       exact Mach.ok_nextW (M := ZY L0 a1 L2 N) (cd := 1000000) (cm := 0) (y := (.h1m0 ((Zc3 v0 ((Z5 (10 : Int) v1).drop 1) (v3.length : Int))) ((ZO (10 : Int) v1)) ((IntKind.i64.wrap (v2 + (1 : Int)))) (v3) (v4) (v5) ((v6 ++ ([((Z5 (10 : Int) v1).drop 1)] : List (List Int)))) : ZA)) (fu := 4000) (orc := (Zs [(0, true), (1, true), (3, false), (4, false), (5, true)] [] [] [] [(1, .bs v1), (3, .bs [(bAt (Z5 (10 : Int) v1) 0)]), (4, .bs [(bAt (Z5 (10 : Int) v1) 0)]), (5, .bs ((Z5 (10 : Int) v1).drop 1)), (6, (Zni (((Z5 (10 : Int) v1).drop 1)) ((ZO (10 : Int) v1)) ((IntKind.i64.wrap (v2 + (1 : Int)))) (v3) (v4) (v5) (v6) (v0)   0 2 3 4 5 1 6))])) (live := [0, 1, 2, 3, 4, 6]) (tv := fun _ => [some (vp 0 0)]) (bl := [some (.cells [Value.string (Za (ZO (10 : Int) v1)), vi (IntKind.i64.wrap (v2 + (1 : Int))), vs 2 0 v3.length v3.length, vs 3 0 v4.length v4.length, vs 4 0 v5.length v5.length, vs 6 0 (v6.length + 1) (v6.length + 1), Value.map (some 1)] 57), some (.ro (Zk (Zc3 v0 ((Z5 (10 : Int) v1).drop 1) (v3.length : Int))) true), some (.cells (Zb Zd v3) 24 true), some (.cells (Zb eI v4) 3 true), some (.cells (Zb Zt v5) 122 true), some (.cells (Zb Zr (v6 ++ ([((Z5 (10 : Int) v1).drop 1)] : List (List Int)))) 9)]) (ob := ((dP (ZiE #[vp 0 0, Value.string (Za ((Z5 (10 : Int) v1).drop 1))] (((Z5 (10 : Int) v1).drop 1)) ((ZO (10 : Int) v1)) ((IntKind.i64.wrap (v2 + (1 : Int)))) (v3) (v4) (v5) (v6) (v0)   0 2 3 4 5 1 6), true) :: (dS [Value.string (Za (ZO (10 : Int) v1)), vi (IntKind.i64.wrap (v2 + (1 : Int))), vs 2 0 v3.length v3.length, vs 3 0 v4.length v4.length, vs 4 0 v5.length v5.length, vs 5 0 v6.length v6.length, Value.map (some 1)], true) :: (dS (Zb Zd v3), true) :: (dS (Zb eI v4), true) :: (dS (Zb Zt v5), true) :: (dS (Zb Zr v6), true) :: (dS (Zk v0), true) :: ZfV L0 a1 L2 v0 v1 v2 v3 v4 v5 v6)) [some (.cells [Value.string (Za (ZO (10 : Int) v1)), vi (IntKind.i64.wrap (v2 + (1 : Int))), vs 2 0 v3.length v3.length, vs 3 0 v4.length v4.length, vs 4 0 v5.length v5.length, vs 5 0 (v6 ++ ([((Z5 (10 : Int) v1).drop 1)] : List (List Int))).length (v6 ++ ([((Z5 (10 : Int) v1).drop 1)] : List (List Int))).length, Value.map (some 1)] 57), some (.ro (Zk (Zc3 v0 ((Z5 (10 : Int) v1).drop 1) (v3.length : Int))) true), some (.cells (Zb Zd v3) 24 true), some (.cells (Zb eI v4) 3 true), some (.cells (Zb Zt v5) 122 true), some (.cells (Zb Zr (v6 ++ ([((Z5 (10 : Int) v1).drop 1)] : List (List Int)))) 9)] [] 0 ⟨(.inl rfl), ⟨(.inl rfl), ⟨(.inl rfl), ⟨(.inl rfl), ⟨(.inl rfl), ⟨(Zp8 (E := Zr) (L := (v6 ++ ([((Z5 (10 : Int) v1).drop 1)] : List (List Int)))) ltA (by decide)), trivial⟩⟩⟩⟩⟩⟩ (by rfl) (by rfl) rfl (show 1 ∈ ZJ (ZdI 1) from by decide +kernel) (fun gv => by as_aux_lemma => kernel_rfl) (Zc (Zp (Znj #[vp 0 0, Value.string (Za ((Z5 (10 : Int) v1).drop 1))] (((Z5 (10 : Int) v1).drop 1)) ((ZO (10 : Int) v1)) ((IntKind.i64.wrap (v2 + (1 : Int)))) (v3) (v4) (v5) (v6) (v0)   N c8 0 2 3 4 5 1 6 rfl dcd dcd)) <| oR <| oR <| oR <| oR <| oR <| oR <| w8) rfl (by decide) (by rfl) (fun _ => ⟨rr, trivial⟩) ⟨⟨rfl, ⟨[], (show ([Value.string (Za (ZO (10 : Int) v1)), vi (IntKind.i64.wrap (v2 + (1 : Int))), vs 2 0 v3.length v3.length, vs 3 0 v4.length v4.length, vs 4 0 v5.length v5.length, vs 5 0 (v6.length + 1) (v6.length + 1), Value.map (some 1)] : List Value) = _ from (Ze rfl (Ze rfl (Ze rfl (Ze rfl (Ze rfl (Ze (Zah rfl eqA eqA) (Ze rfl rfl))))))).symm)⟩, by rfl⟩, ⟨(show Zk (Zc3 v0 ((Z5 (10 : Int) v1).drop 1) (v3.length : Int)) = Zk (Zc3 v0 ((Z5 (10 : Int) v1).drop 1) (v3.length : Int)) from rfl), ⟨(Zl (E := Zd) (α := RA) _ v3 _), ⟨(Zl (E := eI) (α := Int) _ v4 _), ⟨(Zl (E := Zt) (α := R_is) _ v5 _), ⟨(ZW (E := Zr) (α := List Int) _ (v6 ++ ([((Z5 (10 : Int) v1).drop 1)] : List (List Int))) _), trivial⟩⟩⟩⟩⟩⟩
     ·
      refine Mach.ok_bind (fun z8 c8 => ?_)
      cases z8 with
      | r0 =>
       exact Mach.ok_thr (M := ZY L0 a1 L2 N) (cd := 1000000) (cm := 0) (r := (.r0 ((IntKind.i64.wrap (v2 + (1 : Int)))) : ZD)) (fu := 4000) (orc := (Zs [(0, true), (1, true), (3, false), (4, false), (5, false)] [] [] [] [(1, .bs v1), (3, .bs [(bAt (Z5 (10 : Int) v1) 0)]), (4, .bs [(bAt (Z5 (10 : Int) v1) 0)]), (5, (Zj8 ((Z5 (10 : Int) v1)) ((ZO (10 : Int) v1)) ((IntKind.i64.wrap (v2 + (1 : Int)))) (v3) (v4) (v5) (v6) (v0)   0 2 3 4 5 1 6))])) (u := Value.iface 88 (Value.agg #[vi (IntKind.i64.wrap (v2 + (1 : Int)))])) (ob := ((dP (ZfG #[vp 0 0, Value.string (Za (Z5 (10 : Int) v1))] ((Z5 (10 : Int) v1)) ((ZO (10 : Int) v1)) ((IntKind.i64.wrap (v2 + (1 : Int)))) (v3) (v4) (v5) (v6) (v0)   0 2 3 4 5 1 6), true) :: (dS [Value.string (Za (ZO (10 : Int) v1)), vi (IntKind.i64.wrap (v2 + (1 : Int))), vs 2 0 v3.length v3.length, vs 3 0 v4.length v4.length, vs 4 0 v5.length v5.length, vs 5 0 v6.length v6.length, Value.map (some 1)], true) :: (dS (Zb Zd v3), true) :: (dS (Zb eI v4), true) :: (dS (Zb Zt v5), true) :: (dS (Zb Zr v6), true) :: (dS (Zk v0), true) :: (((bAt (Z5 (10 : Int) v1) 0) == (58 : Int)), false) :: ZcK L0 a1 L2 v0 v1 v2 v3 v4 v5 v6)) (fun gv => by as_aux_lemma => kernel_rfl) (Zc (Zp (Zj9 #[vp 0 0, Value.string (Za (Z5 (10 : Int) v1))] ((Z5 (10 : Int) v1)) ((ZO (10 : Int) v1)) ((IntKind.i64.wrap (v2 + (1 : Int)))) (v3) (v4) (v5) (v6) (v0)   N c8 0 2 3 4 5 1 6 rfl dcd dcd)) <| oR <| oR <| oR <| oR <| oR <| oR <| oF <| w7) rfl (by rfl) (by rfl)
      | r1 y8_0 =>
       refine Mach.ok_ite (fun g9 => ?_) (fun _ => Mach.ok_none)
       exact Mach.ok_nextW (M := ZY L0 a1 L2 N) (cd := 1000000) (cm := 0) (y := (.h1m0 (v0) ((ZO (10 : Int) v1)) ((IntKind.i64.wrap (v2 + (1 : Int)))) (y8_0) ((v4 ++ ([(IntKind.i64.wrap (v2 + (1 : Int)))] : List Int))) (v5) (v6) : ZA)) (fu := 4000) (orc := (Zs [(0, true), (1, true), (3, false), (4, false), (5, false)] [] [] [] [(1, .bs v1), (3, .bs [(bAt (Z5 (10 : Int) v1) 0)]), (4, .bs [(bAt (Z5 (10 : Int) v1) 0)]), (5, (ZjA ((Z5 (10 : Int) v1)) ((ZO (10 : Int) v1)) ((IntKind.i64.wrap (v2 + (1 : Int)))) (v3) (v4) (v5) (v6) (v0)  y8_0 0 2 3 4 5 1 6))])) (live := [0, 1, 6, 7, 4, 5]) (tv := fun _ => [some (vp 0 0)]) (bl := [some (.cells [Value.string (Za (ZO (10 : Int) v1)), vi (IntKind.i64.wrap (v2 + (1 : Int))), vs 6 0 y8_0.length y8_0.length, vs 7 0 (v4.length + 1) (v4.length + 1), vs 4 0 v5.length v5.length, vs 5 0 v6.length v6.length, Value.map (some 1)] 57), some (.ro (Zk v0) true), some (.cells (Zb Zd y8_0) 24), some (.cells (Zb eI (v4 ++ ([(IntKind.i64.wrap (v2 + (1 : Int)))] : List Int))) 3), some (.cells (Zb Zt v5) 122 true), some (.cells (Zb Zr v6) 9 true)]) (ob := ((dP (ZfH #[vp 0 0, Value.string (Za (Z5 (10 : Int) v1))] ((Z5 (10 : Int) v1)) ((ZO (10 : Int) v1)) ((IntKind.i64.wrap (v2 + (1 : Int)))) (v3) (v4) (v5) (v6) (v0)  y8_0 0 2 3 4 5 1 6), true) :: (dS [Value.string (Za (ZO (10 : Int) v1)), vi (IntKind.i64.wrap (v2 + (1 : Int))), vs 2 0 v3.length v3.length, vs 3 0 v4.length v4.length, vs 4 0 v5.length v5.length, vs 5 0 v6.length v6.length, Value.map (some 1)], true) :: (dS (Zb Zd v3), true) :: (dS (Zb eI v4), true) :: (dS (Zb Zt v5), true) :: (dS (Zb Zr v6), true) :: (dS (Zk v0), true) :: (((bAt (Z5 (10 : Int) v1) 0) == (58 : Int)), false) :: ZcK L0 a1 L2 v0 v1 v2 v3 v4 v5 v6)) [some (.cells [Value.string (Za (ZO (10 : Int) v1)), vi (IntKind.i64.wrap (v2 + (1 : Int))), vs 2 0 y8_0.length y8_0.length, vs 3 0 (v4 ++ ([(IntKind.i64.wrap (v2 + (1 : Int)))] : List Int)).length (v4 ++ ([(IntKind.i64.wrap (v2 + (1 : Int)))] : List Int)).length, vs 4 0 v5.length v5.length, vs 5 0 v6.length v6.length, Value.map (some 1)] 57), some (.ro (Zk v0) true), some (.cells (Zb Zd y8_0) 24), some (.cells (Zb eI (v4 ++ ([(IntKind.i64.wrap (v2 + (1 : Int)))] : List Int))) 3), some (.cells (Zb Zt v5) 122 true), some (.cells (Zb Zr v6) 9 true)] [] 0 ⟨(.inl rfl), ⟨(.inl rfl), ⟨(Zp8 (E := Zd) (L := y8_0) ltA (by decide)), ⟨(Zp8 (E := eI) (L := (v4 ++ ([(IntKind.i64.wrap (v2 + (1 : Int)))] : List Int))) ltA (by decide)), ⟨(.inl rfl), ⟨(.inl rfl), trivial⟩⟩⟩⟩⟩⟩ (by rfl) (by rfl) rfl (show 1 ∈ ZJ (ZdI 1) from by decide +kernel) (fun gv => by as_aux_lemma => kernel_rfl) (Zc (Zp (ZjB #[vp 0 0, Value.string (Za (Z5 (10 : Int) v1))] ((Z5 (10 : Int) v1)) ((ZO (10 : Int) v1)) ((IntKind.i64.wrap (v2 + (1 : Int)))) (v3) (v4) (v5) (v6) (v0)  y8_0 N c8 0 2 3 4 5 1 6 rfl dcd dcd)) <| oR <| oR <| oR <| oR <| oR <| oR <| oF <| w7) rfl (by decide) (by rfl) (fun _ => ⟨rr, trivial⟩) ⟨⟨rfl, ⟨[], (show ([Value.string (Za (ZO (10 : Int) v1)), vi (IntKind.i64.wrap (v2 + (1 : Int))), vs 2 0 y8_0.length y8_0.length, vs 3 0 (v4.length + 1) (v4.length + 1), vs 4 0 v5.length v5.length, vs 5 0 v6.length v6.length, Value.map (some 1)] : List Value) = _ from (Ze rfl (Ze rfl (Ze rfl (Ze (Zah rfl eqA eqA) (Ze rfl (Ze rfl (Ze rfl rfl))))))).symm)⟩, by rfl⟩, ⟨(show Zk v0 = Zk v0 from rfl), ⟨(ZW (E := Zd) (α := RA) _ y8_0 _), ⟨(ZW (E := eI) (α := Int) _ (v4 ++ ([(IntKind.i64.wrap (v2 + (1 : Int)))] : List Int)) _), ⟨(Zl (E := Zt) (α := R_is) _ v5 _), ⟨(Zl (E := Zr) (α := List Int) _ v6 _), trivial⟩⟩⟩⟩⟩⟩
      | r2 y8_0 y8_1 =>
       refine Mach.ok_ite (fun g9 => ?_) (fun _ => Mach.ok_none)
       refine Mach.ok_ite (fun g10 => ?_) (fun _ => Mach.ok_none)
       exact Mach.ok_nextW (M := ZY L0 a1 L2 N) (cd := 1000000) (cm := 0) (y := (.h1m0 (v0) ((ZO (10 : Int) v1)) ((IntKind.i64.wrap (v2 + (1 : Int)))) (y8_0) ((v4 ++ ([(IntKind.i64.wrap (v2 + (1 : Int)))] : List Int))) (y8_1) (v6) : ZA)) (fu := 4000) (orc := (Zs [(0, true), (1, true), (3, false), (4, false), (5, false)] [] [] [] [(1, .bs v1), (3, .bs [(bAt (Z5 (10 : Int) v1) 0)]), (4, .bs [(bAt (Z5 (10 : Int) v1) 0)]), (5, (ZjC ((Z5 (10 : Int) v1)) ((ZO (10 : Int) v1)) ((IntKind.i64.wrap (v2 + (1 : Int)))) (v3) (v4) (v5) (v6) (v0)  y8_0 y8_1 0 2 3 4 5 1 6))])) (live := [0, 1, 6, 7, 8, 5]) (tv := fun _ => [some (vp 0 0)]) (bl := [some (.cells [Value.string (Za (ZO (10 : Int) v1)), vi (IntKind.i64.wrap (v2 + (1 : Int))), vs 6 0 y8_0.length y8_0.length, vs 7 0 (v4.length + 1) (v4.length + 1), vs 8 0 y8_1.length y8_1.length, vs 5 0 v6.length v6.length, Value.map (some 1)] 57), some (.ro (Zk v0) true), some (.cells (Zb Zd y8_0) 24), some (.cells (Zb eI (v4 ++ ([(IntKind.i64.wrap (v2 + (1 : Int)))] : List Int))) 3), some (.cells (Zb Zt y8_1) 122), some (.cells (Zb Zr v6) 9 true)]) (ob := ((dP (ZfI #[vp 0 0, Value.string (Za (Z5 (10 : Int) v1))] ((Z5 (10 : Int) v1)) ((ZO (10 : Int) v1)) ((IntKind.i64.wrap (v2 + (1 : Int)))) (v3) (v4) (v5) (v6) (v0)  y8_0 y8_1 0 2 3 4 5 1 6), true) :: (dS [Value.string (Za (ZO (10 : Int) v1)), vi (IntKind.i64.wrap (v2 + (1 : Int))), vs 2 0 v3.length v3.length, vs 3 0 v4.length v4.length, vs 4 0 v5.length v5.length, vs 5 0 v6.length v6.length, Value.map (some 1)], true) :: (dS (Zb Zd v3), true) :: (dS (Zb eI v4), true) :: (dS (Zb Zt v5), true) :: (dS (Zb Zr v6), true) :: (dS (Zk v0), true) :: (((bAt (Z5 (10 : Int) v1) 0) == (58 : Int)), false) :: ZcK L0 a1 L2 v0 v1 v2 v3 v4 v5 v6)) [some (.cells [Value.string (Za (ZO (10 : Int) v1)), vi (IntKind.i64.wrap (v2 + (1 : Int))), vs 2 0 y8_0.length y8_0.length, vs 3 0 (v4 ++ ([(IntKind.i64.wrap (v2 + (1 : Int)))] : List Int)).length (v4 ++ ([(IntKind.i64.wrap (v2 + (1 : Int)))] : List Int)).length, vs 4 0 y8_1.length y8_1.length, vs 5 0 v6.length v6.length, Value.map (some 1)] 57), some (.ro (Zk v0) true), some (.cells (Zb Zd y8_0) 24), some (.cells (Zb eI (v4 ++ ([(IntKind.i64.wrap (v2 + (1 : Int)))] : List Int))) 3), some (.cells (Zb Zt y8_1) 122), some (.cells (Zb Zr v6) 9 true)] [] 0 ⟨(.inl rfl), ⟨(.inl rfl), ⟨(Zp8 (E := Zd) (L := y8_0) ltA (by decide)), ⟨(Zp8 (E := eI) (L := (v4 ++ ([(IntKind.i64.wrap (v2 + (1 : Int)))] : List Int))) ltA (by decide)), ⟨(Zp8 (E := Zt) (L := y8_1) ltA (by decide)), ⟨(.inl rfl), trivial⟩⟩⟩⟩⟩⟩ (by rfl) (by rfl) rfl (show 1 ∈ ZJ (ZdI 1) from by decide +kernel) (fun gv => by as_aux_lemma => kernel_rfl) (Zc (Zp (ZjD #[vp 0 0, Value.string (Za (Z5 (10 : Int) v1))] ((Z5 (10 : Int) v1)) ((ZO (10 : Int) v1)) ((IntKind.i64.wrap (v2 + (1 : Int)))) (v3) (v4) (v5) (v6) (v0)  y8_0 y8_1 N c8 0 2 3 4 5 1 6 rfl dcd dcd)) <| oR <| oR <| oR <| oR <| oR <| oR <| oF <| w7) rfl (by decide) (by rfl) (fun _ => ⟨rr, trivial⟩) ⟨⟨rfl, ⟨[], (show ([Value.string (Za (ZO (10 : Int) v1)), vi (IntKind.i64.wrap (v2 + (1 : Int))), vs 2 0 y8_0.length y8_0.length, vs 3 0 (v4.length + 1) (v4.length + 1), vs 4 0 y8_1.length y8_1.length, vs 5 0 v6.length v6.length, Value.map (some 1)] : List Value) = _ from (Ze rfl (Ze rfl (Ze rfl (Ze (Zah rfl eqA eqA) (Ze rfl (Ze rfl (Ze rfl rfl))))))).symm)⟩, by rfl⟩, ⟨(show Zk v0 = Zk v0 from rfl), ⟨(ZW (E := Zd) (α := RA) _ y8_0 _), ⟨(ZW (E := eI) (α := Int) _ (v4 ++ ([(IntKind.i64.wrap (v2 + (1 : Int)))] : List Int)) _), ⟨(ZW (E := Zt) (α := R_is) _ y8_1 _), ⟨(Zl (E := Zr) (α := List Int) _ v6 _), trivial⟩⟩⟩⟩⟩⟩
  ·
   exact Mach.ok_thr (M := ZY L0 a1 L2 N) (cd := 1000000) (cm := 0) (r := (.r0 ((IntKind.i64.wrap (v2 + (1 : Int)))) : ZD)) (fu := 4000) (orc := (Z2 [o1, o0] [] [] [] [(1, .bs v1)])) (u := Value.iface 88 (Value.agg #[vi (IntKind.i64.wrap (v2 + (1 : Int)))])) (ob := (((Zbc (10 : Int) v1), false) :: Zeg L0 a1 L2 v0 v1 v2 v3 v4 v5 v6)) (fun gv => by as_aux_lemma => kernel_rfl) (Zc (Bool.eq_false_iff.2 (by assumption)) <| w3) rfl (by rfl) (by rfl)
 ·
  refine Mach.ok_bind (fun z1 c1 => ?_)
  cases z1 with
  | r0 y1_0 =>
   exact Mach.ok_thr (M := ZY L0 a1 L2 N) (cd := 1000000) (cm := 0) (r := (.r0 (y1_0) : ZD)) (fu := 4000) (orc := (Z2 [o0] [] [] [] [(0, (Zog (v1) (v2) (v3) (v4) (v5) (v6) (v0)  y1_0 0 2 3 4 5 1 6))])) (u := Value.iface 88 (Value.agg #[vi y1_0])) (ob := ((dP (ZjH #[vp 0 0] (v1) (v2) (v3) (v4) (v5) (v6) (v0)  y1_0 0 2 3 4 5 1 6), true) :: (dS [Value.string (Za v1), vi v2, vs 2 0 v3.length v3.length, vs 3 0 v4.length v4.length, vs 4 0 v5.length v5.length, vs 5 0 v6.length v6.length, Value.map (some 1)], true) :: (dS (Zb Zd v3), true) :: (dS (Zb eI v4), true) :: (dS (Zb Zt v5), true) :: (dS (Zb Zr v6), true) :: (dS (Zk v0), true) :: ((!((Za v1).toList == (⟨#[]⟩ : ByteArray).toList)), false) :: [])) (fun gv => by as_aux_lemma => kernel_rfl) (Zc (Zp (Zoh #[vp 0 0] (v1) (v2) (v3) (v4) (v5) (v6) (v0)  y1_0 N c1 0 2 3 4 5 1 6 rfl dcd dcd)) <| oR <| oR <| oR <| oR <| oR <| oR <| Zc (Zsr (x := v1) (y := ([] : List Int)) (by first | assumption | exact Decidable.not_not.1 (by assumption))) <| Z9) rfl (by rfl) (by rfl)
  | r1 y1_0 =>
   exact Mach.ok_fin (M := ZY L0 a1 L2 N) (cd := 1000000) (cm := 0) (r := (.r1 (v0) (v1) (y1_0) (v3) (v4) (v5) (v6) : ZD)) (fu := 4000) (orc := (Z2 [o0] [] [] [] [(0, (Zoi (v1) (v2) (v3) (v4) (v5) (v6) (v0)  y1_0 0 2 3 4 5 1 6))])) (live := [0, 1, 2, 3, 4, 5]) (u := vtt) (bl := [some (.cells [Value.string (Za v1), vi y1_0, vs 2 0 v3.length v3.length, vs 3 0 v4.length v4.length, vs 4 0 v5.length v5.length, vs 5 0 v6.length v6.length, Value.map (some 1)] 57), some (.ro (Zk v0) true), some (.cells (Zb Zd v3) 24 true), some (.cells (Zb eI v4) 3 true), some (.cells (Zb Zt v5) 122 true), some (.cells (Zb Zr v6) 9 true)]) (ob := ((dP (ZjI #[vp 0 0] (v1) (v2) (v3) (v4) (v5) (v6) (v0)  y1_0 0 2 3 4 5 1 6), true) :: (dS [Value.string (Za v1), vi v2, vs 2 0 v3.length v3.length, vs 3 0 v4.length v4.length, vs 4 0 v5.length v5.length, vs 5 0 v6.length v6.length, Value.map (some 1)], true) :: (dS (Zb Zd v3), true) :: (dS (Zb eI v4), true) :: (dS (Zb Zt v5), true) :: (dS (Zb Zr v6), true) :: (dS (Zk v0), true) :: ((!((Za v1).toList == (⟨#[]⟩ : ByteArray).toList)), false) :: [])) (fun gv => by as_aux_lemma => kernel_rfl) (Zc (Zp (Zoj #[vp 0 0] (v1) (v2) (v3) (v4) (v5) (v6) (v0)  y1_0 N c1 0 2 3 4 5 1 6 rfl dcd dcd)) <| oR <| oR <| oR <| oR <| oR <| oR <| Zc (Zsr (x := v1) (y := ([] : List Int)) (by first | assumption | exact Decidable.not_not.1 (by assumption))) <| Z9) rfl (by decide) (by rfl) rr ⟨sm, ⟨(show Zk v0 = Zk v0 from rfl), ⟨(Zl (E := Zd) (α := RA) _ v3 _), ⟨(Zl (E := eI) (α := Int) _ v4 _), ⟨(Zl (E := Zt) (α := R_is) _ v5 _), ⟨(Zl (E := Zr) (α := List Int) _ v6 _), trivial⟩⟩⟩⟩⟩⟩
  | r2 y1_0 y1_1 y1_2 y1_3 =>
   exact Mach.ok_fin (M := ZY L0 a1 L2 N) (cd := 1000000) (cm := 0) (r := (.r2 (v0) (v1) (y1_1) (y1_0) (v4) (v5) (y1_2) (y1_3) (v6) : ZD)) (fu := 4000) (orc := (Z2 [o0] [] [] [] [(0, (Zok (v1) (v2) (v3) (v4) (v5) (v6) (v0)  y1_0 y1_1 y1_2 y1_3 0 2 3 4 5 1 6))])) (live := [0, 1, 2, 3, 4, 5]) (u := vtt) (bl := [some (.cells [Value.string (Za v1), vi y1_1, vs 2 0 y1_0.length y1_0.length, vs 3 0 v4.length v4.length, vs 4 (y1_2 * 2) y1_3 y1_3, vs 5 0 v6.length v6.length, Value.map (some 1)] 57), some (.ro (Zk v0) true), some (.cells (Zb Zd y1_0) 24 true), some (.cells (Zb eI v4) 3 true), some (.cells (Zb Zt v5) 122 true), some (.cells (Zb Zr v6) 9 true)]) (ob := ((dP (ZjJ #[vp 0 0] (v1) (v2) (v3) (v4) (v5) (v6) (v0)  y1_0 y1_1 y1_2 y1_3 0 2 3 4 5 1 6), true) :: (dS [Value.string (Za v1), vi v2, vs 2 0 v3.length v3.length, vs 3 0 v4.length v4.length, vs 4 0 v5.length v5.length, vs 5 0 v6.length v6.length, Value.map (some 1)], true) :: (dS (Zb Zd v3), true) :: (dS (Zb eI v4), true) :: (dS (Zb Zt v5), true) :: (dS (Zb Zr v6), true) :: (dS (Zk v0), true) :: ((!((Za v1).toList == (⟨#[]⟩ : ByteArray).toList)), false) :: [])) (fun gv => by as_aux_lemma => kernel_rfl) (Zc (Zp (Zol #[vp 0 0] (v1) (v2) (v3) (v4) (v5) (v6) (v0)  y1_0 y1_1 y1_2 y1_3 N c1 0 2 3 4 5 1 6 rfl dcd dcd)) <| oR <| oR <| oR <| oR <| oR <| oR <| Zc (Zsr (x := v1) (y := ([] : List Int)) (by first | assumption | exact Decidable.not_not.1 (by assumption))) <| Z9) rfl (by decide) (by rfl) rr ⟨sm, ⟨(show Zk v0 = Zk v0 from rfl), ⟨(Zl (E := Zd) (α := RA) _ y1_0 _), ⟨(Zl (E := eI) (α := Int) _ v4 _), ⟨(Zl (E := Zt) (α := R_is) _ v5 _), ⟨(Zl (E := Zr) (α := List Int) _ v6 _), trivial⟩⟩⟩⟩⟩⟩

set_option maxHeartbeats 4000000 in
theorem Zm8 (L0 : List Int) (a1 : Int) (L2 : List R_si) (N : Nat) : (ZY L0 a1 L2 N).Enter Tryd.prog ZG #[vp 0 0] (Zet L0 a1 L2 N) := by
 unfold Zet
 exact Mach.en_headW (bK := ZcD 1) (M := ZY L0 a1 L2 N) (cd := 1000000) (cm := 0) (y := (.h1m0 (L2) (L0) (a1) (([] : List RA)) (([] : List Int)) (([] : List R_is)) (([] : List (List Int))) : ZA)) (fu := 4000) (orc := (Zs [] [] [] [] [])) (live := [0, 1, 500000002, 500000003, 500000004, 500000005]) (tv := [some (vp 0 0)]) (bl := [some (.cells [Value.string (Za L0), vi a1, vn, vn, vn, vn, Value.map (some 1)] 57), some (.ro (Zk L2) true), none, none, none, none]) (ob := ([])) [some (.cells [Value.string (Za L0), vi a1, vn, vn, vn, vn, Value.map (some 1)] 57), some (.ro (Zk L2) true), none, none, none, none] [(2, 24), (3, 3), (4, 122), (5, 9)] 0 ⟨(wk_c ⟨.inl rfl, ⟨.inl rfl, ⟨.inr ⟨rfl, _, rfl⟩, ⟨.inr ⟨rfl, _, rfl⟩, ⟨.inr ⟨rfl, _, rfl⟩, ⟨.inr ⟨rfl, _, rfl⟩, ⟨.inl rfl, trivial⟩⟩⟩⟩⟩⟩⟩), ⟨(.inl rfl), ⟨(.inl rfl), ⟨(.inl rfl), ⟨(.inl rfl), ⟨(.inl rfl), trivial⟩⟩⟩⟩⟩⟩ (by rfl) (by rfl) rfl rfl (show ZJ (ZcD 1).2 = [] from rfl) (by as_aux_lemma => kernel_rfl) (Z9) rfl (by decide) (by rfl) ⟨rr, trivial⟩ ⟨sm, ⟨(show Zk L2 = Zk L2 from rfl), trivial⟩⟩

theorem Zfd (L0 : List Int) (a1 : Int) (L2 : List R_si) (N : Nat) (r : ZD) (h : ZcQ L0 a1 L2 N = some r) : LSpec Tryd.prog 38 #[vp 0 0] [.cells [Value.string (Za L0), vi a1, vn, vn, vn, vn, Value.map (some 1)] 57, .ro (Zk L2) true] (ZjK L0 a1 L2 r) (ZiJ L0 a1 L2 r) :=
 Mach.spec ZdU (ZY L0 a1 L2 N) Tryd.func38 (by kernel_rfl) (by kernel_rfl) (fun x => by cases x <;> exact Zaq _ rfl) (fun r => by cases r <;> exact Zaq _ rfl) (fun x => by
  cases x with
  | h1m0 _ _ _ _ _ _ _ => exact fun _ => (show ¬ (1 ∈ ZJ (ZcD 1).2) from by decide +kernel)
  ) (fun x => (show (ZY L0 a1 L2 N).Ok Tryd.prog ZG x (Za0 L0 a1 L2 N x) from by
  cases x with
  | h1m0 v0 v1 v2 v3 v4 v5 v6 => exact ZkX L0 a1 L2 v0 v1 v2 v3 v4 v5 v6 N
  )) (Zm8 L0 a1 L2 N) (n := N) h

noncomputable def Znn (L0 : List Int) (a1 : Int) (L2 : List R_si) (w0 : Int) (k0 k1 n : Nat) : Za8 := .call [(k0, .cells [Value.string (Za L0), vi a1, vn, vn, vn, vn, Value.map (some k1)] 57), (k1, .ro (Zk L2) true)] (Value.iface 88 (Value.agg #[vi w0])) [(k0, none), (k1, none)] 0
def ZiL (A : Array Value) (L0 : List Int) (a1 : Int) (L2 : List R_si) (w0 : Int) (k0 k1 n : Nat) : Prop := ZB Tryd.prog 38 A [(k0, .cells [Value.string (Za L0), vi a1, vn, vn, vn, vn, Value.map (some k1)] 57), (k1, .ro (Zk L2) true)] (Value.iface 88 (Value.agg #[vi w0])) [(k0, none), (k1, none)] n 0

theorem Zno (A : Array Value) (L0 : List Int) (a1 : Int) (L2 : List R_si) (w0 : Int) (N : Nat) (h : ZcQ L0 a1 L2 N = some (.r0 w0)) (k0 k1 n : Nat) (hA : A = #[vp k0 0]) (hnd : ([k0, k1] : List Nat).Nodup) (hlt : ∀ k ∈ ([k0, k1] : List Nat), k < n) : ZiL A L0 a1 L2 w0 k0 k1 n :=
 Zaj hA (LSpec.callL (show LSpec Tryd.prog 38 #[vp 0 0] [.cells [Value.string (Za L0), vi a1, vn, vn, vn, vn, Value.map (some 1)] 57, .ro (Zk L2) true] (Value.iface 88 (Value.agg #[vi w0])) [none, none] from Zfd L0 a1 L2 N _ h) [k0, k1] n [0, 1] rfl hnd hlt (show 2 ≤ 2 from by decide) (show ∀ j ∈ ([0, 1] : List Nat), j < 2 from by decide) (by rfl) ⟨rfl, ⟨rfl, trivial⟩⟩ (by rfl) trivial ⟨.inl (by decide), ⟨.inl (by decide), trivial⟩⟩ rfl rfl rfl (Ze (Zj rfl rfl) (Ze (Zj rfl rfl) rfl)) (Ze (Zj rfl rfl) (Ze (Zj rfl rfl) rfl)))

noncomputable def Znp (L0 : List Int) (a1 : Int) (L2 w0 : List R_si) (w1 : List Int) (w2 : Int) (w3 : List RA) (w4 : List Int) (w5 : List R_is) (w6 : List (List Int)) (k0 k1 n : Nat) : Za8 := .call [(k0, .cells [Value.string (Za L0), vi a1, vn, vn, vn, vn, Value.map (some k1)] 57), (k1, .ro (Zk L2) true)] (vtt) [(k0, some (.cells [Value.string (Za w1), vi w2, vs n 0 w3.length w3.length, vs (n + 1) 0 w4.length w4.length, vs (n + 2) 0 w5.length w5.length, vs (n + 3) 0 w6.length w6.length, Value.map (some k1)] 57)), (k1, some (.ro (Zk w0) true)), (n, some (.cells (Zb Zd w3) 24 true)), ((n + 1), some (.cells (Zb eI w4) 3 true)), ((n + 2), some (.cells (Zb Zt w5) 122 true)), ((n + 3), some (.cells (Zb Zr w6) 9 true))] 4
def ZiM (A : Array Value) (L0 : List Int) (a1 : Int) (L2 w0 : List R_si) (w1 : List Int) (w2 : Int) (w3 : List RA) (w4 : List Int) (w5 : List R_is) (w6 : List (List Int)) (k0 k1 n : Nat) : Prop := ZB Tryd.prog 38 A [(k0, .cells [Value.string (Za L0), vi a1, vn, vn, vn, vn, Value.map (some k1)] 57), (k1, .ro (Zk L2) true)] (vtt) [(k0, some (.cells [Value.string (Za w1), vi w2, vs n 0 w3.length w3.length, vs (n + 1) 0 w4.length w4.length, vs (n + 2) 0 w5.length w5.length, vs (n + 3) 0 w6.length w6.length, Value.map (some k1)] 57)), (k1, some (.ro (Zk w0) true)), (n, some (.cells (Zb Zd w3) 24 true)), ((n + 1), some (.cells (Zb eI w4) 3 true)), ((n + 2), some (.cells (Zb Zt w5) 122 true)), ((n + 3), some (.cells (Zb Zr w6) 9 true))] n 4

theorem Znq (A : Array Value) (L0 : List Int) (a1 : Int) (L2 w0 : List R_si) (w1 : List Int) (w2 : Int) (w3 : List RA) (w4 : List Int) (w5 : List R_is) (w6 : List (List Int)) (N : Nat) (h : ZcQ L0 a1 L2 N = some (.r1 w0 w1 w2 w3 w4 w5 w6)) (k0 k1 n : Nat) (hA : A = #[vp k0 0]) (hnd : ([k0, k1] : List Nat).Nodup) (hlt : ∀ k ∈ ([k0, k1] : List Nat), k < n) : ZiM A L0 a1 L2 w0 w1 w2 w3 w4 w5 w6 k0 k1 n :=
 Zaj hA (LSpec.callL (show LSpec Tryd.prog 38 #[vp 0 0] [.cells [Value.string (Za L0), vi a1, vn, vn, vn, vn, Value.map (some 1)] 57, .ro (Zk L2) true] (vtt) [some (.cells [Value.string (Za w1), vi w2, vs 2 0 w3.length w3.length, vs 3 0 w4.length w4.length, vs 4 0 w5.length w5.length, vs 5 0 w6.length w6.length, Value.map (some 1)] 57), some (.ro (Zk w0) true), some (.cells (Zb Zd w3) 24 true), some (.cells (Zb eI w4) 3 true), some (.cells (Zb Zt w5) 122 true), some (.cells (Zb Zr w6) 9 true)] from Zfd L0 a1 L2 N _ h) [k0, k1] n [0, 1, 2, 3, 4, 5] rfl hnd hlt (show 2 ≤ 6 from by decide) (show ∀ j ∈ ([0, 1, 2, 3, 4, 5] : List Nat), j < 6 from by decide) (by rfl) ⟨rfl, ⟨rfl, trivial⟩⟩ (by rfl) ⟨rfl, ⟨rfl, ⟨(Zo _ _ _), ⟨(Zo _ _ _), ⟨(Zo _ _ _), ⟨(Zo _ _ _), trivial⟩⟩⟩⟩⟩⟩ ⟨.inl (by decide), ⟨.inl (by decide), ⟨(by decide), ⟨(by decide), ⟨(by decide), ⟨(by decide), trivial⟩⟩⟩⟩⟩⟩ rfl rfl rfl (Ze (Zj rfl rfl) (Ze (Zj rfl rfl) rfl)) (Ze (Zj rfl (Za6 rfl)) (Ze (Zj rfl (Za6 rfl)) (Ze (Zj rfl (Za6 (Zz _ _ _))) (Ze (Zj rfl (Za6 (Zz _ _ _))) (Ze (Zj rfl (Za6 (Zz _ _ _))) (Ze (Zj rfl (Za6 (Zz _ _ _))) rfl)))))))

noncomputable def Znr (L0 : List Int) (a1 : Int) (L2 w0 : List R_si) (w1 : List Int) (w2 : Int) (w3 : List RA) (w4 : List Int) (w5 : List R_is) (w6 w7 : Nat) (w8 : List (List Int)) (k0 k1 n : Nat) : Za8 := .call [(k0, .cells [Value.string (Za L0), vi a1, vn, vn, vn, vn, Value.map (some k1)] 57), (k1, .ro (Zk L2) true)] (vtt) [(k0, some (.cells [Value.string (Za w1), vi w2, vs n 0 w3.length w3.length, vs (n + 1) 0 w4.length w4.length, vs (n + 2) (w6 * 2) w7 w7, vs (n + 3) 0 w8.length w8.length, Value.map (some k1)] 57)), (k1, some (.ro (Zk w0) true)), (n, some (.cells (Zb Zd w3) 24 true)), ((n + 1), some (.cells (Zb eI w4) 3 true)), ((n + 2), some (.cells (Zb Zt w5) 122 true)), ((n + 3), some (.cells (Zb Zr w8) 9 true))] 4
def ZiN (A : Array Value) (L0 : List Int) (a1 : Int) (L2 w0 : List R_si) (w1 : List Int) (w2 : Int) (w3 : List RA) (w4 : List Int) (w5 : List R_is) (w6 w7 : Nat) (w8 : List (List Int)) (k0 k1 n : Nat) : Prop := ZB Tryd.prog 38 A [(k0, .cells [Value.string (Za L0), vi a1, vn, vn, vn, vn, Value.map (some k1)] 57), (k1, .ro (Zk L2) true)] (vtt) [(k0, some (.cells [Value.string (Za w1), vi w2, vs n 0 w3.length w3.length, vs (n + 1) 0 w4.length w4.length, vs (n + 2) (w6 * 2) w7 w7, vs (n + 3) 0 w8.length w8.length, Value.map (some k1)] 57)), (k1, some (.ro (Zk w0) true)), (n, some (.cells (Zb Zd w3) 24 true)), ((n + 1), some (.cells (Zb eI w4) 3 true)), ((n + 2), some (.cells (Zb Zt w5) 122 true)), ((n + 3), some (.cells (Zb Zr w8) 9 true))] n 4

theorem Zns (A : Array Value) (L0 : List Int) (a1 : Int) (L2 w0 : List R_si) (w1 : List Int) (w2 : Int) (w3 : List RA) (w4 : List Int) (w5 : List R_is) (w6 w7 : Nat) (w8 : List (List Int)) (N : Nat) (h : ZcQ L0 a1 L2 N = some (.r2 w0 w1 w2 w3 w4 w5 w6 w7 w8)) (k0 k1 n : Nat) (hA : A = #[vp k0 0]) (hnd : ([k0, k1] : List Nat).Nodup) (hlt : ∀ k ∈ ([k0, k1] : List Nat), k < n) : ZiN A L0 a1 L2 w0 w1 w2 w3 w4 w5 w6 w7 w8 k0 k1 n :=
 Zaj hA (LSpec.callL (show LSpec Tryd.prog 38 #[vp 0 0] [.cells [Value.string (Za L0), vi a1, vn, vn, vn, vn, Value.map (some 1)] 57, .ro (Zk L2) true] (vtt) [some (.cells [Value.string (Za w1), vi w2, vs 2 0 w3.length w3.length, vs 3 0 w4.length w4.length, vs 4 (w6 * 2) w7 w7, vs 5 0 w8.length w8.length, Value.map (some 1)] 57), some (.ro (Zk w0) true), some (.cells (Zb Zd w3) 24 true), some (.cells (Zb eI w4) 3 true), some (.cells (Zb Zt w5) 122 true), some (.cells (Zb Zr w8) 9 true)] from Zfd L0 a1 L2 N _ h) [k0, k1] n [0, 1, 2, 3, 4, 5] rfl hnd hlt (show 2 ≤ 6 from by decide) (show ∀ j ∈ ([0, 1, 2, 3, 4, 5] : List Nat), j < 6 from by decide) (by rfl) ⟨rfl, ⟨rfl, trivial⟩⟩ (by rfl) ⟨rfl, ⟨rfl, ⟨(Zo _ _ _), ⟨(Zo _ _ _), ⟨(Zo _ _ _), ⟨(Zo _ _ _), trivial⟩⟩⟩⟩⟩⟩ ⟨.inl (by decide), ⟨.inl (by decide), ⟨(by decide), ⟨(by decide), ⟨(by decide), ⟨(by decide), trivial⟩⟩⟩⟩⟩⟩ rfl rfl rfl (Ze (Zj rfl rfl) (Ze (Zj rfl rfl) rfl)) (Ze (Zj rfl (Za6 rfl)) (Ze (Zj rfl (Za6 rfl)) (Ze (Zj rfl (Za6 (Zz _ _ _))) (Ze (Zj rfl (Za6 (Zz _ _ _))) (Ze (Zj rfl (Za6 (Zz _ _ _))) (Ze (Zj rfl (Za6 (Zz _ _ _))) rfl)))))))

noncomputable def Zpi (L0 : List Int) : Zbs → Value
 | .r0 w0 w1 => Value.tuple #[vn, vi w0, vi w1]
 | .r1 w0 => Value.tuple #[vs 0 0 w0.length w0.length, vq, vq]
noncomputable def ZnB (L0 : List Int) : Zbs → List (Option AObj)
 | .r0 w0 w1 => []
 | .r1 w0 => [some (.cells (Zb Zd w0) 24 true)]

theorem Zsx (L0 : List Int) (N : Nat) : Fx Tryd.prog ZG Tryd.f9 [] #[Value.string (Za L0)] (Zpi L0) (ZnB L0) (ZcI L0 N) := by
 unfold ZcI
 refine Zbw (fun g0 => ?_) (fun g0 => ?_)
 ·
  exact ZaM (r := (.r0 ((0 : Int)) ((2 : Int)) : Zbs)) (fu := 4000) (orc := (Z2 [o1] [] [] [] [])) (live := []) (u := Value.tuple #[vn, vq, vi (2 : Int)]) (bl := []) (ob := [((decide ((((Za L0).size : Nat) : Int) > (262144 : Int))), true)]) (by kernel_rfl) (oY Z9) rfl (by decide) (by rfl) rr trivial
 ·
  refine Zxg (fun z1 c1 => ?_)
  cases z1 with
  | r0 y1_0 =>
   exact ZaM (r := (.r0 (y1_0) ((130 : Int)) : Zbs)) (fu := 4000) (orc := (Z2 [o0] [] [] [] [(1, (Znn (L0) ((0 : Int)) (([] : List R_si))  y1_0 3 2 4))])) (live := []) (u := Value.tuple #[vn, vi y1_0, vi (130 : Int)]) (bl := []) (ob := [(dP (ZiL #[vp 3 0] (L0) ((0 : Int)) (([] : List R_si))  y1_0 3 2 4), true), (dS [Value.string (Za L0), vq, vn, vn, vn, vn, Value.map (some 2)], true), (dS (Zk ([] : List R_si)), true), ((decide ((((Za L0).size : Nat) : Int) > (262144 : Int))), false)]) (by kernel_rfl) (Zc (Zp (Zno #[vp 3 0] (L0) ((0 : Int)) (([] : List R_si))  y1_0 N c1 3 2 4 rfl dcd dcd)) <| oR <| oR <| oN Z9) rfl (by decide) (by rfl) rr trivial
  | r1 y1_0 y1_1 y1_2 y1_3 y1_4 y1_5 y1_6 =>
   exact ZaM (r := (.r1 (y1_3) : Zbs)) (fu := 4000) (orc := (Z2 [o0] [] [] [] [(1, (Znp (L0) ((0 : Int)) (([] : List R_si))  y1_0 y1_1 y1_2 y1_3 y1_4 y1_5 y1_6 3 2 4))])) (live := [4]) (u := Value.tuple #[vs 4 0 y1_3.length y1_3.length, vq, vq]) (bl := [some (.cells (Zb Zd y1_3) 24 true)]) (ob := [(dP (ZiM #[vp 3 0] (L0) ((0 : Int)) (([] : List R_si))  y1_0 y1_1 y1_2 y1_3 y1_4 y1_5 y1_6 3 2 4), true), (dS [Value.string (Za L0), vq, vn, vn, vn, vn, Value.map (some 2)], true), (dS (Zk ([] : List R_si)), true), ((decide ((((Za L0).size : Nat) : Int) > (262144 : Int))), false)]) (by kernel_rfl) (Zc (Zp (Znq #[vp 3 0] (L0) ((0 : Int)) (([] : List R_si))  y1_0 y1_1 y1_2 y1_3 y1_4 y1_5 y1_6 N c1 3 2 4 rfl dcd dcd)) <| oR <| oR <| oN Z9) rfl (by decide) (by rfl) rr ⟨(Zl (E := Zd) (α := RA) _ y1_3 _), trivial⟩
  | r2 y1_0 y1_1 y1_2 y1_3 y1_4 y1_5 y1_6 y1_7 y1_8 =>
   exact ZaM (r := (.r1 (y1_3) : Zbs)) (fu := 4000) (orc := (Z2 [o0] [] [] [] [(1, (Znr (L0) ((0 : Int)) (([] : List R_si))  y1_0 y1_1 y1_2 y1_3 y1_4 y1_5 y1_6 y1_7 y1_8 3 2 4))])) (live := [4]) (u := Value.tuple #[vs 4 0 y1_3.length y1_3.length, vq, vq]) (bl := [some (.cells (Zb Zd y1_3) 24 true)]) (ob := [(dP (ZiN #[vp 3 0] (L0) ((0 : Int)) (([] : List R_si))  y1_0 y1_1 y1_2 y1_3 y1_4 y1_5 y1_6 y1_7 y1_8 3 2 4), true), (dS [Value.string (Za L0), vq, vn, vn, vn, vn, Value.map (some 2)], true), (dS (Zk ([] : List R_si)), true), ((decide ((((Za L0).size : Nat) : Int) > (262144 : Int))), false)]) (by kernel_rfl) (Zc (Zp (Zns #[vp 3 0] (L0) ((0 : Int)) (([] : List R_si))  y1_0 y1_1 y1_2 y1_3 y1_4 y1_5 y1_6 y1_7 y1_8 N c1 3 2 4 rfl dcd dcd)) <| oR <| oR <| oN Z9) rfl (by decide) (by rfl) rr ⟨(Zl (E := Zd) (α := RA) _ y1_3 _), trivial⟩

theorem ZkY (L0 : List Int) (N : Nat) (r : Zbs) (h : ZcI L0 N = some r) : LSpec Tryd.prog 9 #[Value.string (Za L0)] [] (Zpi L0 r) (ZnB L0 r) :=
 ZmZ ZdU Tryd.func9 (by kernel_rfl) (by kernel_rfl) (fun r => by cases r <;> exact Zaq _ rfl) (Zsx L0 N) h

noncomputable def Zbn (L0 : List Int) (w0 w1 : Int) (n : Nat) : Za8 := .call [] (Value.tuple #[vn, vi w0, vi w1]) [] 0
def Zg7 (A : Array Value) (L0 : List Int) (w0 w1 : Int) (n : Nat) : Prop := ZB Tryd.prog 9 A [] (Value.tuple #[vn, vi w0, vi w1]) [] n 0

theorem Zia (A : Array Value) (L0 : List Int) (w0 w1 : Int) (N : Nat) (h : ZcI L0 N = some (.r0 w0 w1)) (n : Nat) (hA : A = #[Value.string (Za L0)]) (hnd : ([] : List Nat).Nodup) (hlt : ∀ k ∈ ([] : List Nat), k < n) : Zg7 A L0 w0 w1  n :=
 Zaj hA (LSpec.callL (show LSpec Tryd.prog 9 #[Value.string (Za L0)] [] (Value.tuple #[vn, vi w0, vi w1]) [] from ZkY L0 N _ h) [] n [] rfl hnd hlt (show 0 ≤ 0 from by decide) (show ∀ j ∈ ([] : List Nat), j < 0 from by decide) (by rfl) trivial (by rfl) trivial trivial rfl rfl rfl rfl rfl)

noncomputable def Zd5 (L0 : List Int) (w0 : List RA) (n : Nat) : Za8 := .call [] (Value.tuple #[vs n 0 w0.length w0.length, vq, vq]) [(n, some (.cells (Zb Zd w0) 24 true))] 1
def Zg8 (A : Array Value) (L0 : List Int) (w0 : List RA) (n : Nat) : Prop := ZB Tryd.prog 9 A [] (Value.tuple #[vs n 0 w0.length w0.length, vq, vq]) [(n, some (.cells (Zb Zd w0) 24 true))] n 1

theorem Zib (A : Array Value) (L0 : List Int) (w0 : List RA) (N : Nat) (h : ZcI L0 N = some (.r1 w0)) (n : Nat) (hA : A = #[Value.string (Za L0)]) (hnd : ([] : List Nat).Nodup) (hlt : ∀ k ∈ ([] : List Nat), k < n) : Zg8 A L0 w0  n :=
 Zaj hA (LSpec.callL (show LSpec Tryd.prog 9 #[Value.string (Za L0)] [] (Value.tuple #[vs 0 0 w0.length w0.length, vq, vq]) [some (.cells (Zb Zd w0) 24 true)] from ZkY L0 N _ h) [] n [0] rfl hnd hlt (show 0 ≤ 1 from by decide) (show ∀ j ∈ ([0] : List Nat), j < 1 from by decide) (by rfl) trivial (by rfl) ⟨(Zo _ _ _), trivial⟩ ⟨(by decide), trivial⟩ rfl rfl rfl rfl (Ze (Zj rfl (Za6 (Zz _ _ _))) rfl))

end Ev
end Go.Proofs.YtlbbiflodemagaaDoor
/- Records, and the program's functions as plain ones. -/
namespace Go.Proofs.YtlbbiflodemagaaDoor
open Go.RowKit
namespace Ev
set_option linter.unusedVariables false
inductive Zgi where
 | r0 (w0 : List Int)

def ZgW (L0 : List Int) (N : Nat) : Option Zgi :=
 some (.r0 ((L0.take ((if (4000 : Int) < (((Za L0).size : Nat) : Int) then (4000 : Int) else (((Za L0).size : Nat) : Int))).toNat)) : Zgi)

inductive Zcq where
 | r0

inductive Zbo where
 | h1m0

def Zhz  (N : Nat) : Option (Zbo ⊕ Zcq) :=
 some (.inr (.r0 : Zcq))

def Zgj  (N : Nat) : Zbo → Option (Zbo ⊕ Zcq)
 | .h1m0 => Zhz  N

def ZjL  (N : Nat) : Option (Zbo ⊕ Zcq) :=
 some (.inl (.h1m0 : Zbo))

def Zjc  (N : Nat) : Option Zcq := goM (Zgj  N) N (ZjL  N)

inductive ZaU where
 | r0 (w1 : Bool)

inductive ZaJ where
 | h1m0

def Zgv (L0 : List RA) (N : Nat) : Option (ZaJ ⊕ ZaU) :=
 some (.inr (.r0 (true) : ZaU))

def Zfe (L0 : List RA) (N : Nat) : ZaJ → Option (ZaJ ⊕ ZaU)
 | .h1m0 => Zgv L0 N

def ZhS (L0 : List RA) (N : Nat) : Option (ZaJ ⊕ ZaU) :=
 if ¬ (0 = (L0.length : Int)) then
  some (.inr (.r0 (false) : ZaU))
 else
 some (.inl (.h1m0 : ZaJ))

def ZjM (L0 : List RA) (N : Nat) : Option ZaU := goM (Zfe L0 N) N (ZhS L0 N)

inductive ZaV where
 | r0 (w1 : Bool)

inductive ZaK where
 | h1m0

def Zgw (L0 : List RA) (N : Nat) : Option (ZaK ⊕ ZaV) :=
 if (0 : Int) < (L0.length : Int) then
  none
 else
 some (.inr (.r0 (true) : ZaV))

def Zff (L0 : List RA) (N : Nat) : ZaK → Option (ZaK ⊕ ZaV)
 | .h1m0 => Zgw L0 N

def ZhT (L0 : List RA) (N : Nat) : Option (ZaK ⊕ ZaV) :=
 if ¬ ((L0.length : Int) = 0) then
  some (.inr (.r0 (false) : ZaV))
 else
 some (.inl (.h1m0 : ZaK))

def ZjN (L0 : List RA) (N : Nat) : Option ZaV := goM (Zff L0 N) N (ZhT L0 N)

inductive ZaE where
 | r0 (w2 : Bool)

inductive ref11_Same_4X where
 | h1m0 (v2 : Nat)

def Zb4 (L0 : List RA) (L1 : List RA) (N : Nat) (v2 : Nat) : Option (ref11_Same_4X ⊕ ZaE) :=
 if (v2 : Int) < (L0.length : Int) then
  if v2 < L1.length then
   if ¬ (((L0.getD v2 RA.z).a0 = (L1.getD v2 RA.z).a0 ∧ (L0.getD v2 RA.z).a1 = (L1.getD v2 RA.z).a1 ∧ (L0.getD v2 RA.z).a2 = (L1.getD v2 RA.z).a2 ∧ (L0.getD v2 RA.z).a3 = (L1.getD v2 RA.z).a3)) then
    some (.inr (.r0 (false) : ZaE))
   else
   if (((v2 + 1) : Nat) : Int) ≤ 9223372036854775807 then
    some (.inl (.h1m0 ((v2 + 1)) : ref11_Same_4X))
   else
   none
  else
  none
 else
 some (.inr (.r0 (true) : ZaE))

def ZdJ (L0 : List RA) (L1 : List RA) (N : Nat) : ref11_Same_4X → Option (ref11_Same_4X ⊕ ZaE)
 | .h1m0 v2 => Zb4 L0 L1 N v2

def ZeE (L0 : List RA) (L1 : List RA) (N : Nat) : Option (ref11_Same_4X ⊕ ZaE) :=
 if ¬ ((L0.length : Int) = (L1.length : Int)) then
  some (.inr (.r0 (false) : ZaE))
 else
 some (.inl (.h1m0 (0) : ref11_Same_4X))

def ZfW (L0 : List RA) (L1 : List RA) (N : Nat) : Option ZaE := goM (ZdJ L0 L1 N) N (ZeE L0 L1 N)

inductive Zv where
 | r0 (w0 : Bool)

inductive Zy where
 | h1m0 (v0 : List Int) (v2 : List Int) (v3 : Nat)
 | h2m0 (v0 : List Int) (v1 : List Int) (v2 : Int)
 | h3m0 (v0 : List Int) (v1 : List Int) (v2 : Int) (v3 : Int) (v4 : Int)
 | h3m1 (v0 : List Int) (v1 : List Int) (v2 : Int) (v3 : List RA)

def ZaB (L0 : List Int) (a1 : Int) (L2 : List Int) (N : Nat) (v0 : List Int) (v2 : List Int) (v3 : Nat) : Option (Zy ⊕ Zv) :=
 if (v3 : Int) < (((Za v2).size : Nat) : Int) then
  if (bAt v2 v3) = 10 then
   some (.inr (.r0 (true) : Zv))
  else
  if (((v3 + 1) : Nat) : Int) ≤ 9223372036854775807 then
   some (.inl (.h1m0 (v0) (v2) ((v3 + 1)) : Zy))
  else
  none
 else
 if (-9223372036854775808 : Int) ≤ a1 then
  if a1 ≤ 9223372036854775807 then
   if ((((Za v0).size + 1) : Nat) : Int) ≤ 9223372036854775807 then
    some (.inl (.h2m0 (v0) (v2) ((Int.tmod a1 ((((Za v0).size + 1) : Nat) : Int))) : Zy))
   else
   none
  else
  none
 else
 none

def ZaC (L0 : List Int) (a1 : Int) (L2 : List Int) (N : Nat) (v0 : List Int) (v1 : List Int) (v2 : Int) : Option (Zy ⊕ Zv) :=
 if (0 : Int) < v2 then
  if (0 : Int) ≤ (IntKind.i64.wrap (v2 - (1 : Int))) then
   if ((IntKind.i64.wrap (v2 - (1 : Int)))).toNat < v0.length then
    if ¬ ((bAt v0 ((IntKind.i64.wrap (v2 - (1 : Int)))).toNat) = 10) then
     some (.inl (.h2m0 (v0) (v1) ((IntKind.i64.wrap (v2 - (1 : Int)))) : Zy))
    else
    ((ZcI (v0) N).bind fun r => match r with
    | .r0 y4_0 y4_1 =>
     some (.inl (.h3m0 (v0) (v1) (v2) (y4_0) (y4_1) : Zy))
    | .r1 y4_0 =>
     some (.inl (.h3m1 (v0) (v1) (v2) (y4_0) : Zy))
    )
   else
   none
  else
  none
 else
 ((ZcI (v0) N).bind fun r => match r with
 | .r0 y1_0 y1_1 =>
  some (.inl (.h3m0 (v0) (v1) (v2) (y1_0) (y1_1) : Zy))
 | .r1 y1_0 =>
  some (.inl (.h3m1 (v0) (v1) (v2) (y1_0) : Zy))
 )

def Zcv (L0 : List Int) (a1 : Int) (L2 : List Int) (N : Nat) (v0 : List Int) (v1 : List Int) (v2 : Int) (v3 : Int) (v4 : Int) : Option (Zy ⊕ Zv) :=
 if (0 : Int) ≤ v2 then
  if v2 ≤ (v0.length : Int) then
   if ((v0.take (v2).toNat).length + 1) ≤ 1000000 then
    if (((v0.take (v2).toNat).length + 1) + v1.length) ≤ 1000000 then
     if ((((v0.take (v2).toNat).length + 1) + v1.length) + 2) ≤ 1000000 then
      if (((((v0.take (v2).toNat).length + 1) + v1.length) + 2) + (v0.drop (v2).toNat).length) ≤ 1000000 then
       ((ZcI ((((((v0.take (v2).toNat) ++ (bl [35])) ++ v1) ++ (bl [10, 10])) ++ (v0.drop (v2).toNat))) N).bind fun r => match r with
       | .r0 y6_0 y6_1 =>
        ((Zjc N).bind fun r => match r with
        | .r0 =>
         if v4 = y6_1 then
          if ¬ (v4 = 0) then
           if y6_0 = v3 then
            some (.inr (.r0 (true) : Zv))
           else
           if y6_0 = (IntKind.i64.wrap (v3 + (2 : Int))) then
            some (.inr (.r0 (true) : Zv))
           else
           some (.inr (.r0 (false) : Zv))
          else
          if v3 = 0 then
           if y6_0 = 0 then
            some (.inr (.r0 (true) : Zv))
           else
           some (.inr (.r0 (false) : Zv))
          else
          some (.inr (.r0 (false) : Zv))
         else
         some (.inr (.r0 (false) : Zv))
        )
       | .r1 y6_0 =>
        ((ZjM (y6_0) N).bind fun r => match r with
        | .r0 y7_0 =>
         if y7_0 = true then
          if v4 = 0 then
           if v3 = 0 then
            some (.inr (.r0 (true) : Zv))
           else
           some (.inr (.r0 (false) : Zv))
          else
          some (.inr (.r0 (false) : Zv))
         else
         some (.inr (.r0 (false) : Zv))
        )
       )
      else
      none
     else
     none
    else
    none
   else
   none
  else
  none
 else
 none

def Zcw (L0 : List Int) (a1 : Int) (L2 : List Int) (N : Nat) (v0 : List Int) (v1 : List Int) (v2 : Int) (v3 : List RA) : Option (Zy ⊕ Zv) :=
 if (0 : Int) ≤ v2 then
  if v2 ≤ (v0.length : Int) then
   if ((v0.take (v2).toNat).length + 1) ≤ 1000000 then
    if (((v0.take (v2).toNat).length + 1) + v1.length) ≤ 1000000 then
     if ((((v0.take (v2).toNat).length + 1) + v1.length) + 2) ≤ 1000000 then
      if (((((v0.take (v2).toNat).length + 1) + v1.length) + 2) + (v0.drop (v2).toNat).length) ≤ 1000000 then
       ((ZcI ((((((v0.take (v2).toNat) ++ (bl [35])) ++ v1) ++ (bl [10, 10])) ++ (v0.drop (v2).toNat))) N).bind fun r => match r with
       | .r0 y6_0 y6_1 =>
        ((ZjN (v3) N).bind fun r => match r with
        | .r0 y7_0 =>
         if y7_0 = true then
          if (0 : Int) = y6_1 then
           if y6_0 = 0 then
            some (.inr (.r0 (true) : Zv))
           else
           some (.inr (.r0 (false) : Zv))
          else
          some (.inr (.r0 (false) : Zv))
         else
         some (.inr (.r0 (false) : Zv))
        )
       | .r1 y6_0 =>
        ((ZfW (v3) (y6_0) N).bind fun r => match r with
        | .r0 y7_0 =>
         if y7_0 = true then
          some (.inr (.r0 (true) : Zv))
         else
         some (.inr (.r0 (false) : Zv))
        )
       )
      else
      none
     else
     none
    else
    none
   else
   none
  else
  none
 else
 none

def Za1 (L0 : List Int) (a1 : Int) (L2 : List Int) (N : Nat) : Zy → Option (Zy ⊕ Zv)
 | .h1m0 v0 v2 v3 => ZaB L0 a1 L2 N v0 v2 v3
 | .h2m0 v0 v1 v2 => ZaC L0 a1 L2 N v0 v1 v2
 | .h3m0 v0 v1 v2 v3 v4 => Zcv L0 a1 L2 N v0 v1 v2 v3 v4
 | .h3m1 v0 v1 v2 v3 => Zcw L0 a1 L2 N v0 v1 v2 v3

def Zev (L0 : List Int) (a1 : Int) (L2 : List Int) (N : Nat) : Option (Zy ⊕ Zv) :=
 ((ZgW (L0) N).bind fun r => match r with
 | .r0 y0_0 =>
  ((ZgW (L2) N).bind fun r => match r with
  | .r0 y1_0 =>
   some (.inl (.h1m0 (y0_0) (y1_0) (0) : Zy))
  )
 )

def Zh0 (L0 : List Int) (a1 : Int) (L2 : List Int) (N : Nat) : Option Zv := goM (Za1 L0 a1 L2 N) N (Zev L0 a1 L2 N)
end Ev
end Go.Proofs.YtlbbiflodemagaaDoor
/- How records are written, and which functions are told. -/
namespace Go.Proofs.YtlbbiflodemagaaDoor
open Go.RowKit
namespace Ev
set_option linter.unusedVariables false
def Zsy : FuncId → Option (List Value → Option Value) := fun f =>
 bif Nat.beq f 8 then some (fun l => match l with | [] => some (.bool true) | _ => none) else
 none
theorem ZuF (w : World) (ht : TabW w) : Calls Tryd.prog 8 #[] w (Ret (.bool true) w) := ZtD w ht
theorem Zxl : ZmW Zsy := fun f g h => by
 unfold Zsy at h
 cases hb : Nat.beq f 8 with
 | true =>
  rw [hb] at h
  obtain rfl := Nat.eq_of_beq_eq_true hb
  simp only [cond_true, Option.some.injEq] at h
  subst h
  refine ⟨⟨_, _, Tryd.func8, rfl⟩, fun args v ha hv w ht => ?_⟩
  obtain ⟨l⟩ := args
  cases l with
  | nil =>
   change some (Value.bool true) = some v at hv
   injection hv with hv
   subst hv
   exact ZuF w ht
  | cons x l => change (none : Option Value) = some v at hv; cases hv
 | false =>
  rw [hb] at h
  simp only [cond_false] at h
  cases h
def ZvB : FuncId → Bool := fun f => Nat.beq f 52 || Nat.beq f 51 || Nat.beq f 50 || Nat.beq f 62 || Nat.beq f 38 || Nat.beq f 9 || Nat.beq f 59 || Nat.beq f 16 || Nat.beq f 5 || Nat.beq f 12 || Nat.beq f 10 || Nat.beq f 61 || Nat.beq f 14
noncomputable def Zsz : FuncId → Option Ext := Zmy (ZrX Zsy) ZvB
theorem Zwy : Fit Tryd.prog Zsz := ZrY (Zu6 Zxl) (fun f h => by
 simp only [ZvB, Bool.or_eq_true] at h
 simp only [Nat.beq_eq] at h
 rcases h with (((((((((((rfl | rfl) | rfl) | rfl) | rfl) | rfl) | rfl) | rfl) | rfl) | rfl) | rfl) | rfl) | rfl
 ·exact ⟨_, _, Tryd.func52, rfl⟩
 ·exact ⟨_, _, Tryd.func51, rfl⟩
 ·exact ⟨_, _, Tryd.func50, rfl⟩
 ·exact ⟨_, _, Tryd.func62, rfl⟩
 ·exact ⟨_, _, Tryd.func38, rfl⟩
 ·exact ⟨_, _, Tryd.func9, rfl⟩
 ·exact ⟨_, _, Tryd.func59, rfl⟩
 ·exact ⟨_, _, Tryd.func16, rfl⟩
 ·exact ⟨_, _, Tryd.func5, rfl⟩
 ·exact ⟨_, _, Tryd.func12, rfl⟩
 ·exact ⟨_, _, Tryd.func10, rfl⟩
 ·exact ⟨_, _, Tryd.func61, rfl⟩
 ·exact ⟨_, _, Tryd.func14, rfl⟩
 )
noncomputable def Zs0 : FuncId → Option Ext := Zmy Zmx (fun f => Nat.beq f 38)
theorem Zwz : Fit Tryd.prog Zs0 := ZrY ZnW (fun f h => by
 simp only [Nat.beq_eq] at h
 subst h
 exact ⟨_, _, Tryd.func38, rfl⟩)
noncomputable def Za7 : FuncId → Option Ext := fun x => bif Nat.beq x 30 then some (.hp (Zjj Tryd.prog Zs0 20000 30)) else Zsz x
theorem Zjk : Fit Tryd.prog Za7 := ZtC Zwy (Zlz Zwz Tryd.func30 rfl)
abbrev inT (v0 v1 : List Int) (v2 : Int) : List Int := (((v0.take v2.toNat) ++ (bl [35])) ++ v1) ++ (bl [10, 10])
end Ev
end Go.Proofs.YtlbbiflodemagaaDoor
/- Calls do what the plain functions say. -/
namespace Go.Proofs.YtlbbiflodemagaaDoor
open Go.RowKit
namespace Ev
set_option linter.unusedVariables false
set_option maxRecDepth 100000
noncomputable def Zpj (L0 : List Int) : Zgi → Value
 | .r0 w0 => Value.string (Za w0)
noncomputable def ZnC (L0 : List Int) : Zgi → List (Option AObj)
 | .r0 w0 => []

theorem Zs1 (L0 : List Int) (N : Nat) : Fx Tryd.prog Za7 Tryd.f12 [] #[Value.string (Za L0)] (Zpj L0) (ZnC L0) (ZgW L0 N) := by
 unfold ZgW
 exact ZaM (r := (.r0 ((L0.take ((if (4000 : Int) < (((Za L0).size : Nat) : Int) then (4000 : Int) else (((Za L0).size : Nat) : Int))).toNat)) : Zgi)) (fu := 4000) (orc := (Zs [] [] [] [] [(0, .bs (L0.take ((if (4000 : Int) < (((Za L0).size : Nat) : Int) then (4000 : Int) else (((Za L0).size : Nat) : Int))).toNat))])) (live := []) (u := Value.string (Za (L0.take ((if (4000 : Int) < (((Za L0).size : Nat) : Int) then (4000 : Int) else (((Za L0).size : Nat) : Int))).toNat))) (bl := []) (ob := [(dP (0 ≤ (0 : Int) ∧ (0 : Int) ≤ (if (4000 : Int) < (((Za L0).size : Nat) : Int) then (4000 : Int) else (((Za L0).size : Nat) : Int)) ∧ (if (4000 : Int) < (((Za L0).size : Nat) : Int) then (4000 : Int) else (((Za L0).size : Nat) : Int)) ≤ ((((Za L0)).size : Nat) : Int) ∧ ((Za L0)).extract ((0 : Int)).toNat ((if (4000 : Int) < (((Za L0).size : Nat) : Int) then (4000 : Int) else (((Za L0).size : Nat) : Int))).toNat = Za (L0.take ((if (4000 : Int) < (((Za L0).size : Nat) : Int) then (4000 : Int) else (((Za L0).size : Nat) : Int))).toNat)), true)]) (by kernel_rfl) (Zc (Zp (sSl (M := L0) (R := (L0.take ((if (4000 : Int) < (((Za L0).size : Nat) : Int) then (4000 : Int) else (((Za L0).size : Nat) : Int))).toNat)) rfl (by (try simp only [Z6] at *); omega) (by (try simp only [Z6] at *); omega) (by (try simp only [Z6] at *); omega) (by first | rfl | simp))) Z9) rfl (by decide) (by rfl) rr trivial

theorem ZpX (L0 : List Int) (N : Nat) (r : Zgi) (h : ZgW L0 N = some r) : LSpec Tryd.prog 12 #[Value.string (Za L0)] [] (Zpj L0 r) (ZnC L0 r) :=
 ZmZ Zjk Tryd.func12 (by kernel_rfl) (by kernel_rfl) (fun r => by cases r <;> exact Zaq _ rfl) (Zs1 L0 N) h

noncomputable def ZnD (L0 w0 : List Int) (n : Nat) : Za8 := .call [] (Value.string (Za w0)) [] 0
def Zks (A : Array Value) (L0 w0 : List Int) (n : Nat) : Prop := ZB Tryd.prog 12 A [] (Value.string (Za w0)) [] n 0

theorem ZnE (A : Array Value) (L0 w0 : List Int) (N : Nat) (h : ZgW L0 N = some (.r0 w0)) (n : Nat) (hA : A = #[Value.string (Za L0)]) (hnd : ([] : List Nat).Nodup) (hlt : ∀ k ∈ ([] : List Nat), k < n) : Zks A L0 w0  n :=
 Zaj hA (LSpec.callL (show LSpec Tryd.prog 12 #[Value.string (Za L0)] [] (Value.string (Za w0)) [] from ZpX L0 N _ h) [] n [] rfl hnd hlt (show 0 ≤ 0 from by decide) (show ∀ j ∈ ([] : List Nat), j < 0 from by decide) (by rfl) trivial (by rfl) trivial trivial rfl rfl rfl rfl rfl)

noncomputable def ZnF  : Zcq → Value
 | .r0 => vT
noncomputable def Zm9  : Zcq → List (Option AObj)
 | .r0 => []

def Zs2 : Zbo → Nat
 | .h1m0 => 1
noncomputable def Ztl  : Zbo → List (Nat × Value)
 | .h1m0 => [(0, vn), (1, vn), (5, vq)]
noncomputable def Ztm  : Zbo → List (Option AObj)
 | .h1m0 => []

noncomputable def Zic : Nat → Code × List ZaS
 | 1 => Zdt [1, 1, 0, 1, 3] (ZeZ Tryd.f10) []
 | _ => (.skip, [])
def Zs3 : Nat → Bool
 | 1 => true
 | _ => true
noncomputable def Zep  (N : Nat) : Mach := ⟨Tryd.f10, [], Zbo, Zcq, Zgj  N, Zs2, Zic, Zs3, Ztl , Ztm , ZnF , Zm9 ⟩

set_option maxHeartbeats 4000000 in
theorem Zoo  (N : Nat) : (Zep  N).Ok Tryd.prog Za7 (.h1m0 : Zbo) (Zgj  N (.h1m0 : Zbo)) := by
 show (Zep  N).Ok Tryd.prog Za7 (.h1m0 : Zbo) (Zhz  N)
 unfold Zhz
 exact Mach.ok_fin (M := Zep  N) (cd := 1000000) (cm := 0) (r := (.r0 : Zcq)) (fu := 4000) (orc := (Zs [] [] [] [] [])) (live := []) (u := vT) (bl := []) (ob := ([])) (fun gv => by as_aux_lemma => kernel_rfl) (Z9) rfl (by decide) (by rfl) rr trivial

set_option maxHeartbeats 4000000 in
theorem ZqN  (N : Nat) : (Zep  N).Enter Tryd.prog Za7 #[vn, vn] (ZjL  N) := by
 unfold ZjL
 exact Mach.en_head (bK := Zic 1) (M := Zep  N) (cd := 1000000) (cm := 0) (y := (.h1m0 : Zbo)) (fu := 4000) (orc := (Zs [] [] [] [] [])) (live := []) (tv := [some (vn), some (vn), some (vq)]) (bl := []) (ob := ([])) rfl rfl (show ZJ (Zic 1).2 = [] from rfl) (by as_aux_lemma => kernel_rfl) (Z9) rfl (by decide) (by rfl) ⟨rr, ⟨rr, ⟨rr, trivial⟩⟩⟩ trivial

theorem Zpk  (N : Nat) (r : Zcq) (h : Zjc  N = some r) : LSpec Tryd.prog 10 #[vn, vn] [] (ZnF  r) (Zm9  r) :=
 Mach.spec Zjk (Zep  N) Tryd.func10 (by kernel_rfl) (by kernel_rfl) (fun x => by cases x <;> exact Zaq _ rfl) (fun r => by cases r <;> exact Zaq _ rfl) (fun x => by
  cases x with
  | h1m0 => exact fun _ => (show ¬ (1 ∈ ZJ (Zic 1).2) from by decide +kernel)
  ) (fun x => (show (Zep  N).Ok Tryd.prog Za7 x (Zgj  N x) from by
  cases x with
  | h1m0 => exact Zoo  N
  )) (ZqN  N) (n := N) h

noncomputable def ZdK  (n : Nat) : Za8 := .call [] (vT) [] 0
def ZmA (A : Array Value)  (n : Nat) : Prop := ZB Tryd.prog 10 A [] (vT) [] n 0

theorem Zs4 (A : Array Value)  (N : Nat) (h : Zjc  N = some (.r0)) (n : Nat) (hA : A = #[vn, vn]) (hnd : ([] : List Nat).Nodup) (hlt : ∀ k ∈ ([] : List Nat), k < n) : ZmA A   n :=
 Zaj hA (LSpec.callL (show LSpec Tryd.prog 10 #[vn, vn] [] (vT) [] from Zpk  N _ h) [] n [] rfl hnd hlt (show 0 ≤ 0 from by decide) (show ∀ j ∈ ([] : List Nat), j < 0 from by decide) (by rfl) trivial (by rfl) trivial trivial rfl rfl rfl rfl rfl)

noncomputable def ZlM (L0 : List RA) : ZaU → Value
 | .r0 w1 => Value.bool w1
noncomputable def ZkZ (L0 : List RA) : ZaU → List (Option AObj)
 | .r0 w1 => [some (.cells (Zb Zd L0) 24 true)]

def ZpY : ZaJ → Nat
 | .h1m0 => 1
noncomputable def ZqO (L0 : List RA) : ZaJ → List (Nat × Value)
 | .h1m0 => [(0, vn), (1, vs 0 0 L0.length L0.length), (5, vq)]
noncomputable def ZqP (L0 : List RA) : ZaJ → List (Option AObj)
 | .h1m0 => [some (.cells (Zb Zd L0) 24 true)]

noncomputable def ZgD : Nat → Code × List ZaS
 | 1 => Zdt [1, 1, 0, 1, 3] (ZeZ Tryd.f10) []
 | _ => (.skip, [])
def ZpZ : Nat → Bool
 | 1 => true
 | _ => true
noncomputable def Zc1 (L0 : List RA) (N : Nat) : Mach := ⟨Tryd.f10, [.cells (Zb Zd L0) 24 true], ZaJ, ZaU, Zfe L0 N, ZpY, ZgD, ZpZ, ZqO L0, ZqP L0, ZlM L0, ZkZ L0⟩

set_option maxHeartbeats 4000000 in
theorem ZmB (L0 : List RA) (N : Nat) : (Zc1 L0 N).Ok Tryd.prog Za7 (.h1m0 : ZaJ) (Zfe L0 N (.h1m0 : ZaJ)) := by
 show (Zc1 L0 N).Ok Tryd.prog Za7 (.h1m0 : ZaJ) (Zgv L0 N)
 unfold Zgv
 exact Mach.ok_fin (M := Zc1 L0 N) (cd := 1000000) (cm := 0) (r := (.r0 (true) : ZaU)) (fu := 4000) (orc := (Zs [] [] [] [] [])) (live := [0]) (u := vT) (bl := [some (.cells (Zb Zd L0) 24 true)]) (ob := ([])) (fun gv => by as_aux_lemma => kernel_rfl) (Z9) rfl (by decide) (by rfl) rr ⟨(Zl (E := Zd) (α := RA) _ L0 _), trivial⟩

set_option maxHeartbeats 4000000 in
theorem Zpl (L0 : List RA) (N : Nat) : (Zc1 L0 N).Enter Tryd.prog Za7 #[vn, vs 0 0 L0.length L0.length] (ZhS L0 N) := by
 unfold ZhS
 refine Mach.en_ite (fun g0 => ?_) (fun g0 => ?_)
 ·
  exact Mach.en_fin (M := Zc1 L0 N) (cd := 1000000) (cm := 0) (r := (.r0 (false) : ZaU)) (fu := 4000) (orc := (Z2 [o1] [] [] [] [])) (live := [0]) (u := vf) (bl := [some (.cells (Zb Zd L0) 24 true)]) (ob := ((((0 : Int) != (L0.length : Int)), true) :: [])) (by as_aux_lemma => kernel_rfl) (oD <| Z9) rfl (by decide) (by rfl) rr ⟨(Zl (E := Zd) (α := RA) _ L0 _), trivial⟩
 ·
  exact Mach.en_head (bK := ZgD 1) (M := Zc1 L0 N) (cd := 1000000) (cm := 0) (y := (.h1m0 : ZaJ)) (fu := 4000) (orc := (Z2 [o0] [] [] [] [])) (live := [0]) (tv := [some (vn), some (vs 0 0 L0.length L0.length), some (vq)]) (bl := [some (.cells (Zb Zd L0) 24 true)]) (ob := ((((0 : Int) != (L0.length : Int)), false) :: [])) rfl rfl (show ZJ (ZgD 1).2 = [] from rfl) (by as_aux_lemma => kernel_rfl) (oE <| Z9) rfl (by decide) (by rfl) ⟨rr, ⟨rr, ⟨rr, trivial⟩⟩⟩ ⟨(Zl (E := Zd) (α := RA) _ L0 _), trivial⟩

theorem Znt (L0 : List RA) (N : Nat) (r : ZaU) (h : ZjM L0 N = some r) : LSpec Tryd.prog 10 #[vn, vs 0 0 L0.length L0.length] [.cells (Zb Zd L0) 24 true] (ZlM L0 r) (ZkZ L0 r) :=
 Mach.spec Zjk (Zc1 L0 N) Tryd.func10 (by kernel_rfl) (by kernel_rfl) (fun x => by cases x <;> exact Zaq _ rfl) (fun r => by cases r <;> exact Zaq _ rfl) (fun x => by
  cases x with
  | h1m0 => exact fun _ => (show ¬ (1 ∈ ZJ (ZgD 1).2) from by decide +kernel)
  ) (fun x => (show (Zc1 L0 N).Ok Tryd.prog Za7 x (Zfe L0 N x) from by
  cases x with
  | h1m0 => exact ZmB L0 N
  )) (Zpl L0 N) (n := N) h

noncomputable def Zgk (L0 : List RA) (w1 : Bool) (k0 n : Nat) : Za8 := .call [(k0, .cells (Zb Zd L0) 24 true)] (Value.bool w1) [] 0
def ZhU (A : Array Value) (L0 : List RA) (w1 : Bool) (k0 n : Nat) : Prop := ZB Tryd.prog 10 A [(k0, .cells (Zb Zd L0) 24 true)] (Value.bool w1) [] n 0

theorem Zla (A : Array Value) (L0 : List RA) (w1 : Bool) (N : Nat) (h : ZjM L0 N = some (.r0 w1)) (k0 n : Nat) (hA : A = #[vn, vs k0 0 L0.length L0.length]) (hnd : ([k0] : List Nat).Nodup) (hlt : ∀ k ∈ ([k0] : List Nat), k < n) : ZhU A L0 w1 k0 n :=
 Zaj hA (LSpec.callL (show LSpec Tryd.prog 10 #[vn, vs 0 0 L0.length L0.length] [.cells (Zb Zd L0) 24 true] (Value.bool w1) [some (.cells (Zb Zd L0) 24 true)] from Znt L0 N _ h) [k0] n [] rfl hnd hlt (show 1 ≤ 1 from by decide) (show ∀ j ∈ ([] : List Nat), j < 1 from by decide) (by rfl) ⟨(Zo _ _ _), trivial⟩ (by rfl) ⟨(Zo _ _ _), trivial⟩ ⟨.inr rfl, trivial⟩ rfl rfl rfl (Ze (Zj rfl (Zz _ _ _)) rfl) rfl)

noncomputable def ZlN (L0 : List RA) : ZaV → Value
 | .r0 w1 => Value.bool w1
noncomputable def Zlb (L0 : List RA) : ZaV → List (Option AObj)
 | .r0 w1 => [some (.cells (Zb Zd L0) 24 true)]

def Zqa : ZaK → Nat
 | .h1m0 => 1
noncomputable def ZqQ (L0 : List RA) : ZaK → List (Nat × Value)
 | .h1m0 => [(0, vs 0 0 L0.length L0.length), (1, vn), (5, vq)]
noncomputable def ZqR (L0 : List RA) : ZaK → List (Option AObj)
 | .h1m0 => [some (.cells (Zb Zd L0) 24 true)]

noncomputable def ZgE : Nat → Code × List ZaS
 | 1 => Zdt [1, 1, 0, 1, 3] (ZeZ Tryd.f10) []
 | _ => (.skip, [])
def Zqb : Nat → Bool
 | 1 => true
 | _ => true
noncomputable def Zc2 (L0 : List RA) (N : Nat) : Mach := ⟨Tryd.f10, [.cells (Zb Zd L0) 24 true], ZaK, ZaV, Zff L0 N, Zqa, ZgE, Zqb, ZqQ L0, ZqR L0, ZlN L0, Zlb L0⟩

set_option maxHeartbeats 4000000 in
theorem ZmC (L0 : List RA) (N : Nat) : (Zc2 L0 N).Ok Tryd.prog Za7 (.h1m0 : ZaK) (Zff L0 N (.h1m0 : ZaK)) := by
 show (Zc2 L0 N).Ok Tryd.prog Za7 (.h1m0 : ZaK) (Zgw L0 N)
 unfold Zgw
 refine Mach.ok_ite (fun _ => Mach.ok_none) (fun g0 => ?_)
 exact Mach.ok_fin (M := Zc2 L0 N) (cd := 1000000) (cm := 0) (r := (.r0 (true) : ZaV)) (fu := 4000) (orc := (Z2 [o0] [] [] [] [])) (live := [0]) (u := vT) (bl := [some (.cells (Zb Zd L0) 24 true)]) (ob := (((decide ((0 : Int) < (L0.length : Int))), false) :: [])) (fun gv => by as_aux_lemma => kernel_rfl) (oN <| Z9) rfl (by decide) (by rfl) rr ⟨(Zl (E := Zd) (α := RA) _ L0 _), trivial⟩

set_option maxHeartbeats 4000000 in
theorem Zpm (L0 : List RA) (N : Nat) : (Zc2 L0 N).Enter Tryd.prog Za7 #[vs 0 0 L0.length L0.length, vn] (ZhT L0 N) := by
 unfold ZhT
 refine Mach.en_ite (fun g0 => ?_) (fun g0 => ?_)
 ·
  exact Mach.en_fin (M := Zc2 L0 N) (cd := 1000000) (cm := 0) (r := (.r0 (false) : ZaV)) (fu := 4000) (orc := (Z2 [o1] [] [] [] [])) (live := [0]) (u := vf) (bl := [some (.cells (Zb Zd L0) 24 true)]) (ob := ((((L0.length : Int) != (0 : Int)), true) :: [])) (by as_aux_lemma => kernel_rfl) (oD <| Z9) rfl (by decide) (by rfl) rr ⟨(Zl (E := Zd) (α := RA) _ L0 _), trivial⟩
 ·
  exact Mach.en_head (bK := ZgE 1) (M := Zc2 L0 N) (cd := 1000000) (cm := 0) (y := (.h1m0 : ZaK)) (fu := 4000) (orc := (Z2 [o0] [] [] [] [])) (live := [0]) (tv := [some (vs 0 0 L0.length L0.length), some (vn), some (vq)]) (bl := [some (.cells (Zb Zd L0) 24 true)]) (ob := ((((L0.length : Int) != (0 : Int)), false) :: [])) rfl rfl (show ZJ (ZgE 1).2 = [] from rfl) (by as_aux_lemma => kernel_rfl) (oE <| Z9) rfl (by decide) (by rfl) ⟨rr, ⟨rr, ⟨rr, trivial⟩⟩⟩ ⟨(Zl (E := Zd) (α := RA) _ L0 _), trivial⟩

theorem Znu (L0 : List RA) (N : Nat) (r : ZaV) (h : ZjN L0 N = some r) : LSpec Tryd.prog 10 #[vs 0 0 L0.length L0.length, vn] [.cells (Zb Zd L0) 24 true] (ZlN L0 r) (Zlb L0 r) :=
 Mach.spec Zjk (Zc2 L0 N) Tryd.func10 (by kernel_rfl) (by kernel_rfl) (fun x => by cases x <;> exact Zaq _ rfl) (fun r => by cases r <;> exact Zaq _ rfl) (fun x => by
  cases x with
  | h1m0 => exact fun _ => (show ¬ (1 ∈ ZJ (ZgE 1).2) from by decide +kernel)
  ) (fun x => (show (Zc2 L0 N).Ok Tryd.prog Za7 x (Zff L0 N x) from by
  cases x with
  | h1m0 => exact ZmC L0 N
  )) (Zpm L0 N) (n := N) h

noncomputable def Zgl (L0 : List RA) (w1 : Bool) (k0 n : Nat) : Za8 := .call [(k0, .cells (Zb Zd L0) 24 true)] (Value.bool w1) [] 0
def ZhV (A : Array Value) (L0 : List RA) (w1 : Bool) (k0 n : Nat) : Prop := ZB Tryd.prog 10 A [(k0, .cells (Zb Zd L0) 24 true)] (Value.bool w1) [] n 0

theorem Zlc (A : Array Value) (L0 : List RA) (w1 : Bool) (N : Nat) (h : ZjN L0 N = some (.r0 w1)) (k0 n : Nat) (hA : A = #[vs k0 0 L0.length L0.length, vn]) (hnd : ([k0] : List Nat).Nodup) (hlt : ∀ k ∈ ([k0] : List Nat), k < n) : ZhV A L0 w1 k0 n :=
 Zaj hA (LSpec.callL (show LSpec Tryd.prog 10 #[vs 0 0 L0.length L0.length, vn] [.cells (Zb Zd L0) 24 true] (Value.bool w1) [some (.cells (Zb Zd L0) 24 true)] from Znu L0 N _ h) [k0] n [] rfl hnd hlt (show 1 ≤ 1 from by decide) (show ∀ j ∈ ([] : List Nat), j < 1 from by decide) (by rfl) ⟨(Zo _ _ _), trivial⟩ (by rfl) ⟨(Zo _ _ _), trivial⟩ ⟨.inr rfl, trivial⟩ rfl rfl rfl (Ze (Zj rfl (Zz _ _ _)) rfl) rfl)

noncomputable def ZlO (L0 L1 : List RA) : ZaE → Value
 | .r0 w2 => Value.bool w2
noncomputable def Zld (L0 L1 : List RA) : ZaE → List (Option AObj)
 | .r0 w2 => [some (.cells (Zb Zd L0) 24 true), some (.cells (Zb Zd L1) 24 true)]

def Zqc : ref11_Same_4X → Nat
 | .h1m0 v2 => 1
noncomputable def ZqS (L0 L1 : List RA) : ref11_Same_4X → List (Nat × Value)
 | .h1m0 v2 => [(0, vs 0 0 L0.length L0.length), (1, vs 1 0 L1.length L1.length), (5, vi (v2 : Int))]
noncomputable def ZqT (L0 L1 : List RA) : ref11_Same_4X → List (Option AObj)
 | .h1m0 v2 => [some (.cells (Zb Zd L0) 24 true), some (.cells (Zb Zd L1) 24 true)]

noncomputable def ZdV : Nat → Code × List ZaS
 | 1 => Zdt [1, 1, 0, 1, 3] (ZeZ Tryd.f10) []
 | _ => (.skip, [])
def Zle : Nat → Bool
 | 1 => true
 | _ => true
noncomputable def ZqU (i : Nat) : List ZaS := match Zle i with | true => .rnd i :: (ZdV i).2 | false => (ZdV i).2

noncomputable def Zb0 (L0 L1 : List RA) (N : Nat) : Mach := ⟨Tryd.f10, [.cells (Zb Zd L0) 24 true, .cells (Zb Zd L1) 24 true], ref11_Same_4X, ZaE, ZdJ L0 L1 N, Zqc, ZdV, Zle, ZqS L0 L1, ZqT L0 L1, ZlO L0 L1, Zld L0 L1⟩

noncomputable def Zkg (L0 L1 : List RA) (v2 : Nat) : List (Bool × Bool) := (Za4 (Z8 4 (List.drop (0 + (v2 * 4)) (Zb Zd L0))) [.i (L0.getD v2 RA.z).a0, .i (L0.getD v2 RA.z).a1, .i (L0.getD v2 RA.z).a2, .i (L0.getD v2 RA.z).a3], true) :: (Nat.blt v2 L0.length, true) :: ((v2 : Int) == Int.ofNat v2, true) :: ((decide ((v2 : Int) < (L0.length : Int))), true) :: []

noncomputable def Zh1 (L0 L1 : List RA) (v2 : Nat) : List (Bool × Bool) := (Za4 (Z8 4 (List.drop (0 + (v2 * 4)) (Zb Zd L1))) [.i (L1.getD v2 RA.z).a0, .i (L1.getD v2 RA.z).a1, .i (L1.getD v2 RA.z).a2, .i (L1.getD v2 RA.z).a3], true) :: (Nat.blt v2 L1.length, true) :: ((v2 : Int) == Int.ofNat v2, true) :: Zkg L0 L1 v2

set_option maxHeartbeats 4000000 in
theorem ZmD (L0 L1 : List RA) (v2 N : Nat) : (Zb0 L0 L1 N).Ok Tryd.prog Za7 (.h1m0 v2 : ref11_Same_4X) (ZdJ L0 L1 N (.h1m0 v2 : ref11_Same_4X)) := by
 show (Zb0 L0 L1 N).Ok Tryd.prog Za7 (.h1m0 v2 : ref11_Same_4X) (Zb4 L0 L1 N v2)
 unfold Zb4
 refine Mach.ok_ite (fun g0 => ?_) (fun g0 => ?_)
 ·
  have w1 : OkL (Zkg L0 L1 v2) :=
   Zc (Zc0 (E := Zd) (L := L0) (i := v2) (q := 0) (by omega) (show (0 + (v2 * 4)) = v2 * 4 + 0 from by omega) (show 0 + 4 ≤ 4 from by decide) rfl rfl) <| oB <| oI <| oY <| Z9
  refine Mach.ok_ite (fun g1 => ?_) (fun _ => Mach.ok_none)
  have w2 : OkL (Zh1 L0 L1 v2) :=
   Zc (Zc0 (E := Zd) (L := L1) (i := v2) (q := 0) (by omega) (show (0 + (v2 * 4)) = v2 * 4 + 0 from by omega) (show 0 + 4 ≤ 4 from by decide) rfl rfl) <| oB <| oI <| w1
  refine Mach.ok_ite (fun g2 => ?_) (fun g2 => ?_)
  ·
   exact Mach.ok_fin (M := Zb0 L0 L1 N) (cd := 1000000) (cm := 0) (r := (.r0 (false) : ZaE)) (fu := 4000) (orc := (Z2 [o1, o1] [] [(0, v2), (1, v2)] [(0, [.i (L0.getD v2 RA.z).a0, .i (L0.getD v2 RA.z).a1, .i (L0.getD v2 RA.z).a2, .i (L0.getD v2 RA.z).a3]), (1, [.i (L1.getD v2 RA.z).a0, .i (L1.getD v2 RA.z).a1, .i (L1.getD v2 RA.z).a2, .i (L1.getD v2 RA.z).a3])] [])) (live := [0, 1]) (u := vf) (bl := [some (.cells (Zb Zd L0) 24 true), some (.cells (Zb Zd L1) 24 true)]) (ob := (((!(((L0.getD v2 RA.z).a0 == (L1.getD v2 RA.z).a0) && (((L0.getD v2 RA.z).a1 == (L1.getD v2 RA.z).a1) && (((L0.getD v2 RA.z).a2 == (L1.getD v2 RA.z).a2) && (((L0.getD v2 RA.z).a3 == (L1.getD v2 RA.z).a3) && true))))), true) :: Zh1 L0 L1 v2)) (fun gv => by as_aux_lemma => kernel_rfl) (Zc (by rw [Bool.not_eq_true']; exact Bool.eq_false_iff.2 (by simp only [ne_eq, Bool.and_true, Bool.and_eq_true, beq_iff_eq]; first | omega | (intro hh; simp_all; done) | (intro hh; grind))) <| w2) rfl (by decide) (by rfl) rr ⟨(Zl (E := Zd) (α := RA) _ L0 _), ⟨(Zl (E := Zd) (α := RA) _ L1 _), trivial⟩⟩
  ·
   refine Mach.ok_ite (fun g3 => ?_) (fun _ => Mach.ok_none)
   exact Mach.ok_next (M := Zb0 L0 L1 N) (cd := 1000000) (cm := 0) (y := (.h1m0 ((v2 + 1)) : ref11_Same_4X)) (fu := 4000) (orc := (Z2 [o1, o0] [(0, (((v2 + 1) : Nat) : Int))] [(0, v2), (1, v2)] [(0, [.i (L0.getD v2 RA.z).a0, .i (L0.getD v2 RA.z).a1, .i (L0.getD v2 RA.z).a2, .i (L0.getD v2 RA.z).a3]), (1, [.i (L1.getD v2 RA.z).a0, .i (L1.getD v2 RA.z).a1, .i (L1.getD v2 RA.z).a2, .i (L1.getD v2 RA.z).a3])] [])) (live := [0, 1]) (tv := fun _ => [some (vs 0 0 L0.length L0.length), some (vs 1 0 L1.length L1.length), some (vi (((v2 + 1) : Nat) : Int))]) (bl := [some (.cells (Zb Zd L0) 24 true), some (.cells (Zb Zd L1) 24 true)]) (ob := (((IntKind.i64.wrap ((v2 : Int) + (1 : Int))) == (((v2 + 1) : Nat) : Int), true) :: ((!(((L0.getD v2 RA.z).a0 == (L1.getD v2 RA.z).a0) && (((L0.getD v2 RA.z).a1 == (L1.getD v2 RA.z).a1) && (((L0.getD v2 RA.z).a2 == (L1.getD v2 RA.z).a2) && (((L0.getD v2 RA.z).a3 == (L1.getD v2 RA.z).a3) && true))))), false) :: Zh1 L0 L1 v2)) rfl (show 1 ∈ ZJ (ZqU 1) from by decide +kernel) (fun gv => by as_aux_lemma => kernel_rfl) (Zc (beq_iff_eq.2 ((wrap_i64 ltA).trans (by first | rfl | omega))) <| Zc (by rw [Bool.not_eq_false']; first | (simp only [beq_self_eq_true, Bool.and_self]; done) | (simp only [Bool.and_true, Bool.and_eq_true, beq_iff_eq] <;> first | omega | (simp_all; done) | grind)) <| w2) rfl (by decide) (by rfl) (fun _ => ⟨rr, ⟨rr, ⟨rr, trivial⟩⟩⟩) ⟨(Zl (E := Zd) (α := RA) _ L0 _), ⟨(Zl (E := Zd) (α := RA) _ L1 _), trivial⟩⟩
 ·
  exact Mach.ok_fin (M := Zb0 L0 L1 N) (cd := 1000000) (cm := 0) (r := (.r0 (true) : ZaE)) (fu := 4000) (orc := (Z2 [o0] [] [] [] [])) (live := [0, 1]) (u := vT) (bl := [some (.cells (Zb Zd L0) 24 true), some (.cells (Zb Zd L1) 24 true)]) (ob := (((decide ((v2 : Int) < (L0.length : Int))), false) :: [])) (fun gv => by as_aux_lemma => kernel_rfl) (oN <| Z9) rfl (by decide) (by rfl) rr ⟨(Zl (E := Zd) (α := RA) _ L0 _), ⟨(Zl (E := Zd) (α := RA) _ L1 _), trivial⟩⟩

set_option maxHeartbeats 4000000 in
theorem Zpn (L0 L1 : List RA) (N : Nat) : (Zb0 L0 L1 N).Enter Tryd.prog Za7 #[vs 0 0 L0.length L0.length, vs 1 0 L1.length L1.length] (ZeE L0 L1 N) := by
 unfold ZeE
 refine Mach.en_ite (fun g0 => ?_) (fun g0 => ?_)
 ·
  exact Mach.en_fin (M := Zb0 L0 L1 N) (cd := 1000000) (cm := 0) (r := (.r0 (false) : ZaE)) (fu := 4000) (orc := (Z2 [o1] [] [] [] [])) (live := [0, 1]) (u := vf) (bl := [some (.cells (Zb Zd L0) 24 true), some (.cells (Zb Zd L1) 24 true)]) (ob := ((((L0.length : Int) != (L1.length : Int)), true) :: [])) (by as_aux_lemma => kernel_rfl) (oD <| Z9) rfl (by decide) (by rfl) rr ⟨(Zl (E := Zd) (α := RA) _ L0 _), ⟨(Zl (E := Zd) (α := RA) _ L1 _), trivial⟩⟩
 ·
  exact Mach.en_head (bK := ZdV 1) (M := Zb0 L0 L1 N) (cd := 1000000) (cm := 0) (y := (.h1m0 (0) : ref11_Same_4X)) (fu := 4000) (orc := (Z2 [o0] [] [] [] [])) (live := [0, 1]) (tv := [some (vs 0 0 L0.length L0.length), some (vs 1 0 L1.length L1.length), some (vq)]) (bl := [some (.cells (Zb Zd L0) 24 true), some (.cells (Zb Zd L1) 24 true)]) (ob := ((((L0.length : Int) != (L1.length : Int)), false) :: [])) rfl rfl (show ZJ (ZdV 1).2 = [] from rfl) (by as_aux_lemma => kernel_rfl) (oE <| Z9) rfl (by decide) (by rfl) ⟨rr, ⟨rr, ⟨⟨Eq.trans (show (vi ((0 : Nat) : Int) : Value) = vq from (congrArg (Value.int .i64) (by first | rfl | omega))) (by rfl), by rfl⟩, trivial⟩⟩⟩ ⟨(Zl (E := Zd) (α := RA) _ L0 _), ⟨(Zl (E := Zd) (α := RA) _ L1 _), trivial⟩⟩

theorem Znv (L0 L1 : List RA) (N : Nat) (r : ZaE) (h : ZfW L0 L1 N = some r) : LSpec Tryd.prog 10 #[vs 0 0 L0.length L0.length, vs 1 0 L1.length L1.length] [.cells (Zb Zd L0) 24 true, .cells (Zb Zd L1) 24 true] (ZlO L0 L1 r) (Zld L0 L1 r) :=
 Mach.spec Zjk (Zb0 L0 L1 N) Tryd.func10 (by kernel_rfl) (by kernel_rfl) (fun x => by cases x <;> exact Zaq _ rfl) (fun r => by cases r <;> exact Zaq _ rfl) (fun x => by
  cases x with
  | h1m0 _ => exact fun _ => (show ¬ (1 ∈ ZJ (ZdV 1).2) from by decide +kernel)
  ) (fun x => (show (Zb0 L0 L1 N).Ok Tryd.prog Za7 x (ZdJ L0 L1 N x) from by
  cases x with
  | h1m0 v2 => exact ZmD L0 L1 v2 N
  )) (Zpn L0 L1 N) (n := N) h

noncomputable def Zlf (L0 L1 : List RA) (w2 : Bool) (k0 k1 n : Nat) : Za8 := .call [(k0, .cells (Zb Zd L0) 24 true), (k1, .cells (Zb Zd L1) 24 true)] (Value.bool w2) [] 0
def ZhW (A : Array Value) (L0 L1 : List RA) (w2 : Bool) (k0 k1 n : Nat) : Prop := ZB Tryd.prog 10 A [(k0, .cells (Zb Zd L0) 24 true), (k1, .cells (Zb Zd L1) 24 true)] (Value.bool w2) [] n 0

theorem Zlg (A : Array Value) (L0 L1 : List RA) (w2 : Bool) (N : Nat) (h : ZfW L0 L1 N = some (.r0 w2)) (k0 k1 n : Nat) (hA : A = #[vs k0 0 L0.length L0.length, vs k1 0 L1.length L1.length]) (hnd : ([k0, k1] : List Nat).Nodup) (hlt : ∀ k ∈ ([k0, k1] : List Nat), k < n) : ZhW A L0 L1 w2 k0 k1 n :=
 Zaj hA (LSpec.callL (show LSpec Tryd.prog 10 #[vs 0 0 L0.length L0.length, vs 1 0 L1.length L1.length] [.cells (Zb Zd L0) 24 true, .cells (Zb Zd L1) 24 true] (Value.bool w2) [some (.cells (Zb Zd L0) 24 true), some (.cells (Zb Zd L1) 24 true)] from Znv L0 L1 N _ h) [k0, k1] n [] rfl hnd hlt (show 2 ≤ 2 from by decide) (show ∀ j ∈ ([] : List Nat), j < 2 from by decide) (by rfl) ⟨(Zo _ _ _), ⟨(Zo _ _ _), trivial⟩⟩ (by rfl) ⟨(Zo _ _ _), ⟨(Zo _ _ _), trivial⟩⟩ ⟨.inr rfl, ⟨.inr rfl, trivial⟩⟩ rfl rfl rfl (Ze (Zj rfl (Zz _ _ _)) (Ze (Zj rfl (Zz _ _ _)) rfl)) rfl)

noncomputable def ZjO (L0 : List Int) (a1 : Int) (L2 : List Int) : Zv → Value
 | .r0 w0 => Value.bool w0
noncomputable def ZiO (L0 : List Int) (a1 : Int) (L2 : List Int) : Zv → List (Option AObj)
 | .r0 w0 => []

def Znw : Zy → Nat
 | .h1m0 v0 v2 v3 => 1
 | .h2m0 v0 v1 v2 => 2
 | .h3m0 v0 v1 v2 v3 v4 => 3
 | .h3m1 v0 v1 v2 v3 => 3
noncomputable def Zop (L0 : List Int) (a1 : Int) (L2 : List Int) : Zy → List (Nat × Value)
 | .h1m0 v0 v2 v3 => [(0, Value.string (Za v0)), (1, Value.int .u16 a1), (2, Value.string (Za v2)), (7, vi (v3 : Int))]
 | .h2m0 v0 v1 v2 => [(0, Value.string (Za v0)), (2, Value.string (Za v1)), (8, vi v2)]
 | .h3m0 v0 v1 v2 v3 v4 => [(0, Value.string (Za v0)), (2, Value.string (Za v1)), (8, vi v2), (9, vn), (10, vi v3), (11, vi v4)]
 | .h3m1 v0 v1 v2 v3 => [(0, Value.string (Za v0)), (2, Value.string (Za v1)), (8, vi v2), (9, vs 0 0 v3.length v3.length), (10, vq), (11, vq)]
noncomputable def Zoq (L0 : List Int) (a1 : Int) (L2 : List Int) : Zy → List (Option AObj)
 | .h1m0 v0 v2 v3 => []
 | .h2m0 v0 v1 v2 => []
 | .h3m0 v0 v1 v2 v3 v4 => []
 | .h3m1 v0 v1 v2 v3 => [some (.cells (Zb Zd v3) 24 true)]

noncomputable def ZM : Nat → Code × List ZaS
 | 1 => Zdt [1, 1, 0, 1, 3] (ZeZ Tryd.f5) []
 | 2 => Zdt [1, 1, 1, 1, 0, 3] (ZeZ Tryd.f5) []
 | 3 => Zm2 [1, 1, 1, 1, 1, 1] (ZeZ Tryd.f5) []
 | _ => (.skip, [])
def ZiP : Nat → Bool
 | 1 => true
 | 2 => true
 | 3 => false
 | _ => true
noncomputable def Zca (i : Nat) : List ZaS := match ZiP i with | true => .rnd i :: (ZM i).2 | false => (ZM i).2

noncomputable def Z1 (L0 : List Int) (a1 : Int) (L2 : List Int) (N : Nat) : Mach := ⟨Tryd.f5, [], Zy, Zv, Za1 L0 a1 L2 N, Znw, ZM, ZiP, Zop L0 a1 L2, Zoq L0 a1 L2, ZjO L0 a1 L2, ZiO L0 a1 L2⟩

set_option maxHeartbeats 4000000 in
theorem Zlh (L0 : List Int) (a1 : Int) (L2 v0 v2 : List Int) (v3 N : Nat) : (Z1 L0 a1 L2 N).Ok Tryd.prog Za7 (.h1m0 v0 v2 v3 : Zy) (Za1 L0 a1 L2 N (.h1m0 v0 v2 v3 : Zy)) := by
 show (Z1 L0 a1 L2 N).Ok Tryd.prog Za7 (.h1m0 v0 v2 v3 : Zy) (ZaB L0 a1 L2 N v0 v2 v3)
 unfold ZaB
 refine Mach.ok_ite (fun g0 => ?_) (fun g0 => ?_)
 ·
  refine Mach.ok_ite (fun g1 => ?_) (fun g1 => ?_)
  ·
   exact Mach.ok_fin (M := Z1 L0 a1 L2 N) (cd := 1000000) (cm := 0) (r := (.r0 (true) : Zv)) (fu := 4000) (orc := (Z2 [o1, o1] [] [] [] [(0, .bs [(bAt v2 v3)])])) (live := []) (u := vT) (bl := []) (ob := ((((bAt v2 v3) == (10 : Int)), true) :: (dP (∃ y, 0 ≤ (v3 : Int) ∧ ((Za v2))[((v3 : Int)).toNat]? = some y ∧ (bAt v2 v3) = (y.toNat : Int)), true) :: ((decide ((v3 : Int) < (((Za v2).size : Nat) : Int))), true) :: [])) (fun gv => by as_aux_lemma => kernel_rfl) (oT <| Zc (Zp (Zj6 (M := v2) (i := v3) rfl (by first | rfl | exact Ze6 (by omega)) (by (try simp only [Z6] at *); omega))) <| oY <| Z9) rfl (by decide) (by rfl) rr trivial
  ·
   refine Mach.ok_ite (fun g2 => ?_) (fun _ => Mach.ok_none)
   exact Mach.ok_next (M := Z1 L0 a1 L2 N) (cd := 1000000) (cm := 0) (y := (.h1m0 (v0) (v2) ((v3 + 1)) : Zy)) (fu := 4000) (orc := (Z2 [o1, o0] [(0, (((v3 + 1) : Nat) : Int))] [] [] [(0, .bs [(bAt v2 v3)])])) (live := []) (tv := fun _ => [some (Value.string (Za v0)), some (Value.int .u16 a1), some (Value.string (Za v2)), some (vi (((v3 + 1) : Nat) : Int))]) (bl := []) (ob := (((IntKind.i64.wrap ((v3 : Int) + (1 : Int))) == (((v3 + 1) : Nat) : Int), true) :: (((bAt v2 v3) == (10 : Int)), false) :: (dP (∃ y, 0 ≤ (v3 : Int) ∧ ((Za v2))[((v3 : Int)).toNat]? = some y ∧ (bAt v2 v3) = (y.toNat : Int)), true) :: ((decide ((v3 : Int) < (((Za v2).size : Nat) : Int))), true) :: [])) rfl (show 1 ∈ ZJ (Zca 1) from by decide +kernel) (fun gv => by as_aux_lemma => kernel_rfl) (Zc (beq_iff_eq.2 ((wrap_i64 ltA).trans (by first | rfl | omega))) <| oF <| Zc (Zp (Zj6 (M := v2) (i := v3) rfl (by first | rfl | exact Ze6 (by omega)) (by (try simp only [Z6] at *); omega))) <| oY <| Z9) rfl (by decide) (by rfl) (fun _ => ⟨rr, ⟨rr, ⟨rr, ⟨rr, trivial⟩⟩⟩⟩) trivial
 ·
  refine Mach.ok_ite (fun g1 => ?_) (fun _ => Mach.ok_none)
  refine Mach.ok_ite (fun g2 => ?_) (fun _ => Mach.ok_none)
  refine Mach.ok_ite (fun g3 => ?_) (fun _ => Mach.ok_none)
  exact Mach.ok_head (bK := ZM 2) (M := Z1 L0 a1 L2 N) (cd := 1000000) (cm := 0) (y := (.h2m0 (v0) (v2) ((Int.tmod a1 ((((Za v0).size + 1) : Nat) : Int))) : Zy)) (fu := 4000) (orc := (Z2 [o0] [(0, a1), (1, ((((Za v0).size + 1) : Nat) : Int))] [] [] [(0, .dv)])) (live := []) (tv := fun _ => [some (Value.string (Za v0)), some (Value.string (Za v2)), some (vi (Int.tmod a1 ((((Za v0).size + 1) : Nat) : Int)))]) (bl := []) (ob := ((dP (IntKind.i64 = IntKind.i64 ∧ ((((Za v0).size + 1) : Nat) : Int) ≠ 0), true) :: ((IntKind.i64.wrap ((((Za v0).size : Nat) : Int) + (1 : Int))) == ((((Za v0).size + 1) : Nat) : Int), true) :: ((IntKind.i64.wrap a1) == a1, true) :: ((decide ((v3 : Int) < (((Za v2).size : Nat) : Int))), false) :: [])) rfl rfl (show ∀ j ∈ ZJ (ZM 2).2, j ∈ ZJ (Zca 1) from by decide +kernel) (fun gv => by as_aux_lemma => kernel_rfl) (Zc (Zp ⟨rfl, by omega⟩) <| Zc (beq_iff_eq.2 ((wrap_i64 ltA).trans (by first | rfl | omega))) <| Zc (beq_iff_eq.2 (wrap_i64 ltA)) <| oN <| Z9) rfl (by decide) (by rfl) (fun _ => ⟨rr, ⟨rr, ⟨rr, trivial⟩⟩⟩) trivial

noncomputable def Zeh (L0 : List Int) (a1 : Int) (L2 v0 v1 : List Int) (v2 : Int) : List (Bool × Bool) := (dP (∃ y, 0 ≤ (IntKind.i64.wrap (v2 - (1 : Int))) ∧ ((Za v0))[((IntKind.i64.wrap (v2 - (1 : Int)))).toNat]? = some y ∧ (bAt v0 ((IntKind.i64.wrap (v2 - (1 : Int)))).toNat) = (y.toNat : Int)), true) :: ((decide (v2 > (0 : Int))), true) :: []

set_option maxHeartbeats 4000000 in
theorem Zli (L0 : List Int) (a1 : Int) (L2 v0 v1 : List Int) (v2 : Int) (N : Nat) : (Z1 L0 a1 L2 N).Ok Tryd.prog Za7 (.h2m0 v0 v1 v2 : Zy) (Za1 L0 a1 L2 N (.h2m0 v0 v1 v2 : Zy)) := by
 show (Z1 L0 a1 L2 N).Ok Tryd.prog Za7 (.h2m0 v0 v1 v2 : Zy) (ZaC L0 a1 L2 N v0 v1 v2)
 unfold ZaC
 refine Mach.ok_ite (fun g0 => ?_) (fun g0 => ?_)
 ·
  refine Mach.ok_ite (fun g1 => ?_) (fun _ => Mach.ok_none)
  refine Mach.ok_ite (fun g2 => ?_) (fun _ => Mach.ok_none)
  have w3 : OkL (Zeh L0 a1 L2 v0 v1 v2) :=
   Zc (Zp (Zj6 (M := v0) (i := ((IntKind.i64.wrap (v2 - (1 : Int)))).toNat) rfl (by first | rfl | exact Ze6 (by omega)) (by (try simp only [Z6] at *); omega))) <| oY <| Z9
  refine Mach.ok_ite (fun g3 => ?_) (fun g3 => ?_)
  ·
   exact Mach.ok_next (M := Z1 L0 a1 L2 N) (cd := 1000000) (cm := 0) (y := (.h2m0 (v0) (v1) ((IntKind.i64.wrap (v2 - (1 : Int)))) : Zy)) (fu := 4000) (orc := (Z2 [o1, o1] [] [] [] [(0, .bs [(bAt v0 ((IntKind.i64.wrap (v2 - (1 : Int)))).toNat)])])) (live := []) (tv := fun _ => [some (Value.string (Za v0)), some (Value.string (Za v1)), some (vi (IntKind.i64.wrap (v2 - (1 : Int))))]) (bl := []) (ob := ((((bAt v0 ((IntKind.i64.wrap (v2 - (1 : Int)))).toNat) != (10 : Int)), true) :: Zeh L0 a1 L2 v0 v1 v2)) rfl (show 2 ∈ ZJ (Zca 2) from by decide +kernel) (fun gv => by as_aux_lemma => kernel_rfl) (oD <| w3) rfl (by decide) (by rfl) (fun _ => ⟨rr, ⟨rr, ⟨rr, trivial⟩⟩⟩) trivial
  ·
   refine Mach.ok_bind (fun z4 c4 => ?_)
   cases z4 with
   | r0 y4_0 y4_1 =>
    exact Mach.ok_cut (bK := ZM 3) (M := Z1 L0 a1 L2 N) (cd := 0) (cm := 1) (y := (.h3m0 (v0) (v1) (v2) (y4_0) (y4_1) : Zy)) (fu := 4000) (orc := (Z2 [o1, o0] [] [] [] [(0, .bs [(bAt v0 ((IntKind.i64.wrap (v2 - (1 : Int)))).toNat)]), (1, (Zbn (v0)  y4_0 y4_1  0))])) (live := []) (tv := fun _ => [some (Value.string (Za v0)), some (Value.string (Za v1)), some (vi v2), some (vn), some (vi y4_0), some (vi y4_1)]) (bl := []) (ob := ((dP (Zg7 #[Value.string (Za v0)] (v0)  y4_0 y4_1  0), true) :: (((bAt v0 ((IntKind.i64.wrap (v2 - (1 : Int)))).toNat) != (10 : Int)), false) :: Zeh L0 a1 L2 v0 v1 v2)) rfl rfl (show ∀ j ∈ ZJ (ZM 3).2, j ∈ ZJ (Zca 2) from by decide +kernel) (fun gv => by as_aux_lemma => kernel_rfl) (Zc (Zp (Zia #[Value.string (Za v0)] (v0)  y4_0 y4_1 N c4  0 rfl dcd dcd)) <| oE <| w3) rfl (by decide) (by rfl) (fun _ => ⟨rr, ⟨rr, ⟨rr, ⟨rr, ⟨rr, ⟨rr, trivial⟩⟩⟩⟩⟩⟩) trivial
   | r1 y4_0 =>
    exact Mach.ok_cut (bK := ZM 3) (M := Z1 L0 a1 L2 N) (cd := 0) (cm := 1) (y := (.h3m1 (v0) (v1) (v2) (y4_0) : Zy)) (fu := 4000) (orc := (Z2 [o1, o0] [] [] [] [(0, .bs [(bAt v0 ((IntKind.i64.wrap (v2 - (1 : Int)))).toNat)]), (1, (Zd5 (v0)  y4_0  0))])) (live := [0]) (tv := fun _ => [some (Value.string (Za v0)), some (Value.string (Za v1)), some (vi v2), some (vs 0 0 y4_0.length y4_0.length), some (vq), some (vq)]) (bl := [some (.cells (Zb Zd y4_0) 24 true)]) (ob := ((dP (Zg8 #[Value.string (Za v0)] (v0)  y4_0  0), true) :: (((bAt v0 ((IntKind.i64.wrap (v2 - (1 : Int)))).toNat) != (10 : Int)), false) :: Zeh L0 a1 L2 v0 v1 v2)) rfl rfl (show ∀ j ∈ ZJ (ZM 3).2, j ∈ ZJ (Zca 2) from by decide +kernel) (fun gv => by as_aux_lemma => kernel_rfl) (Zc (Zp (Zib #[Value.string (Za v0)] (v0)  y4_0 N c4  0 rfl dcd dcd)) <| oE <| w3) rfl (by decide) (by rfl) (fun _ => ⟨rr, ⟨rr, ⟨rr, ⟨rr, ⟨rr, ⟨rr, trivial⟩⟩⟩⟩⟩⟩) ⟨(Zl (E := Zd) (α := RA) _ y4_0 _), trivial⟩
 ·
  refine Mach.ok_bind (fun z1 c1 => ?_)
  cases z1 with
  | r0 y1_0 y1_1 =>
   exact Mach.ok_cut (bK := ZM 3) (M := Z1 L0 a1 L2 N) (cd := 0) (cm := 1) (y := (.h3m0 (v0) (v1) (v2) (y1_0) (y1_1) : Zy)) (fu := 4000) (orc := (Z2 [o0] [] [] [] [(0, (Zbn (v0)  y1_0 y1_1  0))])) (live := []) (tv := fun _ => [some (Value.string (Za v0)), some (Value.string (Za v1)), some (vi v2), some (vn), some (vi y1_0), some (vi y1_1)]) (bl := []) (ob := ((dP (Zg7 #[Value.string (Za v0)] (v0)  y1_0 y1_1  0), true) :: ((decide (v2 > (0 : Int))), false) :: [])) rfl rfl (show ∀ j ∈ ZJ (ZM 3).2, j ∈ ZJ (Zca 2) from by decide +kernel) (fun gv => by as_aux_lemma => kernel_rfl) (Zc (Zp (Zia #[Value.string (Za v0)] (v0)  y1_0 y1_1 N c1  0 rfl dcd dcd)) <| oN <| Z9) rfl (by decide) (by rfl) (fun _ => ⟨rr, ⟨rr, ⟨rr, ⟨rr, ⟨rr, ⟨rr, trivial⟩⟩⟩⟩⟩⟩) trivial
  | r1 y1_0 =>
   exact Mach.ok_cut (bK := ZM 3) (M := Z1 L0 a1 L2 N) (cd := 0) (cm := 1) (y := (.h3m1 (v0) (v1) (v2) (y1_0) : Zy)) (fu := 4000) (orc := (Z2 [o0] [] [] [] [(0, (Zd5 (v0)  y1_0  0))])) (live := [0]) (tv := fun _ => [some (Value.string (Za v0)), some (Value.string (Za v1)), some (vi v2), some (vs 0 0 y1_0.length y1_0.length), some (vq), some (vq)]) (bl := [some (.cells (Zb Zd y1_0) 24 true)]) (ob := ((dP (Zg8 #[Value.string (Za v0)] (v0)  y1_0  0), true) :: ((decide (v2 > (0 : Int))), false) :: [])) rfl rfl (show ∀ j ∈ ZJ (ZM 3).2, j ∈ ZJ (Zca 2) from by decide +kernel) (fun gv => by as_aux_lemma => kernel_rfl) (Zc (Zp (Zib #[Value.string (Za v0)] (v0)  y1_0 N c1  0 rfl dcd dcd)) <| oN <| Z9) rfl (by decide) (by rfl) (fun _ => ⟨rr, ⟨rr, ⟨rr, ⟨rr, ⟨rr, ⟨rr, trivial⟩⟩⟩⟩⟩⟩) ⟨(Zl (E := Zd) (α := RA) _ y1_0 _), trivial⟩

noncomputable def Zi0 (L0 : List Int) (a1 : Int) (L2 v0 v1 : List Int) (v2 v3 v4 : Int) : List (Bool × Bool) := (dP (0 ≤ (0 : Int) ∧ (0 : Int) ≤ v2 ∧ v2 ≤ ((((Za v0)).size : Nat) : Int) ∧ ((Za v0)).extract ((0 : Int)).toNat (v2).toNat = Za (v0.take (v2).toNat)), true) :: []

noncomputable def Zi1 (L0 : List Int) (a1 : Int) (L2 v0 v1 : List Int) (v2 v3 v4 : Int) : List (Bool × Bool) := (dP (((((Za (v0.take (v2).toNat))).size + ((Za (bl [35]))).size : Nat) : Int) ≤ IntKind.i64.max), true) :: Zi0 L0 a1 L2 v0 v1 v2 v3 v4

noncomputable def Zi2 (L0 : List Int) (a1 : Int) (L2 v0 v1 : List Int) (v2 v3 v4 : Int) : List (Bool × Bool) := (dP ((((((Za (v0.take (v2).toNat)) ++ (Za (bl [35])))).size + ((Za v1)).size : Nat) : Int) ≤ IntKind.i64.max), true) :: Zi1 L0 a1 L2 v0 v1 v2 v3 v4

noncomputable def Zi3 (L0 : List Int) (a1 : Int) (L2 v0 v1 : List Int) (v2 v3 v4 : Int) : List (Bool × Bool) := (dP (0 ≤ v2 ∧ v2 ≤ ((((Za v0)).size : Nat) : Int) ∧ ((((Za v0)).size : Nat) : Int) ≤ ((((Za v0)).size : Nat) : Int) ∧ ((Za v0)).extract (v2).toNat (((((Za v0)).size : Nat) : Int)).toNat = Za (v0.drop (v2).toNat)), true) :: (dP (((((((Za (v0.take (v2).toNat)) ++ (Za (bl [35]))) ++ (Za v1))).size + ((Za (bl [10, 10]))).size : Nat) : Int) ≤ IntKind.i64.max), true) :: Zi2 L0 a1 L2 v0 v1 v2 v3 v4

noncomputable def ZfX (L0 : List Int) (a1 : Int) (L2 v0 v1 : List Int) (v2 v3 v4 : Int) : List (Bool × Bool) := (dP ((((((((Za (v0.take (v2).toNat)) ++ (Za (bl [35]))) ++ (Za v1)) ++ (Za (bl [10, 10])))).size + ((Za (v0.drop (v2).toNat))).size : Nat) : Int) ≤ IntKind.i64.max), true) :: Zi3 L0 a1 L2 v0 v1 v2 v3 v4

noncomputable def Zi4 (L0 : List Int) (a1 : Int) (L2 v0 v1 : List Int) (v2 v3 v4 y6_0 y6_1 : Int) : List (Bool × Bool) := (dP (Zg7 #[Value.string (((((Za (v0.take (v2).toNat)) ++ (Za (bl [35]))) ++ (Za v1)) ++ (Za (bl [10, 10]))) ++ (Za (v0.drop (v2).toNat)))] (((inT v0 v1 v2) ++ (v0.drop (v2).toNat)))  y6_0 y6_1  0), true) :: ZfX L0 a1 L2 v0 v1 v2 v3 v4

noncomputable def Zbe (L0 : List Int) (a1 : Int) (L2 v0 v1 : List Int) (v2 v3 v4 y6_0 y6_1 : Int) : List (Bool × Bool) := (dP (ZmA #[vn, vn]     0), true) :: Zi4 L0 a1 L2 v0 v1 v2 v3 v4 y6_0 y6_1

noncomputable def ZfY (L0 : List Int) (a1 : Int) (L2 v0 v1 : List Int) (v2 v3 v4 : Int) (y6_0 : List RA) : List (Bool × Bool) := (dP (Zg8 #[Value.string (((((Za (v0.take (v2).toNat)) ++ (Za (bl [35]))) ++ (Za v1)) ++ (Za (bl [10, 10]))) ++ (Za (v0.drop (v2).toNat)))] (((inT v0 v1 v2) ++ (v0.drop (v2).toNat)))  y6_0  0), true) :: ZfX L0 a1 L2 v0 v1 v2 v3 v4

noncomputable def Zei (L0 : List Int) (a1 : Int) (L2 v0 v1 : List Int) (v2 v3 v4 : Int) (y6_0 : List RA) : List (Bool × Bool) := (dP (ZhU #[vn, vs 0 0 y6_0.length y6_0.length] (y6_0)  true 0 1), true) :: (dS (Zb Zd y6_0), true) :: ZfY L0 a1 L2 v0 v1 v2 v3 v4 y6_0

set_option maxHeartbeats 4000000 in
theorem Zlj (L0 : List Int) (a1 : Int) (L2 v0 v1 : List Int) (v2 v3 v4 : Int) (N : Nat) : (Z1 L0 a1 L2 N).Ok Tryd.prog Za7 (.h3m0 v0 v1 v2 v3 v4 : Zy) (Za1 L0 a1 L2 N (.h3m0 v0 v1 v2 v3 v4 : Zy)) := by
 show (Z1 L0 a1 L2 N).Ok Tryd.prog Za7 (.h3m0 v0 v1 v2 v3 v4 : Zy) (Zcv L0 a1 L2 N v0 v1 v2 v3 v4)
 unfold Zcv
 refine Mach.ok_ite (fun g0 => ?_) (fun _ => Mach.ok_none)
 refine Mach.ok_ite (fun g1 => ?_) (fun _ => Mach.ok_none)
 have w2 : OkL (Zi0 L0 a1 L2 v0 v1 v2 v3 v4) :=
  Zc (Zp (sSl (M := v0) (R := (v0.take (v2).toNat)) rfl (by (try simp only [Z6] at *); omega) (by (try simp only [Z6] at *); omega) (by (try simp only [Z6] at *); omega) (by first | rfl | simp))) <| Z9
 refine Mach.ok_ite (fun g2 => ?_) (fun _ => Mach.ok_none)
 have w3 : OkL (Zi1 L0 a1 L2 v0 v1 v2 v3 v4) :=
  Zc (Zp (ZeL (x := (v0.take (v2).toNat)) (y := (bl [35])) rfl rfl ltA)) <| w2
 refine Mach.ok_ite (fun g3 => ?_) (fun _ => Mach.ok_none)
 have w4 : OkL (Zi2 L0 a1 L2 v0 v1 v2 v3 v4) :=
  Zc (Zp (ZeL (x := ((v0.take (v2).toNat) ++ (bl [35]))) (y := v1) sE rfl ltA)) <| w3
 refine Mach.ok_ite (fun g4 => ?_) (fun _ => Mach.ok_none)
 have w5 : OkL (Zi3 L0 a1 L2 v0 v1 v2 v3 v4) :=
  Zc (Zp (Zsn (M := v0) (R := (v0.drop (v2).toNat)) rfl (by (try simp only [Z6] at *); omega) (by (try simp only [Z6] at *); omega) (by first | rfl | simp))) <| Zc (Zp (ZeL (x := (((v0.take (v2).toNat) ++ (bl [35])) ++ v1)) (y := (bl [10, 10])) sE rfl ltA)) <| w4
 refine Mach.ok_ite (fun g5 => ?_) (fun _ => Mach.ok_none)
 have w6 : OkL (ZfX L0 a1 L2 v0 v1 v2 v3 v4) :=
  Zc (Zp (ZeL (x := (inT v0 v1 v2)) (y := (v0.drop (v2).toNat)) sE rfl ltA)) <| w5
 refine Mach.ok_bind (fun z6 c6 => ?_)
 cases z6 with
 | r0 y6_0 y6_1 =>
  have w7 : OkL (Zi4 L0 a1 L2 v0 v1 v2 v3 v4 y6_0 y6_1) :=
   Zc (Zp (Zia #[Value.string (((((Za (v0.take (v2).toNat)) ++ (Za (bl [35]))) ++ (Za v1)) ++ (Za (bl [10, 10]))) ++ (Za (v0.drop (v2).toNat)))] (((inT v0 v1 v2) ++ (v0.drop (v2).toNat)))  y6_0 y6_1 N c6  0 (Zl5 (Ze (congrArg Value.string sE) rfl)) (by decide) (by decide))) <| w6
  refine Mach.ok_bind (fun z7 c7 => ?_)
  cases z7 with
  | r0 =>
   have w8 : OkL (Zbe L0 a1 L2 v0 v1 v2 v3 v4 y6_0 y6_1) :=
    Zc (Zp (Zs4 #[vn, vn]    N c7  0 rfl dcd dcd)) <| w7
   refine Mach.ok_ite (fun g8 => ?_) (fun g8 => ?_)
   ·
    refine Mach.ok_ite (fun g9 => ?_) (fun g9 => ?_)
    ·
     refine Mach.ok_ite (fun g10 => ?_) (fun g10 => ?_)
     ·
      exact Mach.ok_fin (M := Z1 L0 a1 L2 N) (cd := 1000000) (cm := 0) (r := (.r0 (true) : Zv)) (fu := 4000) (orc := (Z2 [o1, o1, o0, o1] [] [] [] [(0, .bs (v0.take (v2).toNat)), (1, .bs (v0.drop (v2).toNat)), (2, (Zbn (((inT v0 v1 v2) ++ (v0.drop (v2).toNat)))  y6_0 y6_1  0)), (3, (ZdK     0))])) (live := []) (u := vT) (bl := []) (ob := (((y6_0 == v3), true) :: ((v4 == (0 : Int)), false) :: ((v4 != (0 : Int)), true) :: ((v4 == y6_1), true) :: Zbe L0 a1 L2 v0 v1 v2 v3 v4 y6_0 y6_1)) (fun gv => by as_aux_lemma => kernel_rfl) (oT <| oF <| oD <| oT <| w8) rfl (by decide) (by rfl) rr trivial
     ·
      refine Mach.ok_ite (fun g11 => ?_) (fun g11 => ?_)
      ·
       exact Mach.ok_fin (M := Z1 L0 a1 L2 N) (cd := 1000000) (cm := 0) (r := (.r0 (true) : Zv)) (fu := 4000) (orc := (Z2 [o1, o1, o0, o0, o1] [] [] [] [(0, .bs (v0.take (v2).toNat)), (1, .bs (v0.drop (v2).toNat)), (2, (Zbn (((inT v0 v1 v2) ++ (v0.drop (v2).toNat)))  y6_0 y6_1  0)), (3, (ZdK     0))])) (live := []) (u := vT) (bl := []) (ob := (((y6_0 == (IntKind.i64.wrap (v3 + (2 : Int)))), true) :: ((y6_0 == v3), false) :: ((v4 == (0 : Int)), false) :: ((v4 != (0 : Int)), true) :: ((v4 == y6_1), true) :: Zbe L0 a1 L2 v0 v1 v2 v3 v4 y6_0 y6_1)) (fun gv => by as_aux_lemma => kernel_rfl) (oT <| oF <| oF <| oD <| oT <| w8) rfl (by decide) (by rfl) rr trivial
      ·
       exact Mach.ok_fin (M := Z1 L0 a1 L2 N) (cd := 1000000) (cm := 0) (r := (.r0 (false) : Zv)) (fu := 4000) (orc := (Z2 [o1, o1, o0, o0, o0] [] [] [] [(0, .bs (v0.take (v2).toNat)), (1, .bs (v0.drop (v2).toNat)), (2, (Zbn (((inT v0 v1 v2) ++ (v0.drop (v2).toNat)))  y6_0 y6_1  0)), (3, (ZdK     0))])) (live := []) (u := vf) (bl := []) (ob := (((y6_0 == (IntKind.i64.wrap (v3 + (2 : Int)))), false) :: ((y6_0 == v3), false) :: ((v4 == (0 : Int)), false) :: ((v4 != (0 : Int)), true) :: ((v4 == y6_1), true) :: Zbe L0 a1 L2 v0 v1 v2 v3 v4 y6_0 y6_1)) (fun gv => by as_aux_lemma => kernel_rfl) (oF <| oF <| oF <| oD <| oT <| w8) rfl (by decide) (by rfl) rr trivial
    ·
     refine Mach.ok_ite (fun g10 => ?_) (fun g10 => ?_)
     ·
      refine Mach.ok_ite (fun g11 => ?_) (fun g11 => ?_)
      ·
       exact Mach.ok_fin (M := Z1 L0 a1 L2 N) (cd := 1000000) (cm := 0) (r := (.r0 (true) : Zv)) (fu := 4000) (orc := (Z2 [o1, o0, o1, o1, o1] [] [] [] [(0, .bs (v0.take (v2).toNat)), (1, .bs (v0.drop (v2).toNat)), (2, (Zbn (((inT v0 v1 v2) ++ (v0.drop (v2).toNat)))  y6_0 y6_1  0)), (3, (ZdK     0))])) (live := []) (u := vT) (bl := []) (ob := (((v4 == (0 : Int)), true) :: ((y6_0 == (0 : Int)), true) :: ((v3 == (0 : Int)), true) :: ((v4 != (0 : Int)), false) :: ((v4 == y6_1), true) :: Zbe L0 a1 L2 v0 v1 v2 v3 v4 y6_0 y6_1)) (fun gv => by as_aux_lemma => kernel_rfl) (oT <| oT <| oT <| oE <| oT <| w8) rfl (by decide) (by rfl) rr trivial
      ·
       exact Mach.ok_fin (M := Z1 L0 a1 L2 N) (cd := 1000000) (cm := 0) (r := (.r0 (false) : Zv)) (fu := 4000) (orc := (Z2 [o1, o0, o1, o0] [] [] [] [(0, .bs (v0.take (v2).toNat)), (1, .bs (v0.drop (v2).toNat)), (2, (Zbn (((inT v0 v1 v2) ++ (v0.drop (v2).toNat)))  y6_0 y6_1  0)), (3, (ZdK     0))])) (live := []) (u := vf) (bl := []) (ob := (((y6_0 == (0 : Int)), false) :: ((v3 == (0 : Int)), true) :: ((v4 != (0 : Int)), false) :: ((v4 == y6_1), true) :: Zbe L0 a1 L2 v0 v1 v2 v3 v4 y6_0 y6_1)) (fun gv => by as_aux_lemma => kernel_rfl) (oF <| oT <| oE <| oT <| w8) rfl (by decide) (by rfl) rr trivial
     ·
      exact Mach.ok_fin (M := Z1 L0 a1 L2 N) (cd := 1000000) (cm := 0) (r := (.r0 (false) : Zv)) (fu := 4000) (orc := (Z2 [o1, o0, o0] [] [] [] [(0, .bs (v0.take (v2).toNat)), (1, .bs (v0.drop (v2).toNat)), (2, (Zbn (((inT v0 v1 v2) ++ (v0.drop (v2).toNat)))  y6_0 y6_1  0)), (3, (ZdK     0))])) (live := []) (u := vf) (bl := []) (ob := (((v3 == (0 : Int)), false) :: ((v4 != (0 : Int)), false) :: ((v4 == y6_1), true) :: Zbe L0 a1 L2 v0 v1 v2 v3 v4 y6_0 y6_1)) (fun gv => by as_aux_lemma => kernel_rfl) (oF <| oE <| oT <| w8) rfl (by decide) (by rfl) rr trivial
   ·
    exact Mach.ok_fin (M := Z1 L0 a1 L2 N) (cd := 1000000) (cm := 0) (r := (.r0 (false) : Zv)) (fu := 4000) (orc := (Z2 [o0] [] [] [] [(0, .bs (v0.take (v2).toNat)), (1, .bs (v0.drop (v2).toNat)), (2, (Zbn (((inT v0 v1 v2) ++ (v0.drop (v2).toNat)))  y6_0 y6_1  0)), (3, (ZdK     0))])) (live := []) (u := vf) (bl := []) (ob := (((v4 == y6_1), false) :: Zbe L0 a1 L2 v0 v1 v2 v3 v4 y6_0 y6_1)) (fun gv => by as_aux_lemma => kernel_rfl) (oF <| w8) rfl (by decide) (by rfl) rr trivial
 | r1 y6_0 =>
  have w7 : OkL (ZfY L0 a1 L2 v0 v1 v2 v3 v4 y6_0) :=
   Zc (Zp (Zib #[Value.string (((((Za (v0.take (v2).toNat)) ++ (Za (bl [35]))) ++ (Za v1)) ++ (Za (bl [10, 10]))) ++ (Za (v0.drop (v2).toNat)))] (((inT v0 v1 v2) ++ (v0.drop (v2).toNat)))  y6_0 N c6  0 (Zl5 (Ze (congrArg Value.string sE) rfl)) (by decide) (by decide))) <| w6
  refine Mach.ok_bind (fun z7 c7 => ?_)
  cases z7 with
  | r0 y7_0 =>
   refine Mach.ok_ite (fun g8 => ?_) (fun g8 => ?_)
   ·
    subst g8
    have w9 : OkL (Zei L0 a1 L2 v0 v1 v2 v3 v4 y6_0) :=
     Zc (Zp (Zla #[vn, vs 0 0 y6_0.length y6_0.length] (y6_0)  true N c7 0 1 rfl dcd dcd)) <| oR <| w7
    refine Mach.ok_ite (fun g9 => ?_) (fun g9 => ?_)
    ·
     refine Mach.ok_ite (fun g10 => ?_) (fun g10 => ?_)
     ·
      exact Mach.ok_fin (M := Z1 L0 a1 L2 N) (cd := 1000000) (cm := 0) (r := (.r0 (true) : Zv)) (fu := 4000) (orc := (Zs [(0, true), (1, false), (2, true), (4, true)] [] [] [] [(0, .bs (v0.take (v2).toNat)), (1, .bs (v0.drop (v2).toNat)), (2, (Zd5 (((inT v0 v1 v2) ++ (v0.drop (v2).toNat)))  y6_0  0)), (3, (Zgk (y6_0)  true 0 1))])) (live := []) (u := vT) (bl := []) (ob := (((v4 == (0 : Int)), true) :: ((v3 == (0 : Int)), true) :: ((v4 != (0 : Int)), false) :: ((v4 == (0 : Int)), true) :: Zei L0 a1 L2 v0 v1 v2 v3 v4 y6_0)) (fun gv => by as_aux_lemma => kernel_rfl) (oT <| oT <| oE <| oT <| w9) rfl (by decide) (by rfl) rr trivial
     ·
      exact Mach.ok_fin (M := Z1 L0 a1 L2 N) (cd := 1000000) (cm := 0) (r := (.r0 (false) : Zv)) (fu := 4000) (orc := (Z2 [o1, o0, o0] [] [] [] [(0, .bs (v0.take (v2).toNat)), (1, .bs (v0.drop (v2).toNat)), (2, (Zd5 (((inT v0 v1 v2) ++ (v0.drop (v2).toNat)))  y6_0  0)), (3, (Zgk (y6_0)  true 0 1))])) (live := []) (u := vf) (bl := []) (ob := (((v3 == (0 : Int)), false) :: ((v4 != (0 : Int)), false) :: ((v4 == (0 : Int)), true) :: Zei L0 a1 L2 v0 v1 v2 v3 v4 y6_0)) (fun gv => by as_aux_lemma => kernel_rfl) (oF <| oE <| oT <| w9) rfl (by decide) (by rfl) rr trivial
    ·
     exact Mach.ok_fin (M := Z1 L0 a1 L2 N) (cd := 1000000) (cm := 0) (r := (.r0 (false) : Zv)) (fu := 4000) (orc := (Z2 [o0] [] [] [] [(0, .bs (v0.take (v2).toNat)), (1, .bs (v0.drop (v2).toNat)), (2, (Zd5 (((inT v0 v1 v2) ++ (v0.drop (v2).toNat)))  y6_0  0)), (3, (Zgk (y6_0)  true 0 1))])) (live := []) (u := vf) (bl := []) (ob := (((v4 == (0 : Int)), false) :: Zei L0 a1 L2 v0 v1 v2 v3 v4 y6_0)) (fun gv => by as_aux_lemma => kernel_rfl) (oF <| w9) rfl (by decide) (by rfl) rr trivial
   ·
    obtain rfl : y7_0 = false := by simpa using g8
    exact Mach.ok_fin (M := Z1 L0 a1 L2 N) (cd := 1000000) (cm := 0) (r := (.r0 (false) : Zv)) (fu := 4000) (orc := (Zs [] [] [] [] [(0, .bs (v0.take (v2).toNat)), (1, .bs (v0.drop (v2).toNat)), (2, (Zd5 (((inT v0 v1 v2) ++ (v0.drop (v2).toNat)))  y6_0  0)), (3, (Zgk (y6_0)  false 0 1))])) (live := []) (u := vf) (bl := []) (ob := ((dP (ZhU #[vn, vs 0 0 y6_0.length y6_0.length] (y6_0)  false 0 1), true) :: (dS (Zb Zd y6_0), true) :: ZfY L0 a1 L2 v0 v1 v2 v3 v4 y6_0)) (fun gv => by as_aux_lemma => kernel_rfl) (Zc (Zp (Zla #[vn, vs 0 0 y6_0.length y6_0.length] (y6_0)  false N c7 0 1 rfl dcd dcd)) <| oR <| w7) rfl (by decide) (by rfl) rr trivial

noncomputable def Zh6 (L0 : List Int) (a1 : Int) (L2 v0 v1 : List Int) (v2 : Int) (v3 : List RA) : List (Bool × Bool) := (dP (0 ≤ (0 : Int) ∧ (0 : Int) ≤ v2 ∧ v2 ≤ ((((Za v0)).size : Nat) : Int) ∧ ((Za v0)).extract ((0 : Int)).toNat (v2).toNat = Za (v0.take (v2).toNat)), true) :: []

noncomputable def Zh7 (L0 : List Int) (a1 : Int) (L2 v0 v1 : List Int) (v2 : Int) (v3 : List RA) : List (Bool × Bool) := (dP (((((Za (v0.take (v2).toNat))).size + ((Za (bl [35]))).size : Nat) : Int) ≤ IntKind.i64.max), true) :: Zh6 L0 a1 L2 v0 v1 v2 v3

noncomputable def Zh8 (L0 : List Int) (a1 : Int) (L2 v0 v1 : List Int) (v2 : Int) (v3 : List RA) : List (Bool × Bool) := (dP ((((((Za (v0.take (v2).toNat)) ++ (Za (bl [35])))).size + ((Za v1)).size : Nat) : Int) ≤ IntKind.i64.max), true) :: Zh7 L0 a1 L2 v0 v1 v2 v3

noncomputable def Zh9 (L0 : List Int) (a1 : Int) (L2 v0 v1 : List Int) (v2 : Int) (v3 : List RA) : List (Bool × Bool) := (dP (0 ≤ v2 ∧ v2 ≤ ((((Za v0)).size : Nat) : Int) ∧ ((((Za v0)).size : Nat) : Int) ≤ ((((Za v0)).size : Nat) : Int) ∧ ((Za v0)).extract (v2).toNat (((((Za v0)).size : Nat) : Int)).toNat = Za (v0.drop (v2).toNat)), true) :: (dP (((((((Za (v0.take (v2).toNat)) ++ (Za (bl [35]))) ++ (Za v1))).size + ((Za (bl [10, 10]))).size : Nat) : Int) ≤ IntKind.i64.max), true) :: Zh8 L0 a1 L2 v0 v1 v2 v3

noncomputable def Zfp (L0 : List Int) (a1 : Int) (L2 v0 v1 : List Int) (v2 : Int) (v3 : List RA) : List (Bool × Bool) := (dP ((((((((Za (v0.take (v2).toNat)) ++ (Za (bl [35]))) ++ (Za v1)) ++ (Za (bl [10, 10])))).size + ((Za (v0.drop (v2).toNat))).size : Nat) : Int) ≤ IntKind.i64.max), true) :: Zh9 L0 a1 L2 v0 v1 v2 v3

noncomputable def Zfq (L0 : List Int) (a1 : Int) (L2 v0 v1 : List Int) (v2 : Int) (v3 : List RA) (y6_0 y6_1 : Int) : List (Bool × Bool) := (dP (Zg7 #[Value.string (((((Za (v0.take (v2).toNat)) ++ (Za (bl [35]))) ++ (Za v1)) ++ (Za (bl [10, 10]))) ++ (Za (v0.drop (v2).toNat)))] (((inT v0 v1 v2) ++ (v0.drop (v2).toNat)))  y6_0 y6_1  1), true) :: Zfp L0 a1 L2 v0 v1 v2 v3

noncomputable def ZdN (L0 : List Int) (a1 : Int) (L2 v0 v1 : List Int) (v2 : Int) (v3 : List RA) (y6_0 y6_1 : Int) : List (Bool × Bool) := (dP (ZhV #[vs 0 0 v3.length v3.length, vn] (v3)  true 0 1), true) :: (dS (Zb Zd v3), true) :: Zfq L0 a1 L2 v0 v1 v2 v3 y6_0 y6_1

noncomputable def Zfr (L0 : List Int) (a1 : Int) (L2 v0 v1 : List Int) (v2 : Int) (v3 y6_0 : List RA) : List (Bool × Bool) := (dP (Zg8 #[Value.string (((((Za (v0.take (v2).toNat)) ++ (Za (bl [35]))) ++ (Za v1)) ++ (Za (bl [10, 10]))) ++ (Za (v0.drop (v2).toNat)))] (((inT v0 v1 v2) ++ (v0.drop (v2).toNat)))  y6_0  1), true) :: Zfp L0 a1 L2 v0 v1 v2 v3

end Ev
end Go.Proofs.YtlbbiflodemagaaDoor
