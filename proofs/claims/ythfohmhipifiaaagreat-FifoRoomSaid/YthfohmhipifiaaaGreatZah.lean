/- Part 8. -/
import Derived.Test.YthfohmhipifiaaaGreatZag
set_option linter.unusedSimpArgs false
set_option linter.unusedVariables false
/- Calls do what the plain functions say. -/
namespace Go.Proofs.YthfohmhipifiaaaGreat
open Go.IntKind (i64)
open Go.RowKit
namespace Ev
open Mach (oi ok_ite ok_none ok_bind okF okN enH en_none en_bind)
set_option linter.unusedVariables false
set_option maxRecDepth 100000
noncomputable def Zql : Zs → Value
 | .r0 w1 w2 w3 w4 w5 w6 w7 w8 w9 => Value.tuple #[Value.agg (List.toArray ([ms RC w1] ++ (rv8 w2 ++ [vi w3, ms RA w4, vi w5, vi w6]))), vi w7, Value.bool w8, vi w9]
noncomputable def Zo2 (L0 : List RI) (a1 : Int) (L2 : List RJ) (L3 : List RG) (a4 : Int) (L5 : List RG) (a6 a7 : Int) (L8 : List RG) (a9 : Int) : Zs → List (Option AObj)
 | .r0 w1 w2 w3 w4 w5 w6 w7 w8 w9 => [some (.cells (Zd RA L8) 44 true)]

def Zwt : ZJ → Nat
 | .h1m0 v4 => 1
 | .h1m1 v3 v4 v6 v7 v8 v9 v10 v11 v12 => 1
noncomputable def Zyy (L0 : List RI) (a1 : Int) (L2 : List RJ) (L3 : List RG) (a4 : Int) (L5 : List RG) (a6 a7 : Int) (L8 : List RG) (a9 : Int) : ZJ → List (Nat × Value)
 | .h1m0 v4 => [(0, ms RB L0), (1, vi a1), (3, vs 0 0 L8.length L8.length), (4, vi a9), (7, vp 1 0), (10, vp 2 0), (14, ms eI v4), (16, vn), (17, vq)]
 | .h1m1 v3 v4 v6 v7 v8 v9 v10 v11 v12 => [(0, ms RB L0), (1, vi a1), (3, vs 0 0 L8.length L8.length), (4, vi v3), (7, vp 1 0), (10, vp 2 0), (14, ms eI v4), (16, vs 3 0 1 1), (17, vi (v6 : Int))]
noncomputable def Zyz (L0 : List RI) (a1 : Int) (L2 : List RJ) (L3 : List RG) (a4 : Int) (L5 : List RG) (a6 a7 : Int) (L8 : List RG) (a9 : Int) : ZJ → List (Option AObj)
 | .h1m0 v4 => [some (.cells (Zd RA L8) 44 true), some (.cells (ZaM RA 8 [ms RC L2] L3 [vi a4, ms RA L5, vi a6, vi a7]) 153), some κa]
 | .h1m1 v3 v4 v6 v7 v8 v9 v10 v11 v12 => [some (.cells (Zd RA L8) 44 true), some (.cells (ZaM RA 8 [ms RC v7] v8 [vi v9, ms RA v10, vi v11, vi v12]) 153), some κa, some (.cells (Zd Zbx ([(Zkn L3 a4 0 L2 a4 L5 a6 a7 : R_iiCiiiiiiiiiiiiiiiiiAii)] : List R_iiCiiiiiiiiiiiiiiiiiAii)) 218)]

noncomputable def Zex : Nat → Code × List ZD
 | 1 => ZX [1, 1, 1, 0, 1, 3] (Zaw Tryz.f125) []
 | _ => (.skip, [])
def Zo3 : Nat → Bool
 | 1 => true
 | _ => true
noncomputable def Zb9 (i : Nat) : List ZD := match Zo3 i with | true => .rnd i :: (Zex i).2 | false => (Zex i).2

section
variable (L0 : List RI) (a1 : Int) (L2 : List RJ) (L3 : List RG) (a4 : Int) (L5 : List RG) (a6 a7 : Int) (L8 : List RG) (a9 : Int)
noncomputable def Zey (N : Nat) : Mach := ⟨Tryz.f125, [.cells (Zd RA L8) 44 true], ZJ, Zs, ZeT L0 a1 L2 L3 a4 L5 a6 a7 L8 a9 N, Zwt, Zex, Zo3, Zyy L0 a1 L2 L3 a4 L5 a6 a7 L8 a9, Zyz L0 a1 L2 L3 a4 L5 a6 a7 L8 a9, Zql, Zo2 L0 a1 L2 L3 a4 L5 a6 a7 L8 a9⟩

noncomputable abbrev κJ (a4 : Int) (L5 : List RG) (a6 a7 : Int) := [vi (i64.wrap (a4 + 1)), ms RA L5, vi a6, vi a7]
noncomputable abbrev κl (L2 : List RJ) (L3 : List RG) (a4 : Int) (L5 : List RG) (a6 a7 : Int) := ([ms RC L2] ++ (rv8 L3 ++ [vi a4, ms RA L5, vi a6, vi a7]))
theorem Zrg (v4 : List Int) (N : Nat) : (Zey L0 a1 L2 L3 a4 L5 a6 a7 L8 a9 N).Ok Tryz.prog Zg (.h1m0 v4 : ZJ) (ZeT L0 a1 L2 L3 a4 L5 a6 a7 L8 a9 N (.h1m0 v4 : ZJ)) := by
 show (Zey L0 a1 L2 L3 a4 L5 a6 a7 L8 a9 N).Ok Tryz.prog Zg (.h1m0 v4 : ZJ) (ZhV L0 a1 L2 L3 a4 L5 a6 a7 L8 a9 N v4)
 unfold ZhV
 refine oi fun g0 => ?_
 refine oi fun g1 => ?_
 have w2 := kG RB L0 (0 + (a4.toNat * 4)) (a4.toNat) 0 4 4 <| kB a4.toNat L0.length <| kI a4 (Int.ofNat a4.toNat) Zb
 refine ok_ite (fun g2 => ?_) fun g2 => ?_
 ·
  refine ok_ite (fun g3 => ?_) fun g3 => ?_
  ·
   exact okF (Za (oq [3, 5]) [] [(0, a4.toNat)] [(1, (RB.cel (L0.getD a4.toNat RI.z)))] []) [0] (Value.tuple #[Value.agg (List.toArray (κl L2 L3 a4 L5 a6 a7)), vq, vf, vi (i64.wrap (a9 - 2000))]) (hY g3 <| hT g2 w2) (bQ <| bE)
  have w4 := hT g2 <| kF ((L0.getD a4.toNat RI.z).a0) 18 <| kF ((L0.getD a4.toNat RI.z).a0) 17 <| kF ((L0.getD a4.toNat RI.z).a0) 16 <| kF ((L0.getD a4.toNat RI.z).a0) 15 <| hN g3 <| hT g2 w2
  refine ok_bind fun z4 c4 => ?_
  cases z4 with
  | r0 y4_0 y4_1 y4_2 =>
   exact okF (Za (oq [3, 4, 6, 8, 10, 12, 15]) [] [(0, a4.toNat)] [(1, (RB.cel (L0.getD a4.toNat RI.z)))] [(1, (ZbX c4 [0] 4).t)]) [0] (Value.tuple #[Value.agg (List.toArray ([ms RC y4_0] ++ (rv8 y4_1 ++ [vi (i64.wrap (a4 + 1)), ms RA L5, vi (i64.wrap (a6 + 1)), vi y4_2]))), vq, vT, vi (i64.wrap (a9 - 2000))]) (kK (Zcy c4 [0] 4) w4) (bQ <| bE)
  | r1 y4_0 y4_1 y4_2 =>
   refine ok_ite (fun g5 => ?_) fun g5 => ?_
   ·
    exact okF (Za (oq [3, 4, 6, 8, 10, 12, 15, 17]) [] [(0, a4.toNat)] [(1, (RB.cel (L0.getD a4.toNat RI.z)))] [(1, (Zan c4 [0] 4).t)]) [0] (Value.tuple #[Value.agg (List.toArray ([ms RC y4_0] ++ (rv8 y4_1 ++ (κJ a4 L5 a6 a7)))), vi y4_2, vT, vi (i64.wrap (a9 - 2000))]) (hD g5 <| kK (Zau c4 [0] 4) w4) (bQ <| bE)
   exact okF (Za (oq [3, 4, 6, 8, 10, 12, 15, 16]) [] [(0, a4.toNat)] [(1, (RB.cel (L0.getD a4.toNat RI.z)))] [(1, (Zan c4 [0] 4).t)]) [0] (Value.tuple #[Value.agg (List.toArray ([ms RC y4_0] ++ (rv8 y4_1 ++ (κJ a4 L5 a6 a7)))), vq, vT, vi (i64.wrap (a9 - 2000))]) (kE y4_2 0 <| kK (Zau c4 [0] 4) w4) (bQ <| bE)
 refine ok_ite (fun g3 => ?_) fun g3 => ?_
 ·
  refine ok_ite (fun g4 => ?_) fun g4 => ?_
  ·
   exact okF (Za (oq [2, 5, 7]) [] [(0, a4.toNat)] [(1, (RB.cel (L0.getD a4.toNat RI.z)))] []) [0] (Value.tuple #[Value.agg (List.toArray (κl L2 L3 a4 L5 a6 a7)), vq, vf, vi (i64.wrap (a9 - 2000))]) (hY g4 <| hT g3 <| hF g2 w2) (bQ <| bE)
  have w5 := hT g3 <| hF g2 <| kF ((L0.getD a4.toNat RI.z).a0) 18 <| kF ((L0.getD a4.toNat RI.z).a0) 17 <| kF ((L0.getD a4.toNat RI.z).a0) 16 <| kF ((L0.getD a4.toNat RI.z).a0) 15 <| hN g4 <| hT g3 <| hF g2 w2
  refine ok_bind fun z5 c5 => ?_
  cases z5 with
  | r0 y5_0 y5_1 y5_2 =>
   exact okF (Za (oq [2, 5, 6, 8, 10, 12, 14, 16, 19]) [] [(0, a4.toNat)] [(1, (RB.cel (L0.getD a4.toNat RI.z)))] [(1, (ZbX c5 [0] 4).t)]) [0] (Value.tuple #[Value.agg (List.toArray ([ms RC y5_0] ++ (rv8 y5_1 ++ [vi (i64.wrap (a4 + 1)), ms RA L5, vi (i64.wrap (a6 + 1)), vi y5_2]))), vq, vT, vi (i64.wrap (a9 - 2000))]) (kK (Zcy c5 [0] 4) w5) (bQ <| bE)
  | r1 y5_0 y5_1 y5_2 =>
   refine ok_ite (fun g6 => ?_) fun g6 => ?_
   ·
    exact okF (Za (oq [2, 5, 6, 8, 10, 12, 14, 16, 19, 21]) [] [(0, a4.toNat)] [(1, (RB.cel (L0.getD a4.toNat RI.z)))] [(1, (Zan c5 [0] 4).t)]) [0] (Value.tuple #[Value.agg (List.toArray ([ms RC y5_0] ++ (rv8 y5_1 ++ (κJ a4 L5 a6 a7)))), vi y5_2, vT, vi (i64.wrap (a9 - 2000))]) (hD g6 <| kK (Zau c5 [0] 4) w5) (bQ <| bE)
   exact okF (Za (oq [2, 5, 6, 8, 10, 12, 14, 16, 19, 20]) [] [(0, a4.toNat)] [(1, (RB.cel (L0.getD a4.toNat RI.z)))] [(1, (Zan c5 [0] 4).t)]) [0] (Value.tuple #[Value.agg (List.toArray ([ms RC y5_0] ++ (rv8 y5_1 ++ (κJ a4 L5 a6 a7)))), vq, vT, vi (i64.wrap (a9 - 2000))]) (kE y5_2 0 <| kK (Zau c5 [0] 4) w5) (bQ <| bE)
 have w4 := hF g3 <| hF g2 w2
 refine ok_ite (fun g4 => ?_) fun g4 => ?_
 ·
  refine ok_ite (fun g5 => ?_) fun g5 => ?_
  ·
   exact okF (Za (oq [2, 4, 7, 9]) [] [(0, a4.toNat)] [(1, (RB.cel (L0.getD a4.toNat RI.z)))] []) [0] (Value.tuple #[Value.agg (List.toArray (κl L2 L3 a4 L5 a6 a7)), vq, vf, vi (i64.wrap (a9 - 2000))]) (hY g5 <| hT g4 w4) (bQ <| bE)
  have w6 := hT g4 <| hF g3 <| hF g2 <| kF ((L0.getD a4.toNat RI.z).a0) 18 <| kF ((L0.getD a4.toNat RI.z).a0) 17 <| kF ((L0.getD a4.toNat RI.z).a0) 16 <| kF ((L0.getD a4.toNat RI.z).a0) 15 <| hN g5 <| hT g4 w4
  refine ok_bind fun z6 c6 => ?_
  cases z6 with
  | r0 y6_0 y6_1 y6_2 =>
   exact okF (Za (oq [2, 4, 7, 8, 10, 12, 14, 16, 18, 20, 23]) [] [(0, a4.toNat)] [(1, (RB.cel (L0.getD a4.toNat RI.z)))] [(1, (ZbX c6 [0] 4).t)]) [0] (Value.tuple #[Value.agg (List.toArray ([ms RC y6_0] ++ (rv8 y6_1 ++ [vi (i64.wrap (a4 + 1)), ms RA L5, vi (i64.wrap (a6 + 1)), vi y6_2]))), vq, vT, vi (i64.wrap (a9 - 2000))]) (kK (Zcy c6 [0] 4) w6) (bQ <| bE)
  | r1 y6_0 y6_1 y6_2 =>
   refine ok_ite (fun g7 => ?_) fun g7 => ?_
   ·
    exact okF (Za (oq [2, 4, 7, 8, 10, 12, 14, 16, 18, 20, 23, 25]) [] [(0, a4.toNat)] [(1, (RB.cel (L0.getD a4.toNat RI.z)))] [(1, (Zan c6 [0] 4).t)]) [0] (Value.tuple #[Value.agg (List.toArray ([ms RC y6_0] ++ (rv8 y6_1 ++ (κJ a4 L5 a6 a7)))), vi y6_2, vT, vi (i64.wrap (a9 - 2000))]) (hD g7 <| kK (Zau c6 [0] 4) w6) (bQ <| bE)
   exact okF (Za (oq [2, 4, 7, 8, 10, 12, 14, 16, 18, 20, 23, 24]) [] [(0, a4.toNat)] [(1, (RB.cel (L0.getD a4.toNat RI.z)))] [(1, (Zan c6 [0] 4).t)]) [0] (Value.tuple #[Value.agg (List.toArray ([ms RC y6_0] ++ (rv8 y6_1 ++ (κJ a4 L5 a6 a7)))), vq, vT, vi (i64.wrap (a9 - 2000))]) (kE y6_2 0 <| kK (Zau c6 [0] 4) w6) (bQ <| bE)
 refine ok_ite (fun g5 => ?_) fun g5 => ?_
 ·
  refine ok_ite (fun g6 => ?_) fun g6 => ?_
  ·
   exact okF (Za (oq [2, 4, 6, 9, 11]) [] [(0, a4.toNat)] [(1, (RB.cel (L0.getD a4.toNat RI.z)))] []) [0] (Value.tuple #[Value.agg (List.toArray (κl L2 L3 a4 L5 a6 a7)), vq, vf, vi (i64.wrap (a9 - 2000))]) (hY g6 <| hT g5 <| hF g4 w4) (bQ <| bE)
  have w7 := hT g5 <| hF g4 <| hF g3 <| hF g2 <| kF ((L0.getD a4.toNat RI.z).a0) 18 <| kF ((L0.getD a4.toNat RI.z).a0) 17 <| kF ((L0.getD a4.toNat RI.z).a0) 16 <| kF ((L0.getD a4.toNat RI.z).a0) 15 <| hN g6 <| hT g5 <| hF g4 w4
  refine ok_bind fun z7 c7 => ?_
  cases z7 with
  | r0 y7_0 y7_1 y7_2 =>
   exact okF (Za (oq [2, 4, 6, 9, 10, 12, 14, 16, 18, 20, 22, 24, 27]) [] [(0, a4.toNat)] [(1, (RB.cel (L0.getD a4.toNat RI.z)))] [(1, (ZbX c7 [0] 4).t)]) [0] (Value.tuple #[Value.agg (List.toArray ([ms RC y7_0] ++ (rv8 y7_1 ++ [vi (i64.wrap (a4 + 1)), ms RA L5, vi (i64.wrap (a6 + 1)), vi y7_2]))), vq, vT, vi (i64.wrap (a9 - 2000))]) (kK (Zcy c7 [0] 4) w7) (bQ <| bE)
  | r1 y7_0 y7_1 y7_2 =>
   refine ok_ite (fun g8 => ?_) fun g8 => ?_
   ·
    exact okF (Za (oq [2, 4, 6, 9, 10, 12, 14, 16, 18, 20, 22, 24, 27, 29]) [] [(0, a4.toNat)] [(1, (RB.cel (L0.getD a4.toNat RI.z)))] [(1, (Zan c7 [0] 4).t)]) [0] (Value.tuple #[Value.agg (List.toArray ([ms RC y7_0] ++ (rv8 y7_1 ++ (κJ a4 L5 a6 a7)))), vi y7_2, vT, vi (i64.wrap (a9 - 2000))]) (hD g8 <| kK (Zau c7 [0] 4) w7) (bQ <| bE)
   exact okF (Za (oq [2, 4, 6, 9, 10, 12, 14, 16, 18, 20, 22, 24, 27, 28]) [] [(0, a4.toNat)] [(1, (RB.cel (L0.getD a4.toNat RI.z)))] [(1, (Zan c7 [0] 4).t)]) [0] (Value.tuple #[Value.agg (List.toArray ([ms RC y7_0] ++ (rv8 y7_1 ++ (κJ a4 L5 a6 a7)))), vq, vT, vi (i64.wrap (a9 - 2000))]) (kE y7_2 0 <| kK (Zau c7 [0] 4) w7) (bQ <| bE)
 have w6 := hF g5 <| hF g4 w4
 refine ok_ite (fun g6 => ?_) fun g6 => ?_
 ·
  refine ok_ite (fun g7 => ?_) fun g7 => ?_
  ·
   exact okF (Za (oq [2, 4, 6, 8, 11, 13]) [] [(0, a4.toNat)] [(1, (RB.cel (L0.getD a4.toNat RI.z)))] []) [0] (Value.tuple #[Value.agg (List.toArray (κl L2 L3 a4 L5 a6 a7)), vq, vf, vi (i64.wrap (a9 - 2000))]) (hY g7 <| hT g6 w6) (bQ <| bE)
  have w8 := hF g5 <| hF g4 <| hF g3 <| hF g2 <| kF ((L0.getD a4.toNat RI.z).a0) 18 <| kF ((L0.getD a4.toNat RI.z).a0) 17 <| kF ((L0.getD a4.toNat RI.z).a0) 16 <| kF ((L0.getD a4.toNat RI.z).a0) 15 <| hN g7 <| hT g6 w6
  refine ok_bind fun z8 c8 => ?_
  cases z8 with
  | r0 y8_0 y8_1 y8_2 y8_3 =>
   refine ok_ite (fun g9 => ?_) fun g9 => ?_
   ·
    exact okF (Za (oq [2, 4, 6, 8, 11, 12, 14, 16, 18, 20, 22, 24, 26, 28, 31]) [] [(0, a4.toNat)] [(1, (RB.cel (L0.getD a4.toNat RI.z)))] [(1, (tP (ZA c8)).t)]) [0] (Value.tuple #[Value.agg (List.toArray ([ms RC L2] ++ (rv8 y8_0 ++ [vi y8_1, ms RA y8_2, vi a6, vi a7]))), vi y8_3, vT, vi (i64.wrap (a9 - 2000))]) (hD g9 <| kK (tQ (ZA c8) 4) w8) (bQ <| bE)
   exact okF (Za (oq [2, 4, 6, 8, 11, 12, 14, 16, 18, 20, 22, 24, 26, 28, 30]) [] [(0, a4.toNat)] [(1, (RB.cel (L0.getD a4.toNat RI.z)))] [(1, (tP (ZA c8)).t)]) [0] (Value.tuple #[Value.agg (List.toArray ([ms RC L2] ++ (rv8 y8_0 ++ [vi y8_1, ms RA y8_2, vi a6, vi a7]))), vq, vT, vi (i64.wrap (a9 - 2000))]) (kE y8_3 0 <| kK (tQ (ZA c8) 4) w8) (bQ <| bE)
  | r1 y8_0 y8_1 y8_2 =>
   refine ok_ite (fun g9 => ?_) fun g9 => ?_
   ·
    exact okF (Za (oq [2, 4, 6, 8, 11, 12, 14, 16, 18, 20, 22, 24, 26, 28, 31]) [] [(0, a4.toNat)] [(1, (RB.cel (L0.getD a4.toNat RI.z)))] [(1, (tP (ZA c8)).t)]) [0] (Value.tuple #[Value.agg (List.toArray ([ms RC L2] ++ (rv8 y8_0 ++ [vi y8_1, ms RA L5, vi a6, vi a7]))), vi y8_2, vT, vi (i64.wrap (a9 - 2000))]) (hD g9 <| kK (tQ (ZA c8) 4) w8) (bQ <| bE)
   exact okF (Za (oq [2, 4, 6, 8, 11, 12, 14, 16, 18, 20, 22, 24, 26, 28, 30]) [] [(0, a4.toNat)] [(1, (RB.cel (L0.getD a4.toNat RI.z)))] [(1, (tP (ZA c8)).t)]) [0] (Value.tuple #[Value.agg (List.toArray ([ms RC L2] ++ (rv8 y8_0 ++ [vi y8_1, ms RA L5, vi a6, vi a7]))), vq, vT, vi (i64.wrap (a9 - 2000))]) (kE y8_2 0 <| kK (tQ (ZA c8) 4) w8) (bQ <| bE)
 refine ok_ite (fun g7 => ?_) fun g7 => ?_
 ·
  refine ok_ite (fun g8 => ?_) fun g8 => ?_
  ·
   exact okF (Za (oq [2, 4, 6, 8, 10, 13, 15]) [] [(0, a4.toNat)] [(1, (RB.cel (L0.getD a4.toNat RI.z)))] []) [0] (Value.tuple #[Value.agg (List.toArray (κl L2 L3 a4 L5 a6 a7)), vq, vf, vi (i64.wrap (a9 - 2000))]) (hY g8 <| hT g7 <| hF g6 w6) (bQ <| bE)
  exact okN (Za (oq [2, 4, 6, 8, 10, 13, 14, 17]) [] [(0, a4.toNat)] [(1, (RB.cel (L0.getD a4.toNat RI.z)))] []) [0, 1, 2, 6] [some (ms RB L0), some (vi a1), some (vs 0 0 L8.length L8.length), some (vi (i64.wrap (a9 - 2000))), some (vp 1 0), some (vp 2 0), some (ms eI v4), some (vs 6 0 1 1), some (vi 1)] (hT g7 <| hN g8 <| hT g7 <| hF g6 w6) (tC (tC (tC (tC (tC (tC (tC (tC (tC (tE) ⟨Eq.trans (show κP = vi 1 from ci) (by rfl), by rfl⟩))))))))) (bQ <| bM (.cells (ZaM RA 8 [ms RC L2] L3 (κJ a4 L5 a6 a7)) 153) <| bM κa <| bC (o := .cells [vi a4, vq, ms RC L2, vi (L3.getD 0 RG.z).a0, vi (L3.getD 0 RG.z).a1, vi (L3.getD 1 RG.z).a0, vi (L3.getD 1 RG.z).a1, vi (L3.getD 2 RG.z).a0, vi (L3.getD 2 RG.z).a1, vi (L3.getD 3 RG.z).a0, vi (L3.getD 3 RG.z).a1, vi (L3.getD 4 RG.z).a0, vi (L3.getD 4 RG.z).a1, vi (L3.getD 5 RG.z).a0, vi (L3.getD 5 RG.z).a1, vi (L3.getD 6 RG.z).a0, vi (L3.getD 6 RG.z).a1, vi (L3.getD 7 RG.z).a0, vi (L3.getD 7 RG.z).a1, vi a4, ms RA L5, vi a6, vi a7] 218) (Zae (E := Zbx) _ (L := ([(Zkn L3 a4 0 L2 a4 L5 a6 a7 : R_iiCiiiiiiiiiiiiiiiiiAii)] : List R_iiCiiiiiiiiiiiiiiiiiAii)) _ (show ([vi a4, vq, ms RC L2, vi (L3.getD 0 RG.z).a0, vi (L3.getD 0 RG.z).a1, vi (L3.getD 1 RG.z).a0, vi (L3.getD 1 RG.z).a1, vi (L3.getD 2 RG.z).a0, vi (L3.getD 2 RG.z).a1, vi (L3.getD 3 RG.z).a0, vi (L3.getD 3 RG.z).a1, vi (L3.getD 4 RG.z).a0, vi (L3.getD 4 RG.z).a1, vi (L3.getD 5 RG.z).a0, vi (L3.getD 5 RG.z).a1, vi (L3.getD 6 RG.z).a0, vi (L3.getD 6 RG.z).a1, vi (L3.getD 7 RG.z).a0, vi (L3.getD 7 RG.z).a1, vi a4, ms RA L5, vi a6, vi a7] : List Value) = Zd Zbx ([(Zkn L3 a4 0 L2 a4 L5 a6 a7 : R_iiCiiiiiiiiiiiiiiiiiAii)] : List R_iiCiiiiiiiiiiiiiiiiiAii) from rfl)) <| bE) (show 1 ∈ Zj (Zb9 1) from by decide +kernel)
 refine ok_ite (fun g8 => ?_) fun g8 => ?_
 ·
  exact okF (Za (oq [2, 4, 6, 8, 10, 12, 15]) [] [(0, a4.toNat)] [(1, (RB.cel (L0.getD a4.toNat RI.z)))] []) [0] (Value.tuple #[Value.agg (List.toArray (κl L2 L3 a4 L5 a6 a7)), vq, vf, vi (i64.wrap (a9 - 1))]) (hY g8 <| hF g7 <| hF g6 w6) (bQ <| bE)
 have w9 := hF g7 <| hN g8 <| hF g7 <| hF g6 w6
 refine ok_ite (fun _ => ok_none) (fun g9 => ?_)
 refine ok_ite (fun _ => ok_none) (fun g10 => ?_)
 refine ok_ite (fun g11 => ?_) fun g11 => ?_
 ·
  refine ok_bind fun z12 c12 => ?_
  cases z12 with
  | r0 =>
   exact okF (Za (oq [2, 4, 6, 8, 10, 12, 14, 16, 18, 20, 23]) [] [(0, a4.toNat)] [(1, (RB.cel (L0.getD a4.toNat RI.z)))] [(1, (tP (Zo1 c12)).t)]) [0] (Value.tuple #[Value.agg (List.toArray (κl L2 L3 a4 L5 a6 a7)), vq, vf, vi (i64.wrap (a9 - 1))]) (kK (tQ (Zo1 c12) 4) <| hT g11 <| hF g10 <| hF g9 w9) (bQ <| bE)
 have w12 := hF g5 <| hF g4 <| hF g3 <| hF g2 <| hF g11 <| hF g10 <| hF g9 w9
 refine ok_bind fun z12 c12 => ?_
 cases z12 with
 | r0 y12_0 y12_1 y12_2 y12_3 =>
  refine ok_ite (fun g13 => ?_) fun g13 => ?_
  ·
   exact okF (Za (oq [2, 4, 6, 8, 10, 12, 14, 16, 18, 20, 22, 24, 26, 28, 30, 33]) [] [(0, a4.toNat)] [(1, (RB.cel (L0.getD a4.toNat RI.z)))] [(1, (tP (ZA c12)).t)]) [0] (Value.tuple #[Value.agg (List.toArray ([ms RC L2] ++ (rv8 y12_0 ++ [vi y12_1, ms RA y12_2, vi a6, vi a7]))), vi y12_3, vT, vi (i64.wrap (a9 - 1))]) (hD g13 <| kK (tQ (ZA c12) 4) w12) (bQ <| bE)
  exact okF (Za (oq [2, 4, 6, 8, 10, 12, 14, 16, 18, 20, 22, 24, 26, 28, 30, 32]) [] [(0, a4.toNat)] [(1, (RB.cel (L0.getD a4.toNat RI.z)))] [(1, (tP (ZA c12)).t)]) [0] (Value.tuple #[Value.agg (List.toArray ([ms RC L2] ++ (rv8 y12_0 ++ [vi y12_1, ms RA y12_2, vi a6, vi a7]))), vq, vT, vi (i64.wrap (a9 - 1))]) (kE y12_3 0 <| kK (tQ (ZA c12) 4) w12) (bQ <| bE)
 | r1 y12_0 y12_1 y12_2 =>
  refine ok_ite (fun g13 => ?_) fun g13 => ?_
  ·
   exact okF (Za (oq [2, 4, 6, 8, 10, 12, 14, 16, 18, 20, 22, 24, 26, 28, 30, 33]) [] [(0, a4.toNat)] [(1, (RB.cel (L0.getD a4.toNat RI.z)))] [(1, (tP (ZA c12)).t)]) [0] (Value.tuple #[Value.agg (List.toArray ([ms RC L2] ++ (rv8 y12_0 ++ [vi y12_1, ms RA L5, vi a6, vi a7]))), vi y12_2, vT, vi (i64.wrap (a9 - 1))]) (hD g13 <| kK (tQ (ZA c12) 4) w12) (bQ <| bE)
  exact okF (Za (oq [2, 4, 6, 8, 10, 12, 14, 16, 18, 20, 22, 24, 26, 28, 30, 32]) [] [(0, a4.toNat)] [(1, (RB.cel (L0.getD a4.toNat RI.z)))] [(1, (tP (ZA c12)).t)]) [0] (Value.tuple #[Value.agg (List.toArray ([ms RC L2] ++ (rv8 y12_0 ++ [vi y12_1, ms RA L5, vi a6, vi a7]))), vq, vT, vi (i64.wrap (a9 - 1))]) (kE y12_2 0 <| kK (tQ (ZA c12) 4) w12) (bQ <| bE)

noncomputable abbrev κL (v6 : Nat) := (vi (((v6 + 1) : Nat) : Int))
noncomputable abbrev κI (v9 : Int) (v10 : List RG) (v11 v12 : Int) := [vi (i64.wrap (v9 + 1)), ms RA v10, vi v11, vi v12]
noncomputable abbrev κq (v7 : List RJ) (v8 : List RG) (v9 : Int) (v10 : List RG) (v11 v12 v3 : Int) := (Value.tuple #[Value.agg (List.toArray ([ms RC v7] ++ (rv8 v8 ++ [vi v9, ms RA v10, vi v11, vi v12]))), vq, vf, vi (i64.wrap (v3 - 2000))])
noncomputable abbrev κe (L0 : List RI) (a1 : Int) (L8 : List RG) (v3 : Int) (v4 : List Int) (v6 : Nat) := [some (ms RB L0), some (vi a1), some (vs 0 0 L8.length L8.length), some (vi (i64.wrap (v3 - 2000))), some (vp 1 0), some (vp 2 0), some (ms eI v4), some (vs 3 0 1 1), some (κL v6)]
theorem Zrh (v3 : Int) (v4 : List Int) (v6 : Nat) (v7 : List RJ) (v8 : List RG) (v9 : Int) (v10 : List RG) (v11 v12 : Int) (N : Nat) : (Zey L0 a1 L2 L3 a4 L5 a6 a7 L8 a9 N).Ok Tryz.prog Zg (.h1m1 v3 v4 v6 v7 v8 v9 v10 v11 v12 : ZJ) (ZeT L0 a1 L2 L3 a4 L5 a6 a7 L8 a9 N (.h1m1 v3 v4 v6 v7 v8 v9 v10 v11 v12 : ZJ)) := by
 show (Zey L0 a1 L2 L3 a4 L5 a6 a7 L8 a9 N).Ok Tryz.prog Zg (.h1m1 v3 v4 v6 v7 v8 v9 v10 v11 v12 : ZJ) (ZhW L0 a1 L2 L3 a4 L5 a6 a7 L8 a9 N v3 v4 v6 v7 v8 v9 v10 v11 v12)
 unfold ZhW
 refine ok_ite (fun g0 => ?_) fun g0 => ?_
 ·
  refine oi fun g1 => ?_
  refine oi fun g2 => ?_
  have w3 := kG RB L0 (0 + ((v9).toNat * 4)) ((v9).toNat) 0 4 4 <| kB (v9).toNat L0.length <| kI v9 (Int.ofNat (v9).toNat) <| hY g0 Zb
  refine ok_ite (fun g3 => ?_) fun g3 => ?_
  ·
   refine ok_ite (fun g4 => ?_) fun g4 => ?_
   ·
    exact okF (Za (oq [1, 3, 5]) [] [(0, (v9).toNat)] [(1, (RB.cel (L0.getD (v9).toNat RI.z)))] []) [0] (κq v7 v8 v9 v10 v11 v12 v3) (hY g4 <| hT g3 w3) (bQ <| bE)
   have w5 := hT g3 <| kF ((L0.getD (v9).toNat RI.z).a0) 18 <| kF ((L0.getD (v9).toNat RI.z).a0) 17 <| kF ((L0.getD (v9).toNat RI.z).a0) 16 <| kF ((L0.getD (v9).toNat RI.z).a0) 15 <| hN g4 <| hT g3 w3
   refine ok_bind fun z5 c5 => ?_
   cases z5 with
   | r0 y5_0 y5_1 y5_2 =>
    exact okN (Za (oq [1, 3, 4, 6, 8, 10, 12, 15]) [(1, (((v6 + 1) : Nat) : Int))] [(0, (v9).toNat)] [(1, (RB.cel (L0.getD (v9).toNat RI.z)))] [(1, (ZbX c5 [0] 5).t)]) [0, 1, 2, 3] (κe L0 a1 L8 v3 v4 v6) (kW ((v6 : Int) + 1) (((v6 + 1) : Nat) : Int) <| kK (Zcy c5 [0] 5) w5) (tC (tC (tC (tC (tC (tC (tC (tC (tC (tE)))))))))) (bQ <| bM (.cells (ZaM RA 8 [ms RC y5_0] y5_1 [vi (i64.wrap (v9 + 1)), ms RA v10, vi (i64.wrap (v11 + 1)), vi y5_2]) 153) <| bM κa <| bR <| bE) (show 1 ∈ Zj (Zb9 1) from by decide +kernel)
   | r1 y5_0 y5_1 y5_2 =>
    refine ok_ite (fun g6 => ?_) fun g6 => ?_
    ·
     exact okF (Za (oq [1, 3, 4, 6, 8, 10, 12, 15, 17]) [] [(0, (v9).toNat)] [(1, (RB.cel (L0.getD (v9).toNat RI.z)))] [(1, (Zan c5 [0] 5).t)]) [0] (Value.tuple #[Value.agg (List.toArray ([ms RC y5_0] ++ (rv8 y5_1 ++ (κI v9 v10 v11 v12)))), vi y5_2, vT, vi (i64.wrap (v3 - 2000))]) (hD g6 <| kK (Zau c5 [0] 5) w5) (bQ <| bE)
    exact okN (Za (oq [1, 3, 4, 6, 8, 10, 12, 15, 16]) [(1, (((v6 + 1) : Nat) : Int))] [(0, (v9).toNat)] [(1, (RB.cel (L0.getD (v9).toNat RI.z)))] [(1, (Zan c5 [0] 5).t)]) [0, 1, 2, 3] (κe L0 a1 L8 v3 v4 v6) (kW ((v6 : Int) + 1) (((v6 + 1) : Nat) : Int) <| kE y5_2 0 <| kK (Zau c5 [0] 5) w5) (tC (tC (tC (tC (tC (tC (tC (tC (tC (tE)))))))))) (bQ <| bM (.cells (ZaM RA 8 [ms RC y5_0] y5_1 (κI v9 v10 v11 v12)) 153) <| bM κa <| bR <| bE) (show 1 ∈ Zj (Zb9 1) from by decide +kernel)
  refine ok_ite (fun g4 => ?_) fun g4 => ?_
  ·
   refine ok_ite (fun g5 => ?_) fun g5 => ?_
   ·
    exact okF (Za (oq [1, 2, 5, 7]) [] [(0, (v9).toNat)] [(1, (RB.cel (L0.getD (v9).toNat RI.z)))] []) [0] (κq v7 v8 v9 v10 v11 v12 v3) (hY g5 <| hT g4 <| hF g3 w3) (bQ <| bE)
   have w6 := hT g4 <| hF g3 <| kF ((L0.getD (v9).toNat RI.z).a0) 18 <| kF ((L0.getD (v9).toNat RI.z).a0) 17 <| kF ((L0.getD (v9).toNat RI.z).a0) 16 <| kF ((L0.getD (v9).toNat RI.z).a0) 15 <| hN g5 <| hT g4 <| hF g3 w3
   refine ok_bind fun z6 c6 => ?_
   cases z6 with
   | r0 y6_0 y6_1 y6_2 =>
    exact okN (Za (oq [1, 2, 5, 6, 8, 10, 12, 14, 16, 19]) [(1, (((v6 + 1) : Nat) : Int))] [(0, (v9).toNat)] [(1, (RB.cel (L0.getD (v9).toNat RI.z)))] [(1, (ZbX c6 [0] 5).t)]) [0, 1, 2, 3] (κe L0 a1 L8 v3 v4 v6) (kW ((v6 : Int) + 1) (((v6 + 1) : Nat) : Int) <| kK (Zcy c6 [0] 5) w6) (tC (tC (tC (tC (tC (tC (tC (tC (tC (tE)))))))))) (bQ <| bM (.cells (ZaM RA 8 [ms RC y6_0] y6_1 [vi (i64.wrap (v9 + 1)), ms RA v10, vi (i64.wrap (v11 + 1)), vi y6_2]) 153) <| bM κa <| bR <| bE) (show 1 ∈ Zj (Zb9 1) from by decide +kernel)
   | r1 y6_0 y6_1 y6_2 =>
    refine ok_ite (fun g7 => ?_) fun g7 => ?_
    ·
     exact okF (Za (oq [1, 2, 5, 6, 8, 10, 12, 14, 16, 19, 21]) [] [(0, (v9).toNat)] [(1, (RB.cel (L0.getD (v9).toNat RI.z)))] [(1, (Zan c6 [0] 5).t)]) [0] (Value.tuple #[Value.agg (List.toArray ([ms RC y6_0] ++ (rv8 y6_1 ++ (κI v9 v10 v11 v12)))), vi y6_2, vT, vi (i64.wrap (v3 - 2000))]) (hD g7 <| kK (Zau c6 [0] 5) w6) (bQ <| bE)
    exact okN (Za (oq [1, 2, 5, 6, 8, 10, 12, 14, 16, 19, 20]) [(1, (((v6 + 1) : Nat) : Int))] [(0, (v9).toNat)] [(1, (RB.cel (L0.getD (v9).toNat RI.z)))] [(1, (Zan c6 [0] 5).t)]) [0, 1, 2, 3] (κe L0 a1 L8 v3 v4 v6) (kW ((v6 : Int) + 1) (((v6 + 1) : Nat) : Int) <| kE y6_2 0 <| kK (Zau c6 [0] 5) w6) (tC (tC (tC (tC (tC (tC (tC (tC (tC (tE)))))))))) (bQ <| bM (.cells (ZaM RA 8 [ms RC y6_0] y6_1 (κI v9 v10 v11 v12)) 153) <| bM κa <| bR <| bE) (show 1 ∈ Zj (Zb9 1) from by decide +kernel)
  have w5 := hF g4 <| hF g3 w3
  refine ok_ite (fun g5 => ?_) fun g5 => ?_
  ·
   refine ok_ite (fun g6 => ?_) fun g6 => ?_
   ·
    exact okF (Za (oq [1, 2, 4, 7, 9]) [] [(0, (v9).toNat)] [(1, (RB.cel (L0.getD (v9).toNat RI.z)))] []) [0] (κq v7 v8 v9 v10 v11 v12 v3) (hY g6 <| hT g5 w5) (bQ <| bE)
   have w7 := hT g5 <| hF g4 <| hF g3 <| kF ((L0.getD (v9).toNat RI.z).a0) 18 <| kF ((L0.getD (v9).toNat RI.z).a0) 17 <| kF ((L0.getD (v9).toNat RI.z).a0) 16 <| kF ((L0.getD (v9).toNat RI.z).a0) 15 <| hN g6 <| hT g5 w5
   refine ok_bind fun z7 c7 => ?_
   cases z7 with
   | r0 y7_0 y7_1 y7_2 =>
    exact okN (Za (oq [1, 2, 4, 7, 8, 10, 12, 14, 16, 18, 20, 23]) [(1, (((v6 + 1) : Nat) : Int))] [(0, (v9).toNat)] [(1, (RB.cel (L0.getD (v9).toNat RI.z)))] [(1, (ZbX c7 [0] 5).t)]) [0, 1, 2, 3] (κe L0 a1 L8 v3 v4 v6) (kW ((v6 : Int) + 1) (((v6 + 1) : Nat) : Int) <| kK (Zcy c7 [0] 5) w7) (tC (tC (tC (tC (tC (tC (tC (tC (tC (tE)))))))))) (bQ <| bM (.cells (ZaM RA 8 [ms RC y7_0] y7_1 [vi (i64.wrap (v9 + 1)), ms RA v10, vi (i64.wrap (v11 + 1)), vi y7_2]) 153) <| bM κa <| bR <| bE) (show 1 ∈ Zj (Zb9 1) from by decide +kernel)
   | r1 y7_0 y7_1 y7_2 =>
    refine ok_ite (fun g8 => ?_) fun g8 => ?_
    ·
     exact okF (Za (oq [1, 2, 4, 7, 8, 10, 12, 14, 16, 18, 20, 23, 25]) [] [(0, (v9).toNat)] [(1, (RB.cel (L0.getD (v9).toNat RI.z)))] [(1, (Zan c7 [0] 5).t)]) [0] (Value.tuple #[Value.agg (List.toArray ([ms RC y7_0] ++ (rv8 y7_1 ++ (κI v9 v10 v11 v12)))), vi y7_2, vT, vi (i64.wrap (v3 - 2000))]) (hD g8 <| kK (Zau c7 [0] 5) w7) (bQ <| bE)
    exact okN (Za (oq [1, 2, 4, 7, 8, 10, 12, 14, 16, 18, 20, 23, 24]) [(1, (((v6 + 1) : Nat) : Int))] [(0, (v9).toNat)] [(1, (RB.cel (L0.getD (v9).toNat RI.z)))] [(1, (Zan c7 [0] 5).t)]) [0, 1, 2, 3] (κe L0 a1 L8 v3 v4 v6) (kW ((v6 : Int) + 1) (((v6 + 1) : Nat) : Int) <| kE y7_2 0 <| kK (Zau c7 [0] 5) w7) (tC (tC (tC (tC (tC (tC (tC (tC (tC (tE)))))))))) (bQ <| bM (.cells (ZaM RA 8 [ms RC y7_0] y7_1 (κI v9 v10 v11 v12)) 153) <| bM κa <| bR <| bE) (show 1 ∈ Zj (Zb9 1) from by decide +kernel)
  refine ok_ite (fun g6 => ?_) fun g6 => ?_
  ·
   refine ok_ite (fun g7 => ?_) fun g7 => ?_
   ·
    exact okF (Za (oq [1, 2, 4, 6, 9, 11]) [] [(0, (v9).toNat)] [(1, (RB.cel (L0.getD (v9).toNat RI.z)))] []) [0] (κq v7 v8 v9 v10 v11 v12 v3) (hY g7 <| hT g6 <| hF g5 w5) (bQ <| bE)
   have w8 := hT g6 <| hF g5 <| hF g4 <| hF g3 <| kF ((L0.getD (v9).toNat RI.z).a0) 18 <| kF ((L0.getD (v9).toNat RI.z).a0) 17 <| kF ((L0.getD (v9).toNat RI.z).a0) 16 <| kF ((L0.getD (v9).toNat RI.z).a0) 15 <| hN g7 <| hT g6 <| hF g5 w5
   refine ok_bind fun z8 c8 => ?_
   cases z8 with
   | r0 y8_0 y8_1 y8_2 =>
    exact okN (Za (oq [1, 2, 4, 6, 9, 10, 12, 14, 16, 18, 20, 22, 24, 27]) [(1, (((v6 + 1) : Nat) : Int))] [(0, (v9).toNat)] [(1, (RB.cel (L0.getD (v9).toNat RI.z)))] [(1, (ZbX c8 [0] 5).t)]) [0, 1, 2, 3] (κe L0 a1 L8 v3 v4 v6) (kW ((v6 : Int) + 1) (((v6 + 1) : Nat) : Int) <| kK (Zcy c8 [0] 5) w8) (tC (tC (tC (tC (tC (tC (tC (tC (tC (tE)))))))))) (bQ <| bM (.cells (ZaM RA 8 [ms RC y8_0] y8_1 [vi (i64.wrap (v9 + 1)), ms RA v10, vi (i64.wrap (v11 + 1)), vi y8_2]) 153) <| bM κa <| bR <| bE) (show 1 ∈ Zj (Zb9 1) from by decide +kernel)
   | r1 y8_0 y8_1 y8_2 =>
    refine ok_ite (fun g9 => ?_) fun g9 => ?_
    ·
     exact okF (Za (oq [1, 2, 4, 6, 9, 10, 12, 14, 16, 18, 20, 22, 24, 27, 29]) [] [(0, (v9).toNat)] [(1, (RB.cel (L0.getD (v9).toNat RI.z)))] [(1, (Zan c8 [0] 5).t)]) [0] (Value.tuple #[Value.agg (List.toArray ([ms RC y8_0] ++ (rv8 y8_1 ++ (κI v9 v10 v11 v12)))), vi y8_2, vT, vi (i64.wrap (v3 - 2000))]) (hD g9 <| kK (Zau c8 [0] 5) w8) (bQ <| bE)
    exact okN (Za (oq [1, 2, 4, 6, 9, 10, 12, 14, 16, 18, 20, 22, 24, 27, 28]) [(1, (((v6 + 1) : Nat) : Int))] [(0, (v9).toNat)] [(1, (RB.cel (L0.getD (v9).toNat RI.z)))] [(1, (Zan c8 [0] 5).t)]) [0, 1, 2, 3] (κe L0 a1 L8 v3 v4 v6) (kW ((v6 : Int) + 1) (((v6 + 1) : Nat) : Int) <| kE y8_2 0 <| kK (Zau c8 [0] 5) w8) (tC (tC (tC (tC (tC (tC (tC (tC (tC (tE)))))))))) (bQ <| bM (.cells (ZaM RA 8 [ms RC y8_0] y8_1 (κI v9 v10 v11 v12)) 153) <| bM κa <| bR <| bE) (show 1 ∈ Zj (Zb9 1) from by decide +kernel)
  have w7 := hF g6 <| hF g5 w5
  refine ok_ite (fun g7 => ?_) fun g7 => ?_
  ·
   refine ok_ite (fun g8 => ?_) fun g8 => ?_
   ·
    exact okF (Za (oq [1, 2, 4, 6, 8, 11, 13]) [] [(0, (v9).toNat)] [(1, (RB.cel (L0.getD (v9).toNat RI.z)))] []) [0] (κq v7 v8 v9 v10 v11 v12 v3) (hY g8 <| hT g7 w7) (bQ <| bE)
   have w9 := hF g6 <| hF g5 <| hF g4 <| hF g3 <| kF ((L0.getD (v9).toNat RI.z).a0) 18 <| kF ((L0.getD (v9).toNat RI.z).a0) 17 <| kF ((L0.getD (v9).toNat RI.z).a0) 16 <| kF ((L0.getD (v9).toNat RI.z).a0) 15 <| hN g8 <| hT g7 w7
   refine ok_bind fun z9 c9 => ?_
   cases z9 with
   | r0 y9_0 y9_1 y9_2 y9_3 =>
    refine ok_ite (fun g10 => ?_) fun g10 => ?_
    ·
     exact okF (Za (oq [1, 2, 4, 6, 8, 11, 12, 14, 16, 18, 20, 22, 24, 26, 28, 31]) [] [(0, (v9).toNat)] [(1, (RB.cel (L0.getD (v9).toNat RI.z)))] [(1, (tP (ZA c9)).t)]) [0] (Value.tuple #[Value.agg (List.toArray ([ms RC v7] ++ (rv8 y9_0 ++ [vi y9_1, ms RA y9_2, vi v11, vi v12]))), vi y9_3, vT, vi (i64.wrap (v3 - 2000))]) (hD g10 <| kK (tQ (ZA c9) 5) w9) (bQ <| bE)
    exact okN (Za (oq [1, 2, 4, 6, 8, 11, 12, 14, 16, 18, 20, 22, 24, 26, 28, 30]) [(1, (((v6 + 1) : Nat) : Int))] [(0, (v9).toNat)] [(1, (RB.cel (L0.getD (v9).toNat RI.z)))] [(1, (tP (ZA c9)).t)]) [0, 1, 2, 3] (κe L0 a1 L8 v3 v4 v6) (kW ((v6 : Int) + 1) (((v6 + 1) : Nat) : Int) <| kE y9_3 0 <| kK (tQ (ZA c9) 5) w9) (tC (tC (tC (tC (tC (tC (tC (tC (tC (tE)))))))))) (bQ <| bM (.cells (ZaM RA 8 [ms RC v7] y9_0 [vi y9_1, ms RA y9_2, vi v11, vi v12]) 153) <| bM κa <| bR <| bE) (show 1 ∈ Zj (Zb9 1) from by decide +kernel)
   | r1 y9_0 y9_1 y9_2 =>
    refine ok_ite (fun g10 => ?_) fun g10 => ?_
    ·
     exact okF (Za (oq [1, 2, 4, 6, 8, 11, 12, 14, 16, 18, 20, 22, 24, 26, 28, 31]) [] [(0, (v9).toNat)] [(1, (RB.cel (L0.getD (v9).toNat RI.z)))] [(1, (tP (ZA c9)).t)]) [0] (Value.tuple #[Value.agg (List.toArray ([ms RC v7] ++ (rv8 y9_0 ++ [vi y9_1, ms RA v10, vi v11, vi v12]))), vi y9_2, vT, vi (i64.wrap (v3 - 2000))]) (hD g10 <| kK (tQ (ZA c9) 5) w9) (bQ <| bE)
    exact okN (Za (oq [1, 2, 4, 6, 8, 11, 12, 14, 16, 18, 20, 22, 24, 26, 28, 30]) [(1, (((v6 + 1) : Nat) : Int))] [(0, (v9).toNat)] [(1, (RB.cel (L0.getD (v9).toNat RI.z)))] [(1, (tP (ZA c9)).t)]) [0, 1, 2, 3] (κe L0 a1 L8 v3 v4 v6) (kW ((v6 : Int) + 1) (((v6 + 1) : Nat) : Int) <| kE y9_2 0 <| kK (tQ (ZA c9) 5) w9) (tC (tC (tC (tC (tC (tC (tC (tC (tC (tE)))))))))) (bQ <| bM (.cells (ZaM RA 8 [ms RC v7] y9_0 [vi y9_1, ms RA v10, vi v11, vi v12]) 153) <| bM κa <| bR <| bE) (show 1 ∈ Zj (Zb9 1) from by decide +kernel)
  refine ok_ite (fun g8 => ?_) fun g8 => ?_
  ·
   refine oi fun g9 => ?_
   exact okF (Za (oq [1, 2, 4, 6, 8, 10, 13, 15]) [] [(0, (v9).toNat)] [(1, (RB.cel (L0.getD (v9).toNat RI.z)))] []) [0] (κq v7 v8 v9 v10 v11 v12 v3) (hY g9 <| hT g8 <| hF g7 w7) (bQ <| bE)
  refine ok_ite (fun g9 => ?_) fun g9 => ?_
  ·
   exact okF (Za (oq [1, 2, 4, 6, 8, 10, 12, 15]) [] [(0, (v9).toNat)] [(1, (RB.cel (L0.getD (v9).toNat RI.z)))] []) [0] (Value.tuple #[Value.agg (List.toArray ([ms RC v7] ++ (rv8 v8 ++ [vi v9, ms RA v10, vi v11, vi v12]))), vq, vf, vi (i64.wrap (v3 - 1))]) (hY g9 <| hF g8 <| hF g7 w7) (bQ <| bE)
  have w10 := hF g8 <| hN g9 <| hF g8 <| hF g7 w7
  refine ok_ite (fun _ => ok_none) (fun g10 => ?_)
  refine ok_ite (fun g11 => ?_) fun g11 => ?_
  ·
   exact okF (Za (oq [1, 2, 4, 6, 8, 10, 12, 14, 16, 18, 21]) [] [(0, (v9).toNat)] [(1, (RB.cel (L0.getD (v9).toNat RI.z)))] []) [0] (Value.tuple #[Value.agg (List.toArray ([ms RC v7] ++ (rv8 v8 ++ (κI v9 v10 v11 v12)))), vq, vT, vi (i64.wrap (v3 - 1))]) (hT g11 <| hF g10 w10) (bQ <| bE)
  refine ok_ite (fun g12 => ?_) fun g12 => ?_
  ·
   refine ok_bind fun z13 c13 => ?_
   cases z13 with
   | r0 =>
    exact okF (Za (oq [1, 2, 4, 6, 8, 10, 12, 14, 16, 18, 20, 23]) [] [(0, (v9).toNat)] [(1, (RB.cel (L0.getD (v9).toNat RI.z)))] [(1, (ZlR c13 [3] 5).t)]) [0] (Value.tuple #[Value.agg (List.toArray ([ms RC v7] ++ (rv8 v8 ++ [vi v9, ms RA v10, vi v11, vi v12]))), vq, vf, vi (i64.wrap (v3 - 1))]) (kK (ZtP c13 [3] 5) <| hT g12 <| hF g11 <| hF g10 w10) (bQ <| bE)
  have w13 := hF g6 <| hF g5 <| hF g4 <| hF g3 <| hF g12 <| hF g11 <| hF g10 w10
  refine ok_bind fun z13 c13 => ?_
  cases z13 with
  | r0 y13_0 y13_1 y13_2 y13_3 =>
   refine ok_ite (fun g14 => ?_) fun g14 => ?_
   ·
    exact okF (Za (oq [1, 2, 4, 6, 8, 10, 12, 14, 16, 18, 20, 22, 24, 26, 28, 30, 33]) [] [(0, (v9).toNat)] [(1, (RB.cel (L0.getD (v9).toNat RI.z)))] [(1, (tP (ZA c13)).t)]) [0] (Value.tuple #[Value.agg (List.toArray ([ms RC v7] ++ (rv8 y13_0 ++ [vi y13_1, ms RA y13_2, vi v11, vi v12]))), vi y13_3, vT, vi (i64.wrap (v3 - 1))]) (hD g14 <| kK (tQ (ZA c13) 5) w13) (bQ <| bE)
   exact okN (Za (oq [1, 2, 4, 6, 8, 10, 12, 14, 16, 18, 20, 22, 24, 26, 28, 30, 32]) [(1, (((v6 + 1) : Nat) : Int))] [(0, (v9).toNat)] [(1, (RB.cel (L0.getD (v9).toNat RI.z)))] [(1, (tP (ZA c13)).t)]) [0, 1, 2, 3] [some (ms RB L0), some (vi a1), some (vs 0 0 L8.length L8.length), some (vi (i64.wrap (v3 - 1))), some (vp 1 0), some (vp 2 0), some (ms eI v4), some (vs 3 0 1 1), some (κL v6)] (kW ((v6 : Int) + 1) (((v6 + 1) : Nat) : Int) <| kE y13_3 0 <| kK (tQ (ZA c13) 5) w13) (tC (tC (tC (tC (tC (tC (tC (tC (tC (tE)))))))))) (bQ <| bM (.cells (ZaM RA 8 [ms RC v7] y13_0 [vi y13_1, ms RA y13_2, vi v11, vi v12]) 153) <| bM κa <| bR <| bE) (show 1 ∈ Zj (Zb9 1) from by decide +kernel)
  | r1 y13_0 y13_1 y13_2 =>
   refine ok_ite (fun g14 => ?_) fun g14 => ?_
   ·
    exact okF (Za (oq [1, 2, 4, 6, 8, 10, 12, 14, 16, 18, 20, 22, 24, 26, 28, 30, 33]) [] [(0, (v9).toNat)] [(1, (RB.cel (L0.getD (v9).toNat RI.z)))] [(1, (tP (ZA c13)).t)]) [0] (Value.tuple #[Value.agg (List.toArray ([ms RC v7] ++ (rv8 y13_0 ++ [vi y13_1, ms RA v10, vi v11, vi v12]))), vi y13_2, vT, vi (i64.wrap (v3 - 1))]) (hD g14 <| kK (tQ (ZA c13) 5) w13) (bQ <| bE)
   exact okN (Za (oq [1, 2, 4, 6, 8, 10, 12, 14, 16, 18, 20, 22, 24, 26, 28, 30, 32]) [(1, (((v6 + 1) : Nat) : Int))] [(0, (v9).toNat)] [(1, (RB.cel (L0.getD (v9).toNat RI.z)))] [(1, (tP (ZA c13)).t)]) [0, 1, 2, 3] [some (ms RB L0), some (vi a1), some (vs 0 0 L8.length L8.length), some (vi (i64.wrap (v3 - 1))), some (vp 1 0), some (vp 2 0), some (ms eI v4), some (vs 3 0 1 1), some (κL v6)] (kW ((v6 : Int) + 1) (((v6 + 1) : Nat) : Int) <| kE y13_2 0 <| kK (tQ (ZA c13) 5) w13) (tC (tC (tC (tC (tC (tC (tC (tC (tC (tE)))))))))) (bQ <| bM (.cells (ZaM RA 8 [ms RC v7] y13_0 [vi y13_1, ms RA v10, vi v11, vi v12]) 153) <| bM κa <| bR <| bE) (show 1 ∈ Zj (Zb9 1) from by decide +kernel)
 exact okF (Za (oq [0]) [] [] [] []) [0] (Value.tuple #[Value.agg (List.toArray ([ms RC v7] ++ (rv8 v8 ++ [vi v9, ms RA v10, vi v11, vi v12]))), vq, vf, vi v3]) (hN g0 Zb) (bQ <| bE)

theorem Zva (N : Nat) : (Zey L0 a1 L2 L3 a4 L5 a6 a7 L8 a9 N).Enter Tryz.prog Zg #[ms RB L0, vi a1, Value.agg (List.toArray (κl L2 L3 a4 L5 a6 a7)), vs 0 0 L8.length L8.length, vi a9] (ZdL L0 a1 L2 L3 a4 L5 a6 a7 L8 a9 N) := by
 unfold ZdL
 refine en_bind (fun z0 c0 => ?_)
 cases z0 with
 | r0 _ =>
  exact en_none
 | r1 y0_0 =>
  exact enH (Zex 1) (Za (oq []) [] [] [] [(0, (tP (Zoo c0)).t)]) [0, 1, 2] [some (ms RB L0), some (vi a1), some (vs 0 0 L8.length L8.length), some (vi a9), some (vp 1 0), some (vp 2 0), some (ms eI y0_0), some (vn), some (vq)] (kK (tQ (Zoo c0) 3) Zb) (tC (tC (tC (tC (tC (tC (tC (tC (tC (tE)))))))))) (bQ <| bM (.cells (ZaM RA 8 [ms RC L2] L3 [vi a4, ms RA L5, vi a6, vi a7]) 153) <| bM κa <| bE) (show Zj (Zex 1).2 = [] from rfl)

theorem Zs3 (N : Nat) (r : Zs) (h : Zfa L0 a1 L2 L3 a4 L5 a6 a7 L8 a9 N = some r) : LSpec Tryz.prog 125 #[ms RB L0, vi a1, Value.agg (List.toArray (κl L2 L3 a4 L5 a6 a7)), vs 0 0 L8.length L8.length, vi a9] [.cells (Zd RA L8) 44 true] (Zql r) (Zo2 L0 a1 L2 L3 a4 L5 a6 a7 L8 a9 r) :=
 Mach.spec ZB (Zey L0 a1 L2 L3 a4 L5 a6 a7 L8 a9 N) Tryz.func125 (by kernel_rfl) (by kernel_rfl) (fun x => by cases x <;> exact Zu _ rfl) (fun r => by cases r <;> exact Zu _ rfl) (fun x => by
  cases x with
  | h1m0 _ => exact fun _ => (show ¬ (1 ∈ Zj (Zex 1).2) from by decide +kernel)
  | h1m1 _ _ _ _ _ _ _ _ _ => exact fun _ => (show ¬ (1 ∈ Zj (Zex 1).2) from by decide +kernel)
  ) (fun x => (show (Zey L0 a1 L2 L3 a4 L5 a6 a7 L8 a9 N).Ok Tryz.prog Zg x (ZeT L0 a1 L2 L3 a4 L5 a6 a7 L8 a9 N x) from by
  cases x with
  | h1m0 v4 => exact Zrg L0 a1 L2 L3 a4 L5 a6 a7 L8 a9 v4 N
  | h1m1 v3 v4 v6 v7 v8 v9 v10 v11 v12 => exact Zrh L0 a1 L2 L3 a4 L5 a6 a7 L8 a9 v3 v4 v6 v7 v8 v9 v10 v11 v12 N
  )) (Zva L0 a1 L2 L3 a4 L5 a6 a7 L8 a9 N) (n := N) h

end
noncomputable def Zo4 {L0 : List RI} {a1 : Int} {L2 : List RJ} {L3 : List RG} {a4 : Int} {L5 : List RG} {a6 a7 : Int} {L8 : List RG} {a9 : Int} {w1 : List RJ} {w2 : List RG} {w3 : Int} {w4 : List RG} {w5 w6 w7 : Int} {w8 : Bool} {w9 : Int} {N : Nat} (h : Zfa L0 a1 L2 L3 a4 L5 a6 a7 L8 a9 N = some (.r0 w1 w2 w3 w4 w5 w6 w7 w8 w9)) (ks : List Nat) (n : Nat) : ToldS := ⟨#[ms RB L0, vi a1, Value.agg (List.toArray (κl L2 L3 a4 L5 a6 a7)), vs (nth ks 0) 0 L8.length L8.length, vi a9], [((nth ks 0), .cells (Zd RA L8) 44 true)], Value.tuple #[Value.agg (List.toArray ([ms RC w1] ++ (rv8 w2 ++ [vi w3, ms RA w4, vi w5, vi w6]))), vi w7, Value.bool w8, vi w9], [], 0⟩

theorem Zwu {L0 : List RI} {a1 : Int} {L2 : List RJ} {L3 : List RG} {a4 : Int} {L5 : List RG} {a6 a7 : Int} {L8 : List RG} {a9 : Int} {w1 : List RJ} {w2 : List RG} {w3 : Int} {w4 : List RG} {w5 w6 w7 : Int} {w8 : Bool} {w9 : Int} {N : Nat} (h : Zfa L0 a1 L2 L3 a4 L5 a6 a7 L8 a9 N = some (.r0 w1 w2 w3 w4 w5 w6 w7 w8 w9)) (ks : List Nat) (n : Nat) (hk : ks.length = 1 := by rfl) (hnd : ks.Nodup := by decide +kernel) (hlt : ∀ k ∈ ks, k < n := by decide +kernel) : (Zo4 (N := N)  h ks n).P Tryz.prog 125 n :=
 match ks, hk, hnd, hlt with
 | [k0], _, hnd, hlt => ZcO (show LSpec Tryz.prog 125 #[ms RB L0, vi a1, Value.agg (List.toArray (κl L2 L3 a4 L5 a6 a7)), vs 0 0 L8.length L8.length, vi a9] [.cells (Zd RA L8) 44 true] (Value.tuple #[Value.agg (List.toArray ([ms RC w1] ++ (rv8 w2 ++ [vi w3, ms RA w4, vi w5, vi w6]))), vi w7, Value.bool w8, vi w9]) [some (.cells (Zd RA L8) 44 true)] from Zs3 L0 a1 L2 L3 a4 L5 a6 a7 L8 a9 N _ h) _ n [] hnd hlt

open Mach (oi ok_ite ok_bind okF okN okH enF enH en_ite en_none en_bind)
set_option linter.unusedVariables false
set_option maxRecDepth 100000
noncomputable def Zqm : Zeo → Value
 | .r0 w1 w2 w3 w4 w5 w6 w7 w8 => Value.tuple #[Value.agg (List.toArray ([ms RC w1] ++ (rv8 w2 ++ [vi w3, ms RA w4, vi w5, vi w6]))), vi w7, Value.bool w8]
noncomputable def Zo5 (L0 : List RI) (a1 : Int) (L2 : List RJ) (L3 : List RG) (a4 : Int) (L5 : List RG) (a6 a7 : Int) (L8 : List RG) : Zeo → List (Option AObj)
 | .r0 w1 w2 w3 w4 w5 w6 w7 w8 => [some (.cells (Zd RA L8) 44 true)]

section
variable (L0 : List RI) (a1 : Int) (L2 : List RJ) (L3 : List RG) (a4 : Int) (L5 : List RG) (a6 a7 : Int) (L8 : List RG) (N : Nat)
theorem Zvb : Fx Tryz.prog Zg Tryz.f103 [.cells (Zd RA L8) 44 true] #[ms RB L0, vi a1, Value.agg (List.toArray (κl L2 L3 a4 L5 a6 a7)), vs 0 0 L8.length L8.length] (Zqm) (Zo5 L0 a1 L2 L3 a4 L5 a6 a7 L8) (ZbD L0 a1 L2 L3 a4 L5 a6 a7 L8 N) := by
 unfold ZbD
 refine Zz (fun z0 c0 => ?_)
 cases z0 with
 | r0 y0_0 y0_1 y0_2 y0_3 y0_4 y0_5 y0_6 y0_7 y0_8 =>
  exact fxC (Za (oq []) [] [] [] [(0, (Zo4 c0 [0] 3).t)]) [0] (Value.tuple #[Value.agg (List.toArray ([ms RC y0_0] ++ (rv8 y0_1 ++ [vi y0_2, ms RA y0_3, vi y0_4, vi y0_5]))), vi y0_6, Value.bool y0_7]) (kK (Zwu c0 [0] 3) Zb) (bQ <| bE)

theorem Zs4 (r : Zeo) (h : ZbD L0 a1 L2 L3 a4 L5 a6 a7 L8 N = some r) : LSpec Tryz.prog 103 #[ms RB L0, vi a1, Value.agg (List.toArray (κl L2 L3 a4 L5 a6 a7)), vs 0 0 L8.length L8.length] [.cells (Zd RA L8) 44 true] (Zqm r) (Zo5 L0 a1 L2 L3 a4 L5 a6 a7 L8 r) :=
 Zax ZB Tryz.func103 (by kernel_rfl) (by kernel_rfl) (fun r => by cases r <;> exact Zu _ rfl) (Zvb L0 a1 L2 L3 a4 L5 a6 a7 L8 N) h

end
noncomputable abbrev κU (w1 : List RJ) (w2 : List RG) (w3 : Int) (w4 : List RG) (w5 w6 w7 : Int) (w8 : Bool) := #[Value.agg (List.toArray ([ms RC w1] ++ (rv8 w2 ++ [vi w3, ms RA w4, vi w5, vi w6]))), vi w7, Value.bool w8]
noncomputable def Zo6 {L0 : List RI} {a1 : Int} {L2 : List RJ} {L3 : List RG} {a4 : Int} {L5 : List RG} {a6 a7 : Int} {L8 : List RG} {w1 : List RJ} {w2 : List RG} {w3 : Int} {w4 : List RG} {w5 w6 w7 : Int} {w8 : Bool} {N : Nat} (h : ZbD L0 a1 L2 L3 a4 L5 a6 a7 L8 N = some (.r0 w1 w2 w3 w4 w5 w6 w7 w8)) (ks : List Nat) (n : Nat) : ToldS := ⟨#[ms RB L0, vi a1, Value.agg (List.toArray (κl L2 L3 a4 L5 a6 a7)), vs (nth ks 0) 0 L8.length L8.length], [((nth ks 0), .cells (Zd RA L8) 44 true)], Value.tuple (κU w1 w2 w3 w4 w5 w6 w7 w8), [], 0⟩

theorem Zwv {L0 : List RI} {a1 : Int} {L2 : List RJ} {L3 : List RG} {a4 : Int} {L5 : List RG} {a6 a7 : Int} {L8 : List RG} {w1 : List RJ} {w2 : List RG} {w3 : Int} {w4 : List RG} {w5 w6 w7 : Int} {w8 : Bool} {N : Nat} (h : ZbD L0 a1 L2 L3 a4 L5 a6 a7 L8 N = some (.r0 w1 w2 w3 w4 w5 w6 w7 w8)) (ks : List Nat) (n : Nat) (hk : ks.length = 1 := by rfl) (hnd : ks.Nodup := by decide +kernel) (hlt : ∀ k ∈ ks, k < n := by decide +kernel) : (Zo6 (N := N)  h ks n).P Tryz.prog 103 n :=
 match ks, hk, hnd, hlt with
 | [k0], _, hnd, hlt => ZcO (show LSpec Tryz.prog 103 #[ms RB L0, vi a1, Value.agg (List.toArray (κl L2 L3 a4 L5 a6 a7)), vs 0 0 L8.length L8.length] [.cells (Zd RA L8) 44 true] (Value.tuple (κU w1 w2 w3 w4 w5 w6 w7 w8)) [some (.cells (Zd RA L8) 44 true)] from Zs4 L0 a1 L2 L3 a4 L5 a6 a7 L8 N _ h) _ n [] hnd hlt

noncomputable def ZrD : Zfb → Value
 | .r0 w1 w2 w3 w4 w5 w6 w7 w8 => Value.tuple #[Value.agg (List.toArray ([ms RC w1] ++ (rv8 w2 ++ [vi w3, ms RA w4, vi w5, vi w6]))), vi w7, Value.bool w8]
noncomputable def Zqn (L0 : List (List RI)) (L1 : List RL) (L2 : List RJ) (a3 a4 a5 a6 : Int) (L7 L8 L9 : List RG) : Zfb → List (Option AObj)
 | .r0 w1 w2 w3 w4 w5 w6 w7 w8 => [some (.cells (Zd RA L9) 44 true)]

section
variable (L0 : List (List RI)) (L1 : List RL) (L2 : List RJ) (a3 : Int)
theorem Zww (a4 a5 a6 : Int) (L7 L8 L9 : List RG) (N : Nat) : Fx Tryz.prog Zg Tryz.f76 [.cells (Zd RA L9) 44 true] #[Value.agg (κc L0 L1 L2), vi a3, Value.agg (List.toArray (κT a4 a5 a6 L7 L8)), vs 0 0 L9.length L9.length] (ZrD) (Zqn L0 L1 L2 a3 a4 a5 a6 L7 L8 L9) (Zd4 L0 L1 L2 a3 a4 a5 a6 L7 L8 L9 N) := by
 unfold Zd4
 refine Ze (fun g0 => ?_) (fun _ => Zq)
 refine Ze (fun g1 => ?_) (fun _ => Zq)
 have w2 := kG (ZR RB) L0 (0 + (a3.toNat * 1)) (a3.toNat) 0 1 1 <| kB a3.toNat L0.length <| kI a3 (Int.ofNat a3.toNat) Zb
 refine Ze (fun g2 => ?_) (fun _ => Zq)
 refine Ze (fun g3 => ?_) (fun _ => Zq)
 have w4 := kG RB (L0.getD a3.toNat []) (0 + (a6.toNat * 4)) (a6.toNat) 0 4 4 <| kB a6.toNat (L0.getD a3.toNat []).length <| kI a6 (Int.ofNat a6.toNat) w2
 refine Ze (fun g4 => ?_) (fun g4 => ?_)
 ·
  refine Zz (fun z5 c5 => ?_)
  cases z5 with
  | r0 y5_0 y5_1 y5_2 y5_3 y5_4 y5_5 y5_6 y5_7 =>
   exact fxC (Za (oq [1]) [] [(0, a3.toNat), (1, a6.toNat), (2, a3.toNat)] [(5, [(mc RB (L0.getD a3.toNat []))]), (7, (RB.cel ((L0.getD a3.toNat []).getD a6.toNat RI.z))), (10, [(mc RB (L0.getD a3.toNat []))])] [(2, (Zo6 c5 [0] 6).t)]) [0] (Value.tuple #[Value.agg (List.toArray ([ms RC y5_0] ++ (rv8 y5_1 ++ [vi y5_2, ms RA y5_3, vi y5_4, vi y5_5]))), vi y5_6, Value.bool y5_7]) (kK (Zwv c5 [0] 6) <| kG (ZR RB) L0 (0 + (a3.toNat * 1)) (a3.toNat) 0 1 1 <| kB a3.toNat L0.length <| kI a3 (Int.ofNat a3.toNat) <| hT g4 w4) (bQ <| bE)
 refine Zz (fun z5 c5 => ?_)
 cases z5 with
 | r0 y5_0 y5_1 y5_2 =>
  exact fxC (Za (oq [0]) [] [(0, a3.toNat), (1, a6.toNat)] [(5, [(mc RB (L0.getD a3.toNat []))]), (7, (RB.cel ((L0.getD a3.toNat []).getD a6.toNat RI.z)))] [(2, (ZbX c5 [0] 6).t)]) [0] (Value.tuple #[Value.agg (List.toArray ([ms RC y5_0] ++ (rv8 y5_1 ++ [vi (i64.wrap (a6 + 1)), ms RA L8, vi (i64.wrap ((0 : Int) + 1)), vi y5_2]))), vq, vT]) (kK (Zcy c5 [0] 6) <| hF g4 w4) (bQ <| bE)
 | r1 y5_0 y5_1 y5_2 =>
  exact fxC (Za (oq [0]) [] [(0, a3.toNat), (1, a6.toNat)] [(5, [(mc RB (L0.getD a3.toNat []))]), (7, (RB.cel ((L0.getD a3.toNat []).getD a6.toNat RI.z)))] [(2, (Zan c5 [0] 6).t)]) [0] (Value.tuple #[Value.agg (List.toArray ([ms RC y5_0] ++ (rv8 y5_1 ++ [vi (i64.wrap (a6 + 1)), ms RA L8, vq, vq]))), vi y5_2, vT]) (kK (Zau c5 [0] 6) <| hF g4 w4) (bQ <| bE)

theorem ZtQ (a4 a5 a6 : Int) (L7 L8 L9 : List RG) (N : Nat) (r : Zfb) (h : Zd4 L0 L1 L2 a3 a4 a5 a6 L7 L8 L9 N = some r) : LSpec Tryz.prog 76 #[Value.agg (κc L0 L1 L2), vi a3, Value.agg (List.toArray (κT a4 a5 a6 L7 L8)), vs 0 0 L9.length L9.length] [.cells (Zd RA L9) 44 true] (ZrD r) (Zqn L0 L1 L2 a3 a4 a5 a6 L7 L8 L9 r) :=
 Zax ZB Tryz.func76 (by kernel_rfl) (by kernel_rfl) (fun r => by cases r <;> exact Zu _ rfl) (Zww L0 L1 L2 a3 a4 a5 a6 L7 L8 L9 N) h

noncomputable def ZgQ {L0 : List (List RI)} {L1 : List RL} {L2 : List RJ} {a3 a4 a5 a6 : Int} {L7 L8 L9 : List RG} {w1 : List RJ} {w2 : List RG} {w3 : Int} {w4 : List RG} {w5 w6 w7 : Int} {w8 : Bool} {N : Nat} (h : Zd4 L0 L1 L2 a3 a4 a5 a6 L7 L8 L9 N = some (.r0 w1 w2 w3 w4 w5 w6 w7 w8)) (ks : List Nat) (n : Nat) : ToldS := ⟨#[Value.agg (κc L0 L1 L2), vi a3, Value.agg (List.toArray (κT a4 a5 a6 L7 L8)), vs (nth ks 0) 0 L9.length L9.length], [((nth ks 0), .cells (Zd RA L9) 44 true)], Value.tuple (κU w1 w2 w3 w4 w5 w6 w7 w8), [], 0⟩

theorem Zqo {L0 : List (List RI)} {L1 : List RL} {L2 : List RJ} {a3 a4 a5 a6 : Int} {L7 L8 L9 : List RG} {w1 : List RJ} {w2 : List RG} {w3 : Int} {w4 : List RG} {w5 w6 w7 : Int} {w8 : Bool} {N : Nat} (h : Zd4 L0 L1 L2 a3 a4 a5 a6 L7 L8 L9 N = some (.r0 w1 w2 w3 w4 w5 w6 w7 w8)) (ks : List Nat) (n : Nat) (hk : ks.length = 1 := by rfl) (hnd : ks.Nodup := by decide +kernel) (hlt : ∀ k ∈ ks, k < n := by decide +kernel) : (ZgQ (N := N)  h ks n).P Tryz.prog 76 n :=
 match ks, hk, hnd, hlt with
 | [k0], _, hnd, hlt => ZcO (show LSpec Tryz.prog 76 #[Value.agg (κc L0 L1 L2), vi a3, Value.agg (List.toArray (κT a4 a5 a6 L7 L8)), vs 0 0 L9.length L9.length] [.cells (Zd RA L9) 44 true] (Value.tuple (κU w1 w2 w3 w4 w5 w6 w7 w8)) [some (.cells (Zd RA L9) 44 true)] from ZtQ L0 L1 L2 a3 a4 a5 a6 L7 L8 L9 N _ h) _ n [] hnd hlt

noncomputable def Zv9 (L0 : List (List RI)) (L1 : List RL) (L2 : List RJ) (a3 a4 a5 a6 a7 a8 : Int) (L9 : List RG) (a10 : Int) : ZcL → Value
 | .r0 w2 w3 w4 => Value.tuple #[Value.agg #[ms (ZR RB) L0, ms RE w2, ms RC w3], vi w4]
noncomputable def ZtR (L0 : List (List RI)) (L1 : List RL) (L2 : List RJ) (a3 a4 a5 a6 a7 a8 : Int) (L9 : List RG) (a10 : Int) : ZcL → List (Option AObj)
 | .r0 w2 w3 w4 => [some (.cells (Zd RA L9) 44 true)]

theorem Zzv (a4 a5 a6 a7 a8 : Int) (L9 : List RG) (a10 : Int) (N : Nat) : Fx Tryz.prog Zg Tryz.f45 [.cells (Zd RA L9) 44 true] #[Value.agg (κc L0 L1 L2), Value.agg #[vi a3, vi a4, vi a5, vi a6, vi a7, vi a8, vs 0 0 L9.length L9.length, vi a10]] (Zv9 L0 L1 L2 a3 a4 a5 a6 a7 a8 L9 a10) (ZtR L0 L1 L2 a3 a4 a5 a6 a7 a8 L9 a10) (ZdM L0 L1 L2 a3 a4 a5 a6 a7 a8 L9 a10 N) := by
 unfold ZdM
 refine Zz (fun z0 c0 => ?_)
 cases z0 with
 | r0 =>
  exact fxC (Za (oq []) [] [] [] [(0, (tP (ZaI c0)).t)]) [0] (Value.tuple #[Value.agg (κc L0 L1 L2), vi 200]) (kK (tQ (ZaI c0) 4) Zb) (bQ <| bE)
 | r1 y0_0 y0_1 y0_2 y0_3 y0_4 y0_5 =>
  have w1 := kK (tQ (ZaI c0) 4) Zb
  refine Ze (fun g1 => ?_) (fun g1 => ?_)
  ·
   exact fxC (Za (oq [1]) [] [] [] [(0, (tP (ZaI c0)).t)]) [0] (Value.tuple #[Value.agg (κc L0 L1 L2), vi 200]) (hT g1 w1) (bQ <| bE)
  refine Ze (fun g2 => ?_) (fun g2 => ?_)
  ·
   exact fxC (Za (oq [0, 3]) [] [] [] [(0, (tP (ZaI c0)).t)]) [0] (Value.tuple #[Value.agg (κc L0 L1 L2), vi 200]) (hD g2 <| hF g1 w1) (bQ <| bE)
  refine Ze (fun _ => Zq) (fun g3 => ?_)
  have w4 := hF g3 <| kE y0_2 a5 <| hF g1 w1
  refine Ze (fun g4 => ?_) (fun g4 => ?_)
  ·
   exact fxC (Za (oq [0, 2, 4, 7]) [] [] [] [(0, (tP (ZaI c0)).t)]) [0] (Value.tuple #[Value.agg (κc L0 L1 L2), vi 200]) (hD g4 w4) (bQ <| bE)
  refine Zz (fun z5 c5 => ?_)
  cases z5 with
  | r0 y5_0 =>
   have w6 := kK (Zwd c5 [0] 5) <| kE a3 y0_5 w4
   refine Ze (fun g6 => ?_) (fun g6 => ?_)
   ·
    exact fxC (Za (oq [0, 2, 4, 6, 9]) [] [] [] [(0, (tP (ZaI c0)).t), (2, (Ze4 c5 [0] 5).t)]) [0] (Value.tuple #[Value.agg (κc L0 L1 L2), vi 200]) (kX ((!y5_0)) true nbt w6) (bQ <| bE)
   have w7 := kX ((!y5_0)) false nbf w6
   refine Zz (fun z7 c7 => ?_)
   cases z7 with
   | r0 y7_0 y7_1 y7_2 y7_3 y7_4 y7_5 y7_6 y7_7 =>
    refine Ze (fun g8 => ?_) (fun g8 => ?_)
    ·
     exact fxC (Za (oq [0, 2, 4, 6, 8, 11]) [] [] [] [(0, (tP (ZaI c0)).t), (2, (Ze4 c5 [0] 5).t), (3, (ZgQ c7 [0] 5).t)]) [0] (Value.tuple #[Value.agg (κc L0 L1 L2), vi 200]) (kX ((!y7_7)) true nbt <| kK (Zqo c7 [0] 5) w7) (bQ <| bE)
    have w9 := kX ((!y7_7)) false nbf <| kK (Zqo c7 [0] 5) w7
    refine Ze (fun g9 => ?_) (fun g9 => ?_)
    ·
     exact fxC (Za (oq [0, 2, 4, 6, 8, 10, 13]) [] [] [] [(0, (tP (ZaI c0)).t), (2, (Ze4 c5 [0] 5).t), (3, (ZgQ c7 [0] 5).t)]) [0] (Value.tuple #[Value.agg (κc L0 L1 L2), vi 200]) (hD g9 w9) (bQ <| bE)
    refine Ze (fun g10 => ?_) (fun g10 => ?_)
    ·
     exact fxC (Za (oq [0, 2, 4, 6, 8, 10, 12, 15]) [] [] [] [(0, (tP (ZaI c0)).t), (2, (Ze4 c5 [0] 5).t), (3, (ZgQ c7 [0] 5).t)]) [0] (Value.tuple #[Value.agg (κc L0 L1 L2), vi 200]) (hD g10 <| kE y7_6 0 w9) (bQ <| bE)
    refine Zz (fun z11 c11 => ?_)
    cases z11 with
    | r0 =>
     exact fxC (Za (oq [0, 2, 4, 6, 8, 10, 12, 14]) [] [] [] [(0, (tP (ZaI c0)).t), (2, (Ze4 c5 [0] 5).t), (3, (ZgQ c7 [0] 5).t), (9, (tP (Zfr c11)).t)]) [0] (Value.tuple #[Value.agg #[ms (ZR RB) L0, ms RE (L1.set a4.toNat (ZfY y7_1 y0_0 y0_1 y7_2 y7_3 : RL)), ms RC y7_0], vq]) (kK (tQ (Zfr c11) 6) <| kE y7_4 (L9.length : Int) <| kE y7_6 0 w9) (bQ <| bE)

theorem Zwx (a4 a5 a6 a7 a8 : Int) (L9 : List RG) (a10 : Int) (N : Nat) (r : ZcL) (h : ZdM L0 L1 L2 a3 a4 a5 a6 a7 a8 L9 a10 N = some r) : LSpec Tryz.prog 45 #[Value.agg (κc L0 L1 L2), Value.agg #[vi a3, vi a4, vi a5, vi a6, vi a7, vi a8, vs 0 0 L9.length L9.length, vi a10]] [.cells (Zd RA L9) 44 true] (Zv9 L0 L1 L2 a3 a4 a5 a6 a7 a8 L9 a10 r) (ZtR L0 L1 L2 a3 a4 a5 a6 a7 a8 L9 a10 r) :=
 Zax ZB Tryz.func45 (by kernel_rfl) (by kernel_rfl) (fun r => by cases r <;> exact Zu _ rfl) (Zzv L0 L1 L2 a3 a4 a5 a6 a7 a8 L9 a10 N) h

noncomputable def ZnK {L0 : List (List RI)} {L1 : List RL} {L2 : List RJ} {a3 a4 a5 a6 a7 a8 : Int} {L9 : List RG} {a10 : Int} {w2 : List RL} {w3 : List RJ} {w4 : Int} {N : Nat} (h : ZdM L0 L1 L2 a3 a4 a5 a6 a7 a8 L9 a10 N = some (.r0 w2 w3 w4)) (ks : List Nat) (n : Nat) : ToldS := ⟨#[Value.agg (κc L0 L1 L2), Value.agg #[vi a3, vi a4, vi a5, vi a6, vi a7, vi a8, vs (nth ks 0) 0 L9.length L9.length, vi a10]], [((nth ks 0), .cells (Zd RA L9) 44 true)], Value.tuple #[Value.agg #[ms (ZR RB) L0, ms RE w2, ms RC w3], vi w4], [], 0⟩

theorem ZtS {L0 : List (List RI)} {L1 : List RL} {L2 : List RJ} {a3 a4 a5 a6 a7 a8 : Int} {L9 : List RG} {a10 : Int} {w2 : List RL} {w3 : List RJ} {w4 : Int} {N : Nat} (h : ZdM L0 L1 L2 a3 a4 a5 a6 a7 a8 L9 a10 N = some (.r0 w2 w3 w4)) (ks : List Nat) (n : Nat) (hk : ks.length = 1 := by rfl) (hnd : ks.Nodup := by decide +kernel) (hlt : ∀ k ∈ ks, k < n := by decide +kernel) : (ZnK (N := N)  h ks n).P Tryz.prog 45 n :=
 match ks, hk, hnd, hlt with
 | [k0], _, hnd, hlt => ZcO (show LSpec Tryz.prog 45 #[Value.agg (κc L0 L1 L2), Value.agg #[vi a3, vi a4, vi a5, vi a6, vi a7, vi a8, vs 0 0 L9.length L9.length, vi a10]] [.cells (Zd RA L9) 44 true] (Value.tuple #[Value.agg #[ms (ZR RB) L0, ms RE w2, ms RC w3], vi w4]) [some (.cells (Zd RA L9) 44 true)] from Zwx L0 L1 L2 a3 a4 a5 a6 a7 a8 L9 a10 N _ h) _ n [] hnd hlt

noncomputable def Zmv (L0 : List (List RI)) (L1 : List RL) (L2 : List RJ) (a3 a4 : Int) : ZbV → Value
 | .r0 w1 w2 w3 w4 => Value.tuple #[Value.agg #[ms (ZR RB) L0, ms RE w1, ms RC w2], vi w3, Value.bool w4]
noncomputable def Zlt : ZbV → List (Option AObj)
 | .r0 w1 w2 w3 w4 => []

def Zy0 : ZbE → Nat
 | .h1m0 v1 v5 v7 v11 => 1
noncomputable def Zzw (L0 : List (List RI)) (L1 : List RL) (L2 : List RJ) (a3 a4 : Int) : ZbE → List (Nat × Value)
 | .h1m0 v1 v5 v7 v11 => [(2, vi a4), (3, vp 0 0), (6, vp 1 0), (11, vp 2 0), (12, vi (v1 : Int))]
noncomputable def Zzx (a4 : Int) : ZbE → List (Option AObj)
 | .h1m0 v1 v5 v7 v11 => [some (.cells (κf L0 L1 L2) 34), some κ5, some (.cells [vi v5, vi a3, vi v7, vq, vq, vq, vs 3 0 v11.length v11.length, vq] 118), some (.cells (Zd RA v11) 44 true)]

noncomputable def Zge : Nat → Code × List ZD
 | 1 => ZX [1, 1, 1, 1, 0, 1, 3] (Zaw Tryz.f14) []
 | _ => (.skip, [])
def Zqp : Nat → Bool
 | 1 => true
 | _ => true
noncomputable def Zzy (i : Nat) : List ZD := match Zqp i with | true => .rnd i :: (Zge i).2 | false => (Zge i).2

noncomputable def Zgf (a4 : Int) (N : Nat) : Mach := ⟨Tryz.f14, [], ZbE, ZbV, Zfo L0 L1 L2 a3 a4 N, Zy0, Zge, Zqp, Zzw L0 L1 L2 a3 a4, Zzx L0 L1 L2 a3 a4, Zmv L0 L1 L2 a3 a4, Zlt⟩

theorem Zs5 (a4 : Int) (v1 : Nat) (v5 v7 : Int) (v11 : List RG) (N : Nat) : (Zgf L0 L1 L2 a3 a4 N).Ok Tryz.prog Zg (.h1m0 v1 v5 v7 v11 : ZbE) (Zfo L0 L1 L2 a3 a4 N (.h1m0 v1 v5 v7 v11 : ZbE)) := by
 show (Zgf L0 L1 L2 a3 a4 N).Ok Tryz.prog Zg (.h1m0 v1 v5 v7 v11 : ZbE) (Zdc L0 L1 L2 a3 a4 N v1 v5 v7 v11)
 unfold Zdc
 refine ok_ite (fun g0 => ?_) fun g0 => ?_
 ·
  refine ok_bind fun z1 c1 => ?_
  cases z1 with
  | r0 y1_0 y1_1 y1_2 =>
   refine ok_ite (fun g2 => ?_) fun g2 => ?_
   ·
    exact okF (Za (oq [1, 3]) [] [] [] [(0, (ZnK c1 [3] 4).t)]) [] (Value.tuple #[Value.agg #[ms (ZR RB) L0, ms RE y1_0, ms RC y1_1], vi (i64.wrap (a4 + (v1 : Int))), vT]) (hT g2 <| kK (ZtS c1 [3] 4) <| hY g0 Zb) bE
   refine oi fun g3 => ?_
   exact okN (Za (oq [1, 2]) [(2, (((v1 + 1) : Nat) : Int))] [] [] [(0, (ZnK c1 [3] 4).t), (2, .ap 1 [vi 2, vi (i64.wrap ((i64.wrap ((1048594 : Int) + a4)) + (v1 : Int)))] (Zd RA (v11 ++ ([(⟨2, (i64.wrap ((i64.wrap ((1048594 : Int) + a4)) + (v1 : Int)))⟩ : RG)] : List RG))))]) [0, 1, 2, 6] [some (vi a4), some (vp 0 0), some (vp 1 0), some (vp 2 0), some (κw v1)] (kW ((v1 : Int) + 1) (((v1 + 1) : Nat) : Int) <| kA RA v11 (⟨2, (i64.wrap ((i64.wrap ((1048594 : Int) + a4)) + (v1 : Int)))⟩ : RG) <| hF g2 <| kK (ZtS c1 [3] 4) <| hY g0 Zb) (tC (tC (tC (tC (tC (tE)))))) (bS (κf L0 L1 L2) <| bS [vn, vn, vn] <| bU [vi v5, vi a3, vi v7, vq, vq, vq, vs 6 0 (v11.length + 1) (v11.length + 1), vq] 6 (show (vs 3 0 (v11.length + 1) (v11.length + 1) : Value) = vs 3 0 (v11 ++ ([(⟨2, (i64.wrap ((i64.wrap ((1048594 : Int) + a4)) + (v1 : Int)))⟩ : RG)] : List RG)).length (v11 ++ ([(⟨2, (i64.wrap ((i64.wrap ((1048594 : Int) + a4)) + (v1 : Int)))⟩ : RG)] : List RG)).length from Z0 rfl eqA eqA) <| bQ <| bE) (show 1 ∈ Zj (Zzy 1) from by decide +kernel)
 exact okF (Za (oq [0]) [] [] [] []) [] (Value.tuple #[Value.agg (κc L0 L1 L2), vi a4, vf]) (hN g0 Zb) bE

theorem Zwy (a4 : Int) (N : Nat) : (Zgf L0 L1 L2 a3 a4 N).Enter Tryz.prog Zg #[Value.agg (κc L0 L1 L2), vi a3, vi a4] (ZgC L0 L1 L2 a3 a4 N) := by
 unfold ZgC
 refine en_bind (fun z0 c0 => ?_)
 cases z0 with
 | r0 =>
  exact enF (Za (oq []) [] [] [] [(0, (tP (ZaI c0)).t)]) [] (Value.tuple #[Value.agg (κc L0 L1 L2), vi a4, vf]) (kK (tQ (ZaI c0) 2) Zb) bE
 | r1 y0_0 y0_1 y0_2 y0_3 y0_4 y0_5 =>
  refine en_ite (fun g1 => ?_) (fun g1 => ?_)
  ·
   exact enF (Za (oq [1]) [] [] [] [(0, (tP (ZaI c0)).t)]) [] (Value.tuple #[Value.agg (κc L0 L1 L2), vi a4, vf]) (hT g1 <| kK (tQ (ZaI c0) 2) Zb) bE
  exact Mach.en_headW (bK := Zge 1) (M := Zgf L0 L1 L2 a3 a4 N) (cd := 1000000) (cm := 0) (y := (.h1m0 0 y0_5 y0_2 ([] : List RG) : ZbE)) (fu := 4000) (orc := (Za (oq [0]) [] [] [] [(0, (tP (ZaI c0)).t)])) (live := [0, 1, 3, 500000004]) (tv := [some (vi a4), some (vp 0 0), some (vp 1 0), some (vp 3 0), some (vq)]) (bl := [some (.cells (κf L0 L1 L2) 34), some κ5, some (.cells [vi y0_5, vi a3, vi y0_2, vq, vq, vq, vn, vq] 118), none]) [some (.cells (κf L0 L1 L2) 34), some κ5, some (.cells [vi y0_5, vi a3, vi y0_2, vq, vq, vq, vn, vq] 118), none] [(3, 44)] 0 ⟨(.inl rfl), ⟨(.inl rfl), ⟨(wk_c ⟨.inl rfl, ⟨.inl rfl, ⟨.inl rfl, ⟨.inl rfl, ⟨.inl rfl, ⟨.inl rfl, ⟨.inr ⟨rfl, _, rfl⟩, ⟨.inl rfl, trivial⟩⟩⟩⟩⟩⟩⟩⟩), ⟨(.inl rfl), trivial⟩⟩⟩⟩ (by rfl) (by rfl) rfl rfl (show Zj (Zge 1).2 = [] from rfl) (by kernel_rfl) (hF g1 <| kK (tQ (ZaI c0) 2) Zb) rfl (by decide +kernel) (by rfl) ⟨rr, ⟨rr, ⟨rr, ⟨rr, ⟨⟨Eq.trans (show κn = vq from ci) (by rfl), by rfl⟩, trivial⟩⟩⟩⟩⟩ ⟨sm, ⟨sm, ⟨sm, trivial⟩⟩⟩

theorem ZtT (a4 : Int) (N : Nat) (r : ZbV) (h : Zbt L0 L1 L2 a3 a4 N = some r) : LSpec Tryz.prog 14 #[Value.agg (κc L0 L1 L2), vi a3, vi a4] [] (Zmv L0 L1 L2 a3 a4 r) (Zlt r) :=
 Mach.spec ZB (Zgf L0 L1 L2 a3 a4 N) Tryz.func14 (by kernel_rfl) (by kernel_rfl) (fun x => by cases x <;> exact Zu _ rfl) (fun r => by cases r <;> exact Zu _ rfl) (fun x => by
  cases x with
  | h1m0 _ _ _ _ => exact fun _ => (show ¬ (1 ∈ Zj (Zge 1).2) from by decide +kernel)
  ) (fun x => (show (Zgf L0 L1 L2 a3 a4 N).Ok Tryz.prog Zg x (Zfo L0 L1 L2 a3 a4 N x) from by
  cases x with
  | h1m0 v1 v5 v7 v11 => exact Zs5 L0 L1 L2 a3 a4 v1 v5 v7 v11 N
  )) (Zwy L0 L1 L2 a3 a4 N) (n := N) h

end
theorem ZbN {L0 : List (List RI)} {L1 : List RL} {L2 : List RJ} {a3 a4 : Int} {N : Nat} {r : ZbV} (h : Zbt L0 L1 L2 a3 a4 N = some r) : LSpec Tryz.prog 14 #[Value.agg (κc L0 L1 L2), vi a3, vi a4] [] (Zmv L0 L1 L2 a3 a4 r) (Zlt r) := ZtT L0 L1 L2 a3 a4 N r h

noncomputable def Zqq : ZaE → Value
 | .r0 w1 w2 w3 w4 => Value.tuple #[Value.agg #[ms (ZR RB) w1, ms RE w2, ms RC w3], vn, Value.bool w4]
 | .r1 w1 w2 w3 w4 w5 => Value.tuple #[Value.agg #[ms (ZR RB) w1, ms RE w2, ms RC w3], vs 1 0 w4.length w4.length, Value.bool w5]
section
variable (L0 : List (List RI))
noncomputable def Zo7 (a1 : Int) : ZaE → List (Option AObj)
 | .r0 w1 w2 w3 w4 => [some (κo L0)]
 | .r1 w1 w2 w3 w4 w5 => [some (κo L0), some (.cells (Zd eI w4) 3)]

noncomputable def Zzz : ZaE → Value
 | .r0 w1 w2 w3 w4 => Value.tuple #[Value.agg #[ms (ZR RB) w1, ms RE w2, ms RC w3], vn, Value.bool w4]
 | .r1 w1 w2 w3 w4 w5 => Value.tuple #[Value.agg #[ms (ZR RB) w1, ms RE w2, ms RC w3], ms eI w4, Value.bool w5]
noncomputable def Zy1 (a1 : Int) : ZaE → List (Option AObj)
 | .r0 w1 w2 w3 w4 => [some (κo L0)]
 | .r1 w1 w2 w3 w4 w5 => [some (κo L0)]

def Zy2 : Z4 → Nat
 | .h1m0 v4 v5 v6 => 1
 | .h2m0 v4 v5 v6 => 2
 | .h2m1 v2 v3 v4 v5 v6 v7 => 2
 | .h3m0 v2 v5 v6 v7 v8 => 3
 | .h3m1 v2 v3 v4 v5 v6 v7 v8 v9 => 3
noncomputable def Zz0 (a1 : Int) : Z4 → List (Nat × Value)
 | .h1m0 v4 v5 v6 => [(κbg L0), (1, vn), (2, vi a1), (6, vp 1 0), (9, vp 2 0), (11, vq), (12, vn), (13, vq)]
 | .h2m0 v4 v5 v6 => [(κbg L0), (2, vi a1), (6, vp 1 0), (9, vp 2 0), (11, vq), (12, vn), (17, vq)]
 | .h2m1 v2 v3 v4 v5 v6 v7 => [(κbg L0), (2, vi a1), (6, vp 1 0), (9, vp 2 0), (11, vi v2), (12, vs 3 0 v3.length v3.length), (17, vi (v4 : Int))]
 | .h3m0 v2 v5 v6 v7 v8 => [(κbg L0), (2, vi a1), (6, vp 1 0), (9, vp 2 0), (11, vi v2), (12, vn), (17, vq), (18, vf), (19, vi (v5 : Int))]
 | .h3m1 v2 v3 v4 v5 v6 v7 v8 v9 => [(κbg L0), (2, vi a1), (6, vp 1 0), (9, vp 2 0), (11, vi v2), (12, vs 3 0 v3.length v3.length), (17, vi (v4 : Int)), (18, Value.bool v5), (19, vi (v6 : Int))]
noncomputable def Zz1 (a1 : Int) : Z4 → List (Option AObj)
 | .h1m0 v4 v5 v6 => [some (κo L0), some κ5, some (.cells [ms (ZR RB) v4, ms RE v5, ms RC v6] 34)]
 | .h2m0 v4 v5 v6 => [some (κo L0), some κ5, some (.cells [ms (ZR RB) v4, ms RE v5, ms RC v6] 34)]
 | .h2m1 v2 v3 v4 v5 v6 v7 => [some (κo L0), some κ5, some (.cells [ms (ZR RB) v5, ms RE v6, ms RC v7] 34), some (.cells (Zd eI v3) 3)]
 | .h3m0 v2 v5 v6 v7 v8 => [some (κo L0), some κ5, some (.cells [ms (ZR RB) v6, ms RE v7, ms RC v8] 34)]
 | .h3m1 v2 v3 v4 v5 v6 v7 v8 v9 => [some (κo L0), some κ5, some (.cells [ms (ZR RB) v7, ms RE v8, ms RC v9] 34), some (.cells (Zd eI v3) 3)]

end
noncomputable def Zbe : Nat → Code × List ZD
 | 1 => ZX [1, 1, 1, 1, 1, 0, 1, 3] (Zaw Tryz.f9) []
 | 2 => ZX [1, 1, 1, 1, 1, 1, 0, 1, 3] (Zaw Tryz.f9) []
 | 3 => ZX [1, 1, 1, 1, 1, 1, 0, 1, 3, 8, 1, 0, 3, 1, 0, 1, 3] (Zaw Tryz.f9) []
 | _ => (.skip, [])
def Zqr : Nat → Bool
 | 1 => true
 | 2 => true
 | 3 => true
 | _ => true
noncomputable def ZcS (i : Nat) : List ZD := match Zqr i with | true => .rnd i :: (Zbe i).2 | false => (Zbe i).2

section
variable (L0 : List (List RI)) (a1 : Int)
noncomputable def ZbY (N : Nat) : Mach := ⟨Tryz.f9, (κW L0), Z4, ZaE, Zaa L0 a1 N, Zy2, Zbe, Zqr, Zz0 L0 a1, Zz1 L0 a1, Zqq, Zo7 L0 a1⟩

theorem Zs6 (v4 : List (List RI)) (v5 : List RL) (v6 : List RJ) (N : Nat) : (ZbY L0 a1 N).Ok Tryz.prog Zg (.h1m0 v4 v5 v6 : Z4) (Zaa L0 a1 N (.h1m0 v4 v5 v6 : Z4)) := by
 show (ZbY L0 a1 N).Ok Tryz.prog Zg (.h1m0 v4 v5 v6 : Z4) (Zi3 L0 a1 N v4 v5 v6)
 unfold Zi3
 exact okH (Zbe 2) (Za (oq []) [] [] [] []) [0, 1, 2] [some (κR L0), some (vi a1), some (vp 1 0), some (vp 2 0), some (vq), some (vn), some (vq)] Zb (tC (tC (tC (tC (tC (tC (tC (tE)))))))) (bR <| bS [vn, vn, vn] <| bS [ms (ZR RB) v4, ms RE v5, ms RC v6] <| bE) (show ∀ j ∈ Zj (Zbe 2).2, j ∈ Zj (ZcS 1) from by decide +kernel)

theorem Zs7 (v4 : List (List RI)) (v5 : List RL) (v6 : List RJ) (N : Nat) : (ZbY L0 a1 N).Ok Tryz.prog Zg (.h2m0 v4 v5 v6 : Z4) (Zaa L0 a1 N (.h2m0 v4 v5 v6 : Z4)) := by
 show (ZbY L0 a1 N).Ok Tryz.prog Zg (.h2m0 v4 v5 v6 : Z4) (Zi4 L0 a1 N v4 v5 v6)
 unfold Zi4
 refine ok_ite (fun g0 => ?_) fun g0 => ?_
 ·
  exact okH (Zbe 3) (Za (oq [1]) [] [] [] []) [0, 1, 2] [some (κR L0), some (vi a1), some (vp 1 0), some (vp 2 0), some (vq), some (vn), some (vq), some (vf), some (vq)] (hY g0 Zb) (tC (tC (tC (tC (tC (tC (tC (tC (tC (tE) ⟨Eq.trans (show κn = vq from ci) (by rfl), by rfl⟩))))))))) (bR <| bS [vn, vn, vn] <| bS [ms (ZR RB) v4, ms RE v5, ms RC v6] <| bE) (show ∀ j ∈ Zj (Zbe 3).2, j ∈ Zj (ZcS 2) from by decide +kernel)
 refine ok_bind fun z1 c1 => ?_
 cases z1 with
 | r0 y1_0 =>
  exact okF (Za (oq [0]) [] [] [] [(0, (tP (ZcM c1)).t)]) [0] (Value.tuple #[Value.agg #[ms (ZR RB) v4, ms RE y1_0, ms RC v6], vn, vf]) (kK (tQ (ZcM c1) 3) <| hN g0 Zb) (bR <| bE)

theorem Zs8 (v2 : Int) (v3 : List Int) (v4 : Nat) (v5 : List (List RI)) (v6 : List RL) (v7 : List RJ) (N : Nat) : (ZbY L0 a1 N).Ok Tryz.prog Zg (.h2m1 v2 v3 v4 v5 v6 v7 : Z4) (Zaa L0 a1 N (.h2m1 v2 v3 v4 v5 v6 v7 : Z4)) := by
 show (ZbY L0 a1 N).Ok Tryz.prog Zg (.h2m1 v2 v3 v4 v5 v6 v7 : Z4) (Zdd L0 a1 N v2 v3 v4 v5 v6 v7)
 unfold Zdd
 refine ok_ite (fun g0 => ?_) fun g0 => ?_
 ·
  exact okH (Zbe 3) (Za (oq [1]) [] [] [] []) [0, 1, 2, 3] [some (κR L0), some (vi a1), some (vp 1 0), some (vp 2 0), some (vi v2), some (vs 3 0 v3.length v3.length), some (vi (v4 : Int)), some (vf), some (vq)] (hY g0 Zb) (tC (tC (tC (tC (tC (tC (tC (tC (tC (tE) ⟨Eq.trans (show κn = vq from ci) (by rfl), by rfl⟩))))))))) (bR <| bS [vn, vn, vn] <| bS [ms (ZR RB) v5, ms RE v6, ms RC v7] <| bR <| bE) (show ∀ j ∈ Zj (Zbe 3).2, j ∈ Zj (ZcS 2) from by decide +kernel)
 refine ok_bind fun z1 c1 => ?_
 cases z1 with
 | r0 y1_0 =>
  exact okF (Za (oq [0]) [] [] [] [(0, (tP (ZcM c1)).t)]) [0, 3] (Value.tuple #[Value.agg #[ms (ZR RB) v5, ms RE y1_0, ms RC v7], vs 3 0 v3.length v3.length, vf]) (kK (tQ (ZcM c1) 4) <| hN g0 Zb) (bR <| bR <| bE)

theorem Zs9 (v2 : Int) (v5 : Nat) (v6 : List (List RI)) (v7 : List RL) (v8 : List RJ) (N : Nat) : (ZbY L0 a1 N).Ok Tryz.prog Zg (.h3m0 v2 v5 v6 v7 v8 : Z4) (Zaa L0 a1 N (.h3m0 v2 v5 v6 v7 v8 : Z4)) := by
 show (ZbY L0 a1 N).Ok Tryz.prog Zg (.h3m0 v2 v5 v6 v7 v8 : Z4) (ZeU L0 a1 N v2 v5 v6 v7 v8)
 unfold ZeU
 refine ok_ite (fun g0 => ?_) fun g0 => ?_
 ·
  refine ok_bind fun z1 c1 => ?_
  cases z1 with
  | r0 y1_0 y1_1 y1_2 y1_3 =>
   refine ok_ite (fun g2 => ?_) fun g2 => ?_
   ·
    subst g2
    refine oi fun g3 => ?_
    exact okN (Za (oq [1]) [(0, (((v5 + 1) : Nat) : Int))] [] [] [(0, (tP (ZbN c1)).t)]) [0, 1, 2, 5] [some (κR L0), some (vi a1), some (vp 1 0), some (vp 2 0), some (vi y1_2), some (vs 5 0 1 1), some (vq), some (vT), some (vi (((v5 + 1) : Nat) : Int))] (kW ((v5 : Int) + 1) (((v5 + 1) : Nat) : Int) <| kK (tQ (ZbN c1) 3) <| hY g0 Zb) (tC (tC (tC (tC (tC (tC (tC (tC (tC (tE))) ⟨Eq.trans (show κn = vq from ci) (by rfl), by rfl⟩) ⟨Eq.trans (show (vs 3 0 ([(v5 : Int)] : List Int).length ([(v5 : Int)] : List Int).length : Value) = vs 3 0 1 1 from (Z0 rfl eqA eqA)) (by rfl), by rfl⟩)))))) (bR <| bS [vn, vn, vn] <| bS [ms (ZR RB) v6, ms RE y1_0, ms RC y1_1] <| bC (o := .cells [vi (v5 : Int)] 3) (Zae (E := eI) _ (L := ([(v5 : Int)] : List Int)) _ (show ([vi (v5 : Int)] : List Value) = Zd eI ([(v5 : Int)] : List Int) from rfl)) <| bE) (show 3 ∈ Zj (ZcS 3) from by decide +kernel)
   obtain rfl : y1_3 = false := by simpa using g2
   refine oi fun g3 => ?_
   exact okN (Za (oq [1]) [(0, (((v5 + 1) : Nat) : Int))] [] [] [(0, (tP (ZbN c1)).t)]) [0, 1, 2] [some (κR L0), some (vi a1), some (vp 1 0), some (vp 2 0), some (vi y1_2), some (vn), some (vq), some (vf), some (vi (((v5 + 1) : Nat) : Int))] (kW ((v5 : Int) + 1) (((v5 + 1) : Nat) : Int) <| kK (tQ (ZbN c1) 3) <| hY g0 Zb) (tC (tC (tC (tC (tC (tC (tC (tC (tC (tE)))))))))) (bR <| bS [vn, vn, vn] <| bS [ms (ZR RB) v6, ms RE y1_0, ms RC y1_1] <| bE) (show 3 ∈ Zj (ZcS 3) from by decide +kernel)
 refine ok_bind fun z1 c1 => ?_
 cases z1 with
 | r0 y1_0 =>
  exact okF (Za (oq [0]) [] [] [] [(0, (tP (ZcM c1)).t)]) [0] (Value.tuple #[Value.agg #[ms (ZR RB) v6, ms RE y1_0, ms RC v8], vn, vT]) (kK (tQ (ZcM c1) 3) <| hN g0 Zb) (bR <| bE)

theorem ZsA (v2 : Int) (v3 : List Int) (v4 : Nat) (v5 : Bool) (v6 : Nat) (v7 : List (List RI)) (v8 : List RL) (v9 : List RJ) (N : Nat) : (ZbY L0 a1 N).Ok Tryz.prog Zg (.h3m1 v2 v3 v4 v5 v6 v7 v8 v9 : Z4) (Zaa L0 a1 N (.h3m1 v2 v3 v4 v5 v6 v7 v8 v9 : Z4)) := by
 show (ZbY L0 a1 N).Ok Tryz.prog Zg (.h3m1 v2 v3 v4 v5 v6 v7 v8 v9 : Z4) (Za0 L0 a1 N v2 v3 v4 v5 v6 v7 v8 v9)
 unfold Za0
 refine ok_ite (fun g0 => ?_) fun g0 => ?_
 ·
  subst g0
  refine ok_ite (fun g1 => ?_) fun g1 => ?_
  ·
   refine ok_bind fun z2 c2 => ?_
   cases z2 with
   | r0 y2_0 y2_1 y2_2 y2_3 =>
    refine ok_ite (fun g3 => ?_) fun g3 => ?_
    ·
     subst g3
     refine oi fun g4 => ?_
     refine oi fun g5 => ?_
     exact okN (Za (oq [1]) [(0, (((v6 + 1) : Nat) : Int))] [] [] [(0, (tP (ZbN c2)).t), (2, .ap 1 [vi (v6 : Int)] (Zd eI (v3 ++ ([(v6 : Int)] : List Int))))]) [0, 1, 2, 6] [some (κR L0), some (vi a1), some (vp 1 0), some (vp 2 0), some (vi y2_2), some (vs 6 0 (v3.length + 1) (v3.length + 1)), some (vi (v4 : Int)), some (vT), some (κL v6)] (kW ((v6 : Int) + 1) (((v6 + 1) : Nat) : Int) <| kA eI v3 (v6 : Int) <| kK (tQ (ZbN c2) 4) <| hY g1 Zb) (tC (tC (tC (tC (tC (tC (tC (tC (tC (tE)))) ⟨Eq.trans (show (vs 3 0 (v3 ++ ([(v6 : Int)] : List Int)).length (v3 ++ ([(v6 : Int)] : List Int)).length : Value) = vs 3 0 (v3.length + 1) (v3.length + 1) from (Z0 rfl eqA eqA)) (by rfl), by rfl⟩)))))) (bR <| bS [vn, vn, vn] <| bS [ms (ZR RB) v7, ms RE y2_0, ms RC y2_1] <| bR <| bE) (show 3 ∈ Zj (ZcS 3) from by decide +kernel)
    obtain rfl : y2_3 = false := by simpa using g3
    refine oi fun g4 => ?_
    exact okN (Za (oq [1]) [(0, (((v6 + 1) : Nat) : Int))] [] [] [(0, (tP (ZbN c2)).t)]) [0, 1, 2, 3] [some (κR L0), some (vi a1), some (vp 1 0), some (vp 2 0), some (vi y2_2), some (vs 3 0 v3.length v3.length), some (vi (v4 : Int)), some (vT), some (κL v6)] (kW ((v6 : Int) + 1) (((v6 + 1) : Nat) : Int) <| kK (tQ (ZbN c2) 4) <| hY g1 Zb) (tC (tC (tC (tC (tC (tC (tC (tC (tC (tE)))))))))) (bR <| bS [vn, vn, vn] <| bS [ms (ZR RB) v7, ms RE y2_0, ms RC y2_1] <| bR <| bE) (show 3 ∈ Zj (ZcS 3) from by decide +kernel)
  refine oi fun g2 => ?_
  exact okN (Za (oq [0]) [(0, (((v4 + 1) : Nat) : Int))] [] [] []) [0, 1, 2, 3] [some (κR L0), some (vi a1), some (vp 1 0), some (vp 2 0), some (vi v2), some (vs 3 0 v3.length v3.length), some (vi (((v4 + 1) : Nat) : Int))] (kW ((v4 : Int) + 1) (((v4 + 1) : Nat) : Int) <| hN g1 Zb) (tC (tC (tC (tC (tC (tC (tC (tE)))))))) (bR <| bS [vn, vn, vn] <| bS [ms (ZR RB) v7, ms RE v8, ms RC v9] <| bR <| bE) (show 2 ∈ Zj (ZcS 3) from by decide +kernel)
 obtain rfl : v5 = false := by simpa using g0
 refine ok_ite (fun g1 => ?_) fun g1 => ?_
 ·
  refine ok_bind fun z2 c2 => ?_
  cases z2 with
  | r0 y2_0 y2_1 y2_2 y2_3 =>
   refine ok_ite (fun g3 => ?_) fun g3 => ?_
   ·
    subst g3
    refine oi fun g4 => ?_
    refine oi fun g5 => ?_
    exact okN (Za (oq [1]) [(0, (((v6 + 1) : Nat) : Int))] [] [] [(0, (tP (ZbN c2)).t), (2, .ap 1 [vi (v6 : Int)] (Zd eI (v3 ++ ([(v6 : Int)] : List Int))))]) [0, 1, 2, 6] [some (κR L0), some (vi a1), some (vp 1 0), some (vp 2 0), some (vi y2_2), some (vs 6 0 (v3.length + 1) (v3.length + 1)), some (vi (v4 : Int)), some (vT), some (κL v6)] (kW ((v6 : Int) + 1) (((v6 + 1) : Nat) : Int) <| kA eI v3 (v6 : Int) <| kK (tQ (ZbN c2) 4) <| hY g1 Zb) (tC (tC (tC (tC (tC (tC (tC (tC (tC (tE)))) ⟨Eq.trans (show (vs 3 0 (v3 ++ ([(v6 : Int)] : List Int)).length (v3 ++ ([(v6 : Int)] : List Int)).length : Value) = vs 3 0 (v3.length + 1) (v3.length + 1) from (Z0 rfl eqA eqA)) (by rfl), by rfl⟩)))))) (bR <| bS [vn, vn, vn] <| bS [ms (ZR RB) v7, ms RE y2_0, ms RC y2_1] <| bR <| bE) (show 3 ∈ Zj (ZcS 3) from by decide +kernel)
   obtain rfl : y2_3 = false := by simpa using g3
   refine oi fun g4 => ?_
   exact okN (Za (oq [1]) [(0, (((v6 + 1) : Nat) : Int))] [] [] [(0, (tP (ZbN c2)).t)]) [0, 1, 2, 3] [some (κR L0), some (vi a1), some (vp 1 0), some (vp 2 0), some (vi y2_2), some (vs 3 0 v3.length v3.length), some (vi (v4 : Int)), some (vf), some (κL v6)] (kW ((v6 : Int) + 1) (((v6 + 1) : Nat) : Int) <| kK (tQ (ZbN c2) 4) <| hY g1 Zb) (tC (tC (tC (tC (tC (tC (tC (tC (tC (tE)))))))))) (bR <| bS [vn, vn, vn] <| bS [ms (ZR RB) v7, ms RE y2_0, ms RC y2_1] <| bR <| bE) (show 3 ∈ Zj (ZcS 3) from by decide +kernel)
 refine ok_bind fun z2 c2 => ?_
 cases z2 with
 | r0 y2_0 =>
  exact okF (Za (oq [0]) [] [] [] [(0, (tP (ZcM c2)).t)]) [0, 3] (Value.tuple #[Value.agg #[ms (ZR RB) v7, ms RE y2_0, ms RC v9], vs 3 0 v3.length v3.length, vT]) (kK (tQ (ZcM c2) 4) <| hN g1 Zb) (bR <| bR <| bE)

theorem Zwz (N : Nat) : (ZbY L0 a1 N).Enter Tryz.prog Zg #[vs 0 0 L0.length L0.length, vn, vi a1] (Zi5 L0 a1 N) := by
 unfold Zi5
 refine en_bind (fun z0 c0 => ?_)
 cases z0 with
 | r0 _ =>
  exact en_none
 | r1 _ =>
  exact en_none
 | r2 y0_0 y0_1 y0_2 =>
  exact enH (Zbe 1) (Za (oq []) [] [] [] [(0, (Zr1 c0 [0] 2).t)]) [0, 1, 2] [some (κR L0), some (vn), some (vi a1), some (vp 1 0), some (vp 2 0), some (vq), some (vn), some (vq)] (kK (Zzd c0 [0] 2) Zb) (tC (tC (tC (tC (tC (tC (tC (tC (tE))))))))) (bR <| bS [vn, vn, vn] <| bS [ms (ZR RB) y0_0, ms RE y0_1, ms RC y0_2] <| bE) (show Zj (Zbe 1).2 = [] from rfl)

theorem ZsB (N : Nat) (r : ZaE) (h : Zcx L0 a1 N = some r) : LSpec Tryz.prog 9 #[vs 0 0 L0.length L0.length, vn, vi a1] (κW L0) (Zqq r) (Zo7 L0 a1 r) :=
 Mach.spec ZB (ZbY L0 a1 N) Tryz.func9 (by kernel_rfl) (by kernel_rfl) (fun x => by cases x <;> exact Zu _ rfl) (fun r => by cases r <;> exact Zu _ rfl) (fun x => by
  cases x with
  | h1m0 _ _ _ => exact fun _ => (show ¬ (1 ∈ Zj (Zbe 1).2) from by decide +kernel)
  | h2m0 _ _ _ => exact fun _ => (show ¬ (2 ∈ Zj (Zbe 2).2) from by decide +kernel)
  | h2m1 _ _ _ _ _ _ => exact fun _ => (show ¬ (2 ∈ Zj (Zbe 2).2) from by decide +kernel)
  | h3m0 _ _ _ _ _ => exact fun _ => (show ¬ (3 ∈ Zj (Zbe 3).2) from by decide +kernel)
  | h3m1 _ _ _ _ _ _ _ _ => exact fun _ => (show ¬ (3 ∈ Zj (Zbe 3).2) from by decide +kernel)
  ) (fun x => (show (ZbY L0 a1 N).Ok Tryz.prog Zg x (Zaa L0 a1 N x) from by
  cases x with
  | h1m0 v4 v5 v6 => exact Zs6 L0 a1 v4 v5 v6 N
  | h2m0 v4 v5 v6 => exact Zs7 L0 a1 v4 v5 v6 N
  | h2m1 v2 v3 v4 v5 v6 v7 => exact Zs8 L0 a1 v2 v3 v4 v5 v6 v7 N
  | h3m0 v2 v5 v6 v7 v8 => exact Zs9 L0 a1 v2 v5 v6 v7 v8 N
  | h3m1 v2 v3 v4 v5 v6 v7 v8 v9 => exact ZsA L0 a1 v2 v3 v4 v5 v6 v7 v8 v9 N
  )) (Zwz L0 a1 N) (n := N) h

theorem ZlS (N : Nat) (r : ZaE) (h : Zcx L0 a1 N = some r) : LSpec Tryz.prog 9 #[vs 0 0 L0.length L0.length, vn, vi a1] (κW L0) (Zzz r) (Zy1 L0 a1 r) := by
 have h0 := ZsB L0 a1 N r h
 cases r with
 | r0 _ _ _ _ => exact h0
 | r1 w1 w2 w3 w4 w5 => exact (LSpec.frzv (E := eI) (L := w4) (post := [some (κo L0)]) (v2 := Value.tuple #[Value.agg #[ms (ZR RB) w1, ms RE w2, ms RC w3], ms eI w4, Value.bool w5]) h0 (show 1 ≤ 1 from by decide) (show 1 < 1000000000 from by decide) ⟨(Zdj _ _ _), trivial⟩ rfl rfl rfl)

end
noncomputable def ZF {L0 : List (List RI)} {a1 : Int} {w1 : List (List RI)} {w2 : List RL} {w3 : List RJ} {w4 : Bool} {N : Nat} (h : Zcx L0 a1 N = some (.r0 w1 w2 w3 w4)) (ks : List Nat) (n : Nat) : ToldS := ⟨#[vs (nth ks 0) 0 L0.length L0.length, vn, vi a1], (κbe ks L0), Value.tuple #[Value.agg (κX w1 w2 w3), vn, Value.bool w4], [], 0⟩

theorem Zf0 {L0 : List (List RI)} {a1 : Int} {w1 : List (List RI)} {w2 : List RL} {w3 : List RJ} {w4 : Bool} {N : Nat} (h : Zcx L0 a1 N = some (.r0 w1 w2 w3 w4)) (ks : List Nat) (n : Nat) (hk : ks.length = 1 := by rfl) (hnd : ks.Nodup := by decide +kernel) (hlt : ∀ k ∈ ks, k < n := by decide +kernel) : (ZF (N := N)  h ks n).P Tryz.prog 9 n :=
 match ks, hk, hnd, hlt with
 | [k0], _, hnd, hlt => ZcO (show LSpec Tryz.prog 9 #[vs 0 0 L0.length L0.length, vn, vi a1] (κW L0) (Value.tuple #[Value.agg (κX w1 w2 w3), vn, Value.bool w4]) [some (κo L0)] from ZlS L0 a1 N _ h) _ n [] hnd hlt

noncomputable def ZG {L0 : List (List RI)} {a1 : Int} {w1 : List (List RI)} {w2 : List RL} {w3 : List RJ} {w4 : List Int} {w5 : Bool} {N : Nat} (h : Zcx L0 a1 N = some (.r1 w1 w2 w3 w4 w5)) (ks : List Nat) (n : Nat) : ToldS := ⟨#[vs (nth ks 0) 0 L0.length L0.length, vn, vi a1], (κbe ks L0), Value.tuple #[Value.agg (κX w1 w2 w3), ms eI w4, Value.bool w5], [], 0⟩

theorem Zf1 {L0 : List (List RI)} {a1 : Int} {w1 : List (List RI)} {w2 : List RL} {w3 : List RJ} {w4 : List Int} {w5 : Bool} {N : Nat} (h : Zcx L0 a1 N = some (.r1 w1 w2 w3 w4 w5)) (ks : List Nat) (n : Nat) (hk : ks.length = 1 := by rfl) (hnd : ks.Nodup := by decide +kernel) (hlt : ∀ k ∈ ks, k < n := by decide +kernel) : (ZG (N := N)  h ks n).P Tryz.prog 9 n :=
 match ks, hk, hnd, hlt with
 | [k0], _, hnd, hlt => ZcO (show LSpec Tryz.prog 9 #[vs 0 0 L0.length L0.length, vn, vi a1] (κW L0) (Value.tuple #[Value.agg (κX w1 w2 w3), ms eI w4, Value.bool w5]) [some (κo L0)] from ZlS L0 a1 N _ h) _ n [] hnd hlt

end Ev
end Go.Proofs.YthfohmhipifiaaaGreat
namespace Go.Proofs.YthfohmhipifiaaaGreat
open Go.RowKit
namespace Ev
set_option linter.unusedVariables false
set_option maxRecDepth 100000
noncomputable def Zmw : Zy → Value
 | .r0 w0 => Value.bool w0
noncomputable def Zlu : Zy → List (Option AObj)
 | .r0 w0 => []

theorem Zw0 (a0 a1 a2 a3 : Int) (N : Nat) : Fx Tryz.prog Zg Tryz.f31 [] #[Value.agg #[vi a0, vi a1], Value.agg #[vi a2, vi a3]] (Zmw) (Zlu) (Zi6 a0 a1 a2 a3 N) := by
 unfold Zi6
 refine Ze (fun g0 => ?_) (fun g0 => ?_)
 ·
  refine Zz (fun z1 c1 => ?_)
  cases z1 with
  | r0 y1_0 =>
   have w2 := kK (tQ (Zc c1) 4) <| hT g0 Zb
   refine Ze (fun g2 => ?_) (fun g2 => ?_)
   ·
    have w3 := kX ((!y1_0)) true nbt w2
    refine Ze (fun g3 => ?_) (fun g3 => ?_)
    ·
     refine Zz (fun z4 c4 => ?_)
     cases z4 with
     | r0 y4_0 =>
      have w5 := kK (tQ (Zc c4) 6) <| hT g3 w3
      refine Ze (fun g5 => ?_) (fun g5 => ?_)
      ·
       have w6 := hT g0 <| kX ((!y4_0)) true nbt w5
       refine Zz (fun z6 c6 => ?_)
       cases z6 with
       | r0 y6_0 =>
        have w7 := kK (tQ (Zc c6) 8) w6
        refine Ze (fun g7 => ?_) (fun g7 => ?_)
        ·
         have w8 := hT g3 <| kX ((!y6_0)) true nbt w7
         refine Zz (fun z8 c8 => ?_)
         cases z8 with
         | r0 y8_0 =>
          refine Ze (fun g9 => ?_) (fun g9 => ?_)
          ·
           exact fxC (Za (oq [1, 3, 5, 7, 13, 15, 17, 19]) [] [] [] [(0, (tP (Zc c1)).t), (1, (tP (Zc c4)).t), (2, (tP (Zc c6)).t), (3, (tP (Zc c8)).t)]) [] (vf) (kX ((!y8_0)) true nbt <| kK (tQ (Zc c8) 10) w8) bE
          have w10 := kX ((!y8_0)) false nbf <| kK (tQ (Zc c8) 10) w8
          refine Ze (fun g10 => ?_) (fun g10 => ?_)
          ·
           exact fxC (Za (oq [1, 3, 5, 7, 13, 15, 17, 18, 21]) [] [] [] [(0, (tP (Zc c1)).t), (1, (tP (Zc c4)).t), (2, (tP (Zc c6)).t), (3, (tP (Zc c8)).t)]) [] (vT) (hY g10 w10) bE
          exact fxC (Za (oq [1, 3, 5, 7, 13, 15, 17, 18, 20]) [] [] [] [(0, (tP (Zc c1)).t), (1, (tP (Zc c4)).t), (2, (tP (Zc c6)).t), (3, (tP (Zc c8)).t)]) [] (vf) (hN g10 w10) bE
        have w8 := hT g3 <| kX ((!y6_0)) false nbf w7
        refine Zz (fun z8 c8 => ?_)
        cases z8 with
        | r0 y8_0 =>
         refine Ze (fun g9 => ?_) (fun g9 => ?_)
         ·
          have w10 := kX ((!y8_0)) true nbt <| kK (tQ (Zc c8) 10) w8
          refine Ze (fun g10 => ?_) (fun g10 => ?_)
          ·
           exact fxC (Za (oq [1, 3, 5, 7, 13, 14, 17, 19, 21]) [] [] [] [(0, (tP (Zc c1)).t), (1, (tP (Zc c4)).t), (2, (tP (Zc c6)).t), (3, (tP (Zc c8)).t)]) [] (vT) (hY g10 w10) bE
          exact fxC (Za (oq [1, 3, 5, 7, 13, 14, 17, 19, 20]) [] [] [] [(0, (tP (Zc c1)).t), (1, (tP (Zc c4)).t), (2, (tP (Zc c6)).t), (3, (tP (Zc c8)).t)]) [] (vf) (hN g10 w10) bE
         have w10 := kX ((!y8_0)) false nbf <| kK (tQ (Zc c8) 10) w8
         refine Ze (fun g10 => ?_) (fun g10 => ?_)
         ·
          exact fxC (Za (oq [1, 3, 5, 7, 13, 14, 17, 18, 21]) [] [] [] [(0, (tP (Zc c1)).t), (1, (tP (Zc c4)).t), (2, (tP (Zc c6)).t), (3, (tP (Zc c8)).t)]) [] (vT) (hY g10 w10) bE
         exact fxC (Za (oq [1, 3, 5, 7, 13, 14, 17, 18, 20]) [] [] [] [(0, (tP (Zc c1)).t), (1, (tP (Zc c4)).t), (2, (tP (Zc c6)).t), (3, (tP (Zc c8)).t)]) [] (vf) (hN g10 w10) bE
      have w6 := kX ((!y4_0)) false nbf w5
      refine Ze (fun g6 => ?_) (fun g6 => ?_)
      ·
       exact fxC (Za (oq [1, 3, 5, 6, 9]) [] [] [] [(0, (tP (Zc c1)).t), (1, (tP (Zc c4)).t)]) [] (vT) (hY g6 w6) bE
      refine Ze (fun g7 => ?_) (fun g7 => ?_)
      ·
       have w8 := hT g0 <| hT g7 <| hN g6 w6
       refine Zz (fun z8 c8 => ?_)
       cases z8 with
       | r0 y8_0 =>
        have w9 := kK (tQ (Zc c8) 8) w8
        refine Ze (fun g9 => ?_) (fun g9 => ?_)
        ·
         have w10 := hT g3 <| kX ((!y8_0)) true nbt w9
         refine Zz (fun z10 c10 => ?_)
         cases z10 with
         | r0 y10_0 =>
          refine Ze (fun g11 => ?_) (fun g11 => ?_)
          ·
           exact fxC (Za (oq [1, 3, 5, 6, 8, 11, 13, 15, 17, 19]) [] [] [] [(0, (tP (Zc c1)).t), (1, (tP (Zc c4)).t), (3, (tP (Zc c8)).t), (4, (tP (Zc c10)).t)]) [] (vf) (kX ((!y10_0)) true nbt <| kK (tQ (Zc c10) 10) w10) bE
          have w12 := kX ((!y10_0)) false nbf <| kK (tQ (Zc c10) 10) w10
          refine Ze (fun g12 => ?_) (fun g12 => ?_)
          ·
           exact fxC (Za (oq [1, 3, 5, 6, 8, 11, 13, 15, 17, 18, 21]) [] [] [] [(0, (tP (Zc c1)).t), (1, (tP (Zc c4)).t), (3, (tP (Zc c8)).t), (4, (tP (Zc c10)).t)]) [] (vT) (hY g12 w12) bE
          exact fxC (Za (oq [1, 3, 5, 6, 8, 11, 13, 15, 17, 18, 20]) [] [] [] [(0, (tP (Zc c1)).t), (1, (tP (Zc c4)).t), (3, (tP (Zc c8)).t), (4, (tP (Zc c10)).t)]) [] (vf) (hN g12 w12) bE
        have w10 := hT g3 <| kX ((!y8_0)) false nbf w9
        refine Zz (fun z10 c10 => ?_)
        cases z10 with
        | r0 y10_0 =>
         refine Ze (fun g11 => ?_) (fun g11 => ?_)
         ·
          have w12 := kX ((!y10_0)) true nbt <| kK (tQ (Zc c10) 10) w10
          refine Ze (fun g12 => ?_) (fun g12 => ?_)
          ·
           exact fxC (Za (oq [1, 3, 5, 6, 8, 11, 13, 14, 17, 19, 21]) [] [] [] [(0, (tP (Zc c1)).t), (1, (tP (Zc c4)).t), (3, (tP (Zc c8)).t), (4, (tP (Zc c10)).t)]) [] (vT) (hY g12 w12) bE
          exact fxC (Za (oq [1, 3, 5, 6, 8, 11, 13, 14, 17, 19, 20]) [] [] [] [(0, (tP (Zc c1)).t), (1, (tP (Zc c4)).t), (3, (tP (Zc c8)).t), (4, (tP (Zc c10)).t)]) [] (vf) (hN g12 w12) bE
         have w12 := kX ((!y10_0)) false nbf <| kK (tQ (Zc c10) 10) w10
         refine Ze (fun g12 => ?_) (fun g12 => ?_)
         ·
          exact fxC (Za (oq [1, 3, 5, 6, 8, 11, 13, 14, 17, 18, 21]) [] [] [] [(0, (tP (Zc c1)).t), (1, (tP (Zc c4)).t), (3, (tP (Zc c8)).t), (4, (tP (Zc c10)).t)]) [] (vT) (hY g12 w12) bE
         exact fxC (Za (oq [1, 3, 5, 6, 8, 11, 13, 14, 17, 18, 20]) [] [] [] [(0, (tP (Zc c1)).t), (1, (tP (Zc c4)).t), (3, (tP (Zc c8)).t), (4, (tP (Zc c10)).t)]) [] (vf) (hN g12 w12) bE
      exact fxC (Za (oq [1, 3, 5, 6, 8, 10]) [] [] [] [(0, (tP (Zc c1)).t), (1, (tP (Zc c4)).t)]) [] (vf) (hF g7 <| hN g6 w6) bE
    refine Zz (fun z4 c4 => ?_)
    cases z4 with
    | r0 y4_0 =>
     have w5 := kK (tQ (Zc c4) 8) <| hT g0 <| hF g3 w3
     refine Ze (fun g5 => ?_) (fun g5 => ?_)
     ·
      exact fxC (Za (oq [1, 3, 4, 13, 15, 16]) [] [] [] [(0, (tP (Zc c1)).t), (1, (tP (Zc c4)).t)]) [] (vf) (hF g3 <| kX ((!y4_0)) true nbt w5) bE
     have w6 := hF g3 <| kX ((!y4_0)) false nbf w5
     refine Ze (fun g6 => ?_) (fun g6 => ?_)
     ·
      exact fxC (Za (oq [1, 3, 4, 13, 14, 16, 21]) [] [] [] [(0, (tP (Zc c1)).t), (1, (tP (Zc c4)).t)]) [] (vT) (hY g6 w6) bE
     exact fxC (Za (oq [1, 3, 4, 13, 14, 16, 20]) [] [] [] [(0, (tP (Zc c1)).t), (1, (tP (Zc c4)).t)]) [] (vf) (hN g6 w6) bE
   have w3 := kX ((!y1_0)) false nbf w2
   refine Ze (fun g3 => ?_) (fun g3 => ?_)
   ·
    refine Zz (fun z4 c4 => ?_)
    cases z4 with
    | r0 y4_0 =>
     have w5 := kK (tQ (Zc c4) 6) <| hT g3 w3
     refine Ze (fun g5 => ?_) (fun g5 => ?_)
     ·
      have w6 := kX ((!y4_0)) true nbt w5
      refine Ze (fun g6 => ?_) (fun g6 => ?_)
      ·
       exact fxC (Za (oq [1, 2, 5, 7, 9]) [] [] [] [(0, (tP (Zc c1)).t), (2, (tP (Zc c4)).t)]) [] (vT) (hY g6 w6) bE
      refine Ze (fun g7 => ?_) (fun g7 => ?_)
      ·
       have w8 := hT g0 <| hT g7 <| hN g6 w6
       refine Zz (fun z8 c8 => ?_)
       cases z8 with
       | r0 y8_0 =>
        have w9 := kK (tQ (Zc c8) 8) w8
        refine Ze (fun g9 => ?_) (fun g9 => ?_)
        ·
         have w10 := hT g3 <| kX ((!y8_0)) true nbt w9
         refine Zz (fun z10 c10 => ?_)
         cases z10 with
         | r0 y10_0 =>
          refine Ze (fun g11 => ?_) (fun g11 => ?_)
          ·
           exact fxC (Za (oq [1, 2, 5, 7, 8, 11, 13, 15, 17, 19]) [] [] [] [(0, (tP (Zc c1)).t), (2, (tP (Zc c4)).t), (3, (tP (Zc c8)).t), (4, (tP (Zc c10)).t)]) [] (vf) (kX ((!y10_0)) true nbt <| kK (tQ (Zc c10) 10) w10) bE
          have w12 := kX ((!y10_0)) false nbf <| kK (tQ (Zc c10) 10) w10
          refine Ze (fun g12 => ?_) (fun g12 => ?_)
          ·
           exact fxC (Za (oq [1, 2, 5, 7, 8, 11, 13, 15, 17, 18, 21]) [] [] [] [(0, (tP (Zc c1)).t), (2, (tP (Zc c4)).t), (3, (tP (Zc c8)).t), (4, (tP (Zc c10)).t)]) [] (vT) (hY g12 w12) bE
          exact fxC (Za (oq [1, 2, 5, 7, 8, 11, 13, 15, 17, 18, 20]) [] [] [] [(0, (tP (Zc c1)).t), (2, (tP (Zc c4)).t), (3, (tP (Zc c8)).t), (4, (tP (Zc c10)).t)]) [] (vf) (hN g12 w12) bE
        have w10 := hT g3 <| kX ((!y8_0)) false nbf w9
        refine Zz (fun z10 c10 => ?_)
        cases z10 with
        | r0 y10_0 =>
         refine Ze (fun g11 => ?_) (fun g11 => ?_)
         ·
          have w12 := kX ((!y10_0)) true nbt <| kK (tQ (Zc c10) 10) w10
          refine Ze (fun g12 => ?_) (fun g12 => ?_)
          ·
           exact fxC (Za (oq [1, 2, 5, 7, 8, 11, 13, 14, 17, 19, 21]) [] [] [] [(0, (tP (Zc c1)).t), (2, (tP (Zc c4)).t), (3, (tP (Zc c8)).t), (4, (tP (Zc c10)).t)]) [] (vT) (hY g12 w12) bE
          exact fxC (Za (oq [1, 2, 5, 7, 8, 11, 13, 14, 17, 19, 20]) [] [] [] [(0, (tP (Zc c1)).t), (2, (tP (Zc c4)).t), (3, (tP (Zc c8)).t), (4, (tP (Zc c10)).t)]) [] (vf) (hN g12 w12) bE
         have w12 := kX ((!y10_0)) false nbf <| kK (tQ (Zc c10) 10) w10
         refine Ze (fun g12 => ?_) (fun g12 => ?_)
         ·
          exact fxC (Za (oq [1, 2, 5, 7, 8, 11, 13, 14, 17, 18, 21]) [] [] [] [(0, (tP (Zc c1)).t), (2, (tP (Zc c4)).t), (3, (tP (Zc c8)).t), (4, (tP (Zc c10)).t)]) [] (vT) (hY g12 w12) bE
         exact fxC (Za (oq [1, 2, 5, 7, 8, 11, 13, 14, 17, 18, 20]) [] [] [] [(0, (tP (Zc c1)).t), (2, (tP (Zc c4)).t), (3, (tP (Zc c8)).t), (4, (tP (Zc c10)).t)]) [] (vf) (hN g12 w12) bE
      exact fxC (Za (oq [1, 2, 5, 7, 8, 10]) [] [] [] [(0, (tP (Zc c1)).t), (2, (tP (Zc c4)).t)]) [] (vf) (hF g7 <| hN g6 w6) bE
     have w6 := kX ((!y4_0)) false nbf w5
     refine Ze (fun g6 => ?_) (fun g6 => ?_)
     ·
      exact fxC (Za (oq [1, 2, 5, 6, 9]) [] [] [] [(0, (tP (Zc c1)).t), (2, (tP (Zc c4)).t)]) [] (vT) (hY g6 w6) bE
     refine Ze (fun g7 => ?_) (fun g7 => ?_)
     ·
      have w8 := hT g0 <| hT g7 <| hN g6 w6
      refine Zz (fun z8 c8 => ?_)
      cases z8 with
      | r0 y8_0 =>
       have w9 := kK (tQ (Zc c8) 8) w8
       refine Ze (fun g9 => ?_) (fun g9 => ?_)
       ·
        have w10 := hT g3 <| kX ((!y8_0)) true nbt w9
        refine Zz (fun z10 c10 => ?_)
        cases z10 with
        | r0 y10_0 =>
         refine Ze (fun g11 => ?_) (fun g11 => ?_)
         ·
          exact fxC (Za (oq [1, 2, 5, 6, 8, 11, 13, 15, 17, 19]) [] [] [] [(0, (tP (Zc c1)).t), (2, (tP (Zc c4)).t), (4, (tP (Zc c8)).t), (5, (tP (Zc c10)).t)]) [] (vf) (kX ((!y10_0)) true nbt <| kK (tQ (Zc c10) 10) w10) bE
         have w12 := kX ((!y10_0)) false nbf <| kK (tQ (Zc c10) 10) w10
         refine Ze (fun g12 => ?_) (fun g12 => ?_)
         ·
          exact fxC (Za (oq [1, 2, 5, 6, 8, 11, 13, 15, 17, 18, 21]) [] [] [] [(0, (tP (Zc c1)).t), (2, (tP (Zc c4)).t), (4, (tP (Zc c8)).t), (5, (tP (Zc c10)).t)]) [] (vT) (hY g12 w12) bE
         exact fxC (Za (oq [1, 2, 5, 6, 8, 11, 13, 15, 17, 18, 20]) [] [] [] [(0, (tP (Zc c1)).t), (2, (tP (Zc c4)).t), (4, (tP (Zc c8)).t), (5, (tP (Zc c10)).t)]) [] (vf) (hN g12 w12) bE
       have w10 := hT g3 <| kX ((!y8_0)) false nbf w9
       refine Zz (fun z10 c10 => ?_)
       cases z10 with
       | r0 y10_0 =>
        refine Ze (fun g11 => ?_) (fun g11 => ?_)
        ·
         have w12 := kX ((!y10_0)) true nbt <| kK (tQ (Zc c10) 10) w10
         refine Ze (fun g12 => ?_) (fun g12 => ?_)
         ·
          exact fxC (Za (oq [1, 2, 5, 6, 8, 11, 13, 14, 17, 19, 21]) [] [] [] [(0, (tP (Zc c1)).t), (2, (tP (Zc c4)).t), (4, (tP (Zc c8)).t), (5, (tP (Zc c10)).t)]) [] (vT) (hY g12 w12) bE
         exact fxC (Za (oq [1, 2, 5, 6, 8, 11, 13, 14, 17, 19, 20]) [] [] [] [(0, (tP (Zc c1)).t), (2, (tP (Zc c4)).t), (4, (tP (Zc c8)).t), (5, (tP (Zc c10)).t)]) [] (vf) (hN g12 w12) bE
        have w12 := kX ((!y10_0)) false nbf <| kK (tQ (Zc c10) 10) w10
        refine Ze (fun g12 => ?_) (fun g12 => ?_)
        ·
         exact fxC (Za (oq [1, 2, 5, 6, 8, 11, 13, 14, 17, 18, 21]) [] [] [] [(0, (tP (Zc c1)).t), (2, (tP (Zc c4)).t), (4, (tP (Zc c8)).t), (5, (tP (Zc c10)).t)]) [] (vT) (hY g12 w12) bE
        exact fxC (Za (oq [1, 2, 5, 6, 8, 11, 13, 14, 17, 18, 20]) [] [] [] [(0, (tP (Zc c1)).t), (2, (tP (Zc c4)).t), (4, (tP (Zc c8)).t), (5, (tP (Zc c10)).t)]) [] (vf) (hN g12 w12) bE
     exact fxC (Za (oq [1, 2, 5, 6, 8, 10]) [] [] [] [(0, (tP (Zc c1)).t), (2, (tP (Zc c4)).t)]) [] (vf) (hF g7 <| hN g6 w6) bE
   refine Ze (fun g4 => ?_) (fun g4 => ?_)
   ·
    exact fxC (Za (oq [1, 2, 4, 9]) [] [] [] [(0, (tP (Zc c1)).t)]) [] (vT) (hY g4 <| hF g3 w3) bE
   refine Ze (fun g5 => ?_) (fun g5 => ?_)
   ·
    refine Zz (fun z6 c6 => ?_)
    cases z6 with
    | r0 y6_0 =>
     have w7 := kK (tQ (Zc c6) 8) <| hT g0 <| hT g5 <| hN g4 <| hF g3 w3
     refine Ze (fun g7 => ?_) (fun g7 => ?_)
     ·
      exact fxC (Za (oq [1, 2, 4, 8, 11, 13, 15, 16]) [] [] [] [(0, (tP (Zc c1)).t), (2, (tP (Zc c6)).t)]) [] (vf) (hF g3 <| kX ((!y6_0)) true nbt w7) bE
     have w8 := hF g3 <| kX ((!y6_0)) false nbf w7
     refine Ze (fun g8 => ?_) (fun g8 => ?_)
     ·
      exact fxC (Za (oq [1, 2, 4, 8, 11, 13, 14, 16, 21]) [] [] [] [(0, (tP (Zc c1)).t), (2, (tP (Zc c6)).t)]) [] (vT) (hY g8 w8) bE
     exact fxC (Za (oq [1, 2, 4, 8, 11, 13, 14, 16, 20]) [] [] [] [(0, (tP (Zc c1)).t), (2, (tP (Zc c6)).t)]) [] (vf) (hN g8 w8) bE
   exact fxC (Za (oq [1, 2, 4, 8, 10]) [] [] [] [(0, (tP (Zc c1)).t)]) [] (vf) (hF g5 <| hN g4 <| hF g3 w3) bE
 refine Ze (fun g1 => ?_) (fun g1 => ?_)
 ·
  refine Zz (fun z2 c2 => ?_)
  cases z2 with
  | r0 y2_0 =>
   have w3 := kK (tQ (Zc c2) 6) <| hT g1 <| hF g0 Zb
   refine Ze (fun g3 => ?_) (fun g3 => ?_)
   ·
    have w4 := hT g1 <| hF g0 <| kX ((!y2_0)) true nbt w3
    refine Zz (fun z4 c4 => ?_)
    cases z4 with
    | r0 y4_0 =>
     refine Ze (fun g5 => ?_) (fun g5 => ?_)
     ·
      exact fxC (Za (oq [0, 5, 7, 12, 17, 19]) [] [] [] [(0, (tP (Zc c2)).t), (1, (tP (Zc c4)).t)]) [] (vf) (kX ((!y4_0)) true nbt <| kK (tQ (Zc c4) 10) w4) bE
     have w6 := kX ((!y4_0)) false nbf <| kK (tQ (Zc c4) 10) w4
     refine Ze (fun g6 => ?_) (fun g6 => ?_)
     ·
      exact fxC (Za (oq [0, 5, 7, 12, 17, 18, 21]) [] [] [] [(0, (tP (Zc c2)).t), (1, (tP (Zc c4)).t)]) [] (vT) (hY g6 w6) bE
     exact fxC (Za (oq [0, 5, 7, 12, 17, 18, 20]) [] [] [] [(0, (tP (Zc c2)).t), (1, (tP (Zc c4)).t)]) [] (vf) (hN g6 w6) bE
   have w4 := kX ((!y2_0)) false nbf w3
   refine Ze (fun g4 => ?_) (fun g4 => ?_)
   ·
    exact fxC (Za (oq [0, 5, 6, 9]) [] [] [] [(0, (tP (Zc c2)).t)]) [] (vT) (hY g4 w4) bE
   refine Ze (fun g5 => ?_) (fun g5 => ?_)
   ·
    refine Zz (fun z6 c6 => ?_)
    cases z6 with
    | r0 y6_0 =>
     have w7 := kK (tQ (Zc c6) 10) <| hT g1 <| hF g0 <| hT g5 <| hN g4 w4
     refine Ze (fun g7 => ?_) (fun g7 => ?_)
     ·
      exact fxC (Za (oq [0, 5, 6, 8, 11, 12, 17, 19]) [] [] [] [(0, (tP (Zc c2)).t), (2, (tP (Zc c6)).t)]) [] (vf) (kX ((!y6_0)) true nbt w7) bE
     have w8 := kX ((!y6_0)) false nbf w7
     refine Ze (fun g8 => ?_) (fun g8 => ?_)
     ·
      exact fxC (Za (oq [0, 5, 6, 8, 11, 12, 17, 18, 21]) [] [] [] [(0, (tP (Zc c2)).t), (2, (tP (Zc c6)).t)]) [] (vT) (hY g8 w8) bE
     exact fxC (Za (oq [0, 5, 6, 8, 11, 12, 17, 18, 20]) [] [] [] [(0, (tP (Zc c2)).t), (2, (tP (Zc c6)).t)]) [] (vf) (hN g8 w8) bE
   exact fxC (Za (oq [0, 5, 6, 8, 10]) [] [] [] [(0, (tP (Zc c2)).t)]) [] (vf) (hF g5 <| hN g4 w4) bE
 exact fxC (Za (oq [0, 4, 12, 16]) [] [] [] []) [] (vf) (hF g1 <| hF g0 <| hF g1 <| hF g0 Zb) bE

theorem ZtU (a0 a1 a2 a3 : Int) (N : Nat) (r : Zy) (h : Zi6 a0 a1 a2 a3 N = some r) : LSpec Tryz.prog 31 #[Value.agg #[vi a0, vi a1], Value.agg #[vi a2, vi a3]] [] (Zmw r) (Zlu r) :=
 Zax ZB Tryz.func31 (by kernel_rfl) (by kernel_rfl) (fun r => by cases r <;> exact Zu _ rfl) (Zw0 a0 a1 a2 a3 N) h

theorem ZiL {a0 a1 a2 a3 : Int} {N : Nat} {r : Zy} (h : Zi6 a0 a1 a2 a3 N = some r) : LSpec Tryz.prog 31 #[Value.agg #[vi a0, vi a1], Value.agg #[vi a2, vi a3]] [] (Zmw r) (Zlu r) := ZtU a0 a1 a2 a3 N r h

open Mach (oi ok_ite ok_bind okF okN okH okC enH)
set_option linter.unusedVariables false
set_option maxRecDepth 100000
noncomputable def ZlT : Zaf → Value
 | .r0 => vn
 | .r1 w0 => vs 0 0 w0.length w0.length
noncomputable def Zlv : Zaf → List (Option AObj)
 | .r0 => []
 | .r1 w0 => [some (.cells (Zd RC w0) 97)]

noncomputable def Zng : Zaf → Value
 | .r0 => ms RC ([] : List RJ)
 | .r1 w0 => ms RC w0
noncomputable def ZlU : Zaf → List (Option AObj)
 | .r0 => []
 | .r1 w0 => []

def ZtV : Zt → Nat
 | .h1m0 v0 => 1
 | .h1m1 v0 v1 => 1
 | .h2m0 v0 => 2
 | .h2m1 v0 v1 v2 => 2
 | .h3m0 v0 => 3
 | .h3m1 v0 v1 v2 => 3
noncomputable def Zvc (L0 : List (List RI)) (L1 : List RL) (L2 : List RJ) : Zt → List (Nat × Value)
 | .h1m0 v0 => [(1, vp 0 0), (3, vn), (4, vi (v0 : Int))]
 | .h1m1 v0 v1 => [(1, vp 0 0), (3, vs 1 0 v0.length v0.length), (4, vi (v1 : Int))]
 | .h2m0 v0 => [(1, vp 0 0), (3, vn), (4, vi (v0 : Int)), (5, vq)]
 | .h2m1 v0 v1 v2 => [(1, vp 0 0), (3, vs 1 0 v0.length v0.length), (4, vi (v1 : Int)), (5, vi (v2 : Int))]
 | .h3m0 v0 => [(1, vp 0 0), (3, vn), (4, vi (v0 : Int)), (5, vq)]
 | .h3m1 v0 v1 v2 => [(1, vp 0 0), (3, vs 1 0 v0.length v0.length), (4, vi (v1 : Int)), (5, vi (v2 : Int))]
section
variable (L0 : List (List RI)) (L1 : List RL) (L2 : List RJ)
noncomputable def Zvd : Zt → List (Option AObj)
 | .h1m0 v0 => [some (.cells (κf L0 L1 L2) 34)]
 | .h1m1 v0 v1 => [some (.cells (κf L0 L1 L2) 34), some (.cells (Zd RC v0) 97)]
 | .h2m0 v0 => [some (.cells (κf L0 L1 L2) 34)]
 | .h2m1 v0 v1 v2 => [some (.cells (κf L0 L1 L2) 34), some (.cells (Zd RC v0) 97)]
 | .h3m0 v0 => [some (.cells (κf L0 L1 L2) 34)]
 | .h3m1 v0 v1 v2 => [some (.cells (κf L0 L1 L2) 34), some (.cells (Zd RC v0) 97)]

noncomputable def ZW : Nat → Code × List ZD
 | 1 => ZX [1, 1, 0, 1, 3] (Zaw Tryz.f10) []
 | 2 => ZX [1, 1, 0, 1, 3, 7, 1, 0, 3, 1, 1, 0, 3] (Zaw Tryz.f10) []
 | 3 => Zpv [1, 1, 0, 1, 3, 7, 1, 0, 3, 1, 1, 1] (Zaw Tryz.f10) []
 | _ => (.skip, [])
def ZlV : Nat → Bool
 | 1 => true
 | 2 => true
 | 3 => false
 | _ => true
noncomputable def ZaZ (i : Nat) : List ZD := match ZlV i with | true => .rnd i :: (ZW i).2 | false => (ZW i).2

noncomputable def ZaC (N : Nat) : Mach := ⟨Tryz.f10, [], Zt, Zaf, Zb1 L0 L1 L2 N, ZtV, ZW, ZlV, Zvc L0 L1 L2, Zvd L0 L1 L2, ZlT, Zlv⟩

theorem ZoH (v0 N : Nat) : (ZaC L0 L1 L2 N).Ok Tryz.prog Zg (.h1m0 v0 : Zt) (Zb1 L0 L1 L2 N (.h1m0 v0 : Zt)) := by
 show (ZaC L0 L1 L2 N).Ok Tryz.prog Zg (.h1m0 v0 : Zt) (ZgD L0 L1 L2 N v0)
 unfold ZgD
 refine ok_ite (fun g0 => ?_) fun g0 => ?_
 ·
  have w1 := kG RC L2 (((0 + (v0 * 8)) + 2) + 3) v0 5 1 8 <| kB v0 L2.length <| kI (v0 : Int) (Int.ofNat v0) <| hY g0 Zb
  refine ok_ite (fun g1 => ?_) fun g1 => ?_
  ·
   refine oi fun g2 => ?_
   exact okN (Za (oq [1, 3]) [(0, (((v0 + 1) : Nat) : Int))] [(0, v0)] [(2, [.i (L2.getD v0 RJ.z).a5])] []) [0] [some (vp 0 0), some (vn), some (vi (((v0 + 1) : Nat) : Int))] (kW ((v0 : Int) + 1) (((v0 + 1) : Nat) : Int) <| hT g1 w1) (tC (tC (tC (tE)))) (bS (κf L0 L1 L2) <| bE) (show 1 ∈ Zj (ZaZ 1) from by decide +kernel)
  exact okH (ZW 2) (Za (oq [1, 2]) [] [(0, v0)] [(2, [.i (L2.getD v0 RJ.z).a5])] []) [0] [some (vp 0 0), some (vn), some (vi (v0 : Int)), some (vq)] (hF g1 w1) (tC (tC (tC (tC (tE))))) (bS (κf L0 L1 L2) <| bE) (show ∀ j ∈ Zj (ZW 2).2, j ∈ Zj (ZaZ 1) from by decide +kernel)
 exact okF (Za (oq [0]) [] [] [] []) [] (vn) (hN g0 Zb) bE

theorem ZoI (v0 : List RJ) (v1 N : Nat) : (ZaC L0 L1 L2 N).Ok Tryz.prog Zg (.h1m1 v0 v1 : Zt) (Zb1 L0 L1 L2 N (.h1m1 v0 v1 : Zt)) := by
 show (ZaC L0 L1 L2 N).Ok Tryz.prog Zg (.h1m1 v0 v1 : Zt) (ZgE L0 L1 L2 N v0 v1)
 unfold ZgE
 refine ok_ite (fun g0 => ?_) fun g0 => ?_
 ·
  have w1 := kG RC L2 (((0 + (v1 * 8)) + 2) + 3) v1 5 1 8 <| kB v1 L2.length <| kI (v1 : Int) (Int.ofNat v1) <| hY g0 Zb
  refine ok_ite (fun g1 => ?_) fun g1 => ?_
  ·
   refine oi fun g2 => ?_
   exact okN (Za (oq [1, 3]) [(0, (((v1 + 1) : Nat) : Int))] [(0, v1)] [(2, [.i (L2.getD v1 RJ.z).a5])] []) [0, 1] [some (vp 0 0), some (κbd v0), some (κw v1)] (kW ((v1 : Int) + 1) (((v1 + 1) : Nat) : Int) <| hT g1 w1) (tC (tC (tC (tE)))) (bS (κf L0 L1 L2) <| bR <| bE) (show 1 ∈ Zj (ZaZ 1) from by decide +kernel)
  exact okH (ZW 2) (Za (oq [1, 2]) [] [(0, v1)] [(2, [.i (L2.getD v1 RJ.z).a5])] []) [0, 1] [some (vp 0 0), some (κbd v0), some (vi (v1 : Int)), some (vq)] (hF g1 w1) (tC (tC (tC (tC (tE) ⟨Eq.trans (show κn = vq from ci) (by rfl), by rfl⟩)))) (bS (κf L0 L1 L2) <| bR <| bE) (show ∀ j ∈ Zj (ZW 2).2, j ∈ Zj (ZaZ 1) from by decide +kernel)
 exact okF (Za (oq [0]) [] [] [] []) [1] (κbd v0) (hN g0 Zb) (bR <| bE)

theorem ZoJ (v0 N : Nat) : (ZaC L0 L1 L2 N).Ok Tryz.prog Zg (.h2m0 v0 : Zt) (Zb1 L0 L1 L2 N (.h2m0 v0 : Zt)) := by
 show (ZaC L0 L1 L2 N).Ok Tryz.prog Zg (.h2m0 v0 : Zt) (ZgF L0 L1 L2 N v0)
 unfold ZgF
 exact okC (ZW 3) 5 0 (Za (oq []) [] [] [] []) [0] [some (vp 0 0), some (vn), some (vi (v0 : Int)), some (vq)] Zb (tC (tC (tC (tC (tE))))) (bS (κf L0 L1 L2) <| bE) (show ∀ j ∈ Zj (ZW 3).2, j ∈ Zj (ZaZ 2) from by decide +kernel)

theorem ZoK (v0 : List RJ) (v1 v2 N : Nat) : (ZaC L0 L1 L2 N).Ok Tryz.prog Zg (.h2m1 v0 v1 v2 : Zt) (Zb1 L0 L1 L2 N (.h2m1 v0 v1 v2 : Zt)) := by
 show (ZaC L0 L1 L2 N).Ok Tryz.prog Zg (.h2m1 v0 v1 v2 : Zt) (ZgG L0 L1 L2 N v0 v1 v2)
 unfold ZgG
 refine ok_ite (fun g0 => ?_) fun g0 => ?_
 ·
  have w1 := kL RC v0 v2 0 2 <| kB v2 v0.length <| kI (v2 : Int) (Int.ofNat v2) <| hY g0 Zb
  refine oi fun g1 => ?_
  have w2 := kG RC L2 ((0 + (v1 * 8)) + 0) v1 0 2 8 <| kB v1 L2.length <| kI (v1 : Int) (Int.ofNat v1) w1
  refine ok_bind fun z2 c2 => ?_
  cases z2 with
  | r0 y2_0 =>
   refine ok_ite (fun g3 => ?_) fun g3 => ?_
   ·
    subst g3
    refine oi fun g4 => ?_
    exact okN (Za (oq [1]) [(0, (((v2 + 1) : Nat) : Int))] [(0, v2), (1, v1)] [(0, [.i (v0.getD v2 RJ.z).a0, .i (v0.getD v2 RJ.z).a1]), (2, [.i (L2.getD v1 RJ.z).a0, .i (L2.getD v1 RJ.z).a1])] [(0, (tP (ZiL c2)).t)]) [0, 1] [some (vp 0 0), some (κbd v0), some (vi (v1 : Int)), some (κB v2)] (kW ((v2 : Int) + 1) (((v2 + 1) : Nat) : Int) <| kK (tQ (ZiL c2) 2) w2) (tC (tC (tC (tC (tE))))) (bS (κf L0 L1 L2) <| bR <| bE) (show 2 ∈ Zj (ZaZ 2) from by decide +kernel)
   obtain rfl : y2_0 = false := by simpa using g3
   exact okC (ZW 3) 5 0 (Za (oq [1]) [] [(0, v2), (1, v1)] [(0, [.i (v0.getD v2 RJ.z).a0, .i (v0.getD v2 RJ.z).a1]), (2, [.i (L2.getD v1 RJ.z).a0, .i (L2.getD v1 RJ.z).a1])] [(0, (tP (ZiL c2)).t)]) [0, 1] [some (vp 0 0), some (κbd v0), some (vi (v1 : Int)), some (vi (v2 : Int))] (kK (tQ (ZiL c2) 2) w2) (tC (tC (tC (tC (tE))))) (bS (κf L0 L1 L2) <| bR <| bE) (show ∀ j ∈ Zj (ZW 3).2, j ∈ Zj (ZaZ 2) from by decide +kernel)
 exact okC (ZW 3) 5 0 (Za (oq [0]) [] [] [] []) [0, 1] [some (vp 0 0), some (κbd v0), some (vi (v1 : Int)), some (vi (v2 : Int))] (hN g0 Zb) (tC (tC (tC (tC (tE))))) (bS (κf L0 L1 L2) <| bR <| bE) (show ∀ j ∈ Zj (ZW 3).2, j ∈ Zj (ZaZ 2) from by decide +kernel)

theorem ZoL (v0 N : Nat) : (ZaC L0 L1 L2 N).Ok Tryz.prog Zg (.h3m0 v0 : Zt) (Zb1 L0 L1 L2 N (.h3m0 v0 : Zt)) := by
 show (ZaC L0 L1 L2 N).Ok Tryz.prog Zg (.h3m0 v0 : Zt) (ZgH L0 L1 L2 N v0)
 unfold ZgH
 refine oi fun g0 => ?_
 refine oi fun g1 => ?_
 exact okN (Za (oq []) [(0, (((v0 + 1) : Nat) : Int))] [(0, v0)] [(1, (RC.cel (L2.getD v0 RJ.z)))] []) [0, 2] [some (vp 0 0), some (vs 2 0 1 1), some (vi (((v0 + 1) : Nat) : Int))] (kW ((v0 : Int) + 1) (((v0 + 1) : Nat) : Int) <| kG RC L2 (0 + (v0 * 8)) v0 0 8 8 <| kB v0 L2.length <| kI (v0 : Int) (Int.ofNat v0) Zb) (tC (tC (tC (tE)) ⟨Eq.trans (show (vs 1 0 ([(⟨(L2.getD v0 RJ.z).a0, (L2.getD v0 RJ.z).a1, (L2.getD v0 RJ.z).a2, (L2.getD v0 RJ.z).a3, (L2.getD v0 RJ.z).a4, (L2.getD v0 RJ.z).a5, (L2.getD v0 RJ.z).a6, (L2.getD v0 RJ.z).a7⟩ : RJ)] : List RJ).length ([(⟨(L2.getD v0 RJ.z).a0, (L2.getD v0 RJ.z).a1, (L2.getD v0 RJ.z).a2, (L2.getD v0 RJ.z).a3, (L2.getD v0 RJ.z).a4, (L2.getD v0 RJ.z).a5, (L2.getD v0 RJ.z).a6, (L2.getD v0 RJ.z).a7⟩ : RJ)] : List RJ).length : Value) = vs 1 0 1 1 from (Z0 rfl eqA eqA)) (by rfl), by rfl⟩)) (bS (κf L0 L1 L2) <| bC (o := .cells [vi (L2.getD v0 RJ.z).a0, vi (L2.getD v0 RJ.z).a1, vi (L2.getD v0 RJ.z).a2, vi (L2.getD v0 RJ.z).a3, vi (L2.getD v0 RJ.z).a4, vi (L2.getD v0 RJ.z).a5, vi (L2.getD v0 RJ.z).a6, ms RA (L2.getD v0 RJ.z).a7] 97) (Zae (E := RC) _ (L := ([(⟨(L2.getD v0 RJ.z).a0, (L2.getD v0 RJ.z).a1, (L2.getD v0 RJ.z).a2, (L2.getD v0 RJ.z).a3, (L2.getD v0 RJ.z).a4, (L2.getD v0 RJ.z).a5, (L2.getD v0 RJ.z).a6, (L2.getD v0 RJ.z).a7⟩ : RJ)] : List RJ)) _ (show ([vi (L2.getD v0 RJ.z).a0, vi (L2.getD v0 RJ.z).a1, vi (L2.getD v0 RJ.z).a2, vi (L2.getD v0 RJ.z).a3, vi (L2.getD v0 RJ.z).a4, vi (L2.getD v0 RJ.z).a5, vi (L2.getD v0 RJ.z).a6, ms RA (L2.getD v0 RJ.z).a7] : List Value) = Zd RC ([(⟨(L2.getD v0 RJ.z).a0, (L2.getD v0 RJ.z).a1, (L2.getD v0 RJ.z).a2, (L2.getD v0 RJ.z).a3, (L2.getD v0 RJ.z).a4, (L2.getD v0 RJ.z).a5, (L2.getD v0 RJ.z).a6, (L2.getD v0 RJ.z).a7⟩ : RJ)] : List RJ) from rfl)) <| bE) (show 1 ∈ Zj (ZaZ 3) from by decide +kernel)

noncomputable abbrev κZ (v0 : List RJ) (v2 : Nat) := (Zd RC (v0.take (v2 - 0)))
noncomputable abbrev κQ (v0 : List RJ) (v2 : Nat) := (Zd RC ((v0.drop v2).take (v0.length - v2)))
theorem ZoM (v0 : List RJ) (v1 v2 N : Nat) : (ZaC L0 L1 L2 N).Ok Tryz.prog Zg (.h3m1 v0 v1 v2 : Zt) (Zb1 L0 L1 L2 N (.h3m1 v0 v1 v2 : Zt)) := by
 show (ZaC L0 L1 L2 N).Ok Tryz.prog Zg (.h3m1 v0 v1 v2 : Zt) (ZgI L0 L1 L2 N v0 v1 v2)
 unfold ZgI
 refine oi fun g0 => ?_
 have w1 := kX (dP (0 ≤ v2 ∧ v2 ≤ v0.length)) true (Z1 ⟨ltA, ltA⟩) <| kI (v2 : Int) (Int.ofNat v2) <| kR 0 Zb
 refine ok_ite (fun g1 => ?_) fun g1 => ?_
 ·
  have w2 := kX (dP (0 = (v2 - 0) ∧ ZO ((v2 - 0) * 8) (List.drop (0 + (0 * 8)) (Zd RC v0)) = some [] ∧ Z5 Zbw [] = true)) true (Z1 ⟨by omega, by rw [show (v2 - 0) = 0 by omega]; rfl, rfl⟩) w1
  refine oi fun g2 => ?_
  have w3 := kX (dP (v2 ≤ v0.length ∧ v0.length ≤ v0.length)) true (Z1 ⟨ltA, ltA⟩) <| kR v0.length <| kI (v2 : Int) (Int.ofNat v2) <| kG RC L2 (0 + (v1 * 8)) v1 0 8 8 <| kB v1 L2.length <| kI (v1 : Int) (Int.ofNat v1) w2
  refine ok_ite (fun g3 => ?_) fun g3 => ?_
  ·
   refine oi fun g4 => ?_
   exact okN (Za (oq []) [(0, (((v1 + 1) : Nat) : Int))] [(0, v1)] [(1, (RC.cel (L2.getD v1 RJ.z)))] [(0, .sl 0 v2), (1, .ap0), (3, .sl v2 v0.length), (4, .ap0)]) [0, 3] [some (vp 0 0), some (vs 3 0 1 1), some (κw v1)] (kW ((v1 : Int) + 1) (((v1 + 1) : Nat) : Int) <| kX (dP (0 = (v0.length - v2) ∧ ZO ((v0.length - v2) * 8) (List.drop (0 + (v2 * 8)) (Zd RC v0)) = some [] ∧ Z5 Zbw [] = true)) true (Z1 ⟨by omega, by rw [show (v0.length - v2) = 0 by omega]; rfl, rfl⟩) w3) (tC (tC (tC (tE)) ⟨Eq.trans (show (vs 1 0 ([(⟨(L2.getD v1 RJ.z).a0, (L2.getD v1 RJ.z).a1, (L2.getD v1 RJ.z).a2, (L2.getD v1 RJ.z).a3, (L2.getD v1 RJ.z).a4, (L2.getD v1 RJ.z).a5, (L2.getD v1 RJ.z).a6, (L2.getD v1 RJ.z).a7⟩ : RJ)] : List RJ).length ([(⟨(L2.getD v1 RJ.z).a0, (L2.getD v1 RJ.z).a1, (L2.getD v1 RJ.z).a2, (L2.getD v1 RJ.z).a3, (L2.getD v1 RJ.z).a4, (L2.getD v1 RJ.z).a5, (L2.getD v1 RJ.z).a6, (L2.getD v1 RJ.z).a7⟩ : RJ)] : List RJ).length : Value) = vs 1 0 1 1 from (Z0 rfl eqA eqA)) (by rfl), by rfl⟩)) (bS (κf L0 L1 L2) <| bC (o := .cells [vi (L2.getD v1 RJ.z).a0, vi (L2.getD v1 RJ.z).a1, vi (L2.getD v1 RJ.z).a2, vi (L2.getD v1 RJ.z).a3, vi (L2.getD v1 RJ.z).a4, vi (L2.getD v1 RJ.z).a5, vi (L2.getD v1 RJ.z).a6, ms RA (L2.getD v1 RJ.z).a7] 97) (Zae (E := RC) _ (L := ([(⟨(L2.getD v1 RJ.z).a0, (L2.getD v1 RJ.z).a1, (L2.getD v1 RJ.z).a2, (L2.getD v1 RJ.z).a3, (L2.getD v1 RJ.z).a4, (L2.getD v1 RJ.z).a5, (L2.getD v1 RJ.z).a6, (L2.getD v1 RJ.z).a7⟩ : RJ)] : List RJ)) _ (show ([vi (L2.getD v1 RJ.z).a0, vi (L2.getD v1 RJ.z).a1, vi (L2.getD v1 RJ.z).a2, vi (L2.getD v1 RJ.z).a3, vi (L2.getD v1 RJ.z).a4, vi (L2.getD v1 RJ.z).a5, vi (L2.getD v1 RJ.z).a6, ms RA (L2.getD v1 RJ.z).a7] : List Value) = Zd RC ([(⟨(L2.getD v1 RJ.z).a0, (L2.getD v1 RJ.z).a1, (L2.getD v1 RJ.z).a2, (L2.getD v1 RJ.z).a3, (L2.getD v1 RJ.z).a4, (L2.getD v1 RJ.z).a5, (L2.getD v1 RJ.z).a6, (L2.getD v1 RJ.z).a7⟩ : RJ)] : List RJ) from rfl)) <| bE) (show 1 ∈ Zj (ZaZ 3) from by decide +kernel)
  refine oi fun g4 => ?_
  refine oi fun g5 => ?_
  exact okN (Za (oq []) [(0, (((v1 + 1) : Nat) : Int))] [(0, v1)] [(1, (RC.cel (L2.getD v1 RJ.z)))] [(0, .sl 0 v2), (1, .ap0), (3, .sl v2 v0.length), (4, .ap (v0.length - v2) (κQ v0 v2) (Zd RC (([(⟨(L2.getD v1 RJ.z).a0, (L2.getD v1 RJ.z).a1, (L2.getD v1 RJ.z).a2, (L2.getD v1 RJ.z).a3, (L2.getD v1 RJ.z).a4, (L2.getD v1 RJ.z).a5, (L2.getD v1 RJ.z).a6, (L2.getD v1 RJ.z).a7⟩ : RJ)] : List RJ) ++ ((v0.drop v2).take (v0.length - v2)))))]) [0, 4] [some (vp 0 0), some (vs 4 0 (1 + (v0.length - v2)) (1 + (v0.length - v2))), some (κw v1)] (kW ((v1 : Int) + 1) (((v1 + 1) : Nat) : Int) <| kX (dP (((v0.length - v2) = (v0.length - v2) ∧ ZO ((v0.length - v2) * 8) (List.drop (0 + (v2 * 8)) (Zd RC v0)) = some (κQ v0 v2) ∧ Z5 Zbw (κQ v0 v2) = true) ∧ 0 < (v0.length - v2) ∧ (v0.length - v2) ≤ 100000 ∧ 1 < 1 + (v0.length - v2) ∧ 1 ≤ 100000 ∧ 1 * 8 ≤ (List.length [vi (L2.getD v1 RJ.z).a0, vi (L2.getD v1 RJ.z).a1, vi (L2.getD v1 RJ.z).a2, vi (L2.getD v1 RJ.z).a3, vi (L2.getD v1 RJ.z).a4, vi (L2.getD v1 RJ.z).a5, vi (L2.getD v1 RJ.z).a6, ms RA (L2.getD v1 RJ.z).a7]) ∧ List.take (1 * 8) [vi (L2.getD v1 RJ.z).a0, vi (L2.getD v1 RJ.z).a1, vi (L2.getD v1 RJ.z).a2, vi (L2.getD v1 RJ.z).a3, vi (L2.getD v1 RJ.z).a4, vi (L2.getD v1 RJ.z).a5, vi (L2.getD v1 RJ.z).a6, ms RA (L2.getD v1 RJ.z).a7] ++ (κQ v0 v2) = (Zd RC (([(⟨(L2.getD v1 RJ.z).a0, (L2.getD v1 RJ.z).a1, (L2.getD v1 RJ.z).a2, (L2.getD v1 RJ.z).a3, (L2.getD v1 RJ.z).a4, (L2.getD v1 RJ.z).a5, (L2.getD v1 RJ.z).a6, (L2.getD v1 RJ.z).a7⟩ : RJ)] : List RJ) ++ ((v0.drop v2).take (v0.length - v2)))))) true (Z1 ⟨⟨rfl, (Zup (E := RC) (L := v0) (a := v2) (n := (v0.length - v2)) (by omega) (by show _ = _ * 8; omega) (show _ = _ * 8 from rfl) rfl)⟩, by omega, by omega, ltA, by omega, (Zbf (E := RC) (L := ([(⟨(L2.getD v1 RJ.z).a0, (L2.getD v1 RJ.z).a1, (L2.getD v1 RJ.z).a2, (L2.getD v1 RJ.z).a3, (L2.getD v1 RJ.z).a4, (L2.getD v1 RJ.z).a5, (L2.getD v1 RJ.z).a6, (L2.getD v1 RJ.z).a7⟩ : RJ)] : List RJ)) (M := ((v0.drop v2).take (v0.length - v2))) (n := 1) (show _ = _ * 8 from rfl) ltA (R := (([(⟨(L2.getD v1 RJ.z).a0, (L2.getD v1 RJ.z).a1, (L2.getD v1 RJ.z).a2, (L2.getD v1 RJ.z).a3, (L2.getD v1 RJ.z).a4, (L2.getD v1 RJ.z).a5, (L2.getD v1 RJ.z).a6, (L2.getD v1 RJ.z).a7⟩ : RJ)] : List RJ) ++ ((v0.drop v2).take (v0.length - v2)))) (by rw [List.take_of_length_le ltA]))⟩) w3) (tC (tC (tC (tE)) ⟨Eq.trans (show (vs 1 0 (([(⟨(L2.getD v1 RJ.z).a0, (L2.getD v1 RJ.z).a1, (L2.getD v1 RJ.z).a2, (L2.getD v1 RJ.z).a3, (L2.getD v1 RJ.z).a4, (L2.getD v1 RJ.z).a5, (L2.getD v1 RJ.z).a6, (L2.getD v1 RJ.z).a7⟩ : RJ)] : List RJ) ++ ((v0.drop v2).take (v0.length - v2))).length (([(⟨(L2.getD v1 RJ.z).a0, (L2.getD v1 RJ.z).a1, (L2.getD v1 RJ.z).a2, (L2.getD v1 RJ.z).a3, (L2.getD v1 RJ.z).a4, (L2.getD v1 RJ.z).a5, (L2.getD v1 RJ.z).a6, (L2.getD v1 RJ.z).a7⟩ : RJ)] : List RJ) ++ ((v0.drop v2).take (v0.length - v2))).length : Value) = vs 1 0 (1 + (v0.length - v2)) (1 + (v0.length - v2)) from (Z0 rfl eqA eqA)) (by rfl), by rfl⟩)) (bS (κf L0 L1 L2) <| bR <| bE) (show 1 ∈ Zj (ZaZ 3) from by decide +kernel)
 refine oi fun g2 => ?_
 have w3 := kX (dP (((v2 - 0) = (v2 - 0) ∧ ZO ((v2 - 0) * 8) (List.drop (0 + (0 * 8)) (Zd RC v0)) = some (κZ v0 v2) ∧ Z5 Zbw (κZ v0 v2) = true) ∧ 0 < (v2 - 0) ∧ (v2 - 0) ≤ 100000 ∧ (κZ v0 v2) = (κZ v0 v2))) true (Z1 ⟨⟨rfl, (Zup (E := RC) (L := v0) (a := 0) (n := (v2 - 0)) (by omega) (by show _ = _ * 8; omega) (show _ = _ * 8 from rfl) (by rw [List.drop_zero]))⟩, by omega, by omega, rfl⟩) w1
 refine oi fun g3 => ?_
 have w4 := kX (dP (v2 ≤ v0.length ∧ v0.length ≤ v0.length)) true (Z1 ⟨ltA, ltA⟩) <| kR v0.length <| kI (v2 : Int) (Int.ofNat v2) <| kX (dP ((1 = 1 ∧ ZO (1 * 8) (List.drop 0 [vi (L2.getD v1 RJ.z).a0, vi (L2.getD v1 RJ.z).a1, vi (L2.getD v1 RJ.z).a2, vi (L2.getD v1 RJ.z).a3, vi (L2.getD v1 RJ.z).a4, vi (L2.getD v1 RJ.z).a5, vi (L2.getD v1 RJ.z).a6, ms RA (L2.getD v1 RJ.z).a7]) = some [vi (L2.getD v1 RJ.z).a0, vi (L2.getD v1 RJ.z).a1, vi (L2.getD v1 RJ.z).a2, vi (L2.getD v1 RJ.z).a3, vi (L2.getD v1 RJ.z).a4, vi (L2.getD v1 RJ.z).a5, vi (L2.getD v1 RJ.z).a6, ms RA (L2.getD v1 RJ.z).a7] ∧ Z5 Zbw [vi (L2.getD v1 RJ.z).a0, vi (L2.getD v1 RJ.z).a1, vi (L2.getD v1 RJ.z).a2, vi (L2.getD v1 RJ.z).a3, vi (L2.getD v1 RJ.z).a4, vi (L2.getD v1 RJ.z).a5, vi (L2.getD v1 RJ.z).a6, ms RA (L2.getD v1 RJ.z).a7] = true) ∧ 0 < 1 ∧ 1 ≤ 100000 ∧ (v2 - 0) < (v2 - 0) + 1 ∧ (v2 - 0) ≤ 100000 ∧ (v2 - 0) * 8 ≤ (List.length (κZ v0 v2)) ∧ List.take ((v2 - 0) * 8) (κZ v0 v2) ++ [vi (L2.getD v1 RJ.z).a0, vi (L2.getD v1 RJ.z).a1, vi (L2.getD v1 RJ.z).a2, vi (L2.getD v1 RJ.z).a3, vi (L2.getD v1 RJ.z).a4, vi (L2.getD v1 RJ.z).a5, vi (L2.getD v1 RJ.z).a6, ms RA (L2.getD v1 RJ.z).a7] = (Zd RC ((v0.take (v2 - 0)) ++ ([(⟨(L2.getD v1 RJ.z).a0, (L2.getD v1 RJ.z).a1, (L2.getD v1 RJ.z).a2, (L2.getD v1 RJ.z).a3, (L2.getD v1 RJ.z).a4, (L2.getD v1 RJ.z).a5, (L2.getD v1 RJ.z).a6, (L2.getD v1 RJ.z).a7⟩ : RJ)] : List RJ))))) true (Z1 ⟨⟨rfl, ⟨rfl, rfl⟩⟩, by omega, by omega, ltA, by omega, (Zbf (E := RC) (L := (v0.take (v2 - 0))) (M := ([(⟨(L2.getD v1 RJ.z).a0, (L2.getD v1 RJ.z).a1, (L2.getD v1 RJ.z).a2, (L2.getD v1 RJ.z).a3, (L2.getD v1 RJ.z).a4, (L2.getD v1 RJ.z).a5, (L2.getD v1 RJ.z).a6, (L2.getD v1 RJ.z).a7⟩ : RJ)] : List RJ)) (n := (v2 - 0)) (show _ = _ * 8 from rfl) ltA (R := ((v0.take (v2 - 0)) ++ ([(⟨(L2.getD v1 RJ.z).a0, (L2.getD v1 RJ.z).a1, (L2.getD v1 RJ.z).a2, (L2.getD v1 RJ.z).a3, (L2.getD v1 RJ.z).a4, (L2.getD v1 RJ.z).a5, (L2.getD v1 RJ.z).a6, (L2.getD v1 RJ.z).a7⟩ : RJ)] : List RJ))) (by rw [List.take_of_length_le ltA]))⟩) <| kG RC L2 (0 + (v1 * 8)) v1 0 8 8 <| kB v1 L2.length <| kI (v1 : Int) (Int.ofNat v1) w3
 refine ok_ite (fun g4 => ?_) fun g4 => ?_
 ·
  refine oi fun g5 => ?_
  exact okN (Za (oq []) [(0, (((v1 + 1) : Nat) : Int))] [(0, v1)] [(1, (RC.cel (L2.getD v1 RJ.z)))] [(0, .sl 0 v2), (1, .ap (v2 - 0) (κZ v0 v2) (κZ v0 v2)), (2, .ap 1 [vi (L2.getD v1 RJ.z).a0, vi (L2.getD v1 RJ.z).a1, vi (L2.getD v1 RJ.z).a2, vi (L2.getD v1 RJ.z).a3, vi (L2.getD v1 RJ.z).a4, vi (L2.getD v1 RJ.z).a5, vi (L2.getD v1 RJ.z).a6, ms RA (L2.getD v1 RJ.z).a7] (Zd RC ((v0.take (v2 - 0)) ++ ([(⟨(L2.getD v1 RJ.z).a0, (L2.getD v1 RJ.z).a1, (L2.getD v1 RJ.z).a2, (L2.getD v1 RJ.z).a3, (L2.getD v1 RJ.z).a4, (L2.getD v1 RJ.z).a5, (L2.getD v1 RJ.z).a6, (L2.getD v1 RJ.z).a7⟩ : RJ)] : List RJ)))), (3, .sl v2 v0.length), (4, .ap0)]) [0, 4] [some (vp 0 0), some (vs 4 0 ((v2 - 0) + 1) ((v2 - 0) + 1)), some (κw v1)] (kW ((v1 : Int) + 1) (((v1 + 1) : Nat) : Int) <| kX (dP (0 = (v0.length - v2) ∧ ZO ((v0.length - v2) * 8) (List.drop (0 + (v2 * 8)) (Zd RC v0)) = some [] ∧ Z5 Zbw [] = true)) true (Z1 ⟨by omega, by rw [show (v0.length - v2) = 0 by omega]; rfl, rfl⟩) w4) (tC (tC (tC (tE)) ⟨Eq.trans (show (vs 1 0 ((v0.take (v2 - 0)) ++ ([(⟨(L2.getD v1 RJ.z).a0, (L2.getD v1 RJ.z).a1, (L2.getD v1 RJ.z).a2, (L2.getD v1 RJ.z).a3, (L2.getD v1 RJ.z).a4, (L2.getD v1 RJ.z).a5, (L2.getD v1 RJ.z).a6, (L2.getD v1 RJ.z).a7⟩ : RJ)] : List RJ)).length ((v0.take (v2 - 0)) ++ ([(⟨(L2.getD v1 RJ.z).a0, (L2.getD v1 RJ.z).a1, (L2.getD v1 RJ.z).a2, (L2.getD v1 RJ.z).a3, (L2.getD v1 RJ.z).a4, (L2.getD v1 RJ.z).a5, (L2.getD v1 RJ.z).a6, (L2.getD v1 RJ.z).a7⟩ : RJ)] : List RJ)).length : Value) = vs 1 0 ((v2 - 0) + 1) ((v2 - 0) + 1) from (Z0 rfl eqA eqA)) (by rfl), by rfl⟩)) (bS (κf L0 L1 L2) <| bR <| bE) (show 1 ∈ Zj (ZaZ 3) from by decide +kernel)
 refine oi fun g5 => ?_
 refine oi fun g6 => ?_
 refine oi fun g7 => ?_
 exact okN (Za (oq []) [(0, (((v1 + 1) : Nat) : Int))] [(0, v1)] [(1, (RC.cel (L2.getD v1 RJ.z)))] [(0, .sl 0 v2), (1, .ap (v2 - 0) (κZ v0 v2) (κZ v0 v2)), (2, .ap 1 [vi (L2.getD v1 RJ.z).a0, vi (L2.getD v1 RJ.z).a1, vi (L2.getD v1 RJ.z).a2, vi (L2.getD v1 RJ.z).a3, vi (L2.getD v1 RJ.z).a4, vi (L2.getD v1 RJ.z).a5, vi (L2.getD v1 RJ.z).a6, ms RA (L2.getD v1 RJ.z).a7] (Zd RC ((v0.take (v2 - 0)) ++ ([(⟨(L2.getD v1 RJ.z).a0, (L2.getD v1 RJ.z).a1, (L2.getD v1 RJ.z).a2, (L2.getD v1 RJ.z).a3, (L2.getD v1 RJ.z).a4, (L2.getD v1 RJ.z).a5, (L2.getD v1 RJ.z).a6, (L2.getD v1 RJ.z).a7⟩ : RJ)] : List RJ)))), (3, .sl v2 v0.length), (4, .ap (v0.length - v2) (κQ v0 v2) (Zd RC (((v0.take (v2 - 0)) ++ ([(⟨(L2.getD v1 RJ.z).a0, (L2.getD v1 RJ.z).a1, (L2.getD v1 RJ.z).a2, (L2.getD v1 RJ.z).a3, (L2.getD v1 RJ.z).a4, (L2.getD v1 RJ.z).a5, (L2.getD v1 RJ.z).a6, (L2.getD v1 RJ.z).a7⟩ : RJ)] : List RJ)) ++ ((v0.drop v2).take (v0.length - v2)))))]) [0, 5] [some (vp 0 0), some (vs 5 0 (((v2 - 0) + 1) + (v0.length - v2)) (((v2 - 0) + 1) + (v0.length - v2))), some (κw v1)] (kW ((v1 : Int) + 1) (((v1 + 1) : Nat) : Int) <| kX (dP (((v0.length - v2) = (v0.length - v2) ∧ ZO ((v0.length - v2) * 8) (List.drop (0 + (v2 * 8)) (Zd RC v0)) = some (κQ v0 v2) ∧ Z5 Zbw (κQ v0 v2) = true) ∧ 0 < (v0.length - v2) ∧ (v0.length - v2) ≤ 100000 ∧ ((v2 - 0) + 1) < ((v2 - 0) + 1) + (v0.length - v2) ∧ ((v2 - 0) + 1) ≤ 100000 ∧ ((v2 - 0) + 1) * 8 ≤ (List.length (Zd RC ((v0.take (v2 - 0)) ++ ([(⟨(L2.getD v1 RJ.z).a0, (L2.getD v1 RJ.z).a1, (L2.getD v1 RJ.z).a2, (L2.getD v1 RJ.z).a3, (L2.getD v1 RJ.z).a4, (L2.getD v1 RJ.z).a5, (L2.getD v1 RJ.z).a6, (L2.getD v1 RJ.z).a7⟩ : RJ)] : List RJ)))) ∧ List.take (((v2 - 0) + 1) * 8) (Zd RC ((v0.take (v2 - 0)) ++ ([(⟨(L2.getD v1 RJ.z).a0, (L2.getD v1 RJ.z).a1, (L2.getD v1 RJ.z).a2, (L2.getD v1 RJ.z).a3, (L2.getD v1 RJ.z).a4, (L2.getD v1 RJ.z).a5, (L2.getD v1 RJ.z).a6, (L2.getD v1 RJ.z).a7⟩ : RJ)] : List RJ))) ++ (κQ v0 v2) = (Zd RC (((v0.take (v2 - 0)) ++ ([(⟨(L2.getD v1 RJ.z).a0, (L2.getD v1 RJ.z).a1, (L2.getD v1 RJ.z).a2, (L2.getD v1 RJ.z).a3, (L2.getD v1 RJ.z).a4, (L2.getD v1 RJ.z).a5, (L2.getD v1 RJ.z).a6, (L2.getD v1 RJ.z).a7⟩ : RJ)] : List RJ)) ++ ((v0.drop v2).take (v0.length - v2)))))) true (Z1 ⟨⟨rfl, (Zup (E := RC) (L := v0) (a := v2) (n := (v0.length - v2)) (by omega) (by show _ = _ * 8; omega) (show _ = _ * 8 from rfl) rfl)⟩, by omega, by omega, ltA, by omega, (Zbf (E := RC) (L := ((v0.take (v2 - 0)) ++ ([(⟨(L2.getD v1 RJ.z).a0, (L2.getD v1 RJ.z).a1, (L2.getD v1 RJ.z).a2, (L2.getD v1 RJ.z).a3, (L2.getD v1 RJ.z).a4, (L2.getD v1 RJ.z).a5, (L2.getD v1 RJ.z).a6, (L2.getD v1 RJ.z).a7⟩ : RJ)] : List RJ))) (M := ((v0.drop v2).take (v0.length - v2))) (n := ((v2 - 0) + 1)) (show _ = _ * 8 from rfl) ltA (R := (((v0.take (v2 - 0)) ++ ([(⟨(L2.getD v1 RJ.z).a0, (L2.getD v1 RJ.z).a1, (L2.getD v1 RJ.z).a2, (L2.getD v1 RJ.z).a3, (L2.getD v1 RJ.z).a4, (L2.getD v1 RJ.z).a5, (L2.getD v1 RJ.z).a6, (L2.getD v1 RJ.z).a7⟩ : RJ)] : List RJ)) ++ ((v0.drop v2).take (v0.length - v2)))) (by rw [List.take_of_length_le ltA]))⟩) w4) (tC (tC (tC (tE)) ⟨Eq.trans (show (vs 1 0 (((v0.take (v2 - 0)) ++ ([(⟨(L2.getD v1 RJ.z).a0, (L2.getD v1 RJ.z).a1, (L2.getD v1 RJ.z).a2, (L2.getD v1 RJ.z).a3, (L2.getD v1 RJ.z).a4, (L2.getD v1 RJ.z).a5, (L2.getD v1 RJ.z).a6, (L2.getD v1 RJ.z).a7⟩ : RJ)] : List RJ)) ++ ((v0.drop v2).take (v0.length - v2))).length (((v0.take (v2 - 0)) ++ ([(⟨(L2.getD v1 RJ.z).a0, (L2.getD v1 RJ.z).a1, (L2.getD v1 RJ.z).a2, (L2.getD v1 RJ.z).a3, (L2.getD v1 RJ.z).a4, (L2.getD v1 RJ.z).a5, (L2.getD v1 RJ.z).a6, (L2.getD v1 RJ.z).a7⟩ : RJ)] : List RJ)) ++ ((v0.drop v2).take (v0.length - v2))).length : Value) = vs 1 0 (((v2 - 0) + 1) + (v0.length - v2)) (((v2 - 0) + 1) + (v0.length - v2)) from (Z0 rfl eqA eqA)) (by rfl), by rfl⟩)) (bS (κf L0 L1 L2) <| bR <| bE) (show 1 ∈ Zj (ZaZ 3) from by decide +kernel)

theorem ZsC (N : Nat) : (ZaC L0 L1 L2 N).Enter Tryz.prog Zg #[Value.agg (κc L0 L1 L2)] (Zi7 L0 L1 L2 N) := by
 unfold Zi7
 exact enH (ZW 1) (Za (oq []) [] [] [] []) [0] [some (vp 0 0), some (vn), some (vq)] Zb (tC (tC (tC (tE) ⟨Eq.trans (show κn = vq from ci) (by rfl), by rfl⟩))) (bS (κf L0 L1 L2) <| bE) (show Zj (ZW 1).2 = [] from rfl)

theorem ZoN (N : Nat) (r : Zaf) (h : ZaN L0 L1 L2 N = some r) : LSpec Tryz.prog 10 #[Value.agg (κc L0 L1 L2)] [] (ZlT r) (Zlv r) :=
 Mach.spec ZB (ZaC L0 L1 L2 N) Tryz.func10 (by kernel_rfl) (by kernel_rfl) (fun x => by cases x <;> exact Zu _ rfl) (fun r => by cases r <;> exact Zu _ rfl) (fun x => by
  cases x with
  | h1m0 _ => exact fun _ => (show ¬ (1 ∈ Zj (ZW 1).2) from by decide +kernel)
  | h1m1 _ _ => exact fun _ => (show ¬ (1 ∈ Zj (ZW 1).2) from by decide +kernel)
  | h2m0 _ => exact fun _ => (show ¬ (2 ∈ Zj (ZW 2).2) from by decide +kernel)
  | h2m1 _ _ _ => exact fun _ => (show ¬ (2 ∈ Zj (ZW 2).2) from by decide +kernel)
  | h3m0 _ => exact fun _ => (show ¬ (3 ∈ Zj (ZW 3).2) from by decide +kernel)
  | h3m1 _ _ _ => exact fun _ => (show ¬ (3 ∈ Zj (ZW 3).2) from by decide +kernel)
  ) (fun x => (show (ZaC L0 L1 L2 N).Ok Tryz.prog Zg x (Zb1 L0 L1 L2 N x) from by
  cases x with
  | h1m0 v0 => exact ZoH L0 L1 L2 v0 N
  | h1m1 v0 v1 => exact ZoI L0 L1 L2 v0 v1 N
  | h2m0 v0 => exact ZoJ L0 L1 L2 v0 N
  | h2m1 v0 v1 v2 => exact ZoK L0 L1 L2 v0 v1 v2 N
  | h3m0 v0 => exact ZoL L0 L1 L2 v0 N
  | h3m1 v0 v1 v2 => exact ZoM L0 L1 L2 v0 v1 v2 N
  )) (ZsC L0 L1 L2 N) (n := N) h

theorem Zqs (N : Nat) (r : Zaf) (h : ZaN L0 L1 L2 N = some r) : LSpec Tryz.prog 10 #[Value.agg (κc L0 L1 L2)] [] (Zng r) (ZlU r) := by
 have h0 := ZoN L0 L1 L2 N r h
 cases r with
 | r0 => exact (LSpec.nlv (v2 := ms RC ([] : List RJ)) h0 rfl rfl)
 | r1 w0 => exact (LSpec.frzv (E := RC) (L := w0) (post := []) (v2 := ms RC w0) h0 (show 0 ≤ 0 from by decide) (show 0 < 1000000000 from by decide) trivial rfl rfl rfl)

end
theorem Zk {L0 : List (List RI)} {L1 : List RL} {L2 : List RJ} {N : Nat} {r : Zaf} (h : ZaN L0 L1 L2 N = some r) : LSpec Tryz.prog 10 #[Value.agg (κc L0 L1 L2)] [] (Zng r) (ZlU r) := Zqs L0 L1 L2 N r h

open Mach (oi ok_ite okF okN okH enF enH en_ite en_none)
set_option linter.unusedVariables false
set_option maxRecDepth 100000
noncomputable def Zqt : Z3 → Value
 | .r0 w0 => Value.tuple #[vn, vi w0]
 | .r1 w0 => Value.tuple #[vs 0 0 w0.length w0.length, vq]
noncomputable def Zo8 : Z3 → List (Option AObj)
 | .r0 w0 => []
 | .r1 w0 => [some (.cells (Zd eI w0) 3)]

noncomputable def ZrE : Z3 → Value
 | .r0 w0 => Value.tuple #[vn, vi w0]
 | .r1 w0 => Value.tuple #[ms eI w0, vq]
noncomputable def Zqu : Z3 → List (Option AObj)
 | .r0 w0 => []
 | .r1 w0 => []

def Zy3 : Zah → Nat
 | .h1m0 v1 v5 => 1
 | .h2m0 v1 v2 v3 v4 v5 v6 v7 v8 v9 v10 v11 v12 v13 v16 v17 => 2
 | .h2m1 v0 v2 v3 v4 v5 v6 v7 v8 v9 v10 v11 v12 v13 v14 v15 v16 v17 v18 => 2
noncomputable def Zz2 (L0 : List RJ) (a1 a2 a3 : Int) : Zah → List (Nat × Value)
 | .h1m0 v1 v5 => [(2, vi a3), (3, vp 0 0), (4, vp 1 0), (8, vp 2 0), (9, vi v1)]
 | .h2m0 v1 v2 v3 v4 v5 v6 v7 v8 v9 v10 v11 v12 v13 v16 v17 => [(3, vp 0 0), (10, Value.func (.func 32) #[] #[vp 1 0, vp 0 0]), (11, vp 2 0), (14, vp 3 0), (15, vp 4 0), (16, vn), (17, vp 5 0), (18, vp 6 0)]
 | .h2m1 v0 v2 v3 v4 v5 v6 v7 v8 v9 v10 v11 v12 v13 v14 v15 v16 v17 v18 => [(3, vp 0 0), (10, Value.func (.func 32) #[] #[vp 1 0, vp 0 0]), (11, vp 2 0), (14, vp 3 0), (15, vp 4 0), (16, vs 5 0 v0.length v0.length), (17, vp 6 0), (18, vp 7 0)]
noncomputable def Zz3 (L0 : List RJ) (a1 a2 a3 : Int) : Zah → List (Option AObj)
 | .h1m0 v1 v5 => [some (.cells [ms RC L0] 32), some (.cells [vi a1, vi a2] 44), some (.cells [Value.map (some 3)] 99), some (.ro (Zez v5) true)]
 | .h2m0 v1 v2 v3 v4 v5 v6 v7 v8 v9 v10 v11 v12 v13 v16 v17 => [some (.cells [ms RC L0] 32), some (.cells [Value.map (some 7)] 99), some (.cells [vi v2, vi v3, vi v4, vi v5, vi v6, vi v7, vi v8, ms RA v9] 97), some (.cells [vi v10, vi v11] 44), some (.cells [vi v12, vi v13] 44), some (.cells [vi 2, vq] 44), some (.cells [vi v16, vi v17] 44), some (.ro (Zez v1) true)]
 | .h2m1 v0 v2 v3 v4 v5 v6 v7 v8 v9 v10 v11 v12 v13 v14 v15 v16 v17 v18 => [some (.cells [ms RC L0] 32), some (.cells [Value.map (some 8)] 99), some (.cells [vi v3, vi v4, vi v5, vi v6, vi v7, vi v8, vi v9, ms RA v10] 97), some (.cells [vi v11, vi v12] 44), some (.cells [vi v13, vi v14] 44), some (.cells (Zd eI v0) 3), some (.cells [vi v15, vi v16] 44), some (.cells [vi v17, vi v18] 44), some (.ro (Zez v2) true)]

noncomputable def ZcT : Nat → Code × List ZD
 | 1 => ZX [1, 1, 0, 1, 3] (Zaw Tryz.f11) []
 | 2 => ZX [1, 1, 1, 1, 1, 1, 1, 1, 1, 1, 0, 1, 3] (Zaw Tryz.f11) []
 | _ => (.skip, [])
def Zqv : Nat → Bool
 | 1 => true
 | 2 => true
 | _ => true
noncomputable def Zjm (i : Nat) : List ZD := match Zqv i with | true => .rnd i :: (ZcT i).2 | false => (ZcT i).2

section
variable (L0 : List RJ) (a1 a2 a3 : Int)
noncomputable def Zd7 (N : Nat) : Mach := ⟨Tryz.f11, [], Zah, Z3, Zeg L0 a1 a2 a3 N, Zy3, ZcT, Zqv, Zz2 L0 a1 a2 a3, Zz3 L0 a1 a2 a3, Zqt, Zo8⟩

theorem ZsD (v1 : Int) (v5 : List RH) (N : Nat) : (Zd7 L0 a1 a2 a3 N).Ok Tryz.prog Zg (.h1m0 v1 v5 : Zah) (Zeg L0 a1 a2 a3 N (.h1m0 v1 v5 : Zah)) := by
 show (Zd7 L0 a1 a2 a3 N).Ok Tryz.prog Zg (.h1m0 v1 v5 : Zah) (Zi8 L0 a1 a2 a3 N v1 v5)
 unfold Zi8
 refine ok_ite (fun g0 => ?_) fun g0 => ?_
 ·
  refine oi fun g1 => ?_
  exact okN (Za (oq [1]) [] [(0, (v1).toNat)] [(2, [.i (L0.getD (v1).toNat RJ.z).a0, .i (L0.getD (v1).toNat RJ.z).a1])] [(0, .mp (ZbO (Zh5 v5 (L0.getD (v1).toNat RJ.z).a0 (L0.getD (v1).toNat RJ.z).a1 v1)))]) [0, 1, 2, 3] [some (vi a3), some (vp 0 0), some (vp 1 0), some (vp 2 0), some (vi (IntKind.i64.wrap (v1 - 1)))] (kX (dP (putM Tryz.prog 44 (Value.agg #[vi (L0.getD (v1).toNat RJ.z).a0, vi (L0.getD (v1).toNat RJ.z).a1]) (vi v1) (ZbO v5) = some (ZbO (Zh5 v5 (L0.getD (v1).toNat RJ.z).a0 (L0.getD (v1).toNat RJ.z).a1 v1)))) true (Z1 (Z35 _ _ _ _)) <| kG RC L0 ((0 + ((v1).toNat * 8)) + 0) ((v1).toNat) 0 2 8 <| kB (v1).toNat L0.length <| kI v1 (Int.ofNat (v1).toNat) <| kY (v1 ≥ 0) Zb) (tC (tC (tC (tC (tC (tE)))))) (bS [ms RC L0] <| bS [vi a1, vi a2] <| bS [Value.map (some 3)] <| bC (o := .ro (Zez (Zh5 v5 (L0.getD (v1).toNat RJ.z).a0 (L0.getD (v1).toNat RJ.z).a1 v1)) true) (show Zez (Zh5 v5 (L0.getD (v1).toNat RJ.z).a0 (L0.getD (v1).toNat RJ.z).a1 v1) = Zez (Zh5 v5 (L0.getD (v1).toNat RJ.z).a0 (L0.getD (v1).toNat RJ.z).a1 v1) from rfl) <| bE) (show 1 ∈ Zj (Zjm 1) from by decide +kernel)
 have w1 := kN (v1 ≥ 0) Zb
 refine ok_ite (fun g1 => ?_) fun g1 => ?_
 ·
  have w2 := kX (dP ((Zcu Tryz.prog 44 (Value.agg #[vi a1, vi a2]) (ZbO v5)).map (Option.map Prod.snd) = some (some (vi (Zi v5 a1 a2))))) true (Z1 (ZxG (by assumption))) w1
  refine ok_ite (fun g2 => ?_) fun g2 => ?_
  ·
   exact okF (Za (oq [0, 5]) [] [] [] [(0, .lk (some (vi (Zi v5 a1 a2))))]) [] κj (hD g2 w2) bE
  refine ok_ite (fun g3 => ?_) fun g3 => ?_
  ·
   exact okF (Za (oq [0, 4, 7]) [] [] [] [(0, .lk (some (vi (Zi v5 a1 a2))))]) [] κj (kZ ((a1 == 2) && ((a2 == 0) && true)) <| kE a1 2 w2) bE
  have w4 := kO ((a1 == 2) && ((a2 == 0) && true)) <| kE a1 2 w2
  refine oi fun g4 => ?_
  refine oi fun g5 => ?_
  have w6 := kG RC L0 (0 + (((Zi v5 a1 a2)).toNat * 8)) (((Zi v5 a1 a2)).toNat) 0 8 8 <| kB ((Zi v5 a1 a2)).toNat L0.length <| kI (Zi v5 a1 a2) (Int.ofNat ((Zi v5 a1 a2)).toNat) w4
  refine ok_ite (fun g6 => ?_) fun g6 => ?_
  ·
   refine ok_ite (fun g7 => ?_) fun g7 => ?_
   ·
    have w8 := hY g7 <| kY (a3 ≥ 0) w6
    refine ok_ite (fun g8 => ?_) fun g8 => ?_
    ·
     exact okF (Za (oq [0, 4, 6, 11, 13, 17]) [] [(0, ((Zi v5 a1 a2)).toNat)] [(7, (RC.cel (L0.getD ((Zi v5 a1 a2)).toNat RJ.z)))] [(0, .lk (some (vi (Zi v5 a1 a2))))]) [] κj (hY g8 w8) bE
    have w9 := kG RA ((L0.getD ((Zi v5 a1 a2)).toNat RJ.z).a7) (0 + ((((8 : Int) + a3)).toNat * 2)) ((((8 : Int) + a3)).toNat) 0 2 2 <| kB (((8 : Int) + a3)).toNat (L0.getD ((Zi v5 a1 a2)).toNat RJ.z).a7.length <| kI ((8 : Int) + a3) (Int.ofNat (((8 : Int) + a3)).toNat) <| kW ((8 : Int) + a3) ((8 : Int) + a3) <| kG RA ((L0.getD ((Zi v5 a1 a2)).toNat RJ.z).a7) (0 + (((((2 : Int) * a3) + 1)).toNat * 2)) (((((2 : Int) * a3) + 1)).toNat) 0 2 2 <| kB ((((2 : Int) * a3) + 1)).toNat (L0.getD ((Zi v5 a1 a2)).toNat RJ.z).a7.length <| kI (((2 : Int) * a3) + 1) (Int.ofNat ((((2 : Int) * a3) + 1)).toNat) <| kW (((2 : Int) * a3) + 1) (((2 : Int) * a3) + 1) <| kW ((2 : Int) * a3) ((2 : Int) * a3) <| kG RA ((L0.getD ((Zi v5 a1 a2)).toNat RJ.z).a7) (0 + ((((2 : Int) * a3)).toNat * 2)) ((((2 : Int) * a3)).toNat) 0 2 2 <| kB (((2 : Int) * a3)).toNat (L0.getD ((Zi v5 a1 a2)).toNat RJ.z).a7.length <| kI ((2 : Int) * a3) (Int.ofNat (((2 : Int) * a3)).toNat) <| kW ((2 : Int) * a3) ((2 : Int) * a3) <| hN g8 w8
    refine ok_ite (fun g9 => ?_) fun g9 => ?_
    ·
     exact okF (Za (oq [0, 4, 6, 11, 13, 16, 19]) [(0, ((2 : Int) * a3)), (1, ((2 : Int) * a3)), (2, (((2 : Int) * a3) + 1)), (3, ((8 : Int) + a3))] [(0, ((Zi v5 a1 a2)).toNat), (1, (((2 : Int) * a3)).toNat), (2, ((((2 : Int) * a3) + 1)).toNat), (3, (((8 : Int) + a3)).toNat)] [(7, (RC.cel (L0.getD ((Zi v5 a1 a2)).toNat RJ.z))), (10, (RA.cel ((L0.getD ((Zi v5 a1 a2)).toNat RJ.z).a7.getD (((2 : Int) * a3)).toNat RG.z))), (12, (RA.cel ((L0.getD ((Zi v5 a1 a2)).toNat RJ.z).a7.getD ((((2 : Int) * a3) + 1)).toNat RG.z))), (14, (RA.cel ((L0.getD ((Zi v5 a1 a2)).toNat RJ.z).a7.getD (((8 : Int) + a3)).toNat RG.z)))] [(0, .lk (some (vi (Zi v5 a1 a2))))]) [] κj (hD g9 w9) bE
    have w10 := kE (((L0.getD ((Zi v5 a1 a2)).toNat RJ.z).a7.getD (((2 : Int) * a3)).toNat RG.z).a0) 2 w9
    refine ok_ite (fun g10 => ?_) fun g10 => ?_
    ·
     exact okF (Za (oq [0, 4, 6, 11, 13, 16, 18, 21]) [(0, ((2 : Int) * a3)), (1, ((2 : Int) * a3)), (2, (((2 : Int) * a3) + 1)), (3, ((8 : Int) + a3))] [(0, ((Zi v5 a1 a2)).toNat), (1, (((2 : Int) * a3)).toNat), (2, ((((2 : Int) * a3) + 1)).toNat), (3, (((8 : Int) + a3)).toNat)] [(7, (RC.cel (L0.getD ((Zi v5 a1 a2)).toNat RJ.z))), (10, (RA.cel ((L0.getD ((Zi v5 a1 a2)).toNat RJ.z).a7.getD (((2 : Int) * a3)).toNat RG.z))), (12, (RA.cel ((L0.getD ((Zi v5 a1 a2)).toNat RJ.z).a7.getD ((((2 : Int) * a3) + 1)).toNat RG.z))), (14, (RA.cel ((L0.getD ((Zi v5 a1 a2)).toNat RJ.z).a7.getD (((8 : Int) + a3)).toNat RG.z)))] [(0, .lk (some (vi (Zi v5 a1 a2))))]) [] κj (hD g10 w10) bE
    have w11 := kE (((L0.getD ((Zi v5 a1 a2)).toNat RJ.z).a7.getD ((((2 : Int) * a3) + 1)).toNat RG.z).a0) 2 w10
    refine ok_ite (fun g11 => ?_) fun g11 => ?_
    ·
     exact okF (Za (oq [0, 4, 6, 11, 13, 16, 18, 20, 23]) [(0, ((2 : Int) * a3)), (1, ((2 : Int) * a3)), (2, (((2 : Int) * a3) + 1)), (3, ((8 : Int) + a3))] [(0, ((Zi v5 a1 a2)).toNat), (1, (((2 : Int) * a3)).toNat), (2, ((((2 : Int) * a3) + 1)).toNat), (3, (((8 : Int) + a3)).toNat)] [(7, (RC.cel (L0.getD ((Zi v5 a1 a2)).toNat RJ.z))), (10, (RA.cel ((L0.getD ((Zi v5 a1 a2)).toNat RJ.z).a7.getD (((2 : Int) * a3)).toNat RG.z))), (12, (RA.cel ((L0.getD ((Zi v5 a1 a2)).toNat RJ.z).a7.getD ((((2 : Int) * a3) + 1)).toNat RG.z))), (14, (RA.cel ((L0.getD ((Zi v5 a1 a2)).toNat RJ.z).a7.getD (((8 : Int) + a3)).toNat RG.z)))] [(0, .lk (some (vi (Zi v5 a1 a2))))]) [] κj (hD g11 w11) bE
    exact okH (ZcT 2) (Za (oq [0, 4, 6, 11, 13, 16, 18, 20, 22]) [(0, ((2 : Int) * a3)), (1, ((2 : Int) * a3)), (2, (((2 : Int) * a3) + 1)), (3, ((8 : Int) + a3))] [(0, ((Zi v5 a1 a2)).toNat), (1, (((2 : Int) * a3)).toNat), (2, ((((2 : Int) * a3) + 1)).toNat), (3, (((8 : Int) + a3)).toNat)] [(7, (RC.cel (L0.getD ((Zi v5 a1 a2)).toNat RJ.z))), (10, (RA.cel ((L0.getD ((Zi v5 a1 a2)).toNat RJ.z).a7.getD (((2 : Int) * a3)).toNat RG.z))), (12, (RA.cel ((L0.getD ((Zi v5 a1 a2)).toNat RJ.z).a7.getD ((((2 : Int) * a3) + 1)).toNat RG.z))), (14, (RA.cel ((L0.getD ((Zi v5 a1 a2)).toNat RJ.z).a7.getD (((8 : Int) + a3)).toNat RG.z)))] [(0, .lk (some (vi (Zi v5 a1 a2))))]) [0, 2, 8, 10, 11, 13, 14, 3] [some (vp 0 0), some (Value.func (.func 32) #[] #[vp 2 0, vp 0 0]), some (vp 8 0), some (vp 10 0), some (vp 11 0), some (vn), some (vp 13 0), some (vp 14 0)] (kE (((L0.getD ((Zi v5 a1 a2)).toNat RJ.z).a7.getD (((8 : Int) + a3)).toNat RG.z).a0) 1 w11) (tC (tC (tC (tC (tC (tC (tC (tC (tE))))))))) (bS [ms RC L0] <| bS [Value.map (some 3)] <| bS [vi (L0.getD ((Zi v5 a1 a2)).toNat RJ.z).a0, vi (L0.getD ((Zi v5 a1 a2)).toNat RJ.z).a1, vi (L0.getD ((Zi v5 a1 a2)).toNat RJ.z).a2, vi (L0.getD ((Zi v5 a1 a2)).toNat RJ.z).a3, vi (L0.getD ((Zi v5 a1 a2)).toNat RJ.z).a4, vi (L0.getD ((Zi v5 a1 a2)).toNat RJ.z).a5, vi (L0.getD ((Zi v5 a1 a2)).toNat RJ.z).a6, ms RA (L0.getD ((Zi v5 a1 a2)).toNat RJ.z).a7] <| bS [vi ((L0.getD ((Zi v5 a1 a2)).toNat RJ.z).a7.getD ((((2 : Int) * a3) + 1)).toNat RG.z).a0, vi ((L0.getD ((Zi v5 a1 a2)).toNat RJ.z).a7.getD ((((2 : Int) * a3) + 1)).toNat RG.z).a1] <| bS [vi ((L0.getD ((Zi v5 a1 a2)).toNat RJ.z).a7.getD (((8 : Int) + a3)).toNat RG.z).a0, vi ((L0.getD ((Zi v5 a1 a2)).toNat RJ.z).a7.getD (((8 : Int) + a3)).toNat RG.z).a1] <| bS [vi 2, vq] <| bS [vi ((L0.getD ((Zi v5 a1 a2)).toNat RJ.z).a7.getD (((2 : Int) * a3)).toNat RG.z).a0, vi ((L0.getD ((Zi v5 a1 a2)).toNat RJ.z).a7.getD (((2 : Int) * a3)).toNat RG.z).a1] <| bC (o := .ro (Zez v5) true) (show Zez v5 = Zez v5 from rfl) <| bE) (show ∀ j ∈ Zj (ZcT 2).2, j ∈ Zj (Zjm 1) from by decide +kernel)
   exact okF (Za (oq [0, 4, 6, 11, 12]) [] [(0, ((Zi v5 a1 a2)).toNat)] [(7, (RC.cel (L0.getD ((Zi v5 a1 a2)).toNat RJ.z)))] [(0, .lk (some (vi (Zi v5 a1 a2))))]) [] κj (hN g7 <| kY (a3 ≥ 0) w6) bE
  exact okF (Za (oq [0, 4, 6, 10]) [] [(0, ((Zi v5 a1 a2)).toNat)] [(7, (RC.cel (L0.getD ((Zi v5 a1 a2)).toNat RJ.z)))] [(0, .lk (some (vi (Zi v5 a1 a2))))]) [] κj (kN (a3 ≥ 0) w6) bE
 exact okF (Za (oq [0]) [] [] [] [(0, .lk (none))]) [] κj (kX (dP ((Zcu Tryz.prog 44 (Value.agg #[vi a1, vi a2]) (ZbO v5)).map (Option.map Prod.snd) = some (none))) true (Z1 (ZxH (by assumption))) w1) bE

theorem ZsE (v1 : List RH) (v2 v3 v4 v5 v6 v7 v8 : Int) (v9 : List RG) (v10 v11 v12 v13 v16 v17 : Int) (N : Nat) : (Zd7 L0 a1 a2 a3 N).Ok Tryz.prog Zg (.h2m0 v1 v2 v3 v4 v5 v6 v7 v8 v9 v10 v11 v12 v13 v16 v17 : Zah) (Zeg L0 a1 a2 a3 N (.h2m0 v1 v2 v3 v4 v5 v6 v7 v8 v9 v10 v11 v12 v13 v16 v17 : Zah)) := by
 show (Zd7 L0 a1 a2 a3 N).Ok Tryz.prog Zg (.h2m0 v1 v2 v3 v4 v5 v6 v7 v8 v9 v10 v11 v12 v13 v16 v17 : Zah) (Zi9 L0 a1 a2 a3 N v1 v2 v3 v4 v5 v6 v7 v8 v9 v10 v11 v12 v13 v16 v17)
 unfold Zi9
 refine ok_ite (fun g0 => ?_) fun g0 => ?_
 ·
  have w1 := kZ ((v16 == 2) && ((v17 == 0) && true)) Zb
  refine ok_ite (fun g1 => ?_) fun g1 => ?_
  ·
   exact okF (Za (oq [1, 5]) [] [] [] []) [] κj (kX ((!(((2 : Int) == v10) && (((0 : Int) == v11) && true)))) true (by rw [Bool.not_eq_true']; exact Bool.eq_false_iff.2 (by simp only [ne_eq, Bool.and_true, Bool.and_eq_true, beq_iff_eq]; first | omega | (intro hh; simp_all; done) | (intro hh; grind))) w1) bE
  have w2 := kX ((!(((2 : Int) == v10) && (((0 : Int) == v11) && true)))) false (by rw [Bool.not_eq_false']; first | (simp only [beq_self_eq_true, Bool.and_self]; done) | (simp only [Bool.and_true, Bool.and_eq_true, beq_iff_eq] <;> first | omega | (simp_all; done) | grind)) w1
  refine ok_ite (fun g2 => ?_) fun g2 => ?_
  ·
   exact okF (Za (oq [1, 4, 7]) [] [] [] []) [] κj (hD g2 w2) bE
  exact okF (Za (oq [1, 4, 6]) [] [] [] []) [] (Value.tuple #[vn, vq]) (kE v13 0 w2) bE
 have w1 := kO ((v16 == 2) && ((v17 == 0) && true)) Zb
 refine ok_ite (fun g1 => ?_) fun g1 => ?_
 ·
  have w2 := kX (dP ((Zcu Tryz.prog 44 (Value.agg #[vi v16, vi v17]) (ZbO v1)).map (Option.map Prod.snd) = some (some (vi (Zi v1 v16 v17))))) true (Z1 (ZxG (by assumption))) w1
  refine ok_ite (fun g2 => ?_) fun g2 => ?_
  ·
   exact okF (Za (oq [0, 7]) [] [] [] [(1, .lk (some (vi (Zi v1 v16 v17))))]) [] κj (hD g2 w2) bE
  have w3 := kO ((v16 == 2) && ((v17 == 0) && true)) <| kE v16 2 w2
  refine oi fun g3 => ?_
  refine oi fun g4 => ?_
  have w5 := kG RC L0 (0 + (((Zi v1 v16 v17)).toNat * 8)) (((Zi v1 v16 v17)).toNat) 0 8 8 <| kB ((Zi v1 v16 v17)).toNat L0.length <| kI (Zi v1 v16 v17) (Int.ofNat ((Zi v1 v16 v17)).toNat) w3
  refine ok_ite (fun g5 => ?_) fun g5 => ?_
  ·
   refine ok_ite (fun g6 => ?_) fun g6 => ?_
   ·
    have w7 := kG RA ((L0.getD ((Zi v1 v16 v17)).toNat RJ.z).a7) ((0 + (0 * 2)) + 0) 0 0 1 2 <| kB 0 (L0.getD ((Zi v1 v16 v17)).toNat RJ.z).a7.length <| kI 0 (Int.ofNat 0) <| hT g6 <| hD g5 w5
    refine ok_ite (fun g7 => ?_) fun g7 => ?_
    ·
     have w8 := kG RA ((L0.getD ((Zi v1 v16 v17)).toNat RJ.z).a7) ((0 + (1 * 2)) + 0) 1 0 1 2 <| kB 1 (L0.getD ((Zi v1 v16 v17)).toNat RJ.z).a7.length <| kI 1 (Int.ofNat 1) <| hT g7 w7
     refine ok_ite (fun g8 => ?_) fun g8 => ?_
     ·
      exact okN (Za (oq [0, 6, 8, 13, 15, 17, 19, 22]) [] [(0, ((Zi v1 v16 v17)).toNat), (1, 0), (2, 1), (3, 1), (4, 0)] [(9, (RC.cel (L0.getD ((Zi v1 v16 v17)).toNat RJ.z))), (14, [.i ((L0.getD ((Zi v1 v16 v17)).toNat RJ.z).a7.getD 0 RG.z).a0]), (16, [.i ((L0.getD ((Zi v1 v16 v17)).toNat RJ.z).a7.getD 1 RG.z).a0]), (19, [.i ((L0.getD ((Zi v1 v16 v17)).toNat RJ.z).a7.getD 1 RG.z).a1]), (23, (RA.cel ((L0.getD ((Zi v1 v16 v17)).toNat RJ.z).a7.getD 0 RG.z)))] [(1, .lk (some (vi (Zi v1 v16 v17))))]) (rg 0 5 (16 :: (5 :: (17 :: [7])))) [some (vp 0 0), some (Value.func (.func 32) #[] #[vp 1 0, vp 0 0]), some (vp 2 0), some (vp 3 0), some (vp 4 0), some (vs 16 0 1 1), some (vp 5 0), some (vp 17 0)] (kG RA ((L0.getD ((Zi v1 v16 v17)).toNat RJ.z).a7) (0 + (0 * 2)) 0 0 2 2 <| kB 0 (L0.getD ((Zi v1 v16 v17)).toNat RJ.z).a7.length <| kI 0 (Int.ofNat 0) <| kG RA ((L0.getD ((Zi v1 v16 v17)).toNat RJ.z).a7) ((0 + (1 * 2)) + 1) 1 1 1 2 <| kB 1 (L0.getD ((Zi v1 v16 v17)).toNat RJ.z).a7.length <| kI 1 (Int.ofNat 1) <| kF 0 (L0.length : Int) <| hT g8 w8) (tC (tC (tC (tC (tC (tC (tC (tC (tE))) ⟨Eq.trans (show (vs 5 0 ([((L0.getD ((Zi v1 v16 v17)).toNat RJ.z).a7.getD 1 RG.z).a1] : List Int).length ([((L0.getD ((Zi v1 v16 v17)).toNat RJ.z).a7.getD 1 RG.z).a1] : List Int).length : Value) = vs 5 0 1 1 from (Z0 rfl eqA eqA)) (by rfl), by rfl⟩)))))) (bS [ms RC L0] <| bS [Value.map (some 7)] <| bS [vi (L0.getD ((Zi v1 v16 v17)).toNat RJ.z).a0, vi (L0.getD ((Zi v1 v16 v17)).toNat RJ.z).a1, vi (L0.getD ((Zi v1 v16 v17)).toNat RJ.z).a2, vi (L0.getD ((Zi v1 v16 v17)).toNat RJ.z).a3, vi (L0.getD ((Zi v1 v16 v17)).toNat RJ.z).a4, vi (L0.getD ((Zi v1 v16 v17)).toNat RJ.z).a5, vi (L0.getD ((Zi v1 v16 v17)).toNat RJ.z).a6, ms RA (L0.getD ((Zi v1 v16 v17)).toNat RJ.z).a7] <| bS [vi v10, vi v11] <| bS [vi v12, vi v13] <| bC (o := .cells [vi ((L0.getD ((Zi v1 v16 v17)).toNat RJ.z).a7.getD 1 RG.z).a1] 3) (Zae (E := eI) _ (L := ([((L0.getD ((Zi v1 v16 v17)).toNat RJ.z).a7.getD 1 RG.z).a1] : List Int)) _ (show ([vi ((L0.getD ((Zi v1 v16 v17)).toNat RJ.z).a7.getD 1 RG.z).a1] : List Value) = Zd eI ([((L0.getD ((Zi v1 v16 v17)).toNat RJ.z).a7.getD 1 RG.z).a1] : List Int) from rfl)) <| bS [vi v16, vi v17] <| bS [vi ((L0.getD ((Zi v1 v16 v17)).toNat RJ.z).a7.getD 0 RG.z).a0, vi ((L0.getD ((Zi v1 v16 v17)).toNat RJ.z).a7.getD 0 RG.z).a1] <| bC (o := .ro (Zez v1) true) (show Zez v1 = Zez v1 from rfl) <| bE) (show 2 ∈ Zj (Zjm 2) from by decide +kernel)
     exact okF (Za (oq [0, 6, 8, 13, 15, 17, 18]) [] [(0, ((Zi v1 v16 v17)).toNat), (1, 0), (2, 1)] [(9, (RC.cel (L0.getD ((Zi v1 v16 v17)).toNat RJ.z))), (14, [.i ((L0.getD ((Zi v1 v16 v17)).toNat RJ.z).a7.getD 0 RG.z).a0]), (16, [.i ((L0.getD ((Zi v1 v16 v17)).toNat RJ.z).a7.getD 1 RG.z).a0])] [(1, .lk (some (vi (Zi v1 v16 v17))))]) [] κj (hF g8 w8) bE
    exact okF (Za (oq [0, 6, 8, 13, 15, 16]) [] [(0, ((Zi v1 v16 v17)).toNat), (1, 0)] [(9, (RC.cel (L0.getD ((Zi v1 v16 v17)).toNat RJ.z))), (14, [.i ((L0.getD ((Zi v1 v16 v17)).toNat RJ.z).a7.getD 0 RG.z).a0])] [(1, .lk (some (vi (Zi v1 v16 v17))))]) [] κj (hF g7 w7) bE
   exact okF (Za (oq [0, 6, 8, 13, 14]) [] [(0, ((Zi v1 v16 v17)).toNat)] [(9, (RC.cel (L0.getD ((Zi v1 v16 v17)).toNat RJ.z)))] [(1, .lk (some (vi (Zi v1 v16 v17))))]) [] κj (hF g6 <| hD g5 w5) bE
  exact okF (Za (oq [0, 6, 8, 12]) [] [(0, ((Zi v1 v16 v17)).toNat)] [(9, (RC.cel (L0.getD ((Zi v1 v16 v17)).toNat RJ.z)))] [(1, .lk (some (vi (Zi v1 v16 v17))))]) [] κj (kE ((L0.getD ((Zi v1 v16 v17)).toNat RJ.z).a5) 3 w5) bE
 exact okF (Za (oq [0]) [] [] [] [(1, .lk (none))]) [] κj (kX (dP ((Zcu Tryz.prog 44 (Value.agg #[vi v16, vi v17]) (ZbO v1)).map (Option.map Prod.snd) = some (none))) true (Z1 (ZxH (by assumption))) w1) bE

theorem ZsF (v0 : List Int) (v2 : List RH) (v3 v4 v5 v6 v7 v8 v9 : Int) (v10 : List RG) (v11 v12 v13 v14 v15 v16 v17 v18 : Int) (N : Nat) : (Zd7 L0 a1 a2 a3 N).Ok Tryz.prog Zg (.h2m1 v0 v2 v3 v4 v5 v6 v7 v8 v9 v10 v11 v12 v13 v14 v15 v16 v17 v18 : Zah) (Zeg L0 a1 a2 a3 N (.h2m1 v0 v2 v3 v4 v5 v6 v7 v8 v9 v10 v11 v12 v13 v14 v15 v16 v17 v18 : Zah)) := by
 show (Zd7 L0 a1 a2 a3 N).Ok Tryz.prog Zg (.h2m1 v0 v2 v3 v4 v5 v6 v7 v8 v9 v10 v11 v12 v13 v14 v15 v16 v17 v18 : Zah) (ZiA L0 a1 a2 a3 N v0 v2 v3 v4 v5 v6 v7 v8 v9 v10 v11 v12 v13 v14 v15 v16 v17 v18)
 unfold ZiA
 refine ok_ite (fun g0 => ?_) fun g0 => ?_
 ·
  have w1 := kZ ((v17 == 2) && ((v18 == 0) && true)) Zb
  refine ok_ite (fun g1 => ?_) fun g1 => ?_
  ·
   exact okF (Za (oq [1, 5]) [] [] [] []) [] κj (kX ((!((v15 == v11) && ((v16 == v12) && true)))) true (by rw [Bool.not_eq_true']; exact Bool.eq_false_iff.2 (by simp only [ne_eq, Bool.and_true, Bool.and_eq_true, beq_iff_eq]; first | omega | (intro hh; simp_all; done) | (intro hh; grind))) w1) bE
  have w2 := kX ((!((v15 == v11) && ((v16 == v12) && true)))) false (by rw [Bool.not_eq_false']; first | (simp only [beq_self_eq_true, Bool.and_self]; done) | (simp only [Bool.and_true, Bool.and_eq_true, beq_iff_eq] <;> first | omega | (simp_all; done) | grind)) w1
  refine ok_ite (fun g2 => ?_) fun g2 => ?_
  ·
   exact okF (Za (oq [1, 4, 7]) [] [] [] []) [] κj (hD g2 w2) bE
  exact okF (Za (oq [1, 4, 6]) [] [] [] []) [5] (Value.tuple #[vs 5 0 v0.length v0.length, vq]) (kE v14 (v0.length : Int) w2) (bR <| bE)
 have w1 := kO ((v17 == 2) && ((v18 == 0) && true)) Zb
 refine ok_ite (fun g1 => ?_) fun g1 => ?_
 ·
  have w2 := kX (dP ((Zcu Tryz.prog 44 (Value.agg #[vi v17, vi v18]) (ZbO v2)).map (Option.map Prod.snd) = some (some (vi (Zi v2 v17 v18))))) true (Z1 (ZxG (by assumption))) w1
  refine ok_ite (fun g2 => ?_) fun g2 => ?_
  ·
   exact okF (Za (oq [0, 7]) [] [] [] [(1, .lk (some (vi (Zi v2 v17 v18))))]) [] κj (hD g2 w2) bE
  have w3 := kO ((v17 == 2) && ((v18 == 0) && true)) <| kE v17 2 w2
  refine oi fun g3 => ?_
  refine oi fun g4 => ?_
  have w5 := kG RC L0 (0 + (((Zi v2 v17 v18)).toNat * 8)) (((Zi v2 v17 v18)).toNat) 0 8 8 <| kB ((Zi v2 v17 v18)).toNat L0.length <| kI (Zi v2 v17 v18) (Int.ofNat ((Zi v2 v17 v18)).toNat) w3
  refine ok_ite (fun g5 => ?_) fun g5 => ?_
  ·
   refine ok_ite (fun g6 => ?_) fun g6 => ?_
   ·
    have w7 := kG RA ((L0.getD ((Zi v2 v17 v18)).toNat RJ.z).a7) ((0 + (0 * 2)) + 0) 0 0 1 2 <| kB 0 (L0.getD ((Zi v2 v17 v18)).toNat RJ.z).a7.length <| kI 0 (Int.ofNat 0) <| hT g6 <| hD g5 w5
    refine ok_ite (fun g7 => ?_) fun g7 => ?_
    ·
     have w8 := kG RA ((L0.getD ((Zi v2 v17 v18)).toNat RJ.z).a7) ((0 + (1 * 2)) + 0) 1 0 1 2 <| kB 1 (L0.getD ((Zi v2 v17 v18)).toNat RJ.z).a7.length <| kI 1 (Int.ofNat 1) <| hT g7 w7
     refine ok_ite (fun g8 => ?_) fun g8 => ?_
     ·
      refine ok_ite (fun g9 => ?_) fun g9 => ?_
      ·
       exact okF (Za (oq [0, 6, 8, 13, 15, 17, 19, 23]) [] [(0, ((Zi v2 v17 v18)).toNat), (1, 0), (2, 1)] [(9, (RC.cel (L0.getD ((Zi v2 v17 v18)).toNat RJ.z))), (14, [.i ((L0.getD ((Zi v2 v17 v18)).toNat RJ.z).a7.getD 0 RG.z).a0]), (16, [.i ((L0.getD ((Zi v2 v17 v18)).toNat RJ.z).a7.getD 1 RG.z).a0])] [(1, .lk (some (vi (Zi v2 v17 v18))))]) [] κj (hT g9 <| hT g8 w8) bE
      refine oi fun g10 => ?_
      exact okN (Za (oq [0, 6, 8, 13, 15, 17, 19, 22]) [] [(0, ((Zi v2 v17 v18)).toNat), (1, 0), (2, 1), (3, 1), (4, 0)] [(9, (RC.cel (L0.getD ((Zi v2 v17 v18)).toNat RJ.z))), (14, [.i ((L0.getD ((Zi v2 v17 v18)).toNat RJ.z).a7.getD 0 RG.z).a0]), (16, [.i ((L0.getD ((Zi v2 v17 v18)).toNat RJ.z).a7.getD 1 RG.z).a0]), (19, [.i ((L0.getD ((Zi v2 v17 v18)).toNat RJ.z).a7.getD 1 RG.z).a1]), (23, (RA.cel ((L0.getD ((Zi v2 v17 v18)).toNat RJ.z).a7.getD 0 RG.z)))] [(1, .lk (some (vi (Zi v2 v17 v18)))), (5, .ap 1 [vi ((L0.getD ((Zi v2 v17 v18)).toNat RJ.z).a7.getD 1 RG.z).a1] (Zd eI (v0 ++ ([((L0.getD ((Zi v2 v17 v18)).toNat RJ.z).a7.getD 1 RG.z).a1] : List Int))))]) (rg 0 5 (17 :: (6 :: (18 :: [8])))) [some (vp 0 0), some (Value.func (.func 32) #[] #[vp 1 0, vp 0 0]), some (vp 2 0), some (vp 3 0), some (vp 4 0), some (vs 17 0 (v0.length + 1) (v0.length + 1)), some (vp 6 0), some (vp 18 0)] (kG RA ((L0.getD ((Zi v2 v17 v18)).toNat RJ.z).a7) (0 + (0 * 2)) 0 0 2 2 <| kB 0 (L0.getD ((Zi v2 v17 v18)).toNat RJ.z).a7.length <| kI 0 (Int.ofNat 0) <| kA eI v0 (((L0.getD ((Zi v2 v17 v18)).toNat RJ.z).a7.getD 1 RG.z).a1) <| kG RA ((L0.getD ((Zi v2 v17 v18)).toNat RJ.z).a7) ((0 + (1 * 2)) + 1) 1 1 1 2 <| kB 1 (L0.getD ((Zi v2 v17 v18)).toNat RJ.z).a7.length <| kI 1 (Int.ofNat 1) <| hF g9 <| hT g8 w8) (tC (tC (tC (tC (tC (tC (tC (tC (tE))) ⟨Eq.trans (show (vs 5 0 (v0 ++ ([((L0.getD ((Zi v2 v17 v18)).toNat RJ.z).a7.getD 1 RG.z).a1] : List Int)).length (v0 ++ ([((L0.getD ((Zi v2 v17 v18)).toNat RJ.z).a7.getD 1 RG.z).a1] : List Int)).length : Value) = vs 5 0 (v0.length + 1) (v0.length + 1) from (Z0 rfl eqA eqA)) (by rfl), by rfl⟩)))))) (bS [ms RC L0] <| bS [Value.map (some 8)] <| bS [vi (L0.getD ((Zi v2 v17 v18)).toNat RJ.z).a0, vi (L0.getD ((Zi v2 v17 v18)).toNat RJ.z).a1, vi (L0.getD ((Zi v2 v17 v18)).toNat RJ.z).a2, vi (L0.getD ((Zi v2 v17 v18)).toNat RJ.z).a3, vi (L0.getD ((Zi v2 v17 v18)).toNat RJ.z).a4, vi (L0.getD ((Zi v2 v17 v18)).toNat RJ.z).a5, vi (L0.getD ((Zi v2 v17 v18)).toNat RJ.z).a6, ms RA (L0.getD ((Zi v2 v17 v18)).toNat RJ.z).a7] <| bS [vi v11, vi v12] <| bS [vi v13, vi v14] <| bR <| bS [vi v17, vi v18] <| bS [vi ((L0.getD ((Zi v2 v17 v18)).toNat RJ.z).a7.getD 0 RG.z).a0, vi ((L0.getD ((Zi v2 v17 v18)).toNat RJ.z).a7.getD 0 RG.z).a1] <| bC (o := .ro (Zez v2) true) (show Zez v2 = Zez v2 from rfl) <| bE) (show 2 ∈ Zj (Zjm 2) from by decide +kernel)
     exact okF (Za (oq [0, 6, 8, 13, 15, 17, 18]) [] [(0, ((Zi v2 v17 v18)).toNat), (1, 0), (2, 1)] [(9, (RC.cel (L0.getD ((Zi v2 v17 v18)).toNat RJ.z))), (14, [.i ((L0.getD ((Zi v2 v17 v18)).toNat RJ.z).a7.getD 0 RG.z).a0]), (16, [.i ((L0.getD ((Zi v2 v17 v18)).toNat RJ.z).a7.getD 1 RG.z).a0])] [(1, .lk (some (vi (Zi v2 v17 v18))))]) [] κj (hF g8 w8) bE
    exact okF (Za (oq [0, 6, 8, 13, 15, 16]) [] [(0, ((Zi v2 v17 v18)).toNat), (1, 0)] [(9, (RC.cel (L0.getD ((Zi v2 v17 v18)).toNat RJ.z))), (14, [.i ((L0.getD ((Zi v2 v17 v18)).toNat RJ.z).a7.getD 0 RG.z).a0])] [(1, .lk (some (vi (Zi v2 v17 v18))))]) [] κj (hF g7 w7) bE
   exact okF (Za (oq [0, 6, 8, 13, 14]) [] [(0, ((Zi v2 v17 v18)).toNat)] [(9, (RC.cel (L0.getD ((Zi v2 v17 v18)).toNat RJ.z)))] [(1, .lk (some (vi (Zi v2 v17 v18))))]) [] κj (hF g6 <| hD g5 w5) bE
  exact okF (Za (oq [0, 6, 8, 12]) [] [(0, ((Zi v2 v17 v18)).toNat)] [(9, (RC.cel (L0.getD ((Zi v2 v17 v18)).toNat RJ.z)))] [(1, .lk (some (vi (Zi v2 v17 v18))))]) [] κj (kE ((L0.getD ((Zi v2 v17 v18)).toNat RJ.z).a5) 3 w5) bE
 exact okF (Za (oq [0]) [] [] [] [(1, .lk (none))]) [] κj (kX (dP ((Zcu Tryz.prog 44 (Value.agg #[vi v17, vi v18]) (ZbO v2)).map (Option.map Prod.snd) = some (none))) true (Z1 (ZxH (by assumption))) w1) bE

theorem Zw1 (N : Nat) : (Zd7 L0 a1 a2 a3 N).Enter Tryz.prog Zg (κx L0 a1 a2 a3) (ZkV L0 a1 a2 a3 N) := by
 unfold ZkV
 refine en_ite (fun g0 => ?_) (fun _ => en_none)
 exact enH (ZcT 1) (Za (oq []) [(0, ((L0.length : Int) - 1))] [] [] []) [0, 1, 3, 2] [some (vi a3), some (vp 0 0), some (vp 1 0), some (vp 3 0), some (vi ((L0.length : Int) - 1))] (kW ((L0.length : Int) - 1) ((L0.length : Int) - 1) Zb) (tC (tC (tC (tC (tC (tE)))))) (bS [ms RC L0] <| bS [vi a1, vi a2] <| bS [Value.map (some 2)] <| bC (o := .ro (Zez ([] : List RH)) true) (show Zez ([] : List RH) = Zez ([] : List RH) from rfl) <| bE) (show Zj (ZcT 1).2 = [] from rfl)

theorem ZsG (N : Nat) (r : Z3) (h : ZbJ L0 a1 a2 a3 N = some r) : LSpec Tryz.prog 11 (κx L0 a1 a2 a3) [] (Zqt r) (Zo8 r) :=
 Mach.spec ZB (Zd7 L0 a1 a2 a3 N) Tryz.func11 (by kernel_rfl) (by kernel_rfl) (fun x => by cases x <;> exact Zu _ rfl) (fun r => by cases r <;> exact Zu _ rfl) (fun x => by
  cases x with
  | h1m0 _ _ => exact fun _ => (show ¬ (1 ∈ Zj (ZcT 1).2) from by decide +kernel)
  | h2m0 _ _ _ _ _ _ _ _ _ _ _ _ _ _ _ => exact fun _ => (show ¬ (2 ∈ Zj (ZcT 2).2) from by decide +kernel)
  | h2m1 _ _ _ _ _ _ _ _ _ _ _ _ _ _ _ _ _ _ => exact fun _ => (show ¬ (2 ∈ Zj (ZcT 2).2) from by decide +kernel)
  ) (fun x => (show (Zd7 L0 a1 a2 a3 N).Ok Tryz.prog Zg x (Zeg L0 a1 a2 a3 N x) from by
  cases x with
  | h1m0 v1 v5 => exact ZsD L0 a1 a2 a3 v1 v5 N
  | h2m0 v1 v2 v3 v4 v5 v6 v7 v8 v9 v10 v11 v12 v13 v16 v17 => exact ZsE L0 a1 a2 a3 v1 v2 v3 v4 v5 v6 v7 v8 v9 v10 v11 v12 v13 v16 v17 N
  | h2m1 v0 v2 v3 v4 v5 v6 v7 v8 v9 v10 v11 v12 v13 v14 v15 v16 v17 v18 => exact ZsF L0 a1 a2 a3 v0 v2 v3 v4 v5 v6 v7 v8 v9 v10 v11 v12 v13 v14 v15 v16 v17 v18 N
  )) (Zw1 L0 a1 a2 a3 N) (n := N) h

theorem ZtW (N : Nat) (r : Z3) (h : ZbJ L0 a1 a2 a3 N = some r) : LSpec Tryz.prog 11 (κx L0 a1 a2 a3) [] (ZrE r) (Zqu r) := by
 have h0 := ZsG L0 a1 a2 a3 N r h
 cases r with
 | r0 _ => exact h0
 | r1 w0 => exact (LSpec.frzv (E := eI) (L := w0) (post := []) (v2 := Value.tuple #[ms eI w0, vq]) h0 (show 0 ≤ 0 from by decide) (show 0 < 1000000000 from by decide) trivial rfl rfl rfl)

end
theorem Zl {L0 : List RJ} {a1 a2 a3 : Int} {N : Nat} {r : Z3} (h : ZbJ L0 a1 a2 a3 N = some r) : LSpec Tryz.prog 11 (κx L0 a1 a2 a3) [] (ZrE r) (Zqu r) := ZtW L0 a1 a2 a3 N r h

noncomputable def ZrF : ZcR → Value
 | .r0 w1 => Value.bool w1
section
variable (L0 : List Int)
noncomputable def Zqw : ZcR → List (Option AObj)
 | .r0 w1 => [some (.cells (Zd eI L0) 3)]

def Zy4 : Zcq → Nat
 | .h1m0 => 1
noncomputable def Zz4 : Zcq → List (Nat × Value)
 | .h1m0 => [(0, vn), (1, vs 0 0 L0.length L0.length), (5, vq)]
noncomputable def Zz5 : Zcq → List (Option AObj)
 | .h1m0 => [some (.cells (Zd eI L0) 3)]

noncomputable def Zjn : Nat → Code × List ZD
 | 1 => ZX [1, 1, 0, 1, 3] (Zaw Tryz.f19) []
 | _ => (.skip, [])
def Zy5 : Nat → Bool
 | 1 => true
 | _ => true
noncomputable def Zh2 (N : Nat) : Mach := ⟨Tryz.f19, [.cells (Zd eI L0) 3], Zcq, ZcR, Zhg L0 N, Zy4, Zjn, Zy5, Zz4 L0, Zz5 L0, ZrF, Zqw L0⟩

theorem ZsH (N : Nat) : (Zh2 L0 N).Ok Tryz.prog Zg (.h1m0 : Zcq) (Zhg L0 N (.h1m0 : Zcq)) := by
 show (Zh2 L0 N).Ok Tryz.prog Zg (.h1m0 : Zcq) (ZiB L0 N)
 unfold ZiB
 exact okF (Za (oq []) [] [] [] []) [0] (vT) Zb (bR <| bE)

theorem Zw2 (N : Nat) : (Zh2 L0 N).Enter Tryz.prog Zg #[vn, vs 0 0 L0.length L0.length] (ZkW L0 N) := by
 unfold ZkW
 refine en_ite (fun g0 => ?_) (fun g0 => ?_)
 ·
  exact enF (Za (oq [1]) [] [] [] []) [0] (vf) (hD g0 Zb) (bR <| bE)
 exact enH (Zjn 1) (Za (oq [0]) [] [] [] []) [0] [some (vn), some (vs 0 0 L0.length L0.length), some (vq)] (kE 0 (L0.length : Int) Zb) (tC (tC (tC (tE)))) (bR <| bE) (show Zj (Zjn 1).2 = [] from rfl)

theorem ZtX (N : Nat) (r : ZcR) (h : ZiC L0 N = some r) : LSpec Tryz.prog 19 #[vn, vs 0 0 L0.length L0.length] [.cells (Zd eI L0) 3] (ZrF r) (Zqw L0 r) :=
 Mach.spec ZB (Zh2 L0 N) Tryz.func19 (by kernel_rfl) (by kernel_rfl) (fun x => by cases x <;> exact Zu _ rfl) (fun r => by cases r <;> exact Zu _ rfl) (fun x => by
  cases x with
  | h1m0 => exact fun _ => (show ¬ (1 ∈ Zj (Zjn 1).2) from by decide +kernel)
  ) (fun x => (show (Zh2 L0 N).Ok Tryz.prog Zg x (Zhg L0 N x) from by
  cases x with
  | h1m0 => exact ZsH L0 N
  )) (Zw2 L0 N) (n := N) h

end
noncomputable def ZgR {L0 : List Int} {w1 : Bool} {N : Nat} (h : ZiC L0 N = some (.r0 w1)) (ks : List Nat) (n : Nat) : ToldS := ⟨#[vn, vs (nth ks 0) 0 L0.length L0.length], [((nth ks 0), .cells (Zd eI L0) 3)], Value.bool w1, [], 0⟩

theorem ZiM {L0 : List Int} {w1 : Bool} {N : Nat} (h : ZiC L0 N = some (.r0 w1)) (ks : List Nat) (n : Nat) (hk : ks.length = 1 := by rfl) (hnd : ks.Nodup := by decide +kernel) (hlt : ∀ k ∈ ks, k < n := by decide +kernel) : (ZgR (N := N)  h ks n).P Tryz.prog 19 n :=
 match ks, hk, hnd, hlt with
 | [k0], _, hnd, hlt => ZcO (show LSpec Tryz.prog 19 #[vn, vs 0 0 L0.length L0.length] [.cells (Zd eI L0) 3] (Value.bool w1) [some (.cells (Zd eI L0) 3)] from ZtX L0 N _ h) _ n [] hnd hlt

noncomputable def ZrG : Zc8 → Value
 | .r0 w1 => Value.bool w1
noncomputable def Zqx (L0 L1 : List RG) : Zc8 → List (Option AObj)
 | .r0 w1 => (κS L1)

def Zy6 : ZbW → Nat
 | .h1m0 v2 => 1
section
variable (L0 L1 : List RG)
noncomputable def Zz6 : ZbW → List (Nat × Value)
 | .h1m0 v2 => [(0, ms RA L0), (1, vs 0 0 L1.length L1.length), (5, vi (v2 : Int))]
noncomputable def Zz7 (L0 L1 : List RG) : ZbW → List (Option AObj)
 | .h1m0 v2 => (κS L1)

noncomputable def Zgg : Nat → Code × List ZD
 | 1 => ZX [1, 1, 0, 1, 3] (Zaw Tryz.f18) []
 | _ => (.skip, [])
def Zqy : Nat → Bool
 | 1 => true
 | _ => true
noncomputable def Zz8 (i : Nat) : List ZD := match Zqy i with | true => .rnd i :: (Zgg i).2 | false => (Zgg i).2

noncomputable def Zh3 (N : Nat) : Mach := ⟨Tryz.f18, (κ0 L1), ZbW, Zc8, Zhh L0 L1 N, Zy6, Zgg, Zqy, Zz6 L0 L1, Zz7 L0 L1, ZrG, Zqx L0 L1⟩

theorem ZsI (v2 N : Nat) : (Zh3 L0 L1 N).Ok Tryz.prog Zg (.h1m0 v2 : ZbW) (Zhh L0 L1 N (.h1m0 v2 : ZbW)) := by
 show (Zh3 L0 L1 N).Ok Tryz.prog Zg (.h1m0 v2 : ZbW) (ZiD L0 L1 N v2)
 unfold ZiD
 refine ok_ite (fun g0 => ?_) fun g0 => ?_
 ·
  have w1 := kG RA L0 (0 + (v2 * 2)) v2 0 2 2 <| kB v2 L0.length <| kI (v2 : Int) (Int.ofNat v2) <| hY g0 Zb
  refine oi fun g1 => ?_
  have w2 := kLn RA L1 v2 0 2 <| kB v2 L1.length <| kI (v2 : Int) (Int.ofNat v2) w1
  refine ok_ite (fun g2 => ?_) fun g2 => ?_
  ·
   exact okF (Za (oq [1, 3]) [] [(0, v2), (1, v2)] [(0, (RA.cel (L0.getD v2 RG.z))), (1, (RA.cel (L1.getD v2 RG.z)))] []) [0] (vf) (kX ((!(((L0.getD v2 RG.z).a0 == (L1.getD v2 RG.z).a0) && (((L0.getD v2 RG.z).a1 == (L1.getD v2 RG.z).a1) && true)))) true (by rw [Bool.not_eq_true']; exact Bool.eq_false_iff.2 (by simp only [ne_eq, Bool.and_true, Bool.and_eq_true, beq_iff_eq]; first | omega | (intro hh; simp_all; done) | (intro hh; grind))) w2) (bR <| bE)
  refine oi fun g3 => ?_
  exact okN (Za (oq [1, 2]) [(0, (((v2 + 1) : Nat) : Int))] [(0, v2), (1, v2)] [(0, (RA.cel (L0.getD v2 RG.z))), (1, (RA.cel (L1.getD v2 RG.z)))] []) [0] [some (ms RA L0), some (vs 0 0 L1.length L1.length), some (κB v2)] (kW ((v2 : Int) + 1) (((v2 + 1) : Nat) : Int) <| kX ((!(((L0.getD v2 RG.z).a0 == (L1.getD v2 RG.z).a0) && (((L0.getD v2 RG.z).a1 == (L1.getD v2 RG.z).a1) && true)))) false (by rw [Bool.not_eq_false']; first | (simp only [beq_self_eq_true, Bool.and_self]; done) | (simp only [Bool.and_true, Bool.and_eq_true, beq_iff_eq] <;> first | omega | (simp_all; done) | grind)) w2) (tC (tC (tC (tE)))) (bR <| bE) (show 1 ∈ Zj (Zz8 1) from by decide +kernel)
 exact okF (Za (oq [0]) [] [] [] []) [0] (vT) (hN g0 Zb) (bR <| bE)

theorem Zw3 (N : Nat) : (Zh3 L0 L1 N).Enter Tryz.prog Zg #[ms RA L0, vs 0 0 L1.length L1.length] (ZkX L0 L1 N) := by
 unfold ZkX
 refine en_ite (fun g0 => ?_) (fun g0 => ?_)
 ·
  exact enF (Za (oq [1]) [] [] [] []) [0] (vf) (hD g0 Zb) (bR <| bE)
 exact enH (Zgg 1) (Za (oq [0]) [] [] [] []) [0] [some (ms RA L0), some (vs 0 0 L1.length L1.length), some (vq)] (kE (L0.length : Int) (L1.length : Int) Zb) (tC (tC (tC (tE) ⟨Eq.trans (show κn = vq from ci) (by rfl), by rfl⟩))) (bR <| bE) (show Zj (Zgg 1).2 = [] from rfl)

theorem ZtY (N : Nat) (r : Zc8) (h : ZfF L0 L1 N = some r) : LSpec Tryz.prog 18 #[ms RA L0, vs 0 0 L1.length L1.length] (κ0 L1) (ZrG r) (Zqx L0 L1 r) :=
 Mach.spec ZB (Zh3 L0 L1 N) Tryz.func18 (by kernel_rfl) (by kernel_rfl) (fun x => by cases x <;> exact Zu _ rfl) (fun r => by cases r <;> exact Zu _ rfl) (fun x => by
  cases x with
  | h1m0 _ => exact fun _ => (show ¬ (1 ∈ Zj (Zgg 1).2) from by decide +kernel)
  ) (fun x => (show (Zh3 L0 L1 N).Ok Tryz.prog Zg x (Zhh L0 L1 N x) from by
  cases x with
  | h1m0 v2 => exact ZsI L0 L1 v2 N
  )) (Zw3 L0 L1 N) (n := N) h

end
noncomputable def ZgS {L0 L1 : List RG} {w1 : Bool} {N : Nat} (h : ZfF L0 L1 N = some (.r0 w1)) (ks : List Nat) (n : Nat) : ToldS := ⟨#[ms RA L0, vs (nth ks 0) 0 L1.length L1.length], [((nth ks 0), .cells (Zd RA L1) 44)], Value.bool w1, [], 0⟩

theorem ZiN {L0 L1 : List RG} {w1 : Bool} {N : Nat} (h : ZfF L0 L1 N = some (.r0 w1)) (ks : List Nat) (n : Nat) (hk : ks.length = 1 := by rfl) (hnd : ks.Nodup := by decide +kernel) (hlt : ∀ k ∈ ks, k < n := by decide +kernel) : (ZgS (N := N)  h ks n).P Tryz.prog 18 n :=
 match ks, hk, hnd, hlt with
 | [k0], _, hnd, hlt => ZcO (show LSpec Tryz.prog 18 #[ms RA L0, vs 0 0 L1.length L1.length] (κ0 L1) (Value.bool w1) (κS L1) from ZtY L0 L1 N _ h) _ n [] hnd hlt

noncomputable def Zo9 : ZbL → Value
 | .r0 w1 => Value.bool w1
noncomputable def Znh (L0 L1 : List Int) : ZbL → List (Option AObj)
 | .r0 w1 => [some (.cells (Zd eI L1) 3)]

def Zve : Zbk → Nat
 | .h1m0 v2 => 1
section
variable (L0 L1 : List Int)
noncomputable def Zw4 : Zbk → List (Nat × Value)
 | .h1m0 v2 => [(0, ms eI L0), (1, vs 0 0 L1.length L1.length), (5, vi (v2 : Int))]
noncomputable def Zw5 (L0 L1 : List Int) : Zbk → List (Option AObj)
 | .h1m0 v2 => [some (.cells (Zd eI L1) 3)]

noncomputable def Ze7 : Nat → Code × List ZD
 | 1 => ZX [1, 1, 0, 1, 3] (Zaw Tryz.f19) []
 | _ => (.skip, [])
def Zni : Nat → Bool
 | 1 => true
 | _ => true
noncomputable def Zw6 (i : Nat) : List ZD := match Zni i with | true => .rnd i :: (Ze7 i).2 | false => (Ze7 i).2

noncomputable def ZfT (N : Nat) : Mach := ⟨Tryz.f19, [.cells (Zd eI L1) 3], Zbk, ZbL, ZfG L0 L1 N, Zve, Ze7, Zni, Zw4 L0 L1, Zw5 L0 L1, Zo9, Znh L0 L1⟩

theorem Zqz (v2 N : Nat) : (ZfT L0 L1 N).Ok Tryz.prog Zg (.h1m0 v2 : Zbk) (ZfG L0 L1 N (.h1m0 v2 : Zbk)) := by
 show (ZfT L0 L1 N).Ok Tryz.prog Zg (.h1m0 v2 : Zbk) (Zhr L0 L1 N v2)
 unfold Zhr
 refine ok_ite (fun g0 => ?_) fun g0 => ?_
 ·
  have w1 := kG eI L0 (0 + (v2 * 1)) v2 0 1 1 <| kB v2 L0.length <| kI (v2 : Int) (Int.ofNat v2) <| hY g0 Zb
  refine oi fun g1 => ?_
  have w2 := kLn eI L1 v2 0 1 <| kB v2 L1.length <| kI (v2 : Int) (Int.ofNat v2) w1
  refine ok_ite (fun g2 => ?_) fun g2 => ?_
  ·
   exact okF (Za (oq [1, 3]) [] [(0, v2), (1, v2)] [(0, [.i (L0.getD v2 0)]), (1, [.i (L1.getD v2 0)])] []) [0] (vf) (hD g2 w2) (bR <| bE)
  refine oi fun g3 => ?_
  exact okN (Za (oq [1, 2]) [(0, (((v2 + 1) : Nat) : Int))] [(0, v2), (1, v2)] [(0, [.i (L0.getD v2 0)]), (1, [.i (L1.getD v2 0)])] []) [0] [some (ms eI L0), some (vs 0 0 L1.length L1.length), some (κB v2)] (kW ((v2 : Int) + 1) (((v2 + 1) : Nat) : Int) <| kE (L0.getD v2 0) (L1.getD v2 0) w2) (tC (tC (tC (tE)))) (bR <| bE) (show 1 ∈ Zj (Zw6 1) from by decide +kernel)
 exact okF (Za (oq [0]) [] [] [] []) [0] (vT) (hN g0 Zb) (bR <| bE)

theorem ZtZ (N : Nat) : (ZfT L0 L1 N).Enter Tryz.prog Zg #[ms eI L0, vs 0 0 L1.length L1.length] (Zjb L0 L1 N) := by
 unfold Zjb
 refine en_ite (fun g0 => ?_) (fun g0 => ?_)
 ·
  exact enF (Za (oq [1]) [] [] [] []) [0] (vf) (hD g0 Zb) (bR <| bE)
 exact enH (Ze7 1) (Za (oq [0]) [] [] [] []) [0] [some (ms eI L0), some (vs 0 0 L1.length L1.length), some (vq)] (kE (L0.length : Int) (L1.length : Int) Zb) (tC (tC (tC (tE) ⟨Eq.trans (show κn = vq from ci) (by rfl), by rfl⟩))) (bR <| bE) (show Zj (Ze7 1).2 = [] from rfl)

theorem Zri (N : Nat) (r : ZbL) (h : ZgJ L0 L1 N = some r) : LSpec Tryz.prog 19 #[ms eI L0, vs 0 0 L1.length L1.length] [.cells (Zd eI L1) 3] (Zo9 r) (Znh L0 L1 r) :=
 Mach.spec ZB (ZfT L0 L1 N) Tryz.func19 (by kernel_rfl) (by kernel_rfl) (fun x => by cases x <;> exact Zu _ rfl) (fun r => by cases r <;> exact Zu _ rfl) (fun x => by
  cases x with
  | h1m0 _ => exact fun _ => (show ¬ (1 ∈ Zj (Ze7 1).2) from by decide +kernel)
  ) (fun x => (show (ZfT L0 L1 N).Ok Tryz.prog Zg x (ZfG L0 L1 N x) from by
  cases x with
  | h1m0 v2 => exact Zqz L0 L1 v2 N
  )) (ZtZ L0 L1 N) (n := N) h

end
noncomputable def Zf2 {L0 L1 : List Int} {w1 : Bool} {N : Nat} (h : ZgJ L0 L1 N = some (.r0 w1)) (ks : List Nat) (n : Nat) : ToldS := ⟨#[ms eI L0, vs (nth ks 0) 0 L1.length L1.length], [((nth ks 0), .cells (Zd eI L1) 3)], Value.bool w1, [], 0⟩

theorem Zhm {L0 L1 : List Int} {w1 : Bool} {N : Nat} (h : ZgJ L0 L1 N = some (.r0 w1)) (ks : List Nat) (n : Nat) (hk : ks.length = 1 := by rfl) (hnd : ks.Nodup := by decide +kernel) (hlt : ∀ k ∈ ks, k < n := by decide +kernel) : (Zf2 (N := N)  h ks n).P Tryz.prog 19 n :=
 match ks, hk, hnd, hlt with
 | [k0], _, hnd, hlt => ZcO (show LSpec Tryz.prog 19 #[ms eI L0, vs 0 0 L1.length L1.length] [.cells (Zd eI L1) 3] (Value.bool w1) [some (.cells (Zd eI L1) 3)] from Zri L0 L1 N _ h) _ n [] hnd hlt

set_option linter.unusedVariables false
set_option maxRecDepth 100000
noncomputable def Zlw  : Zat → Value
 | .r0 w0 => Value.bool w0
noncomputable def ZjZ  : Zat → List (Option AObj)
 | .r0 w0 => []

noncomputable abbrev κ7 := [vi 1, vi 1, vi 1, vi 1, vi 1, vi 5]
noncomputable abbrev κY (y0_0 : List RI) := (Zd (ZR RB) ([y0_0] : List (List RI)))
noncomputable abbrev κV := (Zd RF ([(⟨0, 2, 0, 5, 2⟩ : RM), (⟨0, 2, 0, 6, 2⟩ : RM), (⟨1, 2, 0, 0, 0⟩ : RM)] : List RM))
noncomputable abbrev κG := (Zd eI ([(6 : Int)] : List Int))
noncomputable abbrev κD := (Zd RA ([(⟨1, 1⟩ : RG), (⟨1, 1⟩ : RG), (⟨1, 5⟩ : RG)] : List RG))
noncomputable abbrev κr := [Value.int .u8 0, Value.int .u8 2, Value.int .u8 0, Value.int .u8 5, Value.int .u8 2, Value.int .u8 0, Value.int .u8 2, Value.int .u8 0, Value.int .u8 6, Value.int .u8 2, Value.int .u8 1, Value.int .u8 2, Value.int .u8 0, Value.int .u8 0, Value.int .u8 0]
theorem Zvf  (N : Nat) : Fx Tryz.prog Zg Tryz.f8 [] #[] (Zlw ) (ZjZ ) (Zd5  N) := by
 unfold Zd5
 refine Zz (fun z0 c0 => ?_)
 cases z0 with
 | r0 =>
  exact fxC (Za (oq []) [] [] [] [(0, (Zkc c0 [0] 1).t)]) [] (vf) (kKa (ZqE c0 [0] 1) <| kX (dP (κr = κV)) true (Z1 (show (κr : List Value) = κV from rfl)) Zb) bE
 | r1 y0_0 =>
  have w1 := kKa (ZdN c0 [0] 1) <| kX (dP (κr = κV)) true (Z1 (show (κr : List Value) = κV from rfl)) Zb
  refine Zz (fun z1 c1 => ?_)
  cases z1 with
  | r0 y1_0 y1_1 y1_2 y1_3 =>
   refine Ze (fun g2 => ?_) (fun g2 => ?_)
   ·
    subst g2
    have w3 := kKa (Zf0 c1 [1] 2) <| kX (dP ([ms RB y0_0] = (κY y0_0))) true (Z1 (show ([ms RB y0_0] : List Value) = (κY y0_0) from rfl)) w1
    refine Zz (fun z3 c3 => ?_)
    cases z3 with
    | r0 =>
     exact Zq
    | r1 y3_0 =>
     have w4 := kK (tQ (Zk c3) 3) w3
     refine Zz (fun z4 c4 => ?_)
     cases z4 with
     | r0 y4_0 =>
      refine Ze (fun g5 => ?_) (fun g5 => ?_)
      ·
       refine Zz (fun z6 c6 => ?_)
       cases z6 with
       | r0 y6_0 =>
        refine Ze (fun g7 => ?_) (fun g7 => ?_)
        ·
         subst g7
         refine Ze (fun g8 => ?_) (fun _ => Zq)
         refine Zz (fun z9 c9 => ?_)
         cases z9 with
         | r0 y9_0 =>
          exact fxC (Za (oq [11]) [] [(0, 0)] [(3, [(mc RA (y1_1.getD 0 RL.z).a19)])] [(0, (Zm c0 [0] 1).t), (1, (ZF c1 [1] 2).t), (3, (tP (Zk c3)).t), (8, (tP (Zl c4)).t), (9, (ZgR c6 [7] 8).t), (13, (ZgS c9 [11] 12).t)]) [] (Value.bool y9_0) (kKa (ZiN c9 [11] 12) <| kX (dP (κ7 = κD)) true (Z1 (show (κ7 : List Value) = κD from rfl)) <| kG RE y1_1 ((0 + (0 * 20)) + 19) 0 19 1 20 <| kB 0 y1_1.length <| kI 0 (Int.ofNat 0) <| kKa (ZiM c6 [7] 8) <| kX (dP ([vi 6] = κG)) true (Z1 (show ([vi 6] : List Value) = κG from rfl)) <| hT g5 <| kK (tQ (Zl c4) 7) w4) bE
        obtain rfl : y6_0 = false := by simpa using g7
        exact fxC (Za (oq [11]) [] [] [] [(0, (Zm c0 [0] 1).t), (1, (ZF c1 [1] 2).t), (3, (tP (Zk c3)).t), (8, (tP (Zl c4)).t), (9, (ZgR c6 [7] 8).t)]) [] (vf) (kKa (ZiM c6 [7] 8) <| kX (dP ([vi 6] = κG)) true (Z1 (show ([vi 6] : List Value) = κG from rfl)) <| hT g5 <| kK (tQ (Zl c4) 7) w4) bE
      exact fxC (Za (oq [10]) [] [] [] [(0, (Zm c0 [0] 1).t), (1, (ZF c1 [1] 2).t), (3, (tP (Zk c3)).t), (8, (tP (Zl c4)).t)]) [] (vf) (hF g5 <| kK (tQ (Zl c4) 7) w4) bE
     | r1 y4_0 =>
      refine Zz (fun z5 c5 => ?_)
      cases z5 with
      | r0 y5_0 =>
       refine Ze (fun g6 => ?_) (fun g6 => ?_)
       ·
        subst g6
        refine Ze (fun g7 => ?_) (fun _ => Zq)
        refine Zz (fun z8 c8 => ?_)
        cases z8 with
        | r0 y8_0 =>
         exact fxC (Za (oq []) [] [(0, 0)] [(3, [(mc RA (y1_1.getD 0 RL.z).a19)])] [(0, (Zm c0 [0] 1).t), (1, (ZF c1 [1] 2).t), (3, (tP (Zk c3)).t), (8, (tP (Zl c4)).t), (9, (Zf2 c5 [7] 8).t), (13, (ZgS c8 [11] 12).t)]) [] (Value.bool y8_0) (kKa (ZiN c8 [11] 12) <| kX (dP (κ7 = κD)) true (Z1 (show (κ7 : List Value) = κD from rfl)) <| kG RE y1_1 ((0 + (0 * 20)) + 19) 0 19 1 20 <| kB 0 y1_1.length <| kI 0 (Int.ofNat 0) <| kKa (Zhm c5 [7] 8) <| kX (dP ([vi 6] = κG)) true (Z1 (show ([vi 6] : List Value) = κG from rfl)) <| kK (tQ (Zl c4) 7) w4) bE
       obtain rfl : y5_0 = false := by simpa using g6
       exact fxC (Za (oq []) [] [] [] [(0, (Zm c0 [0] 1).t), (1, (ZF c1 [1] 2).t), (3, (tP (Zk c3)).t), (8, (tP (Zl c4)).t), (9, (Zf2 c5 [7] 8).t)]) [] (vf) (kKa (Zhm c5 [7] 8) <| kX (dP ([vi 6] = κG)) true (Z1 (show ([vi 6] : List Value) = κG from rfl)) <| kK (tQ (Zl c4) 7) w4) bE
   obtain rfl : y1_3 = false := by simpa using g2
   have w3 := kKa (Zf0 c1 [1] 2) <| kX (dP ([ms RB y0_0] = (κY y0_0))) true (Z1 (show ([ms RB y0_0] : List Value) = (κY y0_0) from rfl)) w1
   refine Zz (fun z3 c3 => ?_)
   cases z3 with
   | r0 =>
    exact Zq
   | r1 y3_0 =>
    refine Zz (fun z4 c4 => ?_)
    cases z4 with
    | r0 y4_0 =>
     exact fxC (Za (oq []) [] [] [] [(0, (Zm c0 [0] 1).t), (1, (ZF c1 [1] 2).t), (3, (tP (Zk c3)).t), (8, (tP (Zl c4)).t)]) [] (vf) (kK (tQ (Zl c4) 7) <| kK (tQ (Zk c3) 3) w3) bE
    | r1 y4_0 =>
     exact fxC (Za (oq []) [] [] [] [(0, (Zm c0 [0] 1).t), (1, (ZF c1 [1] 2).t), (3, (tP (Zk c3)).t), (8, (tP (Zl c4)).t)]) [] (vf) (kK (tQ (Zl c4) 7) <| kK (tQ (Zk c3) 3) w3) bE
  | r1 y1_0 y1_1 y1_2 y1_3 y1_4 =>
   refine Ze (fun g2 => ?_) (fun g2 => ?_)
   ·
    subst g2
    have w3 := kKa (Zf1 c1 [1] 2) <| kX (dP ([ms RB y0_0] = (κY y0_0))) true (Z1 (show ([ms RB y0_0] : List Value) = (κY y0_0) from rfl)) w1
    refine Zz (fun z3 c3 => ?_)
    cases z3 with
    | r0 =>
     exact Zq
    | r1 y3_0 =>
     have w4 := kK (tQ (Zk c3) 3) w3
     refine Zz (fun z4 c4 => ?_)
     cases z4 with
     | r0 y4_0 =>
      refine Ze (fun g5 => ?_) (fun g5 => ?_)
      ·
       refine Zz (fun z6 c6 => ?_)
       cases z6 with
       | r0 y6_0 =>
        refine Ze (fun g7 => ?_) (fun g7 => ?_)
        ·
         subst g7
         refine Ze (fun g8 => ?_) (fun _ => Zq)
         refine Zz (fun z9 c9 => ?_)
         cases z9 with
         | r0 y9_0 =>
          exact fxC (Za (oq [11]) [] [(0, 0)] [(3, [(mc RA (y1_1.getD 0 RL.z).a19)])] [(0, (Zm c0 [0] 1).t), (1, (ZG c1 [1] 2).t), (3, (tP (Zk c3)).t), (8, (tP (Zl c4)).t), (9, (ZgR c6 [7] 8).t), (13, (ZgS c9 [11] 12).t)]) [] (Value.bool y9_0) (kKa (ZiN c9 [11] 12) <| kX (dP (κ7 = κD)) true (Z1 (show (κ7 : List Value) = κD from rfl)) <| kG RE y1_1 ((0 + (0 * 20)) + 19) 0 19 1 20 <| kB 0 y1_1.length <| kI 0 (Int.ofNat 0) <| kKa (ZiM c6 [7] 8) <| kX (dP ([vi 6] = κG)) true (Z1 (show ([vi 6] : List Value) = κG from rfl)) <| hT g5 <| kK (tQ (Zl c4) 7) w4) bE
        obtain rfl : y6_0 = false := by simpa using g7
        exact fxC (Za (oq [11]) [] [] [] [(0, (Zm c0 [0] 1).t), (1, (ZG c1 [1] 2).t), (3, (tP (Zk c3)).t), (8, (tP (Zl c4)).t), (9, (ZgR c6 [7] 8).t)]) [] (vf) (kKa (ZiM c6 [7] 8) <| kX (dP ([vi 6] = κG)) true (Z1 (show ([vi 6] : List Value) = κG from rfl)) <| hT g5 <| kK (tQ (Zl c4) 7) w4) bE
      exact fxC (Za (oq [10]) [] [] [] [(0, (Zm c0 [0] 1).t), (1, (ZG c1 [1] 2).t), (3, (tP (Zk c3)).t), (8, (tP (Zl c4)).t)]) [] (vf) (hF g5 <| kK (tQ (Zl c4) 7) w4) bE
     | r1 y4_0 =>
      refine Zz (fun z5 c5 => ?_)
      cases z5 with
      | r0 y5_0 =>
       refine Ze (fun g6 => ?_) (fun g6 => ?_)
       ·
        subst g6
        refine Ze (fun g7 => ?_) (fun _ => Zq)
        refine Zz (fun z8 c8 => ?_)
        cases z8 with
        | r0 y8_0 =>
         exact fxC (Za (oq []) [] [(0, 0)] [(3, [(mc RA (y1_1.getD 0 RL.z).a19)])] [(0, (Zm c0 [0] 1).t), (1, (ZG c1 [1] 2).t), (3, (tP (Zk c3)).t), (8, (tP (Zl c4)).t), (9, (Zf2 c5 [7] 8).t), (13, (ZgS c8 [11] 12).t)]) [] (Value.bool y8_0) (kKa (ZiN c8 [11] 12) <| kX (dP (κ7 = κD)) true (Z1 (show (κ7 : List Value) = κD from rfl)) <| kG RE y1_1 ((0 + (0 * 20)) + 19) 0 19 1 20 <| kB 0 y1_1.length <| kI 0 (Int.ofNat 0) <| kKa (Zhm c5 [7] 8) <| kX (dP ([vi 6] = κG)) true (Z1 (show ([vi 6] : List Value) = κG from rfl)) <| kK (tQ (Zl c4) 7) w4) bE
       obtain rfl : y5_0 = false := by simpa using g6
       exact fxC (Za (oq []) [] [] [] [(0, (Zm c0 [0] 1).t), (1, (ZG c1 [1] 2).t), (3, (tP (Zk c3)).t), (8, (tP (Zl c4)).t), (9, (Zf2 c5 [7] 8).t)]) [] (vf) (kKa (Zhm c5 [7] 8) <| kX (dP ([vi 6] = κG)) true (Z1 (show ([vi 6] : List Value) = κG from rfl)) <| kK (tQ (Zl c4) 7) w4) bE
   obtain rfl : y1_4 = false := by simpa using g2
   have w3 := kKa (Zf1 c1 [1] 2) <| kX (dP ([ms RB y0_0] = (κY y0_0))) true (Z1 (show ([ms RB y0_0] : List Value) = (κY y0_0) from rfl)) w1
   refine Zz (fun z3 c3 => ?_)
   cases z3 with
   | r0 =>
    exact Zq
   | r1 y3_0 =>
    refine Zz (fun z4 c4 => ?_)
    cases z4 with
    | r0 y4_0 =>
     exact fxC (Za (oq []) [] [] [] [(0, (Zm c0 [0] 1).t), (1, (ZG c1 [1] 2).t), (3, (tP (Zk c3)).t), (8, (tP (Zl c4)).t)]) [] (vf) (kK (tQ (Zl c4) 7) <| kK (tQ (Zk c3) 3) w3) bE
    | r1 y4_0 =>
     exact fxC (Za (oq []) [] [] [] [(0, (Zm c0 [0] 1).t), (1, (ZG c1 [1] 2).t), (3, (tP (Zk c3)).t), (8, (tP (Zl c4)).t)]) [] (vf) (kK (tQ (Zl c4) 7) <| kK (tQ (Zk c3) 3) w3) bE

theorem ZsJ  (N : Nat) (r : Zat) (h : Zd5  N = some r) : LSpec Tryz.prog 8 #[] [] (Zlw  r) (ZjZ  r) :=
 Zax ZB Tryz.func8 (by kernel_rfl) (by kernel_rfl) (fun r => by cases r <;> exact Zu _ rfl) (Zvf  N) h

theorem Zv  {N : Nat} {r : Zat} (h : Zd5  N = some r) : LSpec Tryz.prog 8 #[] [] (Zlw  r) (ZjZ  r) := ZsJ  N r h

end Ev
end Go.Proofs.YthfohmhipifiaaaGreat
