/- Part 8. -/
import Derived.Test.YtiijipocjellpaaGreatZag
import Derived.Test.YtiijipocjellpaaGreatZad
import Derived.Test.YtiijipocjellpaaGreatZae
import Derived.Test.YtiijipocjellpaaGreatZac
import Derived.StillTail
import Derived.OrdersHeld
import Derived.WideBlind
set_option linter.unusedSimpArgs false
set_option linter.unusedVariables false
/- Calls do what the plain functions say. -/
namespace Go.Proofs.YtiijipocjellpaaGreat
open Go.IntKind (i64)
open Go.RowKit
namespace Ev
set_option linter.unusedVariables false
set_option maxRecDepth 100000
set_option maxHeartbeats 4000000
noncomputable def Zh1 (L0 : List RN) : Zav → Value
 | .r0 => vT
noncomputable def Zhg (L0 : List RN) : Zav → List (Option AObj)
 | .r0 => []

def ZlY : law18_PlainAloneX → Nat
 | .h1m0 v1 v2 v3 v13 v14 v15 v16 v17 v18 v19 v20 v22 v24 v25 v26 v27 v29 v33 v34 v35 => 1
 | .h2m0 v1 v2 v3 v4 v5 v6 v16 v17 v18 v19 v20 v21 v22 v23 v25 v26 v27 v28 v29 v30 v31 v32 v33 v34 v35 v36 v37 v39 v40 v41 v42 v44 v48 v49 v50 => 2
 | .h3m0 v1 v2 v3 v4 v5 v15 v16 v17 v18 v19 v20 v21 v22 v24 v26 v27 v28 v29 v31 v35 v36 v37 => 3
noncomputable def Zmy (L0 : List RN) : law18_PlainAloneX → List (Nat × Value)
 | .h1m0 v1 v2 v3 v13 v14 v15 v16 v17 v18 v19 v20 v22 v24 v25 v26 v27 v29 v33 v34 v35 => [(0, ms RE L0), (3, vp 0 0), (5, vp 1 0), (7, vs 2 0 v1.length v1.length), (8, vi v2), (9, vi (v3 : Int))]
 | .h2m0 v1 v2 v3 v4 v5 v6 v16 v17 v18 v19 v20 v21 v22 v23 v25 v26 v27 v28 v29 v30 v31 v32 v33 v34 v35 v36 v37 v39 v40 v41 v42 v44 v48 v49 v50 => [(0, ms RE L0), (3, vp 0 0), (5, vp 1 0), (7, vs 2 0 v1.length v1.length), (8, vi v2), (9, vi (v3 : Int)), (10, vp 3 0), (11, vp 4 0), (14, Value.bool v4), (15, vp 5 0), (16, vi (v5 : Int)), (17, vi v6)]
 | .h3m0 v1 v2 v3 v4 v5 v15 v16 v17 v18 v19 v20 v21 v22 v24 v26 v27 v28 v29 v31 v35 v36 v37 => [(0, ms RE L0), (3, vp 0 0), (5, vp 1 0), (7, vs 2 0 v1.length v1.length), (8, vi v2), (9, vi (v3 : Int)), (17, vi v4), (18, Value.bool v5)]
noncomputable abbrev κo := (AObj.cells (Z1 Zh9 64 [vi 2] (List.replicate 64 (⟨0, false, false⟩ : RG)) [vi 300, vi 5, vi 50, vi 50, vi 1000, vi 1, vq, vp 3 0, vp 4 0, vp 5 0, vp 6 0]) 132)
noncomputable abbrev κm := (AObj.cells (Z1 eI 64 [vi 2] (List.replicate 64 (0 : Int)) []) 211)
noncomputable abbrev κg := (AObj.cells (Z1 Zh9 64 [vi 2] (List.replicate 64 (⟨0, false, false⟩ : RG)) [vi 300, vi 5, vi 50, vi 50, vi 1000, vi 1, vq, vp 6 0, vp 7 0, vp 8 0, vp 9 0]) 132)
noncomputable def Zmz (L0 : List RN) : law18_PlainAloneX → List (Option AObj)
 | .h1m0 v1 v2 v3 v13 v14 v15 v16 v17 v18 v19 v20 v22 v24 v25 v26 v27 v29 v33 v34 v35 => [some κo, some (.cells (Z1 Zf 1 [] v13 [vs 11 (v34 * 2) v35 v35, vi v14, Value.bool v15, Value.bool v16, vi v17, vi v18, vi v19, vi v20, vp 0 0, vi 1, (fnV v22)]) 141), some (κbz v1), some (.cells (ZG (vi 300) (vs 7 0 v24.length v24.length) (vs 8 0 v25.length v25.length)) 154), some (.cells [vs 9 0 v26.length v26.length, vs 10 0 v27.length v27.length] 191), some (.cells [vi 1000, vi v29, vq] 208), some κm, some (.cells (Zb RC v24) 57), some (.cells (Zb RB v25) 42), some (.cells (Zb eI v26) 188), some (.cells (Zb eI v27) 188), some (.cells (Zb RB v33) 42 true)]
 | .h2m0 v1 v2 v3 v4 v5 v6 v16 v17 v18 v19 v20 v21 v22 v23 v25 v26 v27 v28 v29 v30 v31 v32 v33 v34 v35 v36 v37 v39 v40 v41 v42 v44 v48 v49 v50 => [some κg, some (.cells (Z1 Zf 1 [] v16 [vs 14 (v49 * 2) v50 v50, vi v17, Value.bool v18, Value.bool v19, vi v20, vi v21, vi v22, vi v23, vp 0 0, vi 1, (fnV v25)]) 141), some (κbz v1), some (.cells [vi v26, vi v27, vi v28, vi v29, vi v30, vi v31, vi v32, vi v33] 65), some (.cells [vi v34, vi v35] 42), some (.cells [vi v36, vi v37] 42), some (.cells (ZG (vi 300) (vs 10 0 v39.length v39.length) (vs 11 0 v40.length v40.length)) 154), some (.cells [vs 12 0 v41.length v41.length, vs 13 0 v42.length v42.length] 191), some (.cells [vi 1000, vi v44, vq] 208), some κm, some (.cells (Zb RC v39) 57), some (.cells (Zb RB v40) 42), some (.cells (Zb eI v41) 188), some (.cells (Zb eI v42) 188), some (.cells (Zb RB v48) 42 true)]
 | .h3m0 v1 v2 v3 v4 v5 v15 v16 v17 v18 v19 v20 v21 v22 v24 v26 v27 v28 v29 v31 v35 v36 v37 => [some κo, some (.cells (Z1 Zf 1 [] v15 [vs 11 (v36 * 2) v37 v37, vi v16, Value.bool v17, Value.bool v18, vi v19, vi v20, vi v21, vi v22, vp 0 0, vi 1, (fnV v24)]) 141), some (κbz v1), some (.cells (ZG (vi 300) (vs 7 0 v26.length v26.length) (vs 8 0 v27.length v27.length)) 154), some (.cells [vs 9 0 v28.length v28.length, vs 10 0 v29.length v29.length] 191), some (.cells [vi 1000, vi v31, vq] 208), some κm, some (.cells (Zb RC v26) 57), some (.cells (Zb RB v27) 42), some (.cells (Zb eI v28) 188), some (.cells (Zb eI v29) 188), some (.cells (Zb RB v35) 42 true)]

noncomputable def Zp : Nat → Code × List Zay
 | 1 => Zck [1, 1, 1, 1, 1, 1, 0, 1, 3] (ZcP Tryz.f4) []
 | 2 => Zkr [1, 1, 1, 1, 1, 1, 0, 1, 3, 7, 1, 0, 3, 1, 1, 1, 1, 1, 1, 1, 1] (ZcP Tryz.f4) []
 | 3 => Zkr [1, 1, 1, 1, 1, 1, 0, 1, 3, 7, 1, 0, 3, 1, 1, 1, 1, 1, 1, 1, 1, 1] (ZcP Tryz.f4) []
 | _ => (.skip, [])
def Zhh : Nat → Bool
 | 1 => true
 | 2 => false
 | 3 => false
 | _ => true
noncomputable def ZP (i : Nat) : List Zay := match Zhh i with | true => .rnd i :: (Zp i).2 | false => (Zp i).2

noncomputable def ZaF (L0 : List RN) (N : Nat) : Mach := ⟨Tryz.f4, [], law18_PlainAloneX, Zav, Zbg L0 N, ZlY, Zp, Zhh, Zmy L0, Zmz L0, Zh1 L0, Zhg L0⟩

noncomputable abbrev κby (v26 v27 : List Int) := [vs 9 0 v26.length v26.length, vs 10 0 v27.length v27.length]
noncomputable abbrev κbp (v24 : List RJ) (v25 : List RH) := (ZG (vi 300) (vs 7 0 v24.length v24.length) (vs 8 0 v25.length v25.length))
noncomputable abbrev κY (v1 : List RH) := (vs 2 0 v1.length v1.length)
theorem Zjs (L0 : List RN) (v1 : List RH) (v2 : Int) (v3 : Nat) (v13 : List RO) (v14 : Int) (v15 v16 : Bool) (v17 v18 v19 v20 v22 : Int) (v24 : List RJ) (v25 : List RH) (v26 v27 : List Int) (v29 : Int) (v33 : List RH) (v34 v35 N : Nat) : (ZaF L0 N).Ok Tryz.prog Zu (.h1m0 v1 v2 v3 v13 v14 v15 v16 v17 v18 v19 v20 v22 v24 v25 v26 v27 v29 v33 v34 v35 : law18_PlainAloneX) (Zbg L0 N (.h1m0 v1 v2 v3 v13 v14 v15 v16 v17 v18 v19 v20 v22 v24 v25 v26 v27 v29 v33 v34 v35 : law18_PlainAloneX)) := by
 show (ZaF L0 N).Ok Tryz.prog Zu (.h1m0 v1 v2 v3 v13 v14 v15 v16 v17 v18 v19 v20 v22 v24 v25 v26 v27 v29 v33 v34 v35 : law18_PlainAloneX) (Zaz L0 N v1 v2 v3 v13 v14 v15 v16 v17 v18 v19 v20 v22 v24 v25 v26 v27 v29 v33 v34 v35)
 unfold Zaz
 refine Mach.ok_ite (fun g0 => ?_) (fun g0 => ?_)
 ·
  refine Mach.ok_ite (fun g1 => ?_) (fun g1 => ?_)
  ·
   have w2 := kG RE L0 (0 + (v3 * 8)) v3 0 8 8 <| kB v3 L0.length <| kI (v3 : Int) (Int.ofNat v3) <| hY g1 <| hY g0 Zk
   refine Mach.ok_bind (fun z2 c2 => ?_)
   cases z2 with
   | r0 y2_0 y2_1 =>
    refine Mach.ok_bind (fun z3 c3 => ?_)
    cases z3 with
    | r0 y3_0 y3_1 y3_2 y3_3 y3_4 y3_5 =>
     have w4 := kK (Zat c3 [3, 7, 8] 15) <| kK (ZkH c2 [2] 14) w2
     refine Mach.ok_ite (fun g4 => ?_) (fun g4 => ?_)
     ·
      refine Mach.ok_bind (fun z5 c5 => ?_)
      cases z5 with
      | r0 y5_0 y5_1 =>
       refine Mach.ok_bind (fun z6 c6 => ?_)
       cases z6 with
       | r0 =>
        exact Mach.ok_none
       | r1 y6_0 =>
        have w7 := kK (Zdp c6 [3, 7, 8] 17) <| kK (ZkJ c5 [2] 16) <| hT g4 w4
        refine Mach.ok_bind (fun z7 c7 => ?_)
        cases z7 with
        | r0 =>
         exact Mach.okC (Zp 2) 5 7 (Zj (oq [1, 3, 11]) [] [(0, v3)] [(0, (RE.cel (L0.getD v3 RN.z)))] [(2, (Zdu c2 [2] 14).t), (4, (Zs c3 [3, 7, 8] 15).t), (6, (Zer c5 [2] 16).t), (8, (Zbo c6 [3, 7, 8] 17).t), (9, (Zgo c7 [] 17).t)]) (0 :: (1 :: (2 :: (12 :: (14 :: (16 :: (rg 3 9 []))))))) [some (ms RE L0), some (vp 0 0), some (vp 1 0), some (κY v1), some (vi v2), some (vi (v3 : Int)), some (vp 12 0), some (vp 14 0), some (vT), some (vp 16 0), some (vq), some (vi v2)] (kK (ZiO c7 [] 17) w7) (tC (tC (tC (tC (tC (tC (tC (tC (tC (tC (tC (tC (tE)) ⟨Eq.trans (show κbk = vq from (congrArg (Value.int .i64) (by first | rfl | omega))) (by rfl), by rfl⟩))))))))))) (bM κo <| bMf [] v13 [vs 11 (v34 * 2) v35 v35, vi v14, Value.bool v15, Value.bool v16, vi v17, vi v18, vi v19, vi v20, vp 0 0, vi 1, (fnV v22)] <| bR <| bS [vi (L0.getD v3 RN.z).a0, vi (L0.getD v3 RN.z).a1, vi (L0.getD v3 RN.z).a2, vi (L0.getD v3 RN.z).a3, vi (L0.getD v3 RN.z).a4, vi (L0.getD v3 RN.z).a5, vi (L0.getD v3 RN.z).a6, vi (L0.getD v3 RN.z).a7] <| bS [vi y2_0, vi y2_1] <| bS [vi y5_0, vi y5_1] <| bS (κbp v24 v25) <| bS (κby v26 v27) <| bS [vi 1000, vi v29, vq] <| bM κm <| bR <| bR <| bR <| bR <| bQ <| bE) (show ∀ j ∈ Zt (Zp 2).2, j ∈ Zt (ZP 1) from by decide +kernel)
        | r1 y7_0 =>
         exact Mach.okC (Zp 2) 5 7 (Zj (oq [1, 3, 11]) [] [(0, v3)] [(0, (RE.cel (L0.getD v3 RN.z)))] [(2, (Zdu c2 [2] 14).t), (4, (Zs c3 [3, 7, 8] 15).t), (6, (Zer c5 [2] 16).t), (8, (Zbo c6 [3, 7, 8] 17).t), (9, (Zgp c7 [] 17).t)]) (0 :: (1 :: (2 :: (12 :: (14 :: (16 :: (rg 3 9 []))))))) [some (ms RE L0), some (vp 0 0), some (vp 1 0), some (κY v1), some (vi v2), some (vi (v3 : Int)), some (vp 12 0), some (vp 14 0), some (vT), some (vp 16 0), some (vi (y7_0.length : Int)), some (vi v2)] (kK (ZiP c7 [] 17) w7) (tC (tC (tC (tC (tC (tC (tC (tC (tC (tC (tC (tC (tE))))))))))))) (bM κo <| bMf [] v13 [vs 11 (v34 * 2) v35 v35, vi v14, Value.bool v15, Value.bool v16, vi v17, vi v18, vi v19, vi v20, vp 0 0, vi 1, (fnV v22)] <| bR <| bS [vi (L0.getD v3 RN.z).a0, vi (L0.getD v3 RN.z).a1, vi (L0.getD v3 RN.z).a2, vi (L0.getD v3 RN.z).a3, vi (L0.getD v3 RN.z).a4, vi (L0.getD v3 RN.z).a5, vi (L0.getD v3 RN.z).a6, vi (L0.getD v3 RN.z).a7] <| bS [vi y2_0, vi y2_1] <| bS [vi y5_0, vi y5_1] <| bS (κbp v24 v25) <| bS (κby v26 v27) <| bS [vi 1000, vi v29, vq] <| bM κm <| bR <| bR <| bR <| bR <| bQ <| bE) (show ∀ j ∈ Zt (Zp 2).2, j ∈ Zt (ZP 1) from by decide +kernel)
     ·
      refine Mach.ok_bind (fun z5 c5 => ?_)
      cases z5 with
      | r0 y5_0 y5_1 =>
       refine Mach.ok_bind (fun z6 c6 => ?_)
       cases z6 with
       | r0 =>
        exact Mach.ok_none
       | r1 y6_0 =>
        have w7 := kK (Zdp c6 [3, 7, 8] 17) <| kK (ZkJ c5 [2] 16) <| hF g4 w4
        refine Mach.ok_bind (fun z7 c7 => ?_)
        cases z7 with
        | r0 =>
         exact Mach.okC (Zp 2) 5 7 (Zj (oq [1, 3, 10]) [] [(0, v3)] [(0, (RE.cel (L0.getD v3 RN.z)))] [(2, (Zdu c2 [2] 14).t), (4, (Zs c3 [3, 7, 8] 15).t), (6, (Zer c5 [2] 16).t), (8, (Zbo c6 [3, 7, 8] 17).t), (9, (Zgo c7 [] 17).t)]) (0 :: (1 :: (2 :: (12 :: (14 :: (16 :: (rg 3 9 []))))))) [some (ms RE L0), some (vp 0 0), some (vp 1 0), some (κY v1), some (vi v2), some (vi (v3 : Int)), some (vp 12 0), some (vp 14 0), some (vf), some (vp 16 0), some (vq), some (vi v2)] (kK (ZiO c7 [] 17) w7) (tC (tC (tC (tC (tC (tC (tC (tC (tC (tC (tC (tC (tE)) ⟨Eq.trans (show κbk = vq from (congrArg (Value.int .i64) (by first | rfl | omega))) (by rfl), by rfl⟩))))))))))) (bM κo <| bMf [] v13 [vs 11 (v34 * 2) v35 v35, vi v14, Value.bool v15, Value.bool v16, vi v17, vi v18, vi v19, vi v20, vp 0 0, vi 1, (fnV v22)] <| bR <| bS [vi (L0.getD v3 RN.z).a0, vi (L0.getD v3 RN.z).a1, vi (L0.getD v3 RN.z).a2, vi (L0.getD v3 RN.z).a3, vi (L0.getD v3 RN.z).a4, vi (L0.getD v3 RN.z).a5, vi (L0.getD v3 RN.z).a6, vi (L0.getD v3 RN.z).a7] <| bS [vi y2_0, vi y2_1] <| bS [vi y5_0, vi y5_1] <| bS (κbp v24 v25) <| bS (κby v26 v27) <| bS [vi 1000, vi v29, vq] <| bM κm <| bR <| bR <| bR <| bR <| bQ <| bE) (show ∀ j ∈ Zt (Zp 2).2, j ∈ Zt (ZP 1) from by decide +kernel)
        | r1 y7_0 =>
         exact Mach.okC (Zp 2) 5 7 (Zj (oq [1, 3, 10]) [] [(0, v3)] [(0, (RE.cel (L0.getD v3 RN.z)))] [(2, (Zdu c2 [2] 14).t), (4, (Zs c3 [3, 7, 8] 15).t), (6, (Zer c5 [2] 16).t), (8, (Zbo c6 [3, 7, 8] 17).t), (9, (Zgp c7 [] 17).t)]) (0 :: (1 :: (2 :: (12 :: (14 :: (16 :: (rg 3 9 []))))))) [some (ms RE L0), some (vp 0 0), some (vp 1 0), some (κY v1), some (vi v2), some (vi (v3 : Int)), some (vp 12 0), some (vp 14 0), some (vf), some (vp 16 0), some (vi (y7_0.length : Int)), some (vi v2)] (kK (ZiP c7 [] 17) w7) (tC (tC (tC (tC (tC (tC (tC (tC (tC (tC (tC (tC (tE))))))))))))) (bM κo <| bMf [] v13 [vs 11 (v34 * 2) v35 v35, vi v14, Value.bool v15, Value.bool v16, vi v17, vi v18, vi v19, vi v20, vp 0 0, vi 1, (fnV v22)] <| bR <| bS [vi (L0.getD v3 RN.z).a0, vi (L0.getD v3 RN.z).a1, vi (L0.getD v3 RN.z).a2, vi (L0.getD v3 RN.z).a3, vi (L0.getD v3 RN.z).a4, vi (L0.getD v3 RN.z).a5, vi (L0.getD v3 RN.z).a6, vi (L0.getD v3 RN.z).a7] <| bS [vi y2_0, vi y2_1] <| bS [vi y5_0, vi y5_1] <| bS (κbp v24 v25) <| bS (κby v26 v27) <| bS [vi 1000, vi v29, vq] <| bM κm <| bR <| bR <| bR <| bR <| bQ <| bE) (show ∀ j ∈ Zt (Zp 2).2, j ∈ Zt (ZP 1) from by decide +kernel)
  ·
   exact Mach.okF (Zj (oq [1, 2]) [] [] [] []) [] (vT) (hN g1 <| hY g0 Zk) bE
 ·
  exact Mach.okF (Zj (oq [0]) [] [] [] []) [] (vT) (hN g0 Zk) bE

noncomputable abbrev κy (y3_17 y3_18 : Nat) (y3_7 : Int) (y3_8 y3_9 : Bool) (y3_10 y3_11 y3_12 y3_13 y3_14 : Int) := [vs 17 (y3_17 * 2) y3_18 y3_18, vi y3_7, Value.bool y3_8, Value.bool y3_9, vi y3_10, vi y3_11, vi y3_12, vi y3_13, vp 0 0, vi 1, (fnV y3_14)]
noncomputable abbrev κs (L0 : List RN) (v1 : List RH) (y3_4 : Int) (v3 : Nat) (v6 : Int) (y3_5 : Bool) := [some (ms RE L0), some (vp 0 0), some (vp 1 0), some (κY v1), some (vi y3_4), some (vi (v3 : Int)), some (vi v6), some (Value.bool y3_5)]
theorem Zjt (L0 : List RN) (v1 : List RH) (v2 : Int) (v3 : Nat) (v4 : Bool) (v5 : Nat) (v6 : Int) (v16 : List RO) (v17 : Int) (v18 v19 : Bool) (v20 v21 v22 v23 v25 v26 v27 v28 v29 v30 v31 v32 v33 v34 v35 v36 v37 : Int) (v39 : List RJ) (v40 : List RH) (v41 v42 : List Int) (v44 : Int) (v48 : List RH) (v49 v50 N : Nat) : (ZaF L0 N).Ok Tryz.prog Zu (.h2m0 v1 v2 v3 v4 v5 v6 v16 v17 v18 v19 v20 v21 v22 v23 v25 v26 v27 v28 v29 v30 v31 v32 v33 v34 v35 v36 v37 v39 v40 v41 v42 v44 v48 v49 v50 : law18_PlainAloneX) (Zbg L0 N (.h2m0 v1 v2 v3 v4 v5 v6 v16 v17 v18 v19 v20 v21 v22 v23 v25 v26 v27 v28 v29 v30 v31 v32 v33 v34 v35 v36 v37 v39 v40 v41 v42 v44 v48 v49 v50 : law18_PlainAloneX)) := by
 show (ZaF L0 N).Ok Tryz.prog Zu (.h2m0 v1 v2 v3 v4 v5 v6 v16 v17 v18 v19 v20 v21 v22 v23 v25 v26 v27 v28 v29 v30 v31 v32 v33 v34 v35 v36 v37 v39 v40 v41 v42 v44 v48 v49 v50 : law18_PlainAloneX) (Z3 L0 N v1 v2 v3 v4 v5 v6 v16 v17 v18 v19 v20 v21 v22 v23 v25 v26 v27 v28 v29 v30 v31 v32 v33 v34 v35 v36 v37 v39 v40 v41 v42 v44 v48 v49 v50)
 unfold Z3
 have w0 := kX ((Int.tmod (IntKind.u64.wrap v27) 3) == ((IntKind.u64.wrap v27) % 3)) true (beq_iff_eq.2 (ZmR (by have hu0 := uu v27; omega))) Zk
 refine Mach.ok_ite (fun g0 => ?_) (fun g0 => ?_)
 ·
  refine Mach.ok_bind (fun z1 c1 => ?_)
  cases z1 with
  | r0 y1_0 =>
   refine Mach.ok_bind (fun z2 c2 => ?_)
   cases z2 with
   | r0 _ _ _ _ _ _ _ _ _ _ _ _ _ _ _ _ _ _ _ =>
    exact Mach.ok_none
   | r1 y2_0 y2_1 y2_2 y2_3 y2_4 y2_5 y2_6 y2_7 y2_8 y2_9 y2_10 y2_11 y2_12 y2_13 =>
    refine Mach.ok_ite (fun g3 => ?_) (fun _ => Mach.ok_none)
    refine Mach.ok_ite (fun _ => Mach.ok_none) (fun g4 => ?_)
    exact Mach.okC (Zp 3) 5 0 (Zj (oq [1, 16]) [(1, ((IntKind.u64.wrap v27) % 3)), (3, ((IntKind.u64.wrap v29) % 3)), (4, ((IntKind.u64.wrap v29) % 3)), (5, ((1 : Int) + ((IntKind.u64.wrap v29) % 3)))] [] [] [(2, (Zab c1 (1 :: (0 :: (rg 6 9 []))) 15).t), (3, (ZmF c2 (1 :: (0 :: (rg 6 8 []))) 15).t), (7, .ap 1 [vi 2, vi y2_7] (Zb RB (v1 ++ ([(⟨2, y2_7⟩ : RH)] : List RH))))]) (0 :: (1 :: (22 :: (rg 6 4 (15 :: (16 :: (12 :: (13 :: [17])))))))) [some (ms RE L0), some (vp 0 0), some (vp 1 0), some (vs 22 0 (v1.length + 1) (v1.length + 1)), some (vi y2_2), some (vi (v3 : Int)), some (vi v6), some (vT)] (kE y2_2 (i64.wrap (v6 + 1)) <| kA RB v1 (⟨2, y2_7⟩ : RH) <| kK (Zr1 c2 (1 :: (0 :: (rg 6 8 []))) 15) <| kK (Zem c1 (1 :: (0 :: (rg 6 9 []))) 15) <| kW ((1 : Int) + ((IntKind.u64.wrap v29) % 3)) ((1 : Int) + ((IntKind.u64.wrap v29) % 3)) <| kX ((i64.wrap ((IntKind.u64.wrap v29) % 3)) == ((IntKind.u64.wrap v29) % 3)) true (beq_iff_eq.2 (wrap_i64 ltA)) <| kX ((Int.tmod (IntKind.u64.wrap v29) 3) == ((IntKind.u64.wrap v29) % 3)) true (beq_iff_eq.2 (ZmR (by have hu0 := uu v29; omega))) <| hT g0 w0) (tC (tC (tC (tC (tC (tC (tC (tC (tE))))) ⟨Eq.trans (show (vs 2 0 (v1 ++ ([(⟨2, y2_7⟩ : RH)] : List RH)).length (v1 ++ ([(⟨2, y2_7⟩ : RH)] : List RH)).length : Value) = vs 2 0 (v1.length + 1) (v1.length + 1) from (Z5 rfl eqA eqA)) (by rfl), by rfl⟩)))) (bM κg <| bM (.cells (Z1 Zf 1 [] y2_3 [vs 17 (y2_12 * 2) y2_13 y2_13, vi y2_4, Value.bool y2_5, vT, vi y2_6, vi 2, vi y2_7, vq, vp 0 0, vi 1, Value.nilFunc]) 141) <| bR <| bS (ZG (vi 300) (vs 15 0 y2_8.length y2_8.length) (vs 16 0 y2_9.length y2_9.length)) <| bS [vs 12 0 y2_0.length y2_0.length, vs 13 0 y2_1.length y2_1.length] <| bS [vi 1000, vi y2_10, vq] <| bM κm <| bR <| bR <| bR <| bR <| bQ <| bE) (show ∀ j ∈ Zt (Zp 3).2, j ∈ Zt (ZP 2) from by decide +kernel)
 ·
  refine Mach.ok_ite (fun g1 => ?_) (fun g1 => ?_)
  ·
   refine Mach.ok_bind (fun z2 c2 => ?_)
   cases z2 with
   | r0 y2_0 y2_1 y2_2 =>
    have w3 := kK (Zau c2 [6, 10, 11] 15) <| hT g1 <| hF g0 w0
    refine Mach.ok_bind (fun z3 c3 => ?_)
    cases z3 with
    | r0 y3_0 =>
     have w4 := kK (Zem c3 (1 :: (0 :: (rg 6 9 []))) 17) w3
     refine Mach.ok_bind (fun z4 c4 => ?_)
     cases z4 with
     | r0 y4_0 y4_1 y4_2 y4_3 y4_4 y4_5 y4_6 y4_7 y4_8 y4_9 y4_10 y4_11 y4_12 y4_13 y4_14 y4_15 y4_16 y4_17 y4_18 =>
      have w5 := kK (ZmE c4 (1 :: (0 :: (rg 6 8 []))) 17) w4
      refine Mach.ok_ite (fun _ => Mach.ok_none) (fun g5 => ?_)
      refine Mach.ok_ite (fun _ => Mach.ok_none) (fun g6 => ?_)
      have w7 := kX ((!((y4_11 == y2_0) && ((y4_12 == y2_1) && true)))) false (by rw [Bool.not_eq_false']; first | (simp only [beq_self_eq_true, Bool.and_self]; done) | (simp only [Bool.and_true, Bool.and_eq_true, beq_iff_eq] <;> first | omega | (simp_all; done) | grind)) <| kE y4_13 y2_2 w5
      refine Mach.ok_ite (fun g7 => ?_) (fun g7 => ?_)
      ·
       refine Mach.ok_ite (fun g8 => ?_) (fun g8 => ?_)
       ·
        refine Mach.ok_ite (fun g9 => ?_) (fun g9 => ?_)
        ·
         subst g9
         refine Mach.ok_ite (fun g10 => ?_) (fun _ => Mach.ok_none)
         exact Mach.okC (Zp 3) 5 0 (Zj (oq [0, 3, 16, 24, 27, 29, 31]) [(1, ((IntKind.u64.wrap v27) % 3))] [] [] [(1, (Z8 c2 [6, 10, 11] 15).t), (3, (Zab c3 (1 :: (0 :: (rg 6 9 []))) 17).t), (4, (ZbS c4 (1 :: (0 :: (rg 6 8 []))) 17).t)]) (0 :: (1 :: (2 :: (rg 6 8 [17])))) [some (ms RE L0), some (vp 0 0), some (vp 1 0), some (κY v1), some (vi y4_4), some (vi (v3 : Int)), some (vi v6), some (Value.bool y4_5)] (hT g10 <| hD g8 <| hD g7 w7) (tC (tC (tC (tC (tC (tC (tC (tC (tE))))))))) (bM κg <| bMf [] y4_6 [vs 17 (y4_17 * 2) y4_18 y4_18, vi y4_7, Value.bool y4_8, Value.bool y4_9, vi y4_10, vi y4_11, vi y4_12, vi y4_13, vp 0 0, vi 1, (fnV y4_14)] <| bR <| bS (ZG (vi 300) (vs 10 0 y4_0.length y4_0.length) (vs 11 0 y4_1.length y4_1.length)) <| bS [vs 12 0 y4_2.length y4_2.length, vs 13 0 y4_3.length y4_3.length] <| bS [vi 1000, vi y4_15, vq] <| bM κm <| bR <| bR <| bR <| bR <| bQ <| bE) (show ∀ j ∈ Zt (Zp 3).2, j ∈ Zt (ZP 2) from by decide +kernel)
        ·
         obtain rfl : v4 = false := by simpa using g9
         exact Mach.ok_none
       ·
        exact Mach.okC (Zp 3) 5 0 (Zj (oq [0, 3, 16, 24, 27, 28]) [(1, ((IntKind.u64.wrap v27) % 3))] [] [] [(1, (Z8 c2 [6, 10, 11] 15).t), (3, (Zab c3 (1 :: (0 :: (rg 6 9 []))) 17).t), (4, (ZbS c4 (1 :: (0 :: (rg 6 8 []))) 17).t)]) (0 :: (1 :: (2 :: (rg 6 8 [17])))) [some (ms RE L0), some (vp 0 0), some (vp 1 0), some (κY v1), some (vi y4_4), some (vi (v3 : Int)), some (vi v6), some (Value.bool y4_5)] (kE y4_4 (i64.wrap (v6 + 4)) <| hD g7 w7) (tC (tC (tC (tC (tC (tC (tC (tC (tE))))))))) (bM κg <| bMf [] y4_6 [vs 17 (y4_17 * 2) y4_18 y4_18, vi y4_7, Value.bool y4_8, Value.bool y4_9, vi y4_10, vi y4_11, vi y4_12, vi y4_13, vp 0 0, vi 1, (fnV y4_14)] <| bR <| bS (ZG (vi 300) (vs 10 0 y4_0.length y4_0.length) (vs 11 0 y4_1.length y4_1.length)) <| bS [vs 12 0 y4_2.length y4_2.length, vs 13 0 y4_3.length y4_3.length] <| bS [vi 1000, vi y4_15, vq] <| bM κm <| bR <| bR <| bR <| bR <| bQ <| bE) (show ∀ j ∈ Zt (Zp 3).2, j ∈ Zt (ZP 2) from by decide +kernel)
      ·
       exact Mach.okC (Zp 3) 5 0 (Zj (oq [0, 3, 16, 24, 26]) [(1, ((IntKind.u64.wrap v27) % 3))] [] [] [(1, (Z8 c2 [6, 10, 11] 15).t), (3, (Zab c3 (1 :: (0 :: (rg 6 9 []))) 17).t), (4, (ZbS c4 (1 :: (0 :: (rg 6 8 []))) 17).t)]) (0 :: (1 :: (2 :: (rg 6 8 [17])))) [some (ms RE L0), some (vp 0 0), some (vp 1 0), some (κY v1), some (vi y4_4), some (vi (v3 : Int)), some (vi v6), some (Value.bool y4_5)] (kE v35 0 w7) (tC (tC (tC (tC (tC (tC (tC (tC (tE))))))))) (bM κg <| bMf [] y4_6 [vs 17 (y4_17 * 2) y4_18 y4_18, vi y4_7, Value.bool y4_8, Value.bool y4_9, vi y4_10, vi y4_11, vi y4_12, vi y4_13, vp 0 0, vi 1, (fnV y4_14)] <| bR <| bS (ZG (vi 300) (vs 10 0 y4_0.length y4_0.length) (vs 11 0 y4_1.length y4_1.length)) <| bS [vs 12 0 y4_2.length y4_2.length, vs 13 0 y4_3.length y4_3.length] <| bS [vi 1000, vi y4_15, vq] <| bM κm <| bR <| bR <| bR <| bR <| bQ <| bE) (show ∀ j ∈ Zt (Zp 3).2, j ∈ Zt (ZP 2) from by decide +kernel)
     | r1 _ _ _ _ _ _ _ _ _ _ _ _ _ _ =>
      exact Mach.ok_none
  ·
   refine Mach.ok_bind (fun z2 c2 => ?_)
   cases z2 with
   | r0 y2_0 =>
    have w3 := kK (Zem c2 (1 :: (0 :: (rg 6 9 []))) 17) <| hF g1 <| hF g0 w0
    refine Mach.ok_bind (fun z3 c3 => ?_)
    cases z3 with
    | r0 y3_0 y3_1 y3_2 y3_3 y3_4 y3_5 y3_6 y3_7 y3_8 y3_9 y3_10 y3_11 y3_12 y3_13 y3_14 y3_15 y3_16 y3_17 y3_18 =>
     have w4 := kK (ZmE c3 (1 :: (0 :: (rg 6 8 []))) 17) w3
     refine Mach.ok_ite (fun g4 => ?_) (fun g4 => ?_)
     ·
      subst g4
      refine Mach.ok_ite (fun _ => Mach.ok_none) (fun g5 => ?_)
      refine Mach.ok_bind (fun z6 c6 => ?_)
      cases z6 with
      | r0 y6_0 y6_1 y6_2 =>
       have w7 := kK (Zau c6 [6, 10, 11] 18) <| kE y3_4 (i64.wrap (v6 + 1)) w4
       refine Mach.ok_ite (fun g7 => ?_) (fun g7 => ?_)
       ·
        refine Mach.ok_ite (fun _ => Mach.ok_none) (fun g8 => ?_)
        refine Mach.ok_ite (fun _ => Mach.ok_none) (fun g9 => ?_)
        exact Mach.okC (Zp 3) 5 0 (Zj (oq [0, 2, 4, 21, 22, 24]) [(1, ((IntKind.u64.wrap v27) % 3))] [] [] [(1, (Zab c2 (1 :: (0 :: (rg 6 9 []))) 17).t), (2, (ZbS c3 (1 :: (0 :: (rg 6 8 []))) 17).t), (3, (Z8 c6 [6, 10, 11] 18).t)]) (0 :: (1 :: (2 :: (rg 6 8 [17])))) (κs L0 v1 y3_4 v3 v6 y3_5) (kX ((!((y6_0 == v36) && ((y6_1 == v37) && true)))) false (by rw [Bool.not_eq_false']; first | (simp only [beq_self_eq_true, Bool.and_self]; done) | (simp only [Bool.and_true, Bool.and_eq_true, beq_iff_eq] <;> first | omega | (simp_all; done) | grind)) <| kE y6_2 0 <| hT g7 w7) (tC (tC (tC (tC (tC (tC (tC (tC (tE))))))))) (bM κg <| bMf [] y3_6 (κy y3_17 y3_18 y3_7 y3_8 y3_9 y3_10 y3_11 y3_12 y3_13 y3_14) <| bR <| bS (ZG (vi 300) (vs 10 0 y3_0.length y3_0.length) (vs 11 0 y3_1.length y3_1.length)) <| bS [vs 12 0 y3_2.length y3_2.length, vs 13 0 y3_3.length y3_3.length] <| bS [vi 1000, vi y3_15, vq] <| bM κm <| bR <| bR <| bR <| bR <| bQ <| bE) (show ∀ j ∈ Zt (Zp 3).2, j ∈ Zt (ZP 2) from by decide +kernel)
       ·
        exact Mach.okC (Zp 3) 5 0 (Zj (oq [0, 2, 4, 20]) [(1, ((IntKind.u64.wrap v27) % 3))] [] [] [(1, (Zab c2 (1 :: (0 :: (rg 6 9 []))) 17).t), (2, (ZbS c3 (1 :: (0 :: (rg 6 8 []))) 17).t), (3, (Z8 c6 [6, 10, 11] 18).t)]) (0 :: (1 :: (2 :: (rg 6 8 [17])))) (κs L0 v1 y3_4 v3 v6 y3_5) (hF g7 w7) (tC (tC (tC (tC (tC (tC (tC (tC (tE))))))))) (bM κg <| bMf [] y3_6 (κy y3_17 y3_18 y3_7 y3_8 y3_9 y3_10 y3_11 y3_12 y3_13 y3_14) <| bR <| bS (ZG (vi 300) (vs 10 0 y3_0.length y3_0.length) (vs 11 0 y3_1.length y3_1.length)) <| bS [vs 12 0 y3_2.length y3_2.length, vs 13 0 y3_3.length y3_3.length] <| bS [vi 1000, vi y3_15, vq] <| bM κm <| bR <| bR <| bR <| bR <| bQ <| bE) (show ∀ j ∈ Zt (Zp 3).2, j ∈ Zt (ZP 2) from by decide +kernel)
     ·
      obtain rfl : v4 = false := by simpa using g4
      refine Mach.ok_ite (fun g5 => ?_) (fun g5 => ?_)
      ·
       refine Mach.ok_ite (fun g6 => ?_) (fun g6 => ?_)
       ·
        refine Mach.ok_ite (fun g7 => ?_) (fun _ => Mach.ok_none)
        refine Mach.ok_ite (fun g8 => ?_) (fun _ => Mach.ok_none)
        refine Mach.ok_bind (fun z9 c9 => ?_)
        cases z9 with
        | r0 y9_0 y9_1 y9_2 =>
         exact Mach.okC (Zp 3) 5 0 (Zj (oq [0, 2, 7, 9, 17, 19, 34]) [(1, ((IntKind.u64.wrap v27) % 3))] [] [] [(1, (Zab c2 (1 :: (0 :: (rg 6 9 []))) 17).t), (2, (ZbS c3 (1 :: (0 :: (rg 6 8 []))) 17).t), (4, (Z8 c9 [6, 10, 11] 19).t)]) (0 :: (1 :: (2 :: (rg 6 8 [17])))) (κs L0 v1 y3_4 v3 v6 y3_5) (hF g7 <| kK (Zau c9 [6, 10, 11] 19) <| hT g8 <| hD g7 <| hD g6 <| hD g5 w4) (tC (tC (tC (tC (tC (tC (tC (tC (tE))))))))) (bM κg <| bMf [] y3_6 (κy y3_17 y3_18 y3_7 y3_8 y3_9 y3_10 y3_11 y3_12 y3_13 y3_14) <| bR <| bS (ZG (vi 300) (vs 10 0 y3_0.length y3_0.length) (vs 11 0 y3_1.length y3_1.length)) <| bS [vs 12 0 y3_2.length y3_2.length, vs 13 0 y3_3.length y3_3.length] <| bS [vi 1000, vi y3_15, vq] <| bM κm <| bR <| bR <| bR <| bR <| bQ <| bE) (show ∀ j ∈ Zt (Zp 3).2, j ∈ Zt (ZP 2) from by decide +kernel)
       ·
        have w7 := kE y3_4 (i64.wrap ((i64.wrap (v6 + 6)) + (v5 : Int))) <| hD g5 w4
        refine Mach.ok_bind (fun z7 c7 => ?_)
        cases z7 with
        | r0 y7_0 y7_1 y7_2 =>
         refine Mach.ok_ite (fun g8 => ?_) (fun g8 => ?_)
         ·
          refine Mach.ok_ite (fun _ => Mach.ok_none) (fun g9 => ?_)
          refine Mach.ok_ite (fun _ => Mach.ok_none) (fun g10 => ?_)
          exact Mach.okC (Zp 3) 5 0 (Zj (oq [0, 2, 7, 8, 23, 24, 26]) [(1, ((IntKind.u64.wrap v27) % 3))] [] [] [(1, (Zab c2 (1 :: (0 :: (rg 6 9 []))) 17).t), (2, (ZbS c3 (1 :: (0 :: (rg 6 8 []))) 17).t), (3, (Z8 c7 [6, 10, 11] 18).t)]) (0 :: (1 :: (2 :: (rg 6 8 [17])))) (κs L0 v1 y3_4 v3 v6 y3_5) (kX ((!((y7_0 == v36) && ((y7_1 == v37) && true)))) false (by rw [Bool.not_eq_false']; first | (simp only [beq_self_eq_true, Bool.and_self]; done) | (simp only [Bool.and_true, Bool.and_eq_true, beq_iff_eq] <;> first | omega | (simp_all; done) | grind)) <| kE y7_2 0 <| hT g8 <| kK (Zau c7 [6, 10, 11] 18) w7) (tC (tC (tC (tC (tC (tC (tC (tC (tE))))))))) (bM κg <| bMf [] y3_6 (κy y3_17 y3_18 y3_7 y3_8 y3_9 y3_10 y3_11 y3_12 y3_13 y3_14) <| bR <| bS (ZG (vi 300) (vs 10 0 y3_0.length y3_0.length) (vs 11 0 y3_1.length y3_1.length)) <| bS [vs 12 0 y3_2.length y3_2.length, vs 13 0 y3_3.length y3_3.length] <| bS [vi 1000, vi y3_15, vq] <| bM κm <| bR <| bR <| bR <| bR <| bQ <| bE) (show ∀ j ∈ Zt (Zp 3).2, j ∈ Zt (ZP 2) from by decide +kernel)
         ·
          exact Mach.okC (Zp 3) 5 0 (Zj (oq [0, 2, 7, 8, 22]) [(1, ((IntKind.u64.wrap v27) % 3))] [] [] [(1, (Zab c2 (1 :: (0 :: (rg 6 9 []))) 17).t), (2, (ZbS c3 (1 :: (0 :: (rg 6 8 []))) 17).t), (3, (Z8 c7 [6, 10, 11] 18).t)]) (0 :: (1 :: (2 :: (rg 6 8 [17])))) (κs L0 v1 y3_4 v3 v6 y3_5) (hF g8 <| kK (Zau c7 [6, 10, 11] 18) w7) (tC (tC (tC (tC (tC (tC (tC (tC (tE))))))))) (bM κg <| bMf [] y3_6 (κy y3_17 y3_18 y3_7 y3_8 y3_9 y3_10 y3_11 y3_12 y3_13 y3_14) <| bR <| bS (ZG (vi 300) (vs 10 0 y3_0.length y3_0.length) (vs 11 0 y3_1.length y3_1.length)) <| bS [vs 12 0 y3_2.length y3_2.length, vs 13 0 y3_3.length y3_3.length] <| bS [vi 1000, vi y3_15, vq] <| bM κm <| bR <| bR <| bR <| bR <| bQ <| bE) (show ∀ j ∈ Zt (Zp 3).2, j ∈ Zt (ZP 2) from by decide +kernel)
      ·
       refine Mach.ok_bind (fun z6 c6 => ?_)
       cases z6 with
       | r0 y6_0 y6_1 y6_2 =>
        refine Mach.ok_ite (fun g7 => ?_) (fun g7 => ?_)
        ·
         refine Mach.ok_ite (fun _ => Mach.ok_none) (fun g8 => ?_)
         refine Mach.ok_ite (fun _ => Mach.ok_none) (fun g9 => ?_)
         exact Mach.okC (Zp 3) 5 0 (Zj (oq [0, 2, 6, 21, 22, 24]) [(1, ((IntKind.u64.wrap v27) % 3))] [] [] [(1, (Zab c2 (1 :: (0 :: (rg 6 9 []))) 17).t), (2, (ZbS c3 (1 :: (0 :: (rg 6 8 []))) 17).t), (3, (Z8 c6 [6, 10, 11] 18).t)]) (0 :: (1 :: (2 :: (rg 6 8 [17])))) (κs L0 v1 y3_4 v3 v6 y3_5) (kX ((!((y6_0 == v36) && ((y6_1 == v37) && true)))) false (by rw [Bool.not_eq_false']; first | (simp only [beq_self_eq_true, Bool.and_self]; done) | (simp only [Bool.and_true, Bool.and_eq_true, beq_iff_eq] <;> first | omega | (simp_all; done) | grind)) <| kE y6_2 0 <| hT g7 <| kK (Zau c6 [6, 10, 11] 18) <| kE v35 0 w4) (tC (tC (tC (tC (tC (tC (tC (tC (tE))))))))) (bM κg <| bMf [] y3_6 (κy y3_17 y3_18 y3_7 y3_8 y3_9 y3_10 y3_11 y3_12 y3_13 y3_14) <| bR <| bS (ZG (vi 300) (vs 10 0 y3_0.length y3_0.length) (vs 11 0 y3_1.length y3_1.length)) <| bS [vs 12 0 y3_2.length y3_2.length, vs 13 0 y3_3.length y3_3.length] <| bS [vi 1000, vi y3_15, vq] <| bM κm <| bR <| bR <| bR <| bR <| bQ <| bE) (show ∀ j ∈ Zt (Zp 3).2, j ∈ Zt (ZP 2) from by decide +kernel)
        ·
         exact Mach.okC (Zp 3) 5 0 (Zj (oq [0, 2, 6, 20]) [(1, ((IntKind.u64.wrap v27) % 3))] [] [] [(1, (Zab c2 (1 :: (0 :: (rg 6 9 []))) 17).t), (2, (ZbS c3 (1 :: (0 :: (rg 6 8 []))) 17).t), (3, (Z8 c6 [6, 10, 11] 18).t)]) (0 :: (1 :: (2 :: (rg 6 8 [17])))) (κs L0 v1 y3_4 v3 v6 y3_5) (hF g7 <| kK (Zau c6 [6, 10, 11] 18) <| kE v35 0 w4) (tC (tC (tC (tC (tC (tC (tC (tC (tE))))))))) (bM κg <| bMf [] y3_6 (κy y3_17 y3_18 y3_7 y3_8 y3_9 y3_10 y3_11 y3_12 y3_13 y3_14) <| bR <| bS (ZG (vi 300) (vs 10 0 y3_0.length y3_0.length) (vs 11 0 y3_1.length y3_1.length)) <| bS [vs 12 0 y3_2.length y3_2.length, vs 13 0 y3_3.length y3_3.length] <| bS [vi 1000, vi y3_15, vq] <| bM κm <| bR <| bR <| bR <| bR <| bQ <| bE) (show ∀ j ∈ Zt (Zp 3).2, j ∈ Zt (ZP 2) from by decide +kernel)
    | r1 _ _ _ _ _ _ _ _ _ _ _ _ _ _ =>
     exact Mach.ok_none

theorem Zju (L0 : List RN) (v1 : List RH) (v2 : Int) (v3 : Nat) (v4 : Int) (v5 : Bool) (v15 : List RO) (v16 : Int) (v17 v18 : Bool) (v19 v20 v21 v22 v24 : Int) (v26 : List RJ) (v27 : List RH) (v28 v29 : List Int) (v31 : Int) (v35 : List RH) (v36 v37 N : Nat) : (ZaF L0 N).Ok Tryz.prog Zu (.h3m0 v1 v2 v3 v4 v5 v15 v16 v17 v18 v19 v20 v21 v22 v24 v26 v27 v28 v29 v31 v35 v36 v37 : law18_PlainAloneX) (Zbg L0 N (.h3m0 v1 v2 v3 v4 v5 v15 v16 v17 v18 v19 v20 v21 v22 v24 v26 v27 v28 v29 v31 v35 v36 v37 : law18_PlainAloneX)) := by
 show (ZaF L0 N).Ok Tryz.prog Zu (.h3m0 v1 v2 v3 v4 v5 v15 v16 v17 v18 v19 v20 v21 v22 v24 v26 v27 v28 v29 v31 v35 v36 v37 : law18_PlainAloneX) (Zce L0 N v1 v2 v3 v4 v5 v15 v16 v17 v18 v19 v20 v21 v22 v24 v26 v27 v28 v29 v31 v35 v36 v37)
 unfold Zce
 refine Mach.ok_ite (fun _ => Mach.ok_none) (fun g0 => ?_)
 refine Mach.ok_ite (fun _ => Mach.ok_none) (fun g1 => ?_)
 refine Mach.ok_ite (fun _ => Mach.ok_none) (fun g2 => ?_)
 refine Mach.ok_ite (fun g3 => ?_) (fun _ => Mach.ok_none)
 exact Mach.okN (Zj (oq [0, 8, 16]) [(0, (((v3 + 1) : Nat) : Int))] [] [] []) (rg 0 12 []) [some (ms RE L0), some (vp 0 0), some (vp 1 0), some (κY v1), some (vi v2), some (κbu v3)] (kW ((v3 : Int) + 1) (((v3 + 1) : Nat) : Int) <| kN (v19 > v2) <| hN g1 <| kX ((!v5)) false (Zd5 (by first | assumption | exact Decidable.not_not.1 (by assumption) | simp_all)) Zk) (tC (tC (tC (tC (tC (tC (tE))))))) (bM κo <| bMf [] v15 [vs 11 (v36 * 2) v37 v37, vi v16, Value.bool v17, Value.bool v18, vi v19, vi v20, vi v21, vi v22, vp 0 0, vi 1, (fnV v24)] <| bR <| bS (ZG (vi 300) (vs 7 0 v26.length v26.length) (vs 8 0 v27.length v27.length)) <| bS [vs 9 0 v28.length v28.length, vs 10 0 v29.length v29.length] <| bS [vi 1000, vi v31, vq] <| bM κm <| bR <| bR <| bR <| bR <| bQ <| bE) (show 1 ∈ Zt (ZP 3) from by decide +kernel)

noncomputable abbrev κbB := [vq, vq, vi 2, vq, vi 2, vq, vi 2, vq, vi 2, vq, vi 2, vq, vi 2, vq, vi 2, vq, vi 2, vq, vi 1, vq, vi 1, vq, vi 1, vq, vi 1, vq, vi 1, vq, vi 1, vq, vi 1, vq, vi 1, vq]
noncomputable abbrev κ6 := [vi 1, vi 16, vi 255, vi 2, vq, vq, vq, vq, vq, vq, vq, vq, vq, vq, vq, vq, vq, vq, vq, vq, vq, vq, vq, vq, vq, vq, vq, vq, vq, vq, vq, vq, vq, vq, vq, vq, vq, vq, vq, vq, vq, vq, vq, vq, vq, vq, vq, vq, vq, vq, vq, vq, vq, vq, vq, vq, vq, vq, vq, vq, vq, vq, vq, vq, vq, vq, vq, vq, vq, vq, vq, vq, vq, vq, vq, vq, vq, vq, vq, vq, vq, vq, vq, vq, vq]
noncomputable abbrev κX := ((⟨1, 16, 255, 2, 0⟩ : RJ) :: List.replicate 16 (⟨0, 0, 0, 0, 0⟩ : RJ))
theorem Zlb (L0 : List RN) (N : Nat) : (ZaF L0 N).Enter Tryz.prog Zu #[ms RE L0] (ZeO L0 N) := by
 unfold ZeO
 exact Mach.en_headW (bK := Zp 1) (M := ZaF L0 N) (cd := 1000000) (cm := 0) (y := (.h1m0 ([(⟨2, 1048577⟩ : RH)] : List RH) 0 0 ([(⟨0, 0, 0, 0, 0, 0, 0, 0, 0, 0, 0, 0, 0, 0, 0, 0⟩ : RO)] : List RO) 0 false false 0 0 0 0 0 κX ([(⟨0, 0⟩ : RH), (⟨2, 0⟩ : RH), (⟨2, 0⟩ : RH), (⟨2, 0⟩ : RH), (⟨2, 0⟩ : RH), (⟨2, 0⟩ : RH), (⟨2, 0⟩ : RH), (⟨2, 0⟩ : RH), (⟨2, 0⟩ : RH), (⟨1, 0⟩ : RH), (⟨1, 0⟩ : RH), (⟨1, 0⟩ : RH), (⟨1, 0⟩ : RH), (⟨1, 0⟩ : RH), (⟨1, 0⟩ : RH), (⟨1, 0⟩ : RH), (⟨1, 0⟩ : RH)] : List RH) ([(0 : Int), 0, 0, 0, 0] : List Int) ([(0 : Int), 0, 0, 0, 0] : List Int) 0 ([] : List RH) 0 0 : law18_PlainAloneX)) (fu := 4000) (orc := (Zj (oq []) [] [] [] [])) (live := [29, 30, 35, 2, 25, 26, 27, 4, 5, 23, 24, 500000036]) (tv := [some (ms RE L0), some (vp 29 0), some (vp 30 0), some (vs 35 0 1 1), some (vq), some (vq)]) (bl := [some (.cells (Z1 Zh9 64 [vi 2] (List.replicate 64 (⟨0, false, false⟩ : RG)) [vi 300, vi 5, vi 50, vi 50, vi 1000, vi 1, vq, vp 2 0, vp 25 0, vp 26 0, vp 27 0]) 132), some (.cells (Z1 Zf 1 [] ([(⟨0, 0, 0, 0, 0, 0, 0, 0, 0, 0, 0, 0, 0, 0, 0, 0⟩ : RO)] : List RO) [vn, vq, vf, vf, vq, vq, vq, vq, vp 29 0, vi 1, Value.nilFunc]) 141), some (.cells [vi 2, vi 1048577] 42), some (.cells (ZG (vi 300) (vs 4 0 17 17) (vs 5 0 17 17)) 154), some (.cells [vs 23 0 5 5, vs 24 0 5 5] 191), some (.cells [vi 1000, vq, vq] 208), some κm, some (.cells κ6 57), some (.cells κbB 42), some (.cells [vq, vq, vq, vq, vq] 188), some (.cells [vq, vq, vq, vq, vq] 188), none]) [some κo, some (.cells (Z1 Zf 1 [] ([(⟨0, 0, 0, 0, 0, 0, 0, 0, 0, 0, 0, 0, 0, 0, 0, 0⟩ : RO)] : List RO) [vn, vq, vf, vf, vq, vq, vq, vq, vp 0 0, vi 1, Value.nilFunc]) 141), some (.cells (Zb RB ([(⟨2, 1048577⟩ : RH)] : List RH)) 42), some (.cells [vi 300, vs 7 0 κX.length κX.length, vs 8 0 ([(⟨0, 0⟩ : RH), (⟨2, 0⟩ : RH), (⟨2, 0⟩ : RH), (⟨2, 0⟩ : RH), (⟨2, 0⟩ : RH), (⟨2, 0⟩ : RH), (⟨2, 0⟩ : RH), (⟨2, 0⟩ : RH), (⟨2, 0⟩ : RH), (⟨1, 0⟩ : RH), (⟨1, 0⟩ : RH), (⟨1, 0⟩ : RH), (⟨1, 0⟩ : RH), (⟨1, 0⟩ : RH), (⟨1, 0⟩ : RH), (⟨1, 0⟩ : RH), (⟨1, 0⟩ : RH)] : List RH).length ([(⟨0, 0⟩ : RH), (⟨2, 0⟩ : RH), (⟨2, 0⟩ : RH), (⟨2, 0⟩ : RH), (⟨2, 0⟩ : RH), (⟨2, 0⟩ : RH), (⟨2, 0⟩ : RH), (⟨2, 0⟩ : RH), (⟨2, 0⟩ : RH), (⟨1, 0⟩ : RH), (⟨1, 0⟩ : RH), (⟨1, 0⟩ : RH), (⟨1, 0⟩ : RH), (⟨1, 0⟩ : RH), (⟨1, 0⟩ : RH), (⟨1, 0⟩ : RH), (⟨1, 0⟩ : RH)] : List RH).length, vn, vn, vn, vn, vn, vn, vn, vn, vn, vn, vn, vn, vn, vn, vn, vn, vn] 154), some (.cells [vs 9 0 ([(0 : Int), 0, 0, 0, 0] : List Int).length ([(0 : Int), 0, 0, 0, 0] : List Int).length, vs 10 0 ([(0 : Int), 0, 0, 0, 0] : List Int).length ([(0 : Int), 0, 0, 0, 0] : List Int).length] 191), some (.cells [vi 1000, vq, vq] 208), some κm, some (.cells (Zb RC κX) 57), some (.cells (Zb RB ([(⟨0, 0⟩ : RH), (⟨2, 0⟩ : RH), (⟨2, 0⟩ : RH), (⟨2, 0⟩ : RH), (⟨2, 0⟩ : RH), (⟨2, 0⟩ : RH), (⟨2, 0⟩ : RH), (⟨2, 0⟩ : RH), (⟨2, 0⟩ : RH), (⟨1, 0⟩ : RH), (⟨1, 0⟩ : RH), (⟨1, 0⟩ : RH), (⟨1, 0⟩ : RH), (⟨1, 0⟩ : RH), (⟨1, 0⟩ : RH), (⟨1, 0⟩ : RH), (⟨1, 0⟩ : RH)] : List RH)) 42), some (.cells (Zb eI ([(0 : Int), 0, 0, 0, 0] : List Int)) 188), some (.cells (Zb eI ([(0 : Int), 0, 0, 0, 0] : List Int)) 188), none] [(11, 42)] 0 ⟨(.inl rfl), ⟨(Zvd ⟨.inr ⟨rfl, _, rfl⟩, ⟨.inl rfl, ⟨.inl rfl, ⟨.inl rfl, ⟨.inl rfl, ⟨.inl rfl, ⟨.inl rfl, ⟨.inl rfl, ⟨.inl rfl, ⟨.inl rfl, ⟨.inl rfl, trivial⟩⟩⟩⟩⟩⟩⟩⟩⟩⟩⟩), ⟨(.inl rfl), ⟨(.inl rfl), ⟨(.inl rfl), ⟨(.inl rfl), ⟨(.inl rfl), ⟨(.inl rfl), ⟨(.inl rfl), ⟨(.inl rfl), ⟨(.inl rfl), ⟨(.inl rfl), trivial⟩⟩⟩⟩⟩⟩⟩⟩⟩⟩⟩⟩ (by rfl) (by rfl) rfl rfl (show Zt (Zp 1).2 = [] from rfl) (by kernel_rfl) Zk rfl (by decide +kernel) (by rfl) ⟨rr, ⟨rr, ⟨rr, ⟨⟨Eq.trans (show (vs 2 0 ([(⟨2, 1048577⟩ : RH)] : List RH).length ([(⟨2, 1048577⟩ : RH)] : List RH).length : Value) = vs 2 0 1 1 from (Z5 rfl eqA eqA)) (by rfl), by rfl⟩, ⟨rr, ⟨⟨Eq.trans (show κbk = vq from (congrArg (Value.int .i64) (by first | rfl | omega))) (by rfl), by rfl⟩, trivial⟩⟩⟩⟩⟩⟩ ⟨⟨rfl, ⟨[], by kernel_rfl⟩, by kernel_rfl⟩, ⟨⟨rfl, ⟨[], by kernel_rfl⟩, by kernel_rfl⟩, ⟨(Zc5 (E := RB) _ (L := ([(⟨2, 1048577⟩ : RH)] : List RH)) _ (show ([vi 2, vi 1048577] : List Value) = Zb RB ([(⟨2, 1048577⟩ : RH)] : List RH) from rfl)), ⟨⟨rfl, ⟨[], (show ((ZG (vi 300) (vs 7 0 17 17) (vs 8 0 17 17)) : List Value) = _ from (Zh rfl (Zh (Z5 rfl eqA eqA) (Zh (Z5 rfl eqA eqA) (Zh rfl (Zh rfl (Zh rfl (Zh rfl (Zh rfl (Zh rfl (Zh rfl (Zh rfl (Zh rfl (Zh rfl (Zh rfl (Zh rfl (Zh rfl (Zh rfl (Zh rfl (Zh rfl (Zh rfl rfl)))))))))))))))))))).symm)⟩, by rfl⟩, ⟨⟨rfl, ⟨[], (show ([vs 9 0 5 5, vs 10 0 5 5] : List Value) = _ from (Zh (Z5 rfl eqA eqA) (Zh (Z5 rfl eqA eqA) rfl)).symm)⟩, by rfl⟩, ⟨sm, ⟨⟨rfl, ⟨[], by kernel_rfl⟩, by kernel_rfl⟩, ⟨(Zc5 (E := RC) _ (L := κX) _ (show (κ6 : List Value) = Zb RC κX from rfl)), ⟨(Zc5 (E := RB) _ (L := ([(⟨0, 0⟩ : RH), (⟨2, 0⟩ : RH), (⟨2, 0⟩ : RH), (⟨2, 0⟩ : RH), (⟨2, 0⟩ : RH), (⟨2, 0⟩ : RH), (⟨2, 0⟩ : RH), (⟨2, 0⟩ : RH), (⟨2, 0⟩ : RH), (⟨1, 0⟩ : RH), (⟨1, 0⟩ : RH), (⟨1, 0⟩ : RH), (⟨1, 0⟩ : RH), (⟨1, 0⟩ : RH), (⟨1, 0⟩ : RH), (⟨1, 0⟩ : RH), (⟨1, 0⟩ : RH)] : List RH)) _ (show (κbB : List Value) = Zb RB ([(⟨0, 0⟩ : RH), (⟨2, 0⟩ : RH), (⟨2, 0⟩ : RH), (⟨2, 0⟩ : RH), (⟨2, 0⟩ : RH), (⟨2, 0⟩ : RH), (⟨2, 0⟩ : RH), (⟨2, 0⟩ : RH), (⟨2, 0⟩ : RH), (⟨1, 0⟩ : RH), (⟨1, 0⟩ : RH), (⟨1, 0⟩ : RH), (⟨1, 0⟩ : RH), (⟨1, 0⟩ : RH), (⟨1, 0⟩ : RH), (⟨1, 0⟩ : RH), (⟨1, 0⟩ : RH)] : List RH) from rfl)), ⟨(Zc5 (E := eI) _ (L := ([(0 : Int), 0, 0, 0, 0] : List Int)) _ (show ([vq, vq, vq, vq, vq] : List Value) = Zb eI ([(0 : Int), 0, 0, 0, 0] : List Int) from rfl)), ⟨(Zc5 (E := eI) _ (L := ([(0 : Int), 0, 0, 0, 0] : List Int)) _ (show ([vq, vq, vq, vq, vq] : List Value) = Zb eI ([(0 : Int), 0, 0, 0, 0] : List Int) from rfl)), trivial⟩⟩⟩⟩⟩⟩⟩⟩⟩⟩⟩

theorem ZjX (L0 : List RN) (N : Nat) (r : Zav) (h : Zil L0 N = some r) : LSpec Tryz.prog 4 #[ms RE L0] [] (Zh1 L0 r) (Zhg L0 r) :=
 Mach.spec Zz (ZaF L0 N) Tryz.func4 (by kernel_rfl) (by kernel_rfl) (fun x => by cases x <;> exact ZB _ rfl) (fun r => by cases r <;> exact ZB _ rfl) (fun x => by
  cases x with
  | h1m0 _ _ _ _ _ _ _ _ _ _ _ _ _ _ _ _ _ _ _ _ => exact fun _ => (show ¬ (1 ∈ Zt (Zp 1).2) from by decide +kernel)
  | h2m0 _ _ _ _ _ _ _ _ _ _ _ _ _ _ _ _ _ _ _ _ _ _ _ _ _ _ _ _ _ _ _ _ _ _ _ => exact fun _ => (show ¬ (2 ∈ Zt (Zp 2).2) from by decide +kernel)
  | h3m0 _ _ _ _ _ _ _ _ _ _ _ _ _ _ _ _ _ _ _ _ _ _ => exact fun _ => (show ¬ (3 ∈ Zt (Zp 3).2) from by decide +kernel)
  ) (fun x => (show (ZaF L0 N).Ok Tryz.prog Zu x (Zbg L0 N x) from by
  cases x with
  | h1m0 v1 v2 v3 v13 v14 v15 v16 v17 v18 v19 v20 v22 v24 v25 v26 v27 v29 v33 v34 v35 => exact Zjs L0 v1 v2 v3 v13 v14 v15 v16 v17 v18 v19 v20 v22 v24 v25 v26 v27 v29 v33 v34 v35 N
  | h2m0 v1 v2 v3 v4 v5 v6 v16 v17 v18 v19 v20 v21 v22 v23 v25 v26 v27 v28 v29 v30 v31 v32 v33 v34 v35 v36 v37 v39 v40 v41 v42 v44 v48 v49 v50 => exact Zjt L0 v1 v2 v3 v4 v5 v6 v16 v17 v18 v19 v20 v21 v22 v23 v25 v26 v27 v28 v29 v30 v31 v32 v33 v34 v35 v36 v37 v39 v40 v41 v42 v44 v48 v49 v50 N
  | h3m0 v1 v2 v3 v4 v5 v15 v16 v17 v18 v19 v20 v21 v22 v24 v26 v27 v28 v29 v31 v35 v36 v37 => exact Zju L0 v1 v2 v3 v4 v5 v15 v16 v17 v18 v19 v20 v21 v22 v24 v26 v27 v28 v29 v31 v35 v36 v37 N
  )) (Zlb L0 N) (n := N) h

end Ev
end Go.Proofs.YtiijipocjellpaaGreat
namespace Go.Proofs.YtiijipocjellpaaGreat
open Go.RowKit
namespace Ev
section
variable {X R : Type} {step : X → Option (X ⊕ R)} {n : Nat} {x y : X} {r : R}
theorem ZL (h : step x = some (.inl y)) : Zaw step (n + 1) x = Zaw step n y := by simp [Zaw, h]
theorem Zam (h : step x = some (.inr r)) : Zaw step (n + 1) x = some r := by simp [Zaw, h]
theorem ZdU {o : Option (X ⊕ R)} (h : o = some (.inl x)) : goM step n o = Zaw step n x := by subst h; rfl
theorem ZrW {o : Option (X ⊕ R)} (h : o = some (.inr r)) : goM step n o = some r := by subst h; rfl
end
section
variable {α : Type}
theorem ZtI {L : List α} {i : Nat} (h : i < L.length) (d : α) : L.take i ++ [L.getD i d] = L.take (i + 1) := by
 rw [List.take_succ_eq_append_getElem h, List.getD_eq_getElem?_getD, List.getElem?_eq_getElem h, Option.getD_some]
theorem Zbh {L : List α} {i : Nat} {v d : α} (h : i < L.length) : (L.set i v).getD i d = v := by simp [h]
theorem Zb0 {L : List α} {i j : Nat} {v d : α} (h : i ≠ j) : (L.set i v).getD j d = L.getD j d := by simp [List.getElem?_set_ne h]
theorem Zk9 {L : List α} {i j : Nat} {v d : α} (h : i < L.length) : (L.set i v).getD j d = if j = i then v else L.getD j d := by
 by_cases e : j = i
 ·subst e; rw [if_pos rfl, Zbh h]
 ·rw [if_neg e, Zb0 (fun h => e h.symm)]
theorem ZfC {L M : List α} {i : Nat} {d : α} (h : i < L.length) : (L ++ M).getD i d = L.getD i d := by simp [List.getElem?_append_left h]
theorem Zr2 {L : List α} {i : Nat} {d : α} (h : L.length ≤ i) : L.getD i d = d := by simp [List.getElem?_eq_none h]
end
theorem Za {α : Type} {c : Prop} [Decidable c] {a b r : α} (h : c) (e : a = r) : (if c then a else b) = r := by rw [if_pos h]; exact e
theorem Zd {α : Type} {c : Prop} [Decidable c] {a b r : α} (h : ¬ c) (e : b = r) : (if c then a else b) = r := by rw [if_neg h]; exact e
theorem Zi {α β : Type} {o : Option α} {a : α} {k : α → Option β} {r : Option β} (h : o = some a) (e : k a = r) : o.bind k = r := by rw [h]; exact e
theorem w64 {x : Int} (h1 : -9223372036854775808 ≤ x) (h2 : x ≤ 9223372036854775807) : IntKind.i64.wrap x = x := wrap_i64 ⟨h1, h2⟩
namespace Pg
set_option linter.unusedVariables false
set_option linter.unusedSimpArgs false
abbrev Ob := RL
def Zdr (L : List Ob) (k l : Int) (j : Nat) : Prop := (L.getD j RL.z).a0 = k ∧ (L.getD j RL.z).a1 = l
instance (L : List Ob) (k l : Int) (j : Nat) : Decidable (Zdr L k l j) := by unfold Zdr; infer_instance
theorem Zoz (a b v k l : Int) : ∀ M : List RI, Zbd (Zaj M a b v) k l = ((k == a && l == b) || Zbd M k l)
 | [] => by simp [Zaj, Zbd]
 | x :: M => by
  unfold Zaj
  by_cases h : (a == x.a0 && b == x.a1) = true
  ·rw [if_pos h]
   simp only [Bool.and_eq_true, beq_iff_eq] at h
   simp [Zbd, h.1, h.2]
  ·rw [if_neg h]
   have ih := Zoz a b v k l M
   unfold Zbd at ih ⊢
   rw [List.any_cons, List.any_cons, ih]
   cases (k == x.a0 && l == x.a1) <;> cases (k == a && l == b) <;> rfl
theorem ZrX (a b v k l : Int) : ∀ M : List RI, Zb2 (Zaj M a b v) k l = if k = a ∧ l = b then v else Zb2 M k l
 | [] => by
  by_cases h : k = a ∧ l = b
  ·rw [if_pos h]; simp [Zaj, Zb2, h.1, h.2]
  ·rw [if_neg h]
   have h' : (k == a && l == b) = false := by cases e : (k == a && l == b) with
    | false => rfl
    | true => simp only [Bool.and_eq_true, beq_iff_eq] at e; exact absurd e h
   simp [Zaj, Zb2, h']
 | x :: M => by
  unfold Zaj
  by_cases h : (a == x.a0 && b == x.a1) = true
  ·rw [if_pos h]
   simp only [Bool.and_eq_true, beq_iff_eq] at h
   by_cases hk : k = a ∧ l = b
   ·rw [if_pos hk]; simp [Zb2, hk.1, hk.2]
   ·rw [if_neg hk]
    have h' : (k == a && l == b) = false := by cases e : (k == a && l == b) with
     | false => rfl
     | true => simp only [Bool.and_eq_true, beq_iff_eq] at e; exact absurd e hk
    have h'' : (k == x.a0 && l == x.a1) = false := by rw [← h.1, ← h.2]; exact h'
    simp only [Zb2, List.find?_cons, h', h'']
  ·rw [if_neg h]
   have ih := ZrX a b v k l M
   cases e : (k == x.a0 && l == x.a1) with
   | true =>
    have hk : ¬ (k = a ∧ l = b) := fun q => by rw [q.1, q.2] at e; exact h e
    rw [if_neg hk]
    simp only [Zb2, List.find?_cons, e]
   | false =>
    simp only [Zb2, List.find?_cons, e] at ih ⊢
    exact ih
def MI (L : List Ob) (i : Nat) (M : List RI) : Prop := ∀ k l, (∃ j, i ≤ j ∧ j < L.length ∧ Zdr L k l j ∧ (∀ q, i ≤ q → q < j → ¬ Zdr L k l q) ∧ Zbd M k l = true ∧ Zb2 M k l = (j : Int)) ∨ ((∀ q, i ≤ q → q < L.length → ¬ Zdr L k l q) ∧ Zbd M k l = false)
theorem Zwy (L : List Ob) : MI L L.length [] := fun k l => .inr ⟨fun q h1 h2 => by omega, rfl⟩
theorem Zwz {L : List Ob} {i : Nat} {M : List RI} (hi : i < L.length) (h : MI L (i + 1) M) : MI L i (Zaj M (L.getD i RL.z).a0 (L.getD i RL.z).a1 (i : Int)) := by
 intro k l
 rw [Zoz, ZrX]
 by_cases hk : Zdr L k l i
 ·refine .inl ⟨i, Nat.le_refl _, hi, hk, fun q h1 h2 => by omega, ?_, if_pos ⟨hk.1.symm, hk.2.symm⟩⟩
  rw [hk.1, hk.2]; simp
 ·have hn : ¬ (k = (L.getD i RL.z).a0 ∧ l = (L.getD i RL.z).a1) := fun q => hk ⟨q.1.symm, q.2.symm⟩
  have hb : (k == (L.getD i RL.z).a0 && l == (L.getD i RL.z).a1) = false := by
   cases e : (k == (L.getD i RL.z).a0 && l == (L.getD i RL.z).a1) with
   | false => rfl
   | true => simp only [Bool.and_eq_true, beq_iff_eq] at e; exact absurd e hn
  rw [if_neg hn, hb, Bool.false_or]
  rcases h k l with ⟨j, h1, h2, h3, h4, h5, h6⟩ | ⟨h1, h2⟩
  ·refine .inl ⟨j, by omega, h2, h3, fun q q1 q2 => ?_, h5, h6⟩
   by_cases e : q = i
   ·subst e; exact hk
   ·exact h4 q (by omega) q2
  ·refine .inr ⟨fun q q1 q2 => ?_, h2⟩
   by_cases e : q = i
   ·subst e; exact hk
   ·exact h1 q (by omega) q2
theorem built {L : List Ob} {N : Nat} (hL : L.length ≤ 1000) : ∀ i f M, i ≤ L.length → MI L i M → ∃ M', MI L 0 M' ∧ Zaw (ZcH L N) (f + i) (.h1m0 ((i : Int) - 1) M) = Zaw (ZcH L N) f (.h1m0 (-1) M')
 | 0, f, M, _, h => ⟨M, h, rfl⟩
 | i + 1, f, M, hi, h => by
  obtain ⟨M', h1, h2⟩ := built (N := N) hL i f _ (by omega) (Zwz (by omega) h)
  refine ⟨M', h1, (ZL (n := f + i) ?_).trans h2⟩
  show ZbW L N _ _ = _
  unfold ZbW
  have e : (((i + 1 : Nat) : Int) - 1) = (i : Int) := by omega
  rw [e]
  have ew : IntKind.i64.wrap ((i : Int) - 1) = (i : Int) - 1 := w64 (by omega) (by omega)
  refine Za (by omega) (Za (by show i < L.length; omega) ?_)
  rw [ew]; rfl
theorem ZuM {L : List Ob} {N : Nat} (hL : L.length ≤ 1000) (hN : 2000 ≤ N) : ∃ M, MI L 0 M ∧ Zfy L N = some (.r0 M) := by
 obtain ⟨n, rfl⟩ : ∃ n, N = (n + 1) + L.length := ⟨N - L.length - 1, by omega⟩
 obtain ⟨M, hM, hb⟩ := built (N := (n + 1) + L.length) hL L.length (n + 1) [] (Nat.le_refl _) (Zwy L)
 refine ⟨M, hM, (ZdU (x := .h1m0 ((L.length : Int) - 1) []) (by unfold ZfA; exact Za (by omega) rfl)).trans (hb.trans (Zam ?_))⟩
 show ZbW L ((n + 1) + L.length) (-1) M = _
 unfold ZbW
 exact Zd (by omega) rfl
def Zbi (L : List Ob) (k l : Int) (j : Nat) : Prop := (k = 2 ∧ ¬ l = 0) ∧ j < L.length ∧ Zdr L k l j ∧ ∀ q, q < j → ¬ Zdr L k l q
theorem Zfm {L : List Ob} {k l : Int} {i j : Nat} (h : Zbi L k l i) (h' : Zbi L k l j) : i = j := by
 rcases Nat.lt_trichotomy i j with e | e | e
 ·exact absurd h.2.2.1 (h'.2.2.2 i e)
 ·exact e
 ·exact absurd h'.2.2.1 (h.2.2.2 j e)
theorem Zo0 {L : List Ob} {Mx : List RI} (h : MI L 0 Mx) (k l : Int) (N : Nat) : (∃ j, Zbi L k l j ∧ Zax L Mx k l N = some (.r0 (j : Int) true)) ∨ ((∀ j, ¬ Zbi L k l j) ∧ ∃ y, Zax L Mx k l N = some (.r0 y false)) := by
 unfold Zax
 by_cases hk : k = 2
 ·rw [if_neg (fun q => q hk)]
  by_cases hl : l = 0
  ·rw [if_pos ⟨hk, hl⟩]
   exact .inr ⟨fun j q => q.1.2 hl, _, rfl⟩
  ·rw [if_neg (fun q => hl q.2)]
   rcases h k l with ⟨j, h1, h2, h3, h4, h5, h6⟩ | ⟨h1, h2⟩
   ·rw [if_pos h5, h6]
    exact .inl ⟨j, ⟨⟨hk, hl⟩, h2, h3, fun q hq => h4 q (by omega) hq⟩, rfl⟩
   ·rw [if_neg (by rw [h2]; simp)]
    exact .inr ⟨fun j q => h1 j (by omega) q.2.1 q.2.2.1, _, rfl⟩
 ·rw [if_pos hk]
  exact .inr ⟨fun j q => hk q.1.1, _, rfl⟩
end Pg
namespace Pg
set_option linter.unusedVariables false
set_option linter.unusedSimpArgs false
abbrev ob (L : List Ob) (j : Nat) : Ob := L.getD j RL.z
abbrev fd (L : List Ob) (j q : Nat) : RH := (ob L j).a7.getD q RH.z
def Zch (L : List Ob) (O : List Int) : Nat → Nat
 | 0 => 0
 | n + 1 => (if (n : Int) ∈ O then 0 else (ob L n).a7.length + 2) + Zch L O n
def Zb6 (L : List Ob) : List RH → Nat
 | [] => 0
 | e :: S => ((ob L e.a0.toNat).a7.length + 1 - e.a1.toNat) + Zb6 L S
theorem ZgJ (L : List Ob) : ∀ S S', Zb6 L (S ++ S') = Zb6 L S + Zb6 L S'
 | [], S' => by simp [Zb6]
 | e :: S, S' => by simp only [List.cons_append, Zb6, ZgJ L S S']; omega
theorem ZrY {L : List Ob} {O : List Int} {j : Nat} : ∀ n, n ≤ j → Zch L (O ++ [(j : Int)]) n = Zch L O n
 | 0, _ => rfl
 | n + 1, h => by
  have e : ((n : Int) ∈ O ++ [(j : Int)]) ↔ (n : Int) ∈ O := by
   rw [List.mem_append, List.mem_singleton]
   exact ⟨fun q => q.elim id (fun q => by omega), .inl⟩
  have ih := ZrY (L := L) (O := O) (j := j) n (by omega)
  simp only [Zch, e, ih]
theorem ZrZ {L : List Ob} {O : List Int} {j : Nat} (hj : ¬ (j : Int) ∈ O) : ∀ n, j < n → Zch L (O ++ [(j : Int)]) n + ((ob L j).a7.length + 2) = Zch L O n
 | 0, h => by omega
 | n + 1, h => by
  by_cases e : n = j
  ·subst e
   have h1 : (n : Int) ∈ O ++ [(n : Int)] := by simp
   have ih := ZrY (L := L) (O := O) (j := n) n (Nat.le_refl _)
   simp only [Zch, h1, hj, if_true, if_false, ih]
   omega
  ·have e' : ((n : Int) ∈ O ++ [(j : Int)]) ↔ (n : Int) ∈ O := by
    rw [List.mem_append, List.mem_singleton]
    exact ⟨fun q => q.elim id (fun q => by omega), .inl⟩
   have ih := ZrZ (L := L) hj n (by omega)
   simp only [Zch, e']
   omega
def Gen (L : List Ob) (may : Ob → Prop) (R : List RH) (T : Nat → Prop) : Prop := (∀ q j', q < R.length → Zbi L (R.getD q RH.z).a0 (R.getD q RH.z).a1 j' → may (ob L j') → T j') ∧ ∀ j q j', T j → q < (ob L j).a7.length → Zbi L (fd L j q).a0 (fd L j q).a1 j' → may (ob L j') → T j'
structure Inv (L : List Ob) (may : Ob → Prop) (R : List RH) (B v : Nat) (M : List RI) (O : List Int) (S : List RH) : Prop where
 o : ∀ x ∈ O, ∃ j : Nat, x = (j : Int) ∧ Zbi L (ob L j).a0 (ob L j).a1 j
 m : ∀ k l, Zbd M k l = true ↔ ∃ j : Nat, (j : Int) ∈ O ∧ Zdr L k l j
 s : ∀ e ∈ S, ∃ j f : Nat, e = ⟨(j : Int), (f : Int)⟩ ∧ (j : Int) ∈ O ∧ f ≤ (ob L j).a7.length
 c : ∀ j : Nat, (j : Int) ∈ O → ∀ q, q < (ob L j).a7.length → ∀ j', Zbi L (fd L j q).a0 (fd L j q).a1 j' → may (ob L j') → (j' : Int) ∈ O ∨ ∃ f : Nat, (⟨(j : Int), (f : Int)⟩ : RH) ∈ S ∧ f ≤ q
 r : ∀ q, q < v → q < R.length → ∀ j', Zbi L (R.getD q RH.z).a0 (R.getD q RH.z).a1 j' → may (ob L j') → (j' : Int) ∈ O
 g : ∀ T, Gen L may R T → ∀ j : Nat, (j : Int) ∈ O → T j
 b : O.length + Zch L O L.length + Zb6 L S ≤ B
 l : S.length ≤ O.length
 u : O.Nodup
theorem ZnT {α : Type} {O : List α} {x : α} (h : O.Nodup) (hx : ¬ x ∈ O) : (O ++ [x]).Nodup := by
 rw [List.nodup_append]
 refine ⟨h, by simp, fun a ha b hb => ?_⟩
 rw [List.mem_singleton] at hb
 subst hb
 exact fun e => hx (e ▸ ha)
theorem inv_0 {L : List Ob} {may : Ob → Prop} {R : List RH} {B : Nat} (h : Zch L [] L.length ≤ B) : Inv L may R B 0 [] [] [] :=
 ⟨(fun x h => by cases h), (fun k l => ⟨(fun h => by cases h), (fun ⟨j, h, _⟩ => by cases h)⟩), (fun e h => by cases h), (fun j h => by cases h), (fun q h => by omega), (fun T _ j h => by cases h), (by show 0 + Zch L [] L.length + 0 ≤ B; omega), Nat.le_refl _, List.nodup_nil⟩
def ZkA (L : List Ob) (may : Ob → Prop) (M : List RI) (O : List Int) (S : List RH) (k l : Int) (M' : List RI) (O' : List Int) (S' : List RH) : Prop :=
 (∃ j : Nat, Zbi L k l j ∧ ¬ Zbd M k l = true ∧ may (ob L j) ∧ M' = Zaj M k l (j : Int) ∧ O' = O ++ [(j : Int)] ∧ S' = S ++ [⟨(j : Int), 0⟩]) ∨ ((∀ j, Zbi L k l j → Zbd M k l = true ∨ ¬ may (ob L j)) ∧ M' = M ∧ O' = O ∧ S' = S)
theorem ZtJ {L : List Ob} {may : Ob → Prop} {R : List RH} {B v : Nat} {M : List RI} {O : List Int} {S : List RH} (I : Inv L may R B v M O S) {k l : Int} {j : Nat} (h : Zbi L k l j) : Zbd M k l = true ↔ (j : Int) ∈ O := by
 rw [I.m]
 constructor
 ·rintro ⟨i, h1, h2⟩
  obtain ⟨i', e, hi⟩ := I.o _ h1
  obtain rfl : i = i' := by omega
  have hi' : Zbi L k l i := by rw [← h2.1, ← h2.2]; exact hi
  rw [Zfm h hi']; exact h1
 ·exact fun h1 => ⟨j, h1, h.2.2.1⟩
theorem Zpb {L : List Ob} {may : Ob → Prop} {R : List RH} {B v : Nat} {M M' : List RI} {O O' : List Int} {S S' : List RH} (I : Inv L may R B v M O S) {k l : Int}
  (hT : ∀ T, Gen L may R T → ∀ j, Zbi L k l j → may (ob L j) → T j) (E : ZkA L may M O S k l M' O' S') : Inv L may R B v M' O' S' ∧ (∀ j', Zbi L k l j' → may (ob L j') → (j' : Int) ∈ O') ∧ (∀ x ∈ O, x ∈ O') ∧ O'.length + Zch L O' L.length + Zb6 L S' ≤ O.length + Zch L O L.length + Zb6 L S ∧ (O' ≠ O → Zch L O' L.length + Zb6 L S' < Zch L O L.length + Zb6 L S) := by
 rcases E with ⟨j, he, hm, hy, rfl, rfl, rfl⟩ | ⟨hn, rfl, rfl, rfl⟩
 ·have hj : ¬ (j : Int) ∈ O := fun q => hm ((ZtJ I he).2 q)
  have hk : (ob L j).a0 = k ∧ (ob L j).a1 = l := he.2.2.1
  have hr := ZrZ (L := L) hj L.length he.2.1
  have hs : Zb6 L (S ++ [⟨(j : Int), 0⟩]) = Zb6 L S + ((ob L j).a7.length + 1) := by
   rw [ZgJ]; simp [Zb6]
  have hb := I.b
  refine ⟨⟨fun x hx => ?_, fun a b => ?_, fun e hx => ?_, fun i hi q hq j' h1 h2 => ?_, fun q h1 h2 j' h3 h4 => ?_, fun T hT' i hi => ?_, ?_, ?_, ZnT I.u hj⟩, fun j' h1 h2 => ?_, fun x hx => List.mem_append_left _ hx, ?_, fun _ => ?_⟩
  ·rcases List.mem_append.1 hx with hx | hx
   ·exact I.o x hx
   ·rw [List.mem_singleton] at hx
    exact ⟨j, hx, by rw [hk.1, hk.2]; exact he⟩
  ·rw [Zoz]
   simp only [Bool.or_eq_true, Bool.and_eq_true, beq_iff_eq]
   constructor
   ·rintro (⟨rfl, rfl⟩ | h)
    ·exact ⟨j, by simp, hk⟩
    ·obtain ⟨i, h1, h2⟩ := (I.m a b).1 h
     exact ⟨i, List.mem_append_left _ h1, h2⟩
   ·rintro ⟨i, h1, h2⟩
    rcases List.mem_append.1 h1 with h1 | h1
    ·exact .inr ((I.m a b).2 ⟨i, h1, h2⟩)
    ·rw [List.mem_singleton] at h1
     obtain rfl : i = j := by omega
     exact .inl ⟨h2.1.symm.trans hk.1, h2.2.symm.trans hk.2⟩
  ·rcases List.mem_append.1 hx with hx | hx
   ·obtain ⟨i, f, h1, h2, h3⟩ := I.s e hx
    exact ⟨i, f, h1, List.mem_append_left _ h2, h3⟩
   ·rw [List.mem_singleton] at hx
    exact ⟨j, 0, hx, by simp, Nat.zero_le _⟩
  ·rcases List.mem_append.1 hi with hi | hi
   ·rcases I.c i hi q hq j' h1 h2 with h | ⟨f, h3, h4⟩
    ·exact .inl (List.mem_append_left _ h)
    ·exact .inr ⟨f, List.mem_append_left _ h3, h4⟩
   ·rw [List.mem_singleton] at hi
    obtain rfl : i = j := by omega
    exact .inr ⟨0, by simp, Nat.zero_le _⟩
  ·exact List.mem_append_left _ (I.r q h1 h2 j' h3 h4)
  ·rcases List.mem_append.1 hi with hi | hi
   ·exact I.g T hT' i hi
   ·rw [List.mem_singleton] at hi
    obtain rfl : i = j := by omega
    exact hT T hT' i he hy
  ·rw [hs, List.length_append, List.length_singleton]; omega
  ·have := I.l
   rw [List.length_append, List.length_append, List.length_singleton, List.length_singleton]; omega
  ·rw [Zfm h1 he]; simp
  ·rw [hs, List.length_append, List.length_singleton]; omega
  ·rw [hs]; omega
 ·refine ⟨I, fun j' h1 h2 => ?_, fun x hx => hx, Nat.le_refl _, fun q => absurd rfl q⟩
  rcases hn j' h1 with h | h
  ·exact (ZtJ I h1).1 h
  ·exact absurd h2 h
theorem ZvM {L : List Ob} {may : Ob → Prop} {R : List RH} {B v : Nat} {M : List RI} {O : List Int} {S : List RH} {j : Nat} (I : Inv L may R B v M O (S ++ [⟨(j : Int), ((ob L j).a7.length : Int)⟩])) : Inv L may R B v M O S := by
 have hb := I.b
 have hl := I.l
 rw [ZgJ] at hb
 rw [List.length_append] at hl
 refine ⟨I.o, I.m, fun e he => I.s e (List.mem_append_left _ he), fun i hi q hq j' h1 h2 => ?_, I.r, I.g, by omega, by omega, I.u⟩
 rcases I.c i hi q hq j' h1 h2 with h | ⟨f, h3, h4⟩
 ·exact .inl h
 ·rcases List.mem_append.1 h3 with h3 | h3
  ·exact .inr ⟨f, h3, h4⟩
  ·rw [List.mem_singleton] at h3
   injection h3 with e1 e2
   obtain rfl : i = j := by omega
   omega
theorem ZuN {L : List Ob} {may : Ob → Prop} {R : List RH} {B v : Nat} {M : List RI} {O : List Int} {S S' : List RH} {j f : Nat} (hf : f < (ob L j).a7.length) (I : Inv L may R B v M O (S ++ ⟨(j : Int), (f : Int)⟩ :: S'))
  (h : ∀ j', Zbi L (fd L j f).a0 (fd L j f).a1 j' → may (ob L j') → (j' : Int) ∈ O) : Inv L may R B v M O (S ++ ⟨(j : Int), ((f + 1 : Nat) : Int)⟩ :: S') ∧ Zb6 L (S ++ ⟨(j : Int), ((f + 1 : Nat) : Int)⟩ :: S') + 1 = Zb6 L (S ++ ⟨(j : Int), (f : Int)⟩ :: S') := by
 have hs : Zb6 L (S ++ ⟨(j : Int), ((f + 1 : Nat) : Int)⟩ :: S') + 1 = Zb6 L (S ++ ⟨(j : Int), (f : Int)⟩ :: S') := by
  rw [ZgJ, ZgJ]
  have e : ∀ g : Nat, Zb6 L (⟨(j : Int), (g : Int)⟩ :: S') = ((ob L j).a7.length + 1 - g) + Zb6 L S' := fun g => rfl
  rw [e, e]; omega
 have hb := I.b
 have hl := I.l
 rw [List.length_append, List.length_cons] at hl
 refine ⟨⟨I.o, I.m, fun e he => ?_, fun i hi q hq j' h1 h2 => ?_, I.r, I.g, by omega, by rw [List.length_append, List.length_cons]; omega, I.u⟩, hs⟩
 ·rcases List.mem_append.1 he with he | he
  ·exact I.s e (List.mem_append_left _ he)
  ·rcases List.mem_cons.1 he with he | he
   ·obtain ⟨i, g, h1, h2, h3⟩ := I.s ⟨(j : Int), (f : Int)⟩ (by simp)
    injection h1 with e1 e2
    obtain rfl : i = j := by omega
    exact ⟨i, f + 1, he, h2, hf⟩
   ·exact I.s e (List.mem_append_right _ (List.mem_cons_of_mem _ he))
 ·rcases I.c i hi q hq j' h1 h2 with h' | ⟨g, h3, h4⟩
  ·exact .inl h'
  ·rcases List.mem_append.1 h3 with h3 | h3
   ·exact .inr ⟨g, List.mem_append_left _ h3, h4⟩
   ·rcases List.mem_cons.1 h3 with h3 | h3
    ·injection h3 with e1 e2
     obtain rfl : i = j := by omega
     obtain rfl : g = f := by omega
     by_cases e : q = g
     ·subst e; exact .inl (h j' h1 h2)
     ·exact .inr ⟨g + 1, by simp, by omega⟩
    ·exact .inr ⟨g, List.mem_append_right _ (List.mem_cons_of_mem _ h3), h4⟩
theorem ZuO {α : Type} {s S0 : List α} {e d : α} {n : Nat} (h : s.take n = S0 ++ [e]) (hn : n ≤ s.length) : n = S0.length + 1 ∧ s.getD (n - 1) d = e ∧ s.take (n - 1) = S0 ∧ ∀ e', (s.set (n - 1) e').take n = S0 ++ [e'] := by
 have hl : n = S0.length + 1 := by
  have := congrArg List.length h
  simp at this; omega
 obtain ⟨t, rfl⟩ : ∃ t, s = S0 ++ e :: t := ⟨s.drop n, by
  have h2 : s = s.take n ++ s.drop n := (List.take_append_drop n s).symm
  rw [h] at h2
  simpa using h2⟩
 subst hl
 refine ⟨rfl, by simp, by simp, fun e' => ?_⟩
 have h5 : S0.take (S0.length + 1) = S0 := List.take_of_length_le (by omega)
 simp [List.take_append, h5]
theorem ZqH {α : Type} {s : List α} {e : α} {n : Nat} (hn : n < s.length) : (s.set n e).take (n + 1) = s.take n ++ [e] := by
 have h1 : s.set n e = s.take n ++ e :: s.drop (n + 1) := List.set_eq_take_append_cons_drop.trans (if_pos hn)
 rw [h1]
 have h2 : (s.take n).length = n := by simp; omega
 rw [List.take_append, List.take_of_length_le (by omega), h2]
 simp
end Pg
end Ev
end Go.Proofs.YtiijipocjellpaaGreat
namespace Go.Proofs.YtiijipocjellpaaGreat
open Go.IntKind (i64)
open Go.RowKit
namespace Ev
namespace Pg
set_option linter.unusedVariables false
set_option linter.unusedSimpArgs false
namespace P3
def may3 (x : Ob) : Prop := x.a5 = 1
theorem Zp1 {a b c d e f g : Int} {l : List RH} {N : Nat} (h : f = 1) : ZaT a b c d e f g l N = some (.r0 true) := by unfold ZaT; exact Za h rfl
theorem ZsN {a b c d e f g : Int} {l : List RH} {N : Nat} (h : ¬ f = 1) : ZaT a b c d e f g l N = some (.r0 false) := by unfold ZaT; exact Zd h rfl
section
variable {L : List Ob} {Mx : List RI} {R : List RH} {N B v : Nat}
theorem e0 (hM : MI L 0 Mx) (k l : Int) : (∃ j : Nat, Zbi L k l j ∧ may3 (ob L j) ∧ Zai k l L Mx [] N = some (.r1 (Zaj [] k l (j : Int)) [(j : Int)] [⟨(j : Int), 0⟩])) ∨ ((∀ j, Zbi L k l j → Zbd [] k l = true ∨ ¬ may3 (ob L j)) ∧ Zai k l L Mx [] N = some .r0) := by
 unfold Zai
 rcases Zo0 hM k l N with ⟨j, h1, h2⟩ | ⟨h1, y, h2⟩
 ·by_cases hy : may3 (ob L j)
  ·refine .inl ⟨j, h1, hy, Zi h2 (Zd (by simp) (Zd (by simp [Zbd]) (Za (by omega) (Za h1.2.1 (Zi (Zp1 hy) (Zd (by simp) rfl))))))⟩
  ·refine .inr ⟨fun i hi => .inr (by rw [Zfm hi h1]; exact hy), Zi h2 (Zd (by simp) (Zd (by simp [Zbd]) (Za (by omega) (Za h1.2.1 (Zi (ZsN hy) (Za (by simp) rfl))))))⟩
 ·exact .inr ⟨fun j hj => absurd hj (h1 j), Zi h2 (Za (by simp) rfl)⟩
theorem e1 (hM : MI L 0 Mx) (k l : Int) (M : List RI) (O : List Int) (S : List RH) (hO : O.length ≤ 100000) (hS : S.length ≤ 100000) : (∃ j : Nat, Zbi L k l j ∧ ¬ Zbd M k l = true ∧ may3 (ob L j) ∧ ZH k l L Mx M O S N = some (.r1 (Zaj M k l (j : Int)) (O ++ [(j : Int)]) (S ++ [⟨(j : Int), 0⟩]))) ∨ ((∀ j, Zbi L k l j → Zbd M k l = true ∨ ¬ may3 (ob L j)) ∧ ZH k l L Mx M O S N = some .r0) := by
 unfold ZH
 rcases Zo0 hM k l N with ⟨j, h1, h2⟩ | ⟨h1, y, h2⟩
 ·by_cases hm : Zbd M k l = true
  ·exact .inr ⟨fun i hi => .inl hm, Zi h2 (Zd (by simp) (Za hm rfl))⟩
  by_cases hy : may3 (ob L j)
  ·refine .inl ⟨j, h1, hm, hy, Zi h2 (Zd (by simp) (Zd hm (Za (by omega) (Za h1.2.1 (Zi (Zp1 hy) (Zd (by simp) (Za (by omega) (Za (by omega) rfl))))))))⟩
  ·refine .inr ⟨fun i hi => .inr (by rw [Zfm hi h1]; exact hy), Zi h2 (Zd (by simp) (Zd hm (Za (by omega) (Za h1.2.1 (Zi (ZsN hy) (Za (by simp) rfl))))))⟩
 ·exact .inr ⟨fun j hj => absurd hj (h1 j), Zi h2 (Za (by simp) rfl)⟩
theorem e2 (hM : MI L 0 Mx) (k l : Int) (M : List RI) (O : List Int) (s : List RH) (n : Nat) (hO : O.length ≤ 100000) (hn : n ≤ s.length) (h1n : n ≤ 100000) : (∃ j : Nat, Zbi L k l j ∧ ¬ Zbd M k l = true ∧ may3 (ob L j) ∧ ((n < s.length ∧ Z4 k l L Mx M O s n s.length N = some (.r1 (Zaj M k l (j : Int)) (s.set n ⟨(j : Int), 0⟩) (O ++ [(j : Int)]))) ∨ Z4 k l L Mx M O s n s.length N = some (.r2 (Zaj M k l (j : Int)) (O ++ [(j : Int)]) (s.take n ++ [⟨(j : Int), 0⟩])))) ∨ ((∀ j, Zbi L k l j → Zbd M k l = true ∨ ¬ may3 (ob L j)) ∧ Z4 k l L Mx M O s n s.length N = some .r0) := by
 unfold Z4
 rcases Zo0 hM k l N with ⟨j, h1, h2⟩ | ⟨h1, y, h2⟩
 ·by_cases hm : Zbd M k l = true
  ·exact .inr ⟨fun i hi => .inl hm, Zi h2 (Zd (by simp) (Za hm rfl))⟩
  by_cases hy : may3 (ob L j)
  ·refine .inl ⟨j, h1, hm, hy, ?_⟩
   by_cases hc : n + 1 ≤ s.length
   ·exact .inl ⟨hc, Zi h2 (Zd (by simp) (Zd hm (Za (by omega) (Za h1.2.1 (Zi (Zp1 hy) (Zd (by simp) (Za (by omega) (Za hc (Za (by omega) rfl)))))))))⟩
   ·exact .inr (Zi h2 (Zd (by simp) (Zd hm (Za (by omega) (Za h1.2.1 (Zi (Zp1 hy) (Zd (by simp) (Za (by omega) (Zd hc (Za h1n (Za hn rfl)))))))))))
  ·refine .inr ⟨fun i hi => .inr (by rw [Zfm hi h1]; exact hy), Zi h2 (Zd (by simp) (Zd hm (Za (by omega) (Za h1.2.1 (Zi (ZsN hy) (Za (by simp) rfl))))))⟩
 ·exact .inr ⟨fun j hj => absurd hj (h1 j), Zi h2 (Za (by simp) rfl)⟩
def St (ph v : Nat) (M : List RI) (O : List Int) (S : List RH) : graph_objects_walkX → Prop
 | .h1m0 v' => ph = 1 ∧ v' = v ∧ M = [] ∧ O = [] ∧ S = []
 | .h1m1 v' O' s M' => ph = 1 ∧ v' = v ∧ M' = M ∧ O' = O ∧ s = S
 | .h1m2 v' O' s n c M' => ph = 1 ∧ v' = v ∧ M' = M ∧ O' = O ∧ s.take n = S ∧ n ≤ s.length ∧ c = s.length
 | .h2m0 v' => ph = 2 ∧ v' = v ∧ M = [] ∧ O = [] ∧ S = []
 | .h2m1 v' O' s M' => ph = 2 ∧ v' = v ∧ M' = M ∧ O' = O ∧ s = S
 | .h2m2 v' O' s n c M' => ph = 2 ∧ v' = v ∧ M' = M ∧ O' = O ∧ s.take n = S ∧ n ≤ s.length ∧ c = s.length
def outO : ZC → List Int
 | .r0 => []
 | .r1 l => l
abbrev stp (L : List Ob) (Mx : List RI) (R : List RH) (N : Nat) := Zaf L Mx R N
theorem ZtK {M : List RI} {O : List Int} {S : List RH} {x : graph_objects_walkX} (hM : MI L 0 Mx) (hx : St 1 v M O S x) (hv : v < R.length) (hO : O.length ≤ 100000) (hS : S.length ≤ 100000) :
  ∃ y M' O' S', stp L Mx R N x = some (.inl y) ∧ St 2 v M' O' S' y ∧ ZkA L may3 M O S (R.getD v RH.z).a0 (R.getD v RH.z).a1 M' O' S' := by
 cases x with
 | h1m0 v' =>
  obtain ⟨_, rfl, rfl, rfl, rfl⟩ := hx
  rcases e0 (N := N) hM (R.getD v' RH.z).a0 (R.getD v' RH.z).a1 with ⟨j, h1, h2, h3⟩ | ⟨h1, h2⟩
  ·refine ⟨.h2m1 v' _ _ _, _, _, _, ?_, ⟨rfl, rfl, rfl, rfl, rfl⟩, .inl ⟨j, h1, by simp [Zbd], h2, rfl, rfl, rfl⟩⟩
   show Zao L Mx R N v' = _
   unfold Zao
   exact Za (by omega) (Zi h3 rfl)
  ·refine ⟨.h2m0 v', _, _, _, ?_, ⟨rfl, rfl, rfl, rfl, rfl⟩, .inr ⟨h1, rfl, rfl, rfl⟩⟩
   show Zao L Mx R N v' = _
   unfold Zao
   exact Za (by omega) (Zi h2 rfl)
 | h1m1 v' O' s M' =>
  obtain ⟨_, rfl, rfl, rfl, rfl⟩ := hx
  rcases e1 (N := N) hM (R.getD v' RH.z).a0 (R.getD v' RH.z).a1 M' O' s hO hS with ⟨j, h1, hm, h2, h3⟩ | ⟨h1, h2⟩
  ·refine ⟨.h2m1 v' _ _ _, _, _, _, ?_, ⟨rfl, rfl, rfl, rfl, rfl⟩, .inl ⟨j, h1, hm, h2, rfl, rfl, rfl⟩⟩
   show Zap L Mx R N v' _ _ _ = _
   unfold Zap
   exact Za (by omega) (Zi h3 rfl)
  ·refine ⟨.h2m1 v' _ _ _, _, _, _, ?_, ⟨rfl, rfl, rfl, rfl, rfl⟩, .inr ⟨h1, rfl, rfl, rfl⟩⟩
   show Zap L Mx R N v' _ _ _ = _
   unfold Zap
   exact Za (by omega) (Zi h2 rfl)
 | h1m2 v' O' s n c M' =>
  obtain ⟨_, rfl, rfl, rfl, rfl, hn, rfl⟩ := hx
  have hn' : n ≤ 100000 := by rw [List.length_take] at hS; omega
  rcases e2 (N := N) hM (R.getD v' RH.z).a0 (R.getD v' RH.z).a1 M' O' s n hO hn hn' with ⟨j, h1, hm, h2, ⟨hc, h3⟩ | h3⟩ | ⟨h1, h2⟩
  ·refine ⟨.h2m2 v' _ _ (n + 1) s.length _, _, _, _, ?_, ⟨rfl, rfl, rfl, rfl, ZqH hc, by simp; omega, by simp⟩, .inl ⟨j, h1, hm, h2, rfl, rfl, rfl⟩⟩
   show ZV L Mx R N v' _ _ _ _ _ = _
   unfold ZV
   exact Za (by omega) (Zi h3 rfl)
  ·refine ⟨.h2m1 v' _ _ _, _, _, _, ?_, ⟨rfl, rfl, rfl, rfl, rfl⟩, .inl ⟨j, h1, hm, h2, rfl, rfl, rfl⟩⟩
   show ZV L Mx R N v' _ _ _ _ _ = _
   unfold ZV
   exact Za (by omega) (Zi h3 rfl)
  ·refine ⟨.h2m2 v' _ _ _ _ _, _, _, _, ?_, ⟨rfl, rfl, rfl, rfl, rfl, hn, rfl⟩, .inr ⟨h1, rfl, rfl, rfl⟩⟩
   show ZV L Mx R N v' _ _ _ _ _ = _
   unfold ZV
   exact Za (by omega) (Zi h2 rfl)
 | h2m0 v' => exact absurd hx.1 (by decide)
 | h2m1 v' O' s M' => exact absurd hx.1 (by decide)
 | h2m2 v' O' s n c M' => exact absurd hx.1 (by decide)
theorem ZuP {M : List RI} {O : List Int} {S : List RH} {x : graph_objects_walkX} (hx : St 1 v M O S x) (hv : ¬ v < R.length) :
  ∃ r, stp L Mx R N x = some (.inr r) ∧ outO r = O := by
 cases x with
 | h1m0 v' =>
  obtain ⟨_, rfl, rfl, rfl, rfl⟩ := hx
  refine ⟨.r0, ?_, rfl⟩
  show Zao L Mx R N v' = _
  unfold Zao
  exact Zd (by omega) rfl
 | h1m1 v' O' s M' =>
  obtain ⟨_, rfl, rfl, rfl, rfl⟩ := hx
  refine ⟨.r1 O', ?_, rfl⟩
  show Zap L Mx R N v' _ _ _ = _
  unfold Zap
  exact Zd (by omega) rfl
 | h1m2 v' O' s n c M' =>
  obtain ⟨_, rfl, rfl, rfl, rfl, hn, rfl⟩ := hx
  refine ⟨.r1 O', ?_, rfl⟩
  show ZV L Mx R N v' _ _ _ _ _ = _
  unfold ZV
  exact Zd (by omega) rfl
 | h2m0 v' => exact absurd hx.1 (by decide)
 | h2m1 v' O' s M' => exact absurd hx.1 (by decide)
 | h2m2 v' O' s n c M' => exact absurd hx.1 (by decide)
theorem ZtL {M : List RI} {O : List Int} {x : graph_objects_walkX} (hx : St 2 v M O [] x) (hv : v < 100000) :
  ∃ y, stp L Mx R N x = some (.inl y) ∧ St 1 (v + 1) M O [] y := by
 cases x with
 | h1m0 v' => exact absurd hx.1 (by decide)
 | h1m1 v' O' s M' => exact absurd hx.1 (by decide)
 | h1m2 v' O' s n c M' => exact absurd hx.1 (by decide)
 | h2m0 v' =>
  obtain ⟨_, rfl, rfl, rfl, _⟩ := hx
  refine ⟨.h1m0 (v' + 1), ?_, ⟨rfl, rfl, rfl, rfl, rfl⟩⟩
  show Zb8 L Mx R N v' = _
  unfold Zb8
  exact Za (by omega) rfl
 | h2m1 v' O' s M' =>
  obtain ⟨_, rfl, rfl, rfl, rfl⟩ := hx
  refine ⟨.h1m1 (v' + 1) O' [] M', ?_, ⟨rfl, rfl, rfl, rfl, rfl⟩⟩
  show Zaq L Mx R N v' _ _ _ = _
  unfold Zaq
  exact Zd (by simp) (Za (by omega) rfl)
 | h2m2 v' O' s n c M' =>
  obtain ⟨_, rfl, rfl, rfl, hs, hn, rfl⟩ := hx
  have hn0 : n = 0 := by
   have := congrArg List.length hs
   simp at this
   rcases this with h | h
   ·exact h
   ·subst h; simpa using hn
  refine ⟨.h1m2 (v' + 1) O' s n s.length M', ?_, ⟨rfl, rfl, rfl, rfl, hs, hn, rfl⟩⟩
  show Zar L Mx R N v' _ _ _ _ _ = _
  unfold Zar
  exact Zd (by omega) (Za (by omega) rfl)
theorem wf {f : Nat} (h : f < 100000) : i64.wrap ((f : Int) + 1) = ((f + 1 : Nat) : Int) ∧ i64.wrap (((f + 1 : Nat) : Int) - 1) = (f : Int) := ⟨(w64 (by omega) (by omega)).trans (by omega), (w64 (by omega) (by omega)).trans (by omega)⟩
theorem ZuQ {M : List RI} {O : List Int} {S : List RH} {j f : Nat} {x : graph_objects_walkX} (hM : MI L 0 Mx) (hx : St 2 v M O (S ++ [⟨(j : Int), (f : Int)⟩]) x) (hj : j < L.length) (hf : f ≤ (ob L j).a7.length) (hF : (ob L j).a7.length ≤ 1000) (hO : O.length ≤ 1000) (hS : S.length ≤ 1000) :
  (f = (ob L j).a7.length → ∃ y, stp L Mx R N x = some (.inl y) ∧ St 2 v M O S y) ∧
  (f < (ob L j).a7.length → ∃ y M' O' S', stp L Mx R N x = some (.inl y) ∧ St 2 v M' O' S' y ∧ ZkA L may3 M O (S ++ [⟨(j : Int), ((f + 1 : Nat) : Int)⟩]) (fd L j f).a0 (fd L j f).a1 M' O' S') := by
 obtain ⟨w1, w2⟩ := wf (show f < 100000 by omega)
 have ej : ((j : Int)).toNat = j := rfl
 have ef : ((f : Int)).toNat = f := rfl
 cases x with
 | h1m0 v' => exact absurd hx.1 (by decide)
 | h1m1 v' O' s M' => exact absurd hx.1 (by decide)
 | h1m2 v' O' s n c M' => exact absurd hx.1 (by decide)
 | h2m0 v' => exact absurd hx.2.2.2.2 (by simp)
 | h2m1 v' O' s M' =>
  obtain ⟨_, rfl, rfl, rfl, hs⟩ := hx
  subst hs
  have hl : (S ++ [(⟨(j : Int), (f : Int)⟩ : RH)]).length = S.length + 1 := by simp
  have hl' : (S ++ [(⟨(j : Int), (f : Int)⟩ : RH)]).length - 1 = S.length := by simp
  have hg : (S ++ [(⟨(j : Int), (f : Int)⟩ : RH)]).getD S.length RH.z = ⟨(j : Int), (f : Int)⟩ := by simp
  have hset : ∀ e : RH, (S ++ [(⟨(j : Int), (f : Int)⟩ : RH)]).set S.length e = S ++ [e] := fun e => by simp
  constructor
  ·intro hfe
   refine ⟨.h2m2 v' O' (S ++ [⟨(j : Int), (f : Int)⟩]) S.length (S.length + 1) M', ?_, ⟨rfl, rfl, rfl, rfl, by simp, by simp, by simp⟩⟩
   show Zaq L Mx R N v' _ _ _ = _
   unfold Zaq
   rw [hl', hg, hl]
   exact Za (by omega) (Za (by omega) (Za (by show (0 : Int) ≤ (j : Int); omega) (Za hj (Za (by show (f : Int) = (((ob L j).a7.length : Nat) : Int); omega) rfl))))
  ·intro hfl
   have hsz : (S ++ [(⟨(j : Int), ((f + 1 : Nat) : Int)⟩ : RH)]).length ≤ 100000 := by simp; omega
   have hstep : ∀ z, ((ZH (fd L j f).a0 (fd L j f).a1 L Mx M' O' (S ++ [⟨(j : Int), ((f + 1 : Nat) : Int)⟩]) N).bind fun r => match r with
     | .r0 => some (.inl (graph_objects_walkX.h2m1 v' O' (S ++ [⟨(j : Int), ((f + 1 : Nat) : Int)⟩]) M'))
     | .r1 y0 y1 y2 => some (.inl (graph_objects_walkX.h2m1 v' y1 y2 y0))) = z → stp L Mx R N (.h2m1 v' O' (S ++ [⟨(j : Int), (f : Int)⟩]) M') = z := by
    intro z hz
    show Zaq L Mx R N v' _ _ _ = _
    unfold Zaq
    rw [hl', hg, hl]
    refine Za (by omega) (Za (by omega) (Za (by show (0 : Int) ≤ (j : Int); omega) (Za hj (Zd (by show ¬ (f : Int) = (((ob L j).a7.length : Nat) : Int); omega) ?_))))
    show (if (0 : Int) ≤ i64.wrap (i64.wrap ((f : Int) + 1) - 1) then _ else _) = z
    rw [w1, w2]
    refine Za (by omega) (Za hfl ?_)
    rw [hset]
    exact hz
   rcases e1 (N := N) hM (fd L j f).a0 (fd L j f).a1 M' O' (S ++ [⟨(j : Int), ((f + 1 : Nat) : Int)⟩]) (by omega) hsz with ⟨i, h1, hm, h2, h3⟩ | ⟨h1, h2⟩
   ·exact ⟨.h2m1 v' _ _ _, _, _, _, hstep _ (Zi h3 rfl), ⟨rfl, rfl, rfl, rfl, rfl⟩, .inl ⟨i, h1, hm, h2, rfl, rfl, rfl⟩⟩
   ·exact ⟨.h2m1 v' _ _ _, _, _, _, hstep _ (Zi h2 rfl), ⟨rfl, rfl, rfl, rfl, rfl⟩, .inr ⟨h1, rfl, rfl, rfl⟩⟩
 | h2m2 v' O' s n c M' =>
  obtain ⟨_, rfl, rfl, rfl, hs, hn, rfl⟩ := hx
  obtain ⟨t1, t2, t3, t4⟩ := ZuO (d := RH.z) hs hn
  constructor
  ·intro hfe
   refine ⟨.h2m2 v' O' s (n - 1) s.length M', ?_, ⟨rfl, rfl, rfl, rfl, t3, by omega, rfl⟩⟩
   show Zar L Mx R N v' _ _ _ _ _ = _
   unfold Zar
   rw [t2]
   exact Za (by omega) (Za (by omega) (Za (by omega) (Za (by show (0 : Int) ≤ (j : Int); omega) (Za hj (Za (by show (f : Int) = (((ob L j).a7.length : Nat) : Int); omega) (Za (by omega) rfl))))))
  ·intro hfl
   have hstep : ∀ z, ((Z4 (fd L j f).a0 (fd L j f).a1 L Mx M' O' (s.set (n - 1) ⟨(j : Int), ((f + 1 : Nat) : Int)⟩) n s.length N).bind fun r => match r with
     | .r0 => some (.inl (graph_objects_walkX.h2m2 v' O' (s.set (n - 1) ⟨(j : Int), ((f + 1 : Nat) : Int)⟩) n s.length M'))
     | .r1 y0 y1 y2 => some (.inl (graph_objects_walkX.h2m2 v' y2 y1 (n + 1) s.length y0))
     | .r2 y0 y1 y2 => some (.inl (graph_objects_walkX.h2m1 v' y1 y2 y0))) = z → stp L Mx R N (.h2m2 v' O' s n s.length M') = z := by
    intro z hz
    show Zar L Mx R N v' _ _ _ _ _ = _
    unfold Zar
    rw [t2]
    refine Za (by omega) (Za (by omega) (Za (by omega) (Za (by show (0 : Int) ≤ (j : Int); omega) (Za hj (Zd (by show ¬ (f : Int) = (((ob L j).a7.length : Nat) : Int); omega) ?_)))))
    show (if (0 : Int) ≤ i64.wrap (i64.wrap ((f : Int) + 1) - 1) then _ else _) = z
    rw [w1, w2]
    exact Za (by omega) (Za hfl hz)
   have hsl : (s.set (n - 1) (⟨(j : Int), ((f + 1 : Nat) : Int)⟩ : RH)).length = s.length := by simp
   have he := e2 (N := N) hM (fd L j f).a0 (fd L j f).a1 M' O' (s.set (n - 1) ⟨(j : Int), ((f + 1 : Nat) : Int)⟩) n (by omega) (by omega) (by omega)
   rw [hsl] at he
   rcases he with ⟨i, h1, hm, h2, ⟨hc, h3⟩ | h3⟩ | ⟨h1, h2⟩
   ·exact ⟨.h2m2 v' _ _ (n + 1) s.length _, _, _, _, hstep _ (Zi h3 rfl), ⟨rfl, rfl, rfl, rfl, (ZqH (by omega)).trans (by rw [t4]), by simp; omega, by simp⟩, .inl ⟨i, h1, hm, h2, rfl, rfl, rfl⟩⟩
   ·exact ⟨.h2m1 v' _ _ _, _, _, _, hstep _ (Zi h3 rfl), ⟨rfl, rfl, rfl, rfl, by rw [t4]⟩, .inl ⟨i, h1, hm, h2, rfl, rfl, rfl⟩⟩
   ·exact ⟨.h2m2 v' _ _ n _ _, _, _, _, hstep _ (Zi h2 rfl), ⟨rfl, rfl, rfl, rfl, t4 _, by simp; omega, by simp⟩, .inr ⟨h1, rfl, rfl, rfl⟩⟩
structure Met (L : List Ob) (R : List RH) (O : List Int) : Prop where
 o : ∀ x ∈ O, ∃ j : Nat, x = (j : Int) ∧ Zbi L (ob L j).a0 (ob L j).a1 j
 c : ∀ j : Nat, (j : Int) ∈ O → ∀ q, q < (ob L j).a7.length → ∀ j', Zbi L (fd L j q).a0 (fd L j q).a1 j' → may3 (ob L j') → (j' : Int) ∈ O
 r : ∀ q, q < R.length → ∀ j', Zbi L (R.getD q RH.z).a0 (R.getD q RH.z).a1 j' → may3 (ob L j') → (j' : Int) ∈ O
 g : ∀ T, Gen L may3 R T → ∀ j : Nat, (j : Int) ∈ O → T j
 b : O.length ≤ 200
 u : O.Nodup
theorem goes (hM : MI L 0 Mx) (hF : ∀ j, (ob L j).a7.length ≤ 1000) (hR : R.length ≤ 1000) : ∀ d ph v M O S x f, Inv L may3 R 200 v M O S → St ph v M O S x → (ph = 1 ∨ v < R.length) → v ≤ R.length → Zch L O L.length + Zb6 L S + 2 * (R.length - v) + (2 - ph) ≤ d → (ph = 1 ∨ ph = 2) → (ph = 1 → S = []) → (ph = 2 → ∀ j', Zbi L (R.getD v RH.z).a0 (R.getD v RH.z).a1 j' → may3 (ob L j') → (j' : Int) ∈ O) → d < f → ∃ r, Zaw (stp L Mx R N) f x = some r ∧ Met L R (outO r) := by
 intro d
 induction d using Nat.strongRecOn with
 | ind d ih =>
  intro ph v M O S x f I hx hp hv hd hph hS hcur hf
  obtain ⟨f, rfl⟩ : ∃ j, f = j + 1 := ⟨f - 1, by omega⟩
  have hb := I.b
  have hl := I.l
  rcases hph with rfl | rfl
  ·by_cases h : v < R.length
   ·obtain ⟨y, M', O', S', h1, h2, h3⟩ := ZtK (N := N) hM hx h (by omega) (by omega)
    obtain ⟨I', k1, k2, k3, k4⟩ := Zpb I (fun T hT j hj hy => hT.1 v j h hj hy) h3
    have hO : Zch L O' L.length + Zb6 L S' ≤ Zch L O L.length + Zb6 L S := by
     by_cases e : O' = O
     ·subst e; omega
     ·have := k4 e; omega
    obtain ⟨r, q1, q2⟩ := ih (Zch L O' L.length + Zb6 L S' + 2 * (R.length - v)) (by omega) 2 v M' O' S' y f I' h2 (.inr h) hv (by omega) (.inr rfl) (fun q => by omega) (fun _ => k1) (by omega)
    exact ⟨r, (ZL h1).trans q1, q2⟩
   ·obtain ⟨r, h1, h2⟩ := ZuP (L := L) (Mx := Mx) (N := N) hx h
    refine ⟨r, Zam h1, ?_⟩
    rw [h2]
    obtain rfl := hS rfl
    refine ⟨I.o, fun j hj q hq j' h3 h4 => ?_, fun q hq j' h3 h4 => I.r q (by omega) hq j' h3 h4, I.g, by omega, I.u⟩
    rcases I.c j hj q hq j' h3 h4 with h5 | ⟨_, h5, _⟩
    ·exact h5
    ·cases h5
  ·have hv' : v < R.length := hp.elim (fun q => by omega) id
   rcases List.eq_nil_or_concat S with rfl | ⟨S0, e, rfl⟩
   ·obtain ⟨y, h1, h2⟩ := ZtL (L := L) (Mx := Mx) (R := R) (N := N) hx (by omega)
    have I' : Inv L may3 R 200 (v + 1) M O [] := by
     refine ⟨I.o, I.m, I.s, I.c, fun q h3 h4 j' h5 h6 => ?_, I.g, I.b, I.l, I.u⟩
     by_cases hq : q < v
     ·exact I.r q hq h4 j' h5 h6
     ·obtain rfl : q = v := by omega
      exact hcur rfl j' h5 h6
    obtain ⟨r, q1, q2⟩ := ih (Zch L O L.length + Zb6 L [] + 2 * (R.length - (v + 1)) + 1) (by omega) 1 (v + 1) M O [] y f I' h2 (.inl rfl) (by omega) (by omega) (.inl rfl) (fun _ => rfl) (fun q => by omega) (by omega)
    exact ⟨r, (ZL h1).trans q1, q2⟩
   ·rw [List.concat_eq_append] at I hx hd hb hl
    obtain ⟨j, g, rfl, hj, hg⟩ := I.s e (by simp)
    have hjl : j < L.length := by
     obtain ⟨i, e1, e2⟩ := I.o _ hj
     obtain rfl : i = j := by omega
     exact e2.2.1
    rw [List.length_append, List.length_singleton] at hl
    obtain ⟨p1, p2⟩ := ZuQ (N := N) hM hx hjl hg (hF j) (by omega) (by omega)
    by_cases h : g = (ob L j).a7.length
    ·obtain ⟨y, h1, h2⟩ := p1 h
     have hs : Zb6 L (S0 ++ [⟨(j : Int), (g : Int)⟩]) = Zb6 L S0 + 1 := by
      rw [ZgJ]
      show Zb6 L S0 + (((ob L j).a7.length + 1 - g) + 0) = _
      omega
     subst h
     obtain ⟨r, q1, q2⟩ := ih (Zch L O L.length + Zb6 L S0 + 2 * (R.length - v)) (by omega) 2 v M O S0 y f (ZvM I) h2 (.inr hv') hv (by omega) (.inr rfl) (fun q => by omega) hcur (by omega)
     exact ⟨r, (ZL h1).trans q1, q2⟩
    ·have hlt : g < (ob L j).a7.length := by omega
     obtain ⟨y, M', O', S', h1, h2, h3⟩ := p2 hlt
     have hT : ∀ T, Gen L may3 R T → ∀ j', Zbi L (fd L j g).a0 (fd L j g).a1 j' → may3 (ob L j') → T j' := fun T hT j' he hy => hT.2 j g j' (I.g T hT j hj) hlt he hy
     have fin : ∀ tl : List RH, S' = S0 ++ ⟨(j : Int), ((g + 1 : Nat) : Int)⟩ :: tl → ZkA L may3 M O (S0 ++ [⟨(j : Int), (g : Int)⟩]) (fd L j g).a0 (fd L j g).a1 M' O' (S0 ++ ⟨(j : Int), (g : Int)⟩ :: tl) → ∃ r, Zaw (stp L Mx R N) (f + 1) x = some r ∧ Met L R (outO r) := by
      intro tl hS' E
      obtain ⟨I1, k1, k2, k3, k4⟩ := Zpb I hT E
      obtain ⟨I2, hs⟩ := ZuN hlt I1 k1
      rw [← hS'] at I2 hs
      have hm : Zch L O' L.length + Zb6 L S' < Zch L O L.length + Zb6 L (S0 ++ [⟨(j : Int), (g : Int)⟩]) := by
       by_cases e : O' = O
       ·subst e; omega
       ·have := k4 e; omega
      obtain ⟨r, q1, q2⟩ := ih (Zch L O' L.length + Zb6 L S' + 2 * (R.length - v)) (by omega) 2 v M' O' S' y f I2 h2 (.inr hv') hv (by omega) (.inr rfl) (fun q => by omega) (fun _ j' e1 e2 => k2 _ (hcur rfl j' e1 e2)) (by omega)
      exact ⟨r, (ZL h1).trans q1, q2⟩
     rcases h3 with ⟨i, a1, a2, a3, rfl, rfl, rfl⟩ | ⟨a1, rfl, rfl, rfl⟩
     ·exact fin [⟨(i : Int), 0⟩] (by simp) (.inl ⟨i, a1, a2, a3, rfl, rfl, by simp⟩)
     ·exact fin [] rfl (.inr ⟨a1, rfl, rfl, rfl⟩)
theorem walk_is (hM : MI L 0 Mx) (hF : ∀ j, (ob L j).a7.length ≤ 1000) (hR : R.length ≤ 1000) (hB : Zch L [] L.length ≤ 200) (hN : 10000 ≤ N) : ∃ r, Zbv L Mx R N = some r ∧ Met L R (outO r) := by
 refine (fun ⟨r, h1, h2⟩ => ⟨r, (ZdU (x := graph_objects_walkX.h1m0 0) rfl).trans h1, h2⟩) (goes (N := N) hM hF hR (Zch L [] L.length + Zb6 L [] + 2 * (R.length - 0) + (2 - 1)) 1 0 [] [] [] (.h1m0 0) N (inv_0 hB) ⟨rfl, rfl, rfl, rfl, rfl⟩ (.inl rfl) (Nat.zero_le _) (by omega) (.inl rfl) (fun _ => rfl) (fun q => by omega) (by simp only [Zb6]; omega))
end
end P3
end Pg
end Ev
end Go.Proofs.YtiijipocjellpaaGreat
namespace Go.Proofs.YtiijipocjellpaaGreat
open Go.RowKit
namespace Ev
namespace Pg
set_option linter.unusedVariables false
set_option linter.unusedSimpArgs false
def rf (L : List Ob) (O : List Int) : List RH := O.map fun x => ⟨(ob L x.toNat).a0, (ob L x.toNat).a1⟩
theorem ZvN {L : List Ob} {Mx : List RI} {N : Nat} {O : List Int} (h : ∀ x ∈ O, ∃ j : Nat, x = (j : Int) ∧ j < L.length) (hO : O.length ≤ 1000) : ∀ d i f, i + d = O.length → 1 ≤ i → d < f → Zaw (ZaA L Mx O N) f (.h1m1 ((rf L O).take i) i) = some (.r1 (rf L O)) := by
 have hl : (rf L O).length = O.length := by simp [rf]
 intro d
 induction d with
 | zero =>
  intro i f hi h1 hf
  obtain ⟨f, rfl⟩ : ∃ j, f = j + 1 := ⟨f - 1, by omega⟩
  refine Zam ?_
  show Za5 L Mx O N _ i = _
  unfold Za5
  rw [List.take_of_length_le (by omega)]
  exact Zd (by omega) rfl
 | succ d ih =>
  intro i f hi h1 hf
  obtain ⟨f, rfl⟩ : ∃ j, f = j + 1 := ⟨f - 1, by omega⟩
  have hil : i < O.length := by omega
  obtain ⟨j, e, hj⟩ := h (O.getD i 0) (by rw [show O.getD i 0 = O[i] by simp [hil]]; exact List.getElem_mem hil)
  refine (ZL ?_).trans (ih (i + 1) f (by omega) (by omega) (by omega))
  show Za5 L Mx O N _ i = _
  unfold Za5
  have ht : (rf L O).take i ++ [(⟨(ob L (O.getD i 0).toNat).a0, (ob L (O.getD i 0).toNat).a1⟩ : RH)] = (rf L O).take (i + 1) := by
   have hil' : i < (rf L O).length := by omega
   rw [← ZtI hil' RH.z]
   congr 2
   simp [rf, hil]
  rw [← ht]
  exact Za (by omega) (Za (by omega) (Za (by rw [e]; exact hj) (Za (by rw [List.length_take]; omega) (Za (by omega) rfl))))
theorem ZvO {L : List Ob} {Mx : List RI} {N : Nat} {O : List Int} (h : ∀ x ∈ O, ∃ j : Nat, x = (j : Int) ∧ j < L.length) (hO : O.length ≤ 1000) (hN : 2000 ≤ N) : (O = [] ∧ Za6 L Mx O N = some .r0) ∨ (O ≠ [] ∧ Za6 L Mx O N = some (.r1 (rf L O))) := by
 obtain ⟨n, rfl⟩ : ∃ n, N = n + 1 := ⟨N - 1, by omega⟩
 have hg : Za6 L Mx O (n + 1) = Zaw (ZaA L Mx O (n + 1)) (n + 1) .h1m0 := ZdU rfl
 rw [hg]
 cases O with
 | nil =>
  refine .inl ⟨rfl, Zam ?_⟩
  show Za4 L Mx [] (n + 1) = _
  unfold Za4
  exact Zd (by simp) rfl
 | cons x O =>
  obtain ⟨j, e, hj⟩ := h x (by simp)
  refine .inr ⟨by simp, (ZL (y := .h1m1 ((rf L (x :: O)).take 1) 1) ?_).trans (ZvN h hO O.length 1 n (by simp; omega) (Nat.le_refl _) (by simp at hO; omega))⟩
  show Za4 L Mx (x :: O) (n + 1) = _
  unfold Za4
  exact Za (by rw [List.length_cons]; omega) (Za (by show (0 : Int) ≤ x; omega) (Za (by show x.toNat < L.length; rw [e]; exact hj) rfl))
theorem refs2 (L : List Ob) (Mx : List RI) : Zc9 L Mx 100000 = some .r0 := by
 refine (ZdU (x := graph_objects_refsX.h1m0) rfl).trans ?_
 exact Zam (n := 99999) rfl
theorem ZvP {L : List Ob} (hl : L.length ≤ 1000) (hF : ∀ j, (ob L j).a7.length ≤ 1000) (hB : Zch L [] L.length ≤ 200) (a b : Int) : ∃ O, P3.Met L [⟨a, b⟩] O ∧ ((O = [] ∧ Za9 L a b 100000 = some .r0) ∨ (O ≠ [] ∧ Za9 L a b 100000 = some (.r1 (rf L O)))) := by
 obtain ⟨Mx, hM, hi⟩ := ZuM (L := L) (N := 100000) (by omega) (by decide)
 obtain ⟨r, h1, h2⟩ := P3.walk_is (R := [⟨a, b⟩]) (N := 100000) hM hF (by simp) hB (by decide)
 have ho : ∀ x ∈ P3.outO r, ∃ j : Nat, x = (j : Int) ∧ j < L.length := fun x hx => by
  obtain ⟨j, e1, e2⟩ := h2.o x hx
  exact ⟨j, e1, e2.2.1⟩
 refine ⟨P3.outO r, h2, ?_⟩
 unfold Za9
 cases r with
 | r0 => exact .inl ⟨rfl, Zi hi (Zi h1 (Zi (refs2 L Mx) rfl))⟩
 | r1 O =>
  rcases ZvO (Mx := Mx) (N := 100000) ho (by have := h2.b; omega) (by decide) with ⟨e, q⟩ | ⟨e, q⟩
  ·exact .inl ⟨e, Zi hi (Zi h1 (Zi q rfl))⟩
  ·exact .inr ⟨e, Zi hi (Zi h1 (Zi q rfl))⟩
end Pg
namespace Pg
set_option linter.unusedVariables false
set_option linter.unusedSimpArgs false
def kf (L : List Ob) (j : Nat) : RH := ⟨(ob L j).a0, (ob L j).a1⟩
open Classical in
noncomputable def left (L : List Ob) (M : List RH) : Nat → Nat
 | 0 => 0
 | n + 1 => (if kf L n ∈ M then 0 else 1) + left L M n
theorem Zo1 (L : List Ob) (M : List RH) : ∀ n, left L M n ≤ n
 | 0 => Nat.le_refl _
 | n + 1 => by
  have := Zo1 L M n
  simp only [left]; split <;> omega
theorem ZlZ {L : List Ob} {M M' : List RH} (h : ∀ x ∈ M, x ∈ M') : ∀ n, left L M' n ≤ left L M n
 | 0 => Nat.le_refl _
 | n + 1 => by
  have ih := ZlZ (L := L) h n
  simp only [left]
  by_cases e : kf L n ∈ M
  ·rw [if_pos e, if_pos (h _ e)]; omega
  ·rw [if_neg e]; split <;> omega
theorem ZqI {L : List Ob} {M : List RH} {v : RH} (hv : ¬ v ∈ M) {j : Nat} (hj : kf L j = v) : ∀ n, j < n → left L (M ++ [v]) n + 1 ≤ left L M n
 | 0, h => by omega
 | n + 1, h => by
  have hm : ∀ x ∈ M, x ∈ M ++ [v] := fun x hx => List.mem_append_left _ hx
  simp only [left]
  by_cases e : n = j
  ·subst e
   rw [if_pos (by rw [hj]; simp), if_neg (by rw [hj]; exact hv)]
   have := ZlZ (L := L) hm n
   omega
  ·have ih := ZqI hv hj n (by omega)
   by_cases e : kf L n ∈ M
   ·rw [if_pos e, if_pos (hm _ e)]; omega
   ·rw [if_neg e]; split <;> omega
def fO (x : Ob) : ZbP := .r0 x.a0 x.a1 x.a2 x.a3 x.a4 x.a5 x.a6 x.a7
theorem ZuR {L : List Ob} {a b : Int} {N : Nat} (hl : L.length ≤ 1000) : ∀ d i f, i + d = L.length → (∀ q, q < i → ¬ Zdr L a b q) → d < f →
  (∃ j, j < L.length ∧ Zdr L a b j ∧ (∀ q, q < j → ¬ Zdr L a b q) ∧ Zaw (Zb3 L a b N) f (.h1m0 i) = some (fO (ob L j))) ∨ ((∀ q, q < L.length → ¬ Zdr L a b q) ∧ Zaw (Zb3 L a b N) f (.h1m0 i) = some .r1) := by
 intro d
 induction d with
 | zero =>
  intro i f hi hq hf
  obtain ⟨f, rfl⟩ : ∃ j, f = j + 1 := ⟨f - 1, by omega⟩
  refine .inr ⟨fun q h => hq q (by omega), Zam ?_⟩
  show Zbr L a b N i = _
  unfold Zbr
  exact Zd (by omega) rfl
 | succ d ih =>
  intro i f hi hq hf
  obtain ⟨f, rfl⟩ : ∃ j, f = j + 1 := ⟨f - 1, by omega⟩
  by_cases h : Zdr L a b i
  ·refine .inl ⟨i, by omega, h, hq, Zam ?_⟩
   show Zbr L a b N i = _
   unfold Zbr
   exact Za (by omega) (Za h rfl)
  ·have e : Zaw (Zb3 L a b N) (f + 1) (.h1m0 i) = Zaw (Zb3 L a b N) f (.h1m0 (i + 1)) := by
    refine ZL ?_
    show Zbr L a b N i = _
    unfold Zbr
    exact Za (by omega) (Zd h (Za (by omega) rfl))
   rw [e]
   exact ih (i + 1) f (by omega) (fun q hq' => by
    by_cases e : q = i
    ·subst e; exact h
    ·exact hq q (by omega)) (by omega)
theorem ZsO {L : List Ob} {a b : Int} {N : Nat} (hl : L.length ≤ 1000) (hN : 2000 ≤ N) :
  (∃ j, j < L.length ∧ Zdr L a b j ∧ (∀ q, q < j → ¬ Zdr L a b q) ∧ Zb4 L a b N = some (fO (ob L j))) ∨ ((∀ q, q < L.length → ¬ Zdr L a b q) ∧ Zb4 L a b N = some .r1) := by
 have e : Zb4 L a b N = Zaw (Zb3 L a b N) N (.h1m0 0) := ZdU rfl
 rw [e]
 exact ZuR hl L.length 0 N (by omega) (fun q h => by omega) (by omega)
theorem ZvQ {M : List RH} {a b : Int} {N : Nat} (hl : M.length ≤ 1000) : ∀ d i f, i + d = M.length → (∀ q, q < i → ¬ M.getD q RH.z = ⟨a, b⟩) → d < f →
  ∃ y, Zaw (ZbE M a b N) f (.h1m0 i) = some (.r0 y) ∧ (y = true ↔ (⟨a, b⟩ : RH) ∈ M) := by
 intro d
 induction d with
 | zero =>
  intro i f hi hq hf
  obtain ⟨f, rfl⟩ : ∃ j, f = j + 1 := ⟨f - 1, by omega⟩
  refine ⟨false, Zam ?_, ⟨fun h => by simp at h, fun h => ?_⟩⟩
  ·show Zbe M a b N i = _
   unfold Zbe
   exact Zd (by omega) rfl
  ·obtain ⟨q, h1, h2⟩ := List.getElem_of_mem h
   exact absurd (by simp [h1, h2]) (hq q (by omega))
 | succ d ih =>
  intro i f hi hq hf
  obtain ⟨f, rfl⟩ : ∃ j, f = j + 1 := ⟨f - 1, by omega⟩
  by_cases h : (M.getD i RH.z).a0 = a ∧ (M.getD i RH.z).a1 = b
  ·refine ⟨true, Zam ?_, ⟨fun _ => ?_, fun _ => rfl⟩⟩
   ·show Zbe M a b N i = _
    unfold Zbe
    exact Za (by omega) (Za h rfl)
   ·rw [← h.1, ← h.2]
    have hi' : i < M.length := by omega
    have : M.getD i RH.z = M[i] := by simp [hi']
    rw [this]
    exact List.getElem_mem hi'
  ·have e : Zaw (ZbE M a b N) (f + 1) (.h1m0 i) = Zaw (ZbE M a b N) f (.h1m0 (i + 1)) := by
    refine ZL ?_
    show Zbe M a b N i = _
    unfold Zbe
    exact Za (by omega) (Zd h (Za (by omega) rfl))
   rw [e]
   exact ih (i + 1) f (by omega) (fun q hq' => by
    by_cases e : q = i
    ·subst e; exact fun e' => h (by rw [e']; exact ⟨rfl, rfl⟩)
    ·exact hq q (by omega)) (by omega)
theorem dhas {M : List RH} {a b : Int} {N : Nat} (hl : M.length ≤ 1000) (hN : 2000 ≤ N) : ∃ y, ZdA M a b N = some (.r0 y) ∧ (y = true ↔ (⟨a, b⟩ : RH) ∈ M) := by
 have e : ZdA M a b N = Zaw (ZbE M a b N) N (.h1m0 0) := ZdU rfl
 rw [e]
 exact ZvQ hl M.length 0 N (by omega) (fun q h => by omega) (by omega)
def V (L : List Ob) (O : List Int) (a b : Int) : Prop := ∀ j', Zbi L a b j' → P3.may3 (ob L j') → (j' : Int) ∈ O
def D (L : List Ob) (O : List Int) (M : List RH) : Prop := ∀ x ∈ M, ∃ j : Nat, (j : Int) ∈ O ∧ x = kf L j
def Cl (L : List Ob) (O : List Int) : Prop := ∀ j : Nat, (j : Int) ∈ O → ∀ q, q < (ob L j).a7.length → V L O (fd L j q).a0 (fd L j q).a1
def Zkv (M : List RH) : Zw → List RH
 | .r0 => M
 | .r1 l => l
def Own (L : List Ob) (j : Nat) : Prop := Zbi L (ob L j).a0 (ob L j).a1 j
theorem ZfZ {L : List Ob} {a b : Int} {j : Nat} (h : Zbi L a b j) : Own L j ∧ kf L j = ⟨a, b⟩ := by
 obtain ⟨k1, k2⟩ := h.2.2.1
 unfold Own kf
 constructor
 ·rw [show (ob L j).a0 = a from k1, show (ob L j).a1 = b from k2]; exact h
 ·rw [show (ob L j).a0 = a from k1, show (ob L j).a1 = b from k2]
theorem Zo2 {L : List Ob} {i j : Nat} (hi : Own L i) (hj : Own L j) (e : kf L i = kf L j) : i = j := by
 unfold kf at e
 injection e with e1 e2
 unfold Own at hi
 rw [e1, e2] at hi
 exact Zfm hi hj
def Tg (L : List Ob) (M : List RH) (a b : Int) : Prop := ∀ j', Zbi L a b j' → P3.may3 (ob L j') → kf L j' ∈ M
def Shut (L : List Ob) (M : List RH) (j : Nat) : Prop := ∀ q, q < (ob L j).a7.length → Tg L M (fd L j q).a0 (fd L j q).a1
theorem Tg.up {L : List Ob} {M M' : List RH} {a b : Int} (h : Tg L M a b) (hs : ∀ x ∈ M, x ∈ M') : Tg L M' a b := fun j' h1 h2 => hs _ (h j' h1 h2)
theorem Shut.up {L : List Ob} {M M' : List RH} {j : Nat} (h : Shut L M j) (hs : ∀ x ∈ M, x ∈ M') : Shut L M' j := fun q hq => (h q hq).up hs
structure Goes (L : List Ob) (O : List Int) (M M' : List RH) : Prop where
 d : D L O M'
 s : ∀ x ∈ M, x ∈ M'
 b : M'.length + left L M' L.length ≤ M.length + left L M L.length
 u : M.Nodup → M'.Nodup
 c : ∀ j, Own L j → kf L j ∈ M' → kf L j ∈ M ∨ Shut L M' j
theorem Zma {L : List Ob} {O : List Int} {M : List RH} (h : D L O M) : Goes L O M M := ⟨h, fun x hx => hx, Nat.le_refl _, id, fun j _ h => .inl h⟩
theorem Goes.trans {L : List Ob} {O : List Int} {M M1 M' : List RH} (h : Goes L O M M1) (g : Goes L O M1 M') : Goes L O M M' :=
 ⟨g.d, fun x hx => g.s x (h.s x hx), Nat.le_trans g.b h.b, fun u => g.u (h.u u), fun j ho hj => by
  rcases g.c j ho hj with h1 | h1
  ·exact (h.c j ho h1).imp id (fun h2 => h2.up g.s)
  ·exact .inr h1⟩
section
variable {L : List Ob} {O : List Int} {N : Nat}
theorem ZuS {a b : Int} {j : Nat} (hf : Zb4 L a b N = some (fO (ob L j))) : ∃ y, Zcz L a b N = some (.r0 y) ∧ (y = true ↔ (a = 2 ∧ ¬ b = 0)) := by
 unfold Zcz
 by_cases h2 : a = 2
 ·by_cases h0 : b = 0
  ·exact ⟨false, Zi hf (Za h2 (Zd (by simp [h0]) rfl)), by simp [h0]⟩
  ·exact ⟨true, Zi hf (Za h2 (Za h0 rfl)), by simp [h2, h0]⟩
 ·exact ⟨false, Zi hf (Zd h2 rfl), by simp [h2]⟩
theorem is_n {a b : Int} (hf : Zb4 L a b N = some .r1) : Zcz L a b N = some (.r0 false) := by
 unfold Zcz
 exact Zi hf rfl
theorem ZtM {M : List RH} {a b : Int} {j : Nat} (hD : D L O M) (hj : (j : Int) ∈ O) (hk : kf L j = ⟨a, b⟩) : D L O (M ++ [⟨a, b⟩]) := by
 intro x hx
 rcases List.mem_append.1 hx with hx | hx
 ·exact hD x hx
 ·rw [List.mem_singleton] at hx
  exact ⟨j, hj, hx.trans hk.symm⟩
theorem in2 (hl : L.length ≤ 1000) (hN : 2000 ≤ N) (rec : List RL → List RH → Int → Int → Option Zw) {M : List RH} {a b : Int} (hV : V L O a b) (hM : M.length ≤ 1000) :
  (Zc1 rec L M a b N = some (.inr .r0) ∧ Tg L M a b) ∨ ∃ j : Nat, (j : Int) ∈ O ∧ j < L.length ∧ Zbi L a b j ∧ kf L j = ⟨a, b⟩ ∧ ¬ (⟨a, b⟩ : RH) ∈ M ∧ Zc1 rec L M a b N = some (.inl (.h1m0 (M ++ [⟨a, b⟩]) 0 (ob L j).a0 (ob L j).a1 (ob L j).a2 (ob L j).a3 (ob L j).a4 (ob L j).a5 (ob L j).a6 (ob L j).a7)) := by
 unfold Zc1
 rcases ZsO (a := a) (b := b) hl hN with ⟨j, h1, h2, h3, h4⟩ | ⟨h1, h2⟩
 ·obtain ⟨y, i1, i2⟩ := ZuS h4
  by_cases hy : y = true
  ·have he : Zbi L a b j := ⟨i2.1 hy, h1, h2, h3⟩
   obtain ⟨z, g1, g2⟩ := dhas (a := a) (b := b) hM hN
   by_cases hz : z = true
   ·refine .inl ⟨Zi h4 (Zi i1 (Zd (by simp [hy]) (Zi g1 (Za hz rfl)))), fun j' h5 _ => ?_⟩
    rw [(ZfZ h5).2]; exact g2.1 hz
   ·by_cases hp : (ob L j).a5 = 1
    ·exact .inr ⟨j, hV j he hp, h1, he, (ZfZ he).2, fun q => hz (g2.2 q), Zi h4 (Zi i1 (Zd (by simp [hy]) (Zi g1 (Zd hz (Zd (fun q => q hp) (Za (by omega) rfl))))))⟩
    ·exact .inl ⟨Zi h4 (Zi i1 (Zd (by simp [hy]) (Zi g1 (Zd hz (Za hp rfl))))), fun j' h5 h6 => absurd (by rw [Zfm he h5]; exact h6) hp⟩
  ·exact .inl ⟨Zi h4 (Zi i1 (Za (by simp [hy]) rfl)), fun j' h5 _ => absurd (i2.2 h5.1) hy⟩
 ·exact .inl ⟨Zi h2 (Zi (is_n h2) (Za (by simp) rfl)), fun j' h5 _ => absurd h5.2.2.1 (h1 j' h5.2.1)⟩
theorem loop2 (hC : Cl L O) (hF : ∀ j, (ob L j).a7.length ≤ 1000) {n : Nat} {rec : List RL → List RH → Int → Int → Option Zw}
  (hrec : ∀ M a b, D L O M → V L O a b → M.length + left L M L.length ≤ 1000 → left L M L.length < n → ∃ r, rec L M a b = some r ∧ Goes L O M (Zkv M r) ∧ Tg L (Zkv M r) a b)
  {M0 : List RH} {a b : Int} {j : Nat} (hj : (j : Int) ∈ O) : ∀ d q M f, q + d = (ob L j).a7.length → D L O M → M.length + left L M L.length ≤ 1000 → left L M L.length < n → (∀ p, p < q → Tg L M (fd L j p).a0 (fd L j p).a1) → d < f →
  ∃ M', Zaw (Zc0 rec L M0 a b N) f (.h1m0 M q (ob L j).a0 (ob L j).a1 (ob L j).a2 (ob L j).a3 (ob L j).a4 (ob L j).a5 (ob L j).a6 (ob L j).a7) = some (.r1 M') ∧ Goes L O M M' ∧ Shut L M' j := by
 have hf' := hF j
 intro d
 induction d with
 | zero =>
  intro q M f hq hD hb hn ht hf
  obtain ⟨f, rfl⟩ : ∃ j, f = j + 1 := ⟨f - 1, by omega⟩
  refine ⟨M, Zam ?_, Zma hD, fun p hp => ht p (by omega)⟩
  show Zb9 rec L M0 a b N M q _ _ _ _ _ _ _ _ = _
  unfold Zb9
  exact Zd (by omega) rfl
 | succ d ih =>
  intro q M f hq hD hb hn ht hf
  obtain ⟨f, rfl⟩ : ∃ j, f = j + 1 := ⟨f - 1, by omega⟩
  obtain ⟨r, h1, h2, h2t⟩ := hrec M (fd L j q).a0 (fd L j q).a1 hD (hC j hj q (by omega)) hb hn
  have hm := ZlZ (L := L) h2.s L.length
  obtain ⟨M', h3, h4, h5⟩ := ih (q + 1) (Zkv M r) f (by omega) h2.d (by have := h2.b; omega) (by omega) (fun p hp => by
   by_cases e : p = q
   ·subst e; exact h2t
   ·exact (ht p (by omega)).up h2.s) (by omega)
  refine ⟨M', (ZL ?_).trans h3, h2.trans h4, h5⟩
  show Zb9 rec L M0 a b N M q _ _ _ _ _ _ _ _ = _
  unfold Zb9
  cases r with
  | r0 => exact Za (by omega) (Zi h1 (Za (by omega) rfl))
  | r1 l => exact Za (by omega) (Zi h1 (Za (by omega) rfl))
theorem push {M M' : List RH} {a b : Int} {j : Nat} (he : Zbi L a b j) (hk : kf L j = ⟨a, b⟩) (hn : ¬ (⟨a, b⟩ : RH) ∈ M) (hl : (M ++ [(⟨a, b⟩ : RH)]).length + left L (M ++ [⟨a, b⟩]) L.length ≤ M.length + left L M L.length) (g : Goes L O (M ++ [⟨a, b⟩]) M') (hs : Shut L M' j) : Goes L O M M' ∧ Tg L M' a b := by
 refine ⟨⟨g.d, fun x hx => g.s x (List.mem_append_left _ hx), Nat.le_trans g.b hl, fun u => g.u (ZnT u hn), fun i ho hi => ?_⟩, fun j' h1 _ => ?_⟩
 ·rcases g.c i ho hi with h | h
  ·rcases List.mem_append.1 h with h | h
   ·exact .inl h
   ·rw [List.mem_singleton] at h
    obtain rfl : i = j := Zo2 ho (ZfZ he).1 (h.trans hk.symm)
    exact .inr hs
  ·exact .inr h
 ·rw [(ZfZ h1).2]; exact g.s _ (by simp)
theorem walk2 (hl : L.length ≤ 1000) (hN : 2000 ≤ N) (hC : Cl L O) (hF : ∀ j, (ob L j).a7.length ≤ 1000) : ∀ n M a b, D L O M → V L O a b → M.length + left L M L.length ≤ 1000 → left L M L.length < n → ∃ r, ZaH N n L M a b = some r ∧ Goes L O M (Zkv M r) ∧ Tg L (Zkv M r) a b := by
 intro n
 induction n with
 | zero => intro M a b _ _ _ h; omega
 | succ n ih =>
  intro M a b hD hV hb hn
  show ∃ r, goM (Zc0 (ZaH N n) L M a b N) N (Zc1 (ZaH N n) L M a b N) = some r ∧ _
  rcases in2 hl hN (ZaH N n) hV (by omega : M.length ≤ 1000) with ⟨h, ht⟩ | ⟨j, h1, h2, he, h3, h4, h5⟩
  ·exact ⟨.r0, ZrW h, Zma hD, ht⟩
  ·have ha := ZqI h4 h3 L.length h2
   have hs : (M ++ [(⟨a, b⟩ : RH)]).length = M.length + 1 := by simp
   have hf' := hF j
   obtain ⟨M', g1, g2, g3⟩ := loop2 (N := N) (M0 := M) (a := a) (b := b) hC hF ih h1 (ob L j).a7.length 0 (M ++ [⟨a, b⟩]) N (by omega) (ZtM hD h1 h3) (by omega) (by omega) (fun p hp => by omega) (by omega)
   obtain ⟨p1, p2⟩ := push he h3 h4 (by omega) g2 g3
   exact ⟨.r1 M', (ZdU h5).trans g1, p1, p2⟩
theorem loop1 (hl : L.length ≤ 900) (hN : 2000 ≤ N) (hC : Cl L O) (hF : ∀ j, (ob L j).a7.length ≤ 1000)
  {a b : Int} {j : Nat} (hj : (j : Int) ∈ O) : ∀ d q M f, q + d = (ob L j).a7.length → D L O M → M.length + left L M L.length ≤ 1000 → (∀ p, p < q → Tg L M (fd L j p).a0 (fd L j p).a1) → d < f →
  ∃ M', Zaw (ZdO L a b N) f (.h1m0 M q (ob L j).a0 (ob L j).a1 (ob L j).a2 (ob L j).a3 (ob L j).a4 (ob L j).a5 (ob L j).a6 (ob L j).a7) = some (.r1 M') ∧ Goes L O M M' ∧ Shut L M' j := by
 have hf' := hF j
 intro d
 induction d with
 | zero =>
  intro q M f hq hD hb ht hf
  obtain ⟨f, rfl⟩ : ∃ j, f = j + 1 := ⟨f - 1, by omega⟩
  refine ⟨M, Zam ?_, Zma hD, fun p hp => ht p (by omega)⟩
  show Zco L a b N M q _ _ _ _ _ _ _ _ = _
  unfold Zco
  exact Zd (by omega) rfl
 | succ d ih =>
  intro q M f hq hD hb ht hf
  obtain ⟨f, rfl⟩ : ∃ j, f = j + 1 := ⟨f - 1, by omega⟩
  have hn := Zo1 L M L.length
  obtain ⟨r, h1, h2, h2t⟩ := walk2 (by omega) hN hC hF N M (fd L j q).a0 (fd L j q).a1 hD (hC j hj q (by omega)) hb (by omega)
  obtain ⟨M', h3, h4, h5⟩ := ih (q + 1) (Zkv M r) f (by omega) h2.d (by have := h2.b; omega) (fun p hp => by
   by_cases e : p = q
   ·subst e; exact h2t
   ·exact (ht p (by omega)).up h2.s) (by omega)
  refine ⟨M', (ZL ?_).trans h3, h2.trans h4, h5⟩
  show Zco L a b N M q _ _ _ _ _ _ _ _ = _
  unfold Zco
  have h1' : ZeN L M (fd L j q).a0 (fd L j q).a1 N = some r := h1
  cases r with
  | r0 => exact Za (by omega) (Zi h1' (Za (by omega) rfl))
  | r1 l => exact Za (by omega) (Zi h1' (Za (by omega) rfl))
theorem dclos (hl : L.length ≤ 900) (hN : 2000 ≤ N) (hC : Cl L O) (hF : ∀ j, (ob L j).a7.length ≤ 1000) {a b : Int} {j : Nat} (he : Zbi L a b j) (hp : P3.may3 (ob L j)) (hj : (j : Int) ∈ O) :
  ∃ C, Zal L a b N = some (.r1 C) ∧ D L O C ∧ (⟨a, b⟩ : RH) ∈ C ∧ C.Nodup ∧ ∀ i, Own L i → kf L i ∈ C → Shut L C i := by
 have hk : kf L j = ⟨a, b⟩ := (ZfZ he).2
 have hin : Zdh L a b N = some (.inl (.h1m0 [⟨a, b⟩] 0 (ob L j).a0 (ob L j).a1 (ob L j).a2 (ob L j).a3 (ob L j).a4 (ob L j).a5 (ob L j).a6 (ob L j).a7)) := by
  unfold Zdh
  rcases ZsO (a := a) (b := b) (by omega : L.length ≤ 1000) hN with ⟨i, h1, h2, h3, h4⟩ | ⟨h1, h2⟩
  ·obtain rfl : i = j := Zfm ⟨he.1, h1, h2, h3⟩ he
   obtain ⟨y, i1, i2⟩ := ZuS h4
   have hy : y = true := i2.2 he.1
   have hh : ZeM a b N = some .r0 := (ZdU (x := ref16_hasX.h1m0) rfl).trans (by
    obtain ⟨n, rfl⟩ : ∃ n, N = n + 1 := ⟨N - 1, by omega⟩
    exact Zam rfl)
   exact Zi h4 (Zi i1 (Zd (by simp [hy]) (Zi hh (Zd (fun q => q hp) rfl))))
  ·exact absurd he.2.2.1 (h1 j he.2.1)
 have hb : ([(⟨a, b⟩ : RH)] : List RH).length + left L [⟨a, b⟩] L.length ≤ 1000 := by
  have := Zo1 L [⟨a, b⟩] L.length
  simp only [List.length_singleton]; omega
 have hf' := hF j
 obtain ⟨M', g1, g2, g3⟩ := loop1 (N := N) (a := a) (b := b) hl hN hC hF hj (ob L j).a7.length 0 [⟨a, b⟩] N (by omega) (ZtM (M := []) (fun x hx => by cases hx) hj hk) hb (fun p hp => by omega) (by omega)
 refine ⟨M', ?_, g2.d, g2.s _ (by simp), g2.u (by simp), fun i ho hi => ?_⟩
 ·unfold Zal
  exact Zi ((ZdU hin).trans g1) rfl
 ·rcases g2.c i ho hi with h | h
  ·rw [List.mem_singleton] at h
   obtain rfl : i = j := Zo2 ho (ZfZ he).1 (h.trans hk.symm)
   exact g3
  ·exact h
theorem Zw0 (hl : L.length ≤ 900) (hN : 2000 ≤ N) {a b : Int} (h : ∀ j, Zbi L a b j → ¬ P3.may3 (ob L j)) : Zal L a b N = some .r0 := by
 have hin : Zdh L a b N = some (.inr .r0) := by
  unfold Zdh
  have hh : ZeM a b N = some .r0 := (ZdU (x := ref16_hasX.h1m0) rfl).trans (by
   obtain ⟨n, rfl⟩ : ∃ n, N = n + 1 := ⟨N - 1, by omega⟩
   exact Zam rfl)
  rcases ZsO (a := a) (b := b) (by omega : L.length ≤ 1000) hN with ⟨i, h1, h2, h3, h4⟩ | ⟨h1, h2⟩
  ·obtain ⟨y, i1, i2⟩ := ZuS h4
   by_cases hy : y = true
   ·exact Zi h4 (Zi i1 (Zd (by simp [hy]) (Zi hh (Za (fun q => h i ⟨i2.1 hy, h1, h2, h3⟩ q) rfl))))
   ·exact Zi h4 (Zi i1 (Za (by simp [hy]) rfl))
  ·exact Zi h2 (Zi (is_n h2) (Za (by simp) rfl))
 unfold Zal
 exact Zi (ZrW hin) rfl
open Classical in
theorem ZnU {α : Type} : ∀ {l m : List α}, l.Nodup → (∀ x ∈ l, x ∈ m) → l.length ≤ m.length
 | [], _, _, _ => Nat.zero_le _
 | x :: l, m, h, hs => by
  obtain ⟨h1, h2⟩ := List.nodup_cons.1 h
  have hx : x ∈ m := hs x (by simp)
  have := ZnU (m := m.erase x) h2 (fun y hy => (List.mem_erase_of_ne (fun (e : y = x) => h1 (by rw [← e]; exact hy))).2 (hs y (by simp [hy])))
  rw [List.length_erase_of_mem hx] at this
  have := List.length_pos_of_mem hx
  simp only [List.length_cons]; omega
theorem lens {a b : Int} (hM : P3.Met L [⟨a, b⟩] O) {C : List RH} (hD : D L O C) (hs : (⟨a, b⟩ : RH) ∈ C) (hu : C.Nodup) (hc : ∀ i, Own L i → kf L i ∈ C → Shut L C i) : C.length = O.length := by
 have hT : ∀ j : Nat, (j : Int) ∈ O → kf L j ∈ C := fun j hj => (hM.g (fun j => Own L j ∧ kf L j ∈ C) ⟨fun q j' hq he _ => by
  obtain rfl : q = 0 := by simpa using hq
  have he' : Zbi L a b j' := he
  obtain ⟨o1, o2⟩ := ZfZ he'
  exact ⟨o1, by rw [o2]; exact hs⟩, fun j q j' ⟨h1, h2⟩ hq he hy => ⟨(ZfZ he).1, hc j h1 h2 q hq j' he hy⟩⟩ j hj).2
 have hO : ∀ x ∈ O, ∃ j : Nat, x = (j : Int) ∧ Own L j := hM.o
 refine Nat.le_antisymm ?_ ?_
 ·have := ZnU (m := O.map fun x => kf L x.toNat) hu (fun x hx => by
   obtain ⟨j, h1, h2⟩ := hD x hx
   exact List.mem_map.2 ⟨_, h1, h2.symm⟩)
  rw [List.length_map] at this
  exact this
 ·have hn : (O.map fun x => kf L x.toNat).Nodup := by
   have : ∀ l : List Int, (∀ x ∈ l, x ∈ O) → l.Nodup → (l.map fun x => kf L x.toNat).Nodup := by
    intro l
    induction l with
    | nil => intro _ _; exact List.nodup_nil
    | cons x l ih =>
     intro h1 h2
     obtain ⟨h3, h4⟩ := List.nodup_cons.1 h2
     rw [List.map_cons, List.nodup_cons]
     refine ⟨fun hx => ?_, ih (fun y hy => h1 y (by simp [hy])) h4⟩
     obtain ⟨y, hy, e⟩ := List.mem_map.1 hx
     obtain ⟨i, rfl, hi⟩ := hO x (h1 x (by simp))
     obtain ⟨k, rfl, hk⟩ := hO y (h1 y (by simp [hy]))
     obtain rfl : k = i := Zo2 hk hi e
     exact h3 hy
   exact this O (fun x hx => hx) hM.u
  have := ZnU hn (m := C) (fun x hx => by
   obtain ⟨y, hy, rfl⟩ := List.mem_map.1 hx
   obtain ⟨i, rfl, hi⟩ := hO y hy
   exact hT i hy)
  rw [List.length_map] at this
  exact this
end
end Pg
namespace Pn
open Pg
set_option linter.unusedVariables false
set_option linter.unusedSimpArgs false
def ad (sz : Nat → Nat) : Nat → Nat
 | 0 => 0
 | k + 1 => ad sz k + sz k + 1
def rr (sz : Nat → Nat) (k : Nat) : Int := 1048577 + (ad sz k : Int)
def msk (k : Nat) : Int := if k = 0 then 255 else 1
def own (k : Nat) : Int := if k = 0 then 0 else 1
def bit (k j : Nat) : Prop := msk k / 2 ^ j % 2 = 1
instance (k j : Nat) : Decidable (bit k j) := by unfold bit; infer_instance
abbrev zz : RH := RH.z
abbrev zh : RJ := RJ.z
variable {sz : Nat → Nat} {n k : Nat} {H : List RJ} {V : List RH} {N : Nat}
theorem Zmo {j : Nat} : ∀ {k : Nat}, j < k → ad sz j + sz j + 1 ≤ ad sz k
 | 0, h => by omega
 | k + 1, h => by
  by_cases e : j = k
  ·subst e; exact Nat.le_refl _
  ·have := Zmo (show j < k by omega)
   simp only [ad]; omega
theorem ZtN {j k : Nat} (h : ad sz j = ad sz k) : j = k := by
 rcases Nat.lt_trichotomy j k with e | e | e
 ·have := Zmo (sz := sz) e; omega
 ·exact e
 ·have := Zmo (sz := sz) e; omega
theorem Zw1 {j k : Nat} (h : rr sz j = rr sz k) : j = k := ZtN (sz := sz) (by unfold rr at h; omega)
structure Mem (sz : Nat → Nat) (n : Nat) (H : List RJ) (V : List RH) : Prop where
 n1 : 1 ≤ n
 n8 : n ≤ 31
 s0 : sz 0 = 16
 s : ∀ k, 1 ≤ k → k < n → 1 ≤ sz k ∧ sz k ≤ 3
 hl : H.length = ad sz n
 vl : V.length = ad sz n
 obj : ∀ k, k < n → ∃ s, (s = 1 ∨ s = 2) ∧ (k = 0 → s = 2) ∧ H.getD (ad sz k) zh = ⟨1, sz k, msk k, s, own k⟩
 fld : ∀ k, k < n → ∀ j, j < sz k → ∃ a x, V.getD (ad sz k + 1 + j) zz = ⟨a, x⟩ ∧ (bit k j → a = 2 ∧ (x = 0 ∨ ∃ m, m < n ∧ x = rr sz m)) ∧ (¬ bit k j → a = 1)
def stt (sz : Nat → Nat) (H : List RJ) (k : Nat) : Int := (H.getD (ad sz k) zh).a3
theorem Zvf (h0 : sz 0 = 16) : ∀ n, 1 ≤ n → (∀ k, 1 ≤ k → k < n → 1 ≤ sz k ∧ sz k ≤ 3) → ad sz n ≤ 13 + 4 * n
 | 0, h, _ => by omega
 | 1, _, _ => by simp only [ad, h0]; omega
 | n + 2, _, hs => by
  have := Zvf h0 (n + 1) (by omega) (fun k h1 h2 => hs k h1 (by omega))
  have := hs (n + 1) (by omega) (by omega)
  rw [ad]; omega
theorem Mem.al (m : Mem sz n H V) : ad sz n ≤ 137 := by
 have := Zvf m.s0 n m.n1 m.s
 have := m.n8
 omega
theorem Mem.ak (m : Mem sz n H V) (h : k < n) : ad sz k + sz k + 1 ≤ ad sz n ∧ ad sz n ≤ 137 := ⟨Zmo h, m.al⟩
theorem Mem.sk (m : Mem sz n H V) (h : k < n) : 1 ≤ sz k ∧ sz k ≤ 16 := by
 by_cases e : k = 0
 ·subst e; rw [m.s0]; omega
 ·have := m.s k (by omega) h; omega
theorem Mem.obj' (m : Mem sz n H V) (h : k < n) : H.getD (ad sz k) zh = ⟨1, sz k, msk k, stt sz H k, own k⟩ ∧ (stt sz H k = 1 ∨ stt sz H k = 2) ∧ (k = 0 → stt sz H k = 2) := by
 obtain ⟨s, h1, h2, h3⟩ := m.obj k h
 have e : stt sz H k = s := by unfold stt; rw [h3]
 rw [e]; exact ⟨h3, h1, h2⟩
theorem ZkB (m : Mem sz n H V) (h : k < n) : rr sz k / 1048576 = 1 ∧ rr sz k % 1048576 = (ad sz k : Int) + 1 ∧ (rr sz k % 1048576 - 1).toNat = ad sz k ∧ ¬ rr sz k = 0 ∧ 0 < rr sz k ∧ rr sz k ≤ 1114111 := by
 have := m.ak h
 unfold rr; omega
theorem Zc3 (m : Mem sz n H V) (h : k < n) : ZZ 2 (rr sz k) 300 H V N = some (.r0 1 (sz k) (msk k) (stt sz H k) (own k) true) := by
 have hl := m.hl
 obtain ⟨r1, r2, r3, r4, r5, _⟩ := ZkB m h
 have := m.ak h
 obtain ⟨e, es, _⟩ := m.obj' h
 unfold ZZ
 rw [r3, e, r1, r2]
 exact Za (by decide) <| Zd (by decide) <| Za r4 <| Za r5 <| Za (by decide) <| Za (by decide) <| Za (by decide) <| Za (by omega) <| Zd (by omega) <| Zd (fun q => q rfl) <| Zd (by show ¬ stt sz H k = 0; omega) rfl
theorem Zo3 {a x : Int} (h : ¬ a = 2 ∨ x = 0) : ZZ a x 300 H V N = some (.r0 0 0 0 0 0 false) := by
 unfold ZZ
 by_cases e : a = 2
 ·exact Za (by decide) <| Zd (fun q => q e) <| Zd (by omega) rfl
 ·exact Za (by decide) <| Za e rfl
theorem ZqJ {f : Int} : Zr 2 0 f 300 H V N = some (.r0 0 0 11) := by
 unfold Zr
 exact Za (by decide) <| Zd (by decide) <| Zd (by decide) rfl
theorem ZjY (m : Mem sz n H V) (h : k < n) {f : Nat} (hf : f < sz k) : Zr 2 (rr sz k) (f : Int) 300 H V N = some (.r0 (V.getD (ad sz k + 1 + f) zz).a0 (V.getD (ad sz k + 1 + f) zz).a1 0) := by
 have hl := m.hl
 have vl := m.vl
 obtain ⟨r1, r2, r3, r4, r5, _⟩ := ZkB m h
 have := m.ak h
 have := m.sk h
 obtain ⟨e, es, _⟩ := m.obj' h
 have ew : IntKind.i64.wrap ((ad sz k : Int) + 1 + f) = ((ad sz k + 1 + f : Nat) : Int) := (w64 (by omega) (by omega)).trans (by omega)
 have et : (((ad sz k + 1 + f : Nat) : Int)).toNat = ad sz k + 1 + f := by omega
 unfold Zr
 rw [r3, e, r1, r2, ew, et]
 exact Za (by decide) <| Zd (by decide) <| Za r4 <| Za r5 <| Za (by decide) <| Za (by decide) <| Za (by decide) <| Za (by omega) <| Zd (by omega) <| Zd (fun q => q rfl) <| Zd (by show ¬ stt sz H k = 0; omega) <| Zd (by omega) <| Zd (by show ¬ ((sz k : Nat) : Int) ≤ f; omega) <| Za (by omega) <| Za (by omega) rfl
theorem Znj (m : Mem sz n H V) (h : k < n) {f : Int} (hf : f < 0 ∨ (sz k : Int) ≤ f) : Zr 2 (rr sz k) f 300 H V N = some (.r0 0 0 22) := by
 have hl := m.hl
 obtain ⟨r1, r2, r3, r4, r5, _⟩ := ZkB m h
 have := m.ak h
 obtain ⟨e, es, _⟩ := m.obj' h
 unfold Zr
 rw [r3, e, r1, r2]
 refine Za (by decide) <| Zd (by decide) <| Za r4 <| Za r5 <| Za (by decide) <| Za (by decide) <| Za (by decide) <| Za (by omega) <| Zd (by omega) <| Zd (fun q => q rfl) <| Zd (by show ¬ stt sz H k = 0; omega) ?_
 by_cases e1 : f < 0
 ·exact Za e1 rfl
 ·exact Zd e1 (Za (by show ((sz k : Nat) : Int) ≤ f; omega) rfl)
def Vl (sz : Nat → Nat) (n : Nat) (a x : Int) : Prop := a = 1 ∨ a = 2 ∧ ∃ m, m < n ∧ x = rr sz m
theorem Zpc (m : Mem sz n H V) (h : k < n) {f : Nat} (hf : f < sz k) {a x : Int} (hv : Vl sz n a x) : Zah 2 (rr sz k) (f : Int) a x 300 H V N = if (a = 2 ↔ bit k f) then some (.r0 (V.set (ad sz k + 1 + f) ⟨a, x⟩) 0) else some (.r0 V 10) := by
 have hl := m.hl
 have vl := m.vl
 obtain ⟨r1, r2, r3, r4, r5, _⟩ := ZkB m h
 have := m.ak h
 have := m.sk h
 obtain ⟨e, es, _⟩ := m.obj' h
 have et : ((ad sz k : Int) + 1 + (f : Int)).toNat = ad sz k + 1 + f := by omega
 have e2 : ((f : Int)).toNat = f := rfl
 unfold Zah
 rw [r3, e, r1, r2, et, e2]
 refine Za (by decide) <| Zd (by decide) <| Za r4 <| Za r5 <| Za (by decide) <| Za (by decide) <| Za (by decide) <| Za (by omega) <| Zd (by omega) <| Zd (fun q => q rfl) <| Zd (by show ¬ stt sz H k = 0; omega) <| Zd (by omega) <| Zd (by show ¬ ((sz k : Nat) : Int) ≤ f; omega) <| Za (by omega) ?_
 rcases hv with rfl | ⟨rfl, j, hj, rfl⟩
 ·by_cases b : bit k f
  ·exact (Za b <| Zd (by decide) rfl).trans (if_neg (fun q => absurd (q.2 b) (by decide))).symm
  ·exact (Zd b <| Zd (by decide) <| Za (by decide) <| Za (by omega) rfl).trans (if_pos ⟨fun q => absurd q (by decide), fun q => absurd q b⟩).symm
 ·obtain ⟨q1, q2, q3, q4, q5, _⟩ := ZkB m hj
  by_cases b : bit k f
  ·exact (Za b <| Za (by decide) <| Za q4 <| Za q5 <| Za (by omega) <| Za (by omega) <| Za (by omega) <| Za (by omega) <| Za (by omega) rfl).trans (if_pos ⟨fun _ => b, fun _ => rfl⟩).symm
  ·exact (Zd b <| Za (by decide) <| Za q4 <| Za q5 <| Za (by omega) <| Za (by omega) <| Za (by omega) <| Za (by omega) rfl).trans (if_neg (fun q => b (q.1 rfl))).symm
end Pn
end Ev
end Go.Proofs.YtiijipocjellpaaGreat
namespace Go.Proofs.YtiijipocjellpaaGreat
open Go.IntKind (i64)
open Go.RowKit
namespace Ev
namespace Pn
open Pg
set_option linter.unusedVariables false
set_option linter.unusedSimpArgs false
variable {sz : Nat → Nat} {n k : Nat} {H : List RJ} {V : List RH} {N : Nat}
def shr (sz : Nat → Nat) (H : List RJ) (k : Nat) : List RJ := if stt sz H k = 1 then H.set (ad sz k) ⟨1, sz k, msk k, 2, own k⟩ else H
theorem ZtO (m : Mem sz n H V) (h : k < n) : ZbG 2 (rr sz k) 300 H V N = some (.r0 (shr sz H k) 0) := by
 have hl := m.hl
 obtain ⟨r1, r2, r3, r4, r5, _⟩ := ZkB m h
 have := m.ak h
 obtain ⟨e, es, _⟩ := m.obj' h
 unfold ZbG shr
 rw [r3, e, r1, r2]
 refine Za (by decide) <| Zd (by decide) <| Za r4 <| Za r5 <| Za (by decide) <| Za (by decide) <| Za (by decide) <| Za (by omega) <| Zd (by omega) <| Zd (fun q => q rfl) <| Zd (by show ¬ stt sz H k = 0; omega) ?_
 by_cases hs : stt sz H k = 1
 ·simp only [if_pos hs]
 ·simp only [if_neg hs]
theorem Mem.shr (m : Mem sz n H V) (h : k < n) : Mem sz n (shr sz H k) V ∧ (∀ j, j < n → stt sz (Pn.shr sz H k) j = if j = k then 2 else stt sz H j) := by
 have hl := m.hl
 have ha := m.ak h
 obtain ⟨e, es, _⟩ := m.obj' h
 unfold Pn.shr
 by_cases hs : stt sz H k = 1
 ·rw [if_pos hs]
  have g : ∀ j, j < n → (H.set (ad sz k) ⟨1, sz k, msk k, 2, own k⟩).getD (ad sz j) zh = if j = k then ⟨1, sz k, msk k, 2, own k⟩ else H.getD (ad sz j) zh := fun j hj => by
   rw [Zk9 (by omega)]
   by_cases e : j = k
   ·subst e; rw [if_pos rfl, if_pos rfl]
   ·rw [if_neg (fun q => e (ZtN q)), if_neg e]
  refine ⟨⟨m.n1, m.n8, m.s0, m.s, by rw [List.length_set]; exact m.hl, m.vl, fun j hj => ?_, m.fld⟩, fun j hj => ?_⟩
  ·rw [g j hj]
   by_cases ej : j = k
   ·subst ej; exact ⟨2, .inr rfl, fun _ => rfl, if_pos rfl⟩
   ·obtain ⟨s, h1, h2, h3⟩ := m.obj j hj
    exact ⟨s, h1, h2, (if_neg ej).trans h3⟩
  ·unfold stt
   rw [g j hj]
   by_cases ej : j = k
   ·rw [if_pos ej, if_pos ej]
   ·rw [if_neg ej, if_neg ej]
 ·rw [if_neg hs]
  refine ⟨m, fun j hj => ?_⟩
  by_cases ej : j = k
  ·subst ej; rw [if_pos rfl]; omega
  ·rw [if_neg ej]
theorem Mem.store (m : Mem sz n H V) (h : k < n) {f : Nat} (hf : f < sz k) {a x : Int} (hv : Vl sz n a x) (hb : a = 2 ↔ bit k f) : Mem sz n H (V.set (ad sz k + 1 + f) ⟨a, x⟩) := by
 have vl := m.vl
 have ha := m.ak h
 refine ⟨m.n1, m.n8, m.s0, m.s, m.hl, by rw [List.length_set]; exact m.vl, m.obj, fun i hi q hq => ?_⟩
 rw [Zk9 (by omega)]
 by_cases e : ad sz i + 1 + q = ad sz k + 1 + f
 ·obtain rfl : i = k := by
   rcases Nat.lt_trichotomy i k with c | c | c
   ·have := Zmo (sz := sz) c; omega
   ·exact c
   ·have := Zmo (sz := sz) c; omega
  obtain rfl : q = f := by omega
  refine ⟨a, x, if_pos e, fun b => ⟨hb.2 b, .inr ?_⟩, fun b => ?_⟩
  ·rcases hv with rfl | ⟨_, hv⟩
   ·exact absurd (hb.2 b) (by decide)
   ·exact hv
  ·rcases hv with rfl | ⟨rfl, hv⟩
   ·rfl
   ·exact absurd (hb.1 rfl) b
 ·obtain ⟨a', x', h1, h2⟩ := m.fld i hi q hq
  exact ⟨a', x', (if_neg e).trans h1, h2⟩
def upd (sz : Nat → Nat) (n f : Nat) : Nat → Nat := fun k => if k = n then f else sz k
theorem Zi1 {f : Nat} : ∀ k, k ≤ n → ad (upd sz n f) k = ad sz k
 | 0, _ => rfl
 | k + 1, h => by
  have := Zi1 (f := f) k (by omega)
  simp only [ad, this]
  unfold upd
  rw [if_neg (by omega)]
theorem ZqK {f : Nat} (h : k ≤ n) : rr (upd sz n f) k = rr sz k := by unfold rr; rw [Zi1 k h]
theorem Mem.new (m : Mem sz n H V) (h : n < 31) {f : Nat} (f1 : 1 ≤ f) (f3 : f ≤ 3) {H' : List RJ} {V' : List RH} (hl : H'.length = ad sz n + f + 1) (vl : V'.length = ad sz n + f + 1)
  (gh : ∀ i, i < ad sz n → H'.getD i zh = H.getD i zh) (gn : H'.getD (ad sz n) zh = ⟨1, (f : Int), 1, 1, 1⟩) (gv : ∀ i, i < ad sz n → V'.getD i zz = V.getD i zz) (g0 : V'.getD (ad sz n + 1) zz = ⟨2, 0⟩) (g1 : ∀ q, 1 ≤ q → q < f → V'.getD (ad sz n + 1 + q) zz = ⟨1, 0⟩) :
  Mem (upd sz n f) (n + 1) H' V' := by
 have n1 := m.n1
 have hn : ad (upd sz n f) (n + 1) = ad sz n + f + 1 := by
  simp only [ad, Zi1 n (Nat.le_refl n)]
  unfold upd
  rw [if_pos rfl]
 have us : ∀ k, k < n → upd sz n f k = sz k := fun k hk => by unfold upd; rw [if_neg (by omega)]
 have un : upd sz n f n = f := by unfold upd; rw [if_pos rfl]
 refine ⟨by omega, by omega, by rw [us 0 (by omega)]; exact m.s0, fun k h1 h2 => ?_, by rw [hn]; exact hl, by rw [hn]; exact vl, fun k hk => ?_, fun k hk j hj => ?_⟩
 ·by_cases e : k = n
  ·subst e; rw [un]; exact ⟨f1, f3⟩
  ·rw [us k (by omega)]; exact m.s k h1 (by omega)
 ·by_cases e : k = n
  ·subst e
   refine ⟨1, .inl rfl, fun q => by omega, ?_⟩
   rw [Zi1 k (Nat.le_refl k), un, gn]
   unfold msk own
   rw [if_neg (by omega), if_neg (by omega)]
  ·obtain ⟨s, h1, h2, h3⟩ := m.obj k (by omega)
   refine ⟨s, h1, h2, ?_⟩
   have := m.ak (show k < n by omega)
   rw [Zi1 k (by omega), us k (by omega), gh _ (by omega)]
   exact h3
 ·by_cases e : k = n
  ·subst e
   rw [un] at hj
   rw [Zi1 k (Nat.le_refl k)]
   have hb : bit k j ↔ j = 0 := by
    unfold bit msk
    rw [if_neg (by omega)]
    rcases (by omega : j = 0 ∨ j = 1 ∨ j = 2) with rfl | rfl | rfl <;> decide
   by_cases ej : j = 0
   ·subst ej
    exact ⟨2, 0, g0, fun _ => ⟨rfl, .inl rfl⟩, fun b => absurd (hb.2 rfl) b⟩
   ·exact ⟨1, 0, g1 j (by omega) hj, fun b => absurd (hb.1 b) ej, fun _ => rfl⟩
  ·rw [us k (by omega)] at hj
   obtain ⟨a, x, h1, h2, h3⟩ := m.fld k (by omega) j hj
   have := m.ak (show k < n by omega)
   refine ⟨a, x, by rw [Zi1 k (by omega), gv _ (by omega)]; exact h1, fun b => ⟨(h2 b).1, (h2 b).2.imp id fun ⟨p, c1, c2⟩ => ⟨p, by omega, by rw [ZqK (by omega)]; exact c2⟩⟩, h3⟩
def obk (sz : Nat → Nat) (H : List RJ) (V : List RH) (k : Nat) : Pg.Ob := ⟨2, rr sz k, 1, sz k, msk k, stt sz H k, own k, (V.drop (ad sz k + 1)).take (sz k)⟩
def Zbx (sz : Nat → Nat) (H : List RJ) (V : List RH) (n : Nat) : List Pg.Ob := (List.range n).map (obk sz H V)
theorem ZeY : (Zbx sz H V n).length = n := by simp [Zbx]
theorem ZtP (k : Nat) : Zbx sz H V k ++ [obk sz H V k] = Zbx sz H V (k + 1) := by simp [Zbx, List.range_succ]
theorem Zvg (m : Mem sz n H V) (h : k < n) : Zcn 1 ((ad sz k : Int) + 1) N = some .r0 := by
 have := m.ak h
 unfold Zcn
 exact Za (by decide) <| Za (by decide) <| Za (by omega) <| Za (by omega) rfl
theorem Zvh : (1 : Int) * 1048576 + ((ad sz k : Int) + 1) = rr sz k := by unfold rr; omega
theorem Zvi (m : Mem sz n H V) (h : k < n) : Zaa V (ad sz k + 1) (sz k) (V.length - (ad sz k + 1)) N = some .r0 := by
 have vl := m.vl
 have := m.ak h
 unfold Zaa
 exact Za (by omega) (Za (by omega) rfl)
theorem Zvj (m : Mem sz n H V) (h : k < n) : i64.wrap ((sz k : Int) + 1) = (sz k : Int) + 1 ∧ i64.wrap ((ad sz k : Int) + 1 + ((sz k : Int) + 1)) = (ad sz (k + 1) : Int) + 1 ∧ i64.wrap ((ad sz k : Int) + 1 + (sz k : Int)) = ((ad sz k + 1 + sz k : Nat) : Int) := by
 have := m.ak h
 have e : ad sz (k + 1) = ad sz k + sz k + 1 := rfl
 exact ⟨w64 (by omega) (by omega), (w64 (by omega) (by omega)).trans (by omega), (w64 (by omega) (by omega)).trans (by omega)⟩
theorem Zw2 (m : Mem sz n H V) : ∀ d k f, k + d = n → d < f → Zaw (ZaV 300 H V N) f (.h1m1 ((ad sz k : Int) + 1) (Zbx sz H V k)) = some (.r1 (Zbx sz H V n)) := by
 have hl := m.hl
 have vl := m.vl
 have al := m.al
 have n8 := m.n8
 intro d
 induction d with
 | zero =>
  intro k f hk hf
  obtain ⟨f, rfl⟩ : ∃ j, f = j + 1 := ⟨f - 1, by omega⟩
  obtain rfl : k = n := by omega
  refine Zam ?_
  show ZaP 300 H V N _ _ = _
  unfold ZaP
  exact Za (by omega) (Za (by omega) (Zd (by omega) rfl))
 | succ d ih =>
  intro k f hk hf
  obtain ⟨f, rfl⟩ : ∃ j, f = j + 1 := ⟨f - 1, by omega⟩
  have hkn : k < n := by omega
  obtain ⟨e, es, _⟩ := m.obj' hkn
  have ha := m.ak hkn
  obtain ⟨w1, w2, w3⟩ := Zvj m hkn
  refine (ZL ?_).trans (ih (k + 1) f (by omega) (by omega))
  show ZaP 300 H V N _ _ = _
  unfold ZaP
  rw [show ((ad sz k : Int) + 1 - 1).toNat = ad sz k by omega, e]
  have t1 : ((ad sz k : Int) + 1).toNat = ad sz k + 1 := by omega
  have t2 : (((ad sz k + 1 + sz k : Nat) : Int)).toNat - (ad sz k + 1) = sz k := by omega
  refine Za (by omega) <| Za (by omega) <| Za (by omega) <| Zd (by show ¬ stt sz H k = 0; omega) <| Zi (Zvg m hkn) ?_
  show (if (ad sz k : Int) + 1 ≤ i64.wrap ((ad sz k : Int) + 1 + (sz k : Int)) then _ else _) = _
  rw [w3]
  refine Za (by omega) <| Za (by omega) ?_
  rw [t1, t2]
  refine Zi (Zvi m hkn) (Za (by rw [ZeY]; omega) ?_)
  show some (Sum.inl (heap_Heap_ObjectsX.h1m1 (i64.wrap ((ad sz k : Int) + 1 + i64.wrap ((sz k : Int) + 1))) (Zbx sz H V k ++ [⟨2, (1 : Int) * 1048576 + ((ad sz k : Int) + 1), 1, sz k, msk k, stt sz H k, own k, (V.drop (ad sz k + 1)).take (sz k)⟩]))) = _
  rw [w1, w2, Zvh, ← ZtP]
  rfl
theorem Zsa (m : Mem sz n H V) (hN : 100 ≤ N) : ZaE 300 H V N = some (.r1 (Zbx sz H V n)) := by
 have hl := m.hl
 have vl := m.vl
 have n8 := m.n8
 have n1 := m.n1
 obtain ⟨f, rfl⟩ : ∃ j, N = j + 1 := ⟨N - 1, by omega⟩
 have hkn : 0 < n := by omega
 obtain ⟨e, es, _⟩ := m.obj' hkn
 have ha := m.ak hkn
 obtain ⟨w1, w2, w3⟩ := Zvj m hkn
 have a0 : ad sz 0 = 0 := rfl
 refine (ZdU (x := heap_Heap_ObjectsX.h1m0 1) (by unfold Ze2; exact Za (by decide) rfl)).trans ((ZL (y := .h1m1 ((ad sz 1 : Int) + 1) (Zbx sz H V 1)) ?_).trans (Zw2 m (n - 1) 1 f (by omega) (by omega)))
 show ZbO 300 H V (f + 1) ((ad sz 0 : Int) + 1) = _
 unfold ZbO
 rw [show ((ad sz 0 : Int) + 1 - 1).toNat = ad sz 0 by omega, e]
 have t1 : ((ad sz 0 : Int) + 1).toNat = ad sz 0 + 1 := by omega
 have t2 : (((ad sz 0 + 1 + sz 0 : Nat) : Int)).toNat - (ad sz 0 + 1) = sz 0 := by omega
 refine Za (by omega) <| Za (by omega) <| Za (by omega) <| Zd (by show ¬ stt sz H 0 = 0; omega) <| Zi (Zvg m hkn) ?_
 show (if (ad sz 0 : Int) + 1 ≤ i64.wrap ((ad sz 0 : Int) + 1 + (sz 0 : Int)) then _ else _) = _
 rw [w3]
 refine Za (by omega) <| Za (by omega) ?_
 rw [t1, t2]
 refine Zi (Zvi m hkn) ?_
 show some (Sum.inl (heap_Heap_ObjectsX.h1m1 (i64.wrap ((ad sz 0 : Int) + 1 + i64.wrap ((sz 0 : Int) + 1))) [⟨2, (1 : Int) * 1048576 + ((ad sz 0 : Int) + 1), 1, sz 0, msk 0, stt sz H 0, own 0, (V.drop (ad sz 0 + 1)).take (sz 0)⟩])) = _
 rw [w1, w2, Zvh]
 rfl
theorem obS (h : k < n) : ob (Zbx sz H V n) k = obk sz H V k := by simp [ob, Zbx, h]
theorem Zw3 {j : Nat} (h : n ≤ j) : ob (Zbx sz H V n) j = RL.z := by
 unfold ob; exact Zr2 (by rw [ZeY]; omega)
theorem ZqL (m : Mem sz n H V) (j : Nat) : (ob (Zbx sz H V n) j).a7.length ≤ 16 ∧ (0 < j → (ob (Zbx sz H V n) j).a7.length ≤ 3) ∧ (j < n → (ob (Zbx sz H V n) j).a7.length ≤ sz j) := by
 by_cases h : j < n
 ·rw [obS h]
  have := m.sk h
  have hk : (obk sz H V j).a7.length ≤ sz j := by simp only [obk, List.length_take]; omega
  refine ⟨by omega, fun h0 => ?_, fun _ => hk⟩
  have := m.s j h0 h
  omega
 ·rw [Zw3 (by omega)]
  exact ⟨by simp [RL.z], fun _ => by simp [RL.z], fun q => absurd q h⟩
theorem ZtQ (m : Mem sz n H V) : ∀ j, Zch (Zbx sz H V n) [] (j + 1) ≤ 18 + 5 * j
 | 0 => by
  have := (ZqL m 0).1
  simp only [Zch, List.not_mem_nil, if_false]; omega
 | j + 1 => by
  have ih := ZtQ m j
  have := (ZqL m (j + 1)).2.1 (by omega)
  rw [Zch]
  simp only [List.not_mem_nil, if_false]; omega
theorem ZqM (h : k < n) : Zbi (Zbx sz H V n) 2 (rr sz k) k := by
 have e0 : ¬ rr sz k = 0 := by unfold rr; omega
 refine ⟨⟨rfl, e0⟩, by rw [ZeY]; omega, ?_, fun q hq => ?_⟩
 ·have : (Zbx sz H V n).getD k RL.z = obk sz H V k := obS h
  unfold Zdr; rw [this]; exact ⟨rfl, rfl⟩
 ·intro e
  have := e.2
  rw [show (Zbx sz H V n).getD q RL.z = obk sz H V q from obS (by omega)] at this
  have := Zw1 (sz := sz) (show rr sz q = rr sz k from this)
  omega
def rfk (sz : Nat → Nat) (k : Nat) : RH := ⟨2, rr sz k⟩
theorem clos (m : Mem sz n H V) {s : Nat} (hs : s < n) (hp : stt sz H s = 1) : ∃ ks : List Nat, ks ≠ [] ∧ ks.length ≤ 31 ∧ (∀ k ∈ ks, k < n) ∧ Za9 (Zbx sz H V n) 2 (rr sz s) 100000 = some (.r1 (ks.map (rfk sz))) ∧
  ∃ C, Zal (Zbx sz H V n) 2 (rr sz s) 100000 = some (.r1 C) ∧ C.length = ks.length := by
 have n8 := m.n8
 have n1 := m.n1
 have hF : ∀ j, (ob (Zbx sz H V n) j).a7.length ≤ 1000 := fun j => by have := (ZqL m j).1; omega
 obtain ⟨O, hO, hc⟩ := ZvP (L := Zbx sz H V n) (by rw [ZeY]; omega) hF (by rw [ZeY]; have := ZtQ m (n - 1); rw [show n - 1 + 1 = n by omega] at this; omega) 2 (rr sz s)
 have hT : ∀ j : Nat, (j : Int) ∈ O → j < n := fun j hj => by
  obtain ⟨i, e1, e2⟩ := hO.o _ hj
  obtain rfl : j = i := by omega
  have := e2.2.1
  rw [ZeY] at this
  exact this
 have hst : (s : Int) ∈ O := hO.r 0 (by simp) s (ZqM hs) (by rw [obS hs]; exact hp)
 have hne : O ≠ [] := fun e => by rw [e] at hst; cases hst
 have hx : ∀ x ∈ O, ∃ k : Nat, k < n ∧ x = (k : Int) := fun x hx => by
  obtain ⟨j, e, _⟩ := hO.o x hx
  subst e
  exact ⟨j, hT j hx, rfl⟩
 have hr : rf (Zbx sz H V n) O = (O.map fun x => x.toNat).map (rfk sz) := by
  unfold rf
  rw [List.map_map]
  refine List.map_congr_left fun x h => ?_
  obtain ⟨k, hk, rfl⟩ := hx x h
  show (⟨(ob (Zbx sz H V n) k).a0, (ob (Zbx sz H V n) k).a1⟩ : RH) = rfk sz k
  rw [obS hk]
  rfl
 have hlen : O.length ≤ 31 := by
  have := ZnU (m := (List.range n).map fun (k : Nat) => (k : Int)) hO.u (fun x h => by
   obtain ⟨k, hk, rfl⟩ := hx x h
   exact List.mem_map.2 ⟨k, List.mem_range.2 hk, rfl⟩)
  simp at this
  omega
 refine ⟨O.map fun x => x.toNat, by simpa using hne, by rw [List.length_map]; exact hlen, fun k hk => ?_, ?_, ?_⟩
 ·obtain ⟨x, h1, rfl⟩ := List.mem_map.1 hk
  obtain ⟨i, hi, rfl⟩ := hx x h1
  exact hi
 ·rcases hc with ⟨e, _⟩ | ⟨_, e⟩
  ·exact absurd e hne
  ·rw [e, hr]
 ·obtain ⟨C, h1, h2, h3, h4, h5⟩ := dclos (L := Zbx sz H V n) (O := O) (N := 100000) (by rw [ZeY]; omega) (by decide) (fun j hj q hq j' h4 h5 => hO.c j hj q hq j' h4 h5) hF (ZqM hs) (by rw [obS hs]; exact hp) hst
  exact ⟨C, h1, by rw [lens hO h2 h3 h4 h5, List.length_map]⟩
theorem Zvk (m : Mem sz n H V) {a x : Int} (hv : a = 1 ∨ ∃ j, j < n ∧ x = rr sz j ∧ stt sz H j = 2) : Zal (Zbx sz H V n) a x 100000 = some .r0 := by
 have n8 := m.n8
 refine Zw0 (by rw [ZeY]; omega) (by decide) (fun j he hp => ?_)
 rcases hv with rfl | ⟨i, hi, rfl, hs⟩
 ·exact absurd he.1.1 (by decide)
 ·have : a = 2 := he.1.1
  subst this
  obtain rfl : j = i := Zfm he (ZqM hi)
  have hp' : (ob (Zbx sz H V n) j).a5 = 1 := hp
  rw [obS hi] at hp'
  have hp'' : stt sz H j = 1 := hp'
  omega
end Pn
end Ev
end Go.Proofs.YtiijipocjellpaaGreat
namespace Go.Proofs.YtiijipocjellpaaGreat
open Go.RowKit
namespace Ev
namespace Pn
open Pg
set_option linter.unusedVariables false
set_option linter.unusedSimpArgs false
variable {b : Int} {W K : List Int} {c v : Int} {i : Nat} {N : Nat}
structure Tb (b : Int) (W K : List Int) (c : Int) : Prop where
 wl : W.length = 5
 kl : K.length = 5
 w : ∀ i, i < 5 → 0 ≤ W.getD i 0 ∧ W.getD i 0 % 4 = 0 ∧ W.getD i 0 / 4 ≤ b
 k : ∀ i, i < 5 → 0 ≤ K.getD i 0 ∧ K.getD i 0 ≤ b
 c0 : 0 ≤ c
 cb : c ≤ b
 b1 : b ≤ 100
theorem tn (i : Nat) : (i : Int).toNat = i := rfl
theorem at_v (h : Tb b W K c) (hi : i < 5) : ZaU (i : Int) W K N = some (.r0 0 (W.getD i 0 / 4) (K.getD i 0)) := by
 have wl := h.wl
 have kl := h.kl
 have b1 := h.b1
 obtain ⟨w0, w1, w2⟩ := h.w i hi
 unfold ZaU
 simp only [tn, w1]
 exact Za (by omega) <| Za (by omega) <| Za (by omega) <| Zd (by omega) <| Za (by omega) <| Za trivial <| Za (by omega) <| Za (by omega) rfl
theorem Zw4 (h : Tb b W K c) (hi : i < 5) : ZbH (i : Int) (W.getD i 0 / 4) 2 1 0 W K N = some (.r0 (W.set i 6) (K.set i (K.getD i 0 + 1)) true) := by
 have wl := h.wl
 have kl := h.kl
 have b1 := h.b1
 obtain ⟨w0, w1, w2⟩ := h.w i hi
 obtain ⟨k0, k1⟩ := h.k i hi
 have hk : IntKind.i64.wrap (K.getD i 0 + 1) = K.getD i 0 + 1 := w64 (by omega) (by omega)
 unfold ZbH
 simp only [tn, hk]
 exact Za (by omega) <| Za (by omega) <| Za (by omega) <| Za (by omega) <| Za (by omega) <| Zd (by decide) <| Zd (by decide) <| Za (by decide) <| Za (by decide) <| Za (by decide) <| Za (by decide) <| Za (by omega) <| Za (by omega) rfl
theorem let_v (h : Tb b W K c) (hi : i < 5) (hv : 0 ≤ v) (hv2 : v ≤ 1000) {K' : List Int} (hk : K'.length = 5) : Zcd (i : Int) v (W.set i 6) K' N = some (.r0 (W.set i (4 * v)) 0) := by
 have wl := h.wl
 have sl : (W.set i 6).length = 5 := by rw [List.length_set]; exact wl
 have g : (W.set i 6).getD i 0 = 6 := Zbh (by omega)
 have ha : ZaU (i : Int) (W.set i 6) K' N = some (.r0 2 1 (K'.getD i 0)) := by
  unfold ZaU
  simp only [tn, g]
  exact Za (by omega) <| Za (by omega) <| Za (by omega) <| Zd (by decide) <| Za (by decide) <| Zd (by decide) <| Zd (by decide) <| Za (by decide) <| Za (by decide) <| Za (by omega) rfl
 unfold Zcd
 simp only [tn, List.set_set]
 exact Za (by omega) <| Za (by omega) <| Za (by omega) <| Za (by omega) <| Za (by omega) <| Zi ha <| Zd (show ¬ (2 : Int) = 0 by decide) rfl
theorem Tb.done (h : Tb b W K c) (hi : i < 5) (hb : b ≤ 99) {c' : Int} (hv : 0 ≤ v) (hv2 : v ≤ b + 1) (hc : 0 ≤ c') (hc2 : c' ≤ b + 1) : Tb (b + 1) (W.set i (4 * v)) (K.set i (K.getD i 0 + 1)) c' := by
 have wl := h.wl
 have kl := h.kl
 refine ⟨by rw [List.length_set]; exact wl, by rw [List.length_set]; exact kl, fun j hj => ?_, fun j hj => ?_, hc, hc2, by omega⟩
 ·rw [Zk9 (by omega)]
  by_cases e : j = i
  ·rw [if_pos e]; omega
  ·rw [if_neg e]
   have := h.w j hj
   omega
 ·rw [Zk9 (by omega)]
  by_cases e : j = i
  ·rw [if_pos e]
   have := h.k i hi
   omega
  ·rw [if_neg e]
   have := h.k j hj
   omega
theorem Tb.up (h : Tb b W K c) (hb : b ≤ 99) : Tb (b + 1) W K c :=
 ⟨h.wl, h.kl, fun j hj => by have := h.w j hj; omega, fun j hj => by have := h.k j hj; omega, h.c0, by have := h.cb; omega, by omega⟩
end Pn
namespace Pn
open Pg
set_option linter.unusedVariables false
set_option linter.unusedSimpArgs false
abbrev RM := RO
abbrev T64 : List RG := List.replicate 64 (⟨(0 : Int), false, false⟩ : RG)
abbrev I64 : List Int := List.replicate 64 (0 : Int)
abbrev stp (now : Int) (L : List RM) (ver : Int) (wr ce : Bool) (mo r0 r1 er p : Int) (H : List RJ) (V : List RH) (W K : List Int) (clk : Int) (M : List RH) (u l N : Nat) := Zn now L ver wr ce mo r0 r1 er 1 p 2 T64 300 5 50 50 1000 1 0 300 H V W K 1000 clk 0 2 I64 M u l N
variable {sz : Nat → Nat} {n k : Nat} {H : List RJ} {V V' : List RH} {N : Nat} {W K : List Int} {clk b now ver mo r0 r1 er kd f a x p6 p7 rc w9 w10 w11 g12 g13 e14 s15 p q e e' : Int} {wr ce : Bool} {M : List RH} {u l : Nat}
def rcn (sz : Nat → Nat) (k : Nat) : Nat := (ad sz k + 1) % 5
theorem ZcD : rcn sz k < 5 := Nat.mod_lt _ (by decide)
theorem Zvl (m : Mem sz n H V) (h : k < n) (t : Tb b W K clk) : Int.tmod (rr sz k % 1048576) (W.length : Int) = ((rcn sz k : Nat) : Int) := by
 obtain ⟨_, r2, _⟩ := ZkB m h
 rw [r2, t.wl, Int.tmod_eq_emod_of_nonneg (by omega)]
 unfold rcn
 omega
theorem kk (h : kd = 0 ∨ kd = 1) : 0 ≤ kd ∧ kd ≤ 2 ∧ kd ≤ 1 ∧ ¬ kd = 2 := by omega
theorem s_nil (t : Tb b W K clk) (hk : kd = 0 ∨ kd = 1) : stp now [⟨kd, 2, 0, f, a, x, p6, p7, rc, w9, w10, w11, g12, g13, e14, s15⟩] ver wr ce mo r0 r1 er 1 H V W K clk M u l N = some (.r0 H V W K 2 1 0 0 0 true [⟨kd, 2, 0, f, a, x, p6, p7, rc, w9, w10, w11, g12, g13, e14, s15⟩] ver wr true now 0 0 11 0 clk M u l) := by
 have wl := t.wl
 obtain ⟨k1, k2, k3, k4⟩ := kk hk
 show Zn _ _ _ _ _ _ _ _ _ _ _ _ _ _ _ _ _ _ _ _ _ _ _ _ _ _ _ _ _ _ _ _ _ _ = _
 unfold Zn
 exact Za k1 <| Za k2 <| Za (by decide) <| Za (by omega) <| Za (by decide) <| Za (by decide) <| Za (.inr ⟨k3, rfl, by show (0 : Int) ≤ 0; decide, by show (0 : Int) ≤ 1114111; decide⟩) <| Za (.inl (by decide)) <| Zd (by decide) <| Za (by decide) <| Zd (fun q => q rfl) rfl
theorem ZnV (m : Mem sz n H V) (h : k < n) : ¬ rr sz k = 0 ∧ 1 ≤ rr sz k / 1048576 ∧ 1 ≤ rr sz k % 1048576 ∧ 0 ≤ rr sz k ∧ rr sz k ≤ 1114111 := by
 have := m.ak h
 unfold rr; omega
theorem ZsP (m : Mem sz n H V) (h : k < n) (hp : stt sz H k = 1) : own k = 1 := by
 unfold own
 refine if_neg (fun e => ?_)
 have := (m.obj' h).2.2 e
 omega
theorem s_get (m : Mem sz n H V) (t : Tb b W K clk) (h : k < n) (hp : stt sz H k = 1) (hl : Zr 2 (rr sz k) f 300 H V N = some (.r0 p q e)) (he : ¬ e = 0 → p = 0 ∧ q = 0) : stp now [⟨0, 2, rr sz k, f, a, x, p6, p7, rc, w9, w10, w11, g12, g13, e14, s15⟩] ver wr ce mo r0 r1 er 1 H V W K clk M u l N = some (.r0 H V W K 4 1 2 (rr sz k) f true [⟨0, 2, rr sz k, f, a, x, p6, p7, rc, w9, w10, w11, g12, g13, e14, s15⟩] ver wr true now p q e 0 clk M u l) := by
 have wl := t.wl
 have hh := Zc3 (N := N) m h
 rw [hp, ZsP m h hp] at hh
 obtain ⟨r1, r2, r3, r4, r5⟩ := ZnV m h
 show Zn _ _ _ _ _ _ _ _ _ _ _ _ _ _ _ _ _ _ _ _ _ _ _ _ _ _ _ _ _ _ _ _ _ _ = _
 unfold Zn
 refine Za (by show (0 : Int) ≤ 0; decide) <| Za (by show (0 : Int) ≤ 2; decide) <| Za (by decide) <| Za (by omega) <| Za (by decide) <| Za (by decide) <| Za (.inr ⟨by show (0 : Int) ≤ 1; decide, rfl, r4, r5⟩) <| Za (.inl (by decide)) <| Zd (by decide) <| Za (by decide) <| Za r1 <| Za r2 <| Za r3 <| Zi hh <| Za rfl <| Za rfl <| Za rfl <| Za rfl <| Zi hh <| Za rfl <| Zd (by show ¬ (1 : Int) = 3; decide) <| Zi hl ?_
 by_cases c : e = 0
 ·exact Zd (fun q => q c) rfl
 ·obtain ⟨rfl, rfl⟩ := he c
  exact Za c rfl
theorem s_set (m : Mem sz n H V) (t : Tb b W K clk) (h : k < n) (hp : stt sz H k = 1) (hl : Zr 2 (rr sz k) f 300 H V N = some (.r0 p q 0)) (hs : Zah 2 (rr sz k) f a x 300 H V N = some (.r0 V' e)) : stp now [⟨1, 2, rr sz k, f, a, x, p6, p7, rc, w9, w10, w11, g12, g13, e14, s15⟩] ver wr ce mo r0 r1 er 1 H V W K clk M u l N = some (.r0 H V' W K 5 1 2 (rr sz k) f true [⟨1, 2, rr sz k, f, a, x, p6, p7, rc, w9, w10, w11, g12, g13, e14, s15⟩] ver wr true now 0 0 e 0 clk M u l) := by
 have wl := t.wl
 have hh := Zc3 (N := N) m h
 rw [hp, ZsP m h hp] at hh
 obtain ⟨r1, r2, r3, r4, r5⟩ := ZnV m h
 show Zn _ _ _ _ _ _ _ _ _ _ _ _ _ _ _ _ _ _ _ _ _ _ _ _ _ _ _ _ _ _ _ _ _ _ = _
 unfold Zn
 exact Za (by show (0 : Int) ≤ 1; decide) <| Za (by show (1 : Int) ≤ 2; decide) <| Za (by decide) <| Za (by omega) <| Za (by decide) <| Za (by decide) <| Za (.inr ⟨by show (1 : Int) ≤ 1; decide, rfl, r4, r5⟩) <| Za (.inl (by decide)) <| Zd (by decide) <| Za (by decide) <| Za r1 <| Za r2 <| Za r3 <| Zi hh <| Za rfl <| Za rfl <| Za rfl <| Zd (by show ¬ (1 : Int) = 0; decide) <| Zi hh <| Za rfl <| Zd (by show ¬ (1 : Int) = 3; decide) <| Zi hl <| Za rfl <| Zi hs rfl
theorem ZuT (m : Mem sz n H V) (t : Tb b W K clk) (h : k < n) (hp : stt sz H k = 1) (hl : Zr 2 (rr sz k) f 300 H V N = some (.r0 p q e)) (he : ¬ e = 0) : stp now [⟨1, 2, rr sz k, f, a, x, p6, p7, rc, w9, w10, w11, g12, g13, e14, s15⟩] ver wr ce mo r0 r1 er 1 H V W K clk M u l N = some (.r0 H V W K 5 1 2 (rr sz k) f true [⟨1, 2, rr sz k, f, a, x, p6, p7, rc, w9, w10, w11, g12, g13, e14, s15⟩] ver wr true now 0 0 e 0 clk M u l) := by
 have wl := t.wl
 have hh := Zc3 (N := N) m h
 rw [hp, ZsP m h hp] at hh
 obtain ⟨r1, r2, r3, r4, r5⟩ := ZnV m h
 show Zn _ _ _ _ _ _ _ _ _ _ _ _ _ _ _ _ _ _ _ _ _ _ _ _ _ _ _ _ _ _ _ _ _ _ = _
 unfold Zn
 exact Za (by show (0 : Int) ≤ 1; decide) <| Za (by show (1 : Int) ≤ 2; decide) <| Za (by decide) <| Za (by omega) <| Za (by decide) <| Za (by decide) <| Za (.inr ⟨by show (1 : Int) ≤ 1; decide, rfl, r4, r5⟩) <| Za (.inl (by decide)) <| Zd (by decide) <| Za (by decide) <| Za r1 <| Za r2 <| Za r3 <| Zi hh <| Za rfl <| Za rfl <| Za rfl <| Zd (by show ¬ (1 : Int) = 0; decide) <| Zi hh <| Za rfl <| Zd (by show ¬ (1 : Int) = 3; decide) <| Zi hl <| Zd he rfl
def Pub (sz : Nat → Nat) (n : Nat) (H : List RJ) (a x : Int) : Prop := a = 1 ∨ a = 2 ∧ ∃ j, j < n ∧ x = rr sz j ∧ stt sz H j = 2
theorem n12 : ¬ (1 : Int) = 2 := by decide
theorem n02 : ¬ (0 : Int) = 2 := by decide
theorem ZtR (m : Mem sz n H V) (t : Tb b W K clk) (h : k < n) (hp : stt sz H k = 2) (hk : kd = 0 ∨ kd = 1) (hv : Pub sz n H a x ∨ a = 0 ∧ x = 0) : stp now [⟨kd, 2, rr sz k, f, a, x, p6, p7, rc, w9, w10, w11, g12, g13, e14, s15⟩] ver wr ce mo r0 r1 er 1 H V W K clk M u l N = some (.r0 H V W K 2 1 0 0 0 false [⟨kd, 2, rr sz k, f, a, x, p6, p7, (rcn sz k : Int), w9, w10, w11, g12, g13, e14, s15⟩] ver wr ce mo r0 r1 er 4 clk M u l) := by
 have wl := t.wl
 have hh := Zc3 (N := N) m h
 rw [hp] at hh
 obtain ⟨u1, u2, u3, u4, u5⟩ := ZnV m h
 obtain ⟨k1, k2, k3, k4⟩ := kk hk
 have hrc := Zvl m h t
 show Zn _ _ _ _ _ _ _ _ _ _ _ _ _ _ _ _ _ _ _ _ _ _ _ _ _ _ _ _ _ _ _ _ _ _ = _
 unfold Zn
 refine Za k1 <| Za k2 <| Za (by decide) <| Za (by omega) <| Za (by decide) <| Za (by decide) <| Za (.inr ⟨k3, rfl, u4, u5⟩) <| Za (.inl (by decide)) <| Zd (by decide) <| Za (by decide) <| Za u1 <| Za u2 <| Za u3 <| Zi hh <| Za rfl <| Zd (by show ¬ (2 : Int) = 1; decide) ?_
 have fin : some (plain_Access_StepR.r0 H V W K 2 1 0 0 0 false [⟨kd, 2, rr sz k, f, a, x, p6, p7, Int.tmod (rr sz k % 1048576) (W.length : Int), w9, w10, w11, g12, g13, e14, s15⟩] ver wr ce mo r0 r1 er 4 clk M u l) = some (.r0 H V W K 2 1 0 0 0 false [⟨kd, 2, rr sz k, f, a, x, p6, p7, (rcn sz k : Int), w9, w10, w11, g12, g13, e14, s15⟩] ver wr ce mo r0 r1 er 4 clk M u l) := by rw [hrc]
 rcases hv with (rfl | ⟨rfl, j, hj, rfl, hs⟩) | ⟨rfl, rfl⟩
 ·exact Zi (Zo3 (.inl n12)) (Zd (by decide) fin)
 ·have hj' := Zc3 (N := N) m hj
  rw [hs] at hj'
  exact Zi hj' (Za rfl (Zd (by show ¬ (2 : Int) = 1; decide) fin))
 ·exact Zi (Zo3 (.inl n02)) (Zd (by decide) fin)
theorem ZvR (m : Mem sz n H V) (t : Tb b W K clk) (h : k < n) (hp : stt sz H k = 2) (hk : kd = 0 ∨ kd = 1) {j : Nat} (hj : j < n) (hpj : stt sz H j = 1) {M1 : List RH} (hc : Za9 (Zbx sz H V n) 2 (rr sz j) N = some (.r1 M1)) (hN : 100 ≤ N) : stp now [⟨kd, 2, rr sz k, f, 2, rr sz j, p6, p7, rc, w9, w10, w11, g12, g13, e14, s15⟩] ver wr ce mo r0 r1 er 1 H V W K clk M u l N = some (.r0 H V W K 2 1 0 0 0 false [⟨kd, 2, rr sz k, f, 2, rr sz j, p6, p7, (rcn sz k : Int), w9, w10, w11, g12, g13, e14, s15⟩] ver wr ce mo r0 r1 er 3 clk M1 0 M1.length) := by
 have wl := t.wl
 have hh := Zc3 (N := N) m h
 rw [hp] at hh
 have hj' := Zc3 (N := N) m hj
 rw [hpj, ZsP m hj hpj] at hj'
 have hrc := Zvl m h t
 have ho := Zsa (N := N) m hN
 obtain ⟨r1, r2, r3, r4, r5⟩ := ZnV m h
 obtain ⟨k1, k2, k3, k4⟩ := kk hk
 show Zn _ _ _ _ _ _ _ _ _ _ _ _ _ _ _ _ _ _ _ _ _ _ _ _ _ _ _ _ _ _ _ _ _ _ = _
 unfold Zn
 rw [← hrc]
 exact Za k1 <| Za k2 <| Za (by decide) <| Za (by omega) <| Za (by decide) <| Za (by decide) <| Za (.inr ⟨k3, rfl, r4, r5⟩) <| Za (.inl (by decide)) <| Zd (by decide) <| Za (by decide) <| Za r1 <| Za r2 <| Za r3 <| Zi hh <| Za rfl <| Zd (by show ¬ (2 : Int) = 1; decide) <| Zi hj' <| Za rfl <| Za rfl <| Za rfl <| Zi ho <| Zi hc rfl
end Pn
namespace Pn
open Pg
set_option linter.unusedVariables false
set_option linter.unusedSimpArgs false
variable {sz : Nat → Nat} {n k i : Nat} {H : List RJ} {V V' : List RH} {N : Nat} {W K W' K' : List Int} {clk b now ver mo r0 r1 er kd f a x p6 p7 rc w9 w10 w11 g12 g13 e14 s15 p q e e' : Int} {wr ce : Bool} {M : List RH} {u l : Nat}
theorem Zp2 (t : Tb b W K clk) (hi : i < 5) (hk : kd = 0 ∨ kd = 1) : stp now [⟨kd, 2, x, f, a, e, p6, p7, (i : Int), w9, w10, w11, g12, g13, e14, s15⟩] ver wr ce mo r0 r1 er 4 H V W K clk M u l N = some (.r0 H V W K 3 1 0 0 0 false [⟨kd, 2, x, f, a, e, p6, p7, (i : Int), 0, W.getD i 0 / 4, K.getD i 0, g12, g13, e14, s15⟩] ver wr ce mo r0 r1 er (if kd = 1 then 7 else 5) clk M u l) := by
 have wl := t.wl
 obtain ⟨k1, k2, k3, k4⟩ := kk hk
 show Zn _ _ _ _ _ _ _ _ _ _ _ _ _ _ _ _ _ _ _ _ _ _ _ _ _ _ _ _ _ _ _ _ _ _ = _
 unfold Zn
 refine Za k1 <| Za k2 <| Za (by decide) <| Za (by omega) <| Za (by decide) <| Za (by decide) <| Za (.inl (by decide)) <| Za (.inl (by decide)) <| Zd (by decide) <| Zd (by decide) <| Zd (by decide) <| Zd (by decide) <| Za (by decide) <| Zi (at_v t hi) <| Zd (by show ¬ ¬ (0 : Int) = 0; decide) ?_
 by_cases c : kd = 1
 ·rw [if_pos c]; exact Za c rfl
 ·rw [if_neg c]; exact Zd c rfl
theorem Zw5 (m : Mem sz n H V) (t : Tb b W K clk) (h : k < n) (hl : Zr 2 (rr sz k) f 300 H V N = some (.r0 p q e)) : stp now [⟨0, 2, rr sz k, f, a, x, p6, p7, rc, w9, w10, w11, g12, g13, e14, s15⟩] ver wr ce mo r0 r1 er 5 H V W K clk M u l N = some (.r0 H V W K 4 1 2 (rr sz k) f false [⟨0, 2, rr sz k, f, a, x, p6, p7, rc, w9, w10, w11, p, q, e, s15⟩] ver wr ce now r0 r1 er 6 clk M u l) := by
 have wl := t.wl
 have hh := Zc3 (N := N) m h
 have hs : ¬ stt sz H k = 3 := by have := (m.obj' h).2.1; omega
 show Zn _ _ _ _ _ _ _ _ _ _ _ _ _ _ _ _ _ _ _ _ _ _ _ _ _ _ _ _ _ _ _ _ _ _ = _
 unfold Zn
 exact Za (by show (0 : Int) ≤ 0; decide) <| Za (by show (0 : Int) ≤ 2; decide) <| Za (by decide) <| Za (by omega) <| Za (by decide) <| Za (by decide) <| Za (.inl (by decide)) <| Za (.inl (by decide)) <| Zd (by decide) <| Zd (by decide) <| Zd (by decide) <| Zd (by decide) <| Zd (by decide) <| Za (by decide) <| Zi hh <| Za rfl <| Zd hs <| Zi hl rfl
theorem ZvS (t : Tb b W K clk) (hi : i < 5) (he : ¬ e = 0 → p = 0 ∧ q = 0) : stp now [⟨0, 2, x, f, a, e', p6, p7, (i : Int), 0, W.getD i 0 / 4, K.getD i 0, p, q, e, s15⟩] ver wr ce mo r0 r1 er 6 H V W K clk M u l N = some (.r0 H V W K 3 1 0 0 0 true [⟨0, 2, x, f, a, e', p6, p7, (i : Int), 0, W.getD i 0 / 4, K.getD i 0, p, q, e, s15⟩] ver wr true mo p q e 0 clk M u l) := by
 have wl := t.wl
 show Zn _ _ _ _ _ _ _ _ _ _ _ _ _ _ _ _ _ _ _ _ _ _ _ _ _ _ _ _ _ _ _ _ _ _ = _
 unfold Zn
 refine Za (by show (0 : Int) ≤ 0; decide) <| Za (by show (0 : Int) ≤ 2; decide) <| Za (by decide) <| Za (by omega) <| Za (by decide) <| Za (by decide) <| Za (.inl (by decide)) <| Za (.inl (by decide)) <| Zd (by decide) <| Zd (by decide) <| Zd (by decide) <| Zd (by decide) <| Zd (by decide) <| Zd (by decide) <| Za (by decide) <| Zi (at_v t hi) <| Zd (fun u => u ⟨rfl, rfl, rfl⟩) ?_
 by_cases c : e = 0
 ·exact Zd (fun u => u c) rfl
 ·obtain ⟨rfl, rfl⟩ := he c
  exact Za c rfl
theorem ZqN (t : Tb b W K clk) (hi : i < 5) : stp now [⟨1, 2, x, f, a, e', p6, p7, (i : Int), 0, W.getD i 0 / 4, w11, g12, g13, e14, s15⟩] ver wr ce mo r0 r1 er 7 H V W K clk M u l N = some (.r0 H V (W.set i 6) (K.set i (K.getD i 0 + 1)) 6 1 0 0 0 false [⟨1, 2, x, f, a, e', p6, p7, (i : Int), 0, W.getD i 0 / 4, w11, g12, g13, e14, s15⟩] ver wr ce mo r0 r1 er 8 clk M u l) := by
 have wl := t.wl
 show Zn _ _ _ _ _ _ _ _ _ _ _ _ _ _ _ _ _ _ _ _ _ _ _ _ _ _ _ _ _ _ _ _ _ _ = _
 unfold Zn
 exact Za (by show (0 : Int) ≤ 1; decide) <| Za (by show (1 : Int) ≤ 2; decide) <| Za (by decide) <| Za (by omega) <| Za (by decide) <| Za (by decide) <| Za (.inl (by decide)) <| Za (.inl (by decide)) <| Zd (by decide) <| Zd (by decide) <| Zd (by decide) <| Zd (by decide) <| Zd (by decide) <| Zd (by decide) <| Zd (by decide) <| Za (by decide) <| Zi (Zw4 t hi) <| Za rfl rfl
theorem Zvm (h0 : 0 ≤ clk) (h1 : clk ≤ 100) : ¬ (if IntKind.i64.wrap (1000 - clk) > (0 : Int) then IntKind.i64.wrap (1000 - clk) else (0 : Int)) = 0 := by
 rw [w64 (by omega) (by omega), if_pos (by omega)]
 omega
theorem ZvT (m : Mem sz n H V) (hW : 0 < W.length) (c0 : 0 ≤ clk) (c1 : clk ≤ 100) (h : k < n) (hl : Zr 2 (rr sz k) f 300 H V N = some (.r0 p q 0)) (hs : Zah 2 (rr sz k) f a x 300 H V N = some (.r0 V' 0)) : stp now [⟨1, 2, rr sz k, f, a, x, p6, p7, rc, w9, w10, w11, g12, g13, e14, s15⟩] ver wr ce mo r0 r1 er 8 H V W K clk M u l N = some (.r0 H V' W K 5 1 2 (rr sz k) f false [⟨1, 2, rr sz k, f, a, x, p6, p7, rc, w9, w10, w11, p, q, 0, s15⟩] ver true ce mo r0 r1 er 9 clk M u l) := by
 have hh := Zc3 (N := N) m h
 have hst : ¬ stt sz H k = 3 := by have := (m.obj' h).2.1; omega
 show Zn _ _ _ _ _ _ _ _ _ _ _ _ _ _ _ _ _ _ _ _ _ _ _ _ _ _ _ _ _ _ _ _ _ _ = _
 unfold Zn
 exact Za (by show (0 : Int) ≤ 1; decide) <| Za (by show (1 : Int) ≤ 2; decide) <| Za (by decide) <| Za hW <| Za (by decide) <| Za (by decide) <| Za (.inl (by decide)) <| Za (.inl (by decide)) <| Zd (by decide) <| Zd (by decide) <| Zd (by decide) <| Zd (by decide) <| Zd (by decide) <| Zd (by decide) <| Zd (by decide) <| Zd (by decide) <| Za (by decide) <| Zi hh <| Za rfl <| Zd hst <| Zi hl <| Za rfl <| Zd (Zvm c0 c1) <| Zi hs <| Za rfl rfl
theorem Zr3 (m : Mem sz n H V) (hW : 0 < W.length) (c0 : 0 ≤ clk) (c1 : clk ≤ 100) (h : k < n) (hl : Zr 2 (rr sz k) f 300 H V N = some (.r0 p q 0)) (hs : Zah 2 (rr sz k) f a x 300 H V N = some (.r0 V' e)) (he : ¬ e = 0) : stp now [⟨1, 2, rr sz k, f, a, x, p6, p7, rc, w9, w10, w11, g12, g13, e14, s15⟩] ver wr ce mo r0 r1 er 8 H V W K clk M u l N = some (.r0 H V' W K 5 1 2 (rr sz k) f false [⟨1, 2, rr sz k, f, a, x, p6, p7, rc, w9, w10, w11, p, q, e, s15⟩] w10 false true now 0 0 e 10 clk M u l) := by
 have hh := Zc3 (N := N) m h
 have hst : ¬ stt sz H k = 3 := by have := (m.obj' h).2.1; omega
 show Zn _ _ _ _ _ _ _ _ _ _ _ _ _ _ _ _ _ _ _ _ _ _ _ _ _ _ _ _ _ _ _ _ _ _ = _
 unfold Zn
 exact Za (by show (0 : Int) ≤ 1; decide) <| Za (by show (1 : Int) ≤ 2; decide) <| Za (by decide) <| Za hW <| Za (by decide) <| Za (by decide) <| Za (.inl (by decide)) <| Za (.inl (by decide)) <| Zd (by decide) <| Zd (by decide) <| Zd (by decide) <| Zd (by decide) <| Zd (by decide) <| Zd (by decide) <| Zd (by decide) <| Zd (by decide) <| Za (by decide) <| Zi hh <| Za rfl <| Zd hst <| Zi hl <| Za rfl <| Zd (Zvm c0 c1) <| Zi hs <| Zd he rfl
theorem ZqO (m : Mem sz n H V) (hW : 0 < W.length) (h : k < n) (hl : Zr 2 (rr sz k) f 300 H V N = some (.r0 p q e)) (he : ¬ e = 0) : stp now [⟨1, 2, rr sz k, f, a, x, p6, p7, rc, w9, w10, w11, g12, g13, e14, s15⟩] ver wr ce mo r0 r1 er 8 H V W K clk M u l N = some (.r0 H V W K 5 1 2 (rr sz k) f false [⟨1, 2, rr sz k, f, a, x, p6, p7, rc, w9, w10, w11, p, q, e, s15⟩] w10 false true now 0 0 e 10 clk M u l) := by
 have hh := Zc3 (N := N) m h
 have hst : ¬ stt sz H k = 3 := by have := (m.obj' h).2.1; omega
 show Zn _ _ _ _ _ _ _ _ _ _ _ _ _ _ _ _ _ _ _ _ _ _ _ _ _ _ _ _ _ _ _ _ _ _ = _
 unfold Zn
 exact Za (by show (0 : Int) ≤ 1; decide) <| Za (by show (1 : Int) ≤ 2; decide) <| Za (by decide) <| Za hW <| Za (by decide) <| Za (by decide) <| Za (.inl (by decide)) <| Za (.inl (by decide)) <| Zd (by decide) <| Zd (by decide) <| Zd (by decide) <| Zd (by decide) <| Zd (by decide) <| Zd (by decide) <| Zd (by decide) <| Zd (by decide) <| Za (by decide) <| Zi hh <| Za rfl <| Zd hst <| Zi hl <| Zd he rfl
theorem ZvU {X : RM} (x0 : 0 ≤ X.a0) (x2 : X.a0 ≤ 2) (hW : 0 < W.length) (c0 : 0 ≤ clk) (c1 : clk ≤ 100) : stp now [X] ver wr ce mo r0 r1 er 9 H V W K clk M u l N = some (.r0 H V W K 8 1 0 0 0 false [X] (clk + 1) wr true now 0 0 0 10 (clk + 1) M u l) := by
 have hw : IntKind.i64.wrap (clk + 1) = clk + 1 := w64 (by omega) (by omega)
 show Zn _ _ _ _ _ _ _ _ _ _ _ _ _ _ _ _ _ _ _ _ _ _ _ _ _ _ _ _ _ _ _ _ _ _ = _
 unfold Zn
 rw [hw]
 exact Za x0 <| Za x2 <| Za (by decide) <| Za hW <| Za (by decide) <| Za (by decide) <| Za (.inl (by decide)) <| Za (.inl (by decide)) <| Zd (by decide) <| Zd (by decide) <| Zd (by decide) <| Zd (by decide) <| Zd (by decide) <| Zd (by decide) <| Zd (by decide) <| Zd (by decide) <| Zd (by decide) <| Za (by decide) rfl
theorem ZsQ {X : RM} (x0 : 0 ≤ X.a0) (x2 : X.a0 ≤ 2) (x8 : X.a8 = (i : Int)) (t : Tb b W K clk) (hi : i < 5) (hv : 0 ≤ ver) (hv2 : ver ≤ 1000) (hk : K'.length = 5) {c' : Int} : stp now [X] ver wr ce mo r0 r1 er 10 H V (W.set i 6) K' c' M u l N = some (.r0 H V (W.set i (4 * ver)) K' 7 1 0 0 0 true [X] ver wr ce mo r0 r1 er 0 c' M u l) := by
 have wl := t.wl
 have sl : 0 < (W.set i 6).length := by rw [List.length_set]; omega
 have hl := let_v (N := N) t hi hv hv2 hk
 rw [← x8] at hl
 show Zn _ _ _ _ _ _ _ _ _ _ _ _ _ _ _ _ _ _ _ _ _ _ _ _ _ _ _ _ _ _ _ _ _ _ = _
 unfold Zn
 exact Za x0 <| Za x2 <| Za (by decide) <| Za sl <| Za (by decide) <| Za (by decide) <| Za (.inl (by decide)) <| Za (.inl (by decide)) <| Zd (by decide) <| Zd (by decide) <| Zd (by decide) <| Zd (by decide) <| Zd (by decide) <| Zd (by decide) <| Zd (by decide) <| Zd (by decide) <| Zd (by decide) <| Zd (by decide) <| Za (by decide) <| Zi hl rfl
def nxt (c : Nat) : Int := if (c : Int) = 0 then 4 else 3
theorem Zw6 {X : RM} (m : Mem sz n H V) (x0 : 0 ≤ X.a0) (x2 : X.a0 ≤ 2) (hW : 0 < W.length) {ks : List Nat} (hk : ∀ x ∈ ks, x < n) (hc : 0 < l) (hi : u < ks.length) : stp now [X] ver wr ce mo r0 r1 er 3 H V W K clk (ks.map (rfk sz)) u l N = some (.r0 (shr sz H (ks.getD u 0)) V W K 11 1 2 (rr sz (ks.getD u 0)) 0 false [X] ver wr ce mo r0 r1 er (nxt (l - 1)) clk (ks.map (rfk sz)) (u + 1) (l - 1)) := by
 have hg : (ks.map (rfk sz)).getD u RH.z = rfk sz (ks.getD u 0) := by simp [hi]
 have hm : ks.getD u 0 < n := hk _ (by rw [show ks.getD u 0 = ks[u] by simp [hi]]; exact List.getElem_mem hi)
 have hs := ZtO (N := N) m hm
 show Zn _ _ _ _ _ _ _ _ _ _ _ _ _ _ _ _ _ _ _ _ _ _ _ _ _ _ _ _ _ _ _ _ _ _ = _
 unfold Zn nxt
 rw [hg, List.length_map]
 refine Za x0 <| Za x2 <| Za (by decide) <| Za hW <| Za (by decide) <| Za (by decide) <| Za (.inl (by decide)) <| Za (.inl (by decide)) <| Zd (by decide) <| Zd (by decide) <| Zd (by decide) <| Za (by decide) <| Za hc <| Za hi <| Zi hs ?_
 by_cases e : ((l - 1 : Nat) : Int) = 0
 ·simp only [if_pos e]; rfl
 ·simp only [if_neg e]; rfl
end Pn
namespace Pn
open Pg
set_option linter.unusedVariables false
set_option linter.unusedSimpArgs false
section
variable {z0 z3 z6 z7 z8 z9 zp zc : Int} {z4 z5 : Bool} {zL : List RM} {zH : List RJ} {zV : List RH} {zW zK : List Int}
abbrev rst (z0 most : Int) (zL : List RM) (z3 : Int) (z4 z5 : Bool) (z6 z7 z8 z9 zp : Int) (zH : List RJ) (zV : List RH) (zW zK : List Int) (zc : Int) (N : Nat) := Zeq z0 most zL z3 z4 z5 z6 z7 z8 z9 1 zp 2 T64 300 5 50 50 1000 1 0 300 zH zV zW zK 1000 zc 0 2 I64 N
abbrev run (now most : Int) (L : List RM) (ver : Int) (wr ce : Bool) (mo r0 r1 er p : Int) (H : List RJ) (V : List RH) (W K : List Int) (clk : Int) (N : Nat) := Zd7 now most L ver wr ce mo r0 r1 er 1 p 2 T64 300 5 50 50 1000 1 0 300 H V W K 1000 clk 0 2 I64 N
variable {most now : Int} {i u l u' l' : Nat} {H H' : List RJ} {V V' : List RH} {N : Nat} {W K W' K' : List Int} {L L' : List RM} {M M' : List RH} {clk clk' ver ver' mo mo' r0 r1 r0' r1' er er' p p' k1 k2 k3 k4 k5 : Int} {wr ce wr' ce' : Bool} {X : RM}
theorem rnI : run now most L ver wr ce mo r0 r1 er p H V W K clk N = Zaw (rst now most L ver wr ce mo r0 r1 er p H V W K clk N) N (.h1m0 H V W K now 0 L ver wr ce mo r0 r1 er p clk [] 0 0) := ZdU rfl
theorem nw (h0 : 0 ≤ now) (h1 : now ≤ 100000) : IntKind.i64.wrap (now + 1) = now + 1 := w64 (by omega) (by omega)
theorem ZcM (h0 : 0 ≤ now) (h1 : now ≤ 100000) (hi : (i : Int) < most) (hm : most ≤ 60) (h : stp (now + 1) L ver wr ce mo r0 r1 er p H V W K clk M u l N = some (.r0 H' V' W' K' k1 k2 k3 k4 k5 false L' ver' wr' ce' mo' r0' r1' er' p' clk' M' u' l')) :
  rst z0 most zL z3 z4 z5 z6 z7 z8 z9 zp zH zV zW zK zc N (.h1m0 H V W K now i L ver wr ce mo r0 r1 er p clk M u l) = some (.inl (.h1m0 H' V' W' K' (now + 1) (i + 1) L' ver' wr' ce' mo' r0' r1' er' p' clk' M' u' l')) := by
 show Zb5 z0 most zL z3 z4 z5 z6 z7 z8 z9 1 zp 2 T64 300 5 50 50 1000 1 0 300 zH zV zW zK 1000 zc 0 2 I64 N H V W K now i L ver wr ce mo r0 r1 er p clk M u l = _
 unfold Zb5
 rw [nw h0 h1]
 exact Za hi <| Zi h <| Zd (by decide) <| Za (by omega) rfl
theorem Zhi (h0 : 0 ≤ now) (h1 : now ≤ 100000) (hi : (i : Int) < most) (h : stp (now + 1) L ver wr ce mo r0 r1 er p H V W K clk M u l N = some (.r0 H' V' W' K' k1 k2 k3 k4 k5 true L' ver' wr' ce' mo' r0' r1' er' p' clk' M' u' l')) :
  rst z0 most zL z3 z4 z5 z6 z7 z8 z9 zp zH zV zW zK zc N (.h1m0 H V W K now i L ver wr ce mo r0 r1 er p clk M u l) = some (.inr (.r0 H' V' W' K' (now + 1) true L' ver' wr' ce' mo' r0' r1' er' p' clk' M' u' l')) := by
 show Zb5 z0 most zL z3 z4 z5 z6 z7 z8 z9 1 zp 2 T64 300 5 50 50 1000 1 0 300 zH zV zW zK 1000 zc 0 2 I64 N H V W K now i L ver wr ce mo r0 r1 er p clk M u l = _
 unfold Zb5
 rw [nw h0 h1]
 exact Za hi <| Zi h <| Za rfl rfl
theorem Zw7 (h0 : 0 ≤ now) (h1 : now ≤ 100000) (hi : (i : Int) < most) (h : stp (now + 1) L ver wr ce mo r0 r1 er p H V W K clk M u l N = some (.r1 H' V')) :
  rst z0 most zL z3 z4 z5 z6 z7 z8 z9 zp zH zV zW zK zc N (.h1m0 H V W K now i L ver wr ce mo r0 r1 er p clk M u l) = some (.inr (.r1 W K (now + 1) L ver wr (now + 1) ((1 : Int) * 1048576 + ((H.length + 1 : Nat) : Int)) H' V' clk M u l)) := by
 show Zb5 z0 most zL z3 z4 z5 z6 z7 z8 z9 1 zp 2 T64 300 5 50 50 1000 1 0 300 zH zV zW zK 1000 zc 0 2 I64 N H V W K now i L ver wr ce mo r0 r1 er p clk M u l = _
 unfold Zb5
 rw [nw h0 h1]
 exact Za hi <| Zi h rfl
end
end Pn
namespace Pn
open Pg
set_option linter.unusedVariables false
set_option linter.unusedSimpArgs false
variable {sz : Nat → Nat} {n k i u l : Nat} {H zH : List RJ} {V V' : List RH} {N : Nat} {W K : List Int} {clk b now mo r0 r1 er kd f a x p6 p7 p q e most w9 w10 w11 g12 g13 e14 s15 ver : Int} {wr ce : Bool} {M : List RH} {X : RM} {ks : List Nat}
variable {z0 z3 z6 z7 z8 z9 zp zc : Int} {z4 z5 : Bool} {zL : List RM} {zV : List RH} {zW zK : List Int}
abbrev XX (kd ref f a x : Int) : RM := ⟨kd, 2, ref, f, a, x, 0, 0, 0, 0, 0, 0, 0, 0, 0, 0⟩
theorem d01 : (0 : Int) ≤ 1 := by decide
theorem d12 : (1 : Int) ≤ 2 := by decide
theorem Zsb (t : Tb b W K clk) (hk : kd = 0 ∨ kd = 1) (h0 : 0 ≤ now) (h1 : now ≤ 90000) (hm : 0 < most) : ∃ L', run now most [XX kd 0 f a x] 0 false ce mo r0 r1 er 1 H V W K clk (N + 1) = some (.r0 H V W K (now + 1) true L' 0 false true (now + 1) 0 0 11 0 clk [] 0 0) :=
 ⟨_, rnI.trans (Zam (Zhi h0 (by omega) hm (s_nil t hk)))⟩
theorem ZsR (m : Mem sz n H V) (t : Tb b W K clk) (h : k < n) (hp : stt sz H k = 1) (hl : Zr 2 (rr sz k) f 300 H V (N + 1) = some (.r0 p q e)) (he : ¬ e = 0 → p = 0 ∧ q = 0) (h0 : 0 ≤ now) (h1 : now ≤ 90000) (hm : 0 < most) : ∃ L', run now most [XX 0 (rr sz k) f a x] 0 false ce mo r0 r1 er 1 H V W K clk (N + 1) = some (.r0 H V W K (now + 1) true L' 0 false true (now + 1) p q e 0 clk [] 0 0) :=
 ⟨_, rnI.trans (Zam (Zhi h0 (by omega) hm (s_get m t h hp hl he)))⟩
theorem ZnW (m : Mem sz n H V) (t : Tb b W K clk) (h : k < n) (hp : stt sz H k = 1) (hl : Zr 2 (rr sz k) f 300 H V (N + 1) = some (.r0 p q 0)) (hs : Zah 2 (rr sz k) f a x 300 H V (N + 1) = some (.r0 V' e)) (h0 : 0 ≤ now) (h1 : now ≤ 90000) (hm : 0 < most) : ∃ L', run now most [XX 1 (rr sz k) f a x] 0 false ce mo r0 r1 er 1 H V W K clk (N + 1) = some (.r0 H V' W K (now + 1) true L' 0 false true (now + 1) 0 0 e 0 clk [] 0 0) :=
 ⟨_, rnI.trans (Zam (Zhi h0 (by omega) hm (s_set m t h hp hl hs)))⟩
theorem ZsS (m : Mem sz n H V) (t : Tb b W K clk) (h : k < n) (hp : stt sz H k = 1) (hl : Zr 2 (rr sz k) f 300 H V (N + 1) = some (.r0 p q e)) (he : ¬ e = 0) (h0 : 0 ≤ now) (h1 : now ≤ 90000) (hm : 0 < most) : ∃ L', run now most [XX 1 (rr sz k) f a x] 0 false ce mo r0 r1 er 1 H V W K clk (N + 1) = some (.r0 H V W K (now + 1) true L' 0 false true (now + 1) 0 0 e 0 clk [] 0 0) :=
 ⟨_, rnI.trans (Zam (Zhi h0 (by omega) hm (ZuT m t h hp hl he)))⟩
theorem ZtS (m : Mem sz n H V) (t : Tb b W K clk) (h : k < n) (hp : stt sz H k = 2) (hl : Zr 2 (rr sz k) f 300 H V (N + 4) = some (.r0 p q e)) (he : ¬ e = 0 → p = 0 ∧ q = 0) (h0 : 0 ≤ now) (h1 : now ≤ 90000) (hm : 4 ≤ most) (hm' : most ≤ 60) : ∃ L', run now most [XX 0 (rr sz k) f 0 0] 0 false ce mo r0 r1 er 1 H V W K clk (N + 4) = some (.r0 H V W K (now + 1 + 1 + 1 + 1) true L' 0 false true (now + 1 + 1 + 1) p q e 0 clk [] 0 0) :=
 ⟨_, rnI.trans <| (ZL (n := N + 3) (ZcM h0 (by omega) (by omega) hm' (ZtR m t h hp (.inl rfl) (.inr ⟨rfl, rfl⟩)))).trans <| (ZL (n := N + 2) (ZcM (by omega) (by omega) (by omega) hm' (Zp2 t ZcD (.inl rfl)))).trans <| (ZL (n := N + 1) (ZcM (by omega) (by omega) (by omega) hm' (Zw5 m t h hl))).trans <| Zam (Zhi (by omega) (by omega) (by omega) (ZvS t ZcD he))⟩
theorem ZvV (m : Mem sz n H V) (t : Tb b W K clk) (h : k < n) (hl : Zr 2 (rr sz k) f 300 H V N = some (.r0 p q 0)) (hs : Zah 2 (rr sz k) f a x 300 H V N = some (.r0 V' 0)) (h0 : 0 ≤ now) (h1 : now ≤ 90000) (hm : (i : Int) + 5 ≤ most) (hm' : most ≤ 60) (g : Nat) : ∃ L', Zaw (rst z0 most zL z3 z4 z5 z6 z7 z8 z9 zp zH zV zW zK zc N) (g + 5) (.h1m0 H V W K now i [⟨1, 2, rr sz k, f, a, x, p6, p7, (rcn sz k : Int), w9, w10, w11, g12, g13, e14, s15⟩] 0 false ce mo r0 r1 er 4 clk M u l) = some (.r0 H V' (W.set (rcn sz k) (4 * (clk + 1))) (K.set (rcn sz k) (K.getD (rcn sz k) 0 + 1)) (now + 1 + 1 + 1 + 1 + 1) true L' (clk + 1) true true (now + 1 + 1 + 1 + 1) 0 0 0 0 (clk + 1) M u l) := by
 have wl := t.wl
 have kl := t.kl
 have c0 := t.c0
 have cb := t.cb
 have b1 := t.b1
 have sl : 0 < (W.set (rcn sz k) 6).length := by rw [List.length_set]; omega
 exact ⟨_, (ZL (n := g + 4) (ZcM h0 (by omega) (by omega) hm' (Zp2 t ZcD (.inr rfl)))).trans <| (ZL (n := g + 3) (ZcM (by omega) (by omega) (by omega) hm' (ZqN t ZcD))).trans <| (ZL (n := g + 2) (ZcM (by omega) (by omega) (by omega) hm' (ZvT m sl c0 (by omega) h hl hs))).trans <| (ZL (n := g + 1) (ZcM (by omega) (by omega) (by omega) hm' (ZvU d01 d12 sl c0 (by omega)))).trans <| Zam (Zhi (by omega) (by omega) (by omega) (ZsQ d01 d12 rfl t ZcD (by omega) (by omega) (by rw [List.length_set]; exact kl)))⟩
theorem ZtT (m : Mem sz n H V) (t : Tb b W K clk) (h : k < n) (hl : Zr 2 (rr sz k) f 300 H V N = some (.r0 p q 0)) (hs : Zah 2 (rr sz k) f a x 300 H V N = some (.r0 V' e)) (he : ¬ e = 0) (h0 : 0 ≤ now) (h1 : now ≤ 90000) (hm : (i : Int) + 5 ≤ most) (hm' : most ≤ 60) (g : Nat) : ∃ L', Zaw (rst z0 most zL z3 z4 z5 z6 z7 z8 z9 zp zH zV zW zK zc N) (g + 4) (.h1m0 H V W K now i [⟨1, 2, rr sz k, f, a, x, p6, p7, (rcn sz k : Int), w9, w10, w11, g12, g13, e14, s15⟩] 0 false ce mo r0 r1 er 4 clk M u l) = some (.r0 H V' (W.set (rcn sz k) (4 * (W.getD (rcn sz k) 0 / 4))) (K.set (rcn sz k) (K.getD (rcn sz k) 0 + 1)) (now + 1 + 1 + 1 + 1) true L' (W.getD (rcn sz k) 0 / 4) false true (now + 1 + 1 + 1) 0 0 e 0 clk M u l) := by
 have wl := t.wl
 have kl := t.kl
 have c0 := t.c0
 have cb := t.cb
 have b1 := t.b1
 obtain ⟨w0, w1, w2⟩ := t.w (rcn sz k) ZcD
 have sl : 0 < (W.set (rcn sz k) 6).length := by rw [List.length_set]; omega
 exact ⟨_, (ZL (n := g + 3) (ZcM h0 (by omega) (by omega) hm' (Zp2 t ZcD (.inr rfl)))).trans <| (ZL (n := g + 2) (ZcM (by omega) (by omega) (by omega) hm' (ZqN t ZcD))).trans <| (ZL (n := g + 1) (ZcM (by omega) (by omega) (by omega) hm' (Zr3 m sl c0 (by omega) h hl hs he))).trans <| Zam (Zhi (by omega) (by omega) (by omega) (ZsQ d01 d12 rfl t ZcD (by omega) (by omega) (by rw [List.length_set]; exact kl)))⟩
theorem ZsT (m : Mem sz n H V) (t : Tb b W K clk) (h : k < n) (hl : Zr 2 (rr sz k) f 300 H V N = some (.r0 p q e)) (he : ¬ e = 0) (h0 : 0 ≤ now) (h1 : now ≤ 90000) (hm : (i : Int) + 5 ≤ most) (hm' : most ≤ 60) (g : Nat) : ∃ L', Zaw (rst z0 most zL z3 z4 z5 z6 z7 z8 z9 zp zH zV zW zK zc N) (g + 4) (.h1m0 H V W K now i [⟨1, 2, rr sz k, f, a, x, p6, p7, (rcn sz k : Int), w9, w10, w11, g12, g13, e14, s15⟩] 0 false ce mo r0 r1 er 4 clk M u l) = some (.r0 H V (W.set (rcn sz k) (4 * (W.getD (rcn sz k) 0 / 4))) (K.set (rcn sz k) (K.getD (rcn sz k) 0 + 1)) (now + 1 + 1 + 1 + 1) true L' (W.getD (rcn sz k) 0 / 4) false true (now + 1 + 1 + 1) 0 0 e 0 clk M u l) := by
 have wl := t.wl
 have kl := t.kl
 have c0 := t.c0
 have cb := t.cb
 have b1 := t.b1
 obtain ⟨w0, w1, w2⟩ := t.w (rcn sz k) ZcD
 have sl : 0 < (W.set (rcn sz k) 6).length := by rw [List.length_set]; omega
 exact ⟨_, (ZL (n := g + 3) (ZcM h0 (by omega) (by omega) hm' (Zp2 t ZcD (.inr rfl)))).trans <| (ZL (n := g + 2) (ZcM (by omega) (by omega) (by omega) hm' (ZqN t ZcD))).trans <| (ZL (n := g + 1) (ZcM (by omega) (by omega) (by omega) hm' (ZqO m sl h hl he))).trans <| Zam (Zhi (by omega) (by omega) (by omega) (ZsQ d01 d12 rfl t ZcD (by omega) (by omega) (by rw [List.length_set]; exact kl)))⟩
theorem ZuU (x0 : 0 ≤ X.a0) (x2 : X.a0 ≤ 2) (hW : 0 < W.length) (hk : ∀ y ∈ ks, y < n) (hm : ks.length + 3 ≤ most) (hm' : most ≤ 60) (h0 : 0 ≤ now) (h1 : now ≤ 90000) : ∀ (d u : Nat) (H : List RJ) (g : Nat), u + d = ks.length → Mem sz n H V →
  ∃ H'', Mem sz n H'' V ∧ Zaw (rst z0 most zL z3 z4 z5 z6 z7 z8 z9 zp zH zV zW zK zc N) (g + d) (.h1m0 H V W K (now + u) (1 + u) [X] ver wr ce mo r0 r1 er (nxt (ks.length - u)) clk (ks.map (rfk sz)) u (ks.length - u)) = Zaw (rst z0 most zL z3 z4 z5 z6 z7 z8 z9 zp zH zV zW zK zc N) g (.h1m0 H'' V W K (now + (ks.length : Int)) (1 + ks.length) [X] ver wr ce mo r0 r1 er 4 clk (ks.map (rfk sz)) ks.length 0) := by
 intro d
 induction d with
 | zero =>
  intro u H g hd m
  obtain rfl : u = ks.length := by omega
  refine ⟨H, m, ?_⟩
  have e : nxt (ks.length - ks.length) = 4 := by unfold nxt; rw [if_pos (by omega)]
  rw [e, Nat.sub_self]
  rfl
 | succ d ih =>
  intro u H g hd m
  have hu : u < ks.length := by omega
  have hku : ks.getD u 0 < n := hk _ (by rw [show ks.getD u 0 = ks[u] by simp [hu]]; exact List.getElem_mem hu)
  obtain ⟨m', _⟩ := m.shr hku
  obtain ⟨H'', m2, e2⟩ := ih (u + 1) (shr sz H (ks.getD u 0)) g (by omega) m'
  refine ⟨H'', m2, (ZL (n := g + d) (y := .h1m0 (shr sz H (ks.getD u 0)) V W K (now + ((u + 1 : Nat) : Int)) (1 + (u + 1)) [X] ver wr ce mo r0 r1 er (nxt (ks.length - (u + 1))) clk (ks.map (rfk sz)) (u + 1) (ks.length - (u + 1))) ?_).trans e2⟩
  have e : nxt (ks.length - u) = 3 := by unfold nxt; rw [if_neg (by omega)]
  rw [e, show now + ((u + 1 : Nat) : Int) = now + u + 1 by omega]
  exact ZcM (by omega) (by omega) (by omega) hm' (Zw6 m x0 x2 hW hk (by omega) hu)
theorem ZuV (m : Mem sz n H V) (t : Tb b W K clk) (h : k < n) (hp : stt sz H k = 2) (hv : Pub sz n H a x) (h0 : 0 ≤ now) (h1 : now ≤ 90000) (hm : 1 < most) (hm' : most ≤ 60) (hN : N = i + 1) : run now most [XX 1 (rr sz k) f a x] 0 false ce mo r0 r1 er 1 H V W K clk N = Zaw (rst now most [XX 1 (rr sz k) f a x] 0 false ce mo r0 r1 er 1 H V W K clk N) i (.h1m0 H V W K (now + 1) 1 [⟨1, 2, rr sz k, f, a, x, 0, 0, (rcn sz k : Int), 0, 0, 0, 0, 0, 0, 0⟩] 0 false ce mo r0 r1 er 4 clk [] 0 0) := by
 refine rnI.trans ?_
 rw [show Zaw (rst now most [XX 1 (rr sz k) f a x] 0 false ce mo r0 r1 er 1 H V W K clk N) N = Zaw (rst now most [XX 1 (rr sz k) f a x] 0 false ce mo r0 r1 er 1 H V W K clk N) (i + 1) from congrArg _ hN]
 exact ZL (ZcM h0 (by omega) (by omega) hm' (ZtR m t h hp (.inr rfl) (.inl hv)))
theorem ZtU (m : Mem sz n H V) (t : Tb b W K clk) (h : k < n) (hp : stt sz H k = 2) {j : Nat} (hj : j < n) (hpj : stt sz H j = 1) (hne : 0 < ks.length) (hk : ∀ y ∈ ks, y < n) (hc : Za9 (Zbx sz H V n) 2 (rr sz j) N = some (.r1 (ks.map (rfk sz)))) (hN : 100 ≤ N) (hm : ks.length + 3 ≤ most) (hm' : most ≤ 60) (h0 : 0 ≤ now) (h1 : now ≤ 80000) (g : Nat) (hg : N = g + ks.length + 1) :
  ∃ H'', Mem sz n H'' V ∧ run now most [XX 1 (rr sz k) f 2 (rr sz j)] 0 false ce mo r0 r1 er 1 H V W K clk N = Zaw (rst now most [XX 1 (rr sz k) f 2 (rr sz j)] 0 false ce mo r0 r1 er 1 H V W K clk N) g (.h1m0 H'' V W K (now + 1 + (ks.length : Int)) (1 + ks.length) [⟨1, 2, rr sz k, f, 2, rr sz j, 0, 0, (rcn sz k : Int), 0, 0, 0, 0, 0, 0, 0⟩] 0 false ce mo r0 r1 er 4 clk (ks.map (rfk sz)) ks.length 0) := by
 have wl := t.wl
 obtain ⟨H'', m2, e2⟩ := ZuU (X := ⟨1, 2, rr sz k, f, 2, rr sz j, 0, 0, (rcn sz k : Int), 0, 0, 0, 0, 0, 0, 0⟩) (W := W) (K := K) (clk := clk) (ver := 0) (wr := false) (ce := ce) (mo := mo) (r0 := r0) (r1 := r1) (er := er) (zH := H) (z0 := now) (z3 := 0) (z4 := false) (z5 := ce) (z6 := mo) (z7 := r0) (z8 := r1) (z9 := er) (zp := 1) (zc := clk) (zL := [XX 1 (rr sz k) f 2 (rr sz j)]) (zV := V) (zW := W) (zK := K) (N := N) (most := most) d01 d12 (by omega) hk hm hm' (show 0 ≤ now + 1 by omega) (by omega) ks.length 0 H g (by omega) m
 refine ⟨H'', m2, rnI.trans (Eq.trans ?_ e2)⟩
 rw [show Zaw (rst now most [XX 1 (rr sz k) f 2 (rr sz j)] 0 false ce mo r0 r1 er 1 H V W K clk N) N = Zaw (rst now most [XX 1 (rr sz k) f 2 (rr sz j)] 0 false ce mo r0 r1 er 1 H V W K clk N) (g + ks.length + 1) from congrArg _ hg]
 refine ZL ?_
 have := ZcM (z0 := now) (z3 := 0) (z4 := false) (z5 := ce) (z6 := mo) (z7 := r0) (z8 := r1) (z9 := er) (zp := 1) (zc := clk) (zL := [XX 1 (rr sz k) f 2 (rr sz j)]) (zH := H) (zV := V) (zW := W) (zK := K) (i := 0) (most := most) h0 (by omega) (by omega) hm' (ZvR (f := f) (ver := 0) (wr := false) (ce := ce) (mo := mo) (r0 := r0) (r1 := r1) (er := er) (p6 := 0) (p7 := 0) (rc := 0) (w9 := 0) (w10 := 0) (w11 := 0) (g12 := 0) (g13 := 0) (e14 := 0) (s15 := 0) (M := []) (u := 0) (l := 0) (now := now + 1) m t h hp (.inr rfl) hj hpj hc hN)
 rw [List.length_map] at this
 have e : nxt (ks.length - 0) = 3 := by unfold nxt; rw [if_neg (by omega)]
 rw [e]
 exact this.trans (by simp)
end Pn
namespace Pn
open Pg
set_option linter.unusedVariables false
set_option linter.unusedSimpArgs false
variable {sz : Nat → Nat} {n k : Nat} {H : List RJ} {V : List RH} {N : Nat} {W K : List Int} {clk b now ver mo r0 r1 er most : Int} {wr ce : Bool} {M : List RH} {u l : Nat}
theorem ofn (h : H.length ≤ 137) : Zcn 1 (((H.length + 1 : Nat) : Int)) N = some .r0 := by
 unfold Zcn
 exact Za (by decide) <| Za (by decide) <| Za (by omega) <| Za (by omega) rfl
def nH (H : List RJ) (f : Nat) : List RJ := (H ++ List.replicate (f + 1) (⟨0, 0, 0, 0, 0⟩ : RJ)).set H.length ⟨1, (f : Int), 1, 1, 1⟩
def nV (H : List RJ) (V : List RH) : Nat → List RH
 | 0 => V
 | 1 => (V ++ List.replicate 2 (⟨0, 0⟩ : RH)).set (H.length + 1) ⟨2, 0⟩
 | 2 => ((V ++ List.replicate 3 (⟨0, 0⟩ : RH)).set (H.length + 1) ⟨2, 0⟩).set (H.length + 2) ⟨1, 0⟩
 | _ => (((V ++ List.replicate 4 (⟨0, 0⟩ : RH)).set (H.length + 1) ⟨2, 0⟩).set (H.length + 2) ⟨1, 0⟩).set (H.length + 3) ⟨1, 0⟩
theorem Mem.made (m : Mem sz n H V) (h : n < 31) {f : Nat} (f1 : 1 ≤ f) (f3 : f ≤ 3) : Mem (upd sz n f) (n + 1) (nH H f) (nV H V f) := by
 have hl := m.hl
 have vl := m.vl
 have lh : (nH H f).length = ad sz n + f + 1 := by unfold nH; simp; omega
 have gh : ∀ i, i < ad sz n → (nH H f).getD i zh = H.getD i zh := fun i hi => by
  unfold nH; rw [Zb0 (by omega), ZfC (by omega)]
 have gn : (nH H f).getD (ad sz n) zh = ⟨1, (f : Int), 1, 1, 1⟩ := by
  unfold nH; rw [← hl]; exact Zbh (by simp)
 rcases (by omega : f = 1 ∨ f = 2 ∨ f = 3) with rfl | rfl | rfl
 ·refine m.new h f1 f3 lh (by simp [nV]; omega) gh gn (fun i hi => ?_) ?_ (fun q q1 q2 => by omega)
  ·simp only [nV]; rw [Zb0 (by omega), ZfC (by omega)]
  ·simp only [nV]; rw [← hl]; exact Zbh (by simp; omega)
 ·refine m.new h f1 f3 lh (by simp [nV]; omega) gh gn (fun i hi => ?_) ?_ (fun q q1 q2 => ?_)
  ·simp only [nV]; rw [Zb0 (by omega), Zb0 (by omega), ZfC (by omega)]
  ·simp only [nV]; rw [← hl, Zb0 (by omega)]; exact Zbh (by simp; omega)
  ·obtain rfl : q = 1 := by omega
   simp only [nV]; rw [← hl, show H.length + 1 + 1 = H.length + 2 by omega]; exact Zbh (by simp; omega)
 ·refine m.new h f1 f3 lh (by simp [nV]; omega) gh gn (fun i hi => ?_) ?_ (fun q q1 q2 => ?_)
  ·simp only [nV]; rw [Zb0 (by omega), Zb0 (by omega), Zb0 (by omega), ZfC (by omega)]
  ·simp only [nV]; rw [← hl, Zb0 (by omega), Zb0 (by omega)]; exact Zbh (by simp; omega)
  ·rcases (by omega : q = 1 ∨ q = 2) with rfl | rfl
   ·simp only [nV]; rw [← hl, show H.length + 1 + 1 = H.length + 2 by omega, Zb0 (by omega)]; exact Zbh (by simp; omega)
   ·simp only [nV]; rw [← hl, show H.length + 1 + 2 = H.length + 3 by omega]; exact Zbh (by simp; omega)
theorem ZvW (m : Mem sz n H V) (t : Tb b W K clk) (h : n < 31) {f : Nat} (f1 : 1 ≤ f) (f3 : f ≤ 3) : stp now [⟨2, 0, 0, 0, 0, 0, (f : Int), 1, 0, 0, 0, 0, 0, 0, 0, 0⟩] ver wr ce mo r0 r1 er 2 H V W K clk M u l N = some (.r1 (nH H f) (nV H V f)) := by
 have hl := m.hl
 have vl := m.vl
 have al := m.al
 have wl := t.wl
 have ho := ofn (H := H) (N := N) (by omega)
 show Zn _ _ _ _ _ _ _ _ _ _ _ _ _ _ _ _ _ _ _ _ _ _ _ _ _ _ _ _ _ _ _ _ _ _ = _
 unfold Zn
 rcases (by omega : f = 1 ∨ f = 2 ∨ f = 3) with rfl | rfl | rfl
 ·have ha : ZbF 1 300 H V N = some .r1 := by
   unfold ZbF
   exact Za (by decide) <| Zd (by decide) <| Zd (by decide) <| Za (by omega) <| Za (by omega) <| Zd (by omega) <| Za (by omega) <| Za (by omega) <| Za (by omega) <| Zi ho rfl
  exact Za (by decide) <| Za (by decide) <| Za (by decide) <| Za (by omega) <| Za (by decide) <| Za (by decide) <| Za (.inl (by decide)) <| Za (.inr rfl) <| Zd (by decide) <| Zd (by decide) <| Za (by decide) <| Za rfl <| Za rfl <| Zi ha rfl
 ·have ha : Zbm 1 300 H V N = some .r1 := by
   unfold Zbm
   exact Za (by decide) <| Zd (by decide) <| Zd (by decide) <| Za (by omega) <| Za (by omega) <| Zd (by omega) <| Za (by omega) <| Za (by omega) <| Za (by omega) <| Za (by omega) <| Zi ho rfl
  exact Za (by decide) <| Za (by decide) <| Za (by decide) <| Za (by omega) <| Za (by decide) <| Za (by decide) <| Za (.inl (by decide)) <| Za (.inr rfl) <| Zd (by decide) <| Zd (by decide) <| Za (by decide) <| Zd (by decide) <| Za rfl <| Za rfl <| Zi ha rfl
 ·have ha : Zbn 1 300 H V N = some .r1 := by
   unfold Zbn
   exact Za (by decide) <| Zd (by decide) <| Zd (by decide) <| Za (by omega) <| Za (by omega) <| Zd (by omega) <| Za (by omega) <| Za (by omega) <| Za (by omega) <| Za (by omega) <| Za (by omega) <| Zi ho rfl
  exact Za (by decide) <| Za (by decide) <| Za (by decide) <| Za (by omega) <| Za (by decide) <| Za (by decide) <| Za (.inl (by decide)) <| Za (.inr rfl) <| Zd (by decide) <| Zd (by decide) <| Za (by decide) <| Zd (by decide) <| Zd (by decide) <| Za rfl <| Za rfl <| Zi ha rfl
end Pn
end Ev
end Go.Proofs.YtiijipocjellpaaGreat
namespace Go.Proofs.YtiijipocjellpaaGreat
open Go.IntKind (i64)
open Go.RowKit
namespace Ev
namespace Pn
open Pg
set_option linter.unusedVariables false
set_option linter.unusedSimpArgs false
theorem Zo4 {a1 a2 a3 a4 a5 a6 a7 a8 a9 a10 a11 a12 a13 a14 a15 a16 : Int} {b17 : Bool} {L18 : List RO} {a19 : Int} {b20 b21 : Bool} {a22 a23 a24 a25 a26 a28 : Int} {L29 : List RG} {a30 a31 a32 a33 a34 a35 a36 a37 : Int} {L38 : List RJ} {L39 : List RH} {L40 L41 : List Int} {a42 a43 a44 a45 : Int} {L46 : List Int} {L47 : List RH} {n48 n49 N : Nat} : ZY 0 a1 a2 a3 a4 a5 a6 a7 a8 a9 a10 a11 a12 a13 a14 a15 a16 b17 L18 a19 b20 b21 a22 a23 a24 a25 a26 0 a28 L29 a30 a31 a32 a33 a34 a35 a36 a37 L38 L39 L40 L41 a42 a43 a44 a45 L46 L47 n48 n49 N = some (.r0 1) := by
 unfold ZY
 exact Za rfl <| Za rfl <| Zd (by decide) rfl
theorem Zo5 {a1 a2 a3 a4 a5 a6 a7 a8 a9 a10 a11 a12 a13 a14 a15 a16 : Int} {b17 : Bool} {L18 : List RO} {a19 : Int} {b20 b21 : Bool} {a22 a23 a24 a25 a26 a28 : Int} {L29 : List RG} {a30 a31 a32 a33 a34 a35 a36 a37 : Int} {L38 : List RJ} {L39 : List RH} {L40 L41 : List Int} {a42 a43 a44 a45 : Int} {L46 : List Int} {L47 : List RH} {n48 n49 N : Nat} : ZY 1 a1 a2 a3 a4 a5 a6 a7 a8 a9 a10 a11 a12 a13 a14 a15 a16 b17 L18 a19 b20 b21 a22 a23 a24 a25 a26 0 a28 L29 a30 a31 a32 a33 a34 a35 a36 a37 L38 L39 L40 L41 a42 a43 a44 a45 L46 L47 n48 n49 N = some (.r0 1) := by
 unfold ZY
 exact Za rfl <| Za rfl <| Zd (by decide) rfl
theorem ZuW {a1 a2 a3 a4 a5 a6 a7 a8 a9 a10 a11 a12 a13 a14 a15 a16 : Int} {b17 : Bool} {L18 : List RO} {a19 : Int} {b20 b21 : Bool} {a22 a23 a24 a25 a26 a28 : Int} {L29 : List RG} {a30 a31 a32 a33 a34 a35 a36 a37 : Int} {L38 : List RJ} {L39 : List RH} {L40 L41 : List Int} {a42 a43 a44 a45 : Int} {L46 : List Int} {L47 : List RH} {n48 n49 N : Nat} : ZY 2 a1 a2 a3 a4 a5 a6 a7 a8 a9 a10 a11 a12 a13 a14 a15 a16 b17 L18 a19 b20 b21 a22 a23 a24 a25 a26 0 a28 L29 a30 a31 a32 a33 a34 a35 a36 a37 L38 L39 L40 L41 a42 a43 a44 a45 L46 L47 n48 n49 N = some (.r0 2) := by
 unfold ZY
 exact Za rfl <| Za rfl <| Za rfl rfl
variable {L0 : List RN} {sz : Nat → Nat} {n k i kk u l : Nat} {H H' : List RJ} {V V' : List RH} {N : Nat} {W K : List Int} {clk b now ver mo r0 r1 er a x f c0 c1 c2 c3 c4 c5 c6 c7 : Int} {wr ce own : Bool} {M : List RH} {L : List RM}
def rfs (sz : Nat → Nat) (n : Nat) : List RH := (List.range n).map (rfk sz)
theorem Zsc : (rfs sz n).length = n := by simp [rfs]
theorem ZvX (h : k < n) : (rfs sz n).getD k RH.z = rfk sz k := by simp [rfs, h]
theorem ZuX {g : Nat} (m : Mem sz n H V) : rfs sz n ++ [⟨2, (1 : Int) * 1048576 + ((H.length + 1 : Nat) : Int)⟩] = rfs (upd sz n g) (n + 1) := by
 have hl := m.hl
 have e : (⟨2, (1 : Int) * 1048576 + ((H.length + 1 : Nat) : Int)⟩ : RH) = rfk (upd sz n g) n := by
  unfold rfk
  rw [ZqK (Nat.le_refl n)]
  unfold rr
  rw [show (1 : Int) * 1048576 + ((H.length + 1 : Nat) : Int) = 1048577 + (ad sz n : Int) by omega]
 rw [e]
 unfold rfs
 rw [List.range_succ, List.map_append]
 refine congrArg (· ++ _) (List.map_congr_left fun j hj => ?_)
 have := List.mem_range.1 hj
 unfold rfk
 rw [ZqK (by omega)]
theorem tm {x : Int} (h : 0 ≤ x) (hn : 0 < n) : 0 ≤ Int.tmod x (n : Int) ∧ (Int.tmod x (n : Int)).toNat < n := by
 have e : Int.tmod x (n : Int) = x % (n : Int) := Int.tmod_eq_emod_of_nonneg h
 have h1 := Int.emod_nonneg x (show (n : Int) ≠ 0 by omega)
 have h2 := Int.emod_lt_of_pos x (show (0 : Int) < n by omega)
 rw [e]; omega
theorem ZtV (h0 : 0 < n) {R p q : Int} (hr : ¬ R < 0) : ∃ k, k < n ∧ ZbN (rfs sz n) R p q N = some (.r0 2 (rr sz k)) := by
 obtain ⟨i1, i2⟩ := tm (n := n) (x := R) (by omega) h0
 refine ⟨_, i2, ?_⟩
 unfold ZbN
 rw [Zsc, ZvX i2]
 exact Zd hr <| Zd (by omega) <| Za i1 <| Za i2 rfl
theorem kn (h0 : 0 < n) {R : Int} : ∃ x, ZbN (rfs sz n) R 2 0 N = some (.r0 2 x) ∧ (x = 0 ∨ ∃ k, k < n ∧ x = rr sz k) := by
 by_cases hr : R < 0
 ·refine ⟨0, ?_, .inl rfl⟩
  unfold ZbN
  exact Za hr rfl
 ·obtain ⟨k, hk, e⟩ := ZtV (sz := sz) (N := N) (p := 2) (q := 0) h0 hr
  exact ⟨_, e, .inr ⟨k, hk, rfl⟩⟩
theorem vl_is (h0 : 0 < n) : ∃ a x, Zci (rfs sz n) c0 c1 c2 c3 c4 c5 c6 c7 N = some (.r0 a x) ∧ (a = 1 ∨ a = 2 ∧ ∃ j, j < n ∧ x = rr sz j) := by
 by_cases hr : c4 < 0
 ·refine ⟨1, c3, ?_, .inl rfl⟩
  unfold Zci
  exact Za hr rfl
 ·obtain ⟨k, hk, e⟩ := ZtV (sz := sz) (N := N) (p := c6) (q := c7) h0 hr
  refine ⟨2, rr sz k, ?_, .inr ⟨rfl, k, hk, rfl⟩⟩
  unfold Zci
  exact Zd hr <| Zi e rfl
def VK (sz : Nat → Nat) (n : Nat) (H : List RJ) (V : List RH) (a x : Int) (kk : Nat) : Prop := Pub sz n H a x ∧ kk = 0 ∨ ∃ (j : Nat) (ks : List Nat), j < n ∧ a = 2 ∧ x = rr sz j ∧ stt sz H j = 1 ∧ 0 < ks.length ∧ ks.length ≤ 31 ∧ (∀ y ∈ ks, y < n) ∧ Za9 (Zbx sz H V n) 2 (rr sz j) 100000 = some (.r1 (ks.map (rfk sz))) ∧ kk = ks.length
theorem VK.vl (h : VK sz n H V a x kk) : Vl sz n a x ∧ kk ≤ 31 := by
 rcases h with ⟨h, rfl⟩ | ⟨j, ks, hj, rfl, rfl, _, _, h31, _, _, rfl⟩
 ·rcases h with h | ⟨h, j, hj, e, _⟩
  ·exact ⟨.inl h, by omega⟩
  ·exact ⟨.inr ⟨h, j, hj, e⟩, by omega⟩
 ·exact ⟨.inr ⟨rfl, j, hj, rfl⟩, h31⟩
theorem Zw8 (m : Mem sz n H V) (t : Tb b W K clk) (h : k < n) (hp : stt sz H k = 2) (hv : VK sz n H V a x kk) (h0 : 0 ≤ now) (h1 : now ≤ 80000) : ∃ H'' M u l, Mem sz n H'' V ∧ ∀ g, 100000 = g + kk + 1 →
  run now 60 [XX 1 (rr sz k) f a x] 0 false ce mo r0 r1 er 1 H V W K clk 100000 = Zaw (rst now 60 [XX 1 (rr sz k) f a x] 0 false ce mo r0 r1 er 1 H V W K clk 100000) g (.h1m0 H'' V W K (now + 1 + (kk : Int)) (1 + kk) [⟨1, 2, rr sz k, f, a, x, 0, 0, (rcn sz k : Int), 0, 0, 0, 0, 0, 0, 0⟩] 0 false ce mo r0 r1 er 4 clk M u l) := by
 rcases hv with ⟨hv, rfl⟩ | ⟨j, ks, hj, rfl, rfl, hpj, hne, h31, hk, hc, rfl⟩
 ·refine ⟨H, [], 0, 0, m, fun g hg => ?_⟩
  have e : now + 1 + ((0 : Nat) : Int) = now + 1 := by omega
  rw [e]
  exact ZuV m t h hp hv h0 (by omega) (by decide) (by decide) hg
 ·obtain ⟨H'', m2, e2⟩ := ZtU (f := f) (ce := ce) (mo := mo) (r0 := r0) (r1 := r1) (er := er) (most := 60) (N := 100000) m t h hp hj hpj hne hk hc (by decide) (by omega) (by decide) h0 h1 (100000 - ks.length - 1) (by omega)
  refine ⟨H'', ks.map (rfk sz), ks.length, 0, m2, fun g hg => ?_⟩
  obtain rfl : g = 100000 - ks.length - 1 := by omega
  exact e2
theorem Zw9 (m : Mem sz n H V) (t : Tb b W K clk) (hb : b ≤ 99) (h : k < n) (hp : stt sz H k = 2) (hv : VK sz n H V a x kk) (h0 : 0 ≤ now) (h1 : now ≤ 80000) : ∃ L' H'' V'' W' K' c' ver' wr' mo' e' nw' M u l, Mem sz n H'' V'' ∧ Tb (b + 1) W' K' c' ∧ now < mo' ∧ mo' ≤ nw' ∧ nw' ≤ now + 70 ∧
  run now 60 [XX 1 (rr sz k) f a x] 0 false ce mo r0 r1 er 1 H V W K clk 100000 = some (.r0 H'' V'' W' K' nw' true L' ver' wr' true mo' 0 0 e' 0 c' M u l) ∧
  ∃ p q e, Zr 2 (rr sz k) f 300 H'' V'' 100000 = some (.r0 p q e) ∧ (nw' = now + 6 + kk ∧ e' = 0 ∧ p = a ∧ q = x ∧ e = 0 ∨ nw' = now + 5 + kk ∧ ¬ e' = 0) := by
 obtain ⟨hvl, h31⟩ := hv.vl
 obtain ⟨H'', M, u, l, m2, hgo⟩ := Zw8 (f := f) (ce := ce) (mo := mo) (r0 := r0) (r1 := r1) (er := er) m t h hp hv h0 h1
 obtain ⟨w0, w1, w2⟩ := t.w (rcn sz k) ZcD
 have c0 := t.c0
 have cb := t.cb
 by_cases hf : 0 ≤ f ∧ f < (sz k : Int)
 ·obtain ⟨g, rfl⟩ : ∃ g : Nat, f = (g : Int) := ⟨f.toNat, by omega⟩
  have hg : g < sz k := by omega
  have hl := ZjY (N := 100000) m2 h hg
  have hs := Zpc (N := 100000) m2 h hg hvl
  by_cases hbit : (a = 2 ↔ bit k g)
  ·rw [if_pos hbit] at hs
   obtain ⟨L', e⟩ := ZvV (z0 := now) (z3 := 0) (z4 := false) (z5 := ce) (z6 := mo) (z7 := r0) (z8 := r1) (z9 := er) (zp := 1) (zc := clk) (zL := [XX 1 (rr sz k) (g : Int) a x]) (zH := H) (zV := V) (zW := W) (zK := K) (p6 := 0) (p7 := 0) (w9 := 0) (w10 := 0) (w11 := 0) (g12 := 0) (g13 := 0) (e14 := 0) (s15 := 0) (ce := ce) (mo := mo) (r0 := r0) (r1 := r1) (er := er) (M := M) (u := u) (l := l) (i := 1 + kk) (most := 60) (now := now + 1 + (kk : Int)) m2 t h hl hs (by omega) (by omega) (by omega) (by decide) (99994 - kk)
   have m3 := m2.store h hg hvl hbit
   have hl3 := ZjY (N := 100000) m3 h hg
   have vl := m2.vl
   have := m2.ak h
   rw [Zbh (by omega)] at hl3
   refine ⟨L', H'', _, _, _, clk + 1, clk + 1, true, _, 0, _, M, u, l, m3, t.done ZcD hb (by omega) (by omega) (by omega) (by omega), ?_, ?_, ?_, (hgo (99994 - kk + 5) (by omega)).trans e, a, x, 0, hl3, .inl ⟨by omega, rfl, rfl, rfl, rfl⟩⟩ <;> omega
  ·rw [if_neg hbit] at hs
   obtain ⟨L', e⟩ := ZtT (z0 := now) (z3 := 0) (z4 := false) (z5 := ce) (z6 := mo) (z7 := r0) (z8 := r1) (z9 := er) (zp := 1) (zc := clk) (zL := [XX 1 (rr sz k) (g : Int) a x]) (zH := H) (zV := V) (zW := W) (zK := K) (p6 := 0) (p7 := 0) (w9 := 0) (w10 := 0) (w11 := 0) (g12 := 0) (g13 := 0) (e14 := 0) (s15 := 0) (ce := ce) (mo := mo) (r0 := r0) (r1 := r1) (er := er) (M := M) (u := u) (l := l) (i := 1 + kk) (most := 60) (now := now + 1 + (kk : Int)) m2 t h hl hs (by decide) (by omega) (by omega) (by omega) (by decide) (99995 - kk)
   refine ⟨L', H'', _, _, _, clk, _, false, _, 10, _, M, u, l, m2, t.done ZcD hb (by omega) (by omega) (by omega) (by omega), ?_, ?_, ?_, (hgo (99995 - kk + 4) (by omega)).trans e, _, _, 0, hl, .inr ⟨by omega, by decide⟩⟩ <;> omega
 ·have hl := Znj (N := 100000) m2 h (f := f) (by omega)
  obtain ⟨L', e⟩ := ZsT (z0 := now) (z3 := 0) (z4 := false) (z5 := ce) (z6 := mo) (z7 := r0) (z8 := r1) (z9 := er) (zp := 1) (zc := clk) (zL := [XX 1 (rr sz k) f a x]) (zH := H) (zV := V) (zW := W) (zK := K) (p6 := 0) (p7 := 0) (w9 := 0) (w10 := 0) (w11 := 0) (g12 := 0) (g13 := 0) (e14 := 0) (s15 := 0) (a := a) (x := x) (ce := ce) (mo := mo) (r0 := r0) (r1 := r1) (er := er) (M := M) (u := u) (l := l) (i := 1 + kk) (most := 60) (now := now + 1 + (kk : Int)) m2 t h hl (by decide) (by omega) (by omega) (by omega) (by decide) (99995 - kk)
  refine ⟨L', H'', _, _, _, clk, _, false, _, 22, _, M, u, l, m2, t.done ZcD hb (by omega) (by omega) (by omega) (by omega), ?_, ?_, ?_, (hgo (99995 - kk + 4) (by omega)).trans e, _, _, 22, hl, .inr ⟨by omega, by decide⟩⟩ <;> omega
abbrev LS (L0 : List RN) := Zbg L0 100000
def G3 (i : Nat) (was : Int) (n : Nat) (b : Int) (y : law18_PlainAloneX) : Prop := ∃ sz n' now' L ver wr ce mo r0 r1 er H V W K clk M u l, y = .h3m0 (rfs sz n') now' i was true L ver wr ce mo r0 r1 er 0 H V W K clk M u l ∧ Mem sz n' H V ∧ n' ≤ n + 1 ∧ Tb (b + 1) W K clk ∧ was < mo ∧ mo ≤ now' ∧ now' ≤ was + 70
theorem ZvY (m : Mem sz n H V) (hn : n < 31) (t : Tb b W K clk) (hb : b ≤ 99) (h0 : 0 ≤ now) (h1 : now ≤ 80000) (hk : IntKind.u64.wrap c1 % 3 = 0) {rx va vx : Int} :
  ∃ y, LS L0 (.h2m0 (rfs sz n) now i own kk now L ver wr ce mo r0 r1 er 0 c0 c1 c2 c3 c4 c5 c6 c7 2 rx va vx H V W K clk M u l) = some (.inl y) ∧ G3 i now n b y := by
 obtain ⟨g, hg, g1, g3⟩ : ∃ g : Nat, (1 : Int) + IntKind.u64.wrap c3 % 3 = (g : Int) ∧ 1 ≤ g ∧ g ≤ 3 := ⟨(1 + IntKind.u64.wrap c3 % 3).toNat, by omega, by omega, by omega⟩
 have hr : run now 3 [⟨2, 0, 0, 0, 0, 0, (g : Int), 1, 0, 0, 0, 0, 0, 0, 0, 0⟩] 0 false false mo 0 0 0 2 H V W K clk 100000 = some (.r1 W K (now + 1) [⟨2, 0, 0, 0, 0, 0, (g : Int), 1, 0, 0, 0, 0, 0, 0, 0, 0⟩] 0 false (now + 1) ((1 : Int) * 1048576 + ((H.length + 1 : Nat) : Int)) (nH H g) (nV H V g) clk [] 0 0) :=
  rnI.trans (Zam (n := 99999) (Zw7 h0 (by omega) (by decide) (ZvW m t hn g1 g3)))
 have hw : i64.wrap (now + 1) = now + 1 := w64 (by omega) (by omega)
 refine ⟨_, ?_, upd sz n g, n + 1, now + 1, [⟨2, 0, 0, 0, 0, 0, (g : Int), 1, 0, 0, 0, 0, 0, 0, 0, 0⟩], 0, false, true, now + 1, 2, (1 : Int) * 1048576 + ((H.length + 1 : Nat) : Int), 0, nH H g, nV H V g, W, K, clk, [], 0, 0, rfl, m.made hn g1 g3, by omega, t.up hb, by omega, by omega, by omega⟩
 show Z3 L0 100000 (rfs sz n) now i own kk now L ver wr ce mo r0 r1 er 0 c0 c1 c2 c3 c4 c5 c6 c7 2 rx va vx H V W K clk M u l = _
 unfold Z3
 rw [hg, hw, ← ZuX m]
 exact Za hk <| Zi ZuW <| Zi hr <| Za (by rw [Zsc]; omega) <| Zd (fun q => q rfl) rfl
def RK (sz : Nat → Nat) (n : Nat) (H : List RJ) (rx : Int) (own : Bool) : Prop := rx = 0 ∧ own = false ∨ ∃ k, k < n ∧ rx = rr sz k ∧ (stt sz H k = 1 ∧ own = true ∨ stt sz H k = 2 ∧ own = false)
theorem ZwA (m : Mem sz n H V) (t : Tb b W K clk) (hb : b ≤ 99) (h0 : 0 ≤ now) (h1 : now ≤ 80000) (hk : IntKind.u64.wrap c1 % 3 = 1) {rx va vx : Int} (hr : RK sz n H rx own) :
  ∃ y, LS L0 (.h2m0 (rfs sz n) now i own kk now L ver wr ce mo r0 r1 er 0 c0 c1 c2 c3 c4 c5 c6 c7 2 rx va vx H V W K clk M u l) = some (.inl y) ∧ G3 i now n b y := by
 have hw1 : i64.wrap (now + 1) = now + 1 := w64 (by omega) (by omega)
 have hw4 : i64.wrap (now + 4) = now + 4 := w64 (by omega) (by omega)
 have fin : ∀ {nw' mo' p q e L' wr'}, now < mo' → mo' ≤ nw' → nw' ≤ now + 70 → G3 i now n b (.h3m0 (rfs sz n) nw' i now true L' 0 wr' true mo' p q e 0 H V W K clk [] 0 0) := fun h1 h2 h3 => ⟨sz, n, _, _, _, _, _, _, _, _, _, H, V, W, K, clk, _, _, _, rfl, m, by omega, t.up hb, h1, h2, h3⟩
 rcases hr with ⟨rfl, rfl⟩ | ⟨k, hkn, rfl, hs⟩
 ·obtain ⟨L', hrun⟩ := Zsb (H := H) (V := V) (N := 99999) (ce := false) (mo := mo) (r0 := 0) (r1 := 0) (er := 0) (kd := 0) (f := c3) (a := 0) (x := 0) (most := 6) t (.inl rfl) h0 (by omega) (by decide)
  refine ⟨_, ?_, fin (nw' := now + 1) (mo' := now + 1) (p := 0) (q := 0) (e := 11) (L' := L') (wr' := false) (by omega) (by omega) (by omega)⟩
  show Z3 L0 100000 (rfs sz n) now i false kk now L ver wr ce mo r0 r1 er 0 c0 c1 c2 c3 c4 c5 c6 c7 2 0 va vx H V W K clk M u l = _
  unfold Z3
  exact Zd (by omega) <| Za hk <| Zi ZqJ <| Zi Zo4 <| Zi hrun <| Zd (fun q => q rfl) <| Zd (fun q => q ⟨rfl, rfl⟩) <| Zd (fun q => q rfl) rfl
 ·have hne : ¬ rr sz k = 0 := (ZkB m hkn).2.2.2.1
  obtain ⟨p, q, e, hl, he⟩ : ∃ p q e, Zr 2 (rr sz k) c3 300 H V 100000 = some (.r0 p q e) ∧ (¬ e = 0 → p = 0 ∧ q = 0) := by
   by_cases hf : 0 ≤ c3 ∧ c3 < (sz k : Int)
   ·obtain ⟨g, rfl⟩ : ∃ g : Nat, c3 = (g : Int) := ⟨c3.toNat, by omega⟩
    exact ⟨_, _, 0, ZjY m hkn (by omega), fun q => absurd rfl q⟩
   ·exact ⟨0, 0, 22, Znj m hkn (by omega), fun _ => ⟨rfl, rfl⟩⟩
  rcases hs with ⟨hs, rfl⟩ | ⟨hs, rfl⟩
  ·obtain ⟨L', hrun⟩ := ZsR (N := 99999) (ce := false) (mo := mo) (r0 := 0) (r1 := 0) (er := 0) (a := 0) (x := 0) (most := 6) m t hkn hs hl he h0 (by omega) (by decide)
   refine ⟨_, ?_, fin (nw' := now + 1) (mo' := now + 1) (p := p) (q := q) (e := e) (L' := L') (wr' := false) (by omega) (by omega) (by omega)⟩
   show Z3 L0 100000 (rfs sz n) now i true kk now L ver wr ce mo r0 r1 er 0 c0 c1 c2 c3 c4 c5 c6 c7 2 (rr sz k) va vx H V W K clk M u l = _
   unfold Z3
   rw [hw1, hw4]
   exact Zd (by omega) <| Za hk <| Zi hl <| Zi Zo4 <| Zi hrun <| Zd (fun q => q rfl) <| Zd (fun q => q ⟨rfl, rfl⟩) <| Za hne <| Za (by omega) <| Za rfl <| Za rfl rfl
  ·obtain ⟨L', hrun⟩ := ZtS (N := 99996) (ce := false) (mo := mo) (r0 := 0) (r1 := 0) (er := 0) (most := 6) m t hkn hs hl he h0 (by omega) (by decide) (by decide)
   refine ⟨_, ?_, fin (nw' := now + 1 + 1 + 1 + 1) (mo' := now + 1 + 1 + 1) (p := p) (q := q) (e := e) (L' := L') (wr' := false) (by omega) (by omega) (by omega)⟩
   show Z3 L0 100000 (rfs sz n) now i false kk now L ver wr ce mo r0 r1 er 0 c0 c1 c2 c3 c4 c5 c6 c7 2 (rr sz k) va vx H V W K clk M u l = _
   unfold Z3
   rw [hw1, hw4]
   exact Zd (by omega) <| Za hk <| Zi hl <| Zi Zo4 <| Zi hrun <| Zd (fun q => q rfl) <| Zd (fun q => q ⟨rfl, rfl⟩) <| Za hne <| Zd (fun q => q (by omega)) rfl
theorem ZwB (m : Mem sz n H V) (t : Tb b W K clk) (hb : b ≤ 99) (h0 : 0 ≤ now) (h1 : now ≤ 80000) (hk0 : ¬ IntKind.u64.wrap c1 % 3 = 0) (hk1 : ¬ IntKind.u64.wrap c1 % 3 = 1) {rx va vx : Int} (hr : RK sz n H rx own) (hv : VK sz n H V va vx kk) :
  ∃ y, LS L0 (.h2m0 (rfs sz n) now i own kk now L ver wr ce mo r0 r1 er 0 c0 c1 c2 c3 c4 c5 c6 c7 2 rx va vx H V W K clk M u l) = some (.inl y) ∧ G3 i now n b y := by
 obtain ⟨hvl, h31⟩ := hv.vl
 have hw1 : i64.wrap (now + 1) = now + 1 := w64 (by omega) (by omega)
 have hw6 : i64.wrap (i64.wrap (now + 6) + (kk : Int)) = now + 6 + kk := by rw [w64 (x := now + 6) (by omega) (by omega)]; exact w64 (by omega) (by omega)
 have hw5 : i64.wrap (i64.wrap (now + 5) + (kk : Int)) = now + 5 + kk := by rw [w64 (x := now + 5) (by omega) (by omega)]; exact w64 (by omega) (by omega)
 have fin : ∀ {nw' mo' p q e L' ver' wr' H'' V'' W' K' c' M u l}, Mem sz n H'' V'' → Tb (b + 1) W' K' c' → now < mo' → mo' ≤ nw' → nw' ≤ now + 70 → G3 i now n b (.h3m0 (rfs sz n) nw' i now true L' ver' wr' true mo' p q e 0 H'' V'' W' K' c' M u l) := fun m t h1 h2 h3 => ⟨sz, n, _, _, _, _, _, _, _, _, _, _, _, _, _, _, _, _, _, rfl, m, by omega, t, h1, h2, h3⟩
 rcases hr with ⟨rfl, rfl⟩ | ⟨k, hkn, rfl, hs⟩
 ·obtain ⟨L', hrun⟩ := Zsb (H := H) (V := V) (N := 99999) (ce := false) (mo := mo) (r0 := 0) (r1 := 0) (er := 0) (kd := 1) (f := c3) (a := va) (x := vx) (most := 60) t (.inr rfl) h0 (by omega) (by decide)
  refine ⟨_, ?_, fin (nw' := now + 1) (mo' := now + 1) (p := 0) (q := 0) (e := 11) (L' := L') (ver' := 0) (wr' := false) (M := []) (u := 0) (l := 0) m (t.up hb) (by omega) (by omega) (by omega)⟩
  show Z3 L0 100000 (rfs sz n) now i false kk now L ver wr ce mo r0 r1 er 0 c0 c1 c2 c3 c4 c5 c6 c7 2 0 va vx H V W K clk M u l = _
  unfold Z3
  exact Zd hk0 <| Zd hk1 <| Zi Zo5 <| Zi hrun <| Zd (by decide) <| Zd (fun q => q rfl) <| Zi ZqJ <| Zd (by decide) rfl
 ·have hne : ¬ rr sz k = 0 := (ZkB m hkn).2.2.2.1
  rcases hs with ⟨hs, rfl⟩ | ⟨hs, rfl⟩
  ·obtain ⟨V'', L', e', p, q, e, m2, hrun, hl2, hq⟩ : ∃ V'' L' e' p q e, Mem sz n H V'' ∧ run now 60 [XX 1 (rr sz k) c3 va vx] 0 false false mo 0 0 0 1 H V W K clk 100000 = some (.r0 H V'' W K (now + 1) true L' 0 false true (now + 1) 0 0 e' 0 clk [] 0 0) ∧ Zr 2 (rr sz k) c3 300 H V'' 100000 = some (.r0 p q e) ∧ (e' = 0 → e = 0 ∧ p = va ∧ q = vx) := by
    by_cases hf : 0 ≤ c3 ∧ c3 < (sz k : Int)
    ·obtain ⟨g, rfl⟩ : ∃ g : Nat, c3 = (g : Int) := ⟨c3.toNat, by omega⟩
     have hg : g < sz k := by omega
     have hl := ZjY (N := 100000) m hkn hg
     have hst := Zpc (N := 100000) m hkn hg hvl
     by_cases hbit : (va = 2 ↔ bit k g)
     ·rw [if_pos hbit] at hst
      obtain ⟨L', hrun⟩ := ZnW (N := 99999) (ce := false) (mo := mo) (r0 := 0) (r1 := 0) (er := 0) (most := 60) m t hkn hs hl hst h0 (by omega) (by decide)
      have m3 := m.store hkn hg hvl hbit
      have hl3 := ZjY (N := 100000) m3 hkn hg
      have vl := m.vl
      have := m.ak hkn
      rw [Zbh (by omega)] at hl3
      exact ⟨_, L', 0, _, _, _, m3, hrun, hl3, fun _ => ⟨rfl, rfl, rfl⟩⟩
     ·rw [if_neg hbit] at hst
      obtain ⟨L', hrun⟩ := ZnW (N := 99999) (ce := false) (mo := mo) (r0 := 0) (r1 := 0) (er := 0) (most := 60) m t hkn hs hl hst h0 (by omega) (by decide)
      exact ⟨V, L', 10, _, _, _, m, hrun, hl, fun q => absurd q (by decide)⟩
    ·have hl := Znj (N := 100000) m hkn (f := c3) (by omega)
     obtain ⟨L', hrun⟩ := ZsS (N := 99999) (ce := false) (mo := mo) (r0 := 0) (r1 := 0) (er := 0) (a := va) (x := vx) (most := 60) m t hkn hs hl (by decide) h0 (by omega) (by decide)
     exact ⟨V, L', 22, _, _, _, m, hrun, hl, fun q => absurd q (by decide)⟩
   refine ⟨_, ?_, fin (nw' := now + 1) (mo' := now + 1) (p := 0) (q := 0) (e := e') (L' := L') (ver' := 0) (wr' := false) (M := []) (u := 0) (l := 0) m2 (t.up hb) (by omega) (by omega) (by omega)⟩
   show Z3 L0 100000 (rfs sz n) now i true kk now L ver wr ce mo r0 r1 er 0 c0 c1 c2 c3 c4 c5 c6 c7 2 (rr sz k) va vx H V W K clk M u l = _
   unfold Z3
   rw [hw1]
   refine Zd hk0 <| Zd hk1 <| Zi Zo5 <| Zi hrun <| Za rfl <| Zd (fun q => q rfl) <| Zi hl2 ?_
   by_cases c : e' = 0
   ·obtain ⟨x1, x2, x3⟩ := hq c
    exact Za c <| Zd (fun q => q x1) <| Zd (fun q => q ⟨x2, x3⟩) rfl
   ·exact Zd c rfl
  ·obtain ⟨L', H'', V'', W', K', c', ver', wr', mo', e', nw', M', u', l', m2, t2, q1, q2, q3, hrun, p, q, e, hl2, hq⟩ := Zw9 (f := c3) (ce := false) (mo := mo) (r0 := 0) (r1 := 0) (er := 0) m t hb hkn hs hv h0 h1
   refine ⟨_, ?_, fin (nw' := nw') (mo' := mo') (p := 0) (q := 0) (e := e') (L' := L') (ver' := ver') (wr' := wr') (M := M') (u := u') (l := l') m2 t2 q1 q2 q3⟩
   show Z3 L0 100000 (rfs sz n) now i false kk now L ver wr ce mo r0 r1 er 0 c0 c1 c2 c3 c4 c5 c6 c7 2 (rr sz k) va vx H V W K clk M u l = _
   unfold Z3
   rw [hw6, hw5]
   refine Zd hk0 <| Zd hk1 <| Zi Zo5 <| Zi hrun <| Zd (by decide) <| Za hne ?_
   rcases hq with ⟨x1, x2, x3, x4, x5⟩ | ⟨x1, x2⟩
   ·exact Zd (fun q => q x1) <| Zi hl2 <| Za x2 <| Zd (fun q => q x5) <| Zd (fun q => q ⟨x3, x4⟩) rfl
   ·exact Za (by omega) <| Za x2 <| Za x1 <| Zi hl2 rfl
theorem ZvZ (m : Mem sz n H V) (h0 : i < L0.length) (h1 : i < 30) : ∃ own kk rx va vx, LS L0 (.h1m0 (rfs sz n) now i L ver wr ce mo r0 r1 er 0 H V W K clk M u l) = some (.inl (.h2m0 (rfs sz n) now i own kk now L ver wr ce mo r0 r1 er 0 (L0.getD i RN.z).a0 (L0.getD i RN.z).a1 (L0.getD i RN.z).a2 (L0.getD i RN.z).a3 (L0.getD i RN.z).a4 (L0.getD i RN.z).a5 (L0.getD i RN.z).a6 (L0.getD i RN.z).a7 2 rx va vx H V W K clk M u l)) ∧ RK sz n H rx own ∧ VK sz n H V va vx kk := by
 have n1 := m.n1
 obtain ⟨rx, hkn, hrx⟩ := kn (sz := sz) (N := 100000) (R := (L0.getD i RN.z).a2) (show 0 < n by omega)
 obtain ⟨va, vx, hvl, hvv⟩ := vl_is (sz := sz) (N := 100000) (c0 := (L0.getD i RN.z).a0) (c1 := (L0.getD i RN.z).a1) (c2 := (L0.getD i RN.z).a2) (c3 := (L0.getD i RN.z).a3) (c4 := (L0.getD i RN.z).a4) (c5 := (L0.getD i RN.z).a5) (c6 := (L0.getD i RN.z).a6) (c7 := (L0.getD i RN.z).a7) (show 0 < n by omega)
 have ho := Zsa (N := 100000) m (by decide)
 obtain ⟨kk, hkk, hc⟩ : ∃ kk, VK sz n H V va vx kk ∧ (Zal (Zbx sz H V n) va vx 100000 = some .r0 ∧ kk = 0 ∨ ∃ C, Zal (Zbx sz H V n) va vx 100000 = some (.r1 C) ∧ kk = C.length) := by
  rcases hvv with rfl | ⟨rfl, j, hj, rfl⟩
  ·exact ⟨0, .inl ⟨.inl rfl, rfl⟩, .inl ⟨Zvk m (.inl rfl), rfl⟩⟩
  ·rcases (m.obj' hj).2.1 with hp | hp
   ·obtain ⟨ks, k1, k2, k3, k4, C, c1, c2⟩ := clos m hj hp
    exact ⟨ks.length, .inr ⟨j, ks, hj, rfl, rfl, hp, List.length_pos_iff.2 k1, k2, k3, k4, rfl⟩, .inr ⟨C, c1, c2.symm⟩⟩
   ·exact ⟨0, .inl ⟨.inr ⟨rfl, j, hj, rfl, hp⟩, rfl⟩, .inl ⟨Zvk m (.inr ⟨j, hj, rfl, hp⟩), rfl⟩⟩
 obtain ⟨own, hown, s0, s1, s2, s3, s4, s5, hh, hs⟩ : ∃ own, RK sz n H rx own ∧ ∃ s0 s1 s2 s3 s4 s5, ZZ 2 rx 300 H V 100000 = some (.r0 s0 s1 s2 s3 s4 s5) ∧ (s3 = 1 ∧ own = true ∨ ¬ s3 = 1 ∧ own = false) := by
  rcases hrx with rfl | ⟨k, hk, rfl⟩
  ·exact ⟨false, .inl ⟨rfl, rfl⟩, _, _, _, _, _, _, Zo3 (.inr rfl), .inr ⟨by decide, rfl⟩⟩
  ·rcases (m.obj' hk).2.1 with hp | hp
   ·exact ⟨true, .inr ⟨k, hk, rfl, .inl ⟨hp, rfl⟩⟩, _, _, _, _, _, _, Zc3 m hk, .inl ⟨hp, rfl⟩⟩
   ·exact ⟨false, .inr ⟨k, hk, rfl, .inr ⟨hp, rfl⟩⟩, _, _, _, _, _, _, Zc3 m hk, .inr ⟨by omega, rfl⟩⟩
 refine ⟨own, kk, rx, va, vx, ?_, hown, hkk⟩
 show Zaz L0 100000 (rfs sz n) now i L ver wr ce mo r0 r1 er 0 H V W K clk M u l = _
 unfold Zaz
 refine Za (by omega) <| Za (by omega) <| Zi hkn <| Zi hh ?_
 rcases hs with ⟨hs, rfl⟩ | ⟨hs, rfl⟩
 ·refine Za hs <| Zi hvl <| Zi ho ?_
  rcases hc with ⟨hc, rfl⟩ | ⟨C, hc, rfl⟩
  ·exact Zi hc rfl
  ·exact Zi hc rfl
 ·refine Zd hs <| Zi hvl <| Zi ho ?_
  rcases hc with ⟨hc, rfl⟩ | ⟨C, hc, rfl⟩
  ·exact Zi hc rfl
  ·exact Zi hc rfl
theorem tup (t : Tb ((i : Int) + 1) W K clk) : Tb ((i + 1 : Nat) : Int) W K clk := by
 have e : ((i + 1 : Nat) : Int) = (i : Int) + 1 := by omega
 rw [e]; exact t
theorem go : ∀ (d i : Nat) (sz : Nat → Nat) (n : Nat) (now : Int) (L : List RM) (ver : Int) (wr ce : Bool) (mo r0 r1 er : Int) (H : List RJ) (V : List RH) (W K : List Int) (clk : Int) (M : List RH) (u l f : Nat), i + d = 30 → Mem sz n H V → n ≤ i + 1 → Tb i W K clk → 0 ≤ now → now ≤ 70 * i → 3 * d < f →
  Zaw (LS L0) f (.h1m0 (rfs sz n) now i L ver wr ce mo r0 r1 er 0 H V W K clk M u l) = some .r0 := by
 intro d
 induction d with
 | zero =>
  intro i sz n now L ver wr ce mo r0 r1 er H V W K clk M u l f hd m hn t h0 h1 hf
  obtain ⟨f, rfl⟩ : ∃ j, f = j + 1 := ⟨f - 1, by omega⟩
  refine Zam ?_
  show Zaz L0 100000 (rfs sz n) now i L ver wr ce mo r0 r1 er 0 H V W K clk M u l = _
  unfold Zaz
  by_cases e : i < L0.length
  ·exact Za (by omega) <| Zd (by omega) rfl
  ·exact Zd (by omega) rfl
 | succ d ih =>
  intro i sz n now L ver wr ce mo r0 r1 er H V W K clk M u l f hd m hn t h0 h1 hf
  by_cases e : i < L0.length
  ·obtain ⟨f, rfl⟩ : ∃ j, f = j + 1 + 1 + 1 := ⟨f - 3, by omega⟩
   obtain ⟨own, kk, rx, va, vx, e1, hr, hv⟩ := ZvZ (L0 := L0) (now := now) (L := L) (ver := ver) (wr := wr) (ce := ce) (mo := mo) (r0 := r0) (r1 := r1) (er := er) (W := W) (K := K) (clk := clk) (M := M) (u := u) (l := l) m e (by omega)
   refine (ZL e1).trans ?_
   obtain ⟨y, e2, hg⟩ : ∃ y, LS L0 (.h2m0 (rfs sz n) now i own kk now L ver wr ce mo r0 r1 er 0 (L0.getD i RN.z).a0 (L0.getD i RN.z).a1 (L0.getD i RN.z).a2 (L0.getD i RN.z).a3 (L0.getD i RN.z).a4 (L0.getD i RN.z).a5 (L0.getD i RN.z).a6 (L0.getD i RN.z).a7 2 rx va vx H V W K clk M u l) = some (.inl y) ∧ G3 i now n i y := by
    by_cases k0 : IntKind.u64.wrap (L0.getD i RN.z).a1 % 3 = 0
    ·exact ZvY m (by omega) t (by omega) h0 (by omega) k0
    ·by_cases k1 : IntKind.u64.wrap (L0.getD i RN.z).a1 % 3 = 1
     ·exact ZwA m t (by omega) h0 (by omega) k1 hr
     ·exact ZwB m t (by omega) h0 (by omega) k0 k1 hr hv
   refine (ZL e2).trans ?_
   obtain ⟨sz', n', now', L', ver', wr', ce', mo', r0', r1', er', H', V', W', K', clk', M', u', l', rfl, m', hn', t', q1, q2, q3⟩ := hg
   refine (ZL (y := .h1m0 (rfs sz' n') now' (i + 1) L' ver' wr' ce' mo' r0' r1' er' 0 H' V' W' K' clk' M' u' l') ?_).trans (ih (i + 1) sz' n' now' L' ver' wr' ce' mo' r0' r1' er' H' V' W' K' clk' M' u' l' f (by omega) m' (by omega) (tup t') (by omega) (by omega) (by omega))
   show Zce L0 100000 (rfs sz' n') now' i now true L' ver' wr' ce' mo' r0' r1' er' 0 H' V' W' K' clk' M' u' l' = _
   unfold Zce
   exact Zd (fun q => q rfl) <| Zd (by omega) <| Zd (by omega) <| Za (by omega) rfl
  ·obtain ⟨f, rfl⟩ : ∃ j, f = j + 1 := ⟨f - 1, by omega⟩
   refine Zam ?_
   show Zaz L0 100000 (rfs sz n) now i L ver wr ce mo r0 r1 er 0 H V W K clk M u l = _
   unfold Zaz
   exact Zd (by omega) rfl
abbrev HD : List RJ := (⟨(1 : Int), (16 : Int), (255 : Int), (2 : Int), (0 : Int)⟩ : RJ) :: List.replicate 16 (⟨(0 : Int), (0 : Int), (0 : Int), (0 : Int), (0 : Int)⟩ : RJ)
abbrev VD : List RH := [(⟨0, 0⟩ : RH), ⟨2, 0⟩, ⟨2, 0⟩, ⟨2, 0⟩, ⟨2, 0⟩, ⟨2, 0⟩, ⟨2, 0⟩, ⟨2, 0⟩, ⟨2, 0⟩, ⟨1, 0⟩, ⟨1, 0⟩, ⟨1, 0⟩, ⟨1, 0⟩, ⟨1, 0⟩, ⟨1, 0⟩, ⟨1, 0⟩, ⟨1, 0⟩]
theorem bits : ∀ j, j < 16 → (msk 0 / 2 ^ j % 2 = 1 ↔ j < 8) := by decide
theorem mem0 : Mem (fun _ => 16) 1 HD VD := by
 refine ⟨by decide, by decide, rfl, fun k h1 h2 => by omega, rfl, rfl, fun k hk => ?_, fun k hk j hj => ?_⟩
 ·obtain rfl : k = 0 := by omega
  exact ⟨2, .inr rfl, fun _ => rfl, rfl⟩
 ·obtain rfl : k = 0 := by omega
  have hb := bits j hj
  by_cases c : j < 8
  ·refine ⟨2, 0, ?_, fun _ => ⟨rfl, .inl rfl⟩, fun q => absurd (hb.2 c) q⟩
   rcases (by omega : j = 0 ∨ j = 1 ∨ j = 2 ∨ j = 3 ∨ j = 4 ∨ j = 5 ∨ j = 6 ∨ j = 7) with rfl | rfl | rfl | rfl | rfl | rfl | rfl | rfl <;> rfl
  ·refine ⟨1, 0, ?_, fun q => absurd (hb.1 q) c, fun _ => rfl⟩
   have hj' : j < 16 := hj
   rcases (by omega : j = 8 ∨ j = 9 ∨ j = 10 ∨ j = 11 ∨ j = 12 ∨ j = 13 ∨ j = 14 ∨ j = 15) with rfl | rfl | rfl | rfl | rfl | rfl | rfl | rfl <;> rfl
theorem tb0 : Tb 0 [0, 0, 0, 0, 0] [0, 0, 0, 0, 0] 0 :=
 ⟨rfl, rfl, by decide, by decide, by decide, by decide, by decide⟩
theorem runs (L0 : List RN) : Zil L0 100000 = some .r0 :=
 (ZdU (x := law18_PlainAloneX.h1m0 (rfs (fun _ => 16) 1) 0 0 [⟨0, 0, 0, 0, 0, 0, 0, 0, 0, 0, 0, 0, 0, 0, 0, 0⟩] 0 false false 0 0 0 0 0 HD VD [0, 0, 0, 0, 0] [0, 0, 0, 0, 0] 0 [] 0 0) rfl).trans (go 30 0 (fun _ => 16) 1 0 _ _ _ _ _ _ _ _ HD VD _ _ _ _ _ _ 100000 (by decide) mem0 (by decide) tb0 (by decide) (by decide) (by decide))
end Pn
end Ev
end Go.Proofs.YtiijipocjellpaaGreat
/- A region that draws its order, whose first operations only read (and make memory in calls), and whose last ones, in a forced order among themselves, make and write new memory: but these may come up early. -/
namespace Go.Proofs.YtiijipocjellpaaGreat
open Go.RowKit

section
variable {P : Program}

end
end Go.Proofs.YtiijipocjellpaaGreat
