/- Part 7. -/
import Derived.Test.YtiijipocjellpaaGreatZaf
set_option linter.unusedSimpArgs false
set_option linter.unusedVariables false
/- Calls do what the plain functions say. -/
namespace Go.Proofs.YtiijipocjellpaaGreat
open Go.IntKind (i64)
open Go.RowKit
namespace Ev
set_option linter.unusedVariables false
set_option maxRecDepth 100000
set_option maxHeartbeats 4000000
noncomputable def Zg0 (L0 : List RL) (L1 : List RI) (L2 : List RH) : ZC → Value
 | .r0 => vn
 | .r1 w2 => vs 2 0 w2.length w2.length
noncomputable def Zgs (L0 : List RL) (L1 : List RI) (L2 : List RH) : ZC → List (Option AObj)
 | .r0 => [some (.ro (Zc L1) true), some (κI L2)]
 | .r1 w2 => [some (.ro (Zc L1) true), some (κI L2), some (.cells (Zb eI w2) 3)]

def Zkx : graph_objects_walkX → Nat
 | .h1m0 v3 => 1
 | .h1m1 v3 v5 v6 v7 => 1
 | .h1m2 v3 v5 v6 v7 v8 v9 => 1
 | .h2m0 v3 => 2
 | .h2m1 v3 v5 v6 v7 => 2
 | .h2m2 v3 v5 v6 v7 v8 v9 => 2
noncomputable abbrev κbA (L2 : List RH) := (20, vi (L2.length : Int))
noncomputable abbrev κx := #[vp 2 0, vp 5 0, vp 6 0, vp 3 0, vp 4 0]
noncomputable def ZkT (L0 : List RL) (L1 : List RI) (L2 : List RH) : graph_objects_walkX → List (Nat × Value)
 | .h1m0 v3 => [(3, vp 2 0), (7, vp 3 0), (9, vp 4 0), (10, Value.func (.func 192) #[] κx), (19, vs 1 0 L2.length L2.length), (κbA L2), (21, vi (v3 : Int))]
 | .h1m1 v3 v5 v6 v7 => [(3, vp 2 0), (7, vp 3 0), (9, vp 4 0), (10, Value.func (.func 192) #[] κx), (19, vs 1 0 L2.length L2.length), (κbA L2), (21, vi (v3 : Int))]
 | .h1m2 v3 v5 v6 v7 v8 v9 => [(3, vp 2 0), (7, vp 3 0), (9, vp 4 0), (10, Value.func (.func 192) #[] κx), (19, vs 1 0 L2.length L2.length), (κbA L2), (21, vi (v3 : Int))]
 | .h2m0 v3 => [(3, vp 2 0), (7, vp 3 0), (9, vp 4 0), (10, Value.func (.func 192) #[] κx), (19, vs 1 0 L2.length L2.length), (κbA L2), (21, vi (v3 : Int))]
 | .h2m1 v3 v5 v6 v7 => [(3, vp 2 0), (7, vp 3 0), (9, vp 4 0), (10, Value.func (.func 192) #[] κx), (19, vs 1 0 L2.length L2.length), (κbA L2), (21, vi (v3 : Int))]
 | .h2m2 v3 v5 v6 v7 v8 v9 => [(3, vp 2 0), (7, vp 3 0), (9, vp 4 0), (10, Value.func (.func 192) #[] κx), (19, vs 1 0 L2.length L2.length), (κbA L2), (21, vi (v3 : Int))]
noncomputable abbrev κ2 (v5 : List Int) := [vs 7 0 v5.length v5.length]
noncomputable abbrev κn (L0 : List RL) := [ms RD L0, Value.map (some 0)]
noncomputable def ZkU (L0 : List RL) (L1 : List RI) (L2 : List RH) : graph_objects_walkX → List (Option AObj)
 | .h1m0 v3 => [some (.ro (Zc L1) true), some (κI L2), some (.cells (κn L0) 272), some (.cells [vn] 86), some (.cells [vn] 278), some (.cells [Value.map (some 7)] 270), some (.cells [Value.func (.func 186) #[] #[]] 276), some (.ro (Zc ([] : List RI)) true)]
 | .h1m1 v3 v5 v6 v7 => [some (.ro (Zc L1) true), some (κI L2), some (.cells (κn L0) 272), some (.cells (κ2 v5) 86), some (.cells [vs 8 0 v6.length v6.length] 278), some (.cells [Value.map (some 9)] 270), some (.cells [Value.func (.func 186) #[] #[]] 276), some (.cells (Zb eI v5) 3), some (.cells (Zb RB v6) 281), some (.ro (Zc v7) true)]
 | .h1m2 v3 v5 v6 v7 v8 v9 => [some (.ro (Zc L1) true), some (κI L2), some (.cells (κn L0) 272), some (.cells (κ2 v5) 86), some (.cells [vs 8 0 v7 v8] 278), some (.cells [Value.map (some 9)] 270), some (.cells [Value.func (.func 186) #[] #[]] 276), some (.cells (Zb eI v5) 3), some (.cells (Zb RB v6) 281), some (.ro (Zc v9) true)]
 | .h2m0 v3 => [some (.ro (Zc L1) true), some (κI L2), some (.cells (κn L0) 272), some (.cells [vn] 86), some (.cells [vn] 278), some (.cells [Value.map (some 7)] 270), some (.cells [Value.func (.func 186) #[] #[]] 276), some (.ro (Zc ([] : List RI)) true)]
 | .h2m1 v3 v5 v6 v7 => [some (.ro (Zc L1) true), some (κI L2), some (.cells (κn L0) 272), some (.cells (κ2 v5) 86), some (.cells [vs 8 0 v6.length v6.length] 278), some (.cells [Value.map (some 9)] 270), some (.cells [Value.func (.func 186) #[] #[]] 276), some (.cells (Zb eI v5) 3), some (.cells (Zb RB v6) 281), some (.ro (Zc v7) true)]
 | .h2m2 v3 v5 v6 v7 v8 v9 => [some (.ro (Zc L1) true), some (κI L2), some (.cells (κn L0) 272), some (.cells (κ2 v5) 86), some (.cells [vs 8 0 v7 v8] 278), some (.cells [Value.map (some 9)] 270), some (.cells [Value.func (.func 186) #[] #[]] 276), some (.cells (Zb eI v5) 3), some (.cells (Zb RB v6) 281), some (.ro (Zc v9) true)]

noncomputable def Zv : Nat → Code × List Zay
 | 1 => Zck [1, 1, 1, 1, 1, 0, 1, 3] (ZcP Tryz.f185) []
 | 2 => Zck [1, 1, 1, 1, 1, 0, 1, 3, 7, 1, 1, 0, 3, 1, 1, 3] (ZcP Tryz.f185) []
 | _ => (.skip, [])
def Zgt : Nat → Bool
 | 1 => true
 | 2 => true
 | _ => true
noncomputable def ZD (i : Nat) : List Zay := match Zgt i with | true => .rnd i :: (Zv i).2 | false => (Zv i).2

noncomputable def ZI (L0 : List RL) (L1 : List RI) (L2 : List RH) (N : Nat) : Mach := ⟨Tryz.f185, [.ro (Zc L1) true, .cells (Zb RB L2) 42], graph_objects_walkX, ZC, Zaf L0 L1 L2 N, Zkx, Zv, Zgt, ZkT L0 L1 L2, ZkU L0 L1 L2, Zg0 L0 L1 L2, Zgs L0 L1 L2⟩

noncomputable abbrev κO (L2 : List RH) := (vs 1 0 L2.length L2.length)
noncomputable abbrev κK (L2 : List RH) := (vi (L2.length : Int))
theorem Zip (L0 : List RL) (L1 : List RI) (L2 : List RH) (v3 N : Nat) : (ZI L0 L1 L2 N).Ok Tryz.prog Zu (.h1m0 v3 : graph_objects_walkX) (Zaf L0 L1 L2 N (.h1m0 v3 : graph_objects_walkX)) := by
 show (ZI L0 L1 L2 N).Ok Tryz.prog Zu (.h1m0 v3 : graph_objects_walkX) (Zao L0 L1 L2 N v3)
 unfold Zao
 refine Mach.ok_ite (fun g0 => ?_) (fun g0 => ?_)
 ·
  have w1 := kLn RB L2 v3 0 2 <| kB v3 L2.length <| kI (v3 : Int) (Int.ofNat v3) <| hY g0 Zk
  refine Mach.ok_bind (fun z1 c1 => ?_)
  cases z1 with
  | r0 =>
   exact Mach.okH (Zv 2) (Zj (oq [1]) [] [(0, v3)] [(0, (RB.cel (L2.getD v3 RH.z)))] [(1, (Zf2 c1 [2, 5, 6, 3, 4, 0, 7] 9).t)]) (rg 0 8 []) [some (vp 2 0), some (vp 3 0), some (vp 4 0), some (Value.func (.func 192) #[] κx), some (κO L2), some (κK L2), some (vi (v3 : Int))] (kK (Zjl c1 [2, 5, 6, 3, 4, 0, 7] 9) w1) (tC (tC (tC (tC (tC (tC (tC (tE)))))))) (bC (o := .ro (Zc L1) true) (show Zc L1 = Zc L1 from rfl) <| bR <| bS (κn L0) <| bS [vn] <| bS [vn] <| bS [Value.map (some 7)] <| bS [Value.func (.func 186) #[] #[]] <| bC (o := .ro (Zc ([] : List RI)) true) (show Zc ([] : List RI) = Zc ([] : List RI) from rfl) <| bE) (show ∀ j ∈ Zt (Zv 2).2, j ∈ Zt (ZD 1) from by decide +kernel)
  | r1 y1_0 y1_1 y1_2 =>
   exact Mach.okH (Zv 2) (Zj (oq [1]) [] [(0, v3)] [(0, (RB.cel (L2.getD v3 RH.z)))] [(1, (Zf3 c1 [2, 5, 6, 3, 4, 0, 7] 9).t)]) (rg 0 7 (9 :: (10 :: [7]))) [some (vp 2 0), some (vp 3 0), some (vp 4 0), some (Value.func (.func 192) #[] κx), some (κO L2), some (κK L2), some (vi (v3 : Int))] (kK (Zjm c1 [2, 5, 6, 3, 4, 0, 7] 9) w1) (tC (tC (tC (tC (tC (tC (tC (tE)))))))) (bC (o := .ro (Zc L1) true) (show Zc L1 = Zc L1 from rfl) <| bR <| bS (κn L0) <| bS [vs 9 0 y1_1.length y1_1.length] <| bS [vs 10 0 y1_2.length y1_2.length] <| bS [Value.map (some 7)] <| bS [Value.func (.func 186) #[] #[]] <| bR <| bR <| bC (o := .ro (Zc y1_0) true) (show Zc y1_0 = Zc y1_0 from rfl) <| bE) (show ∀ j ∈ Zt (Zv 2).2, j ∈ Zt (ZD 1) from by decide +kernel)
 ·
  exact Mach.okF (Zj (oq [0]) [] [] [] []) [0, 1] (vn) (hN g0 Zk) (bC (o := .ro (Zc L1) true) (show Zc L1 = Zc L1 from rfl) <| bR <| bE)

theorem Ziq (L0 : List RL) (L1 : List RI) (L2 : List RH) (v3 : Nat) (v5 : List Int) (v6 : List RH) (v7 : List RI) (N : Nat) : (ZI L0 L1 L2 N).Ok Tryz.prog Zu (.h1m1 v3 v5 v6 v7 : graph_objects_walkX) (Zaf L0 L1 L2 N (.h1m1 v3 v5 v6 v7 : graph_objects_walkX)) := by
 show (ZI L0 L1 L2 N).Ok Tryz.prog Zu (.h1m1 v3 v5 v6 v7 : graph_objects_walkX) (Zap L0 L1 L2 N v3 v5 v6 v7)
 unfold Zap
 refine Mach.ok_ite (fun g0 => ?_) (fun g0 => ?_)
 ·
  have w1 := kLn RB L2 v3 0 2 <| kB v3 L2.length <| kI (v3 : Int) (Int.ofNat v3) <| hY g0 Zk
  refine Mach.ok_bind (fun z1 c1 => ?_)
  cases z1 with
  | r0 =>
   exact Mach.okH (Zv 2) (Zj (oq [1]) [] [(0, v3)] [(0, (RB.cel (L2.getD v3 RH.z)))] [(1, (Zdi c1 [2, 5, 6, 3, 4, 0, 9, 7, 8] 11).t)]) (rg 0 10 []) [some (vp 2 0), some (vp 3 0), some (vp 4 0), some (Value.func (.func 192) #[] κx), some (κO L2), some (κK L2), some (vi (v3 : Int))] (kK (ZeS c1 [2, 5, 6, 3, 4, 0, 9, 7, 8] 11) w1) (tC (tC (tC (tC (tC (tC (tC (tE)))))))) (bC (o := .ro (Zc L1) true) (show Zc L1 = Zc L1 from rfl) <| bR <| bS (κn L0) <| bS (κ2 v5) <| bS [vs 8 0 v6.length v6.length] <| bS [Value.map (some 9)] <| bS [Value.func (.func 186) #[] #[]] <| bR <| bR <| bC (o := .ro (Zc v7) true) (show Zc v7 = Zc v7 from rfl) <| bE) (show ∀ j ∈ Zt (Zv 2).2, j ∈ Zt (ZD 1) from by decide +kernel)
  | r1 y1_0 y1_1 y1_2 =>
   exact Mach.okH (Zv 2) (Zj (oq [1]) [] [(0, v3)] [(0, (RB.cel (L2.getD v3 RH.z)))] [(1, (Zdj c1 [2, 5, 6, 3, 4, 0, 9, 7, 8] 11).t)]) (rg 0 7 (11 :: (12 :: [9]))) [some (vp 2 0), some (vp 3 0), some (vp 4 0), some (Value.func (.func 192) #[] κx), some (κO L2), some (κK L2), some (vi (v3 : Int))] (kK (ZeT c1 [2, 5, 6, 3, 4, 0, 9, 7, 8] 11) w1) (tC (tC (tC (tC (tC (tC (tC (tE)))))))) (bC (o := .ro (Zc L1) true) (show Zc L1 = Zc L1 from rfl) <| bR <| bS (κn L0) <| bS [vs 11 0 y1_1.length y1_1.length] <| bS [vs 12 0 y1_2.length y1_2.length] <| bS [Value.map (some 9)] <| bS [Value.func (.func 186) #[] #[]] <| bR <| bR <| bC (o := .ro (Zc y1_0) true) (show Zc y1_0 = Zc y1_0 from rfl) <| bE) (show ∀ j ∈ Zt (Zv 2).2, j ∈ Zt (ZD 1) from by decide +kernel)
 ·
  exact Mach.okF (Zj (oq [0]) [] [] [] []) [0, 1, 7] (vs 7 0 v5.length v5.length) (hN g0 Zk) (bC (o := .ro (Zc L1) true) (show Zc L1 = Zc L1 from rfl) <| bR <| bR <| bE)

theorem Zir (L0 : List RL) (L1 : List RI) (L2 : List RH) (v3 : Nat) (v5 : List Int) (v6 : List RH) (v7 v8 : Nat) (v9 : List RI) (N : Nat) : (ZI L0 L1 L2 N).Ok Tryz.prog Zu (.h1m2 v3 v5 v6 v7 v8 v9 : graph_objects_walkX) (Zaf L0 L1 L2 N (.h1m2 v3 v5 v6 v7 v8 v9 : graph_objects_walkX)) := by
 show (ZI L0 L1 L2 N).Ok Tryz.prog Zu (.h1m2 v3 v5 v6 v7 v8 v9 : graph_objects_walkX) (ZV L0 L1 L2 N v3 v5 v6 v7 v8 v9)
 unfold ZV
 refine Mach.ok_ite (fun g0 => ?_) (fun g0 => ?_)
 ·
  have w1 := kLn RB L2 v3 0 2 <| kB v3 L2.length <| kI (v3 : Int) (Int.ofNat v3) <| hY g0 Zk
  refine Mach.ok_bind (fun z1 c1 => ?_)
  cases z1 with
  | r0 =>
   exact Mach.okH (Zv 2) (Zj (oq [1]) [] [(0, v3)] [(0, (RB.cel (L2.getD v3 RH.z)))] [(1, (Zdk c1 [2, 5, 6, 3, 4, 0, 9, 7, 8] 11).t)]) (rg 0 10 []) [some (vp 2 0), some (vp 3 0), some (vp 4 0), some (Value.func (.func 192) #[] κx), some (κO L2), some (κK L2), some (vi (v3 : Int))] (kK (ZeV c1 [2, 5, 6, 3, 4, 0, 9, 7, 8] 11) w1) (tC (tC (tC (tC (tC (tC (tC (tE)))))))) (bC (o := .ro (Zc L1) true) (show Zc L1 = Zc L1 from rfl) <| bR <| bS (κn L0) <| bS (κ2 v5) <| bS [vs 8 0 v7 v8] <| bS [Value.map (some 9)] <| bS [Value.func (.func 186) #[] #[]] <| bR <| bR <| bC (o := .ro (Zc v9) true) (show Zc v9 = Zc v9 from rfl) <| bE) (show ∀ j ∈ Zt (Zv 2).2, j ∈ Zt (ZD 1) from by decide +kernel)
  | r1 y1_0 y1_1 y1_2 =>
   exact Mach.okH (Zv 2) (Zj (oq [1]) [] [(0, v3)] [(0, (RB.cel (L2.getD v3 RH.z)))] [(1, (Zdl c1 [2, 5, 6, 3, 4, 0, 9, 7, 8] 11).t)]) (rg 0 7 (11 :: (8 :: [9]))) [some (vp 2 0), some (vp 3 0), some (vp 4 0), some (Value.func (.func 192) #[] κx), some (κO L2), some (κK L2), some (vi (v3 : Int))] (kK (ZeW c1 [2, 5, 6, 3, 4, 0, 9, 7, 8] 11) w1) (tC (tC (tC (tC (tC (tC (tC (tE)))))))) (bC (o := .ro (Zc L1) true) (show Zc L1 = Zc L1 from rfl) <| bR <| bS (κn L0) <| bS [vs 11 0 y1_2.length y1_2.length] <| bS [vs 8 0 (v7 + 1) v8] <| bS [Value.map (some 9)] <| bS [Value.func (.func 186) #[] #[]] <| bR <| bR <| bC (o := .ro (Zc y1_0) true) (show Zc y1_0 = Zc y1_0 from rfl) <| bE) (show ∀ j ∈ Zt (Zv 2).2, j ∈ Zt (ZD 1) from by decide +kernel)
  | r2 y1_0 y1_1 y1_2 =>
   exact Mach.okH (Zv 2) (Zj (oq [1]) [] [(0, v3)] [(0, (RB.cel (L2.getD v3 RH.z)))] [(1, (Zdm c1 [2, 5, 6, 3, 4, 0, 9, 7, 8] 11).t)]) (rg 0 7 (11 :: (12 :: [9]))) [some (vp 2 0), some (vp 3 0), some (vp 4 0), some (Value.func (.func 192) #[] κx), some (κO L2), some (κK L2), some (vi (v3 : Int))] (kK (ZeX c1 [2, 5, 6, 3, 4, 0, 9, 7, 8] 11) w1) (tC (tC (tC (tC (tC (tC (tC (tE)))))))) (bC (o := .ro (Zc L1) true) (show Zc L1 = Zc L1 from rfl) <| bR <| bS (κn L0) <| bS [vs 11 0 y1_1.length y1_1.length] <| bS [vs 12 0 y1_2.length y1_2.length] <| bS [Value.map (some 9)] <| bS [Value.func (.func 186) #[] #[]] <| bR <| bR <| bC (o := .ro (Zc y1_0) true) (show Zc y1_0 = Zc y1_0 from rfl) <| bE) (show ∀ j ∈ Zt (Zv 2).2, j ∈ Zt (ZD 1) from by decide +kernel)
 ·
  exact Mach.okF (Zj (oq [0]) [] [] [] []) [0, 1, 7] (vs 7 0 v5.length v5.length) (hN g0 Zk) (bC (o := .ro (Zc L1) true) (show Zc L1 = Zc L1 from rfl) <| bR <| bR <| bE)

theorem Zis (L0 : List RL) (L1 : List RI) (L2 : List RH) (v3 N : Nat) : (ZI L0 L1 L2 N).Ok Tryz.prog Zu (.h2m0 v3 : graph_objects_walkX) (Zaf L0 L1 L2 N (.h2m0 v3 : graph_objects_walkX)) := by
 show (ZI L0 L1 L2 N).Ok Tryz.prog Zu (.h2m0 v3 : graph_objects_walkX) (Zb8 L0 L1 L2 N v3)
 unfold Zb8
 refine Mach.ok_ite (fun g0 => ?_) (fun _ => Mach.ok_none)
 exact Mach.okN (Zj (oq []) [(0, (((v3 + 1) : Nat) : Int))] [] [] []) (rg 0 8 []) [some (vp 2 0), some (vp 3 0), some (vp 4 0), some (Value.func (.func 192) #[] κx), some (κO L2), some (κK L2), some (κbu v3)] (kW ((v3 : Int) + 1) (((v3 + 1) : Nat) : Int) Zk) (tC (tC (tC (tC (tC (tC (tC (tE)))))))) (bC (o := .ro (Zc L1) true) (show Zc L1 = Zc L1 from rfl) <| bR <| bS (κn L0) <| bS [vn] <| bS [vn] <| bS [Value.map (some 7)] <| bS [Value.func (.func 186) #[] #[]] <| bC (o := .ro (Zc ([] : List RI)) true) (show Zc ([] : List RI) = Zc ([] : List RI) from rfl) <| bE) (show 1 ∈ Zt (ZD 2) from by decide +kernel)

theorem Zit (L0 : List RL) (L1 : List RI) (L2 : List RH) (v3 : Nat) (v5 : List Int) (v6 : List RH) (v7 : List RI) (N : Nat) : (ZI L0 L1 L2 N).Ok Tryz.prog Zu (.h2m1 v3 v5 v6 v7 : graph_objects_walkX) (Zaf L0 L1 L2 N (.h2m1 v3 v5 v6 v7 : graph_objects_walkX)) := by
 show (ZI L0 L1 L2 N).Ok Tryz.prog Zu (.h2m1 v3 v5 v6 v7 : graph_objects_walkX) (Zaq L0 L1 L2 N v3 v5 v6 v7)
 unfold Zaq
 refine Mach.ok_ite (fun g0 => ?_) (fun g0 => ?_)
 ·
  have w1 := kY ((v6.length : Int) > 0) Zk
  refine Mach.ok_ite (fun g1 => ?_) (fun _ => Mach.ok_none)
  have w2 := kL RB v6 (v6.length - 1) 0 1 <| kB (v6.length - 1) v6.length <| kI (((v6.length - 1) : Nat) : Int) (Int.ofNat (v6.length - 1)) <| kW ((v6.length : Int) - 1) (((v6.length - 1) : Nat) : Int) w1
  refine Mach.ok_ite (fun g2 => ?_) (fun _ => Mach.ok_none)
  refine Mach.ok_ite (fun g3 => ?_) (fun _ => Mach.ok_none)
  have w4 := kL RB v6 (v6.length - 1) 1 1 <| kG RD L0 ((0 + (((v6.getD (v6.length - 1) RH.z).a0).toNat * 8)) + 7) (((v6.getD (v6.length - 1) RH.z).a0).toNat) 7 1 8 <| kB ((v6.getD (v6.length - 1) RH.z).a0).toNat L0.length <| kI ((v6.getD (v6.length - 1) RH.z).a0) (Int.ofNat ((v6.getD (v6.length - 1) RH.z).a0).toNat) w2
  refine Mach.ok_ite (fun g4 => ?_) (fun g4 => ?_)
  ·
   exact Mach.okN (Zj (oq [1, 3]) [(0, (((v6.length - 1) : Nat) : Int)), (1, (((v6.length - 1) : Nat) : Int))] [(0, (v6.length - 1)), (1, ((v6.getD (v6.length - 1) RH.z).a0).toNat)] [(4, [.i (v6.getD (v6.length - 1) RH.z).a0]), (5, [(mc RB (L0.getD ((v6.getD (v6.length - 1) RH.z).a0).toNat RL.z).a7)]), (6, [.i (v6.getD (v6.length - 1) RH.z).a1])] [(0, .sl 0 (v6.length - 1))]) (rg 0 10 []) [some (vp 2 0), some (vp 3 0), some (vp 4 0), some (Value.func (.func 192) #[] κx), some (κO L2), some (κK L2), some (vi (v3 : Int))] (kX (dP (0 ≤ (v6.length - 1) ∧ (v6.length - 1) ≤ v6.length)) true (Z2 ⟨ltA, ltA⟩) <| kI (((v6.length - 1) : Nat) : Int) (Int.ofNat (v6.length - 1)) <| kR 0 <| kW ((v6.length : Int) - 1) (((v6.length - 1) : Nat) : Int) <| hT g4 w4) (tC (tC (tC (tC (tC (tC (tC (tE)))))))) (bC (o := .ro (Zc L1) true) (show Zc L1 = Zc L1 from rfl) <| bR <| bS (κn L0) <| bS (κ2 v5) <| bU [Value.slice (some ⟨8, (0 + (0 * 2)), none⟩) ((v6.length - 1) - 0) (v6.length - 0)] 0 (show (Value.slice (some ⟨8, (0 + (0 * 2)), none⟩) ((v6.length - 1) - 0) (v6.length - 0) : Value) = vs 8 0 ((v6.length - 1) - 0) (v6.length - 0) from Z5 rfl eqA eqA) <| bS [Value.map (some 9)] <| bS [Value.func (.func 186) #[] #[]] <| bR <| bR <| bC (o := .ro (Zc v7) true) (show Zc v7 = Zc v7 from rfl) <| bE) (show 2 ∈ Zt (ZD 2) from by decide +kernel)
  ·
   have w5 := kX (Zfa (ZO 1 (List.drop ((0 + ((v6.length - 1) * 2)) + 1) (Zb RB (v6.set (v6.length - 1) (⟨(v6.getD (v6.length - 1) RH.z).a0, (i64.wrap ((v6.getD (v6.length - 1) RH.z).a1 + 1))⟩ : RH))))) [.i (i64.wrap ((v6.getD (v6.length - 1) RH.z).a1 + 1))]) true (Zl9 (E := RB) (L := (v6.set (v6.length - 1) (⟨(v6.getD (v6.length - 1) RH.z).a0, (i64.wrap ((v6.getD (v6.length - 1) RH.z).a1 + 1))⟩ : RH))) (i := (v6.length - 1)) (q := 1) ltA (show ((0 + ((v6.length - 1) * 2)) + 1) = (v6.length - 1) * 2 + 1 from by omega) (show 1 + 1 ≤ 2 from by decide) rfl (by rw [ZoT ltA]; first | done | rfl)) <| kC (ZaO (E := RB) (L := v6) (i := (v6.length - 1)) (q := 1) (l := [vi (i64.wrap ((v6.getD (v6.length - 1) RH.z).a1 + 1))]) (⟨(v6.getD (v6.length - 1) RH.z).a0, (i64.wrap ((v6.getD (v6.length - 1) RH.z).a1 + 1))⟩ : RH) (by omega) (show ((0 + ((v6.length - 1) * 2)) + 1) = (v6.length - 1) * 2 + 1 from by omega) (show 1 + 1 ≤ 2 from by decide) rfl) <| kL RB v6 (v6.length - 1) 1 1 <| hF g4 w4
   refine Mach.ok_ite (fun g5 => ?_) (fun _ => Mach.ok_none)
   refine Mach.ok_ite (fun g6 => ?_) (fun _ => Mach.ok_none)
   have w7 := kG RB ((L0.getD ((v6.getD (v6.length - 1) RH.z).a0).toNat RL.z).a7) (0 + (((i64.wrap ((i64.wrap ((v6.getD (v6.length - 1) RH.z).a1 + 1)) - 1))).toNat * 2)) (((i64.wrap ((i64.wrap ((v6.getD (v6.length - 1) RH.z).a1 + 1)) - 1))).toNat) 0 2 2 <| kB ((i64.wrap ((i64.wrap ((v6.getD (v6.length - 1) RH.z).a1 + 1)) - 1))).toNat (L0.getD ((v6.getD (v6.length - 1) RH.z).a0).toNat RL.z).a7.length <| kI (i64.wrap ((i64.wrap ((v6.getD (v6.length - 1) RH.z).a1 + 1)) - 1)) (Int.ofNat ((i64.wrap ((i64.wrap ((v6.getD (v6.length - 1) RH.z).a1 + 1)) - 1))).toNat) w5
   refine Mach.ok_bind (fun z7 c7 => ?_)
   cases z7 with
   | r0 =>
    exact Mach.okN (Zj (oq [1, 2]) [(0, (((v6.length - 1) : Nat) : Int))] [(0, (v6.length - 1)), (1, ((v6.getD (v6.length - 1) RH.z).a0).toNat), (2, ((i64.wrap ((i64.wrap ((v6.getD (v6.length - 1) RH.z).a1 + 1)) - 1))).toNat)] [(4, [.i (v6.getD (v6.length - 1) RH.z).a0]), (5, [(mc RB (L0.getD ((v6.getD (v6.length - 1) RH.z).a0).toNat RL.z).a7)]), (6, [.i (v6.getD (v6.length - 1) RH.z).a1]), (7, [.i (v6.getD (v6.length - 1) RH.z).a1]), (8, [.i (i64.wrap ((v6.getD (v6.length - 1) RH.z).a1 + 1))]), (9, (RB.cel ((L0.getD ((v6.getD (v6.length - 1) RH.z).a0).toNat RL.z).a7.getD ((i64.wrap ((i64.wrap ((v6.getD (v6.length - 1) RH.z).a1 + 1)) - 1))).toNat RH.z)))] [(0, .st (Zb RB (v6.set (v6.length - 1) (⟨(v6.getD (v6.length - 1) RH.z).a0, (i64.wrap ((v6.getD (v6.length - 1) RH.z).a1 + 1))⟩ : RH)))), (1, (Zdi c7 [2, 5, 6, 3, 4, 0, 9, 7, 8] 10).t)]) (rg 0 10 []) [some (vp 2 0), some (vp 3 0), some (vp 4 0), some (Value.func (.func 192) #[] κx), some (κO L2), some (κK L2), some (vi (v3 : Int))] (kKa (ZeS c7 [2, 5, 6, 3, 4, 0, 9, 7, 8] 10) <| kR (κn L0) <| kR [Value.map (some 9)] <| kR ([Value.func (.func 186) #[] #[]]) <| kR (κ2 v5) <| kU [vs 8 0 (v6.set (v6.length - 1) (⟨(v6.getD (v6.length - 1) RH.z).a0, (i64.wrap ((v6.getD (v6.length - 1) RH.z).a1 + 1))⟩ : RH)).length (v6.set (v6.length - 1) (⟨(v6.getD (v6.length - 1) RH.z).a0, (i64.wrap ((v6.getD (v6.length - 1) RH.z).a1 + 1))⟩ : RH)).length] 0 (show (vs 8 0 v6.length v6.length : Value) = vs 8 0 (v6.set (v6.length - 1) (⟨(v6.getD (v6.length - 1) RH.z).a0, (i64.wrap ((v6.getD (v6.length - 1) RH.z).a1 + 1))⟩ : RH)).length (v6.set (v6.length - 1) (⟨(v6.getD (v6.length - 1) RH.z).a0, (i64.wrap ((v6.getD (v6.length - 1) RH.z).a1 + 1))⟩ : RH)).length from Z5 rfl eqA eqA) <| kX (dS (Zc L1)) true (Z2 (congrArg Zc (by first | rfl | simp))) <| kX (dS (Zc v7)) true (Z2 (congrArg Zc (by first | rfl | simp))) <| kR (Zb eI v5) <| kR (Zb RB (v6.set (v6.length - 1) (⟨(v6.getD (v6.length - 1) RH.z).a0, (i64.wrap ((v6.getD (v6.length - 1) RH.z).a1 + 1))⟩ : RH))) w7) (tC (tC (tC (tC (tC (tC (tC (tE)))))))) (bC (o := .ro (Zc L1) true) (show Zc L1 = Zc L1 from rfl) <| bR <| bS (κn L0) <| bS (κ2 v5) <| bU [vs 8 0 v6.length v6.length] 0 (show (vs 8 0 v6.length v6.length : Value) = vs 8 0 (v6.set (v6.length - 1) (⟨(v6.getD (v6.length - 1) RH.z).a0, (i64.wrap ((v6.getD (v6.length - 1) RH.z).a1 + 1))⟩ : RH)).length (v6.set (v6.length - 1) (⟨(v6.getD (v6.length - 1) RH.z).a0, (i64.wrap ((v6.getD (v6.length - 1) RH.z).a1 + 1))⟩ : RH)).length from Z5 rfl eqA eqA) <| bS [Value.map (some 9)] <| bS [Value.func (.func 186) #[] #[]] <| bR <| bR <| bC (o := .ro (Zc v7) true) (show Zc v7 = Zc v7 from rfl) <| bE) (show 2 ∈ Zt (ZD 2) from by decide +kernel)
   | r1 y7_0 y7_1 y7_2 =>
    exact Mach.okN (Zj (oq [1, 2]) [(0, (((v6.length - 1) : Nat) : Int))] [(0, (v6.length - 1)), (1, ((v6.getD (v6.length - 1) RH.z).a0).toNat), (2, ((i64.wrap ((i64.wrap ((v6.getD (v6.length - 1) RH.z).a1 + 1)) - 1))).toNat)] [(4, [.i (v6.getD (v6.length - 1) RH.z).a0]), (5, [(mc RB (L0.getD ((v6.getD (v6.length - 1) RH.z).a0).toNat RL.z).a7)]), (6, [.i (v6.getD (v6.length - 1) RH.z).a1]), (7, [.i (v6.getD (v6.length - 1) RH.z).a1]), (8, [.i (i64.wrap ((v6.getD (v6.length - 1) RH.z).a1 + 1))]), (9, (RB.cel ((L0.getD ((v6.getD (v6.length - 1) RH.z).a0).toNat RL.z).a7.getD ((i64.wrap ((i64.wrap ((v6.getD (v6.length - 1) RH.z).a1 + 1)) - 1))).toNat RH.z)))] [(0, .st (Zb RB (v6.set (v6.length - 1) (⟨(v6.getD (v6.length - 1) RH.z).a0, (i64.wrap ((v6.getD (v6.length - 1) RH.z).a1 + 1))⟩ : RH)))), (1, (Zdj c7 [2, 5, 6, 3, 4, 0, 9, 7, 8] 10).t)]) (rg 0 7 (10 :: (11 :: [9]))) [some (vp 2 0), some (vp 3 0), some (vp 4 0), some (Value.func (.func 192) #[] κx), some (κO L2), some (κK L2), some (vi (v3 : Int))] (kKa (ZeT c7 [2, 5, 6, 3, 4, 0, 9, 7, 8] 10) <| kR (κn L0) <| kR [Value.map (some 9)] <| kR ([Value.func (.func 186) #[] #[]]) <| kR (κ2 v5) <| kU [vs 8 0 (v6.set (v6.length - 1) (⟨(v6.getD (v6.length - 1) RH.z).a0, (i64.wrap ((v6.getD (v6.length - 1) RH.z).a1 + 1))⟩ : RH)).length (v6.set (v6.length - 1) (⟨(v6.getD (v6.length - 1) RH.z).a0, (i64.wrap ((v6.getD (v6.length - 1) RH.z).a1 + 1))⟩ : RH)).length] 0 (show (vs 8 0 v6.length v6.length : Value) = vs 8 0 (v6.set (v6.length - 1) (⟨(v6.getD (v6.length - 1) RH.z).a0, (i64.wrap ((v6.getD (v6.length - 1) RH.z).a1 + 1))⟩ : RH)).length (v6.set (v6.length - 1) (⟨(v6.getD (v6.length - 1) RH.z).a0, (i64.wrap ((v6.getD (v6.length - 1) RH.z).a1 + 1))⟩ : RH)).length from Z5 rfl eqA eqA) <| kX (dS (Zc L1)) true (Z2 (congrArg Zc (by first | rfl | simp))) <| kX (dS (Zc v7)) true (Z2 (congrArg Zc (by first | rfl | simp))) <| kR (Zb eI v5) <| kR (Zb RB (v6.set (v6.length - 1) (⟨(v6.getD (v6.length - 1) RH.z).a0, (i64.wrap ((v6.getD (v6.length - 1) RH.z).a1 + 1))⟩ : RH))) w7) (tC (tC (tC (tC (tC (tC (tC (tE)))))))) (bC (o := .ro (Zc L1) true) (show Zc L1 = Zc L1 from rfl) <| bR <| bS (κn L0) <| bS [vs 10 0 y7_1.length y7_1.length] <| bS [vs 11 0 y7_2.length y7_2.length] <| bS [Value.map (some 9)] <| bS [Value.func (.func 186) #[] #[]] <| bR <| bR <| bC (o := .ro (Zc y7_0) true) (show Zc y7_0 = Zc y7_0 from rfl) <| bE) (show 2 ∈ Zt (ZD 2) from by decide +kernel)
 ·
  refine Mach.ok_ite (fun g1 => ?_) (fun _ => Mach.ok_none)
  exact Mach.okN (Zj (oq [0]) [(0, (((v3 + 1) : Nat) : Int))] [] [] []) (rg 0 10 []) [some (vp 2 0), some (vp 3 0), some (vp 4 0), some (Value.func (.func 192) #[] κx), some (κO L2), some (κK L2), some (κbu v3)] (kW ((v3 : Int) + 1) (((v3 + 1) : Nat) : Int) <| kN ((v6.length : Int) > 0) Zk) (tC (tC (tC (tC (tC (tC (tC (tE)))))))) (bC (o := .ro (Zc L1) true) (show Zc L1 = Zc L1 from rfl) <| bR <| bS (κn L0) <| bS (κ2 v5) <| bS [vs 8 0 v6.length v6.length] <| bS [Value.map (some 9)] <| bS [Value.func (.func 186) #[] #[]] <| bR <| bR <| bC (o := .ro (Zc v7) true) (show Zc v7 = Zc v7 from rfl) <| bE) (show 1 ∈ Zt (ZD 2) from by decide +kernel)

theorem Ziu (L0 : List RL) (L1 : List RI) (L2 : List RH) (v3 : Nat) (v5 : List Int) (v6 : List RH) (v7 v8 : Nat) (v9 : List RI) (N : Nat) : (ZI L0 L1 L2 N).Ok Tryz.prog Zu (.h2m2 v3 v5 v6 v7 v8 v9 : graph_objects_walkX) (Zaf L0 L1 L2 N (.h2m2 v3 v5 v6 v7 v8 v9 : graph_objects_walkX)) := by
 show (ZI L0 L1 L2 N).Ok Tryz.prog Zu (.h2m2 v3 v5 v6 v7 v8 v9 : graph_objects_walkX) (Zar L0 L1 L2 N v3 v5 v6 v7 v8 v9)
 unfold Zar
 refine Mach.ok_ite (fun g0 => ?_) (fun g0 => ?_)
 ·
  have w1 := kY ((v7 : Int) > 0) Zk
  refine Mach.ok_ite (fun g1 => ?_) (fun _ => Mach.ok_none)
  have w2 := kB (v7 - 1) v7 <| kI (((v7 - 1) : Nat) : Int) (Int.ofNat (v7 - 1)) <| kW ((v7 : Int) - 1) (((v7 - 1) : Nat) : Int) w1
  refine Mach.ok_ite (fun g2 => ?_) (fun _ => Mach.ok_none)
  refine Mach.ok_ite (fun g3 => ?_) (fun _ => Mach.ok_none)
  refine Mach.ok_ite (fun g4 => ?_) (fun _ => Mach.ok_none)
  have w5 := kL RB v6 (v7 - 1) 1 1 <| kG RD L0 ((0 + (((v6.getD (v7 - 1) RH.z).a0).toNat * 8)) + 7) (((v6.getD (v7 - 1) RH.z).a0).toNat) 7 1 8 <| kB ((v6.getD (v7 - 1) RH.z).a0).toNat L0.length <| kI ((v6.getD (v7 - 1) RH.z).a0) (Int.ofNat ((v6.getD (v7 - 1) RH.z).a0).toNat) <| kL RB v6 (v7 - 1) 0 1 w2
  refine Mach.ok_ite (fun g5 => ?_) (fun g5 => ?_)
  ·
   refine Mach.ok_ite (fun g6 => ?_) (fun _ => Mach.ok_none)
   exact Mach.okN (Zj (oq [1, 3]) [(0, (((v7 - 1) : Nat) : Int)), (1, (((v7 - 1) : Nat) : Int))] [(0, (v7 - 1)), (1, ((v6.getD (v7 - 1) RH.z).a0).toNat)] [(4, [.i (v6.getD (v7 - 1) RH.z).a0]), (5, [(mc RB (L0.getD ((v6.getD (v7 - 1) RH.z).a0).toNat RL.z).a7)]), (6, [.i (v6.getD (v7 - 1) RH.z).a1])] [(0, .sl 0 (v7 - 1))]) (rg 0 10 []) [some (vp 2 0), some (vp 3 0), some (vp 4 0), some (Value.func (.func 192) #[] κx), some (κO L2), some (κK L2), some (vi (v3 : Int))] (kX (dP (0 ≤ (v7 - 1) ∧ (v7 - 1) ≤ v8)) true (Z2 ⟨ltA, ltA⟩) <| kI (((v7 - 1) : Nat) : Int) (Int.ofNat (v7 - 1)) <| kR 0 <| kW ((v7 : Int) - 1) (((v7 - 1) : Nat) : Int) <| hT g5 w5) (tC (tC (tC (tC (tC (tC (tC (tE)))))))) (bC (o := .ro (Zc L1) true) (show Zc L1 = Zc L1 from rfl) <| bR <| bS (κn L0) <| bS (κ2 v5) <| bU [Value.slice (some ⟨8, (0 + (0 * 2)), none⟩) ((v7 - 1) - 0) (v8 - 0)] 0 (show (Value.slice (some ⟨8, (0 + (0 * 2)), none⟩) ((v7 - 1) - 0) (v8 - 0) : Value) = vs 8 0 ((v7 - 1) - 0) (v8 - 0) from Z5 rfl eqA eqA) <| bS [Value.map (some 9)] <| bS [Value.func (.func 186) #[] #[]] <| bR <| bR <| bC (o := .ro (Zc v9) true) (show Zc v9 = Zc v9 from rfl) <| bE) (show 2 ∈ Zt (ZD 2) from by decide +kernel)
  ·
   have w6 := kX (Zfa (ZO 1 (List.drop ((0 + ((v7 - 1) * 2)) + 1) (Zb RB (v6.set (v7 - 1) (⟨(v6.getD (v7 - 1) RH.z).a0, (i64.wrap ((v6.getD (v7 - 1) RH.z).a1 + 1))⟩ : RH))))) [.i (i64.wrap ((v6.getD (v7 - 1) RH.z).a1 + 1))]) true (Zl9 (E := RB) (L := (v6.set (v7 - 1) (⟨(v6.getD (v7 - 1) RH.z).a0, (i64.wrap ((v6.getD (v7 - 1) RH.z).a1 + 1))⟩ : RH))) (i := (v7 - 1)) (q := 1) ltA (show ((0 + ((v7 - 1) * 2)) + 1) = (v7 - 1) * 2 + 1 from by omega) (show 1 + 1 ≤ 2 from by decide) rfl (by rw [ZoT ltA]; first | done | rfl)) <| kC (ZaO (E := RB) (L := v6) (i := (v7 - 1)) (q := 1) (l := [vi (i64.wrap ((v6.getD (v7 - 1) RH.z).a1 + 1))]) (⟨(v6.getD (v7 - 1) RH.z).a0, (i64.wrap ((v6.getD (v7 - 1) RH.z).a1 + 1))⟩ : RH) (by omega) (show ((0 + ((v7 - 1) * 2)) + 1) = (v7 - 1) * 2 + 1 from by omega) (show 1 + 1 ≤ 2 from by decide) rfl) <| kL RB v6 (v7 - 1) 1 1 <| hF g5 w5
   refine Mach.ok_ite (fun g6 => ?_) (fun _ => Mach.ok_none)
   refine Mach.ok_ite (fun g7 => ?_) (fun _ => Mach.ok_none)
   have w8 := kG RB ((L0.getD ((v6.getD (v7 - 1) RH.z).a0).toNat RL.z).a7) (0 + (((i64.wrap ((i64.wrap ((v6.getD (v7 - 1) RH.z).a1 + 1)) - 1))).toNat * 2)) (((i64.wrap ((i64.wrap ((v6.getD (v7 - 1) RH.z).a1 + 1)) - 1))).toNat) 0 2 2 <| kB ((i64.wrap ((i64.wrap ((v6.getD (v7 - 1) RH.z).a1 + 1)) - 1))).toNat (L0.getD ((v6.getD (v7 - 1) RH.z).a0).toNat RL.z).a7.length <| kI (i64.wrap ((i64.wrap ((v6.getD (v7 - 1) RH.z).a1 + 1)) - 1)) (Int.ofNat ((i64.wrap ((i64.wrap ((v6.getD (v7 - 1) RH.z).a1 + 1)) - 1))).toNat) w6
   refine Mach.ok_bind (fun z8 c8 => ?_)
   cases z8 with
   | r0 =>
    exact Mach.okN (Zj (oq [1, 2]) [(0, (((v7 - 1) : Nat) : Int))] [(0, (v7 - 1)), (1, ((v6.getD (v7 - 1) RH.z).a0).toNat), (2, ((i64.wrap ((i64.wrap ((v6.getD (v7 - 1) RH.z).a1 + 1)) - 1))).toNat)] [(4, [.i (v6.getD (v7 - 1) RH.z).a0]), (5, [(mc RB (L0.getD ((v6.getD (v7 - 1) RH.z).a0).toNat RL.z).a7)]), (6, [.i (v6.getD (v7 - 1) RH.z).a1]), (7, [.i (v6.getD (v7 - 1) RH.z).a1]), (8, [.i (i64.wrap ((v6.getD (v7 - 1) RH.z).a1 + 1))]), (9, (RB.cel ((L0.getD ((v6.getD (v7 - 1) RH.z).a0).toNat RL.z).a7.getD ((i64.wrap ((i64.wrap ((v6.getD (v7 - 1) RH.z).a1 + 1)) - 1))).toNat RH.z)))] [(0, .st (Zb RB (v6.set (v7 - 1) (⟨(v6.getD (v7 - 1) RH.z).a0, (i64.wrap ((v6.getD (v7 - 1) RH.z).a1 + 1))⟩ : RH)))), (1, (Zdk c8 [2, 5, 6, 3, 4, 0, 9, 7, 8] 10).t)]) (rg 0 10 []) [some (vp 2 0), some (vp 3 0), some (vp 4 0), some (Value.func (.func 192) #[] κx), some (κO L2), some (κK L2), some (vi (v3 : Int))] (kK (ZeV c8 [2, 5, 6, 3, 4, 0, 9, 7, 8] 10) w8) (tC (tC (tC (tC (tC (tC (tC (tE)))))))) (bC (o := .ro (Zc L1) true) (show Zc L1 = Zc L1 from rfl) <| bR <| bS (κn L0) <| bS (κ2 v5) <| bS [vs 8 0 v7 v8] <| bS [Value.map (some 9)] <| bS [Value.func (.func 186) #[] #[]] <| bR <| bR <| bC (o := .ro (Zc v9) true) (show Zc v9 = Zc v9 from rfl) <| bE) (show 2 ∈ Zt (ZD 2) from by decide +kernel)
   | r1 y8_0 y8_1 y8_2 =>
    exact Mach.okN (Zj (oq [1, 2]) [(0, (((v7 - 1) : Nat) : Int))] [(0, (v7 - 1)), (1, ((v6.getD (v7 - 1) RH.z).a0).toNat), (2, ((i64.wrap ((i64.wrap ((v6.getD (v7 - 1) RH.z).a1 + 1)) - 1))).toNat)] [(4, [.i (v6.getD (v7 - 1) RH.z).a0]), (5, [(mc RB (L0.getD ((v6.getD (v7 - 1) RH.z).a0).toNat RL.z).a7)]), (6, [.i (v6.getD (v7 - 1) RH.z).a1]), (7, [.i (v6.getD (v7 - 1) RH.z).a1]), (8, [.i (i64.wrap ((v6.getD (v7 - 1) RH.z).a1 + 1))]), (9, (RB.cel ((L0.getD ((v6.getD (v7 - 1) RH.z).a0).toNat RL.z).a7.getD ((i64.wrap ((i64.wrap ((v6.getD (v7 - 1) RH.z).a1 + 1)) - 1))).toNat RH.z)))] [(0, .st (Zb RB (v6.set (v7 - 1) (⟨(v6.getD (v7 - 1) RH.z).a0, (i64.wrap ((v6.getD (v7 - 1) RH.z).a1 + 1))⟩ : RH)))), (1, (Zdl c8 [2, 5, 6, 3, 4, 0, 9, 7, 8] 10).t)]) (rg 0 7 (10 :: (8 :: [9]))) [some (vp 2 0), some (vp 3 0), some (vp 4 0), some (Value.func (.func 192) #[] κx), some (κO L2), some (κK L2), some (vi (v3 : Int))] (kK (ZeW c8 [2, 5, 6, 3, 4, 0, 9, 7, 8] 10) w8) (tC (tC (tC (tC (tC (tC (tC (tE)))))))) (bC (o := .ro (Zc L1) true) (show Zc L1 = Zc L1 from rfl) <| bR <| bS (κn L0) <| bS [vs 10 0 y8_2.length y8_2.length] <| bS [vs 8 0 (v7 + 1) v8] <| bS [Value.map (some 9)] <| bS [Value.func (.func 186) #[] #[]] <| bR <| bR <| bC (o := .ro (Zc y8_0) true) (show Zc y8_0 = Zc y8_0 from rfl) <| bE) (show 2 ∈ Zt (ZD 2) from by decide +kernel)
   | r2 y8_0 y8_1 y8_2 =>
    exact Mach.okN (Zj (oq [1, 2]) [(0, (((v7 - 1) : Nat) : Int))] [(0, (v7 - 1)), (1, ((v6.getD (v7 - 1) RH.z).a0).toNat), (2, ((i64.wrap ((i64.wrap ((v6.getD (v7 - 1) RH.z).a1 + 1)) - 1))).toNat)] [(4, [.i (v6.getD (v7 - 1) RH.z).a0]), (5, [(mc RB (L0.getD ((v6.getD (v7 - 1) RH.z).a0).toNat RL.z).a7)]), (6, [.i (v6.getD (v7 - 1) RH.z).a1]), (7, [.i (v6.getD (v7 - 1) RH.z).a1]), (8, [.i (i64.wrap ((v6.getD (v7 - 1) RH.z).a1 + 1))]), (9, (RB.cel ((L0.getD ((v6.getD (v7 - 1) RH.z).a0).toNat RL.z).a7.getD ((i64.wrap ((i64.wrap ((v6.getD (v7 - 1) RH.z).a1 + 1)) - 1))).toNat RH.z)))] [(0, .st (Zb RB (v6.set (v7 - 1) (⟨(v6.getD (v7 - 1) RH.z).a0, (i64.wrap ((v6.getD (v7 - 1) RH.z).a1 + 1))⟩ : RH)))), (1, (Zdm c8 [2, 5, 6, 3, 4, 0, 9, 7, 8] 10).t)]) (rg 0 7 (10 :: (11 :: [9]))) [some (vp 2 0), some (vp 3 0), some (vp 4 0), some (Value.func (.func 192) #[] κx), some (κO L2), some (κK L2), some (vi (v3 : Int))] (kK (ZeX c8 [2, 5, 6, 3, 4, 0, 9, 7, 8] 10) w8) (tC (tC (tC (tC (tC (tC (tC (tE)))))))) (bC (o := .ro (Zc L1) true) (show Zc L1 = Zc L1 from rfl) <| bR <| bS (κn L0) <| bS [vs 10 0 y8_1.length y8_1.length] <| bS [vs 11 0 y8_2.length y8_2.length] <| bS [Value.map (some 9)] <| bS [Value.func (.func 186) #[] #[]] <| bR <| bR <| bC (o := .ro (Zc y8_0) true) (show Zc y8_0 = Zc y8_0 from rfl) <| bE) (show 2 ∈ Zt (ZD 2) from by decide +kernel)
 ·
  refine Mach.ok_ite (fun g1 => ?_) (fun _ => Mach.ok_none)
  exact Mach.okN (Zj (oq [0]) [(0, (((v3 + 1) : Nat) : Int))] [] [] []) (rg 0 10 []) [some (vp 2 0), some (vp 3 0), some (vp 4 0), some (Value.func (.func 192) #[] κx), some (κO L2), some (κK L2), some (κbu v3)] (kW ((v3 : Int) + 1) (((v3 + 1) : Nat) : Int) <| kN ((v7 : Int) > 0) Zk) (tC (tC (tC (tC (tC (tC (tC (tE)))))))) (bC (o := .ro (Zc L1) true) (show Zc L1 = Zc L1 from rfl) <| bR <| bS (κn L0) <| bS (κ2 v5) <| bS [vs 8 0 v7 v8] <| bS [Value.map (some 9)] <| bS [Value.func (.func 186) #[] #[]] <| bR <| bR <| bC (o := .ro (Zc v9) true) (show Zc v9 = Zc v9 from rfl) <| bE) (show 1 ∈ Zt (ZD 2) from by decide +kernel)

theorem ZjQ (L0 : List RL) (L1 : List RI) (L2 : List RH) (N : Nat) : (ZI L0 L1 L2 N).Enter Tryz.prog Zu #[Value.agg (κH L0), vs 1 0 L2.length L2.length, Value.func (.func 186) #[] #[]] (Zej L0 L1 L2 N) := by
 unfold Zej
 exact Mach.enH (Zv 1) (Zj (oq []) [] [] [] []) [0, 1, 2, 4, 7, 6, 3, 5] [some (vp 2 0), some (vp 4 0), some (vp 7 0), some (Value.func (.func 192) #[] #[vp 2 0, vp 6 0, vp 3 0, vp 4 0, vp 7 0]), some (κO L2), some (κK L2), some (vq)] Zk (tC (tC (tC (tC (tC (tC (tC (tE) ⟨Eq.trans (show κbk = vq from (congrArg (Value.int .i64) (by first | rfl | omega))) (by rfl), by rfl⟩))))))) (bC (o := .ro (Zc L1) true) (show Zc L1 = Zc L1 from rfl) <| bR <| bS (κn L0) <| bS [vn] <| bS [vn] <| bS [Value.map (some 5)] <| bS [Value.func (.func 186) #[] #[]] <| bC (o := .ro (Zc ([] : List RI)) true) (show Zc ([] : List RI) = Zc ([] : List RI) from rfl) <| bE) (show Zt (Zv 1).2 = [] from rfl)

theorem Zfp (L0 : List RL) (L1 : List RI) (L2 : List RH) (N : Nat) (r : ZC) (h : Zbv L0 L1 L2 N = some r) : LSpec Tryz.prog 185 #[Value.agg (κH L0), vs 1 0 L2.length L2.length, Value.func (.func 186) #[] #[]] [.ro (Zc L1) true, .cells (Zb RB L2) 42] (Zg0 L0 L1 L2 r) (Zgs L0 L1 L2 r) :=
 Mach.spec Zz (ZI L0 L1 L2 N) Tryz.func185 (by kernel_rfl) (by kernel_rfl) (fun x => by cases x <;> exact ZB _ rfl) (fun r => by cases r <;> exact ZB _ rfl) (fun x => by
  cases x with
  | h1m0 _ => exact fun _ => (show ¬ (1 ∈ Zt (Zv 1).2) from by decide +kernel)
  | h1m1 _ _ _ _ => exact fun _ => (show ¬ (1 ∈ Zt (Zv 1).2) from by decide +kernel)
  | h1m2 _ _ _ _ _ _ => exact fun _ => (show ¬ (1 ∈ Zt (Zv 1).2) from by decide +kernel)
  | h2m0 _ => exact fun _ => (show ¬ (2 ∈ Zt (Zv 2).2) from by decide +kernel)
  | h2m1 _ _ _ _ => exact fun _ => (show ¬ (2 ∈ Zt (Zv 2).2) from by decide +kernel)
  | h2m2 _ _ _ _ _ _ => exact fun _ => (show ¬ (2 ∈ Zt (Zv 2).2) from by decide +kernel)
  ) (fun x => (show (ZI L0 L1 L2 N).Ok Tryz.prog Zu x (Zaf L0 L1 L2 N x) from by
  cases x with
  | h1m0 v3 => exact Zip L0 L1 L2 v3 N
  | h1m1 v3 v5 v6 v7 => exact Ziq L0 L1 L2 v3 v5 v6 v7 N
  | h1m2 v3 v5 v6 v7 v8 v9 => exact Zir L0 L1 L2 v3 v5 v6 v7 v8 v9 N
  | h2m0 v3 => exact Zis L0 L1 L2 v3 N
  | h2m1 v3 v5 v6 v7 => exact Zit L0 L1 L2 v3 v5 v6 v7 N
  | h2m2 v3 v5 v6 v7 v8 v9 => exact Ziu L0 L1 L2 v3 v5 v6 v7 v8 v9 N
  )) (ZjQ L0 L1 L2 N) (n := N) h

noncomputable def Zgu {L0 : List RL} {L1 : List RI} {L2 : List RH} {N : Nat} (h : Zbv L0 L1 L2 N = some (.r0)) (ks : List Nat) (n : Nat) : ToldS := ⟨#[Value.agg (κbl L0 ks), vs (nth ks 1) 0 L2.length L2.length, Value.func (.func 186) #[] #[]], [((nth ks 0), .ro (Zc L1) true), ((nth ks 1), .cells (Zb RB L2) 42)], vn, [], 0⟩

theorem Zky {L0 : List RL} {L1 : List RI} {L2 : List RH} {N : Nat} (h : Zbv L0 L1 L2 N = some (.r0)) (ks : List Nat) (n : Nat) (hk : ks.length = 2 := by rfl) (hnd : ks.Nodup := by decide +kernel) (hlt : ∀ k ∈ ks, k < n := by decide +kernel) : (Zgu (N := N)  h ks n).P Tryz.prog 185 n :=
 match ks, hk, hnd, hlt with
 | [k0, k1], _, hnd, hlt => Za3 (show LSpec Tryz.prog 185 #[Value.agg (κH L0), vs 1 0 L2.length L2.length, Value.func (.func 186) #[] #[]] [.ro (Zc L1) true, .cells (Zb RB L2) 42] (vn) [some (.ro (Zc L1) true), some (κI L2)] from Zfp L0 L1 L2 N _ h) _ n [] hnd hlt

noncomputable def Zeo {L0 : List RL} {L1 : List RI} {L2 : List RH} {w2 : List Int} {N : Nat} (h : Zbv L0 L1 L2 N = some (.r1 w2)) (ks : List Nat) (n : Nat) : ToldS := ⟨#[Value.agg (κbl L0 ks), vs (nth ks 1) 0 L2.length L2.length, Value.func (.func 186) #[] #[]], [((nth ks 0), .ro (Zc L1) true), ((nth ks 1), .cells (Zb RB L2) 42)], vs n 0 w2.length w2.length, [(n, some (.cells (Zb eI w2) 3))], 1⟩

theorem Zkz {L0 : List RL} {L1 : List RI} {L2 : List RH} {w2 : List Int} {N : Nat} (h : Zbv L0 L1 L2 N = some (.r1 w2)) (ks : List Nat) (n : Nat) (hk : ks.length = 2 := by rfl) (hnd : ks.Nodup := by decide +kernel) (hlt : ∀ k ∈ ks, k < n := by decide +kernel) : (Zeo (N := N)  h ks n).P Tryz.prog 185 n :=
 match ks, hk, hnd, hlt with
 | [k0, k1], _, hnd, hlt => Za3 (show LSpec Tryz.prog 185 #[Value.agg (κH L0), vs 1 0 L2.length L2.length, Value.func (.func 186) #[] #[]] [.ro (Zc L1) true, .cells (Zb RB L2) 42] (vs 2 0 w2.length w2.length) [some (.ro (Zc L1) true), some (κI L2), some (.cells (Zb eI w2) 3)] from Zfp L0 L1 L2 N _ h) _ n [2] hnd hlt

noncomputable def Zg1 (L0 : List RL) (L1 : List RI) : ZaC → Value
 | .r0 => vn
noncomputable def Zgv (L0 : List RL) (L1 : List RI) : ZaC → List (Option AObj)
 | .r0 => [some (.ro (Zc L1) true)]

def Zk0 : graph_objects_refsX → Nat
 | .h1m0 => 1
noncomputable def ZkV (L0 : List RL) (L1 : List RI) : graph_objects_refsX → List (Nat × Value)
 | .h1m0 => [(2, vp 1 0), (5, vn), (8, vn), (9, vq), (10, vq)]
noncomputable def ZkW (L0 : List RL) (L1 : List RI) : graph_objects_refsX → List (Option AObj)
 | .h1m0 => [some (.ro (Zc L1) true), some (.cells (κn L0) 272)]

noncomputable def Zdq : Nat → Code × List Zay
 | 1 => Zck [1, 1, 0, 1, 3] (ZcP Tryz.f184) []
 | _ => (.skip, [])
def Zk1 : Nat → Bool
 | 1 => true
 | _ => true
noncomputable def Zcw (L0 : List RL) (L1 : List RI) (N : Nat) : Mach := ⟨Tryz.f184, [.ro (Zc L1) true], graph_objects_refsX, ZaC, Zc7 L0 L1 N, Zk0, Zdq, Zk1, ZkV L0 L1, ZkW L0 L1, Zg1 L0 L1, Zgv L0 L1⟩

theorem Ziv (L0 : List RL) (L1 : List RI) (N : Nat) : (Zcw L0 L1 N).Ok Tryz.prog Zu (.h1m0 : graph_objects_refsX) (Zc7 L0 L1 N (.h1m0 : graph_objects_refsX)) := by
 show (Zcw L0 L1 N).Ok Tryz.prog Zu (.h1m0 : graph_objects_refsX) (Zdt L0 L1 N)
 unfold Zdt
 exact Mach.okF (Zj (oq []) [] [] [] []) [0] (vn) Zk (bC (o := .ro (Zc L1) true) (show Zc L1 = Zc L1 from rfl) <| bE)

theorem ZjR (L0 : List RL) (L1 : List RI) (N : Nat) : (Zcw L0 L1 N).Enter Tryz.prog Zu #[Value.agg (κH L0), vn] (Zek L0 L1 N) := by
 unfold Zek
 exact Mach.enH (Zdq 1) (Zj (oq []) [] [] [] []) [0, 1] [some (vp 1 0), some (vn), some (vn), some (vq), some (vq)] Zk (tC (tC (tC (tC (tC (tE)))))) (bC (o := .ro (Zc L1) true) (show Zc L1 = Zc L1 from rfl) <| bS (κn L0) <| bE) (show Zt (Zdq 1).2 = [] from rfl)

theorem Zi7 (L0 : List RL) (L1 : List RI) (N : Nat) (r : ZaC) (h : Zc9 L0 L1 N = some r) : LSpec Tryz.prog 184 #[Value.agg (κH L0), vn] [.ro (Zc L1) true] (Zg1 L0 L1 r) (Zgv L0 L1 r) :=
 Mach.spec Zz (Zcw L0 L1 N) Tryz.func184 (by kernel_rfl) (by kernel_rfl) (fun x => by cases x <;> exact ZB _ rfl) (fun r => by cases r <;> exact ZB _ rfl) (fun x => by
  cases x with
  | h1m0 => exact fun _ => (show ¬ (1 ∈ Zt (Zdq 1).2) from by decide +kernel)
  ) (fun x => (show (Zcw L0 L1 N).Ok Tryz.prog Zu x (Zc7 L0 L1 N x) from by
  cases x with
  | h1m0 => exact Ziv L0 L1 N
  )) (ZjR L0 L1 N) (n := N) h

noncomputable def Zgw {L0 : List RL} {L1 : List RI} {N : Nat} (h : Zc9 L0 L1 N = some (.r0)) (ks : List Nat) (n : Nat) : ToldS := ⟨#[Value.agg (κbl L0 ks), vn], [((nth ks 0), .ro (Zc L1) true)], vn, [], 0⟩

theorem Zk2 {L0 : List RL} {L1 : List RI} {N : Nat} (h : Zc9 L0 L1 N = some (.r0)) (ks : List Nat) (n : Nat) (hk : ks.length = 1 := by rfl) (hnd : ks.Nodup := by decide +kernel) (hlt : ∀ k ∈ ks, k < n := by decide +kernel) : (Zgw (N := N)  h ks n).P Tryz.prog 184 n :=
 match ks, hk, hnd, hlt with
 | [k0], _, hnd, hlt => Za3 (show LSpec Tryz.prog 184 #[Value.agg (κH L0), vn] [.ro (Zc L1) true] (vn) [some (.ro (Zc L1) true)] from Zi7 L0 L1 N _ h) _ n [] hnd hlt

end Ev
end Go.Proofs.YtiijipocjellpaaGreat
namespace Go.Proofs.YtiijipocjellpaaGreat
open Go.RowKit
namespace Ev
set_option linter.unusedVariables false
set_option maxRecDepth 100000
set_option maxHeartbeats 4000000
noncomputable def ZfX (L0 : List RL) (L1 : List RI) (L2 : List Int) : Zae → Value
 | .r0 => vn
 | .r1 w2 => vs 2 0 w2.length w2.length
noncomputable def Zf4 (L0 : List RL) (L1 : List RI) (L2 : List Int) : Zae → List (Option AObj)
 | .r0 => [some (.ro (Zc L1) true), some (.cells (Zb eI L2) 3)]
 | .r1 w2 => [some (.ro (Zc L1) true), some (.cells (Zb eI L2) 3), some (.cells (Zb RB w2) 42)]

def Zjn : Z0 → Nat
 | .h1m0 => 1
 | .h1m1 v2 v4 => 1
noncomputable def ZjS (L0 : List RL) (L1 : List RI) (L2 : List Int) : Z0 → List (Nat × Value)
 | .h1m0 => [(2, vp 2 0), (5, vn), (8, vs 1 0 L2.length L2.length), (9, vi (L2.length : Int)), (10, vq)]
 | .h1m1 v2 v4 => [(2, vp 2 0), (5, vs 3 0 v2.length v2.length), (8, vs 1 0 L2.length L2.length), (9, vi (L2.length : Int)), (10, vi (v4 : Int))]
noncomputable def ZjT (L0 : List RL) (L1 : List RI) (L2 : List Int) : Z0 → List (Option AObj)
 | .h1m0 => [some (.ro (Zc L1) true), some (.cells (Zb eI L2) 3), some (.cells (κn L0) 272)]
 | .h1m1 v2 v4 => [some (.ro (Zc L1) true), some (.cells (Zb eI L2) 3), some (.cells (κn L0) 272), some (.cells (Zb RB v2) 42)]

noncomputable def ZaY : Nat → Code × List Zay
 | 1 => Zck [1, 1, 0, 1, 3] (ZcP Tryz.f184) []
 | _ => (.skip, [])
def Zf5 : Nat → Bool
 | 1 => true
 | _ => true
noncomputable def ZfY (i : Nat) : List Zay := match Zf5 i with | true => .rnd i :: (ZaY i).2 | false => (ZaY i).2

noncomputable def ZaZ (L0 : List RL) (L1 : List RI) (L2 : List Int) (N : Nat) : Mach := ⟨Tryz.f184, [.ro (Zc L1) true, .cells (Zb eI L2) 3], Z0, Zae, ZaA L0 L1 L2 N, Zjn, ZaY, Zf5, ZjS L0 L1 L2, ZjT L0 L1 L2, ZfX L0 L1 L2, Zf4 L0 L1 L2⟩

theorem Zhr (L0 : List RL) (L1 : List RI) (L2 : List Int) (N : Nat) : (ZaZ L0 L1 L2 N).Ok Tryz.prog Zu (.h1m0 : Z0) (ZaA L0 L1 L2 N (.h1m0 : Z0)) := by
 show (ZaZ L0 L1 L2 N).Ok Tryz.prog Zu (.h1m0 : Z0) (Za4 L0 L1 L2 N)
 unfold Za4
 refine Mach.ok_ite (fun g0 => ?_) (fun g0 => ?_)
 ·
  refine Mach.ok_ite (fun g1 => ?_) (fun _ => Mach.ok_none)
  refine Mach.ok_ite (fun g2 => ?_) (fun _ => Mach.ok_none)
  exact Mach.okN (Zj (oq [1]) [] [(0, 0), (1, ((L2.getD 0 0)).toNat)] [(0, [.i (L2.getD 0 0)]), (2, [.i (L0.getD ((L2.getD 0 0)).toNat RL.z).a0, .i (L0.getD ((L2.getD 0 0)).toNat RL.z).a1])] []) [0, 1, 2, 4] [some (vp 2 0), some (vs 4 0 1 1), some (vs 1 0 L2.length L2.length), some (vi (L2.length : Int)), some (vi 1)] (kG RD L0 ((0 + (((L2.getD 0 0)).toNat * 8)) + 0) (((L2.getD 0 0)).toNat) 0 2 8 <| kB ((L2.getD 0 0)).toNat L0.length <| kI (L2.getD 0 0) (Int.ofNat ((L2.getD 0 0)).toNat) <| kLn eI L2 0 0 1 <| kB 0 L2.length <| kI 0 (Int.ofNat 0) <| hY g0 Zk) (tC (tC (tC (tC (tC (tE) ⟨Eq.trans (show (vi ((1 : Nat) : Int) : Value) = vi 1 from (congrArg (Value.int .i64) (by first | rfl | omega))) (by rfl), by rfl⟩))) ⟨Eq.trans (show (vs 3 0 ([(⟨(L0.getD ((L2.getD 0 0)).toNat RL.z).a0, (L0.getD ((L2.getD 0 0)).toNat RL.z).a1⟩ : RH)] : List RH).length ([(⟨(L0.getD ((L2.getD 0 0)).toNat RL.z).a0, (L0.getD ((L2.getD 0 0)).toNat RL.z).a1⟩ : RH)] : List RH).length : Value) = vs 3 0 1 1 from (Z5 rfl eqA eqA)) (by rfl), by rfl⟩)) (bC (o := .ro (Zc L1) true) (show Zc L1 = Zc L1 from rfl) <| bR <| bS (κn L0) <| bC (o := .cells [vi (L0.getD ((L2.getD 0 0)).toNat RL.z).a0, vi (L0.getD ((L2.getD 0 0)).toNat RL.z).a1] 42) (Zc5 (E := RB) _ (L := ([(⟨(L0.getD ((L2.getD 0 0)).toNat RL.z).a0, (L0.getD ((L2.getD 0 0)).toNat RL.z).a1⟩ : RH)] : List RH)) _ (show ([vi (L0.getD ((L2.getD 0 0)).toNat RL.z).a0, vi (L0.getD ((L2.getD 0 0)).toNat RL.z).a1] : List Value) = Zb RB ([(⟨(L0.getD ((L2.getD 0 0)).toNat RL.z).a0, (L0.getD ((L2.getD 0 0)).toNat RL.z).a1⟩ : RH)] : List RH) from rfl)) <| bE) (show 1 ∈ Zt (ZfY 1) from by decide +kernel)
 ·
  exact Mach.okF (Zj (oq [0]) [] [] [] []) [0, 1] (vn) (hN g0 Zk) (bC (o := .ro (Zc L1) true) (show Zc L1 = Zc L1 from rfl) <| bR <| bE)

theorem Zhs (L0 : List RL) (L1 : List RI) (L2 : List Int) (v2 : List RH) (v4 N : Nat) : (ZaZ L0 L1 L2 N).Ok Tryz.prog Zu (.h1m1 v2 v4 : Z0) (ZaA L0 L1 L2 N (.h1m1 v2 v4 : Z0)) := by
 show (ZaZ L0 L1 L2 N).Ok Tryz.prog Zu (.h1m1 v2 v4 : Z0) (Za5 L0 L1 L2 N v2 v4)
 unfold Za5
 refine Mach.ok_ite (fun g0 => ?_) (fun g0 => ?_)
 ·
  refine Mach.ok_ite (fun g1 => ?_) (fun _ => Mach.ok_none)
  refine Mach.ok_ite (fun g2 => ?_) (fun _ => Mach.ok_none)
  refine Mach.ok_ite (fun g3 => ?_) (fun _ => Mach.ok_none)
  refine Mach.ok_ite (fun g4 => ?_) (fun _ => Mach.ok_none)
  exact Mach.okN (Zj (oq [1]) [(0, (((v4 + 1) : Nat) : Int))] [(0, v4), (1, ((L2.getD v4 0)).toNat)] [(0, [.i (L2.getD v4 0)]), (2, [.i (L0.getD ((L2.getD v4 0)).toNat RL.z).a0, .i (L0.getD ((L2.getD v4 0)).toNat RL.z).a1])] [(0, .ap 1 [vi (L0.getD ((L2.getD v4 0)).toNat RL.z).a0, vi (L0.getD ((L2.getD v4 0)).toNat RL.z).a1] (Zb RB (v2 ++ ([(⟨(L0.getD ((L2.getD v4 0)).toNat RL.z).a0, (L0.getD ((L2.getD v4 0)).toNat RL.z).a1⟩ : RH)] : List RH))))]) [0, 1, 2, 5] [some (vp 2 0), some (vs 5 0 (v2.length + 1) (v2.length + 1)), some (vs 1 0 L2.length L2.length), some (vi (L2.length : Int)), some (vi (((v4 + 1) : Nat) : Int))] (kW ((v4 : Int) + 1) (((v4 + 1) : Nat) : Int) <| kA RB v2 (⟨(L0.getD ((L2.getD v4 0)).toNat RL.z).a0, (L0.getD ((L2.getD v4 0)).toNat RL.z).a1⟩ : RH) <| kG RD L0 ((0 + (((L2.getD v4 0)).toNat * 8)) + 0) (((L2.getD v4 0)).toNat) 0 2 8 <| kB ((L2.getD v4 0)).toNat L0.length <| kI (L2.getD v4 0) (Int.ofNat ((L2.getD v4 0)).toNat) <| kLn eI L2 v4 0 1 <| kB v4 L2.length <| kI (v4 : Int) (Int.ofNat v4) <| hY g0 Zk) (tC (tC (tC (tC (tC (tE)))) ⟨Eq.trans (show (vs 3 0 (v2 ++ ([(⟨(L0.getD ((L2.getD v4 0)).toNat RL.z).a0, (L0.getD ((L2.getD v4 0)).toNat RL.z).a1⟩ : RH)] : List RH)).length (v2 ++ ([(⟨(L0.getD ((L2.getD v4 0)).toNat RL.z).a0, (L0.getD ((L2.getD v4 0)).toNat RL.z).a1⟩ : RH)] : List RH)).length : Value) = vs 3 0 (v2.length + 1) (v2.length + 1) from (Z5 rfl eqA eqA)) (by rfl), by rfl⟩)) (bC (o := .ro (Zc L1) true) (show Zc L1 = Zc L1 from rfl) <| bR <| bS (κn L0) <| bR <| bE) (show 1 ∈ Zt (ZfY 1) from by decide +kernel)
 ·
  exact Mach.okF (Zj (oq [0]) [] [] [] []) [0, 1, 3] (vs 3 0 v2.length v2.length) (hN g0 Zk) (bC (o := .ro (Zc L1) true) (show Zc L1 = Zc L1 from rfl) <| bR <| bR <| bE)

theorem Zi8 (L0 : List RL) (L1 : List RI) (L2 : List Int) (N : Nat) : (ZaZ L0 L1 L2 N).Enter Tryz.prog Zu #[Value.agg (κH L0), vs 1 0 L2.length L2.length] (ZdB L0 L1 L2 N) := by
 unfold ZdB
 exact Mach.enH (ZaY 1) (Zj (oq []) [] [] [] []) [0, 1, 2] [some (vp 2 0), some (vn), some (vs 1 0 L2.length L2.length), some (vi (L2.length : Int)), some (vq)] Zk (tC (tC (tC (tC (tC (tE)))))) (bC (o := .ro (Zc L1) true) (show Zc L1 = Zc L1 from rfl) <| bR <| bS (κn L0) <| bE) (show Zt (ZaY 1).2 = [] from rfl)

theorem ZeA (L0 : List RL) (L1 : List RI) (L2 : List Int) (N : Nat) (r : Zae) (h : Za6 L0 L1 L2 N = some r) : LSpec Tryz.prog 184 #[Value.agg (κH L0), vs 1 0 L2.length L2.length] [.ro (Zc L1) true, .cells (Zb eI L2) 3] (ZfX L0 L1 L2 r) (Zf4 L0 L1 L2 r) :=
 Mach.spec Zz (ZaZ L0 L1 L2 N) Tryz.func184 (by kernel_rfl) (by kernel_rfl) (fun x => by cases x <;> exact ZB _ rfl) (fun r => by cases r <;> exact ZB _ rfl) (fun x => by
  cases x with
  | h1m0 => exact fun _ => (show ¬ (1 ∈ Zt (ZaY 1).2) from by decide +kernel)
  | h1m1 _ _ => exact fun _ => (show ¬ (1 ∈ Zt (ZaY 1).2) from by decide +kernel)
  ) (fun x => (show (ZaZ L0 L1 L2 N).Ok Tryz.prog Zu x (ZaA L0 L1 L2 N x) from by
  cases x with
  | h1m0 => exact Zhr L0 L1 L2 N
  | h1m1 v2 v4 => exact Zhs L0 L1 L2 v2 v4 N
  )) (Zi8 L0 L1 L2 N) (n := N) h

noncomputable def Zf6 {L0 : List RL} {L1 : List RI} {L2 : List Int} {N : Nat} (h : Za6 L0 L1 L2 N = some (.r0)) (ks : List Nat) (n : Nat) : ToldS := ⟨#[Value.agg (κbl L0 ks), vs (nth ks 1) 0 L2.length L2.length], [((nth ks 0), .ro (Zc L1) true), ((nth ks 1), .cells (Zb eI L2) 3)], vn, [], 0⟩

theorem Zjo {L0 : List RL} {L1 : List RI} {L2 : List Int} {N : Nat} (h : Za6 L0 L1 L2 N = some (.r0)) (ks : List Nat) (n : Nat) (hk : ks.length = 2 := by rfl) (hnd : ks.Nodup := by decide +kernel) (hlt : ∀ k ∈ ks, k < n := by decide +kernel) : (Zf6 (N := N)  h ks n).P Tryz.prog 184 n :=
 match ks, hk, hnd, hlt with
 | [k0, k1], _, hnd, hlt => Za3 (show LSpec Tryz.prog 184 #[Value.agg (κH L0), vs 1 0 L2.length L2.length] [.ro (Zc L1) true, .cells (Zb eI L2) 3] (vn) [some (.ro (Zc L1) true), some (.cells (Zb eI L2) 3)] from ZeA L0 L1 L2 N _ h) _ n [] hnd hlt

noncomputable def Zf7 {L0 : List RL} {L1 : List RI} {L2 : List Int} {w2 : List RH} {N : Nat} (h : Za6 L0 L1 L2 N = some (.r1 w2)) (ks : List Nat) (n : Nat) : ToldS := ⟨#[Value.agg (κbl L0 ks), vs (nth ks 1) 0 L2.length L2.length], [((nth ks 0), .ro (Zc L1) true), ((nth ks 1), .cells (Zb eI L2) 3)], vs n 0 w2.length w2.length, [(n, some (.cells (Zb RB w2) 42))], 1⟩

theorem Zjp {L0 : List RL} {L1 : List RI} {L2 : List Int} {w2 : List RH} {N : Nat} (h : Za6 L0 L1 L2 N = some (.r1 w2)) (ks : List Nat) (n : Nat) (hk : ks.length = 2 := by rfl) (hnd : ks.Nodup := by decide +kernel) (hlt : ∀ k ∈ ks, k < n := by decide +kernel) : (Zf7 (N := N)  h ks n).P Tryz.prog 184 n :=
 match ks, hk, hnd, hlt with
 | [k0, k1], _, hnd, hlt => Za3 (show LSpec Tryz.prog 184 #[Value.agg (κH L0), vs 1 0 L2.length L2.length] [.ro (Zc L1) true, .cells (Zb eI L2) 3] (vs 2 0 w2.length w2.length) [some (.ro (Zc L1) true), some (.cells (Zb eI L2) 3), some (.cells (Zb RB w2) 42)] from ZeA L0 L1 L2 N _ h) _ n [2] hnd hlt

noncomputable def ZjU (L0 : List RL) (a1 a2 : Int) : Zc2 → Value
 | .r0 => vn
 | .r1 w0 => vs 0 0 w0.length w0.length
noncomputable def ZiS (L0 : List RL) (a1 a2 : Int) : Zc2 → List (Option AObj)
 | .r0 => []
 | .r1 w0 => [some (.cells (Zb RB w0) 42)]

theorem Zng (L0 : List RL) (a1 a2 : Int) (N : Nat) : Fx Tryz.prog Zu Tryz.f161 [] (κt L0 a1 a2) (ZjU L0 a1 a2) (ZiS L0 a1 a2) (Za9 L0 a1 a2 N) := by
 unfold Za9
 refine Zcc (fun z0 c0 => ?_)
 cases z0 with
 | r0 y0_0 =>
  refine Zcc (fun z1 c1 => ?_)
  cases z1 with
  | r0 =>
   refine Zcc (fun z2 c2 => ?_)
   cases z2 with
   | r0 =>
    exact fxC (Zj (oq []) [] [] [] [(0, (ZfB c0 [] 1).t), (2, (Zgu c1 [1, 3] 4).t), (3, (Zgw c2 [1] 4).t)]) [] (vn) (kK (Zk2 c2 [1] 4) <| kKa (Zky c1 [1, 3] 4) <| kX (dS (Zc y0_0)) true (Z2 (congrArg Zc (by first | rfl | simp))) <| kX (dP ([vi a1, vi a2] = (Zb RB ([(⟨a1, a2⟩ : RH)] : List RH)))) true (Z2 (show ([vi a1, vi a2] : List Value) = (Zb RB ([(⟨a1, a2⟩ : RH)] : List RH)) from rfl)) <| kK (ZkP c0 [] 1) Zk) bE
  | r1 y1_0 =>
   have w2 := kKa (Zkz c1 [1, 3] 4) <| kX (dS (Zc y0_0)) true (Z2 (congrArg Zc (by first | rfl | simp))) <| kX (dP ([vi a1, vi a2] = (Zb RB ([(⟨a1, a2⟩ : RH)] : List RH)))) true (Z2 (show ([vi a1, vi a2] : List Value) = (Zb RB ([(⟨a1, a2⟩ : RH)] : List RH)) from rfl)) <| kK (ZkP c0 [] 1) Zk
   refine Zcc (fun z2 c2 => ?_)
   cases z2 with
   | r0 =>
    exact fxC (Zj (oq []) [] [] [] [(0, (ZfB c0 [] 1).t), (2, (Zeo c1 [1, 3] 4).t), (3, (Zf6 c2 [1, 4] 5).t)]) [] (vn) (kK (Zjo c2 [1, 4] 5) w2) bE
   | r1 y2_0 =>
    exact fxC (Zj (oq []) [] [] [] [(0, (ZfB c0 [] 1).t), (2, (Zeo c1 [1, 3] 4).t), (3, (Zf7 c2 [1, 4] 5).t)]) [5] (vs 5 0 y2_0.length y2_0.length) (kK (Zjp c2 [1, 4] 5) w2) (bR <| bE)

theorem ZlT (L0 : List RL) (a1 a2 : Int) (N : Nat) (r : Zc2) (h : Za9 L0 a1 a2 N = some r) : LSpec Tryz.prog 161 (κt L0 a1 a2) [] (ZjU L0 a1 a2 r) (ZiS L0 a1 a2 r) :=
 Zbc Zz Tryz.func161 (by kernel_rfl) (by kernel_rfl) (fun r => by cases r <;> exact ZB _ rfl) (Zng L0 a1 a2 N) h

noncomputable def Zgx {L0 : List RL} {a1 a2 : Int} {w0 : List RH} {N : Nat} (h : Za9 L0 a1 a2 N = some (.r1 w0)) (ks : List Nat) (n : Nat) : ToldS := ⟨(κt L0 a1 a2), [], vs n 0 w0.length w0.length, [(n, some (κbm w0))], 1⟩

theorem ZiT {L0 : List RL} {a1 a2 : Int} {w0 : List RH} {N : Nat} (h : Za9 L0 a1 a2 N = some (.r1 w0)) (ks : List Nat) (n : Nat) (hk : ks.length = 0 := by rfl) (hnd : ks.Nodup := by decide +kernel) (hlt : ∀ k ∈ ks, k < n := by decide +kernel) : (Zgx (N := N)  h ks n).P Tryz.prog 161 n :=
 match ks, hk, hnd, hlt with
 | [], _, hnd, hlt => Za3 (show LSpec Tryz.prog 161 (κt L0 a1 a2) [] (vs 0 0 w0.length w0.length) [some (κbm w0)] from ZlT L0 a1 a2 N _ h) _ n [0] hnd hlt

noncomputable abbrev κu (L2 : List RJ) := #[Value.agg #[vi 2, vi (((1 : Int) * 1048576) + (((L2.length + 1) : Nat) : Int))], vq]
noncomputable def Ziw (a0 a1 : Int) (L2 : List RJ) (L3 : List RH) : Zbf → Value
 | .r0 w4 => Value.tuple #[Value.agg #[vq, vq], vi w4]
 | .r1 => Value.tuple (κu L2)
noncomputable abbrev κbe (L3 : List RH) (L2 : List RJ) := (Zb RB ((L3 ++ (List.replicate 2 (⟨0, 0⟩ : RH))).set (L2.length + 1) (⟨2, 0⟩ : RH)))
noncomputable abbrev κ8 (L2 : List RJ) (a0 : Int) := (Zb RC ((L2 ++ (List.replicate 2 (⟨0, 0, 0, 0, 0⟩ : RJ))).set L2.length (⟨1, 1, 1, 1, a0⟩ : RJ)))
noncomputable abbrev κ1 (a1 : Int) (L2 : List RJ) (L3 : List RH) (a0 : Int) := [some (AObj.cells (ZG (vi a1) (vs 3 0 (L2.length + 2) (L2.length + 2)) (vs 4 0 (L3.length + 2) (L3.length + 2))) 154), none, none, some (AObj.cells (κ8 L2 a0) 57), some (AObj.cells (κbe L3 L2) 42)]
noncomputable abbrev κe (a1 : Int) (L2 : List RJ) (L3 : List RH) := (ZG (vi a1) (vs 1 0 L2.length L2.length) (vs 2 0 L3.length L3.length))
noncomputable def Zhw (a0 a1 : Int) (L2 : List RJ) (L3 : List RH) : Zbf → List (Option AObj)
 | .r0 w4 => [some (.cells (κe a1 L2 L3) 154), some (.cells (Zb RC L2) 57), some (.cells (Zb RB L3) 42)]
 | .r1 => (κ1 a1 L2 L3 a0)

noncomputable abbrev κbD := (Zb RC (List.replicate 2 (⟨0, 0, 0, 0, 0⟩ : RJ)))
noncomputable abbrev κbs := (Value.tuple #[Value.agg #[vq, vq], vi 1])
theorem ZlU (a0 a1 : Int) (L2 : List RJ) (L3 : List RH) (N : Nat) : Fx Tryz.prog Zu Tryz.f163 [.cells (κe a1 L2 L3) 154, .cells (Zb RC L2) 57, .cells (Zb RB L3) 42] #[vp 0 0, vi 1, vi 1, vi a0] (Ziw a0 a1 L2 L3) (Zhw a0 a1 L2 L3) (ZbF a0 a1 L2 L3 N) := by
 unfold ZbF
 refine Zg (fun g0 => ?_) (fun g0 => ?_)
 ·
  refine Zg (fun g1 => ?_) (fun g1 => ?_)
  ·
   exact fxC (Zj (oq [3, 15]) [] [] [] []) [0, 1, 2] κbs (hY g1 <| kY (a1 > 0) Zk) (bS (κe a1 L2 L3) <| bR <| bR <| bE)
  ·
   refine Zg (fun g2 => ?_) (fun g2 => ?_)
   ·
    exact fxC (Zj (oq [3, 14, 17]) [] [] [] []) [0, 1, 2] κbs (kY (a0 ≥ 64) <| hN g1 <| kY (a1 > 0) Zk) (bS (κe a1 L2 L3) <| bR <| bR <| bE)
   ·
    refine Zg (fun g3 => ?_) (fun _ => Zo)
    have w4 := kW ((L2.length : Int) + 1) (((L2.length + 1) : Nat) : Int) <| kY (a1 > 0) <| kN (a0 ≥ 64) <| hN g1 <| kY (a1 > 0) Zk
    refine Zg (fun g4 => ?_) (fun _ => Zo)
    have w5 := kW ((((L2.length + 1) : Nat) : Int) + 1) (((L2.length + 2) : Nat) : Int) w4
    refine Zg (fun g5 => ?_) (fun g5 => ?_)
    ·
     exact fxC (Zj (oq [3, 14, 16, 23, 27]) [(1, (((L2.length + 1) : Nat) : Int)), (2, (((L2.length + 2) : Nat) : Int))] [] [] []) [0, 1, 2] (Value.tuple #[Value.agg #[vq, vq], vi 20]) (kY ((((L2.length + 2) : Nat) : Int) > a1) w5) (bS (κe a1 L2 L3) <| bR <| bR <| bE)
    ·
     refine Zg (fun g6 => ?_) (fun _ => Zo)
     refine Zg (fun g7 => ?_) (fun _ => Zo)
     refine Zg (fun g8 => ?_) (fun _ => Zo)
     refine Zcc (fun z9 c9 => ?_)
     cases z9 with
     | r0 =>
      exact fxC (Zj (oq [3, 14, 16, 23, 26]) [(1, (((L2.length + 1) : Nat) : Int)), (2, (((L2.length + 2) : Nat) : Int)), (3, (((L2.length + 1) : Nat) : Int)), (6, (L2.length : Int)), (9, (((L2.length + 1) : Nat) : Int))] [(1, L2.length), (2, (L2.length + 1))] [] [(2, .ap 2 κbD (Zb RC (L2 ++ (List.replicate 2 (⟨0, 0, 0, 0, 0⟩ : RJ))))), (4, .ap 2 (Zb RB (List.replicate 2 (⟨0, 0⟩ : RH))) (Zb RB (L3 ++ (List.replicate 2 (⟨0, 0⟩ : RH))))), (6, .st (κ8 L2 a0)), (9, .st (κbe L3 L2)), (10, (Zfh c9 [] 10).t)]) [0, 1, 2, 6, 7] (Value.tuple (κu L2)) (kK (Zgl c9 [] 10) <| kC (ZaO (E := RB) (L := (L3 ++ (List.replicate 2 (⟨0, 0⟩ : RH)))) (i := (L2.length + 1)) (q := 0) (l := [vi 2, vq]) (⟨2, 0⟩ : RH) ltA (show (0 + ((L2.length + 1) * 2)) = (L2.length + 1) * 2 + 0 from by omega) (show 0 + 2 ≤ 2 from by decide) rfl) <| kB (L2.length + 1) (L3.length + 2) <| kI (((L2.length + 1) : Nat) : Int) (Int.ofNat (L2.length + 1)) <| kW ((((L2.length + 1) : Nat) : Int) + 0) (((L2.length + 1) : Nat) : Int) <| kC (ZaO (E := RC) (L := (L2 ++ (List.replicate 2 (⟨0, 0, 0, 0, 0⟩ : RJ)))) (i := L2.length) (q := 0) (l := [vi 1, vi 1, vi 1, vi 1, vi a0]) (⟨1, 1, 1, 1, a0⟩ : RJ) ltA (show (0 + (L2.length * 5)) = L2.length * 5 + 0 from by omega) (show 0 + 5 ≤ 5 from by decide) rfl) <| kB L2.length (L2.length + 2) <| kI (L2.length : Int) (Int.ofNat L2.length) <| kW ((((L2.length + 1) : Nat) : Int) - 1) (L2.length : Int) <| kX (dP (((2 : Int) = Int.ofNat 2 ∧ 0 < 2 ∧ 2 ≤ 100000 ∧ 0 < 2 ∧ (Zb RB (List.replicate 2 (⟨0, 0⟩ : RH))) = Ev.rep [vq, vq] (2 * 2)) ∧ 0 < 2 ∧ 2 ≤ 100000 ∧ L3.length < L3.length + 2 ∧ L3.length ≤ 100000 ∧ L3.length * 2 ≤ (List.length (Zb RB L3)) ∧ List.take (L3.length * 2) (Zb RB L3) ++ (Zb RB (List.replicate 2 (⟨0, 0⟩ : RH))) = (Zb RB (L3 ++ (List.replicate 2 (⟨0, 0⟩ : RH)))))) true (Z2 ⟨⟨by first | rfl | exact ZgX (by omega), ltA, ltA, by decide, (ZgH (E := RB) (⟨0, 0⟩ : RH) 2 (by decide) rfl rfl).symm⟩, ltA, ltA, ltA, by omega, (ZfI (E := RB) (L := L3) (M := (List.replicate 2 (⟨0, 0⟩ : RH))) (n := L3.length) (show _ = _ * 2 from rfl) (by omega) (R := (L3 ++ (List.replicate 2 (⟨0, 0⟩ : RH)))) (by rw [List.take_of_length_le (by omega)]))⟩) <| kX (dP (((2 : Int) = Int.ofNat 2 ∧ 0 < 2 ∧ 2 ≤ 100000 ∧ 0 < 5 ∧ κbD = Ev.rep [vq, vq, vq, vq, vq] (2 * 5)) ∧ 0 < 2 ∧ 2 ≤ 100000 ∧ L2.length < L2.length + 2 ∧ L2.length ≤ 100000 ∧ L2.length * 5 ≤ (List.length (Zb RC L2)) ∧ List.take (L2.length * 5) (Zb RC L2) ++ κbD = (Zb RC (L2 ++ (List.replicate 2 (⟨0, 0, 0, 0, 0⟩ : RJ)))))) true (Z2 ⟨⟨by first | rfl | exact ZgX (by omega), ltA, ltA, by decide, (ZgH (E := RC) (⟨0, 0, 0, 0, 0⟩ : RJ) 2 (by decide) rfl rfl).symm⟩, ltA, ltA, ltA, by omega, (ZfI (E := RC) (L := L2) (M := (List.replicate 2 (⟨0, 0, 0, 0, 0⟩ : RJ))) (n := L2.length) (show _ = _ * 5 from rfl) (by omega) (R := (L2 ++ (List.replicate 2 (⟨0, 0, 0, 0, 0⟩ : RJ)))) (by rw [List.take_of_length_le (by omega)]))⟩) <| kW ((L2.length : Int) + 1) (((L2.length + 1) : Nat) : Int) <| kN ((((L2.length + 2) : Nat) : Int) > a1) w5) (bS (ZG (vi a1) (vs 6 0 (L2.length + 2) (L2.length + 2)) (vs 7 0 (L3.length + 2) (L3.length + 2))) <| bN <| bN <| bR <| bR <| bE)
 ·
  exact fxC (Zj (oq [2]) [] [] [] []) [0, 1, 2] (Value.tuple #[Value.agg #[vq, vq], vi 4]) (kN (a1 > 0) Zk) (bS (κe a1 L2 L3) <| bR <| bR <| bE)

theorem Zk3 (a0 a1 : Int) (L2 : List RJ) (L3 : List RH) (N : Nat) (r : Zbf) (h : ZbF a0 a1 L2 L3 N = some r) : LSpec Tryz.prog 163 #[vp 0 0, vi 1, vi 1, vi a0] [.cells (κe a1 L2 L3) 154, .cells (Zb RC L2) 57, .cells (Zb RB L3) 42] (Ziw a0 a1 L2 L3 r) (Zhw a0 a1 L2 L3 r) :=
 Zbc Zz Tryz.func163 (by kernel_rfl) (by kernel_rfl) (fun r => by cases r <;> exact ZB _ rfl) (ZlU a0 a1 L2 L3 N) h

noncomputable abbrev κr (ks : List Nat) (a1 : Int) (L2 : List RJ) (L3 : List RH) := [((nth ks 0), AObj.cells (ZG (vi a1) (vs (nth ks 1) 0 L2.length L2.length) (vs (nth ks 2) 0 L3.length L3.length)) 154), ((nth ks 1), AObj.cells (Zb RC L2) 57), ((nth ks 2), AObj.cells (Zb RB L3) 42)]
noncomputable def Zhx {a0 a1 : Int} {L2 : List RJ} {L3 : List RH} {N : Nat} (h : ZbF a0 a1 L2 L3 N = some (.r1)) (ks : List Nat) (n : Nat) : ToldS := ⟨#[vp (nth ks 0) 0, vi 1, vi 1, vi a0], (κr ks a1 L2 L3), Value.tuple (κu L2), [((nth ks 0), some (.cells (ZG (vi a1) (vs n 0 (L2.length + 2) (L2.length + 2)) (vs (n + 1) 0 (L3.length + 2) (L3.length + 2))) 154)), ((nth ks 1), none), ((nth ks 2), none), (n, some (.cells (κ8 L2 a0) 57)), ((n + 1), some (.cells (κbe L3 L2) 42))], 2⟩

theorem Zmu {a0 a1 : Int} {L2 : List RJ} {L3 : List RH} {N : Nat} (h : ZbF a0 a1 L2 L3 N = some (.r1)) (ks : List Nat) (n : Nat) (hk : ks.length = 3 := by rfl) (hnd : ks.Nodup := by decide +kernel) (hlt : ∀ k ∈ ks, k < n := by decide +kernel) : (Zhx (N := N)  h ks n).P Tryz.prog 163 n :=
 match ks, hk, hnd, hlt with
 | [k0, k1, k2], _, hnd, hlt => Za3 (show LSpec Tryz.prog 163 #[vp 0 0, vi 1, vi 1, vi a0] [.cells (κe a1 L2 L3) 154, .cells (Zb RC L2) 57, .cells (Zb RB L3) 42] (Value.tuple (κu L2)) (κ1 a1 L2 L3 a0) from Zk3 a0 a1 L2 L3 N _ h) _ n [0, 1, 2, 3, 4] hnd hlt

noncomputable def Zhd (a0 a1 : Int) (L2 : List RJ) (L3 : List RH) : ZaK → Value
 | .r0 w4 => Value.tuple #[Value.agg #[vq, vq], vi w4]
 | .r1 => Value.tuple (κu L2)
noncomputable abbrev κ9 (L2 : List RJ) (a0 : Int) := (Zb RC ((L2 ++ (List.replicate 3 (⟨0, 0, 0, 0, 0⟩ : RJ))).set L2.length (⟨1, 2, 1, 1, a0⟩ : RJ)))
noncomputable abbrev κZ (L3 : List RH) (L2 : List RJ) := (Zb RB (((L3 ++ (List.replicate 3 (⟨0, 0⟩ : RH))).set (L2.length + 1) (⟨2, 0⟩ : RH)).set (L2.length + 2) (⟨1, 0⟩ : RH)))
noncomputable abbrev κW (a1 : Int) (L2 : List RJ) (L3 : List RH) (a0 : Int) := [some (AObj.cells (ZG (vi a1) (vs 3 0 (L2.length + 3) (L2.length + 3)) (vs 4 0 (L3.length + 3) (L3.length + 3))) 154), none, none, some (AObj.cells (κ9 L2 a0) 57), some (AObj.cells (κZ L3 L2) 42)]
noncomputable def Zg2 (a0 a1 : Int) (L2 : List RJ) (L3 : List RH) : ZaK → List (Option AObj)
 | .r0 w4 => [some (.cells (κe a1 L2 L3) 154), some (.cells (Zb RC L2) 57), some (.cells (Zb RB L3) 42)]
 | .r1 => (κW a1 L2 L3 a0)

noncomputable abbrev κbE := (Zb RC (List.replicate 3 (⟨0, 0, 0, 0, 0⟩ : RJ)))
theorem Zk4 (a0 a1 : Int) (L2 : List RJ) (L3 : List RH) (N : Nat) : Fx Tryz.prog Zu Tryz.f163 [.cells (κe a1 L2 L3) 154, .cells (Zb RC L2) 57, .cells (Zb RB L3) 42] #[vp 0 0, vi 2, vi 1, vi a0] (Zhd a0 a1 L2 L3) (Zg2 a0 a1 L2 L3) (Zbm a0 a1 L2 L3 N) := by
 unfold Zbm
 refine Zg (fun g0 => ?_) (fun g0 => ?_)
 ·
  refine Zg (fun g1 => ?_) (fun g1 => ?_)
  ·
   exact fxC (Zj (oq [3, 15]) [] [] [] []) [0, 1, 2] κbs (hY g1 <| kY (a1 > 0) Zk) (bS (κe a1 L2 L3) <| bR <| bR <| bE)
  ·
   refine Zg (fun g2 => ?_) (fun g2 => ?_)
   ·
    exact fxC (Zj (oq [3, 14, 17]) [] [] [] []) [0, 1, 2] κbs (kY (a0 ≥ 64) <| hN g1 <| kY (a1 > 0) Zk) (bS (κe a1 L2 L3) <| bR <| bR <| bE)
   ·
    refine Zg (fun g3 => ?_) (fun _ => Zo)
    have w4 := kW ((L2.length : Int) + 2) (((L2.length + 2) : Nat) : Int) <| kY (a1 > 0) <| kN (a0 ≥ 64) <| hN g1 <| kY (a1 > 0) Zk
    refine Zg (fun g4 => ?_) (fun _ => Zo)
    have w5 := kW ((((L2.length + 2) : Nat) : Int) + 1) (((L2.length + 3) : Nat) : Int) w4
    refine Zg (fun g5 => ?_) (fun g5 => ?_)
    ·
     exact fxC (Zj (oq [3, 14, 16, 23, 27]) [(1, (((L2.length + 2) : Nat) : Int)), (2, (((L2.length + 3) : Nat) : Int))] [] [] []) [0, 1, 2] (Value.tuple #[Value.agg #[vq, vq], vi 20]) (kY ((((L2.length + 3) : Nat) : Int) > a1) w5) (bS (κe a1 L2 L3) <| bR <| bR <| bE)
    ·
     refine Zg (fun g6 => ?_) (fun _ => Zo)
     refine Zg (fun g7 => ?_) (fun _ => Zo)
     refine Zg (fun g8 => ?_) (fun _ => Zo)
     refine Zg (fun g9 => ?_) (fun _ => Zo)
     refine Zcc (fun z10 c10 => ?_)
     cases z10 with
     | r0 =>
      exact fxC (Zj (oq [3, 14, 16, 23, 26]) [(1, (((L2.length + 2) : Nat) : Int)), (2, (((L2.length + 3) : Nat) : Int)), (3, (((L2.length + 1) : Nat) : Int)), (6, (L2.length : Int)), (9, (((L2.length + 1) : Nat) : Int)), (13, (((L2.length + 2) : Nat) : Int))] [(1, L2.length), (2, (L2.length + 1)), (3, (L2.length + 2))] [] [(2, .ap 3 κbE (Zb RC (L2 ++ (List.replicate 3 (⟨0, 0, 0, 0, 0⟩ : RJ))))), (4, .ap 3 (Zb RB (List.replicate 3 (⟨0, 0⟩ : RH))) (Zb RB (L3 ++ (List.replicate 3 (⟨0, 0⟩ : RH))))), (6, .st (κ9 L2 a0)), (9, .st (Zb RB ((L3 ++ (List.replicate 3 (⟨0, 0⟩ : RH))).set (L2.length + 1) (⟨2, 0⟩ : RH)))), (12, .st (κZ L3 L2)), (13, (Zfh c10 [] 11).t)]) [0, 1, 2, 6, 7] (Value.tuple (κu L2)) (kK (Zgl c10 [] 11) <| kC (ZaO (E := RB) (L := ((L3 ++ (List.replicate 3 (⟨0, 0⟩ : RH))).set (L2.length + 1) (⟨2, 0⟩ : RH))) (i := (L2.length + 2)) (q := 0) (l := [vi 1, vq]) (⟨1, 0⟩ : RH) ltA (show (0 + ((L2.length + 2) * 2)) = (L2.length + 2) * 2 + 0 from by omega) (show 0 + 2 ≤ 2 from by decide) rfl) <| kB (L2.length + 2) (L3.length + 3) <| kI (((L2.length + 2) : Nat) : Int) (Int.ofNat (L2.length + 2)) <| kW ((((L2.length + 1) : Nat) : Int) + 1) (((L2.length + 2) : Nat) : Int) <| kC (ZaO (E := RB) (L := (L3 ++ (List.replicate 3 (⟨0, 0⟩ : RH)))) (i := (L2.length + 1)) (q := 0) (l := [vi 2, vq]) (⟨2, 0⟩ : RH) ltA (show (0 + ((L2.length + 1) * 2)) = (L2.length + 1) * 2 + 0 from by omega) (show 0 + 2 ≤ 2 from by decide) rfl) <| kB (L2.length + 1) (L3.length + 3) <| kI (((L2.length + 1) : Nat) : Int) (Int.ofNat (L2.length + 1)) <| kW ((((L2.length + 1) : Nat) : Int) + 0) (((L2.length + 1) : Nat) : Int) <| kC (ZaO (E := RC) (L := (L2 ++ (List.replicate 3 (⟨0, 0, 0, 0, 0⟩ : RJ)))) (i := L2.length) (q := 0) (l := [vi 1, vi 2, vi 1, vi 1, vi a0]) (⟨1, 2, 1, 1, a0⟩ : RJ) ltA (show (0 + (L2.length * 5)) = L2.length * 5 + 0 from by omega) (show 0 + 5 ≤ 5 from by decide) rfl) <| kB L2.length (L2.length + 3) <| kI (L2.length : Int) (Int.ofNat L2.length) <| kW ((((L2.length + 1) : Nat) : Int) - 1) (L2.length : Int) <| kX (dP (((3 : Int) = Int.ofNat 3 ∧ 0 < 3 ∧ 3 ≤ 100000 ∧ 0 < 2 ∧ (Zb RB (List.replicate 3 (⟨0, 0⟩ : RH))) = Ev.rep [vq, vq] (3 * 2)) ∧ 0 < 3 ∧ 3 ≤ 100000 ∧ L3.length < L3.length + 3 ∧ L3.length ≤ 100000 ∧ L3.length * 2 ≤ (List.length (Zb RB L3)) ∧ List.take (L3.length * 2) (Zb RB L3) ++ (Zb RB (List.replicate 3 (⟨0, 0⟩ : RH))) = (Zb RB (L3 ++ (List.replicate 3 (⟨0, 0⟩ : RH)))))) true (Z2 ⟨⟨by first | rfl | exact ZgX (by omega), ltA, ltA, by decide, (ZgH (E := RB) (⟨0, 0⟩ : RH) 3 (by decide) rfl rfl).symm⟩, ltA, ltA, ltA, by omega, (ZfI (E := RB) (L := L3) (M := (List.replicate 3 (⟨0, 0⟩ : RH))) (n := L3.length) (show _ = _ * 2 from rfl) (by omega) (R := (L3 ++ (List.replicate 3 (⟨0, 0⟩ : RH)))) (by rw [List.take_of_length_le (by omega)]))⟩) <| kX (dP (((3 : Int) = Int.ofNat 3 ∧ 0 < 3 ∧ 3 ≤ 100000 ∧ 0 < 5 ∧ κbE = Ev.rep [vq, vq, vq, vq, vq] (3 * 5)) ∧ 0 < 3 ∧ 3 ≤ 100000 ∧ L2.length < L2.length + 3 ∧ L2.length ≤ 100000 ∧ L2.length * 5 ≤ (List.length (Zb RC L2)) ∧ List.take (L2.length * 5) (Zb RC L2) ++ κbE = (Zb RC (L2 ++ (List.replicate 3 (⟨0, 0, 0, 0, 0⟩ : RJ)))))) true (Z2 ⟨⟨by first | rfl | exact ZgX (by omega), ltA, ltA, by decide, (ZgH (E := RC) (⟨0, 0, 0, 0, 0⟩ : RJ) 3 (by decide) rfl rfl).symm⟩, ltA, ltA, ltA, by omega, (ZfI (E := RC) (L := L2) (M := (List.replicate 3 (⟨0, 0, 0, 0, 0⟩ : RJ))) (n := L2.length) (show _ = _ * 5 from rfl) (by omega) (R := (L2 ++ (List.replicate 3 (⟨0, 0, 0, 0, 0⟩ : RJ)))) (by rw [List.take_of_length_le (by omega)]))⟩) <| kW ((L2.length : Int) + 1) (((L2.length + 1) : Nat) : Int) <| kN ((((L2.length + 3) : Nat) : Int) > a1) w5) (bS (ZG (vi a1) (vs 6 0 (L2.length + 3) (L2.length + 3)) (vs 7 0 (L3.length + 3) (L3.length + 3))) <| bN <| bN <| bR <| bR <| bE)
 ·
  exact fxC (Zj (oq [2]) [] [] [] []) [0, 1, 2] (Value.tuple #[Value.agg #[vq, vq], vi 4]) (kN (a1 > 0) Zk) (bS (κe a1 L2 L3) <| bR <| bR <| bE)

theorem Zjq (a0 a1 : Int) (L2 : List RJ) (L3 : List RH) (N : Nat) (r : ZaK) (h : Zbm a0 a1 L2 L3 N = some r) : LSpec Tryz.prog 163 #[vp 0 0, vi 2, vi 1, vi a0] [.cells (κe a1 L2 L3) 154, .cells (Zb RC L2) 57, .cells (Zb RB L3) 42] (Zhd a0 a1 L2 L3 r) (Zg2 a0 a1 L2 L3 r) :=
 Zbc Zz Tryz.func163 (by kernel_rfl) (by kernel_rfl) (fun r => by cases r <;> exact ZB _ rfl) (Zk4 a0 a1 L2 L3 N) h

noncomputable def Zg3 {a0 a1 : Int} {L2 : List RJ} {L3 : List RH} {N : Nat} (h : Zbm a0 a1 L2 L3 N = some (.r1)) (ks : List Nat) (n : Nat) : ToldS := ⟨#[vp (nth ks 0) 0, vi 2, vi 1, vi a0], (κr ks a1 L2 L3), Value.tuple (κu L2), [((nth ks 0), some (.cells (ZG (vi a1) (vs n 0 (L2.length + 3) (L2.length + 3)) (vs (n + 1) 0 (L3.length + 3) (L3.length + 3))) 154)), ((nth ks 1), none), ((nth ks 2), none), (n, some (.cells (κ9 L2 a0) 57)), ((n + 1), some (.cells (κZ L3 L2) 42))], 2⟩

theorem ZkX {a0 a1 : Int} {L2 : List RJ} {L3 : List RH} {N : Nat} (h : Zbm a0 a1 L2 L3 N = some (.r1)) (ks : List Nat) (n : Nat) (hk : ks.length = 3 := by rfl) (hnd : ks.Nodup := by decide +kernel) (hlt : ∀ k ∈ ks, k < n := by decide +kernel) : (Zg3 (N := N)  h ks n).P Tryz.prog 163 n :=
 match ks, hk, hnd, hlt with
 | [k0, k1, k2], _, hnd, hlt => Za3 (show LSpec Tryz.prog 163 #[vp 0 0, vi 2, vi 1, vi a0] [.cells (κe a1 L2 L3) 154, .cells (Zb RC L2) 57, .cells (Zb RB L3) 42] (Value.tuple (κu L2)) (κW a1 L2 L3 a0) from Zjq a0 a1 L2 L3 N _ h) _ n [0, 1, 2, 3, 4] hnd hlt

set_option linter.unusedVariables false
set_option maxRecDepth 100000
set_option maxHeartbeats 4000000
noncomputable def Zhe (a0 a1 : Int) (L2 : List RJ) (L3 : List RH) : ZaL → Value
 | .r0 w4 => Value.tuple #[Value.agg #[vq, vq], vi w4]
 | .r1 => Value.tuple (κu L2)
noncomputable abbrev κba (L2 : List RJ) (a0 : Int) := (Zb RC ((L2 ++ (List.replicate 4 (⟨0, 0, 0, 0, 0⟩ : RJ))).set L2.length (⟨1, 3, 1, 1, a0⟩ : RJ)))
noncomputable abbrev κM (L3 : List RH) (L2 : List RJ) := (Zb RB ((((L3 ++ (List.replicate 4 (⟨0, 0⟩ : RH))).set (L2.length + 1) (⟨2, 0⟩ : RH)).set (L2.length + 2) (⟨1, 0⟩ : RH)).set (L2.length + 3) (⟨1, 0⟩ : RH)))
noncomputable def Zg4 (a0 a1 : Int) (L2 : List RJ) (L3 : List RH) : ZaL → List (Option AObj)
 | .r0 w4 => [some (.cells (κe a1 L2 L3) 154), some (.cells (Zb RC L2) 57), some (.cells (Zb RB L3) 42)]
 | .r1 => [some (.cells (ZG (vi a1) (vs 3 0 (L2.length + 4) (L2.length + 4)) (vs 4 0 (L3.length + 4) (L3.length + 4))) 154), none, none, some (.cells (κba L2 a0) 57), some (.cells (κM L3 L2) 42)]

noncomputable abbrev κbF := (Zb RC (List.replicate 4 (⟨0, 0, 0, 0, 0⟩ : RJ)))
theorem Zk5 (a0 a1 : Int) (L2 : List RJ) (L3 : List RH) (N : Nat) : Fx Tryz.prog Zu Tryz.f163 [.cells (κe a1 L2 L3) 154, .cells (Zb RC L2) 57, .cells (Zb RB L3) 42] #[vp 0 0, vi 3, vi 1, vi a0] (Zhe a0 a1 L2 L3) (Zg4 a0 a1 L2 L3) (Zbn a0 a1 L2 L3 N) := by
 unfold Zbn
 refine Zg (fun g0 => ?_) (fun g0 => ?_)
 ·
  refine Zg (fun g1 => ?_) (fun g1 => ?_)
  ·
   exact fxC (Zj (oq [3, 15]) [] [] [] []) [0, 1, 2] κbs (hY g1 <| kY (a1 > 0) Zk) (bS (κe a1 L2 L3) <| bR <| bR <| bE)
  ·
   refine Zg (fun g2 => ?_) (fun g2 => ?_)
   ·
    exact fxC (Zj (oq [3, 14, 17]) [] [] [] []) [0, 1, 2] κbs (kY (a0 ≥ 64) <| hN g1 <| kY (a1 > 0) Zk) (bS (κe a1 L2 L3) <| bR <| bR <| bE)
   ·
    refine Zg (fun g3 => ?_) (fun _ => Zo)
    have w4 := kW ((L2.length : Int) + 3) (((L2.length + 3) : Nat) : Int) <| kY (a1 > 0) <| kN (a0 ≥ 64) <| hN g1 <| kY (a1 > 0) Zk
    refine Zg (fun g4 => ?_) (fun _ => Zo)
    have w5 := kW ((((L2.length + 3) : Nat) : Int) + 1) (((L2.length + 4) : Nat) : Int) w4
    refine Zg (fun g5 => ?_) (fun g5 => ?_)
    ·
     exact fxC (Zj (oq [3, 14, 16, 23, 27]) [(1, (((L2.length + 3) : Nat) : Int)), (2, (((L2.length + 4) : Nat) : Int))] [] [] []) [0, 1, 2] (Value.tuple #[Value.agg #[vq, vq], vi 20]) (kY ((((L2.length + 4) : Nat) : Int) > a1) w5) (bS (κe a1 L2 L3) <| bR <| bR <| bE)
    ·
     refine Zg (fun g6 => ?_) (fun _ => Zo)
     refine Zg (fun g7 => ?_) (fun _ => Zo)
     refine Zg (fun g8 => ?_) (fun _ => Zo)
     refine Zg (fun g9 => ?_) (fun _ => Zo)
     refine Zg (fun g10 => ?_) (fun _ => Zo)
     refine Zcc (fun z11 c11 => ?_)
     cases z11 with
     | r0 =>
      exact fxC (Zj (oq [3, 14, 16, 23, 26]) [(1, (((L2.length + 3) : Nat) : Int)), (2, (((L2.length + 4) : Nat) : Int)), (3, (((L2.length + 1) : Nat) : Int)), (6, (L2.length : Int)), (9, (((L2.length + 1) : Nat) : Int)), (13, (((L2.length + 2) : Nat) : Int)), (17, (((L2.length + 3) : Nat) : Int))] [(1, L2.length), (2, (L2.length + 1)), (3, (L2.length + 2)), (4, (L2.length + 3))] [] [(2, .ap 4 κbF (Zb RC (L2 ++ (List.replicate 4 (⟨0, 0, 0, 0, 0⟩ : RJ))))), (4, .ap 4 (Zb RB (List.replicate 4 (⟨0, 0⟩ : RH))) (Zb RB (L3 ++ (List.replicate 4 (⟨0, 0⟩ : RH))))), (6, .st (κba L2 a0)), (9, .st (Zb RB ((L3 ++ (List.replicate 4 (⟨0, 0⟩ : RH))).set (L2.length + 1) (⟨2, 0⟩ : RH)))), (12, .st (Zb RB (((L3 ++ (List.replicate 4 (⟨0, 0⟩ : RH))).set (L2.length + 1) (⟨2, 0⟩ : RH)).set (L2.length + 2) (⟨1, 0⟩ : RH)))), (15, .st (κM L3 L2)), (16, (Zfh c11 [] 12).t)]) [0, 1, 2, 6, 7] (Value.tuple (κu L2)) (kK (Zgl c11 [] 12) <| kC (ZaO (E := RB) (L := (((L3 ++ (List.replicate 4 (⟨0, 0⟩ : RH))).set (L2.length + 1) (⟨2, 0⟩ : RH)).set (L2.length + 2) (⟨1, 0⟩ : RH))) (i := (L2.length + 3)) (q := 0) (l := [vi 1, vq]) (⟨1, 0⟩ : RH) ltA (show (0 + ((L2.length + 3) * 2)) = (L2.length + 3) * 2 + 0 from by omega) (show 0 + 2 ≤ 2 from by decide) rfl) <| kB (L2.length + 3) (L3.length + 4) <| kI (((L2.length + 3) : Nat) : Int) (Int.ofNat (L2.length + 3)) <| kW ((((L2.length + 1) : Nat) : Int) + 2) (((L2.length + 3) : Nat) : Int) <| kC (ZaO (E := RB) (L := ((L3 ++ (List.replicate 4 (⟨0, 0⟩ : RH))).set (L2.length + 1) (⟨2, 0⟩ : RH))) (i := (L2.length + 2)) (q := 0) (l := [vi 1, vq]) (⟨1, 0⟩ : RH) ltA (show (0 + ((L2.length + 2) * 2)) = (L2.length + 2) * 2 + 0 from by omega) (show 0 + 2 ≤ 2 from by decide) rfl) <| kB (L2.length + 2) (L3.length + 4) <| kI (((L2.length + 2) : Nat) : Int) (Int.ofNat (L2.length + 2)) <| kW ((((L2.length + 1) : Nat) : Int) + 1) (((L2.length + 2) : Nat) : Int) <| kC (ZaO (E := RB) (L := (L3 ++ (List.replicate 4 (⟨0, 0⟩ : RH)))) (i := (L2.length + 1)) (q := 0) (l := [vi 2, vq]) (⟨2, 0⟩ : RH) ltA (show (0 + ((L2.length + 1) * 2)) = (L2.length + 1) * 2 + 0 from by omega) (show 0 + 2 ≤ 2 from by decide) rfl) <| kB (L2.length + 1) (L3.length + 4) <| kI (((L2.length + 1) : Nat) : Int) (Int.ofNat (L2.length + 1)) <| kW ((((L2.length + 1) : Nat) : Int) + 0) (((L2.length + 1) : Nat) : Int) <| kC (ZaO (E := RC) (L := (L2 ++ (List.replicate 4 (⟨0, 0, 0, 0, 0⟩ : RJ)))) (i := L2.length) (q := 0) (l := [vi 1, vi 3, vi 1, vi 1, vi a0]) (⟨1, 3, 1, 1, a0⟩ : RJ) ltA (show (0 + (L2.length * 5)) = L2.length * 5 + 0 from by omega) (show 0 + 5 ≤ 5 from by decide) rfl) <| kB L2.length (L2.length + 4) <| kI (L2.length : Int) (Int.ofNat L2.length) <| kW ((((L2.length + 1) : Nat) : Int) - 1) (L2.length : Int) <| kX (dP (((4 : Int) = Int.ofNat 4 ∧ 0 < 4 ∧ 4 ≤ 100000 ∧ 0 < 2 ∧ (Zb RB (List.replicate 4 (⟨0, 0⟩ : RH))) = Ev.rep [vq, vq] (4 * 2)) ∧ 0 < 4 ∧ 4 ≤ 100000 ∧ L3.length < L3.length + 4 ∧ L3.length ≤ 100000 ∧ L3.length * 2 ≤ (List.length (Zb RB L3)) ∧ List.take (L3.length * 2) (Zb RB L3) ++ (Zb RB (List.replicate 4 (⟨0, 0⟩ : RH))) = (Zb RB (L3 ++ (List.replicate 4 (⟨0, 0⟩ : RH)))))) true (Z2 ⟨⟨by first | rfl | exact ZgX (by omega), ltA, ltA, by decide, (ZgH (E := RB) (⟨0, 0⟩ : RH) 4 (by decide) rfl rfl).symm⟩, ltA, ltA, ltA, by omega, (ZfI (E := RB) (L := L3) (M := (List.replicate 4 (⟨0, 0⟩ : RH))) (n := L3.length) (show _ = _ * 2 from rfl) (by omega) (R := (L3 ++ (List.replicate 4 (⟨0, 0⟩ : RH)))) (by rw [List.take_of_length_le (by omega)]))⟩) <| kX (dP (((4 : Int) = Int.ofNat 4 ∧ 0 < 4 ∧ 4 ≤ 100000 ∧ 0 < 5 ∧ κbF = Ev.rep [vq, vq, vq, vq, vq] (4 * 5)) ∧ 0 < 4 ∧ 4 ≤ 100000 ∧ L2.length < L2.length + 4 ∧ L2.length ≤ 100000 ∧ L2.length * 5 ≤ (List.length (Zb RC L2)) ∧ List.take (L2.length * 5) (Zb RC L2) ++ κbF = (Zb RC (L2 ++ (List.replicate 4 (⟨0, 0, 0, 0, 0⟩ : RJ)))))) true (Z2 ⟨⟨by first | rfl | exact ZgX (by omega), ltA, ltA, by decide, (ZgH (E := RC) (⟨0, 0, 0, 0, 0⟩ : RJ) 4 (by decide) rfl rfl).symm⟩, ltA, ltA, ltA, by omega, (ZfI (E := RC) (L := L2) (M := (List.replicate 4 (⟨0, 0, 0, 0, 0⟩ : RJ))) (n := L2.length) (show _ = _ * 5 from rfl) (by omega) (R := (L2 ++ (List.replicate 4 (⟨0, 0, 0, 0, 0⟩ : RJ)))) (by rw [List.take_of_length_le (by omega)]))⟩) <| kW ((L2.length : Int) + 1) (((L2.length + 1) : Nat) : Int) <| kN ((((L2.length + 4) : Nat) : Int) > a1) w5) (bS (ZG (vi a1) (vs 6 0 (L2.length + 4) (L2.length + 4)) (vs 7 0 (L3.length + 4) (L3.length + 4))) <| bN <| bN <| bR <| bR <| bE)
 ·
  exact fxC (Zj (oq [2]) [] [] [] []) [0, 1, 2] (Value.tuple #[Value.agg #[vq, vq], vi 4]) (kN (a1 > 0) Zk) (bS (κe a1 L2 L3) <| bR <| bR <| bE)

theorem Zjr (a0 a1 : Int) (L2 : List RJ) (L3 : List RH) (N : Nat) (r : ZaL) (h : Zbn a0 a1 L2 L3 N = some r) : LSpec Tryz.prog 163 #[vp 0 0, vi 3, vi 1, vi a0] [.cells (κe a1 L2 L3) 154, .cells (Zb RC L2) 57, .cells (Zb RB L3) 42] (Zhe a0 a1 L2 L3 r) (Zg4 a0 a1 L2 L3 r) :=
 Zbc Zz Tryz.func163 (by kernel_rfl) (by kernel_rfl) (fun r => by cases r <;> exact ZB _ rfl) (Zk5 a0 a1 L2 L3 N) h

noncomputable def Zg5 {a0 a1 : Int} {L2 : List RJ} {L3 : List RH} {N : Nat} (h : Zbn a0 a1 L2 L3 N = some (.r1)) (ks : List Nat) (n : Nat) : ToldS := ⟨#[vp (nth ks 0) 0, vi 3, vi 1, vi a0], (κr ks a1 L2 L3), Value.tuple (κu L2), [((nth ks 0), some (.cells (ZG (vi a1) (vs n 0 (L2.length + 4) (L2.length + 4)) (vs (n + 1) 0 (L3.length + 4) (L3.length + 4))) 154)), ((nth ks 1), none), ((nth ks 2), none), (n, some (.cells (κba L2 a0) 57)), ((n + 1), some (.cells (κM L3 L2) 42))], 2⟩

theorem ZkY {a0 a1 : Int} {L2 : List RJ} {L3 : List RH} {N : Nat} (h : Zbn a0 a1 L2 L3 N = some (.r1)) (ks : List Nat) (n : Nat) (hk : ks.length = 3 := by rfl) (hnd : ks.Nodup := by decide +kernel) (hlt : ∀ k ∈ ks, k < n := by decide +kernel) : (Zg5 (N := N)  h ks n).P Tryz.prog 163 n :=
 match ks, hk, hnd, hlt with
 | [k0, k1, k2], _, hnd, hlt => Za3 (show LSpec Tryz.prog 163 #[vp 0 0, vi 3, vi 1, vi a0] [.cells (κe a1 L2 L3) 154, .cells (Zb RC L2) 57, .cells (Zb RB L3) 42] (Value.tuple (κu L2)) [some (.cells (ZG (vi a1) (vs 3 0 (L2.length + 4) (L2.length + 4)) (vs 4 0 (L3.length + 4) (L3.length + 4))) 154), none, none, some (.cells (κba L2 a0) 57), some (.cells (κM L3 L2) 42)] from Zjr a0 a1 L2 L3 N _ h) _ n [0, 1, 2, 3, 4] hnd hlt

noncomputable def Zix (a0 a1 a2 : Int) (L3 : List RJ) (L4 : List RH) : Zbw → Value
 | .r0 w0 w2 => vi w2
noncomputable def Zhy (a0 a1 a2 : Int) (L3 : List RJ) (L4 : List RH) : Zbw → List (Option AObj)
 | .r0 w0 w2 => [some (.cells (ZG (vi a2) (vs 1 0 w0.length w0.length) (vs 2 0 L4.length L4.length)) 154), some (.cells (Zb RC w0) 57), some (.cells (Zb RB L4) 42)]

theorem ZlV (a0 a1 a2 : Int) (L3 : List RJ) (L4 : List RH) (N : Nat) : Fx Tryz.prog Zu Tryz.f187 [.cells (κp a2 L3 L4) 154, .cells (Zb RC L3) 57, .cells (Zb RB L4) 42] #[vp 0 0, Value.agg #[vi a0, vi a1]] (Zix a0 a1 a2 L3 L4) (Zhy a0 a1 a2 L3 L4) (ZbG a0 a1 a2 L3 L4 N) := by
 unfold ZbG
 refine Zg (fun g0 => ?_) (fun _ => Zo)
 refine Zg (fun g1 => ?_) (fun g1 => ?_)
 ·
  exact fxC (Zj (oq [3, 7]) [] [] [] []) [0, 1, 2] (vi 10) (hD g1 <| kY (a2 > 0) Zk) (bS (κp a2 L3 L4) <| bR <| bR <| bE)
 ·
  have w2 := kT a0 2 <| kE a0 2 <| kY (a2 > 0) Zk
  refine Zg (fun g2 => ?_) (fun g2 => ?_)
  ·
   refine Zg (fun g3 => ?_) (fun _ => Zo)
   refine Zg (fun g4 => ?_) (fun _ => Zo)
   have w5 := kM a1 1048576 <| kV a1 1048576 <| kY (a1 > 0) <| hD g2 w2
   refine Zg (fun g5 => ?_) (fun _ => Zo)
   refine Zg (fun g6 => ?_) (fun _ => Zo)
   refine Zg (fun g7 => ?_) (fun _ => Zo)
   have w8 := kM a1 1048576 <| kY ((a1 % 1048576) ≤ 1048575) <| kY ((a1 % 1048576) ≥ 1) <| hY g6 <| kY ((a1 / 1048576) ≥ 1) <| kM a1 1048576 <| kV a1 1048576 <| kY (a1 > 0) <| kE a0 2 <| kO ((a0 == 2) && ((a1 == 0) && true)) <| kY ((a1 % 1048576) ≤ 1048575) <| kY ((a1 % 1048576) ≥ 1) <| hY g6 <| kY ((a1 / 1048576) ≥ 1) w5
   refine Zg (fun _ => Zo) (fun g8 => ?_)
   have w9 := kV a1 1048576 <| kY ((a1 % 1048576) ≤ 1048575) <| kY ((a1 % 1048576) ≥ 1) <| hY g6 <| kY ((a1 / 1048576) ≥ 1) <| kM a1 1048576 <| kV a1 1048576 <| kY (a1 > 0) <| kE a0 2 <| kL RC L3 ((((a1 % 1048576) - 1)).toNat) 0 1 <| kB (((a1 % 1048576) - 1)).toNat L3.length <| kI ((a1 % 1048576) - 1) (Int.ofNat (((a1 % 1048576) - 1)).toNat) <| kW ((a1 % 1048576) - 1) ((a1 % 1048576) - 1) <| kN ((a1 % 1048576) > (L3.length : Int)) w8
   refine Zg (fun _ => Zo) (fun g9 => ?_)
   have w10 := kL RC L3 ((((a1 % 1048576) - 1)).toNat) 3 1 <| kE ((L3.getD (((a1 % 1048576) - 1)).toNat RJ.z).a0) (a1 / 1048576) w9
   refine Zg (fun _ => Zo) (fun g10 => ?_)
   have w11 := kL RC L3 ((((a1 % 1048576) - 1)).toNat) 3 1 <| kB (((a1 % 1048576) - 1)).toNat L3.length <| kI ((a1 % 1048576) - 1) (Int.ofNat (((a1 % 1048576) - 1)).toNat) <| kW ((a1 % 1048576) - 1) ((a1 % 1048576) - 1) <| hF g10 w10
   refine Zg (fun g11 => ?_) (fun g11 => ?_)
   ·
    exact fxC (Zj (oq [3, 6, 9, 11, 13, 15, 17, 19, 21, 26, 28, 31, 33, 35, 37, 39, 42, 44, 47, 49, 51, 53, 55, 58, 60, 65]) [(0, (a1 / 1048576)), (1, (a1 % 1048576)), (2, (a1 / 1048576)), (3, (a1 % 1048576)), (4, (a1 % 1048576)), (5, ((a1 % 1048576) - 1)), (6, (a1 / 1048576)), (7, (a1 % 1048576)), (8, (a1 / 1048576)), (9, ((a1 % 1048576) - 1))] [(0, (((a1 % 1048576) - 1)).toNat), (1, (((a1 % 1048576) - 1)).toNat)] [(15, [.i (L3.getD (((a1 % 1048576) - 1)).toNat RJ.z).a0]), (20, [.i (L3.getD (((a1 % 1048576) - 1)).toNat RJ.z).a3]), (22, [.i (L3.getD (((a1 % 1048576) - 1)).toNat RJ.z).a3])] [(5, .st (Zb RC (L3.set (((a1 % 1048576) - 1)).toNat (⟨(L3.getD (((a1 % 1048576) - 1)).toNat RJ.z).a0, (L3.getD (((a1 % 1048576) - 1)).toNat RJ.z).a1, (L3.getD (((a1 % 1048576) - 1)).toNat RJ.z).a2, 2, (L3.getD (((a1 % 1048576) - 1)).toNat RJ.z).a4⟩ : RJ))))]) [0, 1, 2] (vq) (kC (ZaO (E := RC) (L := L3) (i := (((a1 % 1048576) - 1)).toNat) (q := 3) (l := [vi 2]) (⟨(L3.getD (((a1 % 1048576) - 1)).toNat RJ.z).a0, (L3.getD (((a1 % 1048576) - 1)).toNat RJ.z).a1, (L3.getD (((a1 % 1048576) - 1)).toNat RJ.z).a2, 2, (L3.getD (((a1 % 1048576) - 1)).toNat RJ.z).a4⟩ : RJ) (by omega) (show ((0 + ((((a1 % 1048576) - 1)).toNat * 5)) + 3) = (((a1 % 1048576) - 1)).toNat * 5 + 3 from by omega) (show 3 + 1 ≤ 5 from by decide) rfl) <| hT g11 w11) (bU (κp a2 L3 L4) 1 (show (vs 1 0 L3.length L3.length : Value) = vs 1 0 (L3.set (((a1 % 1048576) - 1)).toNat (⟨(L3.getD (((a1 % 1048576) - 1)).toNat RJ.z).a0, (L3.getD (((a1 % 1048576) - 1)).toNat RJ.z).a1, (L3.getD (((a1 % 1048576) - 1)).toNat RJ.z).a2, 2, (L3.getD (((a1 % 1048576) - 1)).toNat RJ.z).a4⟩ : RJ)).length (L3.set (((a1 % 1048576) - 1)).toNat (⟨(L3.getD (((a1 % 1048576) - 1)).toNat RJ.z).a0, (L3.getD (((a1 % 1048576) - 1)).toNat RJ.z).a1, (L3.getD (((a1 % 1048576) - 1)).toNat RJ.z).a2, 2, (L3.getD (((a1 % 1048576) - 1)).toNat RJ.z).a4⟩ : RJ)).length from Z5 rfl eqA eqA) <| bR <| bR <| bE)
   ·
    exact fxC (Zj (oq [3, 6, 9, 11, 13, 15, 17, 19, 21, 26, 28, 31, 33, 35, 37, 39, 42, 44, 47, 49, 51, 53, 55, 58, 60, 64]) [(0, (a1 / 1048576)), (1, (a1 % 1048576)), (2, (a1 / 1048576)), (3, (a1 % 1048576)), (4, (a1 % 1048576)), (5, ((a1 % 1048576) - 1)), (6, (a1 / 1048576)), (7, (a1 % 1048576)), (8, (a1 / 1048576)), (9, ((a1 % 1048576) - 1))] [(0, (((a1 % 1048576) - 1)).toNat), (1, (((a1 % 1048576) - 1)).toNat)] [(15, [.i (L3.getD (((a1 % 1048576) - 1)).toNat RJ.z).a0]), (20, [.i (L3.getD (((a1 % 1048576) - 1)).toNat RJ.z).a3]), (22, [.i (L3.getD (((a1 % 1048576) - 1)).toNat RJ.z).a3])] []) [0, 1, 2] (vq) (hF g11 w11) (bS (κp a2 L3 L4) <| bR <| bR <| bE)
  ·
   exact fxC (Zj (oq [3, 6, 9, 10, 15]) [] [] [] []) [0, 1, 2] (vi 11) (kZ ((a0 == 2) && ((a1 == 0) && true)) <| kE a1 0 w2) (bS (κp a2 L3 L4) <| bR <| bR <| bE)

theorem Zk6 (a0 a1 a2 : Int) (L3 : List RJ) (L4 : List RH) (N : Nat) (r : Zbw) (h : ZbG a0 a1 a2 L3 L4 N = some r) : LSpec Tryz.prog 187 #[vp 0 0, Value.agg #[vi a0, vi a1]] [.cells (κp a2 L3 L4) 154, .cells (Zb RC L3) 57, .cells (Zb RB L4) 42] (Zix a0 a1 a2 L3 L4 r) (Zhy a0 a1 a2 L3 L4 r) :=
 Zbc Zz Tryz.func187 (by kernel_rfl) (by kernel_rfl) (fun r => by cases r <;> exact ZB _ rfl) (ZlV a0 a1 a2 L3 L4 N) h

noncomputable def Zfs {a0 a1 a2 : Int} {L3 : List RJ} {L4 : List RH} {w0 : List RJ} {w2 : Int} {N : Nat} (h : ZbG a0 a1 a2 L3 L4 N = some (.r0 w0 w2)) (ks : List Nat) (n : Nat) : ToldS := ⟨#[vp (nth ks 0) 0, Value.agg #[vi a0, vi a1]], (κbv ks a2 L3 L4), vi w2, [((nth ks 0), some (.cells (ZG (vi a2) (vs (nth ks 1) 0 w0.length w0.length) (vs (nth ks 2) 0 L4.length L4.length)) 154)), ((nth ks 1), some (.cells (Zb RC w0) 57))], 0⟩

theorem Zmv {a0 a1 a2 : Int} {L3 : List RJ} {L4 : List RH} {w0 : List RJ} {w2 : Int} {N : Nat} (h : ZbG a0 a1 a2 L3 L4 N = some (.r0 w0 w2)) (ks : List Nat) (n : Nat) (hk : ks.length = 3 := by rfl) (hnd : ks.Nodup := by decide +kernel) (hlt : ∀ k ∈ ks, k < n := by decide +kernel) : (Zfs (N := N)  h ks n).P Tryz.prog 187 n :=
 match ks, hk, hnd, hlt with
 | [k0, k1, k2], _, hnd, hlt => Za3 (show LSpec Tryz.prog 187 #[vp 0 0, Value.agg #[vi a0, vi a1]] [.cells (κp a2 L3 L4) 154, .cells (Zb RC L3) 57, .cells (Zb RB L4) 42] (vi w2) [some (.cells (ZG (vi a2) (vs 1 0 w0.length w0.length) (vs 2 0 L4.length L4.length)) 154), some (.cells (Zb RC w0) 57), some (.cells (Zb RB L4) 42)] from Zk6 a0 a1 a2 L3 L4 N _ h) _ n [0, 1] hnd hlt

noncomputable def ZjV (a0 : Int) (L1 L2 : List Int) : Zas → Value
 | .r0 w2 w3 w4 => Value.agg #[vi w2, vi w3, vi w4]
noncomputable abbrev κA (L1 L2 : List Int) := [vs 1 0 L1.length L1.length, vs 2 0 L2.length L2.length]
noncomputable def ZiU (a0 : Int) (L1 L2 : List Int) : Zas → List (Option AObj)
 | .r0 w2 w3 w4 => [some (.cells (κA L1 L2) 191), some (.cells (Zb eI L1) 188), some (.cells (Zb eI L2) 188)]

noncomputable abbrev κbx (L2 : List Int) (a0 : Int) := (Value.agg #[vq, vq, vi (L2.getD (a0).toNat 0)])
noncomputable abbrev κbr (L1 : List Int) (a0 : Int) (L2 : List Int) := (Value.agg #[vi ((L1.getD (a0).toNat 0) % 4), vi ((L1.getD (a0).toNat 0) / 4), vi (L2.getD (a0).toNat 0)])
noncomputable abbrev κC (a0 : Int) (L2 : List Int) := (dP (ZO 1 (List.drop ((0 + ((a0).toNat * 1)) + 0) (Zb eI L2)) = some [vi (L2.getD (a0).toNat 0)]))
theorem Znh (a0 : Int) (L1 L2 : List Int) (N : Nat) : Fx Tryz.prog Zu Tryz.f32 [.cells (κA L1 L2) 191, .cells (Zb eI L1) 188, .cells (Zb eI L2) 188] #[vp 0 0, vi a0] (ZjV a0 L1 L2) (ZiU a0 L1 L2) (ZaU a0 L1 L2 N) := by
 unfold ZaU
 refine Zg (fun g0 => ?_) (fun g0 => ?_)
 ·
  have w1 := kY ((L1.length : Int) > 0) Zk
  refine Zg (fun g1 => ?_) (fun g1 => ?_)
  ·
   have w2 := kY (a0 ≥ 0) w1
   refine Zg (fun g2 => ?_) (fun g2 => ?_)
   ·
    have w3 := kX (dP (ZO 1 (List.drop ((0 + ((a0).toNat * 1)) + 0) (Zb eI L1)) = some [vi (L1.getD (a0).toNat 0)])) true (Z2 (ZbC (E := eI) (L := L1) (i := (a0).toNat) (q := 0) (by omega) (show ((0 + ((a0).toNat * 1)) + 0) = (a0).toNat * 1 + 0 from by omega) (show 0 + 1 ≤ 1 from by decide) rfl)) <| kB (a0).toNat L1.length <| kI a0 (Int.ofNat (a0).toNat) <| hY g2 w2
    refine Zg (fun g3 => ?_) (fun g3 => ?_)
    ·
     refine Zg (fun g4 => ?_) (fun _ => Zo)
     exact fxC (Zj (oq [3, 5, 7, 11]) [] [(0, (a0).toNat), (1, (a0).toNat)] [] [(0, .at (L1.getD (a0).toNat 0) []), (3, .at (L2.getD (a0).toNat 0) [])]) [0, 1, 2] (κbx L2 a0) (kX (κC a0 L2) true (Z2 (ZbC (E := eI) (L := L2) (i := (a0).toNat) (q := 0) (by omega) (show ((0 + ((a0).toNat * 1)) + 0) = (a0).toNat * 1 + 0 from by omega) (show 0 + 1 ≤ 1 from by decide) rfl)) <| kB (a0).toNat L2.length <| kI a0 (Int.ofNat (a0).toNat) <| hY g3 w3) (bS (κA L1 L2) <| bR <| bR <| bE)
    ·
     have w4 := kM (L1.getD (a0).toNat 0) 4 <| hN g3 w3
     refine Zg (fun g4 => ?_) (fun _ => Zo)
     have w5 := kV (L1.getD (a0).toNat 0) 4 w4
     refine Zg (fun g5 => ?_) (fun g5 => ?_)
     ·
      refine Zg (fun g6 => ?_) (fun g6 => ?_)
      ·
       refine Zg (fun g7 => ?_) (fun _ => Zo)
       exact fxC (Zj (oq [3, 5, 7, 10, 13, 15, 17]) [(0, ((L1.getD (a0).toNat 0) % 4)), (1, ((L1.getD (a0).toNat 0) / 4))] [(0, (a0).toNat), (1, (a0).toNat)] [] [(0, .at (L1.getD (a0).toNat 0) []), (5, .at (L2.getD (a0).toNat 0) [])]) [0, 1, 2] (κbr L1 a0 L2) (kX (κC a0 L2) true (Z2 (ZbC (E := eI) (L := L2) (i := (a0).toNat) (q := 0) (by omega) (show ((0 + ((a0).toNat * 1)) + 0) = (a0).toNat * 1 + 0 from by omega) (show 0 + 1 ≤ 1 from by decide) rfl)) <| kB (a0).toNat L2.length <| kI a0 (Int.ofNat (a0).toNat) <| hY g6 <| kY (((L1.getD (a0).toNat 0) / 4) ≥ 0) <| hT g5 w5) (bS (κA L1 L2) <| bR <| bR <| bE)
      ·
       refine Zg (fun g7 => ?_) (fun _ => Zo)
       exact fxC (Zj (oq [3, 5, 7, 10, 13, 15, 16]) [(0, ((L1.getD (a0).toNat 0) % 4)), (1, ((L1.getD (a0).toNat 0) / 4))] [(0, (a0).toNat), (1, (a0).toNat)] [] [(0, .at (L1.getD (a0).toNat 0) []), (5, .at (L2.getD (a0).toNat 0) [])]) [0, 1, 2] (κbx L2 a0) (kX (κC a0 L2) true (Z2 (ZbC (E := eI) (L := L2) (i := (a0).toNat) (q := 0) (by omega) (show ((0 + ((a0).toNat * 1)) + 0) = (a0).toNat * 1 + 0 from by omega) (show 0 + 1 ≤ 1 from by decide) rfl)) <| kB (a0).toNat L2.length <| kI a0 (Int.ofNat (a0).toNat) <| hN g6 <| kY (((L1.getD (a0).toNat 0) / 4) ≥ 0) <| hT g5 w5) (bS (κA L1 L2) <| bR <| bR <| bE)
     ·
      refine Zg (fun g6 => ?_) (fun g6 => ?_)
      ·
       refine Zg (fun g7 => ?_) (fun g7 => ?_)
       ·
        refine Zg (fun g8 => ?_) (fun _ => Zo)
        exact fxC (Zj (oq [3, 5, 7, 10, 12, 15, 17, 19]) [(0, ((L1.getD (a0).toNat 0) % 4)), (1, ((L1.getD (a0).toNat 0) / 4))] [(0, (a0).toNat), (1, (a0).toNat)] [] [(0, .at (L1.getD (a0).toNat 0) []), (5, .at (L2.getD (a0).toNat 0) [])]) [0, 1, 2] (κbr L1 a0 L2) (kX (κC a0 L2) true (Z2 (ZbC (E := eI) (L := L2) (i := (a0).toNat) (q := 0) (by omega) (show ((0 + ((a0).toNat * 1)) + 0) = (a0).toNat * 1 + 0 from by omega) (show 0 + 1 ≤ 1 from by decide) rfl)) <| kB (a0).toNat L2.length <| kI a0 (Int.ofNat (a0).toNat) <| hY g7 <| kY (((L1.getD (a0).toNat 0) / 4) ≥ 0) <| hT g6 <| hF g5 w5) (bS (κA L1 L2) <| bR <| bR <| bE)
       ·
        refine Zg (fun g8 => ?_) (fun _ => Zo)
        exact fxC (Zj (oq [3, 5, 7, 10, 12, 15, 17, 18]) [(0, ((L1.getD (a0).toNat 0) % 4)), (1, ((L1.getD (a0).toNat 0) / 4))] [(0, (a0).toNat), (1, (a0).toNat)] [] [(0, .at (L1.getD (a0).toNat 0) []), (5, .at (L2.getD (a0).toNat 0) [])]) [0, 1, 2] (κbx L2 a0) (kX (κC a0 L2) true (Z2 (ZbC (E := eI) (L := L2) (i := (a0).toNat) (q := 0) (by omega) (show ((0 + ((a0).toNat * 1)) + 0) = (a0).toNat * 1 + 0 from by omega) (show 0 + 1 ≤ 1 from by decide) rfl)) <| kB (a0).toNat L2.length <| kI a0 (Int.ofNat (a0).toNat) <| hN g7 <| kY (((L1.getD (a0).toNat 0) / 4) ≥ 0) <| hT g6 <| hF g5 w5) (bS (κA L1 L2) <| bR <| bR <| bE)
      ·
       refine Zg (fun g7 => ?_) (fun g7 => ?_)
       ·
        have w8 := kY (((L1.getD (a0).toNat 0) / 4) ≥ 0) <| hT g7 <| hF g6 <| hF g5 w5
        refine Zg (fun g8 => ?_) (fun g8 => ?_)
        ·
         refine Zg (fun g9 => ?_) (fun _ => Zo)
         exact fxC (Zj (oq [3, 5, 7, 10, 12, 14, 17, 19, 21]) [(0, ((L1.getD (a0).toNat 0) % 4)), (1, ((L1.getD (a0).toNat 0) / 4))] [(0, (a0).toNat), (1, (a0).toNat)] [] [(0, .at (L1.getD (a0).toNat 0) []), (5, .at (L2.getD (a0).toNat 0) [])]) [0, 1, 2] (κbr L1 a0 L2) (kX (κC a0 L2) true (Z2 (ZbC (E := eI) (L := L2) (i := (a0).toNat) (q := 0) (by omega) (show ((0 + ((a0).toNat * 1)) + 0) = (a0).toNat * 1 + 0 from by omega) (show 0 + 1 ≤ 1 from by decide) rfl)) <| kB (a0).toNat L2.length <| kI a0 (Int.ofNat (a0).toNat) <| hY g8 w8) (bS (κA L1 L2) <| bR <| bR <| bE)
        ·
         refine Zg (fun g9 => ?_) (fun _ => Zo)
         exact fxC (Zj (oq [3, 5, 7, 10, 12, 14, 17, 19, 20]) [(0, ((L1.getD (a0).toNat 0) % 4)), (1, ((L1.getD (a0).toNat 0) / 4))] [(0, (a0).toNat), (1, (a0).toNat)] [] [(0, .at (L1.getD (a0).toNat 0) []), (5, .at (L2.getD (a0).toNat 0) [])]) [0, 1, 2] (κbx L2 a0) (kX (κC a0 L2) true (Z2 (ZbC (E := eI) (L := L2) (i := (a0).toNat) (q := 0) (by omega) (show ((0 + ((a0).toNat * 1)) + 0) = (a0).toNat * 1 + 0 from by omega) (show 0 + 1 ≤ 1 from by decide) rfl)) <| kB (a0).toNat L2.length <| kI a0 (Int.ofNat (a0).toNat) <| hN g8 w8) (bS (κA L1 L2) <| bR <| bR <| bE)
       ·
        refine Zg (fun g8 => ?_) (fun _ => Zo)
        exact fxC (Zj (oq [3, 5, 7, 10, 12, 14, 16]) [(0, ((L1.getD (a0).toNat 0) % 4)), (1, ((L1.getD (a0).toNat 0) / 4))] [(0, (a0).toNat), (1, (a0).toNat)] [] [(0, .at (L1.getD (a0).toNat 0) []), (5, .at (L2.getD (a0).toNat 0) [])]) [0, 1, 2] (κbx L2 a0) (kX (κC a0 L2) true (Z2 (ZbC (E := eI) (L := L2) (i := (a0).toNat) (q := 0) (by omega) (show ((0 + ((a0).toNat * 1)) + 0) = (a0).toNat * 1 + 0 from by omega) (show 0 + 1 ≤ 1 from by decide) rfl)) <| kB (a0).toNat L2.length <| kI a0 (Int.ofNat (a0).toNat) <| hF g7 <| hF g6 <| hF g5 w5) (bS (κA L1 L2) <| bR <| bR <| bE)
   ·
    exact fxC (Zj (oq [3, 5, 6]) [] [] [] []) [0, 1, 2] (Value.agg #[vq, vq, vq]) (hN g2 w2) (bS (κA L1 L2) <| bR <| bR <| bE)
  ·
   exact fxC (Zj (oq [3, 4]) [] [] [] []) [0, 1, 2] (Value.agg #[vq, vq, vq]) (kN (a0 ≥ 0) w1) (bS (κA L1 L2) <| bR <| bR <| bE)
 ·
  exact fxC (Zj (oq [2]) [] [] [] []) [0, 1, 2] (Value.agg #[vq, vq, vq]) (kN ((L1.length : Int) > 0) Zk) (bS (κA L1 L2) <| bR <| bR <| bE)

theorem ZlW (a0 : Int) (L1 L2 : List Int) (N : Nat) (r : Zas) (h : ZaU a0 L1 L2 N = some r) : LSpec Tryz.prog 32 #[vp 0 0, vi a0] [.cells (κA L1 L2) 191, .cells (Zb eI L1) 188, .cells (Zb eI L2) 188] (ZjV a0 L1 L2 r) (ZiU a0 L1 L2 r) :=
 Zbc Zz Tryz.func32 (by kernel_rfl) (by kernel_rfl) (fun r => by cases r <;> exact ZB _ rfl) (Znh a0 L1 L2 N) h

noncomputable def Zcr {a0 : Int} {L1 L2 : List Int} {w2 w3 w4 : Int} {N : Nat} (h : ZaU a0 L1 L2 N = some (.r0 w2 w3 w4)) (ks : List Nat) (n : Nat) : ToldS := ⟨#[vp (nth ks 0) 0, vi a0], [((nth ks 0), .cells [vs (nth ks 1) 0 L1.length L1.length, vs (nth ks 2) 0 L2.length L2.length] 191), ((nth ks 1), .cells (Zb eI L1) 188), ((nth ks 2), .cells (Zb eI L2) 188)], Value.agg #[vi w2, vi w3, vi w4], [], 0⟩

theorem ZeB {a0 : Int} {L1 L2 : List Int} {w2 w3 w4 : Int} {N : Nat} (h : ZaU a0 L1 L2 N = some (.r0 w2 w3 w4)) (ks : List Nat) (n : Nat) (hk : ks.length = 3 := by rfl) (hnd : ks.Nodup := by decide +kernel) (hlt : ∀ k ∈ ks, k < n := by decide +kernel) : (Zcr (N := N)  h ks n).P Tryz.prog 32 n :=
 match ks, hk, hnd, hlt with
 | [k0, k1, k2], _, hnd, hlt => Za3 (show LSpec Tryz.prog 32 #[vp 0 0, vi a0] [.cells (κA L1 L2) 191, .cells (Zb eI L1) 188, .cells (Zb eI L2) 188] (Value.agg #[vi w2, vi w3, vi w4]) [some (.cells (κA L1 L2) 191), some (.cells (Zb eI L1) 188), some (.cells (Zb eI L2) 188)] from ZlW a0 L1 L2 N _ h) _ n [] hnd hlt

end Ev
end Go.Proofs.YtiijipocjellpaaGreat
namespace Go.Proofs.YtiijipocjellpaaGreat
open Go.IntKind (i64)
open Go.RowKit
namespace Ev
set_option linter.unusedVariables false
set_option maxRecDepth 100000
set_option maxHeartbeats 4000000
noncomputable def Ziy (a0 a1 a2 a3 a4 : Int) (L5 L6 : List Int) : Z7 → Value
 | .r0 w0 w1 w2 => Value.bool w2
noncomputable def Zhz (a0 a1 a2 a3 a4 : Int) (L5 L6 : List Int) : Z7 → List (Option AObj)
 | .r0 w0 w1 w2 => [some (.cells [vs 1 0 w0.length w0.length, vs 2 0 w1.length w1.length] 191), some (.cells (Zb eI w0) 188), some (.cells (Zb eI w1) 188)]

noncomputable abbrev κbo (L6 : List Int) (a0 : Int) := (Zb eI (L6.set (a0).toNat (i64.wrap ((L6.getD (a0).toNat 0) + 1))))
noncomputable abbrev κ5 (a0 : Int) (L6 : List Int) := (dP (ZO 1 (List.drop ((0 + ((a0).toNat * 1)) + 0) (Zb eI L6)) = some [vi (L6.getD (a0).toNat 0)] ∧ ((0 + ((a0).toNat * 1)) + 0) + 1 ≤ ((Zb eI L6) : List Value).length ∧ ZeC (Zb eI L6) ((0 + ((a0).toNat * 1)) + 0) [vi (i64.wrap ((L6.getD (a0).toNat 0) + 1))] = (κbo L6 a0)))
noncomputable abbrev κk (L5 L6 : List Int) := [vs 1 0 L5.length L5.length, vs 2 0 L6.length L6.length]
theorem ZlX (a0 a1 a2 a3 a4 : Int) (L5 L6 : List Int) (N : Nat) : Fx Tryz.prog Zu Tryz.f73 [.cells (κk L5 L6) 191, .cells (Zb eI L5) 188, .cells (Zb eI L6) 188] #[vp 0 0, vi a0, vi a1, Value.agg #[vi a2, vi a3, vi a4]] (Ziy a0 a1 a2 a3 a4 L5 L6) (Zhz a0 a1 a2 a3 a4 L5 L6) (ZbH a0 a1 a2 a3 a4 L5 L6 N) := by
 unfold ZbH
 refine Zg (fun g0 => ?_) (fun g0 => ?_)
 ·
  have w1 := kY (a1 ≥ 0) Zk
  refine Zg (fun g1 => ?_) (fun g1 => ?_)
  ·
   have w2 := kW (((4 : Int) * a1) + 0) ((4 : Int) * a1) <| kW ((4 : Int) * a1) ((4 : Int) * a1) <| hY g1 w1
   refine Zg (fun g2 => ?_) (fun g2 => ?_)
   ·
    have w3 := kY ((L5.length : Int) > 0) w2
    refine Zg (fun g3 => ?_) (fun g3 => ?_)
    ·
     have w4 := kY (a0 ≥ 0) w3
     refine Zg (fun g4 => ?_) (fun g4 => ?_)
     ·
      refine Zg (fun g5 => ?_) (fun g5 => ?_)
      ·
       exact fxC (Zj (oq [3, 5, 13, 15, 17, 23]) [(0, ((4 : Int) * a1)), (1, ((4 : Int) * a1))] [] [] []) [0, 1, 2] (vf) (hT g5 <| hY g4 w4) (bS (κk L5 L6) <| bR <| bR <| bE)
      ·
       have w6 := hF g5 <| hF g5 <| hY g4 w4
       refine Zg (fun g6 => ?_) (fun g6 => ?_)
       ·
        refine Zg (fun g7 => ?_) (fun g7 => ?_)
        ·
         refine Zg (fun g8 => ?_) (fun g8 => ?_)
         ·
          refine Zg (fun g9 => ?_) (fun g9 => ?_)
          ·
           have w10 := kX (dP (ZO 1 (List.drop ((0 + ((a0).toNat * 1)) + 0) (Zb eI L5)) = some [vi (L5.getD (a0).toNat 0)])) true (Z2 (ZbC (E := eI) (L := L5) (i := (a0).toNat) (q := 0) (by omega) (show ((0 + ((a0).toNat * 1)) + 0) = (a0).toNat * 1 + 0 from by omega) (show 0 + 1 ≤ 1 from by decide) rfl)) <| kW (((4 : Int) * a3) + a2) (((4 : Int) * a3) + a2) <| kW ((4 : Int) * a3) ((4 : Int) * a3) <| kB (a0).toNat L5.length <| kI a0 (Int.ofNat (a0).toNat) <| kY (a4 ≥ 0) <| hY g8 <| kY (a3 ≥ 0) <| hT g6 w6
           refine Zg (fun g10 => ?_) (fun g10 => ?_)
           ·
            refine Zg (fun g11 => ?_) (fun _ => Zo)
            exact fxC (Zj (oq [3, 5, 13, 15, 17, 22, 24, 27, 29, 31, 33, 37]) [(0, ((4 : Int) * a1)), (1, ((4 : Int) * a1)), (2, ((4 : Int) * a3)), (3, (((4 : Int) * a3) + a2))] [(0, (a0).toNat), (1, (a0).toNat)] [] [(0, .at (L5.getD (a0).toNat 0) (Zb eI (L5.set (a0).toNat (((4 : Int) * a3) + a2)))), (1, .at (L6.getD (a0).toNat 0) (κbo L6 a0))]) [0, 1, 2] (vT) (kX (κ5 a0 L6) true (Z2 ⟨(ZbC (E := eI) (L := L6) (i := (a0).toNat) (q := 0) (by omega) (show ((0 + ((a0).toNat * 1)) + 0) = (a0).toNat * 1 + 0 from by omega) (show 0 + 1 ≤ 1 from by decide) rfl), (ZaO (E := eI) (L := L6) (i := (a0).toNat) (q := 0) (l := [vi (i64.wrap ((L6.getD (a0).toNat 0) + 1))]) (i64.wrap ((L6.getD (a0).toNat 0) + 1)) (by omega) (show ((0 + ((a0).toNat * 1)) + 0) = (a0).toNat * 1 + 0 from by omega) (show 0 + 1 ≤ 1 from by decide) rfl)⟩) <| kB (a0).toNat L6.length <| kI a0 (Int.ofNat (a0).toNat) <| kC (ZaO (E := eI) (L := L5) (i := (a0).toNat) (q := 0) (l := [vi (((4 : Int) * a3) + a2)]) (((4 : Int) * a3) + a2) (by omega) (show ((0 + ((a0).toNat * 1)) + 0) = (a0).toNat * 1 + 0 from by omega) (show 0 + 1 ≤ 1 from by decide) rfl) <| hT g10 w10) (bU2 (κk L5 L6) 0 (show (vs 1 0 L5.length L5.length : Value) = vs 1 0 (L5.set (a0).toNat (((4 : Int) * a3) + a2)).length (L5.set (a0).toNat (((4 : Int) * a3) + a2)).length from Z5 rfl eqA eqA) 1 (show (vs 2 0 L6.length L6.length : Value) = vs 2 0 (L6.set (a0).toNat (i64.wrap ((L6.getD (a0).toNat 0) + 1))).length (L6.set (a0).toNat (i64.wrap ((L6.getD (a0).toNat 0) + 1))).length from Z5 rfl eqA eqA) <| bR <| bR <| bE)
           ·
            exact fxC (Zj (oq [3, 5, 13, 15, 17, 22, 24, 27, 29, 31, 33, 36]) [(0, ((4 : Int) * a1)), (1, ((4 : Int) * a1)), (2, ((4 : Int) * a3)), (3, (((4 : Int) * a3) + a2))] [(0, (a0).toNat)] [] [(0, .at (L5.getD (a0).toNat 0) (Zb eI (L5.set (a0).toNat (((4 : Int) * a3) + a2))))]) [0, 1, 2] (vf) (hF g10 w10) (bS (κk L5 L6) <| bR <| bR <| bE)
          ·
           exact fxC (Zj (oq [3, 5, 13, 15, 17, 22, 24, 27, 29, 31, 32]) [(0, ((4 : Int) * a1)), (1, ((4 : Int) * a1))] [] [] []) [0, 1, 2] (vf) (kN (a4 ≥ 0) <| hY g8 <| kY (a3 ≥ 0) <| hT g6 w6) (bS (κk L5 L6) <| bR <| bR <| bE)
         ·
          exact fxC (Zj (oq [3, 5, 13, 15, 17, 22, 24, 27, 29, 30]) [(0, ((4 : Int) * a1)), (1, ((4 : Int) * a1))] [] [] []) [0, 1, 2] (vf) (hN g8 <| kY (a3 ≥ 0) <| hT g6 w6) (bS (κk L5 L6) <| bR <| bR <| bE)
        ·
         exact fxC (Zj (oq [3, 5, 13, 15, 17, 22, 24, 27, 28]) [(0, ((4 : Int) * a1)), (1, ((4 : Int) * a1))] [] [] []) [0, 1, 2] (vf) (kN (a3 ≥ 0) <| hT g6 w6) (bS (κk L5 L6) <| bR <| bR <| bE)
       ·
        refine Zg (fun g7 => ?_) (fun g7 => ?_)
        ·
         refine Zg (fun g8 => ?_) (fun g8 => ?_)
         ·
          have w9 := kY (a3 ≥ 0) <| hT g7 <| hF g6 w6
          refine Zg (fun g9 => ?_) (fun g9 => ?_)
          ·
           refine Zg (fun g10 => ?_) (fun g10 => ?_)
           ·
            have w11 := kX (dP (ZO 1 (List.drop ((0 + ((a0).toNat * 1)) + 0) (Zb eI L5)) = some [vi (L5.getD (a0).toNat 0)])) true (Z2 (ZbC (E := eI) (L := L5) (i := (a0).toNat) (q := 0) (by omega) (show ((0 + ((a0).toNat * 1)) + 0) = (a0).toNat * 1 + 0 from by omega) (show 0 + 1 ≤ 1 from by decide) rfl)) <| kW (((4 : Int) * a3) + a2) (((4 : Int) * a3) + a2) <| kW ((4 : Int) * a3) ((4 : Int) * a3) <| kB (a0).toNat L5.length <| kI a0 (Int.ofNat (a0).toNat) <| kY (a4 ≥ 0) <| hY g9 w9
            refine Zg (fun g11 => ?_) (fun g11 => ?_)
            ·
             refine Zg (fun g12 => ?_) (fun _ => Zo)
             exact fxC (Zj (oq [3, 5, 13, 15, 17, 22, 24, 26, 29, 31, 33, 35, 39]) [(0, ((4 : Int) * a1)), (1, ((4 : Int) * a1)), (2, ((4 : Int) * a3)), (3, (((4 : Int) * a3) + a2))] [(0, (a0).toNat), (1, (a0).toNat)] [] [(0, .at (L5.getD (a0).toNat 0) (Zb eI (L5.set (a0).toNat (((4 : Int) * a3) + a2)))), (1, .at (L6.getD (a0).toNat 0) (κbo L6 a0))]) [0, 1, 2] (vT) (kX (κ5 a0 L6) true (Z2 ⟨(ZbC (E := eI) (L := L6) (i := (a0).toNat) (q := 0) (by omega) (show ((0 + ((a0).toNat * 1)) + 0) = (a0).toNat * 1 + 0 from by omega) (show 0 + 1 ≤ 1 from by decide) rfl), (ZaO (E := eI) (L := L6) (i := (a0).toNat) (q := 0) (l := [vi (i64.wrap ((L6.getD (a0).toNat 0) + 1))]) (i64.wrap ((L6.getD (a0).toNat 0) + 1)) (by omega) (show ((0 + ((a0).toNat * 1)) + 0) = (a0).toNat * 1 + 0 from by omega) (show 0 + 1 ≤ 1 from by decide) rfl)⟩) <| kB (a0).toNat L6.length <| kI a0 (Int.ofNat (a0).toNat) <| kC (ZaO (E := eI) (L := L5) (i := (a0).toNat) (q := 0) (l := [vi (((4 : Int) * a3) + a2)]) (((4 : Int) * a3) + a2) (by omega) (show ((0 + ((a0).toNat * 1)) + 0) = (a0).toNat * 1 + 0 from by omega) (show 0 + 1 ≤ 1 from by decide) rfl) <| hT g11 w11) (bU2 (κk L5 L6) 0 (show (vs 1 0 L5.length L5.length : Value) = vs 1 0 (L5.set (a0).toNat (((4 : Int) * a3) + a2)).length (L5.set (a0).toNat (((4 : Int) * a3) + a2)).length from Z5 rfl eqA eqA) 1 (show (vs 2 0 L6.length L6.length : Value) = vs 2 0 (L6.set (a0).toNat (i64.wrap ((L6.getD (a0).toNat 0) + 1))).length (L6.set (a0).toNat (i64.wrap ((L6.getD (a0).toNat 0) + 1))).length from Z5 rfl eqA eqA) <| bR <| bR <| bE)
            ·
             exact fxC (Zj (oq [3, 5, 13, 15, 17, 22, 24, 26, 29, 31, 33, 35, 38]) [(0, ((4 : Int) * a1)), (1, ((4 : Int) * a1)), (2, ((4 : Int) * a3)), (3, (((4 : Int) * a3) + a2))] [(0, (a0).toNat)] [] [(0, .at (L5.getD (a0).toNat 0) (Zb eI (L5.set (a0).toNat (((4 : Int) * a3) + a2))))]) [0, 1, 2] (vf) (hF g11 w11) (bS (κk L5 L6) <| bR <| bR <| bE)
           ·
            exact fxC (Zj (oq [3, 5, 13, 15, 17, 22, 24, 26, 29, 31, 33, 34]) [(0, ((4 : Int) * a1)), (1, ((4 : Int) * a1))] [] [] []) [0, 1, 2] (vf) (kN (a4 ≥ 0) <| hY g9 w9) (bS (κk L5 L6) <| bR <| bR <| bE)
          ·
           exact fxC (Zj (oq [3, 5, 13, 15, 17, 22, 24, 26, 29, 31, 32]) [(0, ((4 : Int) * a1)), (1, ((4 : Int) * a1))] [] [] []) [0, 1, 2] (vf) (hN g9 w9) (bS (κk L5 L6) <| bR <| bR <| bE)
         ·
          exact fxC (Zj (oq [3, 5, 13, 15, 17, 22, 24, 26, 29, 30]) [(0, ((4 : Int) * a1)), (1, ((4 : Int) * a1))] [] [] []) [0, 1, 2] (vf) (kN (a3 ≥ 0) <| hT g7 <| hF g6 w6) (bS (κk L5 L6) <| bR <| bR <| bE)
        ·
         exact fxC (Zj (oq [3, 5, 13, 15, 17, 22, 24, 26, 28]) [(0, ((4 : Int) * a1)), (1, ((4 : Int) * a1))] [] [] []) [0, 1, 2] (vf) (hF g7 <| hF g6 w6) (bS (κk L5 L6) <| bR <| bR <| bE)
     ·
      exact fxC (Zj (oq [3, 5, 13, 15, 16]) [(0, ((4 : Int) * a1)), (1, ((4 : Int) * a1))] [] [] []) [0, 1, 2] (vf) (hN g4 w4) (bS (κk L5 L6) <| bR <| bR <| bE)
    ·
     exact fxC (Zj (oq [3, 5, 13, 14]) [(0, ((4 : Int) * a1)), (1, ((4 : Int) * a1))] [] [] []) [0, 1, 2] (vf) (kN (a0 ≥ 0) w3) (bS (κk L5 L6) <| bR <| bR <| bE)
   ·
    exact fxC (Zj (oq [3, 5, 12]) [(0, ((4 : Int) * a1)), (1, ((4 : Int) * a1))] [] [] []) [0, 1, 2] (vf) (kN ((L5.length : Int) > 0) w2) (bS (κk L5 L6) <| bR <| bR <| bE)
  ·
   by_cases g2 : (0 : Int) < (L5.length : Int)
   ·
    have w3 := kY ((L5.length : Int) > 0) <| hN g1 w1
    by_cases g3 : (0 : Int) ≤ a0
    ·
     by_cases g4 : a0 < (L5.length : Int)
     ·
      exact fxC (Zj (oq [3, 4, 11, 13, 15]) [] [] [] []) [0, 1, 2] (vf) (hY g4 <| kY (a0 ≥ 0) w3) (bS (κk L5 L6) <| bR <| bR <| bE)
     ·
      exact fxC (Zj (oq [3, 4, 11, 13, 14]) [] [] [] []) [0, 1, 2] (vf) (hN g4 <| kY (a0 ≥ 0) w3) (bS (κk L5 L6) <| bR <| bR <| bE)
    ·
     exact fxC (Zj (oq [3, 4, 11, 12]) [] [] [] []) [0, 1, 2] (vf) (kN (a0 ≥ 0) w3) (bS (κk L5 L6) <| bR <| bR <| bE)
   ·
    exact fxC (Zj (oq [3, 4, 10]) [] [] [] []) [0, 1, 2] (vf) (kN ((L5.length : Int) > 0) <| hN g1 w1) (bS (κk L5 L6) <| bR <| bR <| bE)
 ·
  by_cases g1 : (0 : Int) < (L5.length : Int)
  ·
   have w2 := kY ((L5.length : Int) > 0) <| kN (a1 ≥ 0) Zk
   by_cases g2 : (0 : Int) ≤ a0
   ·
    by_cases g3 : a0 < (L5.length : Int)
    ·
     exact fxC (Zj (oq [2, 9, 11, 13]) [] [] [] []) [0, 1, 2] (vf) (hY g3 <| kY (a0 ≥ 0) w2) (bS (κk L5 L6) <| bR <| bR <| bE)
    ·
     exact fxC (Zj (oq [2, 9, 11, 12]) [] [] [] []) [0, 1, 2] (vf) (hN g3 <| kY (a0 ≥ 0) w2) (bS (κk L5 L6) <| bR <| bR <| bE)
   ·
    exact fxC (Zj (oq [2, 9, 10]) [] [] [] []) [0, 1, 2] (vf) (kN (a0 ≥ 0) w2) (bS (κk L5 L6) <| bR <| bR <| bE)
  ·
   exact fxC (Zj (oq [2, 8]) [] [] [] []) [0, 1, 2] (vf) (kN ((L5.length : Int) > 0) <| kN (a1 ≥ 0) Zk) (bS (κk L5 L6) <| bR <| bR <| bE)

theorem Zk7 (a0 a1 a2 a3 a4 : Int) (L5 L6 : List Int) (N : Nat) (r : Z7) (h : ZbH a0 a1 a2 a3 a4 L5 L6 N = some r) : LSpec Tryz.prog 73 #[vp 0 0, vi a0, vi a1, Value.agg #[vi a2, vi a3, vi a4]] [.cells (κk L5 L6) 191, .cells (Zb eI L5) 188, .cells (Zb eI L6) 188] (Ziy a0 a1 a2 a3 a4 L5 L6 r) (Zhz a0 a1 a2 a3 a4 L5 L6 r) :=
 Zbc Zz Tryz.func73 (by kernel_rfl) (by kernel_rfl) (fun r => by cases r <;> exact ZB _ rfl) (ZlX a0 a1 a2 a3 a4 L5 L6 N) h

noncomputable def Zh0 {a0 a1 a2 a3 a4 : Int} {L5 L6 w0 w1 : List Int} {w2 : Bool} {N : Nat} (h : ZbH a0 a1 a2 a3 a4 L5 L6 N = some (.r0 w0 w1 w2)) (ks : List Nat) (n : Nat) : ToldS := ⟨#[vp (nth ks 0) 0, vi a0, vi a1, Value.agg #[vi a2, vi a3, vi a4]], [((nth ks 0), .cells [vs (nth ks 1) 0 L5.length L5.length, vs (nth ks 2) 0 L6.length L6.length] 191), ((nth ks 1), .cells (Zb eI L5) 188), ((nth ks 2), .cells (Zb eI L6) 188)], Value.bool w2, [((nth ks 0), some (.cells [vs (nth ks 1) 0 w0.length w0.length, vs (nth ks 2) 0 w1.length w1.length] 191)), ((nth ks 1), some (.cells (Zb eI w0) 188)), ((nth ks 2), some (.cells (Zb eI w1) 188))], 0⟩

theorem Zmw {a0 a1 a2 a3 a4 : Int} {L5 L6 w0 w1 : List Int} {w2 : Bool} {N : Nat} (h : ZbH a0 a1 a2 a3 a4 L5 L6 N = some (.r0 w0 w1 w2)) (ks : List Nat) (n : Nat) (hk : ks.length = 3 := by rfl) (hnd : ks.Nodup := by decide +kernel) (hlt : ∀ k ∈ ks, k < n := by decide +kernel) : (Zh0 (N := N)  h ks n).P Tryz.prog 73 n :=
 match ks, hk, hnd, hlt with
 | [k0, k1, k2], _, hnd, hlt => Za3 (show LSpec Tryz.prog 73 #[vp 0 0, vi a0, vi a1, Value.agg #[vi a2, vi a3, vi a4]] [.cells (κk L5 L6) 191, .cells (Zb eI L5) 188, .cells (Zb eI L6) 188] (Value.bool w2) [some (.cells [vs 1 0 w0.length w0.length, vs 2 0 w1.length w1.length] 191), some (.cells (Zb eI w0) 188), some (.cells (Zb eI w1) 188)] from Zk7 a0 a1 a2 a3 a4 L5 L6 N _ h) _ n [0, 1, 2] hnd hlt

noncomputable def ZiV (a0 a1 : Int) (L2 L3 : List Int) : ZaM → Value
 | .r0 w0 w2 => vi w2
noncomputable def Ziz (a0 a1 : Int) (L2 L3 : List Int) : ZaM → List (Option AObj)
 | .r0 w0 w2 => [some (.cells [vs 1 0 w0.length w0.length, vs 2 0 L3.length L3.length] 191), some (.cells (Zb eI w0) 188), some (.cells (Zb eI L3) 188)]

noncomputable abbrev κN (L2 L3 : List Int) := [vs 1 0 L2.length L2.length, vs 2 0 L3.length L3.length]
theorem Zmx (a0 a1 : Int) (L2 L3 : List Int) (N : Nat) : Fx Tryz.prog Zu Tryz.f75 [.cells (κN L2 L3) 191, .cells (Zb eI L2) 188, .cells (Zb eI L3) 188] #[vp 0 0, vi a0, vi a1] (ZiV a0 a1 L2 L3) (Ziz a0 a1 L2 L3) (Zcd a0 a1 L2 L3 N) := by
 unfold Zcd
 refine Zg (fun g0 => ?_) (fun g0 => ?_)
 ·
  have w1 := kY ((L2.length : Int) > 0) <| kY ((L2.length : Int) > 0) Zk
  refine Zg (fun g1 => ?_) (fun g1 => ?_)
  ·
   refine Zg (fun g2 => ?_) (fun g2 => ?_)
   ·
    refine Zg (fun g3 => ?_) (fun g3 => ?_)
    ·
     have w4 := kY (a1 ≥ 0) <| hY g2 <| kY (a0 ≥ 0) w1
     refine Zg (fun g4 => ?_) (fun g4 => ?_)
     ·
      have w5 := kW (((4 : Int) * a1) + 0) ((4 : Int) * a1) <| kW ((4 : Int) * a1) ((4 : Int) * a1) <| hY g4 w4
      refine Zcc (fun z5 c5 => ?_)
      cases z5 with
      | r0 y5_0 y5_1 y5_2 =>
       refine Zg (fun g6 => ?_) (fun g6 => ?_)
       ·
        exact fxC (Zj (oq [3, 9, 11, 13, 19, 21, 29]) [(0, ((4 : Int) * a1)), (1, ((4 : Int) * a1))] [] [] [(0, (Zcr c5 [0, 1, 2] 6).t)]) [0, 1, 2] (vi 30) (hT g6 <| kK (ZeB c5 [0, 1, 2] 6) w5) (bS (κN L2 L3) <| bR <| bR <| bE)
       ·
        exact fxC (Zj (oq [3, 9, 11, 13, 19, 21, 28]) [(0, ((4 : Int) * a1)), (1, ((4 : Int) * a1))] [(0, (a0).toNat)] [] [(0, (Zcr c5 [0, 1, 2] 6).t), (1, .at (L2.getD (a0).toNat 0) (Zb eI (L2.set (a0).toNat ((4 : Int) * a1))))]) [0, 1, 2] (vq) (kX (dP (ZO 1 (List.drop ((0 + ((a0).toNat * 1)) + 0) (Zb eI L2)) = some [vi (L2.getD (a0).toNat 0)] ∧ ((0 + ((a0).toNat * 1)) + 0) + 1 ≤ ((Zb eI L2) : List Value).length ∧ ZeC (Zb eI L2) ((0 + ((a0).toNat * 1)) + 0) [vi ((4 : Int) * a1)] = (Zb eI (L2.set (a0).toNat ((4 : Int) * a1))))) true (Z2 ⟨(ZbC (E := eI) (L := L2) (i := (a0).toNat) (q := 0) (by omega) (show ((0 + ((a0).toNat * 1)) + 0) = (a0).toNat * 1 + 0 from by omega) (show 0 + 1 ≤ 1 from by decide) rfl), (ZaO (E := eI) (L := L2) (i := (a0).toNat) (q := 0) (l := [vi ((4 : Int) * a1)]) ((4 : Int) * a1) (by omega) (show ((0 + ((a0).toNat * 1)) + 0) = (a0).toNat * 1 + 0 from by omega) (show 0 + 1 ≤ 1 from by decide) rfl)⟩) <| kB (a0).toNat L2.length <| kI a0 (Int.ofNat (a0).toNat) <| hF g6 <| kK (ZeB c5 [0, 1, 2] 6) w5) (bU (κN L2 L3) 0 (show (vs 1 0 L2.length L2.length : Value) = vs 1 0 (L2.set (a0).toNat ((4 : Int) * a1)).length (L2.set (a0).toNat ((4 : Int) * a1)).length from Z5 rfl eqA eqA) <| bR <| bR <| bE)
     ·
      exact fxC (Zj (oq [3, 9, 11, 13, 19, 20]) [] [] [] []) [0, 1, 2] (vi 30) (hN g4 w4) (bS (κN L2 L3) <| bR <| bR <| bE)
    ·
     exact fxC (Zj (oq [3, 9, 11, 13, 18]) [] [] [] []) [0, 1, 2] (vi 30) (kN (a1 ≥ 0) <| hY g2 <| kY (a0 ≥ 0) w1) (bS (κN L2 L3) <| bR <| bR <| bE)
   ·
    exact fxC (Zj (oq [3, 9, 11, 12]) [] [] [] []) [0, 1, 2] (vi 5) (hN g2 <| kY (a0 ≥ 0) w1) (bS (κN L2 L3) <| bR <| bR <| bE)
  ·
   exact fxC (Zj (oq [3, 9, 10]) [] [] [] []) [0, 1, 2] (vi 5) (kN (a0 ≥ 0) w1) (bS (κN L2 L3) <| bR <| bR <| bE)
 ·
  exact fxC (Zj (oq [2]) [] [] [] []) [0, 1, 2] (vi 4) (kN ((L2.length : Int) > 0) Zk) (bS (κN L2 L3) <| bR <| bR <| bE)

theorem ZkZ (a0 a1 : Int) (L2 L3 : List Int) (N : Nat) (r : ZaM) (h : Zcd a0 a1 L2 L3 N = some r) : LSpec Tryz.prog 75 #[vp 0 0, vi a0, vi a1] [.cells (κN L2 L3) 191, .cells (Zb eI L2) 188, .cells (Zb eI L3) 188] (ZiV a0 a1 L2 L3 r) (Ziz a0 a1 L2 L3 r) :=
 Zbc Zz Tryz.func75 (by kernel_rfl) (by kernel_rfl) (fun r => by cases r <;> exact ZB _ rfl) (Zmx a0 a1 L2 L3 N) h

noncomputable def Zi0 {a0 a1 : Int} {L2 L3 w0 : List Int} {w2 : Int} {N : Nat} (h : Zcd a0 a1 L2 L3 N = some (.r0 w0 w2)) (ks : List Nat) (n : Nat) : ToldS := ⟨#[vp (nth ks 0) 0, vi a0, vi a1], [((nth ks 0), .cells [vs (nth ks 1) 0 L2.length L2.length, vs (nth ks 2) 0 L3.length L3.length] 191), ((nth ks 1), .cells (Zb eI L2) 188), ((nth ks 2), .cells (Zb eI L3) 188)], vi w2, [((nth ks 0), some (.cells [vs (nth ks 1) 0 w0.length w0.length, vs (nth ks 2) 0 L3.length L3.length] 191)), ((nth ks 1), some (.cells (Zb eI w0) 188))], 0⟩

theorem Zni {a0 a1 : Int} {L2 L3 w0 : List Int} {w2 : Int} {N : Nat} (h : Zcd a0 a1 L2 L3 N = some (.r0 w0 w2)) (ks : List Nat) (n : Nat) (hk : ks.length = 3 := by rfl) (hnd : ks.Nodup := by decide +kernel) (hlt : ∀ k ∈ ks, k < n := by decide +kernel) : (Zi0 (N := N)  h ks n).P Tryz.prog 75 n :=
 match ks, hk, hnd, hlt with
 | [k0, k1, k2], _, hnd, hlt => Za3 (show LSpec Tryz.prog 75 #[vp 0 0, vi a0, vi a1] [.cells (κN L2 L3) 191, .cells (Zb eI L2) 188, .cells (Zb eI L3) 188] (vi w2) [some (.cells [vs 1 0 w0.length w0.length, vs 2 0 L3.length L3.length] 191), some (.cells (Zb eI w0) 188), some (.cells (Zb eI L3) 188)] from ZkZ a0 a1 L2 L3 N _ h) _ n [0, 1] hnd hlt

set_option linter.unusedVariables false
set_option maxRecDepth 100000
set_option maxHeartbeats 4000000
noncomputable abbrev κJ (a9 : Int) (L21 : List RJ) := #[Value.agg #[vi 12, vi a9, vi 2, vi (((1 : Int) * 1048576) + (((L21.length + 1) : Nat) : Int)), vq, vq], vT]
noncomputable def Zhf (a0 : Int) (L1 : List RO) (a2 : Int) (b3 b4 : Bool) (a5 a6 a7 a8 a9 a10 a11 : Int) (L12 : List RG) (a13 a14 a15 a16 a17 a18 a19 a20 : Int) (L21 : List RJ) (L22 : List RH) (L23 L24 : List Int) (a25 a26 a27 a28 : Int) (L29 : List Int) (L30 : List RH) (n31 n32 : Nat) : plain_Access_StepR → Value
 | .r0 w0 w1 w2 w3 w4 w5 w6 w7 w8 w10 w11 w12 w13 w14 w15 w16 w17 w18 w20 w32 w36 w37 w38 => Value.tuple #[Value.agg #[vi w4, vi w5, vi w6, vi w7, vi w8, vq], Value.bool w10]
 | .r1 w29 w30 => Value.tuple (κJ a9 L21)
noncomputable abbrev κw (a25 a26 a27 : Int) := [vi a25, vi a26, vi a27]
noncomputable abbrev κj (a28 : Int) (L29 : List Int) := (AObj.cells (Z1 eI 64 [vi a28] L29 []) 211)
noncomputable abbrev κd (L23 L24 : List Int) := [vs 8 0 L23.length L23.length, vs 9 0 L24.length L24.length]
noncomputable abbrev κa (a11 : Int) (L12 : List RG) (a13 a14 a15 a16 a17 a18 a19 : Int) := (Z1 Zh9 64 [vi a11] L12 [vi a13, vi a14, vi a15, vi a16, vi a17, vi a18, vi a19, vp 2 0, vp 3 0, vp 4 0, vp 5 0])
noncomputable def Zg6 (a0 : Int) (L1 : List RO) (a2 : Int) (b3 b4 : Bool) (a5 a6 a7 a8 a9 a10 a11 : Int) (L12 : List RG) (a13 a14 a15 a16 a17 a18 a19 a20 : Int) (L21 : List RJ) (L22 : List RH) (L23 L24 : List Int) (a25 a26 a27 a28 : Int) (L29 : List Int) (L30 : List RH) (n31 n32 : Nat) : plain_Access_StepR → List (Option AObj)
 | .r0 w0 w1 w2 w3 w4 w5 w6 w7 w8 w10 w11 w12 w13 w14 w15 w16 w17 w18 w20 w32 w36 w37 w38 => [some (.cells (Z1 Zf 1 [] w11 [vs 11 (w37 * 2) w38 w38, vi w12, Value.bool w13, Value.bool w14, vi w15, vi w16, vi w17, vi w18, vp 1 0, vi a9, (fnV w20)]) 141), some (.cells (κa a11 L12 a13 a14 a15 a16 a17 a18 a19) 132), some (.cells (ZG (vi a20) (vs 6 0 w0.length w0.length) (vs 7 0 w1.length w1.length)) 154), some (.cells [vs 8 0 w2.length w2.length, vs 9 0 w3.length w3.length] 191), some (.cells [vi a25, vi w32, vi a27] 208), some (κj a28 L29), some (.cells (Zb RC w0) 57), some (.cells (Zb RB w1) 42), some (.cells (Zb eI w2) 188), some (.cells (Zb eI w3) 188), none, some (.cells (Zb RB w36) 42 true)]
 | .r1 w29 w30 => [some (.cells (Z1 Zf 1 [] L1 [vs 13 (n31 * 2) n32 n32, vi a2, Value.bool b3, vT, vi a0, vi 2, vi (((1 : Int) * 1048576) + (((L21.length + 1) : Nat) : Int)), vq, vp 1 0, vi a9, Value.nilFunc]) 141), some (.cells (κa a11 L12 a13 a14 a15 a16 a17 a18 a19) 132), some (.cells (ZG (vi a20) (vs 11 0 w29.length w29.length) (vs 12 0 w30.length w30.length)) 154), some (.cells (κd L23 L24) 191), some (.cells (κw a25 a26 a27) 208), some (κj a28 L29), none, none, some (.cells (Zb eI L23) 188), some (.cells (Zb eI L24) 188), none, some (.cells (Zb RC w29) 57), some (.cells (Zb RB w30) 42), some (.cells (Zb RB L30) 42 true)]

noncomputable abbrev κbc (a9 : Int) := (Value.tuple #[Value.agg #[vi 2, vi a9, vq, vq, vq, vq], vf])
noncomputable abbrev κV (L1 : List RO) (n31 n32 : Nat) (a2 : Int) (b3 : Bool) (a0 : Int) (L21 : List RJ) (a9 : Int) := (AObj.cells (Z1 Zf 1 [] L1 [vs 10 (n31 * 2) n32 n32, vi a2, Value.bool b3, vT, vi a0, vi 2, vi (((1 : Int) * 1048576) + (((L21.length + 1) : Nat) : Int)), vq, vp 1 0, vi a9, Value.nilFunc]) 141)
noncomputable abbrev κS (L1 : List RO) (n31 n32 : Nat) (a2 : Int) (b3 b4 : Bool) (a5 a6 a7 a8 a9 a10 : Int) := (Z1 Zf 1 [] L1 [vs 10 (n31 * 2) n32 n32, vi a2, Value.bool b3, Value.bool b4, vi a5, vi a6, vi a7, vi a8, vp 1 0, vi a9, (fnV a10)])
noncomputable abbrev κb (a20 : Int) (L21 : List RJ) (L22 : List RH) := (ZG (vi a20) (vs 6 0 L21.length L21.length) (vs 7 0 L22.length L22.length))
theorem Zk8 (a0 : Int) (L1 : List RO) (a2 : Int) (b3 b4 : Bool) (a5 a6 a7 a8 a9 a10 a11 : Int) (L12 : List RG) (a13 a14 a15 a16 a17 a18 a19 a20 : Int) (L21 : List RJ) (L22 : List RH) (L23 L24 : List Int) (a25 a26 a27 a28 : Int) (L29 : List Int) (L30 : List RH) (n31 n32 N : Nat) : Gx Tryz.prog 20 [.cells (κS L1 n31 n32 a2 b3 b4 a5 a6 a7 a8 a9 a10) 141, .cells (κa a11 L12 a13 a14 a15 a16 a17 a18 a19) 132, .cells (κb a20 L21 L22) 154, .cells (κd L23 L24) 191, .cells (κw a25 a26 a27) 208, .cells (Z1 eI 64 [vi a28] L29 []) 211, .cells (Zb RC L21) 57, .cells (Zb RB L22) 42, .cells (Zb eI L23) 188, .cells (Zb eI L24) 188, .cells (Zb RB L30) 42 true] #[vp 0 0, vi a0] (Zhf a0 L1 a2 b3 b4 a5 a6 a7 a8 a9 a10 a11 L12 a13 a14 a15 a16 a17 a18 a19 a20 L21 L22 L23 L24 a25 a26 a27 a28 L29 L30 n31 n32) (Zg6 a0 L1 a2 b3 b4 a5 a6 a7 a8 a9 a10 a11 L12 a13 a14 a15 a16 a17 a18 a19 a20 L21 L22 L23 L24 a25 a26 a27 a28 L29 L30 n31 n32) (Zn a0 L1 a2 b3 b4 a5 a6 a7 a8 a9 a10 a11 L12 a13 a14 a15 a16 a17 a18 a19 a20 L21 L22 L23 L24 a25 a26 a27 a28 L29 L30 n31 n32 N) := by
 unfold Zn
 refine Z6 (fun g0 => ?_) (fun _ => ZS)
 refine Z6 (fun g1 => ?_) (fun _ => ZS)
 refine Z6 (fun g2 => ?_) (fun _ => ZS)
 refine Z6 (fun g3 => ?_) (fun _ => ZS)
 refine Z6 (fun g4 => ?_) (fun _ => ZS)
 refine Z6 (fun g5 => ?_) (fun _ => ZS)
 refine Z6 (fun g6 => ?_) (fun _ => ZS)
 refine Z6 (fun g7 => ?_) (fun _ => ZS)
 refine Z6 (fun g8 => ?_) (fun _ => ?_)
 ·
  subst g8
  exact gxR Zz 10 (Zj (oq []) [] [] [] []) (rg 0 10 (900000010 :: [10])) (Value.tuple #[Value.agg #[vq, vq, vq, vq, vq, vq], vf]) Zk (bM (.cells (Z1 Zf 1 [] L1 [vs 10 (n31 * 2) n32 n32, vi a2, Value.bool b3, Value.bool b4, vi a5, vi a6, vi a7, vi a8, vp 1 0, vi a9, Value.nilFunc]) 141) <| bM (.cells (κa a11 L12 a13 a14 a15 a16 a17 a18 a19) 132) <| bS (κb a20 L21 L22) <| bS (κd L23 L24) <| bS (κw a25 a26 a27) <| bM (κj a28 L29) <| bR <| bR <| bR <| bR <| bN <| bQ <| bE)
 ·
  refine Z6 (fun g8 => ?_) (fun _ => ?_)
  ·
   subst g8
   have w9 := kT ((o1 L1).a1) 2 <| kE ((o1 L1).a1) 2 Zk
   refine Z6 (fun g9 => ?_) (fun g9 => ?_)
   ·
    have w10 := kM ((o1 L1).a2) 1048576 <| kV ((o1 L1).a2) 1048576 <| kY ((o1 L1).a2 > 0) <| hD g9 w9
    refine Z6 (fun g10 => ?_) (fun _ => ZS)
    have w11 := kY (((o1 L1).a2 / 1048576) ≤ 1073741824) <| kY (((o1 L1).a2 / 1048576) ≥ 1) w10
    refine Z6 (fun g11 => ?_) (fun _ => ZS)
    have w12 := kY (a11 > 0) <| kF ((o1 L1).a0) 3 <| kO (((o1 L1).a1 == 2) && (((o1 L1).a2 == 0) && true)) <| kY (((o1 L1).a2 % 1048576) ≤ 1048575) <| kY (((o1 L1).a2 % 1048576) ≥ 1) w11
    refine ZaG (fun z12 c12 => ?_)
    cases z12 with
    | r0 y12_0 y12_1 y12_2 y12_3 y12_4 y12_5 =>
     refine Z6 (fun g13 => ?_) (fun g13 => ?_)
     ·
      subst g13
      have w14 := kK (Zat c12 [2, 6, 7] 17) w12
      refine Z6 (fun g14 => ?_) (fun g14 => ?_)
      ·
       refine Z6 (fun g15 => ?_) (fun _ => ZS)
       refine Z6 (fun g16 => ?_) (fun g16 => ?_)
       ·
        refine ZaG (fun z17 c17 => ?_)
        cases z17 with
        | r0 y17_0 y17_1 y17_2 y17_3 y17_4 y17_5 =>
         refine Z6 (fun g18 => ?_) (fun g18 => ?_)
         ·
          subst g18
          have w19 := kK (Zat c17 [2, 6, 7] 20) <| kY (a11 > 0) <| hT g16 <| hT g15 <| hT g14 w14
          refine Z6 (fun _ => ZS) (fun g19 => ?_)
          refine ZaG (fun z20 c20 => ?_)
          cases z20 with
          | r0 y20_0 y20_1 y20_2 =>
           refine Z6 (fun g21 => ?_) (fun g21 => ?_)
           ·
            exact gxR Zz 10 (Zj (oq [8, 11, 13, 15, 17, 19, 21, 23, 28, 30, 37, 41, 43, 45, 49, 52, 57, 61]) [(0, ((o1 L1).a2 / 1048576)), (1, ((o1 L1).a2 % 1048576))] [] [] [(2, (Zs c12 [2, 6, 7] 17).t), (4, (Zs c17 [2, 6, 7] 20).t), (6, (Z8 c20 [2, 6, 7] 21).t)]) (rg 0 10 (900000010 :: [10])) (Value.tuple #[Value.agg #[vi 4, vi a9, vi (o1 L1).a1, vi (o1 L1).a2, vi (o1 L1).a3, vq], vT]) (hD g21 <| kK (Zau c20 [2, 6, 7] 21) <| kY (a11 > 0) <| hF g19 w19) (bM (.cells (Z1 Zf 1 [] L1 [vs 10 (n31 * 2) n32 n32, vi a2, Value.bool b3, vT, vi a0, vq, vq, vi y20_2, vp 1 0, vi a9, Value.nilFunc]) 141) <| bM (.cells (κa a11 L12 a13 a14 a15 a16 a17 a18 a19) 132) <| bS (κb a20 L21 L22) <| bS (κd L23 L24) <| bS (κw a25 a26 a27) <| bM (κj a28 L29) <| bR <| bR <| bR <| bR <| bN <| bQ <| bE)
           ·
            exact gxR Zz 10 (Zj (oq [8, 11, 13, 15, 17, 19, 21, 23, 28, 30, 37, 41, 43, 45, 49, 52, 57, 60]) [(0, ((o1 L1).a2 / 1048576)), (1, ((o1 L1).a2 % 1048576))] [] [] [(2, (Zs c12 [2, 6, 7] 17).t), (4, (Zs c17 [2, 6, 7] 20).t), (6, (Z8 c20 [2, 6, 7] 21).t)]) (rg 0 10 (900000010 :: [10])) (Value.tuple #[Value.agg #[vi 4, vi a9, vi (o1 L1).a1, vi (o1 L1).a2, vi (o1 L1).a3, vq], vT]) (kE y20_2 0 <| kK (Zau c20 [2, 6, 7] 21) <| kY (a11 > 0) <| hF g19 w19) (bM (.cells (Z1 Zf 1 [] L1 [vs 10 (n31 * 2) n32 n32, vi a2, Value.bool b3, vT, vi a0, vi y20_0, vi y20_1, vi y20_2, vp 1 0, vi a9, Value.nilFunc]) 141) <| bM (.cells (κa a11 L12 a13 a14 a15 a16 a17 a18 a19) 132) <| bS (κb a20 L21 L22) <| bS (κd L23 L24) <| bS (κw a25 a26 a27) <| bM (κj a28 L29) <| bR <| bR <| bR <| bR <| bN <| bQ <| bE)
         ·
          obtain rfl : y17_5 = false := by simpa using g18
          exact ZS
       ·
        have w17 := kY (a11 > 0) <| kT ((o1 L1).a0) 1 <| hF g16 <| hT g15 <| hT g14 w14
        refine ZaG (fun z17 c17 => ?_)
        cases z17 with
        | r0 y17_0 y17_1 y17_2 y17_3 y17_4 y17_5 =>
         refine Z6 (fun g18 => ?_) (fun g18 => ?_)
         ·
          subst g18
          refine Z6 (fun _ => ZS) (fun g19 => ?_)
          have w20 := kY (a11 > 0) <| hF g19 <| kK (Zat c17 [2, 6, 7] 20) w17
          refine ZaG (fun z20 c20 => ?_)
          cases z20 with
          | r0 y20_0 y20_1 y20_2 =>
           refine Z6 (fun g21 => ?_) (fun g21 => ?_)
           ·
            refine ZaG (fun z22 c22 => ?_)
            cases z22 with
            | r0 y22_0 y22_1 =>
             have w23 := kK (Zhv c22 [2, 6, 7] 22) <| kY (a11 > 0) <| hT g21 <| kK (Zau c20 [2, 6, 7] 21) w20
             by_cases g23 : ¬ (y22_1 = 0)
             ·
              exact gxR Zz 10 (Zj (oq [8, 11, 13, 15, 17, 19, 21, 23, 28, 30, 37, 41, 43, 44, 47, 51, 54, 59, 63, 67, 71]) [(0, ((o1 L1).a2 / 1048576)), (1, ((o1 L1).a2 % 1048576))] [] [] [(2, (Zs c12 [2, 6, 7] 17).t), (4, (Zs c17 [2, 6, 7] 20).t), (6, (Z8 c20 [2, 6, 7] 21).t), (9, (ZcL c22 [2, 6, 7] 22).t)]) (rg 0 10 (900000010 :: [10])) (Value.tuple #[Value.agg #[vi 5, vi a9, vi (o1 L1).a1, vi (o1 L1).a2, vi (o1 L1).a3, vq], vT]) (hD g23 w23) (bM (.cells (Z1 Zf 1 [] L1 [vs 10 (n31 * 2) n32 n32, vi a2, Value.bool b3, vT, vi a0, vq, vq, vi y22_1, vp 1 0, vi a9, Value.nilFunc]) 141) <| bM (.cells (κa a11 L12 a13 a14 a15 a16 a17 a18 a19) 132) <| bS (ZG (vi a20) (vs 6 0 L21.length L21.length) (vs 7 0 y22_0.length y22_0.length)) <| bS (κd L23 L24) <| bS (κw a25 a26 a27) <| bM (κj a28 L29) <| bR <| bR <| bR <| bR <| bN <| bQ <| bE)
             ·
              exact gxR Zz 10 (Zj (oq [8, 11, 13, 15, 17, 19, 21, 23, 28, 30, 37, 41, 43, 44, 47, 51, 54, 59, 63, 67, 70]) [(0, ((o1 L1).a2 / 1048576)), (1, ((o1 L1).a2 % 1048576))] [] [] [(2, (Zs c12 [2, 6, 7] 17).t), (4, (Zs c17 [2, 6, 7] 20).t), (6, (Z8 c20 [2, 6, 7] 21).t), (9, (ZcL c22 [2, 6, 7] 22).t)]) (rg 0 10 (900000010 :: [10])) (Value.tuple #[Value.agg #[vi 5, vi a9, vi (o1 L1).a1, vi (o1 L1).a2, vi (o1 L1).a3, vq], vT]) (kE y22_1 0 w23) (bM (.cells (Z1 Zf 1 [] L1 [vs 10 (n31 * 2) n32 n32, vi a2, Value.bool b3, vT, vi a0, vq, vq, vi y22_1, vp 1 0, vi a9, Value.nilFunc]) 141) <| bM (.cells (κa a11 L12 a13 a14 a15 a16 a17 a18 a19) 132) <| bS (ZG (vi a20) (vs 6 0 L21.length L21.length) (vs 7 0 y22_0.length y22_0.length)) <| bS (κd L23 L24) <| bS (κw a25 a26 a27) <| bM (κj a28 L29) <| bR <| bR <| bR <| bR <| bN <| bQ <| bE)
           ·
            exact gxR Zz 10 (Zj (oq [8, 11, 13, 15, 17, 19, 21, 23, 28, 30, 37, 41, 43, 44, 47, 51, 54, 59, 62, 65]) [(0, ((o1 L1).a2 / 1048576)), (1, ((o1 L1).a2 % 1048576))] [] [] [(2, (Zs c12 [2, 6, 7] 17).t), (4, (Zs c17 [2, 6, 7] 20).t), (6, (Z8 c20 [2, 6, 7] 21).t)]) (rg 0 10 (900000010 :: [10])) (Value.tuple #[Value.agg #[vi 5, vi a9, vi (o1 L1).a1, vi (o1 L1).a2, vi (o1 L1).a3, vq], vT]) (hD g21 <| hF g21 <| kK (Zau c20 [2, 6, 7] 21) w20) (bM (.cells (Z1 Zf 1 [] L1 [vs 10 (n31 * 2) n32 n32, vi a2, Value.bool b3, vT, vi a0, vq, vq, vi y20_2, vp 1 0, vi a9, Value.nilFunc]) 141) <| bM (.cells (κa a11 L12 a13 a14 a15 a16 a17 a18 a19) 132) <| bS (κb a20 L21 L22) <| bS (κd L23 L24) <| bS (κw a25 a26 a27) <| bM (κj a28 L29) <| bR <| bR <| bR <| bR <| bN <| bQ <| bE)
         ·
          obtain rfl : y17_5 = false := by simpa using g18
          exact ZS
      ·
       have w15 := kY (a11 > 0) <| kX (dP (i64 = i64 ∧ (L23.length : Int) ≠ 0)) true (Z2 ⟨rfl, by omega⟩) <| kM ((o1 L1).a2) 1048576 <| kY (((o1 L1).a2 % 1048576) ≤ 1048575) <| kY (((o1 L1).a2 % 1048576) ≥ 1) <| kY (((o1 L1).a2 / 1048576) ≤ 1073741824) <| kY (((o1 L1).a2 / 1048576) ≥ 1) <| kM ((o1 L1).a2) 1048576 <| kV ((o1 L1).a2) 1048576 <| kY ((o1 L1).a2 > 0) <| kE ((o1 L1).a1) 2 <| kY ((L23.length : Int) > 0) <| kY (a11 > 0) <| hF g14 w14
       refine ZaG (fun z15 c15 => ?_)
       cases z15 with
       | r0 y15_0 y15_1 y15_2 y15_3 y15_4 y15_5 =>
        refine Z6 (fun g16 => ?_) (fun g16 => ?_)
        ·
         subst g16
         refine Z6 (fun g17 => ?_) (fun g17 => ?_)
         ·
          refine Z6 (fun g18 => ?_) (fun _ => ZS)
          refine ZaG (fun z19 c19 => ?_)
          cases z19 with
          | r0 =>
           exact ZS
          | r1 y19_0 =>
           refine ZaG (fun z20 c20 => ?_)
           cases z20 with
           | r0 =>
            exact ZS
           | r1 y20_0 =>
            exact gxRw Zz 10 (Zj (oq [8, 11, 13, 15, 17, 19, 21, 23, 28, 30, 37, 40, 45, 51, 54, 57, 59, 61, 63, 65, 71, 75, 77, 81]) [(0, ((o1 L1).a2 / 1048576)), (1, ((o1 L1).a2 % 1048576)), (2, ((o1 L1).a2 / 1048576)), (3, ((o1 L1).a2 % 1048576)), (4, ((o1 L1).a2 % 1048576))] [] [] [(2, (Zs c12 [2, 6, 7] 17).t), (6, .dv), (9, (Zs c15 [2, 6, 7] 21).t), (11, (Zbo c19 [2, 6, 7] 22).t), (12, (Zgx c20 [] 22).t)]) (rg 0 10 (900000010 :: [22])) (κbc a9) (H0 := [some (.cells (Z1 Zf 1 [] ([((rq8 L1 (Int.tmod ((o1 L1).a2 % 1048576) (L23.length : Int))) : RO)] : List RO) [vs 11 (0 * 2) y20_0.length y20_0.length, vi a2, Value.bool b3, Value.bool b4, vi a5, vi a6, vi a7, vi a8, vp 1 0, vi a9, Value.func (.func 162) #[] #[]]) 141), some (.cells (κa a11 L12 a13 a14 a15 a16 a17 a18 a19) 132), some (.cells (κb a20 L21 L22) 154), some (.cells (κd L23 L24) 191), some (.cells (κw a25 a26 a27) 208), some (κj a28 L29), some (.cells (Zb RC L21) 57), some (.cells (Zb RB L22) 42), some (.cells (Zb eI L23) 188), some (.cells (Zb eI L24) 188), none, some (.cells (Zb RB y20_0) 42)]) ⟨(.inl rfl), ⟨(.inl rfl), ⟨(.inl rfl), ⟨(.inl rfl), ⟨(.inl rfl), ⟨(.inl rfl), ⟨(.inl rfl), ⟨(.inl rfl), ⟨(.inl rfl), ⟨(.inl rfl), ⟨(.inl rfl), ⟨(Zvc (E := RB) (L := y20_0)), trivial⟩⟩⟩⟩⟩⟩⟩⟩⟩⟩⟩⟩ (kK (ZiT c20 [] 22) <| kK (Zdp c19 [2, 6, 7] 22) <| kY (a11 > 0) <| hT g18 <| hT g17 <| kK (Zat c15 [2, 6, 7] 21) w15) (bC (o := .cells (Z1 Zf 1 [] ([((rq8 L1 (Int.tmod ((o1 L1).a2 % 1048576) (L23.length : Int))) : RO)] : List RO) [vs 22 0 y20_0.length y20_0.length, vi a2, Value.bool b3, Value.bool b4, vi a5, vi a6, vi a7, vi a8, vp 1 0, vi a9, Value.func (.func 162) #[] #[]]) 141) ⟨rfl, ⟨[], (show ([vi (o1 L1).a0, vi (o1 L1).a1, vi (o1 L1).a2, vi (o1 L1).a3, vi (o1 L1).a4, vi (o1 L1).a5, vi (o1 L1).a6, vi (o1 L1).a7, vi (Int.tmod ((o1 L1).a2 % 1048576) (L23.length : Int)), vi (o1 L1).a9, vi (o1 L1).a10, vi (o1 L1).a11, vi (o1 L1).a12, vi (o1 L1).a13, vi (o1 L1).a14, vi (o1 L1).a15, vs 11 0 y20_0.length y20_0.length, vi a2, Value.bool b3, Value.bool b4, vi a5, vi a6, vi a7, vi a8, vp 1 0, vi a9, Value.func (.func 162) #[] #[]] : List Value) = _ from (Zh rfl (Zh rfl (Zh rfl (Zh rfl (Zh rfl (Zh rfl (Zh rfl (Zh rfl (Zh rfl (Zh rfl (Zh rfl (Zh rfl (Zh rfl (Zh rfl (Zh rfl (Zh rfl (Zh (Z5 eqA rfl rfl) (Zh rfl (Zh rfl (Zh rfl (Zh rfl (Zh rfl (Zh rfl (Zh rfl (Zh rfl (Zh rfl (Zh rfl rfl))))))))))))))))))))))))))).symm)⟩, by rfl⟩ <| bM (.cells (κa a11 L12 a13 a14 a15 a16 a17 a18 a19) 132) <| bS (κb a20 L21 L22) <| bS (κd L23 L24) <| bS (κw a25 a26 a27) <| bM (κj a28 L29) <| bR <| bR <| bR <| bR <| bN <| bR <| bE)
         ·
          exact gxR Zz 10 (Zj (oq [8, 11, 13, 15, 17, 19, 21, 23, 28, 30, 37, 40, 45, 51, 54, 57, 59, 61, 63, 65, 71, 74]) [(0, ((o1 L1).a2 / 1048576)), (1, ((o1 L1).a2 % 1048576)), (2, ((o1 L1).a2 / 1048576)), (3, ((o1 L1).a2 % 1048576)), (4, ((o1 L1).a2 % 1048576))] [] [] [(2, (Zs c12 [2, 6, 7] 17).t), (6, .dv), (9, (Zs c15 [2, 6, 7] 21).t)]) (rg 0 10 (900000010 :: [10])) (κbc a9) (hF g17 <| kK (Zat c15 [2, 6, 7] 21) w15) (bM (.cells (Z1 Zf 1 [] ([((rq8 L1 (Int.tmod ((o1 L1).a2 % 1048576) (L23.length : Int))) : RO)] : List RO) [vs 10 (n31 * 2) n32 n32, vi a2, Value.bool b3, Value.bool b4, vi a5, vi a6, vi a7, vi a8, vp 1 0, vi a9, Value.func (.func 160) #[] #[]]) 141) <| bM (.cells (κa a11 L12 a13 a14 a15 a16 a17 a18 a19) 132) <| bS (κb a20 L21 L22) <| bS (κd L23 L24) <| bS (κw a25 a26 a27) <| bM (κj a28 L29) <| bR <| bR <| bR <| bR <| bN <| bQ <| bE)
        ·
         obtain rfl : y15_5 = false := by simpa using g16
         exact gxR Zz 10 (Zj (oq [8, 11, 13, 15, 17, 19, 21, 23, 28, 30, 37, 40, 45, 51, 54, 57, 59, 61, 63, 65, 71]) [(0, ((o1 L1).a2 / 1048576)), (1, ((o1 L1).a2 % 1048576)), (2, ((o1 L1).a2 / 1048576)), (3, ((o1 L1).a2 % 1048576)), (4, ((o1 L1).a2 % 1048576))] [] [] [(2, (Zs c12 [2, 6, 7] 17).t), (6, .dv), (9, (Zs c15 [2, 6, 7] 21).t)]) (rg 0 10 (900000010 :: [10])) (κbc a9) (kK (Zat c15 [2, 6, 7] 21) w15) (bM (.cells (Z1 Zf 1 [] ([((rq8 L1 (Int.tmod ((o1 L1).a2 % 1048576) (L23.length : Int))) : RO)] : List RO) [vs 10 (n31 * 2) n32 n32, vi a2, Value.bool b3, Value.bool b4, vi a5, vi a6, vi a7, vi a8, vp 1 0, vi a9, Value.func (.func 160) #[] #[]]) 141) <| bM (.cells (κa a11 L12 a13 a14 a15 a16 a17 a18 a19) 132) <| bS (κb a20 L21 L22) <| bS (κd L23 L24) <| bS (κw a25 a26 a27) <| bM (κj a28 L29) <| bR <| bR <| bR <| bR <| bN <| bQ <| bE)
     ·
      obtain rfl : y12_5 = false := by simpa using g13
      have w14 := kY (a11 > 0) <| kX (dP (i64 = i64 ∧ (L23.length : Int) ≠ 0)) true (Z2 ⟨rfl, by omega⟩) <| kM ((o1 L1).a2) 1048576 <| kY (((o1 L1).a2 % 1048576) ≤ 1048575) <| kY (((o1 L1).a2 % 1048576) ≥ 1) <| kY (((o1 L1).a2 / 1048576) ≤ 1073741824) <| kY (((o1 L1).a2 / 1048576) ≥ 1) <| kM ((o1 L1).a2) 1048576 <| kV ((o1 L1).a2) 1048576 <| kY ((o1 L1).a2 > 0) <| kE ((o1 L1).a1) 2 <| kY ((L23.length : Int) > 0) <| kY (a11 > 0) <| kK (Zat c12 [2, 6, 7] 17) w12
      refine ZaG (fun z14 c14 => ?_)
      cases z14 with
      | r0 y14_0 y14_1 y14_2 y14_3 y14_4 y14_5 =>
       refine Z6 (fun g15 => ?_) (fun g15 => ?_)
       ·
        subst g15
        refine Z6 (fun g16 => ?_) (fun g16 => ?_)
        ·
         refine Z6 (fun g17 => ?_) (fun _ => ZS)
         refine ZaG (fun z18 c18 => ?_)
         cases z18 with
         | r0 =>
          exact ZS
         | r1 y18_0 =>
          refine ZaG (fun z19 c19 => ?_)
          cases z19 with
          | r0 =>
           exact ZS
          | r1 y19_0 =>
           exact gxRw Zz 10 (Zj (oq [8, 11, 13, 15, 17, 19, 21, 23, 28, 30, 37, 43, 49, 52, 55, 57, 59, 61, 63, 69, 73, 75, 79]) [(0, ((o1 L1).a2 / 1048576)), (1, ((o1 L1).a2 % 1048576)), (2, ((o1 L1).a2 / 1048576)), (3, ((o1 L1).a2 % 1048576)), (4, ((o1 L1).a2 % 1048576))] [] [] [(2, (Zs c12 [2, 6, 7] 17).t), (6, .dv), (9, (Zs c14 [2, 6, 7] 21).t), (11, (Zbo c18 [2, 6, 7] 22).t), (12, (Zgx c19 [] 22).t)]) (rg 0 10 (900000010 :: [22])) (κbc a9) (H0 := [some (.cells (Z1 Zf 1 [] ([((rq8 L1 (Int.tmod ((o1 L1).a2 % 1048576) (L23.length : Int))) : RO)] : List RO) [vs 11 (0 * 2) y19_0.length y19_0.length, vi a2, Value.bool b3, Value.bool b4, vi a5, vi a6, vi a7, vi a8, vp 1 0, vi a9, Value.func (.func 162) #[] #[]]) 141), some (.cells (κa a11 L12 a13 a14 a15 a16 a17 a18 a19) 132), some (.cells (κb a20 L21 L22) 154), some (.cells (κd L23 L24) 191), some (.cells (κw a25 a26 a27) 208), some (κj a28 L29), some (.cells (Zb RC L21) 57), some (.cells (Zb RB L22) 42), some (.cells (Zb eI L23) 188), some (.cells (Zb eI L24) 188), none, some (.cells (Zb RB y19_0) 42)]) ⟨(.inl rfl), ⟨(.inl rfl), ⟨(.inl rfl), ⟨(.inl rfl), ⟨(.inl rfl), ⟨(.inl rfl), ⟨(.inl rfl), ⟨(.inl rfl), ⟨(.inl rfl), ⟨(.inl rfl), ⟨(.inl rfl), ⟨(Zvc (E := RB) (L := y19_0)), trivial⟩⟩⟩⟩⟩⟩⟩⟩⟩⟩⟩⟩ (kK (ZiT c19 [] 22) <| kK (Zdp c18 [2, 6, 7] 22) <| kY (a11 > 0) <| hT g17 <| hT g16 <| kK (Zat c14 [2, 6, 7] 21) w14) (bC (o := .cells (Z1 Zf 1 [] ([((rq8 L1 (Int.tmod ((o1 L1).a2 % 1048576) (L23.length : Int))) : RO)] : List RO) [vs 22 0 y19_0.length y19_0.length, vi a2, Value.bool b3, Value.bool b4, vi a5, vi a6, vi a7, vi a8, vp 1 0, vi a9, Value.func (.func 162) #[] #[]]) 141) ⟨rfl, ⟨[], (show ([vi (o1 L1).a0, vi (o1 L1).a1, vi (o1 L1).a2, vi (o1 L1).a3, vi (o1 L1).a4, vi (o1 L1).a5, vi (o1 L1).a6, vi (o1 L1).a7, vi (Int.tmod ((o1 L1).a2 % 1048576) (L23.length : Int)), vi (o1 L1).a9, vi (o1 L1).a10, vi (o1 L1).a11, vi (o1 L1).a12, vi (o1 L1).a13, vi (o1 L1).a14, vi (o1 L1).a15, vs 11 0 y19_0.length y19_0.length, vi a2, Value.bool b3, Value.bool b4, vi a5, vi a6, vi a7, vi a8, vp 1 0, vi a9, Value.func (.func 162) #[] #[]] : List Value) = _ from (Zh rfl (Zh rfl (Zh rfl (Zh rfl (Zh rfl (Zh rfl (Zh rfl (Zh rfl (Zh rfl (Zh rfl (Zh rfl (Zh rfl (Zh rfl (Zh rfl (Zh rfl (Zh rfl (Zh (Z5 eqA rfl rfl) (Zh rfl (Zh rfl (Zh rfl (Zh rfl (Zh rfl (Zh rfl (Zh rfl (Zh rfl (Zh rfl (Zh rfl rfl))))))))))))))))))))))))))).symm)⟩, by rfl⟩ <| bM (.cells (κa a11 L12 a13 a14 a15 a16 a17 a18 a19) 132) <| bS (κb a20 L21 L22) <| bS (κd L23 L24) <| bS (κw a25 a26 a27) <| bM (κj a28 L29) <| bR <| bR <| bR <| bR <| bN <| bR <| bE)
        ·
         exact gxR Zz 10 (Zj (oq [8, 11, 13, 15, 17, 19, 21, 23, 28, 30, 37, 43, 49, 52, 55, 57, 59, 61, 63, 69, 72]) [(0, ((o1 L1).a2 / 1048576)), (1, ((o1 L1).a2 % 1048576)), (2, ((o1 L1).a2 / 1048576)), (3, ((o1 L1).a2 % 1048576)), (4, ((o1 L1).a2 % 1048576))] [] [] [(2, (Zs c12 [2, 6, 7] 17).t), (6, .dv), (9, (Zs c14 [2, 6, 7] 21).t)]) (rg 0 10 (900000010 :: [10])) (κbc a9) (hF g16 <| kK (Zat c14 [2, 6, 7] 21) w14) (bM (.cells (Z1 Zf 1 [] ([((rq8 L1 (Int.tmod ((o1 L1).a2 % 1048576) (L23.length : Int))) : RO)] : List RO) [vs 10 (n31 * 2) n32 n32, vi a2, Value.bool b3, Value.bool b4, vi a5, vi a6, vi a7, vi a8, vp 1 0, vi a9, Value.func (.func 160) #[] #[]]) 141) <| bM (.cells (κa a11 L12 a13 a14 a15 a16 a17 a18 a19) 132) <| bS (κb a20 L21 L22) <| bS (κd L23 L24) <| bS (κw a25 a26 a27) <| bM (κj a28 L29) <| bR <| bR <| bR <| bR <| bN <| bQ <| bE)
       ·
        obtain rfl : y14_5 = false := by simpa using g15
        exact gxR Zz 10 (Zj (oq [8, 11, 13, 15, 17, 19, 21, 23, 28, 30, 37, 43, 49, 52, 55, 57, 59, 61, 63, 69]) [(0, ((o1 L1).a2 / 1048576)), (1, ((o1 L1).a2 % 1048576)), (2, ((o1 L1).a2 / 1048576)), (3, ((o1 L1).a2 % 1048576)), (4, ((o1 L1).a2 % 1048576))] [] [] [(2, (Zs c12 [2, 6, 7] 17).t), (6, .dv), (9, (Zs c14 [2, 6, 7] 21).t)]) (rg 0 10 (900000010 :: [10])) (κbc a9) (kK (Zat c14 [2, 6, 7] 21) w14) (bM (.cells (Z1 Zf 1 [] ([((rq8 L1 (Int.tmod ((o1 L1).a2 % 1048576) (L23.length : Int))) : RO)] : List RO) [vs 10 (n31 * 2) n32 n32, vi a2, Value.bool b3, Value.bool b4, vi a5, vi a6, vi a7, vi a8, vp 1 0, vi a9, Value.func (.func 160) #[] #[]]) 141) <| bM (.cells (κa a11 L12 a13 a14 a15 a16 a17 a18 a19) 132) <| bS (κb a20 L21 L22) <| bS (κd L23 L24) <| bS (κw a25 a26 a27) <| bM (κj a28 L29) <| bR <| bR <| bR <| bR <| bN <| bQ <| bE)
   ·
    exact gxR Zz 10 (Zj (oq [8, 11, 12, 17]) [] [] [] []) (rg 0 10 (900000010 :: [10])) (Value.tuple #[Value.agg #[vi 2, vi a9, vq, vq, vq, vq], vT]) (kZ (((o1 L1).a1 == 2) && (((o1 L1).a2 == 0) && true)) <| kE ((o1 L1).a2) 0 w9) (bM (.cells (Z1 Zf 1 [] L1 [vs 10 (n31 * 2) n32 n32, vi a2, Value.bool b3, vT, vi a0, vq, vq, vi 11, vp 1 0, vi a9, Value.nilFunc]) 141) <| bM (.cells (κa a11 L12 a13 a14 a15 a16 a17 a18 a19) 132) <| bS (κb a20 L21 L22) <| bS (κd L23 L24) <| bS (κw a25 a26 a27) <| bM (κj a28 L29) <| bR <| bR <| bR <| bR <| bN <| bQ <| bE)
  ·
   refine Z6 (fun g8 => ?_) (fun _ => ?_)
   ·
    subst g8
    refine Z6 (fun g9 => ?_) (fun g9 => ?_)
    ·
     refine Z6 (fun g10 => ?_) (fun _ => ZS)
     refine ZaG (fun z11 c11 => ?_)
     cases z11 with
     | r0 _ =>
      exact ZS
     | r1 =>
      exact gxR Zz 10 (Zj (oq [11]) [] [] [] [(0, (Zhx c11 [2, 6, 7] 13).t)]) (rg 0 10 (900000010 :: (13 :: (14 :: [10])))) (Value.tuple (κJ a9 L21)) (kKb (A := #[vp 2 0, vi (o1 L1).a6, vi (o1 L1).a7, vi a9]) (Zig (Zh rfl (Zh (congrArg (Value.int .i64) (by first | rfl | omega)) (Zh (congrArg (Value.int .i64) (by first | rfl | omega)) (Zh rfl rfl))))) (Zmu c11 [2, 6, 7] 13) <| kR (κb a20 L21 L22) <| kR (Zb RC L21) <| kR (Zb RB L22) <| kY (a11 > 0) Zk) (bM (κV L1 n31 n32 a2 b3 a0 L21 a9) <| bM (.cells (κa a11 L12 a13 a14 a15 a16 a17 a18 a19) 132) <| bU2 (ZG (vi a20) (vs 13 0 (L21.length + 2) (L21.length + 2)) (vs 14 0 (L22.length + 2) (L22.length + 2))) 1 (show (vs 11 0 (L21.length + 2) (L21.length + 2) : Value) = vs 11 0 ((L21 ++ (List.replicate 2 (⟨0, 0, 0, 0, 0⟩ : RJ))).set L21.length (⟨1, 1, 1, 1, a9⟩ : RJ)).length ((L21 ++ (List.replicate 2 (⟨0, 0, 0, 0, 0⟩ : RJ))).set L21.length (⟨1, 1, 1, 1, a9⟩ : RJ)).length from Z5 rfl eqA eqA) 2 (show (vs 12 0 (L22.length + 2) (L22.length + 2) : Value) = vs 12 0 ((L22 ++ (List.replicate 2 (⟨0, 0⟩ : RH))).set (L21.length + 1) (⟨2, 0⟩ : RH)).length ((L22 ++ (List.replicate 2 (⟨0, 0⟩ : RH))).set (L21.length + 1) (⟨2, 0⟩ : RH)).length from Z5 rfl eqA eqA) <| bS (κd L23 L24) <| bS (κw a25 a26 a27) <| bM (κj a28 L29) <| bN <| bN <| bR <| bR <| bN <| bR <| bR <| bQ <| bE)
    ·
     refine Z6 (fun g10 => ?_) (fun g10 => ?_)
     ·
      refine Z6 (fun g11 => ?_) (fun _ => ZS)
      refine ZaG (fun z12 c12 => ?_)
      cases z12 with
      | r0 _ =>
       exact ZS
      | r1 =>
       exact gxR Zz 10 (Zj (oq [11]) [] [] [] [(0, (Zg3 c12 [2, 6, 7] 13).t)]) (rg 0 10 (900000010 :: (13 :: (14 :: [10])))) (Value.tuple (κJ a9 L21)) (kKb (A := #[vp 2 0, vi (o1 L1).a6, vi (o1 L1).a7, vi a9]) (Zig (Zh rfl (Zh (congrArg (Value.int .i64) (by first | rfl | omega)) (Zh (congrArg (Value.int .i64) (by first | rfl | omega)) (Zh rfl rfl))))) (ZkX c12 [2, 6, 7] 13) <| kR (κb a20 L21 L22) <| kR (Zb RC L21) <| kR (Zb RB L22) <| kY (a11 > 0) Zk) (bM (κV L1 n31 n32 a2 b3 a0 L21 a9) <| bM (.cells (κa a11 L12 a13 a14 a15 a16 a17 a18 a19) 132) <| bU2 (ZG (vi a20) (vs 13 0 (L21.length + 3) (L21.length + 3)) (vs 14 0 (L22.length + 3) (L22.length + 3))) 1 (show (vs 11 0 (L21.length + 3) (L21.length + 3) : Value) = vs 11 0 ((L21 ++ (List.replicate 3 (⟨0, 0, 0, 0, 0⟩ : RJ))).set L21.length (⟨1, 2, 1, 1, a9⟩ : RJ)).length ((L21 ++ (List.replicate 3 (⟨0, 0, 0, 0, 0⟩ : RJ))).set L21.length (⟨1, 2, 1, 1, a9⟩ : RJ)).length from Z5 rfl eqA eqA) 2 (show (vs 12 0 (L22.length + 3) (L22.length + 3) : Value) = vs 12 0 (((L22 ++ (List.replicate 3 (⟨0, 0⟩ : RH))).set (L21.length + 1) (⟨2, 0⟩ : RH)).set (L21.length + 2) (⟨1, 0⟩ : RH)).length (((L22 ++ (List.replicate 3 (⟨0, 0⟩ : RH))).set (L21.length + 1) (⟨2, 0⟩ : RH)).set (L21.length + 2) (⟨1, 0⟩ : RH)).length from Z5 rfl eqA eqA) <| bS (κd L23 L24) <| bS (κw a25 a26 a27) <| bM (κj a28 L29) <| bN <| bN <| bR <| bR <| bN <| bR <| bR <| bQ <| bE)
     ·
      refine Z6 (fun g11 => ?_) (fun _ => ZS)
      refine Z6 (fun g12 => ?_) (fun _ => ZS)
      refine ZaG (fun z13 c13 => ?_)
      cases z13 with
      | r0 _ =>
       exact ZS
      | r1 =>
       exact gxR Zz 10 (Zj (oq [11]) [] [] [] [(0, (Zg5 c13 [2, 6, 7] 13).t)]) (rg 0 10 (900000010 :: (13 :: (14 :: [10])))) (Value.tuple (κJ a9 L21)) (kKb (A := #[vp 2 0, vi (o1 L1).a6, vi (o1 L1).a7, vi a9]) (Zig (Zh rfl (Zh (congrArg (Value.int .i64) (by first | rfl | omega)) (Zh (congrArg (Value.int .i64) (by first | rfl | omega)) (Zh rfl rfl))))) (ZkY c13 [2, 6, 7] 13) <| kR (κb a20 L21 L22) <| kR (Zb RC L21) <| kR (Zb RB L22) <| kY (a11 > 0) Zk) (bM (κV L1 n31 n32 a2 b3 a0 L21 a9) <| bM (.cells (κa a11 L12 a13 a14 a15 a16 a17 a18 a19) 132) <| bU2 (ZG (vi a20) (vs 13 0 (L21.length + 4) (L21.length + 4)) (vs 14 0 (L22.length + 4) (L22.length + 4))) 1 (show (vs 11 0 (L21.length + 4) (L21.length + 4) : Value) = vs 11 0 ((L21 ++ (List.replicate 4 (⟨0, 0, 0, 0, 0⟩ : RJ))).set L21.length (⟨1, 3, 1, 1, a9⟩ : RJ)).length ((L21 ++ (List.replicate 4 (⟨0, 0, 0, 0, 0⟩ : RJ))).set L21.length (⟨1, 3, 1, 1, a9⟩ : RJ)).length from Z5 rfl eqA eqA) 2 (show (vs 12 0 (L22.length + 4) (L22.length + 4) : Value) = vs 12 0 ((((L22 ++ (List.replicate 4 (⟨0, 0⟩ : RH))).set (L21.length + 1) (⟨2, 0⟩ : RH)).set (L21.length + 2) (⟨1, 0⟩ : RH)).set (L21.length + 3) (⟨1, 0⟩ : RH)).length ((((L22 ++ (List.replicate 4 (⟨0, 0⟩ : RH))).set (L21.length + 1) (⟨2, 0⟩ : RH)).set (L21.length + 2) (⟨1, 0⟩ : RH)).set (L21.length + 3) (⟨1, 0⟩ : RH)).length from Z5 rfl eqA eqA) <| bS (κd L23 L24) <| bS (κw a25 a26 a27) <| bM (κj a28 L29) <| bN <| bN <| bR <| bR <| bN <| bR <| bR <| bQ <| bE)
   ·
    refine Z6 (fun g8 => ?_) (fun _ => ?_)
    ·
     subst g8
     refine Z6 (fun g9 => ?_) (fun _ => ZS)
     refine Z6 (fun g10 => ?_) (fun _ => ZS)
     have w11 := kY (a11 > 0) <| kX (Zfa (ZO 2 (List.drop ((n31 * 2) + (0 * 2)) (Zb RB L30))) [.i (L30.getD n31 RH.z).a0, .i (L30.getD n31 RH.z).a1]) true (Zl9 (E := RB) (L := L30) (i := n31) (q := 0) (by omega) (show ((n31 * 2) + (0 * 2)) = n31 * 2 + 0 from by omega) (show 0 + 2 ≤ 2 from by decide) rfl rfl) <| kB 0 n32 <| kI 0 (Int.ofNat 0) Zk
     refine ZaG (fun z11 c11 => ?_)
     cases z11 with
     | r0 y11_0 y11_1 =>
      have w12 := kX (dP (1 ≤ n32 ∧ n32 ≤ n32)) true (Z2 ⟨ltA, ltA⟩) <| kR n32 <| kI 1 (Int.ofNat 1) <| kK (Zmv c11 [2, 6, 7] 14) w11
      refine Z6 (fun g12 => ?_) (fun g12 => ?_)
      ·
       exact gxR Zz 10 (Zj (oq [11, 15]) [] [(0, 0)] [(4, (RB.cel (L30.getD n31 RH.z)))] [(1, (Zfs c11 [2, 6, 7] 14).t), (2, .sl 1 n32)]) (rg 0 10 (900000010 :: [10])) (Value.tuple #[Value.agg #[vi 11, vi a9, vi (L30.getD n31 RH.z).a0, vi (L30.getD n31 RH.z).a1, vq, vq], vf]) (hT g12 w12) (bC (o := .cells (Z1 Zf 1 [] L1 [Value.slice (some ⟨10, ((n31 * 2) + (1 * 2)), none⟩) (n32 - 1) (n32 - 1), vi a2, Value.bool b3, Value.bool b4, vi a5, vi a6, vi a7, vi a8, vp 1 0, vi a9, Value.func (.func 160) #[] #[]]) 141) ⟨rfl, ⟨[], (show ([vi (o1 L1).a0, vi (o1 L1).a1, vi (o1 L1).a2, vi (o1 L1).a3, vi (o1 L1).a4, vi (o1 L1).a5, vi (o1 L1).a6, vi (o1 L1).a7, vi (o1 L1).a8, vi (o1 L1).a9, vi (o1 L1).a10, vi (o1 L1).a11, vi (o1 L1).a12, vi (o1 L1).a13, vi (o1 L1).a14, vi (o1 L1).a15, Value.slice (some ⟨11, ((n31 * 2) + (1 * 2)), none⟩) (n32 - 1) (n32 - 1), vi a2, Value.bool b3, Value.bool b4, vi a5, vi a6, vi a7, vi a8, vp 1 0, vi a9, Value.func (.func 160) #[] #[]] : List Value) = _ from (Zh rfl (Zh rfl (Zh rfl (Zh rfl (Zh rfl (Zh rfl (Zh rfl (Zh rfl (Zh rfl (Zh rfl (Zh rfl (Zh rfl (Zh rfl (Zh rfl (Zh rfl (Zh rfl (Zh (Z5 eqA rfl rfl) (Zh rfl (Zh rfl (Zh rfl (Zh rfl (Zh rfl (Zh rfl (Zh rfl (Zh rfl (Zh rfl (Zh rfl rfl))))))))))))))))))))))))))).symm)⟩, by rfl⟩ <| bM (.cells (κa a11 L12 a13 a14 a15 a16 a17 a18 a19) 132) <| bS (ZG (vi a20) (vs 6 0 y11_0.length y11_0.length) (vs 7 0 L22.length L22.length)) <| bS (κd L23 L24) <| bS (κw a25 a26 a27) <| bM (κj a28 L29) <| bR <| bR <| bR <| bR <| bN <| bQ <| bE)
      ·
       exact gxR Zz 10 (Zj (oq [11, 14]) [] [(0, 0)] [(4, (RB.cel (L30.getD n31 RH.z)))] [(1, (Zfs c11 [2, 6, 7] 14).t), (2, .sl 1 n32)]) (rg 0 10 (900000010 :: [10])) (Value.tuple #[Value.agg #[vi 11, vi a9, vi (L30.getD n31 RH.z).a0, vi (L30.getD n31 RH.z).a1, vq, vq], vf]) (hF g12 w12) (bC (o := .cells (Z1 Zf 1 [] L1 [Value.slice (some ⟨10, ((n31 * 2) + (1 * 2)), none⟩) (n32 - 1) (n32 - 1), vi a2, Value.bool b3, Value.bool b4, vi a5, vi a6, vi a7, vi a8, vp 1 0, vi a9, Value.func (.func 162) #[] #[]]) 141) ⟨rfl, ⟨[], (show ([vi (o1 L1).a0, vi (o1 L1).a1, vi (o1 L1).a2, vi (o1 L1).a3, vi (o1 L1).a4, vi (o1 L1).a5, vi (o1 L1).a6, vi (o1 L1).a7, vi (o1 L1).a8, vi (o1 L1).a9, vi (o1 L1).a10, vi (o1 L1).a11, vi (o1 L1).a12, vi (o1 L1).a13, vi (o1 L1).a14, vi (o1 L1).a15, Value.slice (some ⟨11, ((n31 * 2) + (1 * 2)), none⟩) (n32 - 1) (n32 - 1), vi a2, Value.bool b3, Value.bool b4, vi a5, vi a6, vi a7, vi a8, vp 1 0, vi a9, Value.func (.func 162) #[] #[]] : List Value) = _ from (Zh rfl (Zh rfl (Zh rfl (Zh rfl (Zh rfl (Zh rfl (Zh rfl (Zh rfl (Zh rfl (Zh rfl (Zh rfl (Zh rfl (Zh rfl (Zh rfl (Zh rfl (Zh rfl (Zh (Z5 eqA rfl rfl) (Zh rfl (Zh rfl (Zh rfl (Zh rfl (Zh rfl (Zh rfl (Zh rfl (Zh rfl (Zh rfl (Zh rfl rfl))))))))))))))))))))))))))).symm)⟩, by rfl⟩ <| bM (.cells (κa a11 L12 a13 a14 a15 a16 a17 a18 a19) 132) <| bS (ZG (vi a20) (vs 6 0 y11_0.length y11_0.length) (vs 7 0 L22.length L22.length)) <| bS (κd L23 L24) <| bS (κw a25 a26 a27) <| bM (κj a28 L29) <| bR <| bR <| bR <| bR <| bN <| bQ <| bE)
    ·
     refine Z6 (fun g8 => ?_) (fun _ => ?_)
     ·
      subst g8
      refine ZaG (fun z9 c9 => ?_)
      cases z9 with
      | r0 y9_0 y9_1 y9_2 =>
       refine Z6 (fun _ => ZS) (fun g10 => ?_)
       have w11 := kE y9_0 0 <| kK (ZeB c9 [3, 8, 9] 13) <| kY (a11 > 0) Zk
       refine Z6 (fun g11 => ?_) (fun g11 => ?_)
       ·
        exact gxR Zz 10 (Zj (oq [11, 14, 17]) [] [] [] [(0, (Zcr c9 [3, 8, 9] 13).t)]) (rg 0 10 (900000010 :: [10])) (Value.tuple #[Value.agg #[vi 3, vi a9, vq, vq, vq, vq], vf]) (hT g11 w11) (bM (.cells (Z1 Zf 1 [] ([((ZiH L1 y9_0 y9_1 y9_2) : RO)] : List RO) [vs 10 (n31 * 2) n32 n32, vi a2, Value.bool b3, Value.bool b4, vi a5, vi a6, vi a7, vi a8, vp 1 0, vi a9, Value.func (.func 182) #[] #[]]) 141) <| bM (.cells (κa a11 L12 a13 a14 a15 a16 a17 a18 a19) 132) <| bS (κb a20 L21 L22) <| bS (κd L23 L24) <| bS (κw a25 a26 a27) <| bM (κj a28 L29) <| bR <| bR <| bR <| bR <| bN <| bQ <| bE)
       ·
        exact gxR Zz 10 (Zj (oq [11, 14, 16]) [] [] [] [(0, (Zcr c9 [3, 8, 9] 13).t)]) (rg 0 10 (900000010 :: [10])) (Value.tuple #[Value.agg #[vi 3, vi a9, vq, vq, vq, vq], vf]) (hF g11 w11) (bM (.cells (Z1 Zf 1 [] ([((ZiH L1 y9_0 y9_1 y9_2) : RO)] : List RO) [vs 10 (n31 * 2) n32 n32, vi a2, Value.bool b3, Value.bool b4, vi a5, vi a6, vi a7, vi a8, vp 1 0, vi a9, Value.func (.func 181) #[] #[]]) 141) <| bM (.cells (κa a11 L12 a13 a14 a15 a16 a17 a18 a19) 132) <| bS (κb a20 L21 L22) <| bS (κd L23 L24) <| bS (κw a25 a26 a27) <| bM (κj a28 L29) <| bR <| bR <| bR <| bR <| bN <| bQ <| bE)
     ·
      refine Z6 (fun g8 => ?_) (fun _ => ?_)
      ·
       subst g8
       refine ZaG (fun z9 c9 => ?_)
       cases z9 with
       | r0 y9_0 y9_1 y9_2 y9_3 y9_4 y9_5 =>
        refine Z6 (fun g10 => ?_) (fun g10 => ?_)
        ·
         subst g10
         refine Z6 (fun _ => ZS) (fun g11 => ?_)
         refine ZaG (fun z12 c12 => ?_)
         cases z12 with
         | r0 y12_0 y12_1 y12_2 =>
          exact gxR Zz 10 (Zj (oq [11, 14, 19, 22]) [] [] [] [(0, (Zs c9 [2, 6, 7] 14).t), (2, (Z8 c12 [2, 6, 7] 15).t)]) (rg 0 10 (900000010 :: [10])) (Value.tuple #[Value.agg #[vi 4, vi a9, vi (o1 L1).a1, vi (o1 L1).a2, vi (o1 L1).a3, vq], vf]) (kF ((o1 L1).a0) 3 <| kK (Zau c12 [2, 6, 7] 15) <| kY (a11 > 0) <| hF g11 <| kK (Zat c9 [2, 6, 7] 14) <| kY (a11 > 0) Zk) (bM (.cells (Z1 Zf 1 [] ([((Zc6 L1 y12_0 y12_1 y12_2) : RO)] : List RO) [vs 10 (n31 * 2) n32 n32, vi a2, Value.bool b3, Value.bool b4, vi a0, vi a6, vi a7, vi a8, vp 1 0, vi a9, Value.func (.func 190) #[] #[]]) 141) <| bM (.cells (κa a11 L12 a13 a14 a15 a16 a17 a18 a19) 132) <| bS (κb a20 L21 L22) <| bS (κd L23 L24) <| bS (κw a25 a26 a27) <| bM (κj a28 L29) <| bR <| bR <| bR <| bR <| bN <| bQ <| bE)
        ·
         obtain rfl : y9_5 = false := by simpa using g10
         exact ZS
      ·
       refine Z6 (fun g8 => ?_) (fun _ => ?_)
       ·
        subst g8
        refine ZaG (fun z9 c9 => ?_)
        cases z9 with
        | r0 y9_0 y9_1 y9_2 =>
         refine Z6 (fun _ => ZS) (fun g10 => ?_)
         have w11 := kX ((!((y9_0 == (o1 L1).a9) && ((y9_1 == (o1 L1).a10) && ((y9_2 == (o1 L1).a11) && true))))) false (by rw [Bool.not_eq_false']; first | (simp only [beq_self_eq_true, Bool.and_self]; done) | (simp only [Bool.and_true, Bool.and_eq_true, beq_iff_eq] <;> first | omega | (simp_all; done) | grind)) <| kK (ZeB c9 [3, 8, 9] 13) <| kY (a11 > 0) Zk
         refine Z6 (fun g11 => ?_) (fun g11 => ?_)
         ·
          exact gxR Zz 10 (Zj (oq [11, 14, 17]) [] [] [] [(0, (Zcr c9 [3, 8, 9] 13).t)]) (rg 0 10 (900000010 :: [10])) (Value.tuple #[Value.agg #[vi 3, vi a9, vq, vq, vq, vq], vT]) (hD g11 w11) (bM (.cells (Z1 Zf 1 [] L1 [vs 10 (n31 * 2) n32 n32, vi a2, Value.bool b3, vT, vi a5, vq, vq, vi (o1 L1).a14, vp 1 0, vi a9, Value.nilFunc]) 141) <| bM (.cells (κa a11 L12 a13 a14 a15 a16 a17 a18 a19) 132) <| bS (κb a20 L21 L22) <| bS (κd L23 L24) <| bS (κw a25 a26 a27) <| bM (κj a28 L29) <| bR <| bR <| bR <| bR <| bN <| bQ <| bE)
         ·
          exact gxR Zz 10 (Zj (oq [11, 14, 16]) [] [] [] [(0, (Zcr c9 [3, 8, 9] 13).t)]) (rg 0 10 (900000010 :: [10])) (Value.tuple #[Value.agg #[vi 3, vi a9, vq, vq, vq, vq], vT]) (kE ((o1 L1).a14) 0 w11) (bM (.cells (Z1 Zf 1 [] L1 [vs 10 (n31 * 2) n32 n32, vi a2, Value.bool b3, vT, vi a5, vi (o1 L1).a12, vi (o1 L1).a13, vi (o1 L1).a14, vp 1 0, vi a9, Value.nilFunc]) 141) <| bM (.cells (κa a11 L12 a13 a14 a15 a16 a17 a18 a19) 132) <| bS (κb a20 L21 L22) <| bS (κd L23 L24) <| bS (κw a25 a26 a27) <| bM (κj a28 L29) <| bR <| bR <| bR <| bR <| bN <| bQ <| bE)
       ·
        refine Z6 (fun g8 => ?_) (fun _ => ?_)
        ·
         subst g8
         refine ZaG (fun z9 c9 => ?_)
         cases z9 with
         | r0 y9_0 y9_1 y9_2 =>
          refine Z6 (fun g10 => ?_) (fun g10 => ?_)
          ·
           subst g10
           exact gxR Zz 10 (Zj (oq [11]) [] [] [] [(1, (Zh0 c9 [3, 8, 9] 13).t)]) (rg 0 10 (900000010 :: [10])) (Value.tuple #[Value.agg #[vi 6, vi a9, vq, vq, vq, vq], vf]) (kK (Zmw c9 [3, 8, 9] 13) <| kY (a11 > 0) Zk) (bM (.cells (Z1 Zf 1 [] L1 [vs 10 (n31 * 2) n32 n32, vi a2, Value.bool b3, Value.bool b4, vi a5, vi a6, vi a7, vi a8, vp 1 0, vi a9, Value.func (.func 191) #[] #[]]) 141) <| bM (.cells (κa a11 L12 a13 a14 a15 a16 a17 a18 a19) 132) <| bS (κb a20 L21 L22) <| bS [vs 8 0 y9_0.length y9_0.length, vs 9 0 y9_1.length y9_1.length] <| bS (κw a25 a26 a27) <| bM (κj a28 L29) <| bR <| bR <| bR <| bR <| bN <| bQ <| bE)
          ·
           obtain rfl : y9_2 = false := by simpa using g10
           exact ZS
        ·
         refine Z6 (fun g8 => ?_) (fun _ => ?_)
         ·
          subst g8
          refine ZaG (fun z9 c9 => ?_)
          cases z9 with
          | r0 y9_0 y9_1 y9_2 y9_3 y9_4 y9_5 =>
           refine Z6 (fun g10 => ?_) (fun g10 => ?_)
           ·
            subst g10
            have w11 := kK (Zat c9 [2, 6, 7] 14) <| kY (a11 > 0) Zk
            refine Z6 (fun _ => ZS) (fun g11 => ?_)
            refine ZaG (fun z12 c12 => ?_)
            cases z12 with
            | r0 y12_0 y12_1 y12_2 =>
             have w13 := kK (Zau c12 [2, 6, 7] 15) <| kY (a11 > 0) <| hF g11 w11
             refine Z6 (fun g13 => ?_) (fun g13 => ?_)
             ·
              have w14 := kY (a25 > 0) <| kY (a25 > 0) <| kY (a11 > 0) <| hT g13 w13
              refine Z6 (fun g14 => ?_) (fun g14 => ?_)
              ·
               exact gxR Zz 10 (Zj (oq [11, 14, 19, 23, 27, 33, 39, 43]) [] [] [] [(0, (Zs c9 [2, 6, 7] 14).t), (2, (Z8 c12 [2, 6, 7] 15).t)]) (rg 0 10 (900000010 :: [10])) (Value.tuple #[Value.agg #[vi 5, vi a9, vi (o1 L1).a1, vi (o1 L1).a2, vi (o1 L1).a3, vq], vf]) (hT g14 w14) (bM (.cells (Z1 Zf 1 [] ([((Zc6 L1 y12_0 y12_1 40) : RO)] : List RO) [vs 10 (n31 * 2) n32 n32, vi (o1 L1).a10, vf, vT, vi a0, vq, vq, vi 40, vp 1 0, vi a9, Value.func (.func 196) #[] #[]]) 141) <| bM (.cells (κa a11 L12 a13 a14 a15 a16 a17 a18 a19) 132) <| bS (κb a20 L21 L22) <| bS (κd L23 L24) <| bS (κw a25 a26 a27) <| bM (κj a28 L29) <| bR <| bR <| bR <| bR <| bN <| bQ <| bE)
              ·
               refine ZaG (fun z15 c15 => ?_)
               cases z15 with
               | r0 y15_0 y15_1 =>
                have w16 := kK (Zhv c15 [2, 6, 7] 15) <| kY (a11 > 0) <| hT g13 <| hF g14 w14
                refine Z6 (fun g16 => ?_) (fun g16 => ?_)
                ·
                 exact gxR Zz 10 (Zj (oq [11, 14, 19, 23, 27, 33, 39, 42, 45, 49, 53]) [] [] [] [(0, (Zs c9 [2, 6, 7] 14).t), (2, (Z8 c12 [2, 6, 7] 15).t), (7, (ZcL c15 [2, 6, 7] 15).t)]) (rg 0 10 (900000010 :: [10])) (Value.tuple #[Value.agg #[vi 5, vi a9, vi (o1 L1).a1, vi (o1 L1).a2, vi (o1 L1).a3, vq], vf]) (hT g16 w16) (bM (.cells (Z1 Zf 1 [] ([((Zc6 L1 y12_0 y12_1 y15_1) : RO)] : List RO) [vs 10 (n31 * 2) n32 n32, vi a2, vT, Value.bool b4, vi a5, vi a6, vi a7, vi a8, vp 1 0, vi a9, Value.func (.func 195) #[] #[]]) 141) <| bM (.cells (κa a11 L12 a13 a14 a15 a16 a17 a18 a19) 132) <| bS (ZG (vi a20) (vs 6 0 L21.length L21.length) (vs 7 0 y15_0.length y15_0.length)) <| bS (κd L23 L24) <| bS (κw a25 a26 a27) <| bM (κj a28 L29) <| bR <| bR <| bR <| bR <| bN <| bQ <| bE)
                ·
                 exact gxR Zz 10 (Zj (oq [11, 14, 19, 23, 27, 33, 39, 42, 45, 49, 52, 59]) [] [] [] [(0, (Zs c9 [2, 6, 7] 14).t), (2, (Z8 c12 [2, 6, 7] 15).t), (7, (ZcL c15 [2, 6, 7] 15).t)]) (rg 0 10 (900000010 :: [10])) (Value.tuple #[Value.agg #[vi 5, vi a9, vi (o1 L1).a1, vi (o1 L1).a2, vi (o1 L1).a3, vq], vf]) (hD g16 <| hF g16 w16) (bM (.cells (Z1 Zf 1 [] ([((Zc6 L1 y12_0 y12_1 y15_1) : RO)] : List RO) [vs 10 (n31 * 2) n32 n32, vi (o1 L1).a10, vf, vT, vi a0, vq, vq, vi y15_1, vp 1 0, vi a9, Value.func (.func 196) #[] #[]]) 141) <| bM (.cells (κa a11 L12 a13 a14 a15 a16 a17 a18 a19) 132) <| bS (ZG (vi a20) (vs 6 0 L21.length L21.length) (vs 7 0 y15_0.length y15_0.length)) <| bS (κd L23 L24) <| bS (κw a25 a26 a27) <| bM (κj a28 L29) <| bR <| bR <| bR <| bR <| bN <| bQ <| bE)
             ·
              exact gxR Zz 10 (Zj (oq [11, 14, 19, 22, 24, 26, 33]) [] [] [] [(0, (Zs c9 [2, 6, 7] 14).t), (2, (Z8 c12 [2, 6, 7] 15).t)]) (rg 0 10 (900000010 :: [10])) (Value.tuple #[Value.agg #[vi 5, vi a9, vi (o1 L1).a1, vi (o1 L1).a2, vi (o1 L1).a3, vq], vf]) (hD g13 <| hF g13 <| hF g13 <| hF g13 w13) (bM (.cells (Z1 Zf 1 [] ([((Zc6 L1 y12_0 y12_1 y12_2) : RO)] : List RO) [vs 10 (n31 * 2) n32 n32, vi (o1 L1).a10, vf, vT, vi a0, vq, vq, vi y12_2, vp 1 0, vi a9, Value.func (.func 196) #[] #[]]) 141) <| bM (.cells (κa a11 L12 a13 a14 a15 a16 a17 a18 a19) 132) <| bS (κb a20 L21 L22) <| bS (κd L23 L24) <| bS (κw a25 a26 a27) <| bM (κj a28 L29) <| bR <| bR <| bR <| bR <| bN <| bQ <| bE)
           ·
            obtain rfl : y9_5 = false := by simpa using g10
            exact ZS
         ·
          refine Z6 (fun g8 => ?_) (fun _ => ?_)
          ·
           subst g8
           exact gxR Zz 10 (Zj (oq [11, 17]) [] [] [] []) (rg 0 10 (900000010 :: [10])) (Value.tuple #[Value.agg #[vi 8, vi a9, vq, vq, vq, vq], vf]) (kY (a25 > 0) <| kY (a11 > 0) Zk) (bM (.cells (Z1 Zf 1 [] L1 [vs 10 (n31 * 2) n32 n32, vi (i64.wrap (a26 + 1)), Value.bool b3, vT, vi a0, vq, vq, vq, vp 1 0, vi a9, Value.func (.func 196) #[] #[]]) 141) <| bM (.cells (κa a11 L12 a13 a14 a15 a16 a17 a18 a19) 132) <| bS (κb a20 L21 L22) <| bS (κd L23 L24) <| bS [vi a25, vi (i64.wrap (a26 + 1)), vi a27] <| bM (κj a28 L29) <| bR <| bR <| bR <| bR <| bN <| bQ <| bE)
          ·
           refine Z6 (fun g8 => ?_) (fun _ => ZS)
           ·
            subst g8
            refine ZaG (fun z9 c9 => ?_)
            cases z9 with
            | r0 y9_0 y9_1 =>
             exact gxR Zz 10 (Zj (oq [11]) [] [] [] [(0, (Zi0 c9 [3, 8, 9] 13).t)]) (rg 0 10 (900000010 :: [10])) (Value.tuple #[Value.agg #[vi 7, vi a9, vq, vq, vq, vq], vT]) (kK (Zni c9 [3, 8, 9] 13) <| kY (a11 > 0) Zk) (bM (.cells (Z1 Zf 1 [] L1 [vs 10 (n31 * 2) n32 n32, vi a2, Value.bool b3, Value.bool b4, vi a5, vi a6, vi a7, vi a8, vp 1 0, vi a9, Value.nilFunc]) 141) <| bM (.cells (κa a11 L12 a13 a14 a15 a16 a17 a18 a19) 132) <| bS (κb a20 L21 L22) <| bS [vs 8 0 y9_0.length y9_0.length, vs 9 0 L24.length L24.length] <| bS (κw a25 a26 a27) <| bM (κj a28 L29) <| bR <| bR <| bR <| bR <| bN <| bQ <| bE)

theorem Zf8 (a0 : Int) (L1 : List RO) (a2 : Int) (b3 b4 : Bool) (a5 a6 a7 a8 a9 a10 a11 : Int) (L12 : List RG) (a13 a14 a15 a16 a17 a18 a19 a20 : Int) (L21 : List RJ) (L22 : List RH) (L23 L24 : List Int) (a25 a26 a27 a28 : Int) (L29 : List Int) (L30 : List RH) (n31 n32 N : Nat) (r : plain_Access_StepR) (h : Zn a0 L1 a2 b3 b4 a5 a6 a7 a8 a9 a10 a11 L12 a13 a14 a15 a16 a17 a18 a19 a20 L21 L22 L23 L24 a25 a26 a27 a28 L29 L30 n31 n32 N = some r) : LSpec Tryz.prog 20 #[vp 0 0, vi a0] [.cells (κS L1 n31 n32 a2 b3 b4 a5 a6 a7 a8 a9 a10) 141, .cells (κa a11 L12 a13 a14 a15 a16 a17 a18 a19) 132, .cells (κb a20 L21 L22) 154, .cells (κd L23 L24) 191, .cells (κw a25 a26 a27) 208, .cells (Z1 eI 64 [vi a28] L29 []) 211, .cells (Zb RC L21) 57, .cells (Zb RB L22) 42, .cells (Zb eI L23) 188, .cells (Zb eI L24) 188, .cells (Zb RB L30) 42 true] (Zhf a0 L1 a2 b3 b4 a5 a6 a7 a8 a9 a10 a11 L12 a13 a14 a15 a16 a17 a18 a19 a20 L21 L22 L23 L24 a25 a26 a27 a28 L29 L30 n31 n32 r) (Zg6 a0 L1 a2 b3 b4 a5 a6 a7 a8 a9 a10 a11 L12 a13 a14 a15 a16 a17 a18 a19 a20 L21 L22 L23 L24 a25 a26 a27 a28 L29 L30 n31 n32 r) :=
 Zk8 a0 L1 a2 b3 b4 a5 a6 a7 a8 a9 a10 a11 L12 a13 a14 a15 a16 a17 a18 a19 a20 L21 L22 L23 L24 a25 a26 a27 a28 L29 L30 n31 n32 N r h

noncomputable abbrev κv (ks : List Nat) (L1 : List RO) (n31 n32 : Nat) (a2 : Int) (b3 b4 : Bool) (a5 a6 a7 a8 a9 a10 a11 : Int) (L12 : List RG) (a13 a14 a15 a16 a17 a18 a19 a20 : Int) (L21 : List RJ) (L22 : List RH) (L23 L24 : List Int) (a25 a26 a27 a28 : Int) (L29 : List Int) (L30 : List RH) := [((nth ks 0), AObj.cells (Z1 Zf 1 [] L1 [vs (nth ks 10) (n31 * 2) n32 n32, vi a2, Value.bool b3, Value.bool b4, vi a5, vi a6, vi a7, vi a8, vp (nth ks 1) 0, vi a9, (fnV a10)]) 141), ((nth ks 1), AObj.cells (Z1 Zh9 64 [vi a11] L12 [vi a13, vi a14, vi a15, vi a16, vi a17, vi a18, vi a19, vp (nth ks 2) 0, vp (nth ks 3) 0, vp (nth ks 4) 0, vp (nth ks 5) 0]) 132), ((nth ks 2), AObj.cells (ZG (vi a20) (vs (nth ks 6) 0 L21.length L21.length) (vs (nth ks 7) 0 L22.length L22.length)) 154), ((nth ks 3), AObj.cells [vs (nth ks 8) 0 L23.length L23.length, vs (nth ks 9) 0 L24.length L24.length] 191), ((nth ks 4), AObj.cells (κw a25 a26 a27) 208), ((nth ks 5), AObj.cells (Z1 eI 64 [vi a28] L29 []) 211), ((nth ks 6), AObj.cells (Zb RC L21) 57), ((nth ks 7), AObj.cells (Zb RB L22) 42), ((nth ks 8), AObj.cells (Zb eI L23) 188), ((nth ks 9), AObj.cells (Zb eI L24) 188), ((nth ks 10), AObj.cells (Zb RB L30) 42 true)]
noncomputable def Ze5 {a0 : Int} {L1 : List RO} {a2 : Int} {b3 b4 : Bool} {a5 a6 a7 a8 a9 a10 a11 : Int} {L12 : List RG} {a13 a14 a15 a16 a17 a18 a19 a20 : Int} {L21 : List RJ} {L22 : List RH} {L23 L24 : List Int} {a25 a26 a27 a28 : Int} {L29 : List Int} {L30 : List RH} {n31 n32 : Nat} {w0 : List RJ} {w1 : List RH} {w2 w3 : List Int} {w4 w5 w6 w7 w8 : Int} {w10 : Bool} {w11 : List RO} {w12 : Int} {w13 w14 : Bool} {w15 w16 w17 w18 w20 w32 : Int} {w36 : List RH} {w37 w38 N : Nat} (h : Zn a0 L1 a2 b3 b4 a5 a6 a7 a8 a9 a10 a11 L12 a13 a14 a15 a16 a17 a18 a19 a20 L21 L22 L23 L24 a25 a26 a27 a28 L29 L30 n31 n32 N = some (.r0 w0 w1 w2 w3 w4 w5 w6 w7 w8 w10 w11 w12 w13 w14 w15 w16 w17 w18 w20 w32 w36 w37 w38)) (ks : List Nat) (n : Nat) : ToldS := ⟨#[vp (nth ks 0) 0, vi a0], (κv ks L1 n31 n32 a2 b3 b4 a5 a6 a7 a8 a9 a10 a11 L12 a13 a14 a15 a16 a17 a18 a19 a20 L21 L22 L23 L24 a25 a26 a27 a28 L29 L30), Value.tuple #[Value.agg #[vi w4, vi w5, vi w6, vi w7, vi w8, vq], Value.bool w10], [((nth ks 0), some (.cells (Z1 Zf 1 [] w11 [vs n (w37 * 2) w38 w38, vi w12, Value.bool w13, Value.bool w14, vi w15, vi w16, vi w17, vi w18, vp (nth ks 1) 0, vi a9, (fnV w20)]) 141)), ((nth ks 2), some (.cells (ZG (vi a20) (vs (nth ks 6) 0 w0.length w0.length) (vs (nth ks 7) 0 w1.length w1.length)) 154)), ((nth ks 3), some (.cells [vs (nth ks 8) 0 w2.length w2.length, vs (nth ks 9) 0 w3.length w3.length] 191)), ((nth ks 4), some (.cells [vi a25, vi w32, vi a27] 208)), ((nth ks 6), some (.cells (Zb RC w0) 57)), ((nth ks 7), some (.cells (Zb RB w1) 42)), ((nth ks 8), some (.cells (Zb eI w2) 188)), ((nth ks 9), some (.cells (Zb eI w3) 188)), ((nth ks 10), none), (n, some (.cells (Zb RB w36) 42 true))], 1⟩

theorem Zg7 {a0 : Int} {L1 : List RO} {a2 : Int} {b3 b4 : Bool} {a5 a6 a7 a8 a9 a10 a11 : Int} {L12 : List RG} {a13 a14 a15 a16 a17 a18 a19 a20 : Int} {L21 : List RJ} {L22 : List RH} {L23 L24 : List Int} {a25 a26 a27 a28 : Int} {L29 : List Int} {L30 : List RH} {n31 n32 : Nat} {w0 : List RJ} {w1 : List RH} {w2 w3 : List Int} {w4 w5 w6 w7 w8 : Int} {w10 : Bool} {w11 : List RO} {w12 : Int} {w13 w14 : Bool} {w15 w16 w17 w18 w20 w32 : Int} {w36 : List RH} {w37 w38 N : Nat} (h : Zn a0 L1 a2 b3 b4 a5 a6 a7 a8 a9 a10 a11 L12 a13 a14 a15 a16 a17 a18 a19 a20 L21 L22 L23 L24 a25 a26 a27 a28 L29 L30 n31 n32 N = some (.r0 w0 w1 w2 w3 w4 w5 w6 w7 w8 w10 w11 w12 w13 w14 w15 w16 w17 w18 w20 w32 w36 w37 w38)) (ks : List Nat) (n : Nat) (hk : ks.length = 11 := by rfl) (hnd : ks.Nodup := by decide +kernel) (hlt : ∀ k ∈ ks, k < n := by decide +kernel) : (Ze5 (N := N)  h ks n).P Tryz.prog 20 n :=
 match ks, hk, hnd, hlt with
 | [k0, k1, k2, k3, k4, k5, k6, k7, k8, k9, k10], _, hnd, hlt => ZlC (show LSpec Tryz.prog 20 #[vp 0 0, vi a0] [.cells (κS L1 n31 n32 a2 b3 b4 a5 a6 a7 a8 a9 a10) 141, .cells (κa a11 L12 a13 a14 a15 a16 a17 a18 a19) 132, .cells (κb a20 L21 L22) 154, .cells (κd L23 L24) 191, .cells (κw a25 a26 a27) 208, .cells (Z1 eI 64 [vi a28] L29 []) 211, .cells (Zb RC L21) 57, .cells (Zb RB L22) 42, .cells (Zb eI L23) 188, .cells (Zb eI L24) 188, .cells (Zb RB L30) 42 true] (Value.tuple #[Value.agg #[vi w4, vi w5, vi w6, vi w7, vi w8, vq], Value.bool w10]) [some (.cells (Z1 Zf 1 [] w11 [vs 11 (w37 * 2) w38 w38, vi w12, Value.bool w13, Value.bool w14, vi w15, vi w16, vi w17, vi w18, vp 1 0, vi a9, (fnV w20)]) 141), some (.cells (κa a11 L12 a13 a14 a15 a16 a17 a18 a19) 132), some (.cells (ZG (vi a20) (vs 6 0 w0.length w0.length) (vs 7 0 w1.length w1.length)) 154), some (.cells [vs 8 0 w2.length w2.length, vs 9 0 w3.length w3.length] 191), some (.cells [vi a25, vi w32, vi a27] 208), some (κj a28 L29), some (.cells (Zb RC w0) 57), some (.cells (Zb RB w1) 42), some (.cells (Zb eI w2) 188), some (.cells (Zb eI w3) 188), none, some (.cells (Zb RB w36) 42 true)] from Zf8 a0 L1 a2 b3 b4 a5 a6 a7 a8 a9 a10 a11 L12 a13 a14 a15 a16 a17 a18 a19 a20 L21 L22 L23 L24 a25 a26 a27 a28 L29 L30 n31 n32 N _ h) _ n (0 :: (2 :: (3 :: (4 :: (rg 6 6 []))))) hnd hlt

noncomputable def Zg8 {a0 : Int} {L1 : List RO} {a2 : Int} {b3 b4 : Bool} {a5 a6 a7 a8 a9 a10 a11 : Int} {L12 : List RG} {a13 a14 a15 a16 a17 a18 a19 a20 : Int} {L21 : List RJ} {L22 : List RH} {L23 L24 : List Int} {a25 a26 a27 a28 : Int} {L29 : List Int} {L30 : List RH} {n31 n32 : Nat} {w29 : List RJ} {w30 : List RH} {N : Nat} (h : Zn a0 L1 a2 b3 b4 a5 a6 a7 a8 a9 a10 a11 L12 a13 a14 a15 a16 a17 a18 a19 a20 L21 L22 L23 L24 a25 a26 a27 a28 L29 L30 n31 n32 N = some (.r1 w29 w30)) (ks : List Nat) (n : Nat) : ToldS := ⟨#[vp (nth ks 0) 0, vi a0], (κv ks L1 n31 n32 a2 b3 b4 a5 a6 a7 a8 a9 a10 a11 L12 a13 a14 a15 a16 a17 a18 a19 a20 L21 L22 L23 L24 a25 a26 a27 a28 L29 L30), Value.tuple (κJ a9 L21), [((nth ks 0), some (.cells (Z1 Zf 1 [] L1 [vs (n + 2) (n31 * 2) n32 n32, vi a2, Value.bool b3, vT, vi a0, vi 2, vi (((1 : Int) * 1048576) + (((L21.length + 1) : Nat) : Int)), vq, vp (nth ks 1) 0, vi a9, Value.nilFunc]) 141)), ((nth ks 2), some (.cells (ZG (vi a20) (vs n 0 w29.length w29.length) (vs (n + 1) 0 w30.length w30.length)) 154)), ((nth ks 6), none), ((nth ks 7), none), ((nth ks 10), none), (n, some (.cells (Zb RC w29) 57)), ((n + 1), some (.cells (Zb RB w30) 42)), ((n + 2), some (.cells (Zb RB L30) 42 true))], 3⟩

theorem Zla {a0 : Int} {L1 : List RO} {a2 : Int} {b3 b4 : Bool} {a5 a6 a7 a8 a9 a10 a11 : Int} {L12 : List RG} {a13 a14 a15 a16 a17 a18 a19 a20 : Int} {L21 : List RJ} {L22 : List RH} {L23 L24 : List Int} {a25 a26 a27 a28 : Int} {L29 : List Int} {L30 : List RH} {n31 n32 : Nat} {w29 : List RJ} {w30 : List RH} {N : Nat} (h : Zn a0 L1 a2 b3 b4 a5 a6 a7 a8 a9 a10 a11 L12 a13 a14 a15 a16 a17 a18 a19 a20 L21 L22 L23 L24 a25 a26 a27 a28 L29 L30 n31 n32 N = some (.r1 w29 w30)) (ks : List Nat) (n : Nat) (hk : ks.length = 11 := by rfl) (hnd : ks.Nodup := by decide +kernel) (hlt : ∀ k ∈ ks, k < n := by decide +kernel) : (Zg8 (N := N)  h ks n).P Tryz.prog 20 n :=
 match ks, hk, hnd, hlt with
 | [k0, k1, k2, k3, k4, k5, k6, k7, k8, k9, k10], _, hnd, hlt => ZlC (show LSpec Tryz.prog 20 #[vp 0 0, vi a0] [.cells (κS L1 n31 n32 a2 b3 b4 a5 a6 a7 a8 a9 a10) 141, .cells (κa a11 L12 a13 a14 a15 a16 a17 a18 a19) 132, .cells (κb a20 L21 L22) 154, .cells (κd L23 L24) 191, .cells (κw a25 a26 a27) 208, .cells (Z1 eI 64 [vi a28] L29 []) 211, .cells (Zb RC L21) 57, .cells (Zb RB L22) 42, .cells (Zb eI L23) 188, .cells (Zb eI L24) 188, .cells (Zb RB L30) 42 true] (Value.tuple (κJ a9 L21)) [some (.cells (Z1 Zf 1 [] L1 [vs 13 (n31 * 2) n32 n32, vi a2, Value.bool b3, vT, vi a0, vi 2, vi (((1 : Int) * 1048576) + (((L21.length + 1) : Nat) : Int)), vq, vp 1 0, vi a9, Value.nilFunc]) 141), some (.cells (κa a11 L12 a13 a14 a15 a16 a17 a18 a19) 132), some (.cells (ZG (vi a20) (vs 11 0 w29.length w29.length) (vs 12 0 w30.length w30.length)) 154), some (.cells (κd L23 L24) 191), some (.cells (κw a25 a26 a27) 208), some (κj a28 L29), none, none, some (.cells (Zb eI L23) 188), some (.cells (Zb eI L24) 188), none, some (.cells (Zb RC w29) 57), some (.cells (Zb RB w30) 42), some (.cells (Zb RB L30) 42 true)] from Zf8 a0 L1 a2 b3 b4 a5 a6 a7 a8 a9 a10 a11 L12 a13 a14 a15 a16 a17 a18 a19 a20 L21 L22 L23 L24 a25 a26 a27 a28 L29 L30 n31 n32 N _ h) _ n (0 :: (2 :: (6 :: (7 :: (rg 10 4 []))))) hnd hlt

end Ev
end Go.Proofs.YtiijipocjellpaaGreat
namespace Go.Proofs.YtiijipocjellpaaGreat
open Go.RowKit
namespace Ev
set_option linter.unusedVariables false
set_option maxRecDepth 100000
set_option maxHeartbeats 4000000
noncomputable def ZnR (a0 a1 : Int) (L2 : List RO) (a3 : Int) (b4 b5 : Bool) (a6 a7 a8 a9 a10 a11 a12 : Int) (L13 : List RG) (a14 a15 a16 a17 a18 a19 a20 a21 : Int) (L22 : List RJ) (L23 : List RH) (L24 L25 : List Int) (a26 a27 a28 a29 : Int) (L30 : List Int) : Zcq → Value
 | .r0 w0 w1 w2 w3 w4 w5 w6 w7 w8 w9 w10 w11 w12 w13 w15 w27 w31 w32 w33 => Value.tuple #[vi w4, Value.bool w5]
 | .r1 w0 w1 w2 w4 w5 w6 w8 w10 w24 w25 w27 w31 w32 w33 => Value.tuple #[vi w2, vT]
noncomputable abbrev κP (a29 : Int) (L30 : List Int) := (Z1 eI 64 [vi a29] L30 [])
noncomputable abbrev κh (a12 : Int) (L13 : List RG) (a14 a15 a16 a17 a18 a19 a20 : Int) := (Z1 Zh9 64 [vi a12] L13 [vi a14, vi a15, vi a16, vi a17, vi a18, vi a19, vi a20, vp 2 0, vp 3 0, vp 4 0, vp 5 0])
noncomputable def ZmC (a0 a1 : Int) (L2 : List RO) (a3 : Int) (b4 b5 : Bool) (a6 a7 a8 a9 a10 a11 a12 : Int) (L13 : List RG) (a14 a15 a16 a17 a18 a19 a20 a21 : Int) (L22 : List RJ) (L23 : List RH) (L24 L25 : List Int) (a26 a27 a28 a29 : Int) (L30 : List Int) : Zcq → List (Option AObj)
 | .r0 w0 w1 w2 w3 w4 w5 w6 w7 w8 w9 w10 w11 w12 w13 w15 w27 w31 w32 w33 => [some (.cells (Z1 Zf 1 [] w6 [vs 10 (w32 * 2) w33 w33, vi w7, Value.bool w8, Value.bool w9, vi w10, vi w11, vi w12, vi w13, vp 1 0, vi a10, (fnV w15)]) 141), some (.cells (κh a12 L13 a14 a15 a16 a17 a18 a19 a20) 132), some (.cells (ZG (vi a21) (vs 6 0 w0.length w0.length) (vs 7 0 w1.length w1.length)) 154), some (.cells [vs 8 0 w2.length w2.length, vs 9 0 w3.length w3.length] 191), some (.cells [vi a26, vi w27, vi a28] 208), some (.cells (κP a29 L30) 211), some (.cells (Zb RC w0) 57), some (.cells (Zb RB w1) 42), some (.cells (Zb eI w2) 188), some (.cells (Zb eI w3) 188), some (.cells (Zb RB w31) 42 true)]
 | .r1 w0 w1 w2 w4 w5 w6 w8 w10 w24 w25 w27 w31 w32 w33 => [some (.cells (Z1 Zf 1 [] w4 [vs 12 (w32 * 2) w33 w33, vi w5, Value.bool w6, vT, vi w8, vi 2, vi w10, vq, vp 1 0, vi a10, Value.nilFunc]) 141), some (.cells (κh a12 L13 a14 a15 a16 a17 a18 a19 a20) 132), some (.cells (ZG (vi a21) (vs 10 0 w24.length w24.length) (vs 11 0 w25.length w25.length)) 154), some (.cells [vs 8 0 w0.length w0.length, vs 9 0 w1.length w1.length] 191), some (.cells [vi a26, vi w27, vi a28] 208), some (.cells (κP a29 L30) 211), none, none, some (.cells (Zb eI w0) 188), some (.cells (Zb eI w1) 188), some (.cells (Zb RC w24) 57), some (.cells (Zb RB w25) 42), some (.cells (Zb RB w31) 42 true)]

def Zr0 : Zbt → Nat
 | .h1m0 v0 v1 v2 v3 v4 v6 v7 v8 v9 v10 v11 v12 v13 v14 v16 v28 v32 v33 v34 => 1
noncomputable def ZsK (a0 a1 : Int) (L2 : List RO) (a3 : Int) (b4 b5 : Bool) (a6 a7 a8 a9 a10 a11 a12 : Int) (L13 : List RG) (a14 a15 a16 a17 a18 a19 a20 a21 : Int) (L22 : List RJ) (L23 : List RH) (L24 L25 : List Int) (a26 a27 a28 a29 : Int) (L30 : List Int) : Zbt → List (Nat × Value)
 | .h1m0 v0 v1 v2 v3 v4 v6 v7 v8 v9 v10 v11 v12 v13 v14 v16 v28 v32 v33 v34 => [(0, vp 0 0), (1, vi v4), (2, vi a1), (8, vi (v6 : Int))]
noncomputable def ZsL (a0 a1 : Int) (L2 : List RO) (a3 : Int) (b4 b5 : Bool) (a6 a7 a8 a9 a10 a11 a12 : Int) (L13 : List RG) (a14 a15 a16 a17 a18 a19 a20 a21 : Int) (L22 : List RJ) (L23 : List RH) (L24 L25 : List Int) (a26 a27 a28 a29 : Int) (L30 : List Int) : Zbt → List (Option AObj)
 | .h1m0 v0 v1 v2 v3 v4 v6 v7 v8 v9 v10 v11 v12 v13 v14 v16 v28 v32 v33 v34 => [some (.cells (Z1 Zf 1 [] v7 [vs 10 (v33 * 2) v34 v34, vi v8, Value.bool v9, Value.bool v10, vi v11, vi v12, vi v13, vi v14, vp 1 0, vi a10, (fnV v16)]) 141), some (.cells (κh a12 L13 a14 a15 a16 a17 a18 a19 a20) 132), some (.cells (ZG (vi a21) (vs 6 0 v0.length v0.length) (vs 7 0 v1.length v1.length)) 154), some (.cells [vs 8 0 v2.length v2.length, vs 9 0 v3.length v3.length] 191), some (.cells [vi a26, vi v28, vi a28] 208), some (.cells (κP a29 L30) 211), some (.cells (Zb RC v0) 57), some (κbz v1), some (.cells (Zb eI v2) 188), some (.cells (Zb eI v3) 188), some (.cells (Zb RB v32) 42 true)]

noncomputable def Zfk : Nat → Code × List Zay
 | 1 => Zck [1, 0, 1, 3] (ZcP Tryz.f12) []
 | _ => (.skip, [])
def ZmD : Nat → Bool
 | 1 => true
 | _ => true
noncomputable def ZsM (i : Nat) : List Zay := match ZmD i with | true => .rnd i :: (Zfk i).2 | false => (Zfk i).2

noncomputable abbrev κ4 (L24 L25 : List Int) := [vs 8 0 L24.length L24.length, vs 9 0 L25.length L25.length]
noncomputable abbrev κR (a21 : Int) (L22 : List RJ) (L23 : List RH) := (ZG (vi a21) (vs 6 0 L22.length L22.length) (vs 7 0 L23.length L23.length))
noncomputable abbrev κf (L2 : List RO) (a3 : Int) (b4 b5 : Bool) (a6 a7 a8 a9 a10 a11 a12 : Int) (L13 : List RG) (a14 a15 a16 a17 a18 a19 a20 a21 : Int) (L22 : List RJ) (L23 : List RH) (L24 L25 : List Int) (a26 a27 a28 a29 : Int) (L30 : List Int) := [AObj.cells (Z1 Zf 1 [] L2 [vn, vi a3, Value.bool b4, Value.bool b5, vi a6, vi a7, vi a8, vi a9, vp 1 0, vi a10, (fnV a11)]) 141, AObj.cells (κh a12 L13 a14 a15 a16 a17 a18 a19 a20) 132, AObj.cells (κR a21 L22 L23) 154, AObj.cells (κ4 L24 L25) 191, AObj.cells [vi a26, vi a27, vi a28] 208, AObj.cells (κP a29 L30) 211, AObj.cells (Zb RC L22) 57, AObj.cells (Zb RB L23) 42, AObj.cells (Zb eI L24) 188, AObj.cells (Zb eI L25) 188]
noncomputable def Zfl (a0 a1 : Int) (L2 : List RO) (a3 : Int) (b4 b5 : Bool) (a6 a7 a8 a9 a10 a11 a12 : Int) (L13 : List RG) (a14 a15 a16 a17 a18 a19 a20 a21 : Int) (L22 : List RJ) (L23 : List RH) (L24 L25 : List Int) (a26 a27 a28 a29 : Int) (L30 : List Int) (N : Nat) : Mach := ⟨Tryz.f12, (κf L2 a3 b4 b5 a6 a7 a8 a9 a10 a11 a12 L13 a14 a15 a16 a17 a18 a19 a20 a21 L22 L23 L24 L25 a26 a27 a28 a29 L30), Zbt, Zcq, Zeq a0 a1 L2 a3 b4 b5 a6 a7 a8 a9 a10 a11 a12 L13 a14 a15 a16 a17 a18 a19 a20 a21 L22 L23 L24 L25 a26 a27 a28 a29 L30 N, Zr0, Zfk, ZmD, ZsK a0 a1 L2 a3 b4 b5 a6 a7 a8 a9 a10 a11 a12 L13 a14 a15 a16 a17 a18 a19 a20 a21 L22 L23 L24 L25 a26 a27 a28 a29 L30, ZsL a0 a1 L2 a3 b4 b5 a6 a7 a8 a9 a10 a11 a12 L13 a14 a15 a16 a17 a18 a19 a20 a21 L22 L23 L24 L25 a26 a27 a28 a29 L30, ZnR a0 a1 L2 a3 b4 b5 a6 a7 a8 a9 a10 a11 a12 L13 a14 a15 a16 a17 a18 a19 a20 a21 L22 L23 L24 L25 a26 a27 a28 a29 L30, ZmC a0 a1 L2 a3 b4 b5 a6 a7 a8 a9 a10 a11 a12 L13 a14 a15 a16 a17 a18 a19 a20 a21 L22 L23 L24 L25 a26 a27 a28 a29 L30⟩

theorem ZnS (a0 a1 : Int) (L2 : List RO) (a3 : Int) (b4 b5 : Bool) (a6 a7 a8 a9 a10 a11 a12 : Int) (L13 : List RG) (a14 a15 a16 a17 a18 a19 a20 a21 : Int) (L22 : List RJ) (L23 : List RH) (L24 L25 : List Int) (a26 a27 a28 a29 : Int) (L30 : List Int) (v0 : List RJ) (v1 : List RH) (v2 v3 : List Int) (v4 : Int) (v6 : Nat) (v7 : List RO) (v8 : Int) (v9 v10 : Bool) (v11 v12 v13 v14 v16 v28 : Int) (v32 : List RH) (v33 v34 N : Nat) : (Zfl a0 a1 L2 a3 b4 b5 a6 a7 a8 a9 a10 a11 a12 L13 a14 a15 a16 a17 a18 a19 a20 a21 L22 L23 L24 L25 a26 a27 a28 a29 L30 N).Ok Tryz.prog Zu (.h1m0 v0 v1 v2 v3 v4 v6 v7 v8 v9 v10 v11 v12 v13 v14 v16 v28 v32 v33 v34 : Zbt) (Zeq a0 a1 L2 a3 b4 b5 a6 a7 a8 a9 a10 a11 a12 L13 a14 a15 a16 a17 a18 a19 a20 a21 L22 L23 L24 L25 a26 a27 a28 a29 L30 N (.h1m0 v0 v1 v2 v3 v4 v6 v7 v8 v9 v10 v11 v12 v13 v14 v16 v28 v32 v33 v34 : Zbt)) := by
 show (Zfl a0 a1 L2 a3 b4 b5 a6 a7 a8 a9 a10 a11 a12 L13 a14 a15 a16 a17 a18 a19 a20 a21 L22 L23 L24 L25 a26 a27 a28 a29 L30 N).Ok Tryz.prog Zu (.h1m0 v0 v1 v2 v3 v4 v6 v7 v8 v9 v10 v11 v12 v13 v14 v16 v28 v32 v33 v34 : Zbt) (Zb5 a0 a1 L2 a3 b4 b5 a6 a7 a8 a9 a10 a11 a12 L13 a14 a15 a16 a17 a18 a19 a20 a21 L22 L23 L24 L25 a26 a27 a28 a29 L30 N v0 v1 v2 v3 v4 v6 v7 v8 v9 v10 v11 v12 v13 v14 v16 v28 v32 v33 v34)
 unfold Zb5
 refine Mach.ok_ite (fun g0 => ?_) (fun g0 => ?_)
 ·
  refine Mach.ok_bind (fun z1 c1 => ?_)
  cases z1 with
  | r0 y1_0 y1_1 y1_2 y1_3 y1_4 y1_5 y1_6 y1_7 y1_8 y1_9 y1_10 y1_11 y1_12 y1_13 y1_14 y1_15 y1_16 y1_17 y1_18 y1_19 y1_20 y1_21 y1_22 =>
   refine Mach.ok_ite (fun g2 => ?_) (fun g2 => ?_)
   ·
    subst g2
    exact Mach.okF (Zj (oq [1]) [] [] [] [(0, (Ze5 c1 (rg 0 11 []) 11).t)]) (rg 0 10 [11]) (Value.tuple #[vi (IntKind.i64.wrap (v4 + 1)), vT]) (kK (Zg7 c1 (rg 0 11 []) 11) <| hY g0 Zk) (bMf [] y1_10 [vs 11 (y1_21 * 2) y1_22 y1_22, vi y1_11, Value.bool y1_12, Value.bool y1_13, vi y1_14, vi y1_15, vi y1_16, vi y1_17, vp 1 0, vi a10, (fnV y1_18)] <| bM (.cells (κh a12 L13 a14 a15 a16 a17 a18 a19 a20) 132) <| bS (ZG (vi a21) (vs 6 0 y1_0.length y1_0.length) (vs 7 0 y1_1.length y1_1.length)) <| bS [vs 8 0 y1_2.length y1_2.length, vs 9 0 y1_3.length y1_3.length] <| bS [vi a26, vi y1_19, vi a28] <| bM (.cells (κP a29 L30) 211) <| bR <| bR <| bR <| bR <| bQ <| bE)
   ·
    obtain rfl : y1_9 = false := by simpa using g2
    refine Mach.ok_ite (fun g3 => ?_) (fun _ => Mach.ok_none)
    exact Mach.okN (Zj (oq [1]) [(1, (((v6 + 1) : Nat) : Int))] [] [] [(0, (Ze5 c1 (rg 0 11 []) 11).t)]) (rg 0 10 [11]) [some (vp 0 0), some (vi (IntKind.i64.wrap (v4 + 1))), some (vi a1), some (vi (((v6 + 1) : Nat) : Int))] (kW ((v6 : Int) + 1) (((v6 + 1) : Nat) : Int) <| kK (Zg7 c1 (rg 0 11 []) 11) <| hY g0 Zk) (tC (tC (tC (tC (tE))))) (bMf [] y1_10 [vs 11 (y1_21 * 2) y1_22 y1_22, vi y1_11, Value.bool y1_12, Value.bool y1_13, vi y1_14, vi y1_15, vi y1_16, vi y1_17, vp 1 0, vi a10, (fnV y1_18)] <| bM (.cells (κh a12 L13 a14 a15 a16 a17 a18 a19 a20) 132) <| bS (ZG (vi a21) (vs 6 0 y1_0.length y1_0.length) (vs 7 0 y1_1.length y1_1.length)) <| bS [vs 8 0 y1_2.length y1_2.length, vs 9 0 y1_3.length y1_3.length] <| bS [vi a26, vi y1_19, vi a28] <| bM (.cells (κP a29 L30) 211) <| bR <| bR <| bR <| bR <| bQ <| bE) (show 1 ∈ Zt (ZsM 1) from by decide +kernel)
  | r1 y1_0 y1_1 =>
   exact Mach.okF (Zj (oq [1]) [] [] [] [(0, (Zg8 c1 (rg 0 11 []) 11).t)]) (rg 0 10 (11 :: (12 :: [13]))) (Value.tuple #[vi (IntKind.i64.wrap (v4 + 1)), vT]) (kK (Zla c1 (rg 0 11 []) 11) <| hY g0 Zk) (bM (.cells (Z1 Zf 1 [] v7 [vs 13 (v33 * 2) v34 v34, vi v8, Value.bool v9, vT, vi (IntKind.i64.wrap (v4 + 1)), vi 2, vi (((1 : Int) * 1048576) + (((v0.length + 1) : Nat) : Int)), vq, vp 1 0, vi a10, Value.nilFunc]) 141) <| bM (.cells (κh a12 L13 a14 a15 a16 a17 a18 a19 a20) 132) <| bS (ZG (vi a21) (vs 11 0 y1_0.length y1_0.length) (vs 12 0 y1_1.length y1_1.length)) <| bS [vs 8 0 v2.length v2.length, vs 9 0 v3.length v3.length] <| bS [vi a26, vi v28, vi a28] <| bM (.cells (κP a29 L30) 211) <| bN <| bN <| bR <| bR <| bR <| bR <| bQ <| bE)
 ·
  exact Mach.okF (Zj (oq [0]) [] [] [] []) (rg 0 11 []) (Value.tuple #[vi v4, vf]) (hN g0 Zk) (bMf [] v7 [vs 10 (v33 * 2) v34 v34, vi v8, Value.bool v9, Value.bool v10, vi v11, vi v12, vi v13, vi v14, vp 1 0, vi a10, (fnV v16)] <| bM (.cells (κh a12 L13 a14 a15 a16 a17 a18 a19 a20) 132) <| bS (ZG (vi a21) (vs 6 0 v0.length v0.length) (vs 7 0 v1.length v1.length)) <| bS [vs 8 0 v2.length v2.length, vs 9 0 v3.length v3.length] <| bS [vi a26, vi v28, vi a28] <| bM (.cells (κP a29 L30) 211) <| bR <| bR <| bR <| bR <| bQ <| bE)

theorem ZqG (a0 a1 : Int) (L2 : List RO) (a3 : Int) (b4 b5 : Bool) (a6 a7 a8 a9 a10 a11 a12 : Int) (L13 : List RG) (a14 a15 a16 a17 a18 a19 a20 a21 : Int) (L22 : List RJ) (L23 : List RH) (L24 L25 : List Int) (a26 a27 a28 a29 : Int) (L30 : List Int) (N : Nat) : (Zfl a0 a1 L2 a3 b4 b5 a6 a7 a8 a9 a10 a11 a12 L13 a14 a15 a16 a17 a18 a19 a20 a21 L22 L23 L24 L25 a26 a27 a28 a29 L30 N).Enter Tryz.prog Zu #[vp 0 0, vi a0, vi a1] (Zjg a0 a1 L2 a3 b4 b5 a6 a7 a8 a9 a10 a11 a12 L13 a14 a15 a16 a17 a18 a19 a20 a21 L22 L23 L24 L25 a26 a27 a28 a29 L30 N) := by
 unfold Zjg
 exact Mach.en_headW (bK := Zfk 1) (M := Zfl a0 a1 L2 a3 b4 b5 a6 a7 a8 a9 a10 a11 a12 L13 a14 a15 a16 a17 a18 a19 a20 a21 L22 L23 L24 L25 a26 a27 a28 a29 L30 N) (cd := 1000000) (cm := 0) (y := (.h1m0 L22 L23 L24 L25 a0 0 L2 a3 b4 b5 a6 a7 a8 a9 a11 a27 ([] : List RH) 0 0 : Zbt)) (fu := 4000) (orc := (Zj (oq []) [] [] [] [])) (live := (rg 0 10 [500000010])) (tv := [some (vp 0 0), some (vi a0), some (vi a1), some (vq)]) (bl := [some (.cells (Z1 Zf 1 [] L2 [vn, vi a3, Value.bool b4, Value.bool b5, vi a6, vi a7, vi a8, vi a9, vp 1 0, vi a10, (fnV a11)]) 141), some (.cells (κh a12 L13 a14 a15 a16 a17 a18 a19 a20) 132), some (.cells (κR a21 L22 L23) 154), some (.cells (κ4 L24 L25) 191), some (.cells [vi a26, vi a27, vi a28] 208), some (.cells (κP a29 L30) 211), some (.cells (Zb RC L22) 57), some (.cells (Zb RB L23) 42), some (.cells (Zb eI L24) 188), some (.cells (Zb eI L25) 188), none]) [some (.cells (Z1 Zf 1 [] L2 [vn, vi a3, Value.bool b4, Value.bool b5, vi a6, vi a7, vi a8, vi a9, vp 1 0, vi a10, (fnV a11)]) 141), some (.cells (κh a12 L13 a14 a15 a16 a17 a18 a19 a20) 132), some (.cells (κR a21 L22 L23) 154), some (.cells (κ4 L24 L25) 191), some (.cells [vi a26, vi a27, vi a28] 208), some (.cells (κP a29 L30) 211), some (.cells (Zb RC L22) 57), some (.cells (Zb RB L23) 42), some (.cells (Zb eI L24) 188), some (.cells (Zb eI L25) 188), none] [(10, 42)] 0 ⟨(Zvd ⟨.inr ⟨rfl, _, rfl⟩, ⟨.inl rfl, ⟨.inl rfl, ⟨.inl rfl, ⟨.inl rfl, ⟨.inl rfl, ⟨.inl rfl, ⟨.inl rfl, ⟨.inl rfl, ⟨.inl rfl, ⟨.inl rfl, trivial⟩⟩⟩⟩⟩⟩⟩⟩⟩⟩⟩), ⟨(.inl rfl), ⟨(.inl rfl), ⟨(.inl rfl), ⟨(.inl rfl), ⟨(.inl rfl), ⟨(.inl rfl), ⟨(.inl rfl), ⟨(.inl rfl), ⟨(.inl rfl), ⟨(.inl rfl), trivial⟩⟩⟩⟩⟩⟩⟩⟩⟩⟩⟩ (by rfl) (by rfl) rfl rfl (show Zt (Zfk 1).2 = [] from rfl) (by kernel_rfl) Zk rfl (by decide +kernel) (by rfl) ⟨rr, ⟨rr, ⟨rr, ⟨⟨Eq.trans (show κbk = vq from (congrArg (Value.int .i64) (by first | rfl | omega))) (by rfl), by rfl⟩, trivial⟩⟩⟩⟩ (bMf [] L2 [vn, vi a3, Value.bool b4, Value.bool b5, vi a6, vi a7, vi a8, vi a9, vp 1 0, vi a10, (fnV a11)] <| bM (.cells (κh a12 L13 a14 a15 a16 a17 a18 a19 a20) 132) <| bS (κR a21 L22 L23) <| bS (κ4 L24 L25) <| bS [vi a26, vi a27, vi a28] <| bM (.cells (κP a29 L30) 211) <| bR <| bR <| bR <| bR <| bN <| bE)

theorem ZjW (a0 a1 : Int) (L2 : List RO) (a3 : Int) (b4 b5 : Bool) (a6 a7 a8 a9 a10 a11 a12 : Int) (L13 : List RG) (a14 a15 a16 a17 a18 a19 a20 a21 : Int) (L22 : List RJ) (L23 : List RH) (L24 L25 : List Int) (a26 a27 a28 a29 : Int) (L30 : List Int) (N : Nat) (r : Zcq) (h : Zd7 a0 a1 L2 a3 b4 b5 a6 a7 a8 a9 a10 a11 a12 L13 a14 a15 a16 a17 a18 a19 a20 a21 L22 L23 L24 L25 a26 a27 a28 a29 L30 N = some r) : LSpec Tryz.prog 12 #[vp 0 0, vi a0, vi a1] (κf L2 a3 b4 b5 a6 a7 a8 a9 a10 a11 a12 L13 a14 a15 a16 a17 a18 a19 a20 a21 L22 L23 L24 L25 a26 a27 a28 a29 L30) (ZnR a0 a1 L2 a3 b4 b5 a6 a7 a8 a9 a10 a11 a12 L13 a14 a15 a16 a17 a18 a19 a20 a21 L22 L23 L24 L25 a26 a27 a28 a29 L30 r) (ZmC a0 a1 L2 a3 b4 b5 a6 a7 a8 a9 a10 a11 a12 L13 a14 a15 a16 a17 a18 a19 a20 a21 L22 L23 L24 L25 a26 a27 a28 a29 L30 r) :=
 Mach.spec Zz (Zfl a0 a1 L2 a3 b4 b5 a6 a7 a8 a9 a10 a11 a12 L13 a14 a15 a16 a17 a18 a19 a20 a21 L22 L23 L24 L25 a26 a27 a28 a29 L30 N) Tryz.func12 (by kernel_rfl) (by kernel_rfl) (fun x => by cases x <;> exact ZB _ rfl) (fun r => by cases r <;> exact ZB _ rfl) (fun x => by
  cases x with
  | h1m0 _ _ _ _ _ _ _ _ _ _ _ _ _ _ _ _ _ _ _ => exact fun _ => (show ¬ (1 ∈ Zt (Zfk 1).2) from by decide +kernel)
  ) (fun x => (show (Zfl a0 a1 L2 a3 b4 b5 a6 a7 a8 a9 a10 a11 a12 L13 a14 a15 a16 a17 a18 a19 a20 a21 L22 L23 L24 L25 a26 a27 a28 a29 L30 N).Ok Tryz.prog Zu x (Zeq a0 a1 L2 a3 b4 b5 a6 a7 a8 a9 a10 a11 a12 L13 a14 a15 a16 a17 a18 a19 a20 a21 L22 L23 L24 L25 a26 a27 a28 a29 L30 N x) from by
  cases x with
  | h1m0 v0 v1 v2 v3 v4 v6 v7 v8 v9 v10 v11 v12 v13 v14 v16 v28 v32 v33 v34 => exact ZnS a0 a1 L2 a3 b4 b5 a6 a7 a8 a9 a10 a11 a12 L13 a14 a15 a16 a17 a18 a19 a20 a21 L22 L23 L24 L25 a26 a27 a28 a29 L30 v0 v1 v2 v3 v4 v6 v7 v8 v9 v10 v11 v12 v13 v14 v16 v28 v32 v33 v34 N
  )) (ZqG a0 a1 L2 a3 b4 b5 a6 a7 a8 a9 a10 a11 a12 L13 a14 a15 a16 a17 a18 a19 a20 a21 L22 L23 L24 L25 a26 a27 a28 a29 L30 N) (n := N) h

noncomputable abbrev κz (ks : List Nat) (L2 : List RO) (a3 : Int) (b4 b5 : Bool) (a6 a7 a8 a9 a10 a11 a12 : Int) (L13 : List RG) (a14 a15 a16 a17 a18 a19 a20 a21 : Int) (L22 : List RJ) (L23 : List RH) (L24 L25 : List Int) (a26 a27 a28 a29 : Int) (L30 : List Int) := [((nth ks 0), AObj.cells (Z1 Zf 1 [] L2 [vn, vi a3, Value.bool b4, Value.bool b5, vi a6, vi a7, vi a8, vi a9, vp (nth ks 1) 0, vi a10, (fnV a11)]) 141), ((nth ks 1), AObj.cells (Z1 Zh9 64 [vi a12] L13 [vi a14, vi a15, vi a16, vi a17, vi a18, vi a19, vi a20, vp (nth ks 2) 0, vp (nth ks 3) 0, vp (nth ks 4) 0, vp (nth ks 5) 0]) 132), ((nth ks 2), AObj.cells (ZG (vi a21) (vs (nth ks 6) 0 L22.length L22.length) (vs (nth ks 7) 0 L23.length L23.length)) 154), ((nth ks 3), AObj.cells [vs (nth ks 8) 0 L24.length L24.length, vs (nth ks 9) 0 L25.length L25.length] 191), ((nth ks 4), AObj.cells [vi a26, vi a27, vi a28] 208), ((nth ks 5), AObj.cells (κP a29 L30) 211), ((nth ks 6), AObj.cells (Zb RC L22) 57), ((nth ks 7), AObj.cells (Zb RB L23) 42), ((nth ks 8), AObj.cells (Zb eI L24) 188), ((nth ks 9), AObj.cells (Zb eI L25) 188)]
noncomputable def ZbS {a0 a1 : Int} {L2 : List RO} {a3 : Int} {b4 b5 : Bool} {a6 a7 a8 a9 a10 a11 a12 : Int} {L13 : List RG} {a14 a15 a16 a17 a18 a19 a20 a21 : Int} {L22 : List RJ} {L23 : List RH} {L24 L25 : List Int} {a26 a27 a28 a29 : Int} {L30 : List Int} {w0 : List RJ} {w1 : List RH} {w2 w3 : List Int} {w4 : Int} {w5 : Bool} {w6 : List RO} {w7 : Int} {w8 w9 : Bool} {w10 w11 w12 w13 w15 w27 : Int} {w31 : List RH} {w32 w33 N : Nat} (h : Zd7 a0 a1 L2 a3 b4 b5 a6 a7 a8 a9 a10 a11 a12 L13 a14 a15 a16 a17 a18 a19 a20 a21 L22 L23 L24 L25 a26 a27 a28 a29 L30 N = some (.r0 w0 w1 w2 w3 w4 w5 w6 w7 w8 w9 w10 w11 w12 w13 w15 w27 w31 w32 w33)) (ks : List Nat) (n : Nat) : ToldS := ⟨#[vp (nth ks 0) 0, vi a0, vi a1], (κz ks L2 a3 b4 b5 a6 a7 a8 a9 a10 a11 a12 L13 a14 a15 a16 a17 a18 a19 a20 a21 L22 L23 L24 L25 a26 a27 a28 a29 L30), Value.tuple #[vi w4, Value.bool w5], [((nth ks 0), some (.cells (Z1 Zf 1 [] w6 [vs n (w32 * 2) w33 w33, vi w7, Value.bool w8, Value.bool w9, vi w10, vi w11, vi w12, vi w13, vp (nth ks 1) 0, vi a10, (fnV w15)]) 141)), ((nth ks 2), some (.cells (ZG (vi a21) (vs (nth ks 6) 0 w0.length w0.length) (vs (nth ks 7) 0 w1.length w1.length)) 154)), ((nth ks 3), some (.cells [vs (nth ks 8) 0 w2.length w2.length, vs (nth ks 9) 0 w3.length w3.length] 191)), ((nth ks 4), some (.cells [vi a26, vi w27, vi a28] 208)), ((nth ks 6), some (.cells (Zb RC w0) 57)), ((nth ks 7), some (.cells (Zb RB w1) 42)), ((nth ks 8), some (.cells (Zb eI w2) 188)), ((nth ks 9), some (.cells (Zb eI w3) 188)), (n, some (.cells (Zb RB w31) 42 true))], 1⟩

theorem ZmE {a0 a1 : Int} {L2 : List RO} {a3 : Int} {b4 b5 : Bool} {a6 a7 a8 a9 a10 a11 a12 : Int} {L13 : List RG} {a14 a15 a16 a17 a18 a19 a20 a21 : Int} {L22 : List RJ} {L23 : List RH} {L24 L25 : List Int} {a26 a27 a28 a29 : Int} {L30 : List Int} {w0 : List RJ} {w1 : List RH} {w2 w3 : List Int} {w4 : Int} {w5 : Bool} {w6 : List RO} {w7 : Int} {w8 w9 : Bool} {w10 w11 w12 w13 w15 w27 : Int} {w31 : List RH} {w32 w33 N : Nat} (h : Zd7 a0 a1 L2 a3 b4 b5 a6 a7 a8 a9 a10 a11 a12 L13 a14 a15 a16 a17 a18 a19 a20 a21 L22 L23 L24 L25 a26 a27 a28 a29 L30 N = some (.r0 w0 w1 w2 w3 w4 w5 w6 w7 w8 w9 w10 w11 w12 w13 w15 w27 w31 w32 w33)) (ks : List Nat) (n : Nat) (hk : ks.length = 10 := by rfl) (hnd : ks.Nodup := by decide +kernel) (hlt : ∀ k ∈ ks, k < n := by decide +kernel) : (ZbS (N := N)  h ks n).P Tryz.prog 12 n :=
 match ks, hk, hnd, hlt with
 | [k0, k1, k2, k3, k4, k5, k6, k7, k8, k9], _, hnd, hlt => ZlC (show LSpec Tryz.prog 12 #[vp 0 0, vi a0, vi a1] (κf L2 a3 b4 b5 a6 a7 a8 a9 a10 a11 a12 L13 a14 a15 a16 a17 a18 a19 a20 a21 L22 L23 L24 L25 a26 a27 a28 a29 L30) (Value.tuple #[vi w4, Value.bool w5]) [some (.cells (Z1 Zf 1 [] w6 [vs 10 (w32 * 2) w33 w33, vi w7, Value.bool w8, Value.bool w9, vi w10, vi w11, vi w12, vi w13, vp 1 0, vi a10, (fnV w15)]) 141), some (.cells (κh a12 L13 a14 a15 a16 a17 a18 a19 a20) 132), some (.cells (ZG (vi a21) (vs 6 0 w0.length w0.length) (vs 7 0 w1.length w1.length)) 154), some (.cells [vs 8 0 w2.length w2.length, vs 9 0 w3.length w3.length] 191), some (.cells [vi a26, vi w27, vi a28] 208), some (.cells (κP a29 L30) 211), some (.cells (Zb RC w0) 57), some (.cells (Zb RB w1) 42), some (.cells (Zb eI w2) 188), some (.cells (Zb eI w3) 188), some (.cells (Zb RB w31) 42 true)] from ZjW a0 a1 L2 a3 b4 b5 a6 a7 a8 a9 a10 a11 a12 L13 a14 a15 a16 a17 a18 a19 a20 a21 L22 L23 L24 L25 a26 a27 a28 a29 L30 N _ h) _ n (0 :: (2 :: (3 :: (4 :: (rg 6 5 []))))) hnd hlt

noncomputable def ZmF {a0 a1 : Int} {L2 : List RO} {a3 : Int} {b4 b5 : Bool} {a6 a7 a8 a9 a10 a11 a12 : Int} {L13 : List RG} {a14 a15 a16 a17 a18 a19 a20 a21 : Int} {L22 : List RJ} {L23 : List RH} {L24 L25 : List Int} {a26 a27 a28 a29 : Int} {L30 w0 w1 : List Int} {w2 : Int} {w4 : List RO} {w5 : Int} {w6 : Bool} {w8 w10 : Int} {w24 : List RJ} {w25 : List RH} {w27 : Int} {w31 : List RH} {w32 w33 N : Nat} (h : Zd7 a0 a1 L2 a3 b4 b5 a6 a7 a8 a9 a10 a11 a12 L13 a14 a15 a16 a17 a18 a19 a20 a21 L22 L23 L24 L25 a26 a27 a28 a29 L30 N = some (.r1 w0 w1 w2 w4 w5 w6 w8 w10 w24 w25 w27 w31 w32 w33)) (ks : List Nat) (n : Nat) : ToldS := ⟨#[vp (nth ks 0) 0, vi a0, vi a1], (κz ks L2 a3 b4 b5 a6 a7 a8 a9 a10 a11 a12 L13 a14 a15 a16 a17 a18 a19 a20 a21 L22 L23 L24 L25 a26 a27 a28 a29 L30), Value.tuple #[vi w2, vT], [((nth ks 0), some (.cells (Z1 Zf 1 [] w4 [vs (n + 2) (w32 * 2) w33 w33, vi w5, Value.bool w6, vT, vi w8, vi 2, vi w10, vq, vp (nth ks 1) 0, vi a10, Value.nilFunc]) 141)), ((nth ks 2), some (.cells (ZG (vi a21) (vs n 0 w24.length w24.length) (vs (n + 1) 0 w25.length w25.length)) 154)), ((nth ks 3), some (.cells [vs (nth ks 8) 0 w0.length w0.length, vs (nth ks 9) 0 w1.length w1.length] 191)), ((nth ks 4), some (.cells [vi a26, vi w27, vi a28] 208)), ((nth ks 6), none), ((nth ks 7), none), ((nth ks 8), some (.cells (Zb eI w0) 188)), ((nth ks 9), some (.cells (Zb eI w1) 188)), (n, some (.cells (Zb RC w24) 57)), ((n + 1), some (.cells (Zb RB w25) 42)), ((n + 2), some (.cells (Zb RB w31) 42 true))], 3⟩

theorem Zr1 {a0 a1 : Int} {L2 : List RO} {a3 : Int} {b4 b5 : Bool} {a6 a7 a8 a9 a10 a11 a12 : Int} {L13 : List RG} {a14 a15 a16 a17 a18 a19 a20 a21 : Int} {L22 : List RJ} {L23 : List RH} {L24 L25 : List Int} {a26 a27 a28 a29 : Int} {L30 w0 w1 : List Int} {w2 : Int} {w4 : List RO} {w5 : Int} {w6 : Bool} {w8 w10 : Int} {w24 : List RJ} {w25 : List RH} {w27 : Int} {w31 : List RH} {w32 w33 N : Nat} (h : Zd7 a0 a1 L2 a3 b4 b5 a6 a7 a8 a9 a10 a11 a12 L13 a14 a15 a16 a17 a18 a19 a20 a21 L22 L23 L24 L25 a26 a27 a28 a29 L30 N = some (.r1 w0 w1 w2 w4 w5 w6 w8 w10 w24 w25 w27 w31 w32 w33)) (ks : List Nat) (n : Nat) (hk : ks.length = 10 := by rfl) (hnd : ks.Nodup := by decide +kernel) (hlt : ∀ k ∈ ks, k < n := by decide +kernel) : (ZmF (N := N)  h ks n).P Tryz.prog 12 n :=
 match ks, hk, hnd, hlt with
 | [k0, k1, k2, k3, k4, k5, k6, k7, k8, k9], _, hnd, hlt => ZlC (show LSpec Tryz.prog 12 #[vp 0 0, vi a0, vi a1] (κf L2 a3 b4 b5 a6 a7 a8 a9 a10 a11 a12 L13 a14 a15 a16 a17 a18 a19 a20 a21 L22 L23 L24 L25 a26 a27 a28 a29 L30) (Value.tuple #[vi w2, vT]) [some (.cells (Z1 Zf 1 [] w4 [vs 12 (w32 * 2) w33 w33, vi w5, Value.bool w6, vT, vi w8, vi 2, vi w10, vq, vp 1 0, vi a10, Value.nilFunc]) 141), some (.cells (κh a12 L13 a14 a15 a16 a17 a18 a19 a20) 132), some (.cells (ZG (vi a21) (vs 10 0 w24.length w24.length) (vs 11 0 w25.length w25.length)) 154), some (.cells [vs 8 0 w0.length w0.length, vs 9 0 w1.length w1.length] 191), some (.cells [vi a26, vi w27, vi a28] 208), some (.cells (κP a29 L30) 211), none, none, some (.cells (Zb eI w0) 188), some (.cells (Zb eI w1) 188), some (.cells (Zb RC w24) 57), some (.cells (Zb RB w25) 42), some (.cells (Zb RB w31) 42 true)] from ZjW a0 a1 L2 a3 b4 b5 a6 a7 a8 a9 a10 a11 a12 L13 a14 a15 a16 a17 a18 a19 a20 a21 L22 L23 L24 L25 a26 a27 a28 a29 L30 N _ h) _ n (0 :: (2 :: (3 :: (4 :: (rg 6 7 []))))) hnd hlt

end Ev
end Go.Proofs.YtiijipocjellpaaGreat
