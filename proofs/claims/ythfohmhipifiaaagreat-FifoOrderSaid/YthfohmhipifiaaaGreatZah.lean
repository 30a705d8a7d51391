/- Part 8. -/
import Derived.Test.YthfohmhipifiaaaGreatZag
import Derived.Test.YthfohmhipifiaaaGreatZad
import Derived.Test.YthfohmhipifiaaaGreatZae
set_option linter.unusedSimpArgs false
set_option linter.unusedVariables false
set_option linter.unusedVariables false
set_option maxRecDepth 100000
/- Calls do what the plain functions say. -/
namespace Go.Proofs.YthfohmhipifiaaaGreat
open Go.IntKind (i64)
open Go.RowKit
namespace Ev
open Mach (oi ok_ite ok_none ok_bind okN okH okC)
noncomputable def ZkX : Zy → Value
 | .r0 w0 => Value.bool w0
noncomputable def ZjU : Zy → List (Option AObj)
 | .r0 w0 => []

def ZqU : Zc → Nat
 | .h1m0 => 1
 | .h1m1 .. => 1
 | .h2m0 .. => 2
 | .h2m1 .. => 2
 | .h2m2 .. => 2
 | .h3m0 .. => 3
 | .h3m1 .. => 3
 | .h3m2 .. => 3
 | .h4m0 .. => 4
 | .h4m1 .. => 4
 | .h4m2 .. => 4
 | .h5m0 .. => 5
noncomputable abbrev κbz (v2 : Int) := (14, vs 3 0 v2.length v2.length)
section
variable (L0 : List (List RM)) (L1 : List Int)
noncomputable def Zs2 : Zc → List (Nat × Value)
 | .h1m0 => [(0, ms (Zp RF) L0), (1, ms (Zcq .u8) L1), (5, vn), (6, vn), (7, vq)]
 | .h1m1 v2 v3 v4 => [(0, ms (Zp RF) L0), (1, ms (Zcq .u8) L1), (5, vs 0 0 v2.length v2.length), (6, vs 1 0 v3.length v3.length), (7, vi (v4 : Int))]
 | .h2m0 v1 v2 v3 v4 v5 v6 v7 v8 v9 v10 v11 v12 v13 => [(1, ms (Zcq .u8) L1), (5, vs 0 0 v1.length v1.length), (11, vp 1 0), (13, vp 2 0), (κbz v2), (15, vs 4 0 1 1), (16, vi v3), (17, vi (v4 : Int)), (18, vi (v5 : Int))]
 | .h2m1 v1 v2 v3 v4 v5 v6 v7 v8 v9 v10 v11 v12 v13 v14 => [(1, ms (Zcq .u8) L1), (5, vs 0 0 v1.length v1.length), (11, vp 1 0), (13, vp 2 0), (κbz v2), (15, vs 4 0 2 2), (16, vi v3), (17, vi (v4 : Int)), (18, vi (v5 : Int))]
 | .h2m2 v1 v2 v3 v4 v5 v6 v7 v8 v9 v10 v11 v12 v13 v14 v15 => [(1, ms (Zcq .u8) L1), (5, vs 0 0 v1.length v1.length), (11, vp 1 0), (13, vp 2 0), (κbz v2), (15, vs 4 0 3 3), (16, vi v3), (17, vi (v4 : Int)), (18, vi (v5 : Int))]
 | .h3m0 v1 v2 v3 v4 v5 v6 v7 v8 v9 v10 v11 v12 v13 v14 => [(1, ms (Zcq .u8) L1), (5, vs 0 0 v1.length v1.length), (11, vp 1 0), (13, vp 2 0), (κbz v2), (15, vs 4 0 1 1), (16, vi v3), (17, vi (v4 : Int)), (18, vi (v5 : Int)), (19, vi v6)]
 | .h3m1 v1 v2 v3 v4 v5 v6 v7 v8 v9 v10 v11 v12 v13 v14 v15 => [(1, ms (Zcq .u8) L1), (5, vs 0 0 v1.length v1.length), (11, vp 1 0), (13, vp 2 0), (κbz v2), (15, vs 4 0 2 2), (16, vi v3), (17, vi (v4 : Int)), (18, vi (v5 : Int)), (19, vi v6)]
 | .h3m2 v1 v2 v3 v4 v5 v6 v7 v8 v9 v10 v11 v12 v13 v14 v15 v16 => [(1, ms (Zcq .u8) L1), (5, vs 0 0 v1.length v1.length), (11, vp 1 0), (13, vp 2 0), (κbz v2), (15, vs 4 0 3 3), (16, vi v3), (17, vi (v4 : Int)), (18, vi (v5 : Int)), (19, vi v6)]
 | .h4m0 v0 v1 v2 v3 v4 v5 v6 v7 v8 v9 v10 => [(5, vs 0 0 v0.length v0.length), (11, vp 1 0), (13, vp 2 0), (14, vs 3 0 v1.length v1.length), (15, vs 4 0 1 1), (26, vi (v2 : Int))]
 | .h4m1 v0 v1 v2 v3 v4 v5 v6 v7 v8 v9 v10 v11 => [(5, vs 0 0 v0.length v0.length), (11, vp 1 0), (13, vp 2 0), (14, vs 3 0 v1.length v1.length), (15, vs 4 0 2 2), (26, vi (v2 : Int))]
 | .h4m2 v0 v1 v2 v3 v4 v5 v6 v7 v8 v9 v10 v11 v12 => [(5, vs 0 0 v0.length v0.length), (11, vp 1 0), (13, vp 2 0), (14, vs 3 0 v1.length v1.length), (15, vs 4 0 3 3), (26, vi (v2 : Int))]
 | .h5m0 v0 v1 v2 v3 v4 v5 v6 v7 => [(11, vp 0 0), (13, vp 1 0), (27, vi (v0 : Int))]
noncomputable abbrev κbP (v14 : List RG) := (AObj.cells (Za RA v14) 44 true)
noncomputable abbrev κbl (v14 v15 v16 : List RG) := [vs 5 0 v14.length v14.length, vs 6 0 v15.length v15.length, vs 7 0 v16.length v16.length]
noncomputable def Zs3 (L0 : List (List RM)) (L1 : List Int) : Zc → List (Option AObj)
 | .h1m0 => []
 | .h1m1 v2 v3 v4 => [some (.cells (Za (Zp RF) v2) 23), some (.cells (Za (Zp RB) v3) 26)]
 | .h2m0 v1 v2 v3 v4 v5 v6 v7 v8 v9 v10 v11 v12 v13 => [some (.cells (Za (Zp RF) v1) 23), some (.cells [ms (Zp RB) v6, ms RE v7, ms RC v8] 34), some (.cells [ms eI v9, ms eI v10, ms eI v11, ms eI v12] 52), some (.cells (Za eI v2) 3), some (.cells [vs 5 0 v13.length v13.length] 58), some (.cells (Za RA v13) 44 true)]
 | .h2m1 v1 v2 v3 v4 v5 v6 v7 v8 v9 v10 v11 v12 v13 v14 => [some (.cells (Za (Zp RF) v1) 23), some (.cells [ms (Zp RB) v6, ms RE v7, ms RC v8] 34), some (.cells [ms eI v9, ms eI v10, ms eI v11, ms eI v12] 52), some (.cells (Za eI v2) 3), some (.cells [vs 5 0 v13.length v13.length, vs 6 0 v14.length v14.length] 58), some (.cells (Za RA v13) 44 true), some (κbP v14)]
 | .h2m2 v1 v2 v3 v4 v5 v6 v7 v8 v9 v10 v11 v12 v13 v14 v15 => [some (.cells (Za (Zp RF) v1) 23), some (.cells [ms (Zp RB) v6, ms RE v7, ms RC v8] 34), some (.cells [ms eI v9, ms eI v10, ms eI v11, ms eI v12] 52), some (.cells (Za eI v2) 3), some (.cells [vs 5 0 v13.length v13.length, vs 6 0 v14.length v14.length, vs 7 0 v15.length v15.length] 58), some (.cells (Za RA v13) 44 true), some (κbP v14), some (.cells (Za RA v15) 44 true)]
 | .h3m0 v1 v2 v3 v4 v5 v6 v7 v8 v9 v10 v11 v12 v13 v14 => [some (.cells (Za (Zp RF) v1) 23), some (.cells [ms (Zp RB) v7, ms RE v8, ms RC v9] 34), some (.cells [ms eI v10, ms eI v11, ms eI v12, ms eI v13] 52), some (.cells (Za eI v2) 3), some (.cells [vs 5 0 v14.length v14.length] 58), some (κbP v14)]
 | .h3m1 v1 v2 v3 v4 v5 v6 v7 v8 v9 v10 v11 v12 v13 v14 v15 => [some (.cells (Za (Zp RF) v1) 23), some (.cells [ms (Zp RB) v7, ms RE v8, ms RC v9] 34), some (.cells [ms eI v10, ms eI v11, ms eI v12, ms eI v13] 52), some (.cells (Za eI v2) 3), some (.cells [vs 5 0 v14.length v14.length, vs 6 0 v15.length v15.length] 58), some (κbP v14), some (.cells (Za RA v15) 44 true)]
 | .h3m2 v1 v2 v3 v4 v5 v6 v7 v8 v9 v10 v11 v12 v13 v14 v15 v16 => [some (.cells (Za (Zp RF) v1) 23), some (.cells [ms (Zp RB) v7, ms RE v8, ms RC v9] 34), some (.cells [ms eI v10, ms eI v11, ms eI v12, ms eI v13] 52), some (.cells (Za eI v2) 3), some (.cells (κbl v14 v15 v16) 58), some (κbP v14), some (.cells (Za RA v15) 44 true), some (.cells (Za RA v16) 44 true)]
 | .h4m0 v0 v1 v2 v3 v4 v5 v6 v7 v8 v9 v10 => [some (.cells (Za (Zp RF) v0) 23), some (.cells [ms (Zp RB) v3, ms RE v4, ms RC v5] 34), some (.cells [ms eI v6, ms eI v7, ms eI v8, ms eI v9] 52), some (.cells (Za eI v1) 3), some (.cells [vs 5 0 v10.length v10.length] 58), some (.cells (Za RA v10) 44 true)]
 | .h4m1 v0 v1 v2 v3 v4 v5 v6 v7 v8 v9 v10 v11 => [some (.cells (Za (Zp RF) v0) 23), some (.cells [ms (Zp RB) v3, ms RE v4, ms RC v5] 34), some (.cells [ms eI v6, ms eI v7, ms eI v8, ms eI v9] 52), some (.cells (Za eI v1) 3), some (.cells [vs 5 0 v10.length v10.length, vs 6 0 v11.length v11.length] 58), some (.cells (Za RA v10) 44 true), some (.cells (Za RA v11) 44 true)]
 | .h4m2 v0 v1 v2 v3 v4 v5 v6 v7 v8 v9 v10 v11 v12 => [some (.cells (Za (Zp RF) v0) 23), some (.cells [ms (Zp RB) v3, ms RE v4, ms RC v5] 34), some (.cells [ms eI v6, ms eI v7, ms eI v8, ms eI v9] 52), some (.cells (Za eI v1) 3), some (.cells [vs 5 0 v10.length v10.length, vs 6 0 v11.length v11.length, vs 7 0 v12.length v12.length] 58), some (.cells (Za RA v10) 44 true), some (.cells (Za RA v11) 44 true), some (.cells (Za RA v12) 44 true)]
 | .h5m0 v0 v1 v2 v3 v4 v5 v6 v7 => [some (.cells [ms (Zp RB) v1, ms RE v2, ms RC v3] 34), some (.cells [ms eI v4, ms eI v5, ms eI v6, ms eI v7] 52)]

noncomputable def Zcy : Nat → Code × List ZL
 | 1 => Z5 [1, 1, 1, 0, 1, 3] (ZM Tryz.f4) []
 | 2 => Z5 [1, 1, 1, 1, 1, 1, 1, 1, 1, 1, 0, 1, 3] (ZM Tryz.f4) []
 | 3 => Znq [1, 1, 1, 1, 1, 1, 1, 1, 1, 1, 0, 1, 3, 8, 1, 0, 3, 1, 1] (ZM Tryz.f4) []
 | 4 => Z5 [1, 1, 1, 1, 1, 1, 1, 1, 1, 1, 1, 1, 0, 1, 3] (ZM Tryz.f4) []
 | 5 => Z5 [1, 1, 1, 1, 1, 1, 1, 1, 1, 1, 1, 1, 1, 0, 1, 3] (ZM Tryz.f4) []
 | _ => (.skip, [])
def ZqV : Nat → Bool
 | 1 => true
 | 2 => true
 | 3 => false
 | 4 => true
 | 5 => true
 | _ => true

noncomputable def Z2 (N : Nat) : Mach := ⟨Tryz.f4, [], Zc, Zy, Zj L0 L1 N, ZqU, Zcy, ZqV, Zs2 L0 L1, Zs3 L0 L1, ZkX, ZjU⟩

theorem ZmB (N : Nat) : (Z2 L0 L1 N).Ok Tryz.prog Ze (.h1m0 : Zc) (ZbJ L0 L1 N) := by
 unfold ZbJ;refine ok_ite (fun g0 => ?_) fun g0 => ?_
 ·
  have w1 := lkG (Zp RF) L0 (0 + (0 * 1)) 0 0 1 1 <| kB 0 L0.length <| xkI 0 0 <| bhY g0 Zg
  refine ok_ite (fun g1 => ?_) fun g1 => ?_
  ·
   refine ok_bind fun z2 c2 => ?_;cases z2 with
   | r0 y2_0 =>
    exact okN [1, 3] [some (ms (Zp RF) L0), some (ms (Zcq .u8) L1), some (vs 1 0 1 1), some (vs 3 0 1 1), some (vi 1)] (kK (tQ (ZfT c2) 0) <| kC (Znt (E := RF) (L := (L0.getD 0 [])) (R := ((L0.getD 0 []).take 4)) (l := 0) (h := 4) (size := 5) ltA ltA (by decide) (by simp)) <| kI 4 (Int.ofNat 4) <| tW 0 (.ms 0 4 ((L0.getD 0 []).take 4).length (Z9 RF ((L0.getD 0 []).take 4))) <| kR 0 <| tB 1 <| kY ((((L0.getD 0 []).length : Nat) : Int) > 4) w1) (tC (tC (tC (tC (tC (tE) ⟨Eq.trans (show κK = vi 1 from ci) (by rfl), by rfl⟩) ⟨Eq.trans (show (vs 1 0 ([y2_0] : List (List RI)).length ([y2_0] : List (List RI)).length : Value) = vs 1 0 1 1 from (Zi rfl eqA eqA)) (by rfl), by rfl⟩) ⟨Eq.trans (show (vs 0 0 ([((L0.getD 0 []).take 4)] : List (List RM)).length ([((L0.getD 0 []).take 4)] : List (List RM)).length : Value) = vs 0 0 1 1 from (Zi rfl eqA eqA)) (by rfl), by rfl⟩))) (bC (o := .cells [ms RF ((L0.getD 0 []).take 4)] 23) (Zz (E := (Zp RF)) _ (L := ([((L0.getD 0 []).take 4)] : List (List RM))) _ (show ([ms RF ((L0.getD 0 []).take 4)] : List Value) = Za (Zp RF) ([((L0.getD 0 []).take 4)] : List (List RM)) from rfl)) <| bC (o := .cells [ms RB y2_0] 26) (Zz (E := (Zp RB)) _ (L := ([y2_0] : List (List RI))) _ (show ([ms RB y2_0] : List Value) = Za (Zp RB) ([y2_0] : List (List RI)) from rfl)) <| bE)
  refine ok_bind fun z2 c2 => ?_;cases z2 with
  | r0 y2_0 =>
   exact okN [1, 3] [some (ms (Zp RF) L0), some (ms (Zcq .u8) L1), some (vs 1 0 1 1), some (vs 3 0 1 1), some (vi 1)] (kK (tQ (ZfT c2) 0) <| tB 1 <| kN ((((L0.getD 0 []).length : Nat) : Int) > 4) w1) (tC (tC (tC (tC (tC (tE) ⟨Eq.trans (show κK = vi 1 from ci) (by rfl), by rfl⟩) ⟨Eq.trans (show (vs 1 0 ([y2_0] : List (List RI)).length ([y2_0] : List (List RI)).length : Value) = vs 1 0 1 1 from (Zi rfl eqA eqA)) (by rfl), by rfl⟩) ⟨Eq.trans (show (vs 0 0 ([(L0.getD 0 [])] : List (List RM)).length ([(L0.getD 0 [])] : List (List RM)).length : Value) = vs 0 0 1 1 from (Zi rfl eqA eqA)) (by rfl), by rfl⟩))) (bC (o := .cells [ms RF (L0.getD 0 [])] 23) (Zz (E := (Zp RF)) _ (L := ([(L0.getD 0 [])] : List (List RM))) _ (show ([ms RF (L0.getD 0 [])] : List Value) = Za (Zp RF) ([(L0.getD 0 [])] : List (List RM)) from rfl)) <| bC (o := .cells [ms RB y2_0] 26) (Zz (E := (Zp RB)) _ (L := ([y2_0] : List (List RI))) _ (show ([ms RB y2_0] : List Value) = Za (Zp RB) ([y2_0] : List (List RI)) from rfl)) <| bE)
 refine ok_bind fun z1 c1 => ?_;cases z1 with
 | r0 =>
  refine ok_bind fun z2 c2 => ?_;cases z2 with
  | r0 =>
   exact Mach.okF0 [] (kKg 2 (tQ (Zbu c2) 1) <| kK (tQ (Z0G c1) 0) <| bhN g0 Zg) bE

end
noncomputable abbrev κca := (dP (1 ≤ 1 ∧ 1 ≤ 300000 ∧ Ev.rep [vq] (1 * 1) = [vq]))
noncomputable abbrev κb9 := (dP (1 ≤ 1 ∧ 1 ≤ 300000 ∧ Ev.rep [vn] (1 * 1) = [vn]))
noncomputable abbrev κb8 := (dP (2 ≤ 2 ∧ 2 ≤ 300000 ∧ Ev.rep [vq] (2 * 1) = [vq, vq]))
noncomputable abbrev κb7 := (dP (2 ≤ 2 ∧ 2 ≤ 300000 ∧ Ev.rep [vn] (2 * 1) = [vn, vn]))
noncomputable abbrev κb6 := (dP (3 ≤ 3 ∧ 3 ≤ 300000 ∧ Ev.rep [vq] (3 * 1) = [vq, vq, vq]))
noncomputable abbrev κb5 := (dP (3 ≤ 3 ∧ 3 ≤ 300000 ∧ Ev.rep [vn] (3 * 1) = [vn, vn, vn]))
noncomputable abbrev κb4 := (AObj.cells [vn, vn, vn] 58)
noncomputable abbrev κb3 := (vs 3 0 ([(0 : Int)] : List Int).length ([(0 : Int)] : List Int).length : Value)
noncomputable abbrev κb1 := (vs 3 0 ([(0 : Int), 0] : List Int).length ([(0 : Int), 0] : List Int).length : Value)
noncomputable abbrev κbZ := (vs 3 0 ([(0 : Int), 0, 0] : List Int).length ([(0 : Int), 0, 0] : List Int).length : Value)
section
variable (L1 : List Int) (v2 : List (List RM))
noncomputable abbrev κbw := [some (ms (Zcq .u8) L1), some (vs 0 0 v2.length v2.length), some (vp 2 0), some (vp 3 0), some (vs 4 0 3 3), some (vs 5 0 3 3), some (vq), some (vq), some (vq)]
noncomputable abbrev κbv := [some (ms (Zcq .u8) L1), some (vs 0 0 v2.length v2.length), some (vp 2 0), some (vp 3 0), some (vs 4 0 2 2), some (vs 5 0 2 2), some (vq), some (vq), some (vq)]
noncomputable abbrev κbu := [some (ms (Zcq .u8) L1), some (vs 0 0 v2.length v2.length), some (vp 2 0), some (vp 3 0), some (vs 4 0 1 1), some (vs 5 0 1 1), some (vq), some (vq), some (vq)]
end
noncomputable abbrev κH (v2 : List (List RM)) := (AObj.cells (Za (Zp RF) v2) 23)
theorem ZmC (L0 : List (List RM)) (L1 : List Int) (v2 : List (List RM)) (v3 : List (List RI)) (v4 N : Nat) : (Z2 L0 L1 N).Ok Tryz.prog Ze (.h1m1 v2 v3 v4 : Zc) (Zaa L0 L1 N v2 v3 v4) := by
 unfold Zaa;refine ok_ite (fun g0 => ?_) fun g0 => ?_
 ·
  refine ok_ite (fun g1 => ?_) fun g1 => ?_
  ·
   have w2 := lkG (Zp RF) L0 (0 + (v4 * 1)) v4 0 1 1 <| kB v4 L0.length <| xkI (v4 : Int) v4 <| bhY g1 <| bhY g0 Zg
   refine ok_ite (fun g2 => ?_) fun g2 => ?_
   ·
    refine ok_bind fun z3 c3 => ?_;cases z3 with
    | r0 y3_0 =>
     refine oi fun g4 => ?_;refine oi fun g5 => ?_;exact okN [3, 5] [some (ms (Zp RF) L0), some (ms (Zcq .u8) L1), some (vs 3 0 (v2.length + 1) (v2.length + 1)), some (vs 5 0 (v3.length + 1) (v3.length + 1)), some (vi (((v4 + 1) : Nat) : Int))] (vkW ((v4 : Int) + 1) (((v4 + 1) : Nat) : Int) <| wkA (Zp RB) v3 y3_0 <| wkA (Zp RF) v2 ((L0.getD v4 []).take 4) <| kK (tQ (ZfT c3) 2) <| kC (Znt (E := RF) (L := (L0.getD v4 [])) (R := ((L0.getD v4 []).take 4)) (l := 0) (h := 4) (size := 5) ltA ltA (by decide) (by simp)) <| kI 4 (Int.ofNat 4) <| tW 0 (.ms 0 4 ((L0.getD v4 []).take 4).length (Z9 RF ((L0.getD v4 []).take 4))) <| kR 0 <| bkY ((((L0.getD v4 []).length : Nat) : Int) > 4) w2) (tC (tC (tC (tC (tC (tE)) ⟨Eq.trans (show (vs 1 0 (v3 ++ ([y3_0] : List (List RI))).length (v3 ++ ([y3_0] : List (List RI))).length : Value) = vs 1 0 (v3.length + 1) (v3.length + 1) from (Zi rfl eqA eqA)) (by rfl), by rfl⟩) ⟨Eq.trans (show (vs 0 0 (v2 ++ ([((L0.getD v4 []).take 4)] : List (List RM))).length (v2 ++ ([((L0.getD v4 []).take 4)] : List (List RM))).length : Value) = vs 0 0 (v2.length + 1) (v2.length + 1) from (Zi rfl eqA eqA)) (by rfl), by rfl⟩))) (bR <| bR <| bE)
   refine ok_bind fun z3 c3 => ?_;cases z3 with
   | r0 y3_0 =>
    refine oi fun g4 => ?_;refine oi fun g5 => ?_;exact okN [3, 5] [some (ms (Zp RF) L0), some (ms (Zcq .u8) L1), some (vs 3 0 (v2.length + 1) (v2.length + 1)), some (vs 5 0 (v3.length + 1) (v3.length + 1)), some (vi (((v4 + 1) : Nat) : Int))] (vkW ((v4 : Int) + 1) (((v4 + 1) : Nat) : Int) <| wkA (Zp RB) v3 y3_0 <| wkA (Zp RF) v2 (L0.getD v4 []) <| kK (tQ (ZfT c3) 2) <| bkN ((((L0.getD v4 []).length : Nat) : Int) > 4) w2) (tC (tC (tC (tC (tC (tE)) ⟨Eq.trans (show (vs 1 0 (v3 ++ ([y3_0] : List (List RI))).length (v3 ++ ([y3_0] : List (List RI))).length : Value) = vs 1 0 (v3.length + 1) (v3.length + 1) from (Zi rfl eqA eqA)) (by rfl), by rfl⟩) ⟨Eq.trans (show (vs 0 0 (v2 ++ ([(L0.getD v4 [])] : List (List RM))).length (v2 ++ ([(L0.getD v4 [])] : List (List RM))).length : Value) = vs 0 0 (v2.length + 1) (v2.length + 1) from (Zi rfl eqA eqA)) (by rfl), by rfl⟩))) (bR <| bR <| bE)
  have w2 := bhN g1 <| bhY g0 Zg
  refine ok_bind fun z2 c2 => ?_;cases z2 with
  | r0 =>
   refine ok_ite (fun g3 => ?_) fun g3 => ?_
   ·
    refine ok_bind fun z4 c4 => ?_;cases z4 with
    | r0 =>
     exact Mach.okF0 [] (kKg 2 (tQ (Zbu c4) 3) <| tB 1 <| hT g3 <| kK (Zhi c2 [1] 2) w2) bE
   exact Mach.okF0 [] (tB 1 <| hF g3 <| kK (Zhi c2 [1] 2) w2) bE
  | r1 _ =>
   exact ok_none
  | r2 y2_0 y2_1 y2_2 =>
   have w3 := kK (ZjF c2 [1] 2) w2;refine ok_bind fun z3 c3 => ?_;cases z3 with
   | r0 =>
    have w4 := tW 0 (.apn 0 [] [] κa) <| kX (dP (List.map (nlV 0) [vn, vn, vn, vn] = κa)) true (Zn rfl) <| kKg 2 (tQ (Zbu c3) 3) w3
    refine ok_ite (fun g4 => ?_) fun g4 => ?_
    · exact Mach.ok_headW (bK := Zcy 2) (M := Z2 L0 L1 N) (cd := 1000000) (cm := 0) (y := (.h2m0 v2 ([(0 : Int)] : List Int) 0 0 0 y2_0 y2_1 y2_2 ([] : List Int) ([] : List Int) ([] : List Int) ([] : List Int) ([] : List RG) : Zc)) (fu := 4000) (orc := (Zhs (oq [1, 2]) [] [] [] [(0, (ZdO c2 [1] 2).t), (3, (tP (Zbu c3)).t), (4, .apn 0 [] [] κa), (5, .mk 1 1 [vq]), (6, .mk 1 1 [vn])])) (live := (0 :: (rg 2 4 [500000006]))) (tv := fun _ => (κbu L1 v2)) (bl := [some (κH v2), some (.cells [ms (Zp RB) y2_0, ms RE y2_1, ms RC y2_2] 34), some (.cells κa 52), some (.cells [vq] 3), some (.cells [vn] 58), none]) [some (κH v2), some (.cells [ms (Zp RB) y2_0, ms RE y2_1, ms RC y2_2] 34), some (.cells κa 52), some (.cells (Za eI ([(0 : Int)] : List Int)) 3), some (.cells [vn] 58), none] [(5, 44)] 1 ⟨(.inl rfl), ⟨(.inl rfl), ⟨(.inl rfl), ⟨(.inl rfl), ⟨(ZrD ⟨.inr ⟨rfl, _, rfl⟩, trivial⟩), ⟨(.inl rfl), trivial⟩⟩⟩⟩⟩⟩ (by rfl) (by rfl) rfl rfl (alE (by kernel_rfl)) (fun gv => by kernel_rfl) (kX κb9 true (Zn ⟨by decide, by decide, rfl⟩) <| kJ (v2.length : Int) 1 <| tW 0 (.mk 1 1 [vn]) <| kJ (v2.length : Int) 1 <| kX κca true (Zn ⟨by decide, by decide, rfl⟩) <| kJ (v2.length : Int) 1 <| tW 0 (.mk 1 1 [vq]) <| kJ (v2.length : Int) 1 w4) rfl (by decide +kernel) (by rfl) (fun _ => ⟨rr, ⟨rr, ⟨rr, ⟨rr, ⟨⟨Eq.trans (show κb3 = vs 3 0 1 1 from (Zi rfl eqA eqA)) (by rfl), by rfl⟩, ⟨rr, ⟨rr, ⟨⟨Eq.trans (show κg = vq from ci) (by rfl), by rfl⟩, ⟨⟨Eq.trans (show κg = vq from ci) (by rfl), by rfl⟩, trivial⟩⟩⟩⟩⟩⟩⟩⟩⟩) ⟨(ZbP (E := (Zp RF)) (α := List RM) _ v2 _), ⟨sm, ⟨sm, ⟨(Zz (E := eI) _ (L := ([(0 : Int)] : List Int)) _ (show ([vq] : List Value) = Za eI ([(0 : Int)] : List Int) from rfl)), ⟨sm, trivial⟩⟩⟩⟩⟩
    refine ok_ite (fun g5 => ?_) fun g5 => ?_
    · exact Mach.ok_headW (bK := Zcy 2) (M := Z2 L0 L1 N) (cd := 1000000) (cm := 0) (y := (.h2m1 v2 ([(0 : Int), 0] : List Int) 0 0 0 y2_0 y2_1 y2_2 ([] : List Int) ([] : List Int) ([] : List Int) ([] : List Int) ([] : List RG) ([] : List RG) : Zc)) (fu := 4000) (orc := (Zhs (oq [1, 2]) [] [] [] [(0, (ZdO c2 [1] 2).t), (3, (tP (Zbu c3)).t), (4, .apn 0 [] [] κa), (5, .mk 2 2 [vq, vq]), (6, .mk 2 2 [vn, vn])])) (live := (0 :: (rg 2 4 (500000006 :: [500000007])))) (tv := fun _ => (κbv L1 v2)) (bl := [some (κH v2), some (.cells [ms (Zp RB) y2_0, ms RE y2_1, ms RC y2_2] 34), some (.cells κa 52), some (.cells [vq, vq] 3), some (.cells [vn, vn] 58), none, none]) [some (κH v2), some (.cells [ms (Zp RB) y2_0, ms RE y2_1, ms RC y2_2] 34), some (.cells κa 52), some (.cells (Za eI ([(0 : Int), 0] : List Int)) 3), some (.cells [vn, vn] 58), none, none] [(5, 44), (6, 44)] 1 ⟨(.inl rfl), ⟨(.inl rfl), ⟨(.inl rfl), ⟨(.inl rfl), ⟨(ZrD ⟨.inr ⟨rfl, _, rfl⟩, ⟨.inr ⟨rfl, _, rfl⟩, trivial⟩⟩), ⟨(.inl rfl), ⟨(.inl rfl), trivial⟩⟩⟩⟩⟩⟩⟩ (by rfl) (by rfl) rfl rfl (alE (by kernel_rfl)) (fun gv => by kernel_rfl) (kX κb7 true (Zn ⟨by decide, by decide, rfl⟩) <| kJ (v2.length : Int) 2 <| tW 0 (.mk 2 2 [vn, vn]) <| kJ (v2.length : Int) 2 <| kX κb8 true (Zn ⟨by decide, by decide, rfl⟩) <| kJ (v2.length : Int) 2 <| tW 0 (.mk 2 2 [vq, vq]) <| kJ (v2.length : Int) 2 w4) rfl (by decide +kernel) (by rfl) (fun _ => ⟨rr, ⟨rr, ⟨rr, ⟨rr, ⟨⟨Eq.trans (show κb1 = vs 3 0 2 2 from (Zi rfl eqA eqA)) (by rfl), by rfl⟩, ⟨rr, ⟨rr, ⟨⟨Eq.trans (show κg = vq from ci) (by rfl), by rfl⟩, ⟨⟨Eq.trans (show κg = vq from ci) (by rfl), by rfl⟩, trivial⟩⟩⟩⟩⟩⟩⟩⟩⟩) ⟨(ZbP (E := (Zp RF)) (α := List RM) _ v2 _), ⟨sm, ⟨sm, ⟨(Zz (E := eI) _ (L := ([(0 : Int), 0] : List Int)) _ (show ([vq, vq] : List Value) = Za eI ([(0 : Int), 0] : List Int) from rfl)), ⟨sm, trivial⟩⟩⟩⟩⟩
    refine oi fun g6 => ?_;exact Mach.ok_headW (bK := Zcy 2) (M := Z2 L0 L1 N) (cd := 1000000) (cm := 0) (y := (.h2m2 v2 ([(0 : Int), 0, 0] : List Int) 0 0 0 y2_0 y2_1 y2_2 ([] : List Int) ([] : List Int) ([] : List Int) ([] : List Int) ([] : List RG) ([] : List RG) ([] : List RG) : Zc)) (fu := 4000) (orc := (Zhs (oq [1, 2]) [] [] [] [(0, (ZdO c2 [1] 2).t), (3, (tP (Zbu c3)).t), (4, .apn 0 [] [] κa), (5, .mk 3 3 [vq, vq, vq]), (6, .mk 3 3 [vn, vn, vn])])) (live := (0 :: (rg 2 4 (500000006 :: (500000007 :: [500000008]))))) (tv := fun _ => (κbw L1 v2)) (bl := [some (κH v2), some (.cells [ms (Zp RB) y2_0, ms RE y2_1, ms RC y2_2] 34), some (.cells κa 52), some (.cells [vq, vq, vq] 3), some κb4, none, none, none]) [some (κH v2), some (.cells [ms (Zp RB) y2_0, ms RE y2_1, ms RC y2_2] 34), some (.cells κa 52), some (.cells (Za eI ([(0 : Int), 0, 0] : List Int)) 3), some κb4, none, none, none] [(5, 44), (6, 44), (7, 44)] 1 ⟨(.inl rfl), ⟨(.inl rfl), ⟨(.inl rfl), ⟨(.inl rfl), ⟨(ZrD ⟨.inr ⟨rfl, _, rfl⟩, ⟨.inr ⟨rfl, _, rfl⟩, ⟨.inr ⟨rfl, _, rfl⟩, trivial⟩⟩⟩), ⟨(.inl rfl), ⟨(.inl rfl), ⟨(.inl rfl), trivial⟩⟩⟩⟩⟩⟩⟩⟩ (by rfl) (by rfl) rfl rfl (alE (by kernel_rfl)) (fun gv => by kernel_rfl) (kX κb5 true (Zn ⟨by decide, by decide, rfl⟩) <| kJ (v2.length : Int) 3 <| tW 0 (.mk 3 3 [vn, vn, vn]) <| kJ (v2.length : Int) 3 <| kX κb6 true (Zn ⟨by decide, by decide, rfl⟩) <| kJ (v2.length : Int) 3 <| tW 0 (.mk 3 3 [vq, vq, vq]) <| kJ (v2.length : Int) 3 w4) rfl (by decide +kernel) (by rfl) (fun _ => ⟨rr, ⟨rr, ⟨rr, ⟨rr, ⟨⟨Eq.trans (show κbZ = vs 3 0 3 3 from (Zi rfl eqA eqA)) (by rfl), by rfl⟩, ⟨rr, ⟨rr, ⟨⟨Eq.trans (show κg = vq from ci) (by rfl), by rfl⟩, ⟨⟨Eq.trans (show κg = vq from ci) (by rfl), by rfl⟩, trivial⟩⟩⟩⟩⟩⟩⟩⟩⟩) ⟨(ZbP (E := (Zp RF)) (α := List RM) _ v2 _), ⟨sm, ⟨sm, ⟨(Zz (E := eI) _ (L := ([(0 : Int), 0, 0] : List Int)) _ (show ([vq, vq, vq] : List Value) = Za eI ([(0 : Int), 0, 0] : List Int) from rfl)), ⟨sm, trivial⟩⟩⟩⟩⟩
 refine ok_bind fun z1 c1 => ?_;cases z1 with
 | r0 =>
  refine ok_ite (fun g2 => ?_) fun g2 => ?_
  ·
   refine ok_bind fun z3 c3 => ?_;cases z3 with
   | r0 =>
    exact Mach.okF0 [] (kKg 2 (tQ (Zbu c3) 3) <| tB 1 <| hT g2 <| kK (Zhi c1 [1] 2) <| bhN g0 Zg) bE
  exact Mach.okF0 [] (tB 1 <| hF g2 <| kK (Zhi c1 [1] 2) <| bhN g0 Zg) bE
 | r1 _ =>
  exact ok_none
 | r2 y1_0 y1_1 y1_2 =>
  have w2 := kK (ZjF c1 [1] 2) <| bhN g0 Zg
  refine ok_bind fun z2 c2 => ?_;cases z2 with
  | r0 =>
   have w3 := tW 0 (.apn 0 [] [] κa) <| kX (dP (List.map (nlV 0) [vn, vn, vn, vn] = κa)) true (Zn rfl) <| kKg 2 (tQ (Zbu c2) 3) w2
   refine ok_ite (fun g3 => ?_) fun g3 => ?_
   · exact Mach.ok_headW (bK := Zcy 2) (M := Z2 L0 L1 N) (cd := 1000000) (cm := 0) (y := (.h2m0 v2 ([(0 : Int)] : List Int) 0 0 0 y1_0 y1_1 y1_2 ([] : List Int) ([] : List Int) ([] : List Int) ([] : List Int) ([] : List RG) : Zc)) (fu := 4000) (orc := (Zhs (oq [0]) [] [] [] [(0, (ZdO c1 [1] 2).t), (3, (tP (Zbu c2)).t), (4, .apn 0 [] [] κa), (5, .mk 1 1 [vq]), (6, .mk 1 1 [vn])])) (live := (0 :: (rg 2 4 [500000006]))) (tv := fun _ => (κbu L1 v2)) (bl := [some (κH v2), some (.cells [ms (Zp RB) y1_0, ms RE y1_1, ms RC y1_2] 34), some (.cells κa 52), some (.cells [vq] 3), some (.cells [vn] 58), none]) [some (κH v2), some (.cells [ms (Zp RB) y1_0, ms RE y1_1, ms RC y1_2] 34), some (.cells κa 52), some (.cells (Za eI ([(0 : Int)] : List Int)) 3), some (.cells [vn] 58), none] [(5, 44)] 1 ⟨(.inl rfl), ⟨(.inl rfl), ⟨(.inl rfl), ⟨(.inl rfl), ⟨(ZrD ⟨.inr ⟨rfl, _, rfl⟩, trivial⟩), ⟨(.inl rfl), trivial⟩⟩⟩⟩⟩⟩ (by rfl) (by rfl) rfl rfl (alE (by kernel_rfl)) (fun gv => by kernel_rfl) (kX κb9 true (Zn ⟨by decide, by decide, rfl⟩) <| kJ (v2.length : Int) 1 <| tW 0 (.mk 1 1 [vn]) <| kJ (v2.length : Int) 1 <| kX κca true (Zn ⟨by decide, by decide, rfl⟩) <| kJ (v2.length : Int) 1 <| tW 0 (.mk 1 1 [vq]) <| kJ (v2.length : Int) 1 w3) rfl (by decide +kernel) (by rfl) (fun _ => ⟨rr, ⟨rr, ⟨rr, ⟨rr, ⟨⟨Eq.trans (show κb3 = vs 3 0 1 1 from (Zi rfl eqA eqA)) (by rfl), by rfl⟩, ⟨rr, ⟨rr, ⟨⟨Eq.trans (show κg = vq from ci) (by rfl), by rfl⟩, ⟨⟨Eq.trans (show κg = vq from ci) (by rfl), by rfl⟩, trivial⟩⟩⟩⟩⟩⟩⟩⟩⟩) ⟨(ZbP (E := (Zp RF)) (α := List RM) _ v2 _), ⟨sm, ⟨sm, ⟨(Zz (E := eI) _ (L := ([(0 : Int)] : List Int)) _ (show ([vq] : List Value) = Za eI ([(0 : Int)] : List Int) from rfl)), ⟨sm, trivial⟩⟩⟩⟩⟩
   refine ok_ite (fun g4 => ?_) fun g4 => ?_
   · exact Mach.ok_headW (bK := Zcy 2) (M := Z2 L0 L1 N) (cd := 1000000) (cm := 0) (y := (.h2m1 v2 ([(0 : Int), 0] : List Int) 0 0 0 y1_0 y1_1 y1_2 ([] : List Int) ([] : List Int) ([] : List Int) ([] : List Int) ([] : List RG) ([] : List RG) : Zc)) (fu := 4000) (orc := (Zhs (oq [0]) [] [] [] [(0, (ZdO c1 [1] 2).t), (3, (tP (Zbu c2)).t), (4, .apn 0 [] [] κa), (5, .mk 2 2 [vq, vq]), (6, .mk 2 2 [vn, vn])])) (live := (0 :: (rg 2 4 (500000006 :: [500000007])))) (tv := fun _ => (κbv L1 v2)) (bl := [some (κH v2), some (.cells [ms (Zp RB) y1_0, ms RE y1_1, ms RC y1_2] 34), some (.cells κa 52), some (.cells [vq, vq] 3), some (.cells [vn, vn] 58), none, none]) [some (κH v2), some (.cells [ms (Zp RB) y1_0, ms RE y1_1, ms RC y1_2] 34), some (.cells κa 52), some (.cells (Za eI ([(0 : Int), 0] : List Int)) 3), some (.cells [vn, vn] 58), none, none] [(5, 44), (6, 44)] 1 ⟨(.inl rfl), ⟨(.inl rfl), ⟨(.inl rfl), ⟨(.inl rfl), ⟨(ZrD ⟨.inr ⟨rfl, _, rfl⟩, ⟨.inr ⟨rfl, _, rfl⟩, trivial⟩⟩), ⟨(.inl rfl), ⟨(.inl rfl), trivial⟩⟩⟩⟩⟩⟩⟩ (by rfl) (by rfl) rfl rfl (alE (by kernel_rfl)) (fun gv => by kernel_rfl) (kX κb7 true (Zn ⟨by decide, by decide, rfl⟩) <| kJ (v2.length : Int) 2 <| tW 0 (.mk 2 2 [vn, vn]) <| kJ (v2.length : Int) 2 <| kX κb8 true (Zn ⟨by decide, by decide, rfl⟩) <| kJ (v2.length : Int) 2 <| tW 0 (.mk 2 2 [vq, vq]) <| kJ (v2.length : Int) 2 w3) rfl (by decide +kernel) (by rfl) (fun _ => ⟨rr, ⟨rr, ⟨rr, ⟨rr, ⟨⟨Eq.trans (show κb1 = vs 3 0 2 2 from (Zi rfl eqA eqA)) (by rfl), by rfl⟩, ⟨rr, ⟨rr, ⟨⟨Eq.trans (show κg = vq from ci) (by rfl), by rfl⟩, ⟨⟨Eq.trans (show κg = vq from ci) (by rfl), by rfl⟩, trivial⟩⟩⟩⟩⟩⟩⟩⟩⟩) ⟨(ZbP (E := (Zp RF)) (α := List RM) _ v2 _), ⟨sm, ⟨sm, ⟨(Zz (E := eI) _ (L := ([(0 : Int), 0] : List Int)) _ (show ([vq, vq] : List Value) = Za eI ([(0 : Int), 0] : List Int) from rfl)), ⟨sm, trivial⟩⟩⟩⟩⟩
   refine oi fun g5 => ?_;exact Mach.ok_headW (bK := Zcy 2) (M := Z2 L0 L1 N) (cd := 1000000) (cm := 0) (y := (.h2m2 v2 ([(0 : Int), 0, 0] : List Int) 0 0 0 y1_0 y1_1 y1_2 ([] : List Int) ([] : List Int) ([] : List Int) ([] : List Int) ([] : List RG) ([] : List RG) ([] : List RG) : Zc)) (fu := 4000) (orc := (Zhs (oq [0]) [] [] [] [(0, (ZdO c1 [1] 2).t), (3, (tP (Zbu c2)).t), (4, .apn 0 [] [] κa), (5, .mk 3 3 [vq, vq, vq]), (6, .mk 3 3 [vn, vn, vn])])) (live := (0 :: (rg 2 4 (500000006 :: (500000007 :: [500000008]))))) (tv := fun _ => (κbw L1 v2)) (bl := [some (κH v2), some (.cells [ms (Zp RB) y1_0, ms RE y1_1, ms RC y1_2] 34), some (.cells κa 52), some (.cells [vq, vq, vq] 3), some κb4, none, none, none]) [some (κH v2), some (.cells [ms (Zp RB) y1_0, ms RE y1_1, ms RC y1_2] 34), some (.cells κa 52), some (.cells (Za eI ([(0 : Int), 0, 0] : List Int)) 3), some κb4, none, none, none] [(5, 44), (6, 44), (7, 44)] 1 ⟨(.inl rfl), ⟨(.inl rfl), ⟨(.inl rfl), ⟨(.inl rfl), ⟨(ZrD ⟨.inr ⟨rfl, _, rfl⟩, ⟨.inr ⟨rfl, _, rfl⟩, ⟨.inr ⟨rfl, _, rfl⟩, trivial⟩⟩⟩), ⟨(.inl rfl), ⟨(.inl rfl), ⟨(.inl rfl), trivial⟩⟩⟩⟩⟩⟩⟩⟩ (by rfl) (by rfl) rfl rfl (alE (by kernel_rfl)) (fun gv => by kernel_rfl) (kX κb5 true (Zn ⟨by decide, by decide, rfl⟩) <| kJ (v2.length : Int) 3 <| tW 0 (.mk 3 3 [vn, vn, vn]) <| kJ (v2.length : Int) 3 <| kX κb6 true (Zn ⟨by decide, by decide, rfl⟩) <| kJ (v2.length : Int) 3 <| tW 0 (.mk 3 3 [vq, vq, vq]) <| kJ (v2.length : Int) 3 w3) rfl (by decide +kernel) (by rfl) (fun _ => ⟨rr, ⟨rr, ⟨rr, ⟨rr, ⟨⟨Eq.trans (show κbZ = vs 3 0 3 3 from (Zi rfl eqA eqA)) (by rfl), by rfl⟩, ⟨rr, ⟨rr, ⟨⟨Eq.trans (show κg = vq from ci) (by rfl), by rfl⟩, ⟨⟨Eq.trans (show κg = vq from ci) (by rfl), by rfl⟩, trivial⟩⟩⟩⟩⟩⟩⟩⟩⟩) ⟨(ZbP (E := (Zp RF)) (α := List RM) _ v2 _), ⟨sm, ⟨sm, ⟨(Zz (E := eI) _ (L := ([(0 : Int), 0, 0] : List Int)) _ (show ([vq, vq, vq] : List Value) = Za eI ([(0 : Int), 0, 0] : List Int) from rfl)), ⟨sm, trivial⟩⟩⟩⟩⟩

noncomputable abbrev κbS (v13 : List RG) := [vs 5 0 v13.length v13.length]
section
variable (v1 : List (List RM))
noncomputable abbrev κU := (dP (i64 = i64 ∧ (v1.length : Int) ≠ 0))
noncomputable abbrev κJ (v2 : List Int) := (vs 3 0 v2.length v2.length)
noncomputable abbrev κI := (vs 0 0 v1.length v1.length)
end
noncomputable abbrev κy (v6 : List (List RI)) (v7 : List RL) (v8 : List RJ) := [ms (Zp RB) v6, ms RE v7, ms RC v8]
section
variable (v9 v10 v11 v12 : List Int)
noncomputable abbrev κw := [ms eI v9, ms eI v10, ms eI v11, ms eI v12]
end
section
variable (L0 : List (List RM)) (L1 : List Int) (v1 : List (List RM)) (v2 : List Int) (v3 : Int) (v4 v5 : Nat) (v6 : List (List RI)) (v7 : List RL) (v8 : List RJ) (v9 v10 v11 v12 : List Int)
theorem ZmD (v13 : List RG) (N : Nat) : (Z2 L0 L1 N).Ok Tryz.prog Ze (.h2m0 v1 v2 v3 v4 v5 v6 v7 v8 v9 v10 v11 v12 v13 : Zc) (Zax L0 L1 N v1 v2 v3 v4 v5 v6 v7 v8 v9 v10 v11 v12 v13) := by
 unfold Zax;refine ok_ite (fun g0 => ?_) fun g0 => ?_
 ·
  refine ok_ite (fun g1 => ?_) fun g1 => ?_
  ·
   have w2 := tW 0 (.dv) <| kX (κU v1) true (Zn ⟨rfl, by omega⟩) <| bhY g1 <| bhY g0 Zg
   refine ok_ite (fun g2 => ?_) fun g2 => ?_
   ·
    refine ok_ite (fun g3 => ?_) fun g3 => ?_
    · refine oi fun g4 => ?_;refine oi fun g5 => ?_;exact okC 5 1 (rg 0 6 []) [some (ms (Zcq .u8) L1), some (κI v1), some (vp 1 0), some (vp 2 0), some (κJ v2), some (vs 4 0 1 1), some (vi v3), some (vq), some (vi (v5 : Int)), some (vi (Int.tmod (L1.getD v5 0) (v1.length : Int)))] (tW 0 (.dv) <| kX (κU v1) true (Zn ⟨rfl, by omega⟩) <| tV 1 <| kX ((i64.wrap (L1.getD v5 0)) == (L1.getD v5 0)) true (beq_iff_eq.2 (wrap_i64 ltA)) <| lkG (Zcq .u8) L1 (0 + (v5 * 1)) v5 0 1 1 <| kB v5 L1.length <| xkI (v5 : Int) v5 <| bhY g3 <| bhY g2 w2) (tC (tC (tC (tC (tC (tC (tC (tC (tC (tC (tE))) ⟨Eq.trans (show κg = vq from ci) (by rfl), by rfl⟩)))))))) (bR <| bS (κy v6 v7 v8) <| bS (κw v9 v10 v11 v12) <| bR <| bS (κbS v13) <| bQ <| bE)
    exact Mach.okC0 5 1 (rg 0 6 []) (bhN g3 <| bhY g2 w2) (bR <| bS (κy v6 v7 v8) <| bS (κw v9 v10 v11 v12) <| bR <| bS (κbS v13) <| bQ <| bE)
   exact Mach.okC0 5 1 (rg 0 6 []) (bhN g2 w2) (bR <| bS (κy v6 v7 v8) <| bS (κw v9 v10 v11 v12) <| bR <| bS (κbS v13) <| bQ <| bE)
  refine ok_bind fun z2 c2 => ?_;cases z2 with
  | r0 y2_0 =>
   exact okH (rg 0 6 []) [some (κI v1), some (vp 1 0), some (vp 2 0), some (κJ v2), some (vs 4 0 1 1), some (vq)] (kK (tQ (Zc3 c2) 6) <| bhN g1 <| bhY g0 Zg) (tC (tC (tC (tC (tC (tC (tE) ⟨Eq.trans (show κg = vq from ci) (by rfl), by rfl⟩)))))) (bR <| bS [ms (Zp RB) v6, ms RE y2_0, ms RC v8] <| bS (κw v9 v10 v11 v12) <| bR <| bS (κbS v13) <| bQ <| bE)
 refine ok_bind fun z1 c1 => ?_;cases z1 with
 | r0 y1_0 =>
  exact okH (rg 0 6 []) [some (κI v1), some (vp 1 0), some (vp 2 0), some (κJ v2), some (vs 4 0 1 1), some (vq)] (kK (tQ (Zc3 c1) 6) <| bhN g0 Zg) (tC (tC (tC (tC (tC (tC (tE) ⟨Eq.trans (show κg = vq from ci) (by rfl), by rfl⟩)))))) (bR <| bS [ms (Zp RB) v6, ms RE y1_0, ms RC v8] <| bS (κw v9 v10 v11 v12) <| bR <| bS (κbS v13) <| bQ <| bE)

noncomputable abbrev κ8 (v13 v14 : List RG) := [vs 5 0 v13.length v13.length, vs 6 0 v14.length v14.length]
theorem ZmE (v13 v14 : List RG) (N : Nat) : (Z2 L0 L1 N).Ok Tryz.prog Ze (.h2m1 v1 v2 v3 v4 v5 v6 v7 v8 v9 v10 v11 v12 v13 v14 : Zc) (Zay L0 L1 N v1 v2 v3 v4 v5 v6 v7 v8 v9 v10 v11 v12 v13 v14) := by
 unfold Zay;refine ok_ite (fun g0 => ?_) fun g0 => ?_
 ·
  refine ok_ite (fun g1 => ?_) fun g1 => ?_
  ·
   have w2 := tW 0 (.dv) <| kX (κU v1) true (Zn ⟨rfl, by omega⟩) <| bhY g1 <| bhY g0 Zg
   refine ok_ite (fun g2 => ?_) fun g2 => ?_
   ·
    refine ok_ite (fun g3 => ?_) fun g3 => ?_
    · refine oi fun g4 => ?_;refine oi fun g5 => ?_;exact okC 5 1 (rg 0 7 []) [some (ms (Zcq .u8) L1), some (κI v1), some (vp 1 0), some (vp 2 0), some (κJ v2), some (vs 4 0 2 2), some (vi v3), some (vq), some (vi (v5 : Int)), some (vi (Int.tmod (L1.getD v5 0) (v1.length : Int)))] (tW 0 (.dv) <| kX (κU v1) true (Zn ⟨rfl, by omega⟩) <| tV 1 <| kX ((i64.wrap (L1.getD v5 0)) == (L1.getD v5 0)) true (beq_iff_eq.2 (wrap_i64 ltA)) <| lkG (Zcq .u8) L1 (0 + (v5 * 1)) v5 0 1 1 <| kB v5 L1.length <| xkI (v5 : Int) v5 <| bhY g3 <| bhY g2 w2) (tC (tC (tC (tC (tC (tC (tC (tC (tC (tC (tE))) ⟨Eq.trans (show κg = vq from ci) (by rfl), by rfl⟩)))))))) (bR <| bS (κy v6 v7 v8) <| bS (κw v9 v10 v11 v12) <| bR <| bS (κ8 v13 v14) <| bQ <| bQ <| bE)
    exact Mach.okC0 5 1 (rg 0 7 []) (bhN g3 <| bhY g2 w2) (bR <| bS (κy v6 v7 v8) <| bS (κw v9 v10 v11 v12) <| bR <| bS (κ8 v13 v14) <| bQ <| bQ <| bE)
   exact Mach.okC0 5 1 (rg 0 7 []) (bhN g2 w2) (bR <| bS (κy v6 v7 v8) <| bS (κw v9 v10 v11 v12) <| bR <| bS (κ8 v13 v14) <| bQ <| bQ <| bE)
  refine ok_bind fun z2 c2 => ?_;cases z2 with
  | r0 y2_0 =>
   exact okH (rg 0 7 []) [some (κI v1), some (vp 1 0), some (vp 2 0), some (κJ v2), some (vs 4 0 2 2), some (vq)] (kK (tQ (Zc3 c2) 7) <| bhN g1 <| bhY g0 Zg) (tC (tC (tC (tC (tC (tC (tE) ⟨Eq.trans (show κg = vq from ci) (by rfl), by rfl⟩)))))) (bR <| bS [ms (Zp RB) v6, ms RE y2_0, ms RC v8] <| bS (κw v9 v10 v11 v12) <| bR <| bS (κ8 v13 v14) <| bQ <| bQ <| bE)
 refine ok_bind fun z1 c1 => ?_;cases z1 with
 | r0 y1_0 =>
  exact okH (rg 0 7 []) [some (κI v1), some (vp 1 0), some (vp 2 0), some (κJ v2), some (vs 4 0 2 2), some (vq)] (kK (tQ (Zc3 c1) 7) <| bhN g0 Zg) (tC (tC (tC (tC (tC (tC (tE) ⟨Eq.trans (show κg = vq from ci) (by rfl), by rfl⟩)))))) (bR <| bS [ms (Zp RB) v6, ms RE y1_0, ms RC v8] <| bS (κw v9 v10 v11 v12) <| bR <| bS (κ8 v13 v14) <| bQ <| bQ <| bE)

noncomputable abbrev κO (v13 v14 v15 : List RG) := [vs 5 0 v13.length v13.length, vs 6 0 v14.length v14.length, vs 7 0 v15.length v15.length]
theorem ZmF (v13 v14 v15 : List RG) (N : Nat) : (Z2 L0 L1 N).Ok Tryz.prog Ze (.h2m2 v1 v2 v3 v4 v5 v6 v7 v8 v9 v10 v11 v12 v13 v14 v15 : Zc) (Zaz L0 L1 N v1 v2 v3 v4 v5 v6 v7 v8 v9 v10 v11 v12 v13 v14 v15) := by
 unfold Zaz;refine ok_ite (fun g0 => ?_) fun g0 => ?_
 ·
  refine ok_ite (fun g1 => ?_) fun g1 => ?_
  ·
   have w2 := tW 0 (.dv) <| kX (κU v1) true (Zn ⟨rfl, by omega⟩) <| bhY g1 <| bhY g0 Zg
   refine ok_ite (fun g2 => ?_) fun g2 => ?_
   ·
    refine ok_ite (fun g3 => ?_) fun g3 => ?_
    · refine oi fun g4 => ?_;refine oi fun g5 => ?_;exact okC 5 1 (rg 0 8 []) [some (ms (Zcq .u8) L1), some (κI v1), some (vp 1 0), some (vp 2 0), some (κJ v2), some (vs 4 0 3 3), some (vi v3), some (vq), some (vi (v5 : Int)), some (vi (Int.tmod (L1.getD v5 0) (v1.length : Int)))] (tW 0 (.dv) <| kX (κU v1) true (Zn ⟨rfl, by omega⟩) <| tV 1 <| kX ((i64.wrap (L1.getD v5 0)) == (L1.getD v5 0)) true (beq_iff_eq.2 (wrap_i64 ltA)) <| lkG (Zcq .u8) L1 (0 + (v5 * 1)) v5 0 1 1 <| kB v5 L1.length <| xkI (v5 : Int) v5 <| bhY g3 <| bhY g2 w2) (tC (tC (tC (tC (tC (tC (tC (tC (tC (tC (tE))) ⟨Eq.trans (show κg = vq from ci) (by rfl), by rfl⟩)))))))) (bR <| bS (κy v6 v7 v8) <| bS (κw v9 v10 v11 v12) <| bR <| bS (κO v13 v14 v15) <| bQ <| bQ <| bQ <| bE)
    exact Mach.okC0 5 1 (rg 0 8 []) (bhN g3 <| bhY g2 w2) (bR <| bS (κy v6 v7 v8) <| bS (κw v9 v10 v11 v12) <| bR <| bS (κO v13 v14 v15) <| bQ <| bQ <| bQ <| bE)
   exact Mach.okC0 5 1 (rg 0 8 []) (bhN g2 w2) (bR <| bS (κy v6 v7 v8) <| bS (κw v9 v10 v11 v12) <| bR <| bS (κO v13 v14 v15) <| bQ <| bQ <| bQ <| bE)
  refine ok_bind fun z2 c2 => ?_;cases z2 with
  | r0 y2_0 =>
   exact okH (rg 0 8 []) [some (κI v1), some (vp 1 0), some (vp 2 0), some (κJ v2), some (vs 4 0 3 3), some (vq)] (kK (tQ (Zc3 c2) 8) <| bhN g1 <| bhY g0 Zg) (tC (tC (tC (tC (tC (tC (tE) ⟨Eq.trans (show κg = vq from ci) (by rfl), by rfl⟩)))))) (bR <| bS [ms (Zp RB) v6, ms RE y2_0, ms RC v8] <| bS (κw v9 v10 v11 v12) <| bR <| bS (κO v13 v14 v15) <| bQ <| bQ <| bQ <| bE)
 refine ok_bind fun z1 c1 => ?_;cases z1 with
 | r0 y1_0 =>
  exact okH (rg 0 8 []) [some (κI v1), some (vp 1 0), some (vp 2 0), some (κJ v2), some (vs 4 0 3 3), some (vq)] (kK (tQ (Zc3 c1) 8) <| bhN g0 Zg) (tC (tC (tC (tC (tC (tC (tE) ⟨Eq.trans (show κg = vq from ci) (by rfl), by rfl⟩)))))) (bR <| bS [ms (Zp RB) v6, ms RE y1_0, ms RC v8] <| bS (κw v9 v10 v11 v12) <| bR <| bS (κO v13 v14 v15) <| bQ <| bQ <| bQ <| bE)

end
noncomputable abbrev κbY (v14 : List RG) := (vs 5 0 (v14.length + 1) (v14.length + 1) : Value)
section
variable (v2 : List Int) (v6 : Int)
noncomputable abbrev κ4 := [vi (i64.wrap ((v2.getD (v6).toNat 0) + 1))]
noncomputable abbrev κL := (Za eI (v2.set (v6).toNat (i64.wrap ((v2.getD (v6).toNat 0) + 1))))
noncomputable abbrev κp (v7 : List (List RI)) (y0_0 : List RL) (y0_1 : List RJ) := [ms (Zp RB) v7, ms RE y0_0, ms RC y0_1]
noncomputable abbrev κn := (vs 3 0 (v2.set (v6).toNat (i64.wrap ((v2.getD (v6).toNat 0) + 1))).length (v2.set (v6).toNat (i64.wrap ((v2.getD (v6).toNat 0) + 1))).length : Value)
end
section
variable (L0 : List (List RM)) (L1 : List Int) (v1 : List (List RM)) (v2 : List Int) (v3 : Int) (v4 v5 : Nat) (v6 : Int) (v7 : List (List RI)) (v8 : List RL) (v9 : List RJ) (v10 v11 v12 : List Int)
theorem ZmG (v13 : List Int) (v14 : List RG) (N : Nat) : (Z2 L0 L1 N).Ok Tryz.prog Ze (.h3m0 v1 v2 v3 v4 v5 v6 v7 v8 v9 v10 v11 v12 v13 v14 : Zc) (Za0 L0 L1 N v1 v2 v3 v4 v5 v6 v7 v8 v9 v10 v11 v12 v13 v14) := by
 unfold Za0;refine ok_bind fun z0 c0 => ?_;cases z0 with
 | r0 y0_0 y0_1 y0_2 y0_3 =>
  refine ok_ite (fun g1 => ?_) fun g1 => ?_
  ·
   subst g1;refine oi fun g2 => ?_;refine oi fun g3 => ?_;refine oi fun g4 => ?_;refine oi fun g5 => ?_;refine ok_ite (fun _ => ok_none) (fun g6 => ?_);refine oi fun g7 => ?_;refine oi fun g8 => ?_;refine ok_bind fun z9 c9 => ?_;cases z9 with
   | r0 y9_0 y9_1 y9_2 y9_3 y9_4 y9_5 =>
    refine ok_ite (fun g10 => ?_) fun g10 => ?_
    · subst g10;refine oi fun g11 => ?_;refine oi fun g12 => ?_;refine oi fun g13 => ?_;exact okN (rg 0 5 [10]) [some (ms (Zcq .u8) L1), some (κI v1), some (vp 1 0), some (vp 2 0), some (κJ v2), some (vs 4 0 1 1), some (vi y0_2), some (vq), some (κbr v5)] (tV 1 <| kW ((v5 : Int) + 1) (((v5 + 1) : Nat) : Int) <| tW 1 (.st (κL v2 v6)) <| kC (Zbj (E := eI) (L := v2) (i := (v6).toNat) (q := 0) (l := (κ4 v2 v6)) (i64.wrap ((v2.getD (v6).toNat 0) + 1)) (by omega) (show (0 + ((v6).toNat * 1)) = (v6).toNat * 1 + 0 from by omega) (show 0 + 1 ≤ 1 from by decide) rfl) <| kB (v6).toNat v2.length <| xkI v6 ((v6).toNat) <| tL 2 [.i (v2.getD (v6).toNat 0)] <| kLn eI v2 ((v6).toNat) 0 1 <| kB (v6).toNat v2.length <| xkI v6 ((v6).toNat) <| kB 0 1 <| xkJ v6 0 <| tW 3 (.ap 1 [vi 1, vi y9_4] (Za RA (v14 ++ ([(⟨1, y9_4⟩ : RG)] : List RG)))) <| kA RA v14 (⟨1, y9_4⟩ : RG) <| kB 0 1 <| xkJ v6 0 <| tW 0 (.apn 0 [] [] κa) <| kX (dP (List.map (nlV 0) [vn, vn, vn, vn] = κa)) true (Zn rfl) <| kKg 3 (tQ (ZgG c9) 7) <| lkG RF (v1.getD (v6).toNat []) (0 + (((v2.getD (v6).toNat 0)).toNat * 5)) (((v2.getD (v6).toNat 0)).toNat) 0 5 5 <| kB ((v2.getD (v6).toNat 0)).toNat (v1.getD (v6).toNat []).length <| xkI (v2.getD (v6).toNat 0) (((v2.getD (v6).toNat 0)).toNat) <| Za2 eI v2 ((v6).toNat) 0 1 <| kB (v6).toNat v2.length <| xkI v6 ((v6).toNat) <| tL 1 ([(mc RF (v1.getD (v6).toNat []))]) <| kLn (Zp RF) v1 ((v6).toNat) 0 1 <| kB (v6).toNat v1.length <| xkI v6 ((v6).toNat) <| bhF g6 <| Za2 (Zp RF) v1 ((v6).toNat) 0 1 <| kB (v6).toNat v1.length <| xkI v6 ((v6).toNat) <| tL 2 [.i (v2.getD (v6).toNat 0)] <| kLn eI v2 ((v6).toNat) 0 1 <| kB (v6).toNat v2.length <| xkI v6 ((v6).toNat) <| vkW ((v4 : Int) + 1) (((v4 + 1) : Nat) : Int) <| kK (tQ (Zbt c0) 6) Zg) (tC (tC (tC (tC (tC (tC (tC (tC (tC (tE)) ⟨Eq.trans (show κg = vq from ci) (by rfl), by rfl⟩))) ⟨Eq.trans (show (κn v2 v6) = vs 3 0 v2.length v2.length from (Zi rfl eqA eqA)) (by rfl), by rfl⟩))))) (bR <| bS (κp v7 y0_0 y0_1) <| bS [ms eI y9_0, ms eI y9_1, ms eI y9_2, ms eI y9_3] <| bR <| bU [vs 10 0 (v14.length + 1) (v14.length + 1)] 0 (show (κbY v14) = vs 5 0 (v14 ++ ([(⟨1, y9_4⟩ : RG)] : List RG)).length (v14 ++ ([(⟨1, y9_4⟩ : RG)] : List RG)).length from Zi rfl eqA eqA) <| bQ <| bE)
    obtain rfl : y9_5 = false := by simpa using g10
    exact ok_none
  obtain rfl : y0_3 = false := by simpa using g1
  refine oi fun g2 => ?_;have w3 := vkW ((v4 : Int) + 1) (((v4 + 1) : Nat) : Int) <| kK (tQ (Zbt c0) 6) Zg
  refine oi fun g3 => ?_;refine oi fun g4 => ?_;have w5 := tL 2 [.i (v2.getD (v6).toNat 0)] <| kLn eI v2 ((v6).toNat) 0 1 <| kB (v6).toNat v2.length <| xkI v6 ((v6).toNat) w3
  refine oi fun g5 => ?_;have w6 := Za2 (Zp RF) v1 ((v6).toNat) 0 1 <| kB (v6).toNat v1.length <| xkI v6 ((v6).toNat) w5
  refine ok_ite (fun g6 => ?_) fun g6 => ?_
  · refine oi fun g7 => ?_;exact Mach.okN0 (rg 0 6 []) (vkW ((v5 : Int) + 1) (((v5 + 1) : Nat) : Int) <| bhT g6 w6) (bR <| bS (κp v7 y0_0 y0_1) <| bS [ms eI v10, ms eI v11, ms eI v12, ms eI v13] <| bR <| bS [vs 5 0 v14.length v14.length] <| bQ <| bE)
  refine oi fun g7 => ?_;refine oi fun g8 => ?_;refine ok_bind fun z9 c9 => ?_;cases z9 with
  | r0 y9_0 y9_1 y9_2 y9_3 y9_4 y9_5 =>
   refine ok_ite (fun g10 => ?_) fun g10 => ?_
   · subst g10;exact ok_none
   obtain rfl : y9_5 = false := by simpa using g10
   refine oi fun g11 => ?_;exact Mach.okN0 (rg 0 6 []) (vkW ((v5 : Int) + 1) (((v5 + 1) : Nat) : Int) <| tW 0 (.apn 0 [] [] κa) <| kX (dP (List.map (nlV 0) [vn, vn, vn, vn] = κa)) true (Zn rfl) <| kKg 3 (tQ (ZgG c9) 7) <| lkG RF (v1.getD (v6).toNat []) (0 + (((v2.getD (v6).toNat 0)).toNat * 5)) (((v2.getD (v6).toNat 0)).toNat) 0 5 5 <| kB ((v2.getD (v6).toNat 0)).toNat (v1.getD (v6).toNat []).length <| xkI (v2.getD (v6).toNat 0) (((v2.getD (v6).toNat 0)).toNat) <| Za2 eI v2 ((v6).toNat) 0 1 <| kB (v6).toNat v2.length <| xkI v6 ((v6).toNat) <| tL 1 ([(mc RF (v1.getD (v6).toNat []))]) <| kLn (Zp RF) v1 ((v6).toNat) 0 1 <| kB (v6).toNat v1.length <| xkI v6 ((v6).toNat) <| bhF g6 w6) (bR <| bS (κp v7 y0_0 y0_1) <| bS [ms eI v10, ms eI v11, ms eI v12, ms eI v13] <| bR <| bS [vs 5 0 v14.length v14.length] <| bQ <| bE)

theorem ZmH (v13 : List Int) (v14 v15 : List RG) (N : Nat) : (Z2 L0 L1 N).Ok Tryz.prog Ze (.h3m1 v1 v2 v3 v4 v5 v6 v7 v8 v9 v10 v11 v12 v13 v14 v15 : Zc) (Zab L0 L1 N v1 v2 v3 v4 v5 v6 v7 v8 v9 v10 v11 v12 v13 v14 v15) := by
 unfold Zab;refine ok_bind fun z0 c0 => ?_;cases z0 with
 | r0 y0_0 y0_1 y0_2 y0_3 =>
  refine ok_ite (fun g1 => ?_) fun g1 => ?_
  ·
   subst g1;refine oi fun g2 => ?_;have w3 := vkW ((v4 : Int) + 1) (((v4 + 1) : Nat) : Int) <| kK (tQ (Zbt c0) 7) Zg
   refine oi fun g3 => ?_;refine oi fun g4 => ?_;have w5 := tL 2 [.i (v2.getD (v6).toNat 0)] <| kLn eI v2 ((v6).toNat) 0 1 <| kB (v6).toNat v2.length <| xkI v6 ((v6).toNat) w3
   refine oi fun g5 => ?_;have w6 := Za2 (Zp RF) v1 ((v6).toNat) 0 1 <| kB (v6).toNat v1.length <| xkI v6 ((v6).toNat) w5
   refine ok_ite (fun _ => ok_none) (fun g6 => ?_);have w7 := Za2 eI v2 ((v6).toNat) 0 1 <| kB (v6).toNat v2.length <| xkI v6 ((v6).toNat) <| tL 1 ([(mc RF (v1.getD (v6).toNat []))]) <| kLn (Zp RF) v1 ((v6).toNat) 0 1 <| kB (v6).toNat v1.length <| xkI v6 ((v6).toNat) <| bhF g6 w6
   refine oi fun g7 => ?_;refine oi fun g8 => ?_;have w9 := lkG RF (v1.getD (v6).toNat []) (0 + (((v2.getD (v6).toNat 0)).toNat * 5)) (((v2.getD (v6).toNat 0)).toNat) 0 5 5 <| kB ((v2.getD (v6).toNat 0)).toNat (v1.getD (v6).toNat []).length <| xkI (v2.getD (v6).toNat 0) (((v2.getD (v6).toNat 0)).toNat) w7
   refine ok_bind fun z9 c9 => ?_;cases z9 with
   | r0 y9_0 y9_1 y9_2 y9_3 y9_4 y9_5 =>
    refine ok_ite (fun g10 => ?_) fun g10 => ?_
    ·
     subst g10;have w11 := tW 0 (.apn 0 [] [] κa) <| kX (dP (List.map (nlV 0) [vn, vn, vn, vn] = κa)) true (Zn rfl) <| kKg 3 (tQ (ZgG c9) 8) w9
     refine ok_ite (fun g11 => ?_) fun g11 => ?_
     · refine oi fun g12 => ?_;refine oi fun g13 => ?_;exact okN (rg 0 5 (11 :: [6])) [some (ms (Zcq .u8) L1), some (κI v1), some (vp 1 0), some (vp 2 0), some (κJ v2), some (vs 4 0 2 2), some (vi y0_2), some (vq), some (κbr v5)] (tV 1 <| kW ((v5 : Int) + 1) (((v5 + 1) : Nat) : Int) <| tW 1 (.st (κL v2 v6)) <| kC (Zbj (E := eI) (L := v2) (i := (v6).toNat) (q := 0) (l := (κ4 v2 v6)) (i64.wrap ((v2.getD (v6).toNat 0) + 1)) (by omega) (show (0 + ((v6).toNat * 1)) = (v6).toNat * 1 + 0 from by omega) (show 0 + 1 ≤ 1 from by decide) rfl) <| kB (v6).toNat v2.length <| xkI v6 ((v6).toNat) <| tL 2 [.i (v2.getD (v6).toNat 0)] <| kLn eI v2 ((v6).toNat) 0 1 <| kB (v6).toNat v2.length <| xkI v6 ((v6).toNat) <| kB 0 2 <| xkJ v6 0 <| tW 3 (.ap 1 [vi 1, vi y9_4] (Za RA (v14 ++ ([(⟨1, y9_4⟩ : RG)] : List RG)))) <| kA RA v14 (⟨1, y9_4⟩ : RG) <| kB 0 2 <| xkJ v6 0 w11) (tC (tC (tC (tC (tC (tC (tC (tC (tC (tE)) ⟨Eq.trans (show κg = vq from ci) (by rfl), by rfl⟩))) ⟨Eq.trans (show (κn v2 v6) = vs 3 0 v2.length v2.length from (Zi rfl eqA eqA)) (by rfl), by rfl⟩))))) (bR <| bS (κp v7 y0_0 y0_1) <| bS [ms eI y9_0, ms eI y9_1, ms eI y9_2, ms eI y9_3] <| bR <| bU [vs 11 0 (v14.length + 1) (v14.length + 1), vs 6 0 v15.length v15.length] 0 (show (κbY v14) = vs 5 0 (v14 ++ ([(⟨1, y9_4⟩ : RG)] : List RG)).length (v14 ++ ([(⟨1, y9_4⟩ : RG)] : List RG)).length from Zi rfl eqA eqA) <| bQ <| bQ <| bE)
     refine oi fun g12 => ?_;refine oi fun g13 => ?_;refine oi fun g14 => ?_;exact okN (rg 0 6 [11]) [some (ms (Zcq .u8) L1), some (κI v1), some (vp 1 0), some (vp 2 0), some (κJ v2), some (vs 4 0 2 2), some (vi y0_2), some (vq), some (κbr v5)] (tV 1 <| kW ((v5 : Int) + 1) (((v5 + 1) : Nat) : Int) <| tW 1 (.st (κL v2 v6)) <| kC (Zbj (E := eI) (L := v2) (i := (v6).toNat) (q := 0) (l := (κ4 v2 v6)) (i64.wrap ((v2.getD (v6).toNat 0) + 1)) (by omega) (show (0 + ((v6).toNat * 1)) = (v6).toNat * 1 + 0 from by omega) (show 0 + 1 ≤ 1 from by decide) rfl) <| kB (v6).toNat v2.length <| xkI v6 ((v6).toNat) <| tL 2 [.i (v2.getD (v6).toNat 0)] <| kLn eI v2 ((v6).toNat) 0 1 <| kB (v6).toNat v2.length <| xkI v6 ((v6).toNat) <| kB 1 2 <| xkJ v6 1 <| tW 3 (.ap 1 [vi 1, vi y9_4] (Za RA (v15 ++ ([(⟨1, y9_4⟩ : RG)] : List RG)))) <| kA RA v15 (⟨1, y9_4⟩ : RG) <| kB 1 2 <| xkJ v6 1 w11) (tC (tC (tC (tC (tC (tC (tC (tC (tC (tE)) ⟨Eq.trans (show κg = vq from ci) (by rfl), by rfl⟩))) ⟨Eq.trans (show (κn v2 v6) = vs 3 0 v2.length v2.length from (Zi rfl eqA eqA)) (by rfl), by rfl⟩))))) (bR <| bS (κp v7 y0_0 y0_1) <| bS [ms eI y9_0, ms eI y9_1, ms eI y9_2, ms eI y9_3] <| bR <| bU [vs 5 0 v14.length v14.length, vs 11 0 (v15.length + 1) (v15.length + 1)] 1 (show (vs 6 0 (v15.length + 1) (v15.length + 1) : Value) = vs 6 0 (v15 ++ ([(⟨1, y9_4⟩ : RG)] : List RG)).length (v15 ++ ([(⟨1, y9_4⟩ : RG)] : List RG)).length from Zi rfl eqA eqA) <| bQ <| bQ <| bE)
    obtain rfl : y9_5 = false := by simpa using g10
    exact ok_none
  obtain rfl : y0_3 = false := by simpa using g1
  refine oi fun g2 => ?_;have w3 := vkW ((v4 : Int) + 1) (((v4 + 1) : Nat) : Int) <| kK (tQ (Zbt c0) 7) Zg
  refine oi fun g3 => ?_;refine oi fun g4 => ?_;have w5 := tL 2 [.i (v2.getD (v6).toNat 0)] <| kLn eI v2 ((v6).toNat) 0 1 <| kB (v6).toNat v2.length <| xkI v6 ((v6).toNat) w3
  refine oi fun g5 => ?_;have w6 := Za2 (Zp RF) v1 ((v6).toNat) 0 1 <| kB (v6).toNat v1.length <| xkI v6 ((v6).toNat) w5
  refine ok_ite (fun g6 => ?_) fun g6 => ?_
  · refine oi fun g7 => ?_;exact Mach.okN0 (rg 0 7 []) (vkW ((v5 : Int) + 1) (((v5 + 1) : Nat) : Int) <| bhT g6 w6) (bR <| bS (κp v7 y0_0 y0_1) <| bS [ms eI v10, ms eI v11, ms eI v12, ms eI v13] <| bR <| bS [vs 5 0 v14.length v14.length, vs 6 0 v15.length v15.length] <| bQ <| bQ <| bE)
  refine oi fun g7 => ?_;refine oi fun g8 => ?_;refine ok_bind fun z9 c9 => ?_;cases z9 with
  | r0 y9_0 y9_1 y9_2 y9_3 y9_4 y9_5 =>
   refine ok_ite (fun g10 => ?_) fun g10 => ?_
   · subst g10;exact ok_none
   obtain rfl : y9_5 = false := by simpa using g10
   refine oi fun g11 => ?_;exact Mach.okN0 (rg 0 7 []) (vkW ((v5 : Int) + 1) (((v5 + 1) : Nat) : Int) <| tW 0 (.apn 0 [] [] κa) <| kX (dP (List.map (nlV 0) [vn, vn, vn, vn] = κa)) true (Zn rfl) <| kKg 3 (tQ (ZgG c9) 8) <| lkG RF (v1.getD (v6).toNat []) (0 + (((v2.getD (v6).toNat 0)).toNat * 5)) (((v2.getD (v6).toNat 0)).toNat) 0 5 5 <| kB ((v2.getD (v6).toNat 0)).toNat (v1.getD (v6).toNat []).length <| xkI (v2.getD (v6).toNat 0) (((v2.getD (v6).toNat 0)).toNat) <| Za2 eI v2 ((v6).toNat) 0 1 <| kB (v6).toNat v2.length <| xkI v6 ((v6).toNat) <| tL 1 ([(mc RF (v1.getD (v6).toNat []))]) <| kLn (Zp RF) v1 ((v6).toNat) 0 1 <| kB (v6).toNat v1.length <| xkI v6 ((v6).toNat) <| bhF g6 w6) (bR <| bS (κp v7 y0_0 y0_1) <| bS [ms eI v10, ms eI v11, ms eI v12, ms eI v13] <| bR <| bS [vs 5 0 v14.length v14.length, vs 6 0 v15.length v15.length] <| bQ <| bQ <| bE)

noncomputable abbrev κF (L1 : List Int) (v1 : List (List RM)) (v2 : List Int) (y0_2 : Int) (v5 : Nat) := [some (ms (Zcq .u8) L1), some (κI v1), some (vp 1 0), some (vp 2 0), some (κJ v2), some (vs 4 0 3 3), some (vi y0_2), some (vq), some (κbr v5)]
theorem ZmI (v13 : List Int) (v14 v15 v16 : List RG) (N : Nat) : (Z2 L0 L1 N).Ok Tryz.prog Ze (.h3m2 v1 v2 v3 v4 v5 v6 v7 v8 v9 v10 v11 v12 v13 v14 v15 v16 : Zc) (ZK L0 L1 N v1 v2 v3 v4 v5 v6 v7 v8 v9 v10 v11 v12 v13 v14 v15 v16) := by
 unfold ZK;refine ok_bind fun z0 c0 => ?_;cases z0 with
 | r0 y0_0 y0_1 y0_2 y0_3 =>
  refine ok_ite (fun g1 => ?_) fun g1 => ?_
  ·
   subst g1;have w2 := kK (tQ (Zbt c0) 8) Zg;refine oi fun g2 => ?_;have w3 := vkW ((v4 : Int) + 1) (((v4 + 1) : Nat) : Int) w2;refine oi fun g3 => ?_;refine oi fun g4 => ?_;have w5 := tL 2 [.i (v2.getD (v6).toNat 0)] <| kLn eI v2 ((v6).toNat) 0 1 <| kB (v6).toNat v2.length <| xkI v6 ((v6).toNat) w3
   refine oi fun g5 => ?_;have w6 := Za2 (Zp RF) v1 ((v6).toNat) 0 1 <| kB (v6).toNat v1.length <| xkI v6 ((v6).toNat) w5
   refine ok_ite (fun _ => ok_none) (fun g6 => ?_);have w7 := Za2 eI v2 ((v6).toNat) 0 1 <| kB (v6).toNat v2.length <| xkI v6 ((v6).toNat) <| tL 1 ([(mc RF (v1.getD (v6).toNat []))]) <| kLn (Zp RF) v1 ((v6).toNat) 0 1 <| kB (v6).toNat v1.length <| xkI v6 ((v6).toNat) <| bhF g6 w6
   refine oi fun g7 => ?_;refine oi fun g8 => ?_;have w9 := lkG RF (v1.getD (v6).toNat []) (0 + (((v2.getD (v6).toNat 0)).toNat * 5)) (((v2.getD (v6).toNat 0)).toNat) 0 5 5 <| kB ((v2.getD (v6).toNat 0)).toNat (v1.getD (v6).toNat []).length <| xkI (v2.getD (v6).toNat 0) (((v2.getD (v6).toNat 0)).toNat) w7
   refine ok_bind fun z9 c9 => ?_;cases z9 with
   | r0 y9_0 y9_1 y9_2 y9_3 y9_4 y9_5 =>
    refine ok_ite (fun g10 => ?_) fun g10 => ?_
    ·
     subst g10;have w11 := tW 0 (.apn 0 [] [] κa) <| kX (dP (List.map (nlV 0) [vn, vn, vn, vn] = κa)) true (Zn rfl) <| kKg 3 (tQ (ZgG c9) 9) w9
     refine ok_ite (fun g11 => ?_) fun g11 => ?_
     · refine oi fun g12 => ?_;refine oi fun g13 => ?_;exact okN (rg 0 5 (12 :: (6 :: [7]))) (κF L1 v1 v2 y0_2 v5) (tV 1 <| kW ((v5 : Int) + 1) (((v5 + 1) : Nat) : Int) <| tW 1 (.st (κL v2 v6)) <| kC (Zbj (E := eI) (L := v2) (i := (v6).toNat) (q := 0) (l := (κ4 v2 v6)) (i64.wrap ((v2.getD (v6).toNat 0) + 1)) (by omega) (show (0 + ((v6).toNat * 1)) = (v6).toNat * 1 + 0 from by omega) (show 0 + 1 ≤ 1 from by decide) rfl) <| kB (v6).toNat v2.length <| xkI v6 ((v6).toNat) <| tL 2 [.i (v2.getD (v6).toNat 0)] <| kLn eI v2 ((v6).toNat) 0 1 <| kB (v6).toNat v2.length <| xkI v6 ((v6).toNat) <| kB 0 3 <| xkJ v6 0 <| tW 3 (.ap 1 [vi 1, vi y9_4] (Za RA (v14 ++ ([(⟨1, y9_4⟩ : RG)] : List RG)))) <| kA RA v14 (⟨1, y9_4⟩ : RG) <| kB 0 3 <| xkJ v6 0 w11) (tC (tC (tC (tC (tC (tC (tC (tC (tC (tE)) ⟨Eq.trans (show κg = vq from ci) (by rfl), by rfl⟩))) ⟨Eq.trans (show (κn v2 v6) = vs 3 0 v2.length v2.length from (Zi rfl eqA eqA)) (by rfl), by rfl⟩))))) (bR <| bS (κp v7 y0_0 y0_1) <| bS [ms eI y9_0, ms eI y9_1, ms eI y9_2, ms eI y9_3] <| bR <| bU [vs 12 0 (v14.length + 1) (v14.length + 1), vs 6 0 v15.length v15.length, vs 7 0 v16.length v16.length] 0 (show (κbY v14) = vs 5 0 (v14 ++ ([(⟨1, y9_4⟩ : RG)] : List RG)).length (v14 ++ ([(⟨1, y9_4⟩ : RG)] : List RG)).length from Zi rfl eqA eqA) <| bQ <| bQ <| bQ <| bE)
     refine ok_ite (fun g12 => ?_) fun g12 => ?_
     · refine oi fun g13 => ?_;refine oi fun g14 => ?_;exact okN (rg 0 6 (12 :: [7])) (κF L1 v1 v2 y0_2 v5) (tV 1 <| kW ((v5 : Int) + 1) (((v5 + 1) : Nat) : Int) <| tW 1 (.st (κL v2 v6)) <| kC (Zbj (E := eI) (L := v2) (i := (v6).toNat) (q := 0) (l := (κ4 v2 v6)) (i64.wrap ((v2.getD (v6).toNat 0) + 1)) (by omega) (show (0 + ((v6).toNat * 1)) = (v6).toNat * 1 + 0 from by omega) (show 0 + 1 ≤ 1 from by decide) rfl) <| kB (v6).toNat v2.length <| xkI v6 ((v6).toNat) <| tL 2 [.i (v2.getD (v6).toNat 0)] <| kLn eI v2 ((v6).toNat) 0 1 <| kB (v6).toNat v2.length <| xkI v6 ((v6).toNat) <| kB 1 3 <| xkJ v6 1 <| tW 3 (.ap 1 [vi 1, vi y9_4] (Za RA (v15 ++ ([(⟨1, y9_4⟩ : RG)] : List RG)))) <| kA RA v15 (⟨1, y9_4⟩ : RG) <| kB 1 3 <| xkJ v6 1 w11) (tC (tC (tC (tC (tC (tC (tC (tC (tC (tE)) ⟨Eq.trans (show κg = vq from ci) (by rfl), by rfl⟩))) ⟨Eq.trans (show (κn v2 v6) = vs 3 0 v2.length v2.length from (Zi rfl eqA eqA)) (by rfl), by rfl⟩))))) (bR <| bS (κp v7 y0_0 y0_1) <| bS [ms eI y9_0, ms eI y9_1, ms eI y9_2, ms eI y9_3] <| bR <| bU [vs 5 0 v14.length v14.length, vs 12 0 (v15.length + 1) (v15.length + 1), vs 7 0 v16.length v16.length] 1 (show (vs 6 0 (v15.length + 1) (v15.length + 1) : Value) = vs 6 0 (v15 ++ ([(⟨1, y9_4⟩ : RG)] : List RG)).length (v15 ++ ([(⟨1, y9_4⟩ : RG)] : List RG)).length from Zi rfl eqA eqA) <| bQ <| bQ <| bQ <| bE)
     refine oi fun g13 => ?_;refine oi fun g14 => ?_;refine oi fun g15 => ?_;exact okN (rg 0 7 [12]) (κF L1 v1 v2 y0_2 v5) (tV 1 <| kW ((v5 : Int) + 1) (((v5 + 1) : Nat) : Int) <| tW 1 (.st (κL v2 v6)) <| kC (Zbj (E := eI) (L := v2) (i := (v6).toNat) (q := 0) (l := (κ4 v2 v6)) (i64.wrap ((v2.getD (v6).toNat 0) + 1)) (by omega) (show (0 + ((v6).toNat * 1)) = (v6).toNat * 1 + 0 from by omega) (show 0 + 1 ≤ 1 from by decide) rfl) <| kB (v6).toNat v2.length <| xkI v6 ((v6).toNat) <| tL 2 [.i (v2.getD (v6).toNat 0)] <| kLn eI v2 ((v6).toNat) 0 1 <| kB (v6).toNat v2.length <| xkI v6 ((v6).toNat) <| kB 2 3 <| xkJ v6 2 <| tW 3 (.ap 1 [vi 1, vi y9_4] (Za RA (v16 ++ ([(⟨1, y9_4⟩ : RG)] : List RG)))) <| kA RA v16 (⟨1, y9_4⟩ : RG) <| kB 2 3 <| xkJ v6 2 w11) (tC (tC (tC (tC (tC (tC (tC (tC (tC (tE)) ⟨Eq.trans (show κg = vq from ci) (by rfl), by rfl⟩))) ⟨Eq.trans (show (κn v2 v6) = vs 3 0 v2.length v2.length from (Zi rfl eqA eqA)) (by rfl), by rfl⟩))))) (bR <| bS (κp v7 y0_0 y0_1) <| bS [ms eI y9_0, ms eI y9_1, ms eI y9_2, ms eI y9_3] <| bR <| bU [vs 5 0 v14.length v14.length, vs 6 0 v15.length v15.length, vs 12 0 (v16.length + 1) (v16.length + 1)] 2 (show (vs 7 0 (v16.length + 1) (v16.length + 1) : Value) = vs 7 0 (v16 ++ ([(⟨1, y9_4⟩ : RG)] : List RG)).length (v16 ++ ([(⟨1, y9_4⟩ : RG)] : List RG)).length from Zi rfl eqA eqA) <| bQ <| bQ <| bQ <| bE)
    obtain rfl : y9_5 = false := by simpa using g10
    exact ok_none
  obtain rfl : y0_3 = false := by simpa using g1
  refine oi fun g2 => ?_;have w3 := vkW ((v4 : Int) + 1) (((v4 + 1) : Nat) : Int) <| kK (tQ (Zbt c0) 8) Zg
  refine oi fun g3 => ?_;refine oi fun g4 => ?_;have w5 := tL 2 [.i (v2.getD (v6).toNat 0)] <| kLn eI v2 ((v6).toNat) 0 1 <| kB (v6).toNat v2.length <| xkI v6 ((v6).toNat) w3
  refine oi fun g5 => ?_;have w6 := Za2 (Zp RF) v1 ((v6).toNat) 0 1 <| kB (v6).toNat v1.length <| xkI v6 ((v6).toNat) w5
  refine ok_ite (fun g6 => ?_) fun g6 => ?_
  · refine oi fun g7 => ?_;exact Mach.okN0 (rg 0 8 []) (vkW ((v5 : Int) + 1) (((v5 + 1) : Nat) : Int) <| bhT g6 w6) (bR <| bS (κp v7 y0_0 y0_1) <| bS [ms eI v10, ms eI v11, ms eI v12, ms eI v13] <| bR <| bS (κbl v14 v15 v16) <| bQ <| bQ <| bQ <| bE)
  refine oi fun g7 => ?_;refine oi fun g8 => ?_;refine ok_bind fun z9 c9 => ?_;cases z9 with
  | r0 y9_0 y9_1 y9_2 y9_3 y9_4 y9_5 =>
   refine ok_ite (fun g10 => ?_) fun g10 => ?_
   · subst g10;exact ok_none
   obtain rfl : y9_5 = false := by simpa using g10
   refine oi fun g11 => ?_;exact Mach.okN0 (rg 0 8 []) (vkW ((v5 : Int) + 1) (((v5 + 1) : Nat) : Int) <| tW 0 (.apn 0 [] [] κa) <| kX (dP (List.map (nlV 0) [vn, vn, vn, vn] = κa)) true (Zn rfl) <| kKg 3 (tQ (ZgG c9) 9) <| lkG RF (v1.getD (v6).toNat []) (0 + (((v2.getD (v6).toNat 0)).toNat * 5)) (((v2.getD (v6).toNat 0)).toNat) 0 5 5 <| kB ((v2.getD (v6).toNat 0)).toNat (v1.getD (v6).toNat []).length <| xkI (v2.getD (v6).toNat 0) (((v2.getD (v6).toNat 0)).toNat) <| Za2 eI v2 ((v6).toNat) 0 1 <| kB (v6).toNat v2.length <| xkI v6 ((v6).toNat) <| tL 1 ([(mc RF (v1.getD (v6).toNat []))]) <| kLn (Zp RF) v1 ((v6).toNat) 0 1 <| kB (v6).toNat v1.length <| xkI v6 ((v6).toNat) <| bhF g6 w6) (bR <| bS (κp v7 y0_0 y0_1) <| bS [ms eI v10, ms eI v11, ms eI v12, ms eI v13] <| bR <| bS (κbl v14 v15 v16) <| bQ <| bQ <| bQ <| bE)

end
noncomputable abbrev κb2 := [some (vp 1 0), some (vp 2 0), some (vq)]
section
variable (v6 v7 v8 v9 : List Int)
noncomputable abbrev κx := [ms eI v6, ms eI v7, ms eI v8, ms eI v9]
end
noncomputable abbrev κk (v3 : List (List RI)) (v4 : List RL) (v5 : List RJ) := [ms (Zp RB) v3, ms RE v4, ms RC v5]
section
variable (L0 : List (List RM)) (L1 : List Int) (v0 : List (List RM)) (v1 : List Int) (v2 : Nat) (v3 : List (List RI)) (v4 : List RL) (v5 : List RJ) (v6 v7 v8 v9 : List Int) (v10 : List RG)
theorem ZmJ (N : Nat) : (Z2 L0 L1 N).Ok Tryz.prog Ze (.h4m0 v0 v1 v2 v3 v4 v5 v6 v7 v8 v9 v10 : Zc) (ZbK L0 L1 N v0 v1 v2 v3 v4 v5 v6 v7 v8 v9 v10) := by
 unfold ZbK;refine ok_ite (fun g0 => ?_) fun g0 => ?_
 ·
  refine oi fun g1 => ?_;have w2 := tL 1 [(mc RA (v4.getD v2 RL.z).a19)] <| kG RE v4 ((0 + (v2 * 20)) + 19) v2 19 1 20 <| kB v2 v4.length <| xkI (v2 : Int) v2 <| bhY g0 Zg
  refine oi fun g2 => ?_;refine ok_bind fun z3 c3 => ?_;cases z3 with
  | r0 =>
   have w4 := tL 2 [.i (v4.getD v2 RL.z).a0] <| kG RE v4 ((0 + (v2 * 20)) + 0) v2 0 1 20 <| kB v2 v4.length <| xkI (v2 : Int) v2 <| kK (Zei c3 [5] 6) <| kB 0 1 <| xkJ (v2 : Int) 0 w2
   refine ok_ite (fun g4 => ?_) fun g4 => ?_
   · refine oi fun g5 => ?_;refine oi fun g6 => ?_;exact Mach.okN0 (rg 0 6 []) (vkW ((v2 : Int) + 1) (((v2 + 1) : Nat) : Int) <| tB 1 <| kF ((v4.getD v2 RL.z).a0) 3 <| tL 1 [.i (v4.getD v2 RL.z).a0] <| kG RE v4 ((0 + (v2 * 20)) + 0) v2 0 1 20 <| kB v2 v4.length <| xkI (v2 : Int) v2 <| bhT g6 <| Za2 (Zp RF) v0 v2 0 1 <| kB v2 v0.length <| xkI (v2 : Int) v2 <| Za2 eI v1 v2 0 1 <| kB v2 v1.length <| xkI (v2 : Int) v2 <| tB 1 <| hT g4 w4) (bR <| bS (κk v3 v4 v5) <| bS (κx v6 v7 v8 v9) <| bR <| bS [vs 5 0 v10.length v10.length] <| bQ <| bE)
   refine oi fun g5 => ?_;refine ok_ite (fun _ => ok_none) (fun g6 => ?_);refine ok_ite (fun _ => ok_none) (fun g7 => ?_);exact Mach.okN0 (rg 0 6 []) (vkW ((v2 : Int) + 1) (((v2 + 1) : Nat) : Int) <| tB 1 <| hF g7 <| tL 1 [.i (v4.getD v2 RL.z).a0] <| kG RE v4 ((0 + (v2 * 20)) + 0) v2 0 1 20 <| kB v2 v4.length <| xkI (v2 : Int) v2 <| bhF g6 <| Za2 (Zp RF) v0 v2 0 1 <| kB v2 v0.length <| xkI (v2 : Int) v2 <| Za2 eI v1 v2 0 1 <| kB v2 v1.length <| xkI (v2 : Int) v2 <| tB 1 <| hF g4 w4) (bR <| bS (κk v3 v4 v5) <| bS (κx v6 v7 v8 v9) <| bR <| bS [vs 5 0 v10.length v10.length] <| bQ <| bE)
 exact okH [1, 2] κb2 (bhN g0 Zg) (tC (tC (tC (tE) ⟨Eq.trans (show κg = vq from ci) (by rfl), by rfl⟩))) (bS (κk v3 v4 v5) <| bS (κx v6 v7 v8 v9) <| bE)

noncomputable abbrev κbm (v10 v11 : List RG) := [vs 5 0 v10.length v10.length, vs 6 0 v11.length v11.length]
theorem ZmK (v11 : List RG) (N : Nat) : (Z2 L0 L1 N).Ok Tryz.prog Ze (.h4m1 v0 v1 v2 v3 v4 v5 v6 v7 v8 v9 v10 v11 : Zc) (ZbL L0 L1 N v0 v1 v2 v3 v4 v5 v6 v7 v8 v9 v10 v11) := by
 unfold ZbL;refine ok_ite (fun g0 => ?_) fun g0 => ?_
 ·
  refine oi fun g1 => ?_;have w2 := tL 1 [(mc RA (v4.getD v2 RL.z).a19)] <| kG RE v4 ((0 + (v2 * 20)) + 19) v2 19 1 20 <| kB v2 v4.length <| xkI (v2 : Int) v2 <| bhY g0 Zg
  refine ok_ite (fun g2 => ?_) fun g2 => ?_
  ·
   refine ok_bind fun z3 c3 => ?_;cases z3 with
   | r0 =>
    have w4 := tL 2 [.i (v4.getD v2 RL.z).a0] <| kG RE v4 ((0 + (v2 * 20)) + 0) v2 0 1 20 <| kB v2 v4.length <| xkI (v2 : Int) v2 <| kK (Zei c3 [5] 7) <| kB 0 2 <| xkJ (v2 : Int) 0 w2
    refine ok_ite (fun g4 => ?_) fun g4 => ?_
    · refine oi fun g5 => ?_;refine oi fun g6 => ?_;exact Mach.okN0 (rg 0 7 []) (vkW ((v2 : Int) + 1) (((v2 + 1) : Nat) : Int) <| tB 1 <| kF ((v4.getD v2 RL.z).a0) 3 <| tL 1 [.i (v4.getD v2 RL.z).a0] <| kG RE v4 ((0 + (v2 * 20)) + 0) v2 0 1 20 <| kB v2 v4.length <| xkI (v2 : Int) v2 <| bhT g6 <| Za2 (Zp RF) v0 v2 0 1 <| kB v2 v0.length <| xkI (v2 : Int) v2 <| Za2 eI v1 v2 0 1 <| kB v2 v1.length <| xkI (v2 : Int) v2 <| tB 1 <| hT g4 w4) (bR <| bS (κk v3 v4 v5) <| bS (κx v6 v7 v8 v9) <| bR <| bS (κbm v10 v11) <| bQ <| bQ <| bE)
    refine oi fun g5 => ?_;refine ok_ite (fun _ => ok_none) (fun g6 => ?_);refine ok_ite (fun _ => ok_none) (fun g7 => ?_);exact Mach.okN0 (rg 0 7 []) (vkW ((v2 : Int) + 1) (((v2 + 1) : Nat) : Int) <| tB 1 <| hF g7 <| tL 1 [.i (v4.getD v2 RL.z).a0] <| kG RE v4 ((0 + (v2 * 20)) + 0) v2 0 1 20 <| kB v2 v4.length <| xkI (v2 : Int) v2 <| bhF g6 <| Za2 (Zp RF) v0 v2 0 1 <| kB v2 v0.length <| xkI (v2 : Int) v2 <| Za2 eI v1 v2 0 1 <| kB v2 v1.length <| xkI (v2 : Int) v2 <| tB 1 <| hF g4 w4) (bR <| bS (κk v3 v4 v5) <| bS (κx v6 v7 v8 v9) <| bR <| bS (κbm v10 v11) <| bQ <| bQ <| bE)
  refine oi fun g3 => ?_;refine ok_bind fun z4 c4 => ?_;cases z4 with
  | r0 =>
   have w5 := tL 2 [.i (v4.getD v2 RL.z).a0] <| kG RE v4 ((0 + (v2 * 20)) + 0) v2 0 1 20 <| kB v2 v4.length <| xkI (v2 : Int) v2 <| kK (Zei c4 [6] 7) <| kB 1 2 <| xkJ (v2 : Int) 1 w2
   refine ok_ite (fun g5 => ?_) fun g5 => ?_
   · refine oi fun g6 => ?_;refine oi fun g7 => ?_;exact Mach.okN0 (rg 0 7 []) (vkW ((v2 : Int) + 1) (((v2 + 1) : Nat) : Int) <| tB 1 <| kF ((v4.getD v2 RL.z).a0) 3 <| tL 1 [.i (v4.getD v2 RL.z).a0] <| kG RE v4 ((0 + (v2 * 20)) + 0) v2 0 1 20 <| kB v2 v4.length <| xkI (v2 : Int) v2 <| bhT g7 <| Za2 (Zp RF) v0 v2 0 1 <| kB v2 v0.length <| xkI (v2 : Int) v2 <| Za2 eI v1 v2 0 1 <| kB v2 v1.length <| xkI (v2 : Int) v2 <| tB 1 <| hT g5 w5) (bR <| bS (κk v3 v4 v5) <| bS (κx v6 v7 v8 v9) <| bR <| bS (κbm v10 v11) <| bQ <| bQ <| bE)
   refine oi fun g6 => ?_;refine ok_ite (fun _ => ok_none) (fun g7 => ?_);refine ok_ite (fun _ => ok_none) (fun g8 => ?_);exact Mach.okN0 (rg 0 7 []) (vkW ((v2 : Int) + 1) (((v2 + 1) : Nat) : Int) <| tB 1 <| hF g8 <| tL 1 [.i (v4.getD v2 RL.z).a0] <| kG RE v4 ((0 + (v2 * 20)) + 0) v2 0 1 20 <| kB v2 v4.length <| xkI (v2 : Int) v2 <| bhF g7 <| Za2 (Zp RF) v0 v2 0 1 <| kB v2 v0.length <| xkI (v2 : Int) v2 <| Za2 eI v1 v2 0 1 <| kB v2 v1.length <| xkI (v2 : Int) v2 <| tB 1 <| hF g5 w5) (bR <| bS (κk v3 v4 v5) <| bS (κx v6 v7 v8 v9) <| bR <| bS (κbm v10 v11) <| bQ <| bQ <| bE)
 exact okH [1, 2] κb2 (bhN g0 Zg) (tC (tC (tC (tE) ⟨Eq.trans (show κg = vq from ci) (by rfl), by rfl⟩))) (bS (κk v3 v4 v5) <| bS (κx v6 v7 v8 v9) <| bE)

noncomputable abbrev κE (v10 v11 v12 : List RG) := [vs 5 0 v10.length v10.length, vs 6 0 v11.length v11.length, vs 7 0 v12.length v12.length]
theorem ZmL (v11 v12 : List RG) (N : Nat) : (Z2 L0 L1 N).Ok Tryz.prog Ze (.h4m2 v0 v1 v2 v3 v4 v5 v6 v7 v8 v9 v10 v11 v12 : Zc) (ZbM L0 L1 N v0 v1 v2 v3 v4 v5 v6 v7 v8 v9 v10 v11 v12) := by
 unfold ZbM;refine ok_ite (fun g0 => ?_) fun g0 => ?_
 ·
  refine oi fun g1 => ?_;have w2 := tL 1 [(mc RA (v4.getD v2 RL.z).a19)] <| kG RE v4 ((0 + (v2 * 20)) + 19) v2 19 1 20 <| kB v2 v4.length <| xkI (v2 : Int) v2 <| bhY g0 Zg
  refine ok_ite (fun g2 => ?_) fun g2 => ?_
  ·
   refine ok_bind fun z3 c3 => ?_;cases z3 with
   | r0 =>
    have w4 := tL 2 [.i (v4.getD v2 RL.z).a0] <| kG RE v4 ((0 + (v2 * 20)) + 0) v2 0 1 20 <| kB v2 v4.length <| xkI (v2 : Int) v2 <| kK (Zei c3 [5] 8) <| kB 0 3 <| xkJ (v2 : Int) 0 w2
    refine ok_ite (fun g4 => ?_) fun g4 => ?_
    · refine oi fun g5 => ?_;refine oi fun g6 => ?_;exact Mach.okN0 (rg 0 8 []) (vkW ((v2 : Int) + 1) (((v2 + 1) : Nat) : Int) <| tB 1 <| kF ((v4.getD v2 RL.z).a0) 3 <| tL 1 [.i (v4.getD v2 RL.z).a0] <| kG RE v4 ((0 + (v2 * 20)) + 0) v2 0 1 20 <| kB v2 v4.length <| xkI (v2 : Int) v2 <| bhT g6 <| Za2 (Zp RF) v0 v2 0 1 <| kB v2 v0.length <| xkI (v2 : Int) v2 <| Za2 eI v1 v2 0 1 <| kB v2 v1.length <| xkI (v2 : Int) v2 <| tB 1 <| hT g4 w4) (bR <| bS (κk v3 v4 v5) <| bS (κx v6 v7 v8 v9) <| bR <| bS (κE v10 v11 v12) <| bQ <| bQ <| bQ <| bE)
    refine oi fun g5 => ?_;refine ok_ite (fun _ => ok_none) (fun g6 => ?_);refine ok_ite (fun _ => ok_none) (fun g7 => ?_);exact Mach.okN0 (rg 0 8 []) (vkW ((v2 : Int) + 1) (((v2 + 1) : Nat) : Int) <| tB 1 <| hF g7 <| tL 1 [.i (v4.getD v2 RL.z).a0] <| kG RE v4 ((0 + (v2 * 20)) + 0) v2 0 1 20 <| kB v2 v4.length <| xkI (v2 : Int) v2 <| bhF g6 <| Za2 (Zp RF) v0 v2 0 1 <| kB v2 v0.length <| xkI (v2 : Int) v2 <| Za2 eI v1 v2 0 1 <| kB v2 v1.length <| xkI (v2 : Int) v2 <| tB 1 <| hF g4 w4) (bR <| bS (κk v3 v4 v5) <| bS (κx v6 v7 v8 v9) <| bR <| bS (κE v10 v11 v12) <| bQ <| bQ <| bQ <| bE)
  refine ok_ite (fun g3 => ?_) fun g3 => ?_
  ·
   refine ok_bind fun z4 c4 => ?_;cases z4 with
   | r0 =>
    have w5 := tL 2 [.i (v4.getD v2 RL.z).a0] <| kG RE v4 ((0 + (v2 * 20)) + 0) v2 0 1 20 <| kB v2 v4.length <| xkI (v2 : Int) v2 <| kK (Zei c4 [6] 8) <| kB 1 3 <| xkJ (v2 : Int) 1 w2
    refine ok_ite (fun g5 => ?_) fun g5 => ?_
    · refine oi fun g6 => ?_;refine oi fun g7 => ?_;exact Mach.okN0 (rg 0 8 []) (vkW ((v2 : Int) + 1) (((v2 + 1) : Nat) : Int) <| tB 1 <| kF ((v4.getD v2 RL.z).a0) 3 <| tL 1 [.i (v4.getD v2 RL.z).a0] <| kG RE v4 ((0 + (v2 * 20)) + 0) v2 0 1 20 <| kB v2 v4.length <| xkI (v2 : Int) v2 <| bhT g7 <| Za2 (Zp RF) v0 v2 0 1 <| kB v2 v0.length <| xkI (v2 : Int) v2 <| Za2 eI v1 v2 0 1 <| kB v2 v1.length <| xkI (v2 : Int) v2 <| tB 1 <| hT g5 w5) (bR <| bS (κk v3 v4 v5) <| bS (κx v6 v7 v8 v9) <| bR <| bS (κE v10 v11 v12) <| bQ <| bQ <| bQ <| bE)
    refine oi fun g6 => ?_;refine ok_ite (fun _ => ok_none) (fun g7 => ?_);refine ok_ite (fun _ => ok_none) (fun g8 => ?_);exact Mach.okN0 (rg 0 8 []) (vkW ((v2 : Int) + 1) (((v2 + 1) : Nat) : Int) <| tB 1 <| hF g8 <| tL 1 [.i (v4.getD v2 RL.z).a0] <| kG RE v4 ((0 + (v2 * 20)) + 0) v2 0 1 20 <| kB v2 v4.length <| xkI (v2 : Int) v2 <| bhF g7 <| Za2 (Zp RF) v0 v2 0 1 <| kB v2 v0.length <| xkI (v2 : Int) v2 <| Za2 eI v1 v2 0 1 <| kB v2 v1.length <| xkI (v2 : Int) v2 <| tB 1 <| hF g5 w5) (bR <| bS (κk v3 v4 v5) <| bS (κx v6 v7 v8 v9) <| bR <| bS (κE v10 v11 v12) <| bQ <| bQ <| bQ <| bE)
  refine oi fun g4 => ?_;refine ok_bind fun z5 c5 => ?_;cases z5 with
  | r0 =>
   have w6 := tL 2 [.i (v4.getD v2 RL.z).a0] <| kG RE v4 ((0 + (v2 * 20)) + 0) v2 0 1 20 <| kB v2 v4.length <| xkI (v2 : Int) v2 <| kK (Zei c5 [7] 8) <| kB 2 3 <| xkJ (v2 : Int) 2 w2
   refine ok_ite (fun g6 => ?_) fun g6 => ?_
   · refine oi fun g7 => ?_;refine oi fun g8 => ?_;exact Mach.okN0 (rg 0 8 []) (vkW ((v2 : Int) + 1) (((v2 + 1) : Nat) : Int) <| tB 1 <| kF ((v4.getD v2 RL.z).a0) 3 <| tL 1 [.i (v4.getD v2 RL.z).a0] <| kG RE v4 ((0 + (v2 * 20)) + 0) v2 0 1 20 <| kB v2 v4.length <| xkI (v2 : Int) v2 <| bhT g8 <| Za2 (Zp RF) v0 v2 0 1 <| kB v2 v0.length <| xkI (v2 : Int) v2 <| Za2 eI v1 v2 0 1 <| kB v2 v1.length <| xkI (v2 : Int) v2 <| tB 1 <| hT g6 w6) (bR <| bS (κk v3 v4 v5) <| bS (κx v6 v7 v8 v9) <| bR <| bS (κE v10 v11 v12) <| bQ <| bQ <| bQ <| bE)
   refine oi fun g7 => ?_;refine ok_ite (fun _ => ok_none) (fun g8 => ?_);refine ok_ite (fun _ => ok_none) (fun g9 => ?_);exact Mach.okN0 (rg 0 8 []) (vkW ((v2 : Int) + 1) (((v2 + 1) : Nat) : Int) <| tB 1 <| hF g9 <| tL 1 [.i (v4.getD v2 RL.z).a0] <| kG RE v4 ((0 + (v2 * 20)) + 0) v2 0 1 20 <| kB v2 v4.length <| xkI (v2 : Int) v2 <| bhF g8 <| Za2 (Zp RF) v0 v2 0 1 <| kB v2 v0.length <| xkI (v2 : Int) v2 <| Za2 eI v1 v2 0 1 <| kB v2 v1.length <| xkI (v2 : Int) v2 <| tB 1 <| hF g6 w6) (bR <| bS (κk v3 v4 v5) <| bS (κx v6 v7 v8 v9) <| bR <| bS (κE v10 v11 v12) <| bQ <| bQ <| bQ <| bE)
 exact okH [1, 2] κb2 (bhN g0 Zg) (tC (tC (tC (tE) ⟨Eq.trans (show κg = vq from ci) (by rfl), by rfl⟩))) (bS (κk v3 v4 v5) <| bS (κx v6 v7 v8 v9) <| bE)

end
section
variable (v4 v5 v6 v7 : List Int)
noncomputable abbrev κ0 := [ms eI v4, ms eI v5, ms eI v6, ms eI v7]
end
noncomputable abbrev κD (v1 : List (List RI)) (v2 : List RL) (v3 : List RJ) := [ms (Zp RB) v1, ms RE v2, ms RC v3]
section
variable (L0 : List (List RM)) (L1 : List Int)
theorem ZmM (v0 : Nat) (v1 : List (List RI)) (v2 : List RL) (v3 : List RJ) (v4 v5 v6 v7 : List Int) (N : Nat) : (Z2 L0 L1 N).Ok Tryz.prog Ze (.h5m0 v0 v1 v2 v3 v4 v5 v6 v7 : Zc) (ZcV L0 L1 N v0 v1 v2 v3 v4 v5 v6 v7) := by
 unfold ZcV;refine ok_ite (fun g0 => ?_) fun g0 => ?_
 ·
  refine ok_bind fun z1 c1 => ?_;cases z1 with
  | r0 =>
   exact ok_none
  | r1 y1_0 =>
   have w2 := kK (tQ (ZeO c1) 2) <| bhY g0 Zg
   refine ok_bind fun z2 c2 => ?_;cases z2 with
   | r0 =>
    have w3 := kKg 4 (tQ (Zfm c2) 6) w2;refine ok_ite (fun g3 => ?_) fun g3 => ?_
    ·
     refine ok_bind fun z4 c4 => ?_;cases z4 with
     | r0 =>
      exact Mach.okN0 [0, 1] (tV 2 <| kW ((v0 : Int) + 1) (((v0 + 1) : Nat) : Int) <| kK (tQ (ZgH c4) 6) <| kB 0 4 <| xkJ (v0 : Int) 0 w3) (bS (κD v1 v2 v3) <| bS (κ0 v4 v5 v6 v7) <| bE)
    refine ok_ite (fun g4 => ?_) fun g4 => ?_
    ·
     refine ok_bind fun z5 c5 => ?_;cases z5 with
     | r0 =>
      exact Mach.okN0 [0, 1] (tV 2 <| kW ((v0 : Int) + 1) (((v0 + 1) : Nat) : Int) <| kK (tQ (ZgH c5) 6) <| kB 1 4 <| xkJ (v0 : Int) 1 w3) (bS (κD v1 v2 v3) <| bS (κ0 v4 v5 v6 v7) <| bE)
    refine ok_ite (fun g5 => ?_) fun g5 => ?_
    ·
     refine ok_bind fun z6 c6 => ?_;cases z6 with
     | r0 =>
      exact Mach.okN0 [0, 1] (tV 2 <| kW ((v0 : Int) + 1) (((v0 + 1) : Nat) : Int) <| kK (tQ (ZgH c6) 6) <| kB 2 4 <| xkJ (v0 : Int) 2 w3) (bS (κD v1 v2 v3) <| bS (κ0 v4 v5 v6 v7) <| bE)
    refine ok_bind fun z6 c6 => ?_;cases z6 with
    | r0 =>
     exact Mach.okN0 [0, 1] (tV 2 <| kW ((v0 : Int) + 1) (((v0 + 1) : Nat) : Int) <| kK (tQ (ZgH c6) 6) <| kB 3 4 <| xkJ (v0 : Int) 3 w3) (bS (κD v1 v2 v3) <| bS (κ0 v4 v5 v6 v7) <| bE)
   | r1 y2_0 =>
    have w3 := kKg 4 (tQ (Zfm c2) 6) w2;refine ok_ite (fun g3 => ?_) fun g3 => ?_
    ·
     refine ok_bind fun z4 c4 => ?_;cases z4 with
     | r0 =>
      exact Mach.okN0 [0, 1] (tV 2 <| kW ((v0 : Int) + 1) (((v0 + 1) : Nat) : Int) <| kK (tQ (ZgI c4) 6) <| kB 0 4 <| xkJ (v0 : Int) 0 w3) (bS (κD v1 v2 v3) <| bS (κ0 v4 v5 v6 v7) <| bE)
    refine ok_ite (fun g4 => ?_) fun g4 => ?_
    ·
     refine ok_bind fun z5 c5 => ?_;cases z5 with
     | r0 =>
      exact Mach.okN0 [0, 1] (tV 2 <| kW ((v0 : Int) + 1) (((v0 + 1) : Nat) : Int) <| kK (tQ (ZgI c5) 6) <| kB 1 4 <| xkJ (v0 : Int) 1 w3) (bS (κD v1 v2 v3) <| bS (κ0 v4 v5 v6 v7) <| bE)
    refine ok_ite (fun g5 => ?_) fun g5 => ?_
    ·
     refine ok_bind fun z6 c6 => ?_;cases z6 with
     | r0 =>
      exact Mach.okN0 [0, 1] (tV 2 <| kW ((v0 : Int) + 1) (((v0 + 1) : Nat) : Int) <| kK (tQ (ZgI c6) 6) <| kB 2 4 <| xkJ (v0 : Int) 2 w3) (bS (κD v1 v2 v3) <| bS (κ0 v4 v5 v6 v7) <| bE)
    refine ok_bind fun z6 c6 => ?_;cases z6 with
    | r0 =>
     exact Mach.okN0 [0, 1] (tV 2 <| kW ((v0 : Int) + 1) (((v0 + 1) : Nat) : Int) <| kK (tQ (ZgI c6) 6) <| kB 3 4 <| xkJ (v0 : Int) 3 w3) (bS (κD v1 v2 v3) <| bS (κ0 v4 v5 v6 v7) <| bE)
 exact Mach.okF0 [] (bhN g0 Zg) bE

theorem ZpU (N : Nat) : (Z2 L0 L1 N).Enter Tryz.prog Ze #[ms (Zp RF) L0, ms (Zcq .u8) L1] (ZgR L0 L1 N) := by unfold ZgR;exact Mach.enH0 [] Zg bE

theorem ZnB (N : Nat) (r : Zy) (h : Zij L0 L1 N = some r) : LSpec Tryz.prog 4 #[ms (Zp RF) L0, ms (Zcq .u8) L1] [] (ZkX r) (ZjU r) :=
 Mach.specT Zv (Z2 L0 L1 N) Tryz.func4 (fun x => (show (Z2 L0 L1 N).Ok Tryz.prog Ze x (Zj L0 L1 N x) from by
  cases x with
  | h1m0 => exact ZmB L0 L1 N
  | h1m1 v2 v3 v4 => exact ZmC L0 L1 v2 v3 v4 N
  | h2m0 v1 v2 v3 v4 v5 v6 v7 v8 v9 v10 v11 v12 v13 => exact ZmD L0 L1 v1 v2 v3 v4 v5 v6 v7 v8 v9 v10 v11 v12 v13 N
  | h2m1 v1 v2 v3 v4 v5 v6 v7 v8 v9 v10 v11 v12 v13 v14 => exact ZmE L0 L1 v1 v2 v3 v4 v5 v6 v7 v8 v9 v10 v11 v12 v13 v14 N
  | h2m2 v1 v2 v3 v4 v5 v6 v7 v8 v9 v10 v11 v12 v13 v14 v15 => exact ZmF L0 L1 v1 v2 v3 v4 v5 v6 v7 v8 v9 v10 v11 v12 v13 v14 v15 N
  | h3m0 v1 v2 v3 v4 v5 v6 v7 v8 v9 v10 v11 v12 v13 v14 => exact ZmG L0 L1 v1 v2 v3 v4 v5 v6 v7 v8 v9 v10 v11 v12 v13 v14 N
  | h3m1 v1 v2 v3 v4 v5 v6 v7 v8 v9 v10 v11 v12 v13 v14 v15 => exact ZmH L0 L1 v1 v2 v3 v4 v5 v6 v7 v8 v9 v10 v11 v12 v13 v14 v15 N
  | h3m2 v1 v2 v3 v4 v5 v6 v7 v8 v9 v10 v11 v12 v13 v14 v15 v16 => exact ZmI L0 L1 v1 v2 v3 v4 v5 v6 v7 v8 v9 v10 v11 v12 v13 v14 v15 v16 N
  | h4m0 v0 v1 v2 v3 v4 v5 v6 v7 v8 v9 v10 => exact ZmJ L0 L1 v0 v1 v2 v3 v4 v5 v6 v7 v8 v9 v10 N
  | h4m1 v0 v1 v2 v3 v4 v5 v6 v7 v8 v9 v10 v11 => exact ZmK L0 L1 v0 v1 v2 v3 v4 v5 v6 v7 v8 v9 v10 v11 N
  | h4m2 v0 v1 v2 v3 v4 v5 v6 v7 v8 v9 v10 v11 v12 => exact ZmL L0 L1 v0 v1 v2 v3 v4 v5 v6 v7 v8 v9 v10 v11 v12 N
  | h5m0 v0 v1 v2 v3 v4 v5 v6 v7 => exact ZmM L0 L1 v0 v1 v2 v3 v4 v5 v6 v7 N
  )) (ZpU L0 L1 N) h

end
end Ev
end Go.Proofs.YthfohmhipifiaaaGreat
namespace Go.Proofs.YthfohmhipifiaaaGreat
open Go.RowKit
namespace Ev
section
variable {X R : Type} {step : X → Option (X ⊕ R)} {n : Nat} {x y : X} {r : R}
theorem Zo (h : step x = some (.inl y)) : ZW step (n + 1) x = ZW step n y := by simp [ZW, h]
theorem ZE (h : step x = some (.inr r)) : ZW step (n + 1) x = some r := by simp [ZW, h]
theorem Zej : ∀ {n m : Nat} {x : X} {r : R}, n ≤ m → ZW step n x = some r → ZW step m x = some r
 | 0, _, _, _, _, h => by cases h
 | n + 1, 0, _, _, h, _ => by omega
 | n + 1, m + 1, x, r, h, e => by
  simp only [ZW] at e ⊢;cases hs : step x with
  | none => rw [hs] at e; cases e
  | some y =>
   rw [hs] at e;cases y with
   | inl y => exact Zej (by omega) e
   | inr r' => exact e
theorem ZaB {o : Option (X ⊕ R)} (h : o = some (.inl x)) : goM step n o = ZW step n x := by subst h; rfl
theorem ZmN {o : Option (X ⊕ R)} (h : o = some (.inr r)) : goM step n o = some r := by subst h; rfl
end
section
variable {α : Type}
theorem Zbv {L : List α} {i : Nat} {v d : α} (h : i < L.length) : (L.set i v).getD i d = v := by simp [h]
theorem ZN {L : List α} {i j : Nat} {v d : α} (h : i ≠ j) : (L.set i v).getD j d = L.getD j d := by simp [List.getElem?_set_ne h]
theorem Zs4 {L : List α} {i j : Nat} {v d : α} (h : i < L.length) : (L.set i v).getD j d = if j = i then v else L.getD j d := by
 by_cases e : j = i
 ·subst e; rw [if_pos rfl, Zbv h]
 ·rw [if_neg e, ZN (fun h => e h.symm)]
theorem Zdc {L M : List α} {i : Nat} {d : α} (h : i < L.length) : (L ++ M).getD i d = L.getD i d := by simp [List.getElem?_append_left h]
theorem Z3J {L : List α} {v d : α} : (L ++ [v]).getD L.length d = v := by simp
end
theorem Zq {α : Type} {c : Prop} [Decidable c] {a b r : α} (h : c) (e : a = r) : (if c then a else b) = r := by rw [if_pos h]; exact e
theorem Z8 {α : Type} {c : Prop} [Decidable c] {a b r : α} (h : ¬ c) (e : b = r) : (if c then a else b) = r := by rw [if_neg h]; exact e
theorem Zs {α β : Type} {o : Option α} {a : α} {k : α → Option β} {r : Option β} (h : o = some a) (e : k a = r) : o.bind k = r := by rw [h]; exact e
theorem w64 {x : Int} (h1 : -9223372036854775808 ≤ x) (h2 : x ≤ 9223372036854775807) : IntKind.i64.wrap x = x := wrap_i64 ⟨h1, h2⟩
inductive Kd where
 | put | take | try' | pass
structure Pc where
 d : Kd
 q : Int
 to : Int
 n : Int
 m : Int
def hdP (n m : Int) : List RI := [⟨10, 0, 0, 0⟩, ⟨1, 1, n, 0⟩, ⟨1, 2, m, 0⟩, ⟨1, 3, 1, 0⟩, ⟨15, 0, 0, 0⟩]
def tkP (q s : Int) (l : RI) : List RI := [⟨13, 4, 0, 2 * q⟩, ⟨9, 4, s + 18, 0⟩, ⟨13, 7, 4, 1⟩, ⟨13, 5, 4, 0⟩, ⟨14, 0, 2 * q, 5⟩, ⟨9, 5, s + 12, 0⟩, ⟨8, s + 13, 0, 0⟩, ⟨14, 0, 2 * q + 1, 5⟩, ⟨13, 6, 0, 8 + q⟩, ⟨5, 6, 6, 3⟩, ⟨14, 0, 8 + q, 6⟩, ⟨12, 4, 0, 0⟩, ⟨8, s + 19, 0, 0⟩, l]
def adP (q s r : Int) : List RI := [⟨13, 6, 0, 8 + q⟩, ⟨6, 5, 6, 2⟩, ⟨9, 5, s + 19, 0⟩, ⟨11, 4, 2, 1⟩, ⟨14, 4, 1, r⟩, ⟨13, 5, 0, 2 * q + 1⟩, ⟨9, 5, s + 14, 0⟩, ⟨14, 5, 0, 4⟩, ⟨8, s + 15, 0, 0⟩, ⟨14, 0, 2 * q, 4⟩, ⟨14, 0, 2 * q + 1, 4⟩, ⟨4, 6, 6, 3⟩, ⟨14, 0, 8 + q, 6⟩, ⟨8, s + 20, 0, 0⟩, ⟨18, 0, 0, 0⟩]
def pcs (x : Pc) (s : Int) : List RI := match x.d with
 | .put => hdP x.n x.m ++ (adP x.q s 1 ++ [⟨1, 7, 1, 0⟩, ⟨17, 0, 0, 0⟩])
 | .take => hdP 0 0 ++ (tkP x.q s ⟨18, 0, 0, 0⟩ ++ [⟨17, 0, 0, 0⟩])
 | .try' => hdP x.n 0 ++ (tkP x.q s ⟨1, 7, x.n, 0⟩ ++ [⟨17, 0, 0, 0⟩])
 | .pass => hdP 0 x.m ++ (tkP x.q s ⟨18, 0, 0, 0⟩ ++ (adP x.to (s + 14) 7 ++ [⟨17, 0, 0, 0⟩]))
def Kd.len : Kd → Nat
 | .put => 22
 | .take => 20
 | .try' => 20
 | .pass => 35
def prg : Nat → List Pc → List RI
 | _, [] => [⟨20, 0, 0, 0⟩]
 | s, x :: l => pcs x s ++ (⟨19, 7, 0, 0⟩ :: prg (s + x.d.len + 1) l)
abbrev shp (l : List Kd) : List RI := prg 0 (l.map fun k => ⟨k, 0, 0, 0, 1⟩)
def mtB (n : Nat) (L : List RI) (M : List Int) : Bool := M.length == n && (List.range n).all fun i => !((L.getD i RI.z).a0 == 15) || (decide (0 ≤ M.getD i 0) && decide (M.getD i 0 < (n : Int)))
def okS (l : List Kd) : Bool := match Zby (shp l) 100000 with
 | some (.r1 M) => mtB (shp l).length (shp l) M
 | _ => false
def Zc6 (f : List Kd → Bool) : Nat → List Kd → Bool
 | 0, l => f l
 | n + 1, l => f l && Zc6 f n (.put :: l) && Zc6 f n (.take :: l) && Zc6 f n (.try' :: l) && Zc6 f n (.pass :: l)
theorem Z4D : Zc6 okS 2 [.put, .put] = true := by kernel_rfl
theorem Z4E : Zc6 okS 2 [.put, .take] = true := by kernel_rfl
theorem Z4F : Zc6 okS 2 [.put, .try'] = true := by kernel_rfl
theorem Z4G : Zc6 okS 2 [.put, .pass] = true := by kernel_rfl
end Ev
end Go.Proofs.YthfohmhipifiaaaGreat
