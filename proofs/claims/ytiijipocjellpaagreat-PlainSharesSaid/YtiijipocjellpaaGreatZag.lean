/- Part 7. -/
import Derived.Test.YtiijipocjellpaaGreatZaf
set_option linter.unusedSimpArgs false
set_option linter.unusedVariables false
/- Calls do what the plain functions say. -/
namespace Go.Proofs.YtiijipocjellpaaGreat
open Go.RowKit
namespace Ev
set_option linter.unusedVariables false
set_option maxRecDepth 100000
set_option maxHeartbeats 4000000
noncomputable def ZgS (a0 : Int) (L1 : List RK) (a2 : Int) (b3 b4 : Bool) (a5 a6 a7 a8 a9 a10 a11 : Int) (L12 : List RF) (a13 a14 a15 a16 a17 a18 a19 a20 : Int) (L21 : List RI) (L22 : List RG) (L23 L24 : List Int) (a25 a26 a27 a28 : Int) (L29 : List Int) : plain_Access_StepR → Value
 | .r0 w1 w4 w5 w6 w7 w8 w10 w11 w14 w15 w16 w17 w18 w20 => Value.tuple #[Value.agg #[vi w4, vi w5, vi w6, vi w7, vi w8, vq], Value.bool w10]
 | .r1 w12 => Value.tuple #[Value.agg #[vi (2 : Int), vi a9, vq, vq, vq, vq], vf]
 | .r2 w4 w5 w14 w15 w16 => Value.tuple #[Value.agg #[vi (12 : Int), vi a9, vi w4, vi w5, vq, vq], vT]
noncomputable abbrev κba (L22 : List RG) (L21 : List RI) := (AObj.cells (Za RB (((L22 ++ (List.replicate 3 (⟨(0 : Int), (0 : Int)⟩ : RG))).set (L21.length + 1) (⟨(2 : Int), (0 : Int)⟩ : RG)).set (L21.length + 2) (⟨(2 : Int), (0 : Int)⟩ : RG))) 42)
noncomputable abbrev κ8 (L21 : List RI) (a9 : Int) := (AObj.cells (Za RC ((L21 ++ (List.replicate 3 (⟨(0 : Int), (0 : Int), (0 : Int), (0 : Int), (0 : Int)⟩ : RI))).set L21.length (⟨(1 : Int), (2 : Int), (3 : Int), (1 : Int), a9⟩ : RI))) 57)
noncomputable abbrev κG (a28 : Int) (L29 : List Int) := (AObj.cells (Zr eI 64 [vi a28] L29 []) 211)
noncomputable abbrev κq (L23 : List Int) (L24 : List Int) := [vs 8 0 L23.length L23.length, vs 9 0 L24.length L24.length]
noncomputable abbrev κi (a20 : Int) (L21 : List RI) (L22 : List RG) := [vi a20, vs 6 0 L21.length L21.length, vs 7 0 L22.length L22.length, vn, vn, vn, vn, vn, vn, vn, vn, vn, vn, vn, vn, vn, vn, vn, vn, vn]
noncomputable abbrev κh (a11 : Int) (L12 : List RF) (a13 : Int) (a14 : Int) (a15 : Int) (a16 : Int) (a17 : Int) (a18 : Int) (a19 : Int) := (Zr Zc9 64 [vi a11] L12 [vi a13, vi a14, vi a15, vi a16, vi a17, vi a18, vi a19, vp 2 0, vp 3 0, vp 4 0, vp 5 0])
noncomputable def Zgw (a0 : Int) (L1 : List RK) (a2 : Int) (b3 b4 : Bool) (a5 a6 a7 a8 a9 a10 a11 : Int) (L12 : List RF) (a13 a14 a15 a16 a17 a18 a19 a20 : Int) (L21 : List RI) (L22 : List RG) (L23 L24 : List Int) (a25 a26 a27 a28 : Int) (L29 : List Int) : plain_Access_StepR → List (Option AObj)
 | .r0 w1 w4 w5 w6 w7 w8 w10 w11 w14 w15 w16 w17 w18 w20 => [some (.cells (Zr Zd 1 [] w11 [vn, vi a2, Value.bool b3, Value.bool w14, vi w15, vi w16, vi w17, vi w18, vp 1 0, vi a9, (fnV w20)]) 141), some (.cells (κh a11 L12 a13 a14 a15 a16 a17 a18 a19) 132), some (.cells [vi a20, vs 6 0 L21.length L21.length, vs 7 0 w1.length w1.length, vn, vn, vn, vn, vn, vn, vn, vn, vn, vn, vn, vn, vn, vn, vn, vn, vn] 154), some (.cells (κq L23 L24) 191), some (.cells [vi a25, vi a26, vi a27] 208), some (κG a28 L29), some (.cells (Za RC L21) 57), some (.cells (Za RB w1) 42), some (.cells (Za eI L23) 188), some (.cells (Za eI L24) 188)]
 | .r1 w12 => [some (.cells (Zr Zd 1 [] ([(⟨(L1.getD 0 RK.z).a0, (L1.getD 0 RK.z).a1, (L1.getD 0 RK.z).a2, (L1.getD 0 RK.z).a3, (L1.getD 0 RK.z).a4, (L1.getD 0 RK.z).a5, (L1.getD 0 RK.z).a6, (L1.getD 0 RK.z).a7, (Int.tmod ((L1.getD 0 RK.z).a2 % (1048576 : Int)) (L23.length : Int)), (L1.getD 0 RK.z).a9, (L1.getD 0 RK.z).a10, (L1.getD 0 RK.z).a11, (L1.getD 0 RK.z).a12, (L1.getD 0 RK.z).a13, (L1.getD 0 RK.z).a14, (L1.getD 0 RK.z).a15⟩ : RK)] : List RK) [vs 10 0 w12.length w12.length, vi a2, Value.bool b3, Value.bool b4, vi a5, vi a6, vi a7, vi a8, vp 1 0, vi a9, Value.func (.func 162) #[] #[]]) 141), some (.cells (κh a11 L12 a13 a14 a15 a16 a17 a18 a19) 132), some (.cells (κi a20 L21 L22) 154), some (.cells (κq L23 L24) 191), some (.cells [vi a25, vi a26, vi a27] 208), some (κG a28 L29), some (.cells (Za RC L21) 57), some (.cells (Za RB L22) 42), some (.cells (Za eI L23) 188), some (.cells (Za eI L24) 188), some (.cells (Za RB w12) 42)]
 | .r2 w4 w5 w14 w15 w16 => [some (.cells (Zr Zd 1 [] L1 [vn, vi a2, Value.bool b3, vT, vi a0, vi w14, vi w15, vi w16, vp 1 0, vi a9, Value.nilFunc]) 141), some (.cells (κh a11 L12 a13 a14 a15 a16 a17 a18 a19) 132), some (.cells [vi a20, vs 10 0 (L21.length + 3) (L21.length + 3), vs 11 0 (L22.length + 3) (L22.length + 3), vn, vn, vn, vn, vn, vn, vn, vn, vn, vn, vn, vn, vn, vn, vn, vn, vn] 154), some (.cells (κq L23 L24) 191), some (.cells [vi a25, vi a26, vi a27] 208), some (κG a28 L29), none, none, some (.cells (Za eI L23) 188), some (.cells (Za eI L24) 188), some (κ8 L21 a9), some (κba L22 L21)]

noncomputable abbrev κU (a9 : Int) := (Value.tuple #[Value.agg #[vi (2 : Int), vi a9, vq, vq, vq, vq], vf])
theorem Zki (a0 : Int) (L1 : List RK) (a2 : Int) (b3 b4 : Bool) (a5 a6 a7 a8 a9 a10 a11 : Int) (L12 : List RF) (a13 a14 a15 a16 a17 a18 a19 a20 : Int) (L21 : List RI) (L22 : List RG) (L23 L24 : List Int) (a25 a26 a27 a28 : Int) (L29 : List Int) (N : Nat) : Fx Tryz.prog Zs Tryz.f20 [.cells (Zr Zd 1 [] L1 [vn, vi a2, Value.bool b3, Value.bool b4, vi a5, vi a6, vi a7, vi a8, vp 1 0, vi a9, (fnV a10)]) 141, .cells (κh a11 L12 a13 a14 a15 a16 a17 a18 a19) 132, .cells (κi a20 L21 L22) 154, .cells (κq L23 L24) 191, .cells [vi a25, vi a26, vi a27] 208, .cells (Zr eI 64 [vi a28] L29 []) 211, .cells (Za RC L21) 57, .cells (Za RB L22) 42, .cells (Za eI L23) 188, .cells (Za eI L24) 188] #[vp 0 0, vi a0] (ZgS a0 L1 a2 b3 b4 a5 a6 a7 a8 a9 a10 a11 L12 a13 a14 a15 a16 a17 a18 a19 a20 L21 L22 L23 L24 a25 a26 a27 a28 L29) (Zgw a0 L1 a2 b3 b4 a5 a6 a7 a8 a9 a10 a11 L12 a13 a14 a15 a16 a17 a18 a19 a20 L21 L22 L23 L24 a25 a26 a27 a28 L29) (Z8 a0 L1 a2 b3 b4 a5 a6 a7 a8 a9 a10 a11 L12 a13 a14 a15 a16 a17 a18 a19 a20 L21 L22 L23 L24 a25 a26 a27 a28 L29 N) := by
 unfold Z8
 refine Zf (fun g0 => ?_) (fun _ => Zj)
 refine Zf (fun g1 => ?_) (fun _ => Zj)
 refine Zf (fun g2 => ?_) (fun _ => Zj)
 refine Zf (fun g3 => ?_) (fun _ => Zj)
 refine Zf (fun g4 => ?_) (fun _ => Zj)
 refine Zf (fun g5 => ?_) (fun _ => Zj)
 refine Zf (fun g6 => ?_) (fun _ => Zj)
 refine Zf (fun g7 => ?_) (fun _ => Zj)
 refine Zf (fun g8 => ?_) (fun _ => ?_)
 ·
  subst g8
  exact fxC (Zh (oq []) [] [] [] []) (rg 0 10 []) (Value.tuple #[Value.agg #[vq, vq, vq, vq, vq, vq], vf]) Zi (bM (.cells (Zr Zd 1 [] L1 [vn, vi a2, Value.bool b3, Value.bool b4, vi a5, vi a6, vi a7, vi a8, vp 1 0, vi a9, Value.nilFunc]) 141) <| bM (.cells (κh a11 L12 a13 a14 a15 a16 a17 a18 a19) 132) <| bS (κi a20 L21 L22) <| bS (κq L23 L24) <| bS [vi a25, vi a26, vi a27] <| bM (κG a28 L29) <| bR <| bR <| bR <| bR <| bE)
 ·
  refine Zf (fun g8 => ?_) (fun _ => ?_)
  ·
   subst g8
   have w9 := kY (a11 > (0 : Int)) <| kF ((L1.getD 0 RK.z).a0) (3 : Int) <| kO (((L1.getD 0 RK.z).a1 == (2 : Int)) && (((L1.getD 0 RK.z).a2 == (0 : Int)) && true)) <| kY (((L1.getD 0 RK.z).a2 % (1048576 : Int)) ≤ (1048575 : Int)) <| kY (((L1.getD 0 RK.z).a2 % (1048576 : Int)) ≥ (1 : Int)) <| kY (((L1.getD 0 RK.z).a2 / (1048576 : Int)) ≤ (1073741824 : Int)) <| kY (((L1.getD 0 RK.z).a2 / (1048576 : Int)) ≥ (1 : Int)) <| kM ((L1.getD 0 RK.z).a2) (1048576 : Int) <| kV ((L1.getD 0 RK.z).a2) (1048576 : Int) <| kY ((L1.getD 0 RK.z).a2 > (0 : Int)) <| kD ((L1.getD 0 RK.z).a2) (0 : Int) <| kT ((L1.getD 0 RK.z).a1) (2 : Int) <| kE ((L1.getD 0 RK.z).a1) (2 : Int) Zi
   refine Zaa (fun z9 c9 => ?_)
   cases z9 with
   | r0 =>
    have w10 := kK (Zbf c9 [2, 6, 7] 16) w9
    refine Zf (fun g10 => ?_) (fun g10 => ?_)
    ·
     refine Zf (fun g11 => ?_) (fun g11 => ?_)
     ·
      refine Zaa (fun z12 c12 => ?_)
      cases z12 with
      | r0 =>
       refine Zaa (fun z13 c13 => ?_)
       cases z13 with
       | r0 =>
        refine Zaa (fun z14 c14 => ?_)
        cases z14 with
        | r0 =>
         exact fxC (Zh (oq [8, 11, 13, 15, 17, 19, 21, 23, 28, 30, 37, 41, 43, 44, 47, 51, 54, 59, 67]) [(0, ((L1.getD 0 RK.z).a2 / (1048576 : Int))), (1, ((L1.getD 0 RK.z).a2 % (1048576 : Int)))] [] [] [(2, (Zz c9 [2, 6, 7] 16).t), (4, (Zz c12 [2, 6, 7] 19).t), (6, (Z0 c13 [2, 6, 7] 20).t), (9, (Zfh c14 [2, 6, 7] 21).t)]) (rg 0 10 []) (Value.tuple #[Value.agg #[vi (5 : Int), vi a9, vi (L1.getD 0 RK.z).a1, vi (L1.getD 0 RK.z).a2, vi (L1.getD 0 RK.z).a3, vq], vT]) (kK (Zhg c14 [2, 6, 7] 21) <| kY (a11 > (0 : Int)) <| kK (ZbP c13 [2, 6, 7] 20) <| kY (a11 > (0 : Int)) <| kF ((L21.getD ((((L1.getD 0 RK.z).a2 % (1048576 : Int)) - (1 : Int))).toNat RI.z).a3) (3 : Int) <| kK (Zbf c12 [2, 6, 7] 19) <| kY (a11 > (0 : Int)) <| kT ((L1.getD 0 RK.z).a0) (1 : Int) <| kF ((L1.getD 0 RK.z).a0) (0 : Int) <| hT g11 <| hT g10 w10) (bM (.cells (Zr Zd 1 [] L1 [vn, vi a2, Value.bool b3, vT, vi a0, vq, vq, vq, vp 1 0, vi a9, Value.nilFunc]) 141) <| bM (.cells (κh a11 L12 a13 a14 a15 a16 a17 a18 a19) 132) <| bU (κi a20 L21 L22) 2 (show (vs 7 0 L22.length L22.length : Value) = vs 7 0 (L22.set ((((L1.getD 0 RK.z).a2 % (1048576 : Int)) + (L1.getD 0 RK.z).a3)).toNat (⟨(L1.getD 0 RK.z).a4, (L1.getD 0 RK.z).a5⟩ : RG)).length (L22.set ((((L1.getD 0 RK.z).a2 % (1048576 : Int)) + (L1.getD 0 RK.z).a3)).toNat (⟨(L1.getD 0 RK.z).a4, (L1.getD 0 RK.z).a5⟩ : RG)).length from Z3 rfl eqA eqA) <| bS (κq L23 L24) <| bS [vi a25, vi a26, vi a27] <| bM (κG a28 L29) <| bR <| bR <| bR <| bR <| bE)
     ·
      have w12 := kY (a11 > (0 : Int)) <| kX (dP (IntKind.i64 = IntKind.i64 ∧ (L23.length : Int) ≠ 0)) true (Zv ⟨rfl, by omega⟩) <| kM ((L1.getD 0 RK.z).a2) (1048576 : Int) <| kY (((L1.getD 0 RK.z).a2 % (1048576 : Int)) ≤ (1048575 : Int)) <| kY (((L1.getD 0 RK.z).a2 % (1048576 : Int)) ≥ (1 : Int)) <| kY (((L1.getD 0 RK.z).a2 / (1048576 : Int)) ≤ (1073741824 : Int)) <| kY (((L1.getD 0 RK.z).a2 / (1048576 : Int)) ≥ (1 : Int)) <| kM ((L1.getD 0 RK.z).a2) (1048576 : Int) <| kV ((L1.getD 0 RK.z).a2) (1048576 : Int) <| kY ((L1.getD 0 RK.z).a2 > (0 : Int)) <| kE ((L1.getD 0 RK.z).a1) (2 : Int) <| kY ((L23.length : Int) > (0 : Int)) <| kY (a11 > (0 : Int)) <| hF g11 <| hT g10 w10
      refine Zaa (fun z12 c12 => ?_)
      cases z12 with
      | r0 =>
       have w13 := kK (Zbf c12 [2, 6, 7] 20) w12
       refine Zf (fun g13 => ?_) (fun g13 => ?_)
       ·
        refine Zf (fun g14 => ?_) (fun g14 => ?_)
        ·
         refine Zaa (fun z15 c15 => ?_)
         cases z15 with
         | r0 =>
          refine Zaa (fun z16 c16 => ?_)
          cases z16 with
          | r0 =>
           exact Zj
          | r1 y16_0 =>
           exact fxC (Zh (oq [8, 11, 13, 15, 17, 19, 21, 23, 28, 30, 37, 41, 42, 47, 53, 56, 59, 61, 63, 65, 67, 73, 77, 79, 83]) [(0, ((L1.getD 0 RK.z).a2 / (1048576 : Int))), (1, ((L1.getD 0 RK.z).a2 % (1048576 : Int))), (2, ((L1.getD 0 RK.z).a2 / (1048576 : Int))), (3, ((L1.getD 0 RK.z).a2 % (1048576 : Int))), (4, ((L1.getD 0 RK.z).a2 % (1048576 : Int)))] [] [] [(2, (Zz c9 [2, 6, 7] 16).t), (6, .dv), (9, (Zz c12 [2, 6, 7] 20).t), (11, (Zck c15 [2, 6, 7] 21).t), (12, (Zdz c16 [] 21).t)]) (rg 0 10 [21]) (κU a9) (kK (Ze3 c16 [] 21) <| kK (Zdf c15 [2, 6, 7] 21) <| kY (a11 > (0 : Int)) <| hT g14 <| hT g13 w13) (bM (.cells (Zr Zd 1 [] ([(⟨(L1.getD 0 RK.z).a0, (L1.getD 0 RK.z).a1, (L1.getD 0 RK.z).a2, (L1.getD 0 RK.z).a3, (L1.getD 0 RK.z).a4, (L1.getD 0 RK.z).a5, (L1.getD 0 RK.z).a6, (L1.getD 0 RK.z).a7, (Int.tmod ((L1.getD 0 RK.z).a2 % (1048576 : Int)) (L23.length : Int)), (L1.getD 0 RK.z).a9, (L1.getD 0 RK.z).a10, (L1.getD 0 RK.z).a11, (L1.getD 0 RK.z).a12, (L1.getD 0 RK.z).a13, (L1.getD 0 RK.z).a14, (L1.getD 0 RK.z).a15⟩ : RK)] : List RK) [vs 21 0 y16_0.length y16_0.length, vi a2, Value.bool b3, Value.bool b4, vi a5, vi a6, vi a7, vi a8, vp 1 0, vi a9, Value.func (.func 162) #[] #[]]) 141) <| bM (.cells (κh a11 L12 a13 a14 a15 a16 a17 a18 a19) 132) <| bS (κi a20 L21 L22) <| bS (κq L23 L24) <| bS [vi a25, vi a26, vi a27] <| bM (κG a28 L29) <| bR <| bR <| bR <| bR <| bR <| bE)
         | r1 y15_0 =>
          refine Zaa (fun z16 c16 => ?_)
          cases z16 with
          | r0 =>
           exact Zj
          | r1 y16_0 =>
           exact fxC (Zh (oq [8, 11, 13, 15, 17, 19, 21, 23, 28, 30, 37, 41, 42, 47, 53, 56, 59, 61, 63, 65, 67, 73, 77, 79, 83]) [(0, ((L1.getD 0 RK.z).a2 / (1048576 : Int))), (1, ((L1.getD 0 RK.z).a2 % (1048576 : Int))), (2, ((L1.getD 0 RK.z).a2 / (1048576 : Int))), (3, ((L1.getD 0 RK.z).a2 % (1048576 : Int))), (4, ((L1.getD 0 RK.z).a2 % (1048576 : Int)))] [] [] [(2, (Zz c9 [2, 6, 7] 16).t), (6, .dv), (9, (Zz c12 [2, 6, 7] 20).t), (11, (Zcl c15 [2, 6, 7] 21).t), (12, (Zdz c16 [] 21).t)]) (rg 0 10 [21]) (κU a9) (kK (Ze3 c16 [] 21) <| kK (Zdg c15 [2, 6, 7] 21) <| kY (a11 > (0 : Int)) <| hT g14 <| hT g13 w13) (bM (.cells (Zr Zd 1 [] ([(⟨(L1.getD 0 RK.z).a0, (L1.getD 0 RK.z).a1, (L1.getD 0 RK.z).a2, (L1.getD 0 RK.z).a3, (L1.getD 0 RK.z).a4, (L1.getD 0 RK.z).a5, (L1.getD 0 RK.z).a6, (L1.getD 0 RK.z).a7, (Int.tmod ((L1.getD 0 RK.z).a2 % (1048576 : Int)) (L23.length : Int)), (L1.getD 0 RK.z).a9, (L1.getD 0 RK.z).a10, (L1.getD 0 RK.z).a11, (L1.getD 0 RK.z).a12, (L1.getD 0 RK.z).a13, (L1.getD 0 RK.z).a14, (L1.getD 0 RK.z).a15⟩ : RK)] : List RK) [vs 21 0 y16_0.length y16_0.length, vi a2, Value.bool b3, Value.bool b4, vi a5, vi a6, vi a7, vi a8, vp 1 0, vi a9, Value.func (.func 162) #[] #[]]) 141) <| bM (.cells (κh a11 L12 a13 a14 a15 a16 a17 a18 a19) 132) <| bS (κi a20 L21 L22) <| bS (κq L23 L24) <| bS [vi a25, vi a26, vi a27] <| bM (κG a28 L29) <| bR <| bR <| bR <| bR <| bR <| bE)
        ·
         exact fxC (Zh (oq [8, 11, 13, 15, 17, 19, 21, 23, 28, 30, 37, 41, 42, 47, 53, 56, 59, 61, 63, 65, 67, 73, 77, 78]) [(0, ((L1.getD 0 RK.z).a2 / (1048576 : Int))), (1, ((L1.getD 0 RK.z).a2 % (1048576 : Int))), (2, ((L1.getD 0 RK.z).a2 / (1048576 : Int))), (3, ((L1.getD 0 RK.z).a2 % (1048576 : Int))), (4, ((L1.getD 0 RK.z).a2 % (1048576 : Int)))] [] [] [(2, (Zz c9 [2, 6, 7] 16).t), (6, .dv), (9, (Zz c12 [2, 6, 7] 20).t)]) (rg 0 10 []) (κU a9) (hF g14 <| hT g13 w13) (bM (.cells (Zr Zd 1 [] ([(⟨(L1.getD 0 RK.z).a0, (L1.getD 0 RK.z).a1, (L1.getD 0 RK.z).a2, (L1.getD 0 RK.z).a3, (L1.getD 0 RK.z).a4, (L1.getD 0 RK.z).a5, (L1.getD 0 RK.z).a6, (L1.getD 0 RK.z).a7, (Int.tmod ((L1.getD 0 RK.z).a2 % (1048576 : Int)) (L23.length : Int)), (L1.getD 0 RK.z).a9, (L1.getD 0 RK.z).a10, (L1.getD 0 RK.z).a11, (L1.getD 0 RK.z).a12, (L1.getD 0 RK.z).a13, (L1.getD 0 RK.z).a14, (L1.getD 0 RK.z).a15⟩ : RK)] : List RK) [vn, vi a2, Value.bool b3, Value.bool b4, vi a5, vi a6, vi a7, vi a8, vp 1 0, vi a9, Value.func (.func 160) #[] #[]]) 141) <| bM (.cells (κh a11 L12 a13 a14 a15 a16 a17 a18 a19) 132) <| bS (κi a20 L21 L22) <| bS (κq L23 L24) <| bS [vi a25, vi a26, vi a27] <| bM (κG a28 L29) <| bR <| bR <| bR <| bR <| bE)
       ·
        exact fxC (Zh (oq [8, 11, 13, 15, 17, 19, 21, 23, 28, 30, 37, 41, 42, 47, 53, 56, 59, 61, 63, 65, 67, 73, 76]) [(0, ((L1.getD 0 RK.z).a2 / (1048576 : Int))), (1, ((L1.getD 0 RK.z).a2 % (1048576 : Int))), (2, ((L1.getD 0 RK.z).a2 / (1048576 : Int))), (3, ((L1.getD 0 RK.z).a2 % (1048576 : Int))), (4, ((L1.getD 0 RK.z).a2 % (1048576 : Int)))] [] [] [(2, (Zz c9 [2, 6, 7] 16).t), (6, .dv), (9, (Zz c12 [2, 6, 7] 20).t)]) (rg 0 10 []) (κU a9) (hF g13 w13) (bM (.cells (Zr Zd 1 [] ([(⟨(L1.getD 0 RK.z).a0, (L1.getD 0 RK.z).a1, (L1.getD 0 RK.z).a2, (L1.getD 0 RK.z).a3, (L1.getD 0 RK.z).a4, (L1.getD 0 RK.z).a5, (L1.getD 0 RK.z).a6, (L1.getD 0 RK.z).a7, (Int.tmod ((L1.getD 0 RK.z).a2 % (1048576 : Int)) (L23.length : Int)), (L1.getD 0 RK.z).a9, (L1.getD 0 RK.z).a10, (L1.getD 0 RK.z).a11, (L1.getD 0 RK.z).a12, (L1.getD 0 RK.z).a13, (L1.getD 0 RK.z).a14, (L1.getD 0 RK.z).a15⟩ : RK)] : List RK) [vn, vi a2, Value.bool b3, Value.bool b4, vi a5, vi a6, vi a7, vi a8, vp 1 0, vi a9, Value.func (.func 160) #[] #[]]) 141) <| bM (.cells (κh a11 L12 a13 a14 a15 a16 a17 a18 a19) 132) <| bS (κi a20 L21 L22) <| bS (κq L23 L24) <| bS [vi a25, vi a26, vi a27] <| bM (κG a28 L29) <| bR <| bR <| bR <| bR <| bE)
    ·
     have w11 := kY (a11 > (0 : Int)) <| kX (dP (IntKind.i64 = IntKind.i64 ∧ (L23.length : Int) ≠ 0)) true (Zv ⟨rfl, by omega⟩) <| kM ((L1.getD 0 RK.z).a2) (1048576 : Int) <| kY (((L1.getD 0 RK.z).a2 % (1048576 : Int)) ≤ (1048575 : Int)) <| kY (((L1.getD 0 RK.z).a2 % (1048576 : Int)) ≥ (1 : Int)) <| kY (((L1.getD 0 RK.z).a2 / (1048576 : Int)) ≤ (1073741824 : Int)) <| kY (((L1.getD 0 RK.z).a2 / (1048576 : Int)) ≥ (1 : Int)) <| kM ((L1.getD 0 RK.z).a2) (1048576 : Int) <| kV ((L1.getD 0 RK.z).a2) (1048576 : Int) <| kY ((L1.getD 0 RK.z).a2 > (0 : Int)) <| kE ((L1.getD 0 RK.z).a1) (2 : Int) <| kY ((L23.length : Int) > (0 : Int)) <| kY (a11 > (0 : Int)) <| hF g10 w10
     refine Zaa (fun z11 c11 => ?_)
     cases z11 with
     | r0 =>
      have w12 := kK (Zbf c11 [2, 6, 7] 20) w11
      refine Zf (fun g12 => ?_) (fun g12 => ?_)
      ·
       refine Zf (fun g13 => ?_) (fun g13 => ?_)
       ·
        refine Zaa (fun z14 c14 => ?_)
        cases z14 with
        | r0 =>
         refine Zaa (fun z15 c15 => ?_)
         cases z15 with
         | r0 =>
          exact Zj
         | r1 y15_0 =>
          exact fxC (Zh (oq [8, 11, 13, 15, 17, 19, 21, 23, 28, 30, 37, 40, 45, 51, 54, 57, 59, 61, 63, 65, 71, 75, 77, 81]) [(0, ((L1.getD 0 RK.z).a2 / (1048576 : Int))), (1, ((L1.getD 0 RK.z).a2 % (1048576 : Int))), (2, ((L1.getD 0 RK.z).a2 / (1048576 : Int))), (3, ((L1.getD 0 RK.z).a2 % (1048576 : Int))), (4, ((L1.getD 0 RK.z).a2 % (1048576 : Int)))] [] [] [(2, (Zz c9 [2, 6, 7] 16).t), (6, .dv), (9, (Zz c11 [2, 6, 7] 20).t), (11, (Zck c14 [2, 6, 7] 21).t), (12, (Zdz c15 [] 21).t)]) (rg 0 10 [21]) (κU a9) (kK (Ze3 c15 [] 21) <| kK (Zdf c14 [2, 6, 7] 21) <| kY (a11 > (0 : Int)) <| hT g13 <| hT g12 w12) (bM (.cells (Zr Zd 1 [] ([(⟨(L1.getD 0 RK.z).a0, (L1.getD 0 RK.z).a1, (L1.getD 0 RK.z).a2, (L1.getD 0 RK.z).a3, (L1.getD 0 RK.z).a4, (L1.getD 0 RK.z).a5, (L1.getD 0 RK.z).a6, (L1.getD 0 RK.z).a7, (Int.tmod ((L1.getD 0 RK.z).a2 % (1048576 : Int)) (L23.length : Int)), (L1.getD 0 RK.z).a9, (L1.getD 0 RK.z).a10, (L1.getD 0 RK.z).a11, (L1.getD 0 RK.z).a12, (L1.getD 0 RK.z).a13, (L1.getD 0 RK.z).a14, (L1.getD 0 RK.z).a15⟩ : RK)] : List RK) [vs 21 0 y15_0.length y15_0.length, vi a2, Value.bool b3, Value.bool b4, vi a5, vi a6, vi a7, vi a8, vp 1 0, vi a9, Value.func (.func 162) #[] #[]]) 141) <| bM (.cells (κh a11 L12 a13 a14 a15 a16 a17 a18 a19) 132) <| bS (κi a20 L21 L22) <| bS (κq L23 L24) <| bS [vi a25, vi a26, vi a27] <| bM (κG a28 L29) <| bR <| bR <| bR <| bR <| bR <| bE)
        | r1 y14_0 =>
         refine Zaa (fun z15 c15 => ?_)
         cases z15 with
         | r0 =>
          exact Zj
         | r1 y15_0 =>
          exact fxC (Zh (oq [8, 11, 13, 15, 17, 19, 21, 23, 28, 30, 37, 40, 45, 51, 54, 57, 59, 61, 63, 65, 71, 75, 77, 81]) [(0, ((L1.getD 0 RK.z).a2 / (1048576 : Int))), (1, ((L1.getD 0 RK.z).a2 % (1048576 : Int))), (2, ((L1.getD 0 RK.z).a2 / (1048576 : Int))), (3, ((L1.getD 0 RK.z).a2 % (1048576 : Int))), (4, ((L1.getD 0 RK.z).a2 % (1048576 : Int)))] [] [] [(2, (Zz c9 [2, 6, 7] 16).t), (6, .dv), (9, (Zz c11 [2, 6, 7] 20).t), (11, (Zcl c14 [2, 6, 7] 21).t), (12, (Zdz c15 [] 21).t)]) (rg 0 10 [21]) (κU a9) (kK (Ze3 c15 [] 21) <| kK (Zdg c14 [2, 6, 7] 21) <| kY (a11 > (0 : Int)) <| hT g13 <| hT g12 w12) (bM (.cells (Zr Zd 1 [] ([(⟨(L1.getD 0 RK.z).a0, (L1.getD 0 RK.z).a1, (L1.getD 0 RK.z).a2, (L1.getD 0 RK.z).a3, (L1.getD 0 RK.z).a4, (L1.getD 0 RK.z).a5, (L1.getD 0 RK.z).a6, (L1.getD 0 RK.z).a7, (Int.tmod ((L1.getD 0 RK.z).a2 % (1048576 : Int)) (L23.length : Int)), (L1.getD 0 RK.z).a9, (L1.getD 0 RK.z).a10, (L1.getD 0 RK.z).a11, (L1.getD 0 RK.z).a12, (L1.getD 0 RK.z).a13, (L1.getD 0 RK.z).a14, (L1.getD 0 RK.z).a15⟩ : RK)] : List RK) [vs 21 0 y15_0.length y15_0.length, vi a2, Value.bool b3, Value.bool b4, vi a5, vi a6, vi a7, vi a8, vp 1 0, vi a9, Value.func (.func 162) #[] #[]]) 141) <| bM (.cells (κh a11 L12 a13 a14 a15 a16 a17 a18 a19) 132) <| bS (κi a20 L21 L22) <| bS (κq L23 L24) <| bS [vi a25, vi a26, vi a27] <| bM (κG a28 L29) <| bR <| bR <| bR <| bR <| bR <| bE)
       ·
        exact fxC (Zh (oq [8, 11, 13, 15, 17, 19, 21, 23, 28, 30, 37, 40, 45, 51, 54, 57, 59, 61, 63, 65, 71, 75, 76]) [(0, ((L1.getD 0 RK.z).a2 / (1048576 : Int))), (1, ((L1.getD 0 RK.z).a2 % (1048576 : Int))), (2, ((L1.getD 0 RK.z).a2 / (1048576 : Int))), (3, ((L1.getD 0 RK.z).a2 % (1048576 : Int))), (4, ((L1.getD 0 RK.z).a2 % (1048576 : Int)))] [] [] [(2, (Zz c9 [2, 6, 7] 16).t), (6, .dv), (9, (Zz c11 [2, 6, 7] 20).t)]) (rg 0 10 []) (κU a9) (hF g13 <| hT g12 w12) (bM (.cells (Zr Zd 1 [] ([(⟨(L1.getD 0 RK.z).a0, (L1.getD 0 RK.z).a1, (L1.getD 0 RK.z).a2, (L1.getD 0 RK.z).a3, (L1.getD 0 RK.z).a4, (L1.getD 0 RK.z).a5, (L1.getD 0 RK.z).a6, (L1.getD 0 RK.z).a7, (Int.tmod ((L1.getD 0 RK.z).a2 % (1048576 : Int)) (L23.length : Int)), (L1.getD 0 RK.z).a9, (L1.getD 0 RK.z).a10, (L1.getD 0 RK.z).a11, (L1.getD 0 RK.z).a12, (L1.getD 0 RK.z).a13, (L1.getD 0 RK.z).a14, (L1.getD 0 RK.z).a15⟩ : RK)] : List RK) [vn, vi a2, Value.bool b3, Value.bool b4, vi a5, vi a6, vi a7, vi a8, vp 1 0, vi a9, Value.func (.func 160) #[] #[]]) 141) <| bM (.cells (κh a11 L12 a13 a14 a15 a16 a17 a18 a19) 132) <| bS (κi a20 L21 L22) <| bS (κq L23 L24) <| bS [vi a25, vi a26, vi a27] <| bM (κG a28 L29) <| bR <| bR <| bR <| bR <| bE)
      ·
       exact fxC (Zh (oq [8, 11, 13, 15, 17, 19, 21, 23, 28, 30, 37, 40, 45, 51, 54, 57, 59, 61, 63, 65, 71, 74]) [(0, ((L1.getD 0 RK.z).a2 / (1048576 : Int))), (1, ((L1.getD 0 RK.z).a2 % (1048576 : Int))), (2, ((L1.getD 0 RK.z).a2 / (1048576 : Int))), (3, ((L1.getD 0 RK.z).a2 % (1048576 : Int))), (4, ((L1.getD 0 RK.z).a2 % (1048576 : Int)))] [] [] [(2, (Zz c9 [2, 6, 7] 16).t), (6, .dv), (9, (Zz c11 [2, 6, 7] 20).t)]) (rg 0 10 []) (κU a9) (hF g12 w12) (bM (.cells (Zr Zd 1 [] ([(⟨(L1.getD 0 RK.z).a0, (L1.getD 0 RK.z).a1, (L1.getD 0 RK.z).a2, (L1.getD 0 RK.z).a3, (L1.getD 0 RK.z).a4, (L1.getD 0 RK.z).a5, (L1.getD 0 RK.z).a6, (L1.getD 0 RK.z).a7, (Int.tmod ((L1.getD 0 RK.z).a2 % (1048576 : Int)) (L23.length : Int)), (L1.getD 0 RK.z).a9, (L1.getD 0 RK.z).a10, (L1.getD 0 RK.z).a11, (L1.getD 0 RK.z).a12, (L1.getD 0 RK.z).a13, (L1.getD 0 RK.z).a14, (L1.getD 0 RK.z).a15⟩ : RK)] : List RK) [vn, vi a2, Value.bool b3, Value.bool b4, vi a5, vi a6, vi a7, vi a8, vp 1 0, vi a9, Value.func (.func 160) #[] #[]]) 141) <| bM (.cells (κh a11 L12 a13 a14 a15 a16 a17 a18 a19) 132) <| bS (κi a20 L21 L22) <| bS (κq L23 L24) <| bS [vi a25, vi a26, vi a27] <| bM (κG a28 L29) <| bR <| bR <| bR <| bR <| bE)
  ·
   refine Zf (fun g8 => ?_) (fun _ => Zj)
   ·
    subst g8
    refine Zf (fun g9 => ?_) (fun _ => Zj)
    refine Zf (fun g10 => ?_) (fun _ => Zj)
    refine Zaa (fun z11 c11 => ?_)
    cases z11 with
    | r0 y11_0 =>
     have w12 := kKb (A := #[vp 2 0, vi (L1.getD 0 RK.z).a6, vi (L1.getD 0 RK.z).a7, vi a9]) (ZjV (Zg rfl (Zg (congrArg (Value.int .i64) (by first | rfl | omega)) (Zg (congrArg (Value.int .i64) (by first | rfl | omega)) (Zg rfl rfl))))) (ZlP c11 [2, 6, 7] 12) <| kR (κi a20 L21 L22) <| kR (Za RC L21) <| kR (Za RB L22) <| kY (a11 > (0 : Int)) Zi
     by_cases g12 : ¬ (y11_0 = (0 : Int))
     ·
      exact fxC (Zh (oq [11, 15]) [] [] [] [(0, (Zfj c11 [2, 6, 7] 12).t)]) (rg 0 10 []) (Value.tuple #[Value.agg #[vi (12 : Int), vi a9, vq, vq, vq, vq], vT]) (hD g12 w12) (bM (.cells (Zr Zd 1 [] L1 [vn, vi a2, Value.bool b3, vT, vi a0, vq, vq, vi y11_0, vp 1 0, vi a9, Value.nilFunc]) 141) <| bM (.cells (κh a11 L12 a13 a14 a15 a16 a17 a18 a19) 132) <| bS (κi a20 L21 L22) <| bS (κq L23 L24) <| bS [vi a25, vi a26, vi a27] <| bM (κG a28 L29) <| bR <| bR <| bR <| bR <| bE)
     ·
      exact fxC (Zh (oq [11, 14]) [] [] [] [(0, (Zfj c11 [2, 6, 7] 12).t)]) (rg 0 10 []) (Value.tuple #[Value.agg #[vi (12 : Int), vi a9, vq, vq, vq, vq], vT]) (kE y11_0 (0 : Int) w12) (bM (.cells (Zr Zd 1 [] L1 [vn, vi a2, Value.bool b3, vT, vi a0, vq, vq, vi y11_0, vp 1 0, vi a9, Value.nilFunc]) 141) <| bM (.cells (κh a11 L12 a13 a14 a15 a16 a17 a18 a19) 132) <| bS (κi a20 L21 L22) <| bS (κq L23 L24) <| bS [vi a25, vi a26, vi a27] <| bM (κG a28 L29) <| bR <| bR <| bR <| bR <| bE)
    | r1 y11_0 y11_1 y11_2 =>
     have w12 := kKb (A := #[vp 2 0, vi (L1.getD 0 RK.z).a6, vi (L1.getD 0 RK.z).a7, vi a9]) (ZjV (Zg rfl (Zg (congrArg (Value.int .i64) (by first | rfl | omega)) (Zg (congrArg (Value.int .i64) (by first | rfl | omega)) (Zg rfl rfl))))) (ZlQ c11 [2, 6, 7] 12) <| kR (κi a20 L21 L22) <| kR (Za RC L21) <| kR (Za RB L22) <| kY (a11 > (0 : Int)) Zi
     refine Zf (fun g12 => ?_) (fun g12 => ?_)
     ·
      exact fxC (Zh (oq [11, 15]) [] [] [] [(0, (Zfk c11 [2, 6, 7] 12).t)]) (rg 0 10 (12 :: [13])) (Value.tuple #[Value.agg #[vi (12 : Int), vi a9, vi y11_0, vi y11_1, vq, vq], vT]) (hD g12 w12) (bM (.cells (Zr Zd 1 [] L1 [vn, vi a2, Value.bool b3, vT, vi a0, vq, vq, vi y11_2, vp 1 0, vi a9, Value.nilFunc]) 141) <| bM (.cells (κh a11 L12 a13 a14 a15 a16 a17 a18 a19) 132) <| bS [vi a20, vs 12 0 (L21.length + 3) (L21.length + 3), vs 13 0 (L22.length + 3) (L22.length + 3), vn, vn, vn, vn, vn, vn, vn, vn, vn, vn, vn, vn, vn, vn, vn, vn, vn] <| bS (κq L23 L24) <| bS [vi a25, vi a26, vi a27] <| bM (κG a28 L29) <| bN <| bN <| bR <| bR <| bR <| bR <| bE)
     ·
      exact fxC (Zh (oq [11, 14]) [] [] [] [(0, (Zfk c11 [2, 6, 7] 12).t)]) (rg 0 10 (12 :: [13])) (Value.tuple #[Value.agg #[vi (12 : Int), vi a9, vi y11_0, vi y11_1, vq, vq], vT]) (kE y11_2 (0 : Int) w12) (bM (.cells (Zr Zd 1 [] L1 [vn, vi a2, Value.bool b3, vT, vi a0, vi y11_0, vi y11_1, vi y11_2, vp 1 0, vi a9, Value.nilFunc]) 141) <| bM (.cells (κh a11 L12 a13 a14 a15 a16 a17 a18 a19) 132) <| bS [vi a20, vs 12 0 (L21.length + 3) (L21.length + 3), vs 13 0 (L22.length + 3) (L22.length + 3), vn, vn, vn, vn, vn, vn, vn, vn, vn, vn, vn, vn, vn, vn, vn, vn, vn] <| bS (κq L23 L24) <| bS [vi a25, vi a26, vi a27] <| bM (κG a28 L29) <| bN <| bN <| bR <| bR <| bR <| bR <| bE)

theorem Zd6 (a0 : Int) (L1 : List RK) (a2 : Int) (b3 b4 : Bool) (a5 a6 a7 a8 a9 a10 a11 : Int) (L12 : List RF) (a13 a14 a15 a16 a17 a18 a19 a20 : Int) (L21 : List RI) (L22 : List RG) (L23 L24 : List Int) (a25 a26 a27 a28 : Int) (L29 : List Int) (N : Nat) (r : plain_Access_StepR) (h : Z8 a0 L1 a2 b3 b4 a5 a6 a7 a8 a9 a10 a11 L12 a13 a14 a15 a16 a17 a18 a19 a20 L21 L22 L23 L24 a25 a26 a27 a28 L29 N = some r) : LSpec Tryz.prog 20 #[vp 0 0, vi a0] [.cells (Zr Zd 1 [] L1 [vn, vi a2, Value.bool b3, Value.bool b4, vi a5, vi a6, vi a7, vi a8, vp 1 0, vi a9, (fnV a10)]) 141, .cells (κh a11 L12 a13 a14 a15 a16 a17 a18 a19) 132, .cells (κi a20 L21 L22) 154, .cells (κq L23 L24) 191, .cells [vi a25, vi a26, vi a27] 208, .cells (Zr eI 64 [vi a28] L29 []) 211, .cells (Za RC L21) 57, .cells (Za RB L22) 42, .cells (Za eI L23) 188, .cells (Za eI L24) 188] (ZgS a0 L1 a2 b3 b4 a5 a6 a7 a8 a9 a10 a11 L12 a13 a14 a15 a16 a17 a18 a19 a20 L21 L22 L23 L24 a25 a26 a27 a28 L29 r) (Zgw a0 L1 a2 b3 b4 a5 a6 a7 a8 a9 a10 a11 L12 a13 a14 a15 a16 a17 a18 a19 a20 L21 L22 L23 L24 a25 a26 a27 a28 L29 r) :=
 Zbh Zau Tryz.func20 (by kernel_rfl) (by kernel_rfl) (fun r => by cases r <;> exact ZG _ rfl) (Zki a0 L1 a2 b3 b4 a5 a6 a7 a8 a9 a10 a11 L12 a13 a14 a15 a16 a17 a18 a19 a20 L21 L22 L23 L24 a25 a26 a27 a28 L29 N) h

noncomputable abbrev κk (ks : List Nat) (L1 : List RK) (a2 : Int) (b3 : Bool) (b4 : Bool) (a5 : Int) (a6 : Int) (a7 : Int) (a8 : Int) (a9 : Int) (a10 : Int) (a11 : Int) (L12 : List RF) (a13 : Int) (a14 : Int) (a15 : Int) (a16 : Int) (a17 : Int) (a18 : Int) (a19 : Int) (a20 : Int) (L21 : List RI) (L22 : List RG) (L23 : List Int) (L24 : List Int) (a25 : Int) (a26 : Int) (a27 : Int) (a28 : Int) (L29 : List Int) := [((nth ks 0), AObj.cells (Zr Zd 1 [] L1 [vn, vi a2, Value.bool b3, Value.bool b4, vi a5, vi a6, vi a7, vi a8, vp (nth ks 1) 0, vi a9, (fnV a10)]) 141), ((nth ks 1), AObj.cells (Zr Zc9 64 [vi a11] L12 [vi a13, vi a14, vi a15, vi a16, vi a17, vi a18, vi a19, vp (nth ks 2) 0, vp (nth ks 3) 0, vp (nth ks 4) 0, vp (nth ks 5) 0]) 132), ((nth ks 2), AObj.cells [vi a20, vs (nth ks 6) 0 L21.length L21.length, vs (nth ks 7) 0 L22.length L22.length, vn, vn, vn, vn, vn, vn, vn, vn, vn, vn, vn, vn, vn, vn, vn, vn, vn] 154), ((nth ks 3), AObj.cells [vs (nth ks 8) 0 L23.length L23.length, vs (nth ks 9) 0 L24.length L24.length] 191), ((nth ks 4), AObj.cells [vi a25, vi a26, vi a27] 208), ((nth ks 5), AObj.cells (Zr eI 64 [vi a28] L29 []) 211), ((nth ks 6), AObj.cells (Za RC L21) 57), ((nth ks 7), AObj.cells (Za RB L22) 42), ((nth ks 8), AObj.cells (Za eI L23) 188), ((nth ks 9), AObj.cells (Za eI L24) 188)]
noncomputable def Zaq {a0 : Int} {L1 : List RK} {a2 : Int} {b3 : Bool} {b4 : Bool} {a5 : Int} {a6 : Int} {a7 : Int} {a8 : Int} {a9 : Int} {a10 : Int} {a11 : Int} {L12 : List RF} {a13 : Int} {a14 : Int} {a15 : Int} {a16 : Int} {a17 : Int} {a18 : Int} {a19 : Int} {a20 : Int} {L21 : List RI} {L22 : List RG} {L23 : List Int} {L24 : List Int} {a25 : Int} {a26 : Int} {a27 : Int} {a28 : Int} {L29 : List Int} {w1 : List RG} {w4 : Int} {w5 : Int} {w6 : Int} {w7 : Int} {w8 : Int} {w10 : Bool} {w11 : List RK} {w14 : Bool} {w15 : Int} {w16 : Int} {w17 : Int} {w18 : Int} {w20 : Int} {N : Nat} (h : Z8 a0 L1 a2 b3 b4 a5 a6 a7 a8 a9 a10 a11 L12 a13 a14 a15 a16 a17 a18 a19 a20 L21 L22 L23 L24 a25 a26 a27 a28 L29 N = some (.r0 w1 w4 w5 w6 w7 w8 w10 w11 w14 w15 w16 w17 w18 w20)) (ks : List Nat) (n : Nat) : ToldS := ⟨#[vp (nth ks 0) 0, vi a0], (κk ks L1 a2 b3 b4 a5 a6 a7 a8 a9 a10 a11 L12 a13 a14 a15 a16 a17 a18 a19 a20 L21 L22 L23 L24 a25 a26 a27 a28 L29), Value.tuple #[Value.agg #[vi w4, vi w5, vi w6, vi w7, vi w8, vq], Value.bool w10], [((nth ks 0), some (.cells (Zr Zd 1 [] w11 [vn, vi a2, Value.bool b3, Value.bool w14, vi w15, vi w16, vi w17, vi w18, vp (nth ks 1) 0, vi a9, (fnV w20)]) 141)), ((nth ks 2), some (.cells [vi a20, vs (nth ks 6) 0 L21.length L21.length, vs (nth ks 7) 0 w1.length w1.length, vn, vn, vn, vn, vn, vn, vn, vn, vn, vn, vn, vn, vn, vn, vn, vn, vn] 154)), ((nth ks 7), some (.cells (Za RB w1) 42))], 0⟩

theorem Zcn {a0 : Int} {L1 : List RK} {a2 : Int} {b3 : Bool} {b4 : Bool} {a5 : Int} {a6 : Int} {a7 : Int} {a8 : Int} {a9 : Int} {a10 : Int} {a11 : Int} {L12 : List RF} {a13 : Int} {a14 : Int} {a15 : Int} {a16 : Int} {a17 : Int} {a18 : Int} {a19 : Int} {a20 : Int} {L21 : List RI} {L22 : List RG} {L23 : List Int} {L24 : List Int} {a25 : Int} {a26 : Int} {a27 : Int} {a28 : Int} {L29 : List Int} {w1 : List RG} {w4 : Int} {w5 : Int} {w6 : Int} {w7 : Int} {w8 : Int} {w10 : Bool} {w11 : List RK} {w14 : Bool} {w15 : Int} {w16 : Int} {w17 : Int} {w18 : Int} {w20 : Int} {N : Nat} (h : Z8 a0 L1 a2 b3 b4 a5 a6 a7 a8 a9 a10 a11 L12 a13 a14 a15 a16 a17 a18 a19 a20 L21 L22 L23 L24 a25 a26 a27 a28 L29 N = some (.r0 w1 w4 w5 w6 w7 w8 w10 w11 w14 w15 w16 w17 w18 w20)) (ks : List Nat) (n : Nat) (hk : ks.length = 10 := by rfl) (hnd : ks.Nodup := by decide +kernel) (hlt : ∀ k ∈ ks, k < n := by decide +kernel) : (Zaq (N := N)  h ks n).P Tryz.prog 20 n :=
 match ks, hk, hnd, hlt with
 | [k0, k1, k2, k3, k4, k5, k6, k7, k8, k9], _, hnd, hlt => Zjz (show LSpec Tryz.prog 20 #[vp 0 0, vi a0] [.cells (Zr Zd 1 [] L1 [vn, vi a2, Value.bool b3, Value.bool b4, vi a5, vi a6, vi a7, vi a8, vp 1 0, vi a9, (fnV a10)]) 141, .cells (κh a11 L12 a13 a14 a15 a16 a17 a18 a19) 132, .cells (κi a20 L21 L22) 154, .cells (κq L23 L24) 191, .cells [vi a25, vi a26, vi a27] 208, .cells (Zr eI 64 [vi a28] L29 []) 211, .cells (Za RC L21) 57, .cells (Za RB L22) 42, .cells (Za eI L23) 188, .cells (Za eI L24) 188] (Value.tuple #[Value.agg #[vi w4, vi w5, vi w6, vi w7, vi w8, vq], Value.bool w10]) [some (.cells (Zr Zd 1 [] w11 [vn, vi a2, Value.bool b3, Value.bool w14, vi w15, vi w16, vi w17, vi w18, vp 1 0, vi a9, (fnV w20)]) 141), some (.cells (κh a11 L12 a13 a14 a15 a16 a17 a18 a19) 132), some (.cells [vi a20, vs 6 0 L21.length L21.length, vs 7 0 w1.length w1.length, vn, vn, vn, vn, vn, vn, vn, vn, vn, vn, vn, vn, vn, vn, vn, vn, vn] 154), some (.cells (κq L23 L24) 191), some (.cells [vi a25, vi a26, vi a27] 208), some (κG a28 L29), some (.cells (Za RC L21) 57), some (.cells (Za RB w1) 42), some (.cells (Za eI L23) 188), some (.cells (Za eI L24) 188)] from Zd6 a0 L1 a2 b3 b4 a5 a6 a7 a8 a9 a10 a11 L12 a13 a14 a15 a16 a17 a18 a19 a20 L21 L22 L23 L24 a25 a26 a27 a28 L29 N _ h) _ n [0, 2, 7] hnd hlt

noncomputable def Zgx {a0 : Int} {L1 : List RK} {a2 : Int} {b3 : Bool} {b4 : Bool} {a5 : Int} {a6 : Int} {a7 : Int} {a8 : Int} {a9 : Int} {a10 : Int} {a11 : Int} {L12 : List RF} {a13 : Int} {a14 : Int} {a15 : Int} {a16 : Int} {a17 : Int} {a18 : Int} {a19 : Int} {a20 : Int} {L21 : List RI} {L22 : List RG} {L23 : List Int} {L24 : List Int} {a25 : Int} {a26 : Int} {a27 : Int} {a28 : Int} {L29 : List Int} {w12 : List RG} {N : Nat} (h : Z8 a0 L1 a2 b3 b4 a5 a6 a7 a8 a9 a10 a11 L12 a13 a14 a15 a16 a17 a18 a19 a20 L21 L22 L23 L24 a25 a26 a27 a28 L29 N = some (.r1 w12)) (ks : List Nat) (n : Nat) : ToldS := ⟨#[vp (nth ks 0) 0, vi a0], (κk ks L1 a2 b3 b4 a5 a6 a7 a8 a9 a10 a11 L12 a13 a14 a15 a16 a17 a18 a19 a20 L21 L22 L23 L24 a25 a26 a27 a28 L29), Value.tuple #[Value.agg #[vi (2 : Int), vi a9, vq, vq, vq, vq], vf], [((nth ks 0), some (.cells (Zr Zd 1 [] ([(⟨(L1.getD 0 RK.z).a0, (L1.getD 0 RK.z).a1, (L1.getD 0 RK.z).a2, (L1.getD 0 RK.z).a3, (L1.getD 0 RK.z).a4, (L1.getD 0 RK.z).a5, (L1.getD 0 RK.z).a6, (L1.getD 0 RK.z).a7, (Int.tmod ((L1.getD 0 RK.z).a2 % (1048576 : Int)) (L23.length : Int)), (L1.getD 0 RK.z).a9, (L1.getD 0 RK.z).a10, (L1.getD 0 RK.z).a11, (L1.getD 0 RK.z).a12, (L1.getD 0 RK.z).a13, (L1.getD 0 RK.z).a14, (L1.getD 0 RK.z).a15⟩ : RK)] : List RK) [vs n 0 w12.length w12.length, vi a2, Value.bool b3, Value.bool b4, vi a5, vi a6, vi a7, vi a8, vp (nth ks 1) 0, vi a9, Value.func (.func 162) #[] #[]]) 141)), (n, some (.cells (Za RB w12) 42))], 1⟩

theorem Zk7 {a0 : Int} {L1 : List RK} {a2 : Int} {b3 : Bool} {b4 : Bool} {a5 : Int} {a6 : Int} {a7 : Int} {a8 : Int} {a9 : Int} {a10 : Int} {a11 : Int} {L12 : List RF} {a13 : Int} {a14 : Int} {a15 : Int} {a16 : Int} {a17 : Int} {a18 : Int} {a19 : Int} {a20 : Int} {L21 : List RI} {L22 : List RG} {L23 : List Int} {L24 : List Int} {a25 : Int} {a26 : Int} {a27 : Int} {a28 : Int} {L29 : List Int} {w12 : List RG} {N : Nat} (h : Z8 a0 L1 a2 b3 b4 a5 a6 a7 a8 a9 a10 a11 L12 a13 a14 a15 a16 a17 a18 a19 a20 L21 L22 L23 L24 a25 a26 a27 a28 L29 N = some (.r1 w12)) (ks : List Nat) (n : Nat) (hk : ks.length = 10 := by rfl) (hnd : ks.Nodup := by decide +kernel) (hlt : ∀ k ∈ ks, k < n := by decide +kernel) : (Zgx (N := N)  h ks n).P Tryz.prog 20 n :=
 match ks, hk, hnd, hlt with
 | [k0, k1, k2, k3, k4, k5, k6, k7, k8, k9], _, hnd, hlt => Zjz (show LSpec Tryz.prog 20 #[vp 0 0, vi a0] [.cells (Zr Zd 1 [] L1 [vn, vi a2, Value.bool b3, Value.bool b4, vi a5, vi a6, vi a7, vi a8, vp 1 0, vi a9, (fnV a10)]) 141, .cells (κh a11 L12 a13 a14 a15 a16 a17 a18 a19) 132, .cells (κi a20 L21 L22) 154, .cells (κq L23 L24) 191, .cells [vi a25, vi a26, vi a27] 208, .cells (Zr eI 64 [vi a28] L29 []) 211, .cells (Za RC L21) 57, .cells (Za RB L22) 42, .cells (Za eI L23) 188, .cells (Za eI L24) 188] (κU a9) [some (.cells (Zr Zd 1 [] ([(⟨(L1.getD 0 RK.z).a0, (L1.getD 0 RK.z).a1, (L1.getD 0 RK.z).a2, (L1.getD 0 RK.z).a3, (L1.getD 0 RK.z).a4, (L1.getD 0 RK.z).a5, (L1.getD 0 RK.z).a6, (L1.getD 0 RK.z).a7, (Int.tmod ((L1.getD 0 RK.z).a2 % (1048576 : Int)) (L23.length : Int)), (L1.getD 0 RK.z).a9, (L1.getD 0 RK.z).a10, (L1.getD 0 RK.z).a11, (L1.getD 0 RK.z).a12, (L1.getD 0 RK.z).a13, (L1.getD 0 RK.z).a14, (L1.getD 0 RK.z).a15⟩ : RK)] : List RK) [vs 10 0 w12.length w12.length, vi a2, Value.bool b3, Value.bool b4, vi a5, vi a6, vi a7, vi a8, vp 1 0, vi a9, Value.func (.func 162) #[] #[]]) 141), some (.cells (κh a11 L12 a13 a14 a15 a16 a17 a18 a19) 132), some (.cells (κi a20 L21 L22) 154), some (.cells (κq L23 L24) 191), some (.cells [vi a25, vi a26, vi a27] 208), some (κG a28 L29), some (.cells (Za RC L21) 57), some (.cells (Za RB L22) 42), some (.cells (Za eI L23) 188), some (.cells (Za eI L24) 188), some (.cells (Za RB w12) 42)] from Zd6 a0 L1 a2 b3 b4 a5 a6 a7 a8 a9 a10 a11 L12 a13 a14 a15 a16 a17 a18 a19 a20 L21 L22 L23 L24 a25 a26 a27 a28 L29 N _ h) _ n [0, 10] hnd hlt

noncomputable def ZaP {a0 : Int} {L1 : List RK} {a2 : Int} {b3 : Bool} {b4 : Bool} {a5 : Int} {a6 : Int} {a7 : Int} {a8 : Int} {a9 : Int} {a10 : Int} {a11 : Int} {L12 : List RF} {a13 : Int} {a14 : Int} {a15 : Int} {a16 : Int} {a17 : Int} {a18 : Int} {a19 : Int} {a20 : Int} {L21 : List RI} {L22 : List RG} {L23 : List Int} {L24 : List Int} {a25 : Int} {a26 : Int} {a27 : Int} {a28 : Int} {L29 : List Int} {w4 : Int} {w5 : Int} {w14 : Int} {w15 : Int} {w16 : Int} {N : Nat} (h : Z8 a0 L1 a2 b3 b4 a5 a6 a7 a8 a9 a10 a11 L12 a13 a14 a15 a16 a17 a18 a19 a20 L21 L22 L23 L24 a25 a26 a27 a28 L29 N = some (.r2 w4 w5 w14 w15 w16)) (ks : List Nat) (n : Nat) : ToldS := ⟨#[vp (nth ks 0) 0, vi a0], (κk ks L1 a2 b3 b4 a5 a6 a7 a8 a9 a10 a11 L12 a13 a14 a15 a16 a17 a18 a19 a20 L21 L22 L23 L24 a25 a26 a27 a28 L29), Value.tuple #[Value.agg #[vi (12 : Int), vi a9, vi w4, vi w5, vq, vq], vT], [((nth ks 0), some (.cells (Zr Zd 1 [] L1 [vn, vi a2, Value.bool b3, vT, vi a0, vi w14, vi w15, vi w16, vp (nth ks 1) 0, vi a9, Value.nilFunc]) 141)), ((nth ks 2), some (.cells [vi a20, vs n 0 (L21.length + 3) (L21.length + 3), vs (n + 1) 0 (L22.length + 3) (L22.length + 3), vn, vn, vn, vn, vn, vn, vn, vn, vn, vn, vn, vn, vn, vn, vn, vn, vn] 154)), ((nth ks 6), none), ((nth ks 7), none), (n, some (κ8 L21 a9)), ((n + 1), some (κba L22 L21))], 2⟩

theorem Zdi {a0 : Int} {L1 : List RK} {a2 : Int} {b3 : Bool} {b4 : Bool} {a5 : Int} {a6 : Int} {a7 : Int} {a8 : Int} {a9 : Int} {a10 : Int} {a11 : Int} {L12 : List RF} {a13 : Int} {a14 : Int} {a15 : Int} {a16 : Int} {a17 : Int} {a18 : Int} {a19 : Int} {a20 : Int} {L21 : List RI} {L22 : List RG} {L23 : List Int} {L24 : List Int} {a25 : Int} {a26 : Int} {a27 : Int} {a28 : Int} {L29 : List Int} {w4 : Int} {w5 : Int} {w14 : Int} {w15 : Int} {w16 : Int} {N : Nat} (h : Z8 a0 L1 a2 b3 b4 a5 a6 a7 a8 a9 a10 a11 L12 a13 a14 a15 a16 a17 a18 a19 a20 L21 L22 L23 L24 a25 a26 a27 a28 L29 N = some (.r2 w4 w5 w14 w15 w16)) (ks : List Nat) (n : Nat) (hk : ks.length = 10 := by rfl) (hnd : ks.Nodup := by decide +kernel) (hlt : ∀ k ∈ ks, k < n := by decide +kernel) : (ZaP (N := N)  h ks n).P Tryz.prog 20 n :=
 match ks, hk, hnd, hlt with
 | [k0, k1, k2, k3, k4, k5, k6, k7, k8, k9], _, hnd, hlt => Zjz (show LSpec Tryz.prog 20 #[vp 0 0, vi a0] [.cells (Zr Zd 1 [] L1 [vn, vi a2, Value.bool b3, Value.bool b4, vi a5, vi a6, vi a7, vi a8, vp 1 0, vi a9, (fnV a10)]) 141, .cells (κh a11 L12 a13 a14 a15 a16 a17 a18 a19) 132, .cells (κi a20 L21 L22) 154, .cells (κq L23 L24) 191, .cells [vi a25, vi a26, vi a27] 208, .cells (Zr eI 64 [vi a28] L29 []) 211, .cells (Za RC L21) 57, .cells (Za RB L22) 42, .cells (Za eI L23) 188, .cells (Za eI L24) 188] (Value.tuple #[Value.agg #[vi (12 : Int), vi a9, vi w4, vi w5, vq, vq], vT]) [some (.cells (Zr Zd 1 [] L1 [vn, vi a2, Value.bool b3, vT, vi a0, vi w14, vi w15, vi w16, vp 1 0, vi a9, Value.nilFunc]) 141), some (.cells (κh a11 L12 a13 a14 a15 a16 a17 a18 a19) 132), some (.cells [vi a20, vs 10 0 (L21.length + 3) (L21.length + 3), vs 11 0 (L22.length + 3) (L22.length + 3), vn, vn, vn, vn, vn, vn, vn, vn, vn, vn, vn, vn, vn, vn, vn, vn, vn] 154), some (.cells (κq L23 L24) 191), some (.cells [vi a25, vi a26, vi a27] 208), some (κG a28 L29), none, none, some (.cells (Za eI L23) 188), some (.cells (Za eI L24) 188), some (κ8 L21 a9), some (κba L22 L21)] from Zd6 a0 L1 a2 b3 b4 a5 a6 a7 a8 a9 a10 a11 L12 a13 a14 a15 a16 a17 a18 a19 a20 L21 L22 L23 L24 a25 a26 a27 a28 L29 N _ h) _ n [0, 2, 6, 7, 10, 11] hnd hlt

set_option linter.unusedVariables false
set_option maxRecDepth 100000
set_option maxHeartbeats 4000000
noncomputable def Zmc (L0 : List RJ) (a1 a2 : Int) : ZbD → Value
 | .r0 w0 w1 w2 w3 w4 w5 w6 w7 => Value.tuple #[Value.agg #[vi w0, vi w1, vi w2, vi w3, vi w4, vi w5, vi w6, ms RB w7], vT]
 | .r1 => Value.tuple #[Value.agg #[vq, vq, vq, vq, vq, vq, vq, vn], vf]
noncomputable def Zlq (L0 : List RJ) (a1 a2 : Int) : ZbD → List (Option AObj)
 | .r0 w0 w1 w2 w3 w4 w5 w6 w7 => []
 | .r1 => []

def ZpU : Zbi → Nat
 | .h1m0 v1 => 1
noncomputable def Zq8 (L0 : List RJ) (a1 a2 : Int) : Zbi → List (Nat × Value)
 | .h1m0 v1 => [(0, ms RD L0), (3, vp 0 0), (4, vp 1 0), (6, vi (v1 : Int))]
noncomputable def Zq9 (L0 : List RJ) (a1 a2 : Int) : Zbi → List (Option AObj)
 | .h1m0 v1 => [some (.cells [vi a1, vi a2] 42), some (.cells [vq, vq, vq, vq, vq, vq, vq, vn] 156)]

noncomputable def Zes : Nat → Code × List ZaI
 | 1 => ZbB [1, 0, 1, 3] (ZcG Tryz.f106) []
 | _ => (.skip, [])
def Zlr : Nat → Bool
 | 1 => true
 | _ => true
noncomputable def ZqA (i : Nat) : List ZaI := match Zlr i with | true => .rnd i :: (Zes i).2 | false => (Zes i).2

noncomputable def Zf0 (L0 : List RJ) (a1 a2 : Int) (N : Nat) : Mach := ⟨Tryz.f106, [], Zbi, ZbD, Zbu L0 a1 a2 N, ZpU, Zes, Zlr, Zq8 L0 a1 a2, Zq9 L0 a1 a2, Zmc L0 a1 a2, Zlq L0 a1 a2⟩

theorem Zm3 (L0 : List RJ) (a1 a2 : Int) (v1 N : Nat) : (Zf0 L0 a1 a2 N).Ok Tryz.prog Zs (.h1m0 v1 : Zbi) (Zbu L0 a1 a2 N (.h1m0 v1 : Zbi)) := by
 show (Zf0 L0 a1 a2 N).Ok Tryz.prog Zs (.h1m0 v1 : Zbi) (Zbm L0 a1 a2 N v1)
 unfold Zbm
 refine Mach.ok_ite (fun g0 => ?_) (fun g0 => ?_)
 ·
  have w1 := kG RD L0 ((0 + (v1 * 8)) + 0) v1 0 2 8 <| kB v1 L0.length <| kI (v1 : Int) (Int.ofNat v1) <| hY g0 Zi
  refine Mach.ok_ite (fun g1 => ?_) (fun g1 => ?_)
  ·
   exact Mach.okF (Zh (oq [1, 3]) [] [(0, v1), (1, v1)] [(0, [.i (L0.getD v1 RJ.z).a0, .i (L0.getD v1 RJ.z).a1]), (2, (RD.cel (L0.getD v1 RJ.z)))] []) [] (Value.tuple #[Value.agg #[vi (L0.getD v1 RJ.z).a0, vi (L0.getD v1 RJ.z).a1, vi (L0.getD v1 RJ.z).a2, vi (L0.getD v1 RJ.z).a3, vi (L0.getD v1 RJ.z).a4, vi (L0.getD v1 RJ.z).a5, vi (L0.getD v1 RJ.z).a6, ms RB (L0.getD v1 RJ.z).a7], vT]) (kG RD L0 (0 + (v1 * 8)) v1 0 8 8 <| kB v1 L0.length <| kI (v1 : Int) (Int.ofNat v1) <| kZ (((L0.getD v1 RJ.z).a0 == a1) && (((L0.getD v1 RJ.z).a1 == a2) && true)) w1) bE
  ·
   refine Mach.ok_ite (fun g2 => ?_) (fun _ => Mach.ok_none)
   exact Mach.okN (Zh (oq [1, 2]) [(0, (((v1 + 1) : Nat) : Int))] [(0, v1)] [(0, [.i (L0.getD v1 RJ.z).a0, .i (L0.getD v1 RJ.z).a1])] []) [0, 1] [some (ms RD L0), some (vp 0 0), some (vp 1 0), some (vi (((v1 + 1) : Nat) : Int))] (kW ((v1 : Int) + (1 : Int)) (((v1 + 1) : Nat) : Int) <| kO (((L0.getD v1 RJ.z).a0 == a1) && (((L0.getD v1 RJ.z).a1 == a2) && true)) w1) (tC (tC (tC (tC (tE))))) (bS [vi a1, vi a2] <| bS [vq, vq, vq, vq, vq, vq, vq, vn] <| bE) (show 1 ∈ Zt (ZqA 1) from by decide +kernel)
 ·
  exact Mach.okF (Zh (oq [0]) [] [] [] []) [] (Value.tuple #[Value.agg #[vq, vq, vq, vq, vq, vq, vq, vn], vf]) (hN g0 Zi) bE

theorem Zo6 (L0 : List RJ) (a1 a2 : Int) (N : Nat) : (Zf0 L0 a1 a2 N).Enter Tryz.prog Zs (κA L0 a1 a2) (ZhT L0 a1 a2 N) := by
 unfold ZhT
 exact Mach.enH (Zes 1) (Zh (oq []) [] [] [] []) [0, 1] [some (ms RD L0), some (vp 0 0), some (vp 1 0), some (vq)] Zi (tC (tC (tC (tC (tE) ⟨Eq.trans (show κ9 = vq from (congrArg (Value.int .i64) (by first | rfl | omega))) (by rfl), by rfl⟩)))) (bS [vi a1, vi a2] <| bS [vq, vq, vq, vq, vq, vq, vq, vn] <| bE) (show Zt (Zes 1).2 = [] from rfl)

theorem ZiC (L0 : List RJ) (a1 a2 : Int) (N : Nat) (r : ZbD) (h : Zbv L0 a1 a2 N = some r) : LSpec Tryz.prog 106 (κA L0 a1 a2) [] (Zmc L0 a1 a2 r) (Zlq L0 a1 a2 r) :=
 Mach.spec Zau (Zf0 L0 a1 a2 N) Tryz.func106 (by kernel_rfl) (by kernel_rfl) (fun x => by cases x <;> exact ZG _ rfl) (fun r => by cases r <;> exact ZG _ rfl) (fun x => by
  cases x with
  | h1m0 _ => exact fun _ => (show ¬ (1 ∈ Zt (Zes 1).2) from by decide +kernel)
  ) (fun x => (show (Zf0 L0 a1 a2 N).Ok Tryz.prog Zs x (Zbu L0 a1 a2 N x) from by
  cases x with
  | h1m0 v1 => exact Zm3 L0 a1 a2 v1 N
  )) (Zo6 L0 a1 a2 N) (n := N) h

noncomputable def ZaH {L0 : List RJ} {a1 : Int} {a2 : Int} {w0 : Int} {w1 : Int} {w2 : Int} {w3 : Int} {w4 : Int} {w5 : Int} {w6 : Int} {w7 : List RG} {N : Nat} (h : Zbv L0 a1 a2 N = some (.r0 w0 w1 w2 w3 w4 w5 w6 w7)) (ks : List Nat) (n : Nat) : ToldS := ⟨(κA L0 a1 a2), [], Value.tuple #[Value.agg #[vi w0, vi w1, vi w2, vi w3, vi w4, vi w5, vi w6, ms RB w7], vT], [], 0⟩

theorem Zc3 {L0 : List RJ} {a1 : Int} {a2 : Int} {w0 : Int} {w1 : Int} {w2 : Int} {w3 : Int} {w4 : Int} {w5 : Int} {w6 : Int} {w7 : List RG} {N : Nat} (h : Zbv L0 a1 a2 N = some (.r0 w0 w1 w2 w3 w4 w5 w6 w7)) (ks : List Nat) (n : Nat) (hk : ks.length = 0 := by rfl) (hnd : ks.Nodup := by decide +kernel) (hlt : ∀ k ∈ ks, k < n := by decide +kernel) : (ZaH (N := N)  h ks n).P Tryz.prog 106 n :=
 match ks, hk, hnd, hlt with
 | [], _, hnd, hlt => Za7 (show LSpec Tryz.prog 106 (κA L0 a1 a2) [] (Value.tuple #[Value.agg #[vi w0, vi w1, vi w2, vi w3, vi w4, vi w5, vi w6, ms RB w7], vT]) [] from ZiC L0 a1 a2 N _ h) _ n [] hnd hlt

noncomputable def ZbI {L0 : List RJ} {a1 : Int} {a2 : Int} {N : Nat} (h : Zbv L0 a1 a2 N = some (.r1)) (ks : List Nat) (n : Nat) : ToldS := ⟨(κA L0 a1 a2), [], Value.tuple #[Value.agg #[vq, vq, vq, vq, vq, vq, vq, vn], vf], [], 0⟩

theorem ZdN {L0 : List RJ} {a1 : Int} {a2 : Int} {N : Nat} (h : Zbv L0 a1 a2 N = some (.r1)) (ks : List Nat) (n : Nat) (hk : ks.length = 0 := by rfl) (hnd : ks.Nodup := by decide +kernel) (hlt : ∀ k ∈ ks, k < n := by decide +kernel) : (ZbI (N := N)  h ks n).P Tryz.prog 106 n :=
 match ks, hk, hnd, hlt with
 | [], _, hnd, hlt => Za7 (show LSpec Tryz.prog 106 (κA L0 a1 a2) [] (Value.tuple #[Value.agg #[vq, vq, vq, vq, vq, vq, vq, vn], vf]) [] from ZiC L0 a1 a2 N _ h) _ n [] hnd hlt

noncomputable def Zos (L0 : List RJ) (a1 a2 : Int) : ZdT → Value
 | .r0 w0 => Value.bool w0
noncomputable def Znm (L0 : List RJ) (a1 a2 : Int) : ZdT → List (Option AObj)
 | .r0 w0 => []

theorem ZqB (L0 : List RJ) (a1 a2 : Int) (N : Nat) : Fx Tryz.prog Zs Tryz.f107 [] (κA L0 a1 a2) (Zos L0 a1 a2) (Znm L0 a1 a2) (Zcs L0 a1 a2 N) := by
 unfold Zcs
 refine Zaa (fun z0 c0 => ?_)
 cases z0 with
 | r0 y0_0 y0_1 y0_2 y0_3 y0_4 y0_5 y0_6 y0_7 =>
  refine Zf (fun g1 => ?_) (fun g1 => ?_)
  ·
   refine Zf (fun g2 => ?_) (fun g2 => ?_)
   ·
    exact fxC (Zh (oq [1, 3]) [] [] [] [(0, (ZaH c0 [] 1).t)]) [] (vT) (hD g2 <| hT g1 <| kK (Zc3 c0 [] 1) Zi) bE
   ·
    exact fxC (Zh (oq [1, 2]) [] [] [] [(0, (ZaH c0 [] 1).t)]) [] (vf) (kE a2 (0 : Int) <| hT g1 <| kK (Zc3 c0 [] 1) Zi) bE
  ·
   exact fxC (Zh (oq [0]) [] [] [] [(0, (ZaH c0 [] 1).t)]) [] (vf) (hF g1 <| kK (Zc3 c0 [] 1) Zi) bE
 | r1 =>
  exact fxC (Zh (oq []) [] [] [] [(0, (ZbI c0 [] 1).t)]) [] (vf) (kK (ZdN c0 [] 1) Zi) bE

theorem Zo7 (L0 : List RJ) (a1 a2 : Int) (N : Nat) (r : ZdT) (h : Zcs L0 a1 a2 N = some r) : LSpec Tryz.prog 107 (κA L0 a1 a2) [] (Zos L0 a1 a2 r) (Znm L0 a1 a2 r) :=
 Zbh Zau Tryz.func107 (by kernel_rfl) (by kernel_rfl) (fun r => by cases r <;> exact ZG _ rfl) (ZqB L0 a1 a2 N) h

noncomputable def Za2 {L0 : List RJ} {a1 : Int} {a2 : Int} {w0 : Bool} {N : Nat} (h : Zcs L0 a1 a2 N = some (.r0 w0)) (ks : List Nat) (n : Nat) : ToldS := ⟨(κA L0 a1 a2), [], Value.bool w0, [], 0⟩

theorem Zcy {L0 : List RJ} {a1 : Int} {a2 : Int} {w0 : Bool} {N : Nat} (h : Zcs L0 a1 a2 N = some (.r0 w0)) (ks : List Nat) (n : Nat) (hk : ks.length = 0 := by rfl) (hnd : ks.Nodup := by decide +kernel) (hlt : ∀ k ∈ ks, k < n := by decide +kernel) : (Za2 (N := N)  h ks n).P Tryz.prog 107 n :=
 match ks, hk, hnd, hlt with
 | [], _, hnd, hlt => Za7 (show LSpec Tryz.prog 107 (κA L0 a1 a2) [] (Value.bool w0) [] from Zo7 L0 a1 a2 N _ h) _ n [] hnd hlt

noncomputable def Znn (a0 a1 : Int) : ZcI → Value
 | .r0 => vf
noncomputable def Zmd (a0 a1 : Int) : ZcI → List (Option AObj)
 | .r0 => []

def ZqC : ref16_hasX → Nat
 | .h1m0 => 1
noncomputable def ZrT (a0 a1 : Int) : ref16_hasX → List (Nat × Value)
 | .h1m0 => [(0, vn), (3, vp 0 0), (5, vq)]
noncomputable def ZrU (a0 a1 : Int) : ref16_hasX → List (Option AObj)
 | .h1m0 => [some (.cells [vi a0, vi a1] 42)]

noncomputable def Zhx : Nat → Code × List ZaI
 | 1 => ZbB [1, 0, 1, 3] (ZcG Tryz.f108) []
 | _ => (.skip, [])
def ZqD : Nat → Bool
 | 1 => true
 | _ => true
noncomputable def Zgo (a0 a1 : Int) (N : Nat) : Mach := ⟨Tryz.f108, [], ref16_hasX, ZcI, Zf3 a0 a1 N, ZqC, Zhx, ZqD, ZrT a0 a1, ZrU a0 a1, Znn a0 a1, Zmd a0 a1⟩

theorem Zno (a0 a1 : Int) (N : Nat) : (Zgo a0 a1 N).Ok Tryz.prog Zs (.h1m0 : ref16_hasX) (Zf3 a0 a1 N (.h1m0 : ref16_hasX)) := by
 show (Zgo a0 a1 N).Ok Tryz.prog Zs (.h1m0 : ref16_hasX) (Zg9 a0 a1 N)
 unfold Zg9
 exact Mach.okF (Zh (oq []) [] [] [] []) [] (vf) Zi bE

theorem ZpV (a0 a1 : Int) (N : Nat) : (Zgo a0 a1 N).Enter Tryz.prog Zs #[vn, Value.agg #[vi a0, vi a1]] (ZiR a0 a1 N) := by
 unfold ZiR
 exact Mach.enH (Zhx 1) (Zh (oq []) [] [] [] []) [0] [some (vn), some (vp 0 0), some (vq)] Zi (tC (tC (tC (tE)))) (bS [vi a0, vi a1] <| bE) (show Zt (Zhx 1).2 = [] from rfl)

theorem ZnD (a0 a1 : Int) (N : Nat) (r : ZcI) (h : ZfK a0 a1 N = some r) : LSpec Tryz.prog 108 #[vn, Value.agg #[vi a0, vi a1]] [] (Znn a0 a1 r) (Zmd a0 a1 r) :=
 Mach.spec Zau (Zgo a0 a1 N) Tryz.func108 (by kernel_rfl) (by kernel_rfl) (fun x => by cases x <;> exact ZG _ rfl) (fun r => by cases r <;> exact ZG _ rfl) (fun x => by
  cases x with
  | h1m0 => exact fun _ => (show ¬ (1 ∈ Zt (Zhx 1).2) from by decide +kernel)
  ) (fun x => (show (Zgo a0 a1 N).Ok Tryz.prog Zs x (Zf3 a0 a1 N x) from by
  cases x with
  | h1m0 => exact Zno a0 a1 N
  )) (ZpV a0 a1 N) (n := N) h

noncomputable def ZgE {a0 : Int} {a1 : Int} {N : Nat} (h : ZfK a0 a1 N = some (.r0)) (ks : List Nat) (n : Nat) : ToldS := ⟨#[vn, Value.agg #[vi a0, vi a1]], [], vf, [], 0⟩

theorem ZiZ {a0 : Int} {a1 : Int} {N : Nat} (h : ZfK a0 a1 N = some (.r0)) (ks : List Nat) (n : Nat) (hk : ks.length = 0 := by rfl) (hnd : ks.Nodup := by decide +kernel) (hlt : ∀ k ∈ ks, k < n := by decide +kernel) : (ZgE (N := N)  h ks n).P Tryz.prog 108 n :=
 match ks, hk, hnd, hlt with
 | [], _, hnd, hlt => Za7 (show LSpec Tryz.prog 108 #[vn, Value.agg #[vi a0, vi a1]] [] (vf) [] from ZnD a0 a1 N _ h) _ n [] hnd hlt

noncomputable def Zls (L0 : List RG) (a1 a2 : Int) : ZbE → Value
 | .r0 w1 => Value.bool w1
noncomputable def Zkw (L0 : List RG) (a1 a2 : Int) : ZbE → List (Option AObj)
 | .r0 w1 => [some (.cells (Za RB L0) 42)]

def Zo8 : ZaU → Nat
 | .h1m0 v1 => 1
noncomputable def ZpW (L0 : List RG) (a1 a2 : Int) : ZaU → List (Nat × Value)
 | .h1m0 v1 => [(0, vs 0 0 L0.length L0.length), (3, vp 1 0), (5, vi (v1 : Int))]
noncomputable def ZpX (L0 : List RG) (a1 a2 : Int) : ZaU → List (Option AObj)
 | .h1m0 v1 => [some (.cells (Za RB L0) 42), some (.cells [vi a1, vi a2] 42)]

noncomputable def ZdO : Nat → Code × List ZaI
 | 1 => ZbB [1, 0, 1, 3] (ZcG Tryz.f108) []
 | _ => (.skip, [])
def Zkx : Nat → Bool
 | 1 => true
 | _ => true
noncomputable def ZpY (i : Nat) : List ZaI := match Zkx i with | true => .rnd i :: (ZdO i).2 | false => (ZdO i).2

noncomputable def ZeR (L0 : List RG) (a1 a2 : Int) (N : Nat) : Mach := ⟨Tryz.f108, [.cells (Za RB L0) 42], ZaU, ZbE, Zb4 L0 a1 a2 N, Zo8, ZdO, Zkx, ZpW L0 a1 a2, ZpX L0 a1 a2, Zls L0 a1 a2, Zkw L0 a1 a2⟩

theorem ZlR (L0 : List RG) (a1 a2 : Int) (v1 N : Nat) : (ZeR L0 a1 a2 N).Ok Tryz.prog Zs (.h1m0 v1 : ZaU) (Zb4 L0 a1 a2 N (.h1m0 v1 : ZaU)) := by
 show (ZeR L0 a1 a2 N).Ok Tryz.prog Zs (.h1m0 v1 : ZaU) (Zbd L0 a1 a2 N v1)
 unfold Zbd
 refine Mach.ok_ite (fun g0 => ?_) (fun g0 => ?_)
 ·
  have w1 := kLn RB L0 v1 0 2 <| kB v1 L0.length <| kI (v1 : Int) (Int.ofNat v1) <| hY g0 Zi
  refine Mach.ok_ite (fun g1 => ?_) (fun g1 => ?_)
  ·
   exact Mach.okF (Zh (oq [1, 3]) [] [(0, v1)] [(0, (RB.cel (L0.getD v1 RG.z)))] []) [0] (vT) (kZ (((L0.getD v1 RG.z).a0 == a1) && (((L0.getD v1 RG.z).a1 == a2) && true)) w1) (bR <| bE)
  ·
   refine Mach.ok_ite (fun g2 => ?_) (fun _ => Mach.ok_none)
   exact Mach.okN (Zh (oq [1, 2]) [(0, (((v1 + 1) : Nat) : Int))] [(0, v1)] [(0, (RB.cel (L0.getD v1 RG.z)))] []) [0, 1] [some (vs 0 0 L0.length L0.length), some (vp 1 0), some (vi (((v1 + 1) : Nat) : Int))] (kW ((v1 : Int) + (1 : Int)) (((v1 + 1) : Nat) : Int) <| kO (((L0.getD v1 RG.z).a0 == a1) && (((L0.getD v1 RG.z).a1 == a2) && true)) w1) (tC (tC (tC (tE)))) (bR <| bS [vi a1, vi a2] <| bE) (show 1 ∈ Zt (ZpY 1) from by decide +kernel)
 ·
  exact Mach.okF (Zh (oq [0]) [] [] [] []) [0] (vf) (hN g0 Zi) (bR <| bE)

theorem ZnE (L0 : List RG) (a1 a2 : Int) (N : Nat) : (ZeR L0 a1 a2 N).Enter Tryz.prog Zs #[vs 0 0 L0.length L0.length, Value.agg #[vi a1, vi a2]] (Zhb L0 a1 a2 N) := by
 unfold Zhb
 exact Mach.enH (ZdO 1) (Zh (oq []) [] [] [] []) [0, 1] [some (vs 0 0 L0.length L0.length), some (vp 1 0), some (vq)] Zi (tC (tC (tC (tE) ⟨Eq.trans (show κ9 = vq from (congrArg (Value.int .i64) (by first | rfl | omega))) (by rfl), by rfl⟩))) (bR <| bS [vi a1, vi a2] <| bE) (show Zt (ZdO 1).2 = [] from rfl)

theorem Zm4 (L0 : List RG) (a1 a2 : Int) (N : Nat) (r : ZbE) (h : Zd4 L0 a1 a2 N = some r) : LSpec Tryz.prog 108 #[vs 0 0 L0.length L0.length, Value.agg #[vi a1, vi a2]] [.cells (Za RB L0) 42] (Zls L0 a1 a2 r) (Zkw L0 a1 a2 r) :=
 Mach.spec Zau (ZeR L0 a1 a2 N) Tryz.func108 (by kernel_rfl) (by kernel_rfl) (fun x => by cases x <;> exact ZG _ rfl) (fun r => by cases r <;> exact ZG _ rfl) (fun x => by
  cases x with
  | h1m0 _ => exact fun _ => (show ¬ (1 ∈ Zt (ZdO 1).2) from by decide +kernel)
  ) (fun x => (show (ZeR L0 a1 a2 N).Ok Tryz.prog Zs x (Zb4 L0 a1 a2 N x) from by
  cases x with
  | h1m0 v1 => exact ZlR L0 a1 a2 v1 N
  )) (ZnE L0 a1 a2 N) (n := N) h

noncomputable def Zbs {L0 : List RG} {a1 : Int} {a2 : Int} {w1 : Bool} {N : Nat} (h : Zd4 L0 a1 a2 N = some (.r0 w1)) (ks : List Nat) (n : Nat) : ToldS := ⟨#[vs (nth ks 0) 0 L0.length L0.length, Value.agg #[vi a1, vi a2]], [((nth ks 0), .cells (Za RB L0) 42)], Value.bool w1, [], 0⟩

theorem Zek {L0 : List RG} {a1 : Int} {a2 : Int} {w1 : Bool} {N : Nat} (h : Zd4 L0 a1 a2 N = some (.r0 w1)) (ks : List Nat) (n : Nat) (hk : ks.length = 1 := by rfl) (hnd : ks.Nodup := by decide +kernel) (hlt : ∀ k ∈ ks, k < n := by decide +kernel) : (Zbs (N := N)  h ks n).P Tryz.prog 108 n :=
 match ks, hk, hnd, hlt with
 | [k0], _, hnd, hlt => Za7 (show LSpec Tryz.prog 108 #[vs 0 0 L0.length L0.length, Value.agg #[vi a1, vi a2]] [.cells (Za RB L0) 42] (Value.bool w1) [some (.cells (Za RB L0) 42)] from Zm4 L0 a1 a2 N _ h) _ n [] hnd hlt

noncomputable def Zel (L0 : List RJ) (L1 : List RG) (a2 a3 : Int) : Zw → Value
 | .r0 => vs 0 0 L1.length L1.length
 | .r1 w0 => vs 1 0 w0.length w0.length
noncomputable def ZdP (L0 : List RJ) (L1 : List RG) (a2 a3 : Int) : Zw → List (Option AObj)
 | .r0 => [some (.cells (Za RB L1) 42)]
 | .r1 w0 => [none, some (.cells (Za RB w0) 42)]

def ZnF : Zak → Nat
 | .h1m0 v1 v3 v4 v5 v6 v7 v8 v9 v10 v11 => 1
noncomputable def Zo9 (L0 : List RJ) (L1 : List RG) (a2 a3 : Int) : Zak → List (Nat × Value)
 | .h1m0 v1 v3 v4 v5 v6 v7 v8 v9 v10 v11 => [(0, ms RD L0), (1, vs 1 0 v1.length v1.length), (3, vT), (9, vp 2 0), (11, vi (v3 : Int))]
noncomputable def ZoA (L0 : List RJ) (L1 : List RG) (a2 a3 : Int) : Zak → List (Option AObj)
 | .h1m0 v1 v3 v4 v5 v6 v7 v8 v9 v10 v11 => [none, some (.cells (Za RB v1) 42), some (.cells [vi v4, vi v5, vi v6, vi v7, vi v8, vi v9, vi v10, ms RB v11] 156)]

noncomputable def Zdm : Nat → Code × List ZaI
 | 1 => ZbB [1, 1, 1, 1, 0, 1, 3] (ZcG Tryz.f52) []
 | _ => (.skip, [])
def Zj8 : Nat → Bool
 | 1 => true
 | _ => true
noncomputable def Zky (i : Nat) : List ZaI := match Zj8 i with | true => .rnd i :: (Zdm i).2 | false => (Zdm i).2

noncomputable def Zj9 (L0 : List RJ) (L1 : List RG) (a2 a3 : Int) (k0 n : Nat) : ZgV := .call [(k0, .cells (Za RB L1) 42)] (vs k0 0 L1.length L1.length) [] 0
def Zfb (A : Array Value) (L0 : List RJ) (L1 : List RG) (a2 a3 : Int) (k0 n : Nat) : Prop := ZbN Tryz.prog 52 A [(k0, .cells (Za RB L1) 42)] (vs k0 0 L1.length L1.length) [] n 0

noncomputable abbrev κP (L0 : List RJ) (L1 : List RG) (a2 : Int) (a3 : Int) := #[ms RD L0, vs 0 0 L1.length L1.length, Value.agg #[vi a2, vi a3], vT]
theorem ZiD (A : Array Value) (L0 : List RJ) (L1 : List RG) (a2 a3 : Int) (hL : LSpec Tryz.prog 52 (κP L0 L1 a2 a3) [.cells (Za RB L1) 42] (vs 0 0 L1.length L1.length) [some (.cells (Za RB L1) 42)]) (k0 n : Nat) (hA : A = #[ms RD L0, vs k0 0 L1.length L1.length, Value.agg #[vi a2, vi a3], vT]) (hnd : ([k0] : List Nat).Nodup) (hlt : ∀ k ∈ ([k0] : List Nat), k < n) : Zfb A L0 L1 a2 a3 k0 n :=
 Zra hA (LSpec.callL (show LSpec Tryz.prog 52 (κP L0 L1 a2 a3) [.cells (Za RB L1) 42] (vs 0 0 L1.length L1.length) [some (.cells (Za RB L1) 42)] from hL) [k0] n [] rfl hnd hlt (show 1 ≤ 1 from by decide) (show ∀ j ∈ ([] : List Nat), j < 1 from by decide) (by rfl) ⟨(Zb3 _ _ _), trivial⟩ (by rfl) ⟨(Zb3 _ _ _), trivial⟩ ⟨.inr rfl, trivial⟩ rfl rfl rfl (Zg (ZfJ rfl (ZfB _ _ _)) rfl) rfl)

noncomputable def ZjA (L0 : List RJ) (L1 : List RG) (a2 a3 : Int) (w0 : List RG) (k0 n : Nat) : ZgV := .call [(k0, .cells (Za RB L1) 42)] (vs n 0 w0.length w0.length) [(k0, none), (n, some (.cells (Za RB w0) 42))] 1
def Zfc (A : Array Value) (L0 : List RJ) (L1 : List RG) (a2 a3 : Int) (w0 : List RG) (k0 n : Nat) : Prop := ZbN Tryz.prog 52 A [(k0, .cells (Za RB L1) 42)] (vs n 0 w0.length w0.length) [(k0, none), (n, some (.cells (Za RB w0) 42))] n 1

theorem ZiE (A : Array Value) (L0 : List RJ) (L1 : List RG) (a2 a3 : Int) (w0 : List RG) (hL : LSpec Tryz.prog 52 (κP L0 L1 a2 a3) [.cells (Za RB L1) 42] (vs 1 0 w0.length w0.length) [none, some (.cells (Za RB w0) 42)]) (k0 n : Nat) (hA : A = #[ms RD L0, vs k0 0 L1.length L1.length, Value.agg #[vi a2, vi a3], vT]) (hnd : ([k0] : List Nat).Nodup) (hlt : ∀ k ∈ ([k0] : List Nat), k < n) : Zfc A L0 L1 a2 a3 w0 k0 n :=
 Zra hA (LSpec.callL (show LSpec Tryz.prog 52 (κP L0 L1 a2 a3) [.cells (Za RB L1) 42] (vs 1 0 w0.length w0.length) [none, some (.cells (Za RB w0) 42)] from hL) [k0] n [0, 1] rfl hnd hlt (show 1 ≤ 2 from by decide) (show ∀ j ∈ ([0, 1] : List Nat), j < 2 from by decide) (by rfl) ⟨(Zb3 _ _ _), trivial⟩ (by rfl) ⟨(Zb3 _ _ _), trivial⟩ ⟨.inl (by decide), ⟨(by decide), trivial⟩⟩ rfl rfl rfl (Zg (ZfJ rfl (ZfB _ _ _)) rfl) (Zg (ZfJ rfl rfl) (Zg (ZfJ rfl (ZnA (ZfB _ _ _))) rfl)))

noncomputable def Zax (rec : List RJ → List RG → Int → Int → Option Zw) (L0 : List RJ) (L1 : List RG) (a2 a3 : Int) (N : Nat) : Mach := ⟨Tryz.f52, [.cells (Za RB L1) 42], Zak, Zw, Zct rec L0 L1 a2 a3 N, ZnF, Zdm, Zj8, Zo9 L0 L1 a2 a3, ZoA L0 L1 a2 a3, Zel L0 L1 a2 a3, ZdP L0 L1 a2 a3⟩

theorem Zlt (rec : List RJ → List RG → Int → Int → Option Zw) (hrec : ∀ (L0 : List RJ) (L1 : List RG) (a2 a3 : Int) (r : Zw), rec L0 L1 a2 a3 = some r → LSpec Tryz.prog 52 (κP L0 L1 a2 a3) [.cells (Za RB L1) 42] (Zel L0 L1 a2 a3 r) (ZdP L0 L1 a2 a3 r)) (L0 : List RJ) (L1 : List RG) (a2 a3 : Int) (v1 : List RG) (v3 : Nat) (v4 v5 v6 v7 v8 v9 v10 : Int) (v11 : List RG) (N : Nat) : (Zax rec L0 L1 a2 a3 N).Ok Tryz.prog Zs (.h1m0 v1 v3 v4 v5 v6 v7 v8 v9 v10 v11 : Zak) (Zct rec L0 L1 a2 a3 N (.h1m0 v1 v3 v4 v5 v6 v7 v8 v9 v10 v11 : Zak)) := by
 show (Zax rec L0 L1 a2 a3 N).Ok Tryz.prog Zs (.h1m0 v1 v3 v4 v5 v6 v7 v8 v9 v10 v11 : Zak) (Zbz rec L0 L1 a2 a3 N v1 v3 v4 v5 v6 v7 v8 v9 v10 v11)
 unfold Zbz
 refine Mach.ok_ite (fun g0 => ?_) (fun g0 => ?_)
 ·
  refine Mach.ok_bind (fun z1 c1 => ?_)
  cases z1 with
  | r0 =>
   refine Mach.ok_ite (fun g2 => ?_) (fun _ => Mach.ok_none)
   exact Mach.ok_next (M := Zax rec L0 L1 a2 a3 N) (cd := 1000000) (cm := 0) (y := (.h1m0 v1 (v3 + 1) v4 v5 v6 v7 v8 v9 v10 v11 : Zak)) (fu := 4000) (orc := (Zh (oq [1]) [(0, (((v3 + 1) : Nat) : Int))] [(0, v3)] [(2, (RB.cel (v11.getD v3 RG.z)))] [(0, (Zj9 L0 v1 ((v11.getD v3 RG.z).a0) ((v11.getD v3 RG.z).a1)   1 3))])) (live := [0, 1, 2]) (tv := fun _ => [some (ms RD L0), some (vs 1 0 v1.length v1.length), some (vT), some (vp 2 0), some (κ4 v3)]) (bl := [none, some (.cells (Za RB v1) 42), some (.cells [vi v4, vi v5, vi v6, vi v7, vi v8, vi v9, vi v10, ms RB v11] 156)]) rfl (show 1 ∈ Zt (Zky 1) from by decide +kernel) (fun gv => by kernel_rfl) (kW ((v3 : Int) + (1 : Int)) (((v3 + 1) : Nat) : Int) <| kX (dP (Zfb #[ms RD L0, vs 1 0 v1.length v1.length, Value.agg #[vi (v11.getD v3 RG.z).a0, vi (v11.getD v3 RG.z).a1], vT] L0 v1 ((v11.getD v3 RG.z).a0) ((v11.getD v3 RG.z).a1)   1 3)) true (Zv (ZiD #[ms RD L0, vs 1 0 v1.length v1.length, Value.agg #[vi (v11.getD v3 RG.z).a0, vi (v11.getD v3 RG.z).a1], vT] L0 v1 ((v11.getD v3 RG.z).a0) ((v11.getD v3 RG.z).a1)   (hrec L0 v1 ((v11.getD v3 RG.z).a0) ((v11.getD v3 RG.z).a1)  _ c1) 1 3 rfl (by decide) (by decide))) <| kR (Za RB v1) <| kG RB v11 (0 + (v3 * 2)) v3 0 2 2 <| kB v3 v11.length <| kI (v3 : Int) (Int.ofNat v3) <| hY g0 Zi) rfl (by decide +kernel) (by rfl) (fun _ => ⟨rr, ⟨rr, ⟨rr, ⟨rr, ⟨rr, trivial⟩⟩⟩⟩⟩) ⟨(ZcD (E := RB) (α := RG) _ v1 _), ⟨sm, trivial⟩⟩
  | r1 y1_0 =>
   refine Mach.ok_ite (fun g2 => ?_) (fun _ => Mach.ok_none)
   exact Mach.ok_next (M := Zax rec L0 L1 a2 a3 N) (cd := 1000000) (cm := 0) (y := (.h1m0 y1_0 (v3 + 1) v4 v5 v6 v7 v8 v9 v10 v11 : Zak)) (fu := 4000) (orc := (Zh (oq [1]) [(0, (((v3 + 1) : Nat) : Int))] [(0, v3)] [(2, (RB.cel (v11.getD v3 RG.z)))] [(0, (ZjA L0 v1 ((v11.getD v3 RG.z).a0) ((v11.getD v3 RG.z).a1)  y1_0 1 3))])) (live := [0, 3, 2]) (tv := fun _ => [some (ms RD L0), some (vs 3 0 y1_0.length y1_0.length), some (vT), some (vp 2 0), some (κ4 v3)]) (bl := [none, some (.cells (Za RB y1_0) 42), some (.cells [vi v4, vi v5, vi v6, vi v7, vi v8, vi v9, vi v10, ms RB v11] 156)]) rfl (show 1 ∈ Zt (Zky 1) from by decide +kernel) (fun gv => by kernel_rfl) (kW ((v3 : Int) + (1 : Int)) (((v3 + 1) : Nat) : Int) <| kX (dP (Zfc #[ms RD L0, vs 1 0 v1.length v1.length, Value.agg #[vi (v11.getD v3 RG.z).a0, vi (v11.getD v3 RG.z).a1], vT] L0 v1 ((v11.getD v3 RG.z).a0) ((v11.getD v3 RG.z).a1)  y1_0 1 3)) true (Zv (ZiE #[ms RD L0, vs 1 0 v1.length v1.length, Value.agg #[vi (v11.getD v3 RG.z).a0, vi (v11.getD v3 RG.z).a1], vT] L0 v1 ((v11.getD v3 RG.z).a0) ((v11.getD v3 RG.z).a1)  y1_0 (hrec L0 v1 ((v11.getD v3 RG.z).a0) ((v11.getD v3 RG.z).a1)  _ c1) 1 3 rfl (by decide) (by decide))) <| kR (Za RB v1) <| kG RB v11 (0 + (v3 * 2)) v3 0 2 2 <| kB v3 v11.length <| kI (v3 : Int) (Int.ofNat v3) <| hY g0 Zi) rfl (by decide +kernel) (by rfl) (fun _ => ⟨rr, ⟨rr, ⟨rr, ⟨rr, ⟨rr, trivial⟩⟩⟩⟩⟩) ⟨(ZcD (E := RB) (α := RG) _ y1_0 _), ⟨sm, trivial⟩⟩
 ·
  exact Mach.ok_fin (M := Zax rec L0 L1 a2 a3 N) (cd := 1000000) (cm := 0) (r := (.r1 v1 : Zw)) (fu := 4000) (orc := (Zh [(0, false)] [] [] [] [])) (live := [0, 1]) (u := vs 1 0 v1.length v1.length) (bl := [none, some (.cells (Za RB v1) 42)]) (ob := [((decide ((v3 : Int) < (v11.length : Int))), false)]) (fun gv => by kernel_rfl) (oN Zi) rfl (by decide) (by rfl) rr ⟨(ZcD (E := RB) (α := RG) _ v1 _), trivial⟩

theorem Znp (rec : List RJ → List RG → Int → Int → Option Zw) (hrec : ∀ (L0 : List RJ) (L1 : List RG) (a2 a3 : Int) (r : Zw), rec L0 L1 a2 a3 = some r → LSpec Tryz.prog 52 (κP L0 L1 a2 a3) [.cells (Za RB L1) 42] (Zel L0 L1 a2 a3 r) (ZdP L0 L1 a2 a3 r)) (L0 : List RJ) (L1 : List RG) (a2 a3 : Int) (N : Nat) : (Zax rec L0 L1 a2 a3 N).Enter Tryz.prog Zs (κP L0 L1 a2 a3) (Zcu rec L0 L1 a2 a3 N) := by
 unfold Zcu
 refine Mach.en_bind (fun z0 c0 => ?_)
 cases z0 with
 | r0 y0_0 y0_1 y0_2 y0_3 y0_4 y0_5 y0_6 y0_7 =>
  refine Mach.en_bind (fun z1 c1 => ?_)
  cases z1 with
  | r0 y1_0 =>
   refine Mach.en_ite (fun g2 => ?_) (fun g2 => ?_)
   ·
    exact Mach.en_fin (M := Zax rec L0 L1 a2 a3 N) (cd := 1000000) (cm := 0) (r := (.r0 : Zw)) (fu := 4000) (orc := (Zh [(0, true)] [] [] [] [(0, (ZaH c0 [] 2).t), (2, (Za2 c1 [] 3).t)])) (live := [0]) (u := vs 0 0 L1.length L1.length) (bl := [some (.cells (Za RB L1) 42)]) (ob := [((!y1_0), true), (dP ((Za2 c1 [] 3).P Tryz.prog 107 3), true), (dP ((ZaH c0 [] 2).P Tryz.prog 106 2), true)]) (by kernel_rfl) (ZB (Zfq (by first | assumption | simp_all)) <| ZB (Zv (Zcy c1 [] 3)) <| ZB (Zv (Zc3 c0 [] 2)) Zi) rfl (by decide) (by rfl) rr ⟨(ZcD (E := RB) (α := RG) _ L1 _), trivial⟩
   ·
    refine Mach.en_bind (fun z3 c3 => ?_)
    cases z3 with
    | r0 y3_0 =>
     refine Mach.en_ite (fun g4 => ?_) (fun g4 => ?_)
     ·
      subst g4
      exact Mach.en_fin (M := Zax rec L0 L1 a2 a3 N) (cd := 1000000) (cm := 0) (r := (.r0 : Zw)) (fu := 4000) (orc := (Zh [(0, false)] [] [] [] [(0, (ZaH c0 [] 2).t), (2, (Za2 c1 [] 3).t), (3, (Zbs c3 [0] 3).t)])) (live := [0]) (u := vs 0 0 L1.length L1.length) (bl := [some (.cells (Za RB L1) 42)]) (ob := [(dP ((Zbs c3 [0] 3).P Tryz.prog 108 3), true), (dS (Za RB L1), true), ((!y1_0), false), (dP ((Za2 c1 [] 3).P Tryz.prog 107 3), true), (dP ((ZaH c0 [] 2).P Tryz.prog 106 2), true)]) (by kernel_rfl) (ZB (Zv (Zek c3 [0] 3)) <| oR <| ZB (ZdJ (by first | assumption | exact Decidable.not_not.1 (by assumption) | simp_all)) <| ZB (Zv (Zcy c1 [] 3)) <| ZB (Zv (Zc3 c0 [] 2)) Zi) rfl (by decide) (by rfl) rr ⟨(ZcD (E := RB) (α := RG) _ L1 _), trivial⟩
     ·
      obtain rfl : y3_0 = false := by simpa using g4
      refine Mach.en_ite (fun g5 => ?_) (fun g5 => ?_)
      ·
       exact Mach.en_fin (M := Zax rec L0 L1 a2 a3 N) (cd := 1000000) (cm := 0) (r := (.r0 : Zw)) (fu := 4000) (orc := (Zh [(0, false), (1, true)] [] [] [] [(0, (ZaH c0 [] 2).t), (2, (Za2 c1 [] 3).t), (3, (Zbs c3 [0] 3).t)])) (live := [0]) (u := vs 0 0 L1.length L1.length) (bl := [some (.cells (Za RB L1) 42)]) (ob := [((y0_5 != (1 : Int)), true), (dP ((Zbs c3 [0] 3).P Tryz.prog 108 3), true), (dS (Za RB L1), true), ((!y1_0), false), (dP ((Za2 c1 [] 3).P Tryz.prog 107 3), true), (dP ((ZaH c0 [] 2).P Tryz.prog 106 2), true)]) (by kernel_rfl) (oD <| ZB (Zv (Zek c3 [0] 3)) <| oR <| ZB (ZdJ (by first | assumption | exact Decidable.not_not.1 (by assumption) | simp_all)) <| ZB (Zv (Zcy c1 [] 3)) <| ZB (Zv (Zc3 c0 [] 2)) Zi) rfl (by decide) (by rfl) rr ⟨(ZcD (E := RB) (α := RG) _ L1 _), trivial⟩
      ·
       refine Mach.en_ite (fun g6 => ?_) (fun _ => Mach.en_none)
       exact Mach.en_head (bK := Zdm 1) (M := Zax rec L0 L1 a2 a3 N) (cd := 1000000) (cm := 0) (y := (.h1m0 (L1 ++ ([(⟨a2, a3⟩ : RG)] : List RG)) 0 y0_0 y0_1 y0_2 y0_3 y0_4 y0_5 y0_6 y0_7 : Zak)) (fu := 4000) (orc := (Zh (oq [0, 2]) [] [] [] [(0, (ZaH c0 [] 2).t), (2, (Za2 c1 [] 3).t), (3, (Zbs c3 [0] 3).t), (4, .ap 1 [vi a2, vi a3] (Za RB (L1 ++ ([(⟨a2, a3⟩ : RG)] : List RG))))])) (live := [0, 4, 2]) (tv := [some (ms RD L0), some (vs 4 0 (L1.length + 1) (L1.length + 1)), some (vT), some (vp 2 0), some (vq)]) (bl := [none, some (.cells (Za RB (L1 ++ ([(⟨a2, a3⟩ : RG)] : List RG))) 42), some (.cells [vi y0_0, vi y0_1, vi y0_2, vi y0_3, vi y0_4, vi y0_5, vi y0_6, ms RB y0_7] 156)]) rfl rfl (show Zt (Zdm 1).2 = [] from rfl) (by kernel_rfl) (kA RB L1 (⟨a2, a3⟩ : RG) <| kE y0_5 (1 : Int) <| kK (Zek c3 [0] 3) <| kX ((!y1_0)) false (ZdJ (by first | assumption | exact Decidable.not_not.1 (by assumption) | simp_all)) <| kK (Zcy c1 [] 3) <| kK (Zc3 c0 [] 2) Zi) rfl (by decide +kernel) (by rfl) ⟨rr, ⟨⟨Eq.trans (show (vs 1 0 (L1 ++ ([(⟨a2, a3⟩ : RG)] : List RG)).length (L1 ++ ([(⟨a2, a3⟩ : RG)] : List RG)).length : Value) = vs 1 0 (L1.length + 1) (L1.length + 1) from (Z3 rfl eqA eqA)) (by rfl), by rfl⟩, ⟨rr, ⟨rr, ⟨⟨Eq.trans (show κ9 = vq from (congrArg (Value.int .i64) (by first | rfl | omega))) (by rfl), by rfl⟩, trivial⟩⟩⟩⟩⟩ ⟨(ZcD (E := RB) (α := RG) _ (L1 ++ ([(⟨a2, a3⟩ : RG)] : List RG)) _), ⟨sm, trivial⟩⟩
 | r1 =>
  refine Mach.en_bind (fun z1 c1 => ?_)
  cases z1 with
  | r0 y1_0 =>
   refine Mach.en_ite (fun g2 => ?_) (fun g2 => ?_)
   ·
    exact Mach.en_fin (M := Zax rec L0 L1 a2 a3 N) (cd := 1000000) (cm := 0) (r := (.r0 : Zw)) (fu := 4000) (orc := (Zh [(0, true)] [] [] [] [(0, (ZbI c0 [] 2).t), (2, (Za2 c1 [] 3).t)])) (live := [0]) (u := vs 0 0 L1.length L1.length) (bl := [some (.cells (Za RB L1) 42)]) (ob := [((!y1_0), true), (dP ((Za2 c1 [] 3).P Tryz.prog 107 3), true), (dP ((ZbI c0 [] 2).P Tryz.prog 106 2), true)]) (by kernel_rfl) (ZB (Zfq (by first | assumption | simp_all)) <| ZB (Zv (Zcy c1 [] 3)) <| ZB (Zv (ZdN c0 [] 2)) Zi) rfl (by decide) (by rfl) rr ⟨(ZcD (E := RB) (α := RG) _ L1 _), trivial⟩
   ·
    refine Mach.en_bind (fun z3 c3 => ?_)
    cases z3 with
    | r0 y3_0 =>
     refine Mach.en_ite (fun g4 => ?_) (fun g4 => ?_)
     ·
      subst g4
      exact Mach.en_fin (M := Zax rec L0 L1 a2 a3 N) (cd := 1000000) (cm := 0) (r := (.r0 : Zw)) (fu := 4000) (orc := (Zh [(0, false)] [] [] [] [(0, (ZbI c0 [] 2).t), (2, (Za2 c1 [] 3).t), (3, (Zbs c3 [0] 3).t)])) (live := [0]) (u := vs 0 0 L1.length L1.length) (bl := [some (.cells (Za RB L1) 42)]) (ob := [(dP ((Zbs c3 [0] 3).P Tryz.prog 108 3), true), (dS (Za RB L1), true), ((!y1_0), false), (dP ((Za2 c1 [] 3).P Tryz.prog 107 3), true), (dP ((ZbI c0 [] 2).P Tryz.prog 106 2), true)]) (by kernel_rfl) (ZB (Zv (Zek c3 [0] 3)) <| oR <| ZB (ZdJ (by first | assumption | exact Decidable.not_not.1 (by assumption) | simp_all)) <| ZB (Zv (Zcy c1 [] 3)) <| ZB (Zv (ZdN c0 [] 2)) Zi) rfl (by decide) (by rfl) rr ⟨(ZcD (E := RB) (α := RG) _ L1 _), trivial⟩
     ·
      obtain rfl : y3_0 = false := by simpa using g4
      exact Mach.en_fin (M := Zax rec L0 L1 a2 a3 N) (cd := 1000000) (cm := 0) (r := (.r0 : Zw)) (fu := 4000) (orc := (Zh [(0, false)] [] [] [] [(0, (ZbI c0 [] 2).t), (2, (Za2 c1 [] 3).t), (3, (Zbs c3 [0] 3).t)])) (live := [0]) (u := vs 0 0 L1.length L1.length) (bl := [some (.cells (Za RB L1) 42)]) (ob := [(dP ((Zbs c3 [0] 3).P Tryz.prog 108 3), true), (dS (Za RB L1), true), ((!y1_0), false), (dP ((Za2 c1 [] 3).P Tryz.prog 107 3), true), (dP ((ZbI c0 [] 2).P Tryz.prog 106 2), true)]) (by kernel_rfl) (ZB (Zv (Zek c3 [0] 3)) <| oR <| ZB (ZdJ (by first | assumption | exact Decidable.not_not.1 (by assumption) | simp_all)) <| ZB (Zv (Zcy c1 [] 3)) <| ZB (Zv (ZdN c0 [] 2)) Zi) rfl (by decide) (by rfl) rr ⟨(ZcD (E := RB) (α := RG) _ L1 _), trivial⟩

theorem Zlu (N : Nat) : ∀ (n : Nat) (L0 : List RJ) (L1 : List RG) (a2 a3 : Int) (r : Zw), ZaD N n L0 L1 a2 a3 = some r → LSpec Tryz.prog 52 (κP L0 L1 a2 a3) [.cells (Za RB L1) 42] (Zel L0 L1 a2 a3 r) (ZdP L0 L1 a2 a3 r) := by
 intro n
 induction n with
 | zero => intro L0 L1 a2 a3 r h; cases h
 | succ n ih =>
  intro L0 L1 a2 a3 r h
  exact Mach.spec Zau (Zax (ZaD N n) L0 L1 a2 a3 N) Tryz.func52 (by kernel_rfl) (by kernel_rfl) (fun x => by cases x <;> exact ZG _ rfl) (fun r => by cases r <;> exact ZG _ rfl) (fun x => by
   cases x with
   | h1m0 _ _ _ _ _ _ _ _ _ _ => exact fun _ => (show ¬ (1 ∈ Zt (Zdm 1).2) from by decide +kernel)
   ) (fun x => (show (Zax (ZaD N n) L0 L1 a2 a3 N).Ok Tryz.prog Zs x (Zct (ZaD N n) L0 L1 a2 a3 N x) from by
   cases x with
   | h1m0 v1 v3 v4 v5 v6 v7 v8 v9 v10 v11 => exact Zlt (ZaD N n) ih L0 L1 a2 a3 v1 v3 v4 v5 v6 v7 v8 v9 v10 v11 N
   )) (Znp (ZaD N n) ih L0 L1 a2 a3 N) (n := N) h

theorem Zhi (L0 : List RJ) (L1 : List RG) (a2 a3 : Int) (N : Nat) (r : Zw) (h : ZeH L0 L1 a2 a3 N = some r) : LSpec Tryz.prog 52 (κP L0 L1 a2 a3) [.cells (Za RB L1) 42] (Zel L0 L1 a2 a3 r) (ZdP L0 L1 a2 a3 r) :=
 Zlu N N L0 L1 a2 a3 r h

theorem ZnG (A : Array Value) (L0 : List RJ) (L1 : List RG) (a2 a3 : Int) (N : Nat) (h : ZeH L0 L1 a2 a3 N = some (.r0)) (k0 n : Nat) (hA : A = #[ms RD L0, vs k0 0 L1.length L1.length, Value.agg #[vi a2, vi a3], vT]) (hnd : ([k0] : List Nat).Nodup) (hlt : ∀ k ∈ ([k0] : List Nat), k < n) : Zfb A L0 L1 a2 a3 k0 n :=
 ZiD A L0 L1 a2 a3 (Zhi L0 L1 a2 a3 N _ h) k0 n hA hnd hlt

theorem ZnH (A : Array Value) (L0 : List RJ) (L1 : List RG) (a2 a3 : Int) (w0 : List RG) (N : Nat) (h : ZeH L0 L1 a2 a3 N = some (.r1 w0)) (k0 n : Nat) (hA : A = #[ms RD L0, vs k0 0 L1.length L1.length, Value.agg #[vi a2, vi a3], vT]) (hnd : ([k0] : List Nat).Nodup) (hlt : ∀ k ∈ ([k0] : List Nat), k < n) : Zfc A L0 L1 a2 a3 w0 k0 n :=
 ZiE A L0 L1 a2 a3 w0 (Zhi L0 L1 a2 a3 N _ h) k0 n hA hnd hlt

noncomputable def Zme (L0 : List RJ) (a1 a2 : Int) : Zbj → Value
 | .r0 => vn
 | .r1 w0 => vs 0 0 w0.length w0.length
noncomputable def Zlv (L0 : List RJ) (a1 a2 : Int) : Zbj → List (Option AObj)
 | .r0 => []
 | .r1 w0 => [some (.cells (Za RB w0) 42)]

def ZpZ : ZaZ → Nat
 | .h1m0 v1 v3 v4 v5 v6 v7 v8 v9 v10 v11 => 1
noncomputable def ZqE (L0 : List RJ) (a1 a2 : Int) : ZaZ → List (Nat × Value)
 | .h1m0 v1 v3 v4 v5 v6 v7 v8 v9 v10 v11 => [(0, ms RD L0), (1, vs 0 0 v1.length v1.length), (3, vT), (9, vp 1 0), (11, vi (v3 : Int))]
noncomputable def ZqF (L0 : List RJ) (a1 a2 : Int) : ZaZ → List (Option AObj)
 | .h1m0 v1 v3 v4 v5 v6 v7 v8 v9 v10 v11 => [some (.cells (Za RB v1) 42), some (.cells [vi v4, vi v5, vi v6, vi v7, vi v8, vi v9, vi v10, ms RB v11] 156)]

noncomputable def Zet : Nat → Code × List ZaI
 | 1 => ZbB [1, 1, 1, 1, 0, 1, 3] (ZcG Tryz.f52) []
 | _ => (.skip, [])
def Zlw : Nat → Bool
 | 1 => true
 | _ => true
noncomputable def Zmf (i : Nat) : List ZaI := match Zlw i with | true => .rnd i :: (Zet i).2 | false => (Zet i).2

noncomputable def Zf1 (L0 : List RJ) (a1 a2 : Int) (N : Nat) : Mach := ⟨Tryz.f52, [], ZaZ, Zbj, ZdK L0 a1 a2 N, ZpZ, Zet, Zlw, ZqE L0 a1 a2, ZqF L0 a1 a2, Zme L0 a1 a2, Zlv L0 a1 a2⟩

theorem Zm5 (L0 : List RJ) (a1 a2 : Int) (v1 : List RG) (v3 : Nat) (v4 v5 v6 v7 v8 v9 v10 : Int) (v11 : List RG) (N : Nat) : (Zf1 L0 a1 a2 N).Ok Tryz.prog Zs (.h1m0 v1 v3 v4 v5 v6 v7 v8 v9 v10 v11 : ZaZ) (ZdK L0 a1 a2 N (.h1m0 v1 v3 v4 v5 v6 v7 v8 v9 v10 v11 : ZaZ)) := by
 show (Zf1 L0 a1 a2 N).Ok Tryz.prog Zs (.h1m0 v1 v3 v4 v5 v6 v7 v8 v9 v10 v11 : ZaZ) (Zcf L0 a1 a2 N v1 v3 v4 v5 v6 v7 v8 v9 v10 v11)
 unfold Zcf
 refine Mach.ok_ite (fun g0 => ?_) (fun g0 => ?_)
 ·
  have w1 := kG RB v11 (0 + (v3 * 2)) v3 0 2 2 <| kB v3 v11.length <| kI (v3 : Int) (Int.ofNat v3) <| hY g0 Zi
  refine Mach.ok_bind (fun z1 c1 => ?_)
  cases z1 with
  | r0 =>
   refine Mach.ok_ite (fun g2 => ?_) (fun _ => Mach.ok_none)
   exact Mach.okN (Zh (oq [1]) [(0, (((v3 + 1) : Nat) : Int))] [(0, v3)] [(2, (RB.cel (v11.getD v3 RG.z)))] [(0, (Zj9 L0 v1 ((v11.getD v3 RG.z).a0) ((v11.getD v3 RG.z).a1)   0 2))]) [0, 1] [some (ms RD L0), some (vs 0 0 v1.length v1.length), some (vT), some (vp 1 0), some (κ4 v3)] (kW ((v3 : Int) + (1 : Int)) (((v3 + 1) : Nat) : Int) <| kX (dP (Zfb #[ms RD L0, vs 0 0 v1.length v1.length, Value.agg #[vi (v11.getD v3 RG.z).a0, vi (v11.getD v3 RG.z).a1], vT] L0 v1 ((v11.getD v3 RG.z).a0) ((v11.getD v3 RG.z).a1)   0 2)) true (Zv (ZnG #[ms RD L0, vs 0 0 v1.length v1.length, Value.agg #[vi (v11.getD v3 RG.z).a0, vi (v11.getD v3 RG.z).a1], vT] L0 v1 ((v11.getD v3 RG.z).a0) ((v11.getD v3 RG.z).a1)   N c1 0 2 rfl (by decide) (by decide))) <| kR (Za RB v1) w1) (tC (tC (tC (tC (tC (tE)))))) (bR <| bS [vi v4, vi v5, vi v6, vi v7, vi v8, vi v9, vi v10, ms RB v11] <| bE) (show 1 ∈ Zt (Zmf 1) from by decide +kernel)
  | r1 y1_0 =>
   refine Mach.ok_ite (fun g2 => ?_) (fun _ => Mach.ok_none)
   exact Mach.okN (Zh (oq [1]) [(0, (((v3 + 1) : Nat) : Int))] [(0, v3)] [(2, (RB.cel (v11.getD v3 RG.z)))] [(0, (ZjA L0 v1 ((v11.getD v3 RG.z).a0) ((v11.getD v3 RG.z).a1)  y1_0 0 2))]) [2, 1] [some (ms RD L0), some (vs 2 0 y1_0.length y1_0.length), some (vT), some (vp 1 0), some (κ4 v3)] (kW ((v3 : Int) + (1 : Int)) (((v3 + 1) : Nat) : Int) <| kX (dP (Zfc #[ms RD L0, vs 0 0 v1.length v1.length, Value.agg #[vi (v11.getD v3 RG.z).a0, vi (v11.getD v3 RG.z).a1], vT] L0 v1 ((v11.getD v3 RG.z).a0) ((v11.getD v3 RG.z).a1)  y1_0 0 2)) true (Zv (ZnH #[ms RD L0, vs 0 0 v1.length v1.length, Value.agg #[vi (v11.getD v3 RG.z).a0, vi (v11.getD v3 RG.z).a1], vT] L0 v1 ((v11.getD v3 RG.z).a0) ((v11.getD v3 RG.z).a1)  y1_0 N c1 0 2 rfl (by decide) (by decide))) <| kR (Za RB v1) w1) (tC (tC (tC (tC (tC (tE)))))) (bR <| bS [vi v4, vi v5, vi v6, vi v7, vi v8, vi v9, vi v10, ms RB v11] <| bE) (show 1 ∈ Zt (Zmf 1) from by decide +kernel)
 ·
  exact Mach.okF (Zh (oq [0]) [] [] [] []) [0] (vs 0 0 v1.length v1.length) (hN g0 Zi) (bR <| bE)

theorem ZoB (L0 : List RJ) (a1 a2 : Int) (N : Nat) : (Zf1 L0 a1 a2 N).Enter Tryz.prog Zs #[ms RD L0, vn, Value.agg #[vi a1, vi a2], vT] (ZeI L0 a1 a2 N) := by
 unfold ZeI
 refine Mach.en_bind (fun z0 c0 => ?_)
 cases z0 with
 | r0 y0_0 y0_1 y0_2 y0_3 y0_4 y0_5 y0_6 y0_7 =>
  refine Mach.en_bind (fun z1 c1 => ?_)
  cases z1 with
  | r0 y1_0 =>
   have w2 := kK (Zcy c1 [] 2) <| kK (Zc3 c0 [] 1) Zi
   refine Mach.en_ite (fun g2 => ?_) (fun g2 => ?_)
   ·
    exact Mach.enF (Zh (oq [1]) [] [] [] [(0, (ZaH c0 [] 1).t), (2, (Za2 c1 [] 2).t)]) [] (vn) (kX ((!y1_0)) true (Zfq (by first | assumption | simp_all)) w2) bE
   ·
    have w3 := kX ((!y1_0)) false (ZdJ (by first | assumption | exact Decidable.not_not.1 (by assumption) | simp_all)) w2
    refine Mach.en_bind (fun z3 c3 => ?_)
    cases z3 with
    | r0 =>
     refine Mach.en_ite (fun g4 => ?_) (fun g4 => ?_)
     ·
      exact Mach.enF (Zh (oq [0, 3]) [] [] [] [(0, (ZaH c0 [] 1).t), (2, (Za2 c1 [] 2).t), (3, (ZgE c3 [] 2).t)]) [] (vn) (hD g4 <| kK (ZiZ c3 [] 2) w3) bE
     ·
      exact Mach.enH (Zet 1) (Zh (oq [0, 2]) [] [] [] [(0, (ZaH c0 [] 1).t), (2, (Za2 c1 [] 2).t), (3, (ZgE c3 [] 2).t)]) [3, 1] [some (ms RD L0), some (vs 3 0 1 1), some (vT), some (vp 1 0), some (vq)] (kE y0_5 (1 : Int) <| kK (ZiZ c3 [] 2) w3) (tC (tC (tC (tC (tC (tE) ⟨Eq.trans (show κ9 = vq from (congrArg (Value.int .i64) (by first | rfl | omega))) (by rfl), by rfl⟩))) ⟨Eq.trans (show (vs 0 0 ([(⟨a1, a2⟩ : RG)] : List RG).length ([(⟨a1, a2⟩ : RG)] : List RG).length : Value) = vs 0 0 1 1 from (Z3 rfl eqA eqA)) (by rfl), by rfl⟩)) (bC (o := .cells [vi a1, vi a2] 42) (Zcc (E := RB) _ (L := ([(⟨a1, a2⟩ : RG)] : List RG)) _ (show ([vi a1, vi a2] : List Value) = Za RB ([(⟨a1, a2⟩ : RG)] : List RG) from rfl)) <| bS [vi y0_0, vi y0_1, vi y0_2, vi y0_3, vi y0_4, vi y0_5, vi y0_6, ms RB y0_7] <| bE) (show Zt (Zet 1).2 = [] from rfl)
 | r1 =>
  refine Mach.en_bind (fun z1 c1 => ?_)
  cases z1 with
  | r0 y1_0 =>
   refine Mach.en_ite (fun g2 => ?_) (fun g2 => ?_)
   ·
    exact Mach.enF (Zh (oq [1]) [] [] [] [(0, (ZbI c0 [] 1).t), (2, (Za2 c1 [] 2).t)]) [] (vn) (kX ((!y1_0)) true (Zfq (by first | assumption | simp_all)) <| kK (Zcy c1 [] 2) <| kK (ZdN c0 [] 1) Zi) bE
   ·
    refine Mach.en_bind (fun z3 c3 => ?_)
    cases z3 with
    | r0 =>
     exact Mach.enF (Zh (oq [0]) [] [] [] [(0, (ZbI c0 [] 1).t), (2, (Za2 c1 [] 2).t), (3, (ZgE c3 [] 2).t)]) [] (vn) (kK (ZiZ c3 [] 2) <| kX ((!y1_0)) false (ZdJ (by first | assumption | exact Decidable.not_not.1 (by assumption) | simp_all)) <| kK (Zcy c1 [] 2) <| kK (ZdN c0 [] 1) Zi) bE

theorem ZiF (L0 : List RJ) (a1 a2 : Int) (N : Nat) (r : Zbj) (h : Zfa L0 a1 a2 N = some r) : LSpec Tryz.prog 52 #[ms RD L0, vn, Value.agg #[vi a1, vi a2], vT] [] (Zme L0 a1 a2 r) (Zlv L0 a1 a2 r) :=
 Mach.spec Zau (Zf1 L0 a1 a2 N) Tryz.func52 (by kernel_rfl) (by kernel_rfl) (fun x => by cases x <;> exact ZG _ rfl) (fun r => by cases r <;> exact ZG _ rfl) (fun x => by
  cases x with
  | h1m0 _ _ _ _ _ _ _ _ _ _ => exact fun _ => (show ¬ (1 ∈ Zt (Zet 1).2) from by decide +kernel)
  ) (fun x => (show (Zf1 L0 a1 a2 N).Ok Tryz.prog Zs x (ZdK L0 a1 a2 N x) from by
  cases x with
  | h1m0 v1 v3 v4 v5 v6 v7 v8 v9 v10 v11 => exact Zm5 L0 a1 a2 v1 v3 v4 v5 v6 v7 v8 v9 v10 v11 N
  )) (ZoB L0 a1 a2 N) (n := N) h

noncomputable def Zlx {L0 : List RJ} {a1 : Int} {a2 : Int} {N : Nat} (h : Zfa L0 a1 a2 N = some (.r0)) (ks : List Nat) (n : Nat) : ToldS := ⟨#[ms RD L0, vn, Value.agg #[vi a1, vi a2], vT], [], vn, [], 0⟩

theorem Zqa {L0 : List RJ} {a1 : Int} {a2 : Int} {N : Nat} (h : Zfa L0 a1 a2 N = some (.r0)) (ks : List Nat) (n : Nat) (hk : ks.length = 0 := by rfl) (hnd : ks.Nodup := by decide +kernel) (hlt : ∀ k ∈ ks, k < n := by decide +kernel) : (Zlx (N := N)  h ks n).P Tryz.prog 52 n :=
 match ks, hk, hnd, hlt with
 | [], _, hnd, hlt => Za7 (show LSpec Tryz.prog 52 #[ms RD L0, vn, Value.agg #[vi a1, vi a2], vT] [] (vn) [] from ZiF L0 a1 a2 N _ h) _ n [] hnd hlt

noncomputable def Zly {L0 : List RJ} {a1 : Int} {a2 : Int} {w0 : List RG} {N : Nat} (h : Zfa L0 a1 a2 N = some (.r1 w0)) (ks : List Nat) (n : Nat) : ToldS := ⟨#[ms RD L0, vn, Value.agg #[vi a1, vi a2], vT], [], vs n 0 w0.length w0.length, [(n, some (.cells (Za RB w0) 42))], 1⟩

theorem Zqb {L0 : List RJ} {a1 : Int} {a2 : Int} {w0 : List RG} {N : Nat} (h : Zfa L0 a1 a2 N = some (.r1 w0)) (ks : List Nat) (n : Nat) (hk : ks.length = 0 := by rfl) (hnd : ks.Nodup := by decide +kernel) (hlt : ∀ k ∈ ks, k < n := by decide +kernel) : (Zly (N := N)  h ks n).P Tryz.prog 52 n :=
 match ks, hk, hnd, hlt with
 | [], _, hnd, hlt => Za7 (show LSpec Tryz.prog 52 #[ms RD L0, vn, Value.agg #[vi a1, vi a2], vT] [] (vs 0 0 w0.length w0.length) [some (.cells (Za RB w0) 42)] from ZiF L0 a1 a2 N _ h) _ n [0] hnd hlt

set_option linter.unusedVariables false
set_option maxRecDepth 100000
set_option maxHeartbeats 4000000
noncomputable def ZjB (L0 : List RJ) (a1 a2 : Int) : ZcR → Value
 | .r0 => vn
 | .r1 w0 => vs 0 0 w0.length w0.length
noncomputable def ZiG (L0 : List RJ) (a1 a2 : Int) : ZcR → List (Option AObj)
 | .r0 => []
 | .r1 w0 => [some (.cells (Za RB w0) 42)]

theorem Zm6 (L0 : List RJ) (a1 a2 : Int) (N : Nat) : Fx Tryz.prog Zs Tryz.f16 [] (κA L0 a1 a2) (ZjB L0 a1 a2) (ZiG L0 a1 a2) (ZaR L0 a1 a2 N) := by
 unfold ZaR
 refine Zaa (fun z0 c0 => ?_)
 cases z0 with
 | r0 =>
  exact fxC (Zh (oq []) [] [] [] [(0, (Zlx c0 [] 1).t)]) [] (vn) (kK (Zqa c0 [] 1) Zi) bE
 | r1 y0_0 =>
  exact fxC (Zh (oq []) [] [] [] [(0, (Zly c0 [] 1).t)]) [1] (vs 1 0 y0_0.length y0_0.length) (kK (Zqb c0 [] 1) Zi) (bR <| bE)

theorem Zlz (L0 : List RJ) (a1 a2 : Int) (N : Nat) (r : ZcR) (h : ZaR L0 a1 a2 N = some r) : LSpec Tryz.prog 16 (κA L0 a1 a2) [] (ZjB L0 a1 a2 r) (ZiG L0 a1 a2 r) :=
 Zbh Zau Tryz.func16 (by kernel_rfl) (by kernel_rfl) (fun r => by cases r <;> exact ZG _ rfl) (Zm6 L0 a1 a2 N) h

noncomputable def Zd0 {L0 : List RJ} {a1 : Int} {a2 : Int} {w0 : List RG} {N : Nat} (h : ZaR L0 a1 a2 N = some (.r1 w0)) (ks : List Nat) (n : Nat) : ToldS := ⟨(κA L0 a1 a2), [], vs n 0 w0.length w0.length, [(n, some (.cells (Za RB w0) 42))], 1⟩

theorem Ze4 {L0 : List RJ} {a1 : Int} {a2 : Int} {w0 : List RG} {N : Nat} (h : ZaR L0 a1 a2 N = some (.r1 w0)) (ks : List Nat) (n : Nat) (hk : ks.length = 0 := by rfl) (hnd : ks.Nodup := by decide +kernel) (hlt : ∀ k ∈ ks, k < n := by decide +kernel) : (Zd0 (N := N)  h ks n).P Tryz.prog 16 n :=
 match ks, hk, hnd, hlt with
 | [], _, hnd, hlt => Za7 (show LSpec Tryz.prog 16 (κA L0 a1 a2) [] (vs 0 0 w0.length w0.length) [some (.cells (Za RB w0) 42)] from Zlz L0 a1 a2 N _ h) _ n [0] hnd hlt

noncomputable def Zif (a0 a1 a2 : Int) (L3 : List RI) (L4 : List RG) : Zcv → Value
 | .r0 w0 => vq
noncomputable def Zhj (a0 a1 a2 : Int) (L3 : List RI) (L4 : List RG) : Zcv → List (Option AObj)
 | .r0 w0 => [some (.cells [vi a2, vs 1 0 w0.length w0.length, vs 2 0 L4.length L4.length, vn, vn, vn, vn, vn, vn, vn, vn, vn, vn, vn, vn, vn, vn, vn, vn, vn] 154), some (.cells (Za RC w0) 57), some (.cells (Za RB L4) 42)]

theorem Zl0 (a0 a1 a2 : Int) (L3 : List RI) (L4 : List RG) (N : Nat) : Fx Tryz.prog Zs Tryz.f187 [.cells (κu a2 L3 L4) 154, .cells (Za RC L3) 57, .cells (Za RB L4) 42] #[vp 0 0, Value.agg #[vi a0, vi a1]] (Zif a0 a1 a2 L3 L4) (Zhj a0 a1 a2 L3 L4) (Zbn a0 a1 a2 L3 L4 N) := by
 unfold Zbn
 refine Zf (fun g0 => ?_) (fun _ => Zj)
 refine Zf (fun _ => Zj) (fun g1 => ?_)
 refine Zf (fun g2 => ?_) (fun _ => Zj)
 refine Zf (fun g3 => ?_) (fun _ => Zj)
 have w4 := kY (a1 > (0 : Int)) <| hD g2 <| kT a0 (2 : Int) <| kE a0 (2 : Int) <| kY (a2 > (0 : Int)) Zi
 refine Zf (fun g4 => ?_) (fun _ => Zj)
 refine Zf (fun g5 => ?_) (fun _ => Zj)
 have w6 := kY ((a1 / (1048576 : Int)) ≥ (1 : Int)) <| kM a1 (1048576 : Int) <| kV a1 (1048576 : Int) w4
 refine Zf (fun g6 => ?_) (fun _ => Zj)
 refine Zf (fun g7 => ?_) (fun _ => Zj)
 have w8 := kM a1 (1048576 : Int) <| kY ((a1 % (1048576 : Int)) ≤ (1048575 : Int)) <| kY ((a1 % (1048576 : Int)) ≥ (1 : Int)) <| hY g6 <| kY ((a1 / (1048576 : Int)) ≥ (1 : Int)) <| kM a1 (1048576 : Int) <| kV a1 (1048576 : Int) <| kY (a1 > (0 : Int)) <| kE a0 (2 : Int) <| kO ((a0 == (2 : Int)) && ((a1 == (0 : Int)) && true)) <| kY ((a1 % (1048576 : Int)) ≤ (1048575 : Int)) <| kY ((a1 % (1048576 : Int)) ≥ (1 : Int)) <| hY g6 w6
 refine Zf (fun _ => Zj) (fun g8 => ?_)
 have w9 := kV a1 (1048576 : Int) <| kY ((a1 % (1048576 : Int)) ≤ (1048575 : Int)) <| kY ((a1 % (1048576 : Int)) ≥ (1 : Int)) <| hY g6 <| kY ((a1 / (1048576 : Int)) ≥ (1 : Int)) <| kM a1 (1048576 : Int) <| kV a1 (1048576 : Int) <| kY (a1 > (0 : Int)) <| kE a0 (2 : Int) <| kL RC L3 ((((a1 % (1048576 : Int)) - (1 : Int))).toNat) 0 1 <| kB (((a1 % (1048576 : Int)) - (1 : Int))).toNat L3.length <| kI ((a1 % (1048576 : Int)) - (1 : Int)) (Int.ofNat (((a1 % (1048576 : Int)) - (1 : Int))).toNat) <| kW ((a1 % (1048576 : Int)) - (1 : Int)) ((a1 % (1048576 : Int)) - (1 : Int)) <| kN ((a1 % (1048576 : Int)) > (L3.length : Int)) w8
 refine Zf (fun _ => Zj) (fun g9 => ?_)
 have w10 := kL RC L3 ((((a1 % (1048576 : Int)) - (1 : Int))).toNat) 3 1 <| kE ((L3.getD (((a1 % (1048576 : Int)) - (1 : Int))).toNat RI.z).a0) (a1 / (1048576 : Int)) w9
 refine Zf (fun _ => Zj) (fun g10 => ?_)
 have w11 := kL RC L3 ((((a1 % (1048576 : Int)) - (1 : Int))).toNat) 3 1 <| kB (((a1 % (1048576 : Int)) - (1 : Int))).toNat L3.length <| kI ((a1 % (1048576 : Int)) - (1 : Int)) (Int.ofNat (((a1 % (1048576 : Int)) - (1 : Int))).toNat) <| kW ((a1 % (1048576 : Int)) - (1 : Int)) ((a1 % (1048576 : Int)) - (1 : Int)) <| hF g10 w10
 refine Zf (fun g11 => ?_) (fun g11 => ?_)
 ·
  exact fxC (Zh (oq [3, 6, 9, 11, 13, 15, 17, 19, 21, 26, 28, 31, 33, 35, 37, 39, 42, 44, 47, 49, 51, 53, 55, 58, 60, 65]) [(0, (a1 / (1048576 : Int))), (1, (a1 % (1048576 : Int))), (2, (a1 / (1048576 : Int))), (3, (a1 % (1048576 : Int))), (4, (a1 % (1048576 : Int))), (5, ((a1 % (1048576 : Int)) - (1 : Int))), (6, (a1 / (1048576 : Int))), (7, (a1 % (1048576 : Int))), (8, (a1 / (1048576 : Int))), (9, ((a1 % (1048576 : Int)) - (1 : Int)))] [(0, (((a1 % (1048576 : Int)) - (1 : Int))).toNat), (1, (((a1 % (1048576 : Int)) - (1 : Int))).toNat)] [(15, [.i (L3.getD (((a1 % (1048576 : Int)) - (1 : Int))).toNat RI.z).a0]), (20, [.i (L3.getD (((a1 % (1048576 : Int)) - (1 : Int))).toNat RI.z).a3]), (22, [.i (L3.getD (((a1 % (1048576 : Int)) - (1 : Int))).toNat RI.z).a3])] [(5, .st (Za RC (L3.set (((a1 % (1048576 : Int)) - (1 : Int))).toNat (⟨(L3.getD (((a1 % (1048576 : Int)) - (1 : Int))).toNat RI.z).a0, (L3.getD (((a1 % (1048576 : Int)) - (1 : Int))).toNat RI.z).a1, (L3.getD (((a1 % (1048576 : Int)) - (1 : Int))).toNat RI.z).a2, (2 : Int), (L3.getD (((a1 % (1048576 : Int)) - (1 : Int))).toNat RI.z).a4⟩ : RI))))]) [0, 1, 2] (vq) (kC (Zcq (E := RC) (L := L3) (i := (((a1 % (1048576 : Int)) - (1 : Int))).toNat) (q := 3) (l := [vi (2 : Int)]) (⟨(L3.getD (((a1 % (1048576 : Int)) - (1 : Int))).toNat RI.z).a0, (L3.getD (((a1 % (1048576 : Int)) - (1 : Int))).toNat RI.z).a1, (L3.getD (((a1 % (1048576 : Int)) - (1 : Int))).toNat RI.z).a2, (2 : Int), (L3.getD (((a1 % (1048576 : Int)) - (1 : Int))).toNat RI.z).a4⟩ : RI) (by omega) (show ((0 + ((((a1 % (1048576 : Int)) - (1 : Int))).toNat * 5)) + 3) = (((a1 % (1048576 : Int)) - (1 : Int))).toNat * 5 + 3 from by omega) (show 3 + 1 ≤ 5 from by decide) rfl) <| hT g11 w11) (bU (κu a2 L3 L4) 1 (show (vs 1 0 L3.length L3.length : Value) = vs 1 0 (L3.set (((a1 % (1048576 : Int)) - (1 : Int))).toNat (⟨(L3.getD (((a1 % (1048576 : Int)) - (1 : Int))).toNat RI.z).a0, (L3.getD (((a1 % (1048576 : Int)) - (1 : Int))).toNat RI.z).a1, (L3.getD (((a1 % (1048576 : Int)) - (1 : Int))).toNat RI.z).a2, (2 : Int), (L3.getD (((a1 % (1048576 : Int)) - (1 : Int))).toNat RI.z).a4⟩ : RI)).length (L3.set (((a1 % (1048576 : Int)) - (1 : Int))).toNat (⟨(L3.getD (((a1 % (1048576 : Int)) - (1 : Int))).toNat RI.z).a0, (L3.getD (((a1 % (1048576 : Int)) - (1 : Int))).toNat RI.z).a1, (L3.getD (((a1 % (1048576 : Int)) - (1 : Int))).toNat RI.z).a2, (2 : Int), (L3.getD (((a1 % (1048576 : Int)) - (1 : Int))).toNat RI.z).a4⟩ : RI)).length from Z3 rfl eqA eqA) <| bR <| bR <| bE)
 ·
  exact fxC (Zh (oq [3, 6, 9, 11, 13, 15, 17, 19, 21, 26, 28, 31, 33, 35, 37, 39, 42, 44, 47, 49, 51, 53, 55, 58, 60, 64]) [(0, (a1 / (1048576 : Int))), (1, (a1 % (1048576 : Int))), (2, (a1 / (1048576 : Int))), (3, (a1 % (1048576 : Int))), (4, (a1 % (1048576 : Int))), (5, ((a1 % (1048576 : Int)) - (1 : Int))), (6, (a1 / (1048576 : Int))), (7, (a1 % (1048576 : Int))), (8, (a1 / (1048576 : Int))), (9, ((a1 % (1048576 : Int)) - (1 : Int)))] [(0, (((a1 % (1048576 : Int)) - (1 : Int))).toNat), (1, (((a1 % (1048576 : Int)) - (1 : Int))).toNat)] [(15, [.i (L3.getD (((a1 % (1048576 : Int)) - (1 : Int))).toNat RI.z).a0]), (20, [.i (L3.getD (((a1 % (1048576 : Int)) - (1 : Int))).toNat RI.z).a3]), (22, [.i (L3.getD (((a1 % (1048576 : Int)) - (1 : Int))).toNat RI.z).a3])] []) [0, 1, 2] (vq) (hF g11 w11) (bS (κu a2 L3 L4) <| bR <| bR <| bE)

theorem Zkj (a0 a1 a2 : Int) (L3 : List RI) (L4 : List RG) (N : Nat) (r : Zcv) (h : Zbn a0 a1 a2 L3 L4 N = some r) : LSpec Tryz.prog 187 #[vp 0 0, Value.agg #[vi a0, vi a1]] [.cells (κu a2 L3 L4) 154, .cells (Za RC L3) 57, .cells (Za RB L4) 42] (Zif a0 a1 a2 L3 L4 r) (Zhj a0 a1 a2 L3 L4 r) :=
 Zbh Zau Tryz.func187 (by kernel_rfl) (by kernel_rfl) (fun r => by cases r <;> exact ZG _ rfl) (Zl0 a0 a1 a2 L3 L4 N) h

noncomputable def ZcE {a0 : Int} {a1 : Int} {a2 : Int} {L3 : List RI} {L4 : List RG} {w0 : List RI} {N : Nat} (h : Zbn a0 a1 a2 L3 L4 N = some (.r0 w0)) (ks : List Nat) (n : Nat) : ToldS := ⟨#[vp (nth ks 0) 0, Value.agg #[vi a0, vi a1]], [((nth ks 0), .cells [vi a2, vs (nth ks 1) 0 L3.length L3.length, vs (nth ks 2) 0 L4.length L4.length, vn, vn, vn, vn, vn, vn, vn, vn, vn, vn, vn, vn, vn, vn, vn, vn, vn] 154), ((nth ks 1), .cells (Za RC L3) 57), ((nth ks 2), .cells (Za RB L4) 42)], vq, [((nth ks 0), some (.cells [vi a2, vs (nth ks 1) 0 w0.length w0.length, vs (nth ks 2) 0 L4.length L4.length, vn, vn, vn, vn, vn, vn, vn, vn, vn, vn, vn, vn, vn, vn, vn, vn, vn] 154)), ((nth ks 1), some (.cells (Za RC w0) 57))], 0⟩

theorem Zhk {a0 : Int} {a1 : Int} {a2 : Int} {L3 : List RI} {L4 : List RG} {w0 : List RI} {N : Nat} (h : Zbn a0 a1 a2 L3 L4 N = some (.r0 w0)) (ks : List Nat) (n : Nat) (hk : ks.length = 3 := by rfl) (hnd : ks.Nodup := by decide +kernel) (hlt : ∀ k ∈ ks, k < n := by decide +kernel) : (ZcE (N := N)  h ks n).P Tryz.prog 187 n :=
 match ks, hk, hnd, hlt with
 | [k0, k1, k2], _, hnd, hlt => Za7 (show LSpec Tryz.prog 187 #[vp 0 0, Value.agg #[vi a0, vi a1]] [.cells (κu a2 L3 L4) 154, .cells (Za RC L3) 57, .cells (Za RB L4) 42] (vq) [some (.cells [vi a2, vs 1 0 w0.length w0.length, vs 2 0 L4.length L4.length, vn, vn, vn, vn, vn, vn, vn, vn, vn, vn, vn, vn, vn, vn, vn, vn, vn] 154), some (.cells (Za RC w0) 57), some (.cells (Za RB L4) 42)] from Zkj a0 a1 a2 L3 L4 N _ h) _ n [0, 1] hnd hlt

noncomputable def Zgp (a0 : Int) (L1 : List RK) (L2 : List RG) (a3 : Int) (b4 b5 : Bool) (a6 a7 a8 a9 a10 a11 a12 : Int) (L13 : List RF) (a14 a15 a16 a17 a18 a19 a20 a21 : Int) (L22 : List RI) (L23 : List RG) (L24 L25 : List Int) (a26 a27 a28 a29 : Int) (L30 : List Int) : Zbw → Value
 | .r0 w1 w23 => Value.tuple #[Value.agg #[vi (11 : Int), vi a10, vi (L2.getD 0 RG.z).a0, vi (L2.getD 0 RG.z).a1, vq, vq], vf]
noncomputable def ZfQ (a0 : Int) (L1 : List RK) (L2 : List RG) (a3 : Int) (b4 b5 : Bool) (a6 a7 a8 a9 a10 a11 a12 : Int) (L13 : List RF) (a14 a15 a16 a17 a18 a19 a20 a21 : Int) (L22 : List RI) (L23 : List RG) (L24 L25 : List Int) (a26 a27 a28 a29 : Int) (L30 : List Int) : Zbw → List (Option AObj)
 | .r0 w1 w23 => [some (.cells (Zr Zd 1 [] L1 [vs 1 2 (L2.length - 1) (L2.length - 1), vi a3, Value.bool b4, Value.bool b5, vi a6, vi a7, vi a8, vi a9, vp 2 0, vi a10, (fnV w23)]) 141), some (κK L2), some (.cells (Zr Zc9 64 [vi a12] L13 [vi a14, vi a15, vi a16, vi a17, vi a18, vi a19, vi a20, vp 3 0, vp 4 0, vp 5 0, vp 6 0]) 132), some (.cells [vi a21, vs 7 0 w1.length w1.length, vs 8 0 L23.length L23.length, vn, vn, vn, vn, vn, vn, vn, vn, vn, vn, vn, vn, vn, vn, vn, vn, vn] 154), some (.cells [vs 9 0 L24.length L24.length, vs 10 0 L25.length L25.length] 191), some (.cells [vi a26, vi a27, vi a28] 208), some (.cells (Zr eI 64 [vi a29] L30 []) 211), some (.cells (Za RC w1) 57), some (.cells (Za RB L23) 42), some (.cells (Za eI L24) 188), some (.cells (Za eI L25) 188)]

noncomputable abbrev κp (L1 : List RK) (L2 : List RG) (a3 : Int) (b4 : Bool) (b5 : Bool) (a6 : Int) (a7 : Int) (a8 : Int) (a9 : Int) (a10 : Int) (a11 : Int) (a12 : Int) (L13 : List RF) (a14 : Int) (a15 : Int) (a16 : Int) (a17 : Int) (a18 : Int) (a19 : Int) (a20 : Int) (a21 : Int) (L22 : List RI) (L23 : List RG) (L24 : List Int) (L25 : List Int) (a26 : Int) (a27 : Int) (a28 : Int) (a29 : Int) (L30 : List Int) := [AObj.cells (Zr Zd 1 [] L1 [vs 1 0 L2.length L2.length, vi a3, Value.bool b4, Value.bool b5, vi a6, vi a7, vi a8, vi a9, vp 2 0, vi a10, (fnV a11)]) 141, AObj.cells (Za RB L2) 42, AObj.cells (Zr Zc9 64 [vi a12] L13 [vi a14, vi a15, vi a16, vi a17, vi a18, vi a19, vi a20, vp 3 0, vp 4 0, vp 5 0, vp 6 0]) 132, AObj.cells [vi a21, vs 7 0 L22.length L22.length, vs 8 0 L23.length L23.length, vn, vn, vn, vn, vn, vn, vn, vn, vn, vn, vn, vn, vn, vn, vn, vn, vn] 154, AObj.cells [vs 9 0 L24.length L24.length, vs 10 0 L25.length L25.length] 191, AObj.cells [vi a26, vi a27, vi a28] 208, AObj.cells (Zr eI 64 [vi a29] L30 []) 211, AObj.cells (Za RC L22) 57, AObj.cells (Za RB L23) 42, AObj.cells (Za eI L24) 188, AObj.cells (Za eI L25) 188]
theorem Zja (a0 : Int) (L1 : List RK) (L2 : List RG) (a3 : Int) (b4 b5 : Bool) (a6 a7 a8 a9 a10 a11 a12 : Int) (L13 : List RF) (a14 a15 a16 a17 a18 a19 a20 a21 : Int) (L22 : List RI) (L23 : List RG) (L24 L25 : List Int) (a26 a27 a28 a29 : Int) (L30 : List Int) (N : Nat) : Fx Tryz.prog Zs Tryz.f20 (κp L1 L2 a3 b4 b5 a6 a7 a8 a9 a10 a11 a12 L13 a14 a15 a16 a17 a18 a19 a20 a21 L22 L23 L24 L25 a26 a27 a28 a29 L30) #[vp 0 0, vi a0] (Zgp a0 L1 L2 a3 b4 b5 a6 a7 a8 a9 a10 a11 a12 L13 a14 a15 a16 a17 a18 a19 a20 a21 L22 L23 L24 L25 a26 a27 a28 a29 L30) (ZfQ a0 L1 L2 a3 b4 b5 a6 a7 a8 a9 a10 a11 a12 L13 a14 a15 a16 a17 a18 a19 a20 a21 L22 L23 L24 L25 a26 a27 a28 a29 L30) (Za9 a0 L1 L2 a3 b4 b5 a6 a7 a8 a9 a10 a11 a12 L13 a14 a15 a16 a17 a18 a19 a20 a21 L22 L23 L24 L25 a26 a27 a28 a29 L30 N) := by
 unfold Za9
 refine Zf (fun g0 => ?_) (fun _ => Zj)
 refine Zf (fun g1 => ?_) (fun _ => Zj)
 refine Zf (fun g2 => ?_) (fun _ => Zj)
 refine Zf (fun g3 => ?_) (fun _ => Zj)
 refine Zf (fun g4 => ?_) (fun _ => Zj)
 refine Zf (fun g5 => ?_) (fun _ => Zj)
 refine Zf (fun g6 => ?_) (fun _ => Zj)
 ·
  subst g6
  refine Zf (fun g7 => ?_) (fun _ => Zj)
  have w8 := kY (a12 > (0 : Int)) <| kLn RB L2 0 0 2 <| kB 0 L2.length <| kI (0 : Int) (Int.ofNat 0) Zi
  refine Zaa (fun z8 c8 => ?_)
  cases z8 with
  | r0 y8_0 =>
   have w9 := kX (dP (1 ≤ L2.length ∧ L2.length ≤ L2.length)) true (Zv ⟨ltA, ltA⟩) <| kR L2.length <| kI (1 : Int) (Int.ofNat 1) <| kK (Zhk c8 [3, 7, 8] 14) w8
   refine Zf (fun g9 => ?_) (fun g9 => ?_)
   ·
    exact fxC (Zh (oq [11, 15]) [] [(0, 0)] [(4, (RB.cel (L2.getD 0 RG.z)))] [(1, (ZcE c8 [3, 7, 8] 14).t), (2, .sl 1 L2.length)]) (rg 0 11 []) (Value.tuple #[Value.agg #[vi (11 : Int), vi a10, vi (L2.getD 0 RG.z).a0, vi (L2.getD 0 RG.z).a1, vq, vq], vf]) (hT g9 w9) (bC (o := .cells (Zr Zd 1 [] L1 [Value.slice (some ⟨1, (0 + (1 * 2)), none⟩) (L2.length - 1) (L2.length - 1), vi a3, Value.bool b4, Value.bool b5, vi a6, vi a7, vi a8, vi a9, vp 2 0, vi a10, Value.func (.func 160) #[] #[]]) 141) ⟨rfl, ⟨[], (show ([vi (L1.getD 0 RK.z).a0, vi (L1.getD 0 RK.z).a1, vi (L1.getD 0 RK.z).a2, vi (L1.getD 0 RK.z).a3, vi (L1.getD 0 RK.z).a4, vi (L1.getD 0 RK.z).a5, vi (L1.getD 0 RK.z).a6, vi (L1.getD 0 RK.z).a7, vi (L1.getD 0 RK.z).a8, vi (L1.getD 0 RK.z).a9, vi (L1.getD 0 RK.z).a10, vi (L1.getD 0 RK.z).a11, vi (L1.getD 0 RK.z).a12, vi (L1.getD 0 RK.z).a13, vi (L1.getD 0 RK.z).a14, vi (L1.getD 0 RK.z).a15, Value.slice (some ⟨1, (0 + (1 * 2)), none⟩) (L2.length - 1) (L2.length - 1), vi a3, Value.bool b4, Value.bool b5, vi a6, vi a7, vi a8, vi a9, vp 2 0, vi a10, Value.func (.func 160) #[] #[]] : List Value) = _ from (Zg rfl (Zg rfl (Zg rfl (Zg rfl (Zg rfl (Zg rfl (Zg rfl (Zg rfl (Zg rfl (Zg rfl (Zg rfl (Zg rfl (Zg rfl (Zg rfl (Zg rfl (Zg rfl (Zg (Z3 eqA rfl rfl) (Zg rfl (Zg rfl (Zg rfl (Zg rfl (Zg rfl (Zg rfl (Zg rfl (Zg rfl (Zg rfl (Zg rfl rfl))))))))))))))))))))))))))).symm)⟩, by rfl⟩ <| bR <| bM (.cells (Zr Zc9 64 [vi a12] L13 [vi a14, vi a15, vi a16, vi a17, vi a18, vi a19, vi a20, vp 3 0, vp 4 0, vp 5 0, vp 6 0]) 132) <| bS [vi a21, vs 7 0 y8_0.length y8_0.length, vs 8 0 L23.length L23.length, vn, vn, vn, vn, vn, vn, vn, vn, vn, vn, vn, vn, vn, vn, vn, vn, vn] <| bS [vs 9 0 L24.length L24.length, vs 10 0 L25.length L25.length] <| bS [vi a26, vi a27, vi a28] <| bM (.cells (Zr eI 64 [vi a29] L30 []) 211) <| bR <| bR <| bR <| bR <| bE)
   ·
    exact fxC (Zh (oq [11, 14]) [] [(0, 0)] [(4, (RB.cel (L2.getD 0 RG.z)))] [(1, (ZcE c8 [3, 7, 8] 14).t), (2, .sl 1 L2.length)]) (rg 0 11 []) (Value.tuple #[Value.agg #[vi (11 : Int), vi a10, vi (L2.getD 0 RG.z).a0, vi (L2.getD 0 RG.z).a1, vq, vq], vf]) (hF g9 w9) (bC (o := .cells (Zr Zd 1 [] L1 [Value.slice (some ⟨1, (0 + (1 * 2)), none⟩) (L2.length - 1) (L2.length - 1), vi a3, Value.bool b4, Value.bool b5, vi a6, vi a7, vi a8, vi a9, vp 2 0, vi a10, Value.func (.func 162) #[] #[]]) 141) ⟨rfl, ⟨[], (show ([vi (L1.getD 0 RK.z).a0, vi (L1.getD 0 RK.z).a1, vi (L1.getD 0 RK.z).a2, vi (L1.getD 0 RK.z).a3, vi (L1.getD 0 RK.z).a4, vi (L1.getD 0 RK.z).a5, vi (L1.getD 0 RK.z).a6, vi (L1.getD 0 RK.z).a7, vi (L1.getD 0 RK.z).a8, vi (L1.getD 0 RK.z).a9, vi (L1.getD 0 RK.z).a10, vi (L1.getD 0 RK.z).a11, vi (L1.getD 0 RK.z).a12, vi (L1.getD 0 RK.z).a13, vi (L1.getD 0 RK.z).a14, vi (L1.getD 0 RK.z).a15, Value.slice (some ⟨1, (0 + (1 * 2)), none⟩) (L2.length - 1) (L2.length - 1), vi a3, Value.bool b4, Value.bool b5, vi a6, vi a7, vi a8, vi a9, vp 2 0, vi a10, Value.func (.func 162) #[] #[]] : List Value) = _ from (Zg rfl (Zg rfl (Zg rfl (Zg rfl (Zg rfl (Zg rfl (Zg rfl (Zg rfl (Zg rfl (Zg rfl (Zg rfl (Zg rfl (Zg rfl (Zg rfl (Zg rfl (Zg rfl (Zg (Z3 eqA rfl rfl) (Zg rfl (Zg rfl (Zg rfl (Zg rfl (Zg rfl (Zg rfl (Zg rfl (Zg rfl (Zg rfl (Zg rfl rfl))))))))))))))))))))))))))).symm)⟩, by rfl⟩ <| bR <| bM (.cells (Zr Zc9 64 [vi a12] L13 [vi a14, vi a15, vi a16, vi a17, vi a18, vi a19, vi a20, vp 3 0, vp 4 0, vp 5 0, vp 6 0]) 132) <| bS [vi a21, vs 7 0 y8_0.length y8_0.length, vs 8 0 L23.length L23.length, vn, vn, vn, vn, vn, vn, vn, vn, vn, vn, vn, vn, vn, vn, vn, vn, vn] <| bS [vs 9 0 L24.length L24.length, vs 10 0 L25.length L25.length] <| bS [vi a26, vi a27, vi a28] <| bM (.cells (Zr eI 64 [vi a29] L30 []) 211) <| bR <| bR <| bR <| bR <| bE)

theorem Zig (a0 : Int) (L1 : List RK) (L2 : List RG) (a3 : Int) (b4 b5 : Bool) (a6 a7 a8 a9 a10 a11 a12 : Int) (L13 : List RF) (a14 a15 a16 a17 a18 a19 a20 a21 : Int) (L22 : List RI) (L23 : List RG) (L24 L25 : List Int) (a26 a27 a28 a29 : Int) (L30 : List Int) (N : Nat) (r : Zbw) (h : Za9 a0 L1 L2 a3 b4 b5 a6 a7 a8 a9 a10 a11 a12 L13 a14 a15 a16 a17 a18 a19 a20 a21 L22 L23 L24 L25 a26 a27 a28 a29 L30 N = some r) : LSpec Tryz.prog 20 #[vp 0 0, vi a0] (κp L1 L2 a3 b4 b5 a6 a7 a8 a9 a10 a11 a12 L13 a14 a15 a16 a17 a18 a19 a20 a21 L22 L23 L24 L25 a26 a27 a28 a29 L30) (Zgp a0 L1 L2 a3 b4 b5 a6 a7 a8 a9 a10 a11 a12 L13 a14 a15 a16 a17 a18 a19 a20 a21 L22 L23 L24 L25 a26 a27 a28 a29 L30 r) (ZfQ a0 L1 L2 a3 b4 b5 a6 a7 a8 a9 a10 a11 a12 L13 a14 a15 a16 a17 a18 a19 a20 a21 L22 L23 L24 L25 a26 a27 a28 a29 L30 r) :=
 Zbh Zau Tryz.func20 (by kernel_rfl) (by kernel_rfl) (fun r => by cases r <;> exact ZG _ rfl) (Zja a0 L1 L2 a3 b4 b5 a6 a7 a8 a9 a10 a11 a12 L13 a14 a15 a16 a17 a18 a19 a20 a21 L22 L23 L24 L25 a26 a27 a28 a29 L30 N) h

noncomputable def ZfR {a0 : Int} {L1 : List RK} {L2 : List RG} {a3 : Int} {b4 : Bool} {b5 : Bool} {a6 : Int} {a7 : Int} {a8 : Int} {a9 : Int} {a10 : Int} {a11 : Int} {a12 : Int} {L13 : List RF} {a14 : Int} {a15 : Int} {a16 : Int} {a17 : Int} {a18 : Int} {a19 : Int} {a20 : Int} {a21 : Int} {L22 : List RI} {L23 : List RG} {L24 : List Int} {L25 : List Int} {a26 : Int} {a27 : Int} {a28 : Int} {a29 : Int} {L30 : List Int} {w1 : List RI} {w23 : Int} {N : Nat} (h : Za9 a0 L1 L2 a3 b4 b5 a6 a7 a8 a9 a10 a11 a12 L13 a14 a15 a16 a17 a18 a19 a20 a21 L22 L23 L24 L25 a26 a27 a28 a29 L30 N = some (.r0 w1 w23)) (ks : List Nat) (n : Nat) : ToldS := ⟨#[vp (nth ks 0) 0, vi a0], [((nth ks 0), .cells (Zr Zd 1 [] L1 [vs (nth ks 1) 0 L2.length L2.length, vi a3, Value.bool b4, Value.bool b5, vi a6, vi a7, vi a8, vi a9, vp (nth ks 2) 0, vi a10, (fnV a11)]) 141), ((nth ks 1), .cells (Za RB L2) 42), ((nth ks 2), .cells (Zr Zc9 64 [vi a12] L13 [vi a14, vi a15, vi a16, vi a17, vi a18, vi a19, vi a20, vp (nth ks 3) 0, vp (nth ks 4) 0, vp (nth ks 5) 0, vp (nth ks 6) 0]) 132), ((nth ks 3), .cells [vi a21, vs (nth ks 7) 0 L22.length L22.length, vs (nth ks 8) 0 L23.length L23.length, vn, vn, vn, vn, vn, vn, vn, vn, vn, vn, vn, vn, vn, vn, vn, vn, vn] 154), ((nth ks 4), .cells [vs (nth ks 9) 0 L24.length L24.length, vs (nth ks 10) 0 L25.length L25.length] 191), ((nth ks 5), .cells [vi a26, vi a27, vi a28] 208), ((nth ks 6), .cells (Zr eI 64 [vi a29] L30 []) 211), ((nth ks 7), .cells (Za RC L22) 57), ((nth ks 8), .cells (Za RB L23) 42), ((nth ks 9), .cells (Za eI L24) 188), ((nth ks 10), .cells (Za eI L25) 188)], Value.tuple #[Value.agg #[vi (11 : Int), vi a10, vi (L2.getD 0 RG.z).a0, vi (L2.getD 0 RG.z).a1, vq, vq], vf], [((nth ks 0), some (.cells (Zr Zd 1 [] L1 [vs (nth ks 1) 2 (L2.length - 1) (L2.length - 1), vi a3, Value.bool b4, Value.bool b5, vi a6, vi a7, vi a8, vi a9, vp (nth ks 2) 0, vi a10, (fnV w23)]) 141)), ((nth ks 3), some (.cells [vi a21, vs (nth ks 7) 0 w1.length w1.length, vs (nth ks 8) 0 L23.length L23.length, vn, vn, vn, vn, vn, vn, vn, vn, vn, vn, vn, vn, vn, vn, vn, vn, vn] 154)), ((nth ks 7), some (.cells (Za RC w1) 57))], 0⟩

theorem ZjC {a0 : Int} {L1 : List RK} {L2 : List RG} {a3 : Int} {b4 : Bool} {b5 : Bool} {a6 : Int} {a7 : Int} {a8 : Int} {a9 : Int} {a10 : Int} {a11 : Int} {a12 : Int} {L13 : List RF} {a14 : Int} {a15 : Int} {a16 : Int} {a17 : Int} {a18 : Int} {a19 : Int} {a20 : Int} {a21 : Int} {L22 : List RI} {L23 : List RG} {L24 : List Int} {L25 : List Int} {a26 : Int} {a27 : Int} {a28 : Int} {a29 : Int} {L30 : List Int} {w1 : List RI} {w23 : Int} {N : Nat} (h : Za9 a0 L1 L2 a3 b4 b5 a6 a7 a8 a9 a10 a11 a12 L13 a14 a15 a16 a17 a18 a19 a20 a21 L22 L23 L24 L25 a26 a27 a28 a29 L30 N = some (.r0 w1 w23)) (ks : List Nat) (n : Nat) (hk : ks.length = 11 := by rfl) (hnd : ks.Nodup := by decide +kernel) (hlt : ∀ k ∈ ks, k < n := by decide +kernel) : (ZfR (N := N)  h ks n).P Tryz.prog 20 n :=
 match ks, hk, hnd, hlt with
 | [k0, k1, k2, k3, k4, k5, k6, k7, k8, k9, k10], _, hnd, hlt => Zjz (show LSpec Tryz.prog 20 #[vp 0 0, vi a0] (κp L1 L2 a3 b4 b5 a6 a7 a8 a9 a10 a11 a12 L13 a14 a15 a16 a17 a18 a19 a20 a21 L22 L23 L24 L25 a26 a27 a28 a29 L30) (Value.tuple #[Value.agg #[vi (11 : Int), vi a10, vi (L2.getD 0 RG.z).a0, vi (L2.getD 0 RG.z).a1, vq, vq], vf]) [some (.cells (Zr Zd 1 [] L1 [vs 1 2 (L2.length - 1) (L2.length - 1), vi a3, Value.bool b4, Value.bool b5, vi a6, vi a7, vi a8, vi a9, vp 2 0, vi a10, (fnV w23)]) 141), some (κK L2), some (.cells (Zr Zc9 64 [vi a12] L13 [vi a14, vi a15, vi a16, vi a17, vi a18, vi a19, vi a20, vp 3 0, vp 4 0, vp 5 0, vp 6 0]) 132), some (.cells [vi a21, vs 7 0 w1.length w1.length, vs 8 0 L23.length L23.length, vn, vn, vn, vn, vn, vn, vn, vn, vn, vn, vn, vn, vn, vn, vn, vn, vn] 154), some (.cells [vs 9 0 L24.length L24.length, vs 10 0 L25.length L25.length] 191), some (.cells [vi a26, vi a27, vi a28] 208), some (.cells (Zr eI 64 [vi a29] L30 []) 211), some (.cells (Za RC w1) 57), some (.cells (Za RB L23) 42), some (.cells (Za eI L24) 188), some (.cells (Za eI L25) 188)] from Zig a0 L1 L2 a3 b4 b5 a6 a7 a8 a9 a10 a11 a12 L13 a14 a15 a16 a17 a18 a19 a20 a21 L22 L23 L24 L25 a26 a27 a28 a29 L30 N _ h) _ n [0, 3, 7] hnd hlt

noncomputable def ZjD (a0 : Int) (L1 L2 : List Int) : Zar → Value
 | .r0 w2 w3 w4 => Value.agg #[vi w2, vi w3, vi w4]
noncomputable abbrev κD (L1 : List Int) (L2 : List Int) := [vs 1 0 L1.length L1.length, vs 2 0 L2.length L2.length]
noncomputable def ZiH (a0 : Int) (L1 L2 : List Int) : Zar → List (Option AObj)
 | .r0 w2 w3 w4 => [some (.cells (κD L1 L2) 191), some (.cells (Za eI L1) 188), some (.cells (Za eI L2) 188)]

noncomputable abbrev κH (a0 : Int) (L2 : List Int) := (dP (ZL 1 (List.drop ((0 + ((a0).toNat * 1)) + 0) (Za eI L2)) = some [vi (L2.getD (a0).toNat 0)]))
theorem Zm7 (a0 : Int) (L1 L2 : List Int) (N : Nat) : Fx Tryz.prog Zs Tryz.f32 [.cells (κD L1 L2) 191, .cells (Za eI L1) 188, .cells (Za eI L2) 188] #[vp 0 0, vi a0] (ZjD a0 L1 L2) (ZiH a0 L1 L2) (ZbL a0 L1 L2 N) := by
 unfold ZbL
 refine Zf (fun g0 => ?_) (fun g0 => ?_)
 ·
  have w1 := kY ((L1.length : Int) > (0 : Int)) Zi
  refine Zf (fun g1 => ?_) (fun g1 => ?_)
  ·
   have w2 := kY (a0 ≥ (0 : Int)) w1
   refine Zf (fun g2 => ?_) (fun g2 => ?_)
   ·
    have w3 := kX (dP (ZL 1 (List.drop ((0 + ((a0).toNat * 1)) + 0) (Za eI L1)) = some [vi (L1.getD (a0).toNat 0)])) true (Zv (Zb2 (E := eI) (L := L1) (i := (a0).toNat) (q := 0) (by omega) (show ((0 + ((a0).toNat * 1)) + 0) = (a0).toNat * 1 + 0 from by omega) (show 0 + 1 ≤ 1 from by decide) rfl)) <| kB (a0).toNat L1.length <| kI a0 (Int.ofNat (a0).toNat) <| hY g2 w2
    refine Zf (fun g3 => ?_) (fun g3 => ?_)
    ·
     refine Zf (fun g4 => ?_) (fun _ => Zj)
     exact fxC (Zh (oq [3, 5, 7, 11]) [] [(0, (a0).toNat), (1, (a0).toNat)] [] [(0, .at (L1.getD (a0).toNat 0) []), (3, .at (L2.getD (a0).toNat 0) [])]) [0, 1, 2] (Value.agg #[vq, vq, vi (L2.getD (a0).toNat 0)]) (kX (κH a0 L2) true (Zv (Zb2 (E := eI) (L := L2) (i := (a0).toNat) (q := 0) (by omega) (show ((0 + ((a0).toNat * 1)) + 0) = (a0).toNat * 1 + 0 from by omega) (show 0 + 1 ≤ 1 from by decide) rfl)) <| kB (a0).toNat L2.length <| kI a0 (Int.ofNat (a0).toNat) <| hY g3 w3) (bS (κD L1 L2) <| bR <| bR <| bE)
    ·
     have w4 := kM (L1.getD (a0).toNat 0) (4 : Int) <| hN g3 w3
     refine Zf (fun g4 => ?_) (fun _ => Zj)
     have w5 := kV (L1.getD (a0).toNat 0) (4 : Int) w4
     refine Zf (fun g5 => ?_) (fun g5 => ?_)
     ·
      refine Zf (fun g6 => ?_) (fun g6 => ?_)
      ·
       refine Zf (fun g7 => ?_) (fun _ => Zj)
       exact fxC (Zh (oq [3, 5, 7, 10, 13, 15, 17]) [(0, ((L1.getD (a0).toNat 0) % (4 : Int))), (1, ((L1.getD (a0).toNat 0) / (4 : Int)))] [(0, (a0).toNat), (1, (a0).toNat)] [] [(0, .at (L1.getD (a0).toNat 0) []), (5, .at (L2.getD (a0).toNat 0) [])]) [0, 1, 2] (Value.agg #[vi ((L1.getD (a0).toNat 0) % (4 : Int)), vi ((L1.getD (a0).toNat 0) / (4 : Int)), vi (L2.getD (a0).toNat 0)]) (kX (κH a0 L2) true (Zv (Zb2 (E := eI) (L := L2) (i := (a0).toNat) (q := 0) (by omega) (show ((0 + ((a0).toNat * 1)) + 0) = (a0).toNat * 1 + 0 from by omega) (show 0 + 1 ≤ 1 from by decide) rfl)) <| kB (a0).toNat L2.length <| kI a0 (Int.ofNat (a0).toNat) <| hY g6 <| kY (((L1.getD (a0).toNat 0) / (4 : Int)) ≥ (0 : Int)) <| hT g5 w5) (bS (κD L1 L2) <| bR <| bR <| bE)
      ·
       refine Zf (fun g7 => ?_) (fun _ => Zj)
       exact fxC (Zh (oq [3, 5, 7, 10, 13, 15, 16]) [(0, ((L1.getD (a0).toNat 0) % (4 : Int))), (1, ((L1.getD (a0).toNat 0) / (4 : Int)))] [(0, (a0).toNat), (1, (a0).toNat)] [] [(0, .at (L1.getD (a0).toNat 0) []), (5, .at (L2.getD (a0).toNat 0) [])]) [0, 1, 2] (Value.agg #[vq, vq, vi (L2.getD (a0).toNat 0)]) (kX (κH a0 L2) true (Zv (Zb2 (E := eI) (L := L2) (i := (a0).toNat) (q := 0) (by omega) (show ((0 + ((a0).toNat * 1)) + 0) = (a0).toNat * 1 + 0 from by omega) (show 0 + 1 ≤ 1 from by decide) rfl)) <| kB (a0).toNat L2.length <| kI a0 (Int.ofNat (a0).toNat) <| hN g6 <| kY (((L1.getD (a0).toNat 0) / (4 : Int)) ≥ (0 : Int)) <| hT g5 w5) (bS (κD L1 L2) <| bR <| bR <| bE)
     ·
      refine Zf (fun g6 => ?_) (fun g6 => ?_)
      ·
       refine Zf (fun g7 => ?_) (fun g7 => ?_)
       ·
        refine Zf (fun g8 => ?_) (fun _ => Zj)
        exact fxC (Zh (oq [3, 5, 7, 10, 12, 15, 17, 19]) [(0, ((L1.getD (a0).toNat 0) % (4 : Int))), (1, ((L1.getD (a0).toNat 0) / (4 : Int)))] [(0, (a0).toNat), (1, (a0).toNat)] [] [(0, .at (L1.getD (a0).toNat 0) []), (5, .at (L2.getD (a0).toNat 0) [])]) [0, 1, 2] (Value.agg #[vi ((L1.getD (a0).toNat 0) % (4 : Int)), vi ((L1.getD (a0).toNat 0) / (4 : Int)), vi (L2.getD (a0).toNat 0)]) (kX (κH a0 L2) true (Zv (Zb2 (E := eI) (L := L2) (i := (a0).toNat) (q := 0) (by omega) (show ((0 + ((a0).toNat * 1)) + 0) = (a0).toNat * 1 + 0 from by omega) (show 0 + 1 ≤ 1 from by decide) rfl)) <| kB (a0).toNat L2.length <| kI a0 (Int.ofNat (a0).toNat) <| hY g7 <| kY (((L1.getD (a0).toNat 0) / (4 : Int)) ≥ (0 : Int)) <| hT g6 <| hF g5 w5) (bS (κD L1 L2) <| bR <| bR <| bE)
       ·
        refine Zf (fun g8 => ?_) (fun _ => Zj)
        exact fxC (Zh (oq [3, 5, 7, 10, 12, 15, 17, 18]) [(0, ((L1.getD (a0).toNat 0) % (4 : Int))), (1, ((L1.getD (a0).toNat 0) / (4 : Int)))] [(0, (a0).toNat), (1, (a0).toNat)] [] [(0, .at (L1.getD (a0).toNat 0) []), (5, .at (L2.getD (a0).toNat 0) [])]) [0, 1, 2] (Value.agg #[vq, vq, vi (L2.getD (a0).toNat 0)]) (kX (κH a0 L2) true (Zv (Zb2 (E := eI) (L := L2) (i := (a0).toNat) (q := 0) (by omega) (show ((0 + ((a0).toNat * 1)) + 0) = (a0).toNat * 1 + 0 from by omega) (show 0 + 1 ≤ 1 from by decide) rfl)) <| kB (a0).toNat L2.length <| kI a0 (Int.ofNat (a0).toNat) <| hN g7 <| kY (((L1.getD (a0).toNat 0) / (4 : Int)) ≥ (0 : Int)) <| hT g6 <| hF g5 w5) (bS (κD L1 L2) <| bR <| bR <| bE)
      ·
       refine Zf (fun g7 => ?_) (fun g7 => ?_)
       ·
        have w8 := kY (((L1.getD (a0).toNat 0) / (4 : Int)) ≥ (0 : Int)) <| hT g7 <| hF g6 <| hF g5 w5
        refine Zf (fun g8 => ?_) (fun g8 => ?_)
        ·
         refine Zf (fun g9 => ?_) (fun _ => Zj)
         exact fxC (Zh (oq [3, 5, 7, 10, 12, 14, 17, 19, 21]) [(0, ((L1.getD (a0).toNat 0) % (4 : Int))), (1, ((L1.getD (a0).toNat 0) / (4 : Int)))] [(0, (a0).toNat), (1, (a0).toNat)] [] [(0, .at (L1.getD (a0).toNat 0) []), (5, .at (L2.getD (a0).toNat 0) [])]) [0, 1, 2] (Value.agg #[vi ((L1.getD (a0).toNat 0) % (4 : Int)), vi ((L1.getD (a0).toNat 0) / (4 : Int)), vi (L2.getD (a0).toNat 0)]) (kX (κH a0 L2) true (Zv (Zb2 (E := eI) (L := L2) (i := (a0).toNat) (q := 0) (by omega) (show ((0 + ((a0).toNat * 1)) + 0) = (a0).toNat * 1 + 0 from by omega) (show 0 + 1 ≤ 1 from by decide) rfl)) <| kB (a0).toNat L2.length <| kI a0 (Int.ofNat (a0).toNat) <| hY g8 w8) (bS (κD L1 L2) <| bR <| bR <| bE)
        ·
         refine Zf (fun g9 => ?_) (fun _ => Zj)
         exact fxC (Zh (oq [3, 5, 7, 10, 12, 14, 17, 19, 20]) [(0, ((L1.getD (a0).toNat 0) % (4 : Int))), (1, ((L1.getD (a0).toNat 0) / (4 : Int)))] [(0, (a0).toNat), (1, (a0).toNat)] [] [(0, .at (L1.getD (a0).toNat 0) []), (5, .at (L2.getD (a0).toNat 0) [])]) [0, 1, 2] (Value.agg #[vq, vq, vi (L2.getD (a0).toNat 0)]) (kX (κH a0 L2) true (Zv (Zb2 (E := eI) (L := L2) (i := (a0).toNat) (q := 0) (by omega) (show ((0 + ((a0).toNat * 1)) + 0) = (a0).toNat * 1 + 0 from by omega) (show 0 + 1 ≤ 1 from by decide) rfl)) <| kB (a0).toNat L2.length <| kI a0 (Int.ofNat (a0).toNat) <| hN g8 w8) (bS (κD L1 L2) <| bR <| bR <| bE)
       ·
        refine Zf (fun g8 => ?_) (fun _ => Zj)
        exact fxC (Zh (oq [3, 5, 7, 10, 12, 14, 16]) [(0, ((L1.getD (a0).toNat 0) % (4 : Int))), (1, ((L1.getD (a0).toNat 0) / (4 : Int)))] [(0, (a0).toNat), (1, (a0).toNat)] [] [(0, .at (L1.getD (a0).toNat 0) []), (5, .at (L2.getD (a0).toNat 0) [])]) [0, 1, 2] (Value.agg #[vq, vq, vi (L2.getD (a0).toNat 0)]) (kX (κH a0 L2) true (Zv (Zb2 (E := eI) (L := L2) (i := (a0).toNat) (q := 0) (by omega) (show ((0 + ((a0).toNat * 1)) + 0) = (a0).toNat * 1 + 0 from by omega) (show 0 + 1 ≤ 1 from by decide) rfl)) <| kB (a0).toNat L2.length <| kI a0 (Int.ofNat (a0).toNat) <| hF g7 <| hF g6 <| hF g5 w5) (bS (κD L1 L2) <| bR <| bR <| bE)
   ·
    exact fxC (Zh (oq [3, 5, 6]) [] [] [] []) [0, 1, 2] (Value.agg #[vq, vq, vq]) (hN g2 w2) (bS (κD L1 L2) <| bR <| bR <| bE)
  ·
   exact fxC (Zh (oq [3, 4]) [] [] [] []) [0, 1, 2] (Value.agg #[vq, vq, vq]) (kN (a0 ≥ (0 : Int)) w1) (bS (κD L1 L2) <| bR <| bR <| bE)
 ·
  exact fxC (Zh (oq [2]) [] [] [] []) [0, 1, 2] (Value.agg #[vq, vq, vq]) (kN ((L1.length : Int) > (0 : Int)) Zi) (bS (κD L1 L2) <| bR <| bR <| bE)

theorem Zl1 (a0 : Int) (L1 L2 : List Int) (N : Nat) (r : Zar) (h : ZbL a0 L1 L2 N = some r) : LSpec Tryz.prog 32 #[vp 0 0, vi a0] [.cells (κD L1 L2) 191, .cells (Za eI L1) 188, .cells (Za eI L2) 188] (ZjD a0 L1 L2 r) (ZiH a0 L1 L2 r) :=
 Zbh Zau Tryz.func32 (by kernel_rfl) (by kernel_rfl) (fun r => by cases r <;> exact ZG _ rfl) (Zm7 a0 L1 L2 N) h

noncomputable def ZcB {a0 : Int} {L1 : List Int} {L2 : List Int} {w2 : Int} {w3 : Int} {w4 : Int} {N : Nat} (h : ZbL a0 L1 L2 N = some (.r0 w2 w3 w4)) (ks : List Nat) (n : Nat) : ToldS := ⟨#[vp (nth ks 0) 0, vi a0], [((nth ks 0), .cells [vs (nth ks 1) 0 L1.length L1.length, vs (nth ks 2) 0 L2.length L2.length] 191), ((nth ks 1), .cells (Za eI L1) 188), ((nth ks 2), .cells (Za eI L2) 188)], Value.agg #[vi w2, vi w3, vi w4], [], 0⟩

theorem Zgq {a0 : Int} {L1 : List Int} {L2 : List Int} {w2 : Int} {w3 : Int} {w4 : Int} {N : Nat} (h : ZbL a0 L1 L2 N = some (.r0 w2 w3 w4)) (ks : List Nat) (n : Nat) (hk : ks.length = 3 := by rfl) (hnd : ks.Nodup := by decide +kernel) (hlt : ∀ k ∈ ks, k < n := by decide +kernel) : (ZcB (N := N)  h ks n).P Tryz.prog 32 n :=
 match ks, hk, hnd, hlt with
 | [k0, k1, k2], _, hnd, hlt => Za7 (show LSpec Tryz.prog 32 #[vp 0 0, vi a0] [.cells (κD L1 L2) 191, .cells (Za eI L1) 188, .cells (Za eI L2) 188] (Value.agg #[vi w2, vi w3, vi w4]) [some (.cells (κD L1 L2) 191), some (.cells (Za eI L1) 188), some (.cells (Za eI L2) 188)] from Zl1 a0 L1 L2 N _ h) _ n [] hnd hlt

end Ev
end Go.Proofs.YtiijipocjellpaaGreat
namespace Go.Proofs.YtiijipocjellpaaGreat
open Go.IntKind (i64)
open Go.RowKit
namespace Ev
set_option linter.unusedVariables false
set_option maxRecDepth 100000
set_option maxHeartbeats 4000000
noncomputable def Zih (a0 a1 a2 a3 a4 : Int) (L5 L6 : List Int) : Z9 → Value
 | .r0 w0 w1 w2 => Value.bool w2
noncomputable def Zhl (a0 a1 a2 a3 a4 : Int) (L5 L6 : List Int) : Z9 → List (Option AObj)
 | .r0 w0 w1 w2 => [some (.cells [vs 1 0 w0.length w0.length, vs 2 0 w1.length w1.length] 191), some (.cells (Za eI w0) 188), some (.cells (Za eI w1) 188)]

noncomputable abbrev κbd (a0 : Int) (L6 : List Int) := (dP (ZL 1 (List.drop ((0 + ((a0).toNat * 1)) + 0) (Za eI L6)) = some [vi (L6.getD (a0).toNat 0)] ∧ ((0 + ((a0).toNat * 1)) + 0) + 1 ≤ ((Za eI L6) : List Value).length ∧ Ze5 (Za eI L6) ((0 + ((a0).toNat * 1)) + 0) [vi (i64.wrap ((L6.getD (a0).toNat 0) + (1 : Int)))] = (Za eI (L6.set (a0).toNat (i64.wrap ((L6.getD (a0).toNat 0) + (1 : Int)))))))
noncomputable abbrev κs (L5 : List Int) (L6 : List Int) := [vs 1 0 L5.length L5.length, vs 2 0 L6.length L6.length]
theorem Zl2 (a0 a1 a2 a3 a4 : Int) (L5 L6 : List Int) (N : Nat) : Fx Tryz.prog Zs Tryz.f73 [.cells (κs L5 L6) 191, .cells (Za eI L5) 188, .cells (Za eI L6) 188] #[vp 0 0, vi a0, vi a1, Value.agg #[vi a2, vi a3, vi a4]] (Zih a0 a1 a2 a3 a4 L5 L6) (Zhl a0 a1 a2 a3 a4 L5 L6) (Zbo a0 a1 a2 a3 a4 L5 L6 N) := by
 unfold Zbo
 refine Zf (fun g0 => ?_) (fun g0 => ?_)
 ·
  have w1 := kY (a1 ≥ (0 : Int)) Zi
  refine Zf (fun g1 => ?_) (fun g1 => ?_)
  ·
   have w2 := kW (((4 : Int) * a1) + (0 : Int)) ((4 : Int) * a1) <| kW ((4 : Int) * a1) ((4 : Int) * a1) <| hY g1 w1
   refine Zf (fun g2 => ?_) (fun g2 => ?_)
   ·
    have w3 := kY ((L5.length : Int) > (0 : Int)) w2
    refine Zf (fun g3 => ?_) (fun g3 => ?_)
    ·
     have w4 := kY (a0 ≥ (0 : Int)) w3
     refine Zf (fun g4 => ?_) (fun g4 => ?_)
     ·
      refine Zf (fun g5 => ?_) (fun g5 => ?_)
      ·
       exact fxC (Zh (oq [3, 5, 13, 15, 17, 23]) [(0, ((4 : Int) * a1)), (1, ((4 : Int) * a1))] [] [] []) [0, 1, 2] (vf) (hT g5 <| hY g4 w4) (bS (κs L5 L6) <| bR <| bR <| bE)
      ·
       have w6 := hF g5 <| hF g5 <| hY g4 w4
       refine Zf (fun g6 => ?_) (fun g6 => ?_)
       ·
        refine Zf (fun g7 => ?_) (fun g7 => ?_)
        ·
         refine Zf (fun g8 => ?_) (fun g8 => ?_)
         ·
          refine Zf (fun g9 => ?_) (fun g9 => ?_)
          ·
           have w10 := kX (dP (ZL 1 (List.drop ((0 + ((a0).toNat * 1)) + 0) (Za eI L5)) = some [vi (L5.getD (a0).toNat 0)])) true (Zv (Zb2 (E := eI) (L := L5) (i := (a0).toNat) (q := 0) (by omega) (show ((0 + ((a0).toNat * 1)) + 0) = (a0).toNat * 1 + 0 from by omega) (show 0 + 1 ≤ 1 from by decide) rfl)) <| kW (((4 : Int) * a3) + a2) (((4 : Int) * a3) + a2) <| kW ((4 : Int) * a3) ((4 : Int) * a3) <| kB (a0).toNat L5.length <| kI a0 (Int.ofNat (a0).toNat) <| kY (a4 ≥ (0 : Int)) <| hY g8 <| kY (a3 ≥ (0 : Int)) <| hT g6 w6
           refine Zf (fun g10 => ?_) (fun g10 => ?_)
           ·
            refine Zf (fun g11 => ?_) (fun _ => Zj)
            exact fxC (Zh (oq [3, 5, 13, 15, 17, 22, 24, 27, 29, 31, 33, 37]) [(0, ((4 : Int) * a1)), (1, ((4 : Int) * a1)), (2, ((4 : Int) * a3)), (3, (((4 : Int) * a3) + a2))] [(0, (a0).toNat), (1, (a0).toNat)] [] [(0, .at (L5.getD (a0).toNat 0) (Za eI (L5.set (a0).toNat (((4 : Int) * a3) + a2)))), (1, .at (L6.getD (a0).toNat 0) (Za eI (L6.set (a0).toNat (i64.wrap ((L6.getD (a0).toNat 0) + (1 : Int))))))]) [0, 1, 2] (vT) (kX (κbd a0 L6) true (Zv ⟨(Zb2 (E := eI) (L := L6) (i := (a0).toNat) (q := 0) (by omega) (show ((0 + ((a0).toNat * 1)) + 0) = (a0).toNat * 1 + 0 from by omega) (show 0 + 1 ≤ 1 from by decide) rfl), (Zcq (E := eI) (L := L6) (i := (a0).toNat) (q := 0) (l := [vi (i64.wrap ((L6.getD (a0).toNat 0) + (1 : Int)))]) (i64.wrap ((L6.getD (a0).toNat 0) + (1 : Int))) (by omega) (show ((0 + ((a0).toNat * 1)) + 0) = (a0).toNat * 1 + 0 from by omega) (show 0 + 1 ≤ 1 from by decide) rfl)⟩) <| kB (a0).toNat L6.length <| kI a0 (Int.ofNat (a0).toNat) <| kC (Zcq (E := eI) (L := L5) (i := (a0).toNat) (q := 0) (l := [vi (((4 : Int) * a3) + a2)]) (((4 : Int) * a3) + a2) (by omega) (show ((0 + ((a0).toNat * 1)) + 0) = (a0).toNat * 1 + 0 from by omega) (show 0 + 1 ≤ 1 from by decide) rfl) <| hT g10 w10) (bU2 (κs L5 L6) 0 (show (vs 1 0 L5.length L5.length : Value) = vs 1 0 (L5.set (a0).toNat (((4 : Int) * a3) + a2)).length (L5.set (a0).toNat (((4 : Int) * a3) + a2)).length from Z3 rfl eqA eqA) 1 (show (vs 2 0 L6.length L6.length : Value) = vs 2 0 (L6.set (a0).toNat (i64.wrap ((L6.getD (a0).toNat 0) + (1 : Int)))).length (L6.set (a0).toNat (i64.wrap ((L6.getD (a0).toNat 0) + (1 : Int)))).length from Z3 rfl eqA eqA) <| bR <| bR <| bE)
           ·
            exact fxC (Zh (oq [3, 5, 13, 15, 17, 22, 24, 27, 29, 31, 33, 36]) [(0, ((4 : Int) * a1)), (1, ((4 : Int) * a1)), (2, ((4 : Int) * a3)), (3, (((4 : Int) * a3) + a2))] [(0, (a0).toNat)] [] [(0, .at (L5.getD (a0).toNat 0) (Za eI (L5.set (a0).toNat (((4 : Int) * a3) + a2))))]) [0, 1, 2] (vf) (hF g10 w10) (bS (κs L5 L6) <| bR <| bR <| bE)
          ·
           exact fxC (Zh (oq [3, 5, 13, 15, 17, 22, 24, 27, 29, 31, 32]) [(0, ((4 : Int) * a1)), (1, ((4 : Int) * a1))] [] [] []) [0, 1, 2] (vf) (kN (a4 ≥ (0 : Int)) <| hY g8 <| kY (a3 ≥ (0 : Int)) <| hT g6 w6) (bS (κs L5 L6) <| bR <| bR <| bE)
         ·
          exact fxC (Zh (oq [3, 5, 13, 15, 17, 22, 24, 27, 29, 30]) [(0, ((4 : Int) * a1)), (1, ((4 : Int) * a1))] [] [] []) [0, 1, 2] (vf) (hN g8 <| kY (a3 ≥ (0 : Int)) <| hT g6 w6) (bS (κs L5 L6) <| bR <| bR <| bE)
        ·
         exact fxC (Zh (oq [3, 5, 13, 15, 17, 22, 24, 27, 28]) [(0, ((4 : Int) * a1)), (1, ((4 : Int) * a1))] [] [] []) [0, 1, 2] (vf) (kN (a3 ≥ (0 : Int)) <| hT g6 w6) (bS (κs L5 L6) <| bR <| bR <| bE)
       ·
        refine Zf (fun g7 => ?_) (fun g7 => ?_)
        ·
         refine Zf (fun g8 => ?_) (fun g8 => ?_)
         ·
          have w9 := kY (a3 ≥ (0 : Int)) <| hT g7 <| hF g6 w6
          refine Zf (fun g9 => ?_) (fun g9 => ?_)
          ·
           refine Zf (fun g10 => ?_) (fun g10 => ?_)
           ·
            have w11 := kX (dP (ZL 1 (List.drop ((0 + ((a0).toNat * 1)) + 0) (Za eI L5)) = some [vi (L5.getD (a0).toNat 0)])) true (Zv (Zb2 (E := eI) (L := L5) (i := (a0).toNat) (q := 0) (by omega) (show ((0 + ((a0).toNat * 1)) + 0) = (a0).toNat * 1 + 0 from by omega) (show 0 + 1 ≤ 1 from by decide) rfl)) <| kW (((4 : Int) * a3) + a2) (((4 : Int) * a3) + a2) <| kW ((4 : Int) * a3) ((4 : Int) * a3) <| kB (a0).toNat L5.length <| kI a0 (Int.ofNat (a0).toNat) <| kY (a4 ≥ (0 : Int)) <| hY g9 w9
            refine Zf (fun g11 => ?_) (fun g11 => ?_)
            ·
             refine Zf (fun g12 => ?_) (fun _ => Zj)
             exact fxC (Zh (oq [3, 5, 13, 15, 17, 22, 24, 26, 29, 31, 33, 35, 39]) [(0, ((4 : Int) * a1)), (1, ((4 : Int) * a1)), (2, ((4 : Int) * a3)), (3, (((4 : Int) * a3) + a2))] [(0, (a0).toNat), (1, (a0).toNat)] [] [(0, .at (L5.getD (a0).toNat 0) (Za eI (L5.set (a0).toNat (((4 : Int) * a3) + a2)))), (1, .at (L6.getD (a0).toNat 0) (Za eI (L6.set (a0).toNat (i64.wrap ((L6.getD (a0).toNat 0) + (1 : Int))))))]) [0, 1, 2] (vT) (kX (κbd a0 L6) true (Zv ⟨(Zb2 (E := eI) (L := L6) (i := (a0).toNat) (q := 0) (by omega) (show ((0 + ((a0).toNat * 1)) + 0) = (a0).toNat * 1 + 0 from by omega) (show 0 + 1 ≤ 1 from by decide) rfl), (Zcq (E := eI) (L := L6) (i := (a0).toNat) (q := 0) (l := [vi (i64.wrap ((L6.getD (a0).toNat 0) + (1 : Int)))]) (i64.wrap ((L6.getD (a0).toNat 0) + (1 : Int))) (by omega) (show ((0 + ((a0).toNat * 1)) + 0) = (a0).toNat * 1 + 0 from by omega) (show 0 + 1 ≤ 1 from by decide) rfl)⟩) <| kB (a0).toNat L6.length <| kI a0 (Int.ofNat (a0).toNat) <| kC (Zcq (E := eI) (L := L5) (i := (a0).toNat) (q := 0) (l := [vi (((4 : Int) * a3) + a2)]) (((4 : Int) * a3) + a2) (by omega) (show ((0 + ((a0).toNat * 1)) + 0) = (a0).toNat * 1 + 0 from by omega) (show 0 + 1 ≤ 1 from by decide) rfl) <| hT g11 w11) (bU2 (κs L5 L6) 0 (show (vs 1 0 L5.length L5.length : Value) = vs 1 0 (L5.set (a0).toNat (((4 : Int) * a3) + a2)).length (L5.set (a0).toNat (((4 : Int) * a3) + a2)).length from Z3 rfl eqA eqA) 1 (show (vs 2 0 L6.length L6.length : Value) = vs 2 0 (L6.set (a0).toNat (i64.wrap ((L6.getD (a0).toNat 0) + (1 : Int)))).length (L6.set (a0).toNat (i64.wrap ((L6.getD (a0).toNat 0) + (1 : Int)))).length from Z3 rfl eqA eqA) <| bR <| bR <| bE)
            ·
             exact fxC (Zh (oq [3, 5, 13, 15, 17, 22, 24, 26, 29, 31, 33, 35, 38]) [(0, ((4 : Int) * a1)), (1, ((4 : Int) * a1)), (2, ((4 : Int) * a3)), (3, (((4 : Int) * a3) + a2))] [(0, (a0).toNat)] [] [(0, .at (L5.getD (a0).toNat 0) (Za eI (L5.set (a0).toNat (((4 : Int) * a3) + a2))))]) [0, 1, 2] (vf) (hF g11 w11) (bS (κs L5 L6) <| bR <| bR <| bE)
           ·
            exact fxC (Zh (oq [3, 5, 13, 15, 17, 22, 24, 26, 29, 31, 33, 34]) [(0, ((4 : Int) * a1)), (1, ((4 : Int) * a1))] [] [] []) [0, 1, 2] (vf) (kN (a4 ≥ (0 : Int)) <| hY g9 w9) (bS (κs L5 L6) <| bR <| bR <| bE)
          ·
           exact fxC (Zh (oq [3, 5, 13, 15, 17, 22, 24, 26, 29, 31, 32]) [(0, ((4 : Int) * a1)), (1, ((4 : Int) * a1))] [] [] []) [0, 1, 2] (vf) (hN g9 w9) (bS (κs L5 L6) <| bR <| bR <| bE)
         ·
          exact fxC (Zh (oq [3, 5, 13, 15, 17, 22, 24, 26, 29, 30]) [(0, ((4 : Int) * a1)), (1, ((4 : Int) * a1))] [] [] []) [0, 1, 2] (vf) (kN (a3 ≥ (0 : Int)) <| hT g7 <| hF g6 w6) (bS (κs L5 L6) <| bR <| bR <| bE)
        ·
         exact fxC (Zh (oq [3, 5, 13, 15, 17, 22, 24, 26, 28]) [(0, ((4 : Int) * a1)), (1, ((4 : Int) * a1))] [] [] []) [0, 1, 2] (vf) (hF g7 <| hF g6 w6) (bS (κs L5 L6) <| bR <| bR <| bE)
     ·
      exact fxC (Zh (oq [3, 5, 13, 15, 16]) [(0, ((4 : Int) * a1)), (1, ((4 : Int) * a1))] [] [] []) [0, 1, 2] (vf) (hN g4 w4) (bS (κs L5 L6) <| bR <| bR <| bE)
    ·
     exact fxC (Zh (oq [3, 5, 13, 14]) [(0, ((4 : Int) * a1)), (1, ((4 : Int) * a1))] [] [] []) [0, 1, 2] (vf) (kN (a0 ≥ (0 : Int)) w3) (bS (κs L5 L6) <| bR <| bR <| bE)
   ·
    exact fxC (Zh (oq [3, 5, 12]) [(0, ((4 : Int) * a1)), (1, ((4 : Int) * a1))] [] [] []) [0, 1, 2] (vf) (kN ((L5.length : Int) > (0 : Int)) w2) (bS (κs L5 L6) <| bR <| bR <| bE)
  ·
   by_cases g2 : (0 : Int) < (L5.length : Int)
   ·
    have w3 := kY ((L5.length : Int) > (0 : Int)) <| hN g1 w1
    by_cases g3 : (0 : Int) ≤ a0
    ·
     by_cases g4 : a0 < (L5.length : Int)
     ·
      exact fxC (Zh (oq [3, 4, 11, 13, 15]) [] [] [] []) [0, 1, 2] (vf) (hY g4 <| kY (a0 ≥ (0 : Int)) w3) (bS (κs L5 L6) <| bR <| bR <| bE)
     ·
      exact fxC (Zh (oq [3, 4, 11, 13, 14]) [] [] [] []) [0, 1, 2] (vf) (hN g4 <| kY (a0 ≥ (0 : Int)) w3) (bS (κs L5 L6) <| bR <| bR <| bE)
    ·
     exact fxC (Zh (oq [3, 4, 11, 12]) [] [] [] []) [0, 1, 2] (vf) (kN (a0 ≥ (0 : Int)) w3) (bS (κs L5 L6) <| bR <| bR <| bE)
   ·
    exact fxC (Zh (oq [3, 4, 10]) [] [] [] []) [0, 1, 2] (vf) (kN ((L5.length : Int) > (0 : Int)) <| hN g1 w1) (bS (κs L5 L6) <| bR <| bR <| bE)
 ·
  by_cases g1 : (0 : Int) < (L5.length : Int)
  ·
   have w2 := kY ((L5.length : Int) > (0 : Int)) <| kN (a1 ≥ (0 : Int)) Zi
   by_cases g2 : (0 : Int) ≤ a0
   ·
    by_cases g3 : a0 < (L5.length : Int)
    ·
     exact fxC (Zh (oq [2, 9, 11, 13]) [] [] [] []) [0, 1, 2] (vf) (hY g3 <| kY (a0 ≥ (0 : Int)) w2) (bS (κs L5 L6) <| bR <| bR <| bE)
    ·
     exact fxC (Zh (oq [2, 9, 11, 12]) [] [] [] []) [0, 1, 2] (vf) (hN g3 <| kY (a0 ≥ (0 : Int)) w2) (bS (κs L5 L6) <| bR <| bR <| bE)
   ·
    exact fxC (Zh (oq [2, 9, 10]) [] [] [] []) [0, 1, 2] (vf) (kN (a0 ≥ (0 : Int)) w2) (bS (κs L5 L6) <| bR <| bR <| bE)
  ·
   exact fxC (Zh (oq [2, 8]) [] [] [] []) [0, 1, 2] (vf) (kN ((L5.length : Int) > (0 : Int)) <| kN (a1 ≥ (0 : Int)) Zi) (bS (κs L5 L6) <| bR <| bR <| bE)

theorem Zkk (a0 a1 a2 a3 a4 : Int) (L5 L6 : List Int) (N : Nat) (r : Z9) (h : Zbo a0 a1 a2 a3 a4 L5 L6 N = some r) : LSpec Tryz.prog 73 #[vp 0 0, vi a0, vi a1, Value.agg #[vi a2, vi a3, vi a4]] [.cells (κs L5 L6) 191, .cells (Za eI L5) 188, .cells (Za eI L6) 188] (Zih a0 a1 a2 a3 a4 L5 L6 r) (Zhl a0 a1 a2 a3 a4 L5 L6 r) :=
 Zbh Zau Tryz.func73 (by kernel_rfl) (by kernel_rfl) (fun r => by cases r <;> exact ZG _ rfl) (Zl2 a0 a1 a2 a3 a4 L5 L6 N) h

noncomputable def Zfl {a0 : Int} {a1 : Int} {a2 : Int} {a3 : Int} {a4 : Int} {L5 : List Int} {L6 : List Int} {w0 : List Int} {w1 : List Int} {w2 : Bool} {N : Nat} (h : Zbo a0 a1 a2 a3 a4 L5 L6 N = some (.r0 w0 w1 w2)) (ks : List Nat) (n : Nat) : ToldS := ⟨#[vp (nth ks 0) 0, vi a0, vi a1, Value.agg #[vi a2, vi a3, vi a4]], [((nth ks 0), .cells [vs (nth ks 1) 0 L5.length L5.length, vs (nth ks 2) 0 L6.length L6.length] 191), ((nth ks 1), .cells (Za eI L5) 188), ((nth ks 2), .cells (Za eI L6) 188)], Value.bool w2, [((nth ks 0), some (.cells [vs (nth ks 1) 0 w0.length w0.length, vs (nth ks 2) 0 w1.length w1.length] 191)), ((nth ks 1), some (.cells (Za eI w0) 188)), ((nth ks 2), some (.cells (Za eI w1) 188))], 0⟩

theorem Zhm {a0 : Int} {a1 : Int} {a2 : Int} {a3 : Int} {a4 : Int} {L5 : List Int} {L6 : List Int} {w0 : List Int} {w1 : List Int} {w2 : Bool} {N : Nat} (h : Zbo a0 a1 a2 a3 a4 L5 L6 N = some (.r0 w0 w1 w2)) (ks : List Nat) (n : Nat) (hk : ks.length = 3 := by rfl) (hnd : ks.Nodup := by decide +kernel) (hlt : ∀ k ∈ ks, k < n := by decide +kernel) : (Zfl (N := N)  h ks n).P Tryz.prog 73 n :=
 match ks, hk, hnd, hlt with
 | [k0, k1, k2], _, hnd, hlt => Za7 (show LSpec Tryz.prog 73 #[vp 0 0, vi a0, vi a1, Value.agg #[vi a2, vi a3, vi a4]] [.cells (κs L5 L6) 191, .cells (Za eI L5) 188, .cells (Za eI L6) 188] (Value.bool w2) [some (.cells [vs 1 0 w0.length w0.length, vs 2 0 w1.length w1.length] 191), some (.cells (Za eI w0) 188), some (.cells (Za eI w1) 188)] from Zkk a0 a1 a2 a3 a4 L5 L6 N _ h) _ n [0, 1, 2] hnd hlt

noncomputable def ZiI (a0 a1 : Int) (L2 L3 : List Int) : ZaG → Value
 | .r0 w0 w2 => vi w2
noncomputable def Zii (a0 a1 : Int) (L2 L3 : List Int) : ZaG → List (Option AObj)
 | .r0 w0 w2 => [some (.cells [vs 1 0 w0.length w0.length, vs 2 0 L3.length L3.length] 191), some (.cells (Za eI w0) 188), some (.cells (Za eI L3) 188)]

noncomputable abbrev κ1 (L2 : List Int) (L3 : List Int) := [vs 1 0 L2.length L2.length, vs 2 0 L3.length L3.length]
theorem ZlS (a0 a1 : Int) (L2 L3 : List Int) (N : Nat) : Fx Tryz.prog Zs Tryz.f75 [.cells (κ1 L2 L3) 191, .cells (Za eI L2) 188, .cells (Za eI L3) 188] #[vp 0 0, vi a0, vi a1] (ZiI a0 a1 L2 L3) (Zii a0 a1 L2 L3) (ZbV a0 a1 L2 L3 N) := by
 unfold ZbV
 refine Zf (fun g0 => ?_) (fun g0 => ?_)
 ·
  have w1 := kY ((L2.length : Int) > (0 : Int)) <| kY ((L2.length : Int) > (0 : Int)) Zi
  refine Zf (fun g1 => ?_) (fun g1 => ?_)
  ·
   refine Zf (fun g2 => ?_) (fun g2 => ?_)
   ·
    refine Zf (fun g3 => ?_) (fun g3 => ?_)
    ·
     have w4 := kY (a1 ≥ (0 : Int)) <| hY g2 <| kY (a0 ≥ (0 : Int)) w1
     refine Zf (fun g4 => ?_) (fun g4 => ?_)
     ·
      have w5 := kW (((4 : Int) * a1) + (0 : Int)) ((4 : Int) * a1) <| kW ((4 : Int) * a1) ((4 : Int) * a1) <| hY g4 w4
      refine Zaa (fun z5 c5 => ?_)
      cases z5 with
      | r0 y5_0 y5_1 y5_2 =>
       refine Zf (fun g6 => ?_) (fun g6 => ?_)
       ·
        exact fxC (Zh (oq [3, 9, 11, 13, 19, 21, 29]) [(0, ((4 : Int) * a1)), (1, ((4 : Int) * a1))] [] [] [(0, (ZcB c5 [0, 1, 2] 6).t)]) [0, 1, 2] (vi (30 : Int)) (hT g6 <| kK (Zgq c5 [0, 1, 2] 6) w5) (bS (κ1 L2 L3) <| bR <| bR <| bE)
       ·
        exact fxC (Zh (oq [3, 9, 11, 13, 19, 21, 28]) [(0, ((4 : Int) * a1)), (1, ((4 : Int) * a1))] [(0, (a0).toNat)] [] [(0, (ZcB c5 [0, 1, 2] 6).t), (1, .at (L2.getD (a0).toNat 0) (Za eI (L2.set (a0).toNat ((4 : Int) * a1))))]) [0, 1, 2] (vq) (kX (dP (ZL 1 (List.drop ((0 + ((a0).toNat * 1)) + 0) (Za eI L2)) = some [vi (L2.getD (a0).toNat 0)] ∧ ((0 + ((a0).toNat * 1)) + 0) + 1 ≤ ((Za eI L2) : List Value).length ∧ Ze5 (Za eI L2) ((0 + ((a0).toNat * 1)) + 0) [vi ((4 : Int) * a1)] = (Za eI (L2.set (a0).toNat ((4 : Int) * a1))))) true (Zv ⟨(Zb2 (E := eI) (L := L2) (i := (a0).toNat) (q := 0) (by omega) (show ((0 + ((a0).toNat * 1)) + 0) = (a0).toNat * 1 + 0 from by omega) (show 0 + 1 ≤ 1 from by decide) rfl), (Zcq (E := eI) (L := L2) (i := (a0).toNat) (q := 0) (l := [vi ((4 : Int) * a1)]) ((4 : Int) * a1) (by omega) (show ((0 + ((a0).toNat * 1)) + 0) = (a0).toNat * 1 + 0 from by omega) (show 0 + 1 ≤ 1 from by decide) rfl)⟩) <| kB (a0).toNat L2.length <| kI a0 (Int.ofNat (a0).toNat) <| hF g6 <| kK (Zgq c5 [0, 1, 2] 6) w5) (bU (κ1 L2 L3) 0 (show (vs 1 0 L2.length L2.length : Value) = vs 1 0 (L2.set (a0).toNat ((4 : Int) * a1)).length (L2.set (a0).toNat ((4 : Int) * a1)).length from Z3 rfl eqA eqA) <| bR <| bR <| bE)
     ·
      exact fxC (Zh (oq [3, 9, 11, 13, 19, 20]) [] [] [] []) [0, 1, 2] (vi (30 : Int)) (hN g4 w4) (bS (κ1 L2 L3) <| bR <| bR <| bE)
    ·
     exact fxC (Zh (oq [3, 9, 11, 13, 18]) [] [] [] []) [0, 1, 2] (vi (30 : Int)) (kN (a1 ≥ (0 : Int)) <| hY g2 <| kY (a0 ≥ (0 : Int)) w1) (bS (κ1 L2 L3) <| bR <| bR <| bE)
   ·
    exact fxC (Zh (oq [3, 9, 11, 12]) [] [] [] []) [0, 1, 2] (vi (5 : Int)) (hN g2 <| kY (a0 ≥ (0 : Int)) w1) (bS (κ1 L2 L3) <| bR <| bR <| bE)
  ·
   exact fxC (Zh (oq [3, 9, 10]) [] [] [] []) [0, 1, 2] (vi (5 : Int)) (kN (a0 ≥ (0 : Int)) w1) (bS (κ1 L2 L3) <| bR <| bR <| bE)
 ·
  exact fxC (Zh (oq [2]) [] [] [] []) [0, 1, 2] (vi (4 : Int)) (kN ((L2.length : Int) > (0 : Int)) Zi) (bS (κ1 L2 L3) <| bR <| bR <| bE)

theorem Zk8 (a0 a1 : Int) (L2 L3 : List Int) (N : Nat) (r : ZaG) (h : ZbV a0 a1 L2 L3 N = some r) : LSpec Tryz.prog 75 #[vp 0 0, vi a0, vi a1] [.cells (κ1 L2 L3) 191, .cells (Za eI L2) 188, .cells (Za eI L3) 188] (ZiI a0 a1 L2 L3 r) (Zii a0 a1 L2 L3 r) :=
 Zbh Zau Tryz.func75 (by kernel_rfl) (by kernel_rfl) (fun r => by cases r <;> exact ZG _ rfl) (ZlS a0 a1 L2 L3 N) h

noncomputable def Zij {a0 : Int} {a1 : Int} {L2 : List Int} {L3 : List Int} {w0 : List Int} {w2 : Int} {N : Nat} (h : ZbV a0 a1 L2 L3 N = some (.r0 w0 w2)) (ks : List Nat) (n : Nat) : ToldS := ⟨#[vp (nth ks 0) 0, vi a0, vi a1], [((nth ks 0), .cells [vs (nth ks 1) 0 L2.length L2.length, vs (nth ks 2) 0 L3.length L3.length] 191), ((nth ks 1), .cells (Za eI L2) 188), ((nth ks 2), .cells (Za eI L3) 188)], vi w2, [((nth ks 0), some (.cells [vs (nth ks 1) 0 w0.length w0.length, vs (nth ks 2) 0 L3.length L3.length] 191)), ((nth ks 1), some (.cells (Za eI w0) 188))], 0⟩

theorem Zm8 {a0 : Int} {a1 : Int} {L2 : List Int} {L3 : List Int} {w0 : List Int} {w2 : Int} {N : Nat} (h : ZbV a0 a1 L2 L3 N = some (.r0 w0 w2)) (ks : List Nat) (n : Nat) (hk : ks.length = 3 := by rfl) (hnd : ks.Nodup := by decide +kernel) (hlt : ∀ k ∈ ks, k < n := by decide +kernel) : (Zij (N := N)  h ks n).P Tryz.prog 75 n :=
 match ks, hk, hnd, hlt with
 | [k0, k1, k2], _, hnd, hlt => Za7 (show LSpec Tryz.prog 75 #[vp 0 0, vi a0, vi a1] [.cells (κ1 L2 L3) 191, .cells (Za eI L2) 188, .cells (Za eI L3) 188] (vi w2) [some (.cells [vs 1 0 w0.length w0.length, vs 2 0 L3.length L3.length] 191), some (.cells (Za eI w0) 188), some (.cells (Za eI L3) 188)] from Zk8 a0 a1 L2 L3 N _ h) _ n [0, 1] hnd hlt

set_option linter.unusedVariables false
set_option maxRecDepth 100000
set_option maxHeartbeats 4000000
noncomputable def Zgr (a0 : Int) (L1 : List RK) (L2 : List RG) (n3 n4 : Nat) (a5 : Int) (b6 b7 : Bool) (a8 a9 a10 a11 a12 a13 a14 : Int) (L15 : List RF) (a16 a17 a18 a19 a20 a21 a22 a23 : Int) (L24 : List RI) (L25 : List RG) (L26 L27 : List Int) (a28 a29 a30 a31 : Int) (L32 : List Int) : plain_Access_Step_3R → Value
 | .r0 w1 w2 w3 w4 w5 w7 w8 w9 w11 w12 w13 w14 w15 w16 w17 w18 w19 w20 w21 w23 w35 => Value.tuple #[Value.agg #[vi w5, vi a12, vi w7, vi w8, vi w9, vq], Value.bool w11]
noncomputable abbrev κX (a31 : Int) (L32 : List Int) := (AObj.cells (Zr eI 64 [vi a31] L32 []) 211)
noncomputable abbrev κj (a14 : Int) (L15 : List RF) (a16 : Int) (a17 : Int) (a18 : Int) (a19 : Int) (a20 : Int) (a21 : Int) (a22 : Int) := (Zr Zc9 64 [vi a14] L15 [vi a16, vi a17, vi a18, vi a19, vi a20, vi a21, vi a22, vp 3 0, vp 4 0, vp 5 0, vp 6 0])
noncomputable def ZfS (a0 : Int) (L1 : List RK) (L2 : List RG) (n3 n4 : Nat) (a5 : Int) (b6 b7 : Bool) (a8 a9 a10 a11 a12 a13 a14 : Int) (L15 : List RF) (a16 a17 a18 a19 a20 a21 a22 a23 : Int) (L24 : List RI) (L25 : List RG) (L26 L27 : List Int) (a28 a29 a30 a31 : Int) (L32 : List Int) : plain_Access_Step_3R → List (Option AObj)
 | .r0 w1 w2 w3 w4 w5 w7 w8 w9 w11 w12 w13 w14 w15 w16 w17 w18 w19 w20 w21 w23 w35 => [some (.cells (Zr Zd 1 [] w12 [vs 1 (w13 * 2) w14 w14, vi w15, Value.bool w16, Value.bool w17, vi w18, vi w19, vi w20, vi w21, vp 2 0, vi a12, (fnV w23)]) 141), some (κK L2), some (.cells (κj a14 L15 a16 a17 a18 a19 a20 a21 a22) 132), some (.cells [vi a23, vs 7 0 w1.length w1.length, vs 8 0 w2.length w2.length, vn, vn, vn, vn, vn, vn, vn, vn, vn, vn, vn, vn, vn, vn, vn, vn, vn] 154), some (.cells [vs 9 0 w3.length w3.length, vs 10 0 w4.length w4.length] 191), some (.cells [vi a28, vi w35, vi a30] 208), some (κX a31 L32), some (.cells (Za RC w1) 57), some (.cells (Za RB w2) 42), some (.cells (Za eI w3) 188), some (.cells (Za eI w4) 188)]

noncomputable abbrev κL (L26 : List Int) (L27 : List Int) := [vs 9 0 L26.length L26.length, vs 10 0 L27.length L27.length]
noncomputable abbrev κn (a23 : Int) (L24 : List RI) (L25 : List RG) := [vi a23, vs 7 0 L24.length L24.length, vs 8 0 L25.length L25.length, vn, vn, vn, vn, vn, vn, vn, vn, vn, vn, vn, vn, vn, vn, vn, vn, vn]
theorem Zjb (a0 : Int) (L1 : List RK) (L2 : List RG) (n3 n4 : Nat) (a5 : Int) (b6 b7 : Bool) (a8 a9 a10 a11 a12 a13 a14 : Int) (L15 : List RF) (a16 a17 a18 a19 a20 a21 a22 a23 : Int) (L24 : List RI) (L25 : List RG) (L26 L27 : List Int) (a28 a29 a30 a31 : Int) (L32 : List Int) (N : Nat) : Fx Tryz.prog Zs Tryz.f20 [.cells (Zr Zd 1 [] L1 [vs 1 (n3 * 2) n4 n4, vi a5, Value.bool b6, Value.bool b7, vi a8, vi a9, vi a10, vi a11, vp 2 0, vi a12, (fnV a13)]) 141, .cells (Za RB L2) 42, .cells (κj a14 L15 a16 a17 a18 a19 a20 a21 a22) 132, .cells (κn a23 L24 L25) 154, .cells (κL L26 L27) 191, .cells [vi a28, vi a29, vi a30] 208, .cells (Zr eI 64 [vi a31] L32 []) 211, .cells (Za RC L24) 57, .cells (Za RB L25) 42, .cells (Za eI L26) 188, .cells (Za eI L27) 188] #[vp 0 0, vi a0] (Zgr a0 L1 L2 n3 n4 a5 b6 b7 a8 a9 a10 a11 a12 a13 a14 L15 a16 a17 a18 a19 a20 a21 a22 a23 L24 L25 L26 L27 a28 a29 a30 a31 L32) (ZfS a0 L1 L2 n3 n4 a5 b6 b7 a8 a9 a10 a11 a12 a13 a14 L15 a16 a17 a18 a19 a20 a21 a22 a23 L24 L25 L26 L27 a28 a29 a30 a31 L32) (Z2 a0 L1 L2 n3 n4 a5 b6 b7 a8 a9 a10 a11 a12 a13 a14 L15 a16 a17 a18 a19 a20 a21 a22 a23 L24 L25 L26 L27 a28 a29 a30 a31 L32 N) := by
 unfold Z2
 refine Zf (fun g0 => ?_) (fun _ => Zj)
 refine Zf (fun g1 => ?_) (fun _ => Zj)
 refine Zf (fun g2 => ?_) (fun _ => Zj)
 refine Zf (fun g3 => ?_) (fun _ => Zj)
 refine Zf (fun g4 => ?_) (fun _ => Zj)
 refine Zf (fun g5 => ?_) (fun _ => Zj)
 refine Zf (fun g6 => ?_) (fun _ => ?_)
 ·
  subst g6
  refine Zf (fun g7 => ?_) (fun _ => Zj)
  refine Zf (fun g8 => ?_) (fun _ => Zj)
  have w9 := kY (a14 > (0 : Int)) <| kX (ZeU (ZL 2 (List.drop ((n3 * 2) + (0 * 2)) (Za RB L2))) [.i (L2.getD n3 RG.z).a0, .i (L2.getD n3 RG.z).a1]) true (Zlh (E := RB) (L := L2) (i := n3) (q := 0) (by omega) (show ((n3 * 2) + (0 * 2)) = n3 * 2 + 0 from by omega) (show 0 + 2 ≤ 2 from by decide) rfl rfl) <| kB 0 n4 <| kI (0 : Int) (Int.ofNat 0) Zi
  refine Zaa (fun z9 c9 => ?_)
  cases z9 with
  | r0 y9_0 =>
   have w10 := kX (dP (1 ≤ n4 ∧ n4 ≤ n4)) true (Zv ⟨ltA, ltA⟩) <| kR n4 <| kI (1 : Int) (Int.ofNat 1) <| kK (Zhk c9 [3, 7, 8] 14) w9
   refine Zf (fun g10 => ?_) (fun g10 => ?_)
   ·
    exact fxC (Zh (oq [11, 15]) [] [(0, 0)] [(4, (RB.cel (L2.getD n3 RG.z)))] [(1, (ZcE c9 [3, 7, 8] 14).t), (2, .sl 1 n4)]) (rg 0 11 []) (Value.tuple #[Value.agg #[vi (11 : Int), vi a12, vi (L2.getD n3 RG.z).a0, vi (L2.getD n3 RG.z).a1, vq, vq], vf]) (hT g10 w10) (bC (o := .cells (Zr Zd 1 [] L1 [Value.slice (some ⟨1, ((n3 * 2) + (1 * 2)), none⟩) (n4 - 1) (n4 - 1), vi a5, Value.bool b6, Value.bool b7, vi a8, vi a9, vi a10, vi a11, vp 2 0, vi a12, Value.func (.func 160) #[] #[]]) 141) ⟨rfl, ⟨[], (show ([vi (L1.getD 0 RK.z).a0, vi (L1.getD 0 RK.z).a1, vi (L1.getD 0 RK.z).a2, vi (L1.getD 0 RK.z).a3, vi (L1.getD 0 RK.z).a4, vi (L1.getD 0 RK.z).a5, vi (L1.getD 0 RK.z).a6, vi (L1.getD 0 RK.z).a7, vi (L1.getD 0 RK.z).a8, vi (L1.getD 0 RK.z).a9, vi (L1.getD 0 RK.z).a10, vi (L1.getD 0 RK.z).a11, vi (L1.getD 0 RK.z).a12, vi (L1.getD 0 RK.z).a13, vi (L1.getD 0 RK.z).a14, vi (L1.getD 0 RK.z).a15, Value.slice (some ⟨1, ((n3 * 2) + (1 * 2)), none⟩) (n4 - 1) (n4 - 1), vi a5, Value.bool b6, Value.bool b7, vi a8, vi a9, vi a10, vi a11, vp 2 0, vi a12, Value.func (.func 160) #[] #[]] : List Value) = _ from (Zg rfl (Zg rfl (Zg rfl (Zg rfl (Zg rfl (Zg rfl (Zg rfl (Zg rfl (Zg rfl (Zg rfl (Zg rfl (Zg rfl (Zg rfl (Zg rfl (Zg rfl (Zg rfl (Zg (Z3 eqA rfl rfl) (Zg rfl (Zg rfl (Zg rfl (Zg rfl (Zg rfl (Zg rfl (Zg rfl (Zg rfl (Zg rfl (Zg rfl rfl))))))))))))))))))))))))))).symm)⟩, by rfl⟩ <| bR <| bM (.cells (κj a14 L15 a16 a17 a18 a19 a20 a21 a22) 132) <| bS [vi a23, vs 7 0 y9_0.length y9_0.length, vs 8 0 L25.length L25.length, vn, vn, vn, vn, vn, vn, vn, vn, vn, vn, vn, vn, vn, vn, vn, vn, vn] <| bS (κL L26 L27) <| bS [vi a28, vi a29, vi a30] <| bM (κX a31 L32) <| bR <| bR <| bR <| bR <| bE)
   ·
    exact fxC (Zh (oq [11, 14]) [] [(0, 0)] [(4, (RB.cel (L2.getD n3 RG.z)))] [(1, (ZcE c9 [3, 7, 8] 14).t), (2, .sl 1 n4)]) (rg 0 11 []) (Value.tuple #[Value.agg #[vi (11 : Int), vi a12, vi (L2.getD n3 RG.z).a0, vi (L2.getD n3 RG.z).a1, vq, vq], vf]) (hF g10 w10) (bC (o := .cells (Zr Zd 1 [] L1 [Value.slice (some ⟨1, ((n3 * 2) + (1 * 2)), none⟩) (n4 - 1) (n4 - 1), vi a5, Value.bool b6, Value.bool b7, vi a8, vi a9, vi a10, vi a11, vp 2 0, vi a12, Value.func (.func 162) #[] #[]]) 141) ⟨rfl, ⟨[], (show ([vi (L1.getD 0 RK.z).a0, vi (L1.getD 0 RK.z).a1, vi (L1.getD 0 RK.z).a2, vi (L1.getD 0 RK.z).a3, vi (L1.getD 0 RK.z).a4, vi (L1.getD 0 RK.z).a5, vi (L1.getD 0 RK.z).a6, vi (L1.getD 0 RK.z).a7, vi (L1.getD 0 RK.z).a8, vi (L1.getD 0 RK.z).a9, vi (L1.getD 0 RK.z).a10, vi (L1.getD 0 RK.z).a11, vi (L1.getD 0 RK.z).a12, vi (L1.getD 0 RK.z).a13, vi (L1.getD 0 RK.z).a14, vi (L1.getD 0 RK.z).a15, Value.slice (some ⟨1, ((n3 * 2) + (1 * 2)), none⟩) (n4 - 1) (n4 - 1), vi a5, Value.bool b6, Value.bool b7, vi a8, vi a9, vi a10, vi a11, vp 2 0, vi a12, Value.func (.func 162) #[] #[]] : List Value) = _ from (Zg rfl (Zg rfl (Zg rfl (Zg rfl (Zg rfl (Zg rfl (Zg rfl (Zg rfl (Zg rfl (Zg rfl (Zg rfl (Zg rfl (Zg rfl (Zg rfl (Zg rfl (Zg rfl (Zg (Z3 eqA rfl rfl) (Zg rfl (Zg rfl (Zg rfl (Zg rfl (Zg rfl (Zg rfl (Zg rfl (Zg rfl (Zg rfl (Zg rfl rfl))))))))))))))))))))))))))).symm)⟩, by rfl⟩ <| bR <| bM (.cells (κj a14 L15 a16 a17 a18 a19 a20 a21 a22) 132) <| bS [vi a23, vs 7 0 y9_0.length y9_0.length, vs 8 0 L25.length L25.length, vn, vn, vn, vn, vn, vn, vn, vn, vn, vn, vn, vn, vn, vn, vn, vn, vn] <| bS (κL L26 L27) <| bS [vi a28, vi a29, vi a30] <| bM (κX a31 L32) <| bR <| bR <| bR <| bR <| bE)
 ·
  refine Zf (fun g6 => ?_) (fun _ => ?_)
  ·
   subst g6
   refine Zaa (fun z7 c7 => ?_)
   cases z7 with
   | r0 y7_0 y7_1 y7_2 =>
    have w8 := kK (Zgq c7 [4, 9, 10] 13) <| kY (a14 > (0 : Int)) Zi
    refine Zf (fun g8 => ?_) (fun g8 => ?_)
    ·
     exact fxC (Zh (oq [11, 15]) [] [] [] [(0, (ZcB c7 [4, 9, 10] 13).t)]) (rg 0 11 []) (Value.tuple #[Value.agg #[vi (14 : Int), vi a12, vq, vq, vq, vq], vf]) (hD g8 w8) (bM (.cells (Zr Zd 1 [] ([(⟨(L1.getD 0 RK.z).a0, (L1.getD 0 RK.z).a1, (L1.getD 0 RK.z).a2, (L1.getD 0 RK.z).a3, (L1.getD 0 RK.z).a4, (L1.getD 0 RK.z).a5, (L1.getD 0 RK.z).a6, (L1.getD 0 RK.z).a7, (L1.getD 0 RK.z).a8, y7_0, y7_1, y7_2, (L1.getD 0 RK.z).a12, (L1.getD 0 RK.z).a13, (L1.getD 0 RK.z).a14, (L1.getD 0 RK.z).a15⟩ : RK)] : List RK) [vs 1 (n3 * 2) n4 n4, vi a5, Value.bool b6, Value.bool b7, vi a8, vi a9, vi a10, vi a11, vp 2 0, vi a12, Value.func (.func 160) #[] #[]]) 141) <| bR <| bM (.cells (κj a14 L15 a16 a17 a18 a19 a20 a21 a22) 132) <| bS (κn a23 L24 L25) <| bS (κL L26 L27) <| bS [vi a28, vi a29, vi a30] <| bM (κX a31 L32) <| bR <| bR <| bR <| bR <| bE)
    ·
     refine Zf (fun g9 => ?_) (fun g9 => ?_)
     ·
      exact fxC (Zh (oq [11, 14, 17]) [] [] [] [(0, (ZcB c7 [4, 9, 10] 13).t)]) (rg 0 11 []) (Value.tuple #[Value.agg #[vi (3 : Int), vi a12, vq, vq, vq, vq], vf]) (hT g9 <| kE y7_0 (0 : Int) w8) (bM (.cells (Zr Zd 1 [] ([(⟨(L1.getD 0 RK.z).a0, (L1.getD 0 RK.z).a1, (L1.getD 0 RK.z).a2, (L1.getD 0 RK.z).a3, (L1.getD 0 RK.z).a4, (L1.getD 0 RK.z).a5, (L1.getD 0 RK.z).a6, (L1.getD 0 RK.z).a7, (L1.getD 0 RK.z).a8, y7_0, y7_1, y7_2, (L1.getD 0 RK.z).a12, (L1.getD 0 RK.z).a13, (L1.getD 0 RK.z).a14, (L1.getD 0 RK.z).a15⟩ : RK)] : List RK) [vs 1 (n3 * 2) n4 n4, vi a5, Value.bool b6, Value.bool b7, vi a8, vi a9, vi a10, vi a11, vp 2 0, vi a12, Value.func (.func 182) #[] #[]]) 141) <| bR <| bM (.cells (κj a14 L15 a16 a17 a18 a19 a20 a21 a22) 132) <| bS (κn a23 L24 L25) <| bS (κL L26 L27) <| bS [vi a28, vi a29, vi a30] <| bM (κX a31 L32) <| bR <| bR <| bR <| bR <| bE)
     ·
      exact fxC (Zh (oq [11, 14, 16]) [] [] [] [(0, (ZcB c7 [4, 9, 10] 13).t)]) (rg 0 11 []) (Value.tuple #[Value.agg #[vi (3 : Int), vi a12, vq, vq, vq, vq], vf]) (hF g9 <| kE y7_0 (0 : Int) w8) (bM (.cells (Zr Zd 1 [] ([(⟨(L1.getD 0 RK.z).a0, (L1.getD 0 RK.z).a1, (L1.getD 0 RK.z).a2, (L1.getD 0 RK.z).a3, (L1.getD 0 RK.z).a4, (L1.getD 0 RK.z).a5, (L1.getD 0 RK.z).a6, (L1.getD 0 RK.z).a7, (L1.getD 0 RK.z).a8, y7_0, y7_1, y7_2, (L1.getD 0 RK.z).a12, (L1.getD 0 RK.z).a13, (L1.getD 0 RK.z).a14, (L1.getD 0 RK.z).a15⟩ : RK)] : List RK) [vs 1 (n3 * 2) n4 n4, vi a5, Value.bool b6, Value.bool b7, vi a8, vi a9, vi a10, vi a11, vp 2 0, vi a12, Value.func (.func 181) #[] #[]]) 141) <| bR <| bM (.cells (κj a14 L15 a16 a17 a18 a19 a20 a21 a22) 132) <| bS (κn a23 L24 L25) <| bS (κL L26 L27) <| bS [vi a28, vi a29, vi a30] <| bM (κX a31 L32) <| bR <| bR <| bR <| bR <| bE)
  ·
   refine Zf (fun g6 => ?_) (fun _ => ?_)
   ·
    subst g6
    refine Zaa (fun z7 c7 => ?_)
    cases z7 with
    | r0 y7_0 y7_1 y7_2 =>
     refine Zf (fun g8 => ?_) (fun g8 => ?_)
     ·
      subst g8
      exact fxC (Zh (oq [11]) [] [] [] [(1, (Zfl c7 [4, 9, 10] 13).t)]) (rg 0 11 []) (Value.tuple #[Value.agg #[vi (6 : Int), vi a12, vq, vq, vq, vq], vf]) (kK (Zhm c7 [4, 9, 10] 13) <| kY (a14 > (0 : Int)) Zi) (bM (.cells (Zr Zd 1 [] L1 [vs 1 (n3 * 2) n4 n4, vi a5, Value.bool b6, Value.bool b7, vi a8, vi a9, vi a10, vi a11, vp 2 0, vi a12, Value.func (.func 191) #[] #[]]) 141) <| bR <| bM (.cells (κj a14 L15 a16 a17 a18 a19 a20 a21 a22) 132) <| bS (κn a23 L24 L25) <| bS [vs 9 0 y7_0.length y7_0.length, vs 10 0 y7_1.length y7_1.length] <| bS [vi a28, vi a29, vi a30] <| bM (κX a31 L32) <| bR <| bR <| bR <| bR <| bE)
     ·
      obtain rfl : y7_2 = false := by simpa using g8
      exact fxC (Zh (oq [11]) [] [] [] [(1, (Zfl c7 [4, 9, 10] 13).t)]) (rg 0 11 []) (Value.tuple #[Value.agg #[vi (6 : Int), vi a12, vq, vq, vq, vq], vf]) (kK (Zhm c7 [4, 9, 10] 13) <| kY (a14 > (0 : Int)) Zi) (bM (.cells (Zr Zd 1 [] L1 [vs 1 (n3 * 2) n4 n4, vi a5, Value.bool b6, Value.bool b7, vi a8, vi a9, vi a10, vi a11, vp 2 0, vi a12, Value.func (.func 160) #[] #[]]) 141) <| bR <| bM (.cells (κj a14 L15 a16 a17 a18 a19 a20 a21 a22) 132) <| bS (κn a23 L24 L25) <| bS [vs 9 0 y7_0.length y7_0.length, vs 10 0 y7_1.length y7_1.length] <| bS [vi a28, vi a29, vi a30] <| bM (κX a31 L32) <| bR <| bR <| bR <| bR <| bE)
   ·
    refine Zf (fun g6 => ?_) (fun _ => ?_)
    ·
     subst g6
     refine Zaa (fun z7 c7 => ?_)
     cases z7 with
     | r0 =>
      have w8 := kK (Zbf c7 [3, 7, 8] 14) <| kY (a14 > (0 : Int)) Zi
      refine Zf (fun g8 => ?_) (fun g8 => ?_)
      ·
       exact fxC (Zh (oq [11, 15]) [] [] [] [(0, (Zz c7 [3, 7, 8] 14).t)]) (rg 0 11 []) (Value.tuple #[Value.agg #[vi (5 : Int), vi a12, vi (L1.getD 0 RK.z).a1, vi (L1.getD 0 RK.z).a2, vi (L1.getD 0 RK.z).a3, vq], vf]) (hT g8 w8) (bM (.cells (Zr Zd 1 [] ([(⟨(L1.getD 0 RK.z).a0, (L1.getD 0 RK.z).a1, (L1.getD 0 RK.z).a2, (L1.getD 0 RK.z).a3, (L1.getD 0 RK.z).a4, (L1.getD 0 RK.z).a5, (L1.getD 0 RK.z).a6, (L1.getD 0 RK.z).a7, (L1.getD 0 RK.z).a8, (L1.getD 0 RK.z).a9, (L1.getD 0 RK.z).a10, (L1.getD 0 RK.z).a11, (0 : Int), (0 : Int), (21 : Int), (L1.getD 0 RK.z).a15⟩ : RK)] : List RK) [vs 1 (n3 * 2) n4 n4, vi (L1.getD 0 RK.z).a10, vf, vT, vi a0, vq, vq, vi (21 : Int), vp 2 0, vi a12, Value.func (.func 196) #[] #[]]) 141) <| bR <| bM (.cells (κj a14 L15 a16 a17 a18 a19 a20 a21 a22) 132) <| bS (κn a23 L24 L25) <| bS (κL L26 L27) <| bS [vi a28, vi a29, vi a30] <| bM (κX a31 L32) <| bR <| bR <| bR <| bR <| bE)
      ·
       refine Zaa (fun z9 c9 => ?_)
       cases z9 with
       | r0 =>
        have w10 := kY (a28 > (0 : Int)) <| kY (a28 > (0 : Int)) <| kY (a14 > (0 : Int)) <| kK (ZbP c9 [3, 7, 8] 15) <| kY (a14 > (0 : Int)) <| hF g8 w8
        refine Zf (fun g10 => ?_) (fun g10 => ?_)
        ·
         exact fxC (Zh (oq [11, 14, 19, 27, 33, 39, 43]) [] [] [] [(0, (Zz c7 [3, 7, 8] 14).t), (2, (Z0 c9 [3, 7, 8] 15).t)]) (rg 0 11 []) (Value.tuple #[Value.agg #[vi (5 : Int), vi a12, vi (L1.getD 0 RK.z).a1, vi (L1.getD 0 RK.z).a2, vi (L1.getD 0 RK.z).a3, vq], vf]) (hT g10 w10) (bM (.cells (Zr Zd 1 [] ([(⟨(L1.getD 0 RK.z).a0, (L1.getD 0 RK.z).a1, (L1.getD 0 RK.z).a2, (L1.getD 0 RK.z).a3, (L1.getD 0 RK.z).a4, (L1.getD 0 RK.z).a5, (L1.getD 0 RK.z).a6, (L1.getD 0 RK.z).a7, (L1.getD 0 RK.z).a8, (L1.getD 0 RK.z).a9, (L1.getD 0 RK.z).a10, (L1.getD 0 RK.z).a11, (L25.getD ((i64.wrap (((L1.getD 0 RK.z).a2 % (1048576 : Int)) + (L1.getD 0 RK.z).a3))).toNat RG.z).a0, (L25.getD ((i64.wrap (((L1.getD 0 RK.z).a2 % (1048576 : Int)) + (L1.getD 0 RK.z).a3))).toNat RG.z).a1, (40 : Int), (L1.getD 0 RK.z).a15⟩ : RK)] : List RK) [vs 1 (n3 * 2) n4 n4, vi (L1.getD 0 RK.z).a10, vf, vT, vi a0, vq, vq, vi (40 : Int), vp 2 0, vi a12, Value.func (.func 196) #[] #[]]) 141) <| bR <| bM (.cells (κj a14 L15 a16 a17 a18 a19 a20 a21 a22) 132) <| bS (κn a23 L24 L25) <| bS (κL L26 L27) <| bS [vi a28, vi a29, vi a30] <| bM (κX a31 L32) <| bR <| bR <| bR <| bR <| bE)
        ·
         refine Zaa (fun z11 c11 => ?_)
         cases z11 with
         | r0 =>
          exact fxC (Zh (oq [11, 14, 19, 27, 33, 39, 42, 49]) [] [] [] [(0, (Zz c7 [3, 7, 8] 14).t), (2, (Z0 c9 [3, 7, 8] 15).t), (7, (Zfh c11 [3, 7, 8] 15).t)]) (rg 0 11 []) (Value.tuple #[Value.agg #[vi (5 : Int), vi a12, vi (L1.getD 0 RK.z).a1, vi (L1.getD 0 RK.z).a2, vi (L1.getD 0 RK.z).a3, vq], vf]) (kK (Zhg c11 [3, 7, 8] 15) <| kY (a14 > (0 : Int)) <| hF g10 w10) (bM (.cells (Zr Zd 1 [] ([(⟨(L1.getD 0 RK.z).a0, (L1.getD 0 RK.z).a1, (L1.getD 0 RK.z).a2, (L1.getD 0 RK.z).a3, (L1.getD 0 RK.z).a4, (L1.getD 0 RK.z).a5, (L1.getD 0 RK.z).a6, (L1.getD 0 RK.z).a7, (L1.getD 0 RK.z).a8, (L1.getD 0 RK.z).a9, (L1.getD 0 RK.z).a10, (L1.getD 0 RK.z).a11, (L25.getD ((i64.wrap (((L1.getD 0 RK.z).a2 % (1048576 : Int)) + (L1.getD 0 RK.z).a3))).toNat RG.z).a0, (L25.getD ((i64.wrap (((L1.getD 0 RK.z).a2 % (1048576 : Int)) + (L1.getD 0 RK.z).a3))).toNat RG.z).a1, (0 : Int), (L1.getD 0 RK.z).a15⟩ : RK)] : List RK) [vs 1 (n3 * 2) n4 n4, vi a5, vT, Value.bool b7, vi a8, vi a9, vi a10, vi a11, vp 2 0, vi a12, Value.func (.func 195) #[] #[]]) 141) <| bR <| bM (.cells (κj a14 L15 a16 a17 a18 a19 a20 a21 a22) 132) <| bU (κn a23 L24 L25) 2 (show (vs 8 0 L25.length L25.length : Value) = vs 8 0 (L25.set ((((L1.getD 0 RK.z).a2 % (1048576 : Int)) + (L1.getD 0 RK.z).a3)).toNat (⟨(L1.getD 0 RK.z).a4, (L1.getD 0 RK.z).a5⟩ : RG)).length (L25.set ((((L1.getD 0 RK.z).a2 % (1048576 : Int)) + (L1.getD 0 RK.z).a3)).toNat (⟨(L1.getD 0 RK.z).a4, (L1.getD 0 RK.z).a5⟩ : RG)).length from Z3 rfl eqA eqA) <| bS (κL L26 L27) <| bS [vi a28, vi a29, vi a30] <| bM (κX a31 L32) <| bR <| bR <| bR <| bR <| bE)
    ·
     refine Zf (fun g6 => ?_) (fun _ => ?_)
     ·
      subst g6
      exact fxC (Zh (oq [11, 17]) [] [] [] []) (rg 0 11 []) (Value.tuple #[Value.agg #[vi (8 : Int), vi a12, vq, vq, vq, vq], vf]) (kY (a28 > (0 : Int)) <| kY (a14 > (0 : Int)) Zi) (bM (.cells (Zr Zd 1 [] L1 [vs 1 (n3 * 2) n4 n4, vi (i64.wrap (a29 + (1 : Int))), Value.bool b6, vT, vi a0, vq, vq, vq, vp 2 0, vi a12, Value.func (.func 196) #[] #[]]) 141) <| bR <| bM (.cells (κj a14 L15 a16 a17 a18 a19 a20 a21 a22) 132) <| bS (κn a23 L24 L25) <| bS (κL L26 L27) <| bS [vi a28, vi (i64.wrap (a29 + (1 : Int))), vi a30] <| bM (κX a31 L32) <| bR <| bR <| bR <| bR <| bE)
     ·
      refine Zf (fun g6 => ?_) (fun _ => Zj)
      ·
       subst g6
       refine Zaa (fun z7 c7 => ?_)
       cases z7 with
       | r0 y7_0 y7_1 =>
        exact fxC (Zh (oq [11]) [] [] [] [(0, (Zij c7 [4, 9, 10] 13).t)]) (rg 0 11 []) (Value.tuple #[Value.agg #[vi (7 : Int), vi a12, vq, vq, vq, vq], vT]) (kK (Zm8 c7 [4, 9, 10] 13) <| kY (a14 > (0 : Int)) Zi) (bM (.cells (Zr Zd 1 [] L1 [vs 1 (n3 * 2) n4 n4, vi a5, Value.bool b6, Value.bool b7, vi a8, vi a9, vi a10, vi a11, vp 2 0, vi a12, Value.nilFunc]) 141) <| bR <| bM (.cells (κj a14 L15 a16 a17 a18 a19 a20 a21 a22) 132) <| bS (κn a23 L24 L25) <| bS [vs 9 0 y7_0.length y7_0.length, vs 10 0 L27.length L27.length] <| bS [vi a28, vi a29, vi a30] <| bM (κX a31 L32) <| bR <| bR <| bR <| bR <| bE)

theorem Zik (a0 : Int) (L1 : List RK) (L2 : List RG) (n3 n4 : Nat) (a5 : Int) (b6 b7 : Bool) (a8 a9 a10 a11 a12 a13 a14 : Int) (L15 : List RF) (a16 a17 a18 a19 a20 a21 a22 a23 : Int) (L24 : List RI) (L25 : List RG) (L26 L27 : List Int) (a28 a29 a30 a31 : Int) (L32 : List Int) (N : Nat) (r : plain_Access_Step_3R) (h : Z2 a0 L1 L2 n3 n4 a5 b6 b7 a8 a9 a10 a11 a12 a13 a14 L15 a16 a17 a18 a19 a20 a21 a22 a23 L24 L25 L26 L27 a28 a29 a30 a31 L32 N = some r) : LSpec Tryz.prog 20 #[vp 0 0, vi a0] [.cells (Zr Zd 1 [] L1 [vs 1 (n3 * 2) n4 n4, vi a5, Value.bool b6, Value.bool b7, vi a8, vi a9, vi a10, vi a11, vp 2 0, vi a12, (fnV a13)]) 141, .cells (Za RB L2) 42, .cells (κj a14 L15 a16 a17 a18 a19 a20 a21 a22) 132, .cells (κn a23 L24 L25) 154, .cells (κL L26 L27) 191, .cells [vi a28, vi a29, vi a30] 208, .cells (Zr eI 64 [vi a31] L32 []) 211, .cells (Za RC L24) 57, .cells (Za RB L25) 42, .cells (Za eI L26) 188, .cells (Za eI L27) 188] (Zgr a0 L1 L2 n3 n4 a5 b6 b7 a8 a9 a10 a11 a12 a13 a14 L15 a16 a17 a18 a19 a20 a21 a22 a23 L24 L25 L26 L27 a28 a29 a30 a31 L32 r) (ZfS a0 L1 L2 n3 n4 a5 b6 b7 a8 a9 a10 a11 a12 a13 a14 L15 a16 a17 a18 a19 a20 a21 a22 a23 L24 L25 L26 L27 a28 a29 a30 a31 L32 r) :=
 Zbh Zau Tryz.func20 (by kernel_rfl) (by kernel_rfl) (fun r => by cases r <;> exact ZG _ rfl) (Zjb a0 L1 L2 n3 n4 a5 b6 b7 a8 a9 a10 a11 a12 a13 a14 L15 a16 a17 a18 a19 a20 a21 a22 a23 L24 L25 L26 L27 a28 a29 a30 a31 L32 N) h

noncomputable def ZaC {a0 : Int} {L1 : List RK} {L2 : List RG} {n3 : Nat} {n4 : Nat} {a5 : Int} {b6 : Bool} {b7 : Bool} {a8 : Int} {a9 : Int} {a10 : Int} {a11 : Int} {a12 : Int} {a13 : Int} {a14 : Int} {L15 : List RF} {a16 : Int} {a17 : Int} {a18 : Int} {a19 : Int} {a20 : Int} {a21 : Int} {a22 : Int} {a23 : Int} {L24 : List RI} {L25 : List RG} {L26 : List Int} {L27 : List Int} {a28 : Int} {a29 : Int} {a30 : Int} {a31 : Int} {L32 : List Int} {w1 : List RI} {w2 : List RG} {w3 : List Int} {w4 : List Int} {w5 : Int} {w7 : Int} {w8 : Int} {w9 : Int} {w11 : Bool} {w12 : List RK} {w13 : Nat} {w14 : Nat} {w15 : Int} {w16 : Bool} {w17 : Bool} {w18 : Int} {w19 : Int} {w20 : Int} {w21 : Int} {w23 : Int} {w35 : Int} {N : Nat} (h : Z2 a0 L1 L2 n3 n4 a5 b6 b7 a8 a9 a10 a11 a12 a13 a14 L15 a16 a17 a18 a19 a20 a21 a22 a23 L24 L25 L26 L27 a28 a29 a30 a31 L32 N = some (.r0 w1 w2 w3 w4 w5 w7 w8 w9 w11 w12 w13 w14 w15 w16 w17 w18 w19 w20 w21 w23 w35)) (ks : List Nat) (n : Nat) : ToldS := ⟨#[vp (nth ks 0) 0, vi a0], [((nth ks 0), .cells (Zr Zd 1 [] L1 [vs (nth ks 1) (n3 * 2) n4 n4, vi a5, Value.bool b6, Value.bool b7, vi a8, vi a9, vi a10, vi a11, vp (nth ks 2) 0, vi a12, (fnV a13)]) 141), ((nth ks 1), .cells (Za RB L2) 42), ((nth ks 2), .cells (Zr Zc9 64 [vi a14] L15 [vi a16, vi a17, vi a18, vi a19, vi a20, vi a21, vi a22, vp (nth ks 3) 0, vp (nth ks 4) 0, vp (nth ks 5) 0, vp (nth ks 6) 0]) 132), ((nth ks 3), .cells [vi a23, vs (nth ks 7) 0 L24.length L24.length, vs (nth ks 8) 0 L25.length L25.length, vn, vn, vn, vn, vn, vn, vn, vn, vn, vn, vn, vn, vn, vn, vn, vn, vn] 154), ((nth ks 4), .cells [vs (nth ks 9) 0 L26.length L26.length, vs (nth ks 10) 0 L27.length L27.length] 191), ((nth ks 5), .cells [vi a28, vi a29, vi a30] 208), ((nth ks 6), .cells (Zr eI 64 [vi a31] L32 []) 211), ((nth ks 7), .cells (Za RC L24) 57), ((nth ks 8), .cells (Za RB L25) 42), ((nth ks 9), .cells (Za eI L26) 188), ((nth ks 10), .cells (Za eI L27) 188)], Value.tuple #[Value.agg #[vi w5, vi a12, vi w7, vi w8, vi w9, vq], Value.bool w11], [((nth ks 0), some (.cells (Zr Zd 1 [] w12 [vs (nth ks 1) (w13 * 2) w14 w14, vi w15, Value.bool w16, Value.bool w17, vi w18, vi w19, vi w20, vi w21, vp (nth ks 2) 0, vi a12, (fnV w23)]) 141)), ((nth ks 3), some (.cells [vi a23, vs (nth ks 7) 0 w1.length w1.length, vs (nth ks 8) 0 w2.length w2.length, vn, vn, vn, vn, vn, vn, vn, vn, vn, vn, vn, vn, vn, vn, vn, vn, vn] 154)), ((nth ks 4), some (.cells [vs (nth ks 9) 0 w3.length w3.length, vs (nth ks 10) 0 w4.length w4.length] 191)), ((nth ks 5), some (.cells [vi a28, vi w35, vi a30] 208)), ((nth ks 7), some (.cells (Za RC w1) 57)), ((nth ks 8), some (.cells (Za RB w2) 42)), ((nth ks 9), some (.cells (Za eI w3) 188)), ((nth ks 10), some (.cells (Za eI w4) 188))], 0⟩

theorem ZdQ {a0 : Int} {L1 : List RK} {L2 : List RG} {n3 : Nat} {n4 : Nat} {a5 : Int} {b6 : Bool} {b7 : Bool} {a8 : Int} {a9 : Int} {a10 : Int} {a11 : Int} {a12 : Int} {a13 : Int} {a14 : Int} {L15 : List RF} {a16 : Int} {a17 : Int} {a18 : Int} {a19 : Int} {a20 : Int} {a21 : Int} {a22 : Int} {a23 : Int} {L24 : List RI} {L25 : List RG} {L26 : List Int} {L27 : List Int} {a28 : Int} {a29 : Int} {a30 : Int} {a31 : Int} {L32 : List Int} {w1 : List RI} {w2 : List RG} {w3 : List Int} {w4 : List Int} {w5 : Int} {w7 : Int} {w8 : Int} {w9 : Int} {w11 : Bool} {w12 : List RK} {w13 : Nat} {w14 : Nat} {w15 : Int} {w16 : Bool} {w17 : Bool} {w18 : Int} {w19 : Int} {w20 : Int} {w21 : Int} {w23 : Int} {w35 : Int} {N : Nat} (h : Z2 a0 L1 L2 n3 n4 a5 b6 b7 a8 a9 a10 a11 a12 a13 a14 L15 a16 a17 a18 a19 a20 a21 a22 a23 L24 L25 L26 L27 a28 a29 a30 a31 L32 N = some (.r0 w1 w2 w3 w4 w5 w7 w8 w9 w11 w12 w13 w14 w15 w16 w17 w18 w19 w20 w21 w23 w35)) (ks : List Nat) (n : Nat) (hk : ks.length = 11 := by rfl) (hnd : ks.Nodup := by decide +kernel) (hlt : ∀ k ∈ ks, k < n := by decide +kernel) : (ZaC (N := N)  h ks n).P Tryz.prog 20 n :=
 match ks, hk, hnd, hlt with
 | [k0, k1, k2, k3, k4, k5, k6, k7, k8, k9, k10], _, hnd, hlt => Zjz (show LSpec Tryz.prog 20 #[vp 0 0, vi a0] [.cells (Zr Zd 1 [] L1 [vs 1 (n3 * 2) n4 n4, vi a5, Value.bool b6, Value.bool b7, vi a8, vi a9, vi a10, vi a11, vp 2 0, vi a12, (fnV a13)]) 141, .cells (Za RB L2) 42, .cells (κj a14 L15 a16 a17 a18 a19 a20 a21 a22) 132, .cells (κn a23 L24 L25) 154, .cells (κL L26 L27) 191, .cells [vi a28, vi a29, vi a30] 208, .cells (Zr eI 64 [vi a31] L32 []) 211, .cells (Za RC L24) 57, .cells (Za RB L25) 42, .cells (Za eI L26) 188, .cells (Za eI L27) 188] (Value.tuple #[Value.agg #[vi w5, vi a12, vi w7, vi w8, vi w9, vq], Value.bool w11]) [some (.cells (Zr Zd 1 [] w12 [vs 1 (w13 * 2) w14 w14, vi w15, Value.bool w16, Value.bool w17, vi w18, vi w19, vi w20, vi w21, vp 2 0, vi a12, (fnV w23)]) 141), some (κK L2), some (.cells (κj a14 L15 a16 a17 a18 a19 a20 a21 a22) 132), some (.cells [vi a23, vs 7 0 w1.length w1.length, vs 8 0 w2.length w2.length, vn, vn, vn, vn, vn, vn, vn, vn, vn, vn, vn, vn, vn, vn, vn, vn, vn] 154), some (.cells [vs 9 0 w3.length w3.length, vs 10 0 w4.length w4.length] 191), some (.cells [vi a28, vi w35, vi a30] 208), some (κX a31 L32), some (.cells (Za RC w1) 57), some (.cells (Za RB w2) 42), some (.cells (Za eI w3) 188), some (.cells (Za eI w4) 188)] from Zik a0 L1 L2 n3 n4 a5 b6 b7 a8 a9 a10 a11 a12 a13 a14 L15 a16 a17 a18 a19 a20 a21 a22 a23 L24 L25 L26 L27 a28 a29 a30 a31 L32 N _ h) _ n (0 :: (3 :: (4 :: (5 :: (rg 7 4 []))))) hnd hlt

end Ev
end Go.Proofs.YtiijipocjellpaaGreat
